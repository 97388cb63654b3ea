/-
  Words: a text parted at a byte, and a number read, as functions of lists of bytes. Nothing of the program is named here.
-/
import Derived.Test.YtieiakljholkaabDoorStrs
set_option linter.unusedSimpArgs false
namespace Go.Proofs.YtieiakljholkaabDoor
open Go.RowKit

def mkS (l : List UInt8) : ByteArray := ⟨l.toArray⟩
def spl (b : UInt8) : List UInt8 → List UInt8 → List (List UInt8)
  | cur, [] => [cur]
  | cur, c :: r => if c = b then cur :: spl b [] r else spl b (cur ++ [c]) r
def splitL (s : ByteArray) (b : UInt8) : List ByteArray := (spl b [] s.data.toList).map mkS

theorem spl_end {b : UInt8} : ∀ (a cur : List UInt8), b ∉ a → spl b cur a = [cur ++ a]
  | [], cur, _ => by simp [spl]
  | c :: r, cur, h => by
    have h1 : c ≠ b := fun e => h (by simp [e])
    have h2 : b ∉ r := fun e => h (by simp [e])
    simp [spl, h1, spl_end r (cur ++ [c]) h2]
theorem spl_cut {b : UInt8} : ∀ (a cur r : List UInt8), b ∉ a → spl b cur (a ++ b :: r) = (cur ++ a) :: spl b [] r
  | [], cur, r, _ => by simp [spl]
  | c :: a, cur, r, h => by
    have h1 : c ≠ b := fun e => h (by simp [e])
    have h2 : b ∉ a := fun e => h (by simp [e])
    simp [spl, h1, spl_cut a (cur ++ [c]) r h2]
theorem length_spl (b : UInt8) : ∀ (l cur : List UInt8), (spl b cur l).length ≤ l.length + 1
  | [], cur => by simp [spl]
  | c :: r, cur => by
    unfold spl
    split
    · have := length_spl b r []; simp; omega
    · have := length_spl b r (cur ++ [c]); simp; omega
theorem spl_sizes (b : UInt8) : ∀ (l cur : List UInt8), ∀ p ∈ spl b cur l, p.length ≤ cur.length + l.length
  | [], cur, p, hp => by simp [spl] at hp; subst hp; simp
  | c :: r, cur, p, hp => by
    unfold spl at hp
    split at hp
    · rcases List.mem_cons.1 hp with rfl | hp
      · simp
      · have := spl_sizes b r [] p hp; simp at *; omega
    · have := spl_sizes b r (cur ++ [c]) p hp; simp at *; omega

/-- the piece of a text from f to k -/
def cutFK (s : ByteArray) (f k : Nat) : List UInt8 := (s.data.toList.drop f).take (k - f)
theorem cutFK_extract (s : ByteArray) (f k : Nat) : mkS (cutFK s f k) = s.extract f k := by
  apply ByteArray.ext
  simp [mkS, cutFK]
  apply Array.ext'
  simp
theorem drop_at (s : ByteArray) (k : Nat) (h : k < s.size) : s.data.toList.drop k = s[k] :: s.data.toList.drop (k + 1) := by
  rw [List.drop_eq_getElem_cons (by rw [Array.length_toList]; exact h)]
  rfl
theorem cutFK_succ (s : ByteArray) (f k : Nat) (hf : f ≤ k) (h : k < s.size) : cutFK s f (k + 1) = cutFK s f k ++ [s[k]] := by
  unfold cutFK
  have e : k + 1 - f = (k - f) + 1 := by omega
  rw [e, List.take_add_one]
  congr 1
  rw [List.getElem?_drop]
  have : f + (k - f) = k := by omega
  rw [this]
  have hd : k < s.data.size := h
  simp [Array.getElem?_eq_getElem hd]
  rfl
theorem cutFK_same (s : ByteArray) (k : Nat) : cutFK s k k = [] := by simp [cutFK]

def dgB (c : UInt8) : Bool := decide (48 ≤ c.toNat ∧ c.toNat ≤ 57)
def readGo : List UInt8 → Nat → Int
  | [], n => n
  | c :: r, n => if dgB c then readGo r (10 * n + (c.toNat - 48)) else -1
def readZ (s : ByteArray) : Int := if decide (1 ≤ s.size ∧ s.size ≤ 6) && !(decide (s.data[0]? = some 48) && decide (1 < s.size)) then readGo s.data.toList 0 else -1

end Go.Proofs.YtieiakljholkaabDoor
