/-
  What the library's strconv.Atoi and strings.Cut answer: at any text that is not too long, and at digits. Conditions: the library's own variables hold something of their types.
-/
import Derived.Test.YtcocdidkkcjbgaaDoorNumT
import Derived.Test.YtcocdidkkcjbgaaDoorAtoiL
import Derived.ProofKit
import Derived.Lib.SmallJoins
import Derived.HandedShaped
namespace Go.Proofs.YtcocdidkkcjbgaaDoor
open Go.ChangeShapes Go.WideShapes Go.ChangeAt Go.RowKit Go.Joins
set_option linter.unusedVariables false

/-- the library's variables: the greatest length, the two errors -/
def GA (w : World) : Prop :=
  (∃ m, w.cell? ⟨2, 0, none⟩ = some (.int .i64 m)) ∧
  (∃ ev, w.cell? ⟨3, 0, none⟩ = some ev ∧ (ev = .nilIface ∨ ∃ te pe, ev = .iface te pe)) ∧
  (∃ ev, w.cell? ⟨4, 0, none⟩ = some ev ∧ (ev = .nilIface ∨ ∃ te pe, ev = .iface te pe))

theorem lt_of_cell {w : World} {g o : Nat} {v : Value} (h : w.cell? ⟨g, o, none⟩ = some v) : g < w.heap.size := by
  rcases Nat.lt_or_ge g w.heap.size with q | q
  · exact q
  · simp [World.cell?, Array.getElem?_eq_none q] at h

theorem GA.later {w w' : World} {B : Nat} (h : GA w) (hb : Below B w w') (hB : w.heap.size ≤ B) : GA w' := by
  obtain ⟨⟨m, hm⟩, ⟨e1, h1, k1⟩, ⟨e2, h2, k2⟩⟩ := h
  have c : ∀ {g : Nat} {v : Value}, w.cell? ⟨g, 0, none⟩ = some v → w'.cell? ⟨g, 0, none⟩ = some v := fun {g v} q => (hb.cell (p := ⟨g, 0, none⟩) (Nat.lt_of_lt_of_le (lt_of_cell q) hB)).trans q
  exact ⟨⟨m, c hm⟩, ⟨e1, c h1, k1⟩, ⟨e2, c h2, k2⟩⟩

def AtoiSaid (s : ByteArray) (w w' : World) (e : Ending) : Prop := ∃ (v : Int) (er : Value), e = .returned (.tuple #[.int .i64 v, er]) ∧ Hid (∀ n : Nat, n < 100 → s = decS n → v = n) ∧ Below w.heap.size w w'

theorem atoi_any (s : ByteArray) (hs : s.size ≤ 1048576) (w : World) (hg : GA w) :
    Calls Tryd.prog 24 #[.string s] w fun e w' => AtoiSaid s w w' e := by
  obtain ⟨⟨m, hm⟩, ⟨e1, h1, k1⟩, ⟨e2, h2, k2⟩⟩ := hg
  have no : ∀ {x : Lib.NumEnd Int} {v : Int}, Lib.atoiAll s.data.toList = x → (∀ n : Nat, x = .ok (n : Int) → v = n) → Hid (∀ n : Nat, n < 100 → s = decS n → v = n) := fun {x v} hq hx n hn e => hx n (hq.symm.trans (e ▸ atoi_decS hn))
  rcases hq : Lib.atoiAll s.data.toList with v | _ | _
  · refine (Tryd.strconv_Atoi_ok s (by omega) v hq w).mono fun e w' ⟨he, hw⟩ => ⟨v, _, he, no hq (fun n h => by injection h), ?_⟩
    rcases hw with rfl | ⟨t, rfl⟩
    · exact Below.refl _ _
    · exact below_bytesWorld _ _ _ _ (Nat.le_refl _)
  · refine (Tryd.strconv_Atoi_syntax s (by omega) hq e1 w h1 k1).mono fun e w' ⟨N, he, _, _, hb⟩ => ⟨_, _, he, no hq (fun n h => by cases h), hb⟩
  · refine (Tryd.strconv_Atoi_range s (by omega) hq e2 w h2 k2).mono fun e w' ⟨N, he, _, _, hb⟩ => ⟨_, _, he, no hq (fun n h => by cases h), hb⟩

def CutSaid (s : ByteArray) (c : UInt8) (w w' : World) (e : Ending) : Prop :=
  ∃ (a b : ByteArray) (o : Bool), e = .returned (.tuple #[.string a, .string b, .bool o]) ∧ a.size ≤ s.size ∧ b.size ≤ s.size ∧ Hid (∀ l r : List UInt8, c ∉ l → s = mkS (l ++ c :: r) → a = mkS l ∧ b = mkS r) ∧ Below w.heap.size w w'

theorem below_drewN (B : Nat) (w : World) (n : Nat) : Below B w (w.drewN n) := bdrewN n (Below.refl _ _)

theorem cut_sizes (l sep : List UInt8) : (Lib.cut l sep).1.length ≤ l.length ∧ (Lib.cut l sep).2.1.length ≤ l.length := by
  unfold Lib.cut
  split
  · simp; omega
  · simp

theorem cut_any (s : ByteArray) (c : UInt8) (hs : s.size ≤ 1048576) (w : World) (hg : GA w) :
    Calls Tryd.prog 23 #[.string s, .string (ByteArray.mk #[c])] w fun e w' => CutSaid s c w w' e := by
  obtain ⟨⟨m, hm⟩, _, _⟩ := hg
  have hz := cut_sizes s.data.toList [c]
  refine (Tryd.strings_Cut s (ByteArray.mk #[c]) m w (by omega) hm).mono fun e w' ⟨he, n, hw⟩ => ⟨_, _, _, he, ?_, ?_, ?_, ?_⟩
  · show (Lib.cut s.data.toList [c]).1.toArray.size ≤ s.data.size; rw [List.size_toArray, ← Array.length_toList]; exact hz.1
  · show (Lib.cut s.data.toList [c]).2.1.toArray.size ≤ s.data.size; rw [List.size_toArray, ← Array.length_toList]; exact hz.2
  · intro l r hl e
    have e1 : s.data.toList = l ++ c :: r := by rw [e]; simp [mkS]
    have e2 : (ByteArray.mk #[c]).data.toList = [c] := rfl
    rw [e1, e2, cut_byte l r hl]
    exact ⟨rfl, rfl⟩
  · rw [hw]; exact below_drewN _ _ _

end Go.Proofs.YtcocdidkkcjbgaaDoor
