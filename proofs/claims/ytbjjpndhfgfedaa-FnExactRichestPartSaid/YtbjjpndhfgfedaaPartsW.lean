/-
  Contract: the parts with so many nuts, of the program.
-/
import Derived.Test.YtbjjpndhfgfedaaParts
import Derived.Test.YtbjjpndhfgfedaaWithin
import Derived.Test.YtbjjpndhfgfedaaCorners
import Derived.Test.YtbjjpndhfgfedaaBarOf
namespace Go.Proofs.Ytbjjpndhfgfedaa
open Go.RowKit

/-- a part that lies in a bar -/
def QIn (W H : Nat) (p : Quad) : Prop := ∃ x y a b : Nat, p = ((x : Int), (y : Int), (a : Int), (b : Int)) ∧ 1 ≤ a ∧ 1 ≤ b ∧ x + a ≤ W ∧ y + b ≤ H
theorem rowParts_in {W H a b y : Nat} (ha : 1 ≤ a) (hb : 1 ≤ b) (hy : y + b ≤ H) (k : Nat) (hk : k + a ≤ W + 1) : ∀ p ∈ rowParts a b y k, QIn W H p := by
  induction k with
  | zero => intro p hp; simp [rowParts] at hp
  | succ k ih =>
    intro p hp
    rcases List.mem_append.1 hp with h | h
    · exact ih (by omega) p h
    · rw [List.mem_singleton.1 h]
      exact ⟨k, y, a, b, rfl, ha, hb, by omega, hy⟩
theorem sizeParts_in {W H a b : Nat} (ha : 1 ≤ a) (haW : a ≤ W) (hb : 1 ≤ b) (k : Nat) (hk : k + b ≤ H + 1) : ∀ p ∈ sizeParts a b (W + 1 - a) k, QIn W H p := by
  induction k with
  | zero => intro p hp; simp [sizeParts] at hp
  | succ k ih =>
    intro p hp
    rcases List.mem_append.1 hp with h | h
    · exact ih (by omega) p h
    · exact rowParts_in ha hb (by omega) _ (by omega) p h
theorem wideParts_in {W H a : Nat} (ha : 1 ≤ a) (haW : a ≤ W) (k : Nat) (hk : k ≤ H) : ∀ p ∈ wideParts W H a k, QIn W H p := by
  induction k with
  | zero => intro p hp; simp [wideParts] at hp
  | succ k ih =>
    intro p hp
    rcases List.mem_append.1 hp with h | h
    · exact ih (by omega) p h
    · exact sizeParts_in ha haW (by omega) _ (by omega) p h
theorem barParts_in {W H : Nat} (k : Nat) (hk : k ≤ W) : ∀ p ∈ barParts W H k, QIn W H p := by
  induction k with
  | zero => intro p hp; simp [barParts] at hp
  | succ k ih =>
    intro p hp
    rcases List.mem_append.1 hp with h | h
    · exact ih (by omega) p h
    · exact wideParts_in (by omega) (by omega) _ (Nat.le_refl _) p h

/-- the nuts of a part -/
def rectQ (ss : List ByteArray) (p : Quad) : Nat := rect ss p.1.toNat p.2.1.toNat p.2.2.1.toNat p.2.2.2.toNat
theorem within_part {ss : List ByteArray} {W n : Nat} (hb : NB ss W n) (X Y a b : Nat) (hxa : X + a ≤ W) (hyb : Y + b ≤ n) (w : World) :
    Calls Try.prog 59 #[.agg (cornA ss W n 0), part4 X Y a b] w fun e w' => e = .returned (.int .i64 (rect ss X Y a b : Nat)) ∧ Below w.heap.size w w' := by
  have hn8 := hb.h8
  have hz8 := hb.w8
  have h1 := rect_corner ss X Y a b
  have b1 := rect_576 hb (x := 0) (y := 0) (w := X + a) (h := Y + b) (by omega) (by omega)
  have b2 := rect_576 hb (x := 0) (y := 0) (w := X + a) (h := Y) (by omega) (by omega)
  have b3 := rect_576 hb (x := 0) (y := 0) (w := X) (h := Y + b) (by omega) (by omega)
  have b4 := rect_576 hb (x := 0) (y := 0) (w := X) (h := Y) (by omega) (by omega)
  refine (within_any (cornA ss W n 0) X Y a b (rect ss 0 0 (X + a) (Y + b) : Nat) (rect ss 0 0 (X + a) Y : Nat) (rect ss 0 0 X (Y + b) : Nat) (rect ss 0 0 X Y : Nat) w (by omega) (by omega) ?_ ?_ ?_ ?_ (by omega) (by omega) (by omega) (by omega)).mono ?_
  · rw [cornA_at _ _ _ _ _ (by omega), corn_full ss (by omega) hz8 (by omega)]
  · rw [cornA_at _ _ _ _ _ (by omega), corn_full ss (by omega) hz8 (by omega)]
  · rw [cornA_at _ _ _ _ _ (by omega), corn_full ss (by omega) hz8 (by omega)]
  · rw [cornA_at _ _ _ _ _ (by omega), corn_full ss (by omega) hz8 (by omega)]
  · rintro e w' ⟨rfl, h⟩
    exact ⟨by congr 2; omega, h⟩

/-- the parts of a bar with so many nuts, in order -/
def withL (ss : List ByteArray) (W H : Nat) (many : Int) : List Quad := (barParts W H W).filter fun p => decide ((rectQ ss p : Int) = many)
theorem RowAt.below {w w' : World} {g : Nat} {cs : Array Value} {B : Nat} (h : RowAt w g cs) (hb : Below B w w') (hg : g < B) : RowAt w' g cs := (hb.block g hg).trans h

theorem below_setRowN {B g : Nat} {a w : World} (h : Below B a w) (hg : B ≤ g) (cs : Array Value) : Below B a (w.setRow g cs) :=
  ⟨h.os, h.tape, h.output, by have := h.size; simpa [World.setRow] using this, fun b hb => by
    have e := h.block b hb
    rw [setRow_other w g b cs (by omega)]
    exact e⟩

set_option maxRecDepth 100000 in
set_option maxHeartbeats 4000000 in
theorem partsWith_any (A : Option Addr) (n c W : Nat) (ss : List ByteArray) (many : Int) (w : World) (hr : Rd w 1 A n (strCells ss)) (hb : NB ss W n) :
    Calls Try.prog 63 #[.slice A n c, .int .i64 many] w fun e w' => ∃ A' n' c', e = .returned (.slice A' n' c') ∧ w'.ownsRow w.heap.size 62 4 (.slice A' n' c') n' (quadCells (withL ss W n many)) ∧ Below w.heap.size w w' := by
  obtain ⟨i0, hi, hz0, hz1, hz2⟩ := info_parts part_info
  have hn1 := hb.h1
  have hn8 := hb.h8
  have hW1 := hb.w1
  have hW8 := hb.w8
  have z81 := cornA_zero ss W
  have zc : Try.zeroCells68 = cornA ss W 0 0 := by rw [z81]; kernel_rfl
  have HZ := Lib.hid zc
  clear z81 zc
  go_enter Try.func63, Try.ntmps63
  go_wp2_with fail
  refine (corners_any _ _ _ W ss _ hr hb).mono ?_; rintro e w1 ⟨rfl, hb1⟩
  have hR0 := RowAt.new w1 Try.zeroCells68
  have hzs : (Try.zeroCells68).size = 81 := by kernel_rfl
  go_wp2_with (first | refine wpList_store_row rfl 68 _ _ rfl w1.heap.size (cornA ss W n 0) rfl rfl _ _ hR0 (by first | (rw [size_cornA]; kernel_rfl) | (rw [hzs]; kernel_rfl)) (by rw [size_cornA, hzs]) (oneCell_cornA _ _ _ _) ?_)
  have bl2 : Below w.heap.size w ((w1.alloc (.cells Try.zeroCells68 68)).setRow w1.heap.size (cornA ss W n 0)) := below_setRowN (hb1.alloc hb1.size _) hb1.size _
  have rw2 : RowAt ((w1.alloc (.cells Try.zeroCells68 68)).setRow w1.heap.size (cornA ss W n 0)) w1.heap.size (cornA ss W n 0) := setRow_heap _ w1.heap.size _ (cornA ss W n 0) _ _ hR0
  have sz2 : ((w1.alloc (.cells Try.zeroCells68 68)).setRow w1.heap.size (cornA ss W n 0)).heap.size = w1.heap.size + 1 := by simp [World.setRow]
  have hs1 := hb1.size
  clear hR0 hzs HZ hb1
  generalize (w1.alloc (.cells Try.zeroCells68 68)).setRow w1.heap.size (cornA ss W n 0) = W2 at *
  refine (barOf_any _ _ _ W ss _ (hr.later bl2 (Nat.le_refl _)) hb).mono ?_; rintro e w3 ⟨rfl, hb3⟩
  have hs3 := hb3.size
  have bl3 : Below w.heap.size w w3 := bcall (by omega) hb3 bl2
  go_wp2_with fail
  refine (allParts_any W n _ hW1 hW8 hn1 hn8).mono ?_; rintro e w4 ⟨A4, N, c4, rfl, own4, hb4⟩
  have hs4 := hb4.size
  have bl4 : Below w.heap.size w w4 := bcall (by omega) hb4 bl3
  have rw4 : RowAt w4 w1.heap.size (cornA ss W n 0) := (rw2.below hb3 (by omega)).below hb4 (by omega)
  have hN : (barParts W n W).length = N := by have := own4.1; rw [length_quadCells] at this; omega
  have hN8 := length_barParts W n W hW8 hn8
  have hin := barParts_in (H := n) W (Nat.le_refl W)
  have HIN := Lib.hid hin
  have HN := Lib.hid hN
  have HW : Hid (withL ss W n many = (barParts W n W).filter fun p => decide ((rectQ ss p : Int) = many)) := rfl
  have RD4 := Lib.hid (Rd.of_own own4)
  have RW4 := Lib.hid rw4
  have BL4 := Lib.hid bl4
  have hNb : N ≤ 4096 := by omega
  clear hin rw4 bl4 own4 hb4 bl3 hb3 bl2 rw2 hN8 hN
  generalize barParts W n W = L at *
  have hlt1 : w1.heap.size < w4.heap.size := by omega
  have hle4 : w.heap.size ≤ w4.heap.size := by omega
  clear hs1 hs3 hs4 sz2
  go_wp2
  go_loopw [5, 15] (fun v i wr => ∃ (k : Nat) (A5 : Option Addr) (n5 c5 : Nat), k ≤ N ∧ i = .int .i64 k ∧ v = .slice A5 n5 c5 ∧ n5 ≤ k ∧ wr.ownsRow w4.heap.size 62 4 (.slice A5 n5 c5) n5 (quadCells ((L.take k).filter fun p => decide ((rectQ ss p : Int) = many))) ∧ Below w4.heap.size w4 wr) (fun _ i _ => N - (intOf i).toNat)
  case atStart => exact ⟨0, none, 0, 0, Nat.zero_le _, rfl, rfl, Nat.le_refl _, by simpa [quadCells] using World.ownsRow_nil _ _ _ _, Below.refl _ _⟩
  case round =>
    obtain ⟨k, A5, n5, c5, hk, rfl, rfl, hn5, hown, hB⟩ := hrel
    by_cases hlt : k < N
    · obtain ⟨b, o, rfl, hbl, hx, p0, p1, p2, p3⟩ := (RD4.out.later hB (Nat.le_refl _)).quad hlt
      obtain ⟨X, Y, a, bb, hq, ha, hbb, hxa, hyb⟩ := HIN.out _ (List.getElem_mem hx)
      have hstep : L.take (k + 1) = L.take k ++ [L[k]] := by rw [List.take_succ_eq_append_getElem hx]
      rw [hq] at p0 p1 p2 p3 hstep
      have HST := Lib.hid hstep
      have HWI := Lib.hid (within_part hb X Y a bb hxa hyb)
      have HRQ : Hid (rectQ ss ((X : Int), (Y : Int), (a : Int), (bb : Int)) = rect ss X Y a bb) := rfl
      have hrow := (RW4.out.below hB hlt1).alloc (.cells #[.int .i64 X, .int .i64 Y, .int .i64 a, .int .i64 bb] 62)
      have hsB := hB.size
      have HB := Lib.hid hB
      have HO := Lib.hid hown
      generalize rect ss X Y a bb = r at *
      clear hstep hown hB hq ha hbb hxa hyb
      have bx : ∀ (i : Nat) (v : Value), #[Value.int .i64 X, .int .i64 Y, .int .i64 a, .int .i64 bb][i]? = some v → (wr.alloc (.cells #[.int .i64 X, .int .i64 Y, .int .i64 a, .int .i64 bb] 62)).cell? ⟨wr.heap.size, i, none⟩ = some v := by
        intro i v h
        simp only [World.cell?, World.alloc, Array.getElem?_push_size]
        exact h
      have b0 := bx 0 _ rfl
      have b1 := bx 1 _ rfl
      have b2 := bx 2 _ rfl
      have b3 := bx 3 _ rfl
      have szA : (wr.alloc (.cells #[.int .i64 X, .int .i64 Y, .int .i64 a, .int .i64 bb] 62)).heap.size = wr.heap.size + 1 := by simp
      have hbA := HB.out.alloc hsB (.cells #[.int .i64 X, .int .i64 Y, .int .i64 a, .int .i64 bb] 62)
      have hoA := HO.out.alloc (.cells #[.int .i64 X, .int .i64 Y, .int .i64 a, .int .i64 bb] 62)
      clear bx HB HO
      by_cases hm : (r : Int) = many
      · have hmm : ((r : Int) == many) = true := by simpa using hm
        have HF : Hid (List.filter (fun p => decide ((rectQ ss p : Int) = many)) (L.take (k + 1)) = List.filter (fun p => decide ((rectQ ss p : Int) = many)) (L.take k) ++ [((X : Int), (Y : Int), (a : Int), (bb : Int))]) := by
          simp only [Hid]
          rw [HST.out, List.filter_append]
          congr 1
          rw [List.filter_cons_of_pos (by rw [HRQ.out]; simpa using hm), List.filter_nil]
        clear hm HRQ HST
        go_wp2_with (first | refine wpList_load_row rfl 68 _ rfl w1.heap.size rfl _ (cornA ss W n 0) _ _ hrow Try.underlying68 rfl (by rw [size_cornA]; kernel_rfl) ?_)
        generalize wr.alloc (.cells #[.int .i64 X, .int .i64 Y, .int .i64 a, .int .i64 bb] 62) = wA at *
        refine (HWI.out _).mono ?_; rintro e w5 ⟨rfl, hb5⟩
        have k0 := (hb5.cell (p := ⟨wr.heap.size, 0, none⟩) (by simp; omega)).trans b0
        have k1 := (hb5.cell (p := ⟨wr.heap.size, 1, none⟩) (by simp; omega)).trans b1
        have k2 := (hb5.cell (p := ⟨wr.heap.size, 2, none⟩) (by simp; omega)).trans b2
        have k3 := (hb5.cell (p := ⟨wr.heap.size, 3, none⟩) (by simp; omega)).trans b3
        have own5 := own_later hoA hb5 (Nat.le_refl _)
        have bel5 : Below w4.heap.size w4 w5 := bcall (by omega) hb5 hbA
        have hs5 := hb5.size
        clear hb5 b0 b1 b2 b3 hoA hbA hrow p0 p1 p2 p3
        go_wp2_with (at_builtin; refine wpList_append_own _ rfl (.tmp 24) (.tmp 26) 70 rfl w4.heap.size 62 i0 (part4 0 0 0 0) 4 32 Try.underlying70 hi hz0 hz1 hz2 rfl (by decide) _ _ _ rfl (own5.alloc _) ⟨w5.heap.size, 0, none⟩ 1 1 [.int .i64 X, .int .i64 Y, .int .i64 a, .int .i64 bb] rfl rfl ?c1 ?c2 ?c3 ?c4 ?c5 ?_)
        case c1 => exact new4 _ _ _ _ _ _
        case c2 => exact four_oneCell _ _ _ _
        case c3 => simp only [maxLen]; omega
        case c4 => omega
        case c5 => simp; omega
        · intro v' w6 hown' hgrow _
          have hb6 := bgrow (bel5.alloc (by omega) (.cells #[.int .i64 X, .int .i64 Y, .int .i64 a, .int .i64 bb] 62)) (own5.alloc _) hgrow (by simp; omega)
          obtain ⟨A', c', rfl⟩ := own_slice hown'
          have HO := Lib.hid hown'
          clear hgrow own5 bel5 hown' k0 k1 k2 k3
          go_wp2
          go_roundw
          case rel => exact ⟨k + 1, A', n5 + 1, c', by omega, by go_num, rfl, by omega, by rw [HF.out, quadCells_append]; exact HO.out, hb6⟩
          case measure => simp [intOf]; omega
      · have hmm : ((r : Int) == many) = false := by simpa using hm
        have HF : Hid (List.filter (fun p => decide ((rectQ ss p : Int) = many)) (L.take (k + 1)) = List.filter (fun p => decide ((rectQ ss p : Int) = many)) (L.take k)) := by
          simp only [Hid]
          rw [HST.out, List.filter_append, List.filter_cons_of_neg (by rw [HRQ.out]; simpa using hm), List.filter_nil, List.append_nil]
        clear hm HRQ HST
        go_wp2_with (first | refine wpList_load_row rfl 68 _ rfl w1.heap.size rfl _ (cornA ss W n 0) _ _ hrow Try.underlying68 rfl (by rw [size_cornA]; kernel_rfl) ?_)
        generalize wr.alloc (.cells #[.int .i64 X, .int .i64 Y, .int .i64 a, .int .i64 bb] 62) = wA at *
        refine (HWI.out _).mono ?_; rintro e w5 ⟨rfl, hb5⟩
        have own5 := own_later hoA hb5 (Nat.le_refl _)
        have bel5 : Below w4.heap.size w4 w5 := bcall (by omega) hb5 hbA
        clear hb5 b0 b1 b2 b3 hoA hbA hrow p0 p1 p2 p3
        go_wp2
        go_roundw
        case rel => exact ⟨k + 1, A5, n5, c5, by omega, by go_num, rfl, by omega, by rw [HF.out]; exact own5, bel5⟩
        case measure => simp [intOf]; omega
    · have hke : k = N := by omega
      subst hke
      go_wp2
      go_ret
      have ht : L.take k = L := List.take_of_length_le (by rw [HN.out]; exact Nat.le_refl _)
      rw [ht, ← HW.out] at hown
      exact ⟨A5, n5, c5, rfl, own_base hown hle4, BL4.out.trans (hB.mono hle4)⟩

end Go.Proofs.Ytbjjpndhfgfedaa
