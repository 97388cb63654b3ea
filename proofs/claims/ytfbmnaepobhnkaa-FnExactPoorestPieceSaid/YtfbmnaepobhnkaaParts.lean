/-
  Contracts: all parts of a size, and all parts of a bar, of the program.
-/
import Derived.Test.YtfbmnaepobhnkaaReg
import Derived.Test.YtfbmnaepobhnkaaQuads
import Derived.Maps.AppendAt
namespace Go.Proofs.Ytfbmnaepobhnkaa
open Go.RowKit

theorem part_info : (Try.prog.info? 70).map (fun i => (i.zero, i.size, i.bytes)) = some (some (part4 0 0 0 0), 4, 32) := by kernel_rfl

/-- what holds while parts are put behind a list: the list, the boxes of both bars -/
structure AP (B : Nat) (w wr : World) (W H a b : Nat) (A : Option Addr) (n c : Nat) (L : List Quad) : Prop where
  own : wr.ownsRow B 70 4 (.slice A n c) n (quadCells L)
  bel : Below B w wr
  sz : w.heap.size + 1 < wr.heap.size
  c0 : wr.cell? ⟨w.heap.size, 0, none⟩ = some (.int .i64 W)
  c1 : wr.cell? ⟨w.heap.size, 1, none⟩ = some (.int .i64 H)
  d0 : wr.cell? ⟨w.heap.size + 1, 0, none⟩ = some (.int .i64 a)
  d1 : wr.cell? ⟨w.heap.size + 1, 1, none⟩ = some (.int .i64 b)
  far : ∀ g, (Value.slice A n c).ownBlock = some g → g ≠ w.heap.size ∧ g ≠ w.heap.size + 1

theorem AP.grown {B : Nat} {w wr w' : World} {W H a b : Nat} {A A' : Option Addr} {n n' c c' : Nat} {L L' : List Quad} (h : AP B w wr W H a b A n c L) (o : Obj) (hB : B ≤ w.heap.size)
    (hown : w'.ownsRow B 70 4 (.slice A' n' c') n' (quadCells L')) (hg : (wr.alloc o).grownBy w' (Value.slice A n c).ownBlock)
    (hat : (Value.slice A' n' c').ownBlock = (Value.slice A n c).ownBlock ∨ (Value.slice A' n' c').ownBlock = some (wr.heap.size + 1)) : AP B w w' W H a b A' n' c' L' := by
  have hs := h.sz
  have n0 : some w.heap.size ≠ (Value.slice A n c).ownBlock := fun e => (h.far _ e.symm).1 rfl
  have n1 : some (w.heap.size + 1) ≠ (Value.slice A n c).ownBlock := fun e => (h.far _ e.symm).2 rfl
  have hcell : ∀ (b k : Nat) (v : Value), b ≤ w.heap.size + 1 → some b ≠ (Value.slice A n c).ownBlock → wr.cell? ⟨b, k, none⟩ = some v → w'.cell? ⟨b, k, none⟩ = some v := by
    intro b k v hb hn hv
    exact hg.cell (a := ⟨b, k, none⟩) ((World.cell?_alloc_lt _ _ _ (by show b < _; omega)).trans hv) hn
  refine ⟨hown, ?_, ?_, hcell _ _ _ (by omega) n0 h.c0, hcell _ _ _ (by omega) n0 h.c1, hcell _ _ _ (by omega) n1 h.d0, hcell _ _ _ (by omega) n1 h.d1, ?_⟩
  · exact (h.bel.alloc (by omega) o).grown hg (by simp; omega) (fun k hk => (h.own.lt k hk).1)
  · have := hg.size
    simp at this
    omega
  · intro g hg'
    rcases hat with e | e
    · exact h.far g (e ▸ hg')
    · rw [e] at hg'
      simp at hg'
      omega

set_option maxRecDepth 100000 in
set_option maxHeartbeats 4000000 in
theorem addParts_any (B : Nat) (A : Option Addr) (n c W H a b : Nat) (L : List Quad) (w : World) (hW : W ≤ 8) (hH : H ≤ 8) (ha : 1 ≤ a) (ha8 : a ≤ W) (hb : 1 ≤ b) (hb8 : b ≤ H) (hn : n ≤ 100000) (hBw : B ≤ w.heap.size)
    (hown : w.ownsRow B 70 4 (.slice A n c) n (quadCells L)) :
    Calls Try.prog 56 #[.slice A n c, bar2 W H, bar2 a b] w fun e w' => ∃ A' n' c', e = .returned (.slice A' n' c') ∧ w'.ownsRow B 70 4 (.slice A' n' c') n' (quadCells (L ++ sizeParts a b (W + 1 - a) (H + 1 - b))) ∧ Below B w w' := by
  obtain ⟨i0, hi, hz0, hz1, hz2⟩ := info_parts part_info
  have hstart : AP B w ((w.alloc (.cells #[.int .i64 W, .int .i64 H] 26)).alloc (.cells #[.int .i64 a, .int .i64 b] 26)) W H a b A n c (L ++ sizeParts a b (W + 1 - a) 0) := by
    refine ⟨?_, ((Below.refl B w).alloc (by omega) _).alloc (by simp; omega) _, by simp, by simp [go_sem], by simp [go_sem], by simp [go_sem], by simp [go_sem], fun g hg => ?_⟩
    · simp only [sizeParts, List.append_nil]; exact (hown.alloc _).alloc _
    · have := (hown.lt g hg).2; omega
  have HS := Lib.hid hstart
  clear hstart hown
  go_enter Try.func56, Try.ntmps56
  go_wp2
  go_loopw [0, 7] (fun v i wr => ∃ (y : Nat) (A' : Option Addr) (n' c' : Nat), y ≤ H + 1 - b ∧ i = .int .i64 y ∧ v = .slice A' n' c' ∧ n' ≤ n + 8 * y ∧ AP B w wr W H a b A' n' c' (L ++ sizeParts a b (W + 1 - a) y)) (fun _ i _ => H + 1 - b - (intOf i).toNat)
  case atStart => exact ⟨0, A, n, c, by omega, rfl, rfl, by omega, HS.out⟩
  case round =>
    obtain ⟨y, A1, n1, c1, hy, rfl, rfl, hn1, hAP⟩ := hrel
    clear HS
    have e0 := hAP.c0
    have e1 := hAP.c1
    have f0 := hAP.d0
    have f1 := hAP.d1
    by_cases hlt : y < H + 1 - b
    · have hle : (y : Int) ≤ (H : Int) - b := by omega
      have HAP := Lib.hid hAP
      clear hAP
      go_wp2
      clear e0 e1 f0 f1
      go_loopw [0, 8] (fun v i wr => ∃ (x : Nat) (A' : Option Addr) (n' c' : Nat), x ≤ W + 1 - a ∧ i = .int .i64 x ∧ v = .slice A' n' c' ∧ n' ≤ n + 8 * y + x ∧ AP B w wr W H a b A' n' c' (L ++ sizeParts a b (W + 1 - a) y ++ rowParts a b y x)) (fun _ i _ => W + 1 - a - (intOf i).toNat)
      case atStart => exact ⟨0, A1, n1, c1, by omega, rfl, rfl, by omega, by simp only [rowParts, List.append_nil]; exact HAP.out⟩
      case round =>
        clear HAP
        obtain ⟨x, A2, n2, c2, hx, rfl, rfl, hn2, hAP⟩ := hrel
        have e0 := hAP.c0
        have e1 := hAP.c1
        have f0 := hAP.d0
        have f1 := hAP.d1
        have hown := hAP.own
        have hsz := hAP.sz
        have HAP := Lib.hid hAP
        clear hAP
        by_cases hlx : x < W + 1 - a
        · have hlex : (x : Int) ≤ (W : Int) - a := by omega
          have HST : Hid (rowParts a b y (x + 1) = rowParts a b y x ++ [((x : Int), (y : Int), (a : Int), (b : Int))]) := rfl
          go_wp2_with (at_builtin; refine wpList_append_own_at _ rfl (.tmp 27) (.tmp 32) 67 rfl B 70 i0 (part4 0 0 0 0) 4 32 Try.underlying67 hi hz0 hz1 hz2 rfl (by decide) _ _ _ rfl (hown.alloc _) ⟨wr.heap.size, 0, none⟩ 1 1 [.int .i64 x, .int .i64 y, .int .i64 a, .int .i64 b] rfl rfl ?c1 ?c2 ?c3 ?c4 ?c5 ?_)
          case c1 => exact new4 _ _ _ _ _ _
          case c2 => exact four_oneCell _ _ _ _
          case c3 => simp only [maxLen]; omega
          case c4 => omega
          case c5 => simp; omega
          · intro v' w2 hown' hgrow _ hat
            obtain ⟨A', c', rfl⟩ := own_slice hown'
            have hAP2 := HAP.out.grown (L' := L ++ sizeParts a b (W + 1 - a) y ++ rowParts a b y (x + 1)) _ hBw (by rw [HST.out, ← List.append_assoc, quadCells_append]; simpa only [List.append_assoc, quadCells] using hown') hgrow hat
            have HAP2 := Lib.hid hAP2
            clear hAP2 hown' hgrow hat hown HAP e0 e1 f0 f1
            go_wp2
            go_roundw
            case rel => exact ⟨x + 1, A', n2 + 1, c', by omega, by go_num, rfl, by omega, HAP2.out⟩
            case measure => simp [intOf]; omega
        · have hxe : x = W + 1 - a := by omega
          subst hxe
          go_wp2
          go_roundw
          case rel => exact ⟨y + 1, A2, n2, c2, by omega, by go_num, rfl, by omega, by rw [List.append_assoc] at HAP; exact HAP.out⟩
          case measure => simp [intOf]; omega
    · have hye : y = H + 1 - b := by omega
      subst hye
      go_wp2
      go_ret
      exact ⟨A1, n1, c1, rfl, hAP.own, hAP.bel⟩

set_option maxRecDepth 100000 in
set_option maxHeartbeats 4000000 in
theorem allParts_any (W H : Nat) (w : World) (hW1 : 1 ≤ W) (hW : W ≤ 8) (hH1 : 1 ≤ H) (hH : H ≤ 8) :
    Calls Try.prog 39 #[bar2 W H] w fun e w' => ∃ A n c, e = .returned (.slice A n c) ∧ w'.ownsRow w.heap.size 70 4 (.slice A n c) n (quadCells (barParts W H W)) ∧ Below w.heap.size w w' := by
  have bw0 : Below w.heap.size w (w.alloc (.cells #[.int .i64 W, .int .i64 H] 26)) := by (repeat (first | (with_reducible exact Below.refl _ _) | (with_reducible assumption) | (with_reducible refine Below.drew ?_) | ((with_reducible refine balloc ?_ _ ?_); · (first | (simp; done) | (simp; omega) | omega)) | ((with_reducible refine bset ?_ _ ?_); · (first | (simp; done) | (simp; omega) | omega)) | (with_reducible refine bdrewN _ ?_) | ((with_reducible refine bcall ?_ (by assumption) ?_); · (first | (simp; done) | (simp; omega) | omega))))
  have c0 : (w.alloc (.cells #[.int .i64 W, .int .i64 H] 26)).cell? ⟨w.heap.size, 0, none⟩ = some (.int .i64 W) := by simp [go_sem]
  have c1 : (w.alloc (.cells #[.int .i64 W, .int .i64 H] 26)).cell? ⟨w.heap.size, 1, none⟩ = some (.int .i64 H) := by simp [go_sem]
  have sz0 : (w.alloc (.cells #[.int .i64 W, .int .i64 H] 26)).heap.size = w.heap.size + 1 := by simp
  have C0 := Lib.hid c0
  have C1 := Lib.hid c1
  have SZ0 := Lib.hid sz0
  clear c0 c1 sz0
  go_enter Try.func39, Try.ntmps39
  go_wp2
  generalize w.alloc (.cells #[.int .i64 W, .int .i64 H] 26) = W1 at *
  have sz := SZ0.out
  go_loopw [3, 4] (fun v i wr => ∃ (k : Nat) (A : Option Addr) (n c : Nat), k ≤ W ∧ i = .int .i64 ((k : Int) + 1) ∧ v = .slice A n c ∧ wr.ownsRow (w.heap.size + 1) 70 4 (.slice A n c) n (quadCells (barParts W H k)) ∧ Below (w.heap.size + 1) W1 wr) (fun _ i _ => W + 1 - (intOf i).toNat)
  case atStart => exact ⟨0, none, 0, 0, by omega, rfl, rfl, World.ownsRow_nil _ _ _ _, Below.refl _ _⟩
  case round =>
    obtain ⟨k, A1, n1, c1, hk, rfl, rfl, hown, hB⟩ := hrel
    have e0 := (hB.cell (p := ⟨w.heap.size, 0, none⟩) (by simp)).trans C0.out
    have e1 := (hB.cell (p := ⟨w.heap.size, 1, none⟩) (by simp)).trans C1.out
    by_cases hlt : k < W
    · have hle : (k : Int) + 1 ≤ (W : Int) := by omega
      have HO := Lib.hid hown
      have HB := Lib.hid hB
      clear hown hB
      go_wp2
      clear e0 e1
      go_loopw [3, 5] (fun v i wr => ∃ (m : Nat) (A : Option Addr) (n c : Nat), m ≤ H ∧ i = .int .i64 ((m : Int) + 1) ∧ v = .slice A n c ∧ wr.ownsRow (w.heap.size + 1) 70 4 (.slice A n c) n (quadCells (barParts W H k ++ wideParts W H (k + 1) m)) ∧ Below (w.heap.size + 1) W1 wr) (fun _ i _ => H + 1 - (intOf i).toNat)
      case atStart => exact ⟨0, A1, n1, c1, by omega, rfl, rfl, by simp only [wideParts, List.append_nil]; exact HO.out, HB.out⟩
      case round =>
        clear HO HB
        obtain ⟨m, A2, n2, c2, hm, rfl, rfl, hown, hB⟩ := hrel
        have e0 := (hB.cell (p := ⟨w.heap.size, 0, none⟩) (by simp)).trans C0.out
        have e1 := (hB.cell (p := ⟨w.heap.size, 1, none⟩) (by simp)).trans C1.out
        by_cases hlm : m < H
        · have hle2 : (m : Int) + 1 ≤ (H : Int) := by omega
          have hn2 : n2 ≤ 100000 := by
            have h1 := hown.1
            have h2 := length_barParts W H k hW hH
            have h3 := length_wideParts W H (k + 1) m hW hH (by omega)
            rw [length_quadCells, List.length_append] at h1
            omega
          have hsz := hB.size
          have HAD := Lib.hid (addParts_any (w.heap.size + 1) A2 n2 c2 W H (k + 1) (m + 1) (barParts W H k ++ wideParts W H (k + 1) m) wr hW hH (by omega) (by omega) (by omega) (by omega) hn2 (by omega) hown)
          have HST : Hid (wideParts W H (k + 1) (m + 1) = wideParts W H (k + 1) m ++ sizeParts (k + 1) (m + 1) (W + 1 - (k + 1)) (H + 1 - (m + 1))) := rfl
          have HB := Lib.hid hB
          clear hown hB
          go_wp2_with fail
          refine HAD.out.mono ?_; rintro e w2 ⟨A3, n3, c3, rfl, hown3, hb3⟩
          have HO := Lib.hid hown3
          have HB2 := Lib.hid (HB.out.trans hb3)
          clear hown3 hb3 HAD HB e0 e1
          go_wp2
          go_roundw
          case rel => exact ⟨m + 1, A3, n3, c3, by omega, by go_num, rfl, by rw [HST.out, ← List.append_assoc]; exact HO.out, HB2.out⟩
          case measure => simp [intOf]; omega
        · have hme : m = H := by omega
          subst hme
          go_wp2
          go_roundw
          case rel => exact ⟨k + 1, A2, n2, c2, by omega, by go_num, rfl, hown, hB⟩
          case measure => simp [intOf]; omega
    · have hke : k = W := by omega
      subst hke
      go_wp2
      go_ret
      exact ⟨A1, n1, c1, rfl, own_base hown (by omega), bw0.trans (hB.mono (by omega))⟩

end Go.Proofs.Ytfbmnaepobhnkaa
