/-
  Contracts: ChompMoves of the model and of the program.
-/
import Derived.Test.YtghlgmbekgfmnaaMoves
import Derived.Test.YtghlgmbekgfmnaaChSum
import Derived.Test.YtghlgmbekgfmnaaSS
namespace Go.Proofs.Ytghlgmbekgfmnaa
open Go.RowKit
set_option linter.unusedVariables false

/-- rows of two numbers -/
def prR (M : List (Int × Int)) : Nat → List Int := fun i => match M[i]? with | some p => [p.1, p.2] | none => []
theorem prR_at {M : List (Int × Int)} {i : Nat} (h : i < M.length) : prR M i = [(M[i]).1, (M[i]).2] := by simp [prR, h]
theorem prR_snoc {M : List (Int × Int)} {n : Nat} (hn : M.length = n) (p : Int × Int) (i : Nat) (hi : i < n + 1) : (if i = n then [p.1, p.2] else prR M i) = prR (M ++ [p]) i := by
  by_cases e : i = n
  · subst e
    subst hn
    rw [if_pos rfl]
    unfold prR
    simp
  · rw [if_neg e]
    unfold prR
    rw [List.getElem?_append_left (by omega)]
theorem length_prR (M : List (Int × Int)) (i : Nat) : (prR M i).length ≤ 2 := by
  unfold prR
  split <;> simp
theorem prR_take {M : List (Int × Int)} {k : Nat} (i : Nat) (hi : i < k) : prR (M.take k) i = prR M i := by
  unfold prR
  rw [List.getElem?_take_of_lt hi]

theorem OwnAC.push {w w' wz : World} {B n c0 c : Nat} {v' : Value} {Ad a : Option Addr} {A : Nat → Option Addr} {C : Nat → Nat} {R : Nat → List Int} {l : List Int} (h : OwnAC w B (.slice Ad n c0) n A C R) (hb : Below w.heap.size w wz) (hw : wz.ownsRow w.heap.size 3 1 (.slice a l.length c) l.length (intCells l)) (hBw : B ≤ w.heap.size)
    (hg : wz.grownBy w' (Value.slice Ad n c0).ownBlock) (ht : w'.ownsRow B 39 1 v' (n + 1) (ssCells A C R n ++ [.slice a l.length c])) : OwnSS w' B v' (n + 1) (fun i => if i = n then l else R i) := by
  refine OwnAC.snoc (w := wz) ⟨own_later h.top hb (Nat.le_refl _), fun i hi => own_later (h.row i hi) hb (Nat.le_refl _), h.apart⟩ (own_base hw hBw) (fun i hi => ?_) hg ht
  rcases hv : (Value.slice (A i) (R i).length (C i)).ownBlock with _ | g
  · exact .inl rfl
  · refine .inr fun e => ?_
    have x := (h.row i hi).lt g hv
    have y := hw.lt g e.symm
    omega

theorem ints_info : (Try.prog.info? 39).map (fun i => (i.zero, i.size, i.bytes)) = some (some (.slice none 0 0), 1, 24) := by kernel_rfl


set_option maxRecDepth 100000 in
set_option maxHeartbeats 4000000 in
theorem cmMoves_any (Ad : Option Addr) (n c : Nat) (l : List Int) (w : World) (hr : Rd w 1 Ad n (intCells l)) (hl : ChOK l) :
    Calls Try.prog 96 #[.slice Ad n c] w fun e w' => ∃ A' n' c', e = .returned (.slice A' n' c') ∧ n' ≤ 36 ∧ (mv (fun j => l.getD j 0) n).length = n' ∧ OwnSS w' w.heap.size (.slice A' n' c') n' (prR (mv (fun j => l.getD j 0) n)) ∧ Below w.heap.size w w' := by
  obtain ⟨i0, hi, hz0, hz1, hz2⟩ := info_parts ints_info
  have hll := hr.ilen
  have n6 : n ≤ 6 := by have := hl.2.1; omega
  have HL := Lib.hid hl
  have HF := Lib.hid hl.fall
  generalize hff : (fun j => l.getD j 0) = f at *
  have HFF : Hid (∀ j, l.getD j 0 = f j) := fun j => by rw [← hff]
  clear hll hl hff
  go_enter Try.func96, Try.ntmps96
  go_wp2
  go_loopw [3, 9] (fun v i wr => ∃ (k m : Nat) (A' : Option Addr) (c' : Nat), k ≤ n ∧ m ≤ 6 * k ∧ Hid ((mv f k).length = m) ∧ i = .int .i64 k ∧ v = .slice A' m c' ∧ OwnSS wr w.heap.size (.slice A' m c') m (prR (mv f k)) ∧ Below w.heap.size w wr) (fun _ i _ => n - (intOf i).toNat)
  case atStart => exact ⟨0, 0, none, 0, Nat.zero_le _, by omega, rfl, rfl, rfl, OwnSS.nil _ _ _, Below.refl _ _⟩
  case round =>
    obtain ⟨k, m, A', c', hk, hm, hML, rfl, rfl, hown, hB⟩ := hrel
    have sB := hB.size
    by_cases hlt : k < n
    · obtain ⟨b, o, rfl, hbl, hx, p0⟩ := (hr.later hB (Nat.le_refl _)).num hlt
      obtain ⟨q, hq⟩ : ∃ q : Nat, f k = (q : Int) := ⟨(f k).toNat, by have := HF.out.ge0 k; omega⟩
      have hq6 : q ≤ 6 := by have := HF.out.anti (Nat.zero_le k); have := HF.out.le6; omega
      have hlk : l[k] = (q : Int) := by rw [← getD_lt hx, HFF.out, hq]
      rw [hlk] at p0
      have HQ := Lib.hid hq
      have HMV : Hid (mv f (k + 1) = mv f k ++ rowM k q) := by simp only [Hid]; rw [mv_succ, hq]; simp
      have HOW := Lib.hid hown
      have HBB := Lib.hid hB
      clear hx hlk hq hown hB
      go_wp2
      go_loopw [3, 6] (fun v j wq => ∃ (x p : Nat) (A2 : Option Addr) (c2 : Nat), x ≤ q ∧ p ≤ 6 * k + x ∧ Hid ((mv f k ++ rowM k x).length = p) ∧ j = .int .i64 x ∧ v = .slice A2 p c2 ∧ OwnSS wq w.heap.size (.slice A2 p c2) p (prR (mv f k ++ rowM k x)) ∧ Below w.heap.size w wq) (fun _ j _ => q - (intOf j).toNat)
      case atStart => exact ⟨0, m, A', c', Nat.zero_le _, by omega, by have := hML.out; simpa [Hid, rowM] using this, rfl, rfl, by have := HOW.out; simpa [rowM] using this, HBB.out⟩
      case round =>
        clear HOW HBB
        obtain ⟨x, p, A2, c2, hxq, hp, hPL, rfl, rfl, hown, hB⟩ := hrel
        have sB := hB.size
        by_cases hxl : x < q
        · by_cases h0 : 0 < x + k
          · have hd : decide ((0 : Int) < (x : Int) + (k : Int)) = true := decide_eq_true (by omega)
            have HSN : Hid (mv f k ++ rowM k (x + 1) = (mv f k ++ rowM k x) ++ [((x : Int), (k : Int))]) := by simp only [Hid]; rw [rowM_succ, if_pos h0, List.append_assoc]
            obtain ⟨A, C, ho⟩ := hown
            generalize mv f k ++ rowM k x = ML at *
            have HO := Lib.hid ho
            have hbz : Below wr.heap.size wr ((wr.alloc (.cells #[.int .i64 (x : Int), .int .i64 (k : Int)] 3)).alloc (.cells #[.slice (some ⟨wr.heap.size, 0, none⟩) 2 2] 39)) := by (repeat (first | (with_reducible exact Below.refl _ _) | (with_reducible assumption) | (with_reducible refine Below.drew ?_) | ((with_reducible refine balloc ?_ _ ?_); · (first | (simp; done) | (simp; omega) | omega)) | ((with_reducible refine bset ?_ _ ?_); · (first | (simp; done) | (simp; omega) | omega)) | (with_reducible refine bdrewN _ ?_) | ((with_reducible refine bcall ?_ (by assumption) ?_); · (first | (simp; done) | (simp; omega) | omega))))
            have hnew : (wr.alloc (.cells #[.int .i64 (x : Int), .int .i64 (k : Int)] 3)).ownsRow wr.heap.size 3 1 (.slice (some ⟨wr.heap.size, 0, none⟩) 2 2) 2 (intCells [(x : Int), (k : Int)]) := by
              have h := own_new wr 3 1 2 #[.int .i64 (x : Int), .int .i64 (k : Int)] rfl (by omega) (B := wr.heap.size) (Nat.le_refl _)
              simpa [intCells] using h
            have HN := Lib.hid (own_alloc hnew (.cells #[.slice (some ⟨wr.heap.size, 0, none⟩) 2 2] 39))
            have HBZ := Lib.hid hbz
            have HT2 := Lib.hid (own_alloc (own_alloc ho.top (.cells #[.int .i64 (x : Int), .int .i64 (k : Int)] 3)) (.cells #[.slice (some ⟨wr.heap.size, 0, none⟩) 2 2] 39))
            have hnw := new1 (wr.alloc (.cells #[.int .i64 (x : Int), .int .i64 (k : Int)] 3)) 39 (.slice (some ⟨wr.heap.size, 0, none⟩) 2 2)
            rw [show (wr.alloc (.cells #[.int .i64 (x : Int), .int .i64 (k : Int)] 3)).heap.size = wr.heap.size + 1 by simp] at hnw
            have hc3 : p + 1 ≤ maxLen := by simp only [maxLen]; omega
            clear ho hnew hbz
            go_wp2_with (at_builtin; refine wpList_append_own _ rfl (.tmp 23) (.tmp 27) 45 rfl w.heap.size 39 i0 (.slice none 0 0) 1 24 Try.underlying45 hi hz0 hz1 hz2 rfl (by decide) _ _ _ rfl HT2.out ⟨wr.heap.size + 1, 0, none⟩ 1 1 [.slice (some ⟨wr.heap.size, 0, none⟩) 2 2] rfl rfl hnw (by intro u hu; simp at hu; subst hu; rfl) hc3 (by omega) (Nat.le_trans sB (by simp; omega)) ?_)
            intro v' w2 hown' hgrow _
            obtain ⟨A3, c3', rfl⟩ := own_slice hown'
            have hss := OwnAC.push HO.out HBZ.out HN.out sB hgrow hown'
            have hss2 : OwnSS w2 w.heap.size (.slice A3 (p + 1) c3') (p + 1) (prR (mv f k ++ rowM k (x + 1))) := hss.congr fun i hi => by
              rw [HSN.out]
              exact prR_snoc hPL.out ((x : Int), (k : Int)) i hi
            have hb2 : Below w.heap.size w w2 := gb_new (Nat.le_refl _) (hB.trans (HBZ.out.mono sB)) hgrow (fun g hg => (HO.out.top.lt g hg).1)
            have HS2 := Lib.hid hss2
            have HB2 := Lib.hid hb2
            have HPL2 : Hid ((mv f k ++ rowM k (x + 1)).length = p + 1) := by simp only [Hid]; rw [HSN.out, List.length_append, hPL.out]; rfl
            clear hss hss2 hb2 hgrow hown' HO HBZ HN HT2 hB
            go_wp2
            go_roundw
            case rel => exact ⟨x + 1, p + 1, A3, c3', by omega, by omega, HPL2, by go_num, rfl, HS2.out, HB2.out⟩
            case measure => simp [intOf]; omega
          · have hd : decide ((0 : Int) < (x : Int) + (k : Int)) = false := decide_eq_false (by omega)
            have HSN : Hid (mv f k ++ rowM k (x + 1) = mv f k ++ rowM k x) := by simp only [Hid]; rw [rowM_succ, if_neg h0, List.append_nil]
            go_wp2
            go_roundw
            case rel => exact ⟨x + 1, p, A2, c2, by omega, by omega, by simp only [Hid]; rw [HSN.out]; exact hPL.out, by go_num, rfl, by rw [HSN.out]; exact hown, hB⟩
            case measure => simp [intOf]; omega
        · have hxe : x = q := by omega
          have hS : OwnSS wr w.heap.size (.slice A2 p c2) p (prR (mv f (k + 1))) := by rw [HMV.out, ← hxe]; exact hown
          have hP : Hid ((mv f (k + 1)).length = p) := by simp only [Hid]; rw [HMV.out, ← hxe]; exact hPL.out
          have hp6 : p ≤ 6 * (k + 1) := by omega
          have HS := Lib.hid hS
          clear hxe hS hown
          go_wp2
          go_roundw
          case rel => exact ⟨k + 1, p, A2, c2, by omega, hp6, hP, by go_num, rfl, HS.out, hB⟩
          case measure => simp [intOf]; omega
    · go_wp2
      go_ret
      have hkn : k = n := by omega
      rw [hkn] at hown
      exact ⟨A', m, c', rfl, by omega, by rw [← hkn]; exact hML.out, hown, hB⟩

/-- what ChompMoves returns -/
def mvR (l : List Int) : List (Int × Int) := if chB l then mv (fun j => l.getD j 0) 6 else []
theorem mvR_no {l : List Int} (h : chB l = false) : mvR l = [] := by simp [mvR, h]
theorem mvR_yes {l : List Int} (h : chB l = true) : mvR l = mv (fun j => l.getD j 0) 6 := by simp [mvR, h]
theorem mv_len {l : List Int} (h : ChOK l) : mv (fun j => l.getD j 0) l.length = mv (fun j => l.getD j 0) 6 := by
  have e := mv_more (f := fun j => l.getD j 0) (n := l.length) (6 - l.length) (fun j h1 _ => by have q : l.getD j 0 = 0 := getD_past h1; simp only [q]; omega)
  rw [show l.length + (6 - l.length) = 6 by have := h.2.1; omega] at e
  exact e.symm
theorem padC_fun {l : List Int} (h : chB l = true) : padC l = fun j => l.getD j 0 := funext fun j => padC_at h j
theorem prR_6 (M : List (Int × Int)) (i : Nat) : (prR M i).length ≤ 6 := by have := length_prR M i; omega



end Go.Proofs.Ytghlgmbekgfmnaa
