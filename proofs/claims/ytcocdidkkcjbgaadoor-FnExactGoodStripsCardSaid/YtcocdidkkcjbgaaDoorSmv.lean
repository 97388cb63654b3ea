/-
  Contract: the places of a strip's moves, of the program. Conditions: lengths; where the program has laid its errors.
-/
import Derived.Test.YtcocdidkkcjbgaaDoorSm
import Derived.LoopTactic
namespace Go.Proofs.YtcocdidkkcjbgaaDoor
open Go.RowKit
set_option linter.unusedSimpArgs false
set_option linter.unusedVariables false

/-- where the program has laid what its errors are told by -/
def LaidE (w : World) (a0 : Addr) : Prop := LikeAt w a0 ∧ w.cell? ⟨1, 0, none⟩ = some (rty 46) ∧ 2 ≤ w.heap.size
theorem LaidE.later {w w' : World} {a0 : Addr} {B : Nat} (h : LaidE w a0) (hb : Below B w w') (hB : 2 ≤ B) (hw : 2 ≤ w'.heap.size) : LaidE w' a0 :=
  ⟨h.1.later hb hB, (hb.cell (p := ⟨1, 0, none⟩) (Nat.lt_of_lt_of_le (by decide) hB)).trans h.2.1, hw⟩
theorem own_setO {w : World} {B e z n g : Nat} {v u : Value} {xs : List Value} (h : w.ownsRow B e z v n xs) (hg : ∀ q, v.ownBlock = some q → q < g) : (w.setCell ⟨g, 0, none⟩ u).ownsRow B e z v n xs := by
  refine h.kept (w' := w.setCell ⟨g, 0, none⟩ u) (row := some g) ⟨rfl, rfl, rfl, by simp, fun i hi hr => ?_⟩ ?_
  · have hne : i ≠ g := fun e => hr (by rw [e])
    simp only [World.setCell, Array.getElem?_modify]
    rw [if_neg (fun e => hne e.symm)]
  · rcases hv : v.ownBlock with _ | q
    · exact .inl rfl
    · refine .inr fun e => ?_
      have := hg q hv
      simp only [Option.some.injEq] at e
      omega

theorem intS_info : (Tryd.prog.info? 3).map (fun i => (i.zero, i.size, i.bytes)) = some (some (.int .i64 0), 1, 8) := by kernel_rfl

set_option maxRecDepth 100000 in
set_option maxHeartbeats 8000000 in
theorem stripMoves_any (long l : Int) (u : Bool) (a0 : Addr) (w : World) (hL : LaidE w a0) (h1 : 1 ≤ long) (h2 : long ≤ 60) (h3 : 1 ≤ l) (h4 : l ≤ 60) :
    Calls Tryd.prog 39 #[.int .i64 long, rul l u] w fun e w' => ∃ A n c, e = .returned (.slice A n c) ∧ w'.ownsRow w.heap.size 3 1 (.slice A n c) n (intCells (smL long l u)) ∧ Below w.heap.size w w' := by
  obtain ⟨i0, hi, hz0, hz1, hz2⟩ := info_parts intS_info
  have hng := hL.2.2
  have hmf : ∀ (fn : Fn) (first cap : Array Value) (w : World), (Instr.makeFunc fn first cap).run Tryd.prog w = .ok (.func fn first cap) w := fun _ _ _ _ => rfl
  have bw0 : Below w.heap.size w ((w.alloc (.cells #[.int .i64 long] 3)).alloc (.cells #[.int .i64 l, .bool u] 61)) := by (repeat (first | (with_reducible exact Below.refl _ _) | (with_reducible assumption) | (with_reducible refine Below.drew ?_) | ((with_reducible refine balloc ?_ _ ?_); · (first | (simp; done) | (simp; omega) | omega)) | ((with_reducible refine bset ?_ _ ?_); · (first | (simp; done) | (simp; omega) | omega)) | (with_reducible refine bdrewN _ ?_) | ((with_reducible refine bcall ?_ (by assumption) ?_); · (first | (simp; done) | (simp; omega) | omega))))
  have c0 : ((w.alloc (.cells #[.int .i64 long] 3)).alloc (.cells #[.int .i64 l, .bool u] 61)).cell? ⟨w.heap.size, 0, none⟩ = some (.int .i64 long) := by rw [World.cell?_alloc_lt _ _ _ (by simp)]; simp [go_sem]
  have c1 : ((w.alloc (.cells #[.int .i64 long] 3)).alloc (.cells #[.int .i64 l, .bool u] 61)).cell? ⟨w.heap.size + 1, 0, none⟩ = some (.int .i64 l) := by simp [go_sem]
  have c2 : ((w.alloc (.cells #[.int .i64 long] 3)).alloc (.cells #[.int .i64 l, .bool u] 61)).cell? ⟨w.heap.size + 1, 1, none⟩ = some (.bool u) := by simp [go_sem]
  have sz0 : ((w.alloc (.cells #[.int .i64 long] 3)).alloc (.cells #[.int .i64 l, .bool u] 61)).heap.size = w.heap.size + 1 + 1 := by simp
  have HL0 := Lib.hid (hL.later bw0 hng (by rw [sz0]; omega))
  have C0 := Lib.hid c0
  have C1 := Lib.hid c1
  have C2 := Lib.hid c2
  have SZ0 := Lib.hid sz0
  clear c0 c1 c2 sz0 hL
  go_enter Tryd.func39, Tryd.ntmps39
  go_wp2
  generalize (w.alloc (.cells #[.int .i64 long] 3)).alloc (.cells #[.int .i64 l, .bool u] 61) = W1 at *
  have sz := SZ0.out
  go_loopw [5, 6] (fun v p wr => ∃ (k g n : Nat) (A : Option Addr) (c : Nat), v = .slice A n c ∧ p = .pointer (some ⟨g, 0, none⟩) ∧ w.heap.size + 2 ≤ g ∧ g < wr.heap.size ∧ wr.cell? ⟨g, 0, none⟩ = some (.int .i64 ((k : Int) + 1)) ∧ wr.frozen? ⟨g, 0, none⟩ = false ∧ (k : Int) ≤ 60 ∧ Hid (smT long l u k = smT long l u (min k (long / 2).toNat)) ∧ wr.ownsRow (w.heap.size + 2) 3 1 (.slice A n c) n (intCells (smT long l u k)) ∧ Hid (∀ q, (Value.slice A n c).ownBlock = some q → q < g) ∧ Below (w.heap.size + 2) W1 wr) (fun _ p wr => 62 - (match p with | .pointer (some a) => (intOf ((wr.cell? a).getD undef)).toNat | _ => 0))
  case atStart => exact ⟨0, w.heap.size + 2, 0, none, 0, rfl, by simp [sz], by omega, by simp; omega, by simp [sz, go_sem], by rw [show w.heap.size + 2 = W1.heap.size by omega]; exact World.frozen?_alloc_new _ _ _ _, by omega, by simp [Hid], World.ownsRow_nil _ _ _ _, by simp [Hid, Value.ownBlock], by (repeat (first | (with_reducible exact Below.refl _ _) | (with_reducible assumption) | (with_reducible refine Below.drew ?_) | ((with_reducible refine balloc ?_ _ ?_); · (first | (simp; done) | (simp; omega) | omega)) | ((with_reducible refine bset ?_ _ ?_); · (first | (simp; done) | (simp; omega) | omega)) | (with_reducible refine bdrewN _ ?_) | ((with_reducible refine bcall ?_ (by assumption) ?_); · (first | (simp; done) | (simp; omega) | omega))))⟩
  case round =>
    obtain ⟨k, g, n, A, c, rfl, rfl, hg, hgl, hk, hkf, hk60, hmin, hown, hq, hB⟩ := hrel
    have hS : SmAt wr w.heap.size g (w.heap.size + 1) long ((k : Int) + 1) l u := ⟨(hB.cell (p := ⟨w.heap.size, 0, none⟩) (by simp)).trans C0.out, hk, (hB.cell (p := ⟨w.heap.size + 1, 0, none⟩) (by simp)).trans C1.out, (hB.cell (p := ⟨w.heap.size + 1, 1, none⟩) (by simp)).trans C2.out⟩
    have hLr := HL0.out.later hB (by omega) (by have := hB.size; omega)
    have sB := hB.size
    have e0 := hS.1
    have HS := Lib.hid hS
    have HLr := Lib.hid hLr
    have HB := Lib.hid hB
    have HO := Lib.hid hown
    have z0 : w.heap.size < wr.heap.size := by omega
    have z1 : w.heap.size + 1 < wr.heap.size := by omega
    clear hS hLr hB hown
    by_cases hlt : (k : Int) + 1 ≤ long - ((k : Int) + 1)
    · have hlt2 : ¬ long - ((k : Int) + 1) < (k : Int) + 1 := by omega
      by_cases hlow : (k : Int) + 1 < l
      · go_wp2_with fail
        refine (try_short _ _ _ long ((k : Int) + 1) l u _ HS.out z0 hgl z1 h1 h2 h3 h4 (.inl hlow)).mono ?_; rintro e w1 ⟨rfl, hb1⟩
        have s1 := hb1.size
        have hLw := HLr.out.later (hb1.alloc (Nat.le_of_lt hgl |> fun _ => hb1.size) (.cells #[.int .i64 0] 82)) (by omega) (by simp; omega)
        have hA := as_hitB l w1.heap.size w1.heap.size (.int .i64 0) (w1.alloc (.cells #[.int .i64 0] 82)) hLw.2.1 (by simp [go_sem]) (World.frozen?_alloc_new _ _ _ _) (Nat.le_refl _) (by simp)
        have HA := Lib.hid hA
        clear hLw hA
        go_wp2_with fail
        refine HA.out.mono ?_; rintro e w2 ⟨rfl, hn2, hb2⟩
        have s2 : w1.heap.size + 1 ≤ w2.heap.size := by have := hb2.size; simpa using this
        have b12 : Below wr.heap.size wr w2 := (hb1.alloc s1 (.cells #[.int .i64 0] 82)).trans (hb2.mono s1)
        have g0 := (b12.cell (p := ⟨g, 0, none⟩) hgl).trans hk
        have g1 := (b12.frozen (p := ⟨g, 0, none⟩) hgl).trans hkf
        have hne : g ≠ w1.heap.size := by omega
        have hgl2 : g < w2.heap.size := by omega
        have hq0 := hq.out
        have HO2 := Lib.hid (own_setO (u := .int .i64 (l - 1)) (own_later HO.out b12 (Nat.le_refl _)) hq0)
        have HB2 := Lib.hid (bset (p := ⟨g, 0, none⟩) hg (.int .i64 (l - 1)) (HB.out.trans (b12.mono (by omega))))
        obtain ⟨kk, hkk⟩ : ∃ kk : Nat, (kk : Int) + 1 = l := ⟨(l - 1).toNat, by omega⟩
        have HE : Hid (smT long l u kk = smT long l u k) := by rw [Hid, smT_low (by omega), smT_low (by omega)]
        have HE2 : Hid (smT long l u kk = smT long l u (min kk (long / 2).toNat)) := by rw [Hid, smT_low (by omega), smT_low (by omega)]
        have HKK := Lib.hid hkk
        have HBB2 := Lib.hid b12
        clear hb1 hb2 b12 HA hq0 hkk
        go_wp2
        go_roundw
        case rel =>
          have hkk := HKK.out
          exact ⟨kk, w2.heap.size, n, A, c, rfl, rfl, by omega, by simp, by rw [hkk]; simp [go_sem], World.frozen?_alloc_at _ _ _ _ (by simp), by omega, HE2, by rw [HE.out]; exact HO2.out.alloc _, fun q h => Nat.lt_trans (hq.out q h) hgl2, HB2.out.alloc (by simp; omega) _⟩
        case measure =>
          have m1 : ((w2.setCell ⟨g, 0, none⟩ (.int .i64 (l - 1))).alloc (.cells #[.int .i64 l] 3)).cell? ⟨w2.heap.size, 0, none⟩ = some (.int .i64 l) := by simp [go_sem]
          simp [hk, m1, intOf]; omega
      · have hin1 : l ≤ (k : Int) + 1 := by omega
        have hin2 : (k : Int) + 1 ≤ long - l := by omega
        have hmm : min (k + 1) (long / 2).toNat = k + 1 := by omega
        by_cases hlike : u = true ∧ ((k : Int) + 1) + ((k : Int) + 1) = long
        · obtain ⟨rfl, hl2⟩ := hlike
          have HT : Hid (smT long l true k = smL long l true) := by
            have hkk2 : (long / 2).toNat = k + 1 := by omega
            have hcan : canS long ((k : Int) + 1) l true = false := by simp [canS]; omega
            rw [Hid, smL, hkk2, smT_no hcan]
          have HTR := Lib.hid (fun (wx : World) (hs : SmAt wx w.heap.size g (w.heap.size + 1) long ((k : Int) + 1) l true) hl' hg' hr' hL' hw' => try_like w.heap.size g (w.heap.size + 1) long ((k : Int) + 1) l a0 wx hs hl' hg' hr' h1 h2 h3 h4 hin1 hin2 hl2 hL' hw')
          clear hl2 hmm
          go_wp2_with fail
          refine (HTR.out _ HS.out z0 hgl z1 HLr.out.1 HLr.out.2.2).mono ?_; rintro e w1 ⟨rfl, hb1⟩
          have s1 := hb1.size
          have hLw := HLr.out.later (hb1.alloc hb1.size (.cells #[.int .i64 0] 82)) (by omega) (by simp; omega)
          have HA := Lib.hid (as_missB a0 w1.heap.size (.int .i64 0) (w1.alloc (.cells #[.int .i64 0] 82)) hLw.2.1 (by simp [go_sem]))
          clear hLw
          go_wp2_with fail
          refine HA.out.mono ?_; rintro e w2 ⟨rfl, hb2⟩
          have s2 : w1.heap.size + 1 ≤ w2.heap.size := by have := hb2.size; simpa using this
          have b12 : Below wr.heap.size wr w2 := (hb1.alloc s1 (.cells #[.int .i64 0] 82)).trans (hb2.mono (by simp; omega))
          have hL2 := HLr.out.later b12 (by omega) (by omega)
          have q0 : w2.cell? ⟨0, 0, none⟩ = some (.iface 144 (.pointer (some a0))) := hL2.1
          have HB12 := Lib.hid b12
          clear hb1 hb2 b12 hL2
          go_wp2_with fail
          refine (is_same a0 _).mono ?_; rintro e wx ⟨rfl, rfl⟩
          go_wp2
          go_ret
          exact ⟨A, n, c, rfl, by rw [← HT.out]; exact own_base (own_later HO.out HB12.out (Nat.le_refl _)) (by omega), bw0.trans ((HB.out.trans (HB12.out.mono (by omega))).mono (by omega))⟩
        · have hcan : canS long ((k : Int) + 1) l u = true := by
            simp only [canS, Bool.and_eq_true, decide_eq_true_eq, Bool.not_eq_true']
            refine ⟨⟨hin1, by omega⟩, ?_⟩
            cases u
            · rfl
            · simp; intro h; exact hlike ⟨rfl, h⟩
          have HY : Hid (smT long l u (k + 1) = smT long l u k ++ [(k : Int) + 1]) := smT_yes hcan
          have hnl : u = true → (k : Int) + 1 + ((k : Int) + 1) ≠ long := fun h1 h2 => hlike ⟨h1, h2⟩
          have HTR := Lib.hid (fun (wx : World) (hs : SmAt wx w.heap.size g (w.heap.size + 1) long ((k : Int) + 1) l u) hl' hg' hr' => try_ok w.heap.size g (w.heap.size + 1) long ((k : Int) + 1) l u wx hs hl' hg' hr' h1 h2 h3 h4 hin1 hin2 hnl)
          have hnk : n ≤ 60 := by have h := HO.out.1; rw [length_intCells] at h; have := length_smT long l u k; omega
          clear hcan hlike hnl
          go_wp2_with fail
          refine (HTR.out _ HS.out z0 hgl z1).mono ?_; rintro e w1 ⟨rfl, hb1⟩
          have s1 := hb1.size
          have g0 : (w1.alloc (.cells #[.int .i64 0] 82)).cell? ⟨g, 0, none⟩ = some (.int .i64 ((k : Int) + 1)) := (World.cell?_alloc_lt _ _ ⟨g, 0, none⟩ (by show g < w1.heap.size; omega)).trans ((hb1.cell (p := ⟨g, 0, none⟩) hgl).trans hk)
          have hgl3 : g < w1.heap.size + 1 := by omega
          have hO1 := (own_later HO.out hb1 (Nat.le_refl _)).alloc (.cells #[.int .i64 0] 82)
          have HO1 := Lib.hid hO1
          have HB1 := Lib.hid ((HB.out.trans (hb1.mono (by omega))).alloc (by omega) (.cells #[.int .i64 0] 82))
          have hc3 : n + 1 ≤ maxLen := by simp only [maxLen]; omega
          have hnw := new1 (w1.alloc (.cells #[.int .i64 0] 82)) 3 (.int .i64 ((k : Int) + 1))
          rw [show (w1.alloc (.cells #[.int .i64 0] 82)).heap.size = w1.heap.size + 1 by simp] at hnw
          clear hb1 hO1
          go_wp2_with (at_builtin; refine wpList_append_own _ rfl (.tmp 21) (.tmp 23) 33 rfl (w.heap.size + 2) 3 i0 (.int .i64 0) 1 8 Tryd.underlying33 hi hz0 hz1 hz2 rfl (by decide) _ _ _ rfl (HO1.out.alloc _) ⟨w1.heap.size + 1, 0, none⟩ 1 1 [.int .i64 ((k : Int) + 1)] rfl rfl hnw (int_oneCell [_]) hc3 (by omega) (by simp; omega) ?_)
          intro v' w4 hown' hgrow _
          have hb4 := bgrow (HB1.out.alloc (by simp; omega) (.cells #[.int .i64 ((k : Int) + 1)] 3)) (HO1.out.alloc _) hgrow (by simp; omega)
          obtain ⟨A', c', rfl⟩ := own_slice hown'
          have s4 : w1.heap.size + 2 ≤ w4.heap.size := by have := hgrow.size; simp at this; omega
          have hnr : ∀ q, (Value.slice A n c).ownBlock = some q → q ≠ g := fun q hqq => by have := hq.out q hqq; omega
          have g4 : w4.cell? ⟨g, 0, none⟩ = some (.int .i64 ((k : Int) + 1)) := by
            refine hgrow.cell (a := ⟨g, 0, none⟩) ?_ (fun e => hnr g e.symm rfl)
            rw [World.cell?_alloc_lt _ _ ⟨g, 0, none⟩ (by simp; omega)]; exact g0
          have HLT : Hid (∀ q, (Value.slice A' (n + 1) c').ownBlock = some q → q < w4.heap.size) := fun q hqq => (hown'.lt q hqq).2
          have HO4 := Lib.hid hown'
          have HB4 := Lib.hid hb4
          have HMIN : Hid (smT long l u (k + 1) = smT long l u (min (k + 1) (long / 2).toNat)) := by rw [Hid, hmm]
          have hgl4 : g < w4.heap.size := by omega
          clear hown' hb4 hgrow hnw g0 hnr hmm
          go_wp2
          go_roundw
          case rel =>
            exact ⟨k + 1, w4.heap.size, n + 1, A', c', rfl, rfl, by omega, by simp, by simp [go_sem], World.frozen?_alloc_at _ _ _ _ (by simp), by omega, HMIN, by rw [HY.out, intCells_append]; exact HO4.out.alloc _, HLT, HB4.out.alloc (by omega) _⟩
          case measure =>
            simp [hk, intOf, go_sem]; omega
    · have hkk : min k (long / 2).toNat = (long / 2).toNat := by omega
      have hT := hmin.out
      rw [hkk] at hT
      have HT := Lib.hid hT
      clear hT hkk
      go_wp2
      go_ret
      exact ⟨A, n, c, rfl, by rw [smL, ← HT.out]; exact own_base HO.out (by omega), bw0.trans (HB.out.mono (by omega))⟩
end Go.Proofs.YtcocdidkkcjbgaaDoor
