/-
  Contract: SlabsText of the program. Conditions: the table of the powers of ten is as the program's text lays it.
-/
import Derived.Test.YtghlgmbekgfmnabDoorSlT
import Derived.Test.YtghlgmbekgfmnabDoorItoaL
import Derived.Test.YtghlgmbekgfmnabDoorRegA
import Derived.Lib.AppendIntMem
import Derived.Lib.SmallJoins
namespace Go.Proofs.YtghlgmbekgfmnabDoor
open Go.RowKit Go.Joins
set_option linter.unusedVariables false
set_option linter.unusedSimpArgs false

def TabP (w : World) : Prop := Lib.TabIs Tryd.prog w "internal/strconv.uint64pow10" .u64 Lib.pow10Tab
theorem TabP.later {w w' : World} {B : Nat} (h : TabP w) (hb : Below B w w') (hB : w.heap.size ≤ B) : TabP w' :=
  tab_stays (g := 3) (by kernel_rfl) h hb hB
theorem TabP.drew {w : World} (h : TabP w) : TabP w.drew := h.later (Below.refl _ _).drew (Nat.le_refl _)
theorem str_infoS : (Tryd.prog.info? 9).map (fun i => (i.zero, i.size, i.bytes)) = some (some (.string ByteArray.empty), 1, 16) := by kernel_rfl
theorem itoa_any (k : Nat) (hk : k ≤ 1000000) (w : World) (h : TabP w) :
    Calls Tryd.prog 29 #[.int .i64 k] w fun e w' => e = .returned (.string (decS k)) ∧ Below w.heap.size w w' :=
  (Tryd.strconv_Itoa k (by omega) (by omega) w h).mono fun e w' ⟨he, q, os, hw⟩ => ⟨by rw [he, Lib.itoa_nonneg]; rfl, by rw [hw]; exact Lib.below_grow _ _ (Nat.le_refl _) q os⟩
theorem own_capS {w : World} {B e z n m b c : Nat} {xs : List Value} (h : w.ownsRow B e z (.slice (some ⟨b, 0, none⟩) n c) m xs) : m = n → n ≤ c := by
  intro e1
  subst e1
  rcases h.2 with ⟨h0, _⟩ | ⟨g, cap, cur, hv, _, _, h1, h2, _, _⟩
  · cases h0
  · cases hv
    exact h1
theorem own_atS {w : World} {B e z n c : Nat} {A : Option Addr} {xs : List Value} (h : w.ownsRow B e z (.slice A n c) n xs) (hn : 1 ≤ n) : ∃ b, A = some ⟨b, 0, none⟩ ∧ B ≤ b ∧ b < w.heap.size := by
  rcases h.2 with ⟨h0, _⟩ | ⟨g, cap, cur, hv, hB, hg, h1, h2, _, _⟩
  · cases h0
    omega
  · cases hv
    exact ⟨g, rfl, h.lt g rfl⟩
theorem slL_take {S : List Sb} {k : Nat} (h : k < S.length) : (slL S).take (k + 1) = (slL S).take k ++ [slT S[k]] := by
  have hk : k < (slL S).length := by simpa [slL] using h
  rw [List.take_succ_eq_append_getElem hk]
  simp [slL]
theorem length_slL (S : List Sb) : (slL S).length = S.length := by simp [slL]

set_option maxRecDepth 100000 in
set_option maxHeartbeats 8000000 in
theorem slabsText_any (A : Option Addr) (n c : Nat) (S : List Sb) (w : World) (hr : Rd w 2 A n (pairCells S)) (hn : n ≤ 4000000000) (ht : TabP w) :
    Calls Tryd.prog 10 #[.slice A n c] w fun e w' => e = .returned (textV (slR S) (slB S)) ∧ Below w.heap.size w w' := by
  have HG := Lib.hid (fun wx h => areSlabs_any A n c S wx h hn)
  have hll : S.length = n := by have := hr.1; rw [length_pairCells] at this; omega
  cases hB : slB S
  · rw [show slR S = ⟨#[]⟩ by simp [slR, hB]]
    rw [hB] at HG
    clear hB hll
    go_enter Tryd.func10, Tryd.ntmps10
    go_wp2_with fail
    refine (HG.out _ hr).mono ?_; rintro e w1 ⟨rfl, hb1⟩
    go_wp2
    refine bodyPost_ret (v := textV ⟨#[]⟩ false) (by simp [results, Tryd.results10, go_sem]) rfl ⟨rfl, hb1⟩
  · obtain ⟨i0, hi, hz0, hi1, hi2⟩ := info_parts str_infoS
    have HRS : Hid (slR S = textJ (slL S) n) := by simp [Hid, slR, hB, hll]
    have n7 : n ≤ 7 := by have := slB_len hB; omega
    have n1 : 1 ≤ n := by have := slB_len hB; omega
    have hsz := slL_size hB
    have HTZ := Lib.hid (textJ_size hsz)
    have HSA : Hid (∀ k (hk : k < S.length), 1 ≤ (S[k]).1 ∧ (S[k]).1 ≤ 1000 ∧ 1 ≤ (S[k]).2 ∧ (S[k]).2 ≤ 1000) := fun k hk => slB_at hB hk
    have HL := Lib.hid hll
    have HR := Lib.hid hr
    have HTA := Lib.hid ht
    rw [hB] at HG
    clear hB hll hsz hr ht
    go_enter Tryd.func10, Tryd.ntmps10
    go_wp2_with fail
    refine (HG.out _ HR.out).mono ?_; rintro e w1 ⟨rfl, hb1⟩
    have s1 := hb1.size
    have HB1 := Lib.hid hb1
    have HR1 := Lib.hid (HR.out.later hb1 (Nat.le_refl _))
    have HT1 := Lib.hid (HTA.out.later hb1 (Nat.le_refl _))
    clear hb1
    go_wp2
    go_loopw [4, 12] (fun v i wr => ∃ (k : Nat) (A' : Option Addr) (c' : Nat), k ≤ n ∧ i = .int .i64 k ∧ v = .slice A' k c' ∧ wr.ownsRow w1.heap.size 9 1 (.slice A' k c') k (strCells ((slL S).take k)) ∧ Below w1.heap.size w1 wr) (fun _ i _ => n - (intOf i).toNat)
    case atStart => exact ⟨0, none, 0, Nat.zero_le _, rfl, rfl, World.ownsRow_nil _ _ _ _, Below.refl _ _⟩
    case round =>
      obtain ⟨k, A', c', hk, rfl, rfl, hown, hB⟩ := hrel
      have sB := hB.size
      by_cases hlt : k < n
      · obtain ⟨b, o, rfl, hbl, hx, p1, p2⟩ := (HR1.out.later hB (Nat.le_refl _)).pair hlt
        obtain ⟨q1, q2, q3, q4⟩ := HSA.out k hx
        have HTK := Lib.hid (slL_take hx)
        generalize S[k] = q at *
        obtain ⟨x, y⟩ := q
        simp only at p1 p2 q1 q2 q3 q4
        obtain ⟨a, rfl⟩ : ∃ a : Nat, x = a := ⟨x.toNat, by omega⟩
        obtain ⟨b2, rfl⟩ : ∃ a : Nat, y = a := ⟨y.toNat, by omega⟩
        have hst : slT ((a : Int), (b2 : Int)) = decS a ++ (⟨#[94]⟩ : ByteArray) ++ decS b2 := by simp [slT]
        rw [hst] at HTK
        have z1 := (size_decE a).2
        have z2 := (size_decE b2).2
        have HX := Lib.hid (fun wx h => itoa_any a (by omega) wx h)
        have HY := Lib.hid (fun wx h => itoa_any b2 (by omega) wx h)
        have HBA := Lib.hid (hB.alloc sB (.cells #[.int .i64 a, .int .i64 b2] 51))
        have HTA2 := Lib.hid (HT1.out.later HBA.out (Nat.le_refl _))
        have HOA := Lib.hid (hown.alloc (.cells #[.int .i64 a, .int .i64 b2] 51))
        have c0 : (wr.alloc (.cells #[.int .i64 a, .int .i64 b2] 51)).cell? ⟨wr.heap.size, 0, none⟩ = some (.int .i64 a) := by simp [go_sem]
        have c1 : (wr.alloc (.cells #[.int .i64 a, .int .i64 b2] 51)).cell? ⟨wr.heap.size, 1, none⟩ = some (.int .i64 b2) := by simp [go_sem]
        have HLT := Lib.hid hown.lt
        clear hst hx hown hB
        generalize decS a = sa at *
        generalize decS b2 = sb at *
        have hc1 : ¬ 9223372036854775807 < sa.size + 1 := by omega
        have hc2 : ¬ 9223372036854775807 < sa.size + 1 + sb.size := by omega
        have hc3 : k + 1 ≤ maxLen := by simp only [maxLen]; omega
        go_wp2
        refine wp_region_held_drew (S := (fun w' => w'.cell? ⟨wr.heap.size, 0, none⟩ = some (.int .i64 a) ∧ w'.cell? ⟨wr.heap.size, 1, none⟩ = some (.int .i64 b2))) (by kernel_rfl) ?_ (fun hHeld => ?_)
        · ((try dsimp only); (repeat' apply And.intro); all_goals ((repeat (first | (with_reducible refine cell_drew ?_) | (with_reducible refine cell_drewN _ ?_) | ((with_reducible refine cell_alloc ?_ ?_); · first | omega | (simp; done) | (simp; omega) | assumption) | ((with_reducible refine cell_set ?_ ?_); · first | (intro e; injection e; omega) | (intro e; simp at e; done) | (intro e; simp at e; omega)))); first | assumption | (simp; done)))
        refine reg_on (i := 0) (d := 16) (v := ?rv1) rfl rfl (by kernel_rfl) (by kernel_rfl) (by kernel_rfl) (fun _ _ _ h => h) (by rfl) ?ry1 (by assumption) ?rr1
        case ry1 => (intro wz hSw; (try dsimp only at hSw); go_simp; try with_reducible rfl)
        (try simp only [Act.put, List.setIfInBounds_toArray, List.set_cons_zero, List.set_cons_succ])
        refine reg_on (i := 1) (d := 17) (v := ?rv2) rfl rfl (by kernel_rfl) (by kernel_rfl) (by kernel_rfl) (fun _ _ _ h => h) (by rfl) ?ry2 (by assumption) ?rr2
        case ry2 => (intro wz hSw; (try dsimp only at hSw); go_simp; try with_reducible rfl)
        (try simp only [Act.put, List.setIfInBounds_toArray, List.set_cons_zero, List.set_cons_succ])
        refine reg_on (i := 2) (d := 18) (v := ?rv3) rfl rfl (by kernel_rfl) (by kernel_rfl) (by kernel_rfl) (fun _ _ _ h => h) (by rfl) ?ry3 (by assumption) ?rr3
        case ry3 => (intro wz hSw; (try dsimp only at hSw); go_simp; try with_reducible rfl)
        (try simp only [Act.put, List.setIfInBounds_toArray, List.set_cons_zero, List.set_cons_succ])
        refine reg_on (i := 5) (d := 21) (v := ?rv4) rfl rfl (by kernel_rfl) (by kernel_rfl) (by kernel_rfl) (fun _ _ _ h => h) (by rfl) ?ry4 (by assumption) ?rr4
        case ry4 => (intro wz hSw; (try dsimp only at hSw); go_simp; try with_reducible rfl)
        (try simp only [Act.put, List.setIfInBounds_toArray, List.set_cons_zero, List.set_cons_succ])
        refine reg_on (i := 6) (d := 22) (v := ?rv5) rfl rfl (by kernel_rfl) (by kernel_rfl) (by kernel_rfl) (fun _ _ _ h => h) (by rfl) ?ry5 (by assumption) ?rr5
        case ry5 => (intro wz hSw; (try dsimp only at hSw); go_simp; try with_reducible rfl)
        (try simp only [Act.put, List.setIfInBounds_toArray, List.set_cons_zero, List.set_cons_succ])
        refine wpAnyH_ready (rs := [3]) (by kernel_rfl) (by simp) ?_
        refine AllReadyH.cons rfl (fun K hK => ?_) AllReadyH.nil
        go_simp
        go_at_call 29; refine (HX.out _ HTA2.out.drew).mono ?_; rintro e wa ⟨rfl, hba⟩; have hba2 := (Below.refl _ _).drew.trans hba; have hBA := bcall HBA.out.size hba2 HBA.out; have sa1 := hba.size; (try simp at sa1); have owa := own_later HOA.out hba2 (Nat.le_refl _); have hta := HT1.out.later hBA (Nat.le_refl _); have d0 := (hba.cell (p := ⟨wr.heap.size, 0, none⟩) (by simp)).trans (show _ = some (Value.int .i64 (a : Int)) by simp [go_sem]); have d1 := (hba.cell (p := ⟨wr.heap.size, 1, none⟩) (by simp)).trans (show _ = some (Value.int .i64 (b2 : Int)) by simp [go_sem])
        refine hK.out _ _ ?_ (fun hHeld => ?_)
        · ((try dsimp only); (repeat' apply And.intro); all_goals ((repeat (first | (with_reducible refine cell_drew ?_) | (with_reducible refine cell_drewN _ ?_) | ((with_reducible refine cell_alloc ?_ ?_); · first | omega | (simp; done) | (simp; omega) | assumption) | ((with_reducible refine cell_set ?_ ?_); · first | (intro e; injection e; omega) | (intro e; simp at e; done) | (intro e; simp at e; omega)))); first | assumption | (simp; done)))
        clear hK K
        (try simp only [Act.put, List.setIfInBounds_toArray, List.set_cons_zero, List.set_cons_succ])
        refine reg_on (i := 4) (d := 20) (v := ?rv7) rfl rfl (by kernel_rfl) (by kernel_rfl) (by kernel_rfl) (fun _ _ _ h => h) (by rfl) ?ry7 (by assumption) ?rr7
        case ry7 => (intro wz hSw; (try dsimp only at hSw); go_simp; try with_reducible rfl)
        (try simp only [Act.put, List.setIfInBounds_toArray, List.set_cons_zero, List.set_cons_succ])
        refine wpAnyH_ready (rs := [7]) (by kernel_rfl) (by simp) ?_
        refine AllReadyH.cons rfl (fun K hK => ?_) AllReadyH.nil
        go_simp
        go_at_call 29; refine (HY.out _ hta).mono ?_; rintro e wb ⟨rfl, hbb⟩; have hBB := bcall hBA.size hbb hBA; have sb1 := hbb.size; have owb := own_later owa hbb (Nat.le_refl _); have e0 := (hbb.cell (p := ⟨wr.heap.size, 0, none⟩) (by show wr.heap.size < wa.heap.size; omega)).trans d0; have e1 := (hbb.cell (p := ⟨wr.heap.size, 1, none⟩) (by show wr.heap.size < wa.heap.size; omega)).trans d1
        refine hK.out _ _ ?_ (fun hHeld => ?_)
        · ((try dsimp only); (repeat' apply And.intro); all_goals ((repeat (first | (with_reducible refine cell_drew ?_) | (with_reducible refine cell_drewN _ ?_) | ((with_reducible refine cell_alloc ?_ ?_); · first | omega | (simp; done) | (simp; omega) | assumption) | ((with_reducible refine cell_set ?_ ?_); · first | (intro e; injection e; omega) | (intro e; simp at e; done) | (intro e; simp at e; omega)))); first | assumption | (simp; done)))
        clear hK K
        (try simp only [Act.put, List.setIfInBounds_toArray, List.set_cons_zero, List.set_cons_succ])
        refine reg_on (i := 8) (d := 24) (v := ?rv9) rfl rfl (by kernel_rfl) (by kernel_rfl) (by kernel_rfl) (fun _ _ _ h => h) (by rfl) ?ry9 (by assumption) ?rr9
        case ry9 => (intro wz hSw; (try dsimp only at hSw); go_simp; try with_reducible rfl)
        (try simp only [Act.put, List.setIfInBounds_toArray, List.set_cons_zero, List.set_cons_succ])
        refine wpAnyH_ready (rs := [9]) (by kernel_rfl) (by simp) ?_
        refine AllReadyH.cons rfl (fun K hK => ?_) AllReadyH.nil
        go_simp
        refine hK.out _ _ ?_ (fun hHeld => ?_)
        · ((try dsimp only); (repeat' apply And.intro); all_goals ((repeat (first | (with_reducible refine cell_drew ?_) | (with_reducible refine cell_drewN _ ?_) | ((with_reducible refine cell_alloc ?_ ?_); · first | omega | (simp; done) | (simp; omega) | assumption) | ((with_reducible refine cell_set ?_ ?_); · first | (intro e; injection e; omega) | (intro e; simp at e; done) | (intro e; simp at e; omega)))); first | assumption | (simp; done)))
        clear hK K
        (try simp only [Act.put, List.setIfInBounds_toArray, List.set_cons_zero, List.set_cons_succ])
        refine wpAnyH_ready (rs := [10]) (by kernel_rfl) (by simp) ?_
        refine AllReadyH.cons rfl (fun K hK => ?_) AllReadyH.nil
        refine step_append_own rfl (.tmp 16) (.tmp 25) 54 rfl w1.heap.size 9 i0 (.string ByteArray.empty) 1 16 Tryd.underlying54 hi hz0 hi1 hi2 rfl (by decide) _ _ _ rfl (owb.alloc (.cells #[.string (sa ++ (⟨#[94]⟩ : ByteArray) ++ sb)] 9)) ⟨wb.heap.size, 0, none⟩ 1 1 [.string (sa ++ (⟨#[94]⟩ : ByteArray) ++ sb)] rfl rfl (new1 wb 9 _) (by intro u hu; simp at hu; subst hu; rfl) hc3 (by omega) (by have := hBB.size; simp; omega) ?_; intro v' w5 hown' hgrow _; obtain ⟨A5, c5, rfl⟩ := own_slice hown'; have hb5 := gb_new (Nat.le_refl _) (hBB.alloc hBB.size (.cells #[.string (sa ++ (⟨#[94]⟩ : ByteArray) ++ sb)] 9)) hgrow (fun g hg => (owb.lt g hg).1); have hrow : ∀ q, (Value.slice A' k c').ownBlock = some q → q < wr.heap.size := fun q hq => (HLT.out q hq).2; have hg5 := gb_trans (World.grownBy_alloc wb (.cells #[.string (sa ++ (⟨#[94]⟩ : ByteArray) ++ sb)] 9) (Value.slice A' k c').ownBlock) hgrow; have f0 : w5.cell? ⟨wr.heap.size, 0, none⟩ = some (.int .i64 a) := (World.cell?_of_block (a := ⟨wr.heap.size, 0, none⟩) (hg5.block wr.heap.size (by omega) (fun e => by have := hrow _ e.symm; omega))).trans e0; have f1 : w5.cell? ⟨wr.heap.size, 1, none⟩ = some (.int .i64 b2) := (World.cell?_of_block (a := ⟨wr.heap.size, 1, none⟩) (hg5.block wr.heap.size (by omega) (fun e => by have := hrow _ e.symm; omega))).trans e1
        refine hK.out _ _ ?_ (fun hHeld => ?_)
        · ((try dsimp only); (repeat' apply And.intro); all_goals ((repeat (first | (with_reducible refine cell_drew ?_) | (with_reducible refine cell_drewN _ ?_) | ((with_reducible refine cell_alloc ?_ ?_); · first | omega | (simp; done) | (simp; omega) | assumption) | ((with_reducible refine cell_set ?_ ?_); · first | (intro e; injection e; omega) | (intro e; simp at e; done) | (intro e; simp at e; omega)))); first | assumption | (simp; done)))
        clear hK K
        (try simp only [Act.put, List.setIfInBounds_toArray, List.set_cons_zero, List.set_cons_succ])
        refine reg_on (i := 11) (d := 4) (v := ?rv12) rfl rfl (by kernel_rfl) (by kernel_rfl) (by kernel_rfl) (fun _ _ _ h => h) (by rfl) ?ry12 (by assumption) ?rr12
        case ry12 => (intro wz hSw; (try dsimp only at hSw); go_simp; try with_reducible rfl)
        (try simp only [Act.put, List.setIfInBounds_toArray, List.set_cons_zero, List.set_cons_succ])
        refine wpAnyH_done (by kernel_rfl) ?_ _
        have HOF := Lib.hid hown'
        have HBF := Lib.hid hb5
        clear d0 d1 e0 e1 hba hbb hBA hBB hba2 owa owb hta hown' hgrow hb5 hrow hg5 f0 f1
        go_wp2
        go_roundw
        case rel => exact ⟨k + 1, A5, c5, by omega, by go_num, rfl, by rw [HTK.out, strCells_append]; exact HOF.out, HBF.out⟩
        case measure => simp [intOf]; omega
      · have hkn : k = n := by omega
        subst hkn
        have htk : (slL S).take k = slL S := List.take_of_length_le (by rw [length_slL, HL.out]; omega)
        rw [htk] at hown
        obtain ⟨g, rfl, hg1, hg2⟩ := own_atS hown n1
        have hcap := own_capS hown rfl
        have hls : (slL S).length = k := by rw [length_slL]; exact HL.out
        have hjn : (⟨(Lib.join ((slL S).map (·.data.toList)) [44]).toArray⟩ : ByteArray) = textJ (slL S) k := by rw [textJ_join, hls]
        have hjl : (Lib.join ((slL S).map (·.data.toList)) [44]).length ≤ 140737488355328 := by
          have h2 := HTZ.out k
          rw [← hjn] at h2
          have h3 : (⟨(Lib.join ((slL S).map (·.data.toList)) [44]).toArray⟩ : ByteArray).size = (Lib.join ((slL S).map (·.data.toList)) [44]).length := by simp [ByteArray.size]
          omega
        have hcall := Tryd.strings_Join g 0 c' (slL S) ⟨#[44]⟩ wr (fun j x hx => by
          have hj : j < k := by rw [← hls]; exact (List.getElem?_eq_some_iff.1 hx).1
          have h2 := hown.cellAt j (by omega)
          simp only [Nat.zero_add]
          rw [h2]
          simp [strCells, hx]) hg2 (by omega) (by omega) hjl
        rw [hls] at hcall
        have HC := Lib.hid hcall
        have HJ := Lib.hid hjn
        have HBB := Lib.hid (HB1.out.trans (hB.mono HB1.out.size))
        clear hcall hjn hjl hown hB htk
        go_wp2_with fail
        refine (HC.out).mono ?_; rintro e w6 ⟨rfl, hb6⟩
        have hB6 := bcall HBB.out.size hb6 HBB.out
        go_wp2
        refine bodyPost_ret (v := textV ⟨(Lib.join ((slL S).map (·.data.toList)) [44]).toArray⟩ true) (by simp [results, Tryd.results10, go_sem]) rfl ⟨by rw [HRS.out, HJ.out], hB6⟩
end Go.Proofs.YtghlgmbekgfmnabDoor
