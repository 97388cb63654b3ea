/-
  Contract: PuzzleText of the program. Conditions: none.
-/
import Derived.Test.YtghlgmbekgfmnabDoorPuT
import Derived.Test.YtghlgmbekgfmnabDoorItoaB
import Derived.Test.YtghlgmbekgfmnabDoorRegA
import Derived.Test.YtghlgmbekgfmnabDoorStrs
import Derived.Lib.SmallJoins
namespace Go.Proofs.YtghlgmbekgfmnabDoor
open Go.RowKit Go.Joins
set_option linter.unusedVariables false
set_option linter.unusedSimpArgs false

theorem str_infoS : (Tryd.prog.info? 9).map (fun i => (i.zero, i.size, i.bytes)) = some (some (.string ByteArray.empty), 1, 16) := by kernel_rfl
theorem itoa_any (k : Nat) (hk : k < 100) (w : World) :
    Calls Tryd.prog 29 #[.int .i64 k] w fun e w' => e = .returned (.string (decS k)) ∧ w' = w := Tryd.strconv_Itoa_small k hk w
theorem own_capS {w : World} {B e z n m b c : Nat} {xs : List Value} (h : w.ownsRow B e z (.slice (some ⟨b, 0, none⟩) n c) m xs) : m = n → n ≤ c := by
  intro e1
  subst e1
  rcases h.2 with ⟨h0, _⟩ | ⟨g, cap, cur, hv, _, _, h1, h2, _, _⟩
  · cases h0
  · cases hv
    exact h1
theorem own_atS {w : World} {B e z n c : Nat} {A : Option Addr} {xs : List Value} (h : w.ownsRow B e z (.slice A n c) n xs) (hn : 1 ≤ n) : ∃ b, A = some ⟨b, 0, none⟩ ∧ B ≤ b ∧ b < w.heap.size := by
  rcases h.2 with ⟨h0, _⟩ | ⟨g, cap, cur, hv, hB, hg, h1, h2, _, _⟩
  · cases h0
    omega
  · cases hv
    exact ⟨g, rfl, h.lt g rfl⟩
theorem puL_take {S : List Clu} {k : Nat} (h : k < S.length) : (puL S).take (k + 1) = (puL S).take k ++ [puT S[k]] := by
  have hk : k < (puL S).length := by simpa [puL] using h
  rw [List.take_succ_eq_append_getElem hk]
  simp [puL]
theorem length_puL (S : List Clu) : (puL S).length = S.length := by simp [puL]
set_option maxHeartbeats 1000000 in
theorem join_nil (A : Option Addr) (c : Nat) (s : ByteArray) (w : World) :
    Calls Tryd.prog 30 #[.slice A 0 c, .string s] w fun e w' => e = .returned (.string ⟨#[]⟩) ∧ Below w.heap.size w w' := by
  go_enter Tryd.func30, Tryd.ntmps30
  go_wp2
  go_ret
  exact ⟨rfl, by (repeat (first | (with_reducible exact Below.refl _ _) | (with_reducible assumption) | (with_reducible refine Below.drew ?_) | ((with_reducible refine balloc ?_ _ ?_); · (first | (simp; done) | (simp; omega) | omega)) | ((with_reducible refine bset ?_ _ ?_); · (first | (simp; done) | (simp; omega) | omega)) | (with_reducible refine bdrewN _ ?_) | ((with_reducible refine bcall ?_ (by assumption) ?_); · (first | (simp; done) | (simp; omega) | omega))))⟩

set_option maxRecDepth 100000 in
set_option maxHeartbeats 8000000 in
theorem puzzleText_any (A : Option Addr) (n c : Nat) (S : List Clu) (w : World) (hr : Rd w 3 A n (boxCells S)) (hn : n ≤ 4000000000) :
    Calls Tryd.prog 19 #[puzV A n c] w fun e w' => e = .returned (textV (puR S) (pzB S)) ∧ Below w.heap.size w w' := by
  have HG := Lib.hid (fun wx h => isPuzzle_any A n c S wx h hn)
  have hll : S.length = n := by have := hr.1; rw [length_boxCells] at this; omega
  have hb0 : Below w.heap.size w (w.alloc (.cells #[.slice A n c] 41)) := (Below.refl _ _).alloc (Nat.le_refl _) _
  have HR0 := Lib.hid (hr.later hb0 (Nat.le_refl _))
  have HB0 := Lib.hid hb0
  cases hB : pzB S
  · rw [show puR S = ⟨#[]⟩ by simp [puR, hB]]
    rw [hB] at HG
    clear hB hll hb0
    go_enter Tryd.func19, Tryd.ntmps19
    go_wp2_with fail
    refine (HG.out _ HR0.out).mono ?_; rintro e w1 ⟨rfl, hb1⟩
    have hB1 := bcall (by simp) hb1 HB0.out
    clear hb1
    go_wp2
    refine bodyPost_ret (v := textV ⟨#[]⟩ false) (by simp [results, Tryd.results19, go_sem]) rfl ⟨rfl, hB1⟩
  · obtain ⟨i0, hi, hz0, hi1, hi2⟩ := info_parts str_infoS
    have HRS : Hid (puR S = textJ (puL S) n) := by simp [Hid, puR, hB, hll]
    have n6 : n ≤ 6 := by have := (pzB_true hB).1; omega
    have hsz := puL_size hB
    have HTZ := Lib.hid (textJ_size hsz)
    have HSA : Hid (∀ k (hk : k < S.length), 0 ≤ (S[k]).1 ∧ (S[k]).1 < 100 ∧ 0 ≤ (S[k]).2.1 ∧ (S[k]).2.1 < 100 ∧ 0 ≤ (S[k]).2.2 ∧ (S[k]).2.2 < 100) := fun k hk => puB_at hB hk
    have HL := Lib.hid hll
    have HR := Lib.hid hr
    rw [hB] at HG
    clear hB hll hsz hr hb0
    go_enter Tryd.func19, Tryd.ntmps19
    go_wp2_with fail
    refine (HG.out _ HR0.out).mono ?_; rintro e w1 ⟨rfl, hb1⟩
    have s1 := hb1.size
    simp at s1
    have d0 : w1.cell? ⟨w.heap.size, 0, none⟩ = some (.slice A n c) := (hb1.cell (p := ⟨w.heap.size, 0, none⟩) (by simp)).trans (by simp [go_sem])
    have HB1 := Lib.hid (bcall (by simp) hb1 HB0.out)
    have HR1 := Lib.hid (HR.out.later HB1.out (Nat.le_refl _))
    clear hb1
    go_wp2
    clear d0
    go_loopw [4, 13] (fun v i wr => ∃ (k : Nat) (A' : Option Addr) (c' : Nat), k ≤ n ∧ i = .int .i64 k ∧ v = .slice A' k c' ∧ wr.ownsRow w1.heap.size 9 1 (.slice A' k c') k (strCells ((puL S).take k)) ∧ Below w1.heap.size w1 wr) (fun _ i _ => n - (intOf i).toNat)
    case atStart => exact ⟨0, none, 0, Nat.zero_le _, rfl, rfl, World.ownsRow_nil _ _ _ _, Below.refl _ _⟩
    case round =>
      obtain ⟨k, A', c', hk, rfl, rfl, hown, hB⟩ := hrel
      have sB := hB.size
      by_cases hlt : k < n
      · obtain ⟨b, o, rfl, hbl, hx, p1, p2, p3⟩ := (HR1.out.later hB (Nat.le_refl _)).box hlt
        obtain ⟨q1, q2, q3, q4, q5, q6⟩ := HSA.out k hx
        have HTK := Lib.hid (puL_take hx)
        generalize S[k] = q at *
        obtain ⟨x, y, z⟩ := q
        simp only at p1 p2 p3 q1 q2 q3 q4 q5 q6
        obtain ⟨a, rfl⟩ : ∃ a : Nat, x = a := ⟨x.toNat, by omega⟩
        obtain ⟨b2, rfl⟩ : ∃ a : Nat, y = a := ⟨y.toNat, by omega⟩
        obtain ⟨b3, rfl⟩ : ∃ a : Nat, z = a := ⟨z.toNat, by omega⟩
        have hst : puT ((a : Int), (b2 : Int), (b3 : Int)) = decS a ++ (⟨#[46]⟩ : ByteArray) ++ decS b2 ++ (⟨#[46]⟩ : ByteArray) ++ decS b3 := by simp [puT]
        rw [hst] at HTK
        have z1 := (size_decS (n := a) (by omega)).2
        have z2 := (size_decS (n := b2) (by omega)).2
        have z3 := (size_decS (n := b3) (by omega)).2
        have HX := Lib.hid (fun wx => itoa_any a (by omega) wx)
        have HY := Lib.hid (fun wx => itoa_any b2 (by omega) wx)
        have HZ := Lib.hid (fun wx => itoa_any b3 (by omega) wx)
        have HBA := Lib.hid (hB.alloc sB (.cells #[.int .i64 a, .int .i64 b2, .int .i64 b3] 70))
        have HOA := Lib.hid (hown.alloc (.cells #[.int .i64 a, .int .i64 b2, .int .i64 b3] 70))
        have HLT := Lib.hid hown.lt
        have c0 : (wr.alloc (.cells #[.int .i64 a, .int .i64 b2, .int .i64 b3] 70)).cell? ⟨wr.heap.size, 0, none⟩ = some (.int .i64 a) := by simp [go_sem]
        have c1 : (wr.alloc (.cells #[.int .i64 a, .int .i64 b2, .int .i64 b3] 70)).cell? ⟨wr.heap.size, 1, none⟩ = some (.int .i64 b2) := by simp [go_sem]
        have c2 : (wr.alloc (.cells #[.int .i64 a, .int .i64 b2, .int .i64 b3] 70)).cell? ⟨wr.heap.size, 2, none⟩ = some (.int .i64 b3) := by simp [go_sem]
        clear hst hx hown hB
        generalize decS a = sa at *
        generalize decS b2 = sb at *
        generalize decS b3 = sc at *
        have hc1 : ¬ 9223372036854775807 < sa.size + 1 := by omega
        have hc2 : ¬ 9223372036854775807 < sa.size + 1 + sb.size := by omega
        have hc3 : ¬ 9223372036854775807 < sa.size + 1 + sb.size + 1 := by omega
        have hc4 : ¬ 9223372036854775807 < sa.size + 1 + sb.size + 1 + sc.size := by omega
        have hc9 : k + 1 ≤ maxLen := by simp only [maxLen]; omega
        go_wp2
        refine wp_region_held_drew (S := (fun w' => w'.cell? ⟨wr.heap.size, 0, none⟩ = some (.int .i64 a) ∧ w'.cell? ⟨wr.heap.size, 1, none⟩ = some (.int .i64 b2) ∧ w'.cell? ⟨wr.heap.size, 2, none⟩ = some (.int .i64 b3))) (by kernel_rfl) ?_ (fun hHeld => ?_)
        · ((try dsimp only); (repeat' apply And.intro); all_goals ((repeat (first | (with_reducible refine cell_drew ?_) | (with_reducible refine cell_drewN _ ?_) | ((with_reducible refine cell_alloc ?_ ?_); · first | omega | (simp; done) | (simp; omega) | assumption) | ((with_reducible refine cell_set ?_ ?_); · first | (intro e; injection e; omega) | (intro e; simp at e; done) | (intro e; simp at e; omega)))); first | assumption | (simp; done)))
        refine reg_on (i := 0) (d := 17) (v := ?rv1) rfl rfl (by kernel_rfl) (by kernel_rfl) (by kernel_rfl) (fun _ _ _ h => h) (by rfl) ?ry1 (by assumption) ?rr1
        case ry1 => (intro wz hSw; (try dsimp only at hSw); go_simp; try with_reducible rfl)
        (try simp only [Act.put, List.setIfInBounds_toArray, List.set_cons_zero, List.set_cons_succ])
        refine reg_on (i := 1) (d := 18) (v := ?rv2) rfl rfl (by kernel_rfl) (by kernel_rfl) (by kernel_rfl) (fun _ _ _ h => h) (by rfl) ?ry2 (by assumption) ?rr2
        case ry2 => (intro wz hSw; (try dsimp only at hSw); go_simp; try with_reducible rfl)
        (try simp only [Act.put, List.setIfInBounds_toArray, List.set_cons_zero, List.set_cons_succ])
        refine reg_on (i := 2) (d := 19) (v := ?rv3) rfl rfl (by kernel_rfl) (by kernel_rfl) (by kernel_rfl) (fun _ _ _ h => h) (by rfl) ?ry3 (by assumption) ?rr3
        case ry3 => (intro wz hSw; (try dsimp only at hSw); go_simp; try with_reducible rfl)
        (try simp only [Act.put, List.setIfInBounds_toArray, List.set_cons_zero, List.set_cons_succ])
        refine reg_on (i := 5) (d := 22) (v := ?rv4) rfl rfl (by kernel_rfl) (by kernel_rfl) (by kernel_rfl) (fun _ _ _ h => h) (by rfl) ?ry4 (by assumption) ?rr4
        case ry4 => (intro wz hSw; (try dsimp only at hSw); go_simp; try with_reducible rfl)
        (try simp only [Act.put, List.setIfInBounds_toArray, List.set_cons_zero, List.set_cons_succ])
        refine reg_on (i := 6) (d := 23) (v := ?rv5) rfl rfl (by kernel_rfl) (by kernel_rfl) (by kernel_rfl) (fun _ _ _ h => h) (by rfl) ?ry5 (by assumption) ?rr5
        case ry5 => (intro wz hSw; (try dsimp only at hSw); go_simp; try with_reducible rfl)
        (try simp only [Act.put, List.setIfInBounds_toArray, List.set_cons_zero, List.set_cons_succ])
        refine reg_on (i := 10) (d := 27) (v := ?rv6) rfl rfl (by kernel_rfl) (by kernel_rfl) (by kernel_rfl) (fun _ _ _ h => h) (by rfl) ?ry6 (by assumption) ?rr6
        case ry6 => (intro wz hSw; (try dsimp only at hSw); go_simp; try with_reducible rfl)
        (try simp only [Act.put, List.setIfInBounds_toArray, List.set_cons_zero, List.set_cons_succ])
        refine reg_on (i := 11) (d := 28) (v := ?rv7) rfl rfl (by kernel_rfl) (by kernel_rfl) (by kernel_rfl) (fun _ _ _ h => h) (by rfl) ?ry7 (by assumption) ?rr7
        case ry7 => (intro wz hSw; (try dsimp only at hSw); go_simp; try with_reducible rfl)
        (try simp only [Act.put, List.setIfInBounds_toArray, List.set_cons_zero, List.set_cons_succ])
        refine wpAnyH_ready (rs := [3]) (by kernel_rfl) (by simp) ?_
        refine AllReadyH.cons rfl (fun K hK => ?_) AllReadyH.nil
        go_simp
        go_at_call 29; refine (HX.out _).mono ?_; rintro e wx ⟨rfl, rfl⟩
        refine hK.out _ _ ?_ (fun hHeld => ?_)
        · ((try dsimp only); (repeat' apply And.intro); all_goals ((repeat (first | (with_reducible refine cell_drew ?_) | (with_reducible refine cell_drewN _ ?_) | ((with_reducible refine cell_alloc ?_ ?_); · first | omega | (simp; done) | (simp; omega) | assumption) | ((with_reducible refine cell_set ?_ ?_); · first | (intro e; injection e; omega) | (intro e; simp at e; done) | (intro e; simp at e; omega)))); first | assumption | (simp; done)))
        clear hK K
        (try simp only [Act.put, List.setIfInBounds_toArray, List.set_cons_zero, List.set_cons_succ])
        refine reg_on (i := 4) (d := 21) (v := ?rv9) rfl rfl (by kernel_rfl) (by kernel_rfl) (by kernel_rfl) (fun _ _ _ h => h) (by rfl) ?ry9 (by assumption) ?rr9
        case ry9 => (intro wz hSw; (try dsimp only at hSw); go_simp; try with_reducible rfl)
        (try simp only [Act.put, List.setIfInBounds_toArray, List.set_cons_zero, List.set_cons_succ])
        refine wpAnyH_ready (rs := [7]) (by kernel_rfl) (by simp) ?_
        refine AllReadyH.cons rfl (fun K hK => ?_) AllReadyH.nil
        go_simp
        go_at_call 29; refine (HY.out _).mono ?_; rintro e wx ⟨rfl, rfl⟩
        refine hK.out _ _ ?_ (fun hHeld => ?_)
        · ((try dsimp only); (repeat' apply And.intro); all_goals ((repeat (first | (with_reducible refine cell_drew ?_) | (with_reducible refine cell_drewN _ ?_) | ((with_reducible refine cell_alloc ?_ ?_); · first | omega | (simp; done) | (simp; omega) | assumption) | ((with_reducible refine cell_set ?_ ?_); · first | (intro e; injection e; omega) | (intro e; simp at e; done) | (intro e; simp at e; omega)))); first | assumption | (simp; done)))
        clear hK K
        (try simp only [Act.put, List.setIfInBounds_toArray, List.set_cons_zero, List.set_cons_succ])
        refine reg_on (i := 8) (d := 25) (v := ?rv11) rfl rfl (by kernel_rfl) (by kernel_rfl) (by kernel_rfl) (fun _ _ _ h => h) (by rfl) ?ry11 (by assumption) ?rr11
        case ry11 => (intro wz hSw; (try dsimp only at hSw); go_simp; try with_reducible rfl)
        (try simp only [Act.put, List.setIfInBounds_toArray, List.set_cons_zero, List.set_cons_succ])
        refine reg_on (i := 9) (d := 26) (v := ?rv12) rfl rfl (by kernel_rfl) (by kernel_rfl) (by kernel_rfl) (fun _ _ _ h => h) (by rfl) ?ry12 (by assumption) ?rr12
        case ry12 => (intro wz hSw; (try dsimp only at hSw); go_simp; try with_reducible rfl)
        (try simp only [Act.put, List.setIfInBounds_toArray, List.set_cons_zero, List.set_cons_succ])
        refine wpAnyH_ready (rs := [12]) (by kernel_rfl) (by simp) ?_
        refine AllReadyH.cons rfl (fun K hK => ?_) AllReadyH.nil
        go_simp
        go_at_call 29; refine (HZ.out _).mono ?_; rintro e wx ⟨rfl, rfl⟩
        refine hK.out _ _ ?_ (fun hHeld => ?_)
        · ((try dsimp only); (repeat' apply And.intro); all_goals ((repeat (first | (with_reducible refine cell_drew ?_) | (with_reducible refine cell_drewN _ ?_) | ((with_reducible refine cell_alloc ?_ ?_); · first | omega | (simp; done) | (simp; omega) | assumption) | ((with_reducible refine cell_set ?_ ?_); · first | (intro e; injection e; omega) | (intro e; simp at e; done) | (intro e; simp at e; omega)))); first | assumption | (simp; done)))
        clear hK K
        (try simp only [Act.put, List.setIfInBounds_toArray, List.set_cons_zero, List.set_cons_succ])
        refine reg_on (i := 13) (d := 30) (v := ?rv14) rfl rfl (by kernel_rfl) (by kernel_rfl) (by kernel_rfl) (fun _ _ _ h => h) (by rfl) ?ry14 (by assumption) ?rr14
        case ry14 => (intro wz hSw; (try dsimp only at hSw); go_simp; try with_reducible rfl)
        (try simp only [Act.put, List.setIfInBounds_toArray, List.set_cons_zero, List.set_cons_succ])
        refine wpAnyH_ready (rs := [14]) (by kernel_rfl) (by simp) ?_
        refine AllReadyH.cons rfl (fun K hK => ?_) AllReadyH.nil
        go_simp
        refine hK.out _ _ ?_ (fun hHeld => ?_)
        · ((try dsimp only); (repeat' apply And.intro); all_goals ((repeat (first | (with_reducible refine cell_drew ?_) | (with_reducible refine cell_drewN _ ?_) | ((with_reducible refine cell_alloc ?_ ?_); · first | omega | (simp; done) | (simp; omega) | assumption) | ((with_reducible refine cell_set ?_ ?_); · first | (intro e; injection e; omega) | (intro e; simp at e; done) | (intro e; simp at e; omega)))); first | assumption | (simp; done)))
        clear hK K
        (try simp only [Act.put, List.setIfInBounds_toArray, List.set_cons_zero, List.set_cons_succ])
        refine wpAnyH_ready (rs := [15]) (by kernel_rfl) (by simp) ?_
        refine AllReadyH.cons rfl (fun K hK => ?_) AllReadyH.nil
        refine step_append_own rfl (.tmp 17) (.tmp 31) 54 rfl w1.heap.size 9 i0 (.string ByteArray.empty) 1 16 Tryd.underlying54 hi hz0 hi1 hi2 rfl (by decide) _ _ _ rfl (by first | exact HOA.out.alloc (.cells #[.string (sa ++ (⟨#[46]⟩ : ByteArray) ++ sb ++ (⟨#[46]⟩ : ByteArray) ++ sc)] 9) | exact World.ownsRow.drew (HOA.out.alloc (.cells #[.string (sa ++ (⟨#[46]⟩ : ByteArray) ++ sb ++ (⟨#[46]⟩ : ByteArray) ++ sc)] 9))) ⟨wr.heap.size + 1, 0, none⟩ 1 1 [.string (sa ++ (⟨#[46]⟩ : ByteArray) ++ sb ++ (⟨#[46]⟩ : ByteArray) ++ sc)] rfl rfl (fun j u hj => by have h := new1 (wr.alloc (.cells #[.int .i64 a, .int .i64 b2, .int .i64 b3] 70)) 9 _ j u hj; rw [show (wr.alloc (.cells #[.int .i64 a, .int .i64 b2, .int .i64 b3] 70)).heap.size = wr.heap.size + 1 by simp] at h; exact h) (by intro u hu; simp at hu; subst hu; rfl) hc9 (by omega) (by simp; omega) ?_; intro v' w5 hown' hgrow _; obtain ⟨A5, c5, rfl⟩ := own_slice hown'; have hb5 := gb_new (Nat.le_refl _) (by first | exact HBA.out.alloc HBA.out.size (.cells #[.string (sa ++ (⟨#[46]⟩ : ByteArray) ++ sb ++ (⟨#[46]⟩ : ByteArray) ++ sc)] 9) | exact (HBA.out.alloc HBA.out.size (.cells #[.string (sa ++ (⟨#[46]⟩ : ByteArray) ++ sb ++ (⟨#[46]⟩ : ByteArray) ++ sc)] 9)).drew) hgrow (fun g hg => (HOA.out.lt g hg).1); have hrow : ∀ q, (Value.slice A' k c').ownBlock = some q → q < wr.heap.size := fun q hq => (HLT.out q hq).2; have f0 : w5.cell? ⟨wr.heap.size, 0, none⟩ = some (.int .i64 a) := (World.cell?_of_block (a := ⟨wr.heap.size, 0, none⟩) (hgrow.block wr.heap.size (by first | (simp; done) | (simp; omega)) (fun e => by have := hrow _ e.symm; omega))).trans (show _ = some (Value.int .i64 (a : Int)) by simp [go_sem]); have f1 : w5.cell? ⟨wr.heap.size, 1, none⟩ = some (.int .i64 b2) := (World.cell?_of_block (a := ⟨wr.heap.size, 1, none⟩) (hgrow.block wr.heap.size (by first | (simp; done) | (simp; omega)) (fun e => by have := hrow _ e.symm; omega))).trans (show _ = some (Value.int .i64 (b2 : Int)) by simp [go_sem]); have f2 : w5.cell? ⟨wr.heap.size, 2, none⟩ = some (.int .i64 b3) := (World.cell?_of_block (a := ⟨wr.heap.size, 2, none⟩) (hgrow.block wr.heap.size (by first | (simp; done) | (simp; omega)) (fun e => by have := hrow _ e.symm; omega))).trans (show _ = some (Value.int .i64 (b3 : Int)) by simp [go_sem])
        refine hK.out _ _ ?_ (fun hHeld => ?_)
        · ((try dsimp only); (repeat' apply And.intro); all_goals ((repeat (first | (with_reducible refine cell_drew ?_) | (with_reducible refine cell_drewN _ ?_) | ((with_reducible refine cell_alloc ?_ ?_); · first | omega | (simp; done) | (simp; omega) | assumption) | ((with_reducible refine cell_set ?_ ?_); · first | (intro e; injection e; omega) | (intro e; simp at e; done) | (intro e; simp at e; omega)))); first | assumption | (simp; done)))
        clear hK K
        (try simp only [Act.put, List.setIfInBounds_toArray, List.set_cons_zero, List.set_cons_succ])
        refine reg_on (i := 16) (d := 4) (v := ?rv17) rfl rfl (by kernel_rfl) (by kernel_rfl) (by kernel_rfl) (fun _ _ _ h => h) (by rfl) ?ry17 (by assumption) ?rr17
        case ry17 => (intro wz hSw; (try dsimp only at hSw); go_simp; try with_reducible rfl)
        (try simp only [Act.put, List.setIfInBounds_toArray, List.set_cons_zero, List.set_cons_succ])
        refine wpAnyH_done (by kernel_rfl) ?_ _
        have HOF := Lib.hid hown'
        have HBF := Lib.hid hb5
        clear hown' hgrow hb5 hrow f0 f1 f2
        go_wp2
        go_roundw
        case rel => exact ⟨k + 1, A5, c5, by omega, by go_num, rfl, by rw [HTK.out, strCells_append]; exact HOF.out, HBF.out⟩
        case measure => simp [intOf]; omega
      · have hkn : k = n := by omega
        subst hkn
        by_cases h0 : k = 0
        · subst h0
          have HBB := Lib.hid (HB1.out.trans (hB.mono HB1.out.size))
          have HJ := Lib.hid (fun wx => join_nil A' c' ⟨#[44]⟩ wx)
          clear hown hB
          go_wp2_with fail
          refine (HJ.out _).mono ?_; rintro e w6 ⟨rfl, hb6⟩
          have hB6 := bcall HBB.out.size hb6 HBB.out
          go_wp2
          refine bodyPost_ret (v := textV ⟨#[]⟩ true) (by simp [results, Tryd.results19, go_sem]) rfl ⟨by rw [HRS.out]; rfl, hB6⟩
        · have htk : (puL S).take k = puL S := List.take_of_length_le (by rw [length_puL, HL.out]; omega)
          rw [htk] at hown
          obtain ⟨g, rfl, hg1, hg2⟩ := own_atS hown (by omega)
          have hcap := own_capS hown rfl
          have hls : (puL S).length = k := by rw [length_puL]; exact HL.out
          have hjn : (⟨(Lib.join ((puL S).map (·.data.toList)) [44]).toArray⟩ : ByteArray) = textJ (puL S) k := by rw [textJ_join, hls]
          have hjl : (Lib.join ((puL S).map (·.data.toList)) [44]).length ≤ 140737488355328 := by
            have h2 := HTZ.out k
            rw [← hjn] at h2
            have h3 : (⟨(Lib.join ((puL S).map (·.data.toList)) [44]).toArray⟩ : ByteArray).size = (Lib.join ((puL S).map (·.data.toList)) [44]).length := by simp [ByteArray.size]
            omega
          have hcall := Tryd.strings_Join g 0 c' (puL S) ⟨#[44]⟩ wr (fun j x hx => by
            have hj : j < k := by rw [← hls]; exact (List.getElem?_eq_some_iff.1 hx).1
            have h2 := hown.cellAt j (by omega)
            simp only [Nat.zero_add]
            rw [h2]
            simp [strCells, hx]) hg2 (by omega) (by omega) hjl
          rw [hls] at hcall
          have HC := Lib.hid hcall
          have HJ := Lib.hid hjn
          have HBB := Lib.hid (HB1.out.trans (hB.mono HB1.out.size))
          clear hcall hjn hjl hown hB htk
          go_wp2_with fail
          refine (HC.out).mono ?_; rintro e w6 ⟨rfl, hb6⟩
          have hB6 := bcall HBB.out.size hb6 HBB.out
          go_wp2
          refine bodyPost_ret (v := textV ⟨(Lib.join ((puL S).map (·.data.toList)) [44]).toArray⟩ true) (by simp [results, Tryd.results19, go_sem]) rfl ⟨by rw [HRS.out, HJ.out], hB6⟩
end Go.Proofs.YtghlgmbekgfmnabDoor
