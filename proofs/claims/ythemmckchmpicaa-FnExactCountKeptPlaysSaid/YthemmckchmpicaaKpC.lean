/-
  Contracts: keptPlays, CountKeptPlays of the program. Conditions: what stands in the map.
-/
import Derived.Test.YthemmckchmpicaaKp
import Derived.Test.YthemmckchmpicaaReg
namespace Go.Proofs.Ythemmckchmpicaa
open Go.RowKit Go.Maps
set_option linter.unusedVariables false
set_option linter.unusedSimpArgs false

theorem own_keepB {w w' : World} {B e z n g : Nat} {v : Value} {xs : List Value} (h : w.ownsRow B e z v n xs) (hg : w.grownBy w' (some g)) (hlt : g < B) : w'.ownsRow B e z v n xs := by
  refine h.kept hg ?_
  rcases hv : v.ownBlock with _ | q
  · exact .inl rfl
  · refine .inr fun e => ?_
    have := h.lt q hv
    simp only [Option.some.injEq] at e
    omega

theorem bar_eqlK (a b c d : Int) (w : World) : (binOp .eql 26 (bar2 a b) (bar2 c d)).run Try.prog w = .ok (.bool (a == c && b == d)) w := by
  have ht : Try.prog.underlying 26 = some (.struct (Try.prog.fieldsOf 26)) := by kernel_rfl
  have hp : Try.prog.stoodInHeld 26 = false := by kernel_rfl
  rw [run_eql_struct, run_equalIn_agg _ _ _ _ _ ht hp]
  have hi := Try.underlying3
  by_cases h1 : (a == c) = true
  · by_cases h2 : (b == d) = true
    · simp [Program.fieldsOf, Try.underlying26, Op.eqFields, hi, h1, h2, go_sem]
    · have h2' : (b == d) = false := by simpa using h2
      simp [Program.fieldsOf, Try.underlying26, Op.eqFields, hi, h1, h2', go_sem]
  · have h1' : (a == c) = false := by simpa using h1
    simp [Program.fieldsOf, Try.underlying26, Op.eqFields, hi, h1', go_sem]

set_option maxRecDepth 100000 in
set_option maxHeartbeats 4000000 in
theorem keptPlays_any (b n : Nat) (x y : Int) (M : Nat → Nat → Int) (w : World) (hM : MapAt w b n M) (hB : barB x y = true) (hG : ∀ q ∈ kmL x y, M q.1.toNat q.2.toNat = kpK q) :
    Calls Try.prog 51 #[bar2 x y, .map (some b)] w fun e w' => e = .returned (.int .i64 (kpK (x, y))) ∧ Below w.heap.size w w' := by
  by_cases h11 : x = 1 ∧ y = 1
  · obtain ⟨rfl, rfl⟩ := h11
    have heq : ∀ wx, (binOp .eql 26 (bar2 1 1) (bar2 1 1)).run Try.prog wx = .ok (.bool true) wx := fun wx => by rw [bar_eqlK]; rfl
    rw [kpK_11]
    clear hM hB hG
    go_enter Try.func51, Try.ntmps51
    go_wp2
    go_ret
    exact ⟨rfl, by (repeat (first | (with_reducible exact Below.refl _ _) | (with_reducible assumption) | (with_reducible refine Below.drew ?_) | ((with_reducible refine balloc ?_ _ ?_); · (first | (simp; done) | (simp; omega) | omega)) | ((with_reducible refine bset ?_ _ ?_); · (first | (simp; done) | (simp; omega) | omega)) | (with_reducible refine bdrewN _ ?_) | ((with_reducible refine bcall ?_ (by assumption) ?_); · (first | (simp; done) | (simp; omega) | omega))))⟩
  · have heq : ∀ wx, (binOp .eql 26 (bar2 x y) (bar2 1 1)).run Try.prog wx = .ok (.bool false) wx := fun wx => by
      rw [bar_eqlK]
      have : ((x == 1) && (y == 1)) = false := by
        rw [Bool.and_eq_false_iff]
        simp
        omega
      rw [this]
    have HK : Hid (kpK (x, y) = kfold kpK (kmL x y) 0) := by
      have h := kpK_eq (p := (x, y)) hB
      rwa [show kone (x, y) = 0 from if_neg h11] at h
    have HBB := Lib.hid hB
    have HLL := Lib.hid (length_kmL hB)
    have hbl := hM.lt
    have bw0 : Below w.heap.size w (w.alloc (.cells #[.int .i64 x, .int .i64 y] 26)) := by (repeat (first | (with_reducible exact Below.refl _ _) | (with_reducible assumption) | (with_reducible refine Below.drew ?_) | ((with_reducible refine balloc ?_ _ ?_); · (first | (simp; done) | (simp; omega) | omega)) | ((with_reducible refine bset ?_ _ ?_); · (first | (simp; done) | (simp; omega) | omega)) | (with_reducible refine bdrewN _ ?_) | ((with_reducible refine bcall ?_ (by assumption) ?_); · (first | (simp; done) | (simp; omega) | omega))))
    have HM0 := Lib.hid (hM.alloc (.cells #[.int .i64 x, .int .i64 y] 26))
    have HG := Lib.hid hG
    clear hM hB hG h11
    go_enter Try.func51, Try.ntmps51
    go_wp2_with fail
    refine (keptMoves_any _ _ _ HBB.out).mono ?_; rintro e w2 ⟨A, N, c, rfl, own2, hb2⟩
    clear heq
    have s2 : w.heap.size + 1 ≤ w2.heap.size := by have := hb2.size; simpa using this
    have hb02 : Below w.heap.size w w2 := bw0.trans (hb2.mono (by simp))
    have HM2 := Lib.hid (HM0.out.below hb2 (by simp; omega))
    have hn : (kmL x y).length = N := by have := own2.1; rw [length_pairCells] at this; omega
    have hn22 : N ≤ 22 := by have := HLL.out; omega
    have HBS := Lib.hid (kmL_bars HBB.out)
    have HSUM : Hid (∀ k (hk : k < (kmL x y).length), kfold kpK ((kmL x y).take (k + 1)) 0 = min (kfold kpK ((kmL x y).take k) 0 + kpK ((kmL x y)[k])) 1000000000000001) := fun k hk => kfold_take kpK hk 0
    have HIN : Hid (∀ k, 0 ≤ kfold kpK ((kmL x y).take k) 0 ∧ kfold kpK ((kmL x y).take k) 0 ≤ 1000000000000001) := fun k => kfold_in (fun q _ => (kpK_in q).1) (by omega) (by omega)
    generalize hMM : kmL x y = L at *
    have HN := Lib.hid hn
    have hr := Rd.of_own own2
    have HB02 := Lib.hid hb02
    clear hn hMM own2 hb2 hb02 bw0
    go_wp2
    go_loopw [5, 14] (fun s i wr => ∃ k : Nat, k ≤ N ∧ i = .int .i64 k ∧ s = .int .i64 (kfold kpK (L.take k) 0) ∧ Below w2.heap.size w2 wr) (fun _ i _ => N - (intOf i).toNat)
    case atStart => exact ⟨0, by omega, rfl, by simp [kfold], Below.refl _ _⟩
    case round =>
      obtain ⟨k, hk, rfl, rfl, hB⟩ := hrel
      have sB := hB.size
      by_cases hlt : k < N
      · obtain ⟨b', o, rfl, hbl', hx, p0, p1⟩ := (hr.later hB (Nat.le_refl _)).pair hlt
        have hBp := barB_true (HBS.out _ (List.getElem_mem hx))
        have hSUM := HSUM.out k hx
        have hGq := HG.out _ (List.getElem_mem hx)
        have hin := HIN.out k
        have hkin := kpK_in L[k]
        have hMA := (HM2.out.below hB (by omega)).alloc (.cells #[.int .i64 (L[k]).1, .int .i64 (L[k]).2] 26)
        generalize kpK L[k] = v at *
        generalize kfold kpK (L.take k) 0 = s at *
        generalize (L[k]).1 = p at *
        generalize (L[k]).2 = q at *
        obtain ⟨P, rfl⟩ : ∃ P : Nat, p = P := ⟨p.toNat, by omega⟩
        obtain ⟨Q, rfl⟩ : ∃ Q : Nat, q = Q := ⟨q.toNat, by omega⟩
        simp only [Int.toNat_natCast] at hGq
        have hlk := hMA.look (x := P) (y := Q) (by omega) (by omega)
        rw [hGq] at hlk
        have HSUM2 := Lib.hid hSUM
        obtain ⟨i1, i2⟩ := hin
        obtain ⟨j1, j2⟩ := hkin
        have HBW := Lib.hid hB
        have hbl2 : b' < wr.heap.size + 1 := by omega
        clear hMA hGq hSUM hBp hB
        go_wp2
        go_roundw
        case rel => exact ⟨k + 1, by omega, by go_num, by rw [HSUM2.out]; congr 1; split <;> omega, HBW.out.alloc (by omega) _⟩
        case measure => simp [intOf]; omega
      · go_wp2
        go_ret
        obtain rfl : k = N := by omega
        have hK := HK.out
        rw [List.take_of_length_le (by rw [HN.out]; exact Nat.le_refl _)]
        exact ⟨ret_int hK.symm, HB02.out.trans (hB.mono (by have := HB02.out.size; omega))⟩

set_option maxRecDepth 100000 in
set_option maxHeartbeats 4000000 in
theorem countKeptPlays_yes (X Y : Nat) (w : World) (hB : barB X Y = true) :
    Calls Try.prog 34 #[bar2 X Y] w fun e w' => e = .returned (.tuple #[.int .i64 (ckN X Y), .bool (ckB X Y)]) ∧ Below w.heap.size w w' := by
  have hmm := @run_makeMap Try.prog
  obtain ⟨x1, x2, y1, y2⟩ := barB_true hB
  have HLAST := Lib.hid (grid_last (X := X) (Y := Y) (by omega) (by omega))
  have HBB := Lib.hid hB
  have HBEF : Hid (∀ (k : Nat) (hk : k < (gridL Y X).length) (q : Int × Int), q ∈ kmL ((gridL Y X)[k]).1 ((gridL Y X)[k]).2 → q ∈ (gridL Y X).take k) := fun k hk q hq => grid_before hk hq
  have hlen : (gridL Y X).length ≤ 144 := by rw [length_gridL]; exact grid_le (by omega) (by omega)
  have HLEN := Lib.hid hlen
  clear hlen
  go_enter Try.func34, Try.ntmps34
  go_wp2_with fail
  refine (isBar_any _ _ _).mono ?_; rintro e w1 ⟨rfl, hb1⟩; have s1 := hb1.size; obtain ⟨hc1, hf1⟩ := bcell hb1; have z1_w0 : w.heap.size < w1.heap.size := (by have q := s1; first | omega | (simp at q; omega))
  have c0 : w1.cell? ⟨w.heap.size, 0, none⟩ = some (.int .i64 X) := by rw [hc1 _ _ (by simp)]; simp [go_sem]
  have c1 : w1.cell? ⟨w.heap.size, 1, none⟩ = some (.int .i64 Y) := by rw [hc1 _ _ (by simp)]; simp [go_sem]
  have bw1 : Below w.heap.size w w1 := by (repeat (first | (with_reducible exact Below.refl _ _) | (with_reducible assumption) | (with_reducible refine Below.drew ?_) | ((with_reducible refine balloc ?_ _ ?_); · (first | (simp; done) | (simp; omega) | omega)) | ((with_reducible refine bset ?_ _ ?_); · (first | (simp; done) | (simp; omega) | omega)) | (with_reducible refine bdrewN _ ?_) | ((with_reducible refine bcall ?_ (by assumption) ?_); · (first | (simp; done) | (simp; omega) | omega))))
  have hmade := MapAt.made w1 (fun _ _ => 0) (fun _ _ => rfl)
  have HMADE := Lib.hid hmade
  have bm : Below w1.heap.size w1 (w1.alloc (.map #[] 0)) := by (repeat (first | (with_reducible exact Below.refl _ _) | (with_reducible assumption) | (with_reducible refine Below.drew ?_) | ((with_reducible refine balloc ?_ _ ?_); · (first | (simp; done) | (simp; omega) | omega)) | ((with_reducible refine bset ?_ _ ?_); · (first | (simp; done) | (simp; omega) | omega)) | (with_reducible refine bdrewN _ ?_) | ((with_reducible refine bcall ?_ (by assumption) ?_); · (first | (simp; done) | (simp; omega) | omega))))
  have hsm : (w1.alloc (.map #[] 0)).heap.size = w1.heap.size + 1 := by simp
  have HSM := Lib.hid hsm
  have HBM := Lib.hid bm
  have C0 := Lib.hid c0
  have C1 := Lib.hid c1
  have BW1 := Lib.hid bw1
  have s1b := bw1.size
  have hk0 : (w1.alloc (.map #[] 0)).cell? ⟨w.heap.size, 0, none⟩ = some (.int .i64 X) := (bm.cell (p := ⟨w.heap.size, 0, none⟩) z1_w0).trans c0
  have hk1 : (w1.alloc (.map #[] 0)).cell? ⟨w.heap.size, 1, none⟩ = some (.int .i64 Y) := (bm.cell (p := ⟨w.heap.size, 1, none⟩) z1_w0).trans c1
  clear hc1 hf1 hb1 bw1 hmade bm hsm c0 c1
  go_wp2_with fail
  clear hB
  refine (barsWithin_any _ _ _ HBB.out).mono ?_; rintro e w2 ⟨A, N, c, rfl, own2, hb2⟩
  clear hk0 hk1 hmm
  have s2 : w1.heap.size + 1 ≤ w2.heap.size := by have := hb2.size; rw [HSM.out] at this; exact this
  have HB12 := Lib.hid (HBM.out.trans (hb2.mono (by rw [HSM.out]; omega)))
  have HM2 := Lib.hid (HMADE.out.below hb2 (by rw [HSM.out]; omega))
  have hn : (gridL Y X).length = N := by have := own2.1; rw [length_pairCells] at this; omega
  have hn144 : N ≤ 144 := by have := HLEN.out; omega
  have HBS := Lib.hid (gridL_bars HBB.out)
  generalize hMM : gridL Y X = L at *
  have HN := Lib.hid hn
  rw [HSM.out] at own2
  have HOW := Lib.hid own2
  clear hn hMM own2 hb2
  go_wp2
  go_loopw [14] (fun i wr => ∃ (k : Nat) (M : Nat → Nat → Int), k ≤ N ∧ i = .int .i64 k ∧ MapAt wr w1.heap.size k M ∧ Hid (∀ p ∈ L.take k, M p.1.toNat p.2.toNat = kpK p) ∧ Below w1.heap.size w1 wr ∧ wr.ownsRow (w1.heap.size + 1) 26 2 (.slice A N c) N (pairCells L) ∧ w2.heap.size ≤ wr.heap.size) (fun i _ => N - (intOf i).toNat)
  case atStart => exact ⟨0, _, by omega, rfl, HM2.out, by simp [Hid], HB12.out, HOW.out, Nat.le_refl _⟩
  case round =>
    obtain ⟨k, M, hk, rfl, hM, hD, hB, hown, hsz⟩ := hrel
    have e0 := (hB.cell (p := ⟨w.heap.size, 0, none⟩) z1_w0).trans C0.out
    have e1 := (hB.cell (p := ⟨w.heap.size, 1, none⟩) z1_w0).trans C1.out
    have sB := hB.size
    by_cases hlt : k < N
    · obtain ⟨b', o, rfl, hbl', hx, p0, p1⟩ := (Rd.of_own hown).pair hlt
      have hBq := HBS.out _ (List.getElem_mem hx)
      have hBp := barB_true hBq
      have HBq := Lib.hid hBq
      have hGq : ∀ q ∈ kmL (L[k]).1 (L[k]).2, M q.1.toNat q.2.toNat = kpK q := fun q hq => hD.out q (HBEF.out k hx q hq)
      have hkin := kpK_in L[k]
      have HDN : Hid (∀ M' : Nat → Nat → Int, (∀ p : Int × Int, barB p.1 p.2 = true → p ≠ L[k] → M' p.1.toNat p.2.toNat = M p.1.toNat p.2.toNat) → M' (L[k]).1.toNat (L[k]).2.toNat = kpK L[k] → ∀ p ∈ L.take (k + 1), M' p.1.toNat p.2.toNat = kpK p) := by
        intro M' h1 h2 p hp
        by_cases e : p = L[k]
        · rw [e, h2]
        · rw [List.take_succ_eq_append_getElem hx, List.mem_append, List.mem_singleton] at hp
          rcases hp with hp | hp
          · rw [h1 p (HBS.out p (List.mem_of_mem_take hp)) e]; exact hD.out p hp
          · exact absurd hp e
      have HLK : Hid (L[k] = ((L[k]).1, (L[k]).2)) := rfl
      generalize hpq : L[k] = pq at *
      clear hpq
      obtain ⟨p, q⟩ := pq
      simp only at p0 p1 hBq hBp HBq hGq hkin HDN HLK
      obtain ⟨P, rfl⟩ : ∃ P : Nat, p = P := ⟨p.toNat, by omega⟩
      obtain ⟨Q, rfl⟩ : ∃ Q : Nat, q = Q := ⟨q.toNat, by omega⟩
      have hP : P ≤ 100 := by omega
      have hQ : Q ≤ 100 := by omega
      have HGQ := Lib.hid hGq
      have hMA := hM.alloc (.cells #[.int .i64 P, .int .i64 Q] 26)
      have HMA := Lib.hid hMA
      have bA := hB.alloc sB (.cells #[.int .i64 P, .int .i64 Q] 26)
      have BA := Lib.hid bA
      have HOA := Lib.hid (hown.alloc (.cells #[.int .i64 P, .int .i64 Q] 26))
      generalize hv : kpK ((P : Int), (Q : Int)) = v at *
      have hvw : (Lit.int .i64 v).wf = true := WalkArith.wf_i64 ⟨by omega, by omega⟩
      have HVW := Lib.hid hvw
      have HV := Lib.hid hv
      have hk1 : k ≤ 100000 := by omega
      have hbl2 : b' < wr.heap.size + 1 := by omega
      have d0 : (wr.alloc (.cells #[.int .i64 P, .int .i64 Q] 26)).cell? ⟨wr.heap.size, 0, none⟩ = some (.int .i64 P) := by simp [go_sem]
      have d1 : (wr.alloc (.cells #[.int .i64 P, .int .i64 Q] 26)).cell? ⟨wr.heap.size, 1, none⟩ = some (.int .i64 Q) := by simp [go_sem]
      have szA : (wr.alloc (.cells #[.int .i64 P, .int .i64 Q] 26)).heap.size = wr.heap.size + 1 := by simp
      have hbm : w1.heap.size < wr.heap.size := by omega
      have hKP : ∀ wx : World, MapAt wx w1.heap.size k M → Calls Try.prog 51 #[bar2 P Q, .map (some w1.heap.size)] wx fun e w' => e = .returned (.int .i64 v) ∧ Below wx.heap.size wx w' := fun wx hm => by
        have h := keptPlays_any w1.heap.size k P Q M wx hm HBq.out HGQ.out
        rwa [HV.out] at h
      have HKP := Lib.hid hKP
      clear hBq hGq hkin hM hB hown hMA bA hvw hv hKP hBp
      go_wp2
      generalize wr.alloc (.cells #[.int .i64 P, .int .i64 Q] 26) = wA at *
      have hltA : wr.heap.size < wA.heap.size := by omega
      clear e0 e1 p0 p1
      refine wp_region_held_drew (S := (fun w' => w'.cell? ⟨wr.heap.size, 0, none⟩ = some (.int .i64 P) ∧ w'.cell? ⟨wr.heap.size, 1, none⟩ = some (.int .i64 Q))) (by kernel_rfl) ?_ (fun hHeld => ?_)
      · ((try dsimp only); (repeat' apply And.intro); all_goals ((repeat (first | (with_reducible refine cell_drew ?_) | (with_reducible refine cell_drewN _ ?_) | ((with_reducible refine cell_alloc ?_ ?_); · first | omega | (simp; done) | (simp; omega) | assumption) | ((with_reducible refine cell_set ?_ ?_); · first | (intro e; injection e; omega) | (intro e; simp at e; done) | (intro e; simp at e; omega)))); first | assumption | (simp; done)))
      refine reg_on (i := 0) (d := 18) (v := ?rv1) rfl rfl (by kernel_rfl) (by kernel_rfl) (by kernel_rfl) (fun _ _ _ h => h) (by rfl) ?ry1 (by assumption) ?rr1
      case ry1 => (intro wz hSw; (try dsimp only at hSw); go_simp; try with_reducible rfl)
      (try simp only [Act.put, List.setIfInBounds_toArray, List.set_cons_zero, List.set_cons_succ])
      refine reg_on (i := 1) (d := 19) (v := ?rv2) rfl rfl (by kernel_rfl) (by kernel_rfl) (by kernel_rfl) (fun _ _ _ h => h) (by rfl) ?ry2 (by assumption) ?rr2
      case ry2 => (intro wz hSw; (try dsimp only at hSw); go_simp; try with_reducible rfl)
      (try simp only [Act.put, List.setIfInBounds_toArray, List.set_cons_zero, List.set_cons_succ])
      refine reg_on (i := 2) (d := 20) (v := ?rv3) rfl rfl (by kernel_rfl) (by kernel_rfl) (by kernel_rfl) (fun _ _ _ h => h) (by rfl) ?ry3 (by assumption) ?rr3
      case ry3 => (intro wz hSw; (try dsimp only at hSw); go_simp; try with_reducible rfl)
      (try simp only [Act.put, List.setIfInBounds_toArray, List.set_cons_zero, List.set_cons_succ])
      refine reg_on (i := 3) (d := 21) (v := ?rv4) rfl rfl (by kernel_rfl) (by kernel_rfl) (by kernel_rfl) (fun _ _ _ h => h) (by rfl) ?ry4 (by assumption) ?rr4
      case ry4 => (intro wz hSw; (try dsimp only at hSw); go_simp; try with_reducible rfl)
      (try simp only [Act.put, List.setIfInBounds_toArray, List.set_cons_zero, List.set_cons_succ])
      refine wpAnyH_ready (rs := [4]) (by kernel_rfl) (by simp) ?_
      refine AllReadyH.cons rfl (fun K hK => ?_) AllReadyH.nil
      go_simp
      go_at_call 51; refine (HKP.out _ (by exact HMA.out.drew)).mono ?_; rintro e w7 ⟨rfl, hb7⟩; have s7 := hb7.size; (try simp at s7); have hM7 : MapAt w7 w1.heap.size k M := HMA.out.drew.below hb7 (by first | (simp; omega) | omega); obtain ⟨w8, hrun8, hM8, hg8⟩ := hM7.put hk1 hP hQ v HVW.out; have f0 : w7.cell? ⟨wr.heap.size, 0, none⟩ = some (.int .i64 P) := (hb7.cell (p := ⟨wr.heap.size, 0, none⟩) (by first | (simp; done) | (simp; omega) | omega)).trans (by first | assumption | (go_split_ands; assumption)); have f1 : w7.cell? ⟨wr.heap.size, 1, none⟩ = some (.int .i64 Q) := (hb7.cell (p := ⟨wr.heap.size, 1, none⟩) (by first | (simp; done) | (simp; omega) | omega)).trans (by first | assumption | (go_split_ands; assumption)); have hne8 : some wr.heap.size ≠ some w1.heap.size := (by simp; omega); have f2 := hg8.cell (a := ⟨wr.heap.size, 0, none⟩) f0 hne8; have f3 := hg8.cell (a := ⟨wr.heap.size, 1, none⟩) f1 hne8
      refine hK.out _ _ ?_ (fun hHeld => ?_)
      · ((try dsimp only); (repeat' apply And.intro); all_goals ((repeat (first | (with_reducible refine cell_drew ?_) | (with_reducible refine cell_drewN _ ?_) | ((with_reducible refine cell_alloc ?_ ?_); · first | omega | (simp; done) | (simp; omega) | assumption) | ((with_reducible refine cell_set ?_ ?_); · first | (intro e; injection e; omega) | (intro e; simp at e; done) | (intro e; simp at e; omega)))); first | assumption | (simp; done)))
      clear hK K
      (try simp only [Act.put, List.setIfInBounds_toArray, List.set_cons_zero, List.set_cons_succ])
      refine wpAnyH_ready (rs := [5]) (by kernel_rfl) (by simp) ?_
      refine AllReadyH.cons rfl (fun K hK => ?_) AllReadyH.nil
      go_simp
      refine hK.out _ _ ?_ (fun hHeld => ?_)
      · ((try dsimp only); (repeat' apply And.intro); all_goals ((repeat (first | (with_reducible refine cell_drew ?_) | (with_reducible refine cell_drewN _ ?_) | ((with_reducible refine cell_alloc ?_ ?_); · first | omega | (simp; done) | (simp; omega) | assumption) | ((with_reducible refine cell_set ?_ ?_); · first | (intro e; injection e; omega) | (intro e; simp at e; done) | (intro e; simp at e; omega)))); first | assumption | (simp; done)))
      clear hK K
      (try simp only [Act.put, List.setIfInBounds_toArray, List.set_cons_zero, List.set_cons_succ])
      refine wpAnyH_done (by kernel_rfl) ?_ _
      have b8 : Below w1.heap.size w1 w8 := (BA.out.drew.trans (hb7.mono (by simp; omega))).grown hg8 (by omega) (fun k hk => by have : w1.heap.size = k := (by simpa using hk); omega)
      have own7 := own_later HOA.out.drew hb7 (Nat.le_refl _)
      have own8 := own_keepB own7 hg8 (Nat.lt_succ_self _)
      have hD8 := HDN.out (upd M P Q v) (fun p hp hne => upd_other (fun e => hne (by obtain ⟨h1, h2, h3, h4⟩ := barB_true hp; exact Prod.ext (by simp; omega) (by simp; omega)))) (by simp only [Int.toNat_natCast]; rw [upd_same])
      have sz8 : w2.heap.size ≤ w8.heap.size := by have := hg8.size; omega
      have HM8 := Lib.hid hM8
      have B8 := Lib.hid b8
      have HD8 := Lib.hid hD8
      have HO8 := Lib.hid own8
      clear hM7 hrun8 hM8 hg8 hb7 f0 f1 f2 f3 hne8 b8 d0 d1 hD8 own7 own8
      go_wp2
      go_roundw
      case rel => exact ⟨k + 1, _, by omega, by go_num, HM8.out, HD8, B8.out, HO8.out, sz8⟩
      case measure => simp [intOf]; omega
    · obtain rfl : k = N := by omega
      have hDX := hD.out (X, Y) (by rw [List.take_of_length_le (by rw [HN.out]; exact Nat.le_refl _)]; exact HLAST.out)
      simp only [Int.toNat_natCast] at hDX
      have hlook := hM.look (x := X) (y := Y) (by omega) (by omega)
      rw [hDX] at hlook
      have hbf := BW1.out.trans (hB.mono s1b)
      have HBF := Lib.hid hbf
      have hbb := HBB.out
      by_cases hgt : 1000000000000000 < kpK ((X : Int), (Y : Int))
      · have hgt' : decide ((1000000000000000 : Int) < kpK ((X : Int), (Y : Int))) = true := decide_eq_true hgt
        have HN1 : Hid (ckN X Y = 0) := if_neg (by omega)
        have HN2 : Hid (ckB X Y = false) := by simp [Hid, ckB]; intro; omega
        generalize kpK ((X : Int), (Y : Int)) = v at *
        clear hM hD hB hown hDX hbf hbb hgt
        go_wp2
        go_ret2
        exact ⟨by simp [HN1.out, HN2.out], HBF.out⟩
      · have hgt' : decide ((1000000000000000 : Int) < kpK ((X : Int), (Y : Int))) = false := decide_eq_false hgt
        have HN1 : Hid (ckN X Y = kpK ((X : Int), (Y : Int))) := if_pos ⟨hbb, by omega⟩
        have HN2 : Hid (ckB X Y = true) := by simp [Hid, ckB, hbb]; omega
        generalize kpK ((X : Int), (Y : Int)) = v at *
        clear hM hD hB hown hDX hbf hbb hgt
        go_wp2
        go_ret2
        exact ⟨by simp [HN1.out, HN2.out], HBF.out⟩

end Go.Proofs.Ythemmckchmpicaa
