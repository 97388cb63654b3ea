/-
  Contracts: FirstToEat of the model; which break is the first.
-/
import Derived.Test.YtobncknlipeinaaChpS
namespace Go.Proofs.Ytobncknlipeinaa
open Go.RowKit Go.Maps
set_option linter.unusedVariables false
set_option linter.unusedSimpArgs false

theorem IsMin.unique {S : Int → Prop} {a b : Int} (h : IsMin S a) (k : IsMin S b) : a = b := by
  rcases h with ⟨h1, h2⟩ | ⟨h1, h2, h3⟩
  · rcases k with ⟨k1, _⟩ | ⟨_, k2, _⟩
    · omega
    · exact absurd k2 (h2 _)
  · rcases k with ⟨_, k2⟩ | ⟨_, k2, k3⟩
    · exact absurd h2 (k2 _)
    · have := h3 _ k2; have := k3 _ h2; omega
/-- what it costs if this break is first, down or not -/
def CandX (M : C3) (x y s : Nat) (d : Bool) (t : Nat) : Int → Prop := if d then CandD M x y s t else CandA M x y s t
/-- with this break first it costs no more -/
def HitM (M : C3) (x y s : Nat) (d : Bool) (t : Nat) : Prop := IsMin (CandX M x y s d t) (M x y s)
def FirstHit (M : C3) (x y s : Nat) (d : Bool) (t : Nat) : Prop :=
  1 ≤ t ∧ HitM M x y s d t ∧ (t < if d then x else y) ∧ (∀ t2, 1 ≤ t2 → t2 < t → ¬ HitM M x y s d t2) ∧ (d = false → ∀ t2, 1 ≤ t2 → t2 < x → ¬ HitM M x y s true t2)
theorem FirstHit.same {M : C3} {x y s : Nat} {d d' : Bool} {t t' : Nat} (h : FirstHit M x y s d t) (k : FirstHit M x y s d' t') : d = d' ∧ t = t' := by
  obtain ⟨a1, a2, a3, a4, a5⟩ := h
  obtain ⟨b1, b2, b3, b4, b5⟩ := k
  have hd : d = d' := by
    cases d <;> cases d'
    · rfl
    · exact absurd b2 (a5 rfl t' b1 (by simpa using b3))
    · exact absurd a2 (b5 rfl t a1 (by simpa using a3))
    · rfl
  subst hd
  refine ⟨rfl, ?_⟩
  rcases Nat.lt_trichotomy t t' with q | q | q
  · exact absurd a2 (b4 t a1 q)
  · exact q
  · exact absurd b2 (a4 t' b1 q)
/-- some break is the first -/
theorem hit_some {M : C3} {x y s : Nat} (hM : RecM M x y) (hx1 : 1 ≤ x) (hx2 : x ≤ 12) (hy1 : 1 ≤ y) (hy2 : y ≤ 12) (h0 : 0 < s) (h1 : s < x * y) (hno : ∀ t, 1 ≤ t → t < x → ¬ HitM M x y s true t) : ∃ t, 1 ≤ t ∧ t < y ∧ HitM M x y s false t := by
  have hm := hM.min x y s hx1 (Nat.le_refl _) hy1 (Nat.le_refl _) h0 h1
  have hle := (eat_le hM hx2 hy2 (x + y) x y s (Nat.le_refl _) hx1 (Nat.le_refl _) hy1 (Nat.le_refl _) (Nat.le_of_lt h1)).1
  rcases hm with ⟨e, _⟩ | ⟨m0, m1, m2⟩
  · omega
  · rcases m1 with ⟨t, t1, t2, hc⟩ | ⟨t, t1, t2, hc⟩
    · exact absurd (.inr ⟨m0, hc, fun v hv => m2 v (.inl ⟨t, t1, t2, hv⟩)⟩) (hno t t1 t2)
    · exact ⟨t, t1, t2, .inr ⟨m0, hc, fun v hv => m2 v (.inr ⟨t, t1, t2, hv⟩)⟩⟩

set_option maxRecDepth 100000 in
set_option maxHeartbeats 4000000 in
theorem sFirst_yes (x y s : Nat) (w : World) (hx1 : 1 ≤ x) (hx2 : x ≤ 12) (hy1 : 1 ≤ y) (hy2 : y ≤ 12) (hs0 : 0 < s) (hsxy : s < x * y) :
    Calls Try.prog 11 #[bar2 x y, .int .i64 s] w fun e w' => ∃ (M : C3) (d : Bool) (t : Nat), RecM M x y ∧ FirstHit M x y s d t ∧ e = .returned (.tuple #[.bool d, .int .i64 t, .bool true]) ∧ Below w.heap.size w w' := by
  have hok : someB x y s = true := by
    have e : ((x * y : Nat) : Int) = (x : Int) * (y : Int) := Int.natCast_mul x y
    simp only [someB, barB, inB, Bool.and_eq_true, decide_eq_true_eq]
    omega
  have HSM : Hid (∀ wx, Calls Try.prog 24 #[bar2 x y, .int .i64 s] wx fun e w' => e = .returned (.bool true) ∧ Below wx.heap.size wx w') := fun wx => by have h := brSome_any x y s wx; rwa [hok] at h
  have HBE := Lib.hid (fun wx => brEat_any x y wx hx1 hx2 hy1 hy2)
  have z1 : (x : Int) < (x : Int) + 1 := by omega
  have z2 : (y : Int) < (y : Int) + 1 := by omega
  obtain ⟨N, hN⟩ : ∃ N, Hid (N = x * y) := ⟨_, rfl⟩
  have HSX := Lib.hid hsxy
  rw [← hN.out] at hsxy
  have hN144 : N ≤ 144 := by rw [hN.out]; exact Nat.le_trans (Nat.mul_le_mul hx2 hy2) (by omega)
  have hNi : (x : Int) * (y : Int) = (N : Int) := by rw [hN.out]; exact (Int.natCast_mul x y).symm
  have wN : IntKind.i64.wrap ((x : Int) * (y : Int)) = (N : Int) := by rw [hNi]; exact IntWalk.i64_in _ ⟨by omega, by omega⟩
  have y0 : ((s : Int) == 0) = false := by simp; omega
  have yN : ((s : Int) == (N : Int)) = false := by simp; omega
  have z3 : s < N + 1 := by omega
  have z4 : (s : Int) < (N : Int) + 1 := by omega
  clear hok
  go_enter Try.func11, Try.ntmps11
  go_wp2_with fail
  refine (HSM.out _).mono ?_; rintro e w1 ⟨rfl, hb1⟩; have s1 := hb1.size; obtain ⟨hc1, hf1⟩ := bcell hb1; have z1_w0 : w.heap.size < w1.heap.size := (by have q := s1; first | omega | (simp at q; omega))
  have c0 : w1.cell? ⟨w.heap.size, 0, none⟩ = some (.int .i64 (x : Int)) := by rw [hc1 _ _ (by simp)]; simp [go_sem]
  have c1 : w1.cell? ⟨w.heap.size, 1, none⟩ = some (.int .i64 (y : Int)) := by rw [hc1 _ _ (by simp)]; simp [go_sem]
  have bw1 : Below w.heap.size w w1 := by (repeat (first | (with_reducible exact Below.refl _ _) | (with_reducible assumption) | (with_reducible refine Below.drew ?_) | ((with_reducible refine balloc ?_ _ ?_); · (first | (simp; done) | (simp; omega) | omega)) | ((with_reducible refine bset ?_ _ ?_); · (first | (simp; done) | (simp; omega) | omega)) | (with_reducible refine bdrewN _ ?_) | ((with_reducible refine bcall ?_ (by assumption) ?_); · (first | (simp; done) | (simp; omega) | omega))))
  clear hc1 hf1 hb1
  go_wp2_with fail
  refine (HBE.out _).mono ?_; rintro e we ⟨M, tab, rfl, hTS⟩
  have hbe := hTS.bl
  have se := hbe.size
  have hw1 : w.heap.size < w1.heap.size := by omega
  have k0 : we.cell? ⟨w.heap.size, 0, none⟩ = some (.int .i64 (x : Int)) := (hbe.cell (p := ⟨w.heap.size, 0, none⟩) hw1).trans c0
  have k1 : we.cell? ⟨w.heap.size, 1, none⟩ = some (.int .i64 (y : Int)) := (hbe.cell (p := ⟨w.heap.size, 1, none⟩) hw1).trans c1
  have hRM := Lib.hid hTS.dn.solves
  have HBW1 := Lib.hid (bw1.trans (hbe.mono (by omega)))
  have hgt0 := hTS.lt
  obtain ⟨gt, hgt⟩ : ∃ gt, gt = w1.heap.size + 1 := ⟨_, rfl⟩
  have htb0 := hTS.tb
  rw [← hgt] at htb0 ⊢
  have HTB : Hid (∀ wx : World, Below we.heap.size we wx → TabT wx gt (gt + 1) we.heap.size y (x + 1) M) := fun wx hb => by
    have h := htb0.below hb (by omega) (Nat.le_refl _)
    rwa [show w1.heap.size + 2 = gt + 1 by omega] at h
  have HLE : Hid (∀ a b k, 1 ≤ a → a ≤ x → 1 ≤ b → b ≤ y → k ≤ a * b → 0 ≤ M a b k ∧ M a b k ≤ 100000) := by
    intro a b k a1 a2 b1 b2 hk
    have q := eat_le hRM.out hx2 hy2 (a + b) a b k (Nat.le_refl _) a1 a2 b1 b2 hk
    have hab : a * b ≤ 144 := Nat.le_trans (Nat.mul_le_mul (show a ≤ 12 by omega) (show b ≤ 12 by omega)) (by omega)
    omega
  have HHS : Hid ((∀ t, 1 ≤ t → t < x → ¬ HitM M x y s true t) → ∃ t, 1 ≤ t ∧ t < y ∧ HitM M x y s false t) := fun h => hit_some hRM.out hx1 hx2 hy1 hy2 hs0 HSX.out h
  obtain ⟨ga, ga1, ga2, gac, gacol⟩ := (HTB.out we (Below.refl _ _)) x hx1 (by omega)
  obtain ⟨ra, ra1, ra2, rac, rar⟩ := gacol y hy1 (by omega)
  rw [← hN.out] at rac rar
  have v0 := rar s (by omega)
  obtain ⟨lv, hlv⟩ : ∃ lv, Hid (lv = M x y s) := ⟨_, rfl⟩
  rw [← hlv.out] at v0
  have K0 := Lib.hid k0
  have K1 := Lib.hid k1
  have hwe : w.heap.size < we.heap.size := by omega
  have hgtw : gt < we.heap.size := by omega
  clear hTS htb0 hgt gacol rar HBE hbe bw1 se
  go_wp2
  refine wp_region_held_drew (S := (fun w' => w'.cell? ⟨gt, x, none⟩ = some (.slice (some ⟨ga, 0, none⟩) (y + 1) (y + 1)) ∧ w'.cell? ⟨ga, y, none⟩ = some (.slice (some ⟨ra, 0, none⟩) (N + 1) (N + 1)) ∧ w'.cell? ⟨ra, s, none⟩ = some (.int .i64 lv) ∧ w'.cell? ⟨w.heap.size, 0, none⟩ = some (.int .i64 (x : Int)) ∧ w'.cell? ⟨w.heap.size, 1, none⟩ = some (.int .i64 (y : Int)))) (by kernel_rfl) ?_ (fun hHeld => ?_)
  · ((try dsimp only); (repeat' apply And.intro); all_goals ((repeat (first | (with_reducible refine cell_drew ?_) | (with_reducible refine cell_drewN _ ?_) | ((with_reducible refine cell_alloc ?_ ?_); · first | omega | (simp; done) | (simp; omega) | assumption) | ((with_reducible refine cell_set ?_ ?_); · first | (intro e; injection e; omega) | (intro e; simp at e; done) | (intro e; simp at e; omega)))); first | assumption | (simp; done)))
  refine reg_on (i := 0) (d := 30) (v := ?rv1) rfl rfl (by kernel_rfl) (by kernel_rfl) (by kernel_rfl) (fun _ _ _ h => h) (by rfl) ?ry1 (by assumption) ?rr1
  case ry1 => (intro wz hSw; (try dsimp only at hSw); go_simp; try with_reducible rfl)
  (try simp only [Act.put, List.setIfInBounds_toArray, List.set_cons_zero, List.set_cons_succ])
  refine reg_on (i := 1) (d := 31) (v := ?rv2) rfl rfl (by kernel_rfl) (by kernel_rfl) (by kernel_rfl) (fun _ _ _ h => h) (by rfl) ?ry2 (by assumption) ?rr2
  case ry2 => (intro wz hSw; (try dsimp only at hSw); go_simp; try with_reducible rfl)
  (try simp only [Act.put, List.setIfInBounds_toArray, List.set_cons_zero, List.set_cons_succ])
  refine reg_on (i := 2) (d := 32) (v := ?rv3) rfl rfl (by kernel_rfl) (by kernel_rfl) (by kernel_rfl) (fun _ _ _ h => h) (by rfl) ?ry3 (by assumption) ?rr3
  case ry3 => (intro wz hSw; (try dsimp only at hSw); go_simp; try with_reducible rfl)
  (try simp only [Act.put, List.setIfInBounds_toArray, List.set_cons_zero, List.set_cons_succ])
  refine reg_on (i := 3) (d := 33) (v := ?rv4) rfl rfl (by kernel_rfl) (by kernel_rfl) (by kernel_rfl) (fun _ _ _ h => h) (by rfl) ?ry4 (by assumption) ?rr4
  case ry4 => (intro wz hSw; (try dsimp only at hSw); go_simp; try with_reducible rfl)
  (try simp only [Act.put, List.setIfInBounds_toArray, List.set_cons_zero, List.set_cons_succ])
  refine reg_on (i := 4) (d := 34) (v := ?rv5) rfl rfl (by kernel_rfl) (by kernel_rfl) (by kernel_rfl) (fun _ _ _ h => h) (by rfl) ?ry5 (by assumption) ?rr5
  case ry5 => (intro wz hSw; (try dsimp only at hSw); go_simp; try with_reducible rfl)
  (try simp only [Act.put, List.setIfInBounds_toArray, List.set_cons_zero, List.set_cons_succ])
  refine reg_on (i := 5) (d := 35) (v := ?rv6) rfl rfl (by kernel_rfl) (by kernel_rfl) (by kernel_rfl) (fun _ _ _ h => h) (by rfl) ?ry6 (by assumption) ?rr6
  case ry6 => (intro wz hSw; (try dsimp only at hSw); go_simp; try with_reducible rfl)
  (try simp only [Act.put, List.setIfInBounds_toArray, List.set_cons_zero, List.set_cons_succ])
  refine reg_on (i := 6) (d := 36) (v := ?rv7) rfl rfl (by kernel_rfl) (by kernel_rfl) (by kernel_rfl) (fun _ _ _ h => h) (by rfl) ?ry7 (by assumption) ?rr7
  case ry7 => (intro wz hSw; (try dsimp only at hSw); go_simp; try with_reducible rfl)
  (try simp only [Act.put, List.setIfInBounds_toArray, List.set_cons_zero, List.set_cons_succ])
  refine reg_on (i := 7) (d := 37) (v := ?rv8) rfl rfl (by kernel_rfl) (by kernel_rfl) (by kernel_rfl) (fun _ _ _ h => h) (by rfl) ?ry8 (by assumption) ?rr8
  case ry8 => (intro wz hSw; (try dsimp only at hSw); go_simp; try with_reducible rfl)
  (try simp only [Act.put, List.setIfInBounds_toArray, List.set_cons_zero, List.set_cons_succ])
  refine reg_on (i := 8) (d := 38) (v := ?rv9) rfl rfl (by kernel_rfl) (by kernel_rfl) (by kernel_rfl) (fun _ _ _ h => h) (by rfl) ?ry9 (by assumption) ?rr9
  case ry9 => (intro wz hSw; (try dsimp only at hSw); go_simp; try with_reducible rfl)
  (try simp only [Act.put, List.setIfInBounds_toArray, List.set_cons_zero, List.set_cons_succ])
  refine reg_on (i := 9) (d := 39) (v := ?rv10) rfl rfl (by kernel_rfl) (by kernel_rfl) (by kernel_rfl) (fun _ _ _ h => h) (by rfl) ?ry10 (by assumption) ?rr10
  case ry10 => (intro wz hSw; (try dsimp only at hSw); go_simp; try with_reducible rfl)
  (try simp only [Act.put, List.setIfInBounds_toArray, List.set_cons_zero, List.set_cons_succ])
  refine reg_on (i := 10) (d := 40) (v := ?rv11) rfl rfl (by kernel_rfl) (by kernel_rfl) (by kernel_rfl) (fun _ _ _ h => h) (by rfl) ?ry11 (by assumption) ?rr11
  case ry11 => (intro wz hSw; (try dsimp only at hSw); go_simp; try with_reducible rfl)
  (try simp only [Act.put, List.setIfInBounds_toArray, List.set_cons_zero, List.set_cons_succ])
  refine reg_on (i := 11) (d := 41) (v := ?rv12) rfl rfl (by kernel_rfl) (by kernel_rfl) (by kernel_rfl) (fun _ _ _ h => h) (by rfl) ?ry12 (by assumption) ?rr12
  case ry12 => (intro wz hSw; (try dsimp only at hSw); go_simp; try with_reducible rfl)
  (try simp only [Act.put, List.setIfInBounds_toArray, List.set_cons_zero, List.set_cons_succ])
  refine reg_on (i := 12) (d := 8) (v := ?rv13) rfl rfl (by kernel_rfl) (by kernel_rfl) (by kernel_rfl) (fun _ _ _ h => h) (by rfl) ?ry13 (by assumption) ?rr13
  case ry13 => (intro wz hSw; (try dsimp only at hSw); go_simp; try with_reducible rfl)
  (try simp only [Act.put, List.setIfInBounds_toArray, List.set_cons_zero, List.set_cons_succ])
  refine wpAnyH_done (by kernel_rfl) ?_ _
  clear gac rac v0 k0 k1 ga1 ga2 ra1 ra2
  go_wp2
  go_loopw [9] (fun i wr => ∃ t : Nat, 1 ≤ t ∧ t ≤ x ∧ i = .int .i64 t ∧ Hid (Below we.heap.size we wr) ∧ Hid (∀ t2, 1 ≤ t2 → t2 < t → ¬ HitM M x y s true t2)) (fun i _ => x - (intOf i).toNat)
  case atStart => exact ⟨1, by omega, hx1, rfl, (Below.refl _ _).drew, fun t2 h1 h2 => by omega⟩
  case round =>
    obtain ⟨t, ht1, htx, rfl, hB, hno⟩ := hrel
    by_cases hlt : t < x
    · have hlti : (t : Int) < (x : Int) := by omega
      obtain ⟨u, hu⟩ : ∃ u, Hid (u = x - t) := ⟨_, rfl⟩
      have hu1 : 1 ≤ u ∧ u < x ∧ t + u = x := by have := hu.out; omega
      have htb := HTB.out wr hB.out
      obtain ⟨ga, ga1, ga2, gac, gacol⟩ := htb t ht1 (by omega)
      obtain ⟨ra, ra1, ra2, rac, rar⟩ := gacol y hy1 (by omega)
      obtain ⟨gb, gb1, gb2, gbc, gbcol⟩ := htb u hu1.1 (by omega)
      obtain ⟨rb, rb1, rb2, rbc, rbr⟩ := gbcol y hy1 (by omega)
      obtain ⟨la, hla⟩ : ∃ la, Hid (la = t * y) := ⟨_, rfl⟩
      obtain ⟨lb, hlb⟩ : ∃ lb, Hid (lb = u * y) := ⟨_, rfl⟩
      have hlab : la + lb = N := by rw [hla.out, hlb.out, hN.out, ← hu1.2.2]; exact (Nat.add_mul t u y).symm
      rw [← hla.out] at rac rar
      rw [← hlb.out] at rbc rbr
      have HVA : Hid (∀ k, k ≤ la → 0 ≤ M t y k ∧ M t y k ≤ 100000) := fun k hk => HLE.out _ _ _ (by omega) (by omega) (by omega) (by omega) (by rw [← hla.out]; exact hk)
      have HVB : Hid (∀ k, k ≤ lb → 0 ≤ M u y k ∧ M u y k ≤ 100000) := fun k hk => HLE.out _ _ _ (by omega) (by omega) (by omega) (by omega) (by rw [← hlb.out]; exact hk)
      have HSU : Hid (∀ wx : World, Below wr.heap.size wr wx → Calls Try.prog 29 #[.slice (some ⟨ra, 0, none⟩) (la + 1) (la + 1), .slice (some ⟨rb, 0, none⟩) (lb + 1) (lb + 1), .int .i64 s] wx fun e w' => ∃ z, e = .returned (.int .i64 z) ∧ Hid (IsMin (SumS (rowL (M t y) la) (rowL (M u y) lb) s) z) ∧ 0 ≤ z ∧ z ≤ 200000 ∧ Below wx.heap.size wx w') := by
        intro wx hb
        have sB := hB.out.size
        refine (brSum_any _ _ _ _ _ _ s (rowL (M t y) la) (rowL (M u y) lb) wx (rar.below hb (by omega)).rd (rbr.below hb (by omega)).rd (by omega) (by omega) (by omega) (by omega) (fun k hk => by rw [rowL_at (by omega)]; exact HVA.out k (by omega)) (fun k hk => by rw [rowL_at (by omega)]; exact HVB.out k (by omega))).mono ?_
        rintro e w' ⟨z, rfl, hz, hb'⟩
        have hx : SumS (rowL (M t y) la) (rowL (M u y) lb) s (M t y (min s la) + M u y (s - min s la)) := sumS_row.2 ⟨min s la, by omega, by omega, by omega, rfl⟩
        have h1 := HVA.out (min s la) (by omega)
        have h2 := HVB.out (s - min s la) (by omega)
        have h3 := hz.le hx
        exact ⟨z, rfl, hz, by omega, by omega, hb'⟩
      obtain ⟨pc, hpc⟩ : ∃ pc, Hid (pc = y * y) := ⟨_, rfl⟩
      have hpc144 : pc ≤ 144 := by rw [hpc.out]; exact sq_le (by omega)
      have HPR : Hid (∀ wx : World, Calls Try.prog 30 #[bar2 x y, .bool true] wx fun e w' => e = .returned (.int .i64 (pc : Nat)) ∧ Below wx.heap.size wx w') := by
        intro wx
        rw [hpc.out]
        exact brPrice_any x y true wx (by omega) (by omega)
      have HMIN : Hid (∀ z, IsMin (SumS (rowL (M t y) la) (rowL (M u y) lb) s) z → 0 ≤ z → IsMin (CandX M x y s true t) (z + (pc : Int))) := by
        intro z hz z0
        refine (hz.plus z0 (show (0 : Int) ≤ (pc : Int) by omega)).congr fun v => ?_
        have hc := candD_sum (M := M) (a := x) (b := y) (s := s) (t := t) (x := v)
        rw [← hu.out, ← hla.out, ← hlb.out, ← hpc.out] at hc
        exact hc.symm
      have sB := hB.out.size
      have k0 := (hB.out.cell (p := ⟨w.heap.size, 0, none⟩) (show w.heap.size < we.heap.size by omega)).trans K0.out
      have k1 := (hB.out.cell (p := ⟨w.heap.size, 1, none⟩) (show w.heap.size < we.heap.size by omega)).trans K1.out
      have wsub : IntKind.i64.wrap ((x : Int) - (t : Int)) = (u : Int) := by rw [IntWalk.i64_in _ (by omega)]; omega
      clear rar rbr gacol gbcol htb
      have x3 : (0 : Int) ≤ (u : Int) := by omega
      have x2 : (t : Int) < (x : Int) + 1 := by omega
      have x4 : (u : Int) < (x : Int) + 1 := by omega
      have x8 : u < x + 1 := by omega
      have x9 : t < x + 1 := by omega
      have HK0 : Hid (∀ wx : World, Below wr.heap.size wr wx → wx.cell? ⟨gt, t, none⟩ = some (.slice (some ⟨ga, 0, none⟩) (y + 1) (y + 1))) := fun wx hb => (hb.cell (p := ⟨gt, t, none⟩) (by show gt < wr.heap.size; omega)).trans (by assumption)
      have HK1 : Hid (∀ wx : World, Below wr.heap.size wr wx → wx.cell? ⟨ga, y, none⟩ = some (.slice (some ⟨ra, 0, none⟩) (la + 1) (la + 1))) := fun wx hb => (hb.cell (p := ⟨ga, y, none⟩) (by show ga < wr.heap.size; omega)).trans (by assumption)
      have HK2 : Hid (∀ wx : World, Below wr.heap.size wr wx → wx.cell? ⟨gt, u, none⟩ = some (.slice (some ⟨gb, 0, none⟩) (y + 1) (y + 1))) := fun wx hb => (hb.cell (p := ⟨gt, u, none⟩) (by show gt < wr.heap.size; omega)).trans (by assumption)
      have HK3 : Hid (∀ wx : World, Below wr.heap.size wr wx → wx.cell? ⟨gb, y, none⟩ = some (.slice (some ⟨rb, 0, none⟩) (lb + 1) (lb + 1))) := fun wx hb => (hb.cell (p := ⟨gb, y, none⟩) (by show gb < wr.heap.size; omega)).trans (by assumption)
      have HK4 : Hid (∀ wx : World, Below wr.heap.size wr wx → wx.cell? ⟨w.heap.size, 0, none⟩ = some (.int .i64 (x : Int))) := fun wx hb => (hb.cell (p := ⟨w.heap.size, 0, none⟩) (by show w.heap.size < wr.heap.size; omega)).trans (by assumption)
      have HK5 : Hid (∀ wx : World, Below wr.heap.size wr wx → wx.cell? ⟨w.heap.size, 1, none⟩ = some (.int .i64 (y : Int))) := fun wx hb => (hb.cell (p := ⟨w.heap.size, 1, none⟩) (by show w.heap.size < wr.heap.size; omega)).trans (by assumption)
      obtain ⟨wo, rfl⟩ : ∃ wo : World, wo = wr := ⟨_, rfl⟩
      go_wp2
      refine wp_region_held_drew (S := (fun w' => w'.cell? ⟨gt, t, none⟩ = some (.slice (some ⟨ga, 0, none⟩) (y + 1) (y + 1)) ∧ w'.cell? ⟨ga, y, none⟩ = some (.slice (some ⟨ra, 0, none⟩) (la + 1) (la + 1)) ∧ w'.cell? ⟨gt, u, none⟩ = some (.slice (some ⟨gb, 0, none⟩) (y + 1) (y + 1)) ∧ w'.cell? ⟨gb, y, none⟩ = some (.slice (some ⟨rb, 0, none⟩) (lb + 1) (lb + 1)) ∧ w'.cell? ⟨w.heap.size, 0, none⟩ = some (.int .i64 (x : Int)) ∧ w'.cell? ⟨w.heap.size, 1, none⟩ = some (.int .i64 (y : Int)))) (by kernel_rfl) ?_ (fun hHeld => ?_)
      · ((try dsimp only); (repeat' apply And.intro); all_goals ((repeat (first | (with_reducible refine cell_drew ?_) | (with_reducible refine cell_drewN _ ?_) | ((with_reducible refine cell_alloc ?_ ?_); · first | omega | (simp; done) | (simp; omega) | assumption) | ((with_reducible refine cell_set ?_ ?_); · first | (intro e; injection e; omega) | (intro e; simp at e; done) | (intro e; simp at e; omega)))); first | assumption | (simp; done)))
      refine reg_on (i := 0) (d := 48) (v := ?rv14) rfl rfl (by kernel_rfl) (by kernel_rfl) (by kernel_rfl) (fun _ _ _ h => h) (by rfl) ?ry14 (by assumption) ?rr14
      case ry14 => (intro wz hSw; (try dsimp only at hSw); go_simp; try with_reducible rfl)
      (try simp only [Act.put, List.setIfInBounds_toArray, List.set_cons_zero, List.set_cons_succ])
      refine reg_on (i := 1) (d := 49) (v := ?rv15) rfl rfl (by kernel_rfl) (by kernel_rfl) (by kernel_rfl) (fun _ _ _ h => h) (by rfl) ?ry15 (by assumption) ?rr15
      case ry15 => (intro wz hSw; (try dsimp only at hSw); go_simp; try with_reducible rfl)
      (try simp only [Act.put, List.setIfInBounds_toArray, List.set_cons_zero, List.set_cons_succ])
      refine reg_on (i := 2) (d := 50) (v := ?rv16) rfl rfl (by kernel_rfl) (by kernel_rfl) (by kernel_rfl) (fun _ _ _ h => h) (by rfl) ?ry16 (by assumption) ?rr16
      case ry16 => (intro wz hSw; (try dsimp only at hSw); go_simp; try with_reducible rfl)
      (try simp only [Act.put, List.setIfInBounds_toArray, List.set_cons_zero, List.set_cons_succ])
      refine reg_on (i := 3) (d := 51) (v := ?rv17) rfl rfl (by kernel_rfl) (by kernel_rfl) (by kernel_rfl) (fun _ _ _ h => h) (by rfl) ?ry17 (by assumption) ?rr17
      case ry17 => (intro wz hSw; (try dsimp only at hSw); go_simp; try with_reducible rfl)
      (try simp only [Act.put, List.setIfInBounds_toArray, List.set_cons_zero, List.set_cons_succ])
      refine reg_on (i := 4) (d := 52) (v := ?rv18) rfl rfl (by kernel_rfl) (by kernel_rfl) (by kernel_rfl) (fun _ _ _ h => h) (by rfl) ?ry18 (by assumption) ?rr18
      case ry18 => (intro wz hSw; (try dsimp only at hSw); go_simp; try with_reducible rfl)
      (try simp only [Act.put, List.setIfInBounds_toArray, List.set_cons_zero, List.set_cons_succ])
      refine reg_on (i := 5) (d := 53) (v := ?rv19) rfl rfl (by kernel_rfl) (by kernel_rfl) (by kernel_rfl) (fun _ _ _ h => h) (by rfl) ?ry19 (by assumption) ?rr19
      case ry19 => (intro wz hSw; (try dsimp only at hSw); go_simp; try with_reducible rfl)
      (try simp only [Act.put, List.setIfInBounds_toArray, List.set_cons_zero, List.set_cons_succ])
      refine reg_on (i := 6) (d := 54) (v := ?rv20) rfl rfl (by kernel_rfl) (by kernel_rfl) (by kernel_rfl) (fun _ _ _ h => h) (by rfl) ?ry20 (by assumption) ?rr20
      case ry20 => (intro wz hSw; (try dsimp only at hSw); go_simp; try with_reducible rfl)
      (try simp only [Act.put, List.setIfInBounds_toArray, List.set_cons_zero, List.set_cons_succ])
      refine reg_on (i := 7) (d := 55) (v := ?rv21) rfl rfl (by kernel_rfl) (by kernel_rfl) (by kernel_rfl) (fun _ _ _ h => h) (by rfl) ?ry21 (by assumption) ?rr21
      case ry21 => (intro wz hSw; (try dsimp only at hSw); go_simp; try with_reducible rfl)
      (try simp only [Act.put, List.setIfInBounds_toArray, List.set_cons_zero, List.set_cons_succ])
      refine reg_on (i := 8) (d := 56) (v := ?rv22) rfl rfl (by kernel_rfl) (by kernel_rfl) (by kernel_rfl) (fun _ _ _ h => h) (by rfl) ?ry22 (by assumption) ?rr22
      case ry22 => (intro wz hSw; (try dsimp only at hSw); go_simp; try with_reducible rfl)
      (try simp only [Act.put, List.setIfInBounds_toArray, List.set_cons_zero, List.set_cons_succ])
      refine reg_on (i := 9) (d := 57) (v := ?rv23) rfl rfl (by kernel_rfl) (by kernel_rfl) (by kernel_rfl) (fun _ _ _ h => h) (by rfl) ?ry23 (by assumption) ?rr23
      case ry23 => (intro wz hSw; (try dsimp only at hSw); go_simp; try with_reducible rfl)
      (try simp only [Act.put, List.setIfInBounds_toArray, List.set_cons_zero, List.set_cons_succ])
      refine reg_on (i := 10) (d := 58) (v := ?rv24) rfl rfl (by kernel_rfl) (by kernel_rfl) (by kernel_rfl) (fun _ _ _ h => h) (by rfl) ?ry24 (by assumption) ?rr24
      case ry24 => (intro wz hSw; (try dsimp only at hSw); go_simp; try with_reducible rfl)
      (try simp only [Act.put, List.setIfInBounds_toArray, List.set_cons_zero, List.set_cons_succ])
      refine reg_on (i := 11) (d := 59) (v := ?rv25) rfl rfl (by kernel_rfl) (by kernel_rfl) (by kernel_rfl) (fun _ _ _ h => h) (by rfl) ?ry25 (by assumption) ?rr25
      case ry25 => (intro wz hSw; (try dsimp only at hSw); go_simp; try with_reducible rfl)
      (try simp only [Act.put, List.setIfInBounds_toArray, List.set_cons_zero, List.set_cons_succ])
      refine reg_on (i := 12) (d := 60) (v := ?rv26) rfl rfl (by kernel_rfl) (by kernel_rfl) (by kernel_rfl) (fun _ _ _ h => h) (by rfl) ?ry26 (by assumption) ?rr26
      case ry26 => (intro wz hSw; (try dsimp only at hSw); go_simp; try with_reducible rfl)
      (try simp only [Act.put, List.setIfInBounds_toArray, List.set_cons_zero, List.set_cons_succ])
      refine reg_on (i := 13) (d := 61) (v := ?rv27) rfl rfl (by kernel_rfl) (by kernel_rfl) (by kernel_rfl) (fun _ _ _ h => h) (by rfl) ?ry27 (by assumption) ?rr27
      case ry27 => (intro wz hSw; (try dsimp only at hSw); go_simp; try with_reducible rfl)
      (try simp only [Act.put, List.setIfInBounds_toArray, List.set_cons_zero, List.set_cons_succ])
      refine reg_on (i := 14) (d := 62) (v := ?rv28) rfl rfl (by kernel_rfl) (by kernel_rfl) (by kernel_rfl) (fun _ _ _ h => h) (by rfl) ?ry28 (by assumption) ?rr28
      case ry28 => (intro wz hSw; (try dsimp only at hSw); go_simp; try with_reducible rfl)
      (try simp only [Act.put, List.setIfInBounds_toArray, List.set_cons_zero, List.set_cons_succ])
      refine reg_on (i := 15) (d := 63) (v := ?rv29) rfl rfl (by kernel_rfl) (by kernel_rfl) (by kernel_rfl) (fun _ _ _ h => h) (by rfl) ?ry29 (by assumption) ?rr29
      case ry29 => (intro wz hSw; (try dsimp only at hSw); go_simp; try with_reducible rfl)
      (try simp only [Act.put, List.setIfInBounds_toArray, List.set_cons_zero, List.set_cons_succ])
      refine reg_on (i := 16) (d := 64) (v := ?rv30) rfl rfl (by kernel_rfl) (by kernel_rfl) (by kernel_rfl) (fun _ _ _ h => h) (by rfl) ?ry30 (by assumption) ?rr30
      case ry30 => (intro wz hSw; (try dsimp only at hSw); go_simp; try with_reducible rfl)
      (try simp only [Act.put, List.setIfInBounds_toArray, List.set_cons_zero, List.set_cons_succ])
      refine reg_on (i := 17) (d := 65) (v := ?rv31) rfl rfl (by kernel_rfl) (by kernel_rfl) (by kernel_rfl) (fun _ _ _ h => h) (by rfl) ?ry31 (by assumption) ?rr31
      case ry31 => (intro wz hSw; (try dsimp only at hSw); go_simp; try with_reducible rfl)
      (try simp only [Act.put, List.setIfInBounds_toArray, List.set_cons_zero, List.set_cons_succ])
      refine reg_on (i := 18) (d := 66) (v := ?rv32) rfl rfl (by kernel_rfl) (by kernel_rfl) (by kernel_rfl) (fun _ _ _ h => h) (by rfl) ?ry32 (by assumption) ?rr32
      case ry32 => (intro wz hSw; (try dsimp only at hSw); go_simp; try with_reducible rfl)
      (try simp only [Act.put, List.setIfInBounds_toArray, List.set_cons_zero, List.set_cons_succ])
      refine reg_on (i := 19) (d := 67) (v := ?rv33) rfl rfl (by kernel_rfl) (by kernel_rfl) (by kernel_rfl) (fun _ _ _ h => h) (by rfl) ?ry33 (by assumption) ?rr33
      case ry33 => (intro wz hSw; (try dsimp only at hSw); go_simp; try with_reducible rfl)
      (try simp only [Act.put, List.setIfInBounds_toArray, List.set_cons_zero, List.set_cons_succ])
      refine reg_on (i := 21) (d := 69) (v := ?rv34) rfl rfl (by kernel_rfl) (by kernel_rfl) (by kernel_rfl) (fun _ _ _ h => h) (by rfl) ?ry34 (by assumption) ?rr34
      case ry34 => (intro wz hSw; (try dsimp only at hSw); go_simp; try with_reducible rfl)
      (try simp only [Act.put, List.setIfInBounds_toArray, List.set_cons_zero, List.set_cons_succ])
      refine reg_on (i := 24) (d := 72) (v := ?rv35) rfl rfl (by kernel_rfl) (by kernel_rfl) (by kernel_rfl) (fun _ _ _ h => h) (by rfl) ?ry35 (by assumption) ?rr35
      case ry35 => (intro wz hSw; (try dsimp only at hSw); go_simp; try with_reducible rfl)
      (try simp only [Act.put, List.setIfInBounds_toArray, List.set_cons_zero, List.set_cons_succ])
      refine wpAnyH_ready (rs := [20]) (by kernel_rfl) (by simp) ?_
      refine AllReadyH.cons rfl (fun K hK => ?_) AllReadyH.nil
      go_simp
      go_at_call 29; refine (HSU.out _ (by (repeat (first | (with_reducible exact Below.refl _ _) | (with_reducible assumption) | (with_reducible refine Below.drew ?_) | ((with_reducible refine balloc ?_ _ ?_); · (first | (simp; done) | (simp; omega) | omega)) | ((with_reducible refine bset ?_ _ ?_); · (first | (simp; done) | (simp; omega) | omega)) | (with_reducible refine bdrewN _ ?_) | ((with_reducible refine bcall ?_ (by assumption) ?_); · (first | (simp; done) | (simp; omega) | omega)))))).mono ?_; rintro e wa ⟨z, rfl, hz, z0, z1, hba⟩; have sa := hba.size; (try simp at sa); have kwa0 : wa.cell? ⟨gt, t, none⟩ = some (.slice (some ⟨ga, 0, none⟩) (y + 1) (y + 1)) := (HK0.out _ (by (repeat (first | (with_reducible exact Below.refl _ _) | (with_reducible assumption) | (with_reducible refine Below.drew ?_) | ((with_reducible refine balloc ?_ _ ?_); · (first | (simp; done) | (simp; omega) | omega)) | ((with_reducible refine bset ?_ _ ?_); · (first | (simp; done) | (simp; omega) | omega)) | (with_reducible refine bdrewN _ ?_) | ((with_reducible refine bcall ?_ (by assumption) ?_); · (first | (simp; done) | (simp; omega) | omega)))))); have kwa1 : wa.cell? ⟨ga, y, none⟩ = some (.slice (some ⟨ra, 0, none⟩) (la + 1) (la + 1)) := (HK1.out _ (by (repeat (first | (with_reducible exact Below.refl _ _) | (with_reducible assumption) | (with_reducible refine Below.drew ?_) | ((with_reducible refine balloc ?_ _ ?_); · (first | (simp; done) | (simp; omega) | omega)) | ((with_reducible refine bset ?_ _ ?_); · (first | (simp; done) | (simp; omega) | omega)) | (with_reducible refine bdrewN _ ?_) | ((with_reducible refine bcall ?_ (by assumption) ?_); · (first | (simp; done) | (simp; omega) | omega)))))); have kwa2 : wa.cell? ⟨gt, u, none⟩ = some (.slice (some ⟨gb, 0, none⟩) (y + 1) (y + 1)) := (HK2.out _ (by (repeat (first | (with_reducible exact Below.refl _ _) | (with_reducible assumption) | (with_reducible refine Below.drew ?_) | ((with_reducible refine balloc ?_ _ ?_); · (first | (simp; done) | (simp; omega) | omega)) | ((with_reducible refine bset ?_ _ ?_); · (first | (simp; done) | (simp; omega) | omega)) | (with_reducible refine bdrewN _ ?_) | ((with_reducible refine bcall ?_ (by assumption) ?_); · (first | (simp; done) | (simp; omega) | omega)))))); have kwa3 : wa.cell? ⟨gb, y, none⟩ = some (.slice (some ⟨rb, 0, none⟩) (lb + 1) (lb + 1)) := (HK3.out _ (by (repeat (first | (with_reducible exact Below.refl _ _) | (with_reducible assumption) | (with_reducible refine Below.drew ?_) | ((with_reducible refine balloc ?_ _ ?_); · (first | (simp; done) | (simp; omega) | omega)) | ((with_reducible refine bset ?_ _ ?_); · (first | (simp; done) | (simp; omega) | omega)) | (with_reducible refine bdrewN _ ?_) | ((with_reducible refine bcall ?_ (by assumption) ?_); · (first | (simp; done) | (simp; omega) | omega)))))); have kwa4 : wa.cell? ⟨w.heap.size, 0, none⟩ = some (.int .i64 (x : Int)) := (HK4.out _ (by (repeat (first | (with_reducible exact Below.refl _ _) | (with_reducible assumption) | (with_reducible refine Below.drew ?_) | ((with_reducible refine balloc ?_ _ ?_); · (first | (simp; done) | (simp; omega) | omega)) | ((with_reducible refine bset ?_ _ ?_); · (first | (simp; done) | (simp; omega) | omega)) | (with_reducible refine bdrewN _ ?_) | ((with_reducible refine bcall ?_ (by assumption) ?_); · (first | (simp; done) | (simp; omega) | omega)))))); have kwa5 : wa.cell? ⟨w.heap.size, 1, none⟩ = some (.int .i64 (y : Int)) := (HK5.out _ (by (repeat (first | (with_reducible exact Below.refl _ _) | (with_reducible assumption) | (with_reducible refine Below.drew ?_) | ((with_reducible refine balloc ?_ _ ?_); · (first | (simp; done) | (simp; omega) | omega)) | ((with_reducible refine bset ?_ _ ?_); · (first | (simp; done) | (simp; omega) | omega)) | (with_reducible refine bdrewN _ ?_) | ((with_reducible refine bcall ?_ (by assumption) ?_); · (first | (simp; done) | (simp; omega) | omega))))))
      refine hK.out _ _ ?_ (fun hHeld => ?_)
      · ((try dsimp only); (repeat' apply And.intro); all_goals ((repeat (first | (with_reducible refine cell_drew ?_) | (with_reducible refine cell_drewN _ ?_) | ((with_reducible refine cell_alloc ?_ ?_); · first | omega | (simp; done) | (simp; omega) | assumption) | ((with_reducible refine cell_set ?_ ?_); · first | (intro e; injection e; omega) | (intro e; simp at e; done) | (intro e; simp at e; omega)))); first | assumption | (simp; done)))
      clear hK K
      (try simp only [Act.put, List.setIfInBounds_toArray, List.set_cons_zero, List.set_cons_succ])
      refine wpAnyH_ready (rs := [22]) (by kernel_rfl) (by simp) ?_
      refine AllReadyH.cons rfl (fun K hK => ?_) AllReadyH.nil
      go_simp
      go_at_call 30; refine (HPR.out _).mono ?_; rintro e wb ⟨rfl, hbb⟩; have sb := hbb.size; (try simp at sb); have BWB : Below wo.heap.size wo wb := (by (repeat (first | (with_reducible exact Below.refl _ _) | (with_reducible assumption) | (with_reducible refine Below.drew ?_) | ((with_reducible refine balloc ?_ _ ?_); · (first | (simp; done) | (simp; omega) | omega)) | ((with_reducible refine bset ?_ _ ?_); · (first | (simp; done) | (simp; omega) | omega)) | (with_reducible refine bdrewN _ ?_) | ((with_reducible refine bcall ?_ (by assumption) ?_); · (first | (simp; done) | (simp; omega) | omega))))); have kwb0 : wb.cell? ⟨gt, t, none⟩ = some (.slice (some ⟨ga, 0, none⟩) (y + 1) (y + 1)) := (HK0.out _ (by (repeat (first | (with_reducible exact Below.refl _ _) | (with_reducible assumption) | (with_reducible refine Below.drew ?_) | ((with_reducible refine balloc ?_ _ ?_); · (first | (simp; done) | (simp; omega) | omega)) | ((with_reducible refine bset ?_ _ ?_); · (first | (simp; done) | (simp; omega) | omega)) | (with_reducible refine bdrewN _ ?_) | ((with_reducible refine bcall ?_ (by assumption) ?_); · (first | (simp; done) | (simp; omega) | omega)))))); have kwb1 : wb.cell? ⟨ga, y, none⟩ = some (.slice (some ⟨ra, 0, none⟩) (la + 1) (la + 1)) := (HK1.out _ (by (repeat (first | (with_reducible exact Below.refl _ _) | (with_reducible assumption) | (with_reducible refine Below.drew ?_) | ((with_reducible refine balloc ?_ _ ?_); · (first | (simp; done) | (simp; omega) | omega)) | ((with_reducible refine bset ?_ _ ?_); · (first | (simp; done) | (simp; omega) | omega)) | (with_reducible refine bdrewN _ ?_) | ((with_reducible refine bcall ?_ (by assumption) ?_); · (first | (simp; done) | (simp; omega) | omega)))))); have kwb2 : wb.cell? ⟨gt, u, none⟩ = some (.slice (some ⟨gb, 0, none⟩) (y + 1) (y + 1)) := (HK2.out _ (by (repeat (first | (with_reducible exact Below.refl _ _) | (with_reducible assumption) | (with_reducible refine Below.drew ?_) | ((with_reducible refine balloc ?_ _ ?_); · (first | (simp; done) | (simp; omega) | omega)) | ((with_reducible refine bset ?_ _ ?_); · (first | (simp; done) | (simp; omega) | omega)) | (with_reducible refine bdrewN _ ?_) | ((with_reducible refine bcall ?_ (by assumption) ?_); · (first | (simp; done) | (simp; omega) | omega)))))); have kwb3 : wb.cell? ⟨gb, y, none⟩ = some (.slice (some ⟨rb, 0, none⟩) (lb + 1) (lb + 1)) := (HK3.out _ (by (repeat (first | (with_reducible exact Below.refl _ _) | (with_reducible assumption) | (with_reducible refine Below.drew ?_) | ((with_reducible refine balloc ?_ _ ?_); · (first | (simp; done) | (simp; omega) | omega)) | ((with_reducible refine bset ?_ _ ?_); · (first | (simp; done) | (simp; omega) | omega)) | (with_reducible refine bdrewN _ ?_) | ((with_reducible refine bcall ?_ (by assumption) ?_); · (first | (simp; done) | (simp; omega) | omega)))))); have kwb4 : wb.cell? ⟨w.heap.size, 0, none⟩ = some (.int .i64 (x : Int)) := (HK4.out _ (by (repeat (first | (with_reducible exact Below.refl _ _) | (with_reducible assumption) | (with_reducible refine Below.drew ?_) | ((with_reducible refine balloc ?_ _ ?_); · (first | (simp; done) | (simp; omega) | omega)) | ((with_reducible refine bset ?_ _ ?_); · (first | (simp; done) | (simp; omega) | omega)) | (with_reducible refine bdrewN _ ?_) | ((with_reducible refine bcall ?_ (by assumption) ?_); · (first | (simp; done) | (simp; omega) | omega)))))); have kwb5 : wb.cell? ⟨w.heap.size, 1, none⟩ = some (.int .i64 (y : Int)) := (HK5.out _ (by (repeat (first | (with_reducible exact Below.refl _ _) | (with_reducible assumption) | (with_reducible refine Below.drew ?_) | ((with_reducible refine balloc ?_ _ ?_); · (first | (simp; done) | (simp; omega) | omega)) | ((with_reducible refine bset ?_ _ ?_); · (first | (simp; done) | (simp; omega) | omega)) | (with_reducible refine bdrewN _ ?_) | ((with_reducible refine bcall ?_ (by assumption) ?_); · (first | (simp; done) | (simp; omega) | omega))))))
      refine hK.out _ _ ?_ (fun hHeld => ?_)
      · ((try dsimp only); (repeat' apply And.intro); all_goals ((repeat (first | (with_reducible refine cell_drew ?_) | (with_reducible refine cell_drewN _ ?_) | ((with_reducible refine cell_alloc ?_ ?_); · first | omega | (simp; done) | (simp; omega) | assumption) | ((with_reducible refine cell_set ?_ ?_); · first | (intro e; injection e; omega) | (intro e; simp at e; done) | (intro e; simp at e; omega)))); first | assumption | (simp; done)))
      clear hK K
      (try simp only [Act.put, List.setIfInBounds_toArray, List.set_cons_zero, List.set_cons_succ])
      refine reg_on (i := 23) (d := 71) (v := ?rv38) rfl rfl (by kernel_rfl) (by kernel_rfl) (by kernel_rfl) (fun _ _ _ h => h) (by rfl) ?ry38 (by assumption) ?rr38
      case ry38 => (intro wz hSw; (try dsimp only at hSw); go_simp; try with_reducible rfl)
      (try simp only [Act.put, List.setIfInBounds_toArray, List.set_cons_zero, List.set_cons_succ])
      refine reg_on (i := 25) (d := 73) (v := ?rv39) rfl rfl (by kernel_rfl) (by kernel_rfl) (by kernel_rfl) (fun _ _ _ h => h) (by rfl) ?ry39 (by assumption) ?rr39
      case ry39 => (intro wz hSw; (try dsimp only at hSw); go_simp; try with_reducible rfl)
      (try simp only [Act.put, List.setIfInBounds_toArray, List.set_cons_zero, List.set_cons_succ])
      refine wpAnyH_done (by kernel_rfl) ?_ _
      have HBW := Lib.hid (hB.out.trans (BWB.mono sB))
      have hmz := HMIN.out z hz.out z0
      by_cases hhit : z + (pc : Int) = lv
      · have HF : Hid (FirstHit M x y s true t) := ⟨ht1, by rw [hhit, hlv.out] at hmz; exact hmz, hlt, hno.out, fun h => by cases h⟩
        have heq : (IntKind.i64.wrap (z + (pc : Int)) == lv) = true := by rw [IntWalk.i64_in _ ⟨by omega, by omega⟩]; simp [hhit]
        clear hmz
        go_wp2
        go_ret3
        exact ⟨M, true, t, hRM.out, HF.out, rfl, HBW1.out.trans (HBW.out.mono (by omega))⟩
      · have HNO : Hid (∀ t2, 1 ≤ t2 → t2 < t + 1 → ¬ HitM M x y s true t2) := by
          intro t2 h1 h2
          by_cases e : t2 = t
          · rw [e]; intro hq; exact hhit (by rw [hlv.out]; exact hmz.unique hq)
          · exact hno.out t2 h1 (by omega)
        have heq : (IntKind.i64.wrap (z + (pc : Int)) == lv) = false := by rw [IntWalk.i64_in _ ⟨by omega, by omega⟩]; simp [hhit]
        clear hmz
        go_wp2
        go_roundw
        case rel => exact ⟨t + 1, by omega, by omega, by go_num, HBW, HNO⟩
        case measure => simp [intOf]; omega
    · have htx2 : t = x := by omega
      have hnlt : ¬ (t : Int) < (x : Int) := by omega
      rw [htx2] at hno
      obtain ⟨tt, tt1, tt2, tth⟩ := HHS.out hno.out
      have HTT := Lib.hid tth
      have sB := hB.out.size
      have k0 := (hB.out.cell (p := ⟨w.heap.size, 0, none⟩) hwe).trans K0.out
      have k1 := (hB.out.cell (p := ⟨w.heap.size, 1, none⟩) hwe).trans K1.out
      clear tth
      go_wp2
      go_loopw [10] (fun i wr => ∃ t : Nat, 1 ≤ t ∧ t ≤ tt ∧ i = .int .i64 t ∧ Hid (Below we.heap.size we wr) ∧ Hid (∀ t2, 1 ≤ t2 → t2 < t → ¬ HitM M x y s false t2)) (fun i _ => y - (intOf i).toNat)
      case atStart => exact ⟨1, by omega, tt1, rfl, hB, fun t2 h1 h2 => by omega⟩
      case round =>
        clear hB sB k0 k1 ht1 htx htx2 hnlt hlt
        obtain ⟨t, ht1, htx, rfl, hB, hno2⟩ := hrel
        have hlt : t < y := by omega
        obtain ⟨u, hu⟩ : ∃ u, Hid (u = y - t) := ⟨_, rfl⟩
        have hu1 : 1 ≤ u ∧ u < y ∧ t + u = y := by have := hu.out; omega
        have htb := HTB.out wr hB.out
        obtain ⟨ga, ga1, ga2, gac, gacol⟩ := htb x hx1 (by omega)
        obtain ⟨ra, ra1, ra2, rac, rar⟩ := gacol t ht1 (by omega)
        obtain ⟨rb, rb1, rb2, rbc, rbr⟩ := gacol u hu1.1 (by omega)
        obtain ⟨la, hla⟩ : ∃ la, Hid (la = x * t) := ⟨_, rfl⟩
        obtain ⟨lb, hlb⟩ : ∃ lb, Hid (lb = x * u) := ⟨_, rfl⟩
        have hlab : la + lb = N := by rw [hla.out, hlb.out, hN.out, ← hu1.2.2]; exact (Nat.mul_add x t u).symm
        rw [← hla.out] at rac rar
        rw [← hlb.out] at rbc rbr
        have HVA : Hid (∀ k, k ≤ la → 0 ≤ M x t k ∧ M x t k ≤ 100000) := fun k hk => HLE.out _ _ _ (by omega) (by omega) (by omega) (by omega) (by rw [← hla.out]; exact hk)
        have HVB : Hid (∀ k, k ≤ lb → 0 ≤ M x u k ∧ M x u k ≤ 100000) := fun k hk => HLE.out _ _ _ (by omega) (by omega) (by omega) (by omega) (by rw [← hlb.out]; exact hk)
        have HSU : Hid (∀ wx : World, Below wr.heap.size wr wx → Calls Try.prog 29 #[.slice (some ⟨ra, 0, none⟩) (la + 1) (la + 1), .slice (some ⟨rb, 0, none⟩) (lb + 1) (lb + 1), .int .i64 s] wx fun e w' => ∃ z, e = .returned (.int .i64 z) ∧ Hid (IsMin (SumS (rowL (M x t) la) (rowL (M x u) lb) s) z) ∧ 0 ≤ z ∧ z ≤ 200000 ∧ Below wx.heap.size wx w') := by
          intro wx hb
          have sB := hB.out.size
          refine (brSum_any _ _ _ _ _ _ s (rowL (M x t) la) (rowL (M x u) lb) wx (rar.below hb (by omega)).rd (rbr.below hb (by omega)).rd (by omega) (by omega) (by omega) (by omega) (fun k hk => by rw [rowL_at (by omega)]; exact HVA.out k (by omega)) (fun k hk => by rw [rowL_at (by omega)]; exact HVB.out k (by omega))).mono ?_
          rintro e w' ⟨z, rfl, hz, hb'⟩
          have hx : SumS (rowL (M x t) la) (rowL (M x u) lb) s (M x t (min s la) + M x u (s - min s la)) := sumS_row.2 ⟨min s la, by omega, by omega, by omega, rfl⟩
          have h1 := HVA.out (min s la) (by omega)
          have h2 := HVB.out (s - min s la) (by omega)
          have h3 := hz.le hx
          exact ⟨z, rfl, hz, by omega, by omega, hb'⟩
        obtain ⟨pc, hpc⟩ : ∃ pc, Hid (pc = x * x) := ⟨_, rfl⟩
        have hpc144 : pc ≤ 144 := by rw [hpc.out]; exact sq_le (by omega)
        have HPR : Hid (∀ wx : World, Calls Try.prog 30 #[bar2 x y, .bool false] wx fun e w' => e = .returned (.int .i64 (pc : Nat)) ∧ Below wx.heap.size wx w') := by
          intro wx
          rw [hpc.out]
          exact brPrice_any x y false wx (by omega) (by omega)
        have HMIN : Hid (∀ z, IsMin (SumS (rowL (M x t) la) (rowL (M x u) lb) s) z → 0 ≤ z → IsMin (CandX M x y s false t) (z + (pc : Int))) := by
          intro z hz z0
          refine (hz.plus z0 (show (0 : Int) ≤ (pc : Int) by omega)).congr fun v => ?_
          have hc := candA_sum (M := M) (a := x) (b := y) (s := s) (t := t) (x := v)
          rw [← hu.out, ← hla.out, ← hlb.out, ← hpc.out] at hc
          exact hc.symm
        have sB := hB.out.size
        have k0 := (hB.out.cell (p := ⟨w.heap.size, 0, none⟩) (show w.heap.size < we.heap.size by omega)).trans K0.out
        have k1 := (hB.out.cell (p := ⟨w.heap.size, 1, none⟩) (show w.heap.size < we.heap.size by omega)).trans K1.out
        have wsub : IntKind.i64.wrap ((y : Int) - (t : Int)) = (u : Int) := by rw [IntWalk.i64_in _ (by omega)]; omega
        clear rar rbr gacol htb
        have x3 : (0 : Int) ≤ (u : Int) := by omega
        have x2 : (t : Int) < (y : Int) + 1 := by omega
        have x4 : (u : Int) < (y : Int) + 1 := by omega
        have x8 : u < y + 1 := by omega
        have x9 : t < y + 1 := by omega
        have HK0 : Hid (∀ wx : World, Below wr.heap.size wr wx → wx.cell? ⟨gt, x, none⟩ = some (.slice (some ⟨ga, 0, none⟩) (y + 1) (y + 1))) := fun wx hb => (hb.cell (p := ⟨gt, x, none⟩) (by show gt < wr.heap.size; omega)).trans (by assumption)
        have HK1 : Hid (∀ wx : World, Below wr.heap.size wr wx → wx.cell? ⟨ga, t, none⟩ = some (.slice (some ⟨ra, 0, none⟩) (la + 1) (la + 1))) := fun wx hb => (hb.cell (p := ⟨ga, t, none⟩) (by show ga < wr.heap.size; omega)).trans (by assumption)
        have HK2 : Hid (∀ wx : World, Below wr.heap.size wr wx → wx.cell? ⟨ga, u, none⟩ = some (.slice (some ⟨rb, 0, none⟩) (lb + 1) (lb + 1))) := fun wx hb => (hb.cell (p := ⟨ga, u, none⟩) (by show ga < wr.heap.size; omega)).trans (by assumption)
        have HK3 : Hid (∀ wx : World, Below wr.heap.size wr wx → wx.cell? ⟨w.heap.size, 0, none⟩ = some (.int .i64 (x : Int))) := fun wx hb => (hb.cell (p := ⟨w.heap.size, 0, none⟩) (by show w.heap.size < wr.heap.size; omega)).trans (by assumption)
        have HK4 : Hid (∀ wx : World, Below wr.heap.size wr wx → wx.cell? ⟨w.heap.size, 1, none⟩ = some (.int .i64 (y : Int))) := fun wx hb => (hb.cell (p := ⟨w.heap.size, 1, none⟩) (by show w.heap.size < wr.heap.size; omega)).trans (by assumption)
        obtain ⟨wo, rfl⟩ : ∃ wo : World, wo = wr := ⟨_, rfl⟩
        go_wp2
        refine wp_region_held_drew (S := (fun w' => w'.cell? ⟨gt, x, none⟩ = some (.slice (some ⟨ga, 0, none⟩) (y + 1) (y + 1)) ∧ w'.cell? ⟨ga, t, none⟩ = some (.slice (some ⟨ra, 0, none⟩) (la + 1) (la + 1)) ∧ w'.cell? ⟨ga, u, none⟩ = some (.slice (some ⟨rb, 0, none⟩) (lb + 1) (lb + 1)) ∧ w'.cell? ⟨w.heap.size, 0, none⟩ = some (.int .i64 (x : Int)) ∧ w'.cell? ⟨w.heap.size, 1, none⟩ = some (.int .i64 (y : Int)))) (by kernel_rfl) ?_ (fun hHeld => ?_)
        · ((try dsimp only); (repeat' apply And.intro); all_goals ((repeat (first | (with_reducible refine cell_drew ?_) | (with_reducible refine cell_drewN _ ?_) | ((with_reducible refine cell_alloc ?_ ?_); · first | omega | (simp; done) | (simp; omega) | assumption) | ((with_reducible refine cell_set ?_ ?_); · first | (intro e; injection e; omega) | (intro e; simp at e; done) | (intro e; simp at e; omega)))); first | assumption | (simp; done)))
        refine reg_on (i := 0) (d := 75) (v := ?rv40) rfl rfl (by kernel_rfl) (by kernel_rfl) (by kernel_rfl) (fun _ _ _ h => h) (by rfl) ?ry40 (by assumption) ?rr40
        case ry40 => (intro wz hSw; (try dsimp only at hSw); go_simp; try with_reducible rfl)
        (try simp only [Act.put, List.setIfInBounds_toArray, List.set_cons_zero, List.set_cons_succ])
        refine reg_on (i := 1) (d := 76) (v := ?rv41) rfl rfl (by kernel_rfl) (by kernel_rfl) (by kernel_rfl) (fun _ _ _ h => h) (by rfl) ?ry41 (by assumption) ?rr41
        case ry41 => (intro wz hSw; (try dsimp only at hSw); go_simp; try with_reducible rfl)
        (try simp only [Act.put, List.setIfInBounds_toArray, List.set_cons_zero, List.set_cons_succ])
        refine reg_on (i := 2) (d := 77) (v := ?rv42) rfl rfl (by kernel_rfl) (by kernel_rfl) (by kernel_rfl) (fun _ _ _ h => h) (by rfl) ?ry42 (by assumption) ?rr42
        case ry42 => (intro wz hSw; (try dsimp only at hSw); go_simp; try with_reducible rfl)
        (try simp only [Act.put, List.setIfInBounds_toArray, List.set_cons_zero, List.set_cons_succ])
        refine reg_on (i := 3) (d := 78) (v := ?rv43) rfl rfl (by kernel_rfl) (by kernel_rfl) (by kernel_rfl) (fun _ _ _ h => h) (by rfl) ?ry43 (by assumption) ?rr43
        case ry43 => (intro wz hSw; (try dsimp only at hSw); go_simp; try with_reducible rfl)
        (try simp only [Act.put, List.setIfInBounds_toArray, List.set_cons_zero, List.set_cons_succ])
        refine reg_on (i := 4) (d := 79) (v := ?rv44) rfl rfl (by kernel_rfl) (by kernel_rfl) (by kernel_rfl) (fun _ _ _ h => h) (by rfl) ?ry44 (by assumption) ?rr44
        case ry44 => (intro wz hSw; (try dsimp only at hSw); go_simp; try with_reducible rfl)
        (try simp only [Act.put, List.setIfInBounds_toArray, List.set_cons_zero, List.set_cons_succ])
        refine reg_on (i := 5) (d := 80) (v := ?rv45) rfl rfl (by kernel_rfl) (by kernel_rfl) (by kernel_rfl) (fun _ _ _ h => h) (by rfl) ?ry45 (by assumption) ?rr45
        case ry45 => (intro wz hSw; (try dsimp only at hSw); go_simp; try with_reducible rfl)
        (try simp only [Act.put, List.setIfInBounds_toArray, List.set_cons_zero, List.set_cons_succ])
        refine reg_on (i := 6) (d := 81) (v := ?rv46) rfl rfl (by kernel_rfl) (by kernel_rfl) (by kernel_rfl) (fun _ _ _ h => h) (by rfl) ?ry46 (by assumption) ?rr46
        case ry46 => (intro wz hSw; (try dsimp only at hSw); go_simp; try with_reducible rfl)
        (try simp only [Act.put, List.setIfInBounds_toArray, List.set_cons_zero, List.set_cons_succ])
        refine reg_on (i := 7) (d := 82) (v := ?rv47) rfl rfl (by kernel_rfl) (by kernel_rfl) (by kernel_rfl) (fun _ _ _ h => h) (by rfl) ?ry47 (by assumption) ?rr47
        case ry47 => (intro wz hSw; (try dsimp only at hSw); go_simp; try with_reducible rfl)
        (try simp only [Act.put, List.setIfInBounds_toArray, List.set_cons_zero, List.set_cons_succ])
        refine reg_on (i := 8) (d := 83) (v := ?rv48) rfl rfl (by kernel_rfl) (by kernel_rfl) (by kernel_rfl) (fun _ _ _ h => h) (by rfl) ?ry48 (by assumption) ?rr48
        case ry48 => (intro wz hSw; (try dsimp only at hSw); go_simp; try with_reducible rfl)
        (try simp only [Act.put, List.setIfInBounds_toArray, List.set_cons_zero, List.set_cons_succ])
        refine reg_on (i := 9) (d := 84) (v := ?rv49) rfl rfl (by kernel_rfl) (by kernel_rfl) (by kernel_rfl) (fun _ _ _ h => h) (by rfl) ?ry49 (by assumption) ?rr49
        case ry49 => (intro wz hSw; (try dsimp only at hSw); go_simp; try with_reducible rfl)
        (try simp only [Act.put, List.setIfInBounds_toArray, List.set_cons_zero, List.set_cons_succ])
        refine reg_on (i := 10) (d := 85) (v := ?rv50) rfl rfl (by kernel_rfl) (by kernel_rfl) (by kernel_rfl) (fun _ _ _ h => h) (by rfl) ?ry50 (by assumption) ?rr50
        case ry50 => (intro wz hSw; (try dsimp only at hSw); go_simp; try with_reducible rfl)
        (try simp only [Act.put, List.setIfInBounds_toArray, List.set_cons_zero, List.set_cons_succ])
        refine reg_on (i := 11) (d := 86) (v := ?rv51) rfl rfl (by kernel_rfl) (by kernel_rfl) (by kernel_rfl) (fun _ _ _ h => h) (by rfl) ?ry51 (by assumption) ?rr51
        case ry51 => (intro wz hSw; (try dsimp only at hSw); go_simp; try with_reducible rfl)
        (try simp only [Act.put, List.setIfInBounds_toArray, List.set_cons_zero, List.set_cons_succ])
        refine reg_on (i := 12) (d := 87) (v := ?rv52) rfl rfl (by kernel_rfl) (by kernel_rfl) (by kernel_rfl) (fun _ _ _ h => h) (by rfl) ?ry52 (by assumption) ?rr52
        case ry52 => (intro wz hSw; (try dsimp only at hSw); go_simp; try with_reducible rfl)
        (try simp only [Act.put, List.setIfInBounds_toArray, List.set_cons_zero, List.set_cons_succ])
        refine reg_on (i := 13) (d := 88) (v := ?rv53) rfl rfl (by kernel_rfl) (by kernel_rfl) (by kernel_rfl) (fun _ _ _ h => h) (by rfl) ?ry53 (by assumption) ?rr53
        case ry53 => (intro wz hSw; (try dsimp only at hSw); go_simp; try with_reducible rfl)
        (try simp only [Act.put, List.setIfInBounds_toArray, List.set_cons_zero, List.set_cons_succ])
        refine reg_on (i := 14) (d := 89) (v := ?rv54) rfl rfl (by kernel_rfl) (by kernel_rfl) (by kernel_rfl) (fun _ _ _ h => h) (by rfl) ?ry54 (by assumption) ?rr54
        case ry54 => (intro wz hSw; (try dsimp only at hSw); go_simp; try with_reducible rfl)
        (try simp only [Act.put, List.setIfInBounds_toArray, List.set_cons_zero, List.set_cons_succ])
        refine reg_on (i := 15) (d := 90) (v := ?rv55) rfl rfl (by kernel_rfl) (by kernel_rfl) (by kernel_rfl) (fun _ _ _ h => h) (by rfl) ?ry55 (by assumption) ?rr55
        case ry55 => (intro wz hSw; (try dsimp only at hSw); go_simp; try with_reducible rfl)
        (try simp only [Act.put, List.setIfInBounds_toArray, List.set_cons_zero, List.set_cons_succ])
        refine reg_on (i := 16) (d := 91) (v := ?rv56) rfl rfl (by kernel_rfl) (by kernel_rfl) (by kernel_rfl) (fun _ _ _ h => h) (by rfl) ?ry56 (by assumption) ?rr56
        case ry56 => (intro wz hSw; (try dsimp only at hSw); go_simp; try with_reducible rfl)
        (try simp only [Act.put, List.setIfInBounds_toArray, List.set_cons_zero, List.set_cons_succ])
        refine reg_on (i := 17) (d := 92) (v := ?rv57) rfl rfl (by kernel_rfl) (by kernel_rfl) (by kernel_rfl) (fun _ _ _ h => h) (by rfl) ?ry57 (by assumption) ?rr57
        case ry57 => (intro wz hSw; (try dsimp only at hSw); go_simp; try with_reducible rfl)
        (try simp only [Act.put, List.setIfInBounds_toArray, List.set_cons_zero, List.set_cons_succ])
        refine reg_on (i := 18) (d := 93) (v := ?rv58) rfl rfl (by kernel_rfl) (by kernel_rfl) (by kernel_rfl) (fun _ _ _ h => h) (by rfl) ?ry58 (by assumption) ?rr58
        case ry58 => (intro wz hSw; (try dsimp only at hSw); go_simp; try with_reducible rfl)
        (try simp only [Act.put, List.setIfInBounds_toArray, List.set_cons_zero, List.set_cons_succ])
        refine reg_on (i := 19) (d := 94) (v := ?rv59) rfl rfl (by kernel_rfl) (by kernel_rfl) (by kernel_rfl) (fun _ _ _ h => h) (by rfl) ?ry59 (by assumption) ?rr59
        case ry59 => (intro wz hSw; (try dsimp only at hSw); go_simp; try with_reducible rfl)
        (try simp only [Act.put, List.setIfInBounds_toArray, List.set_cons_zero, List.set_cons_succ])
        refine reg_on (i := 21) (d := 96) (v := ?rv60) rfl rfl (by kernel_rfl) (by kernel_rfl) (by kernel_rfl) (fun _ _ _ h => h) (by rfl) ?ry60 (by assumption) ?rr60
        case ry60 => (intro wz hSw; (try dsimp only at hSw); go_simp; try with_reducible rfl)
        (try simp only [Act.put, List.setIfInBounds_toArray, List.set_cons_zero, List.set_cons_succ])
        refine reg_on (i := 24) (d := 99) (v := ?rv61) rfl rfl (by kernel_rfl) (by kernel_rfl) (by kernel_rfl) (fun _ _ _ h => h) (by rfl) ?ry61 (by assumption) ?rr61
        case ry61 => (intro wz hSw; (try dsimp only at hSw); go_simp; try with_reducible rfl)
        (try simp only [Act.put, List.setIfInBounds_toArray, List.set_cons_zero, List.set_cons_succ])
        refine wpAnyH_ready (rs := [20]) (by kernel_rfl) (by simp) ?_
        refine AllReadyH.cons rfl (fun K hK => ?_) AllReadyH.nil
        go_simp
        go_at_call 29; refine (HSU.out _ (by (repeat (first | (with_reducible exact Below.refl _ _) | (with_reducible assumption) | (with_reducible refine Below.drew ?_) | ((with_reducible refine balloc ?_ _ ?_); · (first | (simp; done) | (simp; omega) | omega)) | ((with_reducible refine bset ?_ _ ?_); · (first | (simp; done) | (simp; omega) | omega)) | (with_reducible refine bdrewN _ ?_) | ((with_reducible refine bcall ?_ (by assumption) ?_); · (first | (simp; done) | (simp; omega) | omega)))))).mono ?_; rintro e wa ⟨z, rfl, hz, z0, z1, hba⟩; have sa := hba.size; (try simp at sa); have kwa0 : wa.cell? ⟨gt, x, none⟩ = some (.slice (some ⟨ga, 0, none⟩) (y + 1) (y + 1)) := (HK0.out _ (by (repeat (first | (with_reducible exact Below.refl _ _) | (with_reducible assumption) | (with_reducible refine Below.drew ?_) | ((with_reducible refine balloc ?_ _ ?_); · (first | (simp; done) | (simp; omega) | omega)) | ((with_reducible refine bset ?_ _ ?_); · (first | (simp; done) | (simp; omega) | omega)) | (with_reducible refine bdrewN _ ?_) | ((with_reducible refine bcall ?_ (by assumption) ?_); · (first | (simp; done) | (simp; omega) | omega)))))); have kwa1 : wa.cell? ⟨ga, t, none⟩ = some (.slice (some ⟨ra, 0, none⟩) (la + 1) (la + 1)) := (HK1.out _ (by (repeat (first | (with_reducible exact Below.refl _ _) | (with_reducible assumption) | (with_reducible refine Below.drew ?_) | ((with_reducible refine balloc ?_ _ ?_); · (first | (simp; done) | (simp; omega) | omega)) | ((with_reducible refine bset ?_ _ ?_); · (first | (simp; done) | (simp; omega) | omega)) | (with_reducible refine bdrewN _ ?_) | ((with_reducible refine bcall ?_ (by assumption) ?_); · (first | (simp; done) | (simp; omega) | omega)))))); have kwa2 : wa.cell? ⟨ga, u, none⟩ = some (.slice (some ⟨rb, 0, none⟩) (lb + 1) (lb + 1)) := (HK2.out _ (by (repeat (first | (with_reducible exact Below.refl _ _) | (with_reducible assumption) | (with_reducible refine Below.drew ?_) | ((with_reducible refine balloc ?_ _ ?_); · (first | (simp; done) | (simp; omega) | omega)) | ((with_reducible refine bset ?_ _ ?_); · (first | (simp; done) | (simp; omega) | omega)) | (with_reducible refine bdrewN _ ?_) | ((with_reducible refine bcall ?_ (by assumption) ?_); · (first | (simp; done) | (simp; omega) | omega)))))); have kwa3 : wa.cell? ⟨w.heap.size, 0, none⟩ = some (.int .i64 (x : Int)) := (HK3.out _ (by (repeat (first | (with_reducible exact Below.refl _ _) | (with_reducible assumption) | (with_reducible refine Below.drew ?_) | ((with_reducible refine balloc ?_ _ ?_); · (first | (simp; done) | (simp; omega) | omega)) | ((with_reducible refine bset ?_ _ ?_); · (first | (simp; done) | (simp; omega) | omega)) | (with_reducible refine bdrewN _ ?_) | ((with_reducible refine bcall ?_ (by assumption) ?_); · (first | (simp; done) | (simp; omega) | omega)))))); have kwa4 : wa.cell? ⟨w.heap.size, 1, none⟩ = some (.int .i64 (y : Int)) := (HK4.out _ (by (repeat (first | (with_reducible exact Below.refl _ _) | (with_reducible assumption) | (with_reducible refine Below.drew ?_) | ((with_reducible refine balloc ?_ _ ?_); · (first | (simp; done) | (simp; omega) | omega)) | ((with_reducible refine bset ?_ _ ?_); · (first | (simp; done) | (simp; omega) | omega)) | (with_reducible refine bdrewN _ ?_) | ((with_reducible refine bcall ?_ (by assumption) ?_); · (first | (simp; done) | (simp; omega) | omega))))))
        refine hK.out _ _ ?_ (fun hHeld => ?_)
        · ((try dsimp only); (repeat' apply And.intro); all_goals ((repeat (first | (with_reducible refine cell_drew ?_) | (with_reducible refine cell_drewN _ ?_) | ((with_reducible refine cell_alloc ?_ ?_); · first | omega | (simp; done) | (simp; omega) | assumption) | ((with_reducible refine cell_set ?_ ?_); · first | (intro e; injection e; omega) | (intro e; simp at e; done) | (intro e; simp at e; omega)))); first | assumption | (simp; done)))
        clear hK K
        (try simp only [Act.put, List.setIfInBounds_toArray, List.set_cons_zero, List.set_cons_succ])
        refine wpAnyH_ready (rs := [22]) (by kernel_rfl) (by simp) ?_
        refine AllReadyH.cons rfl (fun K hK => ?_) AllReadyH.nil
        go_simp
        go_at_call 30; refine (HPR.out _).mono ?_; rintro e wb ⟨rfl, hbb⟩; have sb := hbb.size; (try simp at sb); have BWB : Below wo.heap.size wo wb := (by (repeat (first | (with_reducible exact Below.refl _ _) | (with_reducible assumption) | (with_reducible refine Below.drew ?_) | ((with_reducible refine balloc ?_ _ ?_); · (first | (simp; done) | (simp; omega) | omega)) | ((with_reducible refine bset ?_ _ ?_); · (first | (simp; done) | (simp; omega) | omega)) | (with_reducible refine bdrewN _ ?_) | ((with_reducible refine bcall ?_ (by assumption) ?_); · (first | (simp; done) | (simp; omega) | omega))))); have kwb0 : wb.cell? ⟨gt, x, none⟩ = some (.slice (some ⟨ga, 0, none⟩) (y + 1) (y + 1)) := (HK0.out _ (by (repeat (first | (with_reducible exact Below.refl _ _) | (with_reducible assumption) | (with_reducible refine Below.drew ?_) | ((with_reducible refine balloc ?_ _ ?_); · (first | (simp; done) | (simp; omega) | omega)) | ((with_reducible refine bset ?_ _ ?_); · (first | (simp; done) | (simp; omega) | omega)) | (with_reducible refine bdrewN _ ?_) | ((with_reducible refine bcall ?_ (by assumption) ?_); · (first | (simp; done) | (simp; omega) | omega)))))); have kwb1 : wb.cell? ⟨ga, t, none⟩ = some (.slice (some ⟨ra, 0, none⟩) (la + 1) (la + 1)) := (HK1.out _ (by (repeat (first | (with_reducible exact Below.refl _ _) | (with_reducible assumption) | (with_reducible refine Below.drew ?_) | ((with_reducible refine balloc ?_ _ ?_); · (first | (simp; done) | (simp; omega) | omega)) | ((with_reducible refine bset ?_ _ ?_); · (first | (simp; done) | (simp; omega) | omega)) | (with_reducible refine bdrewN _ ?_) | ((with_reducible refine bcall ?_ (by assumption) ?_); · (first | (simp; done) | (simp; omega) | omega)))))); have kwb2 : wb.cell? ⟨ga, u, none⟩ = some (.slice (some ⟨rb, 0, none⟩) (lb + 1) (lb + 1)) := (HK2.out _ (by (repeat (first | (with_reducible exact Below.refl _ _) | (with_reducible assumption) | (with_reducible refine Below.drew ?_) | ((with_reducible refine balloc ?_ _ ?_); · (first | (simp; done) | (simp; omega) | omega)) | ((with_reducible refine bset ?_ _ ?_); · (first | (simp; done) | (simp; omega) | omega)) | (with_reducible refine bdrewN _ ?_) | ((with_reducible refine bcall ?_ (by assumption) ?_); · (first | (simp; done) | (simp; omega) | omega)))))); have kwb3 : wb.cell? ⟨w.heap.size, 0, none⟩ = some (.int .i64 (x : Int)) := (HK3.out _ (by (repeat (first | (with_reducible exact Below.refl _ _) | (with_reducible assumption) | (with_reducible refine Below.drew ?_) | ((with_reducible refine balloc ?_ _ ?_); · (first | (simp; done) | (simp; omega) | omega)) | ((with_reducible refine bset ?_ _ ?_); · (first | (simp; done) | (simp; omega) | omega)) | (with_reducible refine bdrewN _ ?_) | ((with_reducible refine bcall ?_ (by assumption) ?_); · (first | (simp; done) | (simp; omega) | omega)))))); have kwb4 : wb.cell? ⟨w.heap.size, 1, none⟩ = some (.int .i64 (y : Int)) := (HK4.out _ (by (repeat (first | (with_reducible exact Below.refl _ _) | (with_reducible assumption) | (with_reducible refine Below.drew ?_) | ((with_reducible refine balloc ?_ _ ?_); · (first | (simp; done) | (simp; omega) | omega)) | ((with_reducible refine bset ?_ _ ?_); · (first | (simp; done) | (simp; omega) | omega)) | (with_reducible refine bdrewN _ ?_) | ((with_reducible refine bcall ?_ (by assumption) ?_); · (first | (simp; done) | (simp; omega) | omega))))))
        refine hK.out _ _ ?_ (fun hHeld => ?_)
        · ((try dsimp only); (repeat' apply And.intro); all_goals ((repeat (first | (with_reducible refine cell_drew ?_) | (with_reducible refine cell_drewN _ ?_) | ((with_reducible refine cell_alloc ?_ ?_); · first | omega | (simp; done) | (simp; omega) | assumption) | ((with_reducible refine cell_set ?_ ?_); · first | (intro e; injection e; omega) | (intro e; simp at e; done) | (intro e; simp at e; omega)))); first | assumption | (simp; done)))
        clear hK K
        (try simp only [Act.put, List.setIfInBounds_toArray, List.set_cons_zero, List.set_cons_succ])
        refine reg_on (i := 23) (d := 98) (v := ?rv64) rfl rfl (by kernel_rfl) (by kernel_rfl) (by kernel_rfl) (fun _ _ _ h => h) (by rfl) ?ry64 (by assumption) ?rr64
        case ry64 => (intro wz hSw; (try dsimp only at hSw); go_simp; try with_reducible rfl)
        (try simp only [Act.put, List.setIfInBounds_toArray, List.set_cons_zero, List.set_cons_succ])
        refine reg_on (i := 25) (d := 100) (v := ?rv65) rfl rfl (by kernel_rfl) (by kernel_rfl) (by kernel_rfl) (fun _ _ _ h => h) (by rfl) ?ry65 (by assumption) ?rr65
        case ry65 => (intro wz hSw; (try dsimp only at hSw); go_simp; try with_reducible rfl)
        (try simp only [Act.put, List.setIfInBounds_toArray, List.set_cons_zero, List.set_cons_succ])
        refine wpAnyH_done (by kernel_rfl) ?_ _
        have HBW := Lib.hid (hB.out.trans (BWB.mono sB))
        have hmz := HMIN.out z hz.out z0
        by_cases hhit : z + (pc : Int) = lv
        · have HF : Hid (FirstHit M x y s false t) := ⟨ht1, by rw [hhit, hlv.out] at hmz; exact hmz, hlt, hno2.out, fun _ => hno.out⟩
          have heq : (IntKind.i64.wrap (z + (pc : Int)) != lv) = false := by rw [IntWalk.i64_in _ ⟨by omega, by omega⟩]; simp [hhit]
          clear hmz
          go_wp2
          go_ret3
          exact ⟨M, false, t, hRM.out, HF.out, rfl, HBW1.out.trans (HBW.out.mono (by omega))⟩
        · have HNO : Hid (∀ t2, 1 ≤ t2 → t2 < t + 1 → ¬ HitM M x y s false t2) := by
            intro t2 h1 h2
            by_cases e : t2 = t
            · rw [e]; intro hq; exact hhit (by rw [hlv.out]; exact hmz.unique hq)
            · exact hno2.out t2 h1 (by omega)
          have htt : t ≠ tt := by
            intro e
            exact HNO.out tt tt1 (by omega) HTT.out
          have heq : (IntKind.i64.wrap (z + (pc : Int)) != lv) = true := by rw [IntWalk.i64_in _ ⟨by omega, by omega⟩]; simp [hhit]
          clear hmz
          go_wp2
          go_roundw
          case rel => exact ⟨t + 1, by omega, by omega, by go_num, HBW, HNO⟩
          case measure => simp [intOf]; omega

end Go.Proofs.Ytobncknlipeinaa
