/-
  Contract: FirstToEat of the program.
-/
import Derived.Test.YtobncknlipeinaaFstS
import Derived.Test.YtobncknlipeinaaFstN
import Derived.WalkMore
import Derived.Deep.LoopGhost
namespace Go.Proofs.Ytobncknlipeinaa
open Go.RowKit Go.Maps
set_option linter.unusedVariables false
set_option linter.unusedSimpArgs false

/-- what is read behind a break is the least cost just if the break costs no more -/
theorem hit_iff {M N : C3} {x y s : Nat} (hM : RecM M x y) (hN : RecN N (max x y) (min x y)) (hx1 : 1 ≤ x) (hx2 : x ≤ 12) (hy1 : 1 ≤ y) (hy2 : y ≤ 12) (h0 : 0 < s) (h1 : s < x * y) {d : Bool} {t : Nat} (t1 : 1 ≤ t) (t2 : t < if d then x else y) {v : Int}
    (hv : IsMin (fun u => DirE N x y d t s u ∨ u = 20736) v) : v = N (max x y) (min x y) s ↔ HitM M x y s d t := by
  have ag : ∀ a b k, 1 ≤ a → a ≤ x → 1 ≤ b → b ≤ y → k ≤ a * b → M a b k = lyN N a b k := fun a b k a1 a2 b1 b2 hk => eat_agree hM hN hx2 hy2 (a + b) a b k (Nat.le_refl _) a1 a2 b1 b2 hk
  have le : ∀ a b k, 1 ≤ a → a ≤ x → 1 ≤ b → b ≤ y → k ≤ a * b → 0 ≤ M a b k ∧ M a b k + 144 ≤ 144 * ((a * b : Nat) : Int) := fun a b k a1 a2 b1 b2 hk => eat_le hM hx2 hy2 (a + b) a b k (Nat.le_refl _) a1 a2 b1 b2 hk
  have hxy : x * y ≤ 144 := Nat.le_trans (Nat.mul_le_mul hx2 hy2) (by omega)
  have hX : ∀ u, DirE N x y d t s u ↔ CandX M x y s d t u := by
    intro u
    cases d
    · have t2' : t < y := by simpa using t2
      simp only [DirE, CandX]
      constructor
      · rintro ⟨k, k1, k2, k3, e⟩
        exact ⟨k, k1, k2, k3, by rw [e, ag x t k hx1 (Nat.le_refl _) t1 (by omega) k1, ag x (y - t) (s - k) hx1 (Nat.le_refl _) (by omega) (by omega) k3]⟩
      · rintro ⟨k, k1, k2, k3, e⟩
        exact ⟨k, k1, k2, k3, by rw [e, ag x t k hx1 (Nat.le_refl _) t1 (by omega) k1, ag x (y - t) (s - k) hx1 (Nat.le_refl _) (by omega) (by omega) k3]⟩
    · have t2' : t < x := by simpa using t2
      simp only [DirE, CandX, if_true]
      constructor
      · rintro ⟨k, k1, k2, k3, e⟩
        exact ⟨k, k1, k2, k3, by rw [e, ag t y k t1 (by omega) hy1 (Nat.le_refl _) k1, ag (x - t) y (s - k) (by omega) (by omega) hy1 (Nat.le_refl _) k3]⟩
      · rintro ⟨k, k1, k2, k3, e⟩
        exact ⟨k, k1, k2, k3, by rw [e, ag t y k t1 (by omega) hy1 (Nat.le_refl _) k1, ag (x - t) y (s - k) (by omega) (by omega) hy1 (Nat.le_refl _) k3]⟩
  have hsome : ∃ u, CandX M x y s d t u ∧ u < 20736 := by
    cases d
    · have t2' : t < y := by simpa using t2
      have e : x * t + x * (y - t) = x * y := by rw [← Nat.mul_add, show t + (y - t) = y by omega]
      refine ⟨_, ⟨min s (x * t), by omega, by omega, by omega, rfl⟩, ?_⟩
      have q1 := (le x t (min s (x * t)) hx1 (Nat.le_refl _) t1 (by omega) (by omega)).2
      have q2 := (le x (y - t) (s - min s (x * t)) hx1 (Nat.le_refl _) (by omega) (by omega) (by omega)).2
      have q3 := sq_le hx2
      omega
    · have t2' : t < x := by simpa using t2
      have e : t * y + (x - t) * y = x * y := by rw [← Nat.add_mul, show t + (x - t) = x by omega]
      refine ⟨_, ⟨min s (t * y), by omega, by omega, by omega, rfl⟩, ?_⟩
      have q1 := (le t y (min s (t * y)) t1 (by omega) hy1 (Nat.le_refl _) (by omega)).2
      have q2 := (le (x - t) y (s - min s (t * y)) (by omega) (by omega) hy1 (Nat.le_refl _) (by omega)).2
      have q3 := sq_le hy2
      omega
  have hS : IsMin (CandX M x y s d t) v := by
    obtain ⟨u, hu1, hu2⟩ := hsome
    have q := hv.le (.inl ((hX u).2 hu1))
    rcases hv with ⟨e, _⟩ | ⟨v0, v1, v2⟩
    · omega
    · rcases v1 with v1 | v1
      · exact .inr ⟨v0, (hX v).1 v1, fun z hz => v2 z (.inl ((hX z).2 hz))⟩
      · omega
  have el : N (max x y) (min x y) s = M x y s := (ag x y s hx1 (Nat.le_refl _) hy1 (Nat.le_refl _) (Nat.le_of_lt h1)).symm
  rw [el]
  constructor
  · intro e; rw [e] at hS; exact hS
  · intro h; exact hS.unique h

theorem idx_bools0 (w : World) : (Instr.index 58 (.agg #[.bool true, .bool false]) (.int .i64 0)).run Try.prog w = .ok (.bool true) w := rfl
theorem idx_bools1 (w : World) : (Instr.index 58 (.agg #[.bool true, .bool false]) (.int .i64 1)).run Try.prog w = .ok (.bool false) w := rfl

set_option maxRecDepth 100000 in
set_option maxHeartbeats 4000000 in
theorem first_yes (M : C3) (x y s : Nat) (w : World) (hM : RecM M x y) (hx1 : 1 ≤ x) (hx2 : x ≤ 12) (hy1 : 1 ≤ y) (hy2 : y ≤ 12) (hs0 : 0 < s) (hsxy : s < x * y) :
    Calls Try.prog 12 #[bar2 x y, .int .i64 s] w fun e w' => ∃ (d : Bool) (t : Nat), FirstHit M x y s d t ∧ e = .returned (.tuple #[.bool d, .int .i64 t, .bool true]) ∧ Below w.heap.size w w' := by
  have hbar : barB (x : Int) (y : Int) = true := by simp [barB]; omega
  have hxy : x * y ≤ 144 := Nat.le_trans (Nat.mul_le_mul hx2 hy2) (by omega)
  have HIB : Hid (∀ wx, Calls Try.prog 26 #[bar2 x y] wx fun e w' => e = .returned (.bool true) ∧ Below wx.heap.size wx w') := fun wx => by have h := isBar_any (x : Int) (y : Int) wx; rwa [hbar] at h
  have HCE := Lib.hid (fun wx => costsToEat_any x y wx hx1 hx2 hy1 hy2)
  have hly := fun wx => lying_any (x : Int) (y : Int) wx
  have HLN : Hid (∀ wx (d : Bool), Calls Try.prog 31 #[bar2 x y, .bool d] wx fun e w' => e = .returned (.int .i64 (if d then (x : Int) - 1 else (y : Int) - 1)) ∧ Below wx.heap.size wx w') := fun wx d => linesOf_any x y d wx hbar
  have HDN : Hid (∀ (N : C3) (mb n : Nat) wx (t : Nat), (∀ a b k, 0 ≤ N a b k ∧ N a b k ≤ 20736) → MapE wx mb n N → 1 ≤ t → t < x → Calls Try.prog 32 #[bar2 x y, .bool true, .int .i64 t, .map (some mb)] wx fun e w' => ∃ f : Nat → Int, e = .returned (.agg (arrE f)) ∧ (∀ k, k < 145 → IsMin (fun v => DirE N x y true t k v ∨ v = 20736) (f k)) ∧ Below wx.heap.size wx w') := fun N mb n wx t hMB hm t1 t2 => by
    have hq : t * y + (x - t) * y ≤ 144 := by rw [← Nat.add_mul, show t + (x - t) = x by omega]; omega
    refine (costsBehind_any x y true t t y (x - t) y y mb n N wx hbar (by simp [canB, inB]; omega) rfl (by simp only [part2, if_pos]; congr 1; omega) rfl hy2 (by omega) hy2 (by omega) hy2 hq hm hMB).mono ?_
    rintro e w' ⟨f, h1, h2, h3⟩
    exact ⟨f, h1, fun k hk => (h2 k hk).congr fun v => by rw [behS_cand], h3⟩
  have HAC : Hid (∀ (N : C3) (mb n : Nat) wx (t : Nat), (∀ a b k, 0 ≤ N a b k ∧ N a b k ≤ 20736) → MapE wx mb n N → 1 ≤ t → t < y → Calls Try.prog 32 #[bar2 x y, .bool false, .int .i64 t, .map (some mb)] wx fun e w' => ∃ f : Nat → Int, e = .returned (.agg (arrE f)) ∧ (∀ k, k < 145 → IsMin (fun v => DirE N x y false t k v ∨ v = 20736) (f k)) ∧ Below wx.heap.size wx w') := fun N mb n wx t hMB hm t1 t2 => by
    have hq : x * t + x * (y - t) ≤ 144 := by rw [← Nat.mul_add, show t + (y - t) = y by omega]; omega
    refine (costsBehind_any x y false t x t x (y - t) x mb n N wx hbar (by simp [canB, inB]; omega) rfl (by simp only [part2]; rw [if_neg (by decide)]; congr 1; omega) rfl hx2 hx2 (by omega) hx2 (by omega) hq hm hMB).mono ?_
    rintro e w' ⟨f, h1, h2, h3⟩
    exact ⟨f, h1, fun k hk => (h2 k hk).congr fun v => by rw [behS_candA], h3⟩
  have HIFF : Hid (∀ (N : C3) (d : Bool) (t : Nat) (v : Int), RecN N (max x y) (min x y) → 1 ≤ t → (t < if d then x else y) → IsMin (fun u => DirE N x y d t s u ∨ u = 20736) v → (v = N (max x y) (min x y) s ↔ HitM M x y s d t)) := fun N d t v hN t1 t2 hv => hit_iff hM hN hx1 hx2 hy1 hy2 hs0 hsxy t1 t2 hv
  have HHS : Hid ((∀ t, 1 ≤ t → t < x → ¬ HitM M x y s true t) → ∃ t, 1 ≤ t ∧ t < y ∧ HitM M x y s false t) := fun h => hit_some hM hx1 hx2 hy1 hy2 hs0 hsxy h
  obtain ⟨X, hX⟩ : ∃ X, X = max x y := ⟨_, rfl⟩
  obtain ⟨Y, hY⟩ : ∃ Y, Y = min x y := ⟨_, rfl⟩
  rw [show max (x : Int) (y : Int) = (X : Int) by omega, show min (x : Int) (y : Int) = (Y : Int) by omega] at hly
  rw [← hX, ← hY] at HCE HIFF
  have HLY := Lib.hid hly
  have hX2 : X ≤ 100 := by omega
  have hY2 : Y ≤ 100 := by omega
  obtain ⟨xy, hxye⟩ : ∃ z, Hid (z = x * y) := ⟨_, rfl⟩
  rw [← hxye.out] at hxy hsxy
  have hxw : IntKind.i64.wrap ((x : Int) * (y : Int)) = (xy : Int) := by rw [hxye.out, ← Int.natCast_mul]; exact IntWalk.i64_in _ ⟨by rw [← hxye.out]; omega, by rw [← hxye.out]; omega⟩
  have y0 : ¬ (s : Int) ≤ 0 := by omega
  have yN : ¬ (xy : Int) ≤ (s : Int) := by omega
  have z5 : s < 145 := by omega
  have z4 : (s : Int) < 145 := by omega
  have HIX := Lib.hid (fun (F : Nat → Int) (wx : World) => idx_arrE F z5 wx)
  clear hly hX hY hbar hM
  go_enter Try.func12, Try.ntmps12
  go_wp2
  go_step3
  go_wp2_with fail
  refine (HIB.out _).mono ?_; rintro e w1 ⟨rfl, hb1⟩; have s1 := hb1.size; obtain ⟨hc1, hf1⟩ := bcell hb1; have z1_w0 : w.heap.size < w1.heap.size := (by have q := s1; first | omega | (simp at q; omega))
  have c0 : w1.cell? ⟨w.heap.size, 0, none⟩ = some (.int .i64 (x : Int)) := by rw [hc1 _ _ (by simp)]; simp [go_sem]
  have c1 : w1.cell? ⟨w.heap.size, 1, none⟩ = some (.int .i64 (y : Int)) := by rw [hc1 _ _ (by simp)]; simp [go_sem]
  have bw1 : Below w.heap.size w w1 := by (repeat (first | (with_reducible exact Below.refl _ _) | (with_reducible assumption) | (with_reducible refine Below.drew ?_) | ((with_reducible refine balloc ?_ _ ?_); · (first | (simp; done) | (simp; omega) | omega)) | ((with_reducible refine bset ?_ _ ?_); · (first | (simp; done) | (simp; omega) | omega)) | (with_reducible refine bdrewN _ ?_) | ((with_reducible refine bcall ?_ (by assumption) ?_); · (first | (simp; done) | (simp; omega) | omega))))
  clear hc1 hf1 hb1
  go_wp2_with fail
  refine (HCE.out _).mono ?_; rintro e w2 ⟨N, mb, rfl, ⟨nn, hMP2⟩, hRN, hBD, hmb2, hb2⟩
  have s1 := bw1.size
  have s2 := hb2.size
  have hw1 : w.heap.size < w1.heap.size := by first | omega | (have := z1_w0; omega)
  have d0 := (hb2.cell (p := ⟨w.heap.size, 0, none⟩) hw1).trans c0
  have d1 := (hb2.cell (p := ⟨w.heap.size, 1, none⟩) hw1).trans c1
  have bw2 := bw1.trans (hb2.mono s1)
  clear c0 c1 bw1 hb2
  go_wp2_with fail
  refine (HLY.out _).mono ?_; rintro e w3 ⟨rfl, hb3⟩
  have hMP3 := hMP2.below hb3 hMP2.lt
  have s3 := hb3.size
  have e0 := (hb3.cell (p := ⟨w.heap.size, 0, none⟩) (show w.heap.size < w2.heap.size by omega)).trans d0
  have e1 := (hb3.cell (p := ⟨w.heap.size, 1, none⟩) (show w.heap.size < w2.heap.size by omega)).trans d1
  have bw3 := bw2.trans (hb3.mono (by omega))
  have hlk := hMP3.look (x := X) (y := Y) hX2 hY2
  have hix := HIX.out (N X Y) w3
  obtain ⟨lv, hlv⟩ : ∃ lv, Hid (lv = N X Y s) := ⟨_, rfl⟩
  rw [← hlv.out] at hix
  have HLV : Hid (lv = N X Y s) := hlv.out
  have hmb3 := hMP3.lt
  have HMP := Lib.hid hMP3
  have HRN := Lib.hid hRN
  have HBD := Lib.hid hBD
  have E0 := Lib.hid e0
  have E1 := Lib.hid e1
  have BW3 := Lib.hid bw3
  have hw3 : w.heap.size < w3.heap.size := by omega
  clear hMP2 hMP3 d0 d1 bw2 hb3 bw3 hRN hBD
  go_wp2
  go_step3
  go_wp2
  clear hlk hix e0 e1
  obtain ⟨w4, hw4⟩ : ∃ w4, w4 = w3.alloc (.cells #[.int .i64 0, .bool false, .int .i64 0] 57) := ⟨_, rfl⟩
  rw [← hw4]
  obtain ⟨br, hbr⟩ : ∃ br, br = w3.heap.size := ⟨_, rfl⟩
  rw [← hbr]
  have hs4 : w4.heap.size = br + 1 := by rw [hw4, hbr]; simp
  have B34 : Below w3.heap.size w3 w4 := by rw [hw4]; exact (Below.refl _ _).alloc (Nat.le_refl _) _
  have HBR : Hid (∀ wx : World, Below w4.heap.size w4 wx → wx.cell? ⟨br, 0, none⟩ = some (.int .i64 0) ∧ wx.cell? ⟨br, 1, none⟩ = some (.bool false) ∧ wx.cell? ⟨br, 2, none⟩ = some (.int .i64 0) ∧ wx.frozen? ⟨br, 0, none⟩ = false ∧ wx.frozen? ⟨br, 1, none⟩ = false ∧ wx.frozen? ⟨br, 2, none⟩ = false) := fun wx hb => by
    have hlt : br < w4.heap.size := by omega
    exact ⟨(hb.cell (p := ⟨br, 0, none⟩) hlt).trans (by rw [hw4, hbr]; simp [go_sem]), (hb.cell (p := ⟨br, 1, none⟩) hlt).trans (by rw [hw4, hbr]; simp [go_sem]), (hb.cell (p := ⟨br, 2, none⟩) hlt).trans (by rw [hw4, hbr]; simp [go_sem]),
      (hb.frozen (p := ⟨br, 0, none⟩) hlt).trans (by rw [hw4, hbr]; simp [go_sem]), (hb.frozen (p := ⟨br, 1, none⟩) hlt).trans (by rw [hw4, hbr]; simp [go_sem]), (hb.frozen (p := ⟨br, 2, none⟩) hlt).trans (by rw [hw4, hbr]; simp [go_sem])⟩
  have HMP4 : Hid (∀ wx : World, Below w4.heap.size w4 wx → MapE wx mb nn N) := fun wx hb => by
    have h4 := HMP.out.below B34 hmb3
    exact h4.below hb (by omega)
  have HE : Hid (∀ wx : World, Below w4.heap.size w4 wx → wx.cell? ⟨w.heap.size, 0, none⟩ = some (.int .i64 (x : Int)) ∧ wx.cell? ⟨w.heap.size, 1, none⟩ = some (.int .i64 (y : Int))) := fun wx hb =>
    ⟨(hb.cell (p := ⟨w.heap.size, 0, none⟩) (show w.heap.size < w4.heap.size by omega)).trans ((B34.cell (p := ⟨w.heap.size, 0, none⟩) hw3).trans E0.out), (hb.cell (p := ⟨w.heap.size, 1, none⟩) (show w.heap.size < w4.heap.size by omega)).trans ((B34.cell (p := ⟨w.heap.size, 1, none⟩) hw3).trans E1.out)⟩
  have BW4 := Lib.hid (BW3.out.trans (B34.mono (Nat.le_of_lt hw3)))
  have hbw : w.heap.size < br := by omega
  clear hw4 hbr B34 hmb3 hmb2 s1 s2 s3 hw1
  go_loopg [39] 2 (fun gk kv wr => ∃ k : Nat, k ≤ 2 ∧ gk = 2 - k ∧ kv = .int .i64 k ∧ Hid (Below w4.heap.size w4 wr) ∧ Hid (1 ≤ k → ∀ t, 1 ≤ t → t < x → ¬ HitM M x y s true t) ∧ Hid (2 ≤ k → ∀ t, 1 ≤ t → t < y → ¬ HitM M x y s false t))
  case atStart => exact ⟨0, by omega, rfl, rfl, Below.refl _ _, fun h => by omega, fun h => by omega⟩
  case round =>
    obtain ⟨k, hk2, hgk, rfl, hB, hn1, hn2⟩ := hrel
    rcases (show k = 0 ∨ k = 1 ∨ k = 2 by omega) with rfl | rfl | rfl
    · have hib := idx_bools0 wr
      rw [show ((0 : Nat) : Int) = 0 from rfl]
      have HLD : Hid (∀ wx, Calls Try.prog 31 #[bar2 x y, .bool true] wx fun e w' => e = .returned (.int .i64 ((x : Int) - 1)) ∧ Below wx.heap.size wx w') := fun wx => HLN.out wx true
      go_wp2
      clear hib
      go_loopg [12] (x - 1) (fun gt tv wi => ∃ t : Nat, 1 ≤ t ∧ t ≤ x ∧ gt = x - t ∧ tv = .int .i64 t ∧ Hid (Below w4.heap.size w4 wi) ∧ Hid (∀ t2, 1 ≤ t2 → t2 < t → ¬ HitM M x y s true t2)) 
      case atStart => exact ⟨1, by omega, by omega, rfl, rfl, hB, fun t2 h1 h2 => by omega⟩
      case round =>
        clear hB
        obtain ⟨t, ht1, htL, hgt, rfl, hBi, hno⟩ := hrel
        have sBi := hBi.out.size
        have e := HE.out _ hBi.out
        obtain ⟨e0, e1⟩ := e
        go_wp2_with fail
        refine (HLD.out _).mono ?_; rintro e w5 ⟨rfl, hb5⟩
        have s5 := hb5.size
        have B5 := Lib.hid (hBi.out.trans (hb5.mono sBi))
        clear e0 e1 hb5
        by_cases hlt : t < x
        · have hlti : (t : Int) ≤ (x : Int) - 1 := by omega
          have e := HE.out _ B5.out
          obtain ⟨e0, e1⟩ := e
          go_wp2_with fail
          refine (HDN.out N mb nn _ t HBD.out (HMP4.out _ B5.out) ht1 hlt).mono ?_; rintro e w6 ⟨f, rfl, hf, hb6⟩
          have s6 := hb6.size
          have B6 := Lib.hid (B5.out.trans (hb6.mono (by omega)))
          have hix := HIX.out f w6
          have hiff := HIFF.out N true t (f s) HRN.out ht1 hlt (hf s z5)
          obtain ⟨fv, hfv⟩ : ∃ fv, Hid (fv = f s) := ⟨_, rfl⟩
          rw [← hfv.out] at hix hiff
          rw [← HLV.out] at hiff
          clear e0 e1 hb6 hf
          by_cases hq : fv = lv
          · have HF : Hid (FirstHit M x y s true t) := ⟨ht1, hiff.1 hq, hlt, hno.out, fun h => by cases h⟩
            have heq : (fv == lv) = true := by simp [hq]
            have c := HBR.out _ B6.out
            obtain ⟨c0, c1, c2, f0, f1, f2⟩ := c
            have sB6 := B6.out.size
            have hbg : br < w6.heap.size := by omega
            clear hiff
            obtain ⟨w7, hw7⟩ : ∃ w7, w7 = ((w6.setCell ⟨br, 0, none⟩ (.int .i64 0)).setCell ⟨br, 1, none⟩ (.bool true)).setCell ⟨br, 2, none⟩ (.int .i64 (t : Int)) := ⟨_, rfl⟩
            have n01 : (⟨br, 0, none⟩ : Addr) ≠ ⟨br, 1, none⟩ := by intro e; injection e with _ e2; omega
            have n02 : (⟨br, 0, none⟩ : Addr) ≠ ⟨br, 2, none⟩ := by intro e; injection e with _ e2; omega
            have n12 : (⟨br, 1, none⟩ : Addr) ≠ ⟨br, 2, none⟩ := by intro e; injection e with _ e2; omega
            have q1 : w7.cell? ⟨br, 1, none⟩ = some (.bool true) := by
              rw [hw7, World.cell?_setCell_other _ _ _ _ (Ne.symm n12)]
              exact World.cell?_setCell_same _ _ _ ((World.cell?_setCell_other _ _ _ _ n01).trans c1)
            have q2 : w7.cell? ⟨br, 2, none⟩ = some (.int .i64 (t : Int)) := by
              rw [hw7]
              exact World.cell?_setCell_same _ _ _ ((World.cell?_setCell_other _ _ _ _ n12).trans ((World.cell?_setCell_other _ _ _ _ n02).trans c2))
            have B7 : Below w.heap.size w w7 := by
              have q := BW4.out.trans (B6.out.mono (show w.heap.size ≤ w4.heap.size by omega))
              rw [hw7]
              exact bset (show w.heap.size ≤ br by omega) _ (bset (show w.heap.size ≤ br by omega) _ (bset (show w.heap.size ≤ br by omega) _ q))
            have HB7 := Lib.hid B7
            clear n01 n02 n12 B7
            go_wp2
            rw [← hw7]
            clear hw7
            refine wp_region_held_drew (S := (fun w' => w'.cell? ⟨br, 1, none⟩ = some (.bool true) ∧ w'.cell? ⟨br, 2, none⟩ = some (.int .i64 (t : Int)))) (by kernel_rfl) ?_ (fun hHeld => ?_)
            · ((try dsimp only); (repeat' apply And.intro); all_goals ((repeat (first | (with_reducible refine cell_drew ?_) | (with_reducible refine cell_drewN _ ?_) | ((with_reducible refine cell_alloc ?_ ?_); · first | omega | (simp; done) | (simp; omega) | assumption) | ((with_reducible refine cell_set ?_ ?_); · first | (intro e; injection e; omega) | (intro e; simp at e; done) | (intro e; simp at e; omega)))); first | assumption | (simp; done)))
            refine reg_on (i := 0) (d := 62) (v := ?rv1) rfl rfl (by kernel_rfl) (by kernel_rfl) (by kernel_rfl) (fun _ _ _ h => h) (by rfl) ?ry1 (by assumption) ?rr1
            case ry1 => (intro wz hSw; (try dsimp only at hSw); go_simp; try with_reducible rfl)
            (try simp only [Act.put, List.setIfInBounds_toArray, List.set_cons_zero, List.set_cons_succ])
            refine reg_on (i := 1) (d := 63) (v := ?rv2) rfl rfl (by kernel_rfl) (by kernel_rfl) (by kernel_rfl) (fun _ _ _ h => h) (by rfl) ?ry2 (by assumption) ?rr2
            case ry2 => (intro wz hSw; (try dsimp only at hSw); go_simp; try with_reducible rfl)
            (try simp only [Act.put, List.setIfInBounds_toArray, List.set_cons_zero, List.set_cons_succ])
            refine reg_on (i := 2) (d := 64) (v := ?rv3) rfl rfl (by kernel_rfl) (by kernel_rfl) (by kernel_rfl) (fun _ _ _ h => h) (by rfl) ?ry3 (by assumption) ?rr3
            case ry3 => (intro wz hSw; (try dsimp only at hSw); go_simp; try with_reducible rfl)
            (try simp only [Act.put, List.setIfInBounds_toArray, List.set_cons_zero, List.set_cons_succ])
            refine reg_on (i := 3) (d := 65) (v := ?rv4) rfl rfl (by kernel_rfl) (by kernel_rfl) (by kernel_rfl) (fun _ _ _ h => h) (by rfl) ?ry4 (by assumption) ?rr4
            case ry4 => (intro wz hSw; (try dsimp only at hSw); go_simp; try with_reducible rfl)
            (try simp only [Act.put, List.setIfInBounds_toArray, List.set_cons_zero, List.set_cons_succ])
            refine reg_on (i := 4) (d := 4) (v := ?rv5) rfl rfl (by kernel_rfl) (by kernel_rfl) (by kernel_rfl) (fun _ _ _ h => h) (by rfl) ?ry5 (by assumption) ?rr5
            case ry5 => (intro wz hSw; (try dsimp only at hSw); go_simp; try with_reducible rfl)
            (try simp only [Act.put, List.setIfInBounds_toArray, List.set_cons_zero, List.set_cons_succ])
            refine reg_on (i := 5) (d := 5) (v := ?rv6) rfl rfl (by kernel_rfl) (by kernel_rfl) (by kernel_rfl) (fun _ _ _ h => h) (by rfl) ?ry6 (by assumption) ?rr6
            case ry6 => (intro wz hSw; (try dsimp only at hSw); go_simp; try with_reducible rfl)
            (try simp only [Act.put, List.setIfInBounds_toArray, List.set_cons_zero, List.set_cons_succ])
            refine reg_on (i := 6) (d := 6) (v := ?rv7) rfl rfl (by kernel_rfl) (by kernel_rfl) (by kernel_rfl) (fun _ _ _ h => h) (by rfl) ?ry7 (by assumption) ?rr7
            case ry7 => (intro wz hSw; (try dsimp only at hSw); go_simp; try with_reducible rfl)
            (try simp only [Act.put, List.setIfInBounds_toArray, List.set_cons_zero, List.set_cons_succ])
            refine wpAnyH_done (by kernel_rfl) ?_ _
            go_wp2
            rw [Exit.noGoto_ret]
            go_ret3
            exact ⟨true, t, HF.out, rfl, HB7.out.drew⟩
          · have HNO : Hid (∀ t2, 1 ≤ t2 → t2 < t + 1 → ¬ HitM M x y s true t2) := by
              intro t2 h1 h2
              by_cases e : t2 = t
              · rw [e]; intro hh; exact hq (hiff.2 hh)
              · exact hno.out t2 h1 (by omega)
            have heq : (fv == lv) = false := by simp [hq]
            clear hiff
            go_wp2
            go_roundg (x - (t + 1))
            case measure => omega
            case rel => exact ⟨t + 1, by omega, by omega, rfl, by go_num, B6, HNO⟩
        · have htL2 : t = x := by omega
          have hnlt : ¬ (t : Int) ≤ (x : Int) - 1 := by omega
          rw [htL2] at hno
          go_wp2
          go_roundg (2 - (0 + 1))
          case measure => omega
          case rel => exact ⟨0 + 1, by omega, rfl, by go_num, B5, fun _ => hno.out, fun h => by omega⟩
    · have hib := idx_bools1 wr
      rw [show ((1 : Nat) : Int) = 1 from rfl]
      have HLD : Hid (∀ wx, Calls Try.prog 31 #[bar2 x y, .bool false] wx fun e w' => e = .returned (.int .i64 ((y : Int) - 1)) ∧ Below wx.heap.size wx w') := fun wx => HLN.out wx false
      go_wp2
      clear hib
      go_loopg [12] (y - 1) (fun gt tv wi => ∃ t : Nat, 1 ≤ t ∧ t ≤ y ∧ gt = y - t ∧ tv = .int .i64 t ∧ Hid (Below w4.heap.size w4 wi) ∧ Hid (∀ t2, 1 ≤ t2 → t2 < t → ¬ HitM M x y s false t2)) 
      case atStart => exact ⟨1, by omega, by omega, rfl, rfl, hB, fun t2 h1 h2 => by omega⟩
      case round =>
        clear hB
        obtain ⟨t, ht1, htL, hgt, rfl, hBi, hno⟩ := hrel
        have sBi := hBi.out.size
        have e := HE.out _ hBi.out
        obtain ⟨e0, e1⟩ := e
        go_wp2_with fail
        refine (HLD.out _).mono ?_; rintro e w5 ⟨rfl, hb5⟩
        have s5 := hb5.size
        have B5 := Lib.hid (hBi.out.trans (hb5.mono sBi))
        clear e0 e1 hb5
        by_cases hlt : t < y
        · have hlti : (t : Int) ≤ (y : Int) - 1 := by omega
          have e := HE.out _ B5.out
          obtain ⟨e0, e1⟩ := e
          go_wp2_with fail
          refine (HAC.out N mb nn _ t HBD.out (HMP4.out _ B5.out) ht1 hlt).mono ?_; rintro e w6 ⟨f, rfl, hf, hb6⟩
          have s6 := hb6.size
          have B6 := Lib.hid (B5.out.trans (hb6.mono (by omega)))
          have hix := HIX.out f w6
          have hiff := HIFF.out N false t (f s) HRN.out ht1 hlt (hf s z5)
          obtain ⟨fv, hfv⟩ : ∃ fv, Hid (fv = f s) := ⟨_, rfl⟩
          rw [← hfv.out] at hix hiff
          rw [← HLV.out] at hiff
          clear e0 e1 hb6 hf
          by_cases hq : fv = lv
          · have HF : Hid (FirstHit M x y s false t) := ⟨ht1, hiff.1 hq, hlt, hno.out, fun _ => hn1.out (by omega)⟩
            have heq : (fv == lv) = true := by simp [hq]
            have c := HBR.out _ B6.out
            obtain ⟨c0, c1, c2, f0, f1, f2⟩ := c
            have sB6 := B6.out.size
            have hbg : br < w6.heap.size := by omega
            clear hiff
            obtain ⟨w7, hw7⟩ : ∃ w7, w7 = ((w6.setCell ⟨br, 0, none⟩ (.int .i64 0)).setCell ⟨br, 1, none⟩ (.bool false)).setCell ⟨br, 2, none⟩ (.int .i64 (t : Int)) := ⟨_, rfl⟩
            have n01 : (⟨br, 0, none⟩ : Addr) ≠ ⟨br, 1, none⟩ := by intro e; injection e with _ e2; omega
            have n02 : (⟨br, 0, none⟩ : Addr) ≠ ⟨br, 2, none⟩ := by intro e; injection e with _ e2; omega
            have n12 : (⟨br, 1, none⟩ : Addr) ≠ ⟨br, 2, none⟩ := by intro e; injection e with _ e2; omega
            have q1 : w7.cell? ⟨br, 1, none⟩ = some (.bool false) := by
              rw [hw7, World.cell?_setCell_other _ _ _ _ (Ne.symm n12)]
              exact World.cell?_setCell_same _ _ _ ((World.cell?_setCell_other _ _ _ _ n01).trans c1)
            have q2 : w7.cell? ⟨br, 2, none⟩ = some (.int .i64 (t : Int)) := by
              rw [hw7]
              exact World.cell?_setCell_same _ _ _ ((World.cell?_setCell_other _ _ _ _ n12).trans ((World.cell?_setCell_other _ _ _ _ n02).trans c2))
            have B7 : Below w.heap.size w w7 := by
              have q := BW4.out.trans (B6.out.mono (show w.heap.size ≤ w4.heap.size by omega))
              rw [hw7]
              exact bset (show w.heap.size ≤ br by omega) _ (bset (show w.heap.size ≤ br by omega) _ (bset (show w.heap.size ≤ br by omega) _ q))
            have HB7 := Lib.hid B7
            clear n01 n02 n12 B7
            go_wp2
            rw [← hw7]
            clear hw7
            refine wp_region_held_drew (S := (fun w' => w'.cell? ⟨br, 1, none⟩ = some (.bool false) ∧ w'.cell? ⟨br, 2, none⟩ = some (.int .i64 (t : Int)))) (by kernel_rfl) ?_ (fun hHeld => ?_)
            · ((try dsimp only); (repeat' apply And.intro); all_goals ((repeat (first | (with_reducible refine cell_drew ?_) | (with_reducible refine cell_drewN _ ?_) | ((with_reducible refine cell_alloc ?_ ?_); · first | omega | (simp; done) | (simp; omega) | assumption) | ((with_reducible refine cell_set ?_ ?_); · first | (intro e; injection e; omega) | (intro e; simp at e; done) | (intro e; simp at e; omega)))); first | assumption | (simp; done)))
            refine reg_on (i := 0) (d := 62) (v := ?rv8) rfl rfl (by kernel_rfl) (by kernel_rfl) (by kernel_rfl) (fun _ _ _ h => h) (by rfl) ?ry8 (by assumption) ?rr8
            case ry8 => (intro wz hSw; (try dsimp only at hSw); go_simp; try with_reducible rfl)
            (try simp only [Act.put, List.setIfInBounds_toArray, List.set_cons_zero, List.set_cons_succ])
            refine reg_on (i := 1) (d := 63) (v := ?rv9) rfl rfl (by kernel_rfl) (by kernel_rfl) (by kernel_rfl) (fun _ _ _ h => h) (by rfl) ?ry9 (by assumption) ?rr9
            case ry9 => (intro wz hSw; (try dsimp only at hSw); go_simp; try with_reducible rfl)
            (try simp only [Act.put, List.setIfInBounds_toArray, List.set_cons_zero, List.set_cons_succ])
            refine reg_on (i := 2) (d := 64) (v := ?rv10) rfl rfl (by kernel_rfl) (by kernel_rfl) (by kernel_rfl) (fun _ _ _ h => h) (by rfl) ?ry10 (by assumption) ?rr10
            case ry10 => (intro wz hSw; (try dsimp only at hSw); go_simp; try with_reducible rfl)
            (try simp only [Act.put, List.setIfInBounds_toArray, List.set_cons_zero, List.set_cons_succ])
            refine reg_on (i := 3) (d := 65) (v := ?rv11) rfl rfl (by kernel_rfl) (by kernel_rfl) (by kernel_rfl) (fun _ _ _ h => h) (by rfl) ?ry11 (by assumption) ?rr11
            case ry11 => (intro wz hSw; (try dsimp only at hSw); go_simp; try with_reducible rfl)
            (try simp only [Act.put, List.setIfInBounds_toArray, List.set_cons_zero, List.set_cons_succ])
            refine reg_on (i := 4) (d := 4) (v := ?rv12) rfl rfl (by kernel_rfl) (by kernel_rfl) (by kernel_rfl) (fun _ _ _ h => h) (by rfl) ?ry12 (by assumption) ?rr12
            case ry12 => (intro wz hSw; (try dsimp only at hSw); go_simp; try with_reducible rfl)
            (try simp only [Act.put, List.setIfInBounds_toArray, List.set_cons_zero, List.set_cons_succ])
            refine reg_on (i := 5) (d := 5) (v := ?rv13) rfl rfl (by kernel_rfl) (by kernel_rfl) (by kernel_rfl) (fun _ _ _ h => h) (by rfl) ?ry13 (by assumption) ?rr13
            case ry13 => (intro wz hSw; (try dsimp only at hSw); go_simp; try with_reducible rfl)
            (try simp only [Act.put, List.setIfInBounds_toArray, List.set_cons_zero, List.set_cons_succ])
            refine reg_on (i := 6) (d := 6) (v := ?rv14) rfl rfl (by kernel_rfl) (by kernel_rfl) (by kernel_rfl) (fun _ _ _ h => h) (by rfl) ?ry14 (by assumption) ?rr14
            case ry14 => (intro wz hSw; (try dsimp only at hSw); go_simp; try with_reducible rfl)
            (try simp only [Act.put, List.setIfInBounds_toArray, List.set_cons_zero, List.set_cons_succ])
            refine wpAnyH_done (by kernel_rfl) ?_ _
            go_wp2
            rw [Exit.noGoto_ret]
            go_ret3
            exact ⟨false, t, HF.out, rfl, HB7.out.drew⟩
          · have HNO : Hid (∀ t2, 1 ≤ t2 → t2 < t + 1 → ¬ HitM M x y s false t2) := by
              intro t2 h1 h2
              by_cases e : t2 = t
              · rw [e]; intro hh; exact hq (hiff.2 hh)
              · exact hno.out t2 h1 (by omega)
            have heq : (fv == lv) = false := by simp [hq]
            clear hiff
            go_wp2
            go_roundg (y - (t + 1))
            case measure => omega
            case rel => exact ⟨t + 1, by omega, by omega, rfl, by go_num, B6, HNO⟩
        · have htL2 : t = y := by omega
          have hnlt : ¬ (t : Int) ≤ (y : Int) - 1 := by omega
          rw [htL2] at hno
          go_wp2
          go_roundg (2 - (1 + 1))
          case measure => omega
          case rel => exact ⟨1 + 1, by omega, rfl, by go_num, B5, fun _ => hn1.out (by omega), fun _ => hno.out⟩
    · obtain ⟨t, t1, t2, t3⟩ := HHS.out (hn1.out (by omega))
      exact absurd t3 (hn2.out (by omega) t t1 t2)

end Go.Proofs.Ytobncknlipeinaa
