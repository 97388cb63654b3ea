/-
  Contracts: BreakStrip of the program. Condition: where the program has laid its errors.
-/
import Derived.Test.YthemmckchmpicabDoorBstI
namespace Go.Proofs.YthemmckchmpicabDoor
open Go.RowKit
set_option linter.unusedVariables false
set_option linter.unusedSimpArgs false

theorem cellOld (w : World) (ob : Obj) {k : Nat} (h : k < w.heap.size) : (w.alloc ob).cell? ⟨k, 0, none⟩ = w.cell? ⟨k, 0, none⟩ := World.cell?_alloc_lt _ _ ⟨k, 0, none⟩ h
theorem cellNew (w : World) (v : Value) (T : TypeId) {k : Nat} (h : k = w.heap.size) : (w.alloc (.cells #[v] T)).cell? ⟨k, 0, none⟩ = some v := by subst h; simp [go_sem]

set_option maxRecDepth 100000 in
set_option maxHeartbeats 4000000 in
theorem breakStrip_any (A : Option Addr) (n c : Nat) (L : List Int) (i t l : Int) (u : Bool) (w : World) (hr : Rd w 1 A n (intCells L)) (hn : n ≤ 4000000000) (a0 : Addr) (hL : LaidB w a0) :
    Calls Tryd.prog 23 #[.slice A n c, .int .i64 i, .int .i64 t, .int .i64 l, .bool u] w fun e w' => ∃ A' n' c', e = .returned (.tuple #[.slice A' n' c', .bool (bsB L i t l u)]) ∧ w'.ownsRow w.heap.size 3 1 (.slice A' n' c') n' (intCells (bsR L i t l u)) ∧ Below w.heap.size w w' := by
  have hng := hL.2.2
  obtain ⟨W5, hW5⟩ : ∃ W5, W5 = ((((w.alloc (.cells #[.slice A n c] 22)).alloc (.cells #[.int .i64 i] 3)).alloc (.cells #[.int .i64 t] 3)).alloc (.cells #[.int .i64 l] 3)).alloc (.cells #[.bool u] 4) := ⟨_, rfl⟩
  have sz5 : W5.heap.size = w.heap.size + 5 := by rw [hW5]; simp
  have b5 : Below w.heap.size w W5 := by rw [hW5]; (repeat (first | (with_reducible exact Below.refl _ _) | (with_reducible assumption) | (with_reducible refine Below.drew ?_) | ((with_reducible refine balloc ?_ _ ?_); · (first | (simp; done) | (simp; omega) | omega)) | ((with_reducible refine bset ?_ _ ?_); · (first | (simp; done) | (simp; omega) | omega)) | (with_reducible refine bdrewN _ ?_) | ((with_reducible refine bcall ?_ (by assumption) ?_); · (first | (simp; done) | (simp; omega) | omega))))
  have BM : BmAt W5 w.heap.size A n c i t l u := by
    have e0 := cellNew w (.slice A n c) 22 rfl
    have e1 := cellNew (w.alloc (.cells #[.slice A n c] 22)) (.int .i64 i) 3 (k := w.heap.size + 1) (by simp)
    have e2 := cellNew ((w.alloc (.cells #[.slice A n c] 22)).alloc (.cells #[.int .i64 i] 3)) (.int .i64 t) 3 (k := w.heap.size + 2) (by simp)
    have e3 := cellNew (((w.alloc (.cells #[.slice A n c] 22)).alloc (.cells #[.int .i64 i] 3)).alloc (.cells #[.int .i64 t] 3)) (.int .i64 l) 3 (k := w.heap.size + 3) (by simp)
    have e4 := cellNew ((((w.alloc (.cells #[.slice A n c] 22)).alloc (.cells #[.int .i64 i] 3)).alloc (.cells #[.int .i64 t] 3)).alloc (.cells #[.int .i64 l] 3)) (.bool u) 4 (k := w.heap.size + 4) (by simp)
    rw [hW5]
    refine ⟨?_, ?_, ?_, ?_, e4⟩
    · rw [cellOld, cellOld, cellOld, cellOld]
      · exact e0
      all_goals (simp; try omega)
    · rw [cellOld, cellOld, cellOld]
      · exact e1
      all_goals (simp; try omega)
    · rw [cellOld, cellOld]
      · exact e2
      all_goals (simp; try omega)
    · rw [cellOld]
      · exact e3
      all_goals (simp; try omega)
  obtain ⟨c1, c2, c3, c4, c5⟩ := BM
  have HR5 := Lib.hid (hr.later b5 (Nat.le_refl _))
  have hL5 := hL.later b5 hng (by omega)
  have hmf : ∀ (fn : Fn) (first cap : Array Value) (w : World), (Instr.makeFunc fn first cap).run Tryd.prog w = .ok (.func fn first cap) w := fun _ _ _ _ => rfl
  have HW5 := Lib.hid hW5
  have HA := Lib.hid (fun wx hx => areStrips_any A n c L wx hx hn)
  have HB5 := Lib.hid b5
  have SZ5 := Lib.hid sz5
  have HR50 := HR5.out
  rw [HW5.out] at HR50
  have HR5E := Lib.hid HR50
  clear hW5 b5 sz5 HR50
  cases hA : areS L
  · have hb : bsB L i t l u = false := by simp [bsB, okSS, hA]
    rw [hb, bsR_no hb]
    clear hb
    go_enter Tryd.func23, Tryd.ntmps23
    go_wp2_with fail
    refine (HA.out _ HR5E.out).mono ?_; rintro e wx ⟨rfl, rfl⟩
    rw [← HW5.out, hA]
    clear hA
    go_wp2
    go_ret2
    exact ⟨none, 0, 0, rfl, World.ownsRow_nil _ _ _ _, HB5.out⟩
  · cases hl : inB l 1 60
    · have hb : bsB L i t l u = false := by simp [bsB, okSS, hl]
      rw [hb, bsR_no hb]
      clear hb
      go_enter Tryd.func23, Tryd.ntmps23
      go_wp2_with fail
      refine (HA.out _ HR5E.out).mono ?_; rintro e wx ⟨rfl, rfl⟩
      rw [← HW5.out, hA]
      clear hA
      go_wp2_with fail
      refine (isLen_any _ _).mono ?_; rintro e wx ⟨rfl, rfl⟩
      rw [hl]
      clear hl
      go_wp2
      go_ret2
      exact ⟨none, 0, 0, rfl, World.ownsRow_nil _ _ _ _, HB5.out⟩
    · have hk : okSS L l = true := by simp [okSS, hA, hl]
      have b56 : Below W5.heap.size W5 (W5.alloc (.cells #[.slice none 0 0] 22)) := (Below.refl _ _).alloc (Nat.le_refl _) _
      have sz6 : (W5.alloc (.cells #[.slice none 0 0] 22)).heap.size = w.heap.size + 6 := by simp [SZ5.out]
      have bm6 : BmAt (W5.alloc (.cells #[.slice none 0 0] 22)) w.heap.size A n c i t l u := BmAt.later ⟨c1, c2, c3, c4, c5⟩ b56 (by rw [SZ5.out]; omega)
      have cn6 : (W5.alloc (.cells #[.slice none 0 0] 22)).cell? ⟨w.heap.size + 5, 0, none⟩ = some (.slice none 0 0) := cellNew _ _ _ SZ5.out.symm
      have cn6' : (W5.alloc (.cells #[.slice none 0 0] 22)).cell? ⟨W5.heap.size, 0, none⟩ = some (.slice none 0 0) := cellNew _ _ _ rfl
      have fn6 : (W5.alloc (.cells #[.slice none 0 0] 22)).frozen? ⟨w.heap.size + 5, 0, none⟩ = false := by rw [← SZ5.out]; exact World.frozen?_alloc_new _ _ _ _
      cases hb : bsB L i t l u
      · rw [bsR_no hb]
        obtain ⟨T, pv, hT, hM⟩ := mvs_fail A n c L i t l u W5 a0 hL5 HR5.out hk hb
        have HT : Hid (Calls Tryd.prog 43 #[.func (.func 44) #[] #[.pointer (some ⟨w.heap.size, 0, none⟩), .pointer (some ⟨w.heap.size + 1, 0, none⟩), .pointer (some ⟨w.heap.size + 2, 0, none⟩), .pointer (some ⟨w.heap.size + 3, 0, none⟩), .pointer (some ⟨w.heap.size + 4, 0, none⟩), .pointer (some ⟨W5.heap.size, 0, none⟩)]] (W5.alloc (.cells #[.slice none 0 0] 22)) fun e w' => e = .returned (.iface T pv) ∧ Below (W5.alloc (.cells #[.slice none 0 0] 22)).heap.size (W5.alloc (.cells #[.slice none 0 0] 22)) w') := by
          rw [Hid, show (⟨W5.heap.size, 0, none⟩ : Addr) = ⟨w.heap.size + 5, 0, none⟩ by rw [SZ5.out]]
          exact tryMove_errB (bmCap w.heap.size) T pv _ hT fun wx hx => clo_fail w.heap.size A n c i t l u T pv wx (bm6.later hx (by rw [sz6]; omega)) (hM wx (b56.trans (hx.mono b56.size)))
        have HSZ6 := Lib.hid sz6
        have HB6 := Lib.hid (HB5.out.trans (b56.mono HB5.out.size))
        clear hb hM hT bm6 cn6 fn6 sz6 b56 hk
        go_enter Tryd.func23, Tryd.ntmps23
        go_wp2_with fail
        refine (HA.out _ HR5E.out).mono ?_; rintro e wx ⟨rfl, rfl⟩
        rw [← HW5.out, hA]
        clear hA
        go_wp2_with fail
        refine (isLen_any _ _).mono ?_; rintro e wx ⟨rfl, rfl⟩
        rw [hl]
        clear hl
        go_wp2_with fail
        refine HT.out.mono ?_; rintro e w7 ⟨rfl, hb7⟩
        have d7 := (hb7.cell (p := ⟨W5.heap.size, 0, none⟩) (by simp)).trans cn6'
        have HB7 := Lib.hid (HB6.out.trans (hb7.mono HB6.out.size))
        clear hb7 cn6' c1 c2 c3 c4 c5
        go_wp2
        refine wp_region_held_drew (S := (fun w' => w'.cell? ⟨W5.heap.size, 0, none⟩ = some (.slice none 0 0))) (by kernel_rfl) ?_ (fun hHeld => ?_)
        · ((try dsimp only); (repeat' apply And.intro); all_goals ((repeat (first | (with_reducible refine cell_drew ?_) | (with_reducible refine cell_drewN _ ?_) | ((with_reducible refine cell_alloc ?_ ?_); · first | omega | (simp; done) | (simp; omega) | assumption) | ((with_reducible refine cell_set ?_ ?_); · first | (intro e; injection e; omega) | (intro e; simp at e; done) | (intro e; simp at e; omega)))); first | assumption | (simp; done)))
        refine reg_on (i := 0) (d := 24) (v := ?rv1) rfl rfl (by kernel_rfl) (by kernel_rfl) (by kernel_rfl) (fun _ _ _ h => h) (by rfl) ?ry1 (by assumption) ?rr1
        case ry1 => (intro wz hSw; (try dsimp only at hSw); go_simp; try with_reducible rfl)
        (try simp only [Act.put, List.setIfInBounds_toArray, List.set_cons_zero, List.set_cons_succ])
        refine reg_on (i := 1) (d := 25) (v := ?rv2) rfl rfl (by kernel_rfl) (by kernel_rfl) (by kernel_rfl) (fun _ _ _ h => h) (by rfl) ?ry2 (by assumption) ?rr2
        case ry2 => (intro wz hSw; (try dsimp only at hSw); go_simp; try with_reducible rfl)
        (try simp only [Act.put, List.setIfInBounds_toArray, List.set_cons_zero, List.set_cons_succ])
        refine reg_on (i := 2) (d := 26) (v := ?rv3) rfl rfl (by kernel_rfl) (by kernel_rfl) (by kernel_rfl) (fun _ _ _ h => h) (by rfl) ?ry3 (by assumption) ?rr3
        case ry3 => (intro wz hSw; (try dsimp only at hSw); go_simp; try with_reducible rfl)
        (try simp only [Act.put, List.setIfInBounds_toArray, List.set_cons_zero, List.set_cons_succ])
        refine reg_on (i := 3) (d := 10) (v := ?rv4) rfl rfl (by kernel_rfl) (by kernel_rfl) (by kernel_rfl) (fun _ _ _ h => h) (by rfl) ?ry4 (by assumption) ?rr4
        case ry4 => (intro wz hSw; (try dsimp only at hSw); go_simp; try with_reducible rfl)
        (try simp only [Act.put, List.setIfInBounds_toArray, List.set_cons_zero, List.set_cons_succ])
        refine reg_on (i := 4) (d := 11) (v := ?rv5) rfl rfl (by kernel_rfl) (by kernel_rfl) (by kernel_rfl) (fun _ _ _ h => h) (by rfl) ?ry5 (by assumption) ?rr5
        case ry5 => (intro wz hSw; (try dsimp only at hSw); go_simp; try with_reducible rfl)
        (try simp only [Act.put, List.setIfInBounds_toArray, List.set_cons_zero, List.set_cons_succ])
        refine wpAnyH_done (by kernel_rfl) ?_ _
        go_wp2
        go_ret2
        exact ⟨none, 0, 0, rfl, World.ownsRow_nil _ _ _ _, HB7.out.drew⟩
      · obtain ⟨hn1, hn8, hall⟩ := areS_true hA
        obtain ⟨l1, l2⟩ := inB_true hl
        have hll := hr.ilen
        obtain ⟨q8, qi, qc⟩ : ¬ L.length = 8 ∧ (0 ≤ i ∧ i < (L.length : Int)) ∧ canS (getS L i) t l u = true := by
          have h := hb
          simp only [bsB, hk, Bool.true_and, Bool.and_eq_true, Bool.not_eq_true', decide_eq_false_iff_not, decide_eq_true_eq] at h
          exact ⟨h.1.1, h.1.2, h.2⟩
        obtain ⟨I, rfl⟩ : ∃ I : Nat, i = I := ⟨i.toNat, by omega⟩
        have hx : I < L.length := by omega
        obtain ⟨b, o, rfl, hbl, _⟩ := hr.num (show I < n by omega)
        have hget : getS L I = L[I] := by simp [getS, hx]
        obtain ⟨x1, x2⟩ := allS_at hall hx
        have hR : bsR L I t l u = L.set I t ++ [L[I] - t] := by rw [bsR, hb, if_pos rfl, hget]; simp
        rw [hR]
        rw [hget] at qc
        have hcc : (l ≤ t ∧ l ≤ L[I] - t) ∧ (u = true → t + t ≠ L[I]) := by
          simp [canS] at qc
          exact ⟨qc.1, fun h => by simpa [h] using qc.2⟩
        obtain ⟨⟨g1, g2⟩, g3⟩ := hcc
        have HM : ∀ wx, Below W5.heap.size W5 wx → Calls Tryd.prog 45 #[.slice (some ⟨b, o, none⟩) n c, .int .i64 I, .int .i64 t, rul l u] wx fun e w' => ∃ A' c', e = .returned (.slice A' (n + 1) c') ∧ w'.ownsRow wx.heap.size 3 1 (.slice A' (n + 1) c') (n + 1) (intCells (L.set I t ++ [L[I] - t])) ∧ Below wx.heap.size wx w' := fun wx hwx =>
          mvs_ok b o n c I L L[I] t l u wx (HR5.out.later hwx (Nat.le_refl _)) (by have := HB5.out.size; have := hwx.size; omega) hx rfl (by omega) x2 (by omega) (by omega) (fun wy => req_ok L[I] t l u wy x1 x2 l1 l2 g1 (by omega) g3) x1
        generalize hRR : L.set I t ++ [L[I] - t] = R at *
        have HT : Hid (Calls Tryd.prog 43 #[.func (.func 44) #[] #[.pointer (some ⟨w.heap.size, 0, none⟩), .pointer (some ⟨w.heap.size + 1, 0, none⟩), .pointer (some ⟨w.heap.size + 2, 0, none⟩), .pointer (some ⟨w.heap.size + 3, 0, none⟩), .pointer (some ⟨w.heap.size + 4, 0, none⟩), .pointer (some ⟨W5.heap.size, 0, none⟩)]] (W5.alloc (.cells #[.slice none 0 0] 22)) fun e w' => e = .returned .nilIface ∧ ∃ A' c', w'.cell? ⟨W5.heap.size, 0, none⟩ = some (.slice A' (n + 1) c') ∧ w'.ownsRow w.heap.size 3 1 (.slice A' (n + 1) c') (n + 1) (intCells R) ∧ Below w.heap.size w w') := by
          rw [Hid, show (⟨W5.heap.size, 0, none⟩ : Addr) = ⟨w.heap.size + 5, 0, none⟩ by rw [SZ5.out]]
          refine tryMove_okB (bmCap w.heap.size) _ (fun wx w' => ∃ A' c', w'.cell? ⟨w.heap.size + 5, 0, none⟩ = some (.slice A' (n + 1) c') ∧ w'.ownsRow wx.heap.size 3 1 (.slice A' (n + 1) c') (n + 1) (intCells R) ∧ Below (w.heap.size + 5) wx w') (fun wx hz hx6 => ?_) (fun w' => ∃ A' c', w'.cell? ⟨w.heap.size + 5, 0, none⟩ = some (.slice A' (n + 1) c') ∧ w'.ownsRow w.heap.size 3 1 (.slice A' (n + 1) c') (n + 1) (intCells R) ∧ Below w.heap.size w w') (fun wx w' hz hx6 hs => ?_)
          · refine (clo_ok w.heap.size (some ⟨b, o, none⟩) n c I t l u (n + 1) R (.slice none 0 0) wx (bm6.later hx6 (by rw [sz6]; omega)) ((hx6.cell (p := ⟨w.heap.size + 5, 0, none⟩) (by show w.heap.size + 5 < _; rw [sz6]; omega)).trans cn6) ((hx6.frozen (p := ⟨w.heap.size + 5, 0, none⟩) (by show w.heap.size + 5 < _; rw [sz6]; omega)).trans fn6) (by rw [hz, sz6]; omega) (HM wx (b56.trans (hx6.mono b56.size)))).mono ?_
            rintro e w' ⟨rfl, hs, hk2⟩
            obtain ⟨k1, k2⟩ := hk2 (W5.alloc (.cells #[.slice none 0 0] 22)).heap.size (by rw [hz]; omega) (by rw [sz6]; omega)
            exact ⟨rfl, hs, k1, k2⟩
          · obtain ⟨A', c', k1, k2, k3⟩ := hs
            rw [sz6] at hz
            refine ⟨A', c', ?_, own_base (own_setN (o := 0) (u := .nilIface) k2 (by rw [sz6, hz]; omega)) (by rw [hz]; omega), ?_⟩
            · rw [World.cell?_setCell_other _ _ _ _ (by intro e2; injection e2 with e3; rw [sz6] at e3; omega)]
              exact k1
            · exact bset (p := ⟨(W5.alloc (.cells #[.slice none 0 0] 22)).heap.size, 0, none⟩) (by show w.heap.size ≤ (W5.alloc (.cells #[.slice none 0 0] 22)).heap.size; omega) _ ((HB5.out.trans (b56.mono HB5.out.size)).trans ((hx6.mono (by rw [sz6]; omega)).trans (k3.mono (by omega))))
        clear hb bm6 cn6 cn6' fn6 sz6 b56 hk HM hall hn1 hn8 hx hget hRR hR qc q8 qi g1 g2 g3 x1 x2
        go_enter Tryd.func23, Tryd.ntmps23
        go_wp2_with fail
        refine (HA.out _ HR5E.out).mono ?_; rintro e wx ⟨rfl, rfl⟩
        rw [← HW5.out, hA]
        clear hA
        go_wp2_with fail
        refine (isLen_any _ _).mono ?_; rintro e wx ⟨rfl, rfl⟩
        rw [hl]
        clear hl
        go_wp2_with fail
        refine HT.out.mono ?_; rintro e w7 ⟨rfl, A', c', d7, own7, hb7⟩
        have HO7 := Lib.hid own7
        have HB7 := Lib.hid hb7
        clear hb7 own7 c1 c2 c3 c4 c5
        go_wp2
        refine wp_region_held_drew (S := (fun w' => w'.cell? ⟨W5.heap.size, 0, none⟩ = some (.slice A' (n + 1) c'))) (by kernel_rfl) ?_ (fun hHeld => ?_)
        · ((try dsimp only); (repeat' apply And.intro); all_goals ((repeat (first | (with_reducible refine cell_drew ?_) | (with_reducible refine cell_drewN _ ?_) | ((with_reducible refine cell_alloc ?_ ?_); · first | omega | (simp; done) | (simp; omega) | assumption) | ((with_reducible refine cell_set ?_ ?_); · first | (intro e; injection e; omega) | (intro e; simp at e; done) | (intro e; simp at e; omega)))); first | assumption | (simp; done)))
        refine reg_on (i := 0) (d := 24) (v := ?rv6) rfl rfl (by kernel_rfl) (by kernel_rfl) (by kernel_rfl) (fun _ _ _ h => h) (by rfl) ?ry6 (by assumption) ?rr6
        case ry6 => (intro wz hSw; (try dsimp only at hSw); go_simp; try with_reducible rfl)
        (try simp only [Act.put, List.setIfInBounds_toArray, List.set_cons_zero, List.set_cons_succ])
        refine reg_on (i := 1) (d := 25) (v := ?rv7) rfl rfl (by kernel_rfl) (by kernel_rfl) (by kernel_rfl) (fun _ _ _ h => h) (by rfl) ?ry7 (by assumption) ?rr7
        case ry7 => (intro wz hSw; (try dsimp only at hSw); go_simp; try with_reducible rfl)
        (try simp only [Act.put, List.setIfInBounds_toArray, List.set_cons_zero, List.set_cons_succ])
        refine reg_on (i := 2) (d := 26) (v := ?rv8) rfl rfl (by kernel_rfl) (by kernel_rfl) (by kernel_rfl) (fun _ _ _ h => h) (by rfl) ?ry8 (by assumption) ?rr8
        case ry8 => (intro wz hSw; (try dsimp only at hSw); go_simp; try with_reducible rfl)
        (try simp only [Act.put, List.setIfInBounds_toArray, List.set_cons_zero, List.set_cons_succ])
        refine reg_on (i := 3) (d := 10) (v := ?rv9) rfl rfl (by kernel_rfl) (by kernel_rfl) (by kernel_rfl) (fun _ _ _ h => h) (by rfl) ?ry9 (by assumption) ?rr9
        case ry9 => (intro wz hSw; (try dsimp only at hSw); go_simp; try with_reducible rfl)
        (try simp only [Act.put, List.setIfInBounds_toArray, List.set_cons_zero, List.set_cons_succ])
        refine reg_on (i := 4) (d := 11) (v := ?rv10) rfl rfl (by kernel_rfl) (by kernel_rfl) (by kernel_rfl) (fun _ _ _ h => h) (by rfl) ?ry10 (by assumption) ?rr10
        case ry10 => (intro wz hSw; (try dsimp only at hSw); go_simp; try with_reducible rfl)
        (try simp only [Act.put, List.setIfInBounds_toArray, List.set_cons_zero, List.set_cons_succ])
        refine wpAnyH_done (by kernel_rfl) ?_ _
        go_wp2
        go_ret2
        exact ⟨A', n + 1, c', rfl, HO7.out.drew, HB7.out.drew⟩
end Go.Proofs.YthemmckchmpicabDoor
