/-
  Contracts: LongestStripPlay, ShortestStripPlay of the program and of the model. Condition: where the program has laid its errors.
-/
import Derived.Test.YthemmckchmpicabDoorNosP
import Derived.Test.YthemmckchmpicabDoorLap
import Derived.Test.YthemmckchmpicabDoorStv
namespace Go.Proofs.YthemmckchmpicabDoor
open Go.RowKit
set_option linter.unusedVariables false
set_option linter.unusedSimpArgs false

def lgN (long l : Int) (u : Bool) : Int := if okS long l then lS l u long.toNat else 0
theorem lgN_no {long l : Int} {u : Bool} (h : okS long l = false) : lgN long l u = 0 := by simp [lgN, h]
theorem lgN_yes {N : Nat} {l : Int} {u : Bool} (h : okS N l = true) : lgN N l u = lS l u N := by simp [lgN, h]

set_option maxRecDepth 100000 in
set_option maxHeartbeats 4000000 in
theorem longestPlay_any (long l : Int) (u : Bool) (w : World) (a0 : Addr) (hL : LaidE w a0) :
    Calls Tryd.prog 19 #[.int .i64 long, .int .i64 l, .bool u] w fun e w' => e = .returned (.tuple #[.int .i64 (lgN long l u), .bool (okS long l)]) ∧ Below w.heap.size w w' := by
  cases hk : okS long l
  · rw [lgN_no hk]
    cases h1 : inB long 1 60
    · go_enter Tryd.func19, Tryd.ntmps19
      go_wp2_with fail
      refine (isLen_any _ _).mono ?_; rintro e wx ⟨rfl, rfl⟩
      go_wp2
      go_ret2
      exact ⟨rfl, Below.refl _ _⟩
    · have h2 : inB l 1 60 = false := by simpa [okS, h1] using hk
      go_enter Tryd.func19, Tryd.ntmps19
      go_wp2_with fail
      refine (isLen_any _ _).mono ?_; rintro e wx ⟨rfl, rfl⟩
      go_wp2_with fail
      refine (isLen_any _ _).mono ?_; rintro e wx ⟨rfl, rfl⟩
      go_wp2
      go_ret2
      exact ⟨rfl, Below.refl _ _⟩
  · obtain ⟨h1, h2, h3, h4⟩ := okS_true hk
    obtain ⟨N, rfl⟩ : ∃ N : Nat, long = N := ⟨long.toNat, by omega⟩
    rw [lgN_yes hk]
    have b1 : inB N 1 60 = true := by simp [inB]; omega
    have b2 : inB l 1 60 = true := by simp [inB]; omega
    have HS := Lib.hid (nosL_any N l u a0 w hL (by omega) (by omega) h3 h4)
    have hix := fun wx => idxN (fun j => if j < N + 1 then lS l u j else 0) wx N (by omega)
    rw [show (if N < N + 1 then lS l u N else 0) = lS l u N from if_pos (by omega)] at hix
    clear hk
    go_enter Tryd.func19, Tryd.ntmps19
    go_wp2_with fail
    refine (isLen_any _ _).mono ?_; rintro e wx ⟨rfl, rfl⟩
    go_wp2_with fail
    refine (isLen_any _ _).mono ?_; rintro e wx ⟨rfl, rfl⟩
    go_wp2_with fail
    refine HS.out.mono ?_; rintro e w2 ⟨rfl, hb2⟩
    go_wp2
    go_ret2
    exact ⟨rfl, hb2⟩

set_option maxRecDepth 100000 in
set_option maxHeartbeats 4000000 in
theorem sLongestStripPlay_any (long l : Int) (u : Bool) (w : World) :
    Calls Tryd.prog 18 #[.int .i64 long, .int .i64 l, .bool u] w fun e w' => e = .returned (.tuple #[.int .i64 (lgN long l u), .bool (okS long l)]) ∧ Below w.heap.size w w' := by
  cases hk : okS long l
  · rw [lgN_no hk]
    go_enter Tryd.func18, Tryd.ntmps18
    go_wp2_with fail
    refine (laStrip_any _ _ _).mono ?_; rintro e wx ⟨rfl, rfl⟩
    go_wp2
    go_ret2
    exact ⟨rfl, Below.refl _ _⟩
  · obtain ⟨h1, h2, h3, h4⟩ := okS_true hk
    obtain ⟨N, rfl⟩ : ∃ N : Nat, long = N := ⟨long.toNat, by omega⟩
    rw [lgN_yes hk]
    have hN1 : (N : Int) < (N : Int) + 1 := by omega
    go_enter Tryd.func18, Tryd.ntmps18
    go_wp2_with fail
    refine (laStrip_any _ _ _).mono ?_; rintro e wx ⟨rfl, rfl⟩
    go_wp2_with fail
    clear hk
    refine (laPlay_any N l u true _ (by omega) (by omega) h3 h4).mono ?_; rintro e w2 ⟨g, rfl, own2, hb2⟩
    have hc := own2.cellAt N (by omega)
    rw [tabF_cell _ (Nat.le_refl _)] at hc
    have hc : w2.cell? ⟨g, N, none⟩ = some (.int .i64 (lS l u N)) := hc
    have HB := Lib.hid hb2
    clear own2 hb2
    go_wp2
    go_ret2
    exact ⟨rfl, HB.out⟩

def shN (long l : Int) (u : Bool) : Int := if okS long l then hS l u long.toNat else 0
theorem shN_no {long l : Int} {u : Bool} (h : okS long l = false) : shN long l u = 0 := by simp [shN, h]
theorem shN_yes {N : Nat} {l : Int} {u : Bool} (h : okS N l = true) : shN N l u = hS l u N := by simp [shN, h]

set_option maxRecDepth 100000 in
set_option maxHeartbeats 4000000 in
theorem shortestPlay_any (long l : Int) (u : Bool) (w : World) (a0 : Addr) (hL : LaidE w a0) :
    Calls Tryd.prog 21 #[.int .i64 long, .int .i64 l, .bool u] w fun e w' => e = .returned (.tuple #[.int .i64 (shN long l u), .bool (okS long l)]) ∧ Below w.heap.size w w' := by
  cases hk : okS long l
  · rw [shN_no hk]
    cases h1 : inB long 1 60
    · go_enter Tryd.func21, Tryd.ntmps21
      go_wp2_with fail
      refine (isLen_any _ _).mono ?_; rintro e wx ⟨rfl, rfl⟩
      go_wp2
      go_ret2
      exact ⟨rfl, Below.refl _ _⟩
    · have h2 : inB l 1 60 = false := by simpa [okS, h1] using hk
      go_enter Tryd.func21, Tryd.ntmps21
      go_wp2_with fail
      refine (isLen_any _ _).mono ?_; rintro e wx ⟨rfl, rfl⟩
      go_wp2_with fail
      refine (isLen_any _ _).mono ?_; rintro e wx ⟨rfl, rfl⟩
      go_wp2
      go_ret2
      exact ⟨rfl, Below.refl _ _⟩
  · obtain ⟨h1, h2, h3, h4⟩ := okS_true hk
    obtain ⟨N, rfl⟩ : ∃ N : Nat, long = N := ⟨long.toNat, by omega⟩
    rw [shN_yes hk]
    have b1 : inB N 1 60 = true := by simp [inB]; omega
    have b2 : inB l 1 60 = true := by simp [inB]; omega
    have HS := Lib.hid (nosH_any N l u a0 w hL (by omega) (by omega) h3 h4)
    have hix := fun wx => idxN (fun j => if j < N + 1 then hS l u j else 0) wx N (by omega)
    rw [show (if N < N + 1 then hS l u N else 0) = hS l u N from if_pos (by omega)] at hix
    clear hk
    go_enter Tryd.func21, Tryd.ntmps21
    go_wp2_with fail
    refine (isLen_any _ _).mono ?_; rintro e wx ⟨rfl, rfl⟩
    go_wp2_with fail
    refine (isLen_any _ _).mono ?_; rintro e wx ⟨rfl, rfl⟩
    go_wp2_with fail
    refine HS.out.mono ?_; rintro e w2 ⟨rfl, hb2⟩
    go_wp2
    go_ret2
    exact ⟨rfl, hb2⟩

set_option maxRecDepth 100000 in
set_option maxHeartbeats 4000000 in
theorem sShortestStripPlay_any (long l : Int) (u : Bool) (w : World) :
    Calls Tryd.prog 20 #[.int .i64 long, .int .i64 l, .bool u] w fun e w' => e = .returned (.tuple #[.int .i64 (shN long l u), .bool (okS long l)]) ∧ Below w.heap.size w w' := by
  cases hk : okS long l
  · rw [shN_no hk]
    go_enter Tryd.func20, Tryd.ntmps20
    go_wp2_with fail
    refine (laStrip_any _ _ _).mono ?_; rintro e wx ⟨rfl, rfl⟩
    go_wp2
    go_ret2
    exact ⟨rfl, Below.refl _ _⟩
  · obtain ⟨h1, h2, h3, h4⟩ := okS_true hk
    obtain ⟨N, rfl⟩ : ∃ N : Nat, long = N := ⟨long.toNat, by omega⟩
    rw [shN_yes hk]
    have hN1 : (N : Int) < (N : Int) + 1 := by omega
    go_enter Tryd.func20, Tryd.ntmps20
    go_wp2_with fail
    refine (laStrip_any _ _ _).mono ?_; rintro e wx ⟨rfl, rfl⟩
    go_wp2_with fail
    clear hk
    refine (laPlay_any N l u false _ (by omega) (by omega) h3 h4).mono ?_; rintro e w2 ⟨g, rfl, own2, hb2⟩
    have hc := own2.cellAt N (by omega)
    rw [tabF_cell _ (Nat.le_refl _)] at hc
    have hc : w2.cell? ⟨g, N, none⟩ = some (.int .i64 (hS l u N)) := hc
    have HB := Lib.hid hb2
    clear own2 hb2
    go_wp2
    go_ret2
    exact ⟨rfl, HB.out⟩

end Go.Proofs.YthemmckchmpicabDoor
