/-
  Contracts: the recovered door of moves: its deferred function, whatever error is raised, and where none is. Nothing of the strips is named here.
-/
import Derived.Test.YtcocdidkkcjbgaaDoorWords
import Derived.Tactics
import Derived.Tactics2
import Derived.Defers
import Derived.Recover
import Derived.Laws.Pointers
import Derived.Stop.Asserts
namespace Go.Proofs.YtcocdidkkcjbgaaDoor
open Go.RowKit

/-- an error's type can be asserted -/
def IsErr (T : TypeId) : Prop := ∀ (v : Value) (w : World), (Instr.typeAssert (.iface T v) 20 46 true).run Tryd.prog w = .ok (.tuple #[.iface T v, .bool true]) w
theorem nilErr (w : World) : (Instr.typeAssert .nilIface 20 46 true).run Tryd.prog w = .ok (.tuple #[.nilIface, .bool false]) w := by kernel_rfl

theorem catch_err (p : Addr) (x : Value) (T : TypeId) (pv : Value) (older : List PanicEntry) (w : World) (hT : IsErr T) (hc : w.cell? p = some x) (hz : w.frozen? p = false) :
    CallsD Tryd.prog 76 #[.pointer (some p)] (.panicking ({ v := .iface T pv, recovered := false } :: older)) w fun e u' w' =>
      e = .returned (.tuple #[]) ∧ u' = .panicking ({ v := .iface T pv, recovered := true } :: older) ∧ w' = w.setCell p (.iface T pv) := by
  have hta := fun wx => hT pv wx
  refine callsD_of_wpS Tryd.func76 rfl fun c₀ cs hu => ?_
  apply wpS_seq
  apply wpS_region
  simp [wpOpsS, go_sem, recoverD, hu, Tryd.ntmps76, Exit.thenS, hta]
  apply wpS_seq
  apply wpS_region
  simp [wpOpsS, go_sem, Exit.thenS]
  refine wpS_cond (t := true) (by simp [Act.eval, Array.replicate]) ?_
  simp only [if_true]
  apply wpS_region
  simp [wpOpsS, go_sem, hc, hz, bodyPostS, results, Tryd.results76]

theorem catch_none (p : Addr) (w : World) :
    CallsD Tryd.prog 76 #[.pointer (some p)] .returning w fun e u' w' => e = .returned (.tuple #[]) ∧ u' = .returning ∧ w' = w := by
  have hta := nilErr
  refine callsD_of_wpS Tryd.func76 rfl fun c₀ cs hu => ?_
  apply wpS_seq
  apply wpS_region
  simp [wpOpsS, go_sem, recoverD, hu, Tryd.ntmps76, Exit.thenS, hta]
  apply wpS_seq
  apply wpS_region
  simp [wpOpsS, go_sem, Exit.thenS]
  refine wpS_cond (t := false) (by simp [Act.eval, Array.replicate]) ?_
  simp only [Bool.false_eq_true, if_false]
  refine wpS_of_wp (wp_skip ?_)
  cases c₀
  simp_all [bodyPostS, results, Tryd.results76]

set_option maxRecDepth 100000 in
set_option maxHeartbeats 1000000 in
/-- a move that raises an error of type T -/
theorem tryMove_errS (cap : Array Value) (T : TypeId) (pv : Value) (w : World) (hT : IsErr T)
    (hG : ∀ wx : World, Below w.heap.size w wx → Calls Tryd.prog 60 cap wx fun e w' => e = .panicked [{ v := .iface T pv, recovered := false }] ∧ Below wx.heap.size wx w') :
    Calls Tryd.prog 59 #[.func (.func 60) #[] cap] w fun e w' => e = .returned (.iface T pv) ∧ Below w.heap.size w w' := by
  have hmf : ∀ (fn : Fn) (first cap : Array Value) (w : World), (Instr.makeFunc fn first cap).run Tryd.prog w = .ok (.func fn first cap) w := fun _ _ _ _ => rfl
  have bw : Below w.heap.size w (w.alloc (.cells #[.nilIface] 46)) := by (repeat (first | (with_reducible exact Below.refl _ _) | (with_reducible assumption) | (with_reducible refine Below.drew ?_) | ((with_reducible refine balloc ?_ _ ?_); · (first | (simp; done) | (simp; omega) | omega)) | ((with_reducible refine bset ?_ _ ?_); · (first | (simp; done) | (simp; omega) | omega)) | (with_reducible refine bdrewN _ ?_) | ((with_reducible refine bcall ?_ (by assumption) ?_); · (first | (simp; done) | (simp; omega) | omega))))
  go_enter_defers Tryd.func59, Tryd.ntmps59
  go_wp2_with fail
  refine (hG _ bw).mono ?_; rintro e w1 ⟨rfl, hb1⟩
  have c0 : w1.cell? ⟨w.heap.size, 0, none⟩ = some .nilIface := (hb1.cell (p := ⟨w.heap.size, 0, none⟩) (by simp)).trans (by simp [go_sem])
  have f0 : w1.frozen? ⟨w.heap.size, 0, none⟩ = false := (hb1.frozen (p := ⟨w.heap.size, 0, none⟩) (by simp)).trans (World.frozen?_alloc_new _ _ _ _)
  have hbf := bw.trans (hb1.mono (by simp))
  clear hb1 bw
  go_wp2
  refine leaves_cons (f := 76) (args := #[.pointer (some ⟨w.heap.size, 0, none⟩)]) (by simp) (by simp [go_sem]) ?_
  refine (catch_err ⟨w.heap.size, 0, none⟩ .nilIface T pv [] _ hT c0 f0).mono ?_
  rintro e u' w'' ⟨rfl, rfl, rfl⟩
  simp [Leaves, settle, results, Tryd.results59, go_sem, c0]
  exact bset (p := ⟨w.heap.size, 0, none⟩) (by simp) _ hbf

set_option maxRecDepth 100000 in
set_option maxHeartbeats 1000000 in
/-- a move that is made -/
theorem tryMove_okS (cap : Array Value) (w : World) (S : World → World → Prop)
    (hG : ∀ wx : World, wx.heap.size = w.heap.size + 1 → Below w.heap.size w wx → Calls Tryd.prog 60 cap wx fun e w' => e = .returned (.tuple #[]) ∧ S wx w' ∧ w'.cell? ⟨w.heap.size, 0, none⟩ = wx.cell? ⟨w.heap.size, 0, none⟩ ∧ w'.frozen? ⟨w.heap.size, 0, none⟩ = wx.frozen? ⟨w.heap.size, 0, none⟩)
    (Q : World → Prop) (hQ : ∀ wx w', wx.heap.size = w.heap.size + 1 → Below w.heap.size w wx → S wx w' → Q (w'.setCell ⟨w.heap.size, 0, none⟩ .nilIface)) :
    Calls Tryd.prog 59 #[.func (.func 60) #[] cap] w fun e w' => e = .returned .nilIface ∧ Q w' := by
  have hmf : ∀ (fn : Fn) (first cap : Array Value) (w : World), (Instr.makeFunc fn first cap).run Tryd.prog w = .ok (.func fn first cap) w := fun _ _ _ _ => rfl
  have bw : Below w.heap.size w (w.alloc (.cells #[.nilIface] 46)) := by (repeat (first | (with_reducible exact Below.refl _ _) | (with_reducible assumption) | (with_reducible refine Below.drew ?_) | ((with_reducible refine balloc ?_ _ ?_); · (first | (simp; done) | (simp; omega) | omega)) | ((with_reducible refine bset ?_ _ ?_); · (first | (simp; done) | (simp; omega) | omega)) | (with_reducible refine bdrewN _ ?_) | ((with_reducible refine bcall ?_ (by assumption) ?_); · (first | (simp; done) | (simp; omega) | omega))))
  have sz : (w.alloc (.cells #[.nilIface] 46)).heap.size = w.heap.size + 1 := by simp
  go_enter_defers Tryd.func59, Tryd.ntmps59
  go_wp2_with fail
  refine (hG _ sz bw).mono ?_; rintro e w1 ⟨rfl, hs, hc, hf⟩
  have hq := hQ _ _ sz bw hs
  have c0 : w1.cell? ⟨w.heap.size, 0, none⟩ = some .nilIface := hc.trans (by simp [go_sem])
  have f0 : w1.frozen? ⟨w.heap.size, 0, none⟩ = false := hf.trans (World.frozen?_alloc_new _ _ _ _)
  clear hc hf bw sz hs
  go_wp2
  refine leaves_cons (f := 76) (args := #[.pointer (some ⟨w.heap.size, 0, none⟩)]) (by simp) (by simp [go_sem]) ?_
  refine (catch_none ⟨w.heap.size, 0, none⟩ _).mono ?_
  rintro e u' w'' ⟨rfl, rfl, rfl⟩
  simp [Leaves, settle, results, Tryd.results59, go_sem, c0]
  exact hq


end Go.Proofs.YtcocdidkkcjbgaaDoor
