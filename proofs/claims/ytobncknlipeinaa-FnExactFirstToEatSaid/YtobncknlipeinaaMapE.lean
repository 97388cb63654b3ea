/-
  Words: a map keyed by bars that holds arrays of 145 costs.
-/
import Derived.Test.YtobncknlipeinaaEatA
import Derived.Test.YtobncknlipeinaaMapA
namespace Go.Proofs.Ytobncknlipeinaa
open Go.RowKit Go.Maps
set_option linter.unusedVariables false

theorem eLaidOut : laidOutB Try.prog = true := by kernel_rfl
theorem eBarCells : Try.prog.cellsOf 26 = 2 := by kernel_rfl
def litE (x y : Nat) : Lit := .string (keyBytes [.int .i64 x, .int .i64 y])
theorem eWide : (match Try.prog.underlying 26 with | some (.array _ _) | some (.struct _) => true | _ => false) = true := by kernel_rfl
theorem eLaw : Keyed Try.prog 26 := Keyed.of_law (deep_law_laid eLaidOut (m := 2) (by omega) (of_decide_eq_true (by kernel_rfl)) (by kernel_rfl) eWide)
theorem eKeyType : Try.prog.keyType 26 = true := by kernel_rfl
theorem eKey (x y : Nat) (hx : x ≤ 1000000) (hy : y ≤ 1000000) : keyOf Try.prog 26 (bar2 x y) = some (litE x y) := by
  have w1 : (Lit.int .i64 (x : Int)).wf = true := WalkArith.wf_i64 (by omega)
  have w2 : (Lit.int .i64 (y : Int)).wf = true := WalkArith.wf_i64 (by omega)
  obtain ⟨m, hm⟩ : ∃ m, Try.prog.types.size + 1 = m + 2 := ⟨Try.prog.types.size - 1, by have : 2 ≤ Try.prog.types.size := of_decide_eq_true (by kernel_rfl); omega⟩
  have hi := Try.underlying3
  have ci : Try.prog.cellsOf 3 = 1 := by kernel_rfl
  unfold keyOf
  rw [Try.underlying26]
  simp only [eKeyType, Value.formed, Try.underlying26, eBarCells, hm]
  simp [Program.keyLits, Try.underlying26, eBarCells, hi, ci, w1, w2, Value.cells, litE]
theorem litE_inj {a b c d : Nat} (h : litE a b = litE c d) (ha : a ≤ 1000000 ∧ b ≤ 1000000) (hc : c ≤ 1000000 ∧ d ≤ 1000000) : a = c ∧ b = d := by
  have e := eLaw.inj (eKey a b ha.1 ha.2) (by rw [h]; exact eKey c d hc.1 hc.2)
  simp at e
  omega
theorem litE_key (x y : Nat) : WideAt.IsKeyLit (litE x y) := by trivial

def listE (f : Nat → Int) : List Int := (List.range 145).map f
theorem toList_arrE (f : Nat → Int) : (arrE f).toList = (listE f).map (Value.int .i64) := by
  apply List.ext_getElem?
  intro k
  rw [Array.getElem?_toList]
  by_cases h : k < 145
  · rw [arrE_at f h]
    simp [listE, h]
  · rw [Array.getElem?_eq_none (by rw [size_arrE]; omega), List.getElem?_eq_none (by simp [listE]; omega)]
theorem ints?_mk : ∀ l : List Int, ints? (l.map (Value.int .i64)) = some l
  | [] => rfl
  | a :: l => by
    simp only [List.map_cons, ints?, int64?, ints?_mk l]
theorem arrElem_agg (cs : Array Value) : arrElem (.agg cs) = (ints? cs.toList).map fun l => (.agg (l.map fun a => .lit (.int .i64 a)), []) := rfl
def datE (f : Nat → Int) : DataW Unit := .agg ((listE f).map fun a => .lit (.int .i64 a))
theorem arrElem_mkE (f : Nat → Int) : arrElem (.agg (arrE f)) = some (datE f, []) := by
  rw [arrElem_agg, toList_arrE, ints?_mk]
  simp only [Option.map_some, datE]
theorem arrElem_invE {v : Value} {f : Nat → Int} {ps : List MemPlace} (h : arrElem v = some (datE f, ps)) : v = .agg (arrE f) := by
  unfold arrElem at h
  split at h
  · rename_i cs
    cases hi : ints? cs.toList with
    | none => rw [hi] at h; cases h
    | some l =>
      rw [hi] at h
      simp only [Option.map_some, Option.some.injEq, Prod.mk.injEq, datE, DataW.agg.injEq] at h
      have e := lits_inj _ _ h.1
      have e2 := ints?_inv _ _ hi
      rw [e, ← toList_arrE] at e2
      rw [Array.ext' e2]
  · cases h
theorem listE_congr {f g : Nat → Int} (h : ∀ k, k < 145 → f k = g k) : listE f = listE g := by
  unfold listE
  exact List.map_congr_left (fun k hk => h k (List.mem_range.1 hk))
theorem zeroE (w : World) : (zeroValue 50).run Try.prog w = .ok (.agg (arrE fun _ => 0)) w := by
  rw [← zero_arrE]
  kernel_rfl

abbrev C3 := Nat → Nat → Nat → Int
/-- block b is a map from bars to arrays, of at most n entries, that holds M -/
def MapE (w : World) (b n : Nat) (M : C3) : Prop := ∃ (D : DataW Unit), w.ownsMap Try.prog 26 arrElem b n D ∧ ∀ x y : Nat, x ≤ 100 → y ≤ 100 → D.atKey (litE x y) (datE fun _ => 0) = datE (M x y)
theorem MapE.look {w : World} {b n : Nat} {M : C3} (h : MapE w b n M) {x y : Nat} (hx : x ≤ 100) (hy : y ≤ 100) : (Instr.lookup 51 (.map (some b)) (bar2 x y) false).run Try.prog w = .ok (.agg (arrE (M x y))) w := by
  obtain ⟨D, hown, hM⟩ := h
  obtain ⟨v, ps, hrun, hv⟩ := hown.lookup eLaw Try.underlying51 (zeroE w) (arrElem_mkE _) (eKey x y (by omega) (by omega))
  rw [hM x y hx hy] at hv
  rw [hrun, arrElem_invE hv]
theorem MapE.below {w w' : World} {b n B : Nat} {M : C3} (h : MapE w b n M) (hb : Below B w w') (hB : b < B) : MapE w' b n M := by
  obtain ⟨D, hown, hM⟩ := h
  obtain ⟨es, clock, h1, h2⟩ := hown
  exact ⟨D, ⟨es, clock, (hb.block b hB).trans h1, h2⟩, hM⟩
theorem MapE.lt {w : World} {b n : Nat} {M : C3} (h : MapE w b n M) : b < w.heap.size := by
  obtain ⟨D, ⟨es, clock, h1, h2⟩, hM⟩ := h
  exact (Array.getElem?_eq_some_iff.1 h1).1
theorem MapE.alloc {w : World} {b n : Nat} {M : C3} (h : MapE w b n M) (o : Obj) : MapE (w.alloc o) b n M :=
  h.below ((Below.refl w.heap.size w).alloc (Nat.le_refl _) o) h.lt
theorem MapE.drew {w : World} {b n : Nat} {M : C3} (h : MapE w b n M) : MapE w.drew b n M := h
theorem MapE.made (w : World) (M : C3) (hM : ∀ x y s, M x y s = 0) : MapE (w.alloc (.map #[] 0)) w.heap.size 0 M :=
  ⟨.map [], World.ownsMap_made _ _ _ _, fun x y _ _ => by
    have e : datE (M x y) = datE (fun _ => 0) := by unfold datE; rw [listE_congr (fun k _ => hM x y k)]
    rw [e]; rfl⟩
def updE (M : C3) (x y : Nat) (v : Nat → Int) : C3 := fun a b => if a = x ∧ b = y then v else M a b
theorem updE_same (M : C3) (x y : Nat) (v : Nat → Int) : updE M x y v x y = v := if_pos ⟨rfl, rfl⟩
theorem updE_other {M : C3} {x y a b : Nat} {v : Nat → Int} (h : ¬ (a = x ∧ b = y)) : updE M x y v a b = M a b := if_neg h
theorem MapE.put {w : World} {b n : Nat} {M : C3} (h : MapE w b n M) (hn : n ≤ 100000) {x y : Nat} (hx : x ≤ 100) (hy : y ≤ 100) (v : Nat → Int) :
    ∃ w', (Instr.mapUpdate 51 (.map (some b)) (bar2 x y) (.agg (arrE v))).run Try.prog w = .ok () w' ∧ MapE w' b (n + 1) (updE M x y v) ∧ w.grownBy w' (some b) := by
  obtain ⟨D, hown, hM⟩ := h
  obtain ⟨w', hrun, hown', hg⟩ := hown.update eLaw Try.underlying51 (by simp only [maxLen]; omega) (eKey x y (by omega) (by omega)) (arrElem_mkE v)
  refine ⟨w', hrun, ⟨_, hown', ?_⟩, hg⟩
  intro a c ha hc
  by_cases k : a = x ∧ c = y
  · obtain ⟨rfl, rfl⟩ := k
    rw [atKey_put_same (hown.tidy eLaw).isMap (litE_key _ _), updE_same]
  · rw [atKey_put_other (fun r => k (litE_inj r ⟨by omega, by omega⟩ ⟨by omega, by omega⟩)), hM a c ha hc, updE_other k]

end Go.Proofs.Ytobncknlipeinaa
