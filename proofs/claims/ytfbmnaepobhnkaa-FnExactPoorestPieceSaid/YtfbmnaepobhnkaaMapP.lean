/-
  Words: a map keyed by parts that holds arrays of six numbers.
-/
import Derived.Test.YtfbmnaepobhnkaaMapQ
namespace Go.Proofs.Ytfbmnaepobhnkaa
open Go.RowKit Go.Maps
set_option linter.unusedVariables false

abbrev arr6 (f : Nat → Int) : Value := .agg #[.int .i64 (f 0), .int .i64 (f 1), .int .i64 (f 2), .int .i64 (f 3), .int .i64 (f 4), .int .i64 (f 5)]
def int64? : Value → Option Int
  | .int .i64 a => some a
  | _ => none
def ints? : List Value → Option (List Int)
  | [] => some []
  | v :: r => match int64? v, ints? r with
    | some a, some l => some (a :: l)
    | _, _ => none
theorem int64?_inv {v : Value} {a : Int} (h : int64? v = some a) : v = .int .i64 a := by
  unfold int64? at h
  split at h
  · cases h; rfl
  · cases h
theorem ints?_inv : ∀ (cs : List Value) (l : List Int), ints? cs = some l → cs = l.map (Value.int .i64)
  | [], l, h => by simp [ints?] at h; subst h; rfl
  | v :: r, l, h => by
    unfold ints? at h
    split at h
    · rename_i a l' h1 h2
      cases h
      rw [int64?_inv h1, ints?_inv r l' h2]
      rfl
    · cases h
def arrElem : Value → Option (DataW Unit × List MemPlace)
  | .agg cs => (ints? cs.toList).map fun l => (.agg (l.map fun a => .lit (.int .i64 a)), [])
  | _ => none
def dat6 (f : Nat → Int) : DataW Unit := .agg ([f 0, f 1, f 2, f 3, f 4, f 5].map fun a => .lit (.int .i64 a))
theorem arrElem_mk (f : Nat → Int) : arrElem (arr6 f) = some (dat6 f, []) := rfl
theorem lits_inj : ∀ (l l' : List Int), (l.map fun a => (DataW.lit (.int .i64 a) : DataW Unit)) = l'.map (fun a => DataW.lit (.int .i64 a)) → l = l'
  | [], [], _ => rfl
  | [], _ :: _, h => by simp at h
  | _ :: _, [], h => by simp at h
  | a :: l, b :: l', h => by
    simp only [List.map_cons, List.cons.injEq, DataW.lit.injEq, Lit.int.injEq, true_and] at h
    rw [h.1, lits_inj l l' h.2]
theorem arrElem_inv {v : Value} {f : Nat → Int} {ps : List MemPlace} (h : arrElem v = some (dat6 f, ps)) : v = arr6 f := by
  unfold arrElem at h
  split at h
  · rename_i cs
    cases hi : ints? cs.toList with
    | none => rw [hi] at h; cases h
    | some l =>
      rw [hi] at h
      simp only [Option.map_some, Option.some.injEq, Prod.mk.injEq, dat6, DataW.agg.injEq] at h
      have e := lits_inj _ _ h.1
      have e2 := ints?_inv _ _ hi
      rw [e] at e2
      have e3 : cs = #[Value.int .i64 (f 0), .int .i64 (f 1), .int .i64 (f 2), .int .i64 (f 3), .int .i64 (f 4), .int .i64 (f 5)] := by
        apply Array.ext'
        rw [e2]
        rfl
      rw [e3]
  · cases h
theorem dat6_congr {f g : Nat → Int} (h : ∀ t, t < 6 → f t = g t) : dat6 f = dat6 g := by
  unfold dat6
  rw [h 0 (by omega), h 1 (by omega), h 2 (by omega), h 3 (by omega), h 4 (by omega), h 5 (by omega)]

abbrev M5 := Nat → Nat → Nat → Nat → Nat → Int
/-- block b is a map from parts to arrays, of at most n entries, that holds M -/
def MapP (w : World) (b n : Nat) (M : M5) : Prop := ∃ (D : DataW Unit), w.ownsMap Try.prog 70 arrElem b n D ∧ ∀ x y p q : Nat, x ≤ 100 → y ≤ 100 → p ≤ 100 → q ≤ 100 → D.atKey (litQ x y p q) (dat6 fun _ => 0) = dat6 (M x y p q)
theorem zeroArr6 (w : World) : (zeroValue 72).run Try.prog w = .ok (arr6 fun _ => 0) w := by kernel_rfl
theorem MapP.look {w : World} {b n : Nat} {M : M5} (h : MapP w b n M) {x y p q : Nat} (hx : x ≤ 100) (hy : y ≤ 100) (hp : p ≤ 100) (hq : q ≤ 100) : (Instr.lookup 66 (.map (some b)) (part4 x y p q) false).run Try.prog w = .ok (arr6 (M x y p q)) w := by
  obtain ⟨D, hown, hM⟩ := h
  obtain ⟨v, ps, hrun, hv⟩ := hown.lookup qLaw Try.underlying66 (zeroArr6 w) (arrElem_mk _) (qKey x y p q (by omega) (by omega) (by omega) (by omega))
  rw [hM x y p q hx hy hp hq] at hv
  rw [hrun, arrElem_inv hv]
theorem arr6_of {f g : Nat → Int} (h : ∀ k, k < 6 → f k = g k) : arr6 f = arr6 g := by
  simp only [arr6, h 0 (by omega), h 1 (by omega), h 2 (by omega), h 3 (by omega), h 4 (by omega), h 5 (by omega)]
theorem MapP.look6 {w : World} {b n : Nat} {M : M5} (h : MapP w b n M) {x y p q : Nat} {f : Nat → Int} (hf : ∀ t, t < 6 → M x y p q t = f t) (hx : x ≤ 100) (hy : y ≤ 100) (hp : p ≤ 100) (hq : q ≤ 100) : (Instr.lookup 66 (.map (some b)) (part4 x y p q) false).run Try.prog w = .ok (arr6 f) w := by
  rw [← arr6_of hf]
  exact h.look hx hy hp hq
theorem MapP.below {w w' : World} {b n B : Nat} {M : M5} (h : MapP w b n M) (hb : Below B w w') (hB : b < B) : MapP w' b n M := by
  obtain ⟨D, hown, hM⟩ := h
  obtain ⟨es, clock, h1, h2⟩ := hown
  exact ⟨D, ⟨es, clock, (hb.block b hB).trans h1, h2⟩, hM⟩
theorem MapP.lt {w : World} {b n : Nat} {M : M5} (h : MapP w b n M) : b < w.heap.size := by
  obtain ⟨D, ⟨es, clock, h1, h2⟩, hM⟩ := h
  exact (Array.getElem?_eq_some_iff.1 h1).1
theorem MapP.alloc {w : World} {b n : Nat} {M : M5} (h : MapP w b n M) (o : Obj) : MapP (w.alloc o) b n M :=
  h.below ((Below.refl w.heap.size w).alloc (Nat.le_refl _) o) h.lt
theorem MapP.drew {w : World} {b n : Nat} {M : M5} (h : MapP w b n M) : MapP w.drew b n M := h
theorem MapP.made (w : World) (M : M5) (hM : ∀ x y p q t, M x y p q t = 0) : MapP (w.alloc (.map #[] 0)) w.heap.size 0 M :=
  ⟨.map [], World.ownsMap_made _ _ _ _, fun x y p q _ _ _ _ => by rw [dat6_congr (f := M x y p q) (g := fun _ => 0) (fun t _ => hM x y p q t)]; rfl⟩
def updP (M : M5) (x y p q : Nat) (v : Nat → Int) : M5 := fun a b c d => if a = x ∧ b = y ∧ c = p ∧ d = q then v else M a b c d
theorem updP_same (M : M5) (x y p q : Nat) (v : Nat → Int) : updP M x y p q v x y p q = v := if_pos ⟨rfl, rfl, rfl, rfl⟩
theorem updP_other {M : M5} {x y p q a b c d : Nat} {v : Nat → Int} (h : ¬ (a = x ∧ b = y ∧ c = p ∧ d = q)) : updP M x y p q v a b c d = M a b c d := if_neg h
theorem MapP.put {w : World} {b n : Nat} {M : M5} (h : MapP w b n M) (hn : n ≤ 100000) {x y p q : Nat} (hx : x ≤ 100) (hy : y ≤ 100) (hp : p ≤ 100) (hq : q ≤ 100) (v : Nat → Int) :
    ∃ w', (Instr.mapUpdate 66 (.map (some b)) (part4 x y p q) (arr6 v)).run Try.prog w = .ok () w' ∧ MapP w' b (n + 1) (updP M x y p q v) ∧ w.grownBy w' (some b) := by
  obtain ⟨D, hown, hM⟩ := h
  obtain ⟨w', hrun, hown', hg⟩ := hown.update qLaw Try.underlying66 (by simp only [maxLen]; omega) (qKey x y p q (by omega) (by omega) (by omega) (by omega)) (arrElem_mk v)
  refine ⟨w', hrun, ⟨_, hown', ?_⟩, hg⟩
  intro a c d e ha hc hd he
  by_cases k : a = x ∧ c = y ∧ d = p ∧ e = q
  · obtain ⟨rfl, rfl, rfl, rfl⟩ := k
    rw [atKey_put_same (hown.tidy qLaw).isMap (litQ_key _ _ _ _), updP_same]
  · rw [atKey_put_other (fun r => k (litQ_inj r ⟨by omega, by omega, by omega, by omega⟩ ⟨by omega, by omega, by omega, by omega⟩)), hM a c d e ha hc hd he, updP_other k]

end Go.Proofs.Ytfbmnaepobhnkaa
