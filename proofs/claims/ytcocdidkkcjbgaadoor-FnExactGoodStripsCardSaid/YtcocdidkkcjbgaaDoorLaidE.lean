/-
  What the row's listed variables give a walk: where the program has laid its errors.
-/
import Derived.Test.YtcocdidkkcjbgaaDoorStm
import Derived.ProofKit
import Derived.LaidHandle
import Derived.LaidLaws
import Derived.Stop.LaidErr
import Derived.Stop.ErrReads
import Derived.OpenVars
namespace Go.Proofs.YtcocdidkkcjbgaaDoor
open Go.ChangeShapes Go.WideShapes Go.RowKit

theorem trodVars_len {H : Type} {enc : TypeId × Value → H} {P : Program} {w : World} {spare : Nat → Bool} : ∀ {ns : List String} {gs : List (DataW H)} {ps : List MemPlace}, DataW.TrodVars enc P w spare ns gs ps → gs.length = ns.length
  | [], [], _, _ => rfl
  | [], _ :: _, _, h => h.elim
  | _ :: _, [], _, h => h.elim
  | n :: ns, d :: ds, ps, h => by
    obtain ⟨g, t, cs, fuel, p, q, h1, h2, h3, h4, hs, e⟩ := h
    simp [trodVars_len hs]

theorem gEt : Tryd.prog.globalNamed "errors.errorType" = some 1 := by kernel_rfl
theorem gLk : Tryd.prog.globalNamed "loop.example/g01377/impl.errLikeParts" = some 0 := by kernel_rfl
theorem gLkT : (Tryd.prog.globals[0]?).map (·.type) = some 46 := by kernel_rfl
theorem rtT : (Tryd.prog.cutTypes.find? (·.1 == "internal/reflectlite.rtype")).map (·.2) = some 124 := by kernel_rfl
theorem rtRow : ((List.range 191).filter fun t => Tryd.prog.rowNamed t [101, 114, 114, 111, 114]) = [46] := by kernel_rfl
theorem rtSize : Tryd.prog.types.size = 191 := by kernel_rfl
theorem cellsEs : Tryd.prog.cellsOf 146 = 1 := by kernel_rfl
theorem cellsStr : Tryd.prog.cellsOf 9 = 1 := by kernel_rfl
theorem starEs : "*" ++ "errors.errorString" = "*errors.errorString" := by decide
theorem rowEs (u : TypeId) (h : Tryd.prog.typeName? 3 u = some "*errors.errorString") : u = 144 :=
  typeName_ptr_named (nm := "errors.errorString") (by rw [starEs]; kernel_rfl) (by kernel_rfl) (by decide) u (by rw [starEs]; exact h)

theorem laidE_of {W : World} (h : laidMetH Tryd.prog [("errors.errorType", Rows.laid_errors_errorType), ("loop.example/g01377/impl.errLikeParts", Rows.laid_loop_example_g01377_impl_errLikeParts)] W) : ∃ a0, LaidE W a0 := by
  have h' : laidMet Tryd.prog [("loop.example/g01377/impl.errLikeParts", Rows.laid_loop_example_g01377_impl_errLikeParts)] W ∧ handlesMet Tryd.prog [("errors.errorType", Rows.laid_errors_errorType)] W := h
  obtain ⟨name, u, ty, e1, e2, e3, e4, e5⟩ := h'.2 _ (List.mem_singleton.2 rfl)
  have en : name = [101, 114, 114, 111, 114] := (Option.some.inj e1).symm
  subst en
  obtain rfl := Option.some.inj (rtT.symm.trans e2)
  have hm : ty ∈ (List.range 191).filter fun t => Tryd.prog.rowNamed t [101, 114, 114, 111, 114] := List.mem_filter.2 ⟨List.mem_range.2 (by rw [← rtSize]; exact e3), e4⟩
  rw [rtRow] at hm
  obtain rfl := List.mem_singleton.1 hm
  have hh : typeHandle Tryd.prog 46 = hnd 46 := by kernel_rfl
  rw [hh] at e5
  have hg : W.cell? ⟨1, 0, none⟩ = some (rty 46) := by simpa using World.var?_cell gEt e5 0
  obtain ⟨a0, s, hv, _, _, _⟩ := laid_sentinel h'.1 gLk gLkT Tryd.underlying46 rowEs Tryd.underlying144 Tryd.underlying146 rfl rfl Tryd.underlying9 cellsEs cellsStr
  have hl : LikeAt W a0 := by simpa [LikeAt] using World.var?_cell gLk hv 0
  refine ⟨a0, hl, hg, ?_⟩
  have h1 := hl.lt
  have h2 : 1 < W.heap.size := by
    rcases Nat.lt_or_ge 1 W.heap.size with q | q
    · exact q
    · simp [World.cell?, Array.getElem?_eq_none q] at hg
  omega
end Go.Proofs.YtcocdidkkcjbgaaDoor
