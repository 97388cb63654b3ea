/-
  What the row of a function that reads numbers lists gives a walk: the library's errors lie where they are, and its greatest length holds a number.
-/
import Derived.Test.YtcocdidkkcjbgaaDoorAtoi
import Derived.Test.YtcocdidkkcjbgaaDoorAndS
import Derived.ProofKit
import Derived.LaidHandle
import Derived.LaidLaws
import Derived.Stop.LaidErr
import Derived.Stop.ErrReads
import Derived.Shelf.Vars
namespace Go.Proofs.YtcocdidkkcjbgaaDoor
open Go.ChangeShapes Go.WideShapes Go.RowKit

theorem gSyn : Tryd.prog.globalNamed "strconv.ErrSyntax" = some 3 := by kernel_rfl
theorem gSynT : (Tryd.prog.globals[3]?).map (·.type) = some 46 := by kernel_rfl
theorem gRan : Tryd.prog.globalNamed "strconv.ErrRange" = some 4 := by kernel_rfl
theorem gRanT : (Tryd.prog.globals[4]?).map (·.type) = some 46 := by kernel_rfl
theorem cellsEsP : Tryd.prog.cellsOf 146 = 1 := by kernel_rfl
theorem cellsStrP : Tryd.prog.cellsOf 9 = 1 := by kernel_rfl
theorem starEsP : "*" ++ "errors.errorString" = "*errors.errorString" := by decide
theorem rowEsP (u : TypeId) (h : Tryd.prog.typeName? 3 u = some "*errors.errorString") : u = 144 :=
  typeName_ptr_named (nm := "errors.errorString") (by rw [starEsP]; kernel_rfl) (by kernel_rfl) (by decide) u (by rw [starEsP]; exact h)

theorem maxLen_of {W : World} (h : W.ShapedOpen Tryd.prog) : ∃ m, W.cell? ⟨2, 0, none⟩ = some (.int .i64 m) :=
  cell_of_shapedOpen_int (t := 3) (zero := #[.int .i64 0]) h (of_decide_eq_true (by kernel_rfl)) (by kernel_rfl) rfl (by kernel_rfl) (by kernel_rfl) Tryd.underlying3

theorem laidP_of {W : World} (h : laidMetH Tryd.prog [("math/bits.deBruijn32tab", Rows.laid_math_bits_deBruijn32tab), ("math/bits.deBruijn64tab", Rows.laid_math_bits_deBruijn64tab), ("internal/strconv.uint64pow10", Rows.laid_internal_strconv_uint64pow10), ("strconv.ErrRange", Rows.laid_strconv_ErrRange), ("strconv.ErrSyntax", Rows.laid_strconv_ErrSyntax)] W) (hsh : W.ShapedOpen Tryd.prog) : GA W := by
  have h' : laidMet Tryd.prog [("math/bits.deBruijn32tab", Rows.laid_math_bits_deBruijn32tab), ("math/bits.deBruijn64tab", Rows.laid_math_bits_deBruijn64tab), ("internal/strconv.uint64pow10", Rows.laid_internal_strconv_uint64pow10), ("strconv.ErrRange", Rows.laid_strconv_ErrRange), ("strconv.ErrSyntax", Rows.laid_strconv_ErrSyntax)] W := h
  obtain ⟨a0, s0, v0, _, _, _⟩ := laid_sentinel h'.tail.tail.tail gRan gRanT Tryd.underlying46 rowEsP Tryd.underlying144 Tryd.underlying146 rfl rfl Tryd.underlying9 cellsEsP cellsStrP
  obtain ⟨a1, s1, v1, _, _, _⟩ := laid_sentinel h'.tail.tail.tail.tail gSyn gSynT Tryd.underlying46 rowEsP Tryd.underlying144 Tryd.underlying146 rfl rfl Tryd.underlying9 cellsEsP cellsStrP
  have k0 : W.cell? ⟨4, 0, none⟩ = some (.iface 144 (.pointer (some a0))) := by simpa using World.var?_cell gRan v0 0
  have k1 : W.cell? ⟨3, 0, none⟩ = some (.iface 144 (.pointer (some a1))) := by simpa using World.var?_cell gSyn v1 0
  exact ⟨maxLen_of hsh, ⟨_, k1, .inr ⟨_, _, rfl⟩⟩, ⟨_, k0, .inr ⟨_, _, rfl⟩⟩⟩

end Go.Proofs.YtcocdidkkcjbgaaDoor
