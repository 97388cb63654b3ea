/-
  What the row of a function that writes numbers lists gives a walk: the table of the powers of ten; SlabsText with it. Conditions: none.
-/
import Derived.Test.YtghlgmbekgfmnabDoorSlI
import Derived.Test.YtghlgmbekgfmnabDoorRows
import Derived.ProofKit
import Derived.LaidHandle
import Derived.LaidLaws
import Derived.Stop.LaidErr
namespace Go.Proofs.YtghlgmbekgfmnabDoor
open Go.ChangeShapes Go.WideShapes Go.RowKit
set_option linter.unusedVariables false
def LaidT (w : World) (a : Addr) : Prop := TabP w ∧ True ∧ True
theorem LaidT.later {w w' : World} {a : Addr} (h : LaidT w a) (hb : Below w.heap.size w w') (_ : True) (_ : 0 ≤ w.heap.size) : LaidT w' a := ⟨h.1.later hb (Nat.le_refl _), trivial, trivial⟩
theorem gPow : Tryd.prog.globalNamed "internal/strconv.uint64pow10" = some 3 := by kernel_rfl
theorem gPowT : (Tryd.prog.globals[3]?).map (·.type) = some 127 := by kernel_rfl
theorem laidT_of {W : World} (h : laidMetH Tryd.prog [("math/bits.deBruijn32tab", Rows.laid_math_bits_deBruijn32tab), ("math/bits.deBruijn64tab", Rows.laid_math_bits_deBruijn64tab), ("internal/strconv.uint64pow10", Rows.laid_internal_strconv_uint64pow10)] W) : ∃ a : Addr, LaidT W a :=
  have h' : laidMet Tryd.prog [("math/bits.deBruijn32tab", Rows.laid_math_bits_deBruijn32tab), ("math/bits.deBruijn64tab", Rows.laid_math_bits_deBruijn64tab), ("internal/strconv.uint64pow10", Rows.laid_internal_strconv_uint64pow10)] W := h
  have e : (Rows.laid_internal_strconv_uint64pow10 : DataW Unit) = Lib.tabData .u64 Lib.pow10Tab := by kernel_rfl
  have h2 : laidMet Tryd.prog (("internal/strconv.uint64pow10", Lib.tabData .u64 Lib.pow10Tab) :: []) W := by rw [← e]; exact h'.tail.tail
  ⟨⟨0, 0, none⟩, Lib.tabIs_of_head gPow gPowT Tryd.underlying127 Tryd.underlying105 (by kernel_rfl) (by kernel_rfl) h2, trivial, trivial⟩
theorem slabsTextF_any (A : Option Addr) (n c : Nat) (S : List Sb) (w : World) (hr : Rd w 2 A n (pairCells S)) (hn : n ≤ 4000000000) (a : Addr) (hL : LaidT w a) :
    Calls Tryd.prog 10 #[.slice A n c] w fun e w' => e = .returned (textV (slR S) (slB S)) ∧ Below w.heap.size w w' := slabsText_any A n c S w hr hn hL.1
end Go.Proofs.YtghlgmbekgfmnabDoor
