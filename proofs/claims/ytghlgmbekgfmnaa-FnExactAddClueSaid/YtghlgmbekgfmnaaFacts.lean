/-
  Closed facts over the whole program, once for all laws of a great seat.
-/
import Derived.Test.YtghlgmbekgfmnaaProg
import Derived.JoinedOf
namespace Go.Proofs.Ytghlgmbekgfmnaa
theorem mayEnterP : Try.prog.mayEnter = true := by kernel_rfl
theorem liftsP : Try.prog.liftsFinal = false := by kernel_rfl
theorem makeP : Try.prog.make = some .cut := by kernel_rfl
theorem and_t {a b : Bool} (h1 : a = true) (h2 : b = true) : (a && b) = true := by rw [h1, h2]; rfl
end Go.Proofs.Ytghlgmbekgfmnaa
