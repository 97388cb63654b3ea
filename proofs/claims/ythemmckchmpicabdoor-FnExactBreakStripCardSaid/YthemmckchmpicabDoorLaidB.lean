/-
  What the row of BreakStrip lists gives a walk: where the program has laid its three errors.
-/
import Derived.Test.YthemmckchmpicabDoorLaidE
import Derived.Test.YthemmckchmpicabDoorBstB
namespace Go.Proofs.YthemmckchmpicabDoor
open Go.ChangeShapes Go.WideShapes Go.RowKit

theorem gRm : Tryd.prog.globalNamed "loop.example/g01377/impl.errNoRoom" = some 1 := by kernel_rfl
theorem gRmT : (Tryd.prog.globals[1]?).map (·.type) = some 60 := by kernel_rfl
theorem gSt : Tryd.prog.globalNamed "loop.example/g01377/impl.errNoStrip" = some 2 := by kernel_rfl
theorem gStT : (Tryd.prog.globals[2]?).map (·.type) = some 60 := by kernel_rfl

theorem laidB_of {W : World} (h : laidMetH Tryd.prog [("loop.example/g01377/impl.errLikeParts", Rows.laid_loop_example_g01377_impl_errLikeParts), ("loop.example/g01377/impl.errNoStrip", Rows.laid_loop_example_g01377_impl_errNoStrip), ("loop.example/g01377/impl.errNoRoom", Rows.laid_loop_example_g01377_impl_errNoRoom)] W) : ∃ a0, LaidB W a0 := by
  have h' : laidMet Tryd.prog [("loop.example/g01377/impl.errLikeParts", Rows.laid_loop_example_g01377_impl_errLikeParts), ("loop.example/g01377/impl.errNoStrip", Rows.laid_loop_example_g01377_impl_errNoStrip), ("loop.example/g01377/impl.errNoRoom", Rows.laid_loop_example_g01377_impl_errNoRoom)] W := h
  obtain ⟨a0, s0, v0, _, _, _⟩ := laid_sentinel h' gLk gLkT Tryd.underlying60 rowEs Tryd.underlying102 Tryd.underlying124 rfl rfl Tryd.underlying9 cellsEs cellsStr
  obtain ⟨a1, s1, v1, _, _, _⟩ := laid_sentinel h'.tail gSt gStT Tryd.underlying60 rowEs Tryd.underlying102 Tryd.underlying124 rfl rfl Tryd.underlying9 cellsEs cellsStr
  obtain ⟨a2, s2, v2, _, _, _⟩ := laid_sentinel h'.tail.tail gRm gRmT Tryd.underlying60 rowEs Tryd.underlying102 Tryd.underlying124 rfl rfl Tryd.underlying9 cellsEs cellsStr
  have hl : LikeAt W a0 := by simpa [LikeAt] using World.var?_cell gLk v0 0
  have k1 : W.cell? ⟨2, 0, none⟩ = some (.iface 102 (.pointer (some a1))) := by simpa using World.var?_cell gSt v1 0
  have k2 : W.cell? ⟨1, 0, none⟩ = some (.iface 102 (.pointer (some a2))) := by simpa using World.var?_cell gRm v2 0
  refine ⟨a0, hl, ⟨a2, a1, k2, k1⟩, ?_⟩
  have h2 : 2 < W.heap.size := by
    rcases Nat.lt_or_ge 2 W.heap.size with q | q
    · exact q
    · simp [World.cell?, Array.getElem?_eq_none q] at k1
  have h3 : 1 < W.heap.size := by
    rcases Nat.lt_or_ge 1 W.heap.size with q | q
    · exact q
    · simp [World.cell?, Array.getElem?_eq_none q] at k2
  omega
end Go.Proofs.YthemmckchmpicabDoor
