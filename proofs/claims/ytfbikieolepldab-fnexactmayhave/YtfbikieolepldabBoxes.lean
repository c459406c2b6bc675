/-
  Boxes of three and of five: they read on.
-/
import Derived.Test.YtfbikieolepldabRul
namespace Go.Proofs.Ytfbikieolepldab
open Go.RowKit
/-- A box of 3 that a call laid first: it reads on behind whatever turns nothing below it. -/
theorem box3 {w W : World} {y0 y1 y2 : Value} {T : TypeId} (hb : Below (w.heap.size + 1) (w.alloc (.cells #[y0, y1, y2] T)) W) :
    W.cell? ⟨w.heap.size, 0, none⟩ = some y0 ∧ W.cell? ⟨w.heap.size, 1, none⟩ = some y1 ∧ W.cell? ⟨w.heap.size, 2, none⟩ = some y2 := by
  refine ⟨?_, ?_, ?_⟩
  all_goals (rw [hb.cell (by simp)]; simp)
/-- A box of 5 that a call laid first: it reads on behind whatever turns nothing below it. -/
theorem box5 {w W : World} {y0 y1 y2 y3 y4 : Value} {T : TypeId} (hb : Below (w.heap.size + 1) (w.alloc (.cells #[y0, y1, y2, y3, y4] T)) W) :
    W.cell? ⟨w.heap.size, 0, none⟩ = some y0 ∧ W.cell? ⟨w.heap.size, 1, none⟩ = some y1 ∧ W.cell? ⟨w.heap.size, 2, none⟩ = some y2 ∧ W.cell? ⟨w.heap.size, 3, none⟩ = some y3 ∧ W.cell? ⟨w.heap.size, 4, none⟩ = some y4 := by
  refine ⟨?_, ?_, ?_, ?_, ?_⟩
  all_goals (rw [hb.cell (by simp)]; simp)
end Go.Proofs.Ytfbikieolepldab
