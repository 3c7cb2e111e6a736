/-
  Programs: closures as values of a class; an op's cells.
-/
import Derived.Test.YtnhgoeoffjcooaaProMayF
import Derived.Test.YtnhgoeoffjcooaaGrow4
namespace Go.Proofs.Ytnhgoeoffjcooaa
open Go.RowKit
namespace Pm
open B
set_option linter.unusedVariables false
/-- a value that is below(n) -/
def BV (n : Int) (v : Value) (W : World) : Prop := ∃ g, v = bv g ∧ W.cell? ⟨g, 0, none⟩ = some (.int .i64 n)
theorem bv_grow {n : Int} (v : Value) (W W' : World) (h : BV n v W) (hb : Below W.heap.size W W') : BV n v W' := by
  obtain ⟨g, h1, h2⟩ := h
  exact ⟨g, h1, (hb.cell (p := ⟨g, 0, none⟩) (cell_lt h2)).trans h2⟩
theorem seven {w : World} {g : Nat} {x0 x1 x2 x3 x4 x5 x6 : Value} {t : TypeId} (h : w.heap[g]? = some (.cells #[x0, x1, x2, x3, x4, x5, x6] t)) :
    w.cell? ⟨g, 0, none⟩ = some x0 ∧ w.cell? ⟨g, 1, none⟩ = some x1 ∧ w.cell? ⟨g, 2, none⟩ = some x2 ∧ w.cell? ⟨g, 3, none⟩ = some x3 ∧ w.cell? ⟨g, 4, none⟩ = some x4 ∧ w.cell? ⟨g, 5, none⟩ = some x5 ∧ w.cell? ⟨g, 6, none⟩ = some x6 := by
  unfold World.cell?
  rw [h]; simp
/-- a value that is orNone of what stands at g -/
def ON (g : Nat) (v : Value) (W : World) : Prop := ∃ k, v = .func (.func 107) #[] #[.pointer (some ⟨k, 0, none⟩)] ∧ W.cell? ⟨k, 0, none⟩ = some (bv g)
theorem on_grow {g : Nat} (v : Value) (W W' : World) (h : ON g v W) (hb : Below W.heap.size W W') : ON g v W' := by
  obtain ⟨k, h1, h2⟩ := h
  exact ⟨k, h1, (hb.cell (p := ⟨k, 0, none⟩) (cell_lt h2)).trans h2⟩
theorem not_bool {a b : Bool} (h : a = b) : Ending.returned (.bool a) = .returned (.bool b) := by rw [h]
end Pm
end Go.Proofs.Ytnhgoeoffjcooaa
