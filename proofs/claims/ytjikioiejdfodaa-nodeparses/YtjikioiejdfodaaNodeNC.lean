/-
  A node in a block; a node as a value.
-/
import Derived.Test.YtjikioiejdfodaaNodeCat
namespace Go.Proofs.Ytjikioiejdfodaa
open Go.RowKit
namespace Nod
open B V
/-- a node's four cells in a block, and what it reads as -/
structure NC (t : TypeId) (w : World) (g : Nat) (A1 A2 A3 : Option Addr) (c1 c2 c3 : Nat) (n : N) : Prop where
  r : w.heap[g]? = some (.cells #[.int .i64 n.kind, .slice A1 n.keys.length c1, .slice A2 n.vals.length c2, .slice A3 n.kids.length c3] t)
  a : NAt w A1 A2 A3 n
theorem NC.below {t : TypeId} {w w' : World} {g : Nat} {A1 A2 A3 : Option Addr} {c1 c2 c3 : Nat} {n : N} (h : NC t w g A1 A2 A3 c1 c2 c3 n) (hb : Below w.heap.size w w') : NC t w' g A1 A2 A3 c1 c2 c3 n := ⟨blk_thru hb h.r, h.a.below hb⟩
theorem NC.lt {t : TypeId} {w : World} {g : Nat} {A1 A2 A3 : Option Addr} {c1 c2 c3 : Nat} {n : N} (h : NC t w g A1 A2 A3 c1 c2 c3 n) : g < w.heap.size := blk_lt h.r
theorem NC.p {t : TypeId} {w : World} {g : Nat} {A1 A2 A3 : Option Addr} {c1 c2 c3 : Nat} {n : N} (h : NC t w g A1 A2 A3 c1 c2 c3 n) : w.cell? ⟨g, 0, none⟩ = some (.int .i64 n.kind) ∧ w.cell? ⟨g, 1, none⟩ = some (.slice A1 n.keys.length c1) ∧ w.cell? ⟨g, 2, none⟩ = some (.slice A2 n.vals.length c2) ∧ w.cell? ⟨g, 3, none⟩ = some (.slice A3 n.kids.length c3) := (row4 h.r).1
theorem NC.new (t : TypeId) (w : World) {A1 A2 A3 : Option Addr} {c1 c2 c3 : Nat} {n : N} (h : NAt w A1 A2 A3 n) : NC t (w.alloc (.cells #[.int .i64 n.kind, .slice A1 n.keys.length c1, .slice A2 n.vals.length c2, .slice A3 n.kids.length c3] t)) w.heap.size A1 A2 A3 c1 c2 c3 n := ⟨heap_last _ _ _ rfl, h.below (below1 _ _)⟩
def NVal (n : N) (v : Value) (W : World) : Prop := ∃ E1 E2 E3 e1 e2 e3, v = nv E1 E2 E3 e1 e2 e3 n ∧ NAt W E1 E2 E3 n
theorem NVal.below {n : N} {v : Value} {W W' : World} (h : NVal n v W) (hb : Below W.heap.size W W') : NVal n v W' := by
  obtain ⟨E1, E2, E3, e1, e2, e3, h1, h2⟩ := h
  exact ⟨E1, E2, E3, e1, e2, e3, h1, h2.below hb⟩
end Nod
end Go.Proofs.Ytjikioiejdfodaa
