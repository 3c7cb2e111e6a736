/-
  A region that draws its order, whose operations only read, while its callees may make memory of their own (or do whatever keeps a class of worlds): one walk, in the text's order.
-/
import Derived.Test.YtnhgoeoffjcooaaBase
import Derived.Deep.RegionWith
namespace Go.Proofs.Ytnhgoeoffjcooaa
open Go.RowKit

/-- a world of a class -/
structure Ov (C : World → Prop) where
  w : World
  h : C w
namespace Ov
theorem region {P : Program} {C : World → Prop} {id : Nat} {Q : Exit → Act → World → Prop} {a : Act} {w : World} {l : List Oper} (hm : P.follows .mixedOrders = true) (hB : Region.lexB .any l.toArray = true) (hC : C w.drew)
    (h : wpQuiet P l.toArray (fun W => ∃ x : Ov C, W = x.w) (fun a' => ∀ W, (∃ x : Ov C, W = x.w) → Q .normal a' W) l a) : (Code.region id l.toArray true).wp P Q a w :=
  wp_region_quiet (C := fun W => ∃ x : Ov C, W = x.w) hm hB ⟨⟨w.drew, hC⟩, rfl⟩ (by simpa using h)
theorem call {P : Program} {C : World → Prop} {f : FuncId} {args : Array Value} {x : Ov C} {v : Value} {Q : World → Prop} (hQ : ∀ W, Q W → C W) (h : Calls P f args x.w fun e w' => e = .returned v ∧ Q w') : Calls P f args x.w fun e w'' => e = .returned v ∧ ∃ y : Ov C, w'' = y.w :=
  h.mono fun _ w' ⟨he, hq⟩ => ⟨he, ⟨w', hQ w' hq⟩, rfl⟩
/-- the class of worlds whose old memory is as it was -/
abbrev Up (w : World) := Ov (fun W => Below w.heap.size w W)
theorem start (w : World) : Below w.heap.size w w.drew := ⟨rfl, rfl, rfl, Nat.le_refl _, fun _ _ => rfl⟩
instance (w : World) : Nonempty (Up w) := ⟨⟨w.drew, start w⟩⟩
theorem Up.cell {w : World} {b i : Nat} {v : Value} (h : w.cell? ⟨b, i, none⟩ = some v) (hb : b < w.heap.size) (x : Up w) : x.w.cell? ⟨b, i, none⟩ = some v := (x.h.cell (p := ⟨b, i, none⟩) hb).trans h
theorem Up.call {P : Program} {w : World} {f : FuncId} {args : Array Value} {x : Up w} {v : Value} (h : Calls P f args x.w fun e w' => e = .returned v ∧ Below x.w.heap.size x.w w') : Calls P f args x.w fun e w'' => e = .returned v ∧ ∃ y : Up w, w'' = y.w :=
  Ov.call (fun _ hq => x.h.trans (hq.mono x.h.size)) h
theorem Up.same {P : Program} {w : World} {f : FuncId} {args : Array Value} {x : Up w} {v : Value} (h : Calls P f args x.w fun e w' => e = .returned v ∧ x.w = w') : Calls P f args x.w fun e w'' => e = .returned v ∧ ∃ y : Up w, w'' = y.w :=
  h.mono fun _ _ ⟨he, hq⟩ => ⟨he, x, hq.symm⟩
theorem Up.draws {P : Program} {w : World} {f : FuncId} {args : Array Value} {x : Up w} {v : Value} (h : Calls P f args x.w fun e w' => e = .returned v ∧ ∃ n, w' = x.w.drewN n) : Calls P f args x.w fun e w'' => e = .returned v ∧ ∃ y : Up w, w'' = y.w :=
  Up.call (h.mono fun _ _ ⟨he, n, hq⟩ => ⟨he, by rw [hq]; exact ⟨rfl, rfl, rfl, Nat.le_refl _, fun _ _ => rfl⟩⟩)
end Ov
end Go.Proofs.Ytnhgoeoffjcooaa
