/-
  The program's disk: Clone.
-/
import Derived.Test.YtnnjcgamhkmljaaDiskLo
namespace Go.Proofs.Ytnnjcgamhkmljaa
open Go.RowKit
namespace Dsk
open B

theorem lo_below {w w' : World} {bm n : Nat} {M : DataW Unit} (h : w.ownsMap Try.prog 3 elem bm n M) (hb : Below w.heap.size w w') : w'.ownsMap Try.prog 3 elem bm n M := by
  have hl := h.lt
  obtain ⟨es, clock, hh, r⟩ := h
  exact ⟨es, clock, (hb.block _ hl).trans hh, r⟩

end Dsk
end Go.Proofs.Ytnnjcgamhkmljaa
