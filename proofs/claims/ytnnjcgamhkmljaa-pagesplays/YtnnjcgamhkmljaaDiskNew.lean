/-
  What the document's own New does (layer 5).
-/
import Derived.Test.YtnnjcgamhkmljaaDiskFlush
import Derived.Deep.AppendLies
namespace Go.Proofs.Ytnnjcgamhkmljaa
open Go.RowKit
namespace Dsk
open B

def zero : ByteArray := fill ⟨#[]⟩
def new (n : Nat) : D := ⟨List.replicate n zero, List.replicate n zero, [], 0, -1, false⟩
def rep (k : Nat) : List Value := (List.replicate k zero).map vStr
theorem rep_succ (k : Nat) : rep (k + 1) = rep k ++ [.string (fill ⟨#[]⟩)] := by
  unfold rep; rw [List.replicate_succ', List.map_append]; rfl

end Dsk
end Go.Proofs.Ytnnjcgamhkmljaa
