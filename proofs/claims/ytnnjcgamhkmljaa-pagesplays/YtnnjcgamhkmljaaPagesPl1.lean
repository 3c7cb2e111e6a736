/-
  The walk of the statement PagesPlays, put together.
-/
import Derived.Test.YtnnjcgamhkmljaaPagesPlB01
import Derived.Test.YtnnjcgamhkmljaaPagesPlB02
import Derived.Test.YtnnjcgamhkmljaaPagesPlB00
import Derived.Test.YtnnjcgamhkmljaaPagesPlC0
import Derived.Test.YtnnjcgamhkmljaaPagesPlB11
import Derived.Test.YtnnjcgamhkmljaaPagesPlB12
import Derived.Test.YtnnjcgamhkmljaaPagesPlB10
import Derived.Test.YtnnjcgamhkmljaaPagesPlC1
namespace Go.Proofs.Ytnnjcgamhkmljaa
open Go.RowKit
namespace Pp
open B Dsk
theorem pagesPlays_walk (size : Int) (A1 : Option Addr) (acts : List Ac) (cc : Nat) (w : World) (hA : AcIn w A1 acts) (hl : acts.length ≤ maxLen) :
    Calls Try.prog 3 #[.int .i64 size, .slice A1 acts.length cc] w fun e w' => e = .returned (.bool true) ∧ Below w.heap.size w w' :=
  parts.all ⟨way01⟩ ⟨way02⟩ ⟨way03⟩ ⟨way04⟩ ⟨way05⟩ ⟨way06⟩ ⟨way00⟩ ⟨way11⟩ ⟨way12⟩ ⟨way13⟩ ⟨way14⟩ ⟨way15⟩ ⟨way16⟩ ⟨way10⟩ size A1 acts cc w hA hl
end Pp
end Go.Proofs.Ytnnjcgamhkmljaa
