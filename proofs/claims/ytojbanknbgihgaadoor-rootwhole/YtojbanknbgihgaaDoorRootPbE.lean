/-
  What Publish does (package root), all branches.
-/
import Derived.Test.YtojbanknbgihgaaDoorRootPbA
import Derived.Test.YtojbanknbgihgaaDoorRootPbB
import Derived.Test.YtojbanknbgihgaaDoorRootPbC
import Derived.Test.YtojbanknbgihgaaDoorRootPbD
namespace Go.Proofs.YtojbanknbgihgaaDoor
open Go.RowKit
namespace Rt
open B Dsk
theorem publish_up (b : Bl) (d : D) (g : Nat) (r : R) (w : World) (h : DAt w b d) (hi : Inv d) (hS : SAt w g b) (hL : Lst w) (n0 : 0 ∉ b.l) (hn : g ∉ b.l) (hd : d.down = false) (hl : 2 ≤ d.now.length) (hw : d.writes < 900000) (hm : may r)
    (hE : lastE (d.now.getD 0 ⟨#[]⟩) (d.now.getD 1 ⟨#[]⟩) + 1 < 18446744073709551616) :
    Calls Tryd.prog 9 #[.pointer (some ⟨g, 0, none⟩), rv r] w fun e w' => ∃ x, x = { r with ep := lastE (d.now.getD 0 ⟨#[]⟩) (d.now.getD 1 ⟨#[]⟩) + 1 } ∧
      e = .returned (.tuple #[rv (if (pub d (spare (d.now.getD 0 ⟨#[]⟩) (d.now.getD 1 ⟨#[]⟩) : Nat) (txt x)).2 = 0 then x else R0), .int .i64 (pub d (spare (d.now.getD 0 ⟨#[]⟩) (d.now.getD 1 ⟨#[]⟩) : Nat) (txt x)).2]) ∧
      DAt w' b (pub d (spare (d.now.getD 0 ⟨#[]⟩) (d.now.getD 1 ⟨#[]⟩) : Nat) (txt x)).1 ∧ Tch b.l w w' := by
  by_cases h1 : (flush d).2 = 0
  · by_cases h2 : (write (flush d).1 ((spare (d.now.getD 0 ⟨#[]⟩) (d.now.getD 1 ⟨#[]⟩) : Nat) : Int) (txt { r with ep := lastE (d.now.getD 0 ⟨#[]⟩) (d.now.getD 1 ⟨#[]⟩) + 1 })).2 = 0
    · by_cases h3 : (flush (write (flush d).1 ((spare (d.now.getD 0 ⟨#[]⟩) (d.now.getD 1 ⟨#[]⟩) : Nat) : Int) (txt { r with ep := lastE (d.now.getD 0 ⟨#[]⟩) (d.now.getD 1 ⟨#[]⟩) + 1 })).1).2 = 0
      · exact pub_ok b d g r w h hi hS hL n0 hn hd hl hw hm h1 h2 h3 hE
      · exact pub_h3 b d g r w h hi hS hL n0 hn hd hl hw hm h1 h2 h3 hE
    · exact pub_h2 b d g r w h hi hS hL n0 hn hd hl hw hm h1 h2 hE
  · exact pub_h1 b d g r w h hi hS hL n0 hn hd hl hw hm h1 hE
end Rt
end Go.Proofs.YtojbanknbgihgaaDoor
