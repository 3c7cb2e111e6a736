/-
  PagesPlays: what stands between two calls.
-/
import Derived.Test.YtnnjcgamhkmljaaPagesPl0
namespace Go.Proofs.Ytnnjcgamhkmljaa
open Go.RowKit
namespace Pp
open B Dsk
/-- what stands between two calls -/
structure PL (S R N : Nat) (w wr : World) (b : Bl) (d : D) (g gh : Nat) (h : Int) (l0 l1 : List Pg.Pag) (H0 H1 : Option Addr) (k0 k1 : Nat) : Prop where
  pm : Pg.PMy w.heap.size wr b d g h (if h = 0 then (l0.length : Int) else (l1.length : Int))
  up : Pg.Up d
  c0 : Pg.Con d 0 l0
  c1 : Pg.Con d 1 l1
  rm : Pg.room d = R
  lo : ∀ x ∈ b.l, x < S
  gs : S ≤ gh
  hg : wr.heap[gh]? = some (.cells #[.slice H0 l0.length k0, .slice H1 l1.length k1] 33)
  r0 : RW S wr H0 l0 k0
  r1 : RW S wr H1 l1 k1
  nw : d.writes ≤ N
  bl : Below w.heap.size w wr
  sz : S ≤ wr.heap.size
end Pp
end Go.Proofs.Ytnnjcgamhkmljaa
