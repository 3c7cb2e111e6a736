/-
  What the document's own disk does (layer 5): a sector, a turn, a number more.
-/
import Derived.Test.YtnnjcgamhkmljaaDiskMath
namespace Go.Proofs.Ytnnjcgamhkmljaa
open Go.RowKit
namespace Dsk
open B

/-- a disk's value, of its three slices -/
abbrev dval (x y z : Value) (wr h : Int) (dn : Bool) : Value := .agg #[x, y, z, .int .i64 wr, .int .i64 h, .bool dn]

theorem info_parts {t : TypeId} {z : Value} {a b : Nat} (h : (Try.prog.info? t).map (fun i => (i.zero, i.size, i.bytes)) = some (some z, a, b)) : ∃ i, Try.prog.info? t = some i ∧ i.zero = some z ∧ i.size = a ∧ i.bytes = b := by
  cases hi : Try.prog.info? t with
  | none => rw [hi] at h; cases h
  | some i =>
    rw [hi] at h
    simp only [Option.map_some, Option.some.injEq, Prod.mk.injEq] at h
    exact ⟨i, rfl, h.1, h.2.1, h.2.2⟩
theorem two_len {α : Type} (G : List α) (x y : α) : ((G ++ [x]) ++ [y]).length = G.length + 1 + 1 := by simp

end Dsk
end Go.Proofs.Ytnnjcgamhkmljaa
