/-
  A strings.Builder of the call's own.
-/
import Derived.Test.YtedhijehmkiieaaShelf
import Derived.Test.YtedhijehmkiieaaBase
import Derived.Lib.AppendIntMem
namespace Go.Proofs.Ytedhijehmkiieaa
open Go.RowKit
namespace Bu
open B
abbrev Bld (B gb : Nat) (l : List UInt8) (w : World) : Prop := Lib.IsBuilderF 107 5 B gb (Lib.byteCells l) w
theorem bld_keep {B gb : Nat} {l : List UInt8} {w w' : World} (h : Bld B gb l w) (hb : Below w.heap.size w w') : Bld B gb l w' := by
  have hk : ∀ p, Lib.BuilderAtF 107 5 B gb p (Lib.byteCells l) w → Lib.BuilderAtF 107 5 B gb p (Lib.byteCells l) w' := by
    intro p ⟨h1, v, h2, h3, h4⟩
    refine ⟨h1, v, blk_below h2 hb (blk_lt h2), ⟨h3.1, ?_⟩, h4⟩
    rcases h3.2 with hn | ⟨q, cap, cur, fz, e1, e2, e3, r⟩
    · exact .inl hn
    · exact .inr ⟨q, cap, cur, fz, e1, e2, blk_below e3 hb (blk_lt e3), r⟩
  exact h.elim (fun q => .inl (hk _ q)) (fun q => .inr (hk _ q))
theorem wstr (B gb : Nat) (l : List UInt8) (s : ByteArray) (w : World) (h : Bld B gb l w) (hl : l.length + s.size ≤ 1000000) (hB : B ≤ w.heap.size) :
    Calls Try.prog 89 #[.pointer (some ⟨gb, 0, none⟩), .string s] w fun e w' => e = .returned (.tuple #[.int .i64 s.size, .nilIface]) ∧ Bld B gb (l ++ s.data.toList) w' ∧ Below B w w' := by
  have hc := Any.Builder_WriteString_f (P := Try.prog) (ρ := Try.lays105_ren) { Try.lays105 with } Try.Builder_Extra_105 B gb (Lib.byteCells l) s w h (by rw [Lib.byteCells_length]; omega) hB
  refine hc.mono fun e w' ⟨h1, h2, h3⟩ => ⟨h1, .inr ?_, h3⟩
  have e2 : Lib.byteCells l ++ Lib.strCells s = Lib.byteCells (l ++ s.data.toList) := by simp [Lib.byteCells, Lib.strCells]
  rw [e2] at h2
  exact h2
theorem bstr (B gb : Nat) (l : List UInt8) (w : World) (h : Bld B gb l w) (hB : B ≤ w.heap.size) :
    Calls Try.prog 55 #[.pointer (some ⟨gb, 0, none⟩)] w fun e w' => e = .returned (.string ⟨l.toArray⟩) ∧ Below B w w' :=
  (Try.Builder_String_any_f B gb l w h hB).mono fun _ _ h => ⟨h.1, h.2.2⟩
theorem bld_new (w : World) (B : Nat) (hB : B ≤ w.heap.size) : Bld B w.heap.size [] (w.alloc (.cells #[.pointer none, .slice none 0 0] 107)) :=
  .inl ⟨hB, .slice none 0 0, heap_last w _ _ rfl, ⟨by simp [Lib.byteCells], .inl ⟨rfl, rfl⟩⟩, by intro e; cases e⟩
end Bu
end Go.Proofs.Ytedhijehmkiieaa
