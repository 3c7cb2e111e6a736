/-
  Two disks that are alike: what is done to both.
-/
import Derived.Test.YtojbanknbgihgaaDoorDiskLaw
namespace Go.Proofs.YtojbanknbgihgaaDoor
open Go.RowKit
namespace Dsk
open B

theorem turn_writes (d : D) : (turn d).1.writes ≤ d.writes + 1 := by unfold turn; split <;> simp <;> omega
theorem turn_len (d : D) : (turn d).1.now.length = d.now.length := by rw [(turn_now d).1]
theorem write_writes (d : D) (i : Int) (s : ByteArray) : (write d i s).1.writes ≤ d.writes + 1 := by
  have := turn_writes d
  unfold write
  split
  · simp only; omega
  · split
    · simp only; omega
    · split
      · simp only; omega
      · simp only; split <;> exact this
theorem write_len (d : D) (i : Int) (s : ByteArray) : (write d i s).1.now.length = d.now.length := by
  have := turn_len d
  unfold write
  split
  · rfl
  · split
    · rfl
    · split
      · rfl
      · simp only
        split
        · simpa using this
        · exact this
theorem flush_writes (d : D) : (flush d).1.writes ≤ d.writes + 1 := by
  have := turn_writes d
  unfold flush
  split
  · simp only; omega
  · simp only; split <;> exact this
theorem flush_len (d : D) : (flush d).1.now.length = d.now.length := by
  have := turn_len d
  unfold flush
  split
  · rfl
  · simp only; split <;> exact this
theorem crash_len (d : D) (ch : List Int) : (crash d ch).now.length = d.now.length := crashFrom_len _ _ _ _ _

/-- what one call makes of a disk -/
def op (d : D) (a : Act) : D := if a.kind = 2 then (flush d).1 else if a.kind = 3 then halt d a.i else if a.kind = 4 then crash d (few a.ch) else (write d a.i (cutB a.s 260)).1
theorem op_writes (d : D) (a : Act) : (op d a).writes ≤ d.writes + 1 := by
  unfold op
  split
  · exact flush_writes d
  · split
    · show d.writes ≤ _; omega
    · split
      · show d.writes ≤ _; omega
      · exact write_writes _ _ _
theorem op_len (d : D) (a : Act) : (op d a).now.length = d.now.length := by
  unfold op
  split
  · exact flush_len d
  · split
    · rfl
    · split
      · exact crash_len _ _
      · exact write_len _ _ _

/-- behind j of two: the first ones are turned -/
structure Rel (B : Nat) (w : World) (b1 b2 : Bl) (d d' : D) (j : Nat) : Prop where
  one : My B w b1 (if j = 0 then d else d')
  two : My B w b2 (if j ≤ 1 then d else d')
  far : ∀ x ∈ b1.l, x ∉ b2.l
theorem Rel.start {B : Nat} {w : World} {b1 b2 : Bl} {d : D} (d' : D) (h1 : My B w b1 d) (h2 : My B w b2 d) (far : ∀ x ∈ b1.l, x ∉ b2.l) : Rel B w b1 b2 d d' 0 := ⟨h1, h2, far⟩
theorem far3 {b1 b2 : Bl} (far : ∀ x ∈ b1.l, x ∉ b2.l) : (b2.g ∉ b1.l ∧ b2.bs ∉ b1.l ∧ b2.bm ∉ b1.l) ∧ (b1.g ∉ b2.l ∧ b1.bs ∉ b2.l ∧ b1.bm ∉ b2.l) :=
  ⟨⟨fun h => far _ h (by simp), fun h => far _ h (by simp), fun h => far _ h (by simp)⟩, ⟨far _ (by simp), far _ (by simp), far _ (by simp)⟩⟩
/-- the one that is next, and the way back -/
theorem Rel.next {B : Nat} {w w0 : World} {b1 b2 : Bl} {d d' : D} {j g : Nat} {o : Obj} (h : Rel B w b1 b2 d d' j) (hj : j < 2) (hi' : Inv d') (hg : w.heap[g]? = some o) (g1 : g ∉ b1.l) (g2 : g ∉ b2.l) (hb : Below B w0 w) (hB : B ≤ w.heap.size) :
    ∃ bx : Bl, (j = 0 ∧ bx = b1 ∨ j = 1 ∧ bx = b2) ∧ My B w bx d ∧ ∀ w', DAt w' bx d' → Tch bx.l w w' → Rel B w' b1 b2 d d' (j + 1) ∧ w'.heap[g]? = some o ∧ Below B w0 w' := by
  obtain ⟨h1, h2, far⟩ := h
  obtain ⟨f1, f2⟩ := far3 far
  rcases (show j = 0 ∨ j = 1 by omega) with rfl | rfl
  · refine ⟨b1, .inl ⟨rfl, rfl⟩, h1, fun w' hd ht => ⟨⟨h1.touch hd hi', ?_, far⟩, ?_, hb.trans (h1.low ht hB)⟩⟩
    · exact ⟨h2.at'.tch ht f1, h2.inv, h2.g, h2.bs, h2.bm⟩
    · rw [ht.block g (blk_lt hg) g1]; exact hg
  · refine ⟨b2, .inr ⟨rfl, rfl⟩, h2, fun w' hd ht => ⟨⟨?_, h2.touch hd hi', far⟩, ?_, hb.trans (h2.low ht hB)⟩⟩
    · exact ⟨h1.at'.tch ht f2, h1.inv, h1.g, h1.bs, h1.bm⟩
    · rw [ht.block g (blk_lt hg) g2]; exact hg
theorem op_inv {d : D} (h : Inv d) (hw : d.writes < 1000000) (a : Act) : Inv (op d a) := by
  unfold op
  split
  · exact flush_inv h hw
  · split
    · exact halt_inv h _
    · split
      · exact crash_inv h _
      · exact write_inv h hw _ _
end Dsk
end Go.Proofs.YtojbanknbgihgaaDoor
