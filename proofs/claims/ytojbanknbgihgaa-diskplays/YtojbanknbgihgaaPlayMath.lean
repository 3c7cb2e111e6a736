/-
  The program's disk and the document's own, side by side.
-/
import Derived.Test.YtojbanknbgihgaaDiskIs
import Derived.Test.YtojbanknbgihgaaTwinLaw
import Derived.Laws.Tables
namespace Go.Proofs.Ytojbanknbgihgaa
open Go.RowKit
namespace Dsk
open B

theorem at_tch {α : Type} {V : α → Value} {w w' : World} {A : Option Addr} {xs : List α} {l : List Nat} (h : At V w A xs) (ht : Tch l w w') (hn : 0 < xs.length → ∀ a, A = some a → a.block ∉ l) : At V w' A xs := fun hp => by
  obtain ⟨b, off, e, hl, hc⟩ := h hp
  refine ⟨b, off, e, Nat.lt_of_lt_of_le hl ht.size, fun i hi => ?_⟩
  rw [World.cell?_of_block (w := w) (by exact ht.block b hl (hn hp _ e))]
  exact hc i hi
theorem Is.tch {p : Nat → Prop} {w w' : World} {v : Value} {d : D} {l : List Nat} (h : Is p w v d) (ht : Tch l w w') (hn : ∀ n, p n → n ∉ l) : Is p w' v d := by
  obtain ⟨A1, c1, A2, c2, A3, c3, e, h1, h2, h3, n1, n2, n3, p1, p2, p3⟩ := h
  exact ⟨A1, c1, A2, c2, A3, c3, e, at_tch h1 ht (fun hp a ha => hn _ (p1 hp a ha)), at_tch h2 ht (fun hp a ha => hn _ (p2 hp a ha)), at_tch h3 ht (fun hp a ha => hn _ (p3 hp a ha)), n1, n2, n3, p1, p2, p3⟩
theorem tch_row (w : World) (g : Nat) (cs : Array Value) : Tch [g] w (w.setRow g cs) := ⟨rfl, rfl, rfl, by simp, fun k _ hn => setRow_other _ _ _ _ (by simpa using hn)⟩
theorem Tch.both {l l' : List Nat} {a b c : World} (h : Tch l a b) (k : Tch l' b c) : Tch (l ++ l') a c := (h.mono (by intro x hx; simp [hx])).trans (k.mono (by intro x hx; simp [hx]))

/-- apart from the disk's blocks and from the block of the document's disk -/
def Apart (b : Bl) (g : Nat) (n : Nat) : Prop := n ∉ b.l ∧ n ≠ g
/-- block g is the document's disk -/
def XAt (b : Bl) (w : World) (g : Nat) (d : D) : Prop := ∃ cs, w.heap[g]? = some (.cells cs 29) ∧ Is (Apart b g) w (.agg cs) d
theorem Is.shape {p : Nat → Prop} {w : World} {v : Value} {d : D} (h : Is p w v d) : ∃ cs : Array Value, v = .agg cs ∧ cs.size = 6 ∧ cs.all (·.oneCell') = true := by
  obtain ⟨A1, c1, A2, c2, A3, c3, e, _⟩ := h
  exact ⟨_, e, rfl, by simp [Value.oneCell']⟩
theorem XAt.tch {b : Bl} {w w' : World} {g : Nat} {d : D} {l : List Nat} (h : XAt b w g d) (ht : Tch l w w') (hg : g ∉ l) (hl : ∀ n, n ∈ l → n ∈ b.l ∨ w.heap.size ≤ n) : XAt b w' g d := by
  obtain ⟨cs, h1, h2⟩ := h
  refine ⟨cs, (ht.block g (blk_lt h1) hg).trans h1, ?_⟩
  have ht2 : Tch b.l w w' := ⟨ht.os, ht.tape, ht.output, ht.size, fun k hk hn => ht.block k hk (fun hx => by
    rcases hl k hx with h | h
    · exact hn h
    · omega)⟩
  exact h2.tch ht2 (fun n hn => hn.1)
theorem XAt.below {b : Bl} {w w' : World} {g : Nat} {d : D} (h : XAt b w g d) (hb : Below w.heap.size w w') : XAt b w' g d := by
  obtain ⟨cs, h1, h2⟩ := h
  exact ⟨cs, blk_below h1 hb (blk_lt h1), h2.below hb⟩

/-- both disks, and where they lie -/
structure Ply (B : Nat) (w : World) (b : Bl) (g : Nat) (d : D) : Prop where
  my : My B w b d
  x : XAt b w g d
  gl : g ∉ b.l
  ge : B ≤ g
  h0 : -9223372036854775808 ≤ d.halt
  h1 : d.halt ≤ 9223372036854775807
theorem Ply.ok {B : Nat} {w : World} {b : Bl} {g : Nat} {d : D} (h : Ply B w b g d) : Ok d := by
  have hi := h.my.inv
  have := loose_len hi.rise hi.inr
  have := hi.big
  have := hi.len
  exact ⟨hi.w0, by have := hi.w1; omega, h.h0, h.h1, by omega, by omega, by omega⟩
theorem Ply.far {B : Nat} {w w' : World} {b : Bl} {g : Nat} {d : D} (h : Ply B w b g d) (hs : w.heap.size ≤ w'.heap.size) : ∀ n, w'.heap.size ≤ n → Apart b g n := by
  intro n hn
  obtain ⟨l1, l2, l3⟩ := h.my.at'.lts
  obtain ⟨cs, h1, _⟩ := h.x
  have := blk_lt h1
  refine ⟨?_, by omega⟩
  simp only [List.mem_cons, List.not_mem_nil, or_false]; omega
theorem Ply.below {B : Nat} {w w' : World} {b : Bl} {g : Nat} {d : D} (h : Ply B w b g d) (hb : Below w.heap.size w w') : Ply B w' b g d := ⟨h.my.below hb, h.x.below hb, h.gl, h.ge, h.h0, h.h1⟩
/-- the disk has turned, then the document's own (its new value is laid into its block) -/
theorem Ply.step {B : Nat} {w0 w w1 w2 : World} {b : Bl} {g : Nat} {d d' : D} {cs : Array Value} (h : Ply B w b g d) (h0 : Below B w0 w) (hB : B ≤ w.heap.size) (hd : DAt w1 b d') (hi : Inv d') (ht : Tch b.l w w1) (hb : Below w1.heap.size w1 w2) (hx : Is (Apart b g) w2 (.agg cs) d')
    (l0 : -9223372036854775808 ≤ d'.halt) (l1 : d'.halt ≤ 9223372036854775807) :
    Ply B (w2.setRow g cs) b g d' ∧ Is (Apart b g) (w2.setRow g cs) (.agg cs) d' ∧ Below B w0 (w2.setRow g cs) := by
  obtain ⟨cs0, x1, x2⟩ := h.x
  have k1 : w1.heap[g]? = some (.cells cs0 29) := (ht.block g (blk_lt x1) h.gl).trans x1
  have k2 : w2.heap[g]? = some (.cells cs0 29) := blk_below k1 hb (blk_lt k1)
  have hl := h.my.low ht hB
  have n := h.gl
  simp only [List.mem_cons, List.not_mem_nil, or_false, not_or] at n
  have hd2 : DAt (w2.setRow g cs) b d' := (hd.below hb).kept (setRow_other _ _ _ _ (fun e => n.1 e.symm)) (setRow_other _ _ _ _ (fun e => n.2.1 e.symm)) (setRow_other _ _ _ _ (fun e => n.2.2 e.symm))
  have hx2 : Is (Apart b g) (w2.setRow g cs) (.agg cs) d' := hx.tch (tch_row w2 g cs) (fun n hn => by simpa using hn.2)
  exact ⟨⟨h.my.touch hd2 hi, ⟨cs, setRow_heap _ _ _ _ _ _ k2, hx2⟩, h.gl, h.ge, l0, l1⟩, hx2, below_setRow ((h0.trans hl).trans (hb.mono (Nat.le_trans hB hl.size))) h.ge _⟩
theorem Ply.is {B : Nat} {w : World} {b : Bl} {g : Nat} {d : D} (h : Ply B w b g d) {cs : Array Value} (hx : Is (Apart b g) w (.agg cs) d) (i : Int) :
    Calls Try.prog 18 #[.pointer (some ⟨b.g, 0, none⟩), .agg cs, .int .i64 i] w fun e w' => e = .returned (.bool true) ∧ Below w.heap.size w w' := is_any b d _ i w h.my.at' h.my.inv hx
theorem xinfo : (Try.prog.info? 29).map (·.size) = some 6 := by kernel_rfl
theorem turn_halts (d : D) (h0 : -9223372036854775808 ≤ d.halt) (h1 : d.halt ≤ 9223372036854775807) : -9223372036854775808 ≤ (turn d).1.halt ∧ (turn d).1.halt ≤ 9223372036854775807 := by
  unfold turn
  split
  · exact ⟨h0, h1⟩
  · show -9223372036854775808 ≤ (if 0 < d.halt then d.halt - 1 else d.halt) ∧ (if 0 < d.halt then d.halt - 1 else d.halt) ≤ 9223372036854775807
    split <;> omega
theorem write_halts (d : D) (i : Int) (s : ByteArray) (h0 : -9223372036854775808 ≤ d.halt) (h1 : d.halt ≤ 9223372036854775807) : -9223372036854775808 ≤ (write d i s).1.halt ∧ (write d i s).1.halt ≤ 9223372036854775807 := by
  have := turn_halts d h0 h1
  unfold write
  split
  · exact ⟨h0, h1⟩
  · split
    · exact ⟨h0, h1⟩
    · split
      · exact ⟨h0, h1⟩
      · simp only; split <;> exact this
theorem flush_halts (d : D) (h0 : -9223372036854775808 ≤ d.halt) (h1 : d.halt ≤ 9223372036854775807) : -9223372036854775808 ≤ (flush d).1.halt ∧ (flush d).1.halt ≤ 9223372036854775807 := by
  have := turn_halts d h0 h1
  unfold flush
  split
  · exact ⟨h0, h1⟩
  · simp only; split <;> exact this
/-- the document's disk is given another number of writes -/
theorem Ply.haltd {B : Nat} {w0 w w1 : World} {b : Bl} {g : Nat} {d : D} {n : Int} {A1 A2 A3 : Option Addr} {c1 c2 c3 : Nat} (h : Ply B w b g d) (h0 : Below B w0 w) (hB : B ≤ w.heap.size) (hd : DAt w1 b (halt d n)) (ht : Tch b.l w w1)
    (hk : w1.heap[g]? = some (.cells #[.slice A1 d.now.length c1, .slice A2 d.sure.length c2, .slice A3 d.loose.length c3, .int .i64 d.writes, .int .i64 d.halt, .bool d.down] 29))
    (hx : Is (Apart b g) w1 (.agg #[.slice A1 d.now.length c1, .slice A2 d.sure.length c2, .slice A3 d.loose.length c3, .int .i64 d.writes, .int .i64 d.halt, .bool d.down]) d) (l0 : -9223372036854775808 ≤ n) (l1 : n ≤ 9223372036854775807) :
    Ply B (w1.setCell ⟨g, 4, none⟩ (.int .i64 n)) b g (halt d n) ∧ Is (Apart b g) (w1.setCell ⟨g, 4, none⟩ (.int .i64 n)) (.agg #[.slice A1 d.now.length c1, .slice A2 d.sure.length c2, .slice A3 d.loose.length c3, .int .i64 d.writes, .int .i64 n, .bool d.down]) (halt d n) ∧ Below B w0 (w1.setCell ⟨g, 4, none⟩ (.int .i64 n)) ∧
      (w1.setCell ⟨g, 4, none⟩ (.int .i64 n)).heap[g]? = some (.cells #[.slice A1 d.now.length c1, .slice A2 d.sure.length c2, .slice A3 d.loose.length c3, .int .i64 d.writes, .int .i64 n, .bool d.down] 29) := by
  have ht2 : Tch [g] w1 (w1.setCell ⟨g, 4, none⟩ (.int .i64 n)) := (Tch.refl _ _).set (by simp) _
  have hk2 : (w1.setCell ⟨g, 4, none⟩ (.int .i64 n)).heap[g]? = some (.cells #[.slice A1 d.now.length c1, .slice A2 d.sure.length c2, .slice A3 d.loose.length c3, .int .i64 d.writes, .int .i64 n, .bool d.down] 29) := blk_set (cs := [_, _, _, _, _, _]) hk 4 (.int .i64 n)
  have hm : My B w1 b (halt d n) := h.my.touch hd (halt_inv h.my.inv n)
  have n' := h.gl
  simp only [List.mem_cons, List.not_mem_nil, or_false, not_or] at n'
  have hd2 : DAt (w1.setCell ⟨g, 4, none⟩ (.int .i64 n)) b (halt d n) := hd.tch ht2 ⟨by simpa using fun e => n'.1 e.symm, by simpa using fun e => n'.2.1 e.symm, by simpa using fun e => n'.2.2 e.symm⟩
  obtain ⟨B1, e1, B2, e2, B3, e3, hv, r1, r2, r3, m1, m2, m3, p1, p2, p3⟩ := hx.tch ht2 (fun n hn => by simpa using hn.2)
  injection hv with hv
  injection hv with hv
  injection hv with hv1 hv
  injection hv with hv2 hv
  injection hv with hv3 hv
  injection hv1 with a1 _ b1
  injection hv2 with a2 _ b2
  injection hv3 with a3 _ b3
  subst a1 a2 a3 b1 b2 b3
  have hx2 : Is (Apart b g) (w1.setCell ⟨g, 4, none⟩ (.int .i64 n)) (.agg #[.slice A1 d.now.length c1, .slice A2 d.sure.length c2, .slice A3 d.loose.length c3, .int .i64 d.writes, .int .i64 n, .bool d.down]) (halt d n) := ⟨A1, c1, A2, c2, A3, c3, rfl, r1, r2, r3, m1, m2, m3, p1, p2, p3⟩
  exact ⟨⟨h.my.touch hd2 (halt_inv h.my.inv n), ⟨_, hk2, hx2⟩, h.gl, h.ge, l0, l1⟩, hx2, (h0.trans (h.my.low ht hB)).setCell (p := ⟨g, 4, none⟩) h.ge _, hk2⟩
end Dsk
end Go.Proofs.Ytojbanknbgihgaa
