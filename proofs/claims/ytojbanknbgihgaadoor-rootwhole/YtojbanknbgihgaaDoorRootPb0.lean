/-
  What Publish does (package root).
-/
import Derived.Test.YtojbanknbgihgaaDoorRootPub
import Derived.Laws.EntriesVeiled
namespace Go.Proofs.YtojbanknbgihgaaDoor
open Go.RowKit
namespace Rt
open B Dsk

/-- what a Publish holds while it goes -/
structure Pb (b : Bl) (d : D) (g gA gB gC : Nat) (x : R) (w0 w : World) : Prop where
  dat : DAt w b d
  sl : SAt w g b
  ka : w.heap[gA]? = some (.cells #[.pointer (some ⟨g, 0, none⟩)] 28)
  kb : w.heap[gB]? = some (.cells #[.int .u64 (x.ep : Int), .int .i64 x.half, .int .i64 x.page, .int .i64 x.next, .int .i64 x.count, .int .i64 x.height] 24)
  kc : w.heap[gC]? = some (.cells #[.int .u64 0, .int .i64 0, .int .i64 0, .int .i64 0, .int .i64 0, .int .i64 0] 24)
  ls : Lst w
theorem Pb.below {b : Bl} {d : D} {g gA gB gC : Nat} {x : R} {w0 w w' : World} (h : Pb b d g gA gB gC x w0 w) (hb : Below w.heap.size w w') : Pb b d g gA gB gC x w0 w' :=
  ⟨h.dat.below hb, h.sl.below hb, blk_below h.ka hb (blk_lt h.ka), blk_below h.kb hb (blk_lt h.kb), blk_below h.kc hb (blk_lt h.kc), h.ls.below hb h.ls.1⟩
theorem Pb.tch {b : Bl} {d d' : D} {g gA gB gC : Nat} {x : R} {w0 w w' : World} (h : Pb b d g gA gB gC x w0 w) (hd : DAt w' b d') (ht : Tch b.l w w') (n0 : 0 ∉ b.l) (n : g ∉ b.l) (nA : gA ∉ b.l) (nB : gB ∉ b.l) (nC : gC ∉ b.l) : Pb b d' g gA gB gC x w0 w' :=
  ⟨hd, (ht.block _ (blk_lt h.sl) n).trans h.sl, (ht.block _ (blk_lt h.ka) nA).trans h.ka, (ht.block _ (blk_lt h.kb) nB).trans h.kb, (ht.block _ (blk_lt h.kc) nC).trans h.kc, tch_lst h.ls ht n0⟩
theorem Pb.ep {b : Bl} {d : D} {g gA gB gC : Nat} {x : R} {w0 w : World} (h : Pb b d g gA gB gC x w0 w) (e : Nat) (i : Int) (hi : i = (e : Int)) (nB : gB ∉ b.l) (hA : gA ≠ gB) (hC : gC ≠ gB) (hg : g ≠ gB) (h0 : 0 ≠ gB) : Pb b d g gA gB gC { x with ep := e } w0 (w.setCell ⟨gB, 0, none⟩ (.int .u64 i)) := by
  subst hi
  have ht : Tch [gB] w (w.setCell ⟨gB, 0, none⟩ (.int .u64 (e : Int))) := (Tch.refl _ _).set (by simp) _
  simp only [List.mem_cons, List.not_mem_nil, or_false, not_or] at nB
  exact ⟨h.dat.tch ht ⟨by simpa using fun e => nB.1 e.symm, by simpa using fun e => nB.2.1 e.symm, by simpa using fun e => nB.2.2 e.symm⟩, blk_other h.sl hg _, blk_other h.ka hA _, blk_set (cs := [_, _, _, _, _, _]) h.kb 0 _, blk_other h.kc hC _, tch_lst h.ls ht (by simpa using h0)⟩

theorem row3 {w : World} {g : Nat} {a b c : Value} {t : TypeId} (h : w.heap[g]? = some (.cells #[a, b, c] t)) : w.cell? ⟨g, 0, none⟩ = some a ∧ w.cell? ⟨g, 1, none⟩ = some b ∧ w.cell? ⟨g, 2, none⟩ = some c ∧ w.frozen? ⟨g, 0, none⟩ = false ∧ w.frozen? ⟨g, 1, none⟩ = false ∧ w.frozen? ⟨g, 2, none⟩ = false := by
  unfold World.cell? World.frozen?; rw [h]; simp
theorem idx3 (a b c : Value) (w : World) : (Instr.index 68 (.agg #[a, b, c]) (.int .i64 0)).run Tryd.prog w = .ok a w ∧ (Instr.index 68 (.agg #[a, b, c]) (.int .i64 1)).run Tryd.prog w = .ok b w ∧ (Instr.index 68 (.agg #[a, b, c]) (.int .i64 2)).run Tryd.prog w = .ok c w := by
  refine ⟨?_, ?_, ?_⟩ <;> kernel_rfl
theorem flush_w (d : D) : (flush d).1.writes ≤ d.writes + 1 := by
  have h : (turn d).1.writes ≤ d.writes + 1 := by unfold turn; split <;> simp <;> omega
  unfold flush
  split
  · simp only; omega
  · simp only; split <;> exact h
theorem write_w (d : D) (i : Int) (s : ByteArray) : (write d i s).1.writes ≤ d.writes + 1 := by
  have h : (turn d).1.writes ≤ d.writes + 1 := by unfold turn; split <;> simp <;> omega
  unfold write
  split
  · simp only; omega
  · split
    · simp only; omega
    · split
      · simp only; omega
      · simp only; split <;> exact h
theorem fin_tch {l : List Nat} {w w1 : World} {g : Nat} {a0 a1 a2 a3 a4 a5 : Value} (h : Tch l w w1) (_hg : g ∉ l) (hs : w.heap.size ≤ g) : Tch l w ((((((w1.setCell ⟨g, 0, none⟩ a0).setCell ⟨g, 1, none⟩ a1).setCell ⟨g, 2, none⟩ a2).setCell ⟨g, 3, none⟩ a3).setCell ⟨g, 4, none⟩ a4).setCell ⟨g, 5, none⟩ a5) := by
  have h6 : Tch [g] w1 ((((((w1.setCell ⟨g, 0, none⟩ a0).setCell ⟨g, 1, none⟩ a1).setCell ⟨g, 2, none⟩ a2).setCell ⟨g, 3, none⟩ a3).setCell ⟨g, 4, none⟩ a4).setCell ⟨g, 5, none⟩ a5) := ((((((Tch.refl _ _).set (by simp) _).set (by simp) _).set (by simp) _).set (by simp) _).set (by simp) _).set (by simp) _
  exact ⟨h6.os.trans h.os, h6.tape.trans h.tape, h6.output.trans h.output, Nat.le_trans h.size h6.size, fun k hk hn => (h6.block k (Nat.lt_of_lt_of_le hk h.size) (by simp; omega)).trans (h.block k hk hn)⟩
theorem fin_dat {b : Bl} {d : D} {w1 : World} {g : Nat} {a0 a1 a2 a3 a4 a5 : Value} (h : DAt w1 b d) (hg : g ∉ b.l) : DAt ((((((w1.setCell ⟨g, 0, none⟩ a0).setCell ⟨g, 1, none⟩ a1).setCell ⟨g, 2, none⟩ a2).setCell ⟨g, 3, none⟩ a3).setCell ⟨g, 4, none⟩ a4).setCell ⟨g, 5, none⟩ a5) b d := by
  have h6 : Tch [g] w1 ((((((w1.setCell ⟨g, 0, none⟩ a0).setCell ⟨g, 1, none⟩ a1).setCell ⟨g, 2, none⟩ a2).setCell ⟨g, 3, none⟩ a3).setCell ⟨g, 4, none⟩ a4).setCell ⟨g, 5, none⟩ a5) := ((((((Tch.refl _ _).set (by simp) _).set (by simp) _).set (by simp) _).set (by simp) _).set (by simp) _).set (by simp) _
  simp only [List.mem_cons, List.not_mem_nil, or_false, not_or] at hg
  exact h.tch h6 ⟨by simpa using fun e => hg.1 e.symm, by simpa using fun e => hg.2.1 e.symm, by simpa using fun e => hg.2.2 e.symm⟩
/-- what becomes of a disk: flushed, written, flushed -/
def pub (d : D) (dst : Int) (t : ByteArray) : D × Int := if (flush d).2 = 0 then (if (write (flush d).1 dst t).2 = 0 then flush (write (flush d).1 dst t).1 else write (flush d).1 dst t) else flush d

set_option maxRecDepth 100000 in
set_option maxHeartbeats 4000000 in
theorem publish_bad (g : Nat) (r : R) (w : World) (hL : Lst w) (hm : ¬ may r) :
    Calls Tryd.prog 9 #[.pointer (some ⟨g, 0, none⟩), rv r] w fun e w' => e = .returned (.tuple #[rv R0, .int .i64 1]) ∧ Below w.heap.size w w' := by
  obtain ⟨ep, half, page, next, count, height⟩ := r
  have b1 := ((Below.refl w.heap.size w).alloc (Nat.le_refl _) (.cells #[.pointer (some ⟨g, 0, none⟩)] 28)).alloc (by simp) (.cells #[.int .u64 (ep : Int), .int .i64 half, .int .i64 page, .int .i64 next, .int .i64 count, .int .i64 height] 24) |>.alloc (by simp; omega) (.cells #[.int .u64 0, .int .i64 0, .int .i64 0, .int .i64 0, .int .i64 0, .int .i64 0] 24)
  have cm := mayBe_any ⟨ep, half, page, next, count, height⟩ _ (hL.below b1 hL.1)
  rw [decide_eq_false hm] at cm
  dsimp only [rv] at cm
  have CM := Lib.hid cm
  have KC := Lib.hid (heap_last ((w.alloc (.cells #[.pointer (some ⟨g, 0, none⟩)] 28)).alloc (.cells #[.int .u64 (ep : Int), .int .i64 half, .int .i64 page, .int .i64 next, .int .i64 count, .int .i64 height] 24)) (.cells #[.int .u64 0, .int .i64 0, .int .i64 0, .int .i64 0, .int .i64 0, .int .i64 0] 24) (w.heap.size + 1 + 1) (by simp))
  have B1 := Lib.hid b1
  clear cm b1 hL hm
  go_enter Tryd.func9, Tryd.ntmps9
  go_wp2_with (go_at_call 22; ((with_reducible refine CM.out.mono ?_); rintro e w1 ⟨rfl, hb1⟩; have B2 := Lib.hid (B1.out.trans (hb1.mono B1.out.size)); obtain ⟨z0, z1, z2, z3, z4, z5, y0, y1, y2, y3, y4, y5⟩ := row6 (blk_below KC.out hb1 (by simp)); clear hb1))
  (try simp only [Exit.inBlock, Exit.then])
  refine bodyPost_ret (results_cells_tmp rfl _ _ (w.heap.size + 1 + 1) [.int .u64 0, .int .i64 0, .int .i64 0, .int .i64 0, .int .i64 0, .int .i64 0] _ rfl ?_ Tryd.underlying24 rinfo) rfl ?_
  · refine six ?_ ?_ ?_ ?_ ?_ ?_ <;> go_simp
  · refine ⟨rfl, ?_⟩
    repeat (refine Below.setCell ?_ (by simp; omega) _)
    exact B2.out
end Rt
end Go.Proofs.YtojbanknbgihgaaDoor
