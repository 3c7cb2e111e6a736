/-
  'few' of layer 6's statements: a root that may be.
-/
import Derived.Test.YtojbanknbgihgaaDoorRootRd
import Derived.StillTailTactics
namespace Go.Proofs.YtojbanknbgihgaaDoor
open Go.RowKit
namespace Rt
open B Dsk
def cl (n : Int) : Int := max 0 (min n 2147483647)
theorem cl_0 (n : Int) : 0 ≤ cl n := by unfold cl; omega
theorem cl_1 (n : Int) : cl n ≤ 2147483647 := by unfold cl; omega
theorem and1 (k : Int) : bits .and .i64 k 1 = ((k % 2).toNat : Int) := by
  show IntKind.i64.wrap ((BitVec.ofInt 64 k &&& BitVec.ofInt 64 1).toNat : Int) = _
  have h : (BitVec.ofInt 64 k &&& BitVec.ofInt 64 1).toNat = (k % 2).toNat := by
    rw [BitVec.toNat_and, show (BitVec.ofInt 64 1).toNat = 1 from rfl]
    rw [show (BitVec.ofInt 64 k).toNat &&& 1 = (BitVec.ofInt 64 k).toNat % 2 from Nat.and_two_pow_sub_one_eq_mod _ 1, BitVec.toNat_ofInt]
    omega
  rw [h]
  exact IntWalk.i64_in _ (by omega)
def fewR (r : R) : R := ⟨r.ep, ((r.half % 2).toNat : Int), cl r.page - 1, cl r.next, cl r.count, cl r.height⟩
theorem few_may (r : R) : may (fewR r) := by
  have := cl_0 r.page; have := cl_1 r.page; have := cl_0 r.next; have := cl_1 r.next; have := cl_0 r.count; have := cl_1 r.count; have := cl_0 r.height; have := cl_1 r.height
  refine ⟨?_, ⟨?_, ?_⟩, ⟨?_, ?_⟩, ⟨?_, ?_⟩, ?_, ?_⟩
  · show ((r.half % 2).toNat : Int) = 0 ∨ ((r.half % 2).toNat : Int) = 1; omega
  · show -1 ≤ cl r.page - 1; omega
  · show cl r.page - 1 ≤ _; omega
  all_goals assumption
set_option maxHeartbeats 1000000 in
theorem cl_any (n : Int) (w : World) : Calls Tryd.prog 28 #[.int .i64 n] w fun e w' => e = .returned (.int .i64 (cl n)) ∧ w = w' := by
  have HC : Hid (cl n = max 0 (min n 2147483647)) := rfl
  go_enter Tryd.func28, Tryd.ntmps28
  go_wp2
  go_ret
  exact ⟨B.ret_int HC.out.symm, rfl⟩
set_option maxRecDepth 100000 in
set_option maxHeartbeats 4000000 in
theorem few_any (r : R) (w : World) : Calls Tryd.prog 13 #[rv r] w fun e w' => e = .returned (rv (fewR r)) ∧ Below w.heap.size w w' := by
  obtain ⟨ep, half, page, next, count, height⟩ := r
  unfold fewR
  simp only
  have C1 := Lib.hid (fun W => cl_any page W)
  have C2 := Lib.hid (fun W => cl_any next W)
  have C3 := Lib.hid (fun W => cl_any count W)
  have C4 := Lib.hid (fun W => cl_any height W)
  have ha := and1 half
  have p0 := cl_0 page
  have p1 := cl_1 page
  generalize cl page = cp at *
  generalize cl next = cn at *
  generalize cl count = cc at *
  generalize cl height = ch at *
  generalize ((half % 2).toNat : Int) = hf at *
  have b0 := (Below.refl w.heap.size w).alloc (Nat.le_refl _) (.cells #[.int .u64 (ep : Int), .int .i64 half, .int .i64 page, .int .i64 next, .int .i64 count, .int .i64 height] 24)
  have b1 := b0.alloc (by simp) (.cells #[.int .u64 0, .int .i64 0, .int .i64 0, .int .i64 0, .int .i64 0, .int .i64 0] 24)
  have K0 := Lib.hid (hp_old (.cells #[.int .u64 0, .int .i64 0, .int .i64 0, .int .i64 0, .int .i64 0, .int .i64 0] 24) (heap_last w (.cells #[.int .u64 (ep : Int), .int .i64 half, .int .i64 page, .int .i64 next, .int .i64 count, .int .i64 height] 24) w.heap.size rfl))
  have K1 := Lib.hid (heap_last (w.alloc (.cells #[.int .u64 (ep : Int), .int .i64 half, .int .i64 page, .int .i64 next, .int .i64 count, .int .i64 height] 24)) (.cells #[.int .u64 0, .int .i64 0, .int .i64 0, .int .i64 0, .int .i64 0, .int .i64 0] 24) (w.heap.size + 1) (by simp))
  have B1 := Lib.hid b1
  clear b0 b1
  go_enter Tryd.func13, Tryd.ntmps13
  go_upto_region 2 with fail
  generalize (w.alloc (.cells #[.int .u64 (ep : Int), .int .i64 half, .int .i64 page, .int .i64 next, .int .i64 count, .int .i64 height] 24)).alloc (.cells #[.int .u64 0, .int .i64 0, .int .i64 0, .int .i64 0, .int .i64 0, .int .i64 0] 24) = W at *
  obtain ⟨c0, c1, c2, c3, c4, c5, _⟩ := row6 K0.out
  obtain ⟨d0, d1, d2, d3, d4, d5, f0, f1, f2, f3, f4, f5⟩ := row6 K1.out
  refine wp_region_still_tail 23 (by kernel_rfl) (by kernel_rfl) ?_
  change wpStill Tryd.prog _ W.drew (fun a' => wpList Tryd.prog _ _ _ a' W.drew) _ _
  simp only [List.take_succ_cons, List.take_zero, List.drop_succ_cons, List.drop_zero]
  repeat still_step
  still_call ((C1.out _).mono fun e w' ⟨h1, h2⟩ => ⟨h1, h2.symm⟩)
  repeat still_step
  still_call ((C2.out _).mono fun e w' ⟨h1, h2⟩ => ⟨h1, h2.symm⟩)
  repeat still_step
  still_call ((C3.out _).mono fun e w' ⟨h1, h2⟩ => ⟨h1, h2.symm⟩)
  repeat still_step
  still_call ((C4.out _).mono fun e w' ⟨h1, h2⟩ => ⟨h1, h2.symm⟩)
  repeat still_step
  refine wpStill_nil ?_
  have BQ : Hid (Below w.heap.size w W.drew) := ⟨B1.out.os, B1.out.tape, B1.out.output, B1.out.size, B1.out.block⟩
  have K1' : Hid (W.drew.heap[w.heap.size + 1]? = _) := K1.out
  clear c0 c1 c2 c3 c4 c5 d0 d1 d2 d3 d4 d5 f0 f1 f2 f3 f4 f5 K0 K1 B1
  generalize W.drew = wq at *
  obtain ⟨d0, d1, d2, d3, d4, d5, f0, f1, f2, f3, f4, f5⟩ := row6 K1'.out
  go_wp2
  (try simp only [Exit.inBlock, Exit.then])
  refine bodyPost_ret (results_cells rfl _ _ (w.heap.size + 1) [.int .u64 (ep : Int), .int .i64 hf, .int .i64 (cp - 1), .int .i64 cn, .int .i64 cc, .int .i64 ch] _ rfl ?_ Tryd.underlying24 rinfo) rfl ?_
  · refine six ?_ ?_ ?_ ?_ ?_ ?_ <;> go_simp
  · refine ⟨rfl, ?_⟩
    repeat (refine Below.setCell ?_ (by show w.heap.size ≤ w.heap.size + 1; omega) _)
    exact BQ.out
end Rt
end Go.Proofs.YtojbanknbgihgaaDoor
