/-
  What numbers and mayBe do (package root).
-/
import Derived.Test.YtojbanknbgihgaaDoorRootNum
namespace Go.Proofs.YtojbanknbgihgaaDoor
open Go.RowKit
namespace Rt
open B Dsk

theorem results_blk {fn : Func} {p : Tmp} {ty : TypeId} (h : fn.results = #[.cell p ty]) (tmps : Array Value) (w : World) (g : Nat) (cs : Array Value)
    (hp : tmps.getD p undef = .pointer (some ⟨g, 0, none⟩)) (hl : (loadVar ty ⟨g, 0, none⟩).run Tryd.prog w = .ok (.agg cs) w) : (results fn tmps).run Tryd.prog w = .ok (.agg cs) w := by
  have hp' : tmps[p]?.getD undef = .pointer (some ⟨g, 0, none⟩) := by simpa using hp
  simp [results, h, hp', asAddr, hl]
theorem results_blk_tmp {fn : Func} {p u : Tmp} {ty : TypeId} (h : fn.results = #[.cell p ty, .tmp u]) (tmps : Array Value) (w : World) (g : Nat) (cs : Array Value)
    (hp : tmps.getD p undef = .pointer (some ⟨g, 0, none⟩)) (hl : (loadVar ty ⟨g, 0, none⟩).run Tryd.prog w = .ok (.agg cs) w) : (results fn tmps).run Tryd.prog w = .ok (.tuple #[.agg cs, tmps.getD u undef]) w := by
  rw [results_cell_tmp h, hp]
  simp [asAddr, hl]
theorem ld_root {w : World} {g : Nat} {cs : Array Value} (hg : w.heap[g]? = some (.cells cs 24)) (h6 : cs.size = 6) : (loadVar 24 ⟨g, 0, none⟩).run Tryd.prog w = .ok (.agg cs) w :=
  run_loadVar_row w g 24 24 cs (0, 0) _ hg Tryd.underlying24 rfl (by rw [h6]; kernel_rfl)
theorem ld_4int {w : World} {g : Nat} {cs : Array Value} (hg : w.heap[g]? = some (.cells cs 81)) (h6 : cs.size = 4) : (loadVar 81 ⟨g, 0, none⟩).run Tryd.prog w = .ok (.agg cs) w :=
  run_loadVar_row w g 81 81 cs (0, 0) _ hg Tryd.underlying81 rfl (by rw [h6]; kernel_rfl)
theorem ld_2str {w : World} {g : Nat} {cs : Array Value} (hg : w.heap[g]? = some (.cells cs 59)) (h6 : cs.size = 2) : (loadVar 59 ⟨g, 0, none⟩).run Tryd.prog w = .ok (.agg cs) w :=
  run_loadVar_row w g 59 59 cs (0, 0) _ hg Tryd.underlying59 rfl (by rw [h6]; kernel_rfl)

/-- a root's value -/
abbrev rv (r : R) : Value := .agg #[.int .u64 (r.ep : Int), .int .i64 r.half, .int .i64 r.page, .int .i64 r.next, .int .i64 r.count, .int .i64 r.height]
theorem rinfo : (Tryd.prog.info? 24).map (·.size) = some 6 := by kernel_rfl
theorem ainfo : (Tryd.prog.info? 81).map (·.size) = some 4 := by kernel_rfl

theorem idx4 (a b c d : Value) (w : World) : (Instr.index 81 (.agg #[a, b, c, d]) (.int .i64 0)).run Tryd.prog w = .ok a w ∧ (Instr.index 81 (.agg #[a, b, c, d]) (.int .i64 1)).run Tryd.prog w = .ok b w ∧
    (Instr.index 81 (.agg #[a, b, c, d]) (.int .i64 2)).run Tryd.prog w = .ok c w ∧ (Instr.index 81 (.agg #[a, b, c, d]) (.int .i64 3)).run Tryd.prog w = .ok d w := by
  refine ⟨?_, ?_, ?_, ?_⟩ <;> kernel_rfl
theorem idx2 (a b : Value) (w : World) : (Instr.index 59 (.agg #[a, b]) (.int .i64 0)).run Tryd.prog w = .ok a w ∧ (Instr.index 59 (.agg #[a, b]) (.int .i64 1)).run Tryd.prog w = .ok b w := by
  refine ⟨?_, ?_⟩ <;> kernel_rfl
/-- the package's own variable -/
def Lst (w : World) : Prop := 0 < w.heap.size ∧ w.cell? ⟨0, 0, none⟩ = some (.int .i64 (-1)) ∧ w.cell? ⟨0, 1, none⟩ = some (.int .i64 0) ∧ w.cell? ⟨0, 2, none⟩ = some (.int .i64 0) ∧ w.cell? ⟨0, 3, none⟩ = some (.int .i64 0)
theorem Lst.below {w w' : World} {Bd : Nat} (h : Lst w) (hb : Below Bd w w') (hB : 0 < Bd) : Lst w' := by
  obtain ⟨h0, h1, h2, h3, h4⟩ := h
  exact ⟨Nat.lt_of_lt_of_le h0 hb.size, (hb.cell (p := ⟨0, 0, none⟩) hB).trans h1, (hb.cell (p := ⟨0, 1, none⟩) hB).trans h2, (hb.cell (p := ⟨0, 2, none⟩) hB).trans h3, (hb.cell (p := ⟨0, 3, none⟩) hB).trans h4⟩

set_option maxRecDepth 100000 in
set_option maxHeartbeats 1000000 in
theorem numbers_any (r : R) (w : World) :
    Calls Tryd.prog 34 #[rv r] w fun e w' => e = .returned (.agg #[.int .i64 r.page, .int .i64 r.next, .int .i64 r.count, .int .i64 r.height]) ∧ Below w.heap.size w w' := by
  go_enter Tryd.func34, Tryd.ntmps34
  go_wp2
  ((try simp only [Exit.inBlock, Exit.then]); refine bodyPost_ret (results_blk rfl _ _ (w.heap.size + 1) _ rfl (ld_4int (heap_last _ _ _ (by simp)) rfl)) rfl ?_)
  exact ⟨rfl, ((Below.refl _ _).alloc (Nat.le_refl _) _).alloc (by simp) _⟩

set_option maxRecDepth 100000 in
set_option maxHeartbeats 2000000 in
theorem mayBe_any (r : R) (w : World) (hL : Lst w) :
    Calls Tryd.prog 22 #[rv r] w fun e w' => e = .returned (.bool (decide (may r))) ∧ Below w.heap.size w w' := by
  have CN := Lib.hid (fun W => numbers_any r W)
  have bA := fun o : Obj => (Below.refl w.heap.size w).alloc (Nat.le_refl _) o
  have HL := Lib.hid hL
  clear hL
  go_enter Tryd.func22, Tryd.ntmps22
  go_wp2_with (go_at_call 34; ((with_reducible refine (CN.out _).mono ?_); rintro e w1 ⟨rfl, hb1⟩; have B1 := Lib.hid ((bA _).trans (hb1.mono (by simp))); have K1 := Lib.hid (blk_below (heap_last w _ w.heap.size rfl) hb1 (by simp)); clear hb1))
  obtain ⟨_, l0, l1, l2, l3⟩ := HL.out.below B1.out HL.out.1
  obtain ⟨k0, k1, k2, k3, k4, k5, _⟩ := row6 K1.out
  have HB : Hid (Below w.heap.size w w1) := B1.out
  obtain ⟨x0, x1, x2, x3⟩ := idx4 (.int .i64 r.page) (.int .i64 r.next) (.int .i64 r.count) (.int .i64 r.height) w1
  clear B1 CN bA K1
  go_loopw [7] (fun t wr => ∃ k : Nat, k ≤ 4 ∧ t = .int .i64 (k : Int) ∧ wr = w1 ∧ (0 < k → -1 ≤ r.page ∧ r.page ≤ 2147483647) ∧ (1 < k → 0 ≤ r.next ∧ r.next ≤ 2147483647) ∧ (2 < k → 0 ≤ r.count ∧ r.count ≤ 2147483647) ∧ (3 < k → 0 ≤ r.height ∧ r.height ≤ 2147483647)) (fun t _ => 4 - (intOf t).toNat)
  case atStart => exact ⟨0, Nat.zero_le _, rfl, rfl, fun h => absurd h (by omega), fun h => absurd h (by omega), fun h => absurd h (by omega), fun h => absurd h (by omega)⟩
  case round =>
    obtain ⟨k, hk, rfl, rfl, m0, m1, m2, m3⟩ := hrel
    have M0 := Lib.hid m0
    have M1 := Lib.hid m1
    have M2 := Lib.hid m2
    have M3 := Lib.hid m3
    clear m0 m1 m2 m3
    rcases (show k = 0 ∨ k = 1 ∨ k = 2 ∨ k = 3 ∨ k = 4 by omega) with rfl | rfl | rfl | rfl | rfl
    · by_cases q1 : -1 ≤ r.page
      · have q3 : ¬ r.page < -1 := by omega
        by_cases q2 : r.page ≤ 2147483647
        · have q4 : ¬ 2147483647 < r.page := by omega
          go_wp2
          go_roundw
          case rel => exact ⟨1, by omega, rfl, by first | rfl | trivial, (fun _ => ⟨q1, q2⟩), (fun h => absurd h (by omega)), (fun h => absurd h (by omega)), (fun h => absurd h (by omega))⟩
          case measure => simp [intOf]
        · have q4 : 2147483647 < r.page := by omega
          have HM : Hid (decide (may r) = false) := by
            rw [Hid, decide_eq_false_iff_not]; intro h; unfold may at h; omega
          go_wp2
          go_ret
          exact ⟨B.ret_bool HM.out.symm, HB.out⟩
      · have q3 : r.page < -1 := by omega
        have HM : Hid (decide (may r) = false) := by
          rw [Hid, decide_eq_false_iff_not]; intro h; unfold may at h; omega
        go_wp2
        go_ret
        exact ⟨B.ret_bool HM.out.symm, HB.out⟩
    · by_cases q1 : 0 ≤ r.next
      · have q3 : ¬ r.next < 0 := by omega
        by_cases q2 : r.next ≤ 2147483647
        · have q4 : ¬ 2147483647 < r.next := by omega
          go_wp2
          go_roundw
          case rel => exact ⟨2, by omega, rfl, by first | rfl | trivial, (fun _ => M0.out (by omega)), (fun _ => ⟨q1, q2⟩), (fun h => absurd h (by omega)), (fun h => absurd h (by omega))⟩
          case measure => simp [intOf]
        · have q4 : 2147483647 < r.next := by omega
          have HM : Hid (decide (may r) = false) := by
            rw [Hid, decide_eq_false_iff_not]; intro h; unfold may at h; omega
          go_wp2
          go_ret
          exact ⟨B.ret_bool HM.out.symm, HB.out⟩
      · have q3 : r.next < 0 := by omega
        have HM : Hid (decide (may r) = false) := by
          rw [Hid, decide_eq_false_iff_not]; intro h; unfold may at h; omega
        go_wp2
        go_ret
        exact ⟨B.ret_bool HM.out.symm, HB.out⟩
    · by_cases q1 : 0 ≤ r.count
      · have q3 : ¬ r.count < 0 := by omega
        by_cases q2 : r.count ≤ 2147483647
        · have q4 : ¬ 2147483647 < r.count := by omega
          go_wp2
          go_roundw
          case rel => exact ⟨3, by omega, rfl, by first | rfl | trivial, (fun _ => M0.out (by omega)), (fun _ => M1.out (by omega)), (fun _ => ⟨q1, q2⟩), (fun h => absurd h (by omega))⟩
          case measure => simp [intOf]
        · have q4 : 2147483647 < r.count := by omega
          have HM : Hid (decide (may r) = false) := by
            rw [Hid, decide_eq_false_iff_not]; intro h; unfold may at h; omega
          go_wp2
          go_ret
          exact ⟨B.ret_bool HM.out.symm, HB.out⟩
      · have q3 : r.count < 0 := by omega
        have HM : Hid (decide (may r) = false) := by
          rw [Hid, decide_eq_false_iff_not]; intro h; unfold may at h; omega
        go_wp2
        go_ret
        exact ⟨B.ret_bool HM.out.symm, HB.out⟩
    · by_cases q1 : 0 ≤ r.height
      · have q3 : ¬ r.height < 0 := by omega
        by_cases q2 : r.height ≤ 2147483647
        · have q4 : ¬ 2147483647 < r.height := by omega
          go_wp2
          go_roundw
          case rel => exact ⟨4, by omega, rfl, by first | rfl | trivial, (fun _ => M0.out (by omega)), (fun _ => M1.out (by omega)), (fun _ => M2.out (by omega)), (fun _ => ⟨q1, q2⟩)⟩
          case measure => simp [intOf]
        · have q4 : 2147483647 < r.height := by omega
          have HM : Hid (decide (may r) = false) := by
            rw [Hid, decide_eq_false_iff_not]; intro h; unfold may at h; omega
          go_wp2
          go_ret
          exact ⟨B.ret_bool HM.out.symm, HB.out⟩
      · have q3 : r.height < 0 := by omega
        have HM : Hid (decide (may r) = false) := by
          rw [Hid, decide_eq_false_iff_not]; intro h; unfold may at h; omega
        go_wp2
        go_ret
        exact ⟨B.ret_bool HM.out.symm, HB.out⟩
    · have a0 := M0.out (by omega)
      have a1 := M1.out (by omega)
      have a2 := M2.out (by omega)
      have a3 := M3.out (by omega)
      by_cases h0 : r.half = 0
      · have HM : Hid (decide (may r) = true) := by
          rw [Hid, decide_eq_true_iff]; exact ⟨.inl h0, a0, a1, a2, a3⟩
        have hb : (r.half == 0) = true := by simpa using h0
        clear h0 a0 a1 a2 a3
        go_wp2
        go_ret
        exact ⟨B.ret_bool HM.out.symm, HB.out⟩
      · have hb : (r.half == 0) = false := by simpa using h0
        by_cases h1 : r.half = 1
        · have HM : Hid (decide (may r) = true) := by
            rw [Hid, decide_eq_true_iff]; exact ⟨.inr h1, a0, a1, a2, a3⟩
          have hb1 : (r.half == 1) = true := by simpa using h1
          clear h0 h1 a0 a1 a2 a3
          go_wp2
          go_ret
          exact ⟨B.ret_bool HM.out.symm, HB.out⟩
        · have HM : Hid (decide (may r) = false) := by
            rw [Hid, decide_eq_false_iff_not]; intro h; unfold may at h; omega
          have hb1 : (r.half == 1) = false := by simpa using h1
          clear h0 h1 a0 a1 a2 a3
          go_wp2
          go_ret
          exact ⟨B.ret_bool HM.out.symm, HB.out⟩
end Rt
end Go.Proofs.YtojbanknbgihgaaDoor
