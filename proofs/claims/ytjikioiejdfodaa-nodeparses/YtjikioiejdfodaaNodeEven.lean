/-
  Node: even, Check, Len within regions that draw their order.
-/
import Derived.Test.YtjikioiejdfodaaNodeWalk
import Derived.Test.YtjikioiejdfodaaOver
namespace Go.Proofs.Ytjikioiejdfodaa
open Go.RowKit
namespace Nod
open B V

set_option maxHeartbeats 4000000 in
theorem even_any (A1 A2 A3 : Option Addr) (c1 c2 c3 : Nat) (n : N) (w : World) (hl : n.keys.length ≤ 1000000 ∧ n.vals.length ≤ 1000000 ∧ n.kids.length ≤ 1000000) :
    Calls Try.prog 54 #[nv A1 A2 A3 c1 c2 c3 n] w fun e w' => e = .returned (.bool (even n)) ∧ Below w.heap.size w w' := by
  obtain ⟨k, ks, vs, cs⟩ := n
  have CL := Lib.hid (fun W => len_any A1 A2 A3 c1 c2 c3 ⟨k, ks, vs, cs⟩ W)
  unfold even
  unfold nv at *
  simp only at *
  generalize ks.length = a at *
  generalize vs.length = b at *
  generalize cs.length = c at *
  obtain ⟨ha, hb, hc⟩ := hl
  have bA := below1 w (.cells #[.int .i64 k, .slice A1 a c1, .slice A2 b c2, .slice A3 c c3] 57)
  have BX := Lib.hid (bx_new w (.int .i64 k) (.slice A1 a c1) (.slice A2 b c2) (.slice A3 c c3) 57)
  by_cases h1 : k = 1
  · subst h1
    have e : decide ((1 : Int) = 1 ∧ b = a ∧ c = 0 ∨ (1 : Int) = 2 ∧ c = a ∧ b = 0 ∧ 0 < a) = decide (b = a ∧ c = 0) := by rw [decide_eq_decide]; omega
    rw [e]
    clear e
    by_cases h2 : b = a
    · subst h2
      have e : decide (b = b ∧ c = 0) = ((c : Int) == 0) := by rw [Bool.eq_iff_iff]; simp
      rw [e]
      clear e
      go_enter Try.func54, Try.ntmps54
      go_upto_region 3 with fail
      generalize w.alloc (.cells #[.int .i64 1, .slice A1 b c1, .slice A2 b c2, .slice A3 c c3] 57) = W at *
      obtain ⟨k0, k1, k2, k3⟩ := BX.out.p
      have r0 := fun x => Ov.Up.cell k0 BX.out.l x
      have r1 := fun x => Ov.Up.cell k1 BX.out.l x
      have r2 := fun x => Ov.Up.cell k2 BX.out.l x
      have r3 := fun x => Ov.Up.cell k3 BX.out.l x
      refine Ov.region (by kernel_rfl) (by kernel_rfl) (Ov.start W) ?_
      repeat (go_big_quiet_step (first | (go_at_call 38; exact Ov.Up.call (CL.out _))))
      refine wpQuiet_nil ?_
      rintro _ ⟨yo, rfl⟩
      go_wp2
      go_ret
      exact ⟨rfl, bA.trans (yo.h.mono bA.size)⟩
    · rw [decide_eq_false (by omega)]
      have e2 : ((b : Int) == (a : Int)) = false := by rw [beq_eq_false_iff_ne]; omega
      go_enter Try.func54, Try.ntmps54
      go_upto_region 3 with fail
      generalize w.alloc (.cells #[.int .i64 1, .slice A1 a c1, .slice A2 b c2, .slice A3 c c3] 57) = W at *
      obtain ⟨k0, k1, k2, k3⟩ := BX.out.p
      have r0 := fun x => Ov.Up.cell k0 BX.out.l x
      have r1 := fun x => Ov.Up.cell k1 BX.out.l x
      have r2 := fun x => Ov.Up.cell k2 BX.out.l x
      have r3 := fun x => Ov.Up.cell k3 BX.out.l x
      refine Ov.region (by kernel_rfl) (by kernel_rfl) (Ov.start W) ?_
      repeat (go_big_quiet_step (first | (go_at_call 38; exact Ov.Up.call (CL.out _))))
      refine wpQuiet_nil ?_
      rintro _ ⟨yo, rfl⟩
      go_wp2
      go_ret
      exact ⟨rfl, bA.trans (yo.h.mono bA.size)⟩
  · have e1 : (k == 1) = false := by simpa using h1
    by_cases h2 : k = 2
    · subst h2
      have e : decide ((2 : Int) = 1 ∧ b = a ∧ c = 0 ∨ (2 : Int) = 2 ∧ c = a ∧ b = 0 ∧ 0 < a) = decide (c = a ∧ b = 0 ∧ 0 < a) := by rw [decide_eq_decide]; omega
      rw [e]
      clear e h1
      by_cases h2 : c = a
      · subst h2
        by_cases h3 : b = 0
        · subst h3
          have e : decide (c = c ∧ 0 = 0 ∧ 0 < c) = decide (0 < c) := by rw [decide_eq_decide]; omega
          rw [e]
          clear e
          go_enter Try.func54, Try.ntmps54
          go_upto_region 5 with fail
          generalize w.alloc (.cells #[.int .i64 2, .slice A1 c c1, .slice A2 0 c2, .slice A3 c c3] 57) = W at *
          obtain ⟨k0, k1, k2, k3⟩ := BX.out.p
          have r0 := fun x => Ov.Up.cell k0 BX.out.l x
          have r1 := fun x => Ov.Up.cell k1 BX.out.l x
          have r2 := fun x => Ov.Up.cell k2 BX.out.l x
          have r3 := fun x => Ov.Up.cell k3 BX.out.l x
          refine Ov.region (by kernel_rfl) (by kernel_rfl) (Ov.start W) ?_
          repeat (go_big_quiet_step (first | (go_at_call 38; exact Ov.Up.call (CL.out _))))
          refine wpQuiet_nil ?_
          rintro _ ⟨yo, rfl⟩
          go_wp2
          go_ret
          exact ⟨rfl, bA.trans (yo.h.mono bA.size)⟩
        · rw [decide_eq_false (by omega)]
          have e2 : ((b : Int) == 0) = false := by rw [beq_eq_false_iff_ne]; omega
          go_enter Try.func54, Try.ntmps54
          go_upto_region 5 with fail
          generalize w.alloc (.cells #[.int .i64 2, .slice A1 c c1, .slice A2 b c2, .slice A3 c c3] 57) = W at *
          obtain ⟨k0, k1, k2, k3⟩ := BX.out.p
          have r0 := fun x => Ov.Up.cell k0 BX.out.l x
          have r1 := fun x => Ov.Up.cell k1 BX.out.l x
          have r2 := fun x => Ov.Up.cell k2 BX.out.l x
          have r3 := fun x => Ov.Up.cell k3 BX.out.l x
          refine Ov.region (by kernel_rfl) (by kernel_rfl) (Ov.start W) ?_
          repeat (go_big_quiet_step (first | (go_at_call 38; exact Ov.Up.call (CL.out _))))
          refine wpQuiet_nil ?_
          rintro _ ⟨yo, rfl⟩
          go_wp2
          go_ret
          exact ⟨rfl, bA.trans (yo.h.mono bA.size)⟩
      · rw [decide_eq_false (by omega)]
        have e2 : ((c : Int) == (a : Int)) = false := by rw [beq_eq_false_iff_ne]; omega
        go_enter Try.func54, Try.ntmps54
        go_upto_region 5 with fail
        generalize w.alloc (.cells #[.int .i64 2, .slice A1 a c1, .slice A2 b c2, .slice A3 c c3] 57) = W at *
        obtain ⟨k0, k1, k2, k3⟩ := BX.out.p
        have r0 := fun x => Ov.Up.cell k0 BX.out.l x
        have r1 := fun x => Ov.Up.cell k1 BX.out.l x
        have r2 := fun x => Ov.Up.cell k2 BX.out.l x
        have r3 := fun x => Ov.Up.cell k3 BX.out.l x
        refine Ov.region (by kernel_rfl) (by kernel_rfl) (Ov.start W) ?_
        repeat (go_big_quiet_step (first | (go_at_call 38; exact Ov.Up.call (CL.out _))))
        refine wpQuiet_nil ?_
        rintro _ ⟨yo, rfl⟩
        go_wp2
        go_ret
        exact ⟨rfl, bA.trans (yo.h.mono bA.size)⟩
    · have e2 : (k == 2) = false := by simpa using h2
      rw [decide_eq_false (by omega)]
      go_enter Try.func54, Try.ntmps54
      go_wp2
      go_ret
      exact ⟨rfl, bA⟩
end Nod
end Go.Proofs.Ytjikioiejdfodaa
