/-
  The walk of the law HeatAdds.
-/
import Derived.Test.YtkbchpbdpkbnjaaHeatLawA
namespace Go.Proofs.Ytkbchpbdpkbnjaa
open Go.RowKit
namespace Heat
theorem sumN_nan {a : Nat} : sumN a 9221120237041090561 = 9221120237041090561 := sumN_none (add_nan2 (by omega) canon_not)
theorem sumN_infs : sumN 9218868437227405312 18442240474082181120 = 9221120237041090561 := sumN_none add_infs
end Heat
namespace H

set_option maxRecDepth 100000 in
set_option maxHeartbeats 2000000 in
theorem heatAdds_walk (a b : Nat) (w : World) (ha : a < 18446744073709551616) (hb : b < 18446744073709551616) :
    Calls Try.prog 5 #[.int .u64 (a : Int), .int .u64 (b : Int)] w fun e w' => e = .returned (.bool true) ∧ Below w.heap.size w w' := by
  have hr := from_run
  have hq := bits_run
  obtain ⟨r, n, hrun⟩ : ∃ (r : World → Nat) (n : World → Nat), ∀ W, (binOp .add 24 (.float .f64 a) (.float .f64 b)).run Try.prog W = .ok (.float .f64 (r W)) (W.drewN (n W)) ∧ r W < 18446744073709551616 ∧ Heat.bitsN (r W) = Heat.sumN a b :=
    ⟨fun W => Classical.choose (Heat.run_fadd Try.prog 24 a b W), fun W => Classical.choose (Classical.choose_spec (Heat.run_fadd Try.prog 24 a b W)), fun W => Classical.choose_spec (Classical.choose_spec (Heat.run_fadd Try.prog 24 a b W))⟩
  have hadd : ∀ W, (binOp .add 24 (.float .f64 a) (.float .f64 b)).run Try.prog W = .ok (.float .f64 (r W)) (W.drewN (n W)) := fun W => (hrun W).1
  have A1 := Lib.hid (fun W => add_any a b W)
  have A2 : Hid (∀ W, Calls Try.prog 27 #[.float .f64 b, .float .f64 a] W fun e w' => e = .returned (.float .f64 (Heat.sumN a b)) ∧ ∃ n, w' = W.drewN n) := fun W => by
    have := add_any b a W; rw [Heat.sumN_comm] at this; exact this
  have A3 : Hid (∀ W, Calls Try.prog 27 #[.float .f64 a, .float .f64 9223372036854775808] W fun e w' => e = .returned (.float .f64 (Heat.bitsN a)) ∧ ∃ n, w' = W.drewN n) := fun W => by
    have := add_any a 9223372036854775808 W; rw [Heat.sumN_negzero ha] at this; exact this
  have A4 : Hid (∀ W, Calls Try.prog 27 #[.float .f64 a, .float .f64 9221120237041090561] W fun e w' => e = .returned (.float .f64 9221120237041090561) ∧ ∃ n, w' = W.drewN n) := fun W => by
    have := add_any a 9221120237041090561 W; rw [Heat.sumN_nan] at this; exact this
  have B1 : Hid (∀ W, Calls Try.prog 18 #[.float .f64 (Heat.sumN a b)] W fun e w' => e = .returned (.int .u64 (Heat.sumN a b : Int)) ∧ W = w') := fun W => by
    have := bits_any (Heat.sumN a b) W (Heat.sumN_lt a b); rw [Heat.bitsN_sumN] at this; exact this
  have B2 : Hid (∀ W, Calls Try.prog 18 #[.float .f64 (Heat.bitsN a)] W fun e w' => e = .returned (.int .u64 (Heat.bitsN a : Int)) ∧ W = w') := fun W => by
    have := bits_any (Heat.bitsN a) W (Heat.bitsN_lt ha); rw [Heat.bitsN_idem] at this; exact this
  have RB1 : Hid (∀ V W, Calls Try.prog 17 #[.float .f64 (r V)] W fun e w' => e = .returned (.int .u64 (Heat.sumN a b : Int)) ∧ W = w') := fun V W => by
    have := refBits_any (r V) W (hrun V).2.1; rw [(hrun V).2.2] at this; exact this
  have RB2 := Lib.hid (fun W => refBits_any a W ha)
  have RN : Hid (∀ W, Calls Try.prog 25 #[.float .f64 9221120237041090561] W fun e w' => e = .returned (.bool true) ∧ W = w') := fun W => by
    have := refNot_any 9221120237041090561 W (by omega)
    rw [Heat.canon_not] at this; exact this
  have II := Lib.hid (fun W => isInf_any a W ha)
  have A5 : Hid (a = 9218868437227405312 → ∀ W, Calls Try.prog 27 #[.float .f64 a, .float .f64 18442240474082181120] W fun e w' => e = .returned (.float .f64 9221120237041090561) ∧ ∃ n, w' = W.drewN n) := fun h W => by
    have := add_any a 18442240474082181120 W; rw [h, Heat.sumN_infs] at this; rw [h]; exact this
  clear ha hb hrun
  generalize Heat.sumN a b = s at *
  generalize Heat.bitsN a = ba at *
  cases hi : (a == 9218868437227405312) with
  | false =>
    rw [hi] at II
    clear A5 hi
    go_enter Try.func5, Try.ntmps5
    go_wp2_with (first
      | (go_at_call 13; ((with_reducible refine (awake3 w).mono ?_); rintro e1 w1 ⟨rfl, b1⟩))
      | (go_at_call 28; ((with_reducible refine (negzero _).mono ?_); rintro e1 w' ⟨rfl, rfl⟩))
      | (go_at_call 29; ((with_reducible refine (nan_any _).mono ?_); rintro e1 w' ⟨rfl, rfl⟩))
      | (go_at_call 27; (first
          | ((with_reducible refine (A1.out _).mono ?_); rintro e1 w' ⟨rfl, m1, rfl⟩)
          | ((with_reducible refine (A2.out _).mono ?_); rintro e1 w' ⟨rfl, m2, rfl⟩)
          | ((with_reducible refine (A3.out _).mono ?_); rintro e1 w' ⟨rfl, m3, rfl⟩)
          | ((with_reducible refine (A4.out _).mono ?_); rintro e1 w' ⟨rfl, m4, rfl⟩)))
      | (go_at_call 18; (first
          | ((with_reducible refine (B1.out _).mono ?_); rintro e1 w' ⟨rfl, rfl⟩)
          | ((with_reducible refine (B2.out _).mono ?_); rintro e1 w' ⟨rfl, rfl⟩)))
      | (go_at_call 17; (first
          | ((with_reducible refine (RB1.out _ _).mono ?_); rintro e1 w' ⟨rfl, rfl⟩)
          | ((with_reducible refine (RB2.out _).mono ?_); rintro e1 w' ⟨rfl, rfl⟩)))
      | (go_at_call 25; ((with_reducible refine (RN.out _).mono ?_); rintro e1 w' ⟨rfl, rfl⟩))
      | (go_at_call 30; ((with_reducible refine (II.out _).mono ?_); rintro e1 w' ⟨rfl, rfl⟩)))
    go_ret
    exact ⟨rfl, I.below_drewN b1 _⟩
  | true =>
    have A6 := Lib.hid (A5.out (by simpa using hi))
    rw [hi] at II
    clear A5 hi
    go_enter Try.func5, Try.ntmps5
    go_wp2_with (first
      | (go_at_call 13; ((with_reducible refine (awake3 w).mono ?_); rintro e1 w1 ⟨rfl, b1⟩))
      | (go_at_call 28; ((with_reducible refine (negzero _).mono ?_); rintro e1 w' ⟨rfl, rfl⟩))
      | (go_at_call 29; ((with_reducible refine (nan_any _).mono ?_); rintro e1 w' ⟨rfl, rfl⟩))
      | (go_at_call 26; ((with_reducible refine (inf_down _).mono ?_); rintro e1 w' ⟨rfl, rfl⟩))
      | (go_at_call 27; (first
          | ((with_reducible refine (A1.out _).mono ?_); rintro e1 w' ⟨rfl, m1, rfl⟩)
          | ((with_reducible refine (A2.out _).mono ?_); rintro e1 w' ⟨rfl, m2, rfl⟩)
          | ((with_reducible refine (A3.out _).mono ?_); rintro e1 w' ⟨rfl, m3, rfl⟩)
          | ((with_reducible refine (A4.out _).mono ?_); rintro e1 w' ⟨rfl, m4, rfl⟩)
          | ((with_reducible refine (A6.out _).mono ?_); rintro e1 w' ⟨rfl, m5, rfl⟩)))
      | (go_at_call 18; (first
          | ((with_reducible refine (B1.out _).mono ?_); rintro e1 w' ⟨rfl, rfl⟩)
          | ((with_reducible refine (B2.out _).mono ?_); rintro e1 w' ⟨rfl, rfl⟩)))
      | (go_at_call 17; (first
          | ((with_reducible refine (RB1.out _ _).mono ?_); rintro e1 w' ⟨rfl, rfl⟩)
          | ((with_reducible refine (RB2.out _).mono ?_); rintro e1 w' ⟨rfl, rfl⟩)))
      | (go_at_call 25; ((with_reducible refine (RN.out _).mono ?_); rintro e1 w' ⟨rfl, rfl⟩))
      | (go_at_call 30; ((with_reducible refine (II.out _).mono ?_); rintro e1 w' ⟨rfl, rfl⟩)))
    go_ret
    exact ⟨rfl, I.below_drewN b1 _⟩
end H
end Go.Proofs.Ytkbchpbdpkbnjaa
