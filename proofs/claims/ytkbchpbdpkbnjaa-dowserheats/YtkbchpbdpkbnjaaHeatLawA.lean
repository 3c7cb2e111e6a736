/-
  The walks of the laws of layer 3: HeatOrders, HeatKeys, HeatAdds.
-/
import Derived.Test.YtkbchpbdpkbnjaaHeatAwake
namespace Go.Proofs.Ytkbchpbdpkbnjaa
open Go.RowKit
namespace Heat
theorem cmp_range (a b : Nat) : cmp a b = -1 ∨ cmp a b = 0 ∨ cmp a b = 1 := by
  unfold cmp; split
  · exact .inl rfl
  · split
    · exact .inr (.inr rfl)
    · exact .inr (.inl rfl)
theorem cmp_le (a b : Nat) : cmp a b ≤ 0 ↔ key a ≤ key b := by
  unfold cmp; split
  · omega
  · split <;> omega
theorem cmp_trans {a b c : Nat} (h1 : cmp a b ≤ 0) (h2 : cmp b c ≤ 0) : cmp a c ≤ 0 := by
  rw [cmp_le] at *; omega
end Heat
namespace H

set_option maxRecDepth 100000 in
set_option maxHeartbeats 2000000 in
theorem heatOrders_walk (a b c : Nat) (w : World) (ha : a < 18446744073709551616) (hb : b < 18446744073709551616) (hc : c < 18446744073709551616) :
    Calls Try.prog 3 #[.int .u64 (a : Int), .int .u64 (b : Int), .int .u64 (c : Int)] w fun e w' => e = .returned (.bool true) ∧ Below w.heap.size w w' := by
  have hr := from_run
  have hz : Heat.cmp a b = 0 ↔ Heat.bitsN a = Heat.bitsN b := (Heat.cmp_zero a b).trans (Heat.key_inj ha hb)
  have ht : Heat.cmp a b ≤ 0 → Heat.cmp b c ≤ 0 → Heat.cmp a c ≤ 0 := Heat.cmp_trans
  have hp := Heat.cmp_range a b
  have C1 := Lib.hid (fun W => compare_any a b W ha hb)
  have C2 := Lib.hid (fun W => compare_any b c W hb hc)
  have C3 : Hid (∀ W, Calls Try.prog 15 #[.float .f64 b, .float .f64 a] W fun e w' => e = .returned (.int .i64 (-Heat.cmp a b)) ∧ W = w') := fun W => by
    have := compare_any b a W hb ha; rw [Heat.cmp_swap] at this; exact this
  have C4 : Hid (∀ W, Calls Try.prog 15 #[.float .f64 a, .float .f64 a] W fun e w' => e = .returned (.int .i64 0) ∧ W = w') := fun W => by
    have := compare_any a a W ha ha; rw [(Heat.cmp_zero a a).2 rfl] at this; exact this
  have C5 := Lib.hid (fun W => compare_any a c W ha hc)
  have R1 := Lib.hid (fun W => refCompare_any a b W ha hb)
  have B1 := Lib.hid (fun W => refBits_any a W ha)
  have B2 := Lib.hid (fun W => refBits_any b W hb)
  clear ha hb hc
  generalize Heat.cmp a b = p at *
  generalize Heat.cmp b c = q at *
  generalize Heat.cmp a c = r at *
  generalize Heat.bitsN a = x at *
  generalize Heat.bitsN b = y at *
  rcases hp with rfl | rfl | rfl
  · have hxy : ((x : Int) == (y : Int)) = false := by
      rw [beq_eq_false_iff_ne]; intro h; have := hz.2 (by omega); omega
    clear hz
    by_cases hq : q ≤ 0
    · have hr0 := ht (by omega) hq
      have d1 : decide (q ≤ 0) = true := decide_eq_true hq
      have d2 : decide (0 < r) = false := decide_eq_false (by omega)
      clear ht
      go_enter Try.func3, Try.ntmps3
      go_wp2_with (first
        | (go_at_call 13; ((with_reducible refine (awake3 w).mono ?_); rintro e1 w1 ⟨rfl, b1⟩))
        | (go_at_call 15; (first
            | ((with_reducible refine (C1.out _).mono ?_); rintro e1 w' ⟨rfl, rfl⟩)
            | ((with_reducible refine (C2.out _).mono ?_); rintro e1 w' ⟨rfl, rfl⟩)
            | ((with_reducible refine (C3.out _).mono ?_); rintro e1 w' ⟨rfl, rfl⟩)
            | ((with_reducible refine (C4.out _).mono ?_); rintro e1 w' ⟨rfl, rfl⟩)
            | ((with_reducible refine (C5.out _).mono ?_); rintro e1 w' ⟨rfl, rfl⟩)))
        | (go_at_call 16; ((with_reducible refine (R1.out _).mono ?_); rintro e1 w' ⟨rfl, rfl⟩))
        | (go_at_call 17; (first
            | ((with_reducible refine (B1.out _).mono ?_); rintro e1 w' ⟨rfl, rfl⟩)
            | ((with_reducible refine (B2.out _).mono ?_); rintro e1 w' ⟨rfl, rfl⟩))))
      go_ret
      exact ⟨rfl, b1⟩
    · have d1 : decide (q ≤ 0) = false := decide_eq_false hq
      clear ht
      go_enter Try.func3, Try.ntmps3
      go_wp2_with (first
        | (go_at_call 13; ((with_reducible refine (awake3 w).mono ?_); rintro e1 w1 ⟨rfl, b1⟩))
        | (go_at_call 15; (first
            | ((with_reducible refine (C1.out _).mono ?_); rintro e1 w' ⟨rfl, rfl⟩)
            | ((with_reducible refine (C2.out _).mono ?_); rintro e1 w' ⟨rfl, rfl⟩)
            | ((with_reducible refine (C3.out _).mono ?_); rintro e1 w' ⟨rfl, rfl⟩)
            | ((with_reducible refine (C4.out _).mono ?_); rintro e1 w' ⟨rfl, rfl⟩)
            | ((with_reducible refine (C5.out _).mono ?_); rintro e1 w' ⟨rfl, rfl⟩)))
        | (go_at_call 16; ((with_reducible refine (R1.out _).mono ?_); rintro e1 w' ⟨rfl, rfl⟩))
        | (go_at_call 17; (first
            | ((with_reducible refine (B1.out _).mono ?_); rintro e1 w' ⟨rfl, rfl⟩)
            | ((with_reducible refine (B2.out _).mono ?_); rintro e1 w' ⟨rfl, rfl⟩))))
      go_ret
      exact ⟨rfl, b1⟩
  · have hxy : x = y := hz.1 rfl
    subst hxy
    clear hz
    by_cases hq : q ≤ 0
    · have hr0 := ht (by omega) hq
      have d1 : decide (q ≤ 0) = true := decide_eq_true hq
      have d2 : decide (0 < r) = false := decide_eq_false (by omega)
      clear ht
      go_enter Try.func3, Try.ntmps3
      go_wp2_with (first
        | (go_at_call 13; ((with_reducible refine (awake3 w).mono ?_); rintro e1 w1 ⟨rfl, b1⟩))
        | (go_at_call 15; (first
            | ((with_reducible refine (C1.out _).mono ?_); rintro e1 w' ⟨rfl, rfl⟩)
            | ((with_reducible refine (C2.out _).mono ?_); rintro e1 w' ⟨rfl, rfl⟩)
            | ((with_reducible refine (C3.out _).mono ?_); rintro e1 w' ⟨rfl, rfl⟩)
            | ((with_reducible refine (C4.out _).mono ?_); rintro e1 w' ⟨rfl, rfl⟩)
            | ((with_reducible refine (C5.out _).mono ?_); rintro e1 w' ⟨rfl, rfl⟩)))
        | (go_at_call 16; ((with_reducible refine (R1.out _).mono ?_); rintro e1 w' ⟨rfl, rfl⟩))
        | (go_at_call 17; (first
            | ((with_reducible refine (B1.out _).mono ?_); rintro e1 w' ⟨rfl, rfl⟩)
            | ((with_reducible refine (B2.out _).mono ?_); rintro e1 w' ⟨rfl, rfl⟩))))
      go_ret
      exact ⟨rfl, b1⟩
    · have d1 : decide (q ≤ 0) = false := decide_eq_false hq
      clear ht
      go_enter Try.func3, Try.ntmps3
      go_wp2_with (first
        | (go_at_call 13; ((with_reducible refine (awake3 w).mono ?_); rintro e1 w1 ⟨rfl, b1⟩))
        | (go_at_call 15; (first
            | ((with_reducible refine (C1.out _).mono ?_); rintro e1 w' ⟨rfl, rfl⟩)
            | ((with_reducible refine (C2.out _).mono ?_); rintro e1 w' ⟨rfl, rfl⟩)
            | ((with_reducible refine (C3.out _).mono ?_); rintro e1 w' ⟨rfl, rfl⟩)
            | ((with_reducible refine (C4.out _).mono ?_); rintro e1 w' ⟨rfl, rfl⟩)
            | ((with_reducible refine (C5.out _).mono ?_); rintro e1 w' ⟨rfl, rfl⟩)))
        | (go_at_call 16; ((with_reducible refine (R1.out _).mono ?_); rintro e1 w' ⟨rfl, rfl⟩))
        | (go_at_call 17; (first
            | ((with_reducible refine (B1.out _).mono ?_); rintro e1 w' ⟨rfl, rfl⟩)
            | ((with_reducible refine (B2.out _).mono ?_); rintro e1 w' ⟨rfl, rfl⟩))))
      go_ret
      exact ⟨rfl, b1⟩
  · have hxy : ((x : Int) == (y : Int)) = false := by
      rw [beq_eq_false_iff_ne]; intro h; have := hz.2 (by omega); omega
    clear hz
    clear ht
    go_enter Try.func3, Try.ntmps3
    go_wp2_with (first
      | (go_at_call 13; ((with_reducible refine (awake3 w).mono ?_); rintro e1 w1 ⟨rfl, b1⟩))
      | (go_at_call 15; (first
          | ((with_reducible refine (C1.out _).mono ?_); rintro e1 w' ⟨rfl, rfl⟩)
          | ((with_reducible refine (C2.out _).mono ?_); rintro e1 w' ⟨rfl, rfl⟩)
          | ((with_reducible refine (C3.out _).mono ?_); rintro e1 w' ⟨rfl, rfl⟩)
          | ((with_reducible refine (C4.out _).mono ?_); rintro e1 w' ⟨rfl, rfl⟩)
          | ((with_reducible refine (C5.out _).mono ?_); rintro e1 w' ⟨rfl, rfl⟩)))
      | (go_at_call 16; ((with_reducible refine (R1.out _).mono ?_); rintro e1 w' ⟨rfl, rfl⟩))
      | (go_at_call 17; (first
          | ((with_reducible refine (B1.out _).mono ?_); rintro e1 w' ⟨rfl, rfl⟩)
          | ((with_reducible refine (B2.out _).mono ?_); rintro e1 w' ⟨rfl, rfl⟩))))
    go_ret
    exact ⟨rfl, b1⟩

set_option maxRecDepth 100000 in
set_option maxHeartbeats 2000000 in
theorem heatKeys_walk (a k : Nat) (w : World) (ha : a < 18446744073709551616) (hk : k < 18446744073709551616) :
    Calls Try.prog 4 #[.int .u64 (a : Int), .int .u64 (k : Int)] w fun e w' => e = .returned (.bool true) ∧ Below w.heap.size w w' := by
  have hr := from_run
  have hq := bits_run
  have CB := Lib.hid (fun W => bits_any a W ha)
  have CRB := Lib.hid (fun W => refBits_any a W ha)
  have CC := Lib.hid (fun W => canon_any a W ha)
  have CO := Lib.hid (fun W => of_any a W ha)
  have CK := Lib.hid (fun W => key_any a W ha)
  have CRK := Lib.hid (fun W => refKey_any a W ha)
  have CF := Lib.hid (fun W => from_any (Heat.key a) W (Nat.lt_of_le_of_lt (Heat.key_range ha).1 (by omega)))
  have CBF : Hid (∀ W, Calls Try.prog 18 #[.float .f64 (fromN (Heat.key a))] W fun e w' => e = .returned (.int .u64 (Heat.bitsN a : Int)) ∧ W = w') := fun W => by
    have := bits_any (fromN (Heat.key a)) W (fromN_lt _); rw [bitsN_fromN ha] at this; exact this
  have CF2 := Lib.hid (fun W => from_any k W hk)
  have CI : Hid (∀ W, Calls Try.prog 23 #[.float .f64 9218868437227405312] W fun e w' => e = .returned (.int .u64 18437736874454810626) ∧ W = w') := fun W => by
    have := refKey_any 9218868437227405312 W (by omega)
    rw [show Heat.key 9218868437227405312 = 18437736874454810626 by decide +kernel] at this; exact this
  rcases Nat.lt_or_ge 18437736874454810626 k with hl | hl
  · have CK2 : Hid (∀ W, Calls Try.prog 22 #[.float .f64 9221120237041090561] W fun e w' => e = .returned (.int .u64 0) ∧ W = w') := fun W => by
      have := key_any 9221120237041090561 W (by omega)
      rw [show Heat.key 9221120237041090561 = 0 by decide +kernel] at this; exact this
    have CN : Hid (∀ W, Calls Try.prog 25 #[.float .f64 9221120237041090561] W fun e w' => e = .returned (.bool true) ∧ W = w') := fun W => by
      have := refNot_any 9221120237041090561 W (by omega)
      rw [Heat.canon_not] at this; exact this
    rw [fromN_above hl] at CF2
    have g1 : ((0 : Int) == (k : Int)) = false := by rw [beq_eq_false_iff_ne]; omega
    have g2 : decide ((18437736874454810626 : Int) < (k : Int)) = true := decide_eq_true (by omega)
    clear ha hk
    generalize Heat.bitsN a = ba at *
    generalize Heat.key a = ka at *
    generalize fromN ka = fk at *
    go_enter Try.func4, Try.ntmps4
    go_wp2_with (first
      | (go_at_call 13; ((with_reducible refine (awake3 w).mono ?_); rintro e1 w1 ⟨rfl, b1⟩))
      | (go_at_call 18; (first
          | ((with_reducible refine (CB.out _).mono ?_); rintro e1 w' ⟨rfl, rfl⟩)
          | ((with_reducible refine (CBF.out _).mono ?_); rintro e1 w' ⟨rfl, rfl⟩)))
      | (go_at_call 17; ((with_reducible refine (CRB.out _).mono ?_); rintro e1 w' ⟨rfl, rfl⟩))
      | (go_at_call 20; ((with_reducible refine (CC.out _).mono ?_); rintro e1 w' ⟨rfl, rfl⟩))
      | (go_at_call 21; ((with_reducible refine (CO.out _).mono ?_); rintro e1 w' ⟨rfl, rfl⟩))
      | (go_at_call 22; (first
          | ((with_reducible refine (CK.out _).mono ?_); rintro e1 w' ⟨rfl, rfl⟩)
          | ((with_reducible refine (CK2.out _).mono ?_); rintro e1 w' ⟨rfl, rfl⟩)))
      | (go_at_call 23; (first
          | ((with_reducible refine (CRK.out _).mono ?_); rintro e1 w' ⟨rfl, rfl⟩)
          | ((with_reducible refine (CI.out _).mono ?_); rintro e1 w' ⟨rfl, rfl⟩)))
      | (go_at_call 24; (first
          | ((with_reducible refine (CF.out _).mono ?_); rintro e1 w' ⟨rfl, rfl⟩)
          | ((with_reducible refine (CF2.out _).mono ?_); rintro e1 w' ⟨rfl, rfl⟩)))
      | (go_at_call 25; ((with_reducible refine (CN.out _).mono ?_); rintro e1 w' ⟨rfl, rfl⟩))
      | (go_at_call 26; ((with_reducible refine (inf_up _).mono ?_); rintro e1 w' ⟨rfl, rfl⟩)))
    go_ret
    exact ⟨rfl, b1⟩
  · have CK2 : Hid (∀ W, Calls Try.prog 22 #[.float .f64 (fromN k)] W fun e w' => e = .returned (.int .u64 (k : Int)) ∧ W = w') := fun W => by
      have := key_any (fromN k) W (fromN_lt _)
      rw [key_fromN k hl] at this; exact this
    clear ha hk
    generalize Heat.bitsN a = ba at *
    generalize Heat.key a = ka at *
    generalize fromN ka = fk at *
    generalize fromN k = fy at *
    go_enter Try.func4, Try.ntmps4
    go_wp2_with (first
      | (go_at_call 13; ((with_reducible refine (awake3 w).mono ?_); rintro e1 w1 ⟨rfl, b1⟩))
      | (go_at_call 18; (first
          | ((with_reducible refine (CB.out _).mono ?_); rintro e1 w' ⟨rfl, rfl⟩)
          | ((with_reducible refine (CBF.out _).mono ?_); rintro e1 w' ⟨rfl, rfl⟩)))
      | (go_at_call 17; ((with_reducible refine (CRB.out _).mono ?_); rintro e1 w' ⟨rfl, rfl⟩))
      | (go_at_call 20; ((with_reducible refine (CC.out _).mono ?_); rintro e1 w' ⟨rfl, rfl⟩))
      | (go_at_call 21; ((with_reducible refine (CO.out _).mono ?_); rintro e1 w' ⟨rfl, rfl⟩))
      | (go_at_call 22; (first
          | ((with_reducible refine (CK.out _).mono ?_); rintro e1 w' ⟨rfl, rfl⟩)
          | ((with_reducible refine (CK2.out _).mono ?_); rintro e1 w' ⟨rfl, rfl⟩)))
      | (go_at_call 23; ((with_reducible refine (CRK.out _).mono ?_); rintro e1 w' ⟨rfl, rfl⟩))
      | (go_at_call 24; (first
          | ((with_reducible refine (CF.out _).mono ?_); rintro e1 w' ⟨rfl, rfl⟩)
          | ((with_reducible refine (CF2.out _).mono ?_); rintro e1 w' ⟨rfl, rfl⟩))))
    go_ret
    exact ⟨rfl, b1⟩
end H
end Go.Proofs.Ytkbchpbdpkbnjaa
