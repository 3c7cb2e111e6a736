/-
  What the program's heat does, call by call: Canon, Bits, Of, Key, From, Compare, Add (by the bits of the numbers), and the library's calls that the laws make.
-/
import Derived.Test.YtnhgoeoffjcooaaHeatRef
import Derived.Test.YtnhgoeoffjcooaaHeatFadd
namespace Go.Proofs.Ytnhgoeoffjcooaa
open Go.RowKit
namespace H

theorem and63 (b : Nat) (hb : b < 18446744073709551616) : bits .and .u64 (b : Int) 9223372036854775808 = ((b / 9223372036854775808 * 9223372036854775808 : Nat) : Int) := by
  have h := u64_and_nat b 9223372036854775808 hb (by omega)
  have h2 := nat_bit 63 b
  rw [show (2 : Nat) ^ 63 = 9223372036854775808 from rfl] at h2
  rw [h2, show b / 9223372036854775808 % 2 = b / 9223372036854775808 by omega] at h
  exact h
theorem or63 (b : Nat) (hb : b < 9223372036854775808) : bits .or .u64 (b : Int) 9223372036854775808 = ((b + 9223372036854775808 : Nat) : Int) := by
  have h := u64_or_nat b 9223372036854775808 (by omega) (by omega)
  have h2 := nat_join 63 9223372036854775808 b (by decide) hb
  rw [Nat.or_comm] at h2
  rw [h2, Nat.add_comm] at h
  exact h
theorem xorAll (b : Nat) (hb : b < 18446744073709551616) : bits .xor .u64 IntKind.u64.max (b : Int) = ((18446744073709551615 - b : Nat) : Int) := by
  have h := u64_xor_nat 18446744073709551615 b (by omega) hb
  have h2 : 18446744073709551615 ^^^ b = 18446744073709551615 - b := by
    have h3 := BitVec.toNat_not (x := BitVec.ofNat 64 b)
    rw [BitVec.not_def, BitVec.toNat_xor, BitVec.toNat_allOnes, BitVec.toNat_ofNat, Nat.mod_eq_of_lt (by omega)] at h3
    rw [show (2 : Nat) ^ 64 = 18446744073709551616 from rfl] at h3
    simpa using h3
  rw [h2] at h
  exact h
theorem xor63 (b : Nat) (hb : b < 18446744073709551616) (h1 : 9223372036854775808 ≤ b) : bits .xor .u64 (b : Int) 9223372036854775808 = ((b - 9223372036854775808 : Nat) : Int) := by
  have h := u64_xor_nat b 9223372036854775808 hb (by omega)
  have h2 : b ^^^ 9223372036854775808 = b - 9223372036854775808 := by
    have e : b = 9223372036854775808 ||| (b - 9223372036854775808) := by
      rw [nat_join 63 9223372036854775808 (b - 9223372036854775808) (by decide) (by show _ < 9223372036854775808; omega)]; omega
    have e2 : (b - 9223372036854775808) &&& 9223372036854775808 = 0 := by
      have := nat_bit 63 (b - 9223372036854775808)
      rw [show (2 : Nat) ^ 63 = 9223372036854775808 from rfl] at this
      rw [this, Nat.div_eq_of_lt (by omega)]
    have e3 : b - 9223372036854775808 < 9223372036854775808 := by omega
    generalize hk : b - 9223372036854775808 = k at *
    subst e
    apply Nat.eq_of_testBit_eq
    intro i
    have e2i := congrArg (fun z => z.testBit i) e2
    simp only [Nat.testBit_and, Nat.zero_testBit] at e2i
    simp only [Nat.testBit_xor, Nat.testBit_or]
    revert e2i
    cases k.testBit i <;> cases (9223372036854775808 : Nat).testBit i <;> simp
  rw [h2] at h
  exact h
theorem wrapU (n : Nat) (h : n < 18446744073709551616) : IntKind.u64.wrap (n : Int) = (n : Int) := by
  simp only [IntKind.wrap, IntKind.bits, IntKind.signed]
  simp
  omega

set_option maxRecDepth 100000 in
set_option maxHeartbeats 400000 in
theorem isNaN_any (b : Nat) (w : World) (hb : b < 18446744073709551616) :
    Calls Try.prog 109 #[.float .f64 b] w fun e w' => e = .returned (.bool (Heat.notN b)) ∧ w = w' := by
  go_enter Try.func109, Try.ntmps109
  go_wp2
  go_ret
  exact ⟨ret_bool (Heat.order_self hb), rfl⟩

set_option maxRecDepth 100000 in
set_option maxHeartbeats 400000 in
theorem canon_any (b : Nat) (w : World) (hb : b < 18446744073709551616) :
    Calls Try.prog 95 #[.float .f64 b] w fun e w' => e = .returned (.float .f64 (Heat.bitsN b)) ∧ w = w' := by
  have hr : ∀ w, (callFunc 86 #[.int .u64 9221120237041090561]).run Try.prog w = .ok (.value (.float .f64 9221120237041090561)) w := from_run 9221120237041090561
  have HB : Hid (b < 18446744073709551616) := hb
  have HE : Hid (∀ h : Heat.notN b = true, Heat.bitsN b = 9221120237041090561) := fun h => Heat.bitsN_not h
  have HF : Hid (∀ h : Heat.notN b = false, Heat.bitsN b = b) := fun h => Heat.bitsN_num h
  clear hb
  go_enter Try.func95, Try.ntmps95
  go_wp2_with (go_at_call 109; ((with_reducible refine (isNaN_any b w HB.out).mono ?_); rintro e1 w' ⟨rfl, rfl⟩))
  · go_ret
    exact ⟨by rw [HE.out (by assumption)]; rfl, rfl⟩
  · go_ret
    exact ⟨by rw [HF.out (by assumption)]; rfl, rfl⟩

set_option maxRecDepth 100000 in
set_option maxHeartbeats 400000 in
theorem bits_any (b : Nat) (w : World) (hb : b < 18446744073709551616) :
    Calls Try.prog 68 #[.float .f64 b] w fun e w' => e = .returned (.int .u64 (Heat.bitsN b : Int)) ∧ w = w' := by
  have hr := bits_run
  have C := Lib.hid (canon_any b w hb)
  clear hb
  go_enter Try.func68, Try.ntmps68
  go_wp2_with (go_at_call 95; ((with_reducible refine C.out.mono ?_); rintro e1 w' ⟨rfl, rfl⟩))
  go_ret
  exact ⟨rfl, rfl⟩

set_option maxRecDepth 100000 in
set_option maxHeartbeats 400000 in
theorem of_any (b : Nat) (w : World) (hb : b < 18446744073709551616) :
    Calls Try.prog 114 #[.int .u64 (b : Int)] w fun e w' => e = .returned (.float .f64 (Heat.bitsN b)) ∧ w = w' := by
  have hr := from_run
  have C := Lib.hid (canon_any b w hb)
  clear hb
  go_enter Try.func114, Try.ntmps114
  go_wp2_with (go_at_call 95; ((with_reducible refine C.out.mono ?_); rintro e1 w' ⟨rfl, rfl⟩))
  go_ret
  exact ⟨rfl, rfl⟩

/-- The bits of the heat that has a key. -/
def fromN (k : Nat) : Nat := if k = 0 ∨ 18437736874454810626 < k then 9221120237041090561 else if k + 4503599627370494 < 9223372036854775808 then 18446744073709551615 - (k + 4503599627370494) else k + 4503599627370494 - 9223372036854775808
theorem fromN_lt (k : Nat) : fromN k < 18446744073709551616 := by unfold fromN; split <;> (try split) <;> omega
theorem notN_num {b : Nat} (h : b ≤ 9218868437227405312 ∨ (9223372036854775808 ≤ b ∧ b ≤ 18442240474082181120)) : Heat.notN b = false := by
  cases hn : Heat.notN b with
  | false => rfl
  | true => rw [Heat.not_iff b (by omega)] at hn; omega
theorem key_fromN (k : Nat) (h : k ≤ 18437736874454810626) : Heat.key (fromN k) = k := by
  unfold fromN
  by_cases h0 : k = 0
  · rw [if_pos (.inl h0), Heat.key_not (by decide +kernel), h0]
  · rw [if_neg (by omega)]
    by_cases h1 : k + 4503599627370494 < 9223372036854775808
    · rw [if_pos h1, Heat.key_neg (notN_num (by omega)) ((Heat.neg_iff _).2 (by omega))]; omega
    · rw [if_neg h1, Heat.key_pos (notN_num (by omega)) ((Heat.neg_false _).2 (by omega))]; omega
theorem fromN_above {k : Nat} (h : 18437736874454810626 < k) : fromN k = 9221120237041090561 := by unfold fromN; rw [if_pos (.inr h)]
theorem bitsN_fromN {b : Nat} (hb : b < 18446744073709551616) : Heat.bitsN (fromN (Heat.key b)) = Heat.bitsN b :=
  (Heat.key_inj (fromN_lt _) hb).1 (key_fromN _ (Heat.key_range hb).1)

theorem order_inf {b : Nat} (hb : b < 18446744073709551616) : (Ieee.double.order b 9218868437227405311 == some Ordering.gt) = (b == 9218868437227405312) := by
  cases hn : Heat.notN b with
  | true =>
    rw [Heat.order_nan hb hn]
    have : (b == 9218868437227405312) = false := by
      rw [beq_eq_false_iff_ne]
      intro h; rw [Heat.not_iff b hb] at hn; omega
    rw [this]; rfl
  | false =>
    rw [Heat.order_sv hb (by omega) hn (notN_num (by omega))]
    have h2 : Heat.sv 9218868437227405311 = 9218868437227405311 := by decide +kernel
    rw [h2]
    have hs := Heat.isnum hb hn
    have hv : (9218868437227405311 < Heat.sv b) ↔ b = 9218868437227405312 := by
      unfold Heat.sv
      by_cases hl : b < 9223372036854775808
      · rw [if_neg (by rw [(Heat.neg_false b).2 hl]; decide)]; omega
      · rw [if_pos ((Heat.neg_iff b).2 (by omega))]; omega
    by_cases he : b = 9218868437227405312
    · have h3 : compare (Heat.sv b) 9218868437227405311 = .gt := by
        have := hv.2 he
        rw [Int.compare_eq_gt]; exact this
      rw [h3, he]; rfl
    · have h3 : compare (Heat.sv b) 9218868437227405311 ≠ .gt := by
        rw [Ne, Int.compare_eq_gt]; intro h; exact he (hv.1 h)
      have h4 : (b == 9218868437227405312) = false := by rw [beq_eq_false_iff_ne]; exact he
      rw [h4]
      revert h3
      cases compare (Heat.sv b) 9218868437227405311 <;> simp

end H
end Go.Proofs.Ytnhgoeoffjcooaa
