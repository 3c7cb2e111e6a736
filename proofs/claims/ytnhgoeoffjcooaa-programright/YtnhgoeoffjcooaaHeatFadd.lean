/-
  Adding two heats in the model (of whatever program): the sum's bits, or bits of some that is no number; as one heat.
-/
import Derived.Test.YtnhgoeoffjcooaaHeatOrder
import Derived.WalkKit
import Derived.WalkLawsBesides
namespace Go.Proofs.Ytnhgoeoffjcooaa.Heat
open Ieee

/-- the heat of both together: of none the one of all that are no numbers -/
def sumN (a b : Nat) : Nat := match double.add a b with
  | some r => r
  | none => 9221120237041090561
theorem sumN_comm (a b : Nat) : sumN a b = sumN b a := by unfold sumN; rw [add_comm]
theorem sumN_some {a b r : Nat} (h : double.add a b = some r) : sumN a b = r := by unfold sumN; rw [h]
theorem sumN_none {a b : Nat} (h : double.add a b = none) : sumN a b = 9221120237041090561 := by unfold sumN; rw [h]
theorem canon_not : notN 9221120237041090561 = true := by decide +kernel
theorem bitsN_num {b : Nat} (h : notN b = false) : bitsN b = b := by unfold bitsN; rw [if_neg (by rw [h]; decide)]
theorem bitsN_not {b : Nat} (h : notN b = true) : bitsN b = 9221120237041090561 := by unfold bitsN; rw [if_pos h]
theorem bitsN_lt {b : Nat} (h : b < 18446744073709551616) : bitsN b < 18446744073709551616 := by unfold bitsN; split <;> omega
theorem bitsN_idem (b : Nat) : bitsN (bitsN b) = bitsN b := by
  cases h : notN b with
  | true => rw [bitsN_not h, bitsN_not canon_not]
  | false => rw [bitsN_num h, bitsN_num h]
theorem notN_bitsN (b : Nat) : notN (bitsN b) = notN b := by
  cases h : notN b with
  | true => rw [bitsN_not h, canon_not]
  | false => rw [bitsN_num h, h]
theorem sumN_lt (a b : Nat) : sumN a b < 18446744073709551616 := by
  unfold sumN
  cases h : double.add a b with
  | none => decide
  | some r => exact (add_num h).2
theorem bitsN_sumN (a b : Nat) : bitsN (sumN a b) = sumN a b := by
  cases h : double.add a b with
  | none => rw [sumN_none h, bitsN_not canon_not]
  | some r => rw [sumN_some h, bitsN_num (add_num h).1]
/-- a sum's heat hangs on the heats alone -/
theorem sumN_bitsN {a b : Nat} (ha : a < 18446744073709551616) (hb : b < 18446744073709551616) : sumN (bitsN a) (bitsN b) = sumN a b := by
  cases h1 : notN a with
  | true =>
    rw [sumN_none (add_nan ha h1), sumN_none (add_nan (bitsN_lt ha) (by rw [notN_bitsN]; exact h1))]
  | false =>
    rw [bitsN_num h1]
    cases h2 : notN b with
    | true => rw [sumN_none (add_nan2 hb h2), sumN_none (add_nan2 (bitsN_lt hb) (by rw [notN_bitsN]; exact h2))]
    | false => rw [bitsN_num h2]
theorem sumN_negzero {x : Nat} (hx : x < 18446744073709551616) : sumN x 9223372036854775808 = bitsN x := by
  cases h : notN x with
  | true => rw [sumN_none (add_nan hx h), bitsN_not h]
  | false => rw [sumN_some (add_negzero hx h), bitsN_num h]

/-- ADDING, IN THE MODEL -/
theorem run_fadd (P : Program) (t : TypeId) (a b : Nat) (w : World) : ∃ r n, (binOp .add t (.float .f64 a) (.float .f64 b)).run P w = .ok (.float .f64 r) (w.drewN n) ∧ r < 18446744073709551616 ∧ bitsN r = sumN a b := by
  cases h : double.add a b with
  | some r =>
    refine ⟨r, 0, ?_, (add_num h).2, ?_⟩
    · exact run_float_arith w .add t .f64 a b r h
    · rw [sumN_some h, bitsN_num (add_num h).1]
  | none =>
    have hq : ∀ x : Nat, (Question.nanBits .f64 a b).cut x = x % 2 * 2 ^ 63 + 0x7ff0000000000000 + 1 + x / 2 % (2 ^ 52 - 1) := fun x => rfl
    refine ⟨(Question.nanBits .f64 a b).cut (w.tape w.drawn (.nanBits .f64 a b)), 1, ?_, ?_, ?_⟩
    · have hf : (FloatKind.f64.format.add a b) = none := h
      simp [binOp, Op.floatArith, hf, Question.forced]
      rfl
    · rw [hq]; omega
    · have hlt : (Question.nanBits .f64 a b).cut (w.tape w.drawn (.nanBits .f64 a b)) < 18446744073709551616 := by rw [hq]; omega
      rw [sumN_none h, bitsN_not ((not_iff _ hlt).2 (by rw [hq]; omega))]
end Go.Proofs.Ytnhgoeoffjcooaa.Heat
