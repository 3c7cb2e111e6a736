/-
  Plain mathematics of comparing heats (no program text is spoken of here): the order of two numbers of 64 bits with a point, as the model has it, is that of their lower 63 bits with the sign; both noughts are the same there.
-/
import Derived.Test.YtnhgoeoffjcooaaHeatAdd
namespace Go.Proofs.Ytnhgoeoffjcooaa.Heat
open Ieee

/-- the lower 63 bits, with the sign -/
def sv (b : Nat) : Int := if neg b = true then -((b % 9223372036854775808 : Nat) : Int) else ((b % 9223372036854775808 : Nat) : Int)

theorem order_nan {a b : Nat} (ha : a < 18446744073709551616) (h : notN a = true) : double.order a b = none := by
  obtain ⟨s, t, e⟩ := (read_nan ha).1 h
  unfold Format.order; rw [e]; rfl
theorem order_nan2 {a b : Nat} (hb : b < 18446744073709551616) (h : notN b = true) : double.order a b = none := by
  obtain ⟨s, t, e⟩ := (read_nan hb).1 h
  unfold Format.order; rw [e]
  cases double.read a <;> rfl

/-- a finite number: its digits, and how far they are moved up -/
def digits (r : Nat) : Nat := if r < 4503599627370496 then r else 4503599627370496 + r % 4503599627370496
def moved (r : Nat) : Nat := if r < 4503599627370496 then 0 else r / 4503599627370496 - 1
theorem dm (r : Nat) : moved r * 4503599627370496 + digits r = r := by
  unfold moved digits
  by_cases h : r < 4503599627370496
  · rw [if_pos h, if_pos h]; omega
  · rw [if_neg h, if_neg h]; omega
theorem digits_lt (r : Nat) : digits r < 9007199254740992 := by unfold digits; split <;> omega
theorem digits_ge (r : Nat) (h : 0 < moved r) : 4503599627370496 ≤ digits r := by
  unfold moved at h; unfold digits
  split at h
  · omega
  · rename_i h2; rw [if_neg h2]; omega
/-- a number's magnitude, in units of the least one -/
def mag (r : Nat) : Nat := digits r * 2 ^ moved r
theorem mag_lt {p q : Nat} (h : p < q) : mag p < mag q := by
  unfold mag
  have dp := dm p
  have dq := dm q
  have lp := digits_lt p
  have lq := digits_lt q
  rcases Nat.lt_trichotomy (moved p) (moved q) with hm | hm | hm
  · have gq := digits_ge q (by omega)
    obtain ⟨k, hk⟩ : ∃ k, moved q = moved p + 1 + k := ⟨moved q - moved p - 1, by omega⟩
    rw [hk, Nat.add_assoc, Nat.pow_add]
    have h2 : (2 : Nat) ^ (1 + k) = 2 * 2 ^ k := by rw [Nat.pow_add]
    have hk1 : 1 ≤ 2 ^ k := Nat.one_le_two_pow
    have hp := Nat.two_pow_pos (moved p)
    have h3 : digits p < digits q * (2 * 2 ^ k) := by
      have : digits q * (2 * 1) ≤ digits q * (2 * 2 ^ k) := Nat.mul_le_mul_left _ (by omega)
      omega
    rw [h2, Nat.mul_comm (2 ^ moved p), ← Nat.mul_assoc]
    exact Nat.mul_lt_mul_of_pos_right h3 hp
  · rw [hm] at dp ⊢
    exact Nat.mul_lt_mul_of_pos_right (by omega) (Nat.two_pow_pos _)
  · have gp := digits_ge p (by omega)
    omega
theorem mag_lt_iff (p q : Nat) : mag p < mag q ↔ p < q := by
  constructor
  · intro h
    rcases Nat.lt_trichotomy p q with h1 | h1 | h1
    · exact h1
    · subst h1; omega
    · have := mag_lt h1; omega
  · exact mag_lt

theorem read_num {b : Nat} (h : b % 9223372036854775808 < 9218868437227405312) : double.read b = .number (b / 9223372036854775808 % 2 == 1) (digits (b % 9223372036854775808)) (-1074 + (moved (b % 9223372036854775808) : Int)) := by
  unfold Format.read
  simp only [sw, bin, inf, least]
  unfold digits moved
  by_cases h1 : b % 9223372036854775808 < 4503599627370496
  · rw [if_pos h1, if_pos h1, if_pos h1]; rfl
  · rw [if_neg h1, if_pos h, if_neg h1, if_neg h1]
theorem read_inf {b : Nat} (h : b % 9223372036854775808 = 9218868437227405312) : double.read b = .infinity (b / 9223372036854775808 % 2 == 1) := by
  unfold Format.read
  simp only [sw, bin, inf, least]
  rw [if_neg (by omega), if_neg (by omega), if_pos h]
theorem sign_neg {b : Nat} (hb : b < 18446744073709551616) : (b / 9223372036854775808 % 2 == 1) = neg b := by
  unfold neg
  by_cases h : 9223372036854775808 ≤ b
  · rw [decide_eq_true h, beq_iff_eq]; omega
  · rw [decide_eq_false h, beq_eq_false_iff_ne]; omega
theorem signed_mag (s : Bool) (r base : Nat) (h : base ≤ moved r) : signed s (digits r) (moved r - base) * 2 ^ base = if s = true then -(mag r : Int) else (mag r : Int) := by
  rw [signed_eq]
  have e : ((digits r <<< (moved r - base) : Nat) : Int) * 2 ^ base = (mag r : Int) := by
    rw [Nat.shiftLeft_eq]
    unfold mag
    have : 2 ^ moved r = 2 ^ (moved r - base) * 2 ^ base := by rw [← Nat.pow_add]; congr 1; omega
    rw [this, ← Nat.mul_assoc, Int.natCast_mul]; rfl
  split
  · rw [Int.neg_mul, e]
  · exact e

theorem compare_of (x y u v : Int) (h : (x < y ↔ u < v) ∧ (y < x ↔ v < u)) : compare x y = compare u v := by
  rcases Int.lt_trichotomy x y with h1 | h1 | h1
  · rw [Int.compare_eq_lt.2 h1, Int.compare_eq_lt.2 (h.1.1 h1)]
  · have : u = v := by omega
    rw [h1, this]; simp
  · rw [Int.compare_eq_gt.2 h1, Int.compare_eq_gt.2 (h.2.1 h1)]

/-- THE ORDER OF NUMBERS -/
theorem order_sv {a b : Nat} (ha : a < 18446744073709551616) (hb : b < 18446744073709551616) (h1 : notN a = false) (h2 : notN b = false) : double.order a b = some (compare (sv a) (sv b)) := by
  have i1 := isnum ha h1
  have i2 := isnum hb h2
  have sa := sign_neg ha
  have sb := sign_neg hb
  unfold Format.order
  by_cases fa : a % 9223372036854775808 < 9218868437227405312
  · rw [read_num fa, sa]
    by_cases fb : b % 9223372036854775808 < 9218868437227405312
    · rw [read_num fb, sb]
      simp only [Datum.order]
      congr 1
      generalize hp : a % 9223372036854775808 = p at *
      generalize hq : b % 9223372036854775808 = q at *
      have hbase : min ((-1074 : Int) + (moved p : Int)) (-1074 + (moved q : Int)) = -1074 + ((min (moved p) (moved q) : Nat) : Int) := by omega
      rw [hbase]
      have t1 : ((-1074 : Int) + (moved p : Int) - (-1074 + ((min (moved p) (moved q) : Nat) : Int))).toNat = moved p - min (moved p) (moved q) := by omega
      have t2 : ((-1074 : Int) + (moved q : Int) - (-1074 + ((min (moved p) (moved q) : Nat) : Int))).toNat = moved q - min (moved p) (moved q) := by omega
      rw [t1, t2]
      have m1 := signed_mag (neg a) p (min (moved p) (moved q)) (by omega)
      have m2 := signed_mag (neg b) q (min (moved p) (moved q)) (by omega)
      have hpos : (0 : Int) < 2 ^ min (moved p) (moved q) := Int.pow_pos (by decide)
      have g1 := mag_lt_iff p q
      have g2 := mag_lt_iff q p
      have hz : mag 0 = 0 := rfl
      have z1 := mag_lt_iff 0 p
      have z2 := mag_lt_iff 0 q
      have va : sv a = if neg a = true then -(p : Int) else (p : Int) := by unfold sv; rw [hp]
      have vb : sv b = if neg b = true then -(q : Int) else (q : Int) := by unfold sv; rw [hq]
      rw [va, vb]
      refine compare_of _ _ _ _ ⟨?_, ?_⟩
      · rw [← Int.mul_lt_mul_right hpos, m1, m2]
        cases neg a <;> cases neg b <;> simp only [if_true, Bool.false_eq_true, if_false] <;> omega
      · rw [← Int.mul_lt_mul_right hpos, m1, m2]
        cases neg a <;> cases neg b <;> simp only [if_true, Bool.false_eq_true, if_false] <;> omega
    · have fb' : b % 9223372036854775808 = 9218868437227405312 := by omega
      rw [read_inf fb', sb]
      show some (if neg b = true then Ordering.gt else .lt) = _
      congr 1
      unfold sv
      rw [fb']
      cases neg b <;> cases neg a <;> simp only [if_true, Bool.false_eq_true, if_false] <;> symm <;> first | (rw [Int.compare_eq_gt]; omega) | (rw [Int.compare_eq_lt]; omega)
  · have fa' : a % 9223372036854775808 = 9218868437227405312 := by omega
    rw [read_inf fa', sa]
    by_cases fb : b % 9223372036854775808 < 9218868437227405312
    · rw [read_num fb, sb]
      show some (if neg a = true then Ordering.lt else .gt) = _
      congr 1
      unfold sv
      rw [fa']
      cases neg b <;> cases neg a <;> simp only [if_true, Bool.false_eq_true, if_false] <;> symm <;> first | (rw [Int.compare_eq_gt]; omega) | (rw [Int.compare_eq_lt]; omega)
    · have fb' : b % 9223372036854775808 = 9218868437227405312 := by omega
      rw [read_inf fb', sb]
      show some (compare (neg b).toNat (neg a).toNat) = _
      congr 1
      unfold sv
      rw [fa', fb']
      cases neg a <;> cases neg b <;> decide +kernel

/-- which numbers are unlike themselves -/
theorem order_self {a : Nat} (ha : a < 18446744073709551616) : (double.order a a != some .eq) = notN a := by
  cases h : notN a with
  | true => rw [order_nan ha h]; rfl
  | false => rw [order_sv ha ha h h]; simp
theorem order_self_eq {a : Nat} (ha : a < 18446744073709551616) : (double.order a a == some .eq) = !notN a := by
  cases h : notN a with
  | true => rw [order_nan ha h]; rfl
  | false => rw [order_sv ha ha h h]; simp
end Go.Proofs.Ytnhgoeoffjcooaa.Heat
