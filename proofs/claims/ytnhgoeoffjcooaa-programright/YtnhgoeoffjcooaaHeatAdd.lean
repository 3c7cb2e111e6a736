/-
  Plain mathematics of adding heats (no program text is spoken of here): IEEE 754's sum of two numbers of 64 bits, as the model has it: both ways alike; with a nought below it is the same; which sums are none.
-/
import Derived.Laws.FloatArith
import Derived.Test.YtnhgoeoffjcooaaHeatMath
namespace Go.Proofs.Ytnhgoeoffjcooaa.Heat
open Ieee

theorem sw : double.signWeight = 9223372036854775808 := by decide +kernel
theorem bin : double.binade = 4503599627370496 := by decide +kernel
theorem inf : double.infRung = 9218868437227405312 := by decide +kernel

theorem sum_comm : ∀ a b : Datum, a.sum b = b.sum a
  | .nan .., .nan .. => rfl
  | .nan .., .infinity _ => rfl
  | .nan .., .number .. => rfl
  | .infinity _, .nan .. => rfl
  | .number .., .nan .. => rfl
  | .infinity s, .infinity t => by
    simp only [Datum.sum]
    by_cases h : s = t
    · rw [if_pos h, if_pos h.symm, h]
    · rw [if_neg h, if_neg (fun e => h e.symm)]
  | .infinity s, .number .. => rfl
  | .number .., .infinity s => rfl
  | .number s m i, .number t n j => by
    simp only [Datum.sum]
    rw [Int.min_comm j i, Int.add_comm (signed t n _), Bool.and_comm t s]
theorem add_comm (x y : Nat) : double.add x y = double.add y x := by unfold Format.add; rw [sum_comm]

/-- what a word stands for -/
theorem read_nan {b : Nat} (hb : b < 18446744073709551616) : (notN b = true ↔ ∃ s t, double.read b = .nan s t) := by
  rw [not_iff b hb]
  unfold Format.read
  simp only [sw, bin, inf]
  constructor
  · intro h
    rw [if_neg (by omega), if_neg (by omega), if_neg (by omega)]
    exact ⟨_, _, rfl⟩
  · rintro ⟨s, t, h⟩
    by_cases h1 : b % 9223372036854775808 < 4503599627370496
    · rw [if_pos h1] at h; cases h
    · rw [if_neg h1] at h
      by_cases h2 : b % 9223372036854775808 < 9218868437227405312
      · rw [if_pos h2] at h; cases h
      · rw [if_neg h2] at h
        by_cases h3 : b % 9223372036854775808 = 9218868437227405312
        · rw [if_pos h3] at h; cases h
        · omega
theorem add_nan {x y : Nat} (hx : x < 18446744073709551616) (h : notN x = true) : double.add x y = none := by
  obtain ⟨s, t, e⟩ := (read_nan hx).1 h
  unfold Format.add; rw [e]; rfl
theorem add_nan2 {x y : Nat} (hy : y < 18446744073709551616) (h : notN y = true) : double.add x y = none := by rw [add_comm]; exact add_nan hy h
theorem add_infs : double.add 9218868437227405312 18442240474082181120 = none := by decide +kernel

/-- a sum that there is, is a number -/
theorem word_num {s : Bool} {r : Nat} (h : r ≤ 9218868437227405312) : notN (double.word s r) = false ∧ double.word s r < 18446744073709551616 := by
  have hw : double.word s r < 18446744073709551616 := by unfold Format.word; rw [sw]; split <;> omega
  refine ⟨?_, hw⟩
  rw [Bool.eq_false_iff]
  intro e
  have := (not_iff _ hw).1 e
  unfold Format.word at this
  rw [sw] at this
  split at this <;> omega
theorem write_num {d : Datum} (h : d.isNaN = false) : notN (double.write d) = false ∧ double.write d < 18446744073709551616 := by
  cases d with
  | number s m p =>
    unfold Format.write Format.nearest
    dsimp only
    split
    · exact word_num (by omega)
    · exact word_num (by rw [inf]; exact Nat.min_le_right _ _)
  | infinity s => exact word_num (by rw [inf]; omega)
  | nan s t => cases h
theorem sum_num {a b d : Datum} (h : a.sum b = some d) : d.isNaN = false := by
  cases a with
  | nan => cases b <;> cases h
  | infinity s =>
    cases b with
    | nan => cases h
    | infinity t =>
      simp only [Datum.sum] at h
      split at h
      · cases h; rfl
      · cases h
    | number => cases h; rfl
  | number s m i =>
    cases b with
    | nan => cases h
    | infinity t => cases h; rfl
    | number t n j => simp only [Datum.sum] at h; cases h; rfl
theorem add_num {x y r : Nat} (h : double.add x y = some r) : notN r = false ∧ r < 18446744073709551616 := by
  unfold Format.add at h
  cases hs : (double.read x).sum (double.read y) with
  | none => rw [hs] at h; cases h
  | some d =>
    rw [hs] at h
    simp only [Option.map_some, Option.some.injEq] at h
    subst h
    exact write_num (sum_num hs)

theorem least : double.leastPlace = -1074 := by decide +kernel
theorem frac : double.fractionBits = 52 := rfl

/-- a number of the format is written as it was read -/
theorem nearest_exact (s : Bool) (mant e : Nat) (h : (e = 0 ∧ mant < 4503599627370496) ∨ (4503599627370496 ≤ mant ∧ mant < 9007199254740992)) (hr : e * 4503599627370496 + mant ≤ 9218868437227405312) :
    double.nearest s (mant <<< e) (-1074) = double.word s (e * 4503599627370496 + mant) := by
  unfold Format.nearest
  rw [least, bin, inf, frac]
  dsimp only
  by_cases h0 : mant <<< e = 0
  · rw [if_pos h0]
    have hm : mant = 0 := by
      rw [Nat.shiftLeft_eq] at h0
      rcases Nat.mul_eq_zero.1 h0 with h1 | h1
      · exact h1
      · have := Nat.two_pow_pos e; omega
    have he : e = 0 := by omega
    subst hm he
    rfl
  · rw [if_neg h0]
    have hm : mant ≠ 0 := by rintro rfl; exact h0 (by simp)
    have hpos := Nat.two_pow_pos e
    have hlog : (e = 0 ∧ (mant <<< e).log2 ≤ 51) ∨ (mant <<< e).log2 = 52 + e := by
      rcases h with ⟨he, hlt⟩ | ⟨hge, hlt⟩
      · left
        refine ⟨he, ?_⟩
        have := (Nat.log2_lt (k := 52) h0).2 (by rw [Nat.shiftLeft_eq, he]; omega)
        omega
      · right
        have a := (Nat.le_log2 (k := 52 + e) h0).2 (by rw [Nat.shiftLeft_eq, Nat.pow_add]; exact Nat.mul_le_mul_right _ hge)
        have b := (Nat.log2_lt (k := 53 + e) h0).2 (by rw [Nat.shiftLeft_eq, Nat.pow_add]; exact Nat.mul_lt_mul_of_pos_right hlt hpos)
        omega
    have hlast : max ((-1074 : Int) + ((mant <<< e).log2 : Int) - (52 : Nat)) (-1074) = -1074 + (e : Int) := by
      rcases hlog with ⟨he, hl⟩ | hl <;> omega
    rw [hlast]
    have e1 : ((-1074 : Int) - (-1074 + (e : Int))).toNat = 0 := by omega
    have e2 : ((-1074 : Int) + (e : Int) - -1074).toNat = e := by omega
    rw [e1, e2]
    have hcut : Toward.even.cut s (mant <<< e <<< 0) e = mant := by
      unfold Toward.cut
      dsimp only
      rw [Nat.shiftLeft_zero]
      have hmin : min e ((mant <<< e).log2 + 2) = e := by rcases hlog with ⟨he, hl⟩ | hl <;> omega
      rw [hmin]
      have hg : 1 <<< e = 2 ^ e := by rw [Nat.shiftLeft_eq, Nat.one_mul]
      rw [hg, Nat.shiftLeft_eq, Nat.mul_div_cancel _ hpos, Nat.mul_mod_left]
      have h1 : decide (2 ^ e < 2 * 0) = false := by rw [decide_eq_false_iff_not]; omega
      have h2 : (2 ^ e == 2 * 0) = false := by rw [beq_eq_false_iff_ne]; omega
      rw [h1, h2]
      rfl
    rw [hcut, Nat.min_eq_left hr]

theorem word_back {b : Nat} (hb : b < 18446744073709551616) : double.word (b / 9223372036854775808 % 2 == 1) (b % 9223372036854775808) = b := by
  unfold Format.word
  rw [sw]
  by_cases h : (b / 9223372036854775808 % 2 == 1) = true
  · rw [if_pos h]; rw [beq_iff_eq] at h; omega
  · rw [if_neg h]; rw [beq_iff_eq] at h; omega

theorem signed_eq (s : Bool) (m up : Nat) : signed s m up = if s = true then -((m <<< up : Nat) : Int) else ((m <<< up : Nat) : Int) := rfl
theorem signed_natAbs (s : Bool) (m up : Nat) : (signed s m up).natAbs = m <<< up := by
  rw [signed_eq]; generalize m <<< up = q; split <;> omega
theorem signed_zero (s : Bool) (up : Nat) : signed s 0 up = 0 := by rw [signed_eq, Nat.zero_shiftLeft]; split <;> rfl
theorem signed_sign (s : Bool) (m up : Nat) (h : signed s m up ≠ 0) : decide (signed s m up < 0) = s := by
  rw [signed_eq] at *
  generalize m <<< up = q at *
  cases s with
  | true => rw [if_pos rfl] at *; rw [decide_eq_true_iff]; omega
  | false => rw [if_neg (by decide)] at *; rw [decide_eq_false_iff_not]; omega

theorem read_negzero : double.read 9223372036854775808 = .number true 0 (-1074) := by decide +kernel

/-- WITH A NOUGHT BELOW IT IS THE SAME -/
theorem add_negzero {x : Nat} (hx : x < 18446744073709551616) (hn : notN x = false) : double.add x 9223372036854775808 = some x := by
  have hi := isnum hx hn
  unfold Format.add
  rw [read_negzero]
  have key : ∀ (s : Bool) (mant e : Nat), ((e = 0 ∧ mant < 4503599627370496) ∨ (4503599627370496 ≤ mant ∧ mant < 9007199254740992)) → e * 4503599627370496 + mant ≤ 9218868437227405312 →
      ((Datum.number s mant (-1074 + (e : Int))).sum (.number true 0 (-1074))).map double.write = some (double.word s (e * 4503599627370496 + mant)) := by
    intro s mant e h hr
    simp only [Datum.sum]
    have hmin : min ((-1074 : Int) + (e : Int)) (-1074) = -1074 := by omega
    rw [hmin]
    have e1 : ((-1074 : Int) + (e : Int) - -1074).toNat = e := by omega
    rw [e1, signed_zero, Int.add_zero, signed_natAbs, Bool.and_true]
    have hsg : (if signed s mant e = 0 then s else decide (signed s mant e < 0)) = s := by
      split
      · rfl
      · exact signed_sign s mant e (by assumption)
    rw [hsg]
    show some (double.nearest s (mant <<< e) (-1074)) = _
    rw [nearest_exact s mant e h hr]
  have hw := word_back hx
  unfold Format.read
  simp only [sw, bin, inf, least]
  by_cases h1 : x % 9223372036854775808 < 4503599627370496
  · rw [if_pos h1]
    have := key (x / 9223372036854775808 % 2 == 1) (x % 9223372036854775808) 0 (.inl ⟨rfl, h1⟩) (by omega)
    simp only [Int.natCast_zero, Int.add_zero, Nat.zero_mul, Nat.zero_add] at this
    rw [hw] at this
    exact this
  · rw [if_neg h1]
    by_cases h2 : x % 9223372036854775808 < 9218868437227405312
    · rw [if_pos h2]
      have e3 : (x % 9223372036854775808 / 4503599627370496 - 1) * 4503599627370496 + (4503599627370496 + x % 9223372036854775808 % 4503599627370496) = x % 9223372036854775808 := by omega
      have := key (x / 9223372036854775808 % 2 == 1) (4503599627370496 + x % 9223372036854775808 % 4503599627370496) (x % 9223372036854775808 / 4503599627370496 - 1) (.inr (by omega)) (by omega)
      rw [e3, hw] at this
      exact this
    · rw [if_neg h2]
      by_cases h3 : x % 9223372036854775808 = 9218868437227405312
      · rw [if_pos h3]
        show some (double.word _ double.infRung) = _
        rw [inf, ← h3, hw]
      · omega
end Go.Proofs.Ytnhgoeoffjcooaa.Heat
