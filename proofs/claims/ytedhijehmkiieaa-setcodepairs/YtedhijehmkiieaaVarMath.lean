/-
  Plain mathematics of layer 1's bytes (no program text is spoken of here): a number's bytes by sevens, what stands at the head of bytes, there and back, and that no number's bytes begin with another one's.
-/
import Derived.Laws.BitsAllLaws
namespace Go.Proofs.Ytedhijehmkiieaa.Var

/-- a number's bytes -/
def num (x : Nat) : List UInt8 := if x < 128 then [UInt8.ofNat x] else UInt8.ofNat (128 + x % 128) :: num (x / 128)
termination_by x
decreasing_by omega

theorem num_lt {x : Nat} (h : x < 128) : num x = [UInt8.ofNat x] := by rw [num, if_pos h]
theorem num_ge {x : Nat} (h : ¬ x < 128) : num x = UInt8.ofNat (128 + x % 128) :: num (x / 128) := by rw [num, if_neg h]

theorem num_length : ∀ (n x : Nat), x < 128 ^ (n + 1) → (num x).length ≤ n + 1
  | 0, x, h => by rw [num_lt (by simpa using h)]; simp
  | n + 1, x, h => by
    by_cases hx : x < 128
    · rw [num_lt hx]; simp
    · rw [num_ge hx]
      have := num_length n (x / 128) (by rw [Nat.div_lt_iff_lt_mul (by omega)]; rw [Nat.pow_succ] at h; exact h)
      simp only [List.length_cons]; omega
theorem num_ten (x : Nat) (h : x < 18446744073709551616) : (num x).length ≤ 10 := num_length 9 x (by omega)
theorem num_pos (x : Nat) : 1 ≤ (num x).length := by
  by_cases hx : x < 128
  · rw [num_lt hx]; simp
  · rw [num_ge hx]; simp

/-- what stands at the head of bytes: the number, how many bytes it has, the error's number -/
def hd : Nat → Nat → List UInt8 → Nat × Nat × Nat
  | _, _, [] => (0, 0, 2)
  | i, acc, b :: r =>
    if (0 < i ∧ b.toNat = 0) ∨ (i = 9 ∧ 1 < b.toNat) then (0, 0, 3)
    else if b.toNat < 128 then (acc + b.toNat * 128 ^ i, i + 1, 0)
    else hd (i + 1) (acc + b.toNat % 128 * 128 ^ i) r

theorem hd_num : ∀ (n x : Nat), x ≤ n → ∀ (i acc : Nat) (t : List UInt8), x * 128 ^ i < 18446744073709551616 → (i = 0 ∨ 0 < x) →
    hd i acc (num x ++ t) = (acc + x * 128 ^ i, i + (num x).length, 0)
  | 0, x, hn, i, acc, t, h1, h2 => by
    have hx : x = 0 := by omega
    subst hx
    have hi : i = 0 := by omega
    subst hi
    rw [num_lt (by omega)]; simp [hd]
  | n + 1, x, hn, i, acc, t, h1, h2 => by
    have h9 : (128 : Nat) ^ 9 = 9223372036854775808 := by decide
    by_cases hx : x < 128
    · rw [num_lt hx]
      have e : (UInt8.ofNat x).toNat = x := by rw [UInt8.toNat_ofNat']; omega
      simp only [List.cons_append, List.nil_append, hd, e, List.length_cons, List.length_nil, Nat.zero_add]
      rw [if_neg, if_pos hx]
      rintro (⟨ha, hb⟩ | ⟨rfl, hb⟩)
      · omega
      · rw [h9] at h1; omega
    · rw [num_ge hx]
      have e : (UInt8.ofNat (128 + x % 128)).toNat = 128 + x % 128 := by rw [UInt8.toNat_ofNat']; omega
      simp only [List.cons_append, hd, e, List.length_cons]
      have hne : ¬ i = 9 := by rintro rfl; rw [h9] at h1; omega
      rw [if_neg (by omega), if_neg (by omega)]
      have ep : x / 128 * 128 ^ (i + 1) ≤ x * 128 ^ i := by
        rw [Nat.pow_succ, Nat.mul_comm (128 ^ i), ← Nat.mul_assoc]
        exact Nat.mul_le_mul_right _ (Nat.div_mul_le_self x 128)
      rw [hd_num n (x / 128) (by omega) (i + 1) _ t (by omega) (by omega)]
      have e2 : (128 + x % 128) % 128 = x % 128 := by omega
      have e3 : acc + x % 128 * 128 ^ i + x / 128 * 128 ^ (i + 1) = acc + x * 128 ^ i := by
        rw [Nat.pow_succ, Nat.mul_comm (128 ^ i), ← Nat.mul_assoc, Nat.add_assoc, ← Nat.add_mul]
        congr 2; omega
      rw [e2, e3]
      have : i + 1 + (num (x / 128)).length = i + ((num (x / 128)).length + 1) := by omega
      rw [this]

theorem hd_back (x : Nat) (h : x < 18446744073709551616) (t : List UInt8) : hd 0 0 (num x ++ t) = (x, (num x).length, 0) := by
  have := hd_num x x (Nat.le_refl _) 0 0 t (by simpa using h) (.inl rfl)
  simpa using this

/-- NO NUMBER's BYTES BEGIN WITH ANOTHER ONE's -/
theorem num_begins (x y : Nat) (hx : x < 18446744073709551616) (hy : y < 18446744073709551616) (t : List UInt8) (h : num y = num x ++ t) : x = y := by
  have a := hd_back x hx t
  have b := hd_back y hy []
  rw [List.append_nil, h, a] at b
  exact (Prod.mk.inj b).1

end Go.Proofs.Ytedhijehmkiieaa.Var
