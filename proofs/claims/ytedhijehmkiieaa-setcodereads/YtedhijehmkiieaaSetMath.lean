/-
  Plain mathematics of layer 13 (no program text is spoken of here): sets and pairs as bytes, there and back; of any bytes at most one set, and one list of pairs.
-/
import Derived.Test.YtedhijehmkiieaaVarMath
namespace Go.Proofs.Ytedhijehmkiieaa.Sc

theorem hd_inv : ∀ (l : List UInt8) (i acc x n : Nat), Var.hd i acc l = (x, n, 0) → ∃ y t, l = Var.num y ++ t ∧ n = i + (Var.num y).length ∧ x = acc + y * 128 ^ i ∧ (0 < i → 0 < y)
  | [], i, acc, x, n, h => by simp [Var.hd] at h
  | b :: r, i, acc, x, n, h => by
    rw [Var.hd] at h
    have hb := b.toNat_lt
    by_cases h1 : (0 < i ∧ b.toNat = 0) ∨ (i = 9 ∧ 1 < b.toNat)
    · rw [if_pos h1] at h; simp at h
    · rw [if_neg h1] at h
      by_cases h2 : b.toNat < 128
      · rw [if_pos h2] at h
        simp only [Prod.mk.injEq] at h
        refine ⟨b.toNat, r, ?_, ?_, by omega, fun hi => by omega⟩
        · rw [Var.num_lt h2]; simp
        · rw [Var.num_lt h2]; simp; omega
      · rw [if_neg h2] at h
        obtain ⟨y, t, e1, e2, e3, e4⟩ := hd_inv r _ _ _ _ h
        have hy := e4 (by omega)
        refine ⟨b.toNat % 128 + 128 * y, t, ?_, ?_, ?_, fun _ => by omega⟩
        · rw [Var.num_ge (by omega), e1]
          have : UInt8.ofNat (128 + (b.toNat % 128 + 128 * y) % 128) = b := by
            apply UInt8.toNat_inj.1
            rw [UInt8.toNat_ofNat']
            omega
          rw [this, show (b.toNat % 128 + 128 * y) / 128 = y by omega]; rfl
        · rw [Var.num_ge (by omega), show (b.toNat % 128 + 128 * y) / 128 = y by omega, List.length_cons]; omega
        · rw [e3, Nat.add_mul, Nat.pow_succ]
          have : 128 * y * 128 ^ i = y * (128 ^ i * 128) := by rw [Nat.mul_comm 128 y, Nat.mul_assoc, Nat.mul_comm 128]
          omega
theorem hd_inv0 {l : List UInt8} {x n : Nat} (h : Var.hd 0 0 l = (x, n, 0)) : ∃ t, l = Var.num x ++ t ∧ n = (Var.num x).length := by
  obtain ⟨y, t, e1, e2, e3, _⟩ := hd_inv l 0 0 x n h
  have : x = y := by simpa using e3
  subst this
  exact ⟨t, e1, by omega⟩


/-- the bytes of the numbers from a number on -/
def encL (least : Int) : List Int → List UInt8
  | [] => []
  | x :: r => Var.num (x - least).toNat ++ encL (x + 1) r
def enc (xs : List Int) : List UInt8 := Var.num xs.length ++ encL 0 xs
/-- do numbers rise from a number on, and are none too great? -/
def okL (least : Int) : List Int → Prop
  | [] => True
  | x :: r => least ≤ x ∧ x ≤ 2147483647 ∧ okL (x + 1) r

/-- number by number, the first error, and at the end all bytes must be gone -/
def dec : Nat → Nat → List Int → List UInt8 → List Int × Nat
  | 0, _, acc, s => if s = [] then (acc, 0) else ([], 3)
  | n + 1, least, acc, s =>
    if (Var.hd 0 0 s).2.2 ≠ 0 then ([], (Var.hd 0 0 s).2.2) else if 2147483647 < (Var.hd 0 0 s).1 then ([], 4)
    else if 2147483647 < least + (Var.hd 0 0 s).1 then ([], 1)
    else dec n (least + (Var.hd 0 0 s).1 + 1) (acc ++ [((least + (Var.hd 0 0 s).1 : Nat) : Int)]) (s.drop (Var.hd 0 0 s).2.1)
def decode (s : List UInt8) : List Int × Nat :=
  if (Var.hd 0 0 s).2.2 ≠ 0 then ([], (Var.hd 0 0 s).2.2) else if 2147483647 < (Var.hd 0 0 s).1 then ([], 4)
  else dec (Var.hd 0 0 s).1 0 [] (s.drop (Var.hd 0 0 s).2.1)

theorem dec_enc : ∀ (xs : List Int) (least : Nat) (acc : List Int), okL (least : Int) xs → dec xs.length least acc (encL (least : Int) xs) = (acc ++ xs, 0)
  | [], least, acc, _ => by simp [dec, encL]
  | x :: r, least, acc, h => by
    obtain ⟨h1, h2, h3⟩ := h
    have e := Var.hd_back (x - least).toNat (by omega) (encL (x + 1) r)
    show dec (r.length + 1) least acc (Var.num (x - least).toNat ++ encL (x + 1) r) = _
    rw [dec, e]
    simp only [ne_eq, not_true, if_false]
    rw [if_neg (by omega), if_neg (by omega), List.drop_left]
    have e1 : ((least + (x - (least : Int)).toNat : Nat) : Int) = x := by omega
    have e2 : x + 1 = ((least + (x - (least : Int)).toNat + 1 : Nat) : Int) := by omega
    rw [e1, e2, dec_enc r _ _ (by rw [← e2]; exact h3), List.append_assoc]; rfl
theorem decode_enc (xs : List Int) (hl : xs.length ≤ 2147483647) (h : okL 0 xs) : decode (enc xs) = (xs, 0) := by
  have e := Var.hd_back xs.length (by omega) (encL 0 xs)
  unfold decode enc
  rw [e]
  simp only [ne_eq, not_true, if_false]
  rw [if_neg (by omega), List.drop_left]
  have := dec_enc xs 0 [] h
  simpa using this
theorem enc_inj (xs ys : List Int) (hl : xs.length ≤ 2147483647) (hl2 : ys.length ≤ 2147483647) (h : okL 0 xs) (h2 : okL 0 ys) (he : enc xs = enc ys) : xs = ys := by
  have a := decode_enc xs hl h
  rw [he, decode_enc ys hl2 h2] at a
  exact (Prod.mk.inj a).1.symm

theorem dec_back : ∀ (n : Nat) (least : Nat) (acc l : List Int) (s : List UInt8), dec n least acc s = (l, 0) → ∃ xs, l = acc ++ xs ∧ xs.length = n ∧ s = encL (least : Int) xs ∧ okL (least : Int) xs
  | 0, least, acc, l, s, h => by
    rw [dec] at h
    by_cases hs : s = []
    · rw [if_pos hs] at h
      exact ⟨[], by rw [List.append_nil]; exact (Prod.mk.inj h).1.symm, rfl, hs, trivial⟩
    · rw [if_neg hs] at h; exact absurd (Prod.mk.inj h).2 (by decide)
  | n + 1, least, acc, l, s, h => by
    rw [dec] at h
    obtain ⟨x, m, f, hr⟩ : ∃ x m f, Var.hd 0 0 s = (x, m, f) := ⟨_, _, _, rfl⟩
    rw [hr] at h
    simp only at h
    by_cases hf : f = 0
    · subst hf
      rw [if_neg (by simp)] at h
      by_cases hx : 2147483647 < x
      · rw [if_pos hx] at h; exact absurd (Prod.mk.inj h).2 (by decide)
      · rw [if_neg hx] at h
        by_cases hy : 2147483647 < least + x
        · rw [if_pos hy] at h; exact absurd (Prod.mk.inj h).2 (by decide)
        · rw [if_neg hy] at h
          obtain ⟨t, e1, e2⟩ := hd_inv0 hr
          obtain ⟨xs, h1, h2, h3, h4⟩ := dec_back n _ _ l _ h
          rw [e1, e2, List.drop_left] at h3
          refine ⟨((least + x : Nat) : Int) :: xs, by rw [h1, List.append_assoc]; rfl, by rw [List.length_cons, h2], ?_, ?_⟩
          · show s = Var.num (((least + x : Nat) : Int) - (least : Int)).toNat ++ encL (((least + x : Nat) : Int) + 1) xs
            have e3 : (((least + x : Nat) : Int) - (least : Int)).toNat = x := by omega
            have e4 : ((least + x : Nat) : Int) + 1 = ((least + x + 1 : Nat) : Int) := by omega
            rw [e3, e4, e1, h3]
          · refine ⟨by omega, by omega, ?_⟩
            have e4 : ((least + x : Nat) : Int) + 1 = ((least + x + 1 : Nat) : Int) := by omega
            rw [e4]; exact h4
    · rw [if_pos hf] at h
      exact absurd (Prod.mk.inj h).2 hf
theorem decode_back {s : List UInt8} {l : List Int} (h : decode s = (l, 0)) : s = enc l ∧ okL 0 l ∧ l.length ≤ 2147483647 := by
  unfold decode at h
  obtain ⟨x, m, f, hr⟩ : ∃ x m f, Var.hd 0 0 s = (x, m, f) := ⟨_, _, _, rfl⟩
  rw [hr] at h
  simp only at h
  by_cases hf : f = 0
  · subst hf
    rw [if_neg (by simp)] at h
    by_cases hx : 2147483647 < x
    · rw [if_pos hx] at h; exact absurd (Prod.mk.inj h).2 (by decide)
    · rw [if_neg hx] at h
      obtain ⟨t, e1, e2⟩ := hd_inv0 hr
      obtain ⟨xs, h1, h2, h3, h4⟩ := dec_back x 0 [] l _ h
      rw [List.nil_append] at h1
      subst h1
      rw [e1, e2, List.drop_left] at h3
      refine ⟨?_, h4, by omega⟩
      unfold enc
      rw [h2, e1, h3]; rfl
  · rw [if_pos hf] at h
    exact absurd (Prod.mk.inj h).2 hf

/-! ### sizes -/
theorem encL_small : ∀ (xs : List Int) (least : Int), (∀ i (h : i < xs.length), 0 ≤ xs[i] - (if i = 0 then least else xs[i - 1]'(by omega) + 1) ∧ xs[i] - (if i = 0 then least else xs[i - 1]'(by omega) + 1) < 128) → (encL least xs).length = xs.length
  | [], _, _ => rfl
  | x :: r, least, h => by
    have h0 := h 0 (by simp)
    simp only [List.getElem_cons_zero, if_true] at h0
    show (Var.num (x - least).toNat ++ encL (x + 1) r).length = _
    rw [Var.num_lt (by omega), List.length_append, encL_small r (x + 1) ?_]
    · simp; omega
    · intro i hi
      have := h (i + 1) (by simp; omega)
      simp only [List.getElem_cons_succ, Nat.add_sub_cancel] at this
      rw [if_neg (by omega)] at this
      by_cases hi0 : i = 0
      · subst hi0; simpa using this
      · rw [if_neg hi0]
        obtain ⟨j, rfl⟩ : ∃ j, i = j + 1 := ⟨i - 1, by omega⟩
        simpa using this

/-! ### pairs -/
def encP : List (Int × Int) → List UInt8
  | [] => []
  | p :: r => Var.num p.1.toNat ++ (Var.num p.2.toNat ++ encP r)
def encPs (l : List (Int × Int)) : List UInt8 := Var.num l.length ++ encP l
def pmay (p : Int × Int) : Prop := 0 ≤ p.1 ∧ p.1 ≤ 2147483647 ∧ 0 ≤ p.2 ∧ p.2 ≤ 2147483647
/-- is a pair above one? -/
def plt (p q : Int × Int) : Bool := decide (p.1 < q.1) || (decide (p.1 = q.1) && decide (p.2 < q.2))
def prise : List (Int × Int) → Bool
  | [] => true
  | [_] => true
  | p :: q :: l => plt p q && prise (q :: l)
theorem prise_drop (l : List (Int × Int)) (k : Nat) (h : k + 1 < l.length) : prise (l.drop k) = (plt l[k] l[k + 1] && prise (l.drop (k + 1))) := by
  rw [List.drop_eq_getElem_cons (show k < l.length by omega), List.drop_eq_getElem_cons h, prise]
theorem prise_end (l : List (Int × Int)) (k : Nat) (h : l.length ≤ k + 1) : prise (l.drop k) = true := by
  rcases Nat.lt_or_ge k l.length with h1 | h1
  · rw [List.drop_eq_getElem_cons h1, List.drop_eq_nil_of_le (by omega)]; rfl
  · rw [List.drop_eq_nil_of_le h1]; rfl

/-- one number of a pair: the error, or the number and what is left -/
def one (s : List UInt8) : Nat × Nat × List UInt8 :=
  if (Var.hd 0 0 s).2.2 ≠ 0 then ((Var.hd 0 0 s).2.2, 0, []) else if 2147483647 < (Var.hd 0 0 s).1 then (4, 0, []) else (0, (Var.hd 0 0 s).1, s.drop (Var.hd 0 0 s).2.1)
def decP : Nat → List (Int × Int) → List UInt8 → List (Int × Int) × Nat
  | 0, acc, s => if s = [] then (if prise acc = true then (acc, 0) else ([], 1)) else ([], 3)
  | n + 1, acc, s =>
    if (one s).1 ≠ 0 then ([], (one s).1)
    else if (one (one s).2.2).1 ≠ 0 then ([], (one (one s).2.2).1)
    else decP n (acc ++ [(((one s).2.1 : Int), ((one (one s).2.2).2.1 : Int))]) (one (one s).2.2).2.2
def decodeP (s : List UInt8) : List (Int × Int) × Nat := if (one s).1 ≠ 0 then ([], (one s).1) else decP (one s).2.1 [] (one s).2.2

theorem one_num (x : Nat) (hx : x ≤ 2147483647) (t : List UInt8) : one (Var.num x ++ t) = (0, x, t) := by
  unfold one
  rw [Var.hd_back x (by omega) t]
  simp only [ne_eq, not_true, if_false]
  rw [if_neg (by omega), List.drop_left]
theorem one_inv {s t : List UInt8} {x : Nat} (h : one s = (0, x, t)) : s = Var.num x ++ t ∧ x ≤ 2147483647 := by
  unfold one at h
  obtain ⟨y, m, f, hr⟩ : ∃ x m f, Var.hd 0 0 s = (x, m, f) := ⟨_, _, _, rfl⟩
  rw [hr] at h
  simp only at h
  by_cases hf : f = 0
  · subst hf
    rw [if_neg (by simp)] at h
    by_cases hx : 2147483647 < y
    · rw [if_pos hx] at h; exact absurd (Prod.mk.inj h).1 (by decide)
    · rw [if_neg hx] at h
      obtain ⟨u, e1, e2⟩ := hd_inv0 hr
      obtain ⟨_, h2⟩ := Prod.mk.inj h
      obtain ⟨h3, h4⟩ := Prod.mk.inj h2
      subst h3
      rw [e1, e2, List.drop_left] at h4
      subst h4
      exact ⟨e1, by omega⟩
  · rw [if_pos hf] at h
    exact absurd (Prod.mk.inj h).1 hf
theorem decP_enc : ∀ (l : List (Int × Int)) (acc : List (Int × Int)), (∀ p ∈ l, pmay p) → prise (acc ++ l) = true → decP l.length acc (encP l) = (acc ++ l, 0)
  | [], acc, _, h => by
    rw [List.append_nil] at h ⊢
    show (if ([] : List UInt8) = [] then _ else _) = _
    rw [if_pos rfl, if_pos h]
  | p :: r, acc, hm, h => by
    obtain ⟨h1, h2, h3, h4⟩ := hm p (by simp)
    show decP (r.length + 1) acc (Var.num p.1.toNat ++ (Var.num p.2.toNat ++ encP r)) = _
    rw [decP, one_num p.1.toNat (by omega)]
    simp only [ne_eq, not_true, if_false]
    rw [one_num p.2.toNat (by omega)]
    simp only [not_true, if_false]
    have e : ((p.1.toNat : Int), (p.2.toNat : Int)) = p := by
      obtain ⟨a, b⟩ := p
      simp only at h1 h3 ⊢
      rw [Int.toNat_of_nonneg h1, Int.toNat_of_nonneg h3]
    rw [e, decP_enc r _ (fun q hq => hm q (by simp [hq])) (by rw [List.append_assoc]; exact h), List.append_assoc]; rfl
theorem decodeP_enc (l : List (Int × Int)) (hl : l.length ≤ 2147483647) (hm : ∀ p ∈ l, pmay p) (h : prise l = true) : decodeP (encPs l) = (l, 0) := by
  unfold decodeP encPs
  rw [one_num _ hl]
  simp only [ne_eq, not_true, if_false]
  exact decP_enc l [] hm h
theorem decP_back : ∀ (n : Nat) (acc l : List (Int × Int)) (s : List UInt8), decP n acc s = (l, 0) → ∃ r, l = acc ++ r ∧ r.length = n ∧ s = encP r ∧ (∀ p ∈ r, pmay p) ∧ prise l = true
  | 0, acc, l, s, h => by
    rw [decP] at h
    by_cases hs : s = []
    · rw [if_pos hs] at h
      by_cases hp : prise acc = true
      · rw [if_pos hp] at h
        have := (Prod.mk.inj h).1
        subst this
        exact ⟨[], by simp, rfl, hs, fun p hp => (by cases hp), hp⟩
      · rw [if_neg hp] at h; exact absurd (Prod.mk.inj h).2 (by decide)
    · rw [if_neg hs] at h; exact absurd (Prod.mk.inj h).2 (by decide)
  | n + 1, acc, l, s, h => by
    rw [decP] at h
    obtain ⟨f, x, t, hr⟩ : ∃ f x t, one s = (f, x, t) := ⟨_, _, _, rfl⟩
    rw [hr] at h
    simp only at h
    by_cases hf : f = 0
    · subst hf
      rw [if_neg (by simp)] at h
      obtain ⟨g, y, u, hr2⟩ : ∃ f x u, one t = (f, x, u) := ⟨_, _, _, rfl⟩
      rw [hr2] at h
      simp only at h
      by_cases hg : g = 0
      · subst hg
        rw [if_neg (by simp)] at h
        obtain ⟨e1, e2⟩ := one_inv hr
        obtain ⟨e3, e4⟩ := one_inv hr2
        obtain ⟨r, h1, h2, h3, h4, h5⟩ := decP_back n _ l _ h
        refine ⟨((x : Int), (y : Int)) :: r, by rw [h1, List.append_assoc]; rfl, by rw [List.length_cons, h2], ?_, ?_, h5⟩
        · show s = Var.num (x : Int).toNat ++ (Var.num (y : Int).toNat ++ encP r)
          rw [Int.toNat_natCast, Int.toNat_natCast, e1, e3, h3]
        · intro p hp
          rcases List.mem_cons.1 hp with rfl | hp
          · exact ⟨by simp, by simp only []; omega, by simp, by simp only []; omega⟩
          · exact h4 p hp
      · rw [if_pos hg] at h; exact absurd (Prod.mk.inj h).2 hg
    · rw [if_pos hf] at h; exact absurd (Prod.mk.inj h).2 hf
theorem decodeP_back {s : List UInt8} {l : List (Int × Int)} (h : decodeP s = (l, 0)) : s = encPs l ∧ (∀ p ∈ l, pmay p) ∧ prise l = true ∧ l.length ≤ 2147483647 := by
  unfold decodeP at h
  obtain ⟨f, x, t, hr⟩ : ∃ f x t, one s = (f, x, t) := ⟨_, _, _, rfl⟩
  rw [hr] at h
  simp only at h
  by_cases hf : f = 0
  · subst hf
    rw [if_neg (by simp)] at h
    obtain ⟨e1, e2⟩ := one_inv hr
    obtain ⟨r, h1, h2, h3, h4, h5⟩ := decP_back x [] l t h
    rw [List.nil_append] at h1
    subst h1
    exact ⟨by unfold encPs; rw [h2, e1, h3], h4, h5, by omega⟩
  · rw [if_pos hf] at h; exact absurd (Prod.mk.inj h).2 hf
end Go.Proofs.Ytedhijehmkiieaa.Sc
