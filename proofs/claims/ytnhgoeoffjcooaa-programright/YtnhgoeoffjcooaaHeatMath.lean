/-
  Plain mathematics of layer 3's heats (no program text is spoken of here): numbers with a point by their 64 bits; which are none; the key that goes by the order.
-/
import Derived.Laws.BitsAllLaws
namespace Go.Proofs.Ytnhgoeoffjcooaa.Heat

/-- is it no number? -/
def notN (b : Nat) : Bool := (b / 4503599627370496 % 2048 == 2047) && decide (0 < b % 4503599627370496)
/-- the one heat of all that are no numbers -/
def bitsN (b : Nat) : Nat := if notN b = true then 9221120237041090561 else b
def neg (b : Nat) : Bool := decide (9223372036854775808 ≤ b)
/-- the key, by the document: how many heats go ahead of it -/
def key (b : Nat) : Nat := if notN b = true then 0 else if neg b = true then 18442240474082181121 - b else 9218868437227405314 + b
def less (a b : Nat) : Bool := decide (key a < key b)
def cmp (a b : Nat) : Int := if key a < key b then -1 else if key b < key a then 1 else 0

theorem not_of_true {b : Nat} (h1 : (b : Int) / 4503599627370496 % 2048 = 2047) : notN b = decide (0 < (b : Int) % 4503599627370496) := by
  unfold notN
  have e1 : (b / 4503599627370496 % 2048 == 2047) = true := by rw [beq_iff_eq]; omega
  rw [e1, Bool.true_and]
  by_cases h : 0 < b % 4503599627370496
  · rw [decide_eq_true h, decide_eq_true (by omega)]
  · rw [decide_eq_false h, decide_eq_false (by omega)]
theorem not_of_false {b : Nat} (h1 : ¬ (b : Int) / 4503599627370496 % 2048 = 2047) : notN b = false := by
  unfold notN
  have e1 : (b / 4503599627370496 % 2048 == 2047) = false := by rw [beq_eq_false_iff_ne]; omega
  rw [e1]; rfl
/-- which bits are numbers -/
theorem not_iff (b : Nat) (hb : b < 18446744073709551616) : notN b = true ↔ (9218868437227405312 < b ∧ b < 9223372036854775808) ∨ 18442240474082181120 < b := by
  unfold notN
  rw [Bool.and_eq_true, beq_iff_eq, decide_eq_true_iff]
  omega
theorem isnum {b : Nat} (hb : b < 18446744073709551616) (h : notN b = false) : b ≤ 9218868437227405312 ∨ (9223372036854775808 ≤ b ∧ b ≤ 18442240474082181120) := by
  have := not_iff b hb
  rw [h] at this
  have h2 : ¬ ((9218868437227405312 < b ∧ b < 9223372036854775808) ∨ 18442240474082181120 < b) := fun e => by cases this.2 e
  omega
theorem neg_iff (b : Nat) : neg b = true ↔ 9223372036854775808 ≤ b := by unfold neg; rw [decide_eq_true_iff]
theorem neg_false (b : Nat) : neg b = false ↔ b < 9223372036854775808 := by unfold neg; rw [decide_eq_false_iff_not]; omega
theorem key_not {b : Nat} (h : notN b = true) : key b = 0 := by unfold key; rw [if_pos h]
theorem key_neg {b : Nat} (h : notN b = false) (hn : neg b = true) : key b = 18442240474082181121 - b := by unfold key; rw [if_neg (by rw [h]; decide), if_pos hn]
theorem key_pos {b : Nat} (h : notN b = false) (hn : neg b = false) : key b = 9218868437227405314 + b := by unfold key; rw [if_neg (by rw [h]; decide), if_neg (by rw [hn]; decide)]
theorem key_range {b : Nat} (hb : b < 18446744073709551616) : key b ≤ 18437736874454810626 ∧ (notN b = false → 1 ≤ key b) := by
  cases h : notN b with
  | true => rw [key_not h]; exact ⟨by omega, fun e => by cases e⟩
  | false =>
    have hi := isnum hb h
    cases hn : neg b with
    | true => rw [key_neg h hn]; have := (neg_iff b).1 hn; exact ⟨by omega, fun _ => by omega⟩
    | false => rw [key_pos h hn]; have := (neg_false b).1 hn; exact ⟨by omega, fun _ => by omega⟩
/-- THE KEY TELLS THE HEAT -/
theorem key_inj {a b : Nat} (ha : a < 18446744073709551616) (hb : b < 18446744073709551616) : key a = key b ↔ bitsN a = bitsN b := by
  unfold bitsN
  cases h1 : notN a with
  | true =>
    cases h2 : notN b with
    | true => rw [key_not h1, key_not h2]; simp
    | false =>
      have hk := (key_range hb).2 h2
      rw [key_not h1, if_pos rfl, if_neg (by decide)]
      have := isnum hb h2
      constructor
      · intro e; omega
      · intro e; omega
  | false =>
    cases h2 : notN b with
    | true =>
      have hk := (key_range ha).2 h1
      rw [key_not h2, if_pos rfl, if_neg (by decide)]
      have := isnum ha h1
      constructor
      · intro e; omega
      · intro e; omega
    | false =>
      rw [if_neg (by decide), if_neg (by decide)]
      have i1 := isnum ha h1
      have i2 := isnum hb h2
      cases n1 : neg a with
      | true =>
        have m1 := (neg_iff a).1 n1
        rw [key_neg h1 n1]
        cases n2 : neg b with
        | true => have m2 := (neg_iff b).1 n2; rw [key_neg h2 n2]; omega
        | false => have m2 := (neg_false b).1 n2; rw [key_pos h2 n2]; omega
      | false =>
        have m1 := (neg_false a).1 n1
        rw [key_pos h1 n1]
        cases n2 : neg b with
        | true => have m2 := (neg_iff b).1 n2; rw [key_neg h2 n2]; omega
        | false => have m2 := (neg_false b).1 n2; rw [key_pos h2 n2]; omega

/-! ### the order by the document's own words -/
theorem less_not {a b : Nat} (hb : b < 18446744073709551616) (h : notN a = true) : less a b = !notN b := by
  unfold less; rw [key_not h]
  cases h2 : notN b with
  | true => rw [key_not h2]; rfl
  | false => have := (key_range hb).2 h2; rw [decide_eq_true (by omega)]; rfl
theorem less_not2 {a b : Nat} (h : notN b = true) : less a b = false := by
  unfold less; rw [key_not h, decide_eq_false (by omega)]
theorem less_signs {a b : Nat} (ha : a < 18446744073709551616) (hb : b < 18446744073709551616) (h1 : notN a = false) (h2 : notN b = false) (hn : neg a ≠ neg b) : less a b = neg a := by
  unfold less
  have i1 := isnum ha h1
  have i2 := isnum hb h2
  cases n1 : neg a with
  | true =>
    have n2 : neg b = false := by cases h : neg b with | true => rw [n1, h] at hn; exact absurd rfl hn | false => rfl
    have m1 := (neg_iff a).1 n1
    have m2 := (neg_false b).1 n2
    rw [key_neg h1 n1, key_pos h2 n2, decide_eq_true (by omega)]
  | false =>
    have n2 : neg b = true := by cases h : neg b with | false => rw [n1, h] at hn; exact absurd rfl hn | true => rfl
    have m1 := (neg_false a).1 n1
    have m2 := (neg_iff b).1 n2
    rw [key_pos h1 n1, key_neg h2 n2, decide_eq_false (by omega)]
theorem less_neg {a b : Nat} (ha : a < 18446744073709551616) (hb : b < 18446744073709551616) (h1 : notN a = false) (h2 : notN b = false) (n1 : neg a = true) (n2 : neg b = true) : less a b = decide (b < a) := by
  unfold less
  have i1 := isnum ha h1
  have i2 := isnum hb h2
  have m1 := (neg_iff a).1 n1
  have m2 := (neg_iff b).1 n2
  rw [key_neg h1 n1, key_neg h2 n2]
  by_cases h : b < a
  · rw [decide_eq_true (by omega), decide_eq_true (by omega)]
  · rw [decide_eq_false (by omega), decide_eq_false (by omega)]
theorem less_pos {a b : Nat} (h1 : notN a = false) (h2 : notN b = false) (n1 : neg a = false) (n2 : neg b = false) : less a b = decide (a < b) := by
  unfold less
  rw [key_pos h1 n1, key_pos h2 n2]
  by_cases h : a < b
  · rw [decide_eq_true (by omega), decide_eq_true (by omega)]
  · rw [decide_eq_false (by omega), decide_eq_false (by omega)]
theorem cmp_less {a b : Nat} (h : less a b = true) : cmp a b = -1 := by unfold cmp; rw [if_pos (by simpa [less] using h)]
theorem cmp_more {a b : Nat} (h1 : less a b = false) (h2 : less b a = true) : cmp a b = 1 := by
  unfold cmp; rw [if_neg (by simpa [less] using h1), if_pos (by simpa [less] using h2)]
theorem cmp_same {a b : Nat} (h1 : less a b = false) (h2 : less b a = false) : cmp a b = 0 := by
  unfold cmp; rw [if_neg (by simpa [less] using h1), if_neg (by simpa [less] using h2)]
theorem cmp_swap (a b : Nat) : cmp b a = -cmp a b := by
  unfold cmp
  by_cases h1 : key a < key b
  · rw [if_pos h1, if_neg (by omega), if_pos h1]; rfl
  · by_cases h2 : key b < key a
    · rw [if_pos h2, if_neg h1, if_pos h2]
    · rw [if_neg h2, if_neg h1, if_neg h1, if_neg h2]; rfl
theorem cmp_zero (a b : Nat) : cmp a b = 0 ↔ key a = key b := by
  unfold cmp
  by_cases h1 : key a < key b
  · rw [if_pos h1]; constructor
    · intro e; cases e
    · intro e; omega
  · rw [if_neg h1]
    by_cases h2 : key b < key a
    · rw [if_pos h2]; constructor
      · intro e; cases e
      · intro e; omega
    · rw [if_neg h2]; constructor
      · intro; omega
      · intro; rfl

/-! ### places by their rank -/
def keyAt (l : List Nat) (i : Nat) : Nat := key (l.getD i 0)
/-- place i is told ahead of place j -/
def ahead (l : List Nat) (i j : Nat) : Prop := keyAt l j < keyAt l i ∨ (keyAt l i = keyAt l j ∧ i < j)
theorem ahead_asymm {l : List Nat} {i j : Nat} (h : ahead l i j) : ¬ ahead l j i := by unfold ahead at *; omega
theorem ahead_trans {l : List Nat} {i j k : Nat} (h : ahead l i j) (h2 : ahead l j k) : ahead l i k := by unfold ahead at *; omega
theorem ahead_total (l : List Nat) {i j : Nat} (h : i ≠ j) : ahead l i j ∨ ahead l j i := by unfold ahead; omega
/-- the places of l, each once, the greatest heat first -/
structure Ranked (l : List Nat) (o : List Nat) : Prop where
  len : o.length = l.length
  lt : ∀ i ∈ o, i < l.length
  order : o.Pairwise (ahead l)

theorem nodup_of {l o : List Nat} (h : o.Pairwise (ahead l)) : o.Nodup := by
  refine List.Pairwise.imp ?_ h
  intro a b hab e
  subst e
  exact ahead_asymm hab hab
theorem nodup_len : ∀ (n : Nat) (o : List Nat), o.Nodup → (∀ x ∈ o, x < n) → o.length ≤ n
  | 0, o, _, h => by
    cases o with
    | nil => simp
    | cons x r => have := h x (by simp); omega
  | n + 1, o, hn, h => by
    by_cases hm : n ∈ o
    · have h1 := nodup_len n (o.erase n) (hn.erase n) (fun x hx => by
        have hx' := (List.Nodup.mem_erase_iff hn).1 hx
        have := h x hx'.2
        have := hx'.1
        omega)
      rw [List.length_erase_of_mem hm] at h1
      omega
    · have := nodup_len n o hn (fun x hx => by
        have := h x hx
        have : x ≠ n := fun e => hm (e ▸ hx)
        omega)
      omega
theorem cover_len : ∀ (n : Nat) (o : List Nat), (∀ j, j < n → j ∈ o) → n ≤ o.length
  | 0, _, _ => Nat.zero_le _
  | n + 1, o, h => by
    have hm := h n (by omega)
    have h1 := cover_len n (o.erase n) (fun j hj => (List.mem_erase_of_ne (by omega)).2 (h j (by omega)))
    rw [List.length_erase_of_mem hm] at h1
    have := List.length_pos_of_mem hm
    omega
theorem unused {n : Nat} {o : List Nat} (hl : o.length < n) : ∃ j, j < n ∧ j ∉ o := by
  refine Classical.byContradiction fun hc => ?_
  have := cover_len n o (fun j hj => Classical.byContradiction fun hno => hc ⟨j, hj, hno⟩)
  omega
theorem Ranked.covers {l o : List Nat} (h : Ranked l o) (j : Nat) (hj : j < l.length) : j ∈ o := by
  refine Classical.byContradiction fun hno => ?_
  have := nodup_len l.length (j :: o) (List.nodup_cons.2 ⟨hno, nodup_of h.order⟩) (fun x hx => by
    rcases List.mem_cons.1 hx with rfl | hx
    · exact hj
    · exact h.lt x hx)
  have := h.len
  simp only [List.length_cons] at *
  omega
theorem ahead_ext {l : List Nat} : ∀ (s t : List Nat), s.Pairwise (ahead l) → t.Pairwise (ahead l) → (∀ z, z ∈ s ↔ z ∈ t) → s = t
  | [], [], _, _, _ => rfl
  | [], y :: t, _, _, h => by have := (h y).2 (by simp); simp at this
  | x :: s, [], _, _, h => by have := (h x).1 (by simp); simp at this
  | x :: s, y :: t, hs, ht, h => by
    have hxs := (List.pairwise_cons.1 hs).1
    have hyt := (List.pairwise_cons.1 ht).1
    have hxy : x = y := by
      have h1 : x ∈ y :: t := (h x).1 (by simp)
      have h2 : y ∈ x :: s := (h y).2 (by simp)
      rcases List.mem_cons.1 h1 with e | h1
      · exact e
      · rcases List.mem_cons.1 h2 with e | h2
        · exact e.symm
        · exact absurd (hxs y h2) (ahead_asymm (hyt x h1))
    subst hxy
    have ih := ahead_ext s t (List.pairwise_cons.1 hs).2 (List.pairwise_cons.1 ht).2 (fun z => by
      constructor
      · intro hz
        rcases List.mem_cons.1 ((h z).1 (List.mem_cons_of_mem _ hz)) with e | hz'
        · subst e; exact absurd (hxs z hz) (fun q => ahead_asymm q q)
        · exact hz'
      · intro hz
        rcases List.mem_cons.1 ((h z).2 (List.mem_cons_of_mem _ hz)) with e | hz'
        · subst e; exact absurd (hyt z hz) (fun q => ahead_asymm q q)
        · exact hz')
    rw [ih]
/-- THERE IS ONE RANK ALONE -/
theorem Ranked.unique {l o p : List Nat} (h : Ranked l o) (h2 : Ranked l p) : o = p :=
  ahead_ext o p h.order h2.order (fun z => ⟨fun hz => h2.covers z (h.lt z hz), fun hz => h.covers z (h2.lt z hz)⟩)

/-- the best place so far among those that are left -/
def Best (l o : List Nat) (i : Nat) (b : Int) : Prop :=
  (b = -1 ∧ ∀ j, j < i → j ∈ o) ∨ ∃ q : Nat, b = (q : Int) ∧ q < i ∧ q ∉ o ∧ ∀ j, j < i → j ∉ o → j = q ∨ ahead l q j
theorem Best.start (l o : List Nat) : Best l o 0 (-1) := .inl ⟨rfl, fun j hj => absurd hj (by omega)⟩
theorem Best.used {l o : List Nat} {i : Nat} {b : Int} (h : Best l o i b) (hi : i ∈ o) : Best l o (i + 1) b := by
  rcases h with ⟨e, h⟩ | ⟨q, e, hq, hqo, h⟩
  · refine .inl ⟨e, fun j hj => ?_⟩
    by_cases hji : j = i
    · subst hji; exact hi
    · exact h j (by omega)
  · refine .inr ⟨q, e, by omega, hqo, fun j hj hjo => ?_⟩
    by_cases hji : j = i
    · subst hji; exact absurd hi hjo
    · exact h j (by omega) hjo
theorem Best.first {l o : List Nat} {i : Nat} (h : Best l o i (-1)) (hi : i ∉ o) : Best l o (i + 1) (i : Int) := by
  rcases h with ⟨_, h⟩ | ⟨q, e, _⟩
  · refine .inr ⟨i, rfl, by omega, hi, fun j hj hjo => ?_⟩
    by_cases hji : j = i
    · exact .inl hji
    · exact absurd (h j (by omega)) hjo
  · omega
theorem Best.better {l o : List Nat} {i q : Nat} (h : Best l o i (q : Int)) (hi : i ∉ o) (hk : keyAt l q < keyAt l i) : Best l o (i + 1) (i : Int) := by
  rcases h with ⟨e, _⟩ | ⟨q', e, hq, hqo, h⟩
  · omega
  · obtain rfl : q = q' := by omega
    refine .inr ⟨i, rfl, by omega, hi, fun j hj hjo => ?_⟩
    by_cases hji : j = i
    · exact .inl hji
    · right
      rcases h j (by omega) hjo with rfl | ha
      · exact .inl hk
      · unfold ahead at *; omega
theorem Best.stays {l o : List Nat} {i q : Nat} (h : Best l o i (q : Int)) (hk : ¬ keyAt l q < keyAt l i) : Best l o (i + 1) (q : Int) := by
  rcases h with ⟨e, _⟩ | ⟨q', e, hq, hqo, h⟩
  · omega
  · obtain rfl : q = q' := by omega
    refine .inr ⟨q, rfl, by omega, hqo, fun j hj hjo => ?_⟩
    by_cases hji : j = i
    · subst hji
      right
      unfold ahead; omega
    · exact h j (by omega) hjo
/-- so many places have been told -/
structure Told (l o : List Nat) : Prop where
  lt : ∀ i ∈ o, i < l.length
  order : o.Pairwise (ahead l)
  rest : ∀ i ∈ o, ∀ j, j < l.length → j ∉ o → ahead l i j
theorem Told.nil (l : List Nat) : Told l [] := ⟨fun _ h => absurd h (by simp), List.Pairwise.nil, fun _ h => absurd h (by simp)⟩
theorem Told.next {l o : List Nat} {b : Int} (h : Told l o) (hl : o.length < l.length) (hb : Best l o l.length b) : ∃ q : Nat, b = (q : Int) ∧ q < l.length ∧ Told l (o ++ [q]) := by
  rcases hb with ⟨_, hall⟩ | ⟨q, e, hq, hqo, hbest⟩
  · obtain ⟨j, hj, hjo⟩ := unused hl
    exact absurd (hall j hj) hjo
  · refine ⟨q, e, hq, ?_, ?_, ?_⟩
    · intro i hi
      rcases List.mem_append.1 hi with hi | hi
      · exact h.lt i hi
      · simp at hi; subst hi; exact hq
    · refine List.pairwise_append.2 ⟨h.order, List.pairwise_singleton _ _, fun a ha c hc => ?_⟩
      simp at hc; subst hc
      exact h.rest a ha c hq hqo
    · intro i hi j hj hjo
      simp only [List.mem_append, List.mem_singleton, not_or] at hjo
      rcases List.mem_append.1 hi with hi | hi
      · exact h.rest i hi j hj hjo.1
      · simp at hi; subst hi
        rcases hbest j hj hjo.1 with e2 | ha
        · exact absurd e2 hjo.2
        · exact ha
theorem Told.done {l o : List Nat} (h : Told l o) (hl : o.length = l.length) : Ranked l o := ⟨hl, h.lt, h.order⟩
end Go.Proofs.Ytnhgoeoffjcooaa.Heat
