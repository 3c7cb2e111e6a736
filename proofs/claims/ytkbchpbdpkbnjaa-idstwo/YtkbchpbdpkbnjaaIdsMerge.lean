/-
  Plain mathematics of the program's ids: what is picked of two lists, by where it is.
-/
import Derived.Test.YtkbchpbdpkbnjaaIdsMath
namespace Go.Proofs.Ytkbchpbdpkbnjaa.Ids

/-- What ids.pick answers: the numbers of two lists that are wanted, by where they are. -/
def pickL (p : Bool → Bool → Bool) : List Int → List Int → List Int
  | [], [] => []
  | [], y :: ys => (if p false true = true then [y] else []) ++ pickL p [] ys
  | x :: xs, [] => (if p true false = true then [x] else []) ++ pickL p xs []
  | x :: xs, y :: ys => if x < y then (if p true false = true then [x] else []) ++ pickL p xs (y :: ys) else if y < x then (if p false true = true then [y] else []) ++ pickL p (x :: xs) ys else (if p true true = true then [y] else []) ++ pickL p xs ys
  termination_by a b => a.length + b.length

theorem pick_mem (p : Bool → Bool → Bool) : ∀ (n : Nat) (a b : List Int), a.length + b.length ≤ n → Up a → Up b → ∀ z, z ∈ pickL p a b ↔ (z ∈ a ∨ z ∈ b) ∧ p (has a z) (has b z) = true
  | n, [], [], _, _, _, z => by simp [pickL]
  | 0, [], y :: ys, h, _, _, z => by simp at h
  | 0, x :: xs, b, h, _, _, z => by simp at h
  | n + 1, [], y :: ys, h, ha, hb, z => by
    have hy := List.pairwise_cons.1 hb
    have ih := pick_mem p n [] ys (by simp at h ⊢; omega) ha hy.2 z
    rw [pickL, List.mem_append, ih]
    have hnot : z ∈ ys → has (y :: ys) z = true := fun hz => by rw [has_iff]; exact List.mem_cons_of_mem _ hz
    by_cases hz : z = y
    · subst hz
      have hn : z ∉ ys := fun hm => absurd (hy.1 z hm) (by omega)
      have h1 : has (z :: ys) z = true := by rw [has_iff]; simp
      rw [h1]
      by_cases hp : p false true = true <;> simp [hp, hn, has_nil]
    · have h1 : has (y :: ys) z = has ys z := by rw [has_cons, show (z == y) = false by simpa using hz]; rfl
      rw [h1]
      by_cases hp : p false true = true <;> simp [hp, hz]
  | n + 1, x :: xs, [], h, ha, hb, z => by
    have hx := List.pairwise_cons.1 ha
    have ih := pick_mem p n xs [] (by simp at h ⊢; omega) hx.2 hb z
    rw [pickL, List.mem_append, ih]
    by_cases hz : z = x
    · subst hz
      have hn : z ∉ xs := fun hm => absurd (hx.1 z hm) (by omega)
      have h1 : has (z :: xs) z = true := by rw [has_iff]; simp
      rw [h1]
      by_cases hp : p true false = true <;> simp [hp, hn, has_nil]
    · have h1 : has (x :: xs) z = has xs z := by rw [has_cons, show (z == x) = false by simpa using hz]; rfl
      rw [h1]
      by_cases hp : p true false = true <;> simp [hp, hz]
  | n + 1, x :: xs, y :: ys, h, ha, hb, z => by
    have hx := List.pairwise_cons.1 ha
    have hy := List.pairwise_cons.1 hb
    rw [pickL]
    by_cases hlt : x < y
    · have ih := pick_mem p n xs (y :: ys) (by simp at h ⊢; omega) hx.2 hb z
      rw [if_pos hlt, List.mem_append, ih]
      by_cases hz : z = x
      · subst hz
        have hn : z ∉ xs := fun hm => absurd (hx.1 z hm) (by omega)
        have hn2 : z ∉ y :: ys := fun hm => by
          rcases List.mem_cons.1 hm with h1 | h1
          · omega
          · exact absurd (hy.1 z h1) (by omega)
        have h1 : has (z :: xs) z = true := by rw [has_iff]; simp
        have h2 : has (y :: ys) z = false := by rw [Bool.eq_false_iff]; intro hc; exact hn2 ((has_iff _ _).1 hc)
        rw [h1, h2]
        by_cases hp : p true false = true
        · simp [hp]
        · rw [List.mem_cons, not_or] at hn2
          simp [hp, hn, hn2.1, hn2.2]
      · have h1 : has (x :: xs) z = has xs z := by rw [has_cons, show (z == x) = false by simpa using hz]; rfl
        rw [h1]
        by_cases hp : p true false = true <;> simp [hp, hz]
    · rw [if_neg hlt]
      by_cases hgt : y < x
      · have ih := pick_mem p n (x :: xs) ys (by simp at h ⊢; omega) ha hy.2 z
        rw [if_pos hgt, List.mem_append, ih]
        by_cases hz : z = y
        · subst hz
          have hn : z ∉ ys := fun hm => absurd (hy.1 z hm) (by omega)
          have hn2 : z ∉ x :: xs := fun hm => by
            rcases List.mem_cons.1 hm with h1 | h1
            · omega
            · exact absurd (hx.1 z h1) (by omega)
          have h1 : has (z :: ys) z = true := by rw [has_iff]; simp
          have h2 : has (x :: xs) z = false := by rw [Bool.eq_false_iff]; intro hc; exact hn2 ((has_iff _ _).1 hc)
          rw [h1, h2]
          by_cases hp : p false true = true
          · simp [hp]
          · rw [List.mem_cons, not_or] at hn2
            simp [hp, hn, hn2.1, hn2.2]
        · have h1 : has (y :: ys) z = has ys z := by rw [has_cons, show (z == y) = false by simpa using hz]; rfl
          rw [h1]
          by_cases hp : p false true = true <;> simp [hp, hz]
      · have he : x = y := by omega
        subst he
        have ih := pick_mem p n xs ys (by simp at h ⊢; omega) hx.2 hy.2 z
        rw [if_neg hgt, List.mem_append, ih]
        by_cases hz : z = x
        · subst hz
          have hn : z ∉ xs := fun hm => absurd (hx.1 z hm) (by omega)
          have hn2 : z ∉ ys := fun hm => absurd (hy.1 z hm) (by omega)
          have h1 : has (z :: xs) z = true := by rw [has_iff]; simp
          have h2 : has (z :: ys) z = true := by rw [has_iff]; simp
          rw [h1, h2]
          by_cases hp : p true true = true <;> simp [hp, hn, hn2]
        · have h1 : has (x :: xs) z = has xs z := by rw [has_cons, show (z == x) = false by simpa using hz]; rfl
          have h2 : has (x :: ys) z = has ys z := by rw [has_cons, show (z == x) = false by simpa using hz]; rfl
          rw [h1, h2]
          by_cases hp : p true true = true <;> simp [hp, hz]

theorem pick_sub (p : Bool → Bool → Bool) {a b : List Int} (ha : Up a) (hb : Up b) {z : Int} (h : z ∈ pickL p a b) : z ∈ a ∨ z ∈ b := ((pick_mem p _ a b (Nat.le_refl _) ha hb z).1 h).1

theorem up_opt {q : Prop} [Decidable q] {x : Int} {t : List Int} (ht : Up t) (hx : ∀ z ∈ t, x < z) : Up ((if q then [x] else []) ++ t) := by
  split
  · exact List.pairwise_cons.2 ⟨hx, ht⟩
  · exact ht

theorem pick_up (p : Bool → Bool → Bool) : ∀ (n : Nat) (a b : List Int), a.length + b.length ≤ n → Up a → Up b → Up (pickL p a b)
  | n, [], [], _, _, _ => by rw [pickL]; exact List.Pairwise.nil
  | 0, [], y :: ys, h, _, _ => by simp at h
  | 0, x :: xs, b, h, _, _ => by simp at h
  | n + 1, [], y :: ys, h, ha, hb => by
    have hy := List.pairwise_cons.1 hb
    rw [pickL]
    refine up_opt (pick_up p n [] ys (by simp at h ⊢; omega) ha hy.2) (fun z hz => ?_)
    rcases pick_sub p ha hy.2 hz with h1 | h1
    · simp at h1
    · exact hy.1 z h1
  | n + 1, x :: xs, [], h, ha, hb => by
    have hx := List.pairwise_cons.1 ha
    rw [pickL]
    refine up_opt (pick_up p n xs [] (by simp at h ⊢; omega) hx.2 hb) (fun z hz => ?_)
    rcases pick_sub p hx.2 hb hz with h1 | h1
    · exact hx.1 z h1
    · simp at h1
  | n + 1, x :: xs, y :: ys, h, ha, hb => by
    have hx := List.pairwise_cons.1 ha
    have hy := List.pairwise_cons.1 hb
    rw [pickL]
    split
    · rename_i hlt
      refine up_opt (pick_up p n xs (y :: ys) (by simp at h ⊢; omega) hx.2 hb) (fun z hz => ?_)
      rcases pick_sub p hx.2 hb hz with h1 | h1
      · exact hx.1 z h1
      · rcases List.mem_cons.1 h1 with h2 | h2
        · omega
        · have := hy.1 z h2; omega
    · rename_i hlt
      split
      · rename_i hgt
        refine up_opt (pick_up p n (x :: xs) ys (by simp at h ⊢; omega) ha hy.2) (fun z hz => ?_)
        rcases pick_sub p ha hy.2 hz with h1 | h1
        · rcases List.mem_cons.1 h1 with h2 | h2
          · omega
          · have := hx.1 z h2; omega
        · exact hy.1 z h1
      · rename_i hgt
        refine up_opt (pick_up p n xs ys (by simp at h ⊢; omega) hx.2 hy.2) (fun z hz => ?_)
        rcases pick_sub p hx.2 hy.2 hz with h1 | h1
        · have := hx.1 z h1; omega
        · exact hy.1 z h1

def union (a b : List Int) : List Int := pickL (fun x y => x || y) a b
def both (a b : List Int) : List Int := pickL (fun x y => x && y) a b
def minus (a b : List Int) : List Int := pickL (fun x y => x && !y) a b
theorem up_union {a b : List Int} (ha : Up a) (hb : Up b) : Up (union a b) := pick_up _ _ a b (Nat.le_refl _) ha hb
theorem up_both {a b : List Int} (ha : Up a) (hb : Up b) : Up (both a b) := pick_up _ _ a b (Nat.le_refl _) ha hb
theorem up_minus {a b : List Int} (ha : Up a) (hb : Up b) : Up (minus a b) := pick_up _ _ a b (Nat.le_refl _) ha hb
theorem mem_union {a b : List Int} (ha : Up a) (hb : Up b) (z : Int) : z ∈ union a b ↔ z ∈ a ∨ z ∈ b := by
  unfold union; rw [pick_mem _ _ a b (Nat.le_refl _) ha hb]
  simp only [Bool.or_eq_true, has_iff, and_self]
theorem mem_both {a b : List Int} (ha : Up a) (hb : Up b) (z : Int) : z ∈ both a b ↔ z ∈ a ∧ z ∈ b := by
  unfold both; rw [pick_mem _ _ a b (Nat.le_refl _) ha hb]
  simp only [Bool.and_eq_true, has_iff]
  constructor
  · exact fun h => h.2
  · exact fun h => ⟨.inl h.1, h⟩
theorem mem_minus {a b : List Int} (ha : Up a) (hb : Up b) (z : Int) : z ∈ minus a b ↔ z ∈ a ∧ z ∉ b := by
  unfold minus; rw [pick_mem _ _ a b (Nat.le_refl _) ha hb]
  simp only [Bool.and_eq_true, has_iff, Bool.not_eq_true', Bool.eq_false_iff, Ne]
  constructor
  · exact fun h => h.2
  · exact fun h => ⟨.inl h.1, h⟩
theorem pick_length (p : Bool → Bool → Bool) : ∀ (n : Nat) (a b : List Int), a.length + b.length ≤ n → (pickL p a b).length ≤ a.length + b.length
  | n, [], [], _ => by simp [pickL]
  | 0, [], y :: ys, h => by simp at h
  | 0, x :: xs, b, h => by simp at h
  | n + 1, [], y :: ys, h => by
    have ih := pick_length p n [] ys (by simp at h ⊢; omega)
    rw [pickL, List.length_append]; simp at ih ⊢; split <;> simp <;> omega
  | n + 1, x :: xs, [], h => by
    have ih := pick_length p n xs [] (by simp at h ⊢; omega)
    rw [pickL, List.length_append]; simp at ih ⊢; split <;> simp <;> omega
  | n + 1, x :: xs, y :: ys, h => by
    have i1 := pick_length p n xs (y :: ys) (by simp at h ⊢; omega)
    have i2 := pick_length p n (x :: xs) ys (by simp at h ⊢; omega)
    have i3 := pick_length p n xs ys (by simp at h ⊢; omega)
    rw [pickL]; simp only [List.length_cons] at i1 i2 i3 ⊢
    split
    · rw [List.length_append]; split <;> simp <;> omega
    · split
      · rw [List.length_append]; split <;> simp <;> omega
      · rw [List.length_append]; split <;> simp <;> omega
end Go.Proofs.Ytkbchpbdpkbnjaa.Ids
