/-
  Plain mathematics of the stable sort by insertion: of places that rise it makes the places ranked, the greatest heat first, of the same heat the lesser place first.
-/
import Derived.Test.YtkbchpbdpkbnjaaHeatMath
import Derived.Sort.LotA
import Derived.Shelf.SlSortCmp.Insertion
namespace Go.Proofs.Ytkbchpbdpkbnjaa.Heat
open Go.Sort

section
variable {α : Type} [Inhabited α] (lt lt' : α → α → Bool) (rk : α → Nat) (H : ∀ x y, rk y < rk x → lt x y = lt' x y)
include H
theorem insInner_congr (a : Nat) : ∀ (j : Nat) (d : Array α), j < d.size → (∀ k, a ≤ k → k < j → rk d[k]! < rk d[j]!) → insInner lt a j d = insInner lt' a j d
  | 0, d, _, _ => by rw [insInner, insInner]
  | j + 1, d, hj, h => by
    rw [insInner, insInner]
    by_cases ha : j + 1 > a
    · rw [H _ _ (h j (by omega) (by omega))]
      split
      · refine insInner_congr a j _ (by rw [swp_size]; omega) (fun k hk1 hk2 => ?_)
        rw [swp_other _ _ _ _ (by omega) (by omega), swp_right _ _ _ (by omega)]
        exact h k hk1 (by omega)
      · rfl
    · simp [ha]
end
section
variable {α : Type} [Inhabited α] (lt : α → α → Bool)
theorem insInner_in (a : Nat) : ∀ (j : Nat) (d : Array α), j < d.size → a ≤ j →
    (∀ k, j < k ∨ k < a → (insInner lt a j d)[k]! = d[k]!) ∧ (∀ k, a ≤ k → k ≤ j → ∃ m, a ≤ m ∧ m ≤ j ∧ (insInner lt a j d)[k]! = d[m]!) ∧ (insInner lt a j d).size = d.size
  | 0, d, _, _ => by rw [insInner]; exact ⟨fun k _ => rfl, fun k h1 h2 => ⟨k, h1, h2, rfl⟩, rfl⟩
  | j + 1, d, hj, ha => by
    rw [insInner]
    by_cases hc : (decide (j + 1 > a) && lt d[j + 1]! d[j]!) = true
    · rw [if_pos hc]
      have haj : a ≤ j := by simp only [Bool.and_eq_true, decide_eq_true_iff] at hc; omega
      obtain ⟨i1, i2, i3⟩ := insInner_in a j (swp d (j + 1) j) (by rw [swp_size]; omega) haj
      refine ⟨fun k hk => ?_, fun k h1 h2 => ?_, by rw [i3, swp_size]⟩
      · rw [i1 k (by omega), swp_other _ _ _ _ (by omega) (by omega)]
      · rcases Nat.lt_or_ge j k with h3 | h3
        · have : k = j + 1 := by omega
          subst this
          exact ⟨j, haj, by omega, by rw [i1 (j + 1) (by omega), swp_left _ _ _ (by omega) (by omega)]⟩
        · obtain ⟨m, m1, m2, m3⟩ := i2 k h1 h3
          rcases Nat.lt_or_ge m j with h4 | h4
          · exact ⟨m, m1, by omega, by rw [m3, swp_other _ _ _ _ (by omega) (by omega)]⟩
          · have : m = j := by omega
            subst this
            exact ⟨m + 1, by omega, Nat.le_refl _, by rw [m3, swp_right _ _ _ (by omega)]⟩
    · rw [if_neg hc]
      exact ⟨fun k _ => rfl, fun k h1 h2 => ⟨k, h1, h2, rfl⟩, rfl⟩
end
section
variable {α : Type} [Inhabited α] (lt lt' : α → α → Bool) (rk : α → Nat) (H : ∀ x y, rk y < rk x → lt x y = lt' x y)
include H
theorem insOuter_congr (a b : Nat) : ∀ (n i : Nat) (d : Array α), b - i = n → a ≤ i → b ≤ d.size → (∀ k k', a ≤ k → k < k' → i ≤ k' → k' < b → rk d[k]! < rk d[k']!) → insOuter lt a b i d = insOuter lt' a b i d
  | 0, i, d, hn, _, _, _ => by rw [insOuter_stop lt a b i d (by omega), insOuter_stop lt' a b i d (by omega)]
  | n + 1, i, d, hn, hai, hb, h => by
    rw [insOuter_go lt a b i d (by omega), insOuter_go lt' a b i d (by omega)]
    have hi := insInner_congr lt lt' rk H a i d (by omega) (fun k h1 h2 => h k i h1 h2 (Nat.le_refl _) (by omega))
    rw [hi]
    obtain ⟨i1, i2, i3⟩ := insInner_in lt' a i d (by omega) hai
    refine insOuter_congr a b n (i + 1) _ (by omega) (by omega) (by rw [i3]; exact hb) (fun k k' h1 h2 h3 h4 => ?_)
    rw [i1 k' (by omega)]
    rcases Nat.lt_or_ge i k with h5 | h5
    · rw [i1 k (by omega)]; exact h k k' h1 h2 (by omega) h4
    · obtain ⟨m, m1, m2, m3⟩ := i2 k h1 h5
      rw [m3]; exact h m k' m1 (by omega) (by omega) h4
theorem insertionSort_congr (a b : Nat) (d : Array α) (hb : b ≤ d.size) (h : ∀ k k', a ≤ k → k < k' → k' < b → rk d[k]! < rk d[k']!) : insertionSort lt d a b = insertionSort lt' d a b :=
  insOuter_congr lt lt' rk H a b _ (a + 1) d rfl (by omega) hb (fun k k' h1 h2 _ h4 => h k k' h1 h2 h4)
end

/-! ### places of a list -/
variable {n : Nat} (l : List Nat)
instance (i j : Nat) : Decidable (ahead l i j) := by unfold ahead; infer_instance
/-- what the program's closure answers of two places -/
def cfOf (x y : Fin (n + 1)) : Int := cmp (l.getD y.val 0) (l.getD x.val 0)
/-- the order of places: the greater heat, of the same heat the lesser place -/
def ltP (x y : Fin (n + 1)) : Bool := decide (ahead l x.val y.val)
theorem cf_lt (x y : Fin (n + 1)) (h : y.val < x.val) : ltOf (cfOf l) x y = ltP l x y := by
  have e : cfOf l x y = if key (l.getD y.val 0) < key (l.getD x.val 0) then -1 else if key (l.getD x.val 0) < key (l.getD y.val 0) then 1 else 0 := rfl
  show decide (cfOf l x y < 0) = decide (ahead l x.val y.val)
  rw [e]
  by_cases h1 : key (l.getD y.val 0) < key (l.getD x.val 0)
  · have h2 : ahead l x.val y.val := by unfold ahead keyAt; exact .inl h1
    rw [if_pos h1, decide_eq_true (show (-1 : Int) < 0 by omega), decide_eq_true h2]
  · have h2 : ¬ ahead l x.val y.val := by unfold ahead keyAt; omega
    rw [if_neg h1, decide_eq_false h2]
    split <;> rw [decide_eq_false (by omega)]
theorem swoP : SWO (ltP (n := n) l) where
  irrefl x := by unfold ltP; rw [decide_eq_false_iff_not]; unfold ahead; omega
  trans x y z h1 h2 := by
    unfold ltP at *; rw [decide_eq_true_iff] at *; exact ahead_trans h1 h2
  ntrans x y z h1 h2 := by
    unfold ltP at *; rw [decide_eq_false_iff_not] at *; unfold ahead at *; omega

/-- the places, as they rise -/
def places (n : Nat) : Array (Fin (n + 1)) := Array.ofFn fun i => i
theorem places_size (n : Nat) : (places n).size = n + 1 := by simp [places]
theorem places_get (n k : Nat) (h : k < n + 1) : (places n)[k]! = ⟨k, h⟩ := by
  rw [getElem!_pos _ k (by rw [places_size]; exact h)]; simp [places]

/-- a permutation of the places that is sorted is the ranking -/
theorem ranked_of {D : Array (Fin (n + 1))} (hl : l.length = n + 1) (hp : D.toList.Perm (places n).toList) (hs : SortedIn (ltP l) 0 (n + 1) D) : Ranked l (D.toList.map fun i => i.val) := by
  have hsz : D.size = n + 1 := by have := hp.length_eq; simp [places] at this; exact this
  have hnd : D.toList.Nodup := hp.nodup_iff.2 (by
    rw [List.nodup_iff_pairwise_ne]
    refine List.pairwise_iff_getElem.2 fun i j hi hj hij => ?_
    rw [Array.getElem_toList, Array.getElem_toList]
    intro e
    have := congrArg Fin.val e
    simp only [places, Array.getElem_ofFn] at this
    omega)
  refine ⟨by simp [hsz, hl], fun i hi => ?_, ?_⟩
  · obtain ⟨x, _, rfl⟩ := List.mem_map.1 hi
    have := x.isLt; omega
  · refine List.pairwise_map.2 (List.pairwise_iff_getElem.2 fun i j hi hj hij => ?_)
    have hi' : i < D.size := by simpa using hi
    have hj' : j < D.size := by simpa using hj
    have h1 := hs i j (Nat.zero_le _) hij (by omega)
    rw [getElem!_pos D i hi', getElem!_pos D j hj'] at h1
    unfold ltP at h1
    rw [decide_eq_false_iff_not] at h1
    have hne : D.toList[i] ≠ D.toList[j] := List.pairwise_iff_getElem.1 hnd i j hi hj hij
    rw [Array.getElem_toList, Array.getElem_toList] at hne ⊢
    rcases ahead_total l (show (D[i]).val ≠ (D[j]).val from fun e => hne (Fin.ext e)) with h | h
    · exact h
    · exact absurd h h1

theorem permIn_all {d D : Array (Fin (n + 1))} (hd : d.size = n + 1) (h : PermIn 0 (n + 1) d D) : D.toList.Perm d.toList := by
  have h3 := h.2.2
  have e1 : D.extract 0 (n + 1) = D := Array.extract_eq_self_of_le (by rw [h.1]; omega)
  have e2 : d.extract 0 (n + 1) = d := Array.extract_eq_self_of_le (by omega)
  rw [e1, e2] at h3
  exact h3

theorem ranked_small (hl : l.length = n + 1) : Ranked l ((insertionSort (ltOf (cfOf l)) (places n) 0 (n + 1)).toList.map fun i => i.val) := by
  have hc := insertionSort_congr (ltOf (cfOf l)) (ltP l) (fun i : Fin (n + 1) => i.val) (fun x y h => cf_lt l x y h) 0 (n + 1) (places n) (by rw [places_size]; omega) (fun k k' _ h2 h3 => by
    rw [places_get n k (by omega), places_get n k' (by omega)]; exact h2)
  rw [hc]
  obtain ⟨h1, h2⟩ := insertionSort_holds (swoP l) (places n) 0 (n + 1) (by omega) (by rw [places_size]; omega)
  exact ranked_of l hl (permIn_all (places_size n) h1) h2
end Go.Proofs.Ytkbchpbdpkbnjaa.Heat
