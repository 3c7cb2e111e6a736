/-
  Plain mathematics of merging two sorted runs in place (as the library's stable sort does it): what a rotation does, where runs are cut, what comes out sorted.
-/
import Derived.Test.YtkbchpbdpkbnjaaHeatSort
namespace Go.Proofs.Ytkbchpbdpkbnjaa.Heat
open Go.Sort

section
variable {α : Type} [Inhabited α]
/-- d' is d with the i elements ahead of m and the j from m on changed about -/
structure Rot (m i j : Nat) (d d' : Array α) : Prop where
  size : d'.size = d.size
  left : ∀ k, k < j → d'[m - i + k]! = d[m + k]!
  right : ∀ k, k < i → d'[m - i + j + k]! = d[m - i + k]!
  same : ∀ k, k < m - i ∨ m + j ≤ k → d'[k]! = d[k]!
theorem Rot.none_left (m j : Nat) (d : Array α) : Rot m 0 j d d := ⟨rfl, fun k _ => rfl, fun k h => absurd h (by omega), fun _ _ => rfl⟩
theorem Rot.none_right (m i : Nat) (d : Array α) : Rot m i 0 d d := ⟨rfl, fun k h => absurd h (by omega), fun k _ => rfl, fun _ _ => rfl⟩
/-- d' is d with the n elements from a on and those from b on changed about -/
structure Swapped (a b n : Nat) (d d' : Array α) : Prop where
  size : d'.size = d.size
  left : ∀ k, k < n → d'[a + k]! = d[b + k]!
  right : ∀ k, k < n → d'[b + k]! = d[a + k]!
  same : ∀ k, ¬ (a ≤ k ∧ k < a + n) → ¬ (b ≤ k ∧ k < b + n) → d'[k]! = d[k]!
theorem Swapped.start (a b : Nat) (d : Array α) : Swapped a b 0 d d := ⟨rfl, fun k h => absurd h (by omega), fun k h => absurd h (by omega), fun _ _ _ => rfl⟩
theorem Swapped.step {a b n : Nat} {d d' : Array α} (h : Swapped a b n d d') (hab : a + n < b) (hb : b + n < d.size) : Swapped a b (n + 1) d (swp d' (a + n) (b + n)) := by
  have hs := h.size
  refine ⟨by rw [swp_size, hs], fun k hk => ?_, fun k hk => ?_, fun k h1 h2 => ?_⟩
  · rcases Nat.lt_or_ge k n with h3 | h3
    · rw [swp_other _ _ _ _ (by omega) (by omega)]; exact h.left k h3
    · have : k = n := by omega
      subst this
      rw [swp_left _ _ _ (by omega) (by omega)]; exact h.same _ (by omega) (by omega)
  · rcases Nat.lt_or_ge k n with h3 | h3
    · rw [swp_other _ _ _ _ (by omega) (by omega)]; exact h.right k h3
    · have : k = n := by omega
      subst this
      rw [swp_right _ _ _ (by omega)]; exact h.same _ (by omega) (by omega)
  · rw [swp_other _ _ _ _ (by omega) (by omega)]; exact h.same k (by omega) (by omega)
theorem Rot.more_left {m i j : Nat} {d d1 d' : Array α} (hij : j < i) (him : i ≤ m) (h1 : Swapped (m - i) m j d d1) (h2 : Rot m (i - j) j d1 d') : Rot m i j d d' := by
  refine ⟨by rw [h2.size, h1.size], fun k hk => ?_, fun k hk => ?_, fun k hk => ?_⟩
  · rw [h2.same _ (by omega)]; exact h1.left k hk
  · rcases Nat.lt_or_ge k j with h3 | h3
    · have := h2.left k h3
      rw [show m - (i - j) + k = m - i + j + k by omega] at this
      rw [this]; exact h1.right k h3
    · have := h2.right (k - j) (by omega)
      rw [show m - (i - j) + j + (k - j) = m - i + j + k by omega, show m - (i - j) + (k - j) = m - i + k by omega] at this
      rw [this]; exact h1.same _ (by omega) (by omega)
  · rw [h2.same _ (by omega)]; exact h1.same _ (by omega) (by omega)
theorem Rot.more_right {m i j : Nat} {d d1 d' : Array α} (hij : i < j) (him : i ≤ m) (h1 : Swapped (m - i) (m + j - i) i d d1) (h2 : Rot m i (j - i) d1 d') : Rot m i j d d' := by
  refine ⟨by rw [h2.size, h1.size], fun k hk => ?_, fun k hk => ?_, fun k hk => ?_⟩
  · rcases Nat.lt_or_ge k (j - i) with h3 | h3
    · rw [h2.left k h3]; exact h1.same _ (by omega) (by omega)
    · have := h2.right (k - (j - i)) (by omega)
      rw [show m - i + (j - i) + (k - (j - i)) = m - i + k by omega] at this
      rw [this]
      have := h1.left (k - (j - i)) (by omega)
      rw [show m + j - i + (k - (j - i)) = m + k by omega] at this
      exact this
  · rw [h2.same _ (by omega)]
    have := h1.right k hk
    rw [show m + j - i + k = m - i + j + k by omega] at this
    exact this
  · rw [h2.same _ (by omega)]; exact h1.same _ (by omega) (by omega)
theorem Rot.last {m i : Nat} {d d1 : Array α} (him : i ≤ m) (h1 : Swapped (m - i) m i d d1) : Rot m i i d d1 := by
  refine ⟨h1.size, fun k hk => h1.left k hk, fun k hk => ?_, fun k hk => h1.same _ (by omega) (by omega)⟩
  have := h1.right k hk
  rw [show m + k = m - i + i + k by omega] at this
  exact this
end

section
variable {α : Type} [Inhabited α] {lt : α → α → Bool} (hS : SWO lt)
include hS
omit [Inhabited α] in
theorem not_back {x y : α} (h : lt x y = true) : lt y x = false := by
  cases h2 : lt y x with
  | false => rfl
  | true => have := hS.trans x y x h h2; rw [hS.irrefl] at this; cases this

/-- one element ahead of a sorted run, moved to its place -/
theorem put_left {a i b : Nat} {d D : Array α} (hs : SortedIn lt (a + 1) b d) (hi : a + 1 ≤ i) (hib : i ≤ b)
    (h1 : ∀ k, a + 1 ≤ k → k < i → lt d[k]! d[a]! = true) (h2 : ∀ k, i ≤ k → k < b → lt d[k]! d[a]! = false)
    (e1 : ∀ k, a ≤ k → k < i - 1 → D[k]! = d[k + 1]!) (e2 : D[i - 1]! = d[a]!) (e3 : ∀ k, i ≤ k → D[k]! = d[k]!) : SortedIn lt a b D := by
  intro x y hx hxy hy
  rcases Nat.lt_or_ge y (i - 1) with h | h
  · rw [e1 x hx (by omega), e1 y (by omega) h]; exact hs _ _ (by omega) (by omega) (by omega)
  · rcases Nat.lt_or_ge (i - 1) y with h3 | h3
    · rw [e3 y (by omega)]
      rcases Nat.lt_or_ge x (i - 1) with h4 | h4
      · rw [e1 x hx h4]; exact hs _ _ (by omega) (by omega) hy
      · rcases Nat.lt_or_ge (i - 1) x with h5 | h5
        · rw [e3 x (by omega)]; exact hs _ _ (by omega) hxy hy
        · have : x = i - 1 := by omega
          rw [this, e2]; exact h2 y (by omega) hy
    · have : y = i - 1 := by omega
      rw [this, e2, e1 x hx (by omega)]
      exact not_back hS (h1 _ (by omega) (by omega))
/-- one element behind a sorted run, moved to its place -/
theorem put_right {a i m : Nat} {d D : Array α} (hs : SortedIn lt a m d) (hai : a ≤ i) (him : i ≤ m)
    (h1 : ∀ k, a ≤ k → k < i → lt d[m]! d[k]! = false) (h2 : ∀ k, i ≤ k → k < m → lt d[m]! d[k]! = true)
    (e1 : ∀ k, i < k → k ≤ m → D[k]! = d[k - 1]!) (e2 : D[i]! = d[m]!) (e3 : ∀ k, k < i → D[k]! = d[k]!) : SortedIn lt a (m + 1) D := by
  intro x y hx hxy hy
  rcases Nat.lt_or_ge i x with h | h
  · rw [e1 x h (by omega), e1 y (by omega) (by omega)]; exact hs _ _ (by omega) (by omega) (by omega)
  · rcases Nat.lt_or_ge x i with h3 | h3
    · rw [e3 x h3]
      rcases Nat.lt_or_ge y i with h4 | h4
      · rw [e3 y h4]; exact hs _ _ hx hxy (by omega)
      · rcases Nat.lt_or_ge i y with h5 | h5
        · rw [e1 y h5 (by omega)]; exact hs _ _ hx (by omega) (by omega)
        · have : y = i := by omega
          rw [this, e2]; exact h1 x hx h3
    · have : x = i := by omega
      rw [this, e2, e1 y (by omega) (by omega)]
      exact not_back hS (h2 _ (by omega) (by omega))

omit hS in
/-- two sorted halves, none of the second less than one of the first -/
theorem sorted_join {a mid b : Nat} {d : Array α} (h1 : SortedIn lt a mid d) (h2 : SortedIn lt mid b d) (hX : ∀ i j, a ≤ i → i < mid → mid ≤ j → j < b → lt d[j]! d[i]! = false) : SortedIn lt a b d := by
  intro x y hx hxy hy
  rcases Nat.lt_or_ge y mid with h | h
  · exact h1 x y hx hxy h
  · rcases Nat.lt_or_ge x mid with h3 | h3
    · exact hX x y hx h3 h hy
    · exact h2 x y h3 hxy hy

/-- the cut: behind the rotation none of the second half is less than one of the first -/
theorem cut_cross {a m b mid s e : Nat} {d D : Array α} (hs1 : SortedIn lt a m d) (hs2 : SortedIn lt m b d) (has : a ≤ s) (hsm : s ≤ m) (hme : m ≤ e) (heb : e ≤ b) (hse : s + e = mid + m)
    (hlo : a < s → e < b → lt d[e]! d[s - 1]! = false) (hhi : s < m → m < e → lt d[e - 1]! d[s]! = true)
    (R : Rot m (m - s) (e - m) d D) : ∀ i j, a ≤ i → i < mid → mid ≤ j → j < b → lt D[j]! D[i]! = false := by
  intro i j hi him hj hjb
  have hD1 : i < s → D[i]! = d[i]! := fun h => R.same i (by omega)
  have hD2 : s ≤ i → D[i]! = d[m + (i - s)]! := fun h => by
    have := R.left (i - s) (by omega)
    rw [show m - (m - s) + (i - s) = i by omega] at this; exact this
  have hD3 : j < e → D[j]! = d[s + (j - mid)]! := fun h => by
    have := R.right (j - mid) (by omega)
    rw [show m - (m - s) + (e - m) + (j - mid) = j by omega, show m - (m - s) + (j - mid) = s + (j - mid) by omega] at this; exact this
  have hD4 : e ≤ j → D[j]! = d[j]! := fun h => R.same j (by omega)
  rcases Nat.lt_or_ge i s with h1 | h1
  · rw [hD1 h1]
    rcases Nat.lt_or_ge j e with h2 | h2
    · rw [hD3 h2]; exact hs1 _ _ hi (by omega) (by omega)
    · rw [hD4 h2]
      have h3 := hlo (by omega) (by omega)
      have h4 : lt d[j]! d[s - 1]! = false := by
        rcases Nat.lt_or_ge e j with h5 | h5
        · exact hS.ntrans _ _ _ (hs2 e j (by omega) h5 hjb) h3
        · have : j = e := by omega
          rw [this]; exact h3
      rcases Nat.lt_or_ge i (s - 1) with h5 | h5
      · exact hS.ntrans _ _ _ h4 (hs1 i (s - 1) hi h5 (by omega))
      · have : i = s - 1 := by omega
        rw [this]; exact h4
  · rw [hD2 h1]
    rcases Nat.lt_or_ge j e with h2 | h2
    · rw [hD3 h2]
      have h3 := not_back hS (hhi (by omega) (by omega))
      -- d[s + ..] is not less than d[s]; d[m + ..] is not more than d[e - 1]
      have h5 : lt d[s]! d[m + (i - s)]! = false := by
        rcases Nat.lt_or_ge (m + (i - s)) (e - 1) with h6 | h6
        · exact hS.ntrans _ _ _ h3 (hs2 _ _ (by omega) h6 (by omega))
        · have : m + (i - s) = e - 1 := by omega
          rw [this]; exact h3
      rcases Nat.lt_or_ge s (s + (j - mid)) with h6 | h6
      · exact hS.ntrans _ _ _ (hs1 s _ (by omega) h6 (by omega)) h5
      · have : s + (j - mid) = s := by omega
        rw [this]; exact h5
    · rw [hD4 h2]; exact hs2 _ _ (by omega) (by omega) hjb
end
section
variable {α : Type} [Inhabited α] {lt : α → α → Bool} (rk : α → Nat)
/-- two sorted runs beside one another, the second of greater rank -/
structure Runs (lt : α → α → Bool) (a m b : Nat) (d : Array α) : Prop where
  s1 : SortedIn lt a m d
  s2 : SortedIn lt m b d
  rk : ∀ i j, a ≤ i → i < m → m ≤ j → j < b → rk d[i]! < rk d[j]!
theorem Runs.first {a m b mid s e : Nat} {d D : Array α} (h : Runs rk lt a m b d) (hsm : s ≤ m) (hme : m ≤ e) (heb : e ≤ b) (hse : s + e = mid + m) (R : Rot m (m - s) (e - m) d D) : Runs rk lt a s mid D := by
  have hD1 : ∀ k, k < s → D[k]! = d[k]! := fun k hk => R.same k (by omega)
  have hD2 : ∀ k, s ≤ k → k < mid → D[k]! = d[m + (k - s)]! := fun k h1 h2 => by
    have := R.left (k - s) (by omega)
    rw [show m - (m - s) + (k - s) = k by omega] at this; exact this
  refine ⟨fun x y hx hxy hy => ?_, fun x y hx hxy hy => ?_, fun i j h1 h2 h3 h4 => ?_⟩
  · rw [hD1 x (by omega), hD1 y (by omega)]; exact h.s1 x y hx hxy (by omega)
  · rw [hD2 x hx (by omega), hD2 y (by omega) hy]; exact h.s2 _ _ (by omega) (by omega) (by omega)
  · rw [hD1 i h2, hD2 j h3 h4]; exact h.rk _ _ h1 (by omega) (by omega) (by omega)
theorem Runs.second {a m b mid s e : Nat} {d D : Array α} (h : Runs rk lt a m b d) (has : a ≤ s) (hsm : s ≤ m) (hme : m ≤ e) (hse : s + e = mid + m) (R : Rot m (m - s) (e - m) d D) : Runs rk lt mid e b D := by
  have hD3 : ∀ k, mid ≤ k → k < e → D[k]! = d[s + (k - mid)]! := fun k h1 h2 => by
    have := R.right (k - mid) (by omega)
    rw [show m - (m - s) + (e - m) + (k - mid) = k by omega, show m - (m - s) + (k - mid) = s + (k - mid) by omega] at this; exact this
  have hD4 : ∀ k, e ≤ k → D[k]! = d[k]! := fun k hk => R.same k (by omega)
  refine ⟨fun x y hx hxy hy => ?_, fun x y hx hxy hy => ?_, fun i j h1 h2 h3 h4 => ?_⟩
  · rw [hD3 x hx (by omega), hD3 y (by omega) hy]; exact h.s1 _ _ (by omega) (by omega) (by omega)
  · rw [hD4 x hx, hD4 y (by omega)]; exact h.s2 _ _ (by omega) hxy hy
  · rw [hD3 i h1 h2, hD4 j h3]; exact h.rk _ _ (by omega) (by omega) (by omega) h4
/-- what stands outside stays -/
theorem Runs.keep {a m b lo hi : Nat} {d D : Array α} (h : Runs rk lt a m b d) (ham : a ≤ m) (hmb : m ≤ b) (hp : PermIn lo hi d D) (ho : hi ≤ a ∨ b ≤ lo) : Runs rk lt a m b D := by
  have hD : ∀ k, a ≤ k → k < b → D[k]! = d[k]! := fun k h1 h2 => hp.2.1 k (by omega)
  refine ⟨fun x y hx hxy hy => ?_, fun x y hx hxy hy => ?_, fun i j h1 h2 h3 h4 => ?_⟩
  · rw [hD x hx (by omega), hD y (by omega) (by omega)]; exact h.s1 x y hx hxy hy
  · rw [hD x (by omega) (by omega), hD y (by omega) hy]; exact h.s2 x y hx hxy hy
  · rw [hD i h1 (by omega), hD j (by omega) h4]; exact h.rk i j h1 h2 h3 h4
end
end Go.Proofs.Ytkbchpbdpkbnjaa.Heat
