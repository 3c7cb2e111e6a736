/-
  Splitting a node: plain mathematics (P9.1, P9.3).
-/
import Derived.Test.YtjikioiejdfodaaNodeCat
import Derived.Test.YtjikioiejdfodaaNodeREn
namespace Go.Proofs.Ytjikioiejdfodaa
open Go.RowKit
namespace Nod
open B V
theorem num_len {x k : Nat} (hk : 0 < k) (h : x < 128 ^ k) : (Var.num x).length ≤ k := by
  induction k generalizing x with
  | zero => omega
  | succ k ih =>
    by_cases hx : x < 128
    · rw [Var.num_lt hx]; simp
    · rw [Var.num_ge (by omega), List.length_cons]
      have h2 : x / 128 < 128 ^ k := by rw [Nat.div_lt_iff_lt_mul (by omega)]; rw [Nat.pow_succ] at h; exact h
      rcases Nat.eq_zero_or_pos k with h0 | h0
      · subst h0; simp at h2; omega
      · have := ih h0 h2; omega
theorem ent_50 {n : N} (h : Ok n) (i : Nat) : (ent n i).length ≤ 50 := by
  have hk : (n.keys.getD i ⟨#[]⟩).size ≤ 16 := by
    by_cases hi : i < n.keys.length
    · exact (h.key _ (getD_mem hi)).2
    · rw [getD_out hi]; exact Nat.zero_le _
  have hv : (n.vals.getD i ⟨#[]⟩).size ≤ 32 := by
    by_cases hi : i < n.vals.length
    · exact h.val _ (getD_mem hi)
    · rw [getD_out hi]; exact Nat.zero_le _
  have hc : (n.kids.getD i 0).toNat < 128 ^ 5 := by
    have := h.fine.kid' i
    have : (128 : Nat) ^ 5 = 34359738368 := rfl
    omega
  have n1 := num_len (k := 1) (by omega) (x := (n.keys.getD i ⟨#[]⟩).size) (by omega)
  have n2 := num_len (k := 1) (by omega) (x := (n.vals.getD i ⟨#[]⟩).size) (by omega)
  have n3 := num_len (k := 5) (by omega) hc
  unfold ent
  split
  · unfold txt; rw [List.length_append, List.length_append, B.size_data]; omega
  · unfold txt; rw [List.length_append, List.length_append, List.length_append, B.size_data, B.size_data]; omega
theorem ent_pos (n : N) (i : Nat) : 1 ≤ (ent n i).length := by unfold ent txt; rw [List.length_append, List.length_append]; have := Var.num_pos (n.keys.getD i ⟨#[]⟩).size; omega
theorem ents_50 {n : N} (h : Ok n) : ∀ k, (ents n k).length ≤ 50 * k
  | 0 => by simp [ents]
  | k + 1 => by rw [ents_succ, List.length_append]; have := ents_50 h k; have := ent_50 h k; omega
theorem right_size {n : N} (h : Ok n) (hl : n.keys.length ≤ 30) : size n ≤ 1501 := by
  unfold size pack
  rw [List.length_append]
  have := ents_50 h n.keys.length
  have := num_len (k := 1) (by omega) (x := n.keys.length) (by omega)
  omega
theorem num_one {x : Nat} (h : x < 128) : (Var.num x).length = 1 := by rw [Var.num_lt h]; rfl
theorem size_pre {n : N} (h : n.keys.length < 128) : size n = 1 + pre n n.keys.length := by unfold size pack pre; rw [List.length_append, num_one h]
theorem pre_pos (n : N) {k : Nat} (h : 0 < k) : 0 < pre n k := by
  obtain ⟨j, rfl⟩ : ∃ j, k = j + 1 := ⟨k - 1, by omega⟩
  rw [pre_succ]; have := ent_pos n j; omega
theorem pre_mono (n : N) {i j : Nat} (h : i ≤ j) : pre n i ≤ pre n j := by
  obtain ⟨d, rfl⟩ : ∃ d, j = i + d := ⟨j - i, by omega⟩
  induction d with
  | zero => exact Nat.le_refl _
  | succ d ih => have := ih (by omega); rw [show i + (d + 1) = (i + d) + 1 by omega, pre_succ]; omega
/-- where it is split -/
theorem midGo_eq (n : N) (m : Nat) : ∀ (f i : Nat), i ≤ m → m ≤ f + i → (m + 1 ≤ n.keys.length ∨ m = 0) → (∀ j, j < m → 2 * pre n j < pre n n.keys.length) → (m + 1 = n.keys.length ∨ pre n n.keys.length ≤ 2 * pre n m ∨ n.keys.length = 0) → midGo n f i = m
  | 0, i, h1, h2, _, _, _ => by rw [midGo]; omega
  | f + 1, i, h1, h2, h3, h4, h5 => by
    rw [midGo]
    by_cases hi : i = m
    · subst hi
      rw [if_neg (by omega)]
    · rw [if_pos ⟨by omega, h4 i (by omega)⟩]
      exact midGo_eq n m f (i + 1) (by omega) (by omega) h3 h4 h5
theorem mid_eq {n : N} {m : Nat} (h : m + 1 ≤ n.keys.length) (h4 : ∀ j, j < m → 2 * pre n j < pre n n.keys.length) (h5 : m + 1 = n.keys.length ∨ pre n n.keys.length ≤ 2 * pre n m) : mid n = m :=
  midGo_eq n m n.keys.length 0 (Nat.zero_le _) (by omega) (.inl h) h4 (by rcases h5 with h | h; exact .inl h; exact .inr (.inl h))
theorem midGo_spec (n : N) : ∀ (f i : Nat), i + 1 ≤ n.keys.length → n.keys.length ≤ f + i + 1 → (∀ j, j < i → 2 * pre n j < pre n n.keys.length) →
    midGo n f i + 1 ≤ n.keys.length ∧ (∀ j, j < midGo n f i → 2 * pre n j < pre n n.keys.length) ∧ (midGo n f i + 1 = n.keys.length ∨ pre n n.keys.length ≤ 2 * pre n (midGo n f i))
  | 0, i, h1, h2, h3 => by rw [midGo]; exact ⟨h1, h3, .inl (by omega)⟩
  | f + 1, i, h1, h2, h3 => by
    rw [midGo]
    by_cases hc : i + 1 < n.keys.length ∧ 2 * pre n i < pre n n.keys.length
    · rw [if_pos hc]
      refine midGo_spec n f (i + 1) (by omega) (by omega) fun j hj => ?_
      by_cases hji : j = i
      · subst hji; exact hc.2
      · exact h3 j (by omega)
    · rw [if_neg hc]
      exact ⟨h1, h3, by omega⟩
theorem mid_spec {n : N} (h : 1 ≤ n.keys.length) : mid n + 1 ≤ n.keys.length ∧ (∀ j, j < mid n → 2 * pre n j < pre n n.keys.length) ∧ (mid n + 1 = n.keys.length ∨ pre n n.keys.length ≤ 2 * pre n (mid n)) :=
  midGo_spec n n.keys.length 0 (by omega) (by omega) (fun j hj => by omega)
theorem mid_pos {n : N} (h : 2 ≤ n.keys.length) : 1 ≤ mid n := by
  obtain ⟨_, _, h3⟩ := mid_spec (n := n) (by omega)
  rcases Nat.eq_zero_or_pos (mid n) with h0 | h0
  · rw [h0] at h3
    have := pre_pos n (k := n.keys.length) (by omega)
    have hz : pre n 0 = 0 := rfl
    omega
  · exact h0
/-- pieces -/
theorem sub_len {α : Type} (l : List α) {lo hi : Nat} (h : lo ≤ hi) (h2 : hi ≤ l.length) : (sub l lo hi).length = hi - lo := by unfold sub; rw [List.length_drop, List.length_take]; omega
theorem sub_nil {α : Type} (lo hi : Nat) : sub ([] : List α) lo hi = [] := by unfold sub; simp
theorem sub_getD {α : Type} (l : List α) (z : α) {lo hi i : Nat} (h : lo + i < hi) : (sub l lo hi).getD i z = l.getD (lo + i) z := by
  unfold sub
  rw [List.getD_eq_getElem?_getD, List.getElem?_drop, List.getElem?_take_of_lt h, List.getD_eq_getElem?_getD]
theorem ent_part {n : N} {lo hi i : Nat} (h : lo + i < hi) : ent (npart n lo hi) i = ent n (lo + i) := by
  unfold ent npart
  simp only [sub_getD _ _ h]
theorem ents_part {n : N} {lo hi : Nat} : ∀ k, lo + k ≤ hi → ents n lo ++ ents (npart n lo hi) k = ents n (lo + k)
  | 0, _ => by simp [ents]
  | k + 1, h => by rw [ents_succ, ← List.append_assoc, ents_part k (by omega), ent_part (by omega), ← Nat.add_assoc, ents_succ]
theorem pre_part {n : N} {lo hi : Nat} (h : lo ≤ hi) : pre n lo + pre (npart n lo hi) (hi - lo) = pre n hi := by
  have := congrArg List.length (ents_part (n := n) (lo := lo) (hi := hi) (hi - lo) (by omega))
  rw [List.length_append, show lo + (hi - lo) = hi by omega] at this
  exact this
theorem part_len {n : N} {lo hi : Nat} (h : lo ≤ hi) (h2 : hi ≤ n.keys.length) : (npart n lo hi).keys.length = hi - lo := sub_len _ h h2
theorem part_ok {n : N} (h : Ok n) {lo hi : Nat} (h1 : lo < hi) (h2 : hi ≤ n.keys.length) : Ok (npart n lo hi) := by
  have hk := part_len (n := n) (Nat.le_of_lt h1) h2
  refine ⟨?_, ?_, fun k hx => h.key k (List.mem_of_mem_take (List.mem_of_mem_drop hx)), fun k hx => h.val k (List.mem_of_mem_take (List.mem_of_mem_drop hx)), fun k hx => h.kid k (List.mem_of_mem_take (List.mem_of_mem_drop hx))⟩
  · rcases h.ev with ⟨a, b, c⟩ | ⟨a, b, c, d⟩
    · refine .inl ⟨a, ?_, ?_⟩
      · rw [hk]; exact sub_len _ (Nat.le_of_lt h1) (by omega)
      · show (sub n.kids lo hi).length = 0
        rw [List.length_eq_zero_iff.mp c, sub_nil]; rfl
    · refine .inr ⟨a, ?_, ?_, by omega⟩
      · rw [hk]; exact sub_len _ (Nat.le_of_lt h1) (by omega)
      · show (sub n.vals lo hi).length = 0
        rw [List.length_eq_zero_iff.mp c, sub_nil]; rfl
  · exact List.Pairwise.sublist ((List.drop_sublist _ _).trans (List.take_sublist _ _)) h.rise
theorem sub_join {α : Type} (l : List α) {a L : Nat} (h : l.length ≤ L) : sub l 0 a ++ sub l a L = l := by
  unfold sub
  rw [List.drop_zero, List.take_of_length_le h, List.take_append_drop]
theorem part_join {n : N} (h : Ok n) {a : Nat} : njoin (npart n 0 a) (npart n a n.keys.length) = n := by
  have hv : n.vals.length ≤ n.keys.length ∧ n.kids.length ≤ n.keys.length := by rcases h.ev with ⟨_, b, c⟩ | ⟨_, b, c, _⟩ <;> omega
  obtain ⟨k, K, Vv, C⟩ := n
  simp only at hv
  unfold njoin npart
  simp only [sub_join K (Nat.le_refl _), sub_join Vv hv.1, sub_join C hv.2]
/-- P9.3 -/
theorem split_fits {n : N} (h : Ok n) (hl : 2 ≤ n.keys.length) (hl2 : n.keys.length < 128) (h1 : 240 < size n) (h2 : size n ≤ 290) :
    size (npart n 0 (mid n)) ≤ 240 ∧ size (npart n (mid n) n.keys.length) ≤ 240 ∧ 2 ≤ mid n ∧ 2 ≤ n.keys.length - mid n := by
  obtain ⟨s1, s2, s3⟩ := mid_spec (n := n) (by omega)
  have s0 := mid_pos hl
  rw [size_pre hl2] at h1 h2
  have L1 := part_len (n := n) (lo := 0) (hi := mid n) (by omega) (by omega)
  have L2 := part_len (n := n) (lo := mid n) (hi := n.keys.length) (by omega) (by omega)
  have p1 := pre_part (n := n) (lo := 0) (hi := mid n) (by omega)
  have p2 := pre_part (n := n) (lo := mid n) (hi := n.keys.length) (by omega)
  rw [pre_zero] at p1
  rw [size_pre (by omega), size_pre (by omega), L1, L2]
  obtain ⟨m, hm⟩ : ∃ m, mid n = m + 1 := ⟨mid n - 1, by omega⟩
  have e1 := ent_50 h m
  have p3 := pre_succ n m
  have q1 := s2 m (by omega)
  rw [← hm] at p3
  have hb : 2 ≤ n.keys.length - mid n := by
    rcases Nat.lt_or_ge (n.keys.length - mid n) 2 with hx | hx
    · exfalso
      have e2 := ent_50 h (mid n)
      have p4 := pre_succ n (mid n)
      rw [show mid n + 1 = n.keys.length by omega] at p4
      omega
    · exact hx
  have ha : 2 ≤ mid n := by
    rcases Nat.lt_or_ge (mid n) 2 with hx | hx
    · exfalso
      have hm0 : m = 0 := by omega
      subst hm0
      rw [pre_zero] at p3
      rcases s3 with s3 | s3 <;> omega
    · exact hx
  rcases s3 with s3 | s3
  · omega
  · exact ⟨by omega, by omega, ha, hb⟩
end Nod
end Go.Proofs.Ytjikioiejdfodaa
