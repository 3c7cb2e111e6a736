/-
  Several slices at once, and the calls of ids over them.
-/
import Derived.Test.YtkbchpbdpkbnjaaIdsLawA
namespace Go.Proofs.Ytkbchpbdpkbnjaa
open Go.RowKit
namespace Ids
theorem counts : ∀ (n : Nat) (a b : List Int), a.length + b.length ≤ n → (union a b).length + (both a b).length = a.length + b.length
  | n, [], [], _ => by simp [union, both, pickL]
  | 0, [], y :: ys, h => by simp at h
  | 0, x :: xs, b, h => by simp at h
  | n + 1, [], y :: ys, h => by
    have ih := counts n [] ys (by simp at h ⊢; omega)
    simp [union, both, pickL] at ih ⊢; omega
  | n + 1, x :: xs, [], h => by
    have ih := counts n xs [] (by simp at h ⊢; omega)
    simp [union, both, pickL] at ih ⊢; omega
  | n + 1, x :: xs, y :: ys, h => by
    have i1 := counts n xs (y :: ys) (by simp at h ⊢; omega)
    have i2 := counts n (x :: xs) ys (by simp at h ⊢; omega)
    have i3 := counts n xs ys (by simp at h ⊢; omega)
    unfold union both at i1 i2 i3 ⊢
    rw [pickL, pickL]
    simp only [List.length_cons] at i1 i2 i3 ⊢
    by_cases h1 : x < y
    · rw [if_pos h1, if_pos h1]; simp; omega
    · rw [if_neg h1, if_neg h1]
      by_cases h2 : y < x
      · rw [if_pos h2, if_pos h2]; simp; omega
      · rw [if_neg h2, if_neg h2]; simp; omega
theorem leaves : ∀ (n : Nat) (a b : List Int), a.length + b.length ≤ n → (minus a b).length + (both a b).length = a.length
  | n, [], [], _ => by simp [minus, both, pickL]
  | 0, [], y :: ys, h => by simp at h
  | 0, x :: xs, b, h => by simp at h
  | n + 1, [], y :: ys, h => by
    have ih := leaves n [] ys (by simp at h ⊢; omega)
    simp [minus, both, pickL] at ih ⊢; omega
  | n + 1, x :: xs, [], h => by
    have ih := leaves n xs [] (by simp at h ⊢; omega)
    simp [minus, both, pickL] at ih ⊢; omega
  | n + 1, x :: xs, y :: ys, h => by
    have i1 := leaves n xs (y :: ys) (by simp at h ⊢; omega)
    have i2 := leaves n (x :: xs) ys (by simp at h ⊢; omega)
    have i3 := leaves n xs ys (by simp at h ⊢; omega)
    unfold minus both at i1 i2 i3 ⊢
    rw [pickL, pickL]
    simp only [List.length_cons] at i1 i2 i3 ⊢
    by_cases h1 : x < y
    · rw [if_pos h1, if_pos h1]; simp; omega
    · rw [if_neg h1, if_neg h1]
      by_cases h2 : y < x
      · rw [if_pos h2, if_pos h2]; simp; omega
      · rw [if_neg h2, if_neg h2]; simp; omega
theorem nothing_left {a b : List Int} (ha : Up a) (hb : Up b) (h : ∀ z ∈ a, z ∈ b) : ((minus a b).length == 0) = true := by
  have : minus a b = [] := List.eq_nil_iff_forall_not_mem.2 fun z hz => by
    rw [mem_minus ha hb] at hz
    exact hz.2 (h z hz.1)
  rw [this]; rfl
end Ids
namespace I

/-- Several slices, each with its list and bounds. -/
def All (W : World) : List (Option Addr × Nat × List Int) → Prop
  | [] => True
  | k :: ks => LstC W k.1 k.2.1 k.2.2 ∧ All W ks
theorem All.below {W w' : World} (hb : Below W.heap.size W w') : ∀ {ks : List (Option Addr × Nat × List Int)}, All W ks → All w' ks
  | [], _ => trivial
  | _ :: _, h => ⟨h.1.below hb, All.below hb h.2⟩

section
variable (xs ys : List Int) (A B : Option Addr) (c d : Nat) (w : World) (hl : xs.length ≤ 1000) (hl2 : ys.length ≤ 1000) (hx : LstC w A c xs) (hy : LstC w B d ys)
include hl hl2 hx hy
theorem union_c : Calls Try.prog 43 #[.slice A xs.length c, .slice B ys.length d] w fun e w' => ∃ A' c', e = .returned (.slice A' (Ids.union xs ys).length c') ∧ LstC w' A' c' (Ids.union xs ys) ∧ Below w.heap.size w w' :=
  (union_any xs ys A B c d w hl hl2 hx.2.1 hy.2.1 hx.2.2.1 hy.2.2.1 hx.1 hy.1).mono fun e w' ⟨v, he, ho, hb⟩ => by
    obtain ⟨A', c', hv, hi⟩ := own_lstC ho
    exact ⟨A', c', by rw [he, hv], hi, hb⟩
theorem both_c : Calls Try.prog 44 #[.slice A xs.length c, .slice B ys.length d] w fun e w' => ∃ A' c', e = .returned (.slice A' (Ids.both xs ys).length c') ∧ LstC w' A' c' (Ids.both xs ys) ∧ Below w.heap.size w w' :=
  (both_any xs ys A B c d w hl hl2 hx.2.1 hy.2.1 hx.2.2.1 hy.2.2.1 hx.1 hy.1).mono fun e w' ⟨v, he, ho, hb⟩ => by
    obtain ⟨A', c', hv, hi⟩ := own_lstC ho
    exact ⟨A', c', by rw [he, hv], hi, hb⟩
theorem minus_c : Calls Try.prog 45 #[.slice A xs.length c, .slice B ys.length d] w fun e w' => ∃ A' c', e = .returned (.slice A' (Ids.minus xs ys).length c') ∧ LstC w' A' c' (Ids.minus xs ys) ∧ Below w.heap.size w w' :=
  (minus_any xs ys A B c d w hl hl2 hx.2.1 hy.2.1 hx.2.2.1 hy.2.2.1 hx.1 hy.1).mono fun e w' ⟨v, he, ho, hb⟩ => by
    obtain ⟨A', c', hv, hi⟩ := own_lstC ho
    exact ⟨A', c', by rw [he, hv], hi, hb⟩
theorem within_c : Calls Try.prog 50 #[.slice A xs.length c, .slice B ys.length d] w fun e w' => e = .returned (.bool ((Ids.minus xs ys).length == 0)) ∧ Below w.heap.size w w' :=
  within_any xs ys A B c d w hl hl2 hx.2.1 hy.2.1 hx.2.2.1 hy.2.2.1 hx.1 hy.1
theorem meets_c : Calls Try.prog 48 #[.slice A xs.length c, .slice B ys.length d] w fun e w' => e = .returned (.bool (decide (0 < (Ids.both xs ys).length))) ∧ Below w.heap.size w w' :=
  meets_any xs ys A B c d w hl hl2 hx.2.1 hy.2.1 hx.2.2.1 hy.2.2.1 hx.1 hy.1
end
end I
end Go.Proofs.Ytkbchpbdpkbnjaa
