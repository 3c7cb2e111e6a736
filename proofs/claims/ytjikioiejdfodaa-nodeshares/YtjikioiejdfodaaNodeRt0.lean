/-
  The statement's own 'Right': a node that may be, of any one.
-/
import Derived.Test.YtjikioiejdfodaaNodeFew
namespace Go.Proofs.Ytjikioiejdfodaa
open Go.RowKit
namespace Nod
open B V
set_option linter.unusedVariables false
def clamp (p : Int) : Int := max 0 (min p 2147483647)
abbrev St := ByteArray × List ByteArray × List ByteArray × List Int
def rstep (f : N) (kd : Int) (s : St) (i : Nat) : St :=
  if Lt s.1 (cutB (f.keys.getD i ⟨#[]⟩) 16) then (cutB (f.keys.getD i ⟨#[]⟩) 16, s.2.1 ++ [cutB (f.keys.getD i ⟨#[]⟩) 16], if kd = 1 then s.2.2.1 ++ [cutB (f.vals.getD i ⟨#[]⟩) 32] else s.2.2.1, if kd = 1 then s.2.2.2 else s.2.2.2 ++ [clamp (f.kids.getD i 0)]) else s
def rst (f : N) (kd : Int) : Nat → St
  | 0 => (⟨#[]⟩, [], [], [])
  | i + 1 => rstep f kd (rst f kd i) i
def kindOf (k : Int) : Int := 1 + bits .and .i64 k 1
theorem and1 (k : Int) : bits .and .i64 k 1 = ((k % 2).toNat : Int) := by
  show IntKind.i64.wrap ((BitVec.ofInt 64 k &&& BitVec.ofInt 64 1).toNat : Int) = _
  have h : (BitVec.ofInt 64 k &&& BitVec.ofInt 64 1).toNat = (k % 2).toNat := by
    rw [BitVec.toNat_and, show (BitVec.ofInt 64 1).toNat = 1 from rfl]
    rw [show (BitVec.ofInt 64 k).toNat &&& 1 = (BitVec.ofInt 64 k).toNat % 2 from Nat.and_two_pow_sub_one_eq_mod _ 1, BitVec.toNat_ofInt]
    omega
  rw [h]
  exact IntWalk.i64_in _ (by omega)
theorem kindOf_or (k : Int) : kindOf k = 1 ∨ kindOf k = 2 := by unfold kindOf; rw [and1]; omega
def rightN (n : N) : N :=
  if (rst (fewN n) (kindOf n.kind) (fewN n).keys.length).2.1.length = 0 then ⟨1, (rst (fewN n) (kindOf n.kind) (fewN n).keys.length).2.1, (rst (fewN n) (kindOf n.kind) (fewN n).keys.length).2.2.1, (rst (fewN n) (kindOf n.kind) (fewN n).keys.length).2.2.2⟩
  else ⟨kindOf n.kind, (rst (fewN n) (kindOf n.kind) (fewN n).keys.length).2.1, (rst (fewN n) (kindOf n.kind) (fewN n).keys.length).2.2.1, (rst (fewN n) (kindOf n.kind) (fewN n).keys.length).2.2.2⟩
/-- what the state keeps -/
structure RI (kd : Int) (i : Nat) (s : St) : Prop where
  len : s.2.1.length ≤ i
  v : if kd = 1 then s.2.2.1.length = s.2.1.length ∧ s.2.2.2 = [] else s.2.2.2.length = s.2.1.length ∧ s.2.2.1 = []
  rise : Rise s.2.1
  last : ∀ k ∈ s.2.1, k = s.1 ∨ Lt k s.1
  key : ∀ k ∈ s.2.1, 0 < k.size ∧ k.size ≤ 16
  val : ∀ x ∈ s.2.2.1, x.size ≤ 32
  kid : ∀ p ∈ s.2.2.2, 0 ≤ p ∧ p ≤ 2147483647
theorem lt_pos {a b : ByteArray} (h : Lt a b) : 0 < b.size := by
  rcases Nat.eq_zero_or_pos b.size with h0 | h0
  · exfalso
    have hb : b.data.toList = [] := by rw [← List.length_eq_zero_iff, B.size_data]; exact h0
    unfold Lt at h
    rw [hb] at h
    exact absurd h (List.not_lt_nil _)
  · exact h0
theorem ri (f : N) (kd : Int) : ∀ i, RI kd i (rst f kd i)
  | 0 => by
    refine ⟨Nat.zero_le _, ?_, List.Pairwise.nil, (fun k h => by cases h), (fun k h => by cases h), (fun k h => by cases h), (fun k h => by cases h)⟩
    show if kd = 1 then _ else _
    split <;> exact ⟨rfl, rfl⟩
  | i + 1 => by
    have h := ri f kd i
    show RI kd (i + 1) (rstep f kd (rst f kd i) i)
    unfold rstep
    generalize rst f kd i = s at *
    obtain ⟨la, K, Vv, C⟩ := s
    simp only at h ⊢
    by_cases hl : Lt la (cutB (f.keys.getD i ⟨#[]⟩) 16)
    · rw [if_pos hl]
      have hks := cutB_size (f.keys.getD i ⟨#[]⟩) 16
      have hkp := lt_pos hl
      have hvs := cutB_size (f.vals.getD i ⟨#[]⟩) 32
      generalize cutB (f.keys.getD i ⟨#[]⟩) 16 = k at *
      generalize cutB (f.vals.getD i ⟨#[]⟩) 32 = v at *
      obtain ⟨h1, h2, h3, h4, h5, h6, h7⟩ := h
      simp only at h1 h2 h3 h4 h5 h6 h7
      have hlast : ∀ x ∈ K, Lt x k := fun x hx => by
        rcases h4 x hx with e | e
        · subst e; exact hl
        · exact e.trans hl
      refine ⟨by simp; exact h1, ?_, ?_, ?_, ?_, ?_, ?_⟩
      · by_cases hk : kd = 1
        · simp only [hk, if_true] at h2 ⊢; simp [h2.1, h2.2]
        · simp only [hk, if_false] at h2 ⊢; simp [h2.1, h2.2]
      · exact List.pairwise_append.mpr ⟨h3, List.pairwise_singleton _ _, fun a ha b hb => by rw [List.mem_singleton] at hb; subst hb; exact hlast a ha⟩
      · intro x hx
        rcases List.mem_append.mp hx with hx | hx
        · exact .inr (hlast x hx)
        · rw [List.mem_singleton] at hx; exact .inl hx
      · intro x hx
        rcases List.mem_append.mp hx with hx | hx
        · exact h5 x hx
        · rw [List.mem_singleton] at hx; subst hx; exact ⟨hkp, hks⟩
      · intro x hx
        by_cases hk : kd = 1
        · simp only [hk, if_true] at hx
          rcases List.mem_append.mp hx with hx | hx
          · exact h6 x hx
          · rw [List.mem_singleton] at hx; subst hx; exact hvs
        · simp only [hk, if_false] at hx; exact h6 x hx
      · intro x hx
        by_cases hk : kd = 1
        · simp only [hk, if_true] at hx; exact h7 x hx
        · simp only [hk, if_false] at hx
          rcases List.mem_append.mp hx with hx | hx
          · exact h7 x hx
          · rw [List.mem_singleton] at hx; subst hx; unfold clamp; omega
    · rw [if_neg hl]
      exact ⟨Nat.le_succ_of_le h.len, h.v, h.rise, h.last, h.key, h.val, h.kid⟩
theorem fewN_len (n : N) : (fewN n).keys.length ≤ 30 ∧ (fewN n).vals.length ≤ 30 ∧ (fewN n).kids.length ≤ 30 := by
  unfold fewN
  simp only [List.length_map, List.length_take]
  omega
theorem right_ok (n : N) : Ok (rightN n) ∧ (rightN n).keys.length ≤ 30 ∧ (rightN n).vals.length ≤ 30 ∧ (rightN n).kids.length ≤ 30 := by
  have h := ri (fewN n) (kindOf n.kind) (fewN n).keys.length
  have hl := (fewN_len n).1
  unfold rightN
  generalize rst (fewN n) (kindOf n.kind) (fewN n).keys.length = s at *
  generalize (fewN n).keys.length = L at *
  have hk := kindOf_or n.kind
  generalize kindOf n.kind = kd at *
  obtain ⟨la, K, Vv, C⟩ := s
  obtain ⟨h1, h2, h3, h4, h5, h6, h7⟩ := h
  simp only at h1 h2 h3 h4 h5 h6 h7 ⊢
  by_cases h0 : K.length = 0
  · rw [if_pos h0]
    have hv : Vv.length = 0 ∧ C.length = 0 := by
      by_cases hq : kd = 1
      · rw [if_pos hq] at h2; rw [h2.2]; exact ⟨by omega, rfl⟩
      · rw [if_neg hq] at h2; rw [h2.2]; exact ⟨rfl, by omega⟩
    exact ⟨⟨.inl ⟨rfl, by simp only; omega, by simp only; omega⟩, h3, h5, h6, h7⟩, by simp only; omega, by simp only; omega, by simp only; omega⟩
  · rw [if_neg h0]
    rcases hk with hk | hk
    · rw [if_pos hk] at h2
      exact ⟨⟨.inl ⟨hk, h2.1, by rw [h2.2]; rfl⟩, h3, h5, h6, h7⟩, by simp only; omega, by simp only; omega, by simp only; rw [h2.2]; simp⟩
    · rw [if_neg (by omega)] at h2
      exact ⟨⟨.inr ⟨hk, h2.1, by rw [h2.2]; rfl, by simp only; omega⟩, h3, h5, h6, h7⟩, by simp only; omega, by simp only; rw [h2.2]; simp, by simp only; omega⟩
theorem own_eq {w w' : World} {M t size m : Nat} {v : Value} {xs : List Value} (h : w.ownsRow M t size v m xs) (hb : ∀ b, v.ownBlock = some b → w'.heap[b]? = w.heap[b]?) : w'.ownsRow M t size v m xs := by
  refine ⟨h.1, ?_⟩
  rcases h.2 with hn | ⟨g, cap, cur, rfl, hbb, hg, r⟩
  · exact .inl hn
  · exact .inr ⟨g, cap, cur, rfl, hbb, (hb g rfl).trans hg, r⟩
theorem NOwn.low {Bd M gN : Nat} {w w' : World} {v : Value} {n : N} (h : NOwn Bd w v n) (hl : Low M gN w w') (hb : ∀ b, nblk v b → b < M ∧ b ≠ gN) : NOwn Bd w' v n := by
  obtain ⟨vk, vv, vc, rfl, h1, h2, h3, r⟩ := h
  refine ⟨vk, vv, vc, rfl, own_eq h1 fun b q => ?_, own_eq h2 fun b q => ?_, own_eq h3 fun b q => ?_, r⟩
  · have := hb b ⟨_, _, _, _, rfl, .inl q⟩; exact hl b this.1 this.2
  · have := hb b ⟨_, _, _, _, rfl, .inr (.inl q)⟩; exact hl b this.1 this.2
  · have := hb b ⟨_, _, _, _, rfl, .inr (.inr q)⟩; exact hl b this.1 this.2
end Nod
end Go.Proofs.Ytjikioiejdfodaa
