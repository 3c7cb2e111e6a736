/-
  What a crash leaves of each sector: plain mathematics.
-/
import Derived.Test.YtojbanknbgihgaaDoorTwinMath
namespace Go.Proofs.YtojbanknbgihgaaDoor
open Go.RowKit
namespace Dsk
open B

theorem crashFrom_other (sure : List ByteArray) (ch : List Int) (j : Nat) : ∀ (l : List Int) (L : List ByteArray) (k : Nat), (∀ x ∈ l, 0 ≤ x) → (j : Int) ∉ l → (crashFrom sure ch L k l)[j]? = L[j]?
  | [], _, _, _, _ => rfl
  | i :: r, L, k, h0, h => by
    rw [List.mem_cons, not_or] at h
    have := h0 i (by simp)
    rw [crashFrom, crashFrom_other sure ch j r _ _ (fun x hx => h0 x (by simp [hx])) h.2, List.getElem?_set_ne (by omega)]
theorem crashFrom_torn_at (sure : List ByteArray) (ch : List Int) (j : Nat) : ∀ (l : List Int) (L : List ByteArray) (k : Nat), (∀ x ∈ l, 0 ≤ x) → l.Pairwise (· < ·) → j < L.length → (j : Int) ∈ l → ∃ n, n ≤ 256 ∧ (crashFrom sure ch L k l)[j]? = some (tear (L.getD j ⟨#[]⟩) (sure.getD j ⟨#[]⟩) n)
  | [], _, _, _, _, _, h => by cases h
  | i :: r, L, k, h0, hp, hj, h => by
    rw [List.pairwise_cons] at hp
    rw [crashFrom]
    by_cases e : (j : Int) = i
    · subst e
      have hn : (j : Int) ∉ r := fun hx => by have := hp.1 _ hx; omega
      rw [crashFrom_other sure ch j r _ _ (fun x hx => h0 x (by simp [hx])) hn, Int.toNat_natCast]
      exact ⟨keepN ch k, keepN_le _ _, by rw [List.getElem?_set_self hj]⟩
    · have hr : (j : Int) ∈ r := by
        rcases List.mem_cons.1 h with h | h
        · exact absurd h e
        · exact h
      have hi := h0 i (by simp)
      have hne : i.toNat ≠ j := by omega
      obtain ⟨n, hn, hx⟩ := crashFrom_torn_at sure ch j r (L.set i.toNat (tear (L.getD i.toNat ⟨#[]⟩) (sure.getD i.toNat ⟨#[]⟩) (keepN ch k))) (k + 1) (fun x hx => h0 x (by simp [hx])) hp.2 (by simpa using hj) hr
      refine ⟨n, hn, ?_⟩
      rw [hx]
      simp only [List.getD_eq_getElem?_getD, List.getElem?_set_ne hne]
theorem getD_at {l : List ByteArray} {j : Nat} (h : j < l.length) : l.getD j ⟨#[]⟩ = l[j] := by rw [List.getD_eq_getElem?_getD, List.getElem?_eq_getElem h]; rfl
theorem size_at {l : List ByteArray} (hf : ∀ s ∈ l, s.size = 256) {j : Nat} (h : j < l.length) : (l.getD j ⟨#[]⟩).size = 256 := by rw [getD_at h]; exact hf _ (List.getElem_mem _)
theorem extract_full {p : ByteArray} (h : p.size = 256) : p.extract 0 256 = p := by
  apply ext_data
  rw [take_data, List.take_of_length_le (by rw [size_data]; omega)]
/-- each sector is a beginning of what was there, and the rest of what was there for sure -/
theorem crash_at {d : D} (h : Inv d) (ch : List Int) {j : Nat} (hj : j < d.now.length) : ∃ n, n ≤ 256 ∧ (crash d ch).now.getD j ⟨#[]⟩ = tear (d.now.getD j ⟨#[]⟩) (d.sure.getD j ⟨#[]⟩) n := by
  have h0 : ∀ x ∈ d.loose, 0 ≤ x := fun x hx => (h.inr x hx).1
  show ∃ n, n ≤ 256 ∧ (crashFrom d.sure ch d.now 0 d.loose).getD j ⟨#[]⟩ = _
  by_cases hm : (j : Int) ∈ d.loose
  · obtain ⟨n, hn, hx⟩ := crashFrom_torn_at d.sure ch j d.loose d.now 0 h0 h.rise hj hm
    exact ⟨n, hn, by rw [List.getD_eq_getElem?_getD, hx]; rfl⟩
  · refine ⟨256, Nat.le_refl _, ?_⟩
    rw [List.getD_eq_getElem?_getD, crashFrom_other d.sure ch j d.loose d.now 0 h0 hm, ← List.getD_eq_getElem?_getD, tear_256 (size_at h.fulls (by rw [h.len]; exact hj)), extract_full (size_at h.full hj)]

theorem tear_list {p q : ByteArray} (hq : q.size = 256) {n : Nat} : (tear p q n).data.toList = p.data.toList.take n ++ q.data.toList.drop n := by
  unfold tear
  rw [cat_data, take_data]
  have := drop_data q n
  rw [hq] at this
  rw [this]
/-- a byte of a torn sector that is not the last one's: from there on it is the sure one's -/
theorem tear_rest {p q : ByteArray} (hp : p.size = 256) (hq : q.size = 256) {n k : Nat} (hn : n ≤ 256) (hk : k ≤ 256) (h : k = 256 ∨ ∃ (h1 : k < (tear p q n).size) (h2 : k < p.size), (tear p q n)[k] ≠ p[k]) :
    (tear p q n).extract k 256 = q.extract k 256 := by
  have hs := tear_size hp hq hn
  have hkn : n ≤ k := by
    rcases h with rfl | ⟨h1, h2, hne⟩
    · exact hn
    · rcases Nat.lt_or_ge k n with hlt | hge
      · exfalso
        apply hne
        have e := tear_list (p := p) hq (n := n)
        have h3 : k < (tear p q n).data.toList.length := by rw [size_data]; exact h1
        have h4 : (tear p q n).data.toList[k] = p.data.toList[k]'(by rw [size_data]; exact h2) := by
          simp only [e]
          rw [List.getElem_append_left (by rw [List.length_take, size_data]; omega), List.getElem_take]
        have : (tear p q n).data[k]'(by simpa using h3) = p.data[k]'h2 := by simpa using h4
        exact this
      · exact hge
  apply ext_data
  have e1 := drop_data (tear p q n) k
  have e2 := drop_data q k
  rw [hs] at e1
  rw [hq] at e2
  rw [e1, e2, tear_list hq (n := n), List.drop_append, List.drop_eq_nil_of_le (by rw [List.length_take]; omega), List.nil_append, List.drop_drop]
  congr 1
  rw [List.length_take, size_data]
  omega
end Dsk
end Go.Proofs.YtojbanknbgihgaaDoor
