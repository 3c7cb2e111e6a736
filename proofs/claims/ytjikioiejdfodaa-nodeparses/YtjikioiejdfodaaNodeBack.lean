/-
  Node: there and back.
-/
import Derived.Test.YtjikioiejdfodaaNodeFind
import Derived.Test.YtjikioiejdfodaaNodeParse
namespace Go.Proofs.Ytjikioiejdfodaa
open Go.RowKit
namespace Nod
open B V
theorem parse_any (k : Int) (s : ByteArray) (w : World) (hs : s.size ≤ 2000) :
    Calls Try.prog 34 #[.int .i64 k, .string s] w fun e w' => ∃ v, e = .returned (.tuple #[v, .int .i64 ((nparse k s).2 : Int)]) ∧ NOwn w.heap.size w' v (nparse k s).1 ∧ Below w.heap.size w w' := by
  by_cases h1 : k = 1
  · subst h1; exact parse1 s w hs
  · by_cases h2 : k = 2
    · subst h2; exact parse2 s w hs
    · exact parse_kind k s w h1 h2
/-- the entries of a node -/
def es (n : N) : List E := (List.range n.keys.length).map fun i => (n.keys.getD i ⟨#[]⟩, if n.kind = 1 then n.vals.getD i ⟨#[]⟩ else ⟨#[]⟩, if n.kind = 1 then 0 else n.kids.getD i 0)
theorem range_getD {α : Type} (l : List α) (z : α) : (List.range l.length).map (fun i => l.getD i z) = l := by
  apply List.ext_getElem (by simp)
  intro i h1 h2
  rw [List.getElem_map, List.getElem_range, List.getD_eq_getElem?_getD, List.getElem?_eq_getElem h2]; rfl
theorem nil_of_len {α : Type} {l : List α} (h : l.length = 0) : l = [] := List.length_eq_zero_iff.mp h
theorem mk_es {n : N} (h : Ok n) : mk n.kind (es n) = n := by
  obtain ⟨k, K, Vv, C⟩ := n
  have hev := h.ev
  simp only at hev
  unfold mk es
  simp only [List.map_map, Function.comp_def]
  rcases hev with ⟨rfl, h1, h2⟩ | ⟨rfl, h1, h2, _⟩
  · simp only [if_true]
    rw [range_getD, ← h1, range_getD, nil_of_len h2]
  · simp only [if_neg (show ¬ (2 : Int) = 1 by omega)]
    rw [range_getD, ← h1, range_getD, nil_of_len h2]
theorem es_ok {n : N} (h : Ok n) : ∀ e ∈ es n, EOk n.kind e := by
  intro e he
  obtain ⟨i, hi, rfl⟩ := List.mem_map.mp he
  have hi' := List.mem_range.mp hi
  have hk := h.key _ (getD_mem (z := ⟨#[]⟩) hi')
  have h0 : (⟨#[]⟩ : ByteArray).size = 0 := rfl
  rcases h.ev with ⟨k, h1, h2⟩ | ⟨k, h1, h2, _⟩
  · refine ⟨hk.2, ?_, ?_, fun q => absurd k q, fun _ => ?_⟩
    · simp only [k, if_true]; exact h.val _ (getD_mem (by omega))
    · simp only [k, if_true]; omega
    · simp only [k, if_true]
  · refine ⟨hk.2, ?_, ?_, fun _ => ?_, fun q => by omega⟩
    · simp only [k, if_neg (show ¬ (2 : Int) = 1 by omega)]; rw [h0]; omega
    · simp only [k, if_neg (show ¬ (2 : Int) = 1 by omega)]; exact h.kid _ (getD_mem (by omega))
    · simp only [k, if_neg (show ¬ (2 : Int) = 1 by omega)]
theorem Ok.kd {n : N} (h : Ok n) : n.kind = 1 ∨ n.kind = 2 := by rcases h.ev with h | h <;> simp [h.1]
theorem Ok.chk {n : N} (h : Ok n) : check n = true := check_ok.mpr h
theorem endS_nil {R : ByteArray} (h : R.data.toList = []) : endS R 0 = 0 := by
  have : R.size = 0 := by rw [← size_data, h]; rfl
  unfold endS; simp [this]
theorem nparse_back {n : N} (h : Ok n) (hl : n.keys.length ≤ 1000000) : nparse n.kind (packB n) = (n, 0) := by
  have hp : (packB n).data.toList = Var.num (es n).length ++ ((es n).flatMap (eb n.kind) ++ []) := by
    unfold packB
    have := pack_mk h.kd (es n)
    rw [mk_es h] at this
    simp [this]
  have hlen : (es n).length = n.keys.length := by unfold es; simp
  obtain ⟨R, h1, h2⟩ := numS_back (m := 18446744073709551615) (by omega) hp (by omega)
  obtain ⟨T, h3, h4⟩ := many_back h.kd (es n) R [] (es_ok h) h2
  rw [nparse_at h.kd h1 h3, endS_nil h4, mk_es h, h.chk]
  simp
theorem endS_inv {R : ByteArray} {e : Nat} (h : endS R e = 0) : e = 0 ∧ R.data.toList = [] := by
  unfold endS at h
  have : e = 0 ∧ R.size = 0 := by split at h <;> omega
  refine ⟨this.1, ?_⟩
  rw [← List.length_eq_zero_iff, size_data]; exact this.2
theorem nparse_ok {k : Int} {s : ByteArray} (h : (nparse k s).2 = 0) : Ok (nparse k s).1 ∧ (nparse k s).1.kind = k ∧ packB (nparse k s).1 = s := by
  by_cases hk : k = 1 ∨ k = 2
  · obtain ⟨x, S, e, h1⟩ : ∃ x S e, numS s 0 18446744073709551615 = (x, S, e) := ⟨_, _, _, rfl⟩
    obtain ⟨l, R, f, h2⟩ : ∃ l R f, many k x S e = (l, R, f) := ⟨_, _, _, rfl⟩
    rw [nparse_at hk h1 h2] at h ⊢
    by_cases he : endS R f ≠ 0
    · rw [if_pos he] at h; exact absurd h he
    · rw [if_neg he] at h ⊢
      by_cases hc : check (mk k l) = true
      · rw [if_pos hc]
        simp only
        obtain ⟨rfl, hR⟩ := endS_inv (show endS R f = 0 by omega)
        obtain ⟨rfl, h3, h4, h5⟩ := many_inv hk _ _ _ _ _ h2
        obtain ⟨h6, h7⟩ := numS_inv h1
        refine ⟨check_ok.mp hc, rfl, ?_⟩
        unfold packB
        rw [pack_mk hk, h4]
        rw [h3, hR, List.append_nil] at h6
        rw [← h6]
      · rw [if_neg hc] at h; simp at h
  · unfold nparse at h; rw [if_pos (by omega)] at h; simp at h
theorem len_pack (n : N) : n.keys.length ≤ size n := by
  unfold size pack
  rw [List.length_append]
  have : ∀ k, k ≤ (ents n k).length := by
    intro k
    induction k with
    | zero => simp
    | succ k ih => 
      rw [ents_succ, List.length_append]
      have : 1 ≤ (ent n k).length := by unfold ent txt; rw [List.length_append, List.length_append]; have := Var.num_pos (n.keys.getD k ⟨#[]⟩).size; omega
      omega
  have := this n.keys.length
  omega
theorem Ok.sm {n : N} (h : Ok n) (hl : n.keys.length ≤ 1000000) : Sm n := by
  rcases h.ev with ⟨k, h1, h2⟩ | ⟨k, h1, h2, _⟩ <;> exact ⟨hl, by omega, by omega⟩
theorem nparse_sm {k : Int} {s : ByteArray} (hs : s.size ≤ 2000) : Sm (nparse k s).1 ∧ ((nparse k s).2 = 0 → (nparse k s).1.keys.length ≤ s.size) := by
  by_cases h : (nparse k s).2 = 0
  · obtain ⟨h1, h2, h3⟩ := nparse_ok h
    have hl : (nparse k s).1.keys.length ≤ s.size := by
      have := len_pack (nparse k s).1
      rw [← packB_size, h3] at this; exact this
    exact ⟨h1.sm (by omega), fun _ => hl⟩
  · refine ⟨?_, fun q => absurd q h⟩
    have : (nparse k s).1 = .zero := by
      unfold nparse at h ⊢
      split
      · rfl
      · rw [if_neg (by assumption)] at h
        split
        · rfl
        · rw [if_neg (by assumption)] at h
          split
          · rw [if_pos (by assumption)] at h; exact absurd rfl h
          · rfl
    rw [this]
    exact ⟨Nat.zero_le _, Nat.zero_le _, Nat.zero_le _⟩
end Nod
end Go.Proofs.Ytjikioiejdfodaa
