/-
  Programs, plain mathematics: how Right's entries come one by one.
-/
import Derived.Test.YtnhgoeoffjcooaaProRtM
namespace Go.Proofs.Ytnhgoeoffjcooaa
open Go.RowKit
namespace Pm
open B
set_option linter.unusedVariables false
def hits (n : Nat) (l : List Int) (f : Nat) : Bool := l.any fun x => atq x (n : Int) == (f : Int)
/-- the entries of the first f functions -/
def ents (n : Nat) (en : List Int) (f : Nat) : List Int := ((List.range f).filter (hits n en)).map fun f : Nat => (f : Int)
/-- and, of function f, when j of the numbers have been looked at -/
def entq (n : Nat) (en : List Int) (f j : Nat) : List Int := ents n en f ++ if hits n (en.take j) f then [(f : Int)] else []
theorem ents_all (n : Nat) (en : List Int) : ents n en n = rightE n en := rfl
theorem ents_zero (n : Nat) (en : List Int) : ents n en 0 = [] := rfl
theorem entq_zero (n : Nat) (en : List Int) (f : Nat) : entq n en f 0 = ents n en f := by unfold entq hits; simp
theorem entq_end (n : Nat) (en : List Int) (f : Nat) : entq n en f en.length = ents n en (f + 1) := by
  unfold entq ents
  rw [List.take_length, List.range_succ, List.filter_append, List.map_append]
  cases h : hits n en f
  · simp [h]
  · simp [h]
theorem ents_lt (n : Nat) (en : List Int) (f : Nat) (x : Int) (h : x ∈ ents n en f) : x < (f : Int) := by
  unfold ents at h
  obtain ⟨k, hk, rfl⟩ := List.mem_map.1 h
  have := List.mem_range.1 (List.mem_filter.1 hk).1
  omega
theorem ents_len (n : Nat) (en : List Int) (f : Nat) : (ents n en f).length ≤ f := by
  unfold ents
  rw [List.length_map]
  exact Nat.le_trans (List.length_filter_le _ _) (by simp)
theorem entq_len (n : Nat) (en : List Int) (f j : Nat) : (entq n en f j).length ≤ f + 1 := by
  have := ents_len n en f
  unfold entq
  rw [List.length_append]
  split <;> simp <;> omega
theorem hits_step (n : Nat) (en : List Int) (f j : Nat) (h : j < en.length) : hits n (en.take (j + 1)) f = (hits n (en.take j) f || (atq en[j] (n : Int) == (f : Int))) := by
  unfold hits
  rw [List.take_succ_eq_append_getElem h, List.any_append]
  simp
/-- the number is of another function: nothing comes -/
theorem entq_no (n : Nat) (en : List Int) (f j : Nat) (h : j < en.length) (ha : ¬ atq en[j] (n : Int) = (f : Int)) : entq n en f (j + 1) = entq n en f j := by
  unfold entq
  rw [hits_step n en f j h, beq_eq_false_iff_ne.2 ha, Bool.or_false]
/-- the function stands there already: its entry is the last -/
theorem entq_old (n : Nat) (en : List Int) (f j : Nat) (h : j < en.length) (hh : hits n (en.take j) f = true) : entq n en f (j + 1) = entq n en f j ∧ ∃ k, (entq n en f j).length = k + 1 ∧ (entq n en f j)[k]? = some (f : Int) := by
  unfold entq
  rw [hits_step n en f j h, hh]
  refine ⟨rfl, (ents n en f).length, by simp, by simp⟩
/-- it comes -/
theorem entq_new (n : Nat) (en : List Int) (f j : Nat) (h : j < en.length) (ha : atq en[j] (n : Int) = (f : Int)) (hh : hits n (en.take j) f = false) :
    entq n en f (j + 1) = entq n en f j ++ [(f : Int)] ∧ entq n en f j = ents n en f ∧ ∀ (k : Nat) (x : Int), (entq n en f j)[k]? = some x → x < (f : Int) := by
  have e : entq n en f j = ents n en f := by unfold entq; rw [hh]; simp
  refine ⟨?_, e, fun k x hx => ?_⟩
  · rw [e]
    unfold entq
    rw [hits_step n en f j h, hh, beq_iff_eq.2 ha]
    rfl
  · rw [e] at hx
    exact ents_lt n en f x (List.mem_of_getElem? hx)
end Pm
end Go.Proofs.Ytnhgoeoffjcooaa
