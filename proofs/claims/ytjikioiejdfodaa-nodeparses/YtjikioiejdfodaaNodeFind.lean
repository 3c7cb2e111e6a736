/-
  Node: the place of a key.
-/
import Derived.Test.YtjikioiejdfodaaNodeCheck
import Derived.Test.YtjikioiejdfodaaShelfX
namespace Go.Proofs.Ytjikioiejdfodaa
open Go.RowKit
namespace Nod
open B V
/-- how many keys are less -/
def pos (l : List ByteArray) (x : ByteArray) : Nat := (l.takeWhile fun k => decide (Lt k x)).length
theorem pos_le (l : List ByteArray) (x : ByteArray) : pos l x ≤ l.length := (List.takeWhile_sublist _).length_le
theorem pos_lt : ∀ (l : List ByteArray) (x : ByteArray) (i : Nat) (h : i < pos l x), Lt (l[i]'(Nat.lt_of_lt_of_le h (pos_le l x))) x
  | k :: l, x, i, h => by
    have h' := h
    unfold pos at h'
    rw [List.takeWhile_cons] at h'
    by_cases hk : Lt k x
    · rw [if_pos (decide_eq_true hk)] at h'
      cases i with
      | zero => exact hk
      | succ i => exact pos_lt l x i (by unfold pos; simpa using h')
    · rw [if_neg (by simpa using hk)] at h'
      exact absurd h' (by simp)
theorem pos_at : ∀ (l : List ByteArray) (x : ByteArray) (h : pos l x < l.length), ¬ Lt l[pos l x] x
  | [], x, h => absurd h (by simp)
  | k :: l, x, h => by
    by_cases hk : Lt k x
    · have e : pos (k :: l) x = pos l x + 1 := by unfold pos; rw [List.takeWhile_cons, if_pos (decide_eq_true hk)]; rfl
      have h2 : pos l x < l.length := by rw [e, List.length_cons] at h; omega
      have := pos_at l x h2
      simp only [e, List.getElem_cons_succ]
      exact this
    · have e : pos (k :: l) x = 0 := by unfold pos; rw [List.takeWhile_cons, if_neg (by simpa using hk)]; rfl
      simp only [e, List.getElem_cons_zero]
      exact hk
theorem pos_ge {l : List ByteArray} (hr : Rise l) {x : ByteArray} {i : Nat} (h : pos l x ≤ i) (hi : i < l.length) : ¬ Lt l[i] x := by
  have h1 := pos_at l x (by omega)
  rcases Nat.lt_or_ge (pos l x) i with hlt | hge
  · exact fun hx => h1 ((hr.lt hlt hi).trans hx)
  · obtain rfl : i = pos l x := by omega
    exact h1
theorem pos_mem {l : List ByteArray} (hr : Rise l) (x : ByteArray) : (pos l x < l.length ∧ l.getD (pos l x) x = x) ↔ x ∈ l := by
  constructor
  · rintro ⟨h, e⟩
    rw [List.getD_eq_getElem?_getD, List.getElem?_eq_getElem h] at e
    simp only [Option.getD_some] at e
    rw [← e]; exact List.getElem_mem _
  · intro h
    obtain ⟨i, hi, rfl⟩ := List.getElem_of_mem h
    have h1 : pos l l[i] = i := by
      rcases Nat.lt_trichotomy (pos l l[i]) i with hlt | he | hgt
      · exact absurd (hr.lt hlt hi) (pos_at l l[i] (by omega))
      · exact he
      · exact absurd (pos_lt l l[i] i hgt) (Lt.irrefl _)
    refine ⟨by omega, ?_⟩
    rw [h1, List.getD_eq_getElem?_getD, List.getElem?_eq_getElem hi]; rfl
/-- is it there? -/
def has (l : List ByteArray) (x : ByteArray) : Bool := l.any fun k => k.toList == x.toList
theorem has_iff {l : List ByteArray} {x : ByteArray} : has l x = true ↔ x ∈ l := by
  unfold has
  rw [List.any_eq_true]
  constructor
  · rintro ⟨k, hk, e⟩
    have e := eq_of_beq e
    rw [Lib.toList_data, Lib.toList_data] at e
    rw [← ext_data e]; exact hk
  · intro h; exact ⟨x, h, beq_self_eq_true _⟩
theorem search_any (A : Option Addr) (l : List ByteArray) (c : Nat) (x : ByteArray) (w : World) (h : At vStr w A l) (hr : Rise l) (hl : l.length ≤ 1000000) :
    Calls Try.prog 72 #[.slice A l.length c, .string x] w fun e w' => e = .returned (.tuple #[.int .i64 (pos l x : Int), .bool (has l x)]) ∧ Below w.heap.size w w' := by
  by_cases h0 : l.length = 0
  · have : l = [] := List.eq_nil_of_length_eq_zero h0
    subst this
    refine (Any2.slices_BinarySearch_string_empty Try.searchS A c x w).mono ?_
    rintro e w' ⟨rfl, rfl⟩
    exact ⟨by simp [pos, has], Below.refl _ _⟩
  · obtain ⟨b, off, hA, hb, hc⟩ := h (by omega)
    subst hA
    have hs := Lib.bsGo_spec (fun t => Op.bytesLess (l.getD t x).toList x.toList) (pos l x) (fun t ht => by
        have hl := pos_le l x
        rw [List.getD_eq_getElem?_getD, List.getElem?_eq_getElem (by omega)]
        exact less_t (pos_lt l x t ht)) (fun t ht => by
        rcases Nat.lt_or_ge t l.length with h1 | h1
        · rw [List.getD_eq_getElem?_getD, List.getElem?_eq_getElem h1]
          exact less_f (pos_ge hr ht h1)
        · rw [List.getD_eq_getElem?_getD, List.getElem?_eq_none h1]
          exact less_f (Lt.irrefl _)) l.length 0 l.length (by omega) (by omega) (pos_le l x)
    refine (Any2.slices_BinarySearch_string Try.searchS b off l.length c (fun t => l.getD t x) x w (by omega) (fun j hj => ?_)).mono ?_
    · rw [List.getD_eq_getElem?_getD, List.getElem?_eq_getElem hj]; exact hc j hj
    · rintro e w' ⟨rfl, q, rfl⟩
      rw [hs]
      refine ⟨?_, B.below_drewN (Below.refl _ _) q⟩
      congr 6
      rw [Bool.eq_iff_iff, decide_eq_true_iff, has_iff]
      exact pos_mem hr x
set_option maxHeartbeats 1000000 in
theorem find_any (A1 A2 A3 : Option Addr) (c1 c2 c3 : Nat) (n : N) (x : ByteArray) (w : World) (h : NAt w A1 A2 A3 n) (hr : Rise n.keys) (hl : Sm n) :
    Calls Try.prog 40 #[nv A1 A2 A3 c1 c2 c3 n, .string x] w fun e w' => e = .returned (.tuple #[.int .i64 (pos n.keys x : Int), .bool (has n.keys x)]) ∧ Below w.heap.size w w' := by
  have CS := Lib.hid (fun W (q : Below w.heap.size w W) => search_any A1 n.keys c1 x W (h.k.below q) hr hl.k)
  unfold nv at *
  have bA := below1 w (.cells #[.int .i64 n.kind, .slice A1 n.keys.length c1, .slice A2 n.vals.length c2, .slice A3 n.kids.length c3] 57)
  clear h hr hl
  generalize pos n.keys x = p at *
  generalize has n.keys x = d at *
  go_enter Try.func40, Try.ntmps40
  go_wp2_with (go_at_call 72; ((with_reducible refine (CS.out _ bA).mono ?_); rintro e w1 ⟨rfl, hb1⟩; have B1 := Lib.hid (bA.trans (hb1.mono bA.size)); clear hb1))
  go_ret2
  exact ⟨rfl, B1.out⟩
end Nod
end Go.Proofs.Ytjikioiejdfodaa
