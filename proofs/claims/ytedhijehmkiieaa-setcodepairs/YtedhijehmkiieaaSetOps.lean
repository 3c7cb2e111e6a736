/-
  Setcode (layer 13): which numbers may not be, asked one by one; does a list rise; the document's own test of a set; slices of numbers compared.
-/
import Derived.Test.YtedhijehmkiieaaBase
import Derived.Test.YtedhijehmkiieaaSetMath
namespace Go.Proofs.Ytedhijehmkiieaa
open Go.RowKit
namespace Sc
open B

/-- may a number not be? -/
def bad (x : Int) : Bool := decide (x < 0) || decide (2147483647 < x)
/-- Does a list rise? -/
def rises : List Int → Bool
  | [] => true
  | [_] => true
  | x :: y :: l => decide (x < y) && rises (y :: l)
theorem rises_drop (l : List Int) (k : Nat) (h : k + 1 < l.length) : rises (l.drop k) = (decide (l[k] < l[k + 1]) && rises (l.drop (k + 1))) := by
  rw [List.drop_eq_getElem_cons (show k < l.length by omega), List.drop_eq_getElem_cons h, rises]
theorem rises_end (l : List Int) (k : Nat) (h : l.length ≤ k + 1) : rises (l.drop k) = true := by
  rcases Nat.lt_or_ge k l.length with h1 | h1
  · rw [List.drop_eq_getElem_cons h1, List.drop_eq_nil_of_le (by omega)]; rfl
  · rw [List.drop_eq_nil_of_le h1]; rfl
def okB (xs : List Int) : Bool := rises xs && !(xs.any bad)
theorem any_drop {α : Type} (f : α → Bool) (l : List α) (k : Nat) (h : k < l.length) : (l.drop k).any f = (f l[k] || (l.drop (k + 1)).any f) := by
  rw [List.drop_eq_getElem_cons h, List.any_cons]
theorem okL_of : ∀ (xs : List Int) (least : Int), rises xs = true → xs.any bad = false → (∀ x, xs.head? = some x → least ≤ x) → okL least xs
  | [], _, _, _, _ => trivial
  | [x], least, _, h2, h3 => by
    simp only [List.any_cons, List.any_nil, Bool.or_false, bad, Bool.or_eq_false_iff, decide_eq_false_iff_not] at h2
    exact ⟨h3 x rfl, by omega, trivial⟩
  | x :: y :: l, least, h1, h2, h3 => by
    rw [rises, Bool.and_eq_true, decide_eq_true_iff] at h1
    rw [List.any_cons, Bool.or_eq_false_iff] at h2
    have hb := h2.1
    simp only [bad, Bool.or_eq_false_iff, decide_eq_false_iff_not] at hb
    refine ⟨h3 x rfl, by omega, okL_of (y :: l) (x + 1) h1.2 h2.2 ?_⟩
    intro z hz
    simp only [List.head?_cons, Option.some.injEq] at hz
    omega
theorem okB_ok {xs : List Int} (h : okB xs = true) : okL 0 xs := by
  unfold okB at h
  rw [Bool.and_eq_true, Bool.not_eq_true'] at h
  refine okL_of xs 0 h.1 h.2 fun x hx => ?_
  cases xs with
  | nil => cases hx
  | cons y l =>
    simp only [List.head?_cons, Option.some.injEq] at hx
    subst hx
    have := h.2
    rw [List.any_cons, Bool.or_eq_false_iff] at this
    simp only [bad, Bool.or_eq_false_iff, decide_eq_false_iff_not] at this
    omega
theorem ok_okB : ∀ (xs : List Int) (least : Int), 0 ≤ least → okL least xs → okB xs = true
  | [], _, _, _ => rfl
  | [x], least, h0, h => by
    obtain ⟨h1, h2, _⟩ := h
    simp only [okB, rises, List.any_cons, List.any_nil, Bool.or_false, bad, Bool.true_and, Bool.not_eq_true', Bool.or_eq_false_iff, decide_eq_false_iff_not]
    omega
  | x :: y :: l, least, h0, h => by
    obtain ⟨h1, h2, h3⟩ := h
    have ih := ok_okB (y :: l) (x + 1) (by omega) h3
    unfold okB at ih ⊢
    rw [Bool.and_eq_true, Bool.not_eq_true'] at ih ⊢
    refine ⟨?_, ?_⟩
    · rw [rises, Bool.and_eq_true, decide_eq_true_iff]
      exact ⟨by have := h3.1; omega, ih.1⟩
    · rw [List.any_cons, Bool.or_eq_false_iff]
      refine ⟨?_, ih.2⟩
      simp only [bad, Bool.or_eq_false_iff, decide_eq_false_iff_not]
      omega

set_option maxHeartbeats 1000000 in
theorem may_any (x : Int) (w : World) : Calls Try.prog 53 #[.int .i64 x] w fun e w' => e = .returned (.bool (bad x)) ∧ w = w' := by
  by_cases h0 : x < 0
  · have hb : Hid (bad x = true) := by unfold bad; rw [decide_eq_true h0]; rfl
    go_enter Try.func53, Try.ntmps53
    go_wp2
    go_ret
    exact ⟨ret_bool hb.out.symm, rfl⟩
  · have hd := decide_eq_false h0
    by_cases h1 : 2147483647 < x
    · have hb : Hid (bad x = true) := by unfold bad; rw [decide_eq_true h1, Bool.or_true]; rfl
      have hd1 := decide_eq_true h1
      go_enter Try.func53, Try.ntmps53
      go_wp2
      go_ret
      exact ⟨ret_bool (by rw [hb.out]), rfl⟩
    · have hb : Hid (bad x = false) := by unfold bad; rw [decide_eq_false h1, hd]; rfl
      have hd1 := decide_eq_false h1
      go_enter Try.func53, Try.ntmps53
      go_wp2
      go_ret
      exact ⟨ret_bool (by rw [hb.out]), rfl⟩

set_option maxRecDepth 100000 in
set_option maxHeartbeats 1000000 in
theorem index_any (xs : List Int) (A : Option Addr) (c : Nat) (w : World) (hl : xs.length ≤ 1000000) (hx : At vInt w A xs) :
    Calls Try.prog 88 #[.slice A xs.length c, .func (.func 53) #[] #[]] w fun e w' => (∃ i : Int, e = .returned (.int .i64 i) ∧ decide (0 ≤ i) = xs.any bad) ∧ w = w' := by
  have HX := Lib.hid hx
  clear hx
  go_enter Try.func88, Try.ntmps88
  go_wp2
  go_loop [8] (fun i => ∃ k : Nat, k ≤ xs.length ∧ i = .int .i64 (k : Int) ∧ xs.any bad = (xs.drop k).any bad) (fun i => xs.length - (intOf i).toNat)
  case atStart => exact ⟨0, Nat.zero_le _, rfl, rfl⟩
  case round =>
    obtain ⟨k, hk, rfl, hr⟩ := hrel
    have HR := Lib.hid hr
    clear hr
    by_cases hlt : k < xs.length
    · obtain ⟨b, off, hA, _, hc⟩ := HX.out (by omega)
      subst hA
      have c0 := hc k hlt
      have HD := Lib.hid (any_drop bad xs k hlt)
      clear hc
      generalize xs[k] = x at *
      have CM := Lib.hid (may_any x w)
      cases hb : bad x with
      | true =>
        have HT : Hid (xs.any bad = true) := by rw [HR.out, HD.out, hb]; rfl
        rw [hb] at CM
        clear HD HR hb
        go_wp2_with (go_at_call 53; ((with_reducible refine CM.out.mono ?_); rintro e1 w' ⟨rfl, rfl⟩))
        go_ret
        exact ⟨⟨_, rfl, by rw [HT.out, decide_eq_true_iff]; omega⟩, rfl⟩
      | false =>
        have HT : Hid (xs.any bad = (xs.drop (k + 1)).any bad) := by rw [HR.out, HD.out, hb]; rfl
        rw [hb] at CM
        clear HD HR hb
        go_wp2_with (go_at_call 53; ((with_reducible refine CM.out.mono ?_); rintro e1 w' ⟨rfl, rfl⟩))
        go_round
        case rel => exact ⟨k + 1, by omega, by go_num, HT.out⟩
        case measure => simp [intOf]; omega
    · have HT : Hid (xs.any bad = false) := by rw [HR.out, List.drop_eq_nil_of_le (by omega)]; rfl
      go_wp2
      go_ret
      exact ⟨⟨_, rfl, by rw [HT.out]; rfl⟩, rfl⟩

set_option maxHeartbeats 1000000 in
theorem contains_any (xs : List Int) (A : Option Addr) (c : Nat) (w : World) (hl : xs.length ≤ 1000000) (hx : At vInt w A xs) :
    Calls Try.prog 52 #[.slice A xs.length c, .func (.func 53) #[] #[]] w fun e w' => e = .returned (.bool (xs.any bad)) ∧ w = w' := by
  have C := Lib.hid (index_any xs A c w hl hx)
  clear hx
  go_enter Try.func52, Try.ntmps52
  go_wp2_with (go_at_call 88; ((with_reducible refine C.out.mono ?_); rintro e1 w' ⟨⟨i, rfl, hi⟩, rfl⟩))
  go_ret
  exact ⟨rfl, rfl⟩

set_option maxRecDepth 100000 in
set_option maxHeartbeats 1000000 in
theorem is_any (xs : List Int) (A : Option Addr) (c : Nat) (w : World) (hl : xs.length ≤ 1000000) (hx : At vInt w A xs) :
    Calls Try.prog 51 #[.slice A xs.length c] w fun e w' => e = .returned (.bool (rises xs)) ∧ ∃ n, w' = w.drewN n := by
  have HX := Lib.hid hx
  clear hx
  go_enter Try.func51, Try.ntmps51
  go_wp2
  go_loopw [3] (fun i wr => ∃ k n : Nat, k ≤ xs.length ∧ i = .int .i64 ((k : Int) + 1) ∧ wr = w.drewN n ∧ rises xs = rises (xs.drop k)) (fun i _ => xs.length + 1 - (intOf i).toNat)
  case atStart => exact ⟨0, 0, Nat.zero_le _, rfl, rfl, rfl⟩
  case round =>
    obtain ⟨k, n, hk, rfl, rfl, hr⟩ := hrel
    have HR := Lib.hid hr
    clear hr
    by_cases hlt : k + 1 < xs.length
    · obtain ⟨b, off, hA, _, hc⟩ := HX.out (by omega)
      subst hA
      have c0 := hc k (by omega)
      have c1 := hc (k + 1) hlt
      have HD := Lib.hid (rises_drop xs k hlt)
      have hki : ((k : Int) + 1 < (xs.length : Int)) := by omega
      have hki2 : ((k : Int) < (xs.length : Int)) := by omega
      have p0 : (0 : Int) ≤ (k : Int) + 1 := by omega
      have e0 : ((k : Int) + 1).toNat = k + 1 := by omega
      clear hc
      generalize xs[k] = x at *
      generalize xs[k + 1] = y at *
      by_cases hxy : x < y
      · have HT : Hid (rises xs = rises (xs.drop (k + 1))) := by rw [HR.out, HD.out, decide_eq_true hxy]; rfl
        have hd : decide (y ≤ x) = false := decide_eq_false (by omega)
        clear HD HR
        go_wp2
        go_quiet (fail)
        go_wp2
        go_roundw
        case rel => exact ⟨k + 1, n + nq, by omega, by go_num, by go_simp, HT.out⟩
        case measure => simp [intOf]; omega
      · have HT : Hid (rises xs = false) := by rw [HR.out, HD.out, decide_eq_false hxy]; rfl
        have hd : decide (y ≤ x) = true := decide_eq_true (by omega)
        clear HD HR
        go_wp2
        go_quiet (fail)
        go_wp2
        go_ret
        exact ⟨ret_bool HT.out.symm, n + nq, by go_simp⟩
    · have HT : Hid (rises xs = true) := by rw [HR.out, rises_end xs k (by omega)]; rfl
      go_wp2
      go_ret
      exact ⟨ret_bool HT.out.symm, n, rfl⟩
end Sc
end Go.Proofs.Ytedhijehmkiieaa
