/-
  What the program's ids does otherwise: Is, Has, Same, Compare.
-/
import Derived.Test.YtkbchpbdpkbnjaaIdsOf
namespace Go.Proofs.Ytkbchpbdpkbnjaa
open Go.RowKit
namespace Ids
/-- Does a list rise? -/
def rises : List Int → Bool
  | [] => true
  | [_] => true
  | x :: y :: l => decide (x < y) && rises (y :: l)
theorem rises_iff : ∀ l : List Int, rises l = true ↔ Up l
  | [] => ⟨fun _ => List.Pairwise.nil, fun _ => rfl⟩
  | [x] => ⟨fun _ => List.pairwise_singleton _ _, fun _ => rfl⟩
  | x :: y :: l => by
    rw [rises, Bool.and_eq_true, rises_iff (y :: l), decide_eq_true_iff]
    constructor
    · rintro ⟨h1, h2⟩
      refine List.pairwise_cons.2 ⟨fun z hz => ?_, h2⟩
      rcases List.mem_cons.1 hz with h | h
      · omega
      · have := (List.pairwise_cons.1 h2).1 z h; omega
    · intro h
      have := List.pairwise_cons.1 h
      exact ⟨this.1 y (by simp), this.2⟩
theorem rises_set (l : List Int) : rises l = same l (setOf l) := by
  rw [Bool.eq_iff_iff, rises_iff, same_iff]
  constructor
  · exact fun h => (setOf_of_up h).symm
  · intro h; rw [h]; exact up_setOf l
theorem rises_drop (l : List Int) (k : Nat) (h : k + 1 < l.length) : rises (l.drop k) = (decide (l[k] < l[k + 1]) && rises (l.drop (k + 1))) := by
  rw [List.drop_eq_getElem_cons (show k < l.length by omega), List.drop_eq_getElem_cons h, rises]
theorem rises_end (l : List Int) (k : Nat) (h : l.length ≤ k + 1) : rises (l.drop k) = true := by
  rcases Nat.lt_or_ge k l.length with h1 | h1
  · rw [List.drop_eq_getElem_cons h1, List.drop_eq_nil_of_le (by omega)]; rfl
  · rw [List.drop_eq_nil_of_le h1]; rfl
end Ids
namespace I

set_option maxRecDepth 100000 in
set_option maxHeartbeats 1000000 in
theorem is_any (xs : List Int) (A : Option Addr) (c : Nat) (w : World) (hl : xs.length ≤ 1000000) (hx : IntsAt w A xs) :
    Calls Try.prog 40 #[.slice A xs.length c] w fun e w' => e = .returned (.bool (Ids.rises xs)) ∧ ∃ n, w' = w.drewN n := by
  have HX := Lib.hid hx
  clear hx
  go_enter Try.func40, Try.ntmps40
  go_wp2
  go_loopw [3] (fun i wr => ∃ k n : Nat, k ≤ xs.length ∧ i = .int .i64 ((k : Int) + 1) ∧ wr = w.drewN n ∧ Ids.rises xs = Ids.rises (xs.drop k)) (fun i _ => xs.length + 1 - (intOf i).toNat)
  case atStart => exact ⟨0, 0, Nat.zero_le _, rfl, rfl, rfl⟩
  case round =>
    obtain ⟨k, n, hk, rfl, rfl, hr⟩ := hrel
    have HR := Lib.hid hr
    clear hr
    by_cases hlt : k + 1 < xs.length
    · obtain ⟨b, off, hA, _, hc⟩ := HX.out (by omega)
      subst hA
      have c0 := hc k (by omega)
      have c1 := hc (k + 1) hlt
      have HD := Lib.hid (Ids.rises_drop xs k hlt)
      have hki : ((k : Int) + 1 < (xs.length : Int)) := by omega
      have hki2 : ((k : Int) < (xs.length : Int)) := by omega
      have p0 : (0 : Int) ≤ (k : Int) + 1 := by omega
      have e0 : ((k : Int) + 1).toNat = k + 1 := by omega
      clear hc
      generalize xs[k] = x at *
      generalize xs[k + 1] = y at *
      by_cases hxy : x < y
      · have HT : Hid (Ids.rises xs = Ids.rises (xs.drop (k + 1))) := by rw [HR.out, HD.out, decide_eq_true hxy]; rfl
        have hd : decide (y ≤ x) = false := decide_eq_false (by omega)
        clear HD HR
        go_wp2
        go_quiet (fail)
        go_wp2
        go_roundw
        case rel => exact ⟨k + 1, n + nq, by omega, by go_num, by go_simp, HT.out⟩
        case measure => simp [intOf]; omega
      · have HT : Hid (Ids.rises xs = false) := by rw [HR.out, HD.out, decide_eq_false hxy]; rfl
        have hd : decide (y ≤ x) = true := decide_eq_true (by omega)
        clear HD HR
        go_wp2
        go_quiet (fail)
        go_wp2
        go_ret
        exact ⟨ret_bool HT.out.symm, n + nq, by go_simp⟩
    · have HT : Hid (Ids.rises xs = true) := by rw [HR.out, Ids.rises_end xs k (by omega)]; rfl
      go_wp2
      go_ret
      exact ⟨ret_bool HT.out.symm, n, rfl⟩

set_option maxRecDepth 100000 in
set_option maxHeartbeats 1000000 in
theorem has_any (xs : List Int) (A : Option Addr) (c : Nat) (x : Int) (w : World) (hl : xs.length ≤ 1000000) (hx : IntsAt w A xs) (hup : Ids.Up xs) :
    Calls Try.prog 41 #[.slice A xs.length c, .int .i64 x] w fun e w' => e = .returned (.bool (Ids.has xs x)) ∧ ∃ n, w' = w.drewN n := by
  have HS : Hid (∃ k : Int, Calls Try.prog 64 #[.slice A xs.length c, .int .i64 x] w fun e w' => e = .returned (.tuple #[.int .i64 k, .bool (Ids.has xs x)]) ∧ ∃ q, w' = w.drewN q) := by
    cases xs with
    | nil => exact ⟨0, (Try.slices_BinarySearch_int_empty A c x w).mono fun e w' h => ⟨h.1, 0, h.2⟩⟩
    | cons y ys =>
      obtain ⟨b, off, e, hb, hc⟩ := hx (by simp)
      subst e
      have h := Try.slices_BinarySearch_int b off (y :: ys).length c (y :: ys) x w (Nat.le_refl _) (by omega) (fun j hj => by rw [hc j hj]; simp [List.getD, List.getElem?_eq_getElem hj]) (by
        rw [List.take_of_length_le (Nat.le_refl _)]
        exact List.Pairwise.imp (fun h => by omega) hup)
      rw [List.take_of_length_le (Nat.le_refl _)] at h
      exact ⟨_, h⟩
  clear hx hup
  obtain ⟨k, HC⟩ := HS.out
  have C := Lib.hid HC
  clear HC HS
  go_enter Try.func41, Try.ntmps41
  go_wp2_with (go_at_call 64; ((with_reducible refine C.out.mono ?_); rintro e1 w' ⟨rfl, n, rfl⟩))
  go_ret
  exact ⟨rfl, n, rfl⟩

set_option maxRecDepth 100000 in
set_option maxHeartbeats 1000000 in
theorem same_any (xs ys : List Int) (A B : Option Addr) (c d : Nat) (w : World) (hl : xs.length ≤ 1000000) (hl2 : ys.length ≤ 1000000) (hx : IntsAt w A xs) (hy : IntsAt w B ys) :
    Calls Try.prog 49 #[.slice A xs.length c, .slice B ys.length d] w fun e w' => e = .returned (.bool (Ids.same xs ys)) ∧ ∃ n, w' = w.drewN n := by
  have C : Hid (Calls Try.prog 69 #[.slice A xs.length c, .slice B ys.length d] w fun e w' => e = .returned (.bool (Ids.same xs ys)) ∧ ∃ q, w' = w.drewN q) := by
    by_cases hn : xs.length = ys.length
    · cases xs with
      | nil =>
        have h0 : ys = [] := List.eq_nil_of_length_eq_zero hn.symm
        subst h0
        refine (Try.slices_Equal_int_empty A B c 0 d w (by omega)).mono fun e w' h => ?_
        obtain ⟨rfl, rfl⟩ := h
        exact ⟨rfl, 0, rfl⟩
      | cons x xs =>
        cases ys with
        | nil => simp at hn
        | cons y ys =>
          obtain ⟨b, off, e, hb, hc⟩ := hx (by simp)
          obtain ⟨b2, off2, e2, hb2, hc2⟩ := hy (by simp)
          subst e e2
          have h := Try.slices_Equal_int b off (x :: xs).length c b2 off2 (y :: ys).length d (x :: xs) (y :: ys) w (Nat.le_refl _) (Nat.le_refl _) (by omega) (by omega) (fun j hj => by rw [hc j hj]; simp [List.getD, List.getElem?_eq_getElem hj]) (fun j hj => by rw [hc2 j hj]; simp [List.getD, List.getElem?_eq_getElem hj])
          rw [List.take_of_length_le (Nat.le_refl _), List.take_of_length_le (Nat.le_refl _)] at h
          exact h
    · refine (Try.slices_Equal_int_lens A B xs.length c ys.length d w hn).mono fun e w' h => ?_
      obtain ⟨rfl, rfl⟩ := h
      exact ⟨by rw [Ids.same_len hn], 0, rfl⟩
  clear hx hy
  go_enter Try.func49, Try.ntmps49
  go_wp2_with (go_at_call 69; ((with_reducible refine C.out.mono ?_); rintro e1 w' ⟨rfl, n, rfl⟩))
  go_ret
  exact ⟨rfl, n, rfl⟩

set_option maxRecDepth 100000 in
set_option maxHeartbeats 1000000 in
theorem slicesCompare_any (xs ys : List Int) (A B : Option Addr) (c d : Nat) (w : World) (hl : xs.length ≤ 1000000) (hl2 : ys.length ≤ 1000000) (hx : IntsAt w A xs) (hy : IntsAt w B ys) :
    Calls Try.prog 70 #[.slice A xs.length c, .slice B ys.length d] w fun e w' => e = .returned (.int .i64 (Ids.cmp xs ys)) ∧ w = w' := by
  have HX := Lib.hid hx
  have HY := Lib.hid hy
  clear hx hy
  go_enter Try.func70, Try.ntmps70
  go_wp2
  go_loop [11] (fun i => ∃ k : Nat, k ≤ xs.length ∧ k ≤ ys.length ∧ i = .int .i64 (k : Int) ∧ Ids.cmp xs ys = Ids.cmp (xs.drop k) (ys.drop k)) (fun i => xs.length - (intOf i).toNat)
  case atStart => exact ⟨0, Nat.zero_le _, Nat.zero_le _, rfl, rfl⟩
  case round =>
    obtain ⟨k, hk, hk2, rfl, hr⟩ := hrel
    have HR := Lib.hid hr
    clear hr
    by_cases hlt : k < xs.length
    · obtain ⟨b, off, hA, _, hc⟩ := HX.out (by omega)
      subst hA
      have c0 := hc k hlt
      by_cases hlt2 : k < ys.length
      · obtain ⟨b2, off2, hB, _, hc2⟩ := HY.out (by omega)
        subst hB
        have c1 := hc2 k hlt2
        have HD := Lib.hid (Ids.cmp_drop xs ys k hlt hlt2)
        clear hc hc2
        generalize xs[k] = x at *
        generalize ys[k] = y at *
        have CC := Lib.hid (Try.cmp_Compare_int x y w)
        by_cases hxy : x < y
        · have HT : Hid (Ids.cmp xs ys = -1) := by rw [HR.out, HD.out, if_pos hxy]; rfl
          have hv : Lib.compareInt x y = -1 := by unfold Lib.compareInt; rw [if_pos hxy]
          rw [hv] at CC
          clear HD HR hv
          go_wp2_with (go_at_call 77; ((with_reducible refine CC.out.mono ?_); rintro e1 w' ⟨rfl, rfl⟩))
          go_ret
          exact ⟨ret_int HT.out.symm, rfl⟩
        · by_cases hyx : y < x
          · have HT : Hid (Ids.cmp xs ys = 1) := by rw [HR.out, HD.out, if_neg hxy, if_pos hyx]; rfl
            have hv : Lib.compareInt x y = 1 := by unfold Lib.compareInt; rw [if_neg hxy, if_pos hyx]
            rw [hv] at CC
            clear HD HR hv
            go_wp2_with (go_at_call 77; ((with_reducible refine CC.out.mono ?_); rintro e1 w' ⟨rfl, rfl⟩))
            go_ret
            exact ⟨ret_int HT.out.symm, rfl⟩
          · have HT : Hid (Ids.cmp xs ys = Ids.cmp (xs.drop (k + 1)) (ys.drop (k + 1))) := by rw [HR.out, HD.out, if_neg hxy, if_neg hyx]; rfl
            have hv : Lib.compareInt x y = 0 := by unfold Lib.compareInt; rw [if_neg hxy, if_neg hyx]
            rw [hv] at CC
            clear HD HR hv
            go_wp2_with (go_at_call 77; ((with_reducible refine CC.out.mono ?_); rintro e1 w' ⟨rfl, rfl⟩))
            go_round
            case rel => exact ⟨k + 1, by omega, by omega, by go_num, HT.out⟩
            case measure => simp [intOf]; omega
      · have HT : Hid (Ids.cmp xs ys = 1) := by
          rw [HR.out, List.drop_eq_nil_of_le (show ys.length ≤ k by omega), List.drop_eq_getElem_cons hlt]; rfl
        go_wp2
        go_ret
        exact ⟨ret_int HT.out.symm, rfl⟩
    · by_cases hlt2 : xs.length < ys.length
      · have HT : Hid (Ids.cmp xs ys = -1) := by
          rw [HR.out, List.drop_eq_nil_of_le (show xs.length ≤ k by omega), List.drop_eq_getElem_cons (show k < ys.length by omega)]; rfl
        go_wp2
        go_ret
        exact ⟨ret_int HT.out.symm, rfl⟩
      · have HT : Hid (Ids.cmp xs ys = 0) := by
          rw [HR.out, List.drop_eq_nil_of_le (show xs.length ≤ k by omega), List.drop_eq_nil_of_le (by omega)]; rfl
        go_wp2
        go_ret
        exact ⟨ret_int HT.out.symm, rfl⟩

set_option maxRecDepth 100000 in
set_option maxHeartbeats 1000000 in
theorem compare_any (xs ys : List Int) (A B : Option Addr) (c d : Nat) (w : World) (hl : xs.length ≤ 1000000) (hl2 : ys.length ≤ 1000000) (hx : IntsAt w A xs) (hy : IntsAt w B ys) :
    Calls Try.prog 51 #[.slice A xs.length c, .slice B ys.length d] w fun e w' => e = .returned (.int .i64 (Ids.cmp xs ys)) ∧ w = w' := by
  have C := Lib.hid (slicesCompare_any xs ys A B c d w hl hl2 hx hy)
  clear hx hy
  go_enter Try.func51, Try.ntmps51
  go_wp2_with (go_at_call 70; ((with_reducible refine C.out.mono ?_); rintro e1 w' ⟨rfl, rfl⟩))
  go_ret
  exact ⟨rfl, rfl⟩
end I
end Go.Proofs.Ytkbchpbdpkbnjaa
