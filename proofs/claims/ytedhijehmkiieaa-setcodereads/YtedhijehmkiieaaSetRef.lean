/-
  Setcode (layer 13): the document's own Set, Encode and Same.
-/
import Derived.Test.YtedhijehmkiieaaSetEnc
namespace Go.Proofs.Ytedhijehmkiieaa
open Go.RowKit
namespace Sc
open B

theorem okB_step {xs : List Int} {k : Nat} (hlt : k < xs.length) (h : okB xs = (rises (xs.drop (k - 1)) && !((xs.drop k).any bad))) (hb : bad xs[k] = false) (hk : k = 0 ∨ xs.getD (k - 1) 0 < xs[k]) : okB xs = (rises (xs.drop (k + 1 - 1)) && !((xs.drop (k + 1)).any bad)) := by
  rw [h, any_drop bad xs k hlt, hb, Bool.false_or, Nat.add_sub_cancel]
  rcases hk with rfl | hk
  · rfl
  · by_cases h0 : k = 0
    · subst h0; rfl
    · obtain ⟨j, rfl⟩ : ∃ j, k = j + 1 := ⟨k - 1, by omega⟩
      rw [Nat.add_sub_cancel] at hk ⊢
      rw [getD_at xs j (by omega)] at hk
      rw [rises_drop xs j hlt, decide_eq_true hk, Bool.true_and]
theorem okB_bad {xs : List Int} {k : Nat} (hlt : k < xs.length) (h : okB xs = (rises (xs.drop (k - 1)) && !((xs.drop k).any bad))) (hb : bad xs[k] = true) : okB xs = false := by
  rw [h, any_drop bad xs k hlt, hb, Bool.true_or, Bool.not_true, Bool.and_false]
theorem okB_fall {xs : List Int} {k : Nat} (hlt : k < xs.length) (h : okB xs = (rises (xs.drop (k - 1)) && !((xs.drop k).any bad))) (h0 : 0 < k) (hk : ¬ xs.getD (k - 1) 0 < xs[k]) : okB xs = false := by
  obtain ⟨j, rfl⟩ : ∃ j, k = j + 1 := ⟨k - 1, by omega⟩
  rw [Nat.add_sub_cancel] at hk h
  rw [getD_at xs j (by omega)] at hk
  rw [h, rises_drop xs j hlt, decide_eq_false hk, Bool.false_and, Bool.false_and]
theorem okB_end {xs : List Int} {k : Nat} (hk : k = xs.length) (h : okB xs = (rises (xs.drop (k - 1)) && !((xs.drop k).any bad))) : okB xs = true := by
  rw [h, rises_end xs (k - 1) (by omega), hk, List.drop_length]; rfl

set_option maxRecDepth 100000 in
set_option maxHeartbeats 2000000 in
theorem refSet_any (xs : List Int) (A : Option Addr) (c : Nat) (w : World) (hl : xs.length ≤ 1000) (hx : At vInt w A xs) :
    Calls Try.prog 23 #[.slice A xs.length c] w fun e w' => e = .returned (.bool (okB xs)) ∧ w = w' := by
  have HX := Lib.hid hx
  clear hx
  go_enter Try.func23, Try.ntmps23
  go_wp2
  go_loop [7] (fun i => ∃ k : Nat, k ≤ xs.length ∧ i = .int .i64 (k : Int) ∧ okB xs = (rises (xs.drop (k - 1)) && !((xs.drop k).any bad))) (fun i => xs.length - (intOf i).toNat)
  case atStart => exact ⟨0, Nat.zero_le _, rfl, rfl⟩
  case round =>
    obtain ⟨k, hk, rfl, hr⟩ := hrel
    by_cases hlt : k < xs.length
    · obtain ⟨b, off, hA, _, hc⟩ := HX.out (by omega)
      subst hA
      have c0 := hc k hlt
      have H1 := Lib.hid (fun h => okB_bad hlt hr h)
      have H2 := Lib.hid (fun h => okB_fall hlt hr h)
      have H3 := Lib.hid (fun h => okB_step hlt hr h)
      by_cases hk0 : k = 0
      · subst hk0
        rw [Nat.add_zero] at c0
        clear hr hc
        generalize xs[0] = x at *
        by_cases hn : x < 0
        · have HT := Lib.hid (H1.out (by unfold bad; rw [decide_eq_true hn]; rfl))
          clear H1 H2 H3
          go_wp2
          go_ret
          exact ⟨ret_bool HT.out.symm, rfl⟩
        · have hn' := decide_eq_false hn
          by_cases hm : 2147483647 < x
          · have hm' := decide_eq_true hm
            have HT := Lib.hid (H1.out (by unfold bad; rw [hm', Bool.or_true]))
            clear H1 H2 H3
            go_wp2
            go_ret
            exact ⟨ret_bool HT.out.symm, rfl⟩
          · have hm' := decide_eq_false hm
            have HT := Lib.hid (H3.out (by unfold bad; rw [hn', hm']; rfl) (.inl rfl))
            clear H1 H2 H3
            go_wp2
            go_round
            case rel => exact ⟨1, by omega, by go_num, HT.out⟩
            case measure => simp [intOf]; omega
      · have c1 := hc (k - 1) (by omega)
        have e0 : ((k : Int) - 1).toNat = k - 1 := by omega
        have e1 : off + ((k : Int) - 1).toNat = off + (k - 1) := by omega
        have hg : xs.getD (k - 1) 0 = xs[k - 1] := getD_at xs (k - 1) (by omega)
        rw [hg] at H2 H3
        have hkp : (0 : Int) < (k : Int) := by omega
        clear hr hc hg
        generalize xs[k] = x at *
        generalize xs[k - 1] = y at *
        by_cases hn : x < 0
        · have HT := Lib.hid (H1.out (by unfold bad; rw [decide_eq_true hn]; rfl))
          clear H1 H2 H3
          go_wp2
          go_ret
          exact ⟨ret_bool HT.out.symm, rfl⟩
        · have hn' := decide_eq_false hn
          by_cases hm : 2147483647 < x
          · have hm' := decide_eq_true hm
            have HT := Lib.hid (H1.out (by unfold bad; rw [hm', Bool.or_true]))
            clear H1 H2 H3
            go_wp2
            go_ret
            exact ⟨ret_bool HT.out.symm, rfl⟩
          · have hm' := decide_eq_false hm
            by_cases hf : y < x
            · have HT := Lib.hid (H3.out (by unfold bad; rw [hn', hm']; rfl) (.inr hf))
              have hd : decide (x ≤ y) = false := decide_eq_false (by omega)
              clear H1 H2 H3
              go_wp2
              go_round
              case rel => exact ⟨k + 1, by omega, by go_num, HT.out⟩
              case measure => simp [intOf]; omega
            · have HT := Lib.hid (H2.out (by omega) hf)
              have hd : decide (x ≤ y) = true := decide_eq_true (by omega)
              clear H1 H2 H3
              go_wp2
              go_ret
              exact ⟨ret_bool HT.out.symm, rfl⟩
    · have HT := Lib.hid (okB_end (by omega) hr)
      clear hr
      go_wp2
      go_ret
      exact ⟨ret_bool HT.out.symm, rfl⟩

set_option maxRecDepth 100000 in
set_option maxHeartbeats 2000000 in
theorem refEncode_any (xs : List Int) (A : Option Addr) (c : Nat) (w : World) (hl : xs.length ≤ 1000) (hx : At vInt w A xs) (ho : okL 0 xs) :
    Calls Try.prog 26 #[.slice A xs.length c] w fun e w' => e = .returned (.string ⟨(enc xs).toArray⟩) ∧ Below w.heap.size w w' := by
  have HX := Lib.hid hx
  have OK := Lib.hid ho
  have hn0 := Var.num_ten xs.length (by omega)
  obtain ⟨S0, hS0⟩ : ∃ S : ByteArray, S = ⟨(Var.num xs.length).toArray⟩ := ⟨_, rfl⟩
  have hz0 : S0.size ≤ 10 := by rw [hS0, mk_size]; exact hn0
  have cn := V.refNum_any xs.length w (by omega)
  rw [← hS0] at cn
  have CN := Lib.hid cn
  have HS0 : Hid (S0.data.toList = Var.num xs.length) := by unfold Hid; rw [hS0]
  clear hx ho cn hS0 hn0
  go_enter Try.func26, Try.ntmps26
  go_wp2_with (go_at_call 49; ((with_reducible refine CN.out.mono ?_); rintro e w1 ⟨rfl, hb1⟩; have B1 := Lib.hid hb1; clear hb1))
  go_loopw [3, 12] (fun t3 t12 wr => ∃ (k : Nat) (S : ByteArray), k ≤ xs.length ∧ t3 = .string S ∧ t12 = .int .i64 (k : Int) ∧ S.size ≤ 10 * (k + 1) ∧ S.data.toList ++ encL (lst xs k) (xs.drop k) = enc xs ∧ Below w.heap.size w wr) (fun _ t12 _ => xs.length - (intOf t12).toNat)
  case atStart => exact ⟨0, S0, Nat.zero_le _, rfl, rfl, by omega, by rw [HS0.out]; rfl, B1.out⟩
  case round =>
    obtain ⟨k, S, hk, rfl, rfl, hL, he, hbel⟩ := hrel
    clear B1 HS0
    have HE := Lib.hid he
    have BW := Lib.hid hbel
    have sw := hbel.size
    clear he hbel
    by_cases hlt : k < xs.length
    · obtain ⟨b, off, hA, _, hc⟩ := (HX.out.below BW.out) (by omega)
      subst hA
      have c0 := hc k hlt
      have hkI : (k : Int) < (xs.length : Int) := by omega
      obtain ⟨hp0, hp1⟩ := lst_pos OK.out k hk
      obtain ⟨ha0, ha1⟩ := okL_at xs 0 OK.out k hlt
      have ha0 : lst xs k ≤ xs[k] := ha0
      have HS := Lib.hid (lst_succ xs k hlt)
      have HD := Lib.hid (encL_drop xs (lst xs k) k hlt)
      by_cases hk0 : k = 0
      · subst hk0
        have hl0 : lst xs 0 = 0 := rfl
        rw [hl0] at HD HE ha0
        rw [Nat.add_zero] at c0
        clear hc hp0 hp1 hl0
        generalize xs[0] = x at *
        obtain ⟨n, rfl⟩ := Int.eq_ofNat_of_zero_le ha0
        have hn := Var.num_ten n (by omega)
        have cp := V.refNum_any n wr (by omega)
        obtain ⟨T, hT⟩ : ∃ T : ByteArray, T = ⟨(Var.num n).toArray⟩ := ⟨_, rfl⟩
        have hzT : T.size ≤ 10 := by rw [hT, mk_size]; exact hn
        have HTd : Hid (T.data.toList = Var.num n) := by unfold Hid; rw [hT]
        rw [← hT] at cp
        have CP := Lib.hid cp
        have HL2 : Hid ((S ++ T).size ≤ 10 * (0 + 1 + 1)) := by unfold Hid; rw [cat_size]; omega
        have HE2 : Hid ((S ++ T).data.toList ++ encL ((n : Int) + 1) (xs.drop (0 + 1)) = enc xs) := by
          unfold Hid
          have := HD.out
          rw [show ((n : Int) - 0).toNat = n by omega] at this
          rw [cat_data, HTd.out, List.append_assoc, ← this]; exact HE.out
        clear hn HD HE cp hT HTd
        go_wp2_with (go_at_call 49; ((with_reducible refine CP.out.mono ?_); rintro e w4 ⟨rfl, hb4⟩; have B4 := Lib.hid (BW.out.trans (hb4.mono sw)); clear hb4))
        go_roundw
        case rel => exact ⟨1, _, by omega, rfl, by go_num, HL2.out, by rw [HS.out]; exact HE2.out, B4.out⟩
        case measure => simp [intOf]; omega
      · have c1 := hc (k - 1) (by omega)
        have e1 : off + ((k : Int) - 1).toNat = off + (k - 1) := by omega
        have hkp : (0 : Int) < (k : Int) := by omega
        have hly : lst xs k = xs[k - 1] + 1 := by unfold lst; rw [if_neg hk0, getD_at xs (k - 1) (by omega)]
        rw [hly] at HD HE ha0 hp0 hp1
        clear hc hly
        generalize xs[k] = x at *
        generalize xs[k - 1] = y at *
        obtain ⟨n, hn1⟩ : ∃ n : Nat, x = y + 1 + (n : Int) := ⟨(x - y - 1).toNat, by omega⟩
        have hn := Var.num_ten n (by omega)
        have cp := V.refNum_any n wr (by omega)
        obtain ⟨T, hT⟩ : ∃ T : ByteArray, T = ⟨(Var.num n).toArray⟩ := ⟨_, rfl⟩
        have hzT : T.size ≤ 10 := by rw [hT, mk_size]; exact hn
        have HTd : Hid (T.data.toList = Var.num n) := by unfold Hid; rw [hT]
        rw [← hT] at cp
        have cp' : Calls Try.prog 49 #[.int .u64 (x - y - 1)] wr fun e w' => e = .returned (.string T) ∧ Below wr.heap.size wr w' := by rw [show x - y - 1 = (n : Int) by omega]; exact cp
        have CP := Lib.hid cp'
        have HL2 : Hid ((S ++ T).size ≤ 10 * (k + 1 + 1)) := by unfold Hid; rw [cat_size]; omega
        have HE2 : Hid ((S ++ T).data.toList ++ encL (x + 1) (xs.drop (k + 1)) = enc xs) := by
          unfold Hid
          have := HD.out
          rw [show (x - (y + 1)).toNat = n by omega] at this
          rw [cat_data, HTd.out, List.append_assoc, ← this]; exact HE.out
        have hx1 : 0 ≤ x - y - 1 := by omega
        clear hn HD HE cp cp' hT HTd hn1 n
        go_wp2_with (go_at_call 49; ((with_reducible refine CP.out.mono ?_); rintro e w4 ⟨rfl, hb4⟩; have B4 := Lib.hid (BW.out.trans (hb4.mono sw)); clear hb4))
        go_roundw
        case rel => exact ⟨k + 1, _, by omega, rfl, by go_num, HL2.out, by rw [HS.out]; exact HE2.out, B4.out⟩
        case measure => simp [intOf]; omega
    · have hkl : k = xs.length := by omega
      have HL : Hid (S = ⟨(enc xs).toArray⟩) := by
        unfold Hid
        refine of_bytes ?_
        rw [← HE.out, hkl, List.drop_length]
        simp [encL]
      clear HE hkl
      go_wp2
      go_ret
      exact ⟨ret_str HL.out, BW.out⟩

/-- are they? -/
def same : List Int → List Int → Bool
  | [], [] => true
  | x :: l, y :: m => decide (x = y) && same l m
  | _, _ => false
theorem same_iff : ∀ l m : List Int, same l m = true ↔ l = m
  | [], [] => by simp [same]
  | [], y :: m => by simp [same]
  | x :: l, [] => by simp [same]
  | x :: l, y :: m => by rw [same, Bool.and_eq_true, decide_eq_true_iff, same_iff l m, List.cons.injEq]
theorem same_self (l : List Int) : same l l = true := (same_iff l l).2 rfl
theorem same_drop (l m : List Int) (k : Nat) (h : k < l.length) (h2 : k < m.length) : same (l.drop k) (m.drop k) = (decide (l[k] = m[k]) && same (l.drop (k + 1)) (m.drop (k + 1))) := by
  rw [List.drop_eq_getElem_cons h, List.drop_eq_getElem_cons h2, same]
theorem same_len {l m : List Int} (h : l.length ≠ m.length) : same l m = false := by
  rw [Bool.eq_false_iff]; intro e; exact h (by rw [(same_iff l m).1 e])

set_option maxRecDepth 100000 in
set_option maxHeartbeats 2000000 in
theorem same_any (xs ys : List Int) (A A2 : Option Addr) (c d : Nat) (w : World) (hl : xs.length ≤ 1000000) (hl2 : ys.length ≤ 1000000) (hx : At vInt w A xs) (hy : At vInt w A2 ys) :
    Calls Try.prog 27 #[.slice A xs.length c, .slice A2 ys.length d] w fun e w' => e = .returned (.bool (same xs ys)) ∧ ∃ n, w' = w.drewN n := by
  have HX := Lib.hid hx
  have HY := Lib.hid hy
  clear hx hy
  by_cases hn : xs.length = ys.length
  · have hnI : ((xs.length : Int) != (ys.length : Int)) = false := by rw [bne_eq_false_iff_eq]; omega
    have HNL := Lib.hid hn
    clear hn
    go_enter Try.func27, Try.ntmps27
    go_wp2
    go_loopw [13] (fun i wr => ∃ k n : Nat, k ≤ xs.length ∧ i = .int .i64 (k : Int) ∧ wr = w.drewN n ∧ same xs ys = same (xs.drop k) (ys.drop k)) (fun i _ => xs.length - (intOf i).toNat)
    case atStart => exact ⟨0, 0, Nat.zero_le _, rfl, rfl, rfl⟩
    case round =>
      obtain ⟨k, n, hk, rfl, rfl, hr⟩ := hrel
      have HR := Lib.hid hr
      clear hr
      by_cases hlt : k < xs.length
      · have hlt2 : k < ys.length := by have := HNL.out; omega
        obtain ⟨b, off, hA, _, hc⟩ := HX.out (by omega)
        obtain ⟨b2, off2, hA2, _, hc2⟩ := HY.out (by omega)
        subst hA hA2
        have c0 := hc k hlt
        have c1 := hc2 k hlt2
        have HD := Lib.hid (same_drop xs ys k hlt hlt2)
        clear hc hc2
        generalize xs[k] = x at *
        generalize ys[k] = y at *
        by_cases hxy : x = y
        · have HT : Hid (same xs ys = same (xs.drop (k + 1)) (ys.drop (k + 1))) := by rw [HR.out, HD.out, decide_eq_true hxy]; rfl
          have hd : (x != y) = false := by simpa using hxy
          clear HD HR hxy
          go_wp2
          go_quiet (fail)
          go_wp2
          go_roundw
          case rel => exact ⟨k + 1, n + nq, by omega, by go_num, by go_simp, HT.out⟩
          case measure => simp [intOf]; omega
        · have HT : Hid (same xs ys = false) := by rw [HR.out, HD.out, decide_eq_false hxy]; rfl
          have hd : (x != y) = true := by simpa using hxy
          clear HD HR hxy
          go_wp2
          go_quiet (fail)
          go_wp2
          go_ret
          exact ⟨ret_bool HT.out.symm, n + nq, by go_simp⟩
      · have HT : Hid (same xs ys = true) := by
          have := HNL.out
          rw [HR.out, List.drop_eq_nil_of_le (by omega), List.drop_eq_nil_of_le (by omega)]; rfl
        go_wp2
        go_ret
        exact ⟨ret_bool HT.out.symm, n, rfl⟩
  · have HT := Lib.hid (same_len hn)
    have hnI : ((xs.length : Int) != (ys.length : Int)) = true := by rw [bne_iff_ne]; omega
    clear hn
    go_enter Try.func27, Try.ntmps27
    go_wp2
    go_ret
    exact ⟨ret_bool HT.out.symm, 0, rfl⟩
end Sc
end Go.Proofs.Ytedhijehmkiieaa
