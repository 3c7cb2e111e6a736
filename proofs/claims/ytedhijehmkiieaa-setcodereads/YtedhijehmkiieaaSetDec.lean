/-
  Setcode (layer 13): the set of bytes: the program's Decode and the document's own.
-/
import Derived.Test.YtedhijehmkiieaaSetRef
namespace Go.Proofs.Ytedhijehmkiieaa
open Go.RowKit
namespace Sc
open B
open V (hd_le or_sum head_any InAt failS numS endS in_num in_err in_end fail_any of_new numS_le numS_size failS_size)

theorem hd_le2 {l : List UInt8} {x n f : Nat} (h : Var.hd 0 0 l = (x, n, f)) : n ≤ l.length := by
  have := hd_le _ _ _ _ _ _ h
  omega
theorem hd_pos {l : List UInt8} {x n : Nat} (h : Var.hd 0 0 l = (x, n, 0)) : 1 ≤ n := by
  obtain ⟨t, _, h2⟩ := hd_inv0 h
  have := Var.num_pos x
  omega
theorem hd_64 : ∀ (l : List UInt8) (i acc x n f : Nat), i ≤ 9 → acc < 128 ^ i → Var.hd i acc l = (x, n, f) → x < 18446744073709551616
  | [], i, acc, x, n, f, _, _, h => by simp only [Var.hd, Prod.mk.injEq] at h; omega
  | b :: r, i, acc, x, n, f, hi, ha, h => by
    rw [Var.hd] at h
    by_cases h1 : (0 < i ∧ b.toNat = 0) ∨ (i = 9 ∧ 1 < b.toNat)
    · rw [if_pos h1] at h; simp only [Prod.mk.injEq] at h; omega
    · rw [if_neg h1] at h
      have ho := (or_sum acc i b ha hi (by omega)).2
      by_cases h2 : b.toNat < 128
      · rw [if_pos h2] at h; simp only [Prod.mk.injEq] at h
        rw [Nat.mod_eq_of_lt h2] at ho
        omega
      · rw [if_neg h2] at h
        refine hd_64 r _ _ _ _ _ (by omega) ?_ h
        have h3 : b.toNat % 128 * 128 ^ i ≤ 127 * 128 ^ i := Nat.mul_le_mul_right _ (by omega)
        rw [Nat.pow_succ]; omega
theorem head_at (s : ByteArray) (x n f : Nat) (hs : s.size ≤ 1000) (hr : Var.hd 0 0 s.data.toList = (x, n, f)) (w : World) :
    Calls Try.prog 61 #[.string s] w fun e w' => e = .returned (.tuple #[.int .u64 (x : Int), .int .i64 (n : Int), .int .i64 (f : Int)]) ∧ w = w' := by
  have h := head_any s w (by unfold maxLen; omega)
  rw [hr] at h; exact h

/-! ### one number more -/
theorem dec_err {n least : Nat} {acc : List Int} {s : List UInt8} {x m f : Nat} (hr : Var.hd 0 0 s = (x, m, f)) (hf : f ≠ 0) : dec (n + 1) least acc s = ([], f) := by rw [dec, hr]; simp only; rw [if_pos hf]
theorem dec_big {n least : Nat} {acc : List Int} {s : List UInt8} {x m : Nat} (hr : Var.hd 0 0 s = (x, m, 0)) (hx : 2147483647 < x) : dec (n + 1) least acc s = ([], 4) := by rw [dec, hr]; simp only; rw [if_neg (by simp), if_pos hx]
theorem dec_over {n least : Nat} {acc : List Int} {s : List UInt8} {x m : Nat} (hr : Var.hd 0 0 s = (x, m, 0)) (hx : ¬ 2147483647 < x) (hy : 2147483647 < least + x) : dec (n + 1) least acc s = ([], 1) := by rw [dec, hr]; simp only; rw [if_neg (by simp), if_neg hx, if_pos hy]
theorem dec_next {n least : Nat} {acc : List Int} {s : List UInt8} {x m : Nat} (hr : Var.hd 0 0 s = (x, m, 0)) (hx : ¬ 2147483647 < x) (hy : ¬ 2147483647 < least + x) : dec (n + 1) least acc s = dec n (least + x + 1) (acc ++ [((least + x : Nat) : Int)]) (s.drop m) := by rw [dec, hr]; simp only; rw [if_neg (by simp), if_neg hx, if_neg hy]
theorem dec_done (least : Nat) (acc : List Int) (s : List UInt8) : dec 0 least acc s = if s = [] then (acc, 0) else ([], 3) := by rw [dec]
theorem decode_err {s : List UInt8} {x m f : Nat} (hr : Var.hd 0 0 s = (x, m, f)) (hf : f ≠ 0) : decode s = ([], f) := by unfold decode; rw [hr]; simp only; rw [if_pos hf]
theorem decode_big {s : List UInt8} {x m : Nat} (hr : Var.hd 0 0 s = (x, m, 0)) (hx : 2147483647 < x) : decode s = ([], 4) := by unfold decode; rw [hr]; simp only; rw [if_neg (by simp), if_pos hx]
theorem decode_go {s : List UInt8} {x m : Nat} (hr : Var.hd 0 0 s = (x, m, 0)) (hx : ¬ 2147483647 < x) : decode s = dec x 0 [] (s.drop m) := by unfold decode; rw [hr]; simp only; rw [if_neg (by simp), if_neg hx]
theorem data_nil {S : ByteArray} (h : S.size = 0) : S.data.toList = [] := List.eq_nil_of_length_eq_zero (by rw [size_data]; exact h)
theorem data_ne {S : ByteArray} (h : S.size ≠ 0) : S.data.toList ≠ [] := by intro e; exact h (by rw [← size_data, e]; rfl)

/-- a slice that reads as a list -/
def Lst (w : World) (v : Value) (l : List Int) : Prop := ∃ A c, v = .slice A l.length c ∧ At vInt w A l
theorem lst_nil (w : World) : Lst w (.slice none 0 0) [] := ⟨none, 0, rfl, At.nil _ _⟩
theorem lst_own {w : World} {M n : Nat} {v : Value} {l : List Int} (h : w.ownsRow M 3 1 v n (l.map vInt)) : Lst w v l := by
  obtain ⟨A, c, hv, hA, _⟩ := own_at h
  exact ⟨A, c, hv, hA⟩
theorem getD_snoc (acc : List Int) (z : Int) (n : Nat) (h : acc.length = n) : (acc ++ [z]).getD n 0 = z := by subst h; simp [List.getD]
theorem lst_snoc (acc : List Int) (z : Int) (n : Nat) (h : acc.length = n) : lst (acc ++ [z]) (n + 1) = z + 1 := by
  unfold lst
  rw [if_neg (by omega), Nat.add_sub_cancel, getD_snoc acc z n h]

set_option maxRecDepth 100000 in
set_option maxHeartbeats 4000000 in
theorem refDecode_any (s : ByteArray) (w : World) (hs : s.size ≤ 1000) :
    Calls Try.prog 29 #[.string s] w fun e w' => ∃ v, e = .returned (.tuple #[v, .int .i64 ((decode s.data.toList).2 : Int)]) ∧ Lst w' v (decode s.data.toList).1 ∧ Below w.heap.size w w' := by
  obtain ⟨i0, hi, hz0, hz1, hz2⟩ := info_parts info3
  obtain ⟨N, m0, f0, hr0⟩ : ∃ x n f, Var.hd 0 0 s.data.toList = (x, n, f) := ⟨_, _, _, rfl⟩
  have C0 := Lib.hid (head_at s N m0 f0 hs hr0)
  have hm0 : m0 ≤ s.size := by have := hd_le2 hr0; rw [size_data] at this; exact this
  have hN64 : N < 18446744073709551616 := hd_64 _ _ _ _ _ _ (by omega) (by decide) hr0
  by_cases hf0 : f0 = 0
  · subst hf0
    by_cases hN : 2147483647 < N
    · rw [decode_big hr0 hN]
      clear hr0
      go_enter Try.func29, Try.ntmps29
      go_wp2_with (go_at_call 61; ((with_reducible refine (C0.out _).mono ?_); rintro e1 w' ⟨rfl, rfl⟩))
      go_ret2
      exact ⟨_, rfl, lst_nil _, Below.refl _ _⟩
    · have hD0 := decode_go hr0 hN
      generalize decode s.data.toList = D at *
      have HD0 : Hid (dec (N - 0) (lst [] 0).toNat [] (s.extract m0 s.size).data.toList = D) := by unfold Hid; rw [drop_data, hD0]; rfl
      have hs0 : (s.extract m0 s.size).size ≤ 1000 := by rw [ByteArray.size_extract]; omega
      clear hD0 hr0
      go_enter Try.func29, Try.ntmps29
      go_wp2_with (go_at_call 61; ((with_reducible refine (C0.out _).mono ?_); rintro e1 w' ⟨rfl, rfl⟩))
      go_loopw [0, 7, 8] (fun t0 t7 t8 wr => ∃ (i : Nat) (acc : List Int) (S : ByteArray), i ≤ N ∧ t0 = .string S ∧ t8 = .int .u64 (i : Int) ∧ acc.length = i ∧ i + S.size ≤ 1000 ∧ 0 ≤ lst acc i ∧ lst acc i ≤ 2147483648 ∧ dec (N - i) (lst acc i).toNat acc S.data.toList = D ∧ wr.ownsRow w.heap.size 3 1 t7 acc.length (acc.map vInt) ∧ Below w.heap.size w wr) (fun _ _ t8 _ => N - (intOf t8).toNat)
      case atStart => exact ⟨0, [], _, Nat.zero_le _, rfl, rfl, rfl, by omega, Int.le_refl _, by decide, HD0.out, own_lit0 w _ _ _ rfl (Nat.le_refl _), (Below.refl _ _).alloc (Nat.le_refl _) _⟩
      case round =>
        obtain ⟨i, acc, S, hiN, rfl, rfl, hal, hS, hl0, hl1, hd, hown, hbel⟩ := hrel
        clear HD0
        have sw := hbel.size
        obtain ⟨x, m, f, hr⟩ : ∃ x n f, Var.hd 0 0 S.data.toList = (x, n, f) := ⟨_, _, _, rfl⟩
        by_cases hlt : i < N
        · have hNi : N - i = (N - (i + 1)) + 1 := by omega
          rw [hNi] at hd
          have CH := Lib.hid (head_at S x m f (by omega) hr)
          have hm : m ≤ S.size := by have := hd_le2 hr; rw [size_data] at this; exact this
          have hx64 : x < 18446744073709551616 := hd_64 _ _ _ _ _ _ (by omega) (by decide) hr
          have hltI : (i : Int) < (N : Int) := by omega
          have OW := Lib.hid hown
          have BW := Lib.hid hbel
          have HAL := Lib.hid hal
          by_cases hf : f = 0
          · subst hf
            by_cases hx : 2147483647 < x
            · rw [dec_big hr hx] at hd
              have HD := Lib.hid hd
              clear hr hd hNi hown hbel hal
              go_wp2_with (go_at_call 61; ((with_reducible refine (CH.out _).mono ?_); rintro e1 w' ⟨rfl, rfl⟩))
              go_ret2
              rw [← HD.out]
              exact ⟨_, rfl, lst_nil _, BW.out⟩
            · have hmp := hd_pos hr
              have hz : (S.extract m S.size).size + m = S.size := by rw [ByteArray.size_extract]; omega
              have HZ := Lib.hid hz
              have hzS : i + 1 + (S.extract m S.size).size ≤ 1000 := by omega
              have HR := Lib.hid hr
              have hm3 : acc.length + 1 ≤ maxLen := by unfold maxLen; omega
              have hm4 : (acc.length + 1) * 8 ≤ 140737488355328 := by omega
              by_cases hi0 : i = 0
              · have hacc : acc = [] := List.eq_nil_of_length_eq_zero (by omega)
                subst hacc
                subst hi0
                rw [dec_next hr hx (by show ¬ 2147483647 < 0 + x; omega)] at hd
                have HD : Hid (dec (N - (0 + 1)) (lst ([] ++ [(x : Int)]) (0 + 1)).toNat ([] ++ [(x : Int)]) (S.extract m S.size).data.toList = D) := by
                  unfold Hid
                  rw [drop_data, ← hd, lst_snoc [] (x : Int) 0 rfl]
                  have e1 : ((x : Int) + 1).toNat = (lst [] 0).toNat + x + 1 := by show _ = 0 + x + 1; omega
                  have e2 : (((lst [] 0).toNat + x : Nat) : Int) = (x : Int) := by show ((0 + x : Nat) : Int) = _; omega
                  rw [e1, e2]
                clear hr hd hNi hown hbel hal hz HR
                go_wp2_with (first
                  | (go_at_call 61; ((with_reducible refine (CH.out _).mono ?_); rintro e1 w' ⟨rfl, rfl⟩))
                  | (at_builtin; refine wpList_append_own _ rfl _ _ 26 rfl w.heap.size 3 i0 (.int .i64 0) 1 8 Try.underlying26 hi hz0 hz1 hz2 rfl (by decide) _ _ _ rfl (OW.out.alloc _) ⟨wr.heap.size, 0, none⟩ 1 1 [.int .i64 (x : Int)] rfl rfl (one_new _ _ _ _ rfl) (one_int _) hm3 hm4 (base1 sw _) ?_))
                intro v' w1 hown' hgrow _
                have hb1 : Below w.heap.size w w1 := (BW.out.alloc sw _).grown hgrow (base1 sw _) (fun q hq => (OW.out.lt q hq).1)
                have HO : Hid (w1.ownsRow w.heap.size 3 1 v' ([] ++ [(x : Int)]).length (([] ++ [(x : Int)]).map vInt)) := hown'
                have HB := Lib.hid hb1
                clear hown' hgrow hb1
                go_wp2
                go_roundw
                case rel => exact ⟨1, [] ++ [(x : Int)], _, by omega, rfl, by go_num, rfl, hzS, by rw [lst_snoc [] _ 0 rfl]; omega, by rw [lst_snoc [] _ 0 rfl]; omega, HD.out, HO.out, HB.out⟩
                case measure => simp [intOf]; omega
              · subst hal
                obtain ⟨A, c, hv, hA, _⟩ := own_at hown
                subst hv
                obtain ⟨b, off, hA1, _, hc⟩ := hA (by omega)
                subst hA1
                have c1 := hc (acc.length - 1) (by omega)
                have e0 : ((acc.length : Int) - 1).toNat = acc.length - 1 := by omega
                have e1 : off + ((acc.length : Int) - 1).toNat = off + (acc.length - 1) := by omega
                have hly : lst acc acc.length = acc[acc.length - 1]'(by omega) + 1 := by unfold lst; rw [if_neg hi0, getD_at acc (acc.length - 1) (by omega)]
                rw [hly] at hd hl0 hl1
                have hip : (0 : Int) < (acc.length : Int) := by omega
                have HSN := Lib.hid (fun z => lst_snoc acc z acc.length rfl)
                clear hc hly
                generalize acc[acc.length - 1]'(by omega) = y at *
                by_cases hy : 2147483647 < (x : Int) + (y + 1)
                · have hyd := decide_eq_true hy
                  rw [dec_over hr hx (by omega)] at hd
                  have HD := Lib.hid hd
                  clear hr hd hNi hown hbel HR
                  go_wp2_with (go_at_call 61; ((with_reducible refine (CH.out _).mono ?_); rintro e1 w' ⟨rfl, rfl⟩))
                  go_ret2
                  rw [← HD.out]
                  exact ⟨_, rfl, lst_nil _, BW.out⟩
                · have hyd := decide_eq_false hy
                  rw [dec_next hr hx (by omega)] at hd
                  have HD : Hid (dec (N - (acc.length + 1)) (lst (acc ++ [(x : Int) + (y + 1)]) (acc.length + 1)).toNat (acc ++ [(x : Int) + (y + 1)]) (S.extract m S.size).data.toList = D) := by
                    unfold Hid
                    rw [drop_data, ← hd, HSN.out]
                    have e1 : ((x : Int) + (y + 1) + 1).toNat = (y + 1).toNat + x + 1 := by omega
                    have e2 : (((y + 1).toNat + x : Nat) : Int) = (x : Int) + (y + 1) := by omega
                    rw [e1, e2]
                  clear hr hd hNi hown hbel hz HR
                  go_wp2_with (first
                    | (go_at_call 61; ((with_reducible refine (CH.out _).mono ?_); rintro e1 w' ⟨rfl, rfl⟩))
                    | (at_builtin; refine wpList_append_own _ rfl _ _ 26 rfl w.heap.size 3 i0 (.int .i64 0) 1 8 Try.underlying26 hi hz0 hz1 hz2 rfl (by decide) _ _ _ rfl (OW.out.alloc _) ⟨wr.heap.size, 0, none⟩ 1 1 [.int .i64 ((x : Int) + (y + 1))] rfl rfl (one_new _ _ _ _ rfl) (one_int _) hm3 hm4 (base1 sw _) ?_))
                  intro v' w1 hown' hgrow _
                  have hb1 : Below w.heap.size w w1 := (BW.out.alloc sw _).grown hgrow (base1 sw _) (fun q hq => (OW.out.lt q hq).1)
                  have HO : Hid (w1.ownsRow w.heap.size 3 1 v' (acc ++ [(x : Int) + (y + 1)]).length ((acc ++ [(x : Int) + (y + 1)]).map vInt)) := by unfold Hid; rw [List.length_append, List.map_append]; exact hown'
                  have HB := Lib.hid hb1
                  clear hown' hgrow hb1
                  go_wp2
                  go_roundw
                  case rel => exact ⟨acc.length + 1, acc ++ [(x : Int) + (y + 1)], _, by omega, rfl, by go_num, by rw [List.length_append]; rfl, hzS, by rw [HSN.out]; omega, by rw [HSN.out]; omega, HD.out, HO.out, HB.out⟩
                  case measure => simp [intOf]; omega
          · rw [dec_err hr hf] at hd
            have HD := Lib.hid hd
            have hf1 := nat_eq0 (show 0 < f by omega)
            have hf2 := nat_ne0 (show 0 < f by omega)
            clear hr hd hNi hown hbel hal hf
            go_wp2_with (go_at_call 61; ((with_reducible refine (CH.out _).mono ?_); rintro e1 w' ⟨rfl, rfl⟩))
            go_ret2
            rw [← HD.out]
            exact ⟨_, rfl, lst_nil _, BW.out⟩
        · have hNi : N - i = 0 := by omega
          rw [hNi, dec_done] at hd
          have hltI : decide ((i : Int) < (N : Int)) = false := decide_eq_false (by omega)
          have BW := Lib.hid hbel
          have LL := Lib.hid (lst_own hown)
          by_cases hz : S.size = 0
          · rw [if_pos (data_nil hz)] at hd
            have HD := Lib.hid hd
            have h1 := is_empty hz
            have h2 : (!S.toList.isEmpty) = false := by rw [h1]; rfl
            clear hd hNi hown hbel hal hz hr
            go_wp2
            go_ret2
            rw [← HD.out]
            exact ⟨_, rfl, LL.out, BW.out⟩
          · rw [if_neg (data_ne hz)] at hd
            have HD := Lib.hid hd
            have h1 := not_empty (show 0 < S.size by omega)
            have h2 : (!S.toList.isEmpty) = true := by rw [h1]; rfl
            clear hd hNi hown hbel hal hz hr
            go_wp2
            go_ret2
            rw [← HD.out]
            exact ⟨_, rfl, lst_nil _, BW.out⟩
  · have hf1 := nat_eq0 (show 0 < f0 by omega)
    have hf2 := nat_ne0 (show 0 < f0 by omega)
    rw [decode_err hr0 hf0]
    clear hr0 hf0
    go_enter Try.func29, Try.ntmps29
    go_wp2_with (go_at_call 61; ((with_reducible refine (C0.out _).mono ?_); rintro e1 w' ⟨rfl, rfl⟩))
    go_ret2
    exact ⟨_, rfl, lst_nil _, Below.refl _ _⟩
end Sc
end Go.Proofs.Ytedhijehmkiieaa
