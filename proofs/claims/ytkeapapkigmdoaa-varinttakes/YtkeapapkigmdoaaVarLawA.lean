/-
  The walk of the statement VarintNums: a number has just its bytes, comes back, and no number's bytes begin with another one's.
-/
import Derived.Test.YtkeapapkigmdoaaRows
import Derived.Test.YtkeapapkigmdoaaVarIn
namespace Go.Proofs.Ytkeapapkigmdoaa
open Go.RowKit
namespace V

theorem num_okM (g : Nat) (s : ByteArray) (e x n : Nat) (w : World) (h : InAt w g s e) (hs : s.size ≤ maxLen) (hr : Var.hd 0 0 s.data.toList = (x, n, 0)) (hx : x < 18446744073709551616) :
    Calls Try.prog 12 #[.pointer (some ⟨g, 0, none⟩), .int .u64 18446744073709551615] w fun r w' => r = .returned (.int .u64 (x : Int)) ∧ InAt w' g (s.extract n s.size) e ∧ w.grownBy w' (some g) :=
  num_ok g s e 18446744073709551615 x n w h hs hr (by omega)

theorem mk_data (l : List UInt8) : (ByteArray.mk l.toArray).data.toList = l := rfl
theorem mk_size (l : List UInt8) : (ByteArray.mk l.toArray).size = l.length := by show l.toArray.size = _; simp
theorem drop_data (s : ByteArray) (n : Nat) : (s.extract n s.size).data.toList = s.data.toList.drop n := by
  rw [ByteArray.data_extract, Array.toList_extract]
  simp only [List.extract]
  exact List.take_of_length_le (by rw [List.length_drop, Array.length_toList]; exact Nat.le_refl _)
theorem size_data (s : ByteArray) : s.data.toList.length = s.size := by rw [Array.length_toList]; rfl
theorem cat_data (a b : ByteArray) : (a ++ b).data.toList = a.data.toList ++ b.data.toList := by simp [ByteArray.data_append]
theorem cat_size (a b : ByteArray) : (a ++ b).size = a.size + b.size := ByteArray.size_append
theorem take_data (s : ByteArray) (n : Nat) : (s.extract 0 n).data.toList = s.data.toList.take n := by
  rw [ByteArray.data_extract, Array.toList_extract]; simp [List.extract]

/-- 'begins == (x == y)' -/
theorem begins_ne (x y : Nat) (hx : x < 18446744073709551616) (hy : y < 18446744073709551616) (h : x ≠ y) (S T : ByteArray) (hS : S.data.toList = Var.num x) (hT : T.data.toList = Var.num y) :
    ((T.extract 0 S.size).toList == S.toList) = false := by
  rw [beq_eq_false_iff_ne]
  intro e
  rw [Lib.toList_data, Lib.toList_data, take_data, hS, hT] at e
  refine h (Var.num_begins x y hx hy ((Var.num y).drop S.size) ?_)
  rw [← e]; exact (List.take_append_drop _ _).symm

theorem keep7 {w4 w5 w6 w7 : World} {g e : Nat} {U : ByteArray} (h : InAt w6 g U e) (hz : g < w4.heap.size) (h5 : w4.grownBy w5 (some g)) (h6 : w5.grownBy w6 (some g)) (h7 : Below w6.heap.size w6 w7) : InAt w7 g U e :=
  h.below h7 (Nat.lt_of_lt_of_le (Nat.lt_of_lt_of_le hz h5.size) h6.size)
theorem chain7 {w w1 w2 w3 w4 w5 w6 w7 : World} (h1 : Below w.heap.size w w1) (h2 : Below w1.heap.size w1 w2) (h3 : Below w2.heap.size w2 w3) (h4 : Below w3.heap.size w3 w4)
    (h5 : w4.grownBy w5 (some w3.heap.size)) (h6 : w5.grownBy w6 (some w3.heap.size)) (h7 : Below w6.heap.size w6 w7) : Below w.heap.size w w7 := by
  have a2 := h1.trans (h2.mono h1.size)
  have a3 := a2.trans (h3.mono a2.size)
  have a4 := a3.trans (h4.mono a3.size)
  have a5 := a4.trans (grown_below h5 a3.size a4.size)
  have a6 := a5.trans (grown_below h6 a3.size a5.size)
  exact a6.trans (h7.mono a6.size)

set_option maxRecDepth 100000 in
set_option maxHeartbeats 1000000 in
theorem varintNums_walk (x y : Nat) (w : World) (hx : x < 18446744073709551616) (hy : y < 18446744073709551616) :
    Calls Try.prog 3 #[.int .u64 (x : Int), .int .u64 (y : Int)] w fun e w' => e = .returned (.bool true) ∧ Below w.heap.size w w' := by
  obtain ⟨S, hS⟩ : ∃ S : ByteArray, S = ⟨(Var.num x).toArray⟩ := ⟨_, rfl⟩
  obtain ⟨T, hT⟩ : ∃ T : ByteArray, T = ⟨(Var.num y).toArray⟩ := ⟨_, rfl⟩
  have dS : S.data.toList = Var.num x := by rw [hS]
  have dT : T.data.toList = Var.num y := by rw [hT]
  have zS : S.size ≤ 10 := by rw [hS, mk_size]; exact Var.num_ten x hx
  have zT : T.size ≤ 10 := by rw [hT, mk_size]; exact Var.num_ten y hy
  have CX := Lib.hid (fun W => num_any x W hx)
  have CY := Lib.hid (fun W => num_any y W hy)
  have CR := Lib.hid (fun W => refNum_any x W hx)
  rw [← hS] at CX CR
  rw [← hT] at CY
  have hr1 : Var.hd 0 0 (S ++ T).data.toList = (x, S.size, 0) := by rw [cat_data, dS, Var.hd_back x hx, ← dS, size_data]
  obtain ⟨R, hR⟩ : ∃ R : ByteArray, R = (S ++ T).extract S.size (S ++ T).size := ⟨_, rfl⟩
  have dR : R.data.toList = Var.num y := by rw [hR, drop_data, cat_data, ← size_data S, List.drop_left, dT]
  have hr2 : Var.hd 0 0 R.data.toList = (y, T.size, 0) := by
    have h := Var.hd_back y hy []
    rw [List.append_nil] at h
    rw [dR, h, ← size_data T, dT]
  have zR : R.size = T.size := by rw [← size_data, dR, ← dT, size_data]
  obtain ⟨U, hU⟩ : ∃ U : ByteArray, U = R.extract T.size R.size := ⟨_, rfl⟩
  have zU : U.size = 0 := by rw [← size_data, hU, drop_data, List.length_drop, size_data, zR]; omega
  have hE : endS U 0 = 0 := by unfold endS; rw [if_neg (by omega)]
  have C1 := Lib.hid (fun g W h => num_okM g (S ++ T) 0 x S.size W h (by rw [cat_size]; unfold maxLen; omega) hr1 hx)
  have C2 := Lib.hid (fun g W h => num_okM g R 0 y T.size W h (by rw [zR]; unfold maxLen; omega) hr2 hy)
  rw [← hR] at C1
  rw [← hU] at C2
  have c3 := fun g W h => in_end g U 0 W h
  rw [hE] at c3
  have C3 := Lib.hid c3
  have HB := Lib.hid (fun h => begins_ne x y hx hy h S T dS dT)
  have HSe : Hid (x = y → S = T) := fun h => by rw [hS, hT, h]
  clear hS hT dS dT hr1 hR dR hr2 zR hU zU hE c3 hx hy
  by_cases hxy : x = y
  · have hST := HSe.out hxy
    subst hxy hST
    have hex : S.extract 0 S.size = S := by apply ByteArray.ext; simp
    clear HSe HB
    go_enter Try.func3, Try.ntmps3
    go_wp2_with (first
      | (go_at_call 9; ((with_reducible refine (awake1_any _).mono ?_); rintro e w1 ⟨rfl, hb1⟩))
      | (go_at_call 10; first | ((with_reducible refine (CX.out _).mono ?_); rintro e w2 ⟨rfl, hb2⟩))
      | (go_at_call 11; ((with_reducible refine (of_new _ _).mono ?_); rintro e w4 ⟨rfl, hi4, hb4, hz4⟩; have HI4 := Lib.hid hi4; clear hi4))
      | (go_at_call 12; first | ((with_reducible refine (C1.out _ _ HI4.out).mono ?_); rintro e w5 ⟨rfl, hi5, hg5⟩; have HI5 := Lib.hid hi5; clear hi5 HI4) | ((with_reducible refine (C2.out _ _ HI5.out).mono ?_); rintro e w6 ⟨rfl, hi6, hg6⟩; have HI6 := Lib.hid hi6; clear hi6))
      | (go_at_call 13; ((with_reducible refine (CR.out _).mono ?_); rintro e w7 ⟨rfl, hb7⟩; have HI7 := Lib.hid (keep7 HI6.out hz4 hg5 hg6 hb7)))
      | (go_at_call 14; ((with_reducible refine (C3.out _ _ HI7.out).mono ?_); rintro e w8 ⟨rfl, rfl⟩)))
    go_ret
    rename_i w2a hb2a _
    exact ⟨rfl, chain7 hb1 hb2a hb2 hb4 hg5 hg6 hb7⟩
  · have hb := HB.out hxy
    have hxy' : ((x : Int) == (y : Int)) = false := by rw [beq_eq_false_iff_ne]; omega
    clear HSe HB
    by_cases hl : S.size ≤ T.size
    · go_enter Try.func3, Try.ntmps3
      go_wp2_with (first
        | (go_at_call 9; ((with_reducible refine (awake1_any _).mono ?_); rintro e w1 ⟨rfl, hb1⟩))
        | (go_at_call 10; first | ((with_reducible refine (CX.out _).mono ?_); rintro e w2 ⟨rfl, hb2⟩) | ((with_reducible refine (CY.out _).mono ?_); rintro e w3 ⟨rfl, hb3⟩))
        | (go_at_call 11; ((with_reducible refine (of_new _ _).mono ?_); rintro e w4 ⟨rfl, hi4, hb4, hz4⟩; have HI4 := Lib.hid hi4; clear hi4))
        | (go_at_call 12; first | ((with_reducible refine (C1.out _ _ HI4.out).mono ?_); rintro e w5 ⟨rfl, hi5, hg5⟩; have HI5 := Lib.hid hi5; clear hi5 HI4) | ((with_reducible refine (C2.out _ _ HI5.out).mono ?_); rintro e w6 ⟨rfl, hi6, hg6⟩; have HI6 := Lib.hid hi6; clear hi6))
        | (go_at_call 13; ((with_reducible refine (CR.out _).mono ?_); rintro e w7 ⟨rfl, hb7⟩; have HI7 := Lib.hid (keep7 HI6.out hz4 hg5 hg6 hb7)))
        | (go_at_call 14; ((with_reducible refine (C3.out _ _ HI7.out).mono ?_); rintro e w8 ⟨rfl, rfl⟩)))
      go_ret
      exact ⟨rfl, chain7 hb1 hb2 hb3 hb4 hg5 hg6 hb7⟩
    · go_enter Try.func3, Try.ntmps3
      go_wp2_with (first
        | (go_at_call 9; ((with_reducible refine (awake1_any _).mono ?_); rintro e w1 ⟨rfl, hb1⟩))
        | (go_at_call 10; first | ((with_reducible refine (CX.out _).mono ?_); rintro e w2 ⟨rfl, hb2⟩) | ((with_reducible refine (CY.out _).mono ?_); rintro e w3 ⟨rfl, hb3⟩))
        | (go_at_call 11; ((with_reducible refine (of_new _ _).mono ?_); rintro e w4 ⟨rfl, hi4, hb4, hz4⟩; have HI4 := Lib.hid hi4; clear hi4))
        | (go_at_call 12; first | ((with_reducible refine (C1.out _ _ HI4.out).mono ?_); rintro e w5 ⟨rfl, hi5, hg5⟩; have HI5 := Lib.hid hi5; clear hi5 HI4) | ((with_reducible refine (C2.out _ _ HI5.out).mono ?_); rintro e w6 ⟨rfl, hi6, hg6⟩; have HI6 := Lib.hid hi6; clear hi6))
        | (go_at_call 13; ((with_reducible refine (CR.out _).mono ?_); rintro e w7 ⟨rfl, hb7⟩; have HI7 := Lib.hid (keep7 HI6.out hz4 hg5 hg6 hb7)))
        | (go_at_call 14; ((with_reducible refine (C3.out _ _ HI7.out).mono ?_); rintro e w8 ⟨rfl, rfl⟩)))
      go_ret
      exact ⟨rfl, chain7 hb1 hb2 hb3 hb4 hg5 hg6 hb7⟩
end V
end Go.Proofs.Ytkeapapkigmdoaa
