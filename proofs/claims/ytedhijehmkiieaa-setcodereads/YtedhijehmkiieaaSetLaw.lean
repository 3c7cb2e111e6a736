/-
  Setcode (layer 13): the statements on sets: there and back, unlike sets, sizes.
-/
import Derived.Test.YtedhijehmkiieaaSetDp
namespace Go.Proofs.Ytedhijehmkiieaa
open Go.RowKit
namespace Sc
open B

theorem at_lit (W : World) (l : List Int) (e : TypeId) (g : Nat) (hg : g = W.heap.size) : At vInt (W.alloc (.cells (l.map vInt).toArray e)) (some ⟨g, 0, none⟩) l := fun hp => by
  subst hg
  refine ⟨_, 0, rfl, by simp, fun i hi => ?_⟩
  have := row_cell (cs := l.map vInt) (heap_last W (.cells (l.map vInt).toArray e) W.heap.size rfl) (0 + i)
  rw [this, Nat.zero_add]
  simp [List.getElem?_map, List.getElem?_eq_getElem hi]
theorem enc569 : enc [5, 6, 9] = [3, 5, 0, 2] := by
  show Var.num 3 ++ (Var.num (5 - 0 : Int).toNat ++ (Var.num (6 - (5 + 1) : Int).toNat ++ (Var.num (9 - (6 + 1) : Int).toNat ++ []))) = _
  rw [Var.num_lt (by decide), Var.num_lt (by decide), Var.num_lt (by decide), Var.num_lt (by decide)]; rfl
theorem ok569 : okB [5, 6, 9] = true := by decide
theorem aw_enc (g : Nat) (W : World) (h : At vInt W (some ⟨g, 0, none⟩) [5, 6, 9]) :
    Calls Try.prog 22 #[.slice (some ⟨g, 0, none⟩) 3 3] W fun e w' => e = .returned (.tuple #[.string { data := #[3, 5, 0, 2] }, .int .i64 0]) ∧ Below W.heap.size W w' := by
  have := encode_any [5, 6, 9] _ 3 W (by decide) h
  rw [ok569, enc569] at this
  exact this
theorem aw_dec (W : World) : Calls Try.prog 25 #[.string { data := #[3, 5, 0, 2] }] W fun e w' => ∃ v, e = .returned (.tuple #[v, .int .i64 0]) ∧ Lst w' v [5, 6, 9] ∧ Below W.heap.size W w' := by
  have := decode_any { data := #[3, 5, 0, 2] } W (by decide)
  have hd : decode (ByteArray.mk #[3, 5, 0, 2]).data.toList = ([5, 6, 9], 0) := by
    show decode [3, 5, 0, 2] = _
    rw [← enc569]; exact decode_enc _ (by decide) (okB_ok ok569)
  rw [hd] at this
  exact this
theorem aw_same (g : Nat) (A : Option Addr) (c : Nat) (W : World) (h : At vInt W A [5, 6, 9]) (h2 : At vInt W (some ⟨g, 0, none⟩) [5, 6, 9]) :
    Calls Try.prog 27 #[.slice A 3 c, .slice (some ⟨g, 0, none⟩) 3 3] W fun e w' => e = .returned (.bool true) ∧ ∃ n, w' = W.drewN n := by
  have := same_any [5, 6, 9] [5, 6, 9] A _ c 3 W (by decide) (by decide) h h2
  rw [same_self] at this
  exact this

set_option maxRecDepth 100000 in
set_option maxHeartbeats 1000000 in
theorem awake13_any (w : World) : Calls Try.prog 20 #[] w fun e w' => e = .returned (.bool true) ∧ Below w.heap.size w w' := by
  have a0 := at_lit w [5, 6, 9] 3 w.heap.size rfl
  have b0 := (Below.refl w.heap.size w).alloc (Nat.le_refl _) (.cells ([5, 6, 9].map vInt).toArray 3)
  have A0 := Lib.hid (show At vInt (w.alloc (.cells #[.int .i64 5, .int .i64 6, .int .i64 9] 3)) (some ⟨w.heap.size, 0, none⟩) [5, 6, 9] from a0)
  have B0 := Lib.hid (show Below w.heap.size w (w.alloc (.cells #[.int .i64 5, .int .i64 6, .int .i64 9] 3)) from b0)
  clear a0 b0
  go_enter Try.func20, Try.ntmps20
  go_wp2_with (first
    | (go_at_call 22; ((with_reducible refine (aw_enc _ _ A0.out).mono ?_); rintro e w1 ⟨rfl, hb1⟩; have B1 := Lib.hid (B0.out.trans (hb1.mono B0.out.size)); clear hb1))
    | (go_at_call 25; ((with_reducible refine (aw_dec _).mono ?_); rintro e w2 ⟨v, rfl, ⟨A2, c2, rfl, hl2⟩, hb2⟩; have B2 := Lib.hid (B1.out.trans (hb2.mono B1.out.size)); have L2 := Lib.hid (hl2.below ((Below.refl w2.heap.size w2).alloc (Nat.le_refl _) (.cells #[.int .i64 5, .int .i64 6, .int .i64 9] 3))); have L3 := Lib.hid (show At vInt (w2.alloc (.cells #[.int .i64 5, .int .i64 6, .int .i64 9] 3)) (some ⟨w2.heap.size, 0, none⟩) [5, 6, 9] from at_lit w2 [5, 6, 9] 3 w2.heap.size rfl); clear hb2 hl2))
    | (go_at_call 27; ((with_reducible refine (aw_same _ _ _ _ L2.out L3.out).mono ?_); rintro e w3 ⟨rfl, n, rfl⟩)))
  go_ret
  exact ⟨rfl, below_drewN (B2.out.alloc B2.out.size _) n⟩

theorem few_any (xs : List Int) (A : Option Addr) (c : Nat) (w : World) (hc : xs.length ≤ c) (hcm : c ≤ maxLen) :
    Calls Try.prog 21 #[.slice A xs.length c] w fun e w' => e = .returned (.slice A (xs.take 40).length c) ∧ w = w' := by
  unfold maxLen at hcm
  by_cases h : 40 < xs.length
  · have hl : (xs.take 40).length = 40 := by rw [List.length_take]; omega
    rw [hl]
    clear hl
    go_enter Try.func21, Try.ntmps21
    go_wp2
    go_ret
    exact ⟨rfl, rfl⟩
  · have hl : (xs.take 40).length = xs.length := by rw [List.length_take]; omega
    rw [hl]
    clear hl
    go_enter Try.func21, Try.ntmps21
    go_wp2
    go_ret
    exact ⟨rfl, rfl⟩

set_option maxRecDepth 100000 in
set_option maxHeartbeats 4000000 in
theorem setcodeSets_walk (A A2 : Option Addr) (l m : List Int) (c c2 : Nat) (w : World) (hl : At vInt w A l) (hm : At vInt w A2 m) (hc : l.length ≤ c) (hcm : c ≤ maxLen) (hc2 : m.length ≤ c2) (hcm2 : c2 ≤ maxLen) :
    Calls Try.prog 4 #[.slice A l.length c, .slice A2 m.length c2] w fun e w' => e = .returned (.bool true) ∧ Below w.heap.size w w' := by
  have F1 := Lib.hid (fun W => few_any l A c W hc hcm)
  have F2 := Lib.hid (fun W => few_any m A2 c2 W hc2 hcm2)
  have hx := hl.take 40
  have hy := hm.take 40
  have hlx : (l.take 40).length ≤ 40 := by rw [List.length_take]; omega
  have hly : (m.take 40).length ≤ 40 := by rw [List.length_take]; omega
  clear hl hm hc hcm hc2 hcm2
  generalize l.take 40 = xs at *
  generalize m.take 40 = ys at *
  have AW := Lib.hid (awake13_any w)
  have cE := fun W (q : Below w.heap.size w W) => encode_any xs A c W (by omega) (hx.below q)
  have cZ := fun W (q : Below w.heap.size w W) => size_any xs A c W (by omega) (hx.below q)
  have cT := fun W (q : Below w.heap.size w W) => refSet_any xs A c W (by omega) (hx.below q)
  by_cases hok : okB xs = true
  · rw [hok, if_pos rfl] at cE cZ
    rw [hok] at cT
    have OK := Lib.hid (okB_ok hok)
    obtain ⟨S, hS⟩ : ∃ S : ByteArray, S = ⟨(enc xs).toArray⟩ := ⟨_, rfl⟩
    have hSd : S.data.toList = enc xs := by rw [hS]
    have hSz : S.size = (enc xs).length := by rw [← hSd, size_data]
    have hSp : 0 < S.size := by
      rw [hSz]; unfold enc; rw [List.length_append]
      have := Var.num_pos xs.length; omega
    have hS1 : S.size ≤ 1000 := by
      rw [hSz]
      have hbd : ∀ (l : List Int) (least : Int), okL least l → 0 ≤ least → (encL least l).length ≤ 10 * l.length := by
        intro l
        induction l with
        | nil => intro _ _ _; simp [encL]
        | cons x r ih =>
          intro least h h0
          have h1 := ih (x + 1) h.2.2 (by have := h.1; omega)
          have h2 := Var.num_ten (x - least).toNat (by have := h.2.1; omega)
          show (Var.num (x - least).toNat ++ encL (x + 1) r).length ≤ _
          rw [List.length_append, List.length_cons]; omega
      have h1 := hbd xs 0 OK.out (Int.le_refl _)
      have h2 := Var.num_ten xs.length (by omega)
      unfold enc; rw [List.length_append]; omega
    have cR := fun W (q : Below w.heap.size w W) => refEncode_any xs A c W (by omega) (hx.below q) OK.out
    have cD := fun W => decode_any S W hS1
    rw [hSd, decode_enc xs (by omega) OK.out] at cD
    rw [← hS] at cE cR
    have CZ : Hid (∀ W (q : Below w.heap.size w W), Calls Try.prog 24 #[.slice A xs.length c] W fun e w' => e = .returned (.int .i64 (S.size : Int)) ∧ Below W.heap.size W w') := fun W q => by rw [hSz]; exact cZ W q
    have CE := Lib.hid cE
    have CT := Lib.hid cT
    have CR := Lib.hid cR
    have CD := Lib.hid cD
    have CS := Lib.hid (fun W A3 c3 (q : Below w.heap.size w W) (k : At vInt W A3 xs) => (show Calls Try.prog 27 #[.slice A3 xs.length c3, .slice A xs.length c] W fun e w' => e = .returned (.bool true) ∧ ∃ n, w' = W.drewN n by
      have := same_any xs xs A3 A c3 c W (by omega) (by omega) k (hx.below q); rw [same_self] at this; exact this))
    have cM := fun W (q : Below w.heap.size w W) => encode_any ys A2 c2 W (by omega) (hy.below q)
    have cU := fun W (q : Below w.heap.size w W) => same_any xs ys A A2 c c2 W (by omega) (by omega) (hx.below q) (hy.below q)
    obtain ⟨T, e2, hT1, hT2⟩ : ∃ (T : ByteArray) (e2 : Int), (∀ W (q : Below w.heap.size w W), Calls Try.prog 22 #[.slice A2 ys.length c2] W fun e w' => e = .returned (.tuple #[.string T, .int .i64 e2]) ∧ Below W.heap.size W w') ∧ (S.toList == T.toList) = same xs ys := by
      by_cases hoy : okB ys = true
      · rw [hoy, if_pos rfl, if_pos rfl] at cM
        refine ⟨_, _, cM, ?_⟩
        rw [Bool.eq_iff_iff, same_iff, beq_iff_eq, Lib.toList_data, Lib.toList_data, hSd]
        exact ⟨fun h => enc_inj xs ys (by omega) (by omega) OK.out (okB_ok hoy) h, fun h => by rw [h]⟩
      · rw [if_neg hoy, if_neg hoy] at cM
        refine ⟨_, _, cM, ?_⟩
        have h1 : same xs ys = false := by
          rw [Bool.eq_false_iff]; intro e
          rw [(same_iff xs ys).1 e] at hok; exact hoy hok
        rw [h1, beq_eq_false_iff_ne, Lib.toList_data, Lib.toList_data]
        intro e
        have := congrArg List.length e
        have h0 : (ByteArray.mk #[]).data.toList.length = 0 := rfl
        rw [size_data, h0] at this
        omega
    have CM := Lib.hid hT1
    have CU := Lib.hid cU
    generalize same xs ys = sm at *
    clear cE cZ cT cR cD cM cU hx hy hok OK hS hSd hSz hSp hT1
    go_enter Try.func4, Try.ntmps4
    go_wp2_with (first
      | (go_at_call 20; ((with_reducible refine AW.out.mono ?_); rintro e w1 ⟨rfl, hb1⟩; have B1 := Lib.hid hb1; clear hb1))
      | (go_at_call 21; first | ((with_reducible refine (F1.out _).mono ?_); rintro e w' ⟨rfl, rfl⟩) | ((with_reducible refine (F2.out _).mono ?_); rintro e w' ⟨rfl, rfl⟩))
      | (go_at_call 22; first | ((with_reducible refine (CE.out _ B1.out).mono ?_); rintro e w2 ⟨rfl, hb2⟩; have B2 := Lib.hid (B1.out.trans (hb2.mono B1.out.size)); clear hb2) | ((with_reducible refine (CM.out _ B3.out).mono ?_); rintro e w4 ⟨rfl, hb4⟩; have B4 := Lib.hid (B3.out.trans (hb4.mono B3.out.size)); have K4 := Lib.hid (K3.out.below hb4); clear hb4))
      | (go_at_call 23; ((with_reducible refine (CT.out _ B2.out).mono ?_); rintro e w' ⟨rfl, rfl⟩))
      | (go_at_call 25; ((with_reducible refine (CD.out _).mono ?_); rintro e w3 ⟨v, rfl, ⟨A3, c3, rfl, hl3⟩, hb3⟩; have B3 := Lib.hid (B2.out.trans (hb3.mono B2.out.size)); have K3 := Lib.hid hl3; clear hb3 hl3))
      | (go_at_call 26; ((with_reducible refine (CR.out _ B4.out).mono ?_); rintro e w5 ⟨rfl, hb5⟩; have B5 := Lib.hid (B4.out.trans (hb5.mono B4.out.size)); have K5 := Lib.hid (K4.out.below hb5); clear hb5))
      | (go_at_call 24; ((with_reducible refine (CZ.out _ B5.out).mono ?_); rintro e w6 ⟨rfl, hb6⟩; have B6 := Lib.hid (B5.out.trans (hb6.mono B5.out.size)); have K6 := Lib.hid (K5.out.below hb6); clear hb6))
      | (go_at_call 27; first | ((with_reducible refine (CS.out _ _ _ B6.out K6.out).mono ?_); rintro e w7 ⟨rfl, n7, rfl⟩; have B7 := Lib.hid (below_drewN B6.out n7)) | ((with_reducible refine (CU.out _ B7.out).mono ?_); rintro e w8 ⟨rfl, n8, rfl⟩)))
    go_ret
    exact ⟨by first | rfl | (congr 2; cases sm <;> rfl), below_drewN B6.out _⟩
  · rw [if_neg hok, if_neg hok] at cE
    rw [if_neg hok] at cZ
    have hok' : okB xs = false := by simpa using hok
    rw [hok'] at cT
    have CE := Lib.hid cE
    have CT := Lib.hid cT
    have CZ := Lib.hid cZ
    clear cE cT cZ hok hok' hx hy
    go_enter Try.func4, Try.ntmps4
    go_wp2_with (first
      | (go_at_call 20; ((with_reducible refine AW.out.mono ?_); rintro e w1 ⟨rfl, hb1⟩; have B1 := Lib.hid hb1; clear hb1))
      | (go_at_call 21; first | ((with_reducible refine (F1.out _).mono ?_); rintro e w' ⟨rfl, rfl⟩) | ((with_reducible refine (F2.out _).mono ?_); rintro e w' ⟨rfl, rfl⟩))
      | (go_at_call 22; ((with_reducible refine (CE.out _ B1.out).mono ?_); rintro e w2 ⟨rfl, hb2⟩; have B2 := Lib.hid (B1.out.trans (hb2.mono B1.out.size)); clear hb2))
      | (go_at_call 23; ((with_reducible refine (CT.out _ B2.out).mono ?_); rintro e w' ⟨rfl, rfl⟩))
      | (go_at_call 24; ((with_reducible refine (CZ.out _ B2.out).mono ?_); rintro e w3 ⟨rfl, hb3⟩; have B3 := Lib.hid (B2.out.trans (hb3.mono B2.out.size)); clear hb3)))
    go_ret
    exact ⟨rfl, B3.out⟩
end Sc
end Go.Proofs.Ytedhijehmkiieaa
