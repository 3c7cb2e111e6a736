/-
  Setcode (layer 13): the statements on pairs, and on any bytes.
-/
import Derived.Test.YtedhijehmkiieaaSetPh
import Derived.Test.YtedhijehmkiieaaSetLaw
namespace Go.Proofs.Ytedhijehmkiieaa
open Go.RowKit
namespace Sc
open B

theorem dec_nil : ∀ (n least : Nat) (acc : List Int) (s : List UInt8), (dec n least acc s).2 ≠ 0 → (dec n least acc s).1 = []
  | 0, least, acc, s, h => by
    rw [dec] at h ⊢
    split at h
    · exact absurd rfl h
    · rename_i hs; rw [if_neg hs]
  | n + 1, least, acc, s, h => by
    rw [dec] at h ⊢
    split
    · rfl
    · rename_i h1
      rw [if_neg h1] at h
      split
      · rfl
      · rename_i h2
        rw [if_neg h2] at h
        split
        · rfl
        · rename_i h3
          rw [if_neg h3] at h
          exact dec_nil _ _ _ _ h
theorem decode_nil {s : List UInt8} (h : (decode s).2 ≠ 0) : (decode s).1 = [] := by
  unfold decode at h ⊢
  split
  · rfl
  · rename_i h1
    rw [if_neg h1] at h
    split
    · rfl
    · rename_i h2
      rw [if_neg h2] at h
      exact dec_nil _ _ _ _ h
theorem decP_nil : ∀ (n : Nat) (acc : List P2) (s : List UInt8), (decP n acc s).2 ≠ 0 → (decP n acc s).1 = []
  | 0, acc, s, h => by
    rw [decP_end] at h ⊢
    split
    · rename_i h1
      rw [if_pos h1] at h
      split
      · rename_i h2; rw [if_pos h2] at h; exact absurd rfl h
      · rfl
    · rfl
  | n + 1, acc, s, h => by
    rw [decP] at h ⊢
    split
    · rfl
    · rename_i h1
      rw [if_neg h1] at h
      split
      · rfl
      · rename_i h2
        rw [if_neg h2] at h
        exact decP_nil _ _ _ h
theorem decodeP_nil {s : List UInt8} (h : (decodeP s).2 ≠ 0) : (decodeP s).1 = [] := by
  unfold decodeP at h ⊢
  split
  · rfl
  · rename_i h1
    rw [if_neg h1] at h
    exact decP_nil _ _ _ h
theorem encL_ge : ∀ (l : List Int) (least : Int), l.length ≤ (encL least l).length
  | [], _ => Nat.zero_le _
  | x :: r, least => by
    have h1 := encL_ge r (x + 1)
    have h2 := Var.num_pos (x - least).toNat
    show r.length + 1 ≤ (Var.num (x - least).toNat ++ encL (x + 1) r).length
    rw [List.length_append]; omega
theorem encP_ge : ∀ (l : List P2), l.length ≤ (encP l).length
  | [] => Nat.zero_le _
  | x :: r => by
    have h1 := encP_ge r
    have h2 := Var.num_pos x.1.toNat
    show r.length + 1 ≤ (Var.num x.1.toNat ++ (Var.num x.2.toNat ++ encP r)).length
    rw [List.length_append, List.length_append]; omega


/-- what stands behind the cut: a list of so many at most -/
theorem pairs_facts (A : Option Addr) (l : List P2) (n c : Nat) (w : World) (hl : PrR w A l) (hlen : l.length ≤ 30) (hn : n = l.length) :
    (okP l = true → ∃ S : ByteArray, S.size ≤ 1000 ∧
      (∀ W, Below w.heap.size w W → Calls Try.prog 33 #[.slice A n c] W fun e w' => e = .returned (.tuple #[.string S, .int .i64 0]) ∧ Below W.heap.size W w') ∧
      (∀ W, Below w.heap.size w W → Calls Try.prog 34 #[.slice A n c] W fun e w' => e = .returned (.bool true) ∧ Below W.heap.size W w') ∧
      (∀ W, Calls Try.prog 30 #[.string S] W fun e w' => ∃ v, e = .returned (.tuple #[v, .int .i64 0]) ∧ LstP w' v l ∧ Below W.heap.size W w') ∧
      (∀ W, Below w.heap.size w W → Calls Try.prog 35 #[.slice A n c] W fun e w' => e = .returned (.string S) ∧ Below W.heap.size W w') ∧
      (∀ W A4 c4, Below w.heap.size w W → PrR W A4 l → Calls Try.prog 32 #[.slice A4 l.length c4, .slice A n c] W fun e w' => e = .returned (.bool true) ∧ ∃ n, w' = W.drewN n)) ∧
    (okP l = false →
      (∀ W, Below w.heap.size w W → Calls Try.prog 33 #[.slice A n c] W fun e w' => e = .returned (.tuple #[.string ⟨#[]⟩, .int .i64 1]) ∧ Below W.heap.size W w') ∧
      (∀ W, Below w.heap.size w W → Calls Try.prog 34 #[.slice A n c] W fun e w' => e = .returned (.bool false) ∧ Below W.heap.size W w')) := by
  subst hn
  refine ⟨fun ho => ?_, fun ho => ?_⟩
  · have hm := okP_may ho
    have hp : prise l = true := by unfold okP at ho; rw [Bool.and_eq_true] at ho; exact ho.1
    obtain ⟨S, hS⟩ : ∃ S : ByteArray, S = ⟨(encPs l).toArray⟩ := ⟨_, rfl⟩
    have hSd : S.data.toList = encPs l := by rw [hS]
    have hS1 : S.size ≤ 1000 := by
      rw [← size_data, hSd]
      have h1 := encP_len l hm
      have h2 := Var.num_ten l.length (by omega)
      unfold encPs; rw [List.length_append]; omega
    have cF := fun W => fromPairs_any S W hS1
    rw [hSd, decodeP_enc l (by omega) hm hp] at cF
    refine ⟨S, hS1, fun W q => ?_, fun W q => ?_, cF, fun W q => ?_, fun W A4 c4 q k => psame_any l A4 A c4 c W (by omega) k (hl.below q)⟩
    · have := pairs_any l A c W (by omega) (hl.below q)
      rw [ho, if_pos rfl, if_pos rfl, ← hS] at this; exact this
    · have := refRise_any l A c W (by omega) (hl.below q)
      rw [ho] at this; exact this
    · have := refPairs_any l A c W (by omega) (hl.below q) hm
      rw [← hS] at this; exact this
  · refine ⟨fun W q => ?_, fun W q => ?_⟩
    · have := pairs_any l A c W (by omega) (hl.below q)
      rw [ho] at this; exact this
    · have := refRise_any l A c W (by omega) (hl.below q)
      rw [ho] at this; exact this

set_option maxRecDepth 100000 in
set_option maxHeartbeats 4000000 in
theorem setcodePairs_walk (A : Option Addr) (l : List P2) (c : Nat) (w : World) (hl : PrR w A l) (hc : l.length ≤ c) (hcm : c ≤ maxLen) :
    Calls Try.prog 6 #[.slice A l.length c] w fun e w' => e = .returned (.bool true) ∧ Below w.heap.size w w' := by
  have AW := Lib.hid (awake13_any w)
  unfold maxLen at hcm
  by_cases h30 : 30 < l.length
  · have hlt : (l.take 30).length = 30 := by rw [List.length_take]; omega
    obtain ⟨f1, f2⟩ := pairs_facts A (l.take 30) 30 c w (hl.take 30) (by omega) hlt.symm
    have h30I : (30 : Int) < (l.length : Int) := by omega
    by_cases ho : okP (l.take 30) = true
    · obtain ⟨S, hS1, cP, cR, cF, cQ, cS⟩ := f1 ho
      rw [hlt] at cS
      have cF' := fun W => (cF W).mono (fun e w' (h : ∃ v, _ ∧ LstP w' v (l.take 30) ∧ _) => (show ∃ v, e = .returned (.tuple #[v, .int .i64 0]) ∧ (∃ A4 c4, v = .slice A4 30 c4 ∧ PrR w' A4 (l.take 30)) ∧ Below W.heap.size W w' by
        obtain ⟨v, h1, ⟨A4, c4, h2, h3⟩, h4⟩ := h
        exact ⟨v, h1, ⟨A4, c4, by rw [h2, hlt], h3⟩, h4⟩))
      have CP := Lib.hid cP
      have CR := Lib.hid cR
      have CF := Lib.hid cF'
      have CQ := Lib.hid cQ
      have CS := Lib.hid cS
      clear cP cR cF cF' cQ cS f1 f2 hlt ho hl
      go_enter Try.func6, Try.ntmps6
      go_wp2_with (first
      | (go_at_call 20; ((with_reducible refine AW.out.mono ?_); rintro e w1 ⟨rfl, hb1⟩; have B1 := Lib.hid hb1; clear hb1))
      | (go_at_call 33; ((with_reducible refine (CP.out _ B1.out).mono ?_); rintro e w2 ⟨rfl, hb2⟩; have B2 := Lib.hid (B1.out.trans (hb2.mono B1.out.size)); clear hb2))
      | (go_at_call 34; ((with_reducible refine (CR.out _ B2.out).mono ?_); rintro e w3 ⟨rfl, hb3⟩; have B3 := Lib.hid (B2.out.trans (hb3.mono B2.out.size)); clear hb3))
      | (go_at_call 30; ((with_reducible refine (CF.out _).mono ?_); rintro e w4 ⟨v, rfl, ⟨A4, c4, rfl, hl4⟩, hb4⟩; have B4 := Lib.hid (B3.out.trans (hb4.mono B3.out.size)); have K4 := Lib.hid hl4; clear hb4 hl4))
      | (go_at_call 35; ((with_reducible refine (CQ.out _ B4.out).mono ?_); rintro e w5 ⟨rfl, hb5⟩; have B5 := Lib.hid (B4.out.trans (hb5.mono B4.out.size)); have K5 := Lib.hid (K4.out.below hb5); clear hb5))
      | (go_at_call 32; ((with_reducible refine (CS.out _ _ _ B5.out K5.out).mono ?_); rintro e w6 ⟨rfl, n6, rfl⟩)))
      go_ret
      exact ⟨rfl, below_drewN B5.out _⟩
    · obtain ⟨cP, cR⟩ := f2 (by simpa using ho)
      have CP := Lib.hid cP
      have CR := Lib.hid cR
      clear cP cR f1 f2 hlt ho hl
      go_enter Try.func6, Try.ntmps6
      go_wp2_with (first
      | (go_at_call 20; ((with_reducible refine AW.out.mono ?_); rintro e w1 ⟨rfl, hb1⟩; have B1 := Lib.hid hb1; clear hb1))
      | (go_at_call 33; ((with_reducible refine (CP.out _ B1.out).mono ?_); rintro e w2 ⟨rfl, hb2⟩; have B2 := Lib.hid (B1.out.trans (hb2.mono B1.out.size)); clear hb2))
      | (go_at_call 34; ((with_reducible refine (CR.out _ B2.out).mono ?_); rintro e w3 ⟨rfl, hb3⟩; have B3 := Lib.hid (B2.out.trans (hb3.mono B2.out.size)); clear hb3)))
      go_ret
      exact ⟨rfl, B3.out⟩
  · obtain ⟨f1, f2⟩ := pairs_facts A l l.length c w hl (by omega) rfl
    have h30I : decide ((30 : Int) < (l.length : Int)) = false := decide_eq_false (by omega)
    by_cases ho : okP l = true
    · obtain ⟨S, hS1, cP, cR, cF, cQ, cS⟩ := f1 ho
      have CP := Lib.hid cP
      have CR := Lib.hid cR
      have CF := Lib.hid cF
      have CQ := Lib.hid cQ
      have CS := Lib.hid cS
      clear cP cR cF cQ cS f1 f2 ho hl
      go_enter Try.func6, Try.ntmps6
      go_wp2_with (first
      | (go_at_call 20; ((with_reducible refine AW.out.mono ?_); rintro e w1 ⟨rfl, hb1⟩; have B1 := Lib.hid hb1; clear hb1))
      | (go_at_call 33; ((with_reducible refine (CP.out _ B1.out).mono ?_); rintro e w2 ⟨rfl, hb2⟩; have B2 := Lib.hid (B1.out.trans (hb2.mono B1.out.size)); clear hb2))
      | (go_at_call 34; ((with_reducible refine (CR.out _ B2.out).mono ?_); rintro e w3 ⟨rfl, hb3⟩; have B3 := Lib.hid (B2.out.trans (hb3.mono B2.out.size)); clear hb3))
      | (go_at_call 30; ((with_reducible refine (CF.out _).mono ?_); rintro e w4 ⟨v, rfl, ⟨A4, c4, rfl, hl4⟩, hb4⟩; have B4 := Lib.hid (B3.out.trans (hb4.mono B3.out.size)); have K4 := Lib.hid hl4; clear hb4 hl4))
      | (go_at_call 35; ((with_reducible refine (CQ.out _ B4.out).mono ?_); rintro e w5 ⟨rfl, hb5⟩; have B5 := Lib.hid (B4.out.trans (hb5.mono B4.out.size)); have K5 := Lib.hid (K4.out.below hb5); clear hb5))
      | (go_at_call 32; ((with_reducible refine (CS.out _ _ _ B5.out K5.out).mono ?_); rintro e w6 ⟨rfl, n6, rfl⟩)))
      go_ret
      exact ⟨rfl, below_drewN B5.out _⟩
    · obtain ⟨cP, cR⟩ := f2 (by simpa using ho)
      have CP := Lib.hid cP
      have CR := Lib.hid cR
      clear cP cR f1 f2 ho hl
      go_enter Try.func6, Try.ntmps6
      go_wp2_with (first
      | (go_at_call 20; ((with_reducible refine AW.out.mono ?_); rintro e w1 ⟨rfl, hb1⟩; have B1 := Lib.hid hb1; clear hb1))
      | (go_at_call 33; ((with_reducible refine (CP.out _ B1.out).mono ?_); rintro e w2 ⟨rfl, hb2⟩; have B2 := Lib.hid (B1.out.trans (hb2.mono B1.out.size)); clear hb2))
      | (go_at_call 34; ((with_reducible refine (CR.out _ B2.out).mono ?_); rintro e w3 ⟨rfl, hb3⟩; have B3 := Lib.hid (B2.out.trans (hb3.mono B2.out.size)); clear hb3)))
      go_ret
      exact ⟨rfl, B3.out⟩

/-! ### any bytes -/
set_option maxRecDepth 100000 in
set_option maxHeartbeats 4000000 in
theorem setcodeReads_walk (s : ByteArray) (w : World) (hs : s.size ≤ maxLen) :
    Calls Try.prog 5 #[.string s] w fun e w' => e = .returned (.bool true) ∧ Below w.heap.size w w' := by
  have AW := Lib.hid (awake13_any w)
  obtain ⟨S, hS, CC⟩ : ∃ S : ByteArray, S.size ≤ 80 ∧ Hid (∀ W, Calls Try.prog 28 #[.string s, .int .i64 80] W fun e w' => e = .returned (.string S) ∧ W = w') := by
    unfold maxLen at hs
    by_cases h : 80 < s.size
    · refine ⟨s.extract 0 80, by rw [ByteArray.size_extract]; omega, fun W => ?_⟩
      go_enter Try.func28, Try.ntmps28
      go_wp2
      go_ret
      exact ⟨rfl, rfl⟩
    · refine ⟨s, by omega, fun W => ?_⟩
      go_enter Try.func28, Try.ntmps28
      go_wp2
      go_ret
      exact ⟨rfl, rfl⟩
  have cD := fun W => decode_any S W (by omega)
  have cE := fun W => refDecode_any S W (by omega)
  have cF := fun W => fromPairs_any S W (by omega)
  have cG := fun W => refFromPairs_any S W (by omega)
  obtain ⟨l, e, hd⟩ : ∃ l e, decode S.data.toList = (l, e) := ⟨_, _, rfl⟩
  obtain ⟨p, h, hq⟩ : ∃ l e, decodeP S.data.toList = (l, e) := ⟨_, _, rfl⟩
  have hl : l.length ≤ 80 ∧ (e = 0 → okB l = true ∧ (⟨(enc l).toArray⟩ : ByteArray) = S) := by
    by_cases he : e = 0
    · subst he
      obtain ⟨h1, h2, h3⟩ := decode_back hd
      refine ⟨?_, fun _ => ⟨ok_okB l 0 (Int.le_refl _) h2, (of_bytes h1).symm⟩⟩
      have := encL_ge l 0
      have h4 : S.size = (enc l).length := by rw [← size_data, h1]
      unfold enc at h4; rw [List.length_append] at h4; omega
    · have := decode_nil (s := S.data.toList) (by rw [hd]; exact he)
      rw [hd] at this
      simp only at this
      subst this
      exact ⟨by simp, fun q => absurd q he⟩
  have hp : p.length ≤ 80 ∧ (h = 0 → okP p = true ∧ (⟨(encPs p).toArray⟩ : ByteArray) = S) := by
    by_cases he : h = 0
    · subst he
      obtain ⟨h1, h2, h3, h4⟩ := decodeP_back hq
      refine ⟨?_, fun _ => ⟨may_okP h2 h3, (of_bytes h1).symm⟩⟩
      have := encP_ge p
      have h4 : S.size = (encPs p).length := by rw [← size_data, h1]
      unfold encPs at h4; rw [List.length_append] at h4; omega
    · have := decodeP_nil (s := S.data.toList) (by rw [hq]; exact he)
      rw [hq] at this
      simp only at this
      subst this
      exact ⟨by simp, fun q => absurd q he⟩
  rw [hd] at cD cE
  rw [hq] at cF cG
  obtain ⟨hl1, hl2⟩ := hl
  obtain ⟨hp1, hp2⟩ := hp
  have CD := Lib.hid cD
  have CE := Lib.hid cE
  have CF := Lib.hid cF
  have CG := Lib.hid cG
  have CS := Lib.hid (fun W A2 c2 A3 c3 (k : At vInt W A2 l) (k3 : At vInt W A3 l) => (show Calls Try.prog 27 #[.slice A2 l.length c2, .slice A3 l.length c3] W fun e w' => e = .returned (.bool true) ∧ ∃ n, w' = W.drewN n by
    have := same_any l l A2 A3 c2 c3 W (by omega) (by omega) k k3; rw [same_self] at this; exact this))
  have CT := Lib.hid (fun W A2 c2 A3 c3 (k : PrR W A2 p) (k3 : PrR W A3 p) => psame_any p A2 A3 c2 c3 W (by omega) k k3)
  have cN := fun W A2 c2 (k : At vInt W A2 l) => encode_any l A2 c2 W (by omega) k
  have cQ := fun W A2 c2 (k : PrR W A2 p) => pairs_any p A2 c2 W (by omega) k
  clear cD cE cF cG hd hq
  by_cases he : e = 0
  · obtain ⟨o1, o2⟩ := hl2 he
    subst he
    rw [o1, if_pos rfl, if_pos rfl, o2] at cN
    have CN := Lib.hid cN
    by_cases hh : h = 0
    · obtain ⟨o3, o4⟩ := hp2 hh
      subst hh
      rw [o3, if_pos rfl, if_pos rfl, o4] at cQ
      have CQ := Lib.hid cQ
      clear cN cQ o1 o2 o3 o4 hl2 hp2
      go_enter Try.func5, Try.ntmps5
      go_wp2_with (first
      | (go_at_call 20; ((with_reducible refine AW.out.mono ?_); rintro e w1 ⟨rfl, hb1⟩; have B1 := Lib.hid hb1; clear hb1))
      | (go_at_call 28; ((with_reducible refine (CC.out _).mono ?_); rintro e w' ⟨rfl, rfl⟩))
      | (go_at_call 25; ((with_reducible refine (CD.out _).mono ?_); rintro e w2 ⟨v2, rfl, ⟨A2, c2, rfl, hl2⟩, hb2⟩; have B2 := Lib.hid (B1.out.trans (hb2.mono B1.out.size)); have K2 := Lib.hid hl2; clear hb2 hl2))
      | (go_at_call 29; ((with_reducible refine (CE.out _).mono ?_); rintro e w3 ⟨v3, rfl, ⟨A3, c3, rfl, hl3⟩, hb3⟩; have B3 := Lib.hid (B2.out.trans (hb3.mono B2.out.size)); have K3 := Lib.hid (K2.out.below hb3); have L3 := Lib.hid hl3; clear hb3 hl3))
      | (go_at_call 27; ((with_reducible refine (CS.out _ _ _ _ _ K3.out L3.out).mono ?_); rintro e w' ⟨rfl, n4, rfl⟩; have B4 := Lib.hid (below_drewN B3.out n4); have K4 := Lib.hid (K3.out.below (below_drewN (Below.refl _ _) n4))))
      | (go_at_call 22; ((with_reducible refine (CN.out _ _ _ K4.out).mono ?_); rintro e w5 ⟨rfl, hb5⟩; have B5 := Lib.hid (B4.out.trans (hb5.mono B4.out.size)); clear hb5))
      | (go_at_call 30; ((with_reducible refine (CF.out _).mono ?_); rintro e w6 ⟨v6, rfl, ⟨A6, c6, rfl, hl6⟩, hb6⟩; have B6 := Lib.hid (B5.out.trans (hb6.mono B5.out.size)); have K6 := Lib.hid hl6; clear hb6 hl6))
      | (go_at_call 31; ((with_reducible refine (CG.out _).mono ?_); rintro e w7 ⟨v7, rfl, ⟨A7, c7, rfl, hl7⟩, hb7⟩; have B7 := Lib.hid (B6.out.trans (hb7.mono B6.out.size)); have K7 := Lib.hid (K6.out.below hb7); have L7 := Lib.hid hl7; clear hb7 hl7))
      | (go_at_call 32; ((with_reducible refine (CT.out _ _ _ _ _ K7.out L7.out).mono ?_); rintro e w' ⟨rfl, n8, rfl⟩; have B8 := Lib.hid (below_drewN B7.out n8); have K8 := Lib.hid (K7.out.below (below_drewN (Below.refl _ _) n8))))
      | (go_at_call 33; ((with_reducible refine (CQ.out _ _ _ K8.out).mono ?_); rintro e w9 ⟨rfl, hb9⟩; have B9 := Lib.hid (B8.out.trans (hb9.mono B8.out.size)); clear hb9)))
      go_ret
      exact ⟨rfl, B9.out⟩
    · have q1 := nat_eq0 (show 0 < h by omega)
      have q2 := nat_ne0 (show 0 < h by omega)
      clear cN cQ o1 o2 hl2 hp2 hh
      go_enter Try.func5, Try.ntmps5
      go_wp2_with (first
      | (go_at_call 20; ((with_reducible refine AW.out.mono ?_); rintro e w1 ⟨rfl, hb1⟩; have B1 := Lib.hid hb1; clear hb1))
      | (go_at_call 28; ((with_reducible refine (CC.out _).mono ?_); rintro e w' ⟨rfl, rfl⟩))
      | (go_at_call 25; ((with_reducible refine (CD.out _).mono ?_); rintro e w2 ⟨v2, rfl, ⟨A2, c2, rfl, hl2⟩, hb2⟩; have B2 := Lib.hid (B1.out.trans (hb2.mono B1.out.size)); have K2 := Lib.hid hl2; clear hb2 hl2))
      | (go_at_call 29; ((with_reducible refine (CE.out _).mono ?_); rintro e w3 ⟨v3, rfl, ⟨A3, c3, rfl, hl3⟩, hb3⟩; have B3 := Lib.hid (B2.out.trans (hb3.mono B2.out.size)); have K3 := Lib.hid (K2.out.below hb3); have L3 := Lib.hid hl3; clear hb3 hl3))
      | (go_at_call 27; ((with_reducible refine (CS.out _ _ _ _ _ K3.out L3.out).mono ?_); rintro e w' ⟨rfl, n4, rfl⟩; have B4 := Lib.hid (below_drewN B3.out n4); have K4 := Lib.hid (K3.out.below (below_drewN (Below.refl _ _) n4))))
      | (go_at_call 22; ((with_reducible refine (CN.out _ _ _ K4.out).mono ?_); rintro e w5 ⟨rfl, hb5⟩; have B5 := Lib.hid (B4.out.trans (hb5.mono B4.out.size)); clear hb5))
      | (go_at_call 30; ((with_reducible refine (CF.out _).mono ?_); rintro e w6 ⟨v6, rfl, ⟨A6, c6, rfl, hl6⟩, hb6⟩; have B6 := Lib.hid (B5.out.trans (hb6.mono B5.out.size)); have K6 := Lib.hid hl6; clear hb6 hl6))
      | (go_at_call 31; ((with_reducible refine (CG.out _).mono ?_); rintro e w7 ⟨v7, rfl, ⟨A7, c7, rfl, hl7⟩, hb7⟩; have B7 := Lib.hid (B6.out.trans (hb7.mono B6.out.size)); have K7 := Lib.hid (K6.out.below hb7); have L7 := Lib.hid hl7; clear hb7 hl7))
      | (go_at_call 32; ((with_reducible refine (CT.out _ _ _ _ _ K7.out L7.out).mono ?_); rintro e w' ⟨rfl, n8, rfl⟩; have B8 := Lib.hid (below_drewN B7.out n8); have K8 := Lib.hid (K7.out.below (below_drewN (Below.refl _ _) n8)))))
      go_ret
      exact ⟨rfl, by first | exact B8.out | simpa using B8.out⟩
  · have q3 := nat_eq0 (show 0 < e by omega)
    have q4 := nat_ne0 (show 0 < e by omega)
    by_cases hh : h = 0
    · obtain ⟨o3, o4⟩ := hp2 hh
      subst hh
      rw [o3, if_pos rfl, if_pos rfl, o4] at cQ
      have CQ := Lib.hid cQ
      clear cN cQ o3 o4 hl2 hp2 he
      go_enter Try.func5, Try.ntmps5
      go_wp2_with (first
      | (go_at_call 20; ((with_reducible refine AW.out.mono ?_); rintro e w1 ⟨rfl, hb1⟩; have B1 := Lib.hid hb1; clear hb1))
      | (go_at_call 28; ((with_reducible refine (CC.out _).mono ?_); rintro e w' ⟨rfl, rfl⟩))
      | (go_at_call 25; ((with_reducible refine (CD.out _).mono ?_); rintro e w2 ⟨v2, rfl, ⟨A2, c2, rfl, hl2⟩, hb2⟩; have B2 := Lib.hid (B1.out.trans (hb2.mono B1.out.size)); have K2 := Lib.hid hl2; clear hb2 hl2))
      | (go_at_call 29; ((with_reducible refine (CE.out _).mono ?_); rintro e w3 ⟨v3, rfl, ⟨A3, c3, rfl, hl3⟩, hb3⟩; have B3 := Lib.hid (B2.out.trans (hb3.mono B2.out.size)); have K3 := Lib.hid (K2.out.below hb3); have L3 := Lib.hid hl3; clear hb3 hl3))
      | (go_at_call 27; ((with_reducible refine (CS.out _ _ _ _ _ K3.out L3.out).mono ?_); rintro e w' ⟨rfl, n4, rfl⟩; have B4 := Lib.hid (below_drewN B3.out n4); have K4 := Lib.hid (K3.out.below (below_drewN (Below.refl _ _) n4))))
      | (go_at_call 30; ((with_reducible refine (CF.out _).mono ?_); rintro e w6 ⟨v6, rfl, ⟨A6, c6, rfl, hl6⟩, hb6⟩; have B6 := Lib.hid (B4.out.trans (hb6.mono B4.out.size)); have K6 := Lib.hid hl6; clear hb6 hl6))
      | (go_at_call 31; ((with_reducible refine (CG.out _).mono ?_); rintro e w7 ⟨v7, rfl, ⟨A7, c7, rfl, hl7⟩, hb7⟩; have B7 := Lib.hid (B6.out.trans (hb7.mono B6.out.size)); have K7 := Lib.hid (K6.out.below hb7); have L7 := Lib.hid hl7; clear hb7 hl7))
      | (go_at_call 32; ((with_reducible refine (CT.out _ _ _ _ _ K7.out L7.out).mono ?_); rintro e w' ⟨rfl, n8, rfl⟩; have B8 := Lib.hid (below_drewN B7.out n8); have K8 := Lib.hid (K7.out.below (below_drewN (Below.refl _ _) n8))))
      | (go_at_call 33; ((with_reducible refine (CQ.out _ _ _ K8.out).mono ?_); rintro e w9 ⟨rfl, hb9⟩; have B9 := Lib.hid (B8.out.trans (hb9.mono B8.out.size)); clear hb9)))
      go_ret
      exact ⟨rfl, B9.out⟩
    · have q1 := nat_eq0 (show 0 < h by omega)
      have q2 := nat_ne0 (show 0 < h by omega)
      clear cN cQ hl2 hp2 hh he
      go_enter Try.func5, Try.ntmps5
      go_wp2_with (first
      | (go_at_call 20; ((with_reducible refine AW.out.mono ?_); rintro e w1 ⟨rfl, hb1⟩; have B1 := Lib.hid hb1; clear hb1))
      | (go_at_call 28; ((with_reducible refine (CC.out _).mono ?_); rintro e w' ⟨rfl, rfl⟩))
      | (go_at_call 25; ((with_reducible refine (CD.out _).mono ?_); rintro e w2 ⟨v2, rfl, ⟨A2, c2, rfl, hl2⟩, hb2⟩; have B2 := Lib.hid (B1.out.trans (hb2.mono B1.out.size)); have K2 := Lib.hid hl2; clear hb2 hl2))
      | (go_at_call 29; ((with_reducible refine (CE.out _).mono ?_); rintro e w3 ⟨v3, rfl, ⟨A3, c3, rfl, hl3⟩, hb3⟩; have B3 := Lib.hid (B2.out.trans (hb3.mono B2.out.size)); have K3 := Lib.hid (K2.out.below hb3); have L3 := Lib.hid hl3; clear hb3 hl3))
      | (go_at_call 27; ((with_reducible refine (CS.out _ _ _ _ _ K3.out L3.out).mono ?_); rintro e w' ⟨rfl, n4, rfl⟩; have B4 := Lib.hid (below_drewN B3.out n4); have K4 := Lib.hid (K3.out.below (below_drewN (Below.refl _ _) n4))))
      | (go_at_call 30; ((with_reducible refine (CF.out _).mono ?_); rintro e w6 ⟨v6, rfl, ⟨A6, c6, rfl, hl6⟩, hb6⟩; have B6 := Lib.hid (B4.out.trans (hb6.mono B4.out.size)); have K6 := Lib.hid hl6; clear hb6 hl6))
      | (go_at_call 31; ((with_reducible refine (CG.out _).mono ?_); rintro e w7 ⟨v7, rfl, ⟨A7, c7, rfl, hl7⟩, hb7⟩; have B7 := Lib.hid (B6.out.trans (hb7.mono B6.out.size)); have K7 := Lib.hid (K6.out.below hb7); have L7 := Lib.hid hl7; clear hb7 hl7))
      | (go_at_call 32; ((with_reducible refine (CT.out _ _ _ _ _ K7.out L7.out).mono ?_); rintro e w' ⟨rfl, n8, rfl⟩; have B8 := Lib.hid (below_drewN B7.out n8); have K8 := Lib.hid (K7.out.below (below_drewN (Below.refl _ _) n8)))))
      go_ret
      exact ⟨rfl, by first | exact B8.out | simpa using B8.out⟩
end Sc
end Go.Proofs.Ytedhijehmkiieaa
