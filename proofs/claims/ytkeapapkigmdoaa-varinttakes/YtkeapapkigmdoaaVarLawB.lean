/-
  The walk of the statement VarintTexts: texts come back, in their order; a longer one than may be is told.
-/
import Derived.Test.YtkeapapkigmdoaaRows
import Derived.Test.YtkeapapkigmdoaaVarIn
import Derived.Test.YtkeapapkigmdoaaVarLawA
namespace Go.Proofs.Ytkeapapkigmdoaa
open Go.RowKit
namespace V

theorem ext_data {a b : ByteArray} (h : a.data.toList = b.data.toList) : a = b := by
  apply ByteArray.ext; exact Array.toList_inj.mp h

theorem text_back (s A : ByteArray) (t : List UInt8) (m : Nat) (hA : A.size < 18446744073709551616) (h : s.data.toList = Var.num A.size ++ (A.data.toList ++ t)) (hm : A.size ≤ m) :
    ∃ R : ByteArray, textS s 0 m = (A, R, 0) ∧ R.data.toList = t := by
  have hr : Var.hd 0 0 s.data.toList = (A.size, (Var.num A.size).length, 0) := by rw [h]; exact Var.hd_back _ hA _
  have e1 : numS s 0 m = (A.size, s.extract (Var.num A.size).length s.size, 0) := by unfold numS; rw [hr, if_pos rfl, if_pos hm]
  obtain ⟨Q, hQ⟩ : ∃ Q : ByteArray, Q = s.extract (Var.num A.size).length s.size := ⟨_, rfl⟩
  have dQ : Q.data.toList = A.data.toList ++ t := by rw [hQ, drop_data, h, List.drop_left]
  have zQ : A.size ≤ Q.size := by rw [← size_data Q, dQ, List.length_append, size_data]; omega
  refine ⟨Q.extract A.size Q.size, ?_, by rw [drop_data, dQ, ← size_data A, List.drop_left]⟩
  unfold textS
  rw [e1, ← hQ]
  show rawS Q 0 A.size = _
  unfold rawS
  rw [if_neg (by omega)]
  have : Q.extract 0 A.size = A := ext_data (by rw [take_data, dQ, ← size_data A, List.take_left])
  rw [this]

theorem text_big (s A : ByteArray) (t : List UInt8) (m : Nat) (hA : A.size < 18446744073709551616) (h : s.data.toList = Var.num A.size ++ (A.data.toList ++ t)) (hm : m < A.size) :
    textS s 0 m = (⟨#[]⟩, ⟨#[]⟩, 4) := by
  have hr : Var.hd 0 0 s.data.toList = (A.size, (Var.num A.size).length, 0) := by rw [h]; exact Var.hd_back _ hA _
  have e1 : numS s 0 m = (0, ⟨#[]⟩, 4) := by unfold numS; rw [hr, if_pos rfl, if_neg (by show ¬ A.size ≤ m; omega)]; rfl
  unfold textS
  rw [e1]
  rfl

theorem textB_inj (A B : ByteArray) (hA : A.size ≤ 1000) (hB : B.size ≤ 1000) (h : textB A ++ textB B = textB B ++ textB A) : A = B := by
  obtain ⟨R, h1, _⟩ := text_back (textB A ++ textB B) A (textB B).data.toList 1000 (by omega) (by rw [cat_data, textB_data, List.append_assoc]) hA
  obtain ⟨R2, h2, _⟩ := text_back (textB B ++ textB A) B (textB A).data.toList 1000 (by omega) (by rw [cat_data, textB_data, List.append_assoc]) hB
  rw [h, h2] at h1
  exact (Prod.mk.inj h1).1.symm

theorem ne_toList {a b : ByteArray} (h : a ≠ b) : (a.toList == b.toList) = false := by
  rw [beq_eq_false_iff_ne, Lib.toList_data, Lib.toList_data]
  intro e; exact h (ext_data e)

/-- 'Cut': at most n bytes. -/
def cutB (s : ByteArray) (n : Nat) : ByteArray := if n < s.size then s.extract 0 n else s
theorem cutB_size (s : ByteArray) (n : Nat) : (cutB s n).size ≤ n := by
  unfold cutB; split
  · simp; omega
  · omega

set_option maxHeartbeats 400000 in
theorem cut_any (s : ByteArray) (n : Nat) (w : World) (hn : n ≤ 1000) :
    Calls Try.prog 15 #[.string s, .int .i64 (n : Int)] w fun e w' => e = .returned (.string (cutB s n)) ∧ w = w' := by
  by_cases h : n < s.size
  · have HE : Hid (cutB s n = s.extract 0 n) := by unfold cutB; rw [if_pos h]; rfl
    go_enter Try.func15, Try.ntmps15
    go_wp2
    go_ret
    exact ⟨ret_str HE.out.symm, rfl⟩
  · have HE : Hid (cutB s n = s) := by unfold cutB; rw [if_neg h]; rfl
    go_enter Try.func15, Try.ntmps15
    go_wp2
    go_ret
    exact ⟨ret_str HE.out.symm, rfl⟩
theorem cut60 (s : ByteArray) (w : World) : Calls Try.prog 15 #[.string s, .int .i64 60] w fun e w' => e = .returned (.string (cutB s 60)) ∧ w = w' := cut_any s 60 w (by omega)
theorem cut200 (s : ByteArray) (w : World) : Calls Try.prog 15 #[.string s, .int .i64 200] w fun e w' => e = .returned (.string (cutB s 200)) ∧ w = w' := cut_any s 200 w (by omega)

theorem text200 (g : Nat) (s A R : ByteArray) (w : World) (h : InAt w g s 0) (hs : s.size ≤ maxLen) (hr : textS s 0 200 = (A, R, 0)) :
    Calls Try.prog 17 #[.pointer (some ⟨g, 0, none⟩), .int .i64 200] w fun r w' => r = .returned (.string A) ∧ InAt w' g R 0 ∧ w.grownBy w' (some g) := by
  have h1 := in_text g s 0 200 w h hs (by omega)
  have e1 : textS s 0 (200 : Int).toNat = (A, R, 0) := hr
  rw [e1] at h1; exact h1
theorem text_at (g : Nat) (s A R : ByteArray) (e : Nat) (m : Int) (w : World) (h : InAt w g s 0) (hs : s.size ≤ maxLen) (hm : -9223372036854775808 ≤ m ∧ m ≤ 9223372036854775807) (hr : textS s 0 m.toNat = (A, R, e)) :
    Calls Try.prog 17 #[.pointer (some ⟨g, 0, none⟩), .int .i64 m] w fun r w' => r = .returned (.string A) ∧ InAt w' g R e ∧ w.grownBy w' (some g) := by
  have h1 := in_text g s 0 m w h hs hm
  rw [hr] at h1; exact h1

set_option maxRecDepth 100000 in
set_option maxHeartbeats 1000000 in
theorem varintTexts_walk (a b : ByteArray) (m : Int) (w : World) (hm : -9223372036854775808 ≤ m ∧ m ≤ 9223372036854775807) :
    Calls Try.prog 5 #[.string a, .string b, .int .i64 m] w fun e w' => e = .returned (.bool true) ∧ Below w.heap.size w w' := by
  have hA := cutB_size a 200
  have hB := cutB_size b 200
  have CA := Lib.hid (cut200 a)
  have CB := Lib.hid (cut200 b)
  generalize cutB a 200 = A at *
  generalize cutB b 200 = B at *
  have TA := Lib.hid (fun W => text_any A W (by omega))
  have TB := Lib.hid (fun W => text_any B W (by omega))
  have TR := Lib.hid (fun W => refText_any A W (by omega))
  have zA : (textB A).size ≤ 1000 := by rw [← size_data, textB_data, List.length_append, size_data]; have := Var.num_ten A.size (by omega); omega
  have zB : (textB B).size ≤ 1000 := by rw [← size_data, textB_data, List.length_append, size_data]; have := Var.num_ten B.size (by omega); omega
  obtain ⟨R1, h1, d1⟩ := text_back (textB A ++ textB B) A (textB B).data.toList 200 (by omega) (by rw [cat_data, textB_data, List.append_assoc]) hA
  obtain ⟨R2, h2, d2⟩ := text_back R1 B [] 200 (by omega) (by rw [d1, textB_data, List.append_nil]) hB
  have zR1 : R1.size ≤ 1000 := by rw [← size_data, d1, size_data]; exact zB
  have zR2 : R2.size = 0 := by rw [← size_data, d2]; rfl
  have X1 := Lib.hid (fun g W h => text200 g (textB A ++ textB B) A R1 W h (by rw [cat_size]; unfold maxLen; omega) h1)
  have X2 := Lib.hid (fun g W h => text200 g R1 B R2 W h (by unfold maxLen; omega) h2)
  have hE : endS R2 0 = 0 := by unfold endS; rw [if_neg (by omega)]
  have c3 := fun g W h => in_end g R2 0 W h
  rw [hE] at c3
  have XE := Lib.hid c3
  have HI2 := Lib.hid (textB_inj A B (by omega) (by omega))
  obtain ⟨Z, R3, f, h3⟩ : ∃ Z R3 f, textS (textB A) 0 m.toNat = (Z, R3, f) := ⟨_, _, _, rfl⟩
  have X3 := Lib.hid (fun g W h => text_at g (textB A) Z R3 f m W h (by unfold maxLen; omega) hm h3)
  have HZ : Hid (if m.toNat < A.size then Z = ⟨#[]⟩ ∧ f = 4 else Z = A ∧ f = 0) := by
    show if m.toNat < A.size then Z = ⟨#[]⟩ ∧ f = 4 else Z = A ∧ f = 0
    have dA : (textB A).data.toList = Var.num A.size ++ (A.data.toList ++ []) := by rw [textB_data, List.append_nil]
    by_cases hb : m.toNat < A.size
    · rw [if_pos hb]
      rw [text_big (textB A) A [] m.toNat (by omega) dA hb] at h3
      simp only [Prod.mk.injEq] at h3
      exact ⟨h3.1.symm, h3.2.2.symm⟩
    · rw [if_neg hb]
      obtain ⟨R, h4, _⟩ := text_back (textB A) A [] m.toNat (by omega) dA (by omega)
      rw [h4] at h3
      simp only [Prod.mk.injEq] at h3
      exact ⟨h3.1.symm, h3.2.2.symm⟩
  have acc := Below.refl w.heap.size w
  have HSB := Lib.hid (show A = B → textB A = textB B from fun h => by rw [h])
  generalize textB A = SA at *
  generalize textB B = SB at *
  clear h1 h2 h3 d1 d2 zR1 zR2 hE c3
  by_cases hab : A = B
  · have hsb := HSB.out hab
    subst hab
    subst hsb
    clear HI2 HSB
    by_cases hb : m.toNat < A.size
    · have hz := HZ.out
      rw [if_pos hb] at hz
      obtain ⟨rfl, rfl⟩ := hz
      clear HZ
      go_enter Try.func5, Try.ntmps5
      go_wp2_with (first
        | (go_at_call 9; ((with_reducible refine (awake1_any _).mono ?_); rintro e w1 ⟨rfl, hb1⟩; replace acc := acc.trans (hb1.mono acc.size); clear hb1))
        | (go_at_call 15; first | ((with_reducible refine (CA.out _).mono ?_); rintro e w' ⟨rfl, rfl⟩) | ((with_reducible refine (CB.out _).mono ?_); rintro e w' ⟨rfl, rfl⟩))
        | (go_at_call 22; first | ((with_reducible refine (TA.out _).mono ?_); rintro e w2 ⟨rfl, hb2⟩; replace acc := acc.trans (hb2.mono acc.size); clear hb2) | ((with_reducible refine (TB.out _).mono ?_); rintro e w3 ⟨rfl, hb3⟩; replace acc := acc.trans (hb3.mono acc.size); clear hb3))
        | (go_at_call 23; ((with_reducible refine (TR.out _).mono ?_); rintro e w7 ⟨rfl, hb7⟩; replace acc := acc.trans (hb7.mono acc.size); clear hb7))
        | (go_at_call 11; ((with_reducible refine (of_new _ _).mono ?_); rintro e w4 ⟨rfl, hi4, hb4, hz4⟩; have base := acc.size; replace acc := acc.trans (hb4.mono acc.size); clear hb4 hz4; have HI := Lib.hid hi4; clear hi4))
        | (go_at_call 17; first | ((with_reducible refine (X1.out _ _ HI.out).mono ?_); rintro e w5 ⟨rfl, hi5, hg5⟩; replace acc := acc.trans (grown_below hg5 base acc.size); clear hg5 HI; have HI := Lib.hid hi5; clear hi5) | ((with_reducible refine (X2.out _ _ HI.out).mono ?_); rintro e w5 ⟨rfl, hi5, hg5⟩; replace acc := acc.trans (grown_below hg5 base acc.size); clear hg5 HI; have HI := Lib.hid hi5; clear hi5) | ((with_reducible refine (X3.out _ _ HI.out).mono ?_); rintro e w5 ⟨rfl, hi5, hg5⟩; replace acc := acc.trans (grown_below hg5 base acc.size); clear hg5 HI; have HI := Lib.hid hi5; clear hi5))
        | (go_at_call 14; ((with_reducible refine (XE.out _ _ HI.out).mono ?_); rintro e w8 ⟨rfl, rfl⟩; clear HI))
        | (go_at_call 20; ((with_reducible refine (in_err _ _ _ _ HI.out).mono ?_); rintro e w8 ⟨rfl, rfl⟩; clear HI)))
      all_goals go_ret
      all_goals exact ⟨rfl, acc⟩
    · have hz := HZ.out
      rw [if_neg hb] at hz
      obtain ⟨rfl, rfl⟩ := hz
      clear HZ
      go_enter Try.func5, Try.ntmps5
      go_wp2_with (first
        | (go_at_call 9; ((with_reducible refine (awake1_any _).mono ?_); rintro e w1 ⟨rfl, hb1⟩; replace acc := acc.trans (hb1.mono acc.size); clear hb1))
        | (go_at_call 15; first | ((with_reducible refine (CA.out _).mono ?_); rintro e w' ⟨rfl, rfl⟩) | ((with_reducible refine (CB.out _).mono ?_); rintro e w' ⟨rfl, rfl⟩))
        | (go_at_call 22; first | ((with_reducible refine (TA.out _).mono ?_); rintro e w2 ⟨rfl, hb2⟩; replace acc := acc.trans (hb2.mono acc.size); clear hb2) | ((with_reducible refine (TB.out _).mono ?_); rintro e w3 ⟨rfl, hb3⟩; replace acc := acc.trans (hb3.mono acc.size); clear hb3))
        | (go_at_call 23; ((with_reducible refine (TR.out _).mono ?_); rintro e w7 ⟨rfl, hb7⟩; replace acc := acc.trans (hb7.mono acc.size); clear hb7))
        | (go_at_call 11; ((with_reducible refine (of_new _ _).mono ?_); rintro e w4 ⟨rfl, hi4, hb4, hz4⟩; have base := acc.size; replace acc := acc.trans (hb4.mono acc.size); clear hb4 hz4; have HI := Lib.hid hi4; clear hi4))
        | (go_at_call 17; first | ((with_reducible refine (X1.out _ _ HI.out).mono ?_); rintro e w5 ⟨rfl, hi5, hg5⟩; replace acc := acc.trans (grown_below hg5 base acc.size); clear hg5 HI; have HI := Lib.hid hi5; clear hi5) | ((with_reducible refine (X2.out _ _ HI.out).mono ?_); rintro e w5 ⟨rfl, hi5, hg5⟩; replace acc := acc.trans (grown_below hg5 base acc.size); clear hg5 HI; have HI := Lib.hid hi5; clear hi5) | ((with_reducible refine (X3.out _ _ HI.out).mono ?_); rintro e w5 ⟨rfl, hi5, hg5⟩; replace acc := acc.trans (grown_below hg5 base acc.size); clear hg5 HI; have HI := Lib.hid hi5; clear hi5))
        | (go_at_call 14; ((with_reducible refine (XE.out _ _ HI.out).mono ?_); rintro e w8 ⟨rfl, rfl⟩; clear HI))
        | (go_at_call 20; ((with_reducible refine (in_err _ _ _ _ HI.out).mono ?_); rintro e w8 ⟨rfl, rfl⟩; clear HI)))
      all_goals go_ret
      all_goals exact ⟨rfl, acc⟩
  · have e1 := ne_toList hab
    have e2 : ((SA ++ SB).toList == (SB ++ SA).toList) = false := ne_toList (fun h => hab (HI2.out h))
    clear HI2 hab HSB
    by_cases hb : m.toNat < A.size
    · have hz := HZ.out
      rw [if_pos hb] at hz
      obtain ⟨rfl, rfl⟩ := hz
      clear HZ
      go_enter Try.func5, Try.ntmps5
      go_wp2_with (first
        | (go_at_call 9; ((with_reducible refine (awake1_any _).mono ?_); rintro e w1 ⟨rfl, hb1⟩; replace acc := acc.trans (hb1.mono acc.size); clear hb1))
        | (go_at_call 15; first | ((with_reducible refine (CA.out _).mono ?_); rintro e w' ⟨rfl, rfl⟩) | ((with_reducible refine (CB.out _).mono ?_); rintro e w' ⟨rfl, rfl⟩))
        | (go_at_call 22; first | ((with_reducible refine (TA.out _).mono ?_); rintro e w2 ⟨rfl, hb2⟩; replace acc := acc.trans (hb2.mono acc.size); clear hb2) | ((with_reducible refine (TB.out _).mono ?_); rintro e w3 ⟨rfl, hb3⟩; replace acc := acc.trans (hb3.mono acc.size); clear hb3))
        | (go_at_call 23; ((with_reducible refine (TR.out _).mono ?_); rintro e w7 ⟨rfl, hb7⟩; replace acc := acc.trans (hb7.mono acc.size); clear hb7))
        | (go_at_call 11; ((with_reducible refine (of_new _ _).mono ?_); rintro e w4 ⟨rfl, hi4, hb4, hz4⟩; have base := acc.size; replace acc := acc.trans (hb4.mono acc.size); clear hb4 hz4; have HI := Lib.hid hi4; clear hi4))
        | (go_at_call 17; first | ((with_reducible refine (X1.out _ _ HI.out).mono ?_); rintro e w5 ⟨rfl, hi5, hg5⟩; replace acc := acc.trans (grown_below hg5 base acc.size); clear hg5 HI; have HI := Lib.hid hi5; clear hi5) | ((with_reducible refine (X2.out _ _ HI.out).mono ?_); rintro e w5 ⟨rfl, hi5, hg5⟩; replace acc := acc.trans (grown_below hg5 base acc.size); clear hg5 HI; have HI := Lib.hid hi5; clear hi5) | ((with_reducible refine (X3.out _ _ HI.out).mono ?_); rintro e w5 ⟨rfl, hi5, hg5⟩; replace acc := acc.trans (grown_below hg5 base acc.size); clear hg5 HI; have HI := Lib.hid hi5; clear hi5))
        | (go_at_call 14; ((with_reducible refine (XE.out _ _ HI.out).mono ?_); rintro e w8 ⟨rfl, rfl⟩; clear HI))
        | (go_at_call 20; ((with_reducible refine (in_err _ _ _ _ HI.out).mono ?_); rintro e w8 ⟨rfl, rfl⟩; clear HI)))
      all_goals go_ret
      all_goals exact ⟨rfl, acc⟩
    · have hz := HZ.out
      rw [if_neg hb] at hz
      obtain ⟨rfl, rfl⟩ := hz
      clear HZ
      go_enter Try.func5, Try.ntmps5
      go_wp2_with (first
        | (go_at_call 9; ((with_reducible refine (awake1_any _).mono ?_); rintro e w1 ⟨rfl, hb1⟩; replace acc := acc.trans (hb1.mono acc.size); clear hb1))
        | (go_at_call 15; first | ((with_reducible refine (CA.out _).mono ?_); rintro e w' ⟨rfl, rfl⟩) | ((with_reducible refine (CB.out _).mono ?_); rintro e w' ⟨rfl, rfl⟩))
        | (go_at_call 22; first | ((with_reducible refine (TA.out _).mono ?_); rintro e w2 ⟨rfl, hb2⟩; replace acc := acc.trans (hb2.mono acc.size); clear hb2) | ((with_reducible refine (TB.out _).mono ?_); rintro e w3 ⟨rfl, hb3⟩; replace acc := acc.trans (hb3.mono acc.size); clear hb3))
        | (go_at_call 23; ((with_reducible refine (TR.out _).mono ?_); rintro e w7 ⟨rfl, hb7⟩; replace acc := acc.trans (hb7.mono acc.size); clear hb7))
        | (go_at_call 11; ((with_reducible refine (of_new _ _).mono ?_); rintro e w4 ⟨rfl, hi4, hb4, hz4⟩; have base := acc.size; replace acc := acc.trans (hb4.mono acc.size); clear hb4 hz4; have HI := Lib.hid hi4; clear hi4))
        | (go_at_call 17; first | ((with_reducible refine (X1.out _ _ HI.out).mono ?_); rintro e w5 ⟨rfl, hi5, hg5⟩; replace acc := acc.trans (grown_below hg5 base acc.size); clear hg5 HI; have HI := Lib.hid hi5; clear hi5) | ((with_reducible refine (X2.out _ _ HI.out).mono ?_); rintro e w5 ⟨rfl, hi5, hg5⟩; replace acc := acc.trans (grown_below hg5 base acc.size); clear hg5 HI; have HI := Lib.hid hi5; clear hi5) | ((with_reducible refine (X3.out _ _ HI.out).mono ?_); rintro e w5 ⟨rfl, hi5, hg5⟩; replace acc := acc.trans (grown_below hg5 base acc.size); clear hg5 HI; have HI := Lib.hid hi5; clear hi5))
        | (go_at_call 14; ((with_reducible refine (XE.out _ _ HI.out).mono ?_); rintro e w8 ⟨rfl, rfl⟩; clear HI))
        | (go_at_call 20; ((with_reducible refine (in_err _ _ _ _ HI.out).mono ?_); rintro e w8 ⟨rfl, rfl⟩; clear HI)))
      all_goals go_ret
      all_goals exact ⟨rfl, acc⟩
end V
end Go.Proofs.Ytkeapapkigmdoaa
