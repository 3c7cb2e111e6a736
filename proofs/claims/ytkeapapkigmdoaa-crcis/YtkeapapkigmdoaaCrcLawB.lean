/-
  The walk of the statement CrcIs: a sum in whatever parts, and with its own bytes behind it, for all texts and places.
-/
import Derived.Test.YtkeapapkigmdoaaRows
import Derived.Test.YtkeapapkigmdoaaCrcLawA
import Derived.Deep.QuietTactic
import Derived.Deep.DeepCutAuto
import Derived.BigQuiet
namespace Go.Proofs.Ytkeapapkigmdoaa
open Go.RowKit

theorem of_three (a b : ByteArray) (X : BitVec 32) (W : World) (g : Nat) (ha : a.size ≤ maxLen) (hb : b.size ≤ maxLen) (hX : Crc.on Crc.start (a.data.toList ++ b.data.toList) = X) (hg : g = W.heap.size) :
    Calls Try.prog 25 #[.slice (some ⟨g, 0, none⟩) 3 3] (W.alloc (.cells #[.string a, .string { data := #[] }, .string b] 9)) fun e w' => e = .returned (.int .u32 (X.toNat : Int)) ∧ W.alloc (.cells #[.string a, .string { data := #[] }, .string b] 9) = w' := by
  subst hg hX
  have h := of_any [a, { data := #[] }, b] W.heap.size 3 (W.alloc (.cells #[.string a, .string { data := #[] }, .string b] 9)) (by simp) (by simp [ha, hb]; decide) (fun i hi => by
    match i, hi with
    | 0, _ => rw [World.cell?_alloc_mark]; rfl
    | 1, _ => rw [World.cell?_alloc_mark]; rfl
    | 2, _ => rw [World.cell?_alloc_mark]; rfl)
  simpa [joined] using h
theorem of_two (a b : ByteArray) (X : BitVec 32) (W : World) (g : Nat) (ha : a.size ≤ maxLen) (hb : b.size ≤ maxLen) (hX : Crc.on Crc.start (a.data.toList ++ b.data.toList) = X) (hg : g = W.heap.size) :
    Calls Try.prog 25 #[.slice (some ⟨g, 0, none⟩) 2 2] (W.alloc (.cells #[.string a, .string b] 9)) fun e w' => e = .returned (.int .u32 (X.toNat : Int)) ∧ W.alloc (.cells #[.string a, .string b] 9) = w' := by
  subst hg hX
  have h := of_any [a, b] W.heap.size 2 (W.alloc (.cells #[.string a, .string b] 9)) (by simp) (by simp [ha, hb]) (fun i hi => by
    match i, hi with
    | 0, _ => rw [World.cell?_alloc_mark]; rfl
    | 1, _ => rw [World.cell?_alloc_mark]; rfl)
  simpa [joined] using h
theorem of_own (a : ByteArray) (X : BitVec 32) (W : World) (g : Nat) (ha : a.size ≤ maxLen) (hX : Crc.on Crc.start a.data.toList = X) (hg : g = W.heap.size) :
    Calls Try.prog 25 #[.slice (some ⟨g, 0, none⟩) 2 2] (W.alloc (.cells #[.string a, .string ⟨(Crc.fourOf X).toArray⟩] 9)) fun e w' => e = .returned (.int .u32 0) ∧ W.alloc (.cells #[.string a, .string ⟨(Crc.fourOf X).toArray⟩] 9) = w' := by
  have h := of_two a ⟨(Crc.fourOf X).toArray⟩ 0#32 W g ha (by show 4 ≤ maxLen; decide) (by rw [Crc.on_append, hX]; exact Crc.on_own X) hg
  exact h

theorem of_parts (S : ByteArray) (K : Nat) (_hK : K ≤ S.size) : (S.extract 0 K).data.toList ++ (S.extract K S.size).data.toList = S.data.toList := by
  rw [ByteArray.data_extract, ByteArray.data_extract, Array.toList_extract, Array.toList_extract]
  simp only [List.extract, List.drop_zero, Nat.sub_zero]
  rw [List.take_of_length_le (l := S.data.toList.drop K) (by rw [List.length_drop, Array.length_toList]; exact Nat.le_refl _)]
  exact List.take_append_drop K _

set_option maxHeartbeats 1000000 in
theorem crcIs_walk (s : ByteArray) (cut : Int) (w : World) (hs : s.size ≤ maxLen) (hc : -9223372036854775808 ≤ cut ∧ cut ≤ 9223372036854775807) :
    Calls Try.prog 6 #[.string s, .int .i64 cut] w fun e w' => e = .returned (.bool true) ∧ Below w.heap.size w w' := by
  have hA := cutB_size s 200
  have CA := Lib.hid (fun w => cut200 s w hs)
  clear hs
  generalize cutB s 200 = S at *
  have hA' : S.size ≤ maxLen := by unfold maxLen; omega
  go_enter Try.func6, Try.ntmps6
  go_upto_region 4 with (first
    | (go_at_call 24; refine (awake_any _).mono ?_; rintro e w1 ⟨rfl, hw1⟩)
    | (go_at_call 15; ((with_reducible refine (CA.out _).mono ?_); rintro e w' ⟨rfl, rfl⟩)))
  go_cut [5] (fun s5 w => ∃ K : Nat, K ≤ S.size ∧ s5 = .int .i64 (K : Int) ∧ w = w1)
  case first =>
    go_wp2
    · go_meet
      case rel => exact ⟨S.size, by omega, rfl, rfl⟩
    · go_meet
      case rel => exact ⟨cut.toNat, by omega, by go_num, rfl⟩
    · go_meet
      case rel => exact ⟨0, by omega, by go_num, rfl⟩
    · go_meet
      case rel => exact ⟨0, by omega, by go_num, rfl⟩
  case rest =>
    obtain ⟨K, hK, rfl, rfl⟩ := hcut
    have HP := Lib.hid (of_parts S K hK)
    have hSa : (S.extract 0 K).size ≤ maxLen := by unfold maxLen; simp; omega
    have hSb : (S.extract K S.size).size ≤ maxLen := by unfold maxLen; simp; omega
    go_wp2
    go_quiet (fail)
    go_wp2_with fail
    generalize S.extract 0 K = A at *
    generalize S.extract K S.size = B at *
    have HX := Lib.hid (show ∃ X, Crc.on Crc.start S.data.toList = X from ⟨_, rfl⟩)
    obtain ⟨X, hX⟩ := HX.out
    have hP := HP.out
    have H3 : Hid (Crc.on Crc.start (A.data.toList ++ B.data.toList) = X) := by rw [hP]; exact hX
    have H2 : Hid (Crc.on (Crc.on Crc.start A.data.toList) B.data.toList = X) := by rw [← Crc.on_append, hP]; exact hX
    have H1 : Hid (Crc.on Crc.start S.data.toList = X) := hX
    clear hX hP HP HX
    have c1 := fun W g hg => of_one S W g hA' hg
    have c2 := fun W => refOf_any S W hA'
    rw [H1.out] at c1 c2
    have C1 := Lib.hid c1
    have C2 := Lib.hid c2
    have C3 := Lib.hid (fun W g hg => of_three A B X W g hSa hSb H3.out hg)
    have C4 := Lib.hid (fun W g hg => of_one A W g hSa hg)
    have c5 := fun W => on_any (Crc.on Crc.start A.data.toList) B W hSb
    rw [H2.out] at c5
    have C5 := Lib.hid c5
    have C6 := Lib.hid (fun W g hg => of_own S X W g hA' H1.out hg)
    clear c1 c2 c5 H1 H2 H3
    go_wp2_with (first
      | (go_at_call 25; first
          | ((with_reducible refine (C1.out _ _ ?_).mono ?_); (· simp); rintro e w' ⟨rfl, rfl⟩)
          | ((with_reducible refine (C3.out _ _ ?_).mono ?_); (· simp); rintro e w' ⟨rfl, rfl⟩)
          | ((with_reducible refine (C4.out _ _ ?_).mono ?_); (· simp); rintro e w' ⟨rfl, rfl⟩)
          | ((with_reducible refine (C6.out _ _ ?_).mono ?_); (· simp); rintro e w' ⟨rfl, rfl⟩))
      | (go_at_call 26; ((with_reducible refine (C2.out _).mono ?_); rintro e w' ⟨rfl, rfl⟩))
      | (go_at_call 27; ((with_reducible refine (C5.out _).mono ?_); rintro e w' ⟨rfl, rfl⟩))
      | (go_at_call 28; ((with_reducible refine (four_any X _).mono ?_); rintro e w4 ⟨rfl, hb4⟩))
      | (go_at_call 29; ((with_reducible refine (fourRef_any X _).mono ?_); rintro e w5 ⟨rfl, hb5⟩)))
    rename_i w4a hb4a
    have e1 := hw1.size
    have a0 : Below w.heap.size w (wc.drewN nq) := ⟨hw1.os, hw1.tape, hw1.output, hw1.size, hw1.block⟩
    have a1 := (((a0.alloc e1 (Obj.cells #[Value.string S] 9)).alloc (by simp; omega) (Obj.cells #[Value.string A, Value.string { data := #[] }, Value.string B] 9)).alloc (by simp; omega) (Obj.cells #[Value.string A] 9)).trans (hb4a.mono (by simp; omega))
    have a2 := a1.trans (hb5.mono a1.size)
    have a3 := a2.trans (hb4.mono a2.size)
    go_ret
    exact ⟨rfl, a3.alloc a3.size _⟩
end Go.Proofs.Ytkeapapkigmdoaa
