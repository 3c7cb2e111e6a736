/-
  The walk of the statement VarintTexts: texts come back, in their order; a longer one than may be is told.
-/
import Derived.Test.YtedhijehmkiieaaRows
import Derived.Test.YtedhijehmkiieaaVarIn
import Derived.Test.YtedhijehmkiieaaVarLawA
namespace Go.Proofs.Ytedhijehmkiieaa
open Go.RowKit
namespace V

theorem ext_data {a b : ByteArray} (h : a.data.toList = b.data.toList) : a = b := by
  apply ByteArray.ext; exact Array.toList_inj.mp h

theorem text_back (s A : ByteArray) (t : List UInt8) (m : Nat) (hA : A.size < 18446744073709551616) (h : s.data.toList = Var.num A.size ++ (A.data.toList ++ t)) (hm : A.size ≤ m) :
    ∃ R : ByteArray, textS s 0 m = (A, R, 0) ∧ R.data.toList = t := by
  have hr : Var.hd 0 0 s.data.toList = (A.size, (Var.num A.size).length, 0) := by rw [h]; exact Var.hd_back _ hA _
  have e1 : numS s 0 m = (A.size, s.extract (Var.num A.size).length s.size, 0) := by unfold numS; rw [hr, if_pos rfl, if_pos hm]
  obtain ⟨Q, hQ⟩ : ∃ Q : ByteArray, Q = s.extract (Var.num A.size).length s.size := ⟨_, rfl⟩
  have dQ : Q.data.toList = A.data.toList ++ t := by rw [hQ, drop_data, h, List.drop_left]
  have zQ : A.size ≤ Q.size := by rw [← size_data Q, dQ, List.length_append, size_data]; omega
  refine ⟨Q.extract A.size Q.size, ?_, by rw [drop_data, dQ, ← size_data A, List.drop_left]⟩
  unfold textS
  rw [e1, ← hQ]
  show rawS Q 0 A.size = _
  unfold rawS
  rw [if_neg (by omega)]
  have : Q.extract 0 A.size = A := ext_data (by rw [take_data, dQ, ← size_data A, List.take_left])
  rw [this]

theorem text_big (s A : ByteArray) (t : List UInt8) (m : Nat) (hA : A.size < 18446744073709551616) (h : s.data.toList = Var.num A.size ++ (A.data.toList ++ t)) (hm : m < A.size) :
    textS s 0 m = (⟨#[]⟩, ⟨#[]⟩, 4) := by
  have hr : Var.hd 0 0 s.data.toList = (A.size, (Var.num A.size).length, 0) := by rw [h]; exact Var.hd_back _ hA _
  have e1 : numS s 0 m = (0, ⟨#[]⟩, 4) := by unfold numS; rw [hr, if_pos rfl, if_neg (by show ¬ A.size ≤ m; omega)]; rfl
  unfold textS
  rw [e1]
  rfl

theorem textB_inj (A B : ByteArray) (hA : A.size ≤ 1000) (hB : B.size ≤ 1000) (h : textB A ++ textB B = textB B ++ textB A) : A = B := by
  obtain ⟨R, h1, _⟩ := text_back (textB A ++ textB B) A (textB B).data.toList 1000 (by omega) (by rw [cat_data, textB_data, List.append_assoc]) hA
  obtain ⟨R2, h2, _⟩ := text_back (textB B ++ textB A) B (textB A).data.toList 1000 (by omega) (by rw [cat_data, textB_data, List.append_assoc]) hB
  rw [h, h2] at h1
  exact (Prod.mk.inj h1).1.symm

theorem ne_toList {a b : ByteArray} (h : a ≠ b) : (a.toList == b.toList) = false := by
  rw [beq_eq_false_iff_ne, Lib.toList_data, Lib.toList_data]
  intro e; exact h (ext_data e)

/-- 'Cut': at most n bytes. -/
def cutB (s : ByteArray) (n : Nat) : ByteArray := if n < s.size then s.extract 0 n else s
theorem cutB_size (s : ByteArray) (n : Nat) : (cutB s n).size ≤ n := by
  unfold cutB; split
  · simp; omega
  · omega

set_option maxHeartbeats 400000 in
theorem cut_any (s : ByteArray) (n : Nat) (w : World) (hn : n ≤ 1000) :
    Calls Try.prog 28 #[.string s, .int .i64 (n : Int)] w fun e w' => e = .returned (.string (cutB s n)) ∧ w = w' := by
  by_cases h : n < s.size
  · have HE : Hid (cutB s n = s.extract 0 n) := by unfold cutB; rw [if_pos h]; rfl
    go_enter Try.func28, Try.ntmps28
    go_wp2
    go_ret
    exact ⟨ret_str HE.out.symm, rfl⟩
  · have HE : Hid (cutB s n = s) := by unfold cutB; rw [if_neg h]; rfl
    go_enter Try.func28, Try.ntmps28
    go_wp2
    go_ret
    exact ⟨ret_str HE.out.symm, rfl⟩
theorem cut60 (s : ByteArray) (w : World) : Calls Try.prog 28 #[.string s, .int .i64 60] w fun e w' => e = .returned (.string (cutB s 60)) ∧ w = w' := cut_any s 60 w (by omega)
theorem cut200 (s : ByteArray) (w : World) : Calls Try.prog 28 #[.string s, .int .i64 200] w fun e w' => e = .returned (.string (cutB s 200)) ∧ w = w' := cut_any s 200 w (by omega)

end V
end Go.Proofs.Ytedhijehmkiieaa
