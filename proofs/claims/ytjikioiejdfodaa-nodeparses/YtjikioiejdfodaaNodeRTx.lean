/-
  What the document's own 'text' of layer 9 does: a text at the head of bytes.
-/
import Derived.Test.YtjikioiejdfodaaNodeMath
import Derived.Test.YtjikioiejdfodaaVarHead
namespace Go.Proofs.Ytjikioiejdfodaa
open Go.RowKit
namespace Nod
open B V
def rt (s : ByteArray) (m : Nat) : ByteArray × ByteArray × Nat := if (textS s 0 m).2.2 = 0 then textS s 0 m else (⟨#[]⟩, ⟨#[]⟩, (textS s 0 m).2.2)
theorem rt_ok {s A R : ByteArray} {m : Nat} (h : textS s 0 m = (A, R, 0)) : rt s m = (A, R, 0) := by unfold rt; rw [h, if_pos rfl]
theorem rt_err {s : ByteArray} {m f : Nat} (h : (textS s 0 m).2.2 = f) (hf : f ≠ 0) : rt s m = (⟨#[]⟩, ⟨#[]⟩, f) := by unfold rt; rw [h, if_neg hf]
theorem rt_e (s : ByteArray) (m : Nat) : (rt s m).2.2 = (textS s 0 m).2.2 := by
  unfold rt
  split
  · rfl
  · rfl
theorem textS_of {s : ByteArray} {m x e : Nat} {R : ByteArray} (h : numS s 0 m = (x, R, e)) : textS s 0 m = rawS R e x := by unfold textS; rw [h]
theorem raw_ok {s : ByteArray} {x n : Nat} (hn : n ≤ s.size) (hx : x ≤ s.size - n) : rawS (s.extract n s.size) 0 x = (s.extract n (n + x), s.extract (n + x) s.size, 0) := by
  have hsz : (s.extract n s.size).size = s.size - n := by rw [ByteArray.size_extract]; omega
  unfold rawS
  rw [if_neg (by omega)]
  refine Prod.ext (B.ext_data ?_) (Prod.ext (B.ext_data ?_) rfl)
  · show ((s.extract n s.size).extract 0 x).data.toList = (s.extract n (n + x)).data.toList
    rw [B.take_data, B.drop_data, ByteArray.data_extract, Array.toList_extract]
    simp [List.extract]
  · show ((s.extract n s.size).extract x (s.extract n s.size).size).data.toList = (s.extract (n + x) s.size).data.toList
    rw [B.drop_data, B.drop_data, B.drop_data, List.drop_drop]
set_option maxRecDepth 100000 in
set_option maxHeartbeats 4000000 in
theorem rtext_any (s : ByteArray) (m : Nat) (mi : Int) (w : World) (hmi : mi = (m : Int)) (hs : s.size ≤ 2000) (hm : m ≤ 1000) :
    Calls Try.prog 74 #[.string s, .int .i64 mi] w fun e w' => e = .returned (.tuple #[.string (rt s m).1, .string (rt s m).2.1, .int .i64 ((rt s m).2.2 : Int)]) ∧ ∃ n, w' = w.drewN n := by
  subst hmi
  obtain ⟨x, n, f, hr⟩ : ∃ x n f, Var.hd 0 0 s.data.toList = (x, n, f) := ⟨_, _, _, rfl⟩
  have CH := Lib.hid (head_any s w (by unfold maxLen; omega))
  rw [hr] at CH
  unfold tri at CH
  simp only at CH
  have hwm : IntKind.u64.wrap (m : Int) = (m : Int) := IntWalk.u64_in _ (by omega)
  by_cases hf : f = 0
  · subst hf
    obtain ⟨t, e1, e2⟩ := hd_inv0 hr
    have hn : n ≤ s.size := by rw [← B.size_data, e1, List.length_append]; omega
    by_cases hx : x ≤ m
    · have e3 : numS s 0 m = (x, s.extract n s.size, 0) := by unfold numS; rw [hr, if_pos rfl, if_pos hx]
      have hwx : IntKind.i64.wrap (x : Int) = (x : Int) := IntWalk.i64_in _ (by omega)
      have hxI : ¬ (x : Int) > (m : Int) := by omega
      by_cases hq : x ≤ s.size - n
      · have hrt := rt_ok ((textS_of e3).trans (raw_ok hn hq))
        rw [hrt]
        have hqI : ¬ (x : Int) > (s.size : Int) - (n : Int) := by omega
        have hI1 : (n : Int) + (x : Int) ≤ (s.size : Int) := by omega
        have hI2 : (n : Int) ≤ (s.size : Int) := by omega
        have hI3 : (n : Int) ≤ (n : Int) + (x : Int) := by omega
        have hI4 : (0 : Int) ≤ (n : Int) + (x : Int) := by omega
        have hT1 : ((n : Int) + (x : Int)).toNat = n + x := by omega
        clear hr e1 e2 e3 hrt
        go_enter Try.func74, Try.ntmps74
        go_upto_region 8 with (go_at_call 73; ((with_reducible refine CH.out.mono ?_); rintro e w' ⟨rfl, rfl⟩))
        go_quiet (fail)
        go_wp2
        go_ret3
        exact ⟨rfl, _, rfl⟩
      · have hz : (s.extract n s.size).size = s.size - n := by rw [ByteArray.size_extract]; omega
        have e4 : (textS s 0 m).2.2 = 2 := by rw [textS_of e3]; unfold rawS; rw [if_pos (by omega)]; unfold failS; rw [if_neg (by omega)]
        rw [rt_err e4 (by omega)]
        have hqI : (x : Int) > (s.size : Int) - (n : Int) := by omega
        clear hr e1 e2 e3 e4 hz
        go_enter Try.func74, Try.ntmps74
        go_wp2_with (go_at_call 73; ((with_reducible refine CH.out.mono ?_); rintro e w' ⟨rfl, rfl⟩))
        go_ret3
        exact ⟨rfl, 0, rfl⟩
    · have e3 : numS s 0 m = (0, ⟨#[]⟩, 4) := by unfold numS; rw [hr, if_pos rfl, if_neg hx]; unfold failS; rw [if_neg (by omega)]
      have e4 : (textS s 0 m).2.2 = 4 := by rw [textS_of e3]; rfl
      rw [rt_err e4 (by omega)]
      have hxI : (x : Int) > (m : Int) := by omega
      clear hr e1 e2 e3 e4
      go_enter Try.func74, Try.ntmps74
      go_wp2_with (go_at_call 73; ((with_reducible refine CH.out.mono ?_); rintro e w' ⟨rfl, rfl⟩))
      go_ret3
      exact ⟨rfl, 0, rfl⟩
  · have e3 : numS s 0 m = (0, ⟨#[]⟩, f) := by unfold numS; rw [hr, if_neg hf]; unfold failS; rw [if_neg (by simp only [ne_eq, not_true, or_false]; exact hf)]
    have e4 : (textS s 0 m).2.2 = f := by rw [textS_of e3]; rfl
    rw [rt_err e4 hf]
    have hfI : ((f : Int) == 0) = false := by rw [beq_eq_false_iff_ne]; omega
    clear hr e3 e4
    go_enter Try.func74, Try.ntmps74
    go_wp2_with (go_at_call 73; ((with_reducible refine CH.out.mono ?_); rintro e w' ⟨rfl, rfl⟩))
    go_ret3
    exact ⟨rfl, 0, rfl⟩
end Nod
end Go.Proofs.Ytjikioiejdfodaa
