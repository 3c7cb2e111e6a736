/-
  What the document's own answers for layer 3 (dowserref03) do: Not, Bits, minus, Less, Compare, Key, by the bits of the numbers.
-/
import Derived.Test.YtkbchpbdpkbnjaaProg
import Derived.Test.YtkbchpbdpkbnjaaHeatMath
import Derived.WalkKit
import Derived.WalkSpells
import Derived.WalkLawsBesides
import Derived.Lib.Hide
import Derived.Deep.DeepCutAuto
namespace Go.Proofs.Ytkbchpbdpkbnjaa
open Go.RowKit
namespace H

theorem ret_bool {a b : Bool} (h : a = b) : Ending.returned (.bool a) = .returned (.bool b) := by rw [h]
theorem ret_int {k : IntKind} {a b : Int} (h : a = b) : Ending.returned (.int k a) = .returned (.int k b) := by rw [h]

theorem bits_run (b : Nat) (w : World) : (callFunc 19 #[.float .f64 b]).run Try.prog w = .ok (.value (.int .u64 (b : Int))) w := by
  rw [run_callFunc_extern Try.func19 (by kernel_rfl) (by kernel_rfl) (by kernel_rfl) (e := Extern.MathFloatBits.float64bits) (by kernel_rfl)]; rfl
theorem from_run (b : Nat) (w : World) : (callFunc 14 #[.int .u64 (b : Int)]).run Try.prog w = .ok (.value (.float .f64 b)) w := by
  rw [run_callFunc_extern Try.func14 (by kernel_rfl) (by kernel_rfl) (by kernel_rfl) (e := Extern.MathFloatBits.float64frombits) (by kernel_rfl)]; rfl

set_option maxRecDepth 100000 in
set_option maxHeartbeats 400000 in
theorem refNot_any (b : Nat) (w : World) (_hb : b < 18446744073709551616) :
    Calls Try.prog 25 #[.float .f64 b] w fun e w' => e = .returned (.bool (Heat.notN b)) ∧ w = w' := by
  have hr := bits_run
  go_enter Try.func25, Try.ntmps25
  go_wp2
  · go_ret
    exact ⟨ret_bool (Heat.not_of_true (by assumption)).symm, rfl⟩
  · go_ret
    exact ⟨ret_bool (Heat.not_of_false (by assumption)).symm, rfl⟩

set_option maxRecDepth 100000 in
set_option maxHeartbeats 400000 in
theorem refBits_any (b : Nat) (w : World) (hb : b < 18446744073709551616) :
    Calls Try.prog 17 #[.float .f64 b] w fun e w' => e = .returned (.int .u64 (Heat.bitsN b : Int)) ∧ w = w' := by
  have hr := bits_run
  have c := refNot_any b w hb
  cases h : Heat.notN b with
  | true =>
    rw [h] at c
    have C := Lib.hid c
    have HE : Hid (Heat.bitsN b = 9221120237041090561) := by unfold Heat.bitsN; rw [if_pos h]; rfl
    clear c h
    go_enter Try.func17, Try.ntmps17
    go_wp2_with (go_at_call 25; ((with_reducible refine C.out.mono ?_); rintro e1 w' ⟨rfl, rfl⟩))
    go_ret
    exact ⟨ret_int (by rw [HE.out]; rfl), rfl⟩
  | false =>
    rw [h] at c
    have C := Lib.hid c
    have HE : Hid (Heat.bitsN b = b) := by unfold Heat.bitsN; rw [if_neg (by rw [h]; decide)]; rfl
    clear c h
    go_enter Try.func17, Try.ntmps17
    go_wp2_with (go_at_call 25; ((with_reducible refine C.out.mono ?_); rintro e1 w' ⟨rfl, rfl⟩))
    go_ret
    exact ⟨ret_int (by rw [HE.out]), rfl⟩

set_option maxRecDepth 100000 in
set_option maxHeartbeats 400000 in
theorem refMinus_any (b : Nat) (w : World) :
    Calls Try.prog 56 #[.float .f64 b] w fun e w' => e = .returned (.bool (Heat.neg b)) ∧ w = w' := by
  have hr := bits_run
  have HE : Hid (decide (9223372036854775808 ≤ (b : Int)) = Heat.neg b) := by
    show decide (9223372036854775808 ≤ (b : Int)) = decide (9223372036854775808 ≤ b)
    by_cases h : 9223372036854775808 ≤ b
    · rw [decide_eq_true h, decide_eq_true (by omega)]
    · rw [decide_eq_false h, decide_eq_false (by omega)]
  go_enter Try.func56, Try.ntmps56
  go_wp2
  go_ret
  exact ⟨ret_bool HE.out, rfl⟩

set_option maxRecDepth 100000 in
set_option maxHeartbeats 1000000 in
theorem refLess_any (a b : Nat) (w : World) (ha : a < 18446744073709551616) (hb : b < 18446744073709551616) :
    Calls Try.prog 54 #[.float .f64 a, .float .f64 b] w fun e w' => e = .returned (.bool (Heat.less a b)) ∧ w = w' := by
  have hr := bits_run
  have ca := refNot_any a w ha
  have cb := refNot_any b w hb
  have ma := refMinus_any a w
  have mb := refMinus_any b w
  cases h1 : Heat.notN a with
  | true =>
    have HE := Lib.hid (Heat.less_not (a := a) hb h1)
    rw [h1] at ca
    have CA := Lib.hid ca
    cases h2 : Heat.notN b with
    | true =>
      rw [h2] at cb HE
      have CB := Lib.hid cb
      clear ca cb ma mb h1 h2 hr ha hb
      go_enter Try.func54, Try.ntmps54
      go_wp2_with (go_at_call 25; first | ((with_reducible refine CA.out.mono ?_); rintro e1 w' ⟨rfl, rfl⟩) | ((with_reducible refine CB.out.mono ?_); rintro e1 w' ⟨rfl, rfl⟩))
      go_ret
      exact ⟨ret_bool (by rw [HE.out]; rfl), rfl⟩
    | false =>
      rw [h2] at cb HE
      have CB := Lib.hid cb
      clear ca cb ma mb h1 h2 hr ha hb
      go_enter Try.func54, Try.ntmps54
      go_wp2_with (go_at_call 25; first | ((with_reducible refine CA.out.mono ?_); rintro e1 w' ⟨rfl, rfl⟩) | ((with_reducible refine CB.out.mono ?_); rintro e1 w' ⟨rfl, rfl⟩))
      go_ret
      exact ⟨ret_bool (by rw [HE.out]; rfl), rfl⟩
  | false =>
    rw [h1] at ca
    have CA := Lib.hid ca
    cases h2 : Heat.notN b with
    | true =>
      have HE := Lib.hid (Heat.less_not2 (a := a) h2)
      rw [h2] at cb
      have CB := Lib.hid cb
      clear ca cb ma mb h1 h2 hr ha hb
      go_enter Try.func54, Try.ntmps54
      go_wp2_with (go_at_call 25; first | ((with_reducible refine CA.out.mono ?_); rintro e1 w' ⟨rfl, rfl⟩) | ((with_reducible refine CB.out.mono ?_); rintro e1 w' ⟨rfl, rfl⟩))
      go_ret
      exact ⟨ret_bool (by rw [HE.out]), rfl⟩
    | false =>
      rw [h2] at cb
      have CB := Lib.hid cb
      have HS := Lib.hid (Heat.less_signs ha hb h1 h2)
      cases n1 : Heat.neg a with
      | true =>
        cases n2 : Heat.neg b with
        | true =>
          have HE := Lib.hid (Heat.less_neg ha hb h1 h2 n1 n2)
          rw [n1] at ma
          rw [n2] at mb
          have MA := Lib.hid ma
          have MB := Lib.hid mb
          clear ca cb ma mb h1 h2 ha hb n1 n2 HS
          go_enter Try.func54, Try.ntmps54
          go_wp2_with (first | (go_at_call 25; first | ((with_reducible refine CA.out.mono ?_); rintro e1 w' ⟨rfl, rfl⟩) | ((with_reducible refine CB.out.mono ?_); rintro e1 w' ⟨rfl, rfl⟩)) | (go_at_call 56; first | ((with_reducible refine MA.out.mono ?_); rintro e1 w' ⟨rfl, rfl⟩) | ((with_reducible refine MB.out.mono ?_); rintro e1 w' ⟨rfl, rfl⟩)))
          go_ret
          exact ⟨ret_bool HE.out.symm, rfl⟩
        | false =>
          have hs := HS.out (by rw [n1, n2]; decide)
          rw [n1] at hs
          have HE := Lib.hid hs
          rw [n1] at ma
          rw [n2] at mb
          have MA := Lib.hid ma
          have MB := Lib.hid mb
          clear ca cb ma mb h1 h2 ha hb n1 n2 HS hs hr
          go_enter Try.func54, Try.ntmps54
          go_wp2_with (first | (go_at_call 25; first | ((with_reducible refine CA.out.mono ?_); rintro e1 w' ⟨rfl, rfl⟩) | ((with_reducible refine CB.out.mono ?_); rintro e1 w' ⟨rfl, rfl⟩)) | (go_at_call 56; first | ((with_reducible refine MA.out.mono ?_); rintro e1 w' ⟨rfl, rfl⟩) | ((with_reducible refine MB.out.mono ?_); rintro e1 w' ⟨rfl, rfl⟩)))
          go_ret
          exact ⟨ret_bool HE.out.symm, rfl⟩
      | false =>
        cases n2 : Heat.neg b with
        | true =>
          have hs := HS.out (by rw [n1, n2]; decide)
          rw [n1] at hs
          have HE := Lib.hid hs
          rw [n1] at ma
          rw [n2] at mb
          have MA := Lib.hid ma
          have MB := Lib.hid mb
          clear ca cb ma mb h1 h2 ha hb n1 n2 HS hs hr
          go_enter Try.func54, Try.ntmps54
          go_wp2_with (first | (go_at_call 25; first | ((with_reducible refine CA.out.mono ?_); rintro e1 w' ⟨rfl, rfl⟩) | ((with_reducible refine CB.out.mono ?_); rintro e1 w' ⟨rfl, rfl⟩)) | (go_at_call 56; first | ((with_reducible refine MA.out.mono ?_); rintro e1 w' ⟨rfl, rfl⟩) | ((with_reducible refine MB.out.mono ?_); rintro e1 w' ⟨rfl, rfl⟩)))
          go_ret
          exact ⟨ret_bool HE.out.symm, rfl⟩
        | false =>
          have HE := Lib.hid (Heat.less_pos h1 h2 n1 n2)
          rw [n1] at ma
          rw [n2] at mb
          have MA := Lib.hid ma
          have MB := Lib.hid mb
          clear ca cb ma mb h1 h2 ha hb n1 n2 HS
          go_enter Try.func54, Try.ntmps54
          go_wp2_with (first | (go_at_call 25; first | ((with_reducible refine CA.out.mono ?_); rintro e1 w' ⟨rfl, rfl⟩) | ((with_reducible refine CB.out.mono ?_); rintro e1 w' ⟨rfl, rfl⟩)) | (go_at_call 56; first | ((with_reducible refine MA.out.mono ?_); rintro e1 w' ⟨rfl, rfl⟩) | ((with_reducible refine MB.out.mono ?_); rintro e1 w' ⟨rfl, rfl⟩)))
          go_ret
          exact ⟨ret_bool HE.out.symm, rfl⟩

set_option maxRecDepth 100000 in
set_option maxHeartbeats 1000000 in
theorem refCompare_any (a b : Nat) (w : World) (ha : a < 18446744073709551616) (hb : b < 18446744073709551616) :
    Calls Try.prog 16 #[.float .f64 a, .float .f64 b] w fun e w' => e = .returned (.int .i64 (Heat.cmp a b)) ∧ w = w' := by
  have ca := refLess_any a b w ha hb
  have cb := refLess_any b a w hb ha
  cases h1 : Heat.less a b with
  | true =>
    have HE := Lib.hid (Heat.cmp_less h1)
    rw [h1] at ca
    have CA := Lib.hid ca
    clear ca cb ha hb h1
    go_enter Try.func16, Try.ntmps16
    go_wp2_with (go_at_call 54; ((with_reducible refine CA.out.mono ?_); rintro e1 w' ⟨rfl, rfl⟩))
    go_ret
    exact ⟨ret_int HE.out.symm, rfl⟩
  | false =>
    rw [h1] at ca
    have CA := Lib.hid ca
    cases h2 : Heat.less b a with
    | true =>
      have HE := Lib.hid (Heat.cmp_more h1 h2)
      rw [h2] at cb
      have CB := Lib.hid cb
      clear ca cb ha hb h1 h2
      go_enter Try.func16, Try.ntmps16
      go_wp2_with (go_at_call 54; first | ((with_reducible refine CA.out.mono ?_); rintro e1 w' ⟨rfl, rfl⟩) | ((with_reducible refine CB.out.mono ?_); rintro e1 w' ⟨rfl, rfl⟩))
      go_ret
      exact ⟨ret_int HE.out.symm, rfl⟩
    | false =>
      have HE := Lib.hid (Heat.cmp_same h1 h2)
      rw [h2] at cb
      have CB := Lib.hid cb
      clear ca cb ha hb h1 h2
      go_enter Try.func16, Try.ntmps16
      go_wp2_with (go_at_call 54; first | ((with_reducible refine CA.out.mono ?_); rintro e1 w' ⟨rfl, rfl⟩) | ((with_reducible refine CB.out.mono ?_); rintro e1 w' ⟨rfl, rfl⟩))
      go_ret
      exact ⟨ret_int HE.out.symm, rfl⟩

set_option maxRecDepth 100000 in
set_option maxHeartbeats 1000000 in
theorem refKey_any (b : Nat) (w : World) (hb : b < 18446744073709551616) :
    Calls Try.prog 23 #[.float .f64 b] w fun e w' => e = .returned (.int .u64 (Heat.key b : Int)) ∧ w = w' := by
  have hr := bits_run
  have ca := refNot_any b w hb
  have ma := refMinus_any b w
  cases h1 : Heat.notN b with
  | true =>
    have HE := Lib.hid (Heat.key_not h1)
    rw [h1] at ca
    have CA := Lib.hid ca
    clear ca ma h1
    go_enter Try.func23, Try.ntmps23
    go_wp2_with (go_at_call 25; ((with_reducible refine CA.out.mono ?_); rintro e1 w' ⟨rfl, rfl⟩))
    go_ret
    exact ⟨ret_int (by rw [HE.out]; rfl), rfl⟩
  | false =>
    have hi := Heat.isnum hb h1
    rw [h1] at ca
    have CA := Lib.hid ca
    cases n1 : Heat.neg b with
    | true =>
      have HE := Lib.hid (Heat.key_neg h1 n1)
      have m1 := (Heat.neg_iff b).1 n1
      have hle : b ≤ 18442240474082181120 := by omega
      rw [n1] at ma
      have MA := Lib.hid ma
      clear ca ma h1 n1 hi
      go_enter Try.func23, Try.ntmps23
      go_wp2_with (first | (go_at_call 25; ((with_reducible refine CA.out.mono ?_); rintro e1 w' ⟨rfl, rfl⟩)) | (go_at_call 56; ((with_reducible refine MA.out.mono ?_); rintro e1 w' ⟨rfl, rfl⟩)))
      go_ret
      exact ⟨ret_int (by rw [HE.out]; omega), rfl⟩
    | false =>
      have HE := Lib.hid (Heat.key_pos h1 n1)
      have m1 := (Heat.neg_false b).1 n1
      have hle : b ≤ 9218868437227405312 := by omega
      rw [n1] at ma
      have MA := Lib.hid ma
      clear ca ma h1 n1 hi m1
      go_enter Try.func23, Try.ntmps23
      go_wp2_with (first | (go_at_call 25; ((with_reducible refine CA.out.mono ?_); rintro e1 w' ⟨rfl, rfl⟩)) | (go_at_call 56; ((with_reducible refine MA.out.mono ?_); rintro e1 w' ⟨rfl, rfl⟩)))
      go_ret
      exact ⟨ret_int (by rw [HE.out]; omega), rfl⟩
end H
end Go.Proofs.Ytkbchpbdpkbnjaa
