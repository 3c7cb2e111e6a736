/-
  What the document's own answers for layer 3 (dowserref03) do: Not, Bits, minus, Less, Compare, Key, by the bits of the numbers.
-/
import Derived.Test.YtnhgoeoffjcooaaProg
import Derived.Test.YtnhgoeoffjcooaaHeatMath
import Derived.WalkKit
import Derived.WalkSpells
import Derived.WalkLawsBesides
import Derived.Lib.Hide
import Derived.Deep.DeepCutAuto
namespace Go.Proofs.Ytnhgoeoffjcooaa
open Go.RowKit
namespace H

theorem ret_bool {a b : Bool} (h : a = b) : Ending.returned (.bool a) = .returned (.bool b) := by rw [h]
theorem ret_int {k : IntKind} {a b : Int} (h : a = b) : Ending.returned (.int k a) = .returned (.int k b) := by rw [h]

theorem bits_run (b : Nat) (w : World) : (callFunc 84 #[.float .f64 b]).run Try.prog w = .ok (.value (.int .u64 (b : Int))) w := by
  rw [run_callFunc_extern Try.func84 (by kernel_rfl) (by kernel_rfl) (by kernel_rfl) (e := Extern.MathFloatBits.float64bits) (by kernel_rfl)]; rfl
theorem from_run (b : Nat) (w : World) : (callFunc 86 #[.int .u64 (b : Int)]).run Try.prog w = .ok (.value (.float .f64 b)) w := by
  rw [run_callFunc_extern Try.func86 (by kernel_rfl) (by kernel_rfl) (by kernel_rfl) (e := Extern.MathFloatBits.float64frombits) (by kernel_rfl)]; rfl

set_option maxRecDepth 100000 in
set_option maxHeartbeats 400000 in
theorem refNot_any (b : Nat) (w : World) (_hb : b < 18446744073709551616) :
    Calls Try.prog 83 #[.float .f64 b] w fun e w' => e = .returned (.bool (Heat.notN b)) ∧ w = w' := by
  have hr := bits_run
  go_enter Try.func83, Try.ntmps83
  go_wp2
  · go_ret
    exact ⟨ret_bool (Heat.not_of_true (by assumption)).symm, rfl⟩
  · go_ret
    exact ⟨ret_bool (Heat.not_of_false (by assumption)).symm, rfl⟩

set_option maxRecDepth 100000 in
set_option maxHeartbeats 400000 in
theorem refBits_any (b : Nat) (w : World) (hb : b < 18446744073709551616) :
    Calls Try.prog 55 #[.float .f64 b] w fun e w' => e = .returned (.int .u64 (Heat.bitsN b : Int)) ∧ w = w' := by
  have hr := bits_run
  have c := refNot_any b w hb
  cases h : Heat.notN b with
  | true =>
    rw [h] at c
    have C := Lib.hid c
    have HE : Hid (Heat.bitsN b = 9221120237041090561) := by unfold Heat.bitsN; rw [if_pos h]; rfl
    clear c h
    go_enter Try.func55, Try.ntmps55
    go_wp2_with (go_at_call 83; ((with_reducible refine C.out.mono ?_); rintro e1 w' ⟨rfl, rfl⟩))
    go_ret
    exact ⟨ret_int (by rw [HE.out]; rfl), rfl⟩
  | false =>
    rw [h] at c
    have C := Lib.hid c
    have HE : Hid (Heat.bitsN b = b) := by unfold Heat.bitsN; rw [if_neg (by rw [h]; decide)]; rfl
    clear c h
    go_enter Try.func55, Try.ntmps55
    go_wp2_with (go_at_call 83; ((with_reducible refine C.out.mono ?_); rintro e1 w' ⟨rfl, rfl⟩))
    go_ret
    exact ⟨ret_int (by rw [HE.out]), rfl⟩

end H
end Go.Proofs.Ytnhgoeoffjcooaa
