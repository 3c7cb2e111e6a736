/-
  What the program's ids does of two sets: Union, Both, Minus, Meets, Within.
-/
import Derived.Test.YtkbchpbdpkbnjaaIdsPick
import Derived.Test.YtkbchpbdpkbnjaaIdsWalks
namespace Go.Proofs.Ytkbchpbdpkbnjaa
open Go.RowKit
namespace I

set_option maxRecDepth 100000 in
theorem u_any (x y : Bool) (w : World) : Calls Try.prog 66 #[.bool x, .bool y] w fun e w' => e = .returned (.bool (x || y)) ∧ w = w' := by
  go_enter Try.func66, Try.ntmps66
  cases x <;> cases y <;> (go_wp2; go_ret; exact ⟨rfl, rfl⟩)
set_option maxRecDepth 100000 in
theorem b_any (x y : Bool) (w : World) : Calls Try.prog 67 #[.bool x, .bool y] w fun e w' => e = .returned (.bool (x && y)) ∧ w = w' := by
  go_enter Try.func67, Try.ntmps67
  cases x <;> cases y <;> (go_wp2; go_ret; exact ⟨rfl, rfl⟩)
set_option maxRecDepth 100000 in
theorem m_any (x y : Bool) (w : World) : Calls Try.prog 68 #[.bool x, .bool y] w fun e w' => e = .returned (.bool (x && !y)) ∧ w = w' := by
  go_enter Try.func68, Try.ntmps68
  cases x <;> cases y <;> (go_wp2; go_ret; exact ⟨rfl, rfl⟩)
theorem e66 : ∀ args w, (callFunc 66 args).run Try.prog w = .ok (.enter 66 args) w := fun args w => enters_of Try.func66 (by kernel_rfl) rfl args w
theorem e67 : ∀ args w, (callFunc 67 args).run Try.prog w = .ok (.enter 67 args) w := fun args w => enters_of Try.func67 (by kernel_rfl) rfl args w
theorem e68 : ∀ args w, (callFunc 68 args).run Try.prog w = .ok (.enter 68 args) w := fun args w => enters_of Try.func68 (by kernel_rfl) rfl args w

/-- A slice that holds a list and may be cut: its numbers, and its bounds. -/
structure Sl (w : World) (v : Value) (l : List Int) (A : Option Addr) (c : Nat) : Prop where
  eq : v = .slice A l.length c
  at_ : IntsAt w A l
  le : l.length ≤ c
  cap : c ≤ 9223372036854775807
  none : A = Option.none → c = 0

section
variable (xs ys : List Int) (A B : Option Addr) (c d : Nat) (w : World) (hl : xs.length ≤ 1000) (hl2 : ys.length ≤ 1000) (hxc : xs.length ≤ c) (hyd : ys.length ≤ d) (hcm : c ≤ 9223372036854775807) (hdm : d ≤ 9223372036854775807) (hx : IntsAt w A xs) (hy : IntsAt w B ys)
include hl hl2 hxc hyd hcm hdm hx hy

set_option maxRecDepth 100000 in
theorem union_any :
    Calls Try.prog 43 #[.slice A xs.length c, .slice B ys.length d] w fun e w' => ∃ v, e = .returned v ∧ w'.ownsRow w.heap.size 3 1 v (Ids.union xs ys).length (icells (Ids.union xs ys)) ∧ Below w.heap.size w w' := by
  have C := Lib.hid (pick_any 66 (fun x y => x || y) e66 u_any xs ys A B c d w hl hl2 hxc hyd hcm hdm hx hy)
  clear hx hy
  go_enter Try.func43, Try.ntmps43
  go_wp2_with (go_at_call 65; ((with_reducible refine C.out.mono ?_); rintro e1 w' ⟨v, rfl, ho, hb⟩))
  go_ret
  exact ⟨_, rfl, ho, hb⟩
set_option maxRecDepth 100000 in
theorem both_any :
    Calls Try.prog 44 #[.slice A xs.length c, .slice B ys.length d] w fun e w' => ∃ v, e = .returned v ∧ w'.ownsRow w.heap.size 3 1 v (Ids.both xs ys).length (icells (Ids.both xs ys)) ∧ Below w.heap.size w w' := by
  have C := Lib.hid (pick_any 67 (fun x y => x && y) e67 b_any xs ys A B c d w hl hl2 hxc hyd hcm hdm hx hy)
  clear hx hy
  go_enter Try.func44, Try.ntmps44
  go_wp2_with (go_at_call 65; ((with_reducible refine C.out.mono ?_); rintro e1 w' ⟨v, rfl, ho, hb⟩))
  go_ret
  exact ⟨_, rfl, ho, hb⟩
set_option maxRecDepth 100000 in
theorem minus_any :
    Calls Try.prog 45 #[.slice A xs.length c, .slice B ys.length d] w fun e w' => ∃ v, e = .returned v ∧ w'.ownsRow w.heap.size 3 1 v (Ids.minus xs ys).length (icells (Ids.minus xs ys)) ∧ Below w.heap.size w w' := by
  have C := Lib.hid (pick_any 68 (fun x y => x && !y) e68 m_any xs ys A B c d w hl hl2 hxc hyd hcm hdm hx hy)
  clear hx hy
  go_enter Try.func45, Try.ntmps45
  go_wp2_with (go_at_call 65; ((with_reducible refine C.out.mono ?_); rintro e1 w' ⟨v, rfl, ho, hb⟩))
  go_ret
  exact ⟨_, rfl, ho, hb⟩
set_option maxRecDepth 100000 in
theorem meets_any :
    Calls Try.prog 48 #[.slice A xs.length c, .slice B ys.length d] w fun e w' => e = .returned (.bool (decide (0 < (Ids.both xs ys).length))) ∧ Below w.heap.size w w' := by
  have C : Hid (Calls Try.prog 44 #[.slice A xs.length c, .slice B ys.length d] w fun e w' => ∃ A' c', e = .returned (.slice A' (Ids.both xs ys).length c') ∧ Below w.heap.size w w') := (both_any xs ys A B c d w hl hl2 hxc hyd hcm hdm hx hy).mono fun e w' ⟨v, he, ho, hb⟩ => by
    obtain ⟨A', c', hv, _, _⟩ := own_ints ho
    exact ⟨A', c', by rw [he, hv], hb⟩
  have HL : Hid ((Ids.both xs ys).length ≤ 2000) := Nat.le_trans (Ids.pick_length _ _ xs ys (Nat.le_refl _)) (by omega)
  clear hx hy
  generalize (Ids.both xs ys).length = n at *
  have hn := HL.out
  have HD : Hid (decide ((0 : Int) < (n : Int)) = decide (0 < n)) := by
    show decide _ = decide _
    by_cases h : 0 < n
    · rw [decide_eq_true h, decide_eq_true (by omega)]
    · rw [decide_eq_false h, decide_eq_false (by omega)]
  go_enter Try.func48, Try.ntmps48
  go_wp2_with (go_at_call 44; ((with_reducible refine C.out.mono ?_); rintro e1 w' ⟨A', c', rfl, hb⟩))
  go_ret
  exact ⟨ret_bool (by first | exact HD.out | simp), hb⟩
set_option maxRecDepth 100000 in
theorem within_any :
    Calls Try.prog 50 #[.slice A xs.length c, .slice B ys.length d] w fun e w' => e = .returned (.bool ((Ids.minus xs ys).length == 0)) ∧ Below w.heap.size w w' := by
  have C : Hid (Calls Try.prog 45 #[.slice A xs.length c, .slice B ys.length d] w fun e w' => ∃ A' c', e = .returned (.slice A' (Ids.minus xs ys).length c') ∧ Below w.heap.size w w') := (minus_any xs ys A B c d w hl hl2 hxc hyd hcm hdm hx hy).mono fun e w' ⟨v, he, ho, hb⟩ => by
    obtain ⟨A', c', hv, _, _⟩ := own_ints ho
    exact ⟨A', c', by rw [he, hv], hb⟩
  have HL : Hid ((Ids.minus xs ys).length ≤ 2000) := Nat.le_trans (Ids.pick_length _ _ xs ys (Nat.le_refl _)) (by omega)
  clear hx hy
  generalize (Ids.minus xs ys).length = n at *
  have hn := HL.out
  have HD : Hid (((n : Int) == 0) = (n == 0)) := by
    show ((n : Int) == 0) = (n == 0)
    rw [Bool.eq_iff_iff, beq_iff_eq, beq_iff_eq]; omega
  go_enter Try.func50, Try.ntmps50
  go_wp2_with (go_at_call 45; ((with_reducible refine C.out.mono ?_); rintro e1 w' ⟨A', c', rfl, hb⟩))
  go_ret
  exact ⟨ret_bool (by first | exact HD.out | simp), hb⟩
end
end I
end Go.Proofs.Ytkbchpbdpkbnjaa
