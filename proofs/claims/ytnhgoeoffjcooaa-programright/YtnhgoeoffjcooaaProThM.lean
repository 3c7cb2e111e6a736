/-
  Programs, plain mathematics: things and functions (for ProgramThings).
-/
import Derived.Test.YtnhgoeoffjcooaaProRtE
namespace Go.Proofs.Ytnhgoeoffjcooaa
open Go.RowKit
namespace Pm
open B
set_option linter.unusedVariables false
theorem fnq_thing (p : P) (f : Nat) (h : f < p.fs.length) : fnq p (p.objs + f) = ((f : Int), true) := by
  unfold fnq inB
  rw [if_neg (by omega), show p.objs + (f : Int) - p.objs = (f : Int) by omega, decide_eq_true (show (0 : Int) ≤ (f : Int) by omega), decide_eq_true (show (f : Int) < (p.fs.length : Int) by omega)]
  rfl
theorem fnq_is (p : P) (t : Int) : (fnq p t).2 = (decide (p.objs ≤ t) && decide (t < p.objs + p.fs.length)) := by
  unfold fnq inB
  by_cases h1 : t < p.objs
  · rw [if_pos h1, decide_eq_false (show ¬ p.objs ≤ t by omega)]; rfl
  · rw [if_neg h1, decide_eq_true (show p.objs ≤ t by omega), decide_eq_true (show 0 ≤ t - p.objs by omega)]
    by_cases h2 : t - p.objs < p.fs.length
    · rw [decide_eq_true h2, decide_eq_true (show t < p.objs + p.fs.length by omega)]; rfl
    · rw [decide_eq_false h2, decide_eq_false (show ¬ t < p.objs + p.fs.length by omega)]; rfl
theorem fnq_back (p : P) (t : Int) (h : (fnq p t).2 = true) : p.objs + (fnq p t).1 = t := by
  revert h
  unfold fnq
  split
  · intro h; cases h
  · split
    · intro _; show p.objs + (t - p.objs) = t; omega
    · intro h; cases h
theorem fnq_none (p : P) (t : Int) (h : (fnq p t).2 = false) : (fnq p t).1 = 0 := by
  revert h
  unfold fnq
  split
  · intro _; rfl
  · split
    · intro h; cases h
    · intro _; rfl
end Pm
end Go.Proofs.Ytnhgoeoffjcooaa
