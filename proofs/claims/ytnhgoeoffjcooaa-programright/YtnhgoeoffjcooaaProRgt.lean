/-
  Programs: the law's small functions for a program that may be: at, answer, vars (dowserlaw15.Right's own); Thing and Function.
-/
import Derived.Test.YtnhgoeoffjcooaaProAwk
namespace Go.Proofs.Ytnhgoeoffjcooaa
open Go.RowKit
namespace Pm
open B
set_option linter.unusedVariables false
/-- a number from 0 on, less than n, of any one -/
def atq (x n : Int) : Int := (Int.tmod x n + n) % n
theorem tmod_range (x n : Int) (hn : 0 < n) : -n < Int.tmod x n ∧ Int.tmod x n < n := by
  constructor
  · have := Int.lt_tmod_of_pos x hn; omega
  · exact Int.tmod_lt_of_pos x hn
theorem atq_range (x n : Int) (hn : 0 < n) : 0 ≤ atq x n ∧ atq x n < n := by
  obtain ⟨h1, h2⟩ := tmod_range x n hn
  unfold atq
  exact ⟨Int.emod_nonneg _ (by omega), Int.emod_lt_of_pos _ hn⟩
set_option maxHeartbeats 2000000 in
theorem at_any (x n : Int) (w : World) (hn : 0 < n ∧ n ≤ 1000000) :
    Calls Try.prog 35 #[.int .i64 x, .int .i64 n] w fun e w' => e = .returned (.int .i64 (atq x n)) ∧ w = w' := by
  obtain ⟨h1, h2⟩ := tmod_range x n hn.1
  obtain ⟨h3, h4⟩ := atq_range x n hn.1
  have h0 : (n == 0) = false := by rw [beq_eq_false_iff_ne]; omega
  have h0' : n ≠ 0 := by omega
  have w1 : IntKind.i64.wrap (Int.tmod x n) = Int.tmod x n := IntWalk.i64_in _ (by omega)
  have w2 : IntKind.i64.wrap (Int.tmod x n + n) = Int.tmod x n + n := IntWalk.i64_in _ (by omega)
  have w3 : IntKind.i64.wrap ((Int.tmod x n + n) % n) = (Int.tmod x n + n) % n := IntWalk.i64_in _ (by unfold atq at h3 h4; omega)
  go_enter Try.func35, Try.ntmps35
  go_wp2
  go_ret
  exact ⟨rfl, rfl⟩
/-- what a function or an op answers to: a variable, or none -/
theorem answer_any (g : Nat) (vars x : Int) (w : World) (hv : 0 ≤ vars ∧ vars ≤ 1000) (h : w.cell? ⟨g, 0, none⟩ = some (.int .i64 vars)) :
    Calls Try.prog 37 #[.int .i64 x, .pointer (some ⟨g, 0, none⟩)] w fun e w' => e = .returned (.int .i64 (atq x (vars + 1) - 1)) ∧ w = w' := by
  have C := Lib.hid (at_any x (vars + 1) w ⟨by omega, by omega⟩)
  obtain ⟨h3, h4⟩ := atq_range x (vars + 1) (by omega)
  have w1 : IntKind.i64.wrap (vars + 1) = vars + 1 := IntWalk.i64_in _ (by omega)
  generalize atq x (vars + 1) = r at *
  have w2 : IntKind.i64.wrap (r - 1) = r - 1 := IntWalk.i64_in _ (by omega)
  go_enter Try.func37, Try.ntmps37
  go_wp2_with (go_at_call 35; ((with_reducible refine C.out.mono ?_); rintro e w2 ⟨rfl, rfl⟩))
  go_ret
  exact ⟨rfl, rfl⟩
set_option maxHeartbeats 2000000 in
theorem thing_any (p : P) (Af : Option Addr) (cf : Nat) (Ae : Option Addr) (ce : Nat) (Ao : Option Addr) (co : Nat) (f : Int) (w : World) (h : 0 ≤ p.objs ∧ p.objs ≤ 1000000) (hf : -1000000 ≤ f ∧ f ≤ 1000000) :
    Calls Try.prog 21 #[pv p Af cf Ae ce Ao co, .int .i64 f] w fun e w' => e = .returned (.int .i64 (p.objs + f)) ∧ Below w.heap.size w w' := by
  have hw : IntKind.i64.wrap (p.objs + f) = p.objs + f := IntWalk.i64_in _ (by omega)
  go_enter Try.func21, Try.ntmps21
  go_wp2
  go_ret
  exact ⟨rfl, below1 _ _⟩
/-- of which function a thing is one -/
def fnq (p : P) (t : Int) : Int × Bool := if t < p.objs then (0, false) else if inB p.fs.length (t - p.objs) then (t - p.objs, true) else (0, false)
set_option maxHeartbeats 4000000 in
theorem function_any (p : P) (Af : Option Addr) (cf : Nat) (Ae : Option Addr) (ce : Nat) (Ao : Option Addr) (co : Nat) (t : Int) (w : World) (h : 0 ≤ p.objs ∧ p.objs ≤ 1000000) (ht : -1000000 ≤ t ∧ t ≤ 1000000) :
    Calls Try.prog 20 #[pv p Af cf Ae ce Ao co, .int .i64 t] w fun e w' => e = .returned (.tuple #[.int .i64 (fnq p t).1, .bool (fnq p t).2]) ∧ Below w.heap.size w w' := by
  have hw : IntKind.i64.wrap (t - p.objs) = t - p.objs := IntWalk.i64_in _ (by omega)
  have B1 := Lib.hid (below1 w (.cells #[.int .i64 p.vars, .int .i64 p.objs, .int .i64 p.fields, .slice Af p.fs.length cf, .slice Ae p.en.length ce, .slice Ao p.ops.length co] 33))
  by_cases h1 : t < p.objs
  · have HO := Lib.hid (show fnq p t = (0, false) by unfold fnq; rw [if_pos h1])
    go_enter Try.func20, Try.ntmps20
    go_wp2
    go_ret2
    exact ⟨by rw [HO.out]; rfl, B1.out⟩
  · cases h2 : inB p.fs.length (t - p.objs) with
    | true =>
      have HO := Lib.hid (show fnq p t = (t - p.objs, true) by unfold fnq; rw [if_neg h1, if_pos h2])
      go_enter Try.func20, Try.ntmps20
      go_wp2_with (first | (go_at_call 47; ((with_reducible refine (below_any _ _).mono ?_); rintro e w1 ⟨rfl, hg1, hl1, hb1⟩)) | (go_at_call 69; (have hg1' : w1.cell? ⟨w.heap.size + 1, 0, none⟩ = some (.int .i64 (p.fs.length : Int)) := by simpa using hg1); ((with_reducible refine (belowx_any _ _ _ _ hg1').mono ?_); rintro e w2 ⟨rfl, rfl⟩)))
      go_ret2
      exact ⟨by rw [HO.out]; rfl, B1.out.trans (hb1.mono B1.out.size)⟩
    | false =>
      have HO := Lib.hid (show fnq p t = (0, false) by unfold fnq; rw [if_neg h1, if_neg (by rw [h2]; decide)])
      go_enter Try.func20, Try.ntmps20
      go_wp2_with (first | (go_at_call 47; ((with_reducible refine (below_any _ _).mono ?_); rintro e w1 ⟨rfl, hg1, hl1, hb1⟩)) | (go_at_call 69; (have hg1' : w1.cell? ⟨w.heap.size + 1, 0, none⟩ = some (.int .i64 (p.fs.length : Int)) := by simpa using hg1); ((with_reducible refine (belowx_any _ _ _ _ hg1').mono ?_); rintro e w2 ⟨rfl, rfl⟩)))
      go_ret2
      exact ⟨by rw [HO.out]; rfl, B1.out.trans (hb1.mono B1.out.size)⟩
end Pm
end Go.Proofs.Ytnhgoeoffjcooaa
