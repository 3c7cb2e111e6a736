/-
  Programs: what may be in a program: a function's numbers, an op's; the small functions that are handed in.
-/
import Derived.Test.YtnhgoeoffjcooaaProAny
import Derived.Test.YtnhgoeoffjcooaaHeatWalks
import Derived.Test.YtnhgoeoffjcooaaOver
import Derived.Deep.RegionHeld3
import Derived.BigQuiet
namespace Go.Proofs.Ytnhgoeoffjcooaa
open Go.RowKit
namespace Pm
open B
set_option linter.unusedVariables false
theorem bdrew (w : World) : Below w.heap.size w w.drew := ⟨rfl, rfl, rfl, Nat.le_refl _, fun _ _ => rfl⟩
theorem allIx_any (n x : Int) (g k : Nat) (w : World) (h : w.cell? ⟨g, 0, none⟩ = some (.int .i64 n)) (hk : w.cell? ⟨k, 0, none⟩ = some (bv g)) :
    Calls Try.prog 93 #[.int .i64 x, .pointer (some ⟨k, 0, none⟩)] w fun e w' => e = .returned (.bool (!(inB n x))) ∧ Below w.heap.size w w' := by
  have CB := Lib.hid (belowx_any n x g w h)
  go_enter Try.func93, Try.ntmps93
  go_wp2_with (go_at_call 69; ((with_reducible refine CB.out.mono ?_); rintro e w2 ⟨rfl, rfl⟩))
  go_ret
  exact ⟨rfl, Below.refl _ _⟩
/-- are all of a list numbers less than n? -/
theorem vars_any (n : Int) (g : Nat) (A : Option Addr) (l : List Int) (c : Nat) (w : World) (HA : At vInt w A l) (hl : l.length ≤ 2000000) (h : w.cell? ⟨g, 0, none⟩ = some (.int .i64 n)) :
    Calls Try.prog 65 #[.slice A l.length c, bv g] w fun e w' => e = .returned (.bool (l.all (inB n))) ∧ Below w.heap.size w w' :=
  allI_any _ _ _ (inB n) A l c w HA hl (fun W k hk hb x _ => allIx_any n x g k W ((hb.cell (p := ⟨g, 0, none⟩) (cell_lt h)).trans h) hk)
theorem orNone_any (fn : Fn) (fi ca : Array Value) (w : World) :
    Calls Try.prog 91 #[.func fn fi ca] w fun e w' => e = .returned (.func (.func 107) #[] #[.pointer (some ⟨w.heap.size, 0, none⟩)]) ∧ w'.cell? ⟨w.heap.size, 0, none⟩ = some (.func fn fi ca) ∧ Below w.heap.size w w' := by
  go_enter Try.func91, Try.ntmps91
  go_wp2
  go_ret
  refine ⟨rfl, ?_, (Below.refl _ _).alloc (Nat.le_refl _) _⟩
  rw [World.cell?_alloc_mark]; rfl
theorem orNonex_any (n x : Int) (g k : Nat) (w : World) (h : w.cell? ⟨g, 0, none⟩ = some (.int .i64 n)) (hk : w.cell? ⟨k, 0, none⟩ = some (bv g)) :
    Calls Try.prog 107 #[.int .i64 x, .pointer (some ⟨k, 0, none⟩)] w fun e w' => e = .returned (.bool (orN n x)) ∧ w = w' := by
  have CB := Lib.hid (belowx_any n x g w h)
  unfold orN
  by_cases h1 : x = -1
  · subst h1
    rw [decide_eq_true rfl, Bool.true_or]
    go_enter Try.func107, Try.ntmps107
    go_wp2
    go_ret
    exact ⟨rfl, rfl⟩
  · have e1 : (x == -1) = false := by rw [beq_eq_false_iff_ne]; exact h1
    rw [decide_eq_false h1, Bool.false_or]
    go_enter Try.func107, Try.ntmps107
    go_wp2_with (go_at_call 69; ((with_reducible refine CB.out.mono ?_); rintro e w2 ⟨rfl, rfl⟩))
    go_ret
    exact ⟨rfl, rfl⟩
theorem limF_any (A : Option Addr) (c : Nat) (f : F) (w : World) :
    Calls Try.prog 60 #[.agg #[.slice A f.ps.length c, .int .i64 f.ret]] w fun e w' => e = .returned (.bool (fewF f)) ∧ Below w.heap.size w w' := by
  go_enter Try.func60, Try.ntmps60
  go_wp2
  go_ret
  exact ⟨rfl, (Below.refl _ _).alloc (Nat.le_refl _) _⟩
theorem limO_any (A : Option Addr) (c : Nat) (o : O) (w : World) :
    Calls Try.prog 62 #[.agg #[.int .i64 o.kind, .int .i64 o.fn, .int .i64 o.a, .int .i64 o.b, .int .i64 o.c, .slice A o.args.length c, .float .f64 o.heat]] w fun e w' => e = .returned (.bool (fewO o)) ∧ Below w.heap.size w w' := by
  go_enter Try.func62, Try.ntmps62
  go_wp2
  go_ret
  exact ⟨rfl, (Below.refl _ _).alloc (Nat.le_refl _) _⟩
set_option maxHeartbeats 4000000 in
theorem bare_any (A : Option Addr) (c : Nat) (o : O) (w : World) (hh : o.heat < 18446744073709551616) :
    Calls Try.prog 94 #[.agg #[.int .i64 o.kind, .int .i64 o.fn, .int .i64 o.a, .int .i64 o.b, .int .i64 o.c, .slice A o.args.length c, .float .f64 o.heat]] w fun e w' => e = .returned (.bool (bare o)) ∧ Below w.heap.size w w' := by
  have CB := Lib.hid (fun W => H.bits_any o.heat W hh)
  unfold bare
  generalize Heat.bitsN o.heat = B at *
  by_cases h0 : (o.args.length : Int) = 0
  · have e0 : ((o.args.length : Int) == 0) = true := by rw [beq_iff_eq]; exact h0
    rw [decide_eq_true h0, Bool.true_and]
    clear h0
    go_enter Try.func94, Try.ntmps94
    go_wp2_with (go_at_call 68; ((with_reducible refine (CB.out _).mono ?_); rintro e w2 ⟨rfl, rfl⟩))
    go_ret
    exact ⟨rfl, (Below.refl _ _).alloc (Nat.le_refl _) _⟩
  · have e0 : ((o.args.length : Int) == 0) = false := by rw [beq_eq_false_iff_ne]; exact h0
    rw [decide_eq_false h0, Bool.false_and]
    clear h0
    go_enter Try.func94, Try.ntmps94
    go_wp2
    go_ret
    exact ⟨rfl, (Below.refl _ _).alloc (Nat.le_refl _) _⟩
end Pm
end Go.Proofs.Ytnhgoeoffjcooaa
