/-
  The walk of the statement BlobCosts.
-/
import Derived.Test.YtgilmcmanomkiaaBlobAw
namespace Go.Proofs.Ytgilmcmanomkiaa
open Go.RowKit
namespace Bb
open B Dsk Pg
set_option maxRecDepth 100000 in
set_option maxHeartbeats 4000000 in
theorem blobCosts_walk (a b : Int) (w : World) :
    Calls Try.prog 10 #[.int .i64 a, .int .i64 b] w fun e w' => e = .returned (.bool true) ∧ Below w.heap.size w w' := by
  have CA := Lib.hid (awake_any w)
  obtain ⟨m, hm⟩ : ∃ m : Nat, max 0 (min a 1048576) = (m : Int) := ⟨(max 0 (min a 1048576)).toNat, by omega⟩
  obtain ⟨n, hn⟩ : ∃ n : Nat, max 0 (min b 1048576) = (n : Int) := ⟨(max 0 (min b 1048576)).toNat, by omega⟩
  have hm2 : m ≤ 1048576 := by omega
  have hn2 : n ≤ 1048576 := by omega
  have C1 := Lib.hid (fun W => cost_any (m : Int) W (by omega))
  have C2 := Lib.hid (fun W => cost_any (n : Int) W (by omega))
  have C3 := Lib.hid (fun W => cost_any ((m : Int) + (n : Int)) W (by omega))
  rw [Int.toNat_natCast] at C1 C2
  rw [show ((m : Int) + (n : Int)).toNat = m + n by omega] at C3
  have x1 : (1 : Int) ≤ (cost m : Int) := by have := cost_pos m; omega
  have x2 : (cost m : Int) * 235 ≥ (m : Int) := by have := cost_cover m; omega
  have x3 : cost m = 1 ∨ ((cost m : Int) - 1) * 235 < (m : Int) := by
    unfold cost; split <;> omega
  have x4 : max (cost m : Int) (cost n : Int) ≤ (cost (m + n) : Int) := by
    unfold cost; split <;> split <;> split <;> omega
  have x5 : (cost (m + n) : Int) ≤ (cost m : Int) + (cost n : Int) := by
    unfold cost; split <;> split <;> split <;> omega
  have x6 : (cost m : Int) ≤ 10000 := by unfold cost; split <;> omega
  have x7 : (cost n : Int) ≤ 10000 := by unfold cost; split <;> omega
  have x8 : (0 : Int) ≤ (cost n : Int) := by omega
  generalize cost m = cm at *
  generalize cost n = cn at *
  generalize cost (m + n) = cz at *
  rcases x3 with x3 | x3
  · subst x3
    go_enter Try.func10, Try.ntmps10
    go_wp2_with (first
      | (go_at_call 33; ((with_reducible refine CA.out.mono ?_); rintro e w1 ⟨rfl, hb1⟩))
      | (go_at_call 37; ((with_reducible refine (C1.out _).mono ?_); rintro e w' ⟨rfl, rfl⟩))
      | (go_at_call 37; ((with_reducible refine (C2.out _).mono ?_); rintro e w' ⟨rfl, rfl⟩))
      | (go_at_call 37; ((with_reducible refine (C3.out _).mono ?_); rintro e w' ⟨rfl, rfl⟩)))
    go_ret
    exact ⟨B.ret_bool (decide_eq_true (by omega)), hb1⟩
  · by_cases x9 : cm = 1
    · subst x9
      go_enter Try.func10, Try.ntmps10
      go_wp2_with (first
        | (go_at_call 33; ((with_reducible refine CA.out.mono ?_); rintro e w1 ⟨rfl, hb1⟩))
        | (go_at_call 37; ((with_reducible refine (C1.out _).mono ?_); rintro e w' ⟨rfl, rfl⟩))
        | (go_at_call 37; ((with_reducible refine (C2.out _).mono ?_); rintro e w' ⟨rfl, rfl⟩))
        | (go_at_call 37; ((with_reducible refine (C3.out _).mono ?_); rintro e w' ⟨rfl, rfl⟩)))
      go_ret
      exact ⟨B.ret_bool (decide_eq_true (by omega)), hb1⟩
    · have hb : ((cm : Int) == 1) = false := by rw [beq_eq_false_iff_ne]; omega
      clear x9
      go_enter Try.func10, Try.ntmps10
      go_wp2_with (first
        | (go_at_call 33; ((with_reducible refine CA.out.mono ?_); rintro e w1 ⟨rfl, hb1⟩))
        | (go_at_call 37; ((with_reducible refine (C1.out _).mono ?_); rintro e w' ⟨rfl, rfl⟩))
        | (go_at_call 37; ((with_reducible refine (C2.out _).mono ?_); rintro e w' ⟨rfl, rfl⟩))
        | (go_at_call 37; ((with_reducible refine (C3.out _).mono ?_); rintro e w' ⟨rfl, rfl⟩)))
      go_ret
      exact ⟨rfl, hb1⟩
end Bb
end Go.Proofs.Ytgilmcmanomkiaa
