/-
  Programs: the program's ids.Is: does a list rise?
-/
import Derived.Test.YtnhgoeoffjcooaaProAt
namespace Go.Proofs.Ytnhgoeoffjcooaa
open Go.RowKit
namespace Pm
open B
set_option maxRecDepth 100000 in
set_option maxHeartbeats 1000000 in
theorem is_any (xs : List Int) (A : Option Addr) (c : Nat) (w : World) (hl : xs.length ≤ 2000000) (hx : At vInt w A xs) :
    Calls Try.prog 64 #[.slice A xs.length c] w fun e w' => e = .returned (.bool (rises xs)) ∧ ∃ n, w' = w.drewN n := by
  have HX := Lib.hid hx
  clear hx
  go_enter Try.func64, Try.ntmps64
  go_wp2
  go_loopw [3] (fun i wr => ∃ k n : Nat, k ≤ xs.length ∧ i = .int .i64 ((k : Int) + 1) ∧ wr = w.drewN n ∧ rises xs = rises (xs.drop k)) (fun i _ => xs.length + 1 - (intOf i).toNat)
  case atStart => exact ⟨0, 0, Nat.zero_le _, rfl, rfl, rfl⟩
  case round =>
    obtain ⟨k, n, hk, rfl, rfl, hr⟩ := hrel
    have HR := Lib.hid hr
    clear hr
    by_cases hlt : k + 1 < xs.length
    · obtain ⟨b, off, hA, _, hc⟩ := HX.out (by omega)
      subst hA
      have c0 := hc k (by omega)
      have c1 := hc (k + 1) hlt
      have HD := Lib.hid (rises_drop xs k hlt)
      have hki : ((k : Int) + 1 < (xs.length : Int)) := by omega
      have hki2 : ((k : Int) < (xs.length : Int)) := by omega
      have p0 : (0 : Int) ≤ (k : Int) + 1 := by omega
      have e0 : ((k : Int) + 1).toNat = k + 1 := by omega
      clear hc
      generalize xs[k] = x at *
      generalize xs[k + 1] = y at *
      by_cases hxy : x < y
      · have HT : Hid (rises xs = rises (xs.drop (k + 1))) := by rw [HR.out, HD.out, decide_eq_true hxy]; rfl
        have hd : decide (y ≤ x) = false := decide_eq_false (by omega)
        clear HD HR
        go_wp2
        go_quiet (fail)
        go_wp2
        go_roundw
        case rel => exact ⟨k + 1, n + nq, by omega, by go_num, by go_simp, HT.out⟩
        case measure => simp [intOf]; omega
      · have HT : Hid (rises xs = false) := by rw [HR.out, HD.out, decide_eq_false hxy]; rfl
        have hd : decide (y ≤ x) = true := decide_eq_true (by omega)
        clear HD HR
        go_wp2
        go_quiet (fail)
        go_wp2
        go_ret
        exact ⟨ret_bool HT.out.symm, n + nq, by go_simp⟩
    · have HT : Hid (rises xs = true) := by rw [HR.out, rises_end xs k (by omega)]; rfl
      go_wp2
      go_ret
      exact ⟨ret_bool HT.out.symm, n, rfl⟩

end Pm
end Go.Proofs.Ytnhgoeoffjcooaa
