/-
  What the program's heat.Sum does.
-/
import Derived.Test.YtkbchpbdpkbnjaaHeatWalks
import Derived.Test.YtkbchpbdpkbnjaaHeatFloats
namespace Go.Proofs.Ytkbchpbdpkbnjaa
open Go.RowKit
namespace H

/-- The sum, one by one, from the first one on. -/
def sumL : List Nat → Nat
  | [] => 0
  | x :: xs => xs.foldl Heat.sumN (Heat.bitsN x)

theorem sum_step (x : Nat) (xs : List Nat) (k : Nat) (s : Nat) (h : k < xs.length) (hs : (xs.drop k).foldl Heat.sumN s = sumL (x :: xs)) : (xs.drop (k + 1)).foldl Heat.sumN (Heat.sumN s xs[k]) = sumL (x :: xs) := by
  rw [← hs, List.drop_eq_getElem_cons h, List.foldl_cons]

set_option maxRecDepth 100000 in
set_option maxHeartbeats 1000000 in
theorem sum_any (l : List Nat) (A : Option Addr) (c : Nat) (w : World) (hl : l.length ≤ 1000) (hlc : l.length ≤ c) (hcm : c ≤ maxLen) (hbl : ∀ b ∈ l, b < 18446744073709551616) (hx : FloatsAt w A l) :
    Calls Try.prog 32 #[.slice A l.length c] w fun e w' => e = .returned (.float .f64 (sumL l)) ∧ ∃ n, w' = w.drewN n := by
  cases l with
  | nil =>
    go_enter Try.func32, Try.ntmps32
    go_wp2
    go_ret
    exact ⟨rfl, 0, rfl⟩
  | cons x xs =>
    obtain ⟨b, off, hA, _, hc⟩ := hx (by simp)
    subst hA
    have c0 : w.cell? ⟨b, off, none⟩ = some (.float .f64 x) := hc 0 (by simp)
    have HC : Hid (∀ i (h : i < xs.length), w.cell? ⟨b, off + 1 + i, none⟩ = some (.float .f64 xs[i])) := fun i h => by
      have := hc (i + 1) (by simp; omega)
      rw [show off + 1 + i = off + (i + 1) by omega]; exact this
    have CA : Hid (∀ w, Calls Try.prog 20 #[.float .f64 x] w fun e w' => e = .returned (.float .f64 (Heat.bitsN x)) ∧ w = w') := fun w => canon_any x w (hbl x (by simp))
    have hn : xs.length ≤ 1000 := by simp at hl; omega
    rw [List.length_cons] at hlc hl ⊢
    have hcm2 : c ≤ 9223372036854775807 := hcm
    clear hcm
    clear hc hbl hx
    by_cases hc1 : c = 1
    · subst hc1
      have hx0 : xs = [] := List.eq_nil_of_length_eq_zero (by omega)
      subst hx0
      have HT : Hid (sumL [x] = Heat.bitsN x) := rfl
      clear HC
      go_enter Try.func32, Try.ntmps32
      go_wp2_with (go_at_call 20; ((with_reducible refine (CA.out _).mono ?_); rintro e1 w' ⟨rfl, rfl⟩))
      go_loopw [3, 16] (fun v t wr => v = .float .f64 (Heat.bitsN x) ∧ t = .int .i64 0 ∧ wr = w) (fun _ _ _ => 0)
      case atStart => exact ⟨rfl, rfl, rfl⟩
      case round =>
        obtain ⟨rfl, rfl, rfl⟩ := hrel
        go_wp2
        go_ret
        exact ⟨by rw [HT.out]; rfl, 0, rfl⟩
    · have HS : Hid (∀ k s (h : k < xs.length), (xs.drop k).foldl Heat.sumN s = sumL (x :: xs) → (xs.drop (k + 1)).foldl Heat.sumN (Heat.sumN s xs[k]) = sumL (x :: xs)) := fun k s h hs => sum_step x xs k s h hs
      go_enter Try.func32, Try.ntmps32
      go_wp2_with (go_at_call 20; ((with_reducible refine (CA.out _).mono ?_); rintro e1 w' ⟨rfl, rfl⟩))
      go_loopw [3, 16] (fun v t wr => ∃ k s : Nat, k ≤ xs.length ∧ v = .float .f64 s ∧ t = .int .i64 (k : Int) ∧ (xs.drop k).foldl Heat.sumN s = sumL (x :: xs) ∧ ∃ n, wr = w.drewN n) (fun _ t _ => xs.length - (intOf t).toNat)
      case atStart => exact ⟨0, Heat.bitsN x, Nat.zero_le _, rfl, rfl, rfl, 0, rfl⟩
      case round =>
        obtain ⟨k, s, hk, rfl, rfl, hr, n, rfl⟩ := hrel
        have HR := Lib.hid hr
        clear hr
        by_cases hlt : k < xs.length
        · have c1 := HC.out k hlt
          have HN := Lib.hid (HS.out k s hlt HR.out)
          generalize xs[k] = y at *
          go_wp2_with (go_at_call 27; ((with_reducible refine (add_any s y _).mono ?_); rintro e1 w' ⟨rfl, m, rfl⟩))
          go_roundw
          case rel => exact ⟨k + 1, _, by omega, rfl, by go_num, HN.out, n + m, by go_simp⟩
          case measure => simp [intOf]; omega
        · have HT : Hid (s = sumL (x :: xs)) := by
            have h := HR.out
            rw [List.drop_eq_nil_of_le (by omega)] at h
            exact h
          go_wp2
          go_ret
          exact ⟨by rw [← HT.out]; rfl, n, rfl⟩
end H
end Go.Proofs.Ytkbchpbdpkbnjaa
