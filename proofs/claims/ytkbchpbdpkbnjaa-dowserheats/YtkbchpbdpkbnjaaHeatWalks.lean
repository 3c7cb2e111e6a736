/-
  What the program's heat does, call by call: Canon, Bits, Of, Key, From, Compare, Add (by the bits of the numbers), and the library's calls that the laws make.
-/
import Derived.Test.YtkbchpbdpkbnjaaHeatRef
import Derived.Test.YtkbchpbdpkbnjaaHeatFadd
namespace Go.Proofs.Ytkbchpbdpkbnjaa
open Go.RowKit
namespace H

theorem and63 (b : Nat) (hb : b < 18446744073709551616) : bits .and .u64 (b : Int) 9223372036854775808 = ((b / 9223372036854775808 * 9223372036854775808 : Nat) : Int) := by
  have h := u64_and_nat b 9223372036854775808 hb (by omega)
  have h2 := nat_bit 63 b
  rw [show (2 : Nat) ^ 63 = 9223372036854775808 from rfl] at h2
  rw [h2, show b / 9223372036854775808 % 2 = b / 9223372036854775808 by omega] at h
  exact h
theorem or63 (b : Nat) (hb : b < 9223372036854775808) : bits .or .u64 (b : Int) 9223372036854775808 = ((b + 9223372036854775808 : Nat) : Int) := by
  have h := u64_or_nat b 9223372036854775808 (by omega) (by omega)
  have h2 := nat_join 63 9223372036854775808 b (by decide) hb
  rw [Nat.or_comm] at h2
  rw [h2, Nat.add_comm] at h
  exact h
theorem xorAll (b : Nat) (hb : b < 18446744073709551616) : bits .xor .u64 IntKind.u64.max (b : Int) = ((18446744073709551615 - b : Nat) : Int) := by
  have h := u64_xor_nat 18446744073709551615 b (by omega) hb
  have h2 : 18446744073709551615 ^^^ b = 18446744073709551615 - b := by
    have h3 := BitVec.toNat_not (x := BitVec.ofNat 64 b)
    rw [BitVec.not_def, BitVec.toNat_xor, BitVec.toNat_allOnes, BitVec.toNat_ofNat, Nat.mod_eq_of_lt (by omega)] at h3
    rw [show (2 : Nat) ^ 64 = 18446744073709551616 from rfl] at h3
    simpa using h3
  rw [h2] at h
  exact h
theorem xor63 (b : Nat) (hb : b < 18446744073709551616) (h1 : 9223372036854775808 ≤ b) : bits .xor .u64 (b : Int) 9223372036854775808 = ((b - 9223372036854775808 : Nat) : Int) := by
  have h := u64_xor_nat b 9223372036854775808 hb (by omega)
  have h2 : b ^^^ 9223372036854775808 = b - 9223372036854775808 := by
    have e : b = 9223372036854775808 ||| (b - 9223372036854775808) := by
      rw [nat_join 63 9223372036854775808 (b - 9223372036854775808) (by decide) (by show _ < 9223372036854775808; omega)]; omega
    have e2 : (b - 9223372036854775808) &&& 9223372036854775808 = 0 := by
      have := nat_bit 63 (b - 9223372036854775808)
      rw [show (2 : Nat) ^ 63 = 9223372036854775808 from rfl] at this
      rw [this, Nat.div_eq_of_lt (by omega)]
    have e3 : b - 9223372036854775808 < 9223372036854775808 := by omega
    generalize hk : b - 9223372036854775808 = k at *
    subst e
    apply Nat.eq_of_testBit_eq
    intro i
    have e2i := congrArg (fun z => z.testBit i) e2
    simp only [Nat.testBit_and, Nat.zero_testBit] at e2i
    simp only [Nat.testBit_xor, Nat.testBit_or]
    revert e2i
    cases k.testBit i <;> cases (9223372036854775808 : Nat).testBit i <;> simp
  rw [h2] at h
  exact h
theorem wrapU (n : Nat) (h : n < 18446744073709551616) : IntKind.u64.wrap (n : Int) = (n : Int) := by
  simp only [IntKind.wrap, IntKind.bits, IntKind.signed]
  simp
  omega

set_option maxRecDepth 100000 in
set_option maxHeartbeats 400000 in
theorem isNaN_any (b : Nat) (w : World) (hb : b < 18446744073709551616) :
    Calls Try.prog 55 #[.float .f64 b] w fun e w' => e = .returned (.bool (Heat.notN b)) ∧ w = w' := by
  go_enter Try.func55, Try.ntmps55
  go_wp2
  go_ret
  exact ⟨ret_bool (Heat.order_self hb), rfl⟩

set_option maxRecDepth 100000 in
set_option maxHeartbeats 400000 in
theorem canon_any (b : Nat) (w : World) (hb : b < 18446744073709551616) :
    Calls Try.prog 20 #[.float .f64 b] w fun e w' => e = .returned (.float .f64 (Heat.bitsN b)) ∧ w = w' := by
  have hr : ∀ w, (callFunc 14 #[.int .u64 9221120237041090561]).run Try.prog w = .ok (.value (.float .f64 9221120237041090561)) w := from_run 9221120237041090561
  have HB : Hid (b < 18446744073709551616) := hb
  have HE : Hid (∀ h : Heat.notN b = true, Heat.bitsN b = 9221120237041090561) := fun h => Heat.bitsN_not h
  have HF : Hid (∀ h : Heat.notN b = false, Heat.bitsN b = b) := fun h => Heat.bitsN_num h
  clear hb
  go_enter Try.func20, Try.ntmps20
  go_wp2_with (go_at_call 55; ((with_reducible refine (isNaN_any b w HB.out).mono ?_); rintro e1 w' ⟨rfl, rfl⟩))
  · go_ret
    exact ⟨by rw [HE.out (by assumption)]; rfl, rfl⟩
  · go_ret
    exact ⟨by rw [HF.out (by assumption)]; rfl, rfl⟩

set_option maxRecDepth 100000 in
set_option maxHeartbeats 400000 in
theorem bits_any (b : Nat) (w : World) (hb : b < 18446744073709551616) :
    Calls Try.prog 18 #[.float .f64 b] w fun e w' => e = .returned (.int .u64 (Heat.bitsN b : Int)) ∧ w = w' := by
  have hr := bits_run
  have C := Lib.hid (canon_any b w hb)
  clear hb
  go_enter Try.func18, Try.ntmps18
  go_wp2_with (go_at_call 20; ((with_reducible refine C.out.mono ?_); rintro e1 w' ⟨rfl, rfl⟩))
  go_ret
  exact ⟨rfl, rfl⟩

set_option maxRecDepth 100000 in
set_option maxHeartbeats 400000 in
theorem of_any (b : Nat) (w : World) (hb : b < 18446744073709551616) :
    Calls Try.prog 21 #[.int .u64 (b : Int)] w fun e w' => e = .returned (.float .f64 (Heat.bitsN b)) ∧ w = w' := by
  have hr := from_run
  have C := Lib.hid (canon_any b w hb)
  clear hb
  go_enter Try.func21, Try.ntmps21
  go_wp2_with (go_at_call 20; ((with_reducible refine C.out.mono ?_); rintro e1 w' ⟨rfl, rfl⟩))
  go_ret
  exact ⟨rfl, rfl⟩

set_option maxRecDepth 100000 in
set_option maxHeartbeats 400000 in
theorem key_any (b : Nat) (w : World) (hb : b < 18446744073709551616) :
    Calls Try.prog 22 #[.float .f64 b] w fun e w' => e = .returned (.int .u64 (Heat.key b : Int)) ∧ w = w' := by
  have hr := bits_run
  have HB : Hid (b < 18446744073709551616) := hb
  have HN := Lib.hid (isNaN_any b w hb)
  clear hb
  go_enter Try.func22, Try.ntmps22
  go_wp2_with (go_at_call 55; ((with_reducible refine HN.out.mono ?_); rintro e1 w' ⟨rfl, rfl⟩))
  · go_ret
    exact ⟨ret_int (by rw [Heat.key_not (by assumption)]; rfl), rfl⟩
  · have hn : Heat.notN b = false := by assumption
    have hs : (bits .and .u64 (b : Int) 9223372036854775808 != 0) = true := by assumption
    go_ret
    refine ⟨ret_int ?_, rfl⟩
    have hb := HB.out
    rw [and63 b hb] at hs
    have hge : 9223372036854775808 ≤ b := by
      rcases Nat.lt_or_ge b 9223372036854775808 with hl | hl
      · exfalso; rw [Nat.div_eq_of_lt hl] at hs; simp at hs
      · exact hl
    rw [Heat.key_neg hn ((Heat.neg_iff b).2 hge), xorAll b hb]
    have := Heat.isnum hb hn
    rw [show ((18446744073709551615 - b : Nat) : Int) - 4503599627370494 = ((18442240474082181121 - b : Nat) : Int) by omega]
    exact wrapU _ (by omega)
  · have hn : Heat.notN b = false := by assumption
    have hs : (bits .and .u64 (b : Int) 9223372036854775808 != 0) = false := by assumption
    go_ret
    refine ⟨ret_int ?_, rfl⟩
    have hb := HB.out
    rw [and63 b hb] at hs
    have hlt : b < 9223372036854775808 := by
      rcases Nat.lt_or_ge b 9223372036854775808 with hl | hl
      · exact hl
      · exfalso
        have : b / 9223372036854775808 = 1 := by omega
        rw [this] at hs; simp at hs
    rw [Heat.key_pos hn ((Heat.neg_false b).2 hlt), or63 b hlt]
    have := Heat.isnum hb hn
    rw [show ((b + 9223372036854775808 : Nat) : Int) - 4503599627370494 = ((9218868437227405314 + b : Nat) : Int) by omega]
    exact wrapU _ (by omega)

/-- The bits of the heat that has a key. -/
def fromN (k : Nat) : Nat := if k = 0 ∨ 18437736874454810626 < k then 9221120237041090561 else if k + 4503599627370494 < 9223372036854775808 then 18446744073709551615 - (k + 4503599627370494) else k + 4503599627370494 - 9223372036854775808
theorem fromN_lt (k : Nat) : fromN k < 18446744073709551616 := by unfold fromN; split <;> (try split) <;> omega
theorem notN_num {b : Nat} (h : b ≤ 9218868437227405312 ∨ (9223372036854775808 ≤ b ∧ b ≤ 18442240474082181120)) : Heat.notN b = false := by
  cases hn : Heat.notN b with
  | false => rfl
  | true => rw [Heat.not_iff b (by omega)] at hn; omega
theorem key_fromN (k : Nat) (h : k ≤ 18437736874454810626) : Heat.key (fromN k) = k := by
  unfold fromN
  by_cases h0 : k = 0
  · rw [if_pos (.inl h0), Heat.key_not (by decide +kernel), h0]
  · rw [if_neg (by omega)]
    by_cases h1 : k + 4503599627370494 < 9223372036854775808
    · rw [if_pos h1, Heat.key_neg (notN_num (by omega)) ((Heat.neg_iff _).2 (by omega))]; omega
    · rw [if_neg h1, Heat.key_pos (notN_num (by omega)) ((Heat.neg_false _).2 (by omega))]; omega
theorem fromN_above {k : Nat} (h : 18437736874454810626 < k) : fromN k = 9221120237041090561 := by unfold fromN; rw [if_pos (.inr h)]
theorem bitsN_fromN {b : Nat} (hb : b < 18446744073709551616) : Heat.bitsN (fromN (Heat.key b)) = Heat.bitsN b :=
  (Heat.key_inj (fromN_lt _) hb).1 (key_fromN _ (Heat.key_range hb).1)

set_option maxRecDepth 100000 in
set_option maxHeartbeats 400000 in
theorem from_any (k : Nat) (w : World) (hk : k < 18446744073709551616) :
    Calls Try.prog 24 #[.int .u64 (k : Int)] w fun e w' => e = .returned (.float .f64 (fromN k)) ∧ w = w' := by
  have hr : ∀ w, (callFunc 14 #[.int .u64 9221120237041090561]).run Try.prog w = .ok (.value (.float .f64 9221120237041090561)) w := from_run 9221120237041090561
  by_cases h0 : k = 0
  · subst h0
    go_enter Try.func24, Try.ntmps24
    go_wp2
    go_ret
    exact ⟨rfl, rfl⟩
  by_cases h1 : 18437736874454810626 < k
  · have HE := Lib.hid (fromN_above h1)
    have d1 : decide ((k : Int) = 0) = false := decide_eq_false (by omega)
    have d2 : decide ((k : Int) > 18437736874454810626) = true := decide_eq_true (by omega)
    go_enter Try.func24, Try.ntmps24
    go_wp2
    all_goals first | (exfalso; omega) | skip
    all_goals (go_ret; exact ⟨by rw [HE.out]; rfl, rfl⟩)
  have hlt : k + 4503599627370494 < 18446744073709551616 := by omega
  have hwr : IntKind.u64.wrap ((k : Int) + 4503599627370494) = ((k + 4503599627370494 : Nat) : Int) := by
    rw [show (k : Int) + 4503599627370494 = ((k + 4503599627370494 : Nat) : Int) by omega]; exact wrapU _ hlt
  have HA := Lib.hid (and63 (k + 4503599627370494) hlt)
  have HX := Lib.hid (xorAll (k + 4503599627370494) hlt)
  by_cases h2 : k + 4503599627370494 < 9223372036854775808
  · have HE : Hid (fromN k = 18446744073709551615 - (k + 4503599627370494)) := by
      show fromN k = _; unfold fromN; rw [if_neg (by omega), if_pos h2]
    have hr2 : ∀ w, (callFunc 14 #[.int .u64 (bits .xor .u64 IntKind.u64.max ((k : Int) + 4503599627370494))]).run Try.prog w = .ok (.value (.float .f64 (18446744073709551615 - (k + 4503599627370494)))) w := fun w => by
      have := from_run (18446744073709551615 - (k + 4503599627370494)) w
      rw [← HX.out] at this
      rw [show (k : Int) + 4503599627370494 = ((k + 4503599627370494 : Nat) : Int) by omega]
      exact this
    have ha : (bits .and .u64 ((k : Int) + 4503599627370494) 9223372036854775808 == 0) = true := by
      rw [show (k : Int) + 4503599627370494 = ((k + 4503599627370494 : Nat) : Int) by omega, HA.out, Nat.div_eq_of_lt h2]; rfl
    clear hr
    clear hk hlt hwr HA HX
    go_enter Try.func24, Try.ntmps24
    go_wp2
    · exfalso
      have hx : ((k : Int) == 0) = true ∨ 18437736874454810626 < (k : Int) := by assumption
      rcases hx with hx | hx
      · rw [beq_iff_eq] at hx; omega
      · omega
    · go_ret
      exact ⟨by rw [HE.out]; exact congrArg (fun z => Ending.returned (Value.float .f64 z)) (by omega), rfl⟩
  · have HE : Hid (fromN k = k + 4503599627370494 - 9223372036854775808) := by
      show fromN k = _; unfold fromN; rw [if_neg (by omega), if_neg h2]
    have hr2 : ∀ w, (callFunc 14 #[.int .u64 (bits .xor .u64 ((k : Int) + 4503599627370494) 9223372036854775808)]).run Try.prog w = .ok (.value (.float .f64 (k + 4503599627370494 - 9223372036854775808))) w := fun w => by
      have := from_run (k + 4503599627370494 - 9223372036854775808) w
      rw [← xor63 (k + 4503599627370494) hlt (by omega)] at this
      rw [show (k : Int) + 4503599627370494 = ((k + 4503599627370494 : Nat) : Int) by omega]
      exact this
    have ha : (bits .and .u64 ((k : Int) + 4503599627370494) 9223372036854775808 == 0) = false := by
      rw [show (k : Int) + 4503599627370494 = ((k + 4503599627370494 : Nat) : Int) by omega, HA.out, show (k + 4503599627370494) / 9223372036854775808 = 1 by omega]; rfl
    clear hr hk hlt hwr HA HX
    go_enter Try.func24, Try.ntmps24
    go_wp2
    · exfalso
      have hx : ((k : Int) == 0) = true ∨ 18437736874454810626 < (k : Int) := by assumption
      rcases hx with hx | hx
      · rw [beq_iff_eq] at hx; omega
      · omega
    · go_ret
      exact ⟨by rw [HE.out]; exact congrArg (fun z => Ending.returned (Value.float .f64 z)) (by omega), rfl⟩

set_option maxRecDepth 100000 in
set_option maxHeartbeats 400000 in
theorem cmpU_any (a b : Nat) (w : World) :
    Calls Try.prog 53 #[.int .u64 (a : Int), .int .u64 (b : Int)] w fun e w' => e = .returned (.int .i64 (if a < b then -1 else if b < a then 1 else 0)) ∧ w = w' := by
  go_enter Try.func53, Try.ntmps53
  go_wp2
  all_goals (go_ret; exact ⟨rfl, rfl⟩)

set_option maxRecDepth 100000 in
set_option maxHeartbeats 400000 in
theorem compare_any (a b : Nat) (w : World) (ha : a < 18446744073709551616) (hb : b < 18446744073709551616) :
    Calls Try.prog 15 #[.float .f64 a, .float .f64 b] w fun e w' => e = .returned (.int .i64 (Heat.cmp a b)) ∧ w = w' := by
  have KA := Lib.hid (key_any a w ha)
  have KB := Lib.hid (key_any b w hb)
  have C : Hid (Calls Try.prog 53 #[.int .u64 (Heat.key a : Int), .int .u64 (Heat.key b : Int)] w fun e w' => e = .returned (.int .i64 (Heat.cmp a b)) ∧ w = w') := cmpU_any (Heat.key a) (Heat.key b) w
  clear ha hb
  go_enter Try.func15, Try.ntmps15
  go_wp2_with (first
    | (go_at_call 22; (first
        | ((with_reducible refine KA.out.mono ?_); rintro e1 w' ⟨rfl, rfl⟩)
        | ((with_reducible refine KB.out.mono ?_); rintro e1 w' ⟨rfl, rfl⟩)))
    | (go_at_call 53; ((with_reducible refine C.out.mono ?_); rintro e1 w' ⟨rfl, rfl⟩)))
  go_ret
  exact ⟨rfl, rfl⟩

set_option maxRecDepth 100000 in
set_option maxHeartbeats 400000 in
theorem add_any (a b : Nat) (w : World) :
    Calls Try.prog 27 #[.float .f64 a, .float .f64 b] w fun e w' => e = .returned (.float .f64 (Heat.sumN a b)) ∧ ∃ n, w' = w.drewN n := by
  obtain ⟨r, n, hrun, hr, hs⟩ := Heat.run_fadd Try.prog 24 a b w
  have C := Lib.hid (canon_any r (w.drewN n) hr)
  rw [hs] at C
  clear hr hs
  go_enter Try.func27, Try.ntmps27
  go_wp2_with (go_at_call 20; ((with_reducible refine C.out.mono ?_); rintro e1 w' ⟨rfl, rfl⟩))
  go_ret
  exact ⟨rfl, n, rfl⟩

set_option maxRecDepth 100000 in
set_option maxHeartbeats 400000 in
theorem nan_any (w : World) :
    Calls Try.prog 29 #[] w fun e w' => e = .returned (.float .f64 9221120237041090561) ∧ w = w' := by
  have hr : ∀ w, (callFunc 14 #[.int .u64 9221120237041090561]).run Try.prog w = .ok (.value (.float .f64 9221120237041090561)) w := from_run 9221120237041090561
  go_enter Try.func29, Try.ntmps29
  go_wp2
  go_ret
  exact ⟨rfl, rfl⟩

set_option maxRecDepth 100000 in
set_option maxHeartbeats 400000 in
theorem inf_up (w : World) :
    Calls Try.prog 26 #[.int .i64 1] w fun e w' => e = .returned (.float .f64 9218868437227405312) ∧ w = w' := by
  have hr : ∀ w, (callFunc 14 #[.int .u64 9218868437227405312]).run Try.prog w = .ok (.value (.float .f64 9218868437227405312)) w := from_run 9218868437227405312
  go_enter Try.func26, Try.ntmps26
  go_wp2
  go_ret
  exact ⟨rfl, rfl⟩

set_option maxRecDepth 100000 in
set_option maxHeartbeats 400000 in
theorem inf_down (w : World) :
    Calls Try.prog 26 #[.int .i64 (-1)] w fun e w' => e = .returned (.float .f64 18442240474082181120) ∧ w = w' := by
  have hr : ∀ w, (callFunc 14 #[.int .u64 18442240474082181120]).run Try.prog w = .ok (.value (.float .f64 18442240474082181120)) w := from_run 18442240474082181120
  go_enter Try.func26, Try.ntmps26
  go_wp2
  go_ret
  exact ⟨rfl, rfl⟩

set_option maxRecDepth 100000 in
set_option maxHeartbeats 400000 in
theorem negzero (w : World) :
    Calls Try.prog 28 #[.float .f64 0, .float .f64 13830554455654793216] w fun e w' => e = .returned (.float .f64 9223372036854775808) ∧ w = w' := by
  have h0 : ∀ w, (callFunc 19 #[.float .f64 0]).run Try.prog w = .ok (.value (.int .u64 0)) w := bits_run 0
  have h1 : ∀ w, (callFunc 19 #[.float .f64 13830554455654793216]).run Try.prog w = .ok (.value (.int .u64 13830554455654793216)) w := bits_run 13830554455654793216
  have hr : ∀ w, (callFunc 14 #[.int .u64 9223372036854775808]).run Try.prog w = .ok (.value (.float .f64 9223372036854775808)) w := from_run 9223372036854775808
  have e1 : bits .andNot .u64 0 9223372036854775808 = 0 := by decide +kernel
  have e2 : bits .and .u64 13830554455654793216 9223372036854775808 = 9223372036854775808 := by decide +kernel
  have e3 : bits .or .u64 0 9223372036854775808 = 9223372036854775808 := by decide +kernel
  go_enter Try.func28, Try.ntmps28
  go_wp2
  go_ret
  exact ⟨rfl, rfl⟩

theorem order_inf {b : Nat} (hb : b < 18446744073709551616) : (Ieee.double.order b 9218868437227405311 == some Ordering.gt) = (b == 9218868437227405312) := by
  cases hn : Heat.notN b with
  | true =>
    rw [Heat.order_nan hb hn]
    have : (b == 9218868437227405312) = false := by
      rw [beq_eq_false_iff_ne]
      intro h; rw [Heat.not_iff b hb] at hn; omega
    rw [this]; rfl
  | false =>
    rw [Heat.order_sv hb (by omega) hn (notN_num (by omega))]
    have h2 : Heat.sv 9218868437227405311 = 9218868437227405311 := by decide +kernel
    rw [h2]
    have hs := Heat.isnum hb hn
    have hv : (9218868437227405311 < Heat.sv b) ↔ b = 9218868437227405312 := by
      unfold Heat.sv
      by_cases hl : b < 9223372036854775808
      · rw [if_neg (by rw [(Heat.neg_false b).2 hl]; decide)]; omega
      · rw [if_pos ((Heat.neg_iff b).2 (by omega))]; omega
    by_cases he : b = 9218868437227405312
    · have h3 : compare (Heat.sv b) 9218868437227405311 = .gt := by
        have := hv.2 he
        rw [Int.compare_eq_gt]; exact this
      rw [h3, he]; rfl
    · have h3 : compare (Heat.sv b) 9218868437227405311 ≠ .gt := by
        rw [Ne, Int.compare_eq_gt]; intro h; exact he (hv.1 h)
      have h4 : (b == 9218868437227405312) = false := by rw [beq_eq_false_iff_ne]; exact he
      rw [h4]
      revert h3
      cases compare (Heat.sv b) 9218868437227405311 <;> simp

set_option maxRecDepth 100000 in
set_option maxHeartbeats 400000 in
theorem isInf_any (b : Nat) (w : World) (hb : b < 18446744073709551616) :
    Calls Try.prog 30 #[.float .f64 b, .int .i64 1] w fun e w' => e = .returned (.bool (b == 9218868437227405312)) ∧ w = w' := by
  have HE := Lib.hid (order_inf hb)
  go_enter Try.func30, Try.ntmps30
  go_wp2
  go_ret
  exact ⟨ret_bool HE.out, rfl⟩
end H
end Go.Proofs.Ytkbchpbdpkbnjaa
