/-
  Programs: the document's own answer: may an op be, may a program be.
-/
import Derived.Test.YtnhgoeoffjcooaaProOwn
namespace Go.Proofs.Ytnhgoeoffjcooaa
open Go.RowKit
namespace Pm
open B
set_option linter.unusedVariables false
theorem rin_any (x n : Int) (w : World) :
    Calls Try.prog 32 #[.int .i64 x, .int .i64 n] w fun e w' => e = .returned (.bool (inB n x)) ∧ w = w' := by
  unfold inB
  by_cases h0 : 0 ≤ x
  · rw [decide_eq_true h0, Bool.true_and]
    go_enter Try.func32, Try.ntmps32
    go_wp2
    go_ret
    exact ⟨rfl, rfl⟩
  · rw [decide_eq_false h0, Bool.false_and]
    go_enter Try.func32, Try.ntmps32
    go_wp2
    go_ret
    exact ⟨rfl, rfl⟩
set_option maxHeartbeats 4000000 in
theorem rvars_any (n : Int) (A : Option Addr) (l : List Int) (c : Nat) (w : World) (HA : At vInt w A l) (hl : l.length ≤ 2000000) :
    Calls Try.prog 33 #[.slice A l.length c, .int .i64 n] w fun e w' => e = .returned (.bool (l.all (inB n))) ∧ w = w' := by
  have HA := Lib.hid HA
  have HL := Lib.hid hl
  have HD : Hid ((l.drop 0).all (inB n) = l.all (inB n)) := rfl
  generalize hr0 : l.all (inB n) = r at *
  clear hr0 hl
  go_enter Try.func33, Try.ntmps33
  go_wp2
  go_loop [9] (fun t9 => ∃ i : Nat, t9 = .int .i64 (i : Int) ∧ i ≤ l.length ∧ (l.drop i).all (inB n) = r) (fun t9 => l.length - (intOf t9).toNat)
  case atStart => exact ⟨0, rfl, Nat.zero_le _, HD.out⟩
  case round =>
    obtain ⟨i, rfl, hil, hr⟩ := hrel
    clear HD
    by_cases hin : i < l.length
    · have hI : (i : Int) < (l.length : Int) := by omega
      have hb0 : i + 1 ≤ 2000000 := by have := HL.out; omega
      obtain ⟨b, off, hA, _, hc⟩ := HA.out (by omega)
      subst hA
      have c0 := hc i hin
      rw [all_drop _ l i hin] at hr
      have CF := Lib.hid (rin_any l[i] n w)
      clear hc
      generalize l[i] = x at *
      cases hx : inB n x with
      | true =>
        rw [hx] at hr CF
        rw [Bool.true_and] at hr
        have HR := Lib.hid hr
        clear hx hr
        go_wp2_with (go_at_call 32; ((with_reducible refine CF.out.mono ?_); rintro e w2 ⟨rfl, rfl⟩))
        go_round
        case rel => exact ⟨i + 1, by go_num, by omega, HR.out⟩
        case measure => simp [intOf]; omega
      | false =>
        rw [hx] at hr CF
        rw [Bool.false_and] at hr
        subst hr
        clear hx
        go_wp2_with (go_at_call 32; ((with_reducible refine CF.out.mono ?_); rintro e w2 ⟨rfl, rfl⟩))
        go_ret
        exact ⟨rfl, rfl⟩
    · have hI : ¬ (i : Int) < (l.length : Int) := by omega
      rw [List.drop_eq_nil_of_le (by omega)] at hr
      subst hr
      go_wp2
      go_ret
      exact ⟨rfl, rfl⟩
theorem two_boxes (w : World) (o1 o2 : Obj) : Below w.heap.size w ((w.alloc o1).alloc o2) := (below1 w o1).trans ((below1 (w.alloc o1) o2).mono (by simp))
theorem neg1 {a : Int} (h : (!a == -1) = false) : a = -1 := by simpa using h
set_option maxRecDepth 100000 in
set_option maxHeartbeats 8000000 in
theorem rop1_any (p : P) (Af : Option Addr) (cf : Nat) (Ae : Option Addr) (ce : Nat) (Ao : Option Addr) (co : Nat) (fn a b c : Int) (A : Option Addr) (args : List Int) (ca heat : Nat) (w : World) (hA : At vInt w A args) (hl : args.length ≤ 2000000) (hh : heat < 18446744073709551616) :
    Calls Try.prog 34 #[pv p Af cf Ae ce Ao co, .agg #[.int .i64 1, .int .i64 fn, .int .i64 a, .int .i64 b, .int .i64 c, .slice A args.length ca, .float .f64 heat]] w fun e w' => e = .returned (.bool (okO p ⟨1, fn, a, b, c, args, heat⟩)) ∧ Below w.heap.size w w' := by
  have CV := Lib.hid (fun X (q : Below w.heap.size w X) => rvars_any p.vars A args ca X (hA.below q) hl)
  have BB := Lib.hid (fun o1 o2 => two_boxes w o1 o2)
  have HH := Lib.hid hh
  have FIN := Lib.hid (fun (hf : inB (p.fs.length : Int) fn = true) (ha : inB p.vars a = true) (hb : inB p.objs b = true) (hc : c = 0) => (show okO p ⟨1, fn, a, b, c, args, heat⟩ = bare ⟨1, fn, a, b, c, args, heat⟩ from by
    simp only [okO, okK, hf, hb, hc, ha]
    simp [bare]))
  have F1 := Lib.hid (fun (hf : inB (p.fs.length : Int) fn = false) => (show okO p ⟨1, fn, a, b, c, args, heat⟩ = false from by simp [okO, hf]))
  have F2 := Lib.hid (fun (ha : inB p.vars a = false) => (show okO p ⟨1, fn, a, b, c, args, heat⟩ = false from by simp [okO, okK, ha]))
  have F3 := Lib.hid (fun (hb : inB p.objs b = false) => (show okO p ⟨1, fn, a, b, c, args, heat⟩ = false from by simp [okO, okK, hb]))
  have F4 := Lib.hid (fun (hc : ¬ c = 0) => (show okO p ⟨1, fn, a, b, c, args, heat⟩ = false from by simp [okO, okK, hc]))
  generalize hR : okO p ⟨1, fn, a, b, c, args, heat⟩ = R at *
  clear hA hh hR
  cases args with
  | nil =>
    have FIN := Lib.hid (fun h1 h2 h3 h4 => (FIN.out h1 h2 h3 h4).trans (show _ = (((Heat.bitsN heat : Nat) : Int) == 0) from by simp only [bare]; rfl))
    go_enter Try.func34, Try.ntmps34
    go_wp2_with (first | (go_at_call 32; ((with_reducible refine (rin_any _ _ _).mono ?_); rintro e w2 ⟨rfl, rfl⟩)) | (go_at_call 33; ((with_reducible refine (CV.out _ (BB.out _ _)).mono ?_); rintro e w2 ⟨rfl, rfl⟩)) | (go_at_call 55; ((with_reducible refine (H.refBits_any heat _ HH.out).mono ?_); rintro e w2 ⟨rfl, rfl⟩)))
    all_goals
      go_ret
      refine ⟨?_, BB.out _ _⟩
      first
        | exact ret_bool (F1.out (by rw [← Bool.not_eq_true']; assumption)).symm
        | exact ret_bool (F3.out (by rw [← Bool.not_eq_true']; assumption)).symm
        | exact ret_bool (F4.out (bne_iff_ne.mp (by assumption))).symm
        | exact ret_bool (F2.out (by rw [← Bool.not_eq_true']; assumption)).symm
        | exact ret_bool (F2.out (Bool.eq_false_iff.mpr (by assumption))).symm
        | exact ret_bool (FIN.out (by rw [← Bool.not_eq_false']; assumption) (by rw [← Bool.not_eq_false']; assumption) (by rw [← Bool.not_eq_false']; assumption) (bne_eq_false_iff_eq.mp (by assumption))).symm
        | exact ret_bool (FIN.out (by rw [← Bool.not_eq_false']; assumption) (by assumption) (by rw [← Bool.not_eq_false']; assumption) (bne_eq_false_iff_eq.mp (by assumption))).symm
  | cons y ys =>
    have e0 : ((((y :: ys).length : Nat) : Int) == 0) = false := by rw [beq_eq_false_iff_ne, List.length_cons]; omega
    have FIN := Lib.hid (fun h1 h2 h3 h4 => (FIN.out h1 h2 h3 h4).trans (show _ = false from by simp only [bare]; rw [show decide ((((y :: ys).length : Nat) : Int) = 0) = false from e0]; rfl))
    generalize (y :: ys).length = n0 at *
    go_enter Try.func34, Try.ntmps34
    go_wp2_with (first | (go_at_call 32; ((with_reducible refine (rin_any _ _ _).mono ?_); rintro e w2 ⟨rfl, rfl⟩)) | (go_at_call 33; ((with_reducible refine (CV.out _ (BB.out _ _)).mono ?_); rintro e w2 ⟨rfl, rfl⟩)) | (go_at_call 55; ((with_reducible refine (H.refBits_any heat _ HH.out).mono ?_); rintro e w2 ⟨rfl, rfl⟩)))
    all_goals
      go_ret
      refine ⟨?_, BB.out _ _⟩
      first
        | exact ret_bool (F1.out (by rw [← Bool.not_eq_true']; assumption)).symm
        | exact ret_bool (F3.out (by rw [← Bool.not_eq_true']; assumption)).symm
        | exact ret_bool (F4.out (bne_iff_ne.mp (by assumption))).symm
        | exact ret_bool (F2.out (by rw [← Bool.not_eq_true']; assumption)).symm
        | exact ret_bool (F2.out (Bool.eq_false_iff.mpr (by assumption))).symm
        | exact ret_bool (FIN.out (by rw [← Bool.not_eq_false']; assumption) (by rw [← Bool.not_eq_false']; assumption) (by rw [← Bool.not_eq_false']; assumption) (bne_eq_false_iff_eq.mp (by assumption))).symm
        | exact ret_bool (FIN.out (by rw [← Bool.not_eq_false']; assumption) (by assumption) (by rw [← Bool.not_eq_false']; assumption) (bne_eq_false_iff_eq.mp (by assumption))).symm
set_option maxRecDepth 100000 in
set_option maxHeartbeats 8000000 in
theorem rop2_any (p : P) (Af : Option Addr) (cf : Nat) (Ae : Option Addr) (ce : Nat) (Ao : Option Addr) (co : Nat) (fn a b c : Int) (A : Option Addr) (args : List Int) (ca heat : Nat) (w : World) (hA : At vInt w A args) (hl : args.length ≤ 2000000) (hh : heat < 18446744073709551616) :
    Calls Try.prog 34 #[pv p Af cf Ae ce Ao co, .agg #[.int .i64 2, .int .i64 fn, .int .i64 a, .int .i64 b, .int .i64 c, .slice A args.length ca, .float .f64 heat]] w fun e w' => e = .returned (.bool (okO p ⟨2, fn, a, b, c, args, heat⟩)) ∧ Below w.heap.size w w' := by
  have CV := Lib.hid (fun X (q : Below w.heap.size w X) => rvars_any p.vars A args ca X (hA.below q) hl)
  have BB := Lib.hid (fun o1 o2 => two_boxes w o1 o2)
  have HH := Lib.hid hh
  have FIN := Lib.hid (fun (hf : inB (p.fs.length : Int) fn = true) (ha : inB p.vars a = true) (hb : inB p.vars b = true) (hc : c = 0) => (show okO p ⟨2, fn, a, b, c, args, heat⟩ = bare ⟨2, fn, a, b, c, args, heat⟩ from by
    simp only [okO, okK, hf, hb, hc, ha]
    simp [bare]))
  have F1 := Lib.hid (fun (hf : inB (p.fs.length : Int) fn = false) => (show okO p ⟨2, fn, a, b, c, args, heat⟩ = false from by simp [okO, hf]))
  have F2 := Lib.hid (fun (ha : inB p.vars a = false) => (show okO p ⟨2, fn, a, b, c, args, heat⟩ = false from by simp [okO, okK, ha]))
  have F3 := Lib.hid (fun (hb : inB p.vars b = false) => (show okO p ⟨2, fn, a, b, c, args, heat⟩ = false from by simp [okO, okK, hb]))
  have F4 := Lib.hid (fun (hc : ¬ c = 0) => (show okO p ⟨2, fn, a, b, c, args, heat⟩ = false from by simp [okO, okK, hc]))
  generalize hR : okO p ⟨2, fn, a, b, c, args, heat⟩ = R at *
  clear hA hh hR
  cases args with
  | nil =>
    have FIN := Lib.hid (fun h1 h2 h3 h4 => (FIN.out h1 h2 h3 h4).trans (show _ = (((Heat.bitsN heat : Nat) : Int) == 0) from by simp only [bare]; rfl))
    go_enter Try.func34, Try.ntmps34
    go_wp2_with (first | (go_at_call 32; ((with_reducible refine (rin_any _ _ _).mono ?_); rintro e w2 ⟨rfl, rfl⟩)) | (go_at_call 33; ((with_reducible refine (CV.out _ (BB.out _ _)).mono ?_); rintro e w2 ⟨rfl, rfl⟩)) | (go_at_call 55; ((with_reducible refine (H.refBits_any heat _ HH.out).mono ?_); rintro e w2 ⟨rfl, rfl⟩)))
    all_goals
      go_ret
      refine ⟨?_, BB.out _ _⟩
      first
        | exact ret_bool (F1.out (by rw [← Bool.not_eq_true']; assumption)).symm
        | exact ret_bool (F3.out (by rw [← Bool.not_eq_true']; assumption)).symm
        | exact ret_bool (F4.out (bne_iff_ne.mp (by assumption))).symm
        | exact ret_bool (F2.out (by rw [← Bool.not_eq_true']; assumption)).symm
        | exact ret_bool (F2.out (Bool.eq_false_iff.mpr (by assumption))).symm
        | exact ret_bool (FIN.out (by rw [← Bool.not_eq_false']; assumption) (by rw [← Bool.not_eq_false']; assumption) (by rw [← Bool.not_eq_false']; assumption) (bne_eq_false_iff_eq.mp (by assumption))).symm
        | exact ret_bool (FIN.out (by rw [← Bool.not_eq_false']; assumption) (by assumption) (by rw [← Bool.not_eq_false']; assumption) (bne_eq_false_iff_eq.mp (by assumption))).symm
  | cons y ys =>
    have e0 : ((((y :: ys).length : Nat) : Int) == 0) = false := by rw [beq_eq_false_iff_ne, List.length_cons]; omega
    have FIN := Lib.hid (fun h1 h2 h3 h4 => (FIN.out h1 h2 h3 h4).trans (show _ = false from by simp only [bare]; rw [show decide ((((y :: ys).length : Nat) : Int) = 0) = false from e0]; rfl))
    generalize (y :: ys).length = n0 at *
    go_enter Try.func34, Try.ntmps34
    go_wp2_with (first | (go_at_call 32; ((with_reducible refine (rin_any _ _ _).mono ?_); rintro e w2 ⟨rfl, rfl⟩)) | (go_at_call 33; ((with_reducible refine (CV.out _ (BB.out _ _)).mono ?_); rintro e w2 ⟨rfl, rfl⟩)) | (go_at_call 55; ((with_reducible refine (H.refBits_any heat _ HH.out).mono ?_); rintro e w2 ⟨rfl, rfl⟩)))
    all_goals
      go_ret
      refine ⟨?_, BB.out _ _⟩
      first
        | exact ret_bool (F1.out (by rw [← Bool.not_eq_true']; assumption)).symm
        | exact ret_bool (F3.out (by rw [← Bool.not_eq_true']; assumption)).symm
        | exact ret_bool (F4.out (bne_iff_ne.mp (by assumption))).symm
        | exact ret_bool (F2.out (by rw [← Bool.not_eq_true']; assumption)).symm
        | exact ret_bool (F2.out (Bool.eq_false_iff.mpr (by assumption))).symm
        | exact ret_bool (FIN.out (by rw [← Bool.not_eq_false']; assumption) (by rw [← Bool.not_eq_false']; assumption) (by rw [← Bool.not_eq_false']; assumption) (bne_eq_false_iff_eq.mp (by assumption))).symm
        | exact ret_bool (FIN.out (by rw [← Bool.not_eq_false']; assumption) (by assumption) (by rw [← Bool.not_eq_false']; assumption) (bne_eq_false_iff_eq.mp (by assumption))).symm
set_option maxRecDepth 100000 in
set_option maxHeartbeats 8000000 in
theorem rop3_any (p : P) (Af : Option Addr) (cf : Nat) (Ae : Option Addr) (ce : Nat) (Ao : Option Addr) (co : Nat) (fn a b c : Int) (A : Option Addr) (args : List Int) (ca heat : Nat) (w : World) (hA : At vInt w A args) (hl : args.length ≤ 2000000) (hh : heat < 18446744073709551616) :
    Calls Try.prog 34 #[pv p Af cf Ae ce Ao co, .agg #[.int .i64 3, .int .i64 fn, .int .i64 a, .int .i64 b, .int .i64 c, .slice A args.length ca, .float .f64 heat]] w fun e w' => e = .returned (.bool (okO p ⟨3, fn, a, b, c, args, heat⟩)) ∧ Below w.heap.size w w' := by
  have CV := Lib.hid (fun X (q : Below w.heap.size w X) => rvars_any p.vars A args ca X (hA.below q) hl)
  have BB := Lib.hid (fun o1 o2 => two_boxes w o1 o2)
  have HH := Lib.hid hh
  have FIN := Lib.hid (fun (hf : inB (p.fs.length : Int) fn = true) (ha : inB p.vars a = true) (hb : inB p.vars b = true) (hc : inB p.fields c = true) => (show okO p ⟨3, fn, a, b, c, args, heat⟩ = bare ⟨3, fn, a, b, c, args, heat⟩ from by
    simp only [okO, okK, hf, hb, hc, ha]
    simp [bare]))
  have F1 := Lib.hid (fun (hf : inB (p.fs.length : Int) fn = false) => (show okO p ⟨3, fn, a, b, c, args, heat⟩ = false from by simp [okO, hf]))
  have F2 := Lib.hid (fun (ha : inB p.vars a = false) => (show okO p ⟨3, fn, a, b, c, args, heat⟩ = false from by simp [okO, okK, ha]))
  have F3 := Lib.hid (fun (hb : inB p.vars b = false) => (show okO p ⟨3, fn, a, b, c, args, heat⟩ = false from by simp [okO, okK, hb]))
  have F4 := Lib.hid (fun (hc : inB p.fields c = false) => (show okO p ⟨3, fn, a, b, c, args, heat⟩ = false from by simp [okO, okK, hc]))
  generalize hR : okO p ⟨3, fn, a, b, c, args, heat⟩ = R at *
  clear hA hh hR
  cases args with
  | nil =>
    have FIN := Lib.hid (fun h1 h2 h3 h4 => (FIN.out h1 h2 h3 h4).trans (show _ = (((Heat.bitsN heat : Nat) : Int) == 0) from by simp only [bare]; rfl))
    go_enter Try.func34, Try.ntmps34
    go_wp2_with (first | (go_at_call 32; ((with_reducible refine (rin_any _ _ _).mono ?_); rintro e w2 ⟨rfl, rfl⟩)) | (go_at_call 33; ((with_reducible refine (CV.out _ (BB.out _ _)).mono ?_); rintro e w2 ⟨rfl, rfl⟩)) | (go_at_call 55; ((with_reducible refine (H.refBits_any heat _ HH.out).mono ?_); rintro e w2 ⟨rfl, rfl⟩)))
    all_goals
      go_ret
      refine ⟨?_, BB.out _ _⟩
      first
        | exact ret_bool (F1.out (by rw [← Bool.not_eq_true']; assumption)).symm
        | exact ret_bool (F3.out (by rw [← Bool.not_eq_true']; assumption)).symm
        | exact ret_bool (F4.out (by rw [← Bool.not_eq_true']; assumption)).symm
        | exact ret_bool (F2.out (by rw [← Bool.not_eq_true']; assumption)).symm
        | exact ret_bool (F2.out (Bool.eq_false_iff.mpr (by assumption))).symm
        | exact ret_bool (FIN.out (by rw [← Bool.not_eq_false']; assumption) (by rw [← Bool.not_eq_false']; assumption) (by rw [← Bool.not_eq_false']; assumption) (by rw [← Bool.not_eq_false']; assumption)).symm
        | exact ret_bool (FIN.out (by rw [← Bool.not_eq_false']; assumption) (by assumption) (by rw [← Bool.not_eq_false']; assumption) (by rw [← Bool.not_eq_false']; assumption)).symm
  | cons y ys =>
    have e0 : ((((y :: ys).length : Nat) : Int) == 0) = false := by rw [beq_eq_false_iff_ne, List.length_cons]; omega
    have FIN := Lib.hid (fun h1 h2 h3 h4 => (FIN.out h1 h2 h3 h4).trans (show _ = false from by simp only [bare]; rw [show decide ((((y :: ys).length : Nat) : Int) = 0) = false from e0]; rfl))
    generalize (y :: ys).length = n0 at *
    go_enter Try.func34, Try.ntmps34
    go_wp2_with (first | (go_at_call 32; ((with_reducible refine (rin_any _ _ _).mono ?_); rintro e w2 ⟨rfl, rfl⟩)) | (go_at_call 33; ((with_reducible refine (CV.out _ (BB.out _ _)).mono ?_); rintro e w2 ⟨rfl, rfl⟩)) | (go_at_call 55; ((with_reducible refine (H.refBits_any heat _ HH.out).mono ?_); rintro e w2 ⟨rfl, rfl⟩)))
    all_goals
      go_ret
      refine ⟨?_, BB.out _ _⟩
      first
        | exact ret_bool (F1.out (by rw [← Bool.not_eq_true']; assumption)).symm
        | exact ret_bool (F3.out (by rw [← Bool.not_eq_true']; assumption)).symm
        | exact ret_bool (F4.out (by rw [← Bool.not_eq_true']; assumption)).symm
        | exact ret_bool (F2.out (by rw [← Bool.not_eq_true']; assumption)).symm
        | exact ret_bool (F2.out (Bool.eq_false_iff.mpr (by assumption))).symm
        | exact ret_bool (FIN.out (by rw [← Bool.not_eq_false']; assumption) (by rw [← Bool.not_eq_false']; assumption) (by rw [← Bool.not_eq_false']; assumption) (by rw [← Bool.not_eq_false']; assumption)).symm
        | exact ret_bool (FIN.out (by rw [← Bool.not_eq_false']; assumption) (by assumption) (by rw [← Bool.not_eq_false']; assumption) (by rw [← Bool.not_eq_false']; assumption)).symm
set_option maxRecDepth 100000 in
set_option maxHeartbeats 8000000 in
theorem rop4_any (p : P) (Af : Option Addr) (cf : Nat) (Ae : Option Addr) (ce : Nat) (Ao : Option Addr) (co : Nat) (fn a b c : Int) (A : Option Addr) (args : List Int) (ca heat : Nat) (w : World) (hA : At vInt w A args) (hl : args.length ≤ 2000000) (hh : heat < 18446744073709551616) :
    Calls Try.prog 34 #[pv p Af cf Ae ce Ao co, .agg #[.int .i64 4, .int .i64 fn, .int .i64 a, .int .i64 b, .int .i64 c, .slice A args.length ca, .float .f64 heat]] w fun e w' => e = .returned (.bool (okO p ⟨4, fn, a, b, c, args, heat⟩)) ∧ Below w.heap.size w w' := by
  have CV := Lib.hid (fun X (q : Below w.heap.size w X) => rvars_any p.vars A args ca X (hA.below q) hl)
  have BB := Lib.hid (fun o1 o2 => two_boxes w o1 o2)
  have HH := Lib.hid hh
  have FIN := Lib.hid (fun (hf : inB (p.fs.length : Int) fn = true) (ha : inB p.vars a = true) (hb : inB p.vars b = true) (hc : inB p.fields c = true) => (show okO p ⟨4, fn, a, b, c, args, heat⟩ = bare ⟨4, fn, a, b, c, args, heat⟩ from by
    simp only [okO, okK, hf, hb, hc, ha]
    simp [bare]))
  have F1 := Lib.hid (fun (hf : inB (p.fs.length : Int) fn = false) => (show okO p ⟨4, fn, a, b, c, args, heat⟩ = false from by simp [okO, hf]))
  have F2 := Lib.hid (fun (ha : inB p.vars a = false) => (show okO p ⟨4, fn, a, b, c, args, heat⟩ = false from by simp [okO, okK, ha]))
  have F3 := Lib.hid (fun (hb : inB p.vars b = false) => (show okO p ⟨4, fn, a, b, c, args, heat⟩ = false from by simp [okO, okK, hb]))
  have F4 := Lib.hid (fun (hc : inB p.fields c = false) => (show okO p ⟨4, fn, a, b, c, args, heat⟩ = false from by simp [okO, okK, hc]))
  generalize hR : okO p ⟨4, fn, a, b, c, args, heat⟩ = R at *
  clear hA hh hR
  cases args with
  | nil =>
    have FIN := Lib.hid (fun h1 h2 h3 h4 => (FIN.out h1 h2 h3 h4).trans (show _ = (((Heat.bitsN heat : Nat) : Int) == 0) from by simp only [bare]; rfl))
    go_enter Try.func34, Try.ntmps34
    go_wp2_with (first | (go_at_call 32; ((with_reducible refine (rin_any _ _ _).mono ?_); rintro e w2 ⟨rfl, rfl⟩)) | (go_at_call 33; ((with_reducible refine (CV.out _ (BB.out _ _)).mono ?_); rintro e w2 ⟨rfl, rfl⟩)) | (go_at_call 55; ((with_reducible refine (H.refBits_any heat _ HH.out).mono ?_); rintro e w2 ⟨rfl, rfl⟩)))
    all_goals
      go_ret
      refine ⟨?_, BB.out _ _⟩
      first
        | exact ret_bool (F1.out (by rw [← Bool.not_eq_true']; assumption)).symm
        | exact ret_bool (F3.out (by rw [← Bool.not_eq_true']; assumption)).symm
        | exact ret_bool (F4.out (by rw [← Bool.not_eq_true']; assumption)).symm
        | exact ret_bool (F2.out (by rw [← Bool.not_eq_true']; assumption)).symm
        | exact ret_bool (F2.out (Bool.eq_false_iff.mpr (by assumption))).symm
        | exact ret_bool (FIN.out (by rw [← Bool.not_eq_false']; assumption) (by rw [← Bool.not_eq_false']; assumption) (by rw [← Bool.not_eq_false']; assumption) (by rw [← Bool.not_eq_false']; assumption)).symm
        | exact ret_bool (FIN.out (by rw [← Bool.not_eq_false']; assumption) (by assumption) (by rw [← Bool.not_eq_false']; assumption) (by rw [← Bool.not_eq_false']; assumption)).symm
  | cons y ys =>
    have e0 : ((((y :: ys).length : Nat) : Int) == 0) = false := by rw [beq_eq_false_iff_ne, List.length_cons]; omega
    have FIN := Lib.hid (fun h1 h2 h3 h4 => (FIN.out h1 h2 h3 h4).trans (show _ = false from by simp only [bare]; rw [show decide ((((y :: ys).length : Nat) : Int) = 0) = false from e0]; rfl))
    generalize (y :: ys).length = n0 at *
    go_enter Try.func34, Try.ntmps34
    go_wp2_with (first | (go_at_call 32; ((with_reducible refine (rin_any _ _ _).mono ?_); rintro e w2 ⟨rfl, rfl⟩)) | (go_at_call 33; ((with_reducible refine (CV.out _ (BB.out _ _)).mono ?_); rintro e w2 ⟨rfl, rfl⟩)) | (go_at_call 55; ((with_reducible refine (H.refBits_any heat _ HH.out).mono ?_); rintro e w2 ⟨rfl, rfl⟩)))
    all_goals
      go_ret
      refine ⟨?_, BB.out _ _⟩
      first
        | exact ret_bool (F1.out (by rw [← Bool.not_eq_true']; assumption)).symm
        | exact ret_bool (F3.out (by rw [← Bool.not_eq_true']; assumption)).symm
        | exact ret_bool (F4.out (by rw [← Bool.not_eq_true']; assumption)).symm
        | exact ret_bool (F2.out (by rw [← Bool.not_eq_true']; assumption)).symm
        | exact ret_bool (F2.out (Bool.eq_false_iff.mpr (by assumption))).symm
        | exact ret_bool (FIN.out (by rw [← Bool.not_eq_false']; assumption) (by rw [← Bool.not_eq_false']; assumption) (by rw [← Bool.not_eq_false']; assumption) (by rw [← Bool.not_eq_false']; assumption)).symm
        | exact ret_bool (FIN.out (by rw [← Bool.not_eq_false']; assumption) (by assumption) (by rw [← Bool.not_eq_false']; assumption) (by rw [← Bool.not_eq_false']; assumption)).symm
set_option maxRecDepth 100000 in
set_option maxHeartbeats 8000000 in
theorem rop5_any (p : P) (Af : Option Addr) (cf : Nat) (Ae : Option Addr) (ce : Nat) (Ao : Option Addr) (co : Nat) (fn a b c : Int) (A : Option Addr) (args : List Int) (ca heat : Nat) (w : World) (hA : At vInt w A args) (hl : args.length ≤ 2000000) (hh : heat < 18446744073709551616) :
    Calls Try.prog 34 #[pv p Af cf Ae ce Ao co, .agg #[.int .i64 5, .int .i64 fn, .int .i64 a, .int .i64 b, .int .i64 c, .slice A args.length ca, .float .f64 heat]] w fun e w' => e = .returned (.bool (okO p ⟨5, fn, a, b, c, args, heat⟩)) ∧ Below w.heap.size w w' := by
  have CV := Lib.hid (fun X (q : Below w.heap.size w X) => rvars_any p.vars A args ca X (hA.below q) hl)
  have BB := Lib.hid (fun o1 o2 => two_boxes w o1 o2)
  have HH := Lib.hid hh
  have FIN := Lib.hid (fun (hf : inB (p.fs.length : Int) fn = true) (ha : inB p.vars a = true) (hb : inB (p.fs.length : Int) b = true) (hc : c = 0) => (show okO p ⟨5, fn, a, b, c, args, heat⟩ = bare ⟨5, fn, a, b, c, args, heat⟩ from by
    simp only [okO, okK, hf, hb, hc, ha]
    simp [bare]))
  have F1 := Lib.hid (fun (hf : inB (p.fs.length : Int) fn = false) => (show okO p ⟨5, fn, a, b, c, args, heat⟩ = false from by simp [okO, hf]))
  have F2 := Lib.hid (fun (ha : inB p.vars a = false) => (show okO p ⟨5, fn, a, b, c, args, heat⟩ = false from by simp [okO, okK, ha]))
  have F3 := Lib.hid (fun (hb : inB (p.fs.length : Int) b = false) => (show okO p ⟨5, fn, a, b, c, args, heat⟩ = false from by simp [okO, okK, hb]))
  have F4 := Lib.hid (fun (hc : ¬ c = 0) => (show okO p ⟨5, fn, a, b, c, args, heat⟩ = false from by simp [okO, okK, hc]))
  generalize hR : okO p ⟨5, fn, a, b, c, args, heat⟩ = R at *
  clear hA hh hR
  cases args with
  | nil =>
    have FIN := Lib.hid (fun h1 h2 h3 h4 => (FIN.out h1 h2 h3 h4).trans (show _ = (((Heat.bitsN heat : Nat) : Int) == 0) from by simp only [bare]; rfl))
    go_enter Try.func34, Try.ntmps34
    go_wp2_with (first | (go_at_call 32; ((with_reducible refine (rin_any _ _ _).mono ?_); rintro e w2 ⟨rfl, rfl⟩)) | (go_at_call 33; ((with_reducible refine (CV.out _ (BB.out _ _)).mono ?_); rintro e w2 ⟨rfl, rfl⟩)) | (go_at_call 55; ((with_reducible refine (H.refBits_any heat _ HH.out).mono ?_); rintro e w2 ⟨rfl, rfl⟩)))
    all_goals
      go_ret
      refine ⟨?_, BB.out _ _⟩
      first
        | exact ret_bool (F1.out (by rw [← Bool.not_eq_true']; assumption)).symm
        | exact ret_bool (F3.out (by rw [← Bool.not_eq_true']; assumption)).symm
        | exact ret_bool (F4.out (bne_iff_ne.mp (by assumption))).symm
        | exact ret_bool (F2.out (by rw [← Bool.not_eq_true']; assumption)).symm
        | exact ret_bool (F2.out (Bool.eq_false_iff.mpr (by assumption))).symm
        | exact ret_bool (FIN.out (by rw [← Bool.not_eq_false']; assumption) (by rw [← Bool.not_eq_false']; assumption) (by rw [← Bool.not_eq_false']; assumption) (bne_eq_false_iff_eq.mp (by assumption))).symm
        | exact ret_bool (FIN.out (by rw [← Bool.not_eq_false']; assumption) (by assumption) (by rw [← Bool.not_eq_false']; assumption) (bne_eq_false_iff_eq.mp (by assumption))).symm
  | cons y ys =>
    have e0 : ((((y :: ys).length : Nat) : Int) == 0) = false := by rw [beq_eq_false_iff_ne, List.length_cons]; omega
    have FIN := Lib.hid (fun h1 h2 h3 h4 => (FIN.out h1 h2 h3 h4).trans (show _ = false from by simp only [bare]; rw [show decide ((((y :: ys).length : Nat) : Int) = 0) = false from e0]; rfl))
    generalize (y :: ys).length = n0 at *
    go_enter Try.func34, Try.ntmps34
    go_wp2_with (first | (go_at_call 32; ((with_reducible refine (rin_any _ _ _).mono ?_); rintro e w2 ⟨rfl, rfl⟩)) | (go_at_call 33; ((with_reducible refine (CV.out _ (BB.out _ _)).mono ?_); rintro e w2 ⟨rfl, rfl⟩)) | (go_at_call 55; ((with_reducible refine (H.refBits_any heat _ HH.out).mono ?_); rintro e w2 ⟨rfl, rfl⟩)))
    all_goals
      go_ret
      refine ⟨?_, BB.out _ _⟩
      first
        | exact ret_bool (F1.out (by rw [← Bool.not_eq_true']; assumption)).symm
        | exact ret_bool (F3.out (by rw [← Bool.not_eq_true']; assumption)).symm
        | exact ret_bool (F4.out (bne_iff_ne.mp (by assumption))).symm
        | exact ret_bool (F2.out (by rw [← Bool.not_eq_true']; assumption)).symm
        | exact ret_bool (F2.out (Bool.eq_false_iff.mpr (by assumption))).symm
        | exact ret_bool (FIN.out (by rw [← Bool.not_eq_false']; assumption) (by rw [← Bool.not_eq_false']; assumption) (by rw [← Bool.not_eq_false']; assumption) (bne_eq_false_iff_eq.mp (by assumption))).symm
        | exact ret_bool (FIN.out (by rw [← Bool.not_eq_false']; assumption) (by assumption) (by rw [← Bool.not_eq_false']; assumption) (bne_eq_false_iff_eq.mp (by assumption))).symm
set_option maxRecDepth 100000 in
set_option maxHeartbeats 8000000 in
theorem rop6_any (p : P) (Af : Option Addr) (cf : Nat) (Ae : Option Addr) (ce : Nat) (Ao : Option Addr) (co : Nat) (fn a b c : Int) (A : Option Addr) (args : List Int) (ca heat : Nat) (w : World) (hA : At vInt w A args) (hl : args.length ≤ 2000000) (hh : heat < 18446744073709551616) :
    Calls Try.prog 34 #[pv p Af cf Ae ce Ao co, .agg #[.int .i64 6, .int .i64 fn, .int .i64 a, .int .i64 b, .int .i64 c, .slice A args.length ca, .float .f64 heat]] w fun e w' => e = .returned (.bool (okO p ⟨6, fn, a, b, c, args, heat⟩)) ∧ Below w.heap.size w w' := by
  have CV := Lib.hid (fun X (q : Below w.heap.size w X) => rvars_any p.vars A args ca X (hA.below q) hl)
  have BB := Lib.hid (fun o1 o2 => two_boxes w o1 o2)
  have HH := Lib.hid hh
  have FIN := Lib.hid (fun (hf : inB (p.fs.length : Int) fn = true) (ha : (a = -1 ∨ inB p.vars a = true)) (hb : inB (p.fs.length : Int) b = true) (hc : c = 0) => (show okO p ⟨6, fn, a, b, c, args, heat⟩ = args.all (inB p.vars) from by
    simp only [okO, okK, hf, hb, hc, orN]
    rcases ha with ha | ha <;> simp [ha]))
  have F1 := Lib.hid (fun (hf : inB (p.fs.length : Int) fn = false) => (show okO p ⟨6, fn, a, b, c, args, heat⟩ = false from by simp [okO, hf]))
  have F2 := Lib.hid (fun (ha : inB p.vars a = false) (ha2 : ¬ a = -1) => (show okO p ⟨6, fn, a, b, c, args, heat⟩ = false from by simp [okO, okK, ha, orN, ha2]))
  have F3 := Lib.hid (fun (hb : inB (p.fs.length : Int) b = false) => (show okO p ⟨6, fn, a, b, c, args, heat⟩ = false from by simp [okO, okK, hb]))
  have F4 := Lib.hid (fun (hc : ¬ c = 0) => (show okO p ⟨6, fn, a, b, c, args, heat⟩ = false from by simp [okO, okK, hc]))
  generalize hR : okO p ⟨6, fn, a, b, c, args, heat⟩ = R at *
  clear hA hh hR
  go_enter Try.func34, Try.ntmps34
  go_wp2_with (first | (go_at_call 32; ((with_reducible refine (rin_any _ _ _).mono ?_); rintro e w2 ⟨rfl, rfl⟩)) | (go_at_call 33; ((with_reducible refine (CV.out _ (BB.out _ _)).mono ?_); rintro e w2 ⟨rfl, rfl⟩)) | (go_at_call 55; ((with_reducible refine (H.refBits_any heat _ HH.out).mono ?_); rintro e w2 ⟨rfl, rfl⟩)))
  all_goals
    go_ret
    refine ⟨?_, BB.out _ _⟩
    first
      | exact ret_bool (F1.out (by rw [← Bool.not_eq_true']; assumption)).symm
      | exact ret_bool (F3.out (by rw [← Bool.not_eq_true']; assumption)).symm
      | exact ret_bool (F4.out (bne_iff_ne.mp (by assumption))).symm
      | exact ret_bool (F2.out (Bool.eq_false_iff.mpr (by assumption)) (fun q => absurd (show (!a == -1) = true by assumption) (by rw [q]; decide))).symm
      | exact ret_bool (FIN.out (by rw [← Bool.not_eq_false']; assumption) (.inr (by assumption)) (by rw [← Bool.not_eq_false']; assumption) (bne_eq_false_iff_eq.mp (by assumption))).symm
      | exact ret_bool (FIN.out (by rw [← Bool.not_eq_false']; assumption) (.inl (neg1 (by assumption))) (by rw [← Bool.not_eq_false']; assumption) (bne_eq_false_iff_eq.mp (by assumption))).symm
set_option maxRecDepth 100000 in
set_option maxHeartbeats 8000000 in
theorem rop7_any (p : P) (Af : Option Addr) (cf : Nat) (Ae : Option Addr) (ce : Nat) (Ao : Option Addr) (co : Nat) (fn a b c : Int) (A : Option Addr) (args : List Int) (ca heat : Nat) (w : World) (hA : At vInt w A args) (hl : args.length ≤ 2000000) (hh : heat < 18446744073709551616) :
    Calls Try.prog 34 #[pv p Af cf Ae ce Ao co, .agg #[.int .i64 7, .int .i64 fn, .int .i64 a, .int .i64 b, .int .i64 c, .slice A args.length ca, .float .f64 heat]] w fun e w' => e = .returned (.bool (okO p ⟨7, fn, a, b, c, args, heat⟩)) ∧ Below w.heap.size w w' := by
  have CV := Lib.hid (fun X (q : Below w.heap.size w X) => rvars_any p.vars A args ca X (hA.below q) hl)
  have BB := Lib.hid (fun o1 o2 => two_boxes w o1 o2)
  have HH := Lib.hid hh
  have FIN := Lib.hid (fun (hf : inB (p.fs.length : Int) fn = true) (ha : (a = -1 ∨ inB p.vars a = true)) (hb : inB p.vars b = true) (hc : c = 0) => (show okO p ⟨7, fn, a, b, c, args, heat⟩ = args.all (inB p.vars) from by
    simp only [okO, okK, hf, hb, hc, orN]
    rcases ha with ha | ha <;> simp [ha]))
  have F1 := Lib.hid (fun (hf : inB (p.fs.length : Int) fn = false) => (show okO p ⟨7, fn, a, b, c, args, heat⟩ = false from by simp [okO, hf]))
  have F2 := Lib.hid (fun (ha : inB p.vars a = false) (ha2 : ¬ a = -1) => (show okO p ⟨7, fn, a, b, c, args, heat⟩ = false from by simp [okO, okK, ha, orN, ha2]))
  have F3 := Lib.hid (fun (hb : inB p.vars b = false) => (show okO p ⟨7, fn, a, b, c, args, heat⟩ = false from by simp [okO, okK, hb]))
  have F4 := Lib.hid (fun (hc : ¬ c = 0) => (show okO p ⟨7, fn, a, b, c, args, heat⟩ = false from by simp [okO, okK, hc]))
  generalize hR : okO p ⟨7, fn, a, b, c, args, heat⟩ = R at *
  clear hA hh hR
  go_enter Try.func34, Try.ntmps34
  go_wp2_with (first | (go_at_call 32; ((with_reducible refine (rin_any _ _ _).mono ?_); rintro e w2 ⟨rfl, rfl⟩)) | (go_at_call 33; ((with_reducible refine (CV.out _ (BB.out _ _)).mono ?_); rintro e w2 ⟨rfl, rfl⟩)) | (go_at_call 55; ((with_reducible refine (H.refBits_any heat _ HH.out).mono ?_); rintro e w2 ⟨rfl, rfl⟩)))
  all_goals
    go_ret
    refine ⟨?_, BB.out _ _⟩
    first
      | exact ret_bool (F1.out (by rw [← Bool.not_eq_true']; assumption)).symm
      | exact ret_bool (F3.out (by rw [← Bool.not_eq_true']; assumption)).symm
      | exact ret_bool (F4.out (bne_iff_ne.mp (by assumption))).symm
      | exact ret_bool (F2.out (Bool.eq_false_iff.mpr (by assumption)) (fun q => absurd (show (!a == -1) = true by assumption) (by rw [q]; decide))).symm
      | exact ret_bool (FIN.out (by rw [← Bool.not_eq_false']; assumption) (.inr (by assumption)) (by rw [← Bool.not_eq_false']; assumption) (bne_eq_false_iff_eq.mp (by assumption))).symm
      | exact ret_bool (FIN.out (by rw [← Bool.not_eq_false']; assumption) (.inl (neg1 (by assumption))) (by rw [← Bool.not_eq_false']; assumption) (bne_eq_false_iff_eq.mp (by assumption))).symm
end Pm
end Go.Proofs.Ytnhgoeoffjcooaa
