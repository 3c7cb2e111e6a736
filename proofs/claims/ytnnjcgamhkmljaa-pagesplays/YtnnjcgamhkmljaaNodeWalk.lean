/-
  What node's small functions do: which keys, values and pages may be, rising keys, Check, one entry's bytes.
-/
import Derived.Test.YtnnjcgamhkmljaaNodeMath
import Derived.Shelf.Abstract
namespace Go.Proofs.Ytnnjcgamhkmljaa
open Go.RowKit
namespace Nod
open B V

/-- a node in memory -/
structure NAt (w : World) (A1 A2 A3 : Option Addr) (n : N) : Prop where
  k : At vStr w A1 n.keys
  v : At vStr w A2 n.vals
  c : At vInt w A3 n.kids
theorem NAt.below {w w' : World} {A1 A2 A3 : Option Addr} {n : N} (h : NAt w A1 A2 A3 n) (hb : Below w.heap.size w w') : NAt w' A1 A2 A3 n := ⟨h.k.below hb, h.v.below hb, h.c.below hb⟩

set_option maxHeartbeats 1000000 in
theorem mayKey_any (s : ByteArray) (w : World) :
    Calls Try.prog 58 #[.string s] w fun e w' => e = .returned (.bool (mayKey s)) ∧ w = w' := by
  unfold mayKey
  by_cases h0 : s.size = 0
  · have e0 := B.is_empty h0
    rw [decide_eq_false (by omega)]
    go_enter Try.func58, Try.ntmps58
    go_wp2
    go_ret
    exact ⟨rfl, rfl⟩
  · have e0 := B.not_empty (show 0 < s.size by omega)
    have e1 : decide (0 < s.size ∧ s.size ≤ 16) = decide ((s.size : Int) ≤ 16) := by rw [decide_eq_decide]; omega
    rw [e1]
    clear e1
    go_enter Try.func58, Try.ntmps58
    go_wp2
    go_ret
    exact ⟨rfl, rfl⟩
set_option maxHeartbeats 1000000 in
theorem mayVal_any (s : ByteArray) (w : World) :
    Calls Try.prog 59 #[.string s] w fun e w' => e = .returned (.bool (mayVal s)) ∧ w = w' := by
  unfold mayVal
  have e1 : decide (s.size ≤ 32) = decide ((s.size : Int) ≤ 32) := by rw [decide_eq_decide]; omega
  rw [e1]
  clear e1
  go_enter Try.func59, Try.ntmps59
  go_wp2
  go_ret
  exact ⟨rfl, rfl⟩
set_option maxHeartbeats 1000000 in
theorem mayPage_any (x : Int) (w : World) :
    Calls Try.prog 61 #[.int .i64 x] w fun e w' => e = .returned (.bool (mayPage x)) ∧ w = w' := by
  unfold mayPage
  by_cases h0 : 0 ≤ x
  · have e1 : decide (0 ≤ x ∧ x ≤ 2147483647) = decide (x ≤ 2147483647) := by rw [decide_eq_decide]; omega
    rw [e1]
    clear e1
    go_enter Try.func61, Try.ntmps61
    go_wp2
    go_ret
    exact ⟨rfl, rfl⟩
  · rw [decide_eq_false (by omega)]
    go_enter Try.func61, Try.ntmps61
    go_wp2
    go_ret
    exact ⟨rfl, rfl⟩

set_option maxHeartbeats 1000000 in
theorem rise_any (A : Option Addr) (l : List ByteArray) (c : Nat) (w : World) (h : At vStr w A l) (hl : l.length ≤ 1000000) :
    Calls Try.prog 56 #[.slice A l.length c] w fun e w' => e = .returned (.bool (decide (Rise l))) ∧ ∃ n, w' = w.drewN n := by
  have HA := Lib.hid h
  have HR : Hid (∀ (i : Nat), 1 ≤ i → l.length ≤ i → (∀ j (hj : j + 1 < l.length), j + 1 < i → Lt l[j] l[j + 1]) → decide (Rise l) = true) := fun i h1 h2 h3 => decide_eq_true (rise_adj fun j hj => h3 j hj (by omega))
  have HF : Hid (∀ (i : Nat) (hi : i + 1 < l.length), ¬ Lt l[i] l[i + 1] → decide (Rise l) = false) := fun i hi hn => decide_eq_false fun hr => hn (hr.lt (by omega) hi)
  clear h
  generalize decide (Rise l) = r at *
  go_enter Try.func56, Try.ntmps56
  go_wp2
  go_loopw [3] (fun t3 wr => ∃ (i N : Nat), 1 ≤ i ∧ t3 = .int .i64 (i : Int) ∧ wr = w.drewN N ∧ i ≤ l.length + 1 ∧ ∀ j (hj : j + 1 < l.length), j + 1 < i → Lt l[j] l[j + 1]) (fun t3 _ => l.length + 1 - (intOf t3).toNat)
  case atStart => exact ⟨1, 0, by omega, rfl, rfl, by omega, fun j _ h => by omega⟩
  case round =>
    obtain ⟨i, N, hi1, rfl, hw, hil, hlt⟩ := hrel
    have HL := Lib.hid hlt
    clear hlt
    by_cases hin : i < l.length
    · have hI : (i : Int) < (l.length : Int) := by omega
      obtain ⟨b, off, hA, hb, hc⟩ := HA.out (by omega)
      subst hA
      obtain ⟨p, rfl⟩ : ∃ p, i = p + 1 := ⟨i - 1, by omega⟩
      have c0 : wr.cell? ⟨b, off + p, none⟩ = some (.string l[p]) := by rw [hw]; exact hc p (by omega)
      have c1 : wr.cell? ⟨b, off + (p + 1), none⟩ = some (.string l[p + 1]) := by rw [hw]; exact hc (p + 1) hin
      have HC := Lib.hid hc
      have HW := Lib.hid hw
      clear hc hw
      have e1 : ((p + 1 : Nat) : Int) - 1 = (p : Int) := by omega
      by_cases hlt : Lt l[p] l[p + 1]
      · have hb := less_t hlt
        go_wp2
        go_quiet (fail)
        go_wp2
        go_roundw
        case rel => exact ⟨p + 1 + 1, _, by omega, by go_num, by rw [HW.out]; exact World.drewN_drewN _ _ _, by omega, fun j hj hj2 => by
          rcases Nat.lt_or_ge (j + 1) (p + 1) with h1 | h1
          · exact HL.out j hj h1
          · obtain rfl : j = p := by omega
            exact hlt⟩
        case measure => simp [intOf]; omega
      · have hb := less_f hlt
        have hr := HF.out p hin hlt
        subst hr
        go_wp2
        go_quiet (fail)
        go_wp2
        go_ret
        exact ⟨rfl, _, by rw [HW.out]; exact World.drewN_drewN _ _ _⟩
    · have hI : ¬ (i : Int) < (l.length : Int) := by omega
      have hr := HR.out i hi1 (by omega) HL.out
      subst hr
      go_wp2
      go_ret
      exact ⟨rfl, N, rfl⟩

set_option maxHeartbeats 1000000 in
theorem alls_any (F : Nat) (p : ByteArray → Bool) (eg : ∀ args w, (callFunc F args).run Try.prog w = .ok (.enter F args) w) (hF : ∀ s W, Calls Try.prog F #[.string s] W fun e w' => e = .returned (.bool (p s)) ∧ W = w') (A : Option Addr) (l : List ByteArray) (c : Nat) (w : World) (h : At vStr w A l) (hl : l.length ≤ 1000000) :
    Calls Try.prog 57 #[.slice A l.length c, .func (.func F) #[] #[]] w fun e w' => e = .returned (.bool (l.all p)) ∧ w = w' := by
  have HA := Lib.hid h
  have HFn := Lib.hid hF
  have HD : Hid ((l.drop 0).all p = l.all p) := rfl
  clear h hF
  generalize l.all p = r at *
  go_enter Try.func57, Try.ntmps57
  go_wp2
  go_loop [9] (fun t9 => ∃ i : Nat, t9 = .int .i64 (i : Int) ∧ i ≤ l.length ∧ (l.drop i).all p = r) (fun t9 => l.length - (intOf t9).toNat)
  case atStart => exact ⟨0, rfl, Nat.zero_le _, HD.out⟩
  case round =>
    obtain ⟨i, rfl, hil, hr⟩ := hrel
    clear HD
    by_cases hin : i < l.length
    · have hI : (i : Int) < (l.length : Int) := by omega
      obtain ⟨b, off, hA, hb, hc⟩ := HA.out (by omega)
      subst hA
      have c0 : w.cell? ⟨b, off + i, none⟩ = some (.string l[i]) := hc i hin
      rw [List.drop_eq_getElem_cons hin, List.all_cons] at hr
      have CF := Lib.hid (HFn.out l[i])
      clear hc
      generalize l[i] = x at *
      cases hx : p x with
      | true =>
        rw [hx] at hr CF
        rw [Bool.true_and] at hr
        clear hx
        go_wp2_with (go_at_fn F; ((with_reducible refine (CF.out _).mono ?_); rintro e w' ⟨rfl, rfl⟩))
        go_round
        case rel => exact ⟨i + 1, by go_num, by omega, hr⟩
        case measure => simp [intOf]; omega
      | false =>
        rw [hx] at hr CF
        rw [Bool.false_and] at hr
        subst hr
        clear hx
        go_wp2_with (go_at_fn F; ((with_reducible refine (CF.out _).mono ?_); rintro e w' ⟨rfl, rfl⟩))
        go_ret
        exact ⟨rfl, rfl⟩
    · have hI : ¬ (i : Int) < (l.length : Int) := by omega
      rw [List.drop_eq_nil_of_le (by omega)] at hr
      subst hr
      go_wp2
      go_ret
      exact ⟨rfl, rfl⟩
set_option maxHeartbeats 1000000 in
theorem alli_any (F : Nat) (p : Int → Bool) (eg : ∀ args w, (callFunc F args).run Try.prog w = .ok (.enter F args) w) (hF : ∀ s W, Calls Try.prog F #[.int .i64 s] W fun e w' => e = .returned (.bool (p s)) ∧ W = w') (A : Option Addr) (l : List Int) (c : Nat) (w : World) (h : At vInt w A l) (hl : l.length ≤ 1000000) :
    Calls Try.prog 60 #[.slice A l.length c, .func (.func F) #[] #[]] w fun e w' => e = .returned (.bool (l.all p)) ∧ w = w' := by
  have HA := Lib.hid h
  have HFn := Lib.hid hF
  have HD : Hid ((l.drop 0).all p = l.all p) := rfl
  clear h hF
  generalize l.all p = r at *
  go_enter Try.func60, Try.ntmps60
  go_wp2
  go_loop [9] (fun t9 => ∃ i : Nat, t9 = .int .i64 (i : Int) ∧ i ≤ l.length ∧ (l.drop i).all p = r) (fun t9 => l.length - (intOf t9).toNat)
  case atStart => exact ⟨0, rfl, Nat.zero_le _, HD.out⟩
  case round =>
    obtain ⟨i, rfl, hil, hr⟩ := hrel
    clear HD
    by_cases hin : i < l.length
    · have hI : (i : Int) < (l.length : Int) := by omega
      obtain ⟨b, off, hA, hb, hc⟩ := HA.out (by omega)
      subst hA
      have c0 : w.cell? ⟨b, off + i, none⟩ = some (.int .i64 l[i]) := hc i hin
      rw [List.drop_eq_getElem_cons hin, List.all_cons] at hr
      have CF := Lib.hid (HFn.out l[i])
      clear hc
      generalize l[i] = x at *
      cases hx : p x with
      | true =>
        rw [hx] at hr CF
        rw [Bool.true_and] at hr
        clear hx
        go_wp2_with (go_at_fn F; ((with_reducible refine (CF.out _).mono ?_); rintro e w' ⟨rfl, rfl⟩))
        go_round
        case rel => exact ⟨i + 1, by go_num, by omega, hr⟩
        case measure => simp [intOf]; omega
      | false =>
        rw [hx] at hr CF
        rw [Bool.false_and] at hr
        subst hr
        clear hx
        go_wp2_with (go_at_fn F; ((with_reducible refine (CF.out _).mono ?_); rintro e w' ⟨rfl, rfl⟩))
        go_ret
        exact ⟨rfl, rfl⟩
    · have hI : ¬ (i : Int) < (l.length : Int) := by omega
      rw [List.drop_eq_nil_of_le (by omega)] at hr
      subst hr
      go_wp2
      go_ret
      exact ⟨rfl, rfl⟩

/-- a node as a value -/
abbrev nv (A1 A2 A3 : Option Addr) (c1 c2 c3 : Nat) (n : N) : Value := .agg #[.int .i64 n.kind, .slice A1 n.keys.length c1, .slice A2 n.vals.length c2, .slice A3 n.kids.length c3]
theorem below1 (w : World) (o : Obj) : Below w.heap.size w (w.alloc o) := (Below.refl w.heap.size w).alloc (Nat.le_refl _) o
set_option maxHeartbeats 1000000 in
theorem len_any (A1 A2 A3 : Option Addr) (c1 c2 c3 : Nat) (n : N) (w : World) :
    Calls Try.prog 80 #[nv A1 A2 A3 c1 c2 c3 n] w fun e w' => e = .returned (.int .i64 (n.keys.length : Int)) ∧ Below w.heap.size w w' := by
  go_enter Try.func80, Try.ntmps80
  go_wp2
  go_ret
  exact ⟨rfl, below1 _ _⟩
theorem eKey : ∀ args w, (callFunc 58 args).run Try.prog w = .ok (.enter 58 args) w := fun args w => enters_of Try.func58 (by kernel_rfl) rfl args w
theorem eVal : ∀ args w, (callFunc 59 args).run Try.prog w = .ok (.enter 59 args) w := fun args w => enters_of Try.func59 (by kernel_rfl) rfl args w
theorem ePage : ∀ args w, (callFunc 61 args).run Try.prog w = .ok (.enter 61 args) w := fun args w => enters_of Try.func61 (by kernel_rfl) rfl args w
theorem row4 {w : World} {g : Nat} {a b c d : Value} {t : TypeId} (h : w.heap[g]? = some (.cells #[a, b, c, d] t)) :
    (w.cell? ⟨g, 0, none⟩ = some a ∧ w.cell? ⟨g, 1, none⟩ = some b ∧ w.cell? ⟨g, 2, none⟩ = some c ∧ w.cell? ⟨g, 3, none⟩ = some d) ∧
    (w.frozen? ⟨g, 0, none⟩ = false ∧ w.frozen? ⟨g, 1, none⟩ = false ∧ w.frozen? ⟨g, 2, none⟩ = false ∧ w.frozen? ⟨g, 3, none⟩ = false) := by
  unfold World.cell? World.frozen?
  rw [h]; simp

theorem below_drew' {B : Nat} {a w : World} (h : Below B a w) : Below B a w.drew := ⟨h.os, h.tape, h.output, h.size, h.block⟩
/-- a struct's four cells in a block -/
structure Bx (w : World) (g : Nat) (a b c d : Value) : Prop where
  l : g < w.heap.size
  p : w.cell? ⟨g, 0, none⟩ = some a ∧ w.cell? ⟨g, 1, none⟩ = some b ∧ w.cell? ⟨g, 2, none⟩ = some c ∧ w.cell? ⟨g, 3, none⟩ = some d
theorem Bx.below {w w' : World} {g : Nat} {a b c d : Value} (h : Bx w g a b c d) (hb : Below w.heap.size w w') : Bx w' g a b c d :=
  ⟨Nat.lt_of_lt_of_le h.l hb.size, (hb.cell (p := ⟨g, 0, none⟩) h.l).trans h.p.1, (hb.cell (p := ⟨g, 1, none⟩) h.l).trans h.p.2.1, (hb.cell (p := ⟨g, 2, none⟩) h.l).trans h.p.2.2.1, (hb.cell (p := ⟨g, 3, none⟩) h.l).trans h.p.2.2.2⟩
theorem Bx.drew {w w' : World} {g : Nat} {a b c d : Value} (h : Bx w g a b c d) (hb : Below w.drew.heap.size w.drew w') : Bx w' g a b c d := h.below ⟨hb.os, hb.tape, hb.output, hb.size, hb.block⟩
theorem bx_new (w : World) (a b c d : Value) (t : TypeId) : Bx (w.alloc (.cells #[a, b, c, d] t)) w.heap.size a b c d := ⟨by simp, (row4 (heap_last w _ _ rfl)).1⟩
theorem below_of_drew {w w' : World} (hb : Below w.drew.heap.size w.drew w') : Below w.heap.size w w' := ⟨hb.os, hb.tape, hb.output, hb.size, hb.block⟩

end Nod
end Go.Proofs.Ytnnjcgamhkmljaa
