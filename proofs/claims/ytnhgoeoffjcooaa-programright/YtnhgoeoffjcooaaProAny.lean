/-
  Programs: is any of a list so (slices.IndexFunc, ContainsFunc), are all of it so (program.all): of functions, ops, numbers. Made by wip/gen/proany.py.
-/
import Derived.Test.YtnhgoeoffjcooaaProAll
namespace Go.Proofs.Ytnhgoeoffjcooaa
open Go.RowKit
namespace Pm
open B
set_option linter.unusedVariables false
/-- a function that is handed in, of one captured place -/
theorem cell_lt {w : World} {b i : Nat} {v : Value} (h : w.cell? ⟨b, i, none⟩ = some v) : b < w.heap.size := by
  rcases Nat.lt_or_ge b w.heap.size with h1 | h1
  · exact h1
  · exfalso
    have : w.heap[b]? = none := Array.getElem?_eq_none h1
    simp [World.cell?, this] at h
theorem all_drop {α : Type} (p : α → Bool) (l : List α) (i : Nat) (h : i < l.length) : (l.drop i).all p = (p l[i] && (l.drop (i + 1)).all p) := by rw [List.drop_eq_getElem_cons h, List.all_cons]

set_option maxRecDepth 100000 in
set_option maxHeartbeats 4000000 in
theorem idxF_any (g : Nat) (p : F → Bool) (lo : Nat) (A : Option Addr) (l : List F) (c : Nat) (w : World) (HA : FsAt lo w A l) (hl : l.length ≤ 2000000)
    (HC : ∀ W, Below w.heap.size w W → ∀ (v : Value) (f : F), f ∈ l → IL lo W v f.ps → Calls Try.prog 88 #[.agg #[v, .int .i64 f.ret], .pointer (some ⟨g, 0, none⟩)] W fun e w' => e = .returned (.bool (!(p f))) ∧ Below W.heap.size W w') :
    Calls Try.prog 105 #[.slice A l.length c, .func (.func 88) #[] #[.pointer (some ⟨g, 0, none⟩)]] w fun e w' => (∃ k : Int, e = .returned (.int .i64 k) ∧ decide (0 ≤ k) = !(l.all p)) ∧ Below w.heap.size w w' := by
  have HA := Lib.hid HA
  have HC := Lib.hid HC
  have HD : Hid ((l.drop 0).all p = l.all p) := rfl
  generalize hr0 : l.all p = r at *
  clear hr0
  go_enter Try.func105, Try.ntmps105
  go_wp2
  go_loopw [8] (fun t8 wr => ∃ i : Nat, t8 = .int .i64 (i : Int) ∧ i ≤ l.length ∧ (l.drop i).all p = r ∧ Below w.heap.size w wr) (fun t8 _ => l.length - (intOf t8).toNat)
  case atStart => exact ⟨0, rfl, Nat.zero_le _, HD.out, Below.refl _ _⟩
  case round =>
    obtain ⟨i, rfl, hil, hr, hb⟩ := hrel
    have B1 := Lib.hid hb
    clear HD hb
    by_cases hin : i < l.length
    · have hI : (i : Int) < (l.length : Int) := by omega
      obtain ⟨b, off, hA, _, hbl, hc⟩ := HA.out (by omega)
      subst hA
      obtain ⟨v, c0, c1, il⟩ := hc i hin
      have c0 := (B1.out.cell (p := ⟨b, off + i * 2, none⟩) hbl).trans c0
      have c1 := (B1.out.cell (p := ⟨b, off + i * 2 + 1, none⟩) hbl).trans c1
      have CF := Lib.hid (HC.out wr B1.out v l[i] (List.getElem_mem hin) (il.below B1.out))
      clear il
      rw [all_drop p l i hin] at hr
      clear hc
      generalize l[i] = x at *
      cases hx : p x with
      | true =>
        rw [hx] at hr CF
        rw [Bool.true_and] at hr
        have HR := Lib.hid hr
        clear hx hr
        go_wp2_with (go_at_call 88; ((with_reducible refine CF.out.mono ?_); rintro e w2 ⟨rfl, hb2⟩))
        go_roundw
        case rel => exact ⟨i + 1, by go_num, by omega, HR.out, B1.out.trans (hb2.mono B1.out.size)⟩
        case measure => simp [intOf]; omega
      | false =>
        rw [hx] at hr CF
        rw [Bool.false_and] at hr
        subst hr
        clear hx
        go_wp2_with (go_at_call 88; ((with_reducible refine CF.out.mono ?_); rintro e w2 ⟨rfl, hb2⟩))
        go_ret
        exact ⟨⟨_, rfl, by rw [decide_eq_true (by omega)]; rfl⟩, B1.out.trans (hb2.mono B1.out.size)⟩
    · have hI : ¬ (i : Int) < (l.length : Int) := by omega
      rw [List.drop_eq_nil_of_le (by omega)] at hr
      subst hr
      go_wp2
      go_ret
      exact ⟨⟨_, rfl, by decide⟩, B1.out⟩
set_option maxHeartbeats 4000000 in
theorem conF_any (g : Nat) (p : F → Bool) (lo : Nat) (A : Option Addr) (l : List F) (c : Nat) (w : World) (HA : FsAt lo w A l) (hl : l.length ≤ 2000000)
    (HC : ∀ W, Below w.heap.size w W → ∀ (v : Value) (f : F), f ∈ l → IL lo W v f.ps → Calls Try.prog 88 #[.agg #[v, .int .i64 f.ret], .pointer (some ⟨g, 0, none⟩)] W fun e w' => e = .returned (.bool (!(p f))) ∧ Below W.heap.size W w') :
    Calls Try.prog 87 #[.slice A l.length c, .func (.func 88) #[] #[.pointer (some ⟨g, 0, none⟩)]] w fun e w' => e = .returned (.bool (!(l.all p))) ∧ Below w.heap.size w w' := by
  have CI := Lib.hid (idxF_any g p lo A l c w HA hl HC)
  clear HA hl HC
  go_enter Try.func87, Try.ntmps87
  go_wp2_with (go_at_call 105; ((with_reducible refine CI.out.mono ?_); rintro e w2 ⟨⟨k, rfl, hk⟩, hb2⟩))
  go_ret
  exact ⟨rfl, hb2⟩
/-- the function that is handed in stands in a block of its own -/
theorem allF_any (fn : Fn) (fi ca : Array Value) (p : F → Bool) (lo : Nat) (A : Option Addr) (l : List F) (c : Nat) (w : World) (HA : FsAt lo w A l) (hl : l.length ≤ 2000000)
    (HC : ∀ W g, W.cell? ⟨g, 0, none⟩ = some (.func fn fi ca) → Below w.heap.size w W → ∀ (v : Value) (f : F), f ∈ l → IL lo W v f.ps → Calls Try.prog 88 #[.agg #[v, .int .i64 f.ret], .pointer (some ⟨g, 0, none⟩)] W fun e w' => e = .returned (.bool (!(p f))) ∧ Below W.heap.size W w') :
    Calls Try.prog 59 #[.slice A l.length c, .func fn fi ca] w fun e w' => e = .returned (.bool (l.all p)) ∧ Below w.heap.size w w' := by
  have CC : Hid (∀ W g, W.cell? ⟨g, 0, none⟩ = some (.func fn fi ca) → Below w.heap.size w W → Calls Try.prog 87 #[.slice A l.length c, .func (.func 88) #[] #[.pointer (some ⟨g, 0, none⟩)]] W fun e w' => e = .returned (.bool (!(l.all p))) ∧ Below W.heap.size W w') := fun W g hg hb =>
    conF_any g p lo A l c W (HA.below hb) hl (fun W' hb' => HC W' g ((hb'.cell (p := ⟨g, 0, none⟩) (cell_lt hg)).trans hg) (hb.trans (hb'.mono hb.size)))
  have b0 := Below.alloc (Below.refl w.heap.size w) (Nat.le_refl _) (.cells #[.func fn fi ca] 104)
  have c0 : (w.alloc (.cells #[.func fn fi ca] 104)).cell? ⟨w.heap.size, 0, none⟩ = some (.func fn fi ca) := by rw [World.cell?_alloc_mark]; rfl
  have C1 := Lib.hid (CC.out _ _ c0 b0)
  have B0 := Lib.hid b0
  clear HA hl HC CC b0 c0
  go_enter Try.func59, Try.ntmps59
  go_wp2_with (go_at_call 87; ((with_reducible refine C1.out.mono ?_); rintro e w2 ⟨rfl, hb2⟩))
  go_ret
  exact ⟨rfl, B0.out.trans (hb2.mono B0.out.size)⟩

set_option maxRecDepth 100000 in
set_option maxHeartbeats 4000000 in
theorem idxO_any (g : Nat) (p : O → Bool) (lo : Nat) (A : Option Addr) (l : List O) (c : Nat) (w : World) (HA : OsAt lo w A l) (hl : l.length ≤ 2000000)
    (HC : ∀ W, Below w.heap.size w W → ∀ (v : Value) (f : O), f ∈ l → IL lo W v f.args → f.heat < 18446744073709551616 → Calls Try.prog 90 #[.agg #[.int .i64 f.kind, .int .i64 f.fn, .int .i64 f.a, .int .i64 f.b, .int .i64 f.c, v, .float .f64 f.heat], .pointer (some ⟨g, 0, none⟩)] W fun e w' => e = .returned (.bool (!(p f))) ∧ Below W.heap.size W w') :
    Calls Try.prog 106 #[.slice A l.length c, .func (.func 90) #[] #[.pointer (some ⟨g, 0, none⟩)]] w fun e w' => (∃ k : Int, e = .returned (.int .i64 k) ∧ decide (0 ≤ k) = !(l.all p)) ∧ Below w.heap.size w w' := by
  have HA := Lib.hid HA
  have HC := Lib.hid HC
  have HD : Hid ((l.drop 0).all p = l.all p) := rfl
  generalize hr0 : l.all p = r at *
  clear hr0
  go_enter Try.func106, Try.ntmps106
  go_wp2
  go_loopw [8] (fun t8 wr => ∃ i : Nat, t8 = .int .i64 (i : Int) ∧ i ≤ l.length ∧ (l.drop i).all p = r ∧ Below w.heap.size w wr) (fun t8 _ => l.length - (intOf t8).toNat)
  case atStart => exact ⟨0, rfl, Nat.zero_le _, HD.out, Below.refl _ _⟩
  case round =>
    obtain ⟨i, rfl, hil, hr, hb⟩ := hrel
    have B1 := Lib.hid hb
    clear HD hb
    by_cases hin : i < l.length
    · have hI : (i : Int) < (l.length : Int) := by omega
      obtain ⟨b, off, hA, _, hbl, hc⟩ := HA.out (by omega)
      subst hA
      obtain ⟨v, c0, c1, c2, c3, c4, c5, c6, il, hh⟩ := hc i hin
      have c0 := (B1.out.cell (p := ⟨b, off + i * 7, none⟩) hbl).trans c0
      have c1 := (B1.out.cell (p := ⟨b, off + i * 7 + 1, none⟩) hbl).trans c1
      have c2 := (B1.out.cell (p := ⟨b, off + i * 7 + 2, none⟩) hbl).trans c2
      have c3 := (B1.out.cell (p := ⟨b, off + i * 7 + 3, none⟩) hbl).trans c3
      have c4 := (B1.out.cell (p := ⟨b, off + i * 7 + 4, none⟩) hbl).trans c4
      have c5 := (B1.out.cell (p := ⟨b, off + i * 7 + 5, none⟩) hbl).trans c5
      have c6 := (B1.out.cell (p := ⟨b, off + i * 7 + 6, none⟩) hbl).trans c6
      have CF := Lib.hid (HC.out wr B1.out v l[i] (List.getElem_mem hin) (il.below B1.out) hh)
      clear il hh
      rw [all_drop p l i hin] at hr
      clear hc
      generalize l[i] = x at *
      cases hx : p x with
      | true =>
        rw [hx] at hr CF
        rw [Bool.true_and] at hr
        have HR := Lib.hid hr
        clear hx hr
        go_wp2_with (go_at_call 90; ((with_reducible refine CF.out.mono ?_); rintro e w2 ⟨rfl, hb2⟩))
        go_roundw
        case rel => exact ⟨i + 1, by go_num, by omega, HR.out, B1.out.trans (hb2.mono B1.out.size)⟩
        case measure => simp [intOf]; omega
      | false =>
        rw [hx] at hr CF
        rw [Bool.false_and] at hr
        subst hr
        clear hx
        go_wp2_with (go_at_call 90; ((with_reducible refine CF.out.mono ?_); rintro e w2 ⟨rfl, hb2⟩))
        go_ret
        exact ⟨⟨_, rfl, by rw [decide_eq_true (by omega)]; rfl⟩, B1.out.trans (hb2.mono B1.out.size)⟩
    · have hI : ¬ (i : Int) < (l.length : Int) := by omega
      rw [List.drop_eq_nil_of_le (by omega)] at hr
      subst hr
      go_wp2
      go_ret
      exact ⟨⟨_, rfl, by decide⟩, B1.out⟩
set_option maxHeartbeats 4000000 in
theorem conO_any (g : Nat) (p : O → Bool) (lo : Nat) (A : Option Addr) (l : List O) (c : Nat) (w : World) (HA : OsAt lo w A l) (hl : l.length ≤ 2000000)
    (HC : ∀ W, Below w.heap.size w W → ∀ (v : Value) (f : O), f ∈ l → IL lo W v f.args → f.heat < 18446744073709551616 → Calls Try.prog 90 #[.agg #[.int .i64 f.kind, .int .i64 f.fn, .int .i64 f.a, .int .i64 f.b, .int .i64 f.c, v, .float .f64 f.heat], .pointer (some ⟨g, 0, none⟩)] W fun e w' => e = .returned (.bool (!(p f))) ∧ Below W.heap.size W w') :
    Calls Try.prog 89 #[.slice A l.length c, .func (.func 90) #[] #[.pointer (some ⟨g, 0, none⟩)]] w fun e w' => e = .returned (.bool (!(l.all p))) ∧ Below w.heap.size w w' := by
  have CI := Lib.hid (idxO_any g p lo A l c w HA hl HC)
  clear HA hl HC
  go_enter Try.func89, Try.ntmps89
  go_wp2_with (go_at_call 106; ((with_reducible refine CI.out.mono ?_); rintro e w2 ⟨⟨k, rfl, hk⟩, hb2⟩))
  go_ret
  exact ⟨rfl, hb2⟩
/-- the function that is handed in stands in a block of its own -/
theorem allO_any (fn : Fn) (fi ca : Array Value) (p : O → Bool) (lo : Nat) (A : Option Addr) (l : List O) (c : Nat) (w : World) (HA : OsAt lo w A l) (hl : l.length ≤ 2000000)
    (HC : ∀ W g, W.cell? ⟨g, 0, none⟩ = some (.func fn fi ca) → Below w.heap.size w W → ∀ (v : Value) (f : O), f ∈ l → IL lo W v f.args → f.heat < 18446744073709551616 → Calls Try.prog 90 #[.agg #[.int .i64 f.kind, .int .i64 f.fn, .int .i64 f.a, .int .i64 f.b, .int .i64 f.c, v, .float .f64 f.heat], .pointer (some ⟨g, 0, none⟩)] W fun e w' => e = .returned (.bool (!(p f))) ∧ Below W.heap.size W w') :
    Calls Try.prog 61 #[.slice A l.length c, .func fn fi ca] w fun e w' => e = .returned (.bool (l.all p)) ∧ Below w.heap.size w w' := by
  have CC : Hid (∀ W g, W.cell? ⟨g, 0, none⟩ = some (.func fn fi ca) → Below w.heap.size w W → Calls Try.prog 89 #[.slice A l.length c, .func (.func 90) #[] #[.pointer (some ⟨g, 0, none⟩)]] W fun e w' => e = .returned (.bool (!(l.all p))) ∧ Below W.heap.size W w') := fun W g hg hb =>
    conO_any g p lo A l c W (HA.below hb) hl (fun W' hb' => HC W' g ((hb'.cell (p := ⟨g, 0, none⟩) (cell_lt hg)).trans hg) (hb.trans (hb'.mono hb.size)))
  have b0 := Below.alloc (Below.refl w.heap.size w) (Nat.le_refl _) (.cells #[.func fn fi ca] 106)
  have c0 : (w.alloc (.cells #[.func fn fi ca] 106)).cell? ⟨w.heap.size, 0, none⟩ = some (.func fn fi ca) := by rw [World.cell?_alloc_mark]; rfl
  have C1 := Lib.hid (CC.out _ _ c0 b0)
  have B0 := Lib.hid b0
  clear HA hl HC CC b0 c0
  go_enter Try.func61, Try.ntmps61
  go_wp2_with (go_at_call 89; ((with_reducible refine C1.out.mono ?_); rintro e w2 ⟨rfl, hb2⟩))
  go_ret
  exact ⟨rfl, B0.out.trans (hb2.mono B0.out.size)⟩

set_option maxRecDepth 100000 in
set_option maxHeartbeats 4000000 in
theorem idxI_any (g : Nat) (p : Int → Bool) (A : Option Addr) (l : List Int) (c : Nat) (w : World) (HA : At vInt w A l) (hl : l.length ≤ 2000000)
    (HC : ∀ W, Below w.heap.size w W → ∀ f ∈ l, Calls Try.prog 93 #[.int .i64 f, .pointer (some ⟨g, 0, none⟩)] W fun e w' => e = .returned (.bool (!(p f))) ∧ Below W.heap.size W w') :
    Calls Try.prog 108 #[.slice A l.length c, .func (.func 93) #[] #[.pointer (some ⟨g, 0, none⟩)]] w fun e w' => (∃ k : Int, e = .returned (.int .i64 k) ∧ decide (0 ≤ k) = !(l.all p)) ∧ Below w.heap.size w w' := by
  have HA := Lib.hid HA
  have HC := Lib.hid HC
  have HD : Hid ((l.drop 0).all p = l.all p) := rfl
  generalize hr0 : l.all p = r at *
  clear hr0
  go_enter Try.func108, Try.ntmps108
  go_wp2
  go_loopw [8] (fun t8 wr => ∃ i : Nat, t8 = .int .i64 (i : Int) ∧ i ≤ l.length ∧ (l.drop i).all p = r ∧ Below w.heap.size w wr) (fun t8 _ => l.length - (intOf t8).toNat)
  case atStart => exact ⟨0, rfl, Nat.zero_le _, HD.out, Below.refl _ _⟩
  case round =>
    obtain ⟨i, rfl, hil, hr, hb⟩ := hrel
    have B1 := Lib.hid hb
    clear HD hb
    by_cases hin : i < l.length
    · have hI : (i : Int) < (l.length : Int) := by omega
      obtain ⟨b, off, hA, hbl, hc⟩ := HA.out (by omega)
      subst hA
      have c0 := (B1.out.cell (p := ⟨b, off + i, none⟩) hbl).trans (hc i hin)
      have CF := Lib.hid (HC.out wr B1.out l[i] (List.getElem_mem hin))
      rw [all_drop p l i hin] at hr
      clear hc
      generalize l[i] = x at *
      cases hx : p x with
      | true =>
        rw [hx] at hr CF
        rw [Bool.true_and] at hr
        have HR := Lib.hid hr
        clear hx hr
        go_wp2_with (go_at_call 93; ((with_reducible refine CF.out.mono ?_); rintro e w2 ⟨rfl, hb2⟩))
        go_roundw
        case rel => exact ⟨i + 1, by go_num, by omega, HR.out, B1.out.trans (hb2.mono B1.out.size)⟩
        case measure => simp [intOf]; omega
      | false =>
        rw [hx] at hr CF
        rw [Bool.false_and] at hr
        subst hr
        clear hx
        go_wp2_with (go_at_call 93; ((with_reducible refine CF.out.mono ?_); rintro e w2 ⟨rfl, hb2⟩))
        go_ret
        exact ⟨⟨_, rfl, by rw [decide_eq_true (by omega)]; rfl⟩, B1.out.trans (hb2.mono B1.out.size)⟩
    · have hI : ¬ (i : Int) < (l.length : Int) := by omega
      rw [List.drop_eq_nil_of_le (by omega)] at hr
      subst hr
      go_wp2
      go_ret
      exact ⟨⟨_, rfl, by decide⟩, B1.out⟩
set_option maxHeartbeats 4000000 in
theorem conI_any (g : Nat) (p : Int → Bool) (A : Option Addr) (l : List Int) (c : Nat) (w : World) (HA : At vInt w A l) (hl : l.length ≤ 2000000)
    (HC : ∀ W, Below w.heap.size w W → ∀ f ∈ l, Calls Try.prog 93 #[.int .i64 f, .pointer (some ⟨g, 0, none⟩)] W fun e w' => e = .returned (.bool (!(p f))) ∧ Below W.heap.size W w') :
    Calls Try.prog 92 #[.slice A l.length c, .func (.func 93) #[] #[.pointer (some ⟨g, 0, none⟩)]] w fun e w' => e = .returned (.bool (!(l.all p))) ∧ Below w.heap.size w w' := by
  have CI := Lib.hid (idxI_any g p A l c w HA hl HC)
  clear HA hl HC
  go_enter Try.func92, Try.ntmps92
  go_wp2_with (go_at_call 108; ((with_reducible refine CI.out.mono ?_); rintro e w2 ⟨⟨k, rfl, hk⟩, hb2⟩))
  go_ret
  exact ⟨rfl, hb2⟩
/-- the function that is handed in stands in a block of its own -/
theorem allI_any (fn : Fn) (fi ca : Array Value) (p : Int → Bool) (A : Option Addr) (l : List Int) (c : Nat) (w : World) (HA : At vInt w A l) (hl : l.length ≤ 2000000)
    (HC : ∀ W g, W.cell? ⟨g, 0, none⟩ = some (.func fn fi ca) → Below w.heap.size w W → ∀ (f : Int), f ∈ l → Calls Try.prog 93 #[.int .i64 f, .pointer (some ⟨g, 0, none⟩)] W fun e w' => e = .returned (.bool (!(p f))) ∧ Below W.heap.size W w') :
    Calls Try.prog 65 #[.slice A l.length c, .func fn fi ca] w fun e w' => e = .returned (.bool (l.all p)) ∧ Below w.heap.size w w' := by
  have CC : Hid (∀ W g, W.cell? ⟨g, 0, none⟩ = some (.func fn fi ca) → Below w.heap.size w W → Calls Try.prog 92 #[.slice A l.length c, .func (.func 93) #[] #[.pointer (some ⟨g, 0, none⟩)]] W fun e w' => e = .returned (.bool (!(l.all p))) ∧ Below W.heap.size W w') := fun W g hg hb =>
    conI_any g p A l c W (HA.below hb) hl (fun W' hb' => HC W' g ((hb'.cell (p := ⟨g, 0, none⟩) (cell_lt hg)).trans hg) (hb.trans (hb'.mono hb.size)))
  have b0 := Below.alloc (Below.refl w.heap.size w) (Nat.le_refl _) (.cells #[.func fn fi ca] 78)
  have c0 : (w.alloc (.cells #[.func fn fi ca] 78)).cell? ⟨w.heap.size, 0, none⟩ = some (.func fn fi ca) := by rw [World.cell?_alloc_mark]; rfl
  have C1 := Lib.hid (CC.out _ _ c0 b0)
  have B0 := Lib.hid b0
  clear HA hl HC CC b0 c0
  go_enter Try.func65, Try.ntmps65
  go_wp2_with (go_at_call 92; ((with_reducible refine C1.out.mono ?_); rintro e w2 ⟨rfl, hb2⟩))
  go_ret
  exact ⟨rfl, B0.out.trans (hb2.mono B0.out.size)⟩

end Pm
end Go.Proofs.Ytnhgoeoffjcooaa
