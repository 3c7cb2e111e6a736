/-
  What the program's ids.pick does, and with it Union, Both, Minus, Meets, Within.
-/
import Derived.Test.YtkbchpbdpkbnjaaIdsRef2
import Derived.Test.YtkbchpbdpkbnjaaIdsMerge
import Derived.Shelf.Abstract
namespace Go.Proofs.Ytkbchpbdpkbnjaa
open Go.RowKit
namespace I

def lenV : Value → Nat
  | .slice _ n _ => n
  | _ => 0

theorem ints_tail {w : World} {b off : Nat} {x : Int} {xs : List Int} (h : IntsAt w (some ⟨b, off, none⟩) (x :: xs)) : IntsAt w (some ⟨b, off + 1, none⟩) xs := fun hp => by
  obtain ⟨b', off', e, hb, hc⟩ := h (by simp)
  cases e
  refine ⟨b, off + 1, rfl, hb, fun i hi => ?_⟩
  have := hc (i + 1) (by simp; omega)
  rw [show off + 1 + i = off + (i + 1) by omega]; exact this

theorem snoc_own {w : World} {B : Nat} {v : Value} {G : List Int} {x : Int} {n : Nat} (h : w.ownsRow B 3 1 v n (icells G ++ [.int .i64 x])) (hn : n = G.length + 1) : w.ownsRow B 3 1 v (G ++ [x]).length (icells (G ++ [x])) := by
  rw [icells_snoc, List.length_append]; subst hn; exact h

theorem pick_below {B n : Nat} {a W w1 : World} {o : Obj} {row : Option Nat} (hg : ((W.drewN n).alloc o).grownBy w1 row) (hb : Below B a W) (hbs : B ≤ W.heap.size) (hr : ∀ k, row = some k → B ≤ k) : Below B a w1 :=
  ((below_drewN hb n).alloc hbs _).grown hg (base1 hbs _) hr

set_option maxRecDepth 100000 in
set_option maxHeartbeats 8000000 in
theorem pick_any (g : Nat) (p : Bool → Bool → Bool) (eg : ∀ args w, (callFunc g args).run Try.prog w = .ok (.enter g args) w)
    (hg : ∀ x y w, Calls Try.prog g #[.bool x, .bool y] w fun e w' => e = .returned (.bool (p x y)) ∧ w = w')
    (xs ys : List Int) (A B : Option Addr) (c d : Nat) (w : World) (hl : xs.length ≤ 1000) (hl2 : ys.length ≤ 1000) (hxc : xs.length ≤ c) (hyd : ys.length ≤ d) (hcm : c ≤ 9223372036854775807) (hdm : d ≤ 9223372036854775807) (hx : IntsAt w A xs) (hy : IntsAt w B ys) :
    Calls Try.prog 65 #[.slice A xs.length c, .slice B ys.length d, .func (.func g) #[] #[]] w fun e w' => ∃ v, e = .returned v ∧ w'.ownsRow w.heap.size 3 1 v (Ids.pickL p xs ys).length (icells (Ids.pickL p xs ys)) ∧ Below w.heap.size w w' := by
  obtain ⟨i0, hi, hz0, hz1, hz2⟩ := info_parts info3
  have HX := Lib.hid hx
  have HY := Lib.hid hy
  have HG := Lib.hid hg
  clear hx hy hg
  go_enter Try.func65, Try.ntmps65
  go_wp2
  go_loopw [0, 1, 7] (fun va vb vo wr => ∃ (ps qs out : List Int) (A' B' : Option Addr) (c' d' : Nat), va = .slice A' ps.length c' ∧ vb = .slice B' qs.length d' ∧ IntsAt w A' ps ∧ IntsAt w B' qs ∧ ps.length ≤ c' ∧ qs.length ≤ d' ∧ c' ≤ 9223372036854775807 ∧ d' ≤ 9223372036854775807 ∧ wr.ownsRow w.heap.size 3 1 vo out.length (icells out) ∧ Below w.heap.size w wr ∧ out ++ Ids.pickL p ps qs = Ids.pickL p xs ys ∧ out.length + ps.length + qs.length ≤ 2000) (fun va vb _ _ => lenV va + lenV vb)
  case atStart => exact ⟨xs, ys, [], A, B, c, d, rfl, rfl, HX.out, HY.out, hxc, hyd, hcm, hdm, World.ownsRow_nil _ _ _ _, Below.refl _ _, rfl, by simp; omega⟩
  case round =>
    obtain ⟨ps, qs, out, A', B', c', d', rfl, rfl, hA, hB, hac, hbd, hc'm, hd'm, hown, hb, hrel, hlen⟩ := hrel
    have HA := Lib.hid hA
    have HB := Lib.hid hB
    have HR := Lib.hid hrel
    have hbs := hb.size
    clear hA hB hrel
    cases ps with
    | nil =>
      cases qs with
      | nil =>
        have HO : Hid (wr.ownsRow w.heap.size 3 1 u7 (Ids.pickL p xs ys).length (icells (Ids.pickL p xs ys))) := by
          have h := HR.out
          rw [Ids.pickL, List.append_nil] at h
          rw [← h]; exact hown
        clear hown HR HA HB
        go_wp2
        go_ret
        exact ⟨_, rfl, HO.out, hb⟩
      | cons y qs =>
        obtain ⟨b2, o2, hB1, _, hc2⟩ := HB.out.below hb (by simp)
        subst hB1
        have k0 : wr.cell? ⟨b2, o2, none⟩ = some (.int .i64 y) := hc2 0 (by simp)
        rw [List.length_cons] at hbd ⊢
        clear hc2
        have q1 : ((qs.length : Int) + 1 == 0) = false := by rw [beq_eq_false_iff_ne]; omega
        have q2 : decide ((0 : Int) < (qs.length : Int) + 1) = true := decide_eq_true (by omega)
        have q3 : (0 : Int) < (qs.length : Int) + 1 := by omega
        cases hp : p false true with
        | true =>
          have CG : Hid (∀ w, Calls Try.prog g #[.bool false, .bool true] w fun e w' => e = .returned (.bool true) ∧ w = w') := fun w => by
            have := HG.out false true w; rw [hp] at this; exact this
          have hs := HR.out
          rw [Ids.pickL, if_pos hp, ← List.append_assoc] at hs
          have HS := Lib.hid hs
          clear hs HR hp
          have hm3 : out.length + 1 ≤ maxLen := by unfold maxLen; simp only [List.length_cons] at hlen; omega
          have hm4 : (out.length + 1) * 8 ≤ 140737488355328 := by simp only [List.length_cons] at hlen; omega
          by_cases hd1 : d' = 1
          · have hb0 : qs = [] := List.eq_nil_of_length_eq_zero (by omega)
            go_wp2_with fail
            go_quiet (fail)
            go_wp2_with fail
            go_quiet (fail)
            go_wp2_with fail
            go_quiet (fail)
            go_wp2_with (first
              | (go_at_fn g; ((with_reducible refine (CG.out _).mono ?_); rintro e1 w' ⟨rfl, rfl⟩))
              | (at_builtin; refine wpList_append_own _ rfl _ _ 41 rfl w.heap.size 3 i0 (.int .i64 0) 1 8 Try.underlying41 hi hz0 hz1 hz2 rfl (by decide) _ _ _ rfl (hown.alloc _) ⟨wr.heap.size, 0, none⟩ 1 1 [.int .i64 y] rfl rfl (one_new _ _ _ _ rfl) (one_int _) hm3 hm4 (base1 hbs _) ?_))
            intro v' w1 hown' hgrow _
            have hb1 : Below w.heap.size w w1 := pick_below hgrow hb hbs (fun r hr => (hown.lt r hr).1)
            have HO := Lib.hid (snoc_own hown' rfl)
            clear hown' hgrow hown
            go_wp2
            go_roundw
            case rel => exact ⟨[], qs, (out ++ [y]), A', some ⟨b2, o2, none⟩, c', 0, by first | rfl | go_simp, by first | rfl | go_simp, HA.out, (by rw [hb0]; exact IntsAt.nil _ _), by simp only [List.length_cons] at *; omega, by simp only [List.length_cons] at *; omega, by omega, by omega, HO.out, hb1, HS.out, by simp only [List.length_append, List.length_cons, List.length_nil] at *; omega⟩
            case measure => simp [lenV] <;> omega
          · have hd1n : 1 < d' := by omega
            go_wp2_with fail
            go_quiet (fail)
            go_wp2_with fail
            go_quiet (fail)
            go_wp2_with fail
            go_quiet (fail)
            go_wp2_with (first
              | (go_at_fn g; ((with_reducible refine (CG.out _).mono ?_); rintro e1 w' ⟨rfl, rfl⟩))
              | (at_builtin; refine wpList_append_own _ rfl _ _ 41 rfl w.heap.size 3 i0 (.int .i64 0) 1 8 Try.underlying41 hi hz0 hz1 hz2 rfl (by decide) _ _ _ rfl (hown.alloc _) ⟨wr.heap.size, 0, none⟩ 1 1 [.int .i64 y] rfl rfl (one_new _ _ _ _ rfl) (one_int _) hm3 hm4 (base1 hbs _) ?_))
            intro v' w1 hown' hgrow _
            have hb1 : Below w.heap.size w w1 := pick_below hgrow hb hbs (fun r hr => (hown.lt r hr).1)
            have HO := Lib.hid (snoc_own hown' rfl)
            clear hown' hgrow hown
            go_wp2
            go_roundw
            case rel => exact ⟨[], qs, (out ++ [y]), A', some ⟨b2, o2 + 1, none⟩, c', d' - 1, by first | rfl | go_simp, by first | rfl | go_simp, HA.out, (ints_tail HB.out), by simp only [List.length_cons] at *; omega, by simp only [List.length_cons] at *; omega, by omega, by omega, HO.out, hb1, HS.out, by simp only [List.length_append, List.length_cons, List.length_nil] at *; omega⟩
            case measure => simp [lenV] <;> omega
        | false =>
          have CG : Hid (∀ w, Calls Try.prog g #[.bool false, .bool true] w fun e w' => e = .returned (.bool false) ∧ w = w') := fun w => by
            have := HG.out false true w; rw [hp] at this; exact this
          have hs := HR.out
          rw [Ids.pickL, if_neg (by rw [hp]; decide), List.nil_append] at hs
          have HS := Lib.hid hs
          clear hs HR hp
          by_cases hd1 : d' = 1
          · have hb0 : qs = [] := List.eq_nil_of_length_eq_zero (by omega)
            go_wp2_with fail
            go_quiet (fail)
            go_wp2_with fail
            go_quiet (fail)
            go_wp2_with fail
            go_quiet (fail)
            go_wp2_with (go_at_fn g; ((with_reducible refine (CG.out _).mono ?_); rintro e1 w' ⟨rfl, rfl⟩))
            go_roundw
            case rel => exact ⟨[], qs, out, A', some ⟨b2, o2, none⟩, c', 0, by first | rfl | go_simp, by first | rfl | go_simp, HA.out, (by rw [hb0]; exact IntsAt.nil _ _), by simp only [List.length_cons] at *; omega, by simp only [List.length_cons] at *; omega, by omega, by omega, hown, (below_drewN hb _), HS.out, by simp only [List.length_cons, List.length_nil] at *; omega⟩
            case measure => simp [lenV] <;> omega
          · have hd1n : 1 < d' := by omega
            go_wp2_with fail
            go_quiet (fail)
            go_wp2_with fail
            go_quiet (fail)
            go_wp2_with fail
            go_quiet (fail)
            go_wp2_with (go_at_fn g; ((with_reducible refine (CG.out _).mono ?_); rintro e1 w' ⟨rfl, rfl⟩))
            go_roundw
            case rel => exact ⟨[], qs, out, A', some ⟨b2, o2 + 1, none⟩, c', d' - 1, by first | rfl | go_simp, by first | rfl | go_simp, HA.out, (ints_tail HB.out), by simp only [List.length_cons] at *; omega, by simp only [List.length_cons] at *; omega, by omega, by omega, hown, (below_drewN hb _), HS.out, by simp only [List.length_cons, List.length_nil] at *; omega⟩
            case measure => simp [lenV] <;> omega
    | cons x ps =>
      cases qs with
      | nil =>
        obtain ⟨b1, o1, hA1, _, hc1⟩ := HA.out.below hb (by simp)
        subst hA1
        have c0 : wr.cell? ⟨b1, o1, none⟩ = some (.int .i64 x) := hc1 0 (by simp)
        rw [List.length_cons] at hac ⊢
        clear hc1
        have g1 : ((ps.length : Int) + 1 == 0) = false := by rw [beq_eq_false_iff_ne]; omega
        have g2 : decide ((0 : Int) < (ps.length : Int) + 1) = true := decide_eq_true (by omega)
        have g3 : (0 : Int) < (ps.length : Int) + 1 := by omega
        cases hp : p true false with
        | true =>
          have CG : Hid (∀ w, Calls Try.prog g #[.bool true, .bool false] w fun e w' => e = .returned (.bool true) ∧ w = w') := fun w => by
            have := HG.out true false w; rw [hp] at this; exact this
          have hs := HR.out
          rw [Ids.pickL, if_pos hp, ← List.append_assoc] at hs
          have HS := Lib.hid hs
          clear hs HR hp
          have hm3 : out.length + 1 ≤ maxLen := by unfold maxLen; simp only [List.length_cons] at hlen; omega
          have hm4 : (out.length + 1) * 8 ≤ 140737488355328 := by simp only [List.length_cons] at hlen; omega
          by_cases hc1 : c' = 1
          · have ha0 : ps = [] := List.eq_nil_of_length_eq_zero (by omega)
            go_wp2_with fail
            go_quiet (fail)
            go_wp2_with fail
            go_quiet (fail)
            go_wp2_with fail
            go_quiet (fail)
            go_wp2_with (first
              | (go_at_fn g; ((with_reducible refine (CG.out _).mono ?_); rintro e1 w' ⟨rfl, rfl⟩))
              | (at_builtin; refine wpList_append_own _ rfl _ _ 41 rfl w.heap.size 3 i0 (.int .i64 0) 1 8 Try.underlying41 hi hz0 hz1 hz2 rfl (by decide) _ _ _ rfl (hown.alloc _) ⟨wr.heap.size, 0, none⟩ 1 1 [.int .i64 x] rfl rfl (one_new _ _ _ _ rfl) (one_int _) hm3 hm4 (base1 hbs _) ?_))
            intro v' w1 hown' hgrow _
            have hb1 : Below w.heap.size w w1 := pick_below hgrow hb hbs (fun r hr => (hown.lt r hr).1)
            have HO := Lib.hid (snoc_own hown' rfl)
            clear hown' hgrow hown
            go_wp2
            go_roundw
            case rel => exact ⟨ps, [], (out ++ [x]), some ⟨b1, o1, none⟩, B', 0, d', by first | rfl | go_simp, by first | rfl | go_simp, (by rw [ha0]; exact IntsAt.nil _ _), HB.out, by simp only [List.length_cons] at *; omega, by simp only [List.length_cons] at *; omega, by omega, by omega, HO.out, hb1, HS.out, by simp only [List.length_append, List.length_cons, List.length_nil] at *; omega⟩
            case measure => simp [lenV] <;> omega
          · have hc1n : 1 < c' := by omega
            go_wp2_with fail
            go_quiet (fail)
            go_wp2_with fail
            go_quiet (fail)
            go_wp2_with fail
            go_quiet (fail)
            go_wp2_with (first
              | (go_at_fn g; ((with_reducible refine (CG.out _).mono ?_); rintro e1 w' ⟨rfl, rfl⟩))
              | (at_builtin; refine wpList_append_own _ rfl _ _ 41 rfl w.heap.size 3 i0 (.int .i64 0) 1 8 Try.underlying41 hi hz0 hz1 hz2 rfl (by decide) _ _ _ rfl (hown.alloc _) ⟨wr.heap.size, 0, none⟩ 1 1 [.int .i64 x] rfl rfl (one_new _ _ _ _ rfl) (one_int _) hm3 hm4 (base1 hbs _) ?_))
            intro v' w1 hown' hgrow _
            have hb1 : Below w.heap.size w w1 := pick_below hgrow hb hbs (fun r hr => (hown.lt r hr).1)
            have HO := Lib.hid (snoc_own hown' rfl)
            clear hown' hgrow hown
            go_wp2
            go_roundw
            case rel => exact ⟨ps, [], (out ++ [x]), some ⟨b1, o1 + 1, none⟩, B', c' - 1, d', by first | rfl | go_simp, by first | rfl | go_simp, (ints_tail HA.out), HB.out, by simp only [List.length_cons] at *; omega, by simp only [List.length_cons] at *; omega, by omega, by omega, HO.out, hb1, HS.out, by simp only [List.length_append, List.length_cons, List.length_nil] at *; omega⟩
            case measure => simp [lenV] <;> omega
        | false =>
          have CG : Hid (∀ w, Calls Try.prog g #[.bool true, .bool false] w fun e w' => e = .returned (.bool false) ∧ w = w') := fun w => by
            have := HG.out true false w; rw [hp] at this; exact this
          have hs := HR.out
          rw [Ids.pickL, if_neg (by rw [hp]; decide), List.nil_append] at hs
          have HS := Lib.hid hs
          clear hs HR hp
          by_cases hc1 : c' = 1
          · have ha0 : ps = [] := List.eq_nil_of_length_eq_zero (by omega)
            go_wp2_with fail
            go_quiet (fail)
            go_wp2_with fail
            go_quiet (fail)
            go_wp2_with fail
            go_quiet (fail)
            go_wp2_with (go_at_fn g; ((with_reducible refine (CG.out _).mono ?_); rintro e1 w' ⟨rfl, rfl⟩))
            go_roundw
            case rel => exact ⟨ps, [], out, some ⟨b1, o1, none⟩, B', 0, d', by first | rfl | go_simp, by first | rfl | go_simp, (by rw [ha0]; exact IntsAt.nil _ _), HB.out, by simp only [List.length_cons] at *; omega, by simp only [List.length_cons] at *; omega, by omega, by omega, hown, (below_drewN hb _), HS.out, by simp only [List.length_cons, List.length_nil] at *; omega⟩
            case measure => simp [lenV] <;> omega
          · have hc1n : 1 < c' := by omega
            go_wp2_with fail
            go_quiet (fail)
            go_wp2_with fail
            go_quiet (fail)
            go_wp2_with fail
            go_quiet (fail)
            go_wp2_with (go_at_fn g; ((with_reducible refine (CG.out _).mono ?_); rintro e1 w' ⟨rfl, rfl⟩))
            go_roundw
            case rel => exact ⟨ps, [], out, some ⟨b1, o1 + 1, none⟩, B', c' - 1, d', by first | rfl | go_simp, by first | rfl | go_simp, (ints_tail HA.out), HB.out, by simp only [List.length_cons] at *; omega, by simp only [List.length_cons] at *; omega, by omega, by omega, hown, (below_drewN hb _), HS.out, by simp only [List.length_cons, List.length_nil] at *; omega⟩
            case measure => simp [lenV] <;> omega
      | cons y qs =>
        obtain ⟨b1, o1, hA1, _, hc1⟩ := HA.out.below hb (by simp)
        subst hA1
        have c0 : wr.cell? ⟨b1, o1, none⟩ = some (.int .i64 x) := hc1 0 (by simp)
        rw [List.length_cons] at hac ⊢
        clear hc1
        have g1 : ((ps.length : Int) + 1 == 0) = false := by rw [beq_eq_false_iff_ne]; omega
        have g2 : decide ((0 : Int) < (ps.length : Int) + 1) = true := decide_eq_true (by omega)
        have g3 : (0 : Int) < (ps.length : Int) + 1 := by omega
        obtain ⟨b2, o2, hB1, _, hc2⟩ := HB.out.below hb (by simp)
        subst hB1
        have k0 : wr.cell? ⟨b2, o2, none⟩ = some (.int .i64 y) := hc2 0 (by simp)
        rw [List.length_cons] at hbd ⊢
        clear hc2
        have q1 : ((qs.length : Int) + 1 == 0) = false := by rw [beq_eq_false_iff_ne]; omega
        have q2 : decide ((0 : Int) < (qs.length : Int) + 1) = true := decide_eq_true (by omega)
        have q3 : (0 : Int) < (qs.length : Int) + 1 := by omega
        by_cases hlt : x < y
        · have hle : decide (x ≤ y) = true := decide_eq_true (by omega)
          have hle2 : decide (y ≤ x) = false := decide_eq_false (by omega)
          cases hp : p true false with
          | true =>
            have CG : Hid (∀ w, Calls Try.prog g #[.bool true, .bool false] w fun e w' => e = .returned (.bool true) ∧ w = w') := fun w => by
              have := HG.out true false w; rw [hp] at this; exact this
            have hs := HR.out
            rw [Ids.pickL, if_pos hlt, if_pos hp, ← List.append_assoc] at hs
            have HS := Lib.hid hs
            clear hs HR hp
            have hm3 : out.length + 1 ≤ maxLen := by unfold maxLen; simp only [List.length_cons] at hlen; omega
            have hm4 : (out.length + 1) * 8 ≤ 140737488355328 := by simp only [List.length_cons] at hlen; omega
            by_cases hc1 : c' = 1
            · have ha0 : ps = [] := List.eq_nil_of_length_eq_zero (by omega)
              go_wp2_with fail
              go_quiet (fail)
              go_wp2_with fail
              go_quiet (fail)
              go_wp2_with fail
              go_quiet (fail)
              go_wp2_with (first
                | (go_at_fn g; ((with_reducible refine (CG.out _).mono ?_); rintro e1 w' ⟨rfl, rfl⟩))
                | (at_builtin; refine wpList_append_own _ rfl _ _ 41 rfl w.heap.size 3 i0 (.int .i64 0) 1 8 Try.underlying41 hi hz0 hz1 hz2 rfl (by decide) _ _ _ rfl (hown.alloc _) ⟨wr.heap.size, 0, none⟩ 1 1 [.int .i64 x] rfl rfl (one_new _ _ _ _ rfl) (one_int _) hm3 hm4 (base1 hbs _) ?_))
              intro v' w1 hown' hgrow _
              have hb1 : Below w.heap.size w w1 := pick_below hgrow hb hbs (fun r hr => (hown.lt r hr).1)
              have HO := Lib.hid (snoc_own hown' rfl)
              clear hown' hgrow hown
              go_wp2
              go_roundw
              case rel => exact ⟨ps, (y :: qs), (out ++ [x]), some ⟨b1, o1, none⟩, some ⟨b2, o2, none⟩, 0, d', by first | rfl | go_simp, by first | rfl | go_simp, (by rw [ha0]; exact IntsAt.nil _ _), HB.out, by simp only [List.length_cons] at *; omega, by simp only [List.length_cons] at *; omega, by omega, by omega, HO.out, hb1, HS.out, by simp only [List.length_append, List.length_cons, List.length_nil] at *; omega⟩
              case measure => simp [lenV] <;> omega
            · have hc1n : 1 < c' := by omega
              go_wp2_with fail
              go_quiet (fail)
              go_wp2_with fail
              go_quiet (fail)
              go_wp2_with fail
              go_quiet (fail)
              go_wp2_with (first
                | (go_at_fn g; ((with_reducible refine (CG.out _).mono ?_); rintro e1 w' ⟨rfl, rfl⟩))
                | (at_builtin; refine wpList_append_own _ rfl _ _ 41 rfl w.heap.size 3 i0 (.int .i64 0) 1 8 Try.underlying41 hi hz0 hz1 hz2 rfl (by decide) _ _ _ rfl (hown.alloc _) ⟨wr.heap.size, 0, none⟩ 1 1 [.int .i64 x] rfl rfl (one_new _ _ _ _ rfl) (one_int _) hm3 hm4 (base1 hbs _) ?_))
              intro v' w1 hown' hgrow _
              have hb1 : Below w.heap.size w w1 := pick_below hgrow hb hbs (fun r hr => (hown.lt r hr).1)
              have HO := Lib.hid (snoc_own hown' rfl)
              clear hown' hgrow hown
              go_wp2
              go_roundw
              case rel => exact ⟨ps, (y :: qs), (out ++ [x]), some ⟨b1, o1 + 1, none⟩, some ⟨b2, o2, none⟩, c' - 1, d', by first | rfl | go_simp, by first | rfl | go_simp, (ints_tail HA.out), HB.out, by simp only [List.length_cons] at *; omega, by simp only [List.length_cons] at *; omega, by omega, by omega, HO.out, hb1, HS.out, by simp only [List.length_append, List.length_cons, List.length_nil] at *; omega⟩
              case measure => simp [lenV] <;> omega
          | false =>
            have CG : Hid (∀ w, Calls Try.prog g #[.bool true, .bool false] w fun e w' => e = .returned (.bool false) ∧ w = w') := fun w => by
              have := HG.out true false w; rw [hp] at this; exact this
            have hs := HR.out
            rw [Ids.pickL, if_pos hlt, if_neg (by rw [hp]; decide), List.nil_append] at hs
            have HS := Lib.hid hs
            clear hs HR hp
            by_cases hc1 : c' = 1
            · have ha0 : ps = [] := List.eq_nil_of_length_eq_zero (by omega)
              go_wp2_with fail
              go_quiet (fail)
              go_wp2_with fail
              go_quiet (fail)
              go_wp2_with fail
              go_quiet (fail)
              go_wp2_with (go_at_fn g; ((with_reducible refine (CG.out _).mono ?_); rintro e1 w' ⟨rfl, rfl⟩))
              go_roundw
              case rel => exact ⟨ps, (y :: qs), out, some ⟨b1, o1, none⟩, some ⟨b2, o2, none⟩, 0, d', by first | rfl | go_simp, by first | rfl | go_simp, (by rw [ha0]; exact IntsAt.nil _ _), HB.out, by simp only [List.length_cons] at *; omega, by simp only [List.length_cons] at *; omega, by omega, by omega, hown, (below_drewN hb _), HS.out, by simp only [List.length_cons] at *; omega⟩
              case measure => simp [lenV] <;> omega
            · have hc1n : 1 < c' := by omega
              go_wp2_with fail
              go_quiet (fail)
              go_wp2_with fail
              go_quiet (fail)
              go_wp2_with fail
              go_quiet (fail)
              go_wp2_with (go_at_fn g; ((with_reducible refine (CG.out _).mono ?_); rintro e1 w' ⟨rfl, rfl⟩))
              go_roundw
              case rel => exact ⟨ps, (y :: qs), out, some ⟨b1, o1 + 1, none⟩, some ⟨b2, o2, none⟩, c' - 1, d', by first | rfl | go_simp, by first | rfl | go_simp, (ints_tail HA.out), HB.out, by simp only [List.length_cons] at *; omega, by simp only [List.length_cons] at *; omega, by omega, by omega, hown, (below_drewN hb _), HS.out, by simp only [List.length_cons] at *; omega⟩
              case measure => simp [lenV] <;> omega
        · by_cases hgt : y < x
          · have hle : decide (x ≤ y) = false := decide_eq_false (by omega)
            have hle2 : decide (y ≤ x) = true := decide_eq_true (by omega)
            cases hp : p false true with
            | true =>
              have CG : Hid (∀ w, Calls Try.prog g #[.bool false, .bool true] w fun e w' => e = .returned (.bool true) ∧ w = w') := fun w => by
                have := HG.out false true w; rw [hp] at this; exact this
              have hs := HR.out
              rw [Ids.pickL, if_neg hlt, if_pos hgt, if_pos hp, ← List.append_assoc] at hs
              have HS := Lib.hid hs
              clear hs HR hp
              have hm3 : out.length + 1 ≤ maxLen := by unfold maxLen; simp only [List.length_cons] at hlen; omega
              have hm4 : (out.length + 1) * 8 ≤ 140737488355328 := by simp only [List.length_cons] at hlen; omega
              by_cases hd1 : d' = 1
              · have hb0 : qs = [] := List.eq_nil_of_length_eq_zero (by omega)
                go_wp2_with fail
                go_quiet (fail)
                go_wp2_with fail
                go_quiet (fail)
                go_wp2_with fail
                go_quiet (fail)
                go_wp2_with (first
                  | (go_at_fn g; ((with_reducible refine (CG.out _).mono ?_); rintro e1 w' ⟨rfl, rfl⟩))
                  | (at_builtin; refine wpList_append_own _ rfl _ _ 41 rfl w.heap.size 3 i0 (.int .i64 0) 1 8 Try.underlying41 hi hz0 hz1 hz2 rfl (by decide) _ _ _ rfl (hown.alloc _) ⟨wr.heap.size, 0, none⟩ 1 1 [.int .i64 y] rfl rfl (one_new _ _ _ _ rfl) (one_int _) hm3 hm4 (base1 hbs _) ?_))
                intro v' w1 hown' hgrow _
                have hb1 : Below w.heap.size w w1 := pick_below hgrow hb hbs (fun r hr => (hown.lt r hr).1)
                have HO := Lib.hid (snoc_own hown' rfl)
                clear hown' hgrow hown
                go_wp2
                go_roundw
                case rel => exact ⟨(x :: ps), qs, (out ++ [y]), some ⟨b1, o1, none⟩, some ⟨b2, o2, none⟩, c', 0, by first | rfl | go_simp, by first | rfl | go_simp, HA.out, (by rw [hb0]; exact IntsAt.nil _ _), by simp only [List.length_cons] at *; omega, by simp only [List.length_cons] at *; omega, by omega, by omega, HO.out, hb1, HS.out, by simp only [List.length_append, List.length_cons, List.length_nil] at *; omega⟩
                case measure => simp [lenV] <;> omega
              · have hd1n : 1 < d' := by omega
                go_wp2_with fail
                go_quiet (fail)
                go_wp2_with fail
                go_quiet (fail)
                go_wp2_with fail
                go_quiet (fail)
                go_wp2_with (first
                  | (go_at_fn g; ((with_reducible refine (CG.out _).mono ?_); rintro e1 w' ⟨rfl, rfl⟩))
                  | (at_builtin; refine wpList_append_own _ rfl _ _ 41 rfl w.heap.size 3 i0 (.int .i64 0) 1 8 Try.underlying41 hi hz0 hz1 hz2 rfl (by decide) _ _ _ rfl (hown.alloc _) ⟨wr.heap.size, 0, none⟩ 1 1 [.int .i64 y] rfl rfl (one_new _ _ _ _ rfl) (one_int _) hm3 hm4 (base1 hbs _) ?_))
                intro v' w1 hown' hgrow _
                have hb1 : Below w.heap.size w w1 := pick_below hgrow hb hbs (fun r hr => (hown.lt r hr).1)
                have HO := Lib.hid (snoc_own hown' rfl)
                clear hown' hgrow hown
                go_wp2
                go_roundw
                case rel => exact ⟨(x :: ps), qs, (out ++ [y]), some ⟨b1, o1, none⟩, some ⟨b2, o2 + 1, none⟩, c', d' - 1, by first | rfl | go_simp, by first | rfl | go_simp, HA.out, (ints_tail HB.out), by simp only [List.length_cons] at *; omega, by simp only [List.length_cons] at *; omega, by omega, by omega, HO.out, hb1, HS.out, by simp only [List.length_append, List.length_cons, List.length_nil] at *; omega⟩
                case measure => simp [lenV] <;> omega
            | false =>
              have CG : Hid (∀ w, Calls Try.prog g #[.bool false, .bool true] w fun e w' => e = .returned (.bool false) ∧ w = w') := fun w => by
                have := HG.out false true w; rw [hp] at this; exact this
              have hs := HR.out
              rw [Ids.pickL, if_neg hlt, if_pos hgt, if_neg (by rw [hp]; decide), List.nil_append] at hs
              have HS := Lib.hid hs
              clear hs HR hp
              by_cases hd1 : d' = 1
              · have hb0 : qs = [] := List.eq_nil_of_length_eq_zero (by omega)
                go_wp2_with fail
                go_quiet (fail)
                go_wp2_with fail
                go_quiet (fail)
                go_wp2_with fail
                go_quiet (fail)
                go_wp2_with (go_at_fn g; ((with_reducible refine (CG.out _).mono ?_); rintro e1 w' ⟨rfl, rfl⟩))
                go_roundw
                case rel => exact ⟨(x :: ps), qs, out, some ⟨b1, o1, none⟩, some ⟨b2, o2, none⟩, c', 0, by first | rfl | go_simp, by first | rfl | go_simp, HA.out, (by rw [hb0]; exact IntsAt.nil _ _), by simp only [List.length_cons] at *; omega, by simp only [List.length_cons] at *; omega, by omega, by omega, hown, (below_drewN hb _), HS.out, by simp only [List.length_cons] at *; omega⟩
                case measure => simp [lenV] <;> omega
              · have hd1n : 1 < d' := by omega
                go_wp2_with fail
                go_quiet (fail)
                go_wp2_with fail
                go_quiet (fail)
                go_wp2_with fail
                go_quiet (fail)
                go_wp2_with (go_at_fn g; ((with_reducible refine (CG.out _).mono ?_); rintro e1 w' ⟨rfl, rfl⟩))
                go_roundw
                case rel => exact ⟨(x :: ps), qs, out, some ⟨b1, o1, none⟩, some ⟨b2, o2 + 1, none⟩, c', d' - 1, by first | rfl | go_simp, by first | rfl | go_simp, HA.out, (ints_tail HB.out), by simp only [List.length_cons] at *; omega, by simp only [List.length_cons] at *; omega, by omega, by omega, hown, (below_drewN hb _), HS.out, by simp only [List.length_cons] at *; omega⟩
                case measure => simp [lenV] <;> omega
          · have hle : decide (x ≤ y) = true := decide_eq_true (by omega)
            have hle2 : decide (y ≤ x) = true := decide_eq_true (by omega)
            cases hp : p true true with
            | true =>
              have CG : Hid (∀ w, Calls Try.prog g #[.bool true, .bool true] w fun e w' => e = .returned (.bool true) ∧ w = w') := fun w => by
                have := HG.out true true w; rw [hp] at this; exact this
              have hs := HR.out
              rw [Ids.pickL, if_neg hlt, if_neg hgt, if_pos hp, ← List.append_assoc] at hs
              have HS := Lib.hid hs
              clear hs HR hp
              have hm3 : out.length + 1 ≤ maxLen := by unfold maxLen; simp only [List.length_cons] at hlen; omega
              have hm4 : (out.length + 1) * 8 ≤ 140737488355328 := by simp only [List.length_cons] at hlen; omega
              by_cases hc1 : c' = 1
              · have ha0 : ps = [] := List.eq_nil_of_length_eq_zero (by omega)
                by_cases hd1 : d' = 1
                · have hb0 : qs = [] := List.eq_nil_of_length_eq_zero (by omega)
                  go_wp2_with fail
                  go_quiet (fail)
                  go_wp2_with fail
                  go_quiet (fail)
                  go_wp2_with fail
                  go_quiet (fail)
                  go_wp2_with fail
                  go_quiet (fail)
                  go_wp2_with (first
                    | (go_at_fn g; ((with_reducible refine (CG.out _).mono ?_); rintro e1 w' ⟨rfl, rfl⟩))
                    | (at_builtin; refine wpList_append_own _ rfl _ _ 41 rfl w.heap.size 3 i0 (.int .i64 0) 1 8 Try.underlying41 hi hz0 hz1 hz2 rfl (by decide) _ _ _ rfl (hown.alloc _) ⟨wr.heap.size, 0, none⟩ 1 1 [.int .i64 y] rfl rfl (one_new _ _ _ _ rfl) (one_int _) hm3 hm4 (base1 hbs _) ?_))
                  intro v' w1 hown' hgrow _
                  have hb1 : Below w.heap.size w w1 := pick_below hgrow hb hbs (fun r hr => (hown.lt r hr).1)
                  have HO := Lib.hid (snoc_own hown' rfl)
                  clear hown' hgrow hown
                  go_wp2
                  go_roundw
                  case rel => exact ⟨ps, qs, (out ++ [y]), some ⟨b1, o1, none⟩, some ⟨b2, o2, none⟩, 0, 0, by first | rfl | go_simp, by first | rfl | go_simp, (by rw [ha0]; exact IntsAt.nil _ _), (by rw [hb0]; exact IntsAt.nil _ _), by simp only [List.length_cons] at *; omega, by simp only [List.length_cons] at *; omega, by omega, by omega, HO.out, hb1, HS.out, by simp only [List.length_append, List.length_cons, List.length_nil] at *; omega⟩
                  case measure => simp [lenV] <;> omega
                · have hd1n : 1 < d' := by omega
                  go_wp2_with fail
                  go_quiet (fail)
                  go_wp2_with fail
                  go_quiet (fail)
                  go_wp2_with fail
                  go_quiet (fail)
                  go_wp2_with fail
                  go_quiet (fail)
                  go_wp2_with (first
                    | (go_at_fn g; ((with_reducible refine (CG.out _).mono ?_); rintro e1 w' ⟨rfl, rfl⟩))
                    | (at_builtin; refine wpList_append_own _ rfl _ _ 41 rfl w.heap.size 3 i0 (.int .i64 0) 1 8 Try.underlying41 hi hz0 hz1 hz2 rfl (by decide) _ _ _ rfl (hown.alloc _) ⟨wr.heap.size, 0, none⟩ 1 1 [.int .i64 y] rfl rfl (one_new _ _ _ _ rfl) (one_int _) hm3 hm4 (base1 hbs _) ?_))
                  intro v' w1 hown' hgrow _
                  have hb1 : Below w.heap.size w w1 := pick_below hgrow hb hbs (fun r hr => (hown.lt r hr).1)
                  have HO := Lib.hid (snoc_own hown' rfl)
                  clear hown' hgrow hown
                  go_wp2
                  go_roundw
                  case rel => exact ⟨ps, qs, (out ++ [y]), some ⟨b1, o1, none⟩, some ⟨b2, o2 + 1, none⟩, 0, d' - 1, by first | rfl | go_simp, by first | rfl | go_simp, (by rw [ha0]; exact IntsAt.nil _ _), (ints_tail HB.out), by simp only [List.length_cons] at *; omega, by simp only [List.length_cons] at *; omega, by omega, by omega, HO.out, hb1, HS.out, by simp only [List.length_append, List.length_cons, List.length_nil] at *; omega⟩
                  case measure => simp [lenV] <;> omega
              · have hc1n : 1 < c' := by omega
                by_cases hd1 : d' = 1
                · have hb0 : qs = [] := List.eq_nil_of_length_eq_zero (by omega)
                  go_wp2_with fail
                  go_quiet (fail)
                  go_wp2_with fail
                  go_quiet (fail)
                  go_wp2_with fail
                  go_quiet (fail)
                  go_wp2_with fail
                  go_quiet (fail)
                  go_wp2_with (first
                    | (go_at_fn g; ((with_reducible refine (CG.out _).mono ?_); rintro e1 w' ⟨rfl, rfl⟩))
                    | (at_builtin; refine wpList_append_own _ rfl _ _ 41 rfl w.heap.size 3 i0 (.int .i64 0) 1 8 Try.underlying41 hi hz0 hz1 hz2 rfl (by decide) _ _ _ rfl (hown.alloc _) ⟨wr.heap.size, 0, none⟩ 1 1 [.int .i64 y] rfl rfl (one_new _ _ _ _ rfl) (one_int _) hm3 hm4 (base1 hbs _) ?_))
                  intro v' w1 hown' hgrow _
                  have hb1 : Below w.heap.size w w1 := pick_below hgrow hb hbs (fun r hr => (hown.lt r hr).1)
                  have HO := Lib.hid (snoc_own hown' rfl)
                  clear hown' hgrow hown
                  go_wp2
                  go_roundw
                  case rel => exact ⟨ps, qs, (out ++ [y]), some ⟨b1, o1 + 1, none⟩, some ⟨b2, o2, none⟩, c' - 1, 0, by first | rfl | go_simp, by first | rfl | go_simp, (ints_tail HA.out), (by rw [hb0]; exact IntsAt.nil _ _), by simp only [List.length_cons] at *; omega, by simp only [List.length_cons] at *; omega, by omega, by omega, HO.out, hb1, HS.out, by simp only [List.length_append, List.length_cons, List.length_nil] at *; omega⟩
                  case measure => simp [lenV] <;> omega
                · have hd1n : 1 < d' := by omega
                  go_wp2_with fail
                  go_quiet (fail)
                  go_wp2_with fail
                  go_quiet (fail)
                  go_wp2_with fail
                  go_quiet (fail)
                  go_wp2_with fail
                  go_quiet (fail)
                  go_wp2_with (first
                    | (go_at_fn g; ((with_reducible refine (CG.out _).mono ?_); rintro e1 w' ⟨rfl, rfl⟩))
                    | (at_builtin; refine wpList_append_own _ rfl _ _ 41 rfl w.heap.size 3 i0 (.int .i64 0) 1 8 Try.underlying41 hi hz0 hz1 hz2 rfl (by decide) _ _ _ rfl (hown.alloc _) ⟨wr.heap.size, 0, none⟩ 1 1 [.int .i64 y] rfl rfl (one_new _ _ _ _ rfl) (one_int _) hm3 hm4 (base1 hbs _) ?_))
                  intro v' w1 hown' hgrow _
                  have hb1 : Below w.heap.size w w1 := pick_below hgrow hb hbs (fun r hr => (hown.lt r hr).1)
                  have HO := Lib.hid (snoc_own hown' rfl)
                  clear hown' hgrow hown
                  go_wp2
                  go_roundw
                  case rel => exact ⟨ps, qs, (out ++ [y]), some ⟨b1, o1 + 1, none⟩, some ⟨b2, o2 + 1, none⟩, c' - 1, d' - 1, by first | rfl | go_simp, by first | rfl | go_simp, (ints_tail HA.out), (ints_tail HB.out), by simp only [List.length_cons] at *; omega, by simp only [List.length_cons] at *; omega, by omega, by omega, HO.out, hb1, HS.out, by simp only [List.length_append, List.length_cons, List.length_nil] at *; omega⟩
                  case measure => simp [lenV] <;> omega
            | false =>
              have CG : Hid (∀ w, Calls Try.prog g #[.bool true, .bool true] w fun e w' => e = .returned (.bool false) ∧ w = w') := fun w => by
                have := HG.out true true w; rw [hp] at this; exact this
              have hs := HR.out
              rw [Ids.pickL, if_neg hlt, if_neg hgt, if_neg (by rw [hp]; decide), List.nil_append] at hs
              have HS := Lib.hid hs
              clear hs HR hp
              by_cases hc1 : c' = 1
              · have ha0 : ps = [] := List.eq_nil_of_length_eq_zero (by omega)
                by_cases hd1 : d' = 1
                · have hb0 : qs = [] := List.eq_nil_of_length_eq_zero (by omega)
                  go_wp2_with fail
                  go_quiet (fail)
                  go_wp2_with fail
                  go_quiet (fail)
                  go_wp2_with fail
                  go_quiet (fail)
                  go_wp2_with fail
                  go_quiet (fail)
                  go_wp2_with (go_at_fn g; ((with_reducible refine (CG.out _).mono ?_); rintro e1 w' ⟨rfl, rfl⟩))
                  go_roundw
                  case rel => exact ⟨ps, qs, out, some ⟨b1, o1, none⟩, some ⟨b2, o2, none⟩, 0, 0, by first | rfl | go_simp, by first | rfl | go_simp, (by rw [ha0]; exact IntsAt.nil _ _), (by rw [hb0]; exact IntsAt.nil _ _), by simp only [List.length_cons] at *; omega, by simp only [List.length_cons] at *; omega, by omega, by omega, hown, (below_drewN hb _), HS.out, by simp only [List.length_cons] at *; omega⟩
                  case measure => simp [lenV] <;> omega
                · have hd1n : 1 < d' := by omega
                  go_wp2_with fail
                  go_quiet (fail)
                  go_wp2_with fail
                  go_quiet (fail)
                  go_wp2_with fail
                  go_quiet (fail)
                  go_wp2_with fail
                  go_quiet (fail)
                  go_wp2_with (go_at_fn g; ((with_reducible refine (CG.out _).mono ?_); rintro e1 w' ⟨rfl, rfl⟩))
                  go_roundw
                  case rel => exact ⟨ps, qs, out, some ⟨b1, o1, none⟩, some ⟨b2, o2 + 1, none⟩, 0, d' - 1, by first | rfl | go_simp, by first | rfl | go_simp, (by rw [ha0]; exact IntsAt.nil _ _), (ints_tail HB.out), by simp only [List.length_cons] at *; omega, by simp only [List.length_cons] at *; omega, by omega, by omega, hown, (below_drewN hb _), HS.out, by simp only [List.length_cons] at *; omega⟩
                  case measure => simp [lenV] <;> omega
              · have hc1n : 1 < c' := by omega
                by_cases hd1 : d' = 1
                · have hb0 : qs = [] := List.eq_nil_of_length_eq_zero (by omega)
                  go_wp2_with fail
                  go_quiet (fail)
                  go_wp2_with fail
                  go_quiet (fail)
                  go_wp2_with fail
                  go_quiet (fail)
                  go_wp2_with fail
                  go_quiet (fail)
                  go_wp2_with (go_at_fn g; ((with_reducible refine (CG.out _).mono ?_); rintro e1 w' ⟨rfl, rfl⟩))
                  go_roundw
                  case rel => exact ⟨ps, qs, out, some ⟨b1, o1 + 1, none⟩, some ⟨b2, o2, none⟩, c' - 1, 0, by first | rfl | go_simp, by first | rfl | go_simp, (ints_tail HA.out), (by rw [hb0]; exact IntsAt.nil _ _), by simp only [List.length_cons] at *; omega, by simp only [List.length_cons] at *; omega, by omega, by omega, hown, (below_drewN hb _), HS.out, by simp only [List.length_cons] at *; omega⟩
                  case measure => simp [lenV] <;> omega
                · have hd1n : 1 < d' := by omega
                  go_wp2_with fail
                  go_quiet (fail)
                  go_wp2_with fail
                  go_quiet (fail)
                  go_wp2_with fail
                  go_quiet (fail)
                  go_wp2_with fail
                  go_quiet (fail)
                  go_wp2_with (go_at_fn g; ((with_reducible refine (CG.out _).mono ?_); rintro e1 w' ⟨rfl, rfl⟩))
                  go_roundw
                  case rel => exact ⟨ps, qs, out, some ⟨b1, o1 + 1, none⟩, some ⟨b2, o2 + 1, none⟩, c' - 1, d' - 1, by first | rfl | go_simp, by first | rfl | go_simp, (ints_tail HA.out), (ints_tail HB.out), by simp only [List.length_cons] at *; omega, by simp only [List.length_cons] at *; omega, by omega, by omega, hown, (below_drewN hb _), HS.out, by simp only [List.length_cons] at *; omega⟩
                  case measure => simp [lenV] <;> omega
end I
end Go.Proofs.Ytkbchpbdpkbnjaa
