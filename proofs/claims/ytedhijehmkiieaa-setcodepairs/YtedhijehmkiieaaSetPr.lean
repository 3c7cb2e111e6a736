/-
  Setcode (layer 13): pairs in memory; do they rise; may they be; the program's Pairs.
-/
import Derived.Test.YtedhijehmkiieaaSetEnc
namespace Go.Proofs.Ytedhijehmkiieaa
open Go.RowKit
namespace Sc
open B

abbrev P2 := Int × Int
def pcs (l : List P2) : List Value := l.flatMap fun x => [.int .i64 x.1, .int .i64 x.2]
theorem pcs_len : ∀ l : List P2, (pcs l).length = l.length * 2
  | [] => rfl
  | x :: l => by
    have := pcs_len l
    unfold pcs at this ⊢
    rw [List.flatMap_cons, List.length_append, this, List.length_cons]; simp only [List.length_cons, List.length_nil]; omega
theorem pcs_app (l m : List P2) : pcs (l ++ m) = pcs l ++ pcs m := by unfold pcs; rw [List.flatMap_append]
theorem pcs_at : ∀ (l : List P2) (i : Nat) (h : i < l.length), (pcs l)[i * 2]? = some (.int .i64 l[i].1) ∧ (pcs l)[i * 2 + 1]? = some (.int .i64 l[i].2)
  | x :: l, 0, _ => ⟨rfl, rfl⟩
  | x :: l, i + 1, h => by
    have := pcs_at l i (by simpa using h)
    unfold pcs at this ⊢
    rw [List.flatMap_cons, show (i + 1) * 2 = i * 2 + 1 + 1 by omega]
    simpa using this
/-- a slice that reads as pairs -/
def PrR (w : World) (A : Option Addr) (l : List P2) : Prop := 0 < l.length → ∃ b off, A = some ⟨b, off, none⟩ ∧ b < w.heap.size ∧ ∀ i (h : i < l.length), w.cell? ⟨b, off + i * 2, none⟩ = some (.int .i64 l[i].1) ∧ w.cell? ⟨b, off + i * 2 + 1, none⟩ = some (.int .i64 l[i].2)
theorem PrR.below {w w' : World} {A : Option Addr} {l : List P2} (h : PrR w A l) (hb : Below w.heap.size w w') : PrR w' A l := fun hp => by
  obtain ⟨b, off, h1, h2, h3⟩ := h hp
  exact ⟨b, off, h1, Nat.lt_of_lt_of_le h2 hb.size, fun i hi => ⟨(hb.cell (p := ⟨b, off + i * 2, none⟩) h2).trans (h3 i hi).1, (hb.cell (p := ⟨b, off + i * 2 + 1, none⟩) h2).trans (h3 i hi).2⟩⟩
theorem PrR.nil (w : World) (A : Option Addr) : PrR w A [] := fun h => absurd h (by simp)
theorem PrR.take {w : World} {A : Option Addr} {l : List P2} (h : PrR w A l) (n : Nat) : PrR w A (l.take n) := fun hp => by
  rw [List.length_take] at hp
  obtain ⟨b, off, h1, h2, h3⟩ := h (by omega)
  refine ⟨b, off, h1, h2, fun i hi => ?_⟩
  rw [List.length_take] at hi
  rw [List.getElem_take]; exact h3 i (by omega)
theorem own_prr {w : World} {B0 n : Nat} {v : Value} {l : List P2} (h : w.ownsRow B0 116 2 v n (pcs l)) : ∃ A c, v = .slice A l.length c ∧ PrR w A l ∧ n = l.length := by
  have hn : n = l.length := by have := h.1; rw [pcs_len] at this; omega
  subst hn
  rcases h.2 with ⟨rfl, h0⟩ | ⟨g, cap, cur, rfl, hb, hg, _⟩
  · have hl : l = [] := List.eq_nil_of_length_eq_zero h0
    subst hl
    exact ⟨.none, 0, rfl, PrR.nil _ _, rfl⟩
  · refine ⟨_, cap, rfl, fun _ => ⟨g, 0, rfl, (h.lt g rfl).2, fun i hi => ?_⟩, rfl⟩
    obtain ⟨p0, p1⟩ := pcs_at l i hi
    have c0 := h.cells rfl (i * 2) _ p0
    have c1 := h.cells rfl (i * 2 + 1) _ p1
    rw [add_plain0] at c0 c1
    rw [Nat.zero_add]
    exact ⟨c0, c1⟩

/-! ### lists of numbers compared -/
def cmp : List Int → List Int → Int
  | [], [] => 0
  | [], _ :: _ => -1
  | _ :: _, [] => 1
  | x :: l, y :: m => if x < y then -1 else if y < x then 1 else cmp l m
theorem cmp_drop (xs ys : List Int) (k : Nat) (h : k < xs.length) (h2 : k < ys.length) : cmp (xs.drop k) (ys.drop k) = if xs[k] < ys[k] then -1 else if ys[k] < xs[k] then 1 else cmp (xs.drop (k + 1)) (ys.drop (k + 1)) := by
  rw [List.drop_eq_getElem_cons h, List.drop_eq_getElem_cons h2, cmp]
theorem cmp_pair (p q : P2) : decide (0 ≤ cmp [p.1, p.2] [q.1, q.2]) = !(plt p q) := by
  obtain ⟨a, b⟩ := p
  obtain ⟨c, d⟩ := q
  simp only [cmp, plt]
  by_cases h1 : a < c
  · simp [h1]
  · by_cases h2 : c < a
    · have h3 : ¬ a = c := by omega
      simp [h1, h2, h3]
    · have h3 : a = c := by omega
      subst h3
      by_cases h4 : b < d
      · simp [h4]
      · by_cases h5 : d < b
        · simp [h4, h5]
        · simp [h4, h5]

set_option maxRecDepth 100000 in
set_option maxHeartbeats 1000000 in
theorem slicesCompare_any (xs ys : List Int) (A B : Option Addr) (c d : Nat) (w : World) (hl : xs.length ≤ 1000000) (hl2 : ys.length ≤ 1000000) (hx : At vInt w A xs) (hy : At vInt w B ys) :
    Calls Try.prog 92 #[.slice A xs.length c, .slice B ys.length d] w fun e w' => e = .returned (.int .i64 (cmp xs ys)) ∧ w = w' := by
  have HX := Lib.hid hx
  have HY := Lib.hid hy
  clear hx hy
  go_enter Try.func92, Try.ntmps92
  go_wp2
  go_loop [11] (fun i => ∃ k : Nat, k ≤ xs.length ∧ k ≤ ys.length ∧ i = .int .i64 (k : Int) ∧ cmp xs ys = cmp (xs.drop k) (ys.drop k)) (fun i => xs.length - (intOf i).toNat)
  case atStart => exact ⟨0, Nat.zero_le _, Nat.zero_le _, rfl, rfl⟩
  case round =>
    obtain ⟨k, hk, hk2, rfl, hr⟩ := hrel
    have HR := Lib.hid hr
    clear hr
    by_cases hlt : k < xs.length
    · obtain ⟨b, off, hA, _, hc⟩ := HX.out (by omega)
      subst hA
      have c0 := hc k hlt
      by_cases hlt2 : k < ys.length
      · obtain ⟨b2, off2, hB, _, hc2⟩ := HY.out (by omega)
        subst hB
        have c1 := hc2 k hlt2
        have HD := Lib.hid (cmp_drop xs ys k hlt hlt2)
        clear hc hc2
        generalize xs[k] = x at *
        generalize ys[k] = y at *
        have CC := Lib.hid (Try.cmp_Compare_int x y w)
        by_cases hxy : x < y
        · have HT : Hid (cmp xs ys = -1) := by rw [HR.out, HD.out, if_pos hxy]; rfl
          have hv : Lib.compareInt x y = -1 := by unfold Lib.compareInt; rw [if_pos hxy]
          rw [hv] at CC
          clear HD HR hv
          go_wp2_with (go_at_call 106; ((with_reducible refine CC.out.mono ?_); rintro e1 w' ⟨rfl, rfl⟩))
          go_ret
          exact ⟨ret_int HT.out.symm, rfl⟩
        · by_cases hyx : y < x
          · have HT : Hid (cmp xs ys = 1) := by rw [HR.out, HD.out, if_neg hxy, if_pos hyx]; rfl
            have hv : Lib.compareInt x y = 1 := by unfold Lib.compareInt; rw [if_neg hxy, if_pos hyx]
            rw [hv] at CC
            clear HD HR hv
            go_wp2_with (go_at_call 106; ((with_reducible refine CC.out.mono ?_); rintro e1 w' ⟨rfl, rfl⟩))
            go_ret
            exact ⟨ret_int HT.out.symm, rfl⟩
          · have HT : Hid (cmp xs ys = cmp (xs.drop (k + 1)) (ys.drop (k + 1))) := by rw [HR.out, HD.out, if_neg hxy, if_neg hyx]; rfl
            have hv : Lib.compareInt x y = 0 := by unfold Lib.compareInt; rw [if_neg hxy, if_neg hyx]
            rw [hv] at CC
            clear HD HR hv
            go_wp2_with (go_at_call 106; ((with_reducible refine CC.out.mono ?_); rintro e1 w' ⟨rfl, rfl⟩))
            go_round
            case rel => exact ⟨k + 1, by omega, by omega, by go_num, HT.out⟩
            case measure => simp [intOf]; omega
      · have HT : Hid (cmp xs ys = 1) := by
          rw [HR.out, List.drop_eq_nil_of_le (show ys.length ≤ k by omega), List.drop_eq_getElem_cons hlt]; rfl
        go_wp2
        go_ret
        exact ⟨ret_int HT.out.symm, rfl⟩
    · by_cases hlt2 : xs.length < ys.length
      · have HT : Hid (cmp xs ys = -1) := by
          rw [HR.out, List.drop_eq_nil_of_le (show xs.length ≤ k by omega), List.drop_eq_getElem_cons (show k < ys.length by omega)]; rfl
        go_wp2
        go_ret
        exact ⟨ret_int HT.out.symm, rfl⟩
      · have HT : Hid (cmp xs ys = 0) := by
          rw [HR.out, List.drop_eq_nil_of_le (show xs.length ≤ k by omega), List.drop_eq_nil_of_le (by omega)]; rfl
        go_wp2
        go_ret
        exact ⟨ret_int HT.out.symm, rfl⟩

/-- two cells that stand side by side read as a list of two -/
theorem at_two {w : World} {b o : Nat} {x y : Int} (hb : b < w.heap.size) (h0 : w.cell? ⟨b, o, none⟩ = some (.int .i64 x)) (h1 : w.cell? ⟨b, o + 1, none⟩ = some (.int .i64 y)) : At vInt w (some ⟨b, o, none⟩) [x, y] := fun _ => by
  refine ⟨b, o, rfl, hb, fun i hi => ?_⟩
  match i, hi with
  | 0, _ => exact h0
  | 1, _ => exact h1
  | i + 2, hi => exact absurd hi (by simp)

set_option maxRecDepth 100000 in
set_option maxHeartbeats 2000000 in
theorem prise_any (l : List P2) (A : Option Addr) (c : Nat) (w : World) (hl : l.length ≤ 1000000) (hx : PrR w A l) :
    Calls Try.prog 62 #[.slice A l.length c] w fun e w' => e = .returned (.bool (prise l)) ∧ ∃ n, w' = w.drewN n := by
  have HX := Lib.hid hx
  clear hx
  go_enter Try.func62, Try.ntmps62
  go_wp2
  go_loopw [3] (fun i wr => ∃ k n : Nat, k ≤ l.length ∧ i = .int .i64 ((k : Int) + 1) ∧ wr = w.drewN n ∧ prise l = prise (l.drop k)) (fun i _ => l.length + 1 - (intOf i).toNat)
  case atStart => exact ⟨0, 0, Nat.zero_le _, rfl, rfl, rfl⟩
  case round =>
    obtain ⟨k, n, hk, rfl, rfl, hr⟩ := hrel
    have HR := Lib.hid hr
    clear hr
    by_cases hlt : k + 1 < l.length
    · obtain ⟨b, off, hA, hbw, hc⟩ := HX.out (by omega)
      subst hA
      have c0 := hc k (by omega)
      have c1 := hc (k + 1) hlt
      have HD := Lib.hid (prise_drop l k hlt)
      have hki : ((k : Int) + 1 < (l.length : Int)) := by omega
      have hki2 : ((k : Int) < (l.length : Int)) := by omega
      have p0 : (0 : Int) ≤ (k : Int) + 1 := by omega
      have e0 : ((k : Int) + 1).toNat = k + 1 := by omega
      have HCP := Lib.hid (cmp_pair l[k] l[k + 1])
      have CC : Hid (∀ nn, Calls Try.prog 92 #[.slice (some ⟨b, off + k * 2, none⟩) 2 2, .slice (some ⟨b, off + (k + 1) * 2, none⟩) 2 2] ((w.drewN n).drewN nn) fun e w' => e = .returned (.int .i64 (cmp [l[k].1, l[k].2] [l[k + 1].1, l[k + 1].2])) ∧ (w.drewN n).drewN nn = w') := fun nn =>
        slicesCompare_any [l[k].1, l[k].2] [l[k + 1].1, l[k + 1].2] _ _ 2 2 ((w.drewN n).drewN nn) (by simp) (by simp) ((at_two hbw c0.1 c0.2).below (below_drewN (below_drewN (Below.refl _ _) n) nn)) ((at_two hbw c1.1 c1.2).below (below_drewN (below_drewN (Below.refl _ _) n) nn))
      obtain ⟨W, hW⟩ : ∃ W, w.drewN n = W := ⟨_, rfl⟩
      rw [hW] at CC ⊢
      have HW := Lib.hid hW
      clear hW
      obtain ⟨c00, c01⟩ := c0
      obtain ⟨c10, c11⟩ := c1
      clear hc
      generalize cmp [l[k].1, l[k].2] [l[k + 1].1, l[k + 1].2] = r at *
      generalize l[k] = x at *
      generalize l[k + 1] = y at *
      cases hxy : plt x y with
      | true =>
        have HT : Hid (prise l = prise (l.drop (k + 1))) := by rw [HR.out, HD.out, hxy]; rfl
        have hd : decide (0 ≤ r) = false := by rw [HCP.out, hxy]; rfl
        clear HD HR HCP
        go_wp2
        go_quiet (first | (go_at_call 92; exact Calls.quiet_of_same ((CC.out _).mono fun e w' h => ⟨h.1, h.2.symm⟩)))
        go_wp2
        go_roundw
        case rel => exact ⟨k + 1, n + nq, by omega, by go_num, by rw [← HW.out]; go_simp, HT.out⟩
        case measure => simp [intOf]; omega
      | false =>
        have HT : Hid (prise l = false) := by rw [HR.out, HD.out, hxy]; rfl
        have hd : decide (0 ≤ r) = true := by rw [HCP.out, hxy]; rfl
        clear HD HR HCP
        go_wp2
        go_quiet (first | (go_at_call 92; exact Calls.quiet_of_same ((CC.out _).mono fun e w' h => ⟨h.1, h.2.symm⟩)))
        go_wp2
        go_ret
        exact ⟨ret_bool HT.out.symm, n + nq, by rw [← HW.out]; go_simp⟩
    · have HT : Hid (prise l = true) := by rw [HR.out, prise_end l k (by omega)]; rfl
      go_wp2
      go_ret
      exact ⟨ret_bool HT.out.symm, n, rfl⟩

/-- may a pair not be? -/
def pbad (p : P2) : Bool := bad p.1 || bad p.2
set_option maxRecDepth 100000 in
set_option maxHeartbeats 1000000 in
theorem pmay_any (p : P2) (w : World) : Calls Try.prog 64 #[.agg #[.int .i64 p.1, .int .i64 p.2]] w fun e w' => e = .returned (.bool (pbad p)) ∧ Below w.heap.size w w' := by
  have hb := (Below.refl w.heap.size w).alloc (Nat.le_refl _) (.cells #[.int .i64 p.1, .int .i64 p.2] 116)
  have hh := heap_last w (.cells #[.int .i64 p.1, .int .i64 p.2] 116) w.heap.size rfl
  have e1 : [p.1, p.2].any bad = pbad p := by simp [pbad]
  have cc : Calls Try.prog 52 #[.slice (some ⟨w.heap.size, 0, none⟩) 2 2, .func (.func 53) #[] #[]] (w.alloc (.cells #[.int .i64 p.1, .int .i64 p.2] 116)) fun e w' => e = .returned (.bool (pbad p)) ∧ (w.alloc (.cells #[.int .i64 p.1, .int .i64 p.2] 116)) = w' := by
    rw [← e1]
    exact contains_any [p.1, p.2] (some ⟨w.heap.size, 0, none⟩) 2 (w.alloc (.cells #[.int .i64 p.1, .int .i64 p.2] 116)) (by simp) (at_two (by simp) ((row_cell (cs := [_, _]) hh 0).trans rfl) ((row_cell (cs := [_, _]) hh 1).trans rfl))
  have CC := Lib.hid cc
  have HB := Lib.hid hb
  clear cc hb hh e1
  go_enter Try.func64, Try.ntmps64
  go_wp2_with (go_at_call 52; ((with_reducible refine CC.out.mono ?_); rintro e1 w' ⟨rfl, rfl⟩))
  go_ret
  exact ⟨rfl, HB.out⟩

set_option maxRecDepth 100000 in
set_option maxHeartbeats 1000000 in
theorem pindex_any (l : List P2) (A : Option Addr) (c : Nat) (w : World) (hl : l.length ≤ 1000000) (hx : PrR w A l) :
    Calls Try.prog 93 #[.slice A l.length c, .func (.func 64) #[] #[]] w fun e w' => (∃ i : Int, e = .returned (.int .i64 i) ∧ decide (0 ≤ i) = l.any pbad) ∧ Below w.heap.size w w' := by
  have HX := Lib.hid hx
  clear hx
  go_enter Try.func93, Try.ntmps93
  go_wp2
  go_loopw [8] (fun i wr => ∃ k : Nat, k ≤ l.length ∧ i = .int .i64 (k : Int) ∧ l.any pbad = (l.drop k).any pbad ∧ Below w.heap.size w wr) (fun i _ => l.length - (intOf i).toNat)
  case atStart => exact ⟨0, Nat.zero_le _, rfl, rfl, Below.refl _ _⟩
  case round =>
    obtain ⟨k, hk, rfl, hr, hb⟩ := hrel
    have HR := Lib.hid hr
    have HB := Lib.hid hb
    have sb := hb.size
    clear hr hb
    by_cases hlt : k < l.length
    · obtain ⟨b, off, hA, _, hc⟩ := (HX.out.below HB.out) (by omega)
      subst hA
      obtain ⟨c0, c1⟩ := hc k hlt
      have HD := Lib.hid (any_drop pbad l k hlt)
      clear hc
      generalize l[k] = x at *
      have CM := Lib.hid (pmay_any x wr)
      obtain ⟨x0, x1⟩ := x
      cases hbx : pbad (x0, x1) with
      | true =>
        have HT : Hid (l.any pbad = true) := by rw [HR.out, HD.out, hbx]; rfl
        rw [hbx] at CM
        clear HD HR hbx
        go_wp2_with (go_at_call 64; ((with_reducible refine CM.out.mono ?_); rintro e1 w1 ⟨rfl, hb1⟩))
        go_ret
        exact ⟨⟨_, rfl, by rw [HT.out, decide_eq_true_iff]; omega⟩, HB.out.trans (hb1.mono sb)⟩
      | false =>
        have HT : Hid (l.any pbad = (l.drop (k + 1)).any pbad) := by rw [HR.out, HD.out, hbx]; rfl
        rw [hbx] at CM
        clear HD HR hbx
        go_wp2_with (go_at_call 64; ((with_reducible refine CM.out.mono ?_); rintro e1 w1 ⟨rfl, hb1⟩))
        go_roundw
        case rel => exact ⟨k + 1, by omega, by go_num, HT.out, HB.out.trans (hb1.mono sb)⟩
        case measure => simp [intOf]; omega
    · have HT : Hid (l.any pbad = false) := by rw [HR.out, List.drop_eq_nil_of_le (by omega)]; rfl
      go_wp2
      go_ret
      exact ⟨⟨_, rfl, by rw [HT.out]; rfl⟩, HB.out⟩

set_option maxHeartbeats 1000000 in
theorem pcontains_any (l : List P2) (A : Option Addr) (c : Nat) (w : World) (hl : l.length ≤ 1000000) (hx : PrR w A l) :
    Calls Try.prog 63 #[.slice A l.length c, .func (.func 64) #[] #[]] w fun e w' => e = .returned (.bool (l.any pbad)) ∧ Below w.heap.size w w' := by
  have C := Lib.hid (pindex_any l A c w hl hx)
  clear hx
  go_enter Try.func63, Try.ntmps63
  go_wp2_with (go_at_call 93; ((with_reducible refine C.out.mono ?_); rintro e1 w1 ⟨⟨i, rfl, hi⟩, hb⟩))
  go_ret
  exact ⟨rfl, hb⟩
end Sc
end Go.Proofs.Ytedhijehmkiieaa
