/-
  The statement's own 'few': at most 30 entries, of short texts.
-/
import Derived.Test.YtjikioiejdfodaaNodeNB
import Derived.Test.YtjikioiejdfodaaVarLawB
namespace Go.Proofs.Ytjikioiejdfodaa
open Go.RowKit
namespace Nod
open B V
set_option linter.unusedVariables false
def fewN (n : N) : N := ⟨n.kind, (n.keys.take 30).map (cutB · 18), (n.vals.take 30).map (cutB · 34), n.kids.take 30⟩
theorem rnode_info : (Try.prog.info? 55).map (·.size) = some 4 := by kernel_rfl
theorem undrew {W w' : World} {b : Option Nat} (h : W.drew.grownBy w' b) : W.grownBy w' b := ⟨h.os, h.tape, h.output, h.size, h.block⟩
theorem one_dr (W : World) (x : Value) (e : TypeId) : ∀ j u, [x][j]? = some u → (W.alloc (.cells #[x] e)).drew.cell? ((⟨W.heap.size, 0, none⟩ : Addr).add j) = some u := cell_one_new W x e
theorem take_snoc {α β : Type} (f : α → β) (l : List α) {i : Nat} (h : i < l.length) : (l.take (i + 1)).map f = (l.take i).map f ++ [f l[i]] := by rw [List.take_succ_eq_append_getElem h, List.map_append]; rfl
/-- the two blocks beside the node that is filled -/
structure Two (w : World) (g1 g2 : Nat) (o1 o2 : Obj) : Prop where
  a : w.heap[g1]? = some o1
  b : w.heap[g2]? = some o2
theorem Two.low {w w' : World} {g1 g2 M gN : Nat} {o1 o2 : Obj} (h : Two w g1 g2 o1 o2) (hl : Low M gN w w') (h1 : g1 < M) (h2 : g2 < M) (n1 : g1 ≠ gN) (n2 : g2 ≠ gN) : Two w' g1 g2 o1 o2 := ⟨(hl g1 h1 n1).trans h.a, (hl g2 h2 n2).trans h.b⟩
theorem Two.below {w w' : World} {g1 g2 : Nat} {o1 o2 : Obj} (h : Two w g1 g2 o1 o2) (hb : Below w.heap.size w w') : Two w' g1 g2 o1 o2 := ⟨blk_below h.a hb (blk_lt h.a), blk_below h.b hb (blk_lt h.b)⟩
set_option maxRecDepth 100000 in
set_option maxHeartbeats 8000000 in
theorem few_any (A1 A2 A3 : Option Addr) (c1 c2 c3 : Nat) (n : N) (w : World) (h : NAt w A1 A2 A3 n) (hk : n.keys.length ≤ maxLen) (hv : n.vals.length ≤ maxLen) (hc : n.kids.length ≤ maxLen) :
    Calls Try.prog 28 #[nv A1 A2 A3 c1 c2 c3 n] w fun e w' => ∃ v, e = .returned v ∧ NOwn w.heap.size w' v (fewN n) ∧ Below w.heap.size w w' := by
  obtain ⟨i9, hi9, hz90, hz91, hz92⟩ := info_parts info9
  obtain ⟨i3, hi3, hz30, hz31, hz32⟩ := info_parts info3
  have HA := Lib.hid h
  have C18 := Lib.hid (show ∀ s W, Calls Try.prog 14 #[.string s, .int .i64 18] W (fun e w' => e = .returned (.string (cutB s 18)) ∧ W = w') from fun s W => cut_any s 18 W (by omega))
  have C34 := Lib.hid (show ∀ s W, Calls Try.prog 14 #[.string s, .int .i64 34] W (fun e w' => e = .returned (.string (cutB s 34)) ∧ W = w') from fun s W => cut_any s 34 W (by omega))
  unfold nv at *
  have bA := below1 w (.cells #[.int .i64 n.kind, .slice A1 n.keys.length c1, .slice A2 n.vals.length c2, .slice A3 n.kids.length c3] 55)
  have bB := below1 (w.alloc (.cells #[.int .i64 n.kind, .slice A1 n.keys.length c1, .slice A2 n.vals.length c2, .slice A3 n.kids.length c3] 55)) (.cells #[.int .i64 0, .slice none 0 0, .slice none 0 0, .slice none 0 0] 55)
  have bC := below1 ((w.alloc (.cells #[.int .i64 n.kind, .slice A1 n.keys.length c1, .slice A2 n.vals.length c2, .slice A3 n.kids.length c3] 55)).alloc (.cells #[.int .i64 0, .slice none 0 0, .slice none 0 0, .slice none 0 0] 55)) (.cells #[.int .i64 0, .slice none 0 0, .slice none 0 0, .slice none 0 0] 55)
  have b0 := bA.trans (bB.mono bA.size)
  have B0 := Lib.hid (b0.trans (bC.mono b0.size))
  have T0 : Hid (Two (((w.alloc (.cells #[.int .i64 n.kind, .slice A1 n.keys.length c1, .slice A2 n.vals.length c2, .slice A3 n.kids.length c3] 55)).alloc (.cells #[.int .i64 0, .slice none 0 0, .slice none 0 0, .slice none 0 0] 55)).alloc (.cells #[.int .i64 0, .slice none 0 0, .slice none 0 0, .slice none 0 0] 55)) w.heap.size (w.heap.size + 1) (.cells #[.int .i64 n.kind, .slice A1 n.keys.length c1, .slice A2 n.vals.length c2, .slice A3 n.kids.length c3] 55) (.cells #[.int .i64 0, .slice none 0 0, .slice none 0 0, .slice none 0 0] 55)) := ⟨hp_old _ (hp_old _ (heap_last w _ _ rfl)), hp_old _ (heap_last _ _ _ (by simp))⟩
  have N0 := Lib.hid (NB.new 55 (w.heap.size + 3) (w.heap.size + 1 + 1) (((w.alloc (.cells #[.int .i64 n.kind, .slice A1 n.keys.length c1, .slice A2 n.vals.length c2, .slice A3 n.kids.length c3] 55)).alloc (.cells #[.int .i64 0, .slice none 0 0, .slice none 0 0, .slice none 0 0] 55)).alloc (.cells #[.int .i64 0, .slice none 0 0, .slice none 0 0, .slice none 0 0] 55)) 0 (heap_last _ _ _ (by simp)) (by omega) (by simp))
  unfold maxLen at hk hv hc
  clear bA bB bC b0 h
  go_enter Try.func28, Try.ntmps28
  go_upto_region 2 with fail
  generalize ((w.alloc (.cells #[.int .i64 n.kind, .slice A1 n.keys.length c1, .slice A2 n.vals.length c2, .slice A3 n.kids.length c3] 55)).alloc (.cells #[.int .i64 0, .slice none 0 0, .slice none 0 0, .slice none 0 0] 55)).alloc (.cells #[.int .i64 0, .slice none 0 0, .slice none 0 0, .slice none 0 0] 55) = W at *
  obtain ⟨⟨x0, x1, x2, x3⟩, _⟩ := row4 T0.out.a
  obtain ⟨⟨m0, m1, m2, m3⟩, f0, f1, f2, f3⟩ := row4 N0.out.rN
  go_upto_block 0 with fail
  have B1 := Lib.hid (B0.out.setCell (p := ⟨w.heap.size + 1 + 1, 0, none⟩) (show w.heap.size ≤ w.heap.size + 1 + 1 by omega) (.int .i64 n.kind))
  have N1 := Lib.hid (N0.out.kind (k' := n.kind))
  have T1 : Hid (Two (W.setCell ⟨w.heap.size + 1 + 1, 0, none⟩ (.int .i64 n.kind)) w.heap.size (w.heap.size + 1) (.cells #[.int .i64 n.kind, .slice A1 n.keys.length c1, .slice A2 n.vals.length c2, .slice A3 n.kids.length c3] 55) (.cells #[.int .i64 0, .slice none 0 0, .slice none 0 0, .slice none 0 0] 55)) := ⟨blk_other T0.out.a (by omega) _, blk_other T0.out.b (by omega) _⟩
  clear B0 T0 N0 x0 x1 x2 x3 m0 m1 m2 m3 f0 f1 f2 f3
  generalize W.setCell ⟨w.heap.size + 1 + 1, 0, none⟩ (.int .i64 n.kind) = W1 at *
  go_cut [4] (fun _ wc => ∃ vk vv vc, NB 55 (w.heap.size + 3) wc (w.heap.size + 1 + 1) n.kind vk vv vc ((n.keys.take 30).map (cutB · 18)) [] [] ∧ Two wc w.heap.size (w.heap.size + 1) (.cells #[.int .i64 n.kind, .slice A1 n.keys.length c1, .slice A2 n.vals.length c2, .slice A3 n.kids.length c3] 55) (.cells #[.int .i64 0, .slice none 0 0, .slice none 0 0, .slice none 0 0] 55) ∧ Below w.heap.size w wc)
  case first =>
    go_wp2_with fail
    go_loopw [4] (fun t4 wr => ∃ (i : Nat) (vk vv vc : Value), t4 = .int .i64 (i : Int) ∧ i ≤ n.keys.length ∧ i ≤ 30 ∧ NB 55 (w.heap.size + 3) wr (w.heap.size + 1 + 1) n.kind vk vv vc ((n.keys.take i).map (cutB · 18)) [] [] ∧ Two wr w.heap.size (w.heap.size + 1) (.cells #[.int .i64 n.kind, .slice A1 n.keys.length c1, .slice A2 n.vals.length c2, .slice A3 n.kids.length c3] 55) (.cells #[.int .i64 0, .slice none 0 0, .slice none 0 0, .slice none 0 0] 55) ∧ Below w.heap.size w wr) (fun t4 _ => 30 - (intOf t4).toNat)
    case atStart => exact ⟨0, _, _, _, rfl, Nat.zero_le _, Nat.zero_le _, N1.out, T1.out, B1.out⟩
    case round =>
      obtain ⟨i, vk, vv, vc, rfl, hi1, hi2, hnb, htw, hbel⟩ := hrel
      have P3 := Lib.hid hnb
      have T3 := Lib.hid htw
      have B3 := Lib.hid hbel
      have sb := hbel.size
      clear hnb htw hbel
      obtain ⟨⟨x0, x1, x2, x3⟩, _⟩ := row4 T3.out.a
      obtain ⟨⟨m0, m1, m2, m3⟩, f0, f1, f2, f3⟩ := row4 P3.out.rN
      by_cases hgo : i < n.keys.length ∧ i < 30
      · obtain ⟨hlt, h30⟩ := hgo
        have hI : (i : Int) < (n.keys.length : Int) := by omega
        have hI2 : (i : Int) < 30 := by omega
        obtain ⟨b, off, hA, hb, hcc⟩ := (HA.out.k.below B3.out) (by omega)
        subst hA
        have c0 : wr.cell? ⟨b, off + i, none⟩ = some (.string n.keys[i]) := hcc i hlt
        have hts := take_snoc (cutB · 18) n.keys hlt
        clear hcc
        generalize n.keys[i] = x at *
        have y1 : (wr.alloc (.cells #[.string (cutB x 18)] 9)).cell? ⟨w.heap.size + 1 + 1, 1, none⟩ = some vk := (row4 (hp_old _ P3.out.rN)).1.2.1
        go_upto_region 6 with fail
        go_region_law (first
          | (refine step_append_lies _ (by rfl) _ _ _ (by rfl) (w.heap.size + 3) 9 i9 _ 1 16 Try.underlying53 hi9 hz90 hz91 hz92 rfl (by decide) _ _ _ (by rfl) (own_dr (P3.out.ok.alloc _)) ⟨wr.heap.size, 0, none⟩ 1 1 [.string (cutB x 18)] (by rfl) rfl (one_dr _ _ _) (one_str _) (by omega) (by simp only [List.length_map, List.length_take]; unfold maxLen; omega) (by simp only [List.length_map, List.length_take]; omega) (Nat.le_trans P3.out.l4 (by simp)) _ rfl ?_; intro gg cap w5 own5 grow5 lies5 lt5; have P5 := P3.out.key own5 (undrew grow5) lies5; have L5 := low_step (gN := w.heap.size + 1 + 1) (j := 1) (x := .slice (some ⟨gg, 0, none⟩) (((n.keys.take i).map (cutB · 18)).length + 1) cap) P3.out.l4 (fun b hb => own_ge P3.out.ok hb) (undrew grow5); have B5 := below_step (Bd := w.heap.size) (gN := w.heap.size + 1 + 1) (j := 1) (x := .slice (some ⟨gg, 0, none⟩) (((n.keys.take i).map (cutB · 18)).length + 1) cap) (by omega) P3.out.l3 P3.out.l4 (fun b hb => own_ge P3.out.ok hb) (undrew grow5); obtain ⟨⟨k0, k1, k2, k3⟩, q0, q1, q2, q3⟩ := row4 (blk_grow P3.out.rN (undrew grow5) (fun b hb => by have := own_ge P3.out.ok hb; omega)); clear own5 grow5 lies5)
          | (go_simp; go_at_call 14; (with_reducible refine (C18.out _ _).mono ?_); rintro e w' ⟨rfl, rfl⟩))
        all_goals
          simp only [List.length_map, List.length_take, Nat.min_eq_left hi1] at P5 L5 B5
          rw [← hts] at P5
          have T6 := Lib.hid (T3.out.low L5 (by omega) (by omega) (by omega) (by omega))
          have P6 := Lib.hid P5
          have B6 := Lib.hid (B3.out.trans B5)
          clear P5 L5 B5 P3 T3 B3 k0 k1 k2 k3 q0 q1 q2 q3 x0 x1 x2 x3 m0 m1 m2 m3 f0 f1 f2 f3
          go_wp2
          go_roundw
          case rel => exact ⟨i + 1, _, _, _, by go_num, by omega, by omega, P6.out, T6.out, B6.out⟩
          case measure => simp [intOf]; omega
      · have hex : ¬ (i : Int) < (n.keys.length : Int) ∨ (i : Int) < (n.keys.length : Int) ∧ ¬ (i : Int) < 30 := by omega
        have hdone : ((n.keys.take i).map (cutB · 18)) = ((n.keys.take 30).map (cutB · 18)) := by
          rcases Nat.lt_or_ge i n.keys.length with h1 | h1
          · rw [show i = 30 by omega]
          · rw [List.take_of_length_le h1, List.take_of_length_le (by omega)]
        rw [hdone] at P3
        clear hgo hdone
        rcases hex with hI | ⟨hI, hI2⟩
        · go_wp2
          go_meet
          case rel => exact ⟨_, _, _, P3.out, T3.out, B3.out⟩
        · go_wp2
          go_meet
          case rel => exact ⟨_, _, _, P3.out, T3.out, B3.out⟩
  case rest =>
    obtain ⟨vk, vv, vc, hnb, htw, hbel⟩ := hcut
    have P2 := Lib.hid hnb
    have T2 := Lib.hid htw
    have B2 := Lib.hid hbel
    clear hnb htw hbel N1 T1 B1
    generalize wc = wq at *
    go_upto_block 2 with fail
    go_cut [5] (fun _ wc => ∃ vk vv vc, NB 55 (w.heap.size + 3) wc (w.heap.size + 1 + 1) n.kind vk vv vc ((n.keys.take 30).map (cutB · 18)) ((n.vals.take 30).map (cutB · 34)) [] ∧ Two wc w.heap.size (w.heap.size + 1) (.cells #[.int .i64 n.kind, .slice A1 n.keys.length c1, .slice A2 n.vals.length c2, .slice A3 n.kids.length c3] 55) (.cells #[.int .i64 0, .slice none 0 0, .slice none 0 0, .slice none 0 0] 55) ∧ Below w.heap.size w wc)
    case first =>
      go_wp2_with fail
      go_loopw [5] (fun t5 wr => ∃ (i : Nat) (vk vv vc : Value), t5 = .int .i64 (i : Int) ∧ i ≤ n.vals.length ∧ i ≤ 30 ∧ NB 55 (w.heap.size + 3) wr (w.heap.size + 1 + 1) n.kind vk vv vc ((n.keys.take 30).map (cutB · 18)) ((n.vals.take i).map (cutB · 34)) [] ∧ Two wr w.heap.size (w.heap.size + 1) (.cells #[.int .i64 n.kind, .slice A1 n.keys.length c1, .slice A2 n.vals.length c2, .slice A3 n.kids.length c3] 55) (.cells #[.int .i64 0, .slice none 0 0, .slice none 0 0, .slice none 0 0] 55) ∧ Below w.heap.size w wr) (fun t5 _ => 30 - (intOf t5).toNat)
      case atStart => exact ⟨0, _, _, _, rfl, Nat.zero_le _, Nat.zero_le _, P2.out, T2.out, B2.out⟩
      case round =>
        obtain ⟨i, vk, vv, vc, rfl, hi1, hi2, hnb, htw, hbel⟩ := hrel
        have P3 := Lib.hid hnb
        have T3 := Lib.hid htw
        have B3 := Lib.hid hbel
        have sb := hbel.size
        clear hnb htw hbel
        obtain ⟨⟨x0, x1, x2, x3⟩, _⟩ := row4 T3.out.a
        obtain ⟨⟨m0, m1, m2, m3⟩, f0, f1, f2, f3⟩ := row4 P3.out.rN
        by_cases hgo : i < n.vals.length ∧ i < 30
        · obtain ⟨hlt, h30⟩ := hgo
          have hI : (i : Int) < (n.vals.length : Int) := by omega
          have hI2 : (i : Int) < 30 := by omega
          obtain ⟨b, off, hA, hb, hcc⟩ := (HA.out.v.below B3.out) (by omega)
          subst hA
          have c0 : wr.cell? ⟨b, off + i, none⟩ = some (.string n.vals[i]) := hcc i hlt
          have hts := take_snoc (cutB · 34) n.vals hlt
          clear hcc
          generalize n.vals[i] = x at *
          have y1 : (wr.alloc (.cells #[.string (cutB x 34)] 9)).cell? ⟨w.heap.size + 1 + 1, 2, none⟩ = some vv := (row4 (hp_old _ P3.out.rN)).1.2.2.1
          go_upto_region 10 with fail
          go_region_law (first
            | (refine step_append_lies _ (by rfl) _ _ _ (by rfl) (w.heap.size + 3) 9 i9 _ 1 16 Try.underlying53 hi9 hz90 hz91 hz92 rfl (by decide) _ _ _ (by rfl) (own_dr (P3.out.ov.alloc _)) ⟨wr.heap.size, 0, none⟩ 1 1 [.string (cutB x 34)] (by rfl) rfl (one_dr _ _ _) (one_str _) (by omega) (by simp only [List.length_map, List.length_take]; unfold maxLen; omega) (by simp only [List.length_map, List.length_take]; omega) (Nat.le_trans P3.out.l4 (by simp)) _ rfl ?_; intro gg cap w5 own5 grow5 lies5 lt5; have P5 := P3.out.val own5 (undrew grow5) lies5; have L5 := low_step (gN := w.heap.size + 1 + 1) (j := 2) (x := .slice (some ⟨gg, 0, none⟩) (((n.vals.take i).map (cutB · 34)).length + 1) cap) P3.out.l4 (fun b hb => own_ge P3.out.ov hb) (undrew grow5); have B5 := below_step (Bd := w.heap.size) (gN := w.heap.size + 1 + 1) (j := 2) (x := .slice (some ⟨gg, 0, none⟩) (((n.vals.take i).map (cutB · 34)).length + 1) cap) (by omega) P3.out.l3 P3.out.l4 (fun b hb => own_ge P3.out.ov hb) (undrew grow5); obtain ⟨⟨k0, k1, k2, k3⟩, q0, q1, q2, q3⟩ := row4 (blk_grow P3.out.rN (undrew grow5) (fun b hb => by have := own_ge P3.out.ov hb; omega)); clear own5 grow5 lies5)
            | (go_simp; go_at_call 14; (with_reducible refine (C34.out _ _).mono ?_); rintro e w' ⟨rfl, rfl⟩))
          all_goals
            simp only [List.length_map, List.length_take, Nat.min_eq_left hi1] at P5 L5 B5
            rw [← hts] at P5
            have T6 := Lib.hid (T3.out.low L5 (by omega) (by omega) (by omega) (by omega))
            have P6 := Lib.hid P5
            have B6 := Lib.hid (B3.out.trans B5)
            clear P5 L5 B5 P3 T3 B3 k0 k1 k2 k3 q0 q1 q2 q3 x0 x1 x2 x3 m0 m1 m2 m3 f0 f1 f2 f3
            go_wp2
            go_roundw
            case rel => exact ⟨i + 1, _, _, _, by go_num, by omega, by omega, P6.out, T6.out, B6.out⟩
            case measure => simp [intOf]; omega
        · have hex : ¬ (i : Int) < (n.vals.length : Int) ∨ (i : Int) < (n.vals.length : Int) ∧ ¬ (i : Int) < 30 := by omega
          have hdone : ((n.vals.take i).map (cutB · 34)) = ((n.vals.take 30).map (cutB · 34)) := by
            rcases Nat.lt_or_ge i n.vals.length with h1 | h1
            · rw [show i = 30 by omega]
            · rw [List.take_of_length_le h1, List.take_of_length_le (by omega)]
          rw [hdone] at P3
          clear hgo hdone
          rcases hex with hI | ⟨hI, hI2⟩
          · go_wp2
            go_meet
            case rel => exact ⟨_, _, _, P3.out, T3.out, B3.out⟩
          · go_wp2
            go_meet
            case rel => exact ⟨_, _, _, P3.out, T3.out, B3.out⟩
    case rest =>
      obtain ⟨vk, vv, vc, hnb, htw, hbel⟩ := hcut
      clear P2 T2 B2
      have P2 := Lib.hid hnb
      have T2 := Lib.hid htw
      have B2 := Lib.hid hbel
      clear hnb htw hbel
      generalize wc = wq at *
      go_upto_block 4 with fail
      go_cut [6] (fun _ wc => ∃ vk vv vc, NB 55 (w.heap.size + 3) wc (w.heap.size + 1 + 1) n.kind vk vv vc ((n.keys.take 30).map (cutB · 18)) ((n.vals.take 30).map (cutB · 34)) (n.kids.take 30) ∧ Two wc w.heap.size (w.heap.size + 1) (.cells #[.int .i64 n.kind, .slice A1 n.keys.length c1, .slice A2 n.vals.length c2, .slice A3 n.kids.length c3] 55) (.cells #[.int .i64 0, .slice none 0 0, .slice none 0 0, .slice none 0 0] 55) ∧ Below w.heap.size w wc)
      case first =>
        go_wp2_with fail
        go_loopw [6] (fun t6 wr => ∃ (i : Nat) (vk vv vc : Value), t6 = .int .i64 (i : Int) ∧ i ≤ n.kids.length ∧ i ≤ 30 ∧ NB 55 (w.heap.size + 3) wr (w.heap.size + 1 + 1) n.kind vk vv vc ((n.keys.take 30).map (cutB · 18)) ((n.vals.take 30).map (cutB · 34)) (n.kids.take i) ∧ Two wr w.heap.size (w.heap.size + 1) (.cells #[.int .i64 n.kind, .slice A1 n.keys.length c1, .slice A2 n.vals.length c2, .slice A3 n.kids.length c3] 55) (.cells #[.int .i64 0, .slice none 0 0, .slice none 0 0, .slice none 0 0] 55) ∧ Below w.heap.size w wr) (fun t6 _ => 30 - (intOf t6).toNat)
        case atStart => exact ⟨0, _, _, _, rfl, Nat.zero_le _, Nat.zero_le _, P2.out, T2.out, B2.out⟩
        case round =>
          obtain ⟨i, vk, vv, vc, rfl, hi1, hi2, hnb, htw, hbel⟩ := hrel
          have P3 := Lib.hid hnb
          have T3 := Lib.hid htw
          have B3 := Lib.hid hbel
          have sb := hbel.size
          clear hnb htw hbel
          obtain ⟨⟨x0, x1, x2, x3⟩, _⟩ := row4 T3.out.a
          obtain ⟨⟨m0, m1, m2, m3⟩, f0, f1, f2, f3⟩ := row4 P3.out.rN
          by_cases hgo : i < n.kids.length ∧ i < 30
          · obtain ⟨hlt, h30⟩ := hgo
            have hI : (i : Int) < (n.kids.length : Int) := by omega
            have hI2 : (i : Int) < 30 := by omega
            obtain ⟨b, off, hA, hb, hcc⟩ := (HA.out.c.below B3.out) (by omega)
            subst hA
            have c0 : wr.cell? ⟨b, off + i, none⟩ = some (.int .i64 n.kids[i]) := hcc i hlt
            have hts : n.kids.take (i + 1) = n.kids.take i ++ [n.kids[i]] := List.take_succ_eq_append_getElem hlt
            clear hcc
            generalize n.kids[i] = x at *
            have y1 : (wr.alloc (.cells #[.int .i64 x] 3)).cell? ⟨w.heap.size + 1 + 1, 3, none⟩ = some vc := (row4 (hp_old _ P3.out.rN)).1.2.2.2
            go_upto_region 14 with fail
            go_region_law (first
              | (refine step_append_lies _ (by rfl) _ _ _ (by rfl) (w.heap.size + 3) 3 i3 _ 1 8 Try.underlying34 hi3 hz30 hz31 hz32 rfl (by decide) _ _ _ (by rfl) (own_dr (P3.out.oc.alloc _)) ⟨wr.heap.size, 0, none⟩ 1 1 [.int .i64 x] (by rfl) rfl (one_dr _ _ _) (one_int _) (by omega) (by simp only [List.length_take]; unfold maxLen; omega) (by simp only [List.length_take]; omega) (Nat.le_trans P3.out.l4 (by simp)) _ rfl ?_; intro gg cap w5 own5 grow5 lies5 lt5; have P5 := P3.out.kid own5 (undrew grow5) lies5; have L5 := low_step (gN := w.heap.size + 1 + 1) (j := 3) (x := .slice (some ⟨gg, 0, none⟩) ((n.kids.take i).length + 1) cap) P3.out.l4 (fun b hb => own_ge P3.out.oc hb) (undrew grow5); have B5 := below_step (Bd := w.heap.size) (gN := w.heap.size + 1 + 1) (j := 3) (x := .slice (some ⟨gg, 0, none⟩) ((n.kids.take i).length + 1) cap) (by omega) P3.out.l3 P3.out.l4 (fun b hb => own_ge P3.out.oc hb) (undrew grow5); obtain ⟨⟨k0, k1, k2, k3⟩, q0, q1, q2, q3⟩ := row4 (blk_grow P3.out.rN (undrew grow5) (fun b hb => by have := own_ge P3.out.oc hb; omega)); clear own5 grow5 lies5))
            all_goals
              simp only [List.length_take, Nat.min_eq_left hi1] at P5 L5 B5
              rw [← hts] at P5
              have T6 := Lib.hid (T3.out.low L5 (by omega) (by omega) (by omega) (by omega))
              have P6 := Lib.hid P5
              have B6 := Lib.hid (B3.out.trans B5)
              clear P5 L5 B5 P3 T3 B3 k0 k1 k2 k3 q0 q1 q2 q3 x0 x1 x2 x3 m0 m1 m2 m3 f0 f1 f2 f3
              go_wp2
              go_roundw
              case rel => exact ⟨i + 1, _, _, _, by go_num, by omega, by omega, P6.out, T6.out, B6.out⟩
              case measure => simp [intOf]; omega
          · have hex : ¬ (i : Int) < (n.kids.length : Int) ∨ (i : Int) < (n.kids.length : Int) ∧ ¬ (i : Int) < 30 := by omega
            have hdone : (n.kids.take i) = (n.kids.take 30) := by
              rcases Nat.lt_or_ge i n.kids.length with h1 | h1
              · rw [show i = 30 by omega]
              · rw [List.take_of_length_le h1, List.take_of_length_le (by omega)]
            rw [hdone] at P3
            clear hgo hdone
            rcases hex with hI | ⟨hI, hI2⟩
            · go_wp2
              go_meet
              case rel => exact ⟨_, _, _, P3.out, T3.out, B3.out⟩
            · go_wp2
              go_meet
              case rel => exact ⟨_, _, _, P3.out, T3.out, B3.out⟩
      case rest =>
        obtain ⟨vk, vv, vc, hnb, htw, hbel⟩ := hcut
        have P3 := Lib.hid hnb
        have T3 := Lib.hid htw
        have B3 := Lib.hid hbel
        clear hnb htw hbel P2 T2 B2
        obtain ⟨vK, aK, hvK, _⟩ := own_at P3.out.ok
        obtain ⟨vV, aV, hvV, _⟩ := own_at P3.out.ov
        obtain ⟨vC, aC, hvC, _⟩ := own_at P3.out.oc
        subst hvK hvV hvC
        obtain ⟨⟨z0, z1, z2, z3⟩, p0, p1, p2, p3⟩ := row4 T3.out.b
        obtain ⟨⟨m0, m1, m2, m3⟩, f0, f1, f2, f3⟩ := row4 P3.out.rN
        go_wp2
        (try simp only [Exit.inBlock, Exit.then])
        have r := set4 T3.out.b (.int .i64 n.kind) (.slice vK ((n.keys.take 30).map (cutB · 18)).length aK) (.slice vV ((n.vals.take 30).map (cutB · 34)).length aV) (.slice vC (n.kids.take 30).length aC)
        refine bodyPost_ret (results_cells rfl _ _ (w.heap.size + 1) [.int .i64 n.kind, .slice vK ((n.keys.take 30).map (cutB · 18)).length aK, .slice vV ((n.vals.take 30).map (cutB · 34)).length aV, .slice vC (n.kids.take 30).length aC] _ rfl ?_ Try.underlying55 rnode_info) rfl ?_
        · refine four ⟨?_, ?_, ?_, ?_⟩ <;> go_simp
        · have O : NOwn (w.heap.size + 3) wc (.agg #[.int .i64 n.kind, .slice vK ((n.keys.take 30).map (cutB · 18)).length aK, .slice vV ((n.vals.take 30).map (cutB · 34)).length aV, .slice vC (n.kids.take 30).length aC]) (fewN n) := ⟨_, _, _, rfl, P3.out.ok, P3.out.ov, P3.out.oc, P3.out.n1, P3.out.n2, P3.out.n3⟩
          refine ⟨_, rfl, ?_, ?_⟩
          · have := nown_mono (nown_put (g := w.heap.size + 1) (a := .int .i64 n.kind) (b := .slice vK ((n.keys.take 30).map (cutB · 18)).length aK) (c := .slice vV ((n.vals.take 30).map (cutB · 34)).length aV) (d := .slice vC (n.kids.take 30).length aC) O (by omega)) (show w.heap.size ≤ w.heap.size + 3 by omega)
            simpa using this
          · repeat (refine Below.setCell ?_ (by simp) _)
            exact B3.out
end Nod
end Go.Proofs.Ytjikioiejdfodaa
