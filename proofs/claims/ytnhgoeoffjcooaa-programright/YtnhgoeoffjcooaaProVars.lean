/-
  Programs: the law's vars (dowserlaw15.Right's first closure): at most six numbers, each brought below the program's variables.
-/
import Derived.Test.YtnhgoeoffjcooaaProRgt
namespace Go.Proofs.Ytnhgoeoffjcooaa
open Go.RowKit
namespace Pm
open B
set_option linter.unusedVariables false
def varsq (vars : Int) (l : List Int) : List Int := (l.take 6).map (atq · vars)
theorem own_dr' {W : World} {M t size n : Nat} {v : Value} {xs : List Value} (h : W.ownsRow M t size v n xs) : W.drew.ownsRow M t size v n xs := h
theorem undrw {W w' : World} {b : Option Nat} (h : W.drew.grownBy w' b) : W.grownBy w' b := ⟨h.os, h.tape, h.output, h.size, h.block⟩
theorem vars_step {B : Nat} {a w w1 : World} {o : Obj} {row : Option Nat} (hg : (w.alloc o).grownBy w1 row) (hb : Below B a w) (hbs : B ≤ w.heap.size) (hr : ∀ k, row = some k → B ≤ k) : Below B a w1 :=
  (hb.alloc hbs _).grown hg (by simp; omega) hr
theorem cell_step {w wr w1 : World} {o : Obj} {row : Option Nat} {b j : Nat} {u : Value} (hg : (wr.alloc o).grownBy w1 row) (hr : ∀ k, row = some k → w.heap.size ≤ k) (hb : b < w.heap.size) (hs : w.heap.size ≤ wr.heap.size) (hc : wr.cell? ⟨b, j, none⟩ = some u) : w1.cell? ⟨b, j, none⟩ = some u :=
  (hg.cell_far ⟨b, j, none⟩ (by simp; omega) (fun e => by have := hr b e.symm; omega)).trans (((below1 wr o).cell (p := ⟨b, j, none⟩) (by show b < _; omega)).trans hc)
set_option maxRecDepth 100000 in
set_option maxHeartbeats 4000000 in
theorem fvars_any (g : Nat) (vars : Int) (A : Option Addr) (l : List Int) (c : Nat) (w : World) (hv : 0 < vars ∧ vars ≤ 1000) (hg : w.cell? ⟨g, 0, none⟩ = some (.int .i64 vars)) (hgl : g < w.heap.size) (hA : At vInt w A l) :
    Calls Try.prog 36 #[.slice A l.length c, .pointer (some ⟨g, 0, none⟩)] w fun e w' => ∃ v, e = .returned v ∧ w'.ownsRow w.heap.size 3 1 v (varsq vars l).length ((varsq vars l).map vInt) ∧ Below w.heap.size w w' := by
  obtain ⟨i0, hi, hz0, hz1, hz2⟩ := info_parts infoI
  have HA := Lib.hid hA
  have HG := Lib.hid hg
  have HL := Lib.hid hgl
  have AT := Lib.hid (fun x W => at_any x vars W ⟨hv.1, by omega⟩)
  clear hA hg hgl
  go_enter Try.func36, Try.ntmps36
  go_wp2_with fail
  go_loopw [4, 5] (fun t4 t5 wr => ∃ (i n : Nat), t5 = .int .i64 (i : Int) ∧ n = i ∧ i ≤ l.length ∧ i ≤ 6 ∧ wr.ownsRow w.heap.size 3 1 t4 n (((l.take i).map (atq · vars)).map vInt) ∧ Below w.heap.size w wr) (fun _ t5 _ => 6 - (intOf t5).toNat)
  case atStart => exact ⟨0, 0, rfl, rfl, Nat.zero_le _, Nat.zero_le _, World.ownsRow_nil _ _ _ _, Below.refl _ _⟩
  case round =>
    obtain ⟨i, n, rfl, hn, hi1, hi2, hown, hbel⟩ := hrel
    have O1 := Lib.hid hown
    have B1 := Lib.hid hbel
    have N1 := Lib.hid hn
    have sb := hbel.size
    clear hown hbel hn
    by_cases hgo : i < l.length ∧ i < 6
    · obtain ⟨hlt, h6⟩ := hgo
      have hI : (i : Int) < (l.length : Int) := by omega
      have hI2 : (i : Int) < 6 := by omega
      obtain ⟨b, off, hA, hb, hcc⟩ := HA.out (by omega)
      subst hA
      have c0 : wr.cell? ⟨b, off + i, none⟩ = some (.int .i64 l[i]) := (B1.out.cell (p := ⟨b, off + i, none⟩) hb).trans (hcc i hlt)
      have HB := Lib.hid hb
      have c1 : wr.cell? ⟨g, 0, none⟩ = some (.int .i64 vars) := (B1.out.cell (p := ⟨g, 0, none⟩) HL.out).trans HG.out
      have HT := Lib.hid (show ((l.take i).map (atq · vars)).map vInt ++ [.int .i64 (atq l[i] vars)] = ((l.take (i + 1)).map (atq · vars)).map vInt by rw [List.take_succ_eq_append_getElem hlt, List.map_append, List.map_append]; rfl)
      clear hcc
      generalize l[i] = x at *
      go_wp2_with fail
      go_region_held3 (fun w' => w'.cell? ⟨b, off + i, none⟩ = some (.int .i64 x) ∧ w'.cell? ⟨g, 0, none⟩ = some (.int .i64 vars)) (first | go_keep | exact ⟨c0, c1⟩ | exact ⟨r0, r1⟩)
        (first
          | (refine step_append_lies _ (by rfl) _ _ _ (by rfl) w.heap.size 3 i0 _ 1 8 Try.underlying23 hi hz0 hz1 hz2 rfl (by decide) _ _ _ (by rfl) (own_dr' (O1.out.alloc _)) ⟨wr.heap.size, 0, none⟩ 1 1 [.int .i64 (atq x vars)] (by rfl) rfl (cell_one_new _ _ _) (one_int _) (by omega) (by have := N1.out; unfold maxLen; omega) (by have := N1.out; omega) (Nat.le_trans sb (by simp)) _ rfl ?_; intro gg cap w5 own5 grow5 lies5 lt5; have B5 := vars_step (undrw grow5) B1.out sb (fun k hk => (O1.out.lt k hk).1); have r0 := cell_step (w := w) (undrw grow5) (fun k hk => (O1.out.lt k hk).1) HB.out sb c0; have r1 := cell_step (w := w) (undrw grow5) (fun k hk => (O1.out.lt k hk).1) HL.out sb c1; clear grow5)
          | (go_at_call 35; ((with_reducible refine (AT.out _ _).mono ?_); rintro e w2 ⟨rfl, rfl⟩)))
      all_goals
        rw [HT.out] at own5
        have O6 := Lib.hid own5
        have B6 := Lib.hid B5
        clear own5 B5 r0 r1 c0 c1 O1 B1
        go_wp2
        go_roundw
        case rel => exact ⟨i + 1, n + 1, by go_num, by rw [N1.out], by omega, by omega, O6.out, B6.out⟩
        case measure => simp [intOf]; omega
    · have hex : ¬ (i : Int) < (l.length : Int) ∨ (i : Int) < (l.length : Int) ∧ ¬ (i : Int) < 6 := by omega
      have hdone : l.take i = l.take 6 := by
        rcases Nat.lt_or_ge i l.length with h1 | h1
        · rw [show i = 6 by omega]
        · rw [List.take_of_length_le h1, List.take_of_length_le (by omega)]
      have hlen : n = (varsq vars l).length := by
        rw [N1.out]; unfold varsq; rw [List.length_map, List.length_take]; omega
      have O6 : Hid (wr.ownsRow w.heap.size 3 1 u4 (varsq vars l).length ((varsq vars l).map vInt)) := Lib.hid (by
        have := O1.out
        rw [hdone, hlen] at this
        exact this)
      clear hdone hlen hgo O1
      rcases hex with hI | ⟨hI, hI2⟩
      · go_wp2
        go_ret
        exact ⟨_, rfl, O6.out, B1.out⟩
      · go_wp2
        go_ret
        exact ⟨_, rfl, O6.out, B1.out⟩
end Pm
end Go.Proofs.Ytnhgoeoffjcooaa
