/-
  Programs: the law's ProgramChecks. Made by wip/gen/prolaw.py.
-/
import Derived.Test.YthnkppjpbjmkmaaProAwk
import Derived.Test.YthnkppjpbjmkmaaProFew
import Derived.Test.YthnkppjpbjmkmaaProRChk
namespace Go.Proofs.Ythnkppjpbjmkmaa
open Go.RowKit
namespace Pm
open B
set_option linter.unusedVariables false
theorem few_sm (p : P) : Sm (fewq p) := by
  refine ⟨?_, ?_, ?_, fun f hf => ?_, fun o ho => ?_⟩
  · simp only [fewq, List.length_map, List.length_take]; omega
  · simp only [fewq, List.length_take]; omega
  · simp only [fewq, List.length_map, List.length_take]; omega
  · simp only [fewq] at hf
    obtain ⟨g, _, rfl⟩ := List.mem_map.1 hf
    simp only [fewFq, List.length_take]; omega
  · simp only [fewq] at ho
    obtain ⟨g, _, rfl⟩ := List.mem_map.1 ho
    simp only [fewOq, List.length_take]; omega
set_option maxRecDepth 100000 in
set_option maxHeartbeats 8000000 in
theorem checks_walk (p : P) (Af : Option Addr) (cf : Nat) (Ae : Option Addr) (ce : Nat) (Ao : Option Addr) (co : Nat) (w : World) (h : PIn 0 w p Af cf Ae ce Ao co) :
    Calls Try.prog 3 #[pv p Af cf Ae ce Ao co] w fun e w' => e = .returned (.bool true) ∧ Below w.heap.size w w' := by
  obtain ⟨Q, hQ⟩ : ∃ Q, fewq p = Q := ⟨_, rfl⟩
  have SQ : Hid (Sm Q) := Lib.hid (hQ ▸ few_sm p)
  have CW : Hid (∀ X, Below w.heap.size w X → Calls Try.prog 12 #[pv p Af cf Ae ce Ao co] X fun e w' => ∃ Bf df Be de Bo d, e = .returned (pv Q Bf df Be de Bo d) ∧ RowOld elF w X.heap.size 63 w' (.slice Bf Q.fs.length df) Q.fs ∧ IL 0 w (.slice Be Q.en.length de) Q.en ∧ RowOld elO w X.heap.size 64 w' (.slice Bo Q.ops.length d) Q.ops ∧ Below X.heap.size X w') := Lib.hid (fun X q => by
    have := few_any 0 p Af cf Ae ce Ao co w X h q
    rw [hQ] at this
    exact this)
  have bA := below1 w (.cells #[.int .i64 p.vars, .int .i64 p.objs, .int .i64 p.fields, .slice Af p.fs.length cf, .slice Ae p.en.length ce, .slice Ao p.ops.length co] 26)
  have B0 := Lib.hid bA
  have R1 := Lib.hid (heap_last w (.cells #[.int .i64 p.vars, .int .i64 p.objs, .int .i64 p.fields, .slice Af p.fs.length cf, .slice Ae p.en.length ce, .slice Ao p.ops.length co] 26) w.heap.size rfl)
  clear bA h hQ
  go_enter Try.func3, Try.ntmps3
  go_upto_region 3 with (go_at_call 11; ((with_reducible refine (awake_any _).mono ?_); rintro e W1 ⟨rfl, hb1⟩; have B1 := Lib.hid (B0.out.trans (hb1.mono B0.out.size)); have R2 := Lib.hid (blk_below R1.out hb1 (blk_lt R1.out)); clear hb1; obtain ⟨x0, x1, x2, x3, x4, x5⟩ := cells6 R2.out))
  go_upto_region 4 with (go_at_call 12; ((with_reducible refine (CW.out _ B1.out).mono ?_); rintro e W2 ⟨Bf, df, Be, de, Bo, d, rfl, q1, q2, q3, hb2⟩; have B2 := Lib.hid (B1.out.trans (hb2.mono B1.out.size)); have R3 := Lib.hid (blk_below R2.out hb2 (blk_lt R2.out)); have Q1 := Lib.hid q1; have Q2 := Lib.hid q2; have Q3 := Lib.hid q3; clear hb2 q1 q2 q3 x0 x1 x2 x3 x4 x5; obtain ⟨x0, x1, x2, x3, x4, x5, y0, y1, y2, y3, y4, y5⟩ := row6 R3.out))
  have R4 := Lib.hid (set6 (a0 := .int .i64 Q.vars) (a1 := .int .i64 Q.objs) (a2 := .int .i64 Q.fields) (a3 := .slice Bf Q.fs.length df) (a4 := .slice Be Q.en.length de) (a5 := .slice Bo Q.ops.length d) R3.out)
  have hset := fun x (hne : x ≠ w.heap.size) => (show ((((((W2.setCell ⟨w.heap.size, 0, none⟩ (.int .i64 Q.vars)).setCell ⟨w.heap.size, 1, none⟩ (.int .i64 Q.objs)).setCell ⟨w.heap.size, 2, none⟩ (.int .i64 Q.fields)).setCell ⟨w.heap.size, 3, none⟩ (.slice Bf Q.fs.length df)).setCell ⟨w.heap.size, 4, none⟩ (.slice Be Q.en.length de)).setCell ⟨w.heap.size, 5, none⟩ (.slice Bo Q.ops.length d)).heap[x]? = W2.heap[x]? from by
    rw [Below.heap_setCell _ _ _ x hne, Below.heap_setCell _ _ _ x hne, Below.heap_setCell _ _ _ x hne, Below.heap_setCell _ _ _ x hne, Below.heap_setCell _ _ _ x hne, Below.heap_setCell _ _ _ x hne])
  have B4 : Hid (Below w.heap.size w ((((((W2.setCell ⟨w.heap.size, 0, none⟩ (.int .i64 Q.vars)).setCell ⟨w.heap.size, 1, none⟩ (.int .i64 Q.objs)).setCell ⟨w.heap.size, 2, none⟩ (.int .i64 Q.fields)).setCell ⟨w.heap.size, 3, none⟩ (.slice Bf Q.fs.length df)).setCell ⟨w.heap.size, 4, none⟩ (.slice Be Q.en.length de)).setCell ⟨w.heap.size, 5, none⟩ (.slice Bo Q.ops.length d))) := Lib.hid ((((((B2.out.setCell (p := ⟨w.heap.size, 0, none⟩) (Nat.le_refl _) _).setCell (p := ⟨w.heap.size, 1, none⟩) (Nat.le_refl _) _).setCell (p := ⟨w.heap.size, 2, none⟩) (Nat.le_refl _) _).setCell (p := ⟨w.heap.size, 3, none⟩) (Nat.le_refl _) _).setCell (p := ⟨w.heap.size, 4, none⟩) (Nat.le_refl _) _).setCell (p := ⟨w.heap.size, 5, none⟩) (Nat.le_refl _) _)
  have ne : ∀ (x : Nat) (t : TypeId) (cs : Array Value) (fr : Nat × Nat), t ≠ 26 → W2.heap[x]? = some (.cells cs t fr) → x ≠ w.heap.size := by
    rintro x t cs fr ht hx rfl
    rw [R3.out] at hx
    injection hx with hx
    injection hx with _ hx _
    exact ht hx.symm
  generalize ((((((W2.setCell ⟨w.heap.size, 0, none⟩ (.int .i64 Q.vars)).setCell ⟨w.heap.size, 1, none⟩ (.int .i64 Q.objs)).setCell ⟨w.heap.size, 2, none⟩ (.int .i64 Q.fields)).setCell ⟨w.heap.size, 3, none⟩ (.slice Bf Q.fs.length df)).setCell ⟨w.heap.size, 4, none⟩ (.slice Be Q.en.length de)).setCell ⟨w.heap.size, 5, none⟩ (.slice Bo Q.ops.length d)) = W3 at *
  have HQ : Hid (PIn 0 W3 Q Bf df Be de Bo d) := Lib.hid (by
    have r1 := Q1.out.keep (w' := W3) (fun x cs fr hx => hset x (ne x _ cs fr (by decide) hx))
    have r3 := Q3.out.keep (w' := W3) (fun x cs fr hx => hset x (ne x _ cs fr (by decide) hx))
    obtain ⟨A1, c1, e1, f1, f2, f3, f4⟩ := r1.at B4.out
    obtain ⟨A3, c3, e3, o1, o2, o3, o4⟩ := r3.at B4.out
    injection e1 with e1 _ e2
    injection e3 with e3 _ e4
    subst e1 e2 e3 e4
    exact ⟨f1.fs, Q2.out.below B4.out, o1.os, f2, o2, ⟨f3, f4⟩, ⟨o3, o4⟩⟩)
  clear hset ne Q1 Q2 Q3 x0 x1 x2 x3 x4 x5 y0 y1 y2 y3 y4 y5 R3 B2
  refine Gr.regionS 7 (fun i => if i < 6 then i + 7 else 2) [.val (pv Q Bf df Be de Bo d), .cls (PRV Q) prv_grow, .val (.int .i64 (check Q)), .val (pv Q Bf df Be de Bo d), .val (.int .i64 (check Q)), .val (.bool true), .val (.bool true)] (by kernel_rfl) (by kernel_rfl) (by rfl) ?_ ?_
  · intro i o a W1 hi ho hb hfr hpre
    have t1 : a.tmps[1]?.getD undef = .pointer (some ⟨w.heap.size, 0, none⟩) := Gr.slot (hfr.f 1 (by intro j hj; (try dsimp only); split <;> omega))
    obtain ⟨k0, k1, k2, k3, k4, k5⟩ := cells6 (blk_below R4.out hb (blk_lt R4.out))
    match i, hi with
    | 0, _ =>
      obtain rfl := Option.some.inj ho
      refine Gr.val (v := pv Q Bf df Be de Bo d) (w' := W1) (by simp [go_sem, t1, k0, k1, k2, k3, k4, k5]) ⟨_, rfl, rfl, Below.refl _ _⟩
    | 1, _ =>
      have p7 : a.tmps[7]?.getD undef = pv Q Bf df Be de Bo d := Gr.slot (hpre { on := 0, ground := .data } (by obtain rfl := Option.some.inj ho; simp) rfl (by decide))
      obtain rfl := Option.some.inj ho
      refine Gr.call (f := 13) (args := #[pv Q Bf df Be de Bo d]) (by simp [go_sem, p7]) ((own_any 0 Q Bf df Be de Bo d W1 (HQ.out.below hb) SQ.out).mono ?_)
      rintro e w' ⟨B1, d1, B2, d2, B3, d3, rfl, h1, h2⟩
      exact ⟨_, rfl, _, rfl, ⟨B1, d1, B2, d2, B3, d3, rfl, _, h1⟩, h2⟩
    | 2, _ =>
      have q8 : (PRV Q) (a.eval (.tmp 8)) W1 := hpre { on := 1, ground := .data } (by obtain rfl := Option.some.inj ho; simp) rfl (by decide)
      obtain ⟨B1, d1, B2, d2, B3, d3, hv, M, hM⟩ := q8
      have p8 := Gr.slot hv
      obtain rfl := Option.some.inj ho
      refine Gr.call (f := 14) (args := #[pv Q B1 d1 B2 d2 B3 d3]) (by simp [go_sem, p8]) ((check_any M Q B1 d1 B2 d2 B3 d3 W1 hM SQ.out).mono ?_)
      rintro e w' ⟨rfl, h2⟩
      exact ⟨_, rfl, _, rfl, rfl, h2⟩
    | 3, _ =>
      obtain rfl := Option.some.inj ho
      refine Gr.val (v := pv Q Bf df Be de Bo d) (w' := W1) (by simp [go_sem, t1, k0, k1, k2, k3, k4, k5]) ⟨_, rfl, rfl, Below.refl _ _⟩
    | 4, _ =>
      have p10 : a.tmps[10]?.getD undef = pv Q Bf df Be de Bo d := Gr.slot (hpre { on := 3, ground := .data } (by obtain rfl := Option.some.inj ho; simp) rfl (by decide))
      obtain rfl := Option.some.inj ho
      refine Gr.call (f := 15) (args := #[pv Q Bf df Be de Bo d]) (by simp [go_sem, p10]) ((rcheck_any 0 Q Bf df Be de Bo d W1 (HQ.out.below hb) SQ.out).mono ?_)
      rintro e w' ⟨rfl, h2⟩
      exact ⟨_, rfl, _, rfl, rfl, h2⟩
    | 5, _ =>
      have p9 : a.tmps[9]?.getD undef = .int .i64 (check Q) := Gr.slot (hpre { on := 2, ground := .data } (by obtain rfl := Option.some.inj ho; simp) rfl (by decide))
      have p11 : a.tmps[11]?.getD undef = .int .i64 (check Q) := Gr.slot (hpre { on := 4, ground := .data } (by obtain rfl := Option.some.inj ho; simp) rfl (by decide))
      obtain rfl := Option.some.inj ho
      refine Gr.val (v := .bool true) (w' := W1) (by simp [go_sem, p9, p11]) ⟨_, rfl, rfl, Below.refl _ _⟩
    | 6, _ =>
      have p12 : a.tmps[12]?.getD undef = .bool true := Gr.slot (hpre { on := 5, ground := .data } (by obtain rfl := Option.some.inj ho; simp) rfl (by decide))
      obtain rfl := Option.some.inj ho
      refine Gr.val (v := .bool true) (w' := W1) (by simp [go_sem, p12]) ⟨_, rfl, rfl, Below.refl _ _⟩
    | i + 7, h => omega
  intro a W5 hb hfr hall
  have v0 : a.eval (.tmp 2) = .bool true := hall 6 (by omega)
  go_wp2
  (try simp only [Exit.inBlock, Exit.then])
  refine bodyPost_ret (results_tmp rfl _ _ _) hfr.d ?_
  exact ⟨congrArg Ending.returned v0, B4.out.trans (hb.mono B4.out.size)⟩
end Pm
end Go.Proofs.Ythnkppjpbjmkmaa
