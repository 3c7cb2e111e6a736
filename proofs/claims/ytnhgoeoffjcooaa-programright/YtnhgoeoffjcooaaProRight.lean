/-
  Programs: the law's program that may be, of any one (dowserlaw15.Right). Made by wip/gen/proright.py.
-/
import Derived.Test.YtnhgoeoffjcooaaProRg
namespace Go.Proofs.Ytnhgoeoffjcooaa
open Go.RowKit
namespace Pm
open B
set_option linter.unusedVariables false
set_option maxRecDepth 100000 in
set_option maxHeartbeats 40000000 in
theorem right_any (lo : Nat) (p : P) (Af : Option Addr) (cf : Nat) (Ae : Option Addr) (ce : Nat) (Ao : Option Addr) (co : Nat) (k : Nat) (w : World) (h : PIn lo w p Af cf Ae ce Ao co) (hk : k ≤ 300) :
    Calls Try.prog 16 #[pv p Af cf Ae ce Ao co, .int .i64 (k : Int)] w fun e w' => ∃ Bf df Be de Bo d, e = .returned (pv (rightq p k) Bf df Be de Bo d) ∧ PIn w.heap.size w' (rightq p k) Bf df Be de Bo d ∧ Below w.heap.size w w' := by
  obtain ⟨i8, hi8, hz8, hs8, hb8⟩ := info_parts infoI
  obtain ⟨iF, hiF, hzF, hsF, hbF⟩ := info_parts inforF
  obtain ⟨iO, hiO, hzO, hsO, hbO⟩ := info_parts inforO
  have HF := Lib.hid h.f
  have HE := Lib.hid h.e.at.2.1
  have HO := Lib.hid h.o
  have hEC : p.en.length ≤ 9223372036854775807 := Nat.le_trans h.e.at.2.2.2.1 h.e.at.2.2.2.2.1
  have hOC : p.ops.length ≤ 9223372036854775807 := Nat.le_trans h.oc.1 h.oc.2
  obtain ⟨vv, hvv⟩ : ∃ n, 1 + atq p.vars 30 = n := ⟨_, rfl⟩
  obtain ⟨ob, hob⟩ : ∃ n, 1 + atq p.objs 12 = n := ⟨_, rfl⟩
  obtain ⟨fi, hfi⟩ : ∃ n, 1 + atq p.fields 6 = n := ⟨_, rfl⟩
  have hV : 0 < vv ∧ vv ≤ 1000 := by have := atq_range p.vars 30 (by decide); omega
  have hOb : 0 < ob ∧ ob ≤ 1000 := by have := atq_range p.objs 12 (by decide); omega
  have hFi : 0 < fi ∧ fi ≤ 1000 := by have := atq_range p.fields 6 (by decide); omega
  have WV := Lib.hid (show IntKind.i64.wrap (1 + atq p.vars 30) = vv by rw [hvv]; exact IntWalk.i64_in _ (by omega))
  have WO := Lib.hid (show IntKind.i64.wrap (1 + atq p.objs 12) = ob by rw [hob]; exact IntWalk.i64_in _ (by omega))
  have WF := Lib.hid (show IntKind.i64.wrap (1 + atq p.fields 6) = fi by rw [hfi]; exact IntWalk.i64_in _ (by omega))
  have HQ := Lib.hid (show rightq p k = ⟨vv, ob, fi, rightFs vv p.fs, rightE (rightFs vv p.fs).length p.en, (p.ops.take k).map (rightO vv ob fi (rightFs vv p.fs).length)⟩ by unfold rightq; rw [hvv, hob, hfi])
  have HV := Lib.hid (⟨hV, hOb, hFi⟩ : (0 < vv ∧ vv ≤ 1000) ∧ (0 < ob ∧ ob ≤ 1000) ∧ (0 < fi ∧ fi ≤ 1000))
  have HK := Lib.hid hk
  clear hvv hob hfi hV hOb hFi hk
  have R1 := Lib.hid (hp_old (.cells #[.int .i64 0, .int .i64 0, .int .i64 0, .slice none 0 0, .slice none 0 0, .slice none 0 0] 26) (heap_last w (.cells #[.int .i64 p.vars, .int .i64 p.objs, .int .i64 p.fields, .slice Af p.fs.length cf, .slice Ae p.en.length ce, .slice Ao p.ops.length co] 26) w.heap.size rfl))
  have R2 := Lib.hid (heap_last (w.alloc (.cells #[.int .i64 p.vars, .int .i64 p.objs, .int .i64 p.fields, .slice Af p.fs.length cf, .slice Ae p.en.length ce, .slice Ao p.ops.length co] 26)) (.cells #[.int .i64 0, .int .i64 0, .int .i64 0, .slice none 0 0, .slice none 0 0, .slice none 0 0] 26) (w.heap.size + 1) (by simp))
  have SW := Lib.hid (show w.heap.size + 2 ≤ ((w.alloc (.cells #[.int .i64 p.vars, .int .i64 p.objs, .int .i64 p.fields, .slice Af p.fs.length cf, .slice Ae p.en.length ce, .slice Ao p.ops.length co] 26)).alloc (.cells #[.int .i64 0, .int .i64 0, .int .i64 0, .slice none 0 0, .slice none 0 0, .slice none 0 0] 26)).heap.size by simp)
  have bA := below1 w (.cells #[.int .i64 p.vars, .int .i64 p.objs, .int .i64 p.fields, .slice Af p.fs.length cf, .slice Ae p.en.length ce, .slice Ao p.ops.length co] 26)
  have bB := below1 (w.alloc (.cells #[.int .i64 p.vars, .int .i64 p.objs, .int .i64 p.fields, .slice Af p.fs.length cf, .slice Ae p.en.length ce, .slice Ao p.ops.length co] 26)) (.cells #[.int .i64 0, .int .i64 0, .int .i64 0, .slice none 0 0, .slice none 0 0, .slice none 0 0] 26)
  have B0 := Lib.hid (bA.trans (bB.mono bA.size))
  clear bA bB h
  go_enter Try.func16, Try.ntmps16
  go_upto_region 1 with fail
  generalize (w.alloc (.cells #[.int .i64 p.vars, .int .i64 p.objs, .int .i64 p.fields, .slice Af p.fs.length cf, .slice Ae p.en.length ce, .slice Ao p.ops.length co] 26)).alloc (.cells #[.int .i64 0, .int .i64 0, .int .i64 0, .slice none 0 0, .slice none 0 0, .slice none 0 0] 26) = W at *
  refine Gr.region 14 (fun i => if i < 13 then i + 15 else 5) (by kernel_rfl) (by kernel_rfl) (Gr.spφ [.val (.pointer (some ⟨w.heap.size, 0, none⟩)), .val (.int .i64 p.vars), .val (.int .i64 (atq p.vars 30)), .val (.int .i64 vv), .val (.pointer (some ⟨w.heap.size, 1, none⟩)), .val (.int .i64 p.objs), .val (.int .i64 (atq p.objs 12)), .val (.int .i64 ob), .val (.pointer (some ⟨w.heap.size, 2, none⟩)), .val (.int .i64 p.fields), .val (.int .i64 (atq p.fields 6)), .val (.int .i64 fi), .val (.agg #[.int .i64 vv, .int .i64 ob, .int .i64 fi, .slice none 0 0, .slice none 0 0, .slice none 0 0]), .cls (NewR (w.heap.size + 2)) (newr_grow)]) (Gr.spφ_grow _) ?_ ?_
  · intro i o a W1 hi ho hb hfr hpre
    have t2 : a.tmps[2]?.getD undef = .pointer (some ⟨w.heap.size, 0, none⟩) := Gr.slot (hfr.f 2 (by intro j hj; (try dsimp only); split <;> omega))
    obtain ⟨k0, k1, k2, k3, k4, k5⟩ := cells6 (blk_below R1.out hb (blk_lt R1.out))
    match i, hi with
    | 0, _ =>
      obtain rfl := Option.some.inj ho
      refine Gr.val (v := .pointer (some ⟨w.heap.size, 0, none⟩)) (w' := W1) (by simp [go_sem, t2]) ⟨_, rfl, rfl, Below.refl _ _⟩
    | 1, _ =>
      have p15 : a.tmps[15]?.getD undef = .pointer (some ⟨w.heap.size, 0, none⟩) := Gr.slot (hpre { on := 0, ground := .data } (by obtain rfl := Option.some.inj ho; simp) rfl (by decide))
      obtain rfl := Option.some.inj ho
      refine Gr.val (v := .int .i64 p.vars) (w' := W1) (by simp [go_sem, p15, k0]) ⟨_, rfl, rfl, Below.refl _ _⟩
    | 2, _ =>
      have p16 : a.tmps[16]?.getD undef = .int .i64 p.vars := Gr.slot (hpre { on := 1, ground := .data } (by obtain rfl := Option.some.inj ho; simp) rfl (by decide))
      obtain rfl := Option.some.inj ho
      refine Gr.call (f := 35) (args := #[.int .i64 p.vars, .int .i64 30]) (by simp [go_sem, p16]) ((at_any p.vars 30 W1 (by decide)).mono ?_)
      rintro e w' ⟨rfl, rfl⟩
      exact ⟨_, rfl, _, rfl, rfl, Below.refl _ _⟩
    | 3, _ =>
      have p17 : a.tmps[17]?.getD undef = .int .i64 (atq p.vars 30) := Gr.slot (hpre { on := 2, ground := .data } (by obtain rfl := Option.some.inj ho; simp) rfl (by decide))
      obtain rfl := Option.some.inj ho
      refine Gr.val (v := .int .i64 vv) (w' := W1) (by simp [go_sem, p17, WV.out]) ⟨_, rfl, rfl, Below.refl _ _⟩
    | 4, _ =>
      obtain rfl := Option.some.inj ho
      refine Gr.val (v := .pointer (some ⟨w.heap.size, 1, none⟩)) (w' := W1) (by simp [go_sem, t2]) ⟨_, rfl, rfl, Below.refl _ _⟩
    | 5, _ =>
      have p19 : a.tmps[19]?.getD undef = .pointer (some ⟨w.heap.size, 1, none⟩) := Gr.slot (hpre { on := 4, ground := .data } (by obtain rfl := Option.some.inj ho; simp) rfl (by decide))
      obtain rfl := Option.some.inj ho
      refine Gr.val (v := .int .i64 p.objs) (w' := W1) (by simp [go_sem, p19, k1]) ⟨_, rfl, rfl, Below.refl _ _⟩
    | 6, _ =>
      have p20 : a.tmps[20]?.getD undef = .int .i64 p.objs := Gr.slot (hpre { on := 5, ground := .data } (by obtain rfl := Option.some.inj ho; simp) rfl (by decide))
      obtain rfl := Option.some.inj ho
      refine Gr.call (f := 35) (args := #[.int .i64 p.objs, .int .i64 12]) (by simp [go_sem, p20]) ((at_any p.objs 12 W1 (by decide)).mono ?_)
      rintro e w' ⟨rfl, rfl⟩
      exact ⟨_, rfl, _, rfl, rfl, Below.refl _ _⟩
    | 7, _ =>
      have p21 : a.tmps[21]?.getD undef = .int .i64 (atq p.objs 12) := Gr.slot (hpre { on := 6, ground := .data } (by obtain rfl := Option.some.inj ho; simp) rfl (by decide))
      obtain rfl := Option.some.inj ho
      refine Gr.val (v := .int .i64 ob) (w' := W1) (by simp [go_sem, p21, WO.out]) ⟨_, rfl, rfl, Below.refl _ _⟩
    | 8, _ =>
      obtain rfl := Option.some.inj ho
      refine Gr.val (v := .pointer (some ⟨w.heap.size, 2, none⟩)) (w' := W1) (by simp [go_sem, t2]) ⟨_, rfl, rfl, Below.refl _ _⟩
    | 9, _ =>
      have p23 : a.tmps[23]?.getD undef = .pointer (some ⟨w.heap.size, 2, none⟩) := Gr.slot (hpre { on := 8, ground := .data } (by obtain rfl := Option.some.inj ho; simp) rfl (by decide))
      obtain rfl := Option.some.inj ho
      refine Gr.val (v := .int .i64 p.fields) (w' := W1) (by simp [go_sem, p23, k2]) ⟨_, rfl, rfl, Below.refl _ _⟩
    | 10, _ =>
      have p24 : a.tmps[24]?.getD undef = .int .i64 p.fields := Gr.slot (hpre { on := 9, ground := .data } (by obtain rfl := Option.some.inj ho; simp) rfl (by decide))
      obtain rfl := Option.some.inj ho
      refine Gr.call (f := 35) (args := #[.int .i64 p.fields, .int .i64 6]) (by simp [go_sem, p24]) ((at_any p.fields 6 W1 (by decide)).mono ?_)
      rintro e w' ⟨rfl, rfl⟩
      exact ⟨_, rfl, _, rfl, rfl, Below.refl _ _⟩
    | 11, _ =>
      have p25 : a.tmps[25]?.getD undef = .int .i64 (atq p.fields 6) := Gr.slot (hpre { on := 10, ground := .data } (by obtain rfl := Option.some.inj ho; simp) rfl (by decide))
      obtain rfl := Option.some.inj ho
      refine Gr.val (v := .int .i64 fi) (w' := W1) (by simp [go_sem, p25, WF.out]) ⟨_, rfl, rfl, Below.refl _ _⟩
    | 12, _ =>
      have p18 : a.tmps[18]?.getD undef = .int .i64 vv := Gr.slot (hpre { on := 3, ground := .data } (by obtain rfl := Option.some.inj ho; simp) rfl (by decide))
      have p22 : a.tmps[22]?.getD undef = .int .i64 ob := Gr.slot (hpre { on := 7, ground := .data } (by obtain rfl := Option.some.inj ho; simp) rfl (by decide))
      have p26 : a.tmps[26]?.getD undef = .int .i64 fi := Gr.slot (hpre { on := 11, ground := .data } (by obtain rfl := Option.some.inj ho; simp) rfl (by decide))
      obtain rfl := Option.some.inj ho
      refine Gr.val (v := .agg #[.int .i64 vv, .int .i64 ob, .int .i64 fi, .slice none 0 0, .slice none 0 0, .slice none 0 0]) (w' := W1) (by simp [go_sem, p18, p22, p26]) ⟨_, rfl, rfl, Below.refl _ _⟩
    | 13, _ =>
      obtain rfl := Option.some.inj ho
      refine Gr.val (v := .pointer (some ⟨W1.heap.size, 0, none⟩)) (w' := W1.alloc (.cells #[.int .i64 0, .int .i64 0, .int .i64 0, .slice none 0 0, .slice none 0 0, .slice none 0 0] 26)) (by simp [go_sem]) ⟨_, rfl, ⟨W1.heap.size, rfl, Nat.le_trans SW.out hb.size, heap_last _ _ _ rfl⟩, below1 _ _⟩
    | i + 14, h => omega
  intro o a W1 ho hb hfr hall
  obtain ⟨g, hv3, hg30, hG3⟩ : NewR (w.heap.size + 2) (a.eval (.tmp 5)) W1 := hall 13 (by omega)
  have t27 : a.tmps[27]?.getD undef = .agg #[.int .i64 vv, .int .i64 ob, .int .i64 fi, .slice none 0 0, .slice none 0 0, .slice none 0 0] := Gr.slot (hall 12 (by omega))
  have hg3 : w.heap.size ≤ g := by omega
  have hgn : g ≠ w.heap.size + 1 ∧ g ≠ w.heap.size := by omega
  have t5 := Gr.slot hv3
  obtain ⟨x0, x1, x2, x3, x4, x5, y0, y1, y2, y3, y4, y5⟩ := row6 hG3
  obtain rfl := Option.some.inj ho
  refine Gr.skip (w' := ((((((W1.setCell ⟨g, 0, none⟩ (.int .i64 vv)).setCell ⟨g, 1, none⟩ (.int .i64 ob)).setCell ⟨g, 2, none⟩ (.int .i64 fi)).setCell ⟨g, 3, none⟩ (.slice none 0 0)).setCell ⟨g, 4, none⟩ (.slice none 0 0)).setCell ⟨g, 5, none⟩ (.slice none 0 0))) (by simp [go_sem, t5, t27, x0, x1, x2, x3, x4, x5, y0, y1, y2, y3, y4, y5]) rfl ?_
  rename_i hK
  refine hK _ _ ?_
  clear hK
  obtain ⟨u15, hu15⟩ : ∃ u, a.tmps[15]?.getD undef = u := ⟨_, rfl⟩
  obtain ⟨u16, hu16⟩ : ∃ u, a.tmps[16]?.getD undef = u := ⟨_, rfl⟩
  obtain ⟨u17, hu17⟩ : ∃ u, a.tmps[17]?.getD undef = u := ⟨_, rfl⟩
  obtain ⟨u18, hu18⟩ : ∃ u, a.tmps[18]?.getD undef = u := ⟨_, rfl⟩
  obtain ⟨u19, hu19⟩ : ∃ u, a.tmps[19]?.getD undef = u := ⟨_, rfl⟩
  obtain ⟨u20, hu20⟩ : ∃ u, a.tmps[20]?.getD undef = u := ⟨_, rfl⟩
  obtain ⟨u21, hu21⟩ : ∃ u, a.tmps[21]?.getD undef = u := ⟨_, rfl⟩
  obtain ⟨u22, hu22⟩ : ∃ u, a.tmps[22]?.getD undef = u := ⟨_, rfl⟩
  obtain ⟨u23, hu23⟩ : ∃ u, a.tmps[23]?.getD undef = u := ⟨_, rfl⟩
  obtain ⟨u24, hu24⟩ : ∃ u, a.tmps[24]?.getD undef = u := ⟨_, rfl⟩
  obtain ⟨u25, hu25⟩ : ∃ u, a.tmps[25]?.getD undef = u := ⟨_, rfl⟩
  obtain ⟨u26, hu26⟩ : ∃ u, a.tmps[26]?.getD undef = u := ⟨_, rfl⟩
  obtain ⟨u27, hu27⟩ : ∃ u, a.tmps[27]?.getD undef = u := ⟨_, rfl⟩
  have hA : a = ⟨#[pv p Af cf Ae ce Ao co, .int .i64 (k : Int), .pointer (some ⟨w.heap.size, 0, none⟩), undef, .pointer (some ⟨w.heap.size + 1, 0, none⟩), .pointer (some ⟨g, 0, none⟩), undef, undef, undef, undef, undef, undef, undef, undef, undef, u15, u16, u17, u18, u19, u20, u21, u22, u23, u24, u25, u26, u27, undef, undef, undef, undef, undef, undef, undef, undef, undef, undef, undef, undef, undef, undef, undef, undef, undef, undef, undef, undef, undef, undef, undef, undef, undef, undef, undef, undef, undef, undef, undef, undef, undef, undef, undef, undef, undef, undef, undef, undef, undef, undef, undef, undef, undef, undef, undef, undef, undef, undef, undef, undef, undef, undef, undef, undef, undef, undef, undef, undef, undef, undef, undef, undef, undef, undef, undef, undef, undef, undef, undef, undef, undef, undef, undef, undef, undef, undef, undef, undef, undef, undef, undef, undef, undef, undef, undef, undef, undef, undef, undef, undef, undef, undef, undef, undef, undef, undef, undef, undef, undef, undef, undef, undef, undef, undef, undef, undef, undef, undef, undef, undef, undef, undef, undef, undef, undef, undef, undef, undef, undef, undef, undef, undef, undef, undef, undef, undef, undef, undef, undef, undef, undef, undef, undef, undef, undef, undef, undef, undef, undef, undef, undef, undef, undef, undef, undef, undef, undef, undef, undef, undef, undef, undef, undef, undef, undef, undef, undef, undef, undef, undef, undef, undef, undef, undef, undef, undef, undef, undef, undef, undef, undef, undef, undef, undef, undef, undef, undef, undef], []⟩ := Gr.act_eq (l := [pv p Af cf Ae ce Ao co, .int .i64 (k : Int), .pointer (some ⟨w.heap.size, 0, none⟩), undef, .pointer (some ⟨w.heap.size + 1, 0, none⟩), .pointer (some ⟨g, 0, none⟩), undef, undef, undef, undef, undef, undef, undef, undef, undef, u15, u16, u17, u18, u19, u20, u21, u22, u23, u24, u25, u26, u27, undef, undef, undef, undef, undef, undef, undef, undef, undef, undef, undef, undef, undef, undef, undef, undef, undef, undef, undef, undef, undef, undef, undef, undef, undef, undef, undef, undef, undef, undef, undef, undef, undef, undef, undef, undef, undef, undef, undef, undef, undef, undef, undef, undef, undef, undef, undef, undef, undef, undef, undef, undef, undef, undef, undef, undef, undef, undef, undef, undef, undef, undef, undef, undef, undef, undef, undef, undef, undef, undef, undef, undef, undef, undef, undef, undef, undef, undef, undef, undef, undef, undef, undef, undef, undef, undef, undef, undef, undef, undef, undef, undef, undef, undef, undef, undef, undef, undef, undef, undef, undef, undef, undef, undef, undef, undef, undef, undef, undef, undef, undef, undef, undef, undef, undef, undef, undef, undef, undef, undef, undef, undef, undef, undef, undef, undef, undef, undef, undef, undef, undef, undef, undef, undef, undef, undef, undef, undef, undef, undef, undef, undef, undef, undef, undef, undef, undef, undef, undef, undef, undef, undef, undef, undef, undef, undef, undef, undef, undef, undef, undef, undef, undef, undef, undef, undef, undef, undef, undef, undef, undef, undef, undef, undef, undef, undef, undef, undef, undef, undef]) hfr.d hfr.s (by
    intro i hi
    match i, hi with
    | 0, _ => exact Gr.slot (hfr.f 0 (by intro j hj; (try dsimp only); split <;> omega))
    | 1, _ => exact Gr.slot (hfr.f 1 (by intro j hj; (try dsimp only); split <;> omega))
    | 2, _ => exact Gr.slot (hfr.f 2 (by intro j hj; (try dsimp only); split <;> omega))
    | 3, _ => exact Gr.slot (hfr.f 3 (by intro j hj; (try dsimp only); split <;> omega))
    | 4, _ => exact Gr.slot (hfr.f 4 (by intro j hj; (try dsimp only); split <;> omega))
    | 5, _ => exact Gr.slot hv3
    | 6, _ => exact Gr.slot (hfr.f 6 (by intro j hj; (try dsimp only); split <;> omega))
    | 7, _ => exact Gr.slot (hfr.f 7 (by intro j hj; (try dsimp only); split <;> omega))
    | 8, _ => exact Gr.slot (hfr.f 8 (by intro j hj; (try dsimp only); split <;> omega))
    | 9, _ => exact Gr.slot (hfr.f 9 (by intro j hj; (try dsimp only); split <;> omega))
    | 10, _ => exact Gr.slot (hfr.f 10 (by intro j hj; (try dsimp only); split <;> omega))
    | 11, _ => exact Gr.slot (hfr.f 11 (by intro j hj; (try dsimp only); split <;> omega))
    | 12, _ => exact Gr.slot (hfr.f 12 (by intro j hj; (try dsimp only); split <;> omega))
    | 13, _ => exact Gr.slot (hfr.f 13 (by intro j hj; (try dsimp only); split <;> omega))
    | 14, _ => exact Gr.slot (hfr.f 14 (by intro j hj; (try dsimp only); split <;> omega))
    | 15, _ => exact hu15
    | 16, _ => exact hu16
    | 17, _ => exact hu17
    | 18, _ => exact hu18
    | 19, _ => exact hu19
    | 20, _ => exact hu20
    | 21, _ => exact hu21
    | 22, _ => exact hu22
    | 23, _ => exact hu23
    | 24, _ => exact hu24
    | 25, _ => exact hu25
    | 26, _ => exact hu26
    | 27, _ => exact hu27
    | 28, _ => exact Gr.slot (hfr.f 28 (by intro j hj; (try dsimp only); split <;> omega))
    | 29, _ => exact Gr.slot (hfr.f 29 (by intro j hj; (try dsimp only); split <;> omega))
    | 30, _ => exact Gr.slot (hfr.f 30 (by intro j hj; (try dsimp only); split <;> omega))
    | 31, _ => exact Gr.slot (hfr.f 31 (by intro j hj; (try dsimp only); split <;> omega))
    | 32, _ => exact Gr.slot (hfr.f 32 (by intro j hj; (try dsimp only); split <;> omega))
    | 33, _ => exact Gr.slot (hfr.f 33 (by intro j hj; (try dsimp only); split <;> omega))
    | 34, _ => exact Gr.slot (hfr.f 34 (by intro j hj; (try dsimp only); split <;> omega))
    | 35, _ => exact Gr.slot (hfr.f 35 (by intro j hj; (try dsimp only); split <;> omega))
    | 36, _ => exact Gr.slot (hfr.f 36 (by intro j hj; (try dsimp only); split <;> omega))
    | 37, _ => exact Gr.slot (hfr.f 37 (by intro j hj; (try dsimp only); split <;> omega))
    | 38, _ => exact Gr.slot (hfr.f 38 (by intro j hj; (try dsimp only); split <;> omega))
    | 39, _ => exact Gr.slot (hfr.f 39 (by intro j hj; (try dsimp only); split <;> omega))
    | 40, _ => exact Gr.slot (hfr.f 40 (by intro j hj; (try dsimp only); split <;> omega))
    | 41, _ => exact Gr.slot (hfr.f 41 (by intro j hj; (try dsimp only); split <;> omega))
    | 42, _ => exact Gr.slot (hfr.f 42 (by intro j hj; (try dsimp only); split <;> omega))
    | 43, _ => exact Gr.slot (hfr.f 43 (by intro j hj; (try dsimp only); split <;> omega))
    | 44, _ => exact Gr.slot (hfr.f 44 (by intro j hj; (try dsimp only); split <;> omega))
    | 45, _ => exact Gr.slot (hfr.f 45 (by intro j hj; (try dsimp only); split <;> omega))
    | 46, _ => exact Gr.slot (hfr.f 46 (by intro j hj; (try dsimp only); split <;> omega))
    | 47, _ => exact Gr.slot (hfr.f 47 (by intro j hj; (try dsimp only); split <;> omega))
    | 48, _ => exact Gr.slot (hfr.f 48 (by intro j hj; (try dsimp only); split <;> omega))
    | 49, _ => exact Gr.slot (hfr.f 49 (by intro j hj; (try dsimp only); split <;> omega))
    | 50, _ => exact Gr.slot (hfr.f 50 (by intro j hj; (try dsimp only); split <;> omega))
    | 51, _ => exact Gr.slot (hfr.f 51 (by intro j hj; (try dsimp only); split <;> omega))
    | 52, _ => exact Gr.slot (hfr.f 52 (by intro j hj; (try dsimp only); split <;> omega))
    | 53, _ => exact Gr.slot (hfr.f 53 (by intro j hj; (try dsimp only); split <;> omega))
    | 54, _ => exact Gr.slot (hfr.f 54 (by intro j hj; (try dsimp only); split <;> omega))
    | 55, _ => exact Gr.slot (hfr.f 55 (by intro j hj; (try dsimp only); split <;> omega))
    | 56, _ => exact Gr.slot (hfr.f 56 (by intro j hj; (try dsimp only); split <;> omega))
    | 57, _ => exact Gr.slot (hfr.f 57 (by intro j hj; (try dsimp only); split <;> omega))
    | 58, _ => exact Gr.slot (hfr.f 58 (by intro j hj; (try dsimp only); split <;> omega))
    | 59, _ => exact Gr.slot (hfr.f 59 (by intro j hj; (try dsimp only); split <;> omega))
    | 60, _ => exact Gr.slot (hfr.f 60 (by intro j hj; (try dsimp only); split <;> omega))
    | 61, _ => exact Gr.slot (hfr.f 61 (by intro j hj; (try dsimp only); split <;> omega))
    | 62, _ => exact Gr.slot (hfr.f 62 (by intro j hj; (try dsimp only); split <;> omega))
    | 63, _ => exact Gr.slot (hfr.f 63 (by intro j hj; (try dsimp only); split <;> omega))
    | 64, _ => exact Gr.slot (hfr.f 64 (by intro j hj; (try dsimp only); split <;> omega))
    | 65, _ => exact Gr.slot (hfr.f 65 (by intro j hj; (try dsimp only); split <;> omega))
    | 66, _ => exact Gr.slot (hfr.f 66 (by intro j hj; (try dsimp only); split <;> omega))
    | 67, _ => exact Gr.slot (hfr.f 67 (by intro j hj; (try dsimp only); split <;> omega))
    | 68, _ => exact Gr.slot (hfr.f 68 (by intro j hj; (try dsimp only); split <;> omega))
    | 69, _ => exact Gr.slot (hfr.f 69 (by intro j hj; (try dsimp only); split <;> omega))
    | 70, _ => exact Gr.slot (hfr.f 70 (by intro j hj; (try dsimp only); split <;> omega))
    | 71, _ => exact Gr.slot (hfr.f 71 (by intro j hj; (try dsimp only); split <;> omega))
    | 72, _ => exact Gr.slot (hfr.f 72 (by intro j hj; (try dsimp only); split <;> omega))
    | 73, _ => exact Gr.slot (hfr.f 73 (by intro j hj; (try dsimp only); split <;> omega))
    | 74, _ => exact Gr.slot (hfr.f 74 (by intro j hj; (try dsimp only); split <;> omega))
    | 75, _ => exact Gr.slot (hfr.f 75 (by intro j hj; (try dsimp only); split <;> omega))
    | 76, _ => exact Gr.slot (hfr.f 76 (by intro j hj; (try dsimp only); split <;> omega))
    | 77, _ => exact Gr.slot (hfr.f 77 (by intro j hj; (try dsimp only); split <;> omega))
    | 78, _ => exact Gr.slot (hfr.f 78 (by intro j hj; (try dsimp only); split <;> omega))
    | 79, _ => exact Gr.slot (hfr.f 79 (by intro j hj; (try dsimp only); split <;> omega))
    | 80, _ => exact Gr.slot (hfr.f 80 (by intro j hj; (try dsimp only); split <;> omega))
    | 81, _ => exact Gr.slot (hfr.f 81 (by intro j hj; (try dsimp only); split <;> omega))
    | 82, _ => exact Gr.slot (hfr.f 82 (by intro j hj; (try dsimp only); split <;> omega))
    | 83, _ => exact Gr.slot (hfr.f 83 (by intro j hj; (try dsimp only); split <;> omega))
    | 84, _ => exact Gr.slot (hfr.f 84 (by intro j hj; (try dsimp only); split <;> omega))
    | 85, _ => exact Gr.slot (hfr.f 85 (by intro j hj; (try dsimp only); split <;> omega))
    | 86, _ => exact Gr.slot (hfr.f 86 (by intro j hj; (try dsimp only); split <;> omega))
    | 87, _ => exact Gr.slot (hfr.f 87 (by intro j hj; (try dsimp only); split <;> omega))
    | 88, _ => exact Gr.slot (hfr.f 88 (by intro j hj; (try dsimp only); split <;> omega))
    | 89, _ => exact Gr.slot (hfr.f 89 (by intro j hj; (try dsimp only); split <;> omega))
    | 90, _ => exact Gr.slot (hfr.f 90 (by intro j hj; (try dsimp only); split <;> omega))
    | 91, _ => exact Gr.slot (hfr.f 91 (by intro j hj; (try dsimp only); split <;> omega))
    | 92, _ => exact Gr.slot (hfr.f 92 (by intro j hj; (try dsimp only); split <;> omega))
    | 93, _ => exact Gr.slot (hfr.f 93 (by intro j hj; (try dsimp only); split <;> omega))
    | 94, _ => exact Gr.slot (hfr.f 94 (by intro j hj; (try dsimp only); split <;> omega))
    | 95, _ => exact Gr.slot (hfr.f 95 (by intro j hj; (try dsimp only); split <;> omega))
    | 96, _ => exact Gr.slot (hfr.f 96 (by intro j hj; (try dsimp only); split <;> omega))
    | 97, _ => exact Gr.slot (hfr.f 97 (by intro j hj; (try dsimp only); split <;> omega))
    | 98, _ => exact Gr.slot (hfr.f 98 (by intro j hj; (try dsimp only); split <;> omega))
    | 99, _ => exact Gr.slot (hfr.f 99 (by intro j hj; (try dsimp only); split <;> omega))
    | 100, _ => exact Gr.slot (hfr.f 100 (by intro j hj; (try dsimp only); split <;> omega))
    | 101, _ => exact Gr.slot (hfr.f 101 (by intro j hj; (try dsimp only); split <;> omega))
    | 102, _ => exact Gr.slot (hfr.f 102 (by intro j hj; (try dsimp only); split <;> omega))
    | 103, _ => exact Gr.slot (hfr.f 103 (by intro j hj; (try dsimp only); split <;> omega))
    | 104, _ => exact Gr.slot (hfr.f 104 (by intro j hj; (try dsimp only); split <;> omega))
    | 105, _ => exact Gr.slot (hfr.f 105 (by intro j hj; (try dsimp only); split <;> omega))
    | 106, _ => exact Gr.slot (hfr.f 106 (by intro j hj; (try dsimp only); split <;> omega))
    | 107, _ => exact Gr.slot (hfr.f 107 (by intro j hj; (try dsimp only); split <;> omega))
    | 108, _ => exact Gr.slot (hfr.f 108 (by intro j hj; (try dsimp only); split <;> omega))
    | 109, _ => exact Gr.slot (hfr.f 109 (by intro j hj; (try dsimp only); split <;> omega))
    | 110, _ => exact Gr.slot (hfr.f 110 (by intro j hj; (try dsimp only); split <;> omega))
    | 111, _ => exact Gr.slot (hfr.f 111 (by intro j hj; (try dsimp only); split <;> omega))
    | 112, _ => exact Gr.slot (hfr.f 112 (by intro j hj; (try dsimp only); split <;> omega))
    | 113, _ => exact Gr.slot (hfr.f 113 (by intro j hj; (try dsimp only); split <;> omega))
    | 114, _ => exact Gr.slot (hfr.f 114 (by intro j hj; (try dsimp only); split <;> omega))
    | 115, _ => exact Gr.slot (hfr.f 115 (by intro j hj; (try dsimp only); split <;> omega))
    | 116, _ => exact Gr.slot (hfr.f 116 (by intro j hj; (try dsimp only); split <;> omega))
    | 117, _ => exact Gr.slot (hfr.f 117 (by intro j hj; (try dsimp only); split <;> omega))
    | 118, _ => exact Gr.slot (hfr.f 118 (by intro j hj; (try dsimp only); split <;> omega))
    | 119, _ => exact Gr.slot (hfr.f 119 (by intro j hj; (try dsimp only); split <;> omega))
    | 120, _ => exact Gr.slot (hfr.f 120 (by intro j hj; (try dsimp only); split <;> omega))
    | 121, _ => exact Gr.slot (hfr.f 121 (by intro j hj; (try dsimp only); split <;> omega))
    | 122, _ => exact Gr.slot (hfr.f 122 (by intro j hj; (try dsimp only); split <;> omega))
    | 123, _ => exact Gr.slot (hfr.f 123 (by intro j hj; (try dsimp only); split <;> omega))
    | 124, _ => exact Gr.slot (hfr.f 124 (by intro j hj; (try dsimp only); split <;> omega))
    | 125, _ => exact Gr.slot (hfr.f 125 (by intro j hj; (try dsimp only); split <;> omega))
    | 126, _ => exact Gr.slot (hfr.f 126 (by intro j hj; (try dsimp only); split <;> omega))
    | 127, _ => exact Gr.slot (hfr.f 127 (by intro j hj; (try dsimp only); split <;> omega))
    | 128, _ => exact Gr.slot (hfr.f 128 (by intro j hj; (try dsimp only); split <;> omega))
    | 129, _ => exact Gr.slot (hfr.f 129 (by intro j hj; (try dsimp only); split <;> omega))
    | 130, _ => exact Gr.slot (hfr.f 130 (by intro j hj; (try dsimp only); split <;> omega))
    | 131, _ => exact Gr.slot (hfr.f 131 (by intro j hj; (try dsimp only); split <;> omega))
    | 132, _ => exact Gr.slot (hfr.f 132 (by intro j hj; (try dsimp only); split <;> omega))
    | 133, _ => exact Gr.slot (hfr.f 133 (by intro j hj; (try dsimp only); split <;> omega))
    | 134, _ => exact Gr.slot (hfr.f 134 (by intro j hj; (try dsimp only); split <;> omega))
    | 135, _ => exact Gr.slot (hfr.f 135 (by intro j hj; (try dsimp only); split <;> omega))
    | 136, _ => exact Gr.slot (hfr.f 136 (by intro j hj; (try dsimp only); split <;> omega))
    | 137, _ => exact Gr.slot (hfr.f 137 (by intro j hj; (try dsimp only); split <;> omega))
    | 138, _ => exact Gr.slot (hfr.f 138 (by intro j hj; (try dsimp only); split <;> omega))
    | 139, _ => exact Gr.slot (hfr.f 139 (by intro j hj; (try dsimp only); split <;> omega))
    | 140, _ => exact Gr.slot (hfr.f 140 (by intro j hj; (try dsimp only); split <;> omega))
    | 141, _ => exact Gr.slot (hfr.f 141 (by intro j hj; (try dsimp only); split <;> omega))
    | 142, _ => exact Gr.slot (hfr.f 142 (by intro j hj; (try dsimp only); split <;> omega))
    | 143, _ => exact Gr.slot (hfr.f 143 (by intro j hj; (try dsimp only); split <;> omega))
    | 144, _ => exact Gr.slot (hfr.f 144 (by intro j hj; (try dsimp only); split <;> omega))
    | 145, _ => exact Gr.slot (hfr.f 145 (by intro j hj; (try dsimp only); split <;> omega))
    | 146, _ => exact Gr.slot (hfr.f 146 (by intro j hj; (try dsimp only); split <;> omega))
    | 147, _ => exact Gr.slot (hfr.f 147 (by intro j hj; (try dsimp only); split <;> omega))
    | 148, _ => exact Gr.slot (hfr.f 148 (by intro j hj; (try dsimp only); split <;> omega))
    | 149, _ => exact Gr.slot (hfr.f 149 (by intro j hj; (try dsimp only); split <;> omega))
    | 150, _ => exact Gr.slot (hfr.f 150 (by intro j hj; (try dsimp only); split <;> omega))
    | 151, _ => exact Gr.slot (hfr.f 151 (by intro j hj; (try dsimp only); split <;> omega))
    | 152, _ => exact Gr.slot (hfr.f 152 (by intro j hj; (try dsimp only); split <;> omega))
    | 153, _ => exact Gr.slot (hfr.f 153 (by intro j hj; (try dsimp only); split <;> omega))
    | 154, _ => exact Gr.slot (hfr.f 154 (by intro j hj; (try dsimp only); split <;> omega))
    | 155, _ => exact Gr.slot (hfr.f 155 (by intro j hj; (try dsimp only); split <;> omega))
    | 156, _ => exact Gr.slot (hfr.f 156 (by intro j hj; (try dsimp only); split <;> omega))
    | 157, _ => exact Gr.slot (hfr.f 157 (by intro j hj; (try dsimp only); split <;> omega))
    | 158, _ => exact Gr.slot (hfr.f 158 (by intro j hj; (try dsimp only); split <;> omega))
    | 159, _ => exact Gr.slot (hfr.f 159 (by intro j hj; (try dsimp only); split <;> omega))
    | 160, _ => exact Gr.slot (hfr.f 160 (by intro j hj; (try dsimp only); split <;> omega))
    | 161, _ => exact Gr.slot (hfr.f 161 (by intro j hj; (try dsimp only); split <;> omega))
    | 162, _ => exact Gr.slot (hfr.f 162 (by intro j hj; (try dsimp only); split <;> omega))
    | 163, _ => exact Gr.slot (hfr.f 163 (by intro j hj; (try dsimp only); split <;> omega))
    | 164, _ => exact Gr.slot (hfr.f 164 (by intro j hj; (try dsimp only); split <;> omega))
    | 165, _ => exact Gr.slot (hfr.f 165 (by intro j hj; (try dsimp only); split <;> omega))
    | 166, _ => exact Gr.slot (hfr.f 166 (by intro j hj; (try dsimp only); split <;> omega))
    | 167, _ => exact Gr.slot (hfr.f 167 (by intro j hj; (try dsimp only); split <;> omega))
    | 168, _ => exact Gr.slot (hfr.f 168 (by intro j hj; (try dsimp only); split <;> omega))
    | 169, _ => exact Gr.slot (hfr.f 169 (by intro j hj; (try dsimp only); split <;> omega))
    | 170, _ => exact Gr.slot (hfr.f 170 (by intro j hj; (try dsimp only); split <;> omega))
    | 171, _ => exact Gr.slot (hfr.f 171 (by intro j hj; (try dsimp only); split <;> omega))
    | 172, _ => exact Gr.slot (hfr.f 172 (by intro j hj; (try dsimp only); split <;> omega))
    | 173, _ => exact Gr.slot (hfr.f 173 (by intro j hj; (try dsimp only); split <;> omega))
    | 174, _ => exact Gr.slot (hfr.f 174 (by intro j hj; (try dsimp only); split <;> omega))
    | 175, _ => exact Gr.slot (hfr.f 175 (by intro j hj; (try dsimp only); split <;> omega))
    | 176, _ => exact Gr.slot (hfr.f 176 (by intro j hj; (try dsimp only); split <;> omega))
    | 177, _ => exact Gr.slot (hfr.f 177 (by intro j hj; (try dsimp only); split <;> omega))
    | 178, _ => exact Gr.slot (hfr.f 178 (by intro j hj; (try dsimp only); split <;> omega))
    | 179, _ => exact Gr.slot (hfr.f 179 (by intro j hj; (try dsimp only); split <;> omega))
    | 180, _ => exact Gr.slot (hfr.f 180 (by intro j hj; (try dsimp only); split <;> omega))
    | 181, _ => exact Gr.slot (hfr.f 181 (by intro j hj; (try dsimp only); split <;> omega))
    | 182, _ => exact Gr.slot (hfr.f 182 (by intro j hj; (try dsimp only); split <;> omega))
    | 183, _ => exact Gr.slot (hfr.f 183 (by intro j hj; (try dsimp only); split <;> omega))
    | 184, _ => exact Gr.slot (hfr.f 184 (by intro j hj; (try dsimp only); split <;> omega))
    | 185, _ => exact Gr.slot (hfr.f 185 (by intro j hj; (try dsimp only); split <;> omega))
    | 186, _ => exact Gr.slot (hfr.f 186 (by intro j hj; (try dsimp only); split <;> omega))
    | 187, _ => exact Gr.slot (hfr.f 187 (by intro j hj; (try dsimp only); split <;> omega))
    | 188, _ => exact Gr.slot (hfr.f 188 (by intro j hj; (try dsimp only); split <;> omega))
    | 189, _ => exact Gr.slot (hfr.f 189 (by intro j hj; (try dsimp only); split <;> omega))
    | 190, _ => exact Gr.slot (hfr.f 190 (by intro j hj; (try dsimp only); split <;> omega))
    | 191, _ => exact Gr.slot (hfr.f 191 (by intro j hj; (try dsimp only); split <;> omega))
    | 192, _ => exact Gr.slot (hfr.f 192 (by intro j hj; (try dsimp only); split <;> omega))
    | 193, _ => exact Gr.slot (hfr.f 193 (by intro j hj; (try dsimp only); split <;> omega))
    | 194, _ => exact Gr.slot (hfr.f 194 (by intro j hj; (try dsimp only); split <;> omega))
    | 195, _ => exact Gr.slot (hfr.f 195 (by intro j hj; (try dsimp only); split <;> omega))
    | 196, _ => exact Gr.slot (hfr.f 196 (by intro j hj; (try dsimp only); split <;> omega))
    | 197, _ => exact Gr.slot (hfr.f 197 (by intro j hj; (try dsimp only); split <;> omega))
    | 198, _ => exact Gr.slot (hfr.f 198 (by intro j hj; (try dsimp only); split <;> omega))
    | 199, _ => exact Gr.slot (hfr.f 199 (by intro j hj; (try dsimp only); split <;> omega))
    | 200, _ => exact Gr.slot (hfr.f 200 (by intro j hj; (try dsimp only); split <;> omega))
    | 201, _ => exact Gr.slot (hfr.f 201 (by intro j hj; (try dsimp only); split <;> omega))
    | 202, _ => exact Gr.slot (hfr.f 202 (by intro j hj; (try dsimp only); split <;> omega))
    | 203, _ => exact Gr.slot (hfr.f 203 (by intro j hj; (try dsimp only); split <;> omega))
    | 204, _ => exact Gr.slot (hfr.f 204 (by intro j hj; (try dsimp only); split <;> omega))
    | 205, _ => exact Gr.slot (hfr.f 205 (by intro j hj; (try dsimp only); split <;> omega))
    | 206, _ => exact Gr.slot (hfr.f 206 (by intro j hj; (try dsimp only); split <;> omega))
    | 207, _ => exact Gr.slot (hfr.f 207 (by intro j hj; (try dsimp only); split <;> omega))
    | i + 208, h => simp only [List.length_cons, List.length_nil] at h; omega)
  clear hu15 hu16 hu17 hu18 hu19 hu20 hu21 hu22 hu23 hu24 hu25 hu26 hu27
  subst hA
  have RG := Lib.hid (set6 (a0 := .int .i64 vv) (a1 := .int .i64 ob) (a2 := .int .i64 fi) (a3 := .slice none 0 0) (a4 := .slice none 0 0) (a5 := .slice none 0 0) hG3)
  have hset := fun x (hne : x ≠ g) => (show (((((((W1.setCell ⟨g, 0, none⟩ (.int .i64 vv)).setCell ⟨g, 1, none⟩ (.int .i64 ob)).setCell ⟨g, 2, none⟩ (.int .i64 fi)).setCell ⟨g, 3, none⟩ (.slice none 0 0)).setCell ⟨g, 4, none⟩ (.slice none 0 0)).setCell ⟨g, 5, none⟩ (.slice none 0 0))).heap[x]? = W1.heap[x]? from by
    rw [Below.heap_setCell _ _ _ x hne, Below.heap_setCell _ _ _ x hne, Below.heap_setCell _ _ _ x hne, Below.heap_setCell _ _ _ x hne, Below.heap_setCell _ _ _ x hne, Below.heap_setCell _ _ _ x hne])
  have RZ := Lib.hid ((hset _ hgn.1.symm).trans (blk_below R2.out hb (blk_lt R2.out)))
  have RP := Lib.hid ((hset _ hgn.2.symm).trans (blk_below R1.out hb (blk_lt R1.out)))
  have B1 : Hid (Below w.heap.size w (((((((W1.setCell ⟨g, 0, none⟩ (.int .i64 vv)).setCell ⟨g, 1, none⟩ (.int .i64 ob)).setCell ⟨g, 2, none⟩ (.int .i64 fi)).setCell ⟨g, 3, none⟩ (.slice none 0 0)).setCell ⟨g, 4, none⟩ (.slice none 0 0)).setCell ⟨g, 5, none⟩ (.slice none 0 0)))) := Lib.hid ((((((B0.out.trans (hb.mono B0.out.size)).setCell (p := ⟨g, 0, none⟩) hg3 _).setCell (p := ⟨g, 1, none⟩) hg3 _).setCell (p := ⟨g, 2, none⟩) hg3 _).setCell (p := ⟨g, 3, none⟩) hg3 _).setCell (p := ⟨g, 4, none⟩) hg3 _ |>.setCell (p := ⟨g, 5, none⟩) hg3 _)
  clear ho hset hG3 t5 t27 x0 x1 x2 x3 x4 x5 y0 y1 y2 y3 y4 y5 hb hfr hall hv3 R1 R2 B0 SW WV WO WF
  generalize ((((((W1.setCell ⟨g, 0, none⟩ (.int .i64 vv)).setCell ⟨g, 1, none⟩ (.int .i64 ob)).setCell ⟨g, 2, none⟩ (.int .i64 fi)).setCell ⟨g, 3, none⟩ (.slice none 0 0)).setCell ⟨g, 4, none⟩ (.slice none 0 0)).setCell ⟨g, 5, none⟩ (.slice none 0 0)) = W2 at *
  have RT2 : Hid (Rt p Af cf Ae ce Ao co w g vv ob fi (.slice none 0 0) (.slice none 0 0) (.slice none 0 0) W2) := Lib.hid ⟨RG.out, RZ.out, RP.out, B1.out, hg30⟩
  clear RG RZ RP B1 hg3 hgn
  have VARS := Lib.hid (fun A l c W hg hgl hA => fvars_any g vv A l c W HV.out.1 hg hgl hA)
  have ANS := Lib.hid (fun x W hg => answer_any g vv x W ⟨by have := HV.out.1; omega, HV.out.1.2⟩ hg)
  go_upto_block 0 with fail
  go_cut [] from 8 to 62 (fun wx => ∃ vr, Rt p Af cf Ae ce Ao co w g vv ob fi (vr) (.slice none 0 0) (.slice none 0 0) wx ∧ RowOwn elF w.heap.size w.heap.size 63 wx (vr) ((p.fs.take 8).map (rightF vv)))
  case first =>
    go_wp2_with fail
    go_loopw [8] (fun t wr => ∃ (i : Nat) (vr : Value), t = .int .i64 (i : Int) ∧ i ≤ p.fs.length ∧ i ≤ 8 ∧ Rt p Af cf Ae ce Ao co w g vv ob fi (vr) (.slice none 0 0) (.slice none 0 0) wr ∧ RowOwn elF w.heap.size w.heap.size 63 wr (vr) ((p.fs.take i).map (rightF vv))) (fun t _ => p.fs.length - (intOf t).toNat)
    case atStart => exact ⟨0, _, rfl, Nat.zero_le _, Nat.zero_le _, RT2.out, by rw [List.take_zero]; exact RowOwn.nil _ _ _ _⟩
    case round =>
      obtain ⟨i, vr, rfl, hil, hi8, hrt, hro⟩ := hrel
      have R2 := Lib.hid hrt
      have RO2 := Lib.hid hro
      have B2 := Lib.hid hrt.b
      clear hrt hro RT2
      obtain ⟨rp0, rp1, rp2, rp3, rp4, rp5⟩ := cells6 R2.out.p
      by_cases hin : i < p.fs.length ∧ i < 8
      · have hI : (i : Int) < (p.fs.length : Int) := by omega
        have hI4 : (i : Int) < 8 := by omega
        obtain ⟨b, off, hA, _, hbl, hc⟩ := HF.out (by omega)
        obtain ⟨v, c0, c1, il⟩ := hc i hin.1
        have D0 := Lib.hid ((B2.out.cell (p := ⟨b, off + i * 2, none⟩) hbl).trans c0)
        have D1 := Lib.hid ((B2.out.cell (p := ⟨b, off + i * 2 + 1, none⟩) hbl).trans c1)
        have HBL := Lib.hid (Nat.lt_of_lt_of_le hbl B2.out.size)
        have TK := Lib.hid (show (p.fs.take (i + 1)).map (rightF vv) = (p.fs.take i).map (rightF vv) ++ [rightF vv p.fs[i]] by rw [List.take_add_one, List.getElem?_eq_getElem hin.1, List.map_append]; rfl)
        generalize p.fs[i]'_ = x at *
        obtain ⟨A, c, rfl, hAt, hAn, hAc, hAm, hAl⟩ := il
        have AT := Lib.hid hAt
        obtain ⟨ps, hps, hown, hpx⟩ := RO2.out
        have PS := Lib.hid hps
        have PX := Lib.hid hpx
        have OW := Lib.hid hown
        have hpl : ps.length ≤ 8 := by rw [← List.length_map (f := Prod.snd), hps, List.length_map, List.length_take]; omega
        have PL := Lib.hid hpl
        have MW := Lib.hid B2.out.size
        subst hA
        clear hc c0 c1 hAt hAn hAc hAm hAl hps hpx hown hpl
        have hin' := Lib.hid hin
        clear hin
        go_upto_region 7 with fail
        clear rp0 rp1 rp2 rp3 rp4 rp5
        refine Gr.regionT 20 (fun i => i + 41) (by kernel_rfl) (by kernel_rfl) (Gr.spφ [.val (.pointer (some ⟨g, 3, none⟩)), .val (vr), .val (.func (.func 36) #[] #[.pointer (some ⟨g, 0, none⟩)]), .val (.pointer (some ⟨w.heap.size, 3, none⟩)), .val (.slice (some ⟨b, off, none⟩) p.fs.length cf), .val (.int .i64 (i : Int)), .val (.pointer (some ⟨b, off + i * 2, none⟩)), .val (.pointer (some ⟨b, off + i * 2, none⟩)), .val (.slice A x.ps.length c), .cls (OwnV w.heap.size (varsq vv x.ps)) (ownv_grow), .val (.func (.func 37) #[] #[.pointer (some ⟨g, 0, none⟩)]), .val (.pointer (some ⟨w.heap.size, 3, none⟩)), .val (.slice (some ⟨b, off, none⟩) p.fs.length cf), .val (.int .i64 (i : Int)), .val (.pointer (some ⟨b, off + i * 2, none⟩)), .val (.pointer (some ⟨b, off + i * 2 + 1, none⟩)), .val (.int .i64 x.ret), .val (.int .i64 (atq x.ret (vv + 1) - 1)), .cls (BldE elF w.heap.size (rightF vv x)) (blde_grow), .cls (SliE elF w.heap.size 63 (rightF vv x)) (slie_grow)]) (Gr.spφ_grow _) ?_ ?_
        · intro q o a W4 hi ho hb hfr hpre
          have t2 : a.tmps[2]?.getD undef = .pointer (some ⟨w.heap.size, 0, none⟩) := Gr.slot (hfr.f 2 (by intro j hj; omega))
          have t5 : a.tmps[5]?.getD undef = .pointer (some ⟨g, 0, none⟩) := Gr.slot (hfr.f 5 (by intro j hj; omega))
          have t6 : a.tmps[6]?.getD undef = .func (.func 36) #[] #[.pointer (some ⟨g, 0, none⟩)] := Gr.slot (hfr.f 6 (by intro j hj; omega))
          have t7 : a.tmps[7]?.getD undef = .func (.func 37) #[] #[.pointer (some ⟨g, 0, none⟩)] := Gr.slot (hfr.f 7 (by intro j hj; omega))
          have t8 : a.tmps[8]?.getD undef = .int .i64 (i : Int) := Gr.slot (hfr.f 8 (by intro j hj; omega))
          have RQ := R2.out.below hb
          have ge := (cells6 RQ.q).2.2.2.1
          have gv0 := (cells6 RQ.q).1
          have gGl := RQ.gl
          obtain ⟨k0, k1, k2, k3, k4, k5⟩ := cells6 RQ.p
          have c0 := (hb.cell (p := ⟨b, off + i * 2, none⟩) HBL.out).trans D0.out
          have c1 := (hb.cell (p := ⟨b, off + i * 2 + 1, none⟩) HBL.out).trans D1.out
          match q, hi with
            | 0, _ =>
              obtain rfl := Option.some.inj ho
              refine Gr.val (v := .pointer (some ⟨g, 3, none⟩)) (w' := W4) (by simp [go_sem, t5]) ⟨_, rfl, rfl, Below.refl _ _⟩
            | 1, _ =>
              have p41 : a.tmps[41]?.getD undef = .pointer (some ⟨g, 3, none⟩) := Gr.slot (hpre { on := 0, ground := .data } (by obtain rfl := Option.some.inj ho; simp) rfl (by decide))
              obtain rfl := Option.some.inj ho
              refine Gr.val (v := vr) (w' := W4) (by simp [go_sem, p41, ge]) ⟨_, rfl, rfl, Below.refl _ _⟩
            | 2, _ =>
              obtain rfl := Option.some.inj ho
              refine Gr.val (v := .func (.func 36) #[] #[.pointer (some ⟨g, 0, none⟩)]) (w' := W4) (by simp [go_sem, t6]) ⟨_, rfl, rfl, Below.refl _ _⟩
            | 3, _ =>
              obtain rfl := Option.some.inj ho
              refine Gr.val (v := .pointer (some ⟨w.heap.size, 3, none⟩)) (w' := W4) (by simp [go_sem, t2]) ⟨_, rfl, rfl, Below.refl _ _⟩
            | 4, _ =>
              have p44 : a.tmps[44]?.getD undef = .pointer (some ⟨w.heap.size, 3, none⟩) := Gr.slot (hpre { on := 3, ground := .data } (by obtain rfl := Option.some.inj ho; simp) rfl (by decide))
              obtain rfl := Option.some.inj ho
              refine Gr.val (v := .slice (some ⟨b, off, none⟩) p.fs.length cf) (w' := W4) (by simp [go_sem, p44, k3]) ⟨_, rfl, rfl, Below.refl _ _⟩
            | 5, _ =>
              obtain rfl := Option.some.inj ho
              refine Gr.val (v := .int .i64 (i : Int)) (w' := W4) (by simp [go_sem, t8]) ⟨_, rfl, rfl, Below.refl _ _⟩
            | 6, _ =>
              have p45 : a.tmps[45]?.getD undef = .slice (some ⟨b, off, none⟩) p.fs.length cf := Gr.slot (hpre { on := 4, ground := .data } (by obtain rfl := Option.some.inj ho; simp) rfl (by decide))
              have p46 : a.tmps[46]?.getD undef = .int .i64 (i : Int) := Gr.slot (hpre { on := 5, ground := .data } (by obtain rfl := Option.some.inj ho; simp) rfl (by decide))
              obtain rfl := Option.some.inj ho
              refine Gr.val (v := .pointer (some ⟨b, off + i * 2, none⟩)) (w' := W4) (by simp [go_sem, p45, p46, hI, Addr.add]) ⟨_, rfl, rfl, Below.refl _ _⟩
            | 7, _ =>
              have p47 : a.tmps[47]?.getD undef = .pointer (some ⟨b, off + i * 2, none⟩) := Gr.slot (hpre { on := 6, ground := .data } (by obtain rfl := Option.some.inj ho; simp) rfl (by decide))
              obtain rfl := Option.some.inj ho
              refine Gr.val (v := .pointer (some ⟨b, off + i * 2, none⟩)) (w' := W4) (by simp [go_sem, p47, Addr.add]) ⟨_, rfl, rfl, Below.refl _ _⟩
            | 8, _ =>
              have p48 : a.tmps[48]?.getD undef = .pointer (some ⟨b, off + i * 2, none⟩) := Gr.slot (hpre { on := 7, ground := .data } (by obtain rfl := Option.some.inj ho; simp) rfl (by decide))
              obtain rfl := Option.some.inj ho
              refine Gr.val (v := .slice A x.ps.length c) (w' := W4) (by simp [go_sem, p48, c0]) ⟨_, rfl, rfl, Below.refl _ _⟩
            | 9, _ =>
              have p43 : a.tmps[43]?.getD undef = .func (.func 36) #[] #[.pointer (some ⟨g, 0, none⟩)] := Gr.slot (hpre { on := 2, ground := .data } (by obtain rfl := Option.some.inj ho; simp) rfl (by decide))
              have p49 : a.tmps[49]?.getD undef = .slice A x.ps.length c := Gr.slot (hpre { on := 8, ground := .data } (by obtain rfl := Option.some.inj ho; simp) rfl (by decide))
              obtain rfl := Option.some.inj ho
              refine Gr.call (f := 36) (args := #[.slice A x.ps.length c, .pointer (some ⟨g, 0, none⟩)]) (by simp [go_sem, p43, p49]) ((VARS.out A x.ps c W4 gv0 gGl (AT.out.below (B2.out.trans (hb.mono B2.out.size)))).mono ?_)
              rintro e w' ⟨v, rfl, hown, hbl⟩
              exact ⟨_, rfl, v, rfl, own_lo hown (Nat.le_trans MW.out hb.size), hbl⟩
            | 10, _ =>
              obtain rfl := Option.some.inj ho
              refine Gr.val (v := .func (.func 37) #[] #[.pointer (some ⟨g, 0, none⟩)]) (w' := W4) (by simp [go_sem, t7]) ⟨_, rfl, rfl, Below.refl _ _⟩
            | 11, _ =>
              obtain rfl := Option.some.inj ho
              refine Gr.val (v := .pointer (some ⟨w.heap.size, 3, none⟩)) (w' := W4) (by simp [go_sem, t2]) ⟨_, rfl, rfl, Below.refl _ _⟩
            | 12, _ =>
              have p52 : a.tmps[52]?.getD undef = .pointer (some ⟨w.heap.size, 3, none⟩) := Gr.slot (hpre { on := 11, ground := .data } (by obtain rfl := Option.some.inj ho; simp) rfl (by decide))
              obtain rfl := Option.some.inj ho
              refine Gr.val (v := .slice (some ⟨b, off, none⟩) p.fs.length cf) (w' := W4) (by simp [go_sem, p52, k3]) ⟨_, rfl, rfl, Below.refl _ _⟩
            | 13, _ =>
              obtain rfl := Option.some.inj ho
              refine Gr.val (v := .int .i64 (i : Int)) (w' := W4) (by simp [go_sem, t8]) ⟨_, rfl, rfl, Below.refl _ _⟩
            | 14, _ =>
              have p53 : a.tmps[53]?.getD undef = .slice (some ⟨b, off, none⟩) p.fs.length cf := Gr.slot (hpre { on := 12, ground := .data } (by obtain rfl := Option.some.inj ho; simp) rfl (by decide))
              have p54 : a.tmps[54]?.getD undef = .int .i64 (i : Int) := Gr.slot (hpre { on := 13, ground := .data } (by obtain rfl := Option.some.inj ho; simp) rfl (by decide))
              obtain rfl := Option.some.inj ho
              refine Gr.val (v := .pointer (some ⟨b, off + i * 2, none⟩)) (w' := W4) (by simp [go_sem, p53, p54, hI, Addr.add]) ⟨_, rfl, rfl, Below.refl _ _⟩
            | 15, _ =>
              have p55 : a.tmps[55]?.getD undef = .pointer (some ⟨b, off + i * 2, none⟩) := Gr.slot (hpre { on := 14, ground := .data } (by obtain rfl := Option.some.inj ho; simp) rfl (by decide))
              obtain rfl := Option.some.inj ho
              refine Gr.val (v := .pointer (some ⟨b, off + i * 2 + 1, none⟩)) (w' := W4) (by simp [go_sem, p55, Addr.add]) ⟨_, rfl, rfl, Below.refl _ _⟩
            | 16, _ =>
              have p56 : a.tmps[56]?.getD undef = .pointer (some ⟨b, off + i * 2 + 1, none⟩) := Gr.slot (hpre { on := 15, ground := .data } (by obtain rfl := Option.some.inj ho; simp) rfl (by decide))
              obtain rfl := Option.some.inj ho
              refine Gr.val (v := .int .i64 x.ret) (w' := W4) (by simp [go_sem, p56, c1]) ⟨_, rfl, rfl, Below.refl _ _⟩
            | 17, _ =>
              have p51 : a.tmps[51]?.getD undef = .func (.func 37) #[] #[.pointer (some ⟨g, 0, none⟩)] := Gr.slot (hpre { on := 10, ground := .data } (by obtain rfl := Option.some.inj ho; simp) rfl (by decide))
              have p57 : a.tmps[57]?.getD undef = .int .i64 x.ret := Gr.slot (hpre { on := 16, ground := .data } (by obtain rfl := Option.some.inj ho; simp) rfl (by decide))
              obtain rfl := Option.some.inj ho
              refine Gr.call (f := 37) (args := #[.int .i64 x.ret, .pointer (some ⟨g, 0, none⟩)]) (by simp [go_sem, p51, p57]) ((ANS.out x.ret W4 gv0).mono ?_)
              rintro e w' ⟨rfl, rfl⟩
              exact ⟨_, rfl, _, rfl, rfl, Below.refl _ _⟩
            | 18, _ =>
              have q50 : (OwnV w.heap.size (varsq vv x.ps)) (a.eval (.tmp 50)) W4 := hpre { on := 9, ground := .data } (by obtain rfl := Option.some.inj ho; simp) rfl (by decide)
              have p58 : a.tmps[58]?.getD undef = .int .i64 (atq x.ret (vv + 1) - 1) := Gr.slot (hpre { on := 17, ground := .data } (by obtain rfl := Option.some.inj ho; simp) rfl (by decide))
              obtain ⟨A1, c1, hv, _, _⟩ := own_at q50
              have pq := Gr.slot hv
              have q' := q50
              rw [hv] at q'
              obtain rfl := Option.some.inj ho
              refine Gr.val (v := .agg #[.slice A1 (varsq vv x.ps).length c1, .int .i64 (atq x.ret (vv + 1) - 1)]) (w' := W4) (by simp [go_sem, p58, pq]) ⟨_, rfl, ⟨_, rfl, q'⟩, Below.refl _ _⟩
            | 19, _ =>
              have q59 : (BldE elF w.heap.size (rightF vv x)) (a.eval (.tmp 59)) W4 := hpre { on := 18, ground := .data } (by obtain rfl := Option.some.inj ho; simp) rfl (by decide)
              obtain ⟨y, hv, hy⟩ := q59
              have pq := Gr.slot hv
              obtain ⟨A1, c1, hya, _, _⟩ := own_at hy
              subst hya
              obtain rfl := Option.some.inj ho
              refine Gr.val (v := .slice (some ⟨W4.heap.size, 0, none⟩) 1 1) (w' := W4.alloc (.cells #[.slice A1 (elF.il (rightF vv x)).length c1, .int .i64 (atq x.ret (vv + 1) - 1)] 63)) (by simp [go_sem, pq, elF, fcs, rightF]) ⟨_, rfl, ⟨_, _, rfl, own_below hy (below1 _ _), heap_last _ _ _ rfl⟩, below1 _ _⟩
            | q + 20, h => omega
        intro o1 o2 o3 a W4 h1 h2 h3 hb hfr hall
        obtain ⟨gb, y, hvb, hoy, hgb⟩ : SliE elF w.heap.size 63 (rightF vv x) (a.eval (.tmp 60)) W4 := hall 19 (by omega)
        have hvr : a.eval (.tmp 42) = vr := hall 1 (by omega)
        have hds : a.tmps.size = 208 := hfr.s
        have R4 := Lib.hid (R2.out.below hb)
        have OW4 := Lib.hid (own_below OW.out hb)
        have MW4 := Lib.hid (Nat.le_trans MW.out hb.size)
        have KY4 := Lib.hid (KL.own hoy)
        have PX4 := Lib.hid (fun z hz => (show KL w.heap.size w.heap.size W4 z.1 (elF.il z.2) ∧ elF.ok z.2 from ⟨(PX.out z hz).1.below hb, (PX.out z hz).2⟩))
        obtain rfl := Option.some.inj h1
        obtain rfl := Option.some.inj h2
        obtain rfl := Option.some.inj h3
        refine Gr.of_step (ops := #[]) (E := False) rfl (step_append_lies _ rfl (.tmp 42) (.tmp 60) 22 rfl w.heap.size 63 iF _ 2 32 Try.underlying22 hiF hzF hsF hbF rfl (by decide) vr ps.length (flat elF ps) hvr OW4.out ⟨gb, 0, none⟩ 1 1 (elF.cs y (rightF vv x)) hvb (elF.len y (rightF vv x)) (fun j u hj => by rw [add_plain0]; exact (row_cell (cs := elF.cs y (rightF vv x)) hgb j).trans hj) (fun u hu => by obtain ⟨A1, c1, hya, _, _⟩ := own_at hoy; subst hya; simp [elF, fcs] at hu; rcases hu with rfl | rfl <;> rfl) (by decide) (by unfold maxLen; have := PL.out; omega) (by have := PL.out; omega) MW4.out W4.heap.size rfl ?_)
        intro gg cap W5 own5 grow5 lies5 lt5
        have R5 := Lib.hid (R4.out.grown OW4.out (Nat.le_refl _) (by decide) grow5)
        have RO5 := Lib.hid (RowOwn.snoc PS.out PX4.out KY4.out trivial OW4.out (by decide) own5 grow5)
        obtain ⟨z0, z1, z2, z3, z4, z5, u0, u1, u2, u3, u4, u5⟩ := row6 R5.out.q
        have t5 : a.tmps[5]?.getD undef = .pointer (some ⟨g, 0, none⟩) := Gr.slot (hfr.f 5 (by intro j hj; omega))
        refine Gr.val (a := a.put (some 61) (.slice (some ⟨gg, 0, none⟩) (ps.length + 1) cap)) (v := .pointer (some ⟨g, 3, none⟩)) (w' := W5) (by simp [go_sem, Act.put, t5]) ?_
        refine Gr.skip (a := ((a.put (some 61) (.slice (some ⟨gg, 0, none⟩) (ps.length + 1) cap)).put (some 62) (.pointer (some ⟨g, 3, none⟩)))) (w' := W5.setCell ⟨g, 3, none⟩ (.slice (some ⟨gg, 0, none⟩) (ps.length + 1) cap)) (by simp [go_sem, Act.put, hds, z3, u3]) rfl ?_
        have RO6 := Lib.hid (RO5.out.set (i := 3) (.slice (some ⟨gg, 0, none⟩) (ps.length + 1) cap) R5.out.q (by have := R5.out.n; omega) (by decide) (by decide))
        have R6 := Lib.hid (R5.out.set3 (.slice (some ⟨gg, 0, none⟩) (ps.length + 1) cap))
        generalize W5.setCell ⟨g, 3, none⟩ (.slice (some ⟨gg, 0, none⟩) (ps.length + 1) cap) = W6 at *
        have ev := fun (s : Nat) (h1 : s ≠ 61) (h2 : s ≠ 62) (h3 : ∀ j, j < 20 → j + 41 ≠ s) => (show ((a.put (some 61) (.slice (some ⟨gg, 0, none⟩) (ps.length + 1) cap)).put (some 62) (.pointer (some ⟨g, 3, none⟩))).eval (.tmp s) = a.eval (.tmp s) from by
          rw [Gr.eval_put _ (by simp [Act.put, hds]), if_neg (Ne.symm h2), Gr.eval_put _ (by rw [hds]; decide), if_neg (Ne.symm h1)]).trans (hfr.f s h3)
        have hd3 : ((a.put (some 61) (.slice (some ⟨gg, 0, none⟩) (ps.length + 1) cap)).put (some 62) (.pointer (some ⟨g, 3, none⟩))).defers = [] := hfr.d
        have hs3 : ((a.put (some 61) (.slice (some ⟨gg, 0, none⟩) (ps.length + 1) cap)).put (some 62) (.pointer (some ⟨g, 3, none⟩))).tmps.size = 208 := by simp [Act.put, hds]
        have v0 := ev 0 (by decide) (by decide) (by intro j hj; omega)
        have v1 := ev 1 (by decide) (by decide) (by intro j hj; omega)
        have v2 := ev 2 (by decide) (by decide) (by intro j hj; omega)
        have v3 := ev 3 (by decide) (by decide) (by intro j hj; omega)
        have v4 := ev 4 (by decide) (by decide) (by intro j hj; omega)
        have v5 := ev 5 (by decide) (by decide) (by intro j hj; omega)
        have v6 := ev 6 (by decide) (by decide) (by intro j hj; omega)
        have v7 := ev 7 (by decide) (by decide) (by intro j hj; omega)
        have v9 := ev 9 (by decide) (by decide) (by intro j hj; omega)
        have v10 := ev 10 (by decide) (by decide) (by intro j hj; omega)
        have v11 := ev 11 (by decide) (by decide) (by intro j hj; omega)
        have v12 := ev 12 (by decide) (by decide) (by intro j hj; omega)
        have v13 := ev 13 (by decide) (by decide) (by intro j hj; omega)
        have v14 := ev 14 (by decide) (by decide) (by intro j hj; omega)
        have v15 := ev 15 (by decide) (by decide) (by intro j hj; omega)
        have v16 := ev 16 (by decide) (by decide) (by intro j hj; omega)
        have v17 := ev 17 (by decide) (by decide) (by intro j hj; omega)
        have v18 := ev 18 (by decide) (by decide) (by intro j hj; omega)
        have v19 := ev 19 (by decide) (by decide) (by intro j hj; omega)
        have v20 := ev 20 (by decide) (by decide) (by intro j hj; omega)
        have v21 := ev 21 (by decide) (by decide) (by intro j hj; omega)
        have v22 := ev 22 (by decide) (by decide) (by intro j hj; omega)
        have v23 := ev 23 (by decide) (by decide) (by intro j hj; omega)
        have v24 := ev 24 (by decide) (by decide) (by intro j hj; omega)
        have v25 := ev 25 (by decide) (by decide) (by intro j hj; omega)
        have v26 := ev 26 (by decide) (by decide) (by intro j hj; omega)
        have v27 := ev 27 (by decide) (by decide) (by intro j hj; omega)
        have v28 := ev 28 (by decide) (by decide) (by intro j hj; omega)
        have v29 := ev 29 (by decide) (by decide) (by intro j hj; omega)
        have v63 := ev 63 (by decide) (by decide) (by intro j hj; omega)
        have v64 := ev 64 (by decide) (by decide) (by intro j hj; omega)
        have v65 := ev 65 (by decide) (by decide) (by intro j hj; omega)
        have v66 := ev 66 (by decide) (by decide) (by intro j hj; omega)
        have v67 := ev 67 (by decide) (by decide) (by intro j hj; omega)
        have v68 := ev 68 (by decide) (by decide) (by intro j hj; omega)
        have v69 := ev 69 (by decide) (by decide) (by intro j hj; omega)
        have v70 := ev 70 (by decide) (by decide) (by intro j hj; omega)
        have v71 := ev 71 (by decide) (by decide) (by intro j hj; omega)
        have v72 := ev 72 (by decide) (by decide) (by intro j hj; omega)
        have v73 := ev 73 (by decide) (by decide) (by intro j hj; omega)
        have v74 := ev 74 (by decide) (by decide) (by intro j hj; omega)
        have v75 := ev 75 (by decide) (by decide) (by intro j hj; omega)
        have v76 := ev 76 (by decide) (by decide) (by intro j hj; omega)
        have v77 := ev 77 (by decide) (by decide) (by intro j hj; omega)
        have v78 := ev 78 (by decide) (by decide) (by intro j hj; omega)
        have v79 := ev 79 (by decide) (by decide) (by intro j hj; omega)
        have v80 := ev 80 (by decide) (by decide) (by intro j hj; omega)
        have v81 := ev 81 (by decide) (by decide) (by intro j hj; omega)
        have v82 := ev 82 (by decide) (by decide) (by intro j hj; omega)
        have v83 := ev 83 (by decide) (by decide) (by intro j hj; omega)
        have v84 := ev 84 (by decide) (by decide) (by intro j hj; omega)
        have v85 := ev 85 (by decide) (by decide) (by intro j hj; omega)
        have v86 := ev 86 (by decide) (by decide) (by intro j hj; omega)
        have v87 := ev 87 (by decide) (by decide) (by intro j hj; omega)
        have v88 := ev 88 (by decide) (by decide) (by intro j hj; omega)
        have v89 := ev 89 (by decide) (by decide) (by intro j hj; omega)
        have v90 := ev 90 (by decide) (by decide) (by intro j hj; omega)
        have v91 := ev 91 (by decide) (by decide) (by intro j hj; omega)
        have v92 := ev 92 (by decide) (by decide) (by intro j hj; omega)
        have v93 := ev 93 (by decide) (by decide) (by intro j hj; omega)
        have v94 := ev 94 (by decide) (by decide) (by intro j hj; omega)
        have v95 := ev 95 (by decide) (by decide) (by intro j hj; omega)
        have v96 := ev 96 (by decide) (by decide) (by intro j hj; omega)
        have v97 := ev 97 (by decide) (by decide) (by intro j hj; omega)
        have v98 := ev 98 (by decide) (by decide) (by intro j hj; omega)
        have v99 := ev 99 (by decide) (by decide) (by intro j hj; omega)
        have v100 := ev 100 (by decide) (by decide) (by intro j hj; omega)
        have v101 := ev 101 (by decide) (by decide) (by intro j hj; omega)
        have v102 := ev 102 (by decide) (by decide) (by intro j hj; omega)
        have v103 := ev 103 (by decide) (by decide) (by intro j hj; omega)
        have v104 := ev 104 (by decide) (by decide) (by intro j hj; omega)
        have v105 := ev 105 (by decide) (by decide) (by intro j hj; omega)
        have v106 := ev 106 (by decide) (by decide) (by intro j hj; omega)
        have v107 := ev 107 (by decide) (by decide) (by intro j hj; omega)
        have v108 := ev 108 (by decide) (by decide) (by intro j hj; omega)
        have v109 := ev 109 (by decide) (by decide) (by intro j hj; omega)
        have v110 := ev 110 (by decide) (by decide) (by intro j hj; omega)
        have v111 := ev 111 (by decide) (by decide) (by intro j hj; omega)
        have v112 := ev 112 (by decide) (by decide) (by intro j hj; omega)
        have v113 := ev 113 (by decide) (by decide) (by intro j hj; omega)
        have v114 := ev 114 (by decide) (by decide) (by intro j hj; omega)
        have v115 := ev 115 (by decide) (by decide) (by intro j hj; omega)
        have v116 := ev 116 (by decide) (by decide) (by intro j hj; omega)
        have v117 := ev 117 (by decide) (by decide) (by intro j hj; omega)
        have v118 := ev 118 (by decide) (by decide) (by intro j hj; omega)
        have v119 := ev 119 (by decide) (by decide) (by intro j hj; omega)
        have v120 := ev 120 (by decide) (by decide) (by intro j hj; omega)
        have v121 := ev 121 (by decide) (by decide) (by intro j hj; omega)
        have v122 := ev 122 (by decide) (by decide) (by intro j hj; omega)
        have v123 := ev 123 (by decide) (by decide) (by intro j hj; omega)
        have v124 := ev 124 (by decide) (by decide) (by intro j hj; omega)
        have v125 := ev 125 (by decide) (by decide) (by intro j hj; omega)
        have v126 := ev 126 (by decide) (by decide) (by intro j hj; omega)
        have v127 := ev 127 (by decide) (by decide) (by intro j hj; omega)
        have v128 := ev 128 (by decide) (by decide) (by intro j hj; omega)
        have v129 := ev 129 (by decide) (by decide) (by intro j hj; omega)
        have v130 := ev 130 (by decide) (by decide) (by intro j hj; omega)
        have v131 := ev 131 (by decide) (by decide) (by intro j hj; omega)
        have v132 := ev 132 (by decide) (by decide) (by intro j hj; omega)
        have v133 := ev 133 (by decide) (by decide) (by intro j hj; omega)
        have v134 := ev 134 (by decide) (by decide) (by intro j hj; omega)
        have v135 := ev 135 (by decide) (by decide) (by intro j hj; omega)
        have v136 := ev 136 (by decide) (by decide) (by intro j hj; omega)
        have v137 := ev 137 (by decide) (by decide) (by intro j hj; omega)
        have v138 := ev 138 (by decide) (by decide) (by intro j hj; omega)
        have v139 := ev 139 (by decide) (by decide) (by intro j hj; omega)
        have v140 := ev 140 (by decide) (by decide) (by intro j hj; omega)
        have v141 := ev 141 (by decide) (by decide) (by intro j hj; omega)
        have v142 := ev 142 (by decide) (by decide) (by intro j hj; omega)
        have v143 := ev 143 (by decide) (by decide) (by intro j hj; omega)
        have v144 := ev 144 (by decide) (by decide) (by intro j hj; omega)
        have v145 := ev 145 (by decide) (by decide) (by intro j hj; omega)
        have v146 := ev 146 (by decide) (by decide) (by intro j hj; omega)
        have v147 := ev 147 (by decide) (by decide) (by intro j hj; omega)
        have v148 := ev 148 (by decide) (by decide) (by intro j hj; omega)
        have v149 := ev 149 (by decide) (by decide) (by intro j hj; omega)
        have v150 := ev 150 (by decide) (by decide) (by intro j hj; omega)
        have v151 := ev 151 (by decide) (by decide) (by intro j hj; omega)
        have v152 := ev 152 (by decide) (by decide) (by intro j hj; omega)
        have v153 := ev 153 (by decide) (by decide) (by intro j hj; omega)
        have v154 := ev 154 (by decide) (by decide) (by intro j hj; omega)
        have v155 := ev 155 (by decide) (by decide) (by intro j hj; omega)
        have v156 := ev 156 (by decide) (by decide) (by intro j hj; omega)
        have v157 := ev 157 (by decide) (by decide) (by intro j hj; omega)
        have v158 := ev 158 (by decide) (by decide) (by intro j hj; omega)
        have v159 := ev 159 (by decide) (by decide) (by intro j hj; omega)
        have v160 := ev 160 (by decide) (by decide) (by intro j hj; omega)
        have v161 := ev 161 (by decide) (by decide) (by intro j hj; omega)
        have v162 := ev 162 (by decide) (by decide) (by intro j hj; omega)
        have v163 := ev 163 (by decide) (by decide) (by intro j hj; omega)
        have v164 := ev 164 (by decide) (by decide) (by intro j hj; omega)
        have v165 := ev 165 (by decide) (by decide) (by intro j hj; omega)
        have v166 := ev 166 (by decide) (by decide) (by intro j hj; omega)
        have v167 := ev 167 (by decide) (by decide) (by intro j hj; omega)
        have v168 := ev 168 (by decide) (by decide) (by intro j hj; omega)
        have v169 := ev 169 (by decide) (by decide) (by intro j hj; omega)
        have v170 := ev 170 (by decide) (by decide) (by intro j hj; omega)
        have v171 := ev 171 (by decide) (by decide) (by intro j hj; omega)
        have v172 := ev 172 (by decide) (by decide) (by intro j hj; omega)
        have v173 := ev 173 (by decide) (by decide) (by intro j hj; omega)
        have v174 := ev 174 (by decide) (by decide) (by intro j hj; omega)
        have v175 := ev 175 (by decide) (by decide) (by intro j hj; omega)
        have v176 := ev 176 (by decide) (by decide) (by intro j hj; omega)
        have v177 := ev 177 (by decide) (by decide) (by intro j hj; omega)
        have v178 := ev 178 (by decide) (by decide) (by intro j hj; omega)
        have v179 := ev 179 (by decide) (by decide) (by intro j hj; omega)
        have v180 := ev 180 (by decide) (by decide) (by intro j hj; omega)
        have v181 := ev 181 (by decide) (by decide) (by intro j hj; omega)
        have v182 := ev 182 (by decide) (by decide) (by intro j hj; omega)
        have v183 := ev 183 (by decide) (by decide) (by intro j hj; omega)
        have v184 := ev 184 (by decide) (by decide) (by intro j hj; omega)
        have v185 := ev 185 (by decide) (by decide) (by intro j hj; omega)
        have v186 := ev 186 (by decide) (by decide) (by intro j hj; omega)
        have v187 := ev 187 (by decide) (by decide) (by intro j hj; omega)
        have v188 := ev 188 (by decide) (by decide) (by intro j hj; omega)
        have v189 := ev 189 (by decide) (by decide) (by intro j hj; omega)
        have v190 := ev 190 (by decide) (by decide) (by intro j hj; omega)
        have v191 := ev 191 (by decide) (by decide) (by intro j hj; omega)
        have v192 := ev 192 (by decide) (by decide) (by intro j hj; omega)
        have v193 := ev 193 (by decide) (by decide) (by intro j hj; omega)
        have v194 := ev 194 (by decide) (by decide) (by intro j hj; omega)
        have v195 := ev 195 (by decide) (by decide) (by intro j hj; omega)
        have v196 := ev 196 (by decide) (by decide) (by intro j hj; omega)
        have v197 := ev 197 (by decide) (by decide) (by intro j hj; omega)
        have v198 := ev 198 (by decide) (by decide) (by intro j hj; omega)
        have v199 := ev 199 (by decide) (by decide) (by intro j hj; omega)
        have v200 := ev 200 (by decide) (by decide) (by intro j hj; omega)
        have v201 := ev 201 (by decide) (by decide) (by intro j hj; omega)
        have v202 := ev 202 (by decide) (by decide) (by intro j hj; omega)
        have v203 := ev 203 (by decide) (by decide) (by intro j hj; omega)
        have v204 := ev 204 (by decide) (by decide) (by intro j hj; omega)
        have v205 := ev 205 (by decide) (by decide) (by intro j hj; omega)
        have v206 := ev 206 (by decide) (by decide) (by intro j hj; omega)
        have v207 := ev 207 (by decide) (by decide) (by intro j hj; omega)
        have v8 := ev 8 (by decide) (by decide) (by intro j hj; omega)
        clear ev hds t5 hfr hall hvb hvr hoy hgb own5 grow5 lies5 lt5 z0 z1 z2 z3 z4 z5 u0 u1 u2 u3 u4 u5 hb
        generalize (a.put (some 61) (.slice (some ⟨gg, 0, none⟩) (ps.length + 1) cap)).put (some 62) (.pointer (some ⟨g, 3, none⟩)) = a3 at *
        obtain ⟨n30, hn30⟩ : ∃ u, a3.tmps[30]?.getD undef = u := ⟨_, rfl⟩
        obtain ⟨n31, hn31⟩ : ∃ u, a3.tmps[31]?.getD undef = u := ⟨_, rfl⟩
        obtain ⟨n32, hn32⟩ : ∃ u, a3.tmps[32]?.getD undef = u := ⟨_, rfl⟩
        obtain ⟨n33, hn33⟩ : ∃ u, a3.tmps[33]?.getD undef = u := ⟨_, rfl⟩
        obtain ⟨n34, hn34⟩ : ∃ u, a3.tmps[34]?.getD undef = u := ⟨_, rfl⟩
        obtain ⟨n35, hn35⟩ : ∃ u, a3.tmps[35]?.getD undef = u := ⟨_, rfl⟩
        obtain ⟨n36, hn36⟩ : ∃ u, a3.tmps[36]?.getD undef = u := ⟨_, rfl⟩
        obtain ⟨n37, hn37⟩ : ∃ u, a3.tmps[37]?.getD undef = u := ⟨_, rfl⟩
        obtain ⟨n38, hn38⟩ : ∃ u, a3.tmps[38]?.getD undef = u := ⟨_, rfl⟩
        obtain ⟨n39, hn39⟩ : ∃ u, a3.tmps[39]?.getD undef = u := ⟨_, rfl⟩
        obtain ⟨n40, hn40⟩ : ∃ u, a3.tmps[40]?.getD undef = u := ⟨_, rfl⟩
        obtain ⟨n41, hn41⟩ : ∃ u, a3.tmps[41]?.getD undef = u := ⟨_, rfl⟩
        obtain ⟨n42, hn42⟩ : ∃ u, a3.tmps[42]?.getD undef = u := ⟨_, rfl⟩
        obtain ⟨n43, hn43⟩ : ∃ u, a3.tmps[43]?.getD undef = u := ⟨_, rfl⟩
        obtain ⟨n44, hn44⟩ : ∃ u, a3.tmps[44]?.getD undef = u := ⟨_, rfl⟩
        obtain ⟨n45, hn45⟩ : ∃ u, a3.tmps[45]?.getD undef = u := ⟨_, rfl⟩
        obtain ⟨n46, hn46⟩ : ∃ u, a3.tmps[46]?.getD undef = u := ⟨_, rfl⟩
        obtain ⟨n47, hn47⟩ : ∃ u, a3.tmps[47]?.getD undef = u := ⟨_, rfl⟩
        obtain ⟨n48, hn48⟩ : ∃ u, a3.tmps[48]?.getD undef = u := ⟨_, rfl⟩
        obtain ⟨n49, hn49⟩ : ∃ u, a3.tmps[49]?.getD undef = u := ⟨_, rfl⟩
        obtain ⟨n50, hn50⟩ : ∃ u, a3.tmps[50]?.getD undef = u := ⟨_, rfl⟩
        obtain ⟨n51, hn51⟩ : ∃ u, a3.tmps[51]?.getD undef = u := ⟨_, rfl⟩
        obtain ⟨n52, hn52⟩ : ∃ u, a3.tmps[52]?.getD undef = u := ⟨_, rfl⟩
        obtain ⟨n53, hn53⟩ : ∃ u, a3.tmps[53]?.getD undef = u := ⟨_, rfl⟩
        obtain ⟨n54, hn54⟩ : ∃ u, a3.tmps[54]?.getD undef = u := ⟨_, rfl⟩
        obtain ⟨n55, hn55⟩ : ∃ u, a3.tmps[55]?.getD undef = u := ⟨_, rfl⟩
        obtain ⟨n56, hn56⟩ : ∃ u, a3.tmps[56]?.getD undef = u := ⟨_, rfl⟩
        obtain ⟨n57, hn57⟩ : ∃ u, a3.tmps[57]?.getD undef = u := ⟨_, rfl⟩
        obtain ⟨n58, hn58⟩ : ∃ u, a3.tmps[58]?.getD undef = u := ⟨_, rfl⟩
        obtain ⟨n59, hn59⟩ : ∃ u, a3.tmps[59]?.getD undef = u := ⟨_, rfl⟩
        obtain ⟨n60, hn60⟩ : ∃ u, a3.tmps[60]?.getD undef = u := ⟨_, rfl⟩
        obtain ⟨n61, hn61⟩ : ∃ u, a3.tmps[61]?.getD undef = u := ⟨_, rfl⟩
        obtain ⟨n62, hn62⟩ : ∃ u, a3.tmps[62]?.getD undef = u := ⟨_, rfl⟩
        have hA : a3 = ⟨#[pv p (some ⟨b, off, none⟩) cf Ae ce Ao co, .int .i64 (k : Int), .pointer (some ⟨w.heap.size, 0, none⟩), undef, .pointer (some ⟨w.heap.size + 1, 0, none⟩), .pointer (some ⟨g, 0, none⟩), .func (.func 36) #[] #[.pointer (some ⟨g, 0, none⟩)], .func (.func 37) #[] #[.pointer (some ⟨g, 0, none⟩)], .int .i64 (i : Int), undef, undef, undef, undef, undef, undef, u15, u16, u17, u18, u19, u20, u21, u22, u23, u24, u25, u26, u27, .func (.func 36) #[] #[.pointer (some ⟨g, 0, none⟩)], .func (.func 37) #[] #[.pointer (some ⟨g, 0, none⟩)], n30, n31, n32, n33, n34, n35, n36, n37, n38, n39, n40, n41, n42, n43, n44, n45, n46, n47, n48, n49, n50, n51, n52, n53, n54, n55, n56, n57, n58, n59, n60, n61, n62, undef, undef, undef, undef, undef, undef, undef, undef, undef, undef, undef, undef, undef, undef, undef, undef, undef, undef, undef, undef, undef, undef, undef, undef, undef, undef, undef, undef, undef, undef, undef, undef, undef, undef, undef, undef, undef, undef, undef, undef, undef, undef, undef, undef, undef, undef, undef, undef, undef, undef, undef, undef, undef, undef, undef, undef, undef, undef, undef, undef, undef, undef, undef, undef, undef, undef, undef, undef, undef, undef, undef, undef, undef, undef, undef, undef, undef, undef, undef, undef, undef, undef, undef, undef, undef, undef, undef, undef, undef, undef, undef, undef, undef, undef, undef, undef, undef, undef, undef, undef, undef, undef, undef, undef, undef, undef, undef, undef, undef, undef, undef, undef, undef, undef, undef, undef, undef, undef, undef, undef, undef, undef, undef, undef, undef, undef, undef, undef, undef, undef, undef, undef, undef, undef, undef, undef, undef, undef, undef, undef, undef, undef, undef, undef, undef], []⟩ := Gr.act_eq (l := [pv p (some ⟨b, off, none⟩) cf Ae ce Ao co, .int .i64 (k : Int), .pointer (some ⟨w.heap.size, 0, none⟩), undef, .pointer (some ⟨w.heap.size + 1, 0, none⟩), .pointer (some ⟨g, 0, none⟩), .func (.func 36) #[] #[.pointer (some ⟨g, 0, none⟩)], .func (.func 37) #[] #[.pointer (some ⟨g, 0, none⟩)], .int .i64 (i : Int), undef, undef, undef, undef, undef, undef, u15, u16, u17, u18, u19, u20, u21, u22, u23, u24, u25, u26, u27, .func (.func 36) #[] #[.pointer (some ⟨g, 0, none⟩)], .func (.func 37) #[] #[.pointer (some ⟨g, 0, none⟩)], n30, n31, n32, n33, n34, n35, n36, n37, n38, n39, n40, n41, n42, n43, n44, n45, n46, n47, n48, n49, n50, n51, n52, n53, n54, n55, n56, n57, n58, n59, n60, n61, n62, undef, undef, undef, undef, undef, undef, undef, undef, undef, undef, undef, undef, undef, undef, undef, undef, undef, undef, undef, undef, undef, undef, undef, undef, undef, undef, undef, undef, undef, undef, undef, undef, undef, undef, undef, undef, undef, undef, undef, undef, undef, undef, undef, undef, undef, undef, undef, undef, undef, undef, undef, undef, undef, undef, undef, undef, undef, undef, undef, undef, undef, undef, undef, undef, undef, undef, undef, undef, undef, undef, undef, undef, undef, undef, undef, undef, undef, undef, undef, undef, undef, undef, undef, undef, undef, undef, undef, undef, undef, undef, undef, undef, undef, undef, undef, undef, undef, undef, undef, undef, undef, undef, undef, undef, undef, undef, undef, undef, undef, undef, undef, undef, undef, undef, undef, undef, undef, undef, undef, undef, undef, undef, undef, undef, undef, undef, undef, undef, undef, undef, undef, undef, undef, undef, undef, undef, undef, undef, undef, undef, undef, undef, undef, undef, undef]) hd3 hs3 (by
          intro i hi
          match i, hi with
          | 0, _ => exact Gr.slot v0
          | 1, _ => exact Gr.slot v1
          | 2, _ => exact Gr.slot v2
          | 3, _ => exact Gr.slot v3
          | 4, _ => exact Gr.slot v4
          | 5, _ => exact Gr.slot v5
          | 6, _ => exact Gr.slot v6
          | 7, _ => exact Gr.slot v7
          | 8, _ => exact Gr.slot v8
          | 9, _ => exact Gr.slot v9
          | 10, _ => exact Gr.slot v10
          | 11, _ => exact Gr.slot v11
          | 12, _ => exact Gr.slot v12
          | 13, _ => exact Gr.slot v13
          | 14, _ => exact Gr.slot v14
          | 15, _ => exact Gr.slot v15
          | 16, _ => exact Gr.slot v16
          | 17, _ => exact Gr.slot v17
          | 18, _ => exact Gr.slot v18
          | 19, _ => exact Gr.slot v19
          | 20, _ => exact Gr.slot v20
          | 21, _ => exact Gr.slot v21
          | 22, _ => exact Gr.slot v22
          | 23, _ => exact Gr.slot v23
          | 24, _ => exact Gr.slot v24
          | 25, _ => exact Gr.slot v25
          | 26, _ => exact Gr.slot v26
          | 27, _ => exact Gr.slot v27
          | 28, _ => exact Gr.slot v28
          | 29, _ => exact Gr.slot v29
          | 30, _ => exact hn30
          | 31, _ => exact hn31
          | 32, _ => exact hn32
          | 33, _ => exact hn33
          | 34, _ => exact hn34
          | 35, _ => exact hn35
          | 36, _ => exact hn36
          | 37, _ => exact hn37
          | 38, _ => exact hn38
          | 39, _ => exact hn39
          | 40, _ => exact hn40
          | 41, _ => exact hn41
          | 42, _ => exact hn42
          | 43, _ => exact hn43
          | 44, _ => exact hn44
          | 45, _ => exact hn45
          | 46, _ => exact hn46
          | 47, _ => exact hn47
          | 48, _ => exact hn48
          | 49, _ => exact hn49
          | 50, _ => exact hn50
          | 51, _ => exact hn51
          | 52, _ => exact hn52
          | 53, _ => exact hn53
          | 54, _ => exact hn54
          | 55, _ => exact hn55
          | 56, _ => exact hn56
          | 57, _ => exact hn57
          | 58, _ => exact hn58
          | 59, _ => exact hn59
          | 60, _ => exact hn60
          | 61, _ => exact hn61
          | 62, _ => exact hn62
          | 63, _ => exact Gr.slot v63
          | 64, _ => exact Gr.slot v64
          | 65, _ => exact Gr.slot v65
          | 66, _ => exact Gr.slot v66
          | 67, _ => exact Gr.slot v67
          | 68, _ => exact Gr.slot v68
          | 69, _ => exact Gr.slot v69
          | 70, _ => exact Gr.slot v70
          | 71, _ => exact Gr.slot v71
          | 72, _ => exact Gr.slot v72
          | 73, _ => exact Gr.slot v73
          | 74, _ => exact Gr.slot v74
          | 75, _ => exact Gr.slot v75
          | 76, _ => exact Gr.slot v76
          | 77, _ => exact Gr.slot v77
          | 78, _ => exact Gr.slot v78
          | 79, _ => exact Gr.slot v79
          | 80, _ => exact Gr.slot v80
          | 81, _ => exact Gr.slot v81
          | 82, _ => exact Gr.slot v82
          | 83, _ => exact Gr.slot v83
          | 84, _ => exact Gr.slot v84
          | 85, _ => exact Gr.slot v85
          | 86, _ => exact Gr.slot v86
          | 87, _ => exact Gr.slot v87
          | 88, _ => exact Gr.slot v88
          | 89, _ => exact Gr.slot v89
          | 90, _ => exact Gr.slot v90
          | 91, _ => exact Gr.slot v91
          | 92, _ => exact Gr.slot v92
          | 93, _ => exact Gr.slot v93
          | 94, _ => exact Gr.slot v94
          | 95, _ => exact Gr.slot v95
          | 96, _ => exact Gr.slot v96
          | 97, _ => exact Gr.slot v97
          | 98, _ => exact Gr.slot v98
          | 99, _ => exact Gr.slot v99
          | 100, _ => exact Gr.slot v100
          | 101, _ => exact Gr.slot v101
          | 102, _ => exact Gr.slot v102
          | 103, _ => exact Gr.slot v103
          | 104, _ => exact Gr.slot v104
          | 105, _ => exact Gr.slot v105
          | 106, _ => exact Gr.slot v106
          | 107, _ => exact Gr.slot v107
          | 108, _ => exact Gr.slot v108
          | 109, _ => exact Gr.slot v109
          | 110, _ => exact Gr.slot v110
          | 111, _ => exact Gr.slot v111
          | 112, _ => exact Gr.slot v112
          | 113, _ => exact Gr.slot v113
          | 114, _ => exact Gr.slot v114
          | 115, _ => exact Gr.slot v115
          | 116, _ => exact Gr.slot v116
          | 117, _ => exact Gr.slot v117
          | 118, _ => exact Gr.slot v118
          | 119, _ => exact Gr.slot v119
          | 120, _ => exact Gr.slot v120
          | 121, _ => exact Gr.slot v121
          | 122, _ => exact Gr.slot v122
          | 123, _ => exact Gr.slot v123
          | 124, _ => exact Gr.slot v124
          | 125, _ => exact Gr.slot v125
          | 126, _ => exact Gr.slot v126
          | 127, _ => exact Gr.slot v127
          | 128, _ => exact Gr.slot v128
          | 129, _ => exact Gr.slot v129
          | 130, _ => exact Gr.slot v130
          | 131, _ => exact Gr.slot v131
          | 132, _ => exact Gr.slot v132
          | 133, _ => exact Gr.slot v133
          | 134, _ => exact Gr.slot v134
          | 135, _ => exact Gr.slot v135
          | 136, _ => exact Gr.slot v136
          | 137, _ => exact Gr.slot v137
          | 138, _ => exact Gr.slot v138
          | 139, _ => exact Gr.slot v139
          | 140, _ => exact Gr.slot v140
          | 141, _ => exact Gr.slot v141
          | 142, _ => exact Gr.slot v142
          | 143, _ => exact Gr.slot v143
          | 144, _ => exact Gr.slot v144
          | 145, _ => exact Gr.slot v145
          | 146, _ => exact Gr.slot v146
          | 147, _ => exact Gr.slot v147
          | 148, _ => exact Gr.slot v148
          | 149, _ => exact Gr.slot v149
          | 150, _ => exact Gr.slot v150
          | 151, _ => exact Gr.slot v151
          | 152, _ => exact Gr.slot v152
          | 153, _ => exact Gr.slot v153
          | 154, _ => exact Gr.slot v154
          | 155, _ => exact Gr.slot v155
          | 156, _ => exact Gr.slot v156
          | 157, _ => exact Gr.slot v157
          | 158, _ => exact Gr.slot v158
          | 159, _ => exact Gr.slot v159
          | 160, _ => exact Gr.slot v160
          | 161, _ => exact Gr.slot v161
          | 162, _ => exact Gr.slot v162
          | 163, _ => exact Gr.slot v163
          | 164, _ => exact Gr.slot v164
          | 165, _ => exact Gr.slot v165
          | 166, _ => exact Gr.slot v166
          | 167, _ => exact Gr.slot v167
          | 168, _ => exact Gr.slot v168
          | 169, _ => exact Gr.slot v169
          | 170, _ => exact Gr.slot v170
          | 171, _ => exact Gr.slot v171
          | 172, _ => exact Gr.slot v172
          | 173, _ => exact Gr.slot v173
          | 174, _ => exact Gr.slot v174
          | 175, _ => exact Gr.slot v175
          | 176, _ => exact Gr.slot v176
          | 177, _ => exact Gr.slot v177
          | 178, _ => exact Gr.slot v178
          | 179, _ => exact Gr.slot v179
          | 180, _ => exact Gr.slot v180
          | 181, _ => exact Gr.slot v181
          | 182, _ => exact Gr.slot v182
          | 183, _ => exact Gr.slot v183
          | 184, _ => exact Gr.slot v184
          | 185, _ => exact Gr.slot v185
          | 186, _ => exact Gr.slot v186
          | 187, _ => exact Gr.slot v187
          | 188, _ => exact Gr.slot v188
          | 189, _ => exact Gr.slot v189
          | 190, _ => exact Gr.slot v190
          | 191, _ => exact Gr.slot v191
          | 192, _ => exact Gr.slot v192
          | 193, _ => exact Gr.slot v193
          | 194, _ => exact Gr.slot v194
          | 195, _ => exact Gr.slot v195
          | 196, _ => exact Gr.slot v196
          | 197, _ => exact Gr.slot v197
          | 198, _ => exact Gr.slot v198
          | 199, _ => exact Gr.slot v199
          | 200, _ => exact Gr.slot v200
          | 201, _ => exact Gr.slot v201
          | 202, _ => exact Gr.slot v202
          | 203, _ => exact Gr.slot v203
          | 204, _ => exact Gr.slot v204
          | 205, _ => exact Gr.slot v205
          | 206, _ => exact Gr.slot v206
          | 207, _ => exact Gr.slot v207
          | i + 208, h => simp only [List.length_cons, List.length_nil] at h; omega)
        clear hn30 hn31 hn32 hn33 hn34 hn35 hn36 hn37 hn38 hn39 hn40 hn41 hn42 hn43 hn44 hn45 hn46 hn47 hn48 hn49 hn50 hn51 hn52 hn53 hn54 hn55 hn56 hn57 hn58 hn59 hn60 hn61 hn62
        subst hA
        have HI1 : Hid (i + 1 ≤ p.fs.length ∧ i + 1 ≤ 8) := hin'.out
        go_wp2
        go_roundw
        case rel => exact ⟨i + 1, by go_num, HI1.out.1, HI1.out.2, _, R6.out, by rw [← List.map_take, TK.out]; exact RO6.out⟩
        case measure => simp [intOf]; omega
      · have hTK : (p.fs.take i).map (rightF vv) = (p.fs.take 8).map (rightF vv) := by
          congr 1
          by_cases h1 : i = 8
          · rw [h1]
          · rw [List.take_of_length_le (by omega), List.take_of_length_le (by omega)]
        have RO := Lib.hid (show RowOwn elF w.heap.size w.heap.size 63 wr (vr) ((p.fs.take 8).map (rightF vv)) from hTK ▸ RO2.out)
        have hcs : ((i : Int) < (p.fs.length : Int) ∧ ¬ (i : Int) < 8) ∨ ¬ (i : Int) < (p.fs.length : Int) := by omega
        clear hin hTK RO2
        rcases hcs with ⟨hc1, hc2⟩ | hc1
        all_goals
          go_wp2
          go_meet
          case rel => exact ⟨vr, R2.out, RO.out⟩
  case rest =>
    generalize wc = W3 at *
    obtain ⟨vr3, hrt, hro⟩ := hcut
    have R3 := Lib.hid hrt
    have RO3 := Lib.hid hro
    obtain ⟨A8, c8, hv8, _, _, _, _⟩ := hro.at (Nat.le_refl _)
    obtain ⟨n8, hn8⟩ : ∃ n, ((p.fs.take 8).map (rightF vv)).length = n := ⟨_, rfl⟩
    rw [hn8] at hv8
    have N8 := Lib.hid hn8
    subst hv8
    clear hrt hro hn8 RT2
    obtain ⟨x0, x1, x2, x3, x4, x5, y0, y1, y2, y3, y4, y5⟩ := row6 R3.out.q
    go_upto_if 66 with fail
    go_cut [] from 8 to 69 (fun wx => ∃ vF, Rt p Af cf Ae ce Ao co w g vv ob fi (vF) (.slice none 0 0) (.slice none 0 0) wx ∧ RowOwn elF w.heap.size w.heap.size 63 wx (vF) (rightFs vv p.fs))
    case first =>
      by_cases hne : p.fs = []
      · have h0 : n8 = 0 := by rw [← N8.out, hne]; rfl
        subst h0
        have HR := Lib.hid (show rightFs vv p.fs = [⟨[], -1⟩] by unfold rightFs; rw [if_pos hne])
        have R4 := Lib.hid (R3.out.below (below1 _ (.cells #[.slice none 0 0, .int .i64 (-1)] 63)))
        have OWL := Lib.hid (lit1 W3 (M := w.heap.size) [.slice none 0 0, .int .i64 (-1)] 63 2 rfl (by decide) R3.out.b.size)
        obtain ⟨z0, z1, z2, z3, z4, z5, y0, y1, y2, y3, y4, y5⟩ := row6 R4.out.q
        clear hne
        go_wp2
        go_meet
        case rel => exact ⟨_, R4.out.set3 _, by rw [HR.out]; exact RowOwn.set (show RowOwn elF w.heap.size w.heap.size 63 _ (_) (_) from ⟨[(.slice none 0 0, ⟨[], -1⟩)], rfl, OWL.out, fun x hx => by rw [List.mem_singleton] at hx; subst hx; exact ⟨KL.nil _ _ _, trivial⟩⟩) _ R4.out.q (by have := R4.out.n; omega) (by decide) (by decide)⟩
      · have HR := Lib.hid (show rightFs vv p.fs = (p.fs.take 8).map (rightF vv) by unfold rightFs; rw [if_neg hne])
        have h0 : ¬ n8 = 0 := by
          rw [← N8.out, List.length_map, List.length_take]
          have := List.length_pos_iff.mpr hne
          omega
        have h0' : ((n8 : Int) == 0) = false := by rw [beq_eq_false_iff_ne]; omega
        clear hne
        go_wp2
        go_meet
        case rel => exact ⟨_, R3.out, by rw [HR.out]; exact RO3.out⟩
    case rest =>
      generalize wc = W4 at *
      obtain ⟨vF, hrt, hro⟩ := hcut
      obtain ⟨Bf, df, hvF, _, _, _, _⟩ := hro.at (Nat.le_refl _)
      have HN8 := rightFs_len vv p.fs
      obtain ⟨nF, hnF⟩ : ∃ n, (rightFs vv p.fs).length = n := ⟨_, rfl⟩
      rw [hnF] at hvF HN8
      subst hvF
      have HNF := Lib.hid (⟨hnF, HN8⟩ : (rightFs vv p.fs).length = nF ∧ 1 ≤ nF ∧ nF ≤ 8)
      have R4 := Lib.hid hrt
      have RF4 := Lib.hid hro
      have AT4 := Lib.hid (fun x W => at_any x (nF : Int) W ⟨by omega, by omega⟩)
      clear hrt hro HN8 hnF R3 RO3 N8 x0 x1 x2 x3 x4 x5 y0 y1 y2 y3 y4 y5
      obtain ⟨x0, x1, x2, x3, x4, x5, y0, y1, y2, y3, y4, y5⟩ := row6 R4.out.q
      go_upto_block 2 with fail
      go_cut [] from 8 to 115 (fun wx => ∃ ve, Rt p Af cf Ae ce Ao co w g vv ob fi (.slice Bf nF df) (ve) (.slice none 0 0) wx ∧ Ex g W4 wx ∧ wx.ownsRow W4.heap.size 3 1 ve (ents nF p.en nF).length ((ents nF p.en nF).map vInt))
      case first =>
        go_wp2_with fail
        go_loopw [73] (fun t wr => ∃ (f : Nat) (ve : Value), t = .int .i64 (f : Int) ∧ f ≤ nF ∧ Rt p Af cf Ae ce Ao co w g vv ob fi (.slice Bf nF df) (ve) (.slice none 0 0) wr ∧ Ex g W4 wr ∧ wr.ownsRow W4.heap.size 3 1 ve (ents nF p.en f).length ((ents nF p.en f).map vInt)) (fun t _ => nF - (intOf t).toNat)
        case atStart => exact ⟨0, _, rfl, Nat.zero_le _, R4.out, Ex.refl _ _, World.ownsRow_nil _ _ _ _⟩
        case round =>
          obtain ⟨f, ve, rfl, hfl, hrt, hex, hoe⟩ := hrel
          have R5 := Lib.hid hrt
          have X5 := Lib.hid hex
          have O5 := Lib.hid hoe
          clear hrt hex hoe
          obtain ⟨rp0, rp1, rp2, rp3, rp4, rp5⟩ := cells6 R5.out.p
          by_cases hf : f < nF
          · have hFI : (f : Int) < (nF : Int) := by omega
            have HF1 := Lib.hid (show f + 1 ≤ nF from hf)
            go_wp2
            go_loopw [79] (fun t wr' => ∃ (j : Nat) (ve' : Value), t = .int .i64 (j : Int) ∧ j ≤ p.en.length ∧ Rt p Af cf Ae ce Ao co w g vv ob fi (.slice Bf nF df) (ve') (.slice none 0 0) wr' ∧ Ex g W4 wr' ∧ wr'.ownsRow W4.heap.size 3 1 ve' (entq nF p.en f j).length ((entq nF p.en f j).map vInt)) (fun t _ => p.en.length - (intOf t).toNat)
            case atStart => exact ⟨0, _, rfl, Nat.zero_le _, R5.out, X5.out, by rw [entq_zero]; exact O5.out⟩
            case round =>
              obtain ⟨j, ve', rfl, hjl, hrt, hex, hoe⟩ := hrel
              have R6 := Lib.hid hrt
              have X6 := Lib.hid hex
              have O6 := Lib.hid hoe
              clear hrt hex hoe R5 X5 O5 rp0 rp1 rp2 rp3 rp4 rp5
              obtain ⟨rp0, rp1, rp2, rp3, rp4, rp5⟩ := cells6 R6.out.p
              have HL6 := Lib.hid (entq_len nF p.en f j)
              by_cases hj : j < p.en.length
              · have hJ : (j : Int) < (p.en.length : Int) := by omega
                obtain ⟨b, off, hA, hbl, hc⟩ := HE.out (by omega)
                have c0 := (R6.out.b.cell (p := ⟨b, off + j, none⟩) hbl).trans (hc j hj)
                have STA := fun h => entq_no nF p.en f j hj h
                have STB := fun h => entq_old nF p.en f j hj h
                have STC := fun h1 h2 => entq_new nF p.en f j hj h1 h2
                have HJ := Lib.hid (show j + 1 ≤ p.en.length from hj)
                generalize p.en[j]'_ = x at *
                subst hA
                have CA := Lib.hid (AT4.out x)
                obtain ⟨Ae6, ce6, hve, hAt6, _, _⟩ := own_at O6.out
                subst hve
                obtain ⟨n6, hn6⟩ : ∃ n, (entq nF p.en f j).length = n := ⟨_, rfl⟩
                rw [hn6] at O6 R6 HL6
                have N6 := Lib.hid hn6
                have LN := Lib.hid HNF.out.2.2
                obtain ⟨rq0, rq1, rq2, rq3, rq4, rq5, rz0, rz1, rz2, rz3, rz4, rz5⟩ := row6 R6.out.q
                clear hc hbl
                generalize hr : atq x (nF : Int) = r at *
                by_cases ha : r = (f : Int)
                · cases hh : hits nF (p.en.take j) f with
                  | true =>
                    obtain ⟨e1, k6, e2, e3⟩ := STB hh
                    have HS := Lib.hid e1
                    obtain ⟨b6, off6, hA6, hb6, hc6⟩ := hAt6 (by omega)
                    subst hA6
                    have cc := hc6 k6 (by omega)
                    rw [show (entq nF p.en f j)[k6]'(by omega) = (f : Int) from by have := List.getElem?_eq_getElem (l := entq nF p.en f j) (i := k6) (by omega); rw [e3] at this; exact (Option.some.inj this).symm] at cc
                    have cz : _ = some (Value.int .i64 (f : Int)) := cc
                    rw [hn6] at e2
                    have hI1 : IntKind.i64.wrap ((n6 : Int) - 1) = (k6 : Int) := by
                      rw [show (n6 : Int) - 1 = (k6 : Int) by omega]; exact IntWalk.i64_in _ (by have := HL6.out; have := LN.out; omega)
                    have hk6 : (k6 : Int) < (n6 : Int) := by omega
                    have hz6 : ((n6 : Int) == 0) = false := by rw [beq_eq_false_iff_ne]; omega
                    subst ha
                    clear STA STB STC hh e1 e2 e3 hc6 cc hb6 hAt6 hn6 hr
                    go_wp2_with (go_at_call 35; ((with_reducible refine (CA.out _).mono ?_); rintro e w2 ⟨rfl, rfl⟩))
                    have hj1 := HJ.out
                    go_roundw
                    case rel => exact ⟨j + 1, _, by go_num, HJ.out, R6.out, X6.out, by rw [HS.out, N6.out]; exact O6.out⟩
                    case measure => simp [intOf]; have := HJ.out; omega
                  | false =>
                    obtain ⟨e1, e2, e3⟩ := STC ha hh
                    have HS := Lib.hid e1
                    have hcs : n6 = 0 ∨ ∃ (k6 b6 off6 : Nat) (y : Int), Ae6 = some ⟨b6, off6, none⟩ ∧ n6 = k6 + 1 ∧ y < (f : Int) ∧ wr.cell? ⟨b6, off6 + k6, none⟩ = some (.int .i64 y) := by
                      rcases Nat.eq_zero_or_pos n6 with h0 | h0
                      · exact .inl h0
                      · obtain ⟨b6, off6, hA6, hb6, hc6⟩ := hAt6 (by omega)
                        have hlt : n6 - 1 < (entq nF p.en f j).length := by omega
                        exact .inr ⟨n6 - 1, b6, off6, (entq nF p.en f j)[n6 - 1], hA6, by omega, e3 (n6 - 1) _ (List.getElem?_eq_getElem hlt), hc6 (n6 - 1) hlt⟩
                    clear STA STB STC hh e1 e2 e3 hAt6 hn6 hr
                    subst ha
                    rcases hcs with h0 | ⟨k6, b6, off6, y, hA6, e2, hy, cz⟩
                    · have hz6 : ((n6 : Int) == 0) = true := by rw [h0]; rfl
                      clear h0
                      go_upto_region 17 with (go_at_call 35; ((with_reducible refine (CA.out _).mono ?_); rintro e w2 ⟨rfl, rfl⟩))
                      go_wp2_with (at_builtin; refine wpList_append_own _ rfl _ _ 23 rfl W4.heap.size 3 i8 _ 1 8 Try.underlying23 hi8 hz8 hs8 hb8 rfl (by decide) _ _ _ rfl (O6.out.alloc _) ⟨wr.heap.size, 0, none⟩ 1 1 [.int .i64 (f : Int)] rfl rfl (cell_one_new _ _ _) (one_int _) (by unfold maxLen; have := HL6.out; have := LN.out; omega) (by have := HL6.out; have := LN.out; omega) (by have := X6.out.1; simp; omega) ?_)
                      intro v5 W5 own5 grow5 _
                      have al6 := below1 wr (.cells #[.int .i64 (f : Int)] 3)
                      have R7 := Lib.hid ((R6.out.below al6).grown (O6.out.alloc _) (Nat.le_trans R4.out.b.size (Nat.le_refl _)) (by decide) grow5)
                      have X7 := Lib.hid ((X6.out.below al6).grown (O6.out.alloc _) (Nat.le_refl _) grow5)
                      have O7 := Lib.hid own5
                      obtain ⟨A5, c5, hv5⟩ := own_form own5
                      subst hv5
                      clear own5 grow5 al6 rq0 rq1 rq2 rq3 rq4 rq5 rz0 rz1 rz2 rz3 rz4 rz5
                      obtain ⟨rq0, rq1, rq2, rq3, rq4, rq5, rz0, rz1, rz2, rz3, rz4, rz5⟩ := row6 R7.out.q
                      go_upto_region 18 with fail
                      have R8 := Lib.hid (R7.out.set4 (.slice A5 (n6 + 1) c5))
                      have X8 := Lib.hid (X7.out.set 4 (.slice A5 (n6 + 1) c5))
                      have O8 := Lib.hid (ownsRow_setCell_other O7.out (a := ⟨g, 4, none⟩) (fun q => own_ty O7.out R7.out.q (by decide) q) (.slice A5 (n6 + 1) c5))
                      generalize W5.setCell ⟨g, 4, none⟩ (.slice A5 (n6 + 1) c5) = W6 at *
                      go_wp2
                      have hj1 := HJ.out
                      go_roundw
                      case rel => exact ⟨j + 1, _, by go_num, HJ.out, R8.out, X8.out, by rw [HS.out, List.length_append, N6.out, List.map_append]; exact O8.out⟩
                      case measure => simp [intOf]; have := HJ.out; omega
                    · subst hA6
                      have hI1 : IntKind.i64.wrap ((n6 : Int) - 1) = (k6 : Int) := by
                        rw [show (n6 : Int) - 1 = (k6 : Int) by omega]; exact IntWalk.i64_in _ (by have := HL6.out; have := LN.out; omega)
                      have hk6 : (k6 : Int) < (n6 : Int) := by omega
                      have hz6 : ((n6 : Int) == 0) = false := by rw [beq_eq_false_iff_ne]; omega
                      clear e2
                      go_upto_region 17 with (go_at_call 35; ((with_reducible refine (CA.out _).mono ?_); rintro e w2 ⟨rfl, rfl⟩))
                      go_wp2_with (at_builtin; refine wpList_append_own _ rfl _ _ 23 rfl W4.heap.size 3 i8 _ 1 8 Try.underlying23 hi8 hz8 hs8 hb8 rfl (by decide) _ _ _ rfl (O6.out.alloc _) ⟨wr.heap.size, 0, none⟩ 1 1 [.int .i64 (f : Int)] rfl rfl (cell_one_new _ _ _) (one_int _) (by unfold maxLen; have := HL6.out; have := LN.out; omega) (by have := HL6.out; have := LN.out; omega) (by have := X6.out.1; simp; omega) ?_)
                      intro v5 W5 own5 grow5 _
                      have al6 := below1 wr (.cells #[.int .i64 (f : Int)] 3)
                      have R7 := Lib.hid ((R6.out.below al6).grown (O6.out.alloc _) (Nat.le_trans R4.out.b.size (Nat.le_refl _)) (by decide) grow5)
                      have X7 := Lib.hid ((X6.out.below al6).grown (O6.out.alloc _) (Nat.le_refl _) grow5)
                      have O7 := Lib.hid own5
                      obtain ⟨A5, c5, hv5⟩ := own_form own5
                      subst hv5
                      clear own5 grow5 al6 rq0 rq1 rq2 rq3 rq4 rq5 rz0 rz1 rz2 rz3 rz4 rz5
                      obtain ⟨rq0, rq1, rq2, rq3, rq4, rq5, rz0, rz1, rz2, rz3, rz4, rz5⟩ := row6 R7.out.q
                      go_upto_region 18 with fail
                      have R8 := Lib.hid (R7.out.set4 (.slice A5 (n6 + 1) c5))
                      have X8 := Lib.hid (X7.out.set 4 (.slice A5 (n6 + 1) c5))
                      have O8 := Lib.hid (ownsRow_setCell_other O7.out (a := ⟨g, 4, none⟩) (fun q => own_ty O7.out R7.out.q (by decide) q) (.slice A5 (n6 + 1) c5))
                      generalize W5.setCell ⟨g, 4, none⟩ (.slice A5 (n6 + 1) c5) = W6 at *
                      go_wp2
                      have hj1 := HJ.out
                      go_roundw
                      case rel => exact ⟨j + 1, _, by go_num, HJ.out, R8.out, X8.out, by rw [HS.out, List.length_append, N6.out, List.map_append]; exact O8.out⟩
                      case measure => simp [intOf]; have := HJ.out; omega
                · have HS := Lib.hid (STA ha)
                  have ha' : (r == (f : Int)) = false := beq_eq_false_iff_ne.2 ha
                  clear STA STB STC hAt6 hr hn6
                  go_wp2_with (go_at_call 35; ((with_reducible refine (CA.out _).mono ?_); rintro e w2 ⟨rfl, rfl⟩))
                  have hj1 := HJ.out
                  go_roundw
                  case rel => exact ⟨j + 1, _, by go_num, HJ.out, R6.out, X6.out, by rw [HS.out, N6.out]; exact O6.out⟩
                  case measure => simp [intOf]; have := HJ.out; omega
              · obtain rfl : j = p.en.length := by omega
                rw [entq_end] at O6
                have hf1 := HF1.out
                have hn8 := HNF.out.2.2
                go_wp2
                go_roundw
                case rel => exact ⟨f + 1, _, by go_num, HF1.out, R6.out, X6.out, O6.out⟩
                case measure => simp [intOf]; have := HF1.out; omega
          · obtain rfl : f = nF := by omega
            go_wp2
            go_meet
            case rel => exact ⟨ve, R5.out, X5.out, O5.out⟩
      case rest =>
        generalize wc = W5 at *
        obtain ⟨ve, hrt, hex, hoe⟩ := hcut
        have RF5 := Lib.hid (hex.row RF4.out R4.out.q (by have := R4.out.n; omega) (by decide) (by decide))
        have hoe' := own_lo hoe R4.out.b.size
        have hke := KL.own hoe'
        obtain ⟨Be, de, hve⟩ := own_form hoe'
        obtain ⟨nE, hnE⟩ : ∃ n, (ents nF p.en nF).length = n := ⟨_, rfl⟩
        rw [hnE] at hve
        subst hve
        have HNE := Lib.hid (show (rightE nF p.en).length = nE from hnE)
        have R5 := Lib.hid hrt
        have KE5 : Hid (KL w.heap.size w.heap.size W5 (.slice Be nE de) (rightE nF p.en)) := Lib.hid hke
        have ATV := Lib.hid (fun x W => at_any x vv W ⟨HV.out.1.1, by have := HV.out.1.2; omega⟩)
        have ATO := Lib.hid (fun x W => at_any x ob W ⟨HV.out.2.1.1, by have := HV.out.2.1.2; omega⟩)
        have ATF := Lib.hid (fun x W => at_any x fi W ⟨HV.out.2.2.1, by have := HV.out.2.2.2; omega⟩)
        clear hrt hex hoe hoe' hke hnE RF4 R4 x0 x1 x2 x3 x4 x5 y0 y1 y2 y3 y4 y5
        go_upto_block 6 with fail
        go_cut [] from 8 to 206 (fun wx => ∃ vO, Rt p Af cf Ae ce Ao co w g vv ob fi (.slice Bf nF df) (.slice Be nE de) (vO) wx ∧ RowOwn elO w.heap.size w.heap.size 64 wx (vO) ((p.ops.take k).map (rightO vv ob fi nF)) ∧ RowOwn elF w.heap.size w.heap.size 63 wx (.slice Bf nF df) (rightFs vv p.fs) ∧ KL w.heap.size w.heap.size wx (.slice Be nE de) (rightE nF p.en))
        case first =>
          go_wp2_with fail
          go_loopw [12] (fun t wr => ∃ (i : Nat) (vr : Value), t = .int .i64 (i : Int) ∧ i ≤ p.ops.length ∧ i ≤ k ∧ Rt p Af cf Ae ce Ao co w g vv ob fi (.slice Bf nF df) (.slice Be nE de) (vr) wr ∧ RowOwn elO w.heap.size w.heap.size 64 wr (vr) ((p.ops.take i).map (rightO vv ob fi nF)) ∧ RowOwn elF w.heap.size w.heap.size 63 wr (.slice Bf nF df) (rightFs vv p.fs) ∧ KL w.heap.size w.heap.size wr (.slice Be nE de) (rightE nF p.en)) (fun t _ => p.ops.length - (intOf t).toNat)
          case atStart => exact ⟨0, _, rfl, Nat.zero_le _, Nat.zero_le _, R5.out, by rw [List.take_zero]; exact RowOwn.nil _ _ _ _, RF5.out, KE5.out⟩
          case round =>
            obtain ⟨i, vr, rfl, hil, hik, hrt, hro, hrf, hke⟩ := hrel
            have R6 := Lib.hid hrt
            have RO6 := Lib.hid hro
            have RF6 := Lib.hid hrf
            have KE6 := Lib.hid hke
            clear hrt hro hrf hke R5 RF5 KE5
            obtain ⟨rp0, rp1, rp2, rp3, rp4, rp5⟩ := cells6 R6.out.p
            by_cases hin : i < p.ops.length ∧ i < k
            · have hI : (i : Int) < (p.ops.length : Int) := by omega
              have hI4 : (i : Int) < (k : Int) := by omega
              obtain ⟨b, off, hA, _, hbl, hc⟩ := HO.out (by omega)
              obtain ⟨v, c0, c1, c2, c3, c4, c5, c6, il, hh⟩ := hc i hin.1
              have c0 := (R6.out.b.cell (p := ⟨b, off + i * 7, none⟩) hbl).trans c0
              have c1 := (R6.out.b.cell (p := ⟨b, off + i * 7 + 1, none⟩) hbl).trans c1
              have c2 := (R6.out.b.cell (p := ⟨b, off + i * 7 + 2, none⟩) hbl).trans c2
              have c3 := (R6.out.b.cell (p := ⟨b, off + i * 7 + 3, none⟩) hbl).trans c3
              have c4 := (R6.out.b.cell (p := ⟨b, off + i * 7 + 4, none⟩) hbl).trans c4
              have c5 := (R6.out.b.cell (p := ⟨b, off + i * 7 + 5, none⟩) hbl).trans c5
              have c6 := (R6.out.b.cell (p := ⟨b, off + i * 7 + 6, none⟩) hbl).trans c6
              have TK := Lib.hid (show (p.ops.take (i + 1)).map (rightO vv ob fi nF) = (p.ops.take i).map (rightO vv ob fi nF) ++ [rightO vv ob fi nF p.ops[i]] by rw [List.take_add_one, List.getElem?_eq_getElem hin.1, List.map_append]; rfl)
              have HH := Lib.hid hh
              generalize p.ops[i]'_ = x at *
              obtain ⟨A, c, rfl, hAt, hAn, hAc, hAm, hAl⟩ := il
              have AT6 := Lib.hid (hAt.below R6.out.b)
              have hin' := Lib.hid hin
              subst hA
              have bX := below1 wr (.cells #[.int .i64 x.kind, .int .i64 x.fn, .int .i64 x.a, .int .i64 x.b, .int .i64 x.c, .slice A x.args.length c, .float .f64 x.heat] 64)
              have BX := Lib.hid bX
              have RX := Lib.hid (heap_last wr (.cells #[.int .i64 x.kind, .int .i64 x.fn, .int .i64 x.a, .int .i64 x.b, .int .i64 x.c, .slice A x.args.length c, .float .f64 x.heat] 64) wr.heap.size rfl)
              have GS := Lib.hid (show wr.heap.size + 1 ≤ (wr.alloc (.cells #[.int .i64 x.kind, .int .i64 x.fn, .int .i64 x.a, .int .i64 x.b, .int .i64 x.c, .slice A x.args.length c, .float .f64 x.heat] 64)).heap.size by simp)
              clear hc hAt hAn hAc hAm hAl hin bX hh
              go_upto_region 24 with fail
              generalize hW3 : wr.alloc (.cells #[.int .i64 x.kind, .int .i64 x.fn, .int .i64 x.a, .int .i64 x.b, .int .i64 x.c, .slice A x.args.length c, .float .f64 x.heat] 64) = Wa at *
              generalize hGX : wr.heap.size = gx at *
              have GX := Lib.hid hGX
              clear hGX hW3 c0 c1 c2 c3 c4 c5 c6 rp0 rp1 rp2 rp3 rp4 rp5
              refine Gr.region 24 (fun i => if i < 23 then i + 133 else 14) (by kernel_rfl) (by kernel_rfl) (Gr.spφ [.val (.pointer (some ⟨gx, 0, none⟩)), .val (.int .i64 x.kind), .val (.int .i64 (bits BinOp.and IntKind.i64 x.kind 65535)), .val (.int .i64 (bits BinOp.and IntKind.i64 x.kind 65535 + 6)), .val (.int .i64 (atq (bits BinOp.and IntKind.i64 x.kind 65535 + 6) 7)), .val (.int .i64 (rkind x.kind)), .val (.pointer (some ⟨gx, 1, none⟩)), .val (.int .i64 x.fn), .val (.pointer (some ⟨g, 3, none⟩)), .val (.slice Bf nF df), .val (.int .i64 (nF : Int)), .val (.int .i64 (atq x.fn (nF : Int))), .val (.pointer (some ⟨gx, 2, none⟩)), .val (.int .i64 x.a), .val (.pointer (some ⟨g, 0, none⟩)), .val (.int .i64 vv), .val (.int .i64 (atq x.a vv)), .val (.pointer (some ⟨gx, 3, none⟩)), .val (.int .i64 x.b), .val (.pointer (some ⟨g, 0, none⟩)), .val (.int .i64 vv), .val (.int .i64 (atq x.b vv)), .val (.agg #[.int .i64 (rkind x.kind), .int .i64 (atq x.fn (nF : Int)), .int .i64 (atq x.a vv), .int .i64 (atq x.b vv), .int .i64 0, .slice none 0 0, .float .f64 0]), .cls (ROp (gx + 1)) (rop_grow)]) (Gr.spφ_grow _) ?_ ?_
              · intro q o a W1 hi ho hb hfr hpre
                have t13 : a.tmps[13]?.getD undef = .pointer (some ⟨gx, 0, none⟩) := Gr.slot (hfr.f 13 (by intro j hj; (try dsimp only); split <;> omega))
                have t5 : a.tmps[5]?.getD undef = .pointer (some ⟨g, 0, none⟩) := Gr.slot (hfr.f 5 (by intro j hj; (try dsimp only); split <;> omega))
                obtain ⟨ge0, ge1, ge2, ge3, ge4, ge5⟩ := cells6 ((R6.out.below (GX.out ▸ BX.out)).below hb).q
                obtain ⟨ex0, ex1, ex2, ex3, ex4, ex5, ex6⟩ := seven (blk_below RX.out hb (blk_lt RX.out))
                match q, hi with
                | 0, _ =>
                  obtain rfl := Option.some.inj ho
                  refine Gr.val (v := .pointer (some ⟨gx, 0, none⟩)) (w' := W1) (by simp [go_sem, t13]) ⟨_, rfl, rfl, Below.refl _ _⟩
                | 1, _ =>
                  have p133 : a.tmps[133]?.getD undef = .pointer (some ⟨gx, 0, none⟩) := Gr.slot (hpre { on := 0, ground := .data } (by obtain rfl := Option.some.inj ho; simp) rfl (by decide))
                  obtain rfl := Option.some.inj ho
                  refine Gr.val (v := .int .i64 x.kind) (w' := W1) (by simp [go_sem, p133, ex0]) ⟨_, rfl, rfl, Below.refl _ _⟩
                | 2, _ =>
                  have p134 : a.tmps[134]?.getD undef = .int .i64 x.kind := Gr.slot (hpre { on := 1, ground := .data } (by obtain rfl := Option.some.inj ho; simp) rfl (by decide))
                  obtain rfl := Option.some.inj ho
                  refine Gr.val (v := .int .i64 (bits BinOp.and IntKind.i64 x.kind 65535)) (w' := W1) (by simp [go_sem, p134]) ⟨_, rfl, rfl, Below.refl _ _⟩
                | 3, _ =>
                  have p135 : a.tmps[135]?.getD undef = .int .i64 (bits BinOp.and IntKind.i64 x.kind 65535) := Gr.slot (hpre { on := 2, ground := .data } (by obtain rfl := Option.some.inj ho; simp) rfl (by decide))
                  obtain rfl := Option.some.inj ho
                  refine Gr.val (v := .int .i64 (bits BinOp.and IntKind.i64 x.kind 65535 + 6)) (w' := W1) (by simp [go_sem, p135, and6_wrap]) ⟨_, rfl, rfl, Below.refl _ _⟩
                | 4, _ =>
                  have p136 : a.tmps[136]?.getD undef = .int .i64 (bits BinOp.and IntKind.i64 x.kind 65535 + 6) := Gr.slot (hpre { on := 3, ground := .data } (by obtain rfl := Option.some.inj ho; simp) rfl (by decide))
                  obtain rfl := Option.some.inj ho
                  refine Gr.call (f := 35) (args := #[.int .i64 (bits BinOp.and IntKind.i64 x.kind 65535 + 6), .int .i64 7]) (by simp [go_sem, p136]) ((at_any (bits BinOp.and IntKind.i64 x.kind 65535 + 6) 7 W1 (by decide)).mono ?_)
                  rintro e w' ⟨rfl, rfl⟩
                  exact ⟨_, rfl, _, rfl, rfl, Below.refl _ _⟩
                | 5, _ =>
                  have p137 : a.tmps[137]?.getD undef = .int .i64 (atq (bits BinOp.and IntKind.i64 x.kind 65535 + 6) 7) := Gr.slot (hpre { on := 4, ground := .data } (by obtain rfl := Option.some.inj ho; simp) rfl (by decide))
                  obtain rfl := Option.some.inj ho
                  refine Gr.val (v := .int .i64 (rkind x.kind)) (w' := W1) (by simp [go_sem, p137, rkind_wrap]) ⟨_, rfl, rfl, Below.refl _ _⟩
                | 6, _ =>
                  obtain rfl := Option.some.inj ho
                  refine Gr.val (v := .pointer (some ⟨gx, 1, none⟩)) (w' := W1) (by simp [go_sem, t13]) ⟨_, rfl, rfl, Below.refl _ _⟩
                | 7, _ =>
                  have p139 : a.tmps[139]?.getD undef = .pointer (some ⟨gx, 1, none⟩) := Gr.slot (hpre { on := 6, ground := .data } (by obtain rfl := Option.some.inj ho; simp) rfl (by decide))
                  obtain rfl := Option.some.inj ho
                  refine Gr.val (v := .int .i64 x.fn) (w' := W1) (by simp [go_sem, p139, ex1]) ⟨_, rfl, rfl, Below.refl _ _⟩
                | 8, _ =>
                  obtain rfl := Option.some.inj ho
                  refine Gr.val (v := .pointer (some ⟨g, 3, none⟩)) (w' := W1) (by simp [go_sem, t5]) ⟨_, rfl, rfl, Below.refl _ _⟩
                | 9, _ =>
                  have p141 : a.tmps[141]?.getD undef = .pointer (some ⟨g, 3, none⟩) := Gr.slot (hpre { on := 8, ground := .data } (by obtain rfl := Option.some.inj ho; simp) rfl (by decide))
                  obtain rfl := Option.some.inj ho
                  refine Gr.val (v := .slice Bf nF df) (w' := W1) (by simp [go_sem, p141, ge3]) ⟨_, rfl, rfl, Below.refl _ _⟩
                | 10, _ =>
                  have p142 : a.tmps[142]?.getD undef = .slice Bf nF df := Gr.slot (hpre { on := 9, ground := .data } (by obtain rfl := Option.some.inj ho; simp) rfl (by decide))
                  obtain rfl := Option.some.inj ho
                  refine Gr.val (v := .int .i64 (nF : Int)) (w' := W1) (by simp [go_sem, p142]) ⟨_, rfl, rfl, Below.refl _ _⟩
                | 11, _ =>
                  have p140 : a.tmps[140]?.getD undef = .int .i64 x.fn := Gr.slot (hpre { on := 7, ground := .data } (by obtain rfl := Option.some.inj ho; simp) rfl (by decide))
                  have p143 : a.tmps[143]?.getD undef = .int .i64 (nF : Int) := Gr.slot (hpre { on := 10, ground := .data } (by obtain rfl := Option.some.inj ho; simp) rfl (by decide))
                  obtain rfl := Option.some.inj ho
                  refine Gr.call (f := 35) (args := #[.int .i64 x.fn, .int .i64 (nF : Int)]) (by simp [go_sem, p140, p143]) ((AT4.out x.fn W1).mono ?_)
                  rintro e w' ⟨rfl, rfl⟩
                  exact ⟨_, rfl, _, rfl, rfl, Below.refl _ _⟩
                | 12, _ =>
                  obtain rfl := Option.some.inj ho
                  refine Gr.val (v := .pointer (some ⟨gx, 2, none⟩)) (w' := W1) (by simp [go_sem, t13]) ⟨_, rfl, rfl, Below.refl _ _⟩
                | 13, _ =>
                  have p145 : a.tmps[145]?.getD undef = .pointer (some ⟨gx, 2, none⟩) := Gr.slot (hpre { on := 12, ground := .data } (by obtain rfl := Option.some.inj ho; simp) rfl (by decide))
                  obtain rfl := Option.some.inj ho
                  refine Gr.val (v := .int .i64 x.a) (w' := W1) (by simp [go_sem, p145, ex2]) ⟨_, rfl, rfl, Below.refl _ _⟩
                | 14, _ =>
                  obtain rfl := Option.some.inj ho
                  refine Gr.val (v := .pointer (some ⟨g, 0, none⟩)) (w' := W1) (by simp [go_sem, t5]) ⟨_, rfl, rfl, Below.refl _ _⟩
                | 15, _ =>
                  have p147 : a.tmps[147]?.getD undef = .pointer (some ⟨g, 0, none⟩) := Gr.slot (hpre { on := 14, ground := .data } (by obtain rfl := Option.some.inj ho; simp) rfl (by decide))
                  obtain rfl := Option.some.inj ho
                  refine Gr.val (v := .int .i64 vv) (w' := W1) (by simp [go_sem, p147, ge0]) ⟨_, rfl, rfl, Below.refl _ _⟩
                | 16, _ =>
                  have p146 : a.tmps[146]?.getD undef = .int .i64 x.a := Gr.slot (hpre { on := 13, ground := .data } (by obtain rfl := Option.some.inj ho; simp) rfl (by decide))
                  have p148 : a.tmps[148]?.getD undef = .int .i64 vv := Gr.slot (hpre { on := 15, ground := .data } (by obtain rfl := Option.some.inj ho; simp) rfl (by decide))
                  obtain rfl := Option.some.inj ho
                  refine Gr.call (f := 35) (args := #[.int .i64 x.a, .int .i64 vv]) (by simp [go_sem, p146, p148]) ((ATV.out x.a W1).mono ?_)
                  rintro e w' ⟨rfl, rfl⟩
                  exact ⟨_, rfl, _, rfl, rfl, Below.refl _ _⟩
                | 17, _ =>
                  obtain rfl := Option.some.inj ho
                  refine Gr.val (v := .pointer (some ⟨gx, 3, none⟩)) (w' := W1) (by simp [go_sem, t13]) ⟨_, rfl, rfl, Below.refl _ _⟩
                | 18, _ =>
                  have p150 : a.tmps[150]?.getD undef = .pointer (some ⟨gx, 3, none⟩) := Gr.slot (hpre { on := 17, ground := .data } (by obtain rfl := Option.some.inj ho; simp) rfl (by decide))
                  obtain rfl := Option.some.inj ho
                  refine Gr.val (v := .int .i64 x.b) (w' := W1) (by simp [go_sem, p150, ex3]) ⟨_, rfl, rfl, Below.refl _ _⟩
                | 19, _ =>
                  obtain rfl := Option.some.inj ho
                  refine Gr.val (v := .pointer (some ⟨g, 0, none⟩)) (w' := W1) (by simp [go_sem, t5]) ⟨_, rfl, rfl, Below.refl _ _⟩
                | 20, _ =>
                  have p152 : a.tmps[152]?.getD undef = .pointer (some ⟨g, 0, none⟩) := Gr.slot (hpre { on := 19, ground := .data } (by obtain rfl := Option.some.inj ho; simp) rfl (by decide))
                  obtain rfl := Option.some.inj ho
                  refine Gr.val (v := .int .i64 vv) (w' := W1) (by simp [go_sem, p152, ge0]) ⟨_, rfl, rfl, Below.refl _ _⟩
                | 21, _ =>
                  have p151 : a.tmps[151]?.getD undef = .int .i64 x.b := Gr.slot (hpre { on := 18, ground := .data } (by obtain rfl := Option.some.inj ho; simp) rfl (by decide))
                  have p153 : a.tmps[153]?.getD undef = .int .i64 vv := Gr.slot (hpre { on := 20, ground := .data } (by obtain rfl := Option.some.inj ho; simp) rfl (by decide))
                  obtain rfl := Option.some.inj ho
                  refine Gr.call (f := 35) (args := #[.int .i64 x.b, .int .i64 vv]) (by simp [go_sem, p151, p153]) ((ATV.out x.b W1).mono ?_)
                  rintro e w' ⟨rfl, rfl⟩
                  exact ⟨_, rfl, _, rfl, rfl, Below.refl _ _⟩
                | 22, _ =>
                  have p138 : a.tmps[138]?.getD undef = .int .i64 (rkind x.kind) := Gr.slot (hpre { on := 5, ground := .data } (by obtain rfl := Option.some.inj ho; simp) rfl (by decide))
                  have p144 : a.tmps[144]?.getD undef = .int .i64 (atq x.fn (nF : Int)) := Gr.slot (hpre { on := 11, ground := .data } (by obtain rfl := Option.some.inj ho; simp) rfl (by decide))
                  have p149 : a.tmps[149]?.getD undef = .int .i64 (atq x.a vv) := Gr.slot (hpre { on := 16, ground := .data } (by obtain rfl := Option.some.inj ho; simp) rfl (by decide))
                  have p154 : a.tmps[154]?.getD undef = .int .i64 (atq x.b vv) := Gr.slot (hpre { on := 21, ground := .data } (by obtain rfl := Option.some.inj ho; simp) rfl (by decide))
                  obtain rfl := Option.some.inj ho
                  refine Gr.val (v := .agg #[.int .i64 (rkind x.kind), .int .i64 (atq x.fn (nF : Int)), .int .i64 (atq x.a vv), .int .i64 (atq x.b vv), .int .i64 0, .slice none 0 0, .float .f64 0]) (w' := W1) (by simp [go_sem, p138, p144, p149, p154]) ⟨_, rfl, rfl, Below.refl _ _⟩
                | 23, _ =>
                  obtain rfl := Option.some.inj ho
                  refine Gr.val (v := .pointer (some ⟨W1.heap.size, 0, none⟩)) (w' := W1.alloc (.cells #[.int .i64 0, .int .i64 0, .int .i64 0, .int .i64 0, .int .i64 0, .slice none 0 0, .float .f64 0] 64)) (by simp [go_sem]) ⟨_, rfl, ⟨W1.heap.size, rfl, Nat.le_trans GS.out hb.size, heap_last _ _ _ rfl⟩, below1 _ _⟩
                | q + 24, h => omega
              intro o a W1 ho hb hfr hall
              obtain ⟨gy, hv14, hgy, hG14⟩ : ROp (gx + 1) (a.eval (.tmp 14)) W1 := hall 23 (by omega)
              have t155 : a.tmps[155]?.getD undef = .agg #[.int .i64 (rkind x.kind), .int .i64 (atq x.fn (nF : Int)), .int .i64 (atq x.a vv), .int .i64 (atq x.b vv), .int .i64 0, .slice none 0 0, .float .f64 0] := Gr.slot (hall 22 (by omega))
              have GY := Lib.hid (show gx < gy by omega)
              have t14 := Gr.slot hv14
              obtain ⟨y0, y1, y2, y3, y4, y5, y6⟩ := seven hG14
              have z0 := row_frozen (cs := [_, _, _, _, _, _, _]) hG14 0
              have z1 := row_frozen (cs := [_, _, _, _, _, _, _]) hG14 1
              have z2 := row_frozen (cs := [_, _, _, _, _, _, _]) hG14 2
              have z3 := row_frozen (cs := [_, _, _, _, _, _, _]) hG14 3
              have z4 := row_frozen (cs := [_, _, _, _, _, _, _]) hG14 4
              have z5 := row_frozen (cs := [_, _, _, _, _, _, _]) hG14 5
              have z6 := row_frozen (cs := [_, _, _, _, _, _, _]) hG14 6
              obtain rfl := Option.some.inj ho
              refine Gr.skip (w' := (((((((W1.setCell ⟨gy, 0, none⟩ (.int .i64 (rkind x.kind))).setCell ⟨gy, 1, none⟩ (.int .i64 (atq x.fn (nF : Int)))).setCell ⟨gy, 2, none⟩ (.int .i64 (atq x.a vv))).setCell ⟨gy, 3, none⟩ (.int .i64 (atq x.b vv))).setCell ⟨gy, 4, none⟩ (.int .i64 0)).setCell ⟨gy, 5, none⟩ (.slice none 0 0)).setCell ⟨gy, 6, none⟩ (.float .f64 0))) (by simp [go_sem, t14, t155, y0, y1, y2, y3, y4, y5, y6, z0, z1, z2, z3, z4, z5, z6]) rfl ?_
              rename_i hK
              refine hK _ _ ?_
              clear hK
              obtain ⟨n116, hn116⟩ : ∃ u, a.tmps[116]?.getD undef = u := ⟨_, rfl⟩
              obtain ⟨n117, hn117⟩ : ∃ u, a.tmps[117]?.getD undef = u := ⟨_, rfl⟩
              obtain ⟨n118, hn118⟩ : ∃ u, a.tmps[118]?.getD undef = u := ⟨_, rfl⟩
              obtain ⟨n119, hn119⟩ : ∃ u, a.tmps[119]?.getD undef = u := ⟨_, rfl⟩
              obtain ⟨n120, hn120⟩ : ∃ u, a.tmps[120]?.getD undef = u := ⟨_, rfl⟩
              obtain ⟨n121, hn121⟩ : ∃ u, a.tmps[121]?.getD undef = u := ⟨_, rfl⟩
              obtain ⟨n122, hn122⟩ : ∃ u, a.tmps[122]?.getD undef = u := ⟨_, rfl⟩
              obtain ⟨n123, hn123⟩ : ∃ u, a.tmps[123]?.getD undef = u := ⟨_, rfl⟩
              obtain ⟨n124, hn124⟩ : ∃ u, a.tmps[124]?.getD undef = u := ⟨_, rfl⟩
              obtain ⟨n125, hn125⟩ : ∃ u, a.tmps[125]?.getD undef = u := ⟨_, rfl⟩
              obtain ⟨n126, hn126⟩ : ∃ u, a.tmps[126]?.getD undef = u := ⟨_, rfl⟩
              obtain ⟨n127, hn127⟩ : ∃ u, a.tmps[127]?.getD undef = u := ⟨_, rfl⟩
              obtain ⟨n128, hn128⟩ : ∃ u, a.tmps[128]?.getD undef = u := ⟨_, rfl⟩
              obtain ⟨n129, hn129⟩ : ∃ u, a.tmps[129]?.getD undef = u := ⟨_, rfl⟩
              obtain ⟨n130, hn130⟩ : ∃ u, a.tmps[130]?.getD undef = u := ⟨_, rfl⟩
              obtain ⟨n131, hn131⟩ : ∃ u, a.tmps[131]?.getD undef = u := ⟨_, rfl⟩
              obtain ⟨n132, hn132⟩ : ∃ u, a.tmps[132]?.getD undef = u := ⟨_, rfl⟩
              obtain ⟨n133, hn133⟩ : ∃ u, a.tmps[133]?.getD undef = u := ⟨_, rfl⟩
              obtain ⟨n134, hn134⟩ : ∃ u, a.tmps[134]?.getD undef = u := ⟨_, rfl⟩
              obtain ⟨n135, hn135⟩ : ∃ u, a.tmps[135]?.getD undef = u := ⟨_, rfl⟩
              obtain ⟨n136, hn136⟩ : ∃ u, a.tmps[136]?.getD undef = u := ⟨_, rfl⟩
              obtain ⟨n137, hn137⟩ : ∃ u, a.tmps[137]?.getD undef = u := ⟨_, rfl⟩
              obtain ⟨n138, hn138⟩ : ∃ u, a.tmps[138]?.getD undef = u := ⟨_, rfl⟩
              obtain ⟨n139, hn139⟩ : ∃ u, a.tmps[139]?.getD undef = u := ⟨_, rfl⟩
              obtain ⟨n140, hn140⟩ : ∃ u, a.tmps[140]?.getD undef = u := ⟨_, rfl⟩
              obtain ⟨n141, hn141⟩ : ∃ u, a.tmps[141]?.getD undef = u := ⟨_, rfl⟩
              obtain ⟨n142, hn142⟩ : ∃ u, a.tmps[142]?.getD undef = u := ⟨_, rfl⟩
              obtain ⟨n143, hn143⟩ : ∃ u, a.tmps[143]?.getD undef = u := ⟨_, rfl⟩
              obtain ⟨n144, hn144⟩ : ∃ u, a.tmps[144]?.getD undef = u := ⟨_, rfl⟩
              obtain ⟨n145, hn145⟩ : ∃ u, a.tmps[145]?.getD undef = u := ⟨_, rfl⟩
              obtain ⟨n146, hn146⟩ : ∃ u, a.tmps[146]?.getD undef = u := ⟨_, rfl⟩
              obtain ⟨n147, hn147⟩ : ∃ u, a.tmps[147]?.getD undef = u := ⟨_, rfl⟩
              obtain ⟨n148, hn148⟩ : ∃ u, a.tmps[148]?.getD undef = u := ⟨_, rfl⟩
              obtain ⟨n149, hn149⟩ : ∃ u, a.tmps[149]?.getD undef = u := ⟨_, rfl⟩
              obtain ⟨n150, hn150⟩ : ∃ u, a.tmps[150]?.getD undef = u := ⟨_, rfl⟩
              obtain ⟨n151, hn151⟩ : ∃ u, a.tmps[151]?.getD undef = u := ⟨_, rfl⟩
              obtain ⟨n152, hn152⟩ : ∃ u, a.tmps[152]?.getD undef = u := ⟨_, rfl⟩
              obtain ⟨n153, hn153⟩ : ∃ u, a.tmps[153]?.getD undef = u := ⟨_, rfl⟩
              obtain ⟨n154, hn154⟩ : ∃ u, a.tmps[154]?.getD undef = u := ⟨_, rfl⟩
              obtain ⟨n155, hn155⟩ : ∃ u, a.tmps[155]?.getD undef = u := ⟨_, rfl⟩
              obtain ⟨n156, hn156⟩ : ∃ u, a.tmps[156]?.getD undef = u := ⟨_, rfl⟩
              obtain ⟨n157, hn157⟩ : ∃ u, a.tmps[157]?.getD undef = u := ⟨_, rfl⟩
              obtain ⟨n158, hn158⟩ : ∃ u, a.tmps[158]?.getD undef = u := ⟨_, rfl⟩
              obtain ⟨n159, hn159⟩ : ∃ u, a.tmps[159]?.getD undef = u := ⟨_, rfl⟩
              obtain ⟨n160, hn160⟩ : ∃ u, a.tmps[160]?.getD undef = u := ⟨_, rfl⟩
              obtain ⟨n161, hn161⟩ : ∃ u, a.tmps[161]?.getD undef = u := ⟨_, rfl⟩
              obtain ⟨n162, hn162⟩ : ∃ u, a.tmps[162]?.getD undef = u := ⟨_, rfl⟩
              obtain ⟨n163, hn163⟩ : ∃ u, a.tmps[163]?.getD undef = u := ⟨_, rfl⟩
              obtain ⟨n164, hn164⟩ : ∃ u, a.tmps[164]?.getD undef = u := ⟨_, rfl⟩
              obtain ⟨n165, hn165⟩ : ∃ u, a.tmps[165]?.getD undef = u := ⟨_, rfl⟩
              obtain ⟨n166, hn166⟩ : ∃ u, a.tmps[166]?.getD undef = u := ⟨_, rfl⟩
              obtain ⟨n167, hn167⟩ : ∃ u, a.tmps[167]?.getD undef = u := ⟨_, rfl⟩
              obtain ⟨n168, hn168⟩ : ∃ u, a.tmps[168]?.getD undef = u := ⟨_, rfl⟩
              obtain ⟨n169, hn169⟩ : ∃ u, a.tmps[169]?.getD undef = u := ⟨_, rfl⟩
              obtain ⟨n170, hn170⟩ : ∃ u, a.tmps[170]?.getD undef = u := ⟨_, rfl⟩
              obtain ⟨n171, hn171⟩ : ∃ u, a.tmps[171]?.getD undef = u := ⟨_, rfl⟩
              obtain ⟨n172, hn172⟩ : ∃ u, a.tmps[172]?.getD undef = u := ⟨_, rfl⟩
              obtain ⟨n173, hn173⟩ : ∃ u, a.tmps[173]?.getD undef = u := ⟨_, rfl⟩
              obtain ⟨n174, hn174⟩ : ∃ u, a.tmps[174]?.getD undef = u := ⟨_, rfl⟩
              obtain ⟨n175, hn175⟩ : ∃ u, a.tmps[175]?.getD undef = u := ⟨_, rfl⟩
              obtain ⟨n176, hn176⟩ : ∃ u, a.tmps[176]?.getD undef = u := ⟨_, rfl⟩
              obtain ⟨n177, hn177⟩ : ∃ u, a.tmps[177]?.getD undef = u := ⟨_, rfl⟩
              obtain ⟨n178, hn178⟩ : ∃ u, a.tmps[178]?.getD undef = u := ⟨_, rfl⟩
              obtain ⟨n179, hn179⟩ : ∃ u, a.tmps[179]?.getD undef = u := ⟨_, rfl⟩
              obtain ⟨n180, hn180⟩ : ∃ u, a.tmps[180]?.getD undef = u := ⟨_, rfl⟩
              obtain ⟨n181, hn181⟩ : ∃ u, a.tmps[181]?.getD undef = u := ⟨_, rfl⟩
              obtain ⟨n182, hn182⟩ : ∃ u, a.tmps[182]?.getD undef = u := ⟨_, rfl⟩
              obtain ⟨n183, hn183⟩ : ∃ u, a.tmps[183]?.getD undef = u := ⟨_, rfl⟩
              obtain ⟨n184, hn184⟩ : ∃ u, a.tmps[184]?.getD undef = u := ⟨_, rfl⟩
              obtain ⟨n185, hn185⟩ : ∃ u, a.tmps[185]?.getD undef = u := ⟨_, rfl⟩
              obtain ⟨n186, hn186⟩ : ∃ u, a.tmps[186]?.getD undef = u := ⟨_, rfl⟩
              obtain ⟨n187, hn187⟩ : ∃ u, a.tmps[187]?.getD undef = u := ⟨_, rfl⟩
              obtain ⟨n188, hn188⟩ : ∃ u, a.tmps[188]?.getD undef = u := ⟨_, rfl⟩
              obtain ⟨n189, hn189⟩ : ∃ u, a.tmps[189]?.getD undef = u := ⟨_, rfl⟩
              obtain ⟨n190, hn190⟩ : ∃ u, a.tmps[190]?.getD undef = u := ⟨_, rfl⟩
              obtain ⟨n191, hn191⟩ : ∃ u, a.tmps[191]?.getD undef = u := ⟨_, rfl⟩
              obtain ⟨n192, hn192⟩ : ∃ u, a.tmps[192]?.getD undef = u := ⟨_, rfl⟩
              obtain ⟨n193, hn193⟩ : ∃ u, a.tmps[193]?.getD undef = u := ⟨_, rfl⟩
              obtain ⟨n194, hn194⟩ : ∃ u, a.tmps[194]?.getD undef = u := ⟨_, rfl⟩
              obtain ⟨n195, hn195⟩ : ∃ u, a.tmps[195]?.getD undef = u := ⟨_, rfl⟩
              obtain ⟨n196, hn196⟩ : ∃ u, a.tmps[196]?.getD undef = u := ⟨_, rfl⟩
              obtain ⟨n197, hn197⟩ : ∃ u, a.tmps[197]?.getD undef = u := ⟨_, rfl⟩
              obtain ⟨n198, hn198⟩ : ∃ u, a.tmps[198]?.getD undef = u := ⟨_, rfl⟩
              obtain ⟨n199, hn199⟩ : ∃ u, a.tmps[199]?.getD undef = u := ⟨_, rfl⟩
              obtain ⟨n200, hn200⟩ : ∃ u, a.tmps[200]?.getD undef = u := ⟨_, rfl⟩
              obtain ⟨n201, hn201⟩ : ∃ u, a.tmps[201]?.getD undef = u := ⟨_, rfl⟩
              obtain ⟨n202, hn202⟩ : ∃ u, a.tmps[202]?.getD undef = u := ⟨_, rfl⟩
              obtain ⟨n203, hn203⟩ : ∃ u, a.tmps[203]?.getD undef = u := ⟨_, rfl⟩
              obtain ⟨n204, hn204⟩ : ∃ u, a.tmps[204]?.getD undef = u := ⟨_, rfl⟩
              obtain ⟨n205, hn205⟩ : ∃ u, a.tmps[205]?.getD undef = u := ⟨_, rfl⟩
              obtain ⟨n206, hn206⟩ : ∃ u, a.tmps[206]?.getD undef = u := ⟨_, rfl⟩
              have hA : a = ⟨#[pv p Af cf Ae ce (some ⟨b, off, none⟩) co, .int .i64 (k : Int), .pointer (some ⟨w.heap.size, 0, none⟩), undef, .pointer (some ⟨w.heap.size + 1, 0, none⟩), .pointer (some ⟨g, 0, none⟩), .func (.func 36) #[] #[.pointer (some ⟨g, 0, none⟩)], .func (.func 37) #[] #[.pointer (some ⟨g, 0, none⟩)], u8, u9, u10, u11, .int .i64 (i : Int), .pointer (some ⟨gx, 0, none⟩), .pointer (some ⟨gy, 0, none⟩), u15, u16, u17, u18, u19, u20, u21, u22, u23, u24, u25, u26, u27, u28, u29, u30, u31, u32, u33, u34, u35, u36, u37, u38, u39, u40, u41, u42, u43, u44, u45, u46, u47, u48, u49, u50, u51, u52, u53, u54, u55, u56, u57, u58, u59, u60, u61, u62, u63, u64, u65, u66, u67, u68, u69, u70, u71, u72, u73, u74, u75, u76, u77, u78, u79, u80, u81, u82, u83, u84, u85, u86, u87, u88, u89, u90, u91, u92, u93, u94, u95, u96, u97, u98, u99, u100, u101, u102, u103, u104, u105, u106, u107, u108, u109, u110, u111, u112, u113, u114, u115, n116, n117, n118, n119, n120, n121, n122, n123, n124, n125, n126, n127, n128, n129, n130, n131, n132, n133, n134, n135, n136, n137, n138, n139, n140, n141, n142, n143, n144, n145, n146, n147, n148, n149, n150, n151, n152, n153, n154, n155, n156, n157, n158, n159, n160, n161, n162, n163, n164, n165, n166, n167, n168, n169, n170, n171, n172, n173, n174, n175, n176, n177, n178, n179, n180, n181, n182, n183, n184, n185, n186, n187, n188, n189, n190, n191, n192, n193, n194, n195, n196, n197, n198, n199, n200, n201, n202, n203, n204, n205, n206, undef], []⟩ := Gr.act_eq (l := [pv p Af cf Ae ce (some ⟨b, off, none⟩) co, .int .i64 (k : Int), .pointer (some ⟨w.heap.size, 0, none⟩), undef, .pointer (some ⟨w.heap.size + 1, 0, none⟩), .pointer (some ⟨g, 0, none⟩), .func (.func 36) #[] #[.pointer (some ⟨g, 0, none⟩)], .func (.func 37) #[] #[.pointer (some ⟨g, 0, none⟩)], u8, u9, u10, u11, .int .i64 (i : Int), .pointer (some ⟨gx, 0, none⟩), .pointer (some ⟨gy, 0, none⟩), u15, u16, u17, u18, u19, u20, u21, u22, u23, u24, u25, u26, u27, u28, u29, u30, u31, u32, u33, u34, u35, u36, u37, u38, u39, u40, u41, u42, u43, u44, u45, u46, u47, u48, u49, u50, u51, u52, u53, u54, u55, u56, u57, u58, u59, u60, u61, u62, u63, u64, u65, u66, u67, u68, u69, u70, u71, u72, u73, u74, u75, u76, u77, u78, u79, u80, u81, u82, u83, u84, u85, u86, u87, u88, u89, u90, u91, u92, u93, u94, u95, u96, u97, u98, u99, u100, u101, u102, u103, u104, u105, u106, u107, u108, u109, u110, u111, u112, u113, u114, u115, n116, n117, n118, n119, n120, n121, n122, n123, n124, n125, n126, n127, n128, n129, n130, n131, n132, n133, n134, n135, n136, n137, n138, n139, n140, n141, n142, n143, n144, n145, n146, n147, n148, n149, n150, n151, n152, n153, n154, n155, n156, n157, n158, n159, n160, n161, n162, n163, n164, n165, n166, n167, n168, n169, n170, n171, n172, n173, n174, n175, n176, n177, n178, n179, n180, n181, n182, n183, n184, n185, n186, n187, n188, n189, n190, n191, n192, n193, n194, n195, n196, n197, n198, n199, n200, n201, n202, n203, n204, n205, n206, undef]) hfr.d hfr.s (by
                intro i hi
                match i, hi with
                | 0, _ => exact Gr.slot (hfr.f 0 (by intro j hj; (try dsimp only); split <;> omega))
                | 1, _ => exact Gr.slot (hfr.f 1 (by intro j hj; (try dsimp only); split <;> omega))
                | 2, _ => exact Gr.slot (hfr.f 2 (by intro j hj; (try dsimp only); split <;> omega))
                | 3, _ => exact Gr.slot (hfr.f 3 (by intro j hj; (try dsimp only); split <;> omega))
                | 4, _ => exact Gr.slot (hfr.f 4 (by intro j hj; (try dsimp only); split <;> omega))
                | 5, _ => exact Gr.slot (hfr.f 5 (by intro j hj; (try dsimp only); split <;> omega))
                | 6, _ => exact Gr.slot (hfr.f 6 (by intro j hj; (try dsimp only); split <;> omega))
                | 7, _ => exact Gr.slot (hfr.f 7 (by intro j hj; (try dsimp only); split <;> omega))
                | 8, _ => exact Gr.slot (hfr.f 8 (by intro j hj; (try dsimp only); split <;> omega))
                | 9, _ => exact Gr.slot (hfr.f 9 (by intro j hj; (try dsimp only); split <;> omega))
                | 10, _ => exact Gr.slot (hfr.f 10 (by intro j hj; (try dsimp only); split <;> omega))
                | 11, _ => exact Gr.slot (hfr.f 11 (by intro j hj; (try dsimp only); split <;> omega))
                | 12, _ => exact Gr.slot (hfr.f 12 (by intro j hj; (try dsimp only); split <;> omega))
                | 13, _ => exact Gr.slot (hfr.f 13 (by intro j hj; (try dsimp only); split <;> omega))
                | 14, _ => exact Gr.slot hv14
                | 15, _ => exact Gr.slot (hfr.f 15 (by intro j hj; (try dsimp only); split <;> omega))
                | 16, _ => exact Gr.slot (hfr.f 16 (by intro j hj; (try dsimp only); split <;> omega))
                | 17, _ => exact Gr.slot (hfr.f 17 (by intro j hj; (try dsimp only); split <;> omega))
                | 18, _ => exact Gr.slot (hfr.f 18 (by intro j hj; (try dsimp only); split <;> omega))
                | 19, _ => exact Gr.slot (hfr.f 19 (by intro j hj; (try dsimp only); split <;> omega))
                | 20, _ => exact Gr.slot (hfr.f 20 (by intro j hj; (try dsimp only); split <;> omega))
                | 21, _ => exact Gr.slot (hfr.f 21 (by intro j hj; (try dsimp only); split <;> omega))
                | 22, _ => exact Gr.slot (hfr.f 22 (by intro j hj; (try dsimp only); split <;> omega))
                | 23, _ => exact Gr.slot (hfr.f 23 (by intro j hj; (try dsimp only); split <;> omega))
                | 24, _ => exact Gr.slot (hfr.f 24 (by intro j hj; (try dsimp only); split <;> omega))
                | 25, _ => exact Gr.slot (hfr.f 25 (by intro j hj; (try dsimp only); split <;> omega))
                | 26, _ => exact Gr.slot (hfr.f 26 (by intro j hj; (try dsimp only); split <;> omega))
                | 27, _ => exact Gr.slot (hfr.f 27 (by intro j hj; (try dsimp only); split <;> omega))
                | 28, _ => exact Gr.slot (hfr.f 28 (by intro j hj; (try dsimp only); split <;> omega))
                | 29, _ => exact Gr.slot (hfr.f 29 (by intro j hj; (try dsimp only); split <;> omega))
                | 30, _ => exact Gr.slot (hfr.f 30 (by intro j hj; (try dsimp only); split <;> omega))
                | 31, _ => exact Gr.slot (hfr.f 31 (by intro j hj; (try dsimp only); split <;> omega))
                | 32, _ => exact Gr.slot (hfr.f 32 (by intro j hj; (try dsimp only); split <;> omega))
                | 33, _ => exact Gr.slot (hfr.f 33 (by intro j hj; (try dsimp only); split <;> omega))
                | 34, _ => exact Gr.slot (hfr.f 34 (by intro j hj; (try dsimp only); split <;> omega))
                | 35, _ => exact Gr.slot (hfr.f 35 (by intro j hj; (try dsimp only); split <;> omega))
                | 36, _ => exact Gr.slot (hfr.f 36 (by intro j hj; (try dsimp only); split <;> omega))
                | 37, _ => exact Gr.slot (hfr.f 37 (by intro j hj; (try dsimp only); split <;> omega))
                | 38, _ => exact Gr.slot (hfr.f 38 (by intro j hj; (try dsimp only); split <;> omega))
                | 39, _ => exact Gr.slot (hfr.f 39 (by intro j hj; (try dsimp only); split <;> omega))
                | 40, _ => exact Gr.slot (hfr.f 40 (by intro j hj; (try dsimp only); split <;> omega))
                | 41, _ => exact Gr.slot (hfr.f 41 (by intro j hj; (try dsimp only); split <;> omega))
                | 42, _ => exact Gr.slot (hfr.f 42 (by intro j hj; (try dsimp only); split <;> omega))
                | 43, _ => exact Gr.slot (hfr.f 43 (by intro j hj; (try dsimp only); split <;> omega))
                | 44, _ => exact Gr.slot (hfr.f 44 (by intro j hj; (try dsimp only); split <;> omega))
                | 45, _ => exact Gr.slot (hfr.f 45 (by intro j hj; (try dsimp only); split <;> omega))
                | 46, _ => exact Gr.slot (hfr.f 46 (by intro j hj; (try dsimp only); split <;> omega))
                | 47, _ => exact Gr.slot (hfr.f 47 (by intro j hj; (try dsimp only); split <;> omega))
                | 48, _ => exact Gr.slot (hfr.f 48 (by intro j hj; (try dsimp only); split <;> omega))
                | 49, _ => exact Gr.slot (hfr.f 49 (by intro j hj; (try dsimp only); split <;> omega))
                | 50, _ => exact Gr.slot (hfr.f 50 (by intro j hj; (try dsimp only); split <;> omega))
                | 51, _ => exact Gr.slot (hfr.f 51 (by intro j hj; (try dsimp only); split <;> omega))
                | 52, _ => exact Gr.slot (hfr.f 52 (by intro j hj; (try dsimp only); split <;> omega))
                | 53, _ => exact Gr.slot (hfr.f 53 (by intro j hj; (try dsimp only); split <;> omega))
                | 54, _ => exact Gr.slot (hfr.f 54 (by intro j hj; (try dsimp only); split <;> omega))
                | 55, _ => exact Gr.slot (hfr.f 55 (by intro j hj; (try dsimp only); split <;> omega))
                | 56, _ => exact Gr.slot (hfr.f 56 (by intro j hj; (try dsimp only); split <;> omega))
                | 57, _ => exact Gr.slot (hfr.f 57 (by intro j hj; (try dsimp only); split <;> omega))
                | 58, _ => exact Gr.slot (hfr.f 58 (by intro j hj; (try dsimp only); split <;> omega))
                | 59, _ => exact Gr.slot (hfr.f 59 (by intro j hj; (try dsimp only); split <;> omega))
                | 60, _ => exact Gr.slot (hfr.f 60 (by intro j hj; (try dsimp only); split <;> omega))
                | 61, _ => exact Gr.slot (hfr.f 61 (by intro j hj; (try dsimp only); split <;> omega))
                | 62, _ => exact Gr.slot (hfr.f 62 (by intro j hj; (try dsimp only); split <;> omega))
                | 63, _ => exact Gr.slot (hfr.f 63 (by intro j hj; (try dsimp only); split <;> omega))
                | 64, _ => exact Gr.slot (hfr.f 64 (by intro j hj; (try dsimp only); split <;> omega))
                | 65, _ => exact Gr.slot (hfr.f 65 (by intro j hj; (try dsimp only); split <;> omega))
                | 66, _ => exact Gr.slot (hfr.f 66 (by intro j hj; (try dsimp only); split <;> omega))
                | 67, _ => exact Gr.slot (hfr.f 67 (by intro j hj; (try dsimp only); split <;> omega))
                | 68, _ => exact Gr.slot (hfr.f 68 (by intro j hj; (try dsimp only); split <;> omega))
                | 69, _ => exact Gr.slot (hfr.f 69 (by intro j hj; (try dsimp only); split <;> omega))
                | 70, _ => exact Gr.slot (hfr.f 70 (by intro j hj; (try dsimp only); split <;> omega))
                | 71, _ => exact Gr.slot (hfr.f 71 (by intro j hj; (try dsimp only); split <;> omega))
                | 72, _ => exact Gr.slot (hfr.f 72 (by intro j hj; (try dsimp only); split <;> omega))
                | 73, _ => exact Gr.slot (hfr.f 73 (by intro j hj; (try dsimp only); split <;> omega))
                | 74, _ => exact Gr.slot (hfr.f 74 (by intro j hj; (try dsimp only); split <;> omega))
                | 75, _ => exact Gr.slot (hfr.f 75 (by intro j hj; (try dsimp only); split <;> omega))
                | 76, _ => exact Gr.slot (hfr.f 76 (by intro j hj; (try dsimp only); split <;> omega))
                | 77, _ => exact Gr.slot (hfr.f 77 (by intro j hj; (try dsimp only); split <;> omega))
                | 78, _ => exact Gr.slot (hfr.f 78 (by intro j hj; (try dsimp only); split <;> omega))
                | 79, _ => exact Gr.slot (hfr.f 79 (by intro j hj; (try dsimp only); split <;> omega))
                | 80, _ => exact Gr.slot (hfr.f 80 (by intro j hj; (try dsimp only); split <;> omega))
                | 81, _ => exact Gr.slot (hfr.f 81 (by intro j hj; (try dsimp only); split <;> omega))
                | 82, _ => exact Gr.slot (hfr.f 82 (by intro j hj; (try dsimp only); split <;> omega))
                | 83, _ => exact Gr.slot (hfr.f 83 (by intro j hj; (try dsimp only); split <;> omega))
                | 84, _ => exact Gr.slot (hfr.f 84 (by intro j hj; (try dsimp only); split <;> omega))
                | 85, _ => exact Gr.slot (hfr.f 85 (by intro j hj; (try dsimp only); split <;> omega))
                | 86, _ => exact Gr.slot (hfr.f 86 (by intro j hj; (try dsimp only); split <;> omega))
                | 87, _ => exact Gr.slot (hfr.f 87 (by intro j hj; (try dsimp only); split <;> omega))
                | 88, _ => exact Gr.slot (hfr.f 88 (by intro j hj; (try dsimp only); split <;> omega))
                | 89, _ => exact Gr.slot (hfr.f 89 (by intro j hj; (try dsimp only); split <;> omega))
                | 90, _ => exact Gr.slot (hfr.f 90 (by intro j hj; (try dsimp only); split <;> omega))
                | 91, _ => exact Gr.slot (hfr.f 91 (by intro j hj; (try dsimp only); split <;> omega))
                | 92, _ => exact Gr.slot (hfr.f 92 (by intro j hj; (try dsimp only); split <;> omega))
                | 93, _ => exact Gr.slot (hfr.f 93 (by intro j hj; (try dsimp only); split <;> omega))
                | 94, _ => exact Gr.slot (hfr.f 94 (by intro j hj; (try dsimp only); split <;> omega))
                | 95, _ => exact Gr.slot (hfr.f 95 (by intro j hj; (try dsimp only); split <;> omega))
                | 96, _ => exact Gr.slot (hfr.f 96 (by intro j hj; (try dsimp only); split <;> omega))
                | 97, _ => exact Gr.slot (hfr.f 97 (by intro j hj; (try dsimp only); split <;> omega))
                | 98, _ => exact Gr.slot (hfr.f 98 (by intro j hj; (try dsimp only); split <;> omega))
                | 99, _ => exact Gr.slot (hfr.f 99 (by intro j hj; (try dsimp only); split <;> omega))
                | 100, _ => exact Gr.slot (hfr.f 100 (by intro j hj; (try dsimp only); split <;> omega))
                | 101, _ => exact Gr.slot (hfr.f 101 (by intro j hj; (try dsimp only); split <;> omega))
                | 102, _ => exact Gr.slot (hfr.f 102 (by intro j hj; (try dsimp only); split <;> omega))
                | 103, _ => exact Gr.slot (hfr.f 103 (by intro j hj; (try dsimp only); split <;> omega))
                | 104, _ => exact Gr.slot (hfr.f 104 (by intro j hj; (try dsimp only); split <;> omega))
                | 105, _ => exact Gr.slot (hfr.f 105 (by intro j hj; (try dsimp only); split <;> omega))
                | 106, _ => exact Gr.slot (hfr.f 106 (by intro j hj; (try dsimp only); split <;> omega))
                | 107, _ => exact Gr.slot (hfr.f 107 (by intro j hj; (try dsimp only); split <;> omega))
                | 108, _ => exact Gr.slot (hfr.f 108 (by intro j hj; (try dsimp only); split <;> omega))
                | 109, _ => exact Gr.slot (hfr.f 109 (by intro j hj; (try dsimp only); split <;> omega))
                | 110, _ => exact Gr.slot (hfr.f 110 (by intro j hj; (try dsimp only); split <;> omega))
                | 111, _ => exact Gr.slot (hfr.f 111 (by intro j hj; (try dsimp only); split <;> omega))
                | 112, _ => exact Gr.slot (hfr.f 112 (by intro j hj; (try dsimp only); split <;> omega))
                | 113, _ => exact Gr.slot (hfr.f 113 (by intro j hj; (try dsimp only); split <;> omega))
                | 114, _ => exact Gr.slot (hfr.f 114 (by intro j hj; (try dsimp only); split <;> omega))
                | 115, _ => exact Gr.slot (hfr.f 115 (by intro j hj; (try dsimp only); split <;> omega))
                | 116, _ => exact hn116
                | 117, _ => exact hn117
                | 118, _ => exact hn118
                | 119, _ => exact hn119
                | 120, _ => exact hn120
                | 121, _ => exact hn121
                | 122, _ => exact hn122
                | 123, _ => exact hn123
                | 124, _ => exact hn124
                | 125, _ => exact hn125
                | 126, _ => exact hn126
                | 127, _ => exact hn127
                | 128, _ => exact hn128
                | 129, _ => exact hn129
                | 130, _ => exact hn130
                | 131, _ => exact hn131
                | 132, _ => exact hn132
                | 133, _ => exact hn133
                | 134, _ => exact hn134
                | 135, _ => exact hn135
                | 136, _ => exact hn136
                | 137, _ => exact hn137
                | 138, _ => exact hn138
                | 139, _ => exact hn139
                | 140, _ => exact hn140
                | 141, _ => exact hn141
                | 142, _ => exact hn142
                | 143, _ => exact hn143
                | 144, _ => exact hn144
                | 145, _ => exact hn145
                | 146, _ => exact hn146
                | 147, _ => exact hn147
                | 148, _ => exact hn148
                | 149, _ => exact hn149
                | 150, _ => exact hn150
                | 151, _ => exact hn151
                | 152, _ => exact hn152
                | 153, _ => exact hn153
                | 154, _ => exact hn154
                | 155, _ => exact hn155
                | 156, _ => exact hn156
                | 157, _ => exact hn157
                | 158, _ => exact hn158
                | 159, _ => exact hn159
                | 160, _ => exact hn160
                | 161, _ => exact hn161
                | 162, _ => exact hn162
                | 163, _ => exact hn163
                | 164, _ => exact hn164
                | 165, _ => exact hn165
                | 166, _ => exact hn166
                | 167, _ => exact hn167
                | 168, _ => exact hn168
                | 169, _ => exact hn169
                | 170, _ => exact hn170
                | 171, _ => exact hn171
                | 172, _ => exact hn172
                | 173, _ => exact hn173
                | 174, _ => exact hn174
                | 175, _ => exact hn175
                | 176, _ => exact hn176
                | 177, _ => exact hn177
                | 178, _ => exact hn178
                | 179, _ => exact hn179
                | 180, _ => exact hn180
                | 181, _ => exact hn181
                | 182, _ => exact hn182
                | 183, _ => exact hn183
                | 184, _ => exact hn184
                | 185, _ => exact hn185
                | 186, _ => exact hn186
                | 187, _ => exact hn187
                | 188, _ => exact hn188
                | 189, _ => exact hn189
                | 190, _ => exact hn190
                | 191, _ => exact hn191
                | 192, _ => exact hn192
                | 193, _ => exact hn193
                | 194, _ => exact hn194
                | 195, _ => exact hn195
                | 196, _ => exact hn196
                | 197, _ => exact hn197
                | 198, _ => exact hn198
                | 199, _ => exact hn199
                | 200, _ => exact hn200
                | 201, _ => exact hn201
                | 202, _ => exact hn202
                | 203, _ => exact hn203
                | 204, _ => exact hn204
                | 205, _ => exact hn205
                | 206, _ => exact hn206
                | 207, _ => exact Gr.slot (hfr.f 207 (by intro j hj; (try dsimp only); split <;> omega))
                | i + 208, h => simp only [List.length_cons, List.length_nil] at h; omega)
              clear hn116 hn117 hn118 hn119 hn120 hn121 hn122 hn123 hn124 hn125 hn126 hn127 hn128 hn129 hn130 hn131 hn132 hn133 hn134 hn135 hn136 hn137 hn138 hn139 hn140 hn141 hn142 hn143 hn144 hn145 hn146 hn147 hn148 hn149 hn150 hn151 hn152 hn153 hn154 hn155 hn156 hn157 hn158 hn159 hn160 hn161 hn162 hn163 hn164 hn165 hn166 hn167 hn168 hn169 hn170 hn171 hn172 hn173 hn174 hn175 hn176 hn177 hn178 hn179 hn180 hn181 hn182 hn183 hn184 hn185 hn186 hn187 hn188 hn189 hn190 hn191 hn192 hn193 hn194 hn195 hn196 hn197 hn198 hn199 hn200 hn201 hn202 hn203 hn204 hn205 hn206
              subst hA
              have XY8 := Lib.hid (set7 (a0 := .int .i64 (rkind x.kind)) (a1 := .int .i64 (atq x.fn (nF : Int))) (a2 := .int .i64 (atq x.a vv)) (a3 := .int .i64 (atq x.b vv)) (a4 := .int .i64 0) (a5 := .slice none 0 0) (a6 := .float .f64 0) hG14)
              have hset := fun bq (hne : bq ≠ gy) => (show ((((((((W1.setCell ⟨gy, 0, none⟩ (.int .i64 (rkind x.kind))).setCell ⟨gy, 1, none⟩ (.int .i64 (atq x.fn (nF : Int)))).setCell ⟨gy, 2, none⟩ (.int .i64 (atq x.a vv))).setCell ⟨gy, 3, none⟩ (.int .i64 (atq x.b vv))).setCell ⟨gy, 4, none⟩ (.int .i64 0)).setCell ⟨gy, 5, none⟩ (.slice none 0 0)).setCell ⟨gy, 6, none⟩ (.float .f64 0))).heap[bq]? = W1.heap[bq]? from by
                rw [Below.heap_setCell _ _ _ bq hne, Below.heap_setCell _ _ _ bq hne, Below.heap_setCell _ _ _ bq hne, Below.heap_setCell _ _ _ bq hne, Below.heap_setCell _ _ _ bq hne, Below.heap_setCell _ _ _ bq hne, Below.heap_setCell _ _ _ bq hne])
              have XX8 := Lib.hid ((hset _ (Nat.ne_of_lt GY.out)).trans (blk_below RX.out hb (blk_lt RX.out)))
              have hgl := Nat.le_of_lt GY.out
              have B8 : Hid (Below gx wr ((((((((W1.setCell ⟨gy, 0, none⟩ (.int .i64 (rkind x.kind))).setCell ⟨gy, 1, none⟩ (.int .i64 (atq x.fn (nF : Int)))).setCell ⟨gy, 2, none⟩ (.int .i64 (atq x.a vv))).setCell ⟨gy, 3, none⟩ (.int .i64 (atq x.b vv))).setCell ⟨gy, 4, none⟩ (.int .i64 0)).setCell ⟨gy, 5, none⟩ (.slice none 0 0)).setCell ⟨gy, 6, none⟩ (.float .f64 0)))) := Lib.hid ((((((BX.out.trans (hb.mono (Nat.le_trans (Nat.le_succ _) GS.out))).setCell (p := ⟨gy, 0, none⟩) hgl _).setCell (p := ⟨gy, 1, none⟩) hgl _).setCell (p := ⟨gy, 2, none⟩) hgl _).setCell (p := ⟨gy, 3, none⟩) hgl _).setCell (p := ⟨gy, 4, none⟩) hgl _ |>.setCell (p := ⟨gy, 5, none⟩) hgl _ |>.setCell (p := ⟨gy, 6, none⟩) hgl _)
              clear ho hset hG14 t14 t155 y0 y1 y2 y3 y4 y5 y6 z0 z1 z2 z3 z4 z5 z6 hb hfr hall hv14 hgl hgy BX RX GS
              generalize (((((((W1.setCell ⟨gy, 0, none⟩ (.int .i64 (rkind x.kind))).setCell ⟨gy, 1, none⟩ (.int .i64 (atq x.fn (nF : Int)))).setCell ⟨gy, 2, none⟩ (.int .i64 (atq x.a vv))).setCell ⟨gy, 3, none⟩ (.int .i64 (atq x.b vv))).setCell ⟨gy, 4, none⟩ (.int .i64 0)).setCell ⟨gy, 5, none⟩ (.slice none 0 0)).setCell ⟨gy, 6, none⟩ (.float .f64 0)) = W8 at *
              obtain ⟨ey0, ey1, ey2, ey3, ey4, ey5, ey6⟩ := seven XY8.out
              go_upto_block 8 with fail
              clear ey0 ey1 ey2 ey3 ey4 ey5 ey6
              go_cut [] from 158 to 184 (fun wx => wx.heap[gy]? = some (.cells #[.int .i64 (rkind x.kind), .int .i64 (atq x.fn (nF : Int)), .int .i64 (atq x.a vv), .int .i64 (rB (rkind x.kind) x.b ob (nF : Int) vv), .int .i64 (rC (rkind x.kind) x.c fi), .slice none 0 0, .float .f64 0] 64) ∧ wx.heap[gx]? = some (.cells #[.int .i64 x.kind, .int .i64 x.fn, .int .i64 x.a, .int .i64 x.b, .int .i64 x.c, .slice A x.args.length c, .float .f64 x.heat] 64) ∧ Below gx wr wx)
              case first =>
                have hk := rkind_range x.kind
                have RQ := R6.out.below (GX.out ▸ B8.out)
                obtain ⟨ge0, ge1, ge2, ge3, ge4, ge5⟩ := cells6 RQ.q
                obtain ⟨ex0, ex1, ex2, ex3, ex4, ex5, ex6⟩ := seven XX8.out
                clear RQ
                have fz := fun i => row_frozen (cs := [_, _, _, _, _, _, _]) XY8.out i
                generalize rkind x.kind = rk at *
                have hcase : rk = 1 ∨ rk = 2 ∨ rk = 3 ∨ rk = 4 ∨ rk = 5 ∨ rk = 6 ∨ rk = 7 := by omega
                clear hk
                rcases hcase with rfl | rfl | rfl | rfl | rfl | rfl | rfl
                all_goals
                  obtain ⟨ey0, ey1, ey2, ey3, ey4, ey5, ey6⟩ := seven XY8.out
                  have fz3 := fz 3
                  have fz4 := fz 4
                  clear fz
                  go_wp2_with (go_at_call 35; (first | (with_reducible refine (ATO.out _ _).mono ?_) | (with_reducible refine (ATF.out _ _).mono ?_) | (with_reducible refine (AT4.out _ _).mono ?_)); rintro e w2 ⟨rfl, rfl⟩)
                  go_meet
                  case rel =>
                    first
                      | exact ⟨XY8.out, XX8.out, B8.out⟩
                      | exact ⟨blk_set (cs := [_, _, _, _, _, _, _]) XY8.out 3 _, blk_other (i := 3) XX8.out (Nat.ne_of_lt GY.out) _, B8.out.setCell (p := ⟨gy, 3, none⟩) (Nat.le_of_lt GY.out) _⟩
                      | exact ⟨blk_set (cs := [_, _, _, _, _, _, _]) XY8.out 4 _, blk_other (i := 4) XX8.out (Nat.ne_of_lt GY.out) _, B8.out.setCell (p := ⟨gy, 4, none⟩) (Nat.le_of_lt GY.out) _⟩
              case rest =>
                generalize wc = W9 at *
                obtain ⟨hxy, hxx, hbb⟩ := hcut
                have XY9 := Lib.hid hxy
                have XX9 := Lib.hid hxx
                have B9 := Lib.hid hbb
                clear hxy hxx hbb XY8 XX8 B8
                obtain ⟨ey0, ey1, ey2, ey3, ey4, ey5, ey6⟩ := seven XY9.out
                go_upto_if 187 with fail
                clear ey0 ey1 ey2 ey3 ey4 ey5 ey6
                go_cut [] from 187 to 200 (fun wx => ∃ va, wx.heap[gy]? = some (.cells (ocs va (rightO vv ob fi nF x)).toArray 64) ∧ KL w.heap.size w.heap.size wx va (rightO vv ob fi nF x).args ∧ Below gx wr wx)
                case first =>
                  by_cases h5 : 5 < rkind x.kind
                  · have HE5 := Lib.hid (rightO_gt vv ob fi nF x h5)
                    obtain ⟨ex0, ex1, ex2, ex3, ex4, ex5, ex6⟩ := seven XX9.out
                    obtain ⟨ey0, ey1, ey2, ey3, ey4, ey5, ey6⟩ := seven XY9.out
                    have RQ := R6.out.below (GX.out ▸ B9.out)
                    have gv0 := (cells6 RQ.q).1
                    have gGl := RQ.gl
                    have MW9 := Lib.hid RQ.b.size
                    have AT9 := Lib.hid (AT6.out.below (GX.out ▸ B9.out))
                    have fz := fun i => row_frozen (cs := [_, _, _, _, _, _, _]) XY9.out i
                    clear RQ
                    go_upto_region 35 with fail
                    have hxg : gx < W9.drew.heap.size := blk_lt XX9.out
                    have hyg : gy < W9.drew.heap.size := blk_lt XY9.out
                    have keep3 : ∀ (W : World) (j : Nat) (u : Value), (W.cell? ⟨gx, 2, none⟩ = some (.int .i64 x.a) ∧ W.cell? ⟨gx, 5, none⟩ = some (.slice A x.args.length c) ∧ W.cell? ⟨gx, 6, none⟩ = some (.float .f64 x.heat)) → ((W.setCell ⟨gy, j, none⟩ u).cell? ⟨gx, 2, none⟩ = some (.int .i64 x.a) ∧ (W.setCell ⟨gy, j, none⟩ u).cell? ⟨gx, 5, none⟩ = some (.slice A x.args.length c) ∧ (W.setCell ⟨gy, j, none⟩ u).cell? ⟨gx, 6, none⟩ = some (.float .f64 x.heat)) := fun W j u h =>
                      ⟨(World.cell?_of_block (a := ⟨gx, 2, none⟩) (Below.heap_setCell W ⟨gy, j, none⟩ u gx (Nat.ne_of_lt GY.out))).trans h.1, (World.cell?_of_block (a := ⟨gx, 5, none⟩) (Below.heap_setCell W ⟨gy, j, none⟩ u gx (Nat.ne_of_lt GY.out))).trans h.2.1, (World.cell?_of_block (a := ⟨gx, 6, none⟩) (Below.heap_setCell W ⟨gy, j, none⟩ u gx (Nat.ne_of_lt GY.out))).trans h.2.2⟩
                    have KP := Lib.hid keep3
                    clear keep3 fz
                    have gvd : W9.drew.cell? ⟨g, 0, none⟩ = some (.int .i64 vv) := gv0
                    have gld : g < W9.drew.heap.size := gGl
                    have XYd := Lib.hid (show W9.drew.heap[gy]? = _ from XY9.out)
                    have XXd := Lib.hid (show W9.drew.heap[gx]? = _ from XX9.out)
                    have atd : Hid (At vInt W9.drew A x.args) := AT9
                    go_region_held3 (fun w' => w'.cell? ⟨gx, 2, none⟩ = some (.int .i64 x.a) ∧ w'.cell? ⟨gx, 5, none⟩ = some (.slice A x.args.length c) ∧ w'.cell? ⟨gx, 6, none⟩ = some (.float .f64 x.heat)) (first | exact ⟨ex2, ex5, ex6⟩ | exact rr | exact KP.out _ _ _ rr | exact KP.out _ _ _ (KP.out _ _ _ rr) | exact KP.out _ _ _ (KP.out _ _ _ (KP.out _ _ _ rr)) | (trace_state; fail))
                      (first
                        | (go_at_call 37; ((with_reducible refine (ANS.out x.a _ gvd).mono ?_); rintro e w2 ⟨rfl, rfl⟩))
                        | (go_at_call 36; ((with_reducible refine (VARS.out A x.args c _ gvd gld atd.out).mono ?_); rintro e w2 ⟨vq, rfl, ownq, bq⟩; obtain ⟨Aq, cq, hvq⟩ := own_form ownq; subst hvq; have hy2 := blk_below XYd.out bq hyg; have hx2 := blk_below XXd.out bq hxg; obtain ⟨ey0, ey1, ey2, ey3, ey4, ey5, ey6⟩ := seven hy2; obtain ⟨_, _, r2, _, _, r5, r6⟩ := seven hx2; have rr := And.intro r2 (And.intro r5 r6); have fz2 := row_frozen (cs := [_, _, _, _, _, _, _]) hy2 2; have fz5 := row_frozen (cs := [_, _, _, _, _, _, _]) hy2 5; have fz6 := row_frozen (cs := [_, _, _, _, _, _, _]) hy2 6)))
                    have hgM : w.heap.size ≤ gy := Nat.le_trans (Nat.le_trans R6.out.b.size (Nat.le_of_eq GX.out)) (Nat.le_of_lt GY.out)
                    have hgl := Nat.le_of_lt GY.out
                    have hy3 := blk_set (cs := [_, _, _, _, _, _, _]) hy2 2 (.int .i64 (atq x.a (vv + 1) - 1))
                    have hy4 := blk_set (cs := [_, _, _, _, _, _, _]) hy3 5 (.slice Aq (varsq vv x.args).length cq)
                    have hy5 := blk_set (cs := [_, _, _, _, _, _, _]) hy4 6 (.float .f64 x.heat)
                    have kq := (((KL.own (own_lo ownq MW9.out)).set (i := 2) (.int .i64 (atq x.a (vv + 1) - 1)) hy2 hgM (by decide)).set (i := 5) (.slice Aq (varsq vv x.args).length cq) hy3 hgM (by decide)).set (i := 6) (.float .f64 x.heat) hy4 hgM (by decide)
                    have bz := ((((B9.out.trans ((bdrew W9).mono (Nat.le_of_lt hxg))).trans (bq.mono (Nat.le_of_lt hxg))).setCell (p := ⟨gy, 2, none⟩) hgl (.int .i64 (atq x.a (vv + 1) - 1))).setCell (p := ⟨gy, 5, none⟩) hgl (.slice Aq (varsq vv x.args).length cq)).setCell (p := ⟨gy, 6, none⟩) hgl (.float .f64 x.heat)
                    go_wp2
                    go_meet
                    case rel => exact ⟨_, by rw [HE5.out]; exact hy5, by rw [HE5.out]; exact kq, bz⟩
                  · have HE5 := Lib.hid (rightO_le vv ob fi nF x h5)
                    go_wp2
                    go_meet
                    case rel => exact ⟨.slice none 0 0, by rw [HE5.out]; exact XY9.out, by rw [HE5.out]; exact KL.nil _ _ _, B9.out⟩
                case rest =>
                  generalize wc = W10 at *
                  obtain ⟨va, hxy, hkl, hbb⟩ := hcut
                  have XY10 := Lib.hid hxy
                  have KY10 := Lib.hid hkl
                  have R10 := Lib.hid (R6.out.below (GX.out ▸ hbb))
                  have RO10 := Lib.hid (RO6.out.below (GX.out ▸ hbb))
                  have RF10 := Lib.hid (RF6.out.below (GX.out ▸ hbb))
                  have KE10 := Lib.hid (KE6.out.below (GX.out ▸ hbb))
                  clear hxy hkl hbb XY9 XX9 B9 R6 RO6 RF6 KE6
                  obtain ⟨ps, hps, hown, hpx⟩ := RO10.out
                  have PS := Lib.hid hps
                  have PX := Lib.hid hpx
                  have OW := Lib.hid hown
                  have hpl : ps.length ≤ 300 := by
                    have h1 : ps.length = ((p.ops.take i).map (rightO vv ob fi nF)).length := by rw [← hps, List.length_map]
                    have := hin'.out.2
                    have := HK.out
                    rw [h1, List.length_map, List.length_take]; omega
                  have PL := Lib.hid hpl
                  have HY := Lib.hid (rightO_heat vv ob fi nF x HH.out)
                  clear hps hown hpx hpl HH RO10
                  generalize rightO vv ob fi nF x = y at *
                  obtain ⟨Ay, cy, hva, _⟩ := KY10.out
                  subst hva
                  obtain ⟨ey0, ey1, ey2, ey3, ey4, ey5, ey6⟩ := seven XY10.out
                  obtain ⟨rq0, rq1, rq2, rq3, rq4, rq5, rz0, rz1, rz2, rz3, rz4, rz5⟩ := row6 R10.out.q
                  have MW10 := Lib.hid R10.out.b.size
                  go_wp2_with (at_builtin; refine wpList_append_own _ rfl _ _ 24 rfl w.heap.size 64 iO _ 7 72 Try.underlying24 hiO hzO hsO hbO rfl (by decide) _ _ _ rfl (OW.out.alloc _) ⟨W10.heap.size, 0, none⟩ 1 1 [.int .i64 y.kind, .int .i64 y.fn, .int .i64 y.a, .int .i64 y.b, .int .i64 y.c, .slice Ay y.args.length cy, .float .f64 y.heat] rfl rfl (fun j u hj => by rw [add_plain0]; exact (row_cell (cs := [.int .i64 y.kind, .int .i64 y.fn, .int .i64 y.a, .int .i64 y.b, .int .i64 y.c, .slice Ay y.args.length cy, .float .f64 y.heat]) (heap_last W10 _ _ rfl) j).trans hj) (fun u hu => by simp at hu; rcases hu with rfl | rfl | rfl | rfl | rfl | rfl | rfl <;> rfl) (by unfold maxLen; have := PL.out; omega) (by have := PL.out; omega) (by have := MW10.out; simp; omega) ?_)
                  intro v5 W11 own5 grow5 _
                  have al4 := below1 W10 (.cells #[.int .i64 y.kind, .int .i64 y.fn, .int .i64 y.a, .int .i64 y.b, .int .i64 y.c, .slice Ay y.args.length cy, .float .f64 y.heat] 64)
                  have R11 := Lib.hid ((R10.out.below al4).grown (OW.out.alloc _) (Nat.le_refl _) (by decide) grow5)
                  have RO11 := Lib.hid (RowOwn.snoc (x := y) (vx := .slice Ay y.args.length cy) PS.out (fun z hz => ⟨(PX.out z hz).1.below al4, (PX.out z hz).2⟩) (KY10.out.below al4) HY.out (OW.out.alloc _) (by decide) own5 grow5)
                  have RF11 := Lib.hid ((RF10.out.below al4).grown (OW.out.alloc _) (Nat.le_refl _) (by decide) (by decide) grow5)
                  have KE11 := Lib.hid ((KE10.out.below al4).grown (OW.out.alloc _) (Nat.le_refl _) (by decide) grow5)
                  obtain ⟨A5, c5, hv5⟩ := own_form own5
                  subst hv5
                  clear own5 grow5 al4 rq0 rq1 rq2 rq3 rq4 rq5 rz0 rz1 rz2 rz3 rz4 rz5
                  obtain ⟨rq0, rq1, rq2, rq3, rq4, rq5, rz0, rz1, rz2, rz3, rz4, rz5⟩ := row6 R11.out.q
                  go_upto_region 22 with fail
                  have hMg : w.heap.size ≤ g := by have := R11.out.n; omega
                  have RO12 := Lib.hid (RO11.out.set (i := 5) (.slice A5 (ps.length + 1) c5) R11.out.q hMg (by decide) (by decide))
                  have RF12 := Lib.hid (RF11.out.set (i := 5) (.slice A5 (ps.length + 1) c5) R11.out.q hMg (by decide) (by decide))
                  have KE12 := Lib.hid (KE11.out.set (i := 5) (.slice A5 (ps.length + 1) c5) R11.out.q hMg (by decide))
                  have R12 := Lib.hid (R11.out.set5 (.slice A5 (ps.length + 1) c5))
                  generalize W11.setCell ⟨g, 5, none⟩ (.slice A5 (ps.length + 1) c5) = W12 at *
                  have HI1 : Hid (i + 1 ≤ p.ops.length ∧ i + 1 ≤ k) := hin'.out
                  go_wp2
                  have hi1 := HI1.out
                  go_roundw
                  case rel =>
                    refine ⟨_, _, _, _, _, _, _, _, _, _, _, _, _, _, _, _, _, _, _, _, _, _, _, _, _, _, _, _, _, _, _, _, _, _, _, _, _, _, _, _, _, _, _, _, _, _, _, _, _, _, _, _, _, _, _, _, _, _, _, _, _, _, _, _, _, _, _, _, _, _, _, _, _, _, _, _, _, _, _, _, _, _, _, _, _, _, _, _, _, _, _, _, _, _, ⟨i + 1, .slice A5 (ps.length + 1) c5, ?_, HI1.out.1, HI1.out.2, R12.out, by rw [TK.out]; exact RO12.out, RF12.out, KE12.out⟩, rfl⟩
                    go_num
                  case measure => simp [intOf]; omega
            · have hTK : (p.ops.take i).map (rightO vv ob fi nF) = (p.ops.take k).map (rightO vv ob fi nF) := by
                congr 1
                by_cases h1 : i = k
                · rw [h1]
                · rw [List.take_of_length_le (by omega), List.take_of_length_le (by omega)]
              have RO := Lib.hid (show RowOwn elO w.heap.size w.heap.size 64 wr (vr) ((p.ops.take k).map (rightO vv ob fi nF)) from hTK ▸ RO6.out)
              have hcs : ((i : Int) < (p.ops.length : Int) ∧ ¬ (i : Int) < (k : Int)) ∨ ¬ (i : Int) < (p.ops.length : Int) := by omega
              clear hin hTK RO6
              rcases hcs with ⟨hc1, hc2⟩ | hc1
              all_goals
                go_wp2
                go_meet
                case rel => exact ⟨vr, R6.out, RO.out, RF6.out, KE6.out⟩
        case rest =>
          generalize wc = W7 at *
          obtain ⟨vO, hrt, hro, hrf, hke⟩ := hcut
          obtain ⟨Bo, do_, hvO, _, _, _, _⟩ := hro.at (Nat.le_refl _)
          obtain ⟨nO, hnO⟩ : ∃ n, ((p.ops.take k).map (rightO vv ob fi nF)).length = n := ⟨_, rfl⟩
          rw [hnO] at hvO
          subst hvO
          have HNO := Lib.hid hnO
          have R7 := Lib.hid hrt
          have RO7 := Lib.hid hro
          have RF7 := Lib.hid hrf
          have KE7 := Lib.hid hke
          clear hrt hro hrf hke hnO R5 RF5 KE5
          obtain ⟨x0, x1, x2, x3, x4, x5⟩ := cells6 R7.out.q
          obtain ⟨y0, y1, y2, y3, y4, y5, v0, v1, v2, v3, v4, v5⟩ := row6 R7.out.z
          go_wp2
          (try simp only [Exit.inBlock, Exit.then])
          refine bodyPost_ret (results_cells rfl _ _ (w.heap.size + 1) [.int .i64 vv, .int .i64 ob, .int .i64 fi, .slice Bf nF df, .slice Be nE de, .slice Bo nO do_] _ rfl ?_ Try.underlying26 rprog_info) rfl ?_
          · exact six_of (set6 R7.out.z)
          · have EX : Ex (w.heap.size + 1) W7 ((((((W7.setCell ⟨w.heap.size + 1, 0, none⟩ (.int .i64 vv)).setCell ⟨w.heap.size + 1, 1, none⟩ (.int .i64 ob)).setCell ⟨w.heap.size + 1, 2, none⟩ (.int .i64 fi)).setCell ⟨w.heap.size + 1, 3, none⟩ (.slice Bf nF df)).setCell ⟨w.heap.size + 1, 4, none⟩ (.slice Be nE de)).setCell ⟨w.heap.size + 1, 5, none⟩ (.slice Bo nO do_)) := ((((((Ex.refl _ _).set 0 _).set 1 _).set 2 _).set 3 _).set 4 _).set 5 _
            have BF : Below w.heap.size w ((((((W7.setCell ⟨w.heap.size + 1, 0, none⟩ (.int .i64 vv)).setCell ⟨w.heap.size + 1, 1, none⟩ (.int .i64 ob)).setCell ⟨w.heap.size + 1, 2, none⟩ (.int .i64 fi)).setCell ⟨w.heap.size + 1, 3, none⟩ (.slice Bf nF df)).setCell ⟨w.heap.size + 1, 4, none⟩ (.slice Be nE de)).setCell ⟨w.heap.size + 1, 5, none⟩ (.slice Bo nO do_)) := (((((R7.out.b.setCell (p := ⟨w.heap.size + 1, 0, none⟩) (Nat.le_succ _) _).setCell (p := ⟨w.heap.size + 1, 1, none⟩) (Nat.le_succ _) _).setCell (p := ⟨w.heap.size + 1, 2, none⟩) (Nat.le_succ _) _).setCell (p := ⟨w.heap.size + 1, 3, none⟩) (Nat.le_succ _) _).setCell (p := ⟨w.heap.size + 1, 4, none⟩) (Nat.le_succ _) _).setCell (p := ⟨w.heap.size + 1, 5, none⟩) (Nat.le_succ _) _
            generalize ((((((W7.setCell ⟨w.heap.size + 1, 0, none⟩ (.int .i64 vv)).setCell ⟨w.heap.size + 1, 1, none⟩ (.int .i64 ob)).setCell ⟨w.heap.size + 1, 2, none⟩ (.int .i64 fi)).setCell ⟨w.heap.size + 1, 3, none⟩ (.slice Bf nF df)).setCell ⟨w.heap.size + 1, 4, none⟩ (.slice Be nE de)).setCell ⟨w.heap.size + 1, 5, none⟩ (.slice Bo nO do_)) = WF at *
            have q1 := Ex.row RF7.out EX R7.out.z (Nat.le_succ _) (by decide) (by decide)
            have q2 := Ex.kl KE7.out EX R7.out.z (Nat.le_succ _) (by decide)
            have q3 := Ex.row RO7.out EX R7.out.z (Nat.le_succ _) (by decide) (by decide)
            obtain ⟨Bf', df', hvf, hA1, hn1, hl1, hm1⟩ := q1.at (Nat.le_refl _)
            obtain ⟨Bo', do', hvo, hA2, hn2, hl2, hm2⟩ := q3.at (Nat.le_refl _)
            have hF := HNF.out.1
            have hE := HNE.out
            have hO := HNO.out
            have hq := HQ.out
            injection hvf with e1 _ e2
            injection hvo with e3 _ e4
            subst e1 e2 e3 e4
            rw [hF] at hq
            rw [hq]
            have hq2 := q2.il
            clear HNF HNE HNO HQ hq R7 RO7 RF7 KE7 x0 x1 x2 x3 x4 x5 y0 y1 y2 y3 y4 y5 v0 v1 v2 v3 v4 v5 EX q1 q2 q3
            subst hE hO hF
            exact ⟨_, _, _, _, _, _, rfl, ⟨hA1.fs, hq2, hA2.os, hn1, hn2, ⟨hl1, hm1⟩, ⟨hl2, hm2⟩⟩, BF⟩
end Pm
end Go.Proofs.Ytnhgoeoffjcooaa
