/-
  Programs: may an op be? (program.mayBeOp: a part of its ways) Made by wip/gen/promayo.py.
-/
import Derived.Test.YtnhgoeoffjcooaaProMayP
namespace Go.Proofs.Ytnhgoeoffjcooaa
open Go.RowKit
namespace Pm
open B
set_option linter.unusedVariables false
set_option maxRecDepth 100000 in
set_option maxHeartbeats 40000000 in
theorem mayO_B (p : P) (Af : Option Addr) (cf : Nat) (Ae : Option Addr) (ce : Nat) (Ao : Option Addr) (co : Nat) (lo : Nat) (v : Value) (o : O) (w : World) (hf : IL lo w v o.args) (hl : o.args.length ≤ 2000000) (hh : o.heat < 18446744073709551616) (h0 : inB p.fs.length o.fn = true) (hk : o.kind = 3 ∨ o.kind = 4) :
    Calls Try.prog 66 #[pv p Af cf Ae ce Ao co, .agg #[.int .i64 o.kind, .int .i64 o.fn, .int .i64 o.a, .int .i64 o.b, .int .i64 o.c, v, .float .f64 o.heat]] w fun e w' => e = .returned (.bool (okO p o)) ∧ Below w.heap.size w w' := by
  obtain ⟨kind, fn, a, b, c, args, heat⟩ := o
  obtain ⟨A, ca, rfl, hA, _⟩ := hf
  simp only at hl hh hA h0 hk ⊢
  have CBa := Lib.hid (fun X => bare_any A ca ⟨kind, fn, a, b, c, args, heat⟩ X hh)
  simp only at CBa
  have bA := below1 w (.cells #[.int .i64 p.vars, .int .i64 p.objs, .int .i64 p.fields, .slice Af p.fs.length cf, .slice Ae p.en.length ce, .slice Ao p.ops.length co] 33)
  have bB := below1 (w.alloc (.cells #[.int .i64 p.vars, .int .i64 p.objs, .int .i64 p.fields, .slice Af p.fs.length cf, .slice Ae p.en.length ce, .slice Ao p.ops.length co] 33)) (.cells #[.int .i64 kind, .int .i64 fn, .int .i64 a, .int .i64 b, .int .i64 c, .slice A args.length ca, .float .f64 heat] 42)
  have B0 := Lib.hid (bA.trans (bB.mono bA.size))
  have R1 := Lib.hid (hp_old (.cells #[.int .i64 kind, .int .i64 fn, .int .i64 a, .int .i64 b, .int .i64 c, .slice A args.length ca, .float .f64 heat] 42) (heap_last w (.cells #[.int .i64 p.vars, .int .i64 p.objs, .int .i64 p.fields, .slice Af p.fs.length cf, .slice Ae p.en.length ce, .slice Ao p.ops.length co] 33) w.heap.size rfl))
  have R2 := Lib.hid (heap_last (w.alloc (.cells #[.int .i64 p.vars, .int .i64 p.objs, .int .i64 p.fields, .slice Af p.fs.length cf, .slice Ae p.en.length ce, .slice Ao p.ops.length co] 33)) (.cells #[.int .i64 kind, .int .i64 fn, .int .i64 a, .int .i64 b, .int .i64 c, .slice A args.length ca, .float .f64 heat] 42) (w.heap.size + 1) (by simp))
  have HA := Lib.hid hA
  have HKK := Lib.hid hk
  clear bA bB hA hk
  go_enter Try.func66, Try.ntmps66
  go_upto_region 1 with fail
  generalize (w.alloc (.cells #[.int .i64 p.vars, .int .i64 p.objs, .int .i64 p.fields, .slice Af p.fs.length cf, .slice Ae p.en.length ce, .slice Ao p.ops.length co] 33)).alloc (.cells #[.int .i64 kind, .int .i64 fn, .int .i64 a, .int .i64 b, .int .i64 c, .slice A args.length ca, .float .f64 heat] 42) = W at *
  refine Gr.regionS 17 (fun i => if i < 13 then i + 9 else i - 8) [.val (.pointer (some ⟨w.heap.size, 0, none⟩)), .val (.int .i64 p.vars), .cls (BV (p.vars)) bv_grow, .val (.pointer (some ⟨w.heap.size, 1, none⟩)), .val (.int .i64 p.objs), .cls (BV (p.objs)) bv_grow, .val (.pointer (some ⟨w.heap.size, 2, none⟩)), .val (.int .i64 p.fields), .cls (BV (p.fields)) bv_grow, .val (.pointer (some ⟨w.heap.size, 3, none⟩)), .val (.slice Af p.fs.length cf), .val (.int .i64 (p.fs.length : Int)), .cls (BV ((p.fs.length : Int))) bv_grow, .cls (BV (p.vars)) bv_grow, .cls (BV (p.objs)) bv_grow, .cls (BV (p.fields)) bv_grow, .cls (BV ((p.fs.length : Int))) bv_grow] (by kernel_rfl) (by kernel_rfl) (by rfl) ?_ ?_
  · intro i o a W1 hi ho hb hfr hpre
    have t2 : a.tmps[2]?.getD undef = .pointer (some ⟨w.heap.size, 0, none⟩) := Gr.slot (hfr.f 2 (by intro j hj; (try dsimp only); split <;> omega))
    have t3 : a.tmps[3]?.getD undef = .pointer (some ⟨w.heap.size + 1, 0, none⟩) := Gr.slot (hfr.f 3 (by intro j hj; (try dsimp only); split <;> omega))
    obtain ⟨k0, k1, k2, k3, _⟩ := row6 (blk_below R1.out hb (blk_lt R1.out))
    match i, hi with
    | 0, _ =>
      obtain rfl := Option.some.inj ho
      refine Gr.val (v := .pointer (some ⟨w.heap.size, 0, none⟩)) (w' := W1) (by simp [go_sem, t2]) ⟨_, rfl, rfl, Below.refl _ _⟩
    | 1, _ =>
      have p9 : a.tmps[9]?.getD undef = .pointer (some ⟨w.heap.size, 0, none⟩) := Gr.slot (hpre { on := 0, ground := .data } (by obtain rfl := Option.some.inj ho; simp) rfl (by decide))
      obtain rfl := Option.some.inj ho
      refine Gr.val (v := .int .i64 p.vars) (w' := W1) (by simp [go_sem, p9, k0]) ⟨_, rfl, rfl, Below.refl _ _⟩
    | 2, _ =>
      have p10 : a.tmps[10]?.getD undef = .int .i64 p.vars := Gr.slot (hpre { on := 1, ground := .data } (by obtain rfl := Option.some.inj ho; simp) rfl (by decide))
      obtain rfl := Option.some.inj ho
      refine Gr.call (f := 47) (args := #[.int .i64 p.vars]) (by simp [go_sem, p10]) ((below_any (p.vars) W1).mono ?_)
      rintro e w' ⟨rfl, h1, h2, h3⟩
      exact ⟨_, rfl, _, rfl, ⟨_, rfl, h1⟩, h3⟩
    | 3, _ =>
      obtain rfl := Option.some.inj ho
      refine Gr.val (v := .pointer (some ⟨w.heap.size, 1, none⟩)) (w' := W1) (by simp [go_sem, t2]) ⟨_, rfl, rfl, Below.refl _ _⟩
    | 4, _ =>
      have p12 : a.tmps[12]?.getD undef = .pointer (some ⟨w.heap.size, 1, none⟩) := Gr.slot (hpre { on := 3, ground := .data } (by obtain rfl := Option.some.inj ho; simp) rfl (by decide))
      obtain rfl := Option.some.inj ho
      refine Gr.val (v := .int .i64 p.objs) (w' := W1) (by simp [go_sem, p12, k1]) ⟨_, rfl, rfl, Below.refl _ _⟩
    | 5, _ =>
      have p13 : a.tmps[13]?.getD undef = .int .i64 p.objs := Gr.slot (hpre { on := 4, ground := .data } (by obtain rfl := Option.some.inj ho; simp) rfl (by decide))
      obtain rfl := Option.some.inj ho
      refine Gr.call (f := 47) (args := #[.int .i64 p.objs]) (by simp [go_sem, p13]) ((below_any (p.objs) W1).mono ?_)
      rintro e w' ⟨rfl, h1, h2, h3⟩
      exact ⟨_, rfl, _, rfl, ⟨_, rfl, h1⟩, h3⟩
    | 6, _ =>
      obtain rfl := Option.some.inj ho
      refine Gr.val (v := .pointer (some ⟨w.heap.size, 2, none⟩)) (w' := W1) (by simp [go_sem, t2]) ⟨_, rfl, rfl, Below.refl _ _⟩
    | 7, _ =>
      have p15 : a.tmps[15]?.getD undef = .pointer (some ⟨w.heap.size, 2, none⟩) := Gr.slot (hpre { on := 6, ground := .data } (by obtain rfl := Option.some.inj ho; simp) rfl (by decide))
      obtain rfl := Option.some.inj ho
      refine Gr.val (v := .int .i64 p.fields) (w' := W1) (by simp [go_sem, p15, k2]) ⟨_, rfl, rfl, Below.refl _ _⟩
    | 8, _ =>
      have p16 : a.tmps[16]?.getD undef = .int .i64 p.fields := Gr.slot (hpre { on := 7, ground := .data } (by obtain rfl := Option.some.inj ho; simp) rfl (by decide))
      obtain rfl := Option.some.inj ho
      refine Gr.call (f := 47) (args := #[.int .i64 p.fields]) (by simp [go_sem, p16]) ((below_any (p.fields) W1).mono ?_)
      rintro e w' ⟨rfl, h1, h2, h3⟩
      exact ⟨_, rfl, _, rfl, ⟨_, rfl, h1⟩, h3⟩
    | 9, _ =>
      obtain rfl := Option.some.inj ho
      refine Gr.val (v := .pointer (some ⟨w.heap.size, 3, none⟩)) (w' := W1) (by simp [go_sem, t2]) ⟨_, rfl, rfl, Below.refl _ _⟩
    | 10, _ =>
      have p18 : a.tmps[18]?.getD undef = .pointer (some ⟨w.heap.size, 3, none⟩) := Gr.slot (hpre { on := 9, ground := .data } (by obtain rfl := Option.some.inj ho; simp) rfl (by decide))
      obtain rfl := Option.some.inj ho
      refine Gr.val (v := .slice Af p.fs.length cf) (w' := W1) (by simp [go_sem, p18, k3]) ⟨_, rfl, rfl, Below.refl _ _⟩
    | 11, _ =>
      have p19 : a.tmps[19]?.getD undef = .slice Af p.fs.length cf := Gr.slot (hpre { on := 10, ground := .data } (by obtain rfl := Option.some.inj ho; simp) rfl (by decide))
      obtain rfl := Option.some.inj ho
      refine Gr.val (v := .int .i64 (p.fs.length : Int)) (w' := W1) (by simp [go_sem, p19]) ⟨_, rfl, rfl, Below.refl _ _⟩
    | 12, _ =>
      have p20 : a.tmps[20]?.getD undef = .int .i64 (p.fs.length : Int) := Gr.slot (hpre { on := 11, ground := .data } (by obtain rfl := Option.some.inj ho; simp) rfl (by decide))
      obtain rfl := Option.some.inj ho
      refine Gr.call (f := 47) (args := #[.int .i64 (p.fs.length : Int)]) (by simp [go_sem, p20]) ((below_any ((p.fs.length : Int)) W1).mono ?_)
      rintro e w' ⟨rfl, h1, h2, h3⟩
      exact ⟨_, rfl, _, rfl, ⟨_, rfl, h1⟩, h3⟩
    | 13, _ =>
      have q : (BV (p.vars)) (a.eval (.tmp 11)) W1 := hpre { on := 2, ground := .data } (by obtain rfl := Option.some.inj ho; simp) rfl (by decide)
      obtain ⟨g, hv, hk⟩ := q
      have p0 := Gr.slot hv
      obtain rfl := Option.some.inj ho
      refine Gr.val (v := bv g) (w' := W1) (by simp [go_sem, p0]) ⟨_, rfl, ⟨g, rfl, hk⟩, Below.refl _ _⟩
    | 14, _ =>
      have q : (BV (p.objs)) (a.eval (.tmp 14)) W1 := hpre { on := 5, ground := .data } (by obtain rfl := Option.some.inj ho; simp) rfl (by decide)
      obtain ⟨g, hv, hk⟩ := q
      have p0 := Gr.slot hv
      obtain rfl := Option.some.inj ho
      refine Gr.val (v := bv g) (w' := W1) (by simp [go_sem, p0]) ⟨_, rfl, ⟨g, rfl, hk⟩, Below.refl _ _⟩
    | 15, _ =>
      have q : (BV (p.fields)) (a.eval (.tmp 17)) W1 := hpre { on := 8, ground := .data } (by obtain rfl := Option.some.inj ho; simp) rfl (by decide)
      obtain ⟨g, hv, hk⟩ := q
      have p0 := Gr.slot hv
      obtain rfl := Option.some.inj ho
      refine Gr.val (v := bv g) (w' := W1) (by simp [go_sem, p0]) ⟨_, rfl, ⟨g, rfl, hk⟩, Below.refl _ _⟩
    | 16, _ =>
      have q : (BV ((p.fs.length : Int))) (a.eval (.tmp 21)) W1 := hpre { on := 12, ground := .data } (by obtain rfl := Option.some.inj ho; simp) rfl (by decide)
      obtain ⟨g, hv, hk⟩ := q
      have p0 := Gr.slot hv
      obtain rfl := Option.some.inj ho
      refine Gr.val (v := bv g) (w' := W1) (by simp [go_sem, p0]) ⟨_, rfl, ⟨g, rfl, hk⟩, Below.refl _ _⟩
    | i + 17, h => omega
  intro a W1 hb hfr hall
  obtain ⟨g5, hv5, k5⟩ : BV p.vars (a.eval (.tmp 5)) W1 := hall 13 (by omega)
  obtain ⟨g6, hv6, k6⟩ : BV p.objs (a.eval (.tmp 6)) W1 := hall 14 (by omega)
  obtain ⟨g7, hv7, k7⟩ : BV p.fields (a.eval (.tmp 7)) W1 := hall 15 (by omega)
  obtain ⟨g8, hv8, k8⟩ : BV (p.fs.length : Int) (a.eval (.tmp 8)) W1 := hall 16 (by omega)
  obtain ⟨u0, hu0⟩ : ∃ u, a.tmps[0]?.getD undef = u := ⟨_, rfl⟩
  obtain ⟨u1, hu1⟩ : ∃ u, a.tmps[1]?.getD undef = u := ⟨_, rfl⟩
  obtain ⟨u9, hu9⟩ : ∃ u, a.tmps[9]?.getD undef = u := ⟨_, rfl⟩
  obtain ⟨u10, hu10⟩ : ∃ u, a.tmps[10]?.getD undef = u := ⟨_, rfl⟩
  obtain ⟨u11, hu11⟩ : ∃ u, a.tmps[11]?.getD undef = u := ⟨_, rfl⟩
  obtain ⟨u12, hu12⟩ : ∃ u, a.tmps[12]?.getD undef = u := ⟨_, rfl⟩
  obtain ⟨u13, hu13⟩ : ∃ u, a.tmps[13]?.getD undef = u := ⟨_, rfl⟩
  obtain ⟨u14, hu14⟩ : ∃ u, a.tmps[14]?.getD undef = u := ⟨_, rfl⟩
  obtain ⟨u15, hu15⟩ : ∃ u, a.tmps[15]?.getD undef = u := ⟨_, rfl⟩
  obtain ⟨u16, hu16⟩ : ∃ u, a.tmps[16]?.getD undef = u := ⟨_, rfl⟩
  obtain ⟨u17, hu17⟩ : ∃ u, a.tmps[17]?.getD undef = u := ⟨_, rfl⟩
  obtain ⟨u18, hu18⟩ : ∃ u, a.tmps[18]?.getD undef = u := ⟨_, rfl⟩
  obtain ⟨u19, hu19⟩ : ∃ u, a.tmps[19]?.getD undef = u := ⟨_, rfl⟩
  obtain ⟨u20, hu20⟩ : ∃ u, a.tmps[20]?.getD undef = u := ⟨_, rfl⟩
  obtain ⟨u21, hu21⟩ : ∃ u, a.tmps[21]?.getD undef = u := ⟨_, rfl⟩
  obtain ⟨u22, hu22⟩ : ∃ u, a.tmps[22]?.getD undef = u := ⟨_, rfl⟩
  obtain ⟨u23, hu23⟩ : ∃ u, a.tmps[23]?.getD undef = u := ⟨_, rfl⟩
  obtain ⟨u24, hu24⟩ : ∃ u, a.tmps[24]?.getD undef = u := ⟨_, rfl⟩
  obtain ⟨u25, hu25⟩ : ∃ u, a.tmps[25]?.getD undef = u := ⟨_, rfl⟩
  obtain ⟨u26, hu26⟩ : ∃ u, a.tmps[26]?.getD undef = u := ⟨_, rfl⟩
  obtain ⟨u27, hu27⟩ : ∃ u, a.tmps[27]?.getD undef = u := ⟨_, rfl⟩
  obtain ⟨u28, hu28⟩ : ∃ u, a.tmps[28]?.getD undef = u := ⟨_, rfl⟩
  obtain ⟨u29, hu29⟩ : ∃ u, a.tmps[29]?.getD undef = u := ⟨_, rfl⟩
  obtain ⟨u30, hu30⟩ : ∃ u, a.tmps[30]?.getD undef = u := ⟨_, rfl⟩
  obtain ⟨u31, hu31⟩ : ∃ u, a.tmps[31]?.getD undef = u := ⟨_, rfl⟩
  obtain ⟨u32, hu32⟩ : ∃ u, a.tmps[32]?.getD undef = u := ⟨_, rfl⟩
  obtain ⟨u33, hu33⟩ : ∃ u, a.tmps[33]?.getD undef = u := ⟨_, rfl⟩
  obtain ⟨u34, hu34⟩ : ∃ u, a.tmps[34]?.getD undef = u := ⟨_, rfl⟩
  obtain ⟨u35, hu35⟩ : ∃ u, a.tmps[35]?.getD undef = u := ⟨_, rfl⟩
  obtain ⟨u36, hu36⟩ : ∃ u, a.tmps[36]?.getD undef = u := ⟨_, rfl⟩
  obtain ⟨u37, hu37⟩ : ∃ u, a.tmps[37]?.getD undef = u := ⟨_, rfl⟩
  obtain ⟨u38, hu38⟩ : ∃ u, a.tmps[38]?.getD undef = u := ⟨_, rfl⟩
  obtain ⟨u39, hu39⟩ : ∃ u, a.tmps[39]?.getD undef = u := ⟨_, rfl⟩
  obtain ⟨u40, hu40⟩ : ∃ u, a.tmps[40]?.getD undef = u := ⟨_, rfl⟩
  obtain ⟨u41, hu41⟩ : ∃ u, a.tmps[41]?.getD undef = u := ⟨_, rfl⟩
  obtain ⟨u42, hu42⟩ : ∃ u, a.tmps[42]?.getD undef = u := ⟨_, rfl⟩
  obtain ⟨u43, hu43⟩ : ∃ u, a.tmps[43]?.getD undef = u := ⟨_, rfl⟩
  obtain ⟨u44, hu44⟩ : ∃ u, a.tmps[44]?.getD undef = u := ⟨_, rfl⟩
  obtain ⟨u45, hu45⟩ : ∃ u, a.tmps[45]?.getD undef = u := ⟨_, rfl⟩
  obtain ⟨u46, hu46⟩ : ∃ u, a.tmps[46]?.getD undef = u := ⟨_, rfl⟩
  obtain ⟨u47, hu47⟩ : ∃ u, a.tmps[47]?.getD undef = u := ⟨_, rfl⟩
  obtain ⟨u48, hu48⟩ : ∃ u, a.tmps[48]?.getD undef = u := ⟨_, rfl⟩
  obtain ⟨u49, hu49⟩ : ∃ u, a.tmps[49]?.getD undef = u := ⟨_, rfl⟩
  obtain ⟨u50, hu50⟩ : ∃ u, a.tmps[50]?.getD undef = u := ⟨_, rfl⟩
  obtain ⟨u51, hu51⟩ : ∃ u, a.tmps[51]?.getD undef = u := ⟨_, rfl⟩
  obtain ⟨u52, hu52⟩ : ∃ u, a.tmps[52]?.getD undef = u := ⟨_, rfl⟩
  obtain ⟨u53, hu53⟩ : ∃ u, a.tmps[53]?.getD undef = u := ⟨_, rfl⟩
  obtain ⟨u54, hu54⟩ : ∃ u, a.tmps[54]?.getD undef = u := ⟨_, rfl⟩
  obtain ⟨u55, hu55⟩ : ∃ u, a.tmps[55]?.getD undef = u := ⟨_, rfl⟩
  obtain ⟨u56, hu56⟩ : ∃ u, a.tmps[56]?.getD undef = u := ⟨_, rfl⟩
  obtain ⟨u57, hu57⟩ : ∃ u, a.tmps[57]?.getD undef = u := ⟨_, rfl⟩
  obtain ⟨u58, hu58⟩ : ∃ u, a.tmps[58]?.getD undef = u := ⟨_, rfl⟩
  obtain ⟨u59, hu59⟩ : ∃ u, a.tmps[59]?.getD undef = u := ⟨_, rfl⟩
  obtain ⟨u60, hu60⟩ : ∃ u, a.tmps[60]?.getD undef = u := ⟨_, rfl⟩
  obtain ⟨u61, hu61⟩ : ∃ u, a.tmps[61]?.getD undef = u := ⟨_, rfl⟩
  obtain ⟨u62, hu62⟩ : ∃ u, a.tmps[62]?.getD undef = u := ⟨_, rfl⟩
  obtain ⟨u63, hu63⟩ : ∃ u, a.tmps[63]?.getD undef = u := ⟨_, rfl⟩
  obtain ⟨u64, hu64⟩ : ∃ u, a.tmps[64]?.getD undef = u := ⟨_, rfl⟩
  obtain ⟨u65, hu65⟩ : ∃ u, a.tmps[65]?.getD undef = u := ⟨_, rfl⟩
  obtain ⟨u66, hu66⟩ : ∃ u, a.tmps[66]?.getD undef = u := ⟨_, rfl⟩
  obtain ⟨u67, hu67⟩ : ∃ u, a.tmps[67]?.getD undef = u := ⟨_, rfl⟩
  obtain ⟨u68, hu68⟩ : ∃ u, a.tmps[68]?.getD undef = u := ⟨_, rfl⟩
  obtain ⟨u69, hu69⟩ : ∃ u, a.tmps[69]?.getD undef = u := ⟨_, rfl⟩
  obtain ⟨u70, hu70⟩ : ∃ u, a.tmps[70]?.getD undef = u := ⟨_, rfl⟩
  obtain ⟨u71, hu71⟩ : ∃ u, a.tmps[71]?.getD undef = u := ⟨_, rfl⟩
  obtain ⟨u72, hu72⟩ : ∃ u, a.tmps[72]?.getD undef = u := ⟨_, rfl⟩
  obtain ⟨u73, hu73⟩ : ∃ u, a.tmps[73]?.getD undef = u := ⟨_, rfl⟩
  obtain ⟨u74, hu74⟩ : ∃ u, a.tmps[74]?.getD undef = u := ⟨_, rfl⟩
  obtain ⟨u75, hu75⟩ : ∃ u, a.tmps[75]?.getD undef = u := ⟨_, rfl⟩
  obtain ⟨u76, hu76⟩ : ∃ u, a.tmps[76]?.getD undef = u := ⟨_, rfl⟩
  obtain ⟨u77, hu77⟩ : ∃ u, a.tmps[77]?.getD undef = u := ⟨_, rfl⟩
  obtain ⟨u78, hu78⟩ : ∃ u, a.tmps[78]?.getD undef = u := ⟨_, rfl⟩
  obtain ⟨u79, hu79⟩ : ∃ u, a.tmps[79]?.getD undef = u := ⟨_, rfl⟩
  obtain ⟨u80, hu80⟩ : ∃ u, a.tmps[80]?.getD undef = u := ⟨_, rfl⟩
  obtain ⟨u81, hu81⟩ : ∃ u, a.tmps[81]?.getD undef = u := ⟨_, rfl⟩
  obtain ⟨u82, hu82⟩ : ∃ u, a.tmps[82]?.getD undef = u := ⟨_, rfl⟩
  obtain ⟨u83, hu83⟩ : ∃ u, a.tmps[83]?.getD undef = u := ⟨_, rfl⟩
  obtain ⟨u84, hu84⟩ : ∃ u, a.tmps[84]?.getD undef = u := ⟨_, rfl⟩
  obtain ⟨u85, hu85⟩ : ∃ u, a.tmps[85]?.getD undef = u := ⟨_, rfl⟩
  obtain ⟨u86, hu86⟩ : ∃ u, a.tmps[86]?.getD undef = u := ⟨_, rfl⟩
  obtain ⟨u87, hu87⟩ : ∃ u, a.tmps[87]?.getD undef = u := ⟨_, rfl⟩
  obtain ⟨u88, hu88⟩ : ∃ u, a.tmps[88]?.getD undef = u := ⟨_, rfl⟩
  obtain ⟨u89, hu89⟩ : ∃ u, a.tmps[89]?.getD undef = u := ⟨_, rfl⟩
  obtain ⟨u90, hu90⟩ : ∃ u, a.tmps[90]?.getD undef = u := ⟨_, rfl⟩
  obtain ⟨u91, hu91⟩ : ∃ u, a.tmps[91]?.getD undef = u := ⟨_, rfl⟩
  obtain ⟨u92, hu92⟩ : ∃ u, a.tmps[92]?.getD undef = u := ⟨_, rfl⟩
  obtain ⟨u93, hu93⟩ : ∃ u, a.tmps[93]?.getD undef = u := ⟨_, rfl⟩
  obtain ⟨u94, hu94⟩ : ∃ u, a.tmps[94]?.getD undef = u := ⟨_, rfl⟩
  obtain ⟨u95, hu95⟩ : ∃ u, a.tmps[95]?.getD undef = u := ⟨_, rfl⟩
  obtain ⟨u96, hu96⟩ : ∃ u, a.tmps[96]?.getD undef = u := ⟨_, rfl⟩
  obtain ⟨u97, hu97⟩ : ∃ u, a.tmps[97]?.getD undef = u := ⟨_, rfl⟩
  obtain ⟨u98, hu98⟩ : ∃ u, a.tmps[98]?.getD undef = u := ⟨_, rfl⟩
  obtain ⟨u99, hu99⟩ : ∃ u, a.tmps[99]?.getD undef = u := ⟨_, rfl⟩
  obtain ⟨u100, hu100⟩ : ∃ u, a.tmps[100]?.getD undef = u := ⟨_, rfl⟩
  obtain ⟨u101, hu101⟩ : ∃ u, a.tmps[101]?.getD undef = u := ⟨_, rfl⟩
  obtain ⟨u102, hu102⟩ : ∃ u, a.tmps[102]?.getD undef = u := ⟨_, rfl⟩
  obtain ⟨u103, hu103⟩ : ∃ u, a.tmps[103]?.getD undef = u := ⟨_, rfl⟩
  obtain ⟨u104, hu104⟩ : ∃ u, a.tmps[104]?.getD undef = u := ⟨_, rfl⟩
  obtain ⟨u105, hu105⟩ : ∃ u, a.tmps[105]?.getD undef = u := ⟨_, rfl⟩
  obtain ⟨u106, hu106⟩ : ∃ u, a.tmps[106]?.getD undef = u := ⟨_, rfl⟩
  obtain ⟨u107, hu107⟩ : ∃ u, a.tmps[107]?.getD undef = u := ⟨_, rfl⟩
  obtain ⟨u108, hu108⟩ : ∃ u, a.tmps[108]?.getD undef = u := ⟨_, rfl⟩
  obtain ⟨u109, hu109⟩ : ∃ u, a.tmps[109]?.getD undef = u := ⟨_, rfl⟩
  obtain ⟨u110, hu110⟩ : ∃ u, a.tmps[110]?.getD undef = u := ⟨_, rfl⟩
  obtain ⟨u111, hu111⟩ : ∃ u, a.tmps[111]?.getD undef = u := ⟨_, rfl⟩
  obtain ⟨u112, hu112⟩ : ∃ u, a.tmps[112]?.getD undef = u := ⟨_, rfl⟩
  obtain ⟨u113, hu113⟩ : ∃ u, a.tmps[113]?.getD undef = u := ⟨_, rfl⟩
  obtain ⟨u114, hu114⟩ : ∃ u, a.tmps[114]?.getD undef = u := ⟨_, rfl⟩
  obtain ⟨u115, hu115⟩ : ∃ u, a.tmps[115]?.getD undef = u := ⟨_, rfl⟩
  obtain ⟨u116, hu116⟩ : ∃ u, a.tmps[116]?.getD undef = u := ⟨_, rfl⟩
  obtain ⟨u117, hu117⟩ : ∃ u, a.tmps[117]?.getD undef = u := ⟨_, rfl⟩
  obtain ⟨u118, hu118⟩ : ∃ u, a.tmps[118]?.getD undef = u := ⟨_, rfl⟩
  obtain ⟨u119, hu119⟩ : ∃ u, a.tmps[119]?.getD undef = u := ⟨_, rfl⟩
  obtain ⟨u120, hu120⟩ : ∃ u, a.tmps[120]?.getD undef = u := ⟨_, rfl⟩
  obtain ⟨u121, hu121⟩ : ∃ u, a.tmps[121]?.getD undef = u := ⟨_, rfl⟩
  obtain ⟨u122, hu122⟩ : ∃ u, a.tmps[122]?.getD undef = u := ⟨_, rfl⟩
  obtain ⟨u123, hu123⟩ : ∃ u, a.tmps[123]?.getD undef = u := ⟨_, rfl⟩
  obtain ⟨u124, hu124⟩ : ∃ u, a.tmps[124]?.getD undef = u := ⟨_, rfl⟩
  obtain ⟨u125, hu125⟩ : ∃ u, a.tmps[125]?.getD undef = u := ⟨_, rfl⟩
  obtain ⟨u126, hu126⟩ : ∃ u, a.tmps[126]?.getD undef = u := ⟨_, rfl⟩
  obtain ⟨u127, hu127⟩ : ∃ u, a.tmps[127]?.getD undef = u := ⟨_, rfl⟩
  obtain ⟨u128, hu128⟩ : ∃ u, a.tmps[128]?.getD undef = u := ⟨_, rfl⟩
  obtain ⟨u129, hu129⟩ : ∃ u, a.tmps[129]?.getD undef = u := ⟨_, rfl⟩
  obtain ⟨u130, hu130⟩ : ∃ u, a.tmps[130]?.getD undef = u := ⟨_, rfl⟩
  obtain ⟨u131, hu131⟩ : ∃ u, a.tmps[131]?.getD undef = u := ⟨_, rfl⟩
  obtain ⟨u132, hu132⟩ : ∃ u, a.tmps[132]?.getD undef = u := ⟨_, rfl⟩
  obtain ⟨u133, hu133⟩ : ∃ u, a.tmps[133]?.getD undef = u := ⟨_, rfl⟩
  obtain ⟨u134, hu134⟩ : ∃ u, a.tmps[134]?.getD undef = u := ⟨_, rfl⟩
  obtain ⟨u135, hu135⟩ : ∃ u, a.tmps[135]?.getD undef = u := ⟨_, rfl⟩
  obtain ⟨u136, hu136⟩ : ∃ u, a.tmps[136]?.getD undef = u := ⟨_, rfl⟩
  obtain ⟨u137, hu137⟩ : ∃ u, a.tmps[137]?.getD undef = u := ⟨_, rfl⟩
  obtain ⟨u138, hu138⟩ : ∃ u, a.tmps[138]?.getD undef = u := ⟨_, rfl⟩
  obtain ⟨u139, hu139⟩ : ∃ u, a.tmps[139]?.getD undef = u := ⟨_, rfl⟩
  obtain ⟨u140, hu140⟩ : ∃ u, a.tmps[140]?.getD undef = u := ⟨_, rfl⟩
  obtain ⟨u141, hu141⟩ : ∃ u, a.tmps[141]?.getD undef = u := ⟨_, rfl⟩
  obtain ⟨u142, hu142⟩ : ∃ u, a.tmps[142]?.getD undef = u := ⟨_, rfl⟩
  obtain ⟨u143, hu143⟩ : ∃ u, a.tmps[143]?.getD undef = u := ⟨_, rfl⟩
  obtain ⟨u144, hu144⟩ : ∃ u, a.tmps[144]?.getD undef = u := ⟨_, rfl⟩
  obtain ⟨u145, hu145⟩ : ∃ u, a.tmps[145]?.getD undef = u := ⟨_, rfl⟩
  obtain ⟨u146, hu146⟩ : ∃ u, a.tmps[146]?.getD undef = u := ⟨_, rfl⟩
  obtain ⟨u147, hu147⟩ : ∃ u, a.tmps[147]?.getD undef = u := ⟨_, rfl⟩
  obtain ⟨u148, hu148⟩ : ∃ u, a.tmps[148]?.getD undef = u := ⟨_, rfl⟩
  obtain ⟨u149, hu149⟩ : ∃ u, a.tmps[149]?.getD undef = u := ⟨_, rfl⟩
  obtain ⟨u150, hu150⟩ : ∃ u, a.tmps[150]?.getD undef = u := ⟨_, rfl⟩
  obtain ⟨u151, hu151⟩ : ∃ u, a.tmps[151]?.getD undef = u := ⟨_, rfl⟩
  obtain ⟨u152, hu152⟩ : ∃ u, a.tmps[152]?.getD undef = u := ⟨_, rfl⟩
  obtain ⟨u153, hu153⟩ : ∃ u, a.tmps[153]?.getD undef = u := ⟨_, rfl⟩
  obtain ⟨u154, hu154⟩ : ∃ u, a.tmps[154]?.getD undef = u := ⟨_, rfl⟩
  obtain ⟨u155, hu155⟩ : ∃ u, a.tmps[155]?.getD undef = u := ⟨_, rfl⟩
  obtain ⟨u156, hu156⟩ : ∃ u, a.tmps[156]?.getD undef = u := ⟨_, rfl⟩
  obtain ⟨u157, hu157⟩ : ∃ u, a.tmps[157]?.getD undef = u := ⟨_, rfl⟩
  obtain ⟨u158, hu158⟩ : ∃ u, a.tmps[158]?.getD undef = u := ⟨_, rfl⟩
  obtain ⟨u159, hu159⟩ : ∃ u, a.tmps[159]?.getD undef = u := ⟨_, rfl⟩
  obtain ⟨u160, hu160⟩ : ∃ u, a.tmps[160]?.getD undef = u := ⟨_, rfl⟩
  obtain ⟨u161, hu161⟩ : ∃ u, a.tmps[161]?.getD undef = u := ⟨_, rfl⟩
  obtain ⟨u162, hu162⟩ : ∃ u, a.tmps[162]?.getD undef = u := ⟨_, rfl⟩
  have hA : a = ⟨#[u0, u1, .pointer (some ⟨w.heap.size, 0, none⟩), .pointer (some ⟨w.heap.size + 1, 0, none⟩), .bool false, bv g5, bv g6, bv g7, bv g8, u9, u10, u11, u12, u13, u14, u15, u16, u17, u18, u19, u20, u21, u22, u23, u24, u25, u26, u27, u28, u29, u30, u31, u32, u33, u34, u35, u36, u37, u38, u39, u40, u41, u42, u43, u44, u45, u46, u47, u48, u49, u50, u51, u52, u53, u54, u55, u56, u57, u58, u59, u60, u61, u62, u63, u64, u65, u66, u67, u68, u69, u70, u71, u72, u73, u74, u75, u76, u77, u78, u79, u80, u81, u82, u83, u84, u85, u86, u87, u88, u89, u90, u91, u92, u93, u94, u95, u96, u97, u98, u99, u100, u101, u102, u103, u104, u105, u106, u107, u108, u109, u110, u111, u112, u113, u114, u115, u116, u117, u118, u119, u120, u121, u122, u123, u124, u125, u126, u127, u128, u129, u130, u131, u132, u133, u134, u135, u136, u137, u138, u139, u140, u141, u142, u143, u144, u145, u146, u147, u148, u149, u150, u151, u152, u153, u154, u155, u156, u157, u158, u159, u160, u161, u162], []⟩ := Gr.act_eq (l := [u0, u1, .pointer (some ⟨w.heap.size, 0, none⟩), .pointer (some ⟨w.heap.size + 1, 0, none⟩), .bool false, bv g5, bv g6, bv g7, bv g8, u9, u10, u11, u12, u13, u14, u15, u16, u17, u18, u19, u20, u21, u22, u23, u24, u25, u26, u27, u28, u29, u30, u31, u32, u33, u34, u35, u36, u37, u38, u39, u40, u41, u42, u43, u44, u45, u46, u47, u48, u49, u50, u51, u52, u53, u54, u55, u56, u57, u58, u59, u60, u61, u62, u63, u64, u65, u66, u67, u68, u69, u70, u71, u72, u73, u74, u75, u76, u77, u78, u79, u80, u81, u82, u83, u84, u85, u86, u87, u88, u89, u90, u91, u92, u93, u94, u95, u96, u97, u98, u99, u100, u101, u102, u103, u104, u105, u106, u107, u108, u109, u110, u111, u112, u113, u114, u115, u116, u117, u118, u119, u120, u121, u122, u123, u124, u125, u126, u127, u128, u129, u130, u131, u132, u133, u134, u135, u136, u137, u138, u139, u140, u141, u142, u143, u144, u145, u146, u147, u148, u149, u150, u151, u152, u153, u154, u155, u156, u157, u158, u159, u160, u161, u162]) hfr.d hfr.s (by
    intro i hi
    match i, hi with
    | 0, _ => exact hu0
    | 1, _ => exact hu1
    | 2, _ => exact Gr.slot (hfr.f 2 (by intro j hj; (try dsimp only); split <;> omega))
    | 3, _ => exact Gr.slot (hfr.f 3 (by intro j hj; (try dsimp only); split <;> omega))
    | 4, _ => exact Gr.slot (hfr.f 4 (by intro j hj; (try dsimp only); split <;> omega))
    | 5, _ => exact Gr.slot hv5
    | 6, _ => exact Gr.slot hv6
    | 7, _ => exact Gr.slot hv7
    | 8, _ => exact Gr.slot hv8
    | 9, _ => exact hu9
    | 10, _ => exact hu10
    | 11, _ => exact hu11
    | 12, _ => exact hu12
    | 13, _ => exact hu13
    | 14, _ => exact hu14
    | 15, _ => exact hu15
    | 16, _ => exact hu16
    | 17, _ => exact hu17
    | 18, _ => exact hu18
    | 19, _ => exact hu19
    | 20, _ => exact hu20
    | 21, _ => exact hu21
    | 22, _ => exact hu22
    | 23, _ => exact hu23
    | 24, _ => exact hu24
    | 25, _ => exact hu25
    | 26, _ => exact hu26
    | 27, _ => exact hu27
    | 28, _ => exact hu28
    | 29, _ => exact hu29
    | 30, _ => exact hu30
    | 31, _ => exact hu31
    | 32, _ => exact hu32
    | 33, _ => exact hu33
    | 34, _ => exact hu34
    | 35, _ => exact hu35
    | 36, _ => exact hu36
    | 37, _ => exact hu37
    | 38, _ => exact hu38
    | 39, _ => exact hu39
    | 40, _ => exact hu40
    | 41, _ => exact hu41
    | 42, _ => exact hu42
    | 43, _ => exact hu43
    | 44, _ => exact hu44
    | 45, _ => exact hu45
    | 46, _ => exact hu46
    | 47, _ => exact hu47
    | 48, _ => exact hu48
    | 49, _ => exact hu49
    | 50, _ => exact hu50
    | 51, _ => exact hu51
    | 52, _ => exact hu52
    | 53, _ => exact hu53
    | 54, _ => exact hu54
    | 55, _ => exact hu55
    | 56, _ => exact hu56
    | 57, _ => exact hu57
    | 58, _ => exact hu58
    | 59, _ => exact hu59
    | 60, _ => exact hu60
    | 61, _ => exact hu61
    | 62, _ => exact hu62
    | 63, _ => exact hu63
    | 64, _ => exact hu64
    | 65, _ => exact hu65
    | 66, _ => exact hu66
    | 67, _ => exact hu67
    | 68, _ => exact hu68
    | 69, _ => exact hu69
    | 70, _ => exact hu70
    | 71, _ => exact hu71
    | 72, _ => exact hu72
    | 73, _ => exact hu73
    | 74, _ => exact hu74
    | 75, _ => exact hu75
    | 76, _ => exact hu76
    | 77, _ => exact hu77
    | 78, _ => exact hu78
    | 79, _ => exact hu79
    | 80, _ => exact hu80
    | 81, _ => exact hu81
    | 82, _ => exact hu82
    | 83, _ => exact hu83
    | 84, _ => exact hu84
    | 85, _ => exact hu85
    | 86, _ => exact hu86
    | 87, _ => exact hu87
    | 88, _ => exact hu88
    | 89, _ => exact hu89
    | 90, _ => exact hu90
    | 91, _ => exact hu91
    | 92, _ => exact hu92
    | 93, _ => exact hu93
    | 94, _ => exact hu94
    | 95, _ => exact hu95
    | 96, _ => exact hu96
    | 97, _ => exact hu97
    | 98, _ => exact hu98
    | 99, _ => exact hu99
    | 100, _ => exact hu100
    | 101, _ => exact hu101
    | 102, _ => exact hu102
    | 103, _ => exact hu103
    | 104, _ => exact hu104
    | 105, _ => exact hu105
    | 106, _ => exact hu106
    | 107, _ => exact hu107
    | 108, _ => exact hu108
    | 109, _ => exact hu109
    | 110, _ => exact hu110
    | 111, _ => exact hu111
    | 112, _ => exact hu112
    | 113, _ => exact hu113
    | 114, _ => exact hu114
    | 115, _ => exact hu115
    | 116, _ => exact hu116
    | 117, _ => exact hu117
    | 118, _ => exact hu118
    | 119, _ => exact hu119
    | 120, _ => exact hu120
    | 121, _ => exact hu121
    | 122, _ => exact hu122
    | 123, _ => exact hu123
    | 124, _ => exact hu124
    | 125, _ => exact hu125
    | 126, _ => exact hu126
    | 127, _ => exact hu127
    | 128, _ => exact hu128
    | 129, _ => exact hu129
    | 130, _ => exact hu130
    | 131, _ => exact hu131
    | 132, _ => exact hu132
    | 133, _ => exact hu133
    | 134, _ => exact hu134
    | 135, _ => exact hu135
    | 136, _ => exact hu136
    | 137, _ => exact hu137
    | 138, _ => exact hu138
    | 139, _ => exact hu139
    | 140, _ => exact hu140
    | 141, _ => exact hu141
    | 142, _ => exact hu142
    | 143, _ => exact hu143
    | 144, _ => exact hu144
    | 145, _ => exact hu145
    | 146, _ => exact hu146
    | 147, _ => exact hu147
    | 148, _ => exact hu148
    | 149, _ => exact hu149
    | 150, _ => exact hu150
    | 151, _ => exact hu151
    | 152, _ => exact hu152
    | 153, _ => exact hu153
    | 154, _ => exact hu154
    | 155, _ => exact hu155
    | 156, _ => exact hu156
    | 157, _ => exact hu157
    | 158, _ => exact hu158
    | 159, _ => exact hu159
    | 160, _ => exact hu160
    | 161, _ => exact hu161
    | 162, _ => exact hu162
    | i + 163, h => simp only [List.length_cons, List.length_nil] at h; omega)
  clear hu0 hu1 hu9 hu10 hu11 hu12 hu13 hu14 hu15 hu16 hu17 hu18 hu19 hu20 hu21 hu22 hu23 hu24 hu25 hu26 hu27 hu28 hu29 hu30 hu31 hu32 hu33 hu34 hu35 hu36 hu37 hu38 hu39 hu40 hu41 hu42 hu43 hu44 hu45 hu46 hu47 hu48 hu49 hu50 hu51 hu52 hu53 hu54 hu55 hu56 hu57 hu58 hu59 hu60 hu61 hu62 hu63 hu64 hu65 hu66 hu67 hu68 hu69 hu70 hu71 hu72 hu73 hu74 hu75 hu76 hu77 hu78 hu79 hu80 hu81 hu82 hu83 hu84 hu85 hu86 hu87 hu88 hu89 hu90 hu91 hu92 hu93 hu94 hu95 hu96 hu97 hu98 hu99 hu100 hu101 hu102 hu103 hu104 hu105 hu106 hu107 hu108 hu109 hu110 hu111 hu112 hu113 hu114 hu115 hu116 hu117 hu118 hu119 hu120 hu121 hu122 hu123 hu124 hu125 hu126 hu127 hu128 hu129 hu130 hu131 hu132 hu133 hu134 hu135 hu136 hu137 hu138 hu139 hu140 hu141 hu142 hu143 hu144 hu145 hu146 hu147 hu148 hu149 hu150 hu151 hu152 hu153 hu154 hu155 hu156 hu157 hu158 hu159 hu160 hu161 hu162
  subst hA
  have B1 := Lib.hid (B0.out.trans (hb.mono B0.out.size))
  obtain ⟨o0, o1, o2, o3, o4, o5, o6⟩ := seven (blk_below R2.out hb (blk_lt R2.out))
  have SZ := Lib.hid (blk_lt (blk_below R2.out hb (blk_lt R2.out)))
  have C5 := Lib.hid (fun X (q : Below W1.heap.size W1 X) x => belowx_any p.vars x g5 X ((q.cell (p := ⟨g5, 0, none⟩) (cell_lt k5)).trans k5))
  have C8 := Lib.hid (fun X (q : Below W1.heap.size W1 X) x => belowx_any p.fs.length x g8 X ((q.cell (p := ⟨g8, 0, none⟩) (cell_lt k8)).trans k8))
  have CA := Lib.hid (fun X (q : Below W1.heap.size W1 X) => vars_any p.vars g5 A args ca X ((HA.out.below B1.out).below q) hl ((q.cell (p := ⟨g5, 0, none⟩) (cell_lt k5)).trans k5))
  have CX := Lib.hid (fun X k (q : Below W1.heap.size W1 X) (hk : X.cell? ⟨k, 0, none⟩ = some (bv g5)) => orNonex_any p.vars a g5 k X ((q.cell (p := ⟨g5, 0, none⟩) (cell_lt k5)).trans k5) hk)
  have HB := Lib.hid (rfl : bare ⟨kind, fn, a, b, c, args, heat⟩ = bare ⟨kind, fn, a, b, c, args, heat⟩)
  clear hb hfr hall hv5 hv6 hv7 hv8 hl hh HA R1 R2
  by_cases hk3 : kind = 3
  · subst hk3
    go_upto_region 11 with (first | (go_at_call 69; ((with_reducible refine (belowx_any _ _ _ _ (by first | exact k5 | exact k6 | exact k7 | exact k8)).mono ?_); rintro e w2 ⟨rfl, rfl⟩)) | (go_at_call 94; ((with_reducible refine (CBa.out _).mono ?_); rintro e w3 ⟨rfl, hb3⟩; have B3 := Lib.hid hb3)))
    cases h1 : inB p.vars a with
    | false =>
      have HO := Lib.hid (show okO p ⟨3, fn, a, b, c, args, heat⟩ = false from by simp [okO, okK, h0, h1])
      go_wp2_with (first | (go_at_call 69; ((with_reducible refine (belowx_any _ _ _ _ (by first | exact k5 | exact k6 | exact k7 | exact k8)).mono ?_); rintro e w2 ⟨rfl, rfl⟩)) | (go_at_call 94; ((with_reducible refine (CBa.out _).mono ?_); rintro e w3 ⟨rfl, hb3⟩; have B3 := Lib.hid hb3)))
      go_ret
      exact ⟨by rw [HO.out]; rfl, B1.out⟩
    | true =>
      cases h2 : inB p.vars b with
      | false =>
        have HO := Lib.hid (show okO p ⟨3, fn, a, b, c, args, heat⟩ = false from by simp [okO, okK, h0, h1, h2])
        go_wp2_with (first | (go_at_call 69; ((with_reducible refine (belowx_any _ _ _ _ (by first | exact k5 | exact k6 | exact k7 | exact k8)).mono ?_); rintro e w2 ⟨rfl, rfl⟩)) | (go_at_call 94; ((with_reducible refine (CBa.out _).mono ?_); rintro e w3 ⟨rfl, hb3⟩; have B3 := Lib.hid hb3)))
        go_ret
        exact ⟨by rw [HO.out]; rfl, B1.out⟩
      | true =>
        cases h3 : inB p.fields c with
        | false =>
          have HO := Lib.hid (show okO p ⟨3, fn, a, b, c, args, heat⟩ = false from by simp [okO, okK, h0, h1, h2, h3])
          go_wp2_with (first | (go_at_call 69; ((with_reducible refine (belowx_any _ _ _ _ (by first | exact k5 | exact k6 | exact k7 | exact k8)).mono ?_); rintro e w2 ⟨rfl, rfl⟩)) | (go_at_call 94; ((with_reducible refine (CBa.out _).mono ?_); rintro e w3 ⟨rfl, hb3⟩; have B3 := Lib.hid hb3)))
          go_ret
          exact ⟨by rw [HO.out]; rfl, B1.out⟩
        | true =>
          have HO := Lib.hid (show okO p ⟨3, fn, a, b, c, args, heat⟩ = bare ⟨3, fn, a, b, c, args, heat⟩ from by simp [okO, okK, h0, h1, h2, h3])
          go_wp2_with (first | (go_at_call 69; ((with_reducible refine (belowx_any _ _ _ _ (by first | exact k5 | exact k6 | exact k7 | exact k8)).mono ?_); rintro e w2 ⟨rfl, rfl⟩)) | (go_at_call 94; ((with_reducible refine (CBa.out _).mono ?_); rintro e w3 ⟨rfl, hb3⟩; have B3 := Lib.hid hb3)))
          go_ret
          exact ⟨by rw [HO.out]; rfl, B1.out.trans (B3.out.mono B1.out.size)⟩
  · have e3 : (kind == 3) = false := by rw [beq_eq_false_iff_ne]; exact hk3
    by_cases hk4 : kind = 4
    · subst hk4
      go_upto_region 11 with (first | (go_at_call 69; ((with_reducible refine (belowx_any _ _ _ _ (by first | exact k5 | exact k6 | exact k7 | exact k8)).mono ?_); rintro e w2 ⟨rfl, rfl⟩)) | (go_at_call 94; ((with_reducible refine (CBa.out _).mono ?_); rintro e w3 ⟨rfl, hb3⟩; have B3 := Lib.hid hb3)))
      cases h1 : inB p.vars a with
      | false =>
        have HO := Lib.hid (show okO p ⟨4, fn, a, b, c, args, heat⟩ = false from by simp [okO, okK, h0, h1])
        go_wp2_with (first | (go_at_call 69; ((with_reducible refine (belowx_any _ _ _ _ (by first | exact k5 | exact k6 | exact k7 | exact k8)).mono ?_); rintro e w2 ⟨rfl, rfl⟩)) | (go_at_call 94; ((with_reducible refine (CBa.out _).mono ?_); rintro e w3 ⟨rfl, hb3⟩; have B3 := Lib.hid hb3)))
        go_ret
        exact ⟨by rw [HO.out]; rfl, B1.out⟩
      | true =>
        cases h2 : inB p.vars b with
        | false =>
          have HO := Lib.hid (show okO p ⟨4, fn, a, b, c, args, heat⟩ = false from by simp [okO, okK, h0, h1, h2])
          go_wp2_with (first | (go_at_call 69; ((with_reducible refine (belowx_any _ _ _ _ (by first | exact k5 | exact k6 | exact k7 | exact k8)).mono ?_); rintro e w2 ⟨rfl, rfl⟩)) | (go_at_call 94; ((with_reducible refine (CBa.out _).mono ?_); rintro e w3 ⟨rfl, hb3⟩; have B3 := Lib.hid hb3)))
          go_ret
          exact ⟨by rw [HO.out]; rfl, B1.out⟩
        | true =>
          cases h3 : inB p.fields c with
          | false =>
            have HO := Lib.hid (show okO p ⟨4, fn, a, b, c, args, heat⟩ = false from by simp [okO, okK, h0, h1, h2, h3])
            go_wp2_with (first | (go_at_call 69; ((with_reducible refine (belowx_any _ _ _ _ (by first | exact k5 | exact k6 | exact k7 | exact k8)).mono ?_); rintro e w2 ⟨rfl, rfl⟩)) | (go_at_call 94; ((with_reducible refine (CBa.out _).mono ?_); rintro e w3 ⟨rfl, hb3⟩; have B3 := Lib.hid hb3)))
            go_ret
            exact ⟨by rw [HO.out]; rfl, B1.out⟩
          | true =>
            have HO := Lib.hid (show okO p ⟨4, fn, a, b, c, args, heat⟩ = bare ⟨4, fn, a, b, c, args, heat⟩ from by simp [okO, okK, h0, h1, h2, h3])
            go_wp2_with (first | (go_at_call 69; ((with_reducible refine (belowx_any _ _ _ _ (by first | exact k5 | exact k6 | exact k7 | exact k8)).mono ?_); rintro e w2 ⟨rfl, rfl⟩)) | (go_at_call 94; ((with_reducible refine (CBa.out _).mono ?_); rintro e w3 ⟨rfl, hb3⟩; have B3 := Lib.hid hb3)))
            go_ret
            exact ⟨by rw [HO.out]; rfl, B1.out.trans (B3.out.mono B1.out.size)⟩
    · have e4 : (kind == 4) = false := by rw [beq_eq_false_iff_ne]; exact hk4
      have := HKK.out; omega
end Pm
end Go.Proofs.Ytnhgoeoffjcooaa
