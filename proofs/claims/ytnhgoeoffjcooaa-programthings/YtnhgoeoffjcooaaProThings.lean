/-
  Programs: the law's ProgramThings. Made by wip/gen/prothings.py.
-/
import Derived.Test.YtnhgoeoffjcooaaProRight
namespace Go.Proofs.Ytnhgoeoffjcooaa
open Go.RowKit
namespace Pm
open B
set_option linter.unusedVariables false
theorem right_objs (p : P) (k : Nat) : 1 ≤ (rightq p k).objs ∧ (rightq p k).objs ≤ 12 ∧ (rightq p k).fs.length ≤ 8 := by
  have h := atq_range p.objs 12 (by decide)
  have hF := rightFs_len (1 + atq p.vars 30) p.fs
  exact ⟨by show 1 ≤ 1 + atq p.objs 12; omega, by show 1 + atq p.objs 12 ≤ 12; omega, hF.2⟩
set_option maxRecDepth 100000 in
set_option maxHeartbeats 8000000 in
theorem things_walk (p : P) (Af : Option Addr) (cf : Nat) (Ae : Option Addr) (ce : Nat) (Ao : Option Addr) (co : Nat) (t : Int) (w : World) (h : PIn 0 w p Af cf Ae ce Ao co) :
    Calls Try.prog 6 #[pv p Af cf Ae ce Ao co, .int .i64 t] w fun e w' => e = .returned (.bool true) ∧ Below w.heap.size w w' := by
  obtain ⟨Q, hQ⟩ : ∃ Q, rightq p 4 = Q := ⟨_, rfl⟩
  have SQ : Hid (Sm Q) := Lib.hid (hQ ▸ right_sm p 4 (by decide))
  have hQo : 1 ≤ Q.objs ∧ Q.objs ≤ 12 ∧ Q.fs.length ≤ 8 := hQ ▸ right_objs p 4
  have QO : Hid (0 ≤ Q.objs ∧ Q.objs ≤ 1000000) := Lib.hid ⟨by omega, by omega⟩
  have QF : Hid (Q.fs.length ≤ 2000000) := Lib.hid (by omega)
  have QR := Lib.hid hQo
  have WT := Lib.hid (show IntKind.i64.wrap (Q.objs + (Q.fs.length : Int)) = Q.objs + (Q.fs.length : Int) from IntWalk.i64_in _ (by omega))
  have CR : Hid (∀ X, Below w.heap.size w X → Calls Try.prog 16 #[pv p Af cf Ae ce Ao co, .int .i64 4] X fun e w' => ∃ Bf df Be de Bo d, e = .returned (pv Q Bf df Be de Bo d) ∧ PIn X.heap.size w' Q Bf df Be de Bo d ∧ Below X.heap.size X w') := Lib.hid (fun X q => by
    have := right_any 0 p Af cf Ae ce Ao co 4 X (h.below q) (by decide)
    rw [hQ] at this
    exact this)
  have bA := below1 w (.cells #[.int .i64 p.vars, .int .i64 p.objs, .int .i64 p.fields, .slice Af p.fs.length cf, .slice Ae p.en.length ce, .slice Ao p.ops.length co] 26)
  have B0 := Lib.hid bA
  have R1 := Lib.hid (heap_last w (.cells #[.int .i64 p.vars, .int .i64 p.objs, .int .i64 p.fields, .slice Af p.fs.length cf, .slice Ae p.en.length ce, .slice Ao p.ops.length co] 26) w.heap.size rfl)
  clear bA h hQ hQo
  go_enter Try.func6, Try.ntmps6
  go_upto_region 3 with (go_at_call 11; ((with_reducible refine (awake_any _).mono ?_); rintro e W1 ⟨rfl, hb1⟩; have B1 := Lib.hid (B0.out.trans (hb1.mono B0.out.size)); have R2 := Lib.hid (blk_below R1.out hb1 (blk_lt R1.out)); clear hb1; obtain ⟨x0, x1, x2, x3, x4, x5⟩ := cells6 R2.out))
  go_upto_region 4 with (first
    | (go_at_call 16; ((with_reducible refine (CR.out _ B1.out).mono ?_); rintro e W2 ⟨Bf, bf, Be, be, Bo, b, rfl, q1, hb2⟩; have B2 := Lib.hid (B1.out.trans (hb2.mono B1.out.size)); have Q1 := Lib.hid q1; clear hb2 q1))
    | (go_at_call 13; ((with_reducible refine (own_any _ Q Bf bf Be be Bo b _ Q1.out SQ.out).mono ?_); rintro e W3 ⟨Cf, df, Ce, de, Co, d, rfl, q3, hb3⟩; have B3 := Lib.hid (B2.out.trans (hb3.mono B2.out.size)); have Q3 := Lib.hid q3; clear hb3 q3)))
  have R4 := Lib.hid (heap_last W3 (.cells #[.int .i64 Q.vars, .int .i64 Q.objs, .int .i64 Q.fields, .slice Cf Q.fs.length df, .slice Ce Q.en.length de, .slice Co Q.ops.length d] 33) W3.heap.size rfl)
  have B4 := Lib.hid (B3.out.trans ((below1 W3 (.cells #[.int .i64 Q.vars, .int .i64 Q.objs, .int .i64 Q.fields, .slice Cf Q.fs.length df, .slice Ce Q.en.length de, .slice Co Q.ops.length d] 33)).mono B3.out.size))
  generalize hGX : W3.heap.size = gx at *
  generalize W3.alloc (.cells #[.int .i64 Q.vars, .int .i64 Q.objs, .int .i64 Q.fields, .slice Cf Q.fs.length df, .slice Ce Q.en.length de, .slice Co Q.ops.length d] 33) = W4 at *
  clear x0 x1 x2 x3 x4 x5 hGX
  refine Gr.regionS 9 (fun i => i + 16) [.val (pv Q Cf df Ce de Co d), .val (.int .i64 (Q.objs + (Q.fs.length : Int))), .val (.pointer (some ⟨gx, 1, none⟩)), .val (.int .i64 Q.objs), .val (.pointer (some ⟨gx, 3, none⟩)), .val (.slice Cf Q.fs.length df), .val (.int .i64 (Q.fs.length : Int)), .val (.int .i64 (Q.objs + (Q.fs.length : Int))), .val (.bool false)] (by kernel_rfl) (by kernel_rfl) (by rfl) ?_ ?_
  · intro i o a W1 hi ho hb hfr hpre
    have t5 : a.tmps[5]?.getD undef = .pointer (some ⟨gx, 0, none⟩) := Gr.slot (hfr.f 5 (by intro j hj; omega))
    obtain ⟨k0, k1, k2, k3, k4, k5⟩ := cells6 (blk_below R4.out hb (blk_lt R4.out))
    match i, hi with
    | 0, _ =>
      obtain rfl := Option.some.inj ho
      refine Gr.val (v := pv Q Cf df Ce de Co d) (w' := W1) (by simp [go_sem, t5, k0, k1, k2, k3, k4, k5]) ⟨_, rfl, rfl, Below.refl _ _⟩
    | 1, _ =>
      have p16 : a.tmps[16]?.getD undef = pv Q Cf df Ce de Co d := Gr.slot (hpre { on := 0, ground := .data } (by obtain rfl := Option.some.inj ho; simp) rfl (by decide))
      obtain rfl := Option.some.inj ho
      refine Gr.call (f := 19) (args := #[pv Q Cf df Ce de Co d]) (by simp [go_sem, p16]) ((things_any Q Cf df Ce de Co d W1 QO.out QF.out).mono ?_)
      rintro e w' ⟨rfl, h2⟩
      exact ⟨_, rfl, _, rfl, rfl, h2⟩
    | 2, _ =>
      obtain rfl := Option.some.inj ho
      refine Gr.val (v := .pointer (some ⟨gx, 1, none⟩)) (w' := W1) (by simp [go_sem, t5]) ⟨_, rfl, rfl, Below.refl _ _⟩
    | 3, _ =>
      have p18 : a.tmps[18]?.getD undef = .pointer (some ⟨gx, 1, none⟩) := Gr.slot (hpre { on := 2, ground := .data } (by obtain rfl := Option.some.inj ho; simp) rfl (by decide))
      obtain rfl := Option.some.inj ho
      refine Gr.val (v := .int .i64 Q.objs) (w' := W1) (by simp [go_sem, p18, k1]) ⟨_, rfl, rfl, Below.refl _ _⟩
    | 4, _ =>
      obtain rfl := Option.some.inj ho
      refine Gr.val (v := .pointer (some ⟨gx, 3, none⟩)) (w' := W1) (by simp [go_sem, t5]) ⟨_, rfl, rfl, Below.refl _ _⟩
    | 5, _ =>
      have p20 : a.tmps[20]?.getD undef = .pointer (some ⟨gx, 3, none⟩) := Gr.slot (hpre { on := 4, ground := .data } (by obtain rfl := Option.some.inj ho; simp) rfl (by decide))
      obtain rfl := Option.some.inj ho
      refine Gr.val (v := .slice Cf Q.fs.length df) (w' := W1) (by simp [go_sem, p20, k3]) ⟨_, rfl, rfl, Below.refl _ _⟩
    | 6, _ =>
      have p21 : a.tmps[21]?.getD undef = .slice Cf Q.fs.length df := Gr.slot (hpre { on := 5, ground := .data } (by obtain rfl := Option.some.inj ho; simp) rfl (by decide))
      obtain rfl := Option.some.inj ho
      refine Gr.val (v := .int .i64 (Q.fs.length : Int)) (w' := W1) (by simp [go_sem, p21]) ⟨_, rfl, rfl, Below.refl _ _⟩
    | 7, _ =>
      have p19 : a.tmps[19]?.getD undef = .int .i64 Q.objs := Gr.slot (hpre { on := 3, ground := .data } (by obtain rfl := Option.some.inj ho; simp) rfl (by decide))
      have p22 : a.tmps[22]?.getD undef = .int .i64 (Q.fs.length : Int) := Gr.slot (hpre { on := 6, ground := .data } (by obtain rfl := Option.some.inj ho; simp) rfl (by decide))
      obtain rfl := Option.some.inj ho
      refine Gr.val (v := .int .i64 (Q.objs + (Q.fs.length : Int))) (w' := W1) (by simp [go_sem, p19, p22, WT.out]) ⟨_, rfl, rfl, Below.refl _ _⟩
    | 8, _ =>
      have p17 : a.tmps[17]?.getD undef = .int .i64 (Q.objs + (Q.fs.length : Int)) := Gr.slot (hpre { on := 1, ground := .data } (by obtain rfl := Option.some.inj ho; simp) rfl (by decide))
      have p23 : a.tmps[23]?.getD undef = .int .i64 (Q.objs + (Q.fs.length : Int)) := Gr.slot (hpre { on := 7, ground := .data } (by obtain rfl := Option.some.inj ho; simp) rfl (by decide))
      obtain rfl := Option.some.inj ho
      refine Gr.val (v := .bool false) (w' := W1) (by simp [go_sem, p17, p23]) ⟨_, rfl, rfl, Below.refl _ _⟩
    | i + 9, h => omega
  intro a W5 hb hfr hall
  have v24 : a.eval (.tmp 24) = .bool false := hall 8 (by omega)
  obtain ⟨u16, hu16⟩ : ∃ u, a.tmps[16]?.getD undef = u := ⟨_, rfl⟩
  obtain ⟨u17, hu17⟩ : ∃ u, a.tmps[17]?.getD undef = u := ⟨_, rfl⟩
  obtain ⟨u18, hu18⟩ : ∃ u, a.tmps[18]?.getD undef = u := ⟨_, rfl⟩
  obtain ⟨u19, hu19⟩ : ∃ u, a.tmps[19]?.getD undef = u := ⟨_, rfl⟩
  obtain ⟨u20, hu20⟩ : ∃ u, a.tmps[20]?.getD undef = u := ⟨_, rfl⟩
  obtain ⟨u21, hu21⟩ : ∃ u, a.tmps[21]?.getD undef = u := ⟨_, rfl⟩
  obtain ⟨u22, hu22⟩ : ∃ u, a.tmps[22]?.getD undef = u := ⟨_, rfl⟩
  obtain ⟨u23, hu23⟩ : ∃ u, a.tmps[23]?.getD undef = u := ⟨_, rfl⟩
  have hA : a = ⟨#[pv p Af cf Ae ce Ao co, .int .i64 t, .pointer (some ⟨w.heap.size, 0, none⟩), undef, .bool false, .pointer (some ⟨gx, 0, none⟩), undef, undef, undef, undef, undef, .bool true, .bool false, pv p Af cf Ae ce Ao co, pv Q Bf bf Be be Bo b, pv Q Cf df Ce de Co d, u16, u17, u18, u19, u20, u21, u22, u23, .bool false, undef, undef, undef, undef, undef, undef, undef, undef, undef, undef, undef, undef, undef, undef, undef, undef, undef, undef, undef, undef, undef, undef, undef, undef, undef, undef, undef, undef, undef, undef, undef, undef, undef, undef, undef, undef, undef, undef, undef, undef, undef, undef, undef, undef, undef, undef, undef, undef, undef, undef, undef, undef, undef, undef, undef, undef, undef, undef, undef, undef, undef], []⟩ := Gr.act_eq (l := [pv p Af cf Ae ce Ao co, .int .i64 t, .pointer (some ⟨w.heap.size, 0, none⟩), undef, .bool false, .pointer (some ⟨gx, 0, none⟩), undef, undef, undef, undef, undef, .bool true, .bool false, pv p Af cf Ae ce Ao co, pv Q Bf bf Be be Bo b, pv Q Cf df Ce de Co d, u16, u17, u18, u19, u20, u21, u22, u23, .bool false, undef, undef, undef, undef, undef, undef, undef, undef, undef, undef, undef, undef, undef, undef, undef, undef, undef, undef, undef, undef, undef, undef, undef, undef, undef, undef, undef, undef, undef, undef, undef, undef, undef, undef, undef, undef, undef, undef, undef, undef, undef, undef, undef, undef, undef, undef, undef, undef, undef, undef, undef, undef, undef, undef, undef, undef, undef, undef, undef, undef, undef]) hfr.d hfr.s (by
    intro i hi
    match i, hi with
    | 0, _ => exact Gr.slot (hfr.f 0 (by intro j hj; omega))
    | 1, _ => exact Gr.slot (hfr.f 1 (by intro j hj; omega))
    | 2, _ => exact Gr.slot (hfr.f 2 (by intro j hj; omega))
    | 3, _ => exact Gr.slot (hfr.f 3 (by intro j hj; omega))
    | 4, _ => exact Gr.slot (hfr.f 4 (by intro j hj; omega))
    | 5, _ => exact Gr.slot (hfr.f 5 (by intro j hj; omega))
    | 6, _ => exact Gr.slot (hfr.f 6 (by intro j hj; omega))
    | 7, _ => exact Gr.slot (hfr.f 7 (by intro j hj; omega))
    | 8, _ => exact Gr.slot (hfr.f 8 (by intro j hj; omega))
    | 9, _ => exact Gr.slot (hfr.f 9 (by intro j hj; omega))
    | 10, _ => exact Gr.slot (hfr.f 10 (by intro j hj; omega))
    | 11, _ => exact Gr.slot (hfr.f 11 (by intro j hj; omega))
    | 12, _ => exact Gr.slot (hfr.f 12 (by intro j hj; omega))
    | 13, _ => exact Gr.slot (hfr.f 13 (by intro j hj; omega))
    | 14, _ => exact Gr.slot (hfr.f 14 (by intro j hj; omega))
    | 15, _ => exact Gr.slot (hfr.f 15 (by intro j hj; omega))
    | 16, _ => exact hu16
    | 17, _ => exact hu17
    | 18, _ => exact hu18
    | 19, _ => exact hu19
    | 20, _ => exact hu20
    | 21, _ => exact hu21
    | 22, _ => exact hu22
    | 23, _ => exact hu23
    | 24, _ => exact Gr.slot v24
    | 25, _ => exact Gr.slot (hfr.f 25 (by intro j hj; omega))
    | 26, _ => exact Gr.slot (hfr.f 26 (by intro j hj; omega))
    | 27, _ => exact Gr.slot (hfr.f 27 (by intro j hj; omega))
    | 28, _ => exact Gr.slot (hfr.f 28 (by intro j hj; omega))
    | 29, _ => exact Gr.slot (hfr.f 29 (by intro j hj; omega))
    | 30, _ => exact Gr.slot (hfr.f 30 (by intro j hj; omega))
    | 31, _ => exact Gr.slot (hfr.f 31 (by intro j hj; omega))
    | 32, _ => exact Gr.slot (hfr.f 32 (by intro j hj; omega))
    | 33, _ => exact Gr.slot (hfr.f 33 (by intro j hj; omega))
    | 34, _ => exact Gr.slot (hfr.f 34 (by intro j hj; omega))
    | 35, _ => exact Gr.slot (hfr.f 35 (by intro j hj; omega))
    | 36, _ => exact Gr.slot (hfr.f 36 (by intro j hj; omega))
    | 37, _ => exact Gr.slot (hfr.f 37 (by intro j hj; omega))
    | 38, _ => exact Gr.slot (hfr.f 38 (by intro j hj; omega))
    | 39, _ => exact Gr.slot (hfr.f 39 (by intro j hj; omega))
    | 40, _ => exact Gr.slot (hfr.f 40 (by intro j hj; omega))
    | 41, _ => exact Gr.slot (hfr.f 41 (by intro j hj; omega))
    | 42, _ => exact Gr.slot (hfr.f 42 (by intro j hj; omega))
    | 43, _ => exact Gr.slot (hfr.f 43 (by intro j hj; omega))
    | 44, _ => exact Gr.slot (hfr.f 44 (by intro j hj; omega))
    | 45, _ => exact Gr.slot (hfr.f 45 (by intro j hj; omega))
    | 46, _ => exact Gr.slot (hfr.f 46 (by intro j hj; omega))
    | 47, _ => exact Gr.slot (hfr.f 47 (by intro j hj; omega))
    | 48, _ => exact Gr.slot (hfr.f 48 (by intro j hj; omega))
    | 49, _ => exact Gr.slot (hfr.f 49 (by intro j hj; omega))
    | 50, _ => exact Gr.slot (hfr.f 50 (by intro j hj; omega))
    | 51, _ => exact Gr.slot (hfr.f 51 (by intro j hj; omega))
    | 52, _ => exact Gr.slot (hfr.f 52 (by intro j hj; omega))
    | 53, _ => exact Gr.slot (hfr.f 53 (by intro j hj; omega))
    | 54, _ => exact Gr.slot (hfr.f 54 (by intro j hj; omega))
    | 55, _ => exact Gr.slot (hfr.f 55 (by intro j hj; omega))
    | 56, _ => exact Gr.slot (hfr.f 56 (by intro j hj; omega))
    | 57, _ => exact Gr.slot (hfr.f 57 (by intro j hj; omega))
    | 58, _ => exact Gr.slot (hfr.f 58 (by intro j hj; omega))
    | 59, _ => exact Gr.slot (hfr.f 59 (by intro j hj; omega))
    | 60, _ => exact Gr.slot (hfr.f 60 (by intro j hj; omega))
    | 61, _ => exact Gr.slot (hfr.f 61 (by intro j hj; omega))
    | 62, _ => exact Gr.slot (hfr.f 62 (by intro j hj; omega))
    | 63, _ => exact Gr.slot (hfr.f 63 (by intro j hj; omega))
    | 64, _ => exact Gr.slot (hfr.f 64 (by intro j hj; omega))
    | 65, _ => exact Gr.slot (hfr.f 65 (by intro j hj; omega))
    | 66, _ => exact Gr.slot (hfr.f 66 (by intro j hj; omega))
    | 67, _ => exact Gr.slot (hfr.f 67 (by intro j hj; omega))
    | 68, _ => exact Gr.slot (hfr.f 68 (by intro j hj; omega))
    | 69, _ => exact Gr.slot (hfr.f 69 (by intro j hj; omega))
    | 70, _ => exact Gr.slot (hfr.f 70 (by intro j hj; omega))
    | 71, _ => exact Gr.slot (hfr.f 71 (by intro j hj; omega))
    | 72, _ => exact Gr.slot (hfr.f 72 (by intro j hj; omega))
    | 73, _ => exact Gr.slot (hfr.f 73 (by intro j hj; omega))
    | 74, _ => exact Gr.slot (hfr.f 74 (by intro j hj; omega))
    | 75, _ => exact Gr.slot (hfr.f 75 (by intro j hj; omega))
    | 76, _ => exact Gr.slot (hfr.f 76 (by intro j hj; omega))
    | 77, _ => exact Gr.slot (hfr.f 77 (by intro j hj; omega))
    | 78, _ => exact Gr.slot (hfr.f 78 (by intro j hj; omega))
    | 79, _ => exact Gr.slot (hfr.f 79 (by intro j hj; omega))
    | 80, _ => exact Gr.slot (hfr.f 80 (by intro j hj; omega))
    | 81, _ => exact Gr.slot (hfr.f 81 (by intro j hj; omega))
    | 82, _ => exact Gr.slot (hfr.f 82 (by intro j hj; omega))
    | 83, _ => exact Gr.slot (hfr.f 83 (by intro j hj; omega))
    | 84, _ => exact Gr.slot (hfr.f 84 (by intro j hj; omega))
    | 85, _ => exact Gr.slot (hfr.f 85 (by intro j hj; omega))
    | i + 86, h => simp only [List.length_cons, List.length_nil] at h; omega)
  clear hu16 hu17 hu18 hu19 hu20 hu21 hu22 hu23
  subst hA
  have R5 := Lib.hid (blk_below R4.out hb (blk_lt R4.out))
  have B5 := Lib.hid (B4.out.trans (hb.mono B4.out.size))
  clear hb hfr hall v24 R4 B4
  obtain ⟨x0, x1, x2, x3, x4, x5⟩ := cells6 R5.out
  go_wp2
  go_loopw [28] (fun t wr => ∃ f : Nat, t = .int .i64 (f : Int) ∧ f ≤ Q.fs.length ∧ wr.heap[gx]? = some (.cells #[.int .i64 Q.vars, .int .i64 Q.objs, .int .i64 Q.fields, .slice Cf Q.fs.length df, .slice Ce Q.en.length de, .slice Co Q.ops.length d] 33) ∧ Below w.heap.size w wr) (fun t _ => Q.fs.length - (intOf t).toNat)
  case atStart => exact ⟨0, rfl, Nat.zero_le _, R5.out, B5.out⟩
  case round =>
    obtain ⟨f, rfl, hfl, hg, hb⟩ := hrel
    have R6 := Lib.hid hg
    have B6 := Lib.hid hb
    clear hg hb R5 B5 x0 x1 x2 x3 x4 x5
    by_cases hf : f < Q.fs.length
    · have hFI : (f : Int) < (Q.fs.length : Int) := by omega
      have FT : Hid (∀ X, Calls Try.prog 20 #[pv Q Cf df Ce de Co d, .int .i64 (Q.objs + (f : Int))] X fun e w' => e = .returned (.tuple #[.int .i64 (f : Int), .bool true]) ∧ Below X.heap.size X w') := Lib.hid (fun X => by
        have := function_any Q Cf df Ce de Co d (Q.objs + (f : Int)) X QO.out ⟨by have := QO.out; omega, by have := QR.out; omega⟩
        rw [fnq_thing Q f hf] at this
        exact this)
      go_upto_region 9 with fail
      refine Gr.regionS 10 (fun i => if i < 5 then i + 32 else if i < 6 then 31 else if i < 8 then i + 31 else i - 1) [.val (pv Q Cf df Ce de Co d), .val (pv Q Cf df Ce de Co d), .val (.int .i64 (f : Int)), .val (.int .i64 (Q.objs + (f : Int))), .val (.tuple #[.int .i64 (f : Int), .bool true]), .val (.tuple #[.int .i64 (f : Int), .bool true]), .val (.int .i64 (f : Int)), .val (.bool true), .val (.int .i64 (f : Int)), .val (.bool true)] (by kernel_rfl) (by kernel_rfl) (by rfl) ?_ ?_
      · intro i o a W1 hi ho hb hfr hpre
        have t5 : a.tmps[5]?.getD undef = .pointer (some ⟨gx, 0, none⟩) := Gr.slot (hfr.f 5 (by intro j hj; (try dsimp only); split; omega; split; omega; split <;> omega))
        have t6 : a.tmps[6]?.getD undef = .int .i64 (f : Int) := Gr.slot (hfr.f 6 (by intro j hj; (try dsimp only); split; omega; split; omega; split <;> omega))
        obtain ⟨k0, k1, k2, k3, k4, k5⟩ := cells6 (blk_below R6.out hb (blk_lt R6.out))
        match i, hi with
        | 0, _ =>
          obtain rfl := Option.some.inj ho
          refine Gr.val (v := pv Q Cf df Ce de Co d) (w' := W1) (by simp [go_sem, t5, k0, k1, k2, k3, k4, k5]) ⟨_, rfl, rfl, Below.refl _ _⟩
        | 1, _ =>
          obtain rfl := Option.some.inj ho
          refine Gr.val (v := pv Q Cf df Ce de Co d) (w' := W1) (by simp [go_sem, t5, k0, k1, k2, k3, k4, k5]) ⟨_, rfl, rfl, Below.refl _ _⟩
        | 2, _ =>
          obtain rfl := Option.some.inj ho
          refine Gr.val (v := .int .i64 (f : Int)) (w' := W1) (by simp [go_sem, t6]) ⟨_, rfl, rfl, Below.refl _ _⟩
        | 3, _ =>
          have p33 : a.tmps[33]?.getD undef = pv Q Cf df Ce de Co d := Gr.slot (hpre { on := 1, ground := .data } (by obtain rfl := Option.some.inj ho; simp) rfl (by decide))
          have p34 : a.tmps[34]?.getD undef = .int .i64 (f : Int) := Gr.slot (hpre { on := 2, ground := .data } (by obtain rfl := Option.some.inj ho; simp) rfl (by decide))
          obtain rfl := Option.some.inj ho
          refine Gr.call (f := 21) (args := #[pv Q Cf df Ce de Co d, .int .i64 (f : Int)]) (by simp [go_sem, p33, p34]) ((thing_any Q Cf df Ce de Co d (f : Int) W1 QO.out ⟨by omega, by have := QR.out; omega⟩).mono ?_)
          rintro e w' ⟨rfl, h2⟩
          exact ⟨_, rfl, _, rfl, rfl, h2⟩
        | 4, _ =>
          have p32 : a.tmps[32]?.getD undef = pv Q Cf df Ce de Co d := Gr.slot (hpre { on := 0, ground := .data } (by obtain rfl := Option.some.inj ho; simp) rfl (by decide))
          have p35 : a.tmps[35]?.getD undef = .int .i64 (Q.objs + (f : Int)) := Gr.slot (hpre { on := 3, ground := .data } (by obtain rfl := Option.some.inj ho; simp) rfl (by decide))
          obtain rfl := Option.some.inj ho
          refine Gr.call (f := 20) (args := #[pv Q Cf df Ce de Co d, .int .i64 (Q.objs + (f : Int))]) (by simp [go_sem, p32, p35]) ((FT.out W1).mono ?_)
          rintro e w' ⟨rfl, h2⟩
          exact ⟨_, rfl, _, rfl, rfl, h2⟩
        | 5, _ =>
          have p36 : a.tmps[36]?.getD undef = .tuple #[.int .i64 (f : Int), .bool true] := Gr.slot (hpre { on := 4, ground := .data } (by obtain rfl := Option.some.inj ho; simp) rfl (by decide))
          obtain rfl := Option.some.inj ho
          refine Gr.val (v := .tuple #[.int .i64 (f : Int), .bool true]) (w' := W1) (by simp [go_sem, p36]) ⟨_, rfl, rfl, Below.refl _ _⟩
        | 6, _ =>
          have p31 : a.tmps[31]?.getD undef = .tuple #[.int .i64 (f : Int), .bool true] := Gr.slot (hpre { on := 5, ground := .data } (by obtain rfl := Option.some.inj ho; simp) rfl (by decide))
          obtain rfl := Option.some.inj ho
          refine Gr.val (v := .int .i64 (f : Int)) (w' := W1) (by simp [go_sem, p31]) ⟨_, rfl, rfl, Below.refl _ _⟩
        | 7, _ =>
          have p31 : a.tmps[31]?.getD undef = .tuple #[.int .i64 (f : Int), .bool true] := Gr.slot (hpre { on := 5, ground := .data } (by obtain rfl := Option.some.inj ho; simp) rfl (by decide))
          obtain rfl := Option.some.inj ho
          refine Gr.val (v := .bool true) (w' := W1) (by simp [go_sem, p31]) ⟨_, rfl, rfl, Below.refl _ _⟩
        | 8, _ =>
          have p37 : a.tmps[37]?.getD undef = .int .i64 (f : Int) := Gr.slot (hpre { on := 6, ground := .data } (by obtain rfl := Option.some.inj ho; simp) rfl (by decide))
          obtain rfl := Option.some.inj ho
          refine Gr.val (v := .int .i64 (f : Int)) (w' := W1) (by simp [go_sem, p37]) ⟨_, rfl, rfl, Below.refl _ _⟩
        | 9, _ =>
          have p38 : a.tmps[38]?.getD undef = .bool true := Gr.slot (hpre { on := 7, ground := .data } (by obtain rfl := Option.some.inj ho; simp) rfl (by decide))
          obtain rfl := Option.some.inj ho
          refine Gr.val (v := .bool true) (w' := W1) (by simp [go_sem, p38]) ⟨_, rfl, rfl, Below.refl _ _⟩
        | i + 10, h => omega
      intro a W5 hb hfr hall
      have v7 : a.eval (.tmp 7) = .int .i64 (f : Int) := hall 8 (by omega)
      have v8 : a.eval (.tmp 8) = .bool true := hall 9 (by omega)
      obtain ⟨n4, hn4⟩ : ∃ u, a.tmps[4]?.getD undef = u := ⟨_, rfl⟩
      obtain ⟨n29, hn29⟩ : ∃ u, a.tmps[29]?.getD undef = u := ⟨_, rfl⟩
      obtain ⟨n30, hn30⟩ : ∃ u, a.tmps[30]?.getD undef = u := ⟨_, rfl⟩
      obtain ⟨n31, hn31⟩ : ∃ u, a.tmps[31]?.getD undef = u := ⟨_, rfl⟩
      obtain ⟨n32, hn32⟩ : ∃ u, a.tmps[32]?.getD undef = u := ⟨_, rfl⟩
      obtain ⟨n33, hn33⟩ : ∃ u, a.tmps[33]?.getD undef = u := ⟨_, rfl⟩
      obtain ⟨n34, hn34⟩ : ∃ u, a.tmps[34]?.getD undef = u := ⟨_, rfl⟩
      obtain ⟨n35, hn35⟩ : ∃ u, a.tmps[35]?.getD undef = u := ⟨_, rfl⟩
      obtain ⟨n36, hn36⟩ : ∃ u, a.tmps[36]?.getD undef = u := ⟨_, rfl⟩
      obtain ⟨n37, hn37⟩ : ∃ u, a.tmps[37]?.getD undef = u := ⟨_, rfl⟩
      obtain ⟨n38, hn38⟩ : ∃ u, a.tmps[38]?.getD undef = u := ⟨_, rfl⟩
      obtain ⟨n39, hn39⟩ : ∃ u, a.tmps[39]?.getD undef = u := ⟨_, rfl⟩
      obtain ⟨n40, hn40⟩ : ∃ u, a.tmps[40]?.getD undef = u := ⟨_, rfl⟩
      obtain ⟨n41, hn41⟩ : ∃ u, a.tmps[41]?.getD undef = u := ⟨_, rfl⟩
      obtain ⟨n42, hn42⟩ : ∃ u, a.tmps[42]?.getD undef = u := ⟨_, rfl⟩
      obtain ⟨n43, hn43⟩ : ∃ u, a.tmps[43]?.getD undef = u := ⟨_, rfl⟩
      obtain ⟨n44, hn44⟩ : ∃ u, a.tmps[44]?.getD undef = u := ⟨_, rfl⟩
      obtain ⟨n45, hn45⟩ : ∃ u, a.tmps[45]?.getD undef = u := ⟨_, rfl⟩
      obtain ⟨n46, hn46⟩ : ∃ u, a.tmps[46]?.getD undef = u := ⟨_, rfl⟩
      have hA : a = ⟨#[pv p Af cf Ae ce Ao co, .int .i64 t, .pointer (some ⟨w.heap.size, 0, none⟩), undef, n4, .pointer (some ⟨gx, 0, none⟩), .int .i64 (f : Int), .int .i64 (f : Int), .bool true, undef, undef, .bool true, .bool false, pv p Af cf Ae ce Ao co, pv Q Bf bf Be be Bo b, pv Q Cf df Ce de Co d, u16, u17, u18, u19, u20, u21, u22, u23, .bool false, .pointer (some ⟨gx, 3, none⟩), .slice Cf Q.fs.length df, .int .i64 (Q.fs.length : Int), .int .i64 (f : Int), n29, n30, n31, n32, n33, n34, n35, n36, n37, n38, n39, n40, n41, n42, n43, n44, n45, n46, undef, undef, undef, undef, undef, undef, undef, undef, undef, undef, undef, undef, undef, undef, undef, undef, undef, undef, undef, undef, undef, undef, undef, undef, undef, undef, undef, undef, undef, undef, undef, undef, undef, undef, undef, undef, undef, undef, undef], []⟩ := Gr.act_eq (l := [pv p Af cf Ae ce Ao co, .int .i64 t, .pointer (some ⟨w.heap.size, 0, none⟩), undef, n4, .pointer (some ⟨gx, 0, none⟩), .int .i64 (f : Int), .int .i64 (f : Int), .bool true, undef, undef, .bool true, .bool false, pv p Af cf Ae ce Ao co, pv Q Bf bf Be be Bo b, pv Q Cf df Ce de Co d, u16, u17, u18, u19, u20, u21, u22, u23, .bool false, .pointer (some ⟨gx, 3, none⟩), .slice Cf Q.fs.length df, .int .i64 (Q.fs.length : Int), .int .i64 (f : Int), n29, n30, n31, n32, n33, n34, n35, n36, n37, n38, n39, n40, n41, n42, n43, n44, n45, n46, undef, undef, undef, undef, undef, undef, undef, undef, undef, undef, undef, undef, undef, undef, undef, undef, undef, undef, undef, undef, undef, undef, undef, undef, undef, undef, undef, undef, undef, undef, undef, undef, undef, undef, undef, undef, undef, undef, undef]) hfr.d hfr.s (by
        intro i hi
        match i, hi with
        | 0, _ => exact Gr.slot (hfr.f 0 (by intro j hj; (try dsimp only); split; omega; split; omega; split <;> omega))
        | 1, _ => exact Gr.slot (hfr.f 1 (by intro j hj; (try dsimp only); split; omega; split; omega; split <;> omega))
        | 2, _ => exact Gr.slot (hfr.f 2 (by intro j hj; (try dsimp only); split; omega; split; omega; split <;> omega))
        | 3, _ => exact Gr.slot (hfr.f 3 (by intro j hj; (try dsimp only); split; omega; split; omega; split <;> omega))
        | 4, _ => exact hn4
        | 5, _ => exact Gr.slot (hfr.f 5 (by intro j hj; (try dsimp only); split; omega; split; omega; split <;> omega))
        | 6, _ => exact Gr.slot (hfr.f 6 (by intro j hj; (try dsimp only); split; omega; split; omega; split <;> omega))
        | 7, _ => exact Gr.slot v7
        | 8, _ => exact Gr.slot v8
        | 9, _ => exact Gr.slot (hfr.f 9 (by intro j hj; (try dsimp only); split; omega; split; omega; split <;> omega))
        | 10, _ => exact Gr.slot (hfr.f 10 (by intro j hj; (try dsimp only); split; omega; split; omega; split <;> omega))
        | 11, _ => exact Gr.slot (hfr.f 11 (by intro j hj; (try dsimp only); split; omega; split; omega; split <;> omega))
        | 12, _ => exact Gr.slot (hfr.f 12 (by intro j hj; (try dsimp only); split; omega; split; omega; split <;> omega))
        | 13, _ => exact Gr.slot (hfr.f 13 (by intro j hj; (try dsimp only); split; omega; split; omega; split <;> omega))
        | 14, _ => exact Gr.slot (hfr.f 14 (by intro j hj; (try dsimp only); split; omega; split; omega; split <;> omega))
        | 15, _ => exact Gr.slot (hfr.f 15 (by intro j hj; (try dsimp only); split; omega; split; omega; split <;> omega))
        | 16, _ => exact Gr.slot (hfr.f 16 (by intro j hj; (try dsimp only); split; omega; split; omega; split <;> omega))
        | 17, _ => exact Gr.slot (hfr.f 17 (by intro j hj; (try dsimp only); split; omega; split; omega; split <;> omega))
        | 18, _ => exact Gr.slot (hfr.f 18 (by intro j hj; (try dsimp only); split; omega; split; omega; split <;> omega))
        | 19, _ => exact Gr.slot (hfr.f 19 (by intro j hj; (try dsimp only); split; omega; split; omega; split <;> omega))
        | 20, _ => exact Gr.slot (hfr.f 20 (by intro j hj; (try dsimp only); split; omega; split; omega; split <;> omega))
        | 21, _ => exact Gr.slot (hfr.f 21 (by intro j hj; (try dsimp only); split; omega; split; omega; split <;> omega))
        | 22, _ => exact Gr.slot (hfr.f 22 (by intro j hj; (try dsimp only); split; omega; split; omega; split <;> omega))
        | 23, _ => exact Gr.slot (hfr.f 23 (by intro j hj; (try dsimp only); split; omega; split; omega; split <;> omega))
        | 24, _ => exact Gr.slot (hfr.f 24 (by intro j hj; (try dsimp only); split; omega; split; omega; split <;> omega))
        | 25, _ => exact Gr.slot (hfr.f 25 (by intro j hj; (try dsimp only); split; omega; split; omega; split <;> omega))
        | 26, _ => exact Gr.slot (hfr.f 26 (by intro j hj; (try dsimp only); split; omega; split; omega; split <;> omega))
        | 27, _ => exact Gr.slot (hfr.f 27 (by intro j hj; (try dsimp only); split; omega; split; omega; split <;> omega))
        | 28, _ => exact Gr.slot (hfr.f 28 (by intro j hj; (try dsimp only); split; omega; split; omega; split <;> omega))
        | 29, _ => exact hn29
        | 30, _ => exact hn30
        | 31, _ => exact hn31
        | 32, _ => exact hn32
        | 33, _ => exact hn33
        | 34, _ => exact hn34
        | 35, _ => exact hn35
        | 36, _ => exact hn36
        | 37, _ => exact hn37
        | 38, _ => exact hn38
        | 39, _ => exact hn39
        | 40, _ => exact hn40
        | 41, _ => exact hn41
        | 42, _ => exact hn42
        | 43, _ => exact hn43
        | 44, _ => exact hn44
        | 45, _ => exact hn45
        | 46, _ => exact hn46
        | 47, _ => exact Gr.slot (hfr.f 47 (by intro j hj; (try dsimp only); split; omega; split; omega; split <;> omega))
        | 48, _ => exact Gr.slot (hfr.f 48 (by intro j hj; (try dsimp only); split; omega; split; omega; split <;> omega))
        | 49, _ => exact Gr.slot (hfr.f 49 (by intro j hj; (try dsimp only); split; omega; split; omega; split <;> omega))
        | 50, _ => exact Gr.slot (hfr.f 50 (by intro j hj; (try dsimp only); split; omega; split; omega; split <;> omega))
        | 51, _ => exact Gr.slot (hfr.f 51 (by intro j hj; (try dsimp only); split; omega; split; omega; split <;> omega))
        | 52, _ => exact Gr.slot (hfr.f 52 (by intro j hj; (try dsimp only); split; omega; split; omega; split <;> omega))
        | 53, _ => exact Gr.slot (hfr.f 53 (by intro j hj; (try dsimp only); split; omega; split; omega; split <;> omega))
        | 54, _ => exact Gr.slot (hfr.f 54 (by intro j hj; (try dsimp only); split; omega; split; omega; split <;> omega))
        | 55, _ => exact Gr.slot (hfr.f 55 (by intro j hj; (try dsimp only); split; omega; split; omega; split <;> omega))
        | 56, _ => exact Gr.slot (hfr.f 56 (by intro j hj; (try dsimp only); split; omega; split; omega; split <;> omega))
        | 57, _ => exact Gr.slot (hfr.f 57 (by intro j hj; (try dsimp only); split; omega; split; omega; split <;> omega))
        | 58, _ => exact Gr.slot (hfr.f 58 (by intro j hj; (try dsimp only); split; omega; split; omega; split <;> omega))
        | 59, _ => exact Gr.slot (hfr.f 59 (by intro j hj; (try dsimp only); split; omega; split; omega; split <;> omega))
        | 60, _ => exact Gr.slot (hfr.f 60 (by intro j hj; (try dsimp only); split; omega; split; omega; split <;> omega))
        | 61, _ => exact Gr.slot (hfr.f 61 (by intro j hj; (try dsimp only); split; omega; split; omega; split <;> omega))
        | 62, _ => exact Gr.slot (hfr.f 62 (by intro j hj; (try dsimp only); split; omega; split; omega; split <;> omega))
        | 63, _ => exact Gr.slot (hfr.f 63 (by intro j hj; (try dsimp only); split; omega; split; omega; split <;> omega))
        | 64, _ => exact Gr.slot (hfr.f 64 (by intro j hj; (try dsimp only); split; omega; split; omega; split <;> omega))
        | 65, _ => exact Gr.slot (hfr.f 65 (by intro j hj; (try dsimp only); split; omega; split; omega; split <;> omega))
        | 66, _ => exact Gr.slot (hfr.f 66 (by intro j hj; (try dsimp only); split; omega; split; omega; split <;> omega))
        | 67, _ => exact Gr.slot (hfr.f 67 (by intro j hj; (try dsimp only); split; omega; split; omega; split <;> omega))
        | 68, _ => exact Gr.slot (hfr.f 68 (by intro j hj; (try dsimp only); split; omega; split; omega; split <;> omega))
        | 69, _ => exact Gr.slot (hfr.f 69 (by intro j hj; (try dsimp only); split; omega; split; omega; split <;> omega))
        | 70, _ => exact Gr.slot (hfr.f 70 (by intro j hj; (try dsimp only); split; omega; split; omega; split <;> omega))
        | 71, _ => exact Gr.slot (hfr.f 71 (by intro j hj; (try dsimp only); split; omega; split; omega; split <;> omega))
        | 72, _ => exact Gr.slot (hfr.f 72 (by intro j hj; (try dsimp only); split; omega; split; omega; split <;> omega))
        | 73, _ => exact Gr.slot (hfr.f 73 (by intro j hj; (try dsimp only); split; omega; split; omega; split <;> omega))
        | 74, _ => exact Gr.slot (hfr.f 74 (by intro j hj; (try dsimp only); split; omega; split; omega; split <;> omega))
        | 75, _ => exact Gr.slot (hfr.f 75 (by intro j hj; (try dsimp only); split; omega; split; omega; split <;> omega))
        | 76, _ => exact Gr.slot (hfr.f 76 (by intro j hj; (try dsimp only); split; omega; split; omega; split <;> omega))
        | 77, _ => exact Gr.slot (hfr.f 77 (by intro j hj; (try dsimp only); split; omega; split; omega; split <;> omega))
        | 78, _ => exact Gr.slot (hfr.f 78 (by intro j hj; (try dsimp only); split; omega; split; omega; split <;> omega))
        | 79, _ => exact Gr.slot (hfr.f 79 (by intro j hj; (try dsimp only); split; omega; split; omega; split <;> omega))
        | 80, _ => exact Gr.slot (hfr.f 80 (by intro j hj; (try dsimp only); split; omega; split; omega; split <;> omega))
        | 81, _ => exact Gr.slot (hfr.f 81 (by intro j hj; (try dsimp only); split; omega; split; omega; split <;> omega))
        | 82, _ => exact Gr.slot (hfr.f 82 (by intro j hj; (try dsimp only); split; omega; split; omega; split <;> omega))
        | 83, _ => exact Gr.slot (hfr.f 83 (by intro j hj; (try dsimp only); split; omega; split; omega; split <;> omega))
        | 84, _ => exact Gr.slot (hfr.f 84 (by intro j hj; (try dsimp only); split; omega; split; omega; split <;> omega))
        | 85, _ => exact Gr.slot (hfr.f 85 (by intro j hj; (try dsimp only); split; omega; split; omega; split <;> omega))
        | i + 86, h => simp only [List.length_cons, List.length_nil] at h; omega)
      clear hn4 hn29 hn30 hn31 hn32 hn33 hn34 hn35 hn36 hn37 hn38 hn39 hn40 hn41 hn42 hn43 hn44 hn45 hn46
      subst hA
      have R7 := Lib.hid (blk_below R6.out hb (blk_lt R6.out))
      have B7 := Lib.hid (B6.out.trans (hb.mono B6.out.size))
      have hq8 := QR.out.2.2
      clear hb hfr hall v7 v8 R6 B6
      go_wp2
      go_roundw
      case rel => exact ⟨f + 1, by go_num, hf, R7.out, B7.out⟩
      case measure => simp [intOf]; omega
    · obtain rfl : f = Q.fs.length := by omega
      obtain ⟨x0, x1, x2, x3, x4, x5⟩ := cells6 R6.out
      have hQr := QR.out
      clear x0 x1 x2 x3 x4 x5
      go_upto_region 14 with fail
      generalize hT : max (-2 : Int) (min t 100) = T at *
      have hTr : -2 ≤ T ∧ T ≤ 100 := by omega
      have FT := Lib.hid (fun X => function_any Q Cf df Ce de Co d T X QO.out ⟨by omega, by omega⟩)
      have hi := fnq_is Q T
      have hbk := fnq_back Q T
      have hno := fnq_none Q T
      clear hT
      generalize hr : fnq Q T = r at *
      obtain ⟨r1, r2⟩ := r
      obtain ⟨x0, x1, x2, x3, x4, x5⟩ := cells6 R6.out
      cases r2 with
      | true =>
        have h1 := hbk rfl
        have h2 : Q.objs ≤ T ∧ T < Q.objs + (Q.fs.length : Int) := by
          have := hi.symm
          rw [Bool.and_eq_true, decide_eq_true_iff, decide_eq_true_iff] at this
          exact this
        obtain ⟨h2, h3⟩ := h2
        have TT := Lib.hid (fun X => thing_any Q Cf df Ce de Co d r1 X QO.out ⟨by simp only at h1; omega, by simp only at h1; omega⟩)
        simp only at h1
        rw [h1] at TT
        clear hi hbk hno hr h1
        go_wp2_with (first
          | (go_at_call 20; ((with_reducible refine (FT.out _).mono ?_); rintro e w2 ⟨rfl, hb2⟩; have R7 := Lib.hid (blk_below R6.out hb2 (blk_lt R6.out)); have B7 := Lib.hid (B6.out.trans (hb2.mono B6.out.size)); clear hb2 x0 x1 x2 x3 x4 x5; obtain ⟨x0, x1, x2, x3, x4, x5⟩ := cells6 R7.out))
          | (go_at_call 19; ((with_reducible refine (things_any Q Cf df Ce de Co d _ QO.out QF.out).mono ?_); rintro e w3 ⟨rfl, hb2⟩; have R8 := Lib.hid (blk_below R7.out hb2 (blk_lt R7.out)); have B8 := Lib.hid (B7.out.trans (hb2.mono B7.out.size)); clear hb2 x0 x1 x2 x3 x4 x5; obtain ⟨x0, x1, x2, x3, x4, x5⟩ := cells6 R8.out))
          | (go_at_call 21; ((with_reducible refine (TT.out _).mono ?_); rintro e w4 ⟨rfl, hb2⟩; have B9 := Lib.hid (B8.out.trans (hb2.mono B8.out.size)))))
        go_ret
        exact ⟨rfl, B9.out⟩
      | false =>
        have h1 : r1 = 0 := hno rfl
        subst h1
        have h2 : T < Q.objs ∨ (Q.objs ≤ T ∧ ¬ T < Q.objs + (Q.fs.length : Int)) := by
          have := hi.symm
          rw [Bool.and_eq_false_iff, decide_eq_false_iff_not, decide_eq_false_iff_not] at this
          omega
        clear hi hbk hno hr
        rcases h2 with h2 | ⟨h2, h3⟩
        · go_wp2_with (first
            | (go_at_call 20; ((with_reducible refine (FT.out _).mono ?_); rintro e w2 ⟨rfl, hb2⟩; have R7 := Lib.hid (blk_below R6.out hb2 (blk_lt R6.out)); have B7 := Lib.hid (B6.out.trans (hb2.mono B6.out.size)); clear hb2 x0 x1 x2 x3 x4 x5; obtain ⟨x0, x1, x2, x3, x4, x5⟩ := cells6 R7.out)))
          go_ret
          exact ⟨rfl, B7.out⟩
        · go_wp2_with (first
            | (go_at_call 20; ((with_reducible refine (FT.out _).mono ?_); rintro e w2 ⟨rfl, hb2⟩; have R7 := Lib.hid (blk_below R6.out hb2 (blk_lt R6.out)); have B7 := Lib.hid (B6.out.trans (hb2.mono B6.out.size)); clear hb2 x0 x1 x2 x3 x4 x5; obtain ⟨x0, x1, x2, x3, x4, x5⟩ := cells6 R7.out))
            | (go_at_call 19; ((with_reducible refine (things_any Q Cf df Ce de Co d _ QO.out QF.out).mono ?_); rintro e w3 ⟨rfl, hb2⟩; have B8 := Lib.hid (B7.out.trans (hb2.mono B7.out.size)))))
          go_ret
          exact ⟨by show Ending.returned (Value.bool (!decide (T < Q.objs + (Q.fs.length : Int)))) = _; rw [decide_eq_false (Int.not_lt.mpr h3)]; rfl, B8.out⟩
end Pm
end Go.Proofs.Ytnhgoeoffjcooaa
