/-
  Programs: the law's ProgramClones. Made by wip/gen/proclones.py.
-/
import Derived.Test.YtnhgoeoffjcooaaProRight
import Derived.Test.YtnhgoeoffjcooaaProJw
namespace Go.Proofs.Ytnhgoeoffjcooaa
open Go.RowKit
namespace Pm
open B
set_option linter.unusedVariables false
theorem right_ret (p : P) (k : Nat) : ¬ ((rightq p k).fs.map F.ret)[0]? = some (-7) := by
  intro h
  rw [List.getElem?_map] at h
  obtain ⟨f, hf, e⟩ := Option.map_eq_some_iff.1 h
  have hm : f ∈ rightFs (1 + atq p.vars 30) p.fs := List.mem_of_getElem? hf
  have hv := atq_range p.vars 30 (by decide)
  rcases rightFs_mem _ _ f hm with rfl | ⟨g, _, rfl⟩
  · cases e
  · have := atq_range g.ret (1 + atq p.vars 30 + 1) (by omega)
    have e' : atq g.ret (1 + atq p.vars 30 + 1) - 1 = -7 := e
    omega
set_option maxRecDepth 100000 in
set_option maxHeartbeats 16000000 in
theorem clones_walk (p : P) (Af : Option Addr) (cf : Nat) (Ae : Option Addr) (ce : Nat) (Ao : Option Addr) (co : Nat) (w : World) (h : PIn 0 w p Af cf Ae ce Ao co) :
    Calls Try.prog 5 #[pv p Af cf Ae ce Ao co] w fun e w' => e = .returned (.bool true) ∧ Below w.heap.size w w' := by
  obtain ⟨Q, hQ⟩ : ∃ Q, rightq p 60 = Q := ⟨_, rfl⟩
  have SQ : Hid (Sm Q) := Lib.hid (hQ ▸ right_sm p 60 (by decide))
  have QM : Hid (¬ (Q.fs.map F.ret)[0]? = some (-7)) := Lib.hid (hQ ▸ right_ret p 60)
  have QF : Hid (1 ≤ Q.fs.length) := Lib.hid (hQ ▸ (rightFs_len (1 + atq p.vars 30) p.fs).1)
  have CR : Hid (∀ X, Below w.heap.size w X → Calls Try.prog 16 #[pv p Af cf Ae ce Ao co, .int .i64 60] X fun e w' => ∃ Bf df Be de Bo d, e = .returned (pv Q Bf df Be de Bo d) ∧ PIn X.heap.size w' Q Bf df Be de Bo d ∧ Below X.heap.size X w') := Lib.hid (fun X q => by
    have := right_any 0 p Af cf Ae ce Ao co 60 X (h.below q) (by decide)
    rw [hQ] at this
    exact this)
  have B0 := Lib.hid (below1 w (.cells #[.int .i64 p.vars, .int .i64 p.objs, .int .i64 p.fields, .slice Af p.fs.length cf, .slice Ae p.en.length ce, .slice Ao p.ops.length co] 26))
  have R1 := Lib.hid (heap_last w (.cells #[.int .i64 p.vars, .int .i64 p.objs, .int .i64 p.fields, .slice Af p.fs.length cf, .slice Ae p.en.length ce, .slice Ao p.ops.length co] 26) w.heap.size rfl)
  clear h hQ
  go_enter Try.func5, Try.ntmps5
  go_upto_region 3 with (go_at_call 11; ((with_reducible refine (awake_any _).mono ?_); rintro e W1 ⟨rfl, hb1⟩; have B1 := Lib.hid (B0.out.trans (hb1.mono B0.out.size)); have R2 := Lib.hid (blk_below R1.out hb1 (blk_lt R1.out)); clear hb1; obtain ⟨x0, x1, x2, x3, x4, x5⟩ := cells6 R2.out))
  go_upto_region 4 with (first
    | (go_at_call 16; ((with_reducible refine (CR.out _ B1.out).mono ?_); rintro e W2 ⟨Bf, bf, Be, be, Bo, b, rfl, q1, hb2⟩; have B2 := Lib.hid (B1.out.trans (hb2.mono B1.out.size)); have R3 := Lib.hid (blk_below R2.out hb2 (blk_lt R2.out)); have Q1 := Lib.hid q1; clear hb2 q1))
    | (go_at_call 13; ((with_reducible refine (own_any _ Q Bf bf Be be Bo b _ Q1.out SQ.out).mono ?_); rintro e W3 ⟨Cf, df, Ce, de, Co, d, rfl, q3, hb3⟩; have B3 := Lib.hid (B2.out.trans (hb3.mono B2.out.size)); have RP3 := Lib.hid (blk_below R3.out hb3 (blk_lt R3.out)); have Q3 := Lib.hid q3; clear hb3 q3)))
  have RX4 := Lib.hid (heap_last W3 (.cells #[.int .i64 Q.vars, .int .i64 Q.objs, .int .i64 Q.fields, .slice Cf Q.fs.length df, .slice Ce Q.en.length de, .slice Co Q.ops.length d] 33) W3.heap.size rfl)
  have RP4 := Lib.hid (blk_below RP3.out (below1 W3 (.cells #[.int .i64 Q.vars, .int .i64 Q.objs, .int .i64 Q.fields, .slice Cf Q.fs.length df, .slice Ce Q.en.length de, .slice Co Q.ops.length d] 33)) (blk_lt RP3.out))
  have X4 := Lib.hid (Q3.out.below (below1 W3 (.cells #[.int .i64 Q.vars, .int .i64 Q.objs, .int .i64 Q.fields, .slice Cf Q.fs.length df, .slice Ce Q.en.length de, .slice Co Q.ops.length d] 33)))
  have B4 := Lib.hid (B3.out.trans ((below1 W3 (.cells #[.int .i64 Q.vars, .int .i64 Q.objs, .int .i64 Q.fields, .slice Cf Q.fs.length df, .slice Ce Q.en.length de, .slice Co Q.ops.length d] 33)).mono B3.out.size))
  generalize hGX : W3.heap.size = gx at *
  generalize W3.alloc (.cells #[.int .i64 Q.vars, .int .i64 Q.objs, .int .i64 Q.fields, .slice Cf Q.fs.length df, .slice Ce Q.en.length de, .slice Co Q.ops.length d] 33) = W4 at *
  clear x0 x1 x2 x3 x4 x5 hGX Q1 Q3 R2 R3 RP3 B2 B3
  obtain ⟨x0, x1, x2, x3, x4, x5⟩ := cells6 RX4.out
  have CW := Lib.hid (clone_own _ Q Cf df Ce de Co d W4 X4.out SQ.out)
  go_upto_region 5 with (go_at_call 17; ((with_reducible refine CW.out.mono ?_); rintro e W5 ⟨Yf, yf, Ye, ye, Yo, yo, rfl, ⟨q1, q2, q3⟩, q4, hb5⟩; have B5 := Lib.hid hb5; have Y1 := Lib.hid q1; have Y2 := Lib.hid q2; have Y3 := Lib.hid q3; have Y4 := Lib.hid q4; clear hb5 q1 q2 q3 q4))
  have al := below1 W5 (.cells #[.int .i64 Q.vars, .int .i64 Q.objs, .int .i64 Q.fields, .slice Yf Q.fs.length yf, .slice Ye Q.en.length ye, .slice Yo Q.ops.length yo] 33)
  have hj : Jw Q W4 W5.heap.size (.slice Yf Q.fs.length yf) (.slice Ye Q.en.length ye) (.slice Yo Q.ops.length yo) false Q.fs Q.en Q.ops (W5.alloc (.cells #[.int .i64 Q.vars, .int .i64 Q.objs, .int .i64 Q.fields, .slice Yf Q.fs.length yf, .slice Ye Q.en.length ye, .slice Yo Q.ops.length yo] 33)) :=
    ⟨Y1.out.below al, Y2.out.1.below al, Y3.out.below al, rfl, rfl, rfl, (fun q => by cases q), heap_last W5 _ _ rfl, B5.out.trans (al.mono B5.out.size), B5.out.size⟩
  generalize hGY : W5.heap.size = gy at *
  generalize W5.alloc (.cells #[.int .i64 Q.vars, .int .i64 Q.objs, .int .i64 Q.fields, .slice Yf Q.fs.length yf, .slice Ye Q.en.length ye, .slice Yo Q.ops.length yo] 33) = W6 at *
  have J0 : Hid (∃ Zf Ze Zo, Jw Q W4 gy (.slice Yf Q.fs.length yf) (.slice Ye Q.en.length ye) (.slice Yo Q.ops.length yo) false Zf Ze Zo W6) := Lib.hid ⟨_, _, _, hj⟩
  have CXY := Lib.hid (fun X (q : Below W6.heap.size W6 X) => (by
    have := same_any _ _ Q Q Cf df Ce de Co d Yf yf Ye ye Yo yo X ((X4.out.below hj.b).below q) (hj.pin.below q) SQ.out SQ.out
    rw [same_refl] at this
    exact this : Calls Try.prog 18 #[pv Q Cf df Ce de Co d, pv Q Yf yf Ye ye Yo yo] X fun e w' => e = .returned (.bool true) ∧ Below X.heap.size X w'))
  have CYX := Lib.hid (fun X (q : Below W6.heap.size W6 X) => (by
    have := same_any _ _ Q Q Yf yf Ye ye Yo yo Cf df Ce de Co d X (hj.pin.below q) ((X4.out.below hj.b).below q) SQ.out SQ.out
    rw [same_refl] at this
    exact this : Calls Try.prog 18 #[pv Q Yf yf Ye ye Yo yo, pv Q Cf df Ce de Co d] X fun e w' => e = .returned (.bool true) ∧ Below X.heap.size X w'))
  have RY6 := Lib.hid hj.q
  have HJ := Lib.hid hj
  have RX6 := Lib.hid (blk_below RX4.out hj.b (blk_lt RX4.out))
  clear x0 x1 x2 x3 x4 x5 al hGY Y1 Y2 Y3 Y4 B5 hj J0
  obtain ⟨x0, x1, x2, x3, x4, x5⟩ := cells6 RX6.out
  obtain ⟨y0, y1, y2, y3, y4, y5⟩ := cells6 RY6.out
  have jb := Lib.hid (fun (X : World) (q : Below W6.heap.size W6 X) => (show Jw Q W4 gy (.slice Yf Q.fs.length yf) (.slice Ye Q.en.length ye) (.slice Yo Q.ops.length yo) false Q.fs Q.en Q.ops X from ⟨HJ.out.f.below q, HJ.out.e.below q, HJ.out.o.below q, rfl, rfl, rfl, (fun q => by cases q), blk_below HJ.out.q q (blk_lt HJ.out.q), HJ.out.b.trans (q.mono HJ.out.b.size), HJ.out.n⟩))
  go_upto_region 7 with (first
    | (go_at_call 18; ((with_reducible refine (CXY.out _ (Below.refl _ _)).mono ?_); rintro e V1 ⟨rfl, hb1⟩; have C1 := Lib.hid hb1; have RX7 := Lib.hid (blk_below RX6.out hb1 (blk_lt RX6.out)); have RY7 := Lib.hid (blk_below RY6.out hb1 (blk_lt RY6.out)); clear hb1 x0 x1 x2 x3 x4 x5 y0 y1 y2 y3 y4 y5; obtain ⟨x0, x1, x2, x3, x4, x5⟩ := cells6 RX7.out; obtain ⟨y0, y1, y2, y3, y4, y5⟩ := cells6 RY7.out))
    | (go_at_call 18; ((with_reducible refine (CYX.out _ C1.out).mono ?_); rintro e V2 ⟨rfl, hb2⟩; have C2 := Lib.hid (C1.out.trans (hb2.mono C1.out.size)); clear hb2)))
  have J0 : Hid (∃ Zf Ze Zo, Jw Q W4 gy (.slice Yf Q.fs.length yf) (.slice Ye Q.en.length ye) (.slice Yo Q.ops.length yo) false Zf Ze Zo V2) := Lib.hid ⟨_, _, _, jb.out _ C2.out⟩
  clear x0 x1 x2 x3 x4 x5 y0 y1 y2 y3 y4 y5 HJ jb CXY CYX RX6 RY6 RX7 RY7 C1
  obtain ⟨x0, x1, x2, x3, x4, x5⟩ := cells6 J0.out.choose_spec.choose_spec.choose_spec.q
  go_upto_block 0 with fail
  go_cut [] from 5 to 57 (fun wx => (∃ Zf Ze Zo, Jw Q W4 gy (.slice Yf Q.fs.length yf) (.slice Ye Q.en.length ye) (.slice Yo Q.ops.length yo) false Zf Ze Zo wx))
  case first =>
    go_wp2_with fail
    go_loopw [30] (fun t wr => ∃ i : Nat, t = .int .i64 (i : Int) ∧ i ≤ Q.ops.length ∧ (∃ Zf Ze Zo, Jw Q W4 gy (.slice Yf Q.fs.length yf) (.slice Ye Q.en.length ye) (.slice Yo Q.ops.length yo) false Zf Ze Zo wr)) (fun t _ => Q.ops.length - (intOf t).toNat)
    case atStart => exact ⟨0, rfl, Nat.zero_le _, J0.out⟩
    case round =>
      obtain ⟨i, rfl, hil, Zf, Ze, Zo, hj⟩ := hrel
      have J := Lib.hid hj
      clear hj J0 x0 x1 x2 x3 x4 x5
      by_cases hin : i < Q.ops.length
      · have hI : (i : Int) < (Q.ops.length : Int) := by omega
        obtain ⟨g, cs, hA, hM, hg, hc⟩ := J.out.o.loc (by rw [J.out.no]; omega)
        obtain ⟨v, hv, hk⟩ := hc i (by rw [J.out.no]; exact hin)
        subst hA
        obtain ⟨A, n, c, rfl, hk0⟩ : ∃ A n c, v = .slice A n c ∧ n = (elO.il (Zo[i]'(by rw [J.out.no]; exact hin))).length := by
          obtain ⟨A, c, e, _⟩ := hk
          exact ⟨A, _, c, e, rfl⟩
        have hn2 : n ≤ 2000000 := by
          have := J.out.sm SQ.out
          have := this.oa _ (List.getElem_mem (show i < (Zo).length by rw [J.out.no]; exact hin))
          rw [hk0]; exact this
        obtain ⟨yw, cw⟩ : ∃ y : Int, wr.cell? ⟨g, i * 7, none⟩ = some (.int .i64 y) := ⟨_, (row_cell hg _).trans (hv 0 _ rfl)⟩
        have cv : wr.cell? ⟨g, i * 7 + 5, none⟩ = some (.slice A n c) := (row_cell hg _).trans (hv 5 _ rfl)
        have fw : wr.frozen? ⟨g, i * 7, none⟩ = false := row_frozen hg _
        have ls := hv 0 _ rfl
        have lv := hv 5 _ rfl
        obtain ⟨x0, x1, x2, x3, x4, x5⟩ := cells6 J.out.q
        clear hk hk0 hc hv
        go_upto_region 11 with fail
        obtain ⟨Zo', hj⟩ := J.out.kind i hin 9
        have J1 := Lib.hid hj
        have hg1 := blk_set hg (i * 7) (.int .i64 9)
        have cv1 : (wr.setCell ⟨g, i * 7, none⟩ (.int .i64 9)).cell? ⟨g, i * 7 + 5, none⟩ = some (.slice A n c) := by rw [row_cell hg1, List.getElem?_set_ne (by omega)]; exact lv
        have CV := Lib.hid cv1
        clear hj cw cv fw ls lv J hg hg1 cv1 x0 x1 x2 x3 x4 x5
        generalize wr.setCell ⟨g, i * 7, none⟩ (.int .i64 9) = W7 at *
        obtain ⟨x0, x1, x2, x3, x4, x5⟩ := cells6 J1.out.q
        have cv1 := CV.out
        have hk : i * 7 + 5 = i * 7 + 5 := rfl
        go_wp2
        go_loopw [45] (fun t wr => ∃ j : Nat, t = .int .i64 (j : Int) ∧ j ≤ n ∧ wr.cell? ⟨g, i * 7 + 5, none⟩ = some (.slice A n c) ∧ ∃ Zf Ze Zo, Jw Q W4 gy (.slice Yf Q.fs.length yf) (.slice Ye Q.en.length ye) (.slice (some ⟨g, 0, none⟩) Q.ops.length yo) false Zf Ze Zo wr) (fun t _ => n - (intOf t).toNat)
        case atStart => exact ⟨0, rfl, Nat.zero_le _, CV.out, _, _, _, J1.out⟩
        case round =>
          obtain ⟨j, rfl, hjl, hcv, Zf, Ze, Zo, hj⟩ := hrel
          have J := Lib.hid hj
          have CV2 := Lib.hid hcv
          clear hj hcv J1 CV x0 x1 x2 x3 x4 x5 cv1
          by_cases hjn : j < n
          · have hJ : (j : Int) < (n : Int) := by omega
            obtain ⟨g', cs', hA, hM', hg', hc⟩ := J.out.o.loc (by rw [J.out.no]; omega)
            injection hA with hA
            injection hA with hA
            subst hA
            obtain ⟨v, hv, hk⟩ := hc i (by rw [J.out.no]; exact hin)
            have ev := ((row_cell hg' _).trans (hv 5 _ rfl)).symm.trans CV2.out
            injection ev with ev
            subst ev
            obtain ⟨hnl, b, o, cs2, hA, hMb, hgb, hcb⟩ := hk.loc (by omega)
            subst hA
            obtain ⟨y, hy⟩ := hcb j hjn
            have fy : wr.frozen? ⟨b, o + j, none⟩ = false := row_frozen hgb _
            have cvv := CV2.out
            obtain ⟨x0, x1, x2, x3, x4, x5⟩ := cells6 J.out.q
            have hgn : g ≠ b := ne_ty hg' hgb (by decide)
            clear hc hv hk hcb hnl
            go_upto_region 15 with fail
            obtain ⟨Zf', Ze', Zo', hj⟩ := J.out.int (o + j) hgb hMb (-1)
            have J2 := Lib.hid hj
            have cv3 := (World.cell?_of_block (a := ⟨g, i * 7 + 5, none⟩) (Below.heap_setCell wr ⟨b, o + j, none⟩ (.int .i64 (-1)) g hgn)).trans CV2.out
            have CV3 := Lib.hid cv3
            clear hj cv3 hy fy cvv J CV2 hg' hgb x0 x1 x2 x3 x4 x5
            generalize wr.setCell ⟨b, o + j, none⟩ (.int .i64 (-1)) = W8 at *
            go_wp2
            go_roundw
            case rel => first | exact ⟨j + 1, by go_num, hjn, CV3.out, _, _, _, J2.out⟩ | (simp only [exists_and_left]; exact ⟨j + 1, by go_num, hjn, CV3.out, _, _, _, J2.out⟩)
            case measure => simp [intOf]; omega
          · obtain rfl : j = n := by omega
            have hq2 : Q.ops.length ≤ 2000000 := SQ.out.o
            have hm : true = true := rfl
            go_wp2
            go_roundw
            case rel => exact ⟨i + 1, by go_num, hin, _, _, _, J.out⟩
            case measure => simp [intOf]; omega
      · obtain rfl : i = Q.ops.length := by omega
        go_wp2
        go_meet
        case rel => exact ⟨Zf, Ze, Zo, J.out⟩
  case rest =>
    generalize wc = V3 at *
    have J0 := Lib.hid hcut
    clear hcut x0 x1 x2 x3 x4 x5
    obtain ⟨x0, x1, x2, x3, x4, x5⟩ := cells6 J0.out.choose_spec.choose_spec.choose_spec.q
    go_upto_block 4 with fail
    go_cut [] from 5 to 88 (fun wx => (∃ Zf Ze Zo, Jw Q W4 gy (.slice Yf Q.fs.length yf) (.slice Ye Q.en.length ye) (.slice Yo Q.ops.length yo) (decide (0 < Q.fs.length)) Zf Ze Zo wx))
    case first =>
      have J0 : Hid (∃ Zf Ze Zo, Jw Q W4 gy (.slice Yf Q.fs.length yf) (.slice Ye Q.en.length ye) (.slice Yo Q.ops.length yo) (decide (0 < 0)) Zf Ze Zo V3) := J0
      go_wp2_with fail
      go_loopw [61] (fun t wr => ∃ i : Nat, t = .int .i64 (i : Int) ∧ i ≤ Q.fs.length ∧ (∃ Zf Ze Zo, Jw Q W4 gy (.slice Yf Q.fs.length yf) (.slice Ye Q.en.length ye) (.slice Yo Q.ops.length yo) (decide (0 < i)) Zf Ze Zo wr)) (fun t _ => Q.fs.length - (intOf t).toNat)
      case atStart => exact ⟨0, rfl, Nat.zero_le _, J0.out⟩
      case round =>
        obtain ⟨i, rfl, hil, Zf, Ze, Zo, hj⟩ := hrel
        have J := Lib.hid hj
        clear hj J0 x0 x1 x2 x3 x4 x5
        by_cases hin : i < Q.fs.length
        · have hI : (i : Int) < (Q.fs.length : Int) := by omega
          obtain ⟨g, cs, hA, hM, hg, hc⟩ := J.out.f.loc (by rw [J.out.nf]; omega)
          obtain ⟨v, hv, hk⟩ := hc i (by rw [J.out.nf]; exact hin)
          subst hA
          obtain ⟨A, n, c, rfl, hk0⟩ : ∃ A n c, v = .slice A n c ∧ n = (elF.il (Zf[i]'(by rw [J.out.nf]; exact hin))).length := by
            obtain ⟨A, c, e, _⟩ := hk
            exact ⟨A, _, c, e, rfl⟩
          have hn2 : n ≤ 2000000 := by
            have := J.out.sm SQ.out
            have := this.fp _ (List.getElem_mem (show i < (Zf).length by rw [J.out.nf]; exact hin))
            rw [hk0]; exact this
          obtain ⟨yw, cw⟩ : ∃ y : Int, wr.cell? ⟨g, i * 2 + 1, none⟩ = some (.int .i64 y) := ⟨_, (row_cell hg _).trans (hv 1 _ rfl)⟩
          have cv : wr.cell? ⟨g, i * 2, none⟩ = some (.slice A n c) := (row_cell hg _).trans (hv 0 _ rfl)
          have fw : wr.frozen? ⟨g, i * 2 + 1, none⟩ = false := row_frozen hg _
          have ls := hv 1 _ rfl
          have lv := hv 0 _ rfl
          obtain ⟨x0, x1, x2, x3, x4, x5⟩ := cells6 J.out.q
          clear hk hk0 hc hv
          go_upto_region 21 with fail
          obtain ⟨Zf', hj⟩ := J.out.ret i hin
          have J1 := Lib.hid hj
          have hg1 := blk_set hg (i * 2 + 1) (.int .i64 (-7))
          have cv1 : (wr.setCell ⟨g, i * 2 + 1, none⟩ (.int .i64 (-7))).cell? ⟨g, i * 2, none⟩ = some (.slice A n c) := by rw [row_cell hg1, List.getElem?_set_ne (by omega)]; exact lv
          have CV := Lib.hid cv1
          clear hj cw cv fw ls lv J hg hg1 cv1 x0 x1 x2 x3 x4 x5
          generalize wr.setCell ⟨g, i * 2 + 1, none⟩ (.int .i64 (-7)) = W7 at *
          obtain ⟨x0, x1, x2, x3, x4, x5⟩ := cells6 J1.out.q
          have cv1 := CV.out
          have hk : i * 2 + 0 = i * 2 + 0 := rfl
          go_wp2
          go_loopw [76] (fun t wr => ∃ j : Nat, t = .int .i64 (j : Int) ∧ j ≤ n ∧ wr.cell? ⟨g, i * 2, none⟩ = some (.slice A n c) ∧ ∃ Zf Ze Zo, Jw Q W4 gy (.slice (some ⟨g, 0, none⟩) Q.fs.length yf) (.slice Ye Q.en.length ye) (.slice Yo Q.ops.length yo) (decide (0 < i) || i == 0) Zf Ze Zo wr) (fun t _ => n - (intOf t).toNat)
          case atStart => exact ⟨0, rfl, Nat.zero_le _, CV.out, _, _, _, J1.out⟩
          case round =>
            obtain ⟨j, rfl, hjl, hcv, Zf, Ze, Zo, hj⟩ := hrel
            have J := Lib.hid hj
            have CV2 := Lib.hid hcv
            clear hj hcv J1 CV x0 x1 x2 x3 x4 x5 cv1
            by_cases hjn : j < n
            · have hJ : (j : Int) < (n : Int) := by omega
              obtain ⟨g', cs', hA, hM', hg', hc⟩ := J.out.f.loc (by rw [J.out.nf]; omega)
              injection hA with hA
              injection hA with hA
              subst hA
              obtain ⟨v, hv, hk⟩ := hc i (by rw [J.out.nf]; exact hin)
              have ev := ((row_cell hg' _).trans (hv 0 _ rfl)).symm.trans CV2.out
              injection ev with ev
              subst ev
              obtain ⟨hnl, b, o, cs2, hA, hMb, hgb, hcb⟩ := hk.loc (by omega)
              subst hA
              obtain ⟨y, hy⟩ := hcb j hjn
              have fy : wr.frozen? ⟨b, o + j, none⟩ = false := row_frozen hgb _
              have cvv := CV2.out
              obtain ⟨x0, x1, x2, x3, x4, x5⟩ := cells6 J.out.q
              have hgn : g ≠ b := ne_ty hg' hgb (by decide)
              clear hc hv hk hcb hnl
              go_upto_region 25 with fail
              obtain ⟨Zf', Ze', Zo', hj⟩ := J.out.int (o + j) hgb hMb (-1)
              have J2 := Lib.hid hj
              have cv3 := (World.cell?_of_block (a := ⟨g, i * 2, none⟩) (Below.heap_setCell wr ⟨b, o + j, none⟩ (.int .i64 (-1)) g hgn)).trans CV2.out
              have CV3 := Lib.hid cv3
              clear hj cv3 hy fy cvv J CV2 hg' hgb x0 x1 x2 x3 x4 x5
              generalize wr.setCell ⟨b, o + j, none⟩ (.int .i64 (-1)) = W8 at *
              go_wp2
              go_roundw
              case rel => first | exact ⟨j + 1, by go_num, hjn, CV3.out, _, _, _, J2.out⟩ | (simp only [exists_and_left]; exact ⟨j + 1, by go_num, hjn, CV3.out, _, _, _, J2.out⟩)
              case measure => simp [intOf]; omega
            · obtain rfl : j = n := by omega
              have hq2 : Q.fs.length ≤ 2000000 := SQ.out.f
              have hm : (decide (0 < i) || i == 0) = decide (0 < i + 1) := by rcases Nat.eq_zero_or_pos i with h | h <;> simp [h]
              go_wp2
              go_roundw
              case rel => exact ⟨i + 1, by go_num, hin, _, _, _, hm ▸ J.out⟩
              case measure => simp [intOf]; omega
        · obtain rfl : i = Q.fs.length := by omega
          go_wp2
          go_meet
          case rel => exact ⟨Zf, Ze, Zo, J.out⟩
    case rest =>
      generalize wc = V4 at *
      rw [decide_eq_true (show 0 < Q.fs.length from QF.out)] at hcut
      have J0 := Lib.hid hcut
      clear hcut x0 x1 x2 x3 x4 x5
      obtain ⟨x0, x1, x2, x3, x4, x5⟩ := cells6 J0.out.choose_spec.choose_spec.choose_spec.q
      go_upto_block 8 with fail
      go_cut [] from 5 to 99 (fun wx => (∃ Zf Ze Zo, Jw Q W4 gy (.slice Yf Q.fs.length yf) (.slice Ye Q.en.length ye) (.slice Yo Q.ops.length yo) true Zf Ze Zo wx))
      case first =>
        go_wp2_with fail
        go_loopw [92] (fun t wr => ∃ i : Nat, t = .int .i64 (i : Int) ∧ i ≤ Q.en.length ∧ (∃ Zf Ze Zo, Jw Q W4 gy (.slice Yf Q.fs.length yf) (.slice Ye Q.en.length ye) (.slice Yo Q.ops.length yo) true Zf Ze Zo wr)) (fun t _ => Q.en.length - (intOf t).toNat)
        case atStart => exact ⟨0, rfl, Nat.zero_le _, J0.out⟩
        case round =>
          obtain ⟨i, rfl, hil, Zf, Ze, Zo, hj⟩ := hrel
          have J := Lib.hid hj
          clear hj J0 x0 x1 x2 x3 x4 x5
          by_cases hin : i < Q.en.length
          · have hI : (i : Int) < (Q.en.length : Int) := by omega
            obtain ⟨_, b, o, cs2, hA, hMb, hgb, hcb⟩ := J.out.e.loc (by omega)
            subst hA
            obtain ⟨y, hy⟩ := hcb i hin
            have fy : wr.frozen? ⟨b, o + i, none⟩ = false := row_frozen hgb _
            obtain ⟨x0, x1, x2, x3, x4, x5⟩ := cells6 J.out.q
            have hq2 : Q.en.length ≤ 2000000 := SQ.out.e
            clear hcb
            go_upto_region 31 with fail
            obtain ⟨Zf', Ze', Zo', hj⟩ := J.out.int (o + i) hgb hMb (-1)
            have J2 := Lib.hid hj
            clear hj hy fy J hgb x0 x1 x2 x3 x4 x5
            generalize wr.setCell ⟨b, o + i, none⟩ (.int .i64 (-1)) = W8 at *
            go_wp2
            go_roundw
            case rel => exact ⟨i + 1, by go_num, hin, _, _, _, J2.out⟩
            case measure => simp [intOf]; omega
          · obtain rfl : i = Q.en.length := by omega
            go_wp2
            go_meet
            case rel => exact ⟨Zf, Ze, Zo, J.out⟩
      case rest =>
        generalize wc = W9 at *
        obtain ⟨Zf, Ze, Zo, hj⟩ := hcut
        obtain ⟨Z, hZ⟩ : ∃ Z, (⟨Q.vars, Q.objs, Q.fields, Zf, Ze, Zo⟩ : P) = Z := ⟨_, rfl⟩
        have hpz := hj.pin
        have hsz := hj.sm SQ.out
        have hns : same Q Z = false := same_ret Q Z (by
          rw [← hZ]
          intro he
          have h1 := hj.r rfl
          have he' : Q.fs.map F.ret = Zf.map F.ret := he
          rw [← he'] at h1
          exact QM.out h1)
        have e1 := hj.nf
        have e2 := hj.le
        have e3 := hj.no
        have R9 := Lib.hid hj.q
        rw [hZ] at hpz hsz
        have z0 : Q.vars = Z.vars ∧ Q.objs = Z.objs ∧ Q.fields = Z.fields ∧ Q.fs.length = Z.fs.length ∧ Q.en.length = Z.en.length ∧ Q.ops.length = Z.ops.length := by subst hZ; exact ⟨rfl, rfl, rfl, e1.symm, e2.symm, e3.symm⟩
        have ZQ := Lib.hid z0
        have BW := Lib.hid hj.b
        have X9 := Lib.hid (X4.out.below hj.b)
        have RX9 := Lib.hid (blk_below RX4.out hj.b (blk_lt RX4.out))
        have RP9 := Lib.hid (blk_below RP4.out hj.b (blk_lt RP4.out))
        have B9 := Lib.hid (B4.out.trans (hj.b.mono B4.out.size))
        have SXZ := Lib.hid (fun X (q : Below W9.heap.size W9 X) => (by
          have := same_any _ _ Q Z Cf df Ce de Co d Yf yf Ye ye Yo yo X (X9.out.below q) (hpz.below q) SQ.out hsz
          rw [hns] at this
          exact this : Calls Try.prog 18 #[pv Q Cf df Ce de Co d, pv Z Yf yf Ye ye Yo yo] X fun e w' => e = .returned (.bool false) ∧ Below X.heap.size X w'))
        have SXX := Lib.hid (fun X (q : Below W9.heap.size W9 X) R1 r1 R2 r2 R3 r3 M (hM : PIn M X Q R1 r1 R2 r2 R3 r3) => (by
          have := same_any _ _ Q Q Cf df Ce de Co d R1 r1 R2 r2 R3 r3 X (X9.out.below q) hM SQ.out SQ.out
          rw [same_refl] at this
          exact this : Calls Try.prog 18 #[pv Q Cf df Ce de Co d, pv Q R1 r1 R2 r2 R3 r3] X fun e w' => e = .returned (.bool true) ∧ Below X.heap.size X w'))
        clear hj hpz hsz hns e1 e2 e3 hZ z0 J0 x0 x1 x2 x3 x4 x5
        go_upto_region 32 with fail
        refine Gr.regionS 12 (fun i => if i < 11 then i + 100 else 2) [.val (pv Q Cf df Ce de Co d), .val (pv Z Yf yf Ye ye Yo yo), .val (.bool false), .val (.bool true), .val (.bool true), .val (pv Q Cf df Ce de Co d), .val (pv p Af cf Ae ce Ao co), .cls (PRV Q) (prv_grow), .cls (PRV Q) (prv_grow), .val (.bool true), .val (.bool true), .val (.bool true)] (by kernel_rfl) (by kernel_rfl) (by rfl) ?_ ?_
        · intro i o a W1 hi ho hb hfr hpre
          have t3 : a.tmps[3]?.getD undef = .pointer (some ⟨gx, 0, none⟩) := Gr.slot (hfr.f 3 (by intro j hj; (try dsimp only); split <;> omega))
          have t4 : a.tmps[4]?.getD undef = .pointer (some ⟨gy, 0, none⟩) := Gr.slot (hfr.f 4 (by intro j hj; (try dsimp only); split <;> omega))
          have t1 : a.tmps[1]?.getD undef = .pointer (some ⟨w.heap.size, 0, none⟩) := Gr.slot (hfr.f 1 (by intro j hj; (try dsimp only); split <;> omega))
          obtain ⟨k0, k1, k2, k3, k4, k5⟩ := cells6 (blk_below RX9.out hb (blk_lt RX9.out))
          obtain ⟨m0, m1, m2, m3, m4, m5⟩ := cells6 (blk_below R9.out hb (blk_lt R9.out))
          obtain ⟨n0, n1, n2, n3, n4, n5⟩ := cells6 (blk_below RP9.out hb (blk_lt RP9.out))
          obtain ⟨zz1, zz2, zz3, zz4, zz5, zz6⟩ := ZQ.out
          rw [zz1] at m0
          rw [zz2] at m1
          rw [zz3] at m2
          rw [zz4] at m3
          rw [zz5] at m4
          rw [zz6] at m5
          match i, hi with
          | 0, _ =>
            obtain rfl := Option.some.inj ho
            refine Gr.val (v := pv Q Cf df Ce de Co d) (w' := W1) (by simp [go_sem, t3, k0, k1, k2, k3, k4, k5]) ⟨_, rfl, rfl, Below.refl _ _⟩
          | 1, _ =>
            obtain rfl := Option.some.inj ho
            refine Gr.val (v := pv Z Yf yf Ye ye Yo yo) (w' := W1) (by simp [go_sem, t4, m0, m1, m2, m3, m4, m5]) ⟨_, rfl, rfl, Below.refl _ _⟩
          | 2, _ =>
            have p100 : a.tmps[100]?.getD undef = pv Q Cf df Ce de Co d := Gr.slot (hpre { on := 0, ground := .data } (by obtain rfl := Option.some.inj ho; simp) rfl (by decide))
            have p101 : a.tmps[101]?.getD undef = pv Z Yf yf Ye ye Yo yo := Gr.slot (hpre { on := 1, ground := .data } (by obtain rfl := Option.some.inj ho; simp) rfl (by decide))
            obtain rfl := Option.some.inj ho
            refine Gr.call (f := 18) (args := #[pv Q Cf df Ce de Co d, pv Z Yf yf Ye ye Yo yo]) (by simp [go_sem, p100, p101]) ((SXZ.out W1 hb).mono ?_)
            rintro e w' ⟨rfl, h2⟩
            exact ⟨_, rfl, _, rfl, rfl, h2⟩
          | 3, _ =>
            have p102 : a.tmps[102]?.getD undef = .bool false := Gr.slot (hpre { on := 2, ground := .data } (by obtain rfl := Option.some.inj ho; simp) rfl (by decide))
            obtain rfl := Option.some.inj ho
            refine Gr.val (v := .bool true) (w' := W1) (by simp [go_sem, p102]) ⟨_, rfl, rfl, Below.refl _ _⟩
          | 4, _ =>
            have p103 : a.tmps[103]?.getD undef = .bool true := Gr.slot (hpre { on := 3, ground := .data } (by obtain rfl := Option.some.inj ho; simp) rfl (by decide))
            obtain rfl := Option.some.inj ho
            refine Gr.val (v := .bool true) (w' := W1) (by simp [go_sem, p103]) ⟨_, rfl, rfl, Below.refl _ _⟩
          | 5, _ =>
            obtain rfl := Option.some.inj ho
            refine Gr.val (v := pv Q Cf df Ce de Co d) (w' := W1) (by simp [go_sem, t3, k0, k1, k2, k3, k4, k5]) ⟨_, rfl, rfl, Below.refl _ _⟩
          | 6, _ =>
            obtain rfl := Option.some.inj ho
            refine Gr.val (v := pv p Af cf Ae ce Ao co) (w' := W1) (by simp [go_sem, t1, n0, n1, n2, n3, n4, n5]) ⟨_, rfl, rfl, Below.refl _ _⟩
          | 7, _ =>
            have p106 : a.tmps[106]?.getD undef = pv p Af cf Ae ce Ao co := Gr.slot (hpre { on := 6, ground := .data } (by obtain rfl := Option.some.inj ho; simp) rfl (by decide))
            obtain rfl := Option.some.inj ho
            refine Gr.call (f := 16) (args := #[pv p Af cf Ae ce Ao co, .int .i64 60]) (by simp [go_sem, p106]) ((CR.out W1 (B9.out.trans (hb.mono B9.out.size))).mono ?_)
            rintro e w' ⟨B1, d1, B2, d2, B3, d3, rfl, h1, h2⟩
            exact ⟨_, rfl, _, rfl, ⟨B1, d1, B2, d2, B3, d3, rfl, _, h1⟩, h2⟩
          | 8, _ =>
            have q107 : (PRV Q) (a.eval (.tmp 107)) W1 := hpre { on := 7, ground := .data } (by obtain rfl := Option.some.inj ho; simp) rfl (by decide)
            obtain ⟨R1, r1, R2, r2, R3, r3, hv, M, hM⟩ := q107
            have p107 := Gr.slot hv
            obtain rfl := Option.some.inj ho
            refine Gr.call (f := 13) (args := #[pv Q R1 r1 R2 r2 R3 r3]) (by simp [go_sem, p107]) ((own_any M Q R1 r1 R2 r2 R3 r3 W1 hM SQ.out).mono ?_)
            rintro e w' ⟨B1, d1, B2, d2, B3, d3, rfl, h1, h2⟩
            exact ⟨_, rfl, _, rfl, ⟨B1, d1, B2, d2, B3, d3, rfl, _, h1⟩, h2⟩
          | 9, _ =>
            have p105 : a.tmps[105]?.getD undef = pv Q Cf df Ce de Co d := Gr.slot (hpre { on := 5, ground := .data } (by obtain rfl := Option.some.inj ho; simp) rfl (by decide))
            have q108 : (PRV Q) (a.eval (.tmp 108)) W1 := hpre { on := 8, ground := .data } (by obtain rfl := Option.some.inj ho; simp) rfl (by decide)
            obtain ⟨R1, r1, R2, r2, R3, r3, hv, M, hM⟩ := q108
            have p108 := Gr.slot hv
            obtain rfl := Option.some.inj ho
            refine Gr.call (f := 18) (args := #[pv Q Cf df Ce de Co d, pv Q R1 r1 R2 r2 R3 r3]) (by simp [go_sem, p105, p108]) ((SXX.out W1 hb _ _ _ _ _ _ _ hM).mono ?_)
            rintro e w' ⟨rfl, h2⟩
            exact ⟨_, rfl, _, rfl, rfl, h2⟩
          | 10, _ =>
            have p104 : a.tmps[104]?.getD undef = .bool true := Gr.slot (hpre { on := 4, ground := .data } (by obtain rfl := Option.some.inj ho; simp) rfl (by decide))
            have p109 : a.tmps[109]?.getD undef = .bool true := Gr.slot (hpre { on := 9, ground := .data } (by obtain rfl := Option.some.inj ho; simp) rfl (by decide))
            obtain rfl := Option.some.inj ho
            refine Gr.val (v := .bool true) (w' := W1) (by simp [go_sem, p104, p109]) ⟨_, rfl, rfl, Below.refl _ _⟩
          | 11, _ =>
            have p110 : a.tmps[110]?.getD undef = .bool true := Gr.slot (hpre { on := 10, ground := .data } (by obtain rfl := Option.some.inj ho; simp) rfl (by decide))
            obtain rfl := Option.some.inj ho
            refine Gr.val (v := .bool true) (w' := W1) (by simp [go_sem, p110]) ⟨_, rfl, rfl, Below.refl _ _⟩
          | i + 12, h => omega
        intro a W5 hb hfr hall
        have v0 : a.eval (.tmp 2) = .bool true := hall 11 (by omega)
        go_wp2
        (try simp only [Exit.inBlock, Exit.then])
        refine bodyPost_ret (results_tmp rfl _ _ _) hfr.d ?_
        exact ⟨congrArg Ending.returned v0, B9.out.trans (hb.mono B9.out.size)⟩
end Pm
end Go.Proofs.Ytnhgoeoffjcooaa
