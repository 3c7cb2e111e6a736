/-
  Programs: the law's ProgramRight. Made by wip/gen/prorght.py.
-/
import Derived.Test.YtnhgoeoffjcooaaProMr
import Derived.Test.YtnhgoeoffjcooaaProRChk
namespace Go.Proofs.Ytnhgoeoffjcooaa
open Go.RowKit
namespace Pm
open B
set_option linter.unusedVariables false
set_option maxRecDepth 100000 in
set_option maxHeartbeats 32000000 in
theorem right_walk (p : P) (Af : Option Addr) (cf : Nat) (Ae : Option Addr) (ce : Nat) (Ao : Option Addr) (co : Nat) (w : World) (h : PIn 0 w p Af cf Ae ce Ao co) :
    Calls Try.prog 4 #[pv p Af cf Ae ce Ao co] w fun e w' => e = .returned (.bool true) ∧ Below w.heap.size w w' := by
  obtain ⟨Q, hQ⟩ : ∃ Q, rightq p 60 = Q := ⟨_, rfl⟩
  have SQ : Hid (Sm Q) := Lib.hid (hQ ▸ right_sm p 60 (by decide))
  have CQ : Hid (check Q = 0) := Lib.hid (hQ ▸ right_check p 60 (by decide))
  have hq := hQ ▸ right_facts p 60 (by decide)
  have QB : Hid (big Q = false) := Lib.hid hq.1
  have QN : Hid (∀ o ∈ Q.ops, o.fn ≠ (Q.fs.length : Int)) := Lib.hid hq.2.1
  have QV : Hid (0 ≤ Q.vars) := Lib.hid hq.2.2.1
  have QE : Hid (Q.en.length ≤ 8) := Lib.hid hq.2.2.2
  have CR : Hid (∀ X, Below w.heap.size w X → Calls Try.prog 16 #[pv p Af cf Ae ce Ao co, .int .i64 60] X fun e w' => ∃ Bf df Be de Bo d, e = .returned (pv Q Bf df Be de Bo d) ∧ PIn X.heap.size w' Q Bf df Be de Bo d ∧ Below X.heap.size X w') := Lib.hid (fun X q => by
    have := right_any 0 p Af cf Ae ce Ao co 60 X (h.below q) (by decide)
    rw [hQ] at this
    exact this)
  have B0 := Lib.hid (below1 w (.cells #[.int .i64 p.vars, .int .i64 p.objs, .int .i64 p.fields, .slice Af p.fs.length cf, .slice Ae p.en.length ce, .slice Ao p.ops.length co] 26))
  have R1 := Lib.hid (heap_last w (.cells #[.int .i64 p.vars, .int .i64 p.objs, .int .i64 p.fields, .slice Af p.fs.length cf, .slice Ae p.en.length ce, .slice Ao p.ops.length co] 26) w.heap.size rfl)
  clear h hQ hq
  go_enter Try.func4, Try.ntmps4
  go_upto_region 3 with (go_at_call 11; ((with_reducible refine (awake_any _).mono ?_); rintro e W1 ⟨rfl, hb1⟩; have B1 := Lib.hid (B0.out.trans (hb1.mono B0.out.size)); have R2 := Lib.hid (blk_below R1.out hb1 (blk_lt R1.out)); clear hb1; obtain ⟨x0, x1, x2, x3, x4, x5⟩ := cells6 R2.out))
  go_upto_region 4 with (go_at_call 16; ((with_reducible refine (CR.out _ B1.out).mono ?_); rintro e W2 ⟨Bf, bf, Be, be, Bo, b, rfl, q1, hb2⟩; have B2 := Lib.hid (B1.out.trans (hb2.mono B1.out.size)); have Q1 := Lib.hid q1; clear hb2 q1))
  have al := below1 W2 (.cells #[.int .i64 Q.vars, .int .i64 Q.objs, .int .i64 Q.fields, .slice Bf Q.fs.length bf, .slice Be Q.en.length be, .slice Bo Q.ops.length b] 26)
  have RB := Lib.hid (heap_last W2 (.cells #[.int .i64 Q.vars, .int .i64 Q.objs, .int .i64 Q.fields, .slice Bf Q.fs.length bf, .slice Be Q.en.length be, .slice Bo Q.ops.length b] 26) W2.heap.size rfl)
  have PQ := Lib.hid (Q1.out.below al)
  have B2a := Lib.hid (B2.out.trans (al.mono B2.out.size))
  generalize hG3 : W2.heap.size = g3 at *
  generalize W2.alloc (.cells #[.int .i64 Q.vars, .int .i64 Q.objs, .int .i64 Q.fields, .slice Bf Q.fs.length bf, .slice Be Q.en.length be, .slice Bo Q.ops.length b] 26) = W2a at *
  clear x0 x1 x2 x3 x4 x5 hG3 Q1 R2 B2 al B1
  obtain ⟨x0, x1, x2, x3, x4, x5⟩ := cells6 RB.out
  go_upto_region 5 with (go_at_call 13; ((with_reducible refine (own_any _ Q Bf bf Be be Bo b _ PQ.out SQ.out).mono ?_); rintro e W3 ⟨Cf, df, Ce, de, Co, d, rfl, q3, hb3⟩; have B3 := Lib.hid hb3; have Q3 := Lib.hid q3; clear hb3 q3))
  have al := below1 W3 (.cells #[.int .i64 Q.vars, .int .i64 Q.objs, .int .i64 Q.fields, .slice Cf Q.fs.length df, .slice Ce Q.en.length de, .slice Co Q.ops.length d] 33)
  have RX4 := Lib.hid (heap_last W3 (.cells #[.int .i64 Q.vars, .int .i64 Q.objs, .int .i64 Q.fields, .slice Cf Q.fs.length df, .slice Ce Q.en.length de, .slice Co Q.ops.length d] 33) W3.heap.size rfl)
  have RQ4 := Lib.hid (blk_below (blk_below RB.out B3.out (blk_lt RB.out)) al (blk_lt (blk_below RB.out B3.out (blk_lt RB.out))))
  have X4 := Lib.hid (Q3.out.below al)
  have PQ4 := Lib.hid ((PQ.out.below B3.out).below al)
  have B4 := Lib.hid ((B2a.out.trans (B3.out.mono B2a.out.size)).trans (al.mono (Nat.le_trans B2a.out.size B3.out.size)))
  generalize hGX : W3.heap.size = gx at *
  generalize W3.alloc (.cells #[.int .i64 Q.vars, .int .i64 Q.objs, .int .i64 Q.fields, .slice Cf Q.fs.length df, .slice Ce Q.en.length de, .slice Co Q.ops.length d] 33) = W4 at *
  clear x0 x1 x2 x3 x4 x5 hGX Q3 RB PQ B2a B3 al
  obtain ⟨x0, x1, x2, x3, x4, x5⟩ := cells6 RX4.out
  obtain ⟨y0, y1, y2, y3, y4, y5⟩ := cells6 RQ4.out
  have CKX := Lib.hid (by
    have := check_any _ Q Cf df Ce de Co d W4 X4.out SQ.out
    rw [CQ.out] at this
    exact this : Calls Try.prog 14 #[pv Q Cf df Ce de Co d] W4 fun e w' => e = .returned (.int .i64 0) ∧ Below W4.heap.size W4 w')
  have CKB := Lib.hid (fun X (q : Below W4.heap.size W4 X) => (by
    have := rcheck_any _ Q Bf bf Be be Bo b X (PQ4.out.below q) SQ.out
    rw [CQ.out] at this
    exact this : Calls Try.prog 15 #[pv Q Bf bf Be be Bo b] X fun e w' => e = .returned (.int .i64 0) ∧ Below X.heap.size X w'))
  go_upto_region 7 with (first
    | (go_at_call 14; ((with_reducible refine CKX.out.mono ?_); rintro e V1 ⟨rfl, hb1⟩; have C1 := Lib.hid hb1; have RQ5 := Lib.hid (blk_below RQ4.out hb1 (blk_lt RQ4.out)); clear hb1 y0 y1 y2 y3 y4 y5; obtain ⟨y0, y1, y2, y3, y4, y5⟩ := cells6 RQ5.out))
    | (go_at_call 15; ((with_reducible refine (CKB.out _ C1.out).mono ?_); rintro e V2 ⟨rfl, hb2⟩; have C2 := Lib.hid (C1.out.trans (hb2.mono C1.out.size)); clear hb2)))
  clear x0 x1 x2 x3 x4 x5 y0 y1 y2 y3 y4 y5 CKX CKB RQ5 C1
  have RX5 := Lib.hid (blk_below RX4.out C2.out (blk_lt RX4.out))
  obtain ⟨x0, x1, x2, x3, x4, x5⟩ := cells6 RX5.out
  clear RX5
  go_upto_block 0 with fail
  go_cut [] from 5 to 58 (fun wx => Below W4.heap.size W4 wx)
  case first =>
    go_wp2_with fail
    go_loopw [25] (fun t wr => ∃ i : Nat, t = .int .i64 (i : Int) ∧ i ≤ Q.ops.length ∧ Below W4.heap.size W4 wr) (fun t _ => Q.ops.length - (intOf t).toNat)
    case atStart => exact ⟨0, rfl, Nat.zero_le _, C2.out⟩
    case round =>
      obtain ⟨i, rfl, hil, hb⟩ := hrel
      have HB := Lib.hid hb
      clear hb C2 x0 x1 x2 x3 x4 x5
      have hq2 : Q.ops.length ≤ 2000000 := SQ.out.o
      by_cases hin : i < Q.ops.length
      · have hI : (i : Int) < (Q.ops.length : Int) := by omega
        have RX := Lib.hid (blk_below RX4.out HB.out (blk_lt RX4.out))
        obtain ⟨x0, x1, x2, x3, x4, x5⟩ := cells6 RX.out
        have CW := Lib.hid (clone_own _ Q Cf df Ce de Co d wr (X4.out.below HB.out) SQ.out)
        go_upto_region 11 with (go_at_call 17; ((with_reducible refine CW.out.mono ?_); rintro e W5 ⟨Yf, yf, Ye, ye, Yo, yo, rfl, ⟨q1, q2, q3⟩, q4, hb5⟩; have B5 := Lib.hid hb5; have Y1 := Lib.hid q1; have Y2 := Lib.hid q2; have Y3 := Lib.hid q3; clear hb5 q1 q2 q3 q4))
        have al := below1 W5 (.cells #[.int .i64 Q.vars, .int .i64 Q.objs, .int .i64 Q.fields, .slice Yf Q.fs.length yf, .slice Ye Q.en.length ye, .slice Yo Q.ops.length yo] 33)
        have J0 : Hid (Jz Q wr.heap.size W5.heap.size (.slice Yf Q.fs.length yf) (.slice Ye Q.en.length ye) (.slice Yo Q.ops.length yo) Q.fs Q.en Q.ops (W5.alloc (.cells #[.int .i64 Q.vars, .int .i64 Q.objs, .int .i64 Q.fields, .slice Yf Q.fs.length yf, .slice Ye Q.en.length ye, .slice Yo Q.ops.length yo] 33))) :=
          Lib.hid ⟨Y1.out.below al, Y2.out.1.below al, Y3.out.below al, rfl, rfl, heap_last W5 _ _ rfl⟩
        have hMy : W4.heap.size ≤ W5.heap.size := Nat.le_trans HB.out.size B5.out.size
        have HBw := Lib.hid ((HB.out.trans (B5.out.mono HB.out.size)).trans (al.mono hMy))
        have RXw := Lib.hid (blk_below (blk_below RX.out B5.out (blk_lt RX.out)) al (blk_lt (blk_below RX.out B5.out (blk_lt RX.out))))
        have MB := Lib.hid HB.out.size
        have GXY := Lib.hid (show gx ≠ W5.heap.size from Nat.ne_of_lt (Nat.lt_of_lt_of_le (blk_lt RX4.out) hMy))
        generalize hGY : W5.heap.size = gy at *
        generalize W5.alloc (.cells #[.int .i64 Q.vars, .int .i64 Q.objs, .int .i64 Q.fields, .slice Yf Q.fs.length yf, .slice Ye Q.en.length ye, .slice Yo Q.ops.length yo] 33) = Va at *
        clear x0 x1 x2 x3 x4 x5 al hGY Y1 Y2 Y3 B5 RX CW
        obtain ⟨gb, csb, hA, hMb, hgb, hc⟩ := J0.out.o.loc (by omega)
        obtain ⟨v, hv, _⟩ := hc i hin
        subst hA
        obtain ⟨yy, cw⟩ : ∃ y : Int, Va.cell? ⟨gb, i * 7 + 1, none⟩ = some (.int .i64 y) := ⟨_, (row_cell hgb _).trans (hv 1 _ rfl)⟩
        have fw : Va.frozen? ⟨gb, i * 7 + 1, none⟩ = false := row_frozen hgb _
        obtain ⟨m0, m1, m2, m3, m4, m5⟩ := cells6 J0.out.q
        obtain ⟨x0, x1, x2, x3, x4, x5⟩ := cells6 RXw.out
        clear hc hv
        go_upto_region 12 with fail
        have Jb := Lib.hid (J0.out.op i hin 1 (by decide) (.int .i64 (Q.fs.length : Int)) (⟨Q.ops[i].kind, (Q.fs.length : Int), Q.ops[i].a, Q.ops[i].b, Q.ops[i].c, Q.ops[i].args, Q.ops[i].heat⟩) (fun v => rfl) rfl rfl)
        have HBb := Lib.hid (HBw.out.setCell (p := ⟨gb, i * 7 + 1, none⟩) (Nat.le_trans MB.out hMb) (.int .i64 (Q.fs.length : Int)))
        have RXb := Lib.hid (blk_other (i := i * 7 + 1) RXw.out (ne_ty hgb RXw.out (by decide)).symm (.int .i64 (Q.fs.length : Int)))
        clear cw fw m0 m1 m2 m3 m4 m5 x0 x1 x2 x3 x4 x5 J0 HBw RXw hgb
        generalize Va.setCell ⟨gb, i * 7 + 1, none⟩ (.int .i64 (Q.fs.length : Int)) = Vb at *
        obtain ⟨Z, hZ⟩ : ∃ Z : P, (⟨Q.vars, Q.objs, Q.fields, Q.fs, Q.en, Q.ops.set i ⟨Q.ops[i].kind, (Q.fs.length : Int), Q.ops[i].a, Q.ops[i].b, Q.ops[i].c, Q.ops[i].args, Q.ops[i].heat⟩⟩ : P) = Z := ⟨_, rfl⟩
        have hpz := (Jb.out.pin).1
        have hsz := Jb.out.sm SQ.out SQ.out.e
        have hbz := big_same Q ⟨Q.vars, Q.objs, Q.fields, Q.fs, Q.en, Q.ops.set i ⟨Q.ops[i].kind, (Q.fs.length : Int), Q.ops[i].a, Q.ops[i].b, Q.ops[i].c, Q.ops[i].args, Q.ops[i].heat⟩⟩ ⟨rfl, rfl, rfl⟩ rfl (by have := QE.out; show Q.en.length ≤ 30; omega) Jb.out.lo QB.out
        have hfz := not_formed_op Q Q.fs Q.en (Q.ops.set i ⟨Q.ops[i].kind, (Q.fs.length : Int), Q.ops[i].a, Q.ops[i].b, Q.ops[i].c, Q.ops[i].args, Q.ops[i].heat⟩) ⟨Q.ops[i].kind, (Q.fs.length : Int), Q.ops[i].a, Q.ops[i].b, Q.ops[i].c, Q.ops[i].args, Q.ops[i].heat⟩ (List.mem_set hin _) (okO_fn _ Q.ops[i])
        have hcz := check_bad _ hbz hfz
        have hez : pv ⟨Q.vars, Q.objs, Q.fields, Q.fs, Q.en, Q.ops.set i ⟨Q.ops[i].kind, (Q.fs.length : Int), Q.ops[i].a, Q.ops[i].b, Q.ops[i].c, Q.ops[i].args, Q.ops[i].heat⟩⟩ Yf yf Ye ye (some ⟨gb, 0, none⟩) yo = pv Q Yf yf Ye ye (some ⟨gb, 0, none⟩) yo := by unfold pv; rw [List.length_set]
        have CKb := Lib.hid (fun X (q : Below Vb.heap.size Vb X) => (by
          have := check_any _ _ Yf yf Ye ye (some ⟨gb, 0, none⟩) yo X (hpz.below q) hsz
          rw [hcz, hez] at this
          exact this : Calls Try.prog 14 #[pv Q Yf yf Ye ye (some ⟨gb, 0, none⟩) yo] X fun e w' => e = .returned (.int .i64 12) ∧ Below X.heap.size X w'))
        have hns : same Q ⟨Q.vars, Q.objs, Q.fields, Q.fs, Q.en, Q.ops.set i ⟨Q.ops[i].kind, (Q.fs.length : Int), Q.ops[i].a, Q.ops[i].b, Q.ops[i].c, Q.ops[i].args, Q.ops[i].heat⟩⟩ = false := same_fn _ _ (by
          intro he
          have he' : Q.ops.map O.fn = (Q.ops.set i ⟨Q.ops[i].kind, (Q.fs.length : Int), Q.ops[i].a, Q.ops[i].b, Q.ops[i].c, Q.ops[i].args, Q.ops[i].heat⟩).map O.fn := he
          have h1 := congrArg (fun l => l[i]?) he'
          simp only [List.getElem?_map, List.getElem?_set_self hin, List.getElem?_eq_getElem hin, Option.map_some] at h1
          injection h1 with h1
          exact QN.out _ (List.getElem_mem hin) h1)
        have SM := Lib.hid (fun X (q : Below Vb.heap.size Vb X) => (by
          have := same_any _ _ Q _ Cf df Ce de Co d Yf yf Ye ye (some ⟨gb, 0, none⟩) yo X ((X4.out.below HBb.out).below q) (hpz.below q) SQ.out hsz
          rw [hns, hez] at this
          exact this : Calls Try.prog 18 #[pv Q Cf df Ce de Co d, pv Q Yf yf Ye ye (some ⟨gb, 0, none⟩) yo] X fun e w' => e = .returned (.bool false) ∧ Below X.heap.size X w'))
        clear hpz hsz hbz hfz hcz hez hns hZ
        obtain ⟨m0, m1, m2, m3, m4, m5⟩ := cells6 Jb.out.q
        go_upto_region 14 with (first
          | (go_at_call 14; ((with_reducible refine (CKb.out _ (Below.refl _ _)).mono ?_); rintro e U1 ⟨rfl, hb1⟩; have D1 := Lib.hid hb1; have RXu := Lib.hid (blk_below RXb.out hb1 (blk_lt RXb.out)); have RYu := Lib.hid (blk_below Jb.out.q hb1 (blk_lt Jb.out.q)); clear hb1 m0 m1 m2 m3 m4 m5; obtain ⟨x0, x1, x2, x3, x4, x5⟩ := cells6 RXu.out; obtain ⟨m0, m1, m2, m3, m4, m5⟩ := cells6 RYu.out))
          | (go_at_call 18; ((with_reducible refine (SM.out _ D1.out).mono ?_); rintro e U2 ⟨rfl, hb2⟩; have D2 := Lib.hid (D1.out.trans (hb2.mono D1.out.size)); clear hb2)))
        have HBw := Lib.hid (HBb.out.trans (D2.out.mono HBb.out.size))
        have RXu2 := Lib.hid (blk_below RXb.out D2.out (blk_lt RXb.out))
        have RYu2 := Lib.hid (blk_below Jb.out.q D2.out (blk_lt Jb.out.q))
        clear D1 RXu RYu x0 x1 x2 x3 x4 x5 m0 m1 m2 m3 m4 m5 CKb SM Jb RXb HBb D2
        obtain ⟨x0, x1, x2, x3, x4, x5⟩ := cells6 RXu2.out
        have CW := Lib.hid (clone_own _ Q Cf df Ce de Co d U2 (X4.out.below HBw.out) SQ.out)
        go_upto_region 15 with (go_at_call 17; ((with_reducible refine CW.out.mono ?_); rintro e W6 ⟨Tf, tf, Te, te, To, tO, rfl, ⟨q1, q2, q3⟩, q4, hb5⟩; have B5 := Lib.hid hb5; have Y1 := Lib.hid q1; have Y2 := Lib.hid q2; have Y3 := Lib.hid q3; have RY6 := Lib.hid (blk_below RYu2.out hb5 (blk_lt RYu2.out)); clear hb5 q1 q2 q3 q4; obtain ⟨m0, m1, m2, m3, m4, m5, f0, f1, f2, f3, f4, f5⟩ := row6 RY6.out))
        have EX : Ex gy W6 ((((((W6.setCell ⟨gy, 0, none⟩ (.int .i64 Q.vars)).setCell ⟨gy, 1, none⟩ (.int .i64 Q.objs)).setCell ⟨gy, 2, none⟩ (.int .i64 Q.fields)).setCell ⟨gy, 3, none⟩ (.slice Tf Q.fs.length tf)).setCell ⟨gy, 4, none⟩ (.slice Te Q.en.length te)).setCell ⟨gy, 5, none⟩ (.slice To Q.ops.length tO)) := ((((((Ex.refl _ _).set 0 _).set 1 _).set 2 _).set 3 _).set 4 _).set 5 _
        have J2 : Hid (Jz Q U2.heap.size gy (.slice Tf Q.fs.length tf) (.slice Te Q.en.length te) (.slice To Q.ops.length tO) Q.fs Q.en Q.ops ((((((W6.setCell ⟨gy, 0, none⟩ (.int .i64 Q.vars)).setCell ⟨gy, 1, none⟩ (.int .i64 Q.objs)).setCell ⟨gy, 2, none⟩ (.int .i64 Q.fields)).setCell ⟨gy, 3, none⟩ (.slice Tf Q.fs.length tf)).setCell ⟨gy, 4, none⟩ (.slice Te Q.en.length te)).setCell ⟨gy, 5, none⟩ (.slice To Q.ops.length tO))) := Lib.hid (jz_of Y1.out Y2.out.1 Y3.out EX RY6.out (set6 RY6.out))
        have HB6 := HBw.out.trans (B5.out.mono HBw.out.size)
        have MB2 := Lib.hid HBw.out.size
        have RXw := Lib.hid ((EX.2 gx (blk_lt (blk_below RXu2.out B5.out (blk_lt RXu2.out))) GXY.out).trans (blk_below RXu2.out B5.out (blk_lt RXu2.out)))
        have HBw := Lib.hid ((((((HB6.setCell (p := ⟨gy, 0, none⟩) hMy (.int .i64 Q.vars)).setCell (p := ⟨gy, 1, none⟩) hMy (.int .i64 Q.objs)).setCell (p := ⟨gy, 2, none⟩) hMy (.int .i64 Q.fields)).setCell (p := ⟨gy, 3, none⟩) hMy (.slice Tf Q.fs.length tf)).setCell (p := ⟨gy, 4, none⟩) hMy (.slice Te Q.en.length te)).setCell (p := ⟨gy, 5, none⟩) hMy (.slice To Q.ops.length tO))
        generalize ((((((W6.setCell ⟨gy, 0, none⟩ (.int .i64 Q.vars)).setCell ⟨gy, 1, none⟩ (.int .i64 Q.objs)).setCell ⟨gy, 2, none⟩ (.int .i64 Q.fields)).setCell ⟨gy, 3, none⟩ (.slice Tf Q.fs.length tf)).setCell ⟨gy, 4, none⟩ (.slice Te Q.en.length te)).setCell ⟨gy, 5, none⟩ (.slice To Q.ops.length tO)) = Vc at *
        clear x0 x1 x2 x3 x4 x5 m0 m1 m2 m3 m4 m5 f0 f1 f2 f3 f4 f5 EX HB6 B5 Y1 Y2 Y3 RY6 RXu2 RYu2 CW
        obtain ⟨gd, csd, hA, hMd, hgd, hc⟩ := J2.out.o.loc (by omega)
        obtain ⟨v, hv, _⟩ := hc i hin
        subst hA
        obtain ⟨yy, cw⟩ : ∃ y : Int, Vc.cell? ⟨gd, i * 7 + 2, none⟩ = some (.int .i64 y) := ⟨_, (row_cell hgd _).trans (hv 2 _ rfl)⟩
        have fw : Vc.frozen? ⟨gd, i * 7 + 2, none⟩ = false := row_frozen hgd _
        obtain ⟨m0, m1, m2, m3, m4, m5⟩ := cells6 J2.out.q
        obtain ⟨x0, x1, x2, x3, x4, x5⟩ := cells6 RXw.out
        clear hc hv
        go_upto_region 16 with fail
        have Jd := Lib.hid (J2.out.op i hin 2 (by decide) (.int .i64 Q.vars) (⟨Q.ops[i].kind, Q.ops[i].fn, Q.vars, Q.ops[i].b, Q.ops[i].c, Q.ops[i].args, Q.ops[i].heat⟩) (fun v => rfl) rfl rfl)
        have HBd := Lib.hid (HBw.out.setCell (p := ⟨gd, i * 7 + 2, none⟩) (Nat.le_trans MB2.out hMd) (.int .i64 Q.vars))
        have RXd := Lib.hid (blk_other (i := i * 7 + 2) RXw.out (ne_ty hgd RXw.out (by decide)).symm (.int .i64 Q.vars))
        clear cw fw m0 m1 m2 m3 m4 m5 x0 x1 x2 x3 x4 x5 J2 HBw RXw hgd
        generalize Vc.setCell ⟨gd, i * 7 + 2, none⟩ (.int .i64 Q.vars) = Vd at *
        obtain ⟨Z, hZ⟩ : ∃ Z : P, (⟨Q.vars, Q.objs, Q.fields, Q.fs, Q.en, Q.ops.set i ⟨Q.ops[i].kind, Q.ops[i].fn, Q.vars, Q.ops[i].b, Q.ops[i].c, Q.ops[i].args, Q.ops[i].heat⟩⟩ : P) = Z := ⟨_, rfl⟩
        have hpz := (Jd.out.pin).1
        have hsz := Jd.out.sm SQ.out SQ.out.e
        have hbz := big_same Q ⟨Q.vars, Q.objs, Q.fields, Q.fs, Q.en, Q.ops.set i ⟨Q.ops[i].kind, Q.ops[i].fn, Q.vars, Q.ops[i].b, Q.ops[i].c, Q.ops[i].args, Q.ops[i].heat⟩⟩ ⟨rfl, rfl, rfl⟩ rfl (by have := QE.out; show Q.en.length ≤ 30; omega) Jd.out.lo QB.out
        have hfz := not_formed_op Q Q.fs Q.en (Q.ops.set i ⟨Q.ops[i].kind, Q.ops[i].fn, Q.vars, Q.ops[i].b, Q.ops[i].c, Q.ops[i].args, Q.ops[i].heat⟩) ⟨Q.ops[i].kind, Q.ops[i].fn, Q.vars, Q.ops[i].b, Q.ops[i].c, Q.ops[i].args, Q.ops[i].heat⟩ (List.mem_set hin _) (okO_a _ Q.ops[i] QV.out)
        have hcz := check_bad _ hbz hfz
        have hez : pv ⟨Q.vars, Q.objs, Q.fields, Q.fs, Q.en, Q.ops.set i ⟨Q.ops[i].kind, Q.ops[i].fn, Q.vars, Q.ops[i].b, Q.ops[i].c, Q.ops[i].args, Q.ops[i].heat⟩⟩ Tf tf Te te (some ⟨gd, 0, none⟩) tO = pv Q Tf tf Te te (some ⟨gd, 0, none⟩) tO := by unfold pv; rw [List.length_set]
        have CKd := Lib.hid (fun X (q : Below Vd.heap.size Vd X) => (by
          have := check_any _ _ Tf tf Te te (some ⟨gd, 0, none⟩) tO X (hpz.below q) hsz
          rw [hcz, hez] at this
          exact this : Calls Try.prog 14 #[pv Q Tf tf Te te (some ⟨gd, 0, none⟩) tO] X fun e w' => e = .returned (.int .i64 12) ∧ Below X.heap.size X w'))
        clear hpz hsz hbz hfz hcz hez hZ
        obtain ⟨m0, m1, m2, m3, m4, m5⟩ := cells6 Jd.out.q
        go_upto_region 18 with (go_at_call 14; ((with_reducible refine (CKd.out _ (Below.refl _ _)).mono ?_); rintro e U3 ⟨rfl, hb1⟩; have D3 := Lib.hid (HBd.out.trans (hb1.mono HBd.out.size)); clear hb1))
        go_wp2
        go_roundw
        case rel => exact ⟨i + 1, by go_num, hin, D3.out⟩
        case measure => simp [intOf]; omega
      · go_wp2
        go_meet
        case rel => exact HB.out
  case rest =>
    generalize wc = V at *
    have HB := Lib.hid hcut
    clear hcut C2 x0 x1 x2 x3 x4 x5
    have RX := Lib.hid (blk_below RX4.out HB.out (blk_lt RX4.out))
    obtain ⟨x0, x1, x2, x3, x4, x5⟩ := cells6 RX.out
    have CW := Lib.hid (clone_own _ Q Cf df Ce de Co d V (X4.out.below HB.out) SQ.out)
    go_upto_region 20 with (go_at_call 17; ((with_reducible refine CW.out.mono ?_); rintro e W5 ⟨Yf, yf, Ye, ye, Yo, yo, rfl, ⟨q1, q2, q3⟩, q4, hb5⟩; have B5 := Lib.hid hb5; have Y1 := Lib.hid q1; have Y2 := Lib.hid q2; have Y3 := Lib.hid q3; clear hb5 q1 q2 q3 q4))
    have al := below1 W5 (.cells #[.int .i64 Q.vars, .int .i64 Q.objs, .int .i64 Q.fields, .slice Yf Q.fs.length yf, .slice Ye Q.en.length ye, .slice Yo Q.ops.length yo] 33)
    have Z1 := Lib.hid (Y1.out.below al)
    have Z2 := Lib.hid (own_below Y2.out.2 al)
    have Z3 := Lib.hid (Y3.out.below al)
    have hMz : W4.heap.size ≤ W5.heap.size := Nat.le_trans HB.out.size B5.out.size
    have HBw := Lib.hid ((HB.out.trans (B5.out.mono HB.out.size)).trans (al.mono hMz))
    have MB := Lib.hid HB.out.size
    have MV := Lib.hid (Nat.le_trans B5.out.size al.size)
    have RZ := Lib.hid (heap_last W5 (.cells #[.int .i64 Q.vars, .int .i64 Q.objs, .int .i64 Q.fields, .slice Yf Q.fs.length yf, .slice Ye Q.en.length ye, .slice Yo Q.ops.length yo] 33) W5.heap.size rfl)
    have GXZ := Lib.hid (show gx ≠ W5.heap.size from Nat.ne_of_lt (Nat.lt_of_lt_of_le (blk_lt RX4.out) hMz))
    have G3Z := Lib.hid (show g3 ≠ W5.heap.size from Nat.ne_of_lt (Nat.lt_of_lt_of_le (blk_lt RQ4.out) hMz))
    have RXw := Lib.hid (blk_below RX4.out HBw.out (blk_lt RX4.out))
    generalize hGZ : W5.heap.size = gz at *
    generalize W5.alloc (.cells #[.int .i64 Q.vars, .int .i64 Q.objs, .int .i64 Q.fields, .slice Yf Q.fs.length yf, .slice Ye Q.en.length ye, .slice Yo Q.ops.length yo] 33) = Va at *
    clear x0 x1 x2 x3 x4 x5 al hGZ Y1 Y2 Y3 B5 RX CW
    obtain ⟨m0, m1, m2, m3, m4, m5⟩ := cells6 RZ.out
    obtain ⟨x0, x1, x2, x3, x4, x5⟩ := cells6 RXw.out
    go_wp2_with (at_builtin; refine wpList_append_one rfl _ _ rfl V.heap.size Q.en.length _ _ (Q.fs.length : Int) rfl (Z2.out.alloc _) ⟨Va.heap.size, 0, none⟩ 1 rfl (cell_one_new _ _ _ 0 _ rfl) (by have := QE.out; omega) (by have := MV.out; simp; omega) ?_)
    intro v5 W9 own5 grow5 ap5
    have al := below1 Va (.cells #[.int .i64 (Q.fs.length : Int)] 3)
    obtain ⟨Zf, Zo, lf, lo, r1, r3⟩ := ap_rows ap5 (Z1.out.below al) (Z3.out.below al)
    have r2 := KL.own (l := Q.en ++ [(Q.fs.length : Int)]) (by rw [List.length_append, List.map_append]; exact own5)
    have RZ9 := Lib.hid (blk_grown (Z2.out.alloc _) grow5 (hp_old _ RZ.out) (by decide))
    have HB9 := Lib.hid ((HBw.out.trans (al.mono HBw.out.size)).grown grow5 (Nat.le_trans HBw.out.size al.size) (fun q hq => Nat.le_trans MB.out (own_blk Z2.out q hq).1))
    obtain ⟨A5, c5, hv5⟩ := own_form own5
    subst hv5
    clear own5 grow5 ap5 al m0 m1 m2 m3 m4 m5 x0 x1 x2 x3 x4 x5
    obtain ⟨m0, m1, m2, m3, m4, m5, f0, f1, f2, f3, f4, f5⟩ := row6 RZ9.out
    go_upto_region 21 with fail
    have EX : Ex gz W9 (W9.setCell ⟨gz, 4, none⟩ (.slice A5 (Q.en.length + 1) c5)) := (Ex.refl _ _).set 4 _
    have RZ10 := Lib.hid (blk_set (cs := [_, _, _, _, _, _]) RZ9.out 4 (.slice A5 (Q.en.length + 1) c5))
    have HB10 := Lib.hid (HB9.out.setCell (p := ⟨gz, 4, none⟩) hMz (.slice A5 (Q.en.length + 1) c5))
    have s1 := r1.keepM EX.1 (fun x _ hl ⟨t', cs', fr', h1, h2⟩ => ex_ne EX RZ9.out x hl t' cs' fr' (by rcases h1 with rfl | rfl <;> decide) h2)
    have s2 := r2.keepM EX.1 (fun x _ hl ⟨cs', fr', h2⟩ => ex_ne EX RZ9.out x hl _ cs' fr' (by decide) h2)
    have s3 := r3.keepM EX.1 (fun x _ hl ⟨t', cs', fr', h1, h2⟩ => ex_ne EX RZ9.out x hl t' cs' fr' (by rcases h1 with rfl | rfl <;> decide) h2)
    generalize W9.setCell ⟨gz, 4, none⟩ (.slice A5 (Q.en.length + 1) c5) = W10 at *
    clear r1 r2 r3 m0 m1 m2 m3 m4 m5 f0 f1 f2 f3 f4 f5 EX RZ9 HB9
    have hj : Jz Q V.heap.size gz (.slice Yf Q.fs.length yf) (.slice A5 (Q.en.length + 1) c5) (.slice Yo Q.ops.length yo) Zf (Q.en ++ [(Q.fs.length : Int)]) Zo W10 := ⟨s1, s2, s3, lf, lo, RZ10.out⟩
    obtain ⟨Z, hZ⟩ : ∃ Z : P, (⟨Q.vars, Q.objs, Q.fields, Zf, Q.en ++ [(Q.fs.length : Int)], Zo⟩ : P) = Z := ⟨_, rfl⟩
    have hpz := hj.pin.1
    have hsz := hj.sm SQ.out (by have := QE.out; simp; omega)
    have hbz := big_same Q ⟨Q.vars, Q.objs, Q.fields, Zf, Q.en ++ [(Q.fs.length : Int)], Zo⟩ ⟨rfl, rfl, rfl⟩ lf (by have := QE.out; simp; omega) lo QB.out
    have hfz : formed ⟨Q.vars, Q.objs, Q.fields, Zf, Q.en ++ [(Q.fs.length : Int)], Zo⟩ = false := by
      have h1 : ((Q.en ++ [(Q.fs.length : Int)]).all (inB Zf.length)) = false := by
        rw [List.all_eq_false]
        exact ⟨(Q.fs.length : Int), by simp, by rw [hj.nf, inB_self]; decide⟩
      unfold formed
      show (_ && (Q.en ++ [(Q.fs.length : Int)]).all (inB Zf.length) && _) = false
      rw [h1, Bool.and_false, Bool.false_and]
    have hcz := check_bad _ hbz hfz
    have z0 : Q.vars = Z.vars ∧ Q.objs = Z.objs ∧ Q.fields = Z.fields ∧ Q.fs.length = Z.fs.length ∧ Q.en.length + 1 = Z.en.length ∧ Q.ops.length = Z.ops.length := by subst hZ; exact ⟨rfl, rfl, rfl, hj.nf.symm, by simp, hj.no.symm⟩
    have ZQ := Lib.hid z0
    rw [hZ] at hpz hsz hcz
    have CKZ := Lib.hid (fun X (q : Below W10.heap.size W10 X) => (by
      have := check_any _ Z Yf yf A5 c5 Yo yo X (hpz.below q) hsz
      rw [hcz] at this
      exact this : Calls Try.prog 14 #[pv Z Yf yf A5 c5 Yo yo] X fun e w' => e = .returned (.int .i64 12) ∧ Below X.heap.size X w'))
    have SXX := Lib.hid (fun X (q : Below W10.heap.size W10 X) R1 r1 R2 r2 R3 r3 M (hM : PIn M X Q R1 r1 R2 r2 R3 r3) => (by
      have := same_any _ _ Q Q Cf df Ce de Co d R1 r1 R2 r2 R3 r3 X ((X4.out.below HB10.out).below q) hM SQ.out SQ.out
      rw [same_refl] at this
      exact this : Calls Try.prog 18 #[pv Q Cf df Ce de Co d, pv Q R1 r1 R2 r2 R3 r3] X fun e w' => e = .returned (.bool true) ∧ Below X.heap.size X w'))
    have RX10 := Lib.hid (blk_below RX4.out HB10.out (blk_lt RX4.out))
    have RQ10 := Lib.hid (blk_below RQ4.out HB10.out (blk_lt RQ4.out))
    clear hj hpz hsz hbz hfz hcz hZ z0 s1 s2 s3
    refine Gr.regionS 10 (fun i => if i < 9 then i + 69 else 2) [.val (pv Z Yf yf A5 c5 Yo yo), .val (.int .i64 12), .val (.bool true), .val (.bool true), .val (pv Q Cf df Ce de Co d), .val (pv Q Bf bf Be be Bo b), .cls (PRV Q) (prv_grow), .val (.bool true), .val (.bool true), .val (.bool true)] (by kernel_rfl) (by kernel_rfl) (by rfl) ?_ ?_
    · intro i o a W1 hi ho hb hfr hpre
      have t7 : a.tmps[7]?.getD undef = .pointer (some ⟨gz, 0, none⟩) := Gr.slot (hfr.f 7 (by intro j hj; (try dsimp only); split <;> omega))
      have t4 : a.tmps[4]?.getD undef = .pointer (some ⟨gx, 0, none⟩) := Gr.slot (hfr.f 4 (by intro j hj; (try dsimp only); split <;> omega))
      have t3 : a.tmps[3]?.getD undef = .pointer (some ⟨g3, 0, none⟩) := Gr.slot (hfr.f 3 (by intro j hj; (try dsimp only); split <;> omega))
      obtain ⟨k0, k1, k2, k3, k4, k5⟩ := cells6 (blk_below RX10.out hb (blk_lt RX10.out))
      obtain ⟨m0, m1, m2, m3, m4, m5⟩ := cells6 (blk_below RZ10.out hb (blk_lt RZ10.out))
      obtain ⟨n0, n1, n2, n3, n4, n5⟩ := cells6 (blk_below RQ10.out hb (blk_lt RQ10.out))
      obtain ⟨zz1, zz2, zz3, zz4, zz5, zz6⟩ := ZQ.out
      rw [zz1] at m0
      rw [zz2] at m1
      rw [zz3] at m2
      rw [zz4] at m3
      rw [zz5] at m4
      rw [zz6] at m5
      match i, hi with
      | 0, _ =>
        obtain rfl := Option.some.inj ho
        refine Gr.val (v := pv Z Yf yf A5 c5 Yo yo) (w' := W1) (by simp [go_sem, t7, m0, m1, m2, m3, m4, m5]) ⟨_, rfl, rfl, Below.refl _ _⟩
      | 1, _ =>
        have p69 : a.tmps[69]?.getD undef = pv Z Yf yf A5 c5 Yo yo := Gr.slot (hpre { on := 0, ground := .data } (by obtain rfl := Option.some.inj ho; simp) rfl (by decide))
        obtain rfl := Option.some.inj ho
        refine Gr.call (f := 14) (args := #[pv Z Yf yf A5 c5 Yo yo]) (by simp [go_sem, p69]) ((CKZ.out W1 hb).mono ?_)
        rintro e w' ⟨rfl, h2⟩
        exact ⟨_, rfl, _, rfl, rfl, h2⟩
      | 2, _ =>
        have p70 : a.tmps[70]?.getD undef = .int .i64 12 := Gr.slot (hpre { on := 1, ground := .data } (by obtain rfl := Option.some.inj ho; simp) rfl (by decide))
        obtain rfl := Option.some.inj ho
        refine Gr.val (v := .bool true) (w' := W1) (by simp [go_sem, p70]) ⟨_, rfl, rfl, Below.refl _ _⟩
      | 3, _ =>
        have p71 : a.tmps[71]?.getD undef = .bool true := Gr.slot (hpre { on := 2, ground := .data } (by obtain rfl := Option.some.inj ho; simp) rfl (by decide))
        obtain rfl := Option.some.inj ho
        refine Gr.val (v := .bool true) (w' := W1) (by simp [go_sem, p71]) ⟨_, rfl, rfl, Below.refl _ _⟩
      | 4, _ =>
        obtain rfl := Option.some.inj ho
        refine Gr.val (v := pv Q Cf df Ce de Co d) (w' := W1) (by simp [go_sem, t4, k0, k1, k2, k3, k4, k5]) ⟨_, rfl, rfl, Below.refl _ _⟩
      | 5, _ =>
        obtain rfl := Option.some.inj ho
        refine Gr.val (v := pv Q Bf bf Be be Bo b) (w' := W1) (by simp [go_sem, t3, n0, n1, n2, n3, n4, n5]) ⟨_, rfl, rfl, Below.refl _ _⟩
      | 6, _ =>
        have p74 : a.tmps[74]?.getD undef = pv Q Bf bf Be be Bo b := Gr.slot (hpre { on := 5, ground := .data } (by obtain rfl := Option.some.inj ho; simp) rfl (by decide))
        obtain rfl := Option.some.inj ho
        refine Gr.call (f := 13) (args := #[pv Q Bf bf Be be Bo b]) (by simp [go_sem, p74]) ((own_any _ Q Bf bf Be be Bo b W1 ((PQ4.out.below HB10.out).below hb) SQ.out).mono ?_)
        rintro e w' ⟨B1, d1, B2, d2, B3, d3, rfl, h1, h2⟩
        exact ⟨_, rfl, _, rfl, ⟨B1, d1, B2, d2, B3, d3, rfl, _, h1⟩, h2⟩
      | 7, _ =>
        have p73 : a.tmps[73]?.getD undef = pv Q Cf df Ce de Co d := Gr.slot (hpre { on := 4, ground := .data } (by obtain rfl := Option.some.inj ho; simp) rfl (by decide))
        have q75 : (PRV Q) (a.eval (.tmp 75)) W1 := hpre { on := 6, ground := .data } (by obtain rfl := Option.some.inj ho; simp) rfl (by decide)
        obtain ⟨R1, r1, R2, r2, R3, r3, hv, M, hM⟩ := q75
        have p75 := Gr.slot hv
        obtain rfl := Option.some.inj ho
        refine Gr.call (f := 18) (args := #[pv Q Cf df Ce de Co d, pv Q R1 r1 R2 r2 R3 r3]) (by simp [go_sem, p73, p75]) ((SXX.out W1 hb _ _ _ _ _ _ _ hM).mono ?_)
        rintro e w' ⟨rfl, h2⟩
        exact ⟨_, rfl, _, rfl, rfl, h2⟩
      | 8, _ =>
        have p72 : a.tmps[72]?.getD undef = .bool true := Gr.slot (hpre { on := 3, ground := .data } (by obtain rfl := Option.some.inj ho; simp) rfl (by decide))
        have p76 : a.tmps[76]?.getD undef = .bool true := Gr.slot (hpre { on := 7, ground := .data } (by obtain rfl := Option.some.inj ho; simp) rfl (by decide))
        obtain rfl := Option.some.inj ho
        refine Gr.val (v := .bool true) (w' := W1) (by simp [go_sem, p72, p76]) ⟨_, rfl, rfl, Below.refl _ _⟩
      | 9, _ =>
        have p77 : a.tmps[77]?.getD undef = .bool true := Gr.slot (hpre { on := 8, ground := .data } (by obtain rfl := Option.some.inj ho; simp) rfl (by decide))
        obtain rfl := Option.some.inj ho
        refine Gr.val (v := .bool true) (w' := W1) (by simp [go_sem, p77]) ⟨_, rfl, rfl, Below.refl _ _⟩
      | i + 10, h => omega
    intro a W5 hb hfr hall
    have v0 : a.eval (.tmp 2) = .bool true := hall 9 (by omega)
    go_wp2
    (try simp only [Exit.inBlock, Exit.then])
    refine bodyPost_ret (results_tmp rfl _ _ _) hfr.d ?_
    exact ⟨congrArg Ending.returned v0, B4.out.trans ((HB10.out.trans (hb.mono HB10.out.size)).mono B4.out.size)⟩
end Pm
end Go.Proofs.Ytnhgoeoffjcooaa
