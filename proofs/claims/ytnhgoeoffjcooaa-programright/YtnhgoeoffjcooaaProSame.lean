/-
  Programs: are two alike? (program.Same, all of it) Made by wip/gen/prosame.py.
-/
import Derived.Test.YtnhgoeoffjcooaaProSm
import Derived.Test.YtnhgoeoffjcooaaProChk2
namespace Go.Proofs.Ytnhgoeoffjcooaa
open Go.RowKit
namespace Pm
open B
set_option linter.unusedVariables false
set_option maxRecDepth 100000 in
set_option maxHeartbeats 4000000 in
theorem sameF_any (lo lo' : Nat) (f g : F) (v v' : Value) (w : World) (h : IL lo w v f.ps) (h' : IL lo' w v' g.ps) (hl : f.ps.length ≤ 2000000) (hl' : g.ps.length ≤ 2000000) :
    Calls Try.prog 43 #[.agg #[v, .int .i64 f.ret], .agg #[v', .int .i64 g.ret]] w fun e w' => e = .returned (.bool (sameF f g)) ∧ Below w.heap.size w w' := by
  obtain ⟨A, c, rfl, hA, _⟩ := h
  obtain ⟨A', c', rfl, hA', _⟩ := h'
  have CE := Lib.hid (fun X (q : Below w.heap.size w X) => equal_any lo lo' A A' f.ps g.ps c c' X (hA.below q) (hA'.below q) hl hl')
  have b2 := (below1 w (.cells #[.slice A f.ps.length c, .int .i64 f.ret] 45)).trans (((below1 (w.alloc (.cells #[.slice A f.ps.length c, .int .i64 f.ret] 45)) (.cells #[.slice A' g.ps.length c', .int .i64 g.ret] 45))).mono (by simp))
  have B2 := Lib.hid b2
  clear hA hA' hl hl' b2
  by_cases hr : f.ret = g.ret
  · have HO := Lib.hid (show sameF f g = (f.ps == g.ps) by unfold sameF; rw [decide_eq_true hr]; rfl)
    have er : (f.ret == g.ret) = true := by rw [beq_iff_eq]; exact hr
    clear hr
    go_enter Try.func43, Try.ntmps43
    go_wp2_with (go_at_call 44; ((with_reducible refine (CE.out _ B2.out).mono ?_); rintro e w2 ⟨rfl, hb2⟩))
    go_ret
    exact ⟨by rw [HO.out]; rfl, B2.out.trans (hb2.mono B2.out.size)⟩
  · have HO := Lib.hid (show sameF f g = false by unfold sameF; rw [decide_eq_false hr]; rfl)
    have er : (f.ret == g.ret) = false := by rw [beq_eq_false_iff_ne]; exact hr
    clear hr
    go_enter Try.func43, Try.ntmps43
    go_wp2
    go_ret
    exact ⟨by rw [HO.out]; rfl, B2.out⟩
set_option maxRecDepth 100000 in
set_option maxHeartbeats 8000000 in
theorem sameO_any (lo lo' : Nat) (o q : O) (v v' : Value) (w : World) (h : IL lo w v o.args) (h' : IL lo' w v' q.args) (hl : o.args.length ≤ 2000000) (hl' : q.args.length ≤ 2000000) (hh : o.heat < 18446744073709551616) (hh' : q.heat < 18446744073709551616) :
    Calls Try.prog 46 #[.agg #[.int .i64 o.kind, .int .i64 o.fn, .int .i64 o.a, .int .i64 o.b, .int .i64 o.c, v, .float .f64 o.heat], .agg #[.int .i64 q.kind, .int .i64 q.fn, .int .i64 q.a, .int .i64 q.b, .int .i64 q.c, v', .float .f64 q.heat]] w fun e w' => e = .returned (.bool (sameO o q)) ∧ Below w.heap.size w w' := by
  obtain ⟨A, c, rfl, hA, _⟩ := h
  obtain ⟨A', c', rfl, hA', _⟩ := h'
  have CE := Lib.hid (fun X (r : Below w.heap.size w X) => equal_any lo lo' A A' o.args q.args c c' X (hA.below r) (hA'.below r) hl hl')
  have CN := Lib.hid (fun X => numbers_any o (.slice A o.args.length c) X ⟨_, _, _, rfl⟩)
  have CN' := Lib.hid (fun X => numbers_any q (.slice A' q.args.length c') X ⟨_, _, _, rfl⟩)
  have CB := Lib.hid (fun X => H.bits_any o.heat X hh)
  have CB' := Lib.hid (fun X => H.bits_any q.heat X hh')
  have b2 := (below1 w (.cells #[.int .i64 o.kind, .int .i64 o.fn, .int .i64 o.a, .int .i64 o.b, .int .i64 o.c, .slice A o.args.length c, .float .f64 o.heat] 42)).trans (((below1 (w.alloc (.cells #[.int .i64 o.kind, .int .i64 o.fn, .int .i64 o.a, .int .i64 o.b, .int .i64 o.c, .slice A o.args.length c, .float .f64 o.heat] 42)) (.cells #[.int .i64 q.kind, .int .i64 q.fn, .int .i64 q.a, .int .i64 q.b, .int .i64 q.c, .slice A' q.args.length c', .float .f64 q.heat] 42))).mono (by simp))
  have B2 := Lib.hid b2
  have R1 := Lib.hid (hp_old (.cells #[.int .i64 q.kind, .int .i64 q.fn, .int .i64 q.a, .int .i64 q.b, .int .i64 q.c, .slice A' q.args.length c', .float .f64 q.heat] 42) (heap_last w (.cells #[.int .i64 o.kind, .int .i64 o.fn, .int .i64 o.a, .int .i64 o.b, .int .i64 o.c, .slice A o.args.length c, .float .f64 o.heat] 42) w.heap.size rfl))
  have R2 := Lib.hid (heap_last (w.alloc (.cells #[.int .i64 o.kind, .int .i64 o.fn, .int .i64 o.a, .int .i64 o.b, .int .i64 o.c, .slice A o.args.length c, .float .f64 o.heat] 42)) (.cells #[.int .i64 q.kind, .int .i64 q.fn, .int .i64 q.a, .int .i64 q.b, .int .i64 q.c, .slice A' q.args.length c', .float .f64 q.heat] 42) (w.heap.size + 1) (by simp))
  have HO := Lib.hid (show sameO o q = (nums5 o q && (o.args == q.args) && decide (((Heat.bitsN o.heat : Nat) : Int) = ((Heat.bitsN q.heat : Nat) : Int))) from rfl)
  have e5 : ∀ X, (binOp .eql 109 (.agg #[.int .i64 o.kind, .int .i64 o.fn, .int .i64 o.a, .int .i64 o.b, .int .i64 o.c]) (.agg #[.int .i64 q.kind, .int .i64 q.fn, .int .i64 q.a, .int .i64 q.b, .int .i64 q.c])).run Try.prog X = .ok (.bool (nums5 o q)) X := fun X => eql5 o.kind o.fn o.a o.b o.c q.kind q.fn q.a q.b q.c X
  clear hA hA' hl hl' hh hh' b2
  generalize Heat.bitsN o.heat = h1 at *
  generalize Heat.bitsN q.heat = h2 at *
  have eh : ((h1 : Int) == (h2 : Int)) = decide ((h1 : Int) = (h2 : Int)) := rfl
  go_enter Try.func46, Try.ntmps46
  go_upto_region 1 with fail
  generalize (w.alloc (.cells #[.int .i64 o.kind, .int .i64 o.fn, .int .i64 o.a, .int .i64 o.b, .int .i64 o.c, .slice A o.args.length c, .float .f64 o.heat] 42)).alloc (.cells #[.int .i64 q.kind, .int .i64 q.fn, .int .i64 q.a, .int .i64 q.b, .int .i64 q.c, .slice A' q.args.length c', .float .f64 q.heat] 42) = W at *
  obtain ⟨a0, a1, a2, a3, a4, a5, a6⟩ := seven R1.out
  obtain ⟨b0, b1, b2, b3, b4, b5, b6⟩ := seven R2.out
  have r0 := fun x => Ov.Up.cell a0 (blk_lt R1.out) x
  have s0 := fun x => Ov.Up.cell b0 (blk_lt R2.out) x
  have r1 := fun x => Ov.Up.cell a1 (blk_lt R1.out) x
  have s1 := fun x => Ov.Up.cell b1 (blk_lt R2.out) x
  have r2 := fun x => Ov.Up.cell a2 (blk_lt R1.out) x
  have s2 := fun x => Ov.Up.cell b2 (blk_lt R2.out) x
  have r3 := fun x => Ov.Up.cell a3 (blk_lt R1.out) x
  have s3 := fun x => Ov.Up.cell b3 (blk_lt R2.out) x
  have r4 := fun x => Ov.Up.cell a4 (blk_lt R1.out) x
  have s4 := fun x => Ov.Up.cell b4 (blk_lt R2.out) x
  have r5 := fun x => Ov.Up.cell a5 (blk_lt R1.out) x
  have s5 := fun x => Ov.Up.cell b5 (blk_lt R2.out) x
  have r6 := fun x => Ov.Up.cell a6 (blk_lt R1.out) x
  have s6 := fun x => Ov.Up.cell b6 (blk_lt R2.out) x
  cases hn : nums5 o q with
  | false =>
    rw [hn] at e5 HO
    refine Ov.region (by kernel_rfl) (by kernel_rfl) (Ov.start W) ?_
    repeat (go_big_quiet_step (first | (go_at_call_of 67 (Value.agg #[.int .i64 o.kind, .int .i64 o.fn, .int .i64 o.a, .int .i64 o.b, .int .i64 o.c, .slice A o.args.length c, .float .f64 o.heat]); exact Ov.Up.call (CN.out _)) | (go_at_call_of 67 (Value.agg #[.int .i64 q.kind, .int .i64 q.fn, .int .i64 q.a, .int .i64 q.b, .int .i64 q.c, .slice A' q.args.length c', .float .f64 q.heat]); exact Ov.Up.call (CN'.out _))))
    refine wpQuiet_nil ?_
    rintro _ ⟨yo, rfl⟩
    go_wp2
    go_ret
    exact ⟨by rw [HO.out]; rfl, B2.out.trans (yo.h.mono B2.out.size)⟩
  | true =>
    rw [hn] at e5 HO
    cases ha : (o.args == q.args) with
    | false =>
      rw [ha] at CE HO
      have CEU := Lib.hid (fun (x : Ov.Up W) => CE.out x.w (B2.out.trans (x.h.mono B2.out.size)))
      refine Ov.region (by kernel_rfl) (by kernel_rfl) (Ov.start W) ?_
      repeat (go_big_quiet_step (first | (go_at_call_of 67 (Value.agg #[.int .i64 o.kind, .int .i64 o.fn, .int .i64 o.a, .int .i64 o.b, .int .i64 o.c, .slice A o.args.length c, .float .f64 o.heat]); exact Ov.Up.call (CN.out _)) | (go_at_call_of 67 (Value.agg #[.int .i64 q.kind, .int .i64 q.fn, .int .i64 q.a, .int .i64 q.b, .int .i64 q.c, .slice A' q.args.length c', .float .f64 q.heat]); exact Ov.Up.call (CN'.out _)) | (go_at_call 44; exact Ov.Up.call (CEU.out _))))
      refine wpQuiet_nil ?_
      rintro _ ⟨yo, rfl⟩
      go_wp2
      go_ret
      exact ⟨by rw [HO.out]; rfl, B2.out.trans (yo.h.mono B2.out.size)⟩
    | true =>
      rw [ha] at CE HO
      have CEU := Lib.hid (fun (x : Ov.Up W) => CE.out x.w (B2.out.trans (x.h.mono B2.out.size)))
      refine Ov.region (by kernel_rfl) (by kernel_rfl) (Ov.start W) ?_
      repeat (go_big_quiet_step (first | (go_at_call_of 67 (Value.agg #[.int .i64 o.kind, .int .i64 o.fn, .int .i64 o.a, .int .i64 o.b, .int .i64 o.c, .slice A o.args.length c, .float .f64 o.heat]); exact Ov.Up.call (CN.out _)) | (go_at_call_of 67 (Value.agg #[.int .i64 q.kind, .int .i64 q.fn, .int .i64 q.a, .int .i64 q.b, .int .i64 q.c, .slice A' q.args.length c', .float .f64 q.heat]); exact Ov.Up.call (CN'.out _)) | (go_at_call 44; exact Ov.Up.call (CEU.out _)) | (go_at_call_of 68 (Value.float .f64 o.heat); exact Ov.Up.same (CB.out _)) | (go_at_call_of 68 (Value.float .f64 q.heat); exact Ov.Up.same (CB'.out _))))
      refine wpQuiet_nil ?_
      rintro _ ⟨yo, rfl⟩
      go_wp2
      go_ret
      exact ⟨by rw [HO.out]; rfl, B2.out.trans (yo.h.mono B2.out.size)⟩
set_option maxRecDepth 100000 in
set_option maxHeartbeats 8000000 in
theorem eqF_any (lo lo' : Nat) (A A' : Option Addr) (l l' : List F) (c c' : Nat) (w : World) (h : FsAt lo w A l) (h' : FsAt lo' w A' l') (hl : l.length ≤ 2000000) (hi : ∀ x ∈ l, x.ps.length ≤ 2000000) (hi' : ∀ x ∈ l', x.ps.length ≤ 2000000) :
    Calls Try.prog 42 #[.slice A l.length c, .slice A' l'.length c', .func (.func 43) #[] #[]] w fun e w' => e = .returned (.bool (eqL sameF l l')) ∧ Below w.heap.size w w' := by
  by_cases hne : l.length = l'.length
  · have e0 : ((l.length : Int) != (l'.length : Int)) = false := by rw [bne_eq_false_iff_eq]; omega
    have HA := Lib.hid h
    have HA' := Lib.hid h'
    have HI := Lib.hid hi
    have HI' := Lib.hid hi'
    have HN := Lib.hid hne
    have HL := Lib.hid hl
    have HD : Hid (eqL sameF (l.drop 0) (l'.drop 0) = eqL sameF l l') := rfl
    generalize hr0 : eqL sameF l l' = r at *
    clear h h' hne hr0 hi hi'
    go_enter Try.func42, Try.ntmps42
    go_wp2
    go_loopw [17] (fun t17 wr => ∃ i : Nat, t17 = .int .i64 (i : Int) ∧ i ≤ l.length ∧ eqL sameF (l.drop i) (l'.drop i) = r ∧ Below w.heap.size w wr) (fun t17 _ => l.length - (intOf t17).toNat)
    case atStart => exact ⟨0, rfl, Nat.zero_le _, HD.out, Below.refl _ _⟩
    case round =>
      obtain ⟨i, rfl, hil, hr, hb⟩ := hrel
      have B1 := Lib.hid hb
      have HR := Lib.hid hr
      clear HD hb hr
      by_cases hin : i < l.length
      · have hin' : i < l'.length := by rw [← HN.out]; exact hin
        have hI : (i : Int) < (l.length : Int) := by omega
        have hI' : (i : Int) < (l'.length : Int) := by omega
        have hb0 : i + 1 ≤ 2000000 := by have := HL.out; omega
        obtain ⟨b, off, hA, _, hbl, hc⟩ := HA.out (by omega)
        obtain ⟨b', off', hA', _, hbl', hc'⟩ := HA'.out (by omega)
        subst hA hA'
        obtain ⟨v, vc0, vc1, ilv⟩ := hc i hin
        obtain ⟨v', wc0, wc1, ilw⟩ := hc' i hin'
        have c0 := (B1.out.cell (p := ⟨b, off + i * 2, none⟩) hbl).trans vc0
        have d0 := (B1.out.cell (p := ⟨b', off' + i * 2, none⟩) hbl').trans wc0
        have c1 := (B1.out.cell (p := ⟨b, off + i * 2 + 1, none⟩) hbl).trans vc1
        have d1 := (B1.out.cell (p := ⟨b', off' + i * 2 + 1, none⟩) hbl').trans wc1
        have HS := Lib.hid (eqL_drop (p := sameF) l l' i hin hin')
        have CS := Lib.hid (fun X (hb : Below w.heap.size w X) => sameF_any lo lo' l[i] l'[i] v v' X (ilv.below hb) (ilw.below hb) (HI.out _ (List.getElem_mem hin)) (HI'.out _ (List.getElem_mem hin')))
        obtain ⟨V1, V2, hv1, _⟩ := ilv
        obtain ⟨V3, V4, hv2, _⟩ := ilw
        subst hv1 hv2
        clear hc hc' vc0 wc0 vc1 wc1
        generalize l[i] = x at *
        generalize l'[i] = y at *
        have bx := below1 wr (.cells #[.slice V1 x.ps.length V2, .int .i64 x.ret] 45)
        have by2 := bx.trans ((below1 (wr.alloc (.cells #[.slice V1 x.ps.length V2, .int .i64 x.ret] 45)) (.cells #[.slice V3 y.ps.length V4, .int .i64 y.ret] 45)).mono bx.size)
        have d0' := fun j u (hj : wr.cell? ⟨b', j, none⟩ = some u) => (bx.cell (p := ⟨b', j, none⟩) (Nat.lt_of_lt_of_le hbl' B1.out.size)).trans hj
        have f0 := d0' _ _ d0
        have f1 := d0' _ _ d1
        have BY := Lib.hid (B1.out.trans (by2.mono B1.out.size))
        clear bx by2 d0'
        cases hs : sameF x y with
        | true =>
          rw [hs] at CS HS
          have HX := Lib.hid (HR.out.symm.trans (HS.out.trans (Bool.true_and _)))
          go_wp2_with (go_at_call 43; ((with_reducible refine (CS.out _ BY.out).mono ?_); rintro e w2 ⟨rfl, hb2⟩))
          go_roundw
          case rel => exact ⟨i + 1, by go_num, by omega, HX.out.symm, BY.out.trans (hb2.mono BY.out.size)⟩
          case measure => simp [intOf]; omega
        | false =>
          rw [hs] at CS HS
          have HX := Lib.hid (HR.out.symm.trans (HS.out.trans (Bool.false_and _)))
          go_wp2_with (go_at_call 43; ((with_reducible refine (CS.out _ BY.out).mono ?_); rintro e w2 ⟨rfl, hb2⟩))
          go_ret
          exact ⟨by rw [HX.out]; rfl, BY.out.trans (hb2.mono BY.out.size)⟩
      · have hI : ¬ (i : Int) < (l.length : Int) := by omega
        have HX : Hid (r = true) := by have := HR.out; rw [List.drop_eq_nil_of_le (by omega), List.drop_eq_nil_of_le (by have := HN.out; omega)] at this; exact this.symm
        go_wp2
        go_ret
        exact ⟨by rw [HX.out]; rfl, B1.out⟩
  · have e0 : ((l.length : Int) != (l'.length : Int)) = true := by rw [bne_iff_ne]; omega
    have HO := Lib.hid (eqL_len (p := sameF) l l' hne)
    clear hne h h' hi hi'
    go_enter Try.func42, Try.ntmps42
    go_wp2
    go_ret
    exact ⟨by rw [HO.out]; rfl, Below.refl _ _⟩
set_option maxRecDepth 100000 in
set_option maxHeartbeats 8000000 in
theorem eqO_any (lo lo' : Nat) (A A' : Option Addr) (l l' : List O) (c c' : Nat) (w : World) (h : OsAt lo w A l) (h' : OsAt lo' w A' l') (hl : l.length ≤ 2000000) (hi : ∀ x ∈ l, x.args.length ≤ 2000000) (hi' : ∀ x ∈ l', x.args.length ≤ 2000000) :
    Calls Try.prog 45 #[.slice A l.length c, .slice A' l'.length c', .func (.func 46) #[] #[]] w fun e w' => e = .returned (.bool (eqL sameO l l')) ∧ Below w.heap.size w w' := by
  by_cases hne : l.length = l'.length
  · have e0 : ((l.length : Int) != (l'.length : Int)) = false := by rw [bne_eq_false_iff_eq]; omega
    have HA := Lib.hid h
    have HA' := Lib.hid h'
    have HI := Lib.hid hi
    have HI' := Lib.hid hi'
    have HN := Lib.hid hne
    have HL := Lib.hid hl
    have HD : Hid (eqL sameO (l.drop 0) (l'.drop 0) = eqL sameO l l') := rfl
    generalize hr0 : eqL sameO l l' = r at *
    clear h h' hne hr0 hi hi'
    go_enter Try.func45, Try.ntmps45
    go_wp2
    go_loopw [17] (fun t17 wr => ∃ i : Nat, t17 = .int .i64 (i : Int) ∧ i ≤ l.length ∧ eqL sameO (l.drop i) (l'.drop i) = r ∧ Below w.heap.size w wr) (fun t17 _ => l.length - (intOf t17).toNat)
    case atStart => exact ⟨0, rfl, Nat.zero_le _, HD.out, Below.refl _ _⟩
    case round =>
      obtain ⟨i, rfl, hil, hr, hb⟩ := hrel
      have B1 := Lib.hid hb
      have HR := Lib.hid hr
      clear HD hb hr
      by_cases hin : i < l.length
      · have hin' : i < l'.length := by rw [← HN.out]; exact hin
        have hI : (i : Int) < (l.length : Int) := by omega
        have hI' : (i : Int) < (l'.length : Int) := by omega
        have hb0 : i + 1 ≤ 2000000 := by have := HL.out; omega
        obtain ⟨b, off, hA, _, hbl, hc⟩ := HA.out (by omega)
        obtain ⟨b', off', hA', _, hbl', hc'⟩ := HA'.out (by omega)
        subst hA hA'
        obtain ⟨v, vc0, vc1, vc2, vc3, vc4, vc5, vc6, ilv, okv⟩ := hc i hin
        obtain ⟨v', wc0, wc1, wc2, wc3, wc4, wc5, wc6, ilw, okw⟩ := hc' i hin'
        have c0 := (B1.out.cell (p := ⟨b, off + i * 7, none⟩) hbl).trans vc0
        have d0 := (B1.out.cell (p := ⟨b', off' + i * 7, none⟩) hbl').trans wc0
        have c1 := (B1.out.cell (p := ⟨b, off + i * 7 + 1, none⟩) hbl).trans vc1
        have d1 := (B1.out.cell (p := ⟨b', off' + i * 7 + 1, none⟩) hbl').trans wc1
        have c2 := (B1.out.cell (p := ⟨b, off + i * 7 + 2, none⟩) hbl).trans vc2
        have d2 := (B1.out.cell (p := ⟨b', off' + i * 7 + 2, none⟩) hbl').trans wc2
        have c3 := (B1.out.cell (p := ⟨b, off + i * 7 + 3, none⟩) hbl).trans vc3
        have d3 := (B1.out.cell (p := ⟨b', off' + i * 7 + 3, none⟩) hbl').trans wc3
        have c4 := (B1.out.cell (p := ⟨b, off + i * 7 + 4, none⟩) hbl).trans vc4
        have d4 := (B1.out.cell (p := ⟨b', off' + i * 7 + 4, none⟩) hbl').trans wc4
        have c5 := (B1.out.cell (p := ⟨b, off + i * 7 + 5, none⟩) hbl).trans vc5
        have d5 := (B1.out.cell (p := ⟨b', off' + i * 7 + 5, none⟩) hbl').trans wc5
        have c6 := (B1.out.cell (p := ⟨b, off + i * 7 + 6, none⟩) hbl).trans vc6
        have d6 := (B1.out.cell (p := ⟨b', off' + i * 7 + 6, none⟩) hbl').trans wc6
        have HS := Lib.hid (eqL_drop (p := sameO) l l' i hin hin')
        have CS := Lib.hid (fun X (hb : Below w.heap.size w X) => sameO_any lo lo' l[i] l'[i] v v' X (ilv.below hb) (ilw.below hb) (HI.out _ (List.getElem_mem hin)) (HI'.out _ (List.getElem_mem hin')) okv okw)
        obtain ⟨V1, V2, hv1, _⟩ := ilv
        obtain ⟨V3, V4, hv2, _⟩ := ilw
        subst hv1 hv2
        clear hc hc' okv okw vc0 wc0 vc1 wc1 vc2 wc2 vc3 wc3 vc4 wc4 vc5 wc5 vc6 wc6
        generalize l[i] = x at *
        generalize l'[i] = y at *
        have bx := below1 wr (.cells #[.int .i64 x.kind, .int .i64 x.fn, .int .i64 x.a, .int .i64 x.b, .int .i64 x.c, .slice V1 x.args.length V2, .float .f64 x.heat] 42)
        have by2 := bx.trans ((below1 (wr.alloc (.cells #[.int .i64 x.kind, .int .i64 x.fn, .int .i64 x.a, .int .i64 x.b, .int .i64 x.c, .slice V1 x.args.length V2, .float .f64 x.heat] 42)) (.cells #[.int .i64 y.kind, .int .i64 y.fn, .int .i64 y.a, .int .i64 y.b, .int .i64 y.c, .slice V3 y.args.length V4, .float .f64 y.heat] 42)).mono bx.size)
        have d0' := fun j u (hj : wr.cell? ⟨b', j, none⟩ = some u) => (bx.cell (p := ⟨b', j, none⟩) (Nat.lt_of_lt_of_le hbl' B1.out.size)).trans hj
        have f0 := d0' _ _ d0
        have f1 := d0' _ _ d1
        have f2 := d0' _ _ d2
        have f3 := d0' _ _ d3
        have f4 := d0' _ _ d4
        have f5 := d0' _ _ d5
        have f6 := d0' _ _ d6
        have BY := Lib.hid (B1.out.trans (by2.mono B1.out.size))
        clear bx by2 d0'
        cases hs : sameO x y with
        | true =>
          rw [hs] at CS HS
          have HX := Lib.hid (HR.out.symm.trans (HS.out.trans (Bool.true_and _)))
          go_wp2_with (go_at_call 46; ((with_reducible refine (CS.out _ BY.out).mono ?_); rintro e w2 ⟨rfl, hb2⟩))
          go_roundw
          case rel => exact ⟨i + 1, by go_num, by omega, HX.out.symm, BY.out.trans (hb2.mono BY.out.size)⟩
          case measure => simp [intOf]; omega
        | false =>
          rw [hs] at CS HS
          have HX := Lib.hid (HR.out.symm.trans (HS.out.trans (Bool.false_and _)))
          go_wp2_with (go_at_call 46; ((with_reducible refine (CS.out _ BY.out).mono ?_); rintro e w2 ⟨rfl, hb2⟩))
          go_ret
          exact ⟨by rw [HX.out]; rfl, BY.out.trans (hb2.mono BY.out.size)⟩
      · have hI : ¬ (i : Int) < (l.length : Int) := by omega
        have HX : Hid (r = true) := by have := HR.out; rw [List.drop_eq_nil_of_le (by omega), List.drop_eq_nil_of_le (by have := HN.out; omega)] at this; exact this.symm
        go_wp2
        go_ret
        exact ⟨by rw [HX.out]; rfl, B1.out⟩
  · have e0 : ((l.length : Int) != (l'.length : Int)) = true := by rw [bne_iff_ne]; omega
    have HO := Lib.hid (eqL_len (p := sameO) l l' hne)
    clear hne h h' hi hi'
    go_enter Try.func45, Try.ntmps45
    go_wp2
    go_ret
    exact ⟨by rw [HO.out]; rfl, Below.refl _ _⟩
set_option maxRecDepth 100000 in
set_option maxHeartbeats 8000000 in
theorem same_any (lo lo' : Nat) (p q : P) (Af : Option Addr) (cf : Nat) (Ae : Option Addr) (ce : Nat) (Ao : Option Addr) (co : Nat) (Af' : Option Addr) (cf' : Nat) (Ae' : Option Addr) (ce' : Nat) (Ao' : Option Addr) (co' : Nat) (w : World) (h : PIn lo w p Af cf Ae ce Ao co) (h' : PIn lo' w q Af' cf' Ae' ce' Ao' co') (hs : Sm p) (hs' : Sm q) :
    Calls Try.prog 18 #[pv p Af cf Ae ce Ao co, pv q Af' cf' Ae' ce' Ao' co'] w fun e w' => e = .returned (.bool (same p q)) ∧ Below w.heap.size w w' := by
  have CC := Lib.hid (fun X => counts_any p Af cf Ae ce Ao co X)
  have CC' := Lib.hid (fun X => counts_any q Af' cf' Ae' ce' Ao' co' X)
  have CF := Lib.hid (fun X (r : Below w.heap.size w X) => eqF_any lo lo' Af Af' p.fs q.fs cf cf' X (h.f.below r) (h'.f.below r) hs.f hs.fp hs'.fp)
  have CO := Lib.hid (fun X (r : Below w.heap.size w X) => eqO_any lo lo' Ao Ao' p.ops q.ops co co' X (h.o.below r) (h'.o.below r) hs.o hs.oa hs'.oa)
  have CE := Lib.hid (fun X (r : Below w.heap.size w X) => equal_any lo lo' Ae Ae' p.en q.en ce ce' X (h.e.at.2.1.below r) (h'.e.at.2.1.below r) hs.e hs'.e)
  have b2 := (below1 w (.cells #[.int .i64 p.vars, .int .i64 p.objs, .int .i64 p.fields, .slice Af p.fs.length cf, .slice Ae p.en.length ce, .slice Ao p.ops.length co] 33)).trans (((below1 (w.alloc (.cells #[.int .i64 p.vars, .int .i64 p.objs, .int .i64 p.fields, .slice Af p.fs.length cf, .slice Ae p.en.length ce, .slice Ao p.ops.length co] 33)) (.cells #[.int .i64 q.vars, .int .i64 q.objs, .int .i64 q.fields, .slice Af' q.fs.length cf', .slice Ae' q.en.length ce', .slice Ao' q.ops.length co'] 33))).mono (by simp))
  have B2 := Lib.hid b2
  have R1 := Lib.hid (hp_old (.cells #[.int .i64 q.vars, .int .i64 q.objs, .int .i64 q.fields, .slice Af' q.fs.length cf', .slice Ae' q.en.length ce', .slice Ao' q.ops.length co'] 33) (heap_last w (.cells #[.int .i64 p.vars, .int .i64 p.objs, .int .i64 p.fields, .slice Af p.fs.length cf, .slice Ae p.en.length ce, .slice Ao p.ops.length co] 33) w.heap.size rfl))
  have R2 := Lib.hid (heap_last (w.alloc (.cells #[.int .i64 p.vars, .int .i64 p.objs, .int .i64 p.fields, .slice Af p.fs.length cf, .slice Ae p.en.length ce, .slice Ao p.ops.length co] 33)) (.cells #[.int .i64 q.vars, .int .i64 q.objs, .int .i64 q.fields, .slice Af' q.fs.length cf', .slice Ae' q.en.length ce', .slice Ao' q.ops.length co'] 33) (w.heap.size + 1) (by simp))
  have e3 := fun X => eql3 p.vars p.objs p.fields q.vars q.objs q.fields X
  have HO := Lib.hid (show same p q = ((decide (p.vars = q.vars) && decide (p.objs = q.objs) && decide (p.fields = q.fields)) && eqL sameF p.fs q.fs && (p.en == q.en) && eqL sameO p.ops q.ops) from rfl)
  clear h h' hs hs' b2
  go_enter Try.func18, Try.ntmps18
  go_upto_region 1 with fail
  generalize (w.alloc (.cells #[.int .i64 p.vars, .int .i64 p.objs, .int .i64 p.fields, .slice Af p.fs.length cf, .slice Ae p.en.length ce, .slice Ao p.ops.length co] 33)).alloc (.cells #[.int .i64 q.vars, .int .i64 q.objs, .int .i64 q.fields, .slice Af' q.fs.length cf', .slice Ae' q.en.length ce', .slice Ao' q.ops.length co'] 33) = W at *
  obtain ⟨a0, a1, a2, a3, a4, a5⟩ := cells6 R1.out
  obtain ⟨b0, b1, b2, b3, b4, b5⟩ := cells6 R2.out
  have r0 := fun x => Ov.Up.cell a0 (blk_lt R1.out) x
  have s0 := fun x => Ov.Up.cell b0 (blk_lt R2.out) x
  have r1 := fun x => Ov.Up.cell a1 (blk_lt R1.out) x
  have s1 := fun x => Ov.Up.cell b1 (blk_lt R2.out) x
  have r2 := fun x => Ov.Up.cell a2 (blk_lt R1.out) x
  have s2 := fun x => Ov.Up.cell b2 (blk_lt R2.out) x
  have r3 := fun x => Ov.Up.cell a3 (blk_lt R1.out) x
  have s3 := fun x => Ov.Up.cell b3 (blk_lt R2.out) x
  have r4 := fun x => Ov.Up.cell a4 (blk_lt R1.out) x
  have s4 := fun x => Ov.Up.cell b4 (blk_lt R2.out) x
  have r5 := fun x => Ov.Up.cell a5 (blk_lt R1.out) x
  have s5 := fun x => Ov.Up.cell b5 (blk_lt R2.out) x
  cases hn : (decide (p.vars = q.vars) && decide (p.objs = q.objs) && decide (p.fields = q.fields)) with
  | false =>
    rw [hn] at HO
    simp only [hn] at e3
    refine Ov.region (by kernel_rfl) (by kernel_rfl) (Ov.start W) ?_
    repeat (go_big_quiet_step (first | (go_at_call_of 41 (Value.agg #[.int .i64 p.vars, .int .i64 p.objs, .int .i64 p.fields, .slice Af p.fs.length cf, .slice Ae p.en.length ce, .slice Ao p.ops.length co] ); exact Ov.Up.call (CC.out _)) | (go_at_call_of 41 (Value.agg #[.int .i64 q.vars, .int .i64 q.objs, .int .i64 q.fields, .slice Af' q.fs.length cf', .slice Ae' q.en.length ce', .slice Ao' q.ops.length co'] ); exact Ov.Up.call (CC'.out _))))
    refine wpQuiet_nil ?_
    rintro _ ⟨yo, rfl⟩
    go_wp2
    go_ret
    exact ⟨by rw [HO.out]; rfl, B2.out.trans (yo.h.mono B2.out.size)⟩
  | true =>
    rw [hn] at HO
    simp only [hn] at e3
    cases hf : eqL sameF p.fs q.fs with
    | false =>
      rw [hf] at CF HO
      have CFU := Lib.hid (fun (x : Ov.Up W) => CF.out x.w (B2.out.trans (x.h.mono B2.out.size)))
      refine Ov.region (by kernel_rfl) (by kernel_rfl) (Ov.start W) ?_
      repeat (go_big_quiet_step (first | (go_at_call_of 41 (Value.agg #[.int .i64 p.vars, .int .i64 p.objs, .int .i64 p.fields, .slice Af p.fs.length cf, .slice Ae p.en.length ce, .slice Ao p.ops.length co] ); exact Ov.Up.call (CC.out _)) | (go_at_call_of 41 (Value.agg #[.int .i64 q.vars, .int .i64 q.objs, .int .i64 q.fields, .slice Af' q.fs.length cf', .slice Ae' q.en.length ce', .slice Ao' q.ops.length co'] ); exact Ov.Up.call (CC'.out _)) | (go_at_call 42; exact Ov.Up.call (CFU.out _))))
      refine wpQuiet_nil ?_
      rintro _ ⟨yo, rfl⟩
      go_wp2
      go_ret
      exact ⟨by rw [HO.out]; rfl, B2.out.trans (yo.h.mono B2.out.size)⟩
    | true =>
      rw [hf] at CF HO
      cases he : (p.en == q.en) with
      | false =>
        rw [he] at CE HO
        have CEU := Lib.hid (fun (x : Ov.Up W) => CE.out x.w (B2.out.trans (x.h.mono B2.out.size)))
        have CFU := Lib.hid (fun (x : Ov.Up W) => CF.out x.w (B2.out.trans (x.h.mono B2.out.size)))
        refine Ov.region (by kernel_rfl) (by kernel_rfl) (Ov.start W) ?_
        repeat (go_big_quiet_step (first | (go_at_call_of 41 (Value.agg #[.int .i64 p.vars, .int .i64 p.objs, .int .i64 p.fields, .slice Af p.fs.length cf, .slice Ae p.en.length ce, .slice Ao p.ops.length co] ); exact Ov.Up.call (CC.out _)) | (go_at_call_of 41 (Value.agg #[.int .i64 q.vars, .int .i64 q.objs, .int .i64 q.fields, .slice Af' q.fs.length cf', .slice Ae' q.en.length ce', .slice Ao' q.ops.length co'] ); exact Ov.Up.call (CC'.out _)) | (go_at_call 42; exact Ov.Up.call (CFU.out _)) | (go_at_call 44; exact Ov.Up.call (CEU.out _))))
        refine wpQuiet_nil ?_
        rintro _ ⟨yo, rfl⟩
        go_wp2
        go_ret
        exact ⟨by rw [HO.out]; rfl, B2.out.trans (yo.h.mono B2.out.size)⟩
      | true =>
        rw [he] at CE HO
        have CEU := Lib.hid (fun (x : Ov.Up W) => CE.out x.w (B2.out.trans (x.h.mono B2.out.size)))
        have CFU := Lib.hid (fun (x : Ov.Up W) => CF.out x.w (B2.out.trans (x.h.mono B2.out.size)))
        have COU := Lib.hid (fun (x : Ov.Up W) => CO.out x.w (B2.out.trans (x.h.mono B2.out.size)))
        refine Ov.region (by kernel_rfl) (by kernel_rfl) (Ov.start W) ?_
        repeat (go_big_quiet_step (first | (go_at_call_of 41 (Value.agg #[.int .i64 p.vars, .int .i64 p.objs, .int .i64 p.fields, .slice Af p.fs.length cf, .slice Ae p.en.length ce, .slice Ao p.ops.length co] ); exact Ov.Up.call (CC.out _)) | (go_at_call_of 41 (Value.agg #[.int .i64 q.vars, .int .i64 q.objs, .int .i64 q.fields, .slice Af' q.fs.length cf', .slice Ae' q.en.length ce', .slice Ao' q.ops.length co'] ); exact Ov.Up.call (CC'.out _)) | (go_at_call 42; exact Ov.Up.call (CFU.out _)) | (go_at_call 44; exact Ov.Up.call (CEU.out _)) | (go_at_call 45; exact Ov.Up.call (COU.out _))))
        refine wpQuiet_nil ?_
        rintro _ ⟨yo, rfl⟩
        go_wp2
        go_ret
        exact ⟨by rw [HO.out]; rfl, B2.out.trans (yo.h.mono B2.out.size)⟩
end Pm
end Go.Proofs.Ytnhgoeoffjcooaa
