/-
  Programs: the document's own answer: may a program be (dowserref15.Check). Made by wip/gen/prorchk.py.
-/
import Derived.Test.YtnhgoeoffjcooaaProRef
namespace Go.Proofs.Ytnhgoeoffjcooaa
open Go.RowKit
namespace Pm
open B
set_option linter.unusedVariables false
set_option maxRecDepth 100000 in
set_option maxHeartbeats 4000000 in
theorem ropX_any (p : P) (Af : Option Addr) (cf : Nat) (Ae : Option Addr) (ce : Nat) (Ao : Option Addr) (co : Nat) (o : O) (A : Option Addr) (ca : Nat) (w : World) (hk : o.kind < 1 ∨ 7 < o.kind) :
    Calls Try.prog 34 #[pv p Af cf Ae ce Ao co, .agg #[.int .i64 o.kind, .int .i64 o.fn, .int .i64 o.a, .int .i64 o.b, .int .i64 o.c, .slice A o.args.length ca, .float .f64 o.heat]] w fun e w' => e = .returned (.bool (okO p o)) ∧ Below w.heap.size w w' := by
  have BB := Lib.hid (fun o1 o2 => two_boxes w o1 o2)
  have n1 : ¬ o.kind = 1 := by omega
  have n2 : ¬ o.kind = 2 := by omega
  have n3 : ¬ o.kind = 3 := by omega
  have n4 : ¬ o.kind = 4 := by omega
  have n5 : ¬ o.kind = 5 := by omega
  have n6 : ¬ o.kind = 6 := by omega
  have n7 : ¬ o.kind = 7 := by omega
  have HO := Lib.hid (show okO p o = false from by simp [okO, okK, n1, n2, n3, n4, n5, n6, n7])
  have e6 : (o.kind == 6) = false := by rw [beq_eq_false_iff_ne]; exact n6
  have e7 : (o.kind == 7) = false := by rw [beq_eq_false_iff_ne]; exact n7
  clear n1 n2 n3 n4 n5 n6 n7
  by_cases h1 : o.kind < 1
  · clear hk
    go_enter Try.func34, Try.ntmps34
    go_wp2
    go_ret
    exact ⟨by rw [HO.out]; rfl, BB.out _ _⟩
  · have h2 : 7 < o.kind := by omega
    clear hk
    go_enter Try.func34, Try.ntmps34
    go_wp2
    go_ret
    exact ⟨by rw [HO.out]; rfl, BB.out _ _⟩
theorem rop_any (p : P) (Af : Option Addr) (cf : Nat) (Ae : Option Addr) (ce : Nat) (Ao : Option Addr) (co : Nat) (o : O) (A : Option Addr) (ca : Nat) (w : World) (hA : At vInt w A o.args) (hl : o.args.length ≤ 2000000) (hh : o.heat < 18446744073709551616) :
    Calls Try.prog 34 #[pv p Af cf Ae ce Ao co, .agg #[.int .i64 o.kind, .int .i64 o.fn, .int .i64 o.a, .int .i64 o.b, .int .i64 o.c, .slice A o.args.length ca, .float .f64 o.heat]] w fun e w' => e = .returned (.bool (okO p o)) ∧ Below w.heap.size w w' := by
  by_cases hk : o.kind < 1 ∨ 7 < o.kind
  · exact ropX_any p Af cf Ae ce Ao co o A ca w hk
  · obtain ⟨kind, fn, a, b, c, args, heat⟩ := o
    simp only at hA hl hh hk ⊢
    have : kind = 1 ∨ kind = 2 ∨ kind = 3 ∨ kind = 4 ∨ kind = 5 ∨ kind = 6 ∨ kind = 7 := by omega
    rcases this with rfl | rfl | rfl | rfl | rfl | rfl | rfl
    · exact rop1_any p Af cf Ae ce Ao co fn a b c A args ca heat w hA hl hh
    · exact rop2_any p Af cf Ae ce Ao co fn a b c A args ca heat w hA hl hh
    · exact rop3_any p Af cf Ae ce Ao co fn a b c A args ca heat w hA hl hh
    · exact rop4_any p Af cf Ae ce Ao co fn a b c A args ca heat w hA hl hh
    · exact rop5_any p Af cf Ae ce Ao co fn a b c A args ca heat w hA hl hh
    · exact rop6_any p Af cf Ae ce Ao co fn a b c A args ca heat w hA hl hh
    · exact rop7_any p Af cf Ae ce Ao co fn a b c A args ca heat w hA hl hh
set_option maxRecDepth 100000 in
set_option maxHeartbeats 20000000 in
theorem rcheck_any (lo : Nat) (p : P) (Af : Option Addr) (cf : Nat) (Ae : Option Addr) (ce : Nat) (Ao : Option Addr) (co : Nat) (w : World) (h : PIn lo w p Af cf Ae ce Ao co) (hs : Sm p) :
    Calls Try.prog 15 #[pv p Af cf Ae ce Ao co] w fun e w' => e = .returned (.int .i64 (check p)) ∧ Below w.heap.size w w' := by
  have HF := Lib.hid h.f
  have HE := Lib.hid h.e.at.2.1
  have HO := Lib.hid h.o
  have SF := Lib.hid hs.f
  have SE := Lib.hid hs.e
  have SO := Lib.hid hs.o
  have SP := Lib.hid hs.fp
  have SA := Lib.hid hs.oa
  have bA := below1 w (.cells #[.int .i64 p.vars, .int .i64 p.objs, .int .i64 p.fields, .slice Af p.fs.length cf, .slice Ae p.en.length ce, .slice Ao p.ops.length co] 26)
  have B1 := Lib.hid bA
  have RP := Lib.hid (heap_last w (.cells #[.int .i64 p.vars, .int .i64 p.objs, .int .i64 p.fields, .slice Af p.fs.length cf, .slice Ae p.en.length ce, .slice Ao p.ops.length co] 26) w.heap.size rfl)
  clear bA h hs
  by_cases n1 : 200 < p.vars
  · have HK := Lib.hid (show check p = 4 from by simp [check, big, big0, n1])
    go_enter Try.func15, Try.ntmps15
    go_wp2
    go_ret
    exact ⟨by rw [HK.out]; rfl, B1.out⟩
  by_cases n2 : 60 < p.objs
  · have HK := Lib.hid (show check p = 4 from by simp [check, big, big0, n1, n2])
    go_enter Try.func15, Try.ntmps15
    go_wp2
    go_ret
    exact ⟨by rw [HK.out]; rfl, B1.out⟩
  by_cases n3 : 6 < p.fields
  · have HK := Lib.hid (show check p = 4 from by simp [check, big, big0, n1, n2, n3])
    go_enter Try.func15, Try.ntmps15
    go_wp2
    go_ret
    exact ⟨by rw [HK.out]; rfl, B1.out⟩
  by_cases n4 : 30 < (p.fs.length : Int)
  · have HK := Lib.hid (show check p = 4 from by simp [check, big, big0, n1, n2, n3, n4])
    go_enter Try.func15, Try.ntmps15
    go_wp2
    go_ret
    exact ⟨by rw [HK.out]; rfl, B1.out⟩
  by_cases n5 : 300 < (p.ops.length : Int)
  · have HK := Lib.hid (show check p = 4 from by simp [check, big, big0, n1, n2, n3, n4, n5])
    go_enter Try.func15, Try.ntmps15
    go_wp2
    go_ret
    exact ⟨by rw [HK.out]; rfl, B1.out⟩
  by_cases n6 : 30 < (p.en.length : Int)
  · have HK := Lib.hid (show check p = 4 from by simp [check, big, big0, n1, n2, n3, n4, n5, n6])
    go_enter Try.func15, Try.ntmps15
    go_wp2
    go_ret
    exact ⟨by rw [HK.out]; rfl, B1.out⟩
  have HB0 := Lib.hid (show big p = (!(p.fs.all fewF) || !(p.ops.all fewO)) from by simp [big, big0, n1, n2, n3, n4, n5, n6])
  go_enter Try.func15, Try.ntmps15
  go_wp2
  go_loopw [47] (fun t wr => ∃ i : Nat, t = .int .i64 (i : Int) ∧ i ≤ p.fs.length ∧ (p.fs.drop i).all (fewF) = p.fs.all (fewF) ∧ wr.heap[w.heap.size]? = some (.cells #[.int .i64 p.vars, .int .i64 p.objs, .int .i64 p.fields, .slice Af p.fs.length cf, .slice Ae p.en.length ce, .slice Ao p.ops.length co] 26) ∧ Below w.heap.size w wr) (fun t _ => p.fs.length - (intOf t).toNat)
  case atStart => exact ⟨0, rfl, Nat.zero_le _, rfl, RP.out, B1.out⟩
  case round =>
    obtain ⟨i, rfl, hil, hr, hp, hb⟩ := hrel
    have HR := Lib.hid hr
    have RP2 := Lib.hid hp
    have B2 := Lib.hid hb
    clear hr hp hb RP B1
    obtain ⟨rp0, rp1, rp2, rp3, rp4, rp5⟩ := cells6 RP2.out
    by_cases hin : i < p.fs.length
    · have hI : (i : Int) < (p.fs.length : Int) := by omega
      have hb0 : i + 1 ≤ 2000000 := by have := SF.out; omega
      obtain ⟨b, off, hA, _, hbl, hc⟩ := HF.out (by omega)
      obtain ⟨v, d0, d1, il⟩ := hc i hin
      have c0 := (B2.out.cell (p := ⟨b, off + i * 2, none⟩) hbl).trans d0
      have c1 := (B2.out.cell (p := ⟨b, off + i * 2 + 1, none⟩) hbl).trans d1
      have AD := Lib.hid (all_drop (fewF) p.fs i hin)
      have XL := Lib.hid (SP.out _ (List.getElem_mem hin))
      clear hc d0 d1
      subst hA
      generalize p.fs[i] = x at *
      obtain ⟨A, c, rfl, hAt, _⟩ := il
      have AT := Lib.hid (hAt.below B2.out)
      clear hAt
      have bX := below1 wr (.cells #[.slice A x.ps.length c, .int .i64 x.ret] 63)
      have BX := Lib.hid (B2.out.trans (bX.mono B2.out.size))
      have BX1 := Lib.hid bX
      have RP3 := Lib.hid (blk_below RP2.out bX (blk_lt RP2.out))
      clear bX
      obtain ⟨rq0, rq1, rq2, rq3, rq4, rq5⟩ := cells6 RP3.out
      by_cases h6 : (x.ps.length : Int) ≤ 6
      · have h6' : ¬ 6 < (x.ps.length : Int) := by omega
        have HX := Lib.hid (show (p.fs.drop (i + 1)).all fewF = p.fs.all fewF from by have h1 := AD.out; rw [show fewF x = true from decide_eq_true h6, Bool.true_and] at h1; exact h1.symm.trans HR.out)
        have RPZ := RP3
        have BZ := BX
        clear h6 HR RP2 B2 AT
        go_wp2
        go_roundw
        case rel => exact ⟨i + 1, by go_num, by omega, HX.out, RPZ.out, BZ.out⟩
        case measure => simp [intOf]; omega
      · have h6' : 6 < (x.ps.length : Int) := by omega
        have HX := Lib.hid (show p.fs.all fewF = false from by have h1 := AD.out; rw [show fewF x = false from decide_eq_false h6, Bool.false_and] at h1; exact HR.out.symm.trans h1)
        have HK := Lib.hid (show check p = 4 from by unfold check; rw [HB0.out, HX.out]; rfl)
        clear h6 HR RP2 B2 AT
        go_wp2
        go_ret
        exact ⟨by rw [HK.out]; rfl, BX.out⟩
    · have hI : ¬ (i : Int) < (p.fs.length : Int) := by omega
      have HALL : Hid (p.fs.all (fewF) = true) := Lib.hid (by have := HR.out; rw [List.drop_eq_nil_of_le (by omega)] at this; exact this.symm)
      have RP := RP2
      have B1 := B2
      clear RP2 B2 HR
      have HFF := HALL
      clear HALL
      go_wp2
      go_loopw [59] (fun t wr => ∃ i : Nat, t = .int .i64 (i : Int) ∧ i ≤ p.ops.length ∧ (p.ops.drop i).all (fewO) = p.ops.all (fewO) ∧ wr.heap[w.heap.size]? = some (.cells #[.int .i64 p.vars, .int .i64 p.objs, .int .i64 p.fields, .slice Af p.fs.length cf, .slice Ae p.en.length ce, .slice Ao p.ops.length co] 26) ∧ Below w.heap.size w wr) (fun t _ => p.ops.length - (intOf t).toNat)
      case atStart => exact ⟨0, rfl, Nat.zero_le _, rfl, RP.out, B1.out⟩
      case round =>
        obtain ⟨i, rfl, hil, hr, hp, hb⟩ := hrel
        have HR := Lib.hid hr
        have RP2 := Lib.hid hp
        have B2 := Lib.hid hb
        clear hr hp hb RP B1
        obtain ⟨rp0, rp1, rp2, rp3, rp4, rp5⟩ := cells6 RP2.out
        by_cases hin : i < p.ops.length
        · have hI : (i : Int) < (p.ops.length : Int) := by omega
          have hb0 : i + 1 ≤ 2000000 := by have := SO.out; omega
          obtain ⟨b, off, hA, _, hbl, hc⟩ := HO.out (by omega)
          obtain ⟨v, d0, d1, d2, d3, d4, d5, d6, il, hh⟩ := hc i hin
          have c0 := (B2.out.cell (p := ⟨b, off + i * 7, none⟩) hbl).trans d0
          have c1 := (B2.out.cell (p := ⟨b, off + i * 7 + 1, none⟩) hbl).trans d1
          have c2 := (B2.out.cell (p := ⟨b, off + i * 7 + 2, none⟩) hbl).trans d2
          have c3 := (B2.out.cell (p := ⟨b, off + i * 7 + 3, none⟩) hbl).trans d3
          have c4 := (B2.out.cell (p := ⟨b, off + i * 7 + 4, none⟩) hbl).trans d4
          have c5 := (B2.out.cell (p := ⟨b, off + i * 7 + 5, none⟩) hbl).trans d5
          have c6 := (B2.out.cell (p := ⟨b, off + i * 7 + 6, none⟩) hbl).trans d6
          have AD := Lib.hid (all_drop (fewO) p.ops i hin)
          have XL := Lib.hid (SA.out _ (List.getElem_mem hin))
          have HH := Lib.hid hh
          clear hc d0 d1 d2 d3 d4 d5 d6 hh
          subst hA
          generalize p.ops[i] = x at *
          obtain ⟨A, c, rfl, hAt, _⟩ := il
          have AT := Lib.hid (hAt.below B2.out)
          clear hAt
          have bX := below1 wr (.cells #[.int .i64 x.kind, .int .i64 x.fn, .int .i64 x.a, .int .i64 x.b, .int .i64 x.c, .slice A x.args.length c, .float .f64 x.heat] 64)
          have BX := Lib.hid (B2.out.trans (bX.mono B2.out.size))
          have BX1 := Lib.hid bX
          have RP3 := Lib.hid (blk_below RP2.out bX (blk_lt RP2.out))
          clear bX
          obtain ⟨rq0, rq1, rq2, rq3, rq4, rq5⟩ := cells6 RP3.out
          by_cases h6 : (x.args.length : Int) ≤ 6
          · have h6' : ¬ 6 < (x.args.length : Int) := by omega
            have HX := Lib.hid (show (p.ops.drop (i + 1)).all fewO = p.ops.all fewO from by have h1 := AD.out; rw [show fewO x = true from decide_eq_true h6, Bool.true_and] at h1; exact h1.symm.trans HR.out)
            have RPZ := RP3
            have BZ := BX
            clear h6 HR RP2 B2 AT
            go_wp2
            go_roundw
            case rel => exact ⟨i + 1, by go_num, by omega, HX.out, RPZ.out, BZ.out⟩
            case measure => simp [intOf]; omega
          · have h6' : 6 < (x.args.length : Int) := by omega
            have HX := Lib.hid (show p.ops.all fewO = false from by have h1 := AD.out; rw [show fewO x = false from decide_eq_false h6, Bool.false_and] at h1; exact HR.out.symm.trans h1)
            have HK := Lib.hid (show check p = 4 from by unfold check; rw [HB0.out, HX.out]; simp)
            clear h6 HR RP2 B2 AT
            go_wp2
            go_ret
            exact ⟨by rw [HK.out]; rfl, BX.out⟩
        · have hI : ¬ (i : Int) < (p.ops.length : Int) := by omega
          have HALL : Hid (p.ops.all (fewO) = true) := Lib.hid (by have := HR.out; rw [List.drop_eq_nil_of_le (by omega)] at this; exact this.symm)
          have RP := RP2
          have B1 := B2
          clear RP2 B2 HR
          have HB := Lib.hid (show check p = (if formed p then 0 else 12) from by unfold check; rw [HB0.out, HFF.out, HALL.out]; rfl)
          clear HB0 HFF HALL
          by_cases m0 : ¬ 0 ≤ p.vars
          · have m0' : p.vars < 0 := by omega
            have HK := Lib.hid (show check p = 12 from by rw [HB.out]; simp [formed, m0])
            clear m0
            go_wp2
            go_ret
            exact ⟨by rw [HK.out]; rfl, B1.out⟩
          have m0' : ¬ p.vars < 0 := by omega
          have m0'' : 0 ≤ p.vars := by omega
          clear m0
          by_cases m1 : ¬ 0 ≤ p.objs
          · have m1' : p.objs < 0 := by omega
            have HK := Lib.hid (show check p = 12 from by rw [HB.out]; simp [formed, m1])
            clear m1
            go_wp2
            go_ret
            exact ⟨by rw [HK.out]; rfl, B1.out⟩
          have m1' : ¬ p.objs < 0 := by omega
          have m1'' : 0 ≤ p.objs := by omega
          clear m1
          by_cases m2 : ¬ 0 ≤ p.fields
          · have m2' : p.fields < 0 := by omega
            have HK := Lib.hid (show check p = 12 from by rw [HB.out]; simp [formed, m2])
            clear m2
            go_wp2
            go_ret
            exact ⟨by rw [HK.out]; rfl, B1.out⟩
          have m2' : ¬ p.fields < 0 := by omega
          have m2'' : 0 ≤ p.fields := by omega
          clear m2
          have HB2 := Lib.hid (show check p = (if (p.fs.all (okF p) && rises p.en && p.en.all (inB p.fs.length) && p.ops.all (okO p)) then 0 else 12) from by rw [HB.out]; unfold formed; rw [decide_eq_true m0'', decide_eq_true m1'', decide_eq_true m2'']; simp only [Bool.true_and])
          clear HB m0'' m1'' m2''
          go_wp2
          go_loopw [84] (fun t wr => ∃ i : Nat, t = .int .i64 (i : Int) ∧ i ≤ p.en.length ∧ ((p.en.drop i).all (inB p.fs.length) && rises (p.en.drop (i - 1))) = (p.en.all (inB p.fs.length) && rises p.en) ∧ wr.heap[w.heap.size]? = some (.cells #[.int .i64 p.vars, .int .i64 p.objs, .int .i64 p.fields, .slice Af p.fs.length cf, .slice Ae p.en.length ce, .slice Ao p.ops.length co] 26) ∧ Below w.heap.size w wr) (fun t _ => p.en.length - (intOf t).toNat)
          case atStart => exact ⟨0, rfl, Nat.zero_le _, rfl, RP.out, B1.out⟩
          case round =>
            obtain ⟨i, rfl, hil, hr, hp, hb⟩ := hrel
            have HR := Lib.hid hr
            have RP2 := Lib.hid hp
            have B2 := Lib.hid hb
            clear hr hp hb RP B1
            obtain ⟨rp0, rp1, rp2, rp3, rp4, rp5⟩ := cells6 RP2.out
            by_cases hin : i < p.en.length
            · have hI : (i : Int) < (p.en.length : Int) := by omega
              have hb0 : i + 1 ≤ 2000000 := by have := SE.out; omega
              obtain ⟨b, off, hA, hbl, hc⟩ := HE.out (by omega)
              have c0 := (B2.out.cell (p := ⟨b, off + i, none⟩) hbl).trans (hc i hin)
              have AD := Lib.hid (all_drop (inB p.fs.length) p.en i hin)
              have CI := Lib.hid (rin_any p.en[i] p.fs.length wr)
              by_cases hi0 : i = 0
              · have hz : ¬ (0 : Int) < (i : Int) := by omega
                have HI0 := Lib.hid hi0
                have HIN := Lib.hid hin
                clear hc hi0
                subst hA
                generalize p.en[i]'_ = x at *
                cases hx : inB p.fs.length x with
                | true =>
                  rw [hx] at AD CI
                  have HX : Hid (((p.en.drop (i + 1)).all (inB p.fs.length) && rises (p.en.drop (i + 1 - 1))) = (p.en.all (inB p.fs.length) && rises p.en)) := Lib.hid (by
                    have h1 := AD.out
                    have h3 := HR.out
                    have h0 := HI0.out
                    subst h0
                    rw [Bool.true_and] at h1
                    rw [h1] at h3
                    exact h3)
                  clear hx HR
                  go_wp2_with (go_at_call 32; ((with_reducible refine CI.out.mono ?_); rintro e w2 ⟨rfl, rfl⟩))
                  go_roundw
                  case rel => exact ⟨i + 1, by go_num, HIN.out, HX.out, RP2.out, B2.out⟩
                  case measure => simp [intOf]; omega
                | false =>
                  rw [hx] at AD CI
                  have HX : Hid ((p.en.all (inB p.fs.length) && rises p.en) = false) := Lib.hid (by have h1 := AD.out; have h3 := HR.out; rw [Bool.false_and] at h1; rw [h1, Bool.false_and] at h3; exact h3.symm)
                  have HK := Lib.hid (show check p = 12 from by
                    rw [HB2.out, Bool.and_assoc (p.fs.all (okF p)), Bool.and_comm (rises p.en), HX.out]; simp)
                  clear hx HR
                  go_wp2_with (go_at_call 32; ((with_reducible refine CI.out.mono ?_); rintro e w2 ⟨rfl, rfl⟩))
                  go_ret
                  exact ⟨by rw [HK.out]; rfl, B2.out⟩
              · have hz : (0 : Int) < (i : Int) := by omega
                have hi1 : ((i : Int) - 1).toNat = i - 1 := by omega
                have hi2 : (0 : Int) ≤ (i : Int) - 1 := by omega
                have hi3 : (i : Int) - 1 < (p.en.length : Int) := by omega
                have hw : IntKind.i64.wrap ((i : Int) - 1) = (i : Int) - 1 := IntWalk.i64_in _ (by omega)
                have c1 := (B2.out.cell (p := ⟨b, off + (i - 1), none⟩) hbl).trans (hc (i - 1) (by omega))
                have RD := Lib.hid (rises_drop p.en (i - 1) (by omega))
                have ei : i - 1 + 1 = i := by omega
                simp only [ei] at RD
                clear hc
                subst hA
                generalize p.en[i]'_ = x at *
                generalize p.en[i - 1]'_ = y at *
                cases hx : inB p.fs.length x with
                | true =>
                  rw [hx] at AD CI
                  by_cases hyx : y < x
                  · have hyx' : ¬ x ≤ y := by omega
                    have HX : Hid (((p.en.drop (i + 1)).all (inB p.fs.length) && rises (p.en.drop (i + 1 - 1))) = (p.en.all (inB p.fs.length) && rises p.en)) := Lib.hid (by
                      have h1 := AD.out
                      have h2 := RD.out
                      have h3 := HR.out
                      rw [Bool.true_and] at h1
                      rw [decide_eq_true hyx, Bool.true_and] at h2
                      rw [h1, h2] at h3
                      exact h3)
                    clear hx HR hyx ei
                    go_wp2_with (go_at_call 32; ((with_reducible refine CI.out.mono ?_); rintro e w2 ⟨rfl, rfl⟩))
                    go_roundw
                    case rel => exact ⟨i + 1, by go_num, by omega, HX.out, RP2.out, B2.out⟩
                    case measure => simp [intOf]; omega
                  · have hyx' : x ≤ y := by omega
                    have HX : Hid ((p.en.all (inB p.fs.length) && rises p.en) = false) := Lib.hid (by
                      have h2 := RD.out
                      have h3 := HR.out
                      rw [decide_eq_false hyx, Bool.false_and] at h2
                      rw [h2, Bool.and_false] at h3
                      exact h3.symm)
                    have HK := Lib.hid (show check p = 12 from by
                      rw [HB2.out, Bool.and_assoc (p.fs.all (okF p)), Bool.and_comm (rises p.en), HX.out]; simp)
                    clear hx HR hyx ei
                    go_wp2_with (go_at_call 32; ((with_reducible refine CI.out.mono ?_); rintro e w2 ⟨rfl, rfl⟩))
                    go_ret
                    exact ⟨by rw [HK.out]; rfl, B2.out⟩
                | false =>
                  rw [hx] at AD CI
                  have HX : Hid ((p.en.all (inB p.fs.length) && rises p.en) = false) := Lib.hid (by have h1 := AD.out; have h3 := HR.out; rw [Bool.false_and] at h1; rw [h1, Bool.false_and] at h3; exact h3.symm)
                  have HK := Lib.hid (show check p = 12 from by
                    rw [HB2.out, Bool.and_assoc (p.fs.all (okF p)), Bool.and_comm (rises p.en), HX.out]; simp)
                  clear hx HR ei
                  go_wp2_with (go_at_call 32; ((with_reducible refine CI.out.mono ?_); rintro e w2 ⟨rfl, rfl⟩))
                  go_ret
                  exact ⟨by rw [HK.out]; rfl, B2.out⟩
            · have hI : ¬ (i : Int) < (p.en.length : Int) := by omega
              have HEN : Hid ((p.en.all (inB p.fs.length) && rises p.en) = true) := Lib.hid (by
                have h3 := HR.out
                rw [List.drop_eq_nil_of_le (by omega), rises_end _ _ (by omega)] at h3
                exact h3.symm)
              have HB3 := Lib.hid (show check p = (if (p.fs.all (okF p) && p.ops.all (okO p)) then 0 else 12) from by
                rw [HB2.out, Bool.and_assoc (p.fs.all (okF p)), Bool.and_comm (rises p.en), HEN.out, Bool.and_true])
              have RP := RP2
              have B1 := B2
              clear RP2 B2 HR HB2 HEN
              go_wp2
              go_loopw [113] (fun t wr => ∃ i : Nat, t = .int .i64 (i : Int) ∧ i ≤ p.fs.length ∧ (p.fs.drop i).all (okF p) = p.fs.all (okF p) ∧ wr.heap[w.heap.size]? = some (.cells #[.int .i64 p.vars, .int .i64 p.objs, .int .i64 p.fields, .slice Af p.fs.length cf, .slice Ae p.en.length ce, .slice Ao p.ops.length co] 26) ∧ Below w.heap.size w wr) (fun t _ => p.fs.length - (intOf t).toNat)
              case atStart => exact ⟨0, rfl, Nat.zero_le _, rfl, RP.out, B1.out⟩
              case round =>
                obtain ⟨i, rfl, hil, hr, hp, hb⟩ := hrel
                have HR := Lib.hid hr
                have RP2 := Lib.hid hp
                have B2 := Lib.hid hb
                clear hr hp hb RP B1
                obtain ⟨rp0, rp1, rp2, rp3, rp4, rp5⟩ := cells6 RP2.out
                by_cases hin : i < p.fs.length
                · have hI : (i : Int) < (p.fs.length : Int) := by omega
                  have hb0 : i + 1 ≤ 2000000 := by have := SF.out; omega
                  obtain ⟨b, off, hA, _, hbl, hc⟩ := HF.out (by omega)
                  obtain ⟨v, d0, d1, il⟩ := hc i hin
                  have c0 := (B2.out.cell (p := ⟨b, off + i * 2, none⟩) hbl).trans d0
                  have c1 := (B2.out.cell (p := ⟨b, off + i * 2 + 1, none⟩) hbl).trans d1
                  have AD := Lib.hid (all_drop (okF p) p.fs i hin)
                  have XL := Lib.hid (SP.out _ (List.getElem_mem hin))
                  clear hc d0 d1
                  subst hA
                  generalize p.fs[i] = x at *
                  obtain ⟨A, c, rfl, hAt, _⟩ := il
                  have AT := Lib.hid (hAt.below B2.out)
                  clear hAt
                  have bX := below1 wr (.cells #[.slice A x.ps.length c, .int .i64 x.ret] 63)
                  have BX := Lib.hid (B2.out.trans (bX.mono B2.out.size))
                  have BX1 := Lib.hid bX
                  have RP3 := Lib.hid (blk_below RP2.out bX (blk_lt RP2.out))
                  clear bX
                  obtain ⟨rq0, rq1, rq2, rq3, rq4, rq5⟩ := cells6 RP3.out
                  have CV := Lib.hid (fun X (q : Below wr.heap.size wr X) => rvars_any p.vars A x.ps c X (AT.out.below q) XL.out)
                  have RX := Lib.hid (heap_last wr (.cells #[.slice A x.ps.length c, .int .i64 x.ret] 63) wr.heap.size rfl)
                  cases hps : x.ps.all (inB p.vars) with
                  | false =>
                    rw [hps] at CV
                    have HX := Lib.hid (show p.fs.all (okF p) = false from by have := AD.out; rw [show okF p x = false from by unfold okF; rw [hps]; rfl, Bool.false_and] at this; exact HR.out.symm.trans this)
                    have HK := Lib.hid (show check p = 12 from by rw [HB3.out, HX.out]; rfl)
                    clear hps HR
                    go_wp2_with (first | (go_at_call 33; ((with_reducible refine (CV.out _ BX1.out).mono ?_); rintro e w2 ⟨rfl, rfl⟩)) | (go_at_call 32; ((with_reducible refine (CI.out _).mono ?_); rintro e w3 ⟨rfl, rfl⟩)))
                    go_ret
                    exact ⟨by rw [HK.out]; rfl, BX.out⟩
                  | true =>
                    rw [hps] at CV
                    have CI := Lib.hid (fun X => rin_any x.ret p.vars X)
                    cases hrt : inB p.vars x.ret with
                    | true =>
                      rw [hrt] at CI
                      have HX := Lib.hid ((show (p.fs.drop (i + 1)).all (okF p) = p.fs.all (okF p) from by have := AD.out; rw [show okF p x = true from by unfold okF orN; rw [hps, hrt]; simp, Bool.true_and] at this; exact this.symm.trans HR.out))
                      have RPZ := RP3
                      have BZ := BX
                      clear hps hrt HR
                      go_wp2_with (first | (go_at_call 33; ((with_reducible refine (CV.out _ BX1.out).mono ?_); rintro e w2 ⟨rfl, rfl⟩)) | (go_at_call 32; ((with_reducible refine (CI.out _).mono ?_); rintro e w3 ⟨rfl, rfl⟩)))
                      go_roundw
                      case rel => exact ⟨i + 1, by go_num, by omega, HX.out, RPZ.out, BZ.out⟩
                      case measure => simp [intOf]; omega
                    | false =>
                      rw [hrt] at CI
                      by_cases hm : x.ret = -1
                      · have em : (x.ret != -1) = false := by rw [bne_eq_false_iff_eq]; exact hm
                        have HX := Lib.hid ((show (p.fs.drop (i + 1)).all (okF p) = p.fs.all (okF p) from by have := AD.out; rw [show okF p x = true from by unfold okF orN; rw [hps, decide_eq_true hm]; rfl, Bool.true_and] at this; exact this.symm.trans HR.out))
                        have RPZ := RP3
                        have BZ := BX
                        clear hps hrt HR hm
                        go_wp2_with (first | (go_at_call 33; ((with_reducible refine (CV.out _ BX1.out).mono ?_); rintro e w2 ⟨rfl, rfl⟩)) | (go_at_call 32; ((with_reducible refine (CI.out _).mono ?_); rintro e w3 ⟨rfl, rfl⟩)))
                        go_roundw
                        case rel => exact ⟨i + 1, by go_num, by omega, HX.out, RPZ.out, BZ.out⟩
                        case measure => simp [intOf]; omega
                      · have em : (x.ret != -1) = true := by rw [bne_iff_ne]; exact hm
                        have HX := Lib.hid (show p.fs.all (okF p) = false from by have := AD.out; rw [show okF p x = false from by unfold okF orN; rw [hps, decide_eq_false hm, hrt]; rfl, Bool.false_and] at this; exact HR.out.symm.trans this)
                        have HK := Lib.hid (show check p = 12 from by rw [HB3.out, HX.out]; rfl)
                        clear hps hrt HR hm
                        go_wp2_with (first | (go_at_call 33; ((with_reducible refine (CV.out _ BX1.out).mono ?_); rintro e w2 ⟨rfl, rfl⟩)) | (go_at_call 32; ((with_reducible refine (CI.out _).mono ?_); rintro e w3 ⟨rfl, rfl⟩)))
                        go_ret
                        exact ⟨by rw [HK.out]; rfl, BX.out⟩
                · have hI : ¬ (i : Int) < (p.fs.length : Int) := by omega
                  have HALL : Hid (p.fs.all (okF p) = true) := Lib.hid (by have := HR.out; rw [List.drop_eq_nil_of_le (by omega)] at this; exact this.symm)
                  have RP := RP2
                  have B1 := B2
                  clear RP2 B2 HR
                  have HB4 := Lib.hid (show check p = (if p.ops.all (okO p) then 0 else 12) from by rw [HB3.out, HALL.out]; simp only [Bool.true_and])
                  clear HB3 HALL
                  go_wp2
                  go_loopw [140] (fun t wr => ∃ i : Nat, t = .int .i64 (i : Int) ∧ i ≤ p.ops.length ∧ (p.ops.drop i).all (okO p) = p.ops.all (okO p) ∧ wr.heap[w.heap.size]? = some (.cells #[.int .i64 p.vars, .int .i64 p.objs, .int .i64 p.fields, .slice Af p.fs.length cf, .slice Ae p.en.length ce, .slice Ao p.ops.length co] 26) ∧ Below w.heap.size w wr) (fun t _ => p.ops.length - (intOf t).toNat)
                  case atStart => exact ⟨0, rfl, Nat.zero_le _, rfl, RP.out, B1.out⟩
                  case round =>
                    obtain ⟨i, rfl, hil, hr, hp, hb⟩ := hrel
                    have HR := Lib.hid hr
                    have RP2 := Lib.hid hp
                    have B2 := Lib.hid hb
                    clear hr hp hb RP B1
                    obtain ⟨rp0, rp1, rp2, rp3, rp4, rp5⟩ := cells6 RP2.out
                    by_cases hin : i < p.ops.length
                    · have hI : (i : Int) < (p.ops.length : Int) := by omega
                      have hb0 : i + 1 ≤ 2000000 := by have := SO.out; omega
                      obtain ⟨b, off, hA, _, hbl, hc⟩ := HO.out (by omega)
                      obtain ⟨v, d0, d1, d2, d3, d4, d5, d6, il, hh⟩ := hc i hin
                      have c0 := (B2.out.cell (p := ⟨b, off + i * 7, none⟩) hbl).trans d0
                      have c1 := (B2.out.cell (p := ⟨b, off + i * 7 + 1, none⟩) hbl).trans d1
                      have c2 := (B2.out.cell (p := ⟨b, off + i * 7 + 2, none⟩) hbl).trans d2
                      have c3 := (B2.out.cell (p := ⟨b, off + i * 7 + 3, none⟩) hbl).trans d3
                      have c4 := (B2.out.cell (p := ⟨b, off + i * 7 + 4, none⟩) hbl).trans d4
                      have c5 := (B2.out.cell (p := ⟨b, off + i * 7 + 5, none⟩) hbl).trans d5
                      have c6 := (B2.out.cell (p := ⟨b, off + i * 7 + 6, none⟩) hbl).trans d6
                      have AD := Lib.hid (all_drop (okO p) p.ops i hin)
                      have XL := Lib.hid (SA.out _ (List.getElem_mem hin))
                      have HH := Lib.hid hh
                      clear hc d0 d1 d2 d3 d4 d5 d6 hh
                      subst hA
                      generalize p.ops[i] = x at *
                      obtain ⟨A, c, rfl, hAt, _⟩ := il
                      have AT := Lib.hid (hAt.below B2.out)
                      clear hAt
                      have bX := below1 wr (.cells #[.int .i64 x.kind, .int .i64 x.fn, .int .i64 x.a, .int .i64 x.b, .int .i64 x.c, .slice A x.args.length c, .float .f64 x.heat] 64)
                      have BX := Lib.hid (B2.out.trans (bX.mono B2.out.size))
                      have BX1 := Lib.hid bX
                      have RP3 := Lib.hid (blk_below RP2.out bX (blk_lt RP2.out))
                      clear bX
                      obtain ⟨rq0, rq1, rq2, rq3, rq4, rq5⟩ := cells6 RP3.out
                      have CO := Lib.hid (fun X (q : Below wr.heap.size wr X) => rop_any p Af cf Ae ce (some ⟨b, off, none⟩) co x A c X (AT.out.below q) XL.out HH.out)
                      cases hok : okO p x with
                      | true =>
                        rw [hok] at CO
                        have HX := Lib.hid ((show (p.ops.drop (i + 1)).all (okO p) = p.ops.all (okO p) from by have := AD.out; rw [hok, Bool.true_and] at this; exact this.symm.trans HR.out))
                        clear hok HR
                        go_wp2_with (go_at_call 34; ((with_reducible refine (CO.out _ BX1.out).mono ?_); rintro e w2 ⟨rfl, hb2⟩; have RPZ := Lib.hid (blk_below RP3.out hb2 (blk_lt RP3.out)); have BZ := Lib.hid (BX.out.trans (hb2.mono BX.out.size)); clear hb2))
                        go_roundw
                        case rel => exact ⟨i + 1, by go_num, by omega, HX.out, RPZ.out, BZ.out⟩
                        case measure => simp [intOf]; omega
                      | false =>
                        rw [hok] at CO
                        have HX := Lib.hid (show p.ops.all (okO p) = false from by have := AD.out; rw [hok, Bool.false_and] at this; exact HR.out.symm.trans this)
                        have HK := Lib.hid (show check p = 12 from by rw [HB4.out, HX.out]; rfl)
                        clear hok HR
                        go_wp2_with (go_at_call 34; ((with_reducible refine (CO.out _ BX1.out).mono ?_); rintro e w2 ⟨rfl, hb2⟩))
                        go_ret
                        exact ⟨by rw [HK.out]; rfl, BX.out.trans (hb2.mono BX.out.size)⟩
                    · have hI : ¬ (i : Int) < (p.ops.length : Int) := by omega
                      have HALL : Hid (p.ops.all (okO p) = true) := Lib.hid (by have := HR.out; rw [List.drop_eq_nil_of_le (by omega)] at this; exact this.symm)
                      have RP := RP2
                      have B1 := B2
                      clear RP2 B2 HR
                      have HK := Lib.hid (show check p = 0 from by rw [HB4.out, HALL.out]; rfl)
                      go_wp2
                      go_ret
                      exact ⟨by rw [HK.out]; rfl, B1.out⟩
end Pm
end Go.Proofs.Ytnhgoeoffjcooaa
