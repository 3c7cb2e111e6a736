/-
  What parse does (package root): the root that a slot has.
-/
import Derived.Test.YtojbanknbgihgaaDoorRootText
namespace Go.Proofs.YtojbanknbgihgaaDoor
open Go.RowKit
namespace Rt
open B Dsk

theorem num_lt4 (l : List UInt8) (h : l.length = 4) : num l < 4294967296 := by
  match l, h with
  | [a, b, c, d], _ =>
    have := a.toNat_lt; have := b.toNat_lt; have := c.toNat_lt; have := d.toNat_lt
    simp only [num, List.foldl_cons, List.foldl_nil]
    omega
theorem ext_part (t : ByteArray) (a b : Nat) : (t.extract a b).data.toList = part t a (b - a) := by
  unfold part
  rw [ByteArray.data_extract, Array.toList_extract]
  first | rfl | done
theorem part_len {t : ByteArray} (h : t.size = 256) (a n : Nat) (hn : a + n ≤ 256) : (part t a n).length = n := by
  unfold part
  rw [List.length_take, List.length_drop, size_data, h]; omega
theorem number_part (t : ByteArray) (a b : Nat) (w : World) (h : t.size = 256) (hb : b ≤ 256) :
    Calls Tryd.prog 35 #[.string (t.extract a b)] w fun e w' => e = .returned (.int .u64 (num (part t a (b - a)) : Int)) ∧ w' = w := by
  have := number_any (t.extract a b) w (by rw [ByteArray.size_extract]; omega)
  rw [ext_part] at this
  exact this.mono fun e w' ⟨h1, h2⟩ => ⟨h1, h2.symm⟩
theorem row4 {w : World} {g : Nat} {a b c d : Value} {t : TypeId} (h : w.heap[g]? = some (.cells #[a, b, c, d] t)) : w.cell? ⟨g, 0, none⟩ = some a ∧ w.cell? ⟨g, 1, none⟩ = some b ∧ w.cell? ⟨g, 2, none⟩ = some c ∧ w.cell? ⟨g, 3, none⟩ = some d := by
  unfold World.cell?; rw [h]; simp
theorem half_at {t : ByteArray} (h : 8 < t.size) : (t.data.toList.getD 8 0).toNat = t[8].toNat := by
  have h2 : 8 < t.data.toList.length := by rw [size_data]; exact h
  rw [List.getD_eq_getElem?_getD, List.getElem?_eq_getElem h2]
  simp
  rfl

set_option maxRecDepth 100000 in
set_option maxHeartbeats 4000000 in
theorem parse_any (t : ByteArray) (w : World) (hL : Lst w) (ht : t.size = 256) :
    Calls Tryd.prog 33 #[.string t] w fun e w' => e = .returned (.tuple #[rv ((parse t).getD R0), .bool (parse t).isSome]) ∧ Below w.heap.size w w' := by
  have HL := Lib.hid hL
  have hs0 := hL.1
  clear hL
  have b0 := num_lt4 (part t 9 4) (part_len ht _ _ (by omega))
  have b1 := num_lt4 (part t 13 4) (part_len ht _ _ (by omega))
  have b2 := num_lt4 (part t 17 4) (part_len ht _ _ (by omega))
  have b3 := num_lt4 (part t 21 4) (part_len ht _ _ (by omega))
  have C0 := Lib.hid (fun W => number_part t 9 13 W ht (by omega))
  have C1 := Lib.hid (fun W => number_part t 13 17 W ht (by omega))
  have C2 := Lib.hid (fun W => number_part t 17 21 W ht (by omega))
  have C3 := Lib.hid (fun W => number_part t 21 25 W ht (by omega))
  have C8 := Lib.hid (fun W => number_part t 0 8 W ht (by omega))
  have HRD : Hid (rd t = ⟨num (part t 0 8), (t.data.toList.getD 8 0).toNat, (num (part t 9 4) : Int) - 1, num (part t 13 4), num (part t 17 4), num (part t 21 4)⟩) := rfl
  have h8 : 8 < t.size := by omega
  have HH := Lib.hid (half_at h8)
  have HEP := Lib.hid (num_lt (part t 0 8))
  simp only [Nat.reduceSub] at C0 C1 C2 C3 C8
  generalize num (part t 9 4) = n0 at *
  generalize num (part t 13 4) = n1 at *
  generalize num (part t 17 4) = n2 at *
  generalize num (part t 21 4) = n3 at *
  generalize num (part t 0 8) = ep at *
  go_enter Tryd.func33, Tryd.ntmps33
  go_wp2_with fail
  have K2 := Lib.hid (hp_old (.cells #[.int .i64 0, .int .i64 0, .int .i64 0, .int .i64 0] 81) (heap_last w (.cells #[.int .u64 0, .int .i64 0, .int .i64 0, .int .i64 0, .int .i64 0, .int .i64 0] 24) w.heap.size rfl))
  have K4 := Lib.hid (heap_last (w.alloc (.cells #[.int .u64 0, .int .i64 0, .int .i64 0, .int .i64 0, .int .i64 0, .int .i64 0] 24)) (.cells #[.int .i64 0, .int .i64 0, .int .i64 0, .int .i64 0] 81) (w.heap.size + 1) (by simp))
  have B0 := Lib.hid (((Below.refl w.heap.size w).alloc (Nat.le_refl _) (.cells #[.int .u64 0, .int .i64 0, .int .i64 0, .int .i64 0, .int .i64 0, .int .i64 0] 24)).alloc (by simp) (.cells #[.int .i64 0, .int .i64 0, .int .i64 0, .int .i64 0] 81))
  go_loopw [8] (fun t8 wr => ∃ k : Nat, k ≤ 4 ∧ t8 = .int .i64 (k : Int) ∧ wr.heap[w.heap.size]? = some (.cells #[.int .u64 0, .int .i64 0, .int .i64 0, .int .i64 0, .int .i64 0, .int .i64 0] 24) ∧
    wr.heap[w.heap.size + 1]? = some (.cells #[.int .i64 (if 0 < k then (n0 : Int) - 1 else 0), .int .i64 (if 1 < k then (n1 : Int) else 0), .int .i64 (if 2 < k then (n2 : Int) else 0), .int .i64 (if 3 < k then (n3 : Int) else 0)] 81) ∧ Below w.heap.size w wr) (fun t8 _ => 4 - (intOf t8).toNat)
  case atStart => exact ⟨0, Nat.zero_le _, rfl, K2.out, K4.out, B0.out⟩
  case round =>
    obtain ⟨k, hk, rfl, k2, k4, hbel⟩ := hrel
    have H2 := Lib.hid k2
    have H4 := Lib.hid k4
    have BB := Lib.hid hbel
    obtain ⟨_, l0, l1, l2, l3⟩ := HL.out.below hbel hs0
    clear k2 k4 hbel K2 K4 B0
    rcases (show k = 0 ∨ k = 1 ∨ k = 2 ∨ k = 3 ∨ k = 4 by omega) with rfl | rfl | rfl | rfl | rfl
    · have k4' : wr.drew.heap[w.heap.size + 1]? = some (.cells #[.int .i64 0, .int .i64 0, .int .i64 0, .int .i64 0] 81) := H4.out
      have H4' := Lib.hid k4'
      have H2' : Hid (wr.drew.heap[w.heap.size]? = _) := H2.out
      have BQ : Hid (Below w.heap.size w wr.drew) := ⟨BB.out.os, BB.out.tape, BB.out.output, BB.out.size, BB.out.block⟩
      clear k4'
      have v1 : IntKind.i64.wrap 13 = 13 := by decide
      have v2 : IntKind.i64.wrap (n0 : Int) = (n0 : Int) := IntWalk.i64_in _ (by omega)
      have v3 : IntKind.i64.wrap ((n0 : Int) + -1) = (n0 : Int) - 1 := IntWalk.i64_in _ (by omega)
      go_wp2_with fail
      refine wp_region_still_tail 13 (by kernel_rfl) (by kernel_rfl) ?_
      change wpStill Tryd.prog _ wr.drew (fun a' => wpList Tryd.prog _ _ _ a' wr.drew) _ _
      simp only [List.take_succ_cons, List.take_zero, List.drop_succ_cons, List.drop_zero]
      repeat (first | still_step | still_call (C0.out _))
      refine wpStill_nil ?_
      clear H4 H2 BB
      generalize wr.drew = wd at *
      obtain ⟨q0, q1, q2, q3⟩ := row4 H4'.out
      have f0 := row_frozen (cs := [_, _, _, _]) H4'.out 0
      go_wp2_with fail
      go_roundw
      case rel => exact ⟨1, by omega, rfl, blk_other H2'.out (by omega) _, by simpa using blk_set (cs := [_, _, _, _]) H4'.out 0 (.int .i64 ((n0 : Int) - 1)), BQ.out.setCell (p := ⟨w.heap.size + 1, 0, none⟩) (by simp) _⟩
      case measure => simp [intOf]
    · have k4' : wr.drew.heap[w.heap.size + 1]? = some (.cells #[.int .i64 ((n0 : Int) - 1), .int .i64 0, .int .i64 0, .int .i64 0] 81) := H4.out
      have H4' := Lib.hid k4'
      have H2' : Hid (wr.drew.heap[w.heap.size]? = _) := H2.out
      have BQ : Hid (Below w.heap.size w wr.drew) := ⟨BB.out.os, BB.out.tape, BB.out.output, BB.out.size, BB.out.block⟩
      clear k4'
      have v1 : IntKind.i64.wrap 17 = 17 := by decide
      have v2 : IntKind.i64.wrap (n1 : Int) = (n1 : Int) := IntWalk.i64_in _ (by omega)
      have v3 : IntKind.i64.wrap ((n1 : Int) + 0) = (n1 : Int) := IntWalk.i64_in _ (by omega)
      go_wp2_with fail
      refine wp_region_still_tail 13 (by kernel_rfl) (by kernel_rfl) ?_
      change wpStill Tryd.prog _ wr.drew (fun a' => wpList Tryd.prog _ _ _ a' wr.drew) _ _
      simp only [List.take_succ_cons, List.take_zero, List.drop_succ_cons, List.drop_zero]
      repeat (first | still_step | still_call (C1.out _))
      refine wpStill_nil ?_
      clear H4 H2 BB
      generalize wr.drew = wd at *
      obtain ⟨q0, q1, q2, q3⟩ := row4 H4'.out
      have f0 := row_frozen (cs := [_, _, _, _]) H4'.out 1
      go_wp2_with fail
      go_roundw
      case rel => exact ⟨2, by omega, rfl, blk_other H2'.out (by omega) _, by simpa using blk_set (cs := [_, _, _, _]) H4'.out 1 (.int .i64 ((n1 : Int))), BQ.out.setCell (p := ⟨w.heap.size + 1, 1, none⟩) (by simp) _⟩
      case measure => simp [intOf]
    · have k4' : wr.drew.heap[w.heap.size + 1]? = some (.cells #[.int .i64 ((n0 : Int) - 1), .int .i64 (n1 : Int), .int .i64 0, .int .i64 0] 81) := H4.out
      have H4' := Lib.hid k4'
      have H2' : Hid (wr.drew.heap[w.heap.size]? = _) := H2.out
      have BQ : Hid (Below w.heap.size w wr.drew) := ⟨BB.out.os, BB.out.tape, BB.out.output, BB.out.size, BB.out.block⟩
      clear k4'
      have v1 : IntKind.i64.wrap 21 = 21 := by decide
      have v2 : IntKind.i64.wrap (n2 : Int) = (n2 : Int) := IntWalk.i64_in _ (by omega)
      have v3 : IntKind.i64.wrap ((n2 : Int) + 0) = (n2 : Int) := IntWalk.i64_in _ (by omega)
      go_wp2_with fail
      refine wp_region_still_tail 13 (by kernel_rfl) (by kernel_rfl) ?_
      change wpStill Tryd.prog _ wr.drew (fun a' => wpList Tryd.prog _ _ _ a' wr.drew) _ _
      simp only [List.take_succ_cons, List.take_zero, List.drop_succ_cons, List.drop_zero]
      repeat (first | still_step | still_call (C2.out _))
      refine wpStill_nil ?_
      clear H4 H2 BB
      generalize wr.drew = wd at *
      obtain ⟨q0, q1, q2, q3⟩ := row4 H4'.out
      have f0 := row_frozen (cs := [_, _, _, _]) H4'.out 2
      go_wp2_with fail
      go_roundw
      case rel => exact ⟨3, by omega, rfl, blk_other H2'.out (by omega) _, by simpa using blk_set (cs := [_, _, _, _]) H4'.out 2 (.int .i64 ((n2 : Int))), BQ.out.setCell (p := ⟨w.heap.size + 1, 2, none⟩) (by simp) _⟩
      case measure => simp [intOf]
    · have k4' : wr.drew.heap[w.heap.size + 1]? = some (.cells #[.int .i64 ((n0 : Int) - 1), .int .i64 (n1 : Int), .int .i64 (n2 : Int), .int .i64 0] 81) := H4.out
      have H4' := Lib.hid k4'
      have H2' : Hid (wr.drew.heap[w.heap.size]? = _) := H2.out
      have BQ : Hid (Below w.heap.size w wr.drew) := ⟨BB.out.os, BB.out.tape, BB.out.output, BB.out.size, BB.out.block⟩
      clear k4'
      have v1 : IntKind.i64.wrap 25 = 25 := by decide
      have v2 : IntKind.i64.wrap (n3 : Int) = (n3 : Int) := IntWalk.i64_in _ (by omega)
      have v3 : IntKind.i64.wrap ((n3 : Int) + 0) = (n3 : Int) := IntWalk.i64_in _ (by omega)
      go_wp2_with fail
      refine wp_region_still_tail 13 (by kernel_rfl) (by kernel_rfl) ?_
      change wpStill Tryd.prog _ wr.drew (fun a' => wpList Tryd.prog _ _ _ a' wr.drew) _ _
      simp only [List.take_succ_cons, List.take_zero, List.drop_succ_cons, List.drop_zero]
      repeat (first | still_step | still_call (C3.out _))
      refine wpStill_nil ?_
      clear H4 H2 BB
      generalize wr.drew = wd at *
      obtain ⟨q0, q1, q2, q3⟩ := row4 H4'.out
      have f0 := row_frozen (cs := [_, _, _, _]) H4'.out 3
      go_wp2_with fail
      go_roundw
      case rel => exact ⟨4, by omega, rfl, blk_other H2'.out (by omega) _, by simpa using blk_set (cs := [_, _, _, _]) H4'.out 3 (.int .i64 ((n3 : Int))), BQ.out.setCell (p := ⟨w.heap.size + 1, 3, none⟩) (by simp) _⟩
      case measure => simp [intOf]
    · have k4' : wr.heap[w.heap.size + 1]? = some (.cells #[.int .i64 ((n0 : Int) - 1), .int .i64 (n1 : Int), .int .i64 (n2 : Int), .int .i64 (n3 : Int)] 81) := H4.out
      have H4' := Lib.hid k4'
      have v8 : IntKind.i64.wrap (t[8].toNat : Int) = (t[8].toNat : Int) := IntWalk.i64_in _ (by have := t[8].toNat_lt; omega)
      have HV8 := Lib.hid v8
      clear k4' H4
      go_upto_region 8 with fail
      go_cut [7] (fun s7 wx => s7 = .pointer (some ⟨wr.heap.size, 0, none⟩) ∧ wx = (wr.alloc (.cells #[.int .u64 (ep : Int), .int .i64 (t[8].toNat : Int), .int .i64 ((n0 : Int) - 1), .int .i64 (n1 : Int), .int .i64 (n2 : Int), .int .i64 (n3 : Int)] 24)).drew)
      case first =>
        obtain ⟨q0, q1, q2, q3⟩ := row4 H4'.out
        have m0 := World.new_ne wr ⟨w.heap.size + 1, 0, none⟩ q0
        have m1 := World.new_ne wr ⟨w.heap.size + 1, 1, none⟩ q1
        have m2 := World.new_ne wr ⟨w.heap.size + 1, 2, none⟩ q2
        have m3 := World.new_ne wr ⟨w.heap.size + 1, 3, none⟩ q3
        go_region_held3 (fun w' => w'.cell? ⟨w.heap.size + 1, 0, none⟩ = some (.int .i64 ((n0 : Int) - 1)) ∧ w'.cell? ⟨w.heap.size + 1, 1, none⟩ = some (.int .i64 (n1 : Int)) ∧ w'.cell? ⟨w.heap.size + 1, 2, none⟩ = some (.int .i64 (n2 : Int)) ∧ w'.cell? ⟨w.heap.size + 1, 3, none⟩ = some (.int .i64 (n3 : Int)))
          (first | go_keep)
          (first | (go_at_call 35; refine (C8.out _).mono ?_; rintro e w' ⟨rfl, rfl⟩))
        all_goals (go_wp2_with fail; go_meet; exact ⟨rfl, rfl⟩)
      case rest =>
        obtain ⟨rfl, rfl⟩ := hcut
        have HR : Hid (rd t = ⟨ep, (t[8].toNat : Int), (n0 : Int) - 1, n1, n2, n3⟩) := by rw [Hid, HRD.out, HH.out]
        have bA := (Below.refl wr.heap.size wr).alloc (Nat.le_refl _) (.cells #[.int .u64 (ep : Int), .int .i64 (t[8].toNat : Int), .int .i64 ((n0 : Int) - 1), .int .i64 (n1 : Int), .int .i64 (n2 : Int), .int .i64 (n3 : Int)] 24)
        have bW : Below wr.heap.size wr (wr.alloc (.cells #[.int .u64 (ep : Int), .int .i64 (t[8].toNat : Int), .int .i64 ((n0 : Int) - 1), .int .i64 (n1 : Int), .int .i64 (n2 : Int), .int .i64 (n3 : Int)] 24)).drew := ⟨bA.os, bA.tape, bA.output, bA.size, bA.block⟩
        have K7 : Hid ((wr.alloc (.cells #[.int .u64 (ep : Int), .int .i64 (t[8].toNat : Int), .int .i64 ((n0 : Int) - 1), .int .i64 (n1 : Int), .int .i64 (n2 : Int), .int .i64 (n3 : Int)] 24)).drew.heap[wr.heap.size]? = some (.cells #[.int .u64 (ep : Int), .int .i64 (t[8].toNat : Int), .int .i64 ((n0 : Int) - 1), .int .i64 (n1 : Int), .int .i64 (n2 : Int), .int .i64 (n3 : Int)] 24)) := heap_last wr _ _ rfl
        have G2 := Lib.hid (blk_below H2.out bW (blk_lt H2.out))
        have BW := Lib.hid (BB.out.trans (bW.mono BB.out.size))
        have hne : w.heap.size ≠ wr.heap.size := by have := blk_lt H2.out; omega
        clear bA bW H2 H4' BB HRD HH l0 l1 l2 l3 v8 HV8 C0 C1 C2 C3 C8
        generalize (wr.alloc (.cells #[.int .u64 (ep : Int), .int .i64 (t[8].toNat : Int), .int .i64 ((n0 : Int) - 1), .int .i64 (n1 : Int), .int .i64 (n2 : Int), .int .i64 (n3 : Int)] 24)).drew = W at *
        generalize wr.heap.size = g7 at *
        generalize t[8].toNat = hf at *
        have LW := Lib.hid (HL.out.below BW.out hs0)
        have hsW := BW.out.size
        have cm := mayBe_any ⟨ep, (hf : Int), (n0 : Int) - 1, n1, n2, n3⟩ W LW.out
        dsimp only [rv] at cm
        have CM := Lib.hid cm
        clear cm
        obtain ⟨k0, k1, k2, k3, k4, k5, _⟩ := row6 K7.out
        obtain ⟨z0, z1, z2, z3, z4, z5, y0, y1, y2, y3, y4, y5⟩ := row6 G2.out
        by_cases he : ep = 0
        · have hb : ((ep : Int) == 0) = true := by simp [he]
          have HP : Hid (parse t = none) := parse_none (fun h => h.1 (by rw [HR.out]; exact he))
          clear he
          go_wp2_with fail
          (try simp only [Exit.inBlock, Exit.then])
          refine bodyPost_ret (results_cells_tmp rfl _ _ w.heap.size [.int .u64 0, .int .i64 0, .int .i64 0, .int .i64 0, .int .i64 0, .int .i64 0] _ rfl ?_ Tryd.underlying24 rinfo) rfl ?_
          · refine six ?_ ?_ ?_ ?_ ?_ ?_ <;> go_simp
          · refine ⟨by rw [HP.out]; rfl, ?_⟩
            repeat (refine Below.setCell ?_ (by simp) _)
            exact BW.out
        · have hb : ((ep : Int) == 0) = false := by simp [he]
          by_cases hm : may ⟨ep, (hf : Int), (n0 : Int) - 1, n1, n2, n3⟩
          · rw [decide_eq_true hm] at CM
            have HT0 := Lib.hid (fun W' (hl' : Lst W') => text_any ⟨ep, (hf : Int), (n0 : Int) - 1, n1, n2, n3⟩ W' hl' hm HEP.out)
            have HTS : Hid ((txt ⟨ep, (hf : Int), (n0 : Int) - 1, n1, n2, n3⟩).size = 256) := txt_size _
            by_cases hx : txt ⟨ep, (hf : Int), (n0 : Int) - 1, n1, n2, n3⟩ = t
            · have HP : Hid (parse t = some ⟨ep, (hf : Int), (n0 : Int) - 1, n1, n2, n3⟩) := by
                rw [Hid, parse_good (by unfold good; rw [HR.out]; exact ⟨he, hm, hx⟩), HR.out]
              rw [hx] at HT0
              clear he hm hx HTS
              go_wp2_with (first
                | (go_at_call 22; ((with_reducible refine CM.out.mono ?_); rintro e w5 ⟨rfl, hb5⟩; have B5 := Lib.hid (BW.out.trans (hb5.mono hsW)); have K5 := Lib.hid (blk_below K7.out hb5 (blk_lt K7.out)); have G5 := Lib.hid (blk_below G2.out hb5 (blk_lt G2.out)); obtain ⟨a0, a1, a2, a3, a4, a5, _⟩ := row6 K5.out; have ct := HT0.out w5 (LW.out.below hb5 (by omega)); dsimp only [rv] at ct; have CT := Lib.hid ct; clear hb5 ct))
                | (go_at_call 27; ((with_reducible refine CT.out.mono ?_); rintro e w6 ⟨rfl, hb6⟩; have B6 := Lib.hid (B5.out.trans (hb6.mono B5.out.size)); obtain ⟨c0, c1, c2, c3, c4, c5, _⟩ := row6 (blk_below K5.out hb6 (blk_lt K5.out)); obtain ⟨d0, d1, d2, d3, d4, d5, f0, f1, f2, f3, f4, f5⟩ := row6 (blk_below G5.out hb6 (blk_lt G5.out)); clear hb6)))
              (try simp only [Exit.inBlock, Exit.then])
              refine bodyPost_ret (results_cells_tmp rfl _ _ w.heap.size [.int .u64 (ep : Int), .int .i64 (hf : Int), .int .i64 ((n0 : Int) - 1), .int .i64 (n1 : Int), .int .i64 (n2 : Int), .int .i64 (n3 : Int)] _ rfl ?_ Tryd.underlying24 rinfo) rfl ?_
              · refine six ?_ ?_ ?_ ?_ ?_ ?_ <;> go_simp
              · refine ⟨by rw [HP.out]; rfl, ?_⟩
                repeat (refine Below.setCell ?_ (by simp) _)
                exact B6.out
            · have HP : Hid (parse t = none) := parse_none (fun h => hx (by have := h.2.2; rw [HR.out] at this; exact this))
              have hne2 := ne_toList hx
              generalize txt ⟨ep, (hf : Int), (n0 : Int) - 1, n1, n2, n3⟩ = T at *
              have hts := HTS.out
              clear he hm hx HTS
              go_wp2_with (first
                | (go_at_call 22; ((with_reducible refine CM.out.mono ?_); rintro e w5 ⟨rfl, hb5⟩; have B5 := Lib.hid (BW.out.trans (hb5.mono hsW)); have K5 := Lib.hid (blk_below K7.out hb5 (blk_lt K7.out)); have G5 := Lib.hid (blk_below G2.out hb5 (blk_lt G2.out)); obtain ⟨a0, a1, a2, a3, a4, a5, _⟩ := row6 K5.out; have ct := HT0.out w5 (LW.out.below hb5 (by omega)); dsimp only [rv] at ct; have CT := Lib.hid ct; clear hb5 ct))
                | (go_at_call 27; ((with_reducible refine CT.out.mono ?_); rintro e w6 ⟨rfl, hb6⟩; have B6 := Lib.hid (B5.out.trans (hb6.mono B5.out.size)); obtain ⟨c0, c1, c2, c3, c4, c5, _⟩ := row6 (blk_below K5.out hb6 (blk_lt K5.out)); obtain ⟨d0, d1, d2, d3, d4, d5, f0, f1, f2, f3, f4, f5⟩ := row6 (blk_below G5.out hb6 (blk_lt G5.out)); clear hb6)))
              (try simp only [Exit.inBlock, Exit.then])
              refine bodyPost_ret (results_cells_tmp rfl _ _ w.heap.size [.int .u64 0, .int .i64 0, .int .i64 0, .int .i64 0, .int .i64 0, .int .i64 0] _ rfl ?_ Tryd.underlying24 rinfo) rfl ?_
              · refine six ?_ ?_ ?_ ?_ ?_ ?_ <;> go_simp
              · refine ⟨by rw [HP.out]; rfl, ?_⟩
                repeat (refine Below.setCell ?_ (by simp) _)
                exact B6.out
          · rw [decide_eq_false hm] at CM
            have HP : Hid (parse t = none) := parse_none (fun h => hm (by have := h.2.1; rw [HR.out] at this; exact this))
            clear he hm
            go_wp2_with (go_at_call 22; ((with_reducible refine CM.out.mono ?_); rintro e w5 ⟨rfl, hb5⟩; have B5 := Lib.hid (BW.out.trans (hb5.mono hsW)); obtain ⟨d0, d1, d2, d3, d4, d5, f0, f1, f2, f3, f4, f5⟩ := row6 (blk_below G2.out hb5 (blk_lt G2.out)); clear hb5))
            (try simp only [Exit.inBlock, Exit.then])
            refine bodyPost_ret (results_cells_tmp rfl _ _ w.heap.size [.int .u64 0, .int .i64 0, .int .i64 0, .int .i64 0, .int .i64 0, .int .i64 0] _ rfl ?_ Tryd.underlying24 rinfo) rfl ?_
            · refine six ?_ ?_ ?_ ?_ ?_ ?_ <;> go_simp
            · refine ⟨by rw [HP.out]; rfl, ?_⟩
              repeat (refine Below.setCell ?_ (by simp) _)
              exact B5.out
end Rt
end Go.Proofs.YtojbanknbgihgaaDoor
