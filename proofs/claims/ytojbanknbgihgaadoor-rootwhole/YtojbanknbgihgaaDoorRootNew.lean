/-
  What newest, spare and lastEpoch do (package root).
-/
import Derived.Test.YtojbanknbgihgaaDoorRootParse
namespace Go.Proofs.YtojbanknbgihgaaDoor
open Go.RowKit
namespace Rt
open B Dsk

theorem zeroRoot_get (o : Option R) : rv (o.getD R0) = .agg #[.int .u64 ((o.getD R0).ep : Int), .int .i64 (o.getD R0).half, .int .i64 (o.getD R0).page, .int .i64 (o.getD R0).next, .int .i64 (o.getD R0).count, .int .i64 (o.getD R0).height] := rfl
theorem drewN_below {B : Nat} {w0 w : World} (h : Below B w0 w) : Below B w0 w.drew := ⟨h.os, h.tape, h.output, h.size, h.block⟩

set_option maxRecDepth 100000 in
set_option maxHeartbeats 2000000 in
theorem lastEpoch_any (a b : ByteArray) (w : World) (ha : a.size = 256) (hb : b.size = 256) :
    Calls Tryd.prog 23 #[.agg #[.string a, .string b]] w fun e w' => e = .returned (.int .u64 (lastE a b : Int)) ∧ Below w.heap.size w w' := by
  go_enter Tryd.func23, Tryd.ntmps23
  go_wp2_with fail
  have B0 := Lib.hid ((Below.refl w.heap.size w).alloc (Nat.le_refl _) (.cells #[.string a, .string b] 59))
  have Ca0 := Lib.hid (fun W => number_part a 0 8 W ha (by omega))
  have Ca1 := Lib.hid (fun W => number_part a 29 37 W ha (by omega))
  have Cb0 := Lib.hid (fun W => number_part b 0 8 W hb (by omega))
  have Cb1 := Lib.hid (fun W => number_part b 29 37 W hb (by omega))
  have HE : Hid (lastE a b = lastOf (lastOf 0 a) b) := rfl
  have HA : Hid (∀ x, lastOf x a = max (max x (num (part a 0 8))) (num (part a 29 8))) := fun _ => rfl
  have HB : Hid (∀ x, lastOf x b = max (max x (num (part b 0 8))) (num (part b 29 8))) := fun _ => rfl
  simp only [Nat.reduceSub] at Ca0 Ca1 Cb0 Cb1
  generalize num (part a 0 8) = a0 at *
  generalize num (part a 29 8) = a1 at *
  generalize num (part b 0 8) = b0 at *
  generalize num (part b 29 8) = b1 at *
  go_loopw [3, 7] (fun t3 t7 wr => ∃ (k x : Nat), k ≤ 2 ∧ t7 = .int .i64 (k : Int) ∧ t3 = .int .u64 (x : Int) ∧ x = (if k = 0 then 0 else if k = 1 then lastOf 0 a else lastE a b) ∧ Below w.heap.size w wr) (fun _ t7 _ => 2 - (intOf t7).toNat)
  case atStart => exact ⟨0, 0, Nat.zero_le _, rfl, rfl, rfl, B0.out⟩
  case round =>
    obtain ⟨k, x, hk, rfl, rfl, hx, hbel⟩ := hrel
    have BQ := Lib.hid (drewN_below hbel)
    have BB := Lib.hid hbel
    have HX := Lib.hid hx
    clear hbel hx B0
    obtain ⟨x0, x1⟩ := idx2 (.string a) (.string b) wr
    rcases (show k = 0 ∨ k = 1 ∨ k = 2 by omega) with rfl | rfl | rfl
    · go_wp2_with fail
      refine wp_region_still_tail 8 (by kernel_rfl) (by kernel_rfl) ?_
      change wpStill Tryd.prog _ wr.drew (fun a' => wpList Tryd.prog _ _ _ a' wr.drew) _ _
      simp only [List.take_succ_cons, List.take_zero, List.drop_succ_cons, List.drop_zero]
      repeat still_step
      still_call (Ca0.out _)
      repeat still_step
      still_call (Ca1.out _)
      repeat still_step
      refine wpStill_nil ?_
      generalize wr.drew = wd at *
      go_wp2_with fail
      go_roundw
      case rel =>
        refine ⟨1, lastOf x a, by omega, rfl, ?_, ?_, BQ.out⟩
        · rw [HA.out]; congr 1; omega
        · rw [HX.out]; rfl
      case measure => simp [intOf]
    · go_wp2_with fail
      refine wp_region_still_tail 8 (by kernel_rfl) (by kernel_rfl) ?_
      change wpStill Tryd.prog _ wr.drew (fun a' => wpList Tryd.prog _ _ _ a' wr.drew) _ _
      simp only [List.take_succ_cons, List.take_zero, List.drop_succ_cons, List.drop_zero]
      repeat still_step
      still_call (Cb0.out _)
      repeat still_step
      still_call (Cb1.out _)
      repeat still_step
      refine wpStill_nil ?_
      generalize wr.drew = wd at *
      go_wp2_with fail
      go_roundw
      case rel =>
        refine ⟨2, lastOf x b, by omega, rfl, ?_, ?_, BQ.out⟩
        · rw [HB.out]; congr 1; omega
        · rw [HX.out]; rfl
      case measure => simp [intOf]
    · have e : x = lastE a b := HX.out
      go_wp2_with fail
      go_ret
      exact ⟨B.ret_int (by rw [e]), BB.out⟩

theorem set6 {w : World} {g : Nat} {a0 a1 a2 a3 a4 a5 : Value} {t : TypeId} (b0 b1 b2 b3 b4 b5 : Value) (h : w.heap[g]? = some (.cells #[a0, a1, a2, a3, a4, a5] t)) :
    ((((((w.setCell ⟨g, 0, none⟩ b0).setCell ⟨g, 1, none⟩ b1).setCell ⟨g, 2, none⟩ b2).setCell ⟨g, 3, none⟩ b3).setCell ⟨g, 4, none⟩ b4).setCell ⟨g, 5, none⟩ b5).heap[g]? = some (.cells #[b0, b1, b2, b3, b4, b5] t) := by
  have h0 := blk_set (cs := [_, _, _, _, _, _]) h 0 b0
  have h1 := blk_set (cs := [_, _, _, _, _, _]) h0 1 b1
  have h2 := blk_set (cs := [_, _, _, _, _, _]) h1 2 b2
  have h3 := blk_set (cs := [_, _, _, _, _, _]) h2 3 b3
  have h4 := blk_set (cs := [_, _, _, _, _, _]) h3 4 b4
  exact blk_set (cs := [_, _, _, _, _, _]) h4 5 b5
theorem oth6 {w : World} {g g' : Nat} {o : Obj} (b0 b1 b2 b3 b4 b5 : Value) (h : w.heap[g']? = some o) (hne : g' ≠ g) :
    ((((((w.setCell ⟨g, 0, none⟩ b0).setCell ⟨g, 1, none⟩ b1).setCell ⟨g, 2, none⟩ b2).setCell ⟨g, 3, none⟩ b3).setCell ⟨g, 4, none⟩ b4).setCell ⟨g, 5, none⟩ b5).heap[g']? = some o :=
  blk_other (blk_other (blk_other (blk_other (blk_other (blk_other h hne _) hne _) hne _) hne _) hne _) hne _
theorem bel6 {w0 w : World} {B g : Nat} (b0 b1 b2 b3 b4 b5 : Value) (h : Below B w0 w) (hg : B ≤ g) :
    Below B w0 ((((((w.setCell ⟨g, 0, none⟩ b0).setCell ⟨g, 1, none⟩ b1).setCell ⟨g, 2, none⟩ b2).setCell ⟨g, 3, none⟩ b3).setCell ⟨g, 4, none⟩ b4).setCell ⟨g, 5, none⟩ b5) :=
  (((((h.setCell (p := ⟨g, 0, none⟩) hg _).setCell (p := ⟨g, 1, none⟩) hg _).setCell (p := ⟨g, 2, none⟩) hg _).setCell (p := ⟨g, 3, none⟩) hg _).setCell (p := ⟨g, 4, none⟩) hg _).setCell (p := ⟨g, 5, none⟩) hg _

set_option maxRecDepth 100000 in
set_option maxHeartbeats 4000000 in
theorem newest_any (a b : ByteArray) (w : World) (hL : Lst w) (ha : a.size = 256) (hb : b.size = 256) :
    Calls Tryd.prog 21 #[.agg #[.string a, .string b]] w fun e w' => e = .returned (.tuple #[rv (newR a b).1, .int .i64 (newR a b).2]) ∧ Below w.heap.size w w' := by
  have HL := Lib.hid hL
  have hs0 := hL.1
  clear hL
  go_enter Tryd.func21, Tryd.ntmps21
  go_wp2_with fail
  have K2 := Lib.hid (hp_old (.cells #[.int .u64 0, .int .i64 0, .int .i64 0, .int .i64 0, .int .i64 0, .int .i64 0] 24) (heap_last (w.alloc (.cells #[.string a, .string b] 59)) (.cells #[.int .u64 0, .int .i64 0, .int .i64 0, .int .i64 0, .int .i64 0, .int .i64 0] 24) (w.heap.size + 1) (by simp)))
  have K4 := Lib.hid (heap_last ((w.alloc (.cells #[.string a, .string b] 59)).alloc (.cells #[.int .u64 0, .int .i64 0, .int .i64 0, .int .i64 0, .int .i64 0, .int .i64 0] 24)) (.cells #[.int .u64 0, .int .i64 0, .int .i64 0, .int .i64 0, .int .i64 0, .int .i64 0] 24) (w.heap.size + 2) (by simp))
  have B0 := Lib.hid ((((Below.refl w.heap.size w).alloc (Nat.le_refl _) (.cells #[.string a, .string b] 59)).alloc (by simp) (.cells #[.int .u64 0, .int .i64 0, .int .i64 0, .int .i64 0, .int .i64 0, .int .i64 0] 24)).alloc (by simp; omega) (.cells #[.int .u64 0, .int .i64 0, .int .i64 0, .int .i64 0, .int .i64 0, .int .i64 0] 24))
  go_loopw [5, 12] (fun t5 t12 wr => ∃ (k : Nat) (x : R × Int), k ≤ 2 ∧ t12 = .int .i64 (k : Int) ∧ t5 = .int .i64 x.2 ∧ x = (if k = 0 then (R0, -1) else if k = 1 then firstR a else newR a b) ∧
    wr.heap[w.heap.size + 1]? = some (.cells #[.int .u64 0, .int .i64 0, .int .i64 0, .int .i64 0, .int .i64 0, .int .i64 0] 24) ∧ wr.heap[w.heap.size + 2]? = some (.cells #[.int .u64 (x.1.ep : Int), .int .i64 x.1.half, .int .i64 x.1.page, .int .i64 x.1.next, .int .i64 x.1.count, .int .i64 x.1.height] 24) ∧ Below w.heap.size w wr) (fun _ t12 _ => 2 - (intOf t12).toNat)
  case atStart => exact ⟨0, (R0, -1), Nat.zero_le _, rfl, rfl, rfl, K2.out, K4.out, B0.out⟩
  case round =>
    obtain ⟨k, x, hk, rfl, rfl, hx, h2, h4, hbel⟩ := hrel
    have H2 := Lib.hid h2
    have H4 := Lib.hid h4
    have BB := Lib.hid hbel
    have HX := Lib.hid hx
    clear hbel hx h2 h4 B0 K2 K4
    have LW := Lib.hid (HL.out.below BB.out hs0)
    have hsz := BB.out.size
    obtain ⟨x0, x1⟩ := idx2 (.string a) (.string b) wr
    obtain ⟨r0, bi⟩ := x
    simp only at H4 ⊢
    rcases (show k = 0 ∨ k = 1 ∨ k = 2 by omega) with rfl | rfl | rfl
    · cases hp : parse a with
      | none =>
        have cp := parse_any a wr LW.out ha
        rw [hp] at cp
        dsimp only [Option.getD_none, Option.isSome_none, rv, R0] at cp
        have CP := Lib.hid cp
        have HN : Hid ((r0, bi) = firstR a) := by
          have := HX.out
          rw [Hid, this]; unfold firstR; rw [hp]; rfl
        clear cp hp HX
        go_wp2_with (go_at_call 33; ((with_reducible refine CP.out.mono ?_); rintro e w3 ⟨rfl, hb3⟩; have G2 := Lib.hid (blk_below H2.out hb3 (blk_lt H2.out)); have G4 := Lib.hid (blk_below H4.out hb3 (blk_lt H4.out)); have B3 := Lib.hid (BB.out.trans (hb3.mono hsz)); clear hb3))
        go_roundw
        case rel => exact ⟨1, (r0, bi), by omega, rfl, rfl, HN.out, hp_old _ G2.out, hp_old _ G4.out, B3.out.alloc B3.out.size _⟩
        case measure => simp [intOf]
      | some r =>
        have cp := parse_any a wr LW.out ha
        rw [hp] at cp
        dsimp only [Option.getD_some, Option.isSome_some, rv] at cp
        have CP := Lib.hid cp
        have hpp := (parse_some hp).2.1
        by_cases hlt : r0.ep < r.ep
        · have hltI : (r0.ep : Int) < (r.ep : Int) := by omega
          have HN : Hid ((r, (0 : Int)) = firstR a) := by
            have := HX.out
            unfold firstR; rw [Hid, hp]
          clear cp hp HX hpp
          obtain ⟨ep, half, page, next, count, height⟩ := r
          go_wp2_with (go_at_call 33; ((with_reducible refine CP.out.mono ?_); rintro e w3 ⟨rfl, hb3⟩; have G2 := Lib.hid (hp_old (.cells #[.int .u64 (ep : Int), .int .i64 half, .int .i64 page, .int .i64 next, .int .i64 count, .int .i64 height] 24) (blk_below H2.out hb3 (blk_lt H2.out))); have G4 := Lib.hid (hp_old (.cells #[.int .u64 (ep : Int), .int .i64 half, .int .i64 page, .int .i64 next, .int .i64 count, .int .i64 height] 24) (blk_below H4.out hb3 (blk_lt H4.out))); have B3 := Lib.hid ((BB.out.trans (hb3.mono hsz)).alloc (Nat.le_trans hsz hb3.size) (.cells #[.int .u64 (ep : Int), .int .i64 half, .int .i64 page, .int .i64 next, .int .i64 count, .int .i64 height] 24)); obtain ⟨k0, k1, k2, k3, k4, k5, f0, f1, f2, f3, f4, f5⟩ := row6 G4.out; obtain ⟨j0, j1, j2, j3, j4, j5, _⟩ := row6 (heap_last w3 (.cells #[.int .u64 (ep : Int), .int .i64 half, .int .i64 page, .int .i64 next, .int .i64 count, .int .i64 height] 24) w3.heap.size rfl); clear hb3))
          go_roundw
          case rel => exact ⟨1, (⟨ep, half, page, next, count, height⟩, 0), by omega, rfl, rfl, HN.out, oth6 _ _ _ _ _ _ G2.out (by omega), set6 _ _ _ _ _ _ G4.out, bel6 _ _ _ _ _ _ B3.out (by omega)⟩
          case measure => simp [intOf]
        · have hltI : ¬ (r0.ep : Int) < (r.ep : Int) := by omega
          have HN : Hid ((r0, bi) = firstR a) := by
            have := HX.out
            exfalso; have e0 : r0 = R0 := congrArg Prod.fst this; rw [e0] at hlt; exact hlt (Nat.pos_of_ne_zero hpp)
          clear cp hp HX hpp
          go_wp2_with (go_at_call 33; ((with_reducible refine CP.out.mono ?_); rintro e w3 ⟨rfl, hb3⟩; have G2 := Lib.hid (blk_below H2.out hb3 (blk_lt H2.out)); have G4 := Lib.hid (blk_below H4.out hb3 (blk_lt H4.out)); have B3 := Lib.hid (BB.out.trans (hb3.mono hsz)); obtain ⟨k0, k1, k2, k3, k4, k5, f0, f1, f2, f3, f4, f5⟩ := row6 (hp_old (.cells #[.int .u64 (r.ep : Int), .int .i64 r.half, .int .i64 r.page, .int .i64 r.next, .int .i64 r.count, .int .i64 r.height] 24) G4.out); clear hb3))
          go_roundw
          case rel => exact ⟨1, (r0, bi), by omega, rfl, rfl, HN.out, hp_old _ G2.out, hp_old _ G4.out, B3.out.alloc B3.out.size _⟩
          case measure => simp [intOf]
    · cases hp : parse b with
      | none =>
        have cp := parse_any b wr LW.out hb
        rw [hp] at cp
        dsimp only [Option.getD_none, Option.isSome_none, rv, R0] at cp
        have CP := Lib.hid cp
        have HN : Hid ((r0, bi) = newR a b) := by
          have := HX.out
          rw [Hid, this]; unfold newR; rw [hp]; rfl
        clear cp hp HX
        go_wp2_with (go_at_call 33; ((with_reducible refine CP.out.mono ?_); rintro e w3 ⟨rfl, hb3⟩; have G2 := Lib.hid (blk_below H2.out hb3 (blk_lt H2.out)); have G4 := Lib.hid (blk_below H4.out hb3 (blk_lt H4.out)); have B3 := Lib.hid (BB.out.trans (hb3.mono hsz)); clear hb3))
        go_roundw
        case rel => exact ⟨2, (r0, bi), by omega, rfl, rfl, HN.out, hp_old _ G2.out, hp_old _ G4.out, B3.out.alloc B3.out.size _⟩
        case measure => simp [intOf]
      | some r =>
        have cp := parse_any b wr LW.out hb
        rw [hp] at cp
        dsimp only [Option.getD_some, Option.isSome_some, rv] at cp
        have CP := Lib.hid cp
        have hpp := (parse_some hp).2.1
        by_cases hlt : r0.ep < r.ep
        · have hltI : (r0.ep : Int) < (r.ep : Int) := by omega
          have HN : Hid ((r, (1 : Int)) = newR a b) := by
            have := HX.out
            have e : firstR a = (r0, bi) := this.symm; unfold newR; rw [Hid, hp]; simp only [e]; rw [if_pos hlt]
          clear cp hp HX hpp
          obtain ⟨ep, half, page, next, count, height⟩ := r
          go_wp2_with (go_at_call 33; ((with_reducible refine CP.out.mono ?_); rintro e w3 ⟨rfl, hb3⟩; have G2 := Lib.hid (hp_old (.cells #[.int .u64 (ep : Int), .int .i64 half, .int .i64 page, .int .i64 next, .int .i64 count, .int .i64 height] 24) (blk_below H2.out hb3 (blk_lt H2.out))); have G4 := Lib.hid (hp_old (.cells #[.int .u64 (ep : Int), .int .i64 half, .int .i64 page, .int .i64 next, .int .i64 count, .int .i64 height] 24) (blk_below H4.out hb3 (blk_lt H4.out))); have B3 := Lib.hid ((BB.out.trans (hb3.mono hsz)).alloc (Nat.le_trans hsz hb3.size) (.cells #[.int .u64 (ep : Int), .int .i64 half, .int .i64 page, .int .i64 next, .int .i64 count, .int .i64 height] 24)); obtain ⟨k0, k1, k2, k3, k4, k5, f0, f1, f2, f3, f4, f5⟩ := row6 G4.out; obtain ⟨j0, j1, j2, j3, j4, j5, _⟩ := row6 (heap_last w3 (.cells #[.int .u64 (ep : Int), .int .i64 half, .int .i64 page, .int .i64 next, .int .i64 count, .int .i64 height] 24) w3.heap.size rfl); clear hb3))
          go_roundw
          case rel => exact ⟨2, (⟨ep, half, page, next, count, height⟩, 1), by omega, rfl, rfl, HN.out, oth6 _ _ _ _ _ _ G2.out (by omega), set6 _ _ _ _ _ _ G4.out, bel6 _ _ _ _ _ _ B3.out (by omega)⟩
          case measure => simp [intOf]
        · have hltI : ¬ (r0.ep : Int) < (r.ep : Int) := by omega
          have HN : Hid ((r0, bi) = newR a b) := by
            have := HX.out
            have e : firstR a = (r0, bi) := this.symm; unfold newR; rw [Hid, hp]; simp only [e]; rw [if_neg hlt]
          clear cp hp HX hpp
          go_wp2_with (go_at_call 33; ((with_reducible refine CP.out.mono ?_); rintro e w3 ⟨rfl, hb3⟩; have G2 := Lib.hid (blk_below H2.out hb3 (blk_lt H2.out)); have G4 := Lib.hid (blk_below H4.out hb3 (blk_lt H4.out)); have B3 := Lib.hid (BB.out.trans (hb3.mono hsz)); obtain ⟨k0, k1, k2, k3, k4, k5, f0, f1, f2, f3, f4, f5⟩ := row6 (hp_old (.cells #[.int .u64 (r.ep : Int), .int .i64 r.half, .int .i64 r.page, .int .i64 r.next, .int .i64 r.count, .int .i64 r.height] 24) G4.out); clear hb3))
          go_roundw
          case rel => exact ⟨2, (r0, bi), by omega, rfl, rfl, HN.out, hp_old _ G2.out, hp_old _ G4.out, B3.out.alloc B3.out.size _⟩
          case measure => simp [intOf]
    · have HN : Hid ((r0, bi) = newR a b) := HX.out
      obtain ⟨k0, k1, k2, k3, k4, k5, _⟩ := row6 H4.out
      obtain ⟨z0, z1, z2, z3, z4, z5, f0, f1, f2, f3, f4, f5⟩ := row6 H2.out
      go_wp2_with fail
      (try simp only [Exit.inBlock, Exit.then])
      refine bodyPost_ret (results_cells_tmp rfl _ _ (w.heap.size + 1) [.int .u64 (r0.ep : Int), .int .i64 r0.half, .int .i64 r0.page, .int .i64 r0.next, .int .i64 r0.count, .int .i64 r0.height] _ rfl ?_ Tryd.underlying24 rinfo) rfl ?_
      · refine six ?_ ?_ ?_ ?_ ?_ ?_ <;> go_simp
      · refine ⟨by rw [← HN.out]; rfl, ?_⟩
        repeat (refine Below.setCell ?_ (by simp) _)
        exact BB.out
end Rt
end Go.Proofs.YtojbanknbgihgaaDoor
