/-
  Programs: may a function be?
-/
import Derived.Test.YtnhgoeoffjcooaaProMay
namespace Go.Proofs.Ytnhgoeoffjcooaa
open Go.RowKit
namespace Pm
open B
set_option linter.unusedVariables false
theorem below1 (w : World) (o : Obj) : Below w.heap.size w (w.alloc o) := (Below.refl _ _).alloc (Nat.le_refl _) _
set_option maxRecDepth 100000 in
set_option maxHeartbeats 8000000 in
theorem mayF_any (p : P) (Af : Option Addr) (cf : Nat) (Ae : Option Addr) (ce : Nat) (Ao : Option Addr) (co : Nat) (lo : Nat) (v : Value) (f : F) (w : World) (hf : IL lo w v f.ps) (hl : f.ps.length ≤ 2000000) :
    Calls Try.prog 63 #[pv p Af cf Ae ce Ao co, .agg #[v, .int .i64 f.ret]] w fun e w' => e = .returned (.bool (okF p f)) ∧ Below w.heap.size w w' := by
  obtain ⟨A, c, rfl, hA, _⟩ := hf
  have bA := below1 w (.cells #[.int .i64 p.vars, .int .i64 p.objs, .int .i64 p.fields, .slice Af p.fs.length cf, .slice Ae p.en.length ce, .slice Ao p.ops.length co] 33)
  have bB := below1 (w.alloc (.cells #[.int .i64 p.vars, .int .i64 p.objs, .int .i64 p.fields, .slice Af p.fs.length cf, .slice Ae p.en.length ce, .slice Ao p.ops.length co] 33)) (.cells #[.slice A f.ps.length c, .int .i64 f.ret] 45)
  have B0 := Lib.hid (bA.trans (bB.mono bA.size))
  have R1 := Lib.hid (hp_old (.cells #[.slice A f.ps.length c, .int .i64 f.ret] 45) (heap_last w (.cells #[.int .i64 p.vars, .int .i64 p.objs, .int .i64 p.fields, .slice Af p.fs.length cf, .slice Ae p.en.length ce, .slice Ao p.ops.length co] 33) w.heap.size rfl))
  have R2 := Lib.hid (heap_last (w.alloc (.cells #[.int .i64 p.vars, .int .i64 p.objs, .int .i64 p.fields, .slice Af p.fs.length cf, .slice Ae p.en.length ce, .slice Ao p.ops.length co] 33)) (.cells #[.slice A f.ps.length c, .int .i64 f.ret] 45) (w.heap.size + 1) (by simp))
  have HA := Lib.hid hA
  clear bA bB hA
  go_enter Try.func63, Try.ntmps63
  go_upto_region 1 with fail
  generalize (w.alloc (.cells #[.int .i64 p.vars, .int .i64 p.objs, .int .i64 p.fields, .slice Af p.fs.length cf, .slice Ae p.en.length ce, .slice Ao p.ops.length co] 33)).alloc (.cells #[.slice A f.ps.length c, .int .i64 f.ret] 45) = W at *
  have s0 := (row_cell (cs := [_, _, _, _, _, _]) R1.out 0)
  simp only [List.getElem?_cons_zero] at s0
  go_upto_region 2 with (go_at_call 47; ((with_reducible refine (below_any _ _).mono ?_); rintro e w1 ⟨rfl, hg1, hl1, hb1⟩))
  have B1 := Lib.hid (B0.out.trans (hb1.mono B0.out.size))
  have R21 := Lib.hid (blk_below R2.out hb1 (blk_lt R2.out))
  have HG := Lib.hid hg1
  have j0 := (row_cell (cs := [_, _]) R21.out 0)
  have j1 := (row_cell (cs := [_, _]) R21.out 1)
  simp only [List.getElem?_cons_zero, List.getElem?_cons_succ] at j0 j1
  have CA := Lib.hid (fun X (q : Below w1.heap.size w1 X) => vars_any p.vars W.heap.size A f.ps c X ((HA.out.below B1.out).below q) hl ((q.cell (p := ⟨W.heap.size, 0, none⟩) hl1).trans hg1))
  have CX := Lib.hid (fun X k (q : Below w1.heap.size w1 X) (hk : X.cell? ⟨k, 0, none⟩ = some (bv W.heap.size)) => orNonex_any p.vars f.ret W.heap.size k X ((q.cell (p := ⟨W.heap.size, 0, none⟩) hl1).trans hg1) hk)
  have SZ := Lib.hid (blk_lt R21.out)
  clear s0 hb1 hg1 hl1 hl
  generalize W.heap.size = g at *
  cases ha : f.ps.all (inB p.vars) with
  | false =>
    have HO : Hid (okF p f = false) := by unfold okF; rw [ha]; rfl
    rw [ha] at CA
    have r0 := fun x => Ov.Up.cell j0 SZ.out x
    have r1 := fun x => Ov.Up.cell j1 SZ.out x
    refine Ov.region (by kernel_rfl) (by kernel_rfl) (Ov.start w1) ?_
    repeat (go_big_quiet_step (first | (go_at_call 65; exact Ov.Up.call (CA.out _ (Ov.h _)))))
    refine wpQuiet_nil ?_
    rintro _ ⟨yo, rfl⟩
    go_wp2
    go_ret
    exact ⟨by rw [HO.out]; rfl, B1.out.trans (yo.h.mono B1.out.size)⟩
  | true =>
    have HO : Hid (okF p f = orN p.vars f.ret) := by unfold okF; rw [ha]; rfl
    rw [ha] at CA
    have y0 : w1.cell? ⟨w.heap.size + 1, 0, none⟩ = some (.slice A f.ps.length c) ∧ w1.cell? ⟨w.heap.size + 1, 1, none⟩ = some (.int .i64 f.ret) := ⟨j0, j1⟩
    go_region_held3 (fun w' => w'.cell? ⟨w.heap.size + 1, 0, none⟩ = some (.slice A f.ps.length c) ∧ w'.cell? ⟨w.heap.size + 1, 1, none⟩ = some (.int .i64 f.ret))
      (first | with_reducible exact y0 | with_reducible exact y1 | with_reducible exact y2 | go_keep)
      (first
       | (go_at_call 65; (with_reducible refine (CA.out _ (bdrew _)).mono ?_); rintro e w2 ⟨rfl, hb2⟩; have B2 := Lib.hid ((bdrew w1).trans hb2); have y1 : w2.cell? ⟨w.heap.size + 1, 0, none⟩ = some (.slice A f.ps.length c) ∧ w2.cell? ⟨w.heap.size + 1, 1, none⟩ = some (.int .i64 f.ret) := ⟨(B2.out.cell (p := ⟨w.heap.size + 1, 0, none⟩) SZ.out).trans j0, (B2.out.cell (p := ⟨w.heap.size + 1, 1, none⟩) SZ.out).trans j1⟩)
       | (go_at_call 91; (with_reducible refine (orNone_any _ _ _ _).mono ?_); rintro e w3 ⟨rfl, hk3, hb3⟩; have B3 := Lib.hid (B2.out.trans (hb3.mono B2.out.size)); have K3 := Lib.hid hk3; have y2 : w3.cell? ⟨w.heap.size + 1, 0, none⟩ = some (.slice A f.ps.length c) ∧ w3.cell? ⟨w.heap.size + 1, 1, none⟩ = some (.int .i64 f.ret) := ⟨(B3.out.cell (p := ⟨w.heap.size + 1, 0, none⟩) SZ.out).trans j0, (B3.out.cell (p := ⟨w.heap.size + 1, 1, none⟩) SZ.out).trans j1⟩)
       | (go_at_call 107; (with_reducible refine (CX.out _ _ B3.out K3.out).mono ?_); rintro e w4 ⟨rfl, rfl⟩))
    all_goals
      go_wp2
      go_ret
      exact ⟨by rw [HO.out]; rfl, B1.out.trans (B3.out.mono B1.out.size)⟩
end Pm
end Go.Proofs.Ytnhgoeoffjcooaa
