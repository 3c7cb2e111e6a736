/-
  What Publish does (package root): the closure that writes a slot.
-/
import Derived.Test.YtojbanknbgihgaaDoorRootOp
namespace Go.Proofs.YtojbanknbgihgaaDoor
open Go.RowKit
namespace Rt
open B Dsk

theorem tch_cell {l : List Nat} {w w' : World} {g i : Nat} {v : Value} (h : w.cell? ⟨g, i, none⟩ = some v) (ht : Tch l w w') (hl : g < w.heap.size) (hn : g ∉ l) : w'.cell? ⟨g, i, none⟩ = some v := by
  rw [World.cell?_of_block (w := w) (by exact ht.block g hl hn)]; exact h
theorem tch_lst {l : List Nat} {w w' : World} (h : Lst w) (ht : Tch l w w') (hn : 0 ∉ l) : Lst w' :=
  ⟨Nat.lt_of_lt_of_le h.1 ht.size, tch_cell h.2.1 ht h.1 hn, tch_cell h.2.2.1 ht h.1 hn, tch_cell h.2.2.2.1 ht h.1 hn, tch_cell h.2.2.2.2 ht h.1 hn⟩

set_option maxRecDepth 100000 in
set_option maxHeartbeats 4000000 in
theorem pub1_any (b : Bl) (d : D) (gA gS gT gB : Nat) (dst : Int) (r : R) (w : World) (hD : DAt w b d) (hi : Inv d) (hw : d.writes < 1000000) (hA : w.heap[gA]? = some (.cells #[.pointer (some ⟨gS, 0, none⟩)] 28)) (hS : SAt w gS b)
    (hT : w.heap[gT]? = some (.cells #[.int .i64 dst] 3)) (hB : w.heap[gB]? = some (.cells #[.int .u64 (r.ep : Int), .int .i64 r.half, .int .i64 r.page, .int .i64 r.next, .int .i64 r.count, .int .i64 r.height] 24))
    (nA : gA ∉ b.l) (nS : gS ∉ b.l) (nT : gT ∉ b.l) (nB : gB ∉ b.l) (hL : Lst w) (hm : may r) (he : r.ep < 18446744073709551616) :
    Calls Tryd.prog 26 #[.pointer (some ⟨gA, 0, none⟩), .pointer (some ⟨gT, 0, none⟩), .pointer (some ⟨gB, 0, none⟩)] w fun e w' => e = .returned (.int .i64 (write d dst (txt r)).2) ∧ DAt w' b (write d dst (txt r)).1 ∧ Tch b.l w w' := by
  have ct := text_any r w.drew (show Lst w.drew from hL) hm he
  dsimp only [rv] at ct
  have CT := Lib.hid ct
  have CW := Lib.hid (fun W (hw' : DAt W b d) => write_any b d dst (txt r) W hw' hi hw)
  have HD := Lib.hid hD
  have HL := Lib.hid hL
  have a0 : w.cell? ⟨gA, 0, none⟩ = some (.pointer (some ⟨gS, 0, none⟩)) := row_cell (cs := [_]) hA 0
  have s0 := hS.cell
  have t0 : w.cell? ⟨gT, 0, none⟩ = some (.int .i64 dst) := row_cell (cs := [_]) hT 0
  obtain ⟨k0, k1, k2, k3, k4, k5, _⟩ := row6 hB
  have lA := blk_lt hA
  have lS := blk_lt hS
  have lT := blk_lt hT
  have lB := blk_lt hB
  obtain ⟨ep, half, page, next, count, height⟩ := r
  simp only at *
  clear ct hD hi hL hA hS hT hB hm he
  go_enter Tryd.func26, Tryd.ntmps26
  go_upto_region 1 with fail
  go_region_held3 (fun w' => w'.cell? ⟨gA, 0, none⟩ = some (.pointer (some ⟨gS, 0, none⟩)) ∧ w'.cell? ⟨gS, 0, none⟩ = some (.pointer (some ⟨b.g, 0, none⟩)) ∧ w'.cell? ⟨gT, 0, none⟩ = some (.int .i64 dst) ∧ w'.cell? ⟨gB, 0, none⟩ = some (.int .u64 (ep : Int)) ∧ w'.cell? ⟨gB, 1, none⟩ = some (.int .i64 half) ∧ w'.cell? ⟨gB, 2, none⟩ = some (.int .i64 page) ∧ w'.cell? ⟨gB, 3, none⟩ = some (.int .i64 next) ∧ w'.cell? ⟨gB, 4, none⟩ = some (.int .i64 count) ∧ w'.cell? ⟨gB, 5, none⟩ = some (.int .i64 height))
    (first | go_keep | exact z | exact y)
    (first
      | (go_at_call 27; (with_reducible refine CT.out.mono ?_); rintro e w' ⟨rfl, hb⟩; have hbw : Below w.heap.size w w' := ⟨hb.os, hb.tape, hb.output, hb.size, hb.block⟩; have y := And.intro ((hbw.cell (p := ⟨gA, 0, none⟩) lA).trans a0) (And.intro ((hbw.cell (p := ⟨gS, 0, none⟩) lS).trans s0) (And.intro ((hbw.cell (p := ⟨gT, 0, none⟩) lT).trans t0) (And.intro ((hbw.cell (p := ⟨gB, 0, none⟩) lB).trans k0) (And.intro ((hbw.cell (p := ⟨gB, 1, none⟩) lB).trans k1) (And.intro ((hbw.cell (p := ⟨gB, 2, none⟩) lB).trans k2) (And.intro ((hbw.cell (p := ⟨gB, 3, none⟩) lB).trans k3) (And.intro ((hbw.cell (p := ⟨gB, 4, none⟩) lB).trans k4) ((hbw.cell (p := ⟨gB, 5, none⟩) lB).trans k5)))))))))
      | (go_at_call 14; have cw := CW.out _ (HD.out.below hbw); (with_reducible refine cw.mono ?_); rintro e w2 ⟨rfl, hd2, ht2⟩; have z := And.intro (tch_cell y.1 ht2 (Nat.lt_of_lt_of_le lA hbw.size) nA) (And.intro (tch_cell y.2.1 ht2 (Nat.lt_of_lt_of_le lS hbw.size) nS) (And.intro (tch_cell y.2.2.1 ht2 (Nat.lt_of_lt_of_le lT hbw.size) nT) (And.intro (tch_cell y.2.2.2.1 ht2 (Nat.lt_of_lt_of_le lB hbw.size) nB) (And.intro (tch_cell y.2.2.2.2.1 ht2 (Nat.lt_of_lt_of_le lB hbw.size) nB) (And.intro (tch_cell y.2.2.2.2.2.1 ht2 (Nat.lt_of_lt_of_le lB hbw.size) nB) (And.intro (tch_cell y.2.2.2.2.2.2.1 ht2 (Nat.lt_of_lt_of_le lB hbw.size) nB) (And.intro (tch_cell y.2.2.2.2.2.2.2.1 ht2 (Nat.lt_of_lt_of_le lB hbw.size) nB) (tch_cell y.2.2.2.2.2.2.2.2 ht2 (Nat.lt_of_lt_of_le lB hbw.size) nB)))))))))
    )
  go_wp2_with fail
  go_ret
  exact ⟨rfl, hd2, (Tch.of_below hbw).trans ht2⟩
end Rt
end Go.Proofs.YtojbanknbgihgaaDoor
