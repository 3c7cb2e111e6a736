/-
  The program's disk: Clone.
-/
import Derived.Test.YtojbanknbgihgaaDiskLo
namespace Go.Proofs.Ytojbanknbgihgaa
open Go.RowKit
namespace Dsk
open B

theorem lo_below {w w' : World} {bm n : Nat} {M : DataW Unit} (h : w.ownsMap Try.prog 3 elem bm n M) (hb : Below w.heap.size w w') : w'.ownsMap Try.prog 3 elem bm n M := by
  have hl := h.lt
  obtain ⟨es, clock, hh, r⟩ := h
  exact ⟨es, clock, (hb.block _ hl).trans hh, r⟩

set_option maxRecDepth 100000 in
set_option maxHeartbeats 2000000 in
theorem clone_any (b : Bl) (d : D) (w : World) (h : DAt w b d) (hi : Inv d) :
    Calls Try.prog 17 #[.pointer (some ⟨b.g, 0, none⟩)] w fun e w' => ∃ b' : Bl, e = .returned (.pointer (some ⟨b'.g, 0, none⟩)) ∧ DAt w' b' d ∧ (w.heap.size ≤ b'.g ∧ w.heap.size ≤ b'.bs ∧ w.heap.size ≤ b'.bm) ∧ Below w.heap.size w w' := by
  obtain ⟨c, left, hr, hleft⟩ := h.row
  obtain ⟨⟨c0, c1, c2, c3, c4⟩, f0, f1, f2, f3, f4⟩ := row5 hr
  obtain ⟨M, hown, hhas, hat⟩ := h.lo
  obtain ⟨l1, l2, l3⟩ := h.lts
  have hbig := hi.big
  have hpos := hi.pos
  have HR := Lib.hid hr
  have HL := Lib.hid hleft
  have HW := Lib.hid hown
  have HH := Lib.hid hhas
  have HA := Lib.hid hat
  have HD := Lib.hid h
  clear hr hleft hown hhas hat h
  have CC := Lib.hid (fun o : Obj => Try.slices_Clone_string b.bs 0 d.now.length c d.now (w.alloc o) (Nat.le_refl _) (by omega) (fun j hj => by rw [Nat.zero_add]; exact sec_cell (HD.out.below ((Below.refl _ _).alloc (Nat.le_refl _) _)) hj))
  go_enter Try.func17, Try.ntmps17
  go_wp2_with (go_at_call 30; ((with_reducible refine (CC.out _).mono ?_); rintro e w2 ⟨v, rfl, hrow, hnn, hb⟩; rw [List.take_length] at hrow; obtain ⟨A, cc, hv, hA, _⟩ := own_at (V := vStr) (l := d.now) hrow; subst hv; have HAT := Lib.hid hA; clear hA; have HV := Lib.hid hrow; have HN := Lib.hid hnn; have HB := Lib.hid hb; have HP := Lib.hid (blk_below (heap_last w _ w.heap.size rfl) hb (by simp)); obtain ⟨⟨p0, p1, p2, p3, p4⟩, q0, q1, q2, q3, q4⟩ := row5 HP.out; obtain ⟨⟨u0, u1, u2, u3, u4⟩, _⟩ := row5 (blk_below (hp_old _ HR.out) hb (by simp; omega)); have CM := Lib.hid (Try.mclone_any elem b.bm _ M (w2.setCell ⟨w.heap.size, 0, none⟩ (.slice A d.now.length cc)) ((lo_below (HW.out.alloc _) hb).setCell (by simp; omega) _)); clear hrow hnn hb))
  go_wp2_with (go_at_call 31; ((with_reducible refine CM.out.mono ?_); rintro e w3 ⟨rfl, hm1, hm2, hb3⟩; have HM1 := Lib.hid hm1; have HB3 := Lib.hid hb3; have HP3 := Lib.hid (blk_below (blk_set (cs := [_, _, _, _, _]) HP.out 0 (.slice A d.now.length cc)) hb3 (by have := HB.out.size; simp at this ⊢; omega)); obtain ⟨⟨x0, x1, x2, x3, x4⟩, y0, y1, y2, y3, y4⟩ := row5 HP3.out; clear hm1 hm2 hb3))
  go_ret
  obtain ⟨bb, off, hAe, hbl, hcells⟩ := HAT.out (by omega)
  obtain ⟨hz, hfr⟩ : off = 0 ∧ ∀ i, w2.frozen? ⟨bb, i, none⟩ = false := by
    rcases HV.out.2 with ⟨hv, _⟩ | ⟨g, cap, cur, hv, _, hg, _⟩
    · rw [hAe] at hv; cases hv
    · rw [hAe] at hv; injection hv with hv; injection hv with hv; injection hv with hv1 hv2
      subst hv1
      exact ⟨hv2, fun i => by unfold World.frozen?; rw [hg]; simp⟩
  subst hz hAe
  have hbb := (HV.out.lt bb rfl)
  have s2 := HB.out.size
  have s3 := HB3.out.size
  simp only [World.size_alloc, World.size_setCell] at s2 s3 hbb
  have e3 : ∀ g, g < w2.heap.size → g ≠ w.heap.size → (w3.setCell ⟨w.heap.size, 1, none⟩ (.map (some w2.heap.size))).heap[g]? = w2.heap[g]? := fun g hg hne => by
    rw [Below.heap_setCell _ _ _ _ hne, HB3.out.block g (by simpa using hg), Below.heap_setCell _ _ _ _ hne]
  refine ⟨⟨w.heap.size, bb, w2.heap.size⟩, rfl, ⟨⟨cc, left, ?_, HL.out⟩, ?_, ?_, ?_, ?_, ?_, ?_, ?_⟩, ⟨by simp, by simp; omega, by simp; omega⟩, ?_⟩
  · have := blk_set (cs := [_, _, _, _, _]) HP3.out 1 (.map (some w2.heap.size))
    simpa using this
  · intro _
    refine ⟨bb, 0, rfl, by simp; omega, fun i hi => ?_⟩
    rw [World.cell?_of_block (w := w2) (by exact e3 bb (by omega) (by omega))]; exact hcells i hi
  · intro i
    rw [World.frozen?_of_block (w := w2) (by exact e3 bb (by omega) (by omega))]; exact hfr i
  · simp; omega
  · have hm := HM1.out
    simp only [World.size_setCell] at hm
    have hl := hm.lt
    obtain ⟨es, clock, hh, r⟩ := hm
    exact ⟨M, ⟨es, clock, (Below.heap_setCell _ _ _ _ (by simp; omega)).trans hh, r⟩, HH.out, HA.out⟩
  · show w.heap.size ≠ bb; omega
  · show w.heap.size ≠ w2.heap.size; omega
  · show bb ≠ w2.heap.size; omega
  · have b1 : Below w.heap.size w w2 := ((Below.refl _ _).alloc (Nat.le_refl _) _).trans (HB.out.mono (by simp))
    have b2 := b1.setCell (p := ⟨w.heap.size, 0, none⟩) (Nat.le_refl _) (.slice (some ⟨bb, 0, none⟩) d.now.length cc)
    exact (b2.trans (HB3.out.mono (by simp; omega))).setCell (p := ⟨w.heap.size, 1, none⟩) (Nat.le_refl _) _
end Dsk
end Go.Proofs.Ytojbanknbgihgaa
