/-
  What Open does (package root).
-/
import Derived.Test.YtojbanknbgihgaaDoorRootOpen
import Derived.BigRegion
namespace Go.Proofs.YtojbanknbgihgaaDoor
open Go.RowKit
namespace Rt
open B Dsk

theorem results_open {fn : Func} (h : fn.results = #[.tmp 2, .cell 3 24, .tmp 4, .tmp 5]) (tmps : Array Value) (w : World) (g : Nat) (cs : Array Value)
    (hp : tmps.getD 3 undef = .pointer (some ⟨g, 0, none⟩)) (hl : (loadVar 24 ⟨g, 0, none⟩).run Tryd.prog w = .ok (.agg cs) w) : (results fn tmps).run Tryd.prog w = .ok (.tuple #[tmps.getD 2 undef, .agg cs, tmps.getD 4 undef, tmps.getD 5 undef]) w := by
  have hp' : tmps[3]?.getD undef = .pointer (some ⟨g, 0, none⟩) := by simpa using hp
  simp [results, h, hp', asAddr, hl]

set_option maxRecDepth 100000 in
set_option maxHeartbeats 4000000 in
theorem open_down (b : Bl) (d : D) (w : World) (h : DAt w b d) (hd : d.down = true) :
    Calls Tryd.prog 7 #[.pointer (some ⟨b.g, 0, none⟩)] w fun e w' => e = .returned (.tuple #[.pointer none, rv R0, .bool false, .int .i64 6]) ∧ Below w.heap.size w w' := by
  have b0 := (Below.refl w.heap.size w).alloc (Nat.le_refl _) (.cells #[.int .u64 0, .int .i64 0, .int .i64 0, .int .i64 0, .int .i64 0, .int .i64 0] 24)
  have b1 := b0.alloc (by simp) (.cells #[.pointer (some ⟨b.g, 0, none⟩)] 58)
  have K1 : Hid (SAt ((w.alloc (.cells #[.int .u64 0, .int .i64 0, .int .i64 0, .int .i64 0, .int .i64 0, .int .i64 0] 24)).alloc (.cells #[.pointer (some ⟨b.g, 0, none⟩)] 58)) (w.heap.size + 1) b) := heap_last _ _ _ (by simp)
  have K0 := Lib.hid (hp_old (.cells #[.pointer (some ⟨b.g, 0, none⟩)] 58) (heap_last w (.cells #[.int .u64 0, .int .i64 0, .int .i64 0, .int .i64 0, .int .i64 0, .int .i64 0] 24) w.heap.size rfl))
  have CR := Lib.hid (read_down b d (w.heap.size + 1) _ (h.below b1) K1.out hd)
  have B1 := Lib.hid b1
  clear b0 b1 h hd
  go_enter Tryd.func7, Tryd.ntmps7
  go_wp2_with (go_at_call 20; ((with_reducible refine CR.out.mono ?_); rintro e w2 ⟨rfl, hb2⟩; have B2 := Lib.hid (B1.out.trans (hb2.mono (by simp; omega))); have K2 := Lib.hid (hp_old (.cells #[.string ⟨#[]⟩, .string ⟨#[]⟩] 59) (blk_below K0.out hb2 (by simp; omega))); obtain ⟨z0, z1, z2, z3, z4, z5, f0, f1, f2, f3, f4, f5⟩ := row6 K2.out; clear hb2))
  (try simp only [Exit.inBlock, Exit.then])
  refine bodyPost_ret (results_open rfl _ _ w.heap.size _ rfl (ld_root (set6 _ _ _ _ _ _ K2.out) rfl)) rfl ?_
  exact ⟨rfl, bel6 _ _ _ _ _ _ (B2.out.alloc B2.out.size _) (Nat.le_refl _)⟩

set_option maxRecDepth 100000 in
set_option maxHeartbeats 4000000 in
theorem open_up (b : Bl) (d : D) (w : World) (h : DAt w b d) (hi : Inv d) (hL : Lst w) (hd : d.down = false) (hl : 2 ≤ d.now.length) :
    Calls Tryd.prog 7 #[.pointer (some ⟨b.g, 0, none⟩)] w fun e w' => ∃ gs, e = .returned (.tuple #[.pointer (some ⟨gs, 0, none⟩), rv (newR (d.now.getD 0 ⟨#[]⟩) (d.now.getD 1 ⟨#[]⟩)).1, .bool (decide (0 ≤ (newR (d.now.getD 0 ⟨#[]⟩) (d.now.getD 1 ⟨#[]⟩)).2)), .int .i64 0]) ∧ SAt w' gs b ∧ w.heap.size ≤ gs ∧ Below w.heap.size w w' := by
  have hs0 := hL.1
  have b0 := (Below.refl w.heap.size w).alloc (Nat.le_refl _) (.cells #[.int .u64 0, .int .i64 0, .int .i64 0, .int .i64 0, .int .i64 0, .int .i64 0] 24)
  have b1 := b0.alloc (by simp) (.cells #[.pointer (some ⟨b.g, 0, none⟩)] 58)
  have K1 : Hid (SAt ((w.alloc (.cells #[.int .u64 0, .int .i64 0, .int .i64 0, .int .i64 0, .int .i64 0, .int .i64 0] 24)).alloc (.cells #[.pointer (some ⟨b.g, 0, none⟩)] 58)) (w.heap.size + 1) b) := heap_last _ _ _ (by simp)
  have K0 := Lib.hid (hp_old (.cells #[.pointer (some ⟨b.g, 0, none⟩)] 58) (heap_last w (.cells #[.int .u64 0, .int .i64 0, .int .i64 0, .int .i64 0, .int .i64 0, .int .i64 0] 24) w.heap.size rfl))
  have CR := Lib.hid (read_up b d (w.heap.size + 1) _ (h.below b1) K1.out hd hl)
  have B1 := Lib.hid b1
  have HL := Lib.hid hL
  have t0 : (d.now.getD 0 ⟨#[]⟩).size = 256 := by
    rw [List.getD_eq_getElem?_getD, List.getElem?_eq_getElem (by omega)]; exact hi.full _ (List.getElem_mem _)
  have t1 : (d.now.getD 1 ⟨#[]⟩).size = 256 := by
    rw [List.getD_eq_getElem?_getD, List.getElem?_eq_getElem (by omega)]; exact hi.full _ (List.getElem_mem _)
  clear b0 b1 h hd hi hL
  generalize d.now.getD 0 ⟨#[]⟩ = s0 at *
  generalize d.now.getD 1 ⟨#[]⟩ = s1 at *
  have CN := Lib.hid (fun W hw => newest_any s0 s1 W hw t0 t1)
  generalize newR s0 s1 = nr at *
  obtain ⟨⟨ep, half, page, next, count, height⟩, ati⟩ := nr
  simp only [] at CN ⊢
  go_enter Tryd.func7, Tryd.ntmps7
  go_wp2_with (first
    | (go_at_call 20; ((with_reducible refine CR.out.mono ?_); rintro e w2 ⟨rfl, hb2⟩; have B2 := Lib.hid ((B1.out.trans (hb2.mono (by simp; omega))).alloc (by have := hb2.size; simp at this; omega) (.cells #[.string s0, .string s1] 59)); have K2 := Lib.hid (hp_old (.cells #[.string s0, .string s1] 59) (blk_below K0.out hb2 (by simp; omega))); have S2 := Lib.hid (hp_old (.cells #[.string s0, .string s1] 59) (blk_below K1.out hb2 (by simp))); have cn := CN.out _ (HL.out.below B2.out hs0); dsimp only [rv] at cn; have CN2 := Lib.hid cn; clear hb2 cn))
    | (go_at_call 21; ((with_reducible refine CN2.out.mono ?_); rintro e w3 ⟨rfl, hb3⟩; have B3 := Lib.hid ((B2.out.trans (hb3.mono B2.out.size)).alloc (Nat.le_trans B2.out.size hb3.size) (.cells #[.int .u64 (ep : Int), .int .i64 half, .int .i64 page, .int .i64 next, .int .i64 count, .int .i64 height] 24)); have K3 := Lib.hid (hp_old (.cells #[.int .u64 (ep : Int), .int .i64 half, .int .i64 page, .int .i64 next, .int .i64 count, .int .i64 height] 24) (blk_below K2.out hb3 (blk_lt K2.out))); have S3 := Lib.hid (hp_old (.cells #[.int .u64 (ep : Int), .int .i64 half, .int .i64 page, .int .i64 next, .int .i64 count, .int .i64 height] 24) (blk_below S2.out hb3 (blk_lt S2.out))); have K9 := Lib.hid (heap_last w3 (.cells #[.int .u64 (ep : Int), .int .i64 half, .int .i64 page, .int .i64 next, .int .i64 count, .int .i64 height] 24) w3.heap.size rfl); have hl9 : w.heap.size + 1 < w3.heap.size := Nat.lt_of_lt_of_le (blk_lt S2.out) hb3.size; clear hb3)))
  generalize w3.alloc (.cells #[.int .u64 (ep : Int), .int .i64 half, .int .i64 page, .int .i64 next, .int .i64 count, .int .i64 height] 24) = W at *
  obtain ⟨z0, z1, z2, z3, z4, z5, f0, f1, f2, f3, f4, f5⟩ := row6 K3.out
  obtain ⟨q0, q1, q2, q3, q4, q5, _⟩ := row6 K9.out
  have hne : w.heap.size ≠ w3.heap.size := by omega
  generalize w3.heap.size = g9 at *
  go_region
  go_wp2_with fail
  have hk := set6 (.int .u64 (ep : Int)) (.int .i64 half) (.int .i64 page) (.int .i64 next) (.int .i64 count) (.int .i64 height) K3.out
  have hs3 := oth6 (g := w.heap.size) (.int .u64 (ep : Int)) (.int .i64 half) (.int .i64 page) (.int .i64 next) (.int .i64 count) (.int .i64 height) S3.out (by omega)
  have hbb := bel6 (.int .u64 (ep : Int)) (.int .i64 half) (.int .i64 page) (.int .i64 next) (.int .i64 count) (.int .i64 height) B3.out (Nat.le_refl w.heap.size)
  generalize (((((W.setCell ⟨w.heap.size, 0, none⟩ (.int .u64 (ep : Int))).setCell ⟨w.heap.size, 1, none⟩ (.int .i64 half)).setCell ⟨w.heap.size, 2, none⟩ (.int .i64 page)).setCell ⟨w.heap.size, 3, none⟩ (.int .i64 next)).setCell ⟨w.heap.size, 4, none⟩ (.int .i64 count)).setCell ⟨w.heap.size, 5, none⟩ (.int .i64 height) = X at *
  (try simp only [Exit.inBlock, Exit.then])
  have hl : (loadVar 24 ⟨w.heap.size, 0, none⟩).run Tryd.prog X.drew = .ok (.agg #[.int .u64 (ep : Int), .int .i64 half, .int .i64 page, .int .i64 next, .int .i64 count, .int .i64 height]) X.drew := ld_root (w := X.drew) hk rfl
  refine bodyPost_ret (results_open rfl _ _ w.heap.size _ rfl hl) rfl ?_
  exact ⟨w.heap.size + 1, rfl, hs3, by omega, ⟨hbb.os, hbb.tape, hbb.output, hbb.size, hbb.block⟩⟩
end Rt
end Go.Proofs.YtojbanknbgihgaaDoor
