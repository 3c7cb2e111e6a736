/-
  What Publish does (package root): all goes well.
-/
import Derived.Test.YtojbanknbgihgaaDoorRootPb0
namespace Go.Proofs.YtojbanknbgihgaaDoor
open Go.RowKit
namespace Rt
open B Dsk

set_option maxRecDepth 100000 in
set_option maxHeartbeats 4000000 in
theorem pub_ok (b : Bl) (d : D) (g : Nat) (r : R) (w : World) (h : DAt w b d) (hi : Inv d) (hS : SAt w g b) (hL : Lst w) (n0 : 0 ∉ b.l) (hn : g ∉ b.l) (hd : d.down = false) (hl : 2 ≤ d.now.length) (hw : d.writes < 900000) (hm : may r)
 (h1 : (flush d).2 = 0) (h2 : (write (flush d).1 ((spare (d.now.getD 0 ⟨#[]⟩) (d.now.getD 1 ⟨#[]⟩) : Nat) : Int) (txt { r with ep := lastE (d.now.getD 0 ⟨#[]⟩) (d.now.getD 1 ⟨#[]⟩) + 1 })).2 = 0) (h3 : (flush (write (flush d).1 ((spare (d.now.getD 0 ⟨#[]⟩) (d.now.getD 1 ⟨#[]⟩) : Nat) : Int) (txt { r with ep := lastE (d.now.getD 0 ⟨#[]⟩) (d.now.getD 1 ⟨#[]⟩) + 1 })).1).2 = 0)
    (hE : lastE (d.now.getD 0 ⟨#[]⟩) (d.now.getD 1 ⟨#[]⟩) + 1 < 18446744073709551616) :
    Calls Tryd.prog 9 #[.pointer (some ⟨g, 0, none⟩), rv r] w fun e w' => ∃ x, x = { r with ep := lastE (d.now.getD 0 ⟨#[]⟩) (d.now.getD 1 ⟨#[]⟩) + 1 } ∧
      e = .returned (.tuple #[rv (if (pub d (spare (d.now.getD 0 ⟨#[]⟩) (d.now.getD 1 ⟨#[]⟩) : Nat) (txt x)).2 = 0 then x else R0), .int .i64 (pub d (spare (d.now.getD 0 ⟨#[]⟩) (d.now.getD 1 ⟨#[]⟩) : Nat) (txt x)).2]) ∧
      DAt w' b (pub d (spare (d.now.getD 0 ⟨#[]⟩) (d.now.getD 1 ⟨#[]⟩) : Nat) (txt x)).1 ∧ Tch b.l w w' := by
  have t0 : (d.now.getD 0 ⟨#[]⟩).size = 256 := by
    rw [List.getD_eq_getElem?_getD, List.getElem?_eq_getElem (by omega)]; exact hi.full _ (List.getElem_mem _)
  have t1 : (d.now.getD 1 ⟨#[]⟩).size = 256 := by
    rw [List.getD_eq_getElem?_getD, List.getElem?_eq_getElem (by omega)]; exact hi.full _ (List.getElem_mem _)
  obtain ⟨l1, l2, l3⟩ := h.lts
  have lg := blk_lt hS
  have ls0 := hL.1
  have CR := Lib.hid (fun W hD hS => read_up b d g W hD hS hd hl)
  generalize d.now.getD 0 ⟨#[]⟩ = s0 at *
  generalize d.now.getD 1 ⟨#[]⟩ = s1 at *
  have CL := Lib.hid (fun W => lastEpoch_any s0 s1 W t0 t1)
  have CS := Lib.hid (fun W hw => spare_any s0 s1 W hw t0 t1)
  generalize lastE s0 s1 = le at *
  generalize spare s0 s1 = dst at *
  obtain ⟨o0, ho0⟩ : ∃ o : Obj, o = .cells #[.pointer (some ⟨g, 0, none⟩)] 28 := ⟨_, rfl⟩
  obtain ⟨ep, half, page, next, count, height⟩ := r
  simp only at h2 h3
  have b1 := ((Below.refl w.heap.size w).alloc (Nat.le_refl _) (.cells #[.pointer (some ⟨g, 0, none⟩)] 28)).alloc (by simp) (.cells #[.int .u64 (ep : Int), .int .i64 half, .int .i64 page, .int .i64 next, .int .i64 count, .int .i64 height] 24) |>.alloc (by simp; omega) (.cells #[.int .u64 0, .int .i64 0, .int .i64 0, .int .i64 0, .int .i64 0, .int .i64 0] 24)
  have P0 : Hid (Pb b d g w.heap.size (w.heap.size + 1) (w.heap.size + 1 + 1) ⟨ep, half, page, next, count, height⟩ w (((w.alloc (.cells #[.pointer (some ⟨g, 0, none⟩)] 28)).alloc (.cells #[.int .u64 (ep : Int), .int .i64 half, .int .i64 page, .int .i64 next, .int .i64 count, .int .i64 height] 24)).alloc (.cells #[.int .u64 0, .int .i64 0, .int .i64 0, .int .i64 0, .int .i64 0, .int .i64 0] 24))) :=
    ⟨h.below b1, hS.below b1, hp_old _ (hp_old _ (heap_last _ _ _ rfl)), hp_old _ (heap_last _ _ _ (by simp)), heap_last _ _ _ (by simp), hL.below b1 ls0⟩
  have B1 := Lib.hid b1
  have HM := Lib.hid hm
  have cm := mayBe_any ⟨ep, half, page, next, count, height⟩ _ P0.out.ls
  rw [decide_eq_true hm] at cm
  dsimp only [rv] at cm
  have CM := Lib.hid cm
  have nA : w.heap.size ∉ b.l := by simp only [List.mem_cons, List.not_mem_nil, or_false]; omega
  have nB : w.heap.size + 1 ∉ b.l := by simp only [List.mem_cons, List.not_mem_nil, or_false]; omega
  have nC : w.heap.size + 1 + 1 ∉ b.l := by simp only [List.mem_cons, List.not_mem_nil, or_false]; omega
  have HI := Lib.hid hi
  have hwE : IntKind.u64.wrap ((le : Int) + 1) = ((le + 1 : Nat) : Int) := by rw [show (le : Int) + 1 = ((le + 1 : Nat) : Int) by omega, wrap_nat, Nat.mod_eq_of_lt hE]
  obtain ⟨a00, a01, a02, a03, a04, a05, _⟩ := row6 P0.out.kb
  clear b1 cm h hS hL hm hi ho0 o0
  generalize hW0 : ((w.alloc (.cells #[.pointer (some ⟨g, 0, none⟩)] 28)).alloc (.cells #[.int .u64 (ep : Int), .int .i64 half, .int .i64 page, .int .i64 next, .int .i64 count, .int .i64 height] 24)).alloc (.cells #[.int .u64 0, .int .i64 0, .int .i64 0, .int .i64 0, .int .i64 0, .int .i64 0] 24) = W0 at *
  go_enter Tryd.func9, Tryd.ntmps9
  go_wp2_with (first
    | (go_at_call 22; ((with_reducible refine CM.out.mono ?_); rintro e w1 ⟨rfl, hb1⟩; have P1 := Lib.hid (P0.out.below hb1); have B2 := Lib.hid (B1.out.trans (hb1.mono B1.out.size)); have c1 : w1.cell? ⟨w.heap.size, 0, none⟩ = some (.pointer (some ⟨g, 0, none⟩)) := row_cell (cs := [_]) P1.out.ka 0; have CR1 := Lib.hid (CR.out w1 P1.out.dat P1.out.sl); clear hb1))
    | (go_at_call 20; ((with_reducible refine CR1.out.mono ?_); rintro e w2 ⟨rfl, hb2⟩; have hba := (Below.refl w2.heap.size w2).alloc (Nat.le_refl _) (.cells #[.string s0, .string s1] 59); have P2 := Lib.hid ((P1.out.below hb2).below hba); have B3 := Lib.hid ((B2.out.trans (hb2.mono B2.out.size)).trans (hba.mono (Nat.le_trans B2.out.size hb2.size))); have KD := Lib.hid (heap_last w2 (.cells #[.string s0, .string s1] 59) w2.heap.size rfl); have hlt2 : w.heap.size + 1 < w2.heap.size := Nat.lt_of_lt_of_le (blk_lt P1.out.kb) hb2.size; clear hb2 hba))
    | (go_at_call 23; ((with_reducible refine (CL.out _).mono ?_); rintro e w3 ⟨rfl, hb3⟩; have P3 := Lib.hid (P2.out.below hb3); have B4 := Lib.hid (B3.out.trans (hb3.mono B3.out.size)); have KD3 := Lib.hid (blk_below KD.out hb3 (blk_lt KD.out)); obtain ⟨u0, u1, u2, u3, u4, u5, f0, f1, f2, f3, f4, f5⟩ := row6 P3.out.kb; have PE := Lib.hid (P3.out.ep (le + 1) ((le : Int) + 1) (by omega) nB (by omega) (by omega) (by omega) (by omega)); have KDE := Lib.hid (blk_other (i := 0) KD3.out (show w2.heap.size ≠ w.heap.size + 1 by omega) (.int .u64 ((le : Int) + 1))); obtain ⟨v0, v1, _⟩ := row2 KDE.out; have B5 := Lib.hid (B4.out.setCell (p := ⟨w.heap.size + 1, 0, none⟩) (by simp) (.int .u64 ((le : Int) + 1))); have CS1 := Lib.hid (CS.out _ PE.out.ls); clear hb3))
    | (go_at_call 24; ((with_reducible refine CS1.out.mono ?_); rintro e w4 ⟨rfl, hb4⟩; have hba := (Below.refl w4.heap.size w4).alloc (Nat.le_refl _) (.cells #[.int .i64 (dst : Int)] 3); have P4 := Lib.hid ((PE.out.below hb4).below hba); have B6 := Lib.hid ((B5.out.trans (hb4.mono B5.out.size)).trans (hba.mono (Nat.le_trans B5.out.size hb4.size))); have KT := Lib.hid (heap_last w4 (.cells #[.int .i64 (dst : Int)] 3) w4.heap.size rfl); have hlt4 : w.heap.size + 1 + 1 < w4.heap.size := Nat.lt_of_lt_of_le (blk_lt PE.out.kc) hb4.size; clear hb4 hba)))
  generalize w4.alloc (.cells #[.int .i64 (dst : Int)] 3) = W5 at *
  generalize w4.heap.size = gT at *
  have d0 : W5.cell? ⟨w.heap.size, 0, none⟩ = some (.pointer (some ⟨g, 0, none⟩)) := row_cell (cs := [_]) P4.out.ka 0
  have d1 := P4.out.sl.cell
  have m0 := World.new_ne W5 ⟨w.heap.size, 0, none⟩ d0
  have m1 := World.new_ne W5 ⟨g, 0, none⟩ d1
  clear u0 u1 u2 u3 u4 u5 f0 f1 f2 f3 f4 f5 v0 v1 c1 a00 a01 a02 a03 a04 a05
  have KN : (W5.alloc (.cells #[.nilFunc, .nilFunc, .nilFunc] 68)).heap[W5.heap.size]? = some (.cells #[.nilFunc, .nilFunc, .nilFunc] 68) := heap_last _ _ _ rfl
  obtain ⟨e0, e1, e2, e3, e4, e5⟩ := row3 KN
  have e6 : (W5.alloc (.cells #[.nilFunc, .nilFunc, .nilFunc] 68)).cell? ⟨w.heap.size, 0, none⟩ = some (.pointer (some ⟨g, 0, none⟩)) := row_cell (cs := [_]) (hp_old _ P4.out.ka) 0
  have e7 : (W5.alloc (.cells #[.nilFunc, .nilFunc, .nilFunc] 68)).cell? ⟨g, 0, none⟩ = some (.pointer (some ⟨b.g, 0, none⟩)) := row_cell (cs := [_]) (hp_old _ P4.out.sl) 0
  go_region
  have bN := (Below.refl W5.heap.size W5).alloc (Nat.le_refl _) (.cells #[.func (.func 25) #[.pointer (some ⟨b.g, 0, none⟩)] #[], .func (.func 26) #[] #[.pointer (some ⟨w.heap.size, 0, none⟩), .pointer (some ⟨gT, 0, none⟩), .pointer (some ⟨w.heap.size + 1, 0, none⟩)], .func (.func 25) #[.pointer (some ⟨b.g, 0, none⟩)] #[]] 68)
  have bN2 : Below W5.heap.size W5 (W5.alloc (.cells #[.func (.func 25) #[.pointer (some ⟨b.g, 0, none⟩)] #[], .func (.func 26) #[] #[.pointer (some ⟨w.heap.size, 0, none⟩), .pointer (some ⟨gT, 0, none⟩), .pointer (some ⟨w.heap.size + 1, 0, none⟩)], .func (.func 25) #[.pointer (some ⟨b.g, 0, none⟩)] #[]] 68)).drew := ⟨bN.os, bN.tape, bN.output, bN.size, bN.block⟩
  have P6 := Lib.hid (P4.out.below bN2)
  have B7 := Lib.hid (B6.out.trans (bN2.mono B6.out.size))
  have KT6 := Lib.hid (blk_below KT.out bN2 (blk_lt KT.out))
  have KF : Hid ((W5.alloc (.cells #[.func (.func 25) #[.pointer (some ⟨b.g, 0, none⟩)] #[], .func (.func 26) #[] #[.pointer (some ⟨w.heap.size, 0, none⟩), .pointer (some ⟨gT, 0, none⟩), .pointer (some ⟨w.heap.size + 1, 0, none⟩)], .func (.func 25) #[.pointer (some ⟨b.g, 0, none⟩)] #[]] 68)).drew.heap[W5.heap.size]? = some (.cells #[.func (.func 25) #[.pointer (some ⟨b.g, 0, none⟩)] #[], .func (.func 26) #[] #[.pointer (some ⟨w.heap.size, 0, none⟩), .pointer (some ⟨gT, 0, none⟩), .pointer (some ⟨w.heap.size + 1, 0, none⟩)], .func (.func 25) #[.pointer (some ⟨b.g, 0, none⟩)] #[]] 68)) := heap_last W5 _ _ rfl
  have nT : gT ∉ b.l := by simp only [List.mem_cons, List.not_mem_nil, or_false]; omega
  have T6 : Hid (Tch b.l w (W5.alloc (.cells #[.func (.func 25) #[.pointer (some ⟨b.g, 0, none⟩)] #[], .func (.func 26) #[] #[.pointer (some ⟨w.heap.size, 0, none⟩), .pointer (some ⟨gT, 0, none⟩), .pointer (some ⟨w.heap.size + 1, 0, none⟩)], .func (.func 25) #[.pointer (some ⟨b.g, 0, none⟩)] #[]] 68)).drew) := Tch.of_below B7.out
  clear bN bN2 P4 B6 KT KN e0 e1 e2 e3 e4 e5 e6 e7 d0 d1 m0 m1 P0 P1 P2 P3 PE B1 B2 B3 B4 B5 KD KD3 KDE CR CR1 CL CS CS1 CM
  generalize (W5.alloc (.cells #[.func (.func 25) #[.pointer (some ⟨b.g, 0, none⟩)] #[], .func (.func 26) #[] #[.pointer (some ⟨w.heap.size, 0, none⟩), .pointer (some ⟨gT, 0, none⟩), .pointer (some ⟨w.heap.size + 1, 0, none⟩)], .func (.func 25) #[.pointer (some ⟨b.g, 0, none⟩)] #[]] 68)).drew = W6 at *
  generalize W5.heap.size = gF at *
  obtain ⟨j0, j1, j2, _⟩ := row3 KF.out
  have CF1 := Lib.hid (flush_any b d W6 P6.out.dat HI.out)
  have HI1 := Lib.hid (flush_inv HI.out (by omega))
  have hw1 := flush_w d
  have HPB : Hid (∀ t, pub d (dst : Int) t = if (flush d).2 = 0 then (if (write (flush d).1 (dst : Int) t).2 = 0 then flush (write (flush d).1 (dst : Int) t).1 else write (flush d).1 (dst : Int) t) else flush d) := fun _ => rfl
  have hix := fun W => idx3 (.func (.func 25) #[.pointer (some ⟨b.g, 0, none⟩)] #[]) (.func (.func 26) #[] #[.pointer (some ⟨w.heap.size, 0, none⟩), .pointer (some ⟨gT, 0, none⟩), .pointer (some ⟨w.heap.size + 1, 0, none⟩)]) (.func (.func 25) #[.pointer (some ⟨b.g, 0, none⟩)] #[]) W
  have HIX := Lib.hid hix
  clear hix
  have i6 := (HIX.out W6).1
  have hb1 : ((flush d).2 != 0) = false := by simpa using h1
  have hwa : (flush d).1.writes < 1000000 := by omega
  have HI2 := Lib.hid (write_inv HI1.out hwa (dst : Int) (txt ⟨le + 1, half, page, next, count, height⟩))
  have hw2 := write_w (flush d).1 (dst : Int) (txt ⟨le + 1, half, page, next, count, height⟩)
  have HP1 : Hid (pub d (dst : Int) (txt ⟨le + 1, half, page, next, count, height⟩) = if (write (flush d).1 (dst : Int) (txt ⟨le + 1, half, page, next, count, height⟩)).2 = 0 then flush (write (flush d).1 (dst : Int) (txt ⟨le + 1, half, page, next, count, height⟩)).1 else write (flush d).1 (dst : Int) (txt ⟨le + 1, half, page, next, count, height⟩)) := by rw [Hid, HPB.out, if_pos h1]
  clear h1
  generalize flush d = f1 at *
  have hb2 : ((write f1.1 (dst : Int) (txt ⟨le + 1, half, page, next, count, height⟩)).2 != 0) = false := by simpa using h2
  have HP2 : Hid (pub d (dst : Int) (txt ⟨le + 1, half, page, next, count, height⟩) = flush (write f1.1 (dst : Int) (txt ⟨le + 1, half, page, next, count, height⟩)).1) := by rw [Hid, HP1.out, if_pos h2]
  clear h2 HP1
  have hb3 : ((flush (write f1.1 (dst : Int) (txt ⟨le + 1, half, page, next, count, height⟩)).1).2 != 0) = false := by simpa using h3
  have HP := HP2
  have HZ := Lib.hid h3
  clear h3
  go_wp2_with fail
  refine wp_loop_rounds 4 ?_
  rw [rounds_succ]
  go_wp2_with (go_at_call 25; ((with_reducible refine CF1.out.mono ?_); rintro e w7 ⟨rfl, hd7, ht7⟩; have P7 := Lib.hid (P6.out.tch hd7 ht7 n0 hn nA nB nC); have T7 := Lib.hid ht7; have KT7 := Lib.hid ((ht7.block gT (blk_lt KT6.out) nT).trans KT6.out); have CP := Lib.hid (pub1_any b _ w.heap.size g gT (w.heap.size + 1) (dst : Int) ⟨le + 1, half, page, next, count, height⟩ w7 hd7 HI1.out hwa P7.out.ka P7.out.sl KT7.out P7.out.kb nA hn nT nB P7.out.ls HM.out hE); have i7 := (HIX.out w7).2.1; clear hd7 ht7))
  rw [rounds_succ]
  go_wp2_with (go_at_call 26; ((with_reducible refine CP.out.mono ?_); rintro e w8 ⟨rfl, hd8, ht8⟩; have P8 := Lib.hid (P7.out.tch hd8 ht8 n0 hn nA nB nC); have T8 := Lib.hid (T7.out.trans ht8); obtain ⟨z0, z1, z2, z3, z4, z5, y0, y1, y2, y3, y4, y5⟩ := row6 P8.out.kc; have CF2 := Lib.hid (flush_any b _ w8 hd8 HI2.out); have i8 := (HIX.out w8).2.2; clear hd8 ht8))
  rw [rounds_succ]
  go_wp2_with (go_at_call 25; ((with_reducible refine CF2.out.mono ?_); rintro e w9 ⟨rfl, hd9, ht9⟩; have P9 := Lib.hid (P8.out.tch hd9 ht9 n0 hn nA nB nC); have T9 := Lib.hid (T8.out.trans ht9); obtain ⟨z0, z1, z2, z3, z4, z5, y0, y1, y2, y3, y4, y5⟩ := row6 P9.out.kc; obtain ⟨x0, x1, x2, x3, x4, x5, _⟩ := row6 P9.out.kb; clear hd9 ht9))
  rw [rounds_succ]
  go_wp2_with fail
  (try simp only [Exit.inBlock, Exit.then])
  refine bodyPost_ret (results_cells_tmp rfl _ _ (w.heap.size + 1 + 1) [.int .u64 ((le : Int) + 1), .int .i64 half, .int .i64 page, .int .i64 next, .int .i64 count, .int .i64 height] _ rfl ?_ Tryd.underlying24 rinfo) rfl ?_
  · refine six ?_ ?_ ?_ ?_ ?_ ?_ <;> go_simp
  · refine ⟨_, rfl, by rw [HP.out]; first | rfl | (rw [if_neg (by simpa using HNE.out)]; rfl) | (rw [HZ.out, if_pos rfl]; rfl), ?_, ?_⟩
    · rw [HP.out]
      exact fin_dat P9.out.dat nC
    · exact fin_tch (T6.out.trans T9.out) nC (by omega)
end Rt
end Go.Proofs.YtojbanknbgihgaaDoor
