/-
  The walk of the statement NodeSplits.
-/
import Derived.Test.YtjikioiejdfodaaNodeAw
import Derived.Test.YtjikioiejdfodaaNodeRight
import Derived.Test.YtjikioiejdfodaaNodeRAt
import Derived.Test.YtjikioiejdfodaaNodeNC
import Derived.Test.YtjikioiejdfodaaGrow3
namespace Go.Proofs.Ytjikioiejdfodaa
open Go.RowKit
namespace Nod
open B V
set_option linter.unusedVariables false
set_option maxRecDepth 100000 in
set_option maxHeartbeats 8000000 in
theorem nodeSplits_walk (A1 A2 A3 : Option Addr) (c1 c2 c3 : Nat) (n : N) (w : World) (h : NAt w A1 A2 A3 n) (hk : n.keys.length ≤ maxLen) (hv : n.vals.length ≤ maxLen) (hc : n.kids.length ≤ maxLen) :
    Calls Try.prog 7 #[nv A1 A2 A3 c1 c2 c3 n] w fun e w' => e = .returned (.bool true) ∧ Below w.heap.size w w' := by
  obtain ⟨hok, l1, l2, l3⟩ := right_ok n
  have hS : Sm (rightN n) := ⟨by omega, by omega, by omega⟩
  have CA := Lib.hid awake_any
  have CR := Lib.hid (fun W (q : Below w.heap.size w W) => right_any A1 A2 A3 c1 c2 c3 n W (h.below q) hk hv hc)
  unfold nv at *
  have B0 := Lib.hid (below1 w (.cells #[.int .i64 n.kind, .slice A1 n.keys.length c1, .slice A2 n.vals.length c2, .slice A3 n.kids.length c3] 55))
  have H0 := Lib.hid (heap_last w (.cells #[.int .i64 n.kind, .slice A1 n.keys.length c1, .slice A2 n.vals.length c2, .slice A3 n.kids.length c3] 55) _ rfl)
  clear h hk hv hc
  generalize rightN n = m at *
  go_enter Try.func7, Try.ntmps7
  go_upto_region 1 with fail
  generalize w.alloc (.cells #[.int .i64 n.kind, .slice A1 n.keys.length c1, .slice A2 n.vals.length c2, .slice A3 n.kids.length c3] 55) = W at *
  go_upto_region 3 with (go_at_call 27; ((with_reducible refine (CA.out _).mono ?_); rintro e w1 ⟨rfl, hb1⟩; have B1 := Lib.hid (B0.out.trans (hb1.mono B0.out.size)); have H1 := Lib.hid (blk_thru hb1 H0.out); clear hb1 B0 H0))
  obtain ⟨⟨x0, x1, x2, x3⟩, y0, y1, y2, y3⟩ := row4 H1.out
  go_upto_region 4 with (go_at_call 32; ((with_reducible refine (CR.out _ B1.out).mono ?_); rintro e w2 ⟨vf, rfl, ho2, hb2⟩; have B2 := Lib.hid (B1.out.trans (hb2.mono B1.out.size)); have H2 := Lib.hid (blk_thru hb2 H1.out); obtain ⟨F1, F2, F3, f1, f2, f3, hvf, hat, hcp⟩ := nown_out ho2; unfold nv at hvf; subst hvf; have O2 := Lib.hid ho2; have LG := Lib.hid (blk_lt H1.out); have CP := Lib.hid (hcp hS.k hS.v hS.c); clear ho2 hb2 H1 B1 x0 x1 x2 x3 y0 y1 y2 y3 hat hcp; obtain ⟨⟨x0, x1, x2, x3⟩, y0, y1, y2, y3⟩ := row4 H2.out))
  have O3 := Lib.hid (nown_put (a := .int .i64 m.kind) (b := .slice F1 m.keys.length f1) (c := .slice F2 m.vals.length f2) (d := .slice F3 m.kids.length f3) O2.out LG.out)
  have B3 : Hid (Below w.heap.size w ((((w2.setCell ⟨w.heap.size, 0, none⟩ (.int .i64 m.kind)).setCell ⟨w.heap.size, 1, none⟩ (.slice F1 m.keys.length f1)).setCell ⟨w.heap.size, 2, none⟩ (.slice F2 m.vals.length f2)).setCell ⟨w.heap.size, 3, none⟩ (.slice F3 m.kids.length f3))) := below_put4 B2.out (Nat.le_refl _)
  have N3 : Hid (NC 55 ((((w2.setCell ⟨w.heap.size, 0, none⟩ (.int .i64 m.kind)).setCell ⟨w.heap.size, 1, none⟩ (.slice F1 m.keys.length f1)).setCell ⟨w.heap.size, 2, none⟩ (.slice F2 m.vals.length f2)).setCell ⟨w.heap.size, 3, none⟩ (.slice F3 m.kids.length f3)) w.heap.size F1 F2 F3 f1 f2 f3 m) := ⟨set4 H2.out _ _ _ _, nown_nat O3.out⟩
  clear x0 x1 x2 x3 y0 y1 y2 y3 B2 H2 O2 O3 LG
  generalize (((w2.setCell ⟨w.heap.size, 0, none⟩ (.int .i64 m.kind)).setCell ⟨w.heap.size, 1, none⟩ (.slice F1 m.keys.length f1)).setCell ⟨w.heap.size, 2, none⟩ (.slice F2 m.vals.length f2)).setCell ⟨w.heap.size, 3, none⟩ (.slice F3 m.kids.length f3) = W3 at *
  obtain ⟨x0, x1, x2, x3⟩ := N3.out.p
  by_cases h2 : m.keys.length < 2
  · have hI : (m.keys.length : Int) < 2 := by omega
    go_wp2
    go_ret
    exact ⟨rfl, B3.out⟩
  have hI : ¬ (m.keys.length : Int) < 2 := by omega
  have hL2 : 2 ≤ m.keys.length := by omega
  obtain ⟨s1, s2, s3⟩ := mid_spec (n := m) (by omega)
  have s0 := mid_pos hL2
  have oka := part_ok hok (lo := 0) (hi := mid m) (by omega) (by omega)
  have okb := part_ok hok (lo := mid m) (hi := m.keys.length) (by omega) (by omega)
  have La := part_len (n := m) (lo := 0) (hi := mid m) (by omega) (by omega)
  have Lb := part_len (n := m) (lo := mid m) (hi := m.keys.length) (by omega) (by omega)
  have hjn := part_join hok (a := mid m)
  have HF := Lib.hid (fun h1 h2 => split_fits hok hL2 (by omega) h1 h2)
  have HKa : Hid ((npart m 0 (mid m)).kind = m.kind) := rfl
  have HKb : Hid ((npart m (mid m) m.keys.length).kind = m.kind) := rfl
  have hfi := hok.fine
  have hSa : Sm (npart m 0 (mid m)) := oka.sm (by omega)
  have hSb : Sm (npart m (mid m) m.keys.length) := okb.sm (by omega)
  have CO := Lib.hid (fun A1 A2 A3 c1 c2 c3 W (h : NAt W A1 A2 A3 m) (hc : Caps A1 A2 A3 c1 c2 c3 m) => own_any A1 A2 A3 c1 c2 c3 m W h hS hc)
  have CSp := Lib.hid (fun A1 A2 A3 c1 c2 c3 W (h : NAt W A1 A2 A3 m) (hc : Caps A1 A2 A3 c1 c2 c3 m) => split_any A1 A2 A3 c1 c2 c3 m W h hS hfi (by omega) hc (by omega))
  have CAt := Lib.hid (fun A1 A2 A3 c1 c2 c3 W (h : NAt W A1 A2 A3 m) => refAt_any A1 A2 A3 c1 c2 c3 m W h hok hL2 (by omega))
  have CS := Lib.hid (fun A1 A2 A3 c1 c2 c3 E1 E2 E3 e1 e2 e3 W (h : NAt W A1 A2 A3 m) (h' : NAt W E1 E2 E3 m) => same_true A1 A2 A3 c1 c2 c3 E1 E2 E3 e1 e2 e3 m W h h' hS)
  have CSz := Lib.hid (fun A1 A2 A3 c1 c2 c3 W (h : NAt W A1 A2 A3 m) => size_any A1 A2 A3 c1 c2 c3 m W h hS hfi (by omega))
  have CFi := Lib.hid (fun A1 A2 A3 c1 c2 c3 W (h : NAt W A1 A2 A3 m) => fits_any A1 A2 A3 c1 c2 c3 m W h hS hfi (by omega))
  have CLa0 := Lib.hid (fun A1 A2 A3 c1 c2 c3 W => len_any A1 A2 A3 c1 c2 c3 (npart m 0 (mid m)) W)
  have CLb0 := Lib.hid (fun A1 A2 A3 c1 c2 c3 W => len_any A1 A2 A3 c1 c2 c3 (npart m (mid m) m.keys.length) W)
  have CCa0 := Lib.hid (fun A1 A2 A3 c1 c2 c3 W (h : NAt W A1 A2 A3 (npart m 0 (mid m))) => check_any A1 A2 A3 c1 c2 c3 (npart m 0 (mid m)) W h hSa)
  have CCb0 := Lib.hid (fun A1 A2 A3 c1 c2 c3 W (h : NAt W A1 A2 A3 (npart m (mid m) m.keys.length)) => check_any A1 A2 A3 c1 c2 c3 (npart m (mid m) m.keys.length) W h hSb)
  have CFa0 := Lib.hid (fun A1 A2 A3 c1 c2 c3 W (h : NAt W A1 A2 A3 (npart m 0 (mid m))) => fits_any A1 A2 A3 c1 c2 c3 (npart m 0 (mid m)) W h hSa oka.fine (by omega))
  have CFb0 := Lib.hid (fun A1 A2 A3 c1 c2 c3 W (h : NAt W A1 A2 A3 (npart m (mid m) m.keys.length)) => fits_any A1 A2 A3 c1 c2 c3 (npart m (mid m) m.keys.length) W h hSb okb.fine (by omega))
  have CJ0 := Lib.hid (fun A1 A2 A3 c1 c2 c3 E1 E2 E3 e1 e2 e3 W (h : NAt W A1 A2 A3 (npart m 0 (mid m))) (hc : Caps A1 A2 A3 c1 c2 c3 (npart m 0 (mid m))) (h' : NAt W E1 E2 E3 (npart m (mid m) m.keys.length)) (hc' : Caps E1 E2 E3 e1 e2 e3 (npart m (mid m) m.keys.length)) => join_any A1 A2 A3 c1 c2 c3 (npart m 0 (mid m)) E1 E2 E3 e1 e2 e3 (npart m (mid m) m.keys.length) W h hSa hc h' hSb hc')
  rw [oka.chk, if_pos rfl] at CCa0
  rw [okb.chk, if_pos rfl] at CCb0
  rw [hjn] at CJ0
  rw [La, Nat.sub_zero] at CLa0
  rw [Lb, Int.ofNat_sub (by omega)] at CLb0
  have hwr : IntKind.i64.wrap ((m.keys.length : Int) - (mid m : Int)) = (m.keys.length : Int) - (mid m : Int) := IntWalk.i64_in _ (by omega)
  have HLa := Lib.hid La
  have HLb := Lib.hid Lb
  clear La Lb hjn s2 s3 oka okb
  generalize npart m 0 (mid m) = pa at *
  generalize npart m (mid m) m.keys.length = pb at *
  unfold nv at *
  go_upto_region 7 with (go_at_call 29; ((with_reducible refine (CO.out _ _ _ _ _ _ _ N3.out.a CP.out).mono ?_); rintro e w4 ⟨E1, E2, E3, e1, e2, e3, rfl, hat, hcE, hb4⟩; have B4 := Lib.hid (B3.out.trans (hb4.mono B3.out.size)); have N4 := Lib.hid (N3.out.below hb4); have AE := Lib.hid hat; have CE := Lib.hid hcE; clear hat hcE hb4 x0 x1 x2 x3 B3 N3))
  have bX := below1 w4 (.cells #[.int .i64 m.kind, .slice E1 m.keys.length e1, .slice E2 m.vals.length e2, .slice E3 m.kids.length e3] 57)
  have N5 := Lib.hid (N4.out.below bX)
  have X5 : Hid (NC 57 (w4.alloc (.cells #[.int .i64 m.kind, .slice E1 m.keys.length e1, .slice E2 m.vals.length e2, .slice E3 m.kids.length e3] 57)) w4.heap.size E1 E2 E3 e1 e2 e3 m) := NC.new _ _ AE.out
  have B5 := Lib.hid (B4.out.trans (bX.mono B4.out.size))
  clear bX B4 N4 AE
  generalize w4.alloc (.cells #[.int .i64 m.kind, .slice E1 m.keys.length e1, .slice E2 m.vals.length e2, .slice E3 m.kids.length e3] 57) = W5 at *
  generalize w4.heap.size = g3 at *
  obtain ⟨x0, x1, x2, x3⟩ := X5.out.p
  go_upto_region 8 with (go_at_call 42; ((with_reducible refine (CSp.out _ _ _ _ _ _ _ X5.out.a CE.out).mono ?_); rintro e w6 ⟨va, vb, rfl, hoa, hob, _, hb6⟩; obtain ⟨P1, P2, P3, p1, p2, p3, hva, hata, hca⟩ := nown_out hoa; obtain ⟨R1, R2, R3, r1, r2, r3, hvb, hatb, hcb⟩ := nown_out hob; unfold nv at hva hvb; subst hva hvb; have B6 := Lib.hid (B5.out.trans (hb6.mono B5.out.size)); have N6 := Lib.hid (N5.out.below hb6); have X6 := Lib.hid (X5.out.below hb6); have AA := Lib.hid hata; have AB := Lib.hid hatb; have KA := Lib.hid (hca hSa.k hSa.v hSa.c); have KB := Lib.hid (hcb hSb.k hSb.v hSb.c); clear hoa hob hata hatb hca hcb hb6 x0 x1 x2 x3 B5 N5 X5))
  have bX := below1 w6 (.cells #[.int .i64 pa.kind, .slice P1 pa.keys.length p1, .slice P2 pa.vals.length p2, .slice P3 pa.kids.length p3] 57)
  have bY := below1 (w6.alloc (.cells #[.int .i64 pa.kind, .slice P1 pa.keys.length p1, .slice P2 pa.vals.length p2, .slice P3 pa.kids.length p3] 57)) (.cells #[.int .i64 pb.kind, .slice R1 pb.keys.length r1, .slice R2 pb.vals.length r2, .slice R3 pb.kids.length r3] 57)
  have Za : Hid (NC 57 ((w6.alloc (.cells #[.int .i64 pa.kind, .slice P1 pa.keys.length p1, .slice P2 pa.vals.length p2, .slice P3 pa.kids.length p3] 57)).alloc (.cells #[.int .i64 pb.kind, .slice R1 pb.keys.length r1, .slice R2 pb.vals.length r2, .slice R3 pb.kids.length r3] 57)) w6.heap.size P1 P2 P3 p1 p2 p3 pa) := (NC.new _ _ AA.out).below bY
  have Zb : Hid (NC 57 ((w6.alloc (.cells #[.int .i64 pa.kind, .slice P1 pa.keys.length p1, .slice P2 pa.vals.length p2, .slice P3 pa.kids.length p3] 57)).alloc (.cells #[.int .i64 pb.kind, .slice R1 pb.keys.length r1, .slice R2 pb.vals.length r2, .slice R3 pb.kids.length r3] 57)) (w6.alloc (.cells #[.int .i64 pa.kind, .slice P1 pa.keys.length p1, .slice P2 pa.vals.length p2, .slice P3 pa.kids.length p3] 57)).heap.size R1 R2 R3 r1 r2 r3 pb) := NC.new _ _ (AB.out.below bX)
  have hgs : (w6.alloc (.cells #[.int .i64 pa.kind, .slice P1 pa.keys.length p1, .slice P2 pa.vals.length p2, .slice P3 pa.kids.length p3] 57)).heap.size = w6.heap.size + 1 := by simp
  rw [hgs] at Zb
  have N7 := Lib.hid ((N6.out.below bX).below bY)
  have X7 := Lib.hid ((X6.out.below bX).below bY)
  have bXY := bX.trans (bY.mono bX.size)
  have B7 := Lib.hid (B6.out.trans (bXY.mono B6.out.size))
  clear bX bY bXY hgs B6 N6 X6 AA AB
  generalize (w6.alloc (.cells #[.int .i64 pa.kind, .slice P1 pa.keys.length p1, .slice P2 pa.vals.length p2, .slice P3 pa.kids.length p3] 57)).alloc (.cells #[.int .i64 pb.kind, .slice R1 pb.keys.length r1, .slice R2 pb.vals.length r2, .slice R3 pb.kids.length r3] 57) = W7 at *
  obtain ⟨g5, hg5⟩ : ∃ g5, w6.heap.size + 1 = g5 := ⟨_, rfl⟩
  rw [hg5] at Zb
  rw [hg5]
  clear hg5
  generalize w6.heap.size = g4 at *
  have CLa := Lib.hid (CLa0.out P1 P2 P3 p1 p2 p3)
  have CLb := Lib.hid (CLb0.out R1 R2 R3 r1 r2 r3)
  have CCa := Lib.hid (CCa0.out P1 P2 P3 p1 p2 p3)
  have CCb := Lib.hid (CCb0.out R1 R2 R3 r1 r2 r3)
  have CJ := Lib.hid (fun W h h' => CJ0.out P1 P2 P3 p1 p2 p3 R1 R2 R3 r1 r2 r3 W h KA.out h' KB.out)
  obtain ⟨x0, x1, x2, x3⟩ := N7.out.p
  go_upto_region 9 with (go_at_call 43; ((with_reducible refine (CAt.out _ _ _ _ _ _ _ N7.out.a).mono ?_); rintro e w8 ⟨rfl, hb8⟩; have B8 := Lib.hid (B7.out.trans (hb8.mono B7.out.size)); have N8 := Lib.hid (N7.out.below hb8); have X8 := Lib.hid (X7.out.below hb8); have Ya := Lib.hid (Za.out.below hb8); have Yb := Lib.hid (Zb.out.below hb8); clear hb8 x0 x1 x2 x3 B7 N7 X7 Za Zb))
  have hka := HKa.out
  have hkb := HKb.out
  refine Gr.regionS 46 (fun i => i + 24) [.val (.agg #[.int .i64 pa.kind, .slice P1 pa.keys.length p1, .slice P2 pa.vals.length p2, .slice P3 pa.kids.length p3]), .val (.int .i64 (mid m : Int)), .val (.int .i64 (mid m : Int)), .val (.bool false), .val (.bool false), .val (.agg #[.int .i64 pb.kind, .slice R1 pb.keys.length r1, .slice R2 pb.vals.length r2, .slice R3 pb.kids.length r3]), .val (.int .i64 ((m.keys.length : Int) - (mid m : Int))), .val (.pointer (some ⟨w.heap.size, 1, none⟩)), .val (.slice F1 m.keys.length f1), .val (.int .i64 (m.keys.length : Int)), .val (.int .i64 (mid m : Int)), .val (.int .i64 ((m.keys.length : Int) - (mid m : Int))), .val (.bool false), .val (.bool false), .val (.bool false), .val (.agg #[.int .i64 pa.kind, .slice P1 pa.keys.length p1, .slice P2 pa.vals.length p2, .slice P3 pa.kids.length p3]), .val (.int .i64 0), .val (.bool false), .val (.bool false), .val (.bool false), .val (.agg #[.int .i64 pb.kind, .slice R1 pb.keys.length r1, .slice R2 pb.vals.length r2, .slice R3 pb.kids.length r3]), .val (.int .i64 0), .val (.bool false), .val (.bool false), .val (.bool false), .val (.pointer (some ⟨g4, 0, none⟩)), .val (.int .i64 pa.kind), .val (.pointer (some ⟨w.heap.size, 0, none⟩)), .val (.int .i64 m.kind), .val (.bool false), .val (.bool false), .val (.bool false), .val (.pointer (some ⟨g5, 0, none⟩)), .val (.int .i64 pb.kind), .val (.pointer (some ⟨w.heap.size, 0, none⟩)), .val (.int .i64 m.kind), .val (.bool false), .val (.bool false), .val (.bool false), .val (.agg #[.int .i64 pa.kind, .slice P1 pa.keys.length p1, .slice P2 pa.vals.length p2, .slice P3 pa.kids.length p3]), .val (.agg #[.int .i64 pb.kind, .slice R1 pb.keys.length r1, .slice R2 pb.vals.length r2, .slice R3 pb.kids.length r3]), .cls (NVal m) (fun _ _ _ h hb => NVal.below h hb), .val (.agg #[.int .i64 m.kind, .slice F1 m.keys.length f1, .slice F2 m.vals.length f2, .slice F3 m.kids.length f3]), .val (.bool true), .val (.bool false), .val (.bool false)] (by kernel_rfl) (by kernel_rfl) (by rfl) ?_ ?_
  · intro i o a W1 hi ho hb hfr hpre
    have t1 : a.tmps[1]?.getD undef = .pointer (some ⟨w.heap.size, 0, none⟩) := Gr.slot (hfr.f 1 (by omega))
    have t4 : a.tmps[4]?.getD undef = .pointer (some ⟨g4, 0, none⟩) := Gr.slot (hfr.f 4 (by omega))
    have t5 : a.tmps[5]?.getD undef = .pointer (some ⟨g5, 0, none⟩) := Gr.slot (hfr.f 5 (by omega))
    have t6 : a.tmps[6]?.getD undef = .int .i64 (mid m : Int) := Gr.slot (hfr.f 6 (by omega))
    obtain ⟨n0, n1, n2, n3⟩ := (N8.out.below hb).p
    obtain ⟨a0, a1, a2, a3⟩ := (Ya.out.below hb).p
    obtain ⟨b0, b1, b2, b3⟩ := (Yb.out.below hb).p
    have hatn := N8.out.a.below hb
    have hata := Ya.out.a.below hb
    have hatb := Yb.out.a.below hb
    match i, hi with
    | 0, _ =>
      obtain rfl := Option.some.inj ho
      refine Gr.val (v := .agg #[.int .i64 pa.kind, .slice P1 pa.keys.length p1, .slice P2 pa.vals.length p2, .slice P3 pa.kids.length p3]) (w' := W1) (by simp [go_sem, t4, a0, a1, a2, a3]) ⟨_, rfl, rfl, Below.refl _ _⟩
    | 1, _ =>
      have p24 : a.tmps[24]?.getD undef = .agg #[.int .i64 pa.kind, .slice P1 pa.keys.length p1, .slice P2 pa.vals.length p2, .slice P3 pa.kids.length p3] := Gr.slot (hpre { on := 0, ground := .data } (by obtain rfl := Option.some.inj ho; simp) rfl (by decide))
      obtain rfl := Option.some.inj ho
      refine Gr.call (f := 38) (args := #[.agg #[.int .i64 pa.kind, .slice P1 pa.keys.length p1, .slice P2 pa.vals.length p2, .slice P3 pa.kids.length p3]]) (by simp [go_sem, p24]) ((CLa.out W1).mono ?_)
      rintro e w' ⟨rfl, h2⟩
      exact ⟨_, rfl, _, rfl, rfl, h2⟩
    | 2, _ =>
      obtain rfl := Option.some.inj ho
      refine Gr.val (v := .int .i64 (mid m : Int)) (w' := W1) (by simp [go_sem, t6]) ⟨_, rfl, rfl, Below.refl _ _⟩
    | 3, _ =>
      have p25 : a.tmps[25]?.getD undef = .int .i64 (mid m : Int) := Gr.slot (hpre { on := 1, ground := .data } (by obtain rfl := Option.some.inj ho; simp) rfl (by decide))
      have p26 : a.tmps[26]?.getD undef = .int .i64 (mid m : Int) := Gr.slot (hpre { on := 2, ground := .data } (by obtain rfl := Option.some.inj ho; simp) rfl (by decide))
      obtain rfl := Option.some.inj ho
      refine Gr.val (v := .bool false) (w' := W1) (by simp [go_sem, p25, p26]) ⟨_, rfl, rfl, Below.refl _ _⟩
    | 4, _ =>
      have p27 : a.tmps[27]?.getD undef = .bool false := Gr.slot (hpre { on := 3, ground := .data } (by obtain rfl := Option.some.inj ho; simp) rfl (by decide))
      obtain rfl := Option.some.inj ho
      refine Gr.val (v := .bool false) (w' := W1) (by simp [go_sem, p27]) ⟨_, rfl, rfl, Below.refl _ _⟩
    | 5, _ =>
      obtain rfl := Option.some.inj ho
      refine Gr.val (v := .agg #[.int .i64 pb.kind, .slice R1 pb.keys.length r1, .slice R2 pb.vals.length r2, .slice R3 pb.kids.length r3]) (w' := W1) (by simp [go_sem, t5, b0, b1, b2, b3]) ⟨_, rfl, rfl, Below.refl _ _⟩
    | 6, _ =>
      have p29 : a.tmps[29]?.getD undef = .agg #[.int .i64 pb.kind, .slice R1 pb.keys.length r1, .slice R2 pb.vals.length r2, .slice R3 pb.kids.length r3] := Gr.slot (hpre { on := 5, ground := .data } (by obtain rfl := Option.some.inj ho; simp) rfl (by decide))
      obtain rfl := Option.some.inj ho
      refine Gr.call (f := 38) (args := #[.agg #[.int .i64 pb.kind, .slice R1 pb.keys.length r1, .slice R2 pb.vals.length r2, .slice R3 pb.kids.length r3]]) (by simp [go_sem, p29]) ((CLb.out W1).mono ?_)
      rintro e w' ⟨rfl, h2⟩
      exact ⟨_, rfl, _, rfl, rfl, h2⟩
    | 7, _ =>
      obtain rfl := Option.some.inj ho
      refine Gr.val (v := .pointer (some ⟨w.heap.size, 1, none⟩)) (w' := W1) (by simp [go_sem, t1]) ⟨_, rfl, rfl, Below.refl _ _⟩
    | 8, _ =>
      have p31 : a.tmps[31]?.getD undef = .pointer (some ⟨w.heap.size, 1, none⟩) := Gr.slot (hpre { on := 7, ground := .data } (by obtain rfl := Option.some.inj ho; simp) rfl (by decide))
      obtain rfl := Option.some.inj ho
      refine Gr.val (v := .slice F1 m.keys.length f1) (w' := W1) (by simp [go_sem, p31, n1]) ⟨_, rfl, rfl, Below.refl _ _⟩
    | 9, _ =>
      have p32 : a.tmps[32]?.getD undef = .slice F1 m.keys.length f1 := Gr.slot (hpre { on := 8, ground := .data } (by obtain rfl := Option.some.inj ho; simp) rfl (by decide))
      obtain rfl := Option.some.inj ho
      refine Gr.val (v := .int .i64 (m.keys.length : Int)) (w' := W1) (by simp [go_sem, p32]) ⟨_, rfl, rfl, Below.refl _ _⟩
    | 10, _ =>
      obtain rfl := Option.some.inj ho
      refine Gr.val (v := .int .i64 (mid m : Int)) (w' := W1) (by simp [go_sem, t6]) ⟨_, rfl, rfl, Below.refl _ _⟩
    | 11, _ =>
      have p33 : a.tmps[33]?.getD undef = .int .i64 (m.keys.length : Int) := Gr.slot (hpre { on := 9, ground := .data } (by obtain rfl := Option.some.inj ho; simp) rfl (by decide))
      have p34 : a.tmps[34]?.getD undef = .int .i64 (mid m : Int) := Gr.slot (hpre { on := 10, ground := .data } (by obtain rfl := Option.some.inj ho; simp) rfl (by decide))
      obtain rfl := Option.some.inj ho
      refine Gr.val (v := .int .i64 ((m.keys.length : Int) - (mid m : Int))) (w' := W1) (by simp [go_sem, p33, p34, hwr]) ⟨_, rfl, rfl, Below.refl _ _⟩
    | 12, _ =>
      have p30 : a.tmps[30]?.getD undef = .int .i64 ((m.keys.length : Int) - (mid m : Int)) := Gr.slot (hpre { on := 6, ground := .data } (by obtain rfl := Option.some.inj ho; simp) rfl (by decide))
      have p35 : a.tmps[35]?.getD undef = .int .i64 ((m.keys.length : Int) - (mid m : Int)) := Gr.slot (hpre { on := 11, ground := .data } (by obtain rfl := Option.some.inj ho; simp) rfl (by decide))
      obtain rfl := Option.some.inj ho
      refine Gr.val (v := .bool false) (w' := W1) (by simp [go_sem, p30, p35]) ⟨_, rfl, rfl, Below.refl _ _⟩
    | 13, _ =>
      have p28 : a.tmps[28]?.getD undef = .bool false := Gr.slot (hpre { on := 4, ground := .data } (by obtain rfl := Option.some.inj ho; simp) rfl (by decide))
      have p36 : a.tmps[36]?.getD undef = .bool false := Gr.slot (hpre { on := 12, ground := .data } (by obtain rfl := Option.some.inj ho; simp) rfl (by decide))
      obtain rfl := Option.some.inj ho
      refine Gr.val (v := .bool false) (w' := W1) (by simp [go_sem, p28, p36]) ⟨_, rfl, rfl, Below.refl _ _⟩
    | 14, _ =>
      have p37 : a.tmps[37]?.getD undef = .bool false := Gr.slot (hpre { on := 13, ground := .data } (by obtain rfl := Option.some.inj ho; simp) rfl (by decide))
      obtain rfl := Option.some.inj ho
      refine Gr.val (v := .bool false) (w' := W1) (by simp [go_sem, p37]) ⟨_, rfl, rfl, Below.refl _ _⟩
    | 15, _ =>
      obtain rfl := Option.some.inj ho
      refine Gr.val (v := .agg #[.int .i64 pa.kind, .slice P1 pa.keys.length p1, .slice P2 pa.vals.length p2, .slice P3 pa.kids.length p3]) (w' := W1) (by simp [go_sem, t4, a0, a1, a2, a3]) ⟨_, rfl, rfl, Below.refl _ _⟩
    | 16, _ =>
      have p39 : a.tmps[39]?.getD undef = .agg #[.int .i64 pa.kind, .slice P1 pa.keys.length p1, .slice P2 pa.vals.length p2, .slice P3 pa.kids.length p3] := Gr.slot (hpre { on := 15, ground := .data } (by obtain rfl := Option.some.inj ho; simp) rfl (by decide))
      obtain rfl := Option.some.inj ho
      refine Gr.call (f := 30) (args := #[.agg #[.int .i64 pa.kind, .slice P1 pa.keys.length p1, .slice P2 pa.vals.length p2, .slice P3 pa.kids.length p3]]) (by simp [go_sem, p39]) ((CCa.out W1 hata).mono ?_)
      rintro e w' ⟨rfl, h2⟩
      exact ⟨_, rfl, _, rfl, rfl, h2⟩
    | 17, _ =>
      have p40 : a.tmps[40]?.getD undef = .int .i64 0 := Gr.slot (hpre { on := 16, ground := .data } (by obtain rfl := Option.some.inj ho; simp) rfl (by decide))
      obtain rfl := Option.some.inj ho
      refine Gr.val (v := .bool false) (w' := W1) (by simp [go_sem, p40]) ⟨_, rfl, rfl, Below.refl _ _⟩
    | 18, _ =>
      have p38 : a.tmps[38]?.getD undef = .bool false := Gr.slot (hpre { on := 14, ground := .data } (by obtain rfl := Option.some.inj ho; simp) rfl (by decide))
      have p41 : a.tmps[41]?.getD undef = .bool false := Gr.slot (hpre { on := 17, ground := .data } (by obtain rfl := Option.some.inj ho; simp) rfl (by decide))
      obtain rfl := Option.some.inj ho
      refine Gr.val (v := .bool false) (w' := W1) (by simp [go_sem, p38, p41]) ⟨_, rfl, rfl, Below.refl _ _⟩
    | 19, _ =>
      have p42 : a.tmps[42]?.getD undef = .bool false := Gr.slot (hpre { on := 18, ground := .data } (by obtain rfl := Option.some.inj ho; simp) rfl (by decide))
      obtain rfl := Option.some.inj ho
      refine Gr.val (v := .bool false) (w' := W1) (by simp [go_sem, p42]) ⟨_, rfl, rfl, Below.refl _ _⟩
    | 20, _ =>
      obtain rfl := Option.some.inj ho
      refine Gr.val (v := .agg #[.int .i64 pb.kind, .slice R1 pb.keys.length r1, .slice R2 pb.vals.length r2, .slice R3 pb.kids.length r3]) (w' := W1) (by simp [go_sem, t5, b0, b1, b2, b3]) ⟨_, rfl, rfl, Below.refl _ _⟩
    | 21, _ =>
      have p44 : a.tmps[44]?.getD undef = .agg #[.int .i64 pb.kind, .slice R1 pb.keys.length r1, .slice R2 pb.vals.length r2, .slice R3 pb.kids.length r3] := Gr.slot (hpre { on := 20, ground := .data } (by obtain rfl := Option.some.inj ho; simp) rfl (by decide))
      obtain rfl := Option.some.inj ho
      refine Gr.call (f := 30) (args := #[.agg #[.int .i64 pb.kind, .slice R1 pb.keys.length r1, .slice R2 pb.vals.length r2, .slice R3 pb.kids.length r3]]) (by simp [go_sem, p44]) ((CCb.out W1 hatb).mono ?_)
      rintro e w' ⟨rfl, h2⟩
      exact ⟨_, rfl, _, rfl, rfl, h2⟩
    | 22, _ =>
      have p45 : a.tmps[45]?.getD undef = .int .i64 0 := Gr.slot (hpre { on := 21, ground := .data } (by obtain rfl := Option.some.inj ho; simp) rfl (by decide))
      obtain rfl := Option.some.inj ho
      refine Gr.val (v := .bool false) (w' := W1) (by simp [go_sem, p45]) ⟨_, rfl, rfl, Below.refl _ _⟩
    | 23, _ =>
      have p43 : a.tmps[43]?.getD undef = .bool false := Gr.slot (hpre { on := 19, ground := .data } (by obtain rfl := Option.some.inj ho; simp) rfl (by decide))
      have p46 : a.tmps[46]?.getD undef = .bool false := Gr.slot (hpre { on := 22, ground := .data } (by obtain rfl := Option.some.inj ho; simp) rfl (by decide))
      obtain rfl := Option.some.inj ho
      refine Gr.val (v := .bool false) (w' := W1) (by simp [go_sem, p43, p46]) ⟨_, rfl, rfl, Below.refl _ _⟩
    | 24, _ =>
      have p47 : a.tmps[47]?.getD undef = .bool false := Gr.slot (hpre { on := 23, ground := .data } (by obtain rfl := Option.some.inj ho; simp) rfl (by decide))
      obtain rfl := Option.some.inj ho
      refine Gr.val (v := .bool false) (w' := W1) (by simp [go_sem, p47]) ⟨_, rfl, rfl, Below.refl _ _⟩
    | 25, _ =>
      obtain rfl := Option.some.inj ho
      refine Gr.val (v := .pointer (some ⟨g4, 0, none⟩)) (w' := W1) (by simp [go_sem, t4]) ⟨_, rfl, rfl, Below.refl _ _⟩
    | 26, _ =>
      have p49 : a.tmps[49]?.getD undef = .pointer (some ⟨g4, 0, none⟩) := Gr.slot (hpre { on := 25, ground := .data } (by obtain rfl := Option.some.inj ho; simp) rfl (by decide))
      obtain rfl := Option.some.inj ho
      refine Gr.val (v := .int .i64 pa.kind) (w' := W1) (by simp [go_sem, p49, a0]) ⟨_, rfl, rfl, Below.refl _ _⟩
    | 27, _ =>
      obtain rfl := Option.some.inj ho
      refine Gr.val (v := .pointer (some ⟨w.heap.size, 0, none⟩)) (w' := W1) (by simp [go_sem, t1]) ⟨_, rfl, rfl, Below.refl _ _⟩
    | 28, _ =>
      have p51 : a.tmps[51]?.getD undef = .pointer (some ⟨w.heap.size, 0, none⟩) := Gr.slot (hpre { on := 27, ground := .data } (by obtain rfl := Option.some.inj ho; simp) rfl (by decide))
      obtain rfl := Option.some.inj ho
      refine Gr.val (v := .int .i64 m.kind) (w' := W1) (by simp [go_sem, p51, n0]) ⟨_, rfl, rfl, Below.refl _ _⟩
    | 29, _ =>
      have p50 : a.tmps[50]?.getD undef = .int .i64 pa.kind := Gr.slot (hpre { on := 26, ground := .data } (by obtain rfl := Option.some.inj ho; simp) rfl (by decide))
      have p52 : a.tmps[52]?.getD undef = .int .i64 m.kind := Gr.slot (hpre { on := 28, ground := .data } (by obtain rfl := Option.some.inj ho; simp) rfl (by decide))
      obtain rfl := Option.some.inj ho
      refine Gr.val (v := .bool false) (w' := W1) (by simp [go_sem, p50, p52, hka]) ⟨_, rfl, rfl, Below.refl _ _⟩
    | 30, _ =>
      have p48 : a.tmps[48]?.getD undef = .bool false := Gr.slot (hpre { on := 24, ground := .data } (by obtain rfl := Option.some.inj ho; simp) rfl (by decide))
      have p53 : a.tmps[53]?.getD undef = .bool false := Gr.slot (hpre { on := 29, ground := .data } (by obtain rfl := Option.some.inj ho; simp) rfl (by decide))
      obtain rfl := Option.some.inj ho
      refine Gr.val (v := .bool false) (w' := W1) (by simp [go_sem, p48, p53]) ⟨_, rfl, rfl, Below.refl _ _⟩
    | 31, _ =>
      have p54 : a.tmps[54]?.getD undef = .bool false := Gr.slot (hpre { on := 30, ground := .data } (by obtain rfl := Option.some.inj ho; simp) rfl (by decide))
      obtain rfl := Option.some.inj ho
      refine Gr.val (v := .bool false) (w' := W1) (by simp [go_sem, p54]) ⟨_, rfl, rfl, Below.refl _ _⟩
    | 32, _ =>
      obtain rfl := Option.some.inj ho
      refine Gr.val (v := .pointer (some ⟨g5, 0, none⟩)) (w' := W1) (by simp [go_sem, t5]) ⟨_, rfl, rfl, Below.refl _ _⟩
    | 33, _ =>
      have p56 : a.tmps[56]?.getD undef = .pointer (some ⟨g5, 0, none⟩) := Gr.slot (hpre { on := 32, ground := .data } (by obtain rfl := Option.some.inj ho; simp) rfl (by decide))
      obtain rfl := Option.some.inj ho
      refine Gr.val (v := .int .i64 pb.kind) (w' := W1) (by simp [go_sem, p56, b0]) ⟨_, rfl, rfl, Below.refl _ _⟩
    | 34, _ =>
      obtain rfl := Option.some.inj ho
      refine Gr.val (v := .pointer (some ⟨w.heap.size, 0, none⟩)) (w' := W1) (by simp [go_sem, t1]) ⟨_, rfl, rfl, Below.refl _ _⟩
    | 35, _ =>
      have p58 : a.tmps[58]?.getD undef = .pointer (some ⟨w.heap.size, 0, none⟩) := Gr.slot (hpre { on := 34, ground := .data } (by obtain rfl := Option.some.inj ho; simp) rfl (by decide))
      obtain rfl := Option.some.inj ho
      refine Gr.val (v := .int .i64 m.kind) (w' := W1) (by simp [go_sem, p58, n0]) ⟨_, rfl, rfl, Below.refl _ _⟩
    | 36, _ =>
      have p57 : a.tmps[57]?.getD undef = .int .i64 pb.kind := Gr.slot (hpre { on := 33, ground := .data } (by obtain rfl := Option.some.inj ho; simp) rfl (by decide))
      have p59 : a.tmps[59]?.getD undef = .int .i64 m.kind := Gr.slot (hpre { on := 35, ground := .data } (by obtain rfl := Option.some.inj ho; simp) rfl (by decide))
      obtain rfl := Option.some.inj ho
      refine Gr.val (v := .bool false) (w' := W1) (by simp [go_sem, p57, p59, hkb]) ⟨_, rfl, rfl, Below.refl _ _⟩
    | 37, _ =>
      have p55 : a.tmps[55]?.getD undef = .bool false := Gr.slot (hpre { on := 31, ground := .data } (by obtain rfl := Option.some.inj ho; simp) rfl (by decide))
      have p60 : a.tmps[60]?.getD undef = .bool false := Gr.slot (hpre { on := 36, ground := .data } (by obtain rfl := Option.some.inj ho; simp) rfl (by decide))
      obtain rfl := Option.some.inj ho
      refine Gr.val (v := .bool false) (w' := W1) (by simp [go_sem, p55, p60]) ⟨_, rfl, rfl, Below.refl _ _⟩
    | 38, _ =>
      have p61 : a.tmps[61]?.getD undef = .bool false := Gr.slot (hpre { on := 37, ground := .data } (by obtain rfl := Option.some.inj ho; simp) rfl (by decide))
      obtain rfl := Option.some.inj ho
      refine Gr.val (v := .bool false) (w' := W1) (by simp [go_sem, p61]) ⟨_, rfl, rfl, Below.refl _ _⟩
    | 39, _ =>
      obtain rfl := Option.some.inj ho
      refine Gr.val (v := .agg #[.int .i64 pa.kind, .slice P1 pa.keys.length p1, .slice P2 pa.vals.length p2, .slice P3 pa.kids.length p3]) (w' := W1) (by simp [go_sem, t4, a0, a1, a2, a3]) ⟨_, rfl, rfl, Below.refl _ _⟩
    | 40, _ =>
      obtain rfl := Option.some.inj ho
      refine Gr.val (v := .agg #[.int .i64 pb.kind, .slice R1 pb.keys.length r1, .slice R2 pb.vals.length r2, .slice R3 pb.kids.length r3]) (w' := W1) (by simp [go_sem, t5, b0, b1, b2, b3]) ⟨_, rfl, rfl, Below.refl _ _⟩
    | 41, _ =>
      have p63 : a.tmps[63]?.getD undef = .agg #[.int .i64 pa.kind, .slice P1 pa.keys.length p1, .slice P2 pa.vals.length p2, .slice P3 pa.kids.length p3] := Gr.slot (hpre { on := 39, ground := .data } (by obtain rfl := Option.some.inj ho; simp) rfl (by decide))
      have p64 : a.tmps[64]?.getD undef = .agg #[.int .i64 pb.kind, .slice R1 pb.keys.length r1, .slice R2 pb.vals.length r2, .slice R3 pb.kids.length r3] := Gr.slot (hpre { on := 40, ground := .data } (by obtain rfl := Option.some.inj ho; simp) rfl (by decide))
      obtain rfl := Option.some.inj ho
      refine Gr.call (f := 44) (args := #[.agg #[.int .i64 pa.kind, .slice P1 pa.keys.length p1, .slice P2 pa.vals.length p2, .slice P3 pa.kids.length p3], .agg #[.int .i64 pb.kind, .slice R1 pb.keys.length r1, .slice R2 pb.vals.length r2, .slice R3 pb.kids.length r3]]) (by simp [go_sem, p63, p64]) ((CJ.out W1 hata hatb).mono ?_)
      rintro e w' ⟨v, rfl, h1, h2⟩
      obtain ⟨J1, J2, J3, j1, j2, j3, hv, hj, _⟩ := nown_out h1
      exact ⟨_, rfl, _, rfl, ⟨J1, J2, J3, j1, j2, j3, hv, hj⟩, h2⟩
    | 42, _ =>
      obtain rfl := Option.some.inj ho
      refine Gr.val (v := .agg #[.int .i64 m.kind, .slice F1 m.keys.length f1, .slice F2 m.vals.length f2, .slice F3 m.kids.length f3]) (w' := W1) (by simp [go_sem, t1, n0, n1, n2, n3]) ⟨_, rfl, rfl, Below.refl _ _⟩
    | 43, _ =>
      have q65 : (NVal m) (a.eval (.tmp 65)) W1 := hpre { on := 41, ground := .data } (by obtain rfl := Option.some.inj ho; simp) rfl (by decide)
      have p66 : a.tmps[66]?.getD undef = .agg #[.int .i64 m.kind, .slice F1 m.keys.length f1, .slice F2 m.vals.length f2, .slice F3 m.kids.length f3] := Gr.slot (hpre { on := 42, ground := .data } (by obtain rfl := Option.some.inj ho; simp) rfl (by decide))
      obtain ⟨J1, J2, J3, j1, j2, j3, hv, hj⟩ := q65
      have p65 := Gr.slot hv
      obtain rfl := Option.some.inj ho
      refine Gr.call (f := 39) (args := #[nv J1 J2 J3 j1 j2 j3 m, .agg #[.int .i64 m.kind, .slice F1 m.keys.length f1, .slice F2 m.vals.length f2, .slice F3 m.kids.length f3]]) (by simp [go_sem, p66, p65]) ((CS.out J1 J2 J3 j1 j2 j3 F1 F2 F3 f1 f2 f3 W1 hj hatn).mono ?_)
      rintro e w' ⟨rfl, h2⟩
      exact ⟨_, rfl, _, rfl, rfl, h2⟩
    | 44, _ =>
      have p67 : a.tmps[67]?.getD undef = .bool true := Gr.slot (hpre { on := 43, ground := .data } (by obtain rfl := Option.some.inj ho; simp) rfl (by decide))
      obtain rfl := Option.some.inj ho
      refine Gr.val (v := .bool false) (w' := W1) (by simp [go_sem, p67]) ⟨_, rfl, rfl, Below.refl _ _⟩
    | 45, _ =>
      have p62 : a.tmps[62]?.getD undef = .bool false := Gr.slot (hpre { on := 38, ground := .data } (by obtain rfl := Option.some.inj ho; simp) rfl (by decide))
      have p68 : a.tmps[68]?.getD undef = .bool false := Gr.slot (hpre { on := 44, ground := .data } (by obtain rfl := Option.some.inj ho; simp) rfl (by decide))
      obtain rfl := Option.some.inj ho
      refine Gr.val (v := .bool false) (w' := W1) (by simp [go_sem, p62, p68]) ⟨_, rfl, rfl, Below.refl _ _⟩
    | i + 46, h => omega
  intro a W9 hb hfr hall
  obtain ⟨u0, hu0⟩ : ∃ u, a.tmps[0]?.getD undef = u := ⟨_, rfl⟩
  obtain ⟨u2, hu2⟩ : ∃ u, a.tmps[2]?.getD undef = u := ⟨_, rfl⟩
  obtain ⟨u6, hu6⟩ : ∃ u, a.tmps[6]?.getD undef = u := ⟨_, rfl⟩
  obtain ⟨u7, hu7⟩ : ∃ u, a.tmps[7]?.getD undef = u := ⟨_, rfl⟩
  obtain ⟨u8, hu8⟩ : ∃ u, a.tmps[8]?.getD undef = u := ⟨_, rfl⟩
  obtain ⟨u9, hu9⟩ : ∃ u, a.tmps[9]?.getD undef = u := ⟨_, rfl⟩
  obtain ⟨u10, hu10⟩ : ∃ u, a.tmps[10]?.getD undef = u := ⟨_, rfl⟩
  obtain ⟨u11, hu11⟩ : ∃ u, a.tmps[11]?.getD undef = u := ⟨_, rfl⟩
  obtain ⟨u12, hu12⟩ : ∃ u, a.tmps[12]?.getD undef = u := ⟨_, rfl⟩
  obtain ⟨u13, hu13⟩ : ∃ u, a.tmps[13]?.getD undef = u := ⟨_, rfl⟩
  obtain ⟨u14, hu14⟩ : ∃ u, a.tmps[14]?.getD undef = u := ⟨_, rfl⟩
  obtain ⟨u15, hu15⟩ : ∃ u, a.tmps[15]?.getD undef = u := ⟨_, rfl⟩
  obtain ⟨u16, hu16⟩ : ∃ u, a.tmps[16]?.getD undef = u := ⟨_, rfl⟩
  obtain ⟨u17, hu17⟩ : ∃ u, a.tmps[17]?.getD undef = u := ⟨_, rfl⟩
  obtain ⟨u18, hu18⟩ : ∃ u, a.tmps[18]?.getD undef = u := ⟨_, rfl⟩
  obtain ⟨u19, hu19⟩ : ∃ u, a.tmps[19]?.getD undef = u := ⟨_, rfl⟩
  obtain ⟨u20, hu20⟩ : ∃ u, a.tmps[20]?.getD undef = u := ⟨_, rfl⟩
  obtain ⟨u21, hu21⟩ : ∃ u, a.tmps[21]?.getD undef = u := ⟨_, rfl⟩
  obtain ⟨u22, hu22⟩ : ∃ u, a.tmps[22]?.getD undef = u := ⟨_, rfl⟩
  obtain ⟨u23, hu23⟩ : ∃ u, a.tmps[23]?.getD undef = u := ⟨_, rfl⟩
  obtain ⟨u24, hu24⟩ : ∃ u, a.tmps[24]?.getD undef = u := ⟨_, rfl⟩
  obtain ⟨u25, hu25⟩ : ∃ u, a.tmps[25]?.getD undef = u := ⟨_, rfl⟩
  obtain ⟨u26, hu26⟩ : ∃ u, a.tmps[26]?.getD undef = u := ⟨_, rfl⟩
  obtain ⟨u27, hu27⟩ : ∃ u, a.tmps[27]?.getD undef = u := ⟨_, rfl⟩
  obtain ⟨u28, hu28⟩ : ∃ u, a.tmps[28]?.getD undef = u := ⟨_, rfl⟩
  obtain ⟨u29, hu29⟩ : ∃ u, a.tmps[29]?.getD undef = u := ⟨_, rfl⟩
  obtain ⟨u30, hu30⟩ : ∃ u, a.tmps[30]?.getD undef = u := ⟨_, rfl⟩
  obtain ⟨u31, hu31⟩ : ∃ u, a.tmps[31]?.getD undef = u := ⟨_, rfl⟩
  obtain ⟨u32, hu32⟩ : ∃ u, a.tmps[32]?.getD undef = u := ⟨_, rfl⟩
  obtain ⟨u33, hu33⟩ : ∃ u, a.tmps[33]?.getD undef = u := ⟨_, rfl⟩
  obtain ⟨u34, hu34⟩ : ∃ u, a.tmps[34]?.getD undef = u := ⟨_, rfl⟩
  obtain ⟨u35, hu35⟩ : ∃ u, a.tmps[35]?.getD undef = u := ⟨_, rfl⟩
  obtain ⟨u36, hu36⟩ : ∃ u, a.tmps[36]?.getD undef = u := ⟨_, rfl⟩
  obtain ⟨u37, hu37⟩ : ∃ u, a.tmps[37]?.getD undef = u := ⟨_, rfl⟩
  obtain ⟨u38, hu38⟩ : ∃ u, a.tmps[38]?.getD undef = u := ⟨_, rfl⟩
  obtain ⟨u39, hu39⟩ : ∃ u, a.tmps[39]?.getD undef = u := ⟨_, rfl⟩
  obtain ⟨u40, hu40⟩ : ∃ u, a.tmps[40]?.getD undef = u := ⟨_, rfl⟩
  obtain ⟨u41, hu41⟩ : ∃ u, a.tmps[41]?.getD undef = u := ⟨_, rfl⟩
  obtain ⟨u42, hu42⟩ : ∃ u, a.tmps[42]?.getD undef = u := ⟨_, rfl⟩
  obtain ⟨u43, hu43⟩ : ∃ u, a.tmps[43]?.getD undef = u := ⟨_, rfl⟩
  obtain ⟨u44, hu44⟩ : ∃ u, a.tmps[44]?.getD undef = u := ⟨_, rfl⟩
  obtain ⟨u45, hu45⟩ : ∃ u, a.tmps[45]?.getD undef = u := ⟨_, rfl⟩
  obtain ⟨u46, hu46⟩ : ∃ u, a.tmps[46]?.getD undef = u := ⟨_, rfl⟩
  obtain ⟨u47, hu47⟩ : ∃ u, a.tmps[47]?.getD undef = u := ⟨_, rfl⟩
  obtain ⟨u48, hu48⟩ : ∃ u, a.tmps[48]?.getD undef = u := ⟨_, rfl⟩
  obtain ⟨u49, hu49⟩ : ∃ u, a.tmps[49]?.getD undef = u := ⟨_, rfl⟩
  obtain ⟨u50, hu50⟩ : ∃ u, a.tmps[50]?.getD undef = u := ⟨_, rfl⟩
  obtain ⟨u51, hu51⟩ : ∃ u, a.tmps[51]?.getD undef = u := ⟨_, rfl⟩
  obtain ⟨u52, hu52⟩ : ∃ u, a.tmps[52]?.getD undef = u := ⟨_, rfl⟩
  obtain ⟨u53, hu53⟩ : ∃ u, a.tmps[53]?.getD undef = u := ⟨_, rfl⟩
  obtain ⟨u54, hu54⟩ : ∃ u, a.tmps[54]?.getD undef = u := ⟨_, rfl⟩
  obtain ⟨u55, hu55⟩ : ∃ u, a.tmps[55]?.getD undef = u := ⟨_, rfl⟩
  obtain ⟨u56, hu56⟩ : ∃ u, a.tmps[56]?.getD undef = u := ⟨_, rfl⟩
  obtain ⟨u57, hu57⟩ : ∃ u, a.tmps[57]?.getD undef = u := ⟨_, rfl⟩
  obtain ⟨u58, hu58⟩ : ∃ u, a.tmps[58]?.getD undef = u := ⟨_, rfl⟩
  obtain ⟨u59, hu59⟩ : ∃ u, a.tmps[59]?.getD undef = u := ⟨_, rfl⟩
  obtain ⟨u60, hu60⟩ : ∃ u, a.tmps[60]?.getD undef = u := ⟨_, rfl⟩
  obtain ⟨u61, hu61⟩ : ∃ u, a.tmps[61]?.getD undef = u := ⟨_, rfl⟩
  obtain ⟨u62, hu62⟩ : ∃ u, a.tmps[62]?.getD undef = u := ⟨_, rfl⟩
  obtain ⟨u63, hu63⟩ : ∃ u, a.tmps[63]?.getD undef = u := ⟨_, rfl⟩
  obtain ⟨u64, hu64⟩ : ∃ u, a.tmps[64]?.getD undef = u := ⟨_, rfl⟩
  obtain ⟨u65, hu65⟩ : ∃ u, a.tmps[65]?.getD undef = u := ⟨_, rfl⟩
  obtain ⟨u66, hu66⟩ : ∃ u, a.tmps[66]?.getD undef = u := ⟨_, rfl⟩
  obtain ⟨u67, hu67⟩ : ∃ u, a.tmps[67]?.getD undef = u := ⟨_, rfl⟩
  obtain ⟨u68, hu68⟩ : ∃ u, a.tmps[68]?.getD undef = u := ⟨_, rfl⟩
  obtain ⟨u70, hu70⟩ : ∃ u, a.tmps[70]?.getD undef = u := ⟨_, rfl⟩
  obtain ⟨u71, hu71⟩ : ∃ u, a.tmps[71]?.getD undef = u := ⟨_, rfl⟩
  obtain ⟨u72, hu72⟩ : ∃ u, a.tmps[72]?.getD undef = u := ⟨_, rfl⟩
  obtain ⟨u73, hu73⟩ : ∃ u, a.tmps[73]?.getD undef = u := ⟨_, rfl⟩
  obtain ⟨u74, hu74⟩ : ∃ u, a.tmps[74]?.getD undef = u := ⟨_, rfl⟩
  obtain ⟨u75, hu75⟩ : ∃ u, a.tmps[75]?.getD undef = u := ⟨_, rfl⟩
  obtain ⟨u76, hu76⟩ : ∃ u, a.tmps[76]?.getD undef = u := ⟨_, rfl⟩
  obtain ⟨u77, hu77⟩ : ∃ u, a.tmps[77]?.getD undef = u := ⟨_, rfl⟩
  obtain ⟨u78, hu78⟩ : ∃ u, a.tmps[78]?.getD undef = u := ⟨_, rfl⟩
  obtain ⟨u79, hu79⟩ : ∃ u, a.tmps[79]?.getD undef = u := ⟨_, rfl⟩
  obtain ⟨u80, hu80⟩ : ∃ u, a.tmps[80]?.getD undef = u := ⟨_, rfl⟩
  obtain ⟨u81, hu81⟩ : ∃ u, a.tmps[81]?.getD undef = u := ⟨_, rfl⟩
  obtain ⟨u82, hu82⟩ : ∃ u, a.tmps[82]?.getD undef = u := ⟨_, rfl⟩
  obtain ⟨u83, hu83⟩ : ∃ u, a.tmps[83]?.getD undef = u := ⟨_, rfl⟩
  obtain ⟨u84, hu84⟩ : ∃ u, a.tmps[84]?.getD undef = u := ⟨_, rfl⟩
  obtain ⟨u85, hu85⟩ : ∃ u, a.tmps[85]?.getD undef = u := ⟨_, rfl⟩
  obtain ⟨u86, hu86⟩ : ∃ u, a.tmps[86]?.getD undef = u := ⟨_, rfl⟩
  obtain ⟨u87, hu87⟩ : ∃ u, a.tmps[87]?.getD undef = u := ⟨_, rfl⟩
  obtain ⟨u88, hu88⟩ : ∃ u, a.tmps[88]?.getD undef = u := ⟨_, rfl⟩
  obtain ⟨u89, hu89⟩ : ∃ u, a.tmps[89]?.getD undef = u := ⟨_, rfl⟩
  obtain ⟨u90, hu90⟩ : ∃ u, a.tmps[90]?.getD undef = u := ⟨_, rfl⟩
  obtain ⟨u91, hu91⟩ : ∃ u, a.tmps[91]?.getD undef = u := ⟨_, rfl⟩
  obtain ⟨u92, hu92⟩ : ∃ u, a.tmps[92]?.getD undef = u := ⟨_, rfl⟩
  have hA : a = ⟨#[u0, .pointer (some ⟨w.heap.size, 0, none⟩), u2, .pointer (some ⟨g3, 0, none⟩), .pointer (some ⟨g4, 0, none⟩), .pointer (some ⟨g5, 0, none⟩), u6, u7, u8, u9, u10, u11, u12, u13, u14, u15, u16, u17, u18, u19, u20, u21, u22, u23, u24, u25, u26, u27, u28, u29, u30, u31, u32, u33, u34, u35, u36, u37, u38, u39, u40, u41, u42, u43, u44, u45, u46, u47, u48, u49, u50, u51, u52, u53, u54, u55, u56, u57, u58, u59, u60, u61, u62, u63, u64, u65, u66, u67, u68, .bool false, u70, u71, u72, u73, u74, u75, u76, u77, u78, u79, u80, u81, u82, u83, u84, u85, u86, u87, u88, u89, u90, u91, u92], []⟩ := Gr.act_eq (l := [u0, .pointer (some ⟨w.heap.size, 0, none⟩), u2, .pointer (some ⟨g3, 0, none⟩), .pointer (some ⟨g4, 0, none⟩), .pointer (some ⟨g5, 0, none⟩), u6, u7, u8, u9, u10, u11, u12, u13, u14, u15, u16, u17, u18, u19, u20, u21, u22, u23, u24, u25, u26, u27, u28, u29, u30, u31, u32, u33, u34, u35, u36, u37, u38, u39, u40, u41, u42, u43, u44, u45, u46, u47, u48, u49, u50, u51, u52, u53, u54, u55, u56, u57, u58, u59, u60, u61, u62, u63, u64, u65, u66, u67, u68, .bool false, u70, u71, u72, u73, u74, u75, u76, u77, u78, u79, u80, u81, u82, u83, u84, u85, u86, u87, u88, u89, u90, u91, u92]) hfr.d hfr.s (by
    intro i hi
    match i, hi with
    | 0, _ => exact hu0
    | 1, _ => exact Gr.slot (hfr.f 1 (by omega))
    | 2, _ => exact hu2
    | 3, _ => exact Gr.slot (hfr.f 3 (by omega))
    | 4, _ => exact Gr.slot (hfr.f 4 (by omega))
    | 5, _ => exact Gr.slot (hfr.f 5 (by omega))
    | 6, _ => exact hu6
    | 7, _ => exact hu7
    | 8, _ => exact hu8
    | 9, _ => exact hu9
    | 10, _ => exact hu10
    | 11, _ => exact hu11
    | 12, _ => exact hu12
    | 13, _ => exact hu13
    | 14, _ => exact hu14
    | 15, _ => exact hu15
    | 16, _ => exact hu16
    | 17, _ => exact hu17
    | 18, _ => exact hu18
    | 19, _ => exact hu19
    | 20, _ => exact hu20
    | 21, _ => exact hu21
    | 22, _ => exact hu22
    | 23, _ => exact hu23
    | 24, _ => exact hu24
    | 25, _ => exact hu25
    | 26, _ => exact hu26
    | 27, _ => exact hu27
    | 28, _ => exact hu28
    | 29, _ => exact hu29
    | 30, _ => exact hu30
    | 31, _ => exact hu31
    | 32, _ => exact hu32
    | 33, _ => exact hu33
    | 34, _ => exact hu34
    | 35, _ => exact hu35
    | 36, _ => exact hu36
    | 37, _ => exact hu37
    | 38, _ => exact hu38
    | 39, _ => exact hu39
    | 40, _ => exact hu40
    | 41, _ => exact hu41
    | 42, _ => exact hu42
    | 43, _ => exact hu43
    | 44, _ => exact hu44
    | 45, _ => exact hu45
    | 46, _ => exact hu46
    | 47, _ => exact hu47
    | 48, _ => exact hu48
    | 49, _ => exact hu49
    | 50, _ => exact hu50
    | 51, _ => exact hu51
    | 52, _ => exact hu52
    | 53, _ => exact hu53
    | 54, _ => exact hu54
    | 55, _ => exact hu55
    | 56, _ => exact hu56
    | 57, _ => exact hu57
    | 58, _ => exact hu58
    | 59, _ => exact hu59
    | 60, _ => exact hu60
    | 61, _ => exact hu61
    | 62, _ => exact hu62
    | 63, _ => exact hu63
    | 64, _ => exact hu64
    | 65, _ => exact hu65
    | 66, _ => exact hu66
    | 67, _ => exact hu67
    | 68, _ => exact hu68
    | 69, _ => exact Gr.slot (hall 45 (by omega))
    | 70, _ => exact hu70
    | 71, _ => exact hu71
    | 72, _ => exact hu72
    | 73, _ => exact hu73
    | 74, _ => exact hu74
    | 75, _ => exact hu75
    | 76, _ => exact hu76
    | 77, _ => exact hu77
    | 78, _ => exact hu78
    | 79, _ => exact hu79
    | 80, _ => exact hu80
    | 81, _ => exact hu81
    | 82, _ => exact hu82
    | 83, _ => exact hu83
    | 84, _ => exact hu84
    | 85, _ => exact hu85
    | 86, _ => exact hu86
    | 87, _ => exact hu87
    | 88, _ => exact hu88
    | 89, _ => exact hu89
    | 90, _ => exact hu90
    | 91, _ => exact hu91
    | 92, _ => exact hu92
    | i + 93, h => simp only [List.length_cons, List.length_nil] at h; omega)
  clear hu0 hu2 hu6 hu7 hu8 hu9 hu10 hu11 hu12 hu13 hu14 hu15 hu16 hu17 hu18 hu19 hu20 hu21 hu22 hu23 hu24 hu25 hu26 hu27 hu28 hu29 hu30 hu31 hu32 hu33 hu34 hu35 hu36 hu37 hu38 hu39 hu40 hu41 hu42 hu43 hu44 hu45 hu46 hu47 hu48 hu49 hu50 hu51 hu52 hu53 hu54 hu55 hu56 hu57 hu58 hu59 hu60 hu61 hu62 hu63 hu64 hu65 hu66 hu67 hu68 hu70 hu71 hu72 hu73 hu74 hu75 hu76 hu77 hu78 hu79 hu80 hu81 hu82 hu83 hu84 hu85 hu86 hu87 hu88 hu89 hu90 hu91 hu92
  subst hA
  have B9 := Lib.hid (B8.out.trans (hb.mono B8.out.size))
  have X9 := Lib.hid (X8.out.below hb)
  have Ua := Lib.hid (Ya.out.below hb)
  have Ub := Lib.hid (Yb.out.below hb)
  clear hb hfr hall N8 X8 Ya Yb B8 hka hkb HKa HKb CCa CCb CCa0 CCb0 CJ CJ0 CLa0 CLb0 CS CAt CSp CO CA CR
  obtain ⟨x0, x1, x2, x3⟩ := X9.out.p
  have CFa := Lib.hid (CFa0.out P1 P2 P3 p1 p2 p3)
  have CFb := Lib.hid (CFb0.out R1 R2 R3 r1 r2 r3)
  by_cases hf1 : (size m : Int) ≤ 240
  · rw [decide_eq_true hf1] at CFi
    go_wp2_with (go_at_call 37; ((with_reducible refine (CFi.out _ _ _ _ _ _ _ X9.out.a).mono ?_); rintro e w10 ⟨rfl, hb10⟩; have B10 := Lib.hid (B9.out.trans (hb10.mono B9.out.size)); clear hb10))
    go_ret
    exact ⟨rfl, B10.out⟩
  rw [decide_eq_false hf1] at CFi
  by_cases hf2 : (size m : Int) > 290
  · go_wp2_with (first
      | (go_at_call 37; ((with_reducible refine (CFi.out _ _ _ _ _ _ _ X9.out.a).mono ?_); rintro e w10 ⟨rfl, hb10⟩; have B10 := Lib.hid (B9.out.trans (hb10.mono B9.out.size)); have X10 := Lib.hid (X9.out.below hb10); clear hb10 x0 x1 x2 x3; obtain ⟨x0, x1, x2, x3⟩ := X10.out.p))
      | (go_at_call 36; ((with_reducible refine (CSz.out _ _ _ _ _ _ _ X10.out.a).mono ?_); rintro e w11 ⟨rfl, hb11⟩; have B11 := Lib.hid (B10.out.trans (hb11.mono B10.out.size)); clear hb11)))
    go_ret
    exact ⟨rfl, B11.out⟩
  obtain ⟨q1, q2, q3, q4⟩ := HF.out (by omega) (by omega)
  rw [decide_eq_true (show (size pa : Int) ≤ 240 by omega)] at CFa
  rw [decide_eq_true (show (size pb : Int) ≤ 240 by omega)] at CFb
  have i3 : (mid m : Int) ≥ 2 := by omega
  have i4 : (m.keys.length : Int) - (mid m : Int) ≥ 2 := by omega
  go_upto_region 13 with (first
    | (go_at_call 37; ((with_reducible refine (CFi.out _ _ _ _ _ _ _ X9.out.a).mono ?_); rintro e w10 ⟨rfl, hb10⟩; have B10 := Lib.hid (B9.out.trans (hb10.mono B9.out.size)); have X10 := Lib.hid (X9.out.below hb10); have Va := Lib.hid (Ua.out.below hb10); have Vb := Lib.hid (Ub.out.below hb10); clear hb10 x0 x1 x2 x3; obtain ⟨x0, x1, x2, x3⟩ := X10.out.p))
    | (go_at_call 36; ((with_reducible refine (CSz.out _ _ _ _ _ _ _ X10.out.a).mono ?_); rintro e w11 ⟨rfl, hb11⟩; have B11 := Lib.hid (B10.out.trans (hb11.mono B10.out.size)); have Wa := Lib.hid (Va.out.below hb11); have Wb := Lib.hid (Vb.out.below hb11); clear hb11 x0 x1 x2 x3)))
  obtain ⟨a0, a1, a2, a3⟩ := Wa.out.p
  obtain ⟨b0, b1, b2, b3⟩ := Wb.out.p
  go_wp2_with (first
    | (go_at_call 37; ((with_reducible refine (CFa.out _ Wa.out.a).mono ?_); rintro e w12 ⟨rfl, hb12⟩; have B12 := Lib.hid (B11.out.trans (hb12.mono B11.out.size)); have Ma := Lib.hid (Wa.out.below hb12); have Mb := Lib.hid (Wb.out.below hb12); clear hb12 a0 a1 a2 a3 b0 b1 b2 b3; obtain ⟨b0, b1, b2, b3⟩ := Mb.out.p))
    | (go_at_call 37; ((with_reducible refine (CFb.out _ Mb.out.a).mono ?_); rintro e w13 ⟨rfl, hb13⟩; have B13 := Lib.hid (B12.out.trans (hb13.mono B12.out.size)); have Na := Lib.hid (Ma.out.below hb13); have Nb := Lib.hid (Mb.out.below hb13); clear hb13 b0 b1 b2 b3; obtain ⟨a0, a1, a2, a3⟩ := Na.out.p))
    | (go_at_call 38; have hm := Na; ((with_reducible refine (CLa.out _).mono ?_); rintro e w14 ⟨rfl, hb14⟩; have B14 := Lib.hid (B13.out.trans (hb14.mono B13.out.size)); have Ob := Lib.hid (Nb.out.below hb14); clear hb14 a0 a1 a2 a3; obtain ⟨b0, b1, b2, b3⟩ := Ob.out.p))
    | (go_at_call 38; ((with_reducible refine (CLb.out _).mono ?_); rintro e w15 ⟨rfl, hb15⟩; have B15 := Lib.hid (B14.out.trans (hb15.mono B14.out.size)); clear hb15)))
  go_ret
  exact ⟨rfl, B15.out⟩
end Nod
end Go.Proofs.Ytjikioiejdfodaa
