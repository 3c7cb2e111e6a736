/-
  The walk of the statement NodeShares.
-/
import Derived.Test.YtjikioiejdfodaaNodeAw
import Derived.Test.YtjikioiejdfodaaNodeRight
import Derived.Test.YtjikioiejdfodaaNodeSpM
import Derived.Test.YtjikioiejdfodaaNodeNC
import Derived.Laws.OwnMore
namespace Go.Proofs.Ytjikioiejdfodaa
open Go.RowKit
namespace Nod
open B V
set_option linter.unusedVariables false
/-- a row of one's own, whatever stands in it -/
def OWr (M : Nat) (e : TypeId) (w : World) (A : Option Addr) (n c : Nat) : Prop := ∃ xs, w.ownsRow M e 1 (.slice A n c) n xs
theorem OWr.cell {M : Nat} {e : TypeId} {w : World} {A : Option Addr} {n c j : Nat} (h : OWr M e w A n c) (hj : j < n) : ∃ g, A = some ⟨g, 0, none⟩ ∧ M ≤ g ∧ (∃ u, w.cell? ⟨g, j, none⟩ = some u) ∧ w.frozen? ⟨g, j, none⟩ = false := by
  obtain ⟨xs, h⟩ := h
  rcases h.2 with ⟨_, hn⟩ | ⟨g, cap, cur, hv, hM, _⟩
  · omega
  · injection hv with e1 _ e3
    subst e1 e3
    refine ⟨g, rfl, hM, ?_, h.frozenAt j⟩
    rw [h.cellAt j (by omega)]
    have := h.1
    exact ⟨xs[j]'(by omega), List.getElem?_eq_getElem (by omega)⟩
theorem OWr.put {M : Nat} {e : TypeId} {w : World} {A : Option Addr} {n c : Nat} (h : OWr M e w A n c) (g j : Nat) (u : Value) : OWr M e (w.setCell ⟨g, j, none⟩ u) A n c := by
  obtain ⟨xs, h⟩ := h
  by_cases hg : (Value.slice A n c).ownBlock = some g
  · rcases h.2 with ⟨hv, hn⟩ | ⟨g', cap, cur, hv, hM, _⟩
    · rw [hv] at hg; cases hg
    · injection hv with e1 _ e3
      subst e1 e3
      injection hg with hg
      simp only at hg
      subst hg
      exact ⟨_, (h.stored j u).1⟩
  · exact ⟨xs, own_put0 h hg⟩
theorem OWr.below {M : Nat} {e : TypeId} {w w' : World} {A : Option Addr} {n c : Nat} (h : OWr M e w A n c) (hb : Below w.heap.size w w') : OWr M e w' A n c := by
  obtain ⟨xs, h⟩ := h
  exact ⟨xs, own_thru hb h⟩
theorem OWr.ne {M : Nat} {e t : TypeId} {w : World} {A : Option Addr} {n c g g' : Nat} {cs : Array Value} (h : OWr M e w A n c) (hA : A = some ⟨g, 0, none⟩) (hg : w.heap[g']? = some (.cells cs t)) (hne : e ≠ t) : g' ≠ g := by
  obtain ⟨xs, h⟩ := h
  subst hA
  intro e
  subst e
  exact own_type h hg hne rfl
structure Y where
  k : Int
  A1 : Option Addr
  l1 : Nat
  c1 : Nat
  A2 : Option Addr
  l2 : Nat
  c2 : Nat
  A3 : Option Addr
  l3 : Nat
  c3 : Nat
def Y.cs (y : Y) : List Value := [.int .i64 y.k, .slice y.A1 y.l1 y.c1, .slice y.A2 y.l2 y.c2, .slice y.A3 y.l3 y.c3]
structure YW (M : Nat) (w : World) (y : Y) : Prop where
  o1 : OWr M 9 w y.A1 y.l1 y.c1
  o2 : OWr M 9 w y.A2 y.l2 y.c2
  o3 : OWr M 3 w y.A3 y.l3 y.c3
theorem YW.below {M : Nat} {w w' : World} {y : Y} (h : YW M w y) (hb : Below w.heap.size w w') : YW M w' y := ⟨h.o1.below hb, h.o2.below hb, h.o3.below hb⟩
theorem YW.put {M : Nat} {w : World} {y : Y} (h : YW M w y) (g j : Nat) (u : Value) : YW M (w.setCell ⟨g, j, none⟩ u) y := ⟨h.o1.put g j u, h.o2.put g j u, h.o3.put g j u⟩
theorem yw_own {M : Nat} {w : World} {A1 A2 A3 : Option Addr} {c1 c2 c3 : Nat} {n : N} (h : NOwn M w (nv A1 A2 A3 c1 c2 c3 n) n) : YW M w ⟨n.kind, A1, n.keys.length, c1, A2, n.vals.length, c2, A3, n.kids.length, c3⟩ := by
  obtain ⟨vk, vv, vc, hv, h1, h2, h3, _⟩ := h
  injection hv with hv
  injection hv with hv
  injection hv with _ hv
  injection hv with e1 hv
  injection hv with e2 hv
  injection hv with e3 _
  subst e1 e2 e3
  exact ⟨⟨_, h1⟩, ⟨_, h2⟩, ⟨_, h3⟩⟩
/-- three nodes side by side, all of whose rows are written to -/
structure SH (M : Nat) (w0 wr : World) (gS : Nat) (cs : Array Value) (ys : List Y) : Prop where
  b : Below M w0 wr
  l : M ≤ gS
  s : wr.heap[gS]? = some (.cells cs 57)
  y : ∀ y ∈ ys, YW M wr y
theorem SH.below {M : Nat} {w0 wr w' : World} {gS : Nat} {cs : Array Value} {ys : List Y} (h : SH M w0 wr gS cs ys) (hM : M ≤ w0.heap.size) (hb : Below wr.heap.size wr w') : SH M w0 w' gS cs ys := ⟨h.b.trans (hb.mono (Nat.le_trans hM h.b.size)), h.l, blk_thru hb h.s, fun y hy => (h.y y hy).below hb⟩
theorem SH.put {M : Nat} {w0 wr : World} {gS g : Nat} {cs : Array Value} {ys : List Y} (h : SH M w0 wr gS cs ys) (hM : M ≤ g) (hne : gS ≠ g) (j : Nat) (u : Value) : SH M w0 (wr.setCell ⟨g, j, none⟩ u) gS cs ys :=
  ⟨h.b.setCell hM u, h.l, B.blk_other h.s hne u, fun y hy => (h.y y hy).put g j u⟩
theorem three_cells {w : World} {g : Nat} {x y z : Y} (h : w.heap[g]? = some (.cells (x.cs ++ y.cs ++ z.cs).toArray 57)) : ∀ i (hi : i < 3), ∃ u ∈ [x, y, z], w.cell? ⟨g, i * 4, none⟩ = some (.int .i64 u.k) ∧ w.cell? ⟨g, i * 4 + 1, none⟩ = some (.slice u.A1 u.l1 u.c1) ∧ w.cell? ⟨g, i * 4 + 2, none⟩ = some (.slice u.A2 u.l2 u.c2) ∧ w.cell? ⟨g, i * 4 + 3, none⟩ = some (.slice u.A3 u.l3 u.c3)
  | 0, _ => ⟨x, by simp, by simp [World.cell?, h, Y.cs]⟩
  | 1, _ => ⟨y, by simp, by simp [World.cell?, h, Y.cs]⟩
  | 2, _ => ⟨z, by simp, by simp [World.cell?, h, Y.cs]⟩
structure SY (M : Nat) (w0 wr : World) (gS : Nat) (cs : Array Value) (ys : List Y) (gy : Nat) (y : Y) : Prop where
  h : SH M w0 wr gS cs ys
  l : M ≤ gy
  r : wr.heap[gy]? = some (.cells #[.int .i64 y.k, .slice y.A1 y.l1 y.c1, .slice y.A2 y.l2 y.c2, .slice y.A3 y.l3 y.c3] 57)
theorem SY.put {M : Nat} {w0 wr : World} {gS gy g n c : Nat} {cs : Array Value} {ys : List Y} {y : Y} {A : Option Addr} {e : TypeId} (h : SY M w0 wr gS cs ys gy y) (hA : A = some ⟨g, 0, none⟩) (ho : OWr M e wr A n c) (hM : M ≤ g) (he : e ≠ 57) (j : Nat) (u : Value) : SY M w0 (wr.setCell ⟨g, j, none⟩ u) gS cs ys gy y :=
  ⟨h.h.put hM (ho.ne hA h.h.s he) j u, h.l, blk_other h.r (ho.ne hA h.r he) u⟩
set_option maxRecDepth 100000 in
set_option maxHeartbeats 8000000 in
theorem nodeShares_walk (A1 A2 A3 : Option Addr) (c1 c2 c3 : Nat) (n : N) (w : World) (h : NAt w A1 A2 A3 n) (hk : n.keys.length ≤ maxLen) (hv : n.vals.length ≤ maxLen) (hc : n.kids.length ≤ maxLen) :
    Calls Try.prog 8 #[nv A1 A2 A3 c1 c2 c3 n] w fun e w' => e = .returned (.bool true) ∧ Below w.heap.size w w' := by
  obtain ⟨hok, l1, l2, l3⟩ := right_ok n
  have hS : Sm (rightN n) := ⟨by omega, by omega, by omega⟩
  have CA := Lib.hid awake_any
  have CR := Lib.hid (fun W (q : Below w.heap.size w W) => right_any A1 A2 A3 c1 c2 c3 n W (h.below q) hk hv hc)
  unfold nv at *
  have B0 := Lib.hid (below1 w (.cells #[.int .i64 n.kind, .slice A1 n.keys.length c1, .slice A2 n.vals.length c2, .slice A3 n.kids.length c3] 55))
  have H0 := Lib.hid (heap_last w (.cells #[.int .i64 n.kind, .slice A1 n.keys.length c1, .slice A2 n.vals.length c2, .slice A3 n.kids.length c3] 55) _ rfl)
  clear h hk hv hc
  generalize rightN n = m at *
  go_enter Try.func8, Try.ntmps8
  go_upto_region 1 with fail
  generalize w.alloc (.cells #[.int .i64 n.kind, .slice A1 n.keys.length c1, .slice A2 n.vals.length c2, .slice A3 n.kids.length c3] 55) = W at *
  go_upto_region 3 with (go_at_call 27; ((with_reducible refine (CA.out _).mono ?_); rintro e w1 ⟨rfl, hb1⟩; have B1 := Lib.hid (B0.out.trans (hb1.mono B0.out.size)); have H1 := Lib.hid (blk_thru hb1 H0.out); clear hb1 B0 H0))
  obtain ⟨⟨x0, x1, x2, x3⟩, y0, y1, y2, y3⟩ := row4 H1.out
  go_upto_region 4 with (go_at_call 32; ((with_reducible refine (CR.out _ B1.out).mono ?_); rintro e w2 ⟨vf, rfl, ho2, hb2⟩; have B2 := Lib.hid (B1.out.trans (hb2.mono B1.out.size)); have H2 := Lib.hid (blk_thru hb2 H1.out); obtain ⟨F1, F2, F3, f1, f2, f3, hvf, hat, hcp⟩ := nown_out ho2; unfold nv at hvf; subst hvf; have O2 := Lib.hid ho2; have LG := Lib.hid (blk_lt H1.out); have CP := Lib.hid (hcp hS.k hS.v hS.c); clear ho2 hb2 H1 B1 x0 x1 x2 x3 y0 y1 y2 y3 hat hcp; obtain ⟨⟨x0, x1, x2, x3⟩, y0, y1, y2, y3⟩ := row4 H2.out))
  have O3 := Lib.hid (nown_put (a := .int .i64 m.kind) (b := .slice F1 m.keys.length f1) (c := .slice F2 m.vals.length f2) (d := .slice F3 m.kids.length f3) O2.out LG.out)
  have B3 : Hid (Below w.heap.size w ((((w2.setCell ⟨w.heap.size, 0, none⟩ (.int .i64 m.kind)).setCell ⟨w.heap.size, 1, none⟩ (.slice F1 m.keys.length f1)).setCell ⟨w.heap.size, 2, none⟩ (.slice F2 m.vals.length f2)).setCell ⟨w.heap.size, 3, none⟩ (.slice F3 m.kids.length f3))) := below_put4 B2.out (Nat.le_refl _)
  have N3 : Hid (NC 55 ((((w2.setCell ⟨w.heap.size, 0, none⟩ (.int .i64 m.kind)).setCell ⟨w.heap.size, 1, none⟩ (.slice F1 m.keys.length f1)).setCell ⟨w.heap.size, 2, none⟩ (.slice F2 m.vals.length f2)).setCell ⟨w.heap.size, 3, none⟩ (.slice F3 m.kids.length f3)) w.heap.size F1 F2 F3 f1 f2 f3 m) := ⟨set4 H2.out _ _ _ _, nown_nat O3.out⟩
  clear x0 x1 x2 x3 y0 y1 y2 y3 B2 H2 O2 O3 LG
  generalize (((w2.setCell ⟨w.heap.size, 0, none⟩ (.int .i64 m.kind)).setCell ⟨w.heap.size, 1, none⟩ (.slice F1 m.keys.length f1)).setCell ⟨w.heap.size, 2, none⟩ (.slice F2 m.vals.length f2)).setCell ⟨w.heap.size, 3, none⟩ (.slice F3 m.kids.length f3) = W3 at *
  obtain ⟨x0, x1, x2, x3⟩ := N3.out.p
  by_cases h2 : m.keys.length < 2
  · have hI : (m.keys.length : Int) < 2 := by omega
    go_wp2
    go_ret
    exact ⟨rfl, B3.out⟩
  have hI : ¬ (m.keys.length : Int) < 2 := by omega
  have hL2 : 2 ≤ m.keys.length := by omega
  obtain ⟨s1, s2, s3⟩ := mid_spec (n := m) (by omega)
  have s0 := mid_pos hL2
  have oka := part_ok hok (lo := 0) (hi := mid m) (by omega) (by omega)
  have okb := part_ok hok (lo := mid m) (hi := m.keys.length) (by omega) (by omega)
  have La := part_len (n := m) (lo := 0) (hi := mid m) (by omega) (by omega)
  have Lb := part_len (n := m) (lo := mid m) (hi := m.keys.length) (by omega) (by omega)
  have hjn := part_join hok (a := mid m)
  have hfi := hok.fine
  have hSa : Sm (npart m 0 (mid m)) := oka.sm (by omega)
  have hSb : Sm (npart m (mid m) m.keys.length) := okb.sm (by omega)
  have CO := Lib.hid (fun A1 A2 A3 c1 c2 c3 W (h : NAt W A1 A2 A3 m) (hc : Caps A1 A2 A3 c1 c2 c3 m) => own_any A1 A2 A3 c1 c2 c3 m W h hS hc)
  have CSp := Lib.hid (fun A1 A2 A3 c1 c2 c3 W (h : NAt W A1 A2 A3 m) (hc : Caps A1 A2 A3 c1 c2 c3 m) => split_any A1 A2 A3 c1 c2 c3 m W h hS hfi (by omega) hc (by omega))
  have CS := Lib.hid (fun A1 A2 A3 c1 c2 c3 E1 E2 E3 e1 e2 e3 W (h : NAt W A1 A2 A3 m) (h' : NAt W E1 E2 E3 m) => same_true A1 A2 A3 c1 c2 c3 E1 E2 E3 e1 e2 e3 m W h h' hS)
  have CJ0 := Lib.hid (fun A1 A2 A3 c1 c2 c3 E1 E2 E3 e1 e2 e3 W (h : NAt W A1 A2 A3 (npart m 0 (mid m))) (hc : Caps A1 A2 A3 c1 c2 c3 (npart m 0 (mid m))) (h' : NAt W E1 E2 E3 (npart m (mid m) m.keys.length)) (hc' : Caps E1 E2 E3 e1 e2 e3 (npart m (mid m) m.keys.length)) => join_any A1 A2 A3 c1 c2 c3 (npart m 0 (mid m)) E1 E2 E3 e1 e2 e3 (npart m (mid m) m.keys.length) W h hSa hc h' hSb hc')
  rw [hjn] at CJ0
  clear La Lb hjn s2 s3 oka okb
  generalize npart m 0 (mid m) = pa at *
  generalize npart m (mid m) m.keys.length = pb at *
  unfold nv at *
  go_upto_region 7 with (go_at_call 29; ((with_reducible refine (CO.out _ _ _ _ _ _ _ N3.out.a CP.out).mono ?_); rintro e w4 ⟨E1, E2, E3, e1, e2, e3, rfl, hat, hcE, hb4⟩; have B4 := Lib.hid (B3.out.trans (hb4.mono B3.out.size)); have N4 := Lib.hid (N3.out.below hb4); have AE := Lib.hid hat; have CE := Lib.hid hcE; clear hat hcE hb4 x0 x1 x2 x3 B3 N3))
  have bX := below1 w4 (.cells #[.int .i64 m.kind, .slice E1 m.keys.length e1, .slice E2 m.vals.length e2, .slice E3 m.kids.length e3] 57)
  have N5 := Lib.hid (N4.out.below bX)
  have X5 : Hid (NC 57 (w4.alloc (.cells #[.int .i64 m.kind, .slice E1 m.keys.length e1, .slice E2 m.vals.length e2, .slice E3 m.kids.length e3] 57)) w4.heap.size E1 E2 E3 e1 e2 e3 m) := NC.new _ _ AE.out
  have B5 := Lib.hid (B4.out.trans (bX.mono B4.out.size))
  clear bX B4 N4 AE
  generalize w4.alloc (.cells #[.int .i64 m.kind, .slice E1 m.keys.length e1, .slice E2 m.vals.length e2, .slice E3 m.kids.length e3] 57) = W5 at *
  generalize w4.heap.size = g3 at *
  obtain ⟨x0, x1, x2, x3⟩ := X5.out.p
  go_upto_region 8 with (go_at_call 42; ((with_reducible refine (CSp.out _ _ _ _ _ _ _ X5.out.a CE.out).mono ?_); rintro e w6 ⟨va, vb, rfl, hoa, hob, _, hb6⟩; have OA := Lib.hid hoa; have OB := Lib.hid hob; obtain ⟨P1, P2, P3, p1, p2, p3, hva, hata, hca⟩ := nown_out hoa; obtain ⟨R1, R2, R3, r1, r2, r3, hvb, hatb, hcb⟩ := nown_out hob; unfold nv at hva hvb; subst hva hvb; have GM := Lib.hid hb6; have B6 := Lib.hid (B5.out.trans (hb6.mono B5.out.size)); have N6 := Lib.hid (N5.out.below hb6); have X6 := Lib.hid (X5.out.below hb6); have AA := Lib.hid hata; have AB := Lib.hid hatb; have KA := Lib.hid (hca hSa.k hSa.v hSa.c); have KB := Lib.hid (hcb hSb.k hSb.v hSb.c); clear hoa hob hata hatb hca hcb hb6 x0 x1 x2 x3))
  have bX := below1 w6 (.cells #[.int .i64 pa.kind, .slice P1 pa.keys.length p1, .slice P2 pa.vals.length p2, .slice P3 pa.kids.length p3] 57)
  have bY := below1 (w6.alloc (.cells #[.int .i64 pa.kind, .slice P1 pa.keys.length p1, .slice P2 pa.vals.length p2, .slice P3 pa.kids.length p3] 57)) (.cells #[.int .i64 pb.kind, .slice R1 pb.keys.length r1, .slice R2 pb.vals.length r2, .slice R3 pb.kids.length r3] 57)
  have Za : Hid (NC 57 ((w6.alloc (.cells #[.int .i64 pa.kind, .slice P1 pa.keys.length p1, .slice P2 pa.vals.length p2, .slice P3 pa.kids.length p3] 57)).alloc (.cells #[.int .i64 pb.kind, .slice R1 pb.keys.length r1, .slice R2 pb.vals.length r2, .slice R3 pb.kids.length r3] 57)) w6.heap.size P1 P2 P3 p1 p2 p3 pa) := (NC.new _ _ AA.out).below bY
  have Zb : Hid (NC 57 ((w6.alloc (.cells #[.int .i64 pa.kind, .slice P1 pa.keys.length p1, .slice P2 pa.vals.length p2, .slice P3 pa.kids.length p3] 57)).alloc (.cells #[.int .i64 pb.kind, .slice R1 pb.keys.length r1, .slice R2 pb.vals.length r2, .slice R3 pb.kids.length r3] 57)) (w6.alloc (.cells #[.int .i64 pa.kind, .slice P1 pa.keys.length p1, .slice P2 pa.vals.length p2, .slice P3 pa.kids.length p3] 57)).heap.size R1 R2 R3 r1 r2 r3 pb) := NC.new _ _ (AB.out.below bX)
  have hgs : (w6.alloc (.cells #[.int .i64 pa.kind, .slice P1 pa.keys.length p1, .slice P2 pa.vals.length p2, .slice P3 pa.kids.length p3] 57)).heap.size = w6.heap.size + 1 := by simp
  rw [hgs] at Zb
  have bXY := bX.trans (bY.mono bX.size)
  have YA := Lib.hid ((yw_own OA.out).below bXY)
  have YB := Lib.hid ((yw_own OB.out).below bXY)
  have G7 := Lib.hid (GM.out.trans (bXY.mono GM.out.size))
  clear bX bY bXY hgs B6 N6 X6 AA AB OA OB GM
  generalize (w6.alloc (.cells #[.int .i64 pa.kind, .slice P1 pa.keys.length p1, .slice P2 pa.vals.length p2, .slice P3 pa.kids.length p3] 57)).alloc (.cells #[.int .i64 pb.kind, .slice R1 pb.keys.length r1, .slice R2 pb.vals.length r2, .slice R3 pb.kids.length r3] 57) = W7 at *
  obtain ⟨g5, hg5⟩ : ∃ g5, w6.heap.size + 1 = g5 := ⟨_, rfl⟩
  rw [hg5] at Zb
  rw [hg5]
  clear hg5
  generalize w6.heap.size = g4 at *
  have CJ := Lib.hid (fun W h h' => CJ0.out P1 P2 P3 p1 p2 p3 R1 R2 R3 r1 r2 r3 W h KA.out h' KB.out)
  obtain ⟨a0, a1, a2, a3⟩ := Za.out.p
  obtain ⟨b0, b1, b2, b3⟩ := Zb.out.p
  go_upto_region 9 with (go_at_call 44; ((with_reducible refine (CJ.out _ Za.out.a Zb.out.a).mono ?_); rintro e w8 ⟨vj, rfl, hoj, hb8⟩; have OJ := Lib.hid hoj; obtain ⟨J1, J2, J3, j1, j2, j3, hvj, _, _⟩ := nown_out hoj; unfold nv at hvj; subst hvj; have G8 := Lib.hid (G7.out.trans (hb8.mono G7.out.size)); have Ya := Lib.hid (Za.out.below hb8); have Yb := Lib.hid (Zb.out.below hb8); have YA8 := Lib.hid (YA.out.below hb8); have YB8 := Lib.hid (YB.out.below hb8); clear hb8 hoj a0 a1 a2 a3 b0 b1 b2 b3 Za Zb YA YB))
  have bX := below1 w8 (.cells #[.int .i64 m.kind, .slice J1 m.keys.length j1, .slice J2 m.vals.length j2, .slice J3 m.kids.length j3] 57)
  have J9 := Lib.hid (heap_last w8 (.cells #[.int .i64 m.kind, .slice J1 m.keys.length j1, .slice J2 m.vals.length j2, .slice J3 m.kids.length j3] 57) _ rfl)
  have YJ9 := Lib.hid ((yw_own OJ.out).below bX)
  have Ma := Lib.hid (Ya.out.below bX)
  have Mb := Lib.hid (Yb.out.below bX)
  have YA9 := Lib.hid (YA8.out.below bX)
  have YB9 := Lib.hid (YB8.out.below bX)
  have G9 := Lib.hid (G8.out.trans (bX.mono G8.out.size))
  have LM := Lib.hid (G7.out.size)
  clear bX OJ Ya Yb YA8 YB8 G8 G7
  generalize w8.alloc (.cells #[.int .i64 m.kind, .slice J1 m.keys.length j1, .slice J2 m.vals.length j2, .slice J3 m.kids.length j3] 57) = W9 at *
  generalize w8.heap.size = g6 at *
  obtain ⟨a0, a1, a2, a3⟩ := Ma.out.p
  obtain ⟨b0, b1, b2, b3⟩ := Mb.out.p
  obtain ⟨⟨j0', j1', j2', j3'⟩, _⟩ := row4 J9.out
  go_wp2
  have bX := below1 W9 (.cells #[.int .i64 pa.kind, .slice P1 pa.keys.length p1, .slice P2 pa.vals.length p2, .slice P3 pa.kids.length p3, .int .i64 pb.kind, .slice R1 pb.keys.length r1, .slice R2 pb.vals.length r2, .slice R3 pb.kids.length r3, .int .i64 m.kind, .slice J1 m.keys.length j1, .slice J2 m.vals.length j2, .slice J3 m.kids.length j3] 57)
  have S0 : Hid (SH W5.heap.size W5 (W9.alloc (.cells #[.int .i64 pa.kind, .slice P1 pa.keys.length p1, .slice P2 pa.vals.length p2, .slice P3 pa.kids.length p3, .int .i64 pb.kind, .slice R1 pb.keys.length r1, .slice R2 pb.vals.length r2, .slice R3 pb.kids.length r3, .int .i64 m.kind, .slice J1 m.keys.length j1, .slice J2 m.vals.length j2, .slice J3 m.kids.length j3] 57)) W9.heap.size (Y.cs ⟨pa.kind, P1, pa.keys.length, p1, P2, pa.vals.length, p2, P3, pa.kids.length, p3⟩ ++ Y.cs ⟨pb.kind, R1, pb.keys.length, r1, R2, pb.vals.length, r2, R3, pb.kids.length, r3⟩ ++ Y.cs ⟨m.kind, J1, m.keys.length, j1, J2, m.vals.length, j2, J3, m.kids.length, j3⟩).toArray [⟨pa.kind, P1, pa.keys.length, p1, P2, pa.vals.length, p2, P3, pa.kids.length, p3⟩, ⟨pb.kind, R1, pb.keys.length, r1, R2, pb.vals.length, r2, R3, pb.kids.length, r3⟩, ⟨m.kind, J1, m.keys.length, j1, J2, m.vals.length, j2, J3, m.kids.length, j3⟩]) := by
    refine ⟨G9.out.trans (bX.mono G9.out.size), G9.out.size, heap_last _ _ _ rfl, fun y hy => ?_⟩
    simp only [List.mem_cons, List.not_mem_nil, or_false] at hy
    rcases hy with rfl | rfl | rfl
    · exact YA9.out.below bX
    · exact YB9.out.below bX
    · obtain ⟨⟨x1, z1⟩, ⟨x2, z2⟩, ⟨x3, z3⟩⟩ := YJ9.out.below bX
      exact ⟨⟨x1, own_mono z1 LM.out⟩, ⟨x2, own_mono z2 LM.out⟩, ⟨x3, own_mono z3 LM.out⟩⟩
  have Hcs := Lib.hid (fun (w : World) (g : Nat) => three_cells (w := w) (g := g) (x := ⟨pa.kind, P1, pa.keys.length, p1, P2, pa.vals.length, p2, P3, pa.kids.length, p3⟩) (y := ⟨pb.kind, R1, pb.keys.length, r1, R2, pb.vals.length, r2, R3, pb.kids.length, r3⟩) (z := ⟨m.kind, J1, m.keys.length, j1, J2, m.vals.length, j2, J3, m.kids.length, j3⟩))
  have YL : Hid (∀ y ∈ ([⟨pa.kind, P1, pa.keys.length, p1, P2, pa.vals.length, p2, P3, pa.kids.length, p3⟩, ⟨pb.kind, R1, pb.keys.length, r1, R2, pb.vals.length, r2, R3, pb.kids.length, r3⟩, ⟨m.kind, J1, m.keys.length, j1, J2, m.vals.length, j2, J3, m.kids.length, j3⟩] : List Y), y.l1 ≤ 1000000 ∧ y.l2 ≤ 1000000 ∧ y.l3 ≤ 1000000) := fun y hy => by
    simp only [List.mem_cons, List.not_mem_nil, or_false] at hy
    rcases hy with rfl | rfl | rfl
    · exact ⟨hSa.k, hSa.v, hSa.c⟩
    · exact ⟨hSb.k, hSb.v, hSb.c⟩
    · exact ⟨hS.k, hS.v, hS.c⟩
  clear bX YA9 YB9 YJ9 G9 Ma Mb J9 a0 a1 a2 a3 b0 b1 b2 b3 j0' j1' j2' j3' CO CSp CJ CJ0 CA CR
  generalize W9.alloc (.cells #[.int .i64 pa.kind, .slice P1 pa.keys.length p1, .slice P2 pa.vals.length p2, .slice P3 pa.kids.length p3, .int .i64 pb.kind, .slice R1 pb.keys.length r1, .slice R2 pb.vals.length r2, .slice R3 pb.kids.length r3, .int .i64 m.kind, .slice J1 m.keys.length j1, .slice J2 m.vals.length j2, .slice J3 m.kids.length j3] 57) = W10 at *
  generalize W9.heap.size = gS at *
  generalize ([⟨pa.kind, P1, pa.keys.length, p1, P2, pa.vals.length, p2, P3, pa.kids.length, p3⟩, ⟨pb.kind, R1, pb.keys.length, r1, R2, pb.vals.length, r2, R3, pb.kids.length, r3⟩, ⟨m.kind, J1, m.keys.length, j1, J2, m.vals.length, j2, J3, m.kids.length, j3⟩] : List Y) = ys at *
  generalize (Y.cs ⟨pa.kind, P1, pa.keys.length, p1, P2, pa.vals.length, p2, P3, pa.kids.length, p3⟩ ++ Y.cs ⟨pb.kind, R1, pb.keys.length, r1, R2, pb.vals.length, r2, R3, pb.kids.length, r3⟩ ++ Y.cs ⟨m.kind, J1, m.keys.length, j1, J2, m.vals.length, j2, J3, m.kids.length, j3⟩).toArray = cs at *
  go_loopw [8, 9, 10, 11, 35] (fun t8 t9 t10 t11 t35 wr => ∃ i : Nat, i ≤ 3 ∧ t35 = .int .i64 (i : Int) ∧ SH W5.heap.size W5 wr gS cs ys) (fun _ _ _ _ t35 _ => 3 - (intOf t35).toNat)
  case atStart => exact ⟨0, by omega, rfl, S0.out⟩
  case round =>
    obtain ⟨i, hi, rfl, hsh⟩ := hrel
    clear S0
    by_cases hlt : i < 3
    · have hI : (i : Int) < 3 := by omega
      obtain ⟨y, hy, c0, c1, c2, c3⟩ := Hcs.out wr gS hsh.s i hlt
      obtain ⟨hl1, hl2, hl3⟩ := YL.out y hy
      have bX := below1 wr (.cells #[.int .i64 y.k, .slice y.A1 y.l1 y.c1, .slice y.A2 y.l2 y.c2, .slice y.A3 y.l3 y.c3] 57)
      have S1 : Hid (SY W5.heap.size W5 (wr.alloc (.cells #[.int .i64 y.k, .slice y.A1 y.l1 y.c1, .slice y.A2 y.l2 y.c2, .slice y.A3 y.l3 y.c3] 57)) gS cs ys wr.heap.size y) := ⟨hsh.below (Nat.le_refl _) bX, hsh.b.size, heap_last _ _ _ rfl⟩
      clear bX hsh
      go_upto_region 12 with fail
      generalize wr.alloc (.cells #[.int .i64 y.k, .slice y.A1 y.l1 y.c1, .slice y.A2 y.l2 y.c2, .slice y.A3 y.l3 y.c3] 57) = W11 at *
      generalize wr.heap.size = gy at *
      clear c0 c1 c2 c3
      generalize wr = wq at *
      obtain ⟨⟨z0, z1, z2, z3⟩, _⟩ := row4 S1.out.r
      go_wp2
      clear z0 z1 z2 z3
      go_loopw [42] (fun t42 wr => ∃ j : Nat, j ≤ y.l1 ∧ t42 = .int .i64 (j : Int) ∧ SY W5.heap.size W5 wr gS cs ys gy y) (fun t42 _ => y.l1 - (intOf t42).toNat)
      case atStart => exact ⟨0, Nat.zero_le _, rfl, S1.out⟩
      case round =>
        obtain ⟨j, hj, rfl, hsy⟩ := hrel
        have S2 := Lib.hid hsy
        clear hsy S1
        by_cases hjl : j < y.l1
        · have hJ : (j : Int) < (y.l1 : Int) := by omega
          obtain ⟨g, hA, hM, ⟨u, hu⟩, hfz⟩ := (S2.out.h.y y hy).o1.cell hjl
          obtain ⟨⟨z0, z1, z2, z3⟩, _⟩ := row4 S2.out.r
          rw [hA] at z1
          have HA := Lib.hid hA
          clear hA
          go_wp2
          go_roundw
          case rel => exact ⟨j + 1, by omega, by go_num, S2.out.put HA.out (S2.out.h.y y hy).o1 hM (by decide) _ _⟩
          case measure => simp [intOf]; omega
        · have hJ : ¬ (j : Int) < (y.l1 : Int) := by omega
          generalize wr = wq2 at *
          obtain ⟨⟨z0, z1, z2, z3⟩, _⟩ := row4 S2.out.r
          go_wp2
          clear z0 z1 z2 z3
          go_loopw [53] (fun t53 wr => ∃ j : Nat, j ≤ y.l2 ∧ t53 = .int .i64 (j : Int) ∧ SY W5.heap.size W5 wr gS cs ys gy y) (fun t53 _ => y.l2 - (intOf t53).toNat)
          case atStart => exact ⟨0, Nat.zero_le _, rfl, S2.out⟩
          case round =>
            obtain ⟨j, hj, rfl, hsy⟩ := hrel
            have S3 := Lib.hid hsy
            clear hsy S2
            by_cases hjl : j < y.l2
            · have hJ : (j : Int) < (y.l2 : Int) := by omega
              obtain ⟨g, hA, hM, ⟨u, hu⟩, hfz⟩ := (S3.out.h.y y hy).o2.cell hjl
              obtain ⟨⟨z0, z1, z2, z3⟩, _⟩ := row4 S3.out.r
              rw [hA] at z2
              have HA := Lib.hid hA
              clear hA
              go_wp2
              go_roundw
              case rel => exact ⟨j + 1, by omega, by go_num, S3.out.put HA.out (S3.out.h.y y hy).o2 hM (by decide) _ _⟩
              case measure => simp [intOf]; omega
            · have hJ : ¬ (j : Int) < (y.l2 : Int) := by omega
              generalize wr = wq3 at *
              obtain ⟨⟨z0, z1, z2, z3⟩, _⟩ := row4 S3.out.r
              go_wp2
              clear z0 z1 z2 z3
              go_loopw [64] (fun t64 wr => ∃ j : Nat, j ≤ y.l3 ∧ t64 = .int .i64 (j : Int) ∧ SY W5.heap.size W5 wr gS cs ys gy y) (fun t64 _ => y.l3 - (intOf t64).toNat)
              case atStart => exact ⟨0, Nat.zero_le _, rfl, S3.out⟩
              case round =>
                obtain ⟨j, hj, rfl, hsy⟩ := hrel
                have S4 := Lib.hid hsy
                clear hsy S3
                by_cases hjl : j < y.l3
                · have hJ : (j : Int) < (y.l3 : Int) := by omega
                  obtain ⟨g, hA, hM, ⟨u, hu⟩, hfz⟩ := (S4.out.h.y y hy).o3.cell hjl
                  obtain ⟨⟨z0, z1, z2, z3⟩, _⟩ := row4 S4.out.r
                  rw [hA] at z3
                  have HA := Lib.hid hA
                  clear hA
                  go_wp2
                  go_roundw
                  case rel => exact ⟨j + 1, by omega, by go_num, S4.out.put HA.out (S4.out.h.y y hy).o3 hM (by decide) _ _⟩
                  case measure => simp [intOf]; omega
                · have hJ : ¬ (j : Int) < (y.l3 : Int) := by omega
                  generalize wr = wq4 at *
                  go_wp2
                  go_roundw
                  case rel => exact ⟨i + 1, by omega, by go_num, S4.out.h⟩
                  case measure => simp [intOf]; omega
    · have hI : ¬ (i : Int) < 3 := by omega
      obtain ⟨x0', x1', x2', x3'⟩ := (X5.out.below hsh.b).p
      obtain ⟨n0, n1, n2, n3⟩ := (N5.out.below hsh.b).p
      have CSW := Lib.hid (CS.out E1 E2 E3 e1 e2 e3 F1 F2 F3 f1 f2 f3 wr (X5.out.below hsh.b).a (N5.out.below hsh.b).a)
      go_wp2_with (go_at_call 39; ((with_reducible refine CSW.out.mono ?_); rintro e w20 ⟨rfl, hb20⟩; have B20 := Lib.hid (hsh.b.trans (hb20.mono hsh.b.size)); clear hb20))
      go_ret
      exact ⟨rfl, B5.out.trans (B20.out.mono B5.out.size)⟩
end Nod
end Go.Proofs.Ytjikioiejdfodaa
