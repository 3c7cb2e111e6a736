/-
  The walk of the statement NodePacks.
-/
import Derived.Test.YtjikioiejdfodaaNodeAw
import Derived.Test.YtjikioiejdfodaaNodeRight
import Derived.Test.YtjikioiejdfodaaNodeREn
import Derived.Test.YtjikioiejdfodaaOver
namespace Go.Proofs.Ytjikioiejdfodaa
open Go.RowKit
theorem Ov.Up.low {w : World} (x : Ov.Up w) : Below w.heap.size w x.w := x.h
namespace Nod
open B V
set_option linter.unusedVariables false
/-- a node's four cells in a block, and what it reads as -/
structure NC (t : TypeId) (w : World) (g : Nat) (A1 A2 A3 : Option Addr) (c1 c2 c3 : Nat) (n : N) : Prop where
  r : w.heap[g]? = some (.cells #[.int .i64 n.kind, .slice A1 n.keys.length c1, .slice A2 n.vals.length c2, .slice A3 n.kids.length c3] t)
  a : NAt w A1 A2 A3 n
theorem NC.below {t : TypeId} {w w' : World} {g : Nat} {A1 A2 A3 : Option Addr} {c1 c2 c3 : Nat} {n : N} (h : NC t w g A1 A2 A3 c1 c2 c3 n) (hb : Below w.heap.size w w') : NC t w' g A1 A2 A3 c1 c2 c3 n := ⟨blk_thru hb h.r, h.a.below hb⟩
theorem NC.lt {t : TypeId} {w : World} {g : Nat} {A1 A2 A3 : Option Addr} {c1 c2 c3 : Nat} {n : N} (h : NC t w g A1 A2 A3 c1 c2 c3 n) : g < w.heap.size := blk_lt h.r
theorem NC.p {t : TypeId} {w : World} {g : Nat} {A1 A2 A3 : Option Addr} {c1 c2 c3 : Nat} {n : N} (h : NC t w g A1 A2 A3 c1 c2 c3 n) : w.cell? ⟨g, 0, none⟩ = some (.int .i64 n.kind) ∧ w.cell? ⟨g, 1, none⟩ = some (.slice A1 n.keys.length c1) ∧ w.cell? ⟨g, 2, none⟩ = some (.slice A2 n.vals.length c2) ∧ w.cell? ⟨g, 3, none⟩ = some (.slice A3 n.kids.length c3) := (row4 h.r).1
theorem NC.new (t : TypeId) (w : World) {A1 A2 A3 : Option Addr} {c1 c2 c3 : Nat} {n : N} (h : NAt w A1 A2 A3 n) : NC t (w.alloc (.cells #[.int .i64 n.kind, .slice A1 n.keys.length c1, .slice A2 n.vals.length c2, .slice A3 n.kids.length c3] t)) w.heap.size A1 A2 A3 c1 c2 c3 n := ⟨heap_last _ _ _ rfl, h.below (below1 _ _)⟩
/-- how many keys are less; is one there? -/
theorem pos_count {l : List ByteArray} (hr : Rise l) (x : ByteArray) : (l.filter fun k => decide (Lt k x)).length = pos l x := by
  induction l with
  | nil => rfl
  | cons a l ih =>
    unfold pos at ih ⊢
    have hr' := List.pairwise_cons.mp hr
    by_cases h : Lt a x
    · rw [List.filter_cons_of_pos (by simpa using h), List.takeWhile_cons_of_pos (by simpa using h), List.length_cons, List.length_cons, ih hr'.2]
    · rw [List.filter_cons_of_neg (by simpa using h), List.takeWhile_cons_of_neg (by simpa using h)]
      have he : (l.filter fun k => decide (Lt k x)) = [] := List.filter_eq_nil_iff.mpr fun b hb => by
        simp only [decide_eq_true_eq]
        exact fun hbx => h ((hr'.1 b hb).trans hbx)
      rw [he]
theorem filter_step (l : List ByteArray) (x : ByteArray) {i : Nat} (h : i < l.length) : ((l.take (i + 1)).filter fun k => decide (Lt k x)).length = ((l.take i).filter fun k => decide (Lt k x)).length + if Lt l[i] x then 1 else 0 := by
  rw [List.take_succ_eq_append_getElem h, List.filter_append, List.length_append]
  by_cases hx : Lt l[i] x
  · rw [if_pos hx, List.filter_cons_of_pos (by simpa using hx)]; rfl
  · rw [if_neg hx, List.filter_cons_of_neg (by simpa using hx)]; rfl
theorem has_step (l : List ByteArray) (x : ByteArray) {i : Nat} (h : i < l.length) : has (l.take (i + 1)) x = (has (l.take i) x || (l[i].toList == x.toList)) := by
  unfold has
  rw [List.take_succ_eq_append_getElem h, List.any_append]; simp
theorem num_len {x k : Nat} (hk : 0 < k) (h : x < 128 ^ k) : (Var.num x).length ≤ k := by
  induction k generalizing x with
  | zero => omega
  | succ k ih =>
    by_cases hx : x < 128
    · rw [Var.num_lt hx]; simp
    · rw [Var.num_ge (by omega), List.length_cons]
      have h2 : x / 128 < 128 ^ k := by rw [Nat.div_lt_iff_lt_mul (by omega)]; rw [Nat.pow_succ] at h; exact h
      rcases Nat.eq_zero_or_pos k with h0 | h0
      · subst h0; simp at h2; omega
      · have := ih h0 h2; omega
theorem ent_50 {n : N} (h : Ok n) (i : Nat) : (ent n i).length ≤ 50 := by
  have hk : (n.keys.getD i ⟨#[]⟩).size ≤ 16 := by
    by_cases hi : i < n.keys.length
    · exact (h.key _ (getD_mem hi)).2
    · rw [getD_out hi]; exact Nat.zero_le _
  have hv : (n.vals.getD i ⟨#[]⟩).size ≤ 32 := by
    by_cases hi : i < n.vals.length
    · exact h.val _ (getD_mem hi)
    · rw [getD_out hi]; exact Nat.zero_le _
  have hc : (n.kids.getD i 0).toNat < 128 ^ 5 := by
    have := h.fine.kid' i
    have : (128 : Nat) ^ 5 = 34359738368 := rfl
    omega
  have n1 := num_len (k := 1) (by omega) (x := (n.keys.getD i ⟨#[]⟩).size) (by omega)
  have n2 := num_len (k := 1) (by omega) (x := (n.vals.getD i ⟨#[]⟩).size) (by omega)
  have n3 := num_len (k := 5) (by omega) hc
  unfold ent
  split
  · unfold txt; rw [List.length_append, List.length_append, B.size_data]; omega
  · unfold txt; rw [List.length_append, List.length_append, List.length_append, B.size_data, B.size_data]; omega
theorem ents_50 {n : N} (h : Ok n) : ∀ k, (ents n k).length ≤ 50 * k
  | 0 => by simp [ents]
  | k + 1 => by rw [ents_succ, List.length_append]; have := ents_50 h k; have := ent_50 h k; omega
theorem right_size {n : N} (h : Ok n) (hl : n.keys.length ≤ 30) : size n ≤ 1501 := by
  unfold size pack
  rw [List.length_append]
  have := ents_50 h n.keys.length
  have := num_len (k := 1) (by omega) (x := n.keys.length) (by omega)
  omega
set_option maxRecDepth 100000 in
set_option maxHeartbeats 8000000 in
theorem nodePacks_walk (A1 A2 A3 : Option Addr) (c1 c2 c3 : Nat) (n : N) (key : ByteArray) (w : World) (h : NAt w A1 A2 A3 n) (hk : n.keys.length ≤ maxLen) (hv : n.vals.length ≤ maxLen) (hc : n.kids.length ≤ maxLen) :
    Calls Try.prog 5 #[nv A1 A2 A3 c1 c2 c3 n, .string key] w fun e w' => e = .returned (.bool true) ∧ Below w.heap.size w w' := by
  obtain ⟨hok, l1, l2, l3⟩ := right_ok n
  have hS : Sm (rightN n) := ⟨by omega, by omega, by omega⟩
  have CA := Lib.hid awake_any
  have CR := Lib.hid (fun W (q : Below w.heap.size w W) => right_any A1 A2 A3 c1 c2 c3 n W (h.below q) hk hv hc)
  have hback := nparse_back hok (by omega)
  unfold nv at *
  have B0 := Lib.hid (below1 w (.cells #[.int .i64 n.kind, .slice A1 n.keys.length c1, .slice A2 n.vals.length c2, .slice A3 n.kids.length c3] 55))
  have H0 := Lib.hid (heap_last w (.cells #[.int .i64 n.kind, .slice A1 n.keys.length c1, .slice A2 n.vals.length c2, .slice A3 n.kids.length c3] 55) _ rfl)
  clear h hk hv hc
  generalize rightN n = m at *
  have hfi := hok.fine
  have hsz : size m ≤ 1000 + 90000 := by
    have := ents_len hfi m.keys.length
    have := Var.num_ten m.keys.length (by omega)
    unfold size pack; rw [List.length_append]; omega
  have CO := Lib.hid (fun A1 A2 A3 c1 c2 c3 W (h : NAt W A1 A2 A3 m) (hc : Caps A1 A2 A3 c1 c2 c3 m) => own_any A1 A2 A3 c1 c2 c3 m W h hS hc)
  have CPk := Lib.hid (fun A1 A2 A3 c1 c2 c3 W (h : NAt W A1 A2 A3 m) => pack_any A1 A2 A3 c1 c2 c3 m W h hS hfi (by omega))
  have CSz := Lib.hid (fun A1 A2 A3 c1 c2 c3 W (h : NAt W A1 A2 A3 m) => size_any A1 A2 A3 c1 c2 c3 m W h hS hfi (by omega))
  have CFi := Lib.hid (fun A1 A2 A3 c1 c2 c3 W (h : NAt W A1 A2 A3 m) => fits_any A1 A2 A3 c1 c2 c3 m W h hS hfi (by omega))
  have CLn := Lib.hid (fun A1 A2 A3 c1 c2 c3 W => len_any A1 A2 A3 c1 c2 c3 m W)
  have CCk := Lib.hid (fun A1 A2 A3 c1 c2 c3 W (h : NAt W A1 A2 A3 m) => check_any A1 A2 A3 c1 c2 c3 m W h hS)
  have CRP := Lib.hid (fun A1 A2 A3 c1 c2 c3 W (h : NAt W A1 A2 A3 m) => refPack_any A1 A2 A3 c1 c2 c3 m W h hok (by omega))
  have CSa := Lib.hid (fun A1 A2 A3 c1 c2 c3 E1 E2 E3 e1 e2 e3 W (h : NAt W A1 A2 A3 m) (h' : NAt W E1 E2 E3 m) => same_true A1 A2 A3 c1 c2 c3 E1 E2 E3 e1 e2 e3 m W h h' hS)
  have CFd := Lib.hid (fun A1 A2 A3 c1 c2 c3 W (h : NAt W A1 A2 A3 m) => find_any A1 A2 A3 c1 c2 c3 m key W h hok.rise hS)
  have hck := hok.chk
  rw [hck, if_pos rfl] at CCk
  have HS : (packB m).size = size m := packB_size m
  have hps : (packB m).size ≤ 2000 := by
    rw [HS]
    have := right_size hok l1
    omega
  have CPa := Lib.hid (fun W => parse_any m.kind (packB m) W hps)
  rw [hback] at CPa
  rw [← HS] at CSz CFi hsz
  have HPos := Lib.hid (pos_count hok.rise key)
  have HHas : Hid (has (m.keys.take 0) key = false) := rfl
  generalize packB m = S at *
  unfold nv at *
  go_enter Try.func5, Try.ntmps5
  go_upto_region 1 with fail
  generalize w.alloc (.cells #[.int .i64 n.kind, .slice A1 n.keys.length c1, .slice A2 n.vals.length c2, .slice A3 n.kids.length c3] 55) = W at *
  go_upto_region 3 with (go_at_call 27; ((with_reducible refine (CA.out _).mono ?_); rintro e w1 ⟨rfl, hb1⟩; have B1 := Lib.hid (B0.out.trans (hb1.mono B0.out.size)); have H1 := Lib.hid (blk_thru hb1 H0.out); clear hb1 B0 H0))
  obtain ⟨⟨x0, x1, x2, x3⟩, y0, y1, y2, y3⟩ := row4 H1.out
  go_upto_region 4 with (go_at_call 32; ((with_reducible refine (CR.out _ B1.out).mono ?_); rintro e w2 ⟨vf, rfl, ho2, hb2⟩; have B2 := Lib.hid (B1.out.trans (hb2.mono B1.out.size)); have H2 := Lib.hid (blk_thru hb2 H1.out); obtain ⟨F1, F2, F3, f1, f2, f3, hvf, hat, hcp⟩ := nown_out ho2; unfold nv at hvf; subst hvf; have O2 := Lib.hid ho2; have LG := Lib.hid (blk_lt H1.out); have CP := Lib.hid (hcp hS.k hS.v hS.c); clear ho2 hb2 H1 B1 x0 x1 x2 x3 y0 y1 y2 y3 hat hcp; obtain ⟨⟨x0, x1, x2, x3⟩, y0, y1, y2, y3⟩ := row4 H2.out))
  have O3 := Lib.hid (nown_put (a := .int .i64 m.kind) (b := .slice F1 m.keys.length f1) (c := .slice F2 m.vals.length f2) (d := .slice F3 m.kids.length f3) O2.out LG.out)
  have B3 : Hid (Below w.heap.size w ((((w2.setCell ⟨w.heap.size, 0, none⟩ (.int .i64 m.kind)).setCell ⟨w.heap.size, 1, none⟩ (.slice F1 m.keys.length f1)).setCell ⟨w.heap.size, 2, none⟩ (.slice F2 m.vals.length f2)).setCell ⟨w.heap.size, 3, none⟩ (.slice F3 m.kids.length f3))) := below_put4 B2.out (Nat.le_refl _)
  have N3 : Hid (NC 55 ((((w2.setCell ⟨w.heap.size, 0, none⟩ (.int .i64 m.kind)).setCell ⟨w.heap.size, 1, none⟩ (.slice F1 m.keys.length f1)).setCell ⟨w.heap.size, 2, none⟩ (.slice F2 m.vals.length f2)).setCell ⟨w.heap.size, 3, none⟩ (.slice F3 m.kids.length f3)) w.heap.size F1 F2 F3 f1 f2 f3 m) := ⟨set4 H2.out _ _ _ _, nown_nat O3.out⟩
  clear x0 x1 x2 x3 y0 y1 y2 y3 B2 H2 O2 O3 LG
  generalize (((w2.setCell ⟨w.heap.size, 0, none⟩ (.int .i64 m.kind)).setCell ⟨w.heap.size, 1, none⟩ (.slice F1 m.keys.length f1)).setCell ⟨w.heap.size, 2, none⟩ (.slice F2 m.vals.length f2)).setCell ⟨w.heap.size, 3, none⟩ (.slice F3 m.kids.length f3) = W3 at *
  obtain ⟨x0, x1, x2, x3⟩ := N3.out.p
  go_upto_region 5 with (go_at_call 29; ((with_reducible refine (CO.out _ _ _ _ _ _ _ N3.out.a CP.out).mono ?_); rintro e w4 ⟨E1, E2, E3, e1, e2, e3, rfl, hat, _, hb4⟩; have B4 := Lib.hid (B3.out.trans (hb4.mono B3.out.size)); have N4 := Lib.hid (N3.out.below hb4); have AE := Lib.hid hat; clear hat hb4 x0 x1 x2 x3 B3 N3))
  have bX := below1 w4 (.cells #[.int .i64 m.kind, .slice E1 m.keys.length e1, .slice E2 m.vals.length e2, .slice E3 m.kids.length e3] 57)
  have N5 := Lib.hid (N4.out.below bX)
  have X5 : Hid (NC 57 (w4.alloc (.cells #[.int .i64 m.kind, .slice E1 m.keys.length e1, .slice E2 m.vals.length e2, .slice E3 m.kids.length e3] 57)) w4.heap.size E1 E2 E3 e1 e2 e3 m) := NC.new _ _ AE.out
  have B5 := Lib.hid (B4.out.trans (bX.mono B4.out.size))
  clear bX B4 N4 AE
  generalize w4.alloc (.cells #[.int .i64 m.kind, .slice E1 m.keys.length e1, .slice E2 m.vals.length e2, .slice E3 m.kids.length e3] 57) = W5 at *
  generalize w4.heap.size = g5 at *
  obtain ⟨x0, x1, x2, x3⟩ := X5.out.p
  go_upto_region 6 with (go_at_call 33; ((with_reducible refine (CPk.out _ _ _ _ _ _ _ X5.out.a).mono ?_); rintro e w6 ⟨rfl, hb6⟩; have B6 := Lib.hid (B5.out.trans (hb6.mono B5.out.size)); have N6 := Lib.hid (N5.out.below hb6); have X6 := Lib.hid (X5.out.below hb6); clear hb6 x0 x1 x2 x3 B5 N5 X5))
  obtain ⟨x0, x1, x2, x3⟩ := N6.out.p
  go_upto_region 7 with (go_at_call 34; ((with_reducible refine (CPa.out _).mono ?_); rintro e w7 ⟨vp, rfl, ho7, hb7⟩; have B7 := Lib.hid (B6.out.trans (hb7.mono B6.out.size)); have N7 := Lib.hid (N6.out.below hb7); have X7 := Lib.hid (X6.out.below hb7); obtain ⟨P1, P2, P3, p1, p2, p3, hvp, hatp, _⟩ := nown_out ho7; unfold nv at hvp; subst hvp; have AP := Lib.hid hatp; clear ho7 hb7 hatp x0 x1 x2 x3 B6 N6 X6))
  have bX := below1 w7 (.cells #[.int .i64 m.kind, .slice P1 m.keys.length p1, .slice P2 m.vals.length p2, .slice P3 m.kids.length p3] 57)
  have N8 := Lib.hid (N7.out.below bX)
  have X8 := Lib.hid (X7.out.below bX)
  have Y8 : Hid (NC 57 (w7.alloc (.cells #[.int .i64 m.kind, .slice P1 m.keys.length p1, .slice P2 m.vals.length p2, .slice P3 m.kids.length p3] 57)) w7.heap.size P1 P2 P3 p1 p2 p3 m) := NC.new _ _ AP.out
  have B8 := Lib.hid (B7.out.trans (bX.mono B7.out.size))
  clear bX B7 N7 X7 AP
  generalize w7.alloc (.cells #[.int .i64 m.kind, .slice P1 m.keys.length p1, .slice P2 m.vals.length p2, .slice P3 m.kids.length p3] 57) = W8 at *
  generalize w7.heap.size = g7 at *
  obtain ⟨n0, n1, n2, n3⟩ := N8.out.p
  obtain ⟨x0, x1, x2, x3⟩ := X8.out.p
  obtain ⟨y0, y1, y2, y3⟩ := Y8.out.p
  have rn0 := fun x => Ov.Up.cell n0 N8.out.lt x
  have rn1 := fun x => Ov.Up.cell n1 N8.out.lt x
  have rn2 := fun x => Ov.Up.cell n2 N8.out.lt x
  have rn3 := fun x => Ov.Up.cell n3 N8.out.lt x
  have rx0 := fun x => Ov.Up.cell x0 X8.out.lt x
  have rx1 := fun x => Ov.Up.cell x1 X8.out.lt x
  have rx2 := fun x => Ov.Up.cell x2 X8.out.lt x
  have rx3 := fun x => Ov.Up.cell x3 X8.out.lt x
  have ry0 := fun x => Ov.Up.cell y0 Y8.out.lt x
  have ry1 := fun x => Ov.Up.cell y1 Y8.out.lt x
  have ry2 := fun x => Ov.Up.cell y2 Y8.out.lt x
  have ry3 := fun x => Ov.Up.cell y3 Y8.out.lt x
  refine Ov.region (by kernel_rfl) (by kernel_rfl) (Ov.start W8) ?_
  repeat (go_big_quiet_step (first
    | (go_at_call 30; exact Ov.Up.call (CCk.out _ _ _ _ _ _ _ (X8.out.a.below (Ov.Up.low _))))
    | (go_at_call 35; exact Ov.Up.call (CRP.out _ _ _ _ _ _ _ (N8.out.a.below (Ov.Up.low _))))
    | (go_at_call 36; exact Ov.Up.call (CSz.out _ _ _ _ _ _ _ (X8.out.a.below (Ov.Up.low _))))
    | (go_at_call 37; exact Ov.Up.call (CFi.out _ _ _ _ _ _ _ (X8.out.a.below (Ov.Up.low _))))
    | (go_at_call 38; exact Ov.Up.call (CLn.out _ _ _ _ _ _ _))
    | (go_at_call 39; exact Ov.Up.call (CSa.out _ _ _ _ _ _ _ _ _ _ _ _ _ (Y8.out.a.below (Ov.Up.low _)) (N8.out.a.below (Ov.Up.low _))))))
  refine wpQuiet_nil ?_
  rintro _ ⟨yo, rfl⟩
  have B9 := Lib.hid (B8.out.trans ((Ov.Up.low yo).mono B8.out.size))
  have N9 := Lib.hid (N8.out.below (Ov.Up.low yo))
  have X9 := Lib.hid (X8.out.below (Ov.Up.low yo))
  clear rn0 rn1 rn2 rn3 rx0 rx1 rx2 rx3 ry0 ry1 ry2 ry3 n0 n1 n2 n3 x0 x1 x2 x3 y0 y1 y2 y3 B8 N8 X8 Y8
  generalize yo.w = W9 at *
  clear yo HS hsz hps
  obtain ⟨x0, x1, x2, x3⟩ := X9.out.p
  go_upto_region 11 with (go_at_call 40; ((with_reducible refine (CFd.out _ _ _ _ _ _ _ X9.out.a).mono ?_); rintro e w10 ⟨rfl, hb10⟩; have B10 := Lib.hid (B9.out.trans (hb10.mono B9.out.size)); have N10 := Lib.hid (N9.out.below hb10); clear hb10 x0 x1 x2 x3 B9 N9 X9))
  obtain ⟨x0, x1, x2, x3⟩ := N10.out.p
  have hat := N10.out.a.k
  go_wp2
  clear x0 x1 x2 x3
  go_loopw [11, 12, 14, 81] (fun t11 t12 t14 t81 wr => ∃ (i N : Nat), i ≤ m.keys.length ∧ t81 = .int .i64 (i : Int) ∧ t11 = .int .i64 (((m.keys.take i).filter fun k => decide (Lt k key)).length : Int) ∧ t12 = .bool (has (m.keys.take i) key) ∧ wr = w10.drewN N) (fun _ _ _ t81 _ => m.keys.length - (intOf t81).toNat)
  case atStart => exact ⟨0, 0, Nat.zero_le _, rfl, rfl, rfl, rfl⟩
  case round =>
    obtain ⟨i, N, hi, rfl, rfl, rfl, hw⟩ := hrel
    have hcnt : ((m.keys.take i).filter fun k => decide (Lt k key)).length ≤ i := by
      have := List.length_filter_le (fun k => decide (Lt k key)) (m.keys.take i)
      rw [List.length_take] at this; omega
    by_cases hlt : i < m.keys.length
    · have hI : (i : Int) < (m.keys.length : Int) := by omega
      obtain ⟨b, off, hA, hb, hc⟩ := hat (by omega)
      subst hA
      have c0 : wr.cell? ⟨b, off + i, none⟩ = some (.string m.keys[i]) := by rw [hw]; exact hc i hlt
      have F1 := Lib.hid (filter_step m.keys key hlt)
      have F2 := Lib.hid (has_step m.keys key hlt)
      have HW := Lib.hid hw
      clear hc hw
      generalize m.keys[i] = k at *
      generalize ((m.keys.take i).filter fun k => decide (Lt k key)).length = cnt at *
      by_cases hkl : Lt k key
      · have e1 := less_t hkl
        rw [if_pos hkl] at F1
        cases hh : has (m.keys.take i) key with
        | true =>
          rw [hh] at F2
          go_wp2
          go_roundw
          case rel => exact ⟨i + 1, N, by omega, by go_num, by rw [F1.out]; go_num, by rw [F2.out]; rfl, HW.out⟩
          case measure => simp [intOf]; omega
        | false =>
          rw [hh] at F2
          go_wp2
          go_roundw
          case rel => exact ⟨i + 1, N, by omega, by go_num, by rw [F1.out]; go_num, by rw [F2.out]; rfl, HW.out⟩
          case measure => simp [intOf]; omega
      · have e1 := less_f hkl
        rw [if_neg hkl] at F1
        cases hh : has (m.keys.take i) key with
        | true =>
          rw [hh] at F2
          go_wp2
          go_roundw
          case rel => exact ⟨i + 1, N, by omega, by go_num, by rw [F1.out]; go_num, by rw [F2.out]; rfl, HW.out⟩
          case measure => simp [intOf]; omega
        | false =>
          rw [hh] at F2
          go_wp2
          go_roundw
          case rel => exact ⟨i + 1, N, by omega, by go_num, by rw [F1.out]; go_num, by rw [F2.out]; rfl, HW.out⟩
          case measure => simp [intOf]; omega
    · have hI : ¬ (i : Int) < (m.keys.length : Int) := by omega
      obtain rfl : i = m.keys.length := by omega
      rw [List.take_length] at *
      rw [HPos.out] at *
      go_wp2
      go_ret
      exact ⟨rfl, ⟨B10.out.os, B10.out.tape, B10.out.output, B10.out.size, B10.out.block⟩⟩
end Nod
end Go.Proofs.Ytjikioiejdfodaa
