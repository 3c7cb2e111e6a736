/-
  Setcode (layer 13): the pairs of bytes: the document's own FromPairs and the program's.
-/
import Derived.Test.YtedhijehmkiieaaSetPf
import Derived.Test.YtedhijehmkiieaaSetDp
namespace Go.Proofs.Ytedhijehmkiieaa
open Go.RowKit
namespace Sc
open B
open V (hd_le or_sum head_any InAt failS numS endS in_num in_err in_end fail_any of_new numS_le numS_size failS_size)

/-- a slice that reads as pairs -/
def LstP (w : World) (v : Value) (l : List P2) : Prop := ∃ A c, v = .slice A l.length c ∧ PrR w A l
theorem lstP_nil (w : World) : LstP w (.slice none 0 0) [] := ⟨none, 0, rfl, PrR.nil _ _⟩
theorem infoP : (Try.prog.info? 116).map (fun i => (i.zero, i.size, i.bytes)) = some (some (.agg #[.int .i64 0, .int .i64 0]), 2, 16) := by kernel_rfl
theorem two_cells (x y : Int) : ∀ u ∈ [Value.int .i64 x, Value.int .i64 y], u.oneCell' = true := by intro u hu; simp at hu; rcases hu with rfl | rfl <;> rfl
theorem news2 {w : World} {g : Nat} {x y : Int} (h : w.heap[g]? = some (.cells #[.int .i64 x, .int .i64 y] 116)) : ∀ j u, [Value.int .i64 x, Value.int .i64 y][j]? = some u → w.cell? ((⟨g, 0, none⟩ : Addr).add j) = some u := by
  intro j u hu
  rw [add_plain0]
  exact (row_cell (cs := [_, _]) h j).trans hu
theorem pcs_snoc (l : List P2) (x y : Int) : pcs (l ++ [(x, y)]) = pcs l ++ [.int .i64 x, .int .i64 y] := by rw [pcs_app]; rfl

/-! ### one number -/
theorem one_of {s : List UInt8} {x m f : Nat} (hr : Var.hd 0 0 s = (x, m, f)) : one s = if f ≠ 0 then (f, 0, []) else if 2147483647 < x then (4, 0, []) else (0, x, s.drop m) := by
  unfold one; rw [hr]
theorem num_one {S S1 : ByteArray} {x E1 : Nat} (h : numS S 0 2147483647 = (x, S1, E1)) : (E1 = 0 → one S.data.toList = (0, x, S1.data.toList) ∧ S1.size < S.size) ∧ (E1 ≠ 0 → (one S.data.toList).1 = E1 ∧ S1 = ⟨#[]⟩) := by
  obtain ⟨y, m, f, hr⟩ : ∃ x m f, Var.hd 0 0 S.data.toList = (x, m, f) := ⟨_, _, _, rfl⟩
  by_cases hb : f ≠ 0 ∨ 2147483647 < y
  · rw [num_bad hr hb] at h
    injection h with h1 h2
    injection h2 with h2 h3
    subst h1 h2 h3
    refine ⟨fun q => absurd q (code_ne f), fun _ => ⟨?_, rfl⟩⟩
    rw [one_of hr]
    by_cases hf : f = 0
    · subst hf; rw [if_neg (by simp), if_pos (by omega), if_neg (by simp)]
    · rw [if_pos hf, if_pos hf]
  · have hf : f = 0 := by omega
    subst hf
    have hx : ¬ 2147483647 < y := by omega
    rw [num_fine hr hx] at h
    injection h with h1 h2
    injection h2 with h2 h3
    subst h1 h2 h3
    refine ⟨fun _ => ⟨?_, ?_⟩, fun q => absurd rfl q⟩
    · rw [one_of hr, if_neg (by simp), if_neg hx, drop_data]
    · have hm : m ≤ S.size := by have := hd_le2 hr; rw [size_data] at this; exact this
      have := hd_pos hr
      rw [ByteArray.size_extract]; omega
theorem num_after {E : Nat} (h : E ≠ 0) : numS ⟨#[]⟩ E 2147483647 = (0, ⟨#[]⟩, E) := by
  unfold numS
  rw [if_neg (by decide)]
  exact congrArg (Prod.mk 0) (fail_old h)

/-- what has been read, what is left, and what will come of it -/
def PDst (D : List P2 × Nat) (n : Nat) (acc : List P2) (S : ByteArray) (E : Nat) : Prop :=
  (E = 0 → decP n acc S.data.toList = D ∧ acc.length + S.size ≤ 1000) ∧ (E ≠ 0 → ([], E) = D ∧ S = ⟨#[]⟩)
theorem pdst_next {D : List P2 × Nat} {n x1 x2 E1 E2 : Nat} {acc : List P2} {S S1 S2 : ByteArray} (h : PDst D (n + 1) acc S 0) (h1 : numS S 0 2147483647 = (x1, S1, E1)) (h2 : numS S1 E1 2147483647 = (x2, S2, E2)) :
    PDst D n (acc ++ [((x1 : Int), (x2 : Int))]) S2 E2 := by
  obtain ⟨hd, hs⟩ := h.1 rfl
  rw [decP] at hd
  obtain ⟨a1, a2⟩ := num_one h1
  by_cases he1 : E1 = 0
  · subst he1
    obtain ⟨o1, z1⟩ := a1 rfl
    obtain ⟨b1, b2⟩ := num_one h2
    rw [o1] at hd
    simp only [ne_eq, not_true, if_false] at hd
    by_cases he2 : E2 = 0
    · subst he2
      obtain ⟨o2, z2⟩ := b1 rfl
      rw [o2] at hd
      simp only [not_true, if_false] at hd
      refine ⟨fun _ => ⟨hd, ?_⟩, fun q => absurd rfl q⟩
      rw [List.length_append, List.length_singleton]; omega
    · obtain ⟨o2, z2⟩ := b2 he2
      rw [o2, if_pos he2] at hd
      exact ⟨fun q => absurd q he2, fun _ => ⟨hd, z2⟩⟩
  · obtain ⟨o1, z1⟩ := a2 he1
    rw [o1, if_pos he1] at hd
    subst z1
    rw [num_after he1] at h2
    injection h2 with h3 h4
    injection h4 with h4 h5
    subst h3 h4 h5
    exact ⟨fun q => absurd q he1, fun _ => ⟨hd, rfl⟩⟩
theorem pdst_start {s S0 : ByteArray} {N E0 : Nat} (hs : s.size ≤ 1000) (h : numS s 0 2147483647 = (N, S0, E0)) : PDst (decodeP s.data.toList) N [] S0 E0 := by
  obtain ⟨a1, a2⟩ := num_one h
  unfold decodeP
  by_cases he : E0 = 0
  · subst he
    obtain ⟨o1, z1⟩ := a1 rfl
    rw [o1]
    simp only [ne_eq, not_true, if_false]
    exact ⟨fun _ => ⟨rfl, by simp only [List.length_nil]; omega⟩, fun q => absurd rfl q⟩
  · obtain ⟨o1, z1⟩ := a2 he
    rw [o1, if_pos he]
    exact ⟨fun q => absurd q he, fun _ => ⟨rfl, z1⟩⟩

theorem DS.put {M : Nat} {w : World} {t n sz g gt j : Nat} {v u : Value} {xs : List Value} {S : ByteArray} {e : Nat} (h : DS M w t n sz g v xs S e) (hg : g ≠ gt) (hv : ∀ b, v.ownBlock = some b → b ≠ gt) : DS M (w.setCell ⟨gt, j, none⟩ u) t n sz g v xs S e := by
  have hb : (w.setCell ⟨gt, j, none⟩ u).heap[g]? = w.heap[g]? := Below.heap_setCell w ⟨gt, j, none⟩ u g hg
  obtain ⟨a, b, c, d⟩ := h.i
  refine ⟨⟨?_, ?_, ?_, ?_⟩, h.o.kept (grown_set w gt j u) ?_, h.l1, by simpa using h.l2⟩
  · rw [World.cell?_of_block (w := w) (by exact hb)]; exact a
  · rw [World.cell?_of_block (w := w) (by exact hb)]; exact b
  · rw [World.frozen?_of_block (w := w) (by exact hb)]; exact c
  · rw [World.frozen?_of_block (w := w) (by exact hb)]; exact d
  · cases hq : v.ownBlock with
    | none => simp
    | some b => have := hv b hq; simp; omega
theorem DS.alloc {M : Nat} {w : World} {t n sz g : Nat} {v : Value} {xs : List Value} {S : ByteArray} {e : Nat} (h : DS M w t n sz g v xs S e) (o : Obj) : DS M (w.alloc o) t n sz g v xs S e :=
  ⟨h.i.below ((Below.refl w.heap.size w).alloc (Nat.le_refl _) o) (Nat.lt_of_lt_of_le h.l1 h.l2), h.o.alloc o, h.l1, by have := h.l2; simp; omega⟩

set_option maxRecDepth 100000 in
set_option maxHeartbeats 4000000 in
theorem fromPairs_any (s : ByteArray) (w : World) (hs : s.size ≤ 1000) :
    Calls Try.prog 30 #[.string s] w fun e w' => ∃ v, e = .returned (.tuple #[v, .int .i64 ((decodeP s.data.toList).2 : Int)]) ∧ LstP w' v (decodeP s.data.toList).1 ∧ Below w.heap.size w w' := by
  obtain ⟨i0, hi, hz0, hz1, hz2⟩ := info_parts infoP
  have CO := Lib.hid (of_new s w)
  obtain ⟨N, S0, E0, hn⟩ : ∃ N S0 E0, numS s 0 2147483647 = (N, S0, E0) := ⟨_, _, _, rfl⟩
  have hNle : N ≤ 2147483647 := by have := numS_le s 0 2147483647; rw [hn] at this; exact this
  have hS0 : S0.size ≤ s.size := by have := numS_size s 0 2147483647; rw [hn] at this; exact this
  have CN := Lib.hid (fun W g (q : InAt W g s 0) => (show Calls Try.prog 57 #[.pointer (some ⟨g, 0, none⟩), .int .u64 2147483647] W fun r w' => r = .returned (.int .u64 (N : Int)) ∧ InAt w' g S0 E0 ∧ W.grownBy w' (some g) by
    have := in_num g s 0 2147483647 W q (by unfold maxLen; omega); rw [hn] at this; exact this))
  have D0 := Lib.hid (pdst_start hs hn)
  generalize decodeP s.data.toList = D at *
  clear hn
  go_enter Try.func30, Try.ntmps30
  go_wp2_with (first
    | (go_at_call 56; ((with_reducible refine CO.out.mono ?_); rintro e w1 ⟨rfl, hi1, hb1, hs1⟩; have B1 := Lib.hid hb1; have I1 := Lib.hid hi1; clear hi1 hb1))
    | (go_at_call 57; ((with_reducible refine (CN.out _ _ I1.out).mono ?_); rintro e w2 ⟨rfl, hi2, hg2⟩; have I2 := Lib.hid hi2; have G2 := Lib.hid hg2; clear hi2 hg2)))
  have PQ2 : Hid (DS (w.heap.size + 1) w2 116 0 2 w.heap.size (.slice none 0 0) [] S0 E0) := ⟨I2.out, World.ownsRow_nil _ _ _ _, by omega, by have := G2.out.size; omega⟩
  have B2 := Lib.hid (B1.out.trans (B.grown_below G2.out (Nat.le_refl _) B1.out.size))
  clear I1 I2 G2 B1 CO CN
  go_loopw [5, 6] (fun t5 t6 wr => ∃ (n : Nat) (acc : List P2) (S : ByteArray) (E : Nat), t6 = .int .u64 (n : Int) ∧ n ≤ 2147483647 ∧ acc.length ≤ 1001 ∧ S.size ≤ 1000 ∧ PDst D n acc S E ∧ DS (w.heap.size + 1) wr 116 acc.length 2 w.heap.size t5 (pcs acc) S E ∧ Below w.heap.size w wr) (fun _ t6 _ => (intOf t6).toNat)
  case atStart => exact ⟨N, [], S0, E0, rfl, hNle, by simp, by omega, D0.out, PQ2.out, B2.out⟩
  case round =>
    obtain ⟨n, acc, S, E, rfl, hn, hac, hS, hdst, hds, hbel⟩ := hrel
    clear D0 PQ2 B2
    have DD := Lib.hid hdst
    have P3 := Lib.hid hds
    have B3 := Lib.hid hbel
    have CE := Lib.hid (in_err _ S E wr hds.i)
    have sb := hbel.size
    have hgl : w.heap.size < wr.heap.size := by have := hds.l1; have := hds.l2; omega
    clear hdst hds hbel
    by_cases hgo : 0 < n ∧ E = 0
    · obtain ⟨hn0, rfl⟩ := hgo
      obtain ⟨k, rfl⟩ : ∃ k, n = k + 1 := ⟨n - 1, by omega⟩
      have hkI : (0 : Int) < ((k + 1 : Nat) : Int) := by omega
      obtain ⟨hd1, hd2⟩ := DD.out.1 rfl
      obtain ⟨x1, S1, E1, h1⟩ : ∃ x S1 E1, numS S 0 2147483647 = (x, S1, E1) := ⟨_, _, _, rfl⟩
      obtain ⟨x2, S2, E2, h2⟩ : ∃ x S2 E2, numS S1 E1 2147483647 = (x, S2, E2) := ⟨_, _, _, rfl⟩
      have hx1 : x1 ≤ 2147483647 := by have := numS_le S 0 2147483647; rw [h1] at this; exact this
      have hx2 : x2 ≤ 2147483647 := by have := numS_le S1 E1 2147483647; rw [h2] at this; exact this
      have hS1 : S1.size ≤ S.size := by have := numS_size S 0 2147483647; rw [h1] at this; exact this
      have hS2 : S2.size ≤ S1.size := by have := numS_size S1 E1 2147483647; rw [h2] at this; exact this
      have hm3 : acc.length + 1 ≤ maxLen := by unfold maxLen; omega
      have hm4 : (acc.length + 1) * 16 ≤ 140737488355328 := by omega
      have hlw : IntKind.u64.wrap (((k + 1 : Nat) : Int) - 1) = (k : Int) := by rw [show ((k + 1 : Nat) : Int) - 1 = (k : Int) by omega]; exact IntWalk.u64_in _ (by omega)
      have DB := Lib.hid (pdst_next DD.out h1 h2)
      have CN1 := Lib.hid (fun W (h : InAt W w.heap.size S 0) => (show Calls Try.prog 57 #[.pointer (some ⟨w.heap.size, 0, none⟩), .int .u64 2147483647] W fun r w' => r = .returned (.int .u64 (x1 : Int)) ∧ InAt w' w.heap.size S1 E1 ∧ W.grownBy w' (some w.heap.size) by
        have := in_num w.heap.size S 0 2147483647 W h (by unfold maxLen; omega); rw [h1] at this; exact this))
      have CN2 := Lib.hid (fun W (h : InAt W w.heap.size S1 E1) => (show Calls Try.prog 57 #[.pointer (some ⟨w.heap.size, 0, none⟩), .int .u64 2147483647] W fun r w' => r = .returned (.int .u64 (x2 : Int)) ∧ InAt w' w.heap.size S2 E2 ∧ W.grownBy w' (some w.heap.size) by
        have := in_num w.heap.size S1 E1 2147483647 W h (by unfold maxLen; omega); rw [h2] at this; exact this))
      have hvo : ∀ b, u5.ownBlock = some b → b ≠ wr.heap.size := fun b hb => by have := (P3.out.o.lt b hb).2; omega
      have bA := (Below.refl wr.heap.size wr).alloc (Nat.le_refl _) (.cells #[.int .i64 0, .int .i64 0] 116)
      have RA := Lib.hid (heap_last wr (.cells #[.int .i64 0, .int .i64 0] 116) wr.heap.size rfl)
      have PA := Lib.hid (P3.out.alloc (.cells #[.int .i64 0, .int .i64 0] 116))
      have BA := Lib.hid (B3.out.trans (bA.mono sb))
      clear h1 h2 hd1 DD bA
      go_wp2_with (go_at_call 58; ((with_reducible refine CE.out.mono ?_); rintro e w' ⟨rfl, rfl⟩))
      refine wp_loop_rounds 3 ?_
      rw [rounds_succ]
      go_wp2_with (go_at_call 57; ((with_reducible refine (CN1.out _ PA.out.i).mono ?_); rintro e w4 ⟨rfl, hi4, hg4⟩; have P4 := Lib.hid (PA.out.read hi4 hg4); have B4 := Lib.hid (BA.out.trans (B.grown_below hg4 (Nat.le_refl _) BA.out.size)); have R4 := grown_block hg4 RA.out (by intro q; injection q with q; omega); have c4 := (row_cell (cs := [Value.int .i64 0, .int .i64 0]) R4 0).trans rfl; have f4 := row_frozen (cs := [Value.int .i64 0, .int .i64 0]) R4 0; clear hi4 hg4))
      have P5 := Lib.hid (P4.out.put (gt := wr.heap.size) (j := 0) (u := .int .i64 (x1 : Int)) (by omega) hvo)
      have B5 := Lib.hid (B4.out.setCell (p := ⟨wr.heap.size, 0, none⟩) (show w.heap.size ≤ wr.heap.size by omega) (.int .i64 (x1 : Int)))
      have R5 := Lib.hid (blk_set (cs := [_, _]) R4 0 (.int .i64 (x1 : Int)))
      clear R4 c4 f4
      generalize w4.setCell ⟨wr.heap.size, 0, none⟩ (.int .i64 (x1 : Int)) = W5 at *
      rw [rounds_succ]
      go_wp2_with (go_at_call 57; ((with_reducible refine (CN2.out _ P5.out.i).mono ?_); rintro e w6 ⟨rfl, hi6, hg6⟩; have P6 := Lib.hid (P5.out.read hi6 hg6); have B6 := Lib.hid (B5.out.trans (B.grown_below hg6 (Nat.le_refl _) B5.out.size)); have R6 := grown_block hg6 R5.out (by intro q; injection q with q; omega); have c6 := (row_cell (cs := [Value.int .i64 (x1 : Int), .int .i64 0]) R6 1).trans rfl; have f6 := row_frozen (cs := [Value.int .i64 (x1 : Int), .int .i64 0]) R6 1; clear hi6 hg6))
      have P7 := Lib.hid (P6.out.put (gt := wr.heap.size) (j := 1) (u := .int .i64 (x2 : Int)) (by omega) hvo)
      have B7 := Lib.hid (B6.out.setCell (p := ⟨wr.heap.size, 1, none⟩) (show w.heap.size ≤ wr.heap.size by omega) (.int .i64 (x2 : Int)))
      have R7 := blk_set (cs := [_, _]) R6 1 (.int .i64 (x2 : Int))
      clear R6 c6 f6
      generalize w6.setCell ⟨wr.heap.size, 1, none⟩ (.int .i64 (x2 : Int)) = W7 at *
      have c7 := (row_cell (cs := [Value.int .i64 (x1 : Int), .int .i64 (x2 : Int)]) R7 0).trans rfl
      have d7 := (row_cell (cs := [Value.int .i64 (x1 : Int), .int .i64 (x2 : Int)]) R7 1).trans rfl
      have s7 := P7.out.l2
      have t7 := B7.out.size
      rw [rounds_succ]
      go_wp2_with (at_builtin; refine wpList_append_own _ rfl _ _ 66 rfl (w.heap.size + 1) 116 i0 _ 2 16 Try.underlying66 hi hz0 hz1 hz2 rfl (by decide) _ _ _ rfl (P7.out.o.alloc _) ⟨W7.heap.size, 0, none⟩ 1 1 [.int .i64 (x1 : Int), .int .i64 (x2 : Int)] rfl rfl (news2 (heap_last _ _ _ rfl)) (two_cells _ _) hm3 hm4 (base1 s7 _) ?_)
      intro v' w8 hown' hgrow _
      have HB : Hid (Below w.heap.size w w8) := (B7.out.alloc t7 _).grown hgrow (by simp; omega) (fun q hq => by have := (P7.out.o.lt q hq).1; omega)
      have P8 := Lib.hid (P7.out.more hown' hgrow)
      clear hown' hgrow
      go_wp2
      go_roundw
      case rel => exact ⟨k, acc ++ [((x1 : Int), (x2 : Int))], S2, E2, by go_num, by omega, by rw [List.length_append, List.length_singleton]; omega, by omega, DB.out, by rw [List.length_append, List.length_singleton, pcs_snoc]; exact P8.out, HB.out⟩
      case measure => simp [intOf]
    · have CEn := Lib.hid (in_end _ S E wr P3.out.i)
      by_cases hE : E = 0
      · subst hE
        have hn0 : n = 0 := by omega
        subst hn0
        obtain ⟨hd1, hd2⟩ := DD.out.1 rfl
        rw [decP] at hd1
        by_cases hz : S.size = 0
        · rw [if_pos (data_nil hz)] at hd1
          have hen : endS S 0 = 0 := by unfold endS; rw [if_neg (by omega)]
          rw [hen] at CEn
          obtain ⟨A, c, rfl, hA, _⟩ := own_prr P3.out.o
          have cr := prise_any acc A c wr (by omega) hA
          have HA := Lib.hid hA
          by_cases hpr : prise acc = true
          · rw [if_pos hpr] at hd1
            have HD := Lib.hid hd1
            rw [hpr] at cr
            have CR := Lib.hid cr
            clear hd1 hz hen DD hgo cr hpr hA
            go_wp2_with (first
              | (go_at_call 58; ((with_reducible refine CE.out.mono ?_); rintro e w' ⟨rfl, rfl⟩))
              | (go_at_call 60; ((with_reducible refine CEn.out.mono ?_); rintro e w' ⟨rfl, rfl⟩))
              | (go_at_call 62; ((with_reducible refine CR.out.mono ?_); rintro e w' ⟨rfl, nn, rfl⟩)))
            go_ret2
            rw [← HD.out]
            exact ⟨_, rfl, ⟨_, _, rfl, HA.out.below (below_drewN (Below.refl _ _) nn)⟩, below_drewN B3.out nn⟩
          · have hpf : prise acc = false := by simpa using hpr
            rw [if_neg hpr] at hd1
            have HD := Lib.hid hd1
            rw [hpf] at cr
            have CR := Lib.hid cr
            clear hd1 hz hen DD hgo cr hpr hA hpf
            go_wp2_with (first
              | (go_at_call 58; ((with_reducible refine CE.out.mono ?_); rintro e w' ⟨rfl, rfl⟩))
              | (go_at_call 60; ((with_reducible refine CEn.out.mono ?_); rintro e w' ⟨rfl, rfl⟩))
              | (go_at_call 62; ((with_reducible refine CR.out.mono ?_); rintro e w' ⟨rfl, nn, rfl⟩)))
            go_ret2
            rw [← HD.out]
            exact ⟨_, rfl, lstP_nil _, below_drewN B3.out nn⟩
        · rw [if_neg (data_ne hz)] at hd1
          have HD := Lib.hid hd1
          have hen : endS S 0 = 3 := by unfold endS; rw [if_pos ⟨rfl, by omega⟩]
          rw [hen] at CEn
          clear hd1 hz hen DD hgo
          go_wp2_with (first
            | (go_at_call 58; ((with_reducible refine CE.out.mono ?_); rintro e w' ⟨rfl, rfl⟩))
            | (go_at_call 60; ((with_reducible refine CEn.out.mono ?_); rintro e w' ⟨rfl, rfl⟩)))
          go_ret2
          rw [← HD.out]
          exact ⟨_, rfl, lstP_nil _, B3.out⟩
      · have HD := Lib.hid (DD.out.2 hE).1
        have hen : endS S E = E := by unfold endS; rw [if_neg (by omega)]
        rw [hen] at CEn
        have he1 := nat_eq0 (show 0 < E by omega)
        have he2 := nat_ne0 (show 0 < E by omega)
        clear hen DD hE hgo
        by_cases hn0 : n = 0
        · subst hn0
          go_wp2_with (first
            | (go_at_call 58; ((with_reducible refine CE.out.mono ?_); rintro e w' ⟨rfl, rfl⟩))
            | (go_at_call 60; ((with_reducible refine CEn.out.mono ?_); rintro e w' ⟨rfl, rfl⟩)))
          go_ret2
          rw [← HD.out]
          exact ⟨_, rfl, lstP_nil _, B3.out⟩
        · have hnI : (0 : Int) < (n : Int) := by omega
          go_wp2_with (first
            | (go_at_call 58; ((with_reducible refine CE.out.mono ?_); rintro e w' ⟨rfl, rfl⟩))
            | (go_at_call 60; ((with_reducible refine CEn.out.mono ?_); rintro e w' ⟨rfl, rfl⟩)))
          go_ret2
          rw [← HD.out]
          exact ⟨_, rfl, lstP_nil _, B3.out⟩
end Sc
end Go.Proofs.Ytedhijehmkiieaa
