/-
  What the document's own Write does (layer 5).
-/
import Derived.Test.YtojbanknbgihgaaDiskFlush
import Derived.Deep.RegionHeld3
namespace Go.Proofs.Ytojbanknbgihgaa
open Go.RowKit
namespace Dsk
open B

set_option maxRecDepth 5000 in
set_option maxHeartbeats 2000000 in
theorem refWrite_ok (A1 A2 A3 : Option Addr) (now : List ByteArray) (loose : List Int) (c1 n2 c2 c3 : Nat) (wr h : Int) (k : Nat) (s : ByteArray) (w : World) (hw : 0 ≤ wr) (hw2 : wr ≤ 1000000000000) (hh : -9223372036854775808 ≤ h) (hh2 : h ≤ 9223372036854775807) (h0 : h ≠ 0)
    (hl : now.length ≤ 100000) (hl3 : loose.length ≤ 100000) (hA : At vStr w A1 now) (hA3 : At vInt w A3 loose) (hc : A1 = none → c1 = 0) (hk : k < now.length) (hs : s.size ≤ 256) :
    Calls Try.prog 20 #[dval (.slice A1 now.length c1) (.slice A2 n2 c2) (.slice A3 loose.length c3) wr h false, .int .i64 (k : Int), .string s] w fun e w' => ∃ B1 d1 B3 d3,
      e = .returned (.tuple #[dval (.slice B1 now.length d1) (.slice A2 n2 c2) (.slice B3 (withR k loose).length d3) (wr + 1) (if 0 < h then h - 1 else h) false, .int .i64 0]) ∧ At vStr w' B1 (now.set k (fill s)) ∧ At vInt w' B3 (withR k loose) ∧ (B1 = none → d1 = 0) ∧ (B3 = none → d3 = 0) ∧ (∀ a, B1 = some a → w.heap.size ≤ a.block) ∧ (∀ a, B3 = some a → w.heap.size ≤ a.block) ∧ Below w.heap.size w w' := by
  obtain ⟨i0, hi, hz0, hz1, hz2⟩ := info_parts info9
  have e1 : (if h = 0 then wr else wr + 1) = wr + 1 := if_neg h0
  have e3 : (if h = 0 then true else false) = false := if_neg h0
  have e4 : (h == 0) = false := by rw [beq_eq_false_iff_ne]; exact h0
  have CT := Lib.hid (fun W => refTurn_any A1 A2 A3 now.length c1 n2 c2 loose.length c3 wr h false W hw hw2 hh hh2)
  rw [e1, e3, e4] at CT
  generalize (if 0 < h then h - 1 else h) = h' at *
  have HA := Lib.hid hA
  have HA3 := Lib.hid hA3
  have HC := Lib.hid hc
  clear hA hA3 hc e1 e3 e4 hh hh2 h0
  have bW : ∀ o p q r t : Obj, Below w.heap.size w (((((w.alloc o).alloc p).alloc q).alloc r).alloc t) := fun o p q r t => ((((Below.refl _ w).alloc (Nat.le_refl _) o).alloc (by simp) p).alloc (by simp; omega) q |>.alloc (by simp; omega) r).alloc (by simp; omega) t
  have hk1 : (0 : Int) ≤ (k : Int) := Int.natCast_nonneg _
  have hk2 : (k : Int) < (now.length : Int) := by omega
  have hs1 : ((s.size : Int)) ≤ 256 := by omega
  go_enter Try.func20, Try.ntmps20
  go_wp2_with (first
    | (go_at_call 29; ((with_reducible refine (CT.out _).mono ?_); rintro e1 w' ⟨rfl, rfl⟩))
    | (at_builtin; refine wpList_append_at (V := vStr) _ rfl _ _ 26 9 rfl (w.heap.size + 2) i0 _ 16 Try.underlying26 hi hz0 hz1 hz2 rfl (by decide) _ [] now (fun _ => rfl) rfl (own_lit0 _ _ _ _ (by simp) (by omega)) A1 c1 rfl (HA.out.below (bW _ _ _ _ _)) HC.out (by simp; omega) (by simp) ?_))
  intro v1 w1 own1 g1 _
  have k0 := grown_block g1 (hp_old _ (hp_old _ (hp_old _ (hp_old _ (heap_last _ _ _ rfl))))) (ne_own (by omega))
  have k1 := grown_block g1 (hp_old _ (hp_old _ (hp_old _ (heap_last _ _ (w.heap.size + 1) (by simp))))) (ne_own (by omega))
  have k00 := row_cell k0 0
  have f00 := row_frozen k0 0
  have k10 := row_cell k1 0
  have f10 := row_frozen k1 0
  have k01 := row_cell k0 1
  have f01 := row_frozen k0 1
  have k11 := row_cell k1 1
  have f11 := row_frozen k1 1
  have k02 := row_cell k0 2
  have f02 := row_frozen k0 2
  have k12 := row_cell k1 2
  have f12 := row_frozen k1 2
  have k03 := row_cell k0 3
  have f03 := row_frozen k0 3
  have k13 := row_cell k1 3
  have f13 := row_frozen k1 3
  have k04 := row_cell k0 4
  have f04 := row_frozen k0 4
  have k14 := row_cell k1 4
  have f14 := row_frozen k1 4
  have k05 := row_cell k0 5
  have f05 := row_frozen k0 5
  have k15 := row_cell k1 5
  have f15 := row_frozen k1 5
  have b1 : Below w.heap.size w w1 := (bW _ _ _ _ _).grown g1 (by simp; omega) (fun k hk => by simp [Value.ownBlock] at hk; omega)
  have B1 := Lib.hid b1
  have hlo := fun g hg => own1.lt g hg
  obtain ⟨A, c, hv, hAt, _, hAn⟩ := own_at own1
  subst hv
  obtain ⟨bb, off, hAe, hbl, hcells⟩ := hAt (by omega)
  have hz : off = 0 ∧ ∀ i, w1.frozen? ⟨bb, i, none⟩ = false := by
    rcases own1.2 with ⟨hv, _⟩ | ⟨g, cap, cur, hv, _, hg, _⟩
    · rw [hAe] at hv; cases hv
    · rw [hAe] at hv; injection hv with hv; injection hv with hv; injection hv with hv1 hv2
      subst hv1
      exact ⟨hv2, fun i => by unfold World.frozen?; rw [hg]; simp⟩
  obtain ⟨hz, hfr⟩ := hz
  subst hz hAe
  have hbb : w.heap.size + 2 ≤ bb := (hlo bb rfl).1
  have hck := hcells k hk
  rw [Nat.zero_add] at hck
  have HT := Lib.hid hAt
  have K0 := Lib.hid k0
  have K1 := Lib.hid k1
  have hfk := hfr k
  clear own1 b1 g1 k0 k1 hfr CT bW hlo hcells hAt hAn
  simp only [List.getElem?_cons_zero, List.getElem?_cons_succ] at k00 k01 k02 k03 k04 k05 k10 k11 k12 k13 k14 k15
  go_wp2
  have K0' := Lib.hid (blk_set K0.out 0 (.slice (some ⟨bb, 0, none⟩) now.length c))
  have K1' := Lib.hid (blk_other (i := 0) K1.out (show w.heap.size + 1 ≠ w.heap.size by omega) (.slice (some ⟨bb, 0, none⟩) now.length c))
  have B2 := Lib.hid (B1.out.setCell (p := ⟨w.heap.size, 0, none⟩) (Nat.le_refl _) (.slice (some ⟨bb, 0, none⟩) now.length c))
  have HT2 := Lib.hid (HT.out.other (b := w.heap.size) (o := 0) (fun c hc => by injection hc with hc; subst hc; show bb ≠ w.heap.size; omega) (.slice (some ⟨bb, 0, none⟩) now.length c))
  have q0 : (w1.setCell ⟨w.heap.size, 0, none⟩ (.slice (some ⟨bb, 0, none⟩) now.length c)).cell? ⟨w.heap.size, 0, none⟩ = some (.slice (some ⟨bb, 0, none⟩) now.length c) := row_cell K0'.out 0
  have q1 : (w1.setCell ⟨w.heap.size, 0, none⟩ (.slice (some ⟨bb, 0, none⟩) now.length c)).cell? ⟨bb, k, none⟩ = some (vStr now[k]) := by
    rw [World.cell?_setCell_other _ _ _ _ (by intro e; injection e with e _; omega)]; exact hck
  have q2 : (w1.setCell ⟨w.heap.size, 0, none⟩ (.slice (some ⟨bb, 0, none⟩) now.length c)).frozen? ⟨bb, k, none⟩ = false := by simpa using hfk
  clear k00 k01 k02 k03 k04 k05 k10 k11 k12 k13 k14 k15 f00 f01 f02 f03 f04 f05 f10 f11 f12 f13 f14 f15 K0 K1 B1 HT hck hfk
  have hbl2 : bb < (w1.setCell ⟨w.heap.size, 0, none⟩ (.slice (some ⟨bb, 0, none⟩) now.length c)).heap.size := by simpa using hbl
  clear hbl
  generalize w1.setCell ⟨w.heap.size, 0, none⟩ (.slice (some ⟨bb, 0, none⟩) now.length c) = w2 at *
  clear w1
  have CF := Lib.hid (fun W => refFill_any s W (by omega))
  go_region_held3 (fun w' => w'.cell? ⟨w.heap.size, 0, none⟩ = some (.slice (some ⟨bb, 0, none⟩) now.length c))
    (first
      | go_keep
      | exact r0
      | (rw [World.cell?_setCell_other _ _ _ _ (by intro e; injection e with e _; omega)]; exact r0))
    (first | (go_at_call 21; refine (CF.out _).mono ?_; rintro e w' ⟨rfl, hb⟩; have r0 := (hb.cell (p := ⟨w.heap.size, 0, none⟩) (by simp; omega)).trans (by simpa using q0); have r1 := (hb.cell (p := ⟨bb, k, none⟩) (by simpa using hbl2)).trans (by simpa using q1); have r2 := (hb.frozen (p := ⟨bb, k, none⟩) (by simpa using hbl2)).trans (by simpa using q2)))
  rename_i hHeld
  have hb' : Below w2.heap.size w2 w' := ⟨hb.os, hb.tape, hb.output, hb.size, hb.block⟩
  have K0 : Hid ((w'.setCell ⟨bb, k, none⟩ (.string (fill s))).heap[w.heap.size]? = some (.cells #[.slice (some ⟨bb, 0, none⟩) now.length c, .slice A2 n2 c2, .slice A3 loose.length c3, .int .i64 (wr + 1), .int .i64 h', .bool false] 29)) :=
    blk_other (blk_below K0'.out hb' (blk_lt K0'.out)) (by omega) _
  have K1 : Hid ((w'.setCell ⟨bb, k, none⟩ (.string (fill s))).heap[w.heap.size + 1]? = some (.cells #[.slice none 0 0, .slice none 0 0, .slice none 0 0, .int .i64 0, .int .i64 0, .bool false] 29)) :=
    blk_other (blk_below K1'.out hb' (blk_lt K1'.out)) (by omega) _
  have B3 := Lib.hid ((B2.out.trans (hb'.mono B2.out.size)).setCell (p := ⟨bb, k, none⟩) (show w.heap.size ≤ bb by omega) (.string (fill s)))
  have HT3 : Hid (At vStr (w'.setCell ⟨bb, k, none⟩ (.string (fill s))) (some ⟨bb, 0, none⟩) (now.set k (fill s))) := (HT2.out.below hb').set hk (fill s)
  clear hHeld r0 r1 r2 hb hb' q0 q1 q2 hbl2 K0' K1' B2 HT2 CF
  generalize w'.setCell ⟨bb, k, none⟩ (.string (fill s)) = w3 at *
  clear w2 w'
  have CW := Lib.hid (refWith_any loose A3 c3 (k : Int) w3 (by omega) (HA3.out.below B3.out))
  obtain ⟨k00, k01, k02, k03, k04, k05, f00, f01, f02, f03, f04, f05⟩ := row6 K0.out
  obtain ⟨k10, k11, k12, k13, k14, k15, f10, f11, f12, f13, f14, f15⟩ := row6 K1.out
  go_wp2_with (go_at_call 33; ((with_reducible refine CW.out.mono ?_); rintro e1 w4 ⟨v4, rfl, own4, hb4⟩; obtain ⟨A4, d4, hv4, hr4⟩ := own_at own4; subst hv4; clear k00 k01 k02 k03 k04 k05 k10 k11 k12 k13 k14 k15 f00 f01 f02 f03 f04 f05 f10 f11 f12 f13 f14 f15; obtain ⟨k00, k01, k02, k03, k04, k05, f00, f01, f02, f03, f04, f05⟩ := row6 (blk_below K0.out hb4 (blk_lt K0.out)); obtain ⟨k10, k11, k12, k13, k14, k15, f10, f11, f12, f13, f14, f15⟩ := row6 (blk_below K1.out hb4 (blk_lt K1.out)); have O4 := Lib.hid own4; clear own4))
  (try simp only [Exit.inBlock, Exit.then])
  refine bodyPost_ret (results_cells_tmp rfl _ _ (w.heap.size + 1) [.slice (some ⟨bb, 0, none⟩) now.length c, .slice A2 n2 c2, .slice A4 (withR k loose).length d4, .int .i64 (wr + 1), .int .i64 h', .bool false] _ rfl ?_ Try.underlying29 disk_info) rfl ?_
  · refine six ?_ ?_ ?_ ?_ ?_ ?_ <;> go_simp
  · have l0 := blk_lt K0.out
    have l1 := blk_lt K1.out
    refine ⟨some ⟨bb, 0, none⟩, c, A4, d4, rfl, ?_, own_at' (B := w3.heap.size) (e := 3) (m := (withR k loose).length) (c := d4) (n := (withR k loose).length) ?_, (fun e => by cases e), hr4.2.2, (fun a ha => by injection ha with ha; subst ha; show w.heap.size ≤ bb; omega), (fun a ha => by have := own_from O4.out a ha; have := B3.out.size; omega), ?_⟩
    · repeat (refine At.other ?_ (fun c hc => by injection hc with hc; subst hc; simp; omega) _)
      exact HT3.out.below hb4
    · repeat (refine ownsRow_setCell_below ?_ (by simpa using by assumption) _)
      exact O4.out
    · repeat (refine Below.setCell ?_ (by simp) _)
      exact B3.out.trans (hb4.mono B3.out.size)

set_option maxRecDepth 5000 in
set_option maxHeartbeats 1000000 in
theorem refWrite_down (A1 A2 A3 : Option Addr) (n1 c1 n2 c2 n3 c3 : Nat) (wr h i : Int) (s : ByteArray) (w : World) :
    Calls Try.prog 20 #[dval (.slice A1 n1 c1) (.slice A2 n2 c2) (.slice A3 n3 c3) wr h true, .int .i64 i, .string s] w fun e w' =>
      e = .returned (.tuple #[dval (.slice A1 n1 c1) (.slice A2 n2 c2) (.slice A3 n3 c3) wr h true, .int .i64 6]) ∧ Below w.heap.size w w' := by
  have b0 : ∀ o p, Below w.heap.size w ((w.alloc o).alloc p) := fun o p => ((Below.refl _ _).alloc (Nat.le_refl _) _).alloc (base1 (Nat.le_refl _) _) _
  go_enter Try.func20, Try.ntmps20
  go_wp2
  ((try simp only [Exit.inBlock, Exit.then]); refine bodyPost_ret (results_row_tmp rfl _ _ (w.heap.size + 1) 29 _ _ _ rfl (heap_last _ _ _ (by simp)) Try.underlying29 disk_info) rfl ?_)
  exact ⟨rfl, b0 _ _⟩

set_option maxRecDepth 5000 in
set_option maxHeartbeats 1000000 in
theorem refWrite_neg (A1 A2 A3 : Option Addr) (n1 c1 n2 c2 n3 c3 : Nat) (wr h i : Int) (s : ByteArray) (w : World) (hi : i < 0) :
    Calls Try.prog 20 #[dval (.slice A1 n1 c1) (.slice A2 n2 c2) (.slice A3 n3 c3) wr h false, .int .i64 i, .string s] w fun e w' =>
      e = .returned (.tuple #[dval (.slice A1 n1 c1) (.slice A2 n2 c2) (.slice A3 n3 c3) wr h false, .int .i64 7]) ∧ Below w.heap.size w w' := by
  have b0 : ∀ o p, Below w.heap.size w ((w.alloc o).alloc p) := fun o p => ((Below.refl _ _).alloc (Nat.le_refl _) _).alloc (base1 (Nat.le_refl _) _) _
  go_enter Try.func20, Try.ntmps20
  go_wp2
  ((try simp only [Exit.inBlock, Exit.then]); refine bodyPost_ret (results_row_tmp rfl _ _ (w.heap.size + 1) 29 _ _ _ rfl (heap_last _ _ _ (by simp)) Try.underlying29 disk_info) rfl ?_)
  exact ⟨rfl, b0 _ _⟩

set_option maxRecDepth 5000 in
set_option maxHeartbeats 1000000 in
theorem refWrite_past (A1 A2 A3 : Option Addr) (n1 c1 n2 c2 n3 c3 : Nat) (wr h i : Int) (s : ByteArray) (w : World) (hi0 : 0 ≤ i) (hi : (n1 : Int) ≤ i) :
    Calls Try.prog 20 #[dval (.slice A1 n1 c1) (.slice A2 n2 c2) (.slice A3 n3 c3) wr h false, .int .i64 i, .string s] w fun e w' =>
      e = .returned (.tuple #[dval (.slice A1 n1 c1) (.slice A2 n2 c2) (.slice A3 n3 c3) wr h false, .int .i64 7]) ∧ Below w.heap.size w w' := by
  have b0 : ∀ o p, Below w.heap.size w ((w.alloc o).alloc p) := fun o p => ((Below.refl _ _).alloc (Nat.le_refl _) _).alloc (base1 (Nat.le_refl _) _) _
  have h1 : ¬ i < 0 := by omega
  go_enter Try.func20, Try.ntmps20
  go_wp2
  ((try simp only [Exit.inBlock, Exit.then]); refine bodyPost_ret (results_row_tmp rfl _ _ (w.heap.size + 1) 29 _ _ _ rfl (heap_last _ _ _ (by simp)) Try.underlying29 disk_info) rfl ?_)
  exact ⟨rfl, b0 _ _⟩

set_option maxRecDepth 5000 in
set_option maxHeartbeats 1000000 in
theorem refWrite_long (A1 A2 A3 : Option Addr) (n1 c1 n2 c2 n3 c3 : Nat) (wr h i : Int) (s : ByteArray) (w : World) (hi0 : 0 ≤ i) (hi : i < (n1 : Int)) (hs : 256 < s.size) :
    Calls Try.prog 20 #[dval (.slice A1 n1 c1) (.slice A2 n2 c2) (.slice A3 n3 c3) wr h false, .int .i64 i, .string s] w fun e w' =>
      e = .returned (.tuple #[dval (.slice A1 n1 c1) (.slice A2 n2 c2) (.slice A3 n3 c3) wr h false, .int .i64 1]) ∧ Below w.heap.size w w' := by
  have b0 : ∀ o p, Below w.heap.size w ((w.alloc o).alloc p) := fun o p => ((Below.refl _ _).alloc (Nat.le_refl _) _).alloc (base1 (Nat.le_refl _) _) _
  have h1 : ¬ i < 0 := by omega
  have h2 : ¬ (n1 : Int) ≤ i := by omega
  have h3 : (256 : Int) < (s.size : Int) := by omega
  go_enter Try.func20, Try.ntmps20
  go_wp2
  ((try simp only [Exit.inBlock, Exit.then]); refine bodyPost_ret (results_row_tmp rfl _ _ (w.heap.size + 1) 29 _ _ _ rfl (heap_last _ _ _ (by simp)) Try.underlying29 disk_info) rfl ?_)
  exact ⟨rfl, b0 _ _⟩

set_option maxRecDepth 5000 in
set_option maxHeartbeats 1000000 in
theorem refWrite_halt (A1 A2 A3 : Option Addr) (n1 c1 n2 c2 n3 c3 : Nat) (wr i : Int) (s : ByteArray) (w : World) (hw : 0 ≤ wr) (hw2 : wr ≤ 1000000000000) (hi0 : 0 ≤ i) (hi : i < (n1 : Int)) (hs : s.size ≤ 256) :
    Calls Try.prog 20 #[dval (.slice A1 n1 c1) (.slice A2 n2 c2) (.slice A3 n3 c3) wr 0 false, .int .i64 i, .string s] w fun e w' =>
      e = .returned (.tuple #[dval (.slice A1 n1 c1) (.slice A2 n2 c2) (.slice A3 n3 c3) wr 0 true, .int .i64 6]) ∧ Below w.heap.size w w' := by
  have b0 : ∀ o p q r : Obj, Below w.heap.size w ((((w.alloc o).alloc p).alloc q).alloc r) := fun o p q r => (((Below.refl _ w).alloc (Nat.le_refl _) o).alloc (by simp) p).alloc (by simp; omega) q |>.alloc (by simp; omega) r
  have CT := Lib.hid (fun W => refTurn_any A1 A2 A3 n1 c1 n2 c2 n3 c3 wr 0 false W hw hw2 (by decide) (by decide))
  rw [if_pos rfl, if_neg (by decide), if_pos rfl] at CT
  have h1 : ¬ i < 0 := by omega
  have h2 : ¬ (n1 : Int) ≤ i := by omega
  have h3 : ¬ (256 : Int) < (s.size : Int) := by omega
  go_enter Try.func20, Try.ntmps20
  go_wp2_with (go_at_call 29; ((with_reducible refine (CT.out _).mono ?_); rintro e1 w' ⟨rfl, rfl⟩))
  (try simp only [Exit.inBlock, Exit.then])
  refine bodyPost_ret (results_row_tmp rfl _ _ (w.heap.size + 1) 29 _ _ _ rfl (hp_old _ (hp_old _ (heap_last _ _ _ (by simp)))) Try.underlying29 disk_info) rfl ?_
  exact ⟨rfl, b0 _ _ _ _⟩

theorem refWrite_any {p : Nat → Prop} (d : D) (v : Value) (i : Int) (s : ByteArray) (w : World) (h : Is p w v d) (ho : Ok d) (hp : ∀ n, w.heap.size ≤ n → p n) :
    Calls Try.prog 20 #[v, .int .i64 i, .string s] w fun e w' => ∃ v', e = .returned (.tuple #[v', .int .i64 (write d i s).2]) ∧ Is p w' v' (write d i s).1 ∧ Below w.heap.size w w' := by
  obtain ⟨A1, c1, A2, c2, A3, c3, rfl, h1, h2, h3, n1, n2, n3, p1, p2, p3⟩ := h
  obtain ⟨now, sure, loose, writes, halt, down⟩ := d
  cases down with
  | true =>
    refine (refWrite_down A1 A2 A3 _ c1 _ c2 _ c3 writes halt i s w).mono ?_
    rintro e w' ⟨rfl, hb⟩
    exact ⟨_, rfl, ⟨A1, c1, A2, c2, A3, c3, rfl, h1.below hb, h2.below hb, h3.below hb, n1, n2, n3, p1, p2, p3⟩, hb⟩
  | false =>
    by_cases hi : i < 0 ∨ (now.length : Int) ≤ i
    · have hf : write ⟨now, sure, loose, writes, halt, false⟩ i s = (⟨now, sure, loose, writes, halt, false⟩, 7) := by
        simp [write, hi]
      rw [hf]
      by_cases hi0 : i < 0
      · refine (refWrite_neg A1 A2 A3 _ c1 _ c2 _ c3 writes halt i s w hi0).mono ?_
        rintro e w' ⟨rfl, hb⟩
        exact ⟨_, rfl, ⟨A1, c1, A2, c2, A3, c3, rfl, h1.below hb, h2.below hb, h3.below hb, n1, n2, n3, p1, p2, p3⟩, hb⟩
      · refine (refWrite_past A1 A2 A3 now.length c1 _ c2 _ c3 writes halt i s w (by omega) (by omega)).mono ?_
        rintro e w' ⟨rfl, hb⟩
        exact ⟨_, rfl, ⟨A1, c1, A2, c2, A3, c3, rfl, h1.below hb, h2.below hb, h3.below hb, n1, n2, n3, p1, p2, p3⟩, hb⟩
    · by_cases hs : 256 < s.size
      · have hf : write ⟨now, sure, loose, writes, halt, false⟩ i s = (⟨now, sure, loose, writes, halt, false⟩, 1) := by
          simp [write, hi, hs]
        rw [hf]
        refine (refWrite_long A1 A2 A3 now.length c1 _ c2 _ c3 writes halt i s w (by omega) (by omega) hs).mono ?_
        rintro e w' ⟨rfl, hb⟩
        exact ⟨_, rfl, ⟨A1, c1, A2, c2, A3, c3, rfl, h1.below hb, h2.below hb, h3.below hb, n1, n2, n3, p1, p2, p3⟩, hb⟩
      · by_cases h0 : halt = 0
        · subst h0
          have hf : write ⟨now, sure, loose, writes, 0, false⟩ i s = (⟨now, sure, loose, writes, 0, true⟩, 6) := by
            simp [write, hi, hs, turn]
          rw [hf]
          refine (refWrite_halt A1 A2 A3 now.length c1 _ c2 _ c3 writes i s w ho.w0 ho.w1 (by omega) (by omega) (by omega)).mono ?_
          rintro e w' ⟨rfl, hb⟩
          exact ⟨_, rfl, ⟨A1, c1, A2, c2, A3, c3, rfl, h1.below hb, h2.below hb, h3.below hb, n1, n2, n3, p1, p2, p3⟩, hb⟩
        · have hf : write ⟨now, sure, loose, writes, halt, false⟩ i s = (⟨now.set i.toNat (fill s), sure, withR i loose, writes + 1, if 0 < halt then halt - 1 else halt, false⟩, 0) := by
            simp [write, hi, hs, turn, h0]
          rw [hf]
          obtain ⟨k, rfl⟩ : ∃ k : Nat, i = (k : Int) := ⟨i.toNat, by omega⟩
          refine (refWrite_ok A1 A2 A3 now loose c1 _ c2 c3 writes halt k s w ho.w0 ho.w1 ho.h0 ho.h1 h0 ho.n1 ho.n3 h1 h3 n1 (by omega) (by omega)).mono ?_
          rintro e w' ⟨B1, d1, B3, d3, rfl, hA, hB, m1, m3, q1, q3, hb⟩
          refine ⟨_, rfl, ⟨B1, d1, A2, c2, B3, d3, ?_, hA, h2.below hb, hB, m1, n2, m3, (fun _ a ha => hp _ (q1 a ha)), p2, fun _ a ha => hp _ (q3 a ha)⟩, hb⟩
          show dval _ _ _ _ _ _ = dval (.slice B1 (now.set _ _).length d1) _ _ _ _ _
          rw [List.length_set]
end Dsk
end Go.Proofs.Ytojbanknbgihgaa
