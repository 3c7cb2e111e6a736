/-
  What the document's own Flush does (layer 5).
-/
import Derived.Test.YtojbanknbgihgaaDiskRef
namespace Go.Proofs.Ytojbanknbgihgaa
open Go.RowKit
namespace Dsk
open B

/-- a disk's value reads as a disk -/
def Is (p : Nat → Prop) (w : World) (v : Value) (d : D) : Prop := ∃ A1 c1 A2 c2 A3 c3, v = dval (.slice A1 d.now.length c1) (.slice A2 d.sure.length c2) (.slice A3 d.loose.length c3) d.writes d.halt d.down ∧
  At vStr w A1 d.now ∧ At vStr w A2 d.sure ∧ At vInt w A3 d.loose ∧ (A1 = none → c1 = 0) ∧ (A2 = none → c2 = 0) ∧ (A3 = none → c3 = 0) ∧ (0 < d.now.length → ∀ a, A1 = some a → p a.block) ∧ (0 < d.sure.length → ∀ a, A2 = some a → p a.block) ∧ (0 < d.loose.length → ∀ a, A3 = some a → p a.block)
theorem Is.below {p : Nat → Prop} {w w' : World} {v : Value} {d : D} (h : Is p w v d) (hb : Below w.heap.size w w') : Is p w' v d := by
  obtain ⟨A1, c1, A2, c2, A3, c3, e, h1, h2, h3, r⟩ := h
  exact ⟨A1, c1, A2, c2, A3, c3, e, h1.below hb, h2.below hb, h3.below hb, r⟩
theorem own_from {w : World} {B e n m c : Nat} {A : Option Addr} {l : List Value} (h : w.ownsRow B e 1 (.slice A m c) n l) : ∀ a, A = some a → B ≤ a.block := by
  intro a ha
  subst ha
  exact (h.lt a.block rfl).1
/-- numbers that no turn makes too great -/
structure Ok (d : D) : Prop where
  w0 : 0 ≤ d.writes
  w1 : d.writes ≤ 1000000000000
  h0 : -9223372036854775808 ≤ d.halt
  h1 : d.halt ≤ 9223372036854775807
  n1 : d.now.length ≤ 100000
  n2 : d.sure.length ≤ 100000
  n3 : d.loose.length ≤ 100000

set_option maxRecDepth 5000 in
set_option maxHeartbeats 1000000 in
theorem refFlush_ok (A1 A2 A3 : Option Addr) (now : List ByteArray) (c1 n2 c2 n3 c3 : Nat) (wr h : Int) (w : World) (hw : 0 ≤ wr) (hw2 : wr ≤ 1000000000000) (hh : -9223372036854775808 ≤ h) (hh2 : h ≤ 9223372036854775807) (h0 : h ≠ 0)
    (hl : now.length ≤ 100000) (hA : At vStr w A1 now) (hc : A1 = none → c1 = 0) :
    Calls Try.prog 12 #[dval (.slice A1 now.length c1) (.slice A2 n2 c2) (.slice A3 n3 c3) wr h false] w fun e w' => ∃ A2' c2',
      e = .returned (.tuple #[dval (.slice A1 now.length c1) (.slice A2' now.length c2') (.slice none 0 0) (wr + 1) (if 0 < h then h - 1 else h) false, .int .i64 0]) ∧ At vStr w' A2' now ∧ (A2' = none → c2' = 0) ∧ (∀ a, A2' = some a → w.heap.size ≤ a.block) ∧ Below w.heap.size w w' := by
  obtain ⟨i0, hi, hz0, hz1, hz2⟩ := info_parts info9
  have e1 : (if h = 0 then wr else wr + 1) = wr + 1 := if_neg h0
  have e3 : (if h = 0 then true else false) = false := if_neg h0
  have e4 : (h == 0) = false := by rw [beq_eq_false_iff_ne]; exact h0
  have CT := Lib.hid (fun W => refTurn_any A1 A2 A3 now.length c1 n2 c2 n3 c3 wr h false W hw hw2 hh hh2)
  rw [e1, e3, e4] at CT
  generalize (if 0 < h then h - 1 else h) = h' at *
  have HA := Lib.hid hA
  have HC := Lib.hid hc
  clear hA hc e1 e3 e4 hh hh2 h0
  go_enter Try.func12, Try.ntmps12
  have bW : ∀ o p q r t : Obj, Below w.heap.size w (((((w.alloc o).alloc p).alloc q).alloc r).alloc t) := fun o p q r t => ((((Below.refl _ w).alloc (Nat.le_refl _) o).alloc (by simp) p).alloc (by simp; omega) q |>.alloc (by simp; omega) r).alloc (by simp; omega) t
  go_wp2_with (first
    | (go_at_call 29; ((with_reducible refine (CT.out _).mono ?_); rintro e1 w' ⟨rfl, rfl⟩))
    | (at_builtin; refine wpList_append_at (V := vStr) _ rfl _ _ 26 9 rfl (w.heap.size + 2) i0 _ 16 Try.underlying26 hi hz0 hz1 hz2 rfl (by decide) _ [] now (fun _ => rfl) rfl (own_lit0 _ _ _ _ (by simp) (by omega)) A1 c1 rfl (HA.out.below (bW _ _ _ _ _)) HC.out (by simp; omega) (by simp) ?_))
  intro v1 w1 own1 g1 _
  have k0 := grown_block g1 (hp_old _ (hp_old _ (hp_old _ (hp_old _ (heap_last _ _ _ rfl))))) (ne_own (by omega))
  have k1 := grown_block g1 (hp_old _ (hp_old _ (hp_old _ (heap_last _ _ (w.heap.size + 1) (by simp))))) (ne_own (by omega))
  have k00 := row_cell k0 0
  have f00 := row_frozen k0 0
  have k10 := row_cell k1 0
  have f10 := row_frozen k1 0
  have k01 := row_cell k0 1
  have f01 := row_frozen k0 1
  have k11 := row_cell k1 1
  have f11 := row_frozen k1 1
  have k02 := row_cell k0 2
  have f02 := row_frozen k0 2
  have k12 := row_cell k1 2
  have f12 := row_frozen k1 2
  have k03 := row_cell k0 3
  have f03 := row_frozen k0 3
  have k13 := row_cell k1 3
  have f13 := row_frozen k1 3
  have k04 := row_cell k0 4
  have f04 := row_frozen k0 4
  have k14 := row_cell k1 4
  have f14 := row_frozen k1 4
  have k05 := row_cell k0 5
  have f05 := row_frozen k0 5
  have k15 := row_cell k1 5
  have f15 := row_frozen k1 5
  have b1 : Below w.heap.size w w1 := (bW _ _ _ _ _).grown g1 (by simp; omega) (fun k hk => by simp [Value.ownBlock] at hk; omega)
  have O1 := Lib.hid own1
  have B1 := Lib.hid b1
  obtain ⟨A, c, hv, hr⟩ := own_at own1
  subst hv
  clear own1 b1 g1 k0 k1 CT bW
  simp only [List.getElem?_cons_zero, List.getElem?_cons_succ] at k00 k01 k02 k03 k04 k05 k10 k11 k12 k13 k14 k15
  go_wp2
  (try simp only [Exit.inBlock, Exit.then])
  refine bodyPost_ret (results_cells_tmp rfl _ _ (w.heap.size + 1) [.slice A1 now.length c1, .slice A now.length c, .slice none 0 0, .int .i64 (wr + 1), .int .i64 h', .bool false] _ rfl ?_ Try.underlying29 disk_info) rfl ?_
  · refine six ?_ ?_ ?_ ?_ ?_ ?_ <;> go_simp
  · refine ⟨A, c, rfl, own_at' (B := w.heap.size + 2) (e := 9) (m := now.length) (c := c) (n := now.length) ?_, hr.2.2, (fun a ha => by have := own_from O1.out a ha; omega), ?_⟩
    · repeat (refine ownsRow_setCell_below ?_ (by simp) _)
      exact O1.out
    · repeat (refine Below.setCell ?_ (by simp) _)
      exact B1.out

set_option maxRecDepth 5000 in
set_option maxHeartbeats 1000000 in
theorem refFlush_down (A1 A2 A3 : Option Addr) (n1 c1 n2 c2 n3 c3 : Nat) (wr h : Int) (w : World) :
    Calls Try.prog 12 #[dval (.slice A1 n1 c1) (.slice A2 n2 c2) (.slice A3 n3 c3) wr h true] w fun e w' =>
      e = .returned (.tuple #[dval (.slice A1 n1 c1) (.slice A2 n2 c2) (.slice A3 n3 c3) wr h true, .int .i64 6]) ∧ Below w.heap.size w w' := by
  have b0 : ∀ o p, Below w.heap.size w ((w.alloc o).alloc p) := fun o p => ((Below.refl _ _).alloc (Nat.le_refl _) _).alloc (base1 (Nat.le_refl _) _) _
  go_enter Try.func12, Try.ntmps12
  go_wp2
  ((try simp only [Exit.inBlock, Exit.then]); refine bodyPost_ret (results_row_tmp rfl _ _ (w.heap.size + 1) 29 _ _ _ rfl (heap_last _ _ _ (by simp)) Try.underlying29 disk_info) rfl ?_)
  exact ⟨rfl, b0 _ _⟩

set_option maxRecDepth 5000 in
set_option maxHeartbeats 1000000 in
theorem refFlush_halt (A1 A2 A3 : Option Addr) (n1 c1 n2 c2 n3 c3 : Nat) (wr : Int) (w : World) (hw : 0 ≤ wr) (hw2 : wr ≤ 1000000000000) :
    Calls Try.prog 12 #[dval (.slice A1 n1 c1) (.slice A2 n2 c2) (.slice A3 n3 c3) wr 0 false] w fun e w' =>
      e = .returned (.tuple #[dval (.slice A1 n1 c1) (.slice A2 n2 c2) (.slice A3 n3 c3) wr 0 true, .int .i64 6]) ∧ Below w.heap.size w w' := by
  have b0 : ∀ o p q r : Obj, Below w.heap.size w ((((w.alloc o).alloc p).alloc q).alloc r) := fun o p q r => (((Below.refl _ w).alloc (Nat.le_refl _) o).alloc (by simp) p).alloc (by simp; omega) q |>.alloc (by simp; omega) r
  have CT := Lib.hid (fun W => refTurn_any A1 A2 A3 n1 c1 n2 c2 n3 c3 wr 0 false W hw hw2 (by decide) (by decide))
  rw [if_pos rfl, if_neg (by decide), if_pos rfl] at CT
  go_enter Try.func12, Try.ntmps12
  go_wp2_with (go_at_call 29; ((with_reducible refine (CT.out _).mono ?_); rintro e1 w' ⟨rfl, rfl⟩))
  (try simp only [Exit.inBlock, Exit.then])
  refine bodyPost_ret (results_row_tmp rfl _ _ (w.heap.size + 1) 29 _ _ _ rfl (hp_old _ (hp_old _ (heap_last _ _ _ (by simp)))) Try.underlying29 disk_info) rfl ?_
  exact ⟨rfl, b0 _ _ _ _⟩

theorem refFlush_any {p : Nat → Prop} (d : D) (v : Value) (w : World) (h : Is p w v d) (ho : Ok d) (hp : ∀ n, w.heap.size ≤ n → p n) :
    Calls Try.prog 12 #[v] w fun e w' => ∃ v', e = .returned (.tuple #[v', .int .i64 (flush d).2]) ∧ Is p w' v' (flush d).1 ∧ Below w.heap.size w w' := by
  obtain ⟨A1, c1, A2, c2, A3, c3, rfl, h1, h2, h3, n1, n2, n3, p1, p2, p3⟩ := h
  obtain ⟨now, sure, loose, writes, halt, down⟩ := d
  cases down with
  | true =>
    refine (refFlush_down A1 A2 A3 _ c1 _ c2 _ c3 writes halt w).mono ?_
    rintro e w' ⟨rfl, hb⟩
    exact ⟨_, rfl, ⟨A1, c1, A2, c2, A3, c3, rfl, h1.below hb, h2.below hb, h3.below hb, n1, n2, n3, p1, p2, p3⟩, hb⟩
  | false =>
    by_cases h0 : halt = 0
    · subst h0
      refine (refFlush_halt A1 A2 A3 _ c1 _ c2 _ c3 writes w ho.w0 ho.w1).mono ?_
      rintro e w' ⟨rfl, hb⟩
      exact ⟨_, rfl, ⟨A1, c1, A2, c2, A3, c3, rfl, h1.below hb, h2.below hb, h3.below hb, n1, n2, n3, p1, p2, p3⟩, hb⟩
    · have hf : flush ⟨now, sure, loose, writes, halt, false⟩ = (⟨now, now, [], writes + 1, if 0 < halt then halt - 1 else halt, false⟩, 0) := by
        simp [flush, turn, h0]
      rw [hf]
      refine (refFlush_ok A1 A2 A3 now c1 _ c2 _ c3 writes halt w ho.w0 ho.w1 ho.h0 ho.h1 h0 ho.n1 h1 n1).mono ?_
      rintro e w' ⟨A, c, rfl, hA, hn, hf, hb⟩
      exact ⟨_, rfl, ⟨A1, c1, A, c, none, 0, rfl, h1.below hb, hA, At.nil _ _, n1, hn, (fun _ => rfl), p1, (fun _ a ha => hp _ (hf a ha)), fun _ a ha => by cases ha⟩, hb⟩
end Dsk
end Go.Proofs.Ytojbanknbgihgaa
