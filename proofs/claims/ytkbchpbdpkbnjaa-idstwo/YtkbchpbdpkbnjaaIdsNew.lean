/-
  Rows of numbers in memory of their own, that stay so whatever numbers are stored; the calls of ids that answer such rows; the document's own answers beside them.
-/
import Derived.Test.YtkbchpbdpkbnjaaIdsAll
namespace Go.Proofs.Ytkbchpbdpkbnjaa
open Go.RowKit
namespace Ids
theorem keep_both {a b : List Int} (ha : Up a) (hb : Up b) : keep a b true = both a b :=
  up_ext _ _ (up_filter ha _) (up_both ha hb) (fun z => by rw [mem_keep, mem_both ha hb, beq_iff_eq, has_iff])
theorem keep_minus {a b : List Int} (ha : Up a) (hb : Up b) : keep a b false = minus a b :=
  up_ext _ _ (up_filter ha _) (up_minus ha hb) (fun z => by
    rw [mem_keep, mem_minus ha hb, beq_iff_eq, ← has_iff b z]
    cases has b z <;> simp)
theorem set_union {a b : List Int} (ha : Up a) (hb : Up b) : setOf (a ++ b) = union a b :=
  up_ext _ _ (up_setOf _) (up_union ha hb) (fun z => by rw [mem_setOf, List.mem_append, mem_union ha hb])
end Ids
namespace I

/-- A row of numbers of its own, from block B on. -/
def NewRow (B : Nat) (w : World) (A : Option Addr) (n : Nat) : Prop := 0 < n → ∃ b off, A = some ⟨b, off, none⟩ ∧ B ≤ b ∧ b < w.heap.size ∧ ∀ i, i < n → ∃ z, w.cell? ⟨b, off + i, none⟩ = some (.int .i64 z) ∧ w.frozen? ⟨b, off + i, none⟩ = false
theorem NewRow.below {B : Nat} {w w' : World} {A : Option Addr} {n : Nat} (h : NewRow B w A n) (hb : Below w.heap.size w w') : NewRow B w' A n := fun hp => by
  obtain ⟨b, off, e, h1, h2, h3⟩ := h hp
  refine ⟨b, off, e, h1, Nat.lt_of_lt_of_le h2 hb.size, fun i hi => ?_⟩
  obtain ⟨z, c, f⟩ := h3 i hi
  refine ⟨z, (hb.cell (p := ⟨b, off + i, none⟩) h2).trans c, ?_⟩
  have := hb.block b h2
  simp only [World.frozen?, this] at f ⊢
  exact f
theorem own_new {w : World} {B n : Nat} {A : Option Addr} {c : Nat} {l : List Int} (h : w.ownsRow B 3 1 (.slice A l.length c) n (icells l)) : NewRow B w A l.length := fun hp => by
  have hv : Value.slice A l.length c ≠ .slice none 0 0 := by
    intro e; injection e with _ e2 _; omega
  obtain ⟨g, cap, e, hb, hg, _, _, hl, hH⟩ := Lib.holds_of_ownsRow (enc := Value.int .i64) (zs := l) h hv
  injection e with e1 e2 e3
  refine ⟨g, 0, e1, hb, hg, fun i hi => ?_⟩
  obtain ⟨c1, f1⟩ := hH i (by simpa using hi)
  exact ⟨_, c1, f1⟩

section
variable (xs ys : List Int) (A B : Option Addr) (c d : Nat) (w : World) (hl : xs.length ≤ 1000) (hl2 : ys.length ≤ 1000) (hx : LstC w A c xs) (hy : LstC w B d ys)
include hl hl2 hx hy
theorem union_n : Calls Try.prog 43 #[.slice A xs.length c, .slice B ys.length d] w fun e w' => ∃ A' c', e = .returned (.slice A' (Ids.union xs ys).length c') ∧ LstC w' A' c' (Ids.union xs ys) ∧ NewRow w.heap.size w' A' (Ids.union xs ys).length ∧ Below w.heap.size w w' :=
  (union_any xs ys A B c d w hl hl2 hx.2.1 hy.2.1 hx.2.2.1 hy.2.2.1 hx.1 hy.1).mono fun e w' ⟨v, he, ho, hb⟩ => by
    obtain ⟨A', c', hv, hi⟩ := own_lstC ho
    subst hv
    exact ⟨A', c', he, hi, own_new ho, hb⟩
theorem both_n : Calls Try.prog 44 #[.slice A xs.length c, .slice B ys.length d] w fun e w' => ∃ A' c', e = .returned (.slice A' (Ids.both xs ys).length c') ∧ LstC w' A' c' (Ids.both xs ys) ∧ NewRow w.heap.size w' A' (Ids.both xs ys).length ∧ Below w.heap.size w w' :=
  (both_any xs ys A B c d w hl hl2 hx.2.1 hy.2.1 hx.2.2.1 hy.2.2.1 hx.1 hy.1).mono fun e w' ⟨v, he, ho, hb⟩ => by
    obtain ⟨A', c', hv, hi⟩ := own_lstC ho
    subst hv
    exact ⟨A', c', he, hi, own_new ho, hb⟩
theorem minus_n : Calls Try.prog 45 #[.slice A xs.length c, .slice B ys.length d] w fun e w' => ∃ A' c', e = .returned (.slice A' (Ids.minus xs ys).length c') ∧ LstC w' A' c' (Ids.minus xs ys) ∧ NewRow w.heap.size w' A' (Ids.minus xs ys).length ∧ Below w.heap.size w w' :=
  (minus_any xs ys A B c d w hl hl2 hx.2.1 hy.2.1 hx.2.2.1 hy.2.2.1 hx.1 hy.1).mono fun e w' ⟨v, he, ho, hb⟩ => by
    obtain ⟨A', c', hv, hi⟩ := own_lstC ho
    subst hv
    exact ⟨A', c', he, hi, own_new ho, hb⟩
theorem refUnion_c (ux : Ids.Up xs) (uy : Ids.Up ys) : Calls Try.prog 46 #[.slice A xs.length c, .slice B ys.length d] w fun e w' => ∃ A' c', e = .returned (.slice A' (Ids.union xs ys).length c') ∧ IntsAt w' A' (Ids.union xs ys) ∧ Below w.heap.size w w' :=
  (refUnion_any xs ys A B c d w (by omega) (by omega) hx.1 hy.1 hx.2.2.2 hy.2.2.2).mono fun e w' ⟨v, he, ⟨A', c', hv, hI⟩, hb⟩ => by
    rw [Ids.set_union ux uy] at hv hI
    exact ⟨A', c', by rw [he, hv], hI, hb⟩
theorem refKeep_t (ux : Ids.Up xs) (uy : Ids.Up ys) : Calls Try.prog 47 #[.slice A xs.length c, .slice B ys.length d, .bool true] w fun e w' => ∃ A' c', e = .returned (.slice A' (Ids.both xs ys).length c') ∧ IntsAt w' A' (Ids.both xs ys) ∧ Below w.heap.size w w' :=
  (refKeep_any xs ys A B c d true w (by omega) (by omega) hx.1 hy.1).mono fun e w' ⟨v, he, ho, hb⟩ => by
    rw [Ids.keep_both ux uy] at ho
    obtain ⟨A', c', hv, hi⟩ := own_lstC ho
    exact ⟨A', c', by rw [he, hv], hi.1, hb⟩
theorem refKeep_f (ux : Ids.Up xs) (uy : Ids.Up ys) : Calls Try.prog 47 #[.slice A xs.length c, .slice B ys.length d, .bool false] w fun e w' => ∃ A' c', e = .returned (.slice A' (Ids.minus xs ys).length c') ∧ IntsAt w' A' (Ids.minus xs ys) ∧ Below w.heap.size w w' :=
  (refKeep_any xs ys A B c d false w (by omega) (by omega) hx.1 hy.1).mono fun e w' ⟨v, he, ho, hb⟩ => by
    rw [Ids.keep_minus ux uy] at ho
    obtain ⟨A', c', hv, hi⟩ := own_lstC ho
    exact ⟨A', c', by rw [he, hv], hi.1, hb⟩
end

/-- What stays while numbers are stored into rows from block B on. -/
structure Three (B : Nat) (W wr : World) (gL : Nat) (cs : Array Value) (A1 A2 A3 : Option Addr) (n1 n2 n3 : Nat) : Prop where
  bel : Below B W wr
  lit : wr.heap[gL]? = some (.cells cs 41)
  r1 : NewRow B wr A1 n1
  r2 : NewRow B wr A2 n2
  r3 : NewRow B wr A3 n3
theorem below_set {B : Nat} {W wr : World} (h : Below B W wr) {b j : Nat} (hb : B ≤ b) (v : Value) : Below B W (wr.setCell ⟨b, j, none⟩ v) := by
  rw [Sort.setCell_eq]
  refine ⟨h.os, h.tape, h.output, by simpa [Sort.mapBlock] using h.size, fun k hk => ?_⟩
  rw [← h.block k hk]
  simp [Sort.mapBlock, Array.getElem?_modify, show b ≠ k by omega]
theorem NewRow.set {B : Nat} {wr : World} {A : Option Addr} {n : Nat} (h : NewRow B wr A n) {b j : Nat} {z0 : Int} (hc : wr.cell? ⟨b, j, none⟩ = some (.int .i64 z0)) (z : Int) : NewRow B (wr.setCell ⟨b, j, none⟩ (.int .i64 z)) A n := fun hp => by
  obtain ⟨b', off, e, h1, h2, h3⟩ := h hp
  refine ⟨b', off, e, h1, by rw [Sort.setCell_eq]; simpa [Sort.mapBlock] using h2, fun i hi => ?_⟩
  obtain ⟨y, cy, fy⟩ := h3 i hi
  have hf : (wr.setCell ⟨b, j, none⟩ (.int .i64 z)).frozen? ⟨b', off + i, none⟩ = false := by rw [Sort.setCell_eq, Sort.frozen?_mapBlock]; exact fy
  by_cases he : b' = b ∧ off + i = j
  · obtain ⟨rfl, rfl⟩ := he
    obtain ⟨cs, t, fr, hh, hcs⟩ := Sort.cells_of_cell? hc
    refine ⟨z, ?_, hf⟩
    rw [Sort.setCell_eq, Sort.cell?_mapBlock _ _ _ _ hh]
    have hlt : off + i < cs.size := by
      rcases Nat.lt_or_ge (off + i) cs.size with h4 | h4
      · exact h4
      · rw [Array.getElem?_eq_none h4] at hcs; cases hcs
    simp [hlt]
  · refine ⟨y, ?_, hf⟩
    obtain ⟨cs, t, fr, hh, hcs⟩ := Sort.cells_of_cell? hc
    by_cases hbb : b' = b
    · subst hbb
      have hne : off + i ≠ j := fun h => he ⟨rfl, h⟩
      obtain ⟨cs', t', fr', hh', hcs'⟩ := Sort.cells_of_cell? cy
      rw [Sort.setCell_eq, Sort.cell?_mapBlock _ _ _ _ hh']
      rw [Array.getElem?_setIfInBounds, if_neg (by omega)]
      exact hcs'
    · rw [← cy, Sort.setCell_eq]
      simp [World.cell?, Sort.mapBlock, Array.getElem?_modify, show b ≠ b' from fun h => hbb h.symm]
theorem Three.set {B : Nat} {W wr : World} {gL : Nat} {cs : Array Value} {A1 A2 A3 : Option Addr} {n1 n2 n3 : Nat} (h : Three B W wr gL cs A1 A2 A3 n1 n2 n3) {b j : Nat} {z0 : Int} (hb : B ≤ b) (hL : b ≠ gL) (hc : wr.cell? ⟨b, j, none⟩ = some (.int .i64 z0)) (z : Int) : Three B W (wr.setCell ⟨b, j, none⟩ (.int .i64 z)) gL cs A1 A2 A3 n1 n2 n3 :=
  ⟨below_set h.bel hb _, by rw [Sort.setCell_eq, ← h.lit]; simp [Sort.mapBlock, Array.getElem?_modify, hL], h.r1.set hc z, h.r2.set hc z, h.r3.set hc z⟩
end I
end Go.Proofs.Ytkbchpbdpkbnjaa
