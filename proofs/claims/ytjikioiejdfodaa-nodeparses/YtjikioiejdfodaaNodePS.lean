/-
  Node: what Parse holds in memory while it goes on.
-/
import Derived.Test.YtjikioiejdfodaaNodePack
import Derived.Deep.AppendLies
import Derived.Deep.RegionLaw
namespace Go.Proofs.Ytjikioiejdfodaa
open Go.RowKit
namespace Nod
open B V

/-- the result, the node, what is left to read, and the three rows -/
structure PS (M : Nat) (w : World) (g4 gN gI : Nat) (k : Int) (vk vv vc : Value) (K Vv : List ByteArray) (C : List Int) (S : ByteArray) (e : Nat) : Prop where
  r4 : w.heap[g4]? = some (.cells #[.int .i64 0, .slice none 0 0, .slice none 0 0, .slice none 0 0] 57)
  rN : w.heap[gN]? = some (.cells #[.int .i64 k, vk, vv, vc] 57)
  i : InAt w gI S e
  ok : w.ownsRow M 9 1 vk K.length (K.map vStr)
  ov : w.ownsRow M 9 1 vv Vv.length (Vv.map vStr)
  oc : w.ownsRow M 3 1 vc C.length (C.map vInt)
  l1 : g4 < gN
  l2 : gN < gI
  l3 : gI < M
  l4 : M ≤ w.heap.size
  n1 : ∀ b, vk.ownBlock = some b → vv.ownBlock ≠ some b
  n2 : ∀ b, vk.ownBlock = some b → vc.ownBlock ≠ some b
  n3 : ∀ b, vv.ownBlock = some b → vc.ownBlock ≠ some b
section
variable {M : Nat} {w : World} {g4 gN gI : Nat} {k : Int} {vk vv vc : Value} {K Vv : List ByteArray} {C : List Int} {S : ByteArray} {e : Nat}
theorem PS.drew (h : PS M w g4 gN gI k vk vv vc K Vv C S e) : PS M w.drew g4 gN gI k vk vv vc K Vv C S e := ⟨h.r4, h.rN, h.i, h.ok, h.ov, h.oc, h.l1, h.l2, h.l3, h.l4, h.n1, h.n2, h.n3⟩
theorem own_ge {base e size n : Nat} {v : Value} {xs : List Value} (h : w.ownsRow base e size v n xs) {b : Nat} (hb : v.ownBlock = some b) : base ≤ b := (h.lt b hb).1
/-- what Text or Num of In does -/
theorem PS.read {w' : World} {S' : ByteArray} {e' : Nat} (h : PS M w g4 gN gI k vk vv vc K Vv C S e) (hi : InAt w' gI S' e') (hg : w.grownBy w' (some gI)) : PS M w' g4 gN gI k vk vv vc K Vv C S' e' := by
  have h1 := h.l1; have h2 := h.l2; have h3 := h.l3; have h4 := h.l4
  refine ⟨grown_block hg h.r4 (by intro q; injection q with q; omega), grown_block hg h.rN (by intro q; injection q with q; omega), hi, h.ok.kept hg ?_, h.ov.kept hg ?_, h.oc.kept hg ?_, h1, h2, h3, Nat.le_trans h4 hg.size, h.n1, h.n2, h.n3⟩
  · cases hq : vk.ownBlock with
    | none => simp
    | some b => have := own_ge h.ok hq; simp; omega
  · cases hq : vv.ownBlock with
    | none => simp
    | some b => have := own_ge h.ov hq; simp; omega
  · cases hq : vc.ownBlock with
    | none => simp
    | some b => have := own_ge h.oc hq; simp; omega
theorem own_put {base t size n g j : Nat} {v u : Value} {xs : List Value} (h : w.ownsRow base t size v n xs) (hg : g < base) : (w.setCell ⟨g, j, none⟩ u).ownsRow base t size v n xs :=
  h.kept (B.grown_set w g j u) (by cases hq : v.ownBlock with
    | none => simp
    | some b => have := own_ge h hq; simp; omega)
theorem own_grow {base t size n : Nat} {v u : Value} {xs : List Value} {o : Obj} {w' : World} (h : w.ownsRow base t size v n xs) (hg : (w.alloc o).grownBy w' u.ownBlock) (hne : ∀ b, u.ownBlock = some b → v.ownBlock ≠ some b) : w'.ownsRow base t size v n xs := by
  have h1 : (w.alloc o).ownsRow base t size v n xs := h.alloc o
  refine h1.kept hg ?_
  cases hq : u.ownBlock with
  | none => cases hv : v.ownBlock <;> simp
  | some b =>
    have := hne b hq
    cases hv : v.ownBlock with
    | none => simp
    | some c => rw [hv] at this; exact .inr this
theorem in_grow {o : Obj} {w' : World} {u : Value} (h : InAt w gI S e) (hg : (w.alloc o).grownBy w' u.ownBlock) (hl : gI < w.heap.size) (hu : ∀ b, u.ownBlock = some b → gI ≠ b) : InAt w' gI S e := by
  have hb : w'.heap[gI]? = w.heap[gI]? := by
    rw [hg.block gI (by simp; omega) (fun q => hu gI q.symm rfl)]
    exact Below.heap_alloc w o gI hl
  obtain ⟨a, b, c, d⟩ := h
  refine ⟨?_, ?_, ?_, ?_⟩
  · rw [World.cell?_of_block (w := w) (by exact hb)]; exact a
  · rw [World.cell?_of_block (w := w) (by exact hb)]; exact b
  · rw [World.frozen?_of_block (w := w) (by exact hb)]; exact c
  · rw [World.frozen?_of_block (w := w) (by exact hb)]; exact d
theorem in_put {g j : Nat} {u : Value} (h : InAt w gI S e) (hne : gI ≠ g) : InAt (w.setCell ⟨g, j, none⟩ u) gI S e := by
  have hb : (w.setCell ⟨g, j, none⟩ u).heap[gI]? = w.heap[gI]? := Below.heap_setCell w ⟨g, j, none⟩ u gI hne
  obtain ⟨a, b, c, d⟩ := h
  refine ⟨?_, ?_, ?_, ?_⟩
  · rw [World.cell?_of_block (w := w) (by exact hb)]; exact a
  · rw [World.cell?_of_block (w := w) (by exact hb)]; exact b
  · rw [World.frozen?_of_block (w := w) (by exact hb)]; exact c
  · rw [World.frozen?_of_block (w := w) (by exact hb)]; exact d
theorem blk_grow {o o' : Obj} {w' : World} {u : Value} {g : Nat} (h : w.heap[g]? = some o') (hg : (w.alloc o).grownBy w' u.ownBlock) (hu : ∀ b, u.ownBlock = some b → g ≠ b) : w'.heap[g]? = some o' :=
  grown_block hg (hp_old o h) (fun q => hu g q.symm rfl)
theorem lies_ne {u v : Value} {g H n c : Nat} {base t size m : Nat} {xs : List Value} (hv : w.ownsRow base t size v m xs) (hH : w.heap.size ≤ H) (hl : u.ownBlock = some g ∨ g = H) (hne : ∀ b, u.ownBlock = some b → v.ownBlock ≠ some b) : ∀ b, (Value.slice (some ⟨g, 0, none⟩) n c).ownBlock = some b → v.ownBlock ≠ some b := by
  intro b hb hq
  injection hb with hb
  subst hb
  rcases hl with hl | hl
  · exact hne _ hl hq
  · have := (hv.lt _ hq).2; simp only at this; omega
/-- a key more -/
theorem PS.key {o : Obj} {w' : World} {g cap : Nat} {key : ByteArray} (h : PS M w g4 gN gI k vk vv vc K Vv C S e)
    (own : w'.ownsRow M 9 1 (.slice (some ⟨g, 0, none⟩) (K.length + 1) cap) (K.length + 1) (K.map vStr ++ [.string key])) (grow : (w.alloc o).grownBy w' vk.ownBlock) (lies : vk.ownBlock = some g ∨ g = (w.alloc o).heap.size) :
    PS M (w'.setCell ⟨gN, 1, none⟩ (.slice (some ⟨g, 0, none⟩) (K.length + 1) cap)) g4 gN gI k (.slice (some ⟨g, 0, none⟩) (K.length + 1) cap) vv vc (K ++ [key]) Vv C S e := by
  have h1 := h.l1; have h2 := h.l2; have h3 := h.l3; have h4 := h.l4
  have hge : ∀ b, vk.ownBlock = some b → M ≤ b := fun b hb => own_ge h.ok hb
  refine ⟨blk_other (blk_grow h.r4 grow (fun b hb => by have := hge b hb; omega)) (by omega) _, blk_set (cs := [_, _, _, _]) (blk_grow h.rN grow (fun b hb => by have := hge b hb; omega)) 1 _, in_put (in_grow h.i grow (by omega) (fun b hb => by have := hge b hb; omega)) (by omega),
    own_put (by rw [List.length_append, List.map_append]; exact own) (by omega), own_put (own_grow h.ov grow h.n1) (by omega), own_put (own_grow h.oc grow h.n2) (by omega), h1, h2, h3, ?_, lies_ne h.ov (by simp) lies h.n1, lies_ne h.oc (by simp) lies h.n2, h.n3⟩
  have := grow.size
  simp at this ⊢; omega
/-- a value more -/
theorem PS.val {o : Obj} {w' : World} {g cap : Nat} {x : ByteArray} (h : PS M w g4 gN gI k vk vv vc K Vv C S e)
    (own : w'.ownsRow M 9 1 (.slice (some ⟨g, 0, none⟩) (Vv.length + 1) cap) (Vv.length + 1) (Vv.map vStr ++ [.string x])) (grow : (w.alloc o).grownBy w' vv.ownBlock) (lies : vv.ownBlock = some g ∨ g = (w.alloc o).heap.size) :
    PS M (w'.setCell ⟨gN, 2, none⟩ (.slice (some ⟨g, 0, none⟩) (Vv.length + 1) cap)) g4 gN gI k vk (.slice (some ⟨g, 0, none⟩) (Vv.length + 1) cap) vc K (Vv ++ [x]) C S e := by
  have h1 := h.l1; have h2 := h.l2; have h3 := h.l3; have h4 := h.l4
  have hge : ∀ b, vv.ownBlock = some b → M ≤ b := fun b hb => own_ge h.ov hb
  have n1' : ∀ b, vv.ownBlock = some b → vk.ownBlock ≠ some b := fun b hb hk => h.n1 b hk hb
  refine ⟨blk_other (blk_grow h.r4 grow (fun b hb => by have := hge b hb; omega)) (by omega) _, blk_set (cs := [_, _, _, _]) (blk_grow h.rN grow (fun b hb => by have := hge b hb; omega)) 2 _, in_put (in_grow h.i grow (by omega) (fun b hb => by have := hge b hb; omega)) (by omega),
    own_put (own_grow h.ok grow n1') (by omega), own_put (by rw [List.length_append, List.map_append]; exact own) (by omega), own_put (own_grow h.oc grow h.n3) (by omega), h1, h2, h3, ?_, fun b hb hk => lies_ne h.ok (by simp) lies n1' b hk hb, h.n2, lies_ne h.oc (by simp) lies h.n3⟩
  have := grow.size
  simp at this ⊢; omega
/-- a page more -/
theorem PS.kid {o : Obj} {w' : World} {g cap : Nat} {x : Int} (h : PS M w g4 gN gI k vk vv vc K Vv C S e)
    (own : w'.ownsRow M 3 1 (.slice (some ⟨g, 0, none⟩) (C.length + 1) cap) (C.length + 1) (C.map vInt ++ [.int .i64 x])) (grow : (w.alloc o).grownBy w' vc.ownBlock) (lies : vc.ownBlock = some g ∨ g = (w.alloc o).heap.size) :
    PS M (w'.setCell ⟨gN, 3, none⟩ (.slice (some ⟨g, 0, none⟩) (C.length + 1) cap)) g4 gN gI k vk vv (.slice (some ⟨g, 0, none⟩) (C.length + 1) cap) K Vv (C ++ [x]) S e := by
  have h1 := h.l1; have h2 := h.l2; have h3 := h.l3; have h4 := h.l4
  have hge : ∀ b, vc.ownBlock = some b → M ≤ b := fun b hb => own_ge h.oc hb
  have n2' : ∀ b, vc.ownBlock = some b → vk.ownBlock ≠ some b := fun b hb hk => h.n2 b hk hb
  have n3' : ∀ b, vc.ownBlock = some b → vv.ownBlock ≠ some b := fun b hb hk => h.n3 b hk hb
  refine ⟨blk_other (blk_grow h.r4 grow (fun b hb => by have := hge b hb; omega)) (by omega) _, blk_set (cs := [_, _, _, _]) (blk_grow h.rN grow (fun b hb => by have := hge b hb; omega)) 3 _, in_put (in_grow h.i grow (by omega) (fun b hb => by have := hge b hb; omega)) (by omega),
    own_put (own_grow h.ok grow n2') (by omega), own_put (own_grow h.ov grow n3') (by omega), own_put (by rw [List.length_append, List.map_append]; exact own) (by omega), h1, h2, h3, ?_, h.n1, fun b hb hk => lies_ne h.ok (by simp) lies n2' b hk hb, fun b hb hk => lies_ne h.ov (by simp) lies n3' b hk hb⟩
  have := grow.size
  simp at this ⊢; omega
end
end Nod
end Go.Proofs.Ytjikioiejdfodaa
