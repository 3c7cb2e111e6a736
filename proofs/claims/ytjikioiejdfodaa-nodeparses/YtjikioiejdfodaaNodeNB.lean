/-
  A node that is filled: a block with its four cells, and its three rows, of the call's own.
-/
import Derived.Test.YtjikioiejdfodaaNodeOwn
namespace Go.Proofs.Ytjikioiejdfodaa
open Go.RowKit
namespace Nod
open B V
set_option linter.unusedVariables false
structure NB (T : TypeId) (M : Nat) (w : World) (gN : Nat) (k : Int) (vk vv vc : Value) (K Vv : List ByteArray) (C : List Int) : Prop where
  rN : w.heap[gN]? = some (.cells #[.int .i64 k, vk, vv, vc] T)
  ok : w.ownsRow M 9 1 vk K.length (K.map vStr)
  ov : w.ownsRow M 9 1 vv Vv.length (Vv.map vStr)
  oc : w.ownsRow M 3 1 vc C.length (C.map vInt)
  l3 : gN < M
  l4 : M ≤ w.heap.size
  n1 : ∀ b, vk.ownBlock = some b → vv.ownBlock ≠ some b
  n2 : ∀ b, vk.ownBlock = some b → vc.ownBlock ≠ some b
  n3 : ∀ b, vv.ownBlock = some b → vc.ownBlock ≠ some b
section
variable {T : TypeId} {M : Nat} {w : World} {gN : Nat} {k : Int} {vk vv vc : Value} {K Vv : List ByteArray} {C : List Int}
theorem NB.drew (h : NB T M w gN k vk vv vc K Vv C) : NB T M w.drew gN k vk vv vc K Vv C := ⟨h.rN, h.ok, h.ov, h.oc, h.l3, h.l4, h.n1, h.n2, h.n3⟩
theorem NB.below {w' : World} (h : NB T M w gN k vk vv vc K Vv C) (hb : Below w.heap.size w w') : NB T M w' gN k vk vv vc K Vv C :=
  ⟨blk_below h.rN hb (blk_lt h.rN), B.own_below h.ok hb, B.own_below h.ov hb, B.own_below h.oc hb, h.l3, Nat.le_trans h.l4 hb.size, h.n1, h.n2, h.n3⟩
/-- low blocks but the node's own stay -/
def Low (M gN : Nat) (w w' : World) : Prop := ∀ g, g < M → g ≠ gN → w'.heap[g]? = w.heap[g]?
theorem low_step {o : Obj} {w' : World} {u x : Value} {j : Nat} (hM : M ≤ w.heap.size) (hu : ∀ b, u.ownBlock = some b → M ≤ b) (hg : (w.alloc o).grownBy w' u.ownBlock) : Low M gN w (w'.setCell ⟨gN, j, none⟩ x) := by
  intro g h1 h2
  have e1 : (w'.setCell ⟨gN, j, none⟩ x).heap[g]? = w'.heap[g]? := Below.heap_setCell w' ⟨gN, j, none⟩ x g h2
  have e2 : w'.heap[g]? = (w.alloc o).heap[g]? := hg.block g (by simp; omega) (fun q => by have := hu g q.symm; omega)
  rw [e1, e2]
  exact Below.heap_alloc w o g (by omega)
theorem below_step {Bd : Nat} {o : Obj} {w' : World} {u x : Value} {j : Nat} (hB : Bd ≤ gN) (hgM : gN < M) (hM : M ≤ w.heap.size) (hu : ∀ b, u.ownBlock = some b → M ≤ b) (hg : (w.alloc o).grownBy w' u.ownBlock) : Below Bd w (w'.setCell ⟨gN, j, none⟩ x) :=
  (((Below.refl Bd w).alloc (by omega) o).grown hg (by simp; omega) (fun b hb => by have := hu b hb; omega)).setCell (p := ⟨gN, j, none⟩) hB x
theorem NB.key {o : Obj} {w' : World} {g cap : Nat} {key : ByteArray} (h : NB T M w gN k vk vv vc K Vv C)
    (own : w'.ownsRow M 9 1 (.slice (some ⟨g, 0, none⟩) (K.length + 1) cap) (K.length + 1) (K.map vStr ++ [.string key])) (grow : (w.alloc o).grownBy w' vk.ownBlock) (lies : vk.ownBlock = some g ∨ g = (w.alloc o).heap.size) :
    NB T M (w'.setCell ⟨gN, 1, none⟩ (.slice (some ⟨g, 0, none⟩) (K.length + 1) cap)) gN k (.slice (some ⟨g, 0, none⟩) (K.length + 1) cap) vv vc (K ++ [key]) Vv C := by
  have h3 := h.l3; have h4 := h.l4
  have hge : ∀ b, vk.ownBlock = some b → M ≤ b := fun b hb => own_ge h.ok hb
  refine ⟨blk_set (cs := [_, _, _, _]) (blk_grow h.rN grow (fun b hb => by have := hge b hb; omega)) 1 _,
    own_put (by rw [List.length_append, List.map_append]; exact own) (by omega), own_put (own_grow h.ov grow h.n1) (by omega), own_put (own_grow h.oc grow h.n2) (by omega), h3, ?_, lies_ne h.ov (by simp) lies h.n1, lies_ne h.oc (by simp) lies h.n2, h.n3⟩
  have := grow.size
  simp at this ⊢; omega
theorem NB.val {o : Obj} {w' : World} {g cap : Nat} {x : ByteArray} (h : NB T M w gN k vk vv vc K Vv C)
    (own : w'.ownsRow M 9 1 (.slice (some ⟨g, 0, none⟩) (Vv.length + 1) cap) (Vv.length + 1) (Vv.map vStr ++ [.string x])) (grow : (w.alloc o).grownBy w' vv.ownBlock) (lies : vv.ownBlock = some g ∨ g = (w.alloc o).heap.size) :
    NB T M (w'.setCell ⟨gN, 2, none⟩ (.slice (some ⟨g, 0, none⟩) (Vv.length + 1) cap)) gN k vk (.slice (some ⟨g, 0, none⟩) (Vv.length + 1) cap) vc K (Vv ++ [x]) C := by
  have h3 := h.l3; have h4 := h.l4
  have hge : ∀ b, vv.ownBlock = some b → M ≤ b := fun b hb => own_ge h.ov hb
  have n1' : ∀ b, vv.ownBlock = some b → vk.ownBlock ≠ some b := fun b hb hk => h.n1 b hk hb
  refine ⟨blk_set (cs := [_, _, _, _]) (blk_grow h.rN grow (fun b hb => by have := hge b hb; omega)) 2 _,
    own_put (own_grow h.ok grow n1') (by omega), own_put (by rw [List.length_append, List.map_append]; exact own) (by omega), own_put (own_grow h.oc grow h.n3) (by omega), h3, ?_, fun b hb hk => lies_ne h.ok (by simp) lies n1' b hk hb, h.n2, lies_ne h.oc (by simp) lies h.n3⟩
  have := grow.size
  simp at this ⊢; omega
theorem NB.kid {o : Obj} {w' : World} {g cap : Nat} {x : Int} (h : NB T M w gN k vk vv vc K Vv C)
    (own : w'.ownsRow M 3 1 (.slice (some ⟨g, 0, none⟩) (C.length + 1) cap) (C.length + 1) (C.map vInt ++ [.int .i64 x])) (grow : (w.alloc o).grownBy w' vc.ownBlock) (lies : vc.ownBlock = some g ∨ g = (w.alloc o).heap.size) :
    NB T M (w'.setCell ⟨gN, 3, none⟩ (.slice (some ⟨g, 0, none⟩) (C.length + 1) cap)) gN k vk vv (.slice (some ⟨g, 0, none⟩) (C.length + 1) cap) K Vv (C ++ [x]) := by
  have h3 := h.l3; have h4 := h.l4
  have hge : ∀ b, vc.ownBlock = some b → M ≤ b := fun b hb => own_ge h.oc hb
  have n2' : ∀ b, vc.ownBlock = some b → vk.ownBlock ≠ some b := fun b hb hk => h.n2 b hk hb
  have n3' : ∀ b, vc.ownBlock = some b → vv.ownBlock ≠ some b := fun b hb hk => h.n3 b hk hb
  refine ⟨blk_set (cs := [_, _, _, _]) (blk_grow h.rN grow (fun b hb => by have := hge b hb; omega)) 3 _,
    own_put (own_grow h.ok grow n2') (by omega), own_put (own_grow h.ov grow n3') (by omega), own_put (by rw [List.length_append, List.map_append]; exact own) (by omega), h3, ?_, h.n1, fun b hb hk => lies_ne h.ok (by simp) lies n2' b hk hb, fun b hb hk => lies_ne h.ov (by simp) lies n3' b hk hb⟩
  have := grow.size
  simp at this ⊢; omega
theorem NB.kind {k' : Int} (h : NB T M w gN k vk vv vc K Vv C) : NB T M (w.setCell ⟨gN, 0, none⟩ (.int .i64 k')) gN k' vk vv vc K Vv C :=
  ⟨blk_set (cs := [_, _, _, _]) h.rN 0 _, own_put h.ok h.l3, own_put h.ov h.l3, own_put h.oc h.l3, h.l3, by simpa using h.l4, h.n1, h.n2, h.n3⟩
theorem NB.new (T : TypeId) (M gN : Nat) (w : World) (k : Int) (hr : w.heap[gN]? = some (.cells #[.int .i64 k, .slice none 0 0, .slice none 0 0, .slice none 0 0] T)) (h3 : gN < M) (h4 : M ≤ w.heap.size) : NB T M w gN k (.slice none 0 0) (.slice none 0 0) (.slice none 0 0) [] [] [] :=
  ⟨hr, World.ownsRow_nil _ _ _ _, World.ownsRow_nil _ _ _ _, World.ownsRow_nil _ _ _ _, h3, h4, (fun _ h => by cases h), (fun _ h => by cases h), (fun _ h => by cases h)⟩
end
set_option maxRecDepth 100000 in
set_option maxHeartbeats 4000000 in
theorem same_true (A1 A2 A3 : Option Addr) (c1 c2 c3 : Nat) (E1 E2 E3 : Option Addr) (e1 e2 e3 : Nat) (n : N) (w : World) (h : NAt w A1 A2 A3 n) (h' : NAt w E1 E2 E3 n) (hl : Sm n) :
    Calls Try.prog 39 #[nv A1 A2 A3 c1 c2 c3 n, nv E1 E2 E3 e1 e2 e3 n] w fun e w' => e = .returned (.bool true) ∧ Below w.heap.size w w' := by
  obtain ⟨hlk, hlv, hlc⟩ := hl
  have bA := below1 w (.cells #[.int .i64 n.kind, .slice A1 n.keys.length c1, .slice A2 n.vals.length c2, .slice A3 n.kids.length c3] 57)
  have bB := below1 (w.alloc (.cells #[.int .i64 n.kind, .slice A1 n.keys.length c1, .slice A2 n.vals.length c2, .slice A3 n.kids.length c3] 57)) (.cells #[.int .i64 n.kind, .slice E1 n.keys.length e1, .slice E2 n.vals.length e2, .slice E3 n.kids.length e3] 55)
  have BX := Lib.hid ((bx_new w (.int .i64 n.kind) (.slice A1 n.keys.length c1) (.slice A2 n.vals.length c2) (.slice A3 n.kids.length c3) 57).below bB)
  have BY := Lib.hid (bx_new (w.alloc (.cells #[.int .i64 n.kind, .slice A1 n.keys.length c1, .slice A2 n.vals.length c2, .slice A3 n.kids.length c3] 57)) (.int .i64 n.kind) (.slice E1 n.keys.length e1) (.slice E2 n.vals.length e2) (.slice E3 n.kids.length e3) 55)
  have hsz : (w.alloc (.cells #[.int .i64 n.kind, .slice A1 n.keys.length c1, .slice A2 n.vals.length c2, .slice A3 n.kids.length c3] 57)).heap.size = w.heap.size + 1 := by simp
  rw [hsz] at BY
  have B0 := Lib.hid (bA.trans (bB.mono bA.size))
  have hA := h.below B0.out
  have hE := h'.below B0.out
  unfold nv at *
  clear h h' bA bB hsz
  have HA := Lib.hid hA
  have HE := Lib.hid hE
  clear hA hE
  go_enter Try.func39, Try.ntmps39
  go_upto_region 1 with fail
  generalize hW : (w.alloc (.cells #[.int .i64 n.kind, .slice A1 n.keys.length c1, .slice A2 n.vals.length c2, .slice A3 n.kids.length c3] 57)).alloc (.cells #[.int .i64 n.kind, .slice E1 n.keys.length e1, .slice E2 n.vals.length e2, .slice E3 n.kids.length e3] 55) = W at *
  clear hW
  generalize hk : n.keys.length = lk at *
  generalize hv : n.vals.length = lv at *
  generalize hc : n.kids.length = lc at *
  have LK := Lib.hid hk
  have LV := Lib.hid hv
  have LC := Lib.hid hc
  clear hk hv hc
  obtain ⟨k0, k1, k2, k3⟩ := BX.out.p
  obtain ⟨j0, j1, j2, j3⟩ := BY.out.p
  go_wp2
  clear k0 k1 k2 k3 j0 j1 j2 j3
  go_loopw [43] (fun t43 wr => ∃ i N : Nat, t43 = .int .i64 (i : Int) ∧ i ≤ lk ∧ wr = W.drewN N) (fun t43 _ => lk - (intOf t43).toNat)
  case atStart => exact ⟨0, 0, rfl, Nat.zero_le _, rfl⟩
  case round =>
    obtain ⟨i, m, rfl, hi, hw⟩ := hrel
    have HW := Lib.hid hw
    have k1 : wr.cell? ⟨w.heap.size, 1, none⟩ = some (.slice A1 lk c1) := by rw [hw]; exact BX.out.p.2.1
    have k2 : wr.cell? ⟨w.heap.size, 2, none⟩ = some (.slice A2 lv c2) := by rw [hw]; exact BX.out.p.2.2.1
    have k3 : wr.cell? ⟨w.heap.size, 3, none⟩ = some (.slice A3 lc c3) := by rw [hw]; exact BX.out.p.2.2.2
    have j1 : wr.cell? ⟨w.heap.size + 1, 1, none⟩ = some (.slice E1 lk e1) := by rw [hw]; exact BY.out.p.2.1
    have j2 : wr.cell? ⟨w.heap.size + 1, 2, none⟩ = some (.slice E2 lv e2) := by rw [hw]; exact BY.out.p.2.2.1
    have j3 : wr.cell? ⟨w.heap.size + 1, 3, none⟩ = some (.slice E3 lc e3) := by rw [hw]; exact BY.out.p.2.2.2
    clear hw
    by_cases hlt : i < lk
    · have hI : (i : Int) < (lk : Int) := by omega
      have hl : i < n.keys.length := by have := LK.out; omega
      obtain ⟨b, off, hA, hb, hcc⟩ := HA.out.k (by omega)
      obtain ⟨b', off', hA', hb', hcc'⟩ := HE.out.k (by omega)
      subst hA hA'
      have c0 : wr.cell? ⟨b, off + i, none⟩ = some (.string n.keys[i]) := by rw [HW.out]; exact hcc i hl
      have c0' : wr.cell? ⟨b', off' + i, none⟩ = some (.string n.keys[i]) := by rw [HW.out]; exact hcc' i hl
      go_wp2
      go_quiet (fail)
      go_wp2
      go_roundw
      case rel => exact ⟨i + 1, _, by go_num, by omega, by rw [HW.out]; exact World.drewN_drewN _ _ _⟩
      case measure => simp [intOf]; omega
    · have hI : ¬ (i : Int) < (lk : Int) := by omega
      go_wp2
      generalize wr = wq at *
      clear k1 k2 k3 j1 j2 j3
      have HWq := HW
      clear HW
      generalize m = m1 at *
      clear hI hlt hi
      go_loopw [61] (fun t61 wr => ∃ i N : Nat, t61 = .int .i64 (i : Int) ∧ i ≤ lv ∧ wr = W.drewN N) (fun t61 _ => lv - (intOf t61).toNat)
      case atStart => exact ⟨0, m1, rfl, Nat.zero_le _, HWq.out⟩
      case round =>
        obtain ⟨i, m, rfl, hi, hw⟩ := hrel
        have HW := Lib.hid hw
        have k1 : wr.cell? ⟨w.heap.size, 1, none⟩ = some (.slice A1 lk c1) := by rw [hw]; exact BX.out.p.2.1
        have k2 : wr.cell? ⟨w.heap.size, 2, none⟩ = some (.slice A2 lv c2) := by rw [hw]; exact BX.out.p.2.2.1
        have k3 : wr.cell? ⟨w.heap.size, 3, none⟩ = some (.slice A3 lc c3) := by rw [hw]; exact BX.out.p.2.2.2
        have j1 : wr.cell? ⟨w.heap.size + 1, 1, none⟩ = some (.slice E1 lk e1) := by rw [hw]; exact BY.out.p.2.1
        have j2 : wr.cell? ⟨w.heap.size + 1, 2, none⟩ = some (.slice E2 lv e2) := by rw [hw]; exact BY.out.p.2.2.1
        have j3 : wr.cell? ⟨w.heap.size + 1, 3, none⟩ = some (.slice E3 lc e3) := by rw [hw]; exact BY.out.p.2.2.2
        clear hw
        by_cases hlt : i < lv
        · have hI : (i : Int) < (lv : Int) := by omega
          have hl : i < n.vals.length := by have := LV.out; omega
          obtain ⟨b, off, hA, hb, hcc⟩ := HA.out.v (by omega)
          obtain ⟨b', off', hA', hb', hcc'⟩ := HE.out.v (by omega)
          subst hA hA'
          have c0 : wr.cell? ⟨b, off + i, none⟩ = some (.string n.vals[i]) := by rw [HW.out]; exact hcc i hl
          have c0' : wr.cell? ⟨b', off' + i, none⟩ = some (.string n.vals[i]) := by rw [HW.out]; exact hcc' i hl
          go_wp2
          go_quiet (fail)
          go_wp2
          go_roundw
          case rel => exact ⟨i + 1, _, by go_num, by omega, by rw [HW.out]; exact World.drewN_drewN _ _ _⟩
          case measure => simp [intOf]; omega
        · have hI : ¬ (i : Int) < (lv : Int) := by omega
          go_wp2
          generalize wr = wp at *
          clear k1 k2 k3 j1 j2 j3
          have HWr := HW
          clear HW
          generalize m = m2 at *
          clear hI hlt hi
          go_loopw [79] (fun t79 wr => ∃ i N : Nat, t79 = .int .i64 (i : Int) ∧ i ≤ lc ∧ wr = W.drewN N) (fun t79 _ => lc - (intOf t79).toNat)
          case atStart => exact ⟨0, m2, rfl, Nat.zero_le _, HWr.out⟩
          case round =>
            obtain ⟨i, m, rfl, hi, hw⟩ := hrel
            have HW := Lib.hid hw
            have k1 : wr.cell? ⟨w.heap.size, 1, none⟩ = some (.slice A1 lk c1) := by rw [hw]; exact BX.out.p.2.1
            have k2 : wr.cell? ⟨w.heap.size, 2, none⟩ = some (.slice A2 lv c2) := by rw [hw]; exact BX.out.p.2.2.1
            have k3 : wr.cell? ⟨w.heap.size, 3, none⟩ = some (.slice A3 lc c3) := by rw [hw]; exact BX.out.p.2.2.2
            have j1 : wr.cell? ⟨w.heap.size + 1, 1, none⟩ = some (.slice E1 lk e1) := by rw [hw]; exact BY.out.p.2.1
            have j2 : wr.cell? ⟨w.heap.size + 1, 2, none⟩ = some (.slice E2 lv e2) := by rw [hw]; exact BY.out.p.2.2.1
            have j3 : wr.cell? ⟨w.heap.size + 1, 3, none⟩ = some (.slice E3 lc e3) := by rw [hw]; exact BY.out.p.2.2.2
            clear hw
            by_cases hlt : i < lc
            · have hI : (i : Int) < (lc : Int) := by omega
              have hl : i < n.kids.length := by have := LC.out; omega
              obtain ⟨b, off, hA, hb, hcc⟩ := HA.out.c (by omega)
              obtain ⟨b', off', hA', hb', hcc'⟩ := HE.out.c (by omega)
              subst hA hA'
              have c0 : wr.cell? ⟨b, off + i, none⟩ = some (.int .i64 n.kids[i]) := by rw [HW.out]; exact hcc i hl
              have c0' : wr.cell? ⟨b', off' + i, none⟩ = some (.int .i64 n.kids[i]) := by rw [HW.out]; exact hcc' i hl
              go_wp2
              go_quiet (fail)
              go_wp2
              go_roundw
              case rel => exact ⟨i + 1, _, by go_num, by omega, by rw [HW.out]; exact World.drewN_drewN _ _ _⟩
              case measure => simp [intOf]; omega
            · have hI : ¬ (i : Int) < (lc : Int) := by omega
              go_wp2
              go_ret
              refine ⟨rfl, ?_⟩
              rw [HW.out]
              exact B.below_drewN B0.out _
end Nod
end Go.Proofs.Ytjikioiejdfodaa
