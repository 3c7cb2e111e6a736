/-
  Node: Split.
-/
import Derived.Test.YtjikioiejdfodaaNodePiece
namespace Go.Proofs.Ytjikioiejdfodaa
open Go.RowKit
namespace Nod
open B V
/-- the blocks of a node's rows -/
def nblk (v : Value) (b : Nat) : Prop := ∃ k vk vv vc, v = .agg #[k, vk, vv, vc] ∧ (vk.ownBlock = some b ∨ vv.ownBlock = some b ∨ vc.ownBlock = some b)
def NApart (v v' : Value) : Prop := ∀ b, nblk v b → ¬ nblk v' b
theorem NApart.symm {v v' : Value} (h : NApart v v') : NApart v' v := fun b hb hb' => h b hb' hb
theorem nblk_lt {M : Nat} {w : World} {v : Value} {n : N} (h : NOwn M w v n) {b : Nat} (hb : nblk v b) : M ≤ b ∧ b < w.heap.size := by
  obtain ⟨vk, vv, vc, rfl, h1, h2, h3, _⟩ := h
  obtain ⟨k, a, b', c, e, hb⟩ := hb
  injection e with e
  injection e with e
  injection e with e0 e
  injection e with e1 e
  injection e with e2 e
  injection e with e3 e
  subst e1 e2 e3
  rcases hb with hb | hb | hb
  · exact h1.lt b hb
  · exact h2.lt b hb
  · exact h3.lt b hb
theorem napart {M M' : Nat} {w w' : World} {v v' : Value} {n n' : N} (h : NOwn M w v n) (h' : NOwn M' w' v' n') (hM : w.heap.size ≤ M') : NApart v v' := fun b hb hb' => by
  have := (nblk_lt h hb).2
  have := (nblk_lt h' hb').1
  omega
theorem nown_below {M : Nat} {w w' : World} {v : Value} {n : N} (h : NOwn M w v n) (hb : Below w.heap.size w w') : NOwn M w' v n := by
  obtain ⟨vk, vv, vc, h0, h1, h2, h3, r⟩ := h
  exact ⟨vk, vv, vc, h0, B.own_below h1 hb, B.own_below h2 hb, B.own_below h3 hb, r⟩
theorem nown_put {M g : Nat} {w : World} {v a b c d : Value} {n : N} (h : NOwn M w v n) (hg : g < M) : NOwn M ((((w.setCell ⟨g, 0, none⟩ a).setCell ⟨g, 1, none⟩ b).setCell ⟨g, 2, none⟩ c).setCell ⟨g, 3, none⟩ d) v n := by
  obtain ⟨vk, vv, vc, h0, h1, h2, h3, r⟩ := h
  exact ⟨vk, vv, vc, h0, own_put4 h1 hg, own_put4 h2 hg, own_put4 h3 hg, r⟩
/-- its value, written out -/
theorem nown_out {M : Nat} {w : World} {v : Value} {n : N} (h : NOwn M w v n) : ∃ A1 A2 A3 c1 c2 c3, v = nv A1 A2 A3 c1 c2 c3 n ∧ NAt w A1 A2 A3 n ∧ (n.keys.length ≤ 1000000 → n.vals.length ≤ 1000000 → n.kids.length ≤ 1000000 → Caps A1 A2 A3 c1 c2 c3 n) := by
  obtain ⟨vk, vv, vc, h0, h1, h2, h3, _⟩ := h
  obtain ⟨A1, c1, e1, a1, _, n1⟩ := own_at h1
  obtain ⟨A2, c2, e2, a2, _, n2⟩ := own_at h2
  obtain ⟨A3, c3, e3, a3, _, n3⟩ := own_at h3
  have cap : ∀ {t : Nat} {A : Option Addr} {c m : Nat} {xs : List Value}, w.ownsRow M t 1 (.slice A m c) m xs → m ≤ c ∧ c ≤ 9223372036854775807 := by
    intro t A c m xs h
    rcases h.2 with ⟨e, hm⟩ | ⟨g, cap, cur, e, _, _, h3, h4, _⟩
    · injection e with _ _ e; omega
    · injection e with _ _ e
      subst e
      unfold maxLen at h4
      omega
  subst e1 e2 e3
  refine ⟨A1, A2, A3, c1, c2, c3, h0, ⟨a1, a2, a3⟩, fun _ _ _ => ⟨n1, n2, n3, (cap h1).1, (cap h2).1, (cap h3).1, (cap h1).2, (cap h2).2, (cap h3).2⟩⟩
theorem put4_other {w : World} {g g' : Nat} {o : Obj} {a b c d : Value} (h : w.heap[g]? = some o) (hne : g ≠ g') : ((((w.setCell ⟨g', 0, none⟩ a).setCell ⟨g', 1, none⟩ b).setCell ⟨g', 2, none⟩ c).setCell ⟨g', 3, none⟩ d).heap[g]? = some o :=
  blk_other (blk_other (blk_other (blk_other h hne _) hne _) hne _) hne _
theorem keep4 {w : World} {g g' : Nat} {a b c d x0 x1 x2 x3 : Value} (h : w.cell? ⟨g, 0, none⟩ = some a ∧ w.cell? ⟨g, 1, none⟩ = some b ∧ w.cell? ⟨g, 2, none⟩ = some c ∧ w.cell? ⟨g, 3, none⟩ = some d) (hne : g ≠ g') :
    ((((w.setCell ⟨g', 0, none⟩ x0).setCell ⟨g', 1, none⟩ x1).setCell ⟨g', 2, none⟩ x2).setCell ⟨g', 3, none⟩ x3).cell? ⟨g, 0, none⟩ = some a ∧ ((((w.setCell ⟨g', 0, none⟩ x0).setCell ⟨g', 1, none⟩ x1).setCell ⟨g', 2, none⟩ x2).setCell ⟨g', 3, none⟩ x3).cell? ⟨g, 1, none⟩ = some b ∧ ((((w.setCell ⟨g', 0, none⟩ x0).setCell ⟨g', 1, none⟩ x1).setCell ⟨g', 2, none⟩ x2).setCell ⟨g', 3, none⟩ x3).cell? ⟨g, 2, none⟩ = some c ∧ ((((w.setCell ⟨g', 0, none⟩ x0).setCell ⟨g', 1, none⟩ x1).setCell ⟨g', 2, none⟩ x2).setCell ⟨g', 3, none⟩ x3).cell? ⟨g, 3, none⟩ = some d := by
  have k : ∀ (W : World) (i j : Nat) (x v : Value), W.cell? ⟨g, i, none⟩ = some v → (W.setCell ⟨g', j, none⟩ x).cell? ⟨g, i, none⟩ = some v := fun W i j x v hv => by
    rw [World.cell?_setCell_other _ _ _ _ (by intro e; injection e with e _; exact hne e.symm)]; exact hv
  exact ⟨k _ _ _ _ _ (k _ _ _ _ _ (k _ _ _ _ _ (k _ _ _ _ _ h.1))), k _ _ _ _ _ (k _ _ _ _ _ (k _ _ _ _ _ (k _ _ _ _ _ h.2.1))), k _ _ _ _ _ (k _ _ _ _ _ (k _ _ _ _ _ (k _ _ _ _ _ h.2.2.1))), k _ _ _ _ _ (k _ _ _ _ _ (k _ _ _ _ _ (k _ _ _ _ _ h.2.2.2)))⟩
theorem results_cells2 {fn : Func} {p u : Tmp} {ty : TypeId} (h : fn.results = #[.cell p ty, .cell u ty]) (tmps : Array Value) (w : World) (g g' : Nat) (cs ds : List Value) (fs : Array Field)
    (hp : tmps.getD p undef = .pointer (some ⟨g, 0, none⟩)) (hu' : tmps.getD u undef = .pointer (some ⟨g', 0, none⟩)) (hg : ∀ j v, cs[j]? = some v → w.cell? ⟨g, j, none⟩ = some v) (hg' : ∀ j v, ds[j]? = some v → w.cell? ⟨g', j, none⟩ = some v)
    (hu : Try.prog.underlying ty = some (.struct fs)) (hi : (Try.prog.info? ty).map (·.size) = some cs.length) (hi' : (Try.prog.info? ty).map (·.size) = some ds.length) :
    (results fn tmps).run Try.prog w = .ok (.tuple #[.agg cs.toArray, .agg ds.toArray]) w := by
  have hlv : ∀ (g : Nat) (cs : List Value), (∀ j v, cs[j]? = some v → w.cell? ⟨g, j, none⟩ = some v) → (Try.prog.info? ty).map (·.size) = some cs.length → (loadVar ty ⟨g, 0, none⟩).run Try.prog w = .ok (.agg cs.toArray) w := by
    intro g cs hg hi
    have hl := run_loadCells_list (P := Try.prog) w ⟨g, 0, none⟩ cs (fun j v hv => by rw [add_plain0]; exact hg j v hv)
    cases hq : Try.prog.info? ty with
    | none => simp [hq] at hi
    | some i =>
      have hs : i.size = cs.length := by simpa [hq] using hi
      have hagg : (isAgg ty).run Try.prog w = .ok true w := by
        unfold isAgg
        rw [Sem.run_bind, run_underlying hu w]
        simp
      simp [loadVar, Sem.run_bind, hagg, sizeOf, typeInfo, hq, hs, hl]
  have hp' : tmps[p]?.getD undef = .pointer (some ⟨g, 0, none⟩) := by simpa using hp
  have hq' : tmps[u]?.getD undef = .pointer (some ⟨g', 0, none⟩) := by simpa using hu'
  simp [results, h, hp', hq', asAddr, hlv g cs hg hi, hlv g' ds hg' hi']
set_option maxRecDepth 100000 in
set_option maxHeartbeats 4000000 in
theorem split_any (A1 A2 A3 : Option Addr) (c1 c2 c3 : Nat) (n : N) (w : World) (h : NAt w A1 A2 A3 n) (hl : Sm n) (hf : Fine n) (h3 : n.keys.length ≤ 300) (hc : Caps A1 A2 A3 c1 c2 c3 n) (hm : mid n ≤ n.keys.length) :
    Calls Try.prog 42 #[nv A1 A2 A3 c1 c2 c3 n] w fun e w' => ∃ v1 v2, e = .returned (.tuple #[v1, v2]) ∧ NOwn w.heap.size w' v1 (npart n 0 (mid n)) ∧ NOwn w.heap.size w' v2 (npart n (mid n) n.keys.length) ∧ NApart v1 v2 ∧ Below w.heap.size w w' := by
  have CM := Lib.hid (fun W (q : Below w.heap.size w W) => middle_any A1 A2 A3 c1 c2 c3 n W (h.below q) hl hf h3)
  have CL := Lib.hid (fun W => len_any A1 A2 A3 c1 c2 c3 n W)
  have C1 := Lib.hid (show ∀ W, Below w.heap.size w W → Calls Try.prog 76 #[nv A1 A2 A3 c1 c2 c3 n, .int .i64 0, .int .i64 (mid n : Int)] W (fun e w' => ∃ v, e = .returned v ∧ NOwn W.heap.size w' v (npart n 0 (mid n)) ∧ Below W.heap.size W w') from fun W q => part_any A1 A2 A3 c1 c2 c3 n 0 (mid n) W (h.below q) hl hc (Nat.zero_le _))
  have C2 := Lib.hid (fun W (q : Below w.heap.size w W) => part_any A1 A2 A3 c1 c2 c3 n (mid n) n.keys.length W (h.below q) hl hc hm)
  unfold nv at *
  have bA := below1 w (.cells #[.int .i64 n.kind, .slice A1 n.keys.length c1, .slice A2 n.vals.length c2, .slice A3 n.kids.length c3] 57)
  have bB := below1 (w.alloc (.cells #[.int .i64 n.kind, .slice A1 n.keys.length c1, .slice A2 n.vals.length c2, .slice A3 n.kids.length c3] 57)) (.cells #[.int .i64 0, .slice none 0 0, .slice none 0 0, .slice none 0 0] 57)
  have bC := below1 ((w.alloc (.cells #[.int .i64 n.kind, .slice A1 n.keys.length c1, .slice A2 n.vals.length c2, .slice A3 n.kids.length c3] 57)).alloc (.cells #[.int .i64 0, .slice none 0 0, .slice none 0 0, .slice none 0 0] 57)) (.cells #[.int .i64 0, .slice none 0 0, .slice none 0 0, .slice none 0 0] 57)
  have BX := Lib.hid (((bx_new w (.int .i64 n.kind) (.slice A1 n.keys.length c1) (.slice A2 n.vals.length c2) (.slice A3 n.kids.length c3) 57).below bB).below bC)
  have b0 := (bA.trans (bB.mono bA.size))
  have B0 := Lib.hid (b0.trans (bC.mono b0.size))
  have R2 := Lib.hid (hp_old (.cells #[.int .i64 0, .slice none 0 0, .slice none 0 0, .slice none 0 0] 57) (heap_last (w.alloc (.cells #[.int .i64 n.kind, .slice A1 n.keys.length c1, .slice A2 n.vals.length c2, .slice A3 n.kids.length c3] 57)) (.cells #[.int .i64 0, .slice none 0 0, .slice none 0 0, .slice none 0 0] 57) (w.heap.size + 1) (by simp)))
  have R3 := Lib.hid (heap_last ((w.alloc (.cells #[.int .i64 n.kind, .slice A1 n.keys.length c1, .slice A2 n.vals.length c2, .slice A3 n.kids.length c3] 57)).alloc (.cells #[.int .i64 0, .slice none 0 0, .slice none 0 0, .slice none 0 0] 57)) (.cells #[.int .i64 0, .slice none 0 0, .slice none 0 0, .slice none 0 0] 57) (w.heap.size + 1 + 1) (by simp))
  clear bA bB bC b0 h hl hf hc h3
  go_enter Try.func42, Try.ntmps42
  go_upto_region 1 with fail
  generalize ((w.alloc (.cells #[.int .i64 n.kind, .slice A1 n.keys.length c1, .slice A2 n.vals.length c2, .slice A3 n.kids.length c3] 57)).alloc (.cells #[.int .i64 0, .slice none 0 0, .slice none 0 0, .slice none 0 0] 57)).alloc (.cells #[.int .i64 0, .slice none 0 0, .slice none 0 0, .slice none 0 0] 57) = W at *
  obtain ⟨k0, k1, k2, k3⟩ := BX.out.p
  go_upto_region 2 with (go_at_call 75; ((with_reducible refine (CM.out _ B0.out).mono ?_); rintro e w1 ⟨rfl, hb1⟩; have B1 := Lib.hid (B0.out.trans (hb1.mono B0.out.size)); have X1 := Lib.hid (BX.out.below hb1); have R21 := Lib.hid (blk_below R2.out hb1 (blk_lt R2.out)); have R31 := Lib.hid (blk_below R3.out hb1 (blk_lt R3.out)); clear hb1))
  clear k0 k1 k2 k3 B0 BX R2 R3 CM
  obtain ⟨k0, k1, k2, k3⟩ := X1.out.p
  go_cut [14] (fun _ wc => ∃ vk vv vc uk uv uc, NOwn (w.heap.size + 3) wc (.agg #[.int .i64 n.kind, vk, vv, vc]) (npart n 0 (mid n)) ∧ NOwn (w.heap.size + 3) wc (.agg #[.int .i64 n.kind, uk, uv, uc]) (npart n (mid n) n.keys.length) ∧ NApart (.agg #[.int .i64 n.kind, vk, vv, vc]) (.agg #[.int .i64 n.kind, uk, uv, uc]) ∧ wc.heap[w.heap.size + 1]? = some (.cells #[.int .i64 n.kind, vk, vv, vc] 57) ∧ wc.heap[w.heap.size + 1 + 1]? = some (.cells #[.int .i64 n.kind, uk, uv, uc] 57) ∧ Below w.heap.size w wc)
  case first =>
    go_region_held3 (fun w' => w'.cell? ⟨w.heap.size, 0, none⟩ = some (.int .i64 n.kind) ∧ w'.cell? ⟨w.heap.size, 1, none⟩ = some (.slice A1 n.keys.length c1) ∧ w'.cell? ⟨w.heap.size, 2, none⟩ = some (.slice A2 n.vals.length c2) ∧ w'.cell? ⟨w.heap.size, 3, none⟩ = some (.slice A3 n.kids.length c3))
      (first | with_reducible exact y.p | with_reducible exact keep4 y.p (by omega) | with_reducible exact keep4 (keep4 y.p (by omega)) (by omega) | go_keep)
      (first
        | (go_at_call_of 76 (Value.int IntKind.i64 0); (with_reducible refine (C1.out _ (by first | exact z | exact below_drew' B1.out)).mono ?_); rintro e w' ⟨v1, rfl, ho, hb⟩; have dd := (by first | exact (napart o2 ho (Nat.le_refl _)).symm | exact True.intro); have o2 := (by first | exact nown_below o2 hb | exact True.intro); have o1 := nown_mono ho (show w.heap.size + 3 ≤ _ from by first | exact blk_lt r3 | exact blk_lt R31.out); obtain ⟨a1, a2, a3, b1, b2, b3, hv, _⟩ := nown_out ho; unfold nv at hv; subst hv; have y := (by first | exact y.below hb | exact X1.out.drew hb); have r2 := (by first | exact blk_below r2 hb (blk_lt r2) | exact blk_below R21.out (below_of_drew hb) (blk_lt R21.out)); have r3 := (by first | exact blk_below r3 hb (blk_lt r3) | exact blk_below R31.out (below_of_drew hb) (blk_lt R31.out)); have z := (by first | exact z.trans (hb.mono z.size) | exact B1.out.trans ((below_of_drew hb).mono B1.out.size)); obtain ⟨⟨m0, m1, m2, m3⟩, q0, q1, q2, q3⟩ := row4 r2; obtain ⟨⟨j0, j1, j2, j3⟩, p0, p1, p2, p3⟩ := row4 r3; clear ho hb)
        | (go_at_call 76; (with_reducible refine (C2.out _ z).mono ?_); rintro e w' ⟨v2, rfl, ho, hb⟩; have dd := (by first | exact napart o1 ho (Nat.le_refl _) | exact True.intro); have o1 := (by first | exact nown_below o1 hb | exact True.intro); have o2 := nown_mono ho (show w.heap.size + 3 ≤ _ from blk_lt r3); obtain ⟨e1, e2, e3, f1, f2, f3, hv, _⟩ := nown_out ho; unfold nv at hv; subst hv; have y := y.below hb; have r2 := blk_below r2 hb (blk_lt r2); have r3 := blk_below r3 hb (blk_lt r3); have z := z.trans (hb.mono z.size); obtain ⟨⟨m0, m1, m2, m3⟩, q0, q1, q2, q3⟩ := row4 r2; obtain ⟨⟨j0, j1, j2, j3⟩, p0, p1, p2, p3⟩ := row4 r3; clear ho hb)
        | (go_at_call 38; (with_reducible refine (CL.out _).mono ?_); rintro e w' ⟨rfl, hb⟩; have o1 := (by first | exact nown_below o1 hb | exact True.intro); have y := (by first | exact y.below hb | exact X1.out.drew hb); have r2 := (by first | exact blk_below r2 hb (blk_lt r2) | exact blk_below R21.out (below_of_drew hb) (blk_lt R21.out)); have r3 := (by first | exact blk_below r3 hb (blk_lt r3) | exact blk_below R31.out (below_of_drew hb) (blk_lt R31.out)); have z := (by first | exact z.trans (hb.mono z.size) | exact B1.out.trans ((below_of_drew hb).mono B1.out.size)); clear hb))
    all_goals (go_wp2; go_meet; case rel => exact ⟨_, _, _, _, _, _, nown_put (nown_put o1 (by omega)) (by omega), nown_put (nown_put o2 (by omega)) (by omega), dd, put4_other (set4 r2 _ _ _ _) (by omega), set4 (put4_other r3 (by omega)) _ _ _ _, below_put4 (below_put4 z (by omega)) (by omega)⟩)
  case rest =>
    obtain ⟨vk, vv, vc, uk, uv, uc, hn1, hn2, hd, hr2, hr3, hb⟩ := hcut
    have HN1 := Lib.hid hn1
    have HN2 := Lib.hid hn2
    obtain ⟨⟨m0, m1, m2, m3⟩, _⟩ := row4 hr2
    obtain ⟨⟨j0, j1, j2, j3⟩, _⟩ := row4 hr3
    go_wp2
    (try simp only [Exit.inBlock, Exit.then])
    refine bodyPost_ret (results_cells2 rfl _ _ (w.heap.size + 1) (w.heap.size + 1 + 1) [.int .i64 n.kind, vk, vv, vc] [.int .i64 n.kind, uk, uv, uc] _ rfl rfl ?_ ?_ Try.underlying57 node_info node_info) rfl ?_
    · exact four ⟨m0, m1, m2, m3⟩
    · exact four ⟨j0, j1, j2, j3⟩
    · exact ⟨_, _, rfl, nown_mono HN1.out (show w.heap.size ≤ w.heap.size + 3 by omega), nown_mono HN2.out (show w.heap.size ≤ w.heap.size + 3 by omega), hd, hb⟩
end Nod
end Go.Proofs.Ytjikioiejdfodaa
