/-
  The walk of the statement NodeChecks.
-/
import Derived.Test.YtjikioiejdfodaaNodeAw
import Derived.Test.YtjikioiejdfodaaNodeRight
import Derived.Test.YtjikioiejdfodaaNodeRCk
import Derived.Test.YtjikioiejdfodaaGrow2
namespace Go.Proofs.Ytjikioiejdfodaa
open Go.RowKit
namespace Gr
theorem call {P : Program} {o : Oper} {a : Act} {w : World} {K : Act → World → Prop} {Q : Exit → Act → World → Prop} {f : FuncId} {args : Array Value} (he : (execOp a.eval o).run P w = .ok (.enter f args) w) (h : Calls P f args w fun e w' => ∃ v, e = .returned v ∧ K (a.put o.dst v) w') : o.wp P a w K Q := by
  unfold Oper.wp
  rw [he, Oper.upon_enter]
  exact h.mono fun e w' ⟨v, hv, hk⟩ => by subst hv; exact hk
end Gr
namespace Nod
open B V
theorem few_sm (n : N) : Sm (fewN n) := by have := fewN_len n; exact ⟨by omega, by omega, by omega⟩
theorem eOwn : ∀ args w, (callFunc 29 args).run Try.prog w = .ok (.enter 29 args) w := fun args w => enters_of Try.func29 (by kernel_rfl) rfl args w
theorem eCheck : ∀ args w, (callFunc 30 args).run Try.prog w = .ok (.enter 30 args) w := fun args w => enters_of Try.func30 (by kernel_rfl) rfl args w
theorem eRCheck : ∀ args w, (callFunc 31 args).run Try.prog w = .ok (.enter 31 args) w := fun args w => enters_of Try.func31 (by kernel_rfl) rfl args w
set_option linter.unusedVariables false
def NVal (n : N) (v : Value) (W : World) : Prop := ∃ E1 E2 E3 e1 e2 e3, v = nv E1 E2 E3 e1 e2 e3 n ∧ NAt W E1 E2 E3 n
theorem NVal.below {n : N} {v : Value} {W W' : World} (h : NVal n v W) (hb : Below W.heap.size W W') : NVal n v W' := by
  obtain ⟨E1, E2, E3, e1, e2, e3, h1, h2⟩ := h
  exact ⟨E1, E2, E3, e1, e2, e3, h1, h2.below hb⟩
def chkφ (u : Value) (n : N) : Nat → Value → World → Prop
  | 0, v, _ | 4, v, _ | 8, v, _ | 12, v, _ => v = u
  | 1, v, W | 9, v, W => NVal n v W
  | 2, v, _ | 10, v, _ => v = .int .i64 (if check n then 0 else 1)
  | 3, v, _ => v = .bool (check n)
  | 5, v, _ | 13, v, _ => v = .bool (check n)
  | 11, v, _ => v = .bool (!check n)
  | 6, v, _ | 7, v, _ | 14, v, _ | 15, v, _ => v = .bool true
  | _, _, _ => True
theorem chkφ_grow {u : Value} {n : N} : ∀ i v W W', chkφ u n i v W → Below W.heap.size W W' → chkφ u n i v W'
  | 0, v, W, W', h, hb | 2, v, W, W', h, hb | 3, v, W, W', h, hb | 4, v, W, W', h, hb | 5, v, W, W', h, hb | 6, v, W, W', h, hb | 7, v, W, W', h, hb | 8, v, W, W', h, hb | 10, v, W, W', h, hb | 11, v, W, W', h, hb | 12, v, W, W', h, hb | 13, v, W, W', h, hb | 14, v, W, W', h, hb | 15, v, W, W', h, hb => h
  | 1, v, W, W', h, hb | 9, v, W, W', h, hb => NVal.below h hb
  | _ + 16, _, _, _, _, _ => trivial
set_option maxRecDepth 100000 in
set_option maxHeartbeats 8000000 in
theorem nodeChecks_walk (A1 A2 A3 : Option Addr) (c1 c2 c3 : Nat) (n : N) (w : World) (h : NAt w A1 A2 A3 n) (hk : n.keys.length ≤ maxLen) (hv : n.vals.length ≤ maxLen) (hc : n.kids.length ≤ maxLen) :
    Calls Try.prog 4 #[nv A1 A2 A3 c1 c2 c3 n] w fun e w' => e = .returned (.bool true) ∧ Below w.heap.size w w' := by
  have CA := Lib.hid awake_any
  have CF := Lib.hid (fun W (q : Below w.heap.size w W) => few_any A1 A2 A3 c1 c2 c3 n W (h.below q) hk hv hc)
  unfold nv at *
  have B0 := Lib.hid (below1 w (.cells #[.int .i64 n.kind, .slice A1 n.keys.length c1, .slice A2 n.vals.length c2, .slice A3 n.kids.length c3] 55))
  have H0 := Lib.hid (heap_last w (.cells #[.int .i64 n.kind, .slice A1 n.keys.length c1, .slice A2 n.vals.length c2, .slice A3 n.kids.length c3] 55) _ rfl)
  clear h hk hv hc
  go_enter Try.func4, Try.ntmps4
  go_upto_region 1 with fail
  generalize w.alloc (.cells #[.int .i64 n.kind, .slice A1 n.keys.length c1, .slice A2 n.vals.length c2, .slice A3 n.kids.length c3] 55) = W at *
  go_upto_region 3 with (go_at_call 27; ((with_reducible refine (CA.out _).mono ?_); rintro e w1 ⟨rfl, hb1⟩; have B1 := Lib.hid (B0.out.trans (hb1.mono B0.out.size)); have H1 := Lib.hid (blk_thru hb1 H0.out); clear hb1 B0 H0))
  obtain ⟨⟨x0, x1, x2, x3⟩, y0, y1, y2, y3⟩ := row4 H1.out
  go_upto_region 4 with (go_at_call 28; ((with_reducible refine (CF.out _ B1.out).mono ?_); rintro e w2 ⟨vf, rfl, ho2, hb2⟩; have B2 := Lib.hid (B1.out.trans (hb2.mono B1.out.size)); have H2 := Lib.hid (blk_thru hb2 H1.out); obtain ⟨F1, F2, F3, f1, f2, f3, hvf, hat, hcp⟩ := nown_out ho2; unfold nv at hvf; subst hvf; have O2 := Lib.hid ho2; have hS := few_sm n; have LG := Lib.hid (blk_lt H1.out); have AT := Lib.hid hat; have CP := Lib.hid (hcp hS.k hS.v hS.c); clear ho2 hb2 H1 B1 x0 x1 x2 x3 y0 y1 y2 y3 hat hcp; obtain ⟨⟨x0, x1, x2, x3⟩, y0, y1, y2, y3⟩ := row4 H2.out))
  have O3 := Lib.hid (nown_put (a := .int .i64 (fewN n).kind) (b := .slice F1 (fewN n).keys.length f1) (c := .slice F2 (fewN n).vals.length f2) (d := .slice F3 (fewN n).kids.length f3) O2.out LG.out)
  have B3 : Hid (Below w.heap.size w ((((w2.setCell ⟨w.heap.size, 0, none⟩ (.int .i64 (fewN n).kind)).setCell ⟨w.heap.size, 1, none⟩ (.slice F1 (fewN n).keys.length f1)).setCell ⟨w.heap.size, 2, none⟩ (.slice F2 (fewN n).vals.length f2)).setCell ⟨w.heap.size, 3, none⟩ (.slice F3 (fewN n).kids.length f3))) := below_put4 B2.out (Nat.le_refl _)
  have H3 := Lib.hid (set4 H2.out (.int .i64 (fewN n).kind) (.slice F1 (fewN n).keys.length f1) (.slice F2 (fewN n).vals.length f2) (.slice F3 (fewN n).kids.length f3))
  have AT3 := Lib.hid (nown_nat O3.out)
  clear x0 x1 x2 x3 y0 y1 y2 y3 B2 H2 O2 O3 AT
  generalize (((w2.setCell ⟨w.heap.size, 0, none⟩ (.int .i64 (fewN n).kind)).setCell ⟨w.heap.size, 1, none⟩ (.slice F1 (fewN n).keys.length f1)).setCell ⟨w.heap.size, 2, none⟩ (.slice F2 (fewN n).vals.length f2)).setCell ⟨w.heap.size, 3, none⟩ (.slice F3 (fewN n).kids.length f3) = W3 at *
  generalize fewN n = m at *
  have hload : ∀ W1, Below W3.heap.size W3 W1 → W1.cell? ⟨w.heap.size, 0, none⟩ = some (.int .i64 m.kind) ∧ W1.cell? ⟨w.heap.size, 1, none⟩ = some (.slice F1 m.keys.length f1) ∧ W1.cell? ⟨w.heap.size, 2, none⟩ = some (.slice F2 m.vals.length f2) ∧ W1.cell? ⟨w.heap.size, 3, none⟩ = some (.slice F3 m.kids.length f3) := fun W1 hb => (row4 (blk_thru hb H3.out)).1
  refine Gr.regionG 16 (fun i => i + 7) (by kernel_rfl) (by kernel_rfl) (chkφ (nv F1 F2 F3 f1 f2 f3 m) m) chkφ_grow ?_ ?_ ?_
  · intro i o a W1 hi ho hb hfr hpre
    have t1 : a.tmps[1]?.getD undef = .pointer (some ⟨w.heap.size, 0, none⟩) := Gr.slot (hfr.f 1 (by omega))
    obtain ⟨k0, k1, k2, k3⟩ := hload W1 hb
    have hat := AT3.out.below hb
    match i, hi with
    | 0, _ =>
      obtain rfl := Option.some.inj ho
      refine Gr.val (v := nv F1 F2 F3 f1 f2 f3 m) (w' := W1) (by simp [go_sem, t1, k0, k1, k2, k3]) ⟨_, rfl, rfl, Below.refl _ _⟩
    | 1, _ =>
      have p0 : a.tmps[7]?.getD undef = nv F1 F2 F3 f1 f2 f3 m := Gr.slot (hpre { on := 0, ground := .data } (by obtain rfl := Option.some.inj ho; simp) rfl (by decide))
      obtain rfl := Option.some.inj ho
      refine Gr.call (f := 29) (args := #[nv F1 F2 F3 f1 f2 f3 m]) (by simp [go_sem, p0]) ((own_any F1 F2 F3 f1 f2 f3 m W1 hat hS CP.out).mono ?_)
      rintro e w' ⟨E1, E2, E3, e1, e2, e3, rfl, h1, _, h2⟩
      exact ⟨_, rfl, _, rfl, ⟨E1, E2, E3, e1, e2, e3, rfl, h1⟩, h2⟩
    | 2, _ =>
      have q0 : NVal m (a.eval (.tmp 8)) W1 := hpre { on := 1, ground := .data } (by obtain rfl := Option.some.inj ho; simp) rfl (by decide)
      obtain ⟨E1, E2, E3, e1, e2, e3, q1, q2⟩ := q0
      have p0 := Gr.slot q1
      obtain rfl := Option.some.inj ho
      refine Gr.call (f := 30) (args := #[nv E1 E2 E3 e1 e2 e3 m]) (by simp [go_sem, p0]) ((check_any E1 E2 E3 e1 e2 e3 m W1 q2 hS).mono ?_)
      rintro e w' ⟨rfl, h2⟩
      exact ⟨_, rfl, _, rfl, rfl, h2⟩
    | 3, _ =>
      have p0 : a.tmps[9]?.getD undef = .int .i64 (if check m then 0 else 1) := Gr.slot (hpre { on := 2, ground := .data } (by obtain rfl := Option.some.inj ho; simp) rfl (by decide))
      obtain rfl := Option.some.inj ho
      refine Gr.val (v := .bool (check m)) (w' := W1) (by cases hcm : check m <;> simp [hcm] at p0 <;> simp [go_sem, p0]) ⟨_, rfl, rfl, Below.refl _ _⟩
    | 4, _ =>
      obtain rfl := Option.some.inj ho
      refine Gr.val (v := nv F1 F2 F3 f1 f2 f3 m) (w' := W1) (by simp [go_sem, t1, k0, k1, k2, k3]) ⟨_, rfl, rfl, Below.refl _ _⟩
    | 5, _ =>
      have p0 : a.tmps[11]?.getD undef = nv F1 F2 F3 f1 f2 f3 m := Gr.slot (hpre { on := 4, ground := .data } (by obtain rfl := Option.some.inj ho; simp) rfl (by decide))
      obtain rfl := Option.some.inj ho
      refine Gr.call (f := 31) (args := #[nv F1 F2 F3 f1 f2 f3 m]) (by simp [go_sem, p0]) ((refCheck_any F1 F2 F3 f1 f2 f3 m W1 hat hS).mono ?_)
      rintro e w' ⟨rfl, h2⟩
      exact ⟨_, rfl, _, rfl, rfl, h2⟩
    | 6, _ =>
      have p0 : a.tmps[10]?.getD undef = .bool (check m) := Gr.slot (hpre { on := 3, ground := .data } (by obtain rfl := Option.some.inj ho; simp) rfl (by decide))
      have p1 : a.tmps[12]?.getD undef = .bool (check m) := Gr.slot (hpre { on := 5, ground := .data } (by obtain rfl := Option.some.inj ho; simp) rfl (by decide))
      obtain rfl := Option.some.inj ho
      refine Gr.val (v := .bool true) (w' := W1) (by cases hcm : check m <;> simp [go_sem, p0, p1, hcm]) ⟨_, rfl, rfl, Below.refl _ _⟩
    | 7, _ =>
      have p0 : a.tmps[13]?.getD undef = .bool true := Gr.slot (hpre { on := 6, ground := .data } (by obtain rfl := Option.some.inj ho; simp) rfl (by decide))
      obtain rfl := Option.some.inj ho
      refine Gr.val (v := .bool true) (w' := W1) (by simp [go_sem, p0]) ⟨_, rfl, rfl, Below.refl _ _⟩
    | 8, _ =>
      obtain rfl := Option.some.inj ho
      refine Gr.val (v := nv F1 F2 F3 f1 f2 f3 m) (w' := W1) (by simp [go_sem, t1, k0, k1, k2, k3]) ⟨_, rfl, rfl, Below.refl _ _⟩
    | 9, _ =>
      have p0 : a.tmps[15]?.getD undef = nv F1 F2 F3 f1 f2 f3 m := Gr.slot (hpre { on := 8, ground := .data } (by obtain rfl := Option.some.inj ho; simp) rfl (by decide))
      obtain rfl := Option.some.inj ho
      refine Gr.call (f := 29) (args := #[nv F1 F2 F3 f1 f2 f3 m]) (by simp [go_sem, p0]) ((own_any F1 F2 F3 f1 f2 f3 m W1 hat hS CP.out).mono ?_)
      rintro e w' ⟨E1, E2, E3, e1, e2, e3, rfl, h1, _, h2⟩
      exact ⟨_, rfl, _, rfl, ⟨E1, E2, E3, e1, e2, e3, rfl, h1⟩, h2⟩
    | 10, _ =>
      have q0 : NVal m (a.eval (.tmp 16)) W1 := hpre { on := 9, ground := .data } (by obtain rfl := Option.some.inj ho; simp) rfl (by decide)
      obtain ⟨E1, E2, E3, e1, e2, e3, q1, q2⟩ := q0
      have p0 := Gr.slot q1
      obtain rfl := Option.some.inj ho
      refine Gr.call (f := 30) (args := #[nv E1 E2 E3 e1 e2 e3 m]) (by simp [go_sem, p0]) ((check_any E1 E2 E3 e1 e2 e3 m W1 q2 hS).mono ?_)
      rintro e w' ⟨rfl, h2⟩
      exact ⟨_, rfl, _, rfl, rfl, h2⟩
    | 11, _ =>
      have p0 : a.tmps[17]?.getD undef = .int .i64 (if check m then 0 else 1) := Gr.slot (hpre { on := 10, ground := .data } (by obtain rfl := Option.some.inj ho; simp) rfl (by decide))
      obtain rfl := Option.some.inj ho
      refine Gr.val (v := .bool (!check m)) (w' := W1) (by cases hcm : check m <;> simp [hcm] at p0 <;> simp [go_sem, p0]) ⟨_, rfl, rfl, Below.refl _ _⟩
    | 12, _ =>
      obtain rfl := Option.some.inj ho
      refine Gr.val (v := nv F1 F2 F3 f1 f2 f3 m) (w' := W1) (by simp [go_sem, t1, k0, k1, k2, k3]) ⟨_, rfl, rfl, Below.refl _ _⟩
    | 13, _ =>
      have p0 : a.tmps[19]?.getD undef = nv F1 F2 F3 f1 f2 f3 m := Gr.slot (hpre { on := 12, ground := .data } (by obtain rfl := Option.some.inj ho; simp) rfl (by decide))
      obtain rfl := Option.some.inj ho
      refine Gr.call (f := 31) (args := #[nv F1 F2 F3 f1 f2 f3 m]) (by simp [go_sem, p0]) ((refCheck_any F1 F2 F3 f1 f2 f3 m W1 hat hS).mono ?_)
      rintro e w' ⟨rfl, h2⟩
      exact ⟨_, rfl, _, rfl, rfl, h2⟩
    | 14, _ =>
      have p0 : a.tmps[18]?.getD undef = .bool (!check m) := Gr.slot (hpre { on := 11, ground := .data } (by obtain rfl := Option.some.inj ho; simp) rfl (by decide))
      have p1 : a.tmps[20]?.getD undef = .bool (check m) := Gr.slot (hpre { on := 13, ground := .data } (by obtain rfl := Option.some.inj ho; simp) rfl (by decide))
      obtain rfl := Option.some.inj ho
      refine Gr.val (v := .bool true) (w' := W1) (by cases hcm : check m <;> simp [go_sem, p0, p1, hcm]) ⟨_, rfl, rfl, Below.refl _ _⟩
    | 15, _ =>
      have p0 : a.tmps[14]?.getD undef = .bool true := Gr.slot (hpre { on := 7, ground := .data } (by obtain rfl := Option.some.inj ho; simp) rfl (by decide))
      have p1 : a.tmps[21]?.getD undef = .bool true := Gr.slot (hpre { on := 14, ground := .data } (by obtain rfl := Option.some.inj ho; simp) rfl (by decide))
      obtain rfl := Option.some.inj ho
      refine Gr.val (v := .bool true) (w' := W1) (by simp [go_sem, p0, p1]) ⟨_, rfl, rfl, Below.refl _ _⟩
    | i + 16, h => omega
  · intro i o j b hi ho hg v W1 hv
    have : j = 7 ∧ b = true := by
      match i, hi with
      | 0, _ | 1, _ | 2, _ | 3, _ | 4, _ | 5, _ | 6, _ | 7, _ | 15, _ => obtain rfl := Option.some.inj ho; cases hg
      | 8, _ | 9, _ | 10, _ | 11, _ | 12, _ | 13, _ | 14, _ => obtain rfl := Option.some.inj ho; injection hg with hg; injection hg with h1 h2; exact ⟨h1.symm, h2.symm⟩
      | i + 16, h => omega
    obtain ⟨rfl, rfl⟩ := this
    exact hv
  · intro o a W1 ho hb hfr hall
    have s22 : a.tmps[22]?.getD undef = .bool true := Gr.slot (hall 15 (by omega))
    obtain rfl := Option.some.inj ho
    refine Gr.val (v := .bool true) (w' := W1) (by simp [go_sem, s22]) ?_
    rename_i hK
    refine hK _ _ ?_
    have hsz : a.tmps.size = 23 := hfr.s
    refine wp_ret ?_
    refine bodyPost_ret (results_tmp rfl _ _ _) hfr.d ⟨?_, B3.out.trans (hb.mono B3.out.size)⟩
    simp [Act.put, hsz]
end Nod
end Go.Proofs.Ytjikioiejdfodaa
