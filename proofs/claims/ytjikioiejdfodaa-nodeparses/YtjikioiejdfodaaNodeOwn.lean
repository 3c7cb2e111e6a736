/-
  The statement's own copy of a node.
-/
import Derived.Test.YtjikioiejdfodaaNodeCat
import Derived.Test.YtjikioiejdfodaaApp
import Derived.Test.YtjikioiejdfodaaGrow
namespace Go.Proofs.Ytjikioiejdfodaa
open Go.RowKit
namespace Nod
open B V
set_option linter.unusedVariables false
theorem own_dr {W : World} {M t size n : Nat} {v : Value} {xs : List Value} (h : W.ownsRow M t size v n xs) : W.drew.ownsRow M t size v n xs := h
theorem own_put0 {w : World} {M t size n g j : Nat} {v u : Value} {xs : List Value} (h : w.ownsRow M t size v n xs) (hne : v.ownBlock ≠ some g) : (w.setCell ⟨g, j, none⟩ u).ownsRow M t size v n xs :=
  h.kept (B.grown_set w g j u) (by cases hq : v.ownBlock with
    | none => simp
    | some b => rw [hq] at hne; exact .inr hne)
theorem own_cap {w : World} {M t n c : Nat} {A : Option Addr} {xs : List Value} (h : w.ownsRow M t 1 (.slice A n c) n xs) : (A = none → c = 0) ∧ n ≤ c ∧ c ≤ 9223372036854775807 := by
  rcases h.2 with ⟨e, hm⟩ | ⟨g, cap, cur, e, _, _, h3, h4, _⟩
  · injection e with e1 _ e3; subst e1; exact ⟨fun _ => e3, by omega, by omega⟩
  · injection e with e1 _ e3
    subst e1 e3
    unfold maxLen at h4
    exact ⟨(fun h => by cases h), by omega, by omega⟩
/-- a row's block bears the elements' type: it is no struct's -/
theorem own_type {w : World} {M t t' size n g : Nat} {v : Value} {xs : List Value} {cs : Array Value} {fr : Nat × Nat} (h : w.ownsRow M t size v n xs) (hg : w.heap[g]? = some (.cells cs t' fr)) (hne : t ≠ t') : v.ownBlock ≠ some g := by
  intro hb
  rcases h.2 with ⟨rfl, _⟩ | ⟨g', cap, cur, rfl, _, hg', _⟩
  · cases hb
  · injection hb with hb
    simp only at hb
    subst hb
    rw [hg] at hg'
    injection hg' with e
    injection e with _ e _
    exact hne e.symm
theorem own_put4' {w : World} {M t t' size n g : Nat} {v a b c d x0 x1 x2 x3 : Value} {xs : List Value} (h : w.ownsRow M t size v n xs) (hg : w.heap[g]? = some (.cells #[x0, x1, x2, x3] t')) (hne : t ≠ t') : ((((w.setCell ⟨g, 0, none⟩ a).setCell ⟨g, 1, none⟩ b).setCell ⟨g, 2, none⟩ c).setCell ⟨g, 3, none⟩ d).ownsRow M t size v n xs := by
  have hb := own_type h hg hne
  exact own_put0 (own_put0 (own_put0 (own_put0 h hb) hb) hb) hb
/-- a slice of nothing that was made just now; a row that reads as a list -/
def Lit (e : TypeId) (v : Value) (W : World) : Prop := ∃ g, v = .slice (some ⟨g, 0, none⟩) 0 0 ∧ W.ownsRow 0 e 1 v 0 []
def Row {α : Type} (V : α → Value) (e : TypeId) (l : List α) (v : Value) (W : World) : Prop := ∃ A c, v = .slice A l.length c ∧ W.ownsRow 0 e 1 v l.length (l.map V)
theorem Lit.grow {e : TypeId} {v : Value} {W W' : World} (h : Lit e v W) (hb : Below W.heap.size W W') : Lit e v W' := by obtain ⟨g, h1, h2⟩ := h; exact ⟨g, h1, own_thru hb h2⟩
theorem Row.grow {α : Type} {V : α → Value} {e : TypeId} {l : List α} {v : Value} {W W' : World} (h : Row V e l v W) (hb : Below W.heap.size W W') : Row V e l v W' := by obtain ⟨A, c, h1, h2⟩ := h; exact ⟨A, c, h1, own_thru hb h2⟩
def ownφ (g : Nat) (A1 A2 A3 : Option Addr) (c1 c2 c3 : Nat) (n : N) : Nat → Value → World → Prop
  | 0, v, _ => v = .pointer (some ⟨g, 0, none⟩)
  | 1, v, _ => v = .int .i64 n.kind
  | 2, v, W => Lit 9 v W
  | 3, v, _ => v = .pointer (some ⟨g, 1, none⟩)
  | 4, v, _ => v = .slice A1 n.keys.length c1
  | 5, v, W => Row vStr 9 n.keys v W
  | 6, v, W => Lit 9 v W
  | 7, v, _ => v = .pointer (some ⟨g, 2, none⟩)
  | 8, v, _ => v = .slice A2 n.vals.length c2
  | 9, v, W => Row vStr 9 n.vals v W
  | 10, v, W => Lit 3 v W
  | 11, v, _ => v = .pointer (some ⟨g, 3, none⟩)
  | 12, v, _ => v = .slice A3 n.kids.length c3
  | 13, v, W => Row vInt 3 n.kids v W
  | 14, v, W => ∃ x y z, v = .agg #[.int .i64 n.kind, x, y, z] ∧ Row vStr 9 n.keys x W ∧ Row vStr 9 n.vals y W ∧ Row vInt 3 n.kids z W
  | _, _, _ => True
theorem ownφ_grow {g : Nat} {A1 A2 A3 : Option Addr} {c1 c2 c3 : Nat} {n : N} : ∀ i v W W', ownφ g A1 A2 A3 c1 c2 c3 n i v W → Below W.heap.size W W' → ownφ g A1 A2 A3 c1 c2 c3 n i v W'
  | 0, v, W, W', h, hb | 1, v, W, W', h, hb | 3, v, W, W', h, hb | 4, v, W, W', h, hb | 7, v, W, W', h, hb | 8, v, W, W', h, hb | 11, v, W, W', h, hb | 12, v, W, W', h, hb => h
  | 2, v, W, W', h, hb | 6, v, W, W', h, hb | 10, v, W, W', h, hb => Lit.grow h hb
  | 5, v, W, W', h, hb | 9, v, W, W', h, hb | 13, v, W, W', h, hb => Row.grow h hb
  | 14, v, W, W', ⟨x, y, z, h0, h1, h2, h3⟩, hb => ⟨x, y, z, h0, h1.grow hb, h2.grow hb, h3.grow hb⟩
  | _ + 15, _, _, _, _, _ => trivial
set_option maxRecDepth 100000 in
set_option maxHeartbeats 8000000 in
theorem own_any (A1 A2 A3 : Option Addr) (c1 c2 c3 : Nat) (n : N) (w : World) (h : NAt w A1 A2 A3 n) (hl : Sm n) (hc : Caps A1 A2 A3 c1 c2 c3 n) :
    Calls Try.prog 29 #[nv A1 A2 A3 c1 c2 c3 n] w fun e w' => ∃ E1 E2 E3 e1 e2 e3, e = .returned (nv E1 E2 E3 e1 e2 e3 n) ∧ NAt w' E1 E2 E3 n ∧ Caps E1 E2 E3 e1 e2 e3 n ∧ Below w.heap.size w w' := by
  obtain ⟨i16, hi16, hz16, hs16, hb16⟩ := info_parts info9
  obtain ⟨i8, hi8, hz8, hs8, hb8⟩ := info_parts info3
  have HK := Lib.hid h.k
  have HV := Lib.hid h.v
  have HC := Lib.hid h.c
  have lK : n.keys.length ≤ 10000000 := by have := hl.k; omega
  have lV : n.vals.length ≤ 10000000 := by have := hl.v; omega
  have lC : n.kids.length ≤ 10000000 := by have := hl.c; omega
  unfold nv at *
  have bA := below1 w (.cells #[.int .i64 n.kind, .slice A1 n.keys.length c1, .slice A2 n.vals.length c2, .slice A3 n.kids.length c3] 55)
  have bB := below1 (w.alloc (.cells #[.int .i64 n.kind, .slice A1 n.keys.length c1, .slice A2 n.vals.length c2, .slice A3 n.kids.length c3] 55)) (.cells #[.int .i64 0, .slice none 0 0, .slice none 0 0, .slice none 0 0] 57)
  have BX := Lib.hid ((bx_new w (.int .i64 n.kind) (.slice A1 n.keys.length c1) (.slice A2 n.vals.length c2) (.slice A3 n.kids.length c3) 55).below bB)
  have B0 := Lib.hid (bA.trans (bB.mono bA.size))
  have R6 := Lib.hid (heap_last (w.alloc (.cells #[.int .i64 n.kind, .slice A1 n.keys.length c1, .slice A2 n.vals.length c2, .slice A3 n.kids.length c3] 55)) (.cells #[.int .i64 0, .slice none 0 0, .slice none 0 0, .slice none 0 0] 57) (w.heap.size + 1) (by simp))
  clear bA bB h hl
  go_enter Try.func29, Try.ntmps29
  go_upto_region 1 with fail
  generalize (w.alloc (.cells #[.int .i64 n.kind, .slice A1 n.keys.length c1, .slice A2 n.vals.length c2, .slice A3 n.kids.length c3] 55)).alloc (.cells #[.int .i64 0, .slice none 0 0, .slice none 0 0, .slice none 0 0] 57) = W at *
  refine Gr.region 15 (fun i => i + 3) (by kernel_rfl) (by kernel_rfl) (ownφ w.heap.size A1 A2 A3 c1 c2 c3 n) ownφ_grow ?_ ?_
  · intro i o a W1 hi ho hb hfr hpre
    have t1 : a.tmps[1]?.getD undef = .pointer (some ⟨w.heap.size, 0, none⟩) := Gr.slot (hfr.f 1 (by omega))
    have BX1 := BX.out.below hb
    obtain ⟨k0, k1, k2, k3⟩ := BX1.p
    match i, hi with
    | 0, _ =>
      obtain rfl := Option.some.inj ho
      refine Gr.val (v := .pointer (some ⟨w.heap.size, 0, none⟩)) (by simp [go_sem, t1]) ⟨_, rfl, rfl, Below.refl _ _⟩
    | 1, _ =>
      have p0 : a.tmps[3]?.getD undef = .pointer (some ⟨w.heap.size, 0, none⟩) := Gr.slot (hpre { on := 0, ground := .data } (by obtain rfl := Option.some.inj ho; simp) rfl (by decide))
      obtain rfl := Option.some.inj ho
      refine Gr.val (v := .int .i64 n.kind) (by simp [go_sem, p0, k0]) ⟨_, rfl, rfl, Below.refl _ _⟩
    | 2, _ =>
      obtain rfl := Option.some.inj ho
      refine Gr.val (v := .slice (some ⟨W1.heap.size, 0, none⟩) 0 0) (w' := W1.alloc (.cells #[] 9)) (by simp [go_sem]) ⟨_, rfl, ⟨_, rfl, own_lit0 _ _ _ _ rfl (Nat.zero_le _)⟩, below1 _ _⟩
    | 3, _ =>
      obtain rfl := Option.some.inj ho
      refine Gr.val (v := .pointer (some ⟨w.heap.size, 1, none⟩)) (by simp [go_sem, t1]) ⟨_, rfl, rfl, Below.refl _ _⟩
    | 4, _ =>
      have p0 : a.tmps[6]?.getD undef = .pointer (some ⟨w.heap.size, 1, none⟩) := Gr.slot (hpre { on := 3, ground := .data } (by obtain rfl := Option.some.inj ho; simp) rfl (by decide))
      obtain rfl := Option.some.inj ho
      refine Gr.val (v := .slice A1 n.keys.length c1) (by simp [go_sem, p0, k1]) ⟨_, rfl, rfl, Below.refl _ _⟩
    | 5, _ =>
      have p0 : Lit 9 (a.eval (.tmp 5)) W1 := (hpre { on := 2, ground := .data } (by obtain rfl := Option.some.inj ho; simp) rfl (by decide))
      have p1 : a.eval (.tmp 7) = .slice A1 n.keys.length c1 := (hpre { on := 4, ground := .data } (by obtain rfl := Option.some.inj ho; simp) rfl (by decide))
      obtain ⟨g, hv, hown⟩ := p0
      rw [hv] at hown
      obtain rfl := Option.some.inj ho
      refine Gr.of_step (ops := #[]) (E := False) rfl (step_lit_at (V := vStr) rfl (.tmp 5) (.tmp 7) 53 9 rfl 0 i16 _ 16 Try.underlying53 hi16 hz16 hs16 hb16 rfl (by decide) g n.keys (fun _ => rfl) hv hown A1 c1 p1 (HK.out.below (B0.out.trans (hb.mono B0.out.size))) hc.n1 lK (Nat.zero_le _) ?_)
      intro v' w' h1 h2
      obtain ⟨E1, e1, hE, _⟩ := own_at (V := vStr) h1
      exact ⟨v', rfl, ⟨E1, e1, hE, h1⟩, h2⟩
    | 6, _ =>
      obtain rfl := Option.some.inj ho
      refine Gr.val (v := .slice (some ⟨W1.heap.size, 0, none⟩) 0 0) (w' := W1.alloc (.cells #[] 9)) (by simp [go_sem]) ⟨_, rfl, ⟨_, rfl, own_lit0 _ _ _ _ rfl (Nat.zero_le _)⟩, below1 _ _⟩
    | 7, _ =>
      obtain rfl := Option.some.inj ho
      refine Gr.val (v := .pointer (some ⟨w.heap.size, 2, none⟩)) (by simp [go_sem, t1]) ⟨_, rfl, rfl, Below.refl _ _⟩
    | 8, _ =>
      have p0 : a.tmps[10]?.getD undef = .pointer (some ⟨w.heap.size, 2, none⟩) := Gr.slot (hpre { on := 7, ground := .data } (by obtain rfl := Option.some.inj ho; simp) rfl (by decide))
      obtain rfl := Option.some.inj ho
      refine Gr.val (v := .slice A2 n.vals.length c2) (by simp [go_sem, p0, k2]) ⟨_, rfl, rfl, Below.refl _ _⟩
    | 9, _ =>
      have p0 : Lit 9 (a.eval (.tmp 9)) W1 := (hpre { on := 6, ground := .data } (by obtain rfl := Option.some.inj ho; simp) rfl (by decide))
      have p1 : a.eval (.tmp 11) = .slice A2 n.vals.length c2 := (hpre { on := 8, ground := .data } (by obtain rfl := Option.some.inj ho; simp) rfl (by decide))
      obtain ⟨g, hv, hown⟩ := p0
      rw [hv] at hown
      obtain rfl := Option.some.inj ho
      refine Gr.of_step (ops := #[]) (E := False) rfl (step_lit_at (V := vStr) rfl (.tmp 9) (.tmp 11) 53 9 rfl 0 i16 _ 16 Try.underlying53 hi16 hz16 hs16 hb16 rfl (by decide) g n.vals (fun _ => rfl) hv hown A2 c2 p1 (HV.out.below (B0.out.trans (hb.mono B0.out.size))) hc.n2 lV (Nat.zero_le _) ?_)
      intro v' w' h1 h2
      obtain ⟨E1, e1, hE, _⟩ := own_at (V := vStr) h1
      exact ⟨v', rfl, ⟨E1, e1, hE, h1⟩, h2⟩
    | 10, _ =>
      obtain rfl := Option.some.inj ho
      refine Gr.val (v := .slice (some ⟨W1.heap.size, 0, none⟩) 0 0) (w' := W1.alloc (.cells #[] 3)) (by simp [go_sem]) ⟨_, rfl, ⟨_, rfl, own_lit0 _ _ _ _ rfl (Nat.zero_le _)⟩, below1 _ _⟩
    | 11, _ =>
      obtain rfl := Option.some.inj ho
      refine Gr.val (v := .pointer (some ⟨w.heap.size, 3, none⟩)) (by simp [go_sem, t1]) ⟨_, rfl, rfl, Below.refl _ _⟩
    | 12, _ =>
      have p0 : a.tmps[14]?.getD undef = .pointer (some ⟨w.heap.size, 3, none⟩) := Gr.slot (hpre { on := 11, ground := .data } (by obtain rfl := Option.some.inj ho; simp) rfl (by decide))
      obtain rfl := Option.some.inj ho
      refine Gr.val (v := .slice A3 n.kids.length c3) (by simp [go_sem, p0, k3]) ⟨_, rfl, rfl, Below.refl _ _⟩
    | 13, _ =>
      have p0 : Lit 3 (a.eval (.tmp 13)) W1 := (hpre { on := 10, ground := .data } (by obtain rfl := Option.some.inj ho; simp) rfl (by decide))
      have p1 : a.eval (.tmp 15) = .slice A3 n.kids.length c3 := (hpre { on := 12, ground := .data } (by obtain rfl := Option.some.inj ho; simp) rfl (by decide))
      obtain ⟨g, hv, hown⟩ := p0
      rw [hv] at hown
      obtain rfl := Option.some.inj ho
      refine Gr.of_step (ops := #[]) (E := False) rfl (step_lit_at (V := vInt) rfl (.tmp 13) (.tmp 15) 34 3 rfl 0 i8 _ 8 Try.underlying34 hi8 hz8 hs8 hb8 rfl (by decide) g n.kids (fun _ => rfl) hv hown A3 c3 p1 (HC.out.below (B0.out.trans (hb.mono B0.out.size))) hc.n3 lC (Nat.zero_le _) ?_)
      intro v' w' h1 h2
      obtain ⟨E1, e1, hE, _⟩ := own_at (V := vInt) h1
      exact ⟨v', rfl, ⟨E1, e1, hE, h1⟩, h2⟩
    | 14, _ =>
      have p1 : a.tmps[4]?.getD undef = .int .i64 n.kind := Gr.slot (hpre { on := 1, ground := .data } (by obtain rfl := Option.some.inj ho; simp) rfl (by decide))
      have p5 : Row vStr 9 n.keys (a.eval (.tmp 8)) W1 := (hpre { on := 5, ground := .data } (by obtain rfl := Option.some.inj ho; simp) rfl (by decide))
      have p9 : Row vStr 9 n.vals (a.eval (.tmp 12)) W1 := (hpre { on := 9, ground := .data } (by obtain rfl := Option.some.inj ho; simp) rfl (by decide))
      have p13 : Row vInt 3 n.kids (a.eval (.tmp 16)) W1 := (hpre { on := 13, ground := .data } (by obtain rfl := Option.some.inj ho; simp) rfl (by decide))
      have q5 := p5
      have q9 := p9
      have q13 := p13
      obtain ⟨x1, y1, e5, _⟩ := p5
      obtain ⟨x2, y2, e9, _⟩ := p9
      obtain ⟨x3, y3, e13, _⟩ := p13
      rw [e5] at q5
      rw [e9] at q9
      rw [e13] at q13
      have s5 := Gr.slot e5
      have s9 := Gr.slot e9
      have s13 := Gr.slot e13
      obtain rfl := Option.some.inj ho
      refine Gr.val (v := .agg #[.int .i64 n.kind, .slice x1 n.keys.length y1, .slice x2 n.vals.length y2, .slice x3 n.kids.length y3]) (w' := W1) (by simp [go_sem, p1, s5, s9, s13]) ⟨_, rfl, ⟨_, _, _, rfl, q5, q9, q13⟩, Below.refl _ _⟩
    | i + 15, h => omega
  · intro o a W1 ho hb hfr hall
    have t2 : a.tmps[2]?.getD undef = .pointer (some ⟨w.heap.size + 1, 0, none⟩) := Gr.slot (hfr.f 2 (by omega))
    obtain ⟨x, y, z, hv, ⟨x1, y1, e1, o1⟩, ⟨x2, y2, e2, o2⟩, ⟨x3, y3, e3, o3⟩⟩ := hall 14 (by omega)
    subst e1 e2 e3
    have s17 := Gr.slot hv
    have r6 := blk_below R6.out hb (blk_lt R6.out)
    obtain ⟨⟨m0, m1, m2, m3⟩, q0, q1, q2, q3⟩ := row4 r6
    obtain rfl := Option.some.inj ho
    refine Gr.skip (w' := (((W1.setCell ⟨w.heap.size + 1, 0, none⟩ (.int .i64 n.kind)).setCell ⟨w.heap.size + 1, 1, none⟩ (.slice x1 n.keys.length y1)).setCell ⟨w.heap.size + 1, 2, none⟩ (.slice x2 n.vals.length y2)).setCell ⟨w.heap.size + 1, 3, none⟩ (.slice x3 n.kids.length y3)) (by simp [go_sem, t2, s17, m0, m1, m2, m3, q0, q1, q2, q3]) rfl ?_
    rename_i hK
    refine hK _ _ ?_
    go_wp2
    (try simp only [Exit.inBlock, Exit.then])
    refine bodyPost_ret (results_cells rfl _ _ (w.heap.size + 1) [.int .i64 n.kind, .slice x1 n.keys.length y1, .slice x2 n.vals.length y2, .slice x3 n.kids.length y3] _ (hfr.f 2 (by omega)) ?_ Try.underlying57 node_info) hfr.d ?_
    · exact four (row4 (set4 r6 _ _ _ _)).1
    · have z1 := own_put4' (a := .int .i64 n.kind) (b := .slice x1 n.keys.length y1) (c := .slice x2 n.vals.length y2) (d := .slice x3 n.kids.length y3) o1 r6 (by decide)
      have z2 := own_put4' (a := .int .i64 n.kind) (b := .slice x1 n.keys.length y1) (c := .slice x2 n.vals.length y2) (d := .slice x3 n.kids.length y3) o2 r6 (by decide)
      have z3 := own_put4' (a := .int .i64 n.kind) (b := .slice x1 n.keys.length y1) (c := .slice x2 n.vals.length y2) (d := .slice x3 n.kids.length y3) o3 r6 (by decide)
      have d1 := own_cap o1
      have d2 := own_cap o2
      have d3 := own_cap o3
      exact ⟨x1, x2, x3, y1, y2, y3, rfl, ⟨own_at' z1, own_at' z2, own_at' z3⟩, ⟨d1.1, d2.1, d3.1, d1.2.1, d2.2.1, d3.2.1, d1.2.2, d2.2.2, d3.2.2⟩, below_put4 (B0.out.trans (hb.mono B0.out.size)) (by omega)⟩
end Nod
end Go.Proofs.Ytjikioiejdfodaa
