/-
  Programs: the law's own program out of the document's (dowserlaw15.Own). Made by wip/gen/proown.py.
-/
import Derived.Test.YtnhgoeoffjcooaaProRow
import Derived.Test.YtnhgoeoffjcooaaProChk2
import Derived.Test.YtnhgoeoffjcooaaGrow5
namespace Go.Proofs.Ytnhgoeoffjcooaa
open Go.RowKit
namespace Pm
open B
set_option linter.unusedVariables false
theorem infoI : (Try.prog.info? 3).map (fun i => (i.zero, i.size, i.bytes)) = some (some (.int .i64 0), 1, 8) := by kernel_rfl
theorem infoF : (Try.prog.info? 45).map (fun i => (i.zero, i.size, i.bytes)) = some (some (.agg #[.slice none 0 0, .int .i64 0]), 2, 32) := by kernel_rfl
theorem infoO : (Try.prog.info? 42).map (fun i => (i.zero, i.size, i.bytes)) = some (some (.agg #[.int .i64 0, .int .i64 0, .int .i64 0, .int .i64 0, .int .i64 0, .slice none 0 0, .float .f64 0]), 7, 72) := by kernel_rfl
theorem prog_info : (Try.prog.info? 33).map (·.size) = some 6 := by kernel_rfl
def LitV (v : Value) (W : World) : Prop := ∃ g, v = .slice (some ⟨g, 0, none⟩) 0 0 ∧ W.ownsRow 0 3 1 v 0 []
theorem lit_grow (v : Value) (W W' : World) (h : LitV v W) (hb : Below W.heap.size W W') : LitV v W' := by obtain ⟨g, h1, h2⟩ := h; exact ⟨g, h1, own_below h2 hb⟩
def LitM (M : Nat) (v : Value) (W : World) : Prop := ∃ g, v = .slice (some ⟨g, 0, none⟩) 0 0 ∧ W.ownsRow M 3 1 v 0 []
theorem litm_grow {M : Nat} (v : Value) (W W' : World) (h : LitM M v W) (hb : Below W.heap.size W W') : LitM M v W' := by obtain ⟨g, h1, h2⟩ := h; exact ⟨g, h1, own_below h2 hb⟩
def OwnV (M : Nat) (l : List Int) (v : Value) (W : World) : Prop := W.ownsRow M 3 1 v l.length (l.map vInt)
theorem ownv_grow {M : Nat} {l : List Int} (v : Value) (W W' : World) (h : OwnV M l v W) (hb : Below W.heap.size W W') : OwnV M l v W' := own_below h hb
def BldV (M : Nat) (p : P) (v : Value) (W : World) : Prop := ∃ x, v = .agg #[.int .i64 p.vars, .int .i64 p.objs, .int .i64 p.fields, .slice none 0 0, x, .slice none 0 0] ∧ OwnV M p.en x W
theorem bld_grow {M : Nat} {p : P} (v : Value) (W W' : World) (h : BldV M p v W) (hb : Below W.heap.size W W') : BldV M p v W' := by obtain ⟨x, h1, h2⟩ := h; exact ⟨x, h1, own_below h2 hb⟩
def BldE {α : Type} (E : El α) (M : Nat) (x : α) (v : Value) (W : World) : Prop := ∃ y, v = .agg (E.cs y x).toArray ∧ OwnV M (E.il x) y W
theorem blde_grow {α : Type} {E : El α} {M : Nat} {x : α} (v : Value) (W W' : World) (h : BldE E M x v W) (hb : Below W.heap.size W W') : BldE E M x v W' := by obtain ⟨y, h1, h2⟩ := h; exact ⟨y, h1, own_below h2 hb⟩
def SliE {α : Type} (E : El α) (M : Nat) (t : TypeId) (x : α) (v : Value) (W : World) : Prop := ∃ gb y, v = .slice (some ⟨gb, 0, none⟩) 1 1 ∧ OwnV M (E.il x) y W ∧ W.heap[gb]? = some (.cells (E.cs y x).toArray t)
theorem slie_grow {α : Type} {E : El α} {M : Nat} {t : TypeId} {x : α} (v : Value) (W W' : World) (h : SliE E M t x v W) (hb : Below W.heap.size W W') : SliE E M t x v W' := by obtain ⟨gb, y, h1, h2, h3⟩ := h; exact ⟨gb, y, h1, own_below h2 hb, blk_below h3 hb (blk_lt h3)⟩
def NewV (M : Nat) (v : Value) (W : World) : Prop := ∃ g, v = .pointer (some ⟨g, 0, none⟩) ∧ M ≤ g ∧ W.heap[g]? = some (.cells #[.int .i64 0, .int .i64 0, .int .i64 0, .slice none 0 0, .slice none 0 0, .slice none 0 0] 33)
theorem new_grow {M : Nat} (v : Value) (W W' : World) (h : NewV M v W) (hb : Below W.heap.size W W') : NewV M v W' := by obtain ⟨g, h1, h2, h3⟩ := h; exact ⟨g, h1, h2, blk_below h3 hb (blk_lt h3)⟩
theorem set6 {w : World} {g : Nat} {x0 x1 x2 x3 x4 x5 a0 a1 a2 a3 a4 a5 : Value} {t : TypeId} (h : w.heap[g]? = some (.cells #[x0, x1, x2, x3, x4, x5] t)) :
    ((((((w.setCell ⟨g, 0, none⟩ a0).setCell ⟨g, 1, none⟩ a1).setCell ⟨g, 2, none⟩ a2).setCell ⟨g, 3, none⟩ a3).setCell ⟨g, 4, none⟩ a4).setCell ⟨g, 5, none⟩ a5).heap[g]? = some (.cells #[a0, a1, a2, a3, a4, a5] t) :=
  blk_set (cs := [_, _, _, _, _, _]) (blk_set (cs := [_, _, _, _, _, _]) (blk_set (cs := [_, _, _, _, _, _]) (blk_set (cs := [_, _, _, _, _, _]) (blk_set (cs := [_, _, _, _, _, _]) (blk_set (cs := [_, _, _, _, _, _]) h 0 a0) 1 a1) 2 a2) 3 a3) 4 a4) 5 a5
theorem six_of {w : World} {g : Nat} {a b c d e f : Value} {t : TypeId} (h : w.heap[g]? = some (.cells #[a, b, c, d, e, f] t)) : ∀ j v, [a, b, c, d, e, f][j]? = some v → w.cell? ⟨g, j, none⟩ = some v := fun j v hj => (row_cell (cs := [a, b, c, d, e, f]) h j).trans hj
theorem two {w : World} {g : Nat} {x0 x1 : Value} {t : TypeId} (h : w.heap[g]? = some (.cells #[x0, x1] t)) : w.cell? ⟨g, 0, none⟩ = some x0 ∧ w.cell? ⟨g, 1, none⟩ = some x1 := by
  unfold World.cell?
  rw [h]; simp
set_option maxRecDepth 100000 in
set_option maxHeartbeats 20000000 in
theorem own_any (lo : Nat) (p : P) (Af : Option Addr) (cf : Nat) (Ae : Option Addr) (ce : Nat) (Ao : Option Addr) (co : Nat) (w : World) (h : PIn lo w p Af cf Ae ce Ao co) (hs : Sm p) :
    Calls Try.prog 13 #[pv p Af cf Ae ce Ao co] w fun e w' => ∃ Bf df Be de Bo d, e = .returned (pv p Bf df Be de Bo d) ∧ PIn w.heap.size w' p Bf df Be de Bo d ∧ Below w.heap.size w w' := by
  obtain ⟨i8, hi8, hz8, hs8, hb8⟩ := info_parts infoI
  obtain ⟨iF, hiF, hzF, hsF, hbF⟩ := info_parts infoF
  obtain ⟨iO, hiO, hzO, hsO, hbO⟩ := info_parts infoO
  have HF := Lib.hid h.f
  have HE := Lib.hid h.e.at.2.1
  have EN := Lib.hid h.e.at.2.2.1
  have HO := Lib.hid h.o
  have SF := Lib.hid hs.f
  have SE := Lib.hid hs.e
  have SO := Lib.hid hs.o
  have SP := Lib.hid hs.fp
  have SA := Lib.hid hs.oa
  have bA := below1 w (.cells #[.int .i64 p.vars, .int .i64 p.objs, .int .i64 p.fields, .slice Af p.fs.length cf, .slice Ae p.en.length ce, .slice Ao p.ops.length co] 26)
  have bB := below1 (w.alloc (.cells #[.int .i64 p.vars, .int .i64 p.objs, .int .i64 p.fields, .slice Af p.fs.length cf, .slice Ae p.en.length ce, .slice Ao p.ops.length co] 26)) (.cells #[.int .i64 0, .int .i64 0, .int .i64 0, .slice none 0 0, .slice none 0 0, .slice none 0 0] 33)
  have B0 := Lib.hid (bA.trans (bB.mono bA.size))
  have SW := Lib.hid (show w.heap.size + 2 ≤ ((w.alloc (.cells #[.int .i64 p.vars, .int .i64 p.objs, .int .i64 p.fields, .slice Af p.fs.length cf, .slice Ae p.en.length ce, .slice Ao p.ops.length co] 26)).alloc (.cells #[.int .i64 0, .int .i64 0, .int .i64 0, .slice none 0 0, .slice none 0 0, .slice none 0 0] 33)).heap.size by simp)
  have R1 := Lib.hid (hp_old (.cells #[.int .i64 0, .int .i64 0, .int .i64 0, .slice none 0 0, .slice none 0 0, .slice none 0 0] 33) (heap_last w (.cells #[.int .i64 p.vars, .int .i64 p.objs, .int .i64 p.fields, .slice Af p.fs.length cf, .slice Ae p.en.length ce, .slice Ao p.ops.length co] 26) w.heap.size rfl))
  have R2 := Lib.hid (heap_last (w.alloc (.cells #[.int .i64 p.vars, .int .i64 p.objs, .int .i64 p.fields, .slice Af p.fs.length cf, .slice Ae p.en.length ce, .slice Ao p.ops.length co] 26)) (.cells #[.int .i64 0, .int .i64 0, .int .i64 0, .slice none 0 0, .slice none 0 0, .slice none 0 0] 33) (w.heap.size + 1) (by simp))
  clear bA bB h hs
  go_enter Try.func13, Try.ntmps13
  go_upto_region 1 with fail
  generalize (w.alloc (.cells #[.int .i64 p.vars, .int .i64 p.objs, .int .i64 p.fields, .slice Af p.fs.length cf, .slice Ae p.en.length ce, .slice Ao p.ops.length co] 26)).alloc (.cells #[.int .i64 0, .int .i64 0, .int .i64 0, .slice none 0 0, .slice none 0 0, .slice none 0 0] 33) = W at *
  refine Gr.region 12 (fun i => if i < 11 then i + 8 else 3) (by kernel_rfl) (by kernel_rfl) (Gr.spφ [.val (.pointer (some ⟨w.heap.size, 0, none⟩)), .val (.int .i64 p.vars), .val (.pointer (some ⟨w.heap.size, 1, none⟩)), .val (.int .i64 p.objs), .val (.pointer (some ⟨w.heap.size, 2, none⟩)), .val (.int .i64 p.fields), .cls (LitM w.heap.size) (litm_grow), .val (.pointer (some ⟨w.heap.size, 4, none⟩)), .val (.slice Ae p.en.length ce), .cls (OwnV w.heap.size p.en) (ownv_grow), .cls (BldV w.heap.size p) (bld_grow), .cls (NewV (w.heap.size + 2)) (new_grow)]) (Gr.spφ_grow _) ?_ ?_
  · intro i o a W1 hi ho hb hfr hpre
    have t1 : a.tmps[1]?.getD undef = .pointer (some ⟨w.heap.size, 0, none⟩) := Gr.slot (hfr.f 1 (by intro j hj; (try dsimp only); split <;> omega))
    obtain ⟨k0, k1, k2, k3, k4, k5⟩ := cells6 (blk_below R1.out hb (blk_lt R1.out))
    match i, hi with
    | 0, _ =>
      obtain rfl := Option.some.inj ho
      refine Gr.val (v := .pointer (some ⟨w.heap.size, 0, none⟩)) (w' := W1) (by simp [go_sem, t1]) ⟨_, rfl, rfl, Below.refl _ _⟩
    | 1, _ =>
      have p8 : a.tmps[8]?.getD undef = .pointer (some ⟨w.heap.size, 0, none⟩) := Gr.slot (hpre { on := 0, ground := .data } (by obtain rfl := Option.some.inj ho; simp) rfl (by decide))
      obtain rfl := Option.some.inj ho
      refine Gr.val (v := .int .i64 p.vars) (w' := W1) (by simp [go_sem, p8, k0]) ⟨_, rfl, rfl, Below.refl _ _⟩
    | 2, _ =>
      obtain rfl := Option.some.inj ho
      refine Gr.val (v := .pointer (some ⟨w.heap.size, 1, none⟩)) (w' := W1) (by simp [go_sem, t1]) ⟨_, rfl, rfl, Below.refl _ _⟩
    | 3, _ =>
      have p10 : a.tmps[10]?.getD undef = .pointer (some ⟨w.heap.size, 1, none⟩) := Gr.slot (hpre { on := 2, ground := .data } (by obtain rfl := Option.some.inj ho; simp) rfl (by decide))
      obtain rfl := Option.some.inj ho
      refine Gr.val (v := .int .i64 p.objs) (w' := W1) (by simp [go_sem, p10, k1]) ⟨_, rfl, rfl, Below.refl _ _⟩
    | 4, _ =>
      obtain rfl := Option.some.inj ho
      refine Gr.val (v := .pointer (some ⟨w.heap.size, 2, none⟩)) (w' := W1) (by simp [go_sem, t1]) ⟨_, rfl, rfl, Below.refl _ _⟩
    | 5, _ =>
      have p12 : a.tmps[12]?.getD undef = .pointer (some ⟨w.heap.size, 2, none⟩) := Gr.slot (hpre { on := 4, ground := .data } (by obtain rfl := Option.some.inj ho; simp) rfl (by decide))
      obtain rfl := Option.some.inj ho
      refine Gr.val (v := .int .i64 p.fields) (w' := W1) (by simp [go_sem, p12, k2]) ⟨_, rfl, rfl, Below.refl _ _⟩
    | 6, _ =>
      obtain rfl := Option.some.inj ho
      refine Gr.val (v := .slice (some ⟨W1.heap.size, 0, none⟩) 0 0) (w' := W1.alloc (.cells #[] 3)) (by simp [go_sem]) ⟨_, rfl, ⟨_, rfl, own_lit0 _ _ _ _ rfl (Nat.le_trans B0.out.size hb.size)⟩, below1 _ _⟩
    | 7, _ =>
      obtain rfl := Option.some.inj ho
      refine Gr.val (v := .pointer (some ⟨w.heap.size, 4, none⟩)) (w' := W1) (by simp [go_sem, t1]) ⟨_, rfl, rfl, Below.refl _ _⟩
    | 8, _ =>
      have p15 : a.tmps[15]?.getD undef = .pointer (some ⟨w.heap.size, 4, none⟩) := Gr.slot (hpre { on := 7, ground := .data } (by obtain rfl := Option.some.inj ho; simp) rfl (by decide))
      obtain rfl := Option.some.inj ho
      refine Gr.val (v := .slice Ae p.en.length ce) (w' := W1) (by simp [go_sem, p15, k4]) ⟨_, rfl, rfl, Below.refl _ _⟩
    | 9, _ =>
      have q14 : (LitM w.heap.size) (a.eval (.tmp 14)) W1 := hpre { on := 6, ground := .data } (by obtain rfl := Option.some.inj ho; simp) rfl (by decide)
      have p16 : a.tmps[16]?.getD undef = .slice Ae p.en.length ce := Gr.slot (hpre { on := 8, ground := .data } (by obtain rfl := Option.some.inj ho; simp) rfl (by decide))
      obtain ⟨gl, hv, hown⟩ := q14
      have p1 : a.eval (.tmp 16) = .slice Ae p.en.length ce := (hpre { on := 8, ground := .data } (by obtain rfl := Option.some.inj ho; simp) rfl (by decide))
      rw [hv] at hown
      obtain rfl := Option.some.inj ho
      refine Gr.of_step (ops := #[]) (E := False) rfl (step_lit_at (V := vInt) rfl (.tmp 14) (.tmp 16) 23 3 rfl w.heap.size i8 _ 8 Try.underlying23 hi8 hz8 hs8 hb8 rfl (by decide) gl p.en (fun _ => rfl) hv hown Ae ce p1 (HE.out.below (B0.out.trans (hb.mono B0.out.size))) EN.out (by have := SE.out; omega) (Nat.le_trans B0.out.size hb.size) ?_)
      intro v' w' h1 h2
      exact ⟨v', rfl, h1, h2⟩
    | 10, _ =>
      have p9 : a.tmps[9]?.getD undef = .int .i64 p.vars := Gr.slot (hpre { on := 1, ground := .data } (by obtain rfl := Option.some.inj ho; simp) rfl (by decide))
      have p11 : a.tmps[11]?.getD undef = .int .i64 p.objs := Gr.slot (hpre { on := 3, ground := .data } (by obtain rfl := Option.some.inj ho; simp) rfl (by decide))
      have p13 : a.tmps[13]?.getD undef = .int .i64 p.fields := Gr.slot (hpre { on := 5, ground := .data } (by obtain rfl := Option.some.inj ho; simp) rfl (by decide))
      have q17 : (OwnV w.heap.size p.en) (a.eval (.tmp 17)) W1 := hpre { on := 9, ground := .data } (by obtain rfl := Option.some.inj ho; simp) rfl (by decide)
      obtain ⟨A1, c1, hv, _, _⟩ := own_at q17
      have p17 := Gr.slot hv
      have q17' := q17
      rw [hv] at q17'
      obtain rfl := Option.some.inj ho
      refine Gr.val (v := .agg #[.int .i64 p.vars, .int .i64 p.objs, .int .i64 p.fields, .slice none 0 0, .slice A1 p.en.length c1, .slice none 0 0]) (w' := W1) (by simp [go_sem, p9, p11, p13, p17]) ⟨_, rfl, ⟨_, rfl, q17'⟩, Below.refl _ _⟩
    | 11, _ =>
      obtain rfl := Option.some.inj ho
      refine Gr.val (v := .pointer (some ⟨W1.heap.size, 0, none⟩)) (w' := W1.alloc (.cells #[.int .i64 0, .int .i64 0, .int .i64 0, .slice none 0 0, .slice none 0 0, .slice none 0 0] 33)) (by simp [go_sem]) ⟨_, rfl, ⟨W1.heap.size, rfl, Nat.le_trans SW.out hb.size, heap_last _ _ _ rfl⟩, below1 _ _⟩
    | i + 12, h => omega
  intro o a W1 ho hb hfr hall
  obtain ⟨g, hv3, hg30, hG3⟩ : NewV (w.heap.size + 2) (a.eval (.tmp 3)) W1 := hall 11 (by omega)
  obtain ⟨ve, hv18, hoe⟩ : BldV w.heap.size p (a.eval (.tmp 18)) W1 := hall 10 (by omega)
  have hg3 : w.heap.size ≤ g := by omega
  have hgn : g ≠ w.heap.size + 1 ∧ g ≠ w.heap.size := by omega
  have t3 := Gr.slot hv3
  have t18 := Gr.slot hv18
  obtain ⟨Be, de, hve, hz1, hz2, hz3⟩ := own_at hoe
  clear hz1 hz2 hz3
  subst hve
  obtain ⟨x0, x1, x2, x3, x4, x5, y0, y1, y2, y3, y4, y5⟩ := row6 hG3
  obtain rfl := Option.some.inj ho
  refine Gr.skip (w' := ((((((W1.setCell ⟨g, 0, none⟩ (.int .i64 p.vars)).setCell ⟨g, 1, none⟩ (.int .i64 p.objs)).setCell ⟨g, 2, none⟩ (.int .i64 p.fields)).setCell ⟨g, 3, none⟩ (.slice none 0 0)).setCell ⟨g, 4, none⟩ (.slice Be p.en.length de)).setCell ⟨g, 5, none⟩ (.slice none 0 0))) (by simp [go_sem, t3, t18, x0, x1, x2, x3, x4, x5, y0, y1, y2, y3, y4, y5]) rfl ?_
  rename_i hK
  refine hK _ _ ?_
  clear hK
  obtain ⟨u8, hu8⟩ : ∃ u, a.tmps[8]?.getD undef = u := ⟨_, rfl⟩
  obtain ⟨u9, hu9⟩ : ∃ u, a.tmps[9]?.getD undef = u := ⟨_, rfl⟩
  obtain ⟨u10, hu10⟩ : ∃ u, a.tmps[10]?.getD undef = u := ⟨_, rfl⟩
  obtain ⟨u11, hu11⟩ : ∃ u, a.tmps[11]?.getD undef = u := ⟨_, rfl⟩
  obtain ⟨u12, hu12⟩ : ∃ u, a.tmps[12]?.getD undef = u := ⟨_, rfl⟩
  obtain ⟨u13, hu13⟩ : ∃ u, a.tmps[13]?.getD undef = u := ⟨_, rfl⟩
  obtain ⟨u14, hu14⟩ : ∃ u, a.tmps[14]?.getD undef = u := ⟨_, rfl⟩
  obtain ⟨u15, hu15⟩ : ∃ u, a.tmps[15]?.getD undef = u := ⟨_, rfl⟩
  obtain ⟨u16, hu16⟩ : ∃ u, a.tmps[16]?.getD undef = u := ⟨_, rfl⟩
  obtain ⟨u17, hu17⟩ : ∃ u, a.tmps[17]?.getD undef = u := ⟨_, rfl⟩
  obtain ⟨u18, hu18⟩ : ∃ u, a.tmps[18]?.getD undef = u := ⟨_, rfl⟩
  have hA : a = ⟨#[pv p Af cf Ae ce Ao co, .pointer (some ⟨w.heap.size, 0, none⟩), .pointer (some ⟨w.heap.size + 1, 0, none⟩), .pointer (some ⟨g, 0, none⟩), undef, undef, undef, undef, u8, u9, u10, u11, u12, u13, u14, u15, u16, u17, u18, undef, undef, undef, undef, undef, undef, undef, undef, undef, undef, undef, undef, undef, undef, undef, undef, undef, undef, undef, undef, undef, undef, undef, undef, undef, undef, undef, undef, undef, undef, undef, undef, undef, undef, undef, undef, undef, undef, undef, undef, undef, undef, undef, undef, undef, undef, undef, undef, undef, undef, undef], []⟩ := Gr.act_eq (l := [pv p Af cf Ae ce Ao co, .pointer (some ⟨w.heap.size, 0, none⟩), .pointer (some ⟨w.heap.size + 1, 0, none⟩), .pointer (some ⟨g, 0, none⟩), undef, undef, undef, undef, u8, u9, u10, u11, u12, u13, u14, u15, u16, u17, u18, undef, undef, undef, undef, undef, undef, undef, undef, undef, undef, undef, undef, undef, undef, undef, undef, undef, undef, undef, undef, undef, undef, undef, undef, undef, undef, undef, undef, undef, undef, undef, undef, undef, undef, undef, undef, undef, undef, undef, undef, undef, undef, undef, undef, undef, undef, undef, undef, undef, undef, undef]) hfr.d hfr.s (by
    intro i hi
    match i, hi with
    | 0, _ => exact Gr.slot (hfr.f 0 (by intro j hj; (try dsimp only); split <;> omega))
    | 1, _ => exact Gr.slot (hfr.f 1 (by intro j hj; (try dsimp only); split <;> omega))
    | 2, _ => exact Gr.slot (hfr.f 2 (by intro j hj; (try dsimp only); split <;> omega))
    | 3, _ => exact Gr.slot hv3
    | 4, _ => exact Gr.slot (hfr.f 4 (by intro j hj; (try dsimp only); split <;> omega))
    | 5, _ => exact Gr.slot (hfr.f 5 (by intro j hj; (try dsimp only); split <;> omega))
    | 6, _ => exact Gr.slot (hfr.f 6 (by intro j hj; (try dsimp only); split <;> omega))
    | 7, _ => exact Gr.slot (hfr.f 7 (by intro j hj; (try dsimp only); split <;> omega))
    | 8, _ => exact hu8
    | 9, _ => exact hu9
    | 10, _ => exact hu10
    | 11, _ => exact hu11
    | 12, _ => exact hu12
    | 13, _ => exact hu13
    | 14, _ => exact hu14
    | 15, _ => exact hu15
    | 16, _ => exact hu16
    | 17, _ => exact hu17
    | 18, _ => exact hu18
    | 19, _ => exact Gr.slot (hfr.f 19 (by intro j hj; (try dsimp only); split <;> omega))
    | 20, _ => exact Gr.slot (hfr.f 20 (by intro j hj; (try dsimp only); split <;> omega))
    | 21, _ => exact Gr.slot (hfr.f 21 (by intro j hj; (try dsimp only); split <;> omega))
    | 22, _ => exact Gr.slot (hfr.f 22 (by intro j hj; (try dsimp only); split <;> omega))
    | 23, _ => exact Gr.slot (hfr.f 23 (by intro j hj; (try dsimp only); split <;> omega))
    | 24, _ => exact Gr.slot (hfr.f 24 (by intro j hj; (try dsimp only); split <;> omega))
    | 25, _ => exact Gr.slot (hfr.f 25 (by intro j hj; (try dsimp only); split <;> omega))
    | 26, _ => exact Gr.slot (hfr.f 26 (by intro j hj; (try dsimp only); split <;> omega))
    | 27, _ => exact Gr.slot (hfr.f 27 (by intro j hj; (try dsimp only); split <;> omega))
    | 28, _ => exact Gr.slot (hfr.f 28 (by intro j hj; (try dsimp only); split <;> omega))
    | 29, _ => exact Gr.slot (hfr.f 29 (by intro j hj; (try dsimp only); split <;> omega))
    | 30, _ => exact Gr.slot (hfr.f 30 (by intro j hj; (try dsimp only); split <;> omega))
    | 31, _ => exact Gr.slot (hfr.f 31 (by intro j hj; (try dsimp only); split <;> omega))
    | 32, _ => exact Gr.slot (hfr.f 32 (by intro j hj; (try dsimp only); split <;> omega))
    | 33, _ => exact Gr.slot (hfr.f 33 (by intro j hj; (try dsimp only); split <;> omega))
    | 34, _ => exact Gr.slot (hfr.f 34 (by intro j hj; (try dsimp only); split <;> omega))
    | 35, _ => exact Gr.slot (hfr.f 35 (by intro j hj; (try dsimp only); split <;> omega))
    | 36, _ => exact Gr.slot (hfr.f 36 (by intro j hj; (try dsimp only); split <;> omega))
    | 37, _ => exact Gr.slot (hfr.f 37 (by intro j hj; (try dsimp only); split <;> omega))
    | 38, _ => exact Gr.slot (hfr.f 38 (by intro j hj; (try dsimp only); split <;> omega))
    | 39, _ => exact Gr.slot (hfr.f 39 (by intro j hj; (try dsimp only); split <;> omega))
    | 40, _ => exact Gr.slot (hfr.f 40 (by intro j hj; (try dsimp only); split <;> omega))
    | 41, _ => exact Gr.slot (hfr.f 41 (by intro j hj; (try dsimp only); split <;> omega))
    | 42, _ => exact Gr.slot (hfr.f 42 (by intro j hj; (try dsimp only); split <;> omega))
    | 43, _ => exact Gr.slot (hfr.f 43 (by intro j hj; (try dsimp only); split <;> omega))
    | 44, _ => exact Gr.slot (hfr.f 44 (by intro j hj; (try dsimp only); split <;> omega))
    | 45, _ => exact Gr.slot (hfr.f 45 (by intro j hj; (try dsimp only); split <;> omega))
    | 46, _ => exact Gr.slot (hfr.f 46 (by intro j hj; (try dsimp only); split <;> omega))
    | 47, _ => exact Gr.slot (hfr.f 47 (by intro j hj; (try dsimp only); split <;> omega))
    | 48, _ => exact Gr.slot (hfr.f 48 (by intro j hj; (try dsimp only); split <;> omega))
    | 49, _ => exact Gr.slot (hfr.f 49 (by intro j hj; (try dsimp only); split <;> omega))
    | 50, _ => exact Gr.slot (hfr.f 50 (by intro j hj; (try dsimp only); split <;> omega))
    | 51, _ => exact Gr.slot (hfr.f 51 (by intro j hj; (try dsimp only); split <;> omega))
    | 52, _ => exact Gr.slot (hfr.f 52 (by intro j hj; (try dsimp only); split <;> omega))
    | 53, _ => exact Gr.slot (hfr.f 53 (by intro j hj; (try dsimp only); split <;> omega))
    | 54, _ => exact Gr.slot (hfr.f 54 (by intro j hj; (try dsimp only); split <;> omega))
    | 55, _ => exact Gr.slot (hfr.f 55 (by intro j hj; (try dsimp only); split <;> omega))
    | 56, _ => exact Gr.slot (hfr.f 56 (by intro j hj; (try dsimp only); split <;> omega))
    | 57, _ => exact Gr.slot (hfr.f 57 (by intro j hj; (try dsimp only); split <;> omega))
    | 58, _ => exact Gr.slot (hfr.f 58 (by intro j hj; (try dsimp only); split <;> omega))
    | 59, _ => exact Gr.slot (hfr.f 59 (by intro j hj; (try dsimp only); split <;> omega))
    | 60, _ => exact Gr.slot (hfr.f 60 (by intro j hj; (try dsimp only); split <;> omega))
    | 61, _ => exact Gr.slot (hfr.f 61 (by intro j hj; (try dsimp only); split <;> omega))
    | 62, _ => exact Gr.slot (hfr.f 62 (by intro j hj; (try dsimp only); split <;> omega))
    | 63, _ => exact Gr.slot (hfr.f 63 (by intro j hj; (try dsimp only); split <;> omega))
    | 64, _ => exact Gr.slot (hfr.f 64 (by intro j hj; (try dsimp only); split <;> omega))
    | 65, _ => exact Gr.slot (hfr.f 65 (by intro j hj; (try dsimp only); split <;> omega))
    | 66, _ => exact Gr.slot (hfr.f 66 (by intro j hj; (try dsimp only); split <;> omega))
    | 67, _ => exact Gr.slot (hfr.f 67 (by intro j hj; (try dsimp only); split <;> omega))
    | 68, _ => exact Gr.slot (hfr.f 68 (by intro j hj; (try dsimp only); split <;> omega))
    | 69, _ => exact Gr.slot (hfr.f 69 (by intro j hj; (try dsimp only); split <;> omega))
    | i + 70, h => simp only [List.length_cons, List.length_nil] at h; omega)
  clear hu8 hu9 hu10 hu11 hu12 hu13 hu14 hu15 hu16 hu17 hu18
  subst hA
  have RG := Lib.hid (set6 (a0 := .int .i64 p.vars) (a1 := .int .i64 p.objs) (a2 := .int .i64 p.fields) (a3 := .slice none 0 0) (a4 := .slice Be p.en.length de) (a5 := .slice none 0 0) hG3)
  have hset := fun x (hne : x ≠ g) => (show ((((((W1.setCell ⟨g, 0, none⟩ (.int .i64 p.vars)).setCell ⟨g, 1, none⟩ (.int .i64 p.objs)).setCell ⟨g, 2, none⟩ (.int .i64 p.fields)).setCell ⟨g, 3, none⟩ (.slice none 0 0)).setCell ⟨g, 4, none⟩ (.slice Be p.en.length de)).setCell ⟨g, 5, none⟩ (.slice none 0 0)).heap[x]? = W1.heap[x]? from by
    rw [Below.heap_setCell _ _ _ x hne, Below.heap_setCell _ _ _ x hne, Below.heap_setCell _ _ _ x hne, Below.heap_setCell _ _ _ x hne, Below.heap_setCell _ _ _ x hne, Below.heap_setCell _ _ _ x hne])
  have hP1 := blk_below R1.out hb (blk_lt R1.out)
  have hZ1 := blk_below R2.out hb (blk_lt R2.out)
  have hgne : g ≠ w.heap.size + 1 ∧ g ≠ w.heap.size := hgn
  have KE := Lib.hid ((KL.own hoe).keep (w' := _) (Nat.le_of_eq (by simp)) fun x hx hq => hset x (fun e => by
    subst e
    rcases hq with hq | ⟨cs1, fr1, hq⟩
    · omega
    · rw [hG3] at hq; injection hq with hq; injection hq with _ hq _; revert hq; decide))
  have RZ := Lib.hid ((hset _ hgne.1.symm).trans hZ1)
  have RP := Lib.hid ((hset _ hgne.2.symm).trans hP1)
  have B1 : Hid (Below w.heap.size w _) := Lib.hid (((((((B0.out.trans (hb.mono B0.out.size)).setCell (p := ⟨g, 0, none⟩) hg3 (.int .i64 p.vars)).setCell (p := ⟨g, 1, none⟩) hg3 (.int .i64 p.objs)).setCell (p := ⟨g, 2, none⟩) hg3 (.int .i64 p.fields)).setCell (p := ⟨g, 3, none⟩) hg3 (.slice none 0 0)).setCell (p := ⟨g, 4, none⟩) hg3 (.slice Be p.en.length de)).setCell (p := ⟨g, 5, none⟩) hg3 (.slice none 0 0))
  clear hset hP1 hZ1 hoe hG3 t3 t18 x0 x1 x2 x3 x4 x5 y0 y1 y2 y3 y4 y5 hb hfr hall hv18 hv3 R1 R2 B0
  generalize ((((((W1.setCell ⟨g, 0, none⟩ (.int .i64 p.vars)).setCell ⟨g, 1, none⟩ (.int .i64 p.objs)).setCell ⟨g, 2, none⟩ (.int .i64 p.fields)).setCell ⟨g, 3, none⟩ (.slice none 0 0)).setCell ⟨g, 4, none⟩ (.slice Be p.en.length de)).setCell ⟨g, 5, none⟩ (.slice none 0 0)) = W2 at *
  have rp := cells6 RP.out
  obtain ⟨rp0, rp1, rp2, rp3, rp4, rp5⟩ := rp
  go_wp2
  go_loopw [22] (fun t wr => ∃ (i : Nat) (vr : Value), t = .int .i64 (i : Int) ∧ i ≤ p.fs.length ∧ wr.heap[g]? = some (.cells #[.int .i64 p.vars, .int .i64 p.objs, .int .i64 p.fields, vr, .slice Be p.en.length de, .slice none 0 0] 33) ∧ RowOwn elF w.heap.size w.heap.size 45 wr vr (p.fs.take i) ∧ KL w.heap.size w.heap.size wr (.slice Be p.en.length de) p.en ∧ wr.heap[w.heap.size + 1]? = some (.cells #[.int .i64 0, .int .i64 0, .int .i64 0, .slice none 0 0, .slice none 0 0, .slice none 0 0] 33) ∧ wr.heap[w.heap.size]? = some (.cells #[.int .i64 p.vars, .int .i64 p.objs, .int .i64 p.fields, .slice Af p.fs.length cf, .slice Ae p.en.length ce, .slice Ao p.ops.length co] 26) ∧ Below w.heap.size w wr) (fun t _ => p.fs.length - (intOf t).toNat)
  case atStart => exact ⟨0, _, rfl, Nat.zero_le _, RG.out, by rw [List.take_zero]; exact RowOwn.nil _ _ _ _, KE.out, RZ.out, RP.out, B1.out⟩
  case round =>
    obtain ⟨i, vr, rfl, hil, hg, hro, hke, hz, hp, hb⟩ := hrel
    have RG2 := Lib.hid hg
    have RO2 := Lib.hid hro
    have KE2 := Lib.hid hke
    have RZ2 := Lib.hid hz
    have RP2 := Lib.hid hp
    have B2 := Lib.hid hb
    clear hg hro hke hz hp hb RG KE RZ RP B1
    by_cases hin : i < p.fs.length
    · have hI : (i : Int) < (p.fs.length : Int) := by omega
      obtain ⟨b, off, hA, _, hbl, hc⟩ := HF.out (by omega)
      obtain ⟨v, c0, c1, il⟩ := hc i hin
      have c0 := (B2.out.cell (p := ⟨b, off + i * 2, none⟩) hbl).trans c0
      have c1 := (B2.out.cell (p := ⟨b, off + i * 2 + 1, none⟩) hbl).trans c1
      have TK := Lib.hid (show p.fs.take (i + 1) = p.fs.take i ++ [p.fs[i]] by rw [List.take_add_one, List.getElem?_eq_getElem hin]; rfl)
      have XL := Lib.hid (SP.out _ (List.getElem_mem hin))
      generalize p.fs[i] = x at *
      obtain ⟨A, c, rfl, hAt, hAn, _⟩ := il
      have AT := Lib.hid (hAt.below B2.out)
      have AN := Lib.hid hAn
      obtain ⟨ps, hps, hown, hpx⟩ := RO2.out
      have PS := Lib.hid hps
      have PX := Lib.hid hpx
      have OW := Lib.hid hown
      have hpl : ps.length = i := by rw [← List.length_map (f := Prod.snd), hps, List.length_take]; omega
      have PL := Lib.hid hpl
      subst hA
      have bX := below1 wr (.cells #[.slice A x.ps.length c, .int .i64 x.ret] 63)
      have BX := Lib.hid bX
      have RX := Lib.hid (heap_last wr (.cells #[.slice A x.ps.length c, .int .i64 x.ret] 63) wr.heap.size rfl)
      have SZ : wr.heap.size < (wr.alloc (.cells #[.slice A x.ps.length c, .int .i64 x.ret] 63)).heap.size := by simp
      clear hc hAt hAn hps hpx hown hpl bX
      go_upto_region 5 with fail
      have RG3 := Lib.hid (blk_below RG2.out BX.out (blk_lt RG2.out))
      generalize hW3 : wr.alloc (.cells #[.slice A x.ps.length c, .int .i64 x.ret] 63) = W3 at *
      have AT3 := Lib.hid (AT.out.below BX.out)
      have kb3 := Lib.hid (fun o => ((bdrew W3).alloc (Nat.le_refl _) o : Below W3.heap.size W3 (W3.drew.alloc o)))
      have B3 := Lib.hid (B2.out.trans (BX.out.mono B2.out.size))
      have OW3 := Lib.hid (own_below OW.out BX.out)
      have PX3 := Lib.hid (fun y hy => (show KL w.heap.size w.heap.size W3 y.1 (elF.il y.2) ∧ elF.ok y.2 from ⟨(PX.out y hy).1.below BX.out, (PX.out y hy).2⟩))
      have KE3 := Lib.hid (KE2.out.below BX.out)
      have RZ3 := Lib.hid (blk_below RZ2.out BX.out (blk_lt RZ2.out))
      have RP3 := Lib.hid (blk_below RP2.out BX.out (blk_lt RP2.out))
      have hgx : wr.heap.size < W3.heap.size := SZ
      generalize hGX : wr.heap.size = gx at *
      have GX := Lib.hid hGX
      clear hGX hW3 c0 c1
      have ge := (cells6 RG3.out).2.2.2.1
      have hlen : x.ps.length ≤ 10000000 := by have := XL.out; omega
      have hMW : w.heap.size ≤ W3.heap.size := Nat.le_trans B3.out.size (Nat.le_refl _)
      have MW := Lib.hid hMW
      have HLn := Lib.hid hlen
      have hPn : ps.length ≤ 2000000 := by have := PL.out; have := SF.out; omega
      have PN := Lib.hid hPn
      have hgM : w.heap.size ≤ g := hg3
      clear AT B2 OW PX KE2 RZ2 RP2 RG2 hlen hMW hPn BX SZ hgM ge
      obtain ⟨rx0, rx1⟩ := two RX.out
      refine Gr.regionT 10 (fun i => i + 26) (by kernel_rfl) (by kernel_rfl) (Gr.spφ [.val (.pointer (some ⟨g, 3, none⟩)), .val (vr), .cls (LitM w.heap.size) (litm_grow), .val (.pointer (some ⟨gx, 0, none⟩)), .val (.slice A x.ps.length c), .cls (OwnV w.heap.size x.ps) (ownv_grow), .val (.pointer (some ⟨gx, 1, none⟩)), .val (.int .i64 x.ret), .cls (BldE elF w.heap.size x) (blde_grow), .cls (SliE elF w.heap.size 45 x) (slie_grow)]) (Gr.spφ_grow _) ?_ ?_
      · intro i o a W4 hi ho hb hfr hpre
        have t3 : a.tmps[3]?.getD undef = .pointer (some ⟨g, 0, none⟩) := Gr.slot (hfr.f 3 (by intro j hj; omega))
        have t5 : a.tmps[5]?.getD undef = .pointer (some ⟨gx, 0, none⟩) := Gr.slot (hfr.f 5 (by intro j hj; omega))
        have ge := (cells6 (blk_below RG3.out hb (blk_lt RG3.out))).2.2.2.1
        obtain ⟨rx0, rx1⟩ := two (blk_below RX.out hb (blk_lt RX.out))
        match i, hi with
        | 0, _ =>
          obtain rfl := Option.some.inj ho
          refine Gr.val (v := .pointer (some ⟨g, 3, none⟩)) (w' := W4) (by simp [go_sem, t3]) ⟨_, rfl, rfl, Below.refl _ _⟩
        | 1, _ =>
          have p26 : a.tmps[26]?.getD undef = .pointer (some ⟨g, 3, none⟩) := Gr.slot (hpre { on := 0, ground := .data } (by obtain rfl := Option.some.inj ho; simp) rfl (by decide))
          obtain rfl := Option.some.inj ho
          refine Gr.val (v := vr) (w' := W4) (by simp [go_sem, p26, ge]) ⟨_, rfl, rfl, Below.refl _ _⟩
        | 2, _ =>
          obtain rfl := Option.some.inj ho
          refine Gr.val (v := .slice (some ⟨W4.heap.size, 0, none⟩) 0 0) (w' := W4.alloc (.cells #[] 3)) (by simp [go_sem]) ⟨_, rfl, ⟨_, rfl, own_lit0 _ _ _ _ rfl (Nat.le_trans MW.out hb.size)⟩, below1 _ _⟩
        | 3, _ =>
          obtain rfl := Option.some.inj ho
          refine Gr.val (v := .pointer (some ⟨gx, 0, none⟩)) (w' := W4) (by simp [go_sem, t5]) ⟨_, rfl, rfl, Below.refl _ _⟩
        | 4, _ =>
          have p29 : a.tmps[29]?.getD undef = .pointer (some ⟨gx, 0, none⟩) := Gr.slot (hpre { on := 3, ground := .data } (by obtain rfl := Option.some.inj ho; simp) rfl (by decide))
          obtain rfl := Option.some.inj ho
          refine Gr.val (v := .slice A x.ps.length c) (w' := W4) (by simp [go_sem, p29, rx0]) ⟨_, rfl, rfl, Below.refl _ _⟩
        | 5, _ =>
          have q28 : (LitM w.heap.size) (a.eval (.tmp 28)) W4 := hpre { on := 2, ground := .data } (by obtain rfl := Option.some.inj ho; simp) rfl (by decide)
          have p30 : a.tmps[30]?.getD undef = .slice A x.ps.length c := Gr.slot (hpre { on := 4, ground := .data } (by obtain rfl := Option.some.inj ho; simp) rfl (by decide))
          obtain ⟨gl, hv, hown⟩ := q28
          have p1 : a.eval (.tmp 30) = .slice A x.ps.length c := (hpre { on := 4, ground := .data } (by obtain rfl := Option.some.inj ho; simp) rfl (by decide))
          rw [hv] at hown
          obtain rfl := Option.some.inj ho
          refine Gr.of_step (ops := #[]) (E := False) rfl (step_lit_at (V := vInt) rfl (.tmp 28) (.tmp 30) 23 3 rfl w.heap.size i8 _ 8 Try.underlying23 hi8 hz8 hs8 hb8 rfl (by decide) gl x.ps (fun _ => rfl) hv hown A c p1 (AT3.out.below hb) AN.out HLn.out (Nat.le_trans MW.out hb.size) ?_)
          intro v' w' h1 h2
          exact ⟨v', rfl, h1, h2⟩
        | 6, _ =>
          obtain rfl := Option.some.inj ho
          refine Gr.val (v := .pointer (some ⟨gx, 1, none⟩)) (w' := W4) (by simp [go_sem, t5]) ⟨_, rfl, rfl, Below.refl _ _⟩
        | 7, _ =>
          have p32 : a.tmps[32]?.getD undef = .pointer (some ⟨gx, 1, none⟩) := Gr.slot (hpre { on := 6, ground := .data } (by obtain rfl := Option.some.inj ho; simp) rfl (by decide))
          obtain rfl := Option.some.inj ho
          refine Gr.val (v := .int .i64 x.ret) (w' := W4) (by simp [go_sem, p32, rx1]) ⟨_, rfl, rfl, Below.refl _ _⟩
        | 8, _ =>
          have q31 : (OwnV w.heap.size x.ps) (a.eval (.tmp 31)) W4 := hpre { on := 5, ground := .data } (by obtain rfl := Option.some.inj ho; simp) rfl (by decide)
          have p33 : a.tmps[33]?.getD undef = .int .i64 x.ret := Gr.slot (hpre { on := 7, ground := .data } (by obtain rfl := Option.some.inj ho; simp) rfl (by decide))
          obtain ⟨A1, c1, hv, _, _⟩ := own_at q31
          have pq := Gr.slot hv
          have q' := q31
          rw [hv] at q'
          obtain rfl := Option.some.inj ho
          refine Gr.val (v := .agg #[.slice A1 x.ps.length c1, .int .i64 x.ret]) (w' := W4) (by simp [go_sem, p33, pq]) ⟨_, rfl, ⟨_, rfl, q'⟩, Below.refl _ _⟩
        | 9, _ =>
          have q34 : (BldE elF w.heap.size x) (a.eval (.tmp 34)) W4 := hpre { on := 8, ground := .data } (by obtain rfl := Option.some.inj ho; simp) rfl (by decide)
          obtain ⟨y, hv, hy⟩ := q34
          have pq := Gr.slot hv
          obtain ⟨A1, c1, hya, _, _⟩ := own_at hy
          subst hya
          obtain rfl := Option.some.inj ho
          refine Gr.val (v := .slice (some ⟨W4.heap.size, 0, none⟩) 1 1) (w' := W4.alloc (.cells #[.slice A1 x.ps.length c1, .int .i64 x.ret] 45)) (by simp [go_sem, pq, elF, fcs]) ⟨_, rfl, ⟨_, _, rfl, own_below hy (below1 _ _), heap_last _ _ _ rfl⟩, below1 _ _⟩
        | i + 10, h => omega
      intro o1 o2 o3 a W4 h1 h2 h3 hb hfr hall
      obtain ⟨gb, y, hvb, hoy, hgb⟩ : SliE elF w.heap.size 45 x (a.eval (.tmp 35)) W4 := hall 9 (by omega)
      have hvr : a.eval (.tmp 27) = vr := hall 1 (by omega)
      have hds : a.tmps.size = 70 := hfr.s
      have RG4 := Lib.hid (blk_below RG3.out hb (blk_lt RG3.out))
      have OW4 := Lib.hid (own_below OW3.out hb)
      have MW4 := Lib.hid (Nat.le_trans MW.out hb.size)
      have KY4 := Lib.hid (KL.own hoy)
      have PX4 := Lib.hid (fun z hz => (show KL w.heap.size w.heap.size W4 z.1 (elF.il z.2) ∧ elF.ok z.2 from ⟨(PX3.out z hz).1.below hb, (PX3.out z hz).2⟩))
      have KE4 := Lib.hid (KE3.out.below hb)
      have RZ4 := Lib.hid (blk_below RZ3.out hb (blk_lt RZ3.out))
      have RP4 := Lib.hid (blk_below RP3.out hb (blk_lt RP3.out))
      have B4 := Lib.hid (B3.out.trans (hb.mono B3.out.size))
      obtain rfl := Option.some.inj h1
      obtain rfl := Option.some.inj h2
      obtain rfl := Option.some.inj h3
      refine Gr.of_step (ops := #[]) (E := False) rfl (step_append_lies _ rfl (.tmp 27) (.tmp 35) 30 rfl w.heap.size 45 iF _ 2 32 Try.underlying30 hiF hzF hsF hbF rfl (by decide) vr ps.length (flat elF ps) hvr OW4.out ⟨gb, 0, none⟩ 1 1 (elF.cs y x) hvb (elF.len y x) (fun j u hj => by rw [add_plain0]; exact (row_cell (cs := elF.cs y x) hgb j).trans hj) (fun u hu => by obtain ⟨A1, c1, hya, _, _⟩ := own_at hoy; subst hya; simp [elF, fcs] at hu; rcases hu with rfl | rfl <;> rfl) (by decide) (by unfold maxLen; have := PN.out; omega) (by have := PN.out; omega) MW4.out W4.heap.size rfl ?_)
      intro gg cap W5 own5 grow5 lies5 lt5
      have RG5 := Lib.hid (blk_grown OW4.out grow5 RG4.out (by decide))
      have RZ5 := Lib.hid (blk_grown OW4.out grow5 RZ4.out (by decide))
      have RP5 := Lib.hid (blk_grown OW4.out grow5 RP4.out (by decide))
      have KE5 := Lib.hid (KE4.out.grown OW4.out (Nat.le_refl _) (by decide) grow5)
      have RO5 := Lib.hid (RowOwn.snoc PS.out PX4.out KY4.out trivial OW4.out (by decide) own5 grow5)
      have B5 := Lib.hid (B4.out.grown grow5 MW4.out (fun q hq => (OW4.out.lt q hq).1))
      obtain ⟨z0, z1, z2, z3, z4, z5, u0, u1, u2, u3, u4, u5⟩ := row6 RG5.out
      have t3 : a.tmps[3]?.getD undef = .pointer (some ⟨g, 0, none⟩) := Gr.slot (hfr.f 3 (by intro j hj; omega))
      refine Gr.val (a := a.put (some 36) (.slice (some ⟨gg, 0, none⟩) (ps.length + 1) cap)) (v := .pointer (some ⟨g, 3, none⟩)) (w' := W5) (by simp [go_sem, Act.put, t3]) ?_
      refine Gr.skip (a := (a.put (some 36) (.slice (some ⟨gg, 0, none⟩) (ps.length + 1) cap)).put (some 37) (.pointer (some ⟨g, 3, none⟩))) (w' := W5.setCell ⟨g, 3, none⟩ (.slice (some ⟨gg, 0, none⟩) (ps.length + 1) cap)) (by simp [go_sem, Act.put, hds, z3, u3]) rfl ?_
      have RG6 := Lib.hid (blk_set (cs := [_, _, _, _, _, _]) RG5.out 3 (.slice (some ⟨gg, 0, none⟩) (ps.length + 1) cap))
      have RO6 := Lib.hid (RO5.out.set (i := 3) (.slice (some ⟨gg, 0, none⟩) (ps.length + 1) cap) RG5.out hg3 (by decide) (by decide))
      have KE6 := Lib.hid (KE5.out.set (i := 3) (.slice (some ⟨gg, 0, none⟩) (ps.length + 1) cap) RG5.out hg3 (by decide))
      have RZ6 := Lib.hid (blk_other (i := 3) RZ5.out hgn.1.symm (.slice (some ⟨gg, 0, none⟩) (ps.length + 1) cap))
      have RP6 := Lib.hid (blk_other (i := 3) RP5.out hgn.2.symm (.slice (some ⟨gg, 0, none⟩) (ps.length + 1) cap))
      have B6 := Lib.hid (B5.out.setCell (p := ⟨g, 3, none⟩) hg3 (.slice (some ⟨gg, 0, none⟩) (ps.length + 1) cap))
      generalize W5.setCell ⟨g, 3, none⟩ (.slice (some ⟨gg, 0, none⟩) (ps.length + 1) cap) = W6 at *
      have ev := fun (s : Nat) (h1 : s ≠ 36) (h2 : s ≠ 37) (h3 : ∀ j, j < 10 → j + 26 ≠ s) => (show ((a.put (some 36) (.slice (some ⟨gg, 0, none⟩) (ps.length + 1) cap)).put (some 37) (.pointer (some ⟨g, 3, none⟩))).eval (.tmp s) = a.eval (.tmp s) from by
        rw [Gr.eval_put _ (by simp [Act.put, hds]), if_neg (Ne.symm h2), Gr.eval_put _ (by rw [hds]; decide), if_neg (Ne.symm h1)]).trans (hfr.f s h3)
      have hd3 : ((a.put (some 36) (.slice (some ⟨gg, 0, none⟩) (ps.length + 1) cap)).put (some 37) (.pointer (some ⟨g, 3, none⟩))).defers = [] := hfr.d
      have hs3 : ((a.put (some 36) (.slice (some ⟨gg, 0, none⟩) (ps.length + 1) cap)).put (some 37) (.pointer (some ⟨g, 3, none⟩))).tmps.size = 70 := by simp [Act.put, hds]
      have v0 := ev 0 (by decide) (by decide) (by intro j hj; omega)
      have v1 := ev 1 (by decide) (by decide) (by intro j hj; omega)
      have v2 := ev 2 (by decide) (by decide) (by intro j hj; omega)
      have v3 := ev 3 (by decide) (by decide) (by intro j hj; omega)
      have v4 := ev 4 (by decide) (by decide) (by intro j hj; omega)
      have v6 := ev 6 (by decide) (by decide) (by intro j hj; omega)
      have v7 := ev 7 (by decide) (by decide) (by intro j hj; omega)
      have v8 := ev 8 (by decide) (by decide) (by intro j hj; omega)
      have v9 := ev 9 (by decide) (by decide) (by intro j hj; omega)
      have v10 := ev 10 (by decide) (by decide) (by intro j hj; omega)
      have v11 := ev 11 (by decide) (by decide) (by intro j hj; omega)
      have v12 := ev 12 (by decide) (by decide) (by intro j hj; omega)
      have v13 := ev 13 (by decide) (by decide) (by intro j hj; omega)
      have v14 := ev 14 (by decide) (by decide) (by intro j hj; omega)
      have v15 := ev 15 (by decide) (by decide) (by intro j hj; omega)
      have v16 := ev 16 (by decide) (by decide) (by intro j hj; omega)
      have v17 := ev 17 (by decide) (by decide) (by intro j hj; omega)
      have v18 := ev 18 (by decide) (by decide) (by intro j hj; omega)
      have v19 := ev 19 (by decide) (by decide) (by intro j hj; omega)
      have v20 := ev 20 (by decide) (by decide) (by intro j hj; omega)
      have v21 := ev 21 (by decide) (by decide) (by intro j hj; omega)
      have v39 := ev 39 (by decide) (by decide) (by intro j hj; omega)
      have v40 := ev 40 (by decide) (by decide) (by intro j hj; omega)
      have v41 := ev 41 (by decide) (by decide) (by intro j hj; omega)
      have v42 := ev 42 (by decide) (by decide) (by intro j hj; omega)
      have v43 := ev 43 (by decide) (by decide) (by intro j hj; omega)
      have v44 := ev 44 (by decide) (by decide) (by intro j hj; omega)
      have v45 := ev 45 (by decide) (by decide) (by intro j hj; omega)
      have v46 := ev 46 (by decide) (by decide) (by intro j hj; omega)
      have v47 := ev 47 (by decide) (by decide) (by intro j hj; omega)
      have v48 := ev 48 (by decide) (by decide) (by intro j hj; omega)
      have v49 := ev 49 (by decide) (by decide) (by intro j hj; omega)
      have v50 := ev 50 (by decide) (by decide) (by intro j hj; omega)
      have v51 := ev 51 (by decide) (by decide) (by intro j hj; omega)
      have v52 := ev 52 (by decide) (by decide) (by intro j hj; omega)
      have v53 := ev 53 (by decide) (by decide) (by intro j hj; omega)
      have v54 := ev 54 (by decide) (by decide) (by intro j hj; omega)
      have v55 := ev 55 (by decide) (by decide) (by intro j hj; omega)
      have v56 := ev 56 (by decide) (by decide) (by intro j hj; omega)
      have v57 := ev 57 (by decide) (by decide) (by intro j hj; omega)
      have v58 := ev 58 (by decide) (by decide) (by intro j hj; omega)
      have v59 := ev 59 (by decide) (by decide) (by intro j hj; omega)
      have v60 := ev 60 (by decide) (by decide) (by intro j hj; omega)
      have v61 := ev 61 (by decide) (by decide) (by intro j hj; omega)
      have v62 := ev 62 (by decide) (by decide) (by intro j hj; omega)
      have v63 := ev 63 (by decide) (by decide) (by intro j hj; omega)
      have v64 := ev 64 (by decide) (by decide) (by intro j hj; omega)
      have v65 := ev 65 (by decide) (by decide) (by intro j hj; omega)
      have v66 := ev 66 (by decide) (by decide) (by intro j hj; omega)
      have v67 := ev 67 (by decide) (by decide) (by intro j hj; omega)
      have v68 := ev 68 (by decide) (by decide) (by intro j hj; omega)
      have v69 := ev 69 (by decide) (by decide) (by intro j hj; omega)
      have v22 := ev 22 (by decide) (by decide) (by intro j hj; omega)
      clear ev hds t3 hfr hall hvb hvr hoy hgb own5 grow5 lies5 lt5 z0 z1 z2 z3 z4 z5 u0 u1 u2 u3 u4 u5 hb
      generalize (a.put (some 36) (.slice (some ⟨gg, 0, none⟩) (ps.length + 1) cap)).put (some 37) (.pointer (some ⟨g, 3, none⟩)) = a3 at *
      obtain ⟨n5, hn5⟩ : ∃ u, a3.tmps[5]?.getD undef = u := ⟨_, rfl⟩
      obtain ⟨n23, hn23⟩ : ∃ u, a3.tmps[23]?.getD undef = u := ⟨_, rfl⟩
      obtain ⟨n24, hn24⟩ : ∃ u, a3.tmps[24]?.getD undef = u := ⟨_, rfl⟩
      obtain ⟨n25, hn25⟩ : ∃ u, a3.tmps[25]?.getD undef = u := ⟨_, rfl⟩
      obtain ⟨n26, hn26⟩ : ∃ u, a3.tmps[26]?.getD undef = u := ⟨_, rfl⟩
      obtain ⟨n27, hn27⟩ : ∃ u, a3.tmps[27]?.getD undef = u := ⟨_, rfl⟩
      obtain ⟨n28, hn28⟩ : ∃ u, a3.tmps[28]?.getD undef = u := ⟨_, rfl⟩
      obtain ⟨n29, hn29⟩ : ∃ u, a3.tmps[29]?.getD undef = u := ⟨_, rfl⟩
      obtain ⟨n30, hn30⟩ : ∃ u, a3.tmps[30]?.getD undef = u := ⟨_, rfl⟩
      obtain ⟨n31, hn31⟩ : ∃ u, a3.tmps[31]?.getD undef = u := ⟨_, rfl⟩
      obtain ⟨n32, hn32⟩ : ∃ u, a3.tmps[32]?.getD undef = u := ⟨_, rfl⟩
      obtain ⟨n33, hn33⟩ : ∃ u, a3.tmps[33]?.getD undef = u := ⟨_, rfl⟩
      obtain ⟨n34, hn34⟩ : ∃ u, a3.tmps[34]?.getD undef = u := ⟨_, rfl⟩
      obtain ⟨n35, hn35⟩ : ∃ u, a3.tmps[35]?.getD undef = u := ⟨_, rfl⟩
      obtain ⟨n36, hn36⟩ : ∃ u, a3.tmps[36]?.getD undef = u := ⟨_, rfl⟩
      obtain ⟨n37, hn37⟩ : ∃ u, a3.tmps[37]?.getD undef = u := ⟨_, rfl⟩
      obtain ⟨n38, hn38⟩ : ∃ u, a3.tmps[38]?.getD undef = u := ⟨_, rfl⟩
      have hA : a3 = ⟨#[pv p (some ⟨b, off, none⟩) cf Ae ce Ao co, .pointer (some ⟨w.heap.size, 0, none⟩), .pointer (some ⟨w.heap.size + 1, 0, none⟩), .pointer (some ⟨g, 0, none⟩), undef, n5, undef, undef, u8, u9, u10, u11, u12, u13, u14, u15, u16, u17, u18, .pointer (some ⟨w.heap.size, 3, none⟩), .slice (some ⟨b, off, none⟩) p.fs.length cf, .int .i64 (p.fs.length : Int), .int .i64 (i : Int), n23, n24, n25, n26, n27, n28, n29, n30, n31, n32, n33, n34, n35, n36, n37, n38, undef, undef, undef, undef, undef, undef, undef, undef, undef, undef, undef, undef, undef, undef, undef, undef, undef, undef, undef, undef, undef, undef, undef, undef, undef, undef, undef, undef, undef, undef, undef], []⟩ := Gr.act_eq (l := [pv p (some ⟨b, off, none⟩) cf Ae ce Ao co, .pointer (some ⟨w.heap.size, 0, none⟩), .pointer (some ⟨w.heap.size + 1, 0, none⟩), .pointer (some ⟨g, 0, none⟩), undef, n5, undef, undef, u8, u9, u10, u11, u12, u13, u14, u15, u16, u17, u18, .pointer (some ⟨w.heap.size, 3, none⟩), .slice (some ⟨b, off, none⟩) p.fs.length cf, .int .i64 (p.fs.length : Int), .int .i64 (i : Int), n23, n24, n25, n26, n27, n28, n29, n30, n31, n32, n33, n34, n35, n36, n37, n38, undef, undef, undef, undef, undef, undef, undef, undef, undef, undef, undef, undef, undef, undef, undef, undef, undef, undef, undef, undef, undef, undef, undef, undef, undef, undef, undef, undef, undef, undef, undef]) hd3 hs3 (by
        intro i hi
        match i, hi with
        | 0, _ => exact Gr.slot v0
        | 1, _ => exact Gr.slot v1
        | 2, _ => exact Gr.slot v2
        | 3, _ => exact Gr.slot v3
        | 4, _ => exact Gr.slot v4
        | 5, _ => exact hn5
        | 6, _ => exact Gr.slot v6
        | 7, _ => exact Gr.slot v7
        | 8, _ => exact Gr.slot v8
        | 9, _ => exact Gr.slot v9
        | 10, _ => exact Gr.slot v10
        | 11, _ => exact Gr.slot v11
        | 12, _ => exact Gr.slot v12
        | 13, _ => exact Gr.slot v13
        | 14, _ => exact Gr.slot v14
        | 15, _ => exact Gr.slot v15
        | 16, _ => exact Gr.slot v16
        | 17, _ => exact Gr.slot v17
        | 18, _ => exact Gr.slot v18
        | 19, _ => exact Gr.slot v19
        | 20, _ => exact Gr.slot v20
        | 21, _ => exact Gr.slot v21
        | 22, _ => exact Gr.slot v22
        | 23, _ => exact hn23
        | 24, _ => exact hn24
        | 25, _ => exact hn25
        | 26, _ => exact hn26
        | 27, _ => exact hn27
        | 28, _ => exact hn28
        | 29, _ => exact hn29
        | 30, _ => exact hn30
        | 31, _ => exact hn31
        | 32, _ => exact hn32
        | 33, _ => exact hn33
        | 34, _ => exact hn34
        | 35, _ => exact hn35
        | 36, _ => exact hn36
        | 37, _ => exact hn37
        | 38, _ => exact hn38
        | 39, _ => exact Gr.slot v39
        | 40, _ => exact Gr.slot v40
        | 41, _ => exact Gr.slot v41
        | 42, _ => exact Gr.slot v42
        | 43, _ => exact Gr.slot v43
        | 44, _ => exact Gr.slot v44
        | 45, _ => exact Gr.slot v45
        | 46, _ => exact Gr.slot v46
        | 47, _ => exact Gr.slot v47
        | 48, _ => exact Gr.slot v48
        | 49, _ => exact Gr.slot v49
        | 50, _ => exact Gr.slot v50
        | 51, _ => exact Gr.slot v51
        | 52, _ => exact Gr.slot v52
        | 53, _ => exact Gr.slot v53
        | 54, _ => exact Gr.slot v54
        | 55, _ => exact Gr.slot v55
        | 56, _ => exact Gr.slot v56
        | 57, _ => exact Gr.slot v57
        | 58, _ => exact Gr.slot v58
        | 59, _ => exact Gr.slot v59
        | 60, _ => exact Gr.slot v60
        | 61, _ => exact Gr.slot v61
        | 62, _ => exact Gr.slot v62
        | 63, _ => exact Gr.slot v63
        | 64, _ => exact Gr.slot v64
        | 65, _ => exact Gr.slot v65
        | 66, _ => exact Gr.slot v66
        | 67, _ => exact Gr.slot v67
        | 68, _ => exact Gr.slot v68
        | 69, _ => exact Gr.slot v69
        | i + 70, h => simp only [List.length_cons, List.length_nil] at h; omega)
      clear hn5 hn23 hn24 hn25 hn26 hn27 hn28 hn29 hn30 hn31 hn32 hn33 hn34 hn35 hn36 hn37 hn38
      subst hA
      have HI1 : Hid (i + 1 ≤ p.fs.length) := hin
      have hb0 : i + 1 ≤ 2000000 := by have := SF.out; omega
      go_wp2
      go_roundw
      case rel => exact ⟨i + 1, _, by go_num, HI1.out, RG6.out, by rw [TK.out]; exact RO6.out, KE6.out, RZ6.out, RP6.out, B6.out⟩
      case measure => simp [intOf]; omega
    · obtain rfl : i = p.fs.length := by omega
      rw [List.take_length] at RO2
      obtain ⟨Bf, df, hvr, _, _, _, _⟩ := RO2.out.at (Nat.le_refl _)
      subst hvr
      have RF := RO2
      have RG := RG2
      have KE := KE2
      have RZ := RZ2
      have RP := RP2
      have B1 := B2
      clear RO2 RG2 KE2 RZ2 RP2 B2 rp0 rp1 rp2 rp3 rp4 rp5
      obtain ⟨rp0, rp1, rp2, rp3, rp4, rp5⟩ := cells6 RP.out
      go_wp2
      go_loopw [42] (fun t wr => ∃ (i : Nat) (vr : Value), t = .int .i64 (i : Int) ∧ i ≤ p.ops.length ∧ wr.heap[g]? = some (.cells #[.int .i64 p.vars, .int .i64 p.objs, .int .i64 p.fields, .slice Bf p.fs.length df, .slice Be p.en.length de, vr] 33) ∧ RowOwn elO w.heap.size w.heap.size 42 wr vr (p.ops.take i) ∧ KL w.heap.size w.heap.size wr (.slice Be p.en.length de) p.en ∧ wr.heap[w.heap.size + 1]? = some (.cells #[.int .i64 0, .int .i64 0, .int .i64 0, .slice none 0 0, .slice none 0 0, .slice none 0 0] 33) ∧ wr.heap[w.heap.size]? = some (.cells #[.int .i64 p.vars, .int .i64 p.objs, .int .i64 p.fields, .slice Af p.fs.length cf, .slice Ae p.en.length ce, .slice Ao p.ops.length co] 26) ∧ Below w.heap.size w wr ∧ RowOwn elF w.heap.size w.heap.size 45 wr (.slice Bf p.fs.length df) p.fs) (fun t _ => p.ops.length - (intOf t).toNat)
      case atStart => exact ⟨0, _, rfl, Nat.zero_le _, RG.out, by rw [List.take_zero]; exact RowOwn.nil _ _ _ _, KE.out, RZ.out, RP.out, B1.out, RF.out⟩
      case round =>
        obtain ⟨i, vr, rfl, hil, hg, hro, hke, hz, hp, hb, hrf⟩ := hrel
        have RG2 := Lib.hid hg
        have RO2 := Lib.hid hro
        have KE2 := Lib.hid hke
        have RZ2 := Lib.hid hz
        have RP2 := Lib.hid hp
        have B2 := Lib.hid hb
        have RF2 := Lib.hid hrf
        clear hg hro hke hz hp hb hrf RG KE RZ RP B1 RF
        by_cases hin : i < p.ops.length
        · have hI : (i : Int) < (p.ops.length : Int) := by omega
          obtain ⟨b, off, hA, _, hbl, hc⟩ := HO.out (by omega)
          obtain ⟨v, c0, c1, c2, c3, c4, c5, c6, il, hh⟩ := hc i hin
          have c0 := (B2.out.cell (p := ⟨b, off + i * 7, none⟩) hbl).trans c0
          have c1 := (B2.out.cell (p := ⟨b, off + i * 7 + 1, none⟩) hbl).trans c1
          have c2 := (B2.out.cell (p := ⟨b, off + i * 7 + 2, none⟩) hbl).trans c2
          have c3 := (B2.out.cell (p := ⟨b, off + i * 7 + 3, none⟩) hbl).trans c3
          have c4 := (B2.out.cell (p := ⟨b, off + i * 7 + 4, none⟩) hbl).trans c4
          have c5 := (B2.out.cell (p := ⟨b, off + i * 7 + 5, none⟩) hbl).trans c5
          have c6 := (B2.out.cell (p := ⟨b, off + i * 7 + 6, none⟩) hbl).trans c6
          have TK := Lib.hid (show p.ops.take (i + 1) = p.ops.take i ++ [p.ops[i]] by rw [List.take_add_one, List.getElem?_eq_getElem hin]; rfl)
          have XL := Lib.hid (SA.out _ (List.getElem_mem hin))
          have HH := Lib.hid hh
          generalize p.ops[i] = x at *
          obtain ⟨A, c, rfl, hAt, hAn, _⟩ := il
          have AT := Lib.hid (hAt.below B2.out)
          have AN := Lib.hid hAn
          obtain ⟨ps, hps, hown, hpx⟩ := RO2.out
          have PS := Lib.hid hps
          have PX := Lib.hid hpx
          have OW := Lib.hid hown
          have hpl : ps.length = i := by rw [← List.length_map (f := Prod.snd), hps, List.length_take]; omega
          have PL := Lib.hid hpl
          subst hA
          have bX := below1 wr (.cells #[.int .i64 x.kind, .int .i64 x.fn, .int .i64 x.a, .int .i64 x.b, .int .i64 x.c, .slice A x.args.length c, .float .f64 x.heat] 64)
          have BX := Lib.hid bX
          have RX := Lib.hid (heap_last wr (.cells #[.int .i64 x.kind, .int .i64 x.fn, .int .i64 x.a, .int .i64 x.b, .int .i64 x.c, .slice A x.args.length c, .float .f64 x.heat] 64) wr.heap.size rfl)
          have SZ : wr.heap.size < (wr.alloc (.cells #[.int .i64 x.kind, .int .i64 x.fn, .int .i64 x.a, .int .i64 x.b, .int .i64 x.c, .slice A x.args.length c, .float .f64 x.heat] 64)).heap.size := by simp
          clear hc hAt hAn hps hpx hown hpl bX hh
          go_upto_region 10 with fail
          have RG3 := Lib.hid (blk_below RG2.out BX.out (blk_lt RG2.out))
          generalize hW3 : wr.alloc (.cells #[.int .i64 x.kind, .int .i64 x.fn, .int .i64 x.a, .int .i64 x.b, .int .i64 x.c, .slice A x.args.length c, .float .f64 x.heat] 64) = W3 at *
          have AT3 := Lib.hid (AT.out.below BX.out)
          have kb3 := Lib.hid (fun o => ((bdrew W3).alloc (Nat.le_refl _) o : Below W3.heap.size W3 (W3.drew.alloc o)))
          have B3 := Lib.hid (B2.out.trans (BX.out.mono B2.out.size))
          have OW3 := Lib.hid (own_below OW.out BX.out)
          have PX3 := Lib.hid (fun y hy => (show KL w.heap.size w.heap.size W3 y.1 (elO.il y.2) ∧ elO.ok y.2 from ⟨(PX.out y hy).1.below BX.out, (PX.out y hy).2⟩))
          have KE3 := Lib.hid (KE2.out.below BX.out)
          have RZ3 := Lib.hid (blk_below RZ2.out BX.out (blk_lt RZ2.out))
          have RP3 := Lib.hid (blk_below RP2.out BX.out (blk_lt RP2.out))
          have RF3 := Lib.hid (RF2.out.below BX.out)
          have hgx : wr.heap.size < W3.heap.size := SZ
          generalize hGX : wr.heap.size = gx at *
          have GX := Lib.hid hGX
          clear hGX hW3 c0 c1 c2 c3 c4 c5 c6
          have ge := (cells6 RG3.out).2.2.2.2.2
          have hlen : x.args.length ≤ 10000000 := by have := XL.out; omega
          have hMW : w.heap.size ≤ W3.heap.size := Nat.le_trans B3.out.size (Nat.le_refl _)
          have MW := Lib.hid hMW
          have HLn := Lib.hid hlen
          have hPn : ps.length ≤ 2000000 := by have := PL.out; have := SO.out; omega
          have PN := Lib.hid hPn
          have hgM : w.heap.size ≤ g := hg3
          clear AT B2 OW PX KE2 RZ2 RP2 RG2 hlen hMW hPn BX SZ hgM RF2 ge
          obtain ⟨rx0, rx1, rx2, rx3, rx4, rx5, rx6⟩ := seven RX.out
          refine Gr.regionT 20 (fun i => i + 46) (by kernel_rfl) (by kernel_rfl) (Gr.spφ [.val (.pointer (some ⟨g, 5, none⟩)), .val (vr), .val (.pointer (some ⟨gx, 0, none⟩)), .val (.int .i64 x.kind), .val (.pointer (some ⟨gx, 1, none⟩)), .val (.int .i64 x.fn), .val (.pointer (some ⟨gx, 2, none⟩)), .val (.int .i64 x.a), .val (.pointer (some ⟨gx, 3, none⟩)), .val (.int .i64 x.b), .val (.pointer (some ⟨gx, 4, none⟩)), .val (.int .i64 x.c), .cls (LitM w.heap.size) (litm_grow), .val (.pointer (some ⟨gx, 5, none⟩)), .val (.slice A x.args.length c), .cls (OwnV w.heap.size x.args) (ownv_grow), .val (.pointer (some ⟨gx, 6, none⟩)), .val (.float .f64 x.heat), .cls (BldE elO w.heap.size x) (blde_grow), .cls (SliE elO w.heap.size 42 x) (slie_grow)]) (Gr.spφ_grow _) ?_ ?_
          · intro i o a W4 hi ho hb hfr hpre
            have t3 : a.tmps[3]?.getD undef = .pointer (some ⟨g, 0, none⟩) := Gr.slot (hfr.f 3 (by intro j hj; omega))
            have t7 : a.tmps[7]?.getD undef = .pointer (some ⟨gx, 0, none⟩) := Gr.slot (hfr.f 7 (by intro j hj; omega))
            have ge := (cells6 (blk_below RG3.out hb (blk_lt RG3.out))).2.2.2.2.2
            obtain ⟨rx0, rx1, rx2, rx3, rx4, rx5, rx6⟩ := seven (blk_below RX.out hb (blk_lt RX.out))
            match i, hi with
            | 0, _ =>
              obtain rfl := Option.some.inj ho
              refine Gr.val (v := .pointer (some ⟨g, 5, none⟩)) (w' := W4) (by simp [go_sem, t3]) ⟨_, rfl, rfl, Below.refl _ _⟩
            | 1, _ =>
              have p46 : a.tmps[46]?.getD undef = .pointer (some ⟨g, 5, none⟩) := Gr.slot (hpre { on := 0, ground := .data } (by obtain rfl := Option.some.inj ho; simp) rfl (by decide))
              obtain rfl := Option.some.inj ho
              refine Gr.val (v := vr) (w' := W4) (by simp [go_sem, p46, ge]) ⟨_, rfl, rfl, Below.refl _ _⟩
            | 2, _ =>
              obtain rfl := Option.some.inj ho
              refine Gr.val (v := .pointer (some ⟨gx, 0, none⟩)) (w' := W4) (by simp [go_sem, t7]) ⟨_, rfl, rfl, Below.refl _ _⟩
            | 3, _ =>
              have p48 : a.tmps[48]?.getD undef = .pointer (some ⟨gx, 0, none⟩) := Gr.slot (hpre { on := 2, ground := .data } (by obtain rfl := Option.some.inj ho; simp) rfl (by decide))
              obtain rfl := Option.some.inj ho
              refine Gr.val (v := .int .i64 x.kind) (w' := W4) (by simp [go_sem, p48, rx0]) ⟨_, rfl, rfl, Below.refl _ _⟩
            | 4, _ =>
              obtain rfl := Option.some.inj ho
              refine Gr.val (v := .pointer (some ⟨gx, 1, none⟩)) (w' := W4) (by simp [go_sem, t7]) ⟨_, rfl, rfl, Below.refl _ _⟩
            | 5, _ =>
              have p50 : a.tmps[50]?.getD undef = .pointer (some ⟨gx, 1, none⟩) := Gr.slot (hpre { on := 4, ground := .data } (by obtain rfl := Option.some.inj ho; simp) rfl (by decide))
              obtain rfl := Option.some.inj ho
              refine Gr.val (v := .int .i64 x.fn) (w' := W4) (by simp [go_sem, p50, rx1]) ⟨_, rfl, rfl, Below.refl _ _⟩
            | 6, _ =>
              obtain rfl := Option.some.inj ho
              refine Gr.val (v := .pointer (some ⟨gx, 2, none⟩)) (w' := W4) (by simp [go_sem, t7]) ⟨_, rfl, rfl, Below.refl _ _⟩
            | 7, _ =>
              have p52 : a.tmps[52]?.getD undef = .pointer (some ⟨gx, 2, none⟩) := Gr.slot (hpre { on := 6, ground := .data } (by obtain rfl := Option.some.inj ho; simp) rfl (by decide))
              obtain rfl := Option.some.inj ho
              refine Gr.val (v := .int .i64 x.a) (w' := W4) (by simp [go_sem, p52, rx2]) ⟨_, rfl, rfl, Below.refl _ _⟩
            | 8, _ =>
              obtain rfl := Option.some.inj ho
              refine Gr.val (v := .pointer (some ⟨gx, 3, none⟩)) (w' := W4) (by simp [go_sem, t7]) ⟨_, rfl, rfl, Below.refl _ _⟩
            | 9, _ =>
              have p54 : a.tmps[54]?.getD undef = .pointer (some ⟨gx, 3, none⟩) := Gr.slot (hpre { on := 8, ground := .data } (by obtain rfl := Option.some.inj ho; simp) rfl (by decide))
              obtain rfl := Option.some.inj ho
              refine Gr.val (v := .int .i64 x.b) (w' := W4) (by simp [go_sem, p54, rx3]) ⟨_, rfl, rfl, Below.refl _ _⟩
            | 10, _ =>
              obtain rfl := Option.some.inj ho
              refine Gr.val (v := .pointer (some ⟨gx, 4, none⟩)) (w' := W4) (by simp [go_sem, t7]) ⟨_, rfl, rfl, Below.refl _ _⟩
            | 11, _ =>
              have p56 : a.tmps[56]?.getD undef = .pointer (some ⟨gx, 4, none⟩) := Gr.slot (hpre { on := 10, ground := .data } (by obtain rfl := Option.some.inj ho; simp) rfl (by decide))
              obtain rfl := Option.some.inj ho
              refine Gr.val (v := .int .i64 x.c) (w' := W4) (by simp [go_sem, p56, rx4]) ⟨_, rfl, rfl, Below.refl _ _⟩
            | 12, _ =>
              obtain rfl := Option.some.inj ho
              refine Gr.val (v := .slice (some ⟨W4.heap.size, 0, none⟩) 0 0) (w' := W4.alloc (.cells #[] 3)) (by simp [go_sem]) ⟨_, rfl, ⟨_, rfl, own_lit0 _ _ _ _ rfl (Nat.le_trans MW.out hb.size)⟩, below1 _ _⟩
            | 13, _ =>
              obtain rfl := Option.some.inj ho
              refine Gr.val (v := .pointer (some ⟨gx, 5, none⟩)) (w' := W4) (by simp [go_sem, t7]) ⟨_, rfl, rfl, Below.refl _ _⟩
            | 14, _ =>
              have p59 : a.tmps[59]?.getD undef = .pointer (some ⟨gx, 5, none⟩) := Gr.slot (hpre { on := 13, ground := .data } (by obtain rfl := Option.some.inj ho; simp) rfl (by decide))
              obtain rfl := Option.some.inj ho
              refine Gr.val (v := .slice A x.args.length c) (w' := W4) (by simp [go_sem, p59, rx5]) ⟨_, rfl, rfl, Below.refl _ _⟩
            | 15, _ =>
              have q58 : (LitM w.heap.size) (a.eval (.tmp 58)) W4 := hpre { on := 12, ground := .data } (by obtain rfl := Option.some.inj ho; simp) rfl (by decide)
              have p60 : a.tmps[60]?.getD undef = .slice A x.args.length c := Gr.slot (hpre { on := 14, ground := .data } (by obtain rfl := Option.some.inj ho; simp) rfl (by decide))
              obtain ⟨gl, hv, hown⟩ := q58
              have p1 : a.eval (.tmp 60) = .slice A x.args.length c := (hpre { on := 14, ground := .data } (by obtain rfl := Option.some.inj ho; simp) rfl (by decide))
              rw [hv] at hown
              obtain rfl := Option.some.inj ho
              refine Gr.of_step (ops := #[]) (E := False) rfl (step_lit_at (V := vInt) rfl (.tmp 58) (.tmp 60) 23 3 rfl w.heap.size i8 _ 8 Try.underlying23 hi8 hz8 hs8 hb8 rfl (by decide) gl x.args (fun _ => rfl) hv hown A c p1 (AT3.out.below hb) AN.out HLn.out (Nat.le_trans MW.out hb.size) ?_)
              intro v' w' h1 h2
              exact ⟨v', rfl, h1, h2⟩
            | 16, _ =>
              obtain rfl := Option.some.inj ho
              refine Gr.val (v := .pointer (some ⟨gx, 6, none⟩)) (w' := W4) (by simp [go_sem, t7]) ⟨_, rfl, rfl, Below.refl _ _⟩
            | 17, _ =>
              have p62 : a.tmps[62]?.getD undef = .pointer (some ⟨gx, 6, none⟩) := Gr.slot (hpre { on := 16, ground := .data } (by obtain rfl := Option.some.inj ho; simp) rfl (by decide))
              obtain rfl := Option.some.inj ho
              refine Gr.val (v := .float .f64 x.heat) (w' := W4) (by simp [go_sem, p62, rx6]) ⟨_, rfl, rfl, Below.refl _ _⟩
            | 18, _ =>
              have p49 : a.tmps[49]?.getD undef = .int .i64 x.kind := Gr.slot (hpre { on := 3, ground := .data } (by obtain rfl := Option.some.inj ho; simp) rfl (by decide))
              have p51 : a.tmps[51]?.getD undef = .int .i64 x.fn := Gr.slot (hpre { on := 5, ground := .data } (by obtain rfl := Option.some.inj ho; simp) rfl (by decide))
              have p53 : a.tmps[53]?.getD undef = .int .i64 x.a := Gr.slot (hpre { on := 7, ground := .data } (by obtain rfl := Option.some.inj ho; simp) rfl (by decide))
              have p55 : a.tmps[55]?.getD undef = .int .i64 x.b := Gr.slot (hpre { on := 9, ground := .data } (by obtain rfl := Option.some.inj ho; simp) rfl (by decide))
              have p57 : a.tmps[57]?.getD undef = .int .i64 x.c := Gr.slot (hpre { on := 11, ground := .data } (by obtain rfl := Option.some.inj ho; simp) rfl (by decide))
              have q61 : (OwnV w.heap.size x.args) (a.eval (.tmp 61)) W4 := hpre { on := 15, ground := .data } (by obtain rfl := Option.some.inj ho; simp) rfl (by decide)
              have p63 : a.tmps[63]?.getD undef = .float .f64 x.heat := Gr.slot (hpre { on := 17, ground := .data } (by obtain rfl := Option.some.inj ho; simp) rfl (by decide))
              obtain ⟨A1, c1, hv, _, _⟩ := own_at q61
              have pq := Gr.slot hv
              have q' := q61
              rw [hv] at q'
              obtain rfl := Option.some.inj ho
              refine Gr.val (v := .agg #[.int .i64 x.kind, .int .i64 x.fn, .int .i64 x.a, .int .i64 x.b, .int .i64 x.c, .slice A1 x.args.length c1, .float .f64 x.heat]) (w' := W4) (by simp [go_sem, p49, p51, p53, p55, p57, p63, pq]) ⟨_, rfl, ⟨_, rfl, q'⟩, Below.refl _ _⟩
            | 19, _ =>
              have q64 : (BldE elO w.heap.size x) (a.eval (.tmp 64)) W4 := hpre { on := 18, ground := .data } (by obtain rfl := Option.some.inj ho; simp) rfl (by decide)
              obtain ⟨y, hv, hy⟩ := q64
              have pq := Gr.slot hv
              obtain ⟨A1, c1, hya, _, _⟩ := own_at hy
              subst hya
              obtain rfl := Option.some.inj ho
              refine Gr.val (v := .slice (some ⟨W4.heap.size, 0, none⟩) 1 1) (w' := W4.alloc (.cells #[.int .i64 x.kind, .int .i64 x.fn, .int .i64 x.a, .int .i64 x.b, .int .i64 x.c, .slice A1 x.args.length c1, .float .f64 x.heat] 42)) (by simp [go_sem, pq, elO, ocs]) ⟨_, rfl, ⟨_, _, rfl, own_below hy (below1 _ _), heap_last _ _ _ rfl⟩, below1 _ _⟩
            | i + 20, h => omega
          intro o1 o2 o3 a W4 h1 h2 h3 hb hfr hall
          obtain ⟨gb, y, hvb, hoy, hgb⟩ : SliE elO w.heap.size 42 x (a.eval (.tmp 65)) W4 := hall 19 (by omega)
          have hvr : a.eval (.tmp 47) = vr := hall 1 (by omega)
          have hds : a.tmps.size = 70 := hfr.s
          have RG4 := Lib.hid (blk_below RG3.out hb (blk_lt RG3.out))
          have OW4 := Lib.hid (own_below OW3.out hb)
          have MW4 := Lib.hid (Nat.le_trans MW.out hb.size)
          have KY4 := Lib.hid (KL.own hoy)
          have PX4 := Lib.hid (fun z hz => (show KL w.heap.size w.heap.size W4 z.1 (elO.il z.2) ∧ elO.ok z.2 from ⟨(PX3.out z hz).1.below hb, (PX3.out z hz).2⟩))
          have KE4 := Lib.hid (KE3.out.below hb)
          have RZ4 := Lib.hid (blk_below RZ3.out hb (blk_lt RZ3.out))
          have RP4 := Lib.hid (blk_below RP3.out hb (blk_lt RP3.out))
          have B4 := Lib.hid (B3.out.trans (hb.mono B3.out.size))
          have RF4 := Lib.hid (RF3.out.below hb)
          obtain rfl := Option.some.inj h1
          obtain rfl := Option.some.inj h2
          obtain rfl := Option.some.inj h3
          refine Gr.of_step (ops := #[]) (E := False) rfl (step_append_lies _ rfl (.tmp 47) (.tmp 65) 31 rfl w.heap.size 42 iO _ 7 72 Try.underlying31 hiO hzO hsO hbO rfl (by decide) vr ps.length (flat elO ps) hvr OW4.out ⟨gb, 0, none⟩ 1 1 (elO.cs y x) hvb (elO.len y x) (fun j u hj => by rw [add_plain0]; exact (row_cell (cs := elO.cs y x) hgb j).trans hj) (fun u hu => by obtain ⟨A1, c1, hya, _, _⟩ := own_at hoy; subst hya; simp [elO, ocs] at hu; rcases hu with rfl | rfl | rfl | rfl | rfl | rfl | rfl <;> rfl) (by decide) (by unfold maxLen; have := PN.out; omega) (by have := PN.out; omega) MW4.out W4.heap.size rfl ?_)
          intro gg cap W5 own5 grow5 lies5 lt5
          have RG5 := Lib.hid (blk_grown OW4.out grow5 RG4.out (by decide))
          have RZ5 := Lib.hid (blk_grown OW4.out grow5 RZ4.out (by decide))
          have RP5 := Lib.hid (blk_grown OW4.out grow5 RP4.out (by decide))
          have KE5 := Lib.hid (KE4.out.grown OW4.out (Nat.le_refl _) (by decide) grow5)
          have RO5 := Lib.hid (RowOwn.snoc PS.out PX4.out KY4.out HH.out OW4.out (by decide) own5 grow5)
          have B5 := Lib.hid (B4.out.grown grow5 MW4.out (fun q hq => (OW4.out.lt q hq).1))
          have RF5 := Lib.hid (RF4.out.grown OW4.out (Nat.le_refl _) (by decide) (by decide) grow5)
          obtain ⟨z0, z1, z2, z3, z4, z5, u0, u1, u2, u3, u4, u5⟩ := row6 RG5.out
          have t3 : a.tmps[3]?.getD undef = .pointer (some ⟨g, 0, none⟩) := Gr.slot (hfr.f 3 (by intro j hj; omega))
          refine Gr.val (a := a.put (some 66) (.slice (some ⟨gg, 0, none⟩) (ps.length + 1) cap)) (v := .pointer (some ⟨g, 5, none⟩)) (w' := W5) (by simp [go_sem, Act.put, t3]) ?_
          refine Gr.skip (a := (a.put (some 66) (.slice (some ⟨gg, 0, none⟩) (ps.length + 1) cap)).put (some 67) (.pointer (some ⟨g, 5, none⟩))) (w' := W5.setCell ⟨g, 5, none⟩ (.slice (some ⟨gg, 0, none⟩) (ps.length + 1) cap)) (by simp [go_sem, Act.put, hds, z5, u5]) rfl ?_
          have RG6 := Lib.hid (blk_set (cs := [_, _, _, _, _, _]) RG5.out 5 (.slice (some ⟨gg, 0, none⟩) (ps.length + 1) cap))
          have RO6 := Lib.hid (RO5.out.set (i := 5) (.slice (some ⟨gg, 0, none⟩) (ps.length + 1) cap) RG5.out hg3 (by decide) (by decide))
          have KE6 := Lib.hid (KE5.out.set (i := 5) (.slice (some ⟨gg, 0, none⟩) (ps.length + 1) cap) RG5.out hg3 (by decide))
          have RZ6 := Lib.hid (blk_other (i := 5) RZ5.out hgn.1.symm (.slice (some ⟨gg, 0, none⟩) (ps.length + 1) cap))
          have RP6 := Lib.hid (blk_other (i := 5) RP5.out hgn.2.symm (.slice (some ⟨gg, 0, none⟩) (ps.length + 1) cap))
          have B6 := Lib.hid (B5.out.setCell (p := ⟨g, 5, none⟩) hg3 (.slice (some ⟨gg, 0, none⟩) (ps.length + 1) cap))
          have RF6 := Lib.hid (RF5.out.set (i := 5) (.slice (some ⟨gg, 0, none⟩) (ps.length + 1) cap) RG5.out hg3 (by decide) (by decide))
          generalize W5.setCell ⟨g, 5, none⟩ (.slice (some ⟨gg, 0, none⟩) (ps.length + 1) cap) = W6 at *
          have ev := fun (s : Nat) (h1 : s ≠ 66) (h2 : s ≠ 67) (h3 : ∀ j, j < 20 → j + 46 ≠ s) => (show ((a.put (some 66) (.slice (some ⟨gg, 0, none⟩) (ps.length + 1) cap)).put (some 67) (.pointer (some ⟨g, 5, none⟩))).eval (.tmp s) = a.eval (.tmp s) from by
            rw [Gr.eval_put _ (by simp [Act.put, hds]), if_neg (Ne.symm h2), Gr.eval_put _ (by rw [hds]; decide), if_neg (Ne.symm h1)]).trans (hfr.f s h3)
          have hd3 : ((a.put (some 66) (.slice (some ⟨gg, 0, none⟩) (ps.length + 1) cap)).put (some 67) (.pointer (some ⟨g, 5, none⟩))).defers = [] := hfr.d
          have hs3 : ((a.put (some 66) (.slice (some ⟨gg, 0, none⟩) (ps.length + 1) cap)).put (some 67) (.pointer (some ⟨g, 5, none⟩))).tmps.size = 70 := by simp [Act.put, hds]
          have v0 := ev 0 (by decide) (by decide) (by intro j hj; omega)
          have v1 := ev 1 (by decide) (by decide) (by intro j hj; omega)
          have v2 := ev 2 (by decide) (by decide) (by intro j hj; omega)
          have v3 := ev 3 (by decide) (by decide) (by intro j hj; omega)
          have v4 := ev 4 (by decide) (by decide) (by intro j hj; omega)
          have v5 := ev 5 (by decide) (by decide) (by intro j hj; omega)
          have v6 := ev 6 (by decide) (by decide) (by intro j hj; omega)
          have v8 := ev 8 (by decide) (by decide) (by intro j hj; omega)
          have v9 := ev 9 (by decide) (by decide) (by intro j hj; omega)
          have v10 := ev 10 (by decide) (by decide) (by intro j hj; omega)
          have v11 := ev 11 (by decide) (by decide) (by intro j hj; omega)
          have v12 := ev 12 (by decide) (by decide) (by intro j hj; omega)
          have v13 := ev 13 (by decide) (by decide) (by intro j hj; omega)
          have v14 := ev 14 (by decide) (by decide) (by intro j hj; omega)
          have v15 := ev 15 (by decide) (by decide) (by intro j hj; omega)
          have v16 := ev 16 (by decide) (by decide) (by intro j hj; omega)
          have v17 := ev 17 (by decide) (by decide) (by intro j hj; omega)
          have v18 := ev 18 (by decide) (by decide) (by intro j hj; omega)
          have v19 := ev 19 (by decide) (by decide) (by intro j hj; omega)
          have v20 := ev 20 (by decide) (by decide) (by intro j hj; omega)
          have v21 := ev 21 (by decide) (by decide) (by intro j hj; omega)
          have v22 := ev 22 (by decide) (by decide) (by intro j hj; omega)
          have v23 := ev 23 (by decide) (by decide) (by intro j hj; omega)
          have v24 := ev 24 (by decide) (by decide) (by intro j hj; omega)
          have v25 := ev 25 (by decide) (by decide) (by intro j hj; omega)
          have v26 := ev 26 (by decide) (by decide) (by intro j hj; omega)
          have v27 := ev 27 (by decide) (by decide) (by intro j hj; omega)
          have v28 := ev 28 (by decide) (by decide) (by intro j hj; omega)
          have v29 := ev 29 (by decide) (by decide) (by intro j hj; omega)
          have v30 := ev 30 (by decide) (by decide) (by intro j hj; omega)
          have v31 := ev 31 (by decide) (by decide) (by intro j hj; omega)
          have v32 := ev 32 (by decide) (by decide) (by intro j hj; omega)
          have v33 := ev 33 (by decide) (by decide) (by intro j hj; omega)
          have v34 := ev 34 (by decide) (by decide) (by intro j hj; omega)
          have v35 := ev 35 (by decide) (by decide) (by intro j hj; omega)
          have v36 := ev 36 (by decide) (by decide) (by intro j hj; omega)
          have v37 := ev 37 (by decide) (by decide) (by intro j hj; omega)
          have v38 := ev 38 (by decide) (by decide) (by intro j hj; omega)
          have v39 := ev 39 (by decide) (by decide) (by intro j hj; omega)
          have v40 := ev 40 (by decide) (by decide) (by intro j hj; omega)
          have v41 := ev 41 (by decide) (by decide) (by intro j hj; omega)
          have v69 := ev 69 (by decide) (by decide) (by intro j hj; omega)
          have v42 := ev 42 (by decide) (by decide) (by intro j hj; omega)
          clear ev hds t3 hfr hall hvb hvr hoy hgb own5 grow5 lies5 lt5 z0 z1 z2 z3 z4 z5 u0 u1 u2 u3 u4 u5 hb
          generalize (a.put (some 66) (.slice (some ⟨gg, 0, none⟩) (ps.length + 1) cap)).put (some 67) (.pointer (some ⟨g, 5, none⟩)) = a3 at *
          obtain ⟨n7, hn7⟩ : ∃ u, a3.tmps[7]?.getD undef = u := ⟨_, rfl⟩
          obtain ⟨n43, hn43⟩ : ∃ u, a3.tmps[43]?.getD undef = u := ⟨_, rfl⟩
          obtain ⟨n44, hn44⟩ : ∃ u, a3.tmps[44]?.getD undef = u := ⟨_, rfl⟩
          obtain ⟨n45, hn45⟩ : ∃ u, a3.tmps[45]?.getD undef = u := ⟨_, rfl⟩
          obtain ⟨n46, hn46⟩ : ∃ u, a3.tmps[46]?.getD undef = u := ⟨_, rfl⟩
          obtain ⟨n47, hn47⟩ : ∃ u, a3.tmps[47]?.getD undef = u := ⟨_, rfl⟩
          obtain ⟨n48, hn48⟩ : ∃ u, a3.tmps[48]?.getD undef = u := ⟨_, rfl⟩
          obtain ⟨n49, hn49⟩ : ∃ u, a3.tmps[49]?.getD undef = u := ⟨_, rfl⟩
          obtain ⟨n50, hn50⟩ : ∃ u, a3.tmps[50]?.getD undef = u := ⟨_, rfl⟩
          obtain ⟨n51, hn51⟩ : ∃ u, a3.tmps[51]?.getD undef = u := ⟨_, rfl⟩
          obtain ⟨n52, hn52⟩ : ∃ u, a3.tmps[52]?.getD undef = u := ⟨_, rfl⟩
          obtain ⟨n53, hn53⟩ : ∃ u, a3.tmps[53]?.getD undef = u := ⟨_, rfl⟩
          obtain ⟨n54, hn54⟩ : ∃ u, a3.tmps[54]?.getD undef = u := ⟨_, rfl⟩
          obtain ⟨n55, hn55⟩ : ∃ u, a3.tmps[55]?.getD undef = u := ⟨_, rfl⟩
          obtain ⟨n56, hn56⟩ : ∃ u, a3.tmps[56]?.getD undef = u := ⟨_, rfl⟩
          obtain ⟨n57, hn57⟩ : ∃ u, a3.tmps[57]?.getD undef = u := ⟨_, rfl⟩
          obtain ⟨n58, hn58⟩ : ∃ u, a3.tmps[58]?.getD undef = u := ⟨_, rfl⟩
          obtain ⟨n59, hn59⟩ : ∃ u, a3.tmps[59]?.getD undef = u := ⟨_, rfl⟩
          obtain ⟨n60, hn60⟩ : ∃ u, a3.tmps[60]?.getD undef = u := ⟨_, rfl⟩
          obtain ⟨n61, hn61⟩ : ∃ u, a3.tmps[61]?.getD undef = u := ⟨_, rfl⟩
          obtain ⟨n62, hn62⟩ : ∃ u, a3.tmps[62]?.getD undef = u := ⟨_, rfl⟩
          obtain ⟨n63, hn63⟩ : ∃ u, a3.tmps[63]?.getD undef = u := ⟨_, rfl⟩
          obtain ⟨n64, hn64⟩ : ∃ u, a3.tmps[64]?.getD undef = u := ⟨_, rfl⟩
          obtain ⟨n65, hn65⟩ : ∃ u, a3.tmps[65]?.getD undef = u := ⟨_, rfl⟩
          obtain ⟨n66, hn66⟩ : ∃ u, a3.tmps[66]?.getD undef = u := ⟨_, rfl⟩
          obtain ⟨n67, hn67⟩ : ∃ u, a3.tmps[67]?.getD undef = u := ⟨_, rfl⟩
          obtain ⟨n68, hn68⟩ : ∃ u, a3.tmps[68]?.getD undef = u := ⟨_, rfl⟩
          have hA : a3 = ⟨#[pv p Af cf Ae ce (some ⟨b, off, none⟩) co, .pointer (some ⟨w.heap.size, 0, none⟩), .pointer (some ⟨w.heap.size + 1, 0, none⟩), .pointer (some ⟨g, 0, none⟩), undef, u5, undef, n7, u8, u9, u10, u11, u12, u13, u14, u15, u16, u17, u18, .pointer (some ⟨w.heap.size, 3, none⟩), .slice Af p.fs.length cf, .int .i64 (p.fs.length : Int), .int .i64 (p.fs.length : Int), .bool false, u24, u25, u26, u27, u28, u29, u30, u31, u32, u33, u34, u35, u36, u37, u38, .pointer (some ⟨w.heap.size, 5, none⟩), .slice (some ⟨b, off, none⟩) p.ops.length co, .int .i64 (p.ops.length : Int), .int .i64 (i : Int), n43, n44, n45, n46, n47, n48, n49, n50, n51, n52, n53, n54, n55, n56, n57, n58, n59, n60, n61, n62, n63, n64, n65, n66, n67, n68, undef], []⟩ := Gr.act_eq (l := [pv p Af cf Ae ce (some ⟨b, off, none⟩) co, .pointer (some ⟨w.heap.size, 0, none⟩), .pointer (some ⟨w.heap.size + 1, 0, none⟩), .pointer (some ⟨g, 0, none⟩), undef, u5, undef, n7, u8, u9, u10, u11, u12, u13, u14, u15, u16, u17, u18, .pointer (some ⟨w.heap.size, 3, none⟩), .slice Af p.fs.length cf, .int .i64 (p.fs.length : Int), .int .i64 (p.fs.length : Int), .bool false, u24, u25, u26, u27, u28, u29, u30, u31, u32, u33, u34, u35, u36, u37, u38, .pointer (some ⟨w.heap.size, 5, none⟩), .slice (some ⟨b, off, none⟩) p.ops.length co, .int .i64 (p.ops.length : Int), .int .i64 (i : Int), n43, n44, n45, n46, n47, n48, n49, n50, n51, n52, n53, n54, n55, n56, n57, n58, n59, n60, n61, n62, n63, n64, n65, n66, n67, n68, undef]) hd3 hs3 (by
            intro i hi
            match i, hi with
            | 0, _ => exact Gr.slot v0
            | 1, _ => exact Gr.slot v1
            | 2, _ => exact Gr.slot v2
            | 3, _ => exact Gr.slot v3
            | 4, _ => exact Gr.slot v4
            | 5, _ => exact Gr.slot v5
            | 6, _ => exact Gr.slot v6
            | 7, _ => exact hn7
            | 8, _ => exact Gr.slot v8
            | 9, _ => exact Gr.slot v9
            | 10, _ => exact Gr.slot v10
            | 11, _ => exact Gr.slot v11
            | 12, _ => exact Gr.slot v12
            | 13, _ => exact Gr.slot v13
            | 14, _ => exact Gr.slot v14
            | 15, _ => exact Gr.slot v15
            | 16, _ => exact Gr.slot v16
            | 17, _ => exact Gr.slot v17
            | 18, _ => exact Gr.slot v18
            | 19, _ => exact Gr.slot v19
            | 20, _ => exact Gr.slot v20
            | 21, _ => exact Gr.slot v21
            | 22, _ => exact Gr.slot v22
            | 23, _ => exact Gr.slot v23
            | 24, _ => exact Gr.slot v24
            | 25, _ => exact Gr.slot v25
            | 26, _ => exact Gr.slot v26
            | 27, _ => exact Gr.slot v27
            | 28, _ => exact Gr.slot v28
            | 29, _ => exact Gr.slot v29
            | 30, _ => exact Gr.slot v30
            | 31, _ => exact Gr.slot v31
            | 32, _ => exact Gr.slot v32
            | 33, _ => exact Gr.slot v33
            | 34, _ => exact Gr.slot v34
            | 35, _ => exact Gr.slot v35
            | 36, _ => exact Gr.slot v36
            | 37, _ => exact Gr.slot v37
            | 38, _ => exact Gr.slot v38
            | 39, _ => exact Gr.slot v39
            | 40, _ => exact Gr.slot v40
            | 41, _ => exact Gr.slot v41
            | 42, _ => exact Gr.slot v42
            | 43, _ => exact hn43
            | 44, _ => exact hn44
            | 45, _ => exact hn45
            | 46, _ => exact hn46
            | 47, _ => exact hn47
            | 48, _ => exact hn48
            | 49, _ => exact hn49
            | 50, _ => exact hn50
            | 51, _ => exact hn51
            | 52, _ => exact hn52
            | 53, _ => exact hn53
            | 54, _ => exact hn54
            | 55, _ => exact hn55
            | 56, _ => exact hn56
            | 57, _ => exact hn57
            | 58, _ => exact hn58
            | 59, _ => exact hn59
            | 60, _ => exact hn60
            | 61, _ => exact hn61
            | 62, _ => exact hn62
            | 63, _ => exact hn63
            | 64, _ => exact hn64
            | 65, _ => exact hn65
            | 66, _ => exact hn66
            | 67, _ => exact hn67
            | 68, _ => exact hn68
            | 69, _ => exact Gr.slot v69
            | i + 70, h => simp only [List.length_cons, List.length_nil] at h; omega)
          clear hn7 hn43 hn44 hn45 hn46 hn47 hn48 hn49 hn50 hn51 hn52 hn53 hn54 hn55 hn56 hn57 hn58 hn59 hn60 hn61 hn62 hn63 hn64 hn65 hn66 hn67 hn68
          subst hA
          have HI1 : Hid (i + 1 ≤ p.ops.length) := hin
          have hb0 : i + 1 ≤ 2000000 := by have := SO.out; omega
          go_wp2
          go_roundw
          case rel => exact ⟨i + 1, _, by go_num, HI1.out, RG6.out, by rw [TK.out]; exact RO6.out, KE6.out, RZ6.out, RP6.out, B6.out, RF6.out⟩
          case measure => simp [intOf]; omega
        · obtain rfl : i = p.ops.length := by omega
          rw [List.take_length] at RO2
          obtain ⟨Bo, do_, hvr, hAo, hn2, hl2, hm2⟩ := RO2.out.at (Nat.le_refl _)
          obtain ⟨Bf', df', hvf, hAf, hn1, hl1, hm1⟩ := RF2.out.at (Nat.le_refl _)
          subst hvr
          injection hvf with e1 _ e3
          subst e1 e3
          obtain ⟨x0, x1, x2, x3, x4, x5⟩ := cells6 RG2.out
          obtain ⟨y0, y1, y2, y3, y4, y5, v0, v1, v2, v3, v4, v5⟩ := row6 RZ2.out
          have HAf := Lib.hid hAf
          have HAo := Lib.hid hAo
          have HN := Lib.hid (⟨hn1, hl1, hm1, hn2, hl2, hm2⟩ : (Bf = none → df = 0) ∧ p.fs.length ≤ df ∧ df ≤ 9223372036854775807 ∧ (Bo = none → do_ = 0) ∧ p.ops.length ≤ do_ ∧ do_ ≤ 9223372036854775807)
          clear hAf hAo hn1 hl1 hm1 hn2 hl2 hm2
          go_wp2
          have ST := fun (a0 a1 a2 a3 a4 a5 : Value) => (show ∀ x, x < wr.heap.size → x ≠ w.heap.size + 1 → ((((((wr.setCell ⟨w.heap.size + 1, 0, none⟩ a0).setCell ⟨w.heap.size + 1, 1, none⟩ a1).setCell ⟨w.heap.size + 1, 2, none⟩ a2).setCell ⟨w.heap.size + 1, 3, none⟩ a3).setCell ⟨w.heap.size + 1, 4, none⟩ a4).setCell ⟨w.heap.size + 1, 5, none⟩ a5).heap[x]? = wr.heap[x]? from fun x _ hne => by
            rw [Below.heap_setCell _ _ _ x hne, Below.heap_setCell _ _ _ x hne, Below.heap_setCell _ _ _ x hne, Below.heap_setCell _ _ _ x hne, Below.heap_setCell _ _ _ x hne, Below.heap_setCell _ _ _ x hne])
          have tyz : ∀ x, x < wr.heap.size → (x < w.heap.size ∨ ∃ t' cs fr, (t' = 3 ∨ t' = 45 ∨ t' = 42) ∧ wr.heap[x]? = some (.cells cs t' fr)) → x ≠ w.heap.size + 1 := by
            rintro x _ hq rfl
            rcases hq with hq | ⟨t', cs, fr, hz, hq⟩
            · omega
            · rw [RZ2.out] at hq
              injection hq with hq
              injection hq with _ hq _
              rcases hz with z | z | z <;> exact absurd (hq.trans z) (by decide)
          (try simp only [Exit.inBlock, Exit.then])
          refine bodyPost_ret (results_cells rfl _ _ (w.heap.size + 1) [.int .i64 p.vars, .int .i64 p.objs, .int .i64 p.fields, .slice Bf p.fs.length df, .slice Be p.en.length de, .slice Bo p.ops.length do_] _ rfl ?_ Try.underlying33 prog_info) rfl ?_
          · exact six_of (set6 RZ2.out)
          · have S := ST (.int .i64 p.vars) (.int .i64 p.objs) (.int .i64 p.fields) (.slice Bf p.fs.length df) (.slice Be p.en.length de) (.slice Bo p.ops.length do_)
            have SZ : wr.heap.size ≤ ((((((wr.setCell ⟨w.heap.size + 1, 0, none⟩ (.int .i64 p.vars)).setCell ⟨w.heap.size + 1, 1, none⟩ (.int .i64 p.objs)).setCell ⟨w.heap.size + 1, 2, none⟩ (.int .i64 p.fields)).setCell ⟨w.heap.size + 1, 3, none⟩ (.slice Bf p.fs.length df)).setCell ⟨w.heap.size + 1, 4, none⟩ (.slice Be p.en.length de)).setCell ⟨w.heap.size + 1, 5, none⟩ (.slice Bo p.ops.length do_)).heap.size := by simp
            have BF := (((((B2.out.setCell (p := ⟨w.heap.size + 1, 0, none⟩) (Nat.le_succ _) (.int .i64 p.vars)).setCell (p := ⟨w.heap.size + 1, 1, none⟩) (Nat.le_succ _) (.int .i64 p.objs)).setCell (p := ⟨w.heap.size + 1, 2, none⟩) (Nat.le_succ _) (.int .i64 p.fields)).setCell (p := ⟨w.heap.size + 1, 3, none⟩) (Nat.le_succ _) (.slice Bf p.fs.length df)).setCell (p := ⟨w.heap.size + 1, 4, none⟩) (Nat.le_succ _) (.slice Be p.en.length de)).setCell (p := ⟨w.heap.size + 1, 5, none⟩) (Nat.le_succ _) (.slice Bo p.ops.length do_)
            generalize (((((wr.setCell ⟨w.heap.size + 1, 0, none⟩ (.int .i64 p.vars)).setCell ⟨w.heap.size + 1, 1, none⟩ (.int .i64 p.objs)).setCell ⟨w.heap.size + 1, 2, none⟩ (.int .i64 p.fields)).setCell ⟨w.heap.size + 1, 3, none⟩ (.slice Bf p.fs.length df)).setCell ⟨w.heap.size + 1, 4, none⟩ (.slice Be p.en.length de)).setCell ⟨w.heap.size + 1, 5, none⟩ (.slice Bo p.ops.length do_) = WF at *
            have q1 : RowOwn elF w.heap.size w.heap.size 45 WF (.slice Bf p.fs.length df) p.fs := RF2.out.keep SZ (fun x hx hq => S x hx (tyz x hx (hq.imp id fun ⟨t', cs, fr, h1, h2⟩ => ⟨t', cs, fr, h1.imp id .inl, h2⟩)))
            have q2 : KL w.heap.size w.heap.size WF (.slice Be p.en.length de) p.en := KE2.out.keep SZ (fun x hx hq => S x hx (tyz x hx (hq.imp id fun ⟨cs, fr, h2⟩ => ⟨_, cs, fr, .inl rfl, h2⟩)))
            have q3 : RowOwn elO w.heap.size w.heap.size 42 WF (.slice Bo p.ops.length do_) p.ops := RO2.out.keep SZ (fun x hx hq => S x hx (tyz x hx (hq.imp id fun ⟨t', cs, fr, h1, h2⟩ => ⟨t', cs, fr, h1.imp id .inr, h2⟩)))
            obtain ⟨Bf', df', hvf, hA1, _⟩ := q1.at (Nat.le_refl _)
            obtain ⟨Bo', do', hvo, hA2, _⟩ := q3.at (Nat.le_refl _)
            injection hvf with e1
            injection hvo with e2
            subst e1 e2
            exact ⟨_, _, _, _, _, _, rfl, ⟨hA1.fs, q2.il, hA2.os, HN.out.1, HN.out.2.2.2.1, ⟨HN.out.2.1, HN.out.2.2.1⟩, HN.out.2.2.2.2⟩, BF⟩
end Pm
end Go.Proofs.Ytnhgoeoffjcooaa
