/-
  Programs: the law's few (dowserlaw15.few): a program cut. Made by wip/gen/profew.py.
-/
import Derived.Test.YtnhgoeoffjcooaaProClone
namespace Go.Proofs.Ytnhgoeoffjcooaa
open Go.RowKit
namespace Pm
open B
set_option linter.unusedVariables false
def fewFq (f : F) : F := ⟨f.ps.take 40, f.ret⟩
def fewOq (o : O) : O := ⟨o.kind, o.fn, o.a, o.b, o.c, o.args.take 40, o.heat⟩
def fewq (p : P) : P := ⟨p.vars, p.objs, p.fields, (p.fs.take 40).map fewFq, p.en.take 40, (p.ops.take 310).map fewOq⟩
theorem inforF : (Try.prog.info? 63).map (fun i => (i.zero, i.size, i.bytes)) = some (some (.agg #[.slice none 0 0, .int .i64 0]), 2, 32) := by kernel_rfl
theorem inforO : (Try.prog.info? 64).map (fun i => (i.zero, i.size, i.bytes)) = some (some (.agg #[.int .i64 0, .int .i64 0, .int .i64 0, .int .i64 0, .int .i64 0, .slice none 0 0, .float .f64 0]), 7, 72) := by kernel_rfl
theorem rprog_info : (Try.prog.info? 26).map (·.size) = some 6 := by kernel_rfl
/-- slices that stand in memory as it was at w0 -/
def KO (w0 w : World) (v : Value) (l : List Int) : Prop := IL 0 w0 v l
theorem KO.below {w0 w w' : World} {v : Value} {l : List Int} (h : KO w0 w v l) (hb : Below w.heap.size w w') : KO w0 w' v l := h
def RowOld {α : Type} (E : El α) (w0 : World) (M : Nat) (t : TypeId) (w : World) (v : Value) (l : List α) : Prop := ∃ ps : List (Value × α), ps.map Prod.snd = l ∧ w.ownsRow M t E.k v ps.length (flat E ps) ∧ ∀ x ∈ ps, IL 0 w0 x.1 (E.il x.2) ∧ E.ok x.2
theorem RowOld.nil {α : Type} {E : El α} (w0 : World) (M : Nat) (t : TypeId) (w : World) : RowOld E w0 M t w (.slice none 0 0) [] := ⟨[], rfl, World.ownsRow_nil _ _ _ _, fun x h => by cases h⟩
theorem RowOld.keep {α : Type} {E : El α} {w0 w w' : World} {M : Nat} {t : TypeId} {v : Value} {l : List α} (h : RowOld E w0 M t w v l) (hk : ∀ (x : Nat) (cs : Array Value) (fr : Nat × Nat), w.heap[x]? = some (.cells cs t fr) → w'.heap[x]? = w.heap[x]?) : RowOld E w0 M t w' v l := by
  obtain ⟨ps, e, ho, hx⟩ := h
  refine ⟨ps, e, ⟨ho.1, ?_⟩, hx⟩
  rcases ho.2 with hn | ⟨g, cap, cur, hv, hM, hg, r⟩
  · exact .inl hn
  · exact .inr ⟨g, cap, cur, hv, hM, (hk g _ _ hg).trans hg, r⟩
theorem RowOld.below {α : Type} {E : El α} {w0 w w' : World} {M : Nat} {t : TypeId} {v : Value} {l : List α} (h : RowOld E w0 M t w v l) (hb : Below w.heap.size w w') : RowOld E w0 M t w' v l := h.keep fun x _ _ hx => hb.block x (blk_lt hx)
theorem RowOld.set {α : Type} {E : El α} {w0 w : World} {M : Nat} {t t' : TypeId} {v : Value} {l : List α} {g i : Nat} {cs : Array Value} {fr : Nat × Nat} (h : RowOld E w0 M t w v l) (u : Value) (hg : w.heap[g]? = some (.cells cs t' fr)) (h2 : t' ≠ t) : RowOld E w0 M t (w.setCell ⟨g, i, none⟩ u) v l := h.keep fun x cs' fr' hx => Below.heap_setCell w ⟨g, i, none⟩ u x (by
  rintro rfl
  rw [hg] at hx
  injection hx with hx
  injection hx with _ hx _
  exact h2 hx)
theorem RowOld.grown {α : Type} {E : El α} {w0 w w' : World} {M M' t t' size n : Nat} {v vb : Value} {l : List α} {xs : List Value} (h : RowOld E w0 M t w v l) (hb : w.ownsRow M' t' size vb n xs) (h2 : t' ≠ t) (hgr : w.grownBy w' vb.ownBlock) : RowOld E w0 M t w' v l := h.keep fun x cs fr hx => hgr.block x (blk_lt hx) fun q => by
  obtain ⟨p1, cs', fr', p2⟩ := own_blk hb x q.symm
  rw [p2] at hx
  injection hx with hx
  injection hx with _ hx _
  exact h2 hx
theorem RowOld.snoc {α : Type} {E : El α} {w0 w' : World} {M : Nat} {t : TypeId} {v' : Value} {l : List α} {x : α} {vx : Value} {ps : List (Value × α)} (e : ps.map Prod.snd = l) (hx : ∀ x ∈ ps, IL 0 w0 x.1 (E.il x.2) ∧ E.ok x.2) (hv : IL 0 w0 vx (E.il x)) (hok : E.ok x)
    (ho' : w'.ownsRow M t E.k v' (ps.length + 1) (flat E ps ++ E.cs vx x)) : RowOld E w0 M t w' v' (l ++ [x]) := by
  refine ⟨ps ++ [(vx, x)], by rw [List.map_append, e]; rfl, by rw [List.length_append, flat_snoc]; exact ho', fun y hy => ?_⟩
  rcases List.mem_append.mp hy with hy | hy
  · exact hx y hy
  · rw [List.mem_singleton] at hy
    subst hy
    exact ⟨hv, hok⟩
theorem RowOld.at {α : Type} {E : El α} {w0 w : World} {M : Nat} {t : TypeId} {v : Value} {l : List α} (h : RowOld E w0 M t w v l) (hb : Below w0.heap.size w0 w) : ∃ A c, v = .slice A l.length c ∧ RowAt E 0 w A l ∧ (A = none → c = 0) ∧ l.length ≤ c ∧ c ≤ 9223372036854775807 := by
  obtain ⟨ps, rfl, ho, hx⟩ := h
  have hl : (ps.map Prod.snd).length = ps.length := by simp
  rcases ho.2 with ⟨rfl, h0⟩ | ⟨g, cap, cur, rfl, hM, hg, _⟩
  · have hps : ps = [] := List.eq_nil_of_length_eq_zero h0
    subst hps
    exact ⟨none, 0, rfl, fun h => absurd h (by simp), fun _ => rfl, Nat.le_refl _, by omega⟩
  · obtain ⟨_, c1, c2, c3⟩ := own_cap ho
    refine ⟨_, cap, by rw [hl], fun _ => ⟨g, 0, rfl, Nat.zero_le _, blk_lt hg, fun i hi => ?_⟩, c1, by rw [hl]; exact c2, c3⟩
    rw [hl] at hi
    have e : (ps.map Prod.snd)[i] = ps[i].2 := by simp
    obtain ⟨k1, k2⟩ := hx ps[i] (List.getElem_mem hi)
    refine ⟨ps[i].1, fun j u hj => ?_, by rw [e]; exact k1.below hb, by rw [e]; exact k2⟩
    rw [e] at hj
    have := ho.cells rfl _ _ (flat_at ps i hi j u hj)
    rw [add_plain0] at this
    rw [Nat.zero_add]; exact this
def NewR (M : Nat) (v : Value) (W : World) : Prop := ∃ g, v = .pointer (some ⟨g, 0, none⟩) ∧ M ≤ g ∧ W.heap[g]? = some (.cells #[.int .i64 0, .int .i64 0, .int .i64 0, .slice none 0 0, .slice none 0 0, .slice none 0 0] 26)
theorem newr_grow {M : Nat} (v : Value) (W W' : World) (h : NewR M v W) (hb : Below W.heap.size W W') : NewR M v W' := by obtain ⟨g, h1, h2, h3⟩ := h; exact ⟨g, h1, h2, blk_below h3 hb (blk_lt h3)⟩
def SliC (cs : List Value) (t : TypeId) (v : Value) (W : World) : Prop := ∃ gb, v = .slice (some ⟨gb, 0, none⟩) 1 1 ∧ W.heap[gb]? = some (.cells cs.toArray t)
theorem slic_grow {cs : List Value} {t : TypeId} (v : Value) (W W' : World) (h : SliC cs t v W) (hb : Below W.heap.size W W') : SliC cs t v W' := by obtain ⟨gb, h1, h2⟩ := h; exact ⟨gb, h1, blk_below h2 hb (blk_lt h2)⟩
set_option maxHeartbeats 2000000 in
theorem fewx_any (A : Option Addr) (l : List Int) (c : Nat) (w0 w : World) (h : At vInt w0 A l) (hc : l.length ≤ c ∧ c ≤ 9223372036854775807) :
    Calls Try.prog 29 #[.slice A l.length c] w fun e w' => e = .returned (.slice A (l.take 40).length c) ∧ w = w' := by
  by_cases h40 : (40 : Int) < (l.length : Int)
  · obtain ⟨b, off, rfl, _⟩ := h (by omega)
    have e : (l.take 40).length = 40 := by rw [List.length_take]; omega
    have hc1 : (40 : Int) ≤ (c : Int) := by omega
    rw [e]
    clear e h
    go_enter Try.func29, Try.ntmps29
    go_wp2
    go_ret
    exact ⟨rfl, rfl⟩
  · have e : (l.take 40).length = l.length := by rw [List.length_take]; omega
    rw [e]
    clear e h
    go_enter Try.func29, Try.ntmps29
    go_wp2
    go_ret
    exact ⟨rfl, rfl⟩
theorem il_take {w : World} {A : Option Addr} {l : List Int} {c : Nat} (h : IL 0 w (.slice A l.length c) l) (n : Nat) : IL 0 w (.slice A (l.take n).length c) (l.take n) := by
  obtain ⟨_, h2, h3, h4, h5, h6⟩ := h.at
  exact ⟨A, c, rfl, h2.take n, h3, Nat.le_trans (by rw [List.length_take]; omega) h4, h5, h6⟩
set_option maxRecDepth 100000 in
set_option maxHeartbeats 20000000 in
theorem few_any (lo : Nat) (p : P) (Af : Option Addr) (cf : Nat) (Ae : Option Addr) (ce : Nat) (Ao : Option Addr) (co : Nat) (w0 w : World) (h : PIn lo w0 p Af cf Ae ce Ao co) (hb0 : Below w0.heap.size w0 w) :
    Calls Try.prog 12 #[pv p Af cf Ae ce Ao co] w fun e w' => ∃ Bf df Be de Bo d, e = .returned (pv (fewq p) Bf df Be de Bo d) ∧ RowOld elF w0 w.heap.size 63 w' (.slice Bf (fewq p).fs.length df) (fewq p).fs ∧ IL 0 w0 (.slice Be (fewq p).en.length de) (fewq p).en ∧ RowOld elO w0 w.heap.size 64 w' (.slice Bo (fewq p).ops.length d) (fewq p).ops ∧ Below w.heap.size w w' := by
  obtain ⟨iF, hiF, hzF, hsF, hbF⟩ := info_parts inforF
  obtain ⟨iO, hiO, hzO, hsO, hbO⟩ := info_parts inforO
  have HF := Lib.hid h.f
  have HE := Lib.hid h.e.at.2.1
  have HC := Lib.hid (⟨⟨h.e.at.2.2.2.1, h.e.at.2.2.2.2.1⟩, h.e.lo (Nat.zero_le lo)⟩ : (p.en.length ≤ ce ∧ ce ≤ 9223372036854775807) ∧ IL 0 w0 (.slice Ae p.en.length ce) p.en)
  have HO := Lib.hid h.o
  have FC := Lib.hid (⟨h.fc, h.oc⟩ : (p.fs.length ≤ cf ∧ cf ≤ 9223372036854775807) ∧ (p.ops.length ≤ co ∧ co ≤ 9223372036854775807))
  have CX := Lib.hid (fun A l c W (q : At vInt w0 A l) (q2 : l.length ≤ c ∧ c ≤ 9223372036854775807) => fewx_any A l c w0 W q q2)
  obtain ⟨nE, hnE⟩ : ∃ n, (p.en.take 40).length = n := ⟨_, rfl⟩
  have CXE : Hid (∀ X, Calls Try.prog 29 #[.slice Ae p.en.length ce] X fun e w' => e = .returned (.slice Ae nE ce) ∧ X = w') := Lib.hid (fun X => by
    have := CX.out Ae p.en ce X HE.out HC.out.1
    rw [hnE] at this
    exact this)
  have HNE := Lib.hid hnE
  clear hnE
  have SW := Lib.hid (show w.heap.size + 2 ≤ ((w.alloc (.cells #[.int .i64 p.vars, .int .i64 p.objs, .int .i64 p.fields, .slice Af p.fs.length cf, .slice Ae p.en.length ce, .slice Ao p.ops.length co] 26)).alloc (.cells #[.int .i64 0, .int .i64 0, .int .i64 0, .slice none 0 0, .slice none 0 0, .slice none 0 0] 26)).heap.size by simp)
  have bA := below1 w (.cells #[.int .i64 p.vars, .int .i64 p.objs, .int .i64 p.fields, .slice Af p.fs.length cf, .slice Ae p.en.length ce, .slice Ao p.ops.length co] 26)
  have bB := below1 (w.alloc (.cells #[.int .i64 p.vars, .int .i64 p.objs, .int .i64 p.fields, .slice Af p.fs.length cf, .slice Ae p.en.length ce, .slice Ao p.ops.length co] 26)) (.cells #[.int .i64 0, .int .i64 0, .int .i64 0, .slice none 0 0, .slice none 0 0, .slice none 0 0] 26)
  have B0 := Lib.hid (bA.trans (bB.mono bA.size))
  have R1 := Lib.hid (hp_old (.cells #[.int .i64 0, .int .i64 0, .int .i64 0, .slice none 0 0, .slice none 0 0, .slice none 0 0] 26) (heap_last w (.cells #[.int .i64 p.vars, .int .i64 p.objs, .int .i64 p.fields, .slice Af p.fs.length cf, .slice Ae p.en.length ce, .slice Ao p.ops.length co] 26) w.heap.size rfl))
  have R2 := Lib.hid (heap_last (w.alloc (.cells #[.int .i64 p.vars, .int .i64 p.objs, .int .i64 p.fields, .slice Af p.fs.length cf, .slice Ae p.en.length ce, .slice Ao p.ops.length co] 26)) (.cells #[.int .i64 0, .int .i64 0, .int .i64 0, .slice none 0 0, .slice none 0 0, .slice none 0 0] 26) (w.heap.size + 1) (by simp))
  have HB0 := Lib.hid hb0
  clear bA bB h hb0
  go_enter Try.func12, Try.ntmps12
  go_upto_region 2 with fail
  generalize (w.alloc (.cells #[.int .i64 p.vars, .int .i64 p.objs, .int .i64 p.fields, .slice Af p.fs.length cf, .slice Ae p.en.length ce, .slice Ao p.ops.length co] 26)).alloc (.cells #[.int .i64 0, .int .i64 0, .int .i64 0, .slice none 0 0, .slice none 0 0, .slice none 0 0] 26) = W at *
  refine Gr.region 12 (fun i => if i < 11 then i + 8 else 4) (by kernel_rfl) (by kernel_rfl) (Gr.spφ [.val (.pointer (some ⟨w.heap.size, 0, none⟩)), .val (.int .i64 p.vars), .val (.pointer (some ⟨w.heap.size, 1, none⟩)), .val (.int .i64 p.objs), .val (.pointer (some ⟨w.heap.size, 2, none⟩)), .val (.int .i64 p.fields), .val (.func (.func 29) #[] #[]), .val (.pointer (some ⟨w.heap.size, 4, none⟩)), .val (.slice Ae p.en.length ce), .val (.slice Ae nE ce), .val (.agg #[.int .i64 p.vars, .int .i64 p.objs, .int .i64 p.fields, .slice none 0 0, .slice Ae nE ce, .slice none 0 0]), .cls (NewR (w.heap.size + 2)) (newr_grow)]) (Gr.spφ_grow _) ?_ ?_
  · intro i o a W1 hi ho hb hfr hpre
    have t1 : a.tmps[1]?.getD undef = .pointer (some ⟨w.heap.size, 0, none⟩) := Gr.slot (hfr.f 1 (by intro j hj; (try dsimp only); split <;> omega))
    have t3 : a.tmps[3]?.getD undef = .func (.func 29) #[] #[] := Gr.slot (hfr.f 3 (by intro j hj; (try dsimp only); split <;> omega))
    obtain ⟨k0, k1, k2, k3, k4, k5⟩ := cells6 (blk_below R1.out hb (blk_lt R1.out))
    match i, hi with
    | 0, _ =>
      obtain rfl := Option.some.inj ho
      refine Gr.val (v := .pointer (some ⟨w.heap.size, 0, none⟩)) (w' := W1) (by simp [go_sem, t1]) ⟨_, rfl, rfl, Below.refl _ _⟩
    | 1, _ =>
      have p8 : a.tmps[8]?.getD undef = .pointer (some ⟨w.heap.size, 0, none⟩) := Gr.slot (hpre { on := 0, ground := .data } (by obtain rfl := Option.some.inj ho; simp) rfl (by decide))
      obtain rfl := Option.some.inj ho
      refine Gr.val (v := .int .i64 p.vars) (w' := W1) (by simp [go_sem, p8, k0]) ⟨_, rfl, rfl, Below.refl _ _⟩
    | 2, _ =>
      obtain rfl := Option.some.inj ho
      refine Gr.val (v := .pointer (some ⟨w.heap.size, 1, none⟩)) (w' := W1) (by simp [go_sem, t1]) ⟨_, rfl, rfl, Below.refl _ _⟩
    | 3, _ =>
      have p10 : a.tmps[10]?.getD undef = .pointer (some ⟨w.heap.size, 1, none⟩) := Gr.slot (hpre { on := 2, ground := .data } (by obtain rfl := Option.some.inj ho; simp) rfl (by decide))
      obtain rfl := Option.some.inj ho
      refine Gr.val (v := .int .i64 p.objs) (w' := W1) (by simp [go_sem, p10, k1]) ⟨_, rfl, rfl, Below.refl _ _⟩
    | 4, _ =>
      obtain rfl := Option.some.inj ho
      refine Gr.val (v := .pointer (some ⟨w.heap.size, 2, none⟩)) (w' := W1) (by simp [go_sem, t1]) ⟨_, rfl, rfl, Below.refl _ _⟩
    | 5, _ =>
      have p12 : a.tmps[12]?.getD undef = .pointer (some ⟨w.heap.size, 2, none⟩) := Gr.slot (hpre { on := 4, ground := .data } (by obtain rfl := Option.some.inj ho; simp) rfl (by decide))
      obtain rfl := Option.some.inj ho
      refine Gr.val (v := .int .i64 p.fields) (w' := W1) (by simp [go_sem, p12, k2]) ⟨_, rfl, rfl, Below.refl _ _⟩
    | 6, _ =>
      obtain rfl := Option.some.inj ho
      refine Gr.val (v := .func (.func 29) #[] #[]) (w' := W1) (by simp [go_sem, t3]) ⟨_, rfl, rfl, Below.refl _ _⟩
    | 7, _ =>
      obtain rfl := Option.some.inj ho
      refine Gr.val (v := .pointer (some ⟨w.heap.size, 4, none⟩)) (w' := W1) (by simp [go_sem, t1]) ⟨_, rfl, rfl, Below.refl _ _⟩
    | 8, _ =>
      have p15 : a.tmps[15]?.getD undef = .pointer (some ⟨w.heap.size, 4, none⟩) := Gr.slot (hpre { on := 7, ground := .data } (by obtain rfl := Option.some.inj ho; simp) rfl (by decide))
      obtain rfl := Option.some.inj ho
      refine Gr.val (v := .slice Ae p.en.length ce) (w' := W1) (by simp [go_sem, p15, k4]) ⟨_, rfl, rfl, Below.refl _ _⟩
    | 9, _ =>
      have p14 : a.tmps[14]?.getD undef = .func (.func 29) #[] #[] := Gr.slot (hpre { on := 6, ground := .data } (by obtain rfl := Option.some.inj ho; simp) rfl (by decide))
      have p16 : a.tmps[16]?.getD undef = .slice Ae p.en.length ce := Gr.slot (hpre { on := 8, ground := .data } (by obtain rfl := Option.some.inj ho; simp) rfl (by decide))
      obtain rfl := Option.some.inj ho
      refine Gr.call (f := 29) (args := #[.slice Ae p.en.length ce]) (by simp [go_sem, p14, p16]) ((CXE.out W1).mono ?_)
      rintro e w' ⟨rfl, rfl⟩
      exact ⟨_, rfl, _, rfl, rfl, Below.refl _ _⟩
    | 10, _ =>
      have p9 : a.tmps[9]?.getD undef = .int .i64 p.vars := Gr.slot (hpre { on := 1, ground := .data } (by obtain rfl := Option.some.inj ho; simp) rfl (by decide))
      have p11 : a.tmps[11]?.getD undef = .int .i64 p.objs := Gr.slot (hpre { on := 3, ground := .data } (by obtain rfl := Option.some.inj ho; simp) rfl (by decide))
      have p13 : a.tmps[13]?.getD undef = .int .i64 p.fields := Gr.slot (hpre { on := 5, ground := .data } (by obtain rfl := Option.some.inj ho; simp) rfl (by decide))
      have p17 : a.tmps[17]?.getD undef = .slice Ae nE ce := Gr.slot (hpre { on := 9, ground := .data } (by obtain rfl := Option.some.inj ho; simp) rfl (by decide))
      obtain rfl := Option.some.inj ho
      refine Gr.val (v := .agg #[.int .i64 p.vars, .int .i64 p.objs, .int .i64 p.fields, .slice none 0 0, .slice Ae nE ce, .slice none 0 0]) (w' := W1) (by simp [go_sem, p9, p11, p13, p17]) ⟨_, rfl, rfl, Below.refl _ _⟩
    | 11, _ =>
      obtain rfl := Option.some.inj ho
      refine Gr.val (v := .pointer (some ⟨W1.heap.size, 0, none⟩)) (w' := W1.alloc (.cells #[.int .i64 0, .int .i64 0, .int .i64 0, .slice none 0 0, .slice none 0 0, .slice none 0 0] 26)) (by simp [go_sem]) ⟨_, rfl, ⟨W1.heap.size, rfl, Nat.le_trans SW.out hb.size, heap_last _ _ _ rfl⟩, below1 _ _⟩
    | i + 12, h => omega
  intro o a W1 ho hb hfr hall
  obtain ⟨g, hv3, hg30, hG3⟩ : NewR (w.heap.size + 2) (a.eval (.tmp 4)) W1 := hall 11 (by omega)
  have t18 : a.tmps[18]?.getD undef = .agg #[.int .i64 p.vars, .int .i64 p.objs, .int .i64 p.fields, .slice none 0 0, .slice Ae nE ce, .slice none 0 0] := Gr.slot (hall 10 (by omega))
  have hg3 : w.heap.size ≤ g := by omega
  have hgn : g ≠ w.heap.size + 1 ∧ g ≠ w.heap.size := by omega
  have t4 := Gr.slot hv3
  obtain ⟨x0, x1, x2, x3, x4, x5, y0, y1, y2, y3, y4, y5⟩ := row6 hG3
  obtain rfl := Option.some.inj ho
  refine Gr.skip (w' := ((((((W1.setCell ⟨g, 0, none⟩ (.int .i64 p.vars)).setCell ⟨g, 1, none⟩ (.int .i64 p.objs)).setCell ⟨g, 2, none⟩ (.int .i64 p.fields)).setCell ⟨g, 3, none⟩ (.slice none 0 0)).setCell ⟨g, 4, none⟩ (.slice Ae nE ce)).setCell ⟨g, 5, none⟩ (.slice none 0 0))) (by simp [go_sem, t4, t18, x0, x1, x2, x3, x4, x5, y0, y1, y2, y3, y4, y5]) rfl ?_
  rename_i hK
  refine hK _ _ ?_
  clear hK
  obtain ⟨u8, hu8⟩ : ∃ u, a.tmps[8]?.getD undef = u := ⟨_, rfl⟩
  obtain ⟨u9, hu9⟩ : ∃ u, a.tmps[9]?.getD undef = u := ⟨_, rfl⟩
  obtain ⟨u10, hu10⟩ : ∃ u, a.tmps[10]?.getD undef = u := ⟨_, rfl⟩
  obtain ⟨u11, hu11⟩ : ∃ u, a.tmps[11]?.getD undef = u := ⟨_, rfl⟩
  obtain ⟨u12, hu12⟩ : ∃ u, a.tmps[12]?.getD undef = u := ⟨_, rfl⟩
  obtain ⟨u13, hu13⟩ : ∃ u, a.tmps[13]?.getD undef = u := ⟨_, rfl⟩
  obtain ⟨u14, hu14⟩ : ∃ u, a.tmps[14]?.getD undef = u := ⟨_, rfl⟩
  obtain ⟨u15, hu15⟩ : ∃ u, a.tmps[15]?.getD undef = u := ⟨_, rfl⟩
  obtain ⟨u16, hu16⟩ : ∃ u, a.tmps[16]?.getD undef = u := ⟨_, rfl⟩
  obtain ⟨u17, hu17⟩ : ∃ u, a.tmps[17]?.getD undef = u := ⟨_, rfl⟩
  obtain ⟨u18, hu18⟩ : ∃ u, a.tmps[18]?.getD undef = u := ⟨_, rfl⟩
  have hA : a = ⟨#[pv p Af cf Ae ce Ao co, .pointer (some ⟨w.heap.size, 0, none⟩), .pointer (some ⟨w.heap.size + 1, 0, none⟩), .func (.func 29) #[] #[], .pointer (some ⟨g, 0, none⟩), undef, undef, undef, u8, u9, u10, u11, u12, u13, u14, u15, u16, u17, u18, undef, undef, undef, undef, undef, undef, undef, undef, undef, undef, undef, undef, undef, undef, undef, undef, undef, undef, undef, undef, undef, undef, undef, undef, undef, undef, undef, undef, undef, undef, undef, undef, undef, undef, undef, undef, undef, undef, undef, undef, undef, undef, undef, undef, undef, undef, undef, undef, undef, undef, undef, undef, undef, undef, undef, undef, undef, undef, undef], []⟩ := Gr.act_eq (l := [pv p Af cf Ae ce Ao co, .pointer (some ⟨w.heap.size, 0, none⟩), .pointer (some ⟨w.heap.size + 1, 0, none⟩), .func (.func 29) #[] #[], .pointer (some ⟨g, 0, none⟩), undef, undef, undef, u8, u9, u10, u11, u12, u13, u14, u15, u16, u17, u18, undef, undef, undef, undef, undef, undef, undef, undef, undef, undef, undef, undef, undef, undef, undef, undef, undef, undef, undef, undef, undef, undef, undef, undef, undef, undef, undef, undef, undef, undef, undef, undef, undef, undef, undef, undef, undef, undef, undef, undef, undef, undef, undef, undef, undef, undef, undef, undef, undef, undef, undef, undef, undef, undef, undef, undef, undef, undef, undef]) hfr.d hfr.s (by
    intro i hi
    match i, hi with
    | 0, _ => exact Gr.slot (hfr.f 0 (by intro j hj; (try dsimp only); split <;> omega))
    | 1, _ => exact Gr.slot (hfr.f 1 (by intro j hj; (try dsimp only); split <;> omega))
    | 2, _ => exact Gr.slot (hfr.f 2 (by intro j hj; (try dsimp only); split <;> omega))
    | 3, _ => exact Gr.slot (hfr.f 3 (by intro j hj; (try dsimp only); split <;> omega))
    | 4, _ => exact Gr.slot hv3
    | 5, _ => exact Gr.slot (hfr.f 5 (by intro j hj; (try dsimp only); split <;> omega))
    | 6, _ => exact Gr.slot (hfr.f 6 (by intro j hj; (try dsimp only); split <;> omega))
    | 7, _ => exact Gr.slot (hfr.f 7 (by intro j hj; (try dsimp only); split <;> omega))
    | 8, _ => exact hu8
    | 9, _ => exact hu9
    | 10, _ => exact hu10
    | 11, _ => exact hu11
    | 12, _ => exact hu12
    | 13, _ => exact hu13
    | 14, _ => exact hu14
    | 15, _ => exact hu15
    | 16, _ => exact hu16
    | 17, _ => exact hu17
    | 18, _ => exact hu18
    | 19, _ => exact Gr.slot (hfr.f 19 (by intro j hj; (try dsimp only); split <;> omega))
    | 20, _ => exact Gr.slot (hfr.f 20 (by intro j hj; (try dsimp only); split <;> omega))
    | 21, _ => exact Gr.slot (hfr.f 21 (by intro j hj; (try dsimp only); split <;> omega))
    | 22, _ => exact Gr.slot (hfr.f 22 (by intro j hj; (try dsimp only); split <;> omega))
    | 23, _ => exact Gr.slot (hfr.f 23 (by intro j hj; (try dsimp only); split <;> omega))
    | 24, _ => exact Gr.slot (hfr.f 24 (by intro j hj; (try dsimp only); split <;> omega))
    | 25, _ => exact Gr.slot (hfr.f 25 (by intro j hj; (try dsimp only); split <;> omega))
    | 26, _ => exact Gr.slot (hfr.f 26 (by intro j hj; (try dsimp only); split <;> omega))
    | 27, _ => exact Gr.slot (hfr.f 27 (by intro j hj; (try dsimp only); split <;> omega))
    | 28, _ => exact Gr.slot (hfr.f 28 (by intro j hj; (try dsimp only); split <;> omega))
    | 29, _ => exact Gr.slot (hfr.f 29 (by intro j hj; (try dsimp only); split <;> omega))
    | 30, _ => exact Gr.slot (hfr.f 30 (by intro j hj; (try dsimp only); split <;> omega))
    | 31, _ => exact Gr.slot (hfr.f 31 (by intro j hj; (try dsimp only); split <;> omega))
    | 32, _ => exact Gr.slot (hfr.f 32 (by intro j hj; (try dsimp only); split <;> omega))
    | 33, _ => exact Gr.slot (hfr.f 33 (by intro j hj; (try dsimp only); split <;> omega))
    | 34, _ => exact Gr.slot (hfr.f 34 (by intro j hj; (try dsimp only); split <;> omega))
    | 35, _ => exact Gr.slot (hfr.f 35 (by intro j hj; (try dsimp only); split <;> omega))
    | 36, _ => exact Gr.slot (hfr.f 36 (by intro j hj; (try dsimp only); split <;> omega))
    | 37, _ => exact Gr.slot (hfr.f 37 (by intro j hj; (try dsimp only); split <;> omega))
    | 38, _ => exact Gr.slot (hfr.f 38 (by intro j hj; (try dsimp only); split <;> omega))
    | 39, _ => exact Gr.slot (hfr.f 39 (by intro j hj; (try dsimp only); split <;> omega))
    | 40, _ => exact Gr.slot (hfr.f 40 (by intro j hj; (try dsimp only); split <;> omega))
    | 41, _ => exact Gr.slot (hfr.f 41 (by intro j hj; (try dsimp only); split <;> omega))
    | 42, _ => exact Gr.slot (hfr.f 42 (by intro j hj; (try dsimp only); split <;> omega))
    | 43, _ => exact Gr.slot (hfr.f 43 (by intro j hj; (try dsimp only); split <;> omega))
    | 44, _ => exact Gr.slot (hfr.f 44 (by intro j hj; (try dsimp only); split <;> omega))
    | 45, _ => exact Gr.slot (hfr.f 45 (by intro j hj; (try dsimp only); split <;> omega))
    | 46, _ => exact Gr.slot (hfr.f 46 (by intro j hj; (try dsimp only); split <;> omega))
    | 47, _ => exact Gr.slot (hfr.f 47 (by intro j hj; (try dsimp only); split <;> omega))
    | 48, _ => exact Gr.slot (hfr.f 48 (by intro j hj; (try dsimp only); split <;> omega))
    | 49, _ => exact Gr.slot (hfr.f 49 (by intro j hj; (try dsimp only); split <;> omega))
    | 50, _ => exact Gr.slot (hfr.f 50 (by intro j hj; (try dsimp only); split <;> omega))
    | 51, _ => exact Gr.slot (hfr.f 51 (by intro j hj; (try dsimp only); split <;> omega))
    | 52, _ => exact Gr.slot (hfr.f 52 (by intro j hj; (try dsimp only); split <;> omega))
    | 53, _ => exact Gr.slot (hfr.f 53 (by intro j hj; (try dsimp only); split <;> omega))
    | 54, _ => exact Gr.slot (hfr.f 54 (by intro j hj; (try dsimp only); split <;> omega))
    | 55, _ => exact Gr.slot (hfr.f 55 (by intro j hj; (try dsimp only); split <;> omega))
    | 56, _ => exact Gr.slot (hfr.f 56 (by intro j hj; (try dsimp only); split <;> omega))
    | 57, _ => exact Gr.slot (hfr.f 57 (by intro j hj; (try dsimp only); split <;> omega))
    | 58, _ => exact Gr.slot (hfr.f 58 (by intro j hj; (try dsimp only); split <;> omega))
    | 59, _ => exact Gr.slot (hfr.f 59 (by intro j hj; (try dsimp only); split <;> omega))
    | 60, _ => exact Gr.slot (hfr.f 60 (by intro j hj; (try dsimp only); split <;> omega))
    | 61, _ => exact Gr.slot (hfr.f 61 (by intro j hj; (try dsimp only); split <;> omega))
    | 62, _ => exact Gr.slot (hfr.f 62 (by intro j hj; (try dsimp only); split <;> omega))
    | 63, _ => exact Gr.slot (hfr.f 63 (by intro j hj; (try dsimp only); split <;> omega))
    | 64, _ => exact Gr.slot (hfr.f 64 (by intro j hj; (try dsimp only); split <;> omega))
    | 65, _ => exact Gr.slot (hfr.f 65 (by intro j hj; (try dsimp only); split <;> omega))
    | 66, _ => exact Gr.slot (hfr.f 66 (by intro j hj; (try dsimp only); split <;> omega))
    | 67, _ => exact Gr.slot (hfr.f 67 (by intro j hj; (try dsimp only); split <;> omega))
    | 68, _ => exact Gr.slot (hfr.f 68 (by intro j hj; (try dsimp only); split <;> omega))
    | 69, _ => exact Gr.slot (hfr.f 69 (by intro j hj; (try dsimp only); split <;> omega))
    | 70, _ => exact Gr.slot (hfr.f 70 (by intro j hj; (try dsimp only); split <;> omega))
    | 71, _ => exact Gr.slot (hfr.f 71 (by intro j hj; (try dsimp only); split <;> omega))
    | 72, _ => exact Gr.slot (hfr.f 72 (by intro j hj; (try dsimp only); split <;> omega))
    | 73, _ => exact Gr.slot (hfr.f 73 (by intro j hj; (try dsimp only); split <;> omega))
    | 74, _ => exact Gr.slot (hfr.f 74 (by intro j hj; (try dsimp only); split <;> omega))
    | 75, _ => exact Gr.slot (hfr.f 75 (by intro j hj; (try dsimp only); split <;> omega))
    | 76, _ => exact Gr.slot (hfr.f 76 (by intro j hj; (try dsimp only); split <;> omega))
    | 77, _ => exact Gr.slot (hfr.f 77 (by intro j hj; (try dsimp only); split <;> omega))
    | i + 78, h => simp only [List.length_cons, List.length_nil] at h; omega)
  clear hu8 hu9 hu10 hu11 hu12 hu13 hu14 hu15 hu16 hu17 hu18
  subst hA
  have RG := Lib.hid (set6 (a0 := .int .i64 p.vars) (a1 := .int .i64 p.objs) (a2 := .int .i64 p.fields) (a3 := .slice none 0 0) (a4 := .slice Ae nE ce) (a5 := .slice none 0 0) hG3)
  have hset := fun x (hne : x ≠ g) => (show (((((((W1.setCell ⟨g, 0, none⟩ (.int .i64 p.vars)).setCell ⟨g, 1, none⟩ (.int .i64 p.objs)).setCell ⟨g, 2, none⟩ (.int .i64 p.fields)).setCell ⟨g, 3, none⟩ (.slice none 0 0)).setCell ⟨g, 4, none⟩ (.slice Ae nE ce)).setCell ⟨g, 5, none⟩ (.slice none 0 0))).heap[x]? = W1.heap[x]? from by
    rw [Below.heap_setCell _ _ _ x hne, Below.heap_setCell _ _ _ x hne, Below.heap_setCell _ _ _ x hne, Below.heap_setCell _ _ _ x hne, Below.heap_setCell _ _ _ x hne, Below.heap_setCell _ _ _ x hne])
  have RZ := Lib.hid ((hset _ hgn.1.symm).trans (blk_below R2.out hb (blk_lt R2.out)))
  have RP := Lib.hid ((hset _ hgn.2.symm).trans (blk_below R1.out hb (blk_lt R1.out)))
  have B1 : Hid (Below w.heap.size w (((((((W1.setCell ⟨g, 0, none⟩ (.int .i64 p.vars)).setCell ⟨g, 1, none⟩ (.int .i64 p.objs)).setCell ⟨g, 2, none⟩ (.int .i64 p.fields)).setCell ⟨g, 3, none⟩ (.slice none 0 0)).setCell ⟨g, 4, none⟩ (.slice Ae nE ce)).setCell ⟨g, 5, none⟩ (.slice none 0 0)))) := Lib.hid ((((((B0.out.trans (hb.mono B0.out.size)).setCell (p := ⟨g, 0, none⟩) hg3 _).setCell (p := ⟨g, 1, none⟩) hg3 _).setCell (p := ⟨g, 2, none⟩) hg3 _).setCell (p := ⟨g, 3, none⟩) hg3 _).setCell (p := ⟨g, 4, none⟩) hg3 _ |>.setCell (p := ⟨g, 5, none⟩) hg3 _)
  clear hset hG3 t4 t18 x0 x1 x2 x3 x4 x5 y0 y1 y2 y3 y4 y5 hb hfr hall hv3 R1 R2 B0
  generalize ((((((W1.setCell ⟨g, 0, none⟩ (.int .i64 p.vars)).setCell ⟨g, 1, none⟩ (.int .i64 p.objs)).setCell ⟨g, 2, none⟩ (.int .i64 p.fields)).setCell ⟨g, 3, none⟩ (.slice none 0 0)).setCell ⟨g, 4, none⟩ (.slice Ae nE ce)).setCell ⟨g, 5, none⟩ (.slice none 0 0)) = W2 at *
  obtain ⟨rp0, rp1, rp2, rp3, rp4, rp5⟩ := cells6 RP.out
  go_wp2
  go_loopw [5] (fun t wr => ∃ (i : Nat) (vr : Value), t = .int .i64 (i : Int) ∧ i ≤ p.fs.length ∧ i ≤ 40 ∧ wr.heap[g]? = some (.cells #[.int .i64 p.vars, .int .i64 p.objs, .int .i64 p.fields, vr, .slice Ae nE ce, .slice none 0 0] 26) ∧ RowOld elF w0 w.heap.size 63 wr vr ((p.fs.take i).map fewFq) ∧ wr.heap[w.heap.size + 1]? = some (.cells #[.int .i64 0, .int .i64 0, .int .i64 0, .slice none 0 0, .slice none 0 0, .slice none 0 0] 26) ∧ wr.heap[w.heap.size]? = some (.cells #[.int .i64 p.vars, .int .i64 p.objs, .int .i64 p.fields, .slice Af p.fs.length cf, .slice Ae p.en.length ce, .slice Ao p.ops.length co] 26) ∧ Below w.heap.size w wr) (fun t _ => p.fs.length - (intOf t).toNat)
  case atStart => exact ⟨0, _, rfl, Nat.zero_le _, Nat.zero_le _, RG.out, by rw [List.take_zero]; exact RowOld.nil _ _ _ _, RZ.out, RP.out, B1.out⟩
  case round =>
    obtain ⟨i, vr, rfl, hil, hi40, hg, hro, hz, hp, hb⟩ := hrel
    have RG2 := Lib.hid hg
    have RO2 := Lib.hid hro
    have RZ2 := Lib.hid hz
    have RP2 := Lib.hid hp
    have B2 := Lib.hid hb
    clear hg hro hz hp hb RG RZ RP B1 rp0 rp1 rp2 rp3 rp4 rp5
    obtain ⟨rp0, rp1, rp2, rp3, rp4, rp5⟩ := cells6 RP2.out
    by_cases hin : i < p.fs.length ∧ i < 40
    · have hI : (i : Int) < (p.fs.length : Int) := by omega
      have hI4 : (i : Int) < 40 := by omega
      obtain ⟨b, off, hA, _, hbl, hc⟩ := HF.out (by omega)
      obtain ⟨v, c0, c1, il⟩ := hc i hin.1
      have B02 := Lib.hid (HB0.out.trans (B2.out.mono HB0.out.size))
      have D0 := Lib.hid ((B02.out.cell (p := ⟨b, off + i * 2, none⟩) hbl).trans c0)
      have D1 := Lib.hid ((B02.out.cell (p := ⟨b, off + i * 2 + 1, none⟩) hbl).trans c1)
      have HBL := Lib.hid (Nat.lt_of_lt_of_le hbl B02.out.size)
      have TK := Lib.hid (show (p.fs.take (i + 1)).map fewFq = (p.fs.take i).map fewFq ++ [fewFq p.fs[i]] by rw [List.take_add_one, List.getElem?_eq_getElem hin.1, List.map_append]; rfl)
      generalize p.fs[i]'_ = x at *
      obtain ⟨A, c, rfl, hAt, hAn, hAc, hAm, hAl⟩ := il
      have AT := Lib.hid hAt
      have XC := Lib.hid (⟨hAc, hAm⟩ : x.ps.length ≤ c ∧ c ≤ 9223372036854775807)
      have ILx := Lib.hid (il_take (show IL 0 w0 (.slice A x.ps.length c) x.ps from ⟨A, c, rfl, hAt, hAn, hAc, hAm, fun a q => Nat.zero_le _⟩) 40)
      obtain ⟨ps, hps, hown, hpx⟩ := RO2.out
      have PS := Lib.hid hps
      have PX := Lib.hid hpx
      have OW := Lib.hid hown
      have hpl : ps.length ≤ 40 := by rw [← List.length_map (f := Prod.snd), hps, List.length_map, List.length_take]; omega
      have PL := Lib.hid hpl
      have MW := Lib.hid B2.out.size
      subst hA
      clear hc c0 c1 hAt hAn hAc hAm hAl hps hpx hown hpl
      have hin' := Lib.hid hin
      clear hin
      go_upto_region 6 with fail
      have ge := (cells6 RG2.out).2.2.2.1
      clear rp0 rp1 rp2 rp3 rp4 rp5 ge
      refine Gr.regionT 18 (fun i => i + 30) (by kernel_rfl) (by kernel_rfl) (Gr.spφ [.val (.pointer (some ⟨g, 3, none⟩)), .val (vr), .val (.func (.func 29) #[] #[]), .val (.pointer (some ⟨w.heap.size, 3, none⟩)), .val (.slice (some ⟨b, off, none⟩) p.fs.length cf), .val (.int .i64 (i : Int)), .val (.pointer (some ⟨b, off + i * 2, none⟩)), .val (.pointer (some ⟨b, off + i * 2, none⟩)), .val (.slice A x.ps.length c), .val (.slice A (x.ps.take 40).length c), .val (.pointer (some ⟨w.heap.size, 3, none⟩)), .val (.slice (some ⟨b, off, none⟩) p.fs.length cf), .val (.int .i64 (i : Int)), .val (.pointer (some ⟨b, off + i * 2, none⟩)), .val (.pointer (some ⟨b, off + i * 2 + 1, none⟩)), .val (.int .i64 x.ret), .val (.agg #[.slice A (x.ps.take 40).length c, .int .i64 x.ret]), .cls (SliC [.slice A (x.ps.take 40).length c, .int .i64 x.ret] 63) (slic_grow)]) (Gr.spφ_grow _) ?_ ?_
      · intro q o a W4 hi ho hb hfr hpre
        have t1 : a.tmps[1]?.getD undef = .pointer (some ⟨w.heap.size, 0, none⟩) := Gr.slot (hfr.f 1 (by intro j hj; omega))
        have t3 : a.tmps[3]?.getD undef = .func (.func 29) #[] #[] := Gr.slot (hfr.f 3 (by intro j hj; omega))
        have t4 : a.tmps[4]?.getD undef = .pointer (some ⟨g, 0, none⟩) := Gr.slot (hfr.f 4 (by intro j hj; omega))
        have t5 : a.tmps[5]?.getD undef = .int .i64 (i : Int) := Gr.slot (hfr.f 5 (by intro j hj; omega))
        have ge := (cells6 (blk_below RG2.out hb (blk_lt RG2.out))).2.2.2.1
        obtain ⟨k0, k1, k2, k3, k4, k5⟩ := cells6 (blk_below RP2.out hb (blk_lt RP2.out))
        have c0 := (hb.cell (p := ⟨b, off + i * 2, none⟩) HBL.out).trans D0.out
        have c1 := (hb.cell (p := ⟨b, off + i * 2 + 1, none⟩) HBL.out).trans D1.out
        match q, hi with
          | 0, _ =>
            obtain rfl := Option.some.inj ho
            refine Gr.val (v := .pointer (some ⟨g, 3, none⟩)) (w' := W4) (by simp [go_sem, t4]) ⟨_, rfl, rfl, Below.refl _ _⟩
          | 1, _ =>
            have p30 : a.tmps[30]?.getD undef = .pointer (some ⟨g, 3, none⟩) := Gr.slot (hpre { on := 0, ground := .data } (by obtain rfl := Option.some.inj ho; simp) rfl (by decide))
            obtain rfl := Option.some.inj ho
            refine Gr.val (v := vr) (w' := W4) (by simp [go_sem, p30, ge]) ⟨_, rfl, rfl, Below.refl _ _⟩
          | 2, _ =>
            obtain rfl := Option.some.inj ho
            refine Gr.val (v := .func (.func 29) #[] #[]) (w' := W4) (by simp [go_sem, t3]) ⟨_, rfl, rfl, Below.refl _ _⟩
          | 3, _ =>
            obtain rfl := Option.some.inj ho
            refine Gr.val (v := .pointer (some ⟨w.heap.size, 3, none⟩)) (w' := W4) (by simp [go_sem, t1]) ⟨_, rfl, rfl, Below.refl _ _⟩
          | 4, _ =>
            have p33 : a.tmps[33]?.getD undef = .pointer (some ⟨w.heap.size, 3, none⟩) := Gr.slot (hpre { on := 3, ground := .data } (by obtain rfl := Option.some.inj ho; simp) rfl (by decide))
            obtain rfl := Option.some.inj ho
            refine Gr.val (v := .slice (some ⟨b, off, none⟩) p.fs.length cf) (w' := W4) (by simp [go_sem, p33, k3]) ⟨_, rfl, rfl, Below.refl _ _⟩
          | 5, _ =>
            obtain rfl := Option.some.inj ho
            refine Gr.val (v := .int .i64 (i : Int)) (w' := W4) (by simp [go_sem, t5]) ⟨_, rfl, rfl, Below.refl _ _⟩
          | 6, _ =>
            have p34 : a.tmps[34]?.getD undef = .slice (some ⟨b, off, none⟩) p.fs.length cf := Gr.slot (hpre { on := 4, ground := .data } (by obtain rfl := Option.some.inj ho; simp) rfl (by decide))
            have p35 : a.tmps[35]?.getD undef = .int .i64 (i : Int) := Gr.slot (hpre { on := 5, ground := .data } (by obtain rfl := Option.some.inj ho; simp) rfl (by decide))
            obtain rfl := Option.some.inj ho
            refine Gr.val (v := .pointer (some ⟨b, off + i * 2, none⟩)) (w' := W4) (by simp [go_sem, p34, p35, hI, Addr.add]) ⟨_, rfl, rfl, Below.refl _ _⟩
          | 7, _ =>
            have p36 : a.tmps[36]?.getD undef = .pointer (some ⟨b, off + i * 2, none⟩) := Gr.slot (hpre { on := 6, ground := .data } (by obtain rfl := Option.some.inj ho; simp) rfl (by decide))
            obtain rfl := Option.some.inj ho
            refine Gr.val (v := .pointer (some ⟨b, off + i * 2, none⟩)) (w' := W4) (by simp [go_sem, p36, Addr.add]) ⟨_, rfl, rfl, Below.refl _ _⟩
          | 8, _ =>
            have p37 : a.tmps[37]?.getD undef = .pointer (some ⟨b, off + i * 2, none⟩) := Gr.slot (hpre { on := 7, ground := .data } (by obtain rfl := Option.some.inj ho; simp) rfl (by decide))
            obtain rfl := Option.some.inj ho
            refine Gr.val (v := .slice A x.ps.length c) (w' := W4) (by simp [go_sem, p37, c0]) ⟨_, rfl, rfl, Below.refl _ _⟩
          | 9, _ =>
            have p32 : a.tmps[32]?.getD undef = .func (.func 29) #[] #[] := Gr.slot (hpre { on := 2, ground := .data } (by obtain rfl := Option.some.inj ho; simp) rfl (by decide))
            have p38 : a.tmps[38]?.getD undef = .slice A x.ps.length c := Gr.slot (hpre { on := 8, ground := .data } (by obtain rfl := Option.some.inj ho; simp) rfl (by decide))
            obtain rfl := Option.some.inj ho
            refine Gr.call (f := 29) (args := #[.slice A x.ps.length c]) (by simp [go_sem, p32, p38]) ((CX.out A x.ps c W4 AT.out XC.out).mono ?_)
            rintro e w' ⟨rfl, rfl⟩
            exact ⟨_, rfl, _, rfl, rfl, Below.refl _ _⟩
          | 10, _ =>
            obtain rfl := Option.some.inj ho
            refine Gr.val (v := .pointer (some ⟨w.heap.size, 3, none⟩)) (w' := W4) (by simp [go_sem, t1]) ⟨_, rfl, rfl, Below.refl _ _⟩
          | 11, _ =>
            have p40 : a.tmps[40]?.getD undef = .pointer (some ⟨w.heap.size, 3, none⟩) := Gr.slot (hpre { on := 10, ground := .data } (by obtain rfl := Option.some.inj ho; simp) rfl (by decide))
            obtain rfl := Option.some.inj ho
            refine Gr.val (v := .slice (some ⟨b, off, none⟩) p.fs.length cf) (w' := W4) (by simp [go_sem, p40, k3]) ⟨_, rfl, rfl, Below.refl _ _⟩
          | 12, _ =>
            obtain rfl := Option.some.inj ho
            refine Gr.val (v := .int .i64 (i : Int)) (w' := W4) (by simp [go_sem, t5]) ⟨_, rfl, rfl, Below.refl _ _⟩
          | 13, _ =>
            have p41 : a.tmps[41]?.getD undef = .slice (some ⟨b, off, none⟩) p.fs.length cf := Gr.slot (hpre { on := 11, ground := .data } (by obtain rfl := Option.some.inj ho; simp) rfl (by decide))
            have p42 : a.tmps[42]?.getD undef = .int .i64 (i : Int) := Gr.slot (hpre { on := 12, ground := .data } (by obtain rfl := Option.some.inj ho; simp) rfl (by decide))
            obtain rfl := Option.some.inj ho
            refine Gr.val (v := .pointer (some ⟨b, off + i * 2, none⟩)) (w' := W4) (by simp [go_sem, p41, p42, hI, Addr.add]) ⟨_, rfl, rfl, Below.refl _ _⟩
          | 14, _ =>
            have p43 : a.tmps[43]?.getD undef = .pointer (some ⟨b, off + i * 2, none⟩) := Gr.slot (hpre { on := 13, ground := .data } (by obtain rfl := Option.some.inj ho; simp) rfl (by decide))
            obtain rfl := Option.some.inj ho
            refine Gr.val (v := .pointer (some ⟨b, off + i * 2 + 1, none⟩)) (w' := W4) (by simp [go_sem, p43, Addr.add]) ⟨_, rfl, rfl, Below.refl _ _⟩
          | 15, _ =>
            have p44 : a.tmps[44]?.getD undef = .pointer (some ⟨b, off + i * 2 + 1, none⟩) := Gr.slot (hpre { on := 14, ground := .data } (by obtain rfl := Option.some.inj ho; simp) rfl (by decide))
            obtain rfl := Option.some.inj ho
            refine Gr.val (v := .int .i64 x.ret) (w' := W4) (by simp [go_sem, p44, c1]) ⟨_, rfl, rfl, Below.refl _ _⟩
          | 16, _ =>
            have p39 : a.tmps[39]?.getD undef = .slice A (x.ps.take 40).length c := Gr.slot (hpre { on := 9, ground := .data } (by obtain rfl := Option.some.inj ho; simp) rfl (by decide))
            have p45 : a.tmps[45]?.getD undef = .int .i64 x.ret := Gr.slot (hpre { on := 15, ground := .data } (by obtain rfl := Option.some.inj ho; simp) rfl (by decide))
            obtain rfl := Option.some.inj ho
            refine Gr.val (v := .agg #[.slice A (x.ps.take 40).length c, .int .i64 x.ret]) (w' := W4) (by simp [go_sem, p39, p45]) ⟨_, rfl, rfl, Below.refl _ _⟩
          | 17, _ =>
            have p46 : a.tmps[46]?.getD undef = .agg #[.slice A (x.ps.take 40).length c, .int .i64 x.ret] := Gr.slot (hpre { on := 16, ground := .data } (by obtain rfl := Option.some.inj ho; simp) rfl (by decide))
            obtain rfl := Option.some.inj ho
            refine Gr.val (v := .slice (some ⟨W4.heap.size, 0, none⟩) 1 1) (w' := W4.alloc (.cells #[.slice A (x.ps.take 40).length c, .int .i64 x.ret] 63)) (by simp [go_sem, p46]) ⟨_, rfl, ⟨_, rfl, heap_last _ _ _ rfl⟩, below1 _ _⟩
          | q + 18, h => omega
      intro o1 o2 o3 a W4 h1 h2 h3 hb hfr hall
      obtain ⟨gb, hvb, hgb⟩ : SliC [.slice A (x.ps.take 40).length c, .int .i64 x.ret] 63 (a.eval (.tmp 47)) W4 := hall 17 (by omega)
      have hvr : a.eval (.tmp 31) = vr := hall 1 (by omega)
      have hds : a.tmps.size = 78 := hfr.s
      have RG4 := Lib.hid (blk_below RG2.out hb (blk_lt RG2.out))
      have OW4 := Lib.hid (own_below OW.out hb)
      have MW4 := Lib.hid (Nat.le_trans MW.out hb.size)
      have PX4 := Lib.hid (fun z hz => (show IL 0 w0 z.1 (elF.il z.2) ∧ elF.ok z.2 from PX.out z hz))
      have RZ4 := Lib.hid (blk_below RZ2.out hb (blk_lt RZ2.out))
      have RP4 := Lib.hid (blk_below RP2.out hb (blk_lt RP2.out))
      have B4 := Lib.hid (B2.out.trans (hb.mono B2.out.size))
      have KY4 : Hid (IL 0 w0 (.slice A (x.ps.take 40).length c) (fewFq x).ps) := ILx
      obtain rfl := Option.some.inj h1
      obtain rfl := Option.some.inj h2
      obtain rfl := Option.some.inj h3
      refine Gr.of_step (ops := #[]) (E := False) rfl (step_append_lies _ rfl (.tmp 31) (.tmp 47) 22 rfl w.heap.size 63 iF _ 2 32 Try.underlying22 hiF hzF hsF hbF rfl (by decide) vr ps.length (flat elF ps) hvr OW4.out ⟨gb, 0, none⟩ 1 1 [.slice A (x.ps.take 40).length c, .int .i64 x.ret] hvb rfl (fun j u hj => by rw [add_plain0]; exact (row_cell (cs := [.slice A (x.ps.take 40).length c, .int .i64 x.ret]) hgb j).trans hj) (fun u hu => by simp at hu; rcases hu with rfl | rfl <;> rfl) (by decide) (by unfold maxLen; have := PL.out; omega) (by have := PL.out; omega) MW4.out W4.heap.size rfl ?_)
      intro gg cap W5 own5 grow5 lies5 lt5
      have RG5 := Lib.hid (blk_grown OW4.out grow5 RG4.out (by decide))
      have RZ5 := Lib.hid (blk_grown OW4.out grow5 RZ4.out (by decide))
      have RP5 := Lib.hid (blk_grown OW4.out grow5 RP4.out (by decide))
      have RO5 := Lib.hid (RowOld.snoc (x := fewFq x) (vx := .slice A (x.ps.take 40).length c) PS.out PX4.out KY4.out trivial own5)
      have B5 := Lib.hid (B4.out.grown grow5 MW4.out (fun q hq => (OW4.out.lt q hq).1))
      obtain ⟨z0, z1, z2, z3, z4, z5, u0, u1, u2, u3, u4, u5⟩ := row6 RG5.out
      have t4 : a.tmps[4]?.getD undef = .pointer (some ⟨g, 0, none⟩) := Gr.slot (hfr.f 4 (by intro j hj; omega))
      refine Gr.val (a := a.put (some 48) (.slice (some ⟨gg, 0, none⟩) (ps.length + 1) cap)) (v := .pointer (some ⟨g, 3, none⟩)) (w' := W5) (by simp [go_sem, Act.put, t4]) ?_
      refine Gr.skip (a := ((a.put (some 48) (.slice (some ⟨gg, 0, none⟩) (ps.length + 1) cap)).put (some 49) (.pointer (some ⟨g, 3, none⟩)))) (w' := W5.setCell ⟨g, 3, none⟩ (.slice (some ⟨gg, 0, none⟩) (ps.length + 1) cap)) (by simp [go_sem, Act.put, hds, z3, u3]) rfl ?_
      have RG6 := Lib.hid (blk_set (cs := [_, _, _, _, _, _]) RG5.out 3 (.slice (some ⟨gg, 0, none⟩) (ps.length + 1) cap))
      have RO6 := Lib.hid (RO5.out.set (i := 3) (.slice (some ⟨gg, 0, none⟩) (ps.length + 1) cap) RG5.out (by decide))
      have RZ6 := Lib.hid (blk_other (i := 3) RZ5.out hgn.1.symm (.slice (some ⟨gg, 0, none⟩) (ps.length + 1) cap))
      have RP6 := Lib.hid (blk_other (i := 3) RP5.out hgn.2.symm (.slice (some ⟨gg, 0, none⟩) (ps.length + 1) cap))
      have B6 := Lib.hid (B5.out.setCell (p := ⟨g, 3, none⟩) hg3 (.slice (some ⟨gg, 0, none⟩) (ps.length + 1) cap))
      generalize W5.setCell ⟨g, 3, none⟩ (.slice (some ⟨gg, 0, none⟩) (ps.length + 1) cap) = W6 at *
      have ev := fun (s : Nat) (h1 : s ≠ 48) (h2 : s ≠ 49) (h3 : ∀ j, j < 18 → j + 30 ≠ s) => (show ((a.put (some 48) (.slice (some ⟨gg, 0, none⟩) (ps.length + 1) cap)).put (some 49) (.pointer (some ⟨g, 3, none⟩))).eval (.tmp s) = a.eval (.tmp s) from by
        rw [Gr.eval_put _ (by simp [Act.put, hds]), if_neg (Ne.symm h2), Gr.eval_put _ (by rw [hds]; decide), if_neg (Ne.symm h1)]).trans (hfr.f s h3)
      have hd3 : ((a.put (some 48) (.slice (some ⟨gg, 0, none⟩) (ps.length + 1) cap)).put (some 49) (.pointer (some ⟨g, 3, none⟩))).defers = [] := hfr.d
      have hs3 : ((a.put (some 48) (.slice (some ⟨gg, 0, none⟩) (ps.length + 1) cap)).put (some 49) (.pointer (some ⟨g, 3, none⟩))).tmps.size = 78 := by simp [Act.put, hds]
      have v0 := ev 0 (by decide) (by decide) (by intro j hj; omega)
      have v1 := ev 1 (by decide) (by decide) (by intro j hj; omega)
      have v2 := ev 2 (by decide) (by decide) (by intro j hj; omega)
      have v3 := ev 3 (by decide) (by decide) (by intro j hj; omega)
      have v4 := ev 4 (by decide) (by decide) (by intro j hj; omega)
      have v6 := ev 6 (by decide) (by decide) (by intro j hj; omega)
      have v7 := ev 7 (by decide) (by decide) (by intro j hj; omega)
      have v8 := ev 8 (by decide) (by decide) (by intro j hj; omega)
      have v9 := ev 9 (by decide) (by decide) (by intro j hj; omega)
      have v10 := ev 10 (by decide) (by decide) (by intro j hj; omega)
      have v11 := ev 11 (by decide) (by decide) (by intro j hj; omega)
      have v12 := ev 12 (by decide) (by decide) (by intro j hj; omega)
      have v13 := ev 13 (by decide) (by decide) (by intro j hj; omega)
      have v14 := ev 14 (by decide) (by decide) (by intro j hj; omega)
      have v15 := ev 15 (by decide) (by decide) (by intro j hj; omega)
      have v16 := ev 16 (by decide) (by decide) (by intro j hj; omega)
      have v17 := ev 17 (by decide) (by decide) (by intro j hj; omega)
      have v18 := ev 18 (by decide) (by decide) (by intro j hj; omega)
      have v50 := ev 50 (by decide) (by decide) (by intro j hj; omega)
      have v51 := ev 51 (by decide) (by decide) (by intro j hj; omega)
      have v52 := ev 52 (by decide) (by decide) (by intro j hj; omega)
      have v53 := ev 53 (by decide) (by decide) (by intro j hj; omega)
      have v54 := ev 54 (by decide) (by decide) (by intro j hj; omega)
      have v55 := ev 55 (by decide) (by decide) (by intro j hj; omega)
      have v56 := ev 56 (by decide) (by decide) (by intro j hj; omega)
      have v57 := ev 57 (by decide) (by decide) (by intro j hj; omega)
      have v58 := ev 58 (by decide) (by decide) (by intro j hj; omega)
      have v59 := ev 59 (by decide) (by decide) (by intro j hj; omega)
      have v60 := ev 60 (by decide) (by decide) (by intro j hj; omega)
      have v61 := ev 61 (by decide) (by decide) (by intro j hj; omega)
      have v62 := ev 62 (by decide) (by decide) (by intro j hj; omega)
      have v63 := ev 63 (by decide) (by decide) (by intro j hj; omega)
      have v64 := ev 64 (by decide) (by decide) (by intro j hj; omega)
      have v65 := ev 65 (by decide) (by decide) (by intro j hj; omega)
      have v66 := ev 66 (by decide) (by decide) (by intro j hj; omega)
      have v67 := ev 67 (by decide) (by decide) (by intro j hj; omega)
      have v68 := ev 68 (by decide) (by decide) (by intro j hj; omega)
      have v69 := ev 69 (by decide) (by decide) (by intro j hj; omega)
      have v70 := ev 70 (by decide) (by decide) (by intro j hj; omega)
      have v71 := ev 71 (by decide) (by decide) (by intro j hj; omega)
      have v72 := ev 72 (by decide) (by decide) (by intro j hj; omega)
      have v73 := ev 73 (by decide) (by decide) (by intro j hj; omega)
      have v74 := ev 74 (by decide) (by decide) (by intro j hj; omega)
      have v75 := ev 75 (by decide) (by decide) (by intro j hj; omega)
      have v76 := ev 76 (by decide) (by decide) (by intro j hj; omega)
      have v77 := ev 77 (by decide) (by decide) (by intro j hj; omega)
      have v5 := ev 5 (by decide) (by decide) (by intro j hj; omega)
      clear ev hds t4 hfr hall hvb hvr hgb own5 grow5 lies5 lt5 z0 z1 z2 z3 z4 z5 u0 u1 u2 u3 u4 u5 hb
      generalize (a.put (some 48) (.slice (some ⟨gg, 0, none⟩) (ps.length + 1) cap)).put (some 49) (.pointer (some ⟨g, 3, none⟩)) = a3 at *
      obtain ⟨n19, hn19⟩ : ∃ u, a3.tmps[19]?.getD undef = u := ⟨_, rfl⟩
      obtain ⟨n20, hn20⟩ : ∃ u, a3.tmps[20]?.getD undef = u := ⟨_, rfl⟩
      obtain ⟨n21, hn21⟩ : ∃ u, a3.tmps[21]?.getD undef = u := ⟨_, rfl⟩
      obtain ⟨n22, hn22⟩ : ∃ u, a3.tmps[22]?.getD undef = u := ⟨_, rfl⟩
      obtain ⟨n23, hn23⟩ : ∃ u, a3.tmps[23]?.getD undef = u := ⟨_, rfl⟩
      obtain ⟨n24, hn24⟩ : ∃ u, a3.tmps[24]?.getD undef = u := ⟨_, rfl⟩
      obtain ⟨n25, hn25⟩ : ∃ u, a3.tmps[25]?.getD undef = u := ⟨_, rfl⟩
      obtain ⟨n26, hn26⟩ : ∃ u, a3.tmps[26]?.getD undef = u := ⟨_, rfl⟩
      obtain ⟨n27, hn27⟩ : ∃ u, a3.tmps[27]?.getD undef = u := ⟨_, rfl⟩
      obtain ⟨n28, hn28⟩ : ∃ u, a3.tmps[28]?.getD undef = u := ⟨_, rfl⟩
      obtain ⟨n29, hn29⟩ : ∃ u, a3.tmps[29]?.getD undef = u := ⟨_, rfl⟩
      obtain ⟨n30, hn30⟩ : ∃ u, a3.tmps[30]?.getD undef = u := ⟨_, rfl⟩
      obtain ⟨n31, hn31⟩ : ∃ u, a3.tmps[31]?.getD undef = u := ⟨_, rfl⟩
      obtain ⟨n32, hn32⟩ : ∃ u, a3.tmps[32]?.getD undef = u := ⟨_, rfl⟩
      obtain ⟨n33, hn33⟩ : ∃ u, a3.tmps[33]?.getD undef = u := ⟨_, rfl⟩
      obtain ⟨n34, hn34⟩ : ∃ u, a3.tmps[34]?.getD undef = u := ⟨_, rfl⟩
      obtain ⟨n35, hn35⟩ : ∃ u, a3.tmps[35]?.getD undef = u := ⟨_, rfl⟩
      obtain ⟨n36, hn36⟩ : ∃ u, a3.tmps[36]?.getD undef = u := ⟨_, rfl⟩
      obtain ⟨n37, hn37⟩ : ∃ u, a3.tmps[37]?.getD undef = u := ⟨_, rfl⟩
      obtain ⟨n38, hn38⟩ : ∃ u, a3.tmps[38]?.getD undef = u := ⟨_, rfl⟩
      obtain ⟨n39, hn39⟩ : ∃ u, a3.tmps[39]?.getD undef = u := ⟨_, rfl⟩
      obtain ⟨n40, hn40⟩ : ∃ u, a3.tmps[40]?.getD undef = u := ⟨_, rfl⟩
      obtain ⟨n41, hn41⟩ : ∃ u, a3.tmps[41]?.getD undef = u := ⟨_, rfl⟩
      obtain ⟨n42, hn42⟩ : ∃ u, a3.tmps[42]?.getD undef = u := ⟨_, rfl⟩
      obtain ⟨n43, hn43⟩ : ∃ u, a3.tmps[43]?.getD undef = u := ⟨_, rfl⟩
      obtain ⟨n44, hn44⟩ : ∃ u, a3.tmps[44]?.getD undef = u := ⟨_, rfl⟩
      obtain ⟨n45, hn45⟩ : ∃ u, a3.tmps[45]?.getD undef = u := ⟨_, rfl⟩
      obtain ⟨n46, hn46⟩ : ∃ u, a3.tmps[46]?.getD undef = u := ⟨_, rfl⟩
      obtain ⟨n47, hn47⟩ : ∃ u, a3.tmps[47]?.getD undef = u := ⟨_, rfl⟩
      obtain ⟨n48, hn48⟩ : ∃ u, a3.tmps[48]?.getD undef = u := ⟨_, rfl⟩
      obtain ⟨n49, hn49⟩ : ∃ u, a3.tmps[49]?.getD undef = u := ⟨_, rfl⟩
      have hA : a3 = ⟨#[pv p (some ⟨b, off, none⟩) cf Ae ce Ao co, .pointer (some ⟨w.heap.size, 0, none⟩), .pointer (some ⟨w.heap.size + 1, 0, none⟩), .func (.func 29) #[] #[], .pointer (some ⟨g, 0, none⟩), .int .i64 (i : Int), undef, undef, u8, u9, u10, u11, u12, u13, u14, u15, u16, u17, u18, n19, n20, n21, n22, n23, n24, n25, n26, n27, n28, n29, n30, n31, n32, n33, n34, n35, n36, n37, n38, n39, n40, n41, n42, n43, n44, n45, n46, n47, n48, n49, undef, undef, undef, undef, undef, undef, undef, undef, undef, undef, undef, undef, undef, undef, undef, undef, undef, undef, undef, undef, undef, undef, undef, undef, undef, undef, undef, undef], []⟩ := Gr.act_eq (l := [pv p (some ⟨b, off, none⟩) cf Ae ce Ao co, .pointer (some ⟨w.heap.size, 0, none⟩), .pointer (some ⟨w.heap.size + 1, 0, none⟩), .func (.func 29) #[] #[], .pointer (some ⟨g, 0, none⟩), .int .i64 (i : Int), undef, undef, u8, u9, u10, u11, u12, u13, u14, u15, u16, u17, u18, n19, n20, n21, n22, n23, n24, n25, n26, n27, n28, n29, n30, n31, n32, n33, n34, n35, n36, n37, n38, n39, n40, n41, n42, n43, n44, n45, n46, n47, n48, n49, undef, undef, undef, undef, undef, undef, undef, undef, undef, undef, undef, undef, undef, undef, undef, undef, undef, undef, undef, undef, undef, undef, undef, undef, undef, undef, undef, undef]) hd3 hs3 (by
        intro i hi
        match i, hi with
        | 0, _ => exact Gr.slot v0
        | 1, _ => exact Gr.slot v1
        | 2, _ => exact Gr.slot v2
        | 3, _ => exact Gr.slot v3
        | 4, _ => exact Gr.slot v4
        | 5, _ => exact Gr.slot v5
        | 6, _ => exact Gr.slot v6
        | 7, _ => exact Gr.slot v7
        | 8, _ => exact Gr.slot v8
        | 9, _ => exact Gr.slot v9
        | 10, _ => exact Gr.slot v10
        | 11, _ => exact Gr.slot v11
        | 12, _ => exact Gr.slot v12
        | 13, _ => exact Gr.slot v13
        | 14, _ => exact Gr.slot v14
        | 15, _ => exact Gr.slot v15
        | 16, _ => exact Gr.slot v16
        | 17, _ => exact Gr.slot v17
        | 18, _ => exact Gr.slot v18
        | 19, _ => exact hn19
        | 20, _ => exact hn20
        | 21, _ => exact hn21
        | 22, _ => exact hn22
        | 23, _ => exact hn23
        | 24, _ => exact hn24
        | 25, _ => exact hn25
        | 26, _ => exact hn26
        | 27, _ => exact hn27
        | 28, _ => exact hn28
        | 29, _ => exact hn29
        | 30, _ => exact hn30
        | 31, _ => exact hn31
        | 32, _ => exact hn32
        | 33, _ => exact hn33
        | 34, _ => exact hn34
        | 35, _ => exact hn35
        | 36, _ => exact hn36
        | 37, _ => exact hn37
        | 38, _ => exact hn38
        | 39, _ => exact hn39
        | 40, _ => exact hn40
        | 41, _ => exact hn41
        | 42, _ => exact hn42
        | 43, _ => exact hn43
        | 44, _ => exact hn44
        | 45, _ => exact hn45
        | 46, _ => exact hn46
        | 47, _ => exact hn47
        | 48, _ => exact hn48
        | 49, _ => exact hn49
        | 50, _ => exact Gr.slot v50
        | 51, _ => exact Gr.slot v51
        | 52, _ => exact Gr.slot v52
        | 53, _ => exact Gr.slot v53
        | 54, _ => exact Gr.slot v54
        | 55, _ => exact Gr.slot v55
        | 56, _ => exact Gr.slot v56
        | 57, _ => exact Gr.slot v57
        | 58, _ => exact Gr.slot v58
        | 59, _ => exact Gr.slot v59
        | 60, _ => exact Gr.slot v60
        | 61, _ => exact Gr.slot v61
        | 62, _ => exact Gr.slot v62
        | 63, _ => exact Gr.slot v63
        | 64, _ => exact Gr.slot v64
        | 65, _ => exact Gr.slot v65
        | 66, _ => exact Gr.slot v66
        | 67, _ => exact Gr.slot v67
        | 68, _ => exact Gr.slot v68
        | 69, _ => exact Gr.slot v69
        | 70, _ => exact Gr.slot v70
        | 71, _ => exact Gr.slot v71
        | 72, _ => exact Gr.slot v72
        | 73, _ => exact Gr.slot v73
        | 74, _ => exact Gr.slot v74
        | 75, _ => exact Gr.slot v75
        | 76, _ => exact Gr.slot v76
        | 77, _ => exact Gr.slot v77
        | i + 78, h => simp only [List.length_cons, List.length_nil] at h; omega)
      clear hn19 hn20 hn21 hn22 hn23 hn24 hn25 hn26 hn27 hn28 hn29 hn30 hn31 hn32 hn33 hn34 hn35 hn36 hn37 hn38 hn39 hn40 hn41 hn42 hn43 hn44 hn45 hn46 hn47 hn48 hn49
      subst hA
      have HI1 : Hid (i + 1 ≤ p.fs.length ∧ i + 1 ≤ 40) := hin'.out
      go_wp2
      go_roundw
      case rel => exact ⟨i + 1, _, by go_num, HI1.out.1, HI1.out.2, RG6.out, by rw [TK.out]; exact RO6.out, RZ6.out, RP6.out, B6.out⟩
      case measure => simp [intOf]; omega
    · have hTK : (p.fs.take i).map fewFq = (p.fs.take 40).map fewFq := by
        congr 1
        by_cases h1 : i = 40
        · rw [h1]
        · rw [List.take_of_length_le (by omega), List.take_of_length_le (by omega)]
      have RO := Lib.hid (show RowOld elF w0 w.heap.size 63 wr vr ((p.fs.take 40).map fewFq) from hTK ▸ RO2.out)
      obtain ⟨Bf, df, hvr, _, _, _, _⟩ := RO.out.at (HB0.out.trans (B2.out.mono HB0.out.size))
      obtain ⟨nF, hnF⟩ : ∃ n, ((p.fs.take 40).map fewFq).length = n := ⟨_, rfl⟩
      rw [hnF] at hvr
      have HNF := Lib.hid hnF
      clear hnF
      subst hvr
      have RF := RO
      have RG := RG2
      have RZ := RZ2
      have RP := RP2
      have B1 := B2
      clear RO RO2 RG2 RZ2 RP2 B2 hTK
      obtain ⟨rp0, rp1, rp2, rp3, rp4, rp5⟩ := cells6 RP.out
      have hcs : ((i : Int) < (p.fs.length : Int) ∧ ¬ (i : Int) < 40) ∨ ¬ (i : Int) < (p.fs.length : Int) := by omega
      clear hin
      rcases hcs with ⟨hc1, hc2⟩ | hc1
      all_goals
        go_wp2
        go_loopw [6] (fun t wr => ∃ (i : Nat) (vr : Value), t = .int .i64 (i : Int) ∧ i ≤ p.ops.length ∧ i ≤ 310 ∧ wr.heap[g]? = some (.cells #[.int .i64 p.vars, .int .i64 p.objs, .int .i64 p.fields, .slice Bf nF df, .slice Ae nE ce, vr] 26) ∧ RowOld elO w0 w.heap.size 64 wr vr ((p.ops.take i).map fewOq) ∧ wr.heap[w.heap.size + 1]? = some (.cells #[.int .i64 0, .int .i64 0, .int .i64 0, .slice none 0 0, .slice none 0 0, .slice none 0 0] 26) ∧ wr.heap[w.heap.size]? = some (.cells #[.int .i64 p.vars, .int .i64 p.objs, .int .i64 p.fields, .slice Af p.fs.length cf, .slice Ae p.en.length ce, .slice Ao p.ops.length co] 26) ∧ Below w.heap.size w wr ∧ RowOld elF w0 w.heap.size 63 wr (.slice Bf nF df) ((p.fs.take 40).map fewFq)) (fun t _ => p.ops.length - (intOf t).toNat)
        case atStart => exact ⟨0, _, rfl, Nat.zero_le _, Nat.zero_le _, RG.out, by rw [List.take_zero]; exact RowOld.nil _ _ _ _, RZ.out, RP.out, B1.out, RF.out⟩
        case round =>
          obtain ⟨i, vr, rfl, hil, hi310, hg, hro, hz, hp, hb, hrf⟩ := hrel
          have RG2 := Lib.hid hg
          have RO2 := Lib.hid hro
          have RZ2 := Lib.hid hz
          have RP2 := Lib.hid hp
          have B2 := Lib.hid hb
          have RF2 := Lib.hid hrf
          clear hg hro hz hp hb hrf RG RZ RP B1 RF rp0 rp1 rp2 rp3 rp4 rp5
          obtain ⟨rp0, rp1, rp2, rp3, rp4, rp5⟩ := cells6 RP2.out
          by_cases hin : i < p.ops.length ∧ i < 310
          · have hI : (i : Int) < (p.ops.length : Int) := by omega
            have hI4 : (i : Int) < 310 := by omega
            obtain ⟨b, off, hA, _, hbl, hc⟩ := HO.out (by omega)
            obtain ⟨v, e0, e1, e2, e3, e4, e5, e6, il, hh⟩ := hc i hin.1
            have c0 := ((HB0.out.trans (B2.out.mono HB0.out.size)).cell (p := ⟨b, off + i * 7, none⟩) hbl).trans e0
            have c1 := ((HB0.out.trans (B2.out.mono HB0.out.size)).cell (p := ⟨b, off + i * 7 + 1, none⟩) hbl).trans e1
            have c2 := ((HB0.out.trans (B2.out.mono HB0.out.size)).cell (p := ⟨b, off + i * 7 + 2, none⟩) hbl).trans e2
            have c3 := ((HB0.out.trans (B2.out.mono HB0.out.size)).cell (p := ⟨b, off + i * 7 + 3, none⟩) hbl).trans e3
            have c4 := ((HB0.out.trans (B2.out.mono HB0.out.size)).cell (p := ⟨b, off + i * 7 + 4, none⟩) hbl).trans e4
            have c5 := ((HB0.out.trans (B2.out.mono HB0.out.size)).cell (p := ⟨b, off + i * 7 + 5, none⟩) hbl).trans e5
            have c6 := ((HB0.out.trans (B2.out.mono HB0.out.size)).cell (p := ⟨b, off + i * 7 + 6, none⟩) hbl).trans e6
            have TK := Lib.hid (show (p.ops.take (i + 1)).map fewOq = (p.ops.take i).map fewOq ++ [fewOq p.ops[i]] by rw [List.take_add_one, List.getElem?_eq_getElem hin.1, List.map_append]; rfl)
            have HH := Lib.hid hh
            generalize p.ops[i]'_ = x at *
            obtain ⟨A, c, rfl, hAt, hAn, hAc, hAm, hAl⟩ := il
            have AT := Lib.hid hAt
            have XC := Lib.hid (⟨hAc, hAm⟩ : x.args.length ≤ c ∧ c ≤ 9223372036854775807)
            have ILx := Lib.hid (il_take (show IL 0 w0 (.slice A x.args.length c) x.args from ⟨A, c, rfl, hAt, hAn, hAc, hAm, fun a q => Nat.zero_le _⟩) 40)
            obtain ⟨nA, hnA⟩ : ∃ n, (x.args.take 40).length = n := ⟨_, rfl⟩
            have CXA : Hid (∀ X, Calls Try.prog 29 #[.slice A x.args.length c] X fun e w' => e = .returned (.slice A nA c) ∧ X = w') := Lib.hid (fun X => by
              have := CX.out A x.args c X AT.out XC.out
              rw [hnA] at this
              exact this)
            have KLx : Hid (IL 0 w0 (.slice A nA c) (x.args.take 40)) := Lib.hid (by have := ILx.out; rw [hnA] at this; exact this)
            clear hnA
            obtain ⟨ps, hps, hown, hpx⟩ := RO2.out
            have PS := Lib.hid hps
            have PX := Lib.hid hpx
            have OW := Lib.hid hown
            have hpl : ps.length ≤ 310 := by rw [← List.length_map (f := Prod.snd), hps, List.length_map, List.length_take]; omega
            have PL := Lib.hid hpl
            have HIN := Lib.hid hin
            have bX := below1 wr (.cells #[.int .i64 x.kind, .int .i64 x.fn, .int .i64 x.a, .int .i64 x.b, .int .i64 x.c, .slice A x.args.length c, .float .f64 x.heat] 64)
            have BX := Lib.hid bX
            have RX := Lib.hid (heap_last wr (.cells #[.int .i64 x.kind, .int .i64 x.fn, .int .i64 x.a, .int .i64 x.b, .int .i64 x.c, .slice A x.args.length c, .float .f64 x.heat] 64) wr.heap.size rfl)
            have gxg : wr.heap.size ≠ g := by have := blk_lt RG2.out; omega
            have gx1 : wr.heap.size ≠ w.heap.size + 1 := by have := blk_lt RZ2.out; omega
            have gx0 : wr.heap.size ≠ w.heap.size := by have := blk_lt RP2.out; omega
            have gxM : w.heap.size ≤ wr.heap.size := B2.out.size
            subst hA
            clear hc e0 e1 e2 e3 e4 e5 e6 hAt hAn hAc hAm hAl hps hpx hown hpl bX hh hin
            go_upto_region 11 with fail
            have RG3 := Lib.hid (blk_below RG2.out BX.out (blk_lt RG2.out))
            have RZ3 := Lib.hid (blk_below RZ2.out BX.out (blk_lt RZ2.out))
            have RP3 := Lib.hid (blk_below RP2.out BX.out (blk_lt RP2.out))
            have OW3 := Lib.hid (own_below OW.out BX.out)
            have PX3 := Lib.hid (fun z hz => (show IL 0 w0 z.1 (elO.il z.2) ∧ elO.ok z.2 from PX.out z hz))
            have RF3 := Lib.hid (RF2.out.below BX.out)
            have B3 := Lib.hid (B2.out.trans (BX.out.mono B2.out.size))
            have OB := Lib.hid (fun q (hq : vr.ownBlock = some q) => (OW.out.lt q hq).2)
            generalize hW3 : wr.alloc (.cells #[.int .i64 x.kind, .int .i64 x.fn, .int .i64 x.a, .int .i64 x.b, .int .i64 x.c, .slice A x.args.length c, .float .f64 x.heat] 64) = W3 at *
            generalize hGX : wr.heap.size = gx at *
            clear hW3 RG2 RZ2 RP2 OW PX RF2 B2 BX rp0 rp1 rp2 rp3 rp4 rp5 c0 c1 c2 c3 c4 c5 c6
            obtain ⟨rx0, rx1, rx2, rx3, rx4, rx5, rx6⟩ := seven RX.out
            have fz5 : W3.frozen? ⟨gx, 5, none⟩ = false := row_frozen (cs := [_, _, _, _, _, _, _]) RX.out 5
            go_upto_region 12 with (go_at_call 29; ((with_reducible refine (CXA.out _).mono ?_); rintro e w2 ⟨rfl, rfl⟩))
            have RX4 := Lib.hid (blk_set (cs := [_, _, _, _, _, _, _]) RX.out 5 (.slice A nA c))
            have RG4 := Lib.hid (blk_other (i := 5) RG3.out (Ne.symm gxg) (.slice A nA c))
            have RZ4 := Lib.hid (blk_other (i := 5) RZ3.out (Ne.symm gx1) (.slice A nA c))
            have RP4 := Lib.hid (blk_other (i := 5) RP3.out (Ne.symm gx0) (.slice A nA c))
            have OW4 := Lib.hid (ownsRow_setCell_other OW3.out (a := ⟨gx, 5, none⟩) (fun q => by have := OB.out gx q; omega) (.slice A nA c))
            have PX4 := Lib.hid (fun z hz => (show IL 0 w0 z.1 (elO.il z.2) ∧ elO.ok z.2 from PX3.out z hz))
            have RF4 := Lib.hid (RF3.out.set (i := 5) (.slice A nA c) RX.out (by decide))
            have B4 := Lib.hid (B3.out.setCell (p := ⟨gx, 5, none⟩) gxM (.slice A nA c))
            have KY4 : Hid (IL 0 w0 (.slice A nA c) (fewOq x).args) := KLx
            generalize W3.setCell ⟨gx, 5, none⟩ (.slice A nA c) = W4 at *
            clear RX RG3 RZ3 RP3 OW3 PX3 RF3 B3 OB rx0 rx1 rx2 rx3 rx4 rx5 rx6 fz5 ILx AT XC
            obtain ⟨rx0, rx1, rx2, rx3, rx4, rx5, rx6⟩ := seven RX4.out
            obtain ⟨rp0, rp1, rp2, rp3, rp4, rp5, rq0, rq1, rq2, rq3, rq4, rq5⟩ := row6 RG4.out
            have MW4 := Lib.hid B4.out.size
            go_wp2_with (at_builtin; refine wpList_append_own _ rfl _ _ 24 rfl w.heap.size 64 iO _ 7 72 Try.underlying24 hiO hzO hsO hbO rfl (by decide) _ _ _ rfl (OW4.out.alloc _) ⟨W4.heap.size, 0, none⟩ 1 1 [.int .i64 x.kind, .int .i64 x.fn, .int .i64 x.a, .int .i64 x.b, .int .i64 x.c, .slice A nA c, .float .f64 x.heat] rfl rfl (fun j u hj => by rw [add_plain0]; exact (row_cell (cs := [.int .i64 x.kind, .int .i64 x.fn, .int .i64 x.a, .int .i64 x.b, .int .i64 x.c, .slice A nA c, .float .f64 x.heat]) (heap_last W4 _ _ rfl) j).trans hj) (fun u hu => by simp at hu; rcases hu with rfl | rfl | rfl | rfl | rfl | rfl | rfl <;> rfl) (by unfold maxLen; have := PL.out; omega) (by have := PL.out; omega) (by have := MW4.out; simp; omega) ?_)
            intro v5 W5 own5 grow5 _
            have RG5 := Lib.hid (blk_grown (OW4.out.alloc _) grow5 (hp_old _ RG4.out) (by decide))
            have RZ5 := Lib.hid (blk_grown (OW4.out.alloc _) grow5 (hp_old _ RZ4.out) (by decide))
            have RP5 := Lib.hid (blk_grown (OW4.out.alloc _) grow5 (hp_old _ RP4.out) (by decide))
            have al4 := below1 W4 (.cells #[.int .i64 x.kind, .int .i64 x.fn, .int .i64 x.a, .int .i64 x.b, .int .i64 x.c, .slice A nA c, .float .f64 x.heat] 64)
            have RO5 := Lib.hid (RowOld.snoc (x := fewOq x) (vx := .slice A nA c) PS.out PX4.out KY4.out HH.out own5)
            have RF5 := Lib.hid ((RF4.out.below al4).grown (OW4.out.alloc _) (by decide) grow5)
            have B5 := Lib.hid ((B4.out.trans (al4.mono B4.out.size)).grown grow5 (by have := MW4.out; simp; omega) (fun q hq => (OW4.out.lt q hq).1))
            obtain ⟨A5, c5, hv5⟩ := own_form own5
            subst hv5
            clear own5 grow5 al4 rp0 rp1 rp2 rp3 rp4 rp5 rq0 rq1 rq2 rq3 rq4 rq5
            obtain ⟨rp0, rp1, rp2, rp3, rp4, rp5, rq0, rq1, rq2, rq3, rq4, rq5⟩ := row6 RG5.out
            go_upto_region 9 with fail
            have RG6 := Lib.hid (blk_set (cs := [_, _, _, _, _, _]) RG5.out 5 (.slice A5 (ps.length + 1) c5))
            have RO6 := Lib.hid (RO5.out.set (i := 5) (.slice A5 (ps.length + 1) c5) RG5.out (by decide))
            have RF6 := Lib.hid (RF5.out.set (i := 5) (.slice A5 (ps.length + 1) c5) RG5.out (by decide))
            have RZ6 := Lib.hid (blk_other (i := 5) RZ5.out hgn.1.symm (.slice A5 (ps.length + 1) c5))
            have RP6 := Lib.hid (blk_other (i := 5) RP5.out hgn.2.symm (.slice A5 (ps.length + 1) c5))
            have B6 := Lib.hid (B5.out.setCell (p := ⟨g, 5, none⟩) hg3 (.slice A5 (ps.length + 1) c5))
            generalize W5.setCell ⟨g, 5, none⟩ (.slice A5 (ps.length + 1) c5) = W6 at *
            go_wp2
            go_roundw
            case rel => exact ⟨i + 1, _, by go_num, HIN.out.1, HIN.out.2, RG6.out, by rw [TK.out]; exact RO6.out, RZ6.out, RP6.out, B6.out, RF6.out⟩
            case measure => have := HIN.out; simp [intOf]; omega
          · have hTK : (p.ops.take i).map fewOq = (p.ops.take 310).map fewOq := by
              congr 1
              by_cases h1 : i = 310
              · rw [h1]
              · rw [List.take_of_length_le (by omega), List.take_of_length_le (by omega)]
            have RO := Lib.hid (show RowOld elO w0 w.heap.size 64 wr vr ((p.ops.take 310).map fewOq) from hTK ▸ RO2.out)
            obtain ⟨Bo, do_, hvr, _, _, _, _⟩ := RO.out.at (HB0.out.trans (B2.out.mono HB0.out.size))
            obtain ⟨nO, hnO⟩ : ∃ n, ((p.ops.take 310).map fewOq).length = n := ⟨_, rfl⟩
            rw [hnO] at hvr
            have HNO := Lib.hid hnO
            clear hnO
            subst hvr
            obtain ⟨x0, x1, x2, x3, x4, x5⟩ := cells6 RG2.out
            obtain ⟨y0, y1, y2, y3, y4, y5, v0, v1, v2, v3, v4, v5⟩ := row6 RZ2.out
            clear RO2 hTK
            have hcs : ((i : Int) < (p.ops.length : Int) ∧ ¬ (i : Int) < 310) ∨ ¬ (i : Int) < (p.ops.length : Int) := by omega
            clear hin
            rcases hcs with ⟨hd1, hd2⟩ | hd1
            all_goals
              go_wp2
              have ST := fun (a0 a1 a2 a3 a4 a5 : Value) => (show ∀ x, x < wr.heap.size → x ≠ w.heap.size + 1 → ((((((wr.setCell ⟨w.heap.size + 1, 0, none⟩ a0).setCell ⟨w.heap.size + 1, 1, none⟩ a1).setCell ⟨w.heap.size + 1, 2, none⟩ a2).setCell ⟨w.heap.size + 1, 3, none⟩ a3).setCell ⟨w.heap.size + 1, 4, none⟩ a4).setCell ⟨w.heap.size + 1, 5, none⟩ a5).heap[x]? = wr.heap[x]? from fun x _ hne => by
                rw [Below.heap_setCell _ _ _ x hne, Below.heap_setCell _ _ _ x hne, Below.heap_setCell _ _ _ x hne, Below.heap_setCell _ _ _ x hne, Below.heap_setCell _ _ _ x hne, Below.heap_setCell _ _ _ x hne])
              have tyz : ∀ x, x < wr.heap.size → (x < w.heap.size ∨ ∃ t' cs fr, (t' = 3 ∨ t' = 63 ∨ t' = 64) ∧ wr.heap[x]? = some (.cells cs t' fr)) → x ≠ w.heap.size + 1 := by
                rintro x _ hq rfl
                rcases hq with hq | ⟨t', cs, fr, hz, hq⟩
                · omega
                · rw [RZ2.out] at hq
                  injection hq with hq
                  injection hq with _ hq _
                  rcases hz with z | z | z <;> exact absurd (hq.trans z) (by decide)
              (try simp only [Exit.inBlock, Exit.then])
              refine bodyPost_ret (results_cells rfl _ _ (w.heap.size + 1) [.int .i64 p.vars, .int .i64 p.objs, .int .i64 p.fields, .slice Bf nF df, .slice Ae nE ce, .slice Bo nO do_] _ rfl ?_ Try.underlying26 rprog_info) rfl ?_
              · exact six_of (set6 RZ2.out)
              · have S := ST (.int .i64 p.vars) (.int .i64 p.objs) (.int .i64 p.fields) (.slice Bf nF df) (.slice Ae nE ce) (.slice Bo nO do_)
                have SZ : wr.heap.size ≤ ((((((wr.setCell ⟨w.heap.size + 1, 0, none⟩ (.int .i64 p.vars)).setCell ⟨w.heap.size + 1, 1, none⟩ (.int .i64 p.objs)).setCell ⟨w.heap.size + 1, 2, none⟩ (.int .i64 p.fields)).setCell ⟨w.heap.size + 1, 3, none⟩ (.slice Bf nF df)).setCell ⟨w.heap.size + 1, 4, none⟩ (.slice Ae nE ce)).setCell ⟨w.heap.size + 1, 5, none⟩ (.slice Bo nO do_)).heap.size := by simp
                have BF := (((((B2.out.setCell (p := ⟨w.heap.size + 1, 0, none⟩) (Nat.le_succ _) (.int .i64 p.vars)).setCell (p := ⟨w.heap.size + 1, 1, none⟩) (Nat.le_succ _) (.int .i64 p.objs)).setCell (p := ⟨w.heap.size + 1, 2, none⟩) (Nat.le_succ _) (.int .i64 p.fields)).setCell (p := ⟨w.heap.size + 1, 3, none⟩) (Nat.le_succ _) (.slice Bf nF df)).setCell (p := ⟨w.heap.size + 1, 4, none⟩) (Nat.le_succ _) (.slice Ae nE ce)).setCell (p := ⟨w.heap.size + 1, 5, none⟩) (Nat.le_succ _) (.slice Bo nO do_)
                generalize (((((wr.setCell ⟨w.heap.size + 1, 0, none⟩ (.int .i64 p.vars)).setCell ⟨w.heap.size + 1, 1, none⟩ (.int .i64 p.objs)).setCell ⟨w.heap.size + 1, 2, none⟩ (.int .i64 p.fields)).setCell ⟨w.heap.size + 1, 3, none⟩ (.slice Bf nF df)).setCell ⟨w.heap.size + 1, 4, none⟩ (.slice Ae nE ce)).setCell ⟨w.heap.size + 1, 5, none⟩ (.slice Bo nO do_) = WF at *
                have q1 : RowOld elF w0 w.heap.size 63 WF (.slice Bf nF df) ((p.fs.take 40).map fewFq) := RF2.out.keep (fun x cs fr hq => S x (blk_lt hq) (tyz x (blk_lt hq) (.inr ⟨_, cs, fr, .inr (.inl rfl), hq⟩)))
                have q2 : IL 0 w0 (.slice Ae nE ce) (p.en.take 40) := by have q := il_take HC.out.2 40; rw [HNE.out] at q; exact q
                have q3 : RowOld elO w0 w.heap.size 64 WF (.slice Bo nO do_) ((p.ops.take 310).map fewOq) := RO.out.keep (fun x cs fr hq => S x (blk_lt hq) (tyz x (blk_lt hq) (.inr ⟨_, cs, fr, .inr (.inr rfl), hq⟩)))
                have hE := HNE.out
                have hF := HNF.out
                have hO := HNO.out
                subst hE hF hO
                exact ⟨_, _, _, _, _, _, rfl, q1, q2, q3, BF⟩
end Pm
end Go.Proofs.Ytnhgoeoffjcooaa
