/-
  Programs: rows of the call's own, of structs that hold a slice of numbers each (functions, ops): built cell by cell, kept while other memory turns, read.
-/
import Derived.Test.YtnhgoeoffjcooaaProAny
import Derived.Test.YtnhgoeoffjcooaaApp
namespace Go.Proofs.Ytnhgoeoffjcooaa
open Go.RowKit
@[go_sem] theorem run_store_float (P : Program) (w : World) (a : Addr) (m : Mode) (k : FloatKind) (b : Nat) : (store a (.float k b) m).run P w = stored P w a (.float k b) m := run_store P w a _ m rfl
namespace Pm
open B
set_option linter.unusedVariables false
/-- a slice of numbers: of old blocks (from B on, below M), or of a block that bears numbers -/
def KL (B M : Nat) (w : World) (v : Value) (l : List Int) : Prop := ∃ A c, v = .slice A l.length c ∧ At vInt w A l ∧ (A = none → c = 0) ∧ l.length ≤ c ∧ c ≤ 9223372036854775807 ∧
  ∀ a, A = some a → B ≤ a.block ∧ (0 < l.length → a.block < w.heap.size ∧ (a.block < M ∨ ∃ cs, w.heap[a.block]? = some (.cells cs 3)))
theorem KL.il {B M : Nat} {w : World} {v : Value} {l : List Int} (h : KL B M w v l) : IL B w v l := by
  obtain ⟨A, c, h1, h2, h3, h4, h5, h6⟩ := h
  exact ⟨A, c, h1, h2, h3, h4, h5, fun a q => (h6 a q).1⟩
/-- blocks of other types, and old ones, are as they were -/
theorem KL.keep {B M : Nat} {w w' : World} {v : Value} {l : List Int} (h : KL B M w v l) (hs : w.heap.size ≤ w'.heap.size) (hk : ∀ x, x < w.heap.size → (x < M ∨ ∃ cs fr, w.heap[x]? = some (.cells cs 3 fr)) → w'.heap[x]? = w.heap[x]?) : KL B M w' v l := by
  obtain ⟨A, c, h1, h2, h3, h4, h5, h6⟩ := h
  refine ⟨A, c, h1, fun hp => ?_, h3, h4, h5, fun a q => ?_⟩
  · obtain ⟨b, off, e, hl, hc⟩ := h2 hp
    have hb := (h6 _ e).2 hp
    refine ⟨b, off, e, Nat.lt_of_lt_of_le hl hs, fun i hi => ?_⟩
    exact (World.cell?_of_block (a := ⟨b, off + i, none⟩) (hk b hl (hb.2.imp id fun ⟨cs, e⟩ => ⟨cs, _, e⟩))).trans (hc i hi)
  · obtain ⟨p1, p23⟩ := h6 a q
    refine ⟨p1, fun hp => ?_⟩
    obtain ⟨p2, p3⟩ := p23 hp
    exact ⟨Nat.lt_of_lt_of_le p2 hs, p3.imp id fun ⟨cs, e⟩ => ⟨cs, (hk _ p2 (.inr ⟨cs, _, e⟩)).trans e⟩⟩
theorem KL.below {B M : Nat} {w w' : World} {v : Value} {l : List Int} (h : KL B M w v l) (hb : Below w.heap.size w w') : KL B M w' v l := h.keep hb.size fun x hx _ => hb.block x hx
theorem own_cap {w : World} {M t size n c m : Nat} {A : Option Addr} {xs : List Value} (h : w.ownsRow M t size (.slice A m c) n xs) : m = n ∧ (A = none → c = 0) ∧ n ≤ c ∧ c ≤ 9223372036854775807 := by
  rcases h.2 with ⟨e, hm⟩ | ⟨g, cap, cur, e, _, _, h3, h4, _⟩
  · injection e with e1 e2 e3; subst e1; exact ⟨by omega, fun _ => e3, by omega, by omega⟩
  · injection e with e1 e2 e3
    subst e1 e3
    unfold maxLen at h4
    exact ⟨e2, (fun h => by cases h), by omega, by omega⟩
theorem KL.own {M : Nat} {w : World} {v : Value} {l : List Int} (h : w.ownsRow M 3 1 v l.length (l.map vInt)) : KL M M w v l := by
  obtain ⟨A, c, hv, hA, _, _⟩ := own_at h
  subst hv
  obtain ⟨_, c1, c2, c3⟩ := own_cap h
  refine ⟨A, c, rfl, hA, c1, c2, c3, fun a q => ?_⟩
  rcases h.2 with ⟨e, _⟩ | ⟨g, cap, cur, e, hM, hg, _⟩
  · injection e with e1; rw [e1] at q; cases q
  · injection e with e1
    rw [e1] at q
    injection q with q
    subst q
    exact ⟨hM, fun _ => ⟨blk_lt hg, .inr ⟨_, hg⟩⟩⟩
theorem KL.old {B M : Nat} {w : World} {v : Value} {l : List Int} (h : IL B w v l) (hM : w.heap.size ≤ M) : KL B M w v l := by
  obtain ⟨A, c, h1, h2, h3, h4, h5, h6⟩ := h
  refine ⟨A, c, h1, h2, h3, h4, h5, fun a q => ⟨h6 a q, fun hp => ?_⟩⟩
  obtain ⟨b, off, e, hl, _⟩ := h2 hp
  rw [q] at e
  injection e with e
  subst e
  exact ⟨hl, .inl (Nat.lt_of_lt_of_le hl hM)⟩
theorem KL.nil (B M : Nat) (w : World) : KL B M w (.slice none 0 0) [] := ⟨none, 0, rfl, At.nil _ _, fun _ => rfl, Nat.le_refl _, by omega, fun a h => by cases h⟩
theorem KL.lo {B B' M : Nat} {w : World} {v : Value} {l : List Int} (h : KL B M w v l) (hl : B' ≤ B) : KL B' M w v l := by
  obtain ⟨A, c, h1, h2, h3, h4, h5, h6⟩ := h
  exact ⟨A, c, h1, h2, h3, h4, h5, fun a q => ⟨Nat.le_trans hl (h6 a q).1, (h6 a q).2⟩⟩

/-- a struct of k cells, one of which is a slice of numbers -/
structure El (α : Type) where
  k : Nat
  cs : Value → α → List Value
  il : α → List Int
  ok : α → Prop
  len : ∀ v x, (cs v x).length = k
  pos : 0 < k
abbrev fcs (v : Value) (f : F) : List Value := [v, .int .i64 f.ret]
abbrev ocs (v : Value) (o : O) : List Value := [.int .i64 o.kind, .int .i64 o.fn, .int .i64 o.a, .int .i64 o.b, .int .i64 o.c, v, .float .f64 o.heat]
def elF : El F := ⟨2, fcs, F.ps, fun _ => True, fun _ _ => rfl, by decide⟩
def elO : El O := ⟨7, ocs, O.args, fun o => o.heat < 18446744073709551616, fun _ _ => rfl, by decide⟩
section
variable {α : Type} {E : El α}
def flat (E : El α) (ps : List (Value × α)) : List Value := ps.flatMap fun x => E.cs x.1 x.2
theorem flat_nil : flat E [] = [] := rfl
theorem flat_cons (x : Value × α) (ps : List (Value × α)) : flat E (x :: ps) = E.cs x.1 x.2 ++ flat E ps := by unfold flat; rw [List.flatMap_cons]
theorem flat_snoc (x : Value × α) (ps : List (Value × α)) : flat E (ps ++ [x]) = flat E ps ++ E.cs x.1 x.2 := by unfold flat; rw [List.flatMap_append]; simp
theorem flat_len : ∀ ps : List (Value × α), (flat E ps).length = ps.length * E.k
  | [] => by simp [flat]
  | x :: ps => by rw [flat_cons, List.length_append, flat_len ps, E.len, List.length_cons, Nat.add_mul, Nat.one_mul]; omega
theorem flat_at : ∀ (ps : List (Value × α)) (i : Nat) (h : i < ps.length) (j : Nat) (u : Value), (E.cs ps[i].1 ps[i].2)[j]? = some u → (flat E ps)[i * E.k + j]? = some u
  | x :: ps, 0, _, j, u, h => by
    rw [flat_cons, Nat.zero_mul, Nat.zero_add, List.getElem?_append_left]
    · exact h
    · rw [E.len]
      rcases Nat.lt_or_ge j E.k with h1 | h1
      · exact h1
      · rw [List.getElem?_eq_none (by rw [E.len]; exact h1)] at h; cases h
  | x :: ps, i + 1, hi, j, u, h => by
    rw [flat_cons, List.getElem?_append_right (by rw [E.len, Nat.add_mul, Nat.one_mul]; omega), E.len]
    have := flat_at ps i (by simpa using hi) j u (by simpa using h)
    rw [← this]
    congr 1
    rw [Nat.add_mul, Nat.one_mul]; omega
/-- a row that reads as a list of structs -/
def RowAt (E : El α) (lo : Nat) (w : World) (A : Option Addr) (l : List α) : Prop := 0 < l.length → ∃ b off, A = some ⟨b, off, none⟩ ∧ lo ≤ b ∧ b < w.heap.size ∧
  ∀ i (h : i < l.length), ∃ v, (∀ j u, (E.cs v l[i])[j]? = some u → w.cell? ⟨b, off + i * E.k + j, none⟩ = some u) ∧ IL lo w v (E.il l[i]) ∧ E.ok l[i]
theorem RowAt.fs {lo : Nat} {w : World} {A : Option Addr} {l : List F} (h : RowAt elF lo w A l) : FsAt lo w A l := fun hp => by
  obtain ⟨b, off, e, h1, h2, h3⟩ := h hp
  refine ⟨b, off, e, h1, h2, fun i hi => ?_⟩
  obtain ⟨v, hc, il, _⟩ := h3 i hi
  exact ⟨v, hc 0 _ rfl, hc 1 _ rfl, il⟩
theorem RowAt.os {lo : Nat} {w : World} {A : Option Addr} {l : List O} (h : RowAt elO lo w A l) : OsAt lo w A l := fun hp => by
  obtain ⟨b, off, e, h1, h2, h3⟩ := h hp
  refine ⟨b, off, e, h1, h2, fun i hi => ?_⟩
  obtain ⟨v, hc, il, hk⟩ := h3 i hi
  exact ⟨v, hc 0 _ rfl, hc 1 _ rfl, hc 2 _ rfl, hc 3 _ rfl, hc 4 _ rfl, hc 5 _ rfl, hc 6 _ rfl, il, hk⟩
/-- a row of the call's own, of structs -/
def RowOwn (E : El α) (B M : Nat) (t : TypeId) (w : World) (v : Value) (l : List α) : Prop := ∃ ps : List (Value × α), ps.map Prod.snd = l ∧ w.ownsRow M t E.k v ps.length (flat E ps) ∧ ∀ x ∈ ps, KL B M w x.1 (E.il x.2) ∧ E.ok x.2
theorem RowOwn.nil (B M : Nat) (t : TypeId) (w : World) : RowOwn E B M t w (.slice none 0 0) [] := ⟨[], rfl, World.ownsRow_nil _ _ _ _, fun x h => by cases h⟩
theorem RowOwn.at {B M : Nat} {t : TypeId} {w : World} {v : Value} {l : List α} (h : RowOwn E B M t w v l) (hB : B ≤ M) : ∃ A c, v = .slice A l.length c ∧ RowAt E B w A l ∧ (A = none → c = 0) ∧ l.length ≤ c ∧ c ≤ 9223372036854775807 := by
  obtain ⟨ps, rfl, ho, hx⟩ := h
  have hl : (ps.map Prod.snd).length = ps.length := by simp
  rcases ho.2 with ⟨rfl, h0⟩ | ⟨g, cap, cur, rfl, hM, hg, _⟩
  · have hps : ps = [] := List.eq_nil_of_length_eq_zero h0
    subst hps
    exact ⟨none, 0, rfl, fun h => absurd h (by simp), fun _ => rfl, Nat.le_refl _, by omega⟩
  · obtain ⟨_, c1, c2, c3⟩ := own_cap ho
    refine ⟨_, cap, by rw [hl], fun _ => ⟨g, 0, rfl, Nat.le_trans hB hM, blk_lt hg, fun i hi => ?_⟩, c1, by rw [hl]; exact c2, c3⟩
    rw [hl] at hi
    have e : (ps.map Prod.snd)[i] = ps[i].2 := by simp
    obtain ⟨k1, k2⟩ := hx ps[i] (List.getElem_mem hi)
    refine ⟨ps[i].1, fun j u hj => ?_, by rw [e]; exact k1.il, by rw [e]; exact k2⟩
    rw [e] at hj
    have := ho.cells rfl _ _ (flat_at ps i hi j u hj)
    rw [add_plain0] at this
    rw [Nat.zero_add]; exact this
theorem RowOwn.keep {B M : Nat} {t : TypeId} {w w' : World} {v : Value} {l : List α} (h : RowOwn E B M t w v l) (hs : w.heap.size ≤ w'.heap.size) (hk : ∀ x, x < w.heap.size → (x < M ∨ ∃ t' cs fr, (t' = 3 ∨ t' = t) ∧ w.heap[x]? = some (.cells cs t' fr)) → w'.heap[x]? = w.heap[x]?) : RowOwn E B M t w' v l := by
  obtain ⟨ps, e, ho, hx⟩ := h
  refine ⟨ps, e, ⟨ho.1, ?_⟩, fun x hm => ⟨(hx x hm).1.keep hs fun y hy hq => hk y hy (hq.imp id fun ⟨cs, fr, q⟩ => ⟨_, cs, fr, .inl rfl, q⟩), (hx x hm).2⟩⟩
  rcases ho.2 with hn | ⟨g, cap, cur, hv, hM, hg, r⟩
  · exact .inl hn
  · exact .inr ⟨g, cap, cur, hv, hM, (hk g (blk_lt hg) (.inr ⟨t, _, _, .inr rfl, hg⟩)).trans hg, r⟩
theorem RowOwn.below {B M : Nat} {t : TypeId} {w w' : World} {v : Value} {l : List α} (h : RowOwn E B M t w v l) (hb : Below w.heap.size w w') : RowOwn E B M t w' v l := h.keep hb.size fun x hx _ => hb.block x hx
/-- a cell of a block of another type is set -/
theorem RowOwn.set {B M : Nat} {t t' : TypeId} {w : World} {v : Value} {l : List α} {g i : Nat} {cs : Array Value} {fr : Nat × Nat} (h : RowOwn E B M t w v l) (u : Value) (hg : w.heap[g]? = some (.cells cs t' fr)) (hM : M ≤ g) (h1 : t' ≠ 3) (h2 : t' ≠ t) : RowOwn E B M t (w.setCell ⟨g, i, none⟩ u) v l := by
  refine h.keep (by simp) fun x hx hq => ?_
  refine Below.heap_setCell w ⟨g, i, none⟩ u x ?_
  rintro rfl
  rcases hq with hq | ⟨t1, cs1, fr1, hq, hz⟩
  · omega
  · rw [hg] at hz
    injection hz with hz
    injection hz with _ hz _
    rcases hq with q | q
    · exact h1 (hz.trans q)
    · exact h2 (hz.trans q)
/-- another row has grown: its block bears another type -/
theorem own_blk {w : World} {M t size n : Nat} {v : Value} {xs : List Value} (h : w.ownsRow M t size v n xs) : ∀ g, v.ownBlock = some g → M ≤ g ∧ ∃ cs fr, w.heap[g]? = some (.cells cs t fr) := by
  intro g hq
  rcases h.2 with ⟨rfl, _⟩ | ⟨g', cap, cur, rfl, hM, hg, _⟩
  · cases hq
  · injection hq with hq
    simp only at hq
    subst hq
    exact ⟨hM, _, _, hg⟩
theorem own_ty {w : World} {M t t' size n g : Nat} {v : Value} {xs : List Value} {cs : Array Value} {fr : Nat × Nat} (h : w.ownsRow M t size v n xs) (hg : w.heap[g]? = some (.cells cs t' fr)) (hne : t' ≠ t) : v.ownBlock ≠ some g := fun q => by
  obtain ⟨_, cs', fr', hq⟩ := own_blk h g q
  rw [hg] at hq
  injection hq with hq
  injection hq with _ hq _
  exact hne hq
theorem blk_grown {w w' : World} {M t t' size n g : Nat} {v : Value} {xs : List Value} {cs : Array Value} {fr : Nat × Nat} (h : w.ownsRow M t size v n xs) (hgr : w.grownBy w' v.ownBlock) (hg : w.heap[g]? = some (.cells cs t' fr)) (hne : t' ≠ t) : w'.heap[g]? = some (.cells cs t' fr) :=
  (hgr.block g (blk_lt hg) (fun q => own_ty h hg hne q.symm)).trans hg
theorem KL.grown {B M M' t' size n : Nat} {w w' : World} {v vb : Value} {l : List Int} {xs : List Value} (h : KL B M w v l) (hb : w.ownsRow M' t' size vb n xs) (hM : M ≤ M') (h1 : t' ≠ 3) (hgr : w.grownBy w' vb.ownBlock) : KL B M w' v l :=
  h.keep hgr.size fun x hx hq => hgr.block x hx fun q => by
    obtain ⟨p1, cs, fr, p2⟩ := own_blk hb x q.symm
    rcases hq with hq | ⟨cs1, fr1, hz⟩
    · omega
    · rw [p2] at hz
      injection hz with hz
      injection hz with _ hz _
      exact h1 hz
theorem RowOwn.grown {B M M' t t' size n : Nat} {w w' : World} {v vb : Value} {l : List α} {xs : List Value} (h : RowOwn E B M t w v l) (hb : w.ownsRow M' t' size vb n xs) (hM : M ≤ M') (h1 : t' ≠ 3) (h2 : t' ≠ t) (hgr : w.grownBy w' vb.ownBlock) : RowOwn E B M t w' v l :=
  h.keep hgr.size fun x hx hq => hgr.block x hx fun q => by
    obtain ⟨p1, cs, fr, p2⟩ := own_blk hb x q.symm
    rcases hq with hq | ⟨t1, cs1, fr1, hz, hq⟩
    · omega
    · rw [p2] at hq
      injection hq with hq
      injection hq with _ hq _
      rcases hz with z | z
      · exact h1 (hq.trans z)
      · exact h2 (hq.trans z)
theorem KL.set {B M : Nat} {t' : TypeId} {w : World} {v : Value} {l : List Int} {g i : Nat} {cs : Array Value} {fr : Nat × Nat} (h : KL B M w v l) (u : Value) (hg : w.heap[g]? = some (.cells cs t' fr)) (hM : M ≤ g) (h1 : t' ≠ 3) : KL B M (w.setCell ⟨g, i, none⟩ u) v l := by
  refine h.keep (by simp) fun x hx hq => Below.heap_setCell w ⟨g, i, none⟩ u x ?_
  rintro rfl
  rcases hq with hq | ⟨cs1, fr1, hq⟩
  · omega
  · rw [hg] at hq
    injection hq with hq
    injection hq with _ hq _
    exact h1 hq
/-- the row has grown by one -/
theorem RowOwn.snoc {B M : Nat} {t : TypeId} {w w' : World} {v v' : Value} {l : List α} {x : α} {vx : Value} {ps : List (Value × α)} (e : ps.map Prod.snd = l) (hx : ∀ x ∈ ps, KL B M w x.1 (E.il x.2) ∧ E.ok x.2) (hv : KL B M w vx (E.il x)) (hok : E.ok x)
    (ho : w.ownsRow M t E.k v ps.length (flat E ps)) (ht : t ≠ 3) (ho' : w'.ownsRow M t E.k v' (ps.length + 1) (flat E ps ++ E.cs vx x)) (hgr : w.grownBy w' v.ownBlock) : RowOwn E B M t w' v' (l ++ [x]) := by
  have keep : ∀ y ls, KL B M w y ls → KL B M w' y ls := fun y ls hy => hy.keep hgr.size fun b hb hq => hgr.block b hb (fun q => by
    rcases ho.2 with ⟨rfl, _⟩ | ⟨g, cap, cur, rfl, hM, hg, _⟩
    · cases q
    · injection q with q
      simp only at q
      subst q
      rcases hq with hq | ⟨cs, fr, hz⟩
      · omega
      · rw [hg] at hz
        injection hz with hz
        injection hz with _ hz _
        exact ht hz)
  refine ⟨ps ++ [(vx, x)], by rw [List.map_append, e]; rfl, by rw [List.length_append, flat_snoc]; exact ho', fun y hy => ?_⟩
  rcases List.mem_append.mp hy with hy | hy
  · exact ⟨keep _ _ (hx y hy).1, (hx y hy).2⟩
  · rw [List.mem_singleton] at hy
    subst hy
    exact ⟨keep _ _ hv, hok⟩
end
end Pm
end Go.Proofs.Ytnhgoeoffjcooaa
