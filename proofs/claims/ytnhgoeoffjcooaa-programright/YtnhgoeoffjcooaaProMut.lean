/-
  Programs: rows of the call's own that are stored into: a struct's cell, a number of one of the slices that the structs hold.
-/
import Derived.Test.YtnhgoeoffjcooaaProClon2
namespace Go.Proofs.Ytnhgoeoffjcooaa
open Go.RowKit
namespace Pm
open B
set_option linter.unusedVariables false
section
variable {α : Type} {E : El α}
theorem flat_put : ∀ (ps : List (Value × α)) (i : Nat) (hi : i < ps.length) (j : Nat) (hj : j < E.k) (u : Value) (x' : α), E.cs ps[i].1 x' = (E.cs ps[i].1 ps[i].2).set j u → flat E (ps.set i (ps[i].1, x')) = (flat E ps).set (i * E.k + j) u
  | x :: ps, 0, _, j, hj, u, x', h => by
    rw [List.set_cons_zero, flat_cons, flat_cons, Nat.zero_mul, Nat.zero_add, List.set_append_left _ _ (by rw [E.len]; exact hj)]
    rw [List.getElem_cons_zero] at h ⊢
    rw [h]
  | x :: ps, i + 1, hi, j, hj, u, x', h => by
    have hi' : i < ps.length := by simpa using hi
    rw [List.set_cons_succ, flat_cons, flat_cons, List.set_append_right _ _ (by rw [E.len, Nat.add_mul, Nat.one_mul]; omega), E.len]
    have := flat_put ps i hi' j hj u x' (by simpa using h)
    rw [List.getElem_cons_succ, this]
    congr 2
    rw [Nat.add_mul, Nat.one_mul]; omega
/-- where an own row lies -/
theorem RowOwn.loc {B M n c : Nat} {t : TypeId} {w : World} {A : Option Addr} {l : List α} (h : RowOwn E B M t w (.slice A n c) l) (hp : 0 < l.length) : ∃ (g : Nat) (cs : List Value), A = some ⟨g, 0, none⟩ ∧ M ≤ g ∧ w.heap[g]? = some (.cells cs.toArray t) ∧
    ∀ i (hi : i < l.length), ∃ v, (∀ j u, (E.cs v l[i])[j]? = some u → cs[i * E.k + j]? = some u) ∧ KL B M w v (E.il l[i]) := by
  obtain ⟨ps, rfl, ho, hx⟩ := h
  have hl : (ps.map Prod.snd).length = ps.length := by simp
  rcases ho.2 with ⟨_, h0⟩ | ⟨g, cap, cur, e, hM, hg, _, _, _, ht⟩
  · omega
  · injection e with e1
    refine ⟨g, cur.toList, e1, hM, by rw [hg], fun i hi => ?_⟩
    rw [hl] at hi
    have e2 : (ps.map Prod.snd)[i] = ps[i].2 := by simp
    refine ⟨ps[i].1, fun j u hj => ?_, by rw [e2]; exact (hx ps[i] (List.getElem_mem hi)).1⟩
    rw [e2] at hj
    have := flat_at ps i hi j u hj
    rw [← ht, List.getElem?_take] at this
    split at this
    · exact this
    · cases this
/-- a cell of one of the structs is set -/
theorem RowOwn.put {B M n c g : Nat} {t : TypeId} {w : World} {l : List α} (h : RowOwn E B M t w (.slice (some ⟨g, 0, none⟩) n c) l) (ht : t ≠ 3) (i : Nat) (hi : i < l.length) (j : Nat) (hj : j < E.k) (u : Value) (x' : α)
    (hcs : ∀ v, E.cs v x' = (E.cs v l[i]).set j u) (hil : E.il x' = E.il l[i]) (hok : E.ok x') : RowOwn E B M t (w.setCell ⟨g, i * E.k + j, none⟩ u) (.slice (some ⟨g, 0, none⟩) n c) (l.set i x') := by
  obtain ⟨ps, rfl, ho, hx⟩ := h
  have hl : (ps.map Prod.snd).length = ps.length := by simp
  rw [hl] at hi
  have e2 : (ps.map Prod.snd)[i] = ps[i].2 := by simp
  rw [e2] at hcs hil
  rcases ho.2 with ⟨e, _⟩ | ⟨g', cap, cur, e, hM, hg, q1, q2, q3, q4⟩
  · cases e
  · injection e with e1 e2' e3
    injection e1 with e1
    injection e1 with e1
    subst e1 e2' e3
    have hg2 : w.heap[g]? = some (.cells cur.toList.toArray t) := by rw [hg]
    have hb := blk_set hg2 (i * E.k + j) u
    refine ⟨ps.set i (ps[i].1, x'), by rw [List.map_set], ⟨?_, .inr ⟨g, c, (cur.toList.set (i * E.k + j) u).toArray, by rw [List.length_set], hM, hb, by rw [List.length_set]; exact q1, q2, by simp [q3], ?_⟩⟩, fun y hy => ?_⟩
    · rw [flat_len]
    · rw [flat_put ps i hi j hj u x' (hcs _), List.length_set, ← q4]
      simp only [List.take_set]
    · have keep : ∀ v ls, KL B M w v ls → KL B M (w.setCell ⟨g, i * E.k + j, none⟩ u) v ls := fun v ls hk => hk.set u hg hM ht
      rcases List.mem_or_eq_of_mem_set hy with hy | hy
      · exact ⟨keep _ _ (hx y hy).1, (hx y hy).2⟩
      · subst hy
        exact ⟨by show KL B M _ ps[i].1 (E.il x'); rw [hil]; exact keep _ _ (hx ps[i] (List.getElem_mem hi)).1, hok⟩
/-- a number is stored into a block of numbers: each slice still reads as numbers, as many as before -/
theorem KL.put {B M : Nat} {w : World} {v : Value} {l : List Int} (h : KL B M w v l) (g k : Nat) (cs : List Value) (hg : w.heap[g]? = some (.cells cs.toArray 3)) (u : Int) : ∃ l', l'.length = l.length ∧ KL B M (w.setCell ⟨g, k, none⟩ (.int .i64 u)) v l' := by
  obtain ⟨A, c, h1, h2, h3, h4, h5, h6⟩ := h
  have hb := blk_set hg k (.int .i64 u)
  have hsz : (w.setCell ⟨g, k, none⟩ (.int .i64 u)).heap.size = w.heap.size := by simp
  have hblk : ∀ a, A = some a → B ≤ a.block ∧ (0 < l.length → a.block < (w.setCell ⟨g, k, none⟩ (.int .i64 u)).heap.size ∧ (a.block < M ∨ ∃ cs, (w.setCell ⟨g, k, none⟩ (.int .i64 u)).heap[a.block]? = some (.cells cs 3))) := by
    intro a q
    obtain ⟨p1, p2⟩ := h6 a q
    refine ⟨p1, fun hp => ?_⟩
    obtain ⟨p3, p4⟩ := p2 hp
    refine ⟨by rw [hsz]; exact p3, ?_⟩
    by_cases hag : a.block = g
    · exact .inr ⟨_, by rw [hag]; exact hb⟩
    · exact p4.imp id fun ⟨cs', e⟩ => ⟨cs', (Below.heap_setCell w ⟨g, k, none⟩ _ a.block hag).trans e⟩
  by_cases hp : 0 < l.length
  · obtain ⟨b, off, e, hl, hc⟩ := h2 hp
    by_cases hbg : b = g
    · subst hbg
      refine ⟨l.mapIdx fun i x => if off + i = k then u else x, by simp, A, c, by rw [List.length_mapIdx]; exact h1, fun _ => ⟨b, off, e, by rw [hsz]; exact hl, fun i hi => ?_⟩, h3, by rw [List.length_mapIdx]; exact h4, h5, fun a q => ?_⟩
      · rw [List.length_mapIdx] at hi
        rw [row_cell hb (off + i), List.getElem_mapIdx]
        have h0 := (row_cell hg (off + i)).symm.trans (hc i hi)
        by_cases hk : off + i = k
        · rw [if_pos hk, hk, List.getElem?_set_self]
          rcases Nat.lt_or_ge k cs.length with h7 | h7
          · exact h7
          · rw [hk, List.getElem?_eq_none h7] at h0; cases h0
        · rw [if_neg hk, List.getElem?_set_ne (Ne.symm hk)]; exact h0
      · rw [List.length_mapIdx]; exact hblk a q
    · exact ⟨l, rfl, A, c, h1, fun _ => ⟨b, off, e, by rw [hsz]; exact hl, fun i hi => (World.cell?_of_block (a := ⟨b, off + i, none⟩) (Below.heap_setCell w ⟨g, k, none⟩ _ b hbg)).trans (hc i hi)⟩, h3, h4, h5, hblk⟩
  · exact ⟨l, rfl, A, c, h1, fun q => absurd q hp, h3, h4, h5, hblk⟩
theorem rows_ints {B M : Nat} {w w' : World} (sl : α → List Int → α) (h1 : ∀ v x li, E.cs v (sl x li) = E.cs v x) (h2 : ∀ x li, E.il (sl x li) = li) (h3 : ∀ x li, E.ok x → E.ok (sl x li)) {β : Type} (key : α → β) (hkey : ∀ x li, key (sl x li) = key x)
    (hput : ∀ v l, KL B M w v l → ∃ l', l'.length = l.length ∧ KL B M w' v l') : ∀ ps : List (Value × α), (∀ x ∈ ps, KL B M w x.1 (E.il x.2) ∧ E.ok x.2) →
    ∃ qs : List (Value × α), flat E qs = flat E ps ∧ qs.length = ps.length ∧ (qs.map Prod.snd).map key = (ps.map Prod.snd).map key ∧ (qs.map Prod.snd).map (fun x => (E.il x).length) = (ps.map Prod.snd).map (fun x => (E.il x).length) ∧ ∀ x ∈ qs, KL B M w' x.1 (E.il x.2) ∧ E.ok x.2
  | [], _ => ⟨[], rfl, rfl, rfl, rfl, fun x h => by cases h⟩
  | x :: ps, hx => by
    obtain ⟨qs, e1, e2, e3, e4, e5⟩ := rows_ints sl h1 h2 h3 key hkey hput ps (fun y hy => hx y (List.mem_cons_of_mem _ hy))
    obtain ⟨k1, k2⟩ := hx x (by simp)
    obtain ⟨l', hl, hk⟩ := hput _ _ k1
    refine ⟨(x.1, sl x.2 l') :: qs, by rw [flat_cons, flat_cons, e1, h1], by simp [e2], ?_, ?_, fun y hy => ?_⟩
    · rw [List.map_cons, List.map_cons, List.map_cons, List.map_cons, e3, hkey]
    · rw [List.map_cons, List.map_cons, List.map_cons, List.map_cons, e4, h2, hl]
    · rcases List.mem_cons.1 hy with rfl | hy
      · exact ⟨by show KL B M w' x.1 (E.il (sl x.2 l')); rw [h2]; exact hk, h3 _ _ k2⟩
      · exact e5 y hy
theorem RowOwn.ints {B M g k : Nat} {t : TypeId} {w : World} {v : Value} {l : List α} {cs : List Value} (h : RowOwn E B M t w v l) (ht : 3 ≠ t) (sl : α → List Int → α) (h1 : ∀ v x li, E.cs v (sl x li) = E.cs v x) (h2 : ∀ x li, E.il (sl x li) = li) (h3 : ∀ x li, E.ok x → E.ok (sl x li)) {β : Type} (key : α → β) (hkey : ∀ x li, key (sl x li) = key x)
    (hg : w.heap[g]? = some (.cells cs.toArray 3)) (u : Int) : ∃ l', l'.map key = l.map key ∧ l'.map (fun x => (E.il x).length) = l.map (fun x => (E.il x).length) ∧ RowOwn E B M t (w.setCell ⟨g, k, none⟩ (.int .i64 u)) v l' := by
  obtain ⟨ps, rfl, ho, hx⟩ := h
  obtain ⟨qs, e1, e2, e3, e4, e5⟩ := rows_ints (E := E) sl h1 h2 h3 key hkey (fun v l hk => hk.put g k cs hg u) ps hx
  refine ⟨qs.map Prod.snd, e3, e4, qs, rfl, ?_, e5⟩
  rw [e1, e2]
  exact ownsRow_setCell_other ho (a := ⟨g, k, none⟩) (fun q => own_ty ho hg ht q) _
end
def slF (f : F) (l : List Int) : F := ⟨l, f.ret⟩
def slO (o : O) (l : List Int) : O := ⟨o.kind, o.fn, o.a, o.b, o.c, l, o.heat⟩
theorem eqF_ret : ∀ xs ys : List F, eqL sameF xs ys = true → xs.map F.ret = ys.map F.ret
  | [], [], _ => rfl
  | [], _ :: _, h => by cases h
  | _ :: _, [], h => by cases h
  | x :: xs, y :: ys, h => by
    rw [eqL, Bool.and_eq_true] at h
    have h1 := h.1
    unfold sameF at h1
    rw [Bool.and_eq_true, decide_eq_true_iff] at h1
    rw [List.map_cons, List.map_cons, h1.1, eqF_ret xs ys h.2]
theorem same_ret (p q : P) (h : (p.fs.map F.ret) ≠ q.fs.map F.ret) : same p q = false := by
  cases hs : same p q with
  | false => rfl
  | true =>
    unfold same at hs
    rw [Bool.and_eq_true, Bool.and_eq_true, Bool.and_eq_true] at hs
    exact absurd (eqF_ret _ _ hs.1.1.2) h
end Pm
end Go.Proofs.Ytnhgoeoffjcooaa
