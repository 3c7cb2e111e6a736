/-
  Programs: one number that may not be (dowserlaw15.ProgramRight): its mathematics; one number appended to a row of the call's own: either a cell of the row's block is set, or no old block turns; what stands of a program's own memory.
-/
import Derived.Test.YtnhgoeoffjcooaaProJw
import Derived.Test.YtnhgoeoffjcooaaProRight
namespace Go.Proofs.Ytnhgoeoffjcooaa
open Go.RowKit
namespace Pm
open B
set_option linter.unusedVariables false
def AP (w w' : World) (v : Value) : Prop := Below w.heap.size w w' ∨ ∃ (g k : Nat) (cs : List Value) (u : Int), v.ownBlock = some g ∧ w.heap[g]? = some (.cells cs.toArray 3) ∧ w' = w.setCell ⟨g, k, none⟩ (.int .i64 u)
theorem below_of_grown {w w' : World} (h : w.grownBy w' none) : Below w.heap.size w w' := ⟨h.os, h.tape, h.output, h.size, fun x hx => h.block x hx (by simp)⟩
set_option maxRecDepth 100000 in
theorem append_one (w : World) (ty : TypeId) (base n : Nat) (v : Value) (xs : List Value) (u : Int) (hown : w.ownsRow base 3 1 v n xs) (ad : Addr) (c : Nat) (hx : w.cell? ad = some (.int .i64 u)) (hn : n ≤ 1000000) (hbase : base ≤ w.heap.size) :
    ∃ v' w', (Builtin.append_ #[23, 23] ty #[v, .slice (some ad) 1 c]).run Try.prog w = .ok v' w' ∧ w'.ownsRow base 3 1 v' (n + 1) (xs ++ [.int .i64 u]) ∧ w.grownBy w' v.ownBlock ∧ AP w w' v := by
  obtain ⟨i0, hi, hz0, hz1, hz2⟩ := info_parts infoI
  have hnews : ∀ j z, [Value.int .i64 u][j]? = some z → w.cell? (ad.add j) = some z := by
    intro j z hj
    match j, hj with
    | 0, hj => rw [show ad.add 0 = ad from Addr.add_zero' ad]; injection hj with hj; subst hj; exact hx
    | j + 1, hj => simp at hj
  obtain ⟨v', w', hr, h2, h3, h4⟩ := run_append_own (P := Try.prog) w base 23 ty 3 i0 _ 1 8 Try.underlying23 hi hz0 hz1 hz2 rfl (by decide) v n xs hown ad 1 c [.int .i64 u] rfl hnews (by intro z hz; simp at hz; subst hz; rfl) (by unfold maxLen; omega) (by omega) hbase
  refine ⟨v', w', hr, h2, h3, ?_⟩
  rcases hown.2 with ⟨rfl, _⟩ | ⟨g, cap, cur, rfl, hbg, hg, hnc, hcm, hcs, htake⟩
  · exact .inl (below_of_grown h3)
  · by_cases hroom : n + 1 ≤ cap
    · have hfit : n * i0.size + [Value.int .i64 u].length ≤ cur.size := by rw [hz1, hcs]; simp; omega
      have hr2 := run_append_room (P := Try.prog) w 23 ty 3 i0 Try.underlying23 hi g n cap cur hg ad 1 c [.int .i64 u] (by rw [hz1]; rfl) hnews (by intro z hz; simp at hz; subst hz; rfl) hroom hfit
      rw [hr] at hr2
      injection hr2 with _ hw
      refine .inr ⟨g, n, cur.toList, u, rfl, by rw [hg], ?_⟩
      rw [hw, setCell_eq_setRow w g n cur 3 (0, 0) _ hg]
      congr 1
      apply Array.ext'
      rw [hz1] at hfit
      have hlt : n < cur.toList.length := by simp at hfit ⊢; omega
      rw [Array.toList_setIfInBounds, List.set_eq_take_append_cons_drop, if_pos hlt, hz1]
      simp
    · have holds : ∀ j z, xs[j]? = some z → w.cell? ((⟨g, 0, none⟩ : Addr).add j) = some z := hown.cells (g := g) rfl
      have hr2 := run_append_grow (P := Try.prog) w 23 ty 3 i0 _ Try.underlying23 hi hz0 ⟨g, 0, none⟩ n cap xs (by rw [hz1]; exact hown.1) holds ad 1 c [.int .i64 u] (by rw [hz1]; rfl) hnews (by omega) (by omega) (growslice_fits (by omega) (by rw [hz2]; omega))
      rw [hr] at hr2
      injection hr2 with _ hw
      rw [hw]
      exact .inl ((bdrew w).alloc (Nat.le_refl _) _)
set_option maxRecDepth 100000 in
theorem wpList_append_one {w : World} {ops : Array Oper} {rest : List Oper} {o : Oper} {a : Act} {Q : Exit → Act → World → Prop} (hgd : o.guard = none) (s x : Operand)
    (ho : o.op = .call { callee := .builtin .append, args := #[s, x], argTypes := #[23, 23] })
    (base n : Nat) (v : Value) (xs : List Value) (u : Int) (hs : a.eval s = v) (hown : w.ownsRow base 3 1 v n xs) (ad : Addr) (c : Nat) (hx : a.eval x = .slice (some ad) 1 c) (hc : w.cell? ad = some (.int .i64 u)) (hn : n ≤ 1000000) (hbase : base ≤ w.heap.size)
    (h : ∀ v' w', w'.ownsRow base 3 1 v' (n + 1) (xs ++ [.int .i64 u]) → w.grownBy w' v.ownBlock → AP w w' v → wpList Try.prog ops Q rest (a.put o.dst v') w') : wpList Try.prog ops Q (o :: rest) a w := by
  refine wpList_plain hgd fun _ hK => ?_
  obtain ⟨v', w', hr, h2, h3, h4⟩ := append_one w o.type base n v xs u hown ad c hc hn hbase
  unfold Oper.wp execOp
  simp only [ho, resolve, invoke, builtin, Sem.run_bind, Sem.run_pure, Result.andThen_ok, List.map_toArray, List.map_cons, List.map_nil, hs, hx, hr]
  exact hK _ _ (h v' w' h2 h3 h4)
theorem inB_self (n : Int) : inB n n = false := by unfold inB; rw [decide_eq_false (show ¬ n < n by omega), Bool.and_false]
theorem orN_self (n : Int) (h : 0 ≤ n) : orN n n = false := by unfold orN; rw [inB_self, decide_eq_false (show ¬ n = -1 by omega)]; rfl
theorem all_len {α : Type} (l l' : List α) (f : α → Nat) (g : α → Bool) (k : Nat → Bool) (hk : ∀ x, g x = k (f x)) (h : l'.map f = l.map f) : l'.all g = l.all g := by
  have e : ∀ m : List α, m.all g = (m.map f).all k := by
    intro m
    rw [List.all_map]
    congr 1
    funext x
    exact hk x
  rw [e, e, h]
theorem big_same (p q : P) (h0 : q.vars = p.vars ∧ q.objs = p.objs ∧ q.fields = p.fields) (hf : q.fs.map lenF = p.fs.map lenF) (he : q.en.length ≤ 30) (ho : q.ops.map lenO = p.ops.map lenO) (hb : big p = false) : big q = false := by
  have hfl : q.fs.length = p.fs.length := by have := congrArg List.length hf; simpa using this
  have hol : q.ops.length = p.ops.length := by have := congrArg List.length ho; simpa using this
  have a1 := all_len p.fs q.fs lenF fewF (fun n => decide ((n : Int) ≤ 6)) (fun _ => rfl) hf
  have a2 := all_len p.ops q.ops lenO fewO (fun n => decide ((n : Int) ≤ 6)) (fun _ => rfl) ho
  unfold big at hb ⊢
  rw [a1, a2]
  simp only [Bool.or_eq_false_iff] at hb ⊢
  refine ⟨⟨?_, hb.1.2⟩, hb.2⟩
  have h1 := hb.1.1
  unfold big0 at h1 ⊢
  rw [h0.1, h0.2.1, h0.2.2, hfl, hol]
  simp only [Bool.or_eq_false_iff] at h1 ⊢
  exact ⟨⟨h1.1.1, decide_eq_false (by omega)⟩, h1.2⟩
theorem okO_fn (p : P) (o : O) : okO p ⟨o.kind, p.fs.length, o.a, o.b, o.c, o.args, o.heat⟩ = false := by
  unfold okO; rw [inB_self]; rfl
theorem okO_a (p : P) (o : O) (h : 0 ≤ p.vars) : okO p ⟨o.kind, o.fn, p.vars, o.b, o.c, o.args, o.heat⟩ = false := by
  have h1 := inB_self p.vars
  have h2 := orN_self p.vars h
  unfold okO okK
  simp only [h1, h2, Bool.false_and]
  simp
theorem not_formed_op (p : P) (fs : List F) (en : List Int) (ops : List O) (o : O) (ho : o ∈ ops) (hb : okO ⟨p.vars, p.objs, p.fields, fs, en, ops⟩ o = false) : formed ⟨p.vars, p.objs, p.fields, fs, en, ops⟩ = false := by
  have : (ops.all (okO ⟨p.vars, p.objs, p.fields, fs, en, ops⟩)) = false := by
    rw [List.all_eq_false]
    exact ⟨o, ho, by rw [hb]; decide⟩
  unfold formed
  show (_ && ops.all _) = false
  rw [this, Bool.and_false]
theorem check_bad (p : P) (h1 : big p = false) (h2 : formed p = false) : check p = 12 := by unfold check; rw [h1, h2]; rfl
theorem right_facts (p : P) (k : Nat) (hk : k ≤ 300) : big (rightq p k) = false ∧ (∀ o ∈ (rightq p k).ops, o.fn ≠ ((rightq p k).fs.length : Int)) ∧ 0 ≤ (rightq p k).vars ∧ (rightq p k).en.length ≤ 8 := by
  refine ⟨right_big p k hk, fun o ho => ?_, ?_, ?_⟩
  · obtain ⟨y, _, rfl⟩ := List.mem_map.1 ho
    have hF := rightFs_len (1 + atq p.vars 30) p.fs
    have h := atq_range y.fn ((rightFs (1 + atq p.vars 30) p.fs).length : Int) (by omega)
    have e : (rightO (1 + atq p.vars 30) (1 + atq p.objs 12) (1 + atq p.fields 6) (rightFs (1 + atq p.vars 30) p.fs).length y).fn = atq y.fn ((rightFs (1 + atq p.vars 30) p.fs).length : Int) := by unfold rightO; split <;> rfl
    rw [e]
    show atq y.fn _ ≠ ((rightFs (1 + atq p.vars 30) p.fs).length : Int)
    omega
  · have := atq_range p.vars 30 (by decide)
    show 0 ≤ 1 + atq p.vars 30
    omega
  · have hF := rightFs_len (1 + atq p.vars 30) p.fs
    have := rightE_len (rightFs (1 + atq p.vars 30) p.fs).length p.en
    show (rightE (rightFs (1 + atq p.vars 30) p.fs).length p.en).length ≤ 8
    omega
theorem eqO_fn : ∀ xs ys : List O, eqL sameO xs ys = true → xs.map O.fn = ys.map O.fn
  | [], [], _ => rfl
  | [], _ :: _, h => by cases h
  | _ :: _, [], h => by cases h
  | x :: xs, y :: ys, h => by
    rw [eqL, Bool.and_eq_true] at h
    have h1 := h.1
    unfold sameO nums5 at h1
    simp only [Bool.and_eq_true, decide_eq_true_iff] at h1
    rw [List.map_cons, List.map_cons, h1.1.1.1.1.1.2, eqO_fn xs ys h.2]
theorem same_fn (p q : P) (h : (p.ops.map O.fn) ≠ q.ops.map O.fn) : same p q = false := by
  cases hs : same p q with
  | false => rfl
  | true =>
    unfold same at hs
    rw [Bool.and_eq_true, Bool.and_eq_true, Bool.and_eq_true] at hs
    exact absurd (eqO_fn _ _ hs.2) h
theorem KL.keepM {M : Nat} {w w' : World} {v : Value} {l : List Int} (h : KL M M w v l) (hs : w.heap.size ≤ w'.heap.size) (hk : ∀ x, M ≤ x → x < w.heap.size → (∃ cs fr, w.heap[x]? = some (.cells cs 3 fr)) → w'.heap[x]? = w.heap[x]?) : KL M M w' v l := by
  obtain ⟨A, c, h1, h2, h3, h4, h5, h6⟩ := h
  refine ⟨A, c, h1, fun hp => ?_, h3, h4, h5, fun a q => ?_⟩
  · obtain ⟨b, off, e, hl, hc⟩ := h2 hp
    have hb := (h6 _ e).2 hp
    have hM := (h6 _ e).1
    refine ⟨b, off, e, Nat.lt_of_lt_of_le hl hs, fun i hi => ?_⟩
    exact (World.cell?_of_block (a := ⟨b, off + i, none⟩) (hk b hM hl (hb.2.resolve_left (Nat.not_lt.mpr hM) |>.imp fun cs e => ⟨_, e⟩))).trans (hc i hi)
  · obtain ⟨p1, p23⟩ := h6 a q
    refine ⟨p1, fun hp => ?_⟩
    obtain ⟨p2, p3⟩ := p23 hp
    obtain ⟨cs, e⟩ := p3.resolve_left (Nat.not_lt.mpr p1)
    exact ⟨Nat.lt_of_lt_of_le p2 hs, .inr ⟨cs, (hk _ p1 p2 ⟨cs, _, e⟩).trans e⟩⟩
theorem RowOwn.keepM {α : Type} {E : El α} {M : Nat} {t : TypeId} {w w' : World} {v : Value} {l : List α} (h : RowOwn E M M t w v l) (hs : w.heap.size ≤ w'.heap.size) (hk : ∀ x, M ≤ x → x < w.heap.size → (∃ t' cs fr, (t' = 3 ∨ t' = t) ∧ w.heap[x]? = some (.cells cs t' fr)) → w'.heap[x]? = w.heap[x]?) : RowOwn E M M t w' v l := by
  obtain ⟨ps, e, ho, hx⟩ := h
  refine ⟨ps, e, ⟨ho.1, ?_⟩, fun x hm => ⟨(hx x hm).1.keepM hs fun y hM hy ⟨cs, fr, q⟩ => hk y hM hy ⟨_, cs, fr, .inl rfl, q⟩, (hx x hm).2⟩⟩
  rcases ho.2 with hn | ⟨g, cap, cur, hv, hM, hg, r⟩
  · exact .inl hn
  · exact .inr ⟨g, cap, cur, hv, hM, (hk g hM (blk_lt hg) ⟨t, _, _, .inr rfl, hg⟩).trans hg, r⟩
/-- what stands of a program's own memory while it is stored into -/
structure Jz (Q : P) (M gy : Nat) (vF vE vO : Value) (Zf : List F) (Ze : List Int) (Zo : List O) (wr : World) : Prop where
  f : RowOwn elF M M 45 wr vF Zf
  e : KL M M wr vE Ze
  o : RowOwn elO M M 42 wr vO Zo
  lf : Zf.map lenF = Q.fs.map lenF
  lo : Zo.map lenO = Q.ops.map lenO
  q : wr.heap[gy]? = some (.cells #[.int .i64 Q.vars, .int .i64 Q.objs, .int .i64 Q.fields, vF, vE, vO] 33)
section
variable {Q : P} {wr w' : World} {M gy g c : Nat} {vF vE vO : Value} {Zf : List F} {Ze : List Int} {Zo : List O}
theorem Jz.no (h : Jz Q M gy vF vE vO Zf Ze Zo wr) : Zo.length = Q.ops.length := by have := congrArg List.length h.lo; simpa using this
theorem Jz.nf (h : Jz Q M gy vF vE vO Zf Ze Zo wr) : Zf.length = Q.fs.length := by have := congrArg List.length h.lf; simpa using this
theorem Jz.below (h : Jz Q M gy vF vE vO Zf Ze Zo wr) (hb : Below wr.heap.size wr w') : Jz Q M gy vF vE vO Zf Ze Zo w' := ⟨h.f.below hb, h.e.below hb, h.o.below hb, h.lf, h.lo, blk_below h.q hb (blk_lt h.q)⟩
/-- a cell of an op is set -/
theorem Jz.op (h : Jz Q M gy vF vE (.slice (some ⟨g, 0, none⟩) Q.ops.length c) Zf Ze Zo wr) (i : Nat) (hi : i < Zo.length) (j : Nat) (hj : j < 7) (u : Value) (x' : O) (hcs : ∀ v, elO.cs v x' = (elO.cs v Zo[i]).set j u) (hil : x'.args = Zo[i].args) (hh : x'.heat = Zo[i].heat) :
    Jz Q M gy vF vE (.slice (some ⟨g, 0, none⟩) Q.ops.length c) Zf Ze (Zo.set i x') (wr.setCell ⟨g, i * 7 + j, none⟩ u) := by
  obtain ⟨g', cs, e, hM, hg, _⟩ := h.o.loc (Nat.lt_of_le_of_lt (Nat.zero_le _) hi)
  injection e with e
  injection e with e
  subst e
  have hgy : g ≠ gy := ne_ty hg h.q (by decide)
  have hok : elO.ok Zo[i] := by
    obtain ⟨ps, e1, _, hx⟩ := h.o
    have hm : Zo[i] ∈ ps.map Prod.snd := by rw [e1]; exact List.getElem_mem hi
    obtain ⟨x, hx1, hx2⟩ := List.mem_map.1 hm
    rw [← hx2]; exact (hx x hx1).2
  refine ⟨h.f.set (i := i * 7 + j) _ hg hM (by decide) (by decide), h.e.set (i := i * 7 + j) _ hg hM (by decide), ?_, h.lf, ?_, blk_other (i := i * 7 + j) h.q (Ne.symm hgy) _⟩
  · exact h.o.put (by decide) i hi j hj u x' hcs hil (by show x'.heat < _; rw [hh]; exact hok)
  · exact (map_set_same lenO Zo i hi x' (by show x'.args.length = Zo[i].args.length; rw [hil])).trans h.lo
theorem Jz.pin {A1 A2 A3 : Option Addr} {c1 c2 c3 n2 : Nat} (h : Jz Q M gy (.slice A1 Q.fs.length c1) (.slice A2 n2 c2) (.slice A3 Q.ops.length c3) Zf Ze Zo wr) : PIn M wr ⟨Q.vars, Q.objs, Q.fields, Zf, Ze, Zo⟩ A1 c1 A2 c2 A3 c3 ∧ n2 = Ze.length := by
  obtain ⟨B1, d1, e1, p1, p2, p3, p4⟩ := h.f.at (Nat.le_refl _)
  obtain ⟨B3, d3, e3, q1, q2, q3, q4⟩ := h.o.at (Nat.le_refl _)
  injection e1 with e1 _ e2
  injection e3 with e3 _ e4
  subst e1 e2 e3 e4
  have he := h.e.il
  have hn : n2 = Ze.length := by
    obtain ⟨A, c, e, _⟩ := he
    injection e
  subst hn
  exact ⟨⟨p1.fs, he, q1.os, p2, q2, ⟨p3, p4⟩, ⟨q3, q4⟩⟩, rfl⟩
theorem Jz.sm (h : Jz Q M gy vF vE vO Zf Ze Zo wr) (hs : Sm Q) (he : Ze.length ≤ 2000000) : Sm ⟨Q.vars, Q.objs, Q.fields, Zf, Ze, Zo⟩ := by
  refine ⟨by show Zf.length ≤ _; rw [h.nf]; exact hs.f, he, by show Zo.length ≤ _; rw [h.no]; exact hs.o, fun f hf => ?_, fun o ho => ?_⟩
  · have : lenF f ∈ Q.fs.map lenF := by rw [← h.lf]; exact List.mem_map_of_mem hf
    obtain ⟨x, hx, e⟩ := List.mem_map.1 this
    show lenF f ≤ 2000000
    rw [← e]; exact hs.fp x hx
  · have : lenO o ∈ Q.ops.map lenO := by rw [← h.lo]; exact List.mem_map_of_mem ho
    obtain ⟨x, hx, e⟩ := List.mem_map.1 this
    show lenO o ≤ 2000000
    rw [← e]; exact hs.oa x hx
/-- all old blocks but one, of a program, are as they were -/
theorem ex_ne {w w' : World} (hx : Ex gy w w') {cs : Array Value} {fr : Nat × Nat} (hg : w.heap[gy]? = some (.cells cs 33 fr)) : ∀ x, x < w.heap.size → ∀ t' cs' fr', t' ≠ 33 → w.heap[x]? = some (.cells cs' t' fr') → w'.heap[x]? = w.heap[x]? :=
  fun x hl t' cs' fr' ht h => hx.2 x hl (ne_ty h hg ht)
theorem jz_of {w : World} (hf : RowOwn elF M M 45 w vF Q.fs) (he : KL M M w vE Q.en) (ho : RowOwn elO M M 42 w vO Q.ops) (hx : Ex gy w w') {cs : Array Value} {fr : Nat × Nat} (hg : w.heap[gy]? = some (.cells cs 33 fr))
    (hq : w'.heap[gy]? = some (.cells #[.int .i64 Q.vars, .int .i64 Q.objs, .int .i64 Q.fields, vF, vE, vO] 33)) : Jz Q M gy vF vE vO Q.fs Q.en Q.ops w' :=
  ⟨hf.keepM hx.1 fun x _ hl ⟨t', cs', fr', h1, h2⟩ => ex_ne hx hg x hl t' cs' fr' (by rcases h1 with rfl | rfl <;> decide) h2, he.keepM hx.1 fun x _ hl ⟨cs', fr', h2⟩ => ex_ne hx hg x hl _ cs' fr' (by decide) h2,
    ho.keepM hx.1 fun x _ hl ⟨t', cs', fr', h1, h2⟩ => ex_ne hx hg x hl t' cs' fr' (by rcases h1 with rfl | rfl <;> decide) h2, rfl, rfl, hq⟩
/-- a number is appended to the program's entries -/
theorem ap_rows {w : World} {v : Value} (ha : AP w w' v) (hf : RowOwn elF M M 45 w vF Zf) (ho : RowOwn elO M M 42 w vO Zo) : ∃ Zf' Zo', Zf'.map lenF = Zf.map lenF ∧ Zo'.map lenO = Zo.map lenO ∧ RowOwn elF M M 45 w' vF Zf' ∧ RowOwn elO M M 42 w' vO Zo' := by
  rcases ha with hb | ⟨g, k, cs, u, _, hg, rfl⟩
  · exact ⟨Zf, Zo, rfl, rfl, hf.below hb, ho.below hb⟩
  · obtain ⟨Zf', _, f2, f3⟩ := hf.ints (k := k) (by decide) slF (fun _ _ _ => rfl) (fun _ _ => rfl) (fun _ _ _ => trivial) F.ret (fun _ _ => rfl) hg u
    obtain ⟨Zo', _, o2, o3⟩ := ho.ints (k := k) (by decide) slO (fun _ _ _ => rfl) (fun _ _ => rfl) (fun _ _ q => q) O.kind (fun _ _ => rfl) hg u
    exact ⟨Zf', Zo', f2, o2, f3, o3⟩
end
end Pm
end Go.Proofs.Ytnhgoeoffjcooaa
