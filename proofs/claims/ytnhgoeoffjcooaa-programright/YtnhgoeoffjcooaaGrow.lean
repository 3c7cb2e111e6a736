/-
  A region that draws its order, whose operations only read or make memory of their own, and whose last one comes behind all others: instead of all orders, one step for each operation.
-/
import Derived.Test.YtnhgoeoffjcooaaBase
import Derived.Orders
namespace Go.Proofs.Ytnhgoeoffjcooaa
open Go.RowKit
namespace Gr

/-- what is asked of the operations' shape; the kernel reckons it -/
def shape (ops : Array Oper) (n : Nat) (D : Nat → Nat) (size : Nat) : Bool :=
  ops.size == n + 1 &&
  ((List.range n).all fun i => (match ops[i]? with | some o => o.dst == some (D i) && o.guard.isNone | none => false) && decide (D i < size) && (List.range n).all fun j => D i != D j || i == j) &&
  (match ops[n]? with | some o => o.guard.isNone && (List.range n).all fun j => o.after.any fun e => e.on == j && Region.binds .any e | none => false) &&
  ((List.range (n + 1)).all fun i => match ops[i]? with | some o => o.after.all fun e => !Region.binds .any e || decide (e.on < i) | none => false)

structure Fr (a0 a : Act) (n : Nat) (D : Nat → Nat) : Prop where
  d : a.defers = a0.defers
  s : a.tmps.size = a0.tmps.size
  f : ∀ s, (∀ j, j < n → D j ≠ s) → a.eval (.tmp s) = a0.eval (.tmp s)

theorem val {P : Program} {o : Oper} {a : Act} {w w' : World} {K : Act → World → Prop} {Q : Exit → Act → World → Prop} {v : Value} (h : (execOp a.eval o).run P w = .ok (.value v) w') (hk : K (a.put o.dst v) w') : o.wp P a w K Q := by
  unfold Oper.wp
  rw [h]
  exact hk
theorem slot {a : Act} {s : Nat} {v : Value} (h : a.eval (.tmp s) = v) : a.tmps[s]?.getD undef = v := by
  unfold Act.eval at h
  simpa using h
theorem skip {P : Program} {o : Oper} {a : Act} {w w' : World} {K : Act → World → Prop} {Q : Exit → Act → World → Prop} (h : (execOp a.eval o).run P w = .ok .skip w') (hd : o.dst = none) (hk : K a w') : o.wp P a w K Q := by
  unfold Oper.wp
  rw [h, Oper.upon_skip, hd]
  exact hk
theorem of_step {P : Program} {ops : Array Oper} {o : Oper} {a : Act} {w : World} {K : Act → World → Prop} {Q : Exit → Act → World → Prop} {E : Prop} (hgd : o.guard = none) (h : if Region.wanted o (yielded ops a.tmps) = true then Oper.wp P o a w K Q else E) : Oper.wp P o a w K Q := by
  have hw : Region.wanted o (yielded ops a.tmps) = true := by simp [Region.wanted, hgd]
  rw [if_pos hw] at h
  exact h
theorem arr_eq (t : Array Value) (l : List Value) (hs : t.size = l.length) (h : ∀ i, i < l.length → t[i]?.getD undef = l.getD i undef) : t = l.toArray := by
  apply Array.ext
  · simpa using hs
  · intro i h1 h2
    have := h i (by omega)
    rw [Array.getElem?_eq_getElem h1, List.getD_eq_getElem?_getD, List.getElem?_eq_getElem (by omega)] at this
    simpa using this
theorem act_eq {a : Act} {l : List Value} {d : List Deferred} (hd : a.defers = d) (hs : a.tmps.size = l.length) (h : ∀ i, i < l.length → a.tmps[i]?.getD undef = l.getD i undef) : a = ⟨l.toArray, d⟩ := by
  obtain ⟨t, d'⟩ := a
  simp only at hd hs h
  rw [arr_eq t l hs h, hd]
theorem fr_put {a0 a : Act} {n : Nat} {D : Nat → Nat} (h : Fr a0 a n D) {i : Nat} (hi : i < n) (v : Value) : Fr a0 (a.put (some (D i)) v) n D := by
  refine ⟨h.d, by simp [Act.put, h.s], fun s hs => ?_⟩
  rw [← h.f s hs]
  have := hs i hi
  simp [Act.eval, Act.put, this]
theorem eval_put {a : Act} {d s : Nat} (v : Value) (hd : d < a.tmps.size) : (a.put (some d) v).eval (.tmp s) = if d = s then v else a.eval (.tmp s) := by
  by_cases h : d = s
  · subst h; simp [Act.eval, Act.put, hd]
  · simp [Act.eval, Act.put, h]

theorem ready_mem {ops : Array Oper} {listed : Array Bool} {i : Nat} (h : i ∈ Region.ready .any ops listed) : i < ops.size ∧ listed.getD i true = false ∧ ∀ o, ops[i]? = some o → ∀ e ∈ o.after, Region.binds .any e = true → listed.getD e.on false = true := by
  unfold Region.ready at h
  rw [List.mem_filter] at h
  obtain ⟨h1, h2⟩ := h
  simp only [Bool.and_eq_true, Bool.not_eq_true'] at h2
  refine ⟨List.mem_range.mp h1, h2.1, fun o ho e he hb => ?_⟩
  have h3 := h2.2
  rw [ho] at h3
  simp only [Option.map_some, Option.getD_some, Array.all_eq_true_iff_forall_mem, Bool.or_eq_true, Bool.not_eq_true'] at h3
  rcases h3 e he with h4 | h4
  · rw [hb] at h4; cases h4
  · exact h4

theorem mem_ready {ops : Array Oper} {listed : Array Bool} {i : Nat} {o : Oper} (hi : ops[i]? = some o) (hl : listed.getD i true = false) (ha : ∀ e ∈ o.after, Region.binds .any e = true → listed.getD e.on false = true) : i ∈ Region.ready .any ops listed := by
  unfold Region.ready
  rw [List.mem_filter, List.mem_range]
  have hlt : i < ops.size := by
    rcases Nat.lt_or_ge i ops.size with h | h
    · exact h
    · rw [Array.getElem?_eq_none h] at hi; cases hi
  refine ⟨hlt, ?_⟩
  simp only [Bool.and_eq_true, Bool.not_eq_true']
  refine ⟨hl, ?_⟩
  rw [hi]
  simp only [Option.map_some, Option.getD_some, Array.all_eq_true_iff_forall_mem, Bool.or_eq_true, Bool.not_eq_true']
  intro e he
  cases hb : Region.binds .any e with
  | false => exact .inl rfl
  | true => exact .inr (ha e he hb)
theorem getD_set {l : Array Bool} {i j : Nat} {d : Bool} (hj : j < l.size) : (l.setIfInBounds i true).getD j d = if i = j then true else l.getD j d := by
  by_cases h : i = j
  · subst h; simp [hj]
  · simp [h]
theorem getD_any {l : Array Bool} {j : Nat} (hj : j < l.size) (d d' : Bool) : l.getD j d = l.getD j d' := by simp [hj]
theorem any_done {P : Program} {ops : Array Oper} {Q : Exit → Act → World → Prop} {listed : Array Bool} {a : Act} {W : World} (hr : Region.ready .any ops listed = []) (h : Q .normal a W) : ∀ fuel, wpAny P .any ops Q fuel listed a W
  | 0 => ⟨hr, h⟩
  | _ + 1 => ⟨fun _ => h, by rw [hr]; simp⟩
theorem least {p : Nat → Bool} (n : Nat) : p n = true → ∃ i, i ≤ n ∧ p i = true ∧ ∀ j, j < i → p j = false := by
  induction n using Nat.strongRecOn with
  | _ n ih =>
    intro h
    by_cases hex : ∃ j, j < n ∧ p j = true
    · obtain ⟨j, hj, hp⟩ := hex
      obtain ⟨i, h1, h2, h3⟩ := ih j hj hp
      exact ⟨i, by omega, h2, h3⟩
    · exact ⟨n, Nat.le_refl _, h, fun j hj => by
        cases hq : p j with
        | false => rfl
        | true => exact absurd ⟨j, hj, hq⟩ hex⟩

theorem region {P : Program} {ops : Array Oper} {Q : Exit → Act → World → Prop} {a0 : Act} {w : World} {id : Nat} (n : Nat) (D : Nat → Nat) (hm : P.follows .mixedOrders = true) (hsh : shape ops n D a0.tmps.size = true)
    (φ : Nat → Value → World → Prop) (hst : ∀ i v W W', φ i v W → Below W.heap.size W W' → φ i v W')
    (hstep : ∀ i o a W, i < n → ops[i]? = some o → Below w.heap.size w W → Fr a0 a n D → (∀ e ∈ o.after, Region.binds .any e = true → e.on < n → φ e.on (a.eval (.tmp (D e.on))) W) →
      o.wp P a W (fun a' W' => ∃ v, a' = a.put (some (D i)) v ∧ φ i v W' ∧ Below W.heap.size W W') Q)
    (hlast : ∀ o a W, ops[n]? = some o → Below w.heap.size w W → Fr a0 a n D → (∀ j, j < n → φ j (a.eval (.tmp (D j))) W) → o.wp P a W (fun a' W' => Q .normal a' W') Q) :
    (Code.region id ops true).wp P Q a0 w := by
  simp only [shape, Bool.and_eq_true, beq_iff_eq, List.all_eq_true, List.mem_range, decide_eq_true_eq, Bool.or_eq_true, bne_iff_ne] at hsh
  obtain ⟨⟨⟨hsz, hops⟩, hl⟩, hback⟩ := hsh
  have hop : ∀ i, i ≤ n → ∃ o, ops[i]? = some o ∧ o.guard = none := by
    intro i hi
    rcases Nat.lt_or_ge i n with h | h
    · have := (hops i h).1.1
      split at this
      · rename_i o ho
        simp only [Bool.and_eq_true, Option.isNone_iff_eq_none] at this
        exact ⟨o, ho, this.2⟩
      · cases this
    · obtain rfl : i = n := by omega
      split at hl
      · rename_i o ho
        simp only [Bool.and_eq_true, Option.isNone_iff_eq_none] at hl
        exact ⟨o, ho, hl.1⟩
      · cases hl
  have hdst : ∀ i o, i < n → ops[i]? = some o → o.dst = some (D i) := by
    intro i o hi ho
    have := (hops i hi).1.1
    rw [ho] at this
    simp only [Bool.and_eq_true, beq_iff_eq] at this
    exact this.1
  have hinj : ∀ i j, i < n → j < n → D i = D j → i = j := fun i j hi hj h => by
    rcases (hops i hi).2 j hj with h1 | h1
    · exact absurd h h1
    · simpa using h1
  have hall : ∀ o, ops[n]? = some o → ∀ j, j < n → ∃ e ∈ o.after, e.on = j ∧ Region.binds .any e = true := by
    intro o ho j hj
    rw [ho] at hl
    simp only [Bool.and_eq_true, List.all_eq_true, List.mem_range, Array.any_eq_true', beq_iff_eq] at hl
    obtain ⟨e, he, h1, h2⟩ := hl.2 j hj
    exact ⟨e, he, h1, h2⟩
  have hbk : ∀ i o, i ≤ n → ops[i]? = some o → ∀ e ∈ o.after, Region.binds .any e = true → e.on < i := by
    intro i o hi ho e he hb
    have := hback i (by omega)
    rw [ho] at this
    simp only [Array.all_eq_true_iff_forall_mem, Bool.or_eq_true, Bool.not_eq_true', decide_eq_true_eq] at this
    rcases this e he with h | h
    · rw [hb] at h; cases h
    · exact h
  refine wp_region_any hm ?_
  have key : ∀ (fuel : Nat) (listed : Array Bool) (a : Act) (W : World), listed.size = n + 1 → (∃ l : List Nat, l.length ≤ fuel ∧ ∀ i, i ≤ n → listed.getD i true = false → i ∈ l) →
      Below w.heap.size w W → Fr a0 a n D → (∀ j, j < n → listed.getD j true = true → φ j (a.eval (.tmp (D j))) W) → listed.getD n true = false → wpAny P .any ops Q fuel listed a W := by
    intro fuel
    induction fuel with
    | zero =>
      intro listed a W hs ⟨l, hll, hl2⟩ _ _ _ hn
      exfalso
      have hl0 : l = [] := List.eq_nil_of_length_eq_zero (by omega)
      have := hl2 n (Nat.le_refl _) hn
      rw [hl0] at this
      cases this
    | succ fuel ih =>
      intro listed a W hs ⟨l, hll, hl2⟩ hW hfr hφ hn
      have hnone : Region.ready .any ops listed ≠ [] := by
        intro he
        obtain ⟨i, hin, hp, hlow⟩ := least (p := fun i => !listed.getD i true) n (by simp [hn])
        simp only [Bool.not_eq_true', Bool.not_eq_false'] at hp hlow
        obtain ⟨o, ho, _⟩ := hop i hin
        have := mem_ready ho hp (fun e hem hb => by
          have hlt := hbk i o hin ho e hem hb
          rw [getD_any (by omega) false true]
          exact hlow _ hlt)
        rw [he] at this
        cases this
      refine ⟨fun h => absurd h hnone, fun i hi => ?_⟩
      obtain ⟨h1, h2, h3⟩ := ready_mem hi
      obtain ⟨o, ho, hg⟩ := hop i (by omega)
      have hw : Region.wanted o (yielded ops a.tmps) = true := by simp [Region.wanted, hg]
      unfold wpOp
      simp only [ho, hw, if_true]
      refine .inl ?_
      rcases Nat.lt_or_ge i n with hin | hin
      · refine Oper.wp_mono ?_ (hstep i o a W hin ho hW hfr (fun e he hb hen => by
          have := h3 o ho e he hb
          rw [getD_any (by omega) false true] at this
          exact hφ _ hen this))
        rintro a' W' ⟨v, rfl, hv, hb⟩
        have hds : D i < a.tmps.size := by rw [hfr.s]; exact (hops i hin).1.2
        refine ih _ _ _ (by simp [hs]) ⟨l.erase i, ?_, ?_⟩ (hW.trans (hb.mono hW.size)) (fr_put hfr hin v) ?_ ?_
        · have := hl2 i (by omega) h2
          rw [List.length_erase_of_mem this]; omega
        · intro j hj hjl
          rw [getD_set (by omega)] at hjl
          by_cases hij : i = j
          · rw [if_pos hij] at hjl; cases hjl
          · rw [if_neg hij] at hjl
            exact (List.mem_erase_of_ne (fun e => hij e.symm)).mpr (hl2 j hj hjl)
        · intro j hj hjl
          rw [eval_put v hds]
          by_cases hij : i = j
          · subst hij; rw [if_pos rfl]; exact hv
          · rw [if_neg (fun e => hij (hinj i j hin hj e))]
            rw [getD_set (by omega), if_neg hij] at hjl
            exact hst _ _ _ _ (hφ j hj hjl) hb
        · rw [getD_set (by omega), if_neg (by omega)]; exact hn
      · obtain rfl : i = n := by omega
        refine Oper.wp_mono ?_ (hlast o a W ho hW hfr (fun j hj => hφ j hj (by
          obtain ⟨e, he, h4, h5⟩ := hall o ho j hj
          have := h3 o ho e he h5
          rw [h4, getD_any (by omega) false true] at this
          exact this)))
        intro a' W' hQ
        refine any_done ?_ hQ fuel
        rw [List.eq_nil_iff_forall_not_mem]
        intro j hj
        obtain ⟨k1, k2, _⟩ := ready_mem hj
        rw [getD_set (by omega)] at k2
        by_cases hij : i = j
        · rw [if_pos hij] at k2; cases k2
        · rw [if_neg hij] at k2
          obtain ⟨e, he, h4, h5⟩ := hall o ho j (by omega)
          have := h3 o ho e he h5
          rw [h4, getD_any (by omega) false true, k2] at this
          cases this
  refine key _ _ _ _ (by simp [hsz]) ⟨List.range (n + 1), by simp [hsz], fun i hi _ => List.mem_range.mpr (by omega)⟩ ⟨rfl, rfl, rfl, Nat.le_refl _, fun _ _ => rfl⟩ ⟨rfl, rfl, fun _ _ => rfl⟩ ?_ ?_
  · intro j hj h
    simp [hsz, show j < n + 1 by omega] at h
  · simp [hsz]
end Gr
end Go.Proofs.Ytnhgoeoffjcooaa
