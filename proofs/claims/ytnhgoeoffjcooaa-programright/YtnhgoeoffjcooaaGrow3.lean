/-
  As Grow: a region that draws its order, all of whose operations only read or make memory of their own (some of them guarded, by what is known to come out so that they are wanted): what each yields holds at its end.
-/
import Derived.Test.YtnhgoeoffjcooaaGrow2
namespace Go.Proofs.Ytnhgoeoffjcooaa
open Go.RowKit
namespace Gr
theorem call {P : Program} {o : Oper} {a : Act} {w : World} {K : Act → World → Prop} {Q : Exit → Act → World → Prop} {f : FuncId} {args : Array Value} (he : (execOp a.eval o).run P w = .ok (.enter f args) w) (h : Calls P f args w fun e w' => ∃ v, e = .returned v ∧ K (a.put o.dst v) w') : o.wp P a w K Q := by
  unfold Oper.wp
  rw [he, Oper.upon_enter]
  exact h.mono fun e w' ⟨v, hv, hk⟩ => by subst hv; exact hk
def shapeE (ops : Array Oper) (n : Nat) (D : Nat → Nat) (size : Nat) : Bool :=
  ops.size == n &&
  ((List.range n).all fun i => (match ops[i]? with | some o => o.dst == some (D i) && guarded o | none => false) && decide (D i < size) && (List.range n).all fun j => D i != D j || i == j) &&
  ((List.range n).all fun i => match ops[i]? with | some o => o.after.all fun e => !Region.binds .any e || decide (e.on < i) | none => false)
theorem regionE {P : Program} {ops : Array Oper} {Q : Exit → Act → World → Prop} {a0 : Act} {w : World} {id : Nat} (n : Nat) (D : Nat → Nat) (hm : P.follows .mixedOrders = true) (hsh : shapeE ops n D a0.tmps.size = true)
    (φ : Nat → Value → World → Prop) (hst : ∀ i v W W', φ i v W → Below W.heap.size W W' → φ i v W')
    (hstep : ∀ i o a W, i < n → ops[i]? = some o → Below w.heap.size w W → Fr a0 a n D → (∀ e ∈ o.after, Region.binds .any e = true → e.on < n → φ e.on (a.eval (.tmp (D e.on))) W) →
      o.wp P a W (fun a' W' => ∃ v, a' = a.put (some (D i)) v ∧ φ i v W' ∧ Below W.heap.size W W') Q)
    (hgd : ∀ i o j b, i < n → ops[i]? = some o → o.guard = some (j, b) → ∀ v W, φ j v W → v = .bool b)
    (hend : ∀ a W, Below w.heap.size w W → Fr a0 a n D → (∀ j, j < n → φ j (a.eval (.tmp (D j))) W) → Q .normal a W) :
    (Code.region id ops true).wp P Q a0 w := by
  simp only [shapeE, Bool.and_eq_true, beq_iff_eq, List.all_eq_true, List.mem_range, decide_eq_true_eq, Bool.or_eq_true, bne_iff_ne] at hsh
  obtain ⟨⟨hsz, hops⟩, hback⟩ := hsh
  have hop : ∀ i, i < n → ∃ o, ops[i]? = some o ∧ guarded o = true := by
    intro i h
    have := (hops i h).1.1
    split at this
    · rename_i o ho
      simp only [Bool.and_eq_true] at this
      exact ⟨o, ho, this.2⟩
    · cases this
  have hdst : ∀ i o, i < n → ops[i]? = some o → o.dst = some (D i) := by
    intro i o hi ho
    have := (hops i hi).1.1
    rw [ho] at this
    simp only [Bool.and_eq_true, beq_iff_eq] at this
    exact this.1
  have hinj : ∀ i j, i < n → j < n → D i = D j → i = j := fun i j hi hj h => by
    rcases (hops i hi).2 j hj with h1 | h1
    · exact absurd h h1
    · simpa using h1
  have hbk : ∀ i o, i < n → ops[i]? = some o → ∀ e ∈ o.after, Region.binds .any e = true → e.on < i := by
    intro i o hi ho e he hb
    have := hback i hi
    rw [ho] at this
    simp only [Array.all_eq_true_iff_forall_mem, Bool.or_eq_true, Bool.not_eq_true', decide_eq_true_eq] at this
    rcases this e he with h | h
    · rw [hb] at h; cases h
    · exact h
  refine wp_region_any hm ?_
  have key : ∀ (fuel : Nat) (listed : Array Bool) (a : Act) (W : World), listed.size = n → (∃ l : List Nat, l.length ≤ fuel ∧ ∀ i, i < n → listed.getD i true = false → i ∈ l) →
      Below w.heap.size w W → Fr a0 a n D → (∀ j, j < n → listed.getD j true = true → φ j (a.eval (.tmp (D j))) W) → wpAny P .any ops Q fuel listed a W := by
    intro fuel
    induction fuel with
    | zero =>
      intro listed a W hs ⟨l, hll, hl2⟩ hW hfr hφ
      have hl0 : l = [] := List.eq_nil_of_length_eq_zero (by omega)
      have hall : ∀ j, j < n → listed.getD j true = true := fun j hj => by
        cases hq : listed.getD j true with
        | true => rfl
        | false => have := hl2 j hj hq; rw [hl0] at this; cases this
      refine ⟨?_, hend a W hW hfr fun j hj => hφ j hj (hall j hj)⟩
      rw [List.eq_nil_iff_forall_not_mem]
      intro j hj
      obtain ⟨k1, k2, _⟩ := ready_mem hj
      rw [hall j (by omega)] at k2
      cases k2
    | succ fuel ih =>
      intro listed a W hs ⟨l, hll, hl2⟩ hW hfr hφ
      refine ⟨fun hr => hend a W hW hfr fun j hj => hφ j hj ?_, fun i hi => ?_⟩
      · cases hq : listed.getD j true with
        | true => rfl
        | false =>
          exfalso
          obtain ⟨i, hin, hp, hlow⟩ := least (p := fun i => !listed.getD i true) j (by show (!listed.getD j true) = true; rw [hq]; rfl)
          simp only [Bool.not_eq_true', Bool.not_eq_false'] at hp hlow
          obtain ⟨o, ho, _⟩ := hop i (by omega)
          have := mem_ready ho hp (fun e hem hb => by
            have hlt := hbk i o (by omega) ho e hem hb
            rw [getD_any (by omega) false true]
            exact hlow _ hlt)
          rw [hr] at this
          cases this
      obtain ⟨h1, h2, h3⟩ := ready_mem hi
      have hin : i < n := by omega
      obtain ⟨o, ho, hg1⟩ := hop i hin
      have hw : Region.wanted o (yielded ops a.tmps) = true := by
        unfold Region.wanted
        cases hgo : o.guard with
        | none => rfl
        | some p =>
          obtain ⟨j, b⟩ := p
          have hgg := hg1
          simp only [guarded, hgo, Array.any_eq_true', Bool.and_eq_true, beq_iff_eq] at hgg
          obtain ⟨e, he, he1, he2⟩ := hgg
          have hlj := h3 o ho e he he2
          have hji := hbk i o hin ho e he he2
          rw [he1] at hlj hji
          rw [getD_any (by omega) false true] at hlj
          have hv := hgd i o j b hin ho hgo _ _ (hφ j (by omega) hlj)
          obtain ⟨oj, hoj, _⟩ := hop j (by omega)
          have hdj := hdst j oj (by omega) hoj
          have hsj : D j < a.tmps.size := by rw [hfr.s]; exact (hops j (by omega)).1.2
          have hq : a.tmps[D j]? = some (.bool b) := by
            have := Gr.slot hv
            rw [Array.getElem?_eq_getElem hsj] at this ⊢
            simpa using this
          simp [yielded, hoj, hdj, hq]
      unfold wpOp
      simp only [ho, hw, if_true]
      refine .inl ?_
      refine Oper.wp_mono ?_ (hstep i o a W hin ho hW hfr (fun e he hb hen => by
        have := h3 o ho e he hb
        rw [getD_any (by omega) false true] at this
        exact hφ _ hen this))
      rintro a' W' ⟨v, rfl, hv, hb⟩
      have hds : D i < a.tmps.size := by rw [hfr.s]; exact (hops i hin).1.2
      refine ih _ _ _ (by simp [hs]) ⟨l.erase i, ?_, ?_⟩ (hW.trans (hb.mono hW.size)) (fr_put hfr hin v) ?_
      · have := hl2 i hin h2
        rw [List.length_erase_of_mem this]; omega
      · intro j hj hjl
        rw [getD_set (by omega)] at hjl
        by_cases hij : i = j
        · rw [if_pos hij] at hjl; cases hjl
        · rw [if_neg hij] at hjl
          exact (List.mem_erase_of_ne (fun e => hij e.symm)).mpr (hl2 j hj hjl)
      · intro j hj hjl
        rw [eval_put v hds]
        by_cases hij : i = j
        · subst hij; rw [if_pos rfl]; exact hv
        · rw [if_neg (fun e => hij (hinj i j hin hj e))]
          rw [getD_set (by omega), if_neg hij] at hjl
          exact hst _ _ _ _ (hφ j hj hjl) hb
  refine key _ _ _ _ (by simp [hsz]) ⟨List.range n, by simp [hsz], fun i hi _ => List.mem_range.mpr hi⟩ ⟨rfl, rfl, rfl, Nat.le_refl _, fun _ _ => rfl⟩ ⟨rfl, rfl, fun _ _ => rfl⟩ ?_
  intro j hj h
  simp [hsz, hj] at h
/-- what is said of an operation's value: it is that one; or whatever a class of values has that keeps while memory grows -/
inductive Sp where
  | val (u : Value)
  | cls (K : Value → World → Prop) (hK : ∀ v W W', K v W → Below W.heap.size W W' → K v W')
def spφ (l : List Sp) (i : Nat) (v : Value) (W : World) : Prop :=
  match l[i]? with
  | some (.val u) => v = u
  | some (.cls K _) => K v W
  | none => True
def isBool (l : List Sp) (j : Nat) (b : Bool) : Bool :=
  match l[j]? with
  | some (.val (.bool c)) => c == b
  | _ => false
def guardsOk (ops : Array Oper) (l : List Sp) (n : Nat) : Bool :=
  (List.range n).all fun i => match ops[i]? with
    | some o => match o.guard with
      | none => true
      | some (j, b) => isBool l j b
    | none => true
theorem spφ_grow (l : List Sp) : ∀ i v W W', spφ l i v W → Below W.heap.size W W' → spφ l i v W' := by
  intro i v W W' h hb
  unfold spφ at h ⊢
  cases hx : l[i]? with
  | none => trivial
  | some x =>
    rw [hx] at h
    cases x with
    | val u => exact h
    | cls K hK => exact hK v W W' h hb
theorem regionS {P : Program} {ops : Array Oper} {Q : Exit → Act → World → Prop} {a0 : Act} {w : World} {id : Nat} (n : Nat) (D : Nat → Nat) (l : List Sp) (hm : P.follows .mixedOrders = true) (hsh : shapeE ops n D a0.tmps.size = true) (hgs : guardsOk ops l n = true)
    (hstep : ∀ i o a W, i < n → ops[i]? = some o → Below w.heap.size w W → Fr a0 a n D → (∀ e ∈ o.after, Region.binds .any e = true → e.on < n → spφ l e.on (a.eval (.tmp (D e.on))) W) →
      o.wp P a W (fun a' W' => ∃ v, a' = a.put (some (D i)) v ∧ spφ l i v W' ∧ Below W.heap.size W W') Q)
    (hend : ∀ a W, Below w.heap.size w W → Fr a0 a n D → (∀ j, j < n → spφ l j (a.eval (.tmp (D j))) W) → Q .normal a W) :
    (Code.region id ops true).wp P Q a0 w := by
  refine regionE n D hm hsh (spφ l) (spφ_grow l) hstep ?_ hend
  intro i o j b hi ho hg v W hv
  unfold guardsOk at hgs
  rw [List.all_eq_true] at hgs
  have := hgs i (List.mem_range.mpr hi)
  simp only [ho, hg] at this
  unfold isBool at this
  unfold spφ at hv
  split at this
  · rename_i c hc
    rw [hc] at hv
    simp only at hv
    rw [hv, beq_iff_eq.mp this]
  · cases this
end Gr
end Go.Proofs.Ytnhgoeoffjcooaa
