/-
  As Grow: a region that draws its order, whose operations only read or make memory of their own; some of them guarded, by what is known to come out so that they are wanted.
-/
import Derived.Test.YtnhgoeoffjcooaaGrow
namespace Go.Proofs.Ytnhgoeoffjcooaa
open Go.RowKit
namespace Gr
/-- an operation's guard is yielded ahead of it -/
def guarded (o : Oper) : Bool := match o.guard with | none => true | some (j, _) => o.after.any fun e => e.on == j && Region.binds .any e
def shapeG (ops : Array Oper) (n : Nat) (D : Nat → Nat) (size : Nat) : Bool :=
  ops.size == n + 1 &&
  ((List.range n).all fun i => (match ops[i]? with | some o => o.dst == some (D i) && guarded o | none => false) && decide (D i < size) && (List.range n).all fun j => D i != D j || i == j) &&
  (match ops[n]? with | some o => o.guard.isNone && (List.range n).all fun j => o.after.any fun e => e.on == j && Region.binds .any e | none => false) &&
  ((List.range (n + 1)).all fun i => match ops[i]? with | some o => o.after.all fun e => !Region.binds .any e || decide (e.on < i) | none => false)
theorem regionG {P : Program} {ops : Array Oper} {Q : Exit → Act → World → Prop} {a0 : Act} {w : World} {id : Nat} (n : Nat) (D : Nat → Nat) (hm : P.follows .mixedOrders = true) (hsh : shapeG ops n D a0.tmps.size = true)
    (φ : Nat → Value → World → Prop) (hst : ∀ i v W W', φ i v W → Below W.heap.size W W' → φ i v W')
    (hstep : ∀ i o a W, i < n → ops[i]? = some o → Below w.heap.size w W → Fr a0 a n D → (∀ e ∈ o.after, Region.binds .any e = true → e.on < n → φ e.on (a.eval (.tmp (D e.on))) W) →
      o.wp P a W (fun a' W' => ∃ v, a' = a.put (some (D i)) v ∧ φ i v W' ∧ Below W.heap.size W W') Q)
    (hgd : ∀ i o j b, i < n → ops[i]? = some o → o.guard = some (j, b) → ∀ v W, φ j v W → v = .bool b)
    (hlast : ∀ o a W, ops[n]? = some o → Below w.heap.size w W → Fr a0 a n D → (∀ j, j < n → φ j (a.eval (.tmp (D j))) W) → o.wp P a W (fun a' W' => Q .normal a' W') Q) :
    (Code.region id ops true).wp P Q a0 w := by
  simp only [shapeG, Bool.and_eq_true, beq_iff_eq, List.all_eq_true, List.mem_range, decide_eq_true_eq, Bool.or_eq_true, bne_iff_ne] at hsh
  obtain ⟨⟨⟨hsz, hops⟩, hl⟩, hback⟩ := hsh
  have hop : ∀ i, i ≤ n → ∃ o, ops[i]? = some o ∧ (i < n → guarded o = true) ∧ (i = n → o.guard = none) := by
    intro i hi
    rcases Nat.lt_or_ge i n with h | h
    · have := (hops i h).1.1
      split at this
      · rename_i o ho
        simp only [Bool.and_eq_true] at this
        exact ⟨o, ho, fun _ => this.2, fun e => by omega⟩
      · cases this
    · obtain rfl : i = n := by omega
      split at hl
      · rename_i o ho
        simp only [Bool.and_eq_true, Option.isNone_iff_eq_none] at hl
        exact ⟨o, ho, fun e => by omega, fun _ => hl.1⟩
      · cases hl
  have hdst : ∀ i o, i < n → ops[i]? = some o → o.dst = some (D i) := by
    intro i o hi ho
    have := (hops i hi).1.1
    rw [ho] at this
    simp only [Bool.and_eq_true, beq_iff_eq] at this
    exact this.1
  have hinj : ∀ i j, i < n → j < n → D i = D j → i = j := fun i j hi hj h => by
    rcases (hops i hi).2 j hj with h1 | h1
    · exact absurd h h1
    · simpa using h1
  have hall : ∀ o, ops[n]? = some o → ∀ j, j < n → ∃ e ∈ o.after, e.on = j ∧ Region.binds .any e = true := by
    intro o ho j hj
    rw [ho] at hl
    simp only [Bool.and_eq_true, List.all_eq_true, List.mem_range, Array.any_eq_true', beq_iff_eq] at hl
    obtain ⟨e, he, h1, h2⟩ := hl.2 j hj
    exact ⟨e, he, h1, h2⟩
  have hbk : ∀ i o, i ≤ n → ops[i]? = some o → ∀ e ∈ o.after, Region.binds .any e = true → e.on < i := by
    intro i o hi ho e he hb
    have := hback i (by omega)
    rw [ho] at this
    simp only [Array.all_eq_true_iff_forall_mem, Bool.or_eq_true, Bool.not_eq_true', decide_eq_true_eq] at this
    rcases this e he with h | h
    · rw [hb] at h; cases h
    · exact h
  refine wp_region_any hm ?_
  have key : ∀ (fuel : Nat) (listed : Array Bool) (a : Act) (W : World), listed.size = n + 1 → (∃ l : List Nat, l.length ≤ fuel ∧ ∀ i, i ≤ n → listed.getD i true = false → i ∈ l) →
      Below w.heap.size w W → Fr a0 a n D → (∀ j, j < n → listed.getD j true = true → φ j (a.eval (.tmp (D j))) W) → listed.getD n true = false → wpAny P .any ops Q fuel listed a W := by
    intro fuel
    induction fuel with
    | zero =>
      intro listed a W hs ⟨l, hll, hl2⟩ _ _ _ hn
      exfalso
      have hl0 : l = [] := List.eq_nil_of_length_eq_zero (by omega)
      have := hl2 n (Nat.le_refl _) hn
      rw [hl0] at this
      cases this
    | succ fuel ih =>
      intro listed a W hs ⟨l, hll, hl2⟩ hW hfr hφ hn
      have hnone : Region.ready .any ops listed ≠ [] := by
        intro he
        obtain ⟨i, hin, hp, hlow⟩ := least (p := fun i => !listed.getD i true) n (by simp [hn])
        simp only [Bool.not_eq_true', Bool.not_eq_false'] at hp hlow
        obtain ⟨o, ho, _, _⟩ := hop i hin
        have := mem_ready ho hp (fun e hem hb => by
          have hlt := hbk i o hin ho e hem hb
          rw [getD_any (by omega) false true]
          exact hlow _ hlt)
        rw [he] at this
        cases this
      refine ⟨fun h => absurd h hnone, fun i hi => ?_⟩
      obtain ⟨h1, h2, h3⟩ := ready_mem hi
      obtain ⟨o, ho, hg1, hg2⟩ := hop i (by omega)
      have hw : Region.wanted o (yielded ops a.tmps) = true := by
        unfold Region.wanted
        cases hgo : o.guard with
        | none => rfl
        | some p =>
          obtain ⟨j, b⟩ := p
          rcases Nat.lt_or_ge i n with hin | hin
          · have hgg := hg1 hin
            simp only [guarded, hgo, Array.any_eq_true', Bool.and_eq_true, beq_iff_eq] at hgg
            obtain ⟨e, he, he1, he2⟩ := hgg
            have hlj := h3 o ho e he he2
            have hji := hbk i o (by omega) ho e he he2
            rw [he1] at hlj hji
            rw [getD_any (by omega) false true] at hlj
            have hv := hgd i o j b hin ho hgo _ _ (hφ j (by omega) hlj)
            obtain ⟨oj, hoj, _⟩ := hop j (by omega)
            have hdj := hdst j oj (by omega) hoj
            have hsj : D j < a.tmps.size := by rw [hfr.s]; exact (hops j (by omega)).1.2
            have hq : a.tmps[D j]? = some (.bool b) := by
              have := Gr.slot hv
              rw [Array.getElem?_eq_getElem hsj] at this ⊢
              simpa using this
            simp [yielded, hoj, hdj, hq]
          · rw [hg2 (by omega)] at hgo; cases hgo
      unfold wpOp
      simp only [ho, hw, if_true]
      refine .inl ?_
      rcases Nat.lt_or_ge i n with hin | hin
      · refine Oper.wp_mono ?_ (hstep i o a W hin ho hW hfr (fun e he hb hen => by
          have := h3 o ho e he hb
          rw [getD_any (by omega) false true] at this
          exact hφ _ hen this))
        rintro a' W' ⟨v, rfl, hv, hb⟩
        have hds : D i < a.tmps.size := by rw [hfr.s]; exact (hops i hin).1.2
        refine ih _ _ _ (by simp [hs]) ⟨l.erase i, ?_, ?_⟩ (hW.trans (hb.mono hW.size)) (fr_put hfr hin v) ?_ ?_
        · have := hl2 i (by omega) h2
          rw [List.length_erase_of_mem this]; omega
        · intro j hj hjl
          rw [getD_set (by omega)] at hjl
          by_cases hij : i = j
          · rw [if_pos hij] at hjl; cases hjl
          · rw [if_neg hij] at hjl
            exact (List.mem_erase_of_ne (fun e => hij e.symm)).mpr (hl2 j hj hjl)
        · intro j hj hjl
          rw [eval_put v hds]
          by_cases hij : i = j
          · subst hij; rw [if_pos rfl]; exact hv
          · rw [if_neg (fun e => hij (hinj i j hin hj e))]
            rw [getD_set (by omega), if_neg hij] at hjl
            exact hst _ _ _ _ (hφ j hj hjl) hb
        · rw [getD_set (by omega), if_neg (by omega)]; exact hn
      · obtain rfl : i = n := by omega
        refine Oper.wp_mono ?_ (hlast o a W ho hW hfr (fun j hj => hφ j hj (by
          obtain ⟨e, he, h4, h5⟩ := hall o ho j hj
          have := h3 o ho e he h5
          rw [h4, getD_any (by omega) false true] at this
          exact this)))
        intro a' W' hQ
        refine any_done ?_ hQ fuel
        rw [List.eq_nil_iff_forall_not_mem]
        intro j hj
        obtain ⟨k1, k2, _⟩ := ready_mem hj
        rw [getD_set (by omega)] at k2
        by_cases hij : i = j
        · rw [if_pos hij] at k2; cases k2
        · rw [if_neg hij] at k2
          obtain ⟨e, he, h4, h5⟩ := hall o ho j (by omega)
          have := h3 o ho e he h5
          rw [h4, getD_any (by omega) false true, k2] at this
          cases this
  refine key _ _ _ _ (by simp [hsz]) ⟨List.range (n + 1), by simp [hsz], fun i hi _ => List.mem_range.mpr (by omega)⟩ ⟨rfl, rfl, rfl, Nat.le_refl _, fun _ _ => rfl⟩ ⟨rfl, rfl, fun _ _ => rfl⟩ ?_ ?_
  · intro j hj h
    simp [hsz, show j < n + 1 by omega] at h
  · simp [hsz]
end Gr
end Go.Proofs.Ytnhgoeoffjcooaa
