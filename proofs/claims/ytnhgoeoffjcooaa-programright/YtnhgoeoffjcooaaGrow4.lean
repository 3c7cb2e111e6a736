/-
  As Grow3, where some operations are guarded by what is known to come out so that they are not wanted: those are passed over.
-/
import Derived.Test.YtnhgoeoffjcooaaGrow3
namespace Go.Proofs.Ytnhgoeoffjcooaa
open Go.RowKit
namespace Gr
theorem regionX {P : Program} {ops : Array Oper} {Q : Exit → Act → World → Prop} {a0 : Act} {w : World} {id : Nat} (n : Nat) (D : Nat → Nat) (hm : P.follows .mixedOrders = true) (hsh : shapeE ops n D a0.tmps.size = true)
    (skip : Nat → Bool) (φ : Nat → Value → World → Prop) (hst : ∀ i v W W', φ i v W → Below W.heap.size W W' → φ i v W')
    (hstep : ∀ i o a W, i < n → skip i = false → ops[i]? = some o → Below w.heap.size w W → Fr a0 a n D → (∀ e ∈ o.after, Region.binds .any e = true → e.on < n → φ e.on (a.eval (.tmp (D e.on))) W) →
      o.wp P a W (fun a' W' => ∃ v, a' = a.put (some (D i)) v ∧ φ i v W' ∧ Below W.heap.size W W') Q)
    (hgd : ∀ i o j b, i < n → ops[i]? = some o → o.guard = some (j, b) → ∀ v W, φ j v W → v = .bool (b ^^ skip i))
    (hgn : ∀ i o, i < n → ops[i]? = some o → o.guard = none → skip i = false) (hsk : ∀ i, skip i = true → ∀ v W, φ i v W)
    (hend : ∀ a W, Below w.heap.size w W → Fr a0 a n D → (∀ j, j < n → φ j (a.eval (.tmp (D j))) W) → Q .normal a W) :
    (Code.region id ops true).wp P Q a0 w := by
  simp only [shapeE, Bool.and_eq_true, beq_iff_eq, List.all_eq_true, List.mem_range, decide_eq_true_eq, Bool.or_eq_true, bne_iff_ne] at hsh
  obtain ⟨⟨hsz, hops⟩, hback⟩ := hsh
  have hop : ∀ i, i < n → ∃ o, ops[i]? = some o ∧ guarded o = true := by
    intro i h
    have := (hops i h).1.1
    split at this
    · rename_i o ho
      simp only [Bool.and_eq_true] at this
      exact ⟨o, ho, this.2⟩
    · cases this
  have hdst : ∀ i o, i < n → ops[i]? = some o → o.dst = some (D i) := by
    intro i o hi ho
    have := (hops i hi).1.1
    rw [ho] at this
    simp only [Bool.and_eq_true, beq_iff_eq] at this
    exact this.1
  have hinj : ∀ i j, i < n → j < n → D i = D j → i = j := fun i j hi hj h => by
    rcases (hops i hi).2 j hj with h1 | h1
    · exact absurd h h1
    · simpa using h1
  have hbk : ∀ i o, i < n → ops[i]? = some o → ∀ e ∈ o.after, Region.binds .any e = true → e.on < i := by
    intro i o hi ho e he hb
    have := hback i hi
    rw [ho] at this
    simp only [Array.all_eq_true_iff_forall_mem, Bool.or_eq_true, Bool.not_eq_true', decide_eq_true_eq] at this
    rcases this e he with h | h
    · rw [hb] at h; cases h
    · exact h
  refine wp_region_any hm ?_
  have key : ∀ (fuel : Nat) (listed : Array Bool) (a : Act) (W : World), listed.size = n → (∃ l : List Nat, l.length ≤ fuel ∧ ∀ i, i < n → listed.getD i true = false → i ∈ l) →
      Below w.heap.size w W → Fr a0 a n D → (∀ j, j < n → listed.getD j true = true → φ j (a.eval (.tmp (D j))) W) → wpAny P .any ops Q fuel listed a W := by
    intro fuel
    induction fuel with
    | zero =>
      intro listed a W hs ⟨l, hll, hl2⟩ hW hfr hφ
      have hl0 : l = [] := List.eq_nil_of_length_eq_zero (by omega)
      have hall : ∀ j, j < n → listed.getD j true = true := fun j hj => by
        cases hq : listed.getD j true with
        | true => rfl
        | false => have := hl2 j hj hq; rw [hl0] at this; cases this
      refine ⟨?_, hend a W hW hfr fun j hj => hφ j hj (hall j hj)⟩
      rw [List.eq_nil_iff_forall_not_mem]
      intro j hj
      obtain ⟨k1, k2, _⟩ := ready_mem hj
      rw [hall j (by omega)] at k2
      cases k2
    | succ fuel ih =>
      intro listed a W hs ⟨l, hll, hl2⟩ hW hfr hφ
      refine ⟨fun hr => hend a W hW hfr fun j hj => hφ j hj ?_, fun i hi => ?_⟩
      · cases hq : listed.getD j true with
        | true => rfl
        | false =>
          exfalso
          obtain ⟨i, hin, hp, hlow⟩ := least (p := fun i => !listed.getD i true) j (by show (!listed.getD j true) = true; rw [hq]; rfl)
          simp only [Bool.not_eq_true', Bool.not_eq_false'] at hp hlow
          obtain ⟨o, ho, _⟩ := hop i (by omega)
          have := mem_ready ho hp (fun e hem hb => by
            have hlt := hbk i o (by omega) ho e hem hb
            rw [getD_any (by omega) false true]
            exact hlow _ hlt)
          rw [hr] at this
          cases this
      obtain ⟨h1, h2, h3⟩ := ready_mem hi
      have hin : i < n := by omega
      obtain ⟨o, ho, hg1⟩ := hop i hin
      have hw : Region.wanted o (yielded ops a.tmps) = !skip i := by
        unfold Region.wanted
        cases hgo : o.guard with
        | none => rw [hgn i o hin ho hgo]; rfl
        | some p =>
          obtain ⟨j, b⟩ := p
          have hgg := hg1
          simp only [guarded, hgo, Array.any_eq_true', Bool.and_eq_true, beq_iff_eq] at hgg
          obtain ⟨e, he, he1, he2⟩ := hgg
          have hlj := h3 o ho e he he2
          have hji := hbk i o hin ho e he he2
          rw [he1] at hlj hji
          rw [getD_any (by omega) false true] at hlj
          have hv := hgd i o j b hin ho hgo _ _ (hφ j (by omega) hlj)
          obtain ⟨oj, hoj, _⟩ := hop j (by omega)
          have hdj := hdst j oj (by omega) hoj
          have hsj : D j < a.tmps.size := by rw [hfr.s]; exact (hops j (by omega)).1.2
          have hq : a.tmps[D j]? = some (.bool (b ^^ skip i)) := by
            have := Gr.slot hv
            rw [Array.getElem?_eq_getElem hsj] at this ⊢
            simpa using this
          simp [yielded, hoj, hdj, hq]
          cases b <;> cases skip i <;> rfl
      cases hskip : skip i with
      | true =>
        rw [hskip] at hw
        unfold wpOp
        simp only [ho, hw, Bool.not_true, if_false, Bool.false_eq_true]
        rw [hdst i o hin ho]
        have hds : D i < a.tmps.size := by rw [hfr.s]; exact (hops i hin).1.2
        refine ih _ _ _ (by simp [hs]) ⟨l.erase i, ?_, ?_⟩ hW (fr_put hfr hin undef) ?_
        · have := hl2 i hin h2
          rw [List.length_erase_of_mem this]; omega
        · intro j hj hjl
          rw [getD_set (by omega)] at hjl
          by_cases hij : i = j
          · rw [if_pos hij] at hjl; cases hjl
          · rw [if_neg hij] at hjl
            exact (List.mem_erase_of_ne (fun e => hij e.symm)).mpr (hl2 j hj hjl)
        · intro j hj hjl
          rw [eval_put undef hds]
          by_cases hij : i = j
          · subst hij; exact hsk _ hskip _ _
          · rw [if_neg (fun e => hij (hinj i j hin hj e))]
            rw [getD_set (by omega), if_neg hij] at hjl
            exact hφ j hj hjl
      | false =>
        rw [hskip] at hw
        unfold wpOp
        simp only [ho, hw, Bool.not_false, if_true]
        refine .inl ?_
        refine Oper.wp_mono ?_ (hstep i o a W hin hskip ho hW hfr (fun e he hb hen => by
          have := h3 o ho e he hb
          rw [getD_any (by omega) false true] at this
          exact hφ _ hen this))
        rintro a' W' ⟨v, rfl, hv, hb⟩
        have hds : D i < a.tmps.size := by rw [hfr.s]; exact (hops i hin).1.2
        refine ih _ _ _ (by simp [hs]) ⟨l.erase i, ?_, ?_⟩ (hW.trans (hb.mono hW.size)) (fr_put hfr hin v) ?_
        · have := hl2 i hin h2
          rw [List.length_erase_of_mem this]; omega
        · intro j hj hjl
          rw [getD_set (by omega)] at hjl
          by_cases hij : i = j
          · rw [if_pos hij] at hjl; cases hjl
          · rw [if_neg hij] at hjl
            exact (List.mem_erase_of_ne (fun e => hij e.symm)).mpr (hl2 j hj hjl)
        · intro j hj hjl
          rw [eval_put v hds]
          by_cases hij : i = j
          · subst hij; rw [if_pos rfl]; exact hv
          · rw [if_neg (fun e => hij (hinj i j hin hj e))]
            rw [getD_set (by omega), if_neg hij] at hjl
            exact hst _ _ _ _ (hφ j hj hjl) hb
  refine key _ _ _ _ (by simp [hsz]) ⟨List.range n, by simp [hsz], fun i hi _ => List.mem_range.mpr hi⟩ ⟨rfl, rfl, rfl, Nat.le_refl _, fun _ _ => rfl⟩ ⟨rfl, rfl, fun _ _ => rfl⟩ ?_
  intro j hj h
  simp [hsz, hj] at h
/-- of each guarded operation it is known whether it is wanted -/
def guardsX (ops : Array Oper) (l : List Sp) (n : Nat) (sk : List Nat) : Bool :=
  (List.range n).all fun i => match ops[i]? with
    | some o => match o.guard with
      | none => !(sk.contains i)
      | some (j, b) => isBool l j (b ^^ sk.contains i)
    | none => true
theorem regionY {P : Program} {ops : Array Oper} {Q : Exit → Act → World → Prop} {a0 : Act} {w : World} {id : Nat} (n : Nat) (D : Nat → Nat) (l : List Sp) (sk : List Nat) (hm : P.follows .mixedOrders = true) (hsh : shapeE ops n D a0.tmps.size = true) (hgs : guardsX ops l n sk = true) (hsk : ∀ i, sk.contains i = true → ∀ v W, spφ l i v W)
    (hstep : ∀ i o a W, i < n → sk.contains i = false → ops[i]? = some o → Below w.heap.size w W → Fr a0 a n D → (∀ e ∈ o.after, Region.binds .any e = true → e.on < n → spφ l e.on (a.eval (.tmp (D e.on))) W) →
      o.wp P a W (fun a' W' => ∃ v, a' = a.put (some (D i)) v ∧ spφ l i v W' ∧ Below W.heap.size W W') Q)
    (hend : ∀ a W, Below w.heap.size w W → Fr a0 a n D → (∀ j, j < n → spφ l j (a.eval (.tmp (D j))) W) → Q .normal a W) :
    (Code.region id ops true).wp P Q a0 w := by
  have hg0 : ∀ i, i < n → _ := fun i hi => List.all_eq_true.mp hgs i (List.mem_range.mpr hi)
  refine regionX n D hm hsh (fun i => sk.contains i) (spφ l) (spφ_grow l) hstep ?_ ?_ hsk hend
  · intro i o j b hi ho hg v W hv
    have := hg0 i hi
    simp only [ho, hg] at this
    unfold isBool at this
    unfold spφ at hv
    split at this
    · rename_i c hc
      rw [hc] at hv
      simp only at hv
      rw [hv, beq_iff_eq.mp this]
    · cases this
  · intro i o hi ho hg
    have := hg0 i hi
    simp only [ho, hg] at this
    simpa using this
end Gr
end Go.Proofs.Ytnhgoeoffjcooaa
