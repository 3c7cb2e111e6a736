/-
  As Grow: a region that draws its order, whose first operations only read or make memory of their own, and whose last three come one behind the other behind all of them (an append to a row, its place, a store).
-/
import Derived.Test.YtnhgoeoffjcooaaGrow3
namespace Go.Proofs.Ytnhgoeoffjcooaa
open Go.RowKit
namespace Gr
def edge (ops : Array Oper) (i j : Nat) : Bool := match ops[i]? with | some o => o.after.any fun e => e.on == j && Region.binds .any e | none => false
def shapeT (ops : Array Oper) (n : Nat) (D : Nat → Nat) (size : Nat) : Bool :=
  ops.size == n + 3 &&
  ((List.range n).all fun i => (match ops[i]? with | some o => o.dst == some (D i) && o.guard.isNone | none => false) && decide (D i < size) && (List.range n).all fun j => D i != D j || i == j) &&
  ((List.range 3).all fun t => match ops[n + t]? with | some o => o.guard.isNone | none => false) &&
  edge ops (n + 1) n && edge ops (n + 2) (n + 1) &&
  ((List.range n).all fun j => (List.range (n + 1)).any fun k => decide (j < k) && edge ops k j) &&
  ((List.range (n + 3)).all fun i => match ops[i]? with | some o => o.after.all fun e => !Region.binds .any e || decide (e.on < i) | none => false)
theorem edge_at {ops : Array Oper} {i j : Nat} {o : Oper} (h : edge ops i j = true) (ho : ops[i]? = some o) : ∃ e ∈ o.after, e.on = j ∧ Region.binds .any e = true := by
  unfold edge at h
  rw [ho] at h
  simp only [Array.any_eq_true', Bool.and_eq_true, beq_iff_eq] at h
  obtain ⟨e, he, h1, h2⟩ := h
  exact ⟨e, he, h1, h2⟩
theorem regionT {P : Program} {ops : Array Oper} {Q : Exit → Act → World → Prop} {a0 : Act} {w : World} {id : Nat} (n : Nat) (D : Nat → Nat) (hm : P.follows .mixedOrders = true) (hsh : shapeT ops n D a0.tmps.size = true)
    (φ : Nat → Value → World → Prop) (hst : ∀ i v W W', φ i v W → Below W.heap.size W W' → φ i v W')
    (hstep : ∀ i o a W, i < n → ops[i]? = some o → Below w.heap.size w W → Fr a0 a n D → (∀ e ∈ o.after, Region.binds .any e = true → e.on < n → φ e.on (a.eval (.tmp (D e.on))) W) →
      o.wp P a W (fun a' W' => ∃ v, a' = a.put (some (D i)) v ∧ φ i v W' ∧ Below W.heap.size W W') Q)
    (hlast : ∀ o1 o2 o3 a W, ops[n]? = some o1 → ops[n + 1]? = some o2 → ops[n + 2]? = some o3 → Below w.heap.size w W → Fr a0 a n D → (∀ j, j < n → φ j (a.eval (.tmp (D j))) W) →
      o1.wp P a W (fun a1 W1 => o2.wp P a1 W1 (fun a2 W2 => o3.wp P a2 W2 (fun a3 W3 => Q .normal a3 W3) Q) Q) Q) :
    (Code.region id ops true).wp P Q a0 w := by
  simp only [shapeT, Bool.and_eq_true, beq_iff_eq] at hsh
  obtain ⟨⟨⟨⟨⟨⟨hsz, hops0⟩, ht⟩, he1⟩, he2⟩, hcov0⟩, hback⟩ := hsh
  simp only [Bool.and_eq_true, beq_iff_eq, List.all_eq_true, List.mem_range, decide_eq_true_eq, Bool.or_eq_true, bne_iff_ne] at hops0 hback
  have hops := hops0
  have hcov : ∀ j, j < n → ∃ k, k < n + 1 ∧ j < k ∧ edge ops k j = true := by
    intro j hj
    have := (List.all_eq_true.mp hcov0) j (List.mem_range.mpr hj)
    rw [List.any_eq_true] at this
    obtain ⟨k, hk, h⟩ := this
    rw [Bool.and_eq_true, decide_eq_true_iff] at h
    exact ⟨k, List.mem_range.mp hk, h.1, h.2⟩
  have htl : ∀ t, t < 3 → ∃ o, ops[n + t]? = some o ∧ o.guard = none := by
    intro t h
    have := (List.all_eq_true.mp ht) t (List.mem_range.mpr h)
    split at this
    · rename_i o ho
      exact ⟨o, ho, Option.isNone_iff_eq_none.mp this⟩
    · cases this
  have hop : ∀ i, i < n + 3 → ∃ o, ops[i]? = some o ∧ o.guard = none := by
    intro i hi
    rcases Nat.lt_or_ge i n with h | h
    · have := (hops i h).1.1
      split at this
      · rename_i o ho
        simp only [Bool.and_eq_true, Option.isNone_iff_eq_none] at this
        exact ⟨o, ho, this.2⟩
      · cases this
    · obtain ⟨o, ho, hg⟩ := htl (i - n) (by omega)
      rw [show n + (i - n) = i by omega] at ho
      exact ⟨o, ho, hg⟩
  have hdst : ∀ i o, i < n → ops[i]? = some o → o.dst = some (D i) := by
    intro i o hi ho
    have := (hops i hi).1.1
    rw [ho] at this
    simp only [Bool.and_eq_true, beq_iff_eq] at this
    exact this.1
  have hinj : ∀ i j, i < n → j < n → D i = D j → i = j := fun i j hi hj h => by
    rcases (hops i hi).2 j hj with h1 | h1
    · exact absurd h h1
    · simpa using h1
  have hbk : ∀ i o, i < n + 3 → ops[i]? = some o → ∀ e ∈ o.after, Region.binds .any e = true → e.on < i := by
    intro i o hi ho e he hb
    have := hback i hi
    rw [ho] at this
    simp only [Array.all_eq_true_iff_forall_mem, Bool.or_eq_true, Bool.not_eq_true', decide_eq_true_eq] at this
    rcases this e he with h | h
    · rw [hb] at h; cases h
    · exact h
  have nonempty : ∀ (listed : Array Bool) j, listed.size = n + 3 → j < n + 3 → listed.getD j true = false → Region.ready .any ops listed ≠ [] := by
    intro listed j hs hj hl he
    obtain ⟨i, hin, hp, hlow⟩ := least (p := fun i => !listed.getD i true) j (by show (!listed.getD j true) = true; rw [hl]; rfl)
    simp only [Bool.not_eq_true', Bool.not_eq_false'] at hp hlow
    obtain ⟨o, ho, _⟩ := hop i (by omega)
    have := mem_ready ho hp (fun e hem hb => by
      have hlt := hbk i o (by omega) ho e hem hb
      rw [getD_any (by omega) false true]
      exact hlow _ hlt)
    rw [he] at this
    cases this
  -- the last of all, behind all others
  have end3 : ∀ (fuel : Nat) (listed : Array Bool) (a : Act) (W : World), listed.size = n + 3 → (∀ j, j < n + 3 → listed.getD j true = true) → Q .normal a W → wpAny P .any ops Q fuel listed a W := by
    intro fuel listed a W hs hall hq
    refine any_done ?_ hq fuel
    rw [List.eq_nil_iff_forall_not_mem]
    intro j hj
    obtain ⟨k1, k2, _⟩ := ready_mem hj
    rw [hall j (by omega)] at k2
    cases k2
  have one : ∀ (m fuel : Nat) (listed : Array Bool) (a : Act) (W : World) (o : Oper), m < n + 3 → listed.size = n + 3 → ops[m]? = some o → listed.getD m true = false → (∀ i, i ∈ Region.ready .any ops listed → i = m) →
      o.wp P a W (fun a' W' => wpAny P .any ops Q fuel (listed.setIfInBounds m true) a' W') Q → wpAny P .any ops Q (fuel + 1) listed a W := by
    intro m fuel listed a W o hmn hs ho hl hu h
    refine ⟨fun hr => absurd hr (nonempty listed m hs hmn hl), fun i hi => ?_⟩
    obtain rfl := hu i hi
    obtain ⟨o', ho', hg⟩ := hop i hmn
    rw [ho] at ho'
    injection ho' with ho'
    subst ho'
    have hw : Region.wanted o (yielded ops a.tmps) = true := by simp [Region.wanted, hg]
    unfold wpOp
    simp only [ho, hw, if_true]
    exact .inl h
  refine wp_region_any hm ?_
  have key : ∀ (fuel : Nat) (listed : Array Bool) (a : Act) (W : World), listed.size = n + 3 → (∃ l : List Nat, l.length + 3 ≤ fuel ∧ ∀ i, i < n → listed.getD i true = false → i ∈ l) → (∀ i, n ≤ i → i < n + 3 → listed.getD i true = false) →
      (∀ i o, i < n → listed.getD i true = true → ops[i]? = some o → ∀ e ∈ o.after, Region.binds .any e = true → listed.getD e.on true = true) →
      Below w.heap.size w W → Fr a0 a n D → (∀ j, j < n → listed.getD j true = true → φ j (a.eval (.tmp (D j))) W) → wpAny P .any ops Q fuel listed a W := by
    intro fuel
    induction fuel with
    | zero => intro listed a W hs ⟨l, hll, hl2⟩; omega
    | succ fuel ih =>
      intro listed a W hs ⟨l, hll, hl2⟩ hN hdc hW hfr hφ
      by_cases hall : ∀ j, j < n → listed.getD j true = true
      · -- the three, one behind the other
        obtain ⟨o1, ho1, _⟩ := hop n (by omega)
        obtain ⟨o2, ho2, _⟩ := hop (n + 1) (by omega)
        obtain ⟨o3, ho3, _⟩ := hop (n + 2) (by omega)
        have r1 : ∀ (L : Array Bool), L.size = n + 3 → L.getD n true = false → ∀ i ∈ Region.ready .any ops L, i ≠ n + 1 := by
          rintro L hL hn i hi rfl
          obtain ⟨_, _, h3⟩ := ready_mem hi
          obtain ⟨e, he, h4, h5⟩ := edge_at he1 ho2
          have := h3 o2 ho2 e he h5
          rw [h4, getD_any (by omega) false true, hn] at this
          cases this
        have r2 : ∀ (L : Array Bool), L.size = n + 3 → L.getD (n + 1) true = false → ∀ i ∈ Region.ready .any ops L, i ≠ n + 2 := by
          rintro L hL hn i hi rfl
          obtain ⟨_, _, h3⟩ := ready_mem hi
          obtain ⟨e, he, h4, h5⟩ := edge_at he2 ho3
          have := h3 o3 ho3 e he h5
          rw [h4, getD_any (by omega) false true, hn] at this
          cases this
        obtain ⟨f2, rfl⟩ : ∃ f2, fuel = f2 + 2 := ⟨fuel - 2, by omega⟩
        refine one n (f2 + 2) listed a W o1 (by omega) hs ho1 (hN n (Nat.le_refl _) (by omega)) (fun i hi => ?_) ?_
        · obtain ⟨h1, h2, _⟩ := ready_mem hi
          have a1 := r1 listed hs (hN n (Nat.le_refl _) (by omega)) i hi
          have a2 := r2 listed hs (hN (n + 1) (by omega) (by omega)) i hi
          rcases Nat.lt_or_ge i n with h | h
          · rw [hall i h] at h2; cases h2
          · omega
        refine Oper.wp_mono ?_ (hlast o1 o2 o3 a W ho1 ho2 ho3 hW hfr (fun j hj => hφ j hj (hall j hj)))
        intro a1 W1 hw1
        have s1 : (listed.setIfInBounds n true).size = n + 3 := by simp [hs]
        have g1 : ∀ j, j < n + 3 → (listed.setIfInBounds n true).getD j true = if n = j then true else listed.getD j true := fun j hj => getD_set (by omega)
        refine one (n + 1) (f2 + 1) _ a1 W1 o2 (by omega) s1 ho2 (by rw [g1 _ (by omega), if_neg (by omega)]; exact hN _ (by omega) (by omega)) (fun i hi => ?_) ?_
        · obtain ⟨h1, h2, _⟩ := ready_mem hi
          have a2 := r2 _ s1 (by rw [g1 _ (by omega), if_neg (by omega)]; exact hN _ (by omega) (by omega)) i hi
          rw [g1 i (by omega)] at h2
          rcases Nat.lt_or_ge i n with h | h
          · rw [if_neg (by omega), hall i h] at h2; cases h2
          · by_cases hin : n = i
            · rw [if_pos hin] at h2; cases h2
            · omega
        refine Oper.wp_mono ?_ hw1
        intro a2 W2 hw2
        have s2 : ((listed.setIfInBounds n true).setIfInBounds (n + 1) true).size = n + 3 := by simp [hs]
        have g2 : ∀ j, j < n + 3 → ((listed.setIfInBounds n true).setIfInBounds (n + 1) true).getD j true = if n + 1 = j then true else if n = j then true else listed.getD j true := fun j hj => by rw [getD_set (by omega), g1 j hj]
        refine one (n + 2) f2 _ a2 W2 o3 (by omega) s2 ho3 (by rw [g2 _ (by omega), if_neg (by omega), if_neg (by omega)]; exact hN _ (by omega) (by omega)) (fun i hi => ?_) ?_
        · obtain ⟨h1, h2, _⟩ := ready_mem hi
          rw [g2 i (by omega)] at h2
          rcases Nat.lt_or_ge i n with h | h
          · rw [if_neg (by omega), if_neg (by omega), hall i h] at h2; cases h2
          · by_cases h1n : n + 1 = i
            · rw [if_pos h1n] at h2; cases h2
            · rw [if_neg h1n] at h2
              by_cases hin : n = i
              · rw [if_pos hin] at h2; cases h2
              · omega
        refine Oper.wp_mono ?_ hw2
        intro a3 W3 hw3
        refine end3 f2 _ a3 W3 (by simp [hs]) (fun j hj => ?_) hw3
        rw [getD_set (by omega), g2 j hj]
        by_cases h2 : n + 2 = j
        · rw [if_pos h2]
        · rw [if_neg h2]
          by_cases h1 : n + 1 = j
          · rw [if_pos h1]
          · rw [if_neg h1]
            by_cases h0 : n = j
            · rw [if_pos h0]
            · rw [if_neg h0]; exact hall j (by omega)
      · -- one of the first
        obtain ⟨j0, hj0, hl0⟩ : ∃ j, j < n ∧ listed.getD j true = false := by
          by_cases h : ∃ j, j < n ∧ listed.getD j true = false
          · exact h
          · exact absurd (fun j hj => by
              cases hq : listed.getD j true with
              | true => rfl
              | false => exact absurd ⟨j, hj, hq⟩ h) hall
        refine ⟨fun hr => absurd hr (nonempty listed j0 hs (by omega) hl0), fun i hi => ?_⟩
        obtain ⟨h1, h2, h3⟩ := ready_mem hi
        obtain ⟨o, ho, hg⟩ := hop i (by omega)
        have hin : i < n := by
          rcases Nat.lt_or_ge i n with h | h
          · exact h
          · exfalso
            rcases Nat.lt_or_ge n i with h4 | h4
            · rcases Nat.lt_or_ge (n + 1) i with h5 | h5
              · obtain rfl : i = n + 2 := by omega
                obtain ⟨e, he, h6, h7⟩ := edge_at he2 ho
                have := h3 o ho e he h7
                rw [h6, getD_any (by omega) false true, hN _ (by omega) (by omega)] at this
                cases this
              · obtain rfl : i = n + 1 := by omega
                obtain ⟨e, he, h6, h7⟩ := edge_at he1 ho
                have := h3 o ho e he h7
                rw [h6, getD_any (by omega) false true, hN _ (by omega) (by omega)] at this
                cases this
            · obtain rfl : i = n := by omega
              have allL : ∀ d j, j < i → i - j = d → listed.getD j true = true := by
                intro d
                induction d using Nat.strongRecOn with
                | _ d ihd =>
                  intro j hj hd
                  obtain ⟨k, hk, hjk, hke⟩ := hcov j hj
                  obtain ⟨ok, hok, _⟩ := hop k (by omega)
                  obtain ⟨e, he, h6, h7⟩ := edge_at hke hok
                  rcases Nat.lt_or_ge k i with hki | hki
                  · have hkl := ihd (i - k) (by omega) k hki rfl
                    have := hdc k ok hki hkl hok e he h7
                    rw [h6] at this
                    exact this
                  · obtain rfl : k = i := by omega
                    rw [ho] at hok
                    injection hok with hok
                    subst hok
                    have := h3 o ho e he h7
                    rw [h6, getD_any (by omega) false true] at this
                    exact this
              rw [allL _ j0 hj0 rfl] at hl0
              cases hl0
        have hw : Region.wanted o (yielded ops a.tmps) = true := by simp [Region.wanted, hg]
        unfold wpOp
        simp only [ho, hw, if_true]
        refine .inl ?_
        refine Oper.wp_mono ?_ (hstep i o a W hin ho hW hfr (fun e he hb hen => by
          have := h3 o ho e he hb
          rw [getD_any (by omega) false true] at this
          exact hφ _ hen this))
        rintro a' W' ⟨v, rfl, hv, hb⟩
        have hds : D i < a.tmps.size := by rw [hfr.s]; exact (hops i hin).1.2
        refine ih _ _ _ (by simp [hs]) ⟨l.erase i, ?_, ?_⟩ (fun j hj hj2 => ?_) (fun j oj hj hjl hoj e he hbe => ?_) (hW.trans (hb.mono hW.size)) (fr_put hfr hin v) ?_
        · have := hl2 i hin h2
          have hpos : 0 < l.length := List.length_pos_of_mem this
          rw [List.length_erase_of_mem this]; omega
        · intro j hj hjl
          rw [getD_set (by omega)] at hjl
          by_cases hij : i = j
          · rw [if_pos hij] at hjl; cases hjl
          · rw [if_neg hij] at hjl
            exact (List.mem_erase_of_ne (fun e => hij e.symm)).mpr (hl2 j hj hjl)
        · rw [getD_set (by omega), if_neg (by omega)]; exact hN j hj hj2
        · have hlt := hbk j oj (by omega) hoj e he hbe
          rw [getD_set (by omega)] at hjl ⊢
          by_cases hie : i = e.on
          · rw [if_pos hie]
          · rw [if_neg hie]
            by_cases hij : i = j
            · subst hij
              rw [ho] at hoj
              injection hoj with hoj
              subst hoj
              have := h3 o ho e he hbe
              rw [getD_any (by omega) false true] at this
              exact this
            · rw [if_neg hij] at hjl
              exact hdc j oj hj hjl hoj e he hbe
        · intro j hj hjl
          rw [eval_put v hds]
          by_cases hij : i = j
          · subst hij; rw [if_pos rfl]; exact hv
          · rw [if_neg (fun e => hij (hinj i j hin hj e))]
            rw [getD_set (by omega), if_neg hij] at hjl
            exact hst _ _ _ _ (hφ j hj hjl) hb
  refine key _ _ _ _ (by simp [hsz]) ⟨List.range n, by simp [hsz], fun i hi _ => List.mem_range.mpr hi⟩ (fun i h1 h2 => by simp [hsz, h2]) (fun i o hi hl => by simp [hsz, show i < n + 3 by omega] at hl) ⟨rfl, rfl, rfl, Nat.le_refl _, fun _ _ => rfl⟩ ⟨rfl, rfl, fun _ _ => rfl⟩ ?_
  intro j hj h
  simp [hsz, show j < n + 3 by omega] at h
end Gr
end Go.Proofs.Ytnhgoeoffjcooaa
