/-
  What the document's own Union, and the cut to 40 numbers, do (layer 4); an append from whatever slice of numbers.
-/
import Derived.Test.YtkbchpbdpkbnjaaIdsRef
import Derived.Laws.AppendOwnNone
namespace Go.Proofs.Ytkbchpbdpkbnjaa
open Go.RowKit
namespace I

theorem IntsAt.none {w : World} {xs : List Int} (h : IntsAt w none xs) : xs = [] := by
  cases xs with
  | nil => rfl
  | cons x r => obtain ⟨b, off, e, _⟩ := h (by simp); cases e

/-- append onto a row of the call's own, from whatever slice of ints, nil let in -/
theorem wpList_append_ints (w : World) {ops : Array Oper} {rest : List Oper} {o : Oper} {a : Act} {Q : Exit → Act → World → Prop} (hgd : o.guard = .none) (s x : Operand)
    (ho : o.op = .call { callee := .builtin .append, args := #[s, x], argTypes := #[41, 41] })
    (base : Nat) (i : TypeInfo) (hi : Try.prog.info? 3 = some i) (hz : i.zero = some (.int .i64 0)) (hsize : i.size = 1) (hby : i.bytes = 8)
    (v : Value) (ys xs : List Int) (hs : a.eval s = v) (hown : w.ownsRow base 3 1 v ys.length (icells ys)) (A : Option Addr) (c : Nat) (hx : a.eval x = .slice A xs.length c) (hI : IntsAt w A xs) (hn : A = .none → c = 0)
    (h63 : ys.length + xs.length ≤ 10000000) (hbase : base ≤ w.heap.size)
    (h : ∀ v' w', w'.ownsRow base 3 1 v' (ys ++ xs).length (icells (ys ++ xs)) → w.grownBy w' v.ownBlock → wpList Try.prog ops Q rest (a.put o.dst v') w') : wpList Try.prog ops Q (o :: rest) a w := by
  cases A with
  | none =>
    have hxs := hI.none
    subst hxs
    have hc := hn rfl
    subst hc
    refine wpList_append_own_none hgd s x 41 ho base 3 i 1 Try.underlying41 hi v ys.length (icells ys) hs hown hx ?_
    exact h v w (by rw [List.append_nil]; exact hown) (World.grownBy.refl _ _)
  | some ad =>
    refine wpList_append_own w hgd s x 41 ho base 3 i (.int .i64 0) 1 8 Try.underlying41 hi hz hsize hby rfl (by decide) v ys.length (icells ys) hs hown ad xs.length c (icells xs) hx (by rw [icells_length]; omega) ?_ (all_int xs) (by unfold maxLen; omega) (by omega) hbase ?_
    · intro j u hj
      have hjl : j < xs.length := by
        rcases Nat.lt_or_ge j xs.length with h1 | h1
        · exact h1
        · rw [List.getElem?_eq_none (by rw [icells_length]; exact h1)] at hj; cases hj
      obtain ⟨b, off, e, _, hc⟩ := hI (by omega)
      injection e with e
      subst e
      have hp : (⟨b, off, Option.none⟩ : Addr).add j = ⟨b, off + j, Option.none⟩ := by unfold Addr.add; split <;> simp_all
      rw [hp, hc j hjl]
      simp [icells, List.getElem?_eq_getElem hjl] at hj
      rw [← hj]
    · intro v' w' h1 h2 _
      exact h v' w' (by rw [List.length_append, icells_append]; exact h1) h2

set_option maxHeartbeats 1000000 in
theorem refUnion_any (xs ys : List Int) (A B : Option Addr) (c d : Nat) (w : World) (hl : xs.length ≤ 400000) (hl2 : ys.length ≤ 400000) (hx : IntsAt w A xs) (hy : IntsAt w B ys) (hA : A = none → c = 0) (hB : B = none → d = 0) :
    Calls Try.prog 46 #[.slice A xs.length c, .slice B ys.length d] w fun e w' => ∃ v, e = .returned v ∧ Lst w' v (Ids.setOf (xs ++ ys)) ∧ Below w.heap.size w w' := by
  obtain ⟨i0, hi, hz0, hz1, hz2⟩ := info_parts info3
  have HX := Lib.hid hx
  have HY := Lib.hid hy
  have HA := Lib.hid hA
  have HB := Lib.hid hB
  have b0 : Below w.heap.size w (w.alloc (.cells #[] 3)) := (Below.refl _ _).alloc (Nat.le_refl _) _
  have own0 : (w.alloc (.cells #[] 3)).ownsRow w.heap.size 3 1 (.slice (some ⟨w.heap.size, 0, none⟩) 0 0) ([] : List Int).length (icells []) := World.ownsRow_lit w #[] 0 (Nat.le_refl _) (Nat.zero_le _) rfl
  have O0 := Lib.hid own0
  clear hx hy hA hB own0
  go_enter Try.func46, Try.ntmps46
  go_wp2_with (at_builtin; refine wpList_append_ints _ rfl _ _ rfl w.heap.size i0 hi hz0 hz1 hz2 _ [] xs rfl O0.out A c rfl (HX.out.below b0) HA.out (by simp; omega) b0.size ?_)
  intro v1 w1 own1 g1
  have b1 : Below w.heap.size w w1 := b0.grown g1 b0.size (fun k hk => (O0.out.lt k hk).1)
  have O1 := Lib.hid own1
  clear own1 g1
  go_wp2_with (at_builtin; refine wpList_append_ints _ rfl _ _ rfl w.heap.size i0 hi hz0 hz1 hz2 _ xs ys rfl O1.out B d rfl (HY.out.below b1) HB.out (by omega) b1.size ?_)
  intro v2 w2 own2 g2
  have b2 : Below w.heap.size w w2 := b1.grown g2 b1.size (fun k hk => (O1.out.lt k hk).1)
  obtain ⟨A2, c2, hv, hI2, _⟩ := own_ints own2
  subst hv
  have CO := Lib.hid (refOf_any (xs ++ ys) A2 c2 w2 (by rw [List.length_append]; omega) hI2)
  clear own2 g2 hI2
  have HLx := Lib.hid (show ∃ L, xs ++ ys = L from ⟨_, rfl⟩)
  obtain ⟨L, hLx⟩ := HLx.out
  rw [hLx] at CO ⊢
  have HLy := Lib.hid hLx
  clear hLx HLx
  go_wp2_with (go_at_call 39; ((with_reducible refine CO.out.mono ?_); rintro e1 w3 ⟨v3, rfl, hL3, hb3⟩))
  go_ret
  exact ⟨_, rfl, by rw [HLy.out]; exact hL3, b2.trans (hb3.mono b2.size)⟩

set_option maxHeartbeats 400000 in
theorem few_any (xs : List Int) (A : Option Addr) (c : Nat) (w : World) (hc : xs.length ≤ c) (hcm : c ≤ maxLen) :
    Calls Try.prog 36 #[.slice A xs.length c] w fun e w' => e = .returned (.slice A (xs.take 40).length c) ∧ w = w' := by
  unfold maxLen at hcm
  by_cases h : 40 < xs.length
  · have hl : (xs.take 40).length = 40 := by rw [List.length_take]; omega
    rw [hl]
    clear hl
    go_enter Try.func36, Try.ntmps36
    go_wp2
    go_ret
    exact ⟨rfl, rfl⟩
  · have hl : (xs.take 40).length = xs.length := by rw [List.length_take]; omega
    rw [hl]
    clear hl
    go_enter Try.func36, Try.ntmps36
    go_wp2
    go_ret
    exact ⟨rfl, rfl⟩
theorem IntsAt.take {w : World} {A : Option Addr} {xs : List Int} (h : IntsAt w A xs) (n : Nat) : IntsAt w A (xs.take n) := fun hp => by
  rw [List.length_take] at hp
  obtain ⟨b, off, e, hl, hc⟩ := h (by omega)
  refine ⟨b, off, e, hl, fun i hi => ?_⟩
  rw [List.length_take] at hi
  rw [List.getElem_take]; exact hc i (by omega)
end I
end Go.Proofs.Ytkbchpbdpkbnjaa
