/-
  Programs: slices.Clone of numbers, functions and ops; a row's cell that is set.
-/
import Derived.Test.YtnhgoeoffjcooaaProSame
import Derived.Test.YtnhgoeoffjcooaaProOwn
namespace Go.Proofs.Ytnhgoeoffjcooaa
open Go.RowKit
namespace Pm
open B
set_option linter.unusedVariables false
theorem own_setc {w : World} {M t size n g cap j : Nat} {u : Value} {xs : List Value} (h : w.ownsRow M t size (.slice (some ⟨g, 0, none⟩) n cap) n xs) (hj : j < xs.length) : (w.setCell ⟨g, j, none⟩ u).ownsRow M t size (.slice (some ⟨g, 0, none⟩) n cap) n (xs.set j u) := by
  refine ⟨by rw [List.length_set]; exact h.1, ?_⟩
  rcases h.2 with ⟨e, _⟩ | ⟨g', cap', cur, e, hM, hg, hn, hm, hc, hx⟩
  · cases e
  · injection e with e1 _ e3
    injection e1 with e1
    injection e1 with e1
    subst e1 e3
    have hb := heap_setCell_same w g j cur t u (by rw [hg])
    refine .inr ⟨g, cap, cur.setIfInBounds j u, rfl, hM, by rw [hb], hn, hm, by simpa using hc, ?_⟩
    rw [Array.toList_setIfInBounds, List.take_set, hx]
section
variable {α : Type} {E : El α}
theorem flat_get (ps : List (Value × α)) (j : Nat) (u : Value) (h : (flat E ps)[j]? = some u) : ∃ i r, ∃ hi : i < ps.length, j = i * E.k + r ∧ (E.cs ps[i].1 ps[i].2)[r]? = some u := by
  have hj : j < ps.length * E.k := by
    rcases Nat.lt_or_ge j (ps.length * E.k) with h1 | h1
    · exact h1
    · rw [List.getElem?_eq_none (by rw [flat_len]; exact h1)] at h; cases h
  have hk := E.pos
  have hi : j / E.k < ps.length := Nat.div_lt_of_lt_mul (by rw [Nat.mul_comm]; exact hj)
  have hr : j % E.k < E.k := Nat.mod_lt _ hk
  have he : j = j / E.k * E.k + j % E.k := by rw [Nat.mul_comm]; exact (Nat.div_add_mod j E.k).symm
  refine ⟨j / E.k, j % E.k, hi, he, ?_⟩
  have hl : j % E.k < (E.cs ps[j / E.k].1 ps[j / E.k].2).length := by rw [E.len]; exact hr
  have := flat_at (E := E) ps (j / E.k) hi (j % E.k) _ (List.getElem?_eq_getElem hl)
  rw [← he, h] at this
  rw [List.getElem?_eq_getElem hl]
  exact this.symm
theorem RowAt.pairs [Inhabited α] {lo : Nat} {w : World} {b off : Nat} {l : List α} (h : RowAt E lo w (some ⟨b, off, none⟩) l) : ∃ ps : List (Value × α), ps.map Prod.snd = l ∧ (∀ j u, (flat E ps)[j]? = some u → w.cell? ⟨b, off + j, none⟩ = some u) ∧ ∀ x ∈ ps, IL lo w x.1 (E.il x.2) ∧ E.ok x.2 := by
  by_cases h0 : 0 < l.length
  · obtain ⟨b', off', e, _, _, h3⟩ := h h0
    injection e with e
    injection e with e1 e2
    subst e1 e2
    have hev : ∀ i, ∃ v : Value, ∀ hi : i < l.length, (∀ j u, (E.cs v l[i])[j]? = some u → w.cell? ⟨b, off + i * E.k + j, none⟩ = some u) ∧ IL lo w v (E.il l[i]) ∧ E.ok l[i] := fun i => by
      by_cases hi : i < l.length
      · obtain ⟨v, hv⟩ := h3 i hi
        exact ⟨v, fun _ => hv⟩
      · exact ⟨undef, fun q => absurd q hi⟩
    obtain ⟨f, hf⟩ : ∃ f : Nat → Value, ∀ i, ∀ hi : i < l.length, (∀ j u, (E.cs (f i) l[i])[j]? = some u → w.cell? ⟨b, off + i * E.k + j, none⟩ = some u) ∧ IL lo w (f i) (E.il l[i]) ∧ E.ok l[i] := ⟨fun i => Classical.choose (hev i), fun i => Classical.choose_spec (hev i)⟩
    refine ⟨(List.range l.length).map fun i => (f i, l.getD i default), ?_, ?_, ?_⟩
    · apply List.ext_getElem
      · simp
      · intro i h1 h2
        simp [List.getElem?_eq_getElem h2]
    · intro j u hj
      obtain ⟨i, r, hi, rfl, hr⟩ := flat_get _ _ _ hj
      have hi' : i < l.length := by simpa using hi
      simp only [List.getElem_map, List.getElem_range] at hr
      rw [show l.getD i default = l[i] by simp [List.getElem?_eq_getElem hi']] at hr
      have := (hf i hi').1 r u hr
      rw [show off + (i * E.k + r) = off + i * E.k + r by omega]; exact this
    · intro x hx
      obtain ⟨i, hi, rfl⟩ := List.mem_map.1 hx
      have hi' : i < l.length := List.mem_range.1 hi
      rw [show l.getD i default = l[i] by simp [List.getElem?_eq_getElem hi']]
      exact (hf i hi').2
  · have : l = [] := List.eq_nil_of_length_eq_zero (by omega)
    subst this
    exact ⟨[], rfl, fun j u hj => by simp [flat] at hj, fun x hx => by cases hx⟩
end
theorem FsAt.row {lo : Nat} {w : World} {A : Option Addr} {l : List F} (h : FsAt lo w A l) : RowAt elF lo w A l := fun hp => by
  obtain ⟨b, off, e, h1, h2, h3⟩ := h hp
  refine ⟨b, off, e, h1, h2, fun i hi => ?_⟩
  obtain ⟨v, c0, c1, il⟩ := h3 i hi
  refine ⟨v, fun j u hj => ?_, il, trivial⟩
  match j, hj with
  | 0, hj => exact c0.trans hj
  | 1, hj => exact c1.trans hj
  | j + 2, hj => cases hj
theorem OsAt.row {lo : Nat} {w : World} {A : Option Addr} {l : List O} (h : OsAt lo w A l) : RowAt elO lo w A l := fun hp => by
  obtain ⟨b, off, e, h1, h2, h3⟩ := h hp
  refine ⟨b, off, e, h1, h2, fun i hi => ?_⟩
  obtain ⟨v, c0, c1, c2, c3, c4, c5, c6, il, ok⟩ := h3 i hi
  refine ⟨v, fun j u hj => ?_, il, ok⟩
  match j, hj with
  | 0, hj => exact c0.trans hj
  | 1, hj => exact c1.trans hj
  | 2, hj => exact c2.trans hj
  | 3, hj => exact c3.trans hj
  | 4, hj => exact c4.trans hj
  | 5, hj => exact c5.trans hj
  | 6, hj => exact c6.trans hj
  | j + 7, hj => cases hj
/-- slices.Clone of numbers -/
theorem cloneI_any (lo : Nat) (v : Value) (l : List Int) (w : World) (h : IL lo w v l) (hl : l.length ≤ 2000000) :
    Calls Try.prog 39 #[v] w fun e w' => ∃ A c, e = .returned (.slice A l.length c) ∧ KL w.heap.size w.heap.size w' (.slice A l.length c) l ∧ Below w.heap.size w w' := by
  obtain ⟨A, c, rfl, hA, _⟩ := h
  have fin : ∀ (v' : Value) (w' : World), w'.ownsRow w.heap.size 3 1 v' l.length (l.map vInt) → Below w.heap.size w w' → ∃ A c, Ending.returned v' = .returned (.slice A l.length c) ∧ KL w.heap.size w.heap.size w' (.slice A l.length c) l ∧ Below w.heap.size w w' := by
    intro v' w' h1 h2
    obtain ⟨A', c', hv, _, _, _⟩ := own_at h1
    subst hv
    exact ⟨A', c', rfl, KL.own h1, h2⟩
  cases A with
  | none =>
    have : l = [] := hA.none
    subst this
    refine (Try.slices_Clone_int_nil 0 c w).mono ?_
    rintro e w' ⟨rfl, rfl⟩
    exact ⟨none, 0, rfl, KL.nil _ _ _, Below.refl _ _⟩
  | some a =>
    cases l with
    | nil =>
      refine (Try.slices_Clone_int_zero a c w).mono ?_
      rintro e w' ⟨v', rfl, h1, _, h2⟩
      exact fin v' w' h1 h2
    | cons x r =>
      obtain ⟨b, off, e, _, hc⟩ := hA (by simp)
      injection e with e
      subst e
      have g := Try.slices_Clone_int b off (x :: r).length c (x :: r) w (Nat.le_refl _) (by omega) (fun j hj => by rw [hc j hj]; simp [List.getD, List.getElem?_eq_getElem hj])
      rw [List.take_length] at g
      refine g.mono ?_
      rintro e w' ⟨v', rfl, h1, _, h2⟩
      exact fin v' w' h1 h2
set_option maxRecDepth 100000 in
set_option maxHeartbeats 4000000 in
theorem cloneF_any (lo : Nat) (A : Option Addr) (l : List F) (c : Nat) (w0 w : World) (h : FsAt lo w0 A l) (hb0 : Below w0.heap.size w0 w) (hn : A = none → c = 0) (hl : l.length ≤ 2000000) :
    Calls Try.prog 38 #[.slice A l.length c] w fun e w' => ∃ v ps, e = .returned v ∧ ps.map Prod.snd = l ∧ w'.ownsRow w.heap.size 45 2 v ps.length (flat elF ps) ∧ (∀ x ∈ ps, IL lo w0 x.1 x.2.ps ∧ elF.ok x.2) ∧ Below w.heap.size w w' := by
  obtain ⟨iF, hiF, hzF, hsF, hbF⟩ := info_parts infoF
  have q22 : ∀ (w : World) (a : Option Addr) (n c n' c' : Nat), (binOp .eql 30 (.slice a n c) (.slice none n' c')).run Try.prog w = .ok (.bool a.isNone) w := fun w a n c n' c' => Lib.run_eql_slice_nil w _ _ a n c n' c' Try.underlying30
  cases A with
  | none =>
    have : l = [] := by
      cases l with
      | nil => rfl
      | cons x r => obtain ⟨b, off, e, _⟩ := h (by simp); cases e
    subst this
    have := hn rfl
    subst this
    have q : Calls Try.prog 38 #[.slice none 0 0] w fun e w' => e = .returned (.slice none 0 0) ∧ w = w' := by
      go_enter Try.func38, Try.ntmps38
      go_wp2
      go_ret
      exact ⟨rfl, rfl⟩
    refine q.mono ?_
    rintro e w' ⟨rfl, rfl⟩
    exact ⟨_, [], rfl, rfl, World.ownsRow_nil _ _ _ _, (fun x hx => by cases hx), Below.refl _ _⟩
  | some a =>
    obtain ⟨ps, hps, hc, hx⟩ : ∃ ps : List (Value × F), ps.map Prod.snd = l ∧ (∀ j u, (flat elF ps)[j]? = some u → w.cell? (a.add j) = some u) ∧ ∀ x ∈ ps, IL lo w0 x.1 x.2.ps ∧ elF.ok x.2 := by
      by_cases h0 : l.length = 0
      · have : l = [] := List.eq_nil_of_length_eq_zero h0
        subst this
        exact ⟨[], rfl, fun j u hj => by simp [flat] at hj, fun x hx => by cases hx⟩
      · obtain ⟨b, off, e, _, hbl, _⟩ := h (by omega)
        injection e with e
        subst e
        obtain ⟨ps, h1, h2, h3⟩ := h.row.pairs
        exact ⟨ps, h1, fun j u hj => by rw [show (⟨b, off, none⟩ : Addr).add j = ⟨b, off + j, none⟩ by unfold Addr.add; split <;> simp_all]; exact (hb0.cell (p := ⟨b, off + j, none⟩) hbl).trans (h2 j u hj), h3⟩
    have hpl : ps.length = l.length := by rw [← hps]; simp
    have one : ∀ u ∈ flat elF ps, u.oneCell' = true := by
      intro u hu
      unfold flat at hu
      obtain ⟨x, hxm, hu⟩ := List.mem_flatMap.1 hu
      obtain ⟨A1, c1, hv, _⟩ := (hx x hxm).1
      rw [hv] at hu
      simp [elF, fcs] at hu
      rcases hu with rfl | rfl <;> rfl
    have hal : ∀ j u, (flat elF ps)[j]? = some u → (w.alloc (.cells #[] 45)).cell? (a.add j) = some u := fun j u hj => Lib.cell?_alloc_some _ (hc j u hj)
    have PS := Lib.hid hps
    have PX := Lib.hid hx
    have PL := Lib.hid hpl
    have ON := Lib.hid one
    have HAL := Lib.hid hal
    have HLn := Lib.hid hl
    clear hps hx one hal hl hpl h hc hb0
    go_enter Try.func38, Try.ntmps38
    go_wp2_with (at_builtin; refine wpList_append_own _ rfl _ _ 30 rfl w.heap.size 45 iF _ 2 32 Try.underlying30 hiF hzF hsF hbF rfl (by decide) _ _ _ rfl (World.ownsRow_lit (size := 2) w #[] 0 (Nat.le_refl _) (Nat.zero_le _) rfl) a l.length c (flat elF ps) rfl (by rw [flat_len, PL.out]; rfl) HAL.out ON.out (by unfold maxLen; have := HLn.out; omega) (by have := HLn.out; omega) (by simp) ?_)
    intro v' w1 hown hgrow hnil
    have OW : Hid (w1.ownsRow w.heap.size 45 2 v' ps.length (flat elF ps)) := Lib.hid (by rw [PL.out]; simpa using hown)
    have BB := Lib.hid (((Below.refl _ w).alloc (Nat.le_refl _) (.cells #[] 45)).grown hgrow (by simp) (by intro k hk; simp [Value.ownBlock] at hk; omega))
    clear hown hgrow hnil
    go_wp2
    go_ret
    exact ⟨v', ps, rfl, PS.out, OW.out, PX.out, BB.out⟩
set_option maxRecDepth 100000 in
set_option maxHeartbeats 4000000 in
theorem cloneO_any (lo : Nat) (A : Option Addr) (l : List O) (c : Nat) (w0 w : World) (h : OsAt lo w0 A l) (hb0 : Below w0.heap.size w0 w) (hn : A = none → c = 0) (hl : l.length ≤ 2000000) :
    Calls Try.prog 40 #[.slice A l.length c] w fun e w' => ∃ v ps, e = .returned v ∧ ps.map Prod.snd = l ∧ w'.ownsRow w.heap.size 42 7 v ps.length (flat elO ps) ∧ (∀ x ∈ ps, IL lo w0 x.1 x.2.args ∧ elO.ok x.2) ∧ Below w.heap.size w w' := by
  obtain ⟨iO, hiO, hzO, hsO, hbO⟩ := info_parts infoO
  have q22 : ∀ (w : World) (a : Option Addr) (n c n' c' : Nat), (binOp .eql 31 (.slice a n c) (.slice none n' c')).run Try.prog w = .ok (.bool a.isNone) w := fun w a n c n' c' => Lib.run_eql_slice_nil w _ _ a n c n' c' Try.underlying31
  cases A with
  | none =>
    have : l = [] := by
      cases l with
      | nil => rfl
      | cons x r => obtain ⟨b, off, e, _⟩ := h (by simp); cases e
    subst this
    have := hn rfl
    subst this
    have q : Calls Try.prog 40 #[.slice none 0 0] w fun e w' => e = .returned (.slice none 0 0) ∧ w = w' := by
      go_enter Try.func40, Try.ntmps40
      go_wp2
      go_ret
      exact ⟨rfl, rfl⟩
    refine q.mono ?_
    rintro e w' ⟨rfl, rfl⟩
    exact ⟨_, [], rfl, rfl, World.ownsRow_nil _ _ _ _, (fun x hx => by cases hx), Below.refl _ _⟩
  | some a =>
    obtain ⟨ps, hps, hc, hx⟩ : ∃ ps : List (Value × O), ps.map Prod.snd = l ∧ (∀ j u, (flat elO ps)[j]? = some u → w.cell? (a.add j) = some u) ∧ ∀ x ∈ ps, IL lo w0 x.1 x.2.args ∧ elO.ok x.2 := by
      by_cases h0 : l.length = 0
      · have : l = [] := List.eq_nil_of_length_eq_zero h0
        subst this
        exact ⟨[], rfl, fun j u hj => by simp [flat] at hj, fun x hx => by cases hx⟩
      · obtain ⟨b, off, e, _, hbl, _⟩ := h (by omega)
        injection e with e
        subst e
        obtain ⟨ps, h1, h2, h3⟩ := h.row.pairs
        exact ⟨ps, h1, fun j u hj => by rw [show (⟨b, off, none⟩ : Addr).add j = ⟨b, off + j, none⟩ by unfold Addr.add; split <;> simp_all]; exact (hb0.cell (p := ⟨b, off + j, none⟩) hbl).trans (h2 j u hj), h3⟩
    have hpl : ps.length = l.length := by rw [← hps]; simp
    have one : ∀ u ∈ flat elO ps, u.oneCell' = true := by
      intro u hu
      unfold flat at hu
      obtain ⟨x, hxm, hu⟩ := List.mem_flatMap.1 hu
      obtain ⟨A1, c1, hv, _⟩ := (hx x hxm).1
      rw [hv] at hu
      simp [elO, ocs] at hu
      rcases hu with rfl | rfl | rfl | rfl | rfl | rfl | rfl <;> rfl
    have hal : ∀ j u, (flat elO ps)[j]? = some u → (w.alloc (.cells #[] 42)).cell? (a.add j) = some u := fun j u hj => Lib.cell?_alloc_some _ (hc j u hj)
    have PS := Lib.hid hps
    have PX := Lib.hid hx
    have PL := Lib.hid hpl
    have ON := Lib.hid one
    have HAL := Lib.hid hal
    have HLn := Lib.hid hl
    clear hps hx one hal hl hpl h hc hb0
    go_enter Try.func40, Try.ntmps40
    go_wp2_with (at_builtin; refine wpList_append_own _ rfl _ _ 31 rfl w.heap.size 42 iO _ 7 72 Try.underlying31 hiO hzO hsO hbO rfl (by decide) _ _ _ rfl (World.ownsRow_lit (size := 7) w #[] 0 (Nat.le_refl _) (Nat.zero_le _) rfl) a l.length c (flat elO ps) rfl (by rw [flat_len, PL.out]; rfl) HAL.out ON.out (by unfold maxLen; have := HLn.out; omega) (by have := HLn.out; omega) (by simp) ?_)
    intro v' w1 hown hgrow hnil
    have OW : Hid (w1.ownsRow w.heap.size 42 7 v' ps.length (flat elO ps)) := Lib.hid (by rw [PL.out]; simpa using hown)
    have BB := Lib.hid (((Below.refl _ w).alloc (Nat.le_refl _) (.cells #[] 42)).grown hgrow (by simp) (by intro k hk; simp [Value.ownBlock] at hk; omega))
    clear hown hgrow hnil
    go_wp2
    go_ret
    exact ⟨v', ps, rfl, PS.out, OW.out, PX.out, BB.out⟩
end Pm
end Go.Proofs.Ytnhgoeoffjcooaa
