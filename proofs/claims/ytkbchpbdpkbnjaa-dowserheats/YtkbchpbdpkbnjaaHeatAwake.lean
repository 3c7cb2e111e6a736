/-
  What the program's heat.Rank does of at most 20 heats, and the law's own fixed fact.
-/
import Derived.Test.YtkbchpbdpkbnjaaHeatPlaces
namespace Go.Proofs.Ytkbchpbdpkbnjaa
open Go.RowKit Go.Sort
namespace H
open I (below_drewN icells IntsAt own_ints)

theorem enc_ints {n : Nat} (R : List (Fin (n + 1))) : R.map encP = icells (ints (R.map fun i => i.val)) := by
  simp [icells, ints, encP, Function.comp_def]

set_option maxRecDepth 100000 in
set_option maxHeartbeats 1000000 in
theorem rank_none (A : Option Addr) (c : Nat) (w : World) :
    Calls Try.prog 33 #[.slice A 0 c] w fun e w' => ∃ v, e = .returned v ∧ w'.ownsRow w.heap.size 3 1 v 0 [] ∧ RowKit.Below w.heap.size w w' := by
  obtain ⟨i0, hi, hz0, hz1, hz2⟩ := info_parts I.info3
  go_enter Try.func33, Try.ntmps33
  go_wp2_with (at_make; refine wpList_make_full _ rfl _ _ 41 rfl w.heap.size 3 i0 (.int .i64 0) 1 Try.underlying41 hi hz0 hz1 .i64 .i64 _ _ 0 rfl rfl (by omega) (by omega) (by omega) (by unfold maxLen; omega) (by simp) ?_)
  intro W0 own0 gr0
  have bel0 : RowKit.Below w.heap.size w W0 := ((Below.refl _ _).alloc (Nat.le_refl _) _).grown gr0 (by simp) (fun k h => by cases h)
  have hm : (madeCells #[Value.int .i64 0] 0).toList = [] := by simp [madeCells]
  simp only [hm] at own0
  have O0 : Hid (W0.ownsRow w.heap.size 3 1 (.slice (some ⟨w.heap.size + 1, 0, none⟩) 0 0) 0 []) := own0
  clear own0 gr0 hm
  have CS := Lib.hid (fun f => sorts_none (some ⟨w.heap.size + 1, 0, none⟩) 0 f W0)
  go_wp2
  go_loopw [10] (fun i wr => i = .int .i64 0 ∧ wr = W0) (fun _ _ => 0)
  case atStart => exact ⟨rfl, rfl⟩
  case round =>
    obtain ⟨rfl, rfl⟩ := hrel
    go_wp2_with (go_at_call 58; ((with_reducible refine (CS.out _).mono ?_); rintro e w1 ⟨rfl, rfl⟩))
    go_ret
    exact ⟨_, rfl, O0.out, bel0⟩

theorem rank_any (l : List Nat) (A : Option Addr) (c : Nat) (w : World) (hl : l.length ≤ 20) (hbl : ∀ b ∈ l, b < 18446744073709551616) (hx : FloatsAt w A l) :
    Calls Try.prog 33 #[.slice A l.length c] w fun e w' => ∃ o v, Heat.Ranked l o ∧ e = .returned v ∧ w'.ownsRow w.heap.size 3 1 v o.length (icells (ints o)) ∧ RowKit.Below w.heap.size w w' := by
  cases hl0 : l.length with
  | zero =>
    have h0 : l = [] := List.eq_nil_of_length_eq_zero hl0
    subst h0
    exact (rank_none A c w).mono fun e w' ⟨v, he, ho, hb⟩ => ⟨[], v, ⟨rfl, fun _ h => absurd h (by simp), List.Pairwise.nil⟩, he, ho, hb⟩
  | succ n =>
    obtain ⟨b1, o1, hA, hb1, hc⟩ := hx (by omega)
    subst hA
    have hs : (insertionSort (ltOf (Heat.cfOf l)) (Heat.places n) 0 (n + 1)).size = n + 1 := by
      rw [(insertionSort_size _ _ 0 (n + 1) (by rw [Heat.places_size]; omega)).1, Heat.places_size]
    refine (rank_some l hl0 (by omega) b1 o1 c w hb1 hc _ hs (fun W g bx E hH => sorts_small l hl0 (by omega) hbl E (n + 1) (Heat.places n) (Heat.places_size n) hH)).mono ?_
    rintro e w' ⟨v, he, ho, hb⟩
    refine ⟨_, v, Heat.ranked_small l hl0, he, ?_, hb⟩
    rw [List.length_map, Array.length_toList, hs, ← enc_ints]
    exact ho

/-- the list of the fixed fact -/
def four : List Nat := [4607182418800017408, 9221120237041090561, 9218868437227405312, 4607182418800017408]
theorem four_ranked {o : List Nat} (h : Heat.Ranked four o) : o = [2, 0, 3, 1] :=
  h.unique ⟨rfl, by decide, by decide +kernel⟩

set_option maxRecDepth 100000 in
set_option maxHeartbeats 1000000 in
theorem awake3 (w : World) : Calls Try.prog 13 #[] w fun e w' => e = .returned (.bool true) ∧ RowKit.Below w.heap.size w w' := by
  have CR : Hid (∀ W A, FloatsAt W A four → Calls Try.prog 33 #[.slice A 4 4] W fun e w' => ∃ A' c', e = .returned (.slice A' 4 c') ∧ IntsAt w' A' [2, 0, 3, 1] ∧ RowKit.Below W.heap.size W w') := fun W A h =>
    (rank_any four A 4 W (by decide) (by decide +kernel) h).mono fun e w' ⟨o, v, ho, he, hown, hb⟩ => by
      have h4 := four_ranked ho
      subst h4
      obtain ⟨A', c', hv, hI, _⟩ := own_ints hown
      exact ⟨A', c', by rw [he, hv]; rfl, hI, hb⟩
  have CK : Hid (∀ W, Calls Try.prog 22 #[.float .f64 18442240474082181120] W fun e w' => e = .returned (.int .u64 1) ∧ W = w') := fun W => by
    have := key_any 18442240474082181120 W (by omega)
    rw [show Heat.key 18442240474082181120 = 1 by decide +kernel] at this
    exact this
  have F4 : Hid (∀ W : World, FloatsAt (W.alloc (.cells #[.float .f64 4607182418800017408, .float .f64 9221120237041090561, .float .f64 9218868437227405312, .float .f64 4607182418800017408] 24)) (some ⟨W.heap.size, 0, none⟩) four) := fun W => fun _ => by
    refine ⟨W.heap.size, 0, rfl, by simp, fun i hi => ?_⟩
    have hh := heap_alloc_new W (.cells #[.float .f64 4607182418800017408, .float .f64 9221120237041090561, .float .f64 9218868437227405312, .float .f64 4607182418800017408] 24)
    rw [Nat.zero_add]
    simp only [World.cell?, hh]
    match i, hi with
    | 0, _ => rfl
    | 1, _ => rfl
    | 2, _ => rfl
    | 3, _ => rfl
  have A1 : Hid (∀ (w : World) (o : Obj), RowKit.Below w.heap.size w (w.alloc o)) := fun w o => (Below.refl _ _).alloc (Nat.le_refl _) _
  go_enter Try.func13, Try.ntmps13
  go_wp2_with (first
    | (go_at_call 29; ((with_reducible refine (nan_any _).mono ?_); rintro e1 w' ⟨rfl, rfl⟩))
    | (go_at_call 26; ((with_reducible refine (inf_up _).mono ?_); rintro e1 w' ⟨rfl, rfl⟩))
    | (go_at_call 33; ((with_reducible refine (CR.out _ _ (F4.out w)).mono ?_); rintro e1 w1 ⟨A', c', rfl, hI, hb⟩; obtain ⟨b, off, hA, _, hc⟩ := hI (by decide); subst hA; have c0 : w1.cell? ⟨b, off, none⟩ = some (.int .i64 2) := hc 0 (by decide); have c1 : w1.cell? ⟨b, off + 1, none⟩ = some (.int .i64 0) := hc 1 (by decide); have c2 : w1.cell? ⟨b, off + 2, none⟩ = some (.int .i64 3) := hc 2 (by decide); have c3 : w1.cell? ⟨b, off + 3, none⟩ = some (.int .i64 1) := hc 3 (by decide); have b1 := (A1.out w _).trans (hb.mono (A1.out w _).size); clear hc hb))
    | (go_at_call 26; ((with_reducible refine (inf_down _).mono ?_); rintro e1 w' ⟨rfl, rfl⟩))
    | (go_at_call 22; ((with_reducible refine (CK.out _).mono ?_); rintro e1 w' ⟨rfl, rfl⟩)))
  go_ret
  exact ⟨rfl, b1⟩
end H
end Go.Proofs.Ytkbchpbdpkbnjaa
