/-
  What the program's ids.Of does: the set of a list's numbers, in memory of its own.
-/
import Derived.Test.YtkbchpbdpkbnjaaIdsRef2
import Derived.Test.YtkbchpbdpkbnjaaIdsMath
import Derived.Test.YtkbchpbdpkbnjaaShelf
import Derived.Lib.OwnBridge
import Derived.Lib.AppendIntMem
namespace Go.Proofs.Ytkbchpbdpkbnjaa.Ids
open Go.Lib

/-! ### plain: a sorted list without what stands there twice is the set -/
theorem compact_sorted (d : Array Int) (hd : ∀ i j, i ≤ j → j < d.size → d[i]! ≤ d[j]!) : ∀ m, m ≤ d.size → Up (compactUpTo d m) ∧ (∀ z ∈ compactUpTo d m, z ≤ d[m - 1]!) ∧ (∀ z, z ∈ compactUpTo d m ↔ ∃ i, i < m ∧ d[i]! = z)
  | 0, _ => by
    have h0 : compactUpTo d 0 = [] := rfl
    rw [h0]
    exact ⟨List.Pairwise.nil, fun z hz => by simp at hz, fun z => by simp⟩
  | m + 1, hm => by
    obtain ⟨h1, h2, h3⟩ := compact_sorted d hd m (by omega)
    rw [compactUpTo_succ]
    by_cases hk : keeps d m = true
    · rw [if_pos hk]
      have hlt : ∀ z ∈ compactUpTo d m, z < d[m]! := fun z hz => by
        obtain ⟨i, hi, rfl⟩ := (h3 z).1 hz
        have hle := h2 _ hz
        have hle2 := hd (m - 1) m (by omega) (by omega)
        have hne : d[m]! ≠ d[m - 1]! := by
          unfold keeps at hk
          rw [decide_eq_true_iff] at hk
          rcases hk with h | h
          · omega
          · exact h
        omega
      refine ⟨?_, ?_, ?_⟩
      · refine List.pairwise_append.2 ⟨h1, List.pairwise_singleton _ _, fun a ha b hb => ?_⟩
        rw [List.mem_singleton] at hb; subst hb; exact hlt a ha
      · intro z hz
        rcases List.mem_append.1 hz with h | h
        · show z ≤ d[m + 1 - 1]!
          have := hlt z h; rw [Nat.add_sub_cancel]; omega
        · rw [List.mem_singleton] at h; subst h; rw [Nat.add_sub_cancel]; exact Int.le_refl _
      · intro z
        rw [List.mem_append, h3, List.mem_singleton]
        constructor
        · rintro (⟨i, hi, h⟩ | h)
          · exact ⟨i, by omega, h⟩
          · exact ⟨m, by omega, h.symm⟩
        · rintro ⟨i, hi, h⟩
          rcases Nat.lt_or_ge i m with hl | hl
          · exact .inl ⟨i, hl, h⟩
          · have : i = m := by omega
            subst this; exact .inr h.symm
    · rw [if_neg hk, List.append_nil]
      have hk2 : 0 < m ∧ d[m]! = d[m - 1]! := by
        unfold keeps at hk
        rw [decide_eq_true_iff, not_or, Classical.not_not] at hk
        exact ⟨by omega, hk.2⟩
      refine ⟨h1, fun z hz => ?_, fun z => ?_⟩
      · rw [Nat.add_sub_cancel, hk2.2]; exact h2 z hz
      · rw [h3]
        constructor
        · rintro ⟨i, hi, h⟩; exact ⟨i, by omega, h⟩
        · rintro ⟨i, hi, h⟩
          rcases Nat.lt_or_ge i m with hl | hl
          · exact ⟨i, hl, h⟩
          · have : i = m := by omega
            subst this; exact ⟨i - 1, by omega, by rw [← hk2.2]; exact h⟩

theorem compact_setOf (l : List Int) : compact (l.mergeSort fun x y => decide (x ≤ y)) = setOf l := by
  have hs : (l.mergeSort fun x y => decide (x ≤ y)).Pairwise (fun x y => decide (x ≤ y) = true) :=
    List.pairwise_mergeSort (fun a b c h1 h2 => by simp only [decide_eq_true_iff] at *; omega) (fun a b => by simp only [Bool.or_eq_true, decide_eq_true_iff]; omega) l
  have hm : ∀ z, z ∈ (l.mergeSort fun x y => decide (x ≤ y)) ↔ z ∈ l := fun z => List.mem_mergeSort
  generalize (l.mergeSort fun x y => decide (x ≤ y)) = s at *
  have hd : ∀ i j, i ≤ j → j < s.toArray.size → s.toArray[i]! ≤ s.toArray[j]! := fun i j hij hj => by
    have hj' : j < s.length := by simpa using hj
    rcases Nat.lt_or_ge i j with h | h
    · have := List.pairwise_iff_getElem.1 hs i j (by omega) hj' h
      simp only [decide_eq_true_iff] at this
      simpa [getElem!_pos, hj', show i < s.length by omega] using this
    · have : i = j := by omega
      subst this; exact Int.le_refl _
  obtain ⟨h1, _, h3⟩ := compact_sorted s.toArray hd s.length (by simp)
  refine up_ext _ _ h1 (up_setOf l) (fun z => ?_)
  rw [mem_setOf, ← hm]
  unfold compact
  rw [h3]
  constructor
  · rintro ⟨i, hi, rfl⟩
    simp [getElem!_pos, hi]
  · intro hz
    obtain ⟨i, hi, rfl⟩ := List.getElem_of_mem hz
    exact ⟨i, hi, by simp [getElem!_pos, hi]⟩
end Go.Proofs.Ytkbchpbdpkbnjaa.Ids

namespace Go.Proofs.Ytkbchpbdpkbnjaa
open Go.RowKit Go.Sort
namespace I

def Left (w : World) (l : List Int) (e : Ending) (w' : World) : Prop :=
  ∃ v, e = .returned v ∧ w'.ownsRow w.heap.size 3 1 v (Ids.setOf l).length (icells (Ids.setOf l)) ∧ Below w.heap.size w w'

theorem left_of {w w1 : World} {g cap n nn q : Nat} {os : Array Obj} {l : List Int} (hown : w1.ownsRow w.heap.size 3 1 (.slice (some ⟨g, 0, none⟩) n cap) n (l.map (Value.int .i64))) (hbel : Below w.heap.size w w1) (hbg : w.heap.size ≤ g) (hlen : l.length = n) (S C : List Int) (hS : S.length = l.length) (hC : C.length ≤ S.length) (hCl : C = Ids.setOf l) :
    Left w l (.returned (.slice (some ⟨g, 0, none⟩) C.length cap))
      (putRow (Value.int .i64) (Sort.ahead (grow (putRow (Value.int .i64) (Sort.ahead w1 nn) g 0 S.toArray) os) q) g 0 (C ++ List.replicate (n - C.length) 0).toArray) := by
  subst hlen
  have h1 := Lib.ownsRow_putRow (q := nn) (k := l.length) (ys := S) hown hS (Nat.le_refl _)
  rw [List.take_of_length_le (by omega)] at h1
  have h2 : (grow (putRow (Value.int .i64) (Sort.ahead w1 nn) g 0 S.toArray) os).ownsRow w.heap.size 3 1 (.slice (some ⟨g, 0, none⟩) l.length cap) l.length (S.map (Value.int .i64)) := Lib.ownsRow_grow h1 0 os
  have h3 := Lib.ownsRow_putRow (q := q) (k := C.length) (ys := C ++ List.replicate (l.length - C.length) 0) h2 (by simp; omega) (by omega)
  rw [List.take_left] at h3
  subst hCl
  have hb2 := Lib.below_putRow (enc := Value.int .i64) (q := nn) (d := S.toArray) hbel hbg
  have hb3 : Below w.heap.size w (grow (putRow (Value.int .i64) (Sort.ahead w1 nn) g 0 S.toArray) os) := Below.trans hb2 (Lib.below_grow w.heap.size _ hb2.size 0 os)
  exact ⟨_, rfl, h3, Lib.below_putRow hb3 hbg⟩

set_option maxHeartbeats 2000000 in
set_option maxRecDepth 100000 in
theorem of_tail (n : Nat) (arg : Value) (l : List Int) (w : World) (hn : n ≤ 4611686018427387903)
    (hclone : Calls Try.prog 60 #[arg] w fun e w' => ∃ v', e = .returned v' ∧ w'.ownsRow w.heap.size 3 1 v' n (l.map (Value.int .i64)) ∧ v' ≠ .slice none 0 0 ∧ Below w.heap.size w w') :
    Calls Try.prog 37 #[arg] w (Left w l) := by
  have HCL := Lib.hid (Ids.compact_setOf l)
  have HML : Hid ((l.mergeSort fun x y => decide (x ≤ y)).length = l.length) := List.length_mergeSort l
  have HCO := Lib.hid (Lib.compact_length_le (l.mergeSort fun x y => decide (x ≤ y)))
  have HSO : Aside (∀ g cap w1, Holds (Value.int .i64) w1 g 0 l.toArray → g < w1.heap.size → l.length < 4611686018427387904 → Calls Try.prog 61 #[.slice (some ⟨g, 0, none⟩) l.length cap] w1 fun e w' => e = .returned (.tuple #[]) ∧ ∃ n os, w' = grow (putRow (Value.int .i64) (Sort.ahead w1 n) g 0 (l.mergeSort fun x y => decide (x ≤ y)).toArray) os) := fun g cap w1 hH hg hs => Try.slices_Sort_int g 0 cap l w1 hH hg hs
  generalize (l.mergeSort fun x y => decide (x ≤ y)) = S at HCL HML HCO HSO
  go_enter Try.func37, Try.ntmps37
  go_wp2_with (first
    | (go_at_call 60; refine hclone.mono ?_; rintro e w1 ⟨v1, rfl, hown, hnn, hbel⟩
       obtain ⟨g, cap, rfl, hbg, hgl, hncap, hcm, hlen, hH⟩ := Lib.holds_of_ownsRow hown hnn
       have hsort := HSO.out g cap w1 hH hgl (by omega)
       rw [hlen] at hsort
       have X : Aside (w1.ownsRow w.heap.size 3 1 (.slice (some ⟨g, 0, none⟩) n cap) n (l.map (Value.int .i64)) ∧ Below w.heap.size w w1 ∧ w.heap.size ≤ g ∧ g < w1.heap.size ∧ n ≤ cap ∧ cap ≤ maxLen ∧ l.length = n ∧ Holds (Value.int .i64) w1 g 0 l.toArray) := ⟨hown, hbel, hbg, hgl, hncap, hcm, hlen, hH⟩
       clear hown hbel hH hnn)
    | (go_at_call 61; refine hsort.mono ?_; rintro e w2 ⟨rfl, nn, os, rfl⟩
       have hl2 : S.length = n := by rw [HML.out]; exact X.out.2.2.2.2.2.2.1
       have hH2 : Holds (Value.int .i64) (grow (putRow (Value.int .i64) (Sort.ahead w1 nn) g 0 S.toArray) os) g 0 S.toArray :=
         holds_grow (Value.int .i64) _ os g 0 _ (by simpa [putRow, mapBlock, Sort.ahead] using X.out.2.2.2.1) (holds_putRow (Value.int .i64) _ g 0 _ _ (holds_ahead (Value.int .i64) w1 nn g 0 _ X.out.2.2.2.2.2.2.2) (by simpa using HML.out))
       have hcomp := Try.slices_Compact_int g 0 cap S _ hH2 (by omega) (by have := X.out.2.2.2.2.1; omega)
       rw [hl2] at hcomp
       clear hH2 hsort)
    | (go_at_call 62; refine hcomp.mono ?_; rintro e w3 ⟨rfl, q, rfl⟩))
  go_ret
  exact left_of X.out.1 X.out.2.1 X.out.2.2.1 X.out.2.2.2.2.2.2.1 S (Lib.compact S) HML.out HCO.out HCL.out

set_option maxHeartbeats 2000000 in
set_option maxRecDepth 100000 in
theorem of_nil (n c : Nat) (w : World) :
    Calls Try.prog 37 #[.slice none n c] w fun e w' => e = .returned (.slice none 0 0) ∧ w' = w := by
  go_enter Try.func37, Try.ntmps37
  go_wp2_with (first
    | (go_at_call 60; refine (Try.slices_Clone_int_nil n c _).mono ?_; rintro e w' ⟨rfl, rfl⟩)
    | (go_at_call 61; refine (Try.slices_Sort_int_none none 0 _).mono ?_; rintro e w' ⟨rfl, rfl⟩)
    | (go_at_call 62; refine (Try.slices_Compact_int_empty none 0 _).mono ?_; rintro e w' ⟨rfl, rfl⟩))
  go_ret
  exact ⟨rfl, rfl⟩

theorem of_any (l : List Int) (A : Option Addr) (c : Nat) (w : World) (hl : l.length ≤ 1000000) (hx : IntsAt w A l) :
    Calls Try.prog 37 #[.slice A l.length c] w (Left w l) := by
  cases A with
  | none =>
    have h0 := IntsAt.none hx
    subst h0
    exact (of_nil 0 c w).mono fun e w' ⟨he, hw⟩ => ⟨_, he, by subst hw; exact World.ownsRow_nil _ _ _ _, by subst hw; exact Below.refl _ _⟩
  | some a =>
    cases l with
    | nil => exact of_tail 0 _ [] w (by omega) (Try.slices_Clone_int_zero a c w)
    | cons x xs =>
      obtain ⟨b, off, e, hb, hc⟩ := hx (by simp)
      cases e
      refine of_tail (x :: xs).length _ (x :: xs) w (by omega) ((Try.slices_Clone_int b off (x :: xs).length c (x :: xs) w (Nat.le_refl _) (by omega) (fun j hj => ?_)).mono fun e w' h => ?_)
      · rw [hc j hj]; simp [List.getD, List.getElem?_eq_getElem hj]
      · rw [List.take_of_length_le (Nat.le_refl _)] at h; exact h
end I
end Go.Proofs.Ytkbchpbdpkbnjaa
