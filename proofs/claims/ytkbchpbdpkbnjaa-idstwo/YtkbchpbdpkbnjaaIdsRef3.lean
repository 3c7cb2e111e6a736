/-
  The document's own sets again, with the bounds of the slices that are answered; and the law's own fixed fact.
-/
import Derived.Test.YtkbchpbdpkbnjaaIdsCalls
namespace Go.Proofs.Ytkbchpbdpkbnjaa
open Go.RowKit
namespace I

/-- A slice that holds a list, with its bounds. -/
def LstC (w : World) (A : Option Addr) (c : Nat) (l : List Int) : Prop := IntsAt w A l ∧ l.length ≤ c ∧ c ≤ 9223372036854775807 ∧ (A = Option.none → c = 0)
theorem LstC.below {w w' : World} {A : Option Addr} {c : Nat} {l : List Int} (h : LstC w A c l) (hb : Below w.heap.size w w') : LstC w' A c l := ⟨h.1.below hb, h.2⟩
theorem LstC.belowB {w w' W : World} {A : Option Addr} {c : Nat} {l : List Int} (h : LstC w A c l) (hb : Below W.heap.size w w') (hs : w.heap.size ≤ W.heap.size) : LstC w' A c l := h.below (hb.mono hs)
theorem LstC.drewN {w : World} {A : Option Addr} {c : Nat} {l : List Int} (h : LstC w A c l) (n : Nat) : LstC (w.drewN n) A c l := h
theorem own_lstC {w : World} {B n : Nat} {v : Value} {l : List Int} (h : w.ownsRow B 3 1 v n (icells l)) : ∃ A c, v = .slice A l.length c ∧ LstC w A c l := by
  obtain ⟨A, c, hv, hI, hn⟩ := own_ints h
  refine ⟨A, c, hv, hI, ?_⟩
  rcases h.2 with ⟨e, h0⟩ | ⟨g, cap, cur, e, hb, hg, hle, hm, _⟩
  · rw [hv] at e
    injection e with e1 e2 e3
    exact ⟨by omega, by omega, fun _ => e3⟩
  · rw [hv] at e
    injection e with e1 e2 e3
    subst e3
    exact ⟨by omega, hm, fun e4 => by rw [e4] at e1; cases e1⟩
theorem lit_ints (w : World) (l : List Int) (t : TypeId) : IntsAt (w.alloc (.cells (icells l).toArray t)) (some ⟨w.heap.size, 0, none⟩) l := fun _ => by
  refine ⟨w.heap.size, 0, rfl, by rw [World.size_alloc]; omega, fun i hi => ?_⟩
  have hh : (w.alloc (.cells (icells l).toArray t)).heap[w.heap.size]? = some (.cells (icells l).toArray t) := heap_alloc_new w _
  rw [Nat.zero_add]
  simp only [World.cell?, hh]
  simp [icells, List.getElem?_eq_getElem hi]
theorem lit2 (w : World) (x y : Int) : IntsAt (w.alloc (.cells #[.int .i64 x, .int .i64 y] 3)) (some ⟨w.heap.size, 0, none⟩) [x, y] := lit_ints w [x, y] 3
theorem lit2s (w : World) (o : Obj) (x y : Int) : IntsAt ((w.alloc o).alloc (.cells #[.int .i64 x, .int .i64 y] 3)) (some ⟨w.heap.size + 1, 0, none⟩) [x, y] := by
  have := lit2 (w.alloc o) x y
  rw [World.size_alloc] at this
  exact this
theorem lit3 (w : World) (x y z : Int) : IntsAt (w.alloc (.cells #[.int .i64 x, .int .i64 y, .int .i64 z] 3)) (some ⟨w.heap.size, 0, none⟩) [x, y, z] := lit_ints w [x, y, z] 3

set_option maxHeartbeats 1000000 in
theorem refAdd_c (s : List Int) (A : Option Addr) (c : Nat) (x : Int) (w : World) (hl : s.length ≤ 1000000) (hs : LstC w A c s) :
    Calls Try.prog 63 #[.slice A s.length c, .int .i64 x] w fun e w' => ∃ A' c', e = .returned (.slice A' (Ids.ins s x).length c') ∧ LstC w' A' c' (Ids.ins s x) ∧ Below w.heap.size w w' := by
  cases hx : Ids.has s x with
  | false =>
    have e : Ids.ins s x = Ids.insR x s := by unfold Ids.ins; rw [hx]; rfl
    rw [e]
    refine (refAdd_new s A c x w hl hs.1 hx).mono ?_
    rintro e1 w1 ⟨v, rfl, hown, hb⟩
    obtain ⟨A', c', hv, hi⟩ := own_lstC hown
    exact ⟨A', c', by rw [hv], hi, hb⟩
  | true =>
    have e : Ids.ins s x = s := by unfold Ids.ins; rw [hx]; rfl
    rw [e]
    have ch := refHas_any s A c x w hl hs.1
    rw [hx] at ch
    have CH := Lib.hid ch
    have HX := Lib.hid hs
    clear ch hs hx e
    go_enter Try.func63, Try.ntmps63
    go_wp2_with (go_at_call 42; ((with_reducible refine (CH.out).mono ?_); rintro e1 w' ⟨rfl, rfl⟩))
    go_ret
    exact ⟨_, _, rfl, HX.out, Below.refl _ _⟩

set_option maxHeartbeats 1000000 in
theorem refOf_c (l : List Int) (A : Option Addr) (c : Nat) (w : World) (hl : l.length ≤ 1000000) (hx : IntsAt w A l) :
    Calls Try.prog 39 #[.slice A l.length c] w fun e w' => ∃ A' c', e = .returned (.slice A' (Ids.setOf l).length c') ∧ LstC w' A' c' (Ids.setOf l) ∧ Below w.heap.size w w' := by
  have HX := Lib.hid hx
  clear hx
  go_enter Try.func39, Try.ntmps39
  go_wp2
  go_loopw [3, 9] (fun v i wr => ∃ (k : Nat) (A2 : Option Addr) (c2 : Nat), k ≤ l.length ∧ i = .int .i64 (k : Int) ∧ v = .slice A2 (Ids.setOf (l.take k)).length c2 ∧ LstC wr A2 c2 (Ids.setOf (l.take k)) ∧ Below w.heap.size w wr) (fun _ i _ => l.length - (intOf i).toNat)
  case atStart => exact ⟨0, _, _, Nat.zero_le _, rfl, rfl, ⟨IntsAt.nil _ _, Nat.zero_le _, Nat.zero_le _, fun h => by cases h⟩, (Below.refl _ _).alloc (Nat.le_refl _) _⟩
  case round =>
    obtain ⟨k, A2, c2, hk, rfl, rfl, hI, hb⟩ := hrel
    by_cases hlt : k < l.length
    · obtain ⟨b, off, hA, _, hc⟩ := (HX.out.below hb) (by omega)
      subst hA
      have c0 := hc k hlt
      have hsl := Ids.setOf_take_length l k
      have CA := Lib.hid (fun x => refAdd_c (Ids.setOf (l.take k)) A2 c2 x wr (by omega) hI)
      have HS := Lib.hid (Ids.setOf_snoc l k hlt)
      clear hc hI
      generalize l[k] = x at *
      go_wp2_with (go_at_call 63; ((with_reducible refine (CA.out _).mono ?_); rintro e1 w1 ⟨A1, c1, rfl, hL1, hb1⟩; have HL1 := Lib.hid hL1; clear hL1))
      go_roundw
      case rel => exact ⟨k + 1, A1, c1, by omega, by go_num, by rw [HS.out], by rw [HS.out]; exact HL1.out, hb.trans (hb1.mono hb.size)⟩
      case measure => simp [intOf]; omega
    · have hk' : l.take k = l := List.take_of_length_le (by omega)
      rw [hk'] at hI ⊢
      have HI := Lib.hid hI
      clear hk' hI
      go_wp2
      go_ret
      exact ⟨_, _, rfl, HI.out, hb⟩

theorem of_c (l : List Int) (A : Option Addr) (c : Nat) (w : World) (hl : l.length ≤ 1000000) (hx : IntsAt w A l) :
    Calls Try.prog 37 #[.slice A l.length c] w fun e w' => ∃ A' c', e = .returned (.slice A' (Ids.setOf l).length c') ∧ LstC w' A' c' (Ids.setOf l) ∧ Below w.heap.size w w' :=
  (of_any l A c w hl hx).mono fun e w' ⟨v, he, ho, hb⟩ => by
    obtain ⟨A', c', hv, hi⟩ := own_lstC ho
    exact ⟨A', c', by rw [he, hv], hi, hb⟩

set_option maxRecDepth 100000 in
set_option maxHeartbeats 1000000 in
theorem awake4 (w : World) : Calls Try.prog 35 #[] w fun e w' => e = .returned (.bool true) ∧ Below w.heap.size w w' := by
  have C37 : Hid (∀ W A, IntsAt W A [3, 1, 3] → Calls Try.prog 37 #[.slice A 3 3] W fun e w' => ∃ A' c', e = .returned (.slice A' 2 c') ∧ LstC w' A' c' [1, 3] ∧ Below W.heap.size W w') := fun W A h => of_c [3, 1, 3] A 3 W (by decide) h
  have C38 : Hid (∀ W A B c, IntsAt W A [1, 3] → IntsAt W B [1, 3] → Calls Try.prog 38 #[.slice A 2 c, .slice B 2 2] W fun e w' => e = .returned (.bool true) ∧ Below W.heap.size W w') := fun W A B c h h2 => refSame_any [1, 3] [1, 3] A B c 2 W (by decide) (by decide) h h2
  have C38b : Hid (∀ W A B c, IntsAt W A [1, 2, 3] → IntsAt W B [1, 2, 3] → Calls Try.prog 38 #[.slice A 3 c, .slice B 3 3] W fun e w' => e = .returned (.bool true) ∧ Below W.heap.size W w') := fun W A B c h h2 => refSame_any [1, 2, 3] [1, 2, 3] A B c 3 W (by decide) (by decide) h h2
  have C43 : Hid (∀ W A B, IntsAt W A [1, 3] → IntsAt W B [2, 3] → Calls Try.prog 43 #[.slice A 2 2, .slice B 2 2] W fun e w' => ∃ A' c', e = .returned (.slice A' 3 c') ∧ LstC w' A' c' [1, 2, 3] ∧ Below W.heap.size W w') := fun W A B h h2 =>
    (union_any [1, 3] [2, 3] A B 2 2 W (by decide) (by decide) (by decide) (by decide) (by decide) (by decide) h h2).mono fun e w' ⟨v, he, ho, hb⟩ => by
      have hu : Ids.union [1, 3] [2, 3] = [1, 2, 3] := by simp [Ids.union, Ids.pickL]
      rw [hu] at ho
      obtain ⟨A', c', hv, hi⟩ := own_lstC ho
      exact ⟨A', c', by rw [he, hv]; rfl, hi, hb⟩
  have A1 : Hid (∀ (w : World) (o : Obj), Below w.heap.size w (w.alloc o)) := fun w o => (Below.refl _ _).alloc (Nat.le_refl _) _
  go_enter Try.func35, Try.ntmps35
  go_wp2_with (first
    | (go_at_call 37; ((with_reducible refine (C37.out _ _ (lit3 w 3 1 3)).mono ?_); rintro e1 w1 ⟨A1', c1, rfl, ⟨hI1, -⟩, hb1⟩; have acc1 := (A1.out w _).trans (hb1.mono (A1.out w _).size)))
    | (go_at_call 38; (with_reducible refine (C38.out _ _ _ _ (hI1.below (A1.out _ _)) (lit2 w1 1 3)).mono ?_); rintro e2 w2 ⟨rfl, hb2⟩; have acc2 := acc1.trans (((A1.out w1 _).trans (hb2.mono (A1.out w1 _).size)).mono acc1.size))
    | (go_at_call 43; (with_reducible refine (C43.out _ _ _ ((lit2 w2 1 3).below (A1.out _ _)) (lit2s w2 _ 2 3)).mono ?_); rintro e2 w3 ⟨A3, c3, rfl, ⟨hI3, -⟩, hb3⟩; have acc3 := acc2.trans ((((A1.out w2 _).trans ((A1.out _ _).mono (A1.out w2 _).size)).trans (hb3.mono (Nat.le_trans (A1.out w2 _).size (A1.out _ _).size))).mono acc2.size))
    | (go_at_call 38; (with_reducible refine (C38b.out _ _ _ _ (hI3.below (A1.out _ _)) (lit3 w3 1 2 3)).mono ?_); rintro e2 w4 ⟨rfl, hb4⟩; have acc4 := acc3.trans (((A1.out w3 _).trans (hb4.mono (A1.out w3 _).size)).mono acc3.size)))
  go_ret
  exact ⟨rfl, acc4⟩
end I
end Go.Proofs.Ytkbchpbdpkbnjaa
