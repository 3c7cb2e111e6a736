/-
  The walks of the laws of layer 4: IdsSets.
-/
import Derived.Test.YtkbchpbdpkbnjaaIdsRef3
namespace Go.Proofs.Ytkbchpbdpkbnjaa
open Go.RowKit
namespace I

theorem row_open {w : World} {x : Addr} {zs : List Int} {len : Nat} (hl : len ≤ zs.length) (h : ∀ i, i < zs.length → w.cell? (x.add i) = some (.int .i64 (zs.getD i 0))) : IntsAt w (some x) (zs.take len) := fun hp => by
  rw [List.length_take] at hp
  have h0 := h 0 (by omega)
  have hsp : x.spot = Option.none := by have := World.cell?_spot h0; simpa [Addr.add] using this
  obtain ⟨b, off, spot⟩ := x
  simp at hsp
  subst hsp
  have hlt : b < w.heap.size := by
    rcases Nat.lt_or_ge b w.heap.size with h1 | h1
    · exact h1
    · exfalso
      have : w.heap[b]? = Option.none := Array.getElem?_eq_none h1
      simp [World.cell?, Addr.add, this] at h0
  refine ⟨b, off, rfl, hlt, fun i hi => ?_⟩
  rw [List.length_take] at hi
  have := h i (by omega)
  rw [show (⟨b, off, Option.none⟩ : Addr).add i = ⟨b, off + i, Option.none⟩ by unfold Addr.add; split <;> simp_all] at this
  rw [this, List.getElem_take]
  simp [List.getD, List.getElem?_eq_getElem (show i < zs.length by omega)]

theorem quiet_below {W w' : World} (h : ∃ n, w' = W.drewN n) : Below W.heap.size W w' := by
  obtain ⟨n, rfl⟩ := h; exact below_drewN (Below.refl _ _) n

theorem has_set (l : List Int) (x : Int) : Ids.has (Ids.setOf l) x = Ids.has l x := by
  rw [Bool.eq_iff_iff, Ids.has_iff, Ids.has_iff, Ids.mem_setOf]

set_option maxRecDepth 100000 in
set_option maxHeartbeats 2000000 in
theorem idsSets_walk (l : List Int) (A : Option Addr) (c : Nat) (x : Int) (w : World) (hlc : l.length ≤ c) (hcm : c ≤ maxLen) (hI : IntsAt w A l) (hn : A = none → c = 0) :
    Calls Try.prog 8 #[.slice A l.length c, .int .i64 x] w fun e w' => e = .returned (.bool true) ∧ Below w.heap.size w w' := by
  obtain ⟨i0, hi, hz0, hz1, hz2⟩ := info_parts info3
  have CF : Hid (∀ W, Calls Try.prog 36 #[.slice A l.length c] W fun e w' => e = .returned (.slice A (l.take 40).length c) ∧ W = w') := fun W => few_any l A c W hlc hcm
  have HF : Hid (IntsAt w A (l.take 40)) := hI.take 40
  have HN := Lib.hid hn
  have hfl : (l.take 40).length ≤ 40 := by rw [List.length_take]; omega
  clear hI hlc hcm hn
  generalize l.take 40 = f at *
  generalize l.length = n0 at *
  have A1 : Hid (∀ (w : World) (o : Obj), Below w.heap.size w (w.alloc o)) := fun w o => (Below.refl _ _).alloc (Nat.le_refl _) _
  have OW : Hid (∀ w : World, (w.alloc (.cells #[] 3)).ownsRow w.heap.size 3 1 (.slice (some ⟨w.heap.size, 0, none⟩) 0 0) ([] : List Int).length (icells [])) := fun w => World.ownsRow_lit w #[] 0 (Nat.le_refl _) (Nat.zero_le _) rfl
  have hsl := Nat.le_trans (Ids.setOf_length f) hfl
  have C37 : Hid (∀ W, IntsAt W A f → Calls Try.prog 37 #[.slice A f.length c] W fun e w' => ∃ A' c', e = .returned (.slice A' (Ids.setOf f).length c') ∧ LstC w' A' c' (Ids.setOf f) ∧ Below W.heap.size W w') := fun W h => of_c f A c W (by omega) h
  have C39 : Hid (∀ W, IntsAt W A f → Calls Try.prog 39 #[.slice A f.length c] W fun e w' => ∃ A' c', e = .returned (.slice A' (Ids.setOf f).length c') ∧ LstC w' A' c' (Ids.setOf f) ∧ Below W.heap.size W w') := fun W h => refOf_c f A c W (by omega) h
  have CS : Hid (∀ W A' B' c' d', IntsAt W A' (Ids.setOf f) → IntsAt W B' (Ids.setOf f) → Calls Try.prog 38 #[.slice A' (Ids.setOf f).length c', .slice B' (Ids.setOf f).length d'] W fun e w' => e = .returned (.bool true) ∧ Below W.heap.size W w') := fun W A' B' c' d' h h2 => by
    have := refSame_any (Ids.setOf f) (Ids.setOf f) A' B' c' d' W (by omega) (by omega) h h2
    rw [Ids.same_refl] at this; exact this
  have CS2 : Hid (∀ W B' d', IntsAt W A f → IntsAt W B' (Ids.setOf f) → Calls Try.prog 38 #[.slice A f.length c, .slice B' (Ids.setOf f).length d'] W fun e w' => e = .returned (.bool (Ids.rises f)) ∧ Below W.heap.size W w') := fun W B' d' h h2 => by
    have := refSame_any f (Ids.setOf f) A B' c d' W (by omega) (by omega) h h2
    rw [← Ids.rises_set] at this; exact this
  have CS3 : Hid (∀ W B' d', IntsAt W A f → IntsAt W B' f → Calls Try.prog 38 #[.slice A f.length c, .slice B' f.length d'] W fun e w' => e = .returned (.bool true) ∧ Below W.heap.size W w') := fun W B' d' h h2 => by
    have := refSame_any f f A B' c d' W (by omega) (by omega) h h2
    rw [Ids.same_refl] at this; exact this
  have CI : Hid (∀ W A' c', IntsAt W A' (Ids.setOf f) → Calls Try.prog 40 #[.slice A' (Ids.setOf f).length c'] W fun e w' => e = .returned (.bool true) ∧ Below W.heap.size W w') := fun W A' c' h => by
    have := is_any (Ids.setOf f) A' c' W (by omega) h
    rw [(Ids.rises_iff _).2 (Ids.up_setOf f)] at this; exact this.mono fun e w' h => ⟨h.1, quiet_below h.2⟩
  have CI2 : Hid (∀ W, IntsAt W A f → Calls Try.prog 40 #[.slice A f.length c] W fun e w' => e = .returned (.bool (Ids.rises f)) ∧ Below W.heap.size W w') := fun W h => (is_any f A c W (by omega) h).mono fun e w' h => ⟨h.1, quiet_below h.2⟩
  have CH : Hid (∀ W A' c', IntsAt W A' (Ids.setOf f) → Calls Try.prog 41 #[.slice A' (Ids.setOf f).length c', .int .i64 x] W fun e w' => e = .returned (.bool (Ids.has f x)) ∧ Below W.heap.size W w') := fun W A' c' h => by
    have := has_any (Ids.setOf f) A' c' x W (by omega) h (Ids.up_setOf f)
    rw [has_set] at this; exact this.mono fun e w' h => ⟨h.1, quiet_below h.2⟩
  have CH2 : Hid (∀ W, IntsAt W A f → Calls Try.prog 42 #[.slice A f.length c, .int .i64 x] W fun e w' => e = .returned (.bool (Ids.has f x)) ∧ W = w') := fun W h => refHas_any f A c x W (by omega) h
  generalize Ids.rises f = rf at *
  generalize Ids.has f x = hf at *
  go_enter Try.func8, Try.ntmps8
  go_wp2_with (first
    | (go_at_call 35; ((with_reducible refine (awake4 w).mono ?_); rintro e1 w1 ⟨rfl, b1⟩))
    | (go_at_call 36; ((with_reducible refine (CF.out _).mono ?_); rintro e1 w' ⟨rfl, rfl⟩))
    | (at_builtin; refine wpList_append_ints _ rfl _ _ rfl w1.heap.size i0 hi hz0 hz1 hz2 _ [] f rfl (OW.out w1) A c rfl ((HF.out.below b1).below (A1.out w1 _)) HN.out (by simp; omega) (A1.out w1 _).size ?_))
  intro v2 w2 own2 g2
  have b2 : Below w.heap.size w w2 := b1.trans (((A1.out w1 _).grown g2 (A1.out w1 _).size (fun k hk => ((OW.out w1).lt k hk).1)).mono b1.size)
  obtain ⟨A2, c2, hv, hI2⟩ := own_lstC own2
  subst hv
  have I2 := Lib.hid hI2.1
  have F2 := Lib.hid (HF.out.below b2)
  clear own2 g2 hI2
  go_wp2_with (first
    | (go_at_call 37; ((with_reducible refine (C37.out _ F2.out).mono ?_); rintro e1 w3 ⟨A3, c3, rfl, ⟨hI3, -⟩, b3⟩; have F3 := Lib.hid (F2.out.below b3); have I3 := Lib.hid (I2.out.below b3); have b3' := b2.trans (b3.mono b2.size)))
    | (go_at_call 39; ((with_reducible refine (C39.out _ F3.out).mono ?_); rintro e1 w4 ⟨A4, c4, rfl, ⟨hI4, -⟩, b4⟩; have F4 := Lib.hid (F3.out.below b4); have I4 := Lib.hid (I3.out.below b4); have hI3' := hI3.below b4; have b4' := b3'.trans (b4.mono b3'.size)))
    | (go_at_call 38; ((with_reducible refine (CS.out _ _ _ _ _ hI3' hI4).mono ?_); rintro e1 w5 ⟨rfl, b5⟩; have F5 := Lib.hid (F4.out.below b5); have I5 := Lib.hid (I4.out.below b5); have hI5 := hI3'.below b5; have b5' := b4'.trans (b5.mono b4'.size)))
    | (go_at_call 40; ((with_reducible refine (CI.out _ _ _ hI5).mono ?_); rintro e1 w6 ⟨rfl, b6⟩; have F6 := Lib.hid (F5.out.below b6); have I6 := Lib.hid (I5.out.below b6); have hI6 := hI5.below b6; have b6' := b5'.trans (b6.mono b5'.size)))
    | (go_at_call 40; ((with_reducible refine (CI2.out _ F6.out).mono ?_); rintro e1 w7 ⟨rfl, b7⟩; have F7 := Lib.hid (F6.out.below b7); have I7 := Lib.hid (I6.out.below b7); have hI7 := hI6.below b7; have b7' := b6'.trans (b7.mono b6'.size)))
    | (go_at_call 39; ((with_reducible refine (C39.out _ F7.out).mono ?_); rintro e1 w8 ⟨A8, c8, rfl, ⟨hJ8, -⟩, b8⟩; have F8 := Lib.hid (F7.out.below b8); have I8 := Lib.hid (I7.out.below b8); have hI8 := hI7.below b8; have b8' := b7'.trans (b8.mono b7'.size)))
    | (go_at_call 38; ((with_reducible refine (CS2.out _ _ _ F8.out hJ8).mono ?_); rintro e1 w9 ⟨rfl, b9⟩; have F9 := Lib.hid (F8.out.below b9); have I9 := Lib.hid (I8.out.below b9); have hI9 := hI8.below b9; have b9' := b8'.trans (b9.mono b8'.size)))
    | (go_at_call 41; ((with_reducible refine (CH.out _ _ _ hI9).mono ?_); rintro e1 w10 ⟨rfl, b10⟩; have F10 := Lib.hid (F9.out.below b10); have I10 := Lib.hid (I9.out.below b10); have b10' := b9'.trans (b10.mono b9'.size)))
    | (go_at_call 42; ((with_reducible refine (CH2.out _ F10.out).mono ?_); rintro e1 w' ⟨rfl, rfl⟩))
    | (go_at_call 38; ((with_reducible refine (CS3.out _ _ _ F10.out I10.out).mono ?_); rintro e1 w11 ⟨rfl, b11⟩; have b11' := b10'.trans (b11.mono b10'.size))))
  go_ret
  exact ⟨rfl, b11'⟩
end I
end Go.Proofs.Ytkbchpbdpkbnjaa
