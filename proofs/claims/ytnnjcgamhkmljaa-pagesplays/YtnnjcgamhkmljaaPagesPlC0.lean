/-
  PagesPlays: ways of the round: half 0, kinds 3 to 6.
-/
import Derived.Test.YtnnjcgamhkmljaaPagesPlA
namespace Go.Proofs.Ytnnjcgamhkmljaa
open Go.RowKit
namespace Pp
open B Dsk
set_option linter.unusedVariables false
set_option maxRecDepth 100000 in
set_option maxHeartbeats 40000000 in
set_option tactic.hygienic false in
theorem way03 : parts.P03 := by
  unfold parts
  intro uu0
  intros
  have CF := Lib.hid (flush_any b d W5 P5.out.pm.my.at' P5.out.pm.my.inv)
  have hfl := flush_is P5.out.up
  have PF := Lib.hid (fun w6 (hd : DAt w6 b (flush d).1) (ht : Tch b.l W5 w6) => (show PL S R (i + 1) w w6 b (flush d).1 g gh 0 l0 l1 H0 H1 k0 k1 from P5.out.disk hd (flush_inv P5.out.pm.my.inv (by have := P5.out.nw; omega)) (by rw [hfl]; exact ⟨rfl, P5.out.up.h⟩) (by rw [hfl]) (by rw [hfl]; show d.writes + 1 ≤ _; have := P5.out.nw; omega) ht))
  clear hfl
  go_wp2_with (go_at_call 13; ((with_reducible refine CF.out.mono ?_); rintro e w6 ⟨rfl, hd6, ht6⟩; have P6 := Lib.hid (PF.out w6 hd6 ht6); clear hd6 ht6))
  go_meet
  case rel => exact ⟨(flush d).1, g, 0, l0, l1, H0, H1, k0, k1, rfl, rfl, .inl rfl, P6.out⟩
set_option maxRecDepth 100000 in
set_option maxHeartbeats 40000000 in
set_option tactic.hygienic false in
theorem way04 : parts.P04 := by
  unfold parts
  intro uu0
  intros
  have CO := Lib.hid (Pg.open_my b d 1 (l1.length : Int) W5 P5.out.pm.my P5.out.pm.sz ⟨.inr rfl, by omega, by have := P5.out.c1.le; omega⟩ P5.out.bl.size)
  go_wp2_with (go_at_call 8; ((with_reducible refine CO.out.mono ?_); rintro e w6 ⟨g6, rfl, hm6, hb6⟩; have P6 := Lib.hid (P5.out.open0 hm6 hb6); clear hm6 hb6))
  go_meet
  case rel => exact ⟨d, g6, 1, l0, l1, H0, H1, k0, k1, rfl, rfl, .inr rfl, P6.out.mono (Nat.le_succ i)⟩
set_option maxRecDepth 100000 in
set_option maxHeartbeats 40000000 in
set_option tactic.hygienic false in
theorem way05 : parts.P05 := by
  unfold parts
  intro uu0
  intros
  have CO := Lib.hid (show Calls Try.prog 14 #[.pointer (some ⟨g, 0, none⟩)] W5 fun e w' => e = .returned (.pointer (some ⟨W5.heap.size, 0, none⟩)) ∧ Pg.PAt w' b W5.heap.size 1 0 ∧ Below W5.heap.size W5 w' from Pg.other_any b g 0 _ W5 P5.out.pm.p (.inl rfl))
  clear y0 y1 f0 f1
  go_upto_region 43 with fail
  go_wp2_with (go_at_call 14; ((with_reducible refine CO.out.mono ?_); rintro e w6 ⟨rfl, hp6, hb6⟩; have P6 := Lib.hid (P5.out.other0 hp6 hb6); obtain ⟨⟨y0, y1⟩, f0, f1⟩ := row2f (blk_below P5.out.hg hb6 (blk_lt P5.out.hg)); clear hp6 hb6))
  go_meet
  case rel => exact ⟨d, W5.heap.size, 1, l0, [], H0, none, k0, 0, rfl, rfl, .inr rfl, P6.out.mono (Nat.le_succ i)⟩
set_option maxRecDepth 100000 in
set_option maxHeartbeats 40000000 in
set_option tactic.hygienic false in
theorem way06 : parts.P06 := by
  unfold parts
  intro uu0
  intros
  have CF := Lib.hid (flush_any b d W5 P5.out.pm.my.at' P5.out.pm.my.inv)
  have hfl := flush_is P5.out.up
  have PF := Lib.hid (fun w6 (hd : DAt w6 b (flush d).1) (ht : Tch b.l W5 w6) => (show PL S R (i + 1) w w6 b (flush d).1 g gh 0 l0 l1 H0 H1 k0 k1 from P5.out.disk hd (flush_inv P5.out.pm.my.inv (by have := P5.out.nw; omega)) (by rw [hfl]; exact ⟨rfl, P5.out.up.h⟩) (by rw [hfl]) (by rw [hfl]; show d.writes + 1 ≤ _; have := P5.out.nw; omega) ht))
  have hlo : (flush d).1.loose = [] := by rw [hfl]
  clear hfl
  have LB : Hid (∀ x ∈ b.l, x < S) := P5.out.lo
  have NA : Hid (ga ∉ b.l) := fun q => by have := LB.out ga q; omega
  have NC : Hid (0 < ch.length → ∀ a, cA = some a → a.block ∉ b.l) := fun hp a ha q => by
    have := HQ.out hp a ha
    have h1 := P5.out.pm.my.g; have h2 := P5.out.pm.my.bs; have h3 := P5.out.pm.my.bm
    simp only [List.mem_cons, List.not_mem_nil, or_false] at q
    omega
  clear v0 v1 v2 v3 v4
  go_upto_region 46 with (go_at_call 13; ((with_reducible refine CF.out.mono ?_); rintro e w6 ⟨rfl, hd6, ht6⟩; have P6 := Lib.hid (PF.out w6 hd6 ht6); have T6 := Lib.hid ht6; clear hd6 ht6))
  have A6 := Lib.hid ((T6.out.block ga (blk_lt A5.out) NA.out).trans A5.out)
  have HT6 := Lib.hid (at_tch HT.out T6.out NC.out)
  obtain ⟨⟨v0, v1, v2, v3, v4⟩, _⟩ := row5 A6.out
  have CW := Lib.hid (fun W => few_any cA ch cC W)
  have CK := Lib.hid (crash_any b (flush d).1 cA (few ch) cC w6 P6.out.pm.my.at' P6.out.pm.my.inv (at_few HT6.out) (by have := few_len ch; omega) (fun hp a ha => NC.out (by unfold few at hp; rw [List.length_take] at hp; omega) a ha))
  go_wp2_with (first
    | (go_at_call 16; ((with_reducible refine (CW.out _ HT6.out hac).mono ?_); rintro e w' ⟨rfl, rfl⟩))
    | (go_at_call 15; ((with_reducible refine CK.out.mono ?_); rintro e w7 ⟨rfl, hd7, ht7⟩; have P7 := Lib.hid (P6.out.disk (N' := i + 1) hd7 (crash_inv P6.out.pm.my.inv _) ⟨rfl, by show (-1 : Int) < 0; omega⟩ (crash_is _ hlo) (by show (flush d).1.writes ≤ _; exact P6.out.nw) ht7); clear hd7 ht7)))
  go_meet
  case rel => exact ⟨(crash (flush d).1 (few ch)), g, 0, l0, l1, H0, H1, k0, k1, rfl, rfl, .inl rfl, P7.out⟩
end Pp
end Go.Proofs.Ytnnjcgamhkmljaa
