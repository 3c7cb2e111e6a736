/-
  PagesPlays: a way of the round: half 0, kind 1.
-/
import Derived.Test.YtnnjcgamhkmljaaPagesPlA
namespace Go.Proofs.Ytnnjcgamhkmljaa
open Go.RowKit
namespace Pp
open B Dsk
set_option linter.unusedVariables false
set_option maxRecDepth 100000 in
set_option maxHeartbeats 40000000 in
set_option tactic.hygienic false in
theorem way01 : parts.P01 := by
  unfold parts
  intro uu0
  intros
  have CR := Lib.hid (Pg.pread_my b d g 0 (l0.length : Int) nn W5 P5.out.next0)
  clear v0 v1 v2 v3 v4 y0 y1 f0 f1
  obtain ⟨⟨v0, v1, v2, v3, v4⟩, _⟩ := row5 A5.out
  by_cases q1 : nn < 0
  · rw [Pg.pread_arg (.inl q1)] at CR
    unfold Pg.pval at CR
    go_upto_region 25 with (go_at_call 11; ((with_reducible refine CR.out.mono ?_); rintro e w6 ⟨rfl, hb6⟩; have P6 := Lib.hid (P5.out.below hb6); obtain ⟨⟨v0, v1, v2, v3, v4⟩, _⟩ := row5 (blk_below A5.out hb6 (blk_lt A5.out)); obtain ⟨⟨y0, y1⟩, _⟩ := row2f P6.out.hg; clear hb6))
    go_quiet (fail)
    go_wp2
    go_meet
    case rel => exact ⟨d, g, 0, l0, l1, H0, H1, k0, k1, rfl, rfl, .inl rfl, (P6.out.mono (Nat.le_succ i)).below (bdr _ _)⟩
  · by_cases q2 : (l0.length : Int) ≤ nn
    · rw [Pg.pread_arg (.inr q2)] at CR
      unfold Pg.pval at CR
      have q3 : nn ≥ (l0.length : Int) := q2
      go_upto_region 25 with (go_at_call 11; ((with_reducible refine CR.out.mono ?_); rintro e w6 ⟨rfl, hb6⟩; have P6 := Lib.hid (P5.out.below hb6); obtain ⟨⟨v0, v1, v2, v3, v4⟩, _⟩ := row5 (blk_below A5.out hb6 (blk_lt A5.out)); obtain ⟨⟨y0, y1⟩, _⟩ := row2f P6.out.hg; clear hb6))
      go_quiet (fail)
      go_wp2
      go_meet
      case rel => exact ⟨d, g, 0, l0, l1, H0, H1, k0, k1, rfl, rfl, .inl rfl, (P6.out.mono (Nat.le_succ i)).below (bdr _ _)⟩
    · obtain ⟨ra, rb, rc, hr⟩ : ∃ ra rb rc, Pg.pread d 0 (l0.length : Int) nn = (ra, rb, rc) := ⟨_, _, _, rfl⟩
      rw [hr] at CR
      unfold Pg.pval at CR
      have q3 : ¬ nn ≥ (l0.length : Int) := q2
      clear hr
      go_upto_region 25 with (go_at_call 11; ((with_reducible refine CR.out.mono ?_); rintro e w6 ⟨rfl, hb6⟩; have P6 := Lib.hid (P5.out.below hb6); obtain ⟨⟨v0, v1, v2, v3, v4⟩, _⟩ := row5 (blk_below A5.out hb6 (blk_lt A5.out)); obtain ⟨⟨y0, y1⟩, _⟩ := row2f P6.out.hg; clear hb6))
      go_quiet (fail)
      go_wp2
      go_meet
      case rel => exact ⟨d, g, 0, l0, l1, H0, H1, k0, k1, rfl, rfl, .inl rfl, (P6.out.mono (Nat.le_succ i)).below (bdr _ _)⟩
end Pp
end Go.Proofs.Ytnnjcgamhkmljaa
