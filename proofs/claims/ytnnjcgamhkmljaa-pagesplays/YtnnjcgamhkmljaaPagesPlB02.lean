/-
  PagesPlays: a way of the round: half 0, kind 2.
-/
import Derived.Test.YtnnjcgamhkmljaaPagesPlA
namespace Go.Proofs.Ytnnjcgamhkmljaa
open Go.RowKit
namespace Pp
open B Dsk
set_option linter.unusedVariables false
set_option maxRecDepth 100000 in
set_option maxHeartbeats 40000000 in
set_option tactic.hygienic false in
theorem way02 : parts.P02 := by
  unfold parts
  intro uu0
  intros
  by_cases q1 : nn < 0
  · have CN := Lib.hid (fun W (q : Below W5.heap.size W5 W) => Pg.cut_no b g 0 (l0.length : Int) nn W (P5.out.next0.below q).p (.inl q1))
    have q1' : ¬ nn ≥ 0 := by omega
    go_upto_region 29 with fail
    go_quiet (fail)
    go_wp2_with (go_at_call 12; ((with_reducible refine (CN.out _ (bdr _ _)).mono ?_); rintro e w' ⟨rfl, rfl⟩))
    go_meet
    case rel => exact ⟨d, g, 0, l0, l1, H0, H1, k0, k1, rfl, rfl, .inl rfl, (P5.out.mono (Nat.le_succ i)).below (bdr _ _)⟩
  by_cases q2 : (l0.length : Int) < nn
  · have CN := Lib.hid (fun W (q : Below W5.heap.size W5 W) => Pg.cut_no b g 0 (l0.length : Int) nn W (P5.out.next0.below q).p (.inr q2))
    have q1' : nn ≥ 0 := by omega
    have q2' : ¬ nn ≤ (l0.length : Int) := by omega
    go_upto_region 29 with fail
    go_quiet (fail)
    go_wp2_with (go_at_call 12; ((with_reducible refine (CN.out _ (bdr _ _)).mono ?_); rintro e w' ⟨rfl, rfl⟩))
    go_meet
    case rel => exact ⟨d, g, 0, l0, l1, H0, H1, k0, k1, rfl, rfl, .inl rfl, (P5.out.mono (Nat.le_succ i)).below (bdr _ _)⟩
  obtain ⟨m, rfl⟩ : ∃ m : Nat, nn = (m : Int) := ⟨nn.toNat, by omega⟩
  have q1' : (m : Int) ≥ 0 := by omega
  have q2' : (m : Int) ≤ (l0.length : Int) := by omega
  have CY := Lib.hid (fun W (q : Below W5.heap.size W5 W) => Pg.cut_yes b g 0 (l0.length : Int) (m : Int) W (P5.out.next0.below q).p (by omega) (by omega))
  have NG : Hid (gh ≠ g) := fun e => P5.out.gh_ne (by rw [e]; exact List.mem_cons_self)
  have NG2 : Hid (ga ≠ g) := fun e => by
    have h1 := P5.out.pm.p
    have h2 := A5.out
    unfold Pg.PAt at h1
    rw [e, h1] at h2; injection h2 with h2; injection h2 with _ h2 _; exact absurd h2 (by decide)
  go_upto_region 29 with fail
  go_quiet (fail)
  have P6 := Lib.hid (P5.out.below (bdr W5 nq))
  have A6 : Hid ((W5.drewN nq).heap[ga]? = _) := A5.out
  have CY6 := Lib.hid (CY.out _ (bdr W5 nq))
  have HN6 : Hid (H0 = none → l0.length = 0 ∧ k0 = 0) := P5.out.r0.n
  have HK6 : Hid (l0.length ≤ k0) := P5.out.r0.c
  have PC6 := Lib.hid (P6.out.cut0 (n := m) (by omega))
  clear v0 v1 v2 v3 v4 y0 y1 f0 f1
  generalize W5.drewN nq = W6 at *
  obtain ⟨⟨v0, v1, v2, v3, v4⟩, _⟩ := row5 A6.out
  go_upto_region 33 with (go_at_call 12; ((with_reducible refine CY6.out.mono ?_); rintro e w' ⟨rfl, rfl⟩))
  have Ag : Hid ((W6.setCell ⟨g, 2, none⟩ (.int .i64 (m : Int))).heap[gh]? = some (.cells #[.slice H0 l0.length k0, .slice H1 l1.length k1] 33)) := blk_other P6.out.hg NG.out _
  have Aa : Hid ((W6.setCell ⟨g, 2, none⟩ (.int .i64 (m : Int))).heap[ga]? = _) := blk_other A6.out NG2.out _
  clear v0 v1 v2 v3 v4
  obtain ⟨⟨v0, v1, v2, v3, v4⟩, _⟩ := row5 Aa.out
  obtain ⟨⟨y0, y1⟩, f0, f1⟩ := row2f Ag.out
  generalize W6.setCell ⟨g, 2, none⟩ (.int .i64 (m : Int)) = W7 at *
  have hk' : l0.length ≤ k0 := HK6.out
  cases hH : H0 with
  | none =>
    obtain ⟨z1, z2⟩ := HN6.out hH
    have hm0 : m = 0 := by omega
    subst hm0 hH
    simp only [z2] at *
    go_region
    all_goals
      go_wp2
      go_meet
      case rel => exact ⟨d, g, 0, (l0.take 0), l1, none, H1, 0, k1, rfl, rfl, .inl rfl, (PC6.out.mono (Nat.le_succ i)).below ⟨rfl, rfl, rfl, Nat.le_refl _, fun _ _ => rfl⟩⟩
  | some ad =>
    subst hH
    go_region
    all_goals
      go_wp2
      go_meet
      case rel => exact ⟨d, g, 0, (l0.take m), l1, (some ad), H1, k0, k1, rfl, rfl, .inl rfl, (PC6.out.mono (Nat.le_succ i)).below ⟨rfl, rfl, rfl, Nat.le_refl _, fun _ _ => rfl⟩⟩
end Pp
end Go.Proofs.Ytnnjcgamhkmljaa
