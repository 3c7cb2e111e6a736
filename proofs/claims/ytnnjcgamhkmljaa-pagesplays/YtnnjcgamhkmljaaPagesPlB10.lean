/-
  PagesPlays: a way of the round: half 1, kind 0.
-/
import Derived.Test.YtnnjcgamhkmljaaPagesPlA
namespace Go.Proofs.Ytnnjcgamhkmljaa
open Go.RowKit
namespace Pp
open B Dsk
set_option linter.unusedVariables false
set_option maxRecDepth 100000 in
set_option maxHeartbeats 40000000 in
set_option tactic.hygienic false in
theorem way10 : parts.P10 := by
  unfold parts
  intro uu0
  intros
  have hNW : d.writes < 1000000 := by have := P5.out.nw; omega
  have hlR : l1.length ≤ R := by have := P5.out.c1.le; rw [P5.out.rm] at this; exact this
  by_cases q1 : kk < 0 ∨ 255 < kk ∨ 240 < cs.size
  · have HB : kk < 0 ∨ 255 < kk ∨ 240 < cs.size ∨ (R : Int) ≤ (((l1.map toPg).length : Nat) : Int) := by omega
    have hra : ra (l1.map toPg) (R : Int) kk cs = (-1, 1) := by unfold ra; simp only [List.length_map]; rw [if_pos q1]
    have CN := Lib.hid (fun W => refApp_no H1 (l1.map toPg) k1 (R : Int) kk cs W (by rw [List.length_map]; omega) (by omega) HB)
    rw [hra, List.length_map] at CN
    have CP := Lib.hid (fun W (q : Pg.PMy w.heap.size W b d g 1 (l1.length : Int)) => papp_tch b d g 1 (l1.length : Int) kk cs W q hNW)
    rw [Pg.papp_bad q1] at CP
    clear hra HB
    go_upto_region 18 with fail
    go_region_with (go_at_call 17; ((with_reducible refine (CN.out _).mono ?_); rintro e w6 ⟨rfl, hb6⟩; have P6 := Lib.hid (P5.out.below (Nod.below_of_drew hb6)); have A6 := Lib.hid (blk_below A5.out (Nod.below_of_drew hb6) (blk_lt A5.out)); clear hb6))
    all_goals
      clear v0 v1 v2 v3 v4 y0 y1 f0 f1
      obtain ⟨⟨v0, v1, v2, v3, v4⟩, _⟩ := row5 A6.out
      go_upto_region 20 with (go_at_call 18; ((with_reducible refine (CP.out _ P6.out.next1).mono ?_); rintro e w7 ⟨rfl, hm7, ht7⟩; have M7 := Lib.hid hm7; have T7 := Lib.hid ht7; clear hm7 ht7))
      have K7 := Lib.hid ((P6.out.keep1 M7.out T7.out).mono (Nat.le_succ i))
      obtain ⟨⟨y0, y1⟩, f0, f1⟩ := row2f (P6.out.tch T7.out).1
      go_wp2
      go_meet
      case rel => exact ⟨d, g, 1, l0, l1, H0, H1, k0, k1, rfl, rfl, .inr rfl, K7.out⟩
  by_cases q2 : (R : Int) ≤ (l1.length : Int)
  · have HB : kk < 0 ∨ 255 < kk ∨ 240 < cs.size ∨ (R : Int) ≤ (((l1.map toPg).length : Nat) : Int) := by rw [List.length_map]; omega
    have hra : ra (l1.map toPg) (R : Int) kk cs = (-1, 5) := by unfold ra; simp only [List.length_map]; rw [if_neg q1, if_pos q2]
    have CN := Lib.hid (fun W => refApp_no H1 (l1.map toPg) k1 (R : Int) kk cs W (by rw [List.length_map]; omega) (by omega) HB)
    rw [hra, List.length_map] at CN
    have CP := Lib.hid (fun W (q : Pg.PMy w.heap.size W b d g 1 (l1.length : Int)) => papp_tch b d g 1 (l1.length : Int) kk cs W q hNW)
    rw [Pg.papp_full q1 (by rw [P5.out.rm]; exact q2)] at CP
    clear hra HB
    go_upto_region 18 with fail
    go_region_with (go_at_call 17; ((with_reducible refine (CN.out _).mono ?_); rintro e w6 ⟨rfl, hb6⟩; have P6 := Lib.hid (P5.out.below (Nod.below_of_drew hb6)); have A6 := Lib.hid (blk_below A5.out (Nod.below_of_drew hb6) (blk_lt A5.out)); clear hb6))
    all_goals
      clear v0 v1 v2 v3 v4 y0 y1 f0 f1
      obtain ⟨⟨v0, v1, v2, v3, v4⟩, _⟩ := row5 A6.out
      go_upto_region 20 with (go_at_call 18; ((with_reducible refine (CP.out _ P6.out.next1).mono ?_); rintro e w7 ⟨rfl, hm7, ht7⟩; have M7 := Lib.hid hm7; have T7 := Lib.hid ht7; clear hm7 ht7))
      have K7 := Lib.hid ((P6.out.keep1 M7.out T7.out).mono (Nat.le_succ i))
      obtain ⟨⟨y0, y1⟩, f0, f1⟩ := row2f (P6.out.tch T7.out).1
      go_wp2
      go_meet
      case rel => exact ⟨d, g, 1, l0, l1, H0, H1, k0, k1, rfl, rfl, .inr rfl, K7.out⟩
  have hk0 : 0 ≤ kk := by omega
  have hk1 : kk ≤ 255 := by omega
  have hcz : cs.size ≤ 240 := by omega
  have hlt2 : l1.length < R := by omega
  have CY := Lib.hid (fun W (q : Below W5.heap.size W5 W) => refApp_yes H1 (l1.map toPg) k1 (R : Int) kk cs W (P5.out.r1.pr.below q) (by rw [List.length_map]; exact P5.out.r1.n) (by rw [List.length_map]; omega) hcz (by omega) (by omega) (by rw [List.length_map]; omega))
  rw [List.length_map] at CY
  have CP := Lib.hid (fun W (q : Pg.PMy w.heap.size W b d g 1 (l1.length : Int)) => papp_tch b d g 1 (l1.length : Int) kk cs W q hNW)
  rw [Pg.papp_put P5.out.up P5.out.pm.sz (.inr rfl) (by omega) (by rw [P5.out.rm]; omega) hk0 hk1 hcz] at CP
  have SZ5 : Hid (S ≤ W5.heap.size) := P5.out.sz
  have HL : Hid ((l1 ++ [(kk.toNat, cs)]).length = l1.length + 1) := by rw [Hid]; simp
  clear q1 q2
  go_upto_region 18 with fail
  have CY5 := Lib.hid (CY.out W5.drew ⟨rfl, rfl, rfl, Nat.le_refl _, fun _ _ => rfl⟩)
  go_region_with (go_at_call 17; ((with_reducible refine CY5.out.mono ?_); rintro e w6 ⟨gg, cap, rfl, own6, hb6⟩; have P6 := Lib.hid (P5.out.below (Nod.below_of_drew hb6)); have A6 := Lib.hid (blk_below A5.out (Nod.below_of_drew hb6) (blk_lt A5.out)); have RW6 : Hid (RW S w6 (some ⟨gg, 0, none⟩) (l1 ++ [(kk.toNat, cs)]) cap) := RW.new (M := W5.heap.size) (by rw [HL.out, ← map_snoc hk0]; exact own6) SZ5.out; clear hb6 own6))
  all_goals
    clear v0 v1 v2 v3 v4 y0 y1 f0 f1
    obtain ⟨⟨v0, v1, v2, v3, v4⟩, _⟩ := row5 A6.out
    go_upto_region 20 with (go_at_call 18; ((with_reducible refine (CP.out _ P6.out.next1).mono ?_); rintro e w7 ⟨rfl, hm7, ht7⟩; have M7 := Lib.hid hm7; have T7 := Lib.hid ht7; clear hm7 ht7))
    have K7 := Lib.hid (P6.out.app1 RW6.out M7.out T7.out hk0 hk1 hcz hlt2)
    obtain ⟨⟨y0, y1⟩, f0, f1⟩ := row2f (P6.out.tch T7.out).1
    go_wp2
    go_meet
    case rel => exact ⟨(Pg.put d 1 (l1.length : Int) kk cs), g, 1, l0, (l1 ++ [(kk.toNat, cs)]), H0, (some ⟨gg, 0, none⟩), k0, cap, rfl, rfl, .inr rfl, K7.out⟩
end Pp
end Go.Proofs.Ytnnjcgamhkmljaa
