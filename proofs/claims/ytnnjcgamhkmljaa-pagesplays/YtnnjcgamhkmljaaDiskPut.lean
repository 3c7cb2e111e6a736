/-
  The program's disk: Flush, Write.
-/
import Derived.Test.YtnnjcgamhkmljaaDiskDo
import Derived.Test.YtnnjcgamhkmljaaDiskFill
import Derived.Deep.RegionHeld3
import Derived.BigRegion
namespace Go.Proofs.Ytnnjcgamhkmljaa
open Go.RowKit
namespace Dsk
open B

theorem ikey : Maps.Keyed Try.prog 3 := Maps.int_keyed Try.underlying3
theorem ikl (k : Int) (h0 : -9223372036854775808 ≤ k) (h1 : k ≤ 9223372036854775807) : keyOf Try.prog 3 (.int .i64 k) = some (.int .i64 k) := Maps.keyOf_int_mk Try.underlying3 (WalkArith.wf_i64 (by omega))
theorem zeroB (w : World) : (zeroValue 89).run Try.prog w = .ok (.agg #[.string ⟨#[]⟩]) w := by kernel_rfl

/-- 'clear' of a map -/
theorem clear_run {w : World} {bm : Nat} {loose : List Int} {sure : List ByteArray} (h : LoAt w bm loose sure) :
    ∃ w', (∀ ty, (Builtin.clear_ #[77] ty #[.map (some bm)]).run Try.prog w = .ok (.tuple #[]) w') ∧ (∀ s, LoAt w' bm [] s) ∧ w.grownBy w' (some bm) := by
  obtain ⟨M, ⟨es, clock, hb, F, hs, hD⟩, _⟩ := h
  refine ⟨ChangeMaps.setBlock w bm (.map #[] clock), fun ty => ?_, fun s => ⟨.map [], ⟨#[], clock, ChangeMaps.heap_setBlock_same hb _, ⟨by simp, ?_, by simp⟩, Nat.le_refl _, rfl⟩, fun k => rfl, fun k hk => by cases hk⟩,
    ⟨rfl, rfl, rfl, by simp [ChangeMaps.setBlock], fun i _ hi => ChangeMaps.heap_setBlock_other hb _ (fun e => hi (by rw [e]))⟩⟩
  · simp [Builtin.clear_, run_underlying Try.underlying77, MapKept.run_getObj_map hb, MapKept.run_setObj_map _ hb, Result.andThen]; rfl
  · exact MapKept.stamped_empty clock

/-- the map alone has turned -/
theorem DAt.map_new {w w' : World} {b : Bl} {d d' : D} (h : DAt w b d) (hg : w.grownBy w' (some b.bm)) (hl : LoAt w' b.bm d'.loose d'.sure) (e1 : d'.now = d.now) (e2 : d'.writes = d.writes) (e3 : d'.halt = d.halt) (e4 : d'.down = d.down) : DAt w' b d' := by
  obtain ⟨l1, l2, l3⟩ := h.lts
  obtain ⟨row, sec, free, slt, lo, n1, n2, n3⟩ := h
  have hr : w'.heap[b.g]? = w.heap[b.g]? := hg.block _ l1 (by intro e; injection e with e; exact n2 e)
  have hs : w'.heap[b.bs]? = w.heap[b.bs]? := hg.block _ l2 (by intro e; injection e with e; exact n3 e)
  refine ⟨?_, ?_, ?_, Nat.lt_of_lt_of_le slt hg.size, hl, n1, n2, n3⟩
  · rw [e1, e2, e3, e4, hr]; exact row
  · rw [e1]
    intro hp
    obtain ⟨b', off, e, hl, hc⟩ := sec hp
    injection e with e; injection e with e1 e2
    subst e1; subst e2
    refine ⟨_, _, rfl, Nat.lt_of_lt_of_le slt hg.size, fun i hi => ?_⟩
    rw [World.cell?_of_block (w := w) (by exact hs)]; exact hc i hi
  · intro i; rw [World.frozen?_of_block (w := w) (by exact hs)]; exact free i

theorem turn_halt {d : D} (h : d.halt = 0) : turn d = ({ d with down := true }, false) := by unfold turn; rw [if_pos h]
theorem turn_go {d : D} (h : ¬ d.halt = 0) : (turn d).2 = true := by unfold turn; rw [if_neg h]
theorem turn_now (d : D) : (turn d).1.now = d.now ∧ (turn d).1.sure = d.sure ∧ (turn d).1.loose = d.loose := by unfold turn; split <;> exact ⟨rfl, rfl, rfl⟩
theorem bl_g (b : Bl) : ∀ x ∈ [b.g], x ∈ b.l := by intro x hx; simp at hx; subst hx; simp

set_option maxHeartbeats 1000000 in
theorem flush_any (b : Bl) (d : D) (w : World) (h : DAt w b d) (hi : Inv d) :
    Calls Try.prog 13 #[.pointer (some ⟨b.g, 0, none⟩)] w fun e w' => e = .returned (.int .i64 (flush d).2) ∧ DAt w' b (flush d).1 ∧ Tch b.l w w' := by
  obtain ⟨c, left, hr, _⟩ := h.row
  obtain ⟨⟨c0, c1, c2, c3, c4⟩, f0, f1, f2, f3, f4⟩ := row5 hr
  have HD := Lib.hid h
  have CS := Lib.hid (step_any b d w h hi)
  unfold flush
  cases hd : d.down with
  | true =>
    rw [hd] at c4
    clear hr h hi hd CS
    go_enter Try.func13, Try.ntmps13
    go_wp2
    go_ret
    exact ⟨rfl, HD.out, Tch.refl _ _⟩
  | false =>
    rw [hd] at c4
    simp only [Bool.false_eq_true, if_false]
    by_cases hz : d.halt = 0
    · have e1 : stepN d = 6 := if_pos hz
      rw [turn_halt hz]
      simp only [Bool.false_eq_true, if_false]
      rw [e1, turn_halt hz] at CS
      clear hr h hi hd hz e1
      go_enter Try.func13, Try.ntmps13
      go_wp2_with (go_at_call 37; ((with_reducible refine CS.out.mono ?_); rintro e w1 ⟨rfl, hD, ht⟩; have HD1 := Lib.hid hD; have HT1 := Lib.hid ht; clear hD ht))
      go_ret
      exact ⟨rfl, HD1.out, HT1.out.mono (bl_g b)⟩
    · have e1 : stepN d = 0 := if_neg hz
      have e2 := turn_go hz
      simp only [e2, if_true]
      rw [e1] at CS
      have HTN := Lib.hid (turn_now d)
      generalize (turn d).1 = d1 at *
      clear hr h hi hd hz e1 e2
      go_enter Try.func13, Try.ntmps13
      go_wp2_with (go_at_call 37; ((with_reducible refine CS.out.mono ?_); rintro e w1 ⟨rfl, hD, ht⟩; obtain ⟨c', left', hr', _⟩ := hD.row; obtain ⟨⟨d0, d1, d2, d3, d4⟩, g0, g1, g2, g3, g4⟩ := row5 hr'; obtain ⟨w2, hrun, hlo, hgr⟩ := clear_run hD.lo; have HD1 := Lib.hid hD; have HT1 := Lib.hid ht; have HG := Lib.hid hgr; have HL := Lib.hid hlo; clear hD ht hr' hgr hlo))
      go_ret
      exact ⟨rfl, HD1.out.map_new HG.out (HL.out _) rfl rfl rfl rfl, (HT1.out.mono (bl_g b)).grown HG.out (by simp)⟩
end Dsk
end Go.Proofs.Ytnnjcgamhkmljaa
