/-
  The walk of the statement DiskDown.
-/
import Derived.Test.YtojbanknbgihgaaDownMath
namespace Go.Proofs.Ytojbanknbgihgaa
open Go.RowKit
namespace Dsk
open B
theorem and3 (k : Int) : bits .and .i64 k 3 = ((k % 4).toNat : Int) := by
  show IntKind.i64.wrap ((BitVec.ofInt 64 k &&& BitVec.ofInt 64 3).toNat : Int) = _
  have h : (BitVec.ofInt 64 k &&& BitVec.ofInt 64 3).toNat = (k % 4).toNat := by
    rw [BitVec.toNat_and, show (BitVec.ofInt 64 3).toNat = 3 from rfl]
    rw [show (BitVec.ofInt 64 k).toNat &&& 3 = (BitVec.ofInt 64 k).toNat % 4 from Nat.and_two_pow_sub_one_eq_mod _ 2, BitVec.toNat_ofInt]
    omega
  rw [h]
  exact IntWalk.i64_in _ (by omega)

set_option maxRecDepth 100000 in
set_option maxHeartbeats 4000000 in
theorem diskDown_walk (A : Option Addr) (acts : List Act) (cap : Nat) (h : Int) (A2 : Option Addr) (ch : List Int) (c2 : Nat) (w : World) (hacts : ActsAt w A acts) (hlen : acts.length ≤ maxLen) (hch : At vInt w A2 ch) (hc : ch.length ≤ c2) :
    Calls Try.prog 5 #[.slice A acts.length cap, .int .i64 h, .slice A2 ch.length c2] w fun e w' => e = .returned (.bool true) ∧ Below w.heap.size w w' := by
  have CA := Lib.hid (awake_any w)
  have CN := Lib.hid (fun W => new_my 4 4 W rfl (by omega) (by omega))
  have HA := Lib.hid hacts
  have HC := Lib.hid hch
  have hlen2 : acts.length ≤ 9223372036854775807 := by unfold maxLen at hlen; omega
  obtain ⟨hh, hmm⟩ : ∃ hh, max 0 (min h 30) = hh := ⟨_, rfl⟩
  have h0 : 0 ≤ hh := by omega
  have h1 : hh ≤ 30 := by omega
  clear hacts hch
  go_enter Try.func5, Try.ntmps5
  go_wp2_with (first
    | (go_at_call 7; ((with_reducible refine CA.out.mono ?_); rintro e w1 ⟨rfl, hb1⟩; have hs1 := hb1.size; have B1 := Lib.hid hb1; clear hb1))
    | (go_at_call 8; ((with_reducible refine (CN.out _).mono ?_); rintro e w2 ⟨b, rfl, hm2, hb2⟩; have hs2 := hb2.size; have M2 := Lib.hid hm2; have B2 := Lib.hid hb2; clear hm2 hb2; have CH := Lib.hid (halt_my b (new 4) hh hh w2 M2.out (.inl rfl) (by omega) (by omega) hs2)))
    | (go_at_call 13; ((with_reducible refine CH.out.mono ?_); rintro e w3 ⟨rfl, hm3, hb3⟩; have hs3 := hb3.size; have M3 := Lib.hid hm3; have B3 := Lib.hid hb3; clear hm3 hb3)))
  have MY : Hid (My w.heap.size w3 b (halt (new 4) hh)) := ⟨M3.out.at', M3.out.inv, by have := M3.out.g; omega, by have := M3.out.bs; omega, by have := M3.out.bm; omega⟩
  have BB : Hid (Below w.heap.size w w3) := (B1.out.trans (B2.out.mono hs1)).trans (B3.out.mono hs1)
  go_loopw [8, 9] (fun t8 t9 wr => ∃ (k : Nat) (ok : Int) (d : D), k ≤ acts.length ∧ k ≤ 40 ∧ t8 = .int .i64 ok ∧ t9 = .int .i64 (k : Int) ∧ My w.heap.size wr b d ∧ Dn hh ok d ∧ Below w.heap.size w wr) (fun _ t9 _ => acts.length - (intOf t9).toNat)
  case atStart => exact ⟨0, 0, _, Nat.zero_le _, Nat.zero_le _, rfl, rfl, MY.out, dn_new h0 h1, BB.out⟩
  case round =>
    obtain ⟨k, ok, d, hk, hk2, rfl, rfl, hmy, hdn, hbel⟩ := hrel
    clear CA CN B1 B2 B3 M2 M3 MY BB CH
    have MY := Lib.hid hmy
    have DN := Lib.hid hdn
    have BB := Lib.hid hbel
    have hs := hbel.size
    have ho0 := hdn.o0
    have ho1 := hdn.o1
    have hw : d.writes < 1000000 := by have := hdn.wr; omega
    clear hmy hdn hbel
    by_cases hlt : k < acts.length
    · by_cases hlt2 : k < 40
      · obtain ⟨ab, off, hAe, hab, c0, c1, c2, c3, c4, c5, c6, c7⟩ := (HA.out.below BB.out) k hlt
        subst hAe
        have ha3 := and3 acts[k].i
        have CC := Lib.hid (cut_any acts[k].s 20 wr.drew (by omega))
        have hcs := cutB_size acts[k].s 20
        generalize acts[k].kind = kd at *
        generalize acts[k].i = ai at *
        generalize acts[k].s = sa at *
        generalize cutB sa 20 = cs at *
        have hi0 : 0 ≤ ((ai % 4).toNat : Int) := by omega
        have hi1 : ((ai % 4).toNat : Int) < 4 := by omega
        generalize ((ai % 4).toNat : Int) = ii at *
        clear c3 c4 c5 c6 c7
        have hkI : (k : Int) < (acts.length : Int) := by omega
        have hkI2 : (k : Int) < 40 := by omega
        have MQ : Hid (My w.heap.size wr.drew b d) := MY.out.below ⟨rfl, rfl, rfl, Nat.le_refl _, fun _ _ => rfl⟩
        have BQ : Hid (Below w.heap.size w wr.drew) := ⟨BB.out.os, BB.out.tape, BB.out.output, BB.out.size, BB.out.block⟩
        have hab2 : ab < w.heap.size := (HA.out k hlt).elim fun b' h => h.elim fun o' h => by have := h.1; injection this with this; injection this with e1 _; rw [e1]; exact h.2.1
        have hab := hab2
        have hsq := BQ.out.size
        have CW := Lib.hid (write_my b d ii cs wr.drew MQ.out hw hs)
        have c0' : wr.drew.cell? ⟨ab, off + k * 4, none⟩ = some (.int .i64 kd) := c0
        rcases dn_write DN.out ii cs hi0 hi1 (by omega) with ⟨he, hle, hd1⟩ | ⟨he, heq, hd1⟩
        · rw [he] at CW
          generalize (write d ii cs).1 = d1 at *
          clear he
          have D1 := Lib.hid hd1
          have hw1 : d1.writes < 1000000 := by have := hd1.wr; omega
          clear hd1
          by_cases hkd : kd = 2
          · subst hkd
            rcases dn_flush D1.out with ⟨hf, hle2, hd2⟩ | ⟨hf, heq2, hd2⟩
            · have D2 := Lib.hid hd2
              clear hd2
              have n1 : ¬ (hh < ok + 1 + 1) := by omega
              by_cases hz : ok + 1 + 1 = hh
              · have hzb : (ok + 1 + 1 == hh) = true := by simpa using hz
                have HZ := Lib.hid hz
                clear hz
                go_wp2
                refine wp_region_still_tail 13 (by kernel_rfl) (by kernel_rfl) ?_
                change wpStill Try.prog _ wr.drew (fun a' => wpList Try.prog _ _ _ a' wr.drew) _ _
                simp only [List.take_succ_cons, List.take_zero, List.drop_succ_cons, List.drop_zero]
                repeat (first | still_step | still_call (CC.out.mono fun e w' ⟨h1, h2⟩ => ⟨h1, h2.symm⟩))
                refine wpStill_nil ?_
                generalize wr.drew = wq at *
                go_wp2_with (first
                  | (go_at_call 19; ((with_reducible refine CW.out.mono ?_); rintro e w1 ⟨rfl, hm1, hb1⟩; have hs1 := hb1.size; have M1 := Lib.hid hm1; have B1 := Lib.hid hb1; have z0 := (hb1.cell (p := ⟨ab, off + k * 4, none⟩) hab).trans c0'; clear hm1 hb1; have CF := Lib.hid (flush_my b _ w1 M1.out hw1 (by omega)); rw [hf] at CF))
                  | (go_at_call 11; ((with_reducible refine CF.out.mono ?_); rintro e w2 ⟨rfl, hm2, hb2⟩; have M2 := Lib.hid hm2; have B2 := Lib.hid hb2; clear hm2 hb2)))
                go_roundw
                case rel => exact ⟨k + 1, ok + 1 + 1, _, by omega, by omega, rfl, by go_num, M2.out, D2.out, (BQ.out.trans B1.out).trans B2.out⟩
                case measure => simp [intOf]; omega
              · have hzb : (ok + 1 + 1 == hh) = false := by simpa using hz
                clear hz
                go_wp2
                refine wp_region_still_tail 13 (by kernel_rfl) (by kernel_rfl) ?_
                change wpStill Try.prog _ wr.drew (fun a' => wpList Try.prog _ _ _ a' wr.drew) _ _
                simp only [List.take_succ_cons, List.take_zero, List.drop_succ_cons, List.drop_zero]
                repeat (first | still_step | still_call (CC.out.mono fun e w' ⟨h1, h2⟩ => ⟨h1, h2.symm⟩))
                refine wpStill_nil ?_
                generalize wr.drew = wq at *
                go_wp2_with (first
                  | (go_at_call 19; ((with_reducible refine CW.out.mono ?_); rintro e w1 ⟨rfl, hm1, hb1⟩; have hs1 := hb1.size; have M1 := Lib.hid hm1; have B1 := Lib.hid hb1; have z0 := (hb1.cell (p := ⟨ab, off + k * 4, none⟩) hab).trans c0'; clear hm1 hb1; have CF := Lib.hid (flush_my b _ w1 M1.out hw1 (by omega)); rw [hf] at CF))
                  | (go_at_call 11; ((with_reducible refine CF.out.mono ?_); rintro e w2 ⟨rfl, hm2, hb2⟩; have M2 := Lib.hid hm2; have B2 := Lib.hid hb2; clear hm2 hb2)))
                go_roundw
                case rel => exact ⟨k + 1, ok + 1 + 1, _, by omega, by omega, rfl, by go_num, M2.out, D2.out, (BQ.out.trans B1.out).trans B2.out⟩
                case measure => simp [intOf]; omega
            · have D2 := Lib.hid hd2
              have hzb : (ok + 1 == hh) = true := by simpa using heq2
              have n1 : ¬ (hh < ok + 1) := by omega
              clear hd2 heq2
              go_wp2
              refine wp_region_still_tail 13 (by kernel_rfl) (by kernel_rfl) ?_
              change wpStill Try.prog _ wr.drew (fun a' => wpList Try.prog _ _ _ a' wr.drew) _ _
              simp only [List.take_succ_cons, List.take_zero, List.drop_succ_cons, List.drop_zero]
              repeat (first | still_step | still_call (CC.out.mono fun e w' ⟨h1, h2⟩ => ⟨h1, h2.symm⟩))
              refine wpStill_nil ?_
              generalize wr.drew = wq at *
              go_wp2_with (first
                | (go_at_call 19; ((with_reducible refine CW.out.mono ?_); rintro e w1 ⟨rfl, hm1, hb1⟩; have hs1 := hb1.size; have M1 := Lib.hid hm1; have B1 := Lib.hid hb1; have z0 := (hb1.cell (p := ⟨ab, off + k * 4, none⟩) hab).trans c0'; clear hm1 hb1; have CF := Lib.hid (flush_my b _ w1 M1.out hw1 (by omega)); rw [hf] at CF))
                | (go_at_call 11; ((with_reducible refine CF.out.mono ?_); rintro e w2 ⟨rfl, hm2, hb2⟩; have M2 := Lib.hid hm2; have B2 := Lib.hid hb2; clear hm2 hb2)))
              go_roundw
              case rel => exact ⟨k + 1, ok + 1, _, by omega, by omega, rfl, by go_num, M2.out, D2.out, (BQ.out.trans B1.out).trans B2.out⟩
              case measure => simp [intOf]; omega
          · have hkb : (kd == 2) = false := by simpa using hkd
            have n1 : ¬ (hh < ok + 1) := by omega
            clear hkd
            by_cases hz : ok + 1 = hh
            · have hzb : (ok + 1 == hh) = true := by simpa using hz
              have HZ := Lib.hid hz
              clear hz
              go_wp2
              refine wp_region_still_tail 13 (by kernel_rfl) (by kernel_rfl) ?_
              change wpStill Try.prog _ wr.drew (fun a' => wpList Try.prog _ _ _ a' wr.drew) _ _
              simp only [List.take_succ_cons, List.take_zero, List.drop_succ_cons, List.drop_zero]
              repeat (first | still_step | still_call (CC.out.mono fun e w' ⟨h1, h2⟩ => ⟨h1, h2.symm⟩))
              refine wpStill_nil ?_
              generalize wr.drew = wq at *
              go_wp2_with (first
                | (go_at_call 19; ((with_reducible refine CW.out.mono ?_); rintro e w1 ⟨rfl, hm1, hb1⟩; have hs1 := hb1.size; have M1 := Lib.hid hm1; have B1 := Lib.hid hb1; have z0 := (hb1.cell (p := ⟨ab, off + k * 4, none⟩) hab).trans c0'; clear hm1 hb1)))
              go_roundw
              case rel => exact ⟨k + 1, ok + 1, _, by omega, by omega, rfl, by go_num, M1.out, D1.out, BQ.out.trans B1.out⟩
              case measure => simp [intOf]; omega
            · have hzb : (ok + 1 == hh) = false := by simpa using hz
              clear hz
              go_wp2
              refine wp_region_still_tail 13 (by kernel_rfl) (by kernel_rfl) ?_
              change wpStill Try.prog _ wr.drew (fun a' => wpList Try.prog _ _ _ a' wr.drew) _ _
              simp only [List.take_succ_cons, List.take_zero, List.drop_succ_cons, List.drop_zero]
              repeat (first | still_step | still_call (CC.out.mono fun e w' ⟨h1, h2⟩ => ⟨h1, h2.symm⟩))
              refine wpStill_nil ?_
              generalize wr.drew = wq at *
              go_wp2_with (first
                | (go_at_call 19; ((with_reducible refine CW.out.mono ?_); rintro e w1 ⟨rfl, hm1, hb1⟩; have hs1 := hb1.size; have M1 := Lib.hid hm1; have B1 := Lib.hid hb1; have z0 := (hb1.cell (p := ⟨ab, off + k * 4, none⟩) hab).trans c0'; clear hm1 hb1)))
              go_roundw
              case rel => exact ⟨k + 1, ok + 1, _, by omega, by omega, rfl, by go_num, M1.out, D1.out, BQ.out.trans B1.out⟩
              case measure => simp [intOf]; omega
        · rw [he] at CW
          generalize (write d ii cs).1 = d1 at *
          clear he
          have D1 := Lib.hid hd1
          have hzb : (ok == hh) = true := by simpa using heq
          have n1 : ¬ (hh < ok) := by omega
          clear hd1 heq
          by_cases hkd : kd = 2
          · subst hkd
            go_wp2
            refine wp_region_still_tail 13 (by kernel_rfl) (by kernel_rfl) ?_
            change wpStill Try.prog _ wr.drew (fun a' => wpList Try.prog _ _ _ a' wr.drew) _ _
            simp only [List.take_succ_cons, List.take_zero, List.drop_succ_cons, List.drop_zero]
            repeat (first | still_step | still_call (CC.out.mono fun e w' ⟨h1, h2⟩ => ⟨h1, h2.symm⟩))
            refine wpStill_nil ?_
            generalize wr.drew = wq at *
            go_wp2_with (first
              | (go_at_call 19; ((with_reducible refine CW.out.mono ?_); rintro e w1 ⟨rfl, hm1, hb1⟩; have hs1 := hb1.size; have M1 := Lib.hid hm1; have B1 := Lib.hid hb1; have z0 := (hb1.cell (p := ⟨ab, off + k * 4, none⟩) hab).trans c0'; clear hm1 hb1)))
            go_roundw
            case rel => exact ⟨k + 1, ok, _, by omega, by omega, rfl, by go_num, M1.out, D1.out, BQ.out.trans B1.out⟩
            case measure => simp [intOf]; omega
          · have hkb : (kd == 2) = false := by simpa using hkd
            clear hkd
            go_wp2
            refine wp_region_still_tail 13 (by kernel_rfl) (by kernel_rfl) ?_
            change wpStill Try.prog _ wr.drew (fun a' => wpList Try.prog _ _ _ a' wr.drew) _ _
            simp only [List.take_succ_cons, List.take_zero, List.drop_succ_cons, List.drop_zero]
            repeat (first | still_step | still_call (CC.out.mono fun e w' ⟨h1, h2⟩ => ⟨h1, h2.symm⟩))
            refine wpStill_nil ?_
            generalize wr.drew = wq at *
            go_wp2_with (first
              | (go_at_call 19; ((with_reducible refine CW.out.mono ?_); rintro e w1 ⟨rfl, hm1, hb1⟩; have hs1 := hb1.size; have M1 := Lib.hid hm1; have B1 := Lib.hid hb1; have z0 := (hb1.cell (p := ⟨ab, off + k * 4, none⟩) hab).trans c0'; clear hm1 hb1)))
            go_roundw
            case rel => exact ⟨k + 1, ok, _, by omega, by omega, rfl, by go_num, M1.out, D1.out, BQ.out.trans B1.out⟩
            case measure => simp [intOf]; omega
      · have hkI : (k : Int) < (acts.length : Int) := by omega
        have hkI2 : ¬ (k : Int) < 40 := by omega
        have hwr : d.writes = ok := DN.out.wr
        have CWs := Lib.hid (writes_any b d wr MY.out.at')
        rw [hwr] at CWs
        have CFw := Lib.hid (few_any A2 ch c2 wr (HC.out.below BB.out) hc)
        have hk20 : (few ch).length ≤ 100000 := by have := few_len ch; omega
        have CCr := Lib.hid (crash_my b d A2 (few ch) c2 wr MY.out (at_few (HC.out.below BB.out)) hk20 (MY.out.apart (at_few HC.out)) hs)
        have hup := up_write (d := d) (few ch) (by have := DN.out.len; omega) (s := ⟨#[120]⟩) (by decide)
        have hcw : d.writes = (crash d (few ch)).writes := rfl
        generalize crash d (few ch) = dc at *
        obtain ⟨u1, u2, u3, u4⟩ := hup
        have hf := up_flush u2 u3
        have hwc : dc.writes < 1000000 := by rw [← hcw]; omega
        go_wp2_with (first
          | (go_at_call 24; ((with_reducible refine CWs.out.mono ?_); rintro e w' ⟨rfl, rfl⟩))
          | (go_at_call 15; ((with_reducible refine CFw.out.mono ?_); rintro e w' ⟨rfl, rfl⟩))
          | (go_at_call 14; ((with_reducible refine CCr.out.mono ?_); rintro e w1 ⟨rfl, hm1, hb1⟩; have hs1 := hb1.size; have M1 := Lib.hid hm1; have B1 := Lib.hid hb1; clear hm1 hb1; have CW := Lib.hid (write_my b dc 0 ⟨#[120]⟩ w1 M1.out hwc (by omega)); rw [u1] at CW))
          | (go_at_call 19; ((with_reducible refine CW.out.mono ?_); rintro e w2 ⟨rfl, hm2, hb2⟩; have hs2 := hb2.size; have M2 := Lib.hid hm2; have B2 := Lib.hid hb2; clear hm2 hb2; have CF := Lib.hid (flush_my b _ w2 M2.out (by omega) (by omega)); rw [hf] at CF))
          | (go_at_call 11; ((with_reducible refine CF.out.mono ?_); rintro e w3 ⟨rfl, hm3, hb3⟩)))
        go_ret
        exact ⟨rfl, ((BB.out.trans B1.out).trans B2.out).trans hb3⟩
    · have hkI : ¬ (k : Int) < (acts.length : Int) := by omega
      have hwr : d.writes = ok := DN.out.wr
      have CWs := Lib.hid (writes_any b d wr MY.out.at')
      rw [hwr] at CWs
      have CFw := Lib.hid (few_any A2 ch c2 wr (HC.out.below BB.out) hc)
      have hk20 : (few ch).length ≤ 100000 := by have := few_len ch; omega
      have CCr := Lib.hid (crash_my b d A2 (few ch) c2 wr MY.out (at_few (HC.out.below BB.out)) hk20 (MY.out.apart (at_few HC.out)) hs)
      have hup := up_write (d := d) (few ch) (by have := DN.out.len; omega) (s := ⟨#[120]⟩) (by decide)
      have hcw : d.writes = (crash d (few ch)).writes := rfl
      generalize crash d (few ch) = dc at *
      obtain ⟨u1, u2, u3, u4⟩ := hup
      have hf := up_flush u2 u3
      have hwc : dc.writes < 1000000 := by rw [← hcw]; omega
      go_wp2_with (first
        | (go_at_call 24; ((with_reducible refine CWs.out.mono ?_); rintro e w' ⟨rfl, rfl⟩))
        | (go_at_call 15; ((with_reducible refine CFw.out.mono ?_); rintro e w' ⟨rfl, rfl⟩))
        | (go_at_call 14; ((with_reducible refine CCr.out.mono ?_); rintro e w1 ⟨rfl, hm1, hb1⟩; have hs1 := hb1.size; have M1 := Lib.hid hm1; have B1 := Lib.hid hb1; clear hm1 hb1; have CW := Lib.hid (write_my b dc 0 ⟨#[120]⟩ w1 M1.out hwc (by omega)); rw [u1] at CW))
        | (go_at_call 19; ((with_reducible refine CW.out.mono ?_); rintro e w2 ⟨rfl, hm2, hb2⟩; have hs2 := hb2.size; have M2 := Lib.hid hm2; have B2 := Lib.hid hb2; clear hm2 hb2; have CF := Lib.hid (flush_my b _ w2 M2.out (by omega) (by omega)); rw [hf] at CF))
        | (go_at_call 11; ((with_reducible refine CF.out.mono ?_); rintro e w3 ⟨rfl, hm3, hb3⟩)))
      go_ret
      exact ⟨rfl, ((BB.out.trans B1.out).trans B2.out).trans hb3⟩
end Dsk
end Go.Proofs.Ytojbanknbgihgaa
