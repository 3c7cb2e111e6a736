/-
  The walk of the statement DiskTwins.
-/
import Derived.Test.YtojbanknbgihgaaTwinMath
import Derived.Deep.CutBlock
namespace Go.Proofs.Ytojbanknbgihgaa
open Go.RowKit
namespace Dsk
open B

theorem My.lower {B B' : Nat} {w : World} {b : Bl} {d : D} (h : My B w b d) (hB : B' ≤ B) : My B' w b d := ⟨h.at', h.inv, Nat.le_trans hB h.g, Nat.le_trans hB h.bs, Nat.le_trans hB h.bm⟩
theorem My.drew {B : Nat} {w : World} {b : Bl} {d : D} (h : My B w b d) : My B w.drew b d := h.below ⟨rfl, rfl, rfl, Nat.le_refl _, fun _ _ => rfl⟩
theorem bel_drew {B : Nat} {w0 w : World} (h : Below B w0 w) : Below B w0 w.drew := ⟨h.os, h.tape, h.output, h.size, h.block⟩
theorem two_cells {w : World} {g : Nat} {p q : Value} {t : TypeId} (h : w.heap[g]? = some (.cells #[p, q] t)) : w.cell? ⟨g, 0, none⟩ = some p ∧ w.cell? ⟨g, 1, none⟩ = some q := by
  unfold World.cell?; rw [h]; simp
theorem crash0 (b : Bl) (d : D) (w : World) (h : DAt w b d) (hi : Inv d) :
    Calls Try.prog 14 #[.pointer (some ⟨b.g, 0, none⟩), .slice none 0 0] w fun e w' => e = .returned (.tuple #[]) ∧ DAt w' b (crash d []) ∧ Tch b.l w w' :=
  crash_any b d none [] 0 w h hi (At.nil _ _) (by simp) (fun _ a ha => by cases ha)
/-- the pointer that is next -/
theorem next_cell {w : World} {g j : Nat} {b1 b2 bx : Bl} {t : TypeId} (h : w.heap[g]? = some (.cells #[.pointer (some ⟨b1.g, 0, none⟩), .pointer (some ⟨b2.g, 0, none⟩)] t)) (hj : j = 0 ∧ bx = b1 ∨ j = 1 ∧ bx = b2) : w.cell? ⟨g, j, none⟩ = some (.pointer (some ⟨bx.g, 0, none⟩)) := by
  obtain ⟨h0, h1⟩ := two_cells h
  rcases hj with ⟨rfl, rfl⟩ | ⟨rfl, rfl⟩
  · exact h0
  · exact h1

set_option maxRecDepth 100000 in
set_option maxHeartbeats 8000000 in
theorem diskTwins_walk (n : Int) (A1 : Option Addr) (bef : List Act) (cap1 : Nat) (A2 : Option Addr) (acts : List Act) (cap2 : Nat) (w : World) (h1 : ActsAt w A1 bef) (h2 : ActsAt w A2 acts) (hl1 : bef.length ≤ maxLen) (hl2 : acts.length ≤ maxLen) :
    Calls Try.prog 6 #[.int .i64 n, .slice A1 bef.length cap1, .slice A2 acts.length cap2] w fun e w' => e = .returned (.bool true) ∧ Below w.heap.size w w' := by
  have CA := Lib.hid (awake_any w)
  obtain ⟨m, hm⟩ : ∃ m : Nat, max 2 (min n 6) = (m : Int) := ⟨(max 2 (min n 6)).toNat, by omega⟩
  have hm2 : 2 ≤ m := by omega
  have hm6 : m ≤ 6 := by omega
  have CN := Lib.hid (fun W => new_my m (m : Int) W rfl hm2 (by omega))
  have HA1 := Lib.hid h1
  have HA2 := Lib.hid h2
  have hlb : bef.length ≤ 9223372036854775807 := by unfold maxLen at hl1; omega
  have hla : acts.length ≤ 9223372036854775807 := by unfold maxLen at hl2; omega
  clear h1 h2 hl1 hl2
  go_enter Try.func6, Try.ntmps6
  go_upto_block 0 with (first
    | (go_at_call 7; ((with_reducible refine CA.out.mono ?_); rintro e w1 ⟨rfl, hb1⟩; have hs1 := hb1.size; have B1 := Lib.hid hb1; clear hb1))
    | (go_at_call 8; ((with_reducible refine (CN.out _).mono ?_); rintro e w2 ⟨b, rfl, hm2, hb2⟩; have hs2 := hb2.size; have M2 := Lib.hid hm2; have B2 := Lib.hid hb2; clear hm2 hb2)))
  have MY : Hid (My w.heap.size w2 b (new m)) := M2.out.lower hs1
  have BB : Hid (Below w.heap.size w w2) := B1.out.trans (B2.out.mono hs1)
  have hnl : (new m).now.length = m := by simp [new]
  have hnw : (new m).writes = 0 := rfl
  clear CA CN B1 B2 M2
  generalize new m = dn at *
  have HNL := Lib.hid hnl
  have HNW := Lib.hid hnw
  clear hnl hnw
  go_cut [8] (fun _ wc => ∃ d : D, My w.heap.size wc b d ∧ d.writes ≤ 20 ∧ d.now.length = m ∧ Below w.heap.size w wc)
  case first =>
    go_wp2_with fail
    go_loopw [8] (fun t8 wr => ∃ (k : Nat) (d : D), k ≤ bef.length ∧ k ≤ 20 ∧ t8 = .int .i64 (k : Int) ∧ My w.heap.size wr b d ∧ d.writes ≤ k ∧ d.now.length = m ∧ Below w.heap.size w wr) (fun t8 _ => bef.length - (intOf t8).toNat)
    case atStart => exact ⟨0, dn, Nat.zero_le _, Nat.zero_le _, rfl, MY.out, by rw [HNW.out]; omega, HNL.out, BB.out⟩
    case round =>
      obtain ⟨k, d, hk, hk2, rfl, hmy, hwr, hnl, hbel⟩ := hrel
      clear MY BB HNL HNW
      have MY := Lib.hid hmy
      have BB := Lib.hid hbel
      have HN := Lib.hid hnl
      have hs := hbel.size
      clear hmy hbel hnl
      by_cases hlt : k < bef.length
      · by_cases hlt2 : k < 20
        · obtain ⟨ab, off, hAe, hab, c0, c1, c2, c3, c4, c5, c6, c7⟩ := (HA1.out.below BB.out) k hlt
          subst hAe
          have CC := Lib.hid (cut_any bef[k].s 256 wr.drew (by omega))
          generalize bef[k].i = ai at *
          generalize bef[k].s = sa at *
          have CW := Lib.hid (write_my b d ai (cutB sa 256) wr.drew MY.out.drew (by omega) hs)
          have hw1 := write_writes d ai (cutB sa 256)
          have HL1 := Lib.hid ((write_len d ai (cutB sa 256)).trans HN.out)
          generalize cutB sa 256 = cs at *
          generalize write d ai cs = r at *
          have BQ := Lib.hid (bel_drew BB.out)
          clear c0 c3 c4 c5
          have hkI : (k : Int) < (bef.length : Int) := by omega
          have hkI2 : (k : Int) < 20 := by omega
          go_wp2
          refine wp_region_still_tail 12 (by kernel_rfl) (by kernel_rfl) ?_
          change wpStill Try.prog _ wr.drew (fun a' => wpList Try.prog _ _ _ a' wr.drew) _ _
          simp only [List.take_succ_cons, List.take_zero, List.drop_succ_cons, List.drop_zero]
          repeat (first | still_step | still_call (CC.out.mono fun e w' ⟨h1, h2⟩ => ⟨h1, h2.symm⟩))
          refine wpStill_nil ?_
          generalize wr.drew = wq at *
          go_wp2_with (go_at_call 19; ((with_reducible refine CW.out.mono ?_); rintro e w1 ⟨rfl, hm1, hb1⟩; have M1 := Lib.hid hm1; have B1 := Lib.hid hb1; clear hm1 hb1))
          go_roundw
          case rel => exact ⟨k + 1, _, by omega, by omega, by go_num, M1.out, by omega, HL1.out, BQ.out.trans B1.out⟩
          case measure => simp [intOf]; omega
        · have hkI : (k : Int) < (bef.length : Int) := by omega
          have hkI2 : ¬ (k : Int) < 20 := by omega
          go_wp2
          go_meet
          case rel => exact ⟨d, MY.out, by omega, HN.out, BB.out⟩
      · have hkI : ¬ (k : Int) < (bef.length : Int) := by omega
        go_wp2
        go_meet
        case rel => exact ⟨d, MY.out, by omega, HN.out, BB.out⟩
  case rest =>
    obtain ⟨d, hmy, hwr, hnl, hbel⟩ := hcut
    have MY0 := Lib.hid hmy
    have HN := Lib.hid hnl
    have BB0 := Lib.hid hbel
    have hs0 := hbel.size
    obtain ⟨l1, l2, l3⟩ := hmy.at'.lts
    have CCl := Lib.hid (clone_any b d wc hmy.at' hmy.inv)
    clear hmy hnl hbel
    go_upto_block 2 with (go_at_call 17; ((with_reducible refine CCl.out.mono ?_); rintro e w3 ⟨b2, rfl, hd2, hg2, hb3⟩; have HD2 := Lib.hid hd2; have HG2 := Lib.hid hg2; have B3 := Lib.hid hb3; clear hd2 hg2 hb3))
    have FAR : Hid (∀ x ∈ b.l, x ∉ b2.l) := fun x hx => by
      have := HG2.out
      simp only [List.mem_cons, List.not_mem_nil, or_false] at hx ⊢
      omega
    have MA : Hid (My w.heap.size w3 b d) := MY0.out.below B3.out
    have MB : Hid (My w.heap.size w3 b2 d) := ⟨HD2.out, MY0.out.inv, by have := HG2.out; omega, by have := HG2.out; omega, by have := HG2.out; omega⟩
    have BB : Hid (Below w.heap.size w w3) := BB0.out.trans (B3.out.mono hs0)
    clear CCl HD2 HG2 B3 MY0 BB0 hs0 l1 l2 l3
    go_cut [10] (fun _ wx => ∃ d : D, My w.heap.size wx b d ∧ My w.heap.size wx b2 d ∧ d.now.length = m ∧ Below w.heap.size w wx)
    case first =>
      go_wp2_with fail
      go_loopw [10] (fun t10 wr => ∃ (k : Nat) (d : D), k ≤ acts.length ∧ k ≤ 40 ∧ t10 = .int .i64 (k : Int) ∧ My w.heap.size wr b d ∧ My w.heap.size wr b2 d ∧ d.writes ≤ 20 + k ∧ d.now.length = m ∧ Below w.heap.size w wr) (fun t10 _ => acts.length - (intOf t10).toNat)
      case atStart => exact ⟨0, d, Nat.zero_le _, Nat.zero_le _, rfl, MA.out, MB.out, by omega, HN.out, BB.out⟩
      case round =>
        obtain ⟨k, d, hk, hk2, rfl, hma, hmb, hwr, hnl, hbel⟩ := hrel
        clear MA MB BB HN
        have MA := Lib.hid hma
        have MB := Lib.hid hmb
        have BB := Lib.hid hbel
        have HN := Lib.hid hnl
        have hs := hbel.size
        obtain ⟨l1, l2, l3⟩ := hma.at'.lts
        obtain ⟨l4, l5, l6⟩ := hmb.at'.lts
        clear hma hmb hbel hnl
        by_cases hlt : k < acts.length
        · by_cases hlt2 : k < 40
          · have hkI : (k : Int) < (acts.length : Int) := by omega
            have hkI2 : (k : Int) < 40 := by omega
            have HI' := Lib.hid (op_inv MA.out.inv (by omega) acts[k])
            have how := op_writes d acts[k]
            have HOL := Lib.hid ((op_len d acts[k]).trans HN.out)
            have HOP : Hid (op d acts[k] = if acts[k].kind = 2 then (flush d).1 else if acts[k].kind = 3 then halt d acts[k].i else if acts[k].kind = 4 then crash d (few acts[k].ch) else (write d acts[k].i (cutB acts[k].s 260)).1) := rfl
            have RS := Lib.hid (Rel.start (op d acts[k]) (MA.out.below ((Below.refl wr.heap.size wr).alloc (Nat.le_refl _) (.cells #[.pointer (some ⟨b.g, 0, none⟩), .pointer (some ⟨b2.g, 0, none⟩)] 24))) (MB.out.below ((Below.refl wr.heap.size wr).alloc (Nat.le_refl _) _)) FAR.out)
            have KS := Lib.hid (heap_last wr (.cells #[.pointer (some ⟨b.g, 0, none⟩), .pointer (some ⟨b2.g, 0, none⟩)] 24) wr.heap.size rfl)
            have BS := Lib.hid (BB.out.alloc hs (.cells #[.pointer (some ⟨b.g, 0, none⟩), .pointer (some ⟨b2.g, 0, none⟩)] 24))
            have gn1 : wr.heap.size ∉ b.l := by simp only [List.mem_cons, List.not_mem_nil, or_false]; omega
            have gn2 : wr.heap.size ∉ b2.l := by simp only [List.mem_cons, List.not_mem_nil, or_false]; omega
            generalize op d acts[k] = d' at *
            go_wp2_with fail
            generalize wr.heap.size = g at *
            clear hs
            generalize wr = wq at *
            go_loopw [66] (fun t66 wr => ∃ j : Nat, j ≤ 2 ∧ t66 = .int .i64 (j : Int) ∧ Rel w.heap.size wr b b2 d d' j ∧ wr.heap[g]? = some (.cells #[.pointer (some ⟨b.g, 0, none⟩), .pointer (some ⟨b2.g, 0, none⟩)] 24) ∧ Below w.heap.size w wr) (fun t66 _ => 2 - (intOf t66).toNat)
            case atStart => exact ⟨0, Nat.zero_le _, rfl, RS.out, KS.out, BS.out⟩
            case round =>
              obtain ⟨j, hj, rfl, hR, hK, hbel⟩ := hrel
              have hs := hbel.size
              by_cases hj2 : j < 2
              · obtain ⟨bx, hor, hmx, hback⟩ := hR.next hj2 HI'.out hK gn1 gn2 hbel hs
                have hcx := next_cell hK hor
                have BK := Lib.hid hback
                have MX := Lib.hid hmx
                obtain ⟨ab, off, hAe, hab, c0, c1, c2, c3, c4, c5, c6, c7⟩ := (HA2.out.below hbel) k hlt
                have h40 := (HA2.out k hlt).elim fun _ h => h.elim fun _ h => h.2.2.2.2.2.2.1
                have H4 := Lib.hid c4
                have H40 := Lib.hid h40
                subst hAe
                clear hback hmx hor hR hK hbel RS KS BS h40 c4 MA MB BB HI' HOL
                generalize acts[k] = a at *
                obtain ⟨kd, ai, sa, ch, cA, cc⟩ := a
                simp only at *
                have hjI : (j : Int) < 2 := by omega
                by_cases e2 : kd = 2
                · subst e2
                  have HE : Hid (d' = (flush d).1) := HOP.out.trans (if_pos rfl)
                  have CF := Lib.hid (flush_any bx d wr MX.out.at' MX.out.inv)
                  generalize flush d = r at *
                  clear HOP c1 c2 c3
                  go_wp2_with (go_at_call 11; ((with_reducible refine CF.out.mono ?_); rintro e w1 ⟨rfl, hd1, ht1⟩; have D1 := Lib.hid hd1; have T1 := Lib.hid ht1; clear hd1 ht1))
                  go_roundw
                  case rel =>
                    obtain ⟨r1, r2, r3⟩ := BK.out w1 (by rw [HE.out]; exact D1.out) T1.out
                    exact ⟨j + 1, by omega, by go_num, r1, r2, r3⟩
                  case measure => simp [intOf]; omega
                · have b2' : (kd == 2) = false := by simpa using e2
                  by_cases e3 : kd = 3
                  · subst e3
                    have HE : Hid (d' = halt d ai) := HOP.out.trans ((if_neg (by decide)).trans (if_pos rfl))
                    have CF := Lib.hid (halt_any bx d ai ai wr MX.out.at' (.inl rfl) c6 c7)
                    generalize halt d ai = r at *
                    clear HOP c2 c3 e2
                    go_wp2_with (go_at_call 13; ((with_reducible refine CF.out.mono ?_); rintro e w1 ⟨rfl, hd1, ht1⟩; have D1 := Lib.hid hd1; have T1 := Lib.hid (ht1.mono (bl_g bx)); clear hd1 ht1))
                    go_roundw
                    case rel =>
                      obtain ⟨r1, r2, r3⟩ := BK.out w1 (by rw [HE.out]; exact D1.out) T1.out
                      exact ⟨j + 1, by omega, by go_num, r1, r2, r3⟩
                    case measure => simp [intOf]; omega
                  · have b3' : (kd == 3) = false := by simpa using e3
                    by_cases e4 : kd = 4
                    · subst e4
                      have HE : Hid (d' = crash d (few ch)) := HOP.out.trans ((if_neg (by decide)).trans ((if_neg (by decide)).trans (if_pos rfl)))
                      have CFw := Lib.hid (few_any cA ch cc wr H4.out c5)
                      have CF := Lib.hid (crash_any bx d cA (few ch) cc wr MX.out.at' MX.out.inv (at_few H4.out) (by have := few_len ch; omega) (MX.out.apart (at_few H40.out)))
                      generalize few ch = fc at *
                      generalize crash d fc = r at *
                      clear HOP c1 c2 e2 e3
                      go_wp2_with (first
                        | (go_at_call 15; ((with_reducible refine CFw.out.mono ?_); rintro e w' ⟨rfl, rfl⟩))
                        | (go_at_call 14; ((with_reducible refine CF.out.mono ?_); rintro e w1 ⟨rfl, hd1, ht1⟩; have D1 := Lib.hid hd1; have T1 := Lib.hid ht1; clear hd1 ht1)))
                      go_roundw
                      case rel =>
                        obtain ⟨r1, r2, r3⟩ := BK.out w1 (by rw [HE.out]; exact D1.out) T1.out
                        exact ⟨j + 1, by omega, by go_num, r1, r2, r3⟩
                      case measure => simp [intOf]; omega
                    · have b4' : (kd == 4) = false := by simpa using e4
                      have HE : Hid (d' = (write d ai (cutB sa 260)).1) := HOP.out.trans ((if_neg e2).trans ((if_neg e3).trans (if_neg e4)))
                      have CC := Lib.hid (cut_any sa 260 wr.drew (by omega))
                      generalize cutB sa 260 = cs at *
                      have CF := Lib.hid (write_any bx d ai cs wr.drew MX.out.drew.at' MX.out.inv (by omega))
                      generalize write d ai cs = r at *
                      have hq : Tch bx.l wr wr.drew := (Tch.refl _ _).drewN 1
                      have HQ := Lib.hid hq
                      clear HOP c3 e2 e3 e4 hq
                      go_wp2_with fail
                      refine wp_region_still_tail 12 (by kernel_rfl) (by kernel_rfl) ?_
                      change wpStill Try.prog _ wr.drew (fun a' => wpList Try.prog _ _ _ a' wr.drew) _ _
                      simp only [List.take_succ_cons, List.take_zero, List.drop_succ_cons, List.drop_zero]
                      repeat (first | still_step | still_call (CC.out.mono fun e w' ⟨h1, h2⟩ => ⟨h1, h2.symm⟩))
                      refine wpStill_nil ?_
                      generalize wr.drew = wz at *
                      go_wp2_with (go_at_call 19; ((with_reducible refine CF.out.mono ?_); rintro e w1 ⟨rfl, hd1, ht1⟩; have D1 := Lib.hid hd1; have T1 := Lib.hid (HQ.out.trans ht1); clear hd1 ht1))
                      go_roundw
                      case rel =>
                        obtain ⟨r1, r2, r3⟩ := BK.out w1 (by rw [HE.out]; exact D1.out) T1.out
                        exact ⟨j + 1, by omega, by go_num, r1, r2, r3⟩
                      case measure => simp [intOf]; omega
              · have hj3 : j = 2 := by omega
                subst hj3
                obtain ⟨r1, r2, _⟩ := hR
                have R1 := Lib.hid r1
                have R2 := Lib.hid r2
                have B1 := Lib.hid hbel
                clear hK hbel r1 r2 RS KS BS
                go_wp2_with fail
                go_roundw
                case rel => exact ⟨k + 1, d', by omega, by omega, by go_num, R1.out, R2.out, by omega, HOL.out, B1.out⟩
                case measure => simp [intOf]; omega
          · have hkI : (k : Int) < (acts.length : Int) := by omega
            have hkI2 : ¬ (k : Int) < 40 := by omega
            go_wp2
            go_meet
            case rel => exact ⟨d, MA.out, MB.out, HN.out, BB.out⟩
        · have hkI : ¬ (k : Int) < (acts.length : Int) := by omega
          go_wp2
          go_meet
          case rel => exact ⟨d, MA.out, MB.out, HN.out, BB.out⟩
    case rest =>
      obtain ⟨d, hma, hmb, hnl, hbel⟩ := hcut
      have MA := Lib.hid hma
      have MB := Lib.hid hmb
      have HN := Lib.hid hnl
      have BB := Lib.hid hbel
      have hs := hbel.size
      obtain ⟨f1, f2⟩ := far3 FAR.out
      have HF1 := Lib.hid f1
      have HF2 := Lib.hid f2
      have CA := Lib.hid (crash0 b d wc hma.at' hma.inv)
      have HCL := Lib.hid ((crash_len d []).trans hnl)
      have hcd : (crash d []).down = false := rfl
      have HCI := Lib.hid (crash_inv hma.inv [])
      have HDI := Lib.hid hma.inv
      have CB := Lib.hid (fun W h => crash0 b2 d W h HDI.out)
      generalize crash d [] = dc at *
      clear hma hmb hnl hbel f1 f2
      go_wp2_with (go_at_call 14; ((with_reducible refine CA.out.mono ?_); rintro e w5 ⟨rfl, hd5, ht5⟩; have D5 := Lib.hid hd5; have T5 := Lib.hid ht5; have CB2 := Lib.hid (CB.out w5 (MB.out.at'.tch ht5 HF1.out)); have B5 := Lib.hid (BB.out.trans (MA.out.low ht5 hs)); have hs5 := B5.out.size; clear hd5 ht5))
      go_wp2_with (go_at_call 14; ((with_reducible refine CB2.out.mono ?_); rintro e w6 ⟨rfl, hd6, ht6⟩; have D6 := Lib.hid hd6; have DA := Lib.hid (D5.out.tch ht6 HF2.out); have B6 := Lib.hid (B5.out.trans ((MB.out.touch (MB.out.at'.tch T5.out HF1.out) HDI.out).low ht6 hs5)); clear hd6 ht6))
      have hmI : (m : Int) ≤ 6 := by omega
      go_loopw [117] (fun t wr => ∃ j : Nat, j ≤ m ∧ t = .int .i64 (j : Int) ∧ wr = w6) (fun t _ => m - (intOf t).toNat)
      case atStart => exact ⟨0, Nat.zero_le _, rfl, rfl⟩
      case round =>
        obtain ⟨j, hj, rfl, rfl⟩ := hrel
        by_cases hj2 : j < m
        · have hjI : (j : Int) < (m : Int) := by omega
          have hre : reach dc (j : Int) = 0 := by
            unfold reach; rw [hcd, if_neg (by decide), HCL.out, if_neg (by omega)]
          have CRa := Lib.hid (read_any b dc (j : Int) wr DA.out)
          have CRb := Lib.hid (read_any b2 dc (j : Int) wr D6.out)
          rw [hre] at CRa CRb
          generalize readS dc (j : Int) = x at *
          clear hre
          go_wp2_with (first
            | (go_at_call 22; ((with_reducible refine CRa.out.mono ?_); rintro e w' ⟨rfl, rfl⟩))
            | (go_at_call 22; ((with_reducible refine CRb.out.mono ?_); rintro e w' ⟨rfl, rfl⟩)))
          go_roundw
          case rel => exact ⟨j + 1, by omega, by go_num, by first | rfl | trivial⟩
          case measure => simp [intOf]; omega
        · have hjI : ¬ (j : Int) < (m : Int) := by omega
          have CWa := Lib.hid (writes_any b dc wr DA.out)
          have CWb := Lib.hid (writes_any b2 dc wr D6.out)
          go_wp2_with (first
            | (go_at_call 24; ((with_reducible refine CWa.out.mono ?_); rintro e w' ⟨rfl, rfl⟩))
            | (go_at_call 24; ((with_reducible refine CWb.out.mono ?_); rintro e w' ⟨rfl, rfl⟩)))
          go_ret
          exact ⟨rfl, B6.out⟩
end Dsk
end Go.Proofs.Ytojbanknbgihgaa
