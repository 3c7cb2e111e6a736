/-
  The walk of the statement RootWhole.
-/
import Derived.Test.YtojbanknbgihgaaDoorRootWb
namespace Go.Proofs.YtojbanknbgihgaaDoor
open Go.RowKit
namespace Rt
open B Dsk
set_option maxRecDepth 100000 in
set_option maxHeartbeats 8000000 in
theorem rootWhole_walk (A : Option Addr) (l : List T) (cap : Nat) (other : ByteArray) (w : World) (hL : Lst w) (hl : TrysAt w A l) (hlen : l.length ≤ maxLen) (hot : other.size ≤ maxLen) :
    Calls Tryd.prog 4 #[.slice A l.length cap, .string other] w fun e w' => e = .returned (.bool true) ∧ Below w.heap.size w w' := by
  have HL := Lib.hid hL
  have HT := Lib.hid hl
  have hs0 := hL.1
  have hlen2 : l.length ≤ 9223372036854775807 := by unfold maxLen at hlen; omega
  have hot2 : other.size ≤ 9223372036854775807 := by unfold maxLen at hot; omega
  have CA := Lib.hid (awake_any w hL)
  have CN := Lib.hid (fun W => new_my 3 3 W rfl (by omega) (by omega))
  have CF0 := Lib.hid (fun W => refFill_any ⟨#[]⟩ W (by decide))
  have W0 := Lib.hid wh_new
  have F0 := Lib.hid found_new
  have hw0 : (new 3).writes = 0 := rfl
  clear hL hl
  generalize new 3 = d0 at *
  go_enter Tryd.func4, Tryd.ntmps4
  go_wp2_with (first
    | (go_at_call 5; ((with_reducible refine CA.out.mono ?_); rintro e w1 ⟨rfl, hb1⟩; have B1 := Lib.hid hb1; have s1 := hb1.size; clear hb1))
    | (go_at_call 6; ((with_reducible refine (CN.out _).mono ?_); rintro e w2 ⟨b, rfl, hm2, hb2⟩; have M2 := Lib.hid (my_lower hm2 s1); have B2 := Lib.hid (B1.out.trans (hb2.mono s1)); clear hm2 hb2))
    | (go_at_call 12; ((with_reducible refine (CF0.out _).mono ?_); rintro e w3 ⟨rfl, hb3⟩; have M3 := Lib.hid (M2.out.below hb3); have B3 := Lib.hid (B2.out.trans (hb3.mono B2.out.size)); clear hb3)))
  have hz0 : 0 ∉ b.l := by
    have h1 := M2.out.g; have h2 := M2.out.bs; have h3 := M2.out.bm
    simp only [List.mem_cons, List.not_mem_nil, or_false]; omega
  have HZ := Lib.hid hz0
  have s03 : w.heap.size ≤ w3.heap.size := B3.out.size
  clear hz0
  go_loopw [6, 7, 8, 9] (fun t6 t7 t8 t9 wr => ∃ (i : Nat) (ml : List R) (nn : Bool) (S : ByteArray) (d : D), i ≤ l.length ∧ i ≤ 14 ∧ t7 = .bool nn ∧ t8 = .string S ∧ t9 = .int .i64 (i : Int) ∧ MayAt w3.heap.size b wr t6 ml ∧ w3.heap.size ≤ wr.heap.size ∧ ml.length ≤ i + 1 ∧ My w.heap.size wr b d ∧ Wh i d ∧ d.writes ≤ 10 * (i : Int) ∧ Found ml nn (newR (n0 d) (n1 d)) ∧ Below w.heap.size w wr) (fun _ _ _ t9 _ => 15 - (intOf t9).toNat)
  case atStart => exact ⟨0, [], true, _, d0, Nat.zero_le _, Nat.zero_le _, rfl, rfl, rfl, MayAt.nil _ (fun x hx => by obtain ⟨l1, l2, l3⟩ := M3.out.at'.lts; simp only [List.mem_cons, List.not_mem_nil, or_false] at hx; omega), Nat.le_refl _, by simp, M3.out, W0.out, by rw [hw0]; simp, F0.out, B3.out⟩
  case round =>
    obtain ⟨i, ml, nn, S, d, hi, hi14, rfl, rfl, rfl, hma, hs3, hml, hmy, hwh, hwr, hfo, hbel⟩ := hrel
    obtain ⟨A6, c6, hv6⟩ := hma.len
    subst hv6
    have MA := Lib.hid hma
    have MY := Lib.hid hmy
    have WH := Lib.hid hwh
    have FO := Lib.hid hfo
    have BB := Lib.hid hbel
    have sb := hbel.size
    have HG : Hid (w.heap.size ≤ b.g ∧ w.heap.size ≤ b.bs ∧ w.heap.size ≤ b.bm) := ⟨hmy.g, hmy.bs, hmy.bm⟩
    have LR := Lib.hid (HL.out.below hbel hs0)
    have co := open_up b d wr hmy.at' hmy.inv LR.out hwh.dn (by rw [hwh.len]; omega)
    clear hma hmy hwh hfo hbel CA CN CF0 W0 F0 B1 B2 B3 M2 M3
    obtain ⟨nr, hnr⟩ : ∃ nr, newR (d.now.getD 0 ⟨#[]⟩) (d.now.getD 1 ⟨#[]⟩) = nr := ⟨_, rfl⟩
    rw [hnr] at co
    have hfo2 := FO.out
    rw [show newR (n0 d) (n1 d) = nr from hnr] at hfo2
    have FO2 := Lib.hid hfo2
    clear hfo2
    obtain ⟨⟨ep, half, page, next, count, height⟩, at_⟩ := nr
    dsimp only [rv] at co
    have CO := Lib.hid co
    have HNR := Lib.hid hnr
    clear co hnr
    have hiI : (i : Int) ≤ (l.length : Int) := by omega
    have hiI2 : (i : Int) ≤ 14 := by omega
    by_cases his : at_ < 0
    · obtain ⟨hn1, hn2⟩ := FO2.out.1 his
      have hd : decide (0 ≤ at_) = false := decide_eq_false (by omega)
      rw [hd] at CO
      injection hn2 with h1 h2 h3 h4 h5 h6
      subst h1 h2 h3 h4 h5 h6 hn1
      clear his hd
      go_upto_region 15 with (go_at_call 7; ((with_reducible refine CO.out.mono ?_); rintro e w4 ⟨gs, rfl, hs4, hg4, hb4⟩; have S4 := Lib.hid hs4; have M4 := Lib.hid (MY.out.below hb4); have A4 := Lib.hid (MA.out.below hb4); have B4 := Lib.hid (BB.out.trans (hb4.mono sb)); have GSN := Lib.hid (not_l MY.out.at' hg4); have so4 := hb4.size; clear hs4 hb4))
      have K5 := Lib.hid (heap_last w4 (.cells #[.int .u64 0, .int .i64 0, .int .i64 0, .int .i64 0, .int .i64 0, .int .i64 0] 24) w4.heap.size rfl)
      have bA := (Below.refl w4.heap.size w4).alloc (Nat.le_refl _) (.cells #[.int .u64 0, .int .i64 0, .int .i64 0, .int .i64 0, .int .i64 0, .int .i64 0] 24)
      have M5 := Lib.hid (M4.out.below bA)
      have A5 := Lib.hid (A4.out.below bA)
      have S5 := Lib.hid (SAt.below S4.out bA)
      have B5 := Lib.hid (B4.out.trans (bA.mono B4.out.size))
      clear bA M4 A4 S4 B4
      generalize hg5 : w4.heap.size = g5 at *
      generalize w4.alloc (.cells #[.int .u64 0, .int .i64 0, .int .i64 0, .int .i64 0, .int .i64 0, .int .i64 0] 24) = w5 at *
      have l5 := blk_lt K5.out
      have so5 : g5 < w5.heap.size := l5
      generalize wr = wo at *
      go_wp2
      go_loopw [14, 72] (fun t14 t72 wx => ∃ k : Nat, k ≤ ml.length ∧ t14 = .bool true ∧ t72 = .int .i64 (k : Int) ∧ Below w5.heap.size w5 wx) (fun _ t72 _ => ml.length - (intOf t72).toNat)
      case atStart => exact ⟨0, Nat.zero_le _, rfl, rfl, Below.refl _ _⟩
      case round =>
        obtain ⟨k, hk, rfl, rfl, hb6⟩ := hrel
        have B6 := Lib.hid hb6
        clear hb6
        by_cases hlt : k < ml.length
        · obtain ⟨g6, rfl, hg6, hl6, x0, x1, x2, x3, x4, x5⟩ := (A5.out.below B6.out).get hlt
          obtain ⟨y0, _⟩ := row6 (blk_below K5.out B6.out l5)
          have hlI : (k : Int) < (ml.length : Int) := by omega
          have hl5 : g5 < wr.heap.size := Nat.lt_of_lt_of_le l5 B6.out.size
          go_wp2
          go_roundw
          case rel => exact ⟨k + 1, by omega, rfl, by go_num, B6.out.alloc B6.out.size _⟩
          case measure => simp [intOf]; omega
        · have hlI : ¬ (k : Int) < (ml.length : Int) := by omega
          have M6 := Lib.hid (M5.out.below B6.out)
          have A6' := Lib.hid (A5.out.below B6.out)
          have S6 := Lib.hid (SAt.below S5.out B6.out)
          have B7 := Lib.hid (B5.out.trans (B6.out.mono B5.out.size))
          have s6 := B7.out.size
          have hsO : wo.heap.size ≤ wr.heap.size := Nat.le_trans so4 (Nat.le_trans (Nat.le_of_lt so5) B6.out.size)
          clear M5 A5 S5 B5 B6 K5 l5
          by_cases hend : i = l.length ∨ i = 14
          · have hbe : ((i : Int) == (l.length : Int)) = true ∨ ((i : Int) == (l.length : Int)) = false ∧ ((i : Int) == 14) = true := by
              rcases hend with h | h
              · left; simp [h]
              · by_cases h2 : i = l.length
                · left; simp [h2]
                · right; exact ⟨by rw [beq_eq_false_iff_ne]; omega, by simp [h]⟩
            rcases hbe with hbe | ⟨hbe, hbf⟩
            · go_wp2
              go_ret
              exact ⟨rfl, B7.out⟩
            · go_wp2
              go_ret
              exact ⟨rfl, B7.out⟩
          · have hil : i < l.length := by omega
            have hi13 : i < 14 := by omega
            have hbe : ((i : Int) == (l.length : Int)) = false := by rw [beq_eq_false_iff_ne]; omega
            have hbf : ((i : Int) == 14) = false := by rw [beq_eq_false_iff_ne]; omega
            have hilI : (i : Int) < (l.length : Int) := by omega
            clear hend
            obtain ⟨ab, off, hAe, hab, t0, t1, t2, t3, t4, t5, t6, t7, hat, hcc⟩ := HT.out i hil
            subst hAe
            generalize l[i] = ti at *
            obtain ⟨⟨rep, rhalf, rpage, rnext, rcount, rheight⟩, after, ch, A7, c7⟩ := ti
            simp only at t0 t1 t2 t3 t4 t5 t6 t7 hat hcc
            have HAT := Lib.hid hat
            have cf := few_any ⟨rep, rhalf, rpage, rnext, rcount, rheight⟩ wr
            have fm := few_may ⟨rep, rhalf, rpage, rnext, rcount, rheight⟩
            have fe : (fewR ⟨rep, rhalf, rpage, rnext, rcount, rheight⟩).ep = rep := rfl
            generalize fewR ⟨rep, rhalf, rpage, rnext, rcount, rheight⟩ = xf at *
            dsimp only [rv] at cf
            obtain ⟨xe, xh, xp, xn, xc, xg⟩ := xf
            simp only at fe cf
            subst fe
            have CFw := Lib.hid cf
            have FM := Lib.hid fm
            have u0 := (B7.out.cell (p := ⟨ab, off + i * 8, none⟩) hab).trans t0
            have u1 := (B7.out.cell (p := ⟨ab, off + i * 8 + 1, none⟩) hab).trans t1
            have u2 := (B7.out.cell (p := ⟨ab, off + i * 8 + 2, none⟩) hab).trans t2
            have u3 := (B7.out.cell (p := ⟨ab, off + i * 8 + 3, none⟩) hab).trans t3
            have u4' := (B7.out.cell (p := ⟨ab, off + i * 8 + 4, none⟩) hab).trans t4
            have u5 := (B7.out.cell (p := ⟨ab, off + i * 8 + 5, none⟩) hab).trans t5
            clear cf fm hat t0 t1 t2 t3 t4 t5
            go_upto_region 27 with (go_at_call 13; ((with_reducible refine CFw.out.mono ?_); rintro e w8 ⟨rfl, hb8⟩; have bX := (Below.refl w8.heap.size w8).alloc (Nat.le_refl _) (.cells #[.int .u64 (xe : Int), .int .i64 xh, .int .i64 xp, .int .i64 xn, .int .i64 xc, .int .i64 xg] 24); have K9 := Lib.hid (heap_last w8 (.cells #[.int .u64 (xe : Int), .int .i64 xh, .int .i64 xp, .int .i64 xn, .int .i64 xc, .int .i64 xg] 24) w8.heap.size rfl); have M9 := Lib.hid ((M6.out.below hb8).below bX); have A9 := Lib.hid ((A6'.out.below hb8).below bX); have S9 := Lib.hid (SAt.below (SAt.below S6.out hb8) bX); have B9 := Lib.hid ((B7.out.trans (hb8.mono s6)).trans (bX.mono (Nat.le_trans s6 hb8.size))); have hs9 : wr.heap.size ≤ w8.heap.size := hb8.size; have G9N := Lib.hid (not_l M6.out.at' hb8.size); clear hb8 bX))
            clear u0 u1 u2 u3 u4' u5 M6 A6' S6 CFw
            generalize w8.alloc (.cells #[.int .u64 (xe : Int), .int .i64 xh, .int .i64 xp, .int .i64 xn, .int .i64 xc, .int .i64 xg] 24) = w9 at *
            have l9 := blk_lt K9.out
            have s89 : w8.heap.size < w9.heap.size := l9
            generalize w8.heap.size = g9 at *
            have s9 := B9.out.size
            obtain ⟨om, hom⟩ : ∃ om : Nat, min (other.size : Int) 9 = (om : Int) := ⟨(min (other.size : Int) 9).toNat, by omega⟩
            have hom9 : om ≤ 9 := by omega
            have homs : om ≤ other.size := by omega
            have hex : (other.extract 0 om).size = om := by rw [ByteArray.size_extract]; omega
            obtain ⟨bt, hbt⟩ : ∃ bt : UInt8, (i : Int) + 1 = (bt.toNat : Int) := ⟨UInt8.ofNat (i + 1), by rw [UInt8.toNat_ofNat']; omega⟩
            have hms : (ByteArray.mk #[bt] ++ other.extract 0 om).size = 1 + om := by rw [cat_size, hex]; rfl
            have CFl := Lib.hid (fun W => refFill_any (ByteArray.mk #[bt] ++ other.extract 0 om) W (by omega))
            have MSZ : Hid ((fill (ByteArray.mk #[bt] ++ other.extract 0 om)).size = 256) := fill_size (by omega)
            generalize fill (ByteArray.mk #[bt] ++ other.extract 0 om) = mark at *
            have hcv : (convert 45 9 (.slice (some ⟨w9.heap.size, 0, none⟩) 1 1)).run Tryd.prog (w9.alloc (.cells #[.int .u8 ((i : Int) + 1)] 5)).drew = .ok (.string ⟨#[bt]⟩) (w9.alloc (.cells #[.int .u8 ((i : Int) + 1)] 5)).drew := conv_one w9.drew bt ((i : Int) + 1) hbt
            clear hbt
            have v1 : IntKind.i64.wrap ((i : Int) + 1) = (i : Int) + 1 := IntWalk.i64_in _ (by omega)
            have v2 : IntKind.u8.wrap ((i : Int) + 1) = (i : Int) + 1 := by show ((i : Int) + 1) % 256 = _; omega
            go_cut [18] (fun t18 wc => t18 = .string mark ∧ Below w9.heap.size w9 wc)
            case first =>
              go_region_with (first | (go_at_call 12; (with_reducible refine (CFl.out _).mono ?_); rintro e w' ⟨rfl, hb⟩; have y : Below w9.heap.size w9 w' := (by
                  have b0 : Below w9.heap.size w9 (w9.alloc (.cells #[.int .u8 ((i : Int) + 1)] 5)).drew := drewN_below ((Below.refl w9.heap.size w9).alloc (Nat.le_refl _) _)
                  exact b0.trans (hb.mono b0.size)); clear hb))
              all_goals (go_wp2; go_meet; case rel => exact ⟨rfl, y⟩)
            case rest =>
              obtain ⟨rfl, y⟩ := hcut
              have Y := Lib.hid y
              clear y hcv v1 v2 CFl
              generalize wc = wy at *
              have s9y := Y.out.size
              have MYY := Lib.hid (M9.out.below Y.out)
              have AYY := Lib.hid (A9.out.below Y.out)
              have SYY := Lib.hid (SAt.below S9.out Y.out)
              have KYY := Lib.hid (blk_below K9.out Y.out l9)
              have BYY := Lib.hid (B9.out.trans (Y.out.mono s9))
              have sY := BYY.out.size
              clear M9 A9 S9 K9 B9 Y
              have hmk := write_mark WH.out MSZ.out
              have cw := write_any b d 2 mark wy MYY.out.at' MYY.out.inv (by have := hwr; omega)
              rw [hmk] at cw
              dsimp only at cw
              have CW := Lib.hid cw
              obtain ⟨v, hv⟩ : ∃ v : Int, max (-1) (min after 9) = v := ⟨_, rfl⟩
              have hv0 : -1 ≤ v := by clear hml hwr; omega
              have hv9 : v ≤ 9 := by clear hml hwr; omega
              clear cw hmk
              go_upto_region 30 with (first
                | (go_at_call 14; ((with_reducible refine CW.out.mono ?_); rintro e wa ⟨rfl, hda, hta⟩; have TA := Lib.hid hta; have CH := Lib.hid (halt_any b (marked d mark) v v wa hda (.inl rfl) (by omega) (by omega)); have u6 := ((MYY.out.low hta sY).cell (p := ⟨ab, off + i * 8 + 6, none⟩) hab).trans ((BYY.out.cell (p := ⟨ab, off + i * 8 + 6, none⟩) hab).trans t6); clear hda hta))
                | (go_at_call 11; ((with_reducible refine CH.out.mono ?_); rintro e wb ⟨rfl, hdb, htb⟩; have DB := Lib.hid hdb; have TB := Lib.hid (TA.out.trans (htb.mono (bl_g b))); clear hdb htb)))
              clear u6 CH CW TA hv hv0 hv9
              have BB2 := Lib.hid (BYY.out.trans (MYY.out.low TB.out sY))
              have sB := BB2.out.size
              have sYB := TB.out.size
              have SB := Lib.hid (show SAt wb gs b from (TB.out.block gs (blk_lt SYY.out) GSN.out).trans SYY.out)
              have KB : Hid (wb.heap[g9]? = some (.cells #[.int .u64 (xe : Int), .int .i64 xh, .int .i64 xp, .int .i64 xn, .int .i64 xc, .int .i64 xg] 24)) := (TB.out.block g9 (blk_lt KYY.out) G9N.out).trans KYY.out
              have AB := Lib.hid (AYY.out.tch TB.out (fun x hx => hx))
              have hk20 : (Dsk.few ch).length ≤ 100000 := by have := few_len ch; omega
              obtain ⟨⟨Xe, Xh, Xp, Xn, Xc, Xg⟩, dP, er, cp, hIP, hW1, hwr1, hcase⟩ := pub_round WH.out (show i + 1 ≤ 15 by omega) (by have := hwr; omega) MSZ.out ⟨xe, xh, xp, xn, xc, xg⟩ FM.out v b gs wb DB.out SB.out (HL.out.below BB2.out hs0) HZ.out GSN.out (Dsk.few ch) ml _ FO.out
              have HIP := Lib.hid hIP
              have HW1 := Lib.hid hW1
              have HWR1 := Lib.hid hwr1
              have CAS := Lib.hid hcase
              obtain ⟨k0, k1, k2, k3, k4, k5, _⟩ := row6 KB.out
              clear hIP hW1 hwr1 hcase MYY SYY KYY AYY DB SB
              have sy3 : w3.heap.size ≤ wb.heap.size := Nat.le_trans (Nat.le_trans hs3 (Nat.le_trans hsO (Nat.le_trans hs9 (Nat.le_of_lt s89)))) (Nat.le_trans s9y sYB)
              have LOW := AB.out.low
              have hcrash : ∀ W, Below w.heap.size w W → DAt W b dP → Calls Tryd.prog 15 #[.pointer (some ⟨b.g, 0, none⟩), .slice A7 (Dsk.few ch).length c7] W fun e w' => e = .returned (.tuple #[]) ∧ DAt w' b (crash dP (Dsk.few ch)) ∧ Tch b.l W w' := fun W hb hd =>
                crash_any b dP A7 (Dsk.few ch) c7 W hd HIP.out (at_few (HAT.out.below hb)) hk20 (MY.out.apart (at_few HAT.out))
              have hfew : ∀ W, Below w.heap.size w W → Calls Tryd.prog 16 #[.slice A7 ch.length c7] W fun e w' => e = .returned (.slice A7 (Dsk.few ch).length c7) ∧ W = w' := fun W hb => Dsk.few_any A7 ch c7 W (HAT.out.below hb) hcc
              have u7 : ∀ W, Below w.heap.size w W → W.cell? ⟨ab, off + i * 8 + 7, none⟩ = some (.slice A7 ch.length c7) := fun W hb => (hb.cell (p := ⟨ab, off + i * 8 + 7, none⟩) hab).trans t7
              have HCR := Lib.hid hcrash
              have HFW := Lib.hid hfew
              have U7 := Lib.hid u7
              clear hcrash hfew u7
              rcases CAS.out with ⟨rfl, hF⟩ | ⟨rfl, hF, h2⟩
              · have HF := Lib.hid hF
                rw [if_neg ne60] at cp
                dsimp only [rv, R0] at cp
                have CP := Lib.hid cp
                clear cp hF CAS
                go_upto_region 31 with (go_at_call 9; ((with_reducible refine CP.out.mono ?_); rintro e wp ⟨rfl, hdp, htp⟩; have DP := Lib.hid hdp; have TP := Lib.hid htp; clear hdp htp))
                have tq : Tch b.l wb (wp.alloc (.cells #[.int .u64 0, .int .i64 0, .int .i64 0, .int .i64 0, .int .i64 0, .int .i64 0] 24)) := TP.out.alloc _
                have bq := (Below.refl wp.heap.size wp).alloc (Nat.le_refl _) (.cells #[.int .u64 0, .int .i64 0, .int .i64 0, .int .i64 0, .int .i64 0, .int .i64 0] 24)
                have TQ := Lib.hid tq
                have DQ := Lib.hid (DP.out.below bq)
                have AQ := Lib.hid (AB.out.tch tq (fun x hx => hx))
                have KQ : Hid ((wp.alloc (.cells #[.int .u64 0, .int .i64 0, .int .i64 0, .int .i64 0, .int .i64 0, .int .i64 0] 24)).heap[g9]? = some (.cells #[.int .u64 (xe : Int), .int .i64 xh, .int .i64 xp, .int .i64 xn, .int .i64 xc, .int .i64 xg] 24)) := (tq.block g9 (blk_lt KB.out) G9N.out).trans KB.out
                clear k0 k1 k2 k3 k4 k5 tq bq DP TP KB AB CP
                generalize wp.alloc (.cells #[.int .u64 0, .int .i64 0, .int .i64 0, .int .i64 0, .int .i64 0, .int .i64 0] 24) = wq at *
                obtain ⟨k0, k1, k2, k3, k4, k5, _⟩ := row6 KQ.out
                have sQ := TQ.out.size
                obtain ⟨i0, hi0, hz0, hz1, hz2⟩ := info_parts rinfo6
                have bX := (Below.refl wq.heap.size wq).alloc (Nat.le_refl _) (.cells #[.int .u64 (xe : Int), .int .i64 xh, .int .i64 xp, .int .i64 xn, .int .i64 xc, .int .i64 xg] 24)
                have TX := Lib.hid (TQ.out.alloc (.cells #[.int .u64 (xe : Int), .int .i64 xh, .int .i64 xp, .int .i64 xn, .int .i64 xc, .int .i64 xg] 24))
                have DX := Lib.hid (DQ.out.below bX)
                have AX := Lib.hid (AQ.out.below bX)
                have CX := Lib.hid (rc_new wq ⟨xe, xh, xp, xn, xc, xg⟩ wq.heap.size rfl)
                clear bX
                go_upto_region 38 with (at_builtin; refine wpList_append_own _ rfl _ _ 39 rfl w3.heap.size 24 i0 _ 6 48 Tryd.underlying39 hi0 hz0 hz1 hz2 rfl (by decide) _ _ _ rfl AX.out.own ⟨wq.heap.size, 0, none⟩ 1 1 (rc ⟨xe, xh, xp, xn, xc, xg⟩) rfl rfl CX.out ?c2 ?c3 ?c4 ?c5 ?_)
                case c2 => exact rc_one _
                case c3 => unfold maxLen; omega
                case c4 => omega
                case c5 => exact Nat.le_trans sy3 (Nat.le_trans sQ (by simp))
                · intro v' w1 hown' hgrow _
                  have bG : Below w3.heap.size _ w1 := (Below.refl w3.heap.size _).grown hgrow (Nat.le_trans sy3 (Nat.le_trans sQ (by simp))) (fun k hk => (AX.out.own.lt k hk).1)
                  have BX1 := Lib.hid ((BB2.out.trans (low_b HG.out TX.out sB)).trans (bG.mono s03))
                  have D1 := Lib.hid (dat_low DX.out LOW bG)
                  have M1 := Lib.hid (may_more hown' LOW)
                  have s13 : w3.heap.size ≤ w1.heap.size := Nat.le_trans (Nat.le_trans sy3 (Nat.le_trans sQ (by simp))) bG.size
                  have CC := Lib.hid (HCR.out w1 BX1.out D1.out)
                  have CFW2 := Lib.hid (HFW.out w1 BX1.out)
                  have y7 := U7.out w1 BX1.out
                  clear hown' hgrow bG CX AX DX TX
                  go_wp2_with (first
                    | (go_at_call 16; ((with_reducible refine CFW2.out.mono ?_); rintro e w' ⟨rfl, rfl⟩))
                    | (go_at_call 15; ((with_reducible refine CC.out.mono ?_); rintro e w2' ⟨rfl, hd2, ht2⟩; have D2 := Lib.hid hd2; have T2 := Lib.hid ht2; clear hd2 ht2)))
                  go_roundw
                  case rel => exact ⟨i + 1, ml ++ [⟨xe, xh, xp, xn, xc, xg⟩], _, S, crash dP (Dsk.few ch), hil, by omega, rfl, rfl, by go_num, M1.out.tch T2.out (fun x hx => hx), Nat.le_trans s13 T2.out.size, by rw [List.length_append]; simp only [List.length_singleton]; omega, ⟨D2.out, HW1.out.inv, HG.out.1, HG.out.2.1, HG.out.2.2⟩, HW1.out, by have := HWR1.out; omega, HF.out, BX1.out.trans (low_b HG.out T2.out BX1.out.size)⟩
                  case measure => simp [intOf]; omega
              · have HF := Lib.hid hF
                have H2 := Lib.hid h2
                rw [if_pos rfl] at cp
                dsimp only [rv] at cp
                have CP := Lib.hid cp
                clear cp hF h2 CAS
                go_upto_region 31 with (go_at_call 9; ((with_reducible refine CP.out.mono ?_); rintro e wp ⟨rfl, hdp, htp⟩; have DP := Lib.hid hdp; have TP := Lib.hid htp; clear hdp htp))
                have tq : Tch b.l wb (wp.alloc (.cells #[.int .u64 (Xe : Int), .int .i64 Xh, .int .i64 Xp, .int .i64 Xn, .int .i64 Xc, .int .i64 Xg] 24)) := TP.out.alloc _
                have bq := (Below.refl wp.heap.size wp).alloc (Nat.le_refl _) (.cells #[.int .u64 (Xe : Int), .int .i64 Xh, .int .i64 Xp, .int .i64 Xn, .int .i64 Xc, .int .i64 Xg] 24)
                have TQ := Lib.hid tq
                have DQ := Lib.hid (DP.out.below bq)
                have KQ := Lib.hid (heap_last wp (.cells #[.int .u64 (Xe : Int), .int .i64 Xh, .int .i64 Xp, .int .i64 Xn, .int .i64 Xc, .int .i64 Xg] 24) wp.heap.size rfl)
                clear k0 k1 k2 k3 k4 k5 tq bq DP TP KB AB CP
                generalize wp.heap.size = gq at *
                generalize wp.alloc (.cells #[.int .u64 (Xe : Int), .int .i64 Xh, .int .i64 Xp, .int .i64 Xn, .int .i64 Xc, .int .i64 Xg] 24) = wq at *
                obtain ⟨k0, k1, k2, k3, k4, k5, _⟩ := row6 KQ.out
                have sQ := TQ.out.size
                have bX := (Below.refl wq.heap.size wq).alloc (Nat.le_refl _) (.cells #[.int .u64 (Xe : Int), .int .i64 Xh, .int .i64 Xp, .int .i64 Xn, .int .i64 Xc, .int .i64 Xg] 24)
                have TX := TQ.out.alloc (.cells #[.int .u64 (Xe : Int), .int .i64 Xh, .int .i64 Xp, .int .i64 Xn, .int .i64 Xc, .int .i64 Xg] 24)
                have DX := Lib.hid (DQ.out.below bX)
                have M1 := Lib.hid (may_one (b := b) wq ⟨Xe, Xh, Xp, Xn, Xc, Xg⟩ (Nat.le_trans sy3 sQ) LOW)
                have BX1 := Lib.hid (BB2.out.trans (low_b HG.out TX sB))
                have s13 : w3.heap.size ≤ (wq.alloc (.cells #[.int .u64 (Xe : Int), .int .i64 Xh, .int .i64 Xp, .int .i64 Xn, .int .i64 Xc, .int .i64 Xg] 24)).heap.size := Nat.le_trans sy3 TX.size
                have CC := Lib.hid (HCR.out _ BX1.out DX.out)
                have CFW2 := Lib.hid (HFW.out _ BX1.out)
                have y7 := U7.out _ BX1.out
                have hrr : reach (crash dP (Dsk.few ch)) 2 = 0 := by
                  have h3 := HW1.out.len
                  unfold reach
                  rw [if_neg (by rw [HW1.out.dn]; decide), if_neg (by rw [h3]; omega)]
                have hrs : readS (crash dP (Dsk.few ch)) 2 = mark := by
                  unfold readS
                  rw [if_pos hrr]
                  exact H2.out
                have HRD : Hid (∀ W, DAt W b (crash dP (Dsk.few ch)) → Calls Tryd.prog 17 #[.pointer (some ⟨b.g, 0, none⟩), .int .i64 2] W fun e w' => e = .returned (.tuple #[.string mark, .int .i64 0]) ∧ W = w') := fun W hd => by
                  have := read_any b (crash dP (Dsk.few ch)) 2 W hd
                  rw [hrr, hrs] at this
                  exact this
                clear bX TX hrr hrs DQ
                go_wp2_with (first
                  | (go_at_call 16; ((with_reducible refine CFW2.out.mono ?_); rintro e w' ⟨rfl, rfl⟩))
                  | (go_at_call 15; ((with_reducible refine CC.out.mono ?_); rintro e w2' ⟨rfl, hd2, ht2⟩; have D2 := Lib.hid hd2; have T2 := Lib.hid ht2; have CRD := Lib.hid (HRD.out _ hd2); clear hd2 ht2))
                  | (go_at_call 17; ((with_reducible refine CRD.out.mono ?_); rintro e w' ⟨rfl, rfl⟩)))
                go_roundw
                case rel => exact ⟨i + 1, [⟨Xe, Xh, Xp, Xn, Xc, Xg⟩], false, mark, crash dP (Dsk.few ch), hil, by omega, rfl, rfl, by go_num, M1.out.tch T2.out (fun x hx => hx), Nat.le_trans s13 T2.out.size, by simp only [List.length_singleton]; omega, ⟨D2.out, HW1.out.inv, HG.out.1, HG.out.2.1, HG.out.2.2⟩, HW1.out, by have := HWR1.out; omega, HF.out, BX1.out.trans (low_b HG.out T2.out BX1.out.size)⟩
                case measure => simp [intOf]; omega
    · obtain ⟨y, hy, hye⟩ := FO2.out.2 (show 0 ≤ at_ by omega)
      obtain ⟨kf, hkf, hyk⟩ := List.mem_iff_getElem.mp hy
      subst hyk
      injection hye with _ q1 q2 q3 q4 q5
      have Q1 := Lib.hid q1
      have Q2 := Lib.hid q2
      have Q3 := Lib.hid q3
      have Q4 := Lib.hid q4
      have Q5 := Lib.hid q5
      have hd : decide (0 ≤ at_) = true := decide_eq_true (by omega)
      rw [hd] at CO
      clear his hd hy q1 q2 q3 q4 q5 FO2 HNR
      go_upto_region 15 with (go_at_call 7; ((with_reducible refine CO.out.mono ?_); rintro e w4 ⟨gs, rfl, hs4, hg4, hb4⟩; have S4 := Lib.hid hs4; have M4 := Lib.hid (MY.out.below hb4); have A4 := Lib.hid (MA.out.below hb4); have B4 := Lib.hid (BB.out.trans (hb4.mono sb)); have GSN := Lib.hid (not_l MY.out.at' hg4); have so4 := hb4.size; clear hs4 hb4))
      have K5 := Lib.hid (heap_last w4 (.cells #[.int .u64 (ep : Int), .int .i64 half, .int .i64 page, .int .i64 next, .int .i64 count, .int .i64 height] 24) w4.heap.size rfl)
      have bA := (Below.refl w4.heap.size w4).alloc (Nat.le_refl _) (.cells #[.int .u64 (ep : Int), .int .i64 half, .int .i64 page, .int .i64 next, .int .i64 count, .int .i64 height] 24)
      have M5 := Lib.hid (M4.out.below bA)
      have A5 := Lib.hid (A4.out.below bA)
      have S5 := Lib.hid (SAt.below S4.out bA)
      have B5 := Lib.hid (B4.out.trans (bA.mono B4.out.size))
      clear bA M4 A4 S4 B4
      generalize hg5 : w4.heap.size = g5 at *
      generalize w4.alloc (.cells #[.int .u64 (ep : Int), .int .i64 half, .int .i64 page, .int .i64 next, .int .i64 count, .int .i64 height] 24) = w5 at *
      have l5 := blk_lt K5.out
      have so5 : g5 < w5.heap.size := l5
      generalize wr = wo at *
      go_wp2
      go_loopw [14, 72] (fun t14 t72 wx => ∃ (k : Nat) (fo : Bool), k ≤ ml.length ∧ t14 = .bool fo ∧ t72 = .int .i64 (k : Int) ∧ (kf < k → fo = true) ∧ Below w5.heap.size w5 wx) (fun _ t72 _ => ml.length - (intOf t72).toNat)
      case atStart => exact ⟨0, false, Nat.zero_le _, rfl, rfl, fun h => by omega, Below.refl _ _⟩
      case round =>
        obtain ⟨k, fo, hk, rfl, rfl, hfo, hb6⟩ := hrel
        have B6 := Lib.hid hb6
        clear hb6
        by_cases hlt : k < ml.length
        · obtain ⟨g6, rfl, hg6, hl6, x0, x1, x2, x3, x4, x5⟩ := (A5.out.below B6.out).get hlt
          obtain ⟨y0, y1, y2, y3, y4, y5, _⟩ := row6 (blk_below K5.out B6.out l5)
          have hlI : (k : Int) < (ml.length : Int) := by omega
          have hl5 : g5 < wr.heap.size := Nat.lt_of_lt_of_le l5 B6.out.size
          cases fo with
          | true =>
            clear hfo
            go_wp2
            go_roundw
            case rel => exact ⟨k + 1, true, by omega, rfl, by go_num, fun _ => rfl, B6.out.alloc B6.out.size _⟩
            case measure => simp [intOf]; omega
          | false =>
            have hkk : k ≤ kf := by
              rcases Nat.lt_or_ge kf k with h | h
              · have := hfo h; cases this
              · exact h
            clear hfo
            by_cases hke : k = kf
            · subst hke
              rw [Q1.out] at x1
              rw [Q2.out] at x2
              rw [Q3.out] at x3
              rw [Q4.out] at x4
              rw [Q5.out] at x5
              go_wp2
              go_roundw
              case rel => exact ⟨k + 1, true, by omega, rfl, by go_num, fun _ => rfl, B6.out.alloc B6.out.size _⟩
              case measure => simp [intOf]; omega
            · go_wp2
              all_goals
                go_roundw
                case rel => exact ⟨k + 1, _, by omega, rfl, by go_num, fun h => by omega, B6.out.alloc B6.out.size _⟩
                case measure => simp [intOf]; omega
        · have hlI : ¬ (k : Int) < (ml.length : Int) := by omega
          have hft := hfo (by omega)
          subst hft
          clear hfo
          have M6 := Lib.hid (M5.out.below B6.out)
          have A6' := Lib.hid (A5.out.below B6.out)
          have S6 := Lib.hid (SAt.below S5.out B6.out)
          have B7 := Lib.hid (B5.out.trans (B6.out.mono B5.out.size))
          have s6 := B7.out.size
          have hsO : wo.heap.size ≤ wr.heap.size := Nat.le_trans so4 (Nat.le_trans (Nat.le_of_lt so5) B6.out.size)
          clear M5 A5 S5 B5 B6 K5 l5
          by_cases hend : i = l.length ∨ i = 14
          · have hbe : ((i : Int) == (l.length : Int)) = true ∨ ((i : Int) == (l.length : Int)) = false ∧ ((i : Int) == 14) = true := by
              rcases hend with h | h
              · left; simp [h]
              · by_cases h2 : i = l.length
                · left; simp [h2]
                · right; exact ⟨by rw [beq_eq_false_iff_ne]; omega, by simp [h]⟩
            rcases hbe with hbe | ⟨hbe, hbf⟩
            · go_wp2
              go_ret
              exact ⟨rfl, B7.out⟩
            · go_wp2
              go_ret
              exact ⟨rfl, B7.out⟩
          · have hil : i < l.length := by omega
            have hi13 : i < 14 := by omega
            have hbe : ((i : Int) == (l.length : Int)) = false := by rw [beq_eq_false_iff_ne]; omega
            have hbf : ((i : Int) == 14) = false := by rw [beq_eq_false_iff_ne]; omega
            have hilI : (i : Int) < (l.length : Int) := by omega
            clear hend
            obtain ⟨ab, off, hAe, hab, t0, t1, t2, t3, t4, t5, t6, t7, hat, hcc⟩ := HT.out i hil
            subst hAe
            generalize l[i] = ti at *
            obtain ⟨⟨rep, rhalf, rpage, rnext, rcount, rheight⟩, after, ch, A7, c7⟩ := ti
            simp only at t0 t1 t2 t3 t4 t5 t6 t7 hat hcc
            have HAT := Lib.hid hat
            have cf := few_any ⟨rep, rhalf, rpage, rnext, rcount, rheight⟩ wr
            have fm := few_may ⟨rep, rhalf, rpage, rnext, rcount, rheight⟩
            have fe : (fewR ⟨rep, rhalf, rpage, rnext, rcount, rheight⟩).ep = rep := rfl
            generalize fewR ⟨rep, rhalf, rpage, rnext, rcount, rheight⟩ = xf at *
            dsimp only [rv] at cf
            obtain ⟨xe, xh, xp, xn, xc, xg⟩ := xf
            simp only at fe cf
            subst fe
            have CFw := Lib.hid cf
            have FM := Lib.hid fm
            have u0 := (B7.out.cell (p := ⟨ab, off + i * 8, none⟩) hab).trans t0
            have u1 := (B7.out.cell (p := ⟨ab, off + i * 8 + 1, none⟩) hab).trans t1
            have u2 := (B7.out.cell (p := ⟨ab, off + i * 8 + 2, none⟩) hab).trans t2
            have u3 := (B7.out.cell (p := ⟨ab, off + i * 8 + 3, none⟩) hab).trans t3
            have u4' := (B7.out.cell (p := ⟨ab, off + i * 8 + 4, none⟩) hab).trans t4
            have u5 := (B7.out.cell (p := ⟨ab, off + i * 8 + 5, none⟩) hab).trans t5
            clear cf fm hat t0 t1 t2 t3 t4 t5
            go_upto_region 27 with (go_at_call 13; ((with_reducible refine CFw.out.mono ?_); rintro e w8 ⟨rfl, hb8⟩; have bX := (Below.refl w8.heap.size w8).alloc (Nat.le_refl _) (.cells #[.int .u64 (xe : Int), .int .i64 xh, .int .i64 xp, .int .i64 xn, .int .i64 xc, .int .i64 xg] 24); have K9 := Lib.hid (heap_last w8 (.cells #[.int .u64 (xe : Int), .int .i64 xh, .int .i64 xp, .int .i64 xn, .int .i64 xc, .int .i64 xg] 24) w8.heap.size rfl); have M9 := Lib.hid ((M6.out.below hb8).below bX); have A9 := Lib.hid ((A6'.out.below hb8).below bX); have S9 := Lib.hid (SAt.below (SAt.below S6.out hb8) bX); have B9 := Lib.hid ((B7.out.trans (hb8.mono s6)).trans (bX.mono (Nat.le_trans s6 hb8.size))); have hs9 : wr.heap.size ≤ w8.heap.size := hb8.size; have G9N := Lib.hid (not_l M6.out.at' hb8.size); clear hb8 bX))
            clear u0 u1 u2 u3 u4' u5 M6 A6' S6 CFw
            generalize w8.alloc (.cells #[.int .u64 (xe : Int), .int .i64 xh, .int .i64 xp, .int .i64 xn, .int .i64 xc, .int .i64 xg] 24) = w9 at *
            have l9 := blk_lt K9.out
            have s89 : w8.heap.size < w9.heap.size := l9
            generalize w8.heap.size = g9 at *
            have s9 := B9.out.size
            obtain ⟨om, hom⟩ : ∃ om : Nat, min (other.size : Int) 9 = (om : Int) := ⟨(min (other.size : Int) 9).toNat, by omega⟩
            have hom9 : om ≤ 9 := by omega
            have homs : om ≤ other.size := by omega
            have hex : (other.extract 0 om).size = om := by rw [ByteArray.size_extract]; omega
            obtain ⟨bt, hbt⟩ : ∃ bt : UInt8, (i : Int) + 1 = (bt.toNat : Int) := ⟨UInt8.ofNat (i + 1), by rw [UInt8.toNat_ofNat']; omega⟩
            have hms : (ByteArray.mk #[bt] ++ other.extract 0 om).size = 1 + om := by rw [cat_size, hex]; rfl
            have CFl := Lib.hid (fun W => refFill_any (ByteArray.mk #[bt] ++ other.extract 0 om) W (by omega))
            have MSZ : Hid ((fill (ByteArray.mk #[bt] ++ other.extract 0 om)).size = 256) := fill_size (by omega)
            generalize fill (ByteArray.mk #[bt] ++ other.extract 0 om) = mark at *
            have hcv : (convert 45 9 (.slice (some ⟨w9.heap.size, 0, none⟩) 1 1)).run Tryd.prog (w9.alloc (.cells #[.int .u8 ((i : Int) + 1)] 5)).drew = .ok (.string ⟨#[bt]⟩) (w9.alloc (.cells #[.int .u8 ((i : Int) + 1)] 5)).drew := conv_one w9.drew bt ((i : Int) + 1) hbt
            clear hbt
            have v1 : IntKind.i64.wrap ((i : Int) + 1) = (i : Int) + 1 := IntWalk.i64_in _ (by omega)
            have v2 : IntKind.u8.wrap ((i : Int) + 1) = (i : Int) + 1 := by show ((i : Int) + 1) % 256 = _; omega
            go_cut [18] (fun t18 wc => t18 = .string mark ∧ Below w9.heap.size w9 wc)
            case first =>
              go_region_with (first | (go_at_call 12; (with_reducible refine (CFl.out _).mono ?_); rintro e w' ⟨rfl, hb⟩; have y : Below w9.heap.size w9 w' := (by
                  have b0 : Below w9.heap.size w9 (w9.alloc (.cells #[.int .u8 ((i : Int) + 1)] 5)).drew := drewN_below ((Below.refl w9.heap.size w9).alloc (Nat.le_refl _) _)
                  exact b0.trans (hb.mono b0.size)); clear hb))
              all_goals (go_wp2; go_meet; case rel => exact ⟨rfl, y⟩)
            case rest =>
              obtain ⟨rfl, y⟩ := hcut
              have Y := Lib.hid y
              clear y hcv v1 v2 CFl
              generalize wc = wy at *
              have s9y := Y.out.size
              have MYY := Lib.hid (M9.out.below Y.out)
              have AYY := Lib.hid (A9.out.below Y.out)
              have SYY := Lib.hid (SAt.below S9.out Y.out)
              have KYY := Lib.hid (blk_below K9.out Y.out l9)
              have BYY := Lib.hid (B9.out.trans (Y.out.mono s9))
              have sY := BYY.out.size
              clear M9 A9 S9 K9 B9 Y
              have hmk := write_mark WH.out MSZ.out
              have cw := write_any b d 2 mark wy MYY.out.at' MYY.out.inv (by have := hwr; omega)
              rw [hmk] at cw
              dsimp only at cw
              have CW := Lib.hid cw
              obtain ⟨v, hv⟩ : ∃ v : Int, max (-1) (min after 9) = v := ⟨_, rfl⟩
              have hv0 : -1 ≤ v := by clear hml hwr; omega
              have hv9 : v ≤ 9 := by clear hml hwr; omega
              clear cw hmk
              go_upto_region 30 with (first
                | (go_at_call 14; ((with_reducible refine CW.out.mono ?_); rintro e wa ⟨rfl, hda, hta⟩; have TA := Lib.hid hta; have CH := Lib.hid (halt_any b (marked d mark) v v wa hda (.inl rfl) (by omega) (by omega)); have u6 := ((MYY.out.low hta sY).cell (p := ⟨ab, off + i * 8 + 6, none⟩) hab).trans ((BYY.out.cell (p := ⟨ab, off + i * 8 + 6, none⟩) hab).trans t6); clear hda hta))
                | (go_at_call 11; ((with_reducible refine CH.out.mono ?_); rintro e wb ⟨rfl, hdb, htb⟩; have DB := Lib.hid hdb; have TB := Lib.hid (TA.out.trans (htb.mono (bl_g b))); clear hdb htb)))
              clear u6 CH CW TA hv hv0 hv9
              have BB2 := Lib.hid (BYY.out.trans (MYY.out.low TB.out sY))
              have sB := BB2.out.size
              have sYB := TB.out.size
              have SB := Lib.hid (show SAt wb gs b from (TB.out.block gs (blk_lt SYY.out) GSN.out).trans SYY.out)
              have KB : Hid (wb.heap[g9]? = some (.cells #[.int .u64 (xe : Int), .int .i64 xh, .int .i64 xp, .int .i64 xn, .int .i64 xc, .int .i64 xg] 24)) := (TB.out.block g9 (blk_lt KYY.out) G9N.out).trans KYY.out
              have AB := Lib.hid (AYY.out.tch TB.out (fun x hx => hx))
              have hk20 : (Dsk.few ch).length ≤ 100000 := by have := few_len ch; omega
              obtain ⟨⟨Xe, Xh, Xp, Xn, Xc, Xg⟩, dP, er, cp, hIP, hW1, hwr1, hcase⟩ := pub_round WH.out (show i + 1 ≤ 15 by omega) (by have := hwr; omega) MSZ.out ⟨xe, xh, xp, xn, xc, xg⟩ FM.out v b gs wb DB.out SB.out (HL.out.below BB2.out hs0) HZ.out GSN.out (Dsk.few ch) ml _ FO.out
              have HIP := Lib.hid hIP
              have HW1 := Lib.hid hW1
              have HWR1 := Lib.hid hwr1
              have CAS := Lib.hid hcase
              obtain ⟨k0, k1, k2, k3, k4, k5, _⟩ := row6 KB.out
              clear hIP hW1 hwr1 hcase MYY SYY KYY AYY DB SB
              have sy3 : w3.heap.size ≤ wb.heap.size := Nat.le_trans (Nat.le_trans hs3 (Nat.le_trans hsO (Nat.le_trans hs9 (Nat.le_of_lt s89)))) (Nat.le_trans s9y sYB)
              have LOW := AB.out.low
              have hcrash : ∀ W, Below w.heap.size w W → DAt W b dP → Calls Tryd.prog 15 #[.pointer (some ⟨b.g, 0, none⟩), .slice A7 (Dsk.few ch).length c7] W fun e w' => e = .returned (.tuple #[]) ∧ DAt w' b (crash dP (Dsk.few ch)) ∧ Tch b.l W w' := fun W hb hd =>
                crash_any b dP A7 (Dsk.few ch) c7 W hd HIP.out (at_few (HAT.out.below hb)) hk20 (MY.out.apart (at_few HAT.out))
              have hfew : ∀ W, Below w.heap.size w W → Calls Tryd.prog 16 #[.slice A7 ch.length c7] W fun e w' => e = .returned (.slice A7 (Dsk.few ch).length c7) ∧ W = w' := fun W hb => Dsk.few_any A7 ch c7 W (HAT.out.below hb) hcc
              have u7 : ∀ W, Below w.heap.size w W → W.cell? ⟨ab, off + i * 8 + 7, none⟩ = some (.slice A7 ch.length c7) := fun W hb => (hb.cell (p := ⟨ab, off + i * 8 + 7, none⟩) hab).trans t7
              have HCR := Lib.hid hcrash
              have HFW := Lib.hid hfew
              have U7 := Lib.hid u7
              clear hcrash hfew u7
              rcases CAS.out with ⟨rfl, hF⟩ | ⟨rfl, hF, h2⟩
              · have HF := Lib.hid hF
                rw [if_neg ne60] at cp
                dsimp only [rv, R0] at cp
                have CP := Lib.hid cp
                clear cp hF CAS
                go_upto_region 31 with (go_at_call 9; ((with_reducible refine CP.out.mono ?_); rintro e wp ⟨rfl, hdp, htp⟩; have DP := Lib.hid hdp; have TP := Lib.hid htp; clear hdp htp))
                have tq : Tch b.l wb (wp.alloc (.cells #[.int .u64 0, .int .i64 0, .int .i64 0, .int .i64 0, .int .i64 0, .int .i64 0] 24)) := TP.out.alloc _
                have bq := (Below.refl wp.heap.size wp).alloc (Nat.le_refl _) (.cells #[.int .u64 0, .int .i64 0, .int .i64 0, .int .i64 0, .int .i64 0, .int .i64 0] 24)
                have TQ := Lib.hid tq
                have DQ := Lib.hid (DP.out.below bq)
                have AQ := Lib.hid (AB.out.tch tq (fun x hx => hx))
                have KQ : Hid ((wp.alloc (.cells #[.int .u64 0, .int .i64 0, .int .i64 0, .int .i64 0, .int .i64 0, .int .i64 0] 24)).heap[g9]? = some (.cells #[.int .u64 (xe : Int), .int .i64 xh, .int .i64 xp, .int .i64 xn, .int .i64 xc, .int .i64 xg] 24)) := (tq.block g9 (blk_lt KB.out) G9N.out).trans KB.out
                clear k0 k1 k2 k3 k4 k5 tq bq DP TP KB AB CP
                generalize wp.alloc (.cells #[.int .u64 0, .int .i64 0, .int .i64 0, .int .i64 0, .int .i64 0, .int .i64 0] 24) = wq at *
                obtain ⟨k0, k1, k2, k3, k4, k5, _⟩ := row6 KQ.out
                have sQ := TQ.out.size
                obtain ⟨i0, hi0, hz0, hz1, hz2⟩ := info_parts rinfo6
                have bX := (Below.refl wq.heap.size wq).alloc (Nat.le_refl _) (.cells #[.int .u64 (xe : Int), .int .i64 xh, .int .i64 xp, .int .i64 xn, .int .i64 xc, .int .i64 xg] 24)
                have TX := Lib.hid (TQ.out.alloc (.cells #[.int .u64 (xe : Int), .int .i64 xh, .int .i64 xp, .int .i64 xn, .int .i64 xc, .int .i64 xg] 24))
                have DX := Lib.hid (DQ.out.below bX)
                have AX := Lib.hid (AQ.out.below bX)
                have CX := Lib.hid (rc_new wq ⟨xe, xh, xp, xn, xc, xg⟩ wq.heap.size rfl)
                clear bX
                go_upto_region 38 with (at_builtin; refine wpList_append_own _ rfl _ _ 39 rfl w3.heap.size 24 i0 _ 6 48 Tryd.underlying39 hi0 hz0 hz1 hz2 rfl (by decide) _ _ _ rfl AX.out.own ⟨wq.heap.size, 0, none⟩ 1 1 (rc ⟨xe, xh, xp, xn, xc, xg⟩) rfl rfl CX.out ?c2 ?c3 ?c4 ?c5 ?_)
                case c2 => exact rc_one _
                case c3 => unfold maxLen; omega
                case c4 => omega
                case c5 => exact Nat.le_trans sy3 (Nat.le_trans sQ (by simp))
                · intro v' w1 hown' hgrow _
                  have bG : Below w3.heap.size _ w1 := (Below.refl w3.heap.size _).grown hgrow (Nat.le_trans sy3 (Nat.le_trans sQ (by simp))) (fun k hk => (AX.out.own.lt k hk).1)
                  have BX1 := Lib.hid ((BB2.out.trans (low_b HG.out TX.out sB)).trans (bG.mono s03))
                  have D1 := Lib.hid (dat_low DX.out LOW bG)
                  have M1 := Lib.hid (may_more hown' LOW)
                  have s13 : w3.heap.size ≤ w1.heap.size := Nat.le_trans (Nat.le_trans sy3 (Nat.le_trans sQ (by simp))) bG.size
                  have CC := Lib.hid (HCR.out w1 BX1.out D1.out)
                  have CFW2 := Lib.hid (HFW.out w1 BX1.out)
                  have y7 := U7.out w1 BX1.out
                  clear hown' hgrow bG CX AX DX TX
                  go_wp2_with (first
                    | (go_at_call 16; ((with_reducible refine CFW2.out.mono ?_); rintro e w' ⟨rfl, rfl⟩))
                    | (go_at_call 15; ((with_reducible refine CC.out.mono ?_); rintro e w2' ⟨rfl, hd2, ht2⟩; have D2 := Lib.hid hd2; have T2 := Lib.hid ht2; clear hd2 ht2)))
                  go_roundw
                  case rel => exact ⟨i + 1, ml ++ [⟨xe, xh, xp, xn, xc, xg⟩], _, S, crash dP (Dsk.few ch), hil, by omega, rfl, rfl, by go_num, M1.out.tch T2.out (fun x hx => hx), Nat.le_trans s13 T2.out.size, by rw [List.length_append]; simp only [List.length_singleton]; omega, ⟨D2.out, HW1.out.inv, HG.out.1, HG.out.2.1, HG.out.2.2⟩, HW1.out, by have := HWR1.out; omega, HF.out, BX1.out.trans (low_b HG.out T2.out BX1.out.size)⟩
                  case measure => simp [intOf]; omega
              · have HF := Lib.hid hF
                have H2 := Lib.hid h2
                rw [if_pos rfl] at cp
                dsimp only [rv] at cp
                have CP := Lib.hid cp
                clear cp hF h2 CAS
                go_upto_region 31 with (go_at_call 9; ((with_reducible refine CP.out.mono ?_); rintro e wp ⟨rfl, hdp, htp⟩; have DP := Lib.hid hdp; have TP := Lib.hid htp; clear hdp htp))
                have tq : Tch b.l wb (wp.alloc (.cells #[.int .u64 (Xe : Int), .int .i64 Xh, .int .i64 Xp, .int .i64 Xn, .int .i64 Xc, .int .i64 Xg] 24)) := TP.out.alloc _
                have bq := (Below.refl wp.heap.size wp).alloc (Nat.le_refl _) (.cells #[.int .u64 (Xe : Int), .int .i64 Xh, .int .i64 Xp, .int .i64 Xn, .int .i64 Xc, .int .i64 Xg] 24)
                have TQ := Lib.hid tq
                have DQ := Lib.hid (DP.out.below bq)
                have KQ := Lib.hid (heap_last wp (.cells #[.int .u64 (Xe : Int), .int .i64 Xh, .int .i64 Xp, .int .i64 Xn, .int .i64 Xc, .int .i64 Xg] 24) wp.heap.size rfl)
                clear k0 k1 k2 k3 k4 k5 tq bq DP TP KB AB CP
                generalize wp.heap.size = gq at *
                generalize wp.alloc (.cells #[.int .u64 (Xe : Int), .int .i64 Xh, .int .i64 Xp, .int .i64 Xn, .int .i64 Xc, .int .i64 Xg] 24) = wq at *
                obtain ⟨k0, k1, k2, k3, k4, k5, _⟩ := row6 KQ.out
                have sQ := TQ.out.size
                have bX := (Below.refl wq.heap.size wq).alloc (Nat.le_refl _) (.cells #[.int .u64 (Xe : Int), .int .i64 Xh, .int .i64 Xp, .int .i64 Xn, .int .i64 Xc, .int .i64 Xg] 24)
                have TX := TQ.out.alloc (.cells #[.int .u64 (Xe : Int), .int .i64 Xh, .int .i64 Xp, .int .i64 Xn, .int .i64 Xc, .int .i64 Xg] 24)
                have DX := Lib.hid (DQ.out.below bX)
                have M1 := Lib.hid (may_one (b := b) wq ⟨Xe, Xh, Xp, Xn, Xc, Xg⟩ (Nat.le_trans sy3 sQ) LOW)
                have BX1 := Lib.hid (BB2.out.trans (low_b HG.out TX sB))
                have s13 : w3.heap.size ≤ (wq.alloc (.cells #[.int .u64 (Xe : Int), .int .i64 Xh, .int .i64 Xp, .int .i64 Xn, .int .i64 Xc, .int .i64 Xg] 24)).heap.size := Nat.le_trans sy3 TX.size
                have CC := Lib.hid (HCR.out _ BX1.out DX.out)
                have CFW2 := Lib.hid (HFW.out _ BX1.out)
                have y7 := U7.out _ BX1.out
                have hrr : reach (crash dP (Dsk.few ch)) 2 = 0 := by
                  have h3 := HW1.out.len
                  unfold reach
                  rw [if_neg (by rw [HW1.out.dn]; decide), if_neg (by rw [h3]; omega)]
                have hrs : readS (crash dP (Dsk.few ch)) 2 = mark := by
                  unfold readS
                  rw [if_pos hrr]
                  exact H2.out
                have HRD : Hid (∀ W, DAt W b (crash dP (Dsk.few ch)) → Calls Tryd.prog 17 #[.pointer (some ⟨b.g, 0, none⟩), .int .i64 2] W fun e w' => e = .returned (.tuple #[.string mark, .int .i64 0]) ∧ W = w') := fun W hd => by
                  have := read_any b (crash dP (Dsk.few ch)) 2 W hd
                  rw [hrr, hrs] at this
                  exact this
                clear bX TX hrr hrs DQ
                go_wp2_with (first
                  | (go_at_call 16; ((with_reducible refine CFW2.out.mono ?_); rintro e w' ⟨rfl, rfl⟩))
                  | (go_at_call 15; ((with_reducible refine CC.out.mono ?_); rintro e w2' ⟨rfl, hd2, ht2⟩; have D2 := Lib.hid hd2; have T2 := Lib.hid ht2; have CRD := Lib.hid (HRD.out _ hd2); clear hd2 ht2))
                  | (go_at_call 17; ((with_reducible refine CRD.out.mono ?_); rintro e w' ⟨rfl, rfl⟩)))
                go_roundw
                case rel => exact ⟨i + 1, [⟨Xe, Xh, Xp, Xn, Xc, Xg⟩], false, mark, crash dP (Dsk.few ch), hil, by omega, rfl, rfl, by go_num, M1.out.tch T2.out (fun x hx => hx), Nat.le_trans s13 T2.out.size, by simp only [List.length_singleton]; omega, ⟨D2.out, HW1.out.inv, HG.out.1, HG.out.2.1, HG.out.2.2⟩, HW1.out, by have := HWR1.out; omega, HF.out, BX1.out.trans (low_b HG.out T2.out BX1.out.size)⟩
                case measure => simp [intOf]; omega
end Rt
end Go.Proofs.YtojbanknbgihgaaDoor
