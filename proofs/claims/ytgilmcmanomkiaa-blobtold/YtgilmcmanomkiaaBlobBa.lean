/-
  The walk of the statement BlobBack.
-/
import Derived.Test.YtgilmcmanomkiaaBlobWt
import Derived.Test.YtgilmcmanomkiaaBlobLi
namespace Go.Proofs.Ytgilmcmanomkiaa
open Go.RowKit
namespace Bb
open B Dsk Pg
theorem pmy_low {B S : Nat} {w w' : World} {b : Bl} {d : D} {g : Nat} {half next : Int} (h : PMy B w b d g half next) (hl : ∀ x ∈ g :: b.l, x < S) (hb : Below S w w') : PMy B w' b d g half next :=
  ⟨⟨h.my.at'.kept (hb.block _ (hl _ (by simp))) (hb.block _ (hl _ (by simp))) (hb.block _ (hl _ (by simp))), h.my.inv, h.my.g, h.my.bs, h.my.bm⟩, (hb.block _ (hl _ (by simp))).trans h.p, h.gB, h.gn, h.sz, h.hh, h.n0, h.n1⟩
theorem pmy_lts {B : Nat} {w : World} {b : Bl} {d : D} {g : Nat} {half next : Int} (h : PMy B w b d g half next) : ∀ x ∈ g :: b.l, x < w.heap.size := by
  obtain ⟨l1, l2, l3⟩ := h.my.at'.lts
  have l4 := blk_lt h.p
  intro x hx
  simp only [List.mem_cons, List.not_mem_nil, or_false] at hx
  omega
theorem tch_low {B : Nat} {w w' wp : World} {b : Bl} {d : D} {g : Nat} {half next : Int} (h : PMy B wp b d g half next) (ht : Tch (g :: b.l) w w') (hB : B ≤ w.heap.size) : Below B w w' := by
  refine ht.below (fun x hx => ?_) hB
  have h1 := h.my.g; have h2 := h.my.bs; have h3 := h.my.bm; have h4 := h.gB
  simp only [List.mem_cons, List.not_mem_nil, or_false] at hx
  rcases hx with rfl | rfl | rfl | rfl <;> assumption
set_option maxRecDepth 100000 in
set_option maxHeartbeats 8000000 in
theorem blobBack_walk (A1 : Option Addr) (texts : List ByteArray) (c1 : Nat) (A2 : Option Addr) (sizes : List Int) (c2 : Nat) (w : World) (h1 : At vStr w A1 texts) (h2 : At vInt w A2 sizes) (hl1 : texts.length ≤ maxLen) (hl2 : sizes.length ≤ maxLen) :
    Calls Try.prog 7 #[.slice A1 texts.length c1, .slice A2 sizes.length c2] w fun e w' => e = .returned (.bool true) ∧ Below w.heap.size w w' := by
  have CA := Lib.hid (awake_any w)
  have CH := Lib.hid (fun W => half_any 12 12 W rfl (by omega))
  have W0 := Lib.hid (wb_new (r := 12) (by omega))
  have H1 := Lib.hid h1
  have H2 := Lib.hid h2
  have hm1 : texts.length ≤ 9223372036854775807 := by unfold maxLen at hl1; omega
  have hm2 : sizes.length ≤ 9223372036854775807 := by unfold maxLen at hl2; omega
  obtain ⟨i0, hi0, hz0, hz1, hz2⟩ := info_parts info3
  obtain ⟨j0, hj0, hy0, hy1, hy2⟩ := info_parts info9
  clear h1 h2 hl1 hl2
  generalize new (2 + 2 * 12) = d0 at *
  go_enter Try.func7, Try.ntmps7
  go_wp2_with (first
    | (go_at_call 33; ((with_reducible refine CA.out.mono ?_); rintro e w1 ⟨rfl, hb1⟩; have B1 := Lib.hid hb1; have s1 := hb1.size; clear hb1))
    | (go_at_call 34; ((with_reducible refine (CH.out _).mono ?_); rintro e w2 ⟨b, g, rfl, hp2, hb2⟩; have P2 := Lib.hid hp2; have B2 := Lib.hid (B1.out.trans (hb2.mono s1)); have s2 := hb2.size; clear hp2 hb2)))
  have LOW := Lib.hid (pmy_lts P2.out)
  go_loopw [7, 8, 9, 10] (fun t7 t8 t9 t10 wr => ∃ (i : Nat) (L : List Pag) (fst : List Int) (want : List ByteArray) (d : D), i ≤ sizes.length ∧ i ≤ 9 ∧ t9 = .int .i64 (L.length : Int) ∧ t10 = .int .i64 (i : Int) ∧ wr.ownsRow w2.heap.size 3 1 t7 fst.length (fst.map vInt) ∧ wr.ownsRow w2.heap.size 9 1 t8 want.length (want.map vStr) ∧ Wb 12 0 0 L d ∧ PMy w1.heap.size wr b d g 0 (L.length : Int) ∧ Stx L fst want ∧ fst.length ≤ i ∧ w2.heap.size ≤ wr.heap.size ∧ Below w.heap.size w wr) (fun _ _ _ t10 _ => 10 - (intOf t10).toNat)
  case atStart => exact ⟨0, [], [], [], d0, Nat.zero_le _, Nat.zero_le _, rfl, rfl, World.ownsRow_nil _ _ _ _, World.ownsRow_nil _ _ _ _, W0.out, P2.out, stx_nil, Nat.zero_le _, Nat.le_refl _, B2.out⟩
  case round =>
    obtain ⟨i, L, fst, want, d, hi, hi9, rfl, rfl, ho7, ho8, hwb, hpm, hst, hfl, hs2, hbel⟩ := hrel
    obtain ⟨A7, c7, hv7, hr7⟩ := own_at ho7
    obtain ⟨A8, c8, hv8, hr8⟩ := own_at ho8
    subst hv7
    subst hv8
    have O7 := Lib.hid ho7
    have O8 := Lib.hid ho8
    have AA7 := Lib.hid hr7.1
    have AA8 := Lib.hid hr8.1
    have WB := Lib.hid hwb
    have PM := Lib.hid hpm
    have ST := Lib.hid hst
    have BB := Lib.hid hbel
    have sb := hbel.size
    have hwl : want.length = fst.length := hst.1.symm
    have hL12 : L.length ≤ 12 := by have := hpm.n1; rw [hwb.rm] at this; omega
    have HWL := Lib.hid hwl
    clear hr7 hr8 ho7 ho8 hwb hpm hst hbel hwl CA CH W0
    by_cases hlt : i < sizes.length ∧ i < 9
    · obtain ⟨hlt1, hlt2⟩ := hlt
      have hI1 : (i : Int) < (sizes.length : Int) := by omega
      have hI2 : (i : Int) < 9 := by omega
      obtain ⟨bz, oz, hAz, hlz, hcz⟩ := (H2.out.below BB.out) (by omega)
      have cz := hcz i hlt1
      obtain ⟨_, _, hAz2, hlz2, _⟩ := H2.out (by omega)
      subst hAz
      obtain ⟨rfl, rfl⟩ : bz = _ ∧ oz = _ := by injection hAz2 with q; injection q with q1 q2; exact ⟨q1, q2⟩
      generalize sizes[i] = z at *
      obtain ⟨mz, hmz⟩ : ∃ mz : Int, min z 1200 = mz := ⟨_, rfl⟩
      obtain ⟨m, hm⟩ : ∃ m : Nat, max 0 (min mz 131072) = (m : Int) := ⟨(max 0 (min mz 131072)).toNat, by omega⟩
      have hm12 : m ≤ 1200 := by omega
      have HM := Lib.hid hm
      clear hm hcz hAz2
      by_cases htx : i < texts.length
      · have htI : (i : Int) < (texts.length : Int) := by omega
        obtain ⟨bx, ox, hAx, hlx, hcx⟩ := (H1.out.below BB.out) (by omega)
        have cx := hcx i htx
        subst hAx
        have cct : ∀ W, Calls Try.prog 16 #[.string texts[i], .int .i64 60] W fun e w' => e = .returned (.string (cutB texts[i] 60)) ∧ W = w' := fun W => cut_any texts[i] 60 W (by omega)
        have CCt := Lib.hid cct
        clear cct hcx
        generalize texts[i] = tx at *
        generalize cutB tx 60 = sp at *
        have CL := Lib.hid (fun W => long_any sp m mz W HM.out)
        have hsz := longB_size sp m
        generalize longB sp m = S at *
        have hmx := cost_max m
        have CC := Lib.hid (fun W => cost_any (m : Int) W (by omega))
        rw [Int.toNat_natCast] at CC
        have hcp := cost_pos m
        have hc6 : cost m ≤ 6 := by unfold cost; split <;> omega
        by_cases hroom : L.length + cost m ≤ 12
        · have CW := Lib.hid (fun W (q : PMy w1.heap.size W b d g 0 (L.length : Int)) => bwrite_tch (r := 12) (wr0 := 0) b d g 0 L S W q WB.out (by omega) (by rw [hsz]; exact hroom) (by omega))
          have SM := Lib.hid (stx_more ST.out (s := S) (by omega) (by rw [hsz]; exact hroom))
          rw [hsz] at CW SM
          have hn1 : ((L.length + cost m - 1 : Nat) : Int) = (L.length : Int) + (cost m : Int) - 1 := by omega
          have hn2 : ((L.length + cost m : Nat) : Int) = (L.length : Int) + (cost m : Int) := by omega
          have hLL : (L ++ bpages L.length S (cost m) (cost m)).length = L.length + cost m := by rw [List.length_append, bpages_len]
          have HLL := Lib.hid hLL
          have HN2 := Lib.hid hn2
          rw [hn1] at CW SM
          have hrI : (L.length : Int) + (cost m : Int) ≤ 12 := by omega
          clear hn1 hn2 hLL
          generalize hcm : cost m = c at *
          generalize L ++ bpages L.length S c c = L2 at *
          clear hcm hroom
          go_upto_region 22 with (first
            | (go_at_call 16; ((with_reducible refine (CCt.out _).mono ?_); rintro e w' ⟨rfl, rfl⟩))
            | (go_at_call 35; ((with_reducible refine (CL.out _).mono ?_); rintro e w4 ⟨rfl, hb4⟩; have P4 := Lib.hid (PM.out.below hb4); have B4 := Lib.hid (BB.out.trans (hb4.mono sb)); have s4 := hb4.size; have O74 := Lib.hid (own_below O7.out hb4); have O84 := Lib.hid (own_below O8.out hb4); clear hb4; have CW4 := Lib.hid (CW.out _ P4.out)))
            | (go_at_call 36; ((with_reducible refine CW4.out.mono ?_); rintro e w5 ⟨rfl, d5, hp5, hw5, ht5⟩; have P5 := Lib.hid hp5; have W5 := Lib.hid hw5; have B5 := Lib.hid (B4.out.trans ((tch_low P4.out ht5 (Nat.le_trans s2 (Nat.le_trans hs2 s4))).mono s1)); have s5 := ht5.size; have O75 := Lib.hid (own_tch O74.out ht5 LOW.out); have O85 := Lib.hid (own_tch O84.out ht5 LOW.out); clear hp5 hw5 ht5))
            | (go_at_call 37; ((with_reducible refine (CC.out _).mono ?_); rintro e w' ⟨rfl, rfl⟩)))
          have s25 : w2.heap.size ≤ w5.heap.size := Nat.le_trans (Nat.le_trans hs2 s4) s5
          go_wp2_with (at_builtin; refine wpList_append_own _ rfl _ _ 34 rfl w2.heap.size 3 i0 (.int .i64 0) 1 8 Try.underlying34 hi0 hz0 hz1 hz2 rfl (by decide) _ _ _ rfl (O75.out.alloc _) ⟨w5.heap.size, 0, none⟩ 1 1 [.int .i64 ((L.length : Int) + (c : Int) - 1)] rfl rfl (cell_one_new _ _ _) ?a2t ?a3t ?a4t ?a5t ?_)
          case a2t => first | exact one_int _ | rfl
          case a3t => unfold maxLen; omega
          case a4t => omega
          case a5t => exact Nat.le_trans s25 (by simp)
          · intro v7 w6 hown7 hgrow7 _
            have b6 : Below w2.heap.size w5 w6 := ((Below.refl w2.heap.size w5).alloc s25 _).grown hgrow7 (Nat.le_trans s25 (by simp)) (fun k hk => (O75.out.lt k hk).1)
            have O86 := Lib.hid ((O85.out.alloc (.cells #[.int .i64 ((L.length : Int) + (c : Int) - 1)] 3)).kept hgrow7 (own_apart O75.out O85.out (by decide)))
            have s26 : w2.heap.size ≤ w6.heap.size := Nat.le_trans s25 b6.size
            have O76 := Lib.hid hown7
            have B6 := Lib.hid b6
            clear hown7 hgrow7 b6
            go_wp2_with (at_builtin; refine wpList_append_own _ rfl _ _ 62 rfl w2.heap.size 9 j0 (.string { data := #[] }) 1 16 Try.underlying62 hj0 hy0 hy1 hy2 rfl (by decide) _ _ _ rfl (O86.out.alloc _) ⟨w6.heap.size, 0, none⟩ 1 1 [.string S] rfl rfl (cell_one_new _ _ _) ?b2t ?b3t ?b4t ?b5t ?_)
            case b2t => first | exact one_str _ | rfl
            case b3t => have := HWL.out; unfold maxLen; omega
            case b4t => have := HWL.out; omega
            case b5t => exact Nat.le_trans s26 (by simp)
            · intro v8 w7 hown8 hgrow8 _
              have b7 : Below w2.heap.size w6 w7 := ((Below.refl w2.heap.size w6).alloc s26 _).grown hgrow8 (Nat.le_trans s26 (by simp)) (fun k hk => (O86.out.lt k hk).1)
              have O77 := Lib.hid ((O76.out.alloc (.cells #[.string S] 9)).kept hgrow8 (own_apart O86.out O76.out (by decide)))
              have O87 := Lib.hid hown8
              have B67 := Lib.hid (B6.out.trans b7)
              have P7 := Lib.hid (pmy_low P5.out LOW.out B67.out)
              have cx := next_my b d5 g 0 _ w7 P7.out
              rw [HN2.out] at cx
              have CX7 := Lib.hid cx
              have s27 : w2.heap.size ≤ w7.heap.size := Nat.le_trans s26 b7.size
              clear hown8 hgrow8 b7 cx
              go_wp2_with (go_at_call 26; ((with_reducible refine CX7.out.mono ?_); rintro e w' ⟨rfl, rfl⟩))
              go_roundw
              case rel => exact ⟨i + 1, L2, fst ++ [(L.length : Int) + (c : Int) - 1], want ++ [S], d5, hlt1, by omega, by rw [HLL.out, HN2.out], by go_num, by rw [List.length_append, List.map_append]; exact O77.out, by rw [List.length_append, List.map_append]; exact O87.out, W5.out, by rw [HLL.out]; exact P7.out, SM.out, by rw [List.length_append, List.length_singleton]; omega, s27, B5.out.trans (B67.out.mono (Nat.le_trans s1 s2))⟩
              case measure => simp [intOf]; omega
        · have CW := Lib.hid (fun W (q : PMy w1.heap.size W b d g 0 (L.length : Int)) => bwrite_full b d g 0 (L.length : Int) S W q (by omega) (by rw [WB.out.rm, hsz]; omega))
          have hrI : ¬ (L.length : Int) + (cost m : Int) ≤ 12 := by omega
          have CX := Lib.hid (fun W (q : PMy w1.heap.size W b d g 0 (L.length : Int)) => next_my b d g 0 (L.length : Int) W q)
          generalize hcm : cost m = c at *
          clear hcm hroom
          go_wp2_with (first
            | (go_at_call 16; ((with_reducible refine (CCt.out _).mono ?_); rintro e w' ⟨rfl, rfl⟩))
            | (go_at_call 35; ((with_reducible refine (CL.out _).mono ?_); rintro e w4 ⟨rfl, hb4⟩; have P4 := Lib.hid (PM.out.below hb4); have B4 := Lib.hid (BB.out.trans (hb4.mono sb)); have s4 := hb4.size; have O74 := Lib.hid (own_below O7.out hb4); have O84 := Lib.hid (own_below O8.out hb4); clear hb4; have CW4 := Lib.hid (CW.out _ P4.out)))
            | (go_at_call 36; ((with_reducible refine CW4.out.mono ?_); rintro e w5 ⟨rfl, hb5⟩; have P5 := Lib.hid (P4.out.below hb5); have B5 := Lib.hid (B4.out.trans (hb5.mono B4.out.size)); have s5 := hb5.size; have O75 := Lib.hid (own_below O74.out hb5); have O85 := Lib.hid (own_below O84.out hb5); clear hb5; have CX5 := Lib.hid (CX.out _ P5.out)))
            | (go_at_call 37; ((with_reducible refine (CC.out _).mono ?_); rintro e w' ⟨rfl, rfl⟩))
            | (go_at_call 26; ((with_reducible refine CX5.out.mono ?_); rintro e w' ⟨rfl, rfl⟩)))
          go_roundw
          case rel => exact ⟨i + 1, L, fst, want, d, hlt1, by omega, rfl, by go_num, O75.out, O85.out, WB.out, P5.out, ST.out, by omega, Nat.le_trans (Nat.le_trans hs2 s4) s5, B5.out⟩
          case measure => simp [intOf]; omega
      · have htI : ¬ (i : Int) < (texts.length : Int) := by omega
        have CL := Lib.hid (fun W => long_any ⟨#[]⟩ m mz W HM.out)
        have hsz := longB_size ⟨#[]⟩ m
        generalize longB ⟨#[]⟩ m = S at *
        have hmx := cost_max m
        have CC := Lib.hid (fun W => cost_any (m : Int) W (by omega))
        rw [Int.toNat_natCast] at CC
        have hcp := cost_pos m
        have hc6 : cost m ≤ 6 := by unfold cost; split <;> omega
        by_cases hroom : L.length + cost m ≤ 12
        · have CW := Lib.hid (fun W (q : PMy w1.heap.size W b d g 0 (L.length : Int)) => bwrite_tch (r := 12) (wr0 := 0) b d g 0 L S W q WB.out (by omega) (by rw [hsz]; exact hroom) (by omega))
          have SM := Lib.hid (stx_more ST.out (s := S) (by omega) (by rw [hsz]; exact hroom))
          rw [hsz] at CW SM
          have hn1 : ((L.length + cost m - 1 : Nat) : Int) = (L.length : Int) + (cost m : Int) - 1 := by omega
          have hn2 : ((L.length + cost m : Nat) : Int) = (L.length : Int) + (cost m : Int) := by omega
          have hLL : (L ++ bpages L.length S (cost m) (cost m)).length = L.length + cost m := by rw [List.length_append, bpages_len]
          have HLL := Lib.hid hLL
          have HN2 := Lib.hid hn2
          rw [hn1] at CW SM
          have hrI : (L.length : Int) + (cost m : Int) ≤ 12 := by omega
          clear hn1 hn2 hLL
          generalize hcm : cost m = c at *
          generalize L ++ bpages L.length S c c = L2 at *
          clear hcm hroom
          go_upto_region 22 with (first
            | (go_at_call 35; ((with_reducible refine (CL.out _).mono ?_); rintro e w4 ⟨rfl, hb4⟩; have P4 := Lib.hid (PM.out.below hb4); have B4 := Lib.hid (BB.out.trans (hb4.mono sb)); have s4 := hb4.size; have O74 := Lib.hid (own_below O7.out hb4); have O84 := Lib.hid (own_below O8.out hb4); clear hb4; have CW4 := Lib.hid (CW.out _ P4.out)))
            | (go_at_call 36; ((with_reducible refine CW4.out.mono ?_); rintro e w5 ⟨rfl, d5, hp5, hw5, ht5⟩; have P5 := Lib.hid hp5; have W5 := Lib.hid hw5; have B5 := Lib.hid (B4.out.trans ((tch_low P4.out ht5 (Nat.le_trans s2 (Nat.le_trans hs2 s4))).mono s1)); have s5 := ht5.size; have O75 := Lib.hid (own_tch O74.out ht5 LOW.out); have O85 := Lib.hid (own_tch O84.out ht5 LOW.out); clear hp5 hw5 ht5))
            | (go_at_call 37; ((with_reducible refine (CC.out _).mono ?_); rintro e w' ⟨rfl, rfl⟩)))
          have s25 : w2.heap.size ≤ w5.heap.size := Nat.le_trans (Nat.le_trans hs2 s4) s5
          go_wp2_with (at_builtin; refine wpList_append_own _ rfl _ _ 34 rfl w2.heap.size 3 i0 (.int .i64 0) 1 8 Try.underlying34 hi0 hz0 hz1 hz2 rfl (by decide) _ _ _ rfl (O75.out.alloc _) ⟨w5.heap.size, 0, none⟩ 1 1 [.int .i64 ((L.length : Int) + (c : Int) - 1)] rfl rfl (cell_one_new _ _ _) ?a2n ?a3n ?a4n ?a5n ?_)
          case a2n => first | exact one_int _ | rfl
          case a3n => unfold maxLen; omega
          case a4n => omega
          case a5n => exact Nat.le_trans s25 (by simp)
          · intro v7 w6 hown7 hgrow7 _
            have b6 : Below w2.heap.size w5 w6 := ((Below.refl w2.heap.size w5).alloc s25 _).grown hgrow7 (Nat.le_trans s25 (by simp)) (fun k hk => (O75.out.lt k hk).1)
            have O86 := Lib.hid ((O85.out.alloc (.cells #[.int .i64 ((L.length : Int) + (c : Int) - 1)] 3)).kept hgrow7 (own_apart O75.out O85.out (by decide)))
            have s26 : w2.heap.size ≤ w6.heap.size := Nat.le_trans s25 b6.size
            have O76 := Lib.hid hown7
            have B6 := Lib.hid b6
            clear hown7 hgrow7 b6
            go_wp2_with (at_builtin; refine wpList_append_own _ rfl _ _ 62 rfl w2.heap.size 9 j0 (.string { data := #[] }) 1 16 Try.underlying62 hj0 hy0 hy1 hy2 rfl (by decide) _ _ _ rfl (O86.out.alloc _) ⟨w6.heap.size, 0, none⟩ 1 1 [.string S] rfl rfl (cell_one_new _ _ _) ?b2n ?b3n ?b4n ?b5n ?_)
            case b2n => first | exact one_str _ | rfl
            case b3n => have := HWL.out; unfold maxLen; omega
            case b4n => have := HWL.out; omega
            case b5n => exact Nat.le_trans s26 (by simp)
            · intro v8 w7 hown8 hgrow8 _
              have b7 : Below w2.heap.size w6 w7 := ((Below.refl w2.heap.size w6).alloc s26 _).grown hgrow8 (Nat.le_trans s26 (by simp)) (fun k hk => (O86.out.lt k hk).1)
              have O77 := Lib.hid ((O76.out.alloc (.cells #[.string S] 9)).kept hgrow8 (own_apart O86.out O76.out (by decide)))
              have O87 := Lib.hid hown8
              have B67 := Lib.hid (B6.out.trans b7)
              have P7 := Lib.hid (pmy_low P5.out LOW.out B67.out)
              have cx := next_my b d5 g 0 _ w7 P7.out
              rw [HN2.out] at cx
              have CX7 := Lib.hid cx
              have s27 : w2.heap.size ≤ w7.heap.size := Nat.le_trans s26 b7.size
              clear hown8 hgrow8 b7 cx
              go_wp2_with (go_at_call 26; ((with_reducible refine CX7.out.mono ?_); rintro e w' ⟨rfl, rfl⟩))
              go_roundw
              case rel => exact ⟨i + 1, L2, fst ++ [(L.length : Int) + (c : Int) - 1], want ++ [S], d5, hlt1, by omega, by rw [HLL.out, HN2.out], by go_num, by rw [List.length_append, List.map_append]; exact O77.out, by rw [List.length_append, List.map_append]; exact O87.out, W5.out, by rw [HLL.out]; exact P7.out, SM.out, by rw [List.length_append, List.length_singleton]; omega, s27, B5.out.trans (B67.out.mono (Nat.le_trans s1 s2))⟩
              case measure => simp [intOf]; omega
        · have CW := Lib.hid (fun W (q : PMy w1.heap.size W b d g 0 (L.length : Int)) => bwrite_full b d g 0 (L.length : Int) S W q (by omega) (by rw [WB.out.rm, hsz]; omega))
          have hrI : ¬ (L.length : Int) + (cost m : Int) ≤ 12 := by omega
          have CX := Lib.hid (fun W (q : PMy w1.heap.size W b d g 0 (L.length : Int)) => next_my b d g 0 (L.length : Int) W q)
          generalize hcm : cost m = c at *
          clear hcm hroom
          go_wp2_with (first
            | (go_at_call 35; ((with_reducible refine (CL.out _).mono ?_); rintro e w4 ⟨rfl, hb4⟩; have P4 := Lib.hid (PM.out.below hb4); have B4 := Lib.hid (BB.out.trans (hb4.mono sb)); have s4 := hb4.size; have O74 := Lib.hid (own_below O7.out hb4); have O84 := Lib.hid (own_below O8.out hb4); clear hb4; have CW4 := Lib.hid (CW.out _ P4.out)))
            | (go_at_call 36; ((with_reducible refine CW4.out.mono ?_); rintro e w5 ⟨rfl, hb5⟩; have P5 := Lib.hid (P4.out.below hb5); have B5 := Lib.hid (B4.out.trans (hb5.mono B4.out.size)); have s5 := hb5.size; have O75 := Lib.hid (own_below O74.out hb5); have O85 := Lib.hid (own_below O84.out hb5); clear hb5; have CX5 := Lib.hid (CX.out _ P5.out)))
            | (go_at_call 37; ((with_reducible refine (CC.out _).mono ?_); rintro e w' ⟨rfl, rfl⟩))
            | (go_at_call 26; ((with_reducible refine CX5.out.mono ?_); rintro e w' ⟨rfl, rfl⟩)))
          go_roundw
          case rel => exact ⟨i + 1, L, fst, want, d, hlt1, by omega, rfl, by go_num, O75.out, O85.out, WB.out, P5.out, ST.out, by omega, Nat.le_trans (Nat.le_trans hs2 s4) s5, B5.out⟩
          case measure => simp [intOf]; omega
    · have hex : ¬ (i : Int) < (sizes.length : Int) ∨ (i : Int) < (sizes.length : Int) ∧ ¬ (i : Int) < 9 := by omega
      clear hlt
      rcases hex with hex | ⟨hex, hex2⟩
      · go_wp2
        generalize wr = wo at *
        go_loopw [125] (fun t125 wx => ∃ k : Nat, k ≤ fst.length ∧ t125 = .int .i64 (k : Int) ∧ Below wo.heap.size wo wx) (fun t125 _ => fst.length - (intOf t125).toNat)
        case atStart => exact ⟨0, Nat.zero_le _, rfl, Below.refl _ _⟩
        case round =>
          obtain ⟨k, hk, rfl, hb3⟩ := hrel
          have B3 := Lib.hid hb3
          have s3 := hb3.size
          clear hb3
          by_cases hkl : k < fst.length
          · have hkw : k < want.length := by have := HWL.out; omega
            have hkI : (k : Int) < (fst.length : Int) := by omega
            have hkI2 : (k : Int) < (want.length : Int) := by omega
            obtain ⟨b7, o7, hA7, _, hc7⟩ := (AA7.out.below B3.out) (by omega)
            have x7 := hc7 k hkl
            subst hA7
            obtain ⟨b8, o8, hA8, hl8, hc8⟩ := AA8.out (by omega)
            have x8 := hc8 k hkw
            subst hA8
            obtain ⟨a, e1, e2, e3, e4⟩ := ST.out.2 k hkl hkw
            rw [e1] at x7
            have P3 := Lib.hid (PM.out.below B3.out)
            have cr := fun W (q : PMy w1.heap.size W b d g 0 (L.length : Int)) => bread_any b d g 0 L ((a + cost want[k].size - 1 : Nat) : Int) W q WB.out.up WB.out.con
            rw [read_back (by omega) e4 (by omega)] at cr
            have cg := fun W (q : PMy w1.heap.size W b d g 0 (L.length : Int)) => bnums_any b d g 0 L ((a + cost want[k].size - 1 : Nat) : Int) W q WB.out.up WB.out.con
            rw [nums_back (by omega) e4 (by omega)] at cg
            have cc := fun W => cost_any (want[k].size : Int) W (by omega)
            rw [Int.toNat_natCast] at cc
            have hcp := cost_pos want[k].size
            clear e1 e4 hc7 hc8
            generalize want[k] = S at *
            generalize hcm : cost S.size = c at *
            clear hcm
            obtain ⟨nn, hnn⟩ : ∃ nn : Nat, a + c - 1 = nn := ⟨_, rfl⟩
            have hnc : c ≤ nn + 1 := by omega
            have hn12 : nn ≤ 12 := by omega
            rw [hnn] at x7 cr cg
            simp only [List.length_map, List.length_range] at cg
            have CR := Lib.hid cr
            have CG := Lib.hid cg
            have CC := Lib.hid cc
            have CR3 := Lib.hid (CR.out _ P3.out)
            clear cr cg cc hnn e3
            go_wp2_with (first
              | (go_at_call 38; ((with_reducible refine CR3.out.mono ?_); rintro e w4 ⟨rfl, hb4⟩; have B4 := Lib.hid (B3.out.trans (hb4.mono s3)); have CG4 := Lib.hid (CG.out _ (P3.out.below hb4)); clear hb4))
              | (go_at_call 39; ((with_reducible refine CG4.out.mono ?_); rintro e w5 ⟨v9, rfl, ho9, hb5⟩; have B5 := Lib.hid (B4.out.trans (hb5.mono B4.out.size)); obtain ⟨A9, c9, hv9, hr9⟩ := own_at (V := vInt) (l := (List.range c).map fun t => ((nn - t : Nat) : Int)) ho9; have A9H := Lib.hid hr9.1; rw [List.length_map, List.length_range] at hv9; subst hv9; have y8 := (B5.out.cell (p := ⟨b8, o8 + k, none⟩) hl8).trans x8; clear hr9 ho9 hb5))
              | (go_at_call 37; ((with_reducible refine (CC.out _).mono ?_); rintro e w' ⟨rfl, rfl⟩)))
            go_loopw [166] (fun t166 wx => ∃ t : Nat, t ≤ c ∧ t166 = .int .i64 (t : Int) ∧ w5 = wx) (fun t166 _ => c - (intOf t166).toNat)
            case atStart => exact ⟨0, Nat.zero_le _, rfl, rfl⟩
            case round =>
              obtain ⟨t, ht, rfl, rfl⟩ := hrel
              by_cases htc : t < c
              · have htI : (t : Int) < (c : Int) := by omega
                obtain ⟨b9, o9, hA9, _, hc9⟩ := A9H.out (by rw [List.length_map, List.length_range]; omega)
                have x9 := hc9 t (by rw [List.length_map, List.length_range]; exact htc)
                subst hA9
                rw [List.getElem_map, List.getElem_range] at x9
                have e9 : ((nn - t : Nat) : Int) = (nn : Int) - (t : Int) := by omega
                rw [e9] at x9
                clear hc9 e9
                go_wp2
                go_roundw
                case rel => exact ⟨t + 1, by omega, by go_num, trivial⟩
                case measure => simp [intOf]; omega
              · have htI : ¬ (t : Int) < (c : Int) := by omega
                go_wp2
                go_roundw
                case rel => exact ⟨k + 1, by omega, by go_num, B5.out⟩
                case measure => simp [intOf]; omega
          · have hkI : ¬ (k : Int) < (fst.length : Int) := by omega
            go_wp2
            go_ret
            exact ⟨rfl, BB.out.trans (B3.out.mono sb)⟩
      · go_wp2
        generalize wr = wo at *
        go_loopw [125] (fun t125 wx => ∃ k : Nat, k ≤ fst.length ∧ t125 = .int .i64 (k : Int) ∧ Below wo.heap.size wo wx) (fun t125 _ => fst.length - (intOf t125).toNat)
        case atStart => exact ⟨0, Nat.zero_le _, rfl, Below.refl _ _⟩
        case round =>
          obtain ⟨k, hk, rfl, hb3⟩ := hrel
          have B3 := Lib.hid hb3
          have s3 := hb3.size
          clear hb3
          by_cases hkl : k < fst.length
          · have hkw : k < want.length := by have := HWL.out; omega
            have hkI : (k : Int) < (fst.length : Int) := by omega
            have hkI2 : (k : Int) < (want.length : Int) := by omega
            obtain ⟨b7, o7, hA7, _, hc7⟩ := (AA7.out.below B3.out) (by omega)
            have x7 := hc7 k hkl
            subst hA7
            obtain ⟨b8, o8, hA8, hl8, hc8⟩ := AA8.out (by omega)
            have x8 := hc8 k hkw
            subst hA8
            obtain ⟨a, e1, e2, e3, e4⟩ := ST.out.2 k hkl hkw
            rw [e1] at x7
            have P3 := Lib.hid (PM.out.below B3.out)
            have cr := fun W (q : PMy w1.heap.size W b d g 0 (L.length : Int)) => bread_any b d g 0 L ((a + cost want[k].size - 1 : Nat) : Int) W q WB.out.up WB.out.con
            rw [read_back (by omega) e4 (by omega)] at cr
            have cg := fun W (q : PMy w1.heap.size W b d g 0 (L.length : Int)) => bnums_any b d g 0 L ((a + cost want[k].size - 1 : Nat) : Int) W q WB.out.up WB.out.con
            rw [nums_back (by omega) e4 (by omega)] at cg
            have cc := fun W => cost_any (want[k].size : Int) W (by omega)
            rw [Int.toNat_natCast] at cc
            have hcp := cost_pos want[k].size
            clear e1 e4 hc7 hc8
            generalize want[k] = S at *
            generalize hcm : cost S.size = c at *
            clear hcm
            obtain ⟨nn, hnn⟩ : ∃ nn : Nat, a + c - 1 = nn := ⟨_, rfl⟩
            have hnc : c ≤ nn + 1 := by omega
            have hn12 : nn ≤ 12 := by omega
            rw [hnn] at x7 cr cg
            simp only [List.length_map, List.length_range] at cg
            have CR := Lib.hid cr
            have CG := Lib.hid cg
            have CC := Lib.hid cc
            have CR3 := Lib.hid (CR.out _ P3.out)
            clear cr cg cc hnn e3
            go_wp2_with (first
              | (go_at_call 38; ((with_reducible refine CR3.out.mono ?_); rintro e w4 ⟨rfl, hb4⟩; have B4 := Lib.hid (B3.out.trans (hb4.mono s3)); have CG4 := Lib.hid (CG.out _ (P3.out.below hb4)); clear hb4))
              | (go_at_call 39; ((with_reducible refine CG4.out.mono ?_); rintro e w5 ⟨v9, rfl, ho9, hb5⟩; have B5 := Lib.hid (B4.out.trans (hb5.mono B4.out.size)); obtain ⟨A9, c9, hv9, hr9⟩ := own_at (V := vInt) (l := (List.range c).map fun t => ((nn - t : Nat) : Int)) ho9; have A9H := Lib.hid hr9.1; rw [List.length_map, List.length_range] at hv9; subst hv9; have y8 := (B5.out.cell (p := ⟨b8, o8 + k, none⟩) hl8).trans x8; clear hr9 ho9 hb5))
              | (go_at_call 37; ((with_reducible refine (CC.out _).mono ?_); rintro e w' ⟨rfl, rfl⟩)))
            go_loopw [166] (fun t166 wx => ∃ t : Nat, t ≤ c ∧ t166 = .int .i64 (t : Int) ∧ w5 = wx) (fun t166 _ => c - (intOf t166).toNat)
            case atStart => exact ⟨0, Nat.zero_le _, rfl, rfl⟩
            case round =>
              obtain ⟨t, ht, rfl, rfl⟩ := hrel
              by_cases htc : t < c
              · have htI : (t : Int) < (c : Int) := by omega
                obtain ⟨b9, o9, hA9, _, hc9⟩ := A9H.out (by rw [List.length_map, List.length_range]; omega)
                have x9 := hc9 t (by rw [List.length_map, List.length_range]; exact htc)
                subst hA9
                rw [List.getElem_map, List.getElem_range] at x9
                have e9 : ((nn - t : Nat) : Int) = (nn : Int) - (t : Int) := by omega
                rw [e9] at x9
                clear hc9 e9
                go_wp2
                go_roundw
                case rel => exact ⟨t + 1, by omega, by go_num, trivial⟩
                case measure => simp [intOf]; omega
              · have htI : ¬ (t : Int) < (c : Int) := by omega
                go_wp2
                go_roundw
                case rel => exact ⟨k + 1, by omega, by go_num, B5.out⟩
                case measure => simp [intOf]; omega
          · have hkI : ¬ (k : Int) < (fst.length : Int) := by omega
            go_wp2
            go_ret
            exact ⟨rfl, BB.out.trans (B3.out.mono sb)⟩
end Bb
end Go.Proofs.Ytgilmcmanomkiaa
