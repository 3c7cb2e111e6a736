/-
  Setcode (layer 13): the document's own Rise, Pairs; pairs compared.
-/
import Derived.Test.YtedhijehmkiieaaSetPq
import Derived.Test.YtedhijehmkiieaaOver
import Derived.Test.YtedhijehmkiieaaSetRef
import Derived.ChangeKeysEq
namespace Go.Proofs.Ytedhijehmkiieaa
open Go.RowKit
namespace Sc
open B

theorem okP_step {l : List P2} {k : Nat} (hlt : k < l.length) (h : okP l = (prise (l.drop (k - 1)) && !((l.drop k).any pbad))) (hb : pbad l[k] = false) (hk : k = 0 ∨ ∃ h : k - 1 < l.length, plt l[k - 1] l[k] = true) : okP l = (prise (l.drop (k + 1 - 1)) && !((l.drop (k + 1)).any pbad)) := by
  rw [h, any_drop pbad l k hlt, hb, Bool.false_or, Nat.add_sub_cancel]
  rcases hk with rfl | ⟨h1, hk⟩
  · rfl
  · by_cases h0 : k = 0
    · subst h0; rfl
    · obtain ⟨j, rfl⟩ : ∃ j, k = j + 1 := ⟨k - 1, by omega⟩
      simp only [Nat.add_sub_cancel] at hk ⊢
      rw [prise_drop l j hlt, hk, Bool.true_and]
theorem okP_bad {l : List P2} {k : Nat} (hlt : k < l.length) (h : okP l = (prise (l.drop (k - 1)) && !((l.drop k).any pbad))) (hb : pbad l[k] = true) : okP l = false := by
  rw [h, any_drop pbad l k hlt, hb, Bool.true_or, Bool.not_true, Bool.and_false]
theorem okP_fall {l : List P2} {k : Nat} (hlt : k < l.length) (h : okP l = (prise (l.drop (k - 1)) && !((l.drop k).any pbad))) (h0 : 0 < k) (hk : plt l[k - 1] l[k] = false) : okP l = false := by
  obtain ⟨j, rfl⟩ : ∃ j, k = j + 1 := ⟨k - 1, by omega⟩
  simp only [Nat.add_sub_cancel] at hk h
  rw [h, prise_drop l j hlt, hk, Bool.false_and, Bool.false_and]
theorem okP_end {l : List P2} {k : Nat} (hk : k = l.length) (h : okP l = (prise (l.drop (k - 1)) && !((l.drop k).any pbad))) : okP l = true := by
  rw [h, prise_end l (k - 1) (by omega), hk, List.drop_length]; rfl

set_option maxRecDepth 100000 in
set_option maxHeartbeats 4000000 in
theorem refRise_any (l : List P2) (A : Option Addr) (c : Nat) (w : World) (hl : l.length ≤ 1000000) (hx : PrR w A l) :
    Calls Try.prog 34 #[.slice A l.length c] w fun e w' => e = .returned (.bool (okP l)) ∧ Below w.heap.size w w' := by
  have HX := Lib.hid hx
  clear hx
  go_enter Try.func34, Try.ntmps34
  go_wp2
  go_loopw [7] (fun i wr => ∃ k : Nat, k ≤ l.length ∧ i = .int .i64 (k : Int) ∧ okP l = (prise (l.drop (k - 1)) && !((l.drop k).any pbad)) ∧ Below w.heap.size w wr) (fun i _ => l.length - (intOf i).toNat)
  case atStart => exact ⟨0, Nat.zero_le _, rfl, rfl, Below.refl _ _⟩
  case round =>
    obtain ⟨k, hk, rfl, hr, hb⟩ := hrel
    have BW := Lib.hid hb
    have sb := hb.size
    by_cases hlt : k < l.length
    · obtain ⟨b, off, hA, hbw, hc⟩ := (HX.out.below BW.out) (by omega)
      subst hA
      obtain ⟨c0, c1⟩ := hc k hlt
      have H1 := Lib.hid (fun h => okP_bad hlt hr h)
      have H2 := Lib.hid (fun h => okP_fall hlt hr h)
      have H3 := Lib.hid (fun h => okP_step hlt hr h)
      have hkI : (k : Int) < (l.length : Int) := by omega
      obtain ⟨y, HY⟩ : ∃ y : P2, Hid (∀ h : 0 < k, l[k - 1]'(by omega) = y) := by
        by_cases h0 : 0 < k
        · exact ⟨l[k - 1]'(by omega), fun _ => rfl⟩
        · exact ⟨(0, 0), fun h => absurd h h0⟩
      have hy : 0 < k → wr.cell? ⟨b, off + (k - 1) * 2, none⟩ = some (.int .i64 y.1) ∧ wr.cell? ⟨b, off + (k - 1) * 2 + 1, none⟩ = some (.int .i64 y.2) := fun h0 => by
        rw [← HY.out h0]; exact hc (k - 1) (by omega)
      have H2' : Hid (0 < k → plt y l[k] = false → okP l = false) := fun h0 hp => H2.out h0 (by rw [HY.out h0]; exact hp)
      have H3' : Hid (pbad l[k] = false → (k = 0 ∨ plt y l[k] = true) → okP l = (prise (l.drop (k + 1 - 1)) && !((l.drop (k + 1)).any pbad))) := fun h0 hp => H3.out h0 (by
        by_cases hz : k = 0
        · exact .inl hz
        · rcases hp with hp | hp
          · exact .inl hp
          · exact .inr ⟨by omega, by rw [HY.out (by omega)]; exact hp⟩)
      clear hc hr hb H2 H3 HY
      generalize l[k] = x at *
      obtain ⟨x0, x1⟩ := x
      obtain ⟨y0, y1⟩ := y
      simp only at c0 c1 hy
      have bA := (Below.refl wr.heap.size wr).alloc (Nat.le_refl _) (.cells #[.int .i64 x0, .int .i64 x1] 116)
      have hh := heap_last wr (.cells #[.int .i64 x0, .int .i64 x1] 116) wr.heap.size rfl
      have t0 := (row_cell (cs := [Value.int .i64 x0, .int .i64 x1]) hh 0).trans rfl
      have t1 := (row_cell (cs := [Value.int .i64 x0, .int .i64 x1]) hh 1).trans rfl
      have BA := Lib.hid (BW.out.trans (bA.mono sb))
      by_cases hbx : pbad (x0, x1) = true
      · have HT := Lib.hid (H1.out hbx)
        simp only [pbad, bad, Bool.or_eq_true, decide_eq_true_eq] at hbx
        clear H1 H2' H3' hy bA hh t0 t1
        have hq : (x0 < 0) ∨ (¬ x0 < 0 ∧ x1 < 0) ∨ (¬ x0 < 0 ∧ ¬ x1 < 0 ∧ 2147483647 < x0) ∨ (¬ x0 < 0 ∧ ¬ x1 < 0 ∧ ¬ 2147483647 < x0 ∧ 2147483647 < x1) := by omega
        rcases hq with h1 | ⟨h1, h2⟩ | ⟨h1, h2, h3⟩ | ⟨h1, h2, h3, h4⟩
        all_goals
          go_wp2
          go_ret
          exact ⟨ret_bool HT.out.symm, BA.out⟩
      · have hbf : pbad (x0, x1) = false := by simpa using hbx
        simp only [pbad, bad, Bool.or_eq_true, decide_eq_true_eq] at hbx
        have n1 : ¬ x0 < 0 := by omega
        have n2 : ¬ x1 < 0 := by omega
        have n3 : ¬ 2147483647 < x0 := by omega
        have n4 : ¬ 2147483647 < x1 := by omega
        by_cases hk0 : k = 0
        · subst hk0
          simp only [Nat.zero_mul, Nat.add_zero] at c0 c1
          have HT := Lib.hid (H3'.out hbf (.inl rfl))
          clear H1 H2' H3' hy hbx hbf
          go_upto_region 6 with fail
          generalize wr.alloc (.cells #[.int .i64 x0, .int .i64 x1] 116) = W at *
          go_quiet (fail)
          go_wp2
          go_roundw
          case rel => exact ⟨1, by omega, by go_num, HT.out, below_drewN BA.out _⟩
          case measure => simp [intOf]; omega
        · obtain ⟨d0, d1⟩ := hy (by omega)
          have d0 := (bA.cell (p := ⟨b, off + (k - 1) * 2, none⟩) hbw).trans d0
          have d1 := (bA.cell (p := ⟨b, off + (k - 1) * 2 + 1, none⟩) hbw).trans d1
          have e0 : ((k : Int) - 1).toNat = k - 1 := by omega
          have hkp : (0 : Int) < (k : Int) := by omega
          have hkn : decide (0 < k) = true := decide_eq_true (by omega)
          have hk1 : (0 : Int) ≤ (k : Int) - 1 := by omega
          have hk2 : (k : Int) - 1 < (l.length : Int) := by omega
          by_cases h1 : x0 < y0
          · have hp : plt (y0, y1) (x0, x1) = false := by
              simp only [plt]
              rw [decide_eq_false (by omega), decide_eq_false (show ¬ y0 = x0 by omega)]; rfl
            have HT := Lib.hid (H2'.out (by omega) hp)
            have g1 : decide (x0 < y0) = true := decide_eq_true h1
            clear H1 H2' H3' hbx hbf hp hk0
            go_upto_region 6 with fail
            generalize wr.alloc (.cells #[.int .i64 x0, .int .i64 x1] 116) = W at *
            go_quiet (fail)
            go_wp2
            go_ret
            exact ⟨ret_bool HT.out.symm, below_drewN BA.out _⟩
          · have g1 : decide (x0 < y0) = false := decide_eq_false h1
            by_cases h2 : y0 = x0
            · subst h2
              by_cases h3 : x1 ≤ y1
              · have hp : plt (y0, y1) (y0, x1) = false := by
                  simp only [plt]
                  rw [decide_eq_false (by omega), decide_eq_false (show ¬ y1 < x1 by omega), Bool.and_false]; rfl
                have HT := Lib.hid (H2'.out (by omega) hp)
                have g3 : decide (x1 ≤ y1) = true := decide_eq_true h3
                clear H1 H2' H3' hbx hbf hp hk0
                go_upto_region 6 with fail
                generalize wr.alloc (.cells #[.int .i64 y0, .int .i64 x1] 116) = W at *
                go_quiet (fail)
                go_wp2
                go_ret
                exact ⟨ret_bool HT.out.symm, below_drewN BA.out _⟩
              · have hp : plt (y0, y1) (y0, x1) = true := by
                  simp [plt, show y1 < x1 by omega]
                have HT := Lib.hid (H3'.out hbf (.inr hp))
                have g3 : decide (x1 ≤ y1) = false := decide_eq_false h3
                clear H1 H2' H3' hbx hbf hp hk0
                go_upto_region 6 with fail
                generalize wr.alloc (.cells #[.int .i64 y0, .int .i64 x1] 116) = W at *
                go_quiet (fail)
                go_wp2
                go_roundw
                case rel => exact ⟨k + 1, by omega, by go_num, HT.out, below_drewN BA.out _⟩
                case measure => simp [intOf]; omega
            · have hp : plt (y0, y1) (x0, x1) = true := by
                simp only [plt]
                rw [decide_eq_true (show y0 < x0 by omega), Bool.true_or]
              have HT := Lib.hid (H3'.out hbf (.inr hp))
              have g2 : (y0 == x0) = false := by simpa using h2
              clear H1 H2' H3' hbx hbf hp hk0 h2
              go_upto_region 6 with fail
              generalize wr.alloc (.cells #[.int .i64 x0, .int .i64 x1] 116) = W at *
              go_quiet (fail)
              go_wp2
              go_roundw
              case rel => exact ⟨k + 1, by omega, by go_num, HT.out, below_drewN BA.out _⟩
              case measure => simp [intOf]; omega
    · have HT := Lib.hid (okP_end (by omega) hr)
      clear hr hb
      go_wp2
      go_ret
      exact ⟨ret_bool HT.out.symm, BW.out⟩

set_option maxRecDepth 100000 in
set_option maxHeartbeats 4000000 in
theorem refPairs_any (l : List P2) (A : Option Addr) (c : Nat) (w : World) (hl : l.length ≤ 1000) (hx : PrR w A l) (hm : ∀ p ∈ l, pmay p) :
    Calls Try.prog 35 #[.slice A l.length c] w fun e w' => e = .returned (.string ⟨(encPs l).toArray⟩) ∧ Below w.heap.size w w' := by
  have HX := Lib.hid hx
  have OK := Lib.hid hm
  have hn0 := Var.num_ten l.length (by omega)
  obtain ⟨S0, hS0⟩ : ∃ S : ByteArray, S = ⟨(Var.num l.length).toArray⟩ := ⟨_, rfl⟩
  have hz0 : S0.size ≤ 10 := by rw [hS0, mk_size]; exact hn0
  have cn := V.refNum_any l.length w (by omega)
  rw [← hS0] at cn
  have CN := Lib.hid cn
  have HS0 : Hid (S0.data.toList = Var.num l.length) := by unfold Hid; rw [hS0]
  clear hx hm cn hS0 hn0
  go_enter Try.func35, Try.ntmps35
  go_wp2_with (go_at_call 49; ((with_reducible refine CN.out.mono ?_); rintro e w1 ⟨rfl, hb1⟩; have B1 := Lib.hid hb1; clear hb1))
  go_loopw [3, 12] (fun t3 t12 wr => ∃ (k : Nat) (S : ByteArray), k ≤ l.length ∧ t3 = .string S ∧ t12 = .int .i64 (k : Int) ∧ S.size ≤ 20 * (k + 1) ∧ S.data.toList ++ encP (l.drop k) = encPs l ∧ Below w.heap.size w wr) (fun _ t12 _ => l.length - (intOf t12).toNat)
  case atStart => exact ⟨0, S0, Nat.zero_le _, rfl, rfl, by omega, by rw [HS0.out]; rfl, B1.out⟩
  case round =>
    obtain ⟨k, S, hk, rfl, rfl, hL, he, hbel⟩ := hrel
    clear B1 HS0
    have HE := Lib.hid he
    have BW := Lib.hid hbel
    have sw := hbel.size
    clear he hbel
    by_cases hlt : k < l.length
    · obtain ⟨b, off, hA, _, hc⟩ := (HX.out.below BW.out) (by omega)
      subst hA
      obtain ⟨c0, c1⟩ := hc k hlt
      have hkI : (k : Int) < (l.length : Int) := by omega
      obtain ⟨m0, m1, m2, m3⟩ := OK.out _ (List.getElem_mem hlt)
      have HD := Lib.hid (encP_drop l k hlt)
      clear hc
      generalize l[k] = x at *
      obtain ⟨x0, x1⟩ := x
      simp only at c0 c1 m0 m1 m2 m3 HD
      obtain ⟨n0, rfl⟩ := Int.eq_ofNat_of_zero_le m0
      obtain ⟨n1, rfl⟩ := Int.eq_ofNat_of_zero_le m2
      rw [Int.toNat_natCast, Int.toNat_natCast] at HD
      have hn0 := Var.num_ten n0 (by omega)
      have hn1 := Var.num_ten n1 (by omega)
      obtain ⟨T0, hT0⟩ : ∃ T : ByteArray, T = ⟨(Var.num n0).toArray⟩ := ⟨_, rfl⟩
      obtain ⟨T1, hT1⟩ : ∃ T : ByteArray, T = ⟨(Var.num n1).toArray⟩ := ⟨_, rfl⟩
      have hz0 : T0.size ≤ 10 := by rw [hT0, mk_size]; exact hn0
      have hz1 : T1.size ≤ 10 := by rw [hT1, mk_size]; exact hn1
      have cp0 := fun W => V.refNum_any n0 W (by omega)
      have cp1 := fun W => V.refNum_any n1 W (by omega)
      have hd0 : T0.data.toList = Var.num n0 := by rw [hT0]
      have hd1 : T1.data.toList = Var.num n1 := by rw [hT1]
      rw [← hT0] at cp0
      rw [← hT1] at cp1
      have CP0 := Lib.hid cp0
      have CP1 := Lib.hid cp1
      have HL2 : Hid ((S ++ (T0 ++ T1)).size ≤ 20 * (k + 1 + 1)) := by unfold Hid; rw [cat_size, cat_size]; omega
      have HE2 : Hid ((S ++ (T0 ++ T1)).data.toList ++ encP (l.drop (k + 1)) = encPs l) := by
        unfold Hid
        rw [cat_data, cat_data, hd0, hd1, List.append_assoc, List.append_assoc, ← HD.out]; exact HE.out
      have bA := (Below.refl wr.heap.size wr).alloc (Nat.le_refl _) (.cells #[.int .i64 (n0 : Int), .int .i64 (n1 : Int)] 116)
      have RA := heap_last wr (.cells #[.int .i64 (n0 : Int), .int .i64 (n1 : Int)] 116) wr.heap.size rfl
      have t0 := (row_cell (cs := [Value.int .i64 (n0 : Int), .int .i64 (n1 : Int)]) RA 0).trans rfl
      have t1 := (row_cell (cs := [Value.int .i64 (n0 : Int), .int .i64 (n1 : Int)]) RA 1).trans rfl
      have BA := Lib.hid (BW.out.trans (bA.mono sw))
      have lA := blk_lt RA
      clear hn0 hn1 cp0 cp1 hd0 hd1 hT0 hT1 HD HE
      go_upto_region 5 with fail
      generalize wr.alloc (.cells #[.int .i64 (n0 : Int), .int .i64 (n1 : Int)] 116) = W at *
      have r0 := fun x => Ov.Up.cell t0 lA x
      have r1 := fun x => Ov.Up.cell t1 lA x
      refine Ov.region (by kernel_rfl) (by kernel_rfl) (Ov.start W) ?_
      repeat (go_big_quiet_step (first | (go_at_call_of 49 (Value.int IntKind.u64 (n0 : Int)); exact Ov.Up.call (CP0.out _)) | (go_at_call_of 49 (Value.int IntKind.u64 (n1 : Int)); exact Ov.Up.call (CP1.out _))))
      refine wpQuiet_nil ?_
      rintro _ ⟨yo, rfl⟩
      have B4 := Lib.hid (BA.out.trans (yo.h.mono BA.out.size))
      clear r0 r1 t0 t1 RA
      generalize yo.w = w5 at *
      go_wp2
      go_roundw
      case rel => exact ⟨k + 1, _, by omega, rfl, by go_num, HL2.out, HE2.out, B4.out⟩
      case measure => simp [intOf]; omega
    · have hkl : k = l.length := by omega
      have HL : Hid (S = ⟨(encPs l).toArray⟩) := by
        unfold Hid
        refine of_bytes ?_
        rw [← HE.out, hkl, List.drop_length]
        simp [encP]
      clear HE hkl
      go_wp2
      go_ret
      exact ⟨ret_str HL.out, BW.out⟩

theorem cells2 : Try.prog.cellsOf 3 = 1 := by kernel_rfl
theorem neq_self (x0 x1 : Int) (w : World) : (binOp .neq 116 (.agg #[.int .i64 x0, .int .i64 x1]) (.agg #[.int .i64 x0, .int .i64 x1])).run Try.prog w = .ok (.bool false) w := by
  obtain ⟨i0, hi, hz0, hz1, hz2⟩ := info_parts info3
  rw [run_neq_struct, show (10000 : Nat) = 9999 + 1 from rfl, run_equalIn_array w 9999 _ _ Try.underlying116 hi, cells2]
  have p0 : (part 3 #[Value.int .i64 x0, .int .i64 x1] (0 * 1)).run Try.prog w = .ok (.int .i64 x0) w := by kernel_rfl
  have p1 : (part 3 #[Value.int .i64 x0, .int .i64 x1] (1 * 1)).run Try.prog w = .ok (.int .i64 x1) w := by kernel_rfl
  simp only [List.range, List.range.loop, Op.eqItems, Sem.run_bind, p0, Result.andThen_ok]
  rw [show (9999 : Nat) = 9998 + 1 from rfl]
  simp [run_equalIn_int _ _ _ _ _ _ _ Try.underlying3, p1]
/-- are they? -/
def psame : List P2 → List P2 → Bool
  | [], [] => true
  | x :: l, y :: m => decide (x = y) && psame l m
  | _, _ => false
theorem psame_iff : ∀ l m : List P2, psame l m = true ↔ l = m
  | [], [] => by simp [psame]
  | [], y :: m => by simp [psame]
  | x :: l, [] => by simp [psame]
  | x :: l, y :: m => by rw [psame, Bool.and_eq_true, decide_eq_true_iff, psame_iff l m, List.cons.injEq]
theorem psame_self (l : List P2) : psame l l = true := (psame_iff l l).2 rfl

set_option maxRecDepth 100000 in
set_option maxHeartbeats 2000000 in
theorem psame_any (l : List P2) (A A2 : Option Addr) (c d : Nat) (w : World) (hl : l.length ≤ 1000000) (hx : PrR w A l) (hy : PrR w A2 l) :
    Calls Try.prog 32 #[.slice A l.length c, .slice A2 l.length d] w fun e w' => e = .returned (.bool true) ∧ ∃ n, w' = w.drewN n := by
  have HX := Lib.hid hx
  have HY := Lib.hid hy
  clear hx hy
  go_enter Try.func32, Try.ntmps32
  go_wp2
  go_loopw [13] (fun i wr => ∃ k n : Nat, k ≤ l.length ∧ i = .int .i64 (k : Int) ∧ wr = w.drewN n) (fun i _ => l.length - (intOf i).toNat)
  case atStart => exact ⟨0, 0, Nat.zero_le _, rfl, rfl⟩
  case round =>
    obtain ⟨k, n, hk, rfl, rfl⟩ := hrel
    by_cases hlt : k < l.length
    · have bd := below_drewN (Below.refl w.heap.size w) n
      obtain ⟨b, off, hA, _, hc⟩ := (HX.out.below bd) (by omega)
      obtain ⟨b2, off2, hA2, _, hc2⟩ := (HY.out.below bd) (by omega)
      subst hA hA2
      obtain ⟨c0, c1⟩ := hc k hlt
      obtain ⟨d0, d1⟩ := hc2 k hlt
      clear hc hc2
      generalize l[k] = x at *
      obtain ⟨x0, x1⟩ := x
      simp only at c0 c1 d0 d1
      obtain ⟨W, hW⟩ : ∃ W, w.drewN n = W := ⟨_, rfl⟩
      rw [hW] at c0 c1 d0 d1 ⊢
      have HW := Lib.hid hW
      have hnq := fun V => neq_self x0 x1 V
      clear hW bd
      go_wp2
      go_quiet (fail)
      go_wp2
      go_roundw
      case rel => exact ⟨k + 1, n + nq, by omega, by go_num, by rw [← HW.out]; go_simp⟩
      case measure => simp [intOf]; omega
    · go_wp2
      go_ret
      exact ⟨rfl, n, rfl⟩
end Sc
end Go.Proofs.Ytedhijehmkiieaa
