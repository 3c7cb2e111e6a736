/-
  The walk of the statement PagesRefuses.
-/
import Derived.Test.YtgilmcmanomkiaaPagesAw
namespace Go.Proofs.Ytgilmcmanomkiaa
open Go.RowKit
namespace Pg
open B Dsk
theorem new_get (n : Nat) {i : Nat} (h : i < n) : (new n).now.getD i ⟨#[]⟩ = zero := by
  rw [List.getD_eq_getElem?_getD, List.getElem?_eq_getElem (by rw [new_len]; exact h)]
  simp [new]
theorem read_new {n : Nat} (h2 : 2 ≤ n) (hn : n ≤ 65536) {half next i : Int} (hm : mayOpen (new n) half next) (h0 : 0 ≤ i) (h1 : i < next) : pread (new n) half next i = (0, ⟨#[]⟩, 8) := by
  have hz := new_sz h2 hn
  obtain ⟨s0, s1⟩ := sec_in hz hm.1 h0 (by have := hm.2.2; omega : i < (room (new n) : Int))
  rw [new_len] at s1
  rw [pread_up (new_up n) hz hm.1 h0 h1 hm.2.2, new_get n (by omega), zero_bad]
def xB : ByteArray := ⟨#[120]⟩
theorem halted_app {n : Nat} (h2 : 2 ≤ n) (hn : n ≤ 65536) {half next : Int} (hm : mayOpen (new n) half next) :
    (next = (room (new n) : Int) ∧ (papp (halt (new n) 0) half next 1 xB).2 = (next, -1, 5)) ∨ (next < (room (new n) : Int) ∧ (papp (halt (new n) 0) half next 1 xB).2 = (next, -1, 6)) := by
  have hz := new_sz h2 hn
  have hr : room (halt (new n) 0) = room (new n) := rfl
  rcases Int.lt_or_le next (room (new n) : Int) with h | h
  · right
    obtain ⟨s0, s1⟩ := sec_in hz hm.1 hm.2.1 h
    refine ⟨h, ?_⟩
    have hw : ∀ s : ByteArray, s.size ≤ 256 → (write (halt (new n) 0) (sec (new n) half next) s).2 = 6 := by
      intro s hs
      unfold write turn
      rw [if_neg (show ¬ (halt (new n) 0).down = true by show ¬ false = true; decide), if_neg (by show ¬ (_ < 0 ∨ ((new n).now.length : Int) ≤ _); omega), if_neg (by omega), if_pos (show (halt (new n) 0).halt = 0 from rfl)]
      rfl
    have e := hw (ptxt 1 xB) (by rw [ptxt_size (by decide)]; exact Nat.le_refl _)
    unfold papp
    rw [if_neg (by decide), if_neg (by rw [hr]; omega)]
    show (if (write (halt (new n) 0) (sec (new n) half next) (ptxt 1 xB)).2 = 0 then _ else _ : D × Int × Int × Int).2 = _
    rw [e, if_neg (by decide)]
    show (next, -1, (write (halt (new n) 0) (sec (new n) half next) (ptxt 1 xB)).2) = _
    rw [e]
  · left
    have := hm.2.2
    refine ⟨by omega, ?_⟩
    rw [papp_full (by decide) (by rw [hr]; omega)]

set_option maxRecDepth 100000 in
set_option maxHeartbeats 4000000 in
theorem pagesRefuses_walk (half next size : Int) (w : World) :
    Calls Try.prog 5 #[.int .i64 half, .int .i64 next, .int .i64 size] w fun e w' => e = .returned (.bool true) ∧ Below w.heap.size w w' := by
  have CA := Lib.hid (awake_any w)
  obtain ⟨n, hnn⟩ : ∃ n : Nat, max 2 (min size 40) = (n : Int) := ⟨(max 2 (min size 40)).toNat, by omega⟩
  have h2 : 2 ≤ n := by omega
  have hn : n ≤ 40 := by omega
  have CN := Lib.hid (fun W => new_my n n W rfl h2 (by omega))
  have hsz := Lib.hid (new_sz (n := n) h2 (by omega))
  have hrm := room_new n
  have CS := Lib.hid (fun b W (hp : DAt W b (new n)) => size_any b (new n) W hp)
  rw [new_len] at CS
  by_cases hm : mayOpen (new n) half next
  · have CO := Lib.hid (fun B b W (hp : My B W b (new n)) => open_my b (new n) half next W hp hsz.out hm)
    have HRD := Lib.hid (fun i h0 h1 => read_new h2 (show n ≤ 65536 by omega) hm (i := i) h0 h1)
    have CR := Lib.hid (fun B b g W i (hp : PMy B W b (new n) g half next) => pread_my b (new n) g half next i W hp)
    have CH := Lib.hid (fun B b g W (hp : PMy B W b (new n) g half next) => halt_p b (new n) g half next 0 0 W hp (.inl rfl) (by omega) (by omega))
    have HAP := Lib.hid (fun B b g W hp => papp_my (B := B) b (halt (new n) 0) g half next 1 xB W hp (show (0 : Int) < 1000000 by omega))
    have hfin := halted_app h2 (show n ≤ 65536 by omega) hm
    have hm3 := hm
    unfold mayOpen at hm3
    rw [hrm] at hm3 hfin
    generalize papp (halt (new n) 0) half next 1 xB = r at *
    obtain ⟨d3, r2⟩ := r
    unfold xB at *
    simp only at hfin HAP
    generalize halt (new n) 0 = d1 at *
    generalize new n = d0 at *
    have hq : (((n - 2) / 2 : Nat) : Int) = ((n : Int) - 2) / 2 := by omega
    rw [hq] at hm3 hfin
    obtain ⟨hh, hn0, hn1⟩ := hm3
    have hnr : next ≤ 9223372036854775807 := by omega
    clear hm hrm hq
    rcases hh with rfl | rfl
    · rcases hfin with ⟨hf1, hf2⟩ | ⟨hf1, hf2⟩
      · rw [hf2] at HAP
        have hfb : (next == ((n : Int) - 2) / 2) = true := by simpa using hf1
        have hfl : ¬ next < ((n : Int) - 2) / 2 := by omega
        clear hf1 hf2
        go_enter Try.func5, Try.ntmps5
        go_wp2_with (first
          | (go_at_call 11; ((with_reducible refine CA.out.mono ?_); rintro e w1 ⟨rfl, hb1⟩; have B1 := Lib.hid hb1; clear hb1))
          | (go_at_call 12; ((with_reducible refine (CN.out _).mono ?_); rintro e w2 ⟨b, rfl, hm2, hb2⟩; have M2 := Lib.hid hm2; have B2 := Lib.hid (B1.out.trans (hb2.mono B1.out.size)); have s2 := hb2.size; clear hm2 hb2; have CS1 := Lib.hid (CS.out _ _ M2.out.at'); have CO1 := Lib.hid (CO.out _ _ _ M2.out s2)))
          | (go_at_call 13; ((with_reducible refine CS1.out.mono ?_); rintro e w' ⟨rfl, rfl⟩))
          | (go_at_call 14; ((with_reducible refine CO1.out.mono ?_); rintro e w3 ⟨g, rfl, hp3, hb3⟩; have P3 := Lib.hid hp3; have B3 := Lib.hid (B2.out.trans (hb3.mono B2.out.size)); have s3 := hb3.size; have s1 := B1.out.size; clear hp3 hb3)))
        go_loopw [73] (fun t73 wr => ∃ k : Nat, (k : Int) ≤ next ∧ t73 = .int .i64 (k : Int) ∧ PMy w1.heap.size wr b d0 g _ next ∧ Below w1.heap.size w3 wr) (fun t73 _ => next.toNat - (intOf t73).toNat)
        case atStart => exact ⟨0, by omega, rfl, P3.out, Below.refl _ _⟩
        case round =>
          obtain ⟨k, hk, rfl, hp, hb⟩ := hrel
          have PP := Lib.hid hp
          have BB := Lib.hid hb
          have sb := hb.size
          clear hp hb
          by_cases hlt : (k : Int) < next
          · have cr := CR.out _ _ _ _ (k : Int) PP.out
            rw [HRD.out (k : Int) (by omega) hlt] at cr
            have CR1 := Lib.hid cr
            clear cr
            go_wp2_with (go_at_call 17; ((with_reducible refine CR1.out.mono ?_); rintro e w4 ⟨rfl, hb4⟩; have P4 := Lib.hid (PP.out.below hb4); have B4 := Lib.hid (BB.out.trans (hb4.mono (by omega))); clear hb4))
            go_roundw
            case rel => exact ⟨k + 1, by omega, by go_num, P4.out, B4.out⟩
            case measure => simp [intOf]; omega
          · have CH1 := Lib.hid (CH.out _ _ _ _ PP.out (by omega))
            go_wp2_with (first
              | (go_at_call 32; ((with_reducible refine CH1.out.mono ?_); rintro e w4 ⟨rfl, hp4, hb4⟩; have s4 := hb4.size; have P4 := Lib.hid hp4; have B4 := Lib.hid hb4; clear hp4 hb4; have CA1 := Lib.hid (HAP.out _ _ _ _ P4.out (by omega))))
              | (go_at_call 24; ((with_reducible refine CA1.out.mono ?_); rintro e w5 ⟨rfl, hp5, hb5⟩; have P5 := Lib.hid hp5; have B5 := Lib.hid hb5; clear hp5 hb5; have CX := Lib.hid (next_my _ _ _ _ _ _ P5.out)))
              | (go_at_call 26; ((with_reducible refine CX.out.mono ?_); rintro e w' ⟨rfl, rfl⟩)))
            go_ret
            exact ⟨rfl, B3.out.trans (((BB.out.trans B4.out).trans B5.out).mono s1)⟩
      · rw [hf2] at HAP
        have hfb : (next == ((n : Int) - 2) / 2) = false := by rw [beq_eq_false_iff_ne]; omega
        clear hf2
        go_enter Try.func5, Try.ntmps5
        go_wp2_with (first
          | (go_at_call 11; ((with_reducible refine CA.out.mono ?_); rintro e w1 ⟨rfl, hb1⟩; have B1 := Lib.hid hb1; clear hb1))
          | (go_at_call 12; ((with_reducible refine (CN.out _).mono ?_); rintro e w2 ⟨b, rfl, hm2, hb2⟩; have M2 := Lib.hid hm2; have B2 := Lib.hid (B1.out.trans (hb2.mono B1.out.size)); have s2 := hb2.size; clear hm2 hb2; have CS1 := Lib.hid (CS.out _ _ M2.out.at'); have CO1 := Lib.hid (CO.out _ _ _ M2.out s2)))
          | (go_at_call 13; ((with_reducible refine CS1.out.mono ?_); rintro e w' ⟨rfl, rfl⟩))
          | (go_at_call 14; ((with_reducible refine CO1.out.mono ?_); rintro e w3 ⟨g, rfl, hp3, hb3⟩; have P3 := Lib.hid hp3; have B3 := Lib.hid (B2.out.trans (hb3.mono B2.out.size)); have s3 := hb3.size; have s1 := B1.out.size; clear hp3 hb3)))
        go_loopw [73] (fun t73 wr => ∃ k : Nat, (k : Int) ≤ next ∧ t73 = .int .i64 (k : Int) ∧ PMy w1.heap.size wr b d0 g _ next ∧ Below w1.heap.size w3 wr) (fun t73 _ => next.toNat - (intOf t73).toNat)
        case atStart => exact ⟨0, by omega, rfl, P3.out, Below.refl _ _⟩
        case round =>
          obtain ⟨k, hk, rfl, hp, hb⟩ := hrel
          have PP := Lib.hid hp
          have BB := Lib.hid hb
          have sb := hb.size
          clear hp hb
          by_cases hlt : (k : Int) < next
          · have cr := CR.out _ _ _ _ (k : Int) PP.out
            rw [HRD.out (k : Int) (by omega) hlt] at cr
            have CR1 := Lib.hid cr
            clear cr
            go_wp2_with (go_at_call 17; ((with_reducible refine CR1.out.mono ?_); rintro e w4 ⟨rfl, hb4⟩; have P4 := Lib.hid (PP.out.below hb4); have B4 := Lib.hid (BB.out.trans (hb4.mono (by omega))); clear hb4))
            go_roundw
            case rel => exact ⟨k + 1, by omega, by go_num, P4.out, B4.out⟩
            case measure => simp [intOf]; omega
          · have CH1 := Lib.hid (CH.out _ _ _ _ PP.out (by omega))
            go_wp2_with (first
              | (go_at_call 32; ((with_reducible refine CH1.out.mono ?_); rintro e w4 ⟨rfl, hp4, hb4⟩; have s4 := hb4.size; have P4 := Lib.hid hp4; have B4 := Lib.hid hb4; clear hp4 hb4; have CA1 := Lib.hid (HAP.out _ _ _ _ P4.out (by omega))))
              | (go_at_call 24; ((with_reducible refine CA1.out.mono ?_); rintro e w5 ⟨rfl, hp5, hb5⟩; have P5 := Lib.hid hp5; have B5 := Lib.hid hb5; clear hp5 hb5; have CX := Lib.hid (next_my _ _ _ _ _ _ P5.out)))
              | (go_at_call 26; ((with_reducible refine CX.out.mono ?_); rintro e w' ⟨rfl, rfl⟩)))
            go_ret
            exact ⟨rfl, B3.out.trans (((BB.out.trans B4.out).trans B5.out).mono s1)⟩
    · rcases hfin with ⟨hf1, hf2⟩ | ⟨hf1, hf2⟩
      · rw [hf2] at HAP
        have hfb : (next == ((n : Int) - 2) / 2) = true := by simpa using hf1
        have hfl : ¬ next < ((n : Int) - 2) / 2 := by omega
        clear hf1 hf2
        go_enter Try.func5, Try.ntmps5
        go_wp2_with (first
          | (go_at_call 11; ((with_reducible refine CA.out.mono ?_); rintro e w1 ⟨rfl, hb1⟩; have B1 := Lib.hid hb1; clear hb1))
          | (go_at_call 12; ((with_reducible refine (CN.out _).mono ?_); rintro e w2 ⟨b, rfl, hm2, hb2⟩; have M2 := Lib.hid hm2; have B2 := Lib.hid (B1.out.trans (hb2.mono B1.out.size)); have s2 := hb2.size; clear hm2 hb2; have CS1 := Lib.hid (CS.out _ _ M2.out.at'); have CO1 := Lib.hid (CO.out _ _ _ M2.out s2)))
          | (go_at_call 13; ((with_reducible refine CS1.out.mono ?_); rintro e w' ⟨rfl, rfl⟩))
          | (go_at_call 14; ((with_reducible refine CO1.out.mono ?_); rintro e w3 ⟨g, rfl, hp3, hb3⟩; have P3 := Lib.hid hp3; have B3 := Lib.hid (B2.out.trans (hb3.mono B2.out.size)); have s3 := hb3.size; have s1 := B1.out.size; clear hp3 hb3)))
        go_loopw [73] (fun t73 wr => ∃ k : Nat, (k : Int) ≤ next ∧ t73 = .int .i64 (k : Int) ∧ PMy w1.heap.size wr b d0 g _ next ∧ Below w1.heap.size w3 wr) (fun t73 _ => next.toNat - (intOf t73).toNat)
        case atStart => exact ⟨0, by omega, rfl, P3.out, Below.refl _ _⟩
        case round =>
          obtain ⟨k, hk, rfl, hp, hb⟩ := hrel
          have PP := Lib.hid hp
          have BB := Lib.hid hb
          have sb := hb.size
          clear hp hb
          by_cases hlt : (k : Int) < next
          · have cr := CR.out _ _ _ _ (k : Int) PP.out
            rw [HRD.out (k : Int) (by omega) hlt] at cr
            have CR1 := Lib.hid cr
            clear cr
            go_wp2_with (go_at_call 17; ((with_reducible refine CR1.out.mono ?_); rintro e w4 ⟨rfl, hb4⟩; have P4 := Lib.hid (PP.out.below hb4); have B4 := Lib.hid (BB.out.trans (hb4.mono (by omega))); clear hb4))
            go_roundw
            case rel => exact ⟨k + 1, by omega, by go_num, P4.out, B4.out⟩
            case measure => simp [intOf]; omega
          · have CH1 := Lib.hid (CH.out _ _ _ _ PP.out (by omega))
            go_wp2_with (first
              | (go_at_call 32; ((with_reducible refine CH1.out.mono ?_); rintro e w4 ⟨rfl, hp4, hb4⟩; have s4 := hb4.size; have P4 := Lib.hid hp4; have B4 := Lib.hid hb4; clear hp4 hb4; have CA1 := Lib.hid (HAP.out _ _ _ _ P4.out (by omega))))
              | (go_at_call 24; ((with_reducible refine CA1.out.mono ?_); rintro e w5 ⟨rfl, hp5, hb5⟩; have P5 := Lib.hid hp5; have B5 := Lib.hid hb5; clear hp5 hb5; have CX := Lib.hid (next_my _ _ _ _ _ _ P5.out)))
              | (go_at_call 26; ((with_reducible refine CX.out.mono ?_); rintro e w' ⟨rfl, rfl⟩)))
            go_ret
            exact ⟨rfl, B3.out.trans (((BB.out.trans B4.out).trans B5.out).mono s1)⟩
      · rw [hf2] at HAP
        have hfb : (next == ((n : Int) - 2) / 2) = false := by rw [beq_eq_false_iff_ne]; omega
        clear hf2
        go_enter Try.func5, Try.ntmps5
        go_wp2_with (first
          | (go_at_call 11; ((with_reducible refine CA.out.mono ?_); rintro e w1 ⟨rfl, hb1⟩; have B1 := Lib.hid hb1; clear hb1))
          | (go_at_call 12; ((with_reducible refine (CN.out _).mono ?_); rintro e w2 ⟨b, rfl, hm2, hb2⟩; have M2 := Lib.hid hm2; have B2 := Lib.hid (B1.out.trans (hb2.mono B1.out.size)); have s2 := hb2.size; clear hm2 hb2; have CS1 := Lib.hid (CS.out _ _ M2.out.at'); have CO1 := Lib.hid (CO.out _ _ _ M2.out s2)))
          | (go_at_call 13; ((with_reducible refine CS1.out.mono ?_); rintro e w' ⟨rfl, rfl⟩))
          | (go_at_call 14; ((with_reducible refine CO1.out.mono ?_); rintro e w3 ⟨g, rfl, hp3, hb3⟩; have P3 := Lib.hid hp3; have B3 := Lib.hid (B2.out.trans (hb3.mono B2.out.size)); have s3 := hb3.size; have s1 := B1.out.size; clear hp3 hb3)))
        go_loopw [73] (fun t73 wr => ∃ k : Nat, (k : Int) ≤ next ∧ t73 = .int .i64 (k : Int) ∧ PMy w1.heap.size wr b d0 g _ next ∧ Below w1.heap.size w3 wr) (fun t73 _ => next.toNat - (intOf t73).toNat)
        case atStart => exact ⟨0, by omega, rfl, P3.out, Below.refl _ _⟩
        case round =>
          obtain ⟨k, hk, rfl, hp, hb⟩ := hrel
          have PP := Lib.hid hp
          have BB := Lib.hid hb
          have sb := hb.size
          clear hp hb
          by_cases hlt : (k : Int) < next
          · have cr := CR.out _ _ _ _ (k : Int) PP.out
            rw [HRD.out (k : Int) (by omega) hlt] at cr
            have CR1 := Lib.hid cr
            clear cr
            go_wp2_with (go_at_call 17; ((with_reducible refine CR1.out.mono ?_); rintro e w4 ⟨rfl, hb4⟩; have P4 := Lib.hid (PP.out.below hb4); have B4 := Lib.hid (BB.out.trans (hb4.mono (by omega))); clear hb4))
            go_roundw
            case rel => exact ⟨k + 1, by omega, by go_num, P4.out, B4.out⟩
            case measure => simp [intOf]; omega
          · have CH1 := Lib.hid (CH.out _ _ _ _ PP.out (by omega))
            go_wp2_with (first
              | (go_at_call 32; ((with_reducible refine CH1.out.mono ?_); rintro e w4 ⟨rfl, hp4, hb4⟩; have s4 := hb4.size; have P4 := Lib.hid hp4; have B4 := Lib.hid hb4; clear hp4 hb4; have CA1 := Lib.hid (HAP.out _ _ _ _ P4.out (by omega))))
              | (go_at_call 24; ((with_reducible refine CA1.out.mono ?_); rintro e w5 ⟨rfl, hp5, hb5⟩; have P5 := Lib.hid hp5; have B5 := Lib.hid hb5; clear hp5 hb5; have CX := Lib.hid (next_my _ _ _ _ _ _ P5.out)))
              | (go_at_call 26; ((with_reducible refine CX.out.mono ?_); rintro e w' ⟨rfl, rfl⟩)))
            go_ret
            exact ⟨rfl, B3.out.trans (((BB.out.trans B4.out).trans B5.out).mono s1)⟩
  · have CO := Lib.hid (fun b W (hp : DAt W b (new n)) => open_no b (new n) half next W hp hsz.out hm)
    unfold mayOpen at hm
    rw [hrm] at hm
    generalize new n = d0 at *
    clear hrm
    have hq : ((n : Int) - 2) / 2 = (((n - 2) / 2 : Nat) : Int) := by omega
    by_cases h1 : half = 0 ∨ half = 1
    · have hbad : next < 0 ∨ 0 ≤ next ∧ ((n : Int) - 2) / 2 < next := by
        rcases Int.lt_or_le next 0 with h | h
        · exact .inl h
        · refine .inr ⟨h, ?_⟩
          rcases Int.lt_or_le (((n : Int) - 2) / 2) next with h3 | h3
          · exact h3
          · exact absurd ⟨h1, h, by omega⟩ hm
      clear hm hq
      rcases h1 with rfl | rfl
      · rcases hbad with hbad | ⟨hb0, hbad⟩
        · go_enter Try.func5, Try.ntmps5
          go_wp2_with (first
            | (go_at_call 11; ((with_reducible refine CA.out.mono ?_); rintro e w1 ⟨rfl, hb1⟩; have B1 := Lib.hid hb1; clear hb1))
            | (go_at_call 12; ((with_reducible refine (CN.out _).mono ?_); rintro e w2 ⟨b, rfl, hm2, hb2⟩; have M2 := Lib.hid hm2; have B2 := Lib.hid (B1.out.trans (hb2.mono B1.out.size)); clear hm2 hb2; have CS1 := Lib.hid (CS.out _ _ M2.out.at'); have CO1 := Lib.hid (CO.out _ _ M2.out.at')))
            | (go_at_call 13; ((with_reducible refine CS1.out.mono ?_); rintro e w' ⟨rfl, rfl⟩))
            | (go_at_call 14; ((with_reducible refine CO1.out.mono ?_); rintro e w' ⟨rfl, rfl⟩)))
          go_ret
          exact ⟨rfl, B2.out⟩
        · have hbd : decide (next ≤ ((n : Int) - 2) / 2) = false := decide_eq_false (by omega)
          go_enter Try.func5, Try.ntmps5
          go_wp2_with (first
            | (go_at_call 11; ((with_reducible refine CA.out.mono ?_); rintro e w1 ⟨rfl, hb1⟩; have B1 := Lib.hid hb1; clear hb1))
            | (go_at_call 12; ((with_reducible refine (CN.out _).mono ?_); rintro e w2 ⟨b, rfl, hm2, hb2⟩; have M2 := Lib.hid hm2; have B2 := Lib.hid (B1.out.trans (hb2.mono B1.out.size)); clear hm2 hb2; have CS1 := Lib.hid (CS.out _ _ M2.out.at'); have CO1 := Lib.hid (CO.out _ _ M2.out.at')))
            | (go_at_call 13; ((with_reducible refine CS1.out.mono ?_); rintro e w' ⟨rfl, rfl⟩))
            | (go_at_call 14; ((with_reducible refine CO1.out.mono ?_); rintro e w' ⟨rfl, rfl⟩)))
          go_ret
          exact ⟨rfl, B2.out⟩
      · rcases hbad with hbad | ⟨hb0, hbad⟩
        · go_enter Try.func5, Try.ntmps5
          go_wp2_with (first
            | (go_at_call 11; ((with_reducible refine CA.out.mono ?_); rintro e w1 ⟨rfl, hb1⟩; have B1 := Lib.hid hb1; clear hb1))
            | (go_at_call 12; ((with_reducible refine (CN.out _).mono ?_); rintro e w2 ⟨b, rfl, hm2, hb2⟩; have M2 := Lib.hid hm2; have B2 := Lib.hid (B1.out.trans (hb2.mono B1.out.size)); clear hm2 hb2; have CS1 := Lib.hid (CS.out _ _ M2.out.at'); have CO1 := Lib.hid (CO.out _ _ M2.out.at')))
            | (go_at_call 13; ((with_reducible refine CS1.out.mono ?_); rintro e w' ⟨rfl, rfl⟩))
            | (go_at_call 14; ((with_reducible refine CO1.out.mono ?_); rintro e w' ⟨rfl, rfl⟩)))
          go_ret
          exact ⟨rfl, B2.out⟩
        · have hbd : decide (next ≤ ((n : Int) - 2) / 2) = false := decide_eq_false (by omega)
          go_enter Try.func5, Try.ntmps5
          go_wp2_with (first
            | (go_at_call 11; ((with_reducible refine CA.out.mono ?_); rintro e w1 ⟨rfl, hb1⟩; have B1 := Lib.hid hb1; clear hb1))
            | (go_at_call 12; ((with_reducible refine (CN.out _).mono ?_); rintro e w2 ⟨b, rfl, hm2, hb2⟩; have M2 := Lib.hid hm2; have B2 := Lib.hid (B1.out.trans (hb2.mono B1.out.size)); clear hm2 hb2; have CS1 := Lib.hid (CS.out _ _ M2.out.at'); have CO1 := Lib.hid (CO.out _ _ M2.out.at')))
            | (go_at_call 13; ((with_reducible refine CS1.out.mono ?_); rintro e w' ⟨rfl, rfl⟩))
            | (go_at_call 14; ((with_reducible refine CO1.out.mono ?_); rintro e w' ⟨rfl, rfl⟩)))
          go_ret
          exact ⟨rfl, B2.out⟩
    · have e0 : (half == 0) = false := by rw [beq_eq_false_iff_ne]; omega
      have e1 : (half == 1) = false := by rw [beq_eq_false_iff_ne]; omega
      clear hm h1 hq
      go_enter Try.func5, Try.ntmps5
      go_wp2_with (first
        | (go_at_call 11; ((with_reducible refine CA.out.mono ?_); rintro e w1 ⟨rfl, hb1⟩; have B1 := Lib.hid hb1; clear hb1))
        | (go_at_call 12; ((with_reducible refine (CN.out _).mono ?_); rintro e w2 ⟨b, rfl, hm2, hb2⟩; have M2 := Lib.hid hm2; have B2 := Lib.hid (B1.out.trans (hb2.mono B1.out.size)); clear hm2 hb2; have CS1 := Lib.hid (CS.out _ _ M2.out.at'); have CO1 := Lib.hid (CO.out _ _ M2.out.at')))
        | (go_at_call 13; ((with_reducible refine CS1.out.mono ?_); rintro e w' ⟨rfl, rfl⟩))
        | (go_at_call 14; ((with_reducible refine CO1.out.mono ?_); rintro e w' ⟨rfl, rfl⟩)))
      go_ret
      exact ⟨rfl, B2.out⟩
end Pg
end Go.Proofs.Ytgilmcmanomkiaa
