/-
  The walk of the law HeatRanks.
-/
import Derived.Test.YtkbchpbdpkbnjaaHeatLawC
namespace Go.Proofs.Ytkbchpbdpkbnjaa
open Go.RowKit
namespace H
open I (below_drewN icells IntsAt own_ints)

theorem keyAt_get (f : List Nat) {i : Nat} (h : i < f.length) : Heat.keyAt f i = Heat.key f[i] := by
  unfold Heat.keyAt; simp [List.getD, List.getElem?_eq_getElem h]
theorem cmp_ranked {f o : List Nat} (h : Heat.Ranked f o) (j : Nat) (hj : j + 1 < o.length) (h1 : o[j] < f.length) (h2 : o[j + 1] < f.length) : 0 ≤ Heat.cmp f[o[j]] f[o[j + 1]] := by
  have ha := List.pairwise_iff_getElem.1 h.order j (j + 1) (by omega) hj (by omega)
  unfold Heat.ahead at ha
  rw [keyAt_get f h1, keyAt_get f h2] at ha
  unfold Heat.cmp
  rw [if_neg (by omega)]
  split <;> omega

set_option maxRecDepth 100000 in
set_option maxHeartbeats 2000000 in
theorem heatRanks_walk (l : List Nat) (A : Option Addr) (c : Nat) (w : World) (hl : l.length ≤ 9223372036854775807) (hbl : ∀ b ∈ l, b < 18446744073709551616) (hx : WordsAt w A l) :
    Calls Try.prog 7 #[.slice A l.length c] w fun e w' => e = .returned (.bool true) ∧ Below w.heap.size w w' := by
  have CF : Hid (∀ W, WordsAt W A l → Calls Try.prog 31 #[.slice A l.length c] W fun e w' => ∃ A' c', e = .returned (.slice A' (l.take 20).length c') ∧ FloatsAt w' A' (l.take 20) ∧ Below W.heap.size W w') := fun W h =>
    (floats_any l A c W hl h).mono fun e w' ⟨v, he, ho, hb⟩ => by
      obtain ⟨A', c', hv, hF, h1, h2⟩ := own_floatsC ho
      exact ⟨A', c', by rw [he, hv], hF, hb⟩
  have HX := Lib.hid hx
  have hfl : (l.take 20).length ≤ 20 := by rw [List.length_take]; omega
  have HB : Hid (∀ b ∈ l.take 20, b < 18446744073709551616) := fun b hb => hbl b (List.mem_of_mem_take hb)
  clear hx hbl hl
  generalize l.take 20 = f at *
  generalize l.length = n0 at *
  have CR : Hid (∀ W A c, FloatsAt W A f → Calls Try.prog 33 #[.slice A f.length c] W fun e w' => ∃ o A' c', Heat.Ranked f o ∧ e = .returned (.slice A' o.length c') ∧ IntsAt w' A' (ints o) ∧ Below W.heap.size W w') := fun W A c h =>
    (rank_any f A c W hfl HB.out h).mono fun e w' ⟨o, v, ho, he, hown, hb⟩ => by
      obtain ⟨A', c', hv, hI, _⟩ := own_ints hown
      rw [ints_length] at hv
      exact ⟨o, A', c', ho, by rw [he, hv], hI, hb⟩
  have CQ : Hid (∀ o, Heat.Ranked f o → ∀ W A c, FloatsAt W A f → Calls Try.prog 34 #[.slice A f.length c] W fun e w' => ∃ A' c', e = .returned (.slice A' o.length c') ∧ IntsAt w' A' (ints o) ∧ Below W.heap.size W w') := fun o ho W A c h =>
    (refRank_any f A c W (by omega) HB.out h).mono fun e w' ⟨v, o', he, ho', hown, hb⟩ => by
      have e' : o' = o := ho'.unique ho
      subst e'
      obtain ⟨A', c', hv, hI, _⟩ := own_ints hown
      rw [ints_length] at hv
      exact ⟨A', c', by rw [he, hv], hI, hb⟩
  go_enter Try.func7, Try.ntmps7
  go_wp2_with (first
    | (go_at_call 13; ((with_reducible refine (awake3 w).mono ?_); rintro e1 w1 ⟨rfl, b1⟩))
    | (go_at_call 31; ((with_reducible refine (CF.out _ (HX.out.below b1)).mono ?_); rintro e1 w2 ⟨A2, c2, rfl, hF, bb⟩; have b2 := b1.trans (bb.mono b1.size); have HF := Lib.hid hF; clear hF bb))
    | (go_at_call 33; ((with_reducible refine (CR.out _ _ _ HF.out).mono ?_); rintro e1 w3 ⟨o, A3, c3, ho, rfl, hI, bb⟩; have b3 := b2.trans (bb.mono b2.size); have HF3 := Lib.hid (HF.out.below bb); have HO := Lib.hid ho; have I3 := Lib.hid hI; clear hI bb ho))
    | (go_at_call 34; ((with_reducible refine (CQ.out _ HO.out _ _ _ HF3.out).mono ?_); rintro e1 w4 ⟨A4, c4, rfl, hI, bb⟩; have b4 := b3.trans (bb.mono b3.size); have HF4 := Lib.hid (HF3.out.below bb); have I4 := Lib.hid (I3.out.below bb); have J4 := Lib.hid hI; clear hI bb)))
  have hol : o.length ≤ 20 := by rw [HO.out.len]; exact hfl
  have LT : Hid (∀ k (h : k < o.length), o[k] < f.length) := fun k h => HO.out.lt _ (List.getElem_mem h)
  have IG : Hid (∀ k (h : k < o.length), (ints o)[k]'(by rw [ints_length]; exact h) = (o[k] : Int)) := fun k h => ints_at o k _ h
  go_loopw [22] (fun i wr => ∃ k n : Nat, k ≤ o.length ∧ i = .int .i64 (k : Int) ∧ wr = w4.drewN n) (fun i _ => o.length - (intOf i).toNat)
  case atStart => exact ⟨0, 0, Nat.zero_le _, rfl, rfl⟩
  case round =>
    obtain ⟨k, n, hk, rfl, rfl⟩ := hrel
    by_cases hlt : k < o.length
    · obtain ⟨b3', o3, hA3, _, hc3⟩ := I4.out (by rw [ints_length]; omega)
      obtain ⟨b4', o4, hA4, _, hc4⟩ := J4.out (by rw [ints_length]; omega)
      subst hA3 hA4
      have c3k := hc3 k (by rw [ints_length]; exact hlt)
      have c4k := hc4 k (by rw [ints_length]; exact hlt)
      rw [IG.out k hlt] at c3k c4k
      have hki : (k : Int) < (o.length : Int) := by omega
      cases k with
      | zero =>
        rw [Nat.add_zero] at c3k c4k
        clear hc3 hc4
        generalize o[0] = y at *
        have g1 : ((y : Int) != (y : Int)) = false := by simp
        have g2 : decide ((0 : Int) < ((0 : Nat) : Int)) = false := rfl
        have g3 : decide ((0 : Int) < 0) = false := rfl
        go_wp2_with fail
        go_quiet (fail)
        go_wp2
        go_roundw
        case rel => exact ⟨1, n + nq, by omega, by go_num, by go_simp⟩
        case measure => simp [intOf]; omega
      | succ j =>
        obtain ⟨bf, of_, hAf, _, hcf⟩ := HF4.out (by have := LT.out (j + 1) hlt; omega)
        subst hAf
        have hy := LT.out (j + 1) hlt
        have hz := LT.out j (by omega)
        have c3j := hc3 j (by rw [ints_length]; omega)
        rw [IG.out j (by omega)] at c3j
        have cy := hcf _ hy
        have cz := hcf _ hz
        have CC := Lib.hid (fun W => refCompare_any f[o[j]] f[o[j + 1]] W (HB.out _ (List.getElem_mem hz)) (HB.out _ (List.getElem_mem hy)))
        have hcmp := cmp_ranked HO.out j hlt hz hy
        clear hc3 hc4 hcf
        generalize f[o[j]] = fz at *
        generalize f[o[j + 1]] = fy at *
        generalize o[j + 1] = y at *
        generalize o[j] = z at *
        generalize Heat.cmp fz fy = q at *
        have g1 : ((y : Int) != (y : Int)) = false := by simp
        have g2 : decide ((0 : Int) < ((j : Int) + 1)) = true := decide_eq_true (by omega)
        have g4 : decide (q < 0) = false := decide_eq_false (by omega)
        have g5 : (j : Int) < (o.length : Int) := by omega
        have hwp : IntKind.i64.wrap (j : Int) = (j : Int) := by rw [IntKind.wrap_i64]; omega
        have g6 : (j : Int) + 1 < (o.length : Int) := by omega
        have g7 : (0 : Int) ≤ (j : Int) + 1 := by omega
        have g8 : ((j : Int) + 1).toNat = j + 1 := by omega
        have hyi : (y : Int) < (f.length : Int) := by omega
        have hzi : (z : Int) < (f.length : Int) := by omega
        have C3k : (w4.drewN n).cell? ⟨b3', o3 + (j + 1), none⟩ = some (.int .i64 (y : Int)) := c3k
        have C4k : (w4.drewN n).cell? ⟨b4', o4 + (j + 1), none⟩ = some (.int .i64 (y : Int)) := c4k
        have C3j : (w4.drewN n).cell? ⟨b3', o3 + j, none⟩ = some (.int .i64 (z : Int)) := c3j
        have Cy : (w4.drewN n).cell? ⟨bf, of_ + y, none⟩ = some (.float .f64 fy) := cy
        have Cz : (w4.drewN n).cell? ⟨bf, of_ + z, none⟩ = some (.float .f64 fz) := cz
        clear c3k c4k c3j cy cz
        obtain ⟨wq, hwq⟩ : ∃ wq, w4.drewN n = wq := ⟨_, rfl⟩
        have HW : Hid (∀ m, wq.drewN m = w4.drewN (n + m)) := fun m => by rw [← hwq, World.drewN_drewN]
        rw [hwq] at C3k C4k C3j Cy Cz ⊢
        clear hwq
        go_wp2_with fail
        go_quiet (first | (go_at_call 16; exact Calls.quiet_of_same ((CC.out _).mono fun e w' h => ⟨h.1, h.2.symm⟩)))
        go_wp2
        go_roundw
        case rel => exact ⟨j + 1 + 1, n + nq, by omega, by go_num, HW.out nq⟩
        case measure => simp [intOf]; omega
    · go_wp2
      go_ret
      exact ⟨rfl, below_drewN b4 _⟩
end H
end Go.Proofs.Ytkbchpbdpkbnjaa
