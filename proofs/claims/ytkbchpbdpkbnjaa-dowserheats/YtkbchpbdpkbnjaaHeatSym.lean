/-
  What the library's symMerge does (of the stable sort): two sorted runs become one.
-/
import Derived.Test.YtkbchpbdpkbnjaaHeatRot
namespace Go.Proofs.Ytkbchpbdpkbnjaa
open Go.RowKit Go.Sort
namespace H

/-- the closure, in the walk's own spelling -/
theorem less_lt {n : Nat} (l : List Nat) (hl : l.length = n + 1) (hbl : ∀ b ∈ l, b < 18446744073709551616) {W : World} {g bx b1 o1 c : Nat} (E : Env W g bx b1 o1 c l) (x y : Fin (n + 1)) (q : Nat) :
    Calls Try.prog 59 #[.int .i64 (x.val : Int), .int .i64 (y.val : Int), .pointer (some ⟨bx, 0, none⟩)] (W.drewN q) fun e w' => e = .returned (.int .i64 (Heat.cfOf l x y)) ∧ ∃ r, w' = (W.drewN q).drewN r :=
  less_any l hl hbl (W := W.drewN q) (g := g) (c := c) ⟨E.box, E.boxl, E.boxn, E.b1l, E.b1n, E.at_⟩ x y

set_option maxRecDepth 100000 in
set_option maxHeartbeats 2000000 in
theorem sym_left {n : Nat} (hn : n ≤ 1000) (l : List Nat) (hl : l.length = n + 1) (hbl : ∀ b ∈ l, b < 18446744073709551616) {W : World} {g bx b1 o1 c : Nat} (E : Env W g bx b1 o1 c l) (cap : Nat) (d : Array (Fin (n + 1))) (hd : d.size = n + 1) (hH : Holds encP W g 0 d) (a b : Nat) (hab : a + 1 < b) (hb : b ≤ n + 1)
    (hR : Heat.Runs (fun i : Fin (n + 1) => i.val) (Heat.ltP l) a (a + 1) b d) :
    Calls Try.prog 79 #[.slice (some ⟨g, 0, none⟩) (n + 1) cap, .int .i64 (a : Int), .int .i64 ((a : Int) + 1), .int .i64 (b : Int), .func (.func 59) #[] #[.pointer (some ⟨bx, 0, none⟩)]] W fun e w' =>
      e = .returned (.tuple #[]) ∧ ∃ d' q, PermIn a b d d' ∧ SortedIn (Heat.ltP l) a b d' ∧ w' = (putRow encP W g 0 d').drewN q := by
  have HH := Lib.hid hH
  have HST : Hid (W = (putRow encP W g 0 d).drewN 0) := (putRow_self encP W g 0 d hH).symm
  have HL := Lib.hid (fun x y q => less_lt l hl hbl E x y q)
  have HR := Lib.hid hR
  clear hH hR E hl hbl
  have hm1 : ((a : Int) + 1 - (a : Int) == 1) = true := by rw [beq_iff_eq]; omega
  go_enter Try.func79, Try.ntmps79
  go_wp2_with fail
  go_loopw [10, 11] (fun v10 v11 wr => ∃ (i j q : Nat), a + 1 ≤ i ∧ i ≤ j ∧ j ≤ b ∧ v10 = .int .i64 (i : Int) ∧ v11 = .int .i64 (j : Int) ∧ (∀ k, a + 1 ≤ k → k < i → Heat.ltP l d[k]! d[a]! = true) ∧ (∀ k, j ≤ k → k < b → Heat.ltP l d[k]! d[a]! = false) ∧ wr = W.drewN q) (fun v10 v11 _ => (intOf v11).toNat - (intOf v10).toNat)
  case atStart => exact ⟨a + 1, b, 0, Nat.le_refl _, by omega, Nat.le_refl _, by go_num, rfl, fun k h1 h2 => absurd h2 (by omega), fun k h1 h2 => absurd h2 (by omega), rfl⟩
  case round =>
    obtain ⟨i, j, q, hai, hij, hjb, rfl, rfl, hlo, hhi, rfl⟩ := hrel
    have HLO := Lib.hid hlo
    have HHI := Lib.hid hhi
    clear hlo hhi
    by_cases hlt : i < j
    · obtain ⟨h, hh⟩ : ∃ h, (i + j) / 2 = h := ⟨_, rfl⟩
      have hih : i ≤ h ∧ h < j := by omega
      have hw1 : IntKind.i64.wrap ((i : Int) + (j : Int)) = (i : Int) + (j : Int) := by rw [IntKind.wrap_i64]; omega
      have eh : ((i : Int) + (j : Int)) / 2 = (h : Int) := by omega
      obtain ⟨ch, fh⟩ := HH.out h (by omega)
      obtain ⟨ca, fa⟩ := HH.out a (by omega)
      rw [Nat.zero_add] at ch ca
      have hrk := HR.out.rk a h (Nat.le_refl _) (by omega) (by omega) (by omega)
      have hcf := Heat.cf_lt l d[h]! d[a]! hrk
      have C := Lib.hid (fun q => HL.out d[h]! d[a]! q)
      obtain ⟨xh, hxh⟩ : ∃ x, d[h]! = x := ⟨_, rfl⟩
      obtain ⟨xa, hxa⟩ : ∃ x, d[a]! = x := ⟨_, rfl⟩
      rw [hxh] at ch hcf C
      rw [hxa] at ca hcf C
      have ch' : (W.drewN q).cell? ⟨g, h, none⟩ = some (.int .i64 (xh.val : Int)) := ch
      have ca' : (W.drewN q).cell? ⟨g, a, none⟩ = some (.int .i64 (xa.val : Int)) := ca
      obtain ⟨v, hv⟩ : ∃ v, Heat.cfOf l xh xa = v := ⟨_, rfl⟩
      have C2 : Hid (∀ r, Calls Try.prog 59 #[.int .i64 (xh.val : Int), .int .i64 (xa.val : Int), .pointer (some ⟨bx, 0, none⟩)] ((W.drewN q).drewN r) fun e w' => e = .returned (.int .i64 v) ∧ ∃ r', w' = ((W.drewN q).drewN r).drewN r') := fun r => by
        have := C.out (q + r); rw [hv] at this; rw [World.drewN_drewN]; exact this
      have hlt2 : decide (v < 0) = Heat.ltP l xh xa := by rw [← hv, ← hcf]; rfl
      have HLT := Lib.hid hlt2
      have HXX : Hid (d[h]! = xh ∧ d[a]! = xa) := ⟨hxh, hxa⟩
      have hhi' : (h : Int) < (n : Int) + 1 := by omega
      have hai' : (a : Int) < (n : Int) + 1 := by omega
      clear ch ca hcf hrk fh fa C hv hlt2 hxh hxa
      obtain ⟨wq, hwq⟩ : ∃ wq, W.drewN q = wq := ⟨_, rfl⟩
      have HW : Hid (∀ r, wq.drewN r = W.drewN (q + r)) := fun r => by rw [← hwq, World.drewN_drewN]
      rw [hwq] at ch' ca' C2 ⊢
      clear hwq
      cases hb2 : Heat.ltP l xh xa with
      | true =>
        have g1 : v < 0 := of_decide_eq_true (by rw [HLT.out, hb2])
        have HB := Lib.hid hb2
        clear hb2
        go_wp2_with fail
        go_quiet (first | (go_at_call 59; exact Calls.quiet_of (C2.out _)))
        go_wp2_with fail
        go_roundw
        case rel =>
          refine ⟨h + 1, j, q + nq, by omega, by omega, hjb, by go_num, rfl, fun k h1 h2 => ?_, HHI.out, HW.out nq⟩
          rcases Nat.lt_or_ge k h with h3 | h3
          · cases h4 : Heat.ltP l d[k]! d[a]! with
            | true => rfl
            | false =>
              have h5 := (Heat.swoP l).ntrans _ _ _ (HR.out.s2 k h (by omega) h3 (by omega)) h4
              rw [HXX.out.1, HXX.out.2, HB.out] at h5; cases h5
          · have : k = h := by omega
            rw [this, HXX.out.1, HXX.out.2]; exact HB.out
        case measure => simp [intOf]; omega
      | false =>
        have g1 : ¬ v < 0 := of_decide_eq_false (by rw [HLT.out, hb2])
        have HB := Lib.hid hb2
        clear hb2
        go_wp2_with fail
        go_quiet (first | (go_at_call 59; exact Calls.quiet_of (C2.out _)))
        go_wp2_with fail
        go_roundw
        case rel =>
          refine ⟨i, h, q + nq, hai, by omega, by omega, rfl, by go_num, HLO.out, fun k h1 h2 => ?_, HW.out nq⟩
          rcases Nat.lt_or_ge h k with h3 | h3
          · have h5 := HB.out
            rw [← HXX.out.1, ← HXX.out.2] at h5
            exact (Heat.swoP l).ntrans _ _ _ (HR.out.s2 h k (by omega) h3 h2) h5
          · have : k = h := by omega
            rw [this, HXX.out.1, HXX.out.2]; exact HB.out
        case measure => simp [intOf]; omega
    · have hij2 : i = j := by omega
      subst hij2
      have hi1 : (i : Int) - 1 = ((i - 1 : Nat) : Int) := by omega
      obtain ⟨i1, hi2⟩ : ∃ i1, i = i1 + 1 := ⟨i - 1, by omega⟩
      subst hi2
      clear hi1
      have HST2 : Hid (W.drewN q = (putRow encP W g 0 d).drewN q) := by
        show W.drewN q = _; rw [putRow_self encP W g 0 d HH.out]
      go_wp2_with fail
      go_loopw [13] (fun v13 wr => ∃ (k r : Nat) (dk : Array (Fin (n + 1))), a ≤ k ∧ k ≤ i1 ∧ v13 = .int .i64 (k : Int) ∧ dk.size = n + 1 ∧ PermIn a b d dk ∧ (∀ x, a ≤ x → x < k → dk[x]! = d[x + 1]!) ∧ dk[k]! = d[a]! ∧ (∀ x, k < x → dk[x]! = d[x]!) ∧ wr = (putRow encP W g 0 dk).drewN r) (fun v13 _ => i1 - (intOf v13).toNat)
      case atStart => exact ⟨a, q, d, Nat.le_refl _, by omega, rfl, hd, permIn_refl d a b, fun x h1 h2 => absurd h2 (by omega), rfl, fun x _ => rfl, HST2.out⟩
      case round =>
        obtain ⟨k, r, dk, hak, hki, rfl, hdk, hperm, h1, h2, h3, rfl⟩ := hrel
        have HP := Lib.hid hperm
        have H1 := Lib.hid h1
        have H2 := Lib.hid h2
        have H3 := Lib.hid h3
        clear hperm h1 h2 h3
        by_cases hlt3 : k < i1
        · have hHk := holds_putRow encP W g 0 d dk HH.out (by rw [hdk, hd])
          obtain ⟨p, hp⟩ : ∃ p, k + 1 = p := ⟨_, rfl⟩
          obtain ⟨ck, fk⟩ := hHk k (by omega)
          obtain ⟨cp, fp⟩ := hHk p (by omega)
          obtain ⟨xk, hxk⟩ : ∃ x, dk[k]! = x := ⟨_, rfl⟩
          obtain ⟨xp, hxp⟩ : ∃ x, dk[p]! = x := ⟨_, rfl⟩
          rw [hxk] at ck
          rw [hxp] at cp
          rw [Nat.zero_add] at ck cp fk fp
          have ck' : ((putRow encP W g 0 dk).drewN r).cell? ⟨g, k, none⟩ = some (.int .i64 (xk.val : Int)) := ck
          have cp' : ((putRow encP W g 0 dk).drewN r).cell? ⟨g, p, none⟩ = some (.int .i64 (xp.val : Int)) := cp
          have fk' : ((putRow encP W g 0 dk).drewN r).frozen? ⟨g, k, none⟩ = false := fk
          have fp' : ((putRow encP W g 0 dk).drewN r).frozen? ⟨g, p, none⟩ = false := fp
          have ep : (k : Int) + 1 = (p : Int) := by omega
          have wp1 : IntKind.i64.wrap (p : Int) = (p : Int) := by rw [IntKind.wrap_i64]; omega
          have hki' : (k : Int) < (n : Int) + 1 := by omega
          have hpi' : (p : Int) < (n : Int) + 1 := by omega
          have hkp : k ≠ p := by omega
          have HPP := Lib.hid hp
          clear ck cp fk fp hHk hp
          have SW := Lib.hid (swap_w W g dk r k p (by omega) (by have := HPP.out; omega))
          rw [hxk, hxp] at SW
          generalize hwq : (putRow encP W g 0 dk).drewN r = wq at *
          clear hwq
          go_wp2_with fail
          go_region
          all_goals go_wp2_with fail
          go_roundw
          case rel =>
            have hp := HPP.out
            refine ⟨k + 1, r + 1, swp dk k p, by omega, by omega, by go_num, by rw [swp_size, hdk], permIn_trans _ _ _ _ _ HP.out (swp_permIn dk a b k p (by omega) (by omega) (by omega) (by omega) (by omega)), fun x h1 h2 => ?_, ?_, fun x h1 => ?_, SW.out⟩
            · rcases Nat.lt_or_ge x k with h4 | h4
              · rw [swp_other _ _ _ _ (by omega) (by omega)]; exact H1.out x h1 h4
              · have : x = k := by omega
                rw [this, swp_left _ _ _ (by omega) (by omega), H3.out p (by omega), hp]
            · rw [hp, swp_right _ _ _ (by omega)]; exact H2.out
            · rw [swp_other _ _ _ _ (by omega) (by omega)]; exact H3.out x (by omega)
          case measure => simp [intOf]; omega
        · have hkk : k = i1 := by omega
          subst hkk
          go_wp2_with fail
          refine bodyPost_ret (results_none (by rfl) _ _ _) rfl ?_
          refine ⟨rfl, dk, r, HP.out, Heat.put_left (Heat.swoP l) (i := k + 1) HR.out.s2 hai hjb HLO.out HHI.out (fun x h1 h2 => H1.out x h1 (by omega)) (by rw [Nat.add_sub_cancel]; exact H2.out) (fun x h1 => H3.out x (by omega)), rfl⟩
end H
end Go.Proofs.Ytkbchpbdpkbnjaa
