/-
  What the library's symMerge does (of the stable sort), where the second run is one element.
-/
import Derived.Test.YtkbchpbdpkbnjaaHeatSym
namespace Go.Proofs.Ytkbchpbdpkbnjaa
open Go.RowKit Go.Sort
namespace H

set_option maxRecDepth 100000 in
set_option maxHeartbeats 2000000 in
theorem sym_right {n : Nat} (hn : n ≤ 1000) (l : List Nat) (hl : l.length = n + 1) (hbl : ∀ b ∈ l, b < 18446744073709551616) {W : World} {g bx b1 o1 c : Nat} (E : Env W g bx b1 o1 c l) (cap : Nat) (d : Array (Fin (n + 1))) (hd : d.size = n + 1) (hH : Holds encP W g 0 d) (a m : Nat) (ham : a + 2 ≤ m) (hm : m + 1 ≤ n + 1)
    (hR : Heat.Runs (fun i : Fin (n + 1) => i.val) (Heat.ltP l) a m (m + 1) d) :
    Calls Try.prog 79 #[.slice (some ⟨g, 0, none⟩) (n + 1) cap, .int .i64 (a : Int), .int .i64 (m : Int), .int .i64 ((m : Int) + 1), .func (.func 59) #[] #[.pointer (some ⟨bx, 0, none⟩)]] W fun e w' =>
      e = .returned (.tuple #[]) ∧ ∃ d' q, PermIn a (m + 1) d d' ∧ SortedIn (Heat.ltP l) a (m + 1) d' ∧ w' = (putRow encP W g 0 d').drewN q := by
  have HH := Lib.hid hH
  have HL := Lib.hid (fun x y q => less_lt l hl hbl E x y q)
  have HR := Lib.hid hR
  clear hH hR E hl hbl
  have hm1 : ((m : Int) - (a : Int) == 1) = false := by rw [beq_eq_false_iff_ne]; omega
  have hm2 : ((m : Int) + 1 - (m : Int) == 1) = true := by rw [beq_iff_eq]; omega
  go_enter Try.func79, Try.ntmps79
  go_wp2_with fail
  go_loopw [14, 15] (fun v10 v11 wr => ∃ (i j q : Nat), a ≤ i ∧ i ≤ j ∧ j ≤ m ∧ v10 = .int .i64 (i : Int) ∧ v11 = .int .i64 (j : Int) ∧ (∀ k, a ≤ k → k < i → Heat.ltP l d[m]! d[k]! = false) ∧ (∀ k, j ≤ k → k < m → Heat.ltP l d[m]! d[k]! = true) ∧ wr = W.drewN q) (fun v10 v11 _ => (intOf v11).toNat - (intOf v10).toNat)
  case atStart => exact ⟨a, m, 0, Nat.le_refl _, by omega, Nat.le_refl _, rfl, rfl, fun k h1 h2 => absurd h2 (by omega), fun k h1 h2 => absurd h2 (by omega), rfl⟩
  case round =>
    obtain ⟨i, j, q, hai, hij, hjm, rfl, rfl, hlo, hhi, rfl⟩ := hrel
    have HLO := Lib.hid hlo
    have HHI := Lib.hid hhi
    clear hlo hhi
    by_cases hlt : i < j
    · obtain ⟨h, hh⟩ : ∃ h, (i + j) / 2 = h := ⟨_, rfl⟩
      have hih : i ≤ h ∧ h < j := by omega
      have hw1 : IntKind.i64.wrap ((i : Int) + (j : Int)) = (i : Int) + (j : Int) := by rw [IntKind.wrap_i64]; omega
      have eh : ((i : Int) + (j : Int)) / 2 = (h : Int) := by omega
      obtain ⟨ch, fh⟩ := HH.out h (by omega)
      obtain ⟨ca, fa⟩ := HH.out m (by omega)
      rw [Nat.zero_add] at ch ca
      have hrk := HR.out.rk h m (by omega) (by omega) (Nat.le_refl _) (by omega)
      have hcf := Heat.cf_lt l d[m]! d[h]! hrk
      have C := Lib.hid (fun q => HL.out d[m]! d[h]! q)
      obtain ⟨xh, hxh⟩ : ∃ x, d[h]! = x := ⟨_, rfl⟩
      obtain ⟨xm, hxm⟩ : ∃ x, d[m]! = x := ⟨_, rfl⟩
      rw [hxh] at ch hcf C
      rw [hxm] at ca hcf C
      have ch' : (W.drewN q).cell? ⟨g, h, none⟩ = some (.int .i64 (xh.val : Int)) := ch
      have cm' : (W.drewN q).cell? ⟨g, m, none⟩ = some (.int .i64 (xm.val : Int)) := ca
      obtain ⟨v, hv⟩ : ∃ v, Heat.cfOf l xm xh = v := ⟨_, rfl⟩
      have C2 : Hid (∀ r, Calls Try.prog 59 #[.int .i64 (xm.val : Int), .int .i64 (xh.val : Int), .pointer (some ⟨bx, 0, none⟩)] ((W.drewN q).drewN r) fun e w' => e = .returned (.int .i64 v) ∧ ∃ r', w' = ((W.drewN q).drewN r).drewN r') := fun r => by
        have := C.out (q + r); rw [hv] at this; rw [World.drewN_drewN]; exact this
      have hlt2 : decide (v < 0) = Heat.ltP l xm xh := by rw [← hv, ← hcf]; rfl
      have HLT := Lib.hid hlt2
      have HXX : Hid (d[h]! = xh ∧ d[m]! = xm) := ⟨hxh, hxm⟩
      have hhi' : (h : Int) < (n : Int) + 1 := by omega
      have hmi' : (m : Int) < (n : Int) + 1 := by omega
      clear ch ca hcf hrk fh fa C hv hlt2 hxh hxm
      obtain ⟨wq, hwq⟩ : ∃ wq, W.drewN q = wq := ⟨_, rfl⟩
      have HW : Hid (∀ r, wq.drewN r = W.drewN (q + r)) := fun r => by rw [← hwq, World.drewN_drewN]
      rw [hwq] at ch' cm' C2 ⊢
      clear hwq
      cases hb2 : Heat.ltP l xm xh with
      | true =>
        have g1 : v < 0 := of_decide_eq_true (by rw [HLT.out, hb2])
        have g2 : decide (v < 0) = true := decide_eq_true g1
        have HB := Lib.hid hb2
        clear hb2
        go_wp2_with fail
        go_quiet (first | (go_at_call 59; exact Calls.quiet_of (C2.out _)))
        go_wp2_with fail
        go_roundw
        case rel =>
          refine ⟨i, h, q + nq, hai, by omega, by omega, rfl, by go_num, HLO.out, fun k h1 h2 => ?_, HW.out nq⟩
          rcases Nat.lt_or_ge h k with h3 | h3
          · cases h4 : Heat.ltP l d[m]! d[k]! with
            | true => rfl
            | false =>
              have h5 := (Heat.swoP l).ntrans _ _ _ h4 (HR.out.s1 h k (by omega) h3 h2)
              rw [HXX.out.1, HXX.out.2, HB.out] at h5; cases h5
          · have : k = h := by omega
            rw [this, HXX.out.1, HXX.out.2]; exact HB.out
        case measure => simp [intOf]; omega
      | false =>
        have g1 : 0 ≤ v := by have := of_decide_eq_false (p := v < 0) (by rw [HLT.out, hb2]); omega
        have g2 : decide (v < 0) = false := decide_eq_false (by omega)
        have HB := Lib.hid hb2
        clear hb2
        go_wp2_with fail
        go_quiet (first | (go_at_call 59; exact Calls.quiet_of (C2.out _)))
        go_wp2_with fail
        go_roundw
        case rel =>
          refine ⟨h + 1, j, q + nq, by omega, by omega, hjm, by go_num, rfl, fun k h1 h2 => ?_, HHI.out, HW.out nq⟩
          rcases Nat.lt_or_ge k h with h3 | h3
          · have h5 := HB.out
            rw [← HXX.out.1, ← HXX.out.2] at h5
            exact (Heat.swoP l).ntrans _ _ _ h5 (HR.out.s1 k h h1 h3 (by omega))
          · have : k = h := by omega
            rw [this, HXX.out.1, HXX.out.2]; exact HB.out
        case measure => simp [intOf]; omega
    · have hij2 : i = j := by omega
      subst hij2
      have HST2 : Hid (W.drewN q = (putRow encP W g 0 d).drewN q) := by
        show W.drewN q = _; rw [putRow_self encP W g 0 d HH.out]
      go_wp2_with fail
      go_loopw [17] (fun v17 wr => ∃ (k r : Nat) (dk : Array (Fin (n + 1))), i ≤ k ∧ k ≤ m ∧ v17 = .int .i64 (k : Int) ∧ dk.size = n + 1 ∧ PermIn a (m + 1) d dk ∧ (∀ x, k < x → x ≤ m → dk[x]! = d[x - 1]!) ∧ dk[k]! = d[m]! ∧ (∀ x, x < k → dk[x]! = d[x]!) ∧ wr = (putRow encP W g 0 dk).drewN r) (fun v17 _ => (intOf v17).toNat)
      case atStart => exact ⟨m, q, d, hjm, Nat.le_refl _, rfl, hd, permIn_refl d a (m + 1), fun x h1 h2 => absurd h2 (by omega), rfl, fun x _ => rfl, HST2.out⟩
      case round =>
        obtain ⟨k, r, dk, hik, hkm, rfl, hdk, hperm, h1, h2, h3, rfl⟩ := hrel
        have HP := Lib.hid hperm
        have H1 := Lib.hid h1
        have H2 := Lib.hid h2
        have H3 := Lib.hid h3
        clear hperm h1 h2 h3
        by_cases hlt3 : i < k
        · have hHk := holds_putRow encP W g 0 d dk HH.out (by rw [hdk, hd])
          obtain ⟨p, hp⟩ : ∃ p, k = p + 1 := ⟨k - 1, by omega⟩
          obtain ⟨ck, fk⟩ := hHk k (by omega)
          obtain ⟨cp, fp⟩ := hHk p (by omega)
          obtain ⟨xk, hxk⟩ : ∃ x, dk[k]! = x := ⟨_, rfl⟩
          obtain ⟨xp, hxp⟩ : ∃ x, dk[p]! = x := ⟨_, rfl⟩
          rw [hxk] at ck
          rw [hxp] at cp
          rw [Nat.zero_add] at ck cp fk fp
          have ck' : ((putRow encP W g 0 dk).drewN r).cell? ⟨g, k, none⟩ = some (.int .i64 (xk.val : Int)) := ck
          have cp' : ((putRow encP W g 0 dk).drewN r).cell? ⟨g, p, none⟩ = some (.int .i64 (xp.val : Int)) := cp
          have fk' : ((putRow encP W g 0 dk).drewN r).frozen? ⟨g, k, none⟩ = false := fk
          have fp' : ((putRow encP W g 0 dk).drewN r).frozen? ⟨g, p, none⟩ = false := fp
          have ep : (k : Int) - 1 = (p : Int) := by omega
          have wp1 : IntKind.i64.wrap (p : Int) = (p : Int) := by rw [IntKind.wrap_i64]; omega
          have hki' : (k : Int) < (n : Int) + 1 := by omega
          have hpi' : (p : Int) < (n : Int) + 1 := by omega
          have hlt3' : (i : Int) < (k : Int) := by omega
          have hkp : k ≠ p := by omega
          have HPP := Lib.hid hp
          clear ck cp fk fp hHk hp
          have SW := Lib.hid (swap_w W g dk r k p (by omega) (by have := HPP.out; omega))
          rw [hxk, hxp] at SW
          generalize hwq : (putRow encP W g 0 dk).drewN r = wq at *
          clear hwq
          go_wp2_with fail
          go_region
          all_goals go_wp2_with fail
          go_roundw
          case rel =>
            have hp := HPP.out
            refine ⟨p, r + 1, swp dk k p, by omega, by omega, by go_num, by rw [swp_size, hdk], permIn_trans _ _ _ _ _ HP.out (swp_permIn dk a (m + 1) k p (by omega) (by omega) (by omega) (by omega) (by omega)), fun x h1 h2 => ?_, ?_, fun x h1 => ?_, SW.out⟩
            · rcases Nat.lt_or_ge k x with h4 | h4
              · rw [swp_other _ _ _ _ (by omega) (by omega)]; exact H1.out x h4 h2
              · have : x = k := by omega
                rw [this, swp_left _ _ _ (by omega) (by omega), H3.out p (by omega), show k - 1 = p by omega]
            · rw [swp_right _ _ _ (by omega)]; exact H2.out
            · rw [swp_other _ _ _ _ (by omega) (by omega)]; exact H3.out x (by omega)
          case measure => have hp := HPP.out; simp [intOf]; omega
        · have hkk : k = i := by omega
          subst hkk
          go_wp2_with fail
          refine bodyPost_ret (results_none (by rfl) _ _ _) rfl ?_
          refine ⟨rfl, dk, r, HP.out, Heat.put_right (Heat.swoP l) (i := k) HR.out.s1 hai hjm HLO.out HHI.out (fun x h1 h2 => H1.out x h1 h2) H2.out (fun x h1 => H3.out x h1), rfl⟩
end H
end Go.Proofs.Ytkbchpbdpkbnjaa
