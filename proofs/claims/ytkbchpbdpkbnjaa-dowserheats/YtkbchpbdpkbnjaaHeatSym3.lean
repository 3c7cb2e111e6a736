/-
  What the library's symMerge does (of the stable sort): two sorted runs become one.
-/
import Derived.Test.YtkbchpbdpkbnjaaHeatSym2
namespace Go.Proofs.Ytkbchpbdpkbnjaa
open Go.RowKit Go.Sort
namespace H

/-- the plain end: what is left to show behind each of the three steps -/
theorem merge_end {n : Nat} (l : List Nat) (d : Array (Fin (n + 1))) (hd : d.size = n + 1) (a m b mid : Nat) (ham : a < mid) (hmb : mid < b) (hb : b ≤ n + 1)
    (hR : Heat.Runs (fun i : Fin (n + 1) => i.val) (Heat.ltP l) a m b d) (s e : Nat) (has : a ≤ s) (hsm : s ≤ m) (hme : m ≤ e) (heb : e ≤ b) (hse : s + e = mid + m) (_hsd : s ≤ mid)
    (hlo : a < s → e < b → Heat.ltP l d[e]! d[s - 1]! = false) (hhi : s < m → m < e → Heat.ltP l d[e - 1]! d[s]! = true)
    (dR : Array (Fin (n + 1))) (hrot : Heat.Rot m (m - s) (e - m) d dR) (hpR : PermIn s e d dR ∨ dR = d) :
    dR.size = n + 1 ∧ Heat.Runs (fun i : Fin (n + 1) => i.val) (Heat.ltP l) a s mid dR ∧ ∀ d1, (PermIn a mid dR d1 ∧ SortedIn (Heat.ltP l) a mid d1) ∨ (¬ (a < s ∧ s < mid) ∧ d1 = dR) →
      d1.size = n + 1 ∧ Heat.Runs (fun i : Fin (n + 1) => i.val) (Heat.ltP l) mid e b d1 ∧ ∀ d2, (PermIn mid b d1 d2 ∧ SortedIn (Heat.ltP l) mid b d2) ∨ (¬ (mid < e ∧ e < b) ∧ d2 = d1) →
        PermIn a b d d2 ∧ SortedIn (Heat.ltP l) a b d2 := by
  have hRs : dR.size = n + 1 := by rw [hrot.size, hd]
  have hfirst := hR.first _ hsm hme heb hse hrot
  have hsecond := hR.second _ has hsm hme hse hrot
  have hcross := Heat.cut_cross (Heat.swoP l) hR.s1 hR.s2 has hsm hme heb hse hlo hhi hrot
  have hP1 : PermIn a b d dR := by
    rcases hpR with h | h
    · exact permIn_mono d dR s e a b has heb (by omega) h
    · rw [h]; exact permIn_refl d a b
  refine ⟨hRs, hfirst, fun d1 h1 => ?_⟩
  have h1' : PermIn a mid dR d1 ∧ SortedIn (Heat.ltP l) a mid d1 := by
    rcases h1 with h | ⟨h, rfl⟩
    · exact h
    · refine ⟨permIn_refl _ _ _, ?_⟩
      rcases Nat.lt_or_ge a s with h3 | h3
      · have : s = mid := by omega
        rw [← this]; exact hfirst.s1
      · have : s = a := by omega
        have h4 := hfirst.s2
        rw [this] at h4; exact h4
  have hd1 : d1.size = n + 1 := by rw [h1'.1.1, hRs]
  have hsec1 := hsecond.keep _ (by omega) heb h1'.1 (.inl (Nat.le_refl _))
  refine ⟨hd1, hsec1, fun d2 h2 => ?_⟩
  have h2' : PermIn mid b d1 d2 ∧ SortedIn (Heat.ltP l) mid b d2 := by
    rcases h2 with h | ⟨h, rfl⟩
    · exact h
    · refine ⟨permIn_refl _ _ _, ?_⟩
      rcases Nat.lt_or_ge mid e with h3 | h3
      · have : e = b := by omega
        have h4 := hsec1.s1
        rw [this] at h4; exact h4
      · have : e = mid := by omega
        have h4 := hsec1.s2
        rw [this] at h4; exact h4
  have hP2 : PermIn a b dR d1 := permIn_mono dR d1 a mid a b (Nat.le_refl _) (by omega) (by omega) h1'.1
  have hP3 : PermIn a b d1 d2 := permIn_mono d1 d2 mid b a b (by omega) (Nat.le_refl _) (by omega) h2'.1
  refine ⟨permIn_trans _ _ _ _ _ hP1 (permIn_trans _ _ _ _ _ hP2 hP3), Heat.sorted_join (mid := mid) ?_ h2'.2 ?_⟩
  · intro x y hx hxy hy
    rw [h2'.1.2.1 x (by omega), h2'.1.2.1 y (by omega)]; exact h1'.2 x y hx hxy hy
  · -- none of the second half is less than one of the first
    have hX1 : ∀ i, a ≤ i → i < mid → ∀ j, mid ≤ j → j < b → Heat.ltP l dR[j]! d1[i]! = false :=
      permIn_all dR d1 a mid (fun x => ∀ j, mid ≤ j → j < b → Heat.ltP l dR[j]! x = false) (by omega) h1'.1 (fun i h3 h4 j h5 h6 => hcross i j h3 h4 h5 h6)
    have hX2 : ∀ j, mid ≤ j → j < b → ∀ i, a ≤ i → i < mid → Heat.ltP l d2[j]! d1[i]! = false :=
      permIn_all d1 d2 mid b (fun x => ∀ i, a ≤ i → i < mid → Heat.ltP l x d1[i]! = false) (by omega) h2'.1 (fun j h3 h4 i h5 h6 => by
        rw [h1'.1.2.1 j (by omega)]; exact hX1 i h5 h6 j h3 h4)
    intro i j h3 h4 h5 h6
    rw [h2'.1.2.1 i (by omega)]
    exact hX2 j h5 h6 i h3 h4

set_option maxRecDepth 100000 in
set_option maxHeartbeats 8000000 in
theorem sym_gen {n : Nat} (hn : n ≤ 1000) (l : List Nat) (hl : l.length = n + 1) (hbl : ∀ b ∈ l, b < 18446744073709551616) {W : World} {g bx b1 o1 c : Nat} (E : Env W g bx b1 o1 c l) (cap : Nat) (d : Array (Fin (n + 1))) (hd : d.size = n + 1) (hH : Holds encP W g 0 d) (a m b : Nat) (ham : a + 2 ≤ m) (hmb : m + 2 ≤ b) (hb : b ≤ n + 1)
    (hR : Heat.Runs (fun i : Fin (n + 1) => i.val) (Heat.ltP l) a m b d)
    (IH : ∀ (W' : World) (d' : Array (Fin (n + 1))) (a' m' b' : Nat), Env W' g bx b1 o1 c l → d'.size = n + 1 → Holds encP W' g 0 d' → a' < m' → m' < b' → b' ≤ n + 1 → b' - a' < b - a → Heat.Runs (fun i : Fin (n + 1) => i.val) (Heat.ltP l) a' m' b' d' →
      Calls Try.prog 79 #[.slice (some ⟨g, 0, none⟩) (n + 1) cap, .int .i64 (a' : Int), .int .i64 (m' : Int), .int .i64 (b' : Int), .func (.func 59) #[] #[.pointer (some ⟨bx, 0, none⟩)]] W' fun e w' =>
        e = .returned (.tuple #[]) ∧ ∃ d'' q, PermIn a' b' d' d'' ∧ SortedIn (Heat.ltP l) a' b' d'' ∧ w' = (putRow encP W' g 0 d'').drewN q) :
    Calls Try.prog 79 #[.slice (some ⟨g, 0, none⟩) (n + 1) cap, .int .i64 (a : Int), .int .i64 (m : Int), .int .i64 (b : Int), .func (.func 59) #[] #[.pointer (some ⟨bx, 0, none⟩)]] W fun e w' =>
      e = .returned (.tuple #[]) ∧ ∃ d' q, PermIn a b d d' ∧ SortedIn (Heat.ltP l) a b d' ∧ w' = (putRow encP W g 0 d').drewN q := by
  obtain ⟨mid, hmid⟩ : ∃ mid, (a + b) / 2 = mid := ⟨_, rfl⟩
  have hma : a < mid := by omega
  have hmb2 : mid < b := by omega
  have hmm : 2 * mid ≤ a + b := by omega
  obtain ⟨N0, hN0⟩ : ∃ N0, mid + m = N0 := ⟨_, rfl⟩
  obtain ⟨P, hP⟩ : ∃ P, N0 = P + 1 := ⟨N0 - 1, by omega⟩
  have FIN := Lib.hid (merge_end l d hd a m b mid hma hmb2 hb hR)
  have ROT : Hid (∀ s e q : Nat, s < m → m < e → e ≤ n + 1 → Calls Try.prog 91 #[.slice (some ⟨g, 0, none⟩) (n + 1) cap, .int .i64 (s : Int), .int .i64 (m : Int), .int .i64 (e : Int), .func (.func 59) #[] #[.pointer (some ⟨bx, 0, none⟩)]] ((putRow encP W g 0 d).drewN q) fun e' w' =>
      e' = .returned (.tuple #[]) ∧ ∃ dR r, Heat.Rot m (m - s) (e - m) d dR ∧ PermIn s e d dR ∧ w' = (putRow encP W g 0 dR).drewN (q + r)) := fun s e q h1 h2 h3 =>
    (rotate_any hn g cap ((putRow encP W g 0 d).drewN q) d hd (holds_putRow encP W g 0 d d hH rfl) s m e h1 h2 h3 _).mono fun e' w' ⟨he, dR, r, hr, hp, hw⟩ => ⟨he, dR, r, hr, hp, by rw [hw, put_again W g q r d dR hr.size]⟩
  have SYM1 : Hid (∀ (dR : Array (Fin (n + 1))) (s q : Nat), dR.size = n + 1 → Heat.Runs (fun i : Fin (n + 1) => i.val) (Heat.ltP l) a s mid dR → a < s → s < mid → Calls Try.prog 79 #[.slice (some ⟨g, 0, none⟩) (n + 1) cap, .int .i64 (a : Int), .int .i64 (s : Int), .int .i64 (mid : Int), .func (.func 59) #[] #[.pointer (some ⟨bx, 0, none⟩)]] ((putRow encP W g 0 dR).drewN q) fun e' w' =>
      e' = .returned (.tuple #[]) ∧ ∃ d1 r, PermIn a mid dR d1 ∧ SortedIn (Heat.ltP l) a mid d1 ∧ w' = (putRow encP W g 0 d1).drewN (q + r)) := fun dR s q h1 h2 h3 h4 =>
    (IH _ dR a s mid (E.put dR q #[]) h1 (holds_putRow encP W g 0 d dR hH (by rw [h1, hd])) h3 h4 (by omega) (by omega) h2).mono fun e' w' ⟨he, d1, r, hp, hs, hw⟩ => ⟨he, d1, r, hp, hs, by
      have hw' : w' = (putRow encP ((putRow encP W g 0 dR).drewN q) g 0 d1).drewN r := hw
      rw [hw', put_again W g q r dR d1 hp.1]⟩
  have SYM2 : Hid (∀ (dR : Array (Fin (n + 1))) (e q : Nat), dR.size = n + 1 → Heat.Runs (fun i : Fin (n + 1) => i.val) (Heat.ltP l) mid e b dR → mid < e → e < b → Calls Try.prog 79 #[.slice (some ⟨g, 0, none⟩) (n + 1) cap, .int .i64 (mid : Int), .int .i64 (e : Int), .int .i64 (b : Int), .func (.func 59) #[] #[.pointer (some ⟨bx, 0, none⟩)]] ((putRow encP W g 0 dR).drewN q) fun e' w' =>
      e' = .returned (.tuple #[]) ∧ ∃ d1 r, PermIn mid b dR d1 ∧ SortedIn (Heat.ltP l) mid b d1 ∧ w' = (putRow encP W g 0 d1).drewN (q + r)) := fun dR e q h1 h2 h3 h4 =>
    (IH _ dR mid e b (E.put dR q #[]) h1 (holds_putRow encP W g 0 d dR hH (by rw [h1, hd])) h3 h4 (by omega) (by omega) h2).mono fun e' w' ⟨he, d1, r, hp, hs, hw⟩ => ⟨he, d1, r, hp, hs, by
      have hw' : w' = (putRow encP ((putRow encP W g 0 dR).drewN q) g 0 d1).drewN r := hw
      rw [hw', put_again W g q r dR d1 hp.1]⟩
  have HH := Lib.hid hH
  have HL := Lib.hid (fun x y q => less_lt l hl hbl E x y q)
  have HR := Lib.hid hR
  clear hH hR E hl hbl IH
  have hm1 : ((m : Int) - (a : Int) == 1) = false := by rw [beq_eq_false_iff_ne]; omega
  have hm2 : ((b : Int) - (m : Int) == 1) = false := by rw [beq_eq_false_iff_ne]; omega
  have hwab : IntKind.i64.wrap ((a : Int) + (b : Int)) = (a : Int) + (b : Int) := by rw [IntKind.wrap_i64]; omega
  have emid : ((a : Int) + (b : Int)) / 2 = (mid : Int) := by omega
  have eN : (mid : Int) + (m : Int) = (N0 : Int) := by omega
  have wN : IntKind.i64.wrap (N0 : Int) = (N0 : Int) := by rw [IntKind.wrap_i64]; omega
  have eP : (N0 : Int) - 1 = (P : Int) := by omega
  have wP : IntKind.i64.wrap (P : Int) = (P : Int) := by rw [IntKind.wrap_i64]; omega
  rcases Nat.lt_or_ge mid m with hgt | hle
  · obtain ⟨s0, hs0⟩ : ∃ s0, N0 = s0 + b := ⟨N0 - b, by omega⟩
    have es : (N0 : Int) - (b : Int) = (s0 : Int) := by omega
    have ws : IntKind.i64.wrap (s0 : Int) = (s0 : Int) := by rw [IntKind.wrap_i64]; omega
    obtain ⟨r0, hr0⟩ : ∃ r0, r0 = mid := ⟨_, rfl⟩
    have hgti : (mid : Int) < (m : Int) := by omega
    have HQ : Hid (mid + m = N0 ∧ N0 = P + 1 ∧ (a + b) / 2 = mid ∧ ((mid < m ∧ N0 = s0 + b ∧ r0 = mid) ∨ (m ≤ mid ∧ s0 = a ∧ r0 = m))) := ⟨hN0, hP, hmid, .inl ⟨hgt, hs0, hr0⟩⟩
    have hrv : Hid (Value.int .i64 (mid : Int) = .int .i64 (r0 : Int)) := by rw [hr0]; rfl
    have hsv : Hid (Value.int .i64 (s0 : Int) = .int .i64 (s0 : Int)) := rfl
    clear hN0 hP hmid hs0 hr0 hgt
    go_enter Try.func79, Try.ntmps79
    go_wp2_with fail
    go_loopw [20, 21] (fun v20 v21 wr => ∃ (s r q : Nat), s0 ≤ s ∧ s ≤ r ∧ r ≤ r0 ∧ v20 = .int .i64 (s : Int) ∧ v21 = .int .i64 (r : Int) ∧ (s0 < s → Heat.ltP l d[P - (s - 1)]! d[s - 1]! = false) ∧ (r < r0 → Heat.ltP l d[P - r]! d[r]! = true) ∧ wr = W.drewN q) (fun v20 v21 _ => (intOf v21).toNat - (intOf v20).toNat)
    case atStart => exact ⟨s0, r0, 0, Nat.le_refl _, by have := HQ.out; omega, Nat.le_refl _, by first | exact hsv.out | rfl | go_num, by first | exact hrv.out | rfl | go_num, fun h => absurd h (by omega), fun h => absurd h (by omega), rfl⟩
    case round =>
      obtain ⟨s, r, q, hs0, hsr, hrr, rfl, rfl, hlo, hhi, rfl⟩ := hrel
      have HQ2 := HQ.out
      have HLO := Lib.hid hlo
      have HHI := Lib.hid hhi
      clear hlo hhi
      by_cases hlt : s < r
      · obtain ⟨h, hh⟩ : ∃ h, (s + r) / 2 = h := ⟨_, rfl⟩
        have hih : s ≤ h ∧ h < r := by omega
        have hw1 : IntKind.i64.wrap ((s : Int) + (r : Int)) = (s : Int) + (r : Int) := by rw [IntKind.wrap_i64]; omega
        have eh : ((s : Int) + (r : Int)) / 2 = (h : Int) := by omega
        obtain ⟨y, hy⟩ : ∃ y, P = y + h := ⟨P - h, by omega⟩
        have ey : (P : Int) - (h : Int) = (y : Int) := by omega
        have wy : IntKind.i64.wrap (y : Int) = (y : Int) := by rw [IntKind.wrap_i64]; omega
        have hym : m ≤ y ∧ y < b := by omega
        obtain ⟨ch, fh⟩ := HH.out h (by omega)
        obtain ⟨cy, fy⟩ := HH.out y (by omega)
        rw [Nat.zero_add] at ch cy
        have hrk := HR.out.rk h y (by omega) (by omega) (by omega) (by omega)
        have hcf := Heat.cf_lt l d[y]! d[h]! hrk
        have C := Lib.hid (fun q => HL.out d[y]! d[h]! q)
        have HY : Hid (P - h = y) := by show P - h = y; omega
        obtain ⟨xh, hxh⟩ : ∃ x, d[h]! = x := ⟨_, rfl⟩
        obtain ⟨xy, hxy⟩ : ∃ x, d[y]! = x := ⟨_, rfl⟩
        rw [hxh] at ch hcf C
        rw [hxy] at cy hcf C
        have ch' : (W.drewN q).cell? ⟨g, h, none⟩ = some (.int .i64 (xh.val : Int)) := ch
        have cy' : (W.drewN q).cell? ⟨g, y, none⟩ = some (.int .i64 (xy.val : Int)) := cy
        obtain ⟨v, hv⟩ : ∃ v, Heat.cfOf l xy xh = v := ⟨_, rfl⟩
        have C2 : Hid (∀ r, Calls Try.prog 59 #[.int .i64 (xy.val : Int), .int .i64 (xh.val : Int), .pointer (some ⟨bx, 0, none⟩)] ((W.drewN q).drewN r) fun e w' => e = .returned (.int .i64 v) ∧ ∃ r', w' = ((W.drewN q).drewN r).drewN r') := fun r => by
          have := C.out (q + r); rw [hv] at this; rw [World.drewN_drewN]; exact this
        have hlt2 : decide (v < 0) = Heat.ltP l xy xh := by rw [← hv, ← hcf]; rfl
        have HLT := Lib.hid hlt2
        have HXX : Hid (d[h]! = xh ∧ d[y]! = xy) := ⟨hxh, hxy⟩
        have hhi' : (h : Int) < (n : Int) + 1 := by omega
        have hyi' : (y : Int) < (n : Int) + 1 := by omega
        clear ch cy hcf hrk fh fy C hv hlt2 hxh hxy
        obtain ⟨wq, hwq⟩ : ∃ wq, W.drewN q = wq := ⟨_, rfl⟩
        have HW : Hid (∀ r, wq.drewN r = W.drewN (q + r)) := fun r => by rw [← hwq, World.drewN_drewN]
        rw [hwq] at ch' cy' C2 ⊢
        clear hwq SYM1 SYM2 ROT FIN HQ2 hy hh
        cases hb2 : Heat.ltP l xy xh with
        | true =>
          have g1 : v < 0 := of_decide_eq_true (by rw [HLT.out, hb2])
          have g2 : decide (v < 0) = true := decide_eq_true g1
          have HB := Lib.hid hb2
          clear hb2
          go_wp2_with fail
          go_quiet (first | (go_at_call 59; exact Calls.quiet_of (C2.out _)))
          go_wp2_with fail
          go_roundw
          case rel => exact ⟨s, h, q + nq, hs0, by omega, by omega, rfl, by go_num, HLO.out, fun _ => by rw [HY.out, HXX.out.1, HXX.out.2]; exact HB.out, HW.out nq⟩
          case measure => simp [intOf]; omega
        | false =>
          have g1 : 0 ≤ v := by have := of_decide_eq_false (p := v < 0) (by rw [HLT.out, hb2]); omega
          have g2 : decide (v < 0) = false := decide_eq_false (by omega)
          have HB := Lib.hid hb2
          clear hb2
          go_wp2_with fail
          go_quiet (first | (go_at_call 59; exact Calls.quiet_of (C2.out _)))
          go_wp2_with fail
          go_roundw
          case rel => exact ⟨h + 1, r, q + nq, by omega, by omega, hrr, by go_num, rfl, fun _ => by rw [Nat.add_sub_cancel, HY.out, HXX.out.1, HXX.out.2]; exact HB.out, HHI.out, HW.out nq⟩
          case measure => simp [intOf]; omega
      · have hsr2 : s = r := by omega
        subst hsr2
        obtain ⟨e, he⟩ : ∃ e, N0 = e + s := ⟨N0 - s, by omega⟩
        have ee : (N0 : Int) - (s : Int) = (e : Int) := by omega
        have we : IntKind.i64.wrap (e : Int) = (e : Int) := by rw [IntKind.wrap_i64]; omega
        have has : a ≤ s := by omega
        have hsm : s ≤ m := by omega
        have hme : m ≤ e := by omega
        have heb : e ≤ b := by omega
        have hsd : s ≤ mid := by omega
        have hlo' : a < s → e < b → Heat.ltP l d[e]! d[s - 1]! = false := fun h1 h2 => by
          have := HLO.out (by omega)
          rw [show P - (s - 1) = e by omega] at this; exact this
        have hhi' : s < m → m < e → Heat.ltP l d[e - 1]! d[s]! = true := fun h1 h2 => by
          have := HHI.out (by omega)
          rw [show P - s = e - 1 by omega] at this; exact this
        have FN := Lib.hid (FIN.out s e has hsm hme heb (by omega) hsd hlo' hhi')
        have RT := Lib.hid (ROT.out s e q)
        have S1 := Lib.hid (fun dR q => SYM1.out dR s q)
        have S2 := Lib.hid (fun dR q => SYM2.out dR e q)
        have HST2 : W.drewN q = (putRow encP W g 0 d).drewN q := by rw [putRow_self encP W g 0 d HH.out]
        rw [HST2]
        have HE : Hid (N0 = e + s ∧ s ≤ r0 ∧ s0 ≤ s) := ⟨he, hrr, hs0⟩
        clear HST2 HLO HHI hlo' hhi' SYM1 SYM2 ROT FIN HH HR HL HQ2 he
        by_cases c1 : s < m ∧ m < e
        · obtain ⟨x1, x2⟩ := c1
          by_cases c2 : a < s ∧ s < mid
          · obtain ⟨x3, x4⟩ := c2
            by_cases c3 : mid < e ∧ e < b
            · obtain ⟨x5, x6⟩ := c3
              have y1 : decide ((s : Int) < (m : Int)) = true := decide_eq_true (by omega)
              have y2 : decide ((m : Int) < (e : Int)) = true := decide_eq_true (by omega)
              go_wp2_with (first
                | (go_at_call 91; ((with_reducible refine (RT.out x1 x2 (by omega)).mono ?_); rintro e1 w1 ⟨rfl, dR, r1, hR1, hp1, rfl⟩; have F1 := Lib.hid (FN.out dR hR1 (.inl hp1)); clear hR1 hp1))
                | (go_at_call 79; ((with_reducible refine (S1.out dR (q + r1) F1.out.1 F1.out.2.1 x3 x4).mono ?_); rintro e1 w1 ⟨rfl, d1, r2, hp2, hs2, rfl⟩; have F2 := Lib.hid (F1.out.2.2 d1 (.inl ⟨hp2, hs2⟩)); clear hp2 hs2))
                | (go_at_call 79; ((with_reducible refine (S2.out d1 ((q + r1) + r2) F2.out.1 F2.out.2.1 x5 x6).mono ?_); rintro e1 w1 ⟨rfl, d2, r3, hp3, hs3, rfl⟩; have F3 := Lib.hid (F2.out.2.2 d2 (.inl ⟨hp3, hs3⟩)); clear hp3 hs3)))
              all_goals first | (exfalso; have := HE.out; have := HQ.out; omega) | skip
              all_goals first | go_end0 | (refine bodyPost_ret (results_none (by rfl) _ _ _) rfl ?_)
              all_goals exact ⟨rfl, d2, (((q + r1) + r2) + r3), F3.out.1, F3.out.2, by first | rfl | (simp only [Nat.add_assoc])⟩
            · have x5 : ¬ (mid < e ∧ e < b) := c3
              have y1 : decide ((s : Int) < (m : Int)) = true := decide_eq_true (by omega)
              have y2 : decide ((m : Int) < (e : Int)) = true := decide_eq_true (by omega)
              go_wp2_with (first
                | (go_at_call 91; ((with_reducible refine (RT.out x1 x2 (by omega)).mono ?_); rintro e1 w1 ⟨rfl, dR, r1, hR1, hp1, rfl⟩; have F1 := Lib.hid (FN.out dR hR1 (.inl hp1)); clear hR1 hp1))
                | (go_at_call 79; ((with_reducible refine (S1.out dR (q + r1) F1.out.1 F1.out.2.1 x3 x4).mono ?_); rintro e1 w1 ⟨rfl, d1, r2, hp2, hs2, rfl⟩; have F2 := Lib.hid (F1.out.2.2 d1 (.inl ⟨hp2, hs2⟩)); have F3 := Lib.hid (F2.out.2.2 d1 (.inr ⟨x5, rfl⟩)); clear hp2 hs2)))
              all_goals first | (exfalso; have := HE.out; have := HQ.out; omega) | skip
              all_goals first | go_end0 | (refine bodyPost_ret (results_none (by rfl) _ _ _) rfl ?_)
              all_goals exact ⟨rfl, d1, ((q + r1) + r2), F3.out.1, F3.out.2, by first | rfl | (simp only [Nat.add_assoc])⟩
          · have x3 : ¬ (a < s ∧ s < mid) := c2
            by_cases c3 : mid < e ∧ e < b
            · obtain ⟨x5, x6⟩ := c3
              have y1 : decide ((s : Int) < (m : Int)) = true := decide_eq_true (by omega)
              have y2 : decide ((m : Int) < (e : Int)) = true := decide_eq_true (by omega)
              go_wp2_with (first
                | (go_at_call 91; ((with_reducible refine (RT.out x1 x2 (by omega)).mono ?_); rintro e1 w1 ⟨rfl, dR, r1, hR1, hp1, rfl⟩; have F1 := Lib.hid (FN.out dR hR1 (.inl hp1)); have F2 := Lib.hid (F1.out.2.2 dR (.inr ⟨x3, rfl⟩)); clear hR1 hp1))
                | (go_at_call 79; ((with_reducible refine (S2.out dR (q + r1) F2.out.1 F2.out.2.1 x5 x6).mono ?_); rintro e1 w1 ⟨rfl, d2, r3, hp3, hs3, rfl⟩; have F3 := Lib.hid (F2.out.2.2 d2 (.inl ⟨hp3, hs3⟩)); clear hp3 hs3)))
              all_goals first | (exfalso; have := HE.out; have := HQ.out; omega) | skip
              all_goals first | go_end0 | (refine bodyPost_ret (results_none (by rfl) _ _ _) rfl ?_)
              all_goals exact ⟨rfl, d2, ((q + r1) + r3), F3.out.1, F3.out.2, by first | rfl | (simp only [Nat.add_assoc])⟩
            · have x5 : ¬ (mid < e ∧ e < b) := c3
              have y1 : decide ((s : Int) < (m : Int)) = true := decide_eq_true (by omega)
              have y2 : decide ((m : Int) < (e : Int)) = true := decide_eq_true (by omega)
              go_wp2_with (first
                | (go_at_call 91; ((with_reducible refine (RT.out x1 x2 (by omega)).mono ?_); rintro e1 w1 ⟨rfl, dR, r1, hR1, hp1, rfl⟩; have F1 := Lib.hid (FN.out dR hR1 (.inl hp1)); have F2 := Lib.hid (F1.out.2.2 dR (.inr ⟨x3, rfl⟩)); have F3 := Lib.hid (F2.out.2.2 dR (.inr ⟨x5, rfl⟩)); clear hR1 hp1)))
              all_goals first | (exfalso; have := HE.out; have := HQ.out; omega) | skip
              all_goals first | go_end0 | (refine bodyPost_ret (results_none (by rfl) _ _ _) rfl ?_)
              all_goals exact ⟨rfl, dR, (q + r1), F3.out.1, F3.out.2, by first | rfl | (simp only [Nat.add_assoc])⟩
        · have FN0 : Hid (¬ (s < m ∧ m < e) → Heat.Rot m (m - s) (e - m) d d) := fun h => by
            rcases Nat.lt_or_ge s m with h1 | h1
            · have : e - m = 0 := by omega
              rw [this]; exact Heat.Rot.none_right _ _ _
            · have : m - s = 0 := by omega
              rw [this]; exact Heat.Rot.none_left _ _ _
          by_cases c2 : a < s ∧ s < mid
          · obtain ⟨x3, x4⟩ := c2
            by_cases c3 : mid < e ∧ e < b
            · obtain ⟨x5, x6⟩ := c3
              have F1 := Lib.hid (FN.out d (FN0.out c1) (.inr rfl))
              go_wp2_with (first
                | (go_at_call 79; ((with_reducible refine (S1.out d q F1.out.1 F1.out.2.1 x3 x4).mono ?_); rintro e1 w1 ⟨rfl, d1, r2, hp2, hs2, rfl⟩; have F2 := Lib.hid (F1.out.2.2 d1 (.inl ⟨hp2, hs2⟩)); clear hp2 hs2))
                | (go_at_call 79; ((with_reducible refine (S2.out d1 (q + r2) F2.out.1 F2.out.2.1 x5 x6).mono ?_); rintro e1 w1 ⟨rfl, d2, r3, hp3, hs3, rfl⟩; have F3 := Lib.hid (F2.out.2.2 d2 (.inl ⟨hp3, hs3⟩)); clear hp3 hs3)))
              all_goals first | (exfalso; have := HE.out; have := HQ.out; omega) | skip
              all_goals first | go_end0 | (refine bodyPost_ret (results_none (by rfl) _ _ _) rfl ?_)
              all_goals exact ⟨rfl, d2, ((q + r2) + r3), F3.out.1, F3.out.2, by first | rfl | (simp only [Nat.add_assoc])⟩
            · have x5 : ¬ (mid < e ∧ e < b) := c3
              have F1 := Lib.hid (FN.out d (FN0.out c1) (.inr rfl))
              go_wp2_with (first
                | (go_at_call 79; ((with_reducible refine (S1.out d q F1.out.1 F1.out.2.1 x3 x4).mono ?_); rintro e1 w1 ⟨rfl, d1, r2, hp2, hs2, rfl⟩; have F2 := Lib.hid (F1.out.2.2 d1 (.inl ⟨hp2, hs2⟩)); have F3 := Lib.hid (F2.out.2.2 d1 (.inr ⟨x5, rfl⟩)); clear hp2 hs2)))
              all_goals first | (exfalso; have := HE.out; have := HQ.out; omega) | skip
              all_goals first | go_end0 | (refine bodyPost_ret (results_none (by rfl) _ _ _) rfl ?_)
              all_goals exact ⟨rfl, d1, (q + r2), F3.out.1, F3.out.2, by first | rfl | (simp only [Nat.add_assoc])⟩
          · have x3 : ¬ (a < s ∧ s < mid) := c2
            by_cases c3 : mid < e ∧ e < b
            · obtain ⟨x5, x6⟩ := c3
              have F1 := Lib.hid (FN.out d (FN0.out c1) (.inr rfl))
              have F2 := Lib.hid (F1.out.2.2 d (.inr ⟨x3, rfl⟩))
              go_wp2_with (first
                | (go_at_call 79; ((with_reducible refine (S2.out d q F2.out.1 F2.out.2.1 x5 x6).mono ?_); rintro e1 w1 ⟨rfl, d2, r3, hp3, hs3, rfl⟩; have F3 := Lib.hid (F2.out.2.2 d2 (.inl ⟨hp3, hs3⟩)); clear hp3 hs3)))
              all_goals first | (exfalso; have := HE.out; have := HQ.out; omega) | skip
              all_goals first | go_end0 | (refine bodyPost_ret (results_none (by rfl) _ _ _) rfl ?_)
              all_goals exact ⟨rfl, d2, (q + r3), F3.out.1, F3.out.2, by first | rfl | (simp only [Nat.add_assoc])⟩
            · have x5 : ¬ (mid < e ∧ e < b) := c3
              have F1 := Lib.hid (FN.out d (FN0.out c1) (.inr rfl))
              have F2 := Lib.hid (F1.out.2.2 d (.inr ⟨x3, rfl⟩))
              have F3 := Lib.hid (F2.out.2.2 d (.inr ⟨x5, rfl⟩))
              go_wp2_with fail
              all_goals first | (exfalso; have := HE.out; have := HQ.out; omega) | skip
              all_goals first | go_end0 | (refine bodyPost_ret (results_none (by rfl) _ _ _) rfl ?_)
              all_goals exact ⟨rfl, d, q, F3.out.1, F3.out.2, by first | rfl | (simp only [Nat.add_assoc])⟩
  · obtain ⟨s0, hs0⟩ : ∃ s0, s0 = a := ⟨_, rfl⟩
    obtain ⟨r0, hr0⟩ : ∃ r0, r0 = m := ⟨_, rfl⟩
    have hgti : ¬ (mid : Int) < (m : Int) := by omega
    have HQ : Hid (mid + m = N0 ∧ N0 = P + 1 ∧ (a + b) / 2 = mid ∧ ((mid < m ∧ N0 = s0 + b ∧ r0 = mid) ∨ (m ≤ mid ∧ s0 = a ∧ r0 = m))) := ⟨hN0, hP, hmid, .inr ⟨hle, hs0, hr0⟩⟩
    have hrv : Hid (Value.int .i64 (m : Int) = .int .i64 (r0 : Int)) := by rw [hr0]; rfl
    have hsv : Hid (Value.int .i64 (a : Int) = .int .i64 (s0 : Int)) := by rw [hs0]; rfl
    clear hN0 hP hmid hs0 hr0 hle
    go_enter Try.func79, Try.ntmps79
    go_wp2_with fail
    go_loopw [20, 21] (fun v20 v21 wr => ∃ (s r q : Nat), s0 ≤ s ∧ s ≤ r ∧ r ≤ r0 ∧ v20 = .int .i64 (s : Int) ∧ v21 = .int .i64 (r : Int) ∧ (s0 < s → Heat.ltP l d[P - (s - 1)]! d[s - 1]! = false) ∧ (r < r0 → Heat.ltP l d[P - r]! d[r]! = true) ∧ wr = W.drewN q) (fun v20 v21 _ => (intOf v21).toNat - (intOf v20).toNat)
    case atStart => exact ⟨s0, r0, 0, Nat.le_refl _, by have := HQ.out; omega, Nat.le_refl _, by first | exact hsv.out | rfl | go_num, by first | exact hrv.out | rfl | go_num, fun h => absurd h (by omega), fun h => absurd h (by omega), rfl⟩
    case round =>
      obtain ⟨s, r, q, hs0, hsr, hrr, rfl, rfl, hlo, hhi, rfl⟩ := hrel
      have HQ2 := HQ.out
      have HLO := Lib.hid hlo
      have HHI := Lib.hid hhi
      clear hlo hhi
      by_cases hlt : s < r
      · obtain ⟨h, hh⟩ : ∃ h, (s + r) / 2 = h := ⟨_, rfl⟩
        have hih : s ≤ h ∧ h < r := by omega
        have hw1 : IntKind.i64.wrap ((s : Int) + (r : Int)) = (s : Int) + (r : Int) := by rw [IntKind.wrap_i64]; omega
        have eh : ((s : Int) + (r : Int)) / 2 = (h : Int) := by omega
        obtain ⟨y, hy⟩ : ∃ y, P = y + h := ⟨P - h, by omega⟩
        have ey : (P : Int) - (h : Int) = (y : Int) := by omega
        have wy : IntKind.i64.wrap (y : Int) = (y : Int) := by rw [IntKind.wrap_i64]; omega
        have hym : m ≤ y ∧ y < b := by omega
        obtain ⟨ch, fh⟩ := HH.out h (by omega)
        obtain ⟨cy, fy⟩ := HH.out y (by omega)
        rw [Nat.zero_add] at ch cy
        have hrk := HR.out.rk h y (by omega) (by omega) (by omega) (by omega)
        have hcf := Heat.cf_lt l d[y]! d[h]! hrk
        have C := Lib.hid (fun q => HL.out d[y]! d[h]! q)
        have HY : Hid (P - h = y) := by show P - h = y; omega
        obtain ⟨xh, hxh⟩ : ∃ x, d[h]! = x := ⟨_, rfl⟩
        obtain ⟨xy, hxy⟩ : ∃ x, d[y]! = x := ⟨_, rfl⟩
        rw [hxh] at ch hcf C
        rw [hxy] at cy hcf C
        have ch' : (W.drewN q).cell? ⟨g, h, none⟩ = some (.int .i64 (xh.val : Int)) := ch
        have cy' : (W.drewN q).cell? ⟨g, y, none⟩ = some (.int .i64 (xy.val : Int)) := cy
        obtain ⟨v, hv⟩ : ∃ v, Heat.cfOf l xy xh = v := ⟨_, rfl⟩
        have C2 : Hid (∀ r, Calls Try.prog 59 #[.int .i64 (xy.val : Int), .int .i64 (xh.val : Int), .pointer (some ⟨bx, 0, none⟩)] ((W.drewN q).drewN r) fun e w' => e = .returned (.int .i64 v) ∧ ∃ r', w' = ((W.drewN q).drewN r).drewN r') := fun r => by
          have := C.out (q + r); rw [hv] at this; rw [World.drewN_drewN]; exact this
        have hlt2 : decide (v < 0) = Heat.ltP l xy xh := by rw [← hv, ← hcf]; rfl
        have HLT := Lib.hid hlt2
        have HXX : Hid (d[h]! = xh ∧ d[y]! = xy) := ⟨hxh, hxy⟩
        have hhi' : (h : Int) < (n : Int) + 1 := by omega
        have hyi' : (y : Int) < (n : Int) + 1 := by omega
        clear ch cy hcf hrk fh fy C hv hlt2 hxh hxy
        obtain ⟨wq, hwq⟩ : ∃ wq, W.drewN q = wq := ⟨_, rfl⟩
        have HW : Hid (∀ r, wq.drewN r = W.drewN (q + r)) := fun r => by rw [← hwq, World.drewN_drewN]
        rw [hwq] at ch' cy' C2 ⊢
        clear hwq SYM1 SYM2 ROT FIN HQ2 hy hh
        cases hb2 : Heat.ltP l xy xh with
        | true =>
          have g1 : v < 0 := of_decide_eq_true (by rw [HLT.out, hb2])
          have g2 : decide (v < 0) = true := decide_eq_true g1
          have HB := Lib.hid hb2
          clear hb2
          go_wp2_with fail
          go_quiet (first | (go_at_call 59; exact Calls.quiet_of (C2.out _)))
          go_wp2_with fail
          go_roundw
          case rel => exact ⟨s, h, q + nq, hs0, by omega, by omega, rfl, by go_num, HLO.out, fun _ => by rw [HY.out, HXX.out.1, HXX.out.2]; exact HB.out, HW.out nq⟩
          case measure => simp [intOf]; omega
        | false =>
          have g1 : 0 ≤ v := by have := of_decide_eq_false (p := v < 0) (by rw [HLT.out, hb2]); omega
          have g2 : decide (v < 0) = false := decide_eq_false (by omega)
          have HB := Lib.hid hb2
          clear hb2
          go_wp2_with fail
          go_quiet (first | (go_at_call 59; exact Calls.quiet_of (C2.out _)))
          go_wp2_with fail
          go_roundw
          case rel => exact ⟨h + 1, r, q + nq, by omega, by omega, hrr, by go_num, rfl, fun _ => by rw [Nat.add_sub_cancel, HY.out, HXX.out.1, HXX.out.2]; exact HB.out, HHI.out, HW.out nq⟩
          case measure => simp [intOf]; omega
      · have hsr2 : s = r := by omega
        subst hsr2
        obtain ⟨e, he⟩ : ∃ e, N0 = e + s := ⟨N0 - s, by omega⟩
        have ee : (N0 : Int) - (s : Int) = (e : Int) := by omega
        have we : IntKind.i64.wrap (e : Int) = (e : Int) := by rw [IntKind.wrap_i64]; omega
        have has : a ≤ s := by omega
        have hsm : s ≤ m := by omega
        have hme : m ≤ e := by omega
        have heb : e ≤ b := by omega
        have hsd : s ≤ mid := by omega
        have hlo' : a < s → e < b → Heat.ltP l d[e]! d[s - 1]! = false := fun h1 h2 => by
          have := HLO.out (by omega)
          rw [show P - (s - 1) = e by omega] at this; exact this
        have hhi' : s < m → m < e → Heat.ltP l d[e - 1]! d[s]! = true := fun h1 h2 => by
          have := HHI.out (by omega)
          rw [show P - s = e - 1 by omega] at this; exact this
        have FN := Lib.hid (FIN.out s e has hsm hme heb (by omega) hsd hlo' hhi')
        have RT := Lib.hid (ROT.out s e q)
        have S1 := Lib.hid (fun dR q => SYM1.out dR s q)
        have S2 := Lib.hid (fun dR q => SYM2.out dR e q)
        have HST2 : W.drewN q = (putRow encP W g 0 d).drewN q := by rw [putRow_self encP W g 0 d HH.out]
        rw [HST2]
        have HE : Hid (N0 = e + s ∧ s ≤ r0 ∧ s0 ≤ s) := ⟨he, hrr, hs0⟩
        clear HST2 HLO HHI hlo' hhi' SYM1 SYM2 ROT FIN HH HR HL HQ2 he
        by_cases c1 : s < m ∧ m < e
        · obtain ⟨x1, x2⟩ := c1
          by_cases c2 : a < s ∧ s < mid
          · obtain ⟨x3, x4⟩ := c2
            by_cases c3 : mid < e ∧ e < b
            · obtain ⟨x5, x6⟩ := c3
              have y1 : decide ((s : Int) < (m : Int)) = true := decide_eq_true (by omega)
              have y2 : decide ((m : Int) < (e : Int)) = true := decide_eq_true (by omega)
              go_wp2_with (first
                | (go_at_call 91; ((with_reducible refine (RT.out x1 x2 (by omega)).mono ?_); rintro e1 w1 ⟨rfl, dR, r1, hR1, hp1, rfl⟩; have F1 := Lib.hid (FN.out dR hR1 (.inl hp1)); clear hR1 hp1))
                | (go_at_call 79; ((with_reducible refine (S1.out dR (q + r1) F1.out.1 F1.out.2.1 x3 x4).mono ?_); rintro e1 w1 ⟨rfl, d1, r2, hp2, hs2, rfl⟩; have F2 := Lib.hid (F1.out.2.2 d1 (.inl ⟨hp2, hs2⟩)); clear hp2 hs2))
                | (go_at_call 79; ((with_reducible refine (S2.out d1 ((q + r1) + r2) F2.out.1 F2.out.2.1 x5 x6).mono ?_); rintro e1 w1 ⟨rfl, d2, r3, hp3, hs3, rfl⟩; have F3 := Lib.hid (F2.out.2.2 d2 (.inl ⟨hp3, hs3⟩)); clear hp3 hs3)))
              all_goals first | (exfalso; have := HE.out; have := HQ.out; omega) | skip
              all_goals first | go_end0 | (refine bodyPost_ret (results_none (by rfl) _ _ _) rfl ?_)
              all_goals exact ⟨rfl, d2, (((q + r1) + r2) + r3), F3.out.1, F3.out.2, by first | rfl | (simp only [Nat.add_assoc])⟩
            · have x5 : ¬ (mid < e ∧ e < b) := c3
              have y1 : decide ((s : Int) < (m : Int)) = true := decide_eq_true (by omega)
              have y2 : decide ((m : Int) < (e : Int)) = true := decide_eq_true (by omega)
              go_wp2_with (first
                | (go_at_call 91; ((with_reducible refine (RT.out x1 x2 (by omega)).mono ?_); rintro e1 w1 ⟨rfl, dR, r1, hR1, hp1, rfl⟩; have F1 := Lib.hid (FN.out dR hR1 (.inl hp1)); clear hR1 hp1))
                | (go_at_call 79; ((with_reducible refine (S1.out dR (q + r1) F1.out.1 F1.out.2.1 x3 x4).mono ?_); rintro e1 w1 ⟨rfl, d1, r2, hp2, hs2, rfl⟩; have F2 := Lib.hid (F1.out.2.2 d1 (.inl ⟨hp2, hs2⟩)); have F3 := Lib.hid (F2.out.2.2 d1 (.inr ⟨x5, rfl⟩)); clear hp2 hs2)))
              all_goals first | (exfalso; have := HE.out; have := HQ.out; omega) | skip
              all_goals first | go_end0 | (refine bodyPost_ret (results_none (by rfl) _ _ _) rfl ?_)
              all_goals exact ⟨rfl, d1, ((q + r1) + r2), F3.out.1, F3.out.2, by first | rfl | (simp only [Nat.add_assoc])⟩
          · have x3 : ¬ (a < s ∧ s < mid) := c2
            by_cases c3 : mid < e ∧ e < b
            · obtain ⟨x5, x6⟩ := c3
              have y1 : decide ((s : Int) < (m : Int)) = true := decide_eq_true (by omega)
              have y2 : decide ((m : Int) < (e : Int)) = true := decide_eq_true (by omega)
              go_wp2_with (first
                | (go_at_call 91; ((with_reducible refine (RT.out x1 x2 (by omega)).mono ?_); rintro e1 w1 ⟨rfl, dR, r1, hR1, hp1, rfl⟩; have F1 := Lib.hid (FN.out dR hR1 (.inl hp1)); have F2 := Lib.hid (F1.out.2.2 dR (.inr ⟨x3, rfl⟩)); clear hR1 hp1))
                | (go_at_call 79; ((with_reducible refine (S2.out dR (q + r1) F2.out.1 F2.out.2.1 x5 x6).mono ?_); rintro e1 w1 ⟨rfl, d2, r3, hp3, hs3, rfl⟩; have F3 := Lib.hid (F2.out.2.2 d2 (.inl ⟨hp3, hs3⟩)); clear hp3 hs3)))
              all_goals first | (exfalso; have := HE.out; have := HQ.out; omega) | skip
              all_goals first | go_end0 | (refine bodyPost_ret (results_none (by rfl) _ _ _) rfl ?_)
              all_goals exact ⟨rfl, d2, ((q + r1) + r3), F3.out.1, F3.out.2, by first | rfl | (simp only [Nat.add_assoc])⟩
            · have x5 : ¬ (mid < e ∧ e < b) := c3
              have y1 : decide ((s : Int) < (m : Int)) = true := decide_eq_true (by omega)
              have y2 : decide ((m : Int) < (e : Int)) = true := decide_eq_true (by omega)
              go_wp2_with (first
                | (go_at_call 91; ((with_reducible refine (RT.out x1 x2 (by omega)).mono ?_); rintro e1 w1 ⟨rfl, dR, r1, hR1, hp1, rfl⟩; have F1 := Lib.hid (FN.out dR hR1 (.inl hp1)); have F2 := Lib.hid (F1.out.2.2 dR (.inr ⟨x3, rfl⟩)); have F3 := Lib.hid (F2.out.2.2 dR (.inr ⟨x5, rfl⟩)); clear hR1 hp1)))
              all_goals first | (exfalso; have := HE.out; have := HQ.out; omega) | skip
              all_goals first | go_end0 | (refine bodyPost_ret (results_none (by rfl) _ _ _) rfl ?_)
              all_goals exact ⟨rfl, dR, (q + r1), F3.out.1, F3.out.2, by first | rfl | (simp only [Nat.add_assoc])⟩
        · have FN0 : Hid (¬ (s < m ∧ m < e) → Heat.Rot m (m - s) (e - m) d d) := fun h => by
            rcases Nat.lt_or_ge s m with h1 | h1
            · have : e - m = 0 := by omega
              rw [this]; exact Heat.Rot.none_right _ _ _
            · have : m - s = 0 := by omega
              rw [this]; exact Heat.Rot.none_left _ _ _
          by_cases c2 : a < s ∧ s < mid
          · obtain ⟨x3, x4⟩ := c2
            by_cases c3 : mid < e ∧ e < b
            · obtain ⟨x5, x6⟩ := c3
              have F1 := Lib.hid (FN.out d (FN0.out c1) (.inr rfl))
              go_wp2_with (first
                | (go_at_call 79; ((with_reducible refine (S1.out d q F1.out.1 F1.out.2.1 x3 x4).mono ?_); rintro e1 w1 ⟨rfl, d1, r2, hp2, hs2, rfl⟩; have F2 := Lib.hid (F1.out.2.2 d1 (.inl ⟨hp2, hs2⟩)); clear hp2 hs2))
                | (go_at_call 79; ((with_reducible refine (S2.out d1 (q + r2) F2.out.1 F2.out.2.1 x5 x6).mono ?_); rintro e1 w1 ⟨rfl, d2, r3, hp3, hs3, rfl⟩; have F3 := Lib.hid (F2.out.2.2 d2 (.inl ⟨hp3, hs3⟩)); clear hp3 hs3)))
              all_goals first | (exfalso; have := HE.out; have := HQ.out; omega) | skip
              all_goals first | go_end0 | (refine bodyPost_ret (results_none (by rfl) _ _ _) rfl ?_)
              all_goals exact ⟨rfl, d2, ((q + r2) + r3), F3.out.1, F3.out.2, by first | rfl | (simp only [Nat.add_assoc])⟩
            · have x5 : ¬ (mid < e ∧ e < b) := c3
              have F1 := Lib.hid (FN.out d (FN0.out c1) (.inr rfl))
              go_wp2_with (first
                | (go_at_call 79; ((with_reducible refine (S1.out d q F1.out.1 F1.out.2.1 x3 x4).mono ?_); rintro e1 w1 ⟨rfl, d1, r2, hp2, hs2, rfl⟩; have F2 := Lib.hid (F1.out.2.2 d1 (.inl ⟨hp2, hs2⟩)); have F3 := Lib.hid (F2.out.2.2 d1 (.inr ⟨x5, rfl⟩)); clear hp2 hs2)))
              all_goals first | (exfalso; have := HE.out; have := HQ.out; omega) | skip
              all_goals first | go_end0 | (refine bodyPost_ret (results_none (by rfl) _ _ _) rfl ?_)
              all_goals exact ⟨rfl, d1, (q + r2), F3.out.1, F3.out.2, by first | rfl | (simp only [Nat.add_assoc])⟩
          · have x3 : ¬ (a < s ∧ s < mid) := c2
            by_cases c3 : mid < e ∧ e < b
            · obtain ⟨x5, x6⟩ := c3
              have F1 := Lib.hid (FN.out d (FN0.out c1) (.inr rfl))
              have F2 := Lib.hid (F1.out.2.2 d (.inr ⟨x3, rfl⟩))
              go_wp2_with (first
                | (go_at_call 79; ((with_reducible refine (S2.out d q F2.out.1 F2.out.2.1 x5 x6).mono ?_); rintro e1 w1 ⟨rfl, d2, r3, hp3, hs3, rfl⟩; have F3 := Lib.hid (F2.out.2.2 d2 (.inl ⟨hp3, hs3⟩)); clear hp3 hs3)))
              all_goals first | (exfalso; have := HE.out; have := HQ.out; omega) | skip
              all_goals first | go_end0 | (refine bodyPost_ret (results_none (by rfl) _ _ _) rfl ?_)
              all_goals exact ⟨rfl, d2, (q + r3), F3.out.1, F3.out.2, by first | rfl | (simp only [Nat.add_assoc])⟩
            · have x5 : ¬ (mid < e ∧ e < b) := c3
              have F1 := Lib.hid (FN.out d (FN0.out c1) (.inr rfl))
              have F2 := Lib.hid (F1.out.2.2 d (.inr ⟨x3, rfl⟩))
              have F3 := Lib.hid (F2.out.2.2 d (.inr ⟨x5, rfl⟩))
              go_wp2_with fail
              all_goals first | (exfalso; have := HE.out; have := HQ.out; omega) | skip
              all_goals first | go_end0 | (refine bodyPost_ret (results_none (by rfl) _ _ _) rfl ?_)
              all_goals exact ⟨rfl, d, q, F3.out.1, F3.out.2, by first | rfl | (simp only [Nat.add_assoc])⟩
end H
end Go.Proofs.Ytkbchpbdpkbnjaa
