/-
  The walk of the law IdsTwo.
-/
import Derived.Test.YtkbchpbdpkbnjaaIdsNew
namespace Go.Proofs.Ytkbchpbdpkbnjaa
open Go.RowKit
namespace I

theorem NewRow.mono {B B' : Nat} {w : World} {A : Option Addr} {n : Nat} (h : NewRow B' w A n) (hb : B ≤ B') : NewRow B w A n := fun hp => by
  obtain ⟨b, off, e, h1, h2, h3⟩ := h hp
  exact ⟨b, off, e, Nat.le_trans hb h1, h2, h3⟩
/-- Several rows of their own. -/
def AllN (W : World) : List (Nat × Option Addr × Nat) → Prop
  | [] => True
  | k :: ks => NewRow k.1 W k.2.1 k.2.2 ∧ AllN W ks
theorem AllN.below {W w' : World} (hb : Below W.heap.size W w') : ∀ {ks : List (Nat × Option Addr × Nat)}, AllN W ks → AllN w' ks
  | [], _ => trivial
  | _ :: _, h => ⟨h.1.below hb, AllN.below hb h.2⟩

set_option maxRecDepth 100000 in
set_option maxHeartbeats 8000000 in
theorem idsTwo_walk (l : List Int) (Al : Option Addr) (cl : Nat) (m : List Int) (Am : Option Addr) (cm : Nat) (w : World) (hll : l.length ≤ cl) (hlm : cl ≤ maxLen) (hlI : IntsAt w Al l) (hln : Al = none → cl = 0) (hml : m.length ≤ cm) (hmm : cm ≤ maxLen) (hmI : IntsAt w Am m) (hmn : Am = none → cm = 0) :
    Calls Try.prog 9 #[.slice Al l.length cl, .slice Am m.length cm] w fun e w' => e = .returned (.bool true) ∧ Below w.heap.size w w' := by
  have CFl : Hid (∀ W, Calls Try.prog 36 #[.slice Al l.length cl] W fun e w' => e = .returned (.slice Al (l.take 40).length cl) ∧ W = w') := fun W => few_any l Al cl W hll hlm
  have CFm : Hid (∀ W, Calls Try.prog 36 #[.slice Am m.length cm] W fun e w' => e = .returned (.slice Am (m.take 40).length cm) ∧ W = w') := fun W => few_any m Am cm W hml hmm
  have hfll : (l.take 40).length ≤ 40 := by rw [List.length_take]; omega
  have HFl : Hid (LstC w Al cl (l.take 40)) := ⟨hlI.take 40, by rw [List.length_take]; omega, hlm, hln⟩
  have hfml : (m.take 40).length ≤ 40 := by rw [List.length_take]; omega
  have HFm : Hid (LstC w Am cm (m.take 40)) := ⟨hmI.take 40, by rw [List.length_take]; omega, hmm, hmn⟩
  clear hlI hll hlm hln hmI hml hmm hmn
  generalize l.take 40 = fl at *
  generalize l.length = nl at *
  generalize m.take 40 = fm at *
  generalize m.length = nm at *
  obtain ⟨sa, Esa'⟩ : ∃ s, s = Ids.setOf fl := ⟨_, rfl⟩
  have Usa : Ids.Up sa := by rw [Esa']; exact Ids.up_setOf _
  have lsa : sa.length ≤ 40 := by rw [Esa']; exact Nat.le_trans (Ids.setOf_length fl) hfll
  have Esa := Lib.hid Esa'
  clear Esa'
  obtain ⟨sb, Esb'⟩ : ∃ s, s = Ids.setOf fm := ⟨_, rfl⟩
  have Usb : Ids.Up sb := by rw [Esb']; exact Ids.up_setOf _
  have lsb : sb.length ≤ 40 := by rw [Esb']; exact Nat.le_trans (Ids.setOf_length fm) hfml
  have Esb := Lib.hid Esb'
  clear Esb'
  obtain ⟨su, Esu'⟩ : ∃ s, s = Ids.union sa sb := ⟨_, rfl⟩
  have Usu : Ids.Up su := by rw [Esu']; exact Ids.up_union Usa Usb
  have lsu : su.length ≤ sa.length + sb.length := by rw [Esu']; exact Ids.pick_length _ _ sa sb (Nat.le_refl _)
  have Esu := Lib.hid Esu'
  clear Esu'
  obtain ⟨sv, Esv'⟩ : ∃ s, s = Ids.both sa sb := ⟨_, rfl⟩
  have Usv : Ids.Up sv := by rw [Esv']; exact Ids.up_both Usa Usb
  have lsv : sv.length ≤ sa.length + sb.length := by rw [Esv']; exact Ids.pick_length _ _ sa sb (Nat.le_refl _)
  have Esv := Lib.hid Esv'
  clear Esv'
  obtain ⟨sm, Esm'⟩ : ∃ s, s = Ids.minus sa sb := ⟨_, rfl⟩
  have Usm : Ids.Up sm := by rw [Esm']; exact Ids.up_minus Usa Usb
  have lsm : sm.length ≤ sa.length + sb.length := by rw [Esm']; exact Ids.pick_length _ _ sa sb (Nat.le_refl _)
  have Esm := Lib.hid Esm'
  clear Esm'
  have Csa : Hid (∀ W A c, LstC W A c fl → Calls Try.prog 39 #[.slice A fl.length c] W fun e w' => ∃ A' c', e = .returned (.slice A' sa.length c') ∧ LstC w' A' c' sa ∧ Below W.heap.size W w') := fun W A c h => by rw [Esa.out]; exact refOf_c fl A c W (by omega) h.1
  have Csb : Hid (∀ W A c, LstC W A c fm → Calls Try.prog 39 #[.slice A fm.length c] W fun e w' => ∃ A' c', e = .returned (.slice A' sb.length c') ∧ LstC w' A' c' sb ∧ Below W.heap.size W w') := fun W A c h => by rw [Esb.out]; exact refOf_c fm A c W (by omega) h.1
  have Csu : Hid (∀ W A c B d, LstC W A c sa → LstC W B d sb → Calls Try.prog 43 #[.slice A sa.length c, .slice B sb.length d] W fun e w' => ∃ A' c', e = .returned (.slice A' su.length c') ∧ LstC w' A' c' su ∧ NewRow W.heap.size w' A' su.length ∧ Below W.heap.size W w') := fun W A c B d h h2 => by rw [Esu.out]; exact union_n sa sb A B c d W (by omega) (by omega) h h2
  have Csv : Hid (∀ W A c B d, LstC W A c sa → LstC W B d sb → Calls Try.prog 44 #[.slice A sa.length c, .slice B sb.length d] W fun e w' => ∃ A' c', e = .returned (.slice A' sv.length c') ∧ LstC w' A' c' sv ∧ NewRow W.heap.size w' A' sv.length ∧ Below W.heap.size W w') := fun W A c B d h h2 => by rw [Esv.out]; exact both_n sa sb A B c d W (by omega) (by omega) h h2
  have Csm : Hid (∀ W A c B d, LstC W A c sa → LstC W B d sb → Calls Try.prog 45 #[.slice A sa.length c, .slice B sb.length d] W fun e w' => ∃ A' c', e = .returned (.slice A' sm.length c') ∧ LstC w' A' c' sm ∧ NewRow W.heap.size w' A' sm.length ∧ Below W.heap.size W w') := fun W A c B d h h2 => by rw [Esm.out]; exact minus_n sa sb A B c d W (by omega) (by omega) h h2
  have Dsu : Hid (∀ W A c B d, LstC W A c sa → LstC W B d sb → Calls Try.prog 46 #[.slice A sa.length c, .slice B sb.length d] W fun e w' => ∃ A' c', e = .returned (.slice A' su.length c') ∧ IntsAt w' A' su ∧ Below W.heap.size W w') := fun W A c B d h h2 => by rw [Esu.out]; exact refUnion_c sa sb A B c d W (by omega) (by omega) h h2 Usa Usb
  have Dsv : Hid (∀ W A c B d, LstC W A c sa → LstC W B d sb → Calls Try.prog 47 #[.slice A sa.length c, .slice B sb.length d, .bool true] W fun e w' => ∃ A' c', e = .returned (.slice A' sv.length c') ∧ IntsAt w' A' sv ∧ Below W.heap.size W w') := fun W A c B d h h2 => by rw [Esv.out]; exact refKeep_t sa sb A B c d W (by omega) (by omega) h h2 Usa Usb
  have Dsm : Hid (∀ W A c B d, LstC W A c sa → LstC W B d sb → Calls Try.prog 47 #[.slice A sa.length c, .slice B sb.length d, .bool false] W fun e w' => ∃ A' c', e = .returned (.slice A' sm.length c') ∧ IntsAt w' A' sm ∧ Below W.heap.size W w') := fun W A c B d h h2 => by rw [Esm.out]; exact refKeep_f sa sb A B c d W (by omega) (by omega) h h2 Usa Usb
  have Ssu : Hid (∀ W A c B d, IntsAt W A su → IntsAt W B su → Calls Try.prog 38 #[.slice A su.length c, .slice B su.length d] W fun e w' => e = .returned (.bool true) ∧ Below W.heap.size W w') := fun W A c B d h h2 => by have := refSame_any su su A B c d W (by omega) (by omega) h h2; rw [Ids.same_refl] at this; exact this
  have Ssv : Hid (∀ W A c B d, IntsAt W A sv → IntsAt W B sv → Calls Try.prog 38 #[.slice A sv.length c, .slice B sv.length d] W fun e w' => e = .returned (.bool true) ∧ Below W.heap.size W w') := fun W A c B d h h2 => by have := refSame_any sv sv A B c d W (by omega) (by omega) h h2; rw [Ids.same_refl] at this; exact this
  have Ssm : Hid (∀ W A c B d, IntsAt W A sm → IntsAt W B sm → Calls Try.prog 38 #[.slice A sm.length c, .slice B sm.length d] W fun e w' => e = .returned (.bool true) ∧ Below W.heap.size W w') := fun W A c B d h h2 => by have := refSame_any sm sm A B c d W (by omega) (by omega) h h2; rw [Ids.same_refl] at this; exact this
  have Ssa : Hid (∀ W A c B d, IntsAt W A sa → IntsAt W B sa → Calls Try.prog 38 #[.slice A sa.length c, .slice B sa.length d] W fun e w' => e = .returned (.bool true) ∧ Below W.heap.size W w') := fun W A c B d h h2 => by have := refSame_any sa sa A B c d W (by omega) (by omega) h h2; rw [Ids.same_refl] at this; exact this
  have Ssb : Hid (∀ W A c B d, IntsAt W A sb → IntsAt W B sb → Calls Try.prog 38 #[.slice A sb.length c, .slice B sb.length d] W fun e w' => e = .returned (.bool true) ∧ Below W.heap.size W w') := fun W A c B d h h2 => by have := refSame_any sb sb A B c d W (by omega) (by omega) h h2; rw [Ids.same_refl] at this; exact this
  have CM : Hid (∀ W A c B d, LstC W A c sa → LstC W B d sb → Calls Try.prog 48 #[.slice A sa.length c, .slice B sb.length d] W fun e w' => e = .returned (.bool (decide ((0 : Int) < (sv.length : Int)))) ∧ Below W.heap.size W w') := fun W A c B d h h2 => by have := meets_c sa sb A B c d W (by omega) (by omega) h h2; rw [← Esv.out, show decide (0 < sv.length) = decide ((0 : Int) < (sv.length : Int)) by simp] at this; exact this
  have CW : Hid (∀ W A c B d, LstC W A c sa → LstC W B d sb → Calls Try.prog 50 #[.slice A sa.length c, .slice B sb.length d] W fun e w' => e = .returned (.bool ((sm.length : Int) == 0)) ∧ Below W.heap.size W w') := fun W A c B d h h2 => by have := within_c sa sb A B c d W (by omega) (by omega) h h2; rw [← Esm.out, show (sm.length == 0) = ((sm.length : Int) == 0) by rw [Bool.eq_iff_iff, beq_iff_eq, beq_iff_eq]; omega] at this; exact this
  have CE : Hid (∀ W A c B d, LstC W A c sa → LstC W B d sb → Calls Try.prog 49 #[.slice A sa.length c, .slice B sb.length d] W fun e w' => e = .returned (.bool (Ids.same sa sb)) ∧ Below W.heap.size W w') := fun W A c B d h h2 => (same_any sa sb A B c d W (by omega) (by omega) h.1 h2.1).mono fun e w' h => ⟨h.1, quiet_below h.2⟩
  have RE : Hid (∀ W A c B d, LstC W A c sa → LstC W B d sb → Calls Try.prog 38 #[.slice A sa.length c, .slice B sb.length d] W fun e w' => e = .returned (.bool (Ids.same sa sb)) ∧ Below W.heap.size W w') := fun W A c B d h h2 => refSame_any sa sb A B c d W (by omega) (by omega) h.1 h2.1
  have CC : Hid (∀ W A c B d, LstC W A c sa → LstC W B d sb → Calls Try.prog 51 #[.slice A sa.length c, .slice B sb.length d] W fun e w' => e = .returned (.int .i64 (Ids.cmp sa sb)) ∧ W = w') := fun W A c B d h h2 => compare_any sa sb A B c d W (by omega) (by omega) h.1 h2.1
  have CD : Hid (∀ W A c B d, LstC W A c sb → LstC W B d sa → Calls Try.prog 51 #[.slice A sb.length c, .slice B sa.length d] W fun e w' => e = .returned (.int .i64 (-Ids.cmp sa sb)) ∧ W = w') := fun W A c B d h h2 => by have := compare_any sb sa A B c d W (by omega) (by omega) h.1 h2.1; rw [Ids.cmp_swap] at this; exact this
  have RC : Hid (∀ W A c B d, LstC W A c sa → LstC W B d sb → Calls Try.prog 52 #[.slice A sa.length c, .slice B sb.length d] W fun e w' => e = .returned (.int .i64 (Ids.cmp sa sb)) ∧ Below W.heap.size W w') := fun W A c B d h h2 => refCompare_any sa sb A B c d W (by omega) (by omega) h.1 h2.1
  have hqr := Ids.cmp_range sa sb
  generalize Ids.same sa sb = sab at *
  generalize Ids.cmp sa sb = q at *
  have hqw : IntKind.i64.wrap (-q) = -q := by rw [IntKind.wrap_i64]; omega
  clear hqr Usu Usv Usm Usa Usb
  have K0 : Hid (All w [(Al, cl, fl), (Am, cm, fm)]) := ⟨HFl.out, HFm.out, trivial⟩
  go_enter Try.func9, Try.ntmps9
  go_wp2_with (first
    | (go_at_call 35; ((with_reducible refine (awake4 w).mono ?_); rintro e1 w1 ⟨rfl, b1⟩; have K1 := Lib.hid (K0.out.below b1)))
    | (go_at_call 36; ((with_reducible refine (CFl.out _).mono ?_); rintro e1 w' ⟨rfl, rfl⟩))
    | (go_at_call 36; ((with_reducible refine (CFm.out _).mono ?_); rintro e1 w' ⟨rfl, rfl⟩))
    | (go_at_call 39; have h1 : LstC w1 Al cl fl := K1.out.1; ((with_reducible refine (Csa.out _ _ _ h1).mono ?_); rintro e1 w2 ⟨Asa, csa, rfl, hn, bb⟩; have b2 := b1.trans (bb.mono b1.size); have K2 : Hid (All w2 [(Asa, csa, sa), (Al, cl, fl), (Am, cm, fm)]) := ⟨hn, K1.out.below bb⟩; clear hn h1 bb))
    | (go_at_call 39; have h1 : LstC w2 Am cm fm := K2.out.2.2.1; ((with_reducible refine (Csb.out _ _ _ h1).mono ?_); rintro e1 w3 ⟨Asb, csb, rfl, hn, bb⟩; have b3 := b2.trans (bb.mono b2.size); have K3 : Hid (All w3 [(Asb, csb, sb), (Asa, csa, sa), (Al, cl, fl), (Am, cm, fm)]) := ⟨hn, K2.out.below bb⟩; clear hn h1 bb; have d3 : Below w3.heap.size w3 w3 := Below.refl _ _; have N3 : Hid (AllN w3 []) := trivial))
    | (go_at_call 43; have h1 : LstC w3 Asa csa sa := K3.out.2.1; have h2 : LstC w3 Asb csb sb := K3.out.1; ((with_reducible refine (Csu.out _ _ _ _ _ h1 h2).mono ?_); rintro e1 w4 ⟨Asu, csu, rfl, hn, hnew, bb⟩; have b4 := b3.trans (bb.mono b3.size); have d4 := d3.trans (bb.mono d3.size); have K4 : Hid (All w4 [(Asu, csu, su), (Asb, csb, sb), (Asa, csa, sa), (Al, cl, fl), (Am, cm, fm)]) := ⟨hn, K3.out.below bb⟩; have N4 : Hid (AllN w4 [(w3.heap.size, Asu, su.length)]) := ⟨hnew.mono d3.size, N3.out.below bb⟩; clear hn h1 h2 hnew bb))
    | (go_at_call 44; have h1 : LstC w4 Asa csa sa := K4.out.2.2.1; have h2 : LstC w4 Asb csb sb := K4.out.2.1; ((with_reducible refine (Csv.out _ _ _ _ _ h1 h2).mono ?_); rintro e1 w5 ⟨Asv, csv, rfl, hn, hnew, bb⟩; have b5 := b4.trans (bb.mono b4.size); have d5 := d4.trans (bb.mono d4.size); have K5 : Hid (All w5 [(Asv, csv, sv), (Asu, csu, su), (Asb, csb, sb), (Asa, csa, sa), (Al, cl, fl), (Am, cm, fm)]) := ⟨hn, K4.out.below bb⟩; have N5 : Hid (AllN w5 [(w3.heap.size, Asv, sv.length), (w3.heap.size, Asu, su.length)]) := ⟨hnew.mono d4.size, N4.out.below bb⟩; clear hn h1 h2 hnew bb))
    | (go_at_call 45; have h1 : LstC w5 Asa csa sa := K5.out.2.2.2.1; have h2 : LstC w5 Asb csb sb := K5.out.2.2.1; ((with_reducible refine (Csm.out _ _ _ _ _ h1 h2).mono ?_); rintro e1 w6 ⟨Asm, csm, rfl, hn, hnew, bb⟩; have b6 := b5.trans (bb.mono b5.size); have d6 := d5.trans (bb.mono d5.size); have K6 : Hid (All w6 [(Asm, csm, sm), (Asv, csv, sv), (Asu, csu, su), (Asb, csb, sb), (Asa, csa, sa), (Al, cl, fl), (Am, cm, fm)]) := ⟨hn, K5.out.below bb⟩; have N6 : Hid (AllN w6 [(w3.heap.size, Asm, sm.length), (w3.heap.size, Asv, sv.length), (w3.heap.size, Asu, su.length)]) := ⟨hnew.mono d5.size, N5.out.below bb⟩; clear hn h1 h2 hnew bb))
    | (go_at_call 46; have h1 : LstC w6 Asa csa sa := K6.out.2.2.2.2.1; have h2 : LstC w6 Asb csb sb := K6.out.2.2.2.1; ((with_reducible refine (Dsu.out _ _ _ _ _ h1 h2).mono ?_); rintro e1 w7 ⟨AJsu, cJsu, rfl, hJ, bb⟩; have b7 := b6.trans (bb.mono b6.size); have d7 := d6.trans (bb.mono d6.size); have K7 := Lib.hid (K6.out.below bb); have N7 := Lib.hid (N6.out.below bb); have J7 := Lib.hid hJ; clear hJ h1 h2 bb))
    | (go_at_call 38; have h1 : LstC w7 Asu csu su := K7.out.2.2.1; have h1i := h1.1; ((with_reducible refine (Ssu.out _ _ _ _ _ h1i J7.out).mono ?_); rintro e1 w8 ⟨rfl, bb⟩; have b8 := b7.trans (bb.mono b7.size); have d8 := d7.trans (bb.mono d7.size); have K8 := Lib.hid (K7.out.below bb); have N8 := Lib.hid (N7.out.below bb); clear h1 h1i bb))
    | (go_at_call 47; have h1 : LstC w8 Asa csa sa := K8.out.2.2.2.2.1; have h2 : LstC w8 Asb csb sb := K8.out.2.2.2.1; ((with_reducible refine (Dsv.out _ _ _ _ _ h1 h2).mono ?_); rintro e1 w9 ⟨AJsv, cJsv, rfl, hJ, bb⟩; have b9 := b8.trans (bb.mono b8.size); have d9 := d8.trans (bb.mono d8.size); have K9 := Lib.hid (K8.out.below bb); have N9 := Lib.hid (N8.out.below bb); have J9 := Lib.hid hJ; clear hJ h1 h2 bb))
    | (go_at_call 38; have h1 : LstC w9 Asv csv sv := K9.out.2.1; have h1i := h1.1; ((with_reducible refine (Ssv.out _ _ _ _ _ h1i J9.out).mono ?_); rintro e1 w10 ⟨rfl, bb⟩; have b10 := b9.trans (bb.mono b9.size); have d10 := d9.trans (bb.mono d9.size); have K10 := Lib.hid (K9.out.below bb); have N10 := Lib.hid (N9.out.below bb); clear h1 h1i bb))
    | (go_at_call 47; have h1 : LstC w10 Asa csa sa := K10.out.2.2.2.2.1; have h2 : LstC w10 Asb csb sb := K10.out.2.2.2.1; ((with_reducible refine (Dsm.out _ _ _ _ _ h1 h2).mono ?_); rintro e1 w11 ⟨AJsm, cJsm, rfl, hJ, bb⟩; have b11 := b10.trans (bb.mono b10.size); have d11 := d10.trans (bb.mono d10.size); have K11 := Lib.hid (K10.out.below bb); have N11 := Lib.hid (N10.out.below bb); have J11 := Lib.hid hJ; clear hJ h1 h2 bb))
    | (go_at_call 38; have h1 : LstC w11 Asm csm sm := K11.out.1; have h1i := h1.1; ((with_reducible refine (Ssm.out _ _ _ _ _ h1i J11.out).mono ?_); rintro e1 w12 ⟨rfl, bb⟩; have b12 := b11.trans (bb.mono b11.size); have d12 := d11.trans (bb.mono d11.size); have K12 := Lib.hid (K11.out.below bb); have N12 := Lib.hid (N11.out.below bb); clear h1 h1i bb))
    | (go_at_call 48; have h1 : LstC w12 Asa csa sa := K12.out.2.2.2.2.1; have h2 : LstC w12 Asb csb sb := K12.out.2.2.2.1; ((with_reducible refine (CM.out _ _ _ _ _ h1 h2).mono ?_); rintro e1 w13 ⟨rfl, bb⟩; have b13 := b12.trans (bb.mono b12.size); have d13 := d12.trans (bb.mono d12.size); have K13 := Lib.hid (K12.out.below bb); have N13 := Lib.hid (N12.out.below bb); clear h1 h2 bb))
    | (go_at_call 49; have h1 : LstC w13 Asa csa sa := K13.out.2.2.2.2.1; have h2 : LstC w13 Asb csb sb := K13.out.2.2.2.1; ((with_reducible refine (CE.out _ _ _ _ _ h1 h2).mono ?_); rintro e1 w14 ⟨rfl, bb⟩; have b14 := b13.trans (bb.mono b13.size); have d14 := d13.trans (bb.mono d13.size); have K14 := Lib.hid (K13.out.below bb); have N14 := Lib.hid (N13.out.below bb); clear h1 h2 bb))
    | (go_at_call 38; have h1 : LstC w14 Asa csa sa := K14.out.2.2.2.2.1; have h2 : LstC w14 Asb csb sb := K14.out.2.2.2.1; ((with_reducible refine (RE.out _ _ _ _ _ h1 h2).mono ?_); rintro e1 w15 ⟨rfl, bb⟩; have b15 := b14.trans (bb.mono b14.size); have d15 := d14.trans (bb.mono d14.size); have K15 := Lib.hid (K14.out.below bb); have N15 := Lib.hid (N14.out.below bb); clear h1 h2 bb))
    | (go_at_call 50; have h1 : LstC w15 Asa csa sa := K15.out.2.2.2.2.1; have h2 : LstC w15 Asb csb sb := K15.out.2.2.2.1; ((with_reducible refine (CW.out _ _ _ _ _ h1 h2).mono ?_); rintro e1 w16 ⟨rfl, bb⟩; have b16 := b15.trans (bb.mono b15.size); have d16 := d15.trans (bb.mono d15.size); have K16 := Lib.hid (K15.out.below bb); have N16 := Lib.hid (N15.out.below bb); clear h1 h2 bb))
    | (go_at_call 51; have h1 : LstC w16 Asa csa sa := K16.out.2.2.2.2.1; have h2 : LstC w16 Asb csb sb := K16.out.2.2.2.1; ((with_reducible refine (CC.out _ _ _ _ _ h1 h2).mono ?_); rintro e1 w' ⟨rfl, rfl⟩; clear h1 h2))
    | (go_at_call 52; have h1 : LstC w16 Asa csa sa := K16.out.2.2.2.2.1; have h2 : LstC w16 Asb csb sb := K16.out.2.2.2.1; ((with_reducible refine (RC.out _ _ _ _ _ h1 h2).mono ?_); rintro e1 w17 ⟨rfl, bb⟩; have b17 := b16.trans (bb.mono b16.size); have d17 := d16.trans (bb.mono d16.size); have K17 := Lib.hid (K16.out.below bb); have N17 := Lib.hid (N16.out.below bb); clear h1 h2 bb))
    | (go_at_call 51; have h1 : LstC w17 Asa csa sa := K17.out.2.2.2.2.1; have h2 : LstC w17 Asb csb sb := K17.out.2.2.2.1; ((with_reducible refine (CD.out _ _ _ _ _ h2 h1).mono ?_); rintro e1 w' ⟨rfl, rfl⟩; clear h1 h2))
    | (go_at_call 52; have h1 : LstC w17 Asa csa sa := K17.out.2.2.2.2.1; have h2 : LstC w17 Asb csb sb := K17.out.2.2.2.1; ((with_reducible refine (RC.out _ _ _ _ _ h1 h2).mono ?_); rintro e1 w18 ⟨rfl, bb⟩; have b18 := b17.trans (bb.mono b17.size); have d18 := d17.trans (bb.mono d17.size); have K18 := Lib.hid (K17.out.below bb); have N18 := Lib.hid (N17.out.below bb); clear h1 h2 bb)))
  have hgL : Hid (w18.heap.size = w18.heap.size) := rfl
  have T0 : Hid (Three w3.heap.size w3 (w18.alloc (.cells #[.slice Asu su.length csu, .slice Asv sv.length csv, .slice Asm sm.length csm] 41)) w18.heap.size #[.slice Asu su.length csu, .slice Asv sv.length csv, .slice Asm sm.length csm] Asu Asv Asm su.length sv.length sm.length) := by
    have bb : Below w18.heap.size w18 (w18.alloc (.cells #[.slice Asu su.length csu, .slice Asv sv.length csv, .slice Asm sm.length csm] 41)) := (Below.refl _ _).alloc (Nat.le_refl _) _
    have hN := N18.out.below bb
    exact ⟨d18.trans (bb.mono d18.size), heap_alloc_new _ _, hN.2.2.1, hN.2.1, hN.1⟩
  have BW : Hid (Below w.heap.size w w3) := b3
  have KB : Hid (LstC w3 Asa csa sa ∧ LstC w3 Asb csb sb ∧ LstC w3 Al cl fl ∧ LstC w3 Am cm fm) := ⟨K3.out.2.1, K3.out.1, K3.out.2.2.1, K3.out.2.2.2.1⟩
  have hB18 : w3.heap.size ≤ w18.heap.size := d18.size
  generalize w18.heap.size = gL at *
  generalize (w18.alloc (.cells #[.slice Asu su.length csu, .slice Asv sv.length csv, .slice Asm sm.length csm] 41)) = W at *
  clear K0 K1 K2 K3 K4 K5 K6 K7 K8 K9 K10 K11 K12 K13 K14 K15 K16 K17 K18 N3 N4 N5 N6 N7 N8 N9 N10 N11 N12 N13 N14 N15 N16 N17 N18
  clear b1 b2 b3 b4 b5 b6 b7 b8 b9 b10 b11 b12 b13 b14 b15 b16 b17 b18 d3 d4 d5 d6 d7 d8 d9 d10 d11 d12 d13 d14 d15 d16 d17 d18
  clear J7 J9 J11 hgL hqw CM CW CE RE CC CD RC Csu Csv Csm Dsu Dsv Dsm Ssu Ssv Ssm
  go_loopw [101] (fun i wr => ∃ k : Nat, k ≤ 3 ∧ i = .int .i64 (k : Int) ∧ Three w3.heap.size w3 wr gL #[.slice Asu su.length csu, .slice Asv sv.length csv, .slice Asm sm.length csm] Asu Asv Asm su.length sv.length sm.length) (fun i _ => 3 - (intOf i).toNat)
  case atStart => exact ⟨0, by omega, rfl, T0.out⟩
  case round =>
    obtain ⟨k, hk, rfl, hT⟩ := hrel
    have HT := Lib.hid hT
    clear hT
    by_cases hlt : k < 3
    · obtain ⟨A, n, c, hcell, hrow, hn⟩ : ∃ A n c, wr.cell? ⟨gL, k, none⟩ = some (.slice A n c) ∧ NewRow w3.heap.size wr A n ∧ n ≤ 1000 := by
        have hlit := HT.out.lit
        match k, hlt with
        | 0, _ => exact ⟨Asu, su.length, csu, by simp [World.cell?, hlit], HT.out.r1, by omega⟩
        | 1, _ => exact ⟨Asv, sv.length, csv, by simp [World.cell?, hlit], HT.out.r2, by omega⟩
        | 2, _ => exact ⟨Asm, sm.length, csm, by simp [World.cell?, hlit], HT.out.r3, by omega⟩
      have HROW := Lib.hid hrow
      clear hrow
      have hki : (k : Int) < 3 := by omega
      go_wp2
      go_loopw [107] (fun i w2 => ∃ j : Nat, j ≤ n ∧ i = .int .i64 (j : Int) ∧ Three w3.heap.size w3 w2 gL #[.slice Asu su.length csu, .slice Asv sv.length csv, .slice Asm sm.length csm] Asu Asv Asm su.length sv.length sm.length ∧ NewRow w3.heap.size w2 A n) (fun i _ => n - (intOf i).toNat)
      case atStart => exact ⟨0, Nat.zero_le _, rfl, HT.out, HROW.out⟩
      case round =>
        obtain ⟨j, hj, rfl, hT2, hr2⟩ := hrel
        have HT2 := Lib.hid hT2
        have HR2 := Lib.hid hr2
        clear hT2 hr2
        by_cases hjn : j < n
        · obtain ⟨b, off, hA, hb1, _, hrows⟩ := HR2.out (by omega)
          subst hA
          obtain ⟨z, cz, fz⟩ := hrows j hjn
          have HC := Lib.hid cz
          have hji : (j : Int) < (n : Int) := by omega
          have HNE : Hid (b ≠ gL) := fun e => by
            subst e
            have hlit := HT2.out.lit
            have hc := HC.out
            simp only [World.cell?, hlit] at hc
            simp at hc
            match off + j, hc with
            | 0, hc => simp at hc
            | 1, hc => simp at hc
            | 2, hc => simp at hc
            | m + 3, hc => simp at hc
          clear hrows
          have hb1' := Lib.hid hb1
          clear hb1
          go_wp2
          go_roundw
          case rel => exact ⟨j + 1, by omega, by go_num, HT2.out.set hb1'.out HNE.out HC.out _, HR2.out.set HC.out _⟩
          case measure => simp [intOf]; omega
        · clear HROW HT
          go_wp2
          go_roundw
          case rel => exact ⟨k + 1, by omega, by go_num, HT2.out⟩
          case measure => simp [intOf]; omega
    · have hb3 := HT.out.bel
      have Lfl : Hid (LstC wr Al cl fl) := KB.out.2.2.1.below hb3
      have Lfm : Hid (LstC wr Am cm fm) := KB.out.2.2.2.below hb3
      have Lsa : Hid (LstC wr Asa csa sa) := KB.out.1.below hb3
      have Lsb : Hid (LstC wr Asb csb sb) := KB.out.2.1.below hb3
      have x0 : Below w.heap.size w wr := BW.out.trans (hb3.mono BW.out.size)
      clear hb3 HT T0 KB
      go_wp2_with (first
        | (go_at_call 36; (first | ((with_reducible refine (CFl.out _).mono ?_); rintro e1 w' ⟨rfl, rfl⟩) | ((with_reducible refine (CFm.out _).mono ?_); rintro e1 w' ⟨rfl, rfl⟩)))
        | (go_at_call 39; ((with_reducible refine (Csa.out _ _ _ Lfl.out).mono ?_); rintro e1 x1 ⟨A1, c1, rfl, ⟨hI1, -⟩, bb⟩; have y1 := x0.trans (bb.mono x0.size); have Lsa1 := Lib.hid (Lsa.out.below bb).1; have Lsb1 := Lib.hid (Lsb.out.below bb); have Lfm1 := Lib.hid (Lfm.out.below bb); clear bb))
        | (go_at_call 38; ((with_reducible refine (Ssa.out _ _ _ _ _ Lsa1.out hI1).mono ?_); rintro e1 x2 ⟨rfl, bb⟩; have y2 := y1.trans (bb.mono y1.size); have Lsb2 := Lib.hid (Lsb1.out.below bb); have Lfm2 := Lib.hid (Lfm1.out.below bb); clear bb))
        | (go_at_call 39; ((with_reducible refine (Csb.out _ _ _ Lfm2.out).mono ?_); rintro e1 x3 ⟨A3, c3, rfl, ⟨hI3, -⟩, bb⟩; have y3 := y2.trans (bb.mono y2.size); have Lsb3 := Lib.hid (Lsb2.out.below bb).1; clear bb))
        | (go_at_call 38; ((with_reducible refine (Ssb.out _ _ _ _ _ Lsb3.out hI3).mono ?_); rintro e1 x4 ⟨rfl, bb⟩; have y4 := y3.trans (bb.mono y3.size); clear bb)))
      go_ret
      exact ⟨rfl, y4⟩
end I
end Go.Proofs.Ytkbchpbdpkbnjaa
