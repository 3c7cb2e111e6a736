/-
  The walk of the law IdsCounts.
-/
import Derived.Test.YtkbchpbdpkbnjaaIdsAll
namespace Go.Proofs.Ytkbchpbdpkbnjaa
open Go.RowKit
namespace I

theorem wpList_unguard {P : Program} {ops : Array Oper} {Q : Exit → Act → World → Prop} {o : Oper} {rest : List Oper} {a : Act} {w : World} (hw : Region.wanted o (yielded ops a.tmps) = true) (h : wpList P ops Q ({ o with guard := none } :: rest) a w) : wpList P ops Q (o :: rest) a w := by
  unfold wpList at h ⊢
  rw [if_pos hw]
  rw [if_pos (by simp [Region.wanted])] at h
  exact h

set_option maxRecDepth 100000 in
set_option maxHeartbeats 8000000 in
theorem idsCounts_walk (l : List Int) (Al : Option Addr) (cl : Nat) (m : List Int) (Am : Option Addr) (cm : Nat) (w : World) (hll : l.length ≤ cl) (hlm : cl ≤ maxLen) (hlI : IntsAt w Al l) (hln : Al = none → cl = 0) (hml : m.length ≤ cm) (hmm : cm ≤ maxLen) (hmI : IntsAt w Am m) (hmn : Am = none → cm = 0) :
    Calls Try.prog 11 #[.slice Al l.length cl, .slice Am m.length cm] w fun e w' => e = .returned (.bool true) ∧ Below w.heap.size w w' := by
  obtain ⟨i0, hi, hz0, hz1, hz2⟩ := info_parts info3
  have CFl : Hid (∀ W, Calls Try.prog 36 #[.slice Al l.length cl] W fun e w' => e = .returned (.slice Al (l.take 40).length cl) ∧ W = w') := fun W => few_any l Al cl W hll hlm
  have CFm : Hid (∀ W, Calls Try.prog 36 #[.slice Am m.length cm] W fun e w' => e = .returned (.slice Am (m.take 40).length cm) ∧ W = w') := fun W => few_any m Am cm W hml hmm
  have hfll : (l.take 40).length ≤ 40 := by rw [List.length_take]; omega
  have HFl : Hid (LstC w Al cl (l.take 40)) := ⟨hlI.take 40, by rw [List.length_take]; omega, hlm, hln⟩
  have hfml : (m.take 40).length ≤ 40 := by rw [List.length_take]; omega
  have HFm : Hid (LstC w Am cm (m.take 40)) := ⟨hmI.take 40, by rw [List.length_take]; omega, hmm, hmn⟩
  clear hlI hll hlm hln hmI hml hmm hmn
  generalize l.take 40 = fl at *
  generalize l.length = nl at *
  generalize m.take 40 = fm at *
  generalize m.length = nm at *
  obtain ⟨sa, Esa'⟩ : ∃ s, s = Ids.setOf fl := ⟨_, rfl⟩
  have Usa : Ids.Up sa := by rw [Esa']; exact Ids.up_setOf _
  have lsa : sa.length ≤ 40 := by rw [Esa']; exact Nat.le_trans (Ids.setOf_length fl) hfll
  have Esa := Lib.hid Esa'
  clear Esa'
  obtain ⟨sb, Esb'⟩ : ∃ s, s = Ids.setOf fm := ⟨_, rfl⟩
  have Usb : Ids.Up sb := by rw [Esb']; exact Ids.up_setOf _
  have lsb : sb.length ≤ 40 := by rw [Esb']; exact Nat.le_trans (Ids.setOf_length fm) hfml
  have Esb := Lib.hid Esb'
  clear Esb'
  obtain ⟨su, Esu'⟩ : ∃ s, s = Ids.union sa sb := ⟨_, rfl⟩
  have Usu : Ids.Up su := by rw [Esu']; exact Ids.up_union Usa Usb
  have lsu : su.length ≤ sa.length + sb.length := by rw [Esu']; exact Ids.pick_length _ _ sa sb (Nat.le_refl _)
  have Msu : ∀ v, v ∈ su ↔ v ∈ sa ∨ v ∈ sb := fun v => by rw [Esu']; exact Ids.mem_union Usa Usb v
  have Esu := Lib.hid Esu'
  clear Esu'
  obtain ⟨sv, Esv'⟩ : ∃ s, s = Ids.both sa sb := ⟨_, rfl⟩
  have Usv : Ids.Up sv := by rw [Esv']; exact Ids.up_both Usa Usb
  have lsv : sv.length ≤ sa.length + sb.length := by rw [Esv']; exact Ids.pick_length _ _ sa sb (Nat.le_refl _)
  have Msv : ∀ v, v ∈ sv ↔ v ∈ sa ∧ v ∈ sb := fun v => by rw [Esv']; exact Ids.mem_both Usa Usb v
  have Esv := Lib.hid Esv'
  clear Esv'
  obtain ⟨sm, Esm'⟩ : ∃ s, s = Ids.minus sa sb := ⟨_, rfl⟩
  have Usm : Ids.Up sm := by rw [Esm']; exact Ids.up_minus Usa Usb
  have lsm : sm.length ≤ sa.length + sb.length := by rw [Esm']; exact Ids.pick_length _ _ sa sb (Nat.le_refl _)
  have Msm : ∀ v, v ∈ sm ↔ v ∈ sa ∧ v ∉ sb := fun v => by rw [Esm']; exact Ids.mem_minus Usa Usb v
  have Esm := Lib.hid Esm'
  clear Esm'
  have hcount : su.length + sv.length = sa.length + sb.length := by rw [Esu.out, Esv.out]; exact Ids.counts _ sa sb (Nat.le_refl _)
  have hleave : sm.length + sv.length = sa.length := by rw [Esm.out, Esv.out]; exact Ids.leaves _ sa sb (Nat.le_refl _)
  have Qsvsa : ((Ids.minus sv sa).length == 0) = true := Ids.nothing_left Usv Usa (fun z hz => ((Msv z).1 hz).1)
  have Qsasu : ((Ids.minus sa su).length == 0) = true := Ids.nothing_left Usa Usu (fun z hz => (Msu z).2 (.inl hz))
  have HU : Hid (Ids.setOf (sa ++ sb) = su) := Ids.up_ext _ _ (Ids.up_setOf _) Usu (fun z => by rw [Ids.mem_setOf, List.mem_append, Msu])
  have g1 : ((su.length : Int) + (sv.length : Int) == (sa.length : Int) + (sb.length : Int)) = true := by rw [beq_iff_eq]; omega
  have g2 : ((sm.length : Int) == (sa.length : Int) - (sv.length : Int)) = true := by rw [beq_iff_eq]; omega
  clear Msu Msv Msm
  have K0 : Hid (All w [(Al, cl, fl), (Am, cm, fm)]) := ⟨HFl.out, HFm.out, trivial⟩
  have C1 : Hid (∀ W A c, LstC W A c fl → Calls Try.prog 39 #[.slice A fl.length c] W fun e w' => ∃ A' c', e = .returned (.slice A' sa.length c') ∧ LstC w' A' c' sa ∧ Below W.heap.size W w') := fun W A c h => by rw [Esa.out]; exact refOf_c fl A c W (by omega) h.1
  have C2 : Hid (∀ W A c, LstC W A c fm → Calls Try.prog 39 #[.slice A fm.length c] W fun e w' => ∃ A' c', e = .returned (.slice A' sb.length c') ∧ LstC w' A' c' sb ∧ Below W.heap.size W w') := fun W A c h => by rw [Esb.out]; exact refOf_c fm A c W (by omega) h.1
  have C3 : Hid (∀ W A c B d, LstC W A c sa → LstC W B d sb → Calls Try.prog 43 #[.slice A sa.length c, .slice B sb.length d] W fun e w' => ∃ A' c', e = .returned (.slice A' su.length c') ∧ LstC w' A' c' su ∧ Below W.heap.size W w') := fun W A c B d h h2 => by rw [Esu.out]; exact union_c sa sb A B c d W (by omega) (by omega) h h2
  have C4 : Hid (∀ W A c B d, LstC W A c sa → LstC W B d sb → Calls Try.prog 44 #[.slice A sa.length c, .slice B sb.length d] W fun e w' => ∃ A' c', e = .returned (.slice A' sv.length c') ∧ LstC w' A' c' sv ∧ Below W.heap.size W w') := fun W A c B d h h2 => by rw [Esv.out]; exact both_c sa sb A B c d W (by omega) (by omega) h h2
  have C5 : Hid (∀ W A c B d, LstC W A c sa → LstC W B d sb → Calls Try.prog 45 #[.slice A sa.length c, .slice B sb.length d] W fun e w' => ∃ A' c', e = .returned (.slice A' sm.length c') ∧ LstC w' A' c' sm ∧ Below W.heap.size W w') := fun W A c B d h h2 => by rw [Esm.out]; exact minus_c sa sb A B c d W (by omega) (by omega) h h2
  have C6 : Hid (∀ W A c B d, LstC W A c sv → LstC W B d sa → Calls Try.prog 50 #[.slice A sv.length c, .slice B sa.length d] W fun e w' => e = .returned (.bool true) ∧ Below W.heap.size W w') := fun W A c B d h h2 => by have := within_c sv sa A B c d W (by omega) (by omega) h h2; rw [Qsvsa] at this; exact this
  have C7 : Hid (∀ W A c B d, LstC W A c sa → LstC W B d su → Calls Try.prog 50 #[.slice A sa.length c, .slice B su.length d] W fun e w' => e = .returned (.bool true) ∧ Below W.heap.size W w') := fun W A c B d h h2 => by have := within_c sa su A B c d W (by omega) (by omega) h h2; rw [Qsasu] at this; exact this
  have C8 : Hid (∀ W A c, LstC W A c su → Calls Try.prog 40 #[.slice A su.length c] W fun e w' => e = .returned (.bool true) ∧ Below W.heap.size W w') := fun W A c h => by have := (is_any su A c W (by omega) h.1).mono fun e w' h => (⟨h.1, quiet_below h.2⟩ : e = .returned (.bool (Ids.rises su)) ∧ Below W.heap.size W w'); rw [(Ids.rises_iff _).2 Usu] at this; exact this
  have C9 : Hid (∀ W A c, LstC W A c sv → Calls Try.prog 40 #[.slice A sv.length c] W fun e w' => e = .returned (.bool true) ∧ Below W.heap.size W w') := fun W A c h => by have := (is_any sv A c W (by omega) h.1).mono fun e w' h => (⟨h.1, quiet_below h.2⟩ : e = .returned (.bool (Ids.rises sv)) ∧ Below W.heap.size W w'); rw [(Ids.rises_iff _).2 Usv] at this; exact this
  clear Qsvsa Qsasu
  have A1 : Hid (∀ (w : World) (o : Obj), Below w.heap.size w (w.alloc o)) := fun w o => (Below.refl _ _).alloc (Nat.le_refl _) _
  have OW : Hid (∀ w : World, (w.alloc (.cells #[] 3)).ownsRow w.heap.size 3 1 (.slice (some ⟨w.heap.size, 0, none⟩) 0 0) ([] : List Int).length (icells [])) := fun w => World.ownsRow_lit w #[] 0 (Nat.le_refl _) (Nat.zero_le _) rfl
  have CO : Hid (∀ W A c, IntsAt W A (sa ++ sb) → Calls Try.prog 37 #[.slice A (sa ++ sb).length c] W fun e w' => ∃ A' c', e = .returned (.slice A' su.length c') ∧ LstC w' A' c' su ∧ Below W.heap.size W w') := fun W A c h => by
    have := of_c (sa ++ sb) A c W (by rw [List.length_append]; omega) h
    rw [HU.out] at this; exact this
  have CE : Hid (∀ W A c B d, LstC W A c su → LstC W B d su → Calls Try.prog 49 #[.slice A su.length c, .slice B su.length d] W fun e w' => e = .returned (.bool true) ∧ Below W.heap.size W w') := fun W A c B d h h2 => by
    have := (same_any su su A B c d W (by omega) (by omega) h.1 h2.1).mono fun e w' h => (⟨h.1, quiet_below h.2⟩ : e = .returned (.bool (Ids.same su su)) ∧ Below W.heap.size W w')
    rw [Ids.same_refl] at this; exact this
  go_enter Try.func11, Try.ntmps11
  go_wp2_with (first
    | (go_at_call 35; ((with_reducible refine (awake4 w).mono ?_); rintro e1 w1 ⟨rfl, b1⟩; have K1 := Lib.hid (K0.out.below b1)))
    | (go_at_call 36; ((with_reducible refine (CFl.out _).mono ?_); rintro e1 w' ⟨rfl, rfl⟩))
    | (go_at_call 36; ((with_reducible refine (CFm.out _).mono ?_); rintro e1 w' ⟨rfl, rfl⟩))
    | (go_at_call 39; have h1 : LstC w1 Al cl fl := K1.out.1; ((with_reducible refine (C1.out _ _ _ h1).mono ?_); rintro e1 w2 ⟨Asa, csa, rfl, hn2, bb⟩; have b2 := b1.trans (bb.mono b1.size); have K2 : Hid (All w2 [(Asa, csa, sa), (Al, cl, fl), (Am, cm, fm)]) := ⟨hn2, K1.out.below bb⟩; clear hn2 h1 bb))
    | (go_at_call 39; have h1 : LstC w2 Am cm fm := K2.out.2.2.1; ((with_reducible refine (C2.out _ _ _ h1).mono ?_); rintro e1 w3 ⟨Asb, csb, rfl, hn3, bb⟩; have b3 := b2.trans (bb.mono b2.size); have K3 : Hid (All w3 [(Asb, csb, sb), (Asa, csa, sa), (Al, cl, fl), (Am, cm, fm)]) := ⟨hn3, K2.out.below bb⟩; clear hn3 h1 bb))
    | (go_at_call 43; have h1 : LstC w3 Asa csa sa := K3.out.2.1; have h2 : LstC w3 Asb csb sb := K3.out.1; ((with_reducible refine (C3.out _ _ _ _ _ h1 h2).mono ?_); rintro e1 w4 ⟨Asu4, csu4, rfl, hn4, bb⟩; have b4 := b3.trans (bb.mono b3.size); have K4 : Hid (All w4 [(Asu4, csu4, su), (Asb, csb, sb), (Asa, csa, sa), (Al, cl, fl), (Am, cm, fm)]) := ⟨hn4, K3.out.below bb⟩; clear hn4 h1 h2 bb))
    | (go_at_call 44; have h1 : LstC w4 Asa csa sa := K4.out.2.2.1; have h2 : LstC w4 Asb csb sb := K4.out.2.1; ((with_reducible refine (C4.out _ _ _ _ _ h1 h2).mono ?_); rintro e1 w5 ⟨Asv5, csv5, rfl, hn5, bb⟩; have b5 := b4.trans (bb.mono b4.size); have K5 : Hid (All w5 [(Asv5, csv5, sv), (Asu4, csu4, su), (Asb, csb, sb), (Asa, csa, sa), (Al, cl, fl), (Am, cm, fm)]) := ⟨hn5, K4.out.below bb⟩; clear hn5 h1 h2 bb))
    | (go_at_call 45; have h1 : LstC w5 Asa csa sa := K5.out.2.2.2.1; have h2 : LstC w5 Asb csb sb := K5.out.2.2.1; ((with_reducible refine (C5.out _ _ _ _ _ h1 h2).mono ?_); rintro e1 w6 ⟨Asm6, csm6, rfl, hn6, bb⟩; have b6 := b5.trans (bb.mono b5.size); have K6 : Hid (All w6 [(Asm6, csm6, sm), (Asv5, csv5, sv), (Asu4, csu4, su), (Asb, csb, sb), (Asa, csa, sa), (Al, cl, fl), (Am, cm, fm)]) := ⟨hn6, K5.out.below bb⟩; clear hn6 h1 h2 bb))
    | (go_at_call 50; have h1 : LstC w6 Asv5 csv5 sv := K6.out.2.1; have h2 : LstC w6 Asa csa sa := K6.out.2.2.2.2.1; ((with_reducible refine (C6.out _ _ _ _ _ h1 h2).mono ?_); rintro e1 w7 ⟨rfl, bb⟩; have b7 := b6.trans (bb.mono b6.size); have K7 := Lib.hid (K6.out.below bb); clear h1 h2 bb))
    | (go_at_call 50; have h1 : LstC w7 Asa csa sa := K7.out.2.2.2.2.1; have h2 : LstC w7 Asu4 csu4 su := K7.out.2.2.1; ((with_reducible refine (C7.out _ _ _ _ _ h1 h2).mono ?_); rintro e1 w8 ⟨rfl, bb⟩; have b8 := b7.trans (bb.mono b7.size); have K8 := Lib.hid (K7.out.below bb); clear h1 h2 bb))
    | (go_at_call 40; have h1 : LstC w8 Asu4 csu4 su := K8.out.2.2.1; ((with_reducible refine (C8.out _ _ _ h1).mono ?_); rintro e1 w9 ⟨rfl, bb⟩; have b9 := b8.trans (bb.mono b8.size); have K9 := Lib.hid (K8.out.below bb); clear h1 bb))
    | (go_at_call 40; have h1 : LstC w9 Asv5 csv5 sv := K9.out.2.1; ((with_reducible refine (C9.out _ _ _ h1).mono ?_); rintro e1 w10 ⟨rfl, bb⟩; have b10 := b9.trans (bb.mono b9.size); have K10 := Lib.hid (K9.out.below bb); clear h1 bb))
    | (at_builtin; refine wpList_unguard rfl ?_; refine wpList_append_ints _ rfl _ _ rfl w10.heap.size i0 hi hz0 hz1 hz2 _ [] sa rfl (OW.out w10) Asa csa rfl (K10.out.2.2.2.2.1.1.below (A1.out w10 _)) K10.out.2.2.2.2.1.2.2.2 (by simp; omega) (A1.out w10 _).size ?_))
  intro v1 x1 own1 gr1
  have d1 : Below w10.heap.size w10 x1 := (A1.out w10 _).grown gr1 (A1.out w10 _).size (fun r hr => ((OW.out w10).lt r hr).1)
  have O1 := Lib.hid own1
  have KX := Lib.hid (K10.out.below d1)
  clear own1 gr1
  go_wp2_with (at_builtin; refine wpList_unguard rfl ?_; refine wpList_append_ints _ rfl _ _ rfl w10.heap.size i0 hi hz0 hz1 hz2 _ sa sb rfl O1.out Asb csb rfl KX.out.2.2.2.1.1 KX.out.2.2.2.1.2.2.2 (by omega) d1.size ?_)
  intro v2 x2 own2 gr2
  have d2 : Below w10.heap.size w10 x2 := d1.grown gr2 d1.size (fun r hr => (O1.out.lt r hr).1)
  obtain ⟨A2, c2, hv, hI2⟩ := own_lstC own2
  subst hv
  have I2 := Lib.hid hI2.1
  have L2 : Hid (LstC x2 Asu4 csu4 su) := (K10.out.below d2).2.2.1
  have e2 := b10.trans (d2.mono b10.size)
  clear own2 gr2 hI2 O1 KX
  have HL : Hid ((sa ++ sb).length = sa.length + sb.length) := List.length_append
  generalize sa ++ sb = sab at *
  go_wp2_with (first
    | (go_at_call 37; ((with_reducible refine (CO.out _ _ _ I2.out).mono ?_); rintro e1 x3 ⟨A3, c3, rfl, hL3, d3⟩; have L3 := Lib.hid hL3; have L3u := Lib.hid (L2.out.below d3); clear hL3; have e3 := e2.trans (d3.mono e2.size)))
    | (go_at_call 49; ((with_reducible refine (CE.out _ _ _ _ _ L3.out L3u.out).mono ?_); rintro e1 x4 ⟨rfl, d4⟩; have e4 := e3.trans (d4.mono e3.size))))
  go_ret
  exact ⟨rfl, e4⟩
end I
end Go.Proofs.Ytkbchpbdpkbnjaa
