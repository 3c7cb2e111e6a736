/-
  The walk of the law IdsThree.
-/
import Derived.Test.YtkbchpbdpkbnjaaIdsAll
namespace Go.Proofs.Ytkbchpbdpkbnjaa
open Go.RowKit
namespace I

set_option maxRecDepth 100000 in
set_option maxHeartbeats 8000000 in
theorem idsThree_walk (l : List Int) (Al : Option Addr) (cl : Nat) (m : List Int) (Am : Option Addr) (cm : Nat) (n : List Int) (An : Option Addr) (cn : Nat) (w : World) (hll : l.length ≤ cl) (hlm : cl ≤ maxLen) (hlI : IntsAt w Al l) (hln : Al = none → cl = 0) (hml : m.length ≤ cm) (hmm : cm ≤ maxLen) (hmI : IntsAt w Am m) (hmn : Am = none → cm = 0) (hnl : n.length ≤ cn) (hnm : cn ≤ maxLen) (hnI : IntsAt w An n) (hnn : An = none → cn = 0) :
    Calls Try.prog 10 #[.slice Al l.length cl, .slice Am m.length cm, .slice An n.length cn] w fun e w' => e = .returned (.bool true) ∧ Below w.heap.size w w' := by
  obtain ⟨i0, hi, hz0, hz1, hz2⟩ := info_parts info3
  have CFl : Hid (∀ W, Calls Try.prog 36 #[.slice Al l.length cl] W fun e w' => e = .returned (.slice Al (l.take 40).length cl) ∧ W = w') := fun W => few_any l Al cl W hll hlm
  have CFm : Hid (∀ W, Calls Try.prog 36 #[.slice Am m.length cm] W fun e w' => e = .returned (.slice Am (m.take 40).length cm) ∧ W = w') := fun W => few_any m Am cm W hml hmm
  have CFn : Hid (∀ W, Calls Try.prog 36 #[.slice An n.length cn] W fun e w' => e = .returned (.slice An (n.take 40).length cn) ∧ W = w') := fun W => few_any n An cn W hnl hnm
  have hfll : (l.take 40).length ≤ 40 := by rw [List.length_take]; omega
  have HFl : Hid (LstC w Al cl (l.take 40)) := ⟨hlI.take 40, by rw [List.length_take]; omega, hlm, hln⟩
  have hfml : (m.take 40).length ≤ 40 := by rw [List.length_take]; omega
  have HFm : Hid (LstC w Am cm (m.take 40)) := ⟨hmI.take 40, by rw [List.length_take]; omega, hmm, hmn⟩
  have hfnl : (n.take 40).length ≤ 40 := by rw [List.length_take]; omega
  have HFn : Hid (LstC w An cn (n.take 40)) := ⟨hnI.take 40, by rw [List.length_take]; omega, hnm, hnn⟩
  clear hlI hll hlm hln hmI hml hmm hmn hnI hnl hnm hnn
  generalize l.take 40 = fl at *
  generalize l.length = nl at *
  generalize m.take 40 = fm at *
  generalize m.length = nm at *
  generalize n.take 40 = fn at *
  generalize n.length = nn at *
  obtain ⟨sa, Esa'⟩ : ∃ s, s = Ids.setOf fl := ⟨_, rfl⟩
  have Usa : Ids.Up sa := by rw [Esa']; exact Ids.up_setOf _
  have lsa : sa.length ≤ 40 := by rw [Esa']; exact Nat.le_trans (Ids.setOf_length fl) hfll
  have Esa := Lib.hid Esa'
  clear Esa'
  obtain ⟨sb, Esb'⟩ : ∃ s, s = Ids.setOf fm := ⟨_, rfl⟩
  have Usb : Ids.Up sb := by rw [Esb']; exact Ids.up_setOf _
  have lsb : sb.length ≤ 40 := by rw [Esb']; exact Nat.le_trans (Ids.setOf_length fm) hfml
  have Esb := Lib.hid Esb'
  clear Esb'
  obtain ⟨sc, Esc'⟩ : ∃ s, s = Ids.setOf fn := ⟨_, rfl⟩
  have Usc : Ids.Up sc := by rw [Esc']; exact Ids.up_setOf _
  have lsc : sc.length ≤ 40 := by rw [Esc']; exact Nat.le_trans (Ids.setOf_length fn) hfnl
  have Esc := Lib.hid Esc'
  clear Esc'
  obtain ⟨ubc, Eubc'⟩ : ∃ s, s = Ids.union sb sc := ⟨_, rfl⟩
  have Uubc : Ids.Up ubc := by rw [Eubc']; exact Ids.up_union Usb Usc
  have lubc : ubc.length ≤ sb.length + sc.length := by rw [Eubc']; exact Ids.pick_length _ _ sb sc (Nat.le_refl _)
  have Mubc : ∀ v, v ∈ ubc ↔ v ∈ sb ∨ v ∈ sc := fun v => by rw [Eubc']; exact Ids.mem_union Usb Usc v
  have Eubc := Lib.hid Eubc'
  clear Eubc'
  obtain ⟨t1, Et1'⟩ : ∃ s, s = Ids.union sa ubc := ⟨_, rfl⟩
  have Ut1 : Ids.Up t1 := by rw [Et1']; exact Ids.up_union Usa Uubc
  have lt1 : t1.length ≤ sa.length + ubc.length := by rw [Et1']; exact Ids.pick_length _ _ sa ubc (Nat.le_refl _)
  have Mt1 : ∀ v, v ∈ t1 ↔ v ∈ sa ∨ v ∈ ubc := fun v => by rw [Et1']; exact Ids.mem_union Usa Uubc v
  have Et1 := Lib.hid Et1'
  clear Et1'
  obtain ⟨uab, Euab'⟩ : ∃ s, s = Ids.union sa sb := ⟨_, rfl⟩
  have Uuab : Ids.Up uab := by rw [Euab']; exact Ids.up_union Usa Usb
  have luab : uab.length ≤ sa.length + sb.length := by rw [Euab']; exact Ids.pick_length _ _ sa sb (Nat.le_refl _)
  have Muab : ∀ v, v ∈ uab ↔ v ∈ sa ∨ v ∈ sb := fun v => by rw [Euab']; exact Ids.mem_union Usa Usb v
  have Euab := Lib.hid Euab'
  clear Euab'
  obtain ⟨t2, Et2'⟩ : ∃ s, s = Ids.union uab sc := ⟨_, rfl⟩
  have Ut2 : Ids.Up t2 := by rw [Et2']; exact Ids.up_union Uuab Usc
  have lt2 : t2.length ≤ uab.length + sc.length := by rw [Et2']; exact Ids.pick_length _ _ uab sc (Nat.le_refl _)
  have Mt2 : ∀ v, v ∈ t2 ↔ v ∈ uab ∨ v ∈ sc := fun v => by rw [Et2']; exact Ids.mem_union Uuab Usc v
  have Et2 := Lib.hid Et2'
  clear Et2'
  obtain ⟨ibc, Eibc'⟩ : ∃ s, s = Ids.both sb sc := ⟨_, rfl⟩
  have Uibc : Ids.Up ibc := by rw [Eibc']; exact Ids.up_both Usb Usc
  have libc : ibc.length ≤ sb.length + sc.length := by rw [Eibc']; exact Ids.pick_length _ _ sb sc (Nat.le_refl _)
  have Mibc : ∀ v, v ∈ ibc ↔ v ∈ sb ∧ v ∈ sc := fun v => by rw [Eibc']; exact Ids.mem_both Usb Usc v
  have Eibc := Lib.hid Eibc'
  clear Eibc'
  obtain ⟨t3, Et3'⟩ : ∃ s, s = Ids.both sa ibc := ⟨_, rfl⟩
  have Ut3 : Ids.Up t3 := by rw [Et3']; exact Ids.up_both Usa Uibc
  have lt3 : t3.length ≤ sa.length + ibc.length := by rw [Et3']; exact Ids.pick_length _ _ sa ibc (Nat.le_refl _)
  have Mt3 : ∀ v, v ∈ t3 ↔ v ∈ sa ∧ v ∈ ibc := fun v => by rw [Et3']; exact Ids.mem_both Usa Uibc v
  have Et3 := Lib.hid Et3'
  clear Et3'
  obtain ⟨iab, Eiab'⟩ : ∃ s, s = Ids.both sa sb := ⟨_, rfl⟩
  have Uiab : Ids.Up iab := by rw [Eiab']; exact Ids.up_both Usa Usb
  have liab : iab.length ≤ sa.length + sb.length := by rw [Eiab']; exact Ids.pick_length _ _ sa sb (Nat.le_refl _)
  have Miab : ∀ v, v ∈ iab ↔ v ∈ sa ∧ v ∈ sb := fun v => by rw [Eiab']; exact Ids.mem_both Usa Usb v
  have Eiab := Lib.hid Eiab'
  clear Eiab'
  obtain ⟨t4, Et4'⟩ : ∃ s, s = Ids.both iab sc := ⟨_, rfl⟩
  have Ut4 : Ids.Up t4 := by rw [Et4']; exact Ids.up_both Uiab Usc
  have lt4 : t4.length ≤ iab.length + sc.length := by rw [Et4']; exact Ids.pick_length _ _ iab sc (Nat.le_refl _)
  have Mt4 : ∀ v, v ∈ t4 ↔ v ∈ iab ∧ v ∈ sc := fun v => by rw [Et4']; exact Ids.mem_both Uiab Usc v
  have Et4 := Lib.hid Et4'
  clear Et4'
  obtain ⟨t5, Et5'⟩ : ∃ s, s = Ids.both sa ubc := ⟨_, rfl⟩
  have Ut5 : Ids.Up t5 := by rw [Et5']; exact Ids.up_both Usa Uubc
  have lt5 : t5.length ≤ sa.length + ubc.length := by rw [Et5']; exact Ids.pick_length _ _ sa ubc (Nat.le_refl _)
  have Mt5 : ∀ v, v ∈ t5 ↔ v ∈ sa ∧ v ∈ ubc := fun v => by rw [Et5']; exact Ids.mem_both Usa Uubc v
  have Et5 := Lib.hid Et5'
  clear Et5'
  obtain ⟨iac, Eiac'⟩ : ∃ s, s = Ids.both sa sc := ⟨_, rfl⟩
  have Uiac : Ids.Up iac := by rw [Eiac']; exact Ids.up_both Usa Usc
  have liac : iac.length ≤ sa.length + sc.length := by rw [Eiac']; exact Ids.pick_length _ _ sa sc (Nat.le_refl _)
  have Miac : ∀ v, v ∈ iac ↔ v ∈ sa ∧ v ∈ sc := fun v => by rw [Eiac']; exact Ids.mem_both Usa Usc v
  have Eiac := Lib.hid Eiac'
  clear Eiac'
  obtain ⟨t6, Et6'⟩ : ∃ s, s = Ids.union iab iac := ⟨_, rfl⟩
  have Ut6 : Ids.Up t6 := by rw [Et6']; exact Ids.up_union Uiab Uiac
  have lt6 : t6.length ≤ iab.length + iac.length := by rw [Et6']; exact Ids.pick_length _ _ iab iac (Nat.le_refl _)
  have Mt6 : ∀ v, v ∈ t6 ↔ v ∈ iab ∨ v ∈ iac := fun v => by rw [Et6']; exact Ids.mem_union Uiab Uiac v
  have Et6 := Lib.hid Et6'
  clear Et6'
  obtain ⟨mab, Emab'⟩ : ∃ s, s = Ids.minus sa sb := ⟨_, rfl⟩
  have Umab : Ids.Up mab := by rw [Emab']; exact Ids.up_minus Usa Usb
  have lmab : mab.length ≤ sa.length + sb.length := by rw [Emab']; exact Ids.pick_length _ _ sa sb (Nat.le_refl _)
  have Mmab : ∀ v, v ∈ mab ↔ v ∈ sa ∧ v ∉ sb := fun v => by rw [Emab']; exact Ids.mem_minus Usa Usb v
  have Emab := Lib.hid Emab'
  clear Emab'
  obtain ⟨t7, Et7'⟩ : ∃ s, s = Ids.minus mab sc := ⟨_, rfl⟩
  have Ut7 : Ids.Up t7 := by rw [Et7']; exact Ids.up_minus Umab Usc
  have lt7 : t7.length ≤ mab.length + sc.length := by rw [Et7']; exact Ids.pick_length _ _ mab sc (Nat.le_refl _)
  have Mt7 : ∀ v, v ∈ t7 ↔ v ∈ mab ∧ v ∉ sc := fun v => by rw [Et7']; exact Ids.mem_minus Umab Usc v
  have Et7 := Lib.hid Et7'
  clear Et7'
  obtain ⟨t8, Et8'⟩ : ∃ s, s = Ids.minus sa ubc := ⟨_, rfl⟩
  have Ut8 : Ids.Up t8 := by rw [Et8']; exact Ids.up_minus Usa Uubc
  have lt8 : t8.length ≤ sa.length + ubc.length := by rw [Et8']; exact Ids.pick_length _ _ sa ubc (Nat.le_refl _)
  have Mt8 : ∀ v, v ∈ t8 ↔ v ∈ sa ∧ v ∉ ubc := fun v => by rw [Et8']; exact Ids.mem_minus Usa Uubc v
  have Et8 := Lib.hid Et8'
  clear Et8'
  obtain ⟨t9, Et9'⟩ : ∃ s, s = Ids.union iab mab := ⟨_, rfl⟩
  have Ut9 : Ids.Up t9 := by rw [Et9']; exact Ids.up_union Uiab Umab
  have lt9 : t9.length ≤ iab.length + mab.length := by rw [Et9']; exact Ids.pick_length _ _ iab mab (Nat.le_refl _)
  have Mt9 : ∀ v, v ∈ t9 ↔ v ∈ iab ∨ v ∈ mab := fun v => by rw [Et9']; exact Ids.mem_union Uiab Umab v
  have Et9 := Lib.hid Et9'
  clear Et9'
  have Qt1t2 : t1 = t2 := Ids.up_ext _ _ Ut1 Ut2 (fun z => by simp only [Mt1, Mubc, Mt2, Muab]; by_cases h1 : z ∈ sa <;> by_cases h2 : z ∈ sb <;> by_cases h3 : z ∈ sc <;> simp [h1, h2, h3])
  have Qt3t4 : t3 = t4 := Ids.up_ext _ _ Ut3 Ut4 (fun z => by simp only [Mt3, Mibc, Mt4, Miab]; by_cases h1 : z ∈ sa <;> by_cases h2 : z ∈ sb <;> by_cases h3 : z ∈ sc <;> simp [h1, h2, h3])
  have Qt5t6 : t5 = t6 := Ids.up_ext _ _ Ut5 Ut6 (fun z => by simp only [Mt5, Mubc, Mt6, Miab, Miac]; by_cases h1 : z ∈ sa <;> by_cases h2 : z ∈ sb <;> by_cases h3 : z ∈ sc <;> simp [h1, h2, h3])
  have Qt7t8 : t7 = t8 := Ids.up_ext _ _ Ut7 Ut8 (fun z => by simp only [Mt7, Mmab, Mt8, Mubc]; by_cases h1 : z ∈ sa <;> by_cases h2 : z ∈ sb <;> by_cases h3 : z ∈ sc <;> simp [h1, h2, h3])
  have Qt9sa : t9 = sa := Ids.up_ext _ _ Ut9 Usa (fun z => by simp only [Mt9, Miab, Mmab]; by_cases h1 : z ∈ sa <;> by_cases h2 : z ∈ sb <;> simp [h1, h2])
  clear Mubc Mt1 Muab Mt2 Mibc Mt3 Miab Mt4 Mt5 Miac Mt6 Mmab Mt7 Mt8 Mt9
  have K0 : Hid (All w [(Al, cl, fl), (Am, cm, fm), (An, cn, fn)]) := ⟨HFl.out, HFm.out, HFn.out, trivial⟩
  have C1 : Hid (∀ W A c, LstC W A c fl → Calls Try.prog 39 #[.slice A fl.length c] W fun e w' => ∃ A' c', e = .returned (.slice A' sa.length c') ∧ LstC w' A' c' sa ∧ Below W.heap.size W w') := fun W A c h => by rw [Esa.out]; exact refOf_c fl A c W (by omega) h.1
  have C2 : Hid (∀ W A c, LstC W A c fm → Calls Try.prog 39 #[.slice A fm.length c] W fun e w' => ∃ A' c', e = .returned (.slice A' sb.length c') ∧ LstC w' A' c' sb ∧ Below W.heap.size W w') := fun W A c h => by rw [Esb.out]; exact refOf_c fm A c W (by omega) h.1
  have C3 : Hid (∀ W A c, LstC W A c fn → Calls Try.prog 39 #[.slice A fn.length c] W fun e w' => ∃ A' c', e = .returned (.slice A' sc.length c') ∧ LstC w' A' c' sc ∧ Below W.heap.size W w') := fun W A c h => by rw [Esc.out]; exact refOf_c fn A c W (by omega) h.1
  have C4 : Hid (∀ W A c B d, LstC W A c sb → LstC W B d sc → Calls Try.prog 43 #[.slice A sb.length c, .slice B sc.length d] W fun e w' => ∃ A' c', e = .returned (.slice A' ubc.length c') ∧ LstC w' A' c' ubc ∧ Below W.heap.size W w') := fun W A c B d h h2 => by rw [Eubc.out]; exact union_c sb sc A B c d W (by omega) (by omega) h h2
  have C5 : Hid (∀ W A c B d, LstC W A c sa → LstC W B d ubc → Calls Try.prog 43 #[.slice A sa.length c, .slice B ubc.length d] W fun e w' => ∃ A' c', e = .returned (.slice A' t1.length c') ∧ LstC w' A' c' t1 ∧ Below W.heap.size W w') := fun W A c B d h h2 => by rw [Et1.out]; exact union_c sa ubc A B c d W (by omega) (by omega) h h2
  have C6 : Hid (∀ W A c B d, LstC W A c sa → LstC W B d sb → Calls Try.prog 43 #[.slice A sa.length c, .slice B sb.length d] W fun e w' => ∃ A' c', e = .returned (.slice A' uab.length c') ∧ LstC w' A' c' uab ∧ Below W.heap.size W w') := fun W A c B d h h2 => by rw [Euab.out]; exact union_c sa sb A B c d W (by omega) (by omega) h h2
  have C7 : Hid (∀ W A c B d, LstC W A c uab → LstC W B d sc → Calls Try.prog 43 #[.slice A uab.length c, .slice B sc.length d] W fun e w' => ∃ A' c', e = .returned (.slice A' t2.length c') ∧ LstC w' A' c' t2 ∧ Below W.heap.size W w') := fun W A c B d h h2 => by rw [Et2.out]; exact union_c uab sc A B c d W (by omega) (by omega) h h2
  have C8 : Hid (∀ W A c B d, LstC W A c t1 → LstC W B d t2 → Calls Try.prog 49 #[.slice A t1.length c, .slice B t2.length d] W fun e w' => e = .returned (.bool true) ∧ Below W.heap.size W w') := fun W A c B d h h2 => by have := (same_any t1 t2 A B c d W (by omega) (by omega) h.1 h2.1).mono fun e w' h => (⟨h.1, quiet_below h.2⟩ : e = .returned (.bool (Ids.same t1 t2)) ∧ Below W.heap.size W w'); rw [(Ids.same_iff _ _).2 Qt1t2] at this; exact this
  have C9 : Hid (∀ W A c B d, LstC W A c sb → LstC W B d sc → Calls Try.prog 44 #[.slice A sb.length c, .slice B sc.length d] W fun e w' => ∃ A' c', e = .returned (.slice A' ibc.length c') ∧ LstC w' A' c' ibc ∧ Below W.heap.size W w') := fun W A c B d h h2 => by rw [Eibc.out]; exact both_c sb sc A B c d W (by omega) (by omega) h h2
  have C10 : Hid (∀ W A c B d, LstC W A c sa → LstC W B d ibc → Calls Try.prog 44 #[.slice A sa.length c, .slice B ibc.length d] W fun e w' => ∃ A' c', e = .returned (.slice A' t3.length c') ∧ LstC w' A' c' t3 ∧ Below W.heap.size W w') := fun W A c B d h h2 => by rw [Et3.out]; exact both_c sa ibc A B c d W (by omega) (by omega) h h2
  have C11 : Hid (∀ W A c B d, LstC W A c sa → LstC W B d sb → Calls Try.prog 44 #[.slice A sa.length c, .slice B sb.length d] W fun e w' => ∃ A' c', e = .returned (.slice A' iab.length c') ∧ LstC w' A' c' iab ∧ Below W.heap.size W w') := fun W A c B d h h2 => by rw [Eiab.out]; exact both_c sa sb A B c d W (by omega) (by omega) h h2
  have C12 : Hid (∀ W A c B d, LstC W A c iab → LstC W B d sc → Calls Try.prog 44 #[.slice A iab.length c, .slice B sc.length d] W fun e w' => ∃ A' c', e = .returned (.slice A' t4.length c') ∧ LstC w' A' c' t4 ∧ Below W.heap.size W w') := fun W A c B d h h2 => by rw [Et4.out]; exact both_c iab sc A B c d W (by omega) (by omega) h h2
  have C13 : Hid (∀ W A c B d, LstC W A c t3 → LstC W B d t4 → Calls Try.prog 49 #[.slice A t3.length c, .slice B t4.length d] W fun e w' => e = .returned (.bool true) ∧ Below W.heap.size W w') := fun W A c B d h h2 => by have := (same_any t3 t4 A B c d W (by omega) (by omega) h.1 h2.1).mono fun e w' h => (⟨h.1, quiet_below h.2⟩ : e = .returned (.bool (Ids.same t3 t4)) ∧ Below W.heap.size W w'); rw [(Ids.same_iff _ _).2 Qt3t4] at this; exact this
  have C14 : Hid (∀ W A c B d, LstC W A c sb → LstC W B d sc → Calls Try.prog 43 #[.slice A sb.length c, .slice B sc.length d] W fun e w' => ∃ A' c', e = .returned (.slice A' ubc.length c') ∧ LstC w' A' c' ubc ∧ Below W.heap.size W w') := fun W A c B d h h2 => by rw [Eubc.out]; exact union_c sb sc A B c d W (by omega) (by omega) h h2
  have C15 : Hid (∀ W A c B d, LstC W A c sa → LstC W B d ubc → Calls Try.prog 44 #[.slice A sa.length c, .slice B ubc.length d] W fun e w' => ∃ A' c', e = .returned (.slice A' t5.length c') ∧ LstC w' A' c' t5 ∧ Below W.heap.size W w') := fun W A c B d h h2 => by rw [Et5.out]; exact both_c sa ubc A B c d W (by omega) (by omega) h h2
  have C16 : Hid (∀ W A c B d, LstC W A c sa → LstC W B d sb → Calls Try.prog 44 #[.slice A sa.length c, .slice B sb.length d] W fun e w' => ∃ A' c', e = .returned (.slice A' iab.length c') ∧ LstC w' A' c' iab ∧ Below W.heap.size W w') := fun W A c B d h h2 => by rw [Eiab.out]; exact both_c sa sb A B c d W (by omega) (by omega) h h2
  have C17 : Hid (∀ W A c B d, LstC W A c sa → LstC W B d sc → Calls Try.prog 44 #[.slice A sa.length c, .slice B sc.length d] W fun e w' => ∃ A' c', e = .returned (.slice A' iac.length c') ∧ LstC w' A' c' iac ∧ Below W.heap.size W w') := fun W A c B d h h2 => by rw [Eiac.out]; exact both_c sa sc A B c d W (by omega) (by omega) h h2
  have C18 : Hid (∀ W A c B d, LstC W A c iab → LstC W B d iac → Calls Try.prog 43 #[.slice A iab.length c, .slice B iac.length d] W fun e w' => ∃ A' c', e = .returned (.slice A' t6.length c') ∧ LstC w' A' c' t6 ∧ Below W.heap.size W w') := fun W A c B d h h2 => by rw [Et6.out]; exact union_c iab iac A B c d W (by omega) (by omega) h h2
  have C19 : Hid (∀ W A c B d, LstC W A c t5 → LstC W B d t6 → Calls Try.prog 49 #[.slice A t5.length c, .slice B t6.length d] W fun e w' => e = .returned (.bool true) ∧ Below W.heap.size W w') := fun W A c B d h h2 => by have := (same_any t5 t6 A B c d W (by omega) (by omega) h.1 h2.1).mono fun e w' h => (⟨h.1, quiet_below h.2⟩ : e = .returned (.bool (Ids.same t5 t6)) ∧ Below W.heap.size W w'); rw [(Ids.same_iff _ _).2 Qt5t6] at this; exact this
  have C20 : Hid (∀ W A c B d, LstC W A c sa → LstC W B d sb → Calls Try.prog 45 #[.slice A sa.length c, .slice B sb.length d] W fun e w' => ∃ A' c', e = .returned (.slice A' mab.length c') ∧ LstC w' A' c' mab ∧ Below W.heap.size W w') := fun W A c B d h h2 => by rw [Emab.out]; exact minus_c sa sb A B c d W (by omega) (by omega) h h2
  have C21 : Hid (∀ W A c B d, LstC W A c mab → LstC W B d sc → Calls Try.prog 45 #[.slice A mab.length c, .slice B sc.length d] W fun e w' => ∃ A' c', e = .returned (.slice A' t7.length c') ∧ LstC w' A' c' t7 ∧ Below W.heap.size W w') := fun W A c B d h h2 => by rw [Et7.out]; exact minus_c mab sc A B c d W (by omega) (by omega) h h2
  have C22 : Hid (∀ W A c B d, LstC W A c sb → LstC W B d sc → Calls Try.prog 43 #[.slice A sb.length c, .slice B sc.length d] W fun e w' => ∃ A' c', e = .returned (.slice A' ubc.length c') ∧ LstC w' A' c' ubc ∧ Below W.heap.size W w') := fun W A c B d h h2 => by rw [Eubc.out]; exact union_c sb sc A B c d W (by omega) (by omega) h h2
  have C23 : Hid (∀ W A c B d, LstC W A c sa → LstC W B d ubc → Calls Try.prog 45 #[.slice A sa.length c, .slice B ubc.length d] W fun e w' => ∃ A' c', e = .returned (.slice A' t8.length c') ∧ LstC w' A' c' t8 ∧ Below W.heap.size W w') := fun W A c B d h h2 => by rw [Et8.out]; exact minus_c sa ubc A B c d W (by omega) (by omega) h h2
  have C24 : Hid (∀ W A c B d, LstC W A c t7 → LstC W B d t8 → Calls Try.prog 49 #[.slice A t7.length c, .slice B t8.length d] W fun e w' => e = .returned (.bool true) ∧ Below W.heap.size W w') := fun W A c B d h h2 => by have := (same_any t7 t8 A B c d W (by omega) (by omega) h.1 h2.1).mono fun e w' h => (⟨h.1, quiet_below h.2⟩ : e = .returned (.bool (Ids.same t7 t8)) ∧ Below W.heap.size W w'); rw [(Ids.same_iff _ _).2 Qt7t8] at this; exact this
  have C25 : Hid (∀ W A c B d, LstC W A c sa → LstC W B d sb → Calls Try.prog 44 #[.slice A sa.length c, .slice B sb.length d] W fun e w' => ∃ A' c', e = .returned (.slice A' iab.length c') ∧ LstC w' A' c' iab ∧ Below W.heap.size W w') := fun W A c B d h h2 => by rw [Eiab.out]; exact both_c sa sb A B c d W (by omega) (by omega) h h2
  have C26 : Hid (∀ W A c B d, LstC W A c sa → LstC W B d sb → Calls Try.prog 45 #[.slice A sa.length c, .slice B sb.length d] W fun e w' => ∃ A' c', e = .returned (.slice A' mab.length c') ∧ LstC w' A' c' mab ∧ Below W.heap.size W w') := fun W A c B d h h2 => by rw [Emab.out]; exact minus_c sa sb A B c d W (by omega) (by omega) h h2
  have C27 : Hid (∀ W A c B d, LstC W A c iab → LstC W B d mab → Calls Try.prog 43 #[.slice A iab.length c, .slice B mab.length d] W fun e w' => ∃ A' c', e = .returned (.slice A' t9.length c') ∧ LstC w' A' c' t9 ∧ Below W.heap.size W w') := fun W A c B d h h2 => by rw [Et9.out]; exact union_c iab mab A B c d W (by omega) (by omega) h h2
  have C28 : Hid (∀ W A c B d, LstC W A c t9 → LstC W B d sa → Calls Try.prog 49 #[.slice A t9.length c, .slice B sa.length d] W fun e w' => e = .returned (.bool true) ∧ Below W.heap.size W w') := fun W A c B d h h2 => by have := (same_any t9 sa A B c d W (by omega) (by omega) h.1 h2.1).mono fun e w' h => (⟨h.1, quiet_below h.2⟩ : e = .returned (.bool (Ids.same t9 sa)) ∧ Below W.heap.size W w'); rw [(Ids.same_iff _ _).2 Qt9sa] at this; exact this
  clear Qt1t2 Qt3t4 Qt5t6 Qt7t8 Qt9sa
  go_enter Try.func10, Try.ntmps10
  go_wp2_with (first
    | (go_at_call 35; ((with_reducible refine (awake4 w).mono ?_); rintro e1 w1 ⟨rfl, b1⟩; have K1 := Lib.hid (K0.out.below b1)))
    | (go_at_call 36; ((with_reducible refine (CFl.out _).mono ?_); rintro e1 w' ⟨rfl, rfl⟩))
    | (go_at_call 36; ((with_reducible refine (CFm.out _).mono ?_); rintro e1 w' ⟨rfl, rfl⟩))
    | (go_at_call 36; ((with_reducible refine (CFn.out _).mono ?_); rintro e1 w' ⟨rfl, rfl⟩))
    | (go_at_call 39; have h1 : LstC w1 Al cl fl := K1.out.1; ((with_reducible refine (C1.out _ _ _ h1).mono ?_); rintro e1 w2 ⟨Asa, csa, rfl, hn2, bb⟩; have b2 := b1.trans (bb.mono b1.size); have K2 : Hid (All w2 [(Asa, csa, sa), (Al, cl, fl), (Am, cm, fm), (An, cn, fn)]) := ⟨hn2, K1.out.below bb⟩; clear hn2 h1 bb))
    | (go_at_call 39; have h1 : LstC w2 Am cm fm := K2.out.2.2.1; ((with_reducible refine (C2.out _ _ _ h1).mono ?_); rintro e1 w3 ⟨Asb, csb, rfl, hn3, bb⟩; have b3 := b2.trans (bb.mono b2.size); have K3 : Hid (All w3 [(Asb, csb, sb), (Asa, csa, sa), (Al, cl, fl), (Am, cm, fm), (An, cn, fn)]) := ⟨hn3, K2.out.below bb⟩; clear hn3 h1 bb))
    | (go_at_call 39; have h1 : LstC w3 An cn fn := K3.out.2.2.2.2.1; ((with_reducible refine (C3.out _ _ _ h1).mono ?_); rintro e1 w4 ⟨Asc, csc, rfl, hn4, bb⟩; have b4 := b3.trans (bb.mono b3.size); have K4 : Hid (All w4 [(Asc, csc, sc), (Asb, csb, sb), (Asa, csa, sa), (Al, cl, fl), (Am, cm, fm), (An, cn, fn)]) := ⟨hn4, K3.out.below bb⟩; clear hn4 h1 bb))
    | (go_at_call 43; have h1 : LstC w4 Asb csb sb := K4.out.2.1; have h2 : LstC w4 Asc csc sc := K4.out.1; ((with_reducible refine (C4.out _ _ _ _ _ h1 h2).mono ?_); rintro e1 w5 ⟨Aubc5, cubc5, rfl, hn5, bb⟩; have b5 := b4.trans (bb.mono b4.size); have K5 : Hid (All w5 [(Aubc5, cubc5, ubc), (Asc, csc, sc), (Asb, csb, sb), (Asa, csa, sa), (Al, cl, fl), (Am, cm, fm), (An, cn, fn)]) := ⟨hn5, K4.out.below bb⟩; clear hn5 h1 h2 bb))
    | (go_at_call 43; have h1 : LstC w5 Asa csa sa := K5.out.2.2.2.1; have h2 : LstC w5 Aubc5 cubc5 ubc := K5.out.1; ((with_reducible refine (C5.out _ _ _ _ _ h1 h2).mono ?_); rintro e1 w6 ⟨At16, ct16, rfl, hn6, bb⟩; have b6 := b5.trans (bb.mono b5.size); have K6 : Hid (All w6 [(At16, ct16, t1), (Aubc5, cubc5, ubc), (Asc, csc, sc), (Asb, csb, sb), (Asa, csa, sa), (Al, cl, fl), (Am, cm, fm), (An, cn, fn)]) := ⟨hn6, K5.out.below bb⟩; clear hn6 h1 h2 bb))
    | (go_at_call 43; have h1 : LstC w6 Asa csa sa := K6.out.2.2.2.2.1; have h2 : LstC w6 Asb csb sb := K6.out.2.2.2.1; ((with_reducible refine (C6.out _ _ _ _ _ h1 h2).mono ?_); rintro e1 w7 ⟨Auab7, cuab7, rfl, hn7, bb⟩; have b7 := b6.trans (bb.mono b6.size); have K7 : Hid (All w7 [(Auab7, cuab7, uab), (At16, ct16, t1), (Aubc5, cubc5, ubc), (Asc, csc, sc), (Asb, csb, sb), (Asa, csa, sa), (Al, cl, fl), (Am, cm, fm), (An, cn, fn)]) := ⟨hn7, K6.out.below bb⟩; clear hn7 h1 h2 bb))
    | (go_at_call 43; have h1 : LstC w7 Auab7 cuab7 uab := K7.out.1; have h2 : LstC w7 Asc csc sc := K7.out.2.2.2.1; ((with_reducible refine (C7.out _ _ _ _ _ h1 h2).mono ?_); rintro e1 w8 ⟨At28, ct28, rfl, hn8, bb⟩; have b8 := b7.trans (bb.mono b7.size); have K8 : Hid (All w8 [(At28, ct28, t2), (Auab7, cuab7, uab), (At16, ct16, t1), (Aubc5, cubc5, ubc), (Asc, csc, sc), (Asb, csb, sb), (Asa, csa, sa), (Al, cl, fl), (Am, cm, fm), (An, cn, fn)]) := ⟨hn8, K7.out.below bb⟩; clear hn8 h1 h2 bb))
    | (go_at_call 49; have h1 : LstC w8 At16 ct16 t1 := K8.out.2.2.1; have h2 : LstC w8 At28 ct28 t2 := K8.out.1; ((with_reducible refine (C8.out _ _ _ _ _ h1 h2).mono ?_); rintro e1 w9 ⟨rfl, bb⟩; have b9 := b8.trans (bb.mono b8.size); have K9 := Lib.hid (K8.out.below bb); clear h1 h2 bb))
    | (go_at_call 44; have h1 : LstC w9 Asb csb sb := K9.out.2.2.2.2.2.1; have h2 : LstC w9 Asc csc sc := K9.out.2.2.2.2.1; ((with_reducible refine (C9.out _ _ _ _ _ h1 h2).mono ?_); rintro e1 w10 ⟨Aibc10, cibc10, rfl, hn10, bb⟩; have b10 := b9.trans (bb.mono b9.size); have K10 : Hid (All w10 [(Aibc10, cibc10, ibc), (At28, ct28, t2), (Auab7, cuab7, uab), (At16, ct16, t1), (Aubc5, cubc5, ubc), (Asc, csc, sc), (Asb, csb, sb), (Asa, csa, sa), (Al, cl, fl), (Am, cm, fm), (An, cn, fn)]) := ⟨hn10, K9.out.below bb⟩; clear hn10 h1 h2 bb))
    | (go_at_call 44; have h1 : LstC w10 Asa csa sa := K10.out.2.2.2.2.2.2.2.1; have h2 : LstC w10 Aibc10 cibc10 ibc := K10.out.1; ((with_reducible refine (C10.out _ _ _ _ _ h1 h2).mono ?_); rintro e1 w11 ⟨At311, ct311, rfl, hn11, bb⟩; have b11 := b10.trans (bb.mono b10.size); have K11 : Hid (All w11 [(At311, ct311, t3), (Aibc10, cibc10, ibc), (At28, ct28, t2), (Auab7, cuab7, uab), (At16, ct16, t1), (Aubc5, cubc5, ubc), (Asc, csc, sc), (Asb, csb, sb), (Asa, csa, sa), (Al, cl, fl), (Am, cm, fm), (An, cn, fn)]) := ⟨hn11, K10.out.below bb⟩; clear hn11 h1 h2 bb))
    | (go_at_call 44; have h1 : LstC w11 Asa csa sa := K11.out.2.2.2.2.2.2.2.2.1; have h2 : LstC w11 Asb csb sb := K11.out.2.2.2.2.2.2.2.1; ((with_reducible refine (C11.out _ _ _ _ _ h1 h2).mono ?_); rintro e1 w12 ⟨Aiab12, ciab12, rfl, hn12, bb⟩; have b12 := b11.trans (bb.mono b11.size); have K12 : Hid (All w12 [(Aiab12, ciab12, iab), (At311, ct311, t3), (Aibc10, cibc10, ibc), (At28, ct28, t2), (Auab7, cuab7, uab), (At16, ct16, t1), (Aubc5, cubc5, ubc), (Asc, csc, sc), (Asb, csb, sb), (Asa, csa, sa), (Al, cl, fl), (Am, cm, fm), (An, cn, fn)]) := ⟨hn12, K11.out.below bb⟩; clear hn12 h1 h2 bb))
    | (go_at_call 44; have h1 : LstC w12 Aiab12 ciab12 iab := K12.out.1; have h2 : LstC w12 Asc csc sc := K12.out.2.2.2.2.2.2.2.1; ((with_reducible refine (C12.out _ _ _ _ _ h1 h2).mono ?_); rintro e1 w13 ⟨At413, ct413, rfl, hn13, bb⟩; have b13 := b12.trans (bb.mono b12.size); have K13 : Hid (All w13 [(At413, ct413, t4), (Aiab12, ciab12, iab), (At311, ct311, t3), (Aibc10, cibc10, ibc), (At28, ct28, t2), (Auab7, cuab7, uab), (At16, ct16, t1), (Aubc5, cubc5, ubc), (Asc, csc, sc), (Asb, csb, sb), (Asa, csa, sa), (Al, cl, fl), (Am, cm, fm), (An, cn, fn)]) := ⟨hn13, K12.out.below bb⟩; clear hn13 h1 h2 bb))
    | (go_at_call 49; have h1 : LstC w13 At311 ct311 t3 := K13.out.2.2.1; have h2 : LstC w13 At413 ct413 t4 := K13.out.1; ((with_reducible refine (C13.out _ _ _ _ _ h1 h2).mono ?_); rintro e1 w14 ⟨rfl, bb⟩; have b14 := b13.trans (bb.mono b13.size); have K14 := Lib.hid (K13.out.below bb); clear h1 h2 bb))
    | (go_at_call 43; have h1 : LstC w14 Asb csb sb := K14.out.2.2.2.2.2.2.2.2.2.1; have h2 : LstC w14 Asc csc sc := K14.out.2.2.2.2.2.2.2.2.1; ((with_reducible refine (C14.out _ _ _ _ _ h1 h2).mono ?_); rintro e1 w15 ⟨Aubc15, cubc15, rfl, hn15, bb⟩; have b15 := b14.trans (bb.mono b14.size); have K15 : Hid (All w15 [(Aubc15, cubc15, ubc), (At413, ct413, t4), (Aiab12, ciab12, iab), (At311, ct311, t3), (Aibc10, cibc10, ibc), (At28, ct28, t2), (Auab7, cuab7, uab), (At16, ct16, t1), (Aubc5, cubc5, ubc), (Asc, csc, sc), (Asb, csb, sb), (Asa, csa, sa), (Al, cl, fl), (Am, cm, fm), (An, cn, fn)]) := ⟨hn15, K14.out.below bb⟩; clear hn15 h1 h2 bb))
    | (go_at_call 44; have h1 : LstC w15 Asa csa sa := K15.out.2.2.2.2.2.2.2.2.2.2.2.1; have h2 : LstC w15 Aubc15 cubc15 ubc := K15.out.1; ((with_reducible refine (C15.out _ _ _ _ _ h1 h2).mono ?_); rintro e1 w16 ⟨At516, ct516, rfl, hn16, bb⟩; have b16 := b15.trans (bb.mono b15.size); have K16 : Hid (All w16 [(At516, ct516, t5), (Aubc15, cubc15, ubc), (At413, ct413, t4), (Aiab12, ciab12, iab), (At311, ct311, t3), (Aibc10, cibc10, ibc), (At28, ct28, t2), (Auab7, cuab7, uab), (At16, ct16, t1), (Aubc5, cubc5, ubc), (Asc, csc, sc), (Asb, csb, sb), (Asa, csa, sa), (Al, cl, fl), (Am, cm, fm), (An, cn, fn)]) := ⟨hn16, K15.out.below bb⟩; clear hn16 h1 h2 bb))
    | (go_at_call 44; have h1 : LstC w16 Asa csa sa := K16.out.2.2.2.2.2.2.2.2.2.2.2.2.1; have h2 : LstC w16 Asb csb sb := K16.out.2.2.2.2.2.2.2.2.2.2.2.1; ((with_reducible refine (C16.out _ _ _ _ _ h1 h2).mono ?_); rintro e1 w17 ⟨Aiab17, ciab17, rfl, hn17, bb⟩; have b17 := b16.trans (bb.mono b16.size); have K17 : Hid (All w17 [(Aiab17, ciab17, iab), (At516, ct516, t5), (Aubc15, cubc15, ubc), (At413, ct413, t4), (Aiab12, ciab12, iab), (At311, ct311, t3), (Aibc10, cibc10, ibc), (At28, ct28, t2), (Auab7, cuab7, uab), (At16, ct16, t1), (Aubc5, cubc5, ubc), (Asc, csc, sc), (Asb, csb, sb), (Asa, csa, sa), (Al, cl, fl), (Am, cm, fm), (An, cn, fn)]) := ⟨hn17, K16.out.below bb⟩; clear hn17 h1 h2 bb))
    | (go_at_call 44; have h1 : LstC w17 Asa csa sa := K17.out.2.2.2.2.2.2.2.2.2.2.2.2.2.1; have h2 : LstC w17 Asc csc sc := K17.out.2.2.2.2.2.2.2.2.2.2.2.1; ((with_reducible refine (C17.out _ _ _ _ _ h1 h2).mono ?_); rintro e1 w18 ⟨Aiac18, ciac18, rfl, hn18, bb⟩; have b18 := b17.trans (bb.mono b17.size); have K18 : Hid (All w18 [(Aiac18, ciac18, iac), (Aiab17, ciab17, iab), (At516, ct516, t5), (Aubc15, cubc15, ubc), (At413, ct413, t4), (Aiab12, ciab12, iab), (At311, ct311, t3), (Aibc10, cibc10, ibc), (At28, ct28, t2), (Auab7, cuab7, uab), (At16, ct16, t1), (Aubc5, cubc5, ubc), (Asc, csc, sc), (Asb, csb, sb), (Asa, csa, sa), (Al, cl, fl), (Am, cm, fm), (An, cn, fn)]) := ⟨hn18, K17.out.below bb⟩; clear hn18 h1 h2 bb))
    | (go_at_call 43; have h1 : LstC w18 Aiab17 ciab17 iab := K18.out.2.1; have h2 : LstC w18 Aiac18 ciac18 iac := K18.out.1; ((with_reducible refine (C18.out _ _ _ _ _ h1 h2).mono ?_); rintro e1 w19 ⟨At619, ct619, rfl, hn19, bb⟩; have b19 := b18.trans (bb.mono b18.size); have K19 : Hid (All w19 [(At619, ct619, t6), (Aiac18, ciac18, iac), (Aiab17, ciab17, iab), (At516, ct516, t5), (Aubc15, cubc15, ubc), (At413, ct413, t4), (Aiab12, ciab12, iab), (At311, ct311, t3), (Aibc10, cibc10, ibc), (At28, ct28, t2), (Auab7, cuab7, uab), (At16, ct16, t1), (Aubc5, cubc5, ubc), (Asc, csc, sc), (Asb, csb, sb), (Asa, csa, sa), (Al, cl, fl), (Am, cm, fm), (An, cn, fn)]) := ⟨hn19, K18.out.below bb⟩; clear hn19 h1 h2 bb))
    | (go_at_call 49; have h1 : LstC w19 At516 ct516 t5 := K19.out.2.2.2.1; have h2 : LstC w19 At619 ct619 t6 := K19.out.1; ((with_reducible refine (C19.out _ _ _ _ _ h1 h2).mono ?_); rintro e1 w20 ⟨rfl, bb⟩; have b20 := b19.trans (bb.mono b19.size); have K20 := Lib.hid (K19.out.below bb); clear h1 h2 bb))
    | (go_at_call 45; have h1 : LstC w20 Asa csa sa := K20.out.2.2.2.2.2.2.2.2.2.2.2.2.2.2.2.1; have h2 : LstC w20 Asb csb sb := K20.out.2.2.2.2.2.2.2.2.2.2.2.2.2.2.1; ((with_reducible refine (C20.out _ _ _ _ _ h1 h2).mono ?_); rintro e1 w21 ⟨Amab21, cmab21, rfl, hn21, bb⟩; have b21 := b20.trans (bb.mono b20.size); have K21 : Hid (All w21 [(Amab21, cmab21, mab), (At619, ct619, t6), (Aiac18, ciac18, iac), (Aiab17, ciab17, iab), (At516, ct516, t5), (Aubc15, cubc15, ubc), (At413, ct413, t4), (Aiab12, ciab12, iab), (At311, ct311, t3), (Aibc10, cibc10, ibc), (At28, ct28, t2), (Auab7, cuab7, uab), (At16, ct16, t1), (Aubc5, cubc5, ubc), (Asc, csc, sc), (Asb, csb, sb), (Asa, csa, sa), (Al, cl, fl), (Am, cm, fm), (An, cn, fn)]) := ⟨hn21, K20.out.below bb⟩; clear hn21 h1 h2 bb))
    | (go_at_call 45; have h1 : LstC w21 Amab21 cmab21 mab := K21.out.1; have h2 : LstC w21 Asc csc sc := K21.out.2.2.2.2.2.2.2.2.2.2.2.2.2.2.1; ((with_reducible refine (C21.out _ _ _ _ _ h1 h2).mono ?_); rintro e1 w22 ⟨At722, ct722, rfl, hn22, bb⟩; have b22 := b21.trans (bb.mono b21.size); have K22 : Hid (All w22 [(At722, ct722, t7), (Amab21, cmab21, mab), (At619, ct619, t6), (Aiac18, ciac18, iac), (Aiab17, ciab17, iab), (At516, ct516, t5), (Aubc15, cubc15, ubc), (At413, ct413, t4), (Aiab12, ciab12, iab), (At311, ct311, t3), (Aibc10, cibc10, ibc), (At28, ct28, t2), (Auab7, cuab7, uab), (At16, ct16, t1), (Aubc5, cubc5, ubc), (Asc, csc, sc), (Asb, csb, sb), (Asa, csa, sa), (Al, cl, fl), (Am, cm, fm), (An, cn, fn)]) := ⟨hn22, K21.out.below bb⟩; clear hn22 h1 h2 bb))
    | (go_at_call 43; have h1 : LstC w22 Asb csb sb := K22.out.2.2.2.2.2.2.2.2.2.2.2.2.2.2.2.2.1; have h2 : LstC w22 Asc csc sc := K22.out.2.2.2.2.2.2.2.2.2.2.2.2.2.2.2.1; ((with_reducible refine (C22.out _ _ _ _ _ h1 h2).mono ?_); rintro e1 w23 ⟨Aubc23, cubc23, rfl, hn23, bb⟩; have b23 := b22.trans (bb.mono b22.size); have K23 : Hid (All w23 [(Aubc23, cubc23, ubc), (At722, ct722, t7), (Amab21, cmab21, mab), (At619, ct619, t6), (Aiac18, ciac18, iac), (Aiab17, ciab17, iab), (At516, ct516, t5), (Aubc15, cubc15, ubc), (At413, ct413, t4), (Aiab12, ciab12, iab), (At311, ct311, t3), (Aibc10, cibc10, ibc), (At28, ct28, t2), (Auab7, cuab7, uab), (At16, ct16, t1), (Aubc5, cubc5, ubc), (Asc, csc, sc), (Asb, csb, sb), (Asa, csa, sa), (Al, cl, fl), (Am, cm, fm), (An, cn, fn)]) := ⟨hn23, K22.out.below bb⟩; clear hn23 h1 h2 bb))
    | (go_at_call 45; have h1 : LstC w23 Asa csa sa := K23.out.2.2.2.2.2.2.2.2.2.2.2.2.2.2.2.2.2.2.1; have h2 : LstC w23 Aubc23 cubc23 ubc := K23.out.1; ((with_reducible refine (C23.out _ _ _ _ _ h1 h2).mono ?_); rintro e1 w24 ⟨At824, ct824, rfl, hn24, bb⟩; have b24 := b23.trans (bb.mono b23.size); have K24 : Hid (All w24 [(At824, ct824, t8), (Aubc23, cubc23, ubc), (At722, ct722, t7), (Amab21, cmab21, mab), (At619, ct619, t6), (Aiac18, ciac18, iac), (Aiab17, ciab17, iab), (At516, ct516, t5), (Aubc15, cubc15, ubc), (At413, ct413, t4), (Aiab12, ciab12, iab), (At311, ct311, t3), (Aibc10, cibc10, ibc), (At28, ct28, t2), (Auab7, cuab7, uab), (At16, ct16, t1), (Aubc5, cubc5, ubc), (Asc, csc, sc), (Asb, csb, sb), (Asa, csa, sa), (Al, cl, fl), (Am, cm, fm), (An, cn, fn)]) := ⟨hn24, K23.out.below bb⟩; clear hn24 h1 h2 bb))
    | (go_at_call 49; have h1 : LstC w24 At722 ct722 t7 := K24.out.2.2.1; have h2 : LstC w24 At824 ct824 t8 := K24.out.1; ((with_reducible refine (C24.out _ _ _ _ _ h1 h2).mono ?_); rintro e1 w25 ⟨rfl, bb⟩; have b25 := b24.trans (bb.mono b24.size); have K25 := Lib.hid (K24.out.below bb); clear h1 h2 bb))
    | (go_at_call 44; have h1 : LstC w25 Asa csa sa := K25.out.2.2.2.2.2.2.2.2.2.2.2.2.2.2.2.2.2.2.2.1; have h2 : LstC w25 Asb csb sb := K25.out.2.2.2.2.2.2.2.2.2.2.2.2.2.2.2.2.2.2.1; ((with_reducible refine (C25.out _ _ _ _ _ h1 h2).mono ?_); rintro e1 w26 ⟨Aiab26, ciab26, rfl, hn26, bb⟩; have b26 := b25.trans (bb.mono b25.size); have K26 : Hid (All w26 [(Aiab26, ciab26, iab), (At824, ct824, t8), (Aubc23, cubc23, ubc), (At722, ct722, t7), (Amab21, cmab21, mab), (At619, ct619, t6), (Aiac18, ciac18, iac), (Aiab17, ciab17, iab), (At516, ct516, t5), (Aubc15, cubc15, ubc), (At413, ct413, t4), (Aiab12, ciab12, iab), (At311, ct311, t3), (Aibc10, cibc10, ibc), (At28, ct28, t2), (Auab7, cuab7, uab), (At16, ct16, t1), (Aubc5, cubc5, ubc), (Asc, csc, sc), (Asb, csb, sb), (Asa, csa, sa), (Al, cl, fl), (Am, cm, fm), (An, cn, fn)]) := ⟨hn26, K25.out.below bb⟩; clear hn26 h1 h2 bb))
    | (go_at_call 45; have h1 : LstC w26 Asa csa sa := K26.out.2.2.2.2.2.2.2.2.2.2.2.2.2.2.2.2.2.2.2.2.1; have h2 : LstC w26 Asb csb sb := K26.out.2.2.2.2.2.2.2.2.2.2.2.2.2.2.2.2.2.2.2.1; ((with_reducible refine (C26.out _ _ _ _ _ h1 h2).mono ?_); rintro e1 w27 ⟨Amab27, cmab27, rfl, hn27, bb⟩; have b27 := b26.trans (bb.mono b26.size); have K27 : Hid (All w27 [(Amab27, cmab27, mab), (Aiab26, ciab26, iab), (At824, ct824, t8), (Aubc23, cubc23, ubc), (At722, ct722, t7), (Amab21, cmab21, mab), (At619, ct619, t6), (Aiac18, ciac18, iac), (Aiab17, ciab17, iab), (At516, ct516, t5), (Aubc15, cubc15, ubc), (At413, ct413, t4), (Aiab12, ciab12, iab), (At311, ct311, t3), (Aibc10, cibc10, ibc), (At28, ct28, t2), (Auab7, cuab7, uab), (At16, ct16, t1), (Aubc5, cubc5, ubc), (Asc, csc, sc), (Asb, csb, sb), (Asa, csa, sa), (Al, cl, fl), (Am, cm, fm), (An, cn, fn)]) := ⟨hn27, K26.out.below bb⟩; clear hn27 h1 h2 bb))
    | (go_at_call 43; have h1 : LstC w27 Aiab26 ciab26 iab := K27.out.2.1; have h2 : LstC w27 Amab27 cmab27 mab := K27.out.1; ((with_reducible refine (C27.out _ _ _ _ _ h1 h2).mono ?_); rintro e1 w28 ⟨At928, ct928, rfl, hn28, bb⟩; have b28 := b27.trans (bb.mono b27.size); have K28 : Hid (All w28 [(At928, ct928, t9), (Amab27, cmab27, mab), (Aiab26, ciab26, iab), (At824, ct824, t8), (Aubc23, cubc23, ubc), (At722, ct722, t7), (Amab21, cmab21, mab), (At619, ct619, t6), (Aiac18, ciac18, iac), (Aiab17, ciab17, iab), (At516, ct516, t5), (Aubc15, cubc15, ubc), (At413, ct413, t4), (Aiab12, ciab12, iab), (At311, ct311, t3), (Aibc10, cibc10, ibc), (At28, ct28, t2), (Auab7, cuab7, uab), (At16, ct16, t1), (Aubc5, cubc5, ubc), (Asc, csc, sc), (Asb, csb, sb), (Asa, csa, sa), (Al, cl, fl), (Am, cm, fm), (An, cn, fn)]) := ⟨hn28, K27.out.below bb⟩; clear hn28 h1 h2 bb))
    | (go_at_call 49; have h1 : LstC w28 At928 ct928 t9 := K28.out.1; have h2 : LstC w28 Asa csa sa := K28.out.2.2.2.2.2.2.2.2.2.2.2.2.2.2.2.2.2.2.2.2.2.2.1; ((with_reducible refine (C28.out _ _ _ _ _ h1 h2).mono ?_); rintro e1 w29 ⟨rfl, bb⟩; have b29 := b28.trans (bb.mono b28.size); have K29 := Lib.hid (K28.out.below bb); clear h1 h2 bb)))
  go_ret
  exact ⟨rfl, b29⟩
end I
end Go.Proofs.Ytkbchpbdpkbnjaa
