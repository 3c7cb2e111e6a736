/-
  The document's own Check of a node.
-/
import Derived.Test.YtjikioiejdfodaaNodeCheck
namespace Go.Proofs.Ytjikioiejdfodaa
open Go.RowKit
namespace Nod
open B V
theorem check_f {n : N} (h : ¬ Ok n) : check n = false := by rw [Bool.eq_false_iff]; exact fun e => h (check_ok.mp e)
set_option maxRecDepth 100000 in
set_option maxHeartbeats 8000000 in
theorem refCheck_any (A1 A2 A3 : Option Addr) (c1 c2 c3 : Nat) (n : N) (w : World) (h : NAt w A1 A2 A3 n) (hl : Sm n) :
    Calls Try.prog 31 #[nv A1 A2 A3 c1 c2 c3 n] w fun e w' => e = .returned (.bool (check n)) ∧ Below w.heap.size w w' := by
  obtain ⟨hlk, hlv, hlc⟩ := hl
  have bA := below1 w (.cells #[.int .i64 n.kind, .slice A1 n.keys.length c1, .slice A2 n.vals.length c2, .slice A3 n.kids.length c3] 55)
  have BX := Lib.hid (bx_new w (.int .i64 n.kind) (.slice A1 n.keys.length c1) (.slice A2 n.vals.length c2) (.slice A3 n.kids.length c3) 55)
  have hB := h.below bA
  have HK := Lib.hid hB.k
  have HV := Lib.hid hB.v
  have HC := Lib.hid hB.c
  have HT : Hid (Ok n → check n = true) := fun h => check_ok.mpr h
  have HF : Hid (¬ Ok n → check n = false) := check_f
  unfold nv at *
  clear h hB
  generalize hk : n.keys.length = lk at *
  generalize hv : n.vals.length = lv at *
  generalize hcc : n.kids.length = lc at *
  have HLk := Lib.hid hk
  have HLv := Lib.hid hv
  have HLc := Lib.hid hcc
  clear hk hv hcc
  generalize check n = r at *
  have hrec : ∀ {k : Int}, n.kind = k → (k = 1 ∧ lv = lk ∧ lc = 0 ∨ k = 2 ∧ lc = lk ∧ lv = 0 ∧ 0 < lk → (n.kind = 1 ∧ n.vals.length = n.keys.length ∧ n.kids.length = 0 ∨ n.kind = 2 ∧ n.kids.length = n.keys.length ∧ n.vals.length = 0 ∧ 0 < n.keys.length)) := fun h => by rw [h, HLk.out, HLv.out, HLc.out]; exact fun x => x
  by_cases h1 : n.kind = 1
  · have hev := hrec h1
    clear hrec
    by_cases h2 : lv = lk
    · by_cases h3 : lc = 0
      · have HEV := hev (.inl ⟨rfl, h2, h3⟩)
        clear hev
        rw [h1] at bA BX HK HV HC ⊢
        have g2 : ((lv : Int) != (lk : Int)) = false := by rw [h2]; simp
        have g3 : ¬ (0 : Int) < (lc : Int) := by omega
        have H2 := Lib.hid h2
        have H3 := Lib.hid h3
        clear h1 h2 h3
        go_enter Try.func31, Try.ntmps31
        go_upto_region 1 with fail
        generalize hW : w.alloc (.cells #[.int .i64 1, .slice A1 lk c1, .slice A2 lv c2, .slice A3 lc c3] 55) = W at *
        clear hW
        obtain ⟨k0, k1, k2, k3⟩ := BX.out.p
        go_wp2
        go_loop [62] (fun t62 => ∃ i : Nat, t62 = .int .i64 (i : Int) ∧ i ≤ lk ∧ ∀ j (hj : j < n.keys.length), j < i → (0 < n.keys[j].size ∧ n.keys[j].size ≤ 16) ∧ ∀ (hj2 : 0 < j), Lt (n.keys[j - 1]'(by omega)) n.keys[j]) (fun t62 => lk - (intOf t62).toNat)
        case atStart => exact ⟨0, rfl, Nat.zero_le _, fun j _ h => by omega⟩
        case round =>
          obtain ⟨i, rfl, hi, hall⟩ := hrel
          have HA := Lib.hid hall
          clear hall
          by_cases hlt' : i < lk
          · have hlt : i < n.keys.length := by have := HLk.out; omega
            have hI : (i : Int) < (lk : Int) := by omega
            obtain ⟨b, off, hA, hb, hc⟩ := HK.out (by have := HLk.out; omega)
            subst hA
            have c0 : W.cell? ⟨b, off + i, none⟩ = some (.string n.keys[i]) := hc i hlt
            by_cases hk0 : n.keys[i].size = 0
            · have e0 := B.is_empty hk0
              have hr := HF.out (fun h => by have := h.key _ (List.getElem_mem hlt); omega)
              subst hr
              go_wp2
              go_ret
              exact ⟨rfl, bA⟩
            · have e0 := B.not_empty (show 0 < n.keys[i].size by omega)
              by_cases hk1 : n.keys[i].size ≤ 16
              · have e1 : ¬ (16 : Int) < (n.keys[i].size : Int) := by omega
                by_cases hi0 : i = 0
                · subst hi0
                  have c00 : W.cell? ⟨b, off, none⟩ = some (.string n.keys[0]) := c0
                  go_wp2
                  go_round
                  case rel => exact ⟨1, by first | rfl | go_num, by omega, fun j hj hj1 => by
                    obtain rfl : j = 0 := by omega
                    exact ⟨⟨by omega, hk1⟩, fun h => absurd h (by omega)⟩⟩
                  case measure => simp [intOf]; omega
                · obtain ⟨p, rfl⟩ : ∃ p, i = p + 1 := ⟨i - 1, by omega⟩
                  have hpl : p < n.keys.length := by omega
                  have cp : W.cell? ⟨b, off + p, none⟩ = some (.string n.keys[p]) := hc p hpl
                  have ep : ((p + 1 : Nat) : Int) - 1 = (p : Int) := by omega
                  have hp0 : (0 : Int) < ((p + 1 : Nat) : Int) := by omega
                  by_cases hL : Lt n.keys[p] n.keys[p + 1]
                  · have el := less_t hL
                    go_wp2
                    go_round
                    case rel => exact ⟨p + 1 + 1, by go_num, by omega, fun j hj hj1 => by
                      rcases Nat.lt_or_ge j (p + 1) with h1 | h1
                      · exact HA.out j hj h1
                      · obtain rfl : j = p + 1 := by omega
                        exact ⟨⟨by omega, hk1⟩, fun _ => hL⟩⟩
                    case measure => simp [intOf]; omega
                  · have el := less_f hL
                    have hr := HF.out (fun h => hL (h.rise.lt (by omega) hlt))
                    subst hr
                    go_wp2
                    go_ret
                    exact ⟨rfl, bA⟩
              · have e1 : (16 : Int) < (n.keys[i].size : Int) := by omega
                have hr := HF.out (fun h => by have := h.key _ (List.getElem_mem hlt); omega)
                subst hr
                go_wp2
                go_ret
                exact ⟨rfl, bA⟩
          · have hI : ¬ (i : Int) < (lk : Int) := by omega
            go_wp2
            go_loop [92] (fun t92 => ∃ j : Nat, t92 = .int .i64 (j : Int) ∧ j ≤ lv ∧ ∀ q (hq : q < n.vals.length), q < j → n.vals[q].size ≤ 32) (fun t92 => lv - (intOf t92).toNat)
            case atStart => exact ⟨0, rfl, Nat.zero_le _, fun j _ h => by omega⟩
            case round =>
              obtain ⟨j, rfl, hj, hallv⟩ := hrel
              have HAV := Lib.hid hallv
              clear hallv
              by_cases hlt2' : j < lv
              · have hlt2 : j < n.vals.length := by have := HLv.out; omega
                have hI2 : (j : Int) < (lv : Int) := by omega
                obtain ⟨b, off, hA, hb, hc⟩ := HV.out (by have := HLv.out; omega)
                subst hA
                have c0 : W.cell? ⟨b, off + j, none⟩ = some (.string n.vals[j]) := hc j hlt2
                by_cases hk1 : n.vals[j].size ≤ 32
                · have e1 : ¬ (32 : Int) < (n.vals[j].size : Int) := by omega
                  go_wp2
                  go_round
                  case rel => exact ⟨j + 1, by go_num, by omega, fun q hq hq1 => by
                    rcases Nat.lt_or_ge q j with h1 | h1
                    · exact HAV.out q hq h1
                    · obtain rfl : q = j := by omega
                      exact hk1⟩
                  case measure => simp [intOf]; omega
                · have e1 : (32 : Int) < (n.vals[j].size : Int) := by omega
                  have hr := HF.out (fun h => hk1 (h.val _ (List.getElem_mem hlt2)))
                  subst hr
                  go_wp2
                  go_ret
                  exact ⟨rfl, bA⟩
              · have hI2 : ¬ (j : Int) < (lv : Int) := by omega
                go_wp2
                go_loop [103] (fun t103 => ∃ m : Nat, t103 = .int .i64 (m : Int) ∧ m ≤ lc ∧ ∀ q (hq : q < n.kids.length), q < m → 0 ≤ n.kids[q] ∧ n.kids[q] ≤ 2147483647) (fun t103 => lc - (intOf t103).toNat)
                case atStart => exact ⟨0, rfl, Nat.zero_le _, fun j _ h => by omega⟩
                case round =>
                  obtain ⟨m, rfl, hm, hallc⟩ := hrel
                  have HAC := Lib.hid hallc
                  clear hallc
                  by_cases hlt3' : m < lc
                  · have hlt3 : m < n.kids.length := by have := HLc.out; omega
                    have hI3 : (m : Int) < (lc : Int) := by omega
                    obtain ⟨b, off, hA, hb, hc⟩ := HC.out (by have := HLc.out; omega)
                    subst hA
                    have c0 : W.cell? ⟨b, off + m, none⟩ = some (.int .i64 n.kids[m]) := hc m hlt3
                    by_cases hp0 : n.kids[m] < 0
                    · have hr := HF.out (fun h => by have := h.kid _ (List.getElem_mem hlt3); omega)
                      subst hr
                      go_wp2
                      go_ret
                      exact ⟨rfl, bA⟩
                    · by_cases hp1 : 2147483647 < n.kids[m]
                      · have hr := HF.out (fun h => by have := h.kid _ (List.getElem_mem hlt3); omega)
                        subst hr
                        go_wp2
                        go_ret
                        exact ⟨rfl, bA⟩
                      · go_wp2
                        go_round
                        case rel => exact ⟨m + 1, by go_num, by omega, fun q hq hq1 => by
                          rcases Nat.lt_or_ge q m with h1 | h1
                          · exact HAC.out q hq h1
                          · obtain rfl : q = m := by omega
                            omega⟩
                        case measure => simp [intOf]; omega
                  · have hI3 : ¬ (m : Int) < (lc : Int) := by omega
                    have hr := HT.out ⟨HEV, rise_adj (fun q hq => by have := (HA.out (q + 1) hq (by have := HLk.out; omega)).2 (by omega); simpa using this), fun k hk => by
                        obtain ⟨q, hq, rfl⟩ := List.getElem_of_mem hk; exact (HA.out q hq (by have := HLk.out; omega)).1, fun k hk => by
                        obtain ⟨q, hq, rfl⟩ := List.getElem_of_mem hk; exact HAV.out q hq (by have := HLv.out; omega), fun k hk => by
                        obtain ⟨q, hq, rfl⟩ := List.getElem_of_mem hk; exact HAC.out q hq (by have := HLc.out; omega)⟩
                    subst hr
                    go_wp2
                    go_ret
                    exact ⟨rfl, bA⟩
      · have hr := HF.out (fun h => by have q1 := HLk.out; have q2 := HLv.out; have q3 := HLc.out; rcases h.ev with ⟨a, b, c⟩ | ⟨a, b, c⟩ <;> omega)
        subst hr
        rw [h1] at bA ⊢
        have g2 : ((lv : Int) != (lk : Int)) = false := by rw [h2]; simp
        have g3 : (0 : Int) < (lc : Int) := by omega
        clear h1 h2 h3 hev
        go_enter Try.func31, Try.ntmps31
        go_wp2
        go_ret
        exact ⟨rfl, bA⟩
    · have hr := HF.out (fun h => by have q1 := HLk.out; have q2 := HLv.out; have q3 := HLc.out; rcases h.ev with ⟨a, b, c⟩ | ⟨a, b, c⟩ <;> omega)
      subst hr
      rw [h1] at bA ⊢
      have g2 : ((lv : Int) != (lk : Int)) = true := by rw [bne_iff_ne]; omega
      clear h1 h2 hev
      go_enter Try.func31, Try.ntmps31
      go_wp2
      go_ret
      exact ⟨rfl, bA⟩
  · by_cases h2 : n.kind = 2
    · have hev := hrec h2
      clear hrec
      by_cases h3 : lc = lk
      · have g3 : ((lc : Int) != (lk : Int)) = false := by rw [h3]; simp
        by_cases h4 : lv = 0
        · subst h4
          by_cases h5 : 0 < lk
          · have HEV := hev (.inr ⟨rfl, h3, rfl, h5⟩)
            have g5 : ((lk : Int) == 0) = false := by rw [beq_eq_false_iff_ne]; omega
            rw [h2] at bA BX HK HV HC ⊢
            have H3 := Lib.hid h3
            clear hev h1 h2 h3
            go_enter Try.func31, Try.ntmps31
            go_upto_region 1 with fail
            generalize hW : w.alloc (.cells #[.int .i64 2, .slice A1 lk c1, .slice A2 0 c2, .slice A3 lc c3] 55) = W at *
            clear hW
            obtain ⟨k0, k1, k2, k3⟩ := BX.out.p
            go_wp2
            go_loop [62] (fun t62 => ∃ i : Nat, t62 = .int .i64 (i : Int) ∧ i ≤ lk ∧ ∀ j (hj : j < n.keys.length), j < i → (0 < n.keys[j].size ∧ n.keys[j].size ≤ 16) ∧ ∀ (hj2 : 0 < j), Lt (n.keys[j - 1]'(by omega)) n.keys[j]) (fun t62 => lk - (intOf t62).toNat)
            case atStart => exact ⟨0, rfl, Nat.zero_le _, fun j _ h => by omega⟩
            case round =>
              obtain ⟨i, rfl, hi, hall⟩ := hrel
              have HA := Lib.hid hall
              clear hall
              by_cases hlt' : i < lk
              · have hlt : i < n.keys.length := by have := HLk.out; omega
                have hI : (i : Int) < (lk : Int) := by omega
                obtain ⟨b, off, hA, hb, hc⟩ := HK.out (by have := HLk.out; omega)
                subst hA
                have c0 : W.cell? ⟨b, off + i, none⟩ = some (.string n.keys[i]) := hc i hlt
                by_cases hk0 : n.keys[i].size = 0
                · have e0 := B.is_empty hk0
                  have hr := HF.out (fun h => by have := h.key _ (List.getElem_mem hlt); omega)
                  subst hr
                  go_wp2
                  go_ret
                  exact ⟨rfl, bA⟩
                · have e0 := B.not_empty (show 0 < n.keys[i].size by omega)
                  by_cases hk1 : n.keys[i].size ≤ 16
                  · have e1 : ¬ (16 : Int) < (n.keys[i].size : Int) := by omega
                    by_cases hi0 : i = 0
                    · subst hi0
                      have c00 : W.cell? ⟨b, off, none⟩ = some (.string n.keys[0]) := c0
                      go_wp2
                      go_round
                      case rel => exact ⟨1, by first | rfl | go_num, by omega, fun j hj hj1 => by
                        obtain rfl : j = 0 := by omega
                        exact ⟨⟨by omega, hk1⟩, fun h => absurd h (by omega)⟩⟩
                      case measure => simp [intOf]; omega
                    · obtain ⟨p, rfl⟩ : ∃ p, i = p + 1 := ⟨i - 1, by omega⟩
                      have hpl : p < n.keys.length := by omega
                      have cp : W.cell? ⟨b, off + p, none⟩ = some (.string n.keys[p]) := hc p hpl
                      have ep : ((p + 1 : Nat) : Int) - 1 = (p : Int) := by omega
                      have hp0 : (0 : Int) < ((p + 1 : Nat) : Int) := by omega
                      by_cases hL : Lt n.keys[p] n.keys[p + 1]
                      · have el := less_t hL
                        go_wp2
                        go_round
                        case rel => exact ⟨p + 1 + 1, by go_num, by omega, fun j hj hj1 => by
                          rcases Nat.lt_or_ge j (p + 1) with h1 | h1
                          · exact HA.out j hj h1
                          · obtain rfl : j = p + 1 := by omega
                            exact ⟨⟨by omega, hk1⟩, fun _ => hL⟩⟩
                        case measure => simp [intOf]; omega
                      · have el := less_f hL
                        have hr := HF.out (fun h => hL (h.rise.lt (by omega) hlt))
                        subst hr
                        go_wp2
                        go_ret
                        exact ⟨rfl, bA⟩
                  · have e1 : (16 : Int) < (n.keys[i].size : Int) := by omega
                    have hr := HF.out (fun h => by have := h.key _ (List.getElem_mem hlt); omega)
                    subst hr
                    go_wp2
                    go_ret
                    exact ⟨rfl, bA⟩
              · have hI : ¬ (i : Int) < (lk : Int) := by omega
                go_wp2
                go_loop [92] (fun t92 => ∃ j : Nat, t92 = .int .i64 (j : Int) ∧ j ≤ 0 ∧ ∀ q (hq : q < n.vals.length), q < j → n.vals[q].size ≤ 32) (fun t92 => 0 - (intOf t92).toNat)
                case atStart => exact ⟨0, rfl, Nat.zero_le _, fun j _ h => by omega⟩
                case round =>
                  obtain ⟨j, rfl, hj, hal0⟩ := hrel
                  have HAV := Lib.hid hal0
                  clear hal0
                  by_cases hlt2' : j < 0
                  · omega
                  · obtain rfl : j = 0 := by omega
                    go_wp2
                    go_loop [103] (fun t103 => ∃ m : Nat, t103 = .int .i64 (m : Int) ∧ m ≤ lc ∧ ∀ q (hq : q < n.kids.length), q < m → 0 ≤ n.kids[q] ∧ n.kids[q] ≤ 2147483647) (fun t103 => lc - (intOf t103).toNat)
                    case atStart => exact ⟨0, rfl, Nat.zero_le _, fun j _ h => by omega⟩
                    case round =>
                      obtain ⟨m, rfl, hm, hallc⟩ := hrel
                      have HAC := Lib.hid hallc
                      clear hallc
                      by_cases hlt3' : m < lc
                      · have hlt3 : m < n.kids.length := by have := HLc.out; omega
                        have hI3 : (m : Int) < (lc : Int) := by omega
                        obtain ⟨b, off, hA, hb, hc⟩ := HC.out (by have := HLc.out; omega)
                        subst hA
                        have c0 : W.cell? ⟨b, off + m, none⟩ = some (.int .i64 n.kids[m]) := hc m hlt3
                        by_cases hp0 : n.kids[m] < 0
                        · have hr := HF.out (fun h => by have := h.kid _ (List.getElem_mem hlt3); omega)
                          subst hr
                          go_wp2
                          go_ret
                          exact ⟨rfl, bA⟩
                        · by_cases hp1 : 2147483647 < n.kids[m]
                          · have hr := HF.out (fun h => by have := h.kid _ (List.getElem_mem hlt3); omega)
                            subst hr
                            go_wp2
                            go_ret
                            exact ⟨rfl, bA⟩
                          · go_wp2
                            go_round
                            case rel => exact ⟨m + 1, by go_num, by omega, fun q hq hq1 => by
                              rcases Nat.lt_or_ge q m with h1 | h1
                              · exact HAC.out q hq h1
                              · obtain rfl : q = m := by omega
                                omega⟩
                            case measure => simp [intOf]; omega
                      · have hI3 : ¬ (m : Int) < (lc : Int) := by omega
                        have hr := HT.out ⟨HEV, rise_adj (fun q hq => by have := (HA.out (q + 1) hq (by have := HLk.out; omega)).2 (by omega); simpa using this), fun k hk => by
                            obtain ⟨q, hq, rfl⟩ := List.getElem_of_mem hk; exact (HA.out q hq (by have := HLk.out; omega)).1, fun k hk => by
                            obtain ⟨q, hq, rfl⟩ := List.getElem_of_mem hk; exact HAV.out q hq (by have := HLv.out; omega), fun k hk => by
                            obtain ⟨q, hq, rfl⟩ := List.getElem_of_mem hk; exact HAC.out q hq (by have := HLc.out; omega)⟩
                        subst hr
                        go_wp2
                        go_ret
                        exact ⟨rfl, bA⟩
          · have hr := HF.out (fun h => by have q1 := HLk.out; have q2 := HLv.out; have q3 := HLc.out; rcases h.ev with ⟨a, b, c⟩ | ⟨a, b, c⟩ <;> omega)
            subst hr
            have g5 : ((lk : Int) == 0) = true := by rw [beq_iff_eq]; omega
            rw [h2] at bA ⊢
            clear hev h1 h2 h3 h5
            go_enter Try.func31, Try.ntmps31
            go_wp2
            go_ret
            exact ⟨rfl, bA⟩
        · have hr := HF.out (fun h => by have q1 := HLk.out; have q2 := HLv.out; have q3 := HLc.out; rcases h.ev with ⟨a, b, c⟩ | ⟨a, b, c⟩ <;> omega)
          subst hr
          have g4 : (0 : Int) < (lv : Int) := by omega
          rw [h2] at bA ⊢
          clear hev h1 h2 h3 h4
          go_enter Try.func31, Try.ntmps31
          go_wp2
          go_ret
          exact ⟨rfl, bA⟩
      · have hr := HF.out (fun h => by have q1 := HLk.out; have q2 := HLv.out; have q3 := HLc.out; rcases h.ev with ⟨a, b, c⟩ | ⟨a, b, c⟩ <;> omega)
        subst hr
        have g3 : ((lc : Int) != (lk : Int)) = true := by rw [bne_iff_ne]; omega
        rw [h2] at bA ⊢
        clear hev h1 h2 h3
        go_enter Try.func31, Try.ntmps31
        go_wp2
        go_ret
        exact ⟨rfl, bA⟩
    · have hr := HF.out (fun h => by have q1 := HLk.out; have q2 := HLv.out; have q3 := HLc.out; rcases h.ev with ⟨a, b, c⟩ | ⟨a, b, c⟩ <;> omega)
      subst hr
      have g1 : (n.kind != 1) = true := by simpa using h1
      have g2 : (n.kind != 2) = true := by simpa using h2
      clear h1 h2 hrec
      go_enter Try.func31, Try.ntmps31
      go_wp2
      go_ret
      exact ⟨rfl, bA⟩
end Nod
end Go.Proofs.Ytjikioiejdfodaa
