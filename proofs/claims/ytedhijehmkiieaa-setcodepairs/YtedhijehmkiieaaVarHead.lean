/-
  What the document's own Head does (dowserref01): the head of bytes, as VarMath has it.
-/
import Derived.Test.YtedhijehmkiieaaVarIn
import Derived.Test.YtedhijehmkiieaaVarLawA
import Derived.Test.YtedhijehmkiieaaVarLawB
namespace Go.Proofs.Ytedhijehmkiieaa
open Go.RowKit
namespace V

/-- bytes by sevens, the lowest first -/
def val : List UInt8 → Nat
  | [] => 0
  | b :: r => b.toNat % 128 + 128 * val r
theorem val_append : ∀ (a b : List UInt8), val (a ++ b) = val a + 128 ^ a.length * val b
  | [], b => by simp [val]
  | x :: a, b => by
    simp only [List.cons_append, val, val_append a b, List.length_cons, Nat.pow_succ]
    rw [Nat.mul_add, Nat.mul_comm (128 ^ a.length) 128, Nat.mul_assoc]; omega
theorem val_lt : ∀ a : List UInt8, val a < 128 ^ a.length
  | [] => by simp [val]
  | x :: a => by
    have := val_lt a
    simp only [val, List.length_cons, Nat.pow_succ]; omega
theorem val_drop : ∀ (a : List UInt8) (j : Nat), val (a.drop j) ≤ val a
  | [], j => by simp
  | x :: a, 0 => by simp
  | x :: a, j + 1 => by
    have := val_drop a j
    simp only [List.drop_succ_cons, val]; omega
theorem val_step (L : List UInt8) (j : Nat) (h : j < L.length) : val (L.drop j) = L[j].toNat % 128 + 128 * val (L.drop (j + 1)) := by
  rw [List.drop_eq_getElem_cons h]; rfl
theorem val_snoc (l : List UInt8) (k : Nat) (h : k < l.length) : val (l.take (k + 1)) = val (l.take k) + l[k].toNat % 128 * 128 ^ k := by
  rw [List.take_succ_eq_append_getElem h, val_append]
  have : (l.take k).length = k := by rw [List.length_take]; omega
  rw [this]; simp only [val]; rw [Nat.mul_comm]; simp

set_option maxRecDepth 100000 in
set_option maxHeartbeats 1000000 in
theorem head_any (s : ByteArray) (w : World) (hs : s.size ≤ maxLen) :
    Calls Try.prog 61 #[.string s] w fun e w' => e = tri (Var.hd 0 0 s.data.toList) ∧ w = w' := by
  unfold maxLen at hs
  go_enter Try.func61, Try.ntmps61
  go_wp2
  go_loop [5] (fun i => ∃ (k : Nat), k ≤ 9 ∧ k ≤ s.size ∧ i = .int .i64 (k : Int) ∧ Var.hd k (val (s.data.toList.take k)) (s.data.toList.drop k) = Var.hd 0 0 s.data.toList) (fun i => 10 - (intOf i).toNat)
  case atStart => exact ⟨0, by omega, by omega, rfl, rfl⟩
  case round =>
    obtain ⟨k, hk9, hks, rfl, hr⟩ := hrel
    have HR := Lib.hid hr
    clear hr
    by_cases hlt : k < s.size
    · have hb := s[k].toNat_lt
      have hl : k < s.data.toList.length := by rw [size_data]; exact hlt
      have hdr : s.data.toList.drop k = s[k] :: s.data.toList.drop (k + 1) := List.drop_eq_getElem_cons hl
      have hr := HR.out
      rw [hdr] at hr
      have HQ := Lib.hid hr
      have hsn : val (s.data.toList.take (k + 1)) = val (s.data.toList.take k) + s[k].toNat % 128 * 128 ^ k := val_snoc _ _ hl
      have HSn := Lib.hid hsn
      have hacc : val (s.data.toList.take k) < 128 ^ k := by
        have h1 := val_lt (s.data.toList.take k)
        have : (s.data.toList.take k).length = k := by rw [List.length_take]; omega
        rwa [this] at h1
      have HO := Lib.hid (fun h9 : k = 9 → s[k].toNat ≤ 1 => (or_sum _ k s[k] hacc hk9 h9).2)
      clear hr hdr HR hsn hacc
      generalize hb' : s[k] = b at *
      by_cases hbad : (0 < k ∧ b.toNat = 0) ∨ (k = 9 ∧ 1 < b.toNat)
      · have HE : Hid (Var.hd 0 0 s.data.toList = (0, 0, 3)) := by have h := HQ.out; rw [Var.hd, if_pos hbad] at h; exact h.symm
        clear HQ HO HSn
        by_cases hz : b.toNat = 0
        · have h0 : 0 < k := by omega
          clear hbad
          by_cases h9 : k = 9
          · subst h9
            go_wp2
            all_goals go_ret3
            all_goals exact ⟨by rw [HE.out]; rfl, rfl⟩
          · go_wp2
            all_goals go_ret3
            all_goals exact ⟨by rw [HE.out]; rfl, rfl⟩
        · have h9 : k = 9 := by omega
          have h1 : 1 < b.toNat := by omega
          clear hbad
          subst h9
          go_wp2
          all_goals go_ret3
          all_goals exact ⟨by rw [HE.out]; rfl, rfl⟩
      · by_cases h128 : b.toNat < 128
        · have HE : Hid (Var.hd 0 0 s.data.toList = (val (s.data.toList.take (k + 1)), k + 1, 0)) := by
            have h := HQ.out
            have em : b.toNat % 128 = b.toNat := Nat.mod_eq_of_lt h128
            rw [Var.hd, if_neg hbad, if_pos h128] at h
            have h2 := HSn.out
            rw [em] at h2
            rw [h2]; exact h.symm
          have hv64 : val (s.data.toList.take (k + 1)) < 18446744073709551616 := by rw [HSn.out]; exact HO.out (by omega)
          have HV := Lib.hid hv64
          have hll : (s.data.toList.take (k + 1)).length = k + 1 := by rw [List.length_take, size_data]; omega
          have HLL := Lib.hid hll
          have HG : Hid (∀ j (_ : j < k + 1) (h : j < s.size), val ((s.data.toList.take (k + 1)).drop j) = s[j].toNat % 128 + 128 * val ((s.data.toList.take (k + 1)).drop (j + 1))) := fun j hj h => by
            rw [val_step _ j (by rw [hll]; exact hj), List.getElem_take]; rfl
          clear HQ HO HSn hv64 hll
          by_cases hk9' : k = 9
          · have h1 : ((b.toNat : Int) == 0) = false := by rw [beq_eq_false_iff_ne]; omega
            have h2 : decide (1 < (b.toNat : Int)) = false := by rw [decide_eq_false_iff_not]; omega
            subst hk9'
            clear hbad
            go_wp2
            go_loop [6, 7] (fun t i => ∃ (j : Nat), j ≤ 9 + 1 ∧ i = .int .i64 ((j : Int) - 1) ∧ t = .int .u64 (val ((s.data.toList.take (9 + 1)).drop j) : Int)) (fun _ i => (intOf i + 1).toNat)
            case atStart => exact ⟨9 + 1, by omega, by go_num, by rw [List.drop_eq_nil_of_le (by rw [HLL.out]; omega)]; rfl⟩
            case round =>
              obtain ⟨j, hj, rfl, rfl⟩ := hrel
              cases j with
              | zero =>
                go_wp2
                go_ret3
                exact ⟨by rw [HE.out]; exact tri_eq rfl (by omega) rfl, rfl⟩
              | succ j =>
                have hjs : j < s.size := by omega
                have hg := HG.out j (by omega) hjs
                have hle : val ((s.data.toList.take (9 + 1)).drop j) < 18446744073709551616 := Nat.lt_of_le_of_lt (val_drop _ _) HV.out
                have HGG := Lib.hid hg
                have hle2 : s[j].toNat % 128 + 128 * val ((s.data.toList.take (9 + 1)).drop (j + 1)) < 18446744073709551616 := by rw [← hg]; exact hle
                clear hg hle
                generalize val ((s.data.toList.take (9 + 1)).drop (j + 1)) = V at *
                have hbj := s[j].toNat_lt
                go_wp2
                go_round
                case rel => exact ⟨j, by omega, by go_num, by rw [HGG.out]; go_num⟩
                case measure => simp [intOf]
          · rcases (show k < 1 ∨ (0 < k ∧ k < 9 ∧ ((b.toNat : Int) == 0) = false) by
              rw [beq_eq_false_iff_ne]; omega) with h1 | ⟨h1, h2, h3⟩
            all_goals
              clear hbad
              go_wp2
              go_loop [6, 7] (fun t i => ∃ (j : Nat), j ≤ k + 1 ∧ i = .int .i64 ((j : Int) - 1) ∧ t = .int .u64 (val ((s.data.toList.take (k + 1)).drop j) : Int)) (fun _ i => (intOf i + 1).toNat)
              case atStart => exact ⟨k + 1, by omega, by go_num, by rw [List.drop_eq_nil_of_le (by rw [HLL.out]; omega)]; rfl⟩
              case round =>
                obtain ⟨j, hj, rfl, rfl⟩ := hrel
                cases j with
                | zero =>
                  go_wp2
                  go_ret3
                  exact ⟨by rw [HE.out]; exact tri_eq rfl (by omega) rfl, rfl⟩
                | succ j =>
                  have hjs : j < s.size := by omega
                  have hg := HG.out j (by omega) hjs
                  have hle : val ((s.data.toList.take (k + 1)).drop j) < 18446744073709551616 := Nat.lt_of_le_of_lt (val_drop _ _) HV.out
                  have HGG := Lib.hid hg
                  have hle2 : s[j].toNat % 128 + 128 * val ((s.data.toList.take (k + 1)).drop (j + 1)) < 18446744073709551616 := by rw [← hg]; exact hle
                  clear hg hle
                  generalize val ((s.data.toList.take (k + 1)).drop (j + 1)) = V at *
                  have hbj := s[j].toNat_lt
                  go_wp2
                  go_round
                  case rel => exact ⟨j, by omega, by go_num, by rw [HGG.out]; go_num⟩
                  case measure => simp [intOf]
        · have HE : Hid (Var.hd (k + 1) (val (s.data.toList.take (k + 1))) (s.data.toList.drop (k + 1)) = Var.hd 0 0 s.data.toList) := by have h := HQ.out; rw [Var.hd, if_neg hbad, if_neg h128, ← HSn.out] at h; exact h
          clear HQ HO HSn
          have h9 : k < 9 := by omega
          clear hbad
          go_wp2
          go_round
          case rel => exact ⟨k + 1, by omega, by omega, by go_num, HE.out⟩
          case measure => simp [intOf]; omega
    · have HE : Hid (Var.hd 0 0 s.data.toList = (0, 0, 2)) := by
        have h := HR.out
        rw [List.drop_eq_nil_of_le (by rw [Array.length_toList]; show s.size ≤ k; omega)] at h
        exact h.symm
      clear HR
      go_wp2
      go_ret3
      exact ⟨by rw [HE.out]; rfl, rfl⟩
end V
end Go.Proofs.Ytedhijehmkiieaa
