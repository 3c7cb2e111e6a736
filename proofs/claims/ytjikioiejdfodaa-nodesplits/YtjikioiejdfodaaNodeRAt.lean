/-
  What the document's own At does: where a node is split.
-/
import Derived.Test.YtjikioiejdfodaaNodeSpM
namespace Go.Proofs.Ytjikioiejdfodaa
open Go.RowKit
namespace Nod
open B V
set_option maxRecDepth 100000 in
set_option maxHeartbeats 4000000 in
theorem refAt_any (A1 A2 A3 : Option Addr) (c1 c2 c3 : Nat) (n : N) (w : World) (h : NAt w A1 A2 A3 n) (hf : Ok n) (h2 : 2 ≤ n.keys.length) (h3 : n.keys.length ≤ 300) :
    Calls Try.prog 43 #[nv A1 A2 A3 c1 c2 c3 n] w fun e w' => e = .returned (.int .i64 (mid n : Int)) ∧ Below w.heap.size w w' := by
  have CE := Lib.hid (fun W (q : Below w.heap.size w W) i (hi : i < n.keys.length) => refEntry_any A1 A2 A3 c1 c2 c3 n i W (h.below q) (by omega) hf hi)
  have HL := Lib.hid (ents_len hf.fine)
  have HEZ : Hid (∀ i, (entB n i).size = (ent n i).length) := fun i => mk_size _
  have HM := Lib.hid (fun m => mid_eq (n := n) (m := m))
  have HP := Lib.hid (pre_pos n (k := n.keys.length) (by omega))
  unfold nv at *
  have bA := below1 w (.cells #[.int .i64 n.kind, .slice A1 n.keys.length c1, .slice A2 n.vals.length c2, .slice A3 n.kids.length c3] 55)
  have BX := Lib.hid (bx_new w (.int .i64 n.kind) (.slice A1 n.keys.length c1) (.slice A2 n.vals.length c2) (.slice A3 n.kids.length c3) 55)
  clear h hf
  go_enter Try.func43, Try.ntmps43
  go_upto_region 2 with fail
  generalize w.alloc (.cells #[.int .i64 n.kind, .slice A1 n.keys.length c1, .slice A2 n.vals.length c2, .slice A3 n.kids.length c3] 55) = W at *
  obtain ⟨k0, k1, k2, k3⟩ := BX.out.p
  go_wp2
  clear k0 k1 k2 k3
  go_loopw [3, 10] (fun t3 t10 wr => ∃ i : Nat, i ≤ n.keys.length ∧ t10 = .int .i64 (i : Int) ∧ t3 = .int .i64 (pre n i : Int) ∧ Below w.heap.size w wr ∧ Bx wr w.heap.size (.int .i64 n.kind) (.slice A1 n.keys.length c1) (.slice A2 n.vals.length c2) (.slice A3 n.kids.length c3)) (fun _ t10 _ => n.keys.length - (intOf t10).toNat)
  case atStart => exact ⟨0, Nat.zero_le _, rfl, rfl, bA, BX.out⟩
  case round =>
    obtain ⟨i, hi, rfl, rfl, hb, hx⟩ := hrel
    have B7 := Lib.hid hb
    have X7 := Lib.hid hx
    clear BX hb hx
    have hp := HL.out i
    have hp' : pre n i ≤ 3000 * i := hp
    by_cases hlt : i < n.keys.length
    · have hI : (i : Int) < (n.keys.length : Int) := by omega
      have CE7 := Lib.hid (CE.out wr B7.out i hlt)
      have hp2 : pre n (i + 1) ≤ 3000 * (i + 1) := HL.out (i + 1)
      have hps := pre_succ n i
      have hez := HEZ.out i
      obtain ⟨k0, k1, k2, k3⟩ := X7.out.p
      go_wp2_with (go_at_call 71; ((with_reducible refine CE7.out.mono ?_); rintro e w8 ⟨rfl, hb8⟩; have B8 := Lib.hid (B7.out.trans (hb8.mono B7.out.size)); have X8 := Lib.hid (X7.out.below hb8); clear hb8))
      go_roundw
      case rel => exact ⟨i + 1, by omega, by go_num, by rw [pre_succ]; go_num, B8.out, X8.out⟩
      case measure => simp [intOf]; omega
    · have hI : ¬ (i : Int) < (n.keys.length : Int) := by omega
      obtain rfl : i = n.keys.length := by omega
      generalize wr = w9 at *
      go_wp2
      go_loopw [5, 6] (fun t5 t6 wr => ∃ j : Nat, j + 1 ≤ n.keys.length ∧ t6 = .int .i64 (j : Int) ∧ t5 = .int .i64 (pre n j : Int) ∧ (∀ k, k ≤ j → 2 * pre n k < pre n n.keys.length) ∧ Below w.heap.size w wr ∧ Bx wr w.heap.size (.int .i64 n.kind) (.slice A1 n.keys.length c1) (.slice A2 n.vals.length c2) (.slice A3 n.kids.length c3)) (fun _ t6 _ => n.keys.length - (intOf t6).toNat)
      case atStart => exact ⟨0, by omega, rfl, rfl, (fun k hk => by have := HP.out; rw [show k = 0 by omega, pre_zero]; omega), B7.out, X7.out⟩
      case round =>
        obtain ⟨j, hj, rfl, rfl, hm, hb, hx⟩ := hrel
        have B9 := Lib.hid hb
        have X9 := Lib.hid hx
        have HJ := Lib.hid hm
        clear B7 X7 hb hx hm
        have hpj : pre n j ≤ 3000 * j := HL.out j
        obtain ⟨k0, k1, k2, k3⟩ := X9.out.p
        by_cases hlt : j + 1 < n.keys.length
        · have hI : (j : Int) < (n.keys.length : Int) - 1 := by omega
          have hp2 : pre n (j + 1) ≤ 3000 * (j + 1) := HL.out (j + 1)
          have hps := pre_succ n j
          have hez := HEZ.out j
          have CE8 := Lib.hid (CE.out wr B9.out j (by omega))
          by_cases hlt2 : pre n n.keys.length ≤ 2 * pre n (j + 1)
          · have hI2 : 2 * ((pre n j : Int) + ((ent n j).length : Int)) ≥ (pre n n.keys.length : Int) := by omega
            have hmid := HM.out (j + 1) (by omega) (fun k hk => HJ.out k (by omega)) (.inr hlt2)
            go_wp2_with (go_at_call 71; ((with_reducible refine CE8.out.mono ?_); rintro e w10 ⟨rfl, hb10⟩; have B10 := Lib.hid (B9.out.trans (hb10.mono B9.out.size)); clear hb10))
            go_ret
            exact ⟨by rw [hmid]; go_num, B10.out⟩
          · have hI2 : ¬ 2 * ((pre n j : Int) + ((ent n j).length : Int)) ≥ (pre n n.keys.length : Int) := by omega
            go_wp2_with (go_at_call 71; ((with_reducible refine CE8.out.mono ?_); rintro e w10 ⟨rfl, hb10⟩; have B10 := Lib.hid (B9.out.trans (hb10.mono B9.out.size)); have X10 := Lib.hid (X9.out.below hb10); clear hb10))
            go_roundw
            case rel => exact ⟨j + 1, by omega, by go_num, by rw [pre_succ]; go_num, (fun k hk => by
              by_cases hkj : k = j + 1
              · subst hkj; omega
              · exact HJ.out k (by omega)), B10.out, X10.out⟩
            case measure => simp [intOf]; omega
        · have hI : ¬ (j : Int) < (n.keys.length : Int) - 1 := by omega
          have hmid := Lib.hid (HM.out j hj (fun k hk => HJ.out k (by omega)) (.inl (by omega)))
          go_wp2
          go_ret
          exact ⟨by rw [hmid.out, show (j : Int) = (n.keys.length : Int) - 1 by omega]; rfl, B9.out⟩
end Nod
end Go.Proofs.Ytjikioiejdfodaa
