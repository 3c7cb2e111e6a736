/-
  Node: where it is split; a piece of a list.
-/
import Derived.Test.YtjikioiejdfodaaNodePack
namespace Go.Proofs.Ytjikioiejdfodaa
open Go.RowKit
namespace Nod
open B V
/-- how many bytes the first entries have -/
def pre (n : N) (k : Nat) : Nat := (ents n k).length
theorem pre_zero (n : N) : pre n 0 = 0 := rfl
theorem pre_succ (n : N) (k : Nat) : pre n (k + 1) = pre n k + (ent n k).length := by unfold pre; rw [ents_succ, List.length_append]
def midGo (n : N) : Nat → Nat → Nat
  | 0, i => i
  | f + 1, i => if i + 1 < n.keys.length ∧ 2 * pre n i < pre n n.keys.length then midGo n f (i + 1) else i
def mid (n : N) : Nat := midGo n n.keys.length 0
set_option maxRecDepth 100000 in
set_option maxHeartbeats 4000000 in
theorem middle_any (A1 A2 A3 : Option Addr) (c1 c2 c3 : Nat) (n : N) (w : World) (h : NAt w A1 A2 A3 n) (hl : Sm n) (hf : Fine n) (h3 : n.keys.length ≤ 300) :
    Calls Try.prog 75 #[nv A1 A2 A3 c1 c2 c3 n] w fun e w' => e = .returned (.int .i64 (mid n : Int)) ∧ Below w.heap.size w w' := by
  have CL := Lib.hid (fun W => len_any A1 A2 A3 c1 c2 c3 n W)
  have CE := Lib.hid (fun W (q : Below w.heap.size w W) i (hi : i < n.keys.length) => entry_any A1 A2 A3 c1 c2 c3 n i W (h.below q) hl hf hi)
  have HL := Lib.hid (ents_len hf)
  have HEZ : Hid (∀ i, (entB n i).size = (ent n i).length) := fun i => mk_size _
  have HM : Hid (midGo n n.keys.length 0 = mid n) := rfl
  unfold nv at *
  have bA := below1 w (.cells #[.int .i64 n.kind, .slice A1 n.keys.length c1, .slice A2 n.vals.length c2, .slice A3 n.kids.length c3] 57)
  have BX := Lib.hid (bx_new w (.int .i64 n.kind) (.slice A1 n.keys.length c1) (.slice A2 n.vals.length c2) (.slice A3 n.kids.length c3) 57)
  clear h hl hf
  go_enter Try.func75, Try.ntmps75
  go_upto_region 2 with fail
  generalize w.alloc (.cells #[.int .i64 n.kind, .slice A1 n.keys.length c1, .slice A2 n.vals.length c2, .slice A3 n.kids.length c3] 57) = W at *
  obtain ⟨k0, k1, k2, k3⟩ := BX.out.p
  go_wp2_with (go_at_call 38; ((with_reducible refine (CL.out _).mono ?_); rintro e w3 ⟨rfl, hb3⟩; have B3 := Lib.hid (bA.trans (hb3.mono bA.size)); have X3 := Lib.hid (BX.out.below hb3); clear hb3))
  clear k0 k1 k2 k3
  go_loopw [3, 9] (fun t3 t9 wr => ∃ i : Nat, i ≤ n.keys.length ∧ t9 = .int .i64 (i : Int) ∧ t3 = .int .i64 (pre n i : Int) ∧ Below w.heap.size w wr ∧ Bx wr w.heap.size (.int .i64 n.kind) (.slice A1 n.keys.length c1) (.slice A2 n.vals.length c2) (.slice A3 n.kids.length c3)) (fun _ t9 _ => n.keys.length - (intOf t9).toNat)
  case atStart => exact ⟨0, Nat.zero_le _, rfl, rfl, B3.out, X3.out⟩
  case round =>
    obtain ⟨i, hi, rfl, rfl, hb, hx⟩ := hrel
    have B7 := Lib.hid hb
    have X7 := Lib.hid hx
    clear B3 X3 hb hx
    have hp := HL.out i
    have hp' : pre n i ≤ 3000 * i := hp
    by_cases hlt : i < n.keys.length
    · have hI : (i : Int) < (n.keys.length : Int) := by omega
      have CE7 := Lib.hid (CE.out wr B7.out i hlt)
      have hp2 : pre n (i + 1) ≤ 3000 * (i + 1) := HL.out (i + 1)
      have hps := pre_succ n i
      have hez := HEZ.out i
      obtain ⟨k0, k1, k2, k3⟩ := X7.out.p
      go_wp2_with (go_at_call 63; ((with_reducible refine CE7.out.mono ?_); rintro e w8 ⟨rfl, hb8⟩; have B8 := Lib.hid (B7.out.trans (hb8.mono B7.out.size)); have X8 := Lib.hid (X7.out.below hb8); clear hb8))
      go_roundw
      case rel => exact ⟨i + 1, by omega, by go_num, by rw [pre_succ]; go_num, B8.out, X8.out⟩
      case measure => simp [intOf]; omega
    · have hI : ¬ (i : Int) < (n.keys.length : Int) := by omega
      obtain rfl : i = n.keys.length := by omega
      generalize wr = w9 at *
      go_wp2
      go_loopw [5, 6] (fun t5 t6 wr => ∃ j f : Nat, f + j = n.keys.length ∧ t5 = .int .i64 (j : Int) ∧ t6 = .int .i64 (pre n j : Int) ∧ midGo n f j = mid n ∧ Below w.heap.size w wr ∧ Bx wr w.heap.size (.int .i64 n.kind) (.slice A1 n.keys.length c1) (.slice A2 n.vals.length c2) (.slice A3 n.kids.length c3)) (fun t5 _ _ => n.keys.length - (intOf t5).toNat)
      case atStart => exact ⟨0, n.keys.length, by omega, rfl, rfl, HM.out, B7.out, X7.out⟩
      case round =>
        obtain ⟨j, f, hj, rfl, rfl, hm, hb, hx⟩ := hrel
        have B9 := Lib.hid hb
        have X9 := Lib.hid hx
        clear B7 X7 hb hx
        have hpj : pre n j ≤ 3000 * j := HL.out j
        obtain ⟨k0, k1, k2, k3⟩ := X9.out.p
        have CL9 := Lib.hid (CL.out wr)
        by_cases hlt : j + 1 < n.keys.length
        · have hI : (j : Int) < (n.keys.length : Int) - 1 := by omega
          obtain ⟨f', rfl⟩ : ∃ f', f = f' + 1 := ⟨f - 1, by omega⟩
          by_cases hlt2 : 2 * pre n j < pre n n.keys.length
          · have hI2 : 2 * (pre n j : Int) < (pre n n.keys.length : Int) := by omega
            rw [midGo, if_pos ⟨hlt, hlt2⟩] at hm
            have hp2 : pre n (j + 1) ≤ 3000 * (j + 1) := HL.out (j + 1)
            have hps := pre_succ n j
            have hez := HEZ.out j
            go_wp2_with (first
              | (go_at_call 38; ((with_reducible refine CL9.out.mono ?_); rintro e w8 ⟨rfl, hb8⟩; have B8 := Lib.hid (B9.out.trans (hb8.mono B9.out.size)); have X8 := Lib.hid (X9.out.below hb8); clear hb8; have CE8 := Lib.hid (CE.out w8 B8.out j (by omega)); obtain ⟨k0, k1, k2, k3⟩ := X8.out.p))
              | (go_at_call 63; ((with_reducible refine CE8.out.mono ?_); rintro e w10 ⟨rfl, hb10⟩; have B10 := Lib.hid (B8.out.trans (hb10.mono B8.out.size)); have X10 := Lib.hid (X8.out.below hb10); clear hb10)))
            go_roundw
            case rel => exact ⟨j + 1, f', by omega, by go_num, by rw [pre_succ]; go_num, hm, B10.out, X10.out⟩
            case measure => simp [intOf]; omega
          · have hI2 : ¬ 2 * (pre n j : Int) < (pre n n.keys.length : Int) := by omega
            rw [midGo, if_neg (by omega)] at hm
            subst hm
            go_wp2_with (go_at_call 38; ((with_reducible refine CL9.out.mono ?_); rintro e w8 ⟨rfl, hb8⟩; have B8 := Lib.hid (B9.out.trans (hb8.mono B9.out.size)); clear hb8))
            go_ret
            exact ⟨rfl, B8.out⟩
        · have hI : ¬ (j : Int) < (n.keys.length : Int) - 1 := by omega
          have hm' : j = mid n := by
            rw [← hm]
            cases f with
            | zero => rfl
            | succ f => rw [midGo, if_neg (by omega)]
          subst hm'
          go_wp2_with (go_at_call 38; ((with_reducible refine CL9.out.mono ?_); rintro e w8 ⟨rfl, hb8⟩; have B8 := Lib.hid (B9.out.trans (hb8.mono B9.out.size)); clear hb8))
          go_ret
          exact ⟨rfl, B8.out⟩
end Nod
end Go.Proofs.Ytjikioiejdfodaa
