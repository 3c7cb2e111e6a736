/-
  Setcode (layer 13): the statement on sizes: a set of near numbers takes a byte for each, and one for how many there are.
-/
import Derived.Test.YtedhijehmkiieaaSetLaw
namespace Go.Proofs.Ytedhijehmkiieaa
open Go.RowKit
namespace Sc
open B

/-- numbers in even steps -/
def seq (F S : Int) : Nat → List Int
  | 0 => []
  | n + 1 => F :: seq (F + S) S n
theorem seq_length : ∀ (n : Nat) (F S : Int), (seq F S n).length = n
  | 0, _, _ => rfl
  | n + 1, F, S => by rw [seq, List.length_cons, seq_length n]
theorem seq_snoc : ∀ (n : Nat) (F S : Int), seq F S (n + 1) = seq F S n ++ [F + (n : Int) * S]
  | 0, F, S => by simp [seq]
  | n + 1, F, S => by
    rw [seq, seq_snoc n (F + S) S]
    show _ = (F :: seq (F + S) S n) ++ _
    rw [List.cons_append]
    congr 2
    rw [show ((n + 1 : Nat) : Int) = (n : Int) + 1 by omega, Int.add_mul]
    simp only [List.cons.injEq, and_true]
    omega
theorem seq_ok : ∀ (n : Nat) (F S least : Int), least ≤ F → 1 ≤ S → F + (n : Int) * S ≤ 2147483647 → okL least (seq F S n)
  | 0, _, _, _, _, _, _ => trivial
  | n + 1, F, S, least, h1, h2, h3 => by
    rw [show ((n + 1 : Nat) : Int) = (n : Int) + 1 by omega, Int.add_mul] at h3
    have h4 : 0 ≤ (n : Int) * S := Int.mul_nonneg (by omega) (by omega)
    exact ⟨h1, by omega, seq_ok n (F + S) S (F + 1) (by omega) h2 (by omega)⟩
theorem seq_len : ∀ (n : Nat) (F S least : Int), least ≤ F → F - least < 128 → 1 ≤ S → S ≤ 128 → (encL least (seq F S n)).length = n
  | 0, _, _, _, _, _, _, _ => rfl
  | n + 1, F, S, least, h1, h2, h3, h4 => by
    show (Var.num (F - least).toNat ++ encL (F + 1) (seq (F + S) S n)).length = _
    rw [Var.num_lt (by omega), List.length_append, seq_len n (F + S) S (F + 1) (by omega) (by omega) h3 h4]
    simp; omega
theorem seq_enc (n : Nat) (F S : Int) (hn : n ≤ 100) (h0 : 0 ≤ F) (h1 : F ≤ 100) (h3 : 1 ≤ S) (h4 : S ≤ 128) : (enc (seq F S n)).length = n + 1 := by
  unfold enc
  rw [seq_length, Var.num_lt (by omega), List.length_append, seq_len n F S 0 h0 (by omega) h3 h4]
  simp; omega

set_option maxRecDepth 100000 in
set_option maxHeartbeats 4000000 in
theorem setcodeSizes_walk (a b c : Int) (w : World) :
    Calls Try.prog 7 #[.int .i64 a, .int .i64 b, .int .i64 c] w fun e w' => e = .returned (.bool true) ∧ Below w.heap.size w w' := by
  obtain ⟨i0, hi, hz0, hz1, hz2⟩ := info_parts info3
  have AW := Lib.hid (awake13_any w)
  go_enter Try.func7, Try.ntmps7
  go_upto_region 3 with (go_at_call 20; ((with_reducible refine AW.out.mono ?_); rintro e w1 ⟨rfl, hb1⟩; have B1 := Lib.hid hb1; clear hb1))
  go_cut [0, 1, 2] (fun s0 s1 s2 wc => ∃ (F S : Int) (N : Nat), s0 = .int .i64 F ∧ s1 = .int .i64 S ∧ s2 = .int .i64 (N : Int) ∧ 0 ≤ F ∧ F ≤ 100 ∧ 1 ≤ S ∧ S ≤ 128 ∧ N ≤ 100 ∧ wc = w1)
  case first =>
    go_wp2
    all_goals go_meet
    all_goals exact ⟨_, _, (max 0 (min c 100)).toNat, rfl, rfl, by go_num, by omega, by omega, by omega, by omega, by omega, rfl⟩
  case rest =>
    obtain ⟨F, S, N, rfl, rfl, rfl, hF0, hF1, hS0, hS1, hN, rfl⟩ := hcut
    have hb1 := B1.out
    have sw := hb1.size
    go_wp2
    go_loopw [7, 23] (fun t7 t23 wr => ∃ (k : Nat), k ≤ N ∧ t23 = .int .i64 (k : Int) ∧ wr.ownsRow w.heap.size 3 1 t7 (seq F S k).length ((seq F S k).map vInt) ∧ Below w.heap.size w wr) (fun _ t23 _ => N - (intOf t23).toNat)
    case atStart => exact ⟨0, Nat.zero_le _, rfl, World.ownsRow_nil _ _ _ _, hb1⟩
    case round =>
      obtain ⟨k, hk, rfl, hown, hbel⟩ := hrel
      have OW := Lib.hid hown
      have BW := Lib.hid hbel
      have s2 := hbel.size
      have hlen := seq_length k F S
      clear hb1 hown hbel
      by_cases hlt : k < N
      · have hm0 : 0 ≤ (k : Int) * S := Int.mul_nonneg (by omega) (by omega)
        have hm1 : (k : Int) * S ≤ 100 * 128 := Int.mul_le_mul (by omega) (by omega) (by omega) (by omega)
        have hm3 : (seq F S k).length + 1 ≤ maxLen := by unfold maxLen; omega
        have hm4 : ((seq F S k).length + 1) * 8 ≤ 140737488355328 := by omega
        have HS := Lib.hid (seq_snoc k F S)
        have HLN := Lib.hid hlen
        clear hlen
        go_wp2_with (at_builtin; refine wpList_append_own _ rfl _ _ 26 rfl w.heap.size 3 i0 (.int .i64 0) 1 8 Try.underlying26 hi hz0 hz1 hz2 rfl (by decide) _ _ _ rfl (OW.out.alloc _) ⟨wr.heap.size, 0, none⟩ 1 1 [.int .i64 (F + (k : Int) * S)] rfl rfl (one_new _ _ _ _ rfl) (one_int _) hm3 hm4 (base1 s2 _) ?_)
        intro v' w2 hown' hgrow _
        have HB : Hid (Below w.heap.size w w2) := (BW.out.alloc s2 _).grown hgrow (base1 s2 _) (fun q hq => (OW.out.lt q hq).1)
        have HO : Hid (w2.ownsRow w.heap.size 3 1 v' (seq F S (k + 1)).length ((seq F S (k + 1)).map vInt)) := by unfold Hid; rw [HS.out, List.length_append, List.map_append]; exact hown'
        clear hown' hgrow
        go_wp2
        go_roundw
        case rel => exact ⟨k + 1, by omega, by go_num, HO.out, HB.out⟩
        case measure => simp [intOf]; omega
      · obtain rfl : k = N := by omega
        obtain ⟨A, cp, rfl, hA, _⟩ := own_at OW.out
        have hmul : (k : Int) * S ≤ 100 * 128 := Int.mul_le_mul (by omega) (by omega) (by omega) (by omega)
        have hok := ok_okB (seq F S k) 0 (Int.le_refl _) (seq_ok k F S 0 hF0 hS0 (by omega))
        have hlE := seq_enc k F S hN hF0 hF1 hS0 hS1
        obtain ⟨T, hT⟩ : ∃ T : ByteArray, T = ⟨(enc (seq F S k)).toArray⟩ := ⟨_, rfl⟩
        have hTz : (T.size : Int) = (k : Int) + 1 := by rw [hT, mk_size, hlE]; omega
        have cE := fun W (q : Below wr.heap.size wr W) => encode_any (seq F S k) A cp W (by omega) (hA.below q)
        have cZ := fun W (q : Below wr.heap.size wr W) => size_any (seq F S k) A cp W (by omega) (hA.below q)
        rw [hok, if_pos rfl] at cE cZ
        rw [if_pos rfl, ← hT] at cE
        rw [show ((enc (seq F S k)).length : Int) = (k : Int) + 1 by rw [hlE]; omega] at cZ
        have CE := Lib.hid (cE _ (Below.refl _ _))
        have CZ := Lib.hid cZ
        clear cE cZ hok hlE hT hlen hmul hA
        go_wp2_with (first
          | (go_at_call 22; ((with_reducible refine CE.out.mono ?_); rintro e w3 ⟨rfl, hb3⟩; have B3 := Lib.hid hb3; clear hb3))
          | (go_at_call 24; ((with_reducible refine (CZ.out _ B3.out).mono ?_); rintro e w4 ⟨rfl, hb4⟩; have B4 := Lib.hid (B3.out.trans (hb4.mono B3.out.size)); clear hb4)))
        go_ret
        exact ⟨rfl, BW.out.trans (B4.out.mono s2)⟩
end Sc
end Go.Proofs.Ytedhijehmkiieaa
