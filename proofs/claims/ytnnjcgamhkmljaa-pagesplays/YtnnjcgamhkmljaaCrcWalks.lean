/-
  What each call of package crc, and of the document's own answer for it, does: the sum of CrcMath, byte by byte; four bytes of a sum. For every text within the reach and every world.
-/
import Derived.Test.YtnnjcgamhkmljaaProg
import Derived.Test.YtnnjcgamhkmljaaCrcMath
import Derived.WalkKit
import Derived.WalkSpells
import Derived.WalkLawsBesides
import Derived.Laws.BytesArg
import Derived.Lib.Hide
namespace Go.Proofs.Ytnnjcgamhkmljaa
open Go.RowKit
theorem ret_int {k : IntKind} {a b : Int} (h : a = b) : Ending.returned (.int k a) = .returned (.int k b) := by rw [h]
set_option maxHeartbeats 400000 in
theorem onByte_any (x : BitVec 32) (c : UInt8) (w : World) :
    Calls Try.prog 92 #[.int .u32 (x.toNat : Int), .int .u8 (c.toNat : Int)] w fun e w' => e = .returned (.int .u32 ((Crc.byteOn x c).toNat : Int)) ∧ w = w' := by
  have hc := c.toNat_lt
  have HE := Lib.hid (Crc.runs_eq x c)
  go_enter Try.func92, Try.ntmps92
  go_wp2
  go_loop [0, 1, 6] (fun s b i => ∃ (X : BitVec 32) (B : Nat) (k : Nat), k ≤ 8 ∧ B < 256 ∧ i = .int .i64 k ∧ s = .int .u32 (X.toNat : Int) ∧ b = .int .u8 (B : Int) ∧ Crc.runs (8 - k) X B = Crc.byteOn x c) (fun _ _ i => 8 - (intOf i).toNat)
  case atStart => exact ⟨x, c.toNat, 0, Nat.zero_le _, hc, rfl, rfl, rfl, HE.out⟩
  case round =>
    obtain ⟨X, B, k, hk, hB, rfl, rfl, rfl, hr⟩ := hrel
    have HR := Lib.hid hr
    clear hr
    have hX := X.isLt
    by_cases hlt : k < 8
    · have HO := Lib.hid (Crc.out_eq X B hB)
      have e8 : 8 - k = (8 - (k + 1)) + 1 := by omega
      have HS : Hid (Crc.runs (8 - (k + 1)) (Crc.step X (decide (128 ≤ B))) (B * 2 % 256) = Crc.byteOn x c) := by have h := HR.out; rw [e8] at h; exact h
      clear e8 HE HR
      go_wp2
      · have h := HO.out
        have hb : (X.msb ^^ decide (128 ≤ B)) = true := h.symm.trans (by assumption)
        go_round
        case rel => exact ⟨Crc.step X (decide (128 ≤ B)), B * 2 % 256, k + 1, by omega, by omega, by go_num, by rw [Crc.xor_poly]; unfold Crc.step; rw [if_pos hb], by go_num, HS.out⟩
        case measure => simp [intOf]; omega
      · have h := HO.out
        have hb : (X.msb ^^ decide (128 ≤ B)) = false := h.symm.trans (by assumption)
        go_round
        case rel => exact ⟨Crc.step X (decide (128 ≤ B)), B * 2 % 256, k + 1, by omega, by omega, by go_num, by unfold Crc.step; rw [if_neg (by rw [hb]; decide), Crc.shl_nat]; go_num, by go_num, HS.out⟩
        case measure => simp [intOf]; omega
    · have e8 : 8 - k = 0 := by omega
      have HS : Hid (X = Crc.byteOn x c) := by have h := HR.out; rw [e8] at h; exact h
      clear e8 HE HR
      go_wp2
      go_ret
      exact ⟨ret_int (by rw [HS.out]), rfl⟩

set_option maxHeartbeats 400000 in
theorem on_any (x : BitVec 32) (s : ByteArray) (w : World) (hs : s.size ≤ maxLen) :
    Calls Try.prog 79 #[.int .u32 (x.toNat : Int), .string s] w fun e w' => e = .returned (.int .u32 ((Crc.on x s.data.toList).toNat : Int)) ∧ w = w' := by
  unfold maxLen at hs
  go_enter Try.func79, Try.ntmps79
  go_wp2
  go_loop [0, 8] (fun t i => ∃ k : Nat, k ≤ s.size ∧ i = .int .i64 k ∧ t = .int .u32 ((Crc.on x (s.data.toList.take k)).toNat : Int)) (fun _ i => s.size - (intOf i).toNat)
  case atStart => exact ⟨0, Nat.zero_le _, rfl, rfl⟩
  case round =>
    obtain ⟨k, hk, rfl, rfl⟩ := hrel
    by_cases hlt : k < s.size
    · have HS : Hid (Crc.on x (s.data.toList.take (k + 1)) = Crc.byteOn (Crc.on x (s.data.toList.take k)) s[k]) := by
        rw [List.take_succ_eq_append_getElem (by simpa using hlt), Crc.on_append]; rfl
      go_wp2_with (go_at_call 92; refine (onByte_any _ _ _).mono ?_; rintro e w' ⟨rfl, rfl⟩)
      go_round
      case rel => exact ⟨k + 1, by omega, by go_num, by rw [HS.out]⟩
      case measure => simp [intOf]; omega
    · go_wp2
      go_ret
      have e : s.data.toList.take k = s.data.toList := List.take_of_length_le (by simp; omega)
      exact ⟨ret_int (by rw [e]), rfl⟩

theorem ktest (X : BitVec 32) (c : UInt8) (K : Nat) :
    (!(((wrap64 ((c.toNat : Int) / (K : Int))).tmod 2 == 1) == decide (2147483648 ≤ (X.toNat : Int)))) = (X.msb ^^ (c.toNat / K % 2 == 1)) := by
  have hc := c.toNat_lt
  have hd : c.toNat / K ≤ c.toNat := Nat.div_le_self _ _
  have e1 : ((c.toNat : Int) / (K : Int)) = ((c.toNat / K : Nat) : Int) := by simp
  rw [e1, BitVec.msb_eq_decide]
  clear e1
  generalize c.toNat / K = q at *
  rw [IntWalk.wrap64_in (q : Int) (by omega)]
  have e3 : (q : Int).tmod 2 = ((q % 2 : Nat) : Int) := by rw [Int.tmod_eq_emod_of_nonneg (by omega)]; simp
  rw [e3]
  have e4 : decide (2147483648 ≤ (X.toNat : Int)) = decide (2147483648 ≤ X.toNat) := by
    by_cases h : 2147483648 ≤ X.toNat
    · rw [decide_eq_true h, decide_eq_true (by omega)]
    · rw [decide_eq_false h, decide_eq_false (by omega)]
  have e5 : (((q % 2 : Nat) : Int) == 1) = (q % 2 == 1) := by
    rcases Nat.mod_two_eq_zero_or_one q with h | h <;> rw [h] <;> rfl
  rw [e4, e5]
  show _ = (decide (2147483648 ≤ X.toNat) ^^ _)
  cases decide (2147483648 ≤ X.toNat) <;> cases (q % 2 == 1) <;> rfl

theorem add_nat (X : BitVec 32) : ((X.toNat : Int) + (X.toNat : Int)) % (4294967296 : Int) = ((X <<< 1).toNat : Int) := by
  rw [Crc.shl_nat]; omega
theorem add_poly (X : BitVec 32) : bits .xor .u32 (((X.toNat : Int) + (X.toNat : Int)) % 4294967296) 79764919 = (((X <<< 1) ^^^ Crc.poly).toNat : Int) := by
  rw [← Crc.xor_poly]; congr 1; omega

/-- the bytes of texts, one behind the other -/
def joined (ss : List ByteArray) : List UInt8 := ss.flatMap fun s => s.data.toList

set_option maxHeartbeats 400000 in
theorem of_any (ss : List ByteArray) (g c : Nat) (w : World) (hl : ss.length ≤ 1000) (hs : ∀ s ∈ ss, s.size ≤ maxLen)
    (hc : ∀ i (h : i < ss.length), w.cell? ⟨g, i, none⟩ = some (.string ss[i])) :
    Calls Try.prog 54 #[.slice (some ⟨g, 0, none⟩) ss.length c] w fun e w' => e = .returned (.int .u32 ((Crc.on Crc.start (joined ss)).toNat : Int)) ∧ w = w' := by
  have HC := Lib.hid hc
  have HM := Lib.hid hs
  clear hc hs
  go_enter Try.func54, Try.ntmps54
  go_wp2
  go_loop [3, 8] (fun t i => ∃ k : Nat, k ≤ ss.length ∧ i = .int .i64 k ∧ t = .int .u32 ((Crc.on Crc.start (joined (ss.take k))).toNat : Int)) (fun _ i => ss.length - (intOf i).toNat)
  case atStart => exact ⟨0, Nat.zero_le _, rfl, rfl⟩
  case round =>
    obtain ⟨k, hk, rfl, rfl⟩ := hrel
    by_cases hlt : k < ss.length
    · have hcell := HC.out k hlt
      have hm := HM.out ss[k] (List.getElem_mem hlt)
      have hst : Crc.on Crc.start (joined (ss.take (k + 1))) = Crc.on (Crc.on Crc.start (joined (ss.take k))) ss[k].data.toList := by
        rw [List.take_succ_eq_append_getElem hlt]; unfold joined; rw [List.flatMap_append, Crc.on_append]; simp
      have HS := Lib.hid hst
      clear hst
      generalize ss[k] = s at *
      go_wp2_with (go_at_call 79; refine (on_any _ _ _ hm).mono ?_; rintro e w' ⟨rfl, rfl⟩)
      go_round
      case rel => exact ⟨k + 1, by omega, by go_num, by rw [HS.out]⟩
      case measure => simp [intOf]; omega
    · go_wp2
      go_ret
      have e : ss.take k = ss := List.take_of_length_le (by omega)
      exact ⟨ret_int (by rw [e]), rfl⟩

theorem four_str (x : BitVec 32) : strOfNums [(x.toNat : Int) / 16777216, (x.toNat : Int) / 65536 % 256, (x.toNat : Int) / 256 % 256, (x.toNat : Int) % 256] = ⟨(Crc.fourOf x).toArray⟩ := by
  have hX := x.isLt
  have e : ∀ n : Nat, UInt8.ofNat (n % 256) = UInt8.ofNat n := fun n => by
    apply UInt8.toNat_inj.mp; simp
  have h2 : ((x.toNat : Int) / 65536 % 256).toNat = x.toNat / 65536 % 256 := by omega
  have h1 : ((x.toNat : Int) / 256 % 256).toNat = x.toNat / 256 % 256 := by omega
  have h0 : ((x.toNat : Int) % 256).toNat = x.toNat % 256 := by omega
  have h3 : ((x.toNat : Int) / 16777216).toNat = x.toNat / 16777216 := by omega
  simp only [strOfNums, List.map, Crc.fourOf, h0, h1, h2, h3, e]

set_option maxHeartbeats 400000 in
theorem four_any (x : BitVec 32) (w : World) :
    Calls Try.prog 53 #[.int .u32 (x.toNat : Int)] w fun e w' => e = .returned (.string ⟨(Crc.fourOf x).toArray⟩) ∧ Below w.heap.size w w' := by
  have hX := x.isLt
  have HF := Lib.hid (four_str x)
  have hcv := run_convert_bytes_arg (P := Try.prog) (w.alloc (Obj.cells #[Value.int IntKind.u8 ((x.toNat : Int) / 16777216), Value.int IntKind.u8 ((x.toNat : Int) / 65536 % 256), Value.int IntKind.u8 ((x.toNat : Int) / 256 % 256), Value.int IntKind.u8 ((x.toNat : Int) % 256)] 5)) 109 5 Try.underlying109 Try.underlying5 w.heap.size 0 4 4
    [(x.toNat : Int) / 16777216, (x.toNat : Int) / 65536 % 256, (x.toNat : Int) / 256 % 256, (x.toNat : Int) % 256] rfl (fun i hi => by
      match i, hi with
      | 0, _ => rw [Nat.zero_add, World.cell?_alloc_mark]; rfl
      | 1, _ => rw [Nat.zero_add, World.cell?_alloc_mark]; rfl
      | 2, _ => rw [Nat.zero_add, World.cell?_alloc_mark]; rfl
      | 3, _ => rw [Nat.zero_add, World.cell?_alloc_mark]; rfl) 9 Try.underlying9
  rw [HF.out] at hcv
  clear HF
  go_enter Try.func53, Try.ntmps53
  go_wp2
  go_ret
  exact ⟨rfl, (Below.refl _ _).alloc (Nat.le_refl _) _⟩

end Go.Proofs.Ytnnjcgamhkmljaa
