/-
  What the small functions of package root do.
-/
import Derived.Test.YtojbanknbgihgaaDoorRootMath
import Derived.Test.YtojbanknbgihgaaDoorCrcWalks
import Derived.Test.YtojbanknbgihgaaDoorShelf
import Derived.StillTailTactics
import Derived.Deep.RegionHeld3
import Derived.Deep.CutBlock
import Derived.Laws.Tables
namespace Go.Proofs.YtojbanknbgihgaaDoor
open Go.RowKit
namespace Rt
open B Dsk

theorem num_take (l : List UInt8) (k : Nat) (h : k < l.length) : num (l.take (k + 1)) = (num (l.take k) * 256 + l[k].toNat) % 18446744073709551616 := by
  unfold num
  rw [List.take_succ_eq_append_getElem h, List.foldl_append]; rfl
theorem num_lt (l : List UInt8) : num l < 18446744073709551616 := by
  cases h : l.reverse with
  | nil =>
    have : l = [] := by simpa using h
    subst this; decide
  | cons b r =>
    have : l = r.reverse ++ [b] := by rw [← List.reverse_reverse l, h]; simp
    rw [this]
    unfold num
    rw [List.foldl_append]
    exact Nat.mod_lt _ (by omega)

theorem wrap_nat (n : Nat) : IntKind.u64.wrap (n : Int) = ((n % 18446744073709551616 : Nat) : Int) := by
  show (n : Int) % 18446744073709551616 = _
  omega
theorem or8 (x : Nat) (b : UInt8) : bits .or .u64 (IntKind.u64.wrap ((x : Int) * 256)) (IntKind.u64.wrap (b.toNat : Int)) = (((x * 256 + b.toNat) % 18446744073709551616 : Nat) : Int) := by
  have hb := b.toNat_lt
  have e1 : IntKind.u64.wrap ((x : Int) * 256) = ((x * 256 % 18446744073709551616 : Nat) : Int) := by rw [show ((x : Int) * 256) = ((x * 256 : Nat) : Int) by omega, wrap_nat]
  have e2 : IntKind.u64.wrap (b.toNat : Int) = (b.toNat : Int) := by rw [wrap_nat]; omega
  rw [e1, e2]
  show IntKind.u64.wrap ((BitVec.ofInt 64 _ ||| BitVec.ofInt 64 _).toNat : Int) = _
  rw [BitVec.toNat_or, BitVec.toNat_ofInt, BitVec.toNat_ofInt]
  have e3 : (((x * 256 % 18446744073709551616 : Nat) : Int) % ((2 ^ 64 : Nat) : Int)).toNat = 2 ^ 8 * (x % 72057594037927936) := by omega
  have e4 : ((b.toNat : Int) % ((2 ^ 64 : Nat) : Int)).toNat = b.toNat := by omega
  rw [e3, e4, ← Nat.two_pow_add_eq_or_of_lt (by omega), wrap_nat]
  omega

set_option maxRecDepth 100000 in
set_option maxHeartbeats 1000000 in
theorem number_any (s : ByteArray) (w : World) (hs : s.size ≤ 1000) :
    Calls Tryd.prog 35 #[.string s] w fun e w' => e = .returned (.int .u64 (num s.data.toList : Int)) ∧ w = w' := by
  go_enter Tryd.func35, Tryd.ntmps35
  go_wp2
  go_loop [3, 7] (fun t3 t7 => ∃ k : Nat, k ≤ s.size ∧ t7 = .int .i64 (k : Int) ∧ t3 = .int .u64 (num (s.data.toList.take k) : Int)) (fun _ t7 => s.size - (intOf t7).toNat)
  case atStart => exact ⟨0, Nat.zero_le _, rfl, rfl⟩
  case round =>
    obtain ⟨k, hk, rfl, rfl⟩ := hrel
    by_cases hlt : k < s.size
    · have hl : k < s.data.toList.length := by rw [size_data]; exact hlt
      have HE := Lib.hid (num_take s.data.toList k hl)
      have HB : Hid (s.data.toList[k] = s[k]) := by simp; rfl
      have hx := num_lt (s.data.toList.take k)
      have H8 := Lib.hid (or8 (num (s.data.toList.take k)) s[k])
      generalize num (s.data.toList.take k) = x at *
      generalize hb : s[k] = b at *
      go_wp2
      refine ⟨⟨k + 1, by omega, by go_num, ?_⟩, by simp [intOf]; omega⟩
      rw [HE.out, HB.out, H8.out]
    · have hk' : k = s.size := by omega
      have HK : Hid (s.data.toList.take k = s.data.toList) := List.take_of_length_le (by rw [size_data]; omega)
      clear hk'
      go_wp2
      go_ret
      exact ⟨B.ret_int (congrArg (fun l => (num l : Int)) HK.out), rfl⟩
end Rt
end Go.Proofs.YtojbanknbgihgaaDoor
