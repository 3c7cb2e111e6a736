/-
  Root on a new disk: plain mathematics, and the law's small closure.
-/
import Derived.Test.YtojbanknbgihgaaDoorRootOp
namespace Go.Proofs.YtojbanknbgihgaaDoor
open Go.RowKit
namespace Rt
open B Dsk

theorem zero_list : zero.data.toList = List.replicate 256 0 := by
  unfold zero
  rw [fill_data]; rfl
theorem zero_part (a n : Nat) (h : a + n ≤ 256) : part zero a n = List.replicate n 0 := by
  unfold part
  rw [zero_list, List.drop_replicate, List.take_replicate]
  congr 1; omega
theorem parse_zero : parse zero = none := parse_none (fun h => h.1 (by show num (part zero 0 8) = 0; rw [zero_part _ _ (by omega)]; decide))
theorem first_zero : firstR zero = (R0, -1) := by unfold firstR; rw [parse_zero]
theorem newR_zero : newR zero zero = (R0, -1) := by unfold newR; rw [parse_zero]; exact first_zero
theorem spare_zero : spare zero zero = 0 := by unfold spare; rw [newR_zero]; rfl
theorem lastE_zero : lastE zero zero = 0 := by
  unfold lastE lastOf
  rw [zero_part _ _ (by omega), zero_part _ _ (by omega)]
  decide
/-- behind the first root -/
theorem newR_one {x : R} (hm : may x) (he : x.ep = 1) : newR (txt x) zero = (x, 0) := by
  unfold newR firstR
  rw [parse_zero, parse_txt hm (by omega) (by omega)]
theorem spare_one {x : R} (hm : may x) (he : x.ep = 1) : spare (txt x) zero = 1 := by unfold spare; rw [newR_one hm he]; rfl
theorem lastE_one {x : R} (he : x.ep = 1) : lastE (txt x) zero = 1 := by
  obtain ⟨p1, _, _, _, _, _, p7⟩ := part_txt x
  unfold lastE lastOf
  rw [p1, p7, num_ep (by omega), he, zero_part _ _ (by omega), zero_part _ _ (by omega)]
  decide
/-- flushed, written, flushed -/
def pubF (d : D) (dst : Int) (t : ByteArray) : D × Int := if (flush d).2 = 0 then (if (write (flush d).1 dst t).2 = 0 then flush (write (flush d).1 dst t).1 else write (flush d).1 dst t) else flush d
theorem flush_new2 : flush (new 2) = (⟨[zero, zero], [zero, zero], [], 1, -1, false⟩, 0) := rfl
theorem write_new2 (t : ByteArray) (ht : t.size = 256) : write ⟨[zero, zero], [zero, zero], [], 1, -1, false⟩ 0 t = (⟨[t, zero], [zero, zero], [0], 2, -1, false⟩, 0) := by
  have e : fill t = t := fill_full (by omega)
  unfold write
  rw [if_neg (by decide), if_neg (by simp), if_neg (by omega)]
  simp [turn, withR, e]
theorem pub_new2 (x : R) : pubF (new 2) 0 (txt x) = (⟨[txt x, zero], [txt x, zero], [], 3, -1, false⟩, 0) := by
  unfold pubF
  rw [flush_new2, if_pos rfl]
  simp only
  rw [write_new2 _ (txt_size x), if_pos rfl]
  rfl
theorem flush_halted (a b : ByteArray) : flush (halt ⟨[a, b], [a, b], [], 3, -1, false⟩ 0) = (⟨[a, b], [a, b], [], 3, 0, true⟩, 6) := rfl
theorem pub_halted (a b : ByteArray) (dst : Int) (t : ByteArray) : pubF (halt ⟨[a, b], [a, b], [], 3, -1, false⟩ 0) dst t = (⟨[a, b], [a, b], [], 3, 0, true⟩, 6) := by
  unfold pubF
  rw [flush_halted, if_neg (show ¬ (6 : Int) = 0 by decide)]

set_option maxHeartbeats 400000 in
theorem cnt_any (n : Int) (w : World) : Calls Tryd.prog 8 #[.int .i64 n] w fun e w' => e = .returned (.bool (decide (0 ≤ n ∧ n ≤ 2147483647))) ∧ w = w' := by
  by_cases h0 : 0 ≤ n
  · by_cases h1 : n ≤ 2147483647
    · have HD : Hid (decide (0 ≤ n ∧ n ≤ 2147483647) = true) := decide_eq_true ⟨h0, h1⟩
      go_enter Tryd.func8, Tryd.ntmps8
      go_wp2
      go_ret
      first | exact ⟨B.ret_bool HD.out.symm, rfl⟩ | exact ⟨rfl, rfl⟩
    · have HD : Hid (decide (0 ≤ n ∧ n ≤ 2147483647) = false) := decide_eq_false (fun h => h1 h.2)
      have h2 : decide (n ≤ 2147483647) = false := decide_eq_false h1
      have h3 : 2147483647 < n := by omega
      go_enter Tryd.func8, Tryd.ntmps8
      go_wp2
      go_ret
      first | exact ⟨B.ret_bool HD.out.symm, rfl⟩ | exact ⟨rfl, rfl⟩
  · have HD : Hid (decide (0 ≤ n ∧ n ≤ 2147483647) = false) := decide_eq_false (fun h => h0 h.1)
    have h2 : decide (0 ≤ n) = false := decide_eq_false h0
    have h3 : n < 0 := by omega
    go_enter Tryd.func8, Tryd.ntmps8
    go_wp2
    go_ret
    first | exact ⟨B.ret_bool HD.out.symm, rfl⟩ | exact ⟨rfl, rfl⟩
end Rt
end Go.Proofs.YtojbanknbgihgaaDoor
