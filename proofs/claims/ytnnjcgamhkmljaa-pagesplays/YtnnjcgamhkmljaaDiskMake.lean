/-
  The program's disk: a new one (slices.Repeat, New).
-/
import Derived.Test.YtnnjcgamhkmljaaDiskDo
import Derived.Test.YtnnjcgamhkmljaaDiskFill
import Derived.Test.YtnnjcgamhkmljaaShelf
import Derived.Deep.RegionLaw
import Derived.Laws.CopyOwn
import Derived.Laws.OwnMore
namespace Go.Proofs.Ytnnjcgamhkmljaa
open Go.RowKit
namespace Dsk
open B

/-- k of n are laid -/
def laid (z : ByteArray) (k n : Nat) : List Value := List.replicate k (.string z) ++ List.replicate (n - k) (.string ⟨#[]⟩)
theorem laid_length (z : ByteArray) {k n : Nat} (_h : k ≤ n) : (laid z k n).length = n := by simp [laid]; omega
theorem laid_get (z : ByteArray) {k n j : Nat} (h : j < k) : (laid z k n)[j]? = some (.string z) := by
  unfold laid; rw [List.getElem?_append_left (by simpa using h), List.getElem?_replicate, if_pos h]
theorem laid_step (z : ByteArray) {k n m : Nat} (_h : k + m ≤ n) : splice (laid z k n) k (List.replicate m (.string z)) = laid z (k + m) n := by
  unfold splice laid
  have h1 : (List.replicate k (Value.string z) ++ List.replicate (n - k) (Value.string ⟨#[]⟩)).take k = List.replicate k (.string z) := by rw [List.take_append_of_le_length (by simp)]; simp
  have h2 : (List.replicate k (Value.string z) ++ List.replicate (n - k) (Value.string ⟨#[]⟩)).drop (k + (List.replicate m (Value.string z)).length) = List.replicate (n - (k + m)) (Value.string ⟨#[]⟩) := by
    rw [List.length_replicate, ← List.drop_drop, List.drop_append_of_le_length (by simp), List.drop_replicate, Nat.sub_self, List.replicate_zero, List.nil_append, List.drop_replicate, Nat.sub_sub]
  rw [h1, h2, ← List.append_assoc, List.replicate_append_replicate]
theorem one_rep (z : ByteArray) (m : Nat) : ∀ v ∈ List.replicate m (Value.string z), v.oneCell' = true := by
  intro v hv; obtain rfl := List.eq_of_mem_replicate hv; rfl

theorem own_exact {w : World} {g n : Nat} {z : ByteArray} (h : w.ownsRow g 9 1 (.slice (some ⟨g, 0, none⟩) n n) n (madeCells (Value.string ⟨#[]⟩).cells (n * 1)).toList) : w.heap[g]? = some (.cells (laid z 0 n).toArray 9) := by
  rcases h.2 with ⟨h1, _⟩ | ⟨g', cap, cur, hv, _, hg, _, _, hs, ht⟩
  · cases h1
  · injection hv with h1 h2 h3
    injection h1 with h1; injection h1 with h1 _
    subst h1; subst h3
    have e : (madeCells (Value.string ⟨#[]⟩).cells (n * 1)).toList = List.replicate (n * 1) (.string ⟨#[]⟩) := toList_madeCells_one _ _
    rw [e, List.take_of_length_le (by rw [Array.length_toList, hs]; exact Nat.le_refl _)] at ht
    rw [hg]
    have : cur = (laid z 0 n).toArray := by
      apply Array.toList_inj.mp
      rw [ht]; simp [laid]
    rw [this]
theorem info9s : (Try.prog.info? 9).map (·.size) = some 1 := by kernel_rfl
theorem one_min {n : Nat} (hn : 1 ≤ n) (z : Value) : [z].length = Nat.min 1 n := (Nat.min_eq_left hn).symm
theorem copy_one {w w1 : World} {q g : Nat} {z : Value} (hb : Below w.heap.size w w1) (hq : q < w.heap.size) (hc : w.cell? ⟨q, 0, none⟩ = some z) :
    0 < [z].length → (some (⟨g, 0, none⟩ : Addr)) = some ⟨g, 0, none⟩ ∧ ∃ ad, some (⟨q, 0, none⟩ : Addr) = some ad ∧ ∀ j v, [z][j]? = some v → w1.cell? (ad.add j) = some v := by
  intro _
  refine ⟨rfl, _, rfl, fun j v hj => ?_⟩
  match j, hj with
  | 0, hj => rw [add_plain0, hb.cell hq, hc]; exact hj
theorem rep_copy {w : World} {g k n : Nat} {z : ByteArray} {ty : TypeId} (hk : k ≤ n) (hg : w.heap[g]? = some (.cells (laid z k n).toArray 9)) :
    (Builtin.copy_ #[55, 55] ty #[.slice (some ⟨g, k, none⟩) (n - k) (n - k), .slice (some ⟨g, 0, none⟩) k n]).run Try.prog w = .ok (.int .i64 ((Nat.min k (n - k) : Nat) : Int)) (w.setRow g (laid z (k + Nat.min k (n - k)) n).toArray) := by
  have hm : (List.replicate (Nat.min k (n - k)) (Value.string z)).length = Nat.min k (n - k) := List.length_replicate
  have hm2 : Nat.min k (n - k) ≤ n - k := Nat.min_le_right _ _
  have hm4 : Nat.min k (n - k) ≤ k := Nat.min_le_left _ _
  have h := run_copy_row (P := Try.prog) w 55 55 ty 9 g k (n - k) (n - k) ⟨g, 0, none⟩ k n (laid z k n).toArray 9 (List.replicate (Nat.min k (n - k)) (.string z)) Try.underlying55 info9s hg hm
    (fun j v hj => by
      rw [List.getElem?_replicate] at hj
      split at hj
      · rename_i h
        rw [add_plain0, row_cell hg, laid_get z (by omega)]; exact hj
      · cases hj) (by rw [hm]; simp [laid_length z hk]; omega) (one_rep z _)
  rw [h, hm]
  have e := laid_step z (k := k) (m := Nat.min k (n - k)) (n := n) (by omega)
  unfold splice at e
  rw [hm] at e
  rw [← e, List.append_assoc]; rfl
theorem mul1 (n : Nat) (w : World) (hn : n ≤ 65536) : Calls Try.prog 48 #[.int .u64 1, .int .u64 (n : Int)] w fun e w' => e = .returned (.tuple #[.int .u64 0, .int .u64 (n : Int)]) ∧ w = w' := by
  have h := Try.bits_Mul 1 n (by omega) (by omega) w
  have e1 : 1 * n / 18446744073709551616 = 0 := Nat.div_eq_of_lt (by omega)
  have e2 : 1 * n % 18446744073709551616 = n := by rw [Nat.one_mul]; exact Nat.mod_eq_of_lt (by omega)
  rw [e1, e2] at h
  exact h.mono fun e w' ⟨h1, h2⟩ => ⟨h1, h2.symm⟩
set_option maxRecDepth 100000 in
set_option maxHeartbeats 4000000 in
theorem repeat_any (z : ByteArray) (n q : Nat) (w : World) (hn : 1 ≤ n) (hn2 : n ≤ 65536) (hc : w.cell? ⟨q, 0, none⟩ = some (.string z)) (hq : q < w.heap.size) :
    Calls Try.prog 32 #[.slice (some ⟨q, 0, none⟩) 1 1, .int .i64 (n : Int)] w fun e w' => e = .returned (.slice (some ⟨w.heap.size, 0, none⟩) n n) ∧ w'.heap[w.heap.size]? = some (.cells (laid z n n).toArray 9) ∧ Below w.heap.size w w' := by
  obtain ⟨i0, hi, hz0, hz1, hz2⟩ := info_parts info9
  have cM := Lib.hid (mul1 n w (by omega))
  have h5 : ¬ ((n : Int) < 0) := by omega
  have hb2 : i0.bytes * n ≤ 281474976710656 := by rw [hz2]; omega
  have hb3 : n ≤ maxLen := by unfold maxLen; omega
  have k1 : IntKind.u64.wrap (n : Int) = (n : Int) := by have := IntWalk.u64_in (n : Int) (by omega); exact this
  have k2 : IntKind.i64.wrap (n : Int) = (n : Int) := IntWalk.i64_in (n : Int) (by omega)
  have HC := Lib.hid hc
  clear hc
  go_enter Try.func32, Try.ntmps32
  go_wp2_with (first
    | (go_at_call 48; ((with_reducible refine cM.out.mono ?_); rintro e w' ⟨rfl, rfl⟩))
    | (at_make; refine wpList_make_full _ rfl _ _ 55 rfl w.heap.size 9 i0 _ 1 Try.underlying55 hi hz0 hz1 .i64 .i64 _ _ n rfl rfl (by omega) (by omega) hb2 hb3 (Nat.le_refl _) ?_; intro w1 own1 g1; have K1 := Lib.hid (own_exact (z := z) own1); have B1 : Hid (Below w.heap.size w w1) := (Below.refl _ _).grown g1 (Nat.le_refl _) (fun k hk => by cases hk); clear own1 g1; have hcp := fun ty => run_copy_row (P := Try.prog) w1 55 55 ty 9 w.heap.size 0 n n ⟨q, 0, none⟩ 1 1 (laid z 0 n).toArray 9 [.string z] Try.underlying55 info9s K1.out (one_min hn _) ((copy_one (g := q) B1.out hq HC.out (by simp)).2.elim fun ad h => by have := h.1; injection this with this; subst this; exact h.2) (by simp [laid_length]; omega) (one_rep z 1)))
  have K2 := Lib.hid (setRow_heap w1 w.heap.size _ (.string z :: (laid z 0 n).tail).toArray 9 (0, 0) K1.out)
  have B2 := Lib.hid (below_setRow B1.out (Nat.le_refl _) (.string z :: (laid z 0 n).tail).toArray)
  have e1 : Value.string z :: (laid z 0 n).tail = laid z 1 n := by have := laid_step z (k := 0) (m := 1) (n := n) (by omega); simpa [splice] using this
  rw [e1] at K2 B2
  have E1 := Lib.hid e1
  clear e1 hcp
  go_loopw [8] (fun t wr => ∃ k : Nat, 1 ≤ k ∧ k ≤ n ∧ t = .int .i64 (k : Int) ∧ wr.heap[w.heap.size]? = some (.cells (laid z k n).toArray 9) ∧ Below w.heap.size w wr) (fun t _ => n - (RowKit.intOf t).toNat)
  case atStart => exact ⟨1, Nat.le_refl _, hn, rfl, by rw [E1.out]; exact K2.out, by rw [E1.out]; exact B2.out⟩
  case round =>
    obtain ⟨k, hk1, hk2, rfl, hK, hB⟩ := hrel
    have HK := Lib.hid hK
    have HB := Lib.hid hB
    clear hK hB K2 B2 K1 B1 E1
    by_cases hlt : k < n
    · have hk3 : (k : Int) < (n : Int) := by omega
      have hnk : ¬ n = k := by omega
      have hm1 : 1 ≤ Nat.min k (n - k) := Nat.le_min.2 ⟨hk1, by omega⟩
      have hm2 : Nat.min k (n - k) ≤ n - k := Nat.min_le_right _ _
      have hcp := fun ty => rep_copy (w := wr.drew) (ty := ty) hk2 HK.out
      generalize Nat.min k (n - k) = m at *
      have e2 : IntKind.i64.wrap ((k : Int) + (m : Int)) = (k : Int) + (m : Int) := IntWalk.i64_in _ (by omega)
      go_wp2
      go_region
      go_wp2
      go_roundw
      case rel => exact ⟨k + m, by omega, by omega, by go_num, setRow_heap wr.drew w.heap.size _ _ 9 (0, 0) HK.out, below_setRow HB.out.drew (Nat.le_refl _) _⟩
      case measure => simp [RowKit.intOf]; omega
    · have hk : k = n := by omega
      subst hk
      go_wp2
      go_ret
      exact ⟨rfl, HK.out, HB.out⟩
end Dsk
end Go.Proofs.Ytnnjcgamhkmljaa
