/-
  Blobs (layer 8): there and back, plain mathematics.
-/
import Derived.Test.YtgilmcmanomkiaaBlobRd
namespace Go.Proofs.Ytgilmcmanomkiaa
open Go.RowKit
namespace Bb
open B Dsk Pg
def xsOf (a : Nat) (s : ByteArray) (c : Nat) : Nat → List (Int × ByteArray)
  | 0 => [((a : Int), bpart s (c - 1))]
  | j + 1 => (((a + (j + 1) : Nat) : Int), bpart s (c - 1 - (j + 1))) :: xsOf a s c j
theorem bsays_page {a : Nat} {s : ByteArray} {c j : Nat} (h : a + j < 2097152) : bsays (a + j) (bpage a s c j) = some ((if j = 0 then (-1 : Int) else ((a + j - 1 : Nat) : Int)), bpart s (c - 1 - j)) := by
  have hh : Var.hd 0 0 (bpay (if j = 0 then 0 else a + j) (bpart s (c - 1 - j))).data.toList = (if j = 0 then 0 else a + j, (Var.num (if j = 0 then 0 else a + j)).length, 0) := by
    unfold bpay
    rw [cat_data]
    show Var.hd 0 0 (Var.num _ ++ _) = _
    exact Var.hd_back _ (by split <;> omega) _
  unfold bsays bpage
  simp only
  rw [hh]
  simp only
  rw [if_pos ⟨trivial, trivial, by split <;> omega⟩]
  have he : (bpay (if j = 0 then 0 else a + j) (bpart s (c - 1 - j))).extract (Var.num (if j = 0 then 0 else a + j)).length (bpay (if j = 0 then 0 else a + j) (bpart s (c - 1 - j))).size = bpart s (c - 1 - j) := by
    apply ext_data
    rw [drop_data]
    unfold bpay
    rw [cat_data]
    show (Var.num _ ++ _).drop _ = _
    rw [List.drop_left]
  rw [he]
  congr 2
  split <;> omega
theorem look_page {L : List Pag} {a : Nat} {s : ByteArray} {c j : Nat} (hL0 : L[a + j]? = some (bpage a s c j)) (h : a + j < 2097152) : blook L ((a + j : Nat) : Int) = (if j = 0 then (-1 : Int) else ((a + j - 1 : Nat) : Int), bpart s (c - 1 - j), 0) := by
  obtain ⟨hj, hL⟩ := List.getElem?_eq_some_iff.mp hL0
  unfold blook
  rw [dif_pos ⟨by omega, by rw [Int.toNat_natCast]; exact hj⟩]
  simp only [Int.toNat_natCast]
  rw [hL, bsays_page h]
theorem walk_back {L : List Pag} {a : Nat} {s : ByteArray} {c : Nat} (hL : ∀ j, j < c → L[a + j]? = some (bpage a s c j)) (hs : a + c ≤ 100000) : ∀ j k, j < c → j + 1 ≤ k → bwalk L k ((a + j : Nat) : Int) = (xsOf a s c j, 0)
  | 0, k, hj, hk => by
    obtain ⟨k, rfl⟩ : ∃ k', k = k' + 1 := ⟨k - 1, by omega⟩
    have hp := look_page (s := s) (hL 0 hj) (by omega)
    rw [if_pos rfl] at hp
    rw [bwalk, hp, if_neg (show ¬ (0 : Int) ≠ 0 by decide), if_pos rfl]
    rfl
  | j + 1, k, hj, hk => by
    obtain ⟨k, rfl⟩ : ∃ k', k = k' + 1 := ⟨k - 1, by omega⟩
    have hp := look_page (s := s) (hL (j + 1) hj) (by omega)
    rw [if_neg (by omega), show a + (j + 1) - 1 = a + j by omega] at hp
    rw [bwalk, hp, if_neg (show ¬ (0 : Int) ≠ 0 by decide), if_neg (by omega), walk_back hL hs j k (by omega) (by omega)]
    rfl
theorem xs_bytes {a : Nat} {s : ByteArray} {c : Nat} (hc : s.size ≤ c * 235) (h2 : ∀ i, i < c → i * 235 ≤ s.size) : ∀ j, j < c → bytesOf (xsOf a s c j) = s.data.toList.drop ((c - 1 - j) * 235)
  | 0, hj => by
    show (bpart s (c - 1)).data.toList ++ [] = _
    rw [List.append_nil]
    unfold bpart
    rw [show min ((c - 1 + 1) * 235) s.size = s.size by rw [show c - 1 + 1 = c by omega]; omega, drop_data]
    rfl
  | j + 1, hj => by
    show (bpart s (c - 1 - (j + 1))).data.toList ++ bytesOf (xsOf a s c j) = _
    rw [xs_bytes hc h2 j (by omega)]
    have h3 := h2 (c - 1 - j) (by omega)
    obtain ⟨i, hi⟩ : ∃ i, c - 1 - (j + 1) = i := ⟨_, rfl⟩
    have hi1 : c - 1 - j = i + 1 := by omega
    rw [hi1] at h3
    rw [hi, hi1]
    unfold bpart
    rw [show min ((i + 1) * 235) s.size = (i + 1) * 235 by omega, ByteArray.data_extract, Array.toList_extract]
    simp only [List.extract]
    rw [show (i + 1) * 235 - i * 235 = 235 by omega, show (i + 1) * 235 = i * 235 + 235 by omega, ← List.drop_drop, List.take_append_drop]
theorem at_pages (l m : List Pag) (s : ByteArray) (c : Nat) : ∀ j, j < c → (l ++ bpages l.length s c c ++ m)[l.length + j]? = some (bpage l.length s c j) := by
  intro j hj
  rw [List.append_assoc, List.getElem?_append_right (by omega), show l.length + j - l.length = j by omega, List.getElem?_append_left (by rw [bpages_len]; exact hj)]
  unfold bpages
  rw [List.getElem?_map, List.getElem?_range hj]
  rfl
theorem cost_parts (n : Nat) : ∀ i, i < cost n → i * 235 ≤ n := by
  intro i hi
  rcases Nat.eq_zero_or_pos n with h0 | h0
  · have : cost n = 1 := by unfold cost; rw [if_pos h0]
    omega
  · have h1 := cost_last h0
    have : i * 235 ≤ (cost n - 1) * 235 := Nat.mul_le_mul_right _ (by omega)
    omega
/-- a text that stands there is read back, whatever stands beside it -/
theorem read_back {L : List Pag} {a : Nat} {s : ByteArray} (hs : s.size ≤ 65536) (hL : ∀ j, j < cost s.size → L[a + j]? = some (bpage a s (cost s.size) j)) (h2 : a + cost s.size ≤ 100000) : bread L ((a + cost s.size - 1 : Nat) : Int) = (s, 0) := by
  have hp := cost_pos s.size
  have hc := cost_le hs
  have hw := walk_back hL h2 (cost s.size - 1) 279 (by omega) (by omega)
  rw [show a + (cost s.size - 1) = a + cost s.size - 1 by omega] at hw
  unfold bread
  rw [hw, if_pos rfl]
  have hb := xs_bytes (a := a) (cost_cover s.size) (cost_parts s.size) (cost s.size - 1) (by omega)
  rw [show cost s.size - 1 - (cost s.size - 1) = 0 by omega, Nat.zero_mul, List.drop_zero] at hb
  simp only
  rw [hb]
end Bb
end Go.Proofs.Ytgilmcmanomkiaa
