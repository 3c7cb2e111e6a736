/-
  Blobs (layer 8): the statements' Long.
-/
import Derived.Test.YtgilmcmanomkiaaBlobAw
import Derived.Test.YtgilmcmanomkiaaPagesSec
namespace Go.Proofs.Ytgilmcmanomkiaa
open Go.RowKit
namespace Bb
open B Dsk Pg
def longAt (s : ByteArray) (i : Nat) : UInt8 := if h : i < s.size then s[i] else UInt8.ofNat (i / 235)
def partL (s : ByteArray) (n k : Nat) : List UInt8 := (List.range n).map fun i => if i < k then longAt s i else 0
def longB (s : ByteArray) (n : Nat) : ByteArray := ⟨(partL s n n).toArray⟩
theorem partL_len (s : ByteArray) (n k : Nat) : (partL s n k).length = n := by simp [partL]
theorem longB_size (s : ByteArray) (n : Nat) : (longB s n).size = n := by unfold longB; rw [mk_size, partL_len]
theorem partL_set (s : ByteArray) {n k : Nat} (h : k < n) : (partL s n k).set k (longAt s k) = partL s n (k + 1) := by
  apply List.ext_getElem?
  intro i
  rw [List.getElem?_set, partL_len]
  unfold partL
  rw [List.getElem?_map, List.getElem?_map]
  by_cases e : k = i
  · subst e
    rw [if_pos rfl, if_pos h, List.getElem?_range h]
    simp
  · rw [if_neg e]
    by_cases hi : i < n
    · rw [List.getElem?_range hi]
      simp only [Option.map_some]
      congr 1
      by_cases h2 : i < k
      · rw [if_pos h2, if_pos (by omega)]
      · rw [if_neg h2, if_neg (by omega)]
    · rw [List.getElem?_eq_none (by simp; omega)]
      rfl
theorem info_u8 : (Try.prog.info? 5).map (fun i => (i.zero, i.size, i.bytes)) = some (some (.int .u8 0), 1, 1) := by kernel_rfl
theorem bytes_made {w : World} {B g n : Nat} (s : ByteArray) (h : w.ownsRow B 5 1 (.slice (some ⟨g, 0, none⟩) n n) n (madeCells (Value.int .u8 0).cells (n * 1)).toList) : BytesAt w g (partL s n 0) := by
  intro j hj
  rw [partL_len] at hj
  have hz : (partL s n 0)[j]'(by rw [partL_len]; exact hj) = 0 := by unfold partL; simp
  rw [hz]
  rcases h.2 with ⟨he, _⟩ | ⟨g', cap, cur, he, _, hgg, _⟩
  · cases he
  · injection he with e1 _ _
    injection e1 with e1
    injection e1 with e1 _ _
    subst e1
    have hc := h.cells (g := g) rfl j (.int .u8 0) (by
      have e : (madeCells (Value.int .u8 0).cells (n * 1)).toList = List.replicate (n * 1) (.int .u8 0) := toList_madeCells_one _ _
      rw [e, List.getElem?_replicate, if_pos (by omega)])
    rw [add_plain0] at hc
    refine ⟨hc, ?_⟩
    unfold World.frozen?
    rw [hgg]
    simp
theorem bytes_string {w : World} {g c : Nat} {l : List UInt8} (h : BytesAt w g l) : (convert 56 9 (.slice (some ⟨g, 0, none⟩) l.length c)).run Try.prog w = .ok (.string ⟨l.toArray⟩) w :=
  run_convert_bytes_back (P := Try.prog) w 56 9 5 ⟨g, 0, none⟩ c l Try.underlying56 Try.underlying5 Try.underlying9 (fun i hi => by rw [add_plain0]; exact (h i hi).1)
theorem long_lt {s : ByteArray} {k : Nat} (h : k < s.size) : longAt s k = s[k] := by unfold longAt; rw [dif_pos h]
theorem long_ge {s : ByteArray} {k : Nat} (h : ¬ k < s.size) : longAt s k = UInt8.ofNat (k / 235) := by unfold longAt; rw [dif_neg h]
set_option maxRecDepth 100000 in
set_option maxHeartbeats 4000000 in
theorem long_any (s : ByteArray) (n : Nat) (i : Int) (w : World) (hi : max 0 (min i 131072) = (n : Int)) :
    Calls Try.prog 35 #[.string s, .int .i64 i] w fun e w' => e = .returned (.string (longB s n)) ∧ Below w.heap.size w w' := by
  obtain ⟨i0, hi0, hz0, hz1, hz2⟩ := info_parts info_u8
  have hn : n ≤ 131072 := by omega
  have hb2 : i0.bytes * n ≤ 281474976710656 := by rw [hz2]; omega
  have hb3 : n ≤ maxLen := by unfold maxLen; omega
  have HB : Hid (longB s n = ⟨(partL s n n).toArray⟩) := rfl
  go_enter Try.func35, Try.ntmps35
  go_wp2_with (at_make; refine wpList_make_full _ rfl _ _ 56 rfl w.heap.size 5 i0 _ 1 Try.underlying56 hi0 hz0 hz1 .i64 .i64 _ _ n rfl rfl (by omega) (by omega) hb2 hb3 (Nat.le_refl _) ?_; intro w1 own1 g1; have Y1 := Lib.hid (bytes_made s own1); have B1 : Hid (Below w.heap.size w w1) := (Below.refl _ _).grown g1 (Nat.le_refl _) (fun k hk => by cases hk); clear own1 g1)
  go_loopw [14] (fun t14 wr => ∃ k : Nat, k ≤ n ∧ t14 = .int .i64 (k : Int) ∧ BytesAt wr w.heap.size (partL s n k) ∧ Below w.heap.size w wr) (fun t14 _ => n - (intOf t14).toNat)
  case atStart => exact ⟨0, Nat.zero_le _, rfl, Y1.out, B1.out⟩
  case round =>
    obtain ⟨k, hk, rfl, hy, hb⟩ := hrel
    have YY := Lib.hid hy
    have BB := Lib.hid hb
    clear hy hb
    by_cases hlt : k < n
    · have hlI : (k : Int) < (n : Int) := by omega
      have hkl : k < (partL s n k).length := by rw [partL_len]; exact hlt
      obtain ⟨y0, y1⟩ := YY.out k hkl
      have hst := partL_set s hlt
      obtain ⟨bb, hbb⟩ : ∃ bb : UInt8, UInt8.ofNat (k / 235) = bb := ⟨_, rfl⟩
      have hbi : IntKind.u8.wrap ((k : Int) / 235) = (bb.toNat : Int) := by
        rw [← hbb, UInt8.toNat_ofNat']
        show ((k : Int) / 235) % 256 = _
        omega
      have hbi2 : (k : Int) / 235 % 256 = (bb.toNat : Int) := hbi
      by_cases hks : k < s.size
      · rw [long_lt hks] at hst
        have hsI : (k : Int) < (s.size : Int) := by omega
        have Y2 := YY.out.set k bb hkl
        obtain ⟨z0, z1⟩ := Y2 k (by rw [List.length_set]; exact hkl)
        have Y3 := Y2.set k s[k] (by rw [List.length_set]; exact hkl)
        rw [List.set_set, hst] at Y3
        have YH := Lib.hid Y3
        clear Y2 Y3 hst hbb
        go_wp2
        go_roundw
        case rel => exact ⟨k + 1, by omega, by go_num, YH.out, (BB.out.setCell (p := ⟨w.heap.size, k, none⟩) (Nat.le_refl _) _).setCell (p := ⟨w.heap.size, k, none⟩) (Nat.le_refl _) _⟩
        case measure => simp [intOf]; omega
      · rw [long_ge hks, hbb] at hst
        have hsI : ¬ (k : Int) < (s.size : Int) := by omega
        have Y2 := YY.out.set k bb hkl
        rw [hst] at Y2
        have YH := Lib.hid Y2
        clear Y2 hst hbb
        go_wp2
        go_roundw
        case rel => exact ⟨k + 1, by omega, by go_num, YH.out, BB.out.setCell (p := ⟨w.heap.size, k, none⟩) (Nat.le_refl _) _⟩
        case measure => simp [intOf]; omega
    · obtain rfl : k = n := by omega
      have hlI : ¬ (k : Int) < (k : Int) := by omega
      have hcv := bytes_string (c := k) YY.out
      rw [partL_len] at hcv
      rw [← HB.out] at hcv
      go_wp2
      go_ret
      exact ⟨rfl, BB.out⟩
end Bb
end Go.Proofs.Ytgilmcmanomkiaa
