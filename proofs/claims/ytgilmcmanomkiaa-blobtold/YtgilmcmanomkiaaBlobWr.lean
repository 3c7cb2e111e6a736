/-
  Blobs (layer 8): what Write does over a disk that is up.
-/
import Derived.Test.YtgilmcmanomkiaaBlobAt
namespace Go.Proofs.Ytgilmcmanomkiaa
open Go.RowKit
namespace Bb
open B Dsk Pg

theorem cost_cover (n : Nat) : n ≤ cost n * 235 := by unfold cost; split <;> omega
theorem cost_last {n : Nat} (h : 1 ≤ n) : (cost n - 1) * 235 < n := by unfold cost; rw [if_neg (by omega)]; omega
theorem cost_le {n : Nat} (h : n ≤ 65536) : cost n ≤ 279 := by unfold cost; split <;> omega
/-- the bytes on the page number i, from the first bytes on -/
def bpart (s : ByteArray) (i : Nat) : ByteArray := s.extract (i * 235) (min ((i + 1) * 235) s.size)
theorem bpart_size (s : ByteArray) (i : Nat) : (bpart s i).size ≤ 235 := by unfold bpart; rw [ByteArray.size_extract]; omega
/-- a page's payload: the number of the page of the next bytes and 1, and its own bytes -/
def bpay (x : Nat) (p : ByteArray) : ByteArray := ⟨(Var.num x).toArray⟩ ++ p
/-- the pages of a text whose first page has the number a: page j of them has the part that many from the end -/
def bpage (a : Nat) (s : ByteArray) (c j : Nat) : Pag := (3, bpay (if j = 0 then 0 else a + j) (bpart s (c - 1 - j)))
def bpages (a : Nat) (s : ByteArray) (c m : Nat) : List Pag := (List.range m).map (bpage a s c)
theorem bpages_len (a : Nat) (s : ByteArray) (c m : Nat) : (bpages a s c m).length = m := by simp [bpages]
theorem bpages_succ (a : Nat) (s : ByteArray) (c m : Nat) : bpages a s c (m + 1) = bpages a s c m ++ [bpage a s c m] := by simp [bpages, List.range_succ]
theorem num_small {x : Nat} (h : x < 2097152) : (Var.num x).length ≤ 3 := by
  by_cases h1 : x < 128
  · rw [Var.num_lt h1]; simp
  · rw [Var.num_ge h1, List.length_cons]
    by_cases h2 : x / 128 < 128
    · rw [Var.num_lt h2]; simp
    · rw [Var.num_ge h2, List.length_cons, Var.num_lt (by omega)]; simp
theorem bpay_size {x : Nat} (h : x < 2097152) {p : ByteArray} (hp : p.size ≤ 235) : (bpay x p).size ≤ 240 := by
  unfold bpay
  rw [cat_size, mk_size]
  have := num_small h
  omega
/-- the disk, and what stands on it, while the pages come -/
structure Wb (r wr0 : Nat) (half : Int) (l : List Pag) (d : D) : Prop where
  up : Up d
  sz : Sz d
  rm : room d = r
  wr : d.writes ≤ ((wr0 + l.length : Nat) : Int)
  con : Con d half l
theorem wb_step {r wr0 : Nat} {half : Int} {l : List Pag} {d : D} (h : Wb r wr0 half l d) (hh : half = 0 ∨ half = 1) (hl : l.length < r) {p : ByteArray} (hp : p.size ≤ 240) :
    papp d half (l.length : Int) 3 p = (put d half (l.length : Int) 3 p, (l.length : Int) + 1, (l.length : Int), 0) ∧ Wb r wr0 half (l ++ [(3, p)]) (put d half (l.length : Int) 3 p) := by
  have hr := h.rm
  refine ⟨papp_put h.up h.sz hh (by omega) (by omega) (by omega) (by omega) hp, put_up h.up _ _ _ _, put_sz h.sz _ _ _ _, by rw [put_room]; exact hr, ?_, Con.put h.sz hh h.con (by omega) (by omega) (by omega) hp⟩
  have := h.wr
  rw [List.length_append, List.length_singleton]
  show d.writes + 1 ≤ _
  omega

set_option maxRecDepth 100000 in
set_option maxHeartbeats 4000000 in
theorem bwrite_long {B : Nat} (b : Bl) (d : D) (g : Nat) (half next : Int) (s : ByteArray) (w : World) (_h : PMy B w b d g half next) (hs : 65536 < s.size) :
    Calls Try.prog 36 #[.pointer (some ⟨g, 0, none⟩), .string s] w fun e w' => e = .returned (.tuple #[.int .i64 (-1), .int .i64 1]) ∧ w = w' := by
  have hsI : (65536 : Int) < (s.size : Int) := by omega
  go_enter Try.func36, Try.ntmps36
  go_wp2
  go_ret2
  exact ⟨rfl, rfl⟩
set_option maxRecDepth 100000 in
set_option maxHeartbeats 4000000 in
theorem bwrite_full {B : Nat} (b : Bl) (d : D) (g : Nat) (half next : Int) (s : ByteArray) (w : World) (h : PMy B w b d g half next) (hs : s.size ≤ 65536) (hf : (room d : Int) - next < (cost s.size : Int)) :
    Calls Try.prog 36 #[.pointer (some ⟨g, 0, none⟩), .string s] w fun e w' => e = .returned (.tuple #[.int .i64 (-1), .int .i64 5]) ∧ Below w.heap.size w w' := by
  have CF := Lib.hid (free_my b d g half next w h)
  have CC := Lib.hid (fun W => cost_any (s.size : Int) W (by omega))
  rw [Int.toNat_natCast] at CC
  have hr := room_le h.sz
  have n0 := h.n0
  have n1 := h.n1
  have hcl := cost_le hs
  clear h
  generalize cost s.size = c at *
  generalize room d = r at *
  go_enter Try.func36, Try.ntmps36
  go_wp2_with (first
    | (go_at_call 27; ((with_reducible refine CF.out.mono ?_); rintro e w1 ⟨rfl, hb1⟩))
    | (go_at_call 37; ((with_reducible refine (CC.out _).mono ?_); rintro e w' ⟨rfl, rfl⟩)))
  go_ret2
  exact ⟨rfl, hb1⟩
set_option maxRecDepth 100000 in
set_option maxHeartbeats 4000000 in
theorem bwrite_ok {B r wr0 : Nat} (b : Bl) (d : D) (g : Nat) (half : Int) (l : List Pag) (s : ByteArray) (w : World) (h : PMy B w b d g half (l.length : Int)) (hW : Wb r wr0 half l d) (hs : s.size ≤ 65536) (hf : l.length + cost s.size ≤ r) (hw : wr0 + r ≤ 900000) (hB : B ≤ w.heap.size) :
    Calls Try.prog 36 #[.pointer (some ⟨g, 0, none⟩), .string s] w fun e w' => e = .returned (.tuple #[.int .i64 ((l.length + cost s.size - 1 : Nat) : Int), .int .i64 0]) ∧
      ∃ d', PMy B w' b d' g half ((l.length + cost s.size : Nat) : Int) ∧ Wb r wr0 half (l ++ bpages l.length s (cost s.size) (cost s.size)) d' ∧ Below B w w' := by
  have CF := Lib.hid (free_my b d g half (l.length : Int) w h)
  have CX := Lib.hid (fun W (q : PMy B W b d g half (l.length : Int)) => next_my b d g half (l.length : Int) W q)
  have CC := Lib.hid (fun W => cost_any (s.size : Int) W (by omega))
  rw [Int.toNat_natCast] at CC
  rw [hW.rm] at CF
  have hrl := room_le h.sz
  rw [hW.rm] at hrl
  have hcl := cost_le hs
  have hcp := cost_pos s.size
  have hcv := cost_cover s.size
  have HH := Lib.hid h.hh
  have PP := Lib.hid h
  have WW := Lib.hid hW
  have hcs : ∀ i, i < cost s.size → i * 235 ≤ s.size := by
    intro i hi
    rcases Nat.eq_zero_or_pos s.size with h0 | h0
    · have : cost s.size = 1 := by unfold cost; rw [if_pos h0]
      omega
    · have := cost_last h0
      have : i * 235 ≤ (cost s.size - 1) * 235 := Nat.mul_le_mul_right _ (by omega)
      omega
  have HCS := Lib.hid hcs
  clear h hW hcs
  generalize hcd : cost s.size = c at *
  clear hcd
  go_enter Try.func36, Try.ntmps36
  go_wp2_with (first
    | (go_at_call 27; ((with_reducible refine CF.out.mono ?_); rintro e w1 ⟨rfl, hb1⟩; have B1 := Lib.hid hb1; have P1 := Lib.hid (PP.out.below hb1); clear hb1; have CX1 := Lib.hid (CX.out _ P1.out)))
    | (go_at_call 37; ((with_reducible refine (CC.out _).mono ?_); rintro e w' ⟨rfl, rfl⟩))
    | (go_at_call 26; ((with_reducible refine CX1.out.mono ?_); rintro e w' ⟨rfl, rfl⟩)))
  have s1 := B1.out.size
  go_loopw [7, 8] (fun t7 t8 wr => ∃ (m : Nat) (d1 : D), m ≤ c ∧ t7 = .int .i64 (if m = 0 then -1 else ((l.length + m - 1 : Nat) : Int)) ∧ t8 = .int .i64 ((c : Int) - 1 - (m : Int)) ∧ PMy B wr b d1 g half ((l.length + m : Nat) : Int) ∧ Wb r wr0 half (l ++ bpages l.length s c m) d1 ∧ Below B w wr) (fun _ t8 _ => (intOf t8 + 1).toNat)
  case atStart => exact ⟨0, d, Nat.zero_le _, rfl, by go_num, P1.out, by rw [show bpages l.length s c 0 = [] from rfl, List.append_nil]; exact WW.out, B1.out.mono hB⟩
  case round =>
    obtain ⟨m, d1, hm, rfl, rfl, hp1, hw1, hb1⟩ := hrel
    have P2 := Lib.hid hp1
    have W2 := Lib.hid hw1
    have B2 := Lib.hid hb1
    have s2 := hb1.size
    clear hp1 hw1 hb1
    by_cases hlt : m < c
    · obtain ⟨ii, hii, hiN⟩ : ∃ ii : Nat, (c : Int) - 1 - (m : Int) = (ii : Int) ∧ ii = c - 1 - m := ⟨c - 1 - m, by omega, rfl⟩
      have his := HCS.out ii (by omega)
      have hxl : (if m = 0 then (-1 : Int) else ((l.length + m - 1 : Nat) : Int)) + 1 = ((if m = 0 then 0 else l.length + m : Nat) : Int) := by split <;> omega
      obtain ⟨x, hx⟩ : ∃ x : Nat, (if m = 0 then 0 else l.length + m : Nat) = x := ⟨_, rfl⟩
      have hxs : x < 2097152 := by rw [← hx]; split <;> omega
      rw [hx] at hxl
      have hll : (l ++ bpages l.length s c m).length = l.length + m := by rw [List.length_append, bpages_len]
      have hbp : bpage l.length s c m = (3, bpay x (bpart s ii)) := by unfold bpage; rw [hx, hiN]
      obtain ⟨hst, hwb⟩ := wb_step W2.out HH.out (by rw [hll]; omega) (p := bpay x (bpart s ii)) (bpay_size hxs (bpart_size s ii))
      rw [hll] at hst hwb
      rw [List.append_assoc, ← hbp, ← bpages_succ] at hwb
      have W3 := Lib.hid hwb
      have ca := papp_my (B := B) b d1 g half ((l.length + m : Nat) : Int) 3 (bpay x (bpart s ii))
      rw [hst] at ca
      dsimp only at ca
      rw [show ((l.length + m : Nat) : Int) + 1 = ((l.length + (m + 1) : Nat) : Int) by omega] at ca
      generalize put d1 half ((l.length + m : Nat) : Int) 3 (bpay x (bpart s ii)) = d2 at *
      have CA := Lib.hid (fun W q hB2 => ca W q (by have := W2.out.wr; rw [hll] at this; omega) hB2)
      have CN := Lib.hid (fun W => V.num_any x W (by omega))
      have hnz : (ByteArray.mk (Var.num x).toArray).size ≤ 3 := by rw [mk_size]; exact num_small hxs
      have hpz := bpart_size s ii
      obtain ⟨mx, hmx⟩ : ∃ mx : Nat, min (((ii : Int) + 1) * 235) (s.size : Int) = (mx : Int) := ⟨(min (((ii : Int) + 1) * 235) (s.size : Int)).toNat, by omega⟩
      have hpe : bpart s ii = s.extract (ii * 235) mx := by unfold bpart; congr 1; omega
      have hpb : Hid (bpay x (bpart s ii) = ByteArray.mk (Var.num x).toArray ++ bpart s ii) := rfl
      rw [hpb.out, hpe] at CA
      rw [hpe] at hpz
      have hm1 : ii * 235 ≤ mx := by omega
      have hm2 : mx ≤ s.size := by omega
      have hwu := wrapu x (by omega)
      generalize (if m = 0 then (-1 : Int) else ((l.length + m - 1 : Nat) : Int)) = nx at *
      rw [hii]
      have HII := Lib.hid hii
      have HXL := Lib.hid hxl
      clear hii hiN hm
      clear ca hst hwb hbp hx hpe hpb hll HCS
      generalize ByteArray.mk (Var.num x).toArray = NB at *
      have hi0 : (0 : Int) ≤ (ii : Int) := by omega
      have hcI : (ii : Int) ≤ 300 := by omega
      go_wp2_with (first
        | (go_at_call 53; ((with_reducible refine (CN.out _).mono ?_); rintro e w3 ⟨rfl, hb3⟩; have P3 := Lib.hid (P2.out.below hb3); have B3 := Lib.hid (B2.out.trans (hb3.mono (Nat.le_trans hB s2))); have s3 := hb3.size; clear hb3; have CA3 := Lib.hid (CA.out _ P3.out (by omega))))
        | (go_at_call 24; ((with_reducible refine CA3.out.mono ?_); rintro e w4 ⟨rfl, hp4, hb4⟩; have P4 := Lib.hid hp4; have B4 := Lib.hid (B3.out.trans hb4); clear hp4 hb4)))
      go_roundw
      case rel => exact ⟨m + 1, d2, by omega, by rw [if_neg (by omega)]; go_num, by have := HII.out; go_num, P4.out, W3.out, B4.out⟩
      case measure => simp [intOf]
    · obtain rfl : m = c := by omega
      clear hlt hm
      have hneg : ¬ (0 : Int) ≤ (m : Int) - 1 - (m : Int) := by omega
      rw [if_neg (by omega)]
      go_wp2
      go_ret2
      exact ⟨rfl, d1, P2.out, W2.out, B2.out⟩
end Bb
end Go.Proofs.Ytgilmcmanomkiaa
