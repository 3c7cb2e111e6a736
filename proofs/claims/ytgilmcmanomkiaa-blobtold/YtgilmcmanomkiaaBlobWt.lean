/-
  Blobs (layer 8): Write again, which blocks it touches.
-/
import Derived.Test.YtgilmcmanomkiaaBlobPg
import Derived.Test.YtgilmcmanomkiaaBlobLo
namespace Go.Proofs.Ytgilmcmanomkiaa
open Go.RowKit
namespace Bb
open B Dsk Pg
theorem papp_tch {B : Nat} (b : Bl) (d : D) (g : Nat) (half next k : Int) (p : ByteArray) (w : World) (h : PMy B w b d g half next) (hw : d.writes < 1000000) :
    Calls Try.prog 24 #[.pointer (some ⟨g, 0, none⟩), .int .i64 k, .string p] w fun e w' => e = .returned (.tuple #[.int .i64 (papp d half next k p).2.2.1, .int .i64 (papp d half next k p).2.2.2]) ∧ PMy B w' b (papp d half next k p).1 g half (papp d half next k p).2.1 ∧ Tch (g :: b.l) w w' :=
  (papp_any b d g half next k p w h.p h.gn h.my.at' h.my.inv hw h.sz h.hh h.n0 h.n1).mono fun _ _ ⟨he, hd, hp, ht⟩ => by
    have hl := papp_len d half next k p
    exact ⟨he, ⟨⟨hd, papp_inv h.my.inv hw _ _ _ _, h.my.g, h.my.bs, h.my.bm⟩, hp, h.gB, h.gn, ⟨by rw [hl]; exact h.sz.lo, by rw [hl]; exact h.sz.hi⟩, h.hh, (papp_next h.n0 h.n1).1, by rw [room_len hl]; exact (papp_next h.n0 h.n1).2⟩, ht⟩
set_option maxRecDepth 100000 in
set_option maxHeartbeats 4000000 in
theorem bwrite_tch {B r wr0 : Nat} (b : Bl) (d : D) (g : Nat) (half : Int) (l : List Pag) (s : ByteArray) (w : World) (h : PMy B w b d g half (l.length : Int)) (hW : Wb r wr0 half l d) (hs : s.size ≤ 65536) (hf : l.length + cost s.size ≤ r) (hw : wr0 + r ≤ 900000) :
    Calls Try.prog 36 #[.pointer (some ⟨g, 0, none⟩), .string s] w fun e w' => e = .returned (.tuple #[.int .i64 ((l.length + cost s.size - 1 : Nat) : Int), .int .i64 0]) ∧
      ∃ d', PMy B w' b d' g half ((l.length + cost s.size : Nat) : Int) ∧ Wb r wr0 half (l ++ bpages l.length s (cost s.size) (cost s.size)) d' ∧ Tch (g :: b.l) w w' := by
  have CF := Lib.hid (free_my b d g half (l.length : Int) w h)
  have CX := Lib.hid (fun W (q : PMy B W b d g half (l.length : Int)) => next_my b d g half (l.length : Int) W q)
  have CC := Lib.hid (fun W => cost_any (s.size : Int) W (by omega))
  rw [Int.toNat_natCast] at CC
  rw [hW.rm] at CF
  have hrl := room_le h.sz
  rw [hW.rm] at hrl
  have hcl := cost_le hs
  have hcp := cost_pos s.size
  have hcv := cost_cover s.size
  have HH := Lib.hid h.hh
  have PP := Lib.hid h
  have WW := Lib.hid hW
  have hcs : ∀ i, i < cost s.size → i * 235 ≤ s.size := by
    intro i hi
    rcases Nat.eq_zero_or_pos s.size with h0 | h0
    · have : cost s.size = 1 := by unfold cost; rw [if_pos h0]
      omega
    · have := cost_last h0
      have : i * 235 ≤ (cost s.size - 1) * 235 := Nat.mul_le_mul_right _ (by omega)
      omega
  have HCS := Lib.hid hcs
  clear h hW hcs
  generalize hcd : cost s.size = c at *
  clear hcd
  go_enter Try.func36, Try.ntmps36
  go_wp2_with (first
    | (go_at_call 27; ((with_reducible refine CF.out.mono ?_); rintro e w1 ⟨rfl, hb1⟩; have B1 := Lib.hid hb1; have P1 := Lib.hid (PP.out.below hb1); clear hb1; have CX1 := Lib.hid (CX.out _ P1.out)))
    | (go_at_call 37; ((with_reducible refine (CC.out _).mono ?_); rintro e w' ⟨rfl, rfl⟩))
    | (go_at_call 26; ((with_reducible refine CX1.out.mono ?_); rintro e w' ⟨rfl, rfl⟩)))
  have s1 := B1.out.size
  go_loopw [7, 8] (fun t7 t8 wr => ∃ (m : Nat) (d1 : D), m ≤ c ∧ t7 = .int .i64 (if m = 0 then -1 else ((l.length + m - 1 : Nat) : Int)) ∧ t8 = .int .i64 ((c : Int) - 1 - (m : Int)) ∧ PMy B wr b d1 g half ((l.length + m : Nat) : Int) ∧ Wb r wr0 half (l ++ bpages l.length s c m) d1 ∧ Tch (g :: b.l) w wr) (fun _ t8 _ => (intOf t8 + 1).toNat)
  case atStart => exact ⟨0, d, Nat.zero_le _, rfl, by go_num, P1.out, by rw [show bpages l.length s c 0 = [] from rfl, List.append_nil]; exact WW.out, Tch.of_below B1.out⟩
  case round =>
    obtain ⟨m, d1, hm, rfl, rfl, hp1, hw1, hb1⟩ := hrel
    have P2 := Lib.hid hp1
    have W2 := Lib.hid hw1
    have B2 := Lib.hid hb1
    have s2 := hb1.size
    clear hp1 hw1 hb1
    by_cases hlt : m < c
    · obtain ⟨ii, hii, hiN⟩ : ∃ ii : Nat, (c : Int) - 1 - (m : Int) = (ii : Int) ∧ ii = c - 1 - m := ⟨c - 1 - m, by omega, rfl⟩
      have his := HCS.out ii (by omega)
      have hxl : (if m = 0 then (-1 : Int) else ((l.length + m - 1 : Nat) : Int)) + 1 = ((if m = 0 then 0 else l.length + m : Nat) : Int) := by split <;> omega
      obtain ⟨x, hx⟩ : ∃ x : Nat, (if m = 0 then 0 else l.length + m : Nat) = x := ⟨_, rfl⟩
      have hxs : x < 2097152 := by rw [← hx]; split <;> omega
      rw [hx] at hxl
      have hll : (l ++ bpages l.length s c m).length = l.length + m := by rw [List.length_append, bpages_len]
      have hbp : bpage l.length s c m = (3, bpay x (bpart s ii)) := by unfold bpage; rw [hx, hiN]
      obtain ⟨hst, hwb⟩ := wb_step W2.out HH.out (by rw [hll]; omega) (p := bpay x (bpart s ii)) (bpay_size hxs (bpart_size s ii))
      rw [hll] at hst hwb
      rw [List.append_assoc, ← hbp, ← bpages_succ] at hwb
      have W3 := Lib.hid hwb
      have ca := papp_tch (B := B) b d1 g half ((l.length + m : Nat) : Int) 3 (bpay x (bpart s ii))
      rw [hst] at ca
      dsimp only at ca
      rw [show ((l.length + m : Nat) : Int) + 1 = ((l.length + (m + 1) : Nat) : Int) by omega] at ca
      generalize put d1 half ((l.length + m : Nat) : Int) 3 (bpay x (bpart s ii)) = d2 at *
      have CA := Lib.hid (fun W q => ca W q (by have := W2.out.wr; rw [hll] at this; omega))
      have CN := Lib.hid (fun W => V.num_any x W (by omega))
      have hnz : (ByteArray.mk (Var.num x).toArray).size ≤ 3 := by rw [mk_size]; exact num_small hxs
      have hpz := bpart_size s ii
      obtain ⟨mx, hmx⟩ : ∃ mx : Nat, min (((ii : Int) + 1) * 235) (s.size : Int) = (mx : Int) := ⟨(min (((ii : Int) + 1) * 235) (s.size : Int)).toNat, by omega⟩
      have hpe : bpart s ii = s.extract (ii * 235) mx := by unfold bpart; congr 1; omega
      have hpb : Hid (bpay x (bpart s ii) = ByteArray.mk (Var.num x).toArray ++ bpart s ii) := rfl
      rw [hpb.out, hpe] at CA
      rw [hpe] at hpz
      have hm1 : ii * 235 ≤ mx := by omega
      have hm2 : mx ≤ s.size := by omega
      have hwu := wrapu x (by omega)
      generalize (if m = 0 then (-1 : Int) else ((l.length + m - 1 : Nat) : Int)) = nx at *
      rw [hii]
      have HII := Lib.hid hii
      have HXL := Lib.hid hxl
      clear hii hiN hm
      clear ca hst hwb hbp hx hpe hpb hll HCS
      generalize ByteArray.mk (Var.num x).toArray = NB at *
      have hi0 : (0 : Int) ≤ (ii : Int) := by omega
      have hcI : (ii : Int) ≤ 300 := by omega
      go_wp2_with (first
        | (go_at_call 53; ((with_reducible refine (CN.out _).mono ?_); rintro e w3 ⟨rfl, hb3⟩; have P3 := Lib.hid (P2.out.below hb3); have B3 := Lib.hid (B2.out.trans (Tch.of_below hb3)); have s3 := hb3.size; clear hb3; have CA3 := Lib.hid (CA.out _ P3.out)))
        | (go_at_call 24; ((with_reducible refine CA3.out.mono ?_); rintro e w4 ⟨rfl, hp4, hb4⟩; have P4 := Lib.hid hp4; have B4 := Lib.hid (B3.out.trans hb4); clear hp4 hb4)))
      go_roundw
      case rel => exact ⟨m + 1, d2, by omega, by rw [if_neg (by omega)]; go_num, by have := HII.out; go_num, P4.out, W3.out, B4.out⟩
      case measure => simp [intOf]
    · obtain rfl : m = c := by omega
      clear hlt hm
      have hneg : ¬ (0 : Int) ≤ (m : Int) - 1 - (m : Int) := by omega
      rw [if_neg (by omega)]
      go_wp2
      go_ret2
      exact ⟨rfl, d1, P2.out, W2.out, B2.out⟩

/-! ### rows of the statement's own -/
theorem own_tch {w w' : World} {B e n : Nat} {v : Value} {xs : List Value} {l : List Nat} (h : w.ownsRow B e 1 v n xs) (ht : Tch l w w') (hl : ∀ x ∈ l, x < B) : w'.ownsRow B e 1 v n xs := by
  refine ⟨h.1, ?_⟩
  rcases h.2 with hn | ⟨g, cap, cur, rfl, hb, hgg, rest⟩
  · exact .inl hn
  · exact .inr ⟨g, cap, cur, rfl, hb, (ht.block g (blk_lt hgg) (fun hx => by have := hl g hx; omega)).trans hgg, rest⟩
theorem own_apart {w : World} {B e f n m : Nat} {v u : Value} {xs ys : List Value} (h : w.ownsRow B e 1 v n xs) (k : w.ownsRow B f 1 u m ys) (hne : e ≠ f) : u.ownBlock = none ∨ u.ownBlock ≠ v.ownBlock := by
  rcases k.2 with ⟨rfl, _⟩ | ⟨g, cap, cur, rfl, _, hgg, _⟩
  · exact .inl rfl
  · right
    intro e1
    rcases h.2 with ⟨rfl, _⟩ | ⟨g', cap', cur', rfl, _, hgg', _⟩
    · cases e1
    · have e2 : g = g' := by injection e1
      subst e2
      rw [hgg] at hgg'
      injection hgg' with q
      injection q with _ ht _
      exact hne ht.symm
/-- the texts that were written, and where -/
def Stx (L : List Pag) (fst : List Int) (want : List ByteArray) : Prop := fst.length = want.length ∧ ∀ k (h1 : k < fst.length) (h2 : k < want.length), ∃ a : Nat, fst[k] = ((a + cost want[k].size - 1 : Nat) : Int) ∧ want[k].size ≤ 1200 ∧ a + cost want[k].size ≤ 12 ∧ ∀ j, j < cost want[k].size → L[a + j]? = some (bpage a want[k] (cost want[k].size) j)
theorem stx_nil : Stx [] [] [] := ⟨rfl, fun k h => absurd h (by simp)⟩
theorem stx_more {L : List Pag} {fst : List Int} {want : List ByteArray} (h : Stx L fst want) {s : ByteArray} (hs : s.size ≤ 1200) (hc : L.length + cost s.size ≤ 12) : Stx (L ++ bpages L.length s (cost s.size) (cost s.size)) (fst ++ [((L.length + cost s.size - 1 : Nat) : Int)]) (want ++ [s]) := by
  refine ⟨by rw [List.length_append, List.length_append, h.1]; rfl, fun k h1 h2 => ?_⟩
  rw [List.length_append, List.length_singleton] at h1
  by_cases hk : k < fst.length
  · have hk2 : k < want.length := by rw [← h.1]; exact hk
    obtain ⟨a, e1, e2, e3, e4⟩ := h.2 k hk hk2
    rw [List.getElem_append_left hk, List.getElem_append_left hk2]
    exact ⟨a, e1, e2, e3, fun j hj => by
      have := e4 j hj
      obtain ⟨hlt, _⟩ := List.getElem?_eq_some_iff.mp this
      rw [List.getElem?_append_left hlt]; exact this⟩
  · have hk' : k = fst.length := by omega
    subst hk'
    rw [List.getElem_append_right (Nat.le_refl _)]
    have e : (want ++ [s])[fst.length]'(by rw [List.length_append, h.1]; simp) = s := by
      rw [List.getElem_append_right (by rw [h.1]; exact Nat.le_refl _)]; simp
    rw [e]
    refine ⟨L.length, by simp, hs, hc, fun j hj => ?_⟩
    have := at_pages L [] s (cost s.size) j hj
    rw [List.append_nil] at this
    exact this
theorem xs_nums (a : Nat) (s : ByteArray) (c : Nat) : ∀ j, (xsOf a s c j).map (·.1) = (List.range (j + 1)).map fun t => ((a + j - t : Nat) : Int)
  | 0 => rfl
  | j + 1 => by
    show ((a + (j + 1) : Nat) : Int) :: (xsOf a s c j).map (·.1) = _
    have e := List.range_succ_eq_map (n := j + 1)
    rw [xs_nums a s c j, e, List.map_cons, List.map_map]
    congr 1
    apply List.map_congr_left
    intro t _
    show ((a + j - t : Nat) : Int) = ((a + (j + 1) - (t + 1) : Nat) : Int)
    congr 1
    omega
theorem nums_back {L : List Pag} {a : Nat} {s : ByteArray} (hs : s.size ≤ 65536) (hL : ∀ j, j < cost s.size → L[a + j]? = some (bpage a s (cost s.size) j)) (h2 : a + cost s.size ≤ 100000) : bnums L ((a + cost s.size - 1 : Nat) : Int) = ((List.range (cost s.size)).map fun t => ((a + cost s.size - 1 - t : Nat) : Int), 0) := by
  have hp := cost_pos s.size
  have hc := cost_le hs
  have hw := walk_back hL h2 (cost s.size - 1) 279 (by omega) (by omega)
  rw [show a + (cost s.size - 1) = a + cost s.size - 1 by omega] at hw
  unfold bnums
  rw [hw, if_pos rfl]
  simp only
  rw [xs_nums, show cost s.size - 1 + 1 = cost s.size by omega]
  congr 1
  apply List.map_congr_left
  intro t _
  congr 1
  omega
end Bb
end Go.Proofs.Ytgilmcmanomkiaa
