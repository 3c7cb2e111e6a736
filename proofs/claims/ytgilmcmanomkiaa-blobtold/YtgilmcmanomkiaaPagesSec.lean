/-
  The walk of the statement PagesSectors.
-/
import Derived.Test.YtgilmcmanomkiaaPagesFil
namespace Go.Proofs.Ytgilmcmanomkiaa
open Go.RowKit
namespace Pg
open B Dsk
theorem page2 {w : World} {g : Nat} {a b : Value} {t : TypeId} (h : w.heap[g]? = some (.cells #[a, b] t)) : w.cell? ⟨g, 0, none⟩ = some a ∧ w.cell? ⟨g, 1, none⟩ = some b ∧ w.frozen? ⟨g, 0, none⟩ = false ∧ w.frozen? ⟨g, 1, none⟩ = false := by
  unfold World.cell? World.frozen?; rw [h]; simp
theorem fill_rest {k : Nat} {p : ByteArray} (hp : p.size ≤ 240) : ((fill (ByteArray.mk #[UInt8.ofNat k, UInt8.ofNat p.size] ++ p)).extract 0 252).data.toList = restL k p := by
  rw [take_data, fill_data, cat_data, cat_size]
  show (([UInt8.ofNat k, UInt8.ofNat p.size] ++ p.data.toList) ++ List.replicate (256 - (2 + p.size)) 0).take 252 = _
  have hl := size_data p
  have e : List.replicate (256 - (2 + p.size)) (0 : UInt8) = List.replicate (250 - p.size) 0 ++ List.replicate 4 0 := by
    rw [List.replicate_append_replicate]; congr 1; omega
  rw [e, ← List.append_assoc]
  have e2 : [UInt8.ofNat k, UInt8.ofNat p.size] ++ p.data.toList ++ List.replicate (250 - p.size) 0 = restL k p := by simp [restL]
  rw [e2, List.take_append_of_le_length (by rw [restL_len hp]; exact Nat.le_refl _), List.take_of_length_le (by rw [restL_len hp]; exact Nat.le_refl _)]
set_option maxRecDepth 100000 in
set_option maxHeartbeats 4000000 in
theorem refText_any (k : Nat) (p : ByteArray) (w : World) (hk : k < 256) (hp : p.size ≤ 240) :
    Calls Try.prog 30 #[.agg #[.int .i64 (k : Int), .string p]] w fun e w' => e = .returned (.string (ptxt k p)) ∧ Below w.heap.size w w' := by
  have hb0 := (Below.refl w.heap.size w).alloc (Nat.le_refl _) (.cells #[.int .i64 (k : Int), .string p] 48)
  have B0 := Lib.hid hb0
  have K0 := Lib.hid (heap_last w (.cells #[.int .i64 (k : Int), .string p] 48) w.heap.size rfl)
  clear hb0
  have hs1 : (ByteArray.mk #[UInt8.ofNat k, UInt8.ofNat p.size] ++ p).size = 2 + p.size := by rw [cat_size]; rfl
  have CF := Lib.hid (fun W => refFill_any (ByteArray.mk #[UInt8.ofNat k, UInt8.ofNat p.size] ++ p) W (by omega))
  have HR := Lib.hid (fill_rest (k := k) hp)
  have hfs : (fill (ByteArray.mk #[UInt8.ofNat k, UInt8.ofNat p.size] ++ p)).size = 256 := fill_size (by omega)
  go_enter Try.func30, Try.ntmps30
  go_upto_region 1 with fail
  obtain ⟨c0, c1, _, _⟩ := page2 K0.out
  generalize w.alloc (.cells #[.int .i64 (k : Int), .string p] 48) = w1 at *
  have hc := conv_two w1 (UInt8.ofNat k) (UInt8.ofNat p.size) (k : Int) (p.size : Int) (by rw [UInt8.toNat_ofNat']; omega) (by rw [UInt8.toNat_ofNat']; omega)
  obtain ⟨d0, d1, _, _⟩ := page2 (hp_old (.cells #[.int .u8 (k : Int), .int .u8 (p.size : Int)] 5) K0.out)
  have B1 := Lib.hid (B0.out.alloc B0.out.size (.cells #[.int .u8 (k : Int), .int .u8 (p.size : Int)] 5))
  go_upto_region 2 with (go_at_call 50; ((with_reducible refine (CF.out _).mono ?_); rintro e w2 ⟨rfl, hb2⟩; have B2 := Lib.hid (B1.out.trans (hb2.mono B1.out.size)); clear hb2))
  generalize fill (ByteArray.mk #[UInt8.ofNat k, UInt8.ofNat p.size] ++ p) = F at *
  have hxs : (F.extract 0 252).size = 252 := by rw [ByteArray.size_extract]; omega
  generalize F.extract 0 252 = S at *
  have CO := Lib.hid (fun W => refOf_any S W (by unfold maxLen; omega))
  have CQ := Lib.hid (fun W => fourRef_any (Crc.on Crc.start S.data.toList) W)
  have hz : (ByteArray.mk (Crc.fourOf (Crc.on Crc.start S.data.toList)).toArray).size = 4 := rfl
  have HZ : Hid ((ByteArray.mk (Crc.fourOf (Crc.on Crc.start S.data.toList)).toArray).data.toList = Crc.fourOf (Crc.on Crc.start (restL k p))) := by rw [Hid, HR.out]
  generalize ByteArray.mk (Crc.fourOf (Crc.on Crc.start S.data.toList)).toArray = Z at *
  generalize Crc.on Crc.start S.data.toList = x at *
  clear hc c0 c1 d0 d1
  go_wp2_with (first
    | (go_at_call 52; ((with_reducible refine (CO.out _).mono ?_); rintro e w3 ⟨rfl, rfl⟩))
    | (go_at_call 51; ((with_reducible refine (CQ.out _).mono ?_); rintro e w4 ⟨rfl, hb4⟩; have B4 := Lib.hid (B2.out.trans (hb4.mono B2.out.size)); clear hb4)))
  go_ret
  refine ⟨B.ret_str (ext_data ?_), B4.out⟩
  rw [cat_data, HZ.out, HR.out, ptxt_data]
  rfl

/-- the bytes l lie, unfrozen, in block g from its start on -/
def BytesAt (w : World) (g : Nat) (l : List UInt8) : Prop := ∀ j (h : j < l.length), w.cell? ⟨g, j, none⟩ = some (.int .u8 (l[j].toNat : Int)) ∧ w.frozen? ⟨g, j, none⟩ = false
theorem conv_bytes (s : ByteArray) (W : World) : ∃ c w', (convert 9 56 (.string s)).run Try.prog W = .ok (.slice (some ⟨W.heap.size, 0, none⟩) s.size c) w' ∧ BytesAt w' W.heap.size s.data.toList ∧ Below W.heap.size W w' ∧ W.heap.size < w'.heap.size := by
  refine ⟨_, _, run_bytes_of_string (P := Try.prog) W 9 56 5 s Try.underlying9 Try.underlying56 Try.underlying5, ?_, ?_, ?_⟩
  · intro j hj
    have hj' : j < s.data.size := by simpa using hj
    constructor
    · have h := World.cell?_alloc_mark W.drew (bytesRow s (grownCap W s.size 0 5)) 5 ((bytesRow s (grownCap W s.size 0 5)).size, (bytesRow s (grownCap W s.size 0 5)).size + 1) j
      exact h.trans (bytesRow_at s _ j hj')
    · have h := World.frozen?_alloc_mark W.drew (bytesRow s (grownCap W s.size 0 5)) 5 ((bytesRow s (grownCap W s.size 0 5)).size) ((bytesRow s (grownCap W s.size 0 5)).size + 1) j
      refine h.trans ?_
      have hl : j < (bytesRow s (grownCap W s.size 0 5)).size := by
        have := bytesRow_at s (grownCap W s.size 0 5) j hj'
        rcases Nat.lt_or_ge j (bytesRow s (grownCap W s.size 0 5)).size with h1 | h1
        · exact h1
        · rw [Array.getElem?_eq_none h1] at this; cases this
      simp; omega
  · exact (Below.drew (Below.refl _ _)).alloc (Nat.le_refl _) _
  · simp
theorem BytesAt.set {w : World} {g : Nat} {l : List UInt8} (h : BytesAt w g l) (i : Nat) (b : UInt8) (hi : i < l.length) : BytesAt (w.setCell ⟨g, i, none⟩ (.int .u8 (b.toNat : Int))) g (l.set i b) := by
  intro j hj
  rw [List.length_set] at hj
  refine ⟨?_, ?_⟩
  · by_cases e : i = j
    · subst e
      have := World.cell?_setCell_same w ⟨g, i, none⟩ (.int .u8 (b.toNat : Int)) (h i hi).1
      rw [this]; simp
    · rw [World.cell?_setCell_other w ⟨g, i, none⟩ ⟨g, j, none⟩ _ (fun q => e (by injection q)), (h j hj).1]
      simp [e]
  · have := (h j hj).2
    simpa using this
set_option maxRecDepth 10000 in
theorem xor1 : ∀ n : Nat, n < 256 → bits .xor .u8 (n : Int) 1 = ((UInt8.ofNat n ^^^ 1).toNat : Int) ∧ UInt8.ofNat n ^^^ 1 ≠ UInt8.ofNat n := by decide +kernel
theorem PMy.away {B : Nat} {w w' : World} {b : Bl} {d : D} {g : Nat} {half next : Int} {q : Nat} (h : PMy B w b d g half next) (ht : Tch [q] w w') (hq : q < B) : PMy B w' b d g half next := by
  have h1 := h.my.g; have h2 := h.my.bs; have h3 := h.my.bm; have h4 := h.gB
  exact ⟨⟨h.my.at'.tch ht (by simp only [List.mem_singleton]; omega), h.my.inv, h1, h2, h3⟩, h.p.tch ht (by simp only [List.mem_singleton]; omega), h4, h.gn, h.sz, h.hh, h.n0, h.n1⟩
theorem PMy.off {B : Nat} {w0 w w' : World} {b : Bl} {d : D} {g : Nat} {half next : Int} {q : Nat} (h0 : PMy B w0 b d g half next) (h : PMy B w b d g half next) (ht : Tch [q] w w') (hq : w0.heap.size ≤ q) : PMy B w' b d g half next := by
  obtain ⟨l1, l2, l3⟩ := h0.my.at'.lts
  have l4 := blk_lt h0.p
  exact ⟨⟨h.my.at'.tch ht (by simp only [List.mem_singleton]; omega), h.my.inv, h.my.g, h.my.bs, h.my.bm⟩, h.p.tch ht (by simp only [List.mem_singleton]; omega), h.gB, h.gn, h.sz, h.hh, h.n0, h.n1⟩
theorem sec22 {half c : Int} : sec (new 22) half c = 2 + half * 10 + c := by unfold sec; rw [room_new]; rfl
theorem write_p {B : Nat} (b : Bl) (d : D) (g : Nat) (half next i : Int) (s : ByteArray) (w : World) (h : PMy B w b d g half next) (hw : d.writes < 1000000) (hB : B ≤ w.heap.size) (hl : (write d i s).1.now.length = d.now.length) :
    Calls Try.prog 31 #[.pointer (some ⟨b.g, 0, none⟩), .int .i64 i, .string s] w fun e w' => e = .returned (.int .i64 (write d i s).2) ∧ PMy B w' b (write d i s).1 g half next ∧ Below B w w' :=
  (write_any b d i s w h.my.at' h.my.inv hw).mono fun _ _ ⟨he, hd, ht⟩ =>
    ⟨he, ⟨h.my.touch hd (write_inv h.my.inv hw i s), h.p.tch ht h.gn, h.gB, h.gn, ⟨by rw [hl]; exact h.sz.lo, by rw [hl]; exact h.sz.hi⟩, h.hh, h.n0, by rw [room_len hl]; exact h.n1⟩, h.my.low ht hB⟩

set_option maxRecDepth 100000 in
set_option maxHeartbeats 4000000 in
theorem pagesSectors_walk (K : Int) (S : ByteArray) (hf : Bool) (skip : Int) (w : World) :
    Calls Try.prog 4 #[.agg #[.int .i64 K, .string S], .bool hf, .int .i64 skip] w fun e w' => e = .returned (.bool true) ∧ Below w.heap.size w w' := by
  have CN := Lib.hid (fun W => new_my 22 22 W rfl (by omega) (by omega))
  have CAw := Lib.hid (fun W => awake_any W)
  obtain ⟨c, hcc⟩ : ∃ c : Nat, max 0 (min skip 9) = (c : Int) := ⟨(max 0 (min skip 9)).toNat, by omega⟩
  have hc9 : c ≤ 9 := by omega
  have ha := and255 K
  have hkk : (K % 256).toNat < 256 := by omega
  generalize (K % 256).toNat = kk at *
  have cc : ∀ W, Calls Try.prog 16 #[.string S, .int .i64 240] W fun e w' => e = .returned (.string (cutB S 240)) ∧ W = w' := fun W => cut_any S 240 W (by omega)
  have CC := Lib.hid cc
  clear cc
  have hps := cutB_size S 240
  generalize cutB S 240 = P at *
  have hb0 := (Below.refl w.heap.size w).alloc (Nat.le_refl _) (.cells #[.int .i64 K, .string S] 48)
  have B0 := Lib.hid hb0
  have K0 := Lib.hid (heap_last w (.cells #[.int .i64 K, .string S] 48) w.heap.size rfl)
  clear hb0
  obtain ⟨hv, hhv, hhh⟩ : ∃ hv : Int, hv = (if hf then 1 else 0) ∧ (hv = 0 ∨ hv = 1) := ⟨_, rfl, by cases hf <;> simp⟩
  have hz22 := Lib.hid (new_sz (n := 22) (by omega) (by omega))
  have hr22 : room (new 22) = 10 := by rw [room_new]
  have CO := Lib.hid (fun B b W (hp : My B W b (new 22)) hB => open_my b (new 22) hv (c : Int) W hp hz22.out ⟨hhh, by omega, by rw [hr22]; omega⟩ hB)
  have hput := papp_put (d := new 22) (half := hv) (next := (c : Int)) (k := (kk : Int)) (p := P) (new_up 22) hz22.out hhh (by omega) (by rw [hr22]; omega) (by omega) (by omega) hps
  have CP := Lib.hid (fun B b g W hp => papp_my (B := B) b (new 22) g hv (c : Int) (kk : Int) P W hp (show (0 : Int) < 1000000 by omega))
  have hup1 := put_up (new_up 22) hv (c : Int) (kk : Int) P
  have hz1 := put_sz hz22.out hv (c : Int) (kk : Int) P
  have hr1 := put_room (new 22) hv (c : Int) (kk : Int) P
  rw [hput] at CP
  dsimp only at CP
  obtain ⟨s0, s1⟩ := sec_in hz22.out hhh (show (0 : Int) ≤ (c : Int) by omega) (show (c : Int) < (room (new 22) : Int) by rw [hr22]; omega)
  have hsec : sec (new 22) hv (c : Int) = 2 + hv * 10 + (c : Int) := sec22
  have hl1 := put_len (new 22) hv (c : Int) (kk : Int) P
  have hrd : readS (put (new 22) hv (c : Int) (kk : Int) P) (sec (new 22) hv (c : Int)) = ptxt kk P := by
    rw [readS_up hup1 s0 (by rw [hl1]; exact s1)]
    show ((new 22).now.set _ _).getD _ _ = _
    rw [getD_set_self (by omega), Int.toNat_natCast]
  have hrc : reach (put (new 22) hv (c : Int) (kk : Int) P) (sec (new 22) hv (c : Int)) = 0 := reach_up hup1 s0 (by rw [hl1]; exact s1)
  have hwr1 : (put (new 22) hv (c : Int) (kk : Int) P).writes < 1000000 := by show (0 : Int) + 1 < _; omega
  have CRd := Lib.hid (fun b W hp => read_any b (put (new 22) hv (c : Int) (kk : Int) P) (sec (new 22) hv (c : Int)) W hp)
  rw [hrd, hrc, hsec] at CRd
  -- the page with another byte
  obtain ⟨j, hj⟩ : ∃ j : Nat, j = (P.size * 7 + kk) % 256 := ⟨_, rfl⟩
  have hj256 : j < 256 := by omega
  have htl : (ptxtL kk P).length = 256 := by rw [← ptxt_data, size_data, ptxt_size hps]
  obtain ⟨by0, hby0⟩ : ∃ x : UInt8, (ptxtL kk P)[j]? = some x := ⟨_, List.getElem?_eq_getElem (by rw [htl]; exact hj256)⟩
  have hx1 := xor1 by0.toNat by0.toNat_lt
  rw [UInt8.ofNat_toNat] at hx1
  have hbad : ∀ s : ByteArray, s.data.toList = (ptxtL kk P).set j (by0 ^^^ 1) → s.size = 256 ∧ pread (write (put (new 22) hv (c : Int) (kk : Int) P) (sec (new 22) hv (c : Int)) s).1 hv ((c : Int) + 1) (c : Int) = (0, ⟨#[]⟩, 8) ∧ (write (put (new 22) hv (c : Int) (kk : Int) P) (sec (new 22) hv (c : Int)) s).1.now.length = (put (new 22) hv (c : Int) (kk : Int) P).now.length := by
    intro s hs
    have hsz : s.size = 256 := by rw [← size_data, hs, List.length_set, htl]
    have hfl := flip_bad (k := kk) hps hj256 (by rw [hby0]; intro e; exact hx1.2 (Option.some.inj e).symm) hs
    have hw := write_up hup1 s0 (by rw [hl1]; exact s1) (s := s) (by omega)
    have hl2 : (write (put (new 22) hv (c : Int) (kk : Int) P) (sec (new 22) hv (c : Int)) s).1.now.length = (put (new 22) hv (c : Int) (kk : Int) P).now.length := by rw [hw]; simp
    refine ⟨hsz, ?_, hl2⟩
    have hu2 : Up (write (put (new 22) hv (c : Int) (kk : Int) P) (sec (new 22) hv (c : Int)) s).1 := by rw [hw]; exact ⟨hup1.dn, hup1.h⟩
    rw [pread_up hu2 ⟨by rw [hl2]; exact hz1.lo, by rw [hl2]; exact hz1.hi⟩ hhh (by omega) (by omega) (by rw [room_len hl2, hr1, hr22]; omega), sec_len (hl2.trans hl1), hw]
    show (match pparse (((put (new 22) hv (c : Int) (kk : Int) P).now.set (sec (new 22) hv (c : Int)).toNat (fill s)).getD (sec (new 22) hv (c : Int)).toNat ⟨#[]⟩) with
      | some (k, p) => ((k : Int), p, (0 : Int))
      | none => (0, ⟨#[]⟩, 8)) = _
    rw [getD_set_self (by rw [hl1]; omega), fill_full (by omega), hfl]
  rw [hsec] at hbad
  have HBAD := Lib.hid hbad
  have HB0 := Lib.hid hby0
  have CT := Lib.hid (fun W => refText_any kk P W hkk hps)
  have HTD := Lib.hid (ptxt_data kk P)
  have hts := ptxt_size (k := kk) hps
  clear hbad hrd hrc hsec hup1 hz1 hr1 hput hl1 s0 s1 hby0
  generalize put (new 22) hv (c : Int) (kk : Int) P = d1 at *
  generalize new 22 = d0 at *
  generalize ptxt kk P = T at *
  obtain ⟨sc, hsc⟩ : ∃ sc, sc = 2 + hv * 10 + (c : Int) := ⟨_, rfl⟩
  rw [← hsc] at CRd HBAD
  have hcase : hf = false ∧ hv = 0 ∧ sc = 2 + (c : Int) ∨ hf = true ∧ hv = 1 ∧ sc = 12 + (c : Int) := by
    cases hf
    · exact .inl ⟨rfl, hhv, by rw [hsc, hhv]; simp⟩
    · exact .inr ⟨rfl, hhv, by rw [hsc, hhv]; simp⟩
  clear hsc hhv hhh
  generalize by0 ^^^ 1 = nb at *
  rcases hcase with ⟨rfl, rfl, rfl⟩ | ⟨rfl, rfl, rfl⟩ <;>
  · go_enter Try.func4, Try.ntmps4
    go_upto_region 13 with (first
      | (go_at_call 11; ((with_reducible refine (CAw.out _).mono ?_); rintro e w1 ⟨rfl, hb1⟩; have B1 := Lib.hid (B0.out.trans (hb1.mono B0.out.size)); have K1 := Lib.hid (blk_below K0.out hb1 (blk_lt K0.out)); clear hb1))
      | (go_at_call 12; ((with_reducible refine (CN.out _).mono ?_); rintro e w2 ⟨b, rfl, hm2, hb2⟩; have M2 := Lib.hid hm2; have B2 := Lib.hid (B1.out.trans (hb2.mono B1.out.size)); have K2 := Lib.hid (blk_below K1.out hb2 (blk_lt K1.out)); have s2 := hb2.size; clear hm2 hb2; have CO1 := Lib.hid (CO.out _ _ _ M2.out s2)))
      | (go_at_call 14; ((with_reducible refine CO1.out.mono ?_); rintro e w3 ⟨g, rfl, hp3, hb3⟩; have P3 := Lib.hid hp3; have B3 := Lib.hid (B2.out.trans (hb3.mono B2.out.size)); have K3 := Lib.hid (blk_below K2.out hb3 (blk_lt K2.out)); have s3 := hb3.size; have s1 := B1.out.size; have l1 := blk_lt K1.out; have s1' : w.heap.size ≤ w1.heap.size := B1.out.size; clear hp3 hb3)))
    obtain ⟨c0, c1, f0, f1⟩ := page2 K3.out
    -- the page's two cells are written anew
    have K4 := Lib.hid (blk_set (cs := [_, _]) (blk_set (cs := [_, _]) K3.out 0 (.int .i64 (kk : Int))) 1 (.string P))
    have B4 := Lib.hid ((B3.out.setCell (p := ⟨w.heap.size, 0, none⟩) (Nat.le_refl _) (.int .i64 (kk : Int))).setCell (p := ⟨w.heap.size, 1, none⟩) (Nat.le_refl _) (.string P))
    have T4 : Tch [w.heap.size] w3 ((w3.setCell ⟨w.heap.size, 0, none⟩ (.int .i64 (kk : Int))).setCell ⟨w.heap.size, 1, none⟩ (.string P)) := ((Tch.refl _ _).set (by simp) _).set (by simp) _
    go_upto_region 15 with (go_at_call 16; ((with_reducible refine (CC.out _).mono ?_); rintro e w' ⟨rfl, rfl⟩))
    have P4 := Lib.hid (P3.out.away T4 (by omega))
    have s4 : w3.heap.size ≤ ((w3.setCell ⟨w.heap.size, 0, none⟩ (.int .i64 (kk : Int))).setCell ⟨w.heap.size, 1, none⟩ (.string P)).heap.size := T4.size
    clear T4 c0 c1 f0 f1
    generalize (w3.setCell ⟨w.heap.size, 0, none⟩ (.int .i64 (kk : Int))).setCell ⟨w.heap.size, 1, none⟩ (.string P) = w4 at *
    obtain ⟨c0, c1, f0, f1⟩ := page2 K4.out
    have CP1 := Lib.hid (CP.out _ _ _ _ P4.out (by omega))
    go_upto_region 17 with (first
      | (go_at_call 24; ((with_reducible refine CP1.out.mono ?_); rintro e w5 ⟨rfl, hp5, hb5⟩; have P5 := Lib.hid hp5; have B5 := Lib.hid (B4.out.trans (hb5.mono s1')); have K5 := Lib.hid (blk_below K4.out hb5 l1); have s5 := hb5.size; clear hp5 hb5; have CR1 := Lib.hid (CRd.out _ _ P5.out.my.at')))
      | (go_at_call 29; ((with_reducible refine CR1.out.mono ?_); rintro e w' ⟨rfl, rfl⟩)))
    clear c0 c1 f0 f1
    obtain ⟨c0, c1, f0, f1⟩ := page2 K5.out
    go_upto_region 20 with (first
      | (go_at_call 30; ((with_reducible refine (CT.out _).mono ?_); rintro e w6 ⟨rfl, hb6⟩; have P6 := Lib.hid (P5.out.below hb6); have B6 := Lib.hid (B5.out.trans (hb6.mono B5.out.size)); have K6 := Lib.hid (blk_below K5.out hb6 (blk_lt K5.out)); have s6 := hb6.size; clear hb6; obtain ⟨cb, w7, hcv, hy7, hb7, hl7⟩ := conv_bytes T w6; have Y7 := Lib.hid hy7; have P7 := Lib.hid (P6.out.below hb7); have B7 := Lib.hid (B6.out.trans (hb7.mono B6.out.size)); have K7 := Lib.hid (blk_below K6.out hb7 (blk_lt K6.out)); clear hy7 hb7)))
    clear c0 c1 f0 f1 hcv
    obtain ⟨c0, c1, f0, f1⟩ := page2 K7.out
    have htl2 : T.data.toList.length = 256 := by rw [HTD.out]; exact htl
    have hjl : j < T.data.toList.length := by rw [htl2]; exact hj256
    obtain ⟨y0, y1⟩ := Y7.out j hjl
    have hbj : T.data.toList[j] = by0 := by
      have h1 := HB0.out
      rw [← HTD.out, List.getElem?_eq_getElem hjl] at h1
      exact Option.some.inj h1
    rw [hbj] at y0
    have hx2 := hx1.1
    have YS := Lib.hid (Y7.out.set j nb hjl)
    have T8 : Tch [w6.heap.size] w7 (w7.setCell ⟨w6.heap.size, j, none⟩ (.int .u8 (nb.toNat : Int))) := (Tch.refl _ _).set (by simp) _
    have P8 := Lib.hid (PMy.off P6.out P7.out T8 (Nat.le_refl _))
    have s68 : w6.heap.size ≤ (w7.setCell ⟨w6.heap.size, j, none⟩ (.int .u8 (nb.toNat : Int))).heap.size := Nat.le_trans (Nat.le_of_lt hl7) T8.size
    have s16 : w1.heap.size ≤ w6.heap.size := by omega
    have B8 := Lib.hid (B7.out.setCell (p := ⟨w6.heap.size, j, none⟩) (by show w.heap.size ≤ w6.heap.size; omega) (.int .u8 (nb.toNat : Int)))
    have hjI : ((P.size : Int) * 7 + (kk : Int)) % 256 = (j : Int) := by omega
    have hjT : ((P.size : Int) * 7 + (kk : Int)).tmod 256 = (j : Int) := by rw [Int.tmod_eq_emod_of_nonneg (by omega)]; omega
    clear hbj hx1 htl hj HB0 K6 K5 B7 B6 B5 P7 P5 T8
    go_upto_region 21 with fail
    clear y0 y1 c0 c1 f0 f1 hjI hjT hx2
    have hls : (T.data.toList.set j nb).length = 256 := by rw [List.length_set]; exact htl2
    have hcv2 := run_convert_bytes_back (P := Try.prog) (w7.setCell ⟨w6.heap.size, j, none⟩ (.int .u8 (nb.toNat : Int))) 56 9 5 ⟨w6.heap.size, 0, none⟩ cb (T.data.toList.set j nb) Try.underlying56 Try.underlying5 Try.underlying9 (fun i hi => by rw [add_plain0]; exact (YS.out i hi).1)
    rw [hls] at hcv2
    obtain ⟨bz, brd, bln⟩ := HBAD.out ⟨(T.data.toList.set j nb).toArray⟩ (by rw [← HTD.out])
    generalize w7.setCell ⟨w6.heap.size, j, none⟩ (.int .u8 (nb.toNat : Int)) = w8 at *
    generalize ByteArray.mk (T.data.toList.set j nb).toArray = X at *
    have CW := Lib.hid (write_p b d1 g _ _ _ X w8 P8.out hwr1 (by omega) bln)
    have HRD := Lib.hid brd
    clear brd bln
    go_wp2_with (first
      | (go_at_call 31; ((with_reducible refine CW.out.mono ?_); rintro e w9 ⟨rfl, hp9, hb9⟩; have B9 := Lib.hid (B8.out.trans (hb9.mono s1')); have cr := pread_my b _ g _ _ (c : Int) w9 hp9; rw [HRD.out] at cr; have CR9 := Lib.hid cr; clear cr hp9 hb9))
      | (go_at_call 17; ((with_reducible refine CR9.out.mono ?_); rintro e w10 ⟨rfl, hb10⟩; have B10 := Lib.hid (B9.out.trans (hb10.mono B9.out.size)); clear hb10)))
    go_ret
    exact ⟨rfl, B10.out⟩
end Pg
end Go.Proofs.Ytgilmcmanomkiaa
