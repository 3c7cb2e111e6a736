/-
  What text does (package root): a slot's bytes.
-/
import Derived.Test.YtojbanknbgihgaaDoorRootMay
namespace Go.Proofs.YtojbanknbgihgaaDoor
open Go.RowKit
namespace Rt
open B Dsk

theorem four_nat (n : Nat) (i : Int) (w : World) (hn : n < 4294967296) (hi : i = (n : Int)) : Calls Tryd.prog 36 #[.int .u32 i] w fun e w' => e = .returned (.string ⟨(four n).toArray⟩) ∧ Below w.heap.size w w' := by
  subst hi
  have := four_any (BitVec.ofNat 32 n) w
  rw [BitVec.toNat_ofNat, Nat.mod_eq_of_lt (by omega)] at this
  exact this
theorem fourS_size (n : Nat) : (ByteArray.mk (four n).toArray).size = 4 := rfl
theorem crc_one (s : ByteArray) (w : World) (hs : s.size ≤ maxLen) (g : Nat) (hg : g = w.heap.size) : Calls Tryd.prog 37 #[.slice (some ⟨g, 0, none⟩) 1 1] (w.alloc (.cells #[.string s] 9)) fun e w' => e = .returned (.int .u32 ((Crc.on Crc.start s.data.toList).toNat : Int)) ∧ w.alloc (.cells #[.string s] 9) = w' := by
  subst hg
  have h := of_any [s] w.heap.size 1 (w.alloc (.cells #[.string s] 9)) (by simp) (by simpa using hs) (fun i hi => by
    have : i = 0 := by simpa using hi
    subst this
    rw [World.cell?_alloc_mark]; rfl)
  have e : joined [s] = s.data.toList := by simp [joined]
  rw [e] at h
  exact h
theorem rep219 (w : World) : Calls Tryd.prog 38 #[.string ⟨#[0]⟩, .int .i64 219] w fun e w' => e = .returned (.string ⟨(List.replicate 219 0).toArray⟩) ∧ Below w.heap.size w w' := by
  have h := Tryd.strings_Repeat ⟨#[0]⟩ 219 w (by omega) (by decide)
  have e : Lib.repeatL (ByteArray.mk #[0]).data.toList 219 = List.replicate 219 (0 : UInt8) := by decide +kernel
  rw [e] at h
  exact h

theorem w64 (x : Int) (h0 : 0 ≤ x) (h1 : x ≤ 2147483648) : wrap64 x % 4294967296 = (x.toNat : Int) := by
  have hw : wrap64 x = x := by unfold wrap64; go_num
  rw [hw]; omega
theorem nums_step (r : R) : (nums r).take 4 = (nums r).take 0 ++ four (r.page + 1).toNat ∧ (nums r).take 8 = (nums r).take 4 ++ four r.next.toNat ∧ (nums r).take 12 = (nums r).take 8 ++ four r.count.toNat ∧ (nums r).take 16 = (nums r).take 12 ++ four r.height.toNat ∧ (nums r).take 16 = nums r := ⟨rfl, rfl, rfl, rfl, rfl⟩
theorem grow_S {S : ByteArray} {n : Nat} {E N N' : List UInt8} {b : UInt8} (h : S.data.toList = E ++ (b :: N)) (hN : N' = N ++ four n) : (S ++ ByteArray.mk (four n).toArray).data.toList = E ++ (b :: N') := by
  rw [cat_data, h, hN]; simp

set_option maxRecDepth 100000 in
set_option maxHeartbeats 4000000 in
theorem text_any (r : R) (w : World) (hL : Lst w) (hm : may r) (he : r.ep < 18446744073709551616) :
    Calls Tryd.prog 27 #[rv r] w fun e w' => e = .returned (.string (txt r)) ∧ Below w.heap.size w w' := by
  have CN := Lib.hid (fun W => numbers_any r W)
  have CR := Lib.hid (fun W => rep219 W)
  have C1 := Lib.hid (fun W => four_nat (r.ep / 4294967296) (IntKind.u32.wrap ((r.ep : Int) / 4294967296)) W (by omega) (by show ((r.ep : Int) / 4294967296) % 4294967296 = _; omega))
  have C2 := Lib.hid (fun W => four_nat (r.ep % 4294967296) (IntKind.u32.wrap (r.ep : Int)) W (by omega) (by show (r.ep : Int) % 4294967296 = _; omega))
  have HL := Lib.hid hL
  have HM := Lib.hid hm
  have hs0 := hL.1
  have z1 := fourS_size (r.ep / 4294967296)
  have z2 := fourS_size (r.ep % 4294967296)
  clear hL hm
  go_enter Tryd.func27, Tryd.ntmps27
  go_upto_region 1 with fail
  have K0 := Lib.hid (heap_last w (.cells #[.int .u64 (r.ep : Int), .int .i64 r.half, .int .i64 r.page, .int .i64 r.next, .int .i64 r.count, .int .i64 r.height] 24) w.heap.size rfl)
  have B0 := Lib.hid ((Below.refl w.heap.size w).alloc (Nat.le_refl _) (.cells #[.int .u64 (r.ep : Int), .int .i64 r.half, .int .i64 r.page, .int .i64 r.next, .int .i64 r.count, .int .i64 r.height] 24))
  generalize w.alloc (.cells #[.int .u64 (r.ep : Int), .int .i64 r.half, .int .i64 r.page, .int .i64 r.next, .int .i64 r.count, .int .i64 r.height] 24) = W at *
  obtain ⟨k0, k1, k2, k3, k4, k5, _⟩ := row6 K0.out
  have hl := blk_lt K0.out
  go_region_held3 (fun w' => w'.cell? ⟨w.heap.size, 0, none⟩ = some (.int .u64 (r.ep : Int)))
    (first | go_keep | exact q0)
    (first
      | (go_at_call 36; (with_reducible refine (C1.out _).mono ?_); rintro e w' ⟨rfl, hb⟩; have q0 := (hb.cell (p := ⟨w.heap.size, 0, none⟩) (by first | exact xl | simpa using hl)).trans (by first | exact q0 | simpa using k0); have y : Below W.heap.size W w' := (by first | exact y.trans (hb.mono y.size) | exact ⟨hb.os, hb.tape, hb.output, hb.size, hb.block⟩); have xl : w.heap.size < w'.heap.size := Nat.lt_of_lt_of_le hl y.size)
      | (go_at_call 36; (with_reducible refine (C2.out _).mono ?_); rintro e w' ⟨rfl, hb⟩; have q0 := (hb.cell (p := ⟨w.heap.size, 0, none⟩) (by first | exact xl | simpa using hl)).trans (by first | exact q0 | simpa using k0); have y : Below W.heap.size W w' := (by first | exact y.trans (hb.mono y.size) | exact ⟨hb.os, hb.tape, hb.output, hb.size, hb.block⟩); have xl : w.heap.size < w'.heap.size := Nat.lt_of_lt_of_le hl y.size))
  have BY := Lib.hid (B0.out.trans (y.mono B0.out.size))
  have KY := Lib.hid (blk_below K0.out y hl)
  have EE : Hid ((ByteArray.mk (four (r.ep / 4294967296)).toArray ++ ByteArray.mk (four (r.ep % 4294967296)).toArray).data.toList = epB r.ep) := cat_data _ _
  have ez : (ByteArray.mk (four (r.ep / 4294967296)).toArray ++ ByteArray.mk (four (r.ep % 4294967296)).toArray).size = 8 := by rw [cat_size]; rfl
  clear k0 k1 k2 k3 k4 k5 q0 hb y xl z1 z2 C1 C2 K0 B0
  generalize ByteArray.mk (four (r.ep / 4294967296)).toArray ++ ByteArray.mk (four (r.ep % 4294967296)).toArray = EB at *
  generalize w' = wy at *
  obtain ⟨k0, k1, k2, k3, k4, k5, _⟩ := row6 KY.out
  obtain ⟨hb, hhb, hcb⟩ : ∃ hb : UInt8, hb = UInt8.ofNat r.half.toNat ∧ (IntKind.u8.wrap r.half) = (hb.toNat : Int) := ⟨_, rfl, by
    rcases HM.out.1 with h | h <;> rw [h] <;> decide⟩
  have hcv := conv_one wy hb _ rfl
  have es : (EB ++ ByteArray.mk #[hb]).size = 9 := by rw [cat_size, ez]; rfl
  have ES : Hid ((EB ++ ByteArray.mk #[hb]).data.toList = epB r.ep ++ (hb :: (nums r).take 0)) := by rw [Hid, cat_bytes, EE.out]; rfl
  have HHB := Lib.hid hhb
  obtain ⟨a0, a1, a2, a3, a4, a5, _⟩ := row6 (hp_old (.cells #[.int .u8 (hb.toNat : Int)] 5) KY.out)
  clear hhb
  go_wp2_with (go_at_call 34; ((with_reducible refine (CN.out _).mono ?_); rintro e w2 ⟨rfl, hb2⟩; have B2 := Lib.hid ((BY.out.alloc BY.out.size _).trans (hb2.mono (by have := BY.out.size; simp; omega))); clear hb2))
  generalize EB ++ ByteArray.mk #[hb] = S0 at *
  have LL := Lib.hid (HL.out.below B2.out hs0)
  obtain ⟨x0, x1, x2, x3⟩ := idx4 (.int .i64 r.page) (.int .i64 r.next) (.int .i64 r.count) (.int .i64 r.height) w2
  clear k0 k1 k2 k3 k4 k5 a0 a1 a2 a3 a4 a5 KY hcv CN x0 x1 x2 x3
  go_loopw [26, 4] (fun t26 t4 wr => ∃ (k : Nat) (S : ByteArray), k ≤ 4 ∧ t26 = .int .i64 (k : Int) ∧ t4 = .string S ∧ S.size = 9 + 4 * k ∧ S.data.toList = epB r.ep ++ (hb :: (nums r).take (4 * k)) ∧ Below w.heap.size w wr) (fun t26 _ _ => 4 - (intOf t26).toNat)
  case atStart => exact ⟨0, S0, Nat.zero_le _, rfl, rfl, es, ES.out, B2.out⟩
  case round =>
    obtain ⟨k, S, hk, rfl, rfl, hS, hSd, hbel⟩ := hrel
    have HS := Lib.hid hSd
    have BB := Lib.hid hbel
    obtain ⟨_, l0, l1, l2, l3⟩ := HL.out.below hbel hs0
    obtain ⟨x0, x1, x2, x3⟩ := idx4 (.int .i64 r.page) (.int .i64 r.next) (.int .i64 r.count) (.int .i64 r.height) wr
    clear hSd hbel B2 LL ES es
    rcases (show k = 0 ∨ k = 1 ∨ k = 2 ∨ k = 3 ∨ k = 4 by omega) with rfl | rfl | rfl | rfl | rfl
    · have CQ := Lib.hid (fun W => four_nat (r.page + 1).toNat (wrap64 (r.page + 1) % 4294967296) W (by have := HM.out.2.1; omega) (w64 _ (by have := HM.out.2.1; omega) (by have := HM.out.2.1; omega)))
      have hz := fourS_size (r.page + 1).toNat
      have NS := Lib.hid (grow_S (n := (r.page + 1).toNat) HS.out (nums_step r).1)
      have hS2 : (S ++ ByteArray.mk (four (r.page + 1).toNat).toArray).size = 13 := by rw [cat_size, hS, hz]
      have HS2 := Lib.hid hS2
      clear hS2
      go_wp2_with (go_at_call 36; ((with_reducible refine (CQ.out _).mono ?_); rintro e w3 ⟨rfl, hb3⟩; have B3 := Lib.hid (BB.out.trans (hb3.mono BB.out.size)); clear hb3))
      go_roundw
      case rel => exact ⟨1, _, by omega, rfl, rfl, HS2.out, NS.out, B3.out⟩
      case measure => simp [intOf]
    · have CQ := Lib.hid (fun W => four_nat r.next.toNat (wrap64 (r.next) % 4294967296) W (by have := HM.out.2.2.1; omega) (w64 _ (by have := HM.out.2.2.1; omega) (by have := HM.out.2.2.1; omega)))
      have hz := fourS_size r.next.toNat
      have NS := Lib.hid (grow_S (n := r.next.toNat) HS.out (nums_step r).2.1)
      have hS2 : (S ++ ByteArray.mk (four r.next.toNat).toArray).size = 17 := by rw [cat_size, hS, hz]
      have HS2 := Lib.hid hS2
      clear hS2
      go_wp2_with (go_at_call 36; ((with_reducible refine (CQ.out _).mono ?_); rintro e w3 ⟨rfl, hb3⟩; have B3 := Lib.hid (BB.out.trans (hb3.mono BB.out.size)); clear hb3))
      go_roundw
      case rel => exact ⟨2, _, by omega, rfl, rfl, HS2.out, NS.out, B3.out⟩
      case measure => simp [intOf]
    · have CQ := Lib.hid (fun W => four_nat r.count.toNat (wrap64 (r.count) % 4294967296) W (by have := HM.out.2.2.2.1; omega) (w64 _ (by have := HM.out.2.2.2.1; omega) (by have := HM.out.2.2.2.1; omega)))
      have hz := fourS_size r.count.toNat
      have NS := Lib.hid (grow_S (n := r.count.toNat) HS.out (nums_step r).2.2.1)
      have hS2 : (S ++ ByteArray.mk (four r.count.toNat).toArray).size = 21 := by rw [cat_size, hS, hz]
      have HS2 := Lib.hid hS2
      clear hS2
      go_wp2_with (go_at_call 36; ((with_reducible refine (CQ.out _).mono ?_); rintro e w3 ⟨rfl, hb3⟩; have B3 := Lib.hid (BB.out.trans (hb3.mono BB.out.size)); clear hb3))
      go_roundw
      case rel => exact ⟨3, _, by omega, rfl, rfl, HS2.out, NS.out, B3.out⟩
      case measure => simp [intOf]
    · have CQ := Lib.hid (fun W => four_nat r.height.toNat (wrap64 (r.height) % 4294967296) W (by have := HM.out.2.2.2.2; omega) (w64 _ (by have := HM.out.2.2.2.2; omega) (by have := HM.out.2.2.2.2; omega)))
      have hz := fourS_size r.height.toNat
      have NS := Lib.hid (grow_S (n := r.height.toNat) HS.out (nums_step r).2.2.2.1)
      have hS2 : (S ++ ByteArray.mk (four r.height.toNat).toArray).size = 25 := by rw [cat_size, hS, hz]
      have HS2 := Lib.hid hS2
      clear hS2
      go_wp2_with (go_at_call 36; ((with_reducible refine (CQ.out _).mono ?_); rintro e w3 ⟨rfl, hb3⟩; have B3 := Lib.hid (BB.out.trans (hb3.mono BB.out.size)); clear hb3))
      go_roundw
      case rel => exact ⟨4, _, by omega, rfl, rfl, HS2.out, NS.out, B3.out⟩
      case measure => simp [intOf]
    · have hS' : S.size = 25 := hS
      have HF : Hid (S.data.toList = fields r) := by rw [Hid, HS.out, HHB.out]; rfl
      have CO := Lib.hid (fun W => crc_one S W (by unfold maxLen; omega) _ rfl)
      have CQ := Lib.hid (fun W => four_any (Crc.on Crc.start S.data.toList) W)
      have hz : (ByteArray.mk (Crc.fourOf (Crc.on Crc.start S.data.toList)).toArray).size = 4 := rfl
      have HZ : Hid ((ByteArray.mk (Crc.fourOf (Crc.on Crc.start S.data.toList)).toArray).data.toList = Crc.fourOf (Crc.on Crc.start (fields r))) := by rw [Hid, HF.out]
      have hr : (ByteArray.mk (List.replicate 219 (0 : UInt8)).toArray).size = 219 := by rw [mk_size]; simp
      have HR : Hid ((ByteArray.mk (List.replicate 219 (0 : UInt8)).toArray).data.toList = List.replicate 219 0) := by simp [Hid]
      have h1 : (S ++ ByteArray.mk (Crc.fourOf (Crc.on Crc.start S.data.toList)).toArray).size = 29 := by rw [cat_size, hS', hz]
      have h2 : (S ++ ByteArray.mk (Crc.fourOf (Crc.on Crc.start S.data.toList)).toArray ++ EB).size = 37 := by rw [cat_size, h1, ez]
      clear hS
      generalize ByteArray.mk (Crc.fourOf (Crc.on Crc.start S.data.toList)).toArray = Z at *
      generalize ByteArray.mk (List.replicate 219 (0 : UInt8)).toArray = RP at *
      generalize Crc.on Crc.start S.data.toList = x at *
      go_wp2_with (first
        | (go_at_call 37; ((with_reducible refine (CO.out _).mono ?_); rintro e w3 ⟨rfl, rfl⟩))
        | (go_at_call 36; ((with_reducible refine (CQ.out _).mono ?_); rintro e w4 ⟨rfl, hb4⟩; have B4 := Lib.hid ((BB.out.alloc BB.out.size _).trans (hb4.mono (by have := BB.out.size; simp; omega))); clear hb4))
        | (go_at_call 38; ((with_reducible refine (CR.out _).mono ?_); rintro e w5 ⟨rfl, hb5⟩; have B5 := Lib.hid (B4.out.trans (hb5.mono B4.out.size)); clear hb5)))
      go_ret
      refine ⟨B.ret_str (ext_data ?_), B5.out⟩
      rw [cat_data, cat_data, cat_data, HF.out, HZ.out, EE.out, HR.out, txt_data]
      unfold txtL sum
      simp
end Rt
end Go.Proofs.YtojbanknbgihgaaDoor
