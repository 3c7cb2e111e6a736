/-
  Node: Pack, Size, Fits.
-/
import Derived.Test.YtjikioiejdfodaaNodeCheck
import Derived.Test.YtjikioiejdfodaaBldr
namespace Go.Proofs.Ytjikioiejdfodaa
open Go.RowKit
namespace Nod
open B V Bu
theorem Bx.low {w w' : World} {g Bd : Nat} {a b c d : Value} (h : Bx w g a b c d) (hb : Below Bd w w') (hg : g < Bd) : Bx w' g a b c d :=
  ⟨Nat.lt_of_lt_of_le h.l hb.size, (hb.cell (p := ⟨g, 0, none⟩) hg).trans h.p.1, (hb.cell (p := ⟨g, 1, none⟩) hg).trans h.p.2.1, (hb.cell (p := ⟨g, 2, none⟩) hg).trans h.p.2.2.1, (hb.cell (p := ⟨g, 3, none⟩) hg).trans h.p.2.2.2⟩
theorem ents_len {n : N} (h : Fine n) : ∀ k, (ents n k).length ≤ 3000 * k
  | 0 => by simp [ents]
  | k + 1 => by rw [ents_succ, List.length_append]; have := ents_len h k; have := ent_len h k; omega
set_option maxRecDepth 100000 in
set_option maxHeartbeats 4000000 in
theorem pack_any (A1 A2 A3 : Option Addr) (c1 c2 c3 : Nat) (n : N) (w : World) (h : NAt w A1 A2 A3 n) (hl : Sm n) (hf : Fine n) (h3 : n.keys.length ≤ 300) :
    Calls Try.prog 33 #[nv A1 A2 A3 c1 c2 c3 n] w fun e w' => e = .returned (.string (packB n)) ∧ Below w.heap.size w w' := by
  have CL := Lib.hid (fun W => len_any A1 A2 A3 c1 c2 c3 n W)
  have CE := Lib.hid (fun W (q : Below w.heap.size w W) i (hi : i < n.keys.length) => entry_any A1 A2 A3 c1 c2 c3 n i W (h.below q) hl hf hi)
  have CN := Lib.hid (fun W => num_any n.keys.length W (by omega))
  have hw : IntKind.u64.wrap (n.keys.length : Int) = (n.keys.length : Int) := IntWalk.u64_in _ (by omega)
  have hnl := Var.num_ten n.keys.length (by omega)
  have HL := Lib.hid (ents_len hf)
  have HEL := Lib.hid (ent_len hf)
  unfold nv at *
  have bA := below1 w (.cells #[.int .i64 n.kind, .slice A1 n.keys.length c1, .slice A2 n.vals.length c2, .slice A3 n.kids.length c3] 57)
  have BX := Lib.hid (bx_new w (.int .i64 n.kind) (.slice A1 n.keys.length c1) (.slice A2 n.vals.length c2) (.slice A3 n.kids.length c3) 57)
  have BL := Lib.hid (bld_new (w.alloc (.cells #[.int .i64 n.kind, .slice A1 n.keys.length c1, .slice A2 n.vals.length c2, .slice A3 n.kids.length c3] 57)) (w.heap.size + 1) (by simp))
  have b2 := below1 (w.alloc (.cells #[.int .i64 n.kind, .slice A1 n.keys.length c1, .slice A2 n.vals.length c2, .slice A3 n.kids.length c3] 57)) (.cells #[.pointer none, .slice none 0 0] 100)
  have B2 := Lib.hid (bA.trans (b2.mono bA.size))
  have X2 := Lib.hid (BX.out.below b2)
  have hs2 : w.heap.size + 1 ≤ ((w.alloc (.cells #[.int .i64 n.kind, .slice A1 n.keys.length c1, .slice A2 n.vals.length c2, .slice A3 n.kids.length c3] 57)).alloc (.cells #[.pointer none, .slice none 0 0] 100)).heap.size := by simp
  clear h hl hf bA BX b2
  go_enter Try.func33, Try.ntmps33
  go_upto_region 2 with fail
  generalize (w.alloc (.cells #[.int .i64 n.kind, .slice A1 n.keys.length c1, .slice A2 n.vals.length c2, .slice A3 n.kids.length c3] 57)).alloc (.cells #[.pointer none, .slice none 0 0] 100) = W at *
  have hgb : (w.alloc (.cells #[.int .i64 n.kind, .slice A1 n.keys.length c1, .slice A2 n.vals.length c2, .slice A3 n.kids.length c3] 57)).heap.size = w.heap.size + 1 := by simp
  rw [hgb] at BL
  clear hgb
  obtain ⟨k0, k1, k2, k3⟩ := X2.out.p
  go_wp2_with (first
    | (go_at_call 38; ((with_reducible refine (CL.out _).mono ?_); rintro e w6 ⟨rfl, hb6⟩; have B6 := Lib.hid (B5.out.trans (hb6.mono B5.out.size)); have X6 := Lib.hid (X5.out.below hb6); have L6 := Lib.hid (bld_keep L5.out hb6); have hs6 : w.heap.size + 1 ≤ w6.heap.size := Nat.le_trans hs5 hb6.size; clear hb6))
    | (go_at_call 38; ((with_reducible refine (CL.out _).mono ?_); rintro e w3 ⟨rfl, hb3⟩; have B3 := Lib.hid (B2.out.trans (hb3.mono B2.out.size)); have X3 := Lib.hid (X2.out.below hb3); have L3 := Lib.hid (bld_keep BL.out hb3); have hs3 : w.heap.size + 1 ≤ w3.heap.size := Nat.le_trans hs2 hb3.size; clear hb3))
    | (go_at_call 62; ((with_reducible refine (CN.out _).mono ?_); rintro e w4 ⟨rfl, hb4⟩; have B4 := Lib.hid (B3.out.trans (hb4.mono B3.out.size)); have X4 := Lib.hid (X3.out.below hb4); have L4 := Lib.hid (bld_keep L3.out hb4); have hs4 : w.heap.size + 1 ≤ w4.heap.size := Nat.le_trans hs3 hb4.size; clear hb4; have CW := Lib.hid (wstr _ _ [] ⟨(Var.num n.keys.length).toArray⟩ _ L4.out (by rw [mk_size]; simp; omega) hs4)))
    | (go_at_call 61; ((with_reducible refine CW.out.mono ?_); rintro e w5 ⟨rfl, hl5, hb5⟩; have B5 := Lib.hid (B4.out.trans (hb5.mono (by omega))); have X5 := Lib.hid (X4.out.low hb5 (by omega)); have L5 := Lib.hid hl5; have hs5 : w.heap.size + 1 ≤ w5.heap.size := Nat.le_trans hs4 hb5.size; clear hb5 hl5; obtain ⟨j0, j1, j2, j3⟩ := X5.out.p)))
  clear B2 X2 BL B3 X3 L3 B4 X4 L4 CW B5 X5 L5 k0 k1 k2 k3 j0 j1 j2 j3
  go_loopw [12] (fun t12 wr => ∃ i : Nat, i ≤ n.keys.length ∧ t12 = .int .i64 (i : Int) ∧ Below w.heap.size w wr ∧ Bx wr w.heap.size (.int .i64 n.kind) (.slice A1 n.keys.length c1) (.slice A2 n.vals.length c2) (.slice A3 n.kids.length c3) ∧ Bld (w.heap.size + 1) (w.heap.size + 1) (Var.num n.keys.length ++ ents n i) wr ∧ w.heap.size + 1 ≤ wr.heap.size) (fun t12 _ => n.keys.length - (intOf t12).toNat)
  case atStart => exact ⟨0, Nat.zero_le _, rfl, B6.out, X6.out, by rw [ents_zero, List.append_nil]; exact L6.out, hs6⟩
  case round =>
    obtain ⟨i, hi, rfl, hb, hx, hbl, hs⟩ := hrel
    have B7 := Lib.hid hb
    have X7 := Lib.hid hx
    have L7 := Lib.hid hbl
    clear B6 X6 L6 hs6 hb hx hbl
    by_cases hlt : i < n.keys.length
    · have hI : (i : Int) < (n.keys.length : Int) := by omega
      have CE7 := Lib.hid (CE.out wr B7.out i hlt)
      have hel := HEL.out i
      have hels := HL.out i
      obtain ⟨k0, k1, k2, k3⟩ := X7.out.p
      go_wp2_with (first
        | (go_at_call 63; ((with_reducible refine CE7.out.mono ?_); rintro e w8 ⟨rfl, hb8⟩; have B8 := Lib.hid (B7.out.trans (hb8.mono B7.out.size)); have X8 := Lib.hid (X7.out.below hb8); have L8 := Lib.hid (bld_keep L7.out hb8); have hs8 : w.heap.size + 1 ≤ w8.heap.size := Nat.le_trans hs hb8.size; clear hb8; have CW := Lib.hid (wstr _ _ _ (entB n i) _ L8.out (by unfold entB; rw [mk_size, List.length_append]; omega) hs8)))
        | (go_at_call 61; ((with_reducible refine CW.out.mono ?_); rintro e w9 ⟨rfl, hl9, hb9⟩; have B9 := Lib.hid (B8.out.trans (hb9.mono (by omega))); have X9 := Lib.hid (X8.out.low hb9 (by omega)); have L9 := Lib.hid hl9; have hs9 : w.heap.size + 1 ≤ w9.heap.size := Nat.le_trans hs8 hb9.size; clear hb9 hl9)))
      go_roundw
      case rel => exact ⟨i + 1, by omega, by go_num, B9.out, X9.out, by rw [ents_succ, ← List.append_assoc]; exact L9.out, hs9⟩
      case measure => simp [intOf]; omega
    · have hI : ¬ (i : Int) < (n.keys.length : Int) := by omega
      obtain rfl : i = n.keys.length := by omega
      have CS := Lib.hid (bstr _ _ _ _ L7.out hs)
      go_wp2_with (go_at_call 64; ((with_reducible refine CS.out.mono ?_); rintro e w8 ⟨rfl, hb8⟩; have B8 := Lib.hid (B7.out.trans (hb8.mono (by omega))); clear hb8))
      go_ret
      exact ⟨rfl, B8.out⟩
set_option maxHeartbeats 1000000 in
theorem size_any (A1 A2 A3 : Option Addr) (c1 c2 c3 : Nat) (n : N) (w : World) (h : NAt w A1 A2 A3 n) (hl : Sm n) (hf : Fine n) (h3 : n.keys.length ≤ 300) :
    Calls Try.prog 36 #[nv A1 A2 A3 c1 c2 c3 n] w fun e w' => e = .returned (.int .i64 (size n : Int)) ∧ Below w.heap.size w w' := by
  have CP := Lib.hid (fun W (q : Below w.heap.size w W) => pack_any A1 A2 A3 c1 c2 c3 n W (h.below q) hl hf h3)
  have HS : Hid ((packB n).size = size n) := packB_size n
  unfold nv at *
  have bA := below1 w (.cells #[.int .i64 n.kind, .slice A1 n.keys.length c1, .slice A2 n.vals.length c2, .slice A3 n.kids.length c3] 57)
  clear h hl hf
  rw [← HS.out]
  generalize packB n = S at *
  go_enter Try.func36, Try.ntmps36
  go_wp2_with (go_at_call 33; ((with_reducible refine (CP.out _ bA).mono ?_); rintro e w1 ⟨rfl, hb1⟩; have B1 := Lib.hid (bA.trans (hb1.mono bA.size)); clear hb1))
  go_ret
  exact ⟨rfl, B1.out⟩
set_option maxHeartbeats 1000000 in
theorem fits_any (A1 A2 A3 : Option Addr) (c1 c2 c3 : Nat) (n : N) (w : World) (h : NAt w A1 A2 A3 n) (hl : Sm n) (hf : Fine n) (h3 : n.keys.length ≤ 300) :
    Calls Try.prog 37 #[nv A1 A2 A3 c1 c2 c3 n] w fun e w' => e = .returned (.bool (decide ((size n : Int) ≤ 240))) ∧ Below w.heap.size w w' := by
  have CP := Lib.hid (fun W (q : Below w.heap.size w W) => size_any A1 A2 A3 c1 c2 c3 n W (h.below q) hl hf h3)
  unfold nv at *
  have bA := below1 w (.cells #[.int .i64 n.kind, .slice A1 n.keys.length c1, .slice A2 n.vals.length c2, .slice A3 n.kids.length c3] 57)
  clear h hl hf
  generalize size n = S at *
  go_enter Try.func37, Try.ntmps37
  go_wp2_with (go_at_call 36; ((with_reducible refine (CP.out _ bA).mono ?_); rintro e w1 ⟨rfl, hb1⟩; have B1 := Lib.hid (bA.trans (hb1.mono bA.size)); clear hb1))
  go_ret
  exact ⟨rfl, B1.out⟩
end Nod
end Go.Proofs.Ytjikioiejdfodaa
