/-
  What the document's own Entry and Pack of a node do.
-/
import Derived.Test.YtjikioiejdfodaaNodePack
import Derived.Test.YtjikioiejdfodaaOver
import Derived.Test.YtjikioiejdfodaaNodeBack
namespace Go.Proofs.Ytjikioiejdfodaa
open Go.RowKit
namespace Nod
open B V
set_option maxRecDepth 100000 in
set_option maxHeartbeats 4000000 in
theorem refEntry_any (A1 A2 A3 : Option Addr) (c1 c2 c3 : Nat) (n : N) (i : Nat) (w : World) (h : NAt w A1 A2 A3 n) (hl : n.keys.length ≤ 1000000) (hf : Ok n) (hi : i < n.keys.length) :
    Calls Try.prog 71 #[nv A1 A2 A3 c1 c2 c3 n, .int .i64 (i : Int)] w fun e w' => e = .returned (.string (entB n i)) ∧ Below w.heap.size w w' := by
  have hfine := hf.fine
  have CT := Lib.hid (fun s (hs : s.size ≤ 1000) W => refText_any s W (by omega))
  obtain ⟨kk, hkk⟩ : ∃ kk : Nat, n.kids.getD i 0 = (kk : Int) ∧ kk < 18446744073709551616 := ⟨(n.kids.getD i 0).toNat, by have := hfine.kid' i; omega, by have := hfine.kid' i; omega⟩
  have CN := Lib.hid (fun W => refNum_any kk W hkk.2)
  have hw : IntKind.u64.wrap (kk : Int) = (kk : Int) := IntWalk.u64_in _ (by omega)
  have hs1 := hfine.key' i
  have hs2 := hfine.val' i
  have hI : (i : Int) < (n.keys.length : Int) := by omega
  obtain ⟨b, off, hA, hb, hc⟩ := h.k (by omega)
  subst hA
  have e0 : n.keys.getD i ⟨#[]⟩ = n.keys[i] := by rw [List.getD_eq_getElem?_getD, List.getElem?_eq_getElem hi]; rfl
  have c0 : w.cell? ⟨b, off + i, none⟩ = some (.string (n.keys.getD i ⟨#[]⟩)) := by rw [e0]; exact hc i hi
  have HE2 : Hid (n.kind = 2 → textB (n.keys.getD i ⟨#[]⟩) ++ ⟨(Var.num kk).toArray⟩ = entB n i) := fun hk => by
    apply ext_data
    show _ = ent n i
    rw [cat_data, textB_txt]; unfold ent; rw [if_pos hk, hkk.1, Int.toNat_natCast]
  have HE1 : Hid (n.kind ≠ 2 → textB (n.keys.getD i ⟨#[]⟩) ++ textB (n.vals.getD i ⟨#[]⟩) = entB n i) := fun hk => by
    apply ext_data
    show _ = ent n i
    rw [cat_data, textB_txt, textB_txt]; unfold ent; rw [if_neg hk]
  have z1 : (textB (n.keys.getD i ⟨#[]⟩)).size ≤ 1010 := by rw [← size_data, textB_txt]; have := txt_len (s := n.keys.getD i ⟨#[]⟩) (by omega); omega
  have z2 : (textB (n.vals.getD i ⟨#[]⟩)).size ≤ 1010 := by rw [← size_data, textB_txt]; have := txt_len (s := n.vals.getD i ⟨#[]⟩) (by omega); omega
  have z3 : (ByteArray.mk (Var.num kk).toArray).size ≤ 10 := by rw [mk_size]; exact Var.num_ten _ hkk.2
  have V1 : n.kind = 1 → (i : Int) < (n.vals.length : Int) ∧ ∃ b2 o2, A2 = some ⟨b2, o2, none⟩ ∧ b2 < w.heap.size ∧ w.cell? ⟨b2, o2 + i, none⟩ = some (.string (n.vals.getD i ⟨#[]⟩)) := fun hk => by
    have hv : n.vals.length = n.keys.length := by rcases hf.ev with ⟨_, e, _⟩ | ⟨e, _⟩ <;> omega
    obtain ⟨b2, o2, e1, e2, e3⟩ := h.v (by omega)
    refine ⟨by omega, b2, o2, e1, e2, ?_⟩
    rw [show n.vals.getD i ⟨#[]⟩ = n.vals[i]'(by omega) by rw [List.getD_eq_getElem?_getD, List.getElem?_eq_getElem (by omega)]; rfl]
    exact e3 i (by omega)
  have V2 : n.kind = 2 → (i : Int) < (n.kids.length : Int) ∧ ∃ b2 o2, A3 = some ⟨b2, o2, none⟩ ∧ b2 < w.heap.size ∧ w.cell? ⟨b2, o2 + i, none⟩ = some (.int .i64 (kk : Int)) := fun hk => by
    have hv : n.kids.length = n.keys.length := by rcases hf.ev with ⟨e, _⟩ | ⟨_, e, _⟩ <;> omega
    obtain ⟨b2, o2, e1, e2, e3⟩ := h.c (by omega)
    refine ⟨by omega, b2, o2, e1, e2, ?_⟩
    rw [← hkk.1, show n.kids.getD i 0 = n.kids[i]'(by omega) by rw [List.getD_eq_getElem?_getD, List.getElem?_eq_getElem (by omega)]; rfl]
    exact e3 i (by omega)
  have hkd := hf.kd
  unfold nv at *
  clear hc h hf hkk e0 hfine
  have CT1 := Lib.hid (CT.out _ hs1)
  have CT2 := Lib.hid (CT.out _ hs2)
  generalize n.keys.getD i ⟨#[]⟩ = key at *
  generalize n.vals.getD i ⟨#[]⟩ = val at *
  generalize n.keys.length = nk at *
  generalize n.vals.length = nvl at *
  generalize n.kids.length = nc at *
  generalize textB key = tk at *
  generalize textB val = tv at *
  generalize ByteArray.mk (Var.num kk).toArray = tn at *
  generalize n.kind = kd at *
  generalize entB n i = R at *
  rcases hkd with rfl | rfl
  · have HE := HE1.out (by omega)
    subst HE
    obtain ⟨hI2, b2, o2, rfl, hb2, c2'⟩ := V1 rfl
    clear V1 V2 HE1 HE2
    have bA := below1 w (.cells #[.int .i64 1, .slice (some ⟨b, off, none⟩) nk c1, .slice (some ⟨b2, o2, none⟩) nvl c2, .slice A3 nc c3] 55)
    have BX := Lib.hid (bx_new w (.int .i64 1) (.slice (some ⟨b, off, none⟩) nk c1) (.slice (some ⟨b2, o2, none⟩) nvl c2) (.slice A3 nc c3) 55)
    have m1 : b < (w.alloc (.cells #[.int .i64 1, .slice (some ⟨b, off, none⟩) nk c1, .slice (some ⟨b2, o2, none⟩) nvl c2, .slice A3 nc c3] 55)).heap.size := Nat.lt_of_lt_of_le hb bA.size
    have m2 : b2 < (w.alloc (.cells #[.int .i64 1, .slice (some ⟨b, off, none⟩) nk c1, .slice (some ⟨b2, o2, none⟩) nvl c2, .slice A3 nc c3] 55)).heap.size := Nat.lt_of_lt_of_le hb2 bA.size
    have d1 := (bA.cell (p := ⟨b, off + i, none⟩) hb).trans c0
    have d2 := (bA.cell (p := ⟨b2, o2 + i, none⟩) hb2).trans c2'
    go_enter Try.func71, Try.ntmps71
    go_upto_region 2 with fail
    generalize w.alloc (.cells #[.int .i64 1, .slice (some ⟨b, off, none⟩) nk c1, .slice (some ⟨b2, o2, none⟩) nvl c2, .slice A3 nc c3] 55) = W at *
    obtain ⟨k0, k1, k2, k3⟩ := BX.out.p
    have r1 := fun x => Ov.Up.cell k1 BX.out.l x
    have r2 := fun x => Ov.Up.cell k2 BX.out.l x
    have r3 := fun x => Ov.Up.cell d1 m1 x
    have r4 := fun x => Ov.Up.cell d2 m2 x
    refine Ov.region (by kernel_rfl) (by kernel_rfl) (Ov.start W) ?_
    repeat (go_big_quiet_step (first | (go_at_call_of 93 (Value.string key); exact Ov.Up.call (CT1.out _)) | (go_at_call 93; exact Ov.Up.call (CT2.out _))))
    refine wpQuiet_nil ?_
    rintro _ ⟨yo, rfl⟩
    go_wp2
    go_ret
    exact ⟨rfl, bA.trans (yo.h.mono bA.size)⟩
  · have HE := HE2.out rfl
    subst HE
    obtain ⟨hI2, b2, o2, rfl, hb2, c2'⟩ := V2 rfl
    clear V1 V2 HE1 HE2
    have bA := below1 w (.cells #[.int .i64 2, .slice (some ⟨b, off, none⟩) nk c1, .slice A2 nvl c2, .slice (some ⟨b2, o2, none⟩) nc c3] 55)
    have BX := Lib.hid (bx_new w (.int .i64 2) (.slice (some ⟨b, off, none⟩) nk c1) (.slice A2 nvl c2) (.slice (some ⟨b2, o2, none⟩) nc c3) 55)
    have m1 : b < (w.alloc (.cells #[.int .i64 2, .slice (some ⟨b, off, none⟩) nk c1, .slice A2 nvl c2, .slice (some ⟨b2, o2, none⟩) nc c3] 55)).heap.size := Nat.lt_of_lt_of_le hb bA.size
    have m2 : b2 < (w.alloc (.cells #[.int .i64 2, .slice (some ⟨b, off, none⟩) nk c1, .slice A2 nvl c2, .slice (some ⟨b2, o2, none⟩) nc c3] 55)).heap.size := Nat.lt_of_lt_of_le hb2 bA.size
    have d1 := (bA.cell (p := ⟨b, off + i, none⟩) hb).trans c0
    have d2 := (bA.cell (p := ⟨b2, o2 + i, none⟩) hb2).trans c2'
    go_enter Try.func71, Try.ntmps71
    go_upto_region 3 with fail
    generalize w.alloc (.cells #[.int .i64 2, .slice (some ⟨b, off, none⟩) nk c1, .slice A2 nvl c2, .slice (some ⟨b2, o2, none⟩) nc c3] 55) = W at *
    obtain ⟨k0, k1, k2, k3⟩ := BX.out.p
    have r1 := fun x => Ov.Up.cell k1 BX.out.l x
    have r2 := fun x => Ov.Up.cell k3 BX.out.l x
    have r3 := fun x => Ov.Up.cell d1 m1 x
    have r4 := fun x => Ov.Up.cell d2 m2 x
    refine Ov.region (by kernel_rfl) (by kernel_rfl) (Ov.start W) ?_
    repeat (go_big_quiet_step (first | (go_at_call 93; exact Ov.Up.call (CT1.out _)) | (go_at_call 70; exact Ov.Up.call (CN.out _))))
    refine wpQuiet_nil ?_
    rintro _ ⟨yo, rfl⟩
    go_wp2
    go_ret
    exact ⟨rfl, bA.trans (yo.h.mono bA.size)⟩
set_option maxRecDepth 100000 in
set_option maxHeartbeats 4000000 in
theorem refPack_any (A1 A2 A3 : Option Addr) (c1 c2 c3 : Nat) (n : N) (w : World) (h : NAt w A1 A2 A3 n) (hf : Ok n) (h3 : n.keys.length ≤ 300) :
    Calls Try.prog 35 #[nv A1 A2 A3 c1 c2 c3 n] w fun e w' => e = .returned (.string (packB n)) ∧ Below w.heap.size w w' := by
  have CE := Lib.hid (fun W (q : Below w.heap.size w W) i hi => refEntry_any A1 A2 A3 c1 c2 c3 n i W (h.below q) (by omega) hf hi)
  have CN := Lib.hid (fun W => refNum_any n.keys.length W (by omega))
  have hw : IntKind.u64.wrap (n.keys.length : Int) = (n.keys.length : Int) := IntWalk.u64_in _ (by omega)
  have HEL := Lib.hid (fun i => ent_len hf.fine i)
  have HL := Lib.hid (fun i => ents_len hf.fine i)
  have hn10 := Var.num_ten n.keys.length (by omega)
  unfold nv at *
  have bA := below1 w (.cells #[.int .i64 n.kind, .slice A1 n.keys.length c1, .slice A2 n.vals.length c2, .slice A3 n.kids.length c3] 55)
  have BX := Lib.hid (bx_new w (.int .i64 n.kind) (.slice A1 n.keys.length c1) (.slice A2 n.vals.length c2) (.slice A3 n.kids.length c3) 55)
  clear h hf
  go_enter Try.func35, Try.ntmps35
  go_upto_region 1 with fail
  generalize w.alloc (.cells #[.int .i64 n.kind, .slice A1 n.keys.length c1, .slice A2 n.vals.length c2, .slice A3 n.kids.length c3] 55) = W at *
  obtain ⟨k0, k1, k2, k3⟩ := BX.out.p
  go_wp2_with (go_at_call 70; ((with_reducible refine (CN.out _).mono ?_); rintro e w1 ⟨rfl, hb1⟩; have B1 := Lib.hid (bA.trans (hb1.mono bA.size)); have X1 := Lib.hid (BX.out.below hb1); clear hb1 k0 k1 k2 k3; obtain ⟨k0, k1, k2, k3⟩ := X1.out.p))
  clear bA BX k0 k1 k2 k3
  go_loopw [3, 13] (fun t3 t13 wr => ∃ i : Nat, i ≤ n.keys.length ∧ t13 = .int .i64 (i : Int) ∧ t3 = .string ⟨(Var.num n.keys.length ++ ents n i).toArray⟩ ∧ Below w.heap.size w wr ∧ Bx wr w.heap.size (.int .i64 n.kind) (.slice A1 n.keys.length c1) (.slice A2 n.vals.length c2) (.slice A3 n.kids.length c3)) (fun _ t13 _ => n.keys.length - (intOf t13).toNat)
  case atStart => exact ⟨0, Nat.zero_le _, rfl, by rw [ents_zero, List.append_nil], B1.out, X1.out⟩
  case round =>
    obtain ⟨i, hi, rfl, rfl, hb, hx⟩ := hrel
    have B7 := Lib.hid hb
    have X7 := Lib.hid hx
    clear B1 X1 hb hx
    by_cases hlt : i < n.keys.length
    · have hI : (i : Int) < (n.keys.length : Int) := by omega
      have CE7 := Lib.hid (CE.out wr B7.out i hlt)
      have hel := HEL.out i
      have hels := HL.out i
      have z1 : (ByteArray.mk (Var.num n.keys.length ++ ents n i).toArray).size ≤ 1000000 := by rw [mk_size, List.length_append]; omega
      have z2 : (entB n i).size ≤ 3000 := by unfold entB; rw [mk_size]; exact hel
      have HS : Hid (ByteArray.mk (Var.num n.keys.length ++ ents n i).toArray ++ entB n i = ByteArray.mk (Var.num n.keys.length ++ ents n (i + 1)).toArray) := by
        apply ext_data
        rw [cat_data, ents_succ, ← List.append_assoc]
        simp [entB]
      generalize ByteArray.mk (Var.num n.keys.length ++ ents n i).toArray = S at *
      generalize entB n i = E at *
      obtain ⟨k0, k1, k2, k3⟩ := X7.out.p
      go_wp2_with (go_at_call 71; ((with_reducible refine CE7.out.mono ?_); rintro e w8 ⟨rfl, hb8⟩; have B8 := Lib.hid (B7.out.trans (hb8.mono B7.out.size)); have X8 := Lib.hid (X7.out.below hb8); clear hb8))
      go_roundw
      case rel => exact ⟨i + 1, by omega, by go_num, by rw [HS.out], B8.out, X8.out⟩
      case measure => simp [intOf]; omega
    · have hI : ¬ (i : Int) < (n.keys.length : Int) := by omega
      obtain rfl : i = n.keys.length := by omega
      go_wp2
      go_ret
      exact ⟨rfl, B7.out⟩
end Nod
end Go.Proofs.Ytjikioiejdfodaa
