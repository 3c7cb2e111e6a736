/-
  What the document's own Parse of layer 9 does.
-/
import Derived.Test.YtjikioiejdfodaaNodeRTx
import Derived.Test.YtjikioiejdfodaaNodeRCk
import Derived.Test.YtjikioiejdfodaaNodeNB
import Derived.Test.YtjikioiejdfodaaNodeBack
namespace Go.Proofs.Ytjikioiejdfodaa
open Go.RowKit
namespace Nod
open B V
set_option linter.unusedVariables false
theorem hd_lt : ∀ (l : List UInt8) (i acc x n : Nat), i ≤ 9 → acc < 128 ^ i → Var.hd i acc l = (x, n, 0) → x < 18446744073709551616
  | [], i, acc, x, n, _, _, h => by simp [Var.hd] at h
  | b :: r, i, acc, x, n, hi, ha, h => by
    rw [Var.hd] at h
    have hb := b.toNat_lt
    by_cases h1 : (0 < i ∧ b.toNat = 0) ∨ (i = 9 ∧ 1 < b.toNat)
    · rw [if_pos h1] at h; simp at h
    · rw [if_neg h1] at h
      have hle : 128 ^ i ≤ 128 ^ 9 := Nat.pow_le_pow_right (by omega) hi
      have h9 : (128 : Nat) ^ 9 = 9223372036854775808 := rfl
      by_cases h2 : b.toNat < 128
      · rw [if_pos h2] at h
        simp only [Prod.mk.injEq] at h
        obtain ⟨rfl, _⟩ := h
        by_cases hi9 : i = 9
        · subst hi9
          have hb1 : b.toNat ≤ 1 := by omega
          have : b.toNat * 128 ^ 9 ≤ 1 * 128 ^ 9 := Nat.mul_le_mul_right _ hb1
          omega
        · have hp : 128 ^ (i + 1) ≤ 128 ^ 9 := Nat.pow_le_pow_right (by omega) (by omega)
          rw [Nat.pow_succ] at hp
          have : b.toNat * 128 ^ i ≤ 127 * 128 ^ i := Nat.mul_le_mul_right _ (by omega)
          omega
      · rw [if_neg h2] at h
        have hi8 : i ≤ 8 := by omega
        refine hd_lt r (i + 1) _ x n (by omega) ?_ h
        rw [Nat.pow_succ]
        have : b.toNat % 128 * 128 ^ i ≤ 127 * 128 ^ i := Nat.mul_le_mul_right _ (by omega)
        omega
theorem endS_err {R : ByteArray} {f : Nat} (hf : f ≠ 0) : endS R f = f := by unfold endS; rw [if_neg (by omega)]
theorem nparse_head {k : Int} {s : ByteArray} {e : Nat} (hk : k = 1 ∨ k = 2) (he : (Var.hd 0 0 s.data.toList).2.2 = e) (h0 : e ≠ 0) : nparse k s = (.zero, e) := by
  have h1 : numS s 0 18446744073709551615 = (0, ⟨#[]⟩, e) := by unfold numS; rw [he, if_neg h0]; unfold failS; rw [if_neg (by simp only [ne_eq, not_true, or_false]; exact h0)]
  rw [nparse_at hk h1 (show many k 0 ⟨#[]⟩ e = ([], ⟨#[]⟩, e) from rfl), endS_err h0, if_pos h0]
theorem nparse_err {k : Int} {s S0 S : ByteArray} {x left f : Nat} {G : List E} (hk : k = 1 ∨ k = 2) (h1 : numS s 0 18446744073709551615 = (x, S0, 0)) (hr : (G ++ (many k (left + 1) S 0).1, (many k (left + 1) S 0).2) = many k x S0 0) (ho : (one k S).2.2 = f) (hf : f ≠ 0) : nparse k s = (.zero, f) := by
  obtain ⟨y, S', f', ho'⟩ : ∃ y S' f', one k S = (y, S', f') := ⟨_, _, _, rfl⟩
  rw [ho'] at ho
  simp only at ho
  subst ho
  have := many_next ho' hr
  rw [many_err k left S' hf] at this
  rw [nparse_at hk h1 this.symm, endS_err hf, if_pos hf]
theorem nparse_end {k : Int} {s S0 S : ByteArray} {x : Nat} {G : List E} (hk : k = 1 ∨ k = 2) (h1 : numS s 0 18446744073709551615 = (x, S0, 0)) (hr : (G ++ (many k 0 S 0).1, (many k 0 S 0).2) = many k x S0 0) : nparse k s = if 0 < S.size then (.zero, 3) else if check (mk k G) then (mk k G, 0) else (.zero, 1) := by
  have : many k x S0 0 = (G, S, 0) := by rw [← hr]; simp [many]
  rw [nparse_at hk h1 this]
  unfold endS
  by_cases h : 0 < S.size
  · simp [h]
  · simp [h]
theorem one_err1 {k : Int} {S : ByteArray} {f : Nat} (h : (textS S 0 16).2.2 = f) (hf : f ≠ 0) : (one k S).2.2 = f := by
  unfold one
  split
  · show (textS (textS S 0 16).2.1 (textS S 0 16).2.2 32).2.2 = f
    rw [textS_keep (by omega), h]
  · show (numS (textS S 0 16).2.1 (textS S 0 16).2.2 2147483647).2.2 = f
    rw [numS_keep (by omega), h]
theorem one1_ok {S A T B U : ByteArray} {g : Nat} (h : textS S 0 16 = (A, T, 0)) (h2 : textS T 0 32 = (B, U, g)) : one 1 S = ((A, B, 0), U, g) := by unfold one; rw [if_pos rfl, h]; simp only [h2]
theorem one2_ok {S A T U : ByteArray} {p g : Nat} (h : textS S 0 16 = (A, T, 0)) (h2 : numS T 0 2147483647 = (p, U, g)) : one 2 S = ((A, ⟨#[]⟩, (p : Int)), U, g) := by unfold one; rw [if_neg (by omega), h]; simp only [h2]
structure RP (Bd : Nat) (w wr : World) (k : Int) (vk vv vc : Value) (K Vv : List ByteArray) (C : List Int) : Prop where
  nb : NB 55 (Bd + 2) wr (Bd + 1) k vk vv vc K Vv C
  r4 : wr.heap[Bd]? = some (.cells #[.int .i64 0, .slice none 0 0, .slice none 0 0, .slice none 0 0] 55)
  b : Below Bd w wr
section
variable {Bd : Nat} {w wr : World} {k : Int} {vk vv vc : Value} {K Vv : List ByteArray} {C : List Int}
theorem RP.drewN (h : RP Bd w wr k vk vv vc K Vv C) (hB : Bd ≤ wr.heap.size) (n : Nat) : RP Bd w (wr.drewN n) k vk vv vc K Vv C :=
  have hb : Below wr.heap.size wr (wr.drewN n) := ⟨rfl, rfl, rfl, Nat.le_refl _, fun _ _ => rfl⟩
  ⟨h.nb.below hb, blk_thru hb h.r4, h.b.trans (hb.mono hB)⟩
theorem RP.key {o : Obj} {w' : World} {g cap : Nat} {x : ByteArray} (h : RP Bd w wr k vk vv vc K Vv C) (own : w'.ownsRow (Bd + 2) 9 1 (.slice (some ⟨g, 0, none⟩) (K.length + 1) cap) (K.length + 1) (K.map vStr ++ [.string x])) (grow : (wr.alloc o).grownBy w' vk.ownBlock) (lies : vk.ownBlock = some g ∨ g = (wr.alloc o).heap.size) :
    RP Bd w (w'.setCell ⟨Bd + 1, 1, none⟩ (.slice (some ⟨g, 0, none⟩) (K.length + 1) cap)) k (.slice (some ⟨g, 0, none⟩) (K.length + 1) cap) vv vc (K ++ [x]) Vv C :=
  ⟨h.nb.key own grow lies, (low_step (gN := Bd + 1) (j := 1) h.nb.l4 (fun b hb => own_ge h.nb.ok hb) grow Bd (by omega) (by omega)).trans h.r4, h.b.trans (below_step (by omega) (by omega) h.nb.l4 (fun b hb => own_ge h.nb.ok hb) grow)⟩
theorem RP.val {o : Obj} {w' : World} {g cap : Nat} {x : ByteArray} (h : RP Bd w wr k vk vv vc K Vv C) (own : w'.ownsRow (Bd + 2) 9 1 (.slice (some ⟨g, 0, none⟩) (Vv.length + 1) cap) (Vv.length + 1) (Vv.map vStr ++ [.string x])) (grow : (wr.alloc o).grownBy w' vv.ownBlock) (lies : vv.ownBlock = some g ∨ g = (wr.alloc o).heap.size) :
    RP Bd w (w'.setCell ⟨Bd + 1, 2, none⟩ (.slice (some ⟨g, 0, none⟩) (Vv.length + 1) cap)) k vk (.slice (some ⟨g, 0, none⟩) (Vv.length + 1) cap) vc K (Vv ++ [x]) C :=
  ⟨h.nb.val own grow lies, (low_step (gN := Bd + 1) (j := 2) h.nb.l4 (fun b hb => own_ge h.nb.ov hb) grow Bd (by omega) (by omega)).trans h.r4, h.b.trans (below_step (by omega) (by omega) h.nb.l4 (fun b hb => own_ge h.nb.ov hb) grow)⟩
theorem RP.kid {o : Obj} {w' : World} {g cap : Nat} {x : Int} (h : RP Bd w wr k vk vv vc K Vv C) (own : w'.ownsRow (Bd + 2) 3 1 (.slice (some ⟨g, 0, none⟩) (C.length + 1) cap) (C.length + 1) (C.map vInt ++ [.int .i64 x])) (grow : (wr.alloc o).grownBy w' vc.ownBlock) (lies : vc.ownBlock = some g ∨ g = (wr.alloc o).heap.size) :
    RP Bd w (w'.setCell ⟨Bd + 1, 3, none⟩ (.slice (some ⟨g, 0, none⟩) (C.length + 1) cap)) k vk vv (.slice (some ⟨g, 0, none⟩) (C.length + 1) cap) K Vv (C ++ [x]) :=
  ⟨h.nb.kid own grow lies, (low_step (gN := Bd + 1) (j := 3) h.nb.l4 (fun b hb => own_ge h.nb.oc hb) grow Bd (by omega) (by omega)).trans h.r4, h.b.trans (below_step (by omega) (by omega) h.nb.l4 (fun b hb => own_ge h.nb.oc hb) grow)⟩
end
theorem rnode_info' : (Try.prog.info? 55).map (·.size) = some 4 := by kernel_rfl
set_option maxHeartbeats 1000000 in
theorem refParse_kind (k : Int) (s : ByteArray) (w : World) (h1 : k ≠ 1) (h2 : k ≠ 2) :
    Calls Try.prog 41 #[.int .i64 k, .string s] w fun e w' => ∃ v, e = .returned (.tuple #[v, .int .i64 ((nparse k s).2 : Int)]) ∧ NOwn w.heap.size w' v (nparse k s).1 ∧ Below w.heap.size w w' := by
  have hn : nparse k s = (.zero, 13) := by unfold nparse; rw [if_pos ⟨h1, h2⟩]
  rw [hn]
  have e1 : (k != 1) = true := by simpa using h1
  have e2 : (k != 2) = true := by simpa using h2
  have K := Lib.hid (row4 (heap_last w (.cells #[.int .i64 0, .slice none 0 0, .slice none 0 0, .slice none 0 0] 55) w.heap.size rfl))
  have bA := below1 w (.cells #[.int .i64 0, .slice none 0 0, .slice none 0 0, .slice none 0 0] 55)
  clear hn h1 h2
  go_enter Try.func41, Try.ntmps41
  go_wp2
  (try simp only [Exit.inBlock, Exit.then])
  refine bodyPost_ret (results_cells_tmp rfl _ _ w.heap.size [.int .i64 0, .slice none 0 0, .slice none 0 0, .slice none 0 0] _ rfl ?_ Try.underlying55 rnode_info') rfl ?_
  · refine four ⟨?_, ?_, ?_, ?_⟩ <;> go_simp
  · refine ⟨_, rfl, nown_zero _ _, ?_⟩
    repeat (refine Below.setCell ?_ (by simp) _)
    exact bA
set_option maxRecDepth 100000 in
set_option maxHeartbeats 8000000 in
theorem refParse1 (s : ByteArray) (w : World) (hs : s.size ≤ 2000) :
    Calls Try.prog 41 #[.int .i64 1, .string s] w fun e w' => ∃ v, e = .returned (.tuple #[v, .int .i64 ((nparse 1 s).2 : Int)]) ∧ NOwn w.heap.size w' v (nparse 1 s).1 ∧ Below w.heap.size w w' := by
  obtain ⟨i9, hi9, hz90, hz91, hz92⟩ := info_parts info9
  obtain ⟨i3, hi3, hz30, hz31, hz32⟩ := info_parts info3
  obtain ⟨x, n, f, hr⟩ : ∃ x n f, Var.hd 0 0 s.data.toList = (x, n, f) := ⟨_, _, _, rfl⟩
  have CH := Lib.hid (fun W => head_any s W (by unfold maxLen; omega))
  rw [hr] at CH
  unfold tri at CH
  simp only at CH
  have bA := below1 w (.cells #[.int .i64 0, .slice none 0 0, .slice none 0 0, .slice none 0 0] 55)
  have R4 := Lib.hid (heap_last w (.cells #[.int .i64 0, .slice none 0 0, .slice none 0 0, .slice none 0 0] 55) w.heap.size rfl)
  have HNp0 := Lib.hid (fun h => nparse_head (k := 1) (s := s) (e := f) (.inl rfl) (by rw [hr]) h)
  by_cases hf : f = 0
  case neg =>
    have HNp := Lib.hid (HNp0.out hf)
    have hfI : ((f : Int) != 0) = true := by rw [bne_iff_ne]; omega
    obtain ⟨⟨d0, d1, d2, d3⟩, g0, g1, g2, g3⟩ := row4 R4.out
    clear hr
    go_enter Try.func41, Try.ntmps41
    go_upto_region 1 with fail
    go_wp2_with (go_at_call 73; ((with_reducible refine (CH.out _).mono ?_); rintro e w' ⟨rfl, rfl⟩))
    (try simp only [Exit.inBlock, Exit.then])
    refine bodyPost_ret (results_cells_tmp rfl _ _ w.heap.size [.int .i64 0, .slice none 0 0, .slice none 0 0, .slice none 0 0] _ rfl ?_ Try.underlying55 rnode_info') rfl ?_
    · refine four ⟨?_, ?_, ?_, ?_⟩ <;> go_simp
    · rw [HNp.out]
      refine ⟨_, rfl, nown_zero _ _, ?_⟩
      repeat (refine Below.setCell ?_ (by simp) _)
      exact bA
  subst hf
  clear HNp0
  obtain ⟨t, e1, e2⟩ := hd_inv0 hr
  have hn : n ≤ s.size := by rw [← B.size_data, e1, List.length_append]; omega
  have hx64 : x < 18446744073709551616 := hd_lt _ 0 0 x n (by omega) (by omega) hr
  have h0 : numS s 0 18446744073709551615 = (x, s.extract n s.size, 0) := by unfold numS; rw [hr, if_pos rfl, if_pos (by omega)]
  have hS0 : (s.extract n s.size).size ≤ s.size := by rw [ByteArray.size_extract]; omega
  have hI2 : (n : Int) ≤ (s.size : Int) := by omega
  clear hr e1 e2
  have bB := below1 (w.alloc (.cells #[.int .i64 0, .slice none 0 0, .slice none 0 0, .slice none 0 0] 55)) (.cells #[.int .i64 1, .slice none 0 0, .slice none 0 0, .slice none 0 0] 55)
  have hsz : (w.alloc (.cells #[.int .i64 0, .slice none 0 0, .slice none 0 0, .slice none 0 0] 55)).heap.size = w.heap.size + 1 := by simp
  have RP0 : Hid (RP w.heap.size w ((w.alloc (.cells #[.int .i64 0, .slice none 0 0, .slice none 0 0, .slice none 0 0] 55)).alloc (.cells #[.int .i64 1, .slice none 0 0, .slice none 0 0, .slice none 0 0] 55)) 1 (.slice none 0 0) (.slice none 0 0) (.slice none 0 0) [] [] []) :=
    ⟨NB.new _ _ _ _ _ (heap_last _ _ _ hsz.symm) (by omega) (by simp), hp_old _ R4.out, bA.trans (bB.mono bA.size)⟩
  clear bB R4 bA
  go_enter Try.func41, Try.ntmps41
  go_upto_region 8 with (go_at_call 73; ((with_reducible refine (CH.out _).mono ?_); rintro e w' ⟨rfl, rfl⟩))
  generalize (w.alloc (.cells #[.int .i64 0, .slice none 0 0, .slice none 0 0, .slice none 0 0] 55)).alloc (.cells #[.int .i64 1, .slice none 0 0, .slice none 0 0, .slice none 0 0] 55) = W at *
  generalize s.extract n s.size = S0 at *
  clear hsz CH hI2
  go_wp2
  go_loopw [1, 10] (fun t1 t10 wr => ∃ (i left : Nat) (S : ByteArray) (G : List E) (vk vv vc : Value), i + left = x ∧ t10 = .int .u64 (i : Int) ∧ t1 = .string S ∧ (G ++ (many 1 left S 0).1, (many 1 left S 0).2) = many 1 x S0 0 ∧ G.length + S.size ≤ s.size ∧ RP w.heap.size w wr 1 vk vv vc (G.map (·.1)) (G.map (·.2.1)) (([] : List Int))) (fun _ t10 _ => x - (intOf t10).toNat)
  case atStart => exact ⟨0, x, S0, [], _, _, _, by omega, rfl, rfl, rfl, by simpa using hS0, RP0.out⟩
  case round =>
    obtain ⟨i, left, S, G, vk, vv, vc, hil, rfl, rfl, hr, hGS, hrp⟩ := hrel
    clear RP0
    have HR := Lib.hid hr
    have P3 := Lib.hid hrp
    have sb := hrp.b.size
    clear hr hrp
    by_cases hlt : i < x
    · have hI : (i : Int) < (x : Int) := by omega
      obtain ⟨lf, rfl⟩ : ∃ lf, left = lf + 1 := ⟨left - 1, by omega⟩
      have CT := Lib.hid (fun W => rtext_any S 16 16 W rfl (by omega) (by omega))
      obtain ⟨A, T, f, ht⟩ : ∃ A T f, textS S 0 16 = (A, T, f) := ⟨_, _, _, rfl⟩
      have HE1 := Lib.hid (fun h => nparse_err (k := 1) (.inl rfl) h0 HR.out (one_err1 (show (textS S 0 16).2.2 = f by rw [ht]) h) h)
      have hTs : T.size ≤ S.size := by have := textS_size S 0 16; rw [ht] at this; exact this
      have HOS := Lib.hid (one_size (k := 1) (.inl rfl) S)
      by_cases hf : f = 0
      case neg =>
        have HNp := Lib.hid (HE1.out hf)
        rw [rt_err (show (textS S 0 16).2.2 = f by rw [ht]) hf] at CT
        have hfI : ((f : Int) != 0) = true := by rw [bne_iff_ne]; omega
        clear ht HE1 HOS
        go_wp2_with (go_at_call 74; ((with_reducible refine (CT.out _).mono ?_); rintro e w4 ⟨rfl, nn, hw4⟩; have P4 := Lib.hid (P3.out.drewN sb nn); rw [← hw4] at P4; clear hw4; obtain ⟨⟨d0, d1, d2, d3⟩, g0, g1, g2, g3⟩ := row4 P4.out.r4))
        (try simp only [Exit.inBlock, Exit.then])
        refine bodyPost_ret (results_cells_tmp rfl _ _ w.heap.size [.int .i64 0, .slice none 0 0, .slice none 0 0, .slice none 0 0] _ rfl ?_ Try.underlying55 rnode_info') rfl ?_
        · refine four ⟨?_, ?_, ?_, ?_⟩ <;> go_simp
        · rw [HNp.out]
          refine ⟨_, rfl, nown_zero _ _, ?_⟩
          repeat (refine Below.setCell ?_ (by simp) _)
          exact P4.out.b
      subst hf
      rw [rt_ok ht] at CT
      clear HE1
      go_upto_region 15 with (first
        | (go_at_call 74; ((with_reducible refine (CT.out _).mono ?_); rintro e w4 ⟨rfl, nn, hw4⟩; have P4 := Lib.hid (P3.out.drewN sb nn); rw [← hw4] at P4; clear hw4; obtain ⟨⟨m0, m1, m2, m3⟩, q0, q1, q2, q3⟩ := row4 P4.out.nb.rN))
        | (at_builtin; refine wpList_append_lies _ rfl _ _ 53 rfl (w.heap.size + 2) 9 i9 _ 1 16 Try.underlying53 hi9 hz90 hz91 hz92 rfl (by decide) _ _ _ rfl (P4.out.nb.ok.alloc _) ⟨w4.heap.size, 0, none⟩ 1 1 [.string A] rfl rfl (cell_one_new _ _ _) (one_str _) (by omega) (by simp only [List.length_map]; unfold maxLen; omega) (by simp only [List.length_map]; omega) (Nat.le_trans P4.out.nb.l4 (by simp)) _ rfl ?_; intro gg cap w5 own5 grow5 lies5 lt5; have P5 := Lib.hid (P4.out.key own5 grow5 lies5); obtain ⟨⟨k0, k1, k2, k3⟩, j0, j1, j2, j3⟩ := row4 (blk_grow P4.out.nb.rN grow5 (fun b hb => by have := own_ge P4.out.nb.ok hb; omega)); clear own5 grow5 lies5 lt5))
      simp only [List.length_map] at P5
      generalize w5.setCell ⟨w.heap.size + 1, 1, none⟩ (.slice (some ⟨gg, 0, none⟩) (G.length + 1) cap) = W5 at *
      generalize Value.slice (some ⟨gg, 0, none⟩) (G.length + 1) cap = vk5 at *
      clear m0 m1 m2 m3 q0 q1 q2 q3 k0 k1 k2 k3 j0 j1 j2 j3 P4 P3 CT
      have sb5 := P5.out.b.size
      obtain ⟨⟨d0, d1, d2, d3⟩, g0, g1, g2, g3⟩ := row4 P5.out.r4
      obtain ⟨⟨m0, m1, m2, m3⟩, q0, q1, q2, q3⟩ := row4 P5.out.nb.rN
      obtain ⟨Bv, U, g, hu⟩ : ∃ B U g, textS T 0 32 = (B, U, g) := ⟨_, _, _, rfl⟩
      have CT2 := Lib.hid (fun W => rtext_any T 32 32 W rfl (by omega) (by omega))
      have ho := one1_ok ht hu
      by_cases hg : g = 0
      case neg =>
        have HNp := Lib.hid (nparse_err (k := 1) (.inl rfl) h0 HR.out (show (one 1 S).2.2 = g by rw [ho]) hg)
        rw [rt_err (show (textS T 0 32).2.2 = g by rw [hu]) hg] at CT2
        have hfI : ((g : Int) != 0) = true := by rw [bne_iff_ne]; omega
        clear ht hu ho HOS d0 d1 d2 d3 g0 g1 g2 g3
        go_wp2_with (go_at_call 74; ((with_reducible refine (CT2.out _).mono ?_); rintro e w4 ⟨rfl, nn, hw4⟩; have P6 := Lib.hid (P5.out.drewN sb5 nn); rw [← hw4] at P6; clear hw4; obtain ⟨⟨d0, d1, d2, d3⟩, g0, g1, g2, g3⟩ := row4 P6.out.r4))
        (try simp only [Exit.inBlock, Exit.then])
        refine bodyPost_ret (results_cells_tmp rfl _ _ w.heap.size [.int .i64 0, .slice none 0 0, .slice none 0 0, .slice none 0 0] _ rfl ?_ Try.underlying55 rnode_info') rfl ?_
        · refine four ⟨?_, ?_, ?_, ?_⟩ <;> go_simp
        · rw [HNp.out]
          refine ⟨_, rfl, nown_zero _ _, ?_⟩
          repeat (refine Below.setCell ?_ (by simp) _)
          exact P6.out.b
      subst hg
      rw [rt_ok hu] at CT2
      have hsz := HOS.out.2 (by rw [ho])
      rw [ho] at hsz
      have HR2 := Lib.hid (many_next ho HR.out)
      clear HOS ho ht hu m0 m1 m2 m3 q0 q1 q2 q3 d0 d1 d2 d3 g0 g1 g2 g3
      go_upto_region 20 with (first
        | (go_at_call 74; ((with_reducible refine (CT2.out _).mono ?_); rintro e w6 ⟨rfl, nn, hw6⟩; have P6 := Lib.hid (P5.out.drewN sb5 nn); rw [← hw6] at P6; clear hw6; obtain ⟨⟨m0, m1, m2, m3⟩, q0, q1, q2, q3⟩ := row4 P6.out.nb.rN))
        | (at_builtin; refine wpList_append_lies _ rfl _ _ 53 rfl (w.heap.size + 2) 9 i9 _ 1 16 Try.underlying53 hi9 hz90 hz91 hz92 rfl (by decide) _ _ _ rfl (P6.out.nb.ov.alloc _) ⟨w6.heap.size, 0, none⟩ 1 1 [.string Bv] rfl rfl (cell_one_new _ _ _) (one_str _) (by omega) (by simp only [List.length_map]; unfold maxLen; omega) (by simp only [List.length_map]; omega) (Nat.le_trans P6.out.nb.l4 (by simp)) _ rfl ?_; intro gg cap w5 own5 grow5 lies5 lt5; have P7 := Lib.hid (P6.out.val own5 grow5 lies5); obtain ⟨⟨k0, k1, k2, k3⟩, j0, j1, j2, j3⟩ := row4 (blk_grow P6.out.nb.rN grow5 (fun b hb => by have := own_ge P6.out.nb.ov hb; omega)); clear own5 grow5 lies5 lt5))
      simp only [List.length_map] at P7
      go_wp2
      go_roundw
      case rel => exact ⟨i + 1, lf, U, G ++ [(A, Bv, 0)], _, _, _, by omega, by go_num, rfl, HR2.out, by simp only [List.length_append, List.length_singleton]; omega, by rw [List.map_append, List.map_append]; exact P7.out⟩
      case measure => simp [intOf]; omega
    · have hI : ¬ (i : Int) < (x : Int) := by omega
      have hl0 : left = 0 := by omega
      subst hl0
      have HNe := nparse_end (k := 1) (.inl rfl) h0 HR.out
      obtain ⟨⟨d0, d1, d2, d3⟩, g0, g1, g2, g3⟩ := row4 P3.out.r4
      obtain ⟨⟨m0, m1, m2, m3⟩, q0, q1, q2, q3⟩ := row4 P3.out.nb.rN
      by_cases hS : 0 < S.size
      · rw [if_pos hS] at HNe
        have HNp := Lib.hid HNe
        have hne := B.not_empty hS
        clear HNe
        go_wp2
        (try simp only [Exit.inBlock, Exit.then])
        refine bodyPost_ret (results_cells_tmp rfl _ _ w.heap.size [.int .i64 0, .slice none 0 0, .slice none 0 0, .slice none 0 0] _ rfl ?_ Try.underlying55 rnode_info') rfl ?_
        · refine four ⟨?_, ?_, ?_, ?_⟩ <;> go_simp
        · rw [HNp.out]
          refine ⟨_, rfl, nown_zero _ _, ?_⟩
          repeat (refine Below.setCell ?_ (by simp) _)
          exact P3.out.b
      · rw [if_neg hS] at HNe
        have hem := B.is_empty (show S.size = 0 by omega)
        have hmk : mk 1 G = ⟨1, G.map (·.1), G.map (·.2.1), ([] : List Int)⟩ := by unfold mk; simp
        have HO : NOwn (w.heap.size + 2) wr (.agg #[.int .i64 1, vk, vv, vc]) (mk 1 G) := by rw [hmk]; exact ⟨vk, vv, vc, rfl, P3.out.nb.ok, P3.out.nb.ov, P3.out.nb.oc, P3.out.nb.n1, P3.out.nb.n2, P3.out.nb.n3⟩
        obtain ⟨D1, D2, D3, y1, y2, y3, hvv, hat, _⟩ := nown_out HO
        have hSm : Sm (mk 1 G) := by rw [hmk]; exact ⟨by simp only [List.length_map]; omega, by first | (simp; done) | (simp; omega), by first | (simp; done) | (simp; omega)⟩
        injection hvv with hvv
        injection hvv with hvv
        injection hvv with _ hvv
        injection hvv with x1 hvv
        injection hvv with x2 hvv
        injection hvv with x3 _
        have hkm : (mk 1 G).kind = 1 := rfl
        have CC := Lib.hid (refCheck_any D1 D2 D3 y1 y2 y3 (mk 1 G) wr hat hSm)
        unfold nv at CC
        rw [hkm] at CC
        subst x1 x2 x3
        have OO := Lib.hid HO
        have lB := blk_lt P3.out.r4
        clear HO hat hSm hkm hmk
        cases hck : check (mk 1 G) with
        | false =>
          rw [hck] at CC HNe
          rw [if_neg (by decide)] at HNe
          have HNp := Lib.hid HNe
          clear HNe d0 d1 d2 d3 g0 g1 g2 g3
          go_wp2_with (go_at_call 31; ((with_reducible refine CC.out.mono ?_); rintro e w7 ⟨rfl, hb7⟩; obtain ⟨⟨d0, d1, d2, d3⟩, g0, g1, g2, g3⟩ := row4 (blk_thru hb7 P3.out.r4); have Q7 := Lib.hid (P3.out.b.trans (hb7.mono sb)); clear hb7))
          (try simp only [Exit.inBlock, Exit.then])
          refine bodyPost_ret (results_cells_tmp rfl _ _ w.heap.size [.int .i64 0, .slice none 0 0, .slice none 0 0, .slice none 0 0] _ rfl ?_ Try.underlying55 rnode_info') rfl ?_
          · refine four ⟨?_, ?_, ?_, ?_⟩ <;> go_simp
          · rw [HNp.out]
            refine ⟨_, rfl, nown_zero _ _, ?_⟩
            repeat (refine Below.setCell ?_ (by simp) _)
            exact Q7.out
        | true =>
          rw [hck] at CC HNe
          rw [if_pos rfl] at HNe
          have HNp := Lib.hid HNe
          clear HNe d0 d1 d2 d3 g0 g1 g2 g3 m0 m1 m2 m3 q0 q1 q2 q3
          obtain ⟨⟨m0, m1, m2, m3⟩, _⟩ := row4 P3.out.nb.rN
          go_upto_region 32 with (go_at_call 31; ((with_reducible refine CC.out.mono ?_); rintro e w7 ⟨rfl, hb7⟩; have R7 := Lib.hid (blk_thru hb7 P3.out.r4); have O7 := Lib.hid (nown_below OO.out hb7); clear m0 m1 m2 m3; obtain ⟨⟨m0, m1, m2, m3⟩, _⟩ := row4 (blk_thru hb7 P3.out.nb.rN); have Q7 := Lib.hid (P3.out.b.trans (hb7.mono sb)); clear hb7))
          obtain ⟨⟨d0, d1, d2, d3⟩, g0, g1, g2, g3⟩ := row4 R7.out
          go_wp2
          (try simp only [Exit.inBlock, Exit.then])
          refine bodyPost_ret (results_cells_tmp rfl _ _ w.heap.size [.int .i64 1, .slice D1 (mk 1 G).keys.length y1, .slice D2 (mk 1 G).vals.length y2, .slice D3 (mk 1 G).kids.length y3] _ rfl ?_ Try.underlying55 rnode_info') rfl ?_
          · exact four (row4 (set4 R7.out _ _ _ _)).1
          · rw [HNp.out]
            exact ⟨_, rfl, nown_mono (nown_put O7.out (by omega)) (by omega), below_put4 Q7.out (Nat.le_refl _)⟩
set_option maxRecDepth 100000 in
set_option maxHeartbeats 8000000 in
theorem refParse2 (s : ByteArray) (w : World) (hs : s.size ≤ 2000) :
    Calls Try.prog 41 #[.int .i64 2, .string s] w fun e w' => ∃ v, e = .returned (.tuple #[v, .int .i64 ((nparse 2 s).2 : Int)]) ∧ NOwn w.heap.size w' v (nparse 2 s).1 ∧ Below w.heap.size w w' := by
  obtain ⟨i9, hi9, hz90, hz91, hz92⟩ := info_parts info9
  obtain ⟨i3, hi3, hz30, hz31, hz32⟩ := info_parts info3
  obtain ⟨x, n, f, hr⟩ : ∃ x n f, Var.hd 0 0 s.data.toList = (x, n, f) := ⟨_, _, _, rfl⟩
  have CH := Lib.hid (fun W => head_any s W (by unfold maxLen; omega))
  rw [hr] at CH
  unfold tri at CH
  simp only at CH
  have bA := below1 w (.cells #[.int .i64 0, .slice none 0 0, .slice none 0 0, .slice none 0 0] 55)
  have R4 := Lib.hid (heap_last w (.cells #[.int .i64 0, .slice none 0 0, .slice none 0 0, .slice none 0 0] 55) w.heap.size rfl)
  have HNp0 := Lib.hid (fun h => nparse_head (k := 2) (s := s) (e := f) (.inr rfl) (by rw [hr]) h)
  by_cases hf : f = 0
  case neg =>
    have HNp := Lib.hid (HNp0.out hf)
    have hfI : ((f : Int) != 0) = true := by rw [bne_iff_ne]; omega
    obtain ⟨⟨d0, d1, d2, d3⟩, g0, g1, g2, g3⟩ := row4 R4.out
    clear hr
    go_enter Try.func41, Try.ntmps41
    go_upto_region 1 with fail
    go_wp2_with (go_at_call 73; ((with_reducible refine (CH.out _).mono ?_); rintro e w' ⟨rfl, rfl⟩))
    (try simp only [Exit.inBlock, Exit.then])
    refine bodyPost_ret (results_cells_tmp rfl _ _ w.heap.size [.int .i64 0, .slice none 0 0, .slice none 0 0, .slice none 0 0] _ rfl ?_ Try.underlying55 rnode_info') rfl ?_
    · refine four ⟨?_, ?_, ?_, ?_⟩ <;> go_simp
    · rw [HNp.out]
      refine ⟨_, rfl, nown_zero _ _, ?_⟩
      repeat (refine Below.setCell ?_ (by simp) _)
      exact bA
  subst hf
  clear HNp0
  obtain ⟨t, e1, e2⟩ := hd_inv0 hr
  have hn : n ≤ s.size := by rw [← B.size_data, e1, List.length_append]; omega
  have hx64 : x < 18446744073709551616 := hd_lt _ 0 0 x n (by omega) (by omega) hr
  have h0 : numS s 0 18446744073709551615 = (x, s.extract n s.size, 0) := by unfold numS; rw [hr, if_pos rfl, if_pos (by omega)]
  have hS0 : (s.extract n s.size).size ≤ s.size := by rw [ByteArray.size_extract]; omega
  have hI2 : (n : Int) ≤ (s.size : Int) := by omega
  clear hr e1 e2
  have bB := below1 (w.alloc (.cells #[.int .i64 0, .slice none 0 0, .slice none 0 0, .slice none 0 0] 55)) (.cells #[.int .i64 2, .slice none 0 0, .slice none 0 0, .slice none 0 0] 55)
  have hsz : (w.alloc (.cells #[.int .i64 0, .slice none 0 0, .slice none 0 0, .slice none 0 0] 55)).heap.size = w.heap.size + 1 := by simp
  have RP0 : Hid (RP w.heap.size w ((w.alloc (.cells #[.int .i64 0, .slice none 0 0, .slice none 0 0, .slice none 0 0] 55)).alloc (.cells #[.int .i64 2, .slice none 0 0, .slice none 0 0, .slice none 0 0] 55)) 2 (.slice none 0 0) (.slice none 0 0) (.slice none 0 0) [] [] []) :=
    ⟨NB.new _ _ _ _ _ (heap_last _ _ _ hsz.symm) (by omega) (by simp), hp_old _ R4.out, bA.trans (bB.mono bA.size)⟩
  clear bB R4 bA
  go_enter Try.func41, Try.ntmps41
  go_upto_region 8 with (go_at_call 73; ((with_reducible refine (CH.out _).mono ?_); rintro e w' ⟨rfl, rfl⟩))
  generalize (w.alloc (.cells #[.int .i64 0, .slice none 0 0, .slice none 0 0, .slice none 0 0] 55)).alloc (.cells #[.int .i64 2, .slice none 0 0, .slice none 0 0, .slice none 0 0] 55) = W at *
  generalize s.extract n s.size = S0 at *
  clear hsz CH hI2
  go_wp2
  go_loopw [1, 10] (fun t1 t10 wr => ∃ (i left : Nat) (S : ByteArray) (G : List E) (vk vv vc : Value), i + left = x ∧ t10 = .int .u64 (i : Int) ∧ t1 = .string S ∧ (G ++ (many 2 left S 0).1, (many 2 left S 0).2) = many 2 x S0 0 ∧ G.length + S.size ≤ s.size ∧ RP w.heap.size w wr 2 vk vv vc (G.map (·.1)) (([] : List ByteArray)) (G.map (·.2.2))) (fun _ t10 _ => x - (intOf t10).toNat)
  case atStart => exact ⟨0, x, S0, [], _, _, _, by omega, rfl, rfl, rfl, by simpa using hS0, RP0.out⟩
  case round =>
    obtain ⟨i, left, S, G, vk, vv, vc, hil, rfl, rfl, hr, hGS, hrp⟩ := hrel
    clear RP0
    have HR := Lib.hid hr
    have P3 := Lib.hid hrp
    have sb := hrp.b.size
    clear hr hrp
    by_cases hlt : i < x
    · have hI : (i : Int) < (x : Int) := by omega
      obtain ⟨lf, rfl⟩ : ∃ lf, left = lf + 1 := ⟨left - 1, by omega⟩
      have CT := Lib.hid (fun W => rtext_any S 16 16 W rfl (by omega) (by omega))
      obtain ⟨A, T, f, ht⟩ : ∃ A T f, textS S 0 16 = (A, T, f) := ⟨_, _, _, rfl⟩
      have HE1 := Lib.hid (fun h => nparse_err (k := 2) (.inr rfl) h0 HR.out (one_err1 (show (textS S 0 16).2.2 = f by rw [ht]) h) h)
      have hTs : T.size ≤ S.size := by have := textS_size S 0 16; rw [ht] at this; exact this
      have HOS := Lib.hid (one_size (k := 2) (.inr rfl) S)
      by_cases hf : f = 0
      case neg =>
        have HNp := Lib.hid (HE1.out hf)
        rw [rt_err (show (textS S 0 16).2.2 = f by rw [ht]) hf] at CT
        have hfI : ((f : Int) != 0) = true := by rw [bne_iff_ne]; omega
        clear ht HE1 HOS
        go_wp2_with (go_at_call 74; ((with_reducible refine (CT.out _).mono ?_); rintro e w4 ⟨rfl, nn, hw4⟩; have P4 := Lib.hid (P3.out.drewN sb nn); rw [← hw4] at P4; clear hw4; obtain ⟨⟨d0, d1, d2, d3⟩, g0, g1, g2, g3⟩ := row4 P4.out.r4))
        (try simp only [Exit.inBlock, Exit.then])
        refine bodyPost_ret (results_cells_tmp rfl _ _ w.heap.size [.int .i64 0, .slice none 0 0, .slice none 0 0, .slice none 0 0] _ rfl ?_ Try.underlying55 rnode_info') rfl ?_
        · refine four ⟨?_, ?_, ?_, ?_⟩ <;> go_simp
        · rw [HNp.out]
          refine ⟨_, rfl, nown_zero _ _, ?_⟩
          repeat (refine Below.setCell ?_ (by simp) _)
          exact P4.out.b
      subst hf
      rw [rt_ok ht] at CT
      clear HE1
      go_upto_region 15 with (first
        | (go_at_call 74; ((with_reducible refine (CT.out _).mono ?_); rintro e w4 ⟨rfl, nn, hw4⟩; have P4 := Lib.hid (P3.out.drewN sb nn); rw [← hw4] at P4; clear hw4; obtain ⟨⟨m0, m1, m2, m3⟩, q0, q1, q2, q3⟩ := row4 P4.out.nb.rN))
        | (at_builtin; refine wpList_append_lies _ rfl _ _ 53 rfl (w.heap.size + 2) 9 i9 _ 1 16 Try.underlying53 hi9 hz90 hz91 hz92 rfl (by decide) _ _ _ rfl (P4.out.nb.ok.alloc _) ⟨w4.heap.size, 0, none⟩ 1 1 [.string A] rfl rfl (cell_one_new _ _ _) (one_str _) (by omega) (by simp only [List.length_map]; unfold maxLen; omega) (by simp only [List.length_map]; omega) (Nat.le_trans P4.out.nb.l4 (by simp)) _ rfl ?_; intro gg cap w5 own5 grow5 lies5 lt5; have P5 := Lib.hid (P4.out.key own5 grow5 lies5); obtain ⟨⟨k0, k1, k2, k3⟩, j0, j1, j2, j3⟩ := row4 (blk_grow P4.out.nb.rN grow5 (fun b hb => by have := own_ge P4.out.nb.ok hb; omega)); clear own5 grow5 lies5 lt5))
      simp only [List.length_map] at P5
      generalize w5.setCell ⟨w.heap.size + 1, 1, none⟩ (.slice (some ⟨gg, 0, none⟩) (G.length + 1) cap) = W5 at *
      generalize Value.slice (some ⟨gg, 0, none⟩) (G.length + 1) cap = vk5 at *
      clear m0 m1 m2 m3 q0 q1 q2 q3 k0 k1 k2 k3 j0 j1 j2 j3 P4 P3 CT
      have sb5 := P5.out.b.size
      obtain ⟨⟨d0, d1, d2, d3⟩, g0, g1, g2, g3⟩ := row4 P5.out.r4
      obtain ⟨⟨m0, m1, m2, m3⟩, q0, q1, q2, q3⟩ := row4 P5.out.nb.rN
      obtain ⟨pp, mm, g, hu⟩ : ∃ pp mm g, Var.hd 0 0 T.data.toList = (pp, mm, g) := ⟨_, _, _, rfl⟩
      have CH2 := Lib.hid (fun W => head_any T W (by unfold maxLen; omega))
      rw [hu] at CH2
      unfold tri at CH2
      simp only at CH2
      by_cases hg : g = 0
      case neg =>
        have hnu : numS T 0 2147483647 = (0, ⟨#[]⟩, g) := by unfold numS; rw [hu, if_neg hg]; unfold failS; rw [if_neg (by simp only [ne_eq, not_true, or_false]; exact hg)]
        have HNp := Lib.hid (nparse_err (k := 2) (.inr rfl) h0 HR.out (show (one 2 S).2.2 = g by rw [one2_ok ht hnu]) hg)
        have hfI : ((g : Int) != 0) = true := by rw [bne_iff_ne]; omega
        have hfI2 : ((g : Int) == 0) = false := by rw [beq_eq_false_iff_ne]; omega
        clear ht hu hnu HOS
        go_wp2_with (go_at_call 73; ((with_reducible refine (CH2.out _).mono ?_); rintro e w' ⟨rfl, rfl⟩))
        (try simp only [Exit.inBlock, Exit.then])
        refine bodyPost_ret (results_cells_tmp rfl _ _ w.heap.size [.int .i64 0, .slice none 0 0, .slice none 0 0, .slice none 0 0] _ rfl ?_ Try.underlying55 rnode_info') rfl ?_
        · refine four ⟨?_, ?_, ?_, ?_⟩ <;> go_simp
        · rw [HNp.out]
          refine ⟨_, rfl, nown_zero _ _, ?_⟩
          repeat (refine Below.setCell ?_ (by simp) _)
          exact P5.out.b
      subst hg
      have hp64 := hd_lt _ 0 0 pp mm (by omega) (by omega) hu
      obtain ⟨t2, e3, e4⟩ := hd_inv0 hu
      have hmm : mm ≤ T.size := by rw [← B.size_data, e3, List.length_append]; omega
      clear e3 e4
      by_cases hp : pp ≤ 2147483647
      case neg =>
        have hnu : numS T 0 2147483647 = (0, ⟨#[]⟩, 4) := by unfold numS; rw [hu, if_pos rfl, if_neg hp]; unfold failS; rw [if_neg (by omega)]
        have HNp := Lib.hid (nparse_err (k := 2) (.inr rfl) h0 HR.out (show (one 2 S).2.2 = 4 by rw [one2_ok ht hnu]) (by omega))
        have hpI : (pp : Int) > 2147483647 := by omega
        clear ht hu hnu HOS
        go_wp2_with (go_at_call 73; ((with_reducible refine (CH2.out _).mono ?_); rintro e w' ⟨rfl, rfl⟩))
        (try simp only [Exit.inBlock, Exit.then])
        refine bodyPost_ret (results_cells_tmp rfl _ _ w.heap.size [.int .i64 0, .slice none 0 0, .slice none 0 0, .slice none 0 0] _ rfl ?_ Try.underlying55 rnode_info') rfl ?_
        · refine four ⟨?_, ?_, ?_, ?_⟩ <;> go_simp
        · rw [HNp.out]
          refine ⟨_, rfl, nown_zero _ _, ?_⟩
          repeat (refine Below.setCell ?_ (by simp) _)
          exact P5.out.b
      have hnu : numS T 0 2147483647 = (pp, T.extract mm T.size, 0) := by unfold numS; rw [hu, if_pos rfl, if_pos hp]
      have ho := one2_ok ht hnu
      have hpI : ¬ (pp : Int) > 2147483647 := by omega
      have hwp : IntKind.i64.wrap (pp : Int) = (pp : Int) := IntWalk.i64_in _ (by omega)
      have hmI : (mm : Int) ≤ (T.size : Int) := by omega
      have hsz := HOS.out.2 (by rw [ho])
      rw [ho] at hsz
      have HR2 := Lib.hid (many_next ho HR.out)
      clear HOS ho ht hu hnu
      go_upto_region 27 with (first
        | (go_at_call 73; ((with_reducible refine (CH2.out _).mono ?_); rintro e w' ⟨rfl, rfl⟩))
        | (at_builtin; refine wpList_append_lies _ rfl _ _ 34 rfl (w.heap.size + 2) 3 i3 _ 1 8 Try.underlying34 hi3 hz30 hz31 hz32 rfl (by decide) _ _ _ rfl (P5.out.nb.oc.alloc _) ⟨W5.heap.size, 0, none⟩ 1 1 [.int .i64 (pp : Int)] rfl rfl (cell_one_new _ _ _) (one_int _) (by omega) (by simp only [List.length_map]; unfold maxLen; omega) (by simp only [List.length_map]; omega) (Nat.le_trans P5.out.nb.l4 (by simp)) _ rfl ?_; intro gg cap w5 own5 grow5 lies5 lt5; have P7 := Lib.hid (P5.out.kid own5 grow5 lies5); obtain ⟨⟨k0, k1, k2, k3⟩, j0, j1, j2, j3⟩ := row4 (blk_grow P5.out.nb.rN grow5 (fun b hb => by have := own_ge P5.out.nb.oc hb; omega)); clear own5 grow5 lies5 lt5))
      simp only [List.length_map] at P7
      go_wp2
      go_roundw
      case rel => exact ⟨i + 1, lf, T.extract mm T.size, G ++ [(A, ⟨#[]⟩, (pp : Int))], _, _, _, by omega, by go_num, rfl, HR2.out, by simp only [List.length_append, List.length_singleton]; omega, by rw [List.map_append, List.map_append]; exact P7.out⟩
      case measure => simp [intOf]; omega
    · have hI : ¬ (i : Int) < (x : Int) := by omega
      have hl0 : left = 0 := by omega
      subst hl0
      have HNe := nparse_end (k := 2) (.inr rfl) h0 HR.out
      obtain ⟨⟨d0, d1, d2, d3⟩, g0, g1, g2, g3⟩ := row4 P3.out.r4
      obtain ⟨⟨m0, m1, m2, m3⟩, q0, q1, q2, q3⟩ := row4 P3.out.nb.rN
      by_cases hS : 0 < S.size
      · rw [if_pos hS] at HNe
        have HNp := Lib.hid HNe
        have hne := B.not_empty hS
        clear HNe
        go_wp2
        (try simp only [Exit.inBlock, Exit.then])
        refine bodyPost_ret (results_cells_tmp rfl _ _ w.heap.size [.int .i64 0, .slice none 0 0, .slice none 0 0, .slice none 0 0] _ rfl ?_ Try.underlying55 rnode_info') rfl ?_
        · refine four ⟨?_, ?_, ?_, ?_⟩ <;> go_simp
        · rw [HNp.out]
          refine ⟨_, rfl, nown_zero _ _, ?_⟩
          repeat (refine Below.setCell ?_ (by simp) _)
          exact P3.out.b
      · rw [if_neg hS] at HNe
        have hem := B.is_empty (show S.size = 0 by omega)
        have hmk : mk 2 G = ⟨2, G.map (·.1), ([] : List ByteArray), G.map (·.2.2)⟩ := by unfold mk; simp
        have HO : NOwn (w.heap.size + 2) wr (.agg #[.int .i64 2, vk, vv, vc]) (mk 2 G) := by rw [hmk]; exact ⟨vk, vv, vc, rfl, P3.out.nb.ok, P3.out.nb.ov, P3.out.nb.oc, P3.out.nb.n1, P3.out.nb.n2, P3.out.nb.n3⟩
        obtain ⟨D1, D2, D3, y1, y2, y3, hvv, hat, _⟩ := nown_out HO
        have hSm : Sm (mk 2 G) := by rw [hmk]; exact ⟨by simp only [List.length_map]; omega, by first | (simp; done) | (simp; omega), by first | (simp; done) | (simp; omega)⟩
        injection hvv with hvv
        injection hvv with hvv
        injection hvv with _ hvv
        injection hvv with x1 hvv
        injection hvv with x2 hvv
        injection hvv with x3 _
        have hkm : (mk 2 G).kind = 2 := rfl
        have CC := Lib.hid (refCheck_any D1 D2 D3 y1 y2 y3 (mk 2 G) wr hat hSm)
        unfold nv at CC
        rw [hkm] at CC
        subst x1 x2 x3
        have OO := Lib.hid HO
        have lB := blk_lt P3.out.r4
        clear HO hat hSm hkm hmk
        cases hck : check (mk 2 G) with
        | false =>
          rw [hck] at CC HNe
          rw [if_neg (by decide)] at HNe
          have HNp := Lib.hid HNe
          clear HNe d0 d1 d2 d3 g0 g1 g2 g3
          go_wp2_with (go_at_call 31; ((with_reducible refine CC.out.mono ?_); rintro e w7 ⟨rfl, hb7⟩; obtain ⟨⟨d0, d1, d2, d3⟩, g0, g1, g2, g3⟩ := row4 (blk_thru hb7 P3.out.r4); have Q7 := Lib.hid (P3.out.b.trans (hb7.mono sb)); clear hb7))
          (try simp only [Exit.inBlock, Exit.then])
          refine bodyPost_ret (results_cells_tmp rfl _ _ w.heap.size [.int .i64 0, .slice none 0 0, .slice none 0 0, .slice none 0 0] _ rfl ?_ Try.underlying55 rnode_info') rfl ?_
          · refine four ⟨?_, ?_, ?_, ?_⟩ <;> go_simp
          · rw [HNp.out]
            refine ⟨_, rfl, nown_zero _ _, ?_⟩
            repeat (refine Below.setCell ?_ (by simp) _)
            exact Q7.out
        | true =>
          rw [hck] at CC HNe
          rw [if_pos rfl] at HNe
          have HNp := Lib.hid HNe
          clear HNe d0 d1 d2 d3 g0 g1 g2 g3 m0 m1 m2 m3 q0 q1 q2 q3
          obtain ⟨⟨m0, m1, m2, m3⟩, _⟩ := row4 P3.out.nb.rN
          go_upto_region 32 with (go_at_call 31; ((with_reducible refine CC.out.mono ?_); rintro e w7 ⟨rfl, hb7⟩; have R7 := Lib.hid (blk_thru hb7 P3.out.r4); have O7 := Lib.hid (nown_below OO.out hb7); clear m0 m1 m2 m3; obtain ⟨⟨m0, m1, m2, m3⟩, _⟩ := row4 (blk_thru hb7 P3.out.nb.rN); have Q7 := Lib.hid (P3.out.b.trans (hb7.mono sb)); clear hb7))
          obtain ⟨⟨d0, d1, d2, d3⟩, g0, g1, g2, g3⟩ := row4 R7.out
          go_wp2
          (try simp only [Exit.inBlock, Exit.then])
          refine bodyPost_ret (results_cells_tmp rfl _ _ w.heap.size [.int .i64 2, .slice D1 (mk 2 G).keys.length y1, .slice D2 (mk 2 G).vals.length y2, .slice D3 (mk 2 G).kids.length y3] _ rfl ?_ Try.underlying55 rnode_info') rfl ?_
          · exact four (row4 (set4 R7.out _ _ _ _)).1
          · rw [HNp.out]
            exact ⟨_, rfl, nown_mono (nown_put O7.out (by omega)) (by omega), below_put4 Q7.out (Nat.le_refl _)⟩
end Nod
end Go.Proofs.Ytjikioiejdfodaa
