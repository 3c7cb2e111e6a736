/-
  Setcode (layer 13): the set of bytes: the program's Decode.
-/
import Derived.Test.YtedhijehmkiieaaSetDec
namespace Go.Proofs.Ytedhijehmkiieaa
open Go.RowKit
namespace Sc
open B
open V (hd_le or_sum head_any InAt failS numS endS in_num in_err in_end fail_any of_new numS_le numS_size failS_size)

/-- what is being read, and the row of what was read -/
structure DS (M : Nat) (w : World) (t n : Nat) (sz : Nat) (g : Nat) (v : Value) (xs : List Value) (S : ByteArray) (e : Nat) : Prop where
  i : InAt w g S e
  o : w.ownsRow M t sz v n xs
  l1 : g < M
  l2 : M ≤ w.heap.size
section
variable {M : Nat} {w : World} {t n sz g : Nat} {v : Value} {xs : List Value} {S : ByteArray} {e : Nat}
theorem DS.read {w' : World} {S' : ByteArray} {e' : Nat} (h : DS M w t n sz g v xs S e) (hi : InAt w' g S' e') (hg : w.grownBy w' (some g)) : DS M w' t n sz g v xs S' e' := by
  have h1 := h.l1
  refine ⟨hi, h.o.kept hg ?_, h.l1, Nat.le_trans h.l2 hg.size⟩
  cases hq : v.ownBlock with
  | none => simp
  | some b => have := (h.o.lt b hq).1; simp; omega
theorem DS.more {o : Obj} {w' : World} {v' : Value} {m : Nat} {ys : List Value} (h : DS M w t n sz g v xs S e) (own : w'.ownsRow M t sz v' m ys) (grow : (w.alloc o).grownBy w' v.ownBlock) : DS M w' t m sz g v' ys S e := by
  have h1 := h.l1
  have h2 := h.l2
  have hb : w'.heap[g]? = w.heap[g]? := by
    rw [grow.block g (by simp; omega) (fun q => by have := (h.o.lt g q.symm).1; omega)]
    exact Below.heap_alloc w o g (by omega)
  obtain ⟨a, b, c, d⟩ := h.i
  refine ⟨⟨?_, ?_, ?_, ?_⟩, own, h1, ?_⟩
  · rw [World.cell?_of_block (w := w) (by exact hb)]; exact a
  · rw [World.cell?_of_block (w := w) (by exact hb)]; exact b
  · rw [World.frozen?_of_block (w := w) (by exact hb)]; exact c
  · rw [World.frozen?_of_block (w := w) (by exact hb)]; exact d
  · have := grow.size; simp at this; omega
end
/-- what Num of In takes: a number, or the error -/
theorem num_fine {S : ByteArray} {x m : Nat} (hr : Var.hd 0 0 S.data.toList = (x, m, 0)) (hx : ¬ 2147483647 < x) : numS S 0 2147483647 = (x, S.extract m S.size, 0) := by
  unfold numS; rw [hr, if_pos rfl, if_pos (by omega)]
theorem num_bad {S : ByteArray} {x m f : Nat} (hr : Var.hd 0 0 S.data.toList = (x, m, f)) (hb : f ≠ 0 ∨ 2147483647 < x) : numS S 0 2147483647 = (0, ⟨#[]⟩, if f ≠ 0 then f else 4) := by
  unfold numS
  rw [hr]
  by_cases hf : f = 0
  · subst hf
    rw [if_pos rfl, if_neg (by omega)]; simp [failS]
  · rw [if_neg hf, if_pos hf]
    unfold failS
    rw [if_neg (by simp only; omega)]
theorem fail_new {S : ByteArray} {f : Nat} (h : f ≠ 0) : failS S 0 f = (⟨#[]⟩, f) := by unfold failS; rw [if_neg (by omega)]
theorem fail_old {S : ByteArray} {e f : Nat} (h : e ≠ 0) : failS S e f = (S, e) := by unfold failS; rw [if_pos (.inr h)]
theorem failed {S : ByteArray} {x m f : Nat} (hr : Var.hd 0 0 S.data.toList = (x, m, f)) (hb : f ≠ 0 ∨ 2147483647 < x) (n least : Nat) (acc : List Int) : dec (n + 1) least acc S.data.toList = ([], if f ≠ 0 then f else 4) := by
  by_cases hf : f = 0
  · subst hf; rw [dec_big hr (by omega)]; rfl
  · rw [dec_err hr hf, if_pos hf]
theorem failedS {S : ByteArray} {x m f : Nat} (hr : Var.hd 0 0 S.data.toList = (x, m, f)) (hb : f ≠ 0 ∨ 2147483647 < x) : decode S.data.toList = ([], if f ≠ 0 then f else 4) := by
  by_cases hf : f = 0
  · subst hf; rw [decode_big hr (by omega)]; rfl
  · rw [decode_err hr hf, if_pos hf]
theorem code_ne (f : Nat) : (if f ≠ 0 then f else 4) ≠ 0 := by split <;> omega

/-- what has been read, what is left, and what will come of it -/
def Dst (D : List Int × Nat) (n least : Nat) (acc : List Int) (S : ByteArray) (E : Nat) : Prop :=
  (E = 0 → dec n least acc S.data.toList = D ∧ acc.length + S.size ≤ 1000 ∧ least ≤ 2147483648) ∧ (E ≠ 0 → ([], E) = D ∧ S = ⟨#[]⟩)
theorem dst_ok {D : List Int × Nat} {n least x m : Nat} {acc : List Int} {S : ByteArray} (h : Dst D (n + 1) least acc S 0) (hr : Var.hd 0 0 S.data.toList = (x, m, 0)) (hx : ¬ 2147483647 < x) (hy : ¬ 2147483647 < least + x) :
    Dst D n (least + x + 1) (acc ++ [((least + x : Nat) : Int)]) (S.extract m S.size) 0 := by
  obtain ⟨h1, h2, h3⟩ := h.1 rfl
  rw [dec_next hr hx hy] at h1
  have hm : m ≤ S.size := by have := hd_le2 hr; rw [size_data] at this; exact this
  have hp := hd_pos hr
  refine ⟨fun _ => ⟨by rw [drop_data]; exact h1, ?_, by omega⟩, fun h => absurd rfl h⟩
  rw [List.length_append, List.length_singleton, ByteArray.size_extract]; omega
theorem dst_over {D : List Int × Nat} {n least x m : Nat} {acc acc' : List Int} {S : ByteArray} (h : Dst D (n + 1) least acc S 0) (hr : Var.hd 0 0 S.data.toList = (x, m, 0)) (hx : ¬ 2147483647 < x) (hy : 2147483647 < least + x) (n' least' : Nat) :
    Dst D n' least' acc' ⟨#[]⟩ 1 := by
  obtain ⟨h1, h2, h3⟩ := h.1 rfl
  rw [dec_over hr hx hy] at h1
  exact ⟨fun h => absurd h (by decide), fun _ => ⟨h1, rfl⟩⟩
theorem dst_bad {D : List Int × Nat} {n least x m f : Nat} {acc acc' : List Int} {S : ByteArray} (h : Dst D (n + 1) least acc S 0) (hr : Var.hd 0 0 S.data.toList = (x, m, f)) (hb : f ≠ 0 ∨ 2147483647 < x) (n' least' : Nat) :
    Dst D n' least' acc' ⟨#[]⟩ (if f ≠ 0 then f else 4) := by
  obtain ⟨h1, h2, h3⟩ := h.1 rfl
  rw [failed hr hb] at h1
  exact ⟨fun h => absurd h (code_ne f), fun _ => ⟨h1, rfl⟩⟩

set_option maxRecDepth 100000 in
set_option maxHeartbeats 4000000 in
theorem decode_any (s : ByteArray) (w : World) (hs : s.size ≤ 1000) :
    Calls Try.prog 25 #[.string s] w fun e w' => ∃ v, e = .returned (.tuple #[v, .int .i64 ((decode s.data.toList).2 : Int)]) ∧ Lst w' v (decode s.data.toList).1 ∧ Below w.heap.size w w' := by
  obtain ⟨i0, hi, hz0, hz1, hz2⟩ := info_parts info3
  have CO := Lib.hid (of_new s w)
  obtain ⟨N, S0, E0, hn⟩ : ∃ N S0 E0, numS s 0 2147483647 = (N, S0, E0) := ⟨_, _, _, rfl⟩
  have hNle : N ≤ 2147483647 := by have := numS_le s 0 2147483647; rw [hn] at this; exact this
  have hS0 : S0.size ≤ s.size := by have := numS_size s 0 2147483647; rw [hn] at this; exact this
  have CN := Lib.hid (fun W g (q : InAt W g s 0) => (show Calls Try.prog 57 #[.pointer (some ⟨g, 0, none⟩), .int .u64 2147483647] W fun r w' => r = .returned (.int .u64 (N : Int)) ∧ InAt w' g S0 E0 ∧ W.grownBy w' (some g) by
    have := in_num g s 0 2147483647 W q (by unfold maxLen; omega); rw [hn] at this; exact this))
  have D0 : Hid (Dst (decode s.data.toList) N 0 [] S0 E0) := by
    obtain ⟨x, m, f, hr⟩ : ∃ x n f, Var.hd 0 0 s.data.toList = (x, n, f) := ⟨_, _, _, rfl⟩
    by_cases hb : f ≠ 0 ∨ 2147483647 < x
    · rw [num_bad hr hb] at hn
      injection hn with h1 h2
      injection h2 with h2 h3
      subst h1 h2 h3
      rw [failedS hr hb]
      exact ⟨fun h => absurd h (code_ne f), fun _ => ⟨rfl, rfl⟩⟩
    · have hf : f = 0 := by omega
      subst hf
      have hx : ¬ 2147483647 < x := by omega
      rw [num_fine hr hx] at hn
      injection hn with h1 h2
      injection h2 with h2 h3
      subst h1 h2 h3
      rw [decode_go hr hx]
      exact ⟨fun _ => ⟨by rw [drop_data], by simp only [List.length_nil]; omega, by omega⟩, fun h => absurd rfl h⟩
  generalize decode s.data.toList = D at *
  clear hn
  go_enter Try.func25, Try.ntmps25
  go_wp2_with (first
    | (go_at_call 56; ((with_reducible refine CO.out.mono ?_); rintro e w1 ⟨rfl, hi1, hb1, hs1⟩; have B1 := Lib.hid hb1; have I1 := Lib.hid hi1; clear hi1 hb1))
    | (go_at_call 57; ((with_reducible refine (CN.out _ _ I1.out).mono ?_); rintro e w2 ⟨rfl, hi2, hg2⟩; have I2 := Lib.hid hi2; have G2 := Lib.hid hg2; clear hi2 hg2)))
  have P2 : Hid (DS (w.heap.size + 1) w2 3 0 1 w.heap.size (.slice none 0 0) [] S0 E0) := ⟨I2.out, World.ownsRow_nil _ _ _ _, by omega, by have := G2.out.size; omega⟩
  have B2 := Lib.hid (B1.out.trans (B.grown_below G2.out (Nat.le_refl _) B1.out.size))
  clear I1 I2 G2 B1 CO CN
  go_loopw [5, 6, 7] (fun t5 t6 t7 wr => ∃ (n least : Nat) (acc : List Int) (S : ByteArray) (E : Nat), t6 = .int .u64 (least : Int) ∧ t7 = .int .u64 (n : Int) ∧ n ≤ 2147483647 ∧ least ≤ 4294967296 ∧ acc.length ≤ 1001 ∧ S.size ≤ 1000 ∧ Dst D n least acc S E ∧ DS (w.heap.size + 1) wr 3 acc.length 1 w.heap.size t5 (acc.map vInt) S E ∧ Below w.heap.size w wr) (fun _ _ t7 _ => (intOf t7).toNat)
  case atStart => exact ⟨N, 0, [], S0, E0, rfl, rfl, hNle, by omega, by simp, by omega, D0.out, P2.out, B2.out⟩
  case round =>
    obtain ⟨n, least, acc, S, E, rfl, rfl, hn, hle, hac, hS, hdst, hds, hbel⟩ := hrel
    clear D0 P2 B2
    have DD := Lib.hid hdst
    have P3 := Lib.hid hds
    have B3 := Lib.hid hbel
    have CE := Lib.hid (in_err _ S E wr hds.i)
    have sb := hbel.size
    clear hdst hds hbel
    by_cases hgo : 0 < n ∧ E = 0
    · obtain ⟨hn0, rfl⟩ := hgo
      obtain ⟨k, rfl⟩ : ∃ k, n = k + 1 := ⟨n - 1, by omega⟩
      have hkI : (0 : Int) < ((k + 1 : Nat) : Int) := by omega
      obtain ⟨hd1, hd2, hd3⟩ := DD.out.1 rfl
      obtain ⟨x, m, f, hr⟩ : ∃ x n f, Var.hd 0 0 S.data.toList = (x, n, f) := ⟨_, _, _, rfl⟩
      have hm3 : acc.length + 1 ≤ maxLen := by unfold maxLen; omega
      have hm4 : (acc.length + 1) * 8 ≤ 140737488355328 := by omega
      have hlw : IntKind.u64.wrap (((k + 1 : Nat) : Int) - 1) = (k : Int) := by rw [show ((k + 1 : Nat) : Int) - 1 = (k : Int) by omega]; exact IntWalk.u64_in _ (by omega)
      by_cases hb : f ≠ 0 ∨ 2147483647 < x
      · have hN := num_bad hr hb
        have DB := Lib.hid (fun acc' n' least' => dst_bad (acc' := acc') DD.out hr hb n' least')
        have hcn := code_ne f
        generalize (if f ≠ 0 then f else 4) = q at *
        have CN := Lib.hid (fun W (h : InAt W w.heap.size S 0) => (show Calls Try.prog 57 #[.pointer (some ⟨w.heap.size, 0, none⟩), .int .u64 2147483647] W fun r w' => r = .returned (.int .u64 0) ∧ InAt w' w.heap.size ⟨#[]⟩ q ∧ W.grownBy w' (some w.heap.size) by
          have := in_num w.heap.size S 0 2147483647 W h (by unfold maxLen; omega); rw [hN] at this; exact this))
        have CF := Lib.hid (fun W (h : InAt W w.heap.size ⟨#[]⟩ q) => (show Calls Try.prog 59 #[.pointer (some ⟨w.heap.size, 0, none⟩), .int .i64 1] W fun r w' => r = .returned (.tuple #[]) ∧ InAt w' w.heap.size ⟨#[]⟩ q ∧ W.grownBy w' (some w.heap.size) by
          have := fail_any w.heap.size ⟨#[]⟩ q 1 W h; rw [fail_old hcn] at this; exact this))
        clear hr hb hN hd1 hcn DD
        by_cases hov : 2147483647 < least
        · have hovI : (2147483647 : Int) < (least : Int) := by omega
          go_wp2_with (first
            | (go_at_call 58; ((with_reducible refine CE.out.mono ?_); rintro e w' ⟨rfl, rfl⟩))
            | (go_at_call 57; ((with_reducible refine (CN.out _ P3.out.i).mono ?_); rintro e w4 ⟨rfl, hi4, hg4⟩; have P4 := Lib.hid (P3.out.read hi4 hg4); have B4 := Lib.hid (B3.out.trans (B.grown_below hg4 (Nat.le_refl _) sb)); have s4 := B4.out.size; clear hi4 hg4))
            | (go_at_call 59; ((with_reducible refine (CF.out _ P4.out.i).mono ?_); rintro e w5 ⟨rfl, hi5, hg5⟩; have P5 := Lib.hid (P4.out.read hi5 hg5); have B5 := Lib.hid (B4.out.trans (B.grown_below hg5 (Nat.le_refl _) s4)); have s5 := P5.out.l2; clear hi5 hg5))
            | (at_builtin; refine wpList_append_own _ rfl _ _ 26 rfl (w.heap.size + 1) 3 i0 (.int .i64 0) 1 8 Try.underlying26 hi hz0 hz1 hz2 rfl (by decide) _ _ _ rfl (P5.out.o.alloc _) ⟨w5.heap.size, 0, none⟩ 1 1 [.int .i64 (least : Int)] rfl rfl (one_new _ _ _ _ rfl) (one_int _) hm3 hm4 (base1 s5 _) ?_))
          intro v' w6 hown' hgrow _
          have HB : Hid (Below w.heap.size w w6) := (B5.out.alloc (by omega) _).grown hgrow (by simp; omega) (fun q hq => by have := (P5.out.o.lt q hq).1; omega)
          have P6 := Lib.hid (P5.out.more hown' hgrow)
          clear hown' hgrow
          go_wp2
          go_roundw
          case rel => exact ⟨k, least + 1, acc ++ [(least : Int)], ⟨#[]⟩, q, by go_num, by first | rfl | go_num, by omega, by omega, by rw [List.length_append, List.length_singleton]; omega, by decide, DB.out _ _ _, by rw [List.length_append, List.length_singleton, List.map_append]; exact P6.out, HB.out⟩
          case measure => simp [intOf]
        · have hovI : decide ((2147483647 : Int) < (least : Int)) = false := decide_eq_false (by omega)
          go_wp2_with (first
            | (go_at_call 58; ((with_reducible refine CE.out.mono ?_); rintro e w' ⟨rfl, rfl⟩))
            | (go_at_call 57; ((with_reducible refine (CN.out _ P3.out.i).mono ?_); rintro e w5 ⟨rfl, hi4, hg4⟩; have P5 := Lib.hid (P3.out.read hi4 hg4); have B5 := Lib.hid (B3.out.trans (B.grown_below hg4 (Nat.le_refl _) sb)); have s5 := P5.out.l2; clear hi4 hg4))
            | (at_builtin; refine wpList_append_own _ rfl _ _ 26 rfl (w.heap.size + 1) 3 i0 (.int .i64 0) 1 8 Try.underlying26 hi hz0 hz1 hz2 rfl (by decide) _ _ _ rfl (P5.out.o.alloc _) ⟨w5.heap.size, 0, none⟩ 1 1 [.int .i64 (least : Int)] rfl rfl (one_new _ _ _ _ rfl) (one_int _) hm3 hm4 (base1 s5 _) ?_))
          intro v' w6 hown' hgrow _
          have HB : Hid (Below w.heap.size w w6) := (B5.out.alloc (by omega) _).grown hgrow (by simp; omega) (fun q hq => by have := (P5.out.o.lt q hq).1; omega)
          have P6 := Lib.hid (P5.out.more hown' hgrow)
          clear hown' hgrow
          go_wp2
          go_roundw
          case rel => exact ⟨k, least + 1, acc ++ [(least : Int)], ⟨#[]⟩, q, by go_num, by first | rfl | go_num, by omega, by omega, by rw [List.length_append, List.length_singleton]; omega, by decide, DB.out _ _ _, by rw [List.length_append, List.length_singleton, List.map_append]; exact P6.out, HB.out⟩
          case measure => simp [intOf]
      · have hf : f = 0 := by omega
        subst hf
        have hx : ¬ 2147483647 < x := by omega
        have hN := num_fine hr hx
        have hzS : (S.extract m S.size).size ≤ 1000 := by rw [ByteArray.size_extract]; omega
        have CN := Lib.hid (fun W (h : InAt W w.heap.size S 0) => (show Calls Try.prog 57 #[.pointer (some ⟨w.heap.size, 0, none⟩), .int .u64 2147483647] W fun r w' => r = .returned (.int .u64 (x : Int)) ∧ InAt w' w.heap.size (S.extract m S.size) 0 ∧ W.grownBy w' (some w.heap.size) by
          have := in_num w.heap.size S 0 2147483647 W h (by unfold maxLen; omega); rw [hN] at this; exact this))
        by_cases hov : 2147483647 < least + x
        · have hovI : (2147483647 : Int) < (least : Int) + (x : Int) := by omega
          have DB := Lib.hid (fun acc' n' least' => dst_over (acc' := acc') DD.out hr hx hov n' least')
          have CF := Lib.hid (fun W (h : InAt W w.heap.size (S.extract m S.size) 0) => (show Calls Try.prog 59 #[.pointer (some ⟨w.heap.size, 0, none⟩), .int .i64 1] W fun r w' => r = .returned (.tuple #[]) ∧ InAt w' w.heap.size ⟨#[]⟩ 1 ∧ W.grownBy w' (some w.heap.size) by
            have := fail_any w.heap.size (S.extract m S.size) 0 1 W h; rw [fail_new (by decide)] at this; exact this))
          clear hr hb hN hd1 DD
          go_wp2_with (first
            | (go_at_call 58; ((with_reducible refine CE.out.mono ?_); rintro e w' ⟨rfl, rfl⟩))
            | (go_at_call 57; ((with_reducible refine (CN.out _ P3.out.i).mono ?_); rintro e w4 ⟨rfl, hi4, hg4⟩; have P4 := Lib.hid (P3.out.read hi4 hg4); have B4 := Lib.hid (B3.out.trans (B.grown_below hg4 (Nat.le_refl _) sb)); have s4 := B4.out.size; clear hi4 hg4))
            | (go_at_call 59; ((with_reducible refine (CF.out _ P4.out.i).mono ?_); rintro e w5 ⟨rfl, hi5, hg5⟩; have P5 := Lib.hid (P4.out.read hi5 hg5); have B5 := Lib.hid (B4.out.trans (B.grown_below hg5 (Nat.le_refl _) s4)); have s5 := P5.out.l2; clear hi5 hg5))
            | (at_builtin; refine wpList_append_own _ rfl _ _ 26 rfl (w.heap.size + 1) 3 i0 (.int .i64 0) 1 8 Try.underlying26 hi hz0 hz1 hz2 rfl (by decide) _ _ _ rfl (P5.out.o.alloc _) ⟨w5.heap.size, 0, none⟩ 1 1 [.int .i64 ((least : Int) + (x : Int))] rfl rfl (one_new _ _ _ _ rfl) (one_int _) hm3 hm4 (base1 s5 _) ?_))
          intro v' w6 hown' hgrow _
          have HB : Hid (Below w.heap.size w w6) := (B5.out.alloc (by omega) _).grown hgrow (by simp; omega) (fun q hq => by have := (P5.out.o.lt q hq).1; omega)
          have P6 := Lib.hid (P5.out.more hown' hgrow)
          clear hown' hgrow
          go_wp2
          go_roundw
          case rel => exact ⟨k, least + x + 1, acc ++ [(least : Int) + (x : Int)], ⟨#[]⟩, 1, by go_num, by first | rfl | go_num, by omega, by omega, by rw [List.length_append, List.length_singleton]; omega, by decide, DB.out _ _ _, by rw [List.length_append, List.length_singleton, List.map_append]; exact P6.out, HB.out⟩
          case measure => simp [intOf]
        · have hovI : decide ((2147483647 : Int) < (least : Int) + (x : Int)) = false := decide_eq_false (by omega)
          have DB := Lib.hid (dst_ok DD.out hr hx hov)
          rw [show ((least + x : Nat) : Int) = (least : Int) + (x : Int) by omega] at DB
          clear hr hb hN hd1 DD
          go_wp2_with (first
            | (go_at_call 58; ((with_reducible refine CE.out.mono ?_); rintro e w' ⟨rfl, rfl⟩))
            | (go_at_call 57; ((with_reducible refine (CN.out _ P3.out.i).mono ?_); rintro e w5 ⟨rfl, hi4, hg4⟩; have P5 := Lib.hid (P3.out.read hi4 hg4); have B5 := Lib.hid (B3.out.trans (B.grown_below hg4 (Nat.le_refl _) sb)); have s5 := P5.out.l2; clear hi4 hg4))
            | (at_builtin; refine wpList_append_own _ rfl _ _ 26 rfl (w.heap.size + 1) 3 i0 (.int .i64 0) 1 8 Try.underlying26 hi hz0 hz1 hz2 rfl (by decide) _ _ _ rfl (P5.out.o.alloc _) ⟨w5.heap.size, 0, none⟩ 1 1 [.int .i64 ((least : Int) + (x : Int))] rfl rfl (one_new _ _ _ _ rfl) (one_int _) hm3 hm4 (base1 s5 _) ?_))
          intro v' w6 hown' hgrow _
          have HB : Hid (Below w.heap.size w w6) := (B5.out.alloc (by omega) _).grown hgrow (by simp; omega) (fun q hq => by have := (P5.out.o.lt q hq).1; omega)
          have P6 := Lib.hid (P5.out.more hown' hgrow)
          clear hown' hgrow
          go_wp2
          go_roundw
          case rel => exact ⟨k, least + x + 1, acc ++ [(least : Int) + (x : Int)], _, 0, by go_num, by first | rfl | go_num, by omega, by omega, by rw [List.length_append, List.length_singleton]; omega, hzS, DB.out, by rw [List.length_append, List.length_singleton, List.map_append]; exact P6.out, HB.out⟩
          case measure => simp [intOf]
    · have CEn := Lib.hid (in_end _ S E wr P3.out.i)
      by_cases hE : E = 0
      · subst hE
        have hn0 : n = 0 := by omega
        subst hn0
        obtain ⟨hd1, hd2, hd3⟩ := DD.out.1 rfl
        rw [dec_done] at hd1
        by_cases hz : S.size = 0
        · rw [if_pos (data_nil hz)] at hd1
          have HD := Lib.hid hd1
          have hen : endS S 0 = 0 := by unfold endS; rw [if_neg (by omega)]
          rw [hen] at CEn
          clear hd1 hz hen DD hgo
          go_wp2_with (first
            | (go_at_call 58; ((with_reducible refine CE.out.mono ?_); rintro e w' ⟨rfl, rfl⟩))
            | (go_at_call 60; ((with_reducible refine CEn.out.mono ?_); rintro e w' ⟨rfl, rfl⟩)))
          go_ret2
          rw [← HD.out]
          exact ⟨_, rfl, lst_own P3.out.o, B3.out⟩
        · rw [if_neg (data_ne hz)] at hd1
          have HD := Lib.hid hd1
          have hen : endS S 0 = 3 := by unfold endS; rw [if_pos ⟨rfl, by omega⟩]
          rw [hen] at CEn
          clear hd1 hz hen DD hgo
          go_wp2_with (first
            | (go_at_call 58; ((with_reducible refine CE.out.mono ?_); rintro e w' ⟨rfl, rfl⟩))
            | (go_at_call 60; ((with_reducible refine CEn.out.mono ?_); rintro e w' ⟨rfl, rfl⟩)))
          go_ret2
          rw [← HD.out]
          exact ⟨_, rfl, lst_nil _, B3.out⟩
      · have HD := Lib.hid (DD.out.2 hE).1
        have hen : endS S E = E := by unfold endS; rw [if_neg (by omega)]
        rw [hen] at CEn
        have he1 := nat_eq0 (show 0 < E by omega)
        have he2 := nat_ne0 (show 0 < E by omega)
        clear hen DD hE hgo
        by_cases hn0 : n = 0
        · subst hn0
          go_wp2_with (first
            | (go_at_call 58; ((with_reducible refine CE.out.mono ?_); rintro e w' ⟨rfl, rfl⟩))
            | (go_at_call 60; ((with_reducible refine CEn.out.mono ?_); rintro e w' ⟨rfl, rfl⟩)))
          go_ret2
          rw [← HD.out]
          exact ⟨_, rfl, lst_nil _, B3.out⟩
        · have hnI : (0 : Int) < (n : Int) := by omega
          go_wp2_with (first
            | (go_at_call 58; ((with_reducible refine CE.out.mono ?_); rintro e w' ⟨rfl, rfl⟩))
            | (go_at_call 60; ((with_reducible refine CEn.out.mono ?_); rintro e w' ⟨rfl, rfl⟩)))
          go_ret2
          rw [← HD.out]
          exact ⟨_, rfl, lst_nil _, B3.out⟩
end Sc
end Go.Proofs.Ytedhijehmkiieaa
