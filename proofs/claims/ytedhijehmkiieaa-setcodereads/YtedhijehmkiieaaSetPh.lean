/-
  Setcode (layer 13): the pairs of bytes: the document's own FromPairs.
-/
import Derived.Test.YtedhijehmkiieaaSetPg
namespace Go.Proofs.Ytedhijehmkiieaa
open Go.RowKit
namespace Sc
open B
open V (hd_le or_sum head_any)

theorem decP_err {n : Nat} {acc : List P2} {s : List UInt8} {e : Nat} {r : Nat × List UInt8} (h : one s = (e, r)) (he : e ≠ 0) : decP (n + 1) acc s = ([], e) := by rw [decP, h]; simp only; rw [if_pos he]
theorem decP_err2 {n x e : Nat} {acc : List P2} {s t : List UInt8} {r : Nat × List UInt8} (h : one s = (0, x, t)) (h2 : one t = (e, r)) (he : e ≠ 0) : decP (n + 1) acc s = ([], e) := by
  rw [decP, h]; simp only; rw [if_neg (by simp), h2]; simp only; rw [if_pos he]
theorem decP_next {n x y : Nat} {acc : List P2} {s t u : List UInt8} (h : one s = (0, x, t)) (h2 : one t = (0, y, u)) : decP (n + 1) acc s = decP n (acc ++ [((x : Int), (y : Int))]) u := by
  rw [decP, h]; simp only; rw [if_neg (by simp), h2]; simp only; rw [if_neg (by simp)]
theorem one_err {s : List UInt8} {x m f : Nat} (hr : Var.hd 0 0 s = (x, m, f)) (hf : f ≠ 0) : one s = (f, 0, []) := by rw [one_of hr, if_pos hf]
theorem one_big {s : List UInt8} {x m : Nat} (hr : Var.hd 0 0 s = (x, m, 0)) (hx : 2147483647 < x) : one s = (4, 0, []) := by rw [one_of hr, if_neg (by simp), if_pos hx]
theorem one_ok {S : ByteArray} {x m : Nat} (hr : Var.hd 0 0 S.data.toList = (x, m, 0)) (hx : ¬ 2147483647 < x) : one S.data.toList = (0, x, (S.extract m S.size).data.toList) := by rw [one_of hr, if_neg (by simp), if_neg hx, drop_data]
theorem decodeP_err {s : List UInt8} {e : Nat} {r : Nat × List UInt8} (h : one s = (e, r)) (he : e ≠ 0) : decodeP s = ([], e) := by unfold decodeP; rw [h]; simp only; rw [if_pos he]
theorem decodeP_go {s t : List UInt8} {x : Nat} (h : one s = (0, x, t)) : decodeP s = decP x [] t := by unfold decodeP; rw [h]; simp only; rw [if_neg (by simp)]
theorem decP_end (acc : List P2) (s : List UInt8) : decP 0 acc s = if s = [] then (if prise acc = true then (acc, 0) else ([], 1)) else ([], 3) := by rw [decP]
theorem own_litQ (W : World) : (W.alloc (.cells #[] 116)).ownsRow W.heap.size 116 2 (.slice (some ⟨W.heap.size, 0, none⟩) 0 0) 0 [] := World.ownsRow_lit (size := 2) W #[] 0 (Nat.le_refl _) (Nat.zero_le _) rfl

set_option maxRecDepth 100000 in
set_option maxHeartbeats 4000000 in
theorem refFromPairs_any (s : ByteArray) (w : World) (hs : s.size ≤ 1000) :
    Calls Try.prog 31 #[.string s] w fun e w' => ∃ v, e = .returned (.tuple #[v, .int .i64 ((decodeP s.data.toList).2 : Int)]) ∧ LstP w' v (decodeP s.data.toList).1 ∧ Below w.heap.size w w' := by
  obtain ⟨i0, hi, hz0, hz1, hz2⟩ := info_parts infoP
  obtain ⟨N, m0, f0, hr0⟩ : ∃ x n f, Var.hd 0 0 s.data.toList = (x, n, f) := ⟨_, _, _, rfl⟩
  have C0 := Lib.hid (head_at s N m0 f0 hs hr0)
  have hm0 : m0 ≤ s.size := by have := hd_le2 hr0; rw [size_data] at this; exact this
  have hN64 : N < 18446744073709551616 := hd_64 _ _ _ _ _ _ (by omega) (by decide) hr0
  by_cases hf0 : f0 = 0
  · subst hf0
    by_cases hN : 2147483647 < N
    · rw [decodeP_err (one_big hr0 hN) (by decide)]
      clear hr0
      go_enter Try.func31, Try.ntmps31
      go_wp2_with (go_at_call 61; ((with_reducible refine (C0.out _).mono ?_); rintro e1 w' ⟨rfl, rfl⟩))
      go_ret2
      exact ⟨_, rfl, lstP_nil _, Below.refl _ _⟩
    · have hD0 := decodeP_go (one_ok hr0 hN)
      generalize decodeP s.data.toList = D at *
      have HD0 : Hid (decP (N - 0) [] (s.extract m0 s.size).data.toList = D) := hD0.symm
      have hs0 : (s.extract m0 s.size).size ≤ 1000 := by rw [ByteArray.size_extract]; omega
      clear hD0 hr0
      go_enter Try.func31, Try.ntmps31
      go_wp2_with (go_at_call 61; ((with_reducible refine (C0.out _).mono ?_); rintro e1 w' ⟨rfl, rfl⟩))
      go_loopw [0, 7, 8] (fun t0 t7 t8 wr => ∃ (i : Nat) (acc : List P2) (S : ByteArray), i ≤ N ∧ t0 = .string S ∧ t8 = .int .u64 (i : Int) ∧ acc.length ≤ i ∧ i + S.size ≤ 1000 ∧ (∀ p ∈ acc, pmay p) ∧ decP (N - i) acc S.data.toList = D ∧ wr.ownsRow w.heap.size 116 2 t7 acc.length (pcs acc) ∧ Below w.heap.size w wr) (fun _ _ t8 _ => N - (intOf t8).toNat)
      case atStart => exact ⟨0, [], _, Nat.zero_le _, rfl, rfl, Nat.le_refl _, by omega, fun p hp => (by cases hp), HD0.out, own_litQ w, (Below.refl _ _).alloc (Nat.le_refl _) _⟩
      case round =>
        obtain ⟨i, acc, S, hiN, rfl, rfl, hal, hS, hmy, hd, hown, hbel⟩ := hrel
        clear HD0
        have sw := hbel.size
        have MY := Lib.hid hmy
        have OW := Lib.hid hown
        have BW := Lib.hid hbel
        clear hmy hown hbel
        by_cases hlt : i < N
        · have hNi : N - i = (N - (i + 1)) + 1 := by omega
          rw [hNi] at hd
          obtain ⟨x, m, f, hr⟩ : ∃ x n f, Var.hd 0 0 S.data.toList = (x, n, f) := ⟨_, _, _, rfl⟩
          have CH := Lib.hid (head_at S x m f (by omega) hr)
          have hm : m ≤ S.size := by have := hd_le2 hr; rw [size_data] at this; exact this
          have hx64 : x < 18446744073709551616 := hd_64 _ _ _ _ _ _ (by omega) (by decide) hr
          have hltI : (i : Int) < (N : Int) := by omega
          have bA := (Below.refl wr.heap.size wr).alloc (Nat.le_refl _) (.cells #[.int .i64 0, .int .i64 0] 116)
          have BA := Lib.hid (BW.out.trans (bA.mono sw))
          have RA := heap_last wr (.cells #[.int .i64 0, .int .i64 0] 116) wr.heap.size rfl
          by_cases hf : f = 0
          · subst hf
            by_cases hx : 2147483647 < x
            · rw [decP_err (one_big hr hx) (by decide)] at hd
              have HD := Lib.hid hd
              clear hr hd hNi bA RA
              go_wp2
              refine wp_loop_rounds 1 ?_
              rw [rounds_succ]
              go_wp2_with (go_at_call 61; ((with_reducible refine (CH.out _).mono ?_); rintro e1 w' ⟨rfl, rfl⟩))
              (try simp only [Exit.inBlock, Exit.then])
              go_ret2
              rw [← HD.out]
              exact ⟨_, rfl, lstP_nil _, BA.out⟩
            · have ho1 := one_ok hr hx
              have hmp := hd_pos hr
              have hz : (S.extract m S.size).size + m = S.size := by rw [ByteArray.size_extract]; omega
              obtain ⟨S1, hS1⟩ : ∃ S1, S.extract m S.size = S1 := ⟨_, rfl⟩
              rw [hS1] at ho1 hz
              obtain ⟨y, m2, f2, hr2⟩ : ∃ x n f, Var.hd 0 0 S1.data.toList = (x, n, f) := ⟨_, _, _, rfl⟩
              have CH2 := Lib.hid (head_at S1 y m2 f2 (by omega) hr2)
              have hm2 : m2 ≤ S1.size := by have := hd_le2 hr2; rw [size_data] at this; exact this
              have hy64 : y < 18446744073709551616 := hd_64 _ _ _ _ _ _ (by omega) (by decide) hr2
              have c4 := (row_cell (cs := [Value.int .i64 0, .int .i64 0]) RA 0).trans rfl
              have f4 := row_frozen (cs := [Value.int .i64 0, .int .i64 0]) RA 0
              have B5 := Lib.hid (BW.out.alloc sw (.cells #[.int .i64 (x : Int), .int .i64 0] 116))
              have R5 := heap_last wr (.cells #[.int .i64 (x : Int), .int .i64 0] 116) wr.heap.size rfl
              have HS1 := Lib.hid hS1
              by_cases hf2 : f2 = 0
              · subst hf2
                by_cases hy : 2147483647 < y
                · rw [decP_err2 ho1 (one_big hr2 hy) (by decide)] at hd
                  have HD := Lib.hid hd
                  clear hr hr2 hd hNi bA ho1 hz hS1 R5
                  go_wp2
                  refine wp_loop_rounds 2 ?_
                  rw [rounds_succ]
                  go_wp2_with (go_at_call 61; ((with_reducible refine (CH.out _).mono ?_); rintro e1 w' ⟨rfl, rfl⟩))
                  rw [HS1.out]
                  rw [rounds_succ]
                  go_wp2_with (go_at_call 61; ((with_reducible refine (CH2.out _).mono ?_); rintro e1 w' ⟨rfl, rfl⟩))
                  (try simp only [Exit.inBlock, Exit.then])
                  go_ret2
                  rw [← HD.out]
                  exact ⟨_, rfl, lstP_nil _, B5.out⟩
                · have ho2 := one_ok hr2 hy
                  have hmp2 := hd_pos hr2
                  have hz2 : (S1.extract m2 S1.size).size + m2 = S1.size := by rw [ByteArray.size_extract]; omega
                  obtain ⟨S2, hS2⟩ : ∃ S2, S1.extract m2 S1.size = S2 := ⟨_, rfl⟩
                  rw [hS2] at ho2 hz2
                  rw [decP_next ho1 ho2] at hd
                  have HD := Lib.hid hd
                  have HS2 := Lib.hid hS2
                  have HZ : i + 1 + S2.size ≤ 1000 := by omega
                  have hm3 : acc.length + 1 ≤ maxLen := by unfold maxLen; omega
                  have hm4 : (acc.length + 1) * 16 ≤ 140737488355328 := by omega
                  have c5 := (row_cell (cs := [Value.int .i64 (x : Int), .int .i64 0]) R5 1).trans rfl
                  have f5 := row_frozen (cs := [Value.int .i64 (x : Int), .int .i64 0]) R5 1
                  have B7 := Lib.hid (BW.out.alloc sw (.cells #[.int .i64 (x : Int), .int .i64 (y : Int)] 116))
                  have R7 := heap_last wr (.cells #[.int .i64 (x : Int), .int .i64 (y : Int)] 116) wr.heap.size rfl
                  have O7 := Lib.hid (OW.out.alloc (.cells #[.int .i64 (x : Int), .int .i64 (y : Int)] 116))
                  clear hr hr2 hd hNi bA ho1 ho2 hz hz2 hS1 hS2
                  go_wp2
                  refine wp_loop_rounds 3 ?_
                  rw [rounds_succ]
                  go_wp2_with (go_at_call 61; ((with_reducible refine (CH.out _).mono ?_); rintro e1 w' ⟨rfl, rfl⟩))
                  rw [HS1.out]
                  rw [rounds_succ]
                  go_wp2_with (go_at_call 61; ((with_reducible refine (CH2.out _).mono ?_); rintro e1 w' ⟨rfl, rfl⟩))
                  rw [HS2.out]
                  clear c4 f4 c5 f5 R5 RA
                  generalize wr.alloc (.cells #[.int .i64 (x : Int), .int .i64 (y : Int)] 116) = W7 at *
                  have c7 := (row_cell (cs := [Value.int .i64 (x : Int), .int .i64 (y : Int)]) R7 0).trans rfl
                  have d7 := (row_cell (cs := [Value.int .i64 (x : Int), .int .i64 (y : Int)]) R7 1).trans rfl
                  have s7 := B7.out.size
                  rw [rounds_succ]
                  go_wp2_with (at_builtin; refine wpList_append_own _ rfl _ _ 66 rfl w.heap.size 116 i0 _ 2 16 Try.underlying66 hi hz0 hz1 hz2 rfl (by decide) _ _ _ rfl (O7.out.alloc _) ⟨W7.heap.size, 0, none⟩ 1 1 [.int .i64 (x : Int), .int .i64 (y : Int)] rfl rfl (news2 (heap_last _ _ _ rfl)) (two_cells _ _) hm3 hm4 (base1 s7 _) ?_)
                  intro v' w8 hown' hgrow _
                  have HB : Hid (Below w.heap.size w w8) := (B7.out.alloc s7 _).grown hgrow (by simp; omega) (fun q hq => (O7.out.lt q hq).1)
                  have HO : Hid (w8.ownsRow w.heap.size 116 2 v' (acc ++ [((x : Int), (y : Int))]).length (pcs (acc ++ [((x : Int), (y : Int))]))) := by unfold Hid; rw [List.length_append, List.length_singleton, pcs_snoc]; exact hown'
                  have HM : Hid (∀ p ∈ acc ++ [((x : Int), (y : Int))], pmay p) := fun p hp => by
                    rcases List.mem_append.1 hp with hp | hp
                    · exact MY.out p hp
                    · rw [List.mem_singleton] at hp; subst hp
                      exact ⟨by simp, by simp only []; omega, by simp, by simp only []; omega⟩
                  clear hown' hgrow
                  go_wp2
                  go_roundw
                  case rel => exact ⟨i + 1, acc ++ [((x : Int), (y : Int))], S2, by omega, rfl, by go_num, by rw [List.length_append, List.length_singleton]; omega, HZ, HM.out, HD.out, HO.out, HB.out⟩
                  case measure => simp [intOf]; omega
              · rw [decP_err2 ho1 (one_err hr2 hf2) hf2] at hd
                have HD := Lib.hid hd
                have hf1' := nat_eq0 (show 0 < f2 by omega)
                have hf2' := nat_ne0 (show 0 < f2 by omega)
                clear hr hr2 hd hNi bA ho1 hz hS1 R5 hf2
                go_wp2
                refine wp_loop_rounds 2 ?_
                rw [rounds_succ]
                go_wp2_with (go_at_call 61; ((with_reducible refine (CH.out _).mono ?_); rintro e1 w' ⟨rfl, rfl⟩))
                rw [HS1.out]
                rw [rounds_succ]
                go_wp2_with (go_at_call 61; ((with_reducible refine (CH2.out _).mono ?_); rintro e1 w' ⟨rfl, rfl⟩))
                (try simp only [Exit.inBlock, Exit.then])
                go_ret2
                rw [← HD.out]
                exact ⟨_, rfl, lstP_nil _, B5.out⟩
          · rw [decP_err (one_err hr hf) hf] at hd
            have HD := Lib.hid hd
            have hf1 := nat_eq0 (show 0 < f by omega)
            have hf2 := nat_ne0 (show 0 < f by omega)
            clear hr hd hNi hf bA RA
            go_wp2
            refine wp_loop_rounds 1 ?_
            rw [rounds_succ]
            go_wp2_with (go_at_call 61; ((with_reducible refine (CH.out _).mono ?_); rintro e1 w' ⟨rfl, rfl⟩))
            (try simp only [Exit.inBlock, Exit.then])
            go_ret2
            rw [← HD.out]
            exact ⟨_, rfl, lstP_nil _, BA.out⟩
        · have hNi : N - i = 0 := by omega
          rw [hNi, decP_end] at hd
          have hltI : decide ((i : Int) < (N : Int)) = false := decide_eq_false (by omega)
          by_cases hz : S.size = 0
          · rw [if_pos (data_nil hz)] at hd
            have h1 := is_empty hz
            have h2 : (!S.toList.isEmpty) = false := by rw [h1]; rfl
            obtain ⟨A, c, rfl, hA, _⟩ := own_prr OW.out
            have HA := Lib.hid hA
            have cr := refRise_any acc A c wr (by omega) hA
            by_cases hp : prise acc = true
            · rw [if_pos hp] at hd
              rw [may_okP MY.out hp] at cr
              have HD := Lib.hid hd
              have CR := Lib.hid cr
              clear hd hNi hz hA cr hp
              go_wp2_with (go_at_call 34; ((with_reducible refine CR.out.mono ?_); rintro e1 w2 ⟨rfl, hb2⟩))
              go_ret2
              rw [← HD.out]
              exact ⟨_, rfl, ⟨_, _, rfl, HA.out.below hb2⟩, BW.out.trans (hb2.mono sw)⟩
            · rw [if_neg hp] at hd
              have hpf : prise acc = false := by simpa using hp
              have hof : okP acc = false := by unfold okP; rw [hpf]; rfl
              rw [hof] at cr
              have HD := Lib.hid hd
              have CR := Lib.hid cr
              clear hd hNi hz hA cr hp hpf hof
              go_wp2_with (go_at_call 34; ((with_reducible refine CR.out.mono ?_); rintro e1 w2 ⟨rfl, hb2⟩))
              go_ret2
              rw [← HD.out]
              exact ⟨_, rfl, lstP_nil _, BW.out.trans (hb2.mono sw)⟩
          · rw [if_neg (data_ne hz)] at hd
            have HD := Lib.hid hd
            have h1 := not_empty (show 0 < S.size by omega)
            have h2 : (!S.toList.isEmpty) = true := by rw [h1]; rfl
            clear hd hNi hz
            go_wp2
            go_ret2
            rw [← HD.out]
            exact ⟨_, rfl, lstP_nil _, BW.out⟩
  · have hf1 := nat_eq0 (show 0 < f0 by omega)
    have hf2 := nat_ne0 (show 0 < f0 by omega)
    rw [decodeP_err (one_err hr0 hf0) hf0]
    clear hr0 hf0
    go_enter Try.func31, Try.ntmps31
    go_wp2_with (go_at_call 61; ((with_reducible refine (C0.out _).mono ?_); rintro e1 w' ⟨rfl, rfl⟩))
    go_ret2
    exact ⟨_, rfl, lstP_nil _, Below.refl _ _⟩
end Sc
end Go.Proofs.Ytedhijehmkiieaa
