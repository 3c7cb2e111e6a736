/-
  The walk of the statement RootRefuses.
-/
import Derived.Test.YtojbanknbgihgaaDoorRootAw
namespace Go.Proofs.YtojbanknbgihgaaDoor
open Go.RowKit
namespace Rt
open B Dsk

set_option maxRecDepth 100000 in
set_option maxHeartbeats 8000000 in
theorem refuses_walk (r : R) (w : World) (hL : Lst w) : Calls Tryd.prog 3 #[rv r] w fun e w' => e = .returned (.bool true) ∧ Below w.heap.size w w' := by
  obtain ⟨ep, half, page, next, count, height⟩ := r
  have HL := Lib.hid hL
  have hs0 := hL.1
  have b0 := (Below.refl w.heap.size w).alloc (Nat.le_refl _) (.cells #[.int .u64 (ep : Int), .int .i64 half, .int .i64 page, .int .i64 next, .int .i64 count, .int .i64 height] 24)
  have CA := Lib.hid (awake_any _ (hL.below b0 hs0))
  have K0 := Lib.hid (heap_last w (.cells #[.int .u64 (ep : Int), .int .i64 half, .int .i64 page, .int .i64 next, .int .i64 count, .int .i64 height] 24) w.heap.size rfl)
  have B0 := Lib.hid b0
  have CN := Lib.hid (fun W => new_my 2 2 W rfl (by omega) (by omega))
  clear hL b0
  go_enter Tryd.func3, Tryd.ntmps3
  go_upto_region 10 with (first
    | (go_at_call 5; ((with_reducible refine CA.out.mono ?_); rintro e w1 ⟨rfl, hb1⟩; have B1 := Lib.hid (B0.out.trans (hb1.mono B0.out.size)); have K1 := Lib.hid (blk_below K0.out hb1 (blk_lt K0.out)); clear hb1))
    | (go_at_call 6; ((with_reducible refine (CN.out _).mono ?_); rintro e w2 ⟨b, rfl, hm2, hb2⟩; have M2 := Lib.hid (My.mk (B := w.heap.size) hm2.at' hm2.inv (Nat.le_trans B1.out.size hm2.g) (Nat.le_trans B1.out.size hm2.bs) (Nat.le_trans B1.out.size hm2.bm)); have nG : w.heap.size ∉ b.l := (by have h0 := blk_lt K1.out; have h1 := hm2.g; have h2 := hm2.bs; have h3 := hm2.bm; simp only [List.mem_cons, List.not_mem_nil, or_false]; omega); have B2 := Lib.hid (B1.out.trans (hb2.mono B1.out.size)); have K2 := Lib.hid (blk_below K1.out hb2 (blk_lt K1.out)); have n0 : 0 ∉ b.l := (by have h1 := M2.out.g; have h2 := M2.out.bs; have h3 := M2.out.bm; simp only [List.mem_cons, List.not_mem_nil, or_false]; omega); have CO := Lib.hid (open_new b w2 hm2.at' (HL.out.below B2.out hs0)); clear hm2 hb2))
    | (go_at_call 7; ((with_reducible refine CO.out.mono ?_); rintro e w3 ⟨gs, rfl, hs3, hg3, hb3⟩; have bA := (Below.refl w3.heap.size w3).alloc (Nat.le_refl _) (.cells #[.int .u64 0, .int .i64 0, .int .i64 0, .int .i64 0, .int .i64 0, .int .i64 0] 24); have B3 := Lib.hid ((B2.out.trans (hb3.mono B2.out.size)).trans (bA.mono (Nat.le_trans B2.out.size hb3.size))); have M3 := Lib.hid ((M2.out.below hb3).below bA); have S3 := Lib.hid (SAt.below hs3 bA); have K3 := Lib.hid (hp_old (.cells #[.int .u64 0, .int .i64 0, .int .i64 0, .int .i64 0, .int .i64 0, .int .i64 0] 24) (blk_below K2.out hb3 (blk_lt K2.out))); have nS : gs ∉ b.l := (by obtain ⟨l1, l2, l3⟩ := M2.out.at'.lts; simp only [List.mem_cons, List.not_mem_nil, or_false]; omega); clear hs3 hg3 hb3 bA)))
  generalize w3.alloc (.cells #[.int .u64 0, .int .i64 0, .int .i64 0, .int .i64 0, .int .i64 0, .int .i64 0] 24) = W at *
  obtain ⟨k0, k1, k2, k3, k4, k5, _⟩ := row6 K3.out
  go_cut [9] (fun s9 wx => s9 = .bool (decide (may ⟨ep, half, page, next, count, height⟩)) ∧ wx = W)
  case first =>
    by_cases h0 : half = 0
    · have b0 : (half == 0) = true := by simpa using h0
      have hh : half = 0 ∨ half = 1 := .inl h0
      clear h0
      by_cases hp1 : page = -1
      · have bp : (page == -1) = true := by simpa using hp1
        have HPG : Hid (-1 ≤ page ∧ page ≤ 2147483647) := (by rw [Hid]; omega)
        clear hp1
        by_cases hnext : 0 ≤ next ∧ next ≤ 2147483647
        · have cnext := fun W => cnt_any next W
          simp only [decide_eq_true hnext] at cnext
          have Cnext := Lib.hid cnext
          clear cnext
          by_cases hcount : 0 ≤ count ∧ count ≤ 2147483647
          · have ccount := fun W => cnt_any count W
            simp only [decide_eq_true hcount] at ccount
            have Ccount := Lib.hid ccount
            clear ccount
            by_cases hheight : 0 ≤ height ∧ height ≤ 2147483647
            · have cheight := fun W => cnt_any height W
              simp only [decide_eq_true hheight] at cheight
              have Cheight := Lib.hid cheight
              clear cheight
              have HT : Hid (decide (may ⟨ep, half, page, next, count, height⟩) = true) := decide_eq_true ⟨hh, by have := HPG.out; simp only; omega, by simp only; omega, by simp only; omega, by simp only; omega⟩
              go_wp2_with (first
                | (go_at_call 8; ((with_reducible refine (Cnext.out _).mono ?_); rintro e w' ⟨rfl, rfl⟩))
                | (go_at_call 8; ((with_reducible refine (Ccount.out _).mono ?_); rintro e w' ⟨rfl, rfl⟩))
                | (go_at_call 8; ((with_reducible refine (Cheight.out _).mono ?_); rintro e w' ⟨rfl, rfl⟩)))
              go_meet
              exact ⟨congrArg Value.bool HT.out.symm, rfl⟩
            · have cheight := fun W => cnt_any height W
              simp only [decide_eq_false hheight] at cheight
              have Cheight := Lib.hid cheight
              clear cheight
              have HT : Hid (decide (may ⟨ep, half, page, next, count, height⟩) = false) := decide_eq_false (fun h => by unfold may at h; simp only at h; omega)
              go_wp2_with (first
                | (go_at_call 8; ((with_reducible refine (Cnext.out _).mono ?_); rintro e w' ⟨rfl, rfl⟩))
                | (go_at_call 8; ((with_reducible refine (Ccount.out _).mono ?_); rintro e w' ⟨rfl, rfl⟩))
                | (go_at_call 8; ((with_reducible refine (Cheight.out _).mono ?_); rintro e w' ⟨rfl, rfl⟩)))
              go_meet
              exact ⟨congrArg Value.bool HT.out.symm, rfl⟩
          · have ccount := fun W => cnt_any count W
            simp only [decide_eq_false hcount] at ccount
            have Ccount := Lib.hid ccount
            clear ccount
            have HT : Hid (decide (may ⟨ep, half, page, next, count, height⟩) = false) := decide_eq_false (fun h => by unfold may at h; simp only at h; omega)
            go_wp2_with (first
              | (go_at_call 8; ((with_reducible refine (Cnext.out _).mono ?_); rintro e w' ⟨rfl, rfl⟩))
              | (go_at_call 8; ((with_reducible refine (Ccount.out _).mono ?_); rintro e w' ⟨rfl, rfl⟩)))
            go_meet
            exact ⟨congrArg Value.bool HT.out.symm, rfl⟩
        · have cnext := fun W => cnt_any next W
          simp only [decide_eq_false hnext] at cnext
          have Cnext := Lib.hid cnext
          clear cnext
          have HT : Hid (decide (may ⟨ep, half, page, next, count, height⟩) = false) := decide_eq_false (fun h => by unfold may at h; simp only at h; omega)
          go_wp2_with (first
            | (go_at_call 8; ((with_reducible refine (Cnext.out _).mono ?_); rintro e w' ⟨rfl, rfl⟩)))
          go_meet
          exact ⟨congrArg Value.bool HT.out.symm, rfl⟩
      · have bp : (page == -1) = false := by simpa using hp1
        by_cases hpage : 0 ≤ page ∧ page ≤ 2147483647
        · have HPG : Hid (-1 ≤ page ∧ page ≤ 2147483647) := (by rw [Hid]; omega)
          have cpage := fun W => cnt_any page W
          simp only [decide_eq_true hpage] at cpage
          have Cpage := Lib.hid cpage
          clear cpage
          by_cases hnext : 0 ≤ next ∧ next ≤ 2147483647
          · have cnext := fun W => cnt_any next W
            simp only [decide_eq_true hnext] at cnext
            have Cnext := Lib.hid cnext
            clear cnext
            by_cases hcount : 0 ≤ count ∧ count ≤ 2147483647
            · have ccount := fun W => cnt_any count W
              simp only [decide_eq_true hcount] at ccount
              have Ccount := Lib.hid ccount
              clear ccount
              by_cases hheight : 0 ≤ height ∧ height ≤ 2147483647
              · have cheight := fun W => cnt_any height W
                simp only [decide_eq_true hheight] at cheight
                have Cheight := Lib.hid cheight
                clear cheight
                have HT : Hid (decide (may ⟨ep, half, page, next, count, height⟩) = true) := decide_eq_true ⟨hh, by have := HPG.out; simp only; omega, by simp only; omega, by simp only; omega, by simp only; omega⟩
                go_wp2_with (first
                  | (go_at_call 8; ((with_reducible refine (Cpage.out _).mono ?_); rintro e w' ⟨rfl, rfl⟩))
                  | (go_at_call 8; ((with_reducible refine (Cnext.out _).mono ?_); rintro e w' ⟨rfl, rfl⟩))
                  | (go_at_call 8; ((with_reducible refine (Ccount.out _).mono ?_); rintro e w' ⟨rfl, rfl⟩))
                  | (go_at_call 8; ((with_reducible refine (Cheight.out _).mono ?_); rintro e w' ⟨rfl, rfl⟩)))
                go_meet
                exact ⟨congrArg Value.bool HT.out.symm, rfl⟩
              · have cheight := fun W => cnt_any height W
                simp only [decide_eq_false hheight] at cheight
                have Cheight := Lib.hid cheight
                clear cheight
                have HT : Hid (decide (may ⟨ep, half, page, next, count, height⟩) = false) := decide_eq_false (fun h => by unfold may at h; simp only at h; omega)
                go_wp2_with (first
                  | (go_at_call 8; ((with_reducible refine (Cpage.out _).mono ?_); rintro e w' ⟨rfl, rfl⟩))
                  | (go_at_call 8; ((with_reducible refine (Cnext.out _).mono ?_); rintro e w' ⟨rfl, rfl⟩))
                  | (go_at_call 8; ((with_reducible refine (Ccount.out _).mono ?_); rintro e w' ⟨rfl, rfl⟩))
                  | (go_at_call 8; ((with_reducible refine (Cheight.out _).mono ?_); rintro e w' ⟨rfl, rfl⟩)))
                go_meet
                exact ⟨congrArg Value.bool HT.out.symm, rfl⟩
            · have ccount := fun W => cnt_any count W
              simp only [decide_eq_false hcount] at ccount
              have Ccount := Lib.hid ccount
              clear ccount
              have HT : Hid (decide (may ⟨ep, half, page, next, count, height⟩) = false) := decide_eq_false (fun h => by unfold may at h; simp only at h; omega)
              go_wp2_with (first
                | (go_at_call 8; ((with_reducible refine (Cpage.out _).mono ?_); rintro e w' ⟨rfl, rfl⟩))
                | (go_at_call 8; ((with_reducible refine (Cnext.out _).mono ?_); rintro e w' ⟨rfl, rfl⟩))
                | (go_at_call 8; ((with_reducible refine (Ccount.out _).mono ?_); rintro e w' ⟨rfl, rfl⟩)))
              go_meet
              exact ⟨congrArg Value.bool HT.out.symm, rfl⟩
          · have cnext := fun W => cnt_any next W
            simp only [decide_eq_false hnext] at cnext
            have Cnext := Lib.hid cnext
            clear cnext
            have HT : Hid (decide (may ⟨ep, half, page, next, count, height⟩) = false) := decide_eq_false (fun h => by unfold may at h; simp only at h; omega)
            go_wp2_with (first
              | (go_at_call 8; ((with_reducible refine (Cpage.out _).mono ?_); rintro e w' ⟨rfl, rfl⟩))
              | (go_at_call 8; ((with_reducible refine (Cnext.out _).mono ?_); rintro e w' ⟨rfl, rfl⟩)))
            go_meet
            exact ⟨congrArg Value.bool HT.out.symm, rfl⟩
        · have cpage := fun W => cnt_any page W
          simp only [decide_eq_false hpage] at cpage
          have Cpage := Lib.hid cpage
          clear cpage
          have HT : Hid (decide (may ⟨ep, half, page, next, count, height⟩) = false) := decide_eq_false (fun h => by unfold may at h; simp only at h; omega)
          go_wp2_with (first
            | (go_at_call 8; ((with_reducible refine (Cpage.out _).mono ?_); rintro e w' ⟨rfl, rfl⟩)))
          go_meet
          exact ⟨congrArg Value.bool HT.out.symm, rfl⟩
    · have b0 : (half == 0) = false := by simpa using h0
      by_cases h1 : half = 1
      · have b1 : (half == 1) = true := by simpa using h1
        have hh : half = 0 ∨ half = 1 := .inr h1
        clear h0 h1
        by_cases hp1 : page = -1
        · have bp : (page == -1) = true := by simpa using hp1
          have HPG : Hid (-1 ≤ page ∧ page ≤ 2147483647) := (by rw [Hid]; omega)
          clear hp1
          by_cases hnext : 0 ≤ next ∧ next ≤ 2147483647
          · have cnext := fun W => cnt_any next W
            simp only [decide_eq_true hnext] at cnext
            have Cnext := Lib.hid cnext
            clear cnext
            by_cases hcount : 0 ≤ count ∧ count ≤ 2147483647
            · have ccount := fun W => cnt_any count W
              simp only [decide_eq_true hcount] at ccount
              have Ccount := Lib.hid ccount
              clear ccount
              by_cases hheight : 0 ≤ height ∧ height ≤ 2147483647
              · have cheight := fun W => cnt_any height W
                simp only [decide_eq_true hheight] at cheight
                have Cheight := Lib.hid cheight
                clear cheight
                have HT : Hid (decide (may ⟨ep, half, page, next, count, height⟩) = true) := decide_eq_true ⟨hh, by have := HPG.out; simp only; omega, by simp only; omega, by simp only; omega, by simp only; omega⟩
                go_wp2_with (first
                  | (go_at_call 8; ((with_reducible refine (Cnext.out _).mono ?_); rintro e w' ⟨rfl, rfl⟩))
                  | (go_at_call 8; ((with_reducible refine (Ccount.out _).mono ?_); rintro e w' ⟨rfl, rfl⟩))
                  | (go_at_call 8; ((with_reducible refine (Cheight.out _).mono ?_); rintro e w' ⟨rfl, rfl⟩)))
                go_meet
                exact ⟨congrArg Value.bool HT.out.symm, rfl⟩
              · have cheight := fun W => cnt_any height W
                simp only [decide_eq_false hheight] at cheight
                have Cheight := Lib.hid cheight
                clear cheight
                have HT : Hid (decide (may ⟨ep, half, page, next, count, height⟩) = false) := decide_eq_false (fun h => by unfold may at h; simp only at h; omega)
                go_wp2_with (first
                  | (go_at_call 8; ((with_reducible refine (Cnext.out _).mono ?_); rintro e w' ⟨rfl, rfl⟩))
                  | (go_at_call 8; ((with_reducible refine (Ccount.out _).mono ?_); rintro e w' ⟨rfl, rfl⟩))
                  | (go_at_call 8; ((with_reducible refine (Cheight.out _).mono ?_); rintro e w' ⟨rfl, rfl⟩)))
                go_meet
                exact ⟨congrArg Value.bool HT.out.symm, rfl⟩
            · have ccount := fun W => cnt_any count W
              simp only [decide_eq_false hcount] at ccount
              have Ccount := Lib.hid ccount
              clear ccount
              have HT : Hid (decide (may ⟨ep, half, page, next, count, height⟩) = false) := decide_eq_false (fun h => by unfold may at h; simp only at h; omega)
              go_wp2_with (first
                | (go_at_call 8; ((with_reducible refine (Cnext.out _).mono ?_); rintro e w' ⟨rfl, rfl⟩))
                | (go_at_call 8; ((with_reducible refine (Ccount.out _).mono ?_); rintro e w' ⟨rfl, rfl⟩)))
              go_meet
              exact ⟨congrArg Value.bool HT.out.symm, rfl⟩
          · have cnext := fun W => cnt_any next W
            simp only [decide_eq_false hnext] at cnext
            have Cnext := Lib.hid cnext
            clear cnext
            have HT : Hid (decide (may ⟨ep, half, page, next, count, height⟩) = false) := decide_eq_false (fun h => by unfold may at h; simp only at h; omega)
            go_wp2_with (first
              | (go_at_call 8; ((with_reducible refine (Cnext.out _).mono ?_); rintro e w' ⟨rfl, rfl⟩)))
            go_meet
            exact ⟨congrArg Value.bool HT.out.symm, rfl⟩
        · have bp : (page == -1) = false := by simpa using hp1
          by_cases hpage : 0 ≤ page ∧ page ≤ 2147483647
          · have HPG : Hid (-1 ≤ page ∧ page ≤ 2147483647) := (by rw [Hid]; omega)
            have cpage := fun W => cnt_any page W
            simp only [decide_eq_true hpage] at cpage
            have Cpage := Lib.hid cpage
            clear cpage
            by_cases hnext : 0 ≤ next ∧ next ≤ 2147483647
            · have cnext := fun W => cnt_any next W
              simp only [decide_eq_true hnext] at cnext
              have Cnext := Lib.hid cnext
              clear cnext
              by_cases hcount : 0 ≤ count ∧ count ≤ 2147483647
              · have ccount := fun W => cnt_any count W
                simp only [decide_eq_true hcount] at ccount
                have Ccount := Lib.hid ccount
                clear ccount
                by_cases hheight : 0 ≤ height ∧ height ≤ 2147483647
                · have cheight := fun W => cnt_any height W
                  simp only [decide_eq_true hheight] at cheight
                  have Cheight := Lib.hid cheight
                  clear cheight
                  have HT : Hid (decide (may ⟨ep, half, page, next, count, height⟩) = true) := decide_eq_true ⟨hh, by have := HPG.out; simp only; omega, by simp only; omega, by simp only; omega, by simp only; omega⟩
                  go_wp2_with (first
                    | (go_at_call 8; ((with_reducible refine (Cpage.out _).mono ?_); rintro e w' ⟨rfl, rfl⟩))
                    | (go_at_call 8; ((with_reducible refine (Cnext.out _).mono ?_); rintro e w' ⟨rfl, rfl⟩))
                    | (go_at_call 8; ((with_reducible refine (Ccount.out _).mono ?_); rintro e w' ⟨rfl, rfl⟩))
                    | (go_at_call 8; ((with_reducible refine (Cheight.out _).mono ?_); rintro e w' ⟨rfl, rfl⟩)))
                  go_meet
                  exact ⟨congrArg Value.bool HT.out.symm, rfl⟩
                · have cheight := fun W => cnt_any height W
                  simp only [decide_eq_false hheight] at cheight
                  have Cheight := Lib.hid cheight
                  clear cheight
                  have HT : Hid (decide (may ⟨ep, half, page, next, count, height⟩) = false) := decide_eq_false (fun h => by unfold may at h; simp only at h; omega)
                  go_wp2_with (first
                    | (go_at_call 8; ((with_reducible refine (Cpage.out _).mono ?_); rintro e w' ⟨rfl, rfl⟩))
                    | (go_at_call 8; ((with_reducible refine (Cnext.out _).mono ?_); rintro e w' ⟨rfl, rfl⟩))
                    | (go_at_call 8; ((with_reducible refine (Ccount.out _).mono ?_); rintro e w' ⟨rfl, rfl⟩))
                    | (go_at_call 8; ((with_reducible refine (Cheight.out _).mono ?_); rintro e w' ⟨rfl, rfl⟩)))
                  go_meet
                  exact ⟨congrArg Value.bool HT.out.symm, rfl⟩
              · have ccount := fun W => cnt_any count W
                simp only [decide_eq_false hcount] at ccount
                have Ccount := Lib.hid ccount
                clear ccount
                have HT : Hid (decide (may ⟨ep, half, page, next, count, height⟩) = false) := decide_eq_false (fun h => by unfold may at h; simp only at h; omega)
                go_wp2_with (first
                  | (go_at_call 8; ((with_reducible refine (Cpage.out _).mono ?_); rintro e w' ⟨rfl, rfl⟩))
                  | (go_at_call 8; ((with_reducible refine (Cnext.out _).mono ?_); rintro e w' ⟨rfl, rfl⟩))
                  | (go_at_call 8; ((with_reducible refine (Ccount.out _).mono ?_); rintro e w' ⟨rfl, rfl⟩)))
                go_meet
                exact ⟨congrArg Value.bool HT.out.symm, rfl⟩
            · have cnext := fun W => cnt_any next W
              simp only [decide_eq_false hnext] at cnext
              have Cnext := Lib.hid cnext
              clear cnext
              have HT : Hid (decide (may ⟨ep, half, page, next, count, height⟩) = false) := decide_eq_false (fun h => by unfold may at h; simp only at h; omega)
              go_wp2_with (first
                | (go_at_call 8; ((with_reducible refine (Cpage.out _).mono ?_); rintro e w' ⟨rfl, rfl⟩))
                | (go_at_call 8; ((with_reducible refine (Cnext.out _).mono ?_); rintro e w' ⟨rfl, rfl⟩)))
              go_meet
              exact ⟨congrArg Value.bool HT.out.symm, rfl⟩
          · have cpage := fun W => cnt_any page W
            simp only [decide_eq_false hpage] at cpage
            have Cpage := Lib.hid cpage
            clear cpage
            have HT : Hid (decide (may ⟨ep, half, page, next, count, height⟩) = false) := decide_eq_false (fun h => by unfold may at h; simp only at h; omega)
            go_wp2_with (first
              | (go_at_call 8; ((with_reducible refine (Cpage.out _).mono ?_); rintro e w' ⟨rfl, rfl⟩)))
            go_meet
            exact ⟨congrArg Value.bool HT.out.symm, rfl⟩
      · have b1 : (half == 1) = false := by simpa using h1
        have HT : Hid (decide (may ⟨ep, half, page, next, count, height⟩) = false) := decide_eq_false (fun h => by unfold may at h; simp only at h; omega)
        go_wp2_with fail
        go_meet
        exact ⟨congrArg Value.bool HT.out.symm, rfl⟩
  case rest =>
    obtain ⟨rfl, rfl⟩ := hcut
    have LW := Lib.hid (HL.out.below B3.out hs0)
    by_cases hm : may ⟨ep, half, page, next, count, height⟩
    · rw [decide_eq_true hm]
      have cp := pub_one b gs ⟨ep, half, page, next, count, height⟩ wc M3.out.at' S3.out LW.out n0 nS hm
      dsimp only [rv] at cp
      have CP := Lib.hid cp
      have HM := Lib.hid hm
      have HMX : Hid (may ⟨1, half, page, next, count, height⟩) := hm
      clear cp hm
      go_wp2_with (go_at_call 9; ((with_reducible refine CP.out.mono ?_); rintro e w4 ⟨rfl, hd4, ht4⟩; have hl4 := M3.out.low ht4 B3.out.size; have bA := (Below.refl w4.heap.size w4).alloc (Nat.le_refl _) (.cells #[.int .u64 1, .int .i64 half, .int .i64 page, .int .i64 next, .int .i64 count, .int .i64 height] 24); have B4 := Lib.hid ((B3.out.trans hl4).trans (bA.mono (Nat.le_trans B3.out.size hl4.size))); have D4 := Lib.hid (hd4.below bA); have S4 := Lib.hid (SAt.below (show SAt w4 gs b from (ht4.block gs (blk_lt S3.out) nS).trans S3.out) bA); have K4 := Lib.hid (hp_old (.cells #[.int .u64 1, .int .i64 half, .int .i64 page, .int .i64 next, .int .i64 count, .int .i64 height] 24) ((ht4.block w.heap.size (blk_lt K3.out) nG).trans K3.out)); have J4 := Lib.hid (heap_last w4 (.cells #[.int .u64 1, .int .i64 half, .int .i64 page, .int .i64 next, .int .i64 count, .int .i64 height] 24) w4.heap.size rfl); have CH := Lib.hid (halt_any b _ 0 0 _ D4.out (.inl rfl) (by omega) (by omega)); have nJ : w4.heap.size ∉ b.l := (by obtain ⟨l1, l2, l3⟩ := hd4.lts; simp only [List.mem_cons, List.not_mem_nil, or_false]; omega); have M4 := Lib.hid (M3.out.touch D4.out (D3_inv _)); clear hd4 ht4 hl4 bA))
      go_at_call 11
      (with_reducible refine CH.out.mono ?_)
      rintro e w5 ⟨rfl, hd5, ht5⟩
      have B5 := Lib.hid (B4.out.trans (M4.out.low1 ht5 B4.out.size))
      have S5 := Lib.hid (show SAt w5 gs b from (ht5.block gs (blk_lt S4.out) (fun hx => nS (bl_g b _ hx))).trans S4.out)
      have K5 := Lib.hid ((ht5.block w.heap.size (blk_lt K4.out) (fun hx => nG (bl_g b _ hx))).trans K4.out)
      have J5 := Lib.hid ((ht5.block w4.heap.size (blk_lt J4.out) (fun hx => nJ (bl_g b _ hx))).trans J4.out)
      have M5 := Lib.hid (M4.out.touch hd5 (halt_inv (D3_inv _) 0))
      have cp2 := pub_two b gs ⟨1, half, page, next, count, height⟩ ⟨ep, half, page, next, count, height⟩ w5 hd5 S5.out (HL.out.below B5.out hs0) n0 nS HM.out rfl
      dsimp only [rv] at cp2
      have CP2 := Lib.hid cp2
      obtain ⟨p0, p1, p2, p3, p4, p5, _⟩ := row6 K5.out
      clear cp2 hd5 ht5
      go_wp2_with (go_at_call 9; ((with_reducible refine CP2.out.mono ?_); rintro e w6 ⟨rfl, hd6, ht6⟩; have B6 := Lib.hid (B5.out.trans (M5.out.low ht6 B5.out.size)); have K6 := Lib.hid ((ht6.block w.heap.size (blk_lt K5.out) nG).trans K5.out); have J6 := Lib.hid ((ht6.block w4.heap.size (blk_lt J5.out) nJ).trans J5.out); have bA := (Below.refl w6.heap.size w6).alloc (Nat.le_refl _) (.cells #[.int .u64 0, .int .i64 0, .int .i64 0, .int .i64 0, .int .i64 0, .int .i64 0] 24); have B7 := Lib.hid (B6.out.trans (bA.mono B6.out.size)); have K7 := Lib.hid (hp_old (.cells #[.int .u64 0, .int .i64 0, .int .i64 0, .int .i64 0, .int .i64 0, .int .i64 0] 24) K6.out); have J7 := Lib.hid (hp_old (.cells #[.int .u64 0, .int .i64 0, .int .i64 0, .int .i64 0, .int .i64 0, .int .i64 0] 24) J6.out); have CO7 := Lib.hid (open_down b _ _ (hd6.below bA) rfl); clear hd6 ht6 bA))
      go_at_call 7
      (with_reducible refine CO7.out.mono ?_)
      rintro e w8 ⟨rfl, hb8⟩
      have B8 := Lib.hid (B7.out.trans (hb8.mono B7.out.size))
      have K8 := Lib.hid (hp_old (.cells #[.int .u64 0, .int .i64 0, .int .i64 0, .int .i64 0, .int .i64 0, .int .i64 0] 24) (blk_below K7.out hb8 (blk_lt K7.out)))
      have J8 := Lib.hid (hp_old (.cells #[.int .u64 0, .int .i64 0, .int .i64 0, .int .i64 0, .int .i64 0, .int .i64 0] 24) (blk_below J7.out hb8 (blk_lt J7.out)))
      obtain ⟨x0, x1, x2, x3, x4, x5, _⟩ := row6 K8.out
      obtain ⟨y0, y1, y2, y3, y4, y5, _⟩ := row6 J8.out
      have bq : (count == count) = true := by simp
      dsimp only [rv, R0]
      go_wp2_with (fail)
      go_ret
      exact ⟨rfl, B8.out.alloc B8.out.size _⟩
    · rw [decide_eq_false hm]
      have cp := publish_bad gs ⟨ep, half, page, next, count, height⟩ wc LW.out hm
      dsimp only [rv, R0] at cp
      have CP := Lib.hid cp
      clear cp hm
      go_wp2_with (go_at_call 9; ((with_reducible refine CP.out.mono ?_); rintro e w4 ⟨rfl, hb4⟩; have B4 := Lib.hid (B3.out.trans (hb4.mono B3.out.size)); have M4 := Lib.hid (M3.out.below hb4); have bA := (Below.refl w4.heap.size w4).alloc (Nat.le_refl _) (.cells #[.int .u64 0, .int .i64 0, .int .i64 0, .int .i64 0, .int .i64 0, .int .i64 0] 24); have B5 := Lib.hid (B4.out.trans (bA.mono B4.out.size)); have CW := Lib.hid (writes_any b _ _ (M4.out.at'.below bA)); obtain ⟨z0, z1, z2, z3, z4, z5, _⟩ := row6 (heap_last w4 (.cells #[.int .u64 0, .int .i64 0, .int .i64 0, .int .i64 0, .int .i64 0, .int .i64 0] 24) w4.heap.size rfl); clear hb4 bA))
      go_at_call 10
      (with_reducible refine CW.out.mono ?_)
      rintro e w5 ⟨rfl, rfl⟩
      go_wp2_with (fail)
      go_ret
      exact ⟨rfl, B5.out⟩
end Rt
end Go.Proofs.YtojbanknbgihgaaDoor
