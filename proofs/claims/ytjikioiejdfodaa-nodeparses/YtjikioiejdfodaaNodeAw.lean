/-
  The statements' fixed fact of layer 9.
-/
import Derived.Test.YtjikioiejdfodaaNodeBack
import Derived.Test.YtjikioiejdfodaaNodeSplit
import Derived.Test.YtjikioiejdfodaaNodeCat
namespace Go.Proofs.Ytjikioiejdfodaa
open Go.RowKit
namespace Nod
open B V
def ax : N := ⟨1, [⟨#[97]⟩], [⟨#[120]⟩], []⟩
theorem ax_ok : Ok ax := ⟨.inl ⟨rfl, rfl, rfl⟩, List.pairwise_singleton _ _, (fun k h => by rw [List.mem_singleton.mp h]; decide), (fun k h => by rw [List.mem_singleton.mp h]; decide), (fun k h => by cases h)⟩
theorem ax_pack : packB ax = ⟨#[1, 1, 97, 1, 120]⟩ := by
  have h1 : Var.num 1 = [1] := Var.num_lt (by omega)
  have : pack ax = [1, 1, 97, 1, 120] := by
    show Var.num 1 ++ (((Var.num 1 ++ [97]) ++ (Var.num 1 ++ [120])) ++ []) = _
    rw [h1]; rfl
  unfold packB; rw [this]
theorem ats_one {w : World} {g : Nat} {x : ByteArray} (h : w.heap[g]? = some (.cells #[.string x] 9)) : At vStr w (some ⟨g, 0, none⟩) [x] := fun _ => by
  refine ⟨g, 0, rfl, blk_lt h, fun i hi => ?_⟩
  have e : i = 0 := by simp at hi; exact hi
  subst e
  unfold World.cell?
  simp [h, vStr]
set_option maxRecDepth 100000 in
set_option maxHeartbeats 4000000 in
theorem awake_any (w : World) : Calls Try.prog 27 #[] w fun e w' => e = .returned (.bool true) ∧ Below w.heap.size w w' := by
  have hp : nparse 1 ⟨#[1, 1, 97, 1, 120]⟩ = (ax, 0) := by rw [← ax_pack]; exact nparse_back ax_ok (by decide)
  have CP := Lib.hid (fun A1 A2 c1 c2 W (h : NAt W A1 A2 none ax) => pack_any A1 A2 none c1 c2 0 ax W h (ax_ok.sm (by decide)) ax_ok.fine (by decide))
  have CQ := Lib.hid (fun W => parse_any 1 ⟨#[1, 1, 97, 1, 120]⟩ W (by decide))
  rw [hp] at CQ
  rw [ax_pack] at CP
  have CL := Lib.hid (fun A1 A2 A3 c1 c2 c3 W => len_any A1 A2 A3 c1 c2 c3 ax W)
  clear hp
  have bA := below1 w (.cells #[.string ⟨#[97]⟩] 9)
  have bB := below1 (w.alloc (.cells #[.string ⟨#[97]⟩] 9)) (.cells #[.string ⟨#[120]⟩] 9)
  have bC := below1 ((w.alloc (.cells #[.string ⟨#[97]⟩] 9)).alloc (.cells #[.string ⟨#[120]⟩] 9)) (.cells #[.int .i64 1, .slice (some ⟨w.heap.size, 0, none⟩) 1 1, .slice (some ⟨w.heap.size + 1, 0, none⟩) 1 1, .slice none 0 0] 57)
  have B0 := Lib.hid ((bA.trans (bB.mono bA.size)).trans (bC.mono (bA.trans (bB.mono bA.size)).size))
  have H1 := hp_old (.cells #[.int .i64 1, .slice (some ⟨w.heap.size, 0, none⟩) 1 1, .slice (some ⟨w.heap.size + 1, 0, none⟩) 1 1, .slice none 0 0] 57) (hp_old (.cells #[.string ⟨#[120]⟩] 9) (heap_last w (.cells #[.string ⟨#[97]⟩] 9) _ rfl))
  have H2 := hp_old (.cells #[.int .i64 1, .slice (some ⟨w.heap.size, 0, none⟩) 1 1, .slice (some ⟨w.heap.size + 1, 0, none⟩) 1 1, .slice none 0 0] 57) (heap_last (w.alloc (.cells #[.string ⟨#[97]⟩] 9)) (.cells #[.string ⟨#[120]⟩] 9) (w.heap.size + 1) (by simp))
  have H3 := Lib.hid (heap_last ((w.alloc (.cells #[.string ⟨#[97]⟩] 9)).alloc (.cells #[.string ⟨#[120]⟩] 9)) (.cells #[.int .i64 1, .slice (some ⟨w.heap.size, 0, none⟩) 1 1, .slice (some ⟨w.heap.size + 1, 0, none⟩) 1 1, .slice none 0 0] 57) (w.heap.size + 1 + 1) (by simp))
  clear bA bB bC
  go_enter Try.func27, Try.ntmps27
  go_upto_region 2 with fail
  generalize ((w.alloc (.cells #[.string ⟨#[97]⟩] 9)).alloc (.cells #[.string ⟨#[120]⟩] 9)).alloc (.cells #[.int .i64 1, .slice (some ⟨w.heap.size, 0, none⟩) 1 1, .slice (some ⟨w.heap.size + 1, 0, none⟩) 1 1, .slice none 0 0] 57) = W at *
  have HN : Hid (NAt W (some ⟨w.heap.size, 0, none⟩) (some ⟨w.heap.size + 1, 0, none⟩) none ax) := ⟨ats_one H1, ats_one H2, (fun h => absurd h (by decide))⟩
  clear H1 H2
  obtain ⟨⟨x0, x1, x2, x3⟩, _⟩ := row4 H3.out
  have CPW : Hid (∀ W', Below W.heap.size W W' → Calls Try.prog 33 #[.agg #[.int .i64 1, .slice (some ⟨w.heap.size, 0, none⟩) 1 1, .slice (some ⟨w.heap.size + 1, 0, none⟩) 1 1, .slice none 0 0]] W' fun e w' => e = .returned (.string ⟨#[1, 1, 97, 1, 120]⟩) ∧ Below W'.heap.size W' w') := fun W' q => CP.out _ _ 1 1 W' (HN.out.below q)
  go_upto_region 3 with (first
    | (go_at_call 33; ((with_reducible refine (CPW.out _ (Below.refl _ _)).mono ?_); rintro e w1 ⟨rfl, hb1⟩; have B1 := Lib.hid hb1; clear hb1))
    | (go_at_call 34; ((with_reducible refine (CQ.out _).mono ?_); rintro e w2 ⟨v, rfl, ho2, hb2⟩; have B2 := Lib.hid (B1.out.trans (hb2.mono B1.out.size)); obtain ⟨A1, A2, A3, c1, c2, c3, rfl, _⟩ := nown_out ho2; clear ho2 hb2)))
  have bD := below1 w2 (.cells #[.int .i64 ax.kind, .slice A1 ax.keys.length c1, .slice A2 ax.vals.length c2, .slice A3 ax.kids.length c3] 57)
  have B3 := Lib.hid (B2.out.trans (bD.mono B2.out.size))
  have H4 := Lib.hid (blk_below H3.out B3.out (blk_lt H3.out))
  have H5 := Lib.hid (heap_last w2 (.cells #[.int .i64 ax.kind, .slice A1 ax.keys.length c1, .slice A2 ax.vals.length c2, .slice A3 ax.kids.length c3] 57) _ rfl)
  clear x0 x1 x2 x3 bD
  have CLW : Hid (∀ A1 A2 A3 c1 c2 c3 W', Calls Try.prog 38 #[.agg #[.int .i64 1, .slice A1 1 c1, .slice A2 1 c2, .slice A3 0 c3]] W' fun e w' => e = .returned (.int .i64 1) ∧ Below W'.heap.size W' w') := CL.out
  change Hid ((w2.alloc _).heap[w2.heap.size]? = some (Obj.cells #[.int .i64 1, .slice A1 1 c1, .slice A2 1 c2, .slice A3 0 c3] 57)) at H5
  generalize w2.alloc (.cells #[.int .i64 ax.kind, .slice A1 ax.keys.length c1, .slice A2 ax.vals.length c2, .slice A3 ax.kids.length c3] 57) = W3 at *
  generalize w2.heap.size = g5 at *
  obtain ⟨⟨x0, x1, x2, x3⟩, _⟩ := row4 H4.out
  obtain ⟨⟨y0, y1, y2, y3⟩, _⟩ := row4 H5.out
  go_wp2_with (first
    | (go_at_call 33; ((with_reducible refine (CPW.out _ B3.out).mono ?_); rintro e w4 ⟨rfl, hb⟩; have B4 := Lib.hid (B3.out.trans (hb.mono B3.out.size)); have H6 := Lib.hid (blk_thru hb H4.out); have H7 := Lib.hid (blk_thru hb H5.out); clear hb H4 H5 x0 x1 x2 x3 y0 y1 y2 y3; obtain ⟨⟨x0, x1, x2, x3⟩, _⟩ := row4 H6.out; obtain ⟨⟨y0, y1, y2, y3⟩, _⟩ := row4 H7.out))
    | (go_at_call 38; have hm := H6; ((with_reducible refine (CLW.out _ _ _ _ _ _ _).mono ?_); clear hm; rintro e w5 ⟨rfl, hb⟩; have B5 := Lib.hid (B4.out.trans (hb.mono B4.out.size)); have H8 := Lib.hid (blk_thru hb H6.out); have H9 := Lib.hid (blk_thru hb H7.out); clear hb H6 H7 x0 x1 x2 x3 y0 y1 y2 y3; obtain ⟨⟨x0, x1, x2, x3⟩, _⟩ := row4 H8.out; obtain ⟨⟨y0, y1, y2, y3⟩, _⟩ := row4 H9.out))
    | (go_at_call 38; have hm := H8; ((with_reducible refine (CLW.out _ _ _ _ _ _ _).mono ?_); clear hm; rintro e w6 ⟨rfl, hb⟩; have B6 := Lib.hid (B5.out.trans (hb.mono B5.out.size)); have Ha := Lib.hid (blk_thru hb H8.out); have Hb := Lib.hid (blk_thru hb H9.out); clear hb H8 H9 x0 x1 x2 x3 y0 y1 y2 y3; obtain ⟨⟨x0, x1, x2, x3⟩, _⟩ := row4 Ha.out; obtain ⟨⟨y0, y1, y2, y3⟩, _⟩ := row4 Hb.out)))
  go_ret
  exact ⟨rfl, B0.out.trans (B6.out.mono B0.out.size)⟩
end Nod
end Go.Proofs.Ytjikioiejdfodaa
