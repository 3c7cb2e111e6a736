/-
  The fixed fact of layer 6, and the walk of the statement RootRefuses.
-/
import Derived.Test.YtojbanknbgihgaaDoorRootPbE
import Derived.Test.YtojbanknbgihgaaDoorRootFresh
namespace Go.Proofs.YtojbanknbgihgaaDoor
open Go.RowKit
namespace Rt
open B Dsk

def D3 (x : R) : D := ⟨[txt x, zero], [txt x, zero], [], 3, -1, false⟩
theorem D3_inv (x : R) : Inv (D3 x) := by
  have hz : zero.size = 256 := fill_size (by decide)
  have hx := txt_size x
  refine ⟨rfl, by show 0 < 2; omega, by show 2 ≤ 65536; omega, ?_, ?_, (by intro y hy; cases hy), List.Pairwise.nil, fun _ _ _ => rfl, by show (0 : Int) ≤ 3; omega, by show (3 : Int) ≤ 1000000; omega⟩ <;>
  · intro s hs
    rcases List.mem_cons.1 hs with rfl | hs
    · exact hx
    · rcases List.mem_cons.1 hs with rfl | hs
      · exact hz
      · cases hs
theorem open_new (b : Bl) (w : World) (h : DAt w b (new 2)) (hL : Lst w) :
    Calls Tryd.prog 7 #[.pointer (some ⟨b.g, 0, none⟩)] w fun e w' => ∃ gs, e = .returned (.tuple #[.pointer (some ⟨gs, 0, none⟩), .agg #[.int .u64 0, .int .i64 0, .int .i64 0, .int .i64 0, .int .i64 0, .int .i64 0], .bool false, .int .i64 0]) ∧ SAt w' gs b ∧ w.heap.size ≤ gs ∧ Below w.heap.size w w' := by
  have ho := open_up b (new 2) w h (new_inv 2 (by omega) (by omega)) hL rfl (by decide)
  have e : newR ((new 2).now.getD 0 ⟨#[]⟩) ((new 2).now.getD 1 ⟨#[]⟩) = (R0, -1) := newR_zero
  rw [e] at ho
  exact ho
theorem open_one (b : Bl) (x : R) (w : World) (h : DAt w b (D3 x)) (hL : Lst w) (hm : may x) (he : x.ep = 1) :
    Calls Tryd.prog 7 #[.pointer (some ⟨b.g, 0, none⟩)] w fun e w' => ∃ gs, e = .returned (.tuple #[.pointer (some ⟨gs, 0, none⟩), rv x, .bool true, .int .i64 0]) ∧ SAt w' gs b ∧ w.heap.size ≤ gs ∧ Below w.heap.size w w' := by
  have ho := open_up b (D3 x) w h (D3_inv x) hL rfl (by show 2 ≤ 2; omega)
  have e : newR ((D3 x).now.getD 0 ⟨#[]⟩) ((D3 x).now.getD 1 ⟨#[]⟩) = (x, 0) := newR_one hm he
  rw [e] at ho
  exact ho
theorem pub_one (b : Bl) (g : Nat) (r : R) (w : World) (h : DAt w b (new 2)) (hS : SAt w g b) (hL : Lst w) (n0 : 0 ∉ b.l) (hn : g ∉ b.l) (hm : may r) :
    Calls Tryd.prog 9 #[.pointer (some ⟨g, 0, none⟩), rv r] w fun e w' => e = .returned (.tuple #[rv { r with ep := 1 }, .int .i64 0]) ∧ DAt w' b (D3 { r with ep := 1 }) ∧ Tch b.l w w' := by
  have el : lastE ((new 2).now.getD 0 ⟨#[]⟩) ((new 2).now.getD 1 ⟨#[]⟩) = 0 := lastE_zero
  have es : spare ((new 2).now.getD 0 ⟨#[]⟩) ((new 2).now.getD 1 ⟨#[]⟩) = 0 := spare_zero
  have hp := publish_up b (new 2) g r w h (new_inv 2 (by omega) (by omega)) hS hL n0 hn rfl (by decide) (by show (0 : Int) < 900000; omega) hm (by rw [el]; omega)
  rw [el, es] at hp
  refine hp.mono fun e w' ⟨x, hx, he, hd, ht⟩ => ?_
  have epb : pub (new 2) ((0 : Nat) : Int) (txt x) = (D3 x, 0) := pub_new2 x
  rw [epb] at he hd
  subst hx
  exact ⟨he, hd, ht⟩
theorem pub_two (b : Bl) (g : Nat) (x r : R) (w : World) (h : DAt w b (halt (D3 x) 0)) (hS : SAt w g b) (hL : Lst w) (n0 : 0 ∉ b.l) (hn : g ∉ b.l) (hm : may r) (he : x.ep = 1) :
    Calls Tryd.prog 9 #[.pointer (some ⟨g, 0, none⟩), rv r] w fun e w' => e = .returned (.tuple #[.agg #[.int .u64 0, .int .i64 0, .int .i64 0, .int .i64 0, .int .i64 0, .int .i64 0], .int .i64 6]) ∧ DAt w' b ⟨[txt x, zero], [txt x, zero], [], 3, 0, true⟩ ∧ Tch b.l w w' := by
  have el : lastE ((halt (D3 x) 0).now.getD 0 ⟨#[]⟩) ((halt (D3 x) 0).now.getD 1 ⟨#[]⟩) = 1 := lastE_one he
  have hp := publish_up b (halt (D3 x) 0) g r w h (halt_inv (D3_inv x) 0) hS hL n0 hn rfl (by show 2 ≤ 2; omega) (by show (3 : Int) < 900000; omega) hm (by rw [el]; omega)
  refine hp.mono fun e w' ⟨y, hx, he, hd, ht⟩ => ?_
  have epb : ∀ dst : Int, pub (halt (D3 x) 0) dst (txt y) = (⟨[txt x, zero], [txt x, zero], [], 3, 0, true⟩, 6) := fun dst => pub_halted (txt x) zero dst (txt y)
  rw [epb] at he hd
  exact ⟨he, hd, ht⟩

theorem pub_aw (b : Bl) (g : Nat) (w : World) (h : DAt w b (new 2)) (hS : SAt w g b) (hL : Lst w) (n0 : 0 ∉ b.l) (hn : g ∉ b.l) :
    Calls Tryd.prog 9 #[.pointer (some ⟨g, 0, none⟩), .agg #[.int .u64 0, .int .i64 0, .int .i64 (-1), .int .i64 0, .int .i64 5, .int .i64 0]] w fun e w' => e = .returned (.tuple #[.agg #[.int .u64 1, .int .i64 0, .int .i64 (-1), .int .i64 0, .int .i64 5, .int .i64 0], .int .i64 0]) ∧ DAt w' b (D3 ⟨1, 0, -1, 0, 5, 0⟩) ∧ Tch b.l w w' :=
  pub_one b g ⟨0, 0, -1, 0, 5, 0⟩ w h hS hL n0 hn (by decide)
theorem open_aw (b : Bl) (w : World) (h : DAt w b (D3 ⟨1, 0, -1, 0, 5, 0⟩)) (hL : Lst w) :
    Calls Tryd.prog 7 #[.pointer (some ⟨b.g, 0, none⟩)] w fun e w' => ∃ gs, e = .returned (.tuple #[.pointer (some ⟨gs, 0, none⟩), .agg #[.int .u64 1, .int .i64 0, .int .i64 (-1), .int .i64 0, .int .i64 5, .int .i64 0], .bool true, .int .i64 0]) ∧ SAt w' gs b ∧ w.heap.size ≤ gs ∧ Below w.heap.size w w' :=
  open_one b ⟨1, 0, -1, 0, 5, 0⟩ w h hL (by decide) rfl

set_option maxRecDepth 100000 in
set_option maxHeartbeats 4000000 in
theorem awake_any (w : World) (hL : Lst w) : Calls Tryd.prog 5 #[] w fun e w' => e = .returned (.bool true) ∧ Below w.heap.size w w' := by
  have HL := Lib.hid hL
  have hs0 := hL.1
  have CN := Lib.hid (fun W => new_my 2 2 W rfl (by omega) (by omega))
  clear hL
  go_enter Tryd.func5, Tryd.ntmps5
  go_wp2_with (first
    | (go_at_call 6; ((with_reducible refine (CN.out _).mono ?_); rintro e w1 ⟨b, rfl, hm1, hb1⟩; have hs1 := hb1.size; have M1 := Lib.hid hm1; have B1 := Lib.hid hb1; have L1 := Lib.hid (HL.out.below hb1 hs0); have n0 : 0 ∉ b.l := (by have h1 := hm1.g; have h2 := hm1.bs; have h3 := hm1.bm; simp only [List.mem_cons, List.not_mem_nil, or_false]; omega); have CO := Lib.hid (open_new b w1 hm1.at' L1.out); clear hm1 hb1)))
  go_wp2_with (first
    | (go_at_call 7; ((with_reducible refine CO.out.mono ?_); rintro e w2 ⟨gs, rfl, hs2, hg2, hb2⟩; have bA := (Below.refl w2.heap.size w2).alloc (Nat.le_refl _) (.cells #[.int .u64 0, .int .i64 0, .int .i64 0, .int .i64 0, .int .i64 0, .int .i64 0] 24); have B2 := Lib.hid ((B1.out.trans (hb2.mono hs1)).trans (bA.mono (Nat.le_trans hs1 hb2.size))); have D2 := Lib.hid ((M1.out.at'.below hb2).below bA); have S2 := Lib.hid (SAt.below hs2 bA); have nS : gs ∉ b.l := (by obtain ⟨l1, l2, l3⟩ := M1.out.at'.lts; simp only [List.mem_cons, List.not_mem_nil, or_false]; omega); have CP := Lib.hid (pub_aw b gs _ D2.out S2.out (HL.out.below B2.out hs0) n0 nS); have M2 := Lib.hid ((M1.out.below hb2).below bA); clear hs2 hb2 bA)))
  go_wp2_with (go_at_call 9; ((with_reducible refine CP.out.mono ?_); rintro e w3 ⟨rfl, hd3, ht3⟩; have hl3 := M2.out.low ht3 B2.out.size; have bA := (Below.refl w3.heap.size w3).alloc (Nat.le_refl _) (.cells #[.int .u64 1, .int .i64 0, .int .i64 (-1), .int .i64 0, .int .i64 5, .int .i64 0] 24); have B3 := Lib.hid ((B2.out.trans hl3).trans (bA.mono (Nat.le_trans B2.out.size hl3.size))); have D3' := Lib.hid (hd3.below bA); have K6 := Lib.hid (heap_last w3 (.cells #[.int .u64 1, .int .i64 0, .int .i64 (-1), .int .i64 0, .int .i64 5, .int .i64 0] 24) w3.heap.size rfl); have CO2 := Lib.hid (open_aw b _ D3'.out (HL.out.below B3.out hs0)); clear hd3 ht3 hl3 bA))
  go_wp2_with (go_at_call 7; ((with_reducible refine CO2.out.mono ?_); rintro e w4 ⟨gs2, rfl, hs4, hg4, hb4⟩; have B4 := Lib.hid (B3.out.trans (hb4.mono B3.out.size)); obtain ⟨k0, k1, k2, k3, k4, k5, _⟩ := row6 (hp_old (.cells #[.int .u64 1, .int .i64 0, .int .i64 (-1), .int .i64 0, .int .i64 5, .int .i64 0] 24) (blk_below K6.out hb4 (blk_lt K6.out))); clear hs4 hg4 hb4))
  go_ret
  exact ⟨rfl, B4.out.alloc B4.out.size _⟩
end Rt
end Go.Proofs.YtojbanknbgihgaaDoor
