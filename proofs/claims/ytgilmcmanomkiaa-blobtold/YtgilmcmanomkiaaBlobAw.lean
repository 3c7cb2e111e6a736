/-
  Blobs (layer 8): the statements' Half and fixed fact.
-/
import Derived.Test.YtgilmcmanomkiaaBlobBk
namespace Go.Proofs.Ytgilmcmanomkiaa
open Go.RowKit
namespace Bb
open B Dsk Pg
set_option maxRecDepth 100000 in
set_option maxHeartbeats 4000000 in
theorem half_any (r : Nat) (i : Int) (w : World) (hi : i = (r : Int)) (hr : r ≤ 1000) :
    Calls Try.prog 34 #[.int .i64 i] w fun e w' => ∃ (b : Bl) (g : Nat), e = .returned (.tuple #[.pointer (some ⟨b.g, 0, none⟩), .pointer (some ⟨g, 0, none⟩)]) ∧ PMy w.heap.size w' b (new (2 + 2 * r)) g 0 0 ∧ Below w.heap.size w w' := by
  subst hi
  have CN := Lib.hid (fun W => new_my (2 + 2 * r) (2 + 2 * (r : Int)) W (by omega) (by omega) (by omega))
  have CO := Lib.hid (fun B b W (hp : My B W b (new (2 + 2 * r))) hB => open_my b (new (2 + 2 * r)) 0 0 W hp (new_sz (by omega) (by omega)) ⟨.inl rfl, by omega, by omega⟩ hB)
  generalize new (2 + 2 * r) = d0 at *
  go_enter Try.func34, Try.ntmps34
  go_wp2_with (first
    | (go_at_call 12; ((with_reducible refine (CN.out _).mono ?_); rintro e w1 ⟨b, rfl, hm1, hb1⟩; have M1 := Lib.hid hm1; have B1 := Lib.hid hb1; clear hm1 hb1; have CO1 := Lib.hid (CO.out _ _ _ M1.out B1.out.size)))
    | (go_at_call 14; ((with_reducible refine CO1.out.mono ?_); rintro e w2 ⟨g, rfl, hp2, hb2⟩; have P2 := Lib.hid hp2; have B2 := Lib.hid (B1.out.trans (hb2.mono B1.out.size)); clear hp2 hb2)))
  go_ret2
  exact ⟨b, g, rfl, P2.out, B2.out⟩
theorem room_half (r : Nat) : room (new (2 + 2 * r)) = r := by rw [room_new]; omega
theorem wb_new {r : Nat} (hr : r ≤ 1000) : Wb r 0 0 [] (new (2 + 2 * r)) := ⟨new_up _, new_sz (by omega) (by omega), room_half r, Int.le_refl _, Con.nil _ _⟩
def hello : ByteArray := ⟨#[104, 101, 108, 108, 111]⟩
set_option maxRecDepth 100000 in
set_option maxHeartbeats 4000000 in
theorem awake_any (w : World) : Calls Try.prog 33 #[] w fun e w' => e = .returned (.bool true) ∧ Below w.heap.size w w' := by
  have CH := Lib.hid (half_any 3 3 w rfl (by omega))
  have hcs : cost hello.size = 1 := rfl
  have CW := Lib.hid (fun B b g W (hp : PMy B W b (new (2 + 2 * 3)) g 0 0) hB => bwrite_ok (r := 3) (wr0 := 0) b (new (2 + 2 * 3)) g 0 [] hello W hp (wb_new (by omega)) (by decide) (by rw [hcs]; decide) (by omega) hB)
  have HB := read_back (L := [] ++ bpages 0 hello 1 1) (a := 0) (s := hello) (by decide) (fun j h => by have h1 : j < 1 := h; have e : j = 0 := (by omega); subst e; rfl) (by rw [hcs]; omega)
  rw [hcs] at CW HB
  have hnl : ([] : List Pag).length = 0 := rfl
  simp only [hnl] at CW
  have HL : Hid (([] ++ bpages 0 hello 1 1 : List Pag).length = 1) := rfl
  have CR := Lib.hid (fun B b (d' : D) g W (hp : PMy B W b d' g 0 ((1 : Nat) : Int)) (hw : Wb 3 0 0 ([] ++ bpages 0 hello 1 1) d') => bread_any b d' g 0 ([] ++ bpages 0 hello 1 1) ((0 + 1 - 1 : Nat) : Int) W hp hw.up hw.con)
  rw [HB] at CR
  have C1 : Hid (∀ W, Calls Try.prog 37 #[.int .i64 236] W fun e w' => e = .returned (.int .i64 2) ∧ W = w') := fun W => cost_any 236 W (by omega)
  have C2 : Hid (∀ W, Calls Try.prog 37 #[.int .i64 (-4)] W fun e w' => e = .returned (.int .i64 1) ∧ W = w') := fun W => cost_any (-4) W (by omega)
  clear HB hcs hnl HL
  generalize new (2 + 2 * 3) = d0 at *
  generalize ([] ++ bpages 0 hello 1 1 : List Pag) = LL at *
  unfold hello at *
  have CR' : Hid (∀ B b (d' : D) g W, PMy B W b d' g 0 1 → Wb 3 0 0 LL d' → Calls Try.prog 38 #[.pointer (some ⟨g, 0, none⟩), .int .i64 0] W fun e w' => e = .returned (.tuple #[.string ⟨#[104, 101, 108, 108, 111]⟩, .int .i64 0]) ∧ Below W.heap.size W w') := CR.out
  have CW' : Hid (∀ B b g W, PMy B W b d0 g 0 0 → B ≤ W.heap.size → Calls Try.prog 36 #[.pointer (some ⟨g, 0, none⟩), .string ⟨#[104, 101, 108, 108, 111]⟩] W fun e w' => e = .returned (.tuple #[.int .i64 0, .int .i64 0]) ∧ ∃ d', PMy B w' b d' g 0 1 ∧ Wb 3 0 0 LL d' ∧ Below B W w') := CW.out
  clear CR CW
  go_enter Try.func33, Try.ntmps33
  go_wp2_with (first
    | (go_at_call 34; ((with_reducible refine CH.out.mono ?_); rintro e w1 ⟨b, g, rfl, hp1, hb1⟩; have P1 := Lib.hid hp1; have B1 := Lib.hid hb1; clear hp1 hb1; have CW1 := Lib.hid (CW'.out _ _ _ _ P1.out B1.out.size)))
    | (go_at_call 36; ((with_reducible refine CW1.out.mono ?_); rintro e w2 ⟨rfl, d2, hp2, hw2, hb2⟩; have P2 := Lib.hid hp2; have B2 := Lib.hid (B1.out.trans hb2); have CR1 := Lib.hid (CR'.out _ _ _ _ _ hp2 hw2); clear hp2 hw2 hb2))
    | (go_at_call 38; ((with_reducible refine CR1.out.mono ?_); rintro e w3 ⟨rfl, hb3⟩; have B3 := Lib.hid (B2.out.trans (hb3.mono B2.out.size)); clear hb3))
    | (go_at_call 37; ((with_reducible refine (C1.out _).mono ?_); rintro e w' ⟨rfl, rfl⟩))
    | (go_at_call 37; ((with_reducible refine (C2.out _).mono ?_); rintro e w' ⟨rfl, rfl⟩)))
  go_ret
  exact ⟨rfl, B3.out⟩
end Bb
end Go.Proofs.Ytgilmcmanomkiaa
