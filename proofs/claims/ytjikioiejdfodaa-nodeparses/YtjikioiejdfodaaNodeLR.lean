/-
  The walk of the statement NodeParses.
-/
import Derived.Test.YtjikioiejdfodaaNodeAw
import Derived.Test.YtjikioiejdfodaaNodeRPa
import Derived.Test.YtjikioiejdfodaaNodeNC
namespace Go.Proofs.Ytjikioiejdfodaa
open Go.RowKit
namespace Nod
open B V
set_option linter.unusedVariables false
theorem refParse_any (k : Int) (s : ByteArray) (w : World) (hs : s.size ≤ 2000) :
    Calls Try.prog 41 #[.int .i64 k, .string s] w fun e w' => ∃ v, e = .returned (.tuple #[v, .int .i64 ((nparse k s).2 : Int)]) ∧ NOwn w.heap.size w' v (nparse k s).1 ∧ Below w.heap.size w w' := by
  by_cases h1 : k = 1
  · subst h1; exact refParse1 s w hs
  · by_cases h2 : k = 2
    · subst h2; exact refParse2 s w hs
    · exact refParse_kind k s w h1 h2
set_option maxRecDepth 100000 in
set_option maxHeartbeats 8000000 in
theorem nodeParses_walk (kind : Int) (s0 : ByteArray) (w : World) :
    Calls Try.prog 6 #[.int .i64 kind, .string s0] w fun e w' => e = .returned (.bool true) ∧ Below w.heap.size w w' := by
  have CA := Lib.hid (awake_any w)
  have C18 := Lib.hid (show ∀ s W, Calls Try.prog 14 #[.string s, .int .i64 260] W (fun e w' => e = .returned (.string (cutB s 260)) ∧ W = w') from fun s W => cut_any s 260 W (by omega))
  have hsz := cutB_size s0 260
  have CX := Lib.hid (C18.out s0)
  generalize cutB s0 260 = s at *
  have CP := Lib.hid (fun W => parse_any kind s W (by omega))
  have CR := Lib.hid (fun W => refParse_any kind s W (by omega))
  obtain ⟨hS, hL⟩ := nparse_sm (k := kind) (s := s) (by omega)
  have HOK := Lib.hid (fun h => nparse_ok (k := kind) (s := s) h)
  obtain ⟨m, f, hm⟩ : ∃ m f, nparse kind s = (m, f) := ⟨_, _, rfl⟩
  rw [hm] at CP CR hS hL HOK
  simp only at CP CR hS hL HOK
  clear hm C18
  have CS := Lib.hid (fun A1 A2 A3 c1 c2 c3 E1 E2 E3 e1 e2 e3 W (h : NAt W A1 A2 A3 m) (h' : NAt W E1 E2 E3 m) => same_true A1 A2 A3 c1 c2 c3 E1 E2 E3 e1 e2 e3 m W h h' hS)
  unfold nv at *
  go_enter Try.func6, Try.ntmps6
  go_upto_region 5 with (first
    | (go_at_call 27; ((with_reducible refine CA.out.mono ?_); rintro e w1 ⟨rfl, hb1⟩; have B1 := Lib.hid hb1; clear hb1))
    | (go_at_call 14; ((with_reducible refine (CX.out _).mono ?_); rintro e w' ⟨rfl, rfl⟩))
    | (go_at_call 34; ((with_reducible refine (CP.out _).mono ?_); rintro e w2 ⟨vp, rfl, ho, hb2⟩; have B2 := Lib.hid (B1.out.trans (hb2.mono B1.out.size)); obtain ⟨P1, P2, P3, p1, p2, p3, hvp, hatp, _⟩ := nown_out ho; unfold nv at hvp; subst hvp; have AP := Lib.hid hatp; clear ho hb2 hatp)))
  have bX := below1 w2 (.cells #[.int .i64 m.kind, .slice P1 m.keys.length p1, .slice P2 m.vals.length p2, .slice P3 m.kids.length p3] 57)
  have X3 : Hid (NC 57 (w2.alloc (.cells #[.int .i64 m.kind, .slice P1 m.keys.length p1, .slice P2 m.vals.length p2, .slice P3 m.kids.length p3] 57)) w2.heap.size P1 P2 P3 p1 p2 p3 m) := NC.new _ _ AP.out
  have B3 := Lib.hid (B2.out.trans (bX.mono B2.out.size))
  clear bX B2 AP
  generalize w2.alloc (.cells #[.int .i64 m.kind, .slice P1 m.keys.length p1, .slice P2 m.vals.length p2, .slice P3 m.kids.length p3] 57) = W3 at *
  generalize w2.heap.size = g5 at *
  go_upto_region 6 with (go_at_call 41; ((with_reducible refine (CR.out _).mono ?_); rintro e w4 ⟨vr, rfl, ho, hb4⟩; have B4 := Lib.hid (B3.out.trans (hb4.mono B3.out.size)); obtain ⟨R1, R2, R3, r1, r2, r3, hvr, hatr, _⟩ := nown_out ho; unfold nv at hvr; subst hvr; have AR := Lib.hid hatr; have X4 := Lib.hid (X3.out.below hb4); clear ho hb4 hatr))
  have bX := below1 w4 (.cells #[.int .i64 m.kind, .slice R1 m.keys.length r1, .slice R2 m.vals.length r2, .slice R3 m.kids.length r3] 55)
  have Y5 : Hid (NC 55 (w4.alloc (.cells #[.int .i64 m.kind, .slice R1 m.keys.length r1, .slice R2 m.vals.length r2, .slice R3 m.kids.length r3] 55)) w4.heap.size R1 R2 R3 r1 r2 r3 m) := NC.new _ _ AR.out
  have X5 := Lib.hid (X4.out.below bX)
  have B5 := Lib.hid (B4.out.trans (bX.mono B4.out.size))
  clear bX B4 AR X4 B3 X3
  generalize w4.alloc (.cells #[.int .i64 m.kind, .slice R1 m.keys.length r1, .slice R2 m.vals.length r2, .slice R3 m.kids.length r3] 55) = W5 at *
  generalize w4.heap.size = g7 at *
  have CS5 := Lib.hid (CS.out P1 P2 P3 p1 p2 p3 R1 R2 R3 r1 r2 r3 W5 X5.out.a Y5.out.a)
  obtain ⟨x0, x1, x2, x3⟩ := X5.out.p
  obtain ⟨y0, y1, y2, y3⟩ := Y5.out.p
  by_cases hf : f = 0
  · subst hf
    obtain ⟨hok, hkk, hpk⟩ := HOK.out rfl
    clear hkk
    have hl := hL rfl
    have CK := Lib.hid (fun W (h : NAt W P1 P2 P3 m) => pack_any P1 P2 P3 p1 p2 p3 m W h hS hok.fine (by omega))
    rw [hpk] at CK
    unfold nv at CK
    clear hpk hok
    go_wp2_with (first
      | (go_at_call 39; ((with_reducible refine CS5.out.mono ?_); rintro e w6 ⟨rfl, hb6⟩; have B6 := Lib.hid (B5.out.trans (hb6.mono B5.out.size)); have X6 := Lib.hid (X5.out.below hb6); clear hb6 x0 x1 x2 x3 y0 y1 y2 y3; obtain ⟨x0, x1, x2, x3⟩ := X6.out.p))
      | (go_at_call 33; ((with_reducible refine (CK.out _ X6.out.a).mono ?_); rintro e w7 ⟨rfl, hb7⟩; have B7 := Lib.hid (B6.out.trans (hb7.mono B6.out.size)); clear hb7)))
    go_ret
    exact ⟨rfl, B7.out⟩
  · have hfI : ((f : Int) != 0) = true := by rw [bne_iff_ne]; omega
    go_wp2_with (go_at_call 39; ((with_reducible refine CS5.out.mono ?_); rintro e w6 ⟨rfl, hb6⟩; have B6 := Lib.hid (B5.out.trans (hb6.mono B5.out.size)); clear hb6))
    go_ret
    exact ⟨rfl, B6.out⟩
end Nod
end Go.Proofs.Ytjikioiejdfodaa
