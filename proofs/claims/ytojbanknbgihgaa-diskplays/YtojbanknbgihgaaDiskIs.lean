/-
  'is': the program's disk and the document's own are the same.
-/
import Derived.Test.YtojbanknbgihgaaTwinMath
import Derived.Test.YtojbanknbgihgaaDiskWrite
import Derived.Deep.CutBlock
namespace Go.Proofs.Ytojbanknbgihgaa
open Go.RowKit
namespace Dsk
open B

theorem DAt.drewN {w : World} {b : Bl} {d : D} (h : DAt w b d) (n : Nat) : DAt (w.drewN n) b d := h.kept rfl rfl rfl
theorem at_drewN {α : Type} {V : α → Value} {w : World} {A : Option Addr} {l : List α} (h : At V w A l) (n : Nat) : At V (w.drewN n) A l := h.below ⟨rfl, rfl, rfl, Nat.le_refl _, fun _ _ => rfl⟩
theorem empty_eq : (ByteArray.mk #[]).toList.isEmpty = true := by decide +kernel

set_option maxRecDepth 100000 in
set_option maxHeartbeats 4000000 in
theorem is_any {p : Nat → Prop} (b : Bl) (d : D) (vx : Value) (i : Int) (w : World) (h : DAt w b d) (hi : Inv d) (hx : Is p w vx d) :
    Calls Try.prog 18 #[.pointer (some ⟨b.g, 0, none⟩), vx, .int .i64 i] w fun e w' => e = .returned (.bool true) ∧ Below w.heap.size w w' := by
  obtain ⟨A1, c1, A2, c2, A3, c3, rfl, h1, h2, h3, n1, n2, n3, _⟩ := hx
  have hbA := fun o : Obj => (Below.refl w.heap.size w).alloc (Nat.le_refl _) o
  have CL := Lib.hid (fun o => loose_any b d (w.alloc o) (h.below (hbA o)) hi)
  have hlen := loose_len hi.rise hi.inr
  have hbig := hi.big
  have HI := Lib.hid hi
  have HD := Lib.hid h
  have H1 := Lib.hid h1
  have H3 := Lib.hid h3
  have HBA := Lib.hid hbA
  clear h hi h1 h2 h3 hbA
  go_enter Try.func18, Try.ntmps18
  go_wp2_with (go_at_call 23; ((with_reducible refine (CL.out _).mono ?_); rintro e w1 ⟨v, rfl, hrow, hb1⟩; obtain ⟨A8, c8, hv8, hA8, _⟩ := own_at (V := vInt) (l := d.loose) hrow; subst hv8; have H8 := Lib.hid hA8; have BQ := Lib.hid ((HBA.out _).trans (hb1.mono (by simp))); have K0 := Lib.hid (blk_below (heap_last w _ w.heap.size rfl) hb1 (by simp)); clear hrow hb1 hA8))
  have D1 := Lib.hid (HD.out.below BQ.out)
  have X1 := Lib.hid (H1.out.below BQ.out)
  have X3 := Lib.hid (H3.out.below BQ.out)
  obtain ⟨k00, k01, k02, k03, k04, k05, f00, f01, f02, f03, f04, f05⟩ := row6 K0.out
  have CS := Lib.hid (fun n => size_any b d (w1.drewN n) (D1.out.drewN n))
  have CW := Lib.hid (fun n => writes_any b d (w1.drewN n) (D1.out.drewN n))
  clear HD H1 H3 HBA CL
  go_wp2_with fail
  go_quiet (first
    | (go_at_call 25; exact Calls.quiet_of_same ((CS.out _).mono fun e w' h => ⟨h.1, h.2.symm⟩))
    | (go_at_call 24; exact Calls.quiet_of_same ((CW.out _).mono fun e w' h => ⟨h.1, h.2.symm⟩)))
  go_wp2_with fail
  have D2 := Lib.hid (D1.out.drewN nq)
  have Y1 := Lib.hid (at_drewN X1.out nq)
  have Y3 := Lib.hid (at_drewN X3.out nq)
  have Y8 := Lib.hid (at_drewN H8.out nq)
  have K2 : Hid ((w1.drewN nq).heap[w.heap.size]? = _) := K0.out
  have B2 := Lib.hid (below_drewN BQ.out nq)
  clear k00 k01 k02 k03 k04 k05 f00 f01 f02 f03 f04 f05 D1 X1 X3 H8 K0 BQ CS CW
  generalize w1.drewN nq = w2 at *
  obtain ⟨k00, k01, k02, k03, k04, k05, f00, f01, f02, f03, f04, f05⟩ := row6 K2.out
  go_loopw [38] (fun t wr => ∃ k : Nat, k ≤ d.loose.length ∧ t = .int .i64 (k : Int) ∧ wr = w2) (fun t _ => d.loose.length - (intOf t).toNat)
  case atStart => exact ⟨0, Nat.zero_le _, rfl, rfl⟩
  case round =>
    obtain ⟨k, hk, rfl, rfl⟩ := hrel
    by_cases hlt : k < d.loose.length
    · have hkI : (k : Int) < (d.loose.length : Int) := by omega
      obtain ⟨b3, o3, hA3, _, hc3⟩ := Y3.out (by omega)
      obtain ⟨b8, o8, hA8, _, hc8⟩ := Y8.out (by omega)
      have e3 : wr.cell? ⟨b3, o3 + k, none⟩ = some (.int .i64 d.loose[k]) := hc3 k hlt
      have e8 : wr.cell? ⟨b8, o8 + k, none⟩ = some (.int .i64 d.loose[k]) := hc8 k hlt
      subst hA3 hA8
      clear hc3 hc8
      generalize d.loose[k] = x at *
      go_wp2
      go_roundw
      case rel => exact ⟨k + 1, by omega, by go_num, by first | rfl | trivial⟩
      case measure => simp [intOf]; omega
    · have hkI : ¬ (k : Int) < (d.loose.length : Int) := by omega
      have CR := Lib.hid (read_any b d i wr D2.out)
      have he := empty_eq
      cases hd : d.down with
      | true =>
        have e1 : reach d i = 6 := by unfold reach; rw [if_pos hd]
        have e2 : readS d i = ⟨#[]⟩ := by unfold readS; rw [e1]; rfl
        rw [e1, e2] at CR
        rw [hd] at k05
        clear e1 e2
        go_wp2_with (go_at_call 22; ((with_reducible refine CR.out.mono ?_); rintro e w' ⟨rfl, rfl⟩))
        go_ret
        exact ⟨rfl, B2.out⟩
      | false =>
        rw [hd] at k05
        by_cases hi0 : i < 0
        · have e1 : reach d i = 7 := by unfold reach; rw [hd, if_neg (by decide), if_pos (.inl hi0)]
          have e2 : readS d i = ⟨#[]⟩ := by unfold readS; rw [e1]; rfl
          rw [e1, e2] at CR
          clear e1 e2
          go_wp2_with (go_at_call 22; ((with_reducible refine CR.out.mono ?_); rintro e w' ⟨rfl, rfl⟩))
          go_ret
          exact ⟨rfl, B2.out⟩
        · by_cases hi1 : (d.now.length : Int) ≤ i
          · have e1 : reach d i = 7 := by unfold reach; rw [hd, if_neg (by decide), if_pos (.inr hi1)]
            have e2 : readS d i = ⟨#[]⟩ := by unfold readS; rw [e1]; rfl
            rw [e1, e2] at CR
            clear e1 e2
            go_wp2_with (go_at_call 22; ((with_reducible refine CR.out.mono ?_); rintro e w' ⟨rfl, rfl⟩))
            go_ret
            exact ⟨rfl, B2.out⟩
          · obtain ⟨j, rfl⟩ : ∃ j : Nat, i = (j : Int) := ⟨i.toNat, by omega⟩
            have hj : j < d.now.length := by omega
            have e1 : reach d (j : Int) = 0 := by unfold reach; rw [hd, if_neg (by decide), if_neg (by omega)]
            have e2 : readS d (j : Int) = d.now[j] := by unfold readS; rw [e1]; simp [hj]
            obtain ⟨b1, o1, hA1, _, hc1⟩ := Y1.out (by omega)
            have z1 : wr.cell? ⟨b1, o1 + j, none⟩ = some (.string d.now[j]) := hc1 j hj
            subst hA1
            rw [e1, e2] at CR
            have hjI : (j : Int) < (d.now.length : Int) := by omega
            generalize d.now[j] = x at *
            clear e1 e2 hc1
            go_wp2_with (go_at_call 22; ((with_reducible refine CR.out.mono ?_); rintro e w' ⟨rfl, rfl⟩))
            go_ret
            exact ⟨rfl, B2.out⟩
end Dsk
end Go.Proofs.Ytojbanknbgihgaa
