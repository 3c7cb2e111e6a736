/-
  The walk of the law DowserHeats.
-/
import Derived.Test.YtkbchpbdpkbnjaaHeatWide
import Derived.Test.YtkbchpbdpkbnjaaHeatLawD
import Derived.Test.YtkbchpbdpkbnjaaIdsOf
namespace Go.Proofs.Ytkbchpbdpkbnjaa
open Go.RowKit
namespace H
open I (below_drewN icells IntsAt own_ints base1 one_new)

/-- the numbers from nought on -/
def upto (n : Nat) : List Int := (List.range n).map fun (i : Nat) => (i : Int)
theorem upto_length (n : Nat) : (upto n).length = n := by simp [upto]
theorem upto_get (n i : Nat) (h : i < (upto n).length) : (upto n)[i] = (i : Int) := by simp [upto]
theorem set_ranked {f o : List Nat} (h : Heat.Ranked f o) : Ids.setOf (ints o) = upto f.length := by
  refine Ids.up_ext _ _ (Ids.up_setOf _) ?_ (fun z => ?_)
  · unfold Ids.Up upto
    refine List.pairwise_map.2 (List.Pairwise.imp ?_ List.pairwise_lt_range)
    intro a b h; omega
  · rw [Ids.mem_setOf]
    unfold ints upto
    rw [List.mem_map, List.mem_map]
    constructor
    · rintro ⟨i, hi, rfl⟩; exact ⟨i, List.mem_range.2 (h.lt i hi), rfl⟩
    · rintro ⟨i, hi, rfl⟩; exact ⟨i, h.covers i (List.mem_range.1 hi), rfl⟩

set_option maxRecDepth 100000 in
set_option maxHeartbeats 4000000 in
theorem dowserHeats_walk (l : List Nat) (A : Option Addr) (c : Nat) (w : World) (hl : l.length ≤ 9223372036854775807) (hbl : ∀ b ∈ l, b < 18446744073709551616) (hx : WordsAt w A l) :
    Calls Try.prog 12 #[.slice A l.length c] w fun e w' => e = .returned (.bool true) ∧ Below w.heap.size w w' := by
  obtain ⟨i0, hi, hz0, hz1, hz2⟩ := info_parts info24
  have hr := from_run
  have HX := Lib.hid hx
  have hfl : (l.take 30).length ≤ 30 := by rw [List.length_take]; omega
  have HB : Hid (∀ b ∈ l.take 30, b < 18446744073709551616) := fun b hb => hbl b (List.mem_of_mem_take hb)
  have CR : Hid (∀ W A c, FloatsAt W A (l.take 30) → Calls Try.prog 33 #[.slice A (l.take 30).length c] W fun e w' => ∃ o A' c', Heat.Ranked (l.take 30) o ∧ e = .returned (.slice A' (l.take 30).length c') ∧ IntsAt w' A' (ints o) ∧ Below W.heap.size W w') := fun W A c h =>
    (rank_wide (l.take 30) A c W (by omega) HB.out h).mono fun e w' ⟨o, v, ho, he, hown, hb⟩ => by
      obtain ⟨A', c', hv, hI, _⟩ := own_ints hown
      rw [ints_length, ho.len] at hv
      exact ⟨o, A', c', ho, by rw [he, hv], hI, hb⟩
  have OF : Hid (∀ o, Heat.Ranked (l.take 30) o → ∀ W A c, IntsAt W A (ints o) → Calls Try.prog 37 #[.slice A (l.take 30).length c] W fun e w' => ∃ A' c', e = .returned (.slice A' (l.take 30).length c') ∧ IntsAt w' A' (upto (l.take 30).length) ∧ Below W.heap.size W w') := fun o ho W A c h => by
    have hc := I.of_any (ints o) A c W (by rw [ints_length, ho.len]; omega) h
    rw [ints_length, ho.len] at hc
    refine hc.mono fun e w' ⟨v, he, hown, hb⟩ => ?_
    rw [set_ranked ho] at hown
    obtain ⟨A', c', hv, hI, _⟩ := own_ints hown
    rw [upto_length] at hv
    exact ⟨A', c', by rw [he, hv], hI, hb⟩
  have CK : Hid (∀ W, Calls Try.prog 22 #[.float .f64 18442240474082181120] W fun e w' => e = .returned (.int .u64 1) ∧ W = w') := fun W => by
    have := key_any 18442240474082181120 W (by omega)
    rw [show Heat.key 18442240474082181120 = 1 by decide +kernel] at this
    exact this
  obtain ⟨f, hf⟩ : ∃ f, l.take 30 = f := ⟨_, rfl⟩
  have HFE := Lib.hid hf
  rw [hf] at hfl HB CR OF
  clear hx hbl hf
  go_enter Try.func12, Try.ntmps12
  go_wp2
  go_loopw [3, 4] (fun v t wr => ∃ k : Nat, k ≤ l.length ∧ k ≤ 30 ∧ t = .int .i64 (k : Int) ∧ wr.ownsRow w.heap.size 24 1 v (l.take k).length (fcells (l.take k)) ∧ Below w.heap.size w wr) (fun _ t _ => 30 - (intOf t).toNat)
  case atStart => exact ⟨0, by omega, by omega, rfl, World.ownsRow_nil _ _ _ _, Below.refl _ _⟩
  case round =>
    obtain ⟨k, hk, hk2, rfl, hown, hb⟩ := hrel
    have hbs := hb.size
    by_cases hlt : k < l.length
    · by_cases hlt2 : k < 30
      · obtain ⟨b, off, hA, _, hc⟩ := (HX.out.below hb) (by omega)
        subst hA
        have c0 := hc k hlt
        have hkl : (l.take k).length = k := by rw [List.length_take]; omega
        rw [hkl] at hown
        have HS : Hid (fcells (l.take (k + 1)) = fcells (l.take k) ++ [.float .f64 l[k]]) := by rw [List.take_succ_eq_append_getElem hlt, fcells_snoc]; rfl
        have HKL : Hid ((l.take (k + 1)).length = k + 1) := by
          show (l.take (k + 1)).length = k + 1
          rw [List.length_take]; omega
        have hm3 : k + 1 ≤ maxLen := by unfold maxLen; omega
        have hm4 : (k + 1) * 8 ≤ 140737488355328 := by omega
        clear hc hkl CR OF CK HB
        generalize l[k] = x at *
        generalize fcells (l.take k) = F at *
        go_wp2_with (at_builtin; refine wpList_append_own _ rfl _ _ 37 rfl w.heap.size 24 i0 (.float .f64 0) 1 8 Try.underlying37 hi hz0 hz1 hz2 rfl (by decide) _ _ _ rfl (hown.alloc _) ⟨wr.heap.size, 0, none⟩ 1 1 [.float .f64 x] rfl rfl (one_new _ _ _ _ rfl) (one_float _) hm3 hm4 (base1 hbs _) ?_)
        intro v' w1 hown' hgrow _
        have hb1 : Below w.heap.size w w1 := (hb.alloc hbs _).grown hgrow (base1 hbs _) (fun r hr => (hown.lt r hr).1)
        have HO : Hid (w1.ownsRow w.heap.size 24 1 v' (l.take (k + 1)).length (fcells (l.take (k + 1)))) := by rw [HS.out, HKL.out]; exact hown'
        clear hown' hgrow hown
        go_wp2
        go_roundw
        case rel => exact ⟨k + 1, by omega, by omega, by go_num, HO.out, hb1⟩
        case measure => simp [intOf]; omega
      · have hke : l.take k = f := by rw [← HFE.out, show k = 30 by omega]
        rw [hke] at hown
        clear hke HFE hr hi hz0 hz1 hz2 HX
        obtain ⟨A2, c2, hv, hF, _, _⟩ := own_floatsC hown
        subst hv
        have HF := Lib.hid hF
        clear hown hF
        go_wp2_with (first
          | (go_at_call 33; ((with_reducible refine (CR.out _ _ _ HF.out).mono ?_); rintro e1 w3 ⟨o, A3, c3, ho, rfl, hI, bb⟩; have b3 := hb.trans (bb.mono hb.size); have HF3 := Lib.hid (HF.out.below bb); have HO := Lib.hid ho; have I3 := Lib.hid hI; clear hI bb ho))
          | (go_at_call 26; ((with_reducible refine (inf_down _).mono ?_); rintro e1 w' ⟨rfl, rfl⟩))
          | (go_at_call 22; ((with_reducible refine (CK.out _).mono ?_); rintro e1 w' ⟨rfl, rfl⟩)))
        have hol : Hid (o.length = f.length) := HO.out.len
        have LT : Hid (∀ k (h : k < o.length), o[k] < f.length) := fun k h => HO.out.lt _ (List.getElem_mem h)
        have IG : Hid (∀ k (h : k < o.length), (ints o)[k]'(by rw [ints_length]; exact h) = (o[k] : Int)) := fun k h => ints_at o k _ h
        have OFS := Lib.hid (OF.out o HO.out)
        go_loopw [6] (fun i wr => ∃ k n : Nat, k ≤ f.length ∧ i = .int .i64 ((k : Int) + 1) ∧ wr = w3.drewN n) (fun i _ => f.length + 1 - (intOf i).toNat)
        case atStart => exact ⟨0, 0, Nat.zero_le _, by first | rfl | go_num, rfl⟩
        case round =>
          obtain ⟨j, n, hk, rfl, rfl⟩ := hrel
          by_cases hlt : j + 1 < f.length
          · have hlo : j + 1 < o.length := by have := hol.out; omega
            obtain ⟨b3', o3, hA3, _, hc3⟩ := I3.out (by rw [ints_length]; omega)
            subst hA3
            obtain ⟨bf, of_, hAf, _, hcf⟩ := HF3.out (by omega)
            subst hAf
            obtain ⟨y, z, fy, fz, hy, hz, c3k, c3j, cy, cz, hby, hbz, hah⟩ : ∃ y z fy fz : Nat, y < f.length ∧ z < f.length ∧ w3.cell? ⟨b3', o3 + (j + 1), none⟩ = some (.int .i64 (y : Int)) ∧ w3.cell? ⟨b3', o3 + j, none⟩ = some (.int .i64 (z : Int)) ∧ w3.cell? ⟨bf, of_ + y, none⟩ = some (.float .f64 fy) ∧ w3.cell? ⟨bf, of_ + z, none⟩ = some (.float .f64 fz) ∧ fy < 18446744073709551616 ∧ fz < 18446744073709551616 ∧ (Heat.key fy < Heat.key fz ∨ (Heat.key fz = Heat.key fy ∧ z < y)) := by
              have hy := LT.out (j + 1) hlo
              have hz := LT.out j (by omega)
              have c3k := hc3 (j + 1) (by rw [ints_length]; exact hlo)
              have c3j := hc3 j (by rw [ints_length]; omega)
              rw [IG.out (j + 1) hlo] at c3k
              rw [IG.out j (by omega)] at c3j
              refine ⟨o[j + 1], o[j], f[o[j + 1]], f[o[j]], hy, hz, c3k, c3j, hcf _ hy, hcf _ hz, HB.out _ (List.getElem_mem hy), HB.out _ (List.getElem_mem hz), ?_⟩
              have h := List.pairwise_iff_getElem.1 HO.out.order j (j + 1) (by omega) hlo (by omega)
              unfold Heat.ahead at h
              rw [keyAt_get f hz, keyAt_get f hy] at h; exact h
            have KY := Lib.hid (fun W => key_any fy W hby)
            have KZ := Lib.hid (fun W => key_any fz W hbz)
            have BY := Lib.hid (fun W => refBits_any fy W hby)
            have BZ := Lib.hid (fun W => refBits_any fz W hbz)
            have hinj : Heat.key fz = Heat.key fy ↔ Heat.bitsN fz = Heat.bitsN fy := Heat.key_inj hbz hby
            clear hc3 hcf hby hbz
            generalize Heat.key fz = kz at *
            generalize Heat.key fy = ky at *
            generalize Heat.bitsN fz = vz at *
            generalize Heat.bitsN fy = vy at *
            have g5 : (j : Int) < (f.length : Int) := by omega
            have hwp : IntKind.i64.wrap (j : Int) = (j : Int) := by rw [IntKind.wrap_i64]; omega
            have g6 : (j : Int) + 1 < (f.length : Int) := by omega
            have g7 : (0 : Int) ≤ (j : Int) + 1 := by omega
            have g8 : ((j : Int) + 1).toNat = j + 1 := by omega
            have hyi : (y : Int) < (f.length : Int) := by omega
            have hzi : (z : Int) < (f.length : Int) := by omega
            have C3k : (w3.drewN n).cell? ⟨b3', o3 + (j + 1), none⟩ = some (.int .i64 (y : Int)) := c3k
            have C3j : (w3.drewN n).cell? ⟨b3', o3 + j, none⟩ = some (.int .i64 (z : Int)) := c3j
            have Cy : (w3.drewN n).cell? ⟨bf, of_ + y, none⟩ = some (.float .f64 fy) := cy
            have Cz : (w3.drewN n).cell? ⟨bf, of_ + z, none⟩ = some (.float .f64 fz) := cz
            clear c3k c3j cy cz
            obtain ⟨wq, hwq⟩ : ∃ wq, w3.drewN n = wq := ⟨_, rfl⟩
            have HW : Hid (∀ m, wq.drewN m = w3.drewN (n + m)) := fun m => by rw [← hwq, World.drewN_drewN]
            rw [hwq] at C3k C3j Cy Cz ⊢
            clear hwq OFS
            rcases hah with hlt2 | ⟨heq, hzy⟩
            · have q1 : decide ((kz : Int) < (ky : Int)) = false := decide_eq_false (by omega)
              have q2 : ((kz : Int) == (ky : Int)) = false := by rw [beq_eq_false_iff_ne]; omega
              have q3 : ((vz : Int) == (vy : Int)) = false := by
                rw [beq_eq_false_iff_ne]; intro h; have := hinj.2 (by omega); omega
              have q1n : decide (kz < ky) = false := decide_eq_false (by omega)
              have q2n : (kz == ky) = false := by rw [beq_eq_false_iff_ne]; omega
              have q3n : (vz == vy) = false := by
                rw [beq_eq_false_iff_ne]; intro h; have := hinj.2 h; omega
              clear hinj
              go_wp2_with fail
              go_quiet (first | (go_at_call_of 22 (Value.float FloatKind.f64 fz); exact Calls.quiet_of_same ((KZ.out _).mono fun e w' h => ⟨h.1, h.2.symm⟩)) | (go_at_call_of 22 (Value.float FloatKind.f64 fy); exact Calls.quiet_of_same ((KY.out _).mono fun e w' h => ⟨h.1, h.2.symm⟩)))
              go_wp2_with fail
              have D3k : (wq.drewN nq).cell? ⟨b3', o3 + (j + 1), none⟩ = some (.int .i64 (y : Int)) := C3k
              have D3j : (wq.drewN nq).cell? ⟨b3', o3 + j, none⟩ = some (.int .i64 (z : Int)) := C3j
              have Dy : (wq.drewN nq).cell? ⟨bf, of_ + y, none⟩ = some (.float .f64 fy) := Cy
              have Dz : (wq.drewN nq).cell? ⟨bf, of_ + z, none⟩ = some (.float .f64 fz) := Cz
              obtain ⟨wp, hwp2⟩ : ∃ wp, wq.drewN nq = wp := ⟨_, rfl⟩
              have HW2 : Hid (∀ m, wp.drewN m = w3.drewN (n + nq + m)) := fun m => by rw [← hwp2, World.drewN_drewN, HW.out, Nat.add_assoc]
              rw [hwp2] at D3k D3j Dy Dz ⊢
              clear hwp2
              go_quiet (first | (go_at_call_of 17 (Value.float FloatKind.f64 fz); exact Calls.quiet_of_same ((BZ.out _).mono fun e w' h => ⟨h.1, h.2.symm⟩)) | (go_at_call_of 17 (Value.float FloatKind.f64 fy); exact Calls.quiet_of_same ((BY.out _).mono fun e w' h => ⟨h.1, h.2.symm⟩)))
              go_wp2_with fail
              go_roundw
              case rel => exact ⟨j + 1, _, by omega, by go_num, HW2.out nq⟩
              case measure => simp [intOf]; omega
            · have hv := hinj.1 heq
              subst heq hv
              have q1 : decide ((kz : Int) < (kz : Int)) = false := decide_eq_false (by omega)
              have q2 : ((kz : Int) == (kz : Int)) = true := by simp
              have q3 : ((vz : Int) == (vz : Int)) = true := by simp
              have q4 : decide ((y : Int) ≤ (z : Int)) = false := decide_eq_false (by omega)
              clear hinj
              go_wp2_with fail
              go_quiet (first | (go_at_call_of 22 (Value.float FloatKind.f64 fz); exact Calls.quiet_of_same ((KZ.out _).mono fun e w' h => ⟨h.1, h.2.symm⟩)) | (go_at_call_of 22 (Value.float FloatKind.f64 fy); exact Calls.quiet_of_same ((KY.out _).mono fun e w' h => ⟨h.1, h.2.symm⟩)))
              go_wp2_with fail
              have D3k : (wq.drewN nq).cell? ⟨b3', o3 + (j + 1), none⟩ = some (.int .i64 (y : Int)) := C3k
              have D3j : (wq.drewN nq).cell? ⟨b3', o3 + j, none⟩ = some (.int .i64 (z : Int)) := C3j
              have Dy : (wq.drewN nq).cell? ⟨bf, of_ + y, none⟩ = some (.float .f64 fy) := Cy
              have Dz : (wq.drewN nq).cell? ⟨bf, of_ + z, none⟩ = some (.float .f64 fz) := Cz
              obtain ⟨wp, hwp2⟩ : ∃ wp, wq.drewN nq = wp := ⟨_, rfl⟩
              have HW2 : Hid (∀ m, wp.drewN m = w3.drewN (n + nq + m)) := fun m => by rw [← hwp2, World.drewN_drewN, HW.out, Nat.add_assoc]
              rw [hwp2] at D3k D3j Dy Dz ⊢
              clear hwp2
              go_quiet (first | (go_at_call_of 17 (Value.float FloatKind.f64 fz); exact Calls.quiet_of_same ((BZ.out _).mono fun e w' h => ⟨h.1, h.2.symm⟩)) | (go_at_call_of 17 (Value.float FloatKind.f64 fy); exact Calls.quiet_of_same ((BY.out _).mono fun e w' h => ⟨h.1, h.2.symm⟩)))
              go_wp2_with fail
              go_roundw
              case rel => exact ⟨j + 1, _, by omega, by go_num, HW2.out nq⟩
              case measure => simp [intOf]; omega
          · have J3 : Hid (IntsAt (w3.drewN n) A3 (ints o)) := I3.out
            have b3n := below_drewN b3 n
            clear HF3 I3 IG LT HO hol b3
            generalize w3.drewN n = wq at *
            cases hfn : f.length with
            | zero =>
              rw [hfn] at OFS
              have hj1 : ¬ (j : Int) + 1 < 0 := by omega
              go_wp2_with (go_at_call 37; ((with_reducible refine (OFS.out _ _ _ J3.out).mono ?_); rintro e1 w4 ⟨A4, c4, rfl, hI4, bb⟩; have b4 := b3n.trans (bb.mono b3n.size); clear hI4 bb))
              go_ret
              exact ⟨rfl, b4⟩
            | succ p =>
              rw [hfn] at OFS
              have hj1 : ¬ (j : Int) + 1 < (p : Int) + 1 := by omega
              have e0 : ((p : Int) + 1 == 0) = false := by rw [beq_eq_false_iff_ne]; omega
              have wp : IntKind.i64.wrap (p : Int) = (p : Int) := by rw [IntKind.wrap_i64]; omega
              go_wp2_with (go_at_call 37; ((with_reducible refine (OFS.out _ _ _ J3.out).mono ?_); rintro e1 w4 ⟨A4, c4, rfl, hI4, bb⟩; have b4 := b3n.trans (bb.mono b3n.size); obtain ⟨b, off, hA4, _, hc4⟩ := hI4 (by rw [upto_length]; omega); subst hA4; have d0 : w4.cell? ⟨b, off, none⟩ = some (.int .i64 0) := (by have h := hc4 0 (by rw [upto_length]; omega); rw [upto_get] at h; exact h); have d1 : w4.cell? ⟨b, off + p, none⟩ = some (.int .i64 (p : Int)) := (by have h := hc4 p (by rw [upto_length]; omega); rw [upto_get] at h; exact h); clear hc4 bb))
              go_ret
              exact ⟨rfl, b4⟩
    · have hke : l.take k = f := by rw [← HFE.out, List.take_of_length_le (by omega), List.take_of_length_le (by omega)]
      rw [hke] at hown
      clear hke HFE hr hi hz0 hz1 hz2 HX
      obtain ⟨A2, c2, hv, hF, _, _⟩ := own_floatsC hown
      subst hv
      have HF := Lib.hid hF
      clear hown hF
      go_wp2_with (first
        | (go_at_call 33; ((with_reducible refine (CR.out _ _ _ HF.out).mono ?_); rintro e1 w3 ⟨o, A3, c3, ho, rfl, hI, bb⟩; have b3 := hb.trans (bb.mono hb.size); have HF3 := Lib.hid (HF.out.below bb); have HO := Lib.hid ho; have I3 := Lib.hid hI; clear hI bb ho))
        | (go_at_call 26; ((with_reducible refine (inf_down _).mono ?_); rintro e1 w' ⟨rfl, rfl⟩))
        | (go_at_call 22; ((with_reducible refine (CK.out _).mono ?_); rintro e1 w' ⟨rfl, rfl⟩)))
      have hol : Hid (o.length = f.length) := HO.out.len
      have LT : Hid (∀ k (h : k < o.length), o[k] < f.length) := fun k h => HO.out.lt _ (List.getElem_mem h)
      have IG : Hid (∀ k (h : k < o.length), (ints o)[k]'(by rw [ints_length]; exact h) = (o[k] : Int)) := fun k h => ints_at o k _ h
      have OFS := Lib.hid (OF.out o HO.out)
      go_loopw [6] (fun i wr => ∃ k n : Nat, k ≤ f.length ∧ i = .int .i64 ((k : Int) + 1) ∧ wr = w3.drewN n) (fun i _ => f.length + 1 - (intOf i).toNat)
      case atStart => exact ⟨0, 0, Nat.zero_le _, by first | rfl | go_num, rfl⟩
      case round =>
        obtain ⟨j, n, hk, rfl, rfl⟩ := hrel
        by_cases hlt : j + 1 < f.length
        · have hlo : j + 1 < o.length := by have := hol.out; omega
          obtain ⟨b3', o3, hA3, _, hc3⟩ := I3.out (by rw [ints_length]; omega)
          subst hA3
          obtain ⟨bf, of_, hAf, _, hcf⟩ := HF3.out (by omega)
          subst hAf
          obtain ⟨y, z, fy, fz, hy, hz, c3k, c3j, cy, cz, hby, hbz, hah⟩ : ∃ y z fy fz : Nat, y < f.length ∧ z < f.length ∧ w3.cell? ⟨b3', o3 + (j + 1), none⟩ = some (.int .i64 (y : Int)) ∧ w3.cell? ⟨b3', o3 + j, none⟩ = some (.int .i64 (z : Int)) ∧ w3.cell? ⟨bf, of_ + y, none⟩ = some (.float .f64 fy) ∧ w3.cell? ⟨bf, of_ + z, none⟩ = some (.float .f64 fz) ∧ fy < 18446744073709551616 ∧ fz < 18446744073709551616 ∧ (Heat.key fy < Heat.key fz ∨ (Heat.key fz = Heat.key fy ∧ z < y)) := by
            have hy := LT.out (j + 1) hlo
            have hz := LT.out j (by omega)
            have c3k := hc3 (j + 1) (by rw [ints_length]; exact hlo)
            have c3j := hc3 j (by rw [ints_length]; omega)
            rw [IG.out (j + 1) hlo] at c3k
            rw [IG.out j (by omega)] at c3j
            refine ⟨o[j + 1], o[j], f[o[j + 1]], f[o[j]], hy, hz, c3k, c3j, hcf _ hy, hcf _ hz, HB.out _ (List.getElem_mem hy), HB.out _ (List.getElem_mem hz), ?_⟩
            have h := List.pairwise_iff_getElem.1 HO.out.order j (j + 1) (by omega) hlo (by omega)
            unfold Heat.ahead at h
            rw [keyAt_get f hz, keyAt_get f hy] at h; exact h
          have KY := Lib.hid (fun W => key_any fy W hby)
          have KZ := Lib.hid (fun W => key_any fz W hbz)
          have BY := Lib.hid (fun W => refBits_any fy W hby)
          have BZ := Lib.hid (fun W => refBits_any fz W hbz)
          have hinj : Heat.key fz = Heat.key fy ↔ Heat.bitsN fz = Heat.bitsN fy := Heat.key_inj hbz hby
          clear hc3 hcf hby hbz
          generalize Heat.key fz = kz at *
          generalize Heat.key fy = ky at *
          generalize Heat.bitsN fz = vz at *
          generalize Heat.bitsN fy = vy at *
          have g5 : (j : Int) < (f.length : Int) := by omega
          have hwp : IntKind.i64.wrap (j : Int) = (j : Int) := by rw [IntKind.wrap_i64]; omega
          have g6 : (j : Int) + 1 < (f.length : Int) := by omega
          have g7 : (0 : Int) ≤ (j : Int) + 1 := by omega
          have g8 : ((j : Int) + 1).toNat = j + 1 := by omega
          have hyi : (y : Int) < (f.length : Int) := by omega
          have hzi : (z : Int) < (f.length : Int) := by omega
          have C3k : (w3.drewN n).cell? ⟨b3', o3 + (j + 1), none⟩ = some (.int .i64 (y : Int)) := c3k
          have C3j : (w3.drewN n).cell? ⟨b3', o3 + j, none⟩ = some (.int .i64 (z : Int)) := c3j
          have Cy : (w3.drewN n).cell? ⟨bf, of_ + y, none⟩ = some (.float .f64 fy) := cy
          have Cz : (w3.drewN n).cell? ⟨bf, of_ + z, none⟩ = some (.float .f64 fz) := cz
          clear c3k c3j cy cz
          obtain ⟨wq, hwq⟩ : ∃ wq, w3.drewN n = wq := ⟨_, rfl⟩
          have HW : Hid (∀ m, wq.drewN m = w3.drewN (n + m)) := fun m => by rw [← hwq, World.drewN_drewN]
          rw [hwq] at C3k C3j Cy Cz ⊢
          clear hwq OFS
          rcases hah with hlt2 | ⟨heq, hzy⟩
          · have q1 : decide ((kz : Int) < (ky : Int)) = false := decide_eq_false (by omega)
            have q2 : ((kz : Int) == (ky : Int)) = false := by rw [beq_eq_false_iff_ne]; omega
            have q3 : ((vz : Int) == (vy : Int)) = false := by
              rw [beq_eq_false_iff_ne]; intro h; have := hinj.2 (by omega); omega
            have q1n : decide (kz < ky) = false := decide_eq_false (by omega)
            have q2n : (kz == ky) = false := by rw [beq_eq_false_iff_ne]; omega
            have q3n : (vz == vy) = false := by
              rw [beq_eq_false_iff_ne]; intro h; have := hinj.2 h; omega
            clear hinj
            go_wp2_with fail
            go_quiet (first | (go_at_call_of 22 (Value.float FloatKind.f64 fz); exact Calls.quiet_of_same ((KZ.out _).mono fun e w' h => ⟨h.1, h.2.symm⟩)) | (go_at_call_of 22 (Value.float FloatKind.f64 fy); exact Calls.quiet_of_same ((KY.out _).mono fun e w' h => ⟨h.1, h.2.symm⟩)))
            go_wp2_with fail
            have D3k : (wq.drewN nq).cell? ⟨b3', o3 + (j + 1), none⟩ = some (.int .i64 (y : Int)) := C3k
            have D3j : (wq.drewN nq).cell? ⟨b3', o3 + j, none⟩ = some (.int .i64 (z : Int)) := C3j
            have Dy : (wq.drewN nq).cell? ⟨bf, of_ + y, none⟩ = some (.float .f64 fy) := Cy
            have Dz : (wq.drewN nq).cell? ⟨bf, of_ + z, none⟩ = some (.float .f64 fz) := Cz
            obtain ⟨wp, hwp2⟩ : ∃ wp, wq.drewN nq = wp := ⟨_, rfl⟩
            have HW2 : Hid (∀ m, wp.drewN m = w3.drewN (n + nq + m)) := fun m => by rw [← hwp2, World.drewN_drewN, HW.out, Nat.add_assoc]
            rw [hwp2] at D3k D3j Dy Dz ⊢
            clear hwp2
            go_quiet (first | (go_at_call_of 17 (Value.float FloatKind.f64 fz); exact Calls.quiet_of_same ((BZ.out _).mono fun e w' h => ⟨h.1, h.2.symm⟩)) | (go_at_call_of 17 (Value.float FloatKind.f64 fy); exact Calls.quiet_of_same ((BY.out _).mono fun e w' h => ⟨h.1, h.2.symm⟩)))
            go_wp2_with fail
            go_roundw
            case rel => exact ⟨j + 1, _, by omega, by go_num, HW2.out nq⟩
            case measure => simp [intOf]; omega
          · have hv := hinj.1 heq
            subst heq hv
            have q1 : decide ((kz : Int) < (kz : Int)) = false := decide_eq_false (by omega)
            have q2 : ((kz : Int) == (kz : Int)) = true := by simp
            have q3 : ((vz : Int) == (vz : Int)) = true := by simp
            have q4 : decide ((y : Int) ≤ (z : Int)) = false := decide_eq_false (by omega)
            clear hinj
            go_wp2_with fail
            go_quiet (first | (go_at_call_of 22 (Value.float FloatKind.f64 fz); exact Calls.quiet_of_same ((KZ.out _).mono fun e w' h => ⟨h.1, h.2.symm⟩)) | (go_at_call_of 22 (Value.float FloatKind.f64 fy); exact Calls.quiet_of_same ((KY.out _).mono fun e w' h => ⟨h.1, h.2.symm⟩)))
            go_wp2_with fail
            have D3k : (wq.drewN nq).cell? ⟨b3', o3 + (j + 1), none⟩ = some (.int .i64 (y : Int)) := C3k
            have D3j : (wq.drewN nq).cell? ⟨b3', o3 + j, none⟩ = some (.int .i64 (z : Int)) := C3j
            have Dy : (wq.drewN nq).cell? ⟨bf, of_ + y, none⟩ = some (.float .f64 fy) := Cy
            have Dz : (wq.drewN nq).cell? ⟨bf, of_ + z, none⟩ = some (.float .f64 fz) := Cz
            obtain ⟨wp, hwp2⟩ : ∃ wp, wq.drewN nq = wp := ⟨_, rfl⟩
            have HW2 : Hid (∀ m, wp.drewN m = w3.drewN (n + nq + m)) := fun m => by rw [← hwp2, World.drewN_drewN, HW.out, Nat.add_assoc]
            rw [hwp2] at D3k D3j Dy Dz ⊢
            clear hwp2
            go_quiet (first | (go_at_call_of 17 (Value.float FloatKind.f64 fz); exact Calls.quiet_of_same ((BZ.out _).mono fun e w' h => ⟨h.1, h.2.symm⟩)) | (go_at_call_of 17 (Value.float FloatKind.f64 fy); exact Calls.quiet_of_same ((BY.out _).mono fun e w' h => ⟨h.1, h.2.symm⟩)))
            go_wp2_with fail
            go_roundw
            case rel => exact ⟨j + 1, _, by omega, by go_num, HW2.out nq⟩
            case measure => simp [intOf]; omega
        · have J3 : Hid (IntsAt (w3.drewN n) A3 (ints o)) := I3.out
          have b3n := below_drewN b3 n
          clear HF3 I3 IG LT HO hol b3
          generalize w3.drewN n = wq at *
          cases hfn : f.length with
          | zero =>
            rw [hfn] at OFS
            have hj1 : ¬ (j : Int) + 1 < 0 := by omega
            go_wp2_with (go_at_call 37; ((with_reducible refine (OFS.out _ _ _ J3.out).mono ?_); rintro e1 w4 ⟨A4, c4, rfl, hI4, bb⟩; have b4 := b3n.trans (bb.mono b3n.size); clear hI4 bb))
            go_ret
            exact ⟨rfl, b4⟩
          | succ p =>
            rw [hfn] at OFS
            have hj1 : ¬ (j : Int) + 1 < (p : Int) + 1 := by omega
            have e0 : ((p : Int) + 1 == 0) = false := by rw [beq_eq_false_iff_ne]; omega
            have wp : IntKind.i64.wrap (p : Int) = (p : Int) := by rw [IntKind.wrap_i64]; omega
            go_wp2_with (go_at_call 37; ((with_reducible refine (OFS.out _ _ _ J3.out).mono ?_); rintro e1 w4 ⟨A4, c4, rfl, hI4, bb⟩; have b4 := b3n.trans (bb.mono b3n.size); obtain ⟨b, off, hA4, _, hc4⟩ := hI4 (by rw [upto_length]; omega); subst hA4; have d0 : w4.cell? ⟨b, off, none⟩ = some (.int .i64 0) := (by have h := hc4 0 (by rw [upto_length]; omega); rw [upto_get] at h; exact h); have d1 : w4.cell? ⟨b, off + p, none⟩ = some (.int .i64 (p : Int)) := (by have h := hc4 p (by rw [upto_length]; omega); rw [upto_get] at h; exact h); clear hc4 bb))
            go_ret
            exact ⟨rfl, b4⟩
end H
end Go.Proofs.Ytkbchpbdpkbnjaa
