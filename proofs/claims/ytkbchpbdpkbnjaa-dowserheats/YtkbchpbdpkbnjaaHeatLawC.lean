/-
  The walks of the laws HeatSums and HeatRanks.
-/
import Derived.Test.YtkbchpbdpkbnjaaHeatLawA
import Derived.Test.YtkbchpbdpkbnjaaHeatSum
import Derived.Test.YtkbchpbdpkbnjaaIdsRef2
namespace Go.Proofs.Ytkbchpbdpkbnjaa
open Go.RowKit
namespace H
open I (below_drewN icells IntsAt own_ints)

theorem own_floatsC {w : World} {B n : Nat} {v : Value} {l : List Nat} (h : w.ownsRow B 24 1 v n (fcells l)) : ∃ A c, v = .slice A l.length c ∧ FloatsAt w A l ∧ l.length ≤ c ∧ c ≤ maxLen := by
  obtain ⟨A, c, hv, hI, hn⟩ := own_floats h
  refine ⟨A, c, hv, hI, ?_⟩
  rcases h.2 with ⟨e, h0⟩ | ⟨g, cap, cur, e, hb, hg, hle, hm, _⟩
  · rw [hv] at e
    injection e with e1 e2 e3
    exact ⟨by omega, by rw [e3]; exact Nat.zero_le _⟩
  · rw [hv] at e
    injection e with e1 e2 e3
    subst e3
    exact ⟨by omega, hm⟩

theorem words_open {w : World} {x : Addr} {zs : List Int} {len : Nat} (hl : len ≤ zs.length) (hb : ∀ n ∈ zs, 0 ≤ n) (h : ∀ i, i < zs.length → w.cell? (x.add i) = some (.int .u64 (zs.getD i 0))) : WordsAt w (some x) ((zs.take len).map Int.toNat) := fun hp => by
  rw [List.length_map, List.length_take] at hp
  have h0 := h 0 (by omega)
  have hsp : x.spot = none := by have := World.cell?_spot h0; simpa [Addr.add] using this
  obtain ⟨b, off, spot⟩ := x
  simp at hsp
  subst hsp
  have hlt : b < w.heap.size := by
    rcases Nat.lt_or_ge b w.heap.size with h1 | h1
    · exact h1
    · exfalso
      have : w.heap[b]? = none := Array.getElem?_eq_none h1
      simp [World.cell?, Addr.add, this] at h0
  refine ⟨b, off, rfl, hlt, fun i hi => ?_⟩
  rw [List.length_map, List.length_take] at hi
  have := h i (by omega)
  rw [show (⟨b, off, none⟩ : Addr).add i = ⟨b, off + i, none⟩ by unfold Addr.add; split <;> simp_all] at this
  rw [this, List.getElem_map, List.getElem_take]
  have hi2 : i < zs.length := by omega
  have hn := hb zs[i] (List.getElem_mem hi2)
  have e : zs.getD i 0 = zs[i] := by simp [List.getD, List.getElem?_eq_getElem hi2]
  rw [e, Int.toNat_of_nonneg hn]

theorem sumL_snoc (f : List Nat) (k : Nat) (h : k < f.length) (hk : 0 < k) : sumL (f.take (k + 1)) = Heat.sumN (sumL (f.take k)) f[k] := by
  cases f with
  | nil => simp at h
  | cons x xs =>
    obtain ⟨m, rfl⟩ : ∃ m, k = m + 1 := ⟨k - 1, by omega⟩
    rw [List.take_succ_cons, List.take_succ_cons]
    simp only [sumL]
    have hm : m < xs.length := by simpa using h
    rw [List.take_succ_eq_append_getElem hm, List.foldl_append]
    rfl
theorem sumL_one (f : List Nat) (h : 0 < f.length) : sumL (f.take 1) = Heat.bitsN f[0] := by
  cases f with
  | nil => simp at h
  | cons x xs => rfl
theorem sum_law (s y z : Nat) (hs : s < 18446744073709551616) (hy : y < 18446744073709551616) (h : Heat.bitsN s = z) : Heat.sumN s y = Heat.sumN z y := by
  subst h
  rw [← Heat.sumN_bitsN hs hy, ← Heat.sumN_bitsN (Heat.bitsN_lt hs) hy, Heat.bitsN_idem]

set_option maxRecDepth 100000 in
set_option maxHeartbeats 2000000 in
theorem heatSums_walk (l : List Nat) (A : Option Addr) (c : Nat) (w : World) (hl : l.length ≤ 9223372036854775807) (hbl : ∀ b ∈ l, b < 18446744073709551616) (hx : WordsAt w A l) :
    Calls Try.prog 6 #[.slice A l.length c] w fun e w' => e = .returned (.bool true) ∧ Below w.heap.size w w' := by
  have hq := bits_run
  have CF : Hid (∀ W, WordsAt W A l → Calls Try.prog 31 #[.slice A l.length c] W fun e w' => ∃ A' c', e = .returned (.slice A' (l.take 20).length c') ∧ FloatsAt w' A' (l.take 20) ∧ (l.take 20).length ≤ c' ∧ c' ≤ maxLen ∧ Below W.heap.size W w') := fun W h =>
    (floats_any l A c W hl h).mono fun e w' ⟨v, he, ho, hb⟩ => by
      obtain ⟨A', c', hv, hF, h1, h2⟩ := own_floatsC ho
      exact ⟨A', c', by rw [he, hv], hF, h1, h2, hb⟩
  have HX := Lib.hid hx
  have hfl : (l.take 20).length ≤ 20 := by rw [List.length_take]; omega
  have HB : Hid (∀ b ∈ l.take 20, b < 18446744073709551616) := fun b hb => hbl b (List.mem_of_mem_take hb)
  clear hx hbl hl
  generalize l.take 20 = f at *
  generalize l.length = n0 at *
  go_enter Try.func6, Try.ntmps6
  go_wp2_with (first
    | (go_at_call 13; ((with_reducible refine (awake3 w).mono ?_); rintro e1 w1 ⟨rfl, b1⟩))
    | (go_at_call 31; ((with_reducible refine (CF.out _ (HX.out.below b1)).mono ?_); rintro e1 w2 ⟨A2, c2, rfl, hF, hc1, hc2, bb⟩; have b2 := b1.trans (bb.mono b1.size); have HF := Lib.hid hF; clear hF bb)))
  have CS := Lib.hid (fun n => sum_any f A2 c2 (w2.drewN n) (by omega) hc1 hc2 HB.out HF.out)
  go_loopw [4, 13] (fun v i wr => ∃ k s n : Nat, k ≤ f.length ∧ v = .float .f64 s ∧ i = .int .i64 (k : Int) ∧ s < 18446744073709551616 ∧ Heat.bitsN s = sumL (f.take k) ∧ wr = w2.drewN n) (fun _ i _ => f.length - (intOf i).toNat)
  case atStart => exact ⟨0, 0, 0, Nat.zero_le _, rfl, rfl, by omega, by rw [List.take_zero]; decide +kernel, rfl⟩
  case round =>
    obtain ⟨k, s, n, hk, rfl, rfl, hs, hsum, rfl⟩ := hrel
    have HS := Lib.hid hsum
    have HS2 := Lib.hid hs
    clear hsum hs
    by_cases hlt : k < f.length
    · obtain ⟨b, off, hA, _, hc⟩ := HF.out (by omega)
      subst hA
      have c0 := hc k hlt
      have HY := Lib.hid (HB.out f[k] (List.getElem_mem hlt))
      clear hc
      by_cases h0 : k = 0
      · subst h0
        have HT := Lib.hid (sumL_one f hlt)
        rw [Nat.add_zero] at c0
        generalize f[0] = y at *
        go_wp2
        go_roundw
        case rel => exact ⟨1, y, n, by omega, rfl, by go_num, HY.out, HT.out.symm, rfl⟩
        case measure => simp [intOf]; omega
      · have HT := Lib.hid (sumL_snoc f k hlt (by omega))
        generalize f[k] = y at *
        obtain ⟨r, m, hrun, hr1, hr2⟩ := Heat.run_fadd Try.prog 24 s y (w2.drewN n)
        have HR : Hid (r < 18446744073709551616 ∧ Heat.bitsN r = sumL (f.take (k + 1))) := ⟨hr1, by rw [hr2, HT.out]; exact sum_law s y _ HS2.out HY.out HS.out⟩
        have hk0 : ((k : Int) == 0) = false := by rw [beq_eq_false_iff_ne]; omega
        clear hr1 hr2
        go_wp2
        go_roundw
        case rel => exact ⟨k + 1, r, n + m, by omega, rfl, by go_num, HR.out.1, HR.out.2, by go_simp⟩
        case measure => simp [intOf]; omega
    · have hke : f.take k = f := List.take_of_length_le (by omega)
      have CB : Hid (∀ W, Calls Try.prog 17 #[.float .f64 s] W fun e w' => e = .returned (.int .u64 (sumL f : Int)) ∧ W = w') := fun W => by
        have := refBits_any s W HS2.out
        rw [HS.out, hke] at this; exact this
      clear hke
      generalize sumL f = S at *
      go_wp2_with (first
        | (go_at_call 32; ((with_reducible refine (CS.out _).mono ?_); rintro e1 w' ⟨rfl, m, rfl⟩))
        | (go_at_call 17; ((with_reducible refine (CB.out _).mono ?_); rintro e1 w' ⟨rfl, rfl⟩)))
      go_ret
      exact ⟨rfl, below_drewN b2 _⟩
end H
end Go.Proofs.Ytkbchpbdpkbnjaa
