/-
  What the library's swapRange and rotate do (of the stable sort).
-/
import Derived.Test.YtkbchpbdpkbnjaaHeatPlaces
import Derived.Test.YtkbchpbdpkbnjaaHeatMerge
import Derived.BigRegion
import Derived.Sort.WalkC
namespace Go.Proofs.Ytkbchpbdpkbnjaa
open Go.RowKit Go.Sort
namespace H

theorem swap_w {n : Nat} (W : World) (g : Nat) (dk : Array (Fin (n + 1))) (m i j : Nat) (hi : i < dk.size) (hj : j < dk.size) :
    ((((putRow encP W g 0 dk).drewN m).setCell ⟨g, i, none⟩ (encP dk[j]!)).setCell ⟨g, j, none⟩ (encP dk[i]!)).drew = (putRow encP W g 0 (swp dk i j)).drewN (m + 1) := by
  have := swap_worldC encP W g 0 dk m i j hi hj
  rw [Nat.zero_add, Nat.zero_add] at this
  exact this

set_option maxRecDepth 100000 in
set_option maxHeartbeats 2000000 in
theorem swapRange_any {n : Nat} (hn : n ≤ 1000) (g cap : Nat) (W : World) (d : Array (Fin (n + 1))) (hd : d.size = n + 1) (hH : Holds encP W g 0 d) (a b c : Nat) (hab : a + c ≤ b) (hb : b + c ≤ n + 1) (f : Value) :
    Calls Try.prog 97 #[.slice (some ⟨g, 0, none⟩) (n + 1) cap, .int .i64 (a : Int), .int .i64 (b : Int), .int .i64 (c : Int), f] W fun e w' =>
      e = .returned (.tuple #[]) ∧ ∃ d' m, Heat.Swapped a b c d d' ∧ (∀ lo hi, lo ≤ a → b + c ≤ hi → hi ≤ n + 1 → PermIn lo hi d d') ∧ w' = (putRow encP W g 0 d').drewN m := by
  have HH := Lib.hid hH
  have HST : Hid (W = (putRow encP W g 0 d).drewN 0) := (putRow_self encP W g 0 d hH).symm
  clear hH
  go_enter Try.func97, Try.ntmps97
  go_wp2
  go_loopw [10] (fun vi wr => ∃ (i m : Nat) (dk : Array (Fin (n + 1))), i ≤ c ∧ vi = .int .i64 (i : Int) ∧ Heat.Swapped a b i d dk ∧ (∀ lo hi, lo ≤ a → b + c ≤ hi → hi ≤ n + 1 → PermIn lo hi d dk) ∧ wr = (putRow encP W g 0 dk).drewN m) (fun vi _ => c - (intOf vi).toNat)
  case atStart => exact ⟨0, 0, d, Nat.zero_le _, rfl, Heat.Swapped.start a b d, fun lo hi _ _ _ => permIn_refl d lo hi, HST.out⟩
  case round =>
    obtain ⟨i, m, dk, hi, rfl, hsw, hperm, rfl⟩ := hrel
    have HSW := Lib.hid hsw
    have HP := Lib.hid hperm
    have hdk : dk.size = n + 1 := by rw [hsw.size, hd]
    clear hsw hperm
    by_cases hlt : i < c
    · have hHk := holds_putRow encP W g 0 d dk HH.out (by rw [hdk, hd])
      obtain ⟨p, hp⟩ : ∃ p, a + i = p := ⟨_, rfl⟩
      obtain ⟨q, hq⟩ : ∃ q, b + i = q := ⟨_, rfl⟩
      obtain ⟨xp, hxp⟩ : ∃ x, dk[p]! = x := ⟨_, rfl⟩
      obtain ⟨xq, hxq⟩ : ∃ x, dk[q]! = x := ⟨_, rfl⟩
      obtain ⟨cp, fp⟩ := hHk p (by omega)
      obtain ⟨cq, fq⟩ := hHk q (by omega)
      rw [hxp] at cp
      rw [hxq] at cq
      rw [Nat.zero_add] at cp cq fp fq
      have cp' : ((putRow encP W g 0 dk).drewN m).cell? ⟨g, p, none⟩ = some (encP xp) := cp
      have cq' : ((putRow encP W g 0 dk).drewN m).cell? ⟨g, q, none⟩ = some (encP xq) := cq
      have fp' : ((putRow encP W g 0 dk).drewN m).frozen? ⟨g, p, none⟩ = false := fp
      have fq' : ((putRow encP W g 0 dk).drewN m).frozen? ⟨g, q, none⟩ = false := fq
      clear cp cq fp fq hHk
      have e1 : (a : Int) + (i : Int) = (p : Int) := by omega
      have e2 : (b : Int) + (i : Int) = (q : Int) := by omega
      have hpq : p ≠ q := by omega
      have hpi : (p : Int) < (n : Int) + 1 := by omega
      have hqi : (q : Int) < (n : Int) + 1 := by omega
      have e1w : IntKind.i64.wrap (p : Int) = (p : Int) := by rw [IntKind.wrap_i64]; omega
      have e2w : IntKind.i64.wrap (q : Int) = (q : Int) := by rw [IntKind.wrap_i64]; omega
      generalize hwq : (putRow encP W g 0 dk).drewN m = wq at *
      have HW := Lib.hid hwq
      clear hwq
      have HPQ : Hid (a + i = p ∧ b + i = q) := ⟨hp, hq⟩
      clear hp hq
      simp only [encP] at cp' cq'
      go_wp2_with fail
      go_region
      all_goals go_wp2
      go_roundw
      case rel =>
        refine ⟨i + 1, m + 1, swp dk p q, by omega, by go_num, ?_, fun lo hi h1 h2 h3 => ?_, ?_⟩
        · have := HSW.out.step (show a + i < b by omega) (by omega)
          rw [HPQ.out.1, HPQ.out.2] at this; exact this
        · exact permIn_trans _ _ _ _ _ (HP.out lo hi h1 h2 h3) (swp_permIn dk lo hi p q (by have := HPQ.out.1; omega) (by have := HPQ.out.1; omega) (by have := HPQ.out.2; omega) (by have := HPQ.out.2; omega) (by omega))
        · rw [← swap_w W g dk m p q (by have := HPQ.out.1; omega) (by have := HPQ.out.2; omega), HW.out, hxp, hxq]; rfl
      case measure => simp [intOf]; omega
    · have hic : i = c := by omega
      subst hic
      go_wp2
      go_end0
      exact ⟨rfl, dk, m, HSW.out, HP.out, rfl⟩

theorem put_again {n : Nat} (W : World) (g q r : Nat) (dk d1 : Array (Fin (n + 1))) (h : d1.size = dk.size) : (putRow encP ((putRow encP W g 0 dk).drewN q) g 0 d1).drewN r = (putRow encP W g 0 d1).drewN (q + r) := by
  have h1 : putRow encP ((putRow encP W g 0 dk).drewN q) g 0 d1 = (putRow encP (putRow encP W g 0 dk) g 0 d1).drewN q := rfl
  rw [h1, putRow_putRow encP W g 0 dk d1 h, World.drewN_drewN]

set_option maxRecDepth 100000 in
set_option maxHeartbeats 2000000 in
theorem rotate_any {n : Nat} (hn : n ≤ 1000) (g cap : Nat) (W : World) (d : Array (Fin (n + 1))) (hd : d.size = n + 1) (hH : Holds encP W g 0 d) (a m b : Nat) (ham : a < m) (hmb : m < b) (hb : b ≤ n + 1) (f : Value) :
    Calls Try.prog 91 #[.slice (some ⟨g, 0, none⟩) (n + 1) cap, .int .i64 (a : Int), .int .i64 (m : Int), .int .i64 (b : Int), f] W fun e w' =>
      e = .returned (.tuple #[]) ∧ ∃ d' q, Heat.Rot m (m - a) (b - m) d d' ∧ PermIn a b d d' ∧ w' = (putRow encP W g 0 d').drewN q := by
  have HH := Lib.hid hH
  have HST : Hid (W = (putRow encP W g 0 d).drewN 0) := (putRow_self encP W g 0 d hH).symm
  have HC : Hid (∀ (q : Nat) (dk : Array (Fin (n + 1))), dk.size = n + 1 → ∀ x y c : Nat, x + c ≤ y → y + c ≤ n + 1 → Calls Try.prog 97 #[.slice (some ⟨g, 0, none⟩) (n + 1) cap, .int .i64 (x : Int), .int .i64 (y : Int), .int .i64 (c : Int), f] ((putRow encP W g 0 dk).drewN q) fun e w' =>
      e = .returned (.tuple #[]) ∧ ∃ d' r, Heat.Swapped x y c dk d' ∧ (∀ lo hi, lo ≤ x → y + c ≤ hi → hi ≤ n + 1 → PermIn lo hi dk d') ∧ w' = (putRow encP W g 0 d').drewN (q + r)) := fun q dk hdk x y c h1 h2 =>
    (swapRange_any hn g cap ((putRow encP W g 0 dk).drewN q) dk hdk (holds_putRow encP W g 0 d dk hH (by rw [hdk, hd])) x y c h1 h2 f).mono fun e w' ⟨he, d', r, hs, hp, hw⟩ => ⟨he, d', r, hs, hp, by rw [hw, put_again W g q r dk d' hs.size]⟩
  clear hH
  obtain ⟨i0, hi0⟩ : ∃ i0, m = a + i0 := ⟨m - a, by omega⟩
  obtain ⟨j0, hj0⟩ : ∃ j0, b = m + j0 := ⟨b - m, by omega⟩
  have ei : (m : Int) - (a : Int) = (i0 : Int) := by omega
  have ej : (b : Int) - (m : Int) = (j0 : Int) := by omega
  have hmi : m - a = i0 := by omega
  have hbj : b - m = j0 := by omega
  rw [hmi, hbj]
  have HI : Hid (m = a + i0 ∧ b = m + j0) := ⟨hi0, hj0⟩
  have hi1 : 0 < i0 := by omega
  have hj1 : 0 < j0 := by omega
  have wi : IntKind.i64.wrap (i0 : Int) = (i0 : Int) := by rw [IntKind.wrap_i64]; omega
  have wj : IntKind.i64.wrap (j0 : Int) = (j0 : Int) := by rw [IntKind.wrap_i64]; omega
  clear hmi hbj hi0 hj0
  go_enter Try.func91, Try.ntmps91
  go_wp2_with fail
  go_loopw [10, 11] (fun v10 v11 wr => ∃ (i j q : Nat) (dk : Array (Fin (n + 1))), 0 < i ∧ 0 < j ∧ a + i ≤ m ∧ m + j ≤ b ∧ v10 = .int .i64 (i : Int) ∧ v11 = .int .i64 (j : Int) ∧ dk.size = n + 1 ∧ PermIn a b d dk ∧ (∀ d', Heat.Rot m i j dk d' → Heat.Rot m i0 j0 d d') ∧ wr = (putRow encP W g 0 dk).drewN q) (fun v10 v11 _ => (intOf v10).toNat + (intOf v11).toNat)
  case atStart => exact ⟨i0, j0, 0, d, hi1, hj1, by have := HI.out.1; omega, by have := HI.out.2; omega, by first | rfl | go_num, by first | rfl | go_num, hd, permIn_refl d a b, fun _ h => h, HST.out⟩
  case round =>
    obtain ⟨i, j, q, dk, hi, hj, him, hjm, rfl, rfl, hdk, hperm, hrot, rfl⟩ := hrel
    have HP := Lib.hid hperm
    have HR := Lib.hid hrot
    clear hperm hrot
    obtain ⟨x, hx⟩ : ∃ x, m = x + i := ⟨m - i, by omega⟩
    have HX := Lib.hid hx
    have ex : (m : Int) - (i : Int) = (x : Int) := by omega
    have wx : IntKind.i64.wrap (x : Int) = (x : Int) := by rw [IntKind.wrap_i64]; omega
    have hxa : a ≤ x := by omega
    have hxm : x ≤ m := by omega
    clear hx
    rcases Nat.lt_trichotomy i j with hlt | heq | hgt
    · obtain ⟨y, hy⟩ : ∃ y, m + j = y + i := ⟨m + j - i, by omega⟩
      have ey : (m : Int) + (j : Int) - (i : Int) = (y : Int) := by omega
      have hym : m < y := by omega
      have C := Lib.hid (HC.out q dk hdk x y i (by have := HX.out; omega) (by omega))
      obtain ⟨k, hk⟩ : ∃ k, j = i + k := ⟨j - i, by omega⟩
      have ek : (j : Int) - (i : Int) = (k : Int) := by omega
      have HK : Hid (j = i + k ∧ m + j = y + i) := ⟨hk, hy⟩
      have hne : ((i : Int) != (j : Int)) = true := by rw [bne_iff_ne]; omega
      have hgt' : ¬ (j : Int) < (i : Int) := by omega
      have wk : IntKind.i64.wrap (k : Int) = (k : Int) := by rw [IntKind.wrap_i64]; omega
      have wy : IntKind.i64.wrap (y : Int) = (y : Int) := by rw [IntKind.wrap_i64]; omega
      have hmj : IntKind.i64.wrap ((m : Int) + (j : Int)) = (m : Int) + (j : Int) := by rw [IntKind.wrap_i64]; omega
      clear hk hy
      generalize hwq : (putRow encP W g 0 dk).drewN q = wq at *
      clear hwq
      go_wp2_with (go_at_call 97; ((with_reducible refine C.out.mono ?_); rintro e w1 ⟨rfl, d1, r, hs1, hp1, rfl⟩; have HS1 := Lib.hid hs1; have HP1 := Lib.hid hp1; clear hs1 hp1))
      go_roundw
      case rel =>
        have h1 := HK.out.1
        have h2 := HK.out.2
        have h3 := HX.out
        refine ⟨i, k, q + r, d1, hi, by omega, him, by omega, rfl, by first | rfl | go_num, by rw [HS1.out.size, hdk], permIn_trans _ _ _ _ _ HP.out (HP1.out a b hxa (by omega) hb), fun d' hd' => HR.out d' ?_, rfl⟩
        refine Heat.Rot.more_right hlt (by omega) (d1 := d1) ?_ (by rw [show j - i = k by omega]; exact hd')
        rw [show m - i = x by omega, show m + j - i = y by omega]; exact HS1.out
      case measure => have h1 := HK.out.1; simp [intOf]; omega
    · subst heq
      have C := Lib.hid (HC.out q dk hdk x m i (by have := HX.out; omega) (by omega))
      have hne : ((i : Int) != (i : Int)) = false := by simp
      generalize hwq : (putRow encP W g 0 dk).drewN q = wq at *
      clear hwq
      go_wp2_with (go_at_call 97; ((with_reducible refine C.out.mono ?_); rintro e w1 ⟨rfl, d1, r, hs1, hp1, rfl⟩; have HS1 := Lib.hid hs1; have HP1 := Lib.hid hp1; clear hs1 hp1))
      go_end0
      refine ⟨rfl, d1, q + r, HR.out d1 (Heat.Rot.last (by omega) (by rw [show m - i = x by have := HX.out; omega]; exact HS1.out)), permIn_trans _ _ _ _ _ HP.out (HP1.out a b hxa (by omega) hb), rfl⟩
    · have C := Lib.hid (HC.out q dk hdk x m j (by have := HX.out; omega) (by omega))
      obtain ⟨k, hk⟩ : ∃ k, i = j + k := ⟨i - j, by omega⟩
      have ek : (i : Int) - (j : Int) = (k : Int) := by omega
      have HK : Hid (i = j + k) := hk
      have hne : ((i : Int) != (j : Int)) = true := by rw [bne_iff_ne]; omega
      have hgt' : (j : Int) < (i : Int) := by omega
      have wk : IntKind.i64.wrap (k : Int) = (k : Int) := by rw [IntKind.wrap_i64]; omega
      clear hk
      generalize hwq : (putRow encP W g 0 dk).drewN q = wq at *
      clear hwq
      go_wp2_with (go_at_call 97; ((with_reducible refine C.out.mono ?_); rintro e w1 ⟨rfl, d1, r, hs1, hp1, rfl⟩; have HS1 := Lib.hid hs1; have HP1 := Lib.hid hp1; clear hs1 hp1))
      go_roundw
      case rel =>
        have h1 := HK.out
        have h3 := HX.out
        refine ⟨k, j, q + r, d1, by omega, hj, by omega, hjm, by first | rfl | go_num, rfl, by rw [HS1.out.size, hdk], permIn_trans _ _ _ _ _ HP.out (HP1.out a b hxa (by omega) hb), fun d' hd' => HR.out d' ?_, rfl⟩
        refine Heat.Rot.more_left hgt (by omega) (d1 := d1) ?_ (by rw [show i - j = k by omega]; exact hd')
        rw [show m - i = x by omega]; exact HS1.out
      case measure => have h1 := HK.out; simp [intOf]; omega
end H
end Go.Proofs.Ytkbchpbdpkbnjaa
