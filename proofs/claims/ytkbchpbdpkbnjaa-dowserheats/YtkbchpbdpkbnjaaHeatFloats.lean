/-
  Of bits, at most 20, as numbers with a point (the law's own floats); slices of such numbers that the call itself makes.
-/
import Derived.Test.YtkbchpbdpkbnjaaHeatRank
namespace Go.Proofs.Ytkbchpbdpkbnjaa
open Go.RowKit
namespace H
open I (IntsAt icells own_ints one_int one_new base1 info3 icells_snoc)

theorem info24 : (Try.prog.info? 24).map (fun i => (i.zero, i.size, i.bytes)) = some (some (.float .f64 0), 1, 8) := by kernel_rfl
def fcells (l : List Nat) : List Value := l.map (Value.float .f64)
theorem fcells_snoc (l : List Nat) (x : Nat) : fcells (l ++ [x]) = fcells l ++ [.float .f64 x] := by simp [fcells]
theorem fcells_length (l : List Nat) : (fcells l).length = l.length := by simp [fcells]
theorem one_float (x : Nat) : ∀ u ∈ [Value.float .f64 x], u.oneCell' = true := by intro u hu; simp at hu; subst hu; rfl
theorem add_plain0 (g j : Nat) : (⟨g, 0, none⟩ : Addr).add j = ⟨g, j, none⟩ := by unfold Addr.add; split <;> simp_all
theorem own_floats {w : World} {B n : Nat} {v : Value} {l : List Nat} (h : w.ownsRow B 24 1 v n (fcells l)) : ∃ A c, v = .slice A l.length c ∧ FloatsAt w A l ∧ n = l.length := by
  have hn : n = l.length := by have := h.1; rw [fcells_length] at this; omega
  subst hn
  rcases h.2 with ⟨rfl, h0⟩ | ⟨g, cap, cur, rfl, hb, hg, _⟩
  · have hl : l = [] := List.eq_nil_of_length_eq_zero h0
    subst hl
    exact ⟨none, 0, rfl, fun h => absurd h (by simp), rfl⟩
  · refine ⟨_, cap, rfl, fun _ => ⟨g, 0, rfl, (h.lt g rfl).2, fun i hi => ?_⟩, rfl⟩
    have c0 := h.cells rfl i (.float .f64 l[i]) (by simp [fcells, List.getElem?_eq_getElem hi])
    rw [add_plain0] at c0
    rw [Nat.zero_add]; exact c0
/-- a slice of uint64 reads as l (nil let in) -/
def WordsAt (w : World) (A : Option Addr) (l : List Nat) : Prop := 0 < l.length → ∃ b off, A = some ⟨b, off, none⟩ ∧ b < w.heap.size ∧ ∀ i (h : i < l.length), w.cell? ⟨b, off + i, none⟩ = some (.int .u64 (l[i] : Int))
theorem WordsAt.below {w w' : World} {A : Option Addr} {l : List Nat} (h : WordsAt w A l) (hb : Below w.heap.size w w') : WordsAt w' A l := fun hp => by
  obtain ⟨b, off, e, hl, hc⟩ := h hp
  exact ⟨b, off, e, Nat.lt_of_lt_of_le hl hb.size, fun i hi => (hb.cell (p := ⟨b, off + i, none⟩) hl).trans (hc i hi)⟩

set_option maxRecDepth 100000 in
set_option maxHeartbeats 1000000 in
theorem floats_any (l : List Nat) (A : Option Addr) (c : Nat) (w : World) (hl : l.length ≤ 9223372036854775807) (hx : WordsAt w A l) :
    Calls Try.prog 31 #[.slice A l.length c] w fun e w' => ∃ v, e = .returned v ∧ w'.ownsRow w.heap.size 24 1 v (l.take 20).length (fcells (l.take 20)) ∧ Below w.heap.size w w' := by
  obtain ⟨i0, hi, hz0, hz1, hz2⟩ := info_parts info24
  have hr := from_run
  have HX := Lib.hid hx
  clear hx
  go_enter Try.func31, Try.ntmps31
  go_wp2
  go_loopw [3, 4] (fun v t wr => ∃ k : Nat, k ≤ l.length ∧ k ≤ 20 ∧ t = .int .i64 (k : Int) ∧ wr.ownsRow w.heap.size 24 1 v (l.take k).length (fcells (l.take k)) ∧ Below w.heap.size w wr) (fun _ t _ => 20 - (intOf t).toNat)
  case atStart => exact ⟨0, by omega, by omega, rfl, World.ownsRow_nil _ _ _ _, Below.refl _ _⟩
  case round =>
    obtain ⟨k, hk, hk2, rfl, hown, hb⟩ := hrel
    have hbs := hb.size
    by_cases hlt : k < l.length
    · by_cases hlt2 : k < 20
      · obtain ⟨b, off, hA, _, hc⟩ := (HX.out.below hb) (by omega)
        subst hA
        have c0 := hc k hlt
        have hkl : (l.take k).length = k := by rw [List.length_take]; omega
        rw [hkl] at hown
        have HS : Hid (fcells (l.take (k + 1)) = fcells (l.take k) ++ [.float .f64 l[k]]) := by rw [List.take_succ_eq_append_getElem hlt, fcells_snoc]; rfl
        have HKL : Hid ((l.take (k + 1)).length = k + 1) := by
          show (l.take (k + 1)).length = k + 1
          rw [List.length_take]; omega
        have hm3 : k + 1 ≤ maxLen := by unfold maxLen; omega
        have hm4 : (k + 1) * 8 ≤ 140737488355328 := by omega
        clear hc hkl
        generalize l[k] = x at *
        generalize fcells (l.take k) = F at *
        go_wp2_with (at_builtin; refine wpList_append_own _ rfl _ _ 37 rfl w.heap.size 24 i0 (.float .f64 0) 1 8 Try.underlying37 hi hz0 hz1 hz2 rfl (by decide) _ _ _ rfl (hown.alloc _) ⟨wr.heap.size, 0, none⟩ 1 1 [.float .f64 x] rfl rfl (one_new _ _ _ _ rfl) (one_float _) hm3 hm4 (base1 hbs _) ?_)
        intro v' w1 hown' hgrow _
        have hb1 : Below w.heap.size w w1 := (hb.alloc hbs _).grown hgrow (base1 hbs _) (fun r hr => (hown.lt r hr).1)
        have HO : Hid (w1.ownsRow w.heap.size 24 1 v' (l.take (k + 1)).length (fcells (l.take (k + 1)))) := by rw [HS.out, HKL.out]; exact hown'
        clear hown' hgrow hown
        go_wp2
        go_roundw
        case rel => exact ⟨k + 1, by omega, by omega, by go_num, HO.out, hb1⟩
        case measure => simp [intOf]; omega
      · have hk20 : k = 20 := by omega
        subst hk20
        have HO := Lib.hid hown
        clear hown
        go_wp2
        go_ret
        exact ⟨_, rfl, HO.out, hb⟩
    · have hke : l.take 20 = l.take k := by rw [List.take_of_length_le (by omega), List.take_of_length_le (by omega)]
      have HO : Hid (wr.ownsRow w.heap.size 24 1 u3 (l.take 20).length (fcells (l.take 20))) := by rw [hke]; exact hown
      clear hown hke
      go_wp2
      go_ret
      exact ⟨_, rfl, HO.out, hb⟩
end H
end Go.Proofs.Ytkbchpbdpkbnjaa
