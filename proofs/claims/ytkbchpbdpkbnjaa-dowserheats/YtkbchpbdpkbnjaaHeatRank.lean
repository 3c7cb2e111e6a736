/-
  What the document's own Rank does (layer 3): the places of a list, each once, the greatest heat first.
-/
import Derived.Test.YtkbchpbdpkbnjaaHeatRef
import Derived.Test.YtkbchpbdpkbnjaaIdsRef2
namespace Go.Proofs.Ytkbchpbdpkbnjaa
open Go.RowKit
namespace H
open I (IntsAt icells own_ints one_int one_new base1 info3 icells_snoc)

/-- a slice of numbers with a point reads as the bits l (nil let in) -/
def FloatsAt (w : World) (A : Option Addr) (l : List Nat) : Prop := 0 < l.length → ∃ b off, A = some ⟨b, off, none⟩ ∧ b < w.heap.size ∧ ∀ i (h : i < l.length), w.cell? ⟨b, off + i, none⟩ = some (.float .f64 l[i])
theorem FloatsAt.below {w w' : World} {A : Option Addr} {l : List Nat} (h : FloatsAt w A l) (hb : Below w.heap.size w w') : FloatsAt w' A l := fun hp => by
  obtain ⟨b, off, e, hl, hc⟩ := h hp
  exact ⟨b, off, e, Nat.lt_of_lt_of_le hl hb.size, fun i hi => (hb.cell (p := ⟨b, off + i, none⟩) hl).trans (hc i hi)⟩
def ints (o : List Nat) : List Int := List.map (fun (i : Nat) => (i : Int)) o
theorem ints_length (o : List Nat) : (ints o).length = o.length := by simp [ints]
theorem ints_snoc (o : List Nat) (q : Nat) : ints (o ++ [q]) = ints o ++ [(q : Int)] := by simp [ints]
def among (o : List Nat) (i k : Nat) : Bool := decide (i ∈ o.take k)
theorem among_zero (o : List Nat) (i : Nat) : among o i 0 = false := by simp [among]
theorem ints_at (o : List Nat) (k : Nat) (h : k < (ints o).length) (h2 : k < o.length) : (ints o)[k] = (o[k] : Int) := by simp [ints]
theorem among_step (o : List Nat) (i k : Nat) (h : k < (ints o).length) : among o i (k + 1) = (among o i k || ((ints o)[k] == (i : Int))) := by
  have h2 : k < o.length := by rw [ints_length] at h; exact h
  rw [ints_at o k h h2]
  have e : i ∈ o.take (k + 1) ↔ i ∈ o.take k ∨ i = o[k] := by rw [List.take_succ_eq_append_getElem h2, List.mem_append, List.mem_singleton]
  unfold among
  by_cases hm : i ∈ o.take k
  · rw [decide_eq_true (e.2 (.inl hm)), decide_eq_true hm]; rfl
  · by_cases hq : i = o[k]
    · rw [decide_eq_true (e.2 (.inr hq)), decide_eq_false hm, ← hq, Bool.false_or]; simp
    · rw [decide_eq_false (fun q => (e.1 q).elim hm hq), decide_eq_false hm, Bool.false_or]
      symm; rw [beq_eq_false_iff_ne]; omega
theorem among_all (o : List Nat) (i : Nat) : among o i (ints o).length = true ↔ i ∈ o := by
  unfold among; rw [ints_length, List.take_length]; simp

set_option maxRecDepth 100000 in
set_option maxHeartbeats 1000000 in
theorem refRank_any (l : List Nat) (A : Option Addr) (c : Nat) (w : World) (hl : l.length ≤ 1000) (hbl : ∀ b ∈ l, b < 18446744073709551616) (hx : FloatsAt w A l) :
    Calls Try.prog 34 #[.slice A l.length c] w fun e w' => ∃ v o, e = .returned v ∧ Heat.Ranked l o ∧ w'.ownsRow w.heap.size 3 1 v (ints o).length (icells (ints o)) ∧ Below w.heap.size w w' := by
  obtain ⟨i0, hi, hz0, hz1, hz2⟩ := info_parts info3
  have HX := Lib.hid hx
  have HBL := Lib.hid hbl
  clear hx hbl
  go_enter Try.func34, Try.ntmps34
  go_wp2
  go_loopw [3, 4] (fun v t wr => ∃ o : List Nat, o.length ≤ l.length ∧ t = .int .i64 (o.length : Int) ∧ Heat.Told l o ∧ wr.ownsRow w.heap.size 3 1 v (ints o).length (icells (ints o)) ∧ Below w.heap.size w wr) (fun _ t _ => l.length - (intOf t).toNat)
  case atStart => exact ⟨[], by simp, rfl, Heat.Told.nil l, World.ownsRow_lit w #[] 0 (Nat.le_refl _) (Nat.zero_le _) rfl, (Below.refl _ _).alloc (Nat.le_refl _) _⟩
  case round =>
    obtain ⟨o, hol, rfl, hT, hown, hb⟩ := hrel
    have hbs := hb.size
    by_cases hlt : o.length < l.length
    · obtain ⟨b, off, hA, _, hc⟩ := (HX.out.below hb) (by omega)
      subst hA
      obtain ⟨A2, c2, hv, hI, _⟩ := own_ints hown
      subst hv
      have HC := Lib.hid hc
      have HI := Lib.hid hI
      have HTd := Lib.hid hT
      have HOwn := Lib.hid hown
      have hil : (ints o).length ≤ 1000 := by rw [ints_length]; omega
      have HILen := Lib.hid (ints_length o)
      clear hc hI hT hown
      go_wp2
      go_loop [5, 20] (fun bst i => ∃ (k : Nat) (B : Int), k ≤ l.length ∧ i = .int .i64 (k : Int) ∧ bst = .int .i64 B ∧ Heat.Best l o k B) (fun _ i => l.length - (intOf i).toNat)
      case atStart => exact ⟨0, -1, Nat.zero_le _, rfl, rfl, Heat.Best.start l o⟩
      case round =>
        obtain ⟨k, B, hk, rfl, rfl, hB⟩ := hrel
        have HB := Lib.hid hB
        clear hB
        by_cases hlt2 : k < l.length
        · have c0 := HC.out k hlt2
          have HX64 : ∀ q (h : q < l.length), l[q] < 18446744073709551616 := fun q h => HBL.out _ (List.getElem_mem h)
          have HX6 := Lib.hid HX64
          clear HX64
          go_wp2
          go_loop [8, 27] (fun u j => ∃ q : Nat, q ≤ (ints o).length ∧ j = .int .i64 (q : Int) ∧ u = .bool (among o k q)) (fun _ j => (ints o).length - (intOf j).toNat)
          case atStart => exact ⟨0, Nat.zero_le _, rfl, by rw [among_zero]⟩
          case round =>
            obtain ⟨q, hq, rfl, rfl⟩ := hrel
            by_cases hlt3 : q < (ints o).length
            · obtain ⟨b2, off2, hA2, _, hc2⟩ := HI.out (by omega)
              subst hA2
              have c1 := hc2 q hlt3
              have HS := Lib.hid (among_step o k q hlt3)
              clear hc2
              generalize (ints o)[q] = y at *
              cases hu : among o k q with
              | true =>
                have HS2 : Hid (among o k (q + 1) = true) := by rw [HS.out, hu]; rfl
                clear HS hu
                go_wp2
                go_round
                case rel => exact ⟨q + 1, by omega, by go_num, by rw [HS2.out]⟩
                case measure => simp [intOf]; omega
              | false =>
                have HS2 : Hid (among o k (q + 1) = (y == (k : Int))) := by rw [HS.out, hu]; rfl
                clear HS hu
                go_wp2
                go_round
                case rel => exact ⟨q + 1, by omega, by go_num, by rw [HS2.out]⟩
                case measure => simp [intOf]; omega
            · have hqe : q = (ints o).length := by omega
              subst hqe
              have HAl := Lib.hid (among_all o k)
              cases hu : among o k (ints o).length with
              | true =>
                have hm := (HAl.out).1 hu
                have HB2 := Lib.hid (HB.out.used hm)
                clear HAl hu hm
                go_wp2
                go_round
                case rel => exact ⟨k + 1, B, by omega, by go_num, rfl, HB2.out⟩
                case measure => simp [intOf]; omega
              | false =>
                have hm : k ∉ o := fun h => by have := (HAl.out).2 h; rw [hu] at this; cases this
                clear HAl
                by_cases hB0 : B = -1
                · subst hB0
                  have HB2 := Lib.hid (HB.out.first hm)
                  clear hu hm
                  go_wp2
                  go_round
                  case rel => exact ⟨k + 1, k, by omega, by go_num, rfl, HB2.out⟩
                  case measure => simp [intOf]; omega
                · obtain ⟨p, rfl, hpk⟩ : ∃ p : Nat, B = (p : Int) ∧ p < k := by
                    rcases HB.out with ⟨e, _⟩ | ⟨p, e, hp, _⟩
                    · exact absurd e hB0
                    · exact ⟨p, e, hp⟩
                  have hpl : p < l.length := by omega
                  have c2' := HC.out p hpl
                  have CL := Lib.hid (refLess_any l[p] l[k] wr (HX6.out p hpl) (HX6.out k hlt2))
                  have hkp : Heat.keyAt l p = Heat.key l[p] := by unfold Heat.keyAt; rw [List.getD_eq_getElem?_getD, List.getElem?_eq_getElem hpl]; rfl
                  have hkk : Heat.keyAt l k = Heat.key l[k] := by unfold Heat.keyAt; rw [List.getD_eq_getElem?_getD, List.getElem?_eq_getElem hlt2]; rfl
                  have hp0 : 0 ≤ (p : Int) := by omega
                  have hp1 : (p : Int) < (l.length : Int) := by omega
                  cases hls : Heat.less l[p] l[k] with
                  | true =>
                    rw [hls] at CL
                    have HB2 := Lib.hid (HB.out.better hm (by rw [hkp, hkk]; simpa [Heat.less] using hls))
                    clear hu hm hls hkp hkk hB0
                    generalize l[p] = lp at *
                    generalize l[k] = lk at *
                    go_wp2_with (go_at_call 54; ((with_reducible refine CL.out.mono ?_); rintro e1 w' ⟨rfl, rfl⟩))
                    go_round
                    case rel => exact ⟨k + 1, k, by omega, by go_num, rfl, HB2.out⟩
                    case measure => simp [intOf]; omega
                  | false =>
                    rw [hls] at CL
                    have HB2 := Lib.hid (HB.out.stays (by rw [hkp, hkk]; simpa [Heat.less] using hls))
                    clear hu hm hls hkp hkk hB0
                    generalize l[p] = lp at *
                    generalize l[k] = lk at *
                    go_wp2_with (go_at_call 54; ((with_reducible refine CL.out.mono ?_); rintro e1 w' ⟨rfl, rfl⟩))
                    go_round
                    case rel => exact ⟨k + 1, p, by omega, by go_num, rfl, HB2.out⟩
                    case measure => simp [intOf]; omega
        · have hke : k = l.length := by omega
          subst hke
          obtain ⟨q, rfl, hql, hTn⟩ := HTd.out.next hlt HB.out
          have HTn := Lib.hid hTn
          have hm3 : (ints o).length + 1 ≤ maxLen := by unfold maxLen; omega
          have hm4 : ((ints o).length + 1) * 8 ≤ 140737488355328 := by omega
          clear hTn
          go_wp2_with (at_builtin; refine wpList_append_own _ rfl _ _ 41 rfl w.heap.size 3 i0 (.int .i64 0) 1 8 Try.underlying41 hi hz0 hz1 hz2 rfl (by decide) _ _ _ rfl (HOwn.out.alloc _) ⟨wr.heap.size, 0, none⟩ 1 1 [.int .i64 (q : Int)] rfl rfl (one_new _ _ _ _ rfl) (one_int _) hm3 hm4 (base1 hbs _) ?_)
          intro v' w1 hown' hgrow _
          have hb1 : Below w.heap.size w w1 := (hb.alloc hbs _).grown hgrow (base1 hbs _) (fun r hr => (HOwn.out.lt r hr).1)
          have HO : Hid (w1.ownsRow w.heap.size 3 1 v' (ints (o ++ [q])).length (icells (ints (o ++ [q])))) := by
            rw [ints_snoc, icells_snoc, List.length_append]; exact hown'
          clear hown' hgrow
          go_wp2
          go_roundw
          case rel => exact ⟨o ++ [q], by simp; omega, by simp, HTn.out, HO.out, hb1⟩
          case measure => simp [intOf]; omega
    · have HR := Lib.hid (hT.done (by omega))
      have HO := Lib.hid hown
      clear hT hown
      go_wp2
      go_ret
      exact ⟨_, o, rfl, HR.out, HO.out, hb⟩
end H
end Go.Proofs.Ytkbchpbdpkbnjaa
