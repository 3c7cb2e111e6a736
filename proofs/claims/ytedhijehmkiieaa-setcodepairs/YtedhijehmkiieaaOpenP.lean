/-
  Slices of pairs that came in, out of the row's reading.
-/
import Derived.Test.YtedhijehmkiieaaOpenI
import Derived.Test.YtedhijehmkiieaaSetPr
namespace Go.Proofs.Ytedhijehmkiieaa
open Go.ChangeShapes Go.WideShapes Go.ChangeAt Go.RowKit Go.Deep
namespace Opn
open B
theorem cellsArr2 : Try.prog.cellsOf 116 = 2 := by kernel_rfl
section
variable {H : Type} {enc : TypeId × Value → H} {W : World} {sp : Nat → Bool} {fuel : Nat}
set_option maxRecDepth 100000 in
theorem arr2_open {cs : List Value} {x : DataW H × List MemPlace} (h : DataW.trod enc Try.prog W 0 sp true fuel 116 cs = some x) : ∃ p : Int × Int, cs = [.int .i64 p.1, .int .i64 p.2] := by
  obtain ⟨xs, q, _, _, hl, hxl, hf⟩ := DataW.trod_array Try.underlying116 h
  rw [cellsArr2] at hl
  match cs, hl with
  | [c0, c1], _ =>
    match xs, hxl with
    | [y0, y1], _ =>
      have h0 := hf 0 (by decide)
      have h1 := hf 1 (by decide)
      obtain ⟨k, e0', _, _⟩ := DataW.trod_int Try.underlying3 h0
      obtain ⟨m, e1', _, _⟩ := DataW.trod_int Try.underlying3 h1
      rw [cellsInt] at e0' e1'
      simp at e0' e1'
      exact ⟨(k, m), by rw [e0', e1']⟩
theorem pairs_open {A : Option Addr} {len cap : Nat} {x : DataW H × List MemPlace} (h : DataW.trod enc Try.prog W 0 sp true fuel 66 [.slice A len cap] = some x) :
    len ≤ cap ∧ cap ≤ maxLen ∧ ∃ l : List (Int × Int), l.length = len ∧ Sc.PrR W A l := by
  rcases open_slice Try.underlying66 h with ⟨hcs, _⟩ | ⟨a, l, c, m, n, D, Pl, hcs, hb, hl, hm, hmm, _, hel⟩
  · simp at hcs
    obtain ⟨rfl, rfl, rfl⟩ := hcs
    exact ⟨Nat.le_refl _, Nat.zero_le _, [], rfl, Sc.PrR.nil _ _⟩
  · simp at hcs
    obtain ⟨rfl, rfl, rfl⟩ := hcs
    have hlm : len ≤ m := by rw [hmm]; split <;> omega
    refine ⟨hl, hm, ?_⟩
    have hev : ∀ i, ∃ r : Int × Int, i < len → (∀ j v, [Value.int .i64 r.1, .int .i64 r.2][j]? = some v → W.cell? (a.add (i * 2 + j)) = some v) := by
      intro i
      by_cases hi : i < len
      · obtain ⟨cs', hc, ht⟩ := hel i (by omega)
        obtain ⟨r, rfl⟩ := arr2_open ht
        rw [cellsArr2] at hc
        obtain ⟨_, _, hat⟩ := World.cells?_some hc
        refine ⟨r, fun _ j v hj => ?_⟩
        have hj8 : j < 2 := by
          rcases Nat.lt_or_ge j 2 with h | h
          · exact h
          · rw [List.getElem?_eq_none (by simpa using h)] at hj; cases hj
        have a0 := hat j hj8
        rw [add_add] at a0
        rw [← hj, a0]
      · exact ⟨(0, 0), fun h => absurd h hi⟩
    obtain ⟨f, hf⟩ : ∃ f : Nat → Int × Int, ∀ i, i < len → (∀ j v, [Value.int .i64 (f i).1, .int .i64 (f i).2][j]? = some v → W.cell? (a.add (i * 2 + j)) = some v) := ⟨fun i => Classical.choose (hev i), fun i => Classical.choose_spec (hev i)⟩
    clear hev
    refine ⟨(List.range len).map f, by simp, fun hpos => ?_⟩
    simp at hpos
    have h0 := (hf 0 hpos) 0 _ rfl
    have hsp : a.spot = none := by have := World.cell?_spot h0; simpa [Addr.add] using this
    obtain ⟨b, off, spot⟩ := a
    simp at hsp
    subst hsp
    have hlt : b < W.heap.size := by
      rcases Nat.lt_or_ge b W.heap.size with h1 | h1
      · exact h1
      · exfalso
        have : W.heap[b]? = none := Array.getElem?_eq_none h1
        simp [World.cell?, Addr.add, this] at h0
    refine ⟨b, off, rfl, hlt, fun i hi => ?_⟩
    simp at hi
    have hc := hf i hi
    have hx : ∀ j v, [Value.int .i64 (f i).1, .int .i64 (f i).2][j]? = some v → W.cell? ⟨b, off + (i * 2 + j), none⟩ = some v := fun j v hj => by
      have := hc j v hj
      rw [add_plain] at this
      exact this
    simp only [List.getElem_map, List.getElem_range]
    exact ⟨hx 0 _ rfl, by rw [Nat.add_assoc]; exact hx 1 _ rfl⟩
end
end Opn
end Go.Proofs.Ytedhijehmkiieaa
