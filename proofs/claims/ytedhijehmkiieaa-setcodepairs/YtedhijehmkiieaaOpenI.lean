/-
  Slices of numbers that came in, out of the row's reading.
-/
import Derived.Test.YtedhijehmkiieaaBase
import Derived.WalkKit
import Derived.ProofKit
import Derived.OpenShut
import Derived.ShutString
import Derived.ChangeOld
import Derived.Below
import Derived.Deep.Slices
import Derived.Deep.Fields
namespace Go.Proofs.Ytedhijehmkiieaa
open Go.ChangeShapes Go.WideShapes Go.ChangeAt Go.RowKit Go.Deep
namespace Opn
open B
theorem cellsInt : Try.prog.cellsOf 3 = 1 := by kernel_rfl
section
variable {H : Type} {enc : TypeId × Value → H} {W : World} {sp : Nat → Bool} {fuel : Nat}
/-- a slice of one-cell elements -/
theorem row_open {α : Type} [Inhabited α] (V : α → Value) (Q : α → Prop) {t e : TypeId} (ht : Try.prog.underlying t = some (.slice e)) (hc : Try.prog.cellsOf e = 1)
    (inv : ∀ fuel v x, DataW.trod enc Try.prog W 0 sp true fuel e [v] = some x → ∃ a : α, v = V a ∧ Q a) {A : Option Addr} {len cap : Nat} {x : DataW H × List MemPlace}
    (h : DataW.trod enc Try.prog W 0 sp true fuel t [.slice A len cap] = some x) : len ≤ cap ∧ cap ≤ maxLen ∧ ∃ l : List α, l.length = len ∧ At V W A l ∧ ∀ a ∈ l, Q a := by
  rcases open_slice1 ht hc h with ⟨hcs, _⟩ | ⟨a, l, c, m, n, Vf, D, Pl, hcs, hb, hl, hm, hmm, _, hel⟩
  · simp at hcs
    obtain ⟨rfl, rfl, rfl⟩ := hcs
    exact ⟨Nat.le_refl _, Nat.zero_le _, [], rfl, At.nil _ _, fun _ h => by cases h⟩
  · simp at hcs
    obtain ⟨rfl, rfl, rfl⟩ := hcs
    have hlm : len ≤ m := by rw [hmm]; split <;> omega
    refine ⟨hl, hm, ?_⟩
    have hev : ∀ i, ∃ r : α, i < len → W.cell? (a.add i) = some (V r) ∧ Q r := by
      intro i
      by_cases hi : i < len
      · obtain ⟨h1, h2⟩ := hel i (by omega)
        obtain ⟨r, e, hq⟩ := inv _ _ _ h2
        exact ⟨r, fun _ => ⟨by rw [h1, e], hq⟩⟩
      · exact ⟨default, fun h => absurd h hi⟩
    obtain ⟨f, hf⟩ : ∃ f : Nat → α, ∀ i, i < len → W.cell? (a.add i) = some (V (f i)) ∧ Q (f i) := ⟨fun i => Classical.choose (hev i), fun i => Classical.choose_spec (hev i)⟩
    refine ⟨(List.range len).map f, by simp, fun hpos => ?_, fun r hr => ?_⟩
    · simp at hpos
      have h0 := (hf 0 hpos).1
      have hsp : a.spot = none := by have := World.cell?_spot h0; simpa [Addr.add] using this
      obtain ⟨b, off, spot⟩ := a
      simp at hsp
      subst hsp
      have hlt : b < W.heap.size := by
        rcases Nat.lt_or_ge b W.heap.size with h1 | h1
        · exact h1
        · exfalso
          have : W.heap[b]? = none := Array.getElem?_eq_none h1
          simp [World.cell?, Addr.add, this] at h0
      refine ⟨b, off, rfl, hlt, fun i hi => ?_⟩
      simp at hi
      have := (hf i hi).1
      rw [add_plain] at this
      simpa using this
    · obtain ⟨i, hi, rfl⟩ := List.mem_map.1 hr
      exact (hf i (List.mem_range.1 hi)).2
theorem ints_open {A : Option Addr} {len cap : Nat} {x : DataW H × List MemPlace} (h : DataW.trod enc Try.prog W 0 sp true fuel 26 [.slice A len cap] = some x) :
    len ≤ cap ∧ cap ≤ maxLen ∧ ∃ l : List Int, l.length = len ∧ At vInt W A l := by
  obtain ⟨h1, h2, l, h3, h4, _⟩ := row_open vInt (fun _ => True) Try.underlying26 cellsInt (fun fuel v x h => by
    obtain ⟨k, e, _⟩ := DataW.trod_int Try.underlying3 h
    exact ⟨k, by simpa using e, trivial⟩) h
  exact ⟨h1, h2, l, h3, h4⟩
end
end Opn
end Go.Proofs.Ytedhijehmkiieaa
