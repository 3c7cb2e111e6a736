/-
  Pages that came in a slice, out of the row's reading (layer 8).
-/
import Derived.Test.YtgilmcmanomkiaaOpen7
import Derived.Test.YtgilmcmanomkiaaBlobTo
namespace Go.Proofs.Ytgilmcmanomkiaa
open Go.ChangeShapes Go.WideShapes Go.ChangeAt Go.RowKit Go.Deep
namespace Dsk
open B
section
variable {H : Type} {enc : TypeId × Value → H} {W : World} {fuel : Nat}
set_option maxRecDepth 100000 in
theorem pages7_open {A : Option Addr} {len cap : Nat} {x : DataW H × List MemPlace} (h : DataW.trod enc Try.prog W 0 (fun _ => true) true fuel 32 [.slice A len cap] = some x) :
    len ≤ cap ∧ cap ≤ maxLen ∧ ∃ l : List (Int × ByteArray), l.length = len ∧ Bb.PgIn W A l := by
  rcases open_slice Try.underlying32 h with ⟨hcs, _⟩ | ⟨a, l, c, m, n, D, Pl, hcs, hb, hl, hm, hmm, _, hel⟩
  · simp at hcs
    obtain ⟨rfl, rfl, rfl⟩ := hcs
    exact ⟨Nat.le_refl _, Nat.zero_le _, [], rfl, fun k hk => by cases hk⟩
  · simp at hcs
    obtain ⟨rfl, rfl, rfl⟩ := hcs
    have hlm : len ≤ m := by rw [hmm]; split <;> omega
    refine ⟨hl, hm, ?_⟩
    have hev : ∀ i, ∃ r : Int × ByteArray, i < len → ∀ j v, [Value.int .i64 r.1, .string r.2][j]? = some v → W.cell? (a.add (i * 2 + j)) = some v := by
      intro i
      by_cases hi : i < len
      · obtain ⟨cs', hc, ht⟩ := hel i (by omega)
        obtain ⟨k, s, rfl, _, _⟩ := page7_open ht
        rw [cellsPage7] at hc
        obtain ⟨_, _, hat⟩ := World.cells?_some hc
        refine ⟨(k, s), fun _ j v hj => ?_⟩
        have hj8 : j < 2 := by
          rcases Nat.lt_or_ge j 2 with h | h
          · exact h
          · rw [List.getElem?_eq_none (by simpa using h)] at hj; cases hj
        have a0 := hat j hj8
        rw [add_add] at a0
        rw [← hj, a0]
      · exact ⟨(0, ByteArray.empty), fun h => absurd h hi⟩
    have hall := fun i => Classical.choose_spec (hev i)
    obtain ⟨f, hf⟩ : ∃ f : Nat → Int × ByteArray, ∀ i, i < len → ∀ j v, [Value.int .i64 (f i).1, .string (f i).2][j]? = some v → W.cell? (a.add (i * 2 + j)) = some v := ⟨fun i => Classical.choose (hev i), hall⟩
    clear hev hall
    refine ⟨(List.range len).map f, by simp, fun i hi => ?_⟩
    simp at hi
    have h0 := hf 0 (by omega) 0 _ rfl
    have hsp : a.spot = none := by have := World.cell?_spot h0; simpa [Addr.add] using this
    obtain ⟨b, off, spot⟩ := a
    simp at hsp
    subst hsp
    have hlt : b < W.heap.size := by
      rcases Nat.lt_or_ge b W.heap.size with h1 | h1
      · exact h1
      · exfalso
        have : W.heap[b]? = none := Array.getElem?_eq_none h1
        simp [World.cell?, Addr.add, this] at h0
    have hc := hf i hi
    have hx : ∀ j v, [Value.int .i64 (f i).1, .string (f i).2][j]? = some v → W.cell? ⟨b, off + (i * 2 + j), none⟩ = some v := fun j v hj => by
      have := hc j v hj
      rw [add_plain] at this
      exact this
    simp only [List.getElem_map, List.getElem_range]
    exact ⟨b, off, rfl, hlt, hx 0 _ rfl, by rw [Nat.add_assoc]; exact hx 1 _ rfl⟩
end
end Dsk
end Go.Proofs.Ytgilmcmanomkiaa
