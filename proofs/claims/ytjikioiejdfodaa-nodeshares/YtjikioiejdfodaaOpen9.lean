/-
  A node that came in, out of the row's reading (layer 9).
-/
import Derived.Test.YtjikioiejdfodaaNodeWalk
import Derived.WalkKit
import Derived.ProofKit
import Derived.OpenShut
import Derived.ShutString
import Derived.ChangeOld
import Derived.Below
import Derived.Deep.Slices
import Derived.Deep.Fields
namespace Go.Proofs.Ytjikioiejdfodaa
open Go.ChangeShapes Go.WideShapes Go.ChangeAt Go.RowKit Go.Deep
namespace Nod
open B
theorem cellsInt : Try.prog.cellsOf 3 = 1 := by kernel_rfl
theorem cellsStr : Try.prog.cellsOf 9 = 1 := by kernel_rfl
theorem cellsInts : Try.prog.cellsOf 34 = 1 := by kernel_rfl
theorem cellsStrs : Try.prog.cellsOf 53 = 1 := by kernel_rfl
theorem cellsNode9 : Try.prog.cellsOf 55 = 4 := by kernel_rfl
section
variable {H : Type} {enc : TypeId × Value → H} {W : World} {sp : Nat → Bool} {fuel : Nat}
/-- a slice of one-cell elements -/
theorem row_open {α : Type} [Inhabited α] (V : α → Value) (Q : α → Prop) {t e : TypeId} (ht : Try.prog.underlying t = some (.slice e)) (hc : Try.prog.cellsOf e = 1)
    (inv : ∀ fuel v x, DataW.trod enc Try.prog W 0 sp true fuel e [v] = some x → ∃ a : α, v = V a ∧ Q a) {A : Option Addr} {len cap : Nat} {x : DataW H × List MemPlace}
    (h : DataW.trod enc Try.prog W 0 sp true fuel t [.slice A len cap] = some x) : len ≤ cap ∧ cap ≤ maxLen ∧ ∃ l : List α, l.length = len ∧ At V W A l ∧ ∀ a ∈ l, Q a := by
  rcases open_slice1 ht hc h with ⟨hcs, _⟩ | ⟨a, l, c, m, n, Vf, D, Pl, hcs, hb, hl, hm, hmm, _, hel⟩
  · simp at hcs
    obtain ⟨rfl, rfl, rfl⟩ := hcs
    exact ⟨Nat.le_refl _, Nat.zero_le _, [], rfl, At.nil _ _, fun _ h => by cases h⟩
  · simp at hcs
    obtain ⟨rfl, rfl, rfl⟩ := hcs
    have hlm : len ≤ m := by rw [hmm]; split <;> omega
    refine ⟨hl, hm, ?_⟩
    have hev : ∀ i, ∃ r : α, i < len → W.cell? (a.add i) = some (V r) ∧ Q r := by
      intro i
      by_cases hi : i < len
      · obtain ⟨h1, h2⟩ := hel i (by omega)
        obtain ⟨r, e, hq⟩ := inv _ _ _ h2
        exact ⟨r, fun _ => ⟨by rw [h1, e], hq⟩⟩
      · exact ⟨default, fun h => absurd h hi⟩
    obtain ⟨f, hf⟩ : ∃ f : Nat → α, ∀ i, i < len → W.cell? (a.add i) = some (V (f i)) ∧ Q (f i) := ⟨fun i => Classical.choose (hev i), fun i => Classical.choose_spec (hev i)⟩
    refine ⟨(List.range len).map f, by simp, fun hpos => ?_, fun r hr => ?_⟩
    · simp at hpos
      have h0 := (hf 0 hpos).1
      have hsp : a.spot = none := by have := World.cell?_spot h0; simpa [Addr.add] using this
      obtain ⟨b, off, spot⟩ := a
      simp at hsp
      subst hsp
      have hlt : b < W.heap.size := by
        rcases Nat.lt_or_ge b W.heap.size with h1 | h1
        · exact h1
        · exfalso
          have : W.heap[b]? = none := Array.getElem?_eq_none h1
          simp [World.cell?, Addr.add, this] at h0
      refine ⟨b, off, rfl, hlt, fun i hi => ?_⟩
      simp at hi
      have := (hf i hi).1
      rw [add_plain] at this
      simpa using this
    · obtain ⟨i, hi, rfl⟩ := List.mem_map.1 hr
      exact (hf i (List.mem_range.1 hi)).2
theorem ints_open {A : Option Addr} {len cap : Nat} {x : DataW H × List MemPlace} (h : DataW.trod enc Try.prog W 0 sp true fuel 34 [.slice A len cap] = some x) :
    len ≤ cap ∧ cap ≤ maxLen ∧ ∃ l : List Int, l.length = len ∧ At vInt W A l := by
  obtain ⟨h1, h2, l, h3, h4, _⟩ := row_open vInt (fun _ => True) Try.underlying34 cellsInt (fun fuel v x h => by
    obtain ⟨k, e, _⟩ := DataW.trod_int Try.underlying3 h
    exact ⟨k, by simpa using e, trivial⟩) h
  exact ⟨h1, h2, l, h3, h4⟩
theorem strs_open {A : Option Addr} {len cap : Nat} {x : DataW H × List MemPlace} (h : DataW.trod enc Try.prog W 0 sp true fuel 53 [.slice A len cap] = some x) :
    len ≤ cap ∧ cap ≤ maxLen ∧ ∃ l : List ByteArray, l.length = len ∧ At vStr W A l := by
  obtain ⟨h1, h2, l, h3, h4, _⟩ := row_open vStr (fun _ => True) Try.underlying53 cellsStr (fun fuel v x h => by
    obtain ⟨k, e, _⟩ := DataW.trod_string Try.underlying9 h
    exact ⟨k, by simpa using e, trivial⟩) h
  exact ⟨h1, h2, l, h3, h4⟩
set_option maxRecDepth 100000 in
theorem node9_open {cs : List Value} {x : DataW H × List MemPlace} (h : DataW.trod enc Try.prog W 0 sp true fuel 55 cs = some x) :
    ∃ (n : N) (A1 A2 A3 : Option Addr) (c1 c2 c3 : Nat), cs = [.int .i64 n.kind, .slice A1 n.keys.length c1, .slice A2 n.vals.length c2, .slice A3 n.kids.length c3] ∧ NAt W A1 A2 A3 n ∧ n.keys.length ≤ maxLen ∧ n.vals.length ≤ maxLen ∧ n.kids.length ≤ maxLen := by
  obtain ⟨xs, q, _, _, hl, hxl, hf⟩ := DataW.trod_struct Try.underlying55 h
  rw [cellsNode9] at hl
  match cs, hl with
  | [c0, c1, c2, c3], _ =>
    match xs, hxl with
    | [y0, y1, y2, y3], _ =>
      have h0 := hf 0 _ rfl
      have h1 := hf 1 _ rfl
      have h2 := hf 2 _ rfl
      have h3 := hf 3 _ rfl
      obtain ⟨k, e0', _, _⟩ := DataW.trod_int Try.underlying3 h0
      have e0 : ([c0, c1, c2, c3].drop 0).take (Try.prog.cellsOf 3) = [.int .i64 k] := e0'
      have h1' : DataW.trod enc Try.prog W 0 sp true _ 53 (([c0, c1, c2, c3].drop 1).take (Try.prog.cellsOf 53)) = some _ := h1
      have h2' : DataW.trod enc Try.prog W 0 sp true _ 53 (([c0, c1, c2, c3].drop 2).take (Try.prog.cellsOf 53)) = some _ := h2
      have h3' : DataW.trod enc Try.prog W 0 sp true _ 34 (([c0, c1, c2, c3].drop 3).take (Try.prog.cellsOf 34)) = some _ := h3
      rw [cellsInt] at e0
      rw [cellsStrs] at h1' h2'
      rw [cellsInts] at h3'
      simp at e0 h1' h2' h3'
      have hs1 : ∃ A n c, c1 = .slice A n c := by
        rcases open_slice1 Try.underlying53 cellsStr h1' with ⟨hcs, _⟩ | ⟨a, l, c, m, n, Vf, D, Pl, hcs, _⟩
        · simp at hcs; exact ⟨_, _, _, hcs⟩
        · simp at hcs; exact ⟨_, _, _, hcs⟩
      have hs2 : ∃ A n c, c2 = .slice A n c := by
        rcases open_slice1 Try.underlying53 cellsStr h2' with ⟨hcs, _⟩ | ⟨a, l, c, m, n, Vf, D, Pl, hcs, _⟩
        · simp at hcs; exact ⟨_, _, _, hcs⟩
        · simp at hcs; exact ⟨_, _, _, hcs⟩
      have hs3 : ∃ A n c, c3 = .slice A n c := by
        rcases open_slice1 Try.underlying34 cellsInt h3' with ⟨hcs, _⟩ | ⟨a, l, c, m, n, Vf, D, Pl, hcs, _⟩
        · simp at hcs; exact ⟨_, _, _, hcs⟩
        · simp at hcs; exact ⟨_, _, _, hcs⟩
      obtain ⟨A1, n1, d1, rfl⟩ := hs1
      obtain ⟨A2, n2, d2, rfl⟩ := hs2
      obtain ⟨A3, n3, d3, rfl⟩ := hs3
      obtain ⟨g1, g2, l, g3, g4⟩ := strs_open h1'
      obtain ⟨p1, p2, m, p3, p4⟩ := strs_open h2'
      obtain ⟨r1, r2, c, r3, r4⟩ := ints_open h3'
      exact ⟨⟨k, l, m, c⟩, A1, A2, A3, d1, d2, d3, by rw [e0, ← g3, ← p3, ← r3], ⟨g4, p4, r4⟩, by simp only; omega, by simp only; omega, by simp only; omega⟩
end
end Nod
end Go.Proofs.Ytjikioiejdfodaa
