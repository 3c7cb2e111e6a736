/-
  Lists and calls that came in, out of the row's reading.
-/
import Derived.Test.YtojbanknbgihgaaDiskLaw
import Derived.WalkKit
import Derived.ProofKit
import Derived.OpenShut
import Derived.ShutString
import Derived.ChangeOld
import Derived.Below
import Derived.Deep.Slices
import Derived.Deep.Fields
namespace Go.Proofs.Ytojbanknbgihgaa
open Go.ChangeShapes Go.WideShapes Go.ChangeAt Go.RowKit Go.Deep
namespace Dsk
open B
theorem cellsInt : Try.prog.cellsOf 3 = 1 := by kernel_rfl
theorem cellsStr : Try.prog.cellsOf 9 = 1 := by kernel_rfl
theorem cellsBool : Try.prog.cellsOf 4 = 1 := by kernel_rfl
theorem cellsInts : Try.prog.cellsOf 27 = 1 := by kernel_rfl
theorem cellsAct : Try.prog.cellsOf 32 = 4 := by kernel_rfl

section
variable {H : Type} {enc : TypeId × Value → H} {W : World} {sp : Nat → Bool} {fuel : Nat}

/-- a slice of one-cell elements -/
theorem row_open {α : Type} [Inhabited α] (V : α → Value) (Q : α → Prop) {t e : TypeId} (ht : Try.prog.underlying t = some (.slice e)) (hc : Try.prog.cellsOf e = 1)
    (inv : ∀ fuel v x, DataW.trod enc Try.prog W 0 sp true fuel e [v] = some x → ∃ a : α, v = V a ∧ Q a) {A : Option Addr} {len cap : Nat} {x : DataW H × List MemPlace}
    (h : DataW.trod enc Try.prog W 0 sp true fuel t [.slice A len cap] = some x) : len ≤ cap ∧ cap ≤ maxLen ∧ ∃ l : List α, l.length = len ∧ At V W A l ∧ ∀ a ∈ l, Q a := by
  rcases open_slice1 ht hc h with ⟨hcs, _⟩ | ⟨a, l, c, m, n, Vf, D, Pl, hcs, hb, hl, hm, hmm, _, hel⟩
  · simp at hcs
    obtain ⟨rfl, rfl, rfl⟩ := hcs
    exact ⟨Nat.le_refl _, Nat.zero_le _, [], rfl, At.nil _ _, fun _ h => by cases h⟩
  · simp at hcs
    obtain ⟨rfl, rfl, rfl⟩ := hcs
    have hlm : len ≤ m := by rw [hmm]; split <;> omega
    refine ⟨hl, hm, ?_⟩
    have hev : ∀ i, ∃ r : α, i < len → W.cell? (a.add i) = some (V r) ∧ Q r := by
      intro i
      by_cases hi : i < len
      · obtain ⟨h1, h2⟩ := hel i (by omega)
        obtain ⟨r, e, hq⟩ := inv _ _ _ h2
        exact ⟨r, fun _ => ⟨by rw [h1, e], hq⟩⟩
      · exact ⟨default, fun h => absurd h hi⟩
    obtain ⟨f, hf⟩ : ∃ f : Nat → α, ∀ i, i < len → W.cell? (a.add i) = some (V (f i)) ∧ Q (f i) := ⟨fun i => Classical.choose (hev i), fun i => Classical.choose_spec (hev i)⟩
    refine ⟨(List.range len).map f, by simp, fun hpos => ?_, fun r hr => ?_⟩
    · simp at hpos
      have h0 := (hf 0 hpos).1
      have hsp : a.spot = none := by have := World.cell?_spot h0; simpa [Addr.add] using this
      obtain ⟨b, off, spot⟩ := a
      simp at hsp
      subst hsp
      have hlt : b < W.heap.size := by
        rcases Nat.lt_or_ge b W.heap.size with h1 | h1
        · exact h1
        · exfalso
          have : W.heap[b]? = none := Array.getElem?_eq_none h1
          simp [World.cell?, Addr.add, this] at h0
      refine ⟨b, off, rfl, hlt, fun i hi => ?_⟩
      simp at hi
      have := (hf i hi).1
      rw [add_plain] at this
      simpa using this
    · obtain ⟨i, hi, rfl⟩ := List.mem_map.1 hr
      exact (hf i (List.mem_range.1 hi)).2
theorem ints_open {A : Option Addr} {len cap : Nat} {x : DataW H × List MemPlace} (h : DataW.trod enc Try.prog W 0 sp true fuel 27 [.slice A len cap] = some x) :
    len ≤ cap ∧ cap ≤ maxLen ∧ ∃ l : List Int, l.length = len ∧ At vInt W A l := by
  obtain ⟨h1, h2, l, h3, h4, _⟩ := row_open vInt (fun _ => True) Try.underlying27 cellsInt (fun fuel v x h => by
    obtain ⟨k, e, _⟩ := DataW.trod_int Try.underlying3 h
    exact ⟨k, by simpa using e, trivial⟩) h
  exact ⟨h1, h2, l, h3, h4⟩
theorem strs_open {A : Option Addr} {len cap : Nat} {x : DataW H × List MemPlace} (h : DataW.trod enc Try.prog W 0 sp true fuel 26 [.slice A len cap] = some x) :
    len ≤ cap ∧ cap ≤ maxLen ∧ ∃ l : List ByteArray, l.length = len ∧ At vStr W A l := by
  obtain ⟨h1, h2, l, h3, h4, _⟩ := row_open vStr (fun _ => True) Try.underlying26 cellsStr (fun fuel v x h => by
    obtain ⟨k, e, _⟩ := DataW.trod_string Try.underlying9 h
    exact ⟨k, by simpa using e, trivial⟩) h
  exact ⟨h1, h2, l, h3, h4⟩
theorem bools_open {A : Option Addr} {len cap : Nat} {x : DataW H × List MemPlace} (h : DataW.trod enc Try.prog W 0 sp true fuel 47 [.slice A len cap] = some x) :
    len ≤ cap ∧ cap ≤ maxLen ∧ ∃ l : List Bool, l.length = len ∧ At Value.bool W A l := by
  obtain ⟨h1, h2, l, h3, h4, _⟩ := row_open Value.bool (fun _ => True) Try.underlying47 cellsBool (fun fuel v x h => by
    obtain ⟨k, e, _⟩ := DataW.trod_bool Try.underlying4 h
    exact ⟨k, by simpa using e, trivial⟩) h
  exact ⟨h1, h2, l, h3, h4⟩

set_option maxRecDepth 100000 in
/-- one call's four cells -/
theorem act_open {cs : List Value} {x : DataW H × List MemPlace} (h : DataW.trod enc Try.prog W 0 sp true fuel 32 cs = some x) :
    ∃ a : Act, cs = [.int .i64 a.kind, .int .i64 a.i, .string a.s, .slice a.A a.ch.length a.c] ∧ At vInt W a.A a.ch ∧ a.ch.length ≤ a.c ∧ -9223372036854775808 ≤ a.i ∧ a.i ≤ 9223372036854775807 := by
  obtain ⟨xs, q, _, _, hl, hxl, hf⟩ := DataW.trod_struct Try.underlying32 h
  rw [cellsAct] at hl
  match cs, hl with
  | [c0, c1, c2, c3], _ =>
    match xs, hxl with
    | [y0, y1, y2, y3], _ =>
      have h0 := hf 0 _ rfl
      have h1 := hf 1 _ rfl
      have h2 := hf 2 _ rfl
      have h3 := hf 3 _ rfl
      obtain ⟨k, e0', _, _⟩ := DataW.trod_int Try.underlying3 h0
      obtain ⟨m, e1', _, w1⟩ := DataW.trod_int Try.underlying3 h1
      obtain ⟨n, e2', _, _⟩ := DataW.trod_string Try.underlying9 h2
      have e0 : ([c0, c1, c2, c3].drop 0).take (Try.prog.cellsOf 3) = [.int .i64 k] := e0'
      have e1 : ([c0, c1, c2, c3].drop 1).take (Try.prog.cellsOf 3) = [.int .i64 m] := e1'
      have e2 : ([c0, c1, c2, c3].drop 2).take (Try.prog.cellsOf 9) = [.string n] := e2'
      have h3' : DataW.trod enc Try.prog W 0 sp true _ 27 (([c0, c1, c2, c3].drop 3).take (Try.prog.cellsOf 27)) = some _ := h3
      rw [cellsInt] at e0 e1
      rw [cellsStr] at e2
      rw [cellsInts] at h3'
      simp at e0 e1 e2 h3'
      have hsl : ∃ A n c, c3 = .slice A n c := by
        rcases open_slice1 Try.underlying27 cellsInt h3' with ⟨hcs, _⟩ | ⟨a, l, c, m, n, Vf, D, Pl, hcs, _⟩
        · simp at hcs; exact ⟨_, _, _, hcs⟩
        · simp at hcs; exact ⟨_, _, _, hcs⟩
      obtain ⟨A, nn, c, rfl⟩ := hsl
      obtain ⟨g1, g2, l, g3, g4⟩ := ints_open h3'
      have b2 : -9223372036854775808 ≤ m ∧ m ≤ 9223372036854775807 := by simpa [Lit.wf, IntKind.min, IntKind.max, IntKind.signed, IntKind.bits] using w1
      exact ⟨⟨k, m, n, l, A, c⟩, by rw [e0, e1, e2, ← g3], g4, by rw [g3]; exact g1, b2.1, b2.2⟩
theorem acts_open {A : Option Addr} {len cap : Nat} {x : DataW H × List MemPlace} (h : DataW.trod enc Try.prog W 0 sp true fuel 22 [.slice A len cap] = some x) :
    len ≤ cap ∧ cap ≤ maxLen ∧ ∃ l : List Act, l.length = len ∧ ActsAt W A l := by
  rcases open_slice Try.underlying22 h with ⟨hcs, _⟩ | ⟨a, l, c, m, n, D, Pl, hcs, hb, hl, hm, hmm, _, hel⟩
  · simp at hcs
    obtain ⟨rfl, rfl, rfl⟩ := hcs
    exact ⟨Nat.le_refl _, Nat.zero_le _, [], rfl, fun k hk => by cases hk⟩
  · simp at hcs
    obtain ⟨rfl, rfl, rfl⟩ := hcs
    have hlm : len ≤ m := by rw [hmm]; split <;> omega
    refine ⟨hl, hm, ?_⟩
    have hev : ∀ i, ∃ r : Act, i < len → (W.cell? (a.add (i * 4)) = some (.int .i64 r.kind) ∧ W.cell? (a.add (i * 4 + 1)) = some (.int .i64 r.i) ∧ W.cell? (a.add (i * 4 + 2)) = some (.string r.s) ∧ W.cell? (a.add (i * 4 + 3)) = some (.slice r.A r.ch.length r.c)) ∧
        At vInt W r.A r.ch ∧ r.ch.length ≤ r.c ∧ -9223372036854775808 ≤ r.i ∧ r.i ≤ 9223372036854775807 := by
      intro i
      by_cases hi : i < len
      · obtain ⟨cs', hc, ht⟩ := hel i (by omega)
        obtain ⟨r, rfl, h4⟩ := act_open ht
        rw [cellsAct] at hc
        obtain ⟨_, _, hat⟩ := World.cells?_some hc
        have a0 := hat 0 (by omega)
        have a1 := hat 1 (by omega)
        have a2 := hat 2 (by omega)
        have a3 := hat 3 (by omega)
        rw [add_add] at a0 a1 a2 a3
        exact ⟨r, fun _ => ⟨⟨by simpa using a0, by simpa using a1, by simpa using a2, by simpa using a3⟩, h4⟩⟩
      · exact ⟨⟨0, 0, ⟨#[]⟩, [], none, 0⟩, fun h => absurd h hi⟩
    have hall := fun i => Classical.choose_spec (hev i)
    obtain ⟨f, hf⟩ : ∃ f : Nat → Act, ∀ i, i < len → (W.cell? (a.add (i * 4)) = some (.int .i64 (f i).kind) ∧ W.cell? (a.add (i * 4 + 1)) = some (.int .i64 (f i).i) ∧ W.cell? (a.add (i * 4 + 2)) = some (.string (f i).s) ∧ W.cell? (a.add (i * 4 + 3)) = some (.slice (f i).A (f i).ch.length (f i).c)) ∧
        At vInt W (f i).A (f i).ch ∧ (f i).ch.length ≤ (f i).c ∧ -9223372036854775808 ≤ (f i).i ∧ (f i).i ≤ 9223372036854775807 := ⟨fun i => Classical.choose (hev i), hall⟩
    clear hev hall
    refine ⟨(List.range len).map f, by simp, fun i hi => ?_⟩
    simp at hi
    have h0 := (hf 0 (by omega)).1.1
    have hsp : a.spot = none := by have := World.cell?_spot h0; simpa [Addr.add] using this
    obtain ⟨b, off, spot⟩ := a
    simp at hsp
    subst hsp
    have hlt : b < W.heap.size := by
      rcases Nat.lt_or_ge b W.heap.size with h1 | h1
      · exact h1
      · exfalso
        have : W.heap[b]? = none := Array.getElem?_eq_none h1
        simp [World.cell?, Addr.add, this] at h0
    obtain ⟨⟨e0, e1, e2, e3⟩, r⟩ := hf i hi
    rw [add_plain] at e0 e1 e2 e3
    simp only [List.getElem_map, List.getElem_range]
    exact ⟨b, off, rfl, hlt, e0, by rw [Nat.add_assoc]; exact e1, by rw [Nat.add_assoc]; exact e2, by rw [Nat.add_assoc]; exact e3, r⟩
end
end Dsk
end Go.Proofs.Ytojbanknbgihgaa
