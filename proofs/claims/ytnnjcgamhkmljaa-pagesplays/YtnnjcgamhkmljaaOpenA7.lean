/-
  Calls of layer 7 that came in a slice, out of the row's reading.
-/
import Derived.Test.YtnnjcgamhkmljaaPagesPl0
import Derived.WalkKit
import Derived.ProofKit
import Derived.OpenShut
import Derived.ShutString
import Derived.ChangeOld
import Derived.Below
import Derived.Deep.Slices
import Derived.Deep.Fields
namespace Go.Proofs.Ytnnjcgamhkmljaa
open Go.ChangeShapes Go.WideShapes Go.ChangeAt Go.RowKit Go.Deep
namespace Pp
open B
theorem cellsInt : Try.prog.cellsOf 3 = 1 := by kernel_rfl
theorem cellsStr : Try.prog.cellsOf 9 = 1 := by kernel_rfl
theorem cellsInts : Try.prog.cellsOf 34 = 1 := by kernel_rfl
theorem cellsAct7 : Try.prog.cellsOf 36 = 5 := by kernel_rfl
section
variable {H : Type} {enc : TypeId × Value → H} {W : World} {sp : Nat → Bool} {fuel : Nat}
/-- a slice of one-cell elements -/
theorem row_open {α : Type} [Inhabited α] (V : α → Value) (Q : α → Prop) {t e : TypeId} (ht : Try.prog.underlying t = some (.slice e)) (hc : Try.prog.cellsOf e = 1)
    (inv : ∀ fuel v x, DataW.trod enc Try.prog W 0 sp true fuel e [v] = some x → ∃ a : α, v = V a ∧ Q a) {A : Option Addr} {len cap : Nat} {x : DataW H × List MemPlace}
    (h : DataW.trod enc Try.prog W 0 sp true fuel t [.slice A len cap] = some x) : len ≤ cap ∧ cap ≤ maxLen ∧ ∃ l : List α, l.length = len ∧ At V W A l ∧ ∀ a ∈ l, Q a := by
  rcases open_slice1 ht hc h with ⟨hcs, _⟩ | ⟨a, l, c, m, n, Vf, D, Pl, hcs, hb, hl, hm, hmm, _, hel⟩
  · simp at hcs
    obtain ⟨rfl, rfl, rfl⟩ := hcs
    exact ⟨Nat.le_refl _, Nat.zero_le _, [], rfl, At.nil _ _, fun _ h => by cases h⟩
  · simp at hcs
    obtain ⟨rfl, rfl, rfl⟩ := hcs
    have hlm : len ≤ m := by rw [hmm]; split <;> omega
    refine ⟨hl, hm, ?_⟩
    have hev : ∀ i, ∃ r : α, i < len → W.cell? (a.add i) = some (V r) ∧ Q r := by
      intro i
      by_cases hi : i < len
      · obtain ⟨h1, h2⟩ := hel i (by omega)
        obtain ⟨r, e, hq⟩ := inv _ _ _ h2
        exact ⟨r, fun _ => ⟨by rw [h1, e], hq⟩⟩
      · exact ⟨default, fun h => absurd h hi⟩
    obtain ⟨f, hf⟩ : ∃ f : Nat → α, ∀ i, i < len → W.cell? (a.add i) = some (V (f i)) ∧ Q (f i) := ⟨fun i => Classical.choose (hev i), fun i => Classical.choose_spec (hev i)⟩
    refine ⟨(List.range len).map f, by simp, fun hpos => ?_, fun r hr => ?_⟩
    · simp at hpos
      have h0 := (hf 0 hpos).1
      have hsp : a.spot = none := by have := World.cell?_spot h0; simpa [Addr.add] using this
      obtain ⟨b, off, spot⟩ := a
      simp at hsp
      subst hsp
      have hlt : b < W.heap.size := by
        rcases Nat.lt_or_ge b W.heap.size with h1 | h1
        · exact h1
        · exfalso
          have : W.heap[b]? = none := Array.getElem?_eq_none h1
          simp [World.cell?, Addr.add, this] at h0
      refine ⟨b, off, rfl, hlt, fun i hi => ?_⟩
      simp at hi
      have := (hf i hi).1
      rw [add_plain] at this
      simpa using this
    · obtain ⟨i, hi, rfl⟩ := List.mem_map.1 hr
      exact (hf i (List.mem_range.1 hi)).2
theorem ints_open {A : Option Addr} {len cap : Nat} {x : DataW H × List MemPlace} (h : DataW.trod enc Try.prog W 0 sp true fuel 34 [.slice A len cap] = some x) :
    len ≤ cap ∧ cap ≤ maxLen ∧ ∃ l : List Int, l.length = len ∧ At vInt W A l := by
  obtain ⟨h1, h2, l, h3, h4, _⟩ := row_open vInt (fun _ => True) Try.underlying34 cellsInt (fun fuel v x h => by
    obtain ⟨k, e, _⟩ := DataW.trod_int Try.underlying3 h
    exact ⟨k, by simpa using e, trivial⟩) h
  exact ⟨h1, h2, l, h3, h4⟩
set_option maxRecDepth 100000 in
theorem act7_open {cs : List Value} {x : DataW H × List MemPlace} (h : DataW.trod enc Try.prog W 0 sp true fuel 36 cs = some x) :
    ∃ a : Ac, cs = [.int .i64 a.kind, .int .i64 a.k, .int .i64 a.n, .string a.s, .slice a.A a.ch.length a.c] ∧ At vInt W a.A a.ch ∧ a.ch.length ≤ a.c ∧ -9223372036854775808 ≤ a.n ∧ a.n ≤ 9223372036854775807 := by
  obtain ⟨xs, q, _, _, hl, hxl, hf⟩ := DataW.trod_struct Try.underlying36 h
  rw [cellsAct7] at hl
  match cs, hl with
  | [c0, c1, c2, c3, c4], _ =>
    match xs, hxl with
    | [y0, y1, y2, y3, y4], _ =>
      have h0 := hf 0 _ rfl
      have h1 := hf 1 _ rfl
      have h2 := hf 2 _ rfl
      have h3 := hf 3 _ rfl
      have h4 := hf 4 _ rfl
      obtain ⟨k, e0', _, _⟩ := DataW.trod_int Try.underlying3 h0
      obtain ⟨m, e1', _, _⟩ := DataW.trod_int Try.underlying3 h1
      obtain ⟨p, e2', _, w1⟩ := DataW.trod_int Try.underlying3 h2
      obtain ⟨n, e3', _, _⟩ := DataW.trod_string Try.underlying9 h3
      have e0 : ([c0, c1, c2, c3, c4].drop 0).take (Try.prog.cellsOf 3) = [.int .i64 k] := e0'
      have e1 : ([c0, c1, c2, c3, c4].drop 1).take (Try.prog.cellsOf 3) = [.int .i64 m] := e1'
      have e2 : ([c0, c1, c2, c3, c4].drop 2).take (Try.prog.cellsOf 3) = [.int .i64 p] := e2'
      have e3 : ([c0, c1, c2, c3, c4].drop 3).take (Try.prog.cellsOf 9) = [.string n] := e3'
      have h4' : DataW.trod enc Try.prog W 0 sp true _ 34 (([c0, c1, c2, c3, c4].drop 4).take (Try.prog.cellsOf 34)) = some _ := h4
      rw [cellsInt] at e0 e1 e2
      rw [cellsStr] at e3
      rw [cellsInts] at h4'
      simp at e0 e1 e2 e3 h4'
      have hsl : ∃ A n c, c4 = .slice A n c := by
        rcases open_slice1 Try.underlying34 cellsInt h4' with ⟨hcs, _⟩ | ⟨a, l, c, m, n, Vf, D, Pl, hcs, _⟩
        · simp at hcs; exact ⟨_, _, _, hcs⟩
        · simp at hcs; exact ⟨_, _, _, hcs⟩
      obtain ⟨A, nn, c, rfl⟩ := hsl
      obtain ⟨g1, g2, l, g3, g4⟩ := ints_open h4'
      have b2 : -9223372036854775808 ≤ p ∧ p ≤ 9223372036854775807 := by simpa [Lit.wf, IntKind.min, IntKind.max, IntKind.signed, IntKind.bits] using w1
      exact ⟨⟨k, m, p, n, l, A, c⟩, by rw [e0, e1, e2, e3, ← g3], g4, by rw [g3]; exact g1, b2.1, b2.2⟩
theorem acts7_open {A : Option Addr} {len cap : Nat} {x : DataW H × List MemPlace} (h : DataW.trod enc Try.prog W 0 sp true fuel 22 [.slice A len cap] = some x) :
    len ≤ cap ∧ cap ≤ maxLen ∧ ∃ l : List Ac, l.length = len ∧ AcIn W A l := by
  rcases open_slice Try.underlying22 h with ⟨hcs, _⟩ | ⟨a, l, c, m, n, D, Pl, hcs, hb, hl, hm, hmm, _, hel⟩
  · simp at hcs
    obtain ⟨rfl, rfl, rfl⟩ := hcs
    exact ⟨Nat.le_refl _, Nat.zero_le _, [], rfl, fun k hk => by cases hk⟩
  · simp at hcs
    obtain ⟨rfl, rfl, rfl⟩ := hcs
    have hlm : len ≤ m := by rw [hmm]; split <;> omega
    refine ⟨hl, hm, ?_⟩
    have hev : ∀ i, ∃ r : Ac, i < len → (∀ j v, [Value.int .i64 r.kind, .int .i64 r.k, .int .i64 r.n, .string r.s, .slice r.A r.ch.length r.c][j]? = some v → W.cell? (a.add (i * 5 + j)) = some v) ∧
        At vInt W r.A r.ch ∧ r.ch.length ≤ r.c ∧ -9223372036854775808 ≤ r.n ∧ r.n ≤ 9223372036854775807 := by
      intro i
      by_cases hi : i < len
      · obtain ⟨cs', hc, ht⟩ := hel i (by omega)
        obtain ⟨r, rfl, h4⟩ := act7_open ht
        rw [cellsAct7] at hc
        obtain ⟨_, _, hat⟩ := World.cells?_some hc
        refine ⟨r, fun _ => ⟨fun j v hj => ?_, h4⟩⟩
        have hj8 : j < 5 := by
          rcases Nat.lt_or_ge j 5 with h | h
          · exact h
          · rw [List.getElem?_eq_none (by simpa using h)] at hj; cases hj
        have a0 := hat j hj8
        rw [add_add] at a0
        rw [← hj, a0]
      · exact ⟨⟨0, 0, 0, ⟨#[]⟩, [], none, 0⟩, fun h => absurd h hi⟩
    have hall := fun i => Classical.choose_spec (hev i)
    obtain ⟨f, hf⟩ : ∃ f : Nat → Ac, ∀ i, i < len → (∀ j v, [Value.int .i64 (f i).kind, .int .i64 (f i).k, .int .i64 (f i).n, .string (f i).s, .slice (f i).A (f i).ch.length (f i).c][j]? = some v → W.cell? (a.add (i * 5 + j)) = some v) ∧
        At vInt W (f i).A (f i).ch ∧ (f i).ch.length ≤ (f i).c ∧ -9223372036854775808 ≤ (f i).n ∧ (f i).n ≤ 9223372036854775807 := ⟨fun i => Classical.choose (hev i), hall⟩
    clear hev hall
    refine ⟨(List.range len).map f, by simp, fun i hi => ?_⟩
    simp at hi
    have h0 := (hf 0 (by omega)).1 0 _ rfl
    have hsp : a.spot = none := by have := World.cell?_spot h0; simpa [Addr.add] using this
    obtain ⟨b, off, spot⟩ := a
    simp at hsp
    subst hsp
    have hlt : b < W.heap.size := by
      rcases Nat.lt_or_ge b W.heap.size with h1 | h1
      · exact h1
      · exfalso
        have : W.heap[b]? = none := Array.getElem?_eq_none h1
        simp [World.cell?, Addr.add, this] at h0
    obtain ⟨hc, r⟩ := hf i hi
    have hx : ∀ j v, [Value.int .i64 (f i).kind, .int .i64 (f i).k, .int .i64 (f i).n, .string (f i).s, .slice (f i).A (f i).ch.length (f i).c][j]? = some v → W.cell? ⟨b, off + (i * 5 + j), none⟩ = some v := fun j v hj => by
      have := hc j v hj
      rw [add_plain] at this
      exact this
    simp only [List.getElem_map, List.getElem_range]
    exact ⟨b, off, rfl, hlt, hx 0 _ rfl, by rw [Nat.add_assoc]; exact hx 1 _ rfl, by rw [Nat.add_assoc]; exact hx 2 _ rfl, by rw [Nat.add_assoc]; exact hx 3 _ rfl, by rw [Nat.add_assoc]; exact hx 4 _ rfl, r⟩
end
end Pp
end Go.Proofs.Ytnnjcgamhkmljaa
