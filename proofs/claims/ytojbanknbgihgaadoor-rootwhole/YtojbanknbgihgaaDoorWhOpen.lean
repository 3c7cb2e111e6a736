/-
  RootWhole: its arguments read.
-/
import Derived.Test.YtojbanknbgihgaaDoorRefFrame
import Derived.Test.YtojbanknbgihgaaDoorOpen
import Derived.Test.YtojbanknbgihgaaDoorRootWa
namespace Go.Proofs.YtojbanknbgihgaaDoor.rootWhole
open Go.ChangeShapes Go.WideShapes Go.ChangeAt Go.RowKit Go.Deep
open B Dsk Rt
theorem cellsTry : Tryd.prog.cellsOf 44 = 8 := by kernel_rfl
theorem cellsRoot : Tryd.prog.cellsOf 24 = 6 := by kernel_rfl
section
variable {H : Type} {enc : TypeId × Value → H} {W : World} {fuel : Nat}
set_option maxRecDepth 100000 in
theorem try_open {cs : List Value} {x : DataW H × List MemPlace} (h : DataW.trod enc Tryd.prog W 0 (fun _ => true) true fuel 44 cs = some x) :
    ∃ t : T, cs = [.int .u64 (t.r.ep : Int), .int .i64 t.r.half, .int .i64 t.r.page, .int .i64 t.r.next, .int .i64 t.r.count, .int .i64 t.r.height, .int .i64 t.after, .slice t.A t.ch.length t.c] ∧ At vInt W t.A t.ch ∧ t.ch.length ≤ t.c := by
  obtain ⟨xs, q, _, _, hl, hxl, hf⟩ := DataW.trod_struct Tryd.underlying44 h
  rw [cellsTry] at hl
  match cs, hl with
  | [c0, c1, c2, c3, c4, c5, c6, c7], _ =>
    match xs, hxl with
    | [y0, y1, y2], _ =>
      have h0 := hf 0 _ rfl
      have h1 := hf 1 _ rfl
      have h2 := hf 2 _ rfl
      have h0' : DataW.trod enc Tryd.prog W 0 (fun _ => true) true _ 24 (([c0, c1, c2, c3, c4, c5, c6, c7].drop 0).take (Tryd.prog.cellsOf 24)) = some _ := h0
      rw [cellsRoot] at h0'
      obtain ⟨r, hr⟩ := rootRefuses.root_open h0'
      obtain ⟨m, e1', _, _⟩ := DataW.trod_int Tryd.underlying3 h1
      have e1 : ([c0, c1, c2, c3, c4, c5, c6, c7].drop 6).take (Tryd.prog.cellsOf 3) = [.int .i64 m] := e1'
      have h2' : DataW.trod enc Tryd.prog W 0 (fun _ => true) true _ 42 (([c0, c1, c2, c3, c4, c5, c6, c7].drop 7).take (Tryd.prog.cellsOf 42)) = some _ := h2
      rw [cellsInt] at e1
      rw [cellsInts] at h2'
      simp at hr e1 h2'
      obtain ⟨r0, r1, r2, r3, r4, r5⟩ := hr
      have hsl : ∃ A n c, c7 = .slice A n c := by
        rcases open_slice1 Tryd.underlying42 cellsInt h2' with ⟨hcs, _⟩ | ⟨a, l, c, m, n, Vf, D, Pl, hcs, _⟩
        · simp at hcs; exact ⟨_, _, _, hcs⟩
        · simp at hcs; exact ⟨_, _, _, hcs⟩
      obtain ⟨A, nn, c, rfl⟩ := hsl
      obtain ⟨g1, g2, l, g3, g4⟩ := ints_open h2'
      exact ⟨⟨r, m, l, A, c⟩, by rw [r0, r1, r2, r3, r4, r5, e1, ← g3], g4, by rw [g3]; exact g1⟩
theorem trys_open {A : Option Addr} {len cap : Nat} {x : DataW H × List MemPlace} (h : DataW.trod enc Tryd.prog W 0 (fun _ => true) true fuel 38 [.slice A len cap] = some x) :
    len ≤ cap ∧ cap ≤ maxLen ∧ ∃ l : List T, l.length = len ∧ TrysAt W A l := by
  rcases open_slice Tryd.underlying38 h with ⟨hcs, _⟩ | ⟨a, l, c, m, n, D, Pl, hcs, hb, hl, hm, hmm, _, hel⟩
  · simp at hcs
    obtain ⟨rfl, rfl, rfl⟩ := hcs
    exact ⟨Nat.le_refl _, Nat.zero_le _, [], rfl, fun k hk => by cases hk⟩
  · simp at hcs
    obtain ⟨rfl, rfl, rfl⟩ := hcs
    have hlm : len ≤ m := by rw [hmm]; split <;> omega
    refine ⟨hl, hm, ?_⟩
    have hev : ∀ i, ∃ r : T, i < len → (∀ j v, [Value.int .u64 (r.r.ep : Int), .int .i64 r.r.half, .int .i64 r.r.page, .int .i64 r.r.next, .int .i64 r.r.count, .int .i64 r.r.height, .int .i64 r.after, .slice r.A r.ch.length r.c][j]? = some v → W.cell? (a.add (i * 8 + j)) = some v) ∧ At vInt W r.A r.ch ∧ r.ch.length ≤ r.c := by
      intro i
      by_cases hi : i < len
      · obtain ⟨cs', hc, ht⟩ := hel i (by omega)
        obtain ⟨r, rfl, h4⟩ := try_open ht
        rw [cellsTry] at hc
        obtain ⟨_, _, hat⟩ := World.cells?_some hc
        refine ⟨r, fun _ => ⟨fun j v hj => ?_, h4⟩⟩
        have hj8 : j < 8 := by
          rcases Nat.lt_or_ge j 8 with h | h
          · exact h
          · rw [List.getElem?_eq_none (by simpa using h)] at hj; cases hj
        have a0 := hat j hj8
        rw [add_add] at a0
        rw [← hj, a0]
      · exact ⟨⟨R0, 0, [], none, 0⟩, fun h => absurd h hi⟩
    have hall := fun i => Classical.choose_spec (hev i)
    obtain ⟨f, hf⟩ : ∃ f : Nat → T, ∀ i, i < len → (∀ j v, [Value.int .u64 ((f i).r.ep : Int), .int .i64 (f i).r.half, .int .i64 (f i).r.page, .int .i64 (f i).r.next, .int .i64 (f i).r.count, .int .i64 (f i).r.height, .int .i64 (f i).after, .slice (f i).A (f i).ch.length (f i).c][j]? = some v → W.cell? (a.add (i * 8 + j)) = some v) ∧ At vInt W (f i).A (f i).ch ∧ (f i).ch.length ≤ (f i).c := ⟨fun i => Classical.choose (hev i), hall⟩
    clear hev hall
    refine ⟨(List.range len).map f, by simp, fun i hi => ?_⟩
    simp at hi
    have h0 := (hf 0 (by omega)).1 0 _ rfl
    have hsp : a.spot = none := by have := World.cell?_spot h0; simpa [Addr.add] using this
    obtain ⟨b, off, spot⟩ := a
    simp at hsp
    subst hsp
    have hlt : b < W.heap.size := by
      rcases Nat.lt_or_ge b W.heap.size with h1 | h1
      · exact h1
      · exfalso
        have : W.heap[b]? = none := Array.getElem?_eq_none h1
        simp [World.cell?, Addr.add, this] at h0
    obtain ⟨hc, r⟩ := hf i hi
    have hx : ∀ j v, [Value.int .u64 ((f i).r.ep : Int), .int .i64 (f i).r.half, .int .i64 (f i).r.page, .int .i64 (f i).r.next, .int .i64 (f i).r.count, .int .i64 (f i).r.height, .int .i64 (f i).after, .slice (f i).A (f i).ch.length (f i).c][j]? = some v → W.cell? ⟨b, off + (i * 8 + j), none⟩ = some v := fun j v hj => by
      have := hc j v hj
      rw [add_plain] at this
      exact this
    simp only [List.getElem_map, List.getElem_range]
    exact ⟨b, off, rfl, hlt, hx 0 _ rfl, by rw [Nat.add_assoc]; exact hx 1 _ rfl, by rw [Nat.add_assoc]; exact hx 2 _ rfl, by rw [Nat.add_assoc]; exact hx 3 _ rfl, by rw [Nat.add_assoc]; exact hx 4 _ rfl, by rw [Nat.add_assoc]; exact hx 5 _ rfl, by rw [Nat.add_assoc]; exact hx 6 _ rfl, by rw [Nat.add_assoc]; exact hx 7 _ rfl, r⟩
end
end Go.Proofs.YtojbanknbgihgaaDoor.rootWhole
