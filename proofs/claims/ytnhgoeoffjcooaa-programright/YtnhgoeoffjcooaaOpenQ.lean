/-
  A program that came in, out of the row's reading (layers 15, 16).
-/
import Derived.Test.YtnhgoeoffjcooaaProAt
import Derived.WalkKit
import Derived.ProofKit
import Derived.OpenShut
import Derived.ShutString
import Derived.ChangeOld
import Derived.Below
import Derived.Deep.Slices
import Derived.Deep.Fields
namespace Go.Proofs.Ytnhgoeoffjcooaa
open Go.ChangeShapes Go.WideShapes Go.ChangeAt Go.RowKit Go.Deep
namespace Pm
open B
theorem cInt : Try.prog.cellsOf 3 = 1 := by kernel_rfl
theorem cF64 : Try.prog.cellsOf 40 = 1 := by kernel_rfl
theorem cInts : Try.prog.cellsOf 23 = 1 := by kernel_rfl
theorem cFuncs : Try.prog.cellsOf 22 = 1 := by kernel_rfl
theorem cOps : Try.prog.cellsOf 24 = 1 := by kernel_rfl
theorem cFunc : Try.prog.cellsOf 63 = 2 := by kernel_rfl
theorem cOp : Try.prog.cellsOf 64 = 7 := by kernel_rfl
theorem cProg : Try.prog.cellsOf 26 = 6 := by kernel_rfl
section
variable {H : Type} {enc : TypeId × Value → H} {W : World} {sp : Nat → Bool} {fuel : Nat}
theorem trod_f64 {t : TypeId} {cs : List Value} {x : DataW H × List MemPlace} (ht : Try.prog.underlying t = some (.float .f64)) (h : DataW.trod enc Try.prog W 0 sp true fuel t cs = some x) : ∃ b, cs = [.float .f64 b] ∧ (Lit.float .f64 b).wf = true := by
  cases fuel with
  | zero => simp [DataW.trod] at h
  | succ n =>
    unfold DataW.trod at h
    rw [ht] at h
    split at h <;> simp_all
/-- a slice of numbers -/
theorem il_open {v : Value} {x : DataW H × List MemPlace} (h : DataW.trod enc Try.prog W 0 sp true fuel 23 [v] = some x) : ∃ l, IL 0 W v l := by
  rcases open_slice1 Try.underlying23 cInt h with ⟨hcs, _⟩ | ⟨a, l, c, m, n, Vf, D, Pl, hcs, hb, hl, hm, hmm, _, hel⟩
  · simp at hcs
    subst hcs
    exact ⟨[], IL.nil _ _⟩
  · simp at hcs
    subst hcs
    have hlm : l ≤ m := by rw [hmm]; split <;> omega
    have hev : ∀ i, ∃ k : Int, i < l → W.cell? (a.add i) = some (.int .i64 k) := by
      intro i
      by_cases hi : i < l
      · obtain ⟨h1, h2⟩ := hel i (by omega)
        obtain ⟨k, e, _⟩ := DataW.trod_int Try.underlying3 h2
        have e' : Vf i = .int .i64 k := by simpa using e
        exact ⟨k, fun _ => by rw [h1, e']⟩
      · exact ⟨0, fun h => absurd h hi⟩
    obtain ⟨f, hf⟩ : ∃ f : Nat → Int, ∀ i, i < l → W.cell? (a.add i) = some (.int .i64 (f i)) := ⟨fun i => Classical.choose (hev i), fun i => Classical.choose_spec (hev i)⟩
    refine ⟨(List.range l).map f, some a, c, by simp, fun hpos => ?_, (fun e => by cases e), by simpa using hl, by unfold maxLen at hm; omega, fun _ _ => Nat.zero_le _⟩
    simp at hpos
    have h0 := hf 0 hpos
    have hsp : a.spot = none := by have := World.cell?_spot h0; simpa [Addr.add] using this
    obtain ⟨b, off, spot⟩ := a
    simp at hsp
    subst hsp
    have hlt : b < W.heap.size := by
      rcases Nat.lt_or_ge b W.heap.size with h1 | h1
      · exact h1
      · exfalso
        have : W.heap[b]? = none := Array.getElem?_eq_none h1
        simp [World.cell?, Addr.add, this] at h0
    refine ⟨b, off, rfl, hlt, fun i hi => ?_⟩
    simp at hi
    have := hf i hi
    rw [add_plain] at this
    simpa using this
set_option maxRecDepth 100000 in
theorem func_open {cs : List Value} {x : DataW H × List MemPlace} (h : DataW.trod enc Try.prog W 0 sp true fuel 63 cs = some x) :
    ∃ (v : Value) (f : F), cs = [v, .int .i64 f.ret] ∧ IL 0 W v f.ps := by
  obtain ⟨xs, q, _, _, hl, hxl, hf⟩ := DataW.trod_struct Try.underlying63 h
  rw [cFunc] at hl
  match cs, hl with
  | [c0, c1], _ =>
    match xs, hxl with
    | [y0, y1], _ =>
      have h0 := hf 0 _ rfl
      have h1 := hf 1 _ rfl
      have g0 : DataW.trod enc Try.prog W 0 sp true _ 23 (([c0, c1].drop 0).take (Try.prog.cellsOf 23)) = some _ := h0
      rw [cInts] at g0
      simp at g0
      obtain ⟨k1, e1', _⟩ := DataW.trod_int Try.underlying3 h1
      have e1 : ([c0, c1].drop 1).take (Try.prog.cellsOf 3) = [.int .i64 k1] := e1'
      rw [cInt] at e1
      simp at e1
      obtain ⟨l, hl⟩ := il_open g0
      exact ⟨c0, ⟨l, k1⟩, by rw [e1], hl⟩
set_option maxRecDepth 100000 in
theorem op_open {cs : List Value} {x : DataW H × List MemPlace} (h : DataW.trod enc Try.prog W 0 sp true fuel 64 cs = some x) :
    ∃ (v : Value) (o : O), cs = [.int .i64 o.kind, .int .i64 o.fn, .int .i64 o.a, .int .i64 o.b, .int .i64 o.c, v, .float .f64 o.heat] ∧ IL 0 W v o.args ∧ o.heat < 18446744073709551616 := by
  obtain ⟨xs, q, _, _, hl, hxl, hf⟩ := DataW.trod_struct Try.underlying64 h
  rw [cOp] at hl
  match cs, hl with
  | [c0, c1, c2, c3, c4, c5, c6], _ =>
    match xs, hxl with
    | [y0, y1, y2, y3, y4, y5, y6], _ =>
      have h0 := hf 0 _ rfl
      have h1 := hf 1 _ rfl
      have h2 := hf 2 _ rfl
      have h3 := hf 3 _ rfl
      have h4 := hf 4 _ rfl
      have h5 := hf 5 _ rfl
      have h6 := hf 6 _ rfl
      obtain ⟨k0, e0', _⟩ := DataW.trod_int Try.underlying3 h0
      have e0 : ([c0, c1, c2, c3, c4, c5, c6].drop 0).take (Try.prog.cellsOf 3) = [.int .i64 k0] := e0'
      rw [cInt] at e0
      simp at e0
      obtain ⟨k1, e1', _⟩ := DataW.trod_int Try.underlying3 h1
      have e1 : ([c0, c1, c2, c3, c4, c5, c6].drop 1).take (Try.prog.cellsOf 3) = [.int .i64 k1] := e1'
      rw [cInt] at e1
      simp at e1
      obtain ⟨k2, e2', _⟩ := DataW.trod_int Try.underlying3 h2
      have e2 : ([c0, c1, c2, c3, c4, c5, c6].drop 2).take (Try.prog.cellsOf 3) = [.int .i64 k2] := e2'
      rw [cInt] at e2
      simp at e2
      obtain ⟨k3, e3', _⟩ := DataW.trod_int Try.underlying3 h3
      have e3 : ([c0, c1, c2, c3, c4, c5, c6].drop 3).take (Try.prog.cellsOf 3) = [.int .i64 k3] := e3'
      rw [cInt] at e3
      simp at e3
      obtain ⟨k4, e4', _⟩ := DataW.trod_int Try.underlying3 h4
      have e4 : ([c0, c1, c2, c3, c4, c5, c6].drop 4).take (Try.prog.cellsOf 3) = [.int .i64 k4] := e4'
      rw [cInt] at e4
      simp at e4
      have g5 : DataW.trod enc Try.prog W 0 sp true _ 23 (([c0, c1, c2, c3, c4, c5, c6].drop 5).take (Try.prog.cellsOf 23)) = some _ := h5
      rw [cInts] at g5
      simp at g5
      obtain ⟨k6, e6', wf6⟩ := trod_f64 Try.underlying40 h6
      have e6 : ([c0, c1, c2, c3, c4, c5, c6].drop 6).take (Try.prog.cellsOf 40) = [.float .f64 k6] := e6'
      rw [cF64] at e6
      simp at e6
      obtain ⟨l, hl⟩ := il_open g5
      exact ⟨c5, ⟨k0, k1, k2, k3, k4, l, k6⟩, by rw [e0, e1, e2, e3, e4, e6], hl, by simpa [Lit.wf] using wf6⟩
theorem funcs_open {v : Value} {x : DataW H × List MemPlace} (h : DataW.trod enc Try.prog W 0 sp true fuel 22 [v] = some x) :
    ∃ (A : Option Addr) (l : List F) (c : Nat), v = .slice A l.length c ∧ FsAt 0 W A l ∧ (A = none → c = 0) ∧ l.length ≤ c ∧ c ≤ 9223372036854775807 := by
  rcases open_slice Try.underlying22 h with ⟨hcs, _⟩ | ⟨a, l, c, m, n, D, Pl, hcs, hb, hl, hm, hmm, _, hel⟩
  · simp at hcs
    subst hcs
    exact ⟨none, [], 0, rfl, FsAt.nil _ _ _, fun _ => rfl, Nat.le_refl _, by omega⟩
  · simp at hcs
    subst hcs
    have hlm : l ≤ m := by rw [hmm]; split <;> omega
    have hev : ∀ i, ∃ r : Value × F, i < l → (∀ j u, [r.1, .int .i64 r.2.ret][j]? = some u → W.cell? (a.add (i * 2 + j)) = some u) ∧ IL 0 W r.1 r.2.ps := by
      intro i
      by_cases hi : i < l
      · obtain ⟨cs', hc, ht⟩ := hel i (by omega)
        obtain ⟨v, f, rfl, hx⟩ := func_open ht
        rw [cFunc] at hc
        obtain ⟨_, _, hat⟩ := World.cells?_some hc
        refine ⟨(v, f), fun _ => ⟨fun j u hj => ?_, hx⟩⟩
        have hj8 : j < 2 := by
          rcases Nat.lt_or_ge j 2 with h | h
          · exact h
          · rw [List.getElem?_eq_none (by simpa using h)] at hj; cases hj
        have a0 := hat j hj8
        rw [add_add] at a0
        rw [← hj, a0]
      · exact ⟨(.slice none 0 0, default), fun h => absurd h hi⟩
    obtain ⟨f, hf⟩ : ∃ f : Nat → Value × F, ∀ i, i < l → (∀ j u, [(f i).1, .int .i64 (f i).2.ret][j]? = some u → W.cell? (a.add (i * 2 + j)) = some u) ∧ IL 0 W (f i).1 (f i).2.ps := ⟨fun i => Classical.choose (hev i), fun i => Classical.choose_spec (hev i)⟩
    clear hev
    refine ⟨some a, (List.range l).map fun i => (f i).2, c, by simp, fun hpos => ?_, (fun e => by cases e), by simpa using hl, by unfold maxLen at hm; omega⟩
    simp at hpos
    have h0 := (hf 0 hpos).1 0 _ rfl
    have hsp : a.spot = none := by have := World.cell?_spot h0; simpa [Addr.add] using this
    obtain ⟨b, off, spot⟩ := a
    simp at hsp
    subst hsp
    have hlt : b < W.heap.size := by
      rcases Nat.lt_or_ge b W.heap.size with h1 | h1
      · exact h1
      · exfalso
        have : W.heap[b]? = none := Array.getElem?_eq_none h1
        simp [World.cell?, Addr.add, this] at h0
    refine ⟨b, off, rfl, Nat.zero_le _, hlt, fun i hi => ?_⟩
    simp at hi
    obtain ⟨hc, r⟩ := hf i hi
    have hx : ∀ j u, [(f i).1, .int .i64 (f i).2.ret][j]? = some u → W.cell? ⟨b, off + i * 2 + j, none⟩ = some u := fun j u hj => by
      have := hc j u hj
      rw [add_plain] at this
      rw [Nat.add_assoc]; exact this
    simp only [List.getElem_map, List.getElem_range]
    exact ⟨(f i).1, hx 0 _ rfl, hx 1 _ rfl, r⟩
theorem ops_open {v : Value} {x : DataW H × List MemPlace} (h : DataW.trod enc Try.prog W 0 sp true fuel 24 [v] = some x) :
    ∃ (A : Option Addr) (l : List O) (c : Nat), v = .slice A l.length c ∧ OsAt 0 W A l ∧ (A = none → c = 0) ∧ l.length ≤ c ∧ c ≤ 9223372036854775807 := by
  rcases open_slice Try.underlying24 h with ⟨hcs, _⟩ | ⟨a, l, c, m, n, D, Pl, hcs, hb, hl, hm, hmm, _, hel⟩
  · simp at hcs
    subst hcs
    exact ⟨none, [], 0, rfl, OsAt.nil _ _ _, fun _ => rfl, Nat.le_refl _, by omega⟩
  · simp at hcs
    subst hcs
    have hlm : l ≤ m := by rw [hmm]; split <;> omega
    have hev : ∀ i, ∃ r : Value × O, i < l → (∀ j u, [.int .i64 r.2.kind, .int .i64 r.2.fn, .int .i64 r.2.a, .int .i64 r.2.b, .int .i64 r.2.c, r.1, .float .f64 r.2.heat][j]? = some u → W.cell? (a.add (i * 7 + j)) = some u) ∧ IL 0 W r.1 r.2.args ∧ r.2.heat < 18446744073709551616 := by
      intro i
      by_cases hi : i < l
      · obtain ⟨cs', hc, ht⟩ := hel i (by omega)
        obtain ⟨v, f, rfl, hx⟩ := op_open ht
        rw [cOp] at hc
        obtain ⟨_, _, hat⟩ := World.cells?_some hc
        refine ⟨(v, f), fun _ => ⟨fun j u hj => ?_, hx⟩⟩
        have hj8 : j < 7 := by
          rcases Nat.lt_or_ge j 7 with h | h
          · exact h
          · rw [List.getElem?_eq_none (by simpa using h)] at hj; cases hj
        have a0 := hat j hj8
        rw [add_add] at a0
        rw [← hj, a0]
      · exact ⟨(.slice none 0 0, default), fun h => absurd h hi⟩
    obtain ⟨f, hf⟩ : ∃ f : Nat → Value × O, ∀ i, i < l → (∀ j u, [.int .i64 (f i).2.kind, .int .i64 (f i).2.fn, .int .i64 (f i).2.a, .int .i64 (f i).2.b, .int .i64 (f i).2.c, (f i).1, .float .f64 (f i).2.heat][j]? = some u → W.cell? (a.add (i * 7 + j)) = some u) ∧ IL 0 W (f i).1 (f i).2.args ∧ (f i).2.heat < 18446744073709551616 := ⟨fun i => Classical.choose (hev i), fun i => Classical.choose_spec (hev i)⟩
    clear hev
    refine ⟨some a, (List.range l).map fun i => (f i).2, c, by simp, fun hpos => ?_, (fun e => by cases e), by simpa using hl, by unfold maxLen at hm; omega⟩
    simp at hpos
    have h0 := (hf 0 hpos).1 0 _ rfl
    have hsp : a.spot = none := by have := World.cell?_spot h0; simpa [Addr.add] using this
    obtain ⟨b, off, spot⟩ := a
    simp at hsp
    subst hsp
    have hlt : b < W.heap.size := by
      rcases Nat.lt_or_ge b W.heap.size with h1 | h1
      · exact h1
      · exfalso
        have : W.heap[b]? = none := Array.getElem?_eq_none h1
        simp [World.cell?, Addr.add, this] at h0
    refine ⟨b, off, rfl, Nat.zero_le _, hlt, fun i hi => ?_⟩
    simp at hi
    obtain ⟨hc, r⟩ := hf i hi
    have hx : ∀ j u, [.int .i64 (f i).2.kind, .int .i64 (f i).2.fn, .int .i64 (f i).2.a, .int .i64 (f i).2.b, .int .i64 (f i).2.c, (f i).1, .float .f64 (f i).2.heat][j]? = some u → W.cell? ⟨b, off + i * 7 + j, none⟩ = some u := fun j u hj => by
      have := hc j u hj
      rw [add_plain] at this
      rw [Nat.add_assoc]; exact this
    simp only [List.getElem_map, List.getElem_range]
    exact ⟨(f i).1, hx 0 _ rfl, hx 1 _ rfl, hx 2 _ rfl, hx 3 _ rfl, hx 4 _ rfl, hx 5 _ rfl, hx 6 _ rfl, r⟩
set_option maxRecDepth 100000 in
theorem prog15_open {cs : List Value} {x : DataW H × List MemPlace} (h : DataW.trod enc Try.prog W 0 sp true fuel 26 cs = some x) :
    ∃ (p : P) (Af : Option Addr) (cf : Nat) (Ae : Option Addr) (ce : Nat) (Ao : Option Addr) (co : Nat), cs = [.int .i64 p.vars, .int .i64 p.objs, .int .i64 p.fields, .slice Af p.fs.length cf, .slice Ae p.en.length ce, .slice Ao p.ops.length co] ∧ PIn 0 W p Af cf Ae ce Ao co := by
  obtain ⟨xs, q, _, _, hl, hxl, hf⟩ := DataW.trod_struct Try.underlying26 h
  rw [cProg] at hl
  match cs, hl with
  | [c0, c1, c2, c3, c4, c5], _ =>
    match xs, hxl with
    | [y0, y1, y2, y3, y4, y5], _ =>
      have h0 := hf 0 _ rfl
      have h1 := hf 1 _ rfl
      have h2 := hf 2 _ rfl
      have h3 := hf 3 _ rfl
      have h4 := hf 4 _ rfl
      have h5 := hf 5 _ rfl
      obtain ⟨k0, e0', _⟩ := DataW.trod_int Try.underlying3 h0
      have e0 : ([c0, c1, c2, c3, c4, c5].drop 0).take (Try.prog.cellsOf 3) = [.int .i64 k0] := e0'
      rw [cInt] at e0
      simp at e0
      obtain ⟨k1, e1', _⟩ := DataW.trod_int Try.underlying3 h1
      have e1 : ([c0, c1, c2, c3, c4, c5].drop 1).take (Try.prog.cellsOf 3) = [.int .i64 k1] := e1'
      rw [cInt] at e1
      simp at e1
      obtain ⟨k2, e2', _⟩ := DataW.trod_int Try.underlying3 h2
      have e2 : ([c0, c1, c2, c3, c4, c5].drop 2).take (Try.prog.cellsOf 3) = [.int .i64 k2] := e2'
      rw [cInt] at e2
      simp at e2
      have g3 : DataW.trod enc Try.prog W 0 sp true _ 22 (([c0, c1, c2, c3, c4, c5].drop 3).take (Try.prog.cellsOf 22)) = some _ := h3
      rw [cFuncs] at g3
      simp at g3
      have g4 : DataW.trod enc Try.prog W 0 sp true _ 23 (([c0, c1, c2, c3, c4, c5].drop 4).take (Try.prog.cellsOf 23)) = some _ := h4
      rw [cInts] at g4
      simp at g4
      have g5 : DataW.trod enc Try.prog W 0 sp true _ 24 (([c0, c1, c2, c3, c4, c5].drop 5).take (Try.prog.cellsOf 24)) = some _ := h5
      rw [cOps] at g5
      simp at g5
      obtain ⟨Af, fs, cf, w3, hF, n3, l3, m3⟩ := funcs_open g3
      obtain ⟨en, hE⟩ := il_open g4
      obtain ⟨Ao, os, co, w5, hO, n5, l5, m5⟩ := ops_open g5
      obtain ⟨Ae, ce, w4, hE2⟩ := id hE
      subst w3 w4 w5
      exact ⟨⟨k0, k1, k2, fs, en, os⟩, Af, cf, Ae, ce, Ao, co, by rw [e0, e1, e2], ⟨hF, hE, hO, n3, n5, ⟨l3, m3⟩, ⟨l5, m5⟩⟩⟩
end
end Pm
end Go.Proofs.Ytnhgoeoffjcooaa
