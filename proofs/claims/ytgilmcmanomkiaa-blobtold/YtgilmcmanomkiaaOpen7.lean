/-
  Pages and calls that came in, out of the row's reading (layer 7).
-/
import Derived.Test.YtgilmcmanomkiaaOpen
namespace Go.Proofs.Ytgilmcmanomkiaa
open Go.ChangeShapes Go.WideShapes Go.ChangeAt Go.RowKit Go.Deep
namespace Dsk
open B
theorem cellsPage7 : Try.prog.cellsOf 48 = 2 := by kernel_rfl
section
variable {H : Type} {enc : TypeId × Value → H} {W : World} {sp : Nat → Bool} {fuel : Nat}
set_option maxRecDepth 100000 in
theorem page7_open {cs : List Value} {x : DataW H × List MemPlace} (h : DataW.trod enc Try.prog W 0 sp true fuel 48 cs = some x) :
    ∃ (k : Int) (s : ByteArray), cs = [.int .i64 k, .string s] ∧ -9223372036854775808 ≤ k ∧ k ≤ 9223372036854775807 := by
  obtain ⟨xs, q, _, _, hl, hxl, hf⟩ := DataW.trod_struct Try.underlying48 h
  rw [cellsPage7] at hl
  match cs, hl with
  | [c0, c1], _ =>
    match xs, hxl with
    | [y0, y1], _ =>
      have h0 := hf 0 _ rfl
      have h1 := hf 1 _ rfl
      obtain ⟨k, e0', _, w0⟩ := DataW.trod_int Try.underlying3 h0
      obtain ⟨n, e1', _, _⟩ := DataW.trod_string Try.underlying9 h1
      have e0 : ([c0, c1].drop 0).take (Try.prog.cellsOf 3) = [.int .i64 k] := e0'
      have e1 : ([c0, c1].drop 1).take (Try.prog.cellsOf 9) = [.string n] := e1'
      rw [cellsInt] at e0
      rw [cellsStr] at e1
      simp at e0 e1
      have b0 : -9223372036854775808 ≤ k ∧ k ≤ 9223372036854775807 := by simpa [Lit.wf, IntKind.min, IntKind.max, IntKind.signed, IntKind.bits] using w0
      exact ⟨k, n, by rw [e0, e1], b0.1, b0.2⟩
end
end Dsk
end Go.Proofs.Ytgilmcmanomkiaa
