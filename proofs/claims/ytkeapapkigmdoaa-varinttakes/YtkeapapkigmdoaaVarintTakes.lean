/-
  Proved: for every text s and every list l of parts (their numbers of any size, nil and shared memory let in) the function VarintTakes returns true and leaves its arguments as they were: of any bytes, whatever is asked for is taken as the document says, and the first error stays. Conditions: none.
-/
import Derived.Test.YtkeapapkigmdoaaRows
import Derived.WalkKit
import Derived.ProofKit
import Derived.OpenShut
import Derived.ShutString
import Derived.ChangeOld
import Derived.Below
import Derived.Deep.Slices
import Derived.Deep.Fields
import Derived.Test.YtkeapapkigmdoaaVarLawC
namespace Go.Proofs.Ytkeapapkigmdoaa.varintTakes
open Go.ChangeShapes Go.WideShapes Go.ChangeAt Go.RowKit Go.Deep
open Go.ChangeMaps (open_string shut_string)
set_option linter.unusedVariables false

theorem own : ownKnob Try.prog.godebug = none := by kernel_rfl
theorem laidOut : laidOutB Try.prog = true := by kernel_rfl
theorem cells34 : Try.prog.cellsOf 34 = 3 := by kernel_rfl
theorem cells3 : Try.prog.cellsOf 3 = 1 := by kernel_rfl
theorem cells22 : Try.prog.cellsOf 22 = 1 := by kernel_rfl

/-- one part's three cells -/
theorem part_open {H : Type} {enc : TypeId × Value → H} {W : World} {sp : Nat → Bool} {fuel : Nat} {cs : List Value} {x : DataW H × List MemPlace} (h : DataW.trod enc Try.prog W 0 sp true fuel 34 cs = some x) :
    ∃ k m n : Int, cs = [.int .i64 k, .int .u64 m, .int .i64 n] ∧ (Lit.int .u64 m).wf = true ∧ (Lit.int .i64 n).wf = true := by
  obtain ⟨xs, q, _, _, hl, hxl, hf⟩ := DataW.trod_struct Try.underlying34 h
  rw [cells34] at hl
  match cs, hl with
  | [c0, c1, c2], _ =>
    match xs, hxl with
    | [y0, y1, y2], _ =>
      have h0 := hf 0 _ rfl
      have h1 := hf 1 _ rfl
      have h2 := hf 2 _ rfl
      obtain ⟨k, e0', _, _⟩ := DataW.trod_int Try.underlying3 h0
      obtain ⟨m, e1', _, w1⟩ := DataW.trod_int Try.underlying22 h1
      obtain ⟨n, e2', _, w2⟩ := DataW.trod_int Try.underlying3 h2
      have e0 : ([c0, c1, c2].drop 0).take (Try.prog.cellsOf 3) = [.int .i64 k] := e0'
      have e1 : ([c0, c1, c2].drop 1).take (Try.prog.cellsOf 22) = [.int .u64 m] := e1'
      have e2 : ([c0, c1, c2].drop 2).take (Try.prog.cellsOf 3) = [.int .i64 n] := e2'
      rw [cells3] at e0 e2
      rw [cells22] at e1
      simp at e0 e1 e2
      exact ⟨k, m, n, by rw [e0, e1, e2], w1, w2⟩

theorem parts_open {H : Type} {enc : TypeId × Value → H} {W : World} {fuel : Nat} {A : Option Addr} {len cap : Nat} {x : DataW H × List MemPlace}
    (h : DataW.trod enc Try.prog W 0 (fun _ => true) true fuel 31 [.slice A len cap] = some x) : len ≤ cap ∧ cap ≤ maxLen ∧ ∃ raw, V.RawAt W A len raw := by
  rcases open_slice Try.underlying31 h with ⟨hcs, _⟩ | ⟨a, l, c, m, n, D, Pl, hcs, hb, hl, hm, hmm, _, hel⟩
  · simp at hcs
    obtain ⟨rfl, rfl, rfl⟩ := hcs
    exact ⟨Nat.le_refl _, Nat.zero_le _, fun _ => (0, 0, 0), fun h => absurd h (by omega)⟩
  · simp at hcs
    obtain ⟨rfl, rfl, rfl⟩ := hcs
    refine ⟨hl, hm, ?_⟩
    have hmc : m = cap := by simpa using hmm
    subst hmc
    have hev : ∀ i, ∃ r : Int × Int × Int, i < len → W.cell? (a.add (i * 3)) = some (.int .i64 r.1) ∧ W.cell? (a.add (i * 3 + 1)) = some (.int .u64 r.2.1) ∧ W.cell? (a.add (i * 3 + 2)) = some (.int .i64 r.2.2) ∧
        (Lit.int .u64 r.2.1).wf = true ∧ (Lit.int .i64 r.2.2).wf = true := by
      intro i
      by_cases hi : i < len
      · obtain ⟨cs', hc, ht⟩ := hel i (by omega)
        obtain ⟨k, mm, nn, rfl, w1, w2⟩ := part_open ht
        rw [cells34] at hc
        obtain ⟨_, _, hat⟩ := World.cells?_some hc
        have a0 := hat 0 (by omega)
        have a1 := hat 1 (by omega)
        have a2 := hat 2 (by omega)
        rw [add_add] at a0 a1 a2
        exact ⟨(k, mm, nn), fun _ => ⟨by simpa using a0, by simpa using a1, by simpa using a2, w1, w2⟩⟩
      · exact ⟨(0, 0, 0), fun h => absurd h hi⟩
    obtain ⟨raw, hall⟩ : ∃ raw : Nat → Int × Int × Int, ∀ i, i < len → W.cell? (a.add (i * 3)) = some (.int .i64 (raw i).1) ∧ W.cell? (a.add (i * 3 + 1)) = some (.int .u64 (raw i).2.1) ∧ W.cell? (a.add (i * 3 + 2)) = some (.int .i64 (raw i).2.2) ∧
        (Lit.int .u64 (raw i).2.1).wf = true ∧ (Lit.int .i64 (raw i).2.2).wf = true := ⟨fun i => Classical.choose (hev i), fun i => Classical.choose_spec (hev i)⟩
    clear hev
    refine ⟨raw, fun hpos => ?_⟩
    have h0 := (hall 0 hpos).1
    have hsp : a.spot = none := by have := World.cell?_spot h0; simpa [Addr.add] using this
    obtain ⟨b, off, spot⟩ := a
    simp at hsp
    subst hsp
    have hlt : b < W.heap.size := by
      rcases Nat.lt_or_ge b W.heap.size with h1 | h1
      · exact h1
      · exfalso
        have : W.heap[b]? = none := Array.getElem?_eq_none h1
        simp [World.cell?, Addr.add, this] at h0
    refine ⟨b, off, rfl, hlt, fun i hi => ?_⟩
    obtain ⟨e0, e1, e2, w1, w2⟩ := hall i hi
    rw [add_plain] at e0 e1 e2
    have b1 : 0 ≤ (raw i).2.1 ∧ (raw i).2.1 ≤ 18446744073709551615 := by simpa [Lit.wf, IntKind.min, IntKind.max, IntKind.signed, IntKind.bits] using w1
    have b2 : -9223372036854775808 ≤ (raw i).2.2 ∧ (raw i).2.2 ≤ 9223372036854775807 := by simpa [Lit.wf, IntKind.min, IntKind.max, IntKind.signed, IntKind.bits] using w2
    exact ⟨e0, by rw [Nat.add_assoc]; exact e1, by rw [Nat.add_assoc]; exact e2, ⟨b1.1, by omega⟩, b2.1, b2.2⟩

set_option maxRecDepth 100000 in
theorem lifted (os : Os) (started : os.Started) (H : Type) (enc : TypeId × Value → H) :
    ReturnsInHanded {} Try.checked os 4 .any (Rows.varintTakesSpec.pre6 enc Try.prog Try.f4 Rows.varintTakesRow.domain false) (Rows.varintTakesSpec.post enc Try.prog Try.f4 false true false false) := by
  refine returnsInHanded_of_change (C := Try.checked) own started (by kernel_rfl) Try.func4
    (ChangeSpec.witness6 (enc := enc) (C := Try.checked) false ⟨#[], #[.string ByteArray.empty, .slice none 0 0], []⟩ 8 (by kernel_rfl) (by kernel_rfl) (by kernel_rfl) (by kernel_rfl)) ?_
  intro W base args ds gs before hval0 hW hcnd _
  have hval : ∀ (j : Nat) t v, Try.f4.params[j]? = some t → args[j]? = some v → Value.okWide Try.prog W .any base t v := hval0
  have hW' := hW
  obtain ⟨p, q, hA0, hV, rfl, hfz, hnd⟩ := hW
  have hA : DataW.TrodAll enc Try.prog W 0 (fun _ => true) true Try.f4.params.toList args.toList ds p := hA0
  rw [Try.params4] at hA hval
  obtain ⟨v0, vs0, d0, ds0, p0, q0, hargs, rfl, rfl, h0, r0⟩ := trodAll_cons hA
  obtain ⟨v1, vs1, d1, ds1, p1, q1, rfl, rfl, rfl, h1, r1⟩ := trodAll_cons r0
  obtain ⟨rfl, rfl, rfl⟩ := trodAll_nil r1
  obtain rfl : args = #[v0, v1] := by cases args; simp_all
  obtain ⟨rfl, rfl⟩ := trodVars_none hV
  obtain ⟨a0, rfl, rfl, rfl, w0⟩ := open_string Try.underlying9 (hval 0 9 v0 rfl rfl) h0
  obtain ⟨A, len, cap, rfl⟩ := okWide_slice Try.underlying31 (hval 1 31 v1 rfl rfl)
  have k1 := h1
  have lt1 : ∀ x ∈ p1, x.block < W.heap.size := by obtain ⟨m, hm⟩ := k1; exact DataW.trod_lt m _ _ _ hm
  obtain ⟨fuel, hf⟩ := h1
  obtain ⟨hlc, hcm, raw, hraw⟩ := parts_open (by simpa [Value.cells] using hf)
  clear hA0 hval0
  refine (V.varintTakes_walk a0 A len cap raw W hlc hcm hraw).mono fun e W' ⟨he, bel⟩ => ?_
  subst he
  exact ⟨_, rfl, _, _, _, [], _, [], hW', trodAll_mk1 (shut_bool Try.underlying4 _), (trodAll_cons_mk (shut_string Try.underlying9 w0) (trodAll_cons_mk (Below.trod laidOut (by kernel_rfl) (of_decide_eq_true (by kernel_rfl)) k1 bel lt1) trodAll_mk0)), rfl, bel.frame _, fun h => by cases h⟩

theorem over : Rows.varintTakesRow.holds Try.pinned (OpenSpec.ofChange Rows.varintTakesSpec) :=
  OpenClaim.holds_of_wide 4 Try.f4 rfl rfl rfl rfl rfl rfl rfl ⟨rfl, rfl, rfl, rfl, rfl⟩ rfl rfl rfl rfl rfl (by kernel_rfl) Try.func4 (by kernel_rfl)
    (of_decide_eq_true (by kernel_rfl)) (by unfold Func.isWrapper; first | (rw [if_pos (by decide +kernel)]; kernel_rfl) | (rw [if_neg (by decide +kernel)]; exact ⟨rfl, rfl⟩))
    (fun os started H enc _ => lifted os started H enc)

theorem proved : Rows.VarintTakesSaid :=
  over
end Go.Proofs.Ytkeapapkigmdoaa.varintTakes
