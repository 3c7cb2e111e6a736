/-
  Programs: what stands of a program that was made just like another one while it is stored into (dowserlaw15.ProgramClones).
-/
import Derived.Test.YtnhgoeoffjcooaaProMut
namespace Go.Proofs.Ytnhgoeoffjcooaa
open Go.RowKit
namespace Pm
open B
set_option linter.unusedVariables false
abbrev lenF (f : F) : Nat := (elF.il f).length
abbrev lenO (o : O) : Nat := (elO.il o).length
structure Jw (Q : P) (W4 : World) (gy : Nat) (vF vE vO : Value) (m : Bool) (Zf : List F) (Ze : List Int) (Zo : List O) (wr : World) : Prop where
  f : RowOwn elF W4.heap.size W4.heap.size 45 wr vF Zf
  e : KL W4.heap.size W4.heap.size wr vE Ze
  o : RowOwn elO W4.heap.size W4.heap.size 42 wr vO Zo
  lf : Zf.map lenF = Q.fs.map lenF
  le : Ze.length = Q.en.length
  lo : Zo.map lenO = Q.ops.map lenO
  r : m = true → (Zf.map F.ret)[0]? = some (-7)
  q : wr.heap[gy]? = some (.cells #[.int .i64 Q.vars, .int .i64 Q.objs, .int .i64 Q.fields, vF, vE, vO] 33)
  b : Below W4.heap.size W4 wr
  n : W4.heap.size ≤ gy
section
variable {Q : P} {W4 wr : World} {gy g c : Nat} {vF vE vO : Value} {m : Bool} {Zf : List F} {Ze : List Int} {Zo : List O}
theorem Jw.nf (h : Jw Q W4 gy vF vE vO m Zf Ze Zo wr) : Zf.length = Q.fs.length := by have := congrArg List.length h.lf; simpa using this
theorem Jw.no (h : Jw Q W4 gy vF vE vO m Zf Ze Zo wr) : Zo.length = Q.ops.length := by have := congrArg List.length h.lo; simpa using this
theorem ne_ty {w : World} {a b : Nat} {cs cs' : Array Value} {t t' : TypeId} {f f' : Nat × Nat} (h : w.heap[a]? = some (.cells cs t f)) (h' : w.heap[b]? = some (.cells cs' t' f')) (ht : t ≠ t') : a ≠ b := by
  rintro rfl
  rw [h] at h'
  injection h' with h'
  injection h' with _ h' _
  exact ht h'
theorem map_set_same {α β : Type} (f : α → β) (l : List α) (i : Nat) (hi : i < l.length) (x : α) (h : f x = f l[i]) : (l.set i x).map f = l.map f := by
  rw [List.map_set, h]
  refine List.ext_getElem (by simp) fun k h1 h2 => ?_
  rw [List.getElem_set]
  split
  · subst_vars; rw [List.getElem_map]
  · rfl
/-- an op's kind is set -/
theorem Jw.kind (h : Jw Q W4 gy vF vE (.slice (some ⟨g, 0, none⟩) Q.ops.length c) m Zf Ze Zo wr) (i : Nat) (hi : i < Q.ops.length) (u : Int) : ∃ Zo', Jw Q W4 gy vF vE (.slice (some ⟨g, 0, none⟩) Q.ops.length c) m Zf Ze Zo' (wr.setCell ⟨g, i * 7, none⟩ (.int .i64 u)) := by
  have hi' : i < Zo.length := by rw [h.no]; exact hi
  obtain ⟨g', cs, e, hM, hg, _⟩ := h.o.loc (Nat.lt_of_le_of_lt (Nat.zero_le _) hi')
  injection e with e
  injection e with e
  subst e
  have hgy : g ≠ gy := ne_ty hg h.q (by decide)
  refine ⟨Zo.set i ⟨u, Zo[i].fn, Zo[i].a, Zo[i].b, Zo[i].c, Zo[i].args, Zo[i].heat⟩, h.f.set (i := i * 7) _ hg hM (by decide) (by decide), h.e.set (i := i * 7) _ hg hM (by decide), ?_, h.lf, h.le, ?_, h.r, blk_other (i := i * 7) h.q (Ne.symm hgy) _, h.b.setCell (p := ⟨g, i * 7, none⟩) hM _, h.n⟩
  · have hok : elO.ok Zo[i] := by
      obtain ⟨ps, e1, _, hx⟩ := h.o
      have hm : Zo[i] ∈ ps.map Prod.snd := by rw [e1]; exact List.getElem_mem hi'
      obtain ⟨x, hx1, hx2⟩ := List.mem_map.1 hm
      rw [← hx2]; exact (hx x hx1).2
    exact h.o.put (by decide) i hi' 0 (by decide) (.int .i64 u) ⟨u, Zo[i].fn, Zo[i].a, Zo[i].b, Zo[i].c, Zo[i].args, Zo[i].heat⟩ (fun v => rfl) rfl hok
  · exact (map_set_same lenO Zo i hi' ⟨u, Zo[i].fn, Zo[i].a, Zo[i].b, Zo[i].c, Zo[i].args, Zo[i].heat⟩ rfl).trans h.lo
/-- what a function answers to is set -/
theorem Jw.ret (h : Jw Q W4 gy (.slice (some ⟨g, 0, none⟩) Q.fs.length c) vE vO m Zf Ze Zo wr) (i : Nat) (hi : i < Q.fs.length) : ∃ Zf', Jw Q W4 gy (.slice (some ⟨g, 0, none⟩) Q.fs.length c) vE vO (m || i == 0) Zf' Ze Zo (wr.setCell ⟨g, i * 2 + 1, none⟩ (.int .i64 (-7))) := by
  have hi' : i < Zf.length := by rw [h.nf]; exact hi
  obtain ⟨g', cs, e, hM, hg, _⟩ := h.f.loc (Nat.lt_of_le_of_lt (Nat.zero_le _) hi')
  injection e with e
  injection e with e
  subst e
  have hgy : g ≠ gy := ne_ty hg h.q (by decide)
  refine ⟨Zf.set i ⟨Zf[i].ps, -7⟩, ?_, h.e.set (i := i * 2 + 1) _ hg hM (by decide), h.o.set (i := i * 2 + 1) _ hg hM (by decide) (by decide), ?_, h.le, h.lo, fun hm => ?_, blk_other (i := i * 2 + 1) h.q (Ne.symm hgy) _, h.b.setCell (p := ⟨g, i * 2 + 1, none⟩) hM _, h.n⟩
  · exact h.f.put (by decide) i hi' 1 (by decide) (.int .i64 (-7)) ⟨Zf[i].ps, -7⟩ (fun v => rfl) rfl trivial
  · exact (map_set_same lenF Zf i hi' ⟨Zf[i].ps, -7⟩ rfl).trans h.lf
  · rw [List.map_set]
    by_cases h0 : i = 0
    · subst h0
      rw [List.getElem?_set_self (by simpa using hi')]
    · have : m = true := by
        cases m with
        | true => rfl
        | false => simp [h0] at hm
      rw [List.getElem?_set_ne h0]
      exact h.r this
/-- a number is set -/
theorem Jw.int {cs : List Value} (h : Jw Q W4 gy vF vE vO m Zf Ze Zo wr) (k : Nat) (hg : wr.heap[g]? = some (.cells cs.toArray 3)) (hM : W4.heap.size ≤ g) (u : Int) : ∃ Zf' Ze' Zo', Jw Q W4 gy vF vE vO m Zf' Ze' Zo' (wr.setCell ⟨g, k, none⟩ (.int .i64 u)) := by
  have hgy : g ≠ gy := ne_ty hg h.q (by decide)
  obtain ⟨Zf', f1, f2, f3⟩ := h.f.ints (k := k) (by decide) slF (fun _ _ _ => rfl) (fun _ _ => rfl) (fun _ _ _ => trivial) F.ret (fun _ _ => rfl) hg u
  obtain ⟨Zo', o1, o2, o3⟩ := h.o.ints (k := k) (by decide) slO (fun _ _ _ => rfl) (fun _ _ => rfl) (fun _ _ q => q) O.kind (fun _ _ => rfl) hg u
  obtain ⟨Ze', e1, e2⟩ := h.e.put g k cs hg u
  exact ⟨Zf', Ze', Zo', f3, e2, o3, f2.trans h.lf, e1.trans h.le, o2.trans h.lo, fun hm => by rw [f1]; exact h.r hm, blk_other (i := k) h.q (Ne.symm hgy) _, h.b.setCell (p := ⟨g, k, none⟩) hM _, h.n⟩
/-- what is read of it -/
theorem Jw.pin {A1 A2 A3 : Option Addr} {c1 c2 c3 : Nat} (h : Jw Q W4 gy (.slice A1 Q.fs.length c1) (.slice A2 Q.en.length c2) (.slice A3 Q.ops.length c3) m Zf Ze Zo wr) : PIn W4.heap.size wr ⟨Q.vars, Q.objs, Q.fields, Zf, Ze, Zo⟩ A1 c1 A2 c2 A3 c3 := by
  obtain ⟨B1, d1, e1, p1, p2, p3, p4⟩ := h.f.at (Nat.le_refl _)
  obtain ⟨B3, d3, e3, q1, q2, q3, q4⟩ := h.o.at (Nat.le_refl _)
  injection e1 with e1 _ e2
  injection e3 with e3 _ e4
  subst e1 e2 e3 e4
  have he := h.e.il
  rw [← h.le] at he
  exact ⟨p1.fs, he, q1.os, p2, q2, ⟨p3, p4⟩, ⟨q3, q4⟩⟩
theorem Jw.sm (h : Jw Q W4 gy vF vE vO m Zf Ze Zo wr) (hs : Sm Q) : Sm ⟨Q.vars, Q.objs, Q.fields, Zf, Ze, Zo⟩ := by
  refine ⟨by show Zf.length ≤ _; rw [h.nf]; exact hs.f, by show Ze.length ≤ _; rw [h.le]; exact hs.e, by show Zo.length ≤ _; rw [h.no]; exact hs.o, fun f hf => ?_, fun o ho => ?_⟩
  · have : lenF f ∈ Q.fs.map lenF := by rw [← h.lf]; exact List.mem_map_of_mem hf
    obtain ⟨x, hx, e⟩ := List.mem_map.1 this
    show lenF f ≤ 2000000
    rw [← e]; exact hs.fp x hx
  · have : lenO o ∈ Q.ops.map lenO := by rw [← h.lo]; exact List.mem_map_of_mem ho
    obtain ⟨x, hx, e⟩ := List.mem_map.1 this
    show lenO o ≤ 2000000
    rw [← e]; exact hs.oa x hx
/-- a slice of numbers that may be stored into -/
theorem KL.loc {M : Nat} {w : World} {A : Option Addr} {n c : Nat} {l : List Int} (h : KL M M w (.slice A n c) l) (hp : 0 < n) : n = l.length ∧ ∃ (b off : Nat) (cs : List Value), A = some ⟨b, off, none⟩ ∧ M ≤ b ∧ w.heap[b]? = some (.cells cs.toArray 3) ∧ ∀ i, i < n → ∃ x : Int, w.cell? ⟨b, off + i, none⟩ = some (.int .i64 x) := by
  obtain ⟨A', c', e, h2, _, _, _, h6⟩ := h
  injection e with e1 e2 e3
  subst e1 e2 e3
  refine ⟨rfl, ?_⟩
  obtain ⟨b, off, e, hl, hc⟩ := h2 hp
  obtain ⟨p1, p2⟩ := h6 _ e
  obtain ⟨_, p3⟩ := p2 hp
  rcases p3 with p3 | ⟨cs, p3⟩
  · exact absurd p3 (by show ¬ b < M; exact Nat.not_lt.mpr p1)
  · exact ⟨b, off, cs.toList, e, p1, p3, fun i hi => ⟨l[i], hc i hi⟩⟩
end
end Pm
end Go.Proofs.Ytnhgoeoffjcooaa
