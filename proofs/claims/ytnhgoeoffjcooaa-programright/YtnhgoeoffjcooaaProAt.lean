/-
  Programs in memory: what reads as a list of numbers, of functions, of ops, as a program, in blocks from 'lo' on.
-/
import Derived.Test.YtnhgoeoffjcooaaBase
import Derived.Test.YtnhgoeoffjcooaaProMath
namespace Go.Proofs.Ytnhgoeoffjcooaa
open Go.RowKit
namespace Pm
open B
set_option linter.unusedVariables false
/-- a slice's value: it reads as a list of numbers -/
def IL (lo : Nat) (w : World) (v : Value) (l : List Int) : Prop := ∃ A c, v = .slice A l.length c ∧ At vInt w A l ∧ (A = none → c = 0) ∧ l.length ≤ c ∧ c ≤ 9223372036854775807 ∧ ∀ a, A = some a → lo ≤ a.block
theorem IL.below {lo : Nat} {w w' : World} {v : Value} {l : List Int} (h : IL lo w v l) (hb : Below w.heap.size w w') : IL lo w' v l := by
  obtain ⟨A, c, h1, h2, h3, h4, h5, h6⟩ := h
  exact ⟨A, c, h1, h2.below hb, h3, h4, h5, h6⟩
theorem IL.lo {lo lo' : Nat} {w : World} {v : Value} {l : List Int} (h : IL lo w v l) (hl : lo' ≤ lo) : IL lo' w v l := by
  obtain ⟨A, c, h1, h2, h3, h4, h5, h6⟩ := h
  exact ⟨A, c, h1, h2, h3, h4, h5, fun a q => Nat.le_trans hl (h6 a q)⟩
theorem IL.nil (lo : Nat) (w : World) : IL lo w (.slice none 0 0) [] := ⟨none, 0, rfl, At.nil _ _, fun _ => rfl, Nat.le_refl _, by omega, fun a h => by cases h⟩
def FsAt (lo : Nat) (w : World) (A : Option Addr) (l : List F) : Prop := 0 < l.length → ∃ b off, A = some ⟨b, off, none⟩ ∧ lo ≤ b ∧ b < w.heap.size ∧
  ∀ i (h : i < l.length), ∃ v, w.cell? ⟨b, off + i * 2, none⟩ = some v ∧ w.cell? ⟨b, off + i * 2 + 1, none⟩ = some (.int .i64 l[i].ret) ∧ IL lo w v l[i].ps
def OsAt (lo : Nat) (w : World) (A : Option Addr) (l : List O) : Prop := 0 < l.length → ∃ b off, A = some ⟨b, off, none⟩ ∧ lo ≤ b ∧ b < w.heap.size ∧
  ∀ i (h : i < l.length), ∃ v, w.cell? ⟨b, off + i * 7, none⟩ = some (.int .i64 l[i].kind) ∧ w.cell? ⟨b, off + i * 7 + 1, none⟩ = some (.int .i64 l[i].fn) ∧ w.cell? ⟨b, off + i * 7 + 2, none⟩ = some (.int .i64 l[i].a) ∧
    w.cell? ⟨b, off + i * 7 + 3, none⟩ = some (.int .i64 l[i].b) ∧ w.cell? ⟨b, off + i * 7 + 4, none⟩ = some (.int .i64 l[i].c) ∧ w.cell? ⟨b, off + i * 7 + 5, none⟩ = some v ∧ w.cell? ⟨b, off + i * 7 + 6, none⟩ = some (.float .f64 l[i].heat) ∧
    IL lo w v l[i].args ∧ l[i].heat < 18446744073709551616
theorem FsAt.below {lo : Nat} {w w' : World} {A : Option Addr} {l : List F} (h : FsAt lo w A l) (hb : Below w.heap.size w w') : FsAt lo w' A l := fun hp => by
  obtain ⟨b, off, e, h1, h2, h3⟩ := h hp
  refine ⟨b, off, e, h1, Nat.lt_of_lt_of_le h2 hb.size, fun i hi => ?_⟩
  obtain ⟨v, a, c, d⟩ := h3 i hi
  exact ⟨v, (hb.cell (p := ⟨b, off + i * 2, none⟩) h2).trans a, (hb.cell (p := ⟨b, off + i * 2 + 1, none⟩) h2).trans c, d.below hb⟩
theorem OsAt.below {lo : Nat} {w w' : World} {A : Option Addr} {l : List O} (h : OsAt lo w A l) (hb : Below w.heap.size w w') : OsAt lo w' A l := fun hp => by
  obtain ⟨b, off, e, h1, h2, h3⟩ := h hp
  refine ⟨b, off, e, h1, Nat.lt_of_lt_of_le h2 hb.size, fun i hi => ?_⟩
  obtain ⟨v, c0, c1, c2, c3, c4, c5, c6, d⟩ := h3 i hi
  have q := fun j => hb.cell (p := ⟨b, j, none⟩) h2
  exact ⟨v, (q _).trans c0, (q _).trans c1, (q _).trans c2, (q _).trans c3, (q _).trans c4, (q _).trans c5, (q _).trans c6, d.1.below hb, d.2⟩
theorem FsAt.lo {lo lo' : Nat} {w : World} {A : Option Addr} {l : List F} (h : FsAt lo w A l) (hl : lo' ≤ lo) : FsAt lo' w A l := fun hp => by
  obtain ⟨b, off, e, h1, h2, h3⟩ := h hp
  refine ⟨b, off, e, Nat.le_trans hl h1, h2, fun i hi => ?_⟩
  obtain ⟨v, a, c, d⟩ := h3 i hi
  exact ⟨v, a, c, d.lo hl⟩
theorem OsAt.lo {lo lo' : Nat} {w : World} {A : Option Addr} {l : List O} (h : OsAt lo w A l) (hl : lo' ≤ lo) : OsAt lo' w A l := fun hp => by
  obtain ⟨b, off, e, h1, h2, h3⟩ := h hp
  refine ⟨b, off, e, Nat.le_trans hl h1, h2, fun i hi => ?_⟩
  obtain ⟨v, c0, c1, c2, c3, c4, c5, c6, d, d2⟩ := h3 i hi
  exact ⟨v, c0, c1, c2, c3, c4, c5, c6, d.lo hl, d2⟩
theorem FsAt.nil (lo : Nat) (w : World) (A : Option Addr) : FsAt lo w A [] := fun h => absurd h (by simp)
theorem OsAt.nil (lo : Nat) (w : World) (A : Option Addr) : OsAt lo w A [] := fun h => absurd h (by simp)
/-- a program's value -/
abbrev pv (p : P) (Af : Option Addr) (cf : Nat) (Ae : Option Addr) (ce : Nat) (Ao : Option Addr) (co : Nat) : Value := .agg #[.int .i64 p.vars, .int .i64 p.objs, .int .i64 p.fields, .slice Af p.fs.length cf, .slice Ae p.en.length ce, .slice Ao p.ops.length co]
structure PIn (lo : Nat) (w : World) (p : P) (Af : Option Addr) (cf : Nat) (Ae : Option Addr) (ce : Nat) (Ao : Option Addr) (co : Nat) : Prop where
  f : FsAt lo w Af p.fs
  e : IL lo w (.slice Ae p.en.length ce) p.en
  o : OsAt lo w Ao p.ops
  fn : Af = none → cf = 0
  on : Ao = none → co = 0
  fc : p.fs.length ≤ cf ∧ cf ≤ 9223372036854775807
  oc : p.ops.length ≤ co ∧ co ≤ 9223372036854775807
theorem PIn.below {lo : Nat} {w w' : World} {p : P} {Af Ae Ao : Option Addr} {cf ce co : Nat} (h : PIn lo w p Af cf Ae ce Ao co) (hb : Below w.heap.size w w') : PIn lo w' p Af cf Ae ce Ao co :=
  ⟨h.f.below hb, h.e.below hb, h.o.below hb, h.fn, h.on, h.fc, h.oc⟩
theorem PIn.lo {lo lo' : Nat} {w : World} {p : P} {Af Ae Ao : Option Addr} {cf ce co : Nat} (h : PIn lo w p Af cf Ae ce Ao co) (hl : lo' ≤ lo) : PIn lo' w p Af cf Ae ce Ao co :=
  ⟨h.f.lo hl, h.e.lo hl, h.o.lo hl, h.fn, h.on, h.fc, h.oc⟩
/-- a value that reads as a program -/
def PR (lo : Nat) (w : World) (v : Value) (p : P) : Prop := ∃ Af cf Ae ce Ao co, v = pv p Af cf Ae ce Ao co ∧ PIn lo w p Af cf Ae ce Ao co
theorem PR.below {lo : Nat} {w w' : World} {v : Value} {p : P} (h : PR lo w v p) (hb : Below w.heap.size w w') : PR lo w' v p := by
  obtain ⟨a, b, c, d, e, f, h1, h2⟩ := h
  exact ⟨a, b, c, d, e, f, h1, h2.below hb⟩
theorem IL.at {lo : Nat} {w : World} {A : Option Addr} {n c : Nat} {l : List Int} (h : IL lo w (.slice A n c) l) : n = l.length ∧ At vInt w A l ∧ (A = none → c = 0) ∧ l.length ≤ c ∧ c ≤ 9223372036854775807 ∧ ∀ a, A = some a → lo ≤ a.block := by
  obtain ⟨A', c', e, h⟩ := h
  injection e with e1 e2 e3
  subst e1 e3
  exact ⟨e2, h⟩
end Pm
end Go.Proofs.Ytnhgoeoffjcooaa
