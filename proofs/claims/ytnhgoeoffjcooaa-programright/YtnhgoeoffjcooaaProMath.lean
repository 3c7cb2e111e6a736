/-
  Programs (layers 15, 16) as plain mathematics: which may be.
-/
import Derived.Test.YtnhgoeoffjcooaaHeatMath
namespace Go.Proofs.Ytnhgoeoffjcooaa
namespace Pm
structure F where
  ps : List Int
  ret : Int
structure O where
  kind : Int
  fn : Int
  a : Int
  b : Int
  c : Int
  args : List Int
  heat : Nat
structure P where
  vars : Int
  objs : Int
  fields : Int
  fs : List F
  en : List Int
  ops : List O
instance : Inhabited F := ⟨⟨[], 0⟩⟩
instance : Inhabited O := ⟨⟨0, 0, 0, 0, 0, [], 0⟩⟩
/-- does a list rise? -/
def rises : List Int → Bool
  | [] => true
  | [_] => true
  | x :: y :: l => decide (x < y) && rises (y :: l)
theorem rises_drop (l : List Int) (k : Nat) (h : k + 1 < l.length) : rises (l.drop k) = (decide (l[k] < l[k + 1]) && rises (l.drop (k + 1))) := by
  rw [List.drop_eq_getElem_cons (show k < l.length by omega), List.drop_eq_getElem_cons h, rises]
theorem rises_end (l : List Int) (k : Nat) (h : l.length ≤ k + 1) : rises (l.drop k) = true := by
  rcases Nat.lt_or_ge k l.length with h1 | h1
  · rw [List.drop_eq_getElem_cons h1, List.drop_eq_nil_of_le (by omega)]; rfl
  · rw [List.drop_eq_nil_of_le h1]; rfl
/-- a number from 0 on, less than n -/
def inB (n x : Int) : Bool := decide (0 ≤ x) && decide (x < n)
def orN (n x : Int) : Bool := decide (x = -1) || inB n x
def bare (o : O) : Bool := decide ((o.args.length : Int) = 0) && decide (((Heat.bitsN o.heat : Nat) : Int) = 0)
def okF (p : P) (f : F) : Bool := f.ps.all (inB p.vars) && orN p.vars f.ret
def okK (p : P) (o : O) : Bool :=
  if o.kind = 1 then inB p.vars o.a && inB p.objs o.b && decide (o.c = 0) && bare o
  else if o.kind = 2 then inB p.vars o.a && inB p.vars o.b && decide (o.c = 0) && bare o
  else if o.kind = 3 then inB p.vars o.a && inB p.vars o.b && inB p.fields o.c && bare o
  else if o.kind = 4 then inB p.vars o.a && inB p.vars o.b && inB p.fields o.c && bare o
  else if o.kind = 5 then inB p.vars o.a && inB p.fs.length o.b && decide (o.c = 0) && bare o
  else if o.kind = 6 then orN p.vars o.a && inB p.fs.length o.b && decide (o.c = 0) && o.args.all (inB p.vars)
  else if o.kind = 7 then orN p.vars o.a && inB p.vars o.b && decide (o.c = 0) && o.args.all (inB p.vars)
  else false
def okO (p : P) (o : O) : Bool := inB p.fs.length o.fn && okK p o
def big0 (p : P) : Bool := decide (200 < p.vars) || decide (60 < p.objs) || decide (6 < p.fields) || decide (30 < (p.fs.length : Int)) || decide (30 < (p.en.length : Int)) || decide (300 < (p.ops.length : Int))
def fewF (f : F) : Bool := decide ((f.ps.length : Int) ≤ 6)
def fewO (o : O) : Bool := decide ((o.args.length : Int) ≤ 6)
def big (p : P) : Bool := big0 p || !(p.fs.all fewF) || !(p.ops.all fewO)
def formed (p : P) : Bool := decide (0 ≤ p.vars) && decide (0 ≤ p.objs) && decide (0 ≤ p.fields) && p.fs.all (okF p) && rises p.en && p.en.all (inB p.fs.length) && p.ops.all (okO p)
def check (p : P) : Int := if big p then 4 else if formed p then 0 else 12
/-- so few that every walk bears it; all heats have 64 bits -/
structure Sm (p : P) : Prop where
  f : p.fs.length ≤ 2000000
  e : p.en.length ≤ 2000000
  o : p.ops.length ≤ 2000000
  fp : ∀ f ∈ p.fs, f.ps.length ≤ 2000000
  oa : ∀ o ∈ p.ops, o.args.length ≤ 2000000
end Pm
end Go.Proofs.Ytnhgoeoffjcooaa
