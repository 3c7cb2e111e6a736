/-
  Programs, plain mathematics: the program that the law makes of any one (dowserlaw15.Right), and that it may be.
-/
import Derived.Test.YtnhgoeoffjcooaaProVars
namespace Go.Proofs.Ytnhgoeoffjcooaa
open Go.RowKit
namespace Pm
open B
set_option linter.unusedVariables false
def rightF (vars : Int) (f : F) : F := ⟨varsq vars f.ps, atq f.ret (vars + 1) - 1⟩
def rightFs (vars : Int) (fs : List F) : List F := if fs = [] then [⟨[], -1⟩] else (fs.take 8).map (rightF vars)
/-- the functions that an entry of any program is brought to, in their order -/
def rightE (n : Nat) (en : List Int) : List Int := ((List.range n).filter fun f : Nat => en.any fun x => atq x (n : Int) == (f : Int)).map fun f : Nat => (f : Int)
def rkind (k : Int) : Int := 1 + atq (bits BinOp.and IntKind.i64 k 65535 + 6) 7
def rightO (vars objs fields : Int) (n : Nat) (o : O) : O :=
  if 5 < rkind o.kind then ⟨rkind o.kind, atq o.fn n, atq o.a (vars + 1) - 1, if rkind o.kind = 6 then atq o.b n else atq o.b vars, 0, varsq vars o.args, o.heat⟩
  else ⟨rkind o.kind, atq o.fn n, atq o.a vars, if rkind o.kind = 1 then atq o.b objs else if rkind o.kind = 5 then atq o.b n else atq o.b vars, if rkind o.kind = 3 ∨ rkind o.kind = 4 then atq o.c fields else 0, [], 0⟩
def rightq (p : P) (k : Nat) : P :=
  ⟨1 + atq p.vars 30, 1 + atq p.objs 12, 1 + atq p.fields 6, rightFs (1 + atq p.vars 30) p.fs, rightE (rightFs (1 + atq p.vars 30) p.fs).length p.en,
    (p.ops.take k).map (rightO (1 + atq p.vars 30) (1 + atq p.objs 12) (1 + atq p.fields 6) (rightFs (1 + atq p.vars 30) p.fs).length)⟩
theorem at_in (x : Int) (n : Int) (h : 0 < n) : inB n (atq x n) = true := by
  obtain ⟨h1, h2⟩ := atq_range x n h
  unfold inB; rw [decide_eq_true h1, decide_eq_true h2]; rfl
theorem at_or (x : Int) (n : Int) (h : 0 < n) : orN n (atq x (n + 1) - 1) = true := by
  obtain ⟨h1, h2⟩ := atq_range x (n + 1) (by omega)
  unfold orN inB
  by_cases h3 : atq x (n + 1) - 1 = -1
  · rw [decide_eq_true h3]; rfl
  · rw [decide_eq_true (show 0 ≤ atq x (n + 1) - 1 by omega), decide_eq_true (show atq x (n + 1) - 1 < n by omega)]; simp
theorem varsq_len (vars : Int) (l : List Int) : (varsq vars l).length ≤ 6 := by unfold varsq; rw [List.length_map, List.length_take]; omega
theorem varsq_in (vars : Int) (l : List Int) (h : 0 < vars) : (varsq vars l).all (inB vars) = true := by
  rw [List.all_eq_true]
  intro x hx
  unfold varsq at hx
  obtain ⟨y, _, rfl⟩ := List.mem_map.1 hx
  exact at_in y vars h
theorem rightFs_len (vars : Int) (fs : List F) : 1 ≤ (rightFs vars fs).length ∧ (rightFs vars fs).length ≤ 8 := by
  unfold rightFs
  by_cases h : fs = []
  · rw [if_pos h]; simp
  · rw [if_neg h, List.length_map, List.length_take]
    have := List.length_pos_iff.mpr h
    omega
theorem rightFs_mem (vars : Int) (fs : List F) (f : F) (h : f ∈ rightFs vars fs) : f = ⟨[], -1⟩ ∨ ∃ g ∈ fs, f = rightF vars g := by
  unfold rightFs at h
  by_cases h1 : fs = []
  · rw [if_pos h1] at h; exact .inl (by simpa using h)
  · rw [if_neg h1] at h
    obtain ⟨g, hg, rfl⟩ := List.mem_map.1 h
    exact .inr ⟨g, List.mem_of_mem_take hg, rfl⟩
theorem rises_of (l : List Int) (h : l.Pairwise (· < ·)) : rises l = true := by
  induction l with
  | nil => rfl
  | cons x l ih =>
    cases l with
    | nil => rfl
    | cons y l =>
      rw [rises, ih (List.pairwise_cons.1 h).2, decide_eq_true ((List.pairwise_cons.1 h).1 y (by simp))]
      rfl
theorem rightE_mem (n : Nat) (en : List Int) (x : Int) (h : x ∈ rightE n en) : inB n x = true := by
  unfold rightE at h
  obtain ⟨f, hf, rfl⟩ := List.mem_map.1 h
  have := List.mem_range.1 (List.mem_filter.1 hf).1
  unfold inB
  rw [decide_eq_true (show (0 : Int) ≤ (f : Int) by omega), decide_eq_true (show (f : Int) < (n : Int) by omega)]; rfl
theorem rightE_rises (n : Nat) (en : List Int) : rises (rightE n en) = true := by
  refine rises_of _ ?_
  unfold rightE
  rw [List.pairwise_map]
  refine List.Pairwise.imp ?_ (List.Pairwise.filter _ List.pairwise_lt_range)
  intro a b h
  omega
theorem rightE_len (n : Nat) (en : List Int) : (rightE n en).length ≤ n := by
  unfold rightE
  rw [List.length_map]
  exact Nat.le_trans (List.length_filter_le _ _) (by simp)
theorem rkind_range (k : Int) : 1 ≤ rkind k ∧ rkind k ≤ 7 := by
  obtain ⟨h1, h2⟩ := atq_range (bits BinOp.and IntKind.i64 k 65535 + 6) 7 (by decide)
  unfold rkind
  omega
theorem bits0 : Heat.bitsN 0 = 0 := by decide
theorem rightO_len (vars objs fields : Int) (n : Nat) (o : O) : fewO (rightO vars objs fields n o) = true := by
  unfold fewO rightO
  have := varsq_len vars o.args
  split
  · exact decide_eq_true (by show ((varsq vars o.args).length : Int) ≤ 6; omega)
  · rfl
theorem rightO_ok (q : P) (o : O) (hv : 0 < q.vars) (ho : 0 < q.objs) (hf : 0 < q.fields) (hn : 0 < q.fs.length) : okO q (rightO q.vars q.objs q.fields q.fs.length o) = true := by
  obtain ⟨k1, k2⟩ := rkind_range o.kind
  have hn' : (0 : Int) < (q.fs.length : Int) := by omega
  have a1 := at_in o.fn _ hn'
  have a2 := at_in o.a _ hv
  have a3 := at_or o.a _ hv
  have a4 := at_in o.b _ hv
  have a5 := at_in o.b _ ho
  have a6 := at_in o.b _ hn'
  have a7 := at_in o.c _ hf
  have a8 := varsq_in q.vars o.args hv
  generalize hk : rkind o.kind = k at *
  unfold rightO okO okK bare
  rw [hk]
  have hcase : k = 1 ∨ k = 2 ∨ k = 3 ∨ k = 4 ∨ k = 5 ∨ k = 6 ∨ k = 7 := by omega
  rcases hcase with rfl | rfl | rfl | rfl | rfl | rfl | rfl <;> simp [a1, a2, a3, a4, a5, a6, a7, a8, bits0]
theorem right_formed (p : P) (k : Nat) : formed (rightq p k) = true := by
  have v1 := atq_range p.vars 30 (by decide)
  have v2 := atq_range p.objs 12 (by decide)
  have v3 := atq_range p.fields 6 (by decide)
  have hF := rightFs_len (1 + atq p.vars 30) p.fs
  have c1 : (rightq p k).fs.all (okF (rightq p k)) = true := by
    rw [List.all_eq_true]
    intro f hf
    have hv : 0 < (rightq p k).vars := by show 0 < 1 + atq p.vars 30; omega
    rcases rightFs_mem _ _ f hf with rfl | ⟨g, _, rfl⟩
    · rfl
    · unfold okF
      rw [show ((rightF (1 + atq p.vars 30) g).ps.all (inB (rightq p k).vars)) = true from varsq_in _ _ hv, show orN (rightq p k).vars (rightF (1 + atq p.vars 30) g).ret = true from at_or _ _ hv]; rfl
  have c2 : (rightq p k).ops.all (okO (rightq p k)) = true := by
    rw [List.all_eq_true]
    intro o ho
    obtain ⟨y, _, rfl⟩ := List.mem_map.1 ho
    exact rightO_ok (rightq p k) y (by show 0 < 1 + atq p.vars 30; omega) (by show 0 < 1 + atq p.objs 12; omega) (by show 0 < 1 + atq p.fields 6; omega) (by show 0 < (rightFs (1 + atq p.vars 30) p.fs).length; omega)
  have c3 : (rightq p k).en.all (inB (rightq p k).fs.length) = true := by
    rw [List.all_eq_true]
    exact fun x hx => rightE_mem _ _ x hx
  have c4 : rises (rightq p k).en = true := rightE_rises _ _
  unfold formed
  rw [c1, c2, c3, c4, decide_eq_true (show 0 ≤ (rightq p k).vars by show 0 ≤ 1 + atq p.vars 30; omega), decide_eq_true (show 0 ≤ (rightq p k).objs by show 0 ≤ 1 + atq p.objs 12; omega), decide_eq_true (show 0 ≤ (rightq p k).fields by show 0 ≤ 1 + atq p.fields 6; omega)]
  rfl
theorem right_big (p : P) (k : Nat) (hk : k ≤ 300) : big (rightq p k) = false := by
  have v1 := atq_range p.vars 30 (by decide)
  have v2 := atq_range p.objs 12 (by decide)
  have v3 := atq_range p.fields 6 (by decide)
  have hF := rightFs_len (1 + atq p.vars 30) p.fs
  have hE := rightE_len (rightFs (1 + atq p.vars 30) p.fs).length p.en
  have c1 : (rightq p k).fs.all fewF = true := by
    rw [List.all_eq_true]
    intro f hf
    rcases rightFs_mem _ _ f hf with rfl | ⟨g, _, rfl⟩
    · rfl
    · have := varsq_len (1 + atq p.vars 30) g.ps
      exact decide_eq_true (by show ((varsq (1 + atq p.vars 30) g.ps).length : Int) ≤ 6; omega)
  have c2 : (rightq p k).ops.all fewO = true := by
    rw [List.all_eq_true]
    intro o ho
    obtain ⟨y, _, rfl⟩ := List.mem_map.1 ho
    exact rightO_len _ _ _ _ y
  have hO : (rightq p k).ops.length ≤ 300 := by show ((p.ops.take k).map _).length ≤ 300; rw [List.length_map, List.length_take]; omega
  have c3 : big0 (rightq p k) = false := by
    unfold big0
    rw [decide_eq_false (show ¬ 200 < (rightq p k).vars by show ¬ 200 < 1 + atq p.vars 30; omega), decide_eq_false (show ¬ 60 < (rightq p k).objs by show ¬ 60 < 1 + atq p.objs 12; omega), decide_eq_false (show ¬ 6 < (rightq p k).fields by show ¬ 6 < 1 + atq p.fields 6; omega),
      decide_eq_false (show ¬ 30 < ((rightq p k).fs.length : Int) by show ¬ 30 < ((rightFs (1 + atq p.vars 30) p.fs).length : Int); omega), decide_eq_false (show ¬ 30 < ((rightq p k).en.length : Int) by show ¬ 30 < ((rightE (rightFs (1 + atq p.vars 30) p.fs).length p.en).length : Int); omega), decide_eq_false (show ¬ 300 < ((rightq p k).ops.length : Int) by omega)]
    rfl
  unfold big
  rw [c1, c2, c3]
  rfl
/-- what Right makes may be -/
theorem right_check (p : P) (k : Nat) (hk : k ≤ 300) : check (rightq p k) = 0 := by
  unfold check
  rw [right_big p k hk, right_formed p k]
  rfl
theorem right_sm (p : P) (k : Nat) (hk : k ≤ 300) : Sm (rightq p k) := by
  have hF := rightFs_len (1 + atq p.vars 30) p.fs
  have hE := rightE_len (rightFs (1 + atq p.vars 30) p.fs).length p.en
  refine ⟨?_, ?_, ?_, fun f hf => ?_, fun o ho => ?_⟩
  · show (rightFs (1 + atq p.vars 30) p.fs).length ≤ 2000000; omega
  · show (rightE (rightFs (1 + atq p.vars 30) p.fs).length p.en).length ≤ 2000000; omega
  · show ((p.ops.take k).map _).length ≤ 2000000; rw [List.length_map, List.length_take]; omega
  · rcases rightFs_mem _ _ f hf with rfl | ⟨g, _, rfl⟩
    · exact Nat.zero_le _
    · have := varsq_len (1 + atq p.vars 30) g.ps
      show (varsq (1 + atq p.vars 30) g.ps).length ≤ 2000000; omega
  · obtain ⟨y, _, rfl⟩ := List.mem_map.1 ho
    have := rightO_len (1 + atq p.vars 30) (1 + atq p.objs 12) (1 + atq p.fields 6) (rightFs (1 + atq p.vars 30) p.fs).length y
    unfold fewO at this
    have := of_decide_eq_true this
    omega
end Pm
end Go.Proofs.Ytnhgoeoffjcooaa
