/-
  Programs: numbers of a program and of an op compared as arrays; lists compared; slices.Equal.
-/
import Derived.Test.YtnhgoeoffjcooaaProRow
import Derived.Test.YtnhgoeoffjcooaaShelf
import Derived.ChangeKeysEq
namespace Go.Proofs.Ytnhgoeoffjcooaa
open Go.RowKit
namespace Pm
open B
set_option linter.unusedVariables false
theorem infoInt : (Try.prog.info? 3).map (fun i => (i.zero, i.size, i.bytes)) = some (some (.int .i64 0), 1, 8) := by kernel_rfl
theorem cellsI : Try.prog.cellsOf 3 = 1 := by kernel_rfl
theorem items_step (d k n : Nat) (xs ys : List Value) (x y : Int) (w : World) (hx : xs[k]? = some (.int .i64 x)) (hy : ys[k]? = some (.int .i64 y)) (l : List Nat) :
    (Op.eqItems (d + 1) 3 1 xs.toArray ys.toArray (k :: l)).run Try.prog w = if x = y then (Op.eqItems (d + 1) 3 1 xs.toArray ys.toArray l).run Try.prog w else .ok false w := by
  have px : (part 3 xs.toArray (k * 1)).run Try.prog w = .ok (.int .i64 x) w := by
    unfold part
    simp [Sem.run_bind, isAgg, run_underlying Try.underlying3, hx]
  have py : (part 3 ys.toArray (k * 1)).run Try.prog w = .ok (.int .i64 y) w := by
    unfold part
    simp [Sem.run_bind, isAgg, run_underlying Try.underlying3, hy]
  simp only [Op.eqItems, Sem.run_bind, px, py, Result.andThen_ok, run_equalIn_int _ _ _ _ _ _ _ Try.underlying3]
  by_cases h : x = y
  · subst h; simp
  · have : (x == y) = false := by rw [beq_eq_false_iff_ne]; exact h
    simp [h, this]
theorem eql3 (x0 x1 x2 y0 y1 y2 : Int) (w : World) : (binOp .eql 71 (.agg #[.int .i64 x0, .int .i64 x1, .int .i64 x2]) (.agg #[.int .i64 y0, .int .i64 y1, .int .i64 y2])).run Try.prog w = .ok (.bool (decide (x0 = y0) && decide (x1 = y1) && decide (x2 = y2))) w := by
  obtain ⟨i0, hi, hz0, hz1, hz2⟩ := info_parts infoInt
  rw [run_eql_struct, show (10000 : Nat) = 9999 + 1 from rfl, run_equalIn_array w 9999 _ _ Try.underlying71 hi, cellsI]
  simp only [List.range, List.range.loop, show (9999 : Nat) = 9998 + 1 from rfl]
  rw [items_step 9998 0 3 [_, _, _] [_, _, _] x0 y0 w rfl rfl, items_step 9998 1 3 [_, _, _] [_, _, _] x1 y1 w rfl rfl, items_step 9998 2 3 [_, _, _] [_, _, _] x2 y2 w rfl rfl]
  by_cases h0 : x0 = y0 <;> by_cases h1 : x1 = y1 <;> by_cases h2 : x2 = y2 <;> simp [h0, h1, h2, Op.eqItems]
theorem eql5 (x0 x1 x2 x3 x4 y0 y1 y2 y3 y4 : Int) (w : World) : (binOp .eql 109 (.agg #[.int .i64 x0, .int .i64 x1, .int .i64 x2, .int .i64 x3, .int .i64 x4]) (.agg #[.int .i64 y0, .int .i64 y1, .int .i64 y2, .int .i64 y3, .int .i64 y4])).run Try.prog w =
    .ok (.bool (decide (x0 = y0) && decide (x1 = y1) && decide (x2 = y2) && decide (x3 = y3) && decide (x4 = y4))) w := by
  obtain ⟨i0, hi, hz0, hz1, hz2⟩ := info_parts infoInt
  rw [run_eql_struct, show (10000 : Nat) = 9999 + 1 from rfl, run_equalIn_array w 9999 _ _ Try.underlying109 hi, cellsI]
  simp only [List.range, List.range.loop, show (9999 : Nat) = 9998 + 1 from rfl]
  rw [items_step 9998 0 5 [_, _, _, _, _] [_, _, _, _, _] x0 y0 w rfl rfl, items_step 9998 1 5 [_, _, _, _, _] [_, _, _, _, _] x1 y1 w rfl rfl, items_step 9998 2 5 [_, _, _, _, _] [_, _, _, _, _] x2 y2 w rfl rfl, items_step 9998 3 5 [_, _, _, _, _] [_, _, _, _, _] x3 y3 w rfl rfl, items_step 9998 4 5 [_, _, _, _, _] [_, _, _, _, _] x4 y4 w rfl rfl]
  by_cases h0 : x0 = y0 <;> by_cases h1 : x1 = y1 <;> by_cases h2 : x2 = y2 <;> by_cases h3 : x3 = y3 <;> by_cases h4 : x4 = y4 <;> simp [h0, h1, h2, h3, h4, Op.eqItems]
/-- two lists, one by one -/
def eqL {α β : Type} (p : α → β → Bool) : List α → List β → Bool
  | [], [] => true
  | x :: xs, y :: ys => p x y && eqL p xs ys
  | _, _ => false
theorem eqL_len {α β : Type} {p : α → β → Bool} : ∀ (xs : List α) (ys : List β), xs.length ≠ ys.length → eqL p xs ys = false
  | [], [], h => absurd rfl h
  | [], _ :: _, _ => rfl
  | _ :: _, [], _ => rfl
  | x :: xs, y :: ys, h => by rw [eqL, eqL_len xs ys (by simpa using h), Bool.and_false]
theorem eqL_drop {α β : Type} {p : α → β → Bool} (xs : List α) (ys : List β) (k : Nat) (h : k < xs.length) (h2 : k < ys.length) : eqL p (xs.drop k) (ys.drop k) = (p xs[k] ys[k] && eqL p (xs.drop (k + 1)) (ys.drop (k + 1))) := by
  rw [List.drop_eq_getElem_cons h, List.drop_eq_getElem_cons h2, eqL]
theorem eqL_refl {α : Type} {p : α → α → Bool} (hp : ∀ x, p x x = true) : ∀ xs : List α, eqL p xs xs = true
  | [] => rfl
  | x :: xs => by rw [eqL, hp, eqL_refl hp xs]; rfl
def sameF (f g : F) : Bool := decide (f.ret = g.ret) && (f.ps == g.ps)
def nums5 (o q : O) : Bool := decide (o.kind = q.kind) && decide (o.fn = q.fn) && decide (o.a = q.a) && decide (o.b = q.b) && decide (o.c = q.c)
def sameO (o q : O) : Bool := nums5 o q && (o.args == q.args) && decide (((Heat.bitsN o.heat : Nat) : Int) = ((Heat.bitsN q.heat : Nat) : Int))
def same (p q : P) : Bool := (decide (p.vars = q.vars) && decide (p.objs = q.objs) && decide (p.fields = q.fields)) && eqL sameF p.fs q.fs && (p.en == q.en) && eqL sameO p.ops q.ops
theorem same_refl (p : P) : same p p = true := by
  unfold same
  rw [eqL_refl (fun f => by simp [sameF]), eqL_refl (fun o => by simp [sameO, nums5])]
  simp
/-- slices.Equal of numbers -/
theorem equal_any (lo lo' : Nat) (A A' : Option Addr) (l l' : List Int) (c c' : Nat) (w : World) (h : At vInt w A l) (h' : At vInt w A' l') (hl : l.length ≤ 2000000) (hl' : l'.length ≤ 2000000) :
    Calls Try.prog 44 #[.slice A l.length c, .slice A' l'.length c'] w fun e w' => e = .returned (.bool (l == l')) ∧ Below w.heap.size w w' := by
  have dr := fun q => (⟨rfl, rfl, rfl, Nat.le_refl _, fun _ _ => rfl⟩ : Below w.heap.size w (w.drewN q))
  cases l with
  | nil =>
    refine (Try.slices_Equal_int_empty A A' c l'.length c' w (by omega)).mono ?_
    rintro e w' ⟨rfl, rfl⟩
    refine ⟨?_, Below.refl _ _⟩
    cases l' with
    | nil => rfl
    | cons y r => rfl
  | cons x r =>
    obtain ⟨b, off, rfl, _, hc⟩ := h (by simp)
    cases l' with
    | nil =>
      have hn : ((((x :: r).length : Nat) : Int) != 0) = true := by rw [bne_iff_ne, List.length_cons]; omega
      clear hc h
      generalize hL : (x :: r) = L at *
      have he : (L == []) = false := by rw [← hL]; rfl
      have e0 : Ending.returned (.bool (L == [])) = .returned (.bool false) := by rw [he]
      rw [e0]
      clear hL he e0
      go_enter Try.func44, Try.ntmps44
      go_wp2
      go_ret
      exact ⟨rfl, Below.refl _ _⟩
    | cons y r' =>
      obtain ⟨b', off', rfl, _, hc'⟩ := h' (by simp)
      have g := Try.slices_Equal_int b off (x :: r).length c b' off' (y :: r').length c' (x :: r) (y :: r') w (Nat.le_refl _) (Nat.le_refl _) (by omega) (by omega) (fun j hj => by rw [hc j hj]; simp [List.getD, List.getElem?_eq_getElem hj]) (fun j hj => by rw [hc' j hj]; simp [List.getD, List.getElem?_eq_getElem hj])
      rw [List.take_length, List.take_length] at g
      exact g.mono fun e w' ⟨h1, q, h2⟩ => ⟨h1, by rw [h2]; exact dr q⟩
theorem results_arr {fn : Func} {p : Tmp} {ty e : TypeId} {n : Nat} (h : fn.results = #[.cell p ty]) (tmps : Array Value) (w : World) (g : Nat) (cs : List Value)
    (hp : tmps.getD p undef = .pointer (some ⟨g, 0, none⟩)) (hg : ∀ j v, cs[j]? = some v → w.cell? ⟨g, j, none⟩ = some v)
    (hu : Try.prog.underlying ty = some (.array n e)) (hi : (Try.prog.info? ty).map (·.size) = some cs.length) :
    (results fn tmps).run Try.prog w = .ok (.agg cs.toArray) w := by
  have hl := run_loadCells_list (P := Try.prog) w ⟨g, 0, none⟩ cs (fun j v hv => by
      have hadd : (⟨g, 0, none⟩ : Addr).add j = ⟨g, j, none⟩ := by unfold Addr.add; split <;> simp_all
      rw [hadd]; exact hg j v hv)
  have hlv : (loadVar ty ⟨g, 0, none⟩).run Try.prog w = .ok (.agg cs.toArray) w := by
    cases hq : Try.prog.info? ty with
    | none => simp [hq] at hi
    | some i =>
      have hs : i.size = cs.length := by simpa [hq] using hi
      have hagg : (isAgg ty).run Try.prog w = .ok true w := by
        unfold isAgg
        rw [Sem.run_bind, run_underlying hu w]
        simp
      simp [loadVar, Sem.run_bind, hagg, sizeOf, typeInfo, hq, hs, hl]
  have hp' : tmps[p]?.getD undef = .pointer (some ⟨g, 0, none⟩) := by simpa using hp
  simp [results, h, hp', asAddr, hlv]
theorem t3_info : (Try.prog.info? 71).map (·.size) = some 3 := by kernel_rfl
theorem t5_info : (Try.prog.info? 109).map (·.size) = some 5 := by kernel_rfl
set_option maxRecDepth 100000 in
set_option maxHeartbeats 4000000 in
theorem counts_any (p : P) (Af : Option Addr) (cf : Nat) (Ae : Option Addr) (ce : Nat) (Ao : Option Addr) (co : Nat) (w : World) :
    Calls Try.prog 41 #[pv p Af cf Ae ce Ao co] w fun e w' => e = .returned (.agg #[.int .i64 p.vars, .int .i64 p.objs, .int .i64 p.fields]) ∧ Below w.heap.size w w' := by
  go_enter Try.func41, Try.ntmps41
  go_wp2
  (try simp only [Exit.inBlock, Exit.then])
  refine bodyPost_ret (results_arr rfl _ _ (w.heap.size + 1) [.int .i64 p.vars, .int .i64 p.objs, .int .i64 p.fields] rfl ?_ Try.underlying71 t3_info) rfl ?_
  · intro j v hj
    exact (row_cell (cs := [.int .i64 p.vars, .int .i64 p.objs, .int .i64 p.fields]) (heap_last _ _ _ (by simp)) j).trans hj
  · exact ⟨rfl, ((Below.refl _ _).alloc (Nat.le_refl _) _).alloc (by simp) _⟩
set_option maxRecDepth 100000 in
set_option maxHeartbeats 4000000 in
theorem numbers_any (o : O) (v : Value) (w : World) (hv : ∃ A n c, v = .slice A n c) :
    Calls Try.prog 67 #[.agg #[.int .i64 o.kind, .int .i64 o.fn, .int .i64 o.a, .int .i64 o.b, .int .i64 o.c, v, .float .f64 o.heat]] w fun e w' => e = .returned (.agg #[.int .i64 o.kind, .int .i64 o.fn, .int .i64 o.a, .int .i64 o.b, .int .i64 o.c]) ∧ Below w.heap.size w w' := by
  obtain ⟨A, n, c, rfl⟩ := hv
  go_enter Try.func67, Try.ntmps67
  go_wp2
  (try simp only [Exit.inBlock, Exit.then])
  refine bodyPost_ret (results_arr rfl _ _ (w.heap.size + 1) [.int .i64 o.kind, .int .i64 o.fn, .int .i64 o.a, .int .i64 o.b, .int .i64 o.c] rfl ?_ Try.underlying109 t5_info) rfl ?_
  · intro j v hj
    exact (row_cell (cs := [.int .i64 o.kind, .int .i64 o.fn, .int .i64 o.a, .int .i64 o.b, .int .i64 o.c]) (heap_last _ _ _ (by simp)) j).trans hj
  · exact ⟨rfl, ((Below.refl _ _).alloc (Nat.le_refl _) _).alloc (by simp) _⟩
end Pm
end Go.Proofs.Ytnhgoeoffjcooaa
