/-
  What the document's own Append of pages does (dowserref07).
-/
import Derived.Test.YtnnjcgamhkmljaaApp
import Derived.Test.YtnnjcgamhkmljaaNodeWalk
namespace Go.Proofs.Ytnnjcgamhkmljaa
open Go.RowKit
namespace Pp
open B
set_option linter.unusedVariables false
abbrev Pg := Int × ByteArray
def cells (l : List Pg) : List Value := l.flatMap fun x => [.int .i64 x.1, .string x.2]
theorem cells_len : ∀ l : List Pg, (cells l).length = l.length * 2
  | [] => rfl
  | x :: l => by
    have := cells_len l
    unfold cells at this ⊢
    rw [List.flatMap_cons, List.length_append, this, List.length_cons]; simp only [List.length_cons, List.length_nil]; omega
theorem cells_app (l m : List Pg) : cells (l ++ m) = cells l ++ cells m := by unfold cells; rw [List.flatMap_append]
theorem cells_one (l : List Pg) : ∀ u ∈ cells l, u.oneCell' = true := by
  intro u hu
  unfold cells at hu
  obtain ⟨x, _, h⟩ := List.mem_flatMap.mp hu
  simp only [List.mem_cons, List.not_mem_nil, or_false] at h
  rcases h with rfl | rfl <;> rfl
/-- a slice that reads as pages -/
def PR (w : World) (A : Option Addr) (l : List Pg) : Prop := 0 < l.length → ∃ b off, A = some ⟨b, off, none⟩ ∧ b < w.heap.size ∧ ∀ j u, (cells l)[j]? = some u → w.cell? ⟨b, off + j, none⟩ = some u
theorem PR.below {w w' : World} {A : Option Addr} {l : List Pg} (h : PR w A l) (hb : Below w.heap.size w w') : PR w' A l := fun hp => by
  obtain ⟨b, off, h1, h2, h3⟩ := h hp
  exact ⟨b, off, h1, Nat.lt_of_lt_of_le h2 hb.size, fun j u hj => (hb.cell (p := ⟨b, off + j, none⟩) h2).trans (h3 j u hj)⟩
theorem add_none (b off j : Nat) : (⟨b, off, Option.none⟩ : Addr).add j = ⟨b, off + j, Option.none⟩ := by unfold Addr.add; split <;> simp_all
theorem info7 : (Try.prog.info? 48).map (fun i => (i.zero, i.size, i.bytes)) = some (some (.agg #[.int .i64 0, .string ⟨#[]⟩]), 2, 24) := by kernel_rfl
theorem step_lit7 {w : World} {ops : Array Oper} {o : Oper} {a : Act} {K : Act → World → Prop} {Q : Exit → Act → World → Prop} {E : Prop} (hgd : o.guard = none) (s x : Operand)
    (ho : o.op = .call { callee := .builtin .append, args := #[s, x], argTypes := #[32, 32] }) (base : Nat) (g : Nat) (l : List Pg) (hs : a.eval s = .slice (some ⟨g, 0, none⟩) 0 0) (hown : w.ownsRow base 48 2 (.slice (some ⟨g, 0, none⟩) 0 0) 0 []) (A : Option Addr) (c : Nat) (hx : a.eval x = .slice A l.length c) (hI : PR w A l) (hn : A = none → l.length = 0 ∧ c = 0)
    (h63 : l.length ≤ 1000000) (hbase : base ≤ w.heap.size)
    (h : ∀ v' w', w'.ownsRow base 48 2 v' l.length (cells l) → Below w.heap.size w w' → K (a.put o.dst v') w') :
    if Region.wanted o (yielded ops a.tmps) = true then Oper.wp Try.prog o a w K Q else E := by
  obtain ⟨i, hi, hz, hsize, hby⟩ := info_parts info7
  have hw : Region.wanted o (yielded ops a.tmps) = true := by simp [Region.wanted, hgd]
  cases A with
  | none =>
    obtain ⟨h0, hc⟩ := hn rfl
    have hl : l = [] := List.eq_nil_of_length_eq_zero h0
    subst hl hc
    rw [if_pos hw]
    have hrun := run_append_owned_none (P := Try.prog) (w := w) base 32 o.type 48 i 2 Try.underlying32 hi (.slice (some ⟨g, 0, none⟩) 0 0) 0 [] hown
    have hx' : a.eval x = .slice none 0 0 := hx
    unfold Oper.wp execOp
    simp only [ho, resolve, invoke, builtin, Sem.run_bind, Sem.run_pure, Result.andThen_ok, List.map_toArray, List.map_cons, List.map_nil, hs, hx', hrun]
    exact h _ w hown (Below.refl _ _)
  | some ad =>
    by_cases hx0 : l.length = 0
    · have hxs : l = [] := List.eq_nil_of_length_eq_zero hx0
      subst hxs
      refine step_append_room hgd s x 32 ho 48 i 2 Try.underlying32 hi hsize g 0 0 0 hs ad 0 c [] hx rfl (fun j u hj => by simp at hj) (fun u hu => by cases hu) (Nat.le_refl _) (fun j hj => by simp at hj) ?_
      exact h _ w hown (Below.refl _ _)
    · obtain ⟨b, off, hA, _, hcc⟩ := hI (by omega)
      obtain rfl := Option.some.inj hA
      refine step_append_grows hgd s x 32 ho 48 i _ 2 24 Try.underlying32 hi hz hsize hby rfl (by decide) (some ⟨g, 0, none⟩) 0 0 [] hs (fun h => by cases h) rfl (fun b _ j u hj => by simp at hj) ⟨b, off, none⟩ l.length c (cells l) hx (cells_len l) (fun j u hj => by rw [add_none]; exact hcc j u hj) (cells_one l) (by omega) (by unfold maxLen; omega) (by omega) ?_
      intro v' w' h2 h3
      exact h v' w' (own_le (by simpa using h2) hbase) (below_none h3)
def ra (l : List Pg) (room : Int) (k : Int) (p : ByteArray) : Int × Int := if k < 0 ∨ 255 < k ∨ 240 < p.size then (-1, 1) else if room ≤ (l.length : Int) then (-1, 5) else ((l.length : Int), 0)
theorem row2 {w : World} {g : Nat} {a b : Value} {t : TypeId} (h : w.heap[g]? = some (.cells #[a, b] t)) : w.cell? ⟨g, 0, none⟩ = some a ∧ w.cell? ⟨g, 1, none⟩ = some b := by
  unfold World.cell?
  rw [h]; simp
theorem lit_two (W : World) (a b : Value) (e : TypeId) : ∀ j u, [a, b][j]? = some u → (W.alloc (.cells #[a, b] e)).cell? ((⟨W.heap.size, 0, none⟩ : Addr).add j) = some u
  | 0, u, h => by obtain rfl := Option.some.inj h; rw [add_none]; exact (row2 (heap_last W _ _ rfl)).1
  | 1, u, h => by obtain rfl := Option.some.inj h; rw [add_none]; exact (row2 (heap_last W _ _ rfl)).2
  | j + 2, u, h => by simp at h
set_option maxRecDepth 100000 in
set_option maxHeartbeats 8000000 in
theorem refApp_no (A : Option Addr) (l : List Pg) (c : Nat) (room k : Int) (p : ByteArray) (w : World) (hl : l.length ≤ 1000) (hz : p.size ≤ 1000) (h : k < 0 ∨ 255 < k ∨ 240 < p.size ∨ room ≤ (l.length : Int)) :
    Calls Try.prog 17 #[.slice A l.length c, .int .i64 room, .agg #[.int .i64 k, .string p]] w fun e w' => e = .returned (.tuple #[.slice A l.length c, .int .i64 (ra l room k p).1, .int .i64 (ra l room k p).2]) ∧ Below w.heap.size w w' := by
  have bA := Nod.below1 w (.cells #[.int .i64 k, .string p] 48)
  by_cases h0 : k < 0
  · have e : ra l room k p = (-1, 1) := by unfold ra; rw [if_pos (.inl h0)]
    rw [e]
    go_enter Try.func17, Try.ntmps17
    go_wp2
    go_ret3
    exact ⟨rfl, bA⟩
  · by_cases h1 : 255 < k
    · have e : ra l room k p = (-1, 1) := by unfold ra; rw [if_pos (.inr (.inl h1))]
      rw [e]
      have h1' : k > 255 := h1
      go_enter Try.func17, Try.ntmps17
      go_wp2
      go_ret3
      exact ⟨rfl, bA⟩
    · have h1' : ¬ k > 255 := h1
      by_cases h2 : 240 < p.size
      · have e : ra l room k p = (-1, 1) := by unfold ra; rw [if_pos (.inr (.inr h2))]
        rw [e]
        have h2' : (p.size : Int) > 240 := by omega
        go_enter Try.func17, Try.ntmps17
        go_wp2
        go_ret3
        exact ⟨rfl, bA⟩
      · have h3 : room ≤ (l.length : Int) := by omega
        have e : ra l room k p = (-1, 5) := by unfold ra; rw [if_neg (by omega), if_pos h3]
        rw [e]
        have h2' : ¬ (p.size : Int) > 240 := by omega
        have h3' : (l.length : Int) ≥ room := h3
        go_enter Try.func17, Try.ntmps17
        go_wp2
        go_ret3
        exact ⟨rfl, bA⟩
theorem own_lit2 (W : World) : (W.alloc (.cells #[] 48)).ownsRow W.heap.size 48 2 (.slice (some ⟨W.heap.size, 0, none⟩) 0 0) 0 [] := World.ownsRow_lit (size := 2) W #[] 0 (Nat.le_refl _) (Nat.zero_le _) rfl
theorem al2 (W : World) (o o' : Obj) : Below W.heap.size W ((W.alloc o).alloc o') := (Nod.below1 W o).trans ((Nod.below1 (W.alloc o) o').mono (Nod.below1 W o).size)
theorem dr {W W' : World} (h : Below W.heap.size W W') : Below W.heap.size W W'.drew := ⟨h.os, h.tape, h.output, h.size, h.block⟩
theorem news_of {W w2 : World} {g : Nat} {a b : Value} {e : TypeId} (h : W.heap[g]? = some (.cells #[a, b] e)) (hb : Below W.heap.size W w2) : ∀ j u, [a, b][j]? = some u → w2.cell? ((⟨g, 0, none⟩ : Addr).add j) = some u
  | 0, u, hj => by obtain rfl := Option.some.inj hj; rw [add_none]; exact (row2 (blk_below h hb (blk_lt h))).1
  | 1, u, hj => by obtain rfl := Option.some.inj hj; rw [add_none]; exact (row2 (blk_below h hb (blk_lt h))).2
  | j + 2, u, hj => by simp at hj
set_option maxRecDepth 100000 in
set_option maxHeartbeats 8000000 in
theorem refApp_yes (A : Option Addr) (l : List Pg) (c : Nat) (room k : Int) (p : ByteArray) (w : World) (hA : PR w A l) (hn : A = none → l.length = 0 ∧ c = 0) (hl : l.length ≤ 1000) (hz : p.size ≤ 240) (h0 : ¬ k < 0) (h1 : ¬ k > 255) (h3 : ¬ (l.length : Int) ≥ room) :
    Calls Try.prog 17 #[.slice A l.length c, .int .i64 room, .agg #[.int .i64 k, .string p]] w fun e w' => ∃ g cap, e = .returned (.tuple #[.slice (some ⟨g, 0, none⟩) (l.length + 1) cap, .int .i64 (l.length : Int), .int .i64 0]) ∧ w'.ownsRow w.heap.size 48 2 (.slice (some ⟨g, 0, none⟩) (l.length + 1) cap) (l.length + 1) (cells (l ++ [(k, p)])) ∧ Below w.heap.size w w' := by
  have bA := Nod.below1 w (.cells #[.int .i64 k, .string p] 48)
  have h2' : ¬ (p.size : Int) > 240 := by omega
  have H5 := Lib.hid (heap_last w (.cells #[.int .i64 k, .string p] 48) _ rfl)
  have PA := Lib.hid (hA.below bA)
  obtain ⟨i7, hi7, hz7, hs7, hb7⟩ := info_parts info7
  have hcl := cells_app l [(k, p)]
  have HC := Lib.hid hcl
  clear hcl
  go_enter Try.func17, Try.ntmps17
  go_upto_region 5 with fail
  generalize w.alloc (.cells #[.int .i64 k, .string p] 48) = W at *
  obtain ⟨c0, c1⟩ := row2 H5.out
  have one2 : ∀ u ∈ [Value.int .i64 k, .string p], u.oneCell' = true := by intro u hu; simp at hu; rcases hu with rfl | rfl <;> rfl
  have Ha : Hid ((W.alloc (.cells #[] 48)).drew.heap[w.heap.size]? = some (.cells #[.int .i64 k, .string p] 48)) := hp_old _ H5.out
  have Hb : Hid (((W.alloc (.cells #[] 48)).alloc (.cells #[.int .i64 k, .string p] 48)).drew.heap[W.heap.size + 1]? = some (.cells #[.int .i64 k, .string p] 48)) := heap_last _ _ _ (by simp)
  have Hc : Hid (((W.alloc (.cells #[.int .i64 k, .string p] 48)).alloc (.cells #[] 48)).drew.heap[W.heap.size]? = some (.cells #[.int .i64 k, .string p] 48)) := hp_old _ (heap_last _ _ _ rfl)
  have Oa : Hid ((W.alloc (.cells #[] 48)).drew.ownsRow W.heap.size 48 2 (.slice (some ⟨W.heap.size, 0, none⟩) 0 0) 0 []) := own_lit2 W
  have Ob : Hid (((W.alloc (.cells #[] 48)).alloc (.cells #[.int .i64 k, .string p] 48)).drew.ownsRow W.heap.size 48 2 (.slice (some ⟨W.heap.size, 0, none⟩) 0 0) 0 []) := (own_lit2 W).alloc _
  have Oc : Hid (((W.alloc (.cells #[.int .i64 k, .string p] 48)).alloc (.cells #[] 48)).drew.ownsRow W.heap.size 48 2 (.slice (some ⟨W.heap.size + 1, 0, none⟩) 0 0) 0 []) := by
    have q := own_lit2 (W.alloc (.cells #[.int .i64 k, .string p] 48))
    have e : (W.alloc (.cells #[.int .i64 k, .string p] 48)).heap.size = W.heap.size + 1 := by simp
    rw [e] at q
    exact own_le q (by omega)
  have Pa : Hid (PR (W.alloc (.cells #[] 48)).drew A l) := PA.out.below (dr (Nod.below1 W _))
  have Pb : Hid (PR ((W.alloc (.cells #[] 48)).alloc (.cells #[.int .i64 k, .string p] 48)).drew A l) := PA.out.below (dr (al2 W _ _))
  have Pc : Hid (PR ((W.alloc (.cells #[.int .i64 k, .string p] 48)).alloc (.cells #[] 48)).drew A l) := PA.out.below (dr (al2 W _ _))
  obtain ⟨y0, y1⟩ := row2 Ha.out
  go_region_law (first
    | (refine step_lit7 (by rfl) _ _ (by rfl) W.heap.size _ l (by rfl) Oa.out A c (by rfl) Pa.out hn (by omega) (by simp <;> omega) ?_; intro v2 w2 own2 bel2; obtain ⟨z0, z1⟩ := row2 (blk_below Ha.out bel2 (blk_lt Ha.out)))
    | (refine step_lit7 (by rfl) _ _ (by rfl) W.heap.size _ l (by rfl) Ob.out A c (by rfl) Pb.out hn (by omega) (by simp <;> omega) ?_; intro v2 w2 own2 bel2; skip)
    | (refine step_lit7 (by rfl) _ _ (by rfl) W.heap.size _ l (by rfl) Oc.out A c (by rfl) Pc.out hn (by omega) (by simp <;> omega) ?_; intro v2 w2 own2 bel2; skip)
    | (refine step_append_lies _ (by rfl) _ _ _ (by rfl) W.heap.size 48 i7 _ 2 24 Try.underlying32 hi7 hz7 hs7 hb7 rfl (by decide) _ _ _ (by rfl) (own2.alloc _) ⟨w2.heap.size, 0, none⟩ 1 1 [.int .i64 k, .string p] (by rfl) rfl (lit_two _ _ _ _) one2 (by omega) (by unfold maxLen; omega) (by omega) (by have := bel2.size; simp at this ⊢; omega) _ rfl ?_; intro gg cap w5 own5 grow5 lies5 lt5)
    | (refine step_append_lies _ (by rfl) _ _ _ (by rfl) W.heap.size 48 i7 _ 2 24 Try.underlying32 hi7 hz7 hs7 hb7 rfl (by decide) _ _ _ (by rfl) own2 ⟨W.heap.size + 1, 0, none⟩ 1 1 [.int .i64 k, .string p] (by rfl) rfl (news_of Hb.out bel2) one2 (by omega) (by unfold maxLen; omega) (by omega) (by have := bel2.size; simp at this ⊢; omega) _ rfl ?_; intro gg cap w5 own5 grow5 lies5 lt5)
    | (refine step_append_lies _ (by rfl) _ _ _ (by rfl) W.heap.size 48 i7 _ 2 24 Try.underlying32 hi7 hz7 hs7 hb7 rfl (by decide) _ _ _ (by rfl) own2 ⟨W.heap.size, 0, none⟩ 1 1 [.int .i64 k, .string p] (by rfl) rfl (news_of Hc.out bel2) one2 (by omega) (by unfold maxLen; omega) (by omega) (by have := bel2.size; simp at this ⊢; omega) _ rfl ?_; intro gg cap w5 own5 grow5 lies5 lt5))
  all_goals
    go_wp2
    go_ret3
    refine ⟨gg, cap, rfl, by rw [HC.out]; exact own_le own5 bA.size, bA.trans (Below.mono ?_ bA.size)⟩
    have ow := fun b hb => (own2.lt b hb).1
    first
      | exact (((dr (Nod.below1 W _)).trans (bel2.mono (by simp))).alloc (by have := bel2.size; simp at this; omega) _).grown grow5 (by have := bel2.size; simp at this ⊢; omega) ow
      | exact ((dr (al2 W _ _)).trans (bel2.mono (by simp; omega))).grown grow5 (by have := bel2.size; simp at this ⊢; omega) ow
end Pp
end Go.Proofs.Ytnnjcgamhkmljaa
