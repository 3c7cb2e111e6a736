/-
  Programs: what stands in memory while the law makes a program that may be (dowserlaw15.Right): the frame of its walk.
-/
import Derived.Test.YtnhgoeoffjcooaaProThM
import Derived.Test.YtnhgoeoffjcooaaProFew
import Derived.Deep.CutRange
import Derived.Deep.CutBlock
namespace Go.Proofs.Ytnhgoeoffjcooaa
open Go.RowKit
namespace Pm
open B
set_option linter.unusedVariables false
theorem and65535 (y : Int) : bits BinOp.and IntKind.i64 y 65535 = ((y % 65536).toNat : Int) := by
  show IntKind.i64.wrap ((BitVec.ofInt 64 y &&& BitVec.ofInt 64 65535).toNat : Int) = _
  have h : (BitVec.ofInt 64 y &&& BitVec.ofInt 64 65535).toNat = (y % 65536).toNat := by
    rw [BitVec.toNat_and, show (BitVec.ofInt 64 65535).toNat = 65535 from rfl]
    rw [show (BitVec.ofInt 64 y).toNat &&& 65535 = (BitVec.ofInt 64 y).toNat % 65536 from Nat.and_two_pow_sub_one_eq_mod _ 16, BitVec.toNat_ofInt]
    omega
  rw [h]
  exact IntWalk.i64_in _ (by omega)
theorem and6_wrap (y : Int) : IntKind.i64.wrap (bits BinOp.and IntKind.i64 y 65535 + 6) = bits BinOp.and IntKind.i64 y 65535 + 6 := by
  rw [and65535]; exact IntWalk.i64_in _ (by omega)
theorem rkind_wrap (y : Int) : IntKind.i64.wrap (1 + atq (bits BinOp.and IntKind.i64 y 65535 + 6) 7) = rkind y := by
  obtain ⟨h1, h2⟩ := atq_range (bits BinOp.and IntKind.i64 y 65535 + 6) 7 (by decide)
  unfold rkind; exact IntWalk.i64_in _ (by omega)
/-- all old blocks but one are as they were -/
def Ex (g : Nat) (w w' : World) : Prop := w.heap.size ≤ w'.heap.size ∧ ∀ x, x < w.heap.size → x ≠ g → w'.heap[x]? = w.heap[x]?
theorem Ex.refl (g : Nat) (w : World) : Ex g w w := ⟨Nat.le_refl _, fun _ _ _ => rfl⟩
theorem Ex.below {g : Nat} {w w1 w2 : World} (h : Ex g w w1) (hb : Below w1.heap.size w1 w2) : Ex g w w2 := ⟨Nat.le_trans h.1 hb.size, fun x hx hn => (hb.block x (Nat.lt_of_lt_of_le hx h.1)).trans (h.2 x hx hn)⟩
theorem Ex.set {g : Nat} {w w1 : World} (h : Ex g w w1) (i : Nat) (u : Value) : Ex g w (w1.setCell ⟨g, i, none⟩ u) := ⟨by simpa using h.1, fun x hx hn => (Below.heap_setCell w1 ⟨g, i, none⟩ u x hn).trans (h.2 x hx hn)⟩
theorem Ex.grown {g M t size n : Nat} {w w1 w2 : World} {vb : Value} {xs : List Value} (h : Ex g w w1) (ho : w1.ownsRow M t size vb n xs) (hM : w.heap.size ≤ M) (hgr : w1.grownBy w2 vb.ownBlock) : Ex g w w2 :=
  ⟨Nat.le_trans h.1 hgr.size, fun x hx hn => (hgr.block x (Nat.lt_of_lt_of_le hx h.1) (fun q => by have := (own_blk ho x q.symm).1; omega)).trans (h.2 x hx hn)⟩
theorem Ex.row {α : Type} {E : El α} {B M g : Nat} {t t' : TypeId} {w w' : World} {v : Value} {l : List α} {cs : Array Value} {fr : Nat × Nat} (h : RowOwn E B M t w v l) (hx : Ex g w w') (hg : w.heap[g]? = some (.cells cs t' fr)) (hM : M ≤ g) (h1 : t' ≠ 3) (h2 : t' ≠ t) : RowOwn E B M t w' v l :=
  h.keep hx.1 fun x hl hq => hx.2 x hl (by
    rintro rfl
    rcases hq with hq | ⟨t1, cs1, fr1, hq, hz⟩
    · omega
    · rw [hg] at hz
      injection hz with hz
      injection hz with _ hz _
      rcases hq with q | q
      · exact h1 (hz.trans q)
      · exact h2 (hz.trans q))
theorem Ex.kl {B M g : Nat} {t' : TypeId} {w w' : World} {v : Value} {l : List Int} {cs : Array Value} {fr : Nat × Nat} (h : KL B M w v l) (hx : Ex g w w') (hg : w.heap[g]? = some (.cells cs t' fr)) (hM : M ≤ g) (h1 : t' ≠ 3) : KL B M w' v l :=
  h.keep hx.1 fun x hl hq => hx.2 x hl (by
    rintro rfl
    rcases hq with hq | ⟨cs1, fr1, hz⟩
    · omega
    · rw [hg] at hz
      injection hz with hz
      injection hz with _ hz _
      exact h1 hz)
/-- the law's program, the answer's place, the program that is made -/
structure Rt (p : P) (Af : Option Addr) (cf : Nat) (Ae : Option Addr) (ce : Nat) (Ao : Option Addr) (co : Nat) (w : World) (g : Nat) (vv ob fi : Int) (vF vE vO : Value) (wr : World) : Prop where
  q : wr.heap[g]? = some (.cells #[.int .i64 vv, .int .i64 ob, .int .i64 fi, vF, vE, vO] 26)
  z : wr.heap[w.heap.size + 1]? = some (.cells #[.int .i64 0, .int .i64 0, .int .i64 0, .slice none 0 0, .slice none 0 0, .slice none 0 0] 26)
  p : wr.heap[w.heap.size]? = some (.cells #[.int .i64 p.vars, .int .i64 p.objs, .int .i64 p.fields, .slice Af p.fs.length cf, .slice Ae p.en.length ce, .slice Ao p.ops.length co] 26)
  b : Below w.heap.size w wr
  n : w.heap.size + 2 ≤ g
section
variable {p : P} {Af Ae Ao : Option Addr} {cf ce co g : Nat} {w wr w' : World} {vv ob fi : Int} {vF vE vO : Value}
theorem Rt.gl (h : Rt p Af cf Ae ce Ao co w g vv ob fi vF vE vO wr) : g < wr.heap.size := blk_lt h.q
theorem Rt.below (h : Rt p Af cf Ae ce Ao co w g vv ob fi vF vE vO wr) (hb : Below wr.heap.size wr w') : Rt p Af cf Ae ce Ao co w g vv ob fi vF vE vO w' :=
  ⟨blk_below h.q hb (blk_lt h.q), blk_below h.z hb (blk_lt h.z), blk_below h.p hb (blk_lt h.p), h.b.trans (hb.mono h.b.size), h.n⟩
theorem Rt.grown {M t size n : Nat} {vb : Value} {xs : List Value} (h : Rt p Af cf Ae ce Ao co w g vv ob fi vF vE vO wr) (ho : wr.ownsRow M t size vb n xs) (hM : w.heap.size ≤ M) (ht : 26 ≠ t) (hgr : wr.grownBy w' vb.ownBlock) : Rt p Af cf Ae ce Ao co w g vv ob fi vF vE vO w' :=
  ⟨blk_grown ho hgr h.q ht, blk_grown ho hgr h.z ht, blk_grown ho hgr h.p ht, h.b.grown hgr h.b.size (fun q hq => Nat.le_trans hM (own_blk ho q hq).1), h.n⟩
theorem Rt.set3 (h : Rt p Af cf Ae ce Ao co w g vv ob fi vF vE vO wr) (u : Value) : Rt p Af cf Ae ce Ao co w g vv ob fi u vE vO (wr.setCell ⟨g, 3, none⟩ u) :=
  ⟨blk_set (cs := [_, _, _, _, _, _]) h.q 3 u, blk_other (i := 3) h.z (by have := h.n; omega) u, blk_other (i := 3) h.p (by have := h.n; omega) u, h.b.setCell (p := ⟨g, 3, none⟩) (by show w.heap.size ≤ g; have := h.n; omega) u, h.n⟩
theorem Rt.set4 (h : Rt p Af cf Ae ce Ao co w g vv ob fi vF vE vO wr) (u : Value) : Rt p Af cf Ae ce Ao co w g vv ob fi vF u vO (wr.setCell ⟨g, 4, none⟩ u) :=
  ⟨blk_set (cs := [_, _, _, _, _, _]) h.q 4 u, blk_other (i := 4) h.z (by have := h.n; omega) u, blk_other (i := 4) h.p (by have := h.n; omega) u, h.b.setCell (p := ⟨g, 4, none⟩) (by show w.heap.size ≤ g; have := h.n; omega) u, h.n⟩
theorem Rt.set5 (h : Rt p Af cf Ae ce Ao co w g vv ob fi vF vE vO wr) (u : Value) : Rt p Af cf Ae ce Ao co w g vv ob fi vF vE u (wr.setCell ⟨g, 5, none⟩ u) :=
  ⟨blk_set (cs := [_, _, _, _, _, _]) h.q 5 u, blk_other (i := 5) h.z (by have := h.n; omega) u, blk_other (i := 5) h.p (by have := h.n; omega) u, h.b.setCell (p := ⟨g, 5, none⟩) (by show w.heap.size ≤ g; have := h.n; omega) u, h.n⟩
end
def ROp (M : Nat) (v : Value) (W : World) : Prop := ∃ g, v = .pointer (some ⟨g, 0, none⟩) ∧ M ≤ g ∧ W.heap[g]? = some (.cells #[.int .i64 0, .int .i64 0, .int .i64 0, .int .i64 0, .int .i64 0, .slice none 0 0, .float .f64 0] 64)
theorem rop_grow {M : Nat} (v : Value) (W W' : World) (h : ROp M v W) (hb : Below W.heap.size W W') : ROp M v W' := by obtain ⟨g, h1, h2, h3⟩ := h; exact ⟨g, h1, h2, blk_below h3 hb (blk_lt h3)⟩
theorem set7 {w : World} {g : Nat} {x0 x1 x2 x3 x4 x5 x6 a0 a1 a2 a3 a4 a5 a6 : Value} {t : TypeId} (h : w.heap[g]? = some (.cells #[x0, x1, x2, x3, x4, x5, x6] t)) :
    (((((((w.setCell ⟨g, 0, none⟩ a0).setCell ⟨g, 1, none⟩ a1).setCell ⟨g, 2, none⟩ a2).setCell ⟨g, 3, none⟩ a3).setCell ⟨g, 4, none⟩ a4).setCell ⟨g, 5, none⟩ a5).setCell ⟨g, 6, none⟩ a6).heap[g]? = some (.cells #[a0, a1, a2, a3, a4, a5, a6] t) :=
  blk_set (cs := [_, _, _, _, _, _, _]) (blk_set (cs := [_, _, _, _, _, _, _]) (blk_set (cs := [_, _, _, _, _, _, _]) (blk_set (cs := [_, _, _, _, _, _, _]) (blk_set (cs := [_, _, _, _, _, _, _]) (blk_set (cs := [_, _, _, _, _, _, _]) (blk_set (cs := [_, _, _, _, _, _, _]) h 0 a0) 1 a1) 2 a2) 3 a3) 4 a4) 5 a5) 6 a6
def rB (rk : Int) (b ob n vv : Int) : Int := if rk = 1 then atq b ob else if rk = 5 ∨ rk = 6 then atq b n else atq b vv
def rC (rk : Int) (c fi : Int) : Int := if rk = 3 ∨ rk = 4 then atq c fi else 0
theorem rightO_le (vv ob fi : Int) (n : Nat) (o : O) (h : ¬ 5 < rkind o.kind) : rightO vv ob fi n o = ⟨rkind o.kind, atq o.fn n, atq o.a vv, rB (rkind o.kind) o.b ob n vv, rC (rkind o.kind) o.c fi, [], 0⟩ := by
  unfold rightO rB rC
  rw [if_neg h]
  congr 1
  by_cases h1 : rkind o.kind = 1
  · simp [h1]
  · by_cases h5 : rkind o.kind = 5
    · simp [h5]
    · have h6 : ¬ rkind o.kind = 6 := by omega
      simp [h1, h5, h6]
theorem rightO_gt (vv ob fi : Int) (n : Nat) (o : O) (h : 5 < rkind o.kind) : rightO vv ob fi n o = ⟨rkind o.kind, atq o.fn n, atq o.a (vv + 1) - 1, rB (rkind o.kind) o.b ob n vv, rC (rkind o.kind) o.c fi, varsq vv o.args, o.heat⟩ := by
  obtain ⟨k1, k2⟩ := rkind_range o.kind
  unfold rightO rB rC
  rw [if_pos h]
  have h1 : ¬ rkind o.kind = 1 := by omega
  have h34 : ¬ (rkind o.kind = 3 ∨ rkind o.kind = 4) := by omega
  rw [if_neg h34]
  congr 1
  by_cases h6 : rkind o.kind = 6
  · simp [h6]
  · have h5 : ¬ rkind o.kind = 5 := by omega
    simp [h1, h5, h6]
theorem rightO_heat (vv ob fi : Int) (n : Nat) (o : O) (h : o.heat < 18446744073709551616) : (rightO vv ob fi n o).heat < 18446744073709551616 := by
  unfold rightO
  split
  · exact h
  · show (0 : Nat) < 18446744073709551616; decide
theorem lit1 (w : World) {M : Nat} (c : List Value) (t : TypeId) (k : Nat) (h : c.length = k) (hk : 0 < k) (hM : M ≤ w.heap.size) : (w.alloc (.cells c.toArray t)).ownsRow M t k (.slice (some ⟨w.heap.size, 0, none⟩) 1 1) 1 c :=
  ⟨by omega, .inr ⟨w.heap.size, 1, c.toArray, rfl, hM, heap_last _ _ _ rfl, Nat.le_refl _, by unfold maxLen; omega, by simp; omega, by rw [List.take_of_length_le (by simp; omega)]⟩⟩
end Pm
end Go.Proofs.Ytnhgoeoffjcooaa
