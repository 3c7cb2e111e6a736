/-
  The walk of the statement RootWhole: what is in memory.
-/
import Derived.Test.YtojbanknbgihgaaDoorRootFew
import Derived.Test.YtojbanknbgihgaaDoorRootAw
namespace Go.Proofs.YtojbanknbgihgaaDoor
open Go.RowKit
namespace Rt
open B Dsk

/-- a root that is published, and how that is broken off -/
structure T where
  r : R
  after : Int
  ch : List Int
  A : Option Addr
  c : Nat
def TrysAt (w : World) (A : Option Addr) (l : List T) : Prop := ∀ k (h : k < l.length), ∃ b off, A = some ⟨b, off, none⟩ ∧ b < w.heap.size ∧
  w.cell? ⟨b, off + k * 8, none⟩ = some (.int .u64 (l[k].r.ep : Int)) ∧ w.cell? ⟨b, off + k * 8 + 1, none⟩ = some (.int .i64 l[k].r.half) ∧ w.cell? ⟨b, off + k * 8 + 2, none⟩ = some (.int .i64 l[k].r.page) ∧
  w.cell? ⟨b, off + k * 8 + 3, none⟩ = some (.int .i64 l[k].r.next) ∧ w.cell? ⟨b, off + k * 8 + 4, none⟩ = some (.int .i64 l[k].r.count) ∧ w.cell? ⟨b, off + k * 8 + 5, none⟩ = some (.int .i64 l[k].r.height) ∧
  w.cell? ⟨b, off + k * 8 + 6, none⟩ = some (.int .i64 l[k].after) ∧ w.cell? ⟨b, off + k * 8 + 7, none⟩ = some (.slice l[k].A l[k].ch.length l[k].c) ∧ At vInt w l[k].A l[k].ch ∧ l[k].ch.length ≤ l[k].c
theorem TrysAt.below {w w' : World} {A : Option Addr} {l : List T} (h : TrysAt w A l) (hb : Below w.heap.size w w') : TrysAt w' A l := by
  intro k hk
  obtain ⟨b, off, e, hl, h0, h1, h2, h3, h4, h5, h6, h7, h8, r⟩ := h k hk
  exact ⟨b, off, e, Nat.lt_of_lt_of_le hl hb.size, (hb.cell (p := ⟨b, _, none⟩) hl).trans h0, (hb.cell (p := ⟨b, _, none⟩) hl).trans h1, (hb.cell (p := ⟨b, _, none⟩) hl).trans h2, (hb.cell (p := ⟨b, _, none⟩) hl).trans h3, (hb.cell (p := ⟨b, _, none⟩) hl).trans h4, (hb.cell (p := ⟨b, _, none⟩) hl).trans h5, (hb.cell (p := ⟨b, _, none⟩) hl).trans h6, (hb.cell (p := ⟨b, _, none⟩) hl).trans h7, h8.below hb, r⟩

def rc (r : R) : List Value := [.int .u64 (r.ep : Int), .int .i64 r.half, .int .i64 r.page, .int .i64 r.next, .int .i64 r.count, .int .i64 r.height]
def mc (l : List R) : List Value := l.flatMap rc
theorem mc_len (l : List R) : (mc l).length = l.length * 6 := by
  induction l with
  | nil => rfl
  | cons r l ih => show (rc r ++ mc l).length = _; rw [List.length_append, ih, List.length_cons]; show 6 + _ = _; omega
theorem mc_append (l m : List R) : mc (l ++ m) = mc l ++ mc m := by simp [mc]
theorem mc_get : ∀ (l : List R) (k j : Nat) (_ : j < 6) (hk : k < l.length), (mc l)[k * 6 + j]? = (rc l[k])[j]?
  | r :: l, 0, j, hj, _ => by show (rc r ++ mc l)[0 * 6 + j]? = _; rw [List.getElem?_append_left (by show _ < 6; omega)]; simp
  | r :: l, k + 1, j, hj, hk => by
    show (rc r ++ mc l)[(k + 1) * 6 + j]? = _
    rw [List.getElem?_append_right (by show 6 ≤ _; omega)]
    have e : (k + 1) * 6 + j - (rc r).length = k * 6 + j := by show _ - 6 = _; omega
    rw [e, mc_get l k j hj (by simpa using hk)]
    simp
/-- the roots that may be found, in memory of the call's own, apart from the disk -/
structure MayAt (B : Nat) (b : Bl) (w : World) (v : Value) (ml : List R) : Prop where
  own : w.ownsRow B 24 6 v ml.length (mc ml)
  low : ∀ x ∈ b.l, x < B
theorem MayAt.tch {B : Nat} {b : Bl} {w w' : World} {v : Value} {ml : List R} {l : List Nat} (h : MayAt B b w v ml) (ht : Tch l w w') (hl : ∀ x ∈ l, x ∈ b.l) : MayAt B b w' v ml := by
  refine ⟨⟨h.own.1, ?_⟩, h.low⟩
  rcases h.own.2 with hn | ⟨g, cap, cur, rfl, hb, hgg, rest⟩
  · exact .inl hn
  · exact .inr ⟨g, cap, cur, rfl, hb, (ht.block g (blk_lt hgg) (fun hx => by have := h.low g (hl g hx); omega)).trans hgg, rest⟩
theorem MayAt.below {B : Nat} {b : Bl} {w w' : World} {v : Value} {ml : List R} (h : MayAt B b w v ml) (hb : Below w.heap.size w w') : MayAt B b w' v ml := h.tch (Tch.of_below (l := []) hb) (by simp)
theorem MayAt.nil {B : Nat} {b : Bl} (w : World) (h : ∀ x ∈ b.l, x < B) : MayAt B b w (.slice none 0 0) [] := ⟨World.ownsRow_nil _ _ _ _, h⟩
theorem MayAt.len {B : Nat} {b : Bl} {w : World} {v : Value} {ml : List R} (h : MayAt B b w v ml) : ∃ A cap, v = .slice A ml.length cap := by
  rcases h.own.2 with ⟨rfl, hn⟩ | ⟨g, cap, cur, rfl, _⟩
  · exact ⟨none, 0, by rw [hn]⟩
  · exact ⟨_, _, rfl⟩
theorem MayAt.get {B : Nat} {b : Bl} {w : World} {A : Option Addr} {cap : Nat} {ml : List R} (h : MayAt B b w (.slice A ml.length cap) ml) {k : Nat} (hk : k < ml.length) : ∃ g, A = some ⟨g, 0, none⟩ ∧ B ≤ g ∧ g < w.heap.size ∧
    w.cell? ⟨g, k * 6, none⟩ = some (.int .u64 (ml[k].ep : Int)) ∧ w.cell? ⟨g, k * 6 + 1, none⟩ = some (.int .i64 ml[k].half) ∧ w.cell? ⟨g, k * 6 + 2, none⟩ = some (.int .i64 ml[k].page) ∧ w.cell? ⟨g, k * 6 + 3, none⟩ = some (.int .i64 ml[k].next) ∧ w.cell? ⟨g, k * 6 + 4, none⟩ = some (.int .i64 ml[k].count) ∧ w.cell? ⟨g, k * 6 + 5, none⟩ = some (.int .i64 ml[k].height) := by
  rcases h.own.2 with ⟨_, hn⟩ | ⟨g, cap', cur, he, hb, hgg, _⟩
  · omega
  · injection he with he1 _ _
    subst he1
    have hc := h.own.cells (g := g) rfl
    have hcell : ∀ j (hj : j < 6) u, (rc ml[k])[j]? = some u → w.cell? ⟨g, k * 6 + j, none⟩ = some u := fun j hj u hu => by
      have := hc (k * 6 + j) u ((mc_get ml k j hj hk).trans hu)
      rw [add_plain0] at this
      exact this
    exact ⟨g, rfl, hb, blk_lt hgg, hcell 0 (by omega) _ rfl, hcell 1 (by omega) _ rfl, hcell 2 (by omega) _ rfl, hcell 3 (by omega) _ rfl, hcell 4 (by omega) _ rfl, hcell 5 (by omega) _ rfl⟩
theorem rinfo6 : (Tryd.prog.info? 24).map (fun i => (i.zero, i.size, i.bytes)) = some (some (.agg #[.int .u64 0, .int .i64 0, .int .i64 0, .int .i64 0, .int .i64 0, .int .i64 0]), 6, 48) := by kernel_rfl
theorem rc_new (W : World) (r : R) (g : Nat) (hg : g = W.heap.size) : ∀ j u, (rc r)[j]? = some u → (W.alloc (.cells #[.int .u64 (r.ep : Int), .int .i64 r.half, .int .i64 r.page, .int .i64 r.next, .int .i64 r.count, .int .i64 r.height] 24)).cell? ((⟨g, 0, none⟩ : Addr).add j) = some u := by
  intro j u hu
  rw [add_plain0]
  exact (row_cell (cs := rc r) (heap_last W _ g hg) j).trans hu
theorem rc_one (r : R) : ∀ u ∈ rc r, u.oneCell' = true := by
  intro u hu
  simp [rc] at hu
  rcases hu with rfl | rfl | rfl | rfl | rfl | rfl <;> rfl
theorem may_one {B : Nat} {b : Bl} (W : World) (r : R) (hB : B ≤ W.heap.size) (h : ∀ x ∈ b.l, x < B) : MayAt B b (W.alloc (.cells #[.int .u64 (r.ep : Int), .int .i64 r.half, .int .i64 r.page, .int .i64 r.next, .int .i64 r.count, .int .i64 r.height] 24)) (.slice (some ⟨W.heap.size, 0, none⟩) 1 1) [r] :=
  ⟨World.ownsRow_lit W #[.int .u64 (r.ep : Int), .int .i64 r.half, .int .i64 r.page, .int .i64 r.next, .int .i64 r.count, .int .i64 r.height] 1 hB (by unfold maxLen; omega) rfl, h⟩
theorem may_more {B : Nat} {b : Bl} {w' : World} {v' : Value} {ml : List R} {r : R} (h : w'.ownsRow B 24 6 v' (ml.length + 1) (mc ml ++ rc r)) (hl : ∀ x ∈ b.l, x < B) : MayAt B b w' v' (ml ++ [r]) := by
  refine ⟨?_, hl⟩
  rw [mc_append, List.length_append]
  have e : mc [r] = rc r := by simp [mc]
  rw [e]
  exact h
/-- what is found is what may be -/
def Found (ml : List R) (nn : Bool) (nr : R × Int) : Prop := (nr.2 < 0 → nn = true ∧ nr.1 = R0) ∧ (0 ≤ nr.2 → ∃ y ∈ ml, ({ y with ep := nr.1.ep } : R) = nr.1)
theorem found_new : Found [] true (newR (n0 (new 3)) (n1 (new 3))) := by
  have e : newR (n0 (new 3)) (n1 (new 3)) = (R0, -1) := newR_zero
  rw [e]
  exact ⟨fun _ => ⟨rfl, rfl⟩, fun h => absurd h (by decide)⟩
theorem found_more {ml : List R} {nn : Bool} {nr nr' : R × Int} {x x0 : R} (h : Found ml nn nr) (hx : ({ x0 with ep := x.ep } : R) = x) (h' : nr' = nr ∨ nr'.1 = x ∧ 0 ≤ nr'.2) : Found (ml ++ [x0]) nn nr' := by
  rcases h' with rfl | ⟨h1, h2⟩
  · exact ⟨h.1, fun h0 => by obtain ⟨y, hy, e⟩ := h.2 h0; exact ⟨y, List.mem_append_left _ hy, e⟩⟩
  · exact ⟨fun h0 => by omega, fun _ => ⟨x0, by simp, by rw [h1]; exact hx⟩⟩
theorem found_one {nn : Bool} {nr : R × Int} {x : R} (h1 : nr.1 = x) (h2 : 0 ≤ nr.2) : Found [x] nn nr := ⟨fun h0 => by omega, fun _ => ⟨x, by simp, by rw [h1]⟩⟩
theorem not_l {w : World} {b : Bl} {d : D} {g : Nat} (h : DAt w b d) (hg : w.heap.size ≤ g) : g ∉ b.l := by
  obtain ⟨l1, l2, l3⟩ := h.lts
  simp only [List.mem_cons, List.not_mem_nil, or_false]; omega
theorem low_l {w : World} {b : Bl} {d : D} (h : DAt w b d) : ∀ x ∈ b.l, x < w.heap.size := by
  obtain ⟨l1, l2, l3⟩ := h.lts
  intro x hx
  simp only [List.mem_cons, List.not_mem_nil, or_false] at hx; omega
theorem apart_l {w0 w : World} {b : Bl} {d : D} (h : My w0.heap.size w b d) {A : Option Addr} {l : List Int} (hA : At vInt w0 A l) : 0 < l.length → ∀ a, A = some a → a.block ∉ b.l := h.apart hA
theorem low_b {B : Nat} {b : Bl} {w w' : World} (hg : B ≤ b.g ∧ B ≤ b.bs ∧ B ≤ b.bm) (ht : Tch b.l w w') (hB : B ≤ w.heap.size) : Below B w w' := by
  refine ht.below (fun x hx => ?_) hB
  obtain ⟨h1, h2, h3⟩ := hg
  simp only [List.mem_cons, List.not_mem_nil, or_false] at hx
  rcases hx with rfl | rfl | rfl <;> assumption
theorem dat_low {B : Nat} {w w' : World} {b : Bl} {d : D} (h : DAt w b d) (hl : ∀ x ∈ b.l, x < B) (hb : Below B w w') : DAt w' b d :=
  h.kept (hb.block _ (hl _ (by simp))) (hb.block _ (hl _ (by simp))) (hb.block _ (hl _ (by simp)))
theorem my_lower {B B' : Nat} {w : World} {b : Bl} {d : D} (h : My B w b d) (hB : B' ≤ B) : My B' w b d := ⟨h.at', h.inv, Nat.le_trans hB h.g, Nat.le_trans hB h.bs, Nat.le_trans hB h.bm⟩
end Rt
end Go.Proofs.YtojbanknbgihgaaDoor
