/-
  The program's own disk in memory (layer 5): what it is, and its small functions.
-/
import Derived.Test.YtnnjcgamhkmljaaDiskCrash
import Derived.Maps.OwnSet
namespace Go.Proofs.Ytnnjcgamhkmljaa
open Go.RowKit
namespace Dsk
open B

/-- how a map's element (what a loose sector was) reads -/
def elem : Value → Option (DataW Unit × List MemPlace)
  | .agg ⟨[.string s]⟩ => some (.agg [.lit (.string s.data.toList)], [])
  | _ => none
theorem elem_mk (s : ByteArray) : elem (.agg #[.string s]) = some (.agg [.lit (.string s.data.toList)], []) := rfl
theorem elem_inv {v : Value} {z : DataW Unit × List MemPlace} (h : elem v = some z) : ∃ s : ByteArray, v = .agg #[.string s] ∧ z = (.agg [.lit (.string s.data.toList)], []) := by
  unfold elem at h
  split at h
  · cases h; exact ⟨_, rfl, rfl⟩
  · cases h

/-- block bm is the map of what the loose sectors were -/
def LoAt (w : World) (bm : Nat) (loose : List Int) (sure : List ByteArray) : Prop := ∃ M : DataW Unit, w.ownsMap Try.prog 3 elem bm loose.length M ∧ (∀ k : Int, Maps.has M (.int .i64 k) = loose.contains k) ∧
  ∀ k ∈ loose, ∀ z, M.atKey (.int .i64 k) z = .agg [.lit (.string (sure.getD k.toNat ⟨#[]⟩).data.toList)]

/-- blocks that a call may have written -/
structure Tch (l : List Nat) (w w' : World) : Prop where
  os : w'.os = w.os
  tape : w'.tape = w.tape
  output : w'.output = w.output
  size : w.heap.size ≤ w'.heap.size
  block : ∀ k, k < w.heap.size → k ∉ l → w'.heap[k]? = w.heap[k]?
theorem Tch.refl (l : List Nat) (w : World) : Tch l w w := ⟨rfl, rfl, rfl, Nat.le_refl _, fun _ _ _ => rfl⟩
theorem Tch.trans {l : List Nat} {a b c : World} (h : Tch l a b) (k : Tch l b c) : Tch l a c :=
  ⟨k.os.trans h.os, k.tape.trans h.tape, k.output.trans h.output, Nat.le_trans h.size k.size, fun i hi hl => (k.block i (Nat.lt_of_lt_of_le hi h.size) hl).trans (h.block i hi hl)⟩
theorem Tch.of_below {l : List Nat} {w w' : World} (h : Below w.heap.size w w') : Tch l w w' := ⟨h.os, h.tape, h.output, h.size, fun k hk _ => h.block k hk⟩
theorem Tch.mono {l l' : List Nat} {w w' : World} (h : Tch l w w') (hl : ∀ x ∈ l, x ∈ l') : Tch l' w w' := ⟨h.os, h.tape, h.output, h.size, fun k hk hn => h.block k hk (fun hx => hn (hl k hx))⟩
theorem Tch.set {l : List Nat} {a w : World} (h : Tch l a w) {g i : Nat} (hg : g ∈ l) (v : Value) : Tch l a (w.setCell ⟨g, i, none⟩ v) :=
  h.trans ⟨rfl, rfl, rfl, by simp [World.setCell], fun k _ hn => Below.heap_setCell _ _ _ _ (by rintro rfl; exact hn hg)⟩
theorem Tch.grown {l : List Nat} {a w w' : World} {r : Nat} (h : Tch l a w) (hg : w.grownBy w' (some r)) (hr : r ∈ l) : Tch l a w' :=
  h.trans ⟨hg.os, hg.tape, hg.output, hg.size, fun k hk hn => hg.block k hk (fun e => by injection e with e; subst e; exact hn hr)⟩
theorem Tch.alloc {l : List Nat} {a w : World} (h : Tch l a w) (o : Obj) : Tch l a (w.alloc o) := h.trans (Tch.of_below ((Below.refl _ _).alloc (Nat.le_refl _) o))
theorem Tch.drewN {l : List Nat} {a w : World} (h : Tch l a w) (n : Nat) : Tch l a (w.drewN n) := ⟨h.os, h.tape, h.output, h.size, h.block⟩
theorem Tch.below {l : List Nat} {w w' : World} {Bd : Nat} (h : Tch l w w') (hl : ∀ x ∈ l, Bd ≤ x) (hB : Bd ≤ w.heap.size) : Below Bd w w' :=
  ⟨h.os, h.tape, h.output, h.size, fun k hk => h.block k (by omega) (fun hx => by have := hl k hx; omega)⟩

/-- what the numbers of a disk's blocks are: the disk's own, its sectors', its map's -/
structure Bl where
  g : Nat
  bs : Nat
  bm : Nat
abbrev Bl.l (b : Bl) : List Nat := [b.g, b.bs, b.bm]

/-- the program's disk reads as the document's -/
structure DAt (w : World) (b : Bl) (d : D) : Prop where
  row : ∃ c left, w.heap[b.g]? = some (.cells #[.slice (some ⟨b.bs, 0, none⟩) d.now.length c, .map (some b.bm), .int .i64 d.writes, .int .i64 left, .bool d.down] 79) ∧ (left = d.halt ∨ left < 0 ∧ d.halt < 0) ∧ -9223372036854775808 ≤ left ∧ left ≤ 9223372036854775807
  sec : At vStr w (some ⟨b.bs, 0, none⟩) d.now
  free : ∀ i, w.frozen? ⟨b.bs, i, none⟩ = false
  slt : b.bs < w.heap.size
  lo : LoAt w b.bm d.loose d.sure
  n1 : b.g ≠ b.bs
  n2 : b.g ≠ b.bm
  n3 : b.bs ≠ b.bm

/-- what keeps a disk in order -/
structure Inv (d : D) : Prop where
  len : d.sure.length = d.now.length
  pos : 0 < d.now.length
  big : d.now.length ≤ 65536
  full : ∀ s ∈ d.now, s.size = 256
  fulls : ∀ s ∈ d.sure, s.size = 256
  inr : ∀ x ∈ d.loose, 0 ≤ x ∧ x < (d.now.length : Int)
  rise : d.loose.Pairwise (· < ·)
  same : ∀ k : Nat, k < d.now.length → (k : Int) ∉ d.loose → d.sure.getD k ⟨#[]⟩ = d.now.getD k ⟨#[]⟩
  w0 : 0 ≤ d.writes
  w1 : d.writes ≤ 1000000

theorem DAt.kept {w w' : World} {b : Bl} {d : D} (h : DAt w b d) (hg : w'.heap[b.g]? = w.heap[b.g]?) (hs : w'.heap[b.bs]? = w.heap[b.bs]?) (hm : w'.heap[b.bm]? = w.heap[b.bm]?) : DAt w' b d := by
  obtain ⟨row, sec, free, slt, lo, n1, n2, n3⟩ := h
  refine ⟨?_, ?_, ?_, ?_, ?_, n1, n2, n3⟩
  · rw [hg]; exact row
  · intro hp
    obtain ⟨b', off, e, hl, hc⟩ := sec hp
    injection e with e; injection e with e1 e2
    subst e1; subst e2
    refine ⟨_, _, rfl, ?_, fun i hi => ?_⟩
    · rw [Array.getElem?_eq_getElem slt] at hs
      exact blk_lt hs
    · rw [World.cell?_of_block (w := w) (by exact hs)]; exact hc i hi
  · intro i; rw [World.frozen?_of_block (w := w) (by exact hs)]; exact free i
  · rw [Array.getElem?_eq_getElem slt] at hs; exact blk_lt hs
  · obtain ⟨M, ⟨es, clock, hb, r⟩, h2⟩ := lo
    exact ⟨M, ⟨es, clock, hm.trans hb, r⟩, h2⟩
theorem DAt.lts {w : World} {b : Bl} {d : D} (h : DAt w b d) : b.g < w.heap.size ∧ b.bs < w.heap.size ∧ b.bm < w.heap.size := by
  obtain ⟨⟨c, left, hr, _⟩, sec, free, slt, ⟨M, hm, _⟩, _⟩ := h
  exact ⟨blk_lt hr, slt, hm.lt⟩
theorem DAt.tch {w w' : World} {b : Bl} {d : D} {l : List Nat} (h : DAt w b d) (ht : Tch l w w') (hn : b.g ∉ l ∧ b.bs ∉ l ∧ b.bm ∉ l) : DAt w' b d := by
  obtain ⟨h1, h2, h3⟩ := h.lts
  exact h.kept (ht.block _ h1 hn.1) (ht.block _ h2 hn.2.1) (ht.block _ h3 hn.2.2)
theorem DAt.below {w w' : World} {b : Bl} {d : D} (h : DAt w b d) (hb : Below w.heap.size w w') : DAt w' b d := h.tch (Tch.of_below (l := []) hb) (by simp)

/-- the five cells of a disk -/
theorem row5 {w : World} {g : Nat} {a b c d e : Value} {t : TypeId} (h : w.heap[g]? = some (.cells #[a, b, c, d, e] t)) :
    (w.cell? ⟨g, 0, none⟩ = some a ∧ w.cell? ⟨g, 1, none⟩ = some b ∧ w.cell? ⟨g, 2, none⟩ = some c ∧ w.cell? ⟨g, 3, none⟩ = some d ∧ w.cell? ⟨g, 4, none⟩ = some e) ∧
    (w.frozen? ⟨g, 0, none⟩ = false ∧ w.frozen? ⟨g, 1, none⟩ = false ∧ w.frozen? ⟨g, 2, none⟩ = false ∧ w.frozen? ⟨g, 3, none⟩ = false ∧ w.frozen? ⟨g, 4, none⟩ = false) := by
  unfold World.cell? World.frozen?
  rw [h]; simp

set_option maxHeartbeats 1000000 in
theorem size_any (b : Bl) (d : D) (w : World) (h : DAt w b d) :
    Calls Try.prog 7 #[.pointer (some ⟨b.g, 0, none⟩)] w fun e w' => e = .returned (.int .i64 d.now.length) ∧ w = w' := by
  obtain ⟨c, left, hr, _⟩ := h.row
  obtain ⟨⟨c0, c1, c2, c3, c4⟩, _⟩ := row5 hr
  clear hr h
  go_enter Try.func7, Try.ntmps7
  go_wp2
  go_ret
  exact ⟨rfl, rfl⟩
/-- why a sector can't be come to -/
def reach (d : D) (i : Int) : Int := if d.down then 6 else if i < 0 ∨ (d.now.length : Int) ≤ i then 7 else 0
set_option maxHeartbeats 1000000 in
theorem reach_any (b : Bl) (d : D) (i : Int) (w : World) (h : DAt w b d) :
    Calls Try.prog 49 #[.pointer (some ⟨b.g, 0, none⟩), .int .i64 i] w fun e w' => e = .returned (.int .i64 (reach d i)) ∧ w = w' := by
  obtain ⟨c, left, hr, _⟩ := h.row
  obtain ⟨⟨c0, c1, c2, c3, c4⟩, _⟩ := row5 hr
  clear hr h
  unfold reach
  obtain ⟨now, sure, loose, ws, hl, dn⟩ := d
  simp only at *
  cases dn with
  | true =>
    go_enter Try.func49, Try.ntmps49
    go_wp2
    go_ret
    exact ⟨rfl, rfl⟩
  | false =>
    by_cases h1 : i < 0
    · have e : (if i < 0 ∨ (now.length : Int) ≤ i then (7 : Int) else 0) = 7 := if_pos (.inl h1)
      rw [if_neg (by decide), e]
      clear e
      go_enter Try.func49, Try.ntmps49
      go_wp2
      go_ret
      exact ⟨rfl, rfl⟩
    · by_cases h2 : (now.length : Int) ≤ i
      · have e : (if i < 0 ∨ (now.length : Int) ≤ i then (7 : Int) else 0) = 7 := if_pos (.inr h2)
        rw [if_neg (by decide), e]
        clear e
        go_enter Try.func49, Try.ntmps49
        go_wp2
        go_ret
        exact ⟨rfl, rfl⟩
      · have e : (if i < 0 ∨ (now.length : Int) ≤ i then (7 : Int) else 0) = 0 := if_neg (by omega)
        rw [if_neg (by decide), e]
        clear e
        go_enter Try.func49, Try.ntmps49
        go_wp2
        go_ret
        exact ⟨rfl, rfl⟩
end Dsk
end Go.Proofs.Ytnnjcgamhkmljaa
