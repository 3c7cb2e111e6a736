/-
  A disk that is to be down behind so many writes: plain mathematics.
-/
import Derived.Test.YtojbanknbgihgaaDiskLaw
namespace Go.Proofs.Ytojbanknbgihgaa
open Go.RowKit
namespace Dsk
open B

/-- so many writes went well of those that may -/
structure Dn (h ok : Int) (d : D) : Prop where
  len : d.now.length = 4
  wr : d.writes = ok
  o0 : 0 ≤ ok
  o1 : ok ≤ h
  h1 : h ≤ 30
  st : (d.down = false ∧ d.halt = h - ok) ∨ (d.down = true ∧ ok = h)
theorem dn_new {h : Int} (h0 : 0 ≤ h) (h1 : h ≤ 30) : Dn h 0 (halt (new 4) h) := ⟨rfl, rfl, Int.le_refl _, h0, h1, .inl ⟨rfl, by show h = h - 0; omega⟩⟩
theorem dn_turn {h ok : Int} {d : D} (hd : Dn h ok d) (hn : d.down = false) : ((turn d).2 = true ∧ ok + 1 ≤ h ∧ Dn h (ok + 1) (turn d).1) ∨ ((turn d).2 = false ∧ ok = h ∧ Dn h ok (turn d).1) := by
  obtain ⟨a1, a2, a3, a4, a5, a6⟩ := hd
  rcases a6 with ⟨b1, b2⟩ | ⟨b1, _⟩
  · unfold turn
    by_cases hz : d.halt = 0
    · rw [if_pos hz]
      exact .inr ⟨rfl, by omega, ⟨a1, a2, a3, a4, a5, .inr ⟨rfl, by omega⟩⟩⟩
    · rw [if_neg hz]
      refine .inl ⟨rfl, by omega, ⟨a1, by show d.writes + 1 = _; omega, by omega, by omega, a5, .inl ⟨b1, ?_⟩⟩⟩
      show (if 0 < d.halt then d.halt - 1 else d.halt) = _
      rw [if_pos (by omega)]; omega
  · rw [hn] at b1; cases b1
theorem dn_write {h ok : Int} {d : D} (hd : Dn h ok d) (i : Int) (s : ByteArray) (i0 : 0 ≤ i) (i1 : i < 4) (hs : s.size ≤ 256) :
    ((write d i s).2 = 0 ∧ ok + 1 ≤ h ∧ Dn h (ok + 1) (write d i s).1) ∨ ((write d i s).2 = 6 ∧ ok = h ∧ Dn h ok (write d i s).1) := by
  unfold write
  cases hn : d.down with
  | true =>
    rcases hd.st with ⟨b1, _⟩ | ⟨_, b2⟩
    · rw [hn] at b1; cases b1
    · exact .inr ⟨rfl, b2, hd⟩
  | false =>
    have hl := hd.len
    rw [if_neg (by decide), if_neg (by omega), if_neg (by omega)]
    rcases dn_turn hd hn with ⟨e, ho, a1, a2, a3, a4, a5, a6⟩ | ⟨e, ho, hx⟩
    · simp only [e, if_true]
      exact .inl ⟨trivial, ho, ⟨by simpa using a1, a2, a3, a4, a5, a6⟩⟩
    · simp only [e, Bool.false_eq_true, if_false]
      exact .inr ⟨trivial, ho, hx⟩
theorem dn_flush {h ok : Int} {d : D} (hd : Dn h ok d) :
    ((flush d).2 = 0 ∧ ok + 1 ≤ h ∧ Dn h (ok + 1) (flush d).1) ∨ ((flush d).2 = 6 ∧ ok = h ∧ Dn h ok (flush d).1) := by
  unfold flush
  cases hn : d.down with
  | true =>
    rcases hd.st with ⟨b1, _⟩ | ⟨_, b2⟩
    · rw [hn] at b1; cases b1
    · exact .inr ⟨rfl, b2, hd⟩
  | false =>
    simp only [Bool.false_eq_true, if_false]
    rcases dn_turn hd hn with ⟨e, ho, a1, a2, a3, a4, a5, a6⟩ | ⟨e, ho, hx⟩
    · simp only [e, if_true]
      exact .inl ⟨trivial, ho, ⟨a1, a2, a3, a4, a5, a6⟩⟩
    · simp only [e, Bool.false_eq_true, if_false]
      exact .inr ⟨trivial, ho, hx⟩
/-- behind a crash a write goes well, and a flush -/
theorem up_write {d : D} (ch : List Int) (h : 0 < d.now.length) {s : ByteArray} (hs : s.size ≤ 256) : (write (crash d ch) 0 s).2 = 0 ∧ (write (crash d ch) 0 s).1.down = false ∧ (write (crash d ch) 0 s).1.halt = -1 ∧ (write (crash d ch) 0 s).1.writes = d.writes + 1 := by
  have hl : (crash d ch).now.length = d.now.length := crashFrom_len _ _ _ _ _
  unfold write
  rw [if_neg (show ¬ (crash d ch).down = true from Bool.false_ne_true), if_neg (by omega), if_neg (by omega)]
  exact ⟨rfl, rfl, rfl, rfl⟩
theorem up_flush {d : D} (h1 : d.down = false) (h2 : d.halt = -1) : (flush d).2 = 0 := by
  have e := turn_go (d := d) (by omega)
  unfold flush
  rw [h1, if_neg (by decide)]
  simp only [e, if_true]
end Dsk
end Go.Proofs.Ytojbanknbgihgaa
