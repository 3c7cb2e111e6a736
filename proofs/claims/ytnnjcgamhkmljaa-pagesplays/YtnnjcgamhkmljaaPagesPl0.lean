/-
  PagesPlays: what is kept from call to call.
-/
import Derived.Test.YtnnjcgamhkmljaaPagesRds
import Derived.Test.YtnnjcgamhkmljaaPagesCon
import Derived.Laws.OwnMore
namespace Go.Proofs.Ytnnjcgamhkmljaa
open Go.RowKit
namespace Pp
open B Dsk
set_option linter.unusedVariables false
structure Ac where
  kind : Int
  k : Int
  n : Int
  s : ByteArray
  ch : List Int
  A : Option Addr
  c : Nat
def AcIn (w : World) (A : Option Addr) (acts : List Ac) : Prop := ∀ k (h : k < acts.length), ∃ b off, A = some ⟨b, off, none⟩ ∧ b < w.heap.size ∧
  w.cell? ⟨b, off + k * 5, none⟩ = some (.int .i64 acts[k].kind) ∧ w.cell? ⟨b, off + k * 5 + 1, none⟩ = some (.int .i64 acts[k].k) ∧ w.cell? ⟨b, off + k * 5 + 2, none⟩ = some (.int .i64 acts[k].n) ∧ w.cell? ⟨b, off + k * 5 + 3, none⟩ = some (.string acts[k].s) ∧ w.cell? ⟨b, off + k * 5 + 4, none⟩ = some (.slice acts[k].A acts[k].ch.length acts[k].c) ∧ At vInt w acts[k].A acts[k].ch ∧ acts[k].ch.length ≤ acts[k].c ∧ -9223372036854775808 ≤ acts[k].n ∧ acts[k].n ≤ 9223372036854775807
theorem AcIn.below {w w' : World} {A : Option Addr} {l : List Ac} (h : AcIn w A l) (hb : Below w.heap.size w w') : AcIn w' A l := fun k hk => by
  obtain ⟨b, off, h1, h2, c0, c1, c2, c3, c4, a, r⟩ := h k hk
  have f := fun j => hb.cell (p := ⟨b, j, none⟩) h2
  exact ⟨b, off, h1, Nat.lt_of_lt_of_le h2 hb.size, (f _).trans c0, (f _).trans c1, (f _).trans c2, (f _).trans c3, (f _).trans c4, a.below hb, r⟩
/-- a slice of pages of the statement's own -/
structure RW (S : Nat) (w : World) (A : Option Addr) (l : List Pg.Pag) (k : Nat) : Prop where
  n : A = none → l.length = 0 ∧ k = 0
  c : l.length ≤ k
  m : k ≤ maxLen
  r : 0 < l.length → ∃ gb off cs, A = some ⟨gb, off, none⟩ ∧ S ≤ gb ∧ w.heap[gb]? = some (.cells cs 48) ∧ ∀ j u, (cells (l.map toPg))[j]? = some u → w.cell? ⟨gb, off + j, none⟩ = some u
theorem RW.nil (S : Nat) (w : World) : RW S w none [] 0 := ⟨fun _ => ⟨rfl, rfl⟩, Nat.le_refl _, Nat.zero_le _, fun h => absurd h (by simp)⟩
theorem RW.pr {S : Nat} {w : World} {A : Option Addr} {l : List Pg.Pag} {k : Nat} (h : RW S w A l k) : PR w A (l.map toPg) := fun hp => by
  obtain ⟨gb, off, cs, h1, _, h3, h4⟩ := h.r (by simpa using hp)
  exact ⟨gb, off, h1, blk_lt h3, h4⟩
theorem RW.below {S : Nat} {w w' : World} {A : Option Addr} {l : List Pg.Pag} {k : Nat} (h : RW S w A l k) (hb : Below w.heap.size w w') : RW S w' A l k := ⟨h.n, h.c, h.m, fun hp => by
  obtain ⟨gb, off, cs, h1, h2, h3, h4⟩ := h.r hp
  exact ⟨gb, off, cs, h1, h2, blk_below h3 hb (blk_lt h3), fun j u hj => (hb.cell (p := ⟨gb, off + j, none⟩) (blk_lt h3)).trans (h4 j u hj)⟩⟩
theorem cells_same {w w' : World} {g : Nat} (h : w'.heap[g]? = w.heap[g]?) (j : Nat) : w'.cell? ⟨g, j, none⟩ = w.cell? ⟨g, j, none⟩ := by unfold World.cell?; simp only [h]
theorem RW.tch {S g : Nat} {w w' : World} {b : Bl} {half next : Int} {A : Option Addr} {l : List Pg.Pag} {k : Nat} (h : RW S w A l k) (ht : Tch (g :: b.l) w w') (hp : Pg.PAt w b g half next) (hl : ∀ x ∈ b.l, x < S) : RW S w' A l k := ⟨h.n, h.c, h.m, fun hp0 => by
  obtain ⟨gb, off, cs, h1, h2, h3, h4⟩ := h.r hp0
  have hne : gb ∉ g :: b.l := by
    intro hx
    rcases List.mem_cons.mp hx with rfl | hx
    · unfold Pg.PAt at hp; rw [hp] at h3; injection h3 with h3; injection h3 with _ h3 _; exact absurd h3 (by decide)
    · have := hl gb hx; omega
  have hb := ht.block gb (blk_lt h3) hne
  exact ⟨gb, off, cs, h1, h2, hb.trans h3, fun j u hj => (cells_same hb (off + j)).trans (h4 j u hj)⟩⟩
theorem RW.put {S g : Nat} {w : World} {A : Option Addr} {l : List Pg.Pag} {k : Nat} {o : Obj} {t : TypeId} {cs : Array Value} (h : RW S w A l k) (hg : w.heap[g]? = some (.cells cs t)) (ht : t ≠ 48) (j : Nat) (u : Value) : RW S (w.setCell ⟨g, j, none⟩ u) A l k := ⟨h.n, h.c, h.m, fun hp0 => by
  obtain ⟨gb, off, cs', h1, h2, h3, h4⟩ := h.r hp0
  have hne : gb ≠ g := by
    rintro rfl
    rw [hg] at h3; injection h3 with h3; injection h3 with _ h3 _; exact ht h3
  have hb : (w.setCell ⟨g, j, none⟩ u).heap[gb]? = w.heap[gb]? := Below.heap_setCell w ⟨g, j, none⟩ u gb hne
  exact ⟨gb, off, cs', h1, h2, hb.trans h3, fun i v hi => (cells_same hb (off + i)).trans (h4 i v hi)⟩⟩
theorem cells_take (l : List Pp.Pg) (n j : Nat) (u : Value) (h : (cells (l.take n))[j]? = some u) : (cells l)[j]? = some u := by
  have e : cells l = cells (l.take n) ++ cells (l.drop n) := by rw [← cells_app, List.take_append_drop]
  rw [e, List.getElem?_append_left (by
    rcases Nat.lt_or_ge j (cells (l.take n)).length with h1 | h1
    · exact h1
    · rw [List.getElem?_eq_none h1] at h; cases h)]
  exact h
theorem RW.take {S : Nat} {w : World} {A : Option Addr} {l : List Pg.Pag} {k : Nat} (h : RW S w A l k) (n : Nat) : RW S w A (l.take n) k := ⟨fun e => ⟨by rw [List.length_take]; have := (h.n e).1; omega, (h.n e).2⟩, by rw [List.length_take]; have := h.c; omega, h.m, fun hp => by
  rw [List.length_take] at hp
  obtain ⟨gb, off, cs, h1, h2, h3, h4⟩ := h.r (by omega)
  exact ⟨gb, off, cs, h1, h2, h3, fun j u hj => h4 j u (cells_take _ n j u (by rw [← List.map_take]; exact hj))⟩⟩
theorem RW.new {S M g cap : Nat} {w : World} {l : List Pg.Pag} (h : w.ownsRow M 48 2 (.slice (some ⟨g, 0, none⟩) l.length cap) l.length (cells (l.map toPg))) (hM : S ≤ M) : RW S w (some ⟨g, 0, none⟩) l cap := by
  rcases h.2 with ⟨hv, _⟩ | ⟨g', cap', cur, hv, hb, hg, hc, hm, hs, ht⟩
  · cases hv
  · injection hv with e1 _ e3
    injection e1 with e1
    injection e1 with e1 _ _
    subst e1 e3
    refine ⟨(fun h => by cases h), hc, hm, fun hp => ⟨g, 0, cur, rfl, by omega, hg, fun j u hj => ?_⟩⟩
    have hj2 : j < l.length * 2 := by
      rcases Nat.lt_or_ge j (l.length * 2) with h1 | h1
      · exact h1
      · rw [List.getElem?_eq_none (by rw [cells_len, List.length_map]; exact h1)] at hj; cases hj
    rw [Nat.zero_add, h.cellAt j hj2]
    exact hj
end Pp
end Go.Proofs.Ytnnjcgamhkmljaa
