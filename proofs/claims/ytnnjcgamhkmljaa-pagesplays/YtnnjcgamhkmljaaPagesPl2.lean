/-
  PagesPlays: what each call makes of what is kept.
-/
import Derived.Test.YtnnjcgamhkmljaaPagesPlS
namespace Go.Proofs.Ytnnjcgamhkmljaa
open Go.RowKit
namespace Pp
open B Dsk
set_option linter.unusedVariables false
section
variable {S R N N' : Nat} {w wr w' : World} {b : Bl} {d d' : D} {g g' gh : Nat} {h : Int} {l0 l1 : List Pg.Pag} {H0 H1 : Option Addr} {k0 k1 : Nat}
theorem PL.mono (p : PL S R N w wr b d g gh h l0 l1 H0 H1 k0 k1) (hN : N ≤ N') : PL S R N' w wr b d g gh h l0 l1 H0 H1 k0 k1 := ⟨p.pm, p.up, p.c0, p.c1, p.rm, p.lo, p.gs, p.hg, p.r0, p.r1, by have := p.nw; omega, p.bl, p.sz⟩
theorem PL.below (p : PL S R N w wr b d g gh h l0 l1 H0 H1 k0 k1) (hb : Below wr.heap.size wr w') : PL S R N w w' b d g gh h l0 l1 H0 H1 k0 k1 :=
  ⟨p.pm.below hb, p.up, p.c0, p.c1, p.rm, p.lo, p.gs, blk_below p.hg hb (blk_lt p.hg), p.r0.below hb, p.r1.below hb, p.nw, p.bl.trans (hb.mono p.bl.size), Nat.le_trans p.sz hb.size⟩
theorem tch_g {l : List Nat} {a c : World} (ht : Tch l a c) (g : Nat) : Tch (g :: l) a c := ⟨ht.os, ht.tape, ht.output, ht.size, fun k hk hl => ht.block k hk (fun q => hl (List.mem_cons_of_mem _ q))⟩
theorem PL.gh_ne (p : PL S R N w wr b d g gh h l0 l1 H0 H1 k0 k1) : gh ∉ g :: b.l := by
  intro hx
  rcases List.mem_cons.mp hx with e | hx
  · have hp := p.pm.p
    have h3 := p.hg
    unfold Pg.PAt at hp
    rw [e, hp] at h3; injection h3 with h3; injection h3 with _ h3 _; exact absurd h3 (by decide)
  · have := p.lo gh hx; have := p.gs; omega
theorem PL.low (p : PL S R N w wr b d g gh h l0 l1 H0 H1 k0 k1) (ht : Tch (g :: b.l) wr w') : Below w.heap.size w w' := by
  refine p.bl.trans (ht.below (fun x hx => ?_) p.bl.size)
  have h1 := p.pm.my.g; have h2 := p.pm.my.bs; have h3 := p.pm.my.bm; have h4 := p.pm.gB
  simp only [List.mem_cons, List.not_mem_nil, or_false] at hx
  rcases hx with rfl | rfl | rfl | rfl <;> assumption
theorem PL.disk (p : PL S R N w wr b d g gh h l0 l1 H0 H1 k0 k1) (hd : DAt w' b d') (hi : Inv d') (hu : Pg.Up d') (hnow : d'.now = d.now) (hw : d'.writes ≤ (N' : Int)) (ht : Tch b.l wr w') : PL S R N' w w' b d' g gh h l0 l1 H0 H1 k0 k1 := by
  have hl : d'.now.length = d.now.length := by rw [hnow]
  have tg := tch_g ht g
  have hr := Pg.room_len hl
  refine ⟨⟨⟨hd, hi, p.pm.my.g, p.pm.my.bs, p.pm.my.bm⟩, p.pm.p.tch ht p.pm.gn, p.pm.gB, p.pm.gn, ⟨by rw [hl]; exact p.pm.sz.lo, by rw [hl]; exact p.pm.sz.hi⟩, p.pm.hh, p.pm.n0, by rw [hr]; exact p.pm.n1⟩, hu, p.c0.same hnow, p.c1.same hnow, by rw [hr]; exact p.rm, p.lo, p.gs, (tg.block gh (blk_lt p.hg) p.gh_ne).trans p.hg, p.r0.tch tg p.pm.p p.lo, p.r1.tch tg p.pm.p p.lo, hw, p.low tg, Nat.le_trans p.sz ht.size⟩
theorem flush_is (hu : Pg.Up d) : flush d = (⟨d.now, d.now, [], d.writes + 1, d.halt, false⟩, 0) := by
  obtain ⟨hd, hh⟩ := hu
  unfold flush turn
  rw [hd]
  have h0 : ¬ d.halt = 0 := by omega
  have h1 : ¬ 0 < d.halt := by omega
  simp [h0, h1]
theorem crash_is (ch : List Int) (hl : d.loose = []) : (crash d ch).now = d.now := by unfold crash; rw [hl]; rfl
theorem PL.next0 (p : PL S R N w wr b d g gh 0 l0 l1 H0 H1 k0 k1) : Pg.PMy w.heap.size wr b d g 0 (l0.length : Int) := by have := p.pm; rw [if_pos rfl] at this; exact this
theorem PL.cut0 {n : Nat} (p : PL S R N w wr b d g gh 0 l0 l1 H0 H1 k0 k1) (hn : n ≤ l0.length) : PL S R N w ((wr.setCell ⟨g, 2, none⟩ (.int .i64 (n : Int))).setCell ⟨gh, 0, none⟩ (.slice H0 n k0)) b d g gh 0 (l0.take n) l1 H0 H1 k0 k1 := by
  have hlt : (l0.take n).length = n := by rw [List.length_take]; omega
  have hp := p.next0
  have hne : gh ≠ g := fun e => p.gh_ne (by rw [e]; exact List.mem_cons_self)
  have hgl : g ∉ b.l := hp.gn
  have hgh : gh ∉ b.l := fun q => p.gh_ne (List.mem_cons_of_mem _ q)
  have q1 : (wr.setCell ⟨g, 2, none⟩ (.int .i64 (n : Int))).heap[gh]? = some (.cells #[.slice H0 l0.length k0, .slice H1 l1.length k1] 33) := blk_other p.hg hne _
  have ht : Tch [g, gh] wr ((wr.setCell ⟨g, 2, none⟩ (.int .i64 (n : Int))).setCell ⟨gh, 0, none⟩ (.slice H0 n k0)) := ⟨rfl, rfl, rfl, by simp, fun k hk hx => by
    simp only [List.mem_cons, List.not_mem_nil, or_false, not_or] at hx
    rw [Below.heap_setCell _ _ _ _ (by simpa using hx.2), Below.heap_setCell _ _ _ _ (by simpa using hx.1)]⟩
  have hb := fun x (hx : x ∈ b.l) (hx2 : x < wr.heap.size) => ht.block x hx2 (by
    simp only [List.mem_cons, List.not_mem_nil, or_false, not_or]
    exact ⟨fun e => hgl (e ▸ hx), fun e => hgh (e ▸ hx)⟩)
  obtain ⟨z1, z2, z3⟩ := hp.my.at'.lts
  refine ⟨?_, p.up, p.c0.take n, p.c1, p.rm, p.lo, p.gs, ?_, ?_, ?_, p.nw, (p.bl.setCell (p := ⟨g, 2, none⟩) hp.gB _).setCell (p := ⟨gh, 0, none⟩) (Nat.le_trans hp.my.g (Nat.le_of_lt (Nat.lt_of_lt_of_le (p.lo b.g (by simp)) p.gs))) _, Nat.le_trans p.sz (by simp)⟩
  · rw [if_pos rfl, hlt]
    exact ⟨⟨hp.my.at'.kept (hb _ (by simp) z1) (hb _ (by simp) z2) (hb _ (by simp) z3), hp.my.inv, hp.my.g, hp.my.bs, hp.my.bm⟩, (Below.heap_setCell _ _ _ _ (Ne.symm hne)).trans (hp.p.set n), hp.gB, hp.gn, hp.sz, hp.hh, by omega, by have := hp.n1; omega⟩
  · rw [hlt]; exact blk_set (cs := [_, _]) q1 0 _
  · exact ((p.r0.take n).put (o := .cells #[] 0) hp.p (by decide) 2 _).put (o := .cells #[] 0) q1 (by decide) 0 _
  · exact ((p.r1).put (o := .cells #[] 0) hp.p (by decide) 2 _).put (o := .cells #[] 0) q1 (by decide) 0 _
theorem PL.next1 (p : PL S R N w wr b d g gh 1 l0 l1 H0 H1 k0 k1) : Pg.PMy w.heap.size wr b d g 1 (l1.length : Int) := by have := p.pm; rw [if_neg (by decide)] at this; exact this
theorem PL.cut1 {n : Nat} (p : PL S R N w wr b d g gh 1 l0 l1 H0 H1 k0 k1) (hn : n ≤ l1.length) : PL S R N w ((wr.setCell ⟨g, 2, none⟩ (.int .i64 (n : Int))).setCell ⟨gh, 1, none⟩ (.slice H1 n k1)) b d g gh 1 l0 (l1.take n) H0 H1 k0 k1 := by
  have hlt : (l1.take n).length = n := by rw [List.length_take]; omega
  have hp := p.next1
  have hne : gh ≠ g := fun e => p.gh_ne (by rw [e]; exact List.mem_cons_self)
  have hgl : g ∉ b.l := hp.gn
  have hgh : gh ∉ b.l := fun q => p.gh_ne (List.mem_cons_of_mem _ q)
  have q1 : (wr.setCell ⟨g, 2, none⟩ (.int .i64 (n : Int))).heap[gh]? = some (.cells #[.slice H0 l0.length k0, .slice H1 l1.length k1] 33) := blk_other p.hg hne _
  have ht : Tch [g, gh] wr ((wr.setCell ⟨g, 2, none⟩ (.int .i64 (n : Int))).setCell ⟨gh, 1, none⟩ (.slice H1 n k1)) := ⟨rfl, rfl, rfl, by simp, fun k hk hx => by
    simp only [List.mem_cons, List.not_mem_nil, or_false, not_or] at hx
    rw [Below.heap_setCell _ _ _ _ (by simpa using hx.2), Below.heap_setCell _ _ _ _ (by simpa using hx.1)]⟩
  have hb := fun x (hx : x ∈ b.l) (hx2 : x < wr.heap.size) => ht.block x hx2 (by
    simp only [List.mem_cons, List.not_mem_nil, or_false, not_or]
    exact ⟨fun e => hgl (e ▸ hx), fun e => hgh (e ▸ hx)⟩)
  obtain ⟨z1, z2, z3⟩ := hp.my.at'.lts
  refine ⟨?_, p.up, p.c0, p.c1.take n, p.rm, p.lo, p.gs, ?_, ?_, ?_, p.nw, (p.bl.setCell (p := ⟨g, 2, none⟩) hp.gB _).setCell (p := ⟨gh, 1, none⟩) (Nat.le_trans hp.my.g (Nat.le_of_lt (Nat.lt_of_lt_of_le (p.lo b.g (by simp)) p.gs))) _, Nat.le_trans p.sz (by simp)⟩
  · rw [if_neg (by decide), hlt]
    exact ⟨⟨hp.my.at'.kept (hb _ (by simp) z1) (hb _ (by simp) z2) (hb _ (by simp) z3), hp.my.inv, hp.my.g, hp.my.bs, hp.my.bm⟩, (Below.heap_setCell _ _ _ _ (Ne.symm hne)).trans (hp.p.set n), hp.gB, hp.gn, hp.sz, hp.hh, by omega, by have := hp.n1; omega⟩
  · rw [hlt]; exact blk_set (cs := [_, _]) q1 1 _
  · exact ((p.r0).put (o := .cells #[] 0) hp.p (by decide) 2 _).put (o := .cells #[] 0) q1 (by decide) 1 _
  · exact ((p.r1.take n).put (o := .cells #[] 0) hp.p (by decide) 2 _).put (o := .cells #[] 0) q1 (by decide) 1 _
theorem PL.tch (p : PL S R N w wr b d g gh h l0 l1 H0 H1 k0 k1) (ht : Tch (g :: b.l) wr w') : w'.heap[gh]? = some (.cells #[.slice H0 l0.length k0, .slice H1 l1.length k1] 33) ∧ RW S w' H0 l0 k0 ∧ RW S w' H1 l1 k1 ∧ Below w.heap.size w w' ∧ S ≤ w'.heap.size :=
  ⟨(ht.block gh (blk_lt p.hg) p.gh_ne).trans p.hg, p.r0.tch ht p.pm.p p.lo, p.r1.tch ht p.pm.p p.lo, p.low ht, Nat.le_trans p.sz ht.size⟩
theorem pmy_put {B j : Nat} {next : Int} {u : Value} (q : Pg.PMy B wr b d g h next) (hne : gh ∉ g :: b.l) : Pg.PMy B (wr.setCell ⟨gh, j, none⟩ u) b d g h next := by
  have hb := fun x (hx : x ∈ g :: b.l) => Below.heap_setCell wr ⟨gh, j, none⟩ u x (fun e => hne (by rw [← show x = gh from e]; exact hx))
  exact ⟨⟨q.my.at'.kept (hb _ (by simp)) (hb _ (by simp)) (hb _ (by simp)), q.my.inv, q.my.g, q.my.bs, q.my.bm⟩, (hb g (by simp)).trans q.p, q.gB, q.gn, q.sz, q.hh, q.n0, q.n1⟩
theorem papp_tch {B : Nat} (b : Bl) (d : D) (g : Nat) (half next k : Int) (p : ByteArray) (w : World) (h : Pg.PMy B w b d g half next) (hw : d.writes < 1000000) :
    Calls Try.prog 18 #[.pointer (some ⟨g, 0, none⟩), .int .i64 k, .string p] w fun e w' => e = .returned (.tuple #[.int .i64 (Pg.papp d half next k p).2.2.1, .int .i64 (Pg.papp d half next k p).2.2.2]) ∧ Pg.PMy B w' b (Pg.papp d half next k p).1 g half (Pg.papp d half next k p).2.1 ∧ Tch (g :: b.l) w w' :=
  (Pg.papp_any b d g half next k p w h.p h.gn h.my.at' h.my.inv hw h.sz h.hh h.n0 h.n1).mono fun _ _ ⟨he, hd, hp, ht⟩ => by
    have hl := Pg.papp_len d half next k p
    exact ⟨he, ⟨⟨hd, Pg.papp_inv h.my.inv hw _ _ _ _, h.my.g, h.my.bs, h.my.bm⟩, hp, h.gB, h.gn, ⟨by rw [hl]; exact h.sz.lo, by rw [hl]; exact h.sz.hi⟩, h.hh, (Pg.papp_next h.n0 h.n1).1, by rw [Pg.room_len hl]; exact (Pg.papp_next h.n0 h.n1).2⟩, ht⟩
theorem PL.ghB (p : PL S R N w wr b d g gh h l0 l1 H0 H1 k0 k1) : w.heap.size ≤ gh := Nat.le_trans p.pm.my.g (Nat.le_of_lt (Nat.lt_of_lt_of_le (p.lo b.g (by simp)) p.gs))
theorem map_snoc {l : List Pg.Pag} {k : Int} {s : ByteArray} (hk : 0 ≤ k) : l.map toPg ++ [(k, s)] = (l ++ [(k.toNat, s)]).map toPg := by
  rw [List.map_append]
  show _ = l.map toPg ++ [((k.toNat : Int), s)]
  rw [Int.toNat_of_nonneg hk]
theorem PL.app0 {w2 : World} {gg cap : Nat} {k : Int} {s : ByteArray} (p : PL S R N w wr b d g gh 0 l0 l1 H0 H1 k0 k1) (hr : RW S wr (some ⟨gg, 0, none⟩) (l0 ++ [(k.toNat, s)]) cap) (hm : Pg.PMy w.heap.size w2 b (Pg.put d 0 (l0.length : Int) k s) g 0 ((l0.length : Int) + 1)) (ht : Tch (g :: b.l) wr w2) (hk0 : 0 ≤ k) (hk1 : k ≤ 255) (hs : s.size ≤ 240) (hl : l0.length < R) :
    PL S R (N + 1) w (w2.setCell ⟨gh, 0, none⟩ (.slice (some ⟨gg, 0, none⟩) (l0.length + 1) cap)) b (Pg.put d 0 (l0.length : Int) k s) g gh 0 (l0 ++ [(k.toNat, s)]) l1 (some ⟨gg, 0, none⟩) H1 cap k1 := by
  obtain ⟨q1, q2, q3, q4, q5⟩ := p.tch ht
  have hr2 := hr.tch ht p.pm.p p.lo
  have hln : (l0 ++ [(k.toNat, s)]).length = l0.length + 1 := by simp
  have hrm := p.rm
  refine ⟨?_, Pg.put_up p.up _ _ _ _, p.c0.put p.pm.sz (.inl rfl) (by omega) hk0 hk1 hs, p.c1.beside (.inl rfl) (.inr rfl) (by decide) (by omega) (by omega), by rw [Pg.put_room]; exact hrm, p.lo, p.gs, ?_, ?_, ?_, ?_, q4.setCell (p := ⟨gh, 0, none⟩) p.ghB _, Nat.le_trans q5 (by simp)⟩
  · rw [if_pos rfl, hln, Int.natCast_add]
    exact pmy_put hm p.gh_ne
  · rw [hln]; exact blk_set (cs := [_, _]) q1 0 _
  · exact hr2.put (o := .cells #[] 0) q1 (by decide) 0 _
  · exact q3.put (o := .cells #[] 0) q1 (by decide) 0 _
  · show d.writes + 1 ≤ _; have := p.nw; omega
theorem PL.keep0 {w2 : World} (p : PL S R N w wr b d g gh 0 l0 l1 H0 H1 k0 k1) (hm : Pg.PMy w.heap.size w2 b d g 0 (l0.length : Int)) (ht : Tch (g :: b.l) wr w2) : PL S R N w (w2.setCell ⟨gh, 0, none⟩ (.slice H0 l0.length k0)) b d g gh 0 l0 l1 H0 H1 k0 k1 := by
  obtain ⟨q1, q2, q3, q4, q5⟩ := p.tch ht
  exact ⟨by rw [if_pos rfl]; exact pmy_put hm p.gh_ne, p.up, p.c0, p.c1, p.rm, p.lo, p.gs, blk_set (cs := [_, _]) q1 0 _, q2.put (o := .cells #[] 0) q1 (by decide) 0 _, q3.put (o := .cells #[] 0) q1 (by decide) 0 _, p.nw, q4.setCell (p := ⟨gh, 0, none⟩) p.ghB _, Nat.le_trans q5 (by simp)⟩
theorem PL.open0 (p : PL S R N w wr b d g gh 0 l0 l1 H0 H1 k0 k1) (hm : Pg.PMy w.heap.size w' b d g' 1 (l1.length : Int)) (hb : Below wr.heap.size wr w') : PL S R N w w' b d g' gh 1 l0 l1 H0 H1 k0 k1 :=
  ⟨by rw [if_neg (by decide)]; exact hm, p.up, p.c0, p.c1, p.rm, p.lo, p.gs, blk_below p.hg hb (blk_lt p.hg), p.r0.below hb, p.r1.below hb, p.nw, p.bl.trans (hb.mono p.bl.size), Nat.le_trans p.sz hb.size⟩
theorem PL.other0 (p : PL S R N w wr b d g gh 0 l0 l1 H0 H1 k0 k1) (hp : Pg.PAt w' b wr.heap.size 1 0) (hb : Below wr.heap.size wr w') : PL S R N w (w'.setCell ⟨gh, 1, none⟩ (.slice none 0 0)) b d wr.heap.size gh 1 l0 [] H0 none k0 0 := by
  have q1 := blk_below p.hg hb (blk_lt p.hg)
  have hg' : wr.heap.size ∉ b.l := fun q => by have := p.lo _ q; have := p.sz; omega
  have hne : gh ∉ wr.heap.size :: b.l := by
    intro hx
    rcases List.mem_cons.mp hx with e | hx
    · have := blk_lt p.hg; omega
    · exact p.gh_ne (List.mem_cons_of_mem _ hx)
  have hm : Pg.PMy w.heap.size w' b d wr.heap.size 1 0 := ⟨p.pm.my.below hb, hp, p.bl.size, hg', p.pm.sz, .inr rfl, by omega, by omega⟩
  exact ⟨by rw [if_neg (by decide)]; exact pmy_put hm hne, p.up, p.c0, Pg.Con.nil _ _, p.rm, p.lo, p.gs, blk_set (cs := [_, _]) q1 1 _, (p.r0.below hb).put (o := .cells #[] 0) q1 (by decide) 1 _, RW.nil _ _, p.nw, (p.bl.trans (hb.mono p.bl.size)).setCell (p := ⟨gh, 1, none⟩) p.ghB _, Nat.le_trans (Nat.le_trans p.sz hb.size) (by simp)⟩
theorem PL.app1 {w2 : World} {gg cap : Nat} {k : Int} {s : ByteArray} (p : PL S R N w wr b d g gh 1 l0 l1 H0 H1 k0 k1) (hr : RW S wr (some ⟨gg, 0, none⟩) (l1 ++ [(k.toNat, s)]) cap) (hm : Pg.PMy w.heap.size w2 b (Pg.put d 1 (l1.length : Int) k s) g 1 ((l1.length : Int) + 1)) (ht : Tch (g :: b.l) wr w2) (hk0 : 0 ≤ k) (hk1 : k ≤ 255) (hs : s.size ≤ 240) (hl : l1.length < R) :
    PL S R (N + 1) w (w2.setCell ⟨gh, 1, none⟩ (.slice (some ⟨gg, 0, none⟩) (l1.length + 1) cap)) b (Pg.put d 1 (l1.length : Int) k s) g gh 1 l0 (l1 ++ [(k.toNat, s)]) H0 (some ⟨gg, 0, none⟩) k0 cap := by
  obtain ⟨q1, q2, q3, q4, q5⟩ := p.tch ht
  have hr2 := hr.tch ht p.pm.p p.lo
  have hln : (l1 ++ [(k.toNat, s)]).length = l1.length + 1 := by simp
  have hrm := p.rm
  refine ⟨?_, Pg.put_up p.up _ _ _ _, p.c0.beside (.inr rfl) (.inl rfl) (by decide) (by omega) (by omega), p.c1.put p.pm.sz (.inr rfl) (by omega) hk0 hk1 hs, by rw [Pg.put_room]; exact hrm, p.lo, p.gs, ?_, ?_, ?_, ?_, q4.setCell (p := ⟨gh, 1, none⟩) p.ghB _, Nat.le_trans q5 (by simp)⟩
  · rw [if_neg (by decide), hln, Int.natCast_add]
    exact pmy_put hm p.gh_ne
  · rw [hln]; exact blk_set (cs := [_, _]) q1 1 _
  · exact q2.put (o := .cells #[] 0) q1 (by decide) 1 _
  · exact hr2.put (o := .cells #[] 0) q1 (by decide) 1 _
  · show d.writes + 1 ≤ _; have := p.nw; omega
theorem PL.keep1 {w2 : World} (p : PL S R N w wr b d g gh 1 l0 l1 H0 H1 k0 k1) (hm : Pg.PMy w.heap.size w2 b d g 1 (l1.length : Int)) (ht : Tch (g :: b.l) wr w2) : PL S R N w (w2.setCell ⟨gh, 1, none⟩ (.slice H1 l1.length k1)) b d g gh 1 l0 l1 H0 H1 k0 k1 := by
  obtain ⟨q1, q2, q3, q4, q5⟩ := p.tch ht
  exact ⟨by rw [if_neg (by decide)]; exact pmy_put hm p.gh_ne, p.up, p.c0, p.c1, p.rm, p.lo, p.gs, blk_set (cs := [_, _]) q1 1 _, q2.put (o := .cells #[] 0) q1 (by decide) 1 _, q3.put (o := .cells #[] 0) q1 (by decide) 1 _, p.nw, q4.setCell (p := ⟨gh, 1, none⟩) p.ghB _, Nat.le_trans q5 (by simp)⟩
theorem PL.open1 (p : PL S R N w wr b d g gh 1 l0 l1 H0 H1 k0 k1) (hm : Pg.PMy w.heap.size w' b d g' 0 (l0.length : Int)) (hb : Below wr.heap.size wr w') : PL S R N w w' b d g' gh 0 l0 l1 H0 H1 k0 k1 :=
  ⟨by rw [if_pos rfl]; exact hm, p.up, p.c0, p.c1, p.rm, p.lo, p.gs, blk_below p.hg hb (blk_lt p.hg), p.r0.below hb, p.r1.below hb, p.nw, p.bl.trans (hb.mono p.bl.size), Nat.le_trans p.sz hb.size⟩
theorem PL.other1 (p : PL S R N w wr b d g gh 1 l0 l1 H0 H1 k0 k1) (hp : Pg.PAt w' b wr.heap.size 0 0) (hb : Below wr.heap.size wr w') : PL S R N w (w'.setCell ⟨gh, 0, none⟩ (.slice none 0 0)) b d wr.heap.size gh 0 [] l1 none H1 0 k1 := by
  have q1 := blk_below p.hg hb (blk_lt p.hg)
  have hg' : wr.heap.size ∉ b.l := fun q => by have := p.lo _ q; have := p.sz; omega
  have hne : gh ∉ wr.heap.size :: b.l := by
    intro hx
    rcases List.mem_cons.mp hx with e | hx
    · have := blk_lt p.hg; omega
    · exact p.gh_ne (List.mem_cons_of_mem _ hx)
  have hm : Pg.PMy w.heap.size w' b d wr.heap.size 0 0 := ⟨p.pm.my.below hb, hp, p.bl.size, hg', p.pm.sz, .inl rfl, by omega, by omega⟩
  exact ⟨by rw [if_pos rfl]; exact pmy_put hm hne, p.up, Pg.Con.nil _ _, p.c1, p.rm, p.lo, p.gs, blk_set (cs := [_, _]) q1 0 _, RW.nil _ _, (p.r1.below hb).put (o := .cells #[] 0) q1 (by decide) 0 _, p.nw, (p.bl.trans (hb.mono p.bl.size)).setCell (p := ⟨gh, 0, none⟩) p.ghB _, Nat.le_trans (Nat.le_trans p.sz hb.size) (by simp)⟩
end
end Pp
end Go.Proofs.Ytnnjcgamhkmljaa
