/-
  The program's disk: what its small calls do (step, Halt, Flush, Read).
-/
import Derived.Test.YtnnjcgamhkmljaaDiskAt
namespace Go.Proofs.Ytnnjcgamhkmljaa
open Go.RowKit
namespace Dsk
open B

theorem DAt.row_new {w w' : World} {b : Bl} {d d' : D} {c : Nat} {left : Int} (h : DAt w b d) (ht : Tch [b.g] w w')
    (hr : w'.heap[b.g]? = some (.cells #[.slice (some ⟨b.bs, 0, none⟩) d'.now.length c, .map (some b.bm), .int .i64 d'.writes, .int .i64 left, .bool d'.down] 79)) (hl : left = d'.halt ∨ left < 0 ∧ d'.halt < 0) (h0 : -9223372036854775808 ≤ left) (h1 : left ≤ 9223372036854775807)
    (e1 : d'.now = d.now) (e2 : d'.loose = d.loose) (e3 : d'.sure = d.sure) : DAt w' b d' := by
  obtain ⟨l1, l2, l3⟩ := h.lts
  obtain ⟨row, sec, free, slt, lo, n1, n2, n3⟩ := h
  have hs : w'.heap[b.bs]? = w.heap[b.bs]? := ht.block _ l2 (by simpa using n1.symm)
  have hm : w'.heap[b.bm]? = w.heap[b.bm]? := ht.block _ l3 (by simpa using n2.symm)
  refine ⟨⟨c, left, hr, hl, h0, h1⟩, ?_, ?_, Nat.lt_of_lt_of_le slt ht.size, ?_, n1, n2, n3⟩
  · rw [e1]
    intro hp
    obtain ⟨b', off, e, hl, hc⟩ := sec hp
    injection e with e; injection e with e1 e2
    subst e1; subst e2
    refine ⟨_, _, rfl, Nat.lt_of_lt_of_le slt ht.size, fun i hi => ?_⟩
    rw [World.cell?_of_block (w := w) (by exact hs)]; exact hc i hi
  · intro i; rw [World.frozen?_of_block (w := w) (by exact hs)]; exact free i
  · rw [e2, e3]
    obtain ⟨M, ⟨es, clock, hb, r⟩, h2⟩ := lo
    exact ⟨M, ⟨es, clock, hm.trans hb, r⟩, h2⟩

def stepN (d : D) : Int := if d.halt = 0 then 6 else 0
set_option maxHeartbeats 1000000 in
theorem step_any (b : Bl) (d : D) (w : World) (h : DAt w b d) (hi : Inv d) :
    Calls Try.prog 37 #[.pointer (some ⟨b.g, 0, none⟩)] w fun e w' => e = .returned (.int .i64 (stepN d)) ∧ DAt w' b (turn d).1 ∧ Tch [b.g] w w' := by
  obtain ⟨c, left, hr, hl, h0, h1⟩ := h.row
  have w0 := hi.w0
  have w1 := hi.w1
  obtain ⟨⟨c0, c1, c2, c3, c4⟩, f0, f1, f2, f3, f4⟩ := row5 hr
  have HR := Lib.hid hr
  have HD := Lib.hid h
  clear hr h hi
  obtain ⟨now, sure, loose, ws, hal, dn⟩ := d
  simp only at hl w0 w1 c0 c1 c2 c3 c4
  rcases Int.lt_trichotomy left 0 with hlt | hlt | hlt
  · have hn : hal < 0 := by omega
    have e1 : stepN ⟨now, sure, loose, ws, hal, dn⟩ = 0 := if_neg (show ¬ hal = 0 by omega)
    have e2 : (turn ⟨now, sure, loose, ws, hal, dn⟩).1 = ⟨now, sure, loose, ws + 1, hal, dn⟩ := by
      unfold turn; simp only; rw [if_neg (show ¬ hal = 0 by omega), if_neg (by omega)]
    rw [e1, e2]
    have HL := Lib.hid hl
    have h5 : ¬ (0 < left) := by omega
    have h6 : (left == 0) = false := by rw [beq_eq_false_iff_ne]; omega
    clear e1 e2 hl
    go_enter Try.func37, Try.ntmps37
    go_wp2
    go_ret
    have ht : Tch [b.g] w (w.setCell ⟨b.g, 2, none⟩ (.int .i64 (ws + 1))) := (Tch.refl _ _).set (by simp) _
    exact ⟨rfl, HD.out.row_new ht (blk_set (cs := [_, _, _, _, _]) HR.out 2 (.int .i64 (ws + 1))) HL.out h0 h1 rfl rfl rfl, ht⟩
  · have hn : hal = 0 := by omega
    have e1 : stepN ⟨now, sure, loose, ws, hal, dn⟩ = 6 := if_pos hn
    have e2 : (turn ⟨now, sure, loose, ws, hal, dn⟩).1 = ⟨now, sure, loose, ws, hal, true⟩ := by
      unfold turn; simp only; rw [if_pos hn]
    rw [e1, e2]
    have HL := Lib.hid hl
    clear e1 e2 hl hn
    subst hlt
    go_enter Try.func37, Try.ntmps37
    go_wp2
    go_ret
    have ht : Tch [b.g] w (w.setCell ⟨b.g, 4, none⟩ (.bool true)) := (Tch.refl _ _).set (by simp) _
    exact ⟨rfl, HD.out.row_new ht (blk_set (cs := [_, _, _, _, _]) HR.out 4 (.bool true)) HL.out h0 h1 rfl rfl rfl, ht⟩
  · have hn : left = hal := by omega
    have e1 : stepN ⟨now, sure, loose, ws, hal, dn⟩ = 0 := if_neg (show ¬ hal = 0 by omega)
    have e2 : (turn ⟨now, sure, loose, ws, hal, dn⟩).1 = ⟨now, sure, loose, ws + 1, hal - 1, dn⟩ := by
      unfold turn; simp only; rw [if_neg (show ¬ hal = 0 by omega), if_pos (by omega)]
    rw [e1, e2]
    subst hn
    have h6 : (left == 0) = false := by rw [beq_eq_false_iff_ne]; omega
    clear e1 e2 hl
    go_enter Try.func37, Try.ntmps37
    go_wp2
    go_ret
    have ht : Tch [b.g] w ((w.setCell ⟨b.g, 3, none⟩ (.int .i64 (left - 1))).setCell ⟨b.g, 2, none⟩ (.int .i64 (ws + 1))) := ((Tch.refl _ _).set (by simp) _).set (by simp) _
    exact ⟨rfl, HD.out.row_new ht (blk_set (cs := [_, _, _, _, _]) (blk_set (cs := [_, _, _, _, _]) HR.out 3 (.int .i64 (left - 1))) 2 (.int .i64 (ws + 1))) (.inl rfl) (by omega) (by omega) rfl rfl rfl, ht⟩

def halt (d : D) (n : Int) : D := { d with halt := n }
/-- a sector, and why not -/
def readS (d : D) (i : Int) : ByteArray := if reach d i = 0 then d.now.getD i.toNat ⟨#[]⟩ else ⟨#[]⟩
theorem reach_ok {d : D} {i : Int} (h : reach d i = 0) : d.down = false ∧ 0 ≤ i ∧ i < (d.now.length : Int) := by
  unfold reach at h
  split at h
  · cases h
  · split at h
    · cases h
    · rename_i h1 h2; exact ⟨by simpa using h1, by omega, by omega⟩
theorem reach_or (d : D) (i : Int) : reach d i = 0 ∨ (reach d i != 0) = true := by
  by_cases h : reach d i = 0
  · exact .inl h
  · exact .inr (by simpa using h)
set_option maxHeartbeats 1000000 in
theorem read_any (b : Bl) (d : D) (i : Int) (w : World) (h : DAt w b d) :
    Calls Try.prog 34 #[.pointer (some ⟨b.g, 0, none⟩), .int .i64 i] w fun e w' => e = .returned (.tuple #[.string (readS d i), .int .i64 (reach d i)]) ∧ w = w' := by
  obtain ⟨c, left, hr, _⟩ := h.row
  obtain ⟨⟨c0, c1, c2, c3, c4⟩, f0, f1, f2, f3, f4⟩ := row5 hr
  have CR := Lib.hid (reach_any b d i w h)
  by_cases hz : reach d i = 0
  · obtain ⟨_, hp, hq⟩ := reach_ok hz
    obtain ⟨k, rfl⟩ : ∃ k : Nat, i = (k : Int) := ⟨i.toNat, by omega⟩
    have hk : k < d.now.length := by omega
    obtain ⟨b', off, he, _, hc⟩ := h.sec (by omega)
    obtain ⟨rfl, rfl⟩ : b.bs = b' ∧ 0 = off := by injection he with he; injection he with e1 e2; exact ⟨e1, e2⟩
    have ck := hc k hk
    rw [Nat.zero_add] at ck
    have hv : readS d (k : Int) = d.now[k] := by unfold readS; rw [if_pos hz]; simp [List.getD, List.getElem?_eq_getElem hk]
    rw [hz] at CR
    rw [hz, hv]
    generalize d.now[k] = x at *
    clear hz hv h hc he hr
    go_enter Try.func34, Try.ntmps34
    go_wp2_with (go_at_call 49; ((with_reducible refine CR.out.mono ?_); rintro e w' ⟨rfl, rfl⟩))
    go_ret2
    exact ⟨rfl, rfl⟩
  · have hv : readS d i = ⟨#[]⟩ := if_neg hz
    have hb : (reach d i != 0) = true := by simpa using hz
    rw [hv]
    generalize reach d i = r at *
    clear hz hv h hr
    go_enter Try.func34, Try.ntmps34
    go_wp2_with (go_at_call 49; ((with_reducible refine CR.out.mono ?_); rintro e w' ⟨rfl, rfl⟩))
    go_ret2
    exact ⟨rfl, rfl⟩
end Dsk
end Go.Proofs.Ytnnjcgamhkmljaa
