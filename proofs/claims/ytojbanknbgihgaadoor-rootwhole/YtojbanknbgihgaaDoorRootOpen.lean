/-
  What spare, read and Open do (package root).
-/
import Derived.Test.YtojbanknbgihgaaDoorRootNew
import Derived.Test.YtojbanknbgihgaaDoorDiskLaw
namespace Go.Proofs.YtojbanknbgihgaaDoor
open Go.RowKit
namespace Rt
open B Dsk

set_option maxRecDepth 100000 in
set_option maxHeartbeats 2000000 in
theorem spare_any (a b : ByteArray) (w : World) (hL : Lst w) (ha : a.size = 256) (hb : b.size = 256) :
    Calls Tryd.prog 24 #[.agg #[.string a, .string b]] w fun e w' => e = .returned (.int .i64 (spare a b : Int)) ∧ Below w.heap.size w w' := by
  have hs0 := hL.1
  have b0 := (Below.refl w.heap.size w).alloc (Nat.le_refl _) (.cells #[.string a, .string b] 59)
  have cn := newest_any a b (w.alloc (.cells #[.string a, .string b] 59)) (hL.below b0 hs0) ha hb
  have HS : Hid (spare a b = if (newR a b).2 = 0 then 1 else 0) := rfl
  have B0 := Lib.hid b0
  clear b0 hL
  generalize newR a b = nr at *
  obtain ⟨r, at'⟩ := nr
  dsimp only [rv] at cn
  have CN := Lib.hid cn
  clear cn
  by_cases h : at' = 0
  · have hb0 : (at' == 0) = true := by simpa using h
    have HE : Hid (spare a b = 1) := by rw [Hid, HS.out]; exact if_pos h
    clear h HS
    go_enter Tryd.func24, Tryd.ntmps24
    go_wp2_with (go_at_call 21; ((with_reducible refine CN.out.mono ?_); rintro e w2 ⟨rfl, hb2⟩; have B2 := Lib.hid (B0.out.trans (hb2.mono (by simp))); clear hb2))
    go_ret
    exact ⟨B.ret_int (by rw [HE.out]; rfl), B2.out.alloc B2.out.size _⟩
  · have hb0 : (at' == 0) = false := by simpa using h
    have HE : Hid (spare a b = 0) := by rw [Hid, HS.out]; exact if_neg h
    clear h HS
    go_enter Tryd.func24, Tryd.ntmps24
    go_wp2_with (go_at_call 21; ((with_reducible refine CN.out.mono ?_); rintro e w2 ⟨rfl, hb2⟩; have B2 := Lib.hid (B0.out.trans (hb2.mono (by simp))); clear hb2))
    go_ret
    exact ⟨B.ret_int (by rw [HE.out]; rfl), B2.out.alloc B2.out.size _⟩

/-- block g is the slots of the disk b -/
def SAt (w : World) (g : Nat) (b : Bl) : Prop := w.heap[g]? = some (.cells #[.pointer (some ⟨b.g, 0, none⟩)] 58)
theorem SAt.cell {w : World} {g : Nat} {b : Bl} (h : SAt w g b) : w.cell? ⟨g, 0, none⟩ = some (.pointer (some ⟨b.g, 0, none⟩)) := row_cell (cs := [_]) h 0
theorem SAt.below {w w' : World} {g : Nat} {b : Bl} (h : SAt w g b) (hb : Below w.heap.size w w') : SAt w' g b := blk_below h hb (blk_lt h)
theorem set2 {w : World} {g : Nat} {a0 a1 : Value} {t : TypeId} (h : w.heap[g]? = some (.cells #[a0, a1] t)) (v : Value) : (w.setCell ⟨g, 0, none⟩ v).heap[g]? = some (.cells #[v, a1] t) ∧ (w.setCell ⟨g, 1, none⟩ v).heap[g]? = some (.cells #[a0, v] t) :=
  ⟨blk_set (cs := [_, _]) h 0 v, blk_set (cs := [_, _]) h 1 v⟩
theorem two {w : World} {g : Nat} {a b : Value} (h0 : w.cell? ⟨g, 0, none⟩ = some a) (h1 : w.cell? ⟨g, 1, none⟩ = some b) : ∀ j v, [a, b][j]? = some v → w.cell? ⟨g, j, none⟩ = some v := by
  intro j v hj
  match j, hj with
  | 0, hj => exact h0.trans hj
  | 1, hj => exact h1.trans hj
  | j + 2, hj => cases hj
theorem row2 {w : World} {g : Nat} {a b : Value} {t : TypeId} (h : w.heap[g]? = some (.cells #[a, b] t)) : w.cell? ⟨g, 0, none⟩ = some a ∧ w.cell? ⟨g, 1, none⟩ = some b ∧ w.frozen? ⟨g, 0, none⟩ = false ∧ w.frozen? ⟨g, 1, none⟩ = false := by
  unfold World.cell? World.frozen?; rw [h]; simp
theorem results_2str {fn : Func} {p u : Tmp} (h : fn.results = #[.cell p 59, .tmp u]) (tmps : Array Value) (w : World) (g : Nat) (a b : Value)
    (hp : tmps.getD p undef = .pointer (some ⟨g, 0, none⟩)) (hg : w.heap[g]? = some (.cells #[a, b] 59)) : (results fn tmps).run Tryd.prog w = .ok (.tuple #[.agg #[a, b], tmps.getD u undef]) w :=
  results_blk_tmp h tmps w g _ hp (ld_2str hg rfl)

set_option maxRecDepth 100000 in
set_option maxHeartbeats 4000000 in
theorem read_up (b : Bl) (d : D) (g : Nat) (w : World) (h : DAt w b d) (hS : SAt w g b) (hd : d.down = false) (hl : 2 ≤ d.now.length) :
    Calls Tryd.prog 20 #[.pointer (some ⟨g, 0, none⟩)] w fun e w' => e = .returned (.tuple #[.agg #[.string (d.now.getD 0 ⟨#[]⟩), .string (d.now.getD 1 ⟨#[]⟩)], .int .i64 0]) ∧ Below w.heap.size w w' := by
  have e0 : reach d 0 = 0 := by unfold reach; rw [hd, if_neg (by decide), if_neg (by omega)]
  have e1 : reach d 1 = 0 := by unfold reach; rw [hd, if_neg (by decide), if_neg (by omega)]
  have r0 : readS d 0 = d.now.getD 0 ⟨#[]⟩ := by unfold readS; rw [if_pos e0]; rfl
  have r1 : readS d 1 = d.now.getD 1 ⟨#[]⟩ := by unfold readS; rw [if_pos e1]; rfl
  have C0 := Lib.hid (fun W (hw : DAt W b d) => read_any b d 0 W hw)
  have C1 := Lib.hid (fun W (hw : DAt W b d) => read_any b d 1 W hw)
  rw [e0, r0] at C0
  rw [e1, r1] at C1
  generalize d.now.getD 0 ⟨#[]⟩ = s0 at *
  generalize d.now.getD 1 ⟨#[]⟩ = s1 at *
  have HD := Lib.hid h
  have HS := Lib.hid hS
  clear h hS e0 e1 r0 r1
  go_enter Tryd.func20, Tryd.ntmps20
  go_wp2_with fail
  have K2 := Lib.hid (hp_old (.cells #[.string ⟨#[]⟩, .string ⟨#[]⟩] 59) (heap_last w (.cells #[.string ⟨#[]⟩, .string ⟨#[]⟩] 59) w.heap.size rfl))
  have K4 := Lib.hid (heap_last (w.alloc (.cells #[.string ⟨#[]⟩, .string ⟨#[]⟩] 59)) (.cells #[.string ⟨#[]⟩, .string ⟨#[]⟩] 59) (w.heap.size + 1) (by simp))
  have B0 := Lib.hid (((Below.refl w.heap.size w).alloc (Nat.le_refl _) (.cells #[.string ⟨#[]⟩, .string ⟨#[]⟩] 59)).alloc (by simp) (.cells #[.string ⟨#[]⟩, .string ⟨#[]⟩] 59))
  go_loopw [8] (fun t8 wr => ∃ k : Nat, k ≤ 2 ∧ t8 = .int .i64 (k : Int) ∧ wr.heap[w.heap.size]? = some (.cells #[.string ⟨#[]⟩, .string ⟨#[]⟩] 59) ∧
    wr.heap[w.heap.size + 1]? = some (.cells #[.string (if 0 < k then s0 else ⟨#[]⟩), .string (if 1 < k then s1 else ⟨#[]⟩)] 59) ∧ Below w.heap.size w wr) (fun t8 _ => 2 - (intOf t8).toNat)
  case atStart => exact ⟨0, Nat.zero_le _, rfl, K2.out, K4.out, B0.out⟩
  case round =>
    obtain ⟨k, hk, rfl, k2, k4, hbel⟩ := hrel
    have H2 := Lib.hid k2
    have BB := Lib.hid hbel
    have DW := Lib.hid (HD.out.below hbel)
    have sc := (HS.out.below hbel).cell
    clear hbel k2 B0 K2 K4
    rcases (show k = 0 ∨ k = 1 ∨ k = 2 by omega) with rfl | rfl | rfl
    · have k4' : wr.heap[w.heap.size + 1]? = some (.cells #[.string ⟨#[]⟩, .string ⟨#[]⟩] 59) := k4
      have H4 := Lib.hid k4'
      obtain ⟨q0, q1, f0, f1⟩ := row2 k4'
      clear k4 k4'
      go_wp2_with (go_at_call 17; ((with_reducible refine (C0.out _ DW.out).mono ?_); rintro e w' ⟨rfl, rfl⟩))
      go_roundw
      case rel => exact ⟨1, by omega, rfl, blk_other H2.out (by omega) _, (set2 H4.out (.string s0)).1, BB.out.setCell (p := ⟨w.heap.size + 1, 0, none⟩) (by simp) _⟩
      case measure => simp [intOf]
    · have k4' : wr.heap[w.heap.size + 1]? = some (.cells #[.string s0, .string ⟨#[]⟩] 59) := k4
      have H4 := Lib.hid k4'
      obtain ⟨q0, q1, f0, f1⟩ := row2 k4'
      clear k4 k4'
      go_wp2_with (go_at_call 17; ((with_reducible refine (C1.out _ DW.out).mono ?_); rintro e w' ⟨rfl, rfl⟩))
      go_roundw
      case rel => exact ⟨2, by omega, rfl, blk_other H2.out (by omega) _, (set2 H4.out (.string s1)).2, BB.out.setCell (p := ⟨w.heap.size + 1, 1, none⟩) (by simp) _⟩
      case measure => simp [intOf]
    · have k4' : wr.heap[w.heap.size + 1]? = some (.cells #[.string s0, .string s1] 59) := k4
      have H4 := Lib.hid k4'
      obtain ⟨q0, q1, f0, f1⟩ := row2 k4'
      obtain ⟨z0, z1, y0, y1⟩ := row2 H2.out
      clear k4 k4'
      go_wp2_with fail
      (try simp only [Exit.inBlock, Exit.then])
      refine bodyPost_ret (results_2str rfl _ _ w.heap.size (.string s0) (.string s1) rfl ?_) rfl ?_
      · exact (set2 (set2 H2.out (.string s0)).1 (.string s1)).2
      · refine ⟨rfl, ?_⟩
        repeat (refine Below.setCell ?_ (by simp) _)
        exact BB.out

set_option maxRecDepth 100000 in
set_option maxHeartbeats 4000000 in
theorem read_down (b : Bl) (d : D) (g : Nat) (w : World) (h : DAt w b d) (hS : SAt w g b) (hd : d.down = true) :
    Calls Tryd.prog 20 #[.pointer (some ⟨g, 0, none⟩)] w fun e w' => e = .returned (.tuple #[.agg #[.string ⟨#[]⟩, .string ⟨#[]⟩], .int .i64 6]) ∧ Below w.heap.size w w' := by
  have e0 : reach d 0 = 6 := by unfold reach; rw [if_pos hd]
  have r0 : readS d 0 = ⟨#[]⟩ := by unfold readS; rw [e0]; rfl
  have C0 := Lib.hid (fun W (hw : DAt W b d) => read_any b d 0 W hw)
  rw [e0, r0] at C0
  have b0 := ((Below.refl w.heap.size w).alloc (Nat.le_refl _) (.cells #[.string ⟨#[]⟩, .string ⟨#[]⟩] 59)).alloc (by simp) (.cells #[.string ⟨#[]⟩, .string ⟨#[]⟩] 59)
  have K2 := Lib.hid (hp_old (.cells #[.string ⟨#[]⟩, .string ⟨#[]⟩] 59) (heap_last w (.cells #[.string ⟨#[]⟩, .string ⟨#[]⟩] 59) w.heap.size rfl))
  have DW := Lib.hid (h.below b0)
  have sc := (hS.below b0).cell
  have B0 := Lib.hid b0
  clear h hS e0 r0 b0
  go_enter Tryd.func20, Tryd.ntmps20
  go_wp2_with fail
  refine wp_loop_rounds 1 ?_
  rw [rounds_succ]
  generalize (w.alloc (.cells #[.string ⟨#[]⟩, .string ⟨#[]⟩] 59)).alloc (.cells #[.string ⟨#[]⟩, .string ⟨#[]⟩] 59) = W at *
  obtain ⟨z0, z1, y0, y1⟩ := row2 K2.out
  go_wp2_with (go_at_call 17; ((with_reducible refine (C0.out _ DW.out).mono ?_); rintro e w' ⟨rfl, rfl⟩))
  (try simp only [Exit.inBlock, Exit.then])
  refine bodyPost_ret (results_2str rfl _ _ w.heap.size (.string ⟨#[]⟩) (.string ⟨#[]⟩) rfl ?_) rfl ?_
  · exact (set2 (set2 K2.out (.string ⟨#[]⟩)).1 (.string ⟨#[]⟩)).2
  · refine ⟨rfl, ?_⟩
    repeat (refine Below.setCell ?_ (by simp) _)
    exact B0.out
end Rt
end Go.Proofs.YtojbanknbgihgaaDoor
