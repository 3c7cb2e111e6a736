/-
  Pages in memory (layer 7), and what their small calls do: Room, Open, Half, Next, Free, Cut, Other, sector.
-/
import Derived.Test.YtnnjcgamhkmljaaPagesMath
import Derived.Test.YtnnjcgamhkmljaaDiskDo
import Derived.Test.YtnnjcgamhkmljaaCrcWalks
namespace Go.Proofs.Ytnnjcgamhkmljaa
open Go.RowKit
namespace Pg
open B Dsk

/-- how many pages a half has -/
def room (d : D) : Nat := (d.now.length - 2) / 2
/-- block g has the pages of a half of the disk b -/
def PAt (w : World) (b : Bl) (g : Nat) (half next : Int) : Prop := w.heap[g]? = some (.cells #[.pointer (some ⟨b.g, 0, none⟩), .int .i64 half, .int .i64 next] 81)
theorem row3 {w : World} {g : Nat} {a b c : Value} {t : TypeId} (h : w.heap[g]? = some (.cells #[a, b, c] t)) :
    (w.cell? ⟨g, 0, none⟩ = some a ∧ w.cell? ⟨g, 1, none⟩ = some b ∧ w.cell? ⟨g, 2, none⟩ = some c) ∧
    (w.frozen? ⟨g, 0, none⟩ = false ∧ w.frozen? ⟨g, 1, none⟩ = false ∧ w.frozen? ⟨g, 2, none⟩ = false) := by
  unfold World.cell? World.frozen?
  rw [h]; simp
set_option maxHeartbeats 1000000 in
theorem room_any (b : Bl) (d : D) (w : World) (h : DAt w b d) (h2 : 2 ≤ d.now.length) (h3 : d.now.length ≤ 65536) :
    Calls Try.prog 9 #[.pointer (some ⟨b.g, 0, none⟩)] w fun e w' => e = .returned (.int .i64 (room d : Int)) ∧ w = w' := by
  have CS := Lib.hid (size_any b d w h)
  clear h
  unfold room
  generalize d.now.length = n at *
  go_enter Try.func9, Try.ntmps9
  go_wp2_with (go_at_call 7; ((with_reducible refine CS.out.mono ?_); rintro e w' ⟨rfl, rfl⟩))
  go_ret
  exact ⟨B.ret_int (by omega), rfl⟩

/-- the disk has as many sectors as it may -/
structure Sz (d : D) : Prop where
  lo : 2 ≤ d.now.length
  hi : d.now.length ≤ 65536
theorem room_le {d : D} (h : Sz d) : room d ≤ 32767 := by unfold room; have := h.hi; omega

def mayOpen (d : D) (half next : Int) : Prop := (half = 0 ∨ half = 1) ∧ 0 ≤ next ∧ next ≤ (room d : Int)
set_option maxHeartbeats 1000000 in
theorem open_no (b : Bl) (d : D) (half next : Int) (w : World) (h : DAt w b d) (hz : Sz d) (hm : ¬ mayOpen d half next) :
    Calls Try.prog 8 #[.pointer (some ⟨b.g, 0, none⟩), .int .i64 half, .int .i64 next] w fun e w' => e = .returned (.tuple #[.pointer none, .int .i64 1]) ∧ w = w' := by
  have CR := Lib.hid (room_any b d w h hz.lo hz.hi)
  unfold mayOpen at hm
  have hr := room_le hz
  clear h hz
  generalize room d = rm at *
  by_cases h1 : half = 0 ∨ half = 1
  · have hh : ((half == 0) = true ∨ (half == 0) = false ∧ (half == 1) = true) := by rcases h1 with rfl | rfl <;> simp
    by_cases h2 : next < 0
    · rcases h1 with rfl | rfl <;>
      · clear hm hh
        go_enter Try.func8, Try.ntmps8
        go_wp2_with (go_at_call 9; ((with_reducible refine CR.out.mono ?_); rintro e w' ⟨rfl, rfl⟩))
        go_ret2
        exact ⟨rfl, rfl⟩
    · have h3 : (rm : Int) < next := by
        rcases Int.lt_or_le (rm : Int) next with h | h
        · exact h
        · exact absurd ⟨h1, by omega, h⟩ hm
      rcases h1 with rfl | rfl <;>
      · clear hm hh
        go_enter Try.func8, Try.ntmps8
        go_wp2_with (go_at_call 9; ((with_reducible refine CR.out.mono ?_); rintro e w' ⟨rfl, rfl⟩))
        go_ret2
        exact ⟨rfl, rfl⟩
  · have e0 : (half == 0) = false := by rw [beq_eq_false_iff_ne]; omega
    have e1 : (half == 1) = false := by rw [beq_eq_false_iff_ne]; omega
    have n0 : (half != 0) = true := by simpa using e0
    have n1 : (half != 1) = true := by simpa using e1
    clear hm h1
    go_enter Try.func8, Try.ntmps8
    go_wp2_with (go_at_call 9; ((with_reducible refine CR.out.mono ?_); rintro e w' ⟨rfl, rfl⟩))
    go_ret2
    exact ⟨rfl, rfl⟩
set_option maxHeartbeats 1000000 in
theorem open_yes (b : Bl) (d : D) (half next : Int) (w : World) (h : DAt w b d) (hz : Sz d) (hm : mayOpen d half next) :
    Calls Try.prog 8 #[.pointer (some ⟨b.g, 0, none⟩), .int .i64 half, .int .i64 next] w fun e w' => e = .returned (.tuple #[.pointer (some ⟨w.heap.size, 0, none⟩), .int .i64 0]) ∧ w.alloc (.cells #[.pointer (some ⟨b.g, 0, none⟩), .int .i64 half, .int .i64 next] 81) = w' := by
  have CR := Lib.hid (room_any b d w h hz.lo hz.hi)
  obtain ⟨h1, h2, h3⟩ := hm
  have hr := room_le hz
  clear h hz
  generalize room d = rm at *
  have h4 : ¬ next < 0 := by omega
  have h5 : ¬ (rm : Int) < next := by omega
  rcases h1 with rfl | rfl <;>
  · go_enter Try.func8, Try.ntmps8
    go_wp2_with (go_at_call 9; ((with_reducible refine CR.out.mono ?_); rintro e w' ⟨rfl, rfl⟩))
    go_ret2
    exact ⟨rfl, rfl⟩

set_option maxHeartbeats 1000000 in
theorem half_any (b : Bl) (g : Nat) (half next : Int) (w : World) (h : PAt w b g half next) :
    Calls Try.prog 19 #[.pointer (some ⟨g, 0, none⟩)] w fun e w' => e = .returned (.int .i64 half) ∧ w = w' := by
  obtain ⟨⟨c0, c1, c2⟩, _⟩ := row3 h
  clear h
  go_enter Try.func19, Try.ntmps19
  go_wp2
  go_ret
  exact ⟨rfl, rfl⟩
set_option maxHeartbeats 1000000 in
theorem next_any (b : Bl) (g : Nat) (half next : Int) (w : World) (h : PAt w b g half next) :
    Calls Try.prog 20 #[.pointer (some ⟨g, 0, none⟩)] w fun e w' => e = .returned (.int .i64 next) ∧ w = w' := by
  obtain ⟨⟨c0, c1, c2⟩, _⟩ := row3 h
  clear h
  go_enter Try.func20, Try.ntmps20
  go_wp2
  go_ret
  exact ⟨rfl, rfl⟩
theorem below_drew {B : Nat} {a w : World} (h : Below B a w) : Below B a w.drew := ⟨h.os, h.tape, h.output, h.size, h.block⟩
theorem DAt.drewN {w : World} {b : Bl} {d : D} (h : DAt w b d) (n : Nat) : DAt (w.drewN n) b d := h.below ⟨rfl, rfl, rfl, Nat.le_refl _, fun _ _ => rfl⟩
set_option maxHeartbeats 1000000 in
theorem free_any (b : Bl) (d : D) (g : Nat) (half next : Int) (w : World) (h : PAt w b g half next) (hd : DAt w b d) (hz : Sz d) (h0 : 0 ≤ next) (h1 : next ≤ (room d : Int)) :
    Calls Try.prog 21 #[.pointer (some ⟨g, 0, none⟩)] w fun e w' => e = .returned (.int .i64 ((room d : Int) - next)) ∧ ∃ n, w' = w.drewN n := by
  obtain ⟨⟨c0, c1, c2⟩, _⟩ := row3 h
  have CR := Lib.hid (fun n => room_any b d (w.drewN n) (DAt.drewN hd n) hz.lo hz.hi)
  have hr := room_le hz
  clear h hd hz
  generalize room d = rm at *
  go_enter Try.func21, Try.ntmps21
  go_wp2
  go_quiet (first | (go_at_call 9; exact Calls.quiet_of_same ((CR.out _).mono fun e w' h => ⟨h.1, h.2.symm⟩)))
  go_wp2
  go_ret
  exact ⟨rfl, ⟨_, rfl⟩⟩

/-- the sector that a page is -/
def sec (d : D) (half n : Int) : Int := 2 + half * (room d : Int) + n
set_option maxHeartbeats 1000000 in
theorem sector_any (b : Bl) (d : D) (g : Nat) (half next n : Int) (w : World) (h : PAt w b g half next) (hd : DAt w b d) (hz : Sz d) (hh : half = 0 ∨ half = 1) (h0 : 0 ≤ n) (h1 : n ≤ (room d : Int)) :
    Calls Try.prog 35 #[.pointer (some ⟨g, 0, none⟩), .int .i64 n] w fun e w' => e = .returned (.int .i64 (sec d half n)) ∧ ∃ n, w' = w.drewN n := by
  obtain ⟨⟨c0, c1, c2⟩, _⟩ := row3 h
  have CR := Lib.hid (fun n => room_any b d (w.drewN n) (DAt.drewN hd n) hz.lo hz.hi)
  have hr := room_le hz
  unfold sec
  clear h hd hz
  generalize room d = rm at *
  rcases hh with rfl | rfl <;>
  · go_enter Try.func35, Try.ntmps35
    go_wp2
    go_quiet (first | (go_at_call 9; exact Calls.quiet_of_same ((CR.out _).mono fun e w' h => ⟨h.1, h.2.symm⟩)))
    go_wp2
    go_ret
    exact ⟨B.ret_int (by omega), ⟨_, rfl⟩⟩

theorem PAt.set {w : World} {b : Bl} {g : Nat} {half next : Int} (h : PAt w b g half next) (n : Int) : PAt (w.setCell ⟨g, 2, none⟩ (.int .i64 n)) b g half n := blk_set (cs := [_, _, _]) h 2 (.int .i64 n)
set_option maxHeartbeats 1000000 in
theorem cut_yes (b : Bl) (g : Nat) (half next n : Int) (w : World) (h : PAt w b g half next) (h0 : 0 ≤ n) (h1 : n ≤ next) :
    Calls Try.prog 12 #[.pointer (some ⟨g, 0, none⟩), .int .i64 n] w fun e w' => e = .returned (.bool true) ∧ w.setCell ⟨g, 2, none⟩ (.int .i64 n) = w' := by
  obtain ⟨⟨c0, c1, c2⟩, f0, f1, f2⟩ := row3 h
  have k0 : ¬ n < 0 := by omega
  have k1 : ¬ next < n := by omega
  clear h h0 h1
  go_enter Try.func12, Try.ntmps12
  go_wp2
  go_ret
  exact ⟨rfl, rfl⟩
set_option maxHeartbeats 1000000 in
theorem cut_no (b : Bl) (g : Nat) (half next n : Int) (w : World) (h : PAt w b g half next) (h0 : n < 0 ∨ next < n) :
    Calls Try.prog 12 #[.pointer (some ⟨g, 0, none⟩), .int .i64 n] w fun e w' => e = .returned (.bool false) ∧ w = w' := by
  obtain ⟨⟨c0, c1, c2⟩, f0, f1, f2⟩ := row3 h
  clear h
  by_cases k0 : n < 0
  · clear h0
    go_enter Try.func12, Try.ntmps12
    go_wp2
    go_ret
    exact ⟨rfl, rfl⟩
  · have k1 : next < n := by omega
    clear h0
    go_enter Try.func12, Try.ntmps12
    go_wp2
    go_ret
    exact ⟨rfl, rfl⟩
set_option maxHeartbeats 1000000 in
theorem other_any (b : Bl) (g : Nat) (half next : Int) (w : World) (h : PAt w b g half next) (hh : half = 0 ∨ half = 1) :
    Calls Try.prog 14 #[.pointer (some ⟨g, 0, none⟩)] w fun e w' => e = .returned (.pointer (some ⟨w.heap.size, 0, none⟩)) ∧ PAt w' b w.heap.size (1 - half) 0 ∧ Below w.heap.size w w' := by
  obtain ⟨⟨c0, c1, c2⟩, _⟩ := row3 h
  clear h
  rcases hh with rfl | rfl <;>
  · go_enter Try.func14, Try.ntmps14
    go_wp2
    go_region
    go_wp2
    go_ret
    exact ⟨rfl, heap_last w _ _ rfl, below_drew ((Below.refl _ _).alloc (Nat.le_refl _) _)⟩
end Pg
end Go.Proofs.Ytnnjcgamhkmljaa
