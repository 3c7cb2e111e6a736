/-
  Programs: Things; the law's fixed fact (dowserlaw15.awake). Made by wip/gen/proawk.py.
-/
import Derived.Test.YtnhgoeoffjcooaaProClone
namespace Go.Proofs.Ytnhgoeoffjcooaa
open Go.RowKit
namespace Pm
open B
set_option linter.unusedVariables false
set_option maxHeartbeats 2000000 in
theorem things_any (p : P) (Af : Option Addr) (cf : Nat) (Ae : Option Addr) (ce : Nat) (Ao : Option Addr) (co : Nat) (w : World) (h : 0 ≤ p.objs ∧ p.objs ≤ 1000000) (hl : p.fs.length ≤ 2000000) :
    Calls Try.prog 19 #[pv p Af cf Ae ce Ao co] w fun e w' => e = .returned (.int .i64 (p.objs + (p.fs.length : Int))) ∧ Below w.heap.size w w' := by
  have hw : IntKind.i64.wrap (p.objs + (p.fs.length : Int)) = p.objs + (p.fs.length : Int) := IntWalk.i64_in _ (by omega)
  go_enter Try.func19, Try.ntmps19
  go_wp2
  go_ret
  exact ⟨rfl, below1 _ _⟩
def P0 : P := ⟨1, 1, 0, [⟨[], -1⟩], [0], [⟨1, 0, 0, 0, 0, [], 0⟩]⟩
def Q0 : P := ⟨1, 0, 0, [], [], []⟩
theorem sm0 : Sm P0 := ⟨by decide, by decide, by decide, by intro f hf; simp [P0] at hf; subst hf; decide, by intro o ho; simp [P0] at ho; subst ho; decide⟩
theorem sq0 : Sm Q0 := ⟨by decide, by decide, by decide, by intro f hf; simp [Q0] at hf, by intro o ho; simp [Q0] at ho⟩
def PRV (p : P) (v : Value) (W : World) : Prop := ∃ Af cf Ae ce Ao co, v = pv p Af cf Ae ce Ao co ∧ ∃ lo, PIn lo W p Af cf Ae ce Ao co
theorem prv_grow {p : P} (v : Value) (W W' : World) (h : PRV p v W) (hb : Below W.heap.size W W') : PRV p v W' := by
  obtain ⟨a, b, c, d, e, f, h1, lo, h2⟩ := h
  exact ⟨a, b, c, d, e, f, h1, lo, h2.below hb⟩
theorem two_b (w : World) (o1 o2 : Obj) : Below w.heap.size w ((w.alloc o1).alloc o2) := (below1 w o1).trans ((below1 (w.alloc o1) o2).mono (by simp))
theorem pinQ (w : World) : PIn 0 w Q0 none 0 none 0 none 0 := ⟨FsAt.nil _ _ _, IL.nil _ _, OsAt.nil _ _ _, fun _ => rfl, fun _ => rfl, ⟨by decide, by decide⟩, ⟨by decide, by decide⟩⟩
set_option maxRecDepth 100000 in
set_option maxHeartbeats 8000000 in
theorem awake_any (w : World) : Calls Try.prog 11 #[] w fun e w' => e = .returned (.bool true) ∧ Below w.heap.size w w' := by
  have cCheck := Lib.hid (fun X (q : PIn 0 X P0 (some ⟨w.heap.size, 0, none⟩) 1 (some ⟨w.heap.size + 1, 0, none⟩) 1 (some ⟨w.heap.size + 2, 0, none⟩) 1) => (show Calls Try.prog 14 #[pv P0 (some ⟨w.heap.size, 0, none⟩) 1 (some ⟨w.heap.size + 1, 0, none⟩) 1 (some ⟨w.heap.size + 2, 0, none⟩) 1] X fun e w' => e = .returned (.int .i64 0) ∧ Below X.heap.size X w' from check_any 0 P0 _ _ _ _ _ _ X q sm0))
  have cClone := Lib.hid (fun X (q : PIn 0 X P0 (some ⟨w.heap.size, 0, none⟩) 1 (some ⟨w.heap.size + 1, 0, none⟩) 1 (some ⟨w.heap.size + 2, 0, none⟩) 1) => clone_any 0 P0 _ _ _ _ _ _ X q sm0)
  have cSame := Lib.hid (fun X (q : PIn 0 X P0 (some ⟨w.heap.size, 0, none⟩) 1 (some ⟨w.heap.size + 1, 0, none⟩) 1 (some ⟨w.heap.size + 2, 0, none⟩) 1) M B1 d1 B2 d2 B3 d3 (q2 : PIn M X P0 B1 d1 B2 d2 B3 d3) => (show Calls Try.prog 18 #[pv P0 (some ⟨w.heap.size, 0, none⟩) 1 (some ⟨w.heap.size + 1, 0, none⟩) 1 (some ⟨w.heap.size + 2, 0, none⟩) 1, pv P0 B1 d1 B2 d2 B3 d3] X fun e w' => e = .returned (.bool true) ∧ Below X.heap.size X w' from by
    have := same_any 0 M P0 P0 _ _ _ _ _ _ _ _ _ _ _ _ X q q2 sm0 sm0
    rw [same_refl] at this
    exact this))
  have cSame2 := Lib.hid (fun X (q : PIn 0 X P0 (some ⟨w.heap.size, 0, none⟩) 1 (some ⟨w.heap.size + 1, 0, none⟩) 1 (some ⟨w.heap.size + 2, 0, none⟩) 1) => (show Calls Try.prog 18 #[pv P0 (some ⟨w.heap.size, 0, none⟩) 1 (some ⟨w.heap.size + 1, 0, none⟩) 1 (some ⟨w.heap.size + 2, 0, none⟩) 1, pv Q0 none 0 none 0 none 0] X fun e w' => e = .returned (.bool false) ∧ Below X.heap.size X w' from same_any 0 0 P0 Q0 _ _ _ _ _ _ _ _ _ _ _ _ X q (pinQ X) sm0 sq0))
  have cTh := Lib.hid (fun X => (show Calls Try.prog 19 #[pv P0 (some ⟨w.heap.size, 0, none⟩) 1 (some ⟨w.heap.size + 1, 0, none⟩) 1 (some ⟨w.heap.size + 2, 0, none⟩) 1] X fun e w' => e = .returned (.int .i64 2) ∧ Below X.heap.size X w' from things_any P0 _ _ _ _ _ _ X ⟨by decide, by decide⟩ (by decide)))
  go_enter Try.func11, Try.ntmps11
  go_upto_region 3 with fail
  have hF := hp_old (.cells #[.int .i64 1, .int .i64 0, .int .i64 0, .slice none 0 0, .slice none 0 0, .slice none 0 0] 33) (hp_old (.cells #[.int .i64 1, .int .i64 1, .int .i64 0, .slice (some ⟨w.heap.size, 0, none⟩) 1 1, .slice (some ⟨w.heap.size + 1, 0, none⟩) 1 1, .slice (some ⟨w.heap.size + 2, 0, none⟩) 1 1] 33) (hp_old (.cells #[.int .i64 1, .int .i64 0, .int .i64 0, .int .i64 0, .int .i64 0, .slice none 0 0, .float .f64 0] 42) (hp_old (.cells #[.int .i64 0] 3) (heap_last w (.cells #[.slice none 0 0, .int .i64 (-1)] 45) w.heap.size rfl))))
  have hI := hp_old (.cells #[.int .i64 1, .int .i64 0, .int .i64 0, .slice none 0 0, .slice none 0 0, .slice none 0 0] 33) (hp_old (.cells #[.int .i64 1, .int .i64 1, .int .i64 0, .slice (some ⟨w.heap.size, 0, none⟩) 1 1, .slice (some ⟨w.heap.size + 1, 0, none⟩) 1 1, .slice (some ⟨w.heap.size + 2, 0, none⟩) 1 1] 33) (hp_old (.cells #[.int .i64 1, .int .i64 0, .int .i64 0, .int .i64 0, .int .i64 0, .slice none 0 0, .float .f64 0] 42) (heap_last (w.alloc (.cells #[.slice none 0 0, .int .i64 (-1)] 45)) (.cells #[.int .i64 0] 3) (w.heap.size + 1) (by simp))))
  have hO := hp_old (.cells #[.int .i64 1, .int .i64 0, .int .i64 0, .slice none 0 0, .slice none 0 0, .slice none 0 0] 33) (hp_old (.cells #[.int .i64 1, .int .i64 1, .int .i64 0, .slice (some ⟨w.heap.size, 0, none⟩) 1 1, .slice (some ⟨w.heap.size + 1, 0, none⟩) 1 1, .slice (some ⟨w.heap.size + 2, 0, none⟩) 1 1] 33) (heap_last ((w.alloc (.cells #[.slice none 0 0, .int .i64 (-1)] 45)).alloc (.cells #[.int .i64 0] 3)) (.cells #[.int .i64 1, .int .i64 0, .int .i64 0, .int .i64 0, .int .i64 0, .slice none 0 0, .float .f64 0] 42) (w.heap.size + 2) (by simp)))
  have hP := hp_old (.cells #[.int .i64 1, .int .i64 0, .int .i64 0, .slice none 0 0, .slice none 0 0, .slice none 0 0] 33) (heap_last (((w.alloc (.cells #[.slice none 0 0, .int .i64 (-1)] 45)).alloc (.cells #[.int .i64 0] 3)).alloc (.cells #[.int .i64 1, .int .i64 0, .int .i64 0, .int .i64 0, .int .i64 0, .slice none 0 0, .float .f64 0] 42)) (.cells #[.int .i64 1, .int .i64 1, .int .i64 0, .slice (some ⟨w.heap.size, 0, none⟩) 1 1, .slice (some ⟨w.heap.size + 1, 0, none⟩) 1 1, .slice (some ⟨w.heap.size + 2, 0, none⟩) 1 1] 33) (w.heap.size + 3) (by simp))
  have hQ := heap_last ((((w.alloc (.cells #[.slice none 0 0, .int .i64 (-1)] 45)).alloc (.cells #[.int .i64 0] 3)).alloc (.cells #[.int .i64 1, .int .i64 0, .int .i64 0, .int .i64 0, .int .i64 0, .slice none 0 0, .float .f64 0] 42)).alloc (.cells #[.int .i64 1, .int .i64 1, .int .i64 0, .slice (some ⟨w.heap.size, 0, none⟩) 1 1, .slice (some ⟨w.heap.size + 1, 0, none⟩) 1 1, .slice (some ⟨w.heap.size + 2, 0, none⟩) 1 1] 33)) (.cells #[.int .i64 1, .int .i64 0, .int .i64 0, .slice none 0 0, .slice none 0 0, .slice none 0 0] 33) (w.heap.size + 4) (by simp)
  have b1 := two_b w (.cells #[.slice none 0 0, .int .i64 (-1)] 45) (.cells #[.int .i64 0] 3)
  have b2 := b1.trans ((below1 ((w.alloc (.cells #[.slice none 0 0, .int .i64 (-1)] 45)).alloc (.cells #[.int .i64 0] 3)) (.cells #[.int .i64 1, .int .i64 0, .int .i64 0, .int .i64 0, .int .i64 0, .slice none 0 0, .float .f64 0] 42)).mono b1.size)
  have b3 := b2.trans ((below1 (((w.alloc (.cells #[.slice none 0 0, .int .i64 (-1)] 45)).alloc (.cells #[.int .i64 0] 3)).alloc (.cells #[.int .i64 1, .int .i64 0, .int .i64 0, .int .i64 0, .int .i64 0, .slice none 0 0, .float .f64 0] 42)) (.cells #[.int .i64 1, .int .i64 1, .int .i64 0, .slice (some ⟨w.heap.size, 0, none⟩) 1 1, .slice (some ⟨w.heap.size + 1, 0, none⟩) 1 1, .slice (some ⟨w.heap.size + 2, 0, none⟩) 1 1] 33)).mono b2.size)
  have B0 := Lib.hid (b3.trans ((below1 ((((w.alloc (.cells #[.slice none 0 0, .int .i64 (-1)] 45)).alloc (.cells #[.int .i64 0] 3)).alloc (.cells #[.int .i64 1, .int .i64 0, .int .i64 0, .int .i64 0, .int .i64 0, .slice none 0 0, .float .f64 0] 42)).alloc (.cells #[.int .i64 1, .int .i64 1, .int .i64 0, .slice (some ⟨w.heap.size, 0, none⟩) 1 1, .slice (some ⟨w.heap.size + 1, 0, none⟩) 1 1, .slice (some ⟨w.heap.size + 2, 0, none⟩) 1 1] 33)) (.cells #[.int .i64 1, .int .i64 0, .int .i64 0, .slice none 0 0, .slice none 0 0, .slice none 0 0] 33)).mono b3.size))
  clear b1 b2 b3
  generalize ((((w.alloc (.cells #[.slice none 0 0, .int .i64 (-1)] 45)).alloc (.cells #[.int .i64 0] 3)).alloc (.cells #[.int .i64 1, .int .i64 0, .int .i64 0, .int .i64 0, .int .i64 0, .slice none 0 0, .float .f64 0] 42)).alloc (.cells #[.int .i64 1, .int .i64 1, .int .i64 0, .slice (some ⟨w.heap.size, 0, none⟩) 1 1, .slice (some ⟨w.heap.size + 1, 0, none⟩) 1 1, .slice (some ⟨w.heap.size + 2, 0, none⟩) 1 1] 33)).alloc (.cells #[.int .i64 1, .int .i64 0, .int .i64 0, .slice none 0 0, .slice none 0 0, .slice none 0 0] 33) = W at *
  have HP : Hid (PIn 0 W P0 (some ⟨w.heap.size, 0, none⟩) 1 (some ⟨w.heap.size + 1, 0, none⟩) 1 (some ⟨w.heap.size + 2, 0, none⟩) 1) := Lib.hid (by
    refine ⟨fun _ => ⟨_, 0, rfl, Nat.zero_le _, blk_lt hF, fun i hi => ?_⟩, ⟨_, 1, rfl, fun _ => ⟨_, 0, rfl, blk_lt hI, fun i hi => ?_⟩, (fun e => by cases e), by decide, by omega, fun a _ => Nat.zero_le _⟩, fun _ => ⟨_, 0, rfl, Nat.zero_le _, blk_lt hO, fun i hi => ?_⟩, (fun e => by cases e), (fun e => by cases e), ⟨by decide, by omega⟩, ⟨by decide, by omega⟩⟩
    · match i, hi with
      | 0, _ => exact ⟨.slice none 0 0, (two hF).1, (two hF).2, IL.nil _ _⟩
      | k + 1, h => simp [P0] at h
    · match i, hi with
      | 0, _ => exact row_cell (cs := [.int .i64 0]) hI 0
      | k + 1, h => simp [P0] at h
    · match i, hi with
      | 0, _ =>
        obtain ⟨a0, a1, a2, a3, a4, a5, a6⟩ := seven hO
        exact ⟨.slice none 0 0, a0, a1, a2, a3, a4, a5, a6, IL.nil _ _, by show 0 < 18446744073709551616; decide⟩
      | k + 1, h => simp [P0] at h)
  have R1 := Lib.hid hP
  have R2 := Lib.hid hQ
  clear hF hI hO hP hQ
  refine Gr.regionS 23 (fun i => if i < 22 then i + 10 else 0) [.val (pv P0 (some ⟨w.heap.size, 0, none⟩) 1 (some ⟨w.heap.size + 1, 0, none⟩) 1 (some ⟨w.heap.size + 2, 0, none⟩) 1), .val (.int .i64 0), .val (.bool true), .val (.bool true), .val (pv P0 (some ⟨w.heap.size, 0, none⟩) 1 (some ⟨w.heap.size + 1, 0, none⟩) 1 (some ⟨w.heap.size + 2, 0, none⟩) 1), .val (pv P0 (some ⟨w.heap.size, 0, none⟩) 1 (some ⟨w.heap.size + 1, 0, none⟩) 1 (some ⟨w.heap.size + 2, 0, none⟩) 1), .cls (PRV P0) prv_grow, .val (.bool true), .val (.bool true), .val (.bool true), .val (pv P0 (some ⟨w.heap.size, 0, none⟩) 1 (some ⟨w.heap.size + 1, 0, none⟩) 1 (some ⟨w.heap.size + 2, 0, none⟩) 1), .val (pv Q0 none 0 none 0 none 0), .val (.bool false), .val (.bool true), .val (.bool true), .val (.bool true), .val (pv P0 (some ⟨w.heap.size, 0, none⟩) 1 (some ⟨w.heap.size + 1, 0, none⟩) 1 (some ⟨w.heap.size + 2, 0, none⟩) 1), .val (.int .i64 2), .val (.bool true), .val (.bool true), .val (.bool true), .val (.bool true), .val (.bool true)] (by kernel_rfl) (by kernel_rfl) (by rfl) ?_ ?_
  · intro i o a W1 hi ho hb hfr hpre
    have t1 : a.tmps[1]?.getD undef = .pointer (some ⟨w.heap.size + 3, 0, none⟩) := Gr.slot (hfr.f 1 (by intro j hj; (try dsimp only); split <;> omega))
    have t2 : a.tmps[2]?.getD undef = .pointer (some ⟨w.heap.size + 4, 0, none⟩) := Gr.slot (hfr.f 2 (by intro j hj; (try dsimp only); split <;> omega))
    obtain ⟨k0, k1, k2, k3, k4, k5⟩ := cells6 (blk_below R1.out hb (blk_lt R1.out))
    obtain ⟨j0, j1, j2, j3, j4, j5⟩ := cells6 (blk_below R2.out hb (blk_lt R2.out))
    match i, hi with
    | 0, _ =>
      obtain rfl := Option.some.inj ho
      refine Gr.val (v := pv P0 (some ⟨w.heap.size, 0, none⟩) 1 (some ⟨w.heap.size + 1, 0, none⟩) 1 (some ⟨w.heap.size + 2, 0, none⟩) 1) (w' := W1) (by simp [go_sem, t1, k0, k1, k2, k3, k4, k5]; (try (refine ⟨?_, ?_, ?_, ?_, ?_, ?_⟩ <;> rfl))) ⟨_, rfl, rfl, Below.refl _ _⟩
    | 1, _ =>
      have p10 : a.tmps[10]?.getD undef = pv P0 (some ⟨w.heap.size, 0, none⟩) 1 (some ⟨w.heap.size + 1, 0, none⟩) 1 (some ⟨w.heap.size + 2, 0, none⟩) 1 := Gr.slot (hpre { on := 0, ground := .data } (by obtain rfl := Option.some.inj ho; simp) rfl (by decide))
      obtain rfl := Option.some.inj ho
      refine Gr.call (f := 14) (args := #[pv P0 (some ⟨w.heap.size, 0, none⟩) 1 (some ⟨w.heap.size + 1, 0, none⟩) 1 (some ⟨w.heap.size + 2, 0, none⟩) 1]) (by simp [go_sem, p10]) ((cCheck.out W1 (HP.out.below hb)).mono ?_)
      rintro e w' ⟨rfl, h2⟩
      exact ⟨_, rfl, _, rfl, rfl, h2⟩
    | 2, _ =>
      have p11 : a.tmps[11]?.getD undef = .int .i64 0 := Gr.slot (hpre { on := 1, ground := .data } (by obtain rfl := Option.some.inj ho; simp) rfl (by decide))
      obtain rfl := Option.some.inj ho
      refine Gr.val (v := .bool true) (w' := W1) (by simp [go_sem, p11]) ⟨_, rfl, rfl, Below.refl _ _⟩
    | 3, _ =>
      have p12 : a.tmps[12]?.getD undef = .bool true := Gr.slot (hpre { on := 2, ground := .data } (by obtain rfl := Option.some.inj ho; simp) rfl (by decide))
      obtain rfl := Option.some.inj ho
      refine Gr.val (v := .bool true) (w' := W1) (by simp [go_sem, p12]) ⟨_, rfl, rfl, Below.refl _ _⟩
    | 4, _ =>
      obtain rfl := Option.some.inj ho
      refine Gr.val (v := pv P0 (some ⟨w.heap.size, 0, none⟩) 1 (some ⟨w.heap.size + 1, 0, none⟩) 1 (some ⟨w.heap.size + 2, 0, none⟩) 1) (w' := W1) (by simp [go_sem, t1, k0, k1, k2, k3, k4, k5]; (try (refine ⟨?_, ?_, ?_, ?_, ?_, ?_⟩ <;> rfl))) ⟨_, rfl, rfl, Below.refl _ _⟩
    | 5, _ =>
      obtain rfl := Option.some.inj ho
      refine Gr.val (v := pv P0 (some ⟨w.heap.size, 0, none⟩) 1 (some ⟨w.heap.size + 1, 0, none⟩) 1 (some ⟨w.heap.size + 2, 0, none⟩) 1) (w' := W1) (by simp [go_sem, t1, k0, k1, k2, k3, k4, k5]; (try (refine ⟨?_, ?_, ?_, ?_, ?_, ?_⟩ <;> rfl))) ⟨_, rfl, rfl, Below.refl _ _⟩
    | 6, _ =>
      have p15 : a.tmps[15]?.getD undef = pv P0 (some ⟨w.heap.size, 0, none⟩) 1 (some ⟨w.heap.size + 1, 0, none⟩) 1 (some ⟨w.heap.size + 2, 0, none⟩) 1 := Gr.slot (hpre { on := 5, ground := .data } (by obtain rfl := Option.some.inj ho; simp) rfl (by decide))
      obtain rfl := Option.some.inj ho
      refine Gr.call (f := 17) (args := #[pv P0 (some ⟨w.heap.size, 0, none⟩) 1 (some ⟨w.heap.size + 1, 0, none⟩) 1 (some ⟨w.heap.size + 2, 0, none⟩) 1]) (by simp [go_sem, p15]) ((cClone.out W1 (HP.out.below hb)).mono ?_)
      rintro e w' ⟨B1, d1, B2, d2, B3, d3, rfl, h1, h2⟩
      exact ⟨_, rfl, _, rfl, ⟨B1, d1, B2, d2, B3, d3, rfl, _, h1⟩, h2⟩
    | 7, _ =>
      have p14 : a.tmps[14]?.getD undef = pv P0 (some ⟨w.heap.size, 0, none⟩) 1 (some ⟨w.heap.size + 1, 0, none⟩) 1 (some ⟨w.heap.size + 2, 0, none⟩) 1 := Gr.slot (hpre { on := 4, ground := .data } (by obtain rfl := Option.some.inj ho; simp) rfl (by decide))
      have q16 : (PRV P0) (a.eval (.tmp 16)) W1 := hpre { on := 6, ground := .data } (by obtain rfl := Option.some.inj ho; simp) rfl (by decide)
      obtain ⟨B1, d1, B2, d2, B3, d3, hv, M, hM⟩ := q16
      have p16 := Gr.slot hv
      obtain rfl := Option.some.inj ho
      refine Gr.call (f := 18) (args := #[pv P0 (some ⟨w.heap.size, 0, none⟩) 1 (some ⟨w.heap.size + 1, 0, none⟩) 1 (some ⟨w.heap.size + 2, 0, none⟩) 1, pv P0 B1 d1 B2 d2 B3 d3]) (by simp [go_sem, p14, p16]) ((cSame.out W1 (HP.out.below hb) M B1 d1 B2 d2 B3 d3 hM).mono ?_)
      rintro e w' ⟨rfl, h2⟩
      exact ⟨_, rfl, _, rfl, rfl, h2⟩
    | 8, _ =>
      have p13 : a.tmps[13]?.getD undef = .bool true := Gr.slot (hpre { on := 3, ground := .data } (by obtain rfl := Option.some.inj ho; simp) rfl (by decide))
      have p17 : a.tmps[17]?.getD undef = .bool true := Gr.slot (hpre { on := 7, ground := .data } (by obtain rfl := Option.some.inj ho; simp) rfl (by decide))
      obtain rfl := Option.some.inj ho
      refine Gr.val (v := .bool true) (w' := W1) (by simp [go_sem, p13, p17]) ⟨_, rfl, rfl, Below.refl _ _⟩
    | 9, _ =>
      have p18 : a.tmps[18]?.getD undef = .bool true := Gr.slot (hpre { on := 8, ground := .data } (by obtain rfl := Option.some.inj ho; simp) rfl (by decide))
      obtain rfl := Option.some.inj ho
      refine Gr.val (v := .bool true) (w' := W1) (by simp [go_sem, p18]) ⟨_, rfl, rfl, Below.refl _ _⟩
    | 10, _ =>
      obtain rfl := Option.some.inj ho
      refine Gr.val (v := pv P0 (some ⟨w.heap.size, 0, none⟩) 1 (some ⟨w.heap.size + 1, 0, none⟩) 1 (some ⟨w.heap.size + 2, 0, none⟩) 1) (w' := W1) (by simp [go_sem, t1, k0, k1, k2, k3, k4, k5]; (try (refine ⟨?_, ?_, ?_, ?_, ?_, ?_⟩ <;> rfl))) ⟨_, rfl, rfl, Below.refl _ _⟩
    | 11, _ =>
      obtain rfl := Option.some.inj ho
      refine Gr.val (v := pv Q0 none 0 none 0 none 0) (w' := W1) (by simp [go_sem, t2, j0, j1, j2, j3, j4, j5]; (try (refine ⟨?_, ?_, ?_, ?_, ?_, ?_⟩ <;> rfl))) ⟨_, rfl, rfl, Below.refl _ _⟩
    | 12, _ =>
      have p20 : a.tmps[20]?.getD undef = pv P0 (some ⟨w.heap.size, 0, none⟩) 1 (some ⟨w.heap.size + 1, 0, none⟩) 1 (some ⟨w.heap.size + 2, 0, none⟩) 1 := Gr.slot (hpre { on := 10, ground := .data } (by obtain rfl := Option.some.inj ho; simp) rfl (by decide))
      have p21 : a.tmps[21]?.getD undef = pv Q0 none 0 none 0 none 0 := Gr.slot (hpre { on := 11, ground := .data } (by obtain rfl := Option.some.inj ho; simp) rfl (by decide))
      obtain rfl := Option.some.inj ho
      refine Gr.call (f := 18) (args := #[pv P0 (some ⟨w.heap.size, 0, none⟩) 1 (some ⟨w.heap.size + 1, 0, none⟩) 1 (some ⟨w.heap.size + 2, 0, none⟩) 1, pv Q0 none 0 none 0 none 0]) (by simp [go_sem, p20, p21]) ((cSame2.out W1 (HP.out.below hb)).mono ?_)
      rintro e w' ⟨rfl, h2⟩
      exact ⟨_, rfl, _, rfl, rfl, h2⟩
    | 13, _ =>
      have p22 : a.tmps[22]?.getD undef = .bool false := Gr.slot (hpre { on := 12, ground := .data } (by obtain rfl := Option.some.inj ho; simp) rfl (by decide))
      obtain rfl := Option.some.inj ho
      refine Gr.val (v := .bool true) (w' := W1) (by simp [go_sem, p22]) ⟨_, rfl, rfl, Below.refl _ _⟩
    | 14, _ =>
      have p19 : a.tmps[19]?.getD undef = .bool true := Gr.slot (hpre { on := 9, ground := .data } (by obtain rfl := Option.some.inj ho; simp) rfl (by decide))
      have p23 : a.tmps[23]?.getD undef = .bool true := Gr.slot (hpre { on := 13, ground := .data } (by obtain rfl := Option.some.inj ho; simp) rfl (by decide))
      obtain rfl := Option.some.inj ho
      refine Gr.val (v := .bool true) (w' := W1) (by simp [go_sem, p19, p23]) ⟨_, rfl, rfl, Below.refl _ _⟩
    | 15, _ =>
      have p24 : a.tmps[24]?.getD undef = .bool true := Gr.slot (hpre { on := 14, ground := .data } (by obtain rfl := Option.some.inj ho; simp) rfl (by decide))
      obtain rfl := Option.some.inj ho
      refine Gr.val (v := .bool true) (w' := W1) (by simp [go_sem, p24]) ⟨_, rfl, rfl, Below.refl _ _⟩
    | 16, _ =>
      obtain rfl := Option.some.inj ho
      refine Gr.val (v := pv P0 (some ⟨w.heap.size, 0, none⟩) 1 (some ⟨w.heap.size + 1, 0, none⟩) 1 (some ⟨w.heap.size + 2, 0, none⟩) 1) (w' := W1) (by simp [go_sem, t1, k0, k1, k2, k3, k4, k5]; (try (refine ⟨?_, ?_, ?_, ?_, ?_, ?_⟩ <;> rfl))) ⟨_, rfl, rfl, Below.refl _ _⟩
    | 17, _ =>
      have p26 : a.tmps[26]?.getD undef = pv P0 (some ⟨w.heap.size, 0, none⟩) 1 (some ⟨w.heap.size + 1, 0, none⟩) 1 (some ⟨w.heap.size + 2, 0, none⟩) 1 := Gr.slot (hpre { on := 16, ground := .data } (by obtain rfl := Option.some.inj ho; simp) rfl (by decide))
      obtain rfl := Option.some.inj ho
      refine Gr.call (f := 19) (args := #[pv P0 (some ⟨w.heap.size, 0, none⟩) 1 (some ⟨w.heap.size + 1, 0, none⟩) 1 (some ⟨w.heap.size + 2, 0, none⟩) 1]) (by simp [go_sem, p26]) ((cTh.out W1).mono ?_)
      rintro e w' ⟨rfl, h2⟩
      exact ⟨_, rfl, _, rfl, rfl, h2⟩
    | 18, _ =>
      have p27 : a.tmps[27]?.getD undef = .int .i64 2 := Gr.slot (hpre { on := 17, ground := .data } (by obtain rfl := Option.some.inj ho; simp) rfl (by decide))
      obtain rfl := Option.some.inj ho
      refine Gr.val (v := .bool true) (w' := W1) (by simp [go_sem, p27]) ⟨_, rfl, rfl, Below.refl _ _⟩
    | 19, _ =>
      have p25 : a.tmps[25]?.getD undef = .bool true := Gr.slot (hpre { on := 15, ground := .data } (by obtain rfl := Option.some.inj ho; simp) rfl (by decide))
      have p28 : a.tmps[28]?.getD undef = .bool true := Gr.slot (hpre { on := 18, ground := .data } (by obtain rfl := Option.some.inj ho; simp) rfl (by decide))
      obtain rfl := Option.some.inj ho
      refine Gr.val (v := .bool true) (w' := W1) (by simp [go_sem, p25, p28]) ⟨_, rfl, rfl, Below.refl _ _⟩
    | 20, _ =>
      have p29 : a.tmps[29]?.getD undef = .bool true := Gr.slot (hpre { on := 19, ground := .data } (by obtain rfl := Option.some.inj ho; simp) rfl (by decide))
      obtain rfl := Option.some.inj ho
      refine Gr.val (v := .bool true) (w' := W1) (by simp [go_sem, p29]) ⟨_, rfl, rfl, Below.refl _ _⟩
    | 21, _ =>
      have p30 : a.tmps[30]?.getD undef = .bool true := Gr.slot (hpre { on := 20, ground := .data } (by obtain rfl := Option.some.inj ho; simp) rfl (by decide))
      obtain rfl := Option.some.inj ho
      refine Gr.val (v := .bool true) (w' := W1) (by simp [go_sem, p30]) ⟨_, rfl, rfl, Below.refl _ _⟩
    | 22, _ =>
      have p31 : a.tmps[31]?.getD undef = .bool true := Gr.slot (hpre { on := 21, ground := .data } (by obtain rfl := Option.some.inj ho; simp) rfl (by decide))
      obtain rfl := Option.some.inj ho
      refine Gr.val (v := .bool true) (w' := W1) (by simp [go_sem, p31]) ⟨_, rfl, rfl, Below.refl _ _⟩
    | i + 23, h => omega
  intro a W1 hb hfr hall
  have v0 : a.eval (.tmp 0) = .bool true := hall 22 (by omega)
  go_wp2
  (try simp only [Exit.inBlock, Exit.then])
  refine bodyPost_ret (results_tmp rfl _ _ _) hfr.d ?_
  exact ⟨congrArg Ending.returned v0, B0.out.trans (hb.mono B0.out.size)⟩
end Pm
end Go.Proofs.Ytnhgoeoffjcooaa
