/-
  Programs: program.isFormed, program.Check. Made by wip/gen/prochk.py.
-/
import Derived.Test.YtnhgoeoffjcooaaProChk
import Derived.Test.YtnhgoeoffjcooaaGrow4
namespace Go.Proofs.Ytnhgoeoffjcooaa
open Go.RowKit
namespace Pm
open B
set_option linter.unusedVariables false
theorem cells6 {w : World} {g : Nat} {x0 x1 x2 x3 x4 x5 : Value} {t : TypeId} (h : w.heap[g]? = some (.cells #[x0, x1, x2, x3, x4, x5] t)) :
    w.cell? ⟨g, 0, none⟩ = some x0 ∧ w.cell? ⟨g, 1, none⟩ = some x1 ∧ w.cell? ⟨g, 2, none⟩ = some x2 ∧ w.cell? ⟨g, 3, none⟩ = some x3 ∧ w.cell? ⟨g, 4, none⟩ = some x4 ∧ w.cell? ⟨g, 5, none⟩ = some x5 := by
  unfold World.cell?
  rw [h]; simp
theorem below_dr {B : Nat} {a w : World} (h : Below B a w) : Below B a w.drew := ⟨h.os, h.tape, h.output, h.size, h.block⟩
set_option maxRecDepth 100000 in
set_option maxHeartbeats 20000000 in
theorem formed_any (lo : Nat) (p : P) (Af : Option Addr) (cf : Nat) (Ae : Option Addr) (ce : Nat) (Ao : Option Addr) (co : Nat) (w : World) (h : PIn lo w p Af cf Ae ce Ao co) (hs : Sm p) :
    Calls Try.prog 31 #[pv p Af cf Ae ce Ao co] w fun e w' => e = .returned (.bool (formed p)) ∧ Below w.heap.size w w' := by
  have CF := Lib.hid (fun X (q : Below w.heap.size w X) => allF_any (.func 63) #[pv p Af cf Ae ce Ao co] #[] (okF p) lo Af p.fs cf X (h.f.below q) hs.f (fun W g hk _ v f hm hi => allFx_may p Af cf Ae ce Ao co lo v f g W hi (hs.fp f hm) hk))
  have CO := Lib.hid (fun X (q : Below w.heap.size w X) => allO_any (.func 66) #[pv p Af cf Ae ce Ao co] #[] (okO p) lo Ao p.ops co X (h.o.below q) hs.o (fun W g hk _ v o hm hi hh => allOx_may p Af cf Ae ce Ao co lo v o g W hi (hs.oa o hm) hh hk))
  have CI := Lib.hid (fun X (q : Below w.heap.size w X) => is_any p.en Ae ce X hs.e (h.e.at.2.1.below q))
  have CE := Lib.hid (fun X g (q : Below w.heap.size w X) (k : X.cell? ⟨g, 0, none⟩ = some (.int .i64 (p.fs.length : Int))) => vars_any p.fs.length g Ae p.en ce X (h.e.at.2.1.below q) hs.e k)
  have bA := below1 w (.cells #[.int .i64 p.vars, .int .i64 p.objs, .int .i64 p.fields, .slice Af p.fs.length cf, .slice Ae p.en.length ce, .slice Ao p.ops.length co] 33)
  have B1 := Lib.hid bA
  have R1 := Lib.hid (heap_last w (.cells #[.int .i64 p.vars, .int .i64 p.objs, .int .i64 p.fields, .slice Af p.fs.length cf, .slice Ae p.en.length ce, .slice Ao p.ops.length co] 33) w.heap.size rfl)
  clear bA h hs
  by_cases mn1 : ¬ 0 ≤ p.vars
  · have HO := Lib.hid (show formed p = false from by simp [formed, mn1])
    have dn1 : decide (0 ≤ p.vars) = false := decide_eq_false mn1
    clear mn1
    go_enter Try.func31, Try.ntmps31
    go_upto_region 1 with fail
    generalize w.alloc (.cells #[.int .i64 p.vars, .int .i64 p.objs, .int .i64 p.fields, .slice Af p.fs.length cf, .slice Ae p.en.length ce, .slice Ao p.ops.length co] 33) = w1 at *
    refine Gr.regionY 42 (fun i => if i < 41 then i + 3 else i - 39) [.val (.pointer (some ⟨w.heap.size, 0, none⟩)), .val (.int .i64 p.vars), .val (.bool false), .val (.bool false), .cls (fun _ _ => True) (fun _ _ _ _ _ => trivial), .cls (fun _ _ => True) (fun _ _ _ _ _ => trivial), .cls (fun _ _ => True) (fun _ _ _ _ _ => trivial), .val (.bool false), .val (.bool false), .cls (fun _ _ => True) (fun _ _ _ _ _ => trivial), .cls (fun _ _ => True) (fun _ _ _ _ _ => trivial), .cls (fun _ _ => True) (fun _ _ _ _ _ => trivial), .val (.bool false), .val (.bool false), .cls (fun _ _ => True) (fun _ _ _ _ _ => trivial), .cls (fun _ _ => True) (fun _ _ _ _ _ => trivial), .cls (fun _ _ => True) (fun _ _ _ _ _ => trivial), .cls (fun _ _ => True) (fun _ _ _ _ _ => trivial), .cls (fun _ _ => True) (fun _ _ _ _ _ => trivial), .val (.bool false), .val (.bool false), .cls (fun _ _ => True) (fun _ _ _ _ _ => trivial), .cls (fun _ _ => True) (fun _ _ _ _ _ => trivial), .cls (fun _ _ => True) (fun _ _ _ _ _ => trivial), .val (.bool false), .val (.bool false), .cls (fun _ _ => True) (fun _ _ _ _ _ => trivial), .cls (fun _ _ => True) (fun _ _ _ _ _ => trivial), .cls (fun _ _ => True) (fun _ _ _ _ _ => trivial), .cls (fun _ _ => True) (fun _ _ _ _ _ => trivial), .cls (fun _ _ => True) (fun _ _ _ _ _ => trivial), .cls (fun _ _ => True) (fun _ _ _ _ _ => trivial), .cls (fun _ _ => True) (fun _ _ _ _ _ => trivial), .val (.bool false), .val (.bool false), .cls (fun _ _ => True) (fun _ _ _ _ _ => trivial), .cls (fun _ _ => True) (fun _ _ _ _ _ => trivial), .cls (fun _ _ => True) (fun _ _ _ _ _ => trivial), .cls (fun _ _ => True) (fun _ _ _ _ _ => trivial), .cls (fun _ _ => True) (fun _ _ _ _ _ => trivial), .val (.bool false), .val (.bool false)] [4, 5, 6, 9, 10, 11, 14, 15, 16, 17, 18, 21, 22, 23, 26, 27, 28, 29, 30, 31, 32, 35, 36, 37, 38, 39] (by kernel_rfl) (by kernel_rfl) (by rfl) ?_ ?_ ?_
    · intro i hi v W
      have hm : i ∈ [4, 5, 6, 9, 10, 11, 14, 15, 16, 17, 18, 21, 22, 23, 26, 27, 28, 29, 30, 31, 32, 35, 36, 37, 38, 39] := by simpa using hi
      simp only [List.mem_cons, List.not_mem_nil, or_false] at hm
      rcases hm with rfl | rfl | rfl | rfl | rfl | rfl | rfl | rfl | rfl | rfl | rfl | rfl | rfl | rfl | rfl | rfl | rfl | rfl | rfl | rfl | rfl | rfl | rfl | rfl | rfl | rfl <;> exact trivial
    · intro i o a W1 hi hsn ho hb hfr hpre
      have t1 : a.tmps[1]?.getD undef = .pointer (some ⟨w.heap.size, 0, none⟩) := Gr.slot (hfr.f 1 (by intro j hj; (try dsimp only); split <;> omega))
      obtain ⟨k0, k1, k2, k3, k4, k5⟩ := cells6 (blk_below R1.out hb (blk_lt R1.out))
      match i, hi with
      | 0, _ =>
        obtain rfl := Option.some.inj ho
        refine Gr.val (v := .pointer (some ⟨w.heap.size, 0, none⟩)) (w' := W1) (by simp [go_sem, t1]) ⟨_, rfl, rfl, Below.refl _ _⟩
      | 1, _ =>
        have p3 : a.tmps[3]?.getD undef = .pointer (some ⟨w.heap.size, 0, none⟩) := Gr.slot (hpre { on := 0, ground := .data } (by obtain rfl := Option.some.inj ho; simp) rfl (by decide))
        obtain rfl := Option.some.inj ho
        refine Gr.val (v := .int .i64 p.vars) (w' := W1) (by simp [go_sem, p3, k0]) ⟨_, rfl, rfl, Below.refl _ _⟩
      | 2, _ =>
        have p4 : a.tmps[4]?.getD undef = .int .i64 p.vars := Gr.slot (hpre { on := 1, ground := .data } (by obtain rfl := Option.some.inj ho; simp) rfl (by decide))
        obtain rfl := Option.some.inj ho
        refine Gr.val (v := .bool false) (w' := W1) (by simp [go_sem, p4, dn1]) ⟨_, rfl, rfl, Below.refl _ _⟩
      | 3, _ =>
        have p5 : a.tmps[5]?.getD undef = .bool false := Gr.slot (hpre { on := 2, ground := .data } (by obtain rfl := Option.some.inj ho; simp) rfl (by decide))
        obtain rfl := Option.some.inj ho
        refine Gr.val (v := .bool false) (w' := W1) (by simp [go_sem, p5]) ⟨_, rfl, rfl, Below.refl _ _⟩
      | 4, _ => exact absurd hsn (by decide)
      | 5, _ => exact absurd hsn (by decide)
      | 6, _ => exact absurd hsn (by decide)
      | 7, _ =>
        have p6 : a.tmps[6]?.getD undef = .bool false := Gr.slot (hpre { on := 3, ground := .data } (by obtain rfl := Option.some.inj ho; simp) rfl (by decide))
        obtain rfl := Option.some.inj ho
        refine Gr.val (v := .bool false) (w' := W1) (by simp [go_sem, p6]) ⟨_, rfl, rfl, Below.refl _ _⟩
      | 8, _ =>
        have p10 : a.tmps[10]?.getD undef = .bool false := Gr.slot (hpre { on := 7, ground := .data } (by obtain rfl := Option.some.inj ho; simp) rfl (by decide))
        obtain rfl := Option.some.inj ho
        refine Gr.val (v := .bool false) (w' := W1) (by simp [go_sem, p10]) ⟨_, rfl, rfl, Below.refl _ _⟩
      | 9, _ => exact absurd hsn (by decide)
      | 10, _ => exact absurd hsn (by decide)
      | 11, _ => exact absurd hsn (by decide)
      | 12, _ =>
        have p11 : a.tmps[11]?.getD undef = .bool false := Gr.slot (hpre { on := 8, ground := .data } (by obtain rfl := Option.some.inj ho; simp) rfl (by decide))
        obtain rfl := Option.some.inj ho
        refine Gr.val (v := .bool false) (w' := W1) (by simp [go_sem, p11]) ⟨_, rfl, rfl, Below.refl _ _⟩
      | 13, _ =>
        have p15 : a.tmps[15]?.getD undef = .bool false := Gr.slot (hpre { on := 12, ground := .data } (by obtain rfl := Option.some.inj ho; simp) rfl (by decide))
        obtain rfl := Option.some.inj ho
        refine Gr.val (v := .bool false) (w' := W1) (by simp [go_sem, p15]) ⟨_, rfl, rfl, Below.refl _ _⟩
      | 14, _ => exact absurd hsn (by decide)
      | 15, _ => exact absurd hsn (by decide)
      | 16, _ => exact absurd hsn (by decide)
      | 17, _ => exact absurd hsn (by decide)
      | 18, _ => exact absurd hsn (by decide)
      | 19, _ =>
        have p16 : a.tmps[16]?.getD undef = .bool false := Gr.slot (hpre { on := 13, ground := .data } (by obtain rfl := Option.some.inj ho; simp) rfl (by decide))
        obtain rfl := Option.some.inj ho
        refine Gr.val (v := .bool false) (w' := W1) (by simp [go_sem, p16]) ⟨_, rfl, rfl, Below.refl _ _⟩
      | 20, _ =>
        have p22 : a.tmps[22]?.getD undef = .bool false := Gr.slot (hpre { on := 19, ground := .data } (by obtain rfl := Option.some.inj ho; simp) rfl (by decide))
        obtain rfl := Option.some.inj ho
        refine Gr.val (v := .bool false) (w' := W1) (by simp [go_sem, p22]) ⟨_, rfl, rfl, Below.refl _ _⟩
      | 21, _ => exact absurd hsn (by decide)
      | 22, _ => exact absurd hsn (by decide)
      | 23, _ => exact absurd hsn (by decide)
      | 24, _ =>
        have p23 : a.tmps[23]?.getD undef = .bool false := Gr.slot (hpre { on := 20, ground := .data } (by obtain rfl := Option.some.inj ho; simp) rfl (by decide))
        obtain rfl := Option.some.inj ho
        refine Gr.val (v := .bool false) (w' := W1) (by simp [go_sem, p23]) ⟨_, rfl, rfl, Below.refl _ _⟩
      | 25, _ =>
        have p27 : a.tmps[27]?.getD undef = .bool false := Gr.slot (hpre { on := 24, ground := .data } (by obtain rfl := Option.some.inj ho; simp) rfl (by decide))
        obtain rfl := Option.some.inj ho
        refine Gr.val (v := .bool false) (w' := W1) (by simp [go_sem, p27]) ⟨_, rfl, rfl, Below.refl _ _⟩
      | 26, _ => exact absurd hsn (by decide)
      | 27, _ => exact absurd hsn (by decide)
      | 28, _ => exact absurd hsn (by decide)
      | 29, _ => exact absurd hsn (by decide)
      | 30, _ => exact absurd hsn (by decide)
      | 31, _ => exact absurd hsn (by decide)
      | 32, _ => exact absurd hsn (by decide)
      | 33, _ =>
        have p28 : a.tmps[28]?.getD undef = .bool false := Gr.slot (hpre { on := 25, ground := .data } (by obtain rfl := Option.some.inj ho; simp) rfl (by decide))
        obtain rfl := Option.some.inj ho
        refine Gr.val (v := .bool false) (w' := W1) (by simp [go_sem, p28]) ⟨_, rfl, rfl, Below.refl _ _⟩
      | 34, _ =>
        have p36 : a.tmps[36]?.getD undef = .bool false := Gr.slot (hpre { on := 33, ground := .data } (by obtain rfl := Option.some.inj ho; simp) rfl (by decide))
        obtain rfl := Option.some.inj ho
        refine Gr.val (v := .bool false) (w' := W1) (by simp [go_sem, p36]) ⟨_, rfl, rfl, Below.refl _ _⟩
      | 35, _ => exact absurd hsn (by decide)
      | 36, _ => exact absurd hsn (by decide)
      | 37, _ => exact absurd hsn (by decide)
      | 38, _ => exact absurd hsn (by decide)
      | 39, _ => exact absurd hsn (by decide)
      | 40, _ =>
        have p37 : a.tmps[37]?.getD undef = .bool false := Gr.slot (hpre { on := 34, ground := .data } (by obtain rfl := Option.some.inj ho; simp) rfl (by decide))
        obtain rfl := Option.some.inj ho
        refine Gr.val (v := .bool false) (w' := W1) (by simp [go_sem, p37]) ⟨_, rfl, rfl, Below.refl _ _⟩
      | 41, _ =>
        have p43 : a.tmps[43]?.getD undef = .bool false := Gr.slot (hpre { on := 40, ground := .data } (by obtain rfl := Option.some.inj ho; simp) rfl (by decide))
        obtain rfl := Option.some.inj ho
        refine Gr.val (v := .bool false) (w' := W1) (by simp [go_sem, p43]) ⟨_, rfl, rfl, Below.refl _ _⟩
      | i + 42, h => omega
    intro a W1 hb hfr hall
    obtain ⟨u0, hu0⟩ : ∃ u, a.tmps[0]?.getD undef = u := ⟨_, rfl⟩
    obtain ⟨u3, hu3⟩ : ∃ u, a.tmps[3]?.getD undef = u := ⟨_, rfl⟩
    obtain ⟨u4, hu4⟩ : ∃ u, a.tmps[4]?.getD undef = u := ⟨_, rfl⟩
    obtain ⟨u5, hu5⟩ : ∃ u, a.tmps[5]?.getD undef = u := ⟨_, rfl⟩
    obtain ⟨u6, hu6⟩ : ∃ u, a.tmps[6]?.getD undef = u := ⟨_, rfl⟩
    obtain ⟨u7, hu7⟩ : ∃ u, a.tmps[7]?.getD undef = u := ⟨_, rfl⟩
    obtain ⟨u8, hu8⟩ : ∃ u, a.tmps[8]?.getD undef = u := ⟨_, rfl⟩
    obtain ⟨u9, hu9⟩ : ∃ u, a.tmps[9]?.getD undef = u := ⟨_, rfl⟩
    obtain ⟨u10, hu10⟩ : ∃ u, a.tmps[10]?.getD undef = u := ⟨_, rfl⟩
    obtain ⟨u11, hu11⟩ : ∃ u, a.tmps[11]?.getD undef = u := ⟨_, rfl⟩
    obtain ⟨u12, hu12⟩ : ∃ u, a.tmps[12]?.getD undef = u := ⟨_, rfl⟩
    obtain ⟨u13, hu13⟩ : ∃ u, a.tmps[13]?.getD undef = u := ⟨_, rfl⟩
    obtain ⟨u14, hu14⟩ : ∃ u, a.tmps[14]?.getD undef = u := ⟨_, rfl⟩
    obtain ⟨u15, hu15⟩ : ∃ u, a.tmps[15]?.getD undef = u := ⟨_, rfl⟩
    obtain ⟨u16, hu16⟩ : ∃ u, a.tmps[16]?.getD undef = u := ⟨_, rfl⟩
    obtain ⟨u17, hu17⟩ : ∃ u, a.tmps[17]?.getD undef = u := ⟨_, rfl⟩
    obtain ⟨u18, hu18⟩ : ∃ u, a.tmps[18]?.getD undef = u := ⟨_, rfl⟩
    obtain ⟨u19, hu19⟩ : ∃ u, a.tmps[19]?.getD undef = u := ⟨_, rfl⟩
    obtain ⟨u20, hu20⟩ : ∃ u, a.tmps[20]?.getD undef = u := ⟨_, rfl⟩
    obtain ⟨u21, hu21⟩ : ∃ u, a.tmps[21]?.getD undef = u := ⟨_, rfl⟩
    obtain ⟨u22, hu22⟩ : ∃ u, a.tmps[22]?.getD undef = u := ⟨_, rfl⟩
    obtain ⟨u23, hu23⟩ : ∃ u, a.tmps[23]?.getD undef = u := ⟨_, rfl⟩
    obtain ⟨u24, hu24⟩ : ∃ u, a.tmps[24]?.getD undef = u := ⟨_, rfl⟩
    obtain ⟨u25, hu25⟩ : ∃ u, a.tmps[25]?.getD undef = u := ⟨_, rfl⟩
    obtain ⟨u26, hu26⟩ : ∃ u, a.tmps[26]?.getD undef = u := ⟨_, rfl⟩
    obtain ⟨u27, hu27⟩ : ∃ u, a.tmps[27]?.getD undef = u := ⟨_, rfl⟩
    obtain ⟨u28, hu28⟩ : ∃ u, a.tmps[28]?.getD undef = u := ⟨_, rfl⟩
    obtain ⟨u29, hu29⟩ : ∃ u, a.tmps[29]?.getD undef = u := ⟨_, rfl⟩
    obtain ⟨u30, hu30⟩ : ∃ u, a.tmps[30]?.getD undef = u := ⟨_, rfl⟩
    obtain ⟨u31, hu31⟩ : ∃ u, a.tmps[31]?.getD undef = u := ⟨_, rfl⟩
    obtain ⟨u32, hu32⟩ : ∃ u, a.tmps[32]?.getD undef = u := ⟨_, rfl⟩
    obtain ⟨u33, hu33⟩ : ∃ u, a.tmps[33]?.getD undef = u := ⟨_, rfl⟩
    obtain ⟨u34, hu34⟩ : ∃ u, a.tmps[34]?.getD undef = u := ⟨_, rfl⟩
    obtain ⟨u35, hu35⟩ : ∃ u, a.tmps[35]?.getD undef = u := ⟨_, rfl⟩
    obtain ⟨u36, hu36⟩ : ∃ u, a.tmps[36]?.getD undef = u := ⟨_, rfl⟩
    obtain ⟨u37, hu37⟩ : ∃ u, a.tmps[37]?.getD undef = u := ⟨_, rfl⟩
    obtain ⟨u38, hu38⟩ : ∃ u, a.tmps[38]?.getD undef = u := ⟨_, rfl⟩
    obtain ⟨u39, hu39⟩ : ∃ u, a.tmps[39]?.getD undef = u := ⟨_, rfl⟩
    obtain ⟨u40, hu40⟩ : ∃ u, a.tmps[40]?.getD undef = u := ⟨_, rfl⟩
    obtain ⟨u41, hu41⟩ : ∃ u, a.tmps[41]?.getD undef = u := ⟨_, rfl⟩
    obtain ⟨u42, hu42⟩ : ∃ u, a.tmps[42]?.getD undef = u := ⟨_, rfl⟩
    obtain ⟨u43, hu43⟩ : ∃ u, a.tmps[43]?.getD undef = u := ⟨_, rfl⟩
    have hA : a = ⟨#[u0, .pointer (some ⟨w.heap.size, 0, none⟩), .bool false, u3, u4, u5, u6, u7, u8, u9, u10, u11, u12, u13, u14, u15, u16, u17, u18, u19, u20, u21, u22, u23, u24, u25, u26, u27, u28, u29, u30, u31, u32, u33, u34, u35, u36, u37, u38, u39, u40, u41, u42, u43], []⟩ := Gr.act_eq (l := [u0, .pointer (some ⟨w.heap.size, 0, none⟩), .bool false, u3, u4, u5, u6, u7, u8, u9, u10, u11, u12, u13, u14, u15, u16, u17, u18, u19, u20, u21, u22, u23, u24, u25, u26, u27, u28, u29, u30, u31, u32, u33, u34, u35, u36, u37, u38, u39, u40, u41, u42, u43]) hfr.d hfr.s (by
      intro i hi
      match i, hi with
      | 0, _ => exact hu0
      | 1, _ => exact Gr.slot (hfr.f 1 (by intro j hj; (try dsimp only); split <;> omega))
      | 2, _ => exact Gr.slot (hall 41 (by omega))
      | 3, _ => exact hu3
      | 4, _ => exact hu4
      | 5, _ => exact hu5
      | 6, _ => exact hu6
      | 7, _ => exact hu7
      | 8, _ => exact hu8
      | 9, _ => exact hu9
      | 10, _ => exact hu10
      | 11, _ => exact hu11
      | 12, _ => exact hu12
      | 13, _ => exact hu13
      | 14, _ => exact hu14
      | 15, _ => exact hu15
      | 16, _ => exact hu16
      | 17, _ => exact hu17
      | 18, _ => exact hu18
      | 19, _ => exact hu19
      | 20, _ => exact hu20
      | 21, _ => exact hu21
      | 22, _ => exact hu22
      | 23, _ => exact hu23
      | 24, _ => exact hu24
      | 25, _ => exact hu25
      | 26, _ => exact hu26
      | 27, _ => exact hu27
      | 28, _ => exact hu28
      | 29, _ => exact hu29
      | 30, _ => exact hu30
      | 31, _ => exact hu31
      | 32, _ => exact hu32
      | 33, _ => exact hu33
      | 34, _ => exact hu34
      | 35, _ => exact hu35
      | 36, _ => exact hu36
      | 37, _ => exact hu37
      | 38, _ => exact hu38
      | 39, _ => exact hu39
      | 40, _ => exact hu40
      | 41, _ => exact hu41
      | 42, _ => exact hu42
      | 43, _ => exact hu43
      | i + 44, h => simp only [List.length_cons, List.length_nil] at h; omega)
    clear hu0 hu3 hu4 hu5 hu6 hu7 hu8 hu9 hu10 hu11 hu12 hu13 hu14 hu15 hu16 hu17 hu18 hu19 hu20 hu21 hu22 hu23 hu24 hu25 hu26 hu27 hu28 hu29 hu30 hu31 hu32 hu33 hu34 hu35 hu36 hu37 hu38 hu39 hu40 hu41 hu42 hu43
    subst hA
    go_wp2
    go_ret
    exact ⟨by rw [HO.out]; rfl, B1.out.trans (hb.mono B1.out.size)⟩
  have n1 : 0 ≤ p.vars := by omega
  have dn1 : decide (0 ≤ p.vars) = true := decide_eq_true n1
  clear mn1
  by_cases mn2 : ¬ 0 ≤ p.objs
  · have HO := Lib.hid (show formed p = false from by simp [formed, n1, mn2])
    have dn2 : decide (0 ≤ p.objs) = false := decide_eq_false mn2
    clear mn2
    go_enter Try.func31, Try.ntmps31
    go_upto_region 1 with fail
    generalize w.alloc (.cells #[.int .i64 p.vars, .int .i64 p.objs, .int .i64 p.fields, .slice Af p.fs.length cf, .slice Ae p.en.length ce, .slice Ao p.ops.length co] 33) = w1 at *
    refine Gr.regionY 42 (fun i => if i < 41 then i + 3 else i - 39) [.val (.pointer (some ⟨w.heap.size, 0, none⟩)), .val (.int .i64 p.vars), .val (.bool true), .val (.bool true), .val (.pointer (some ⟨w.heap.size, 1, none⟩)), .val (.int .i64 p.objs), .val (.bool false), .val (.bool false), .val (.bool false), .cls (fun _ _ => True) (fun _ _ _ _ _ => trivial), .cls (fun _ _ => True) (fun _ _ _ _ _ => trivial), .cls (fun _ _ => True) (fun _ _ _ _ _ => trivial), .val (.bool false), .val (.bool false), .cls (fun _ _ => True) (fun _ _ _ _ _ => trivial), .cls (fun _ _ => True) (fun _ _ _ _ _ => trivial), .cls (fun _ _ => True) (fun _ _ _ _ _ => trivial), .cls (fun _ _ => True) (fun _ _ _ _ _ => trivial), .cls (fun _ _ => True) (fun _ _ _ _ _ => trivial), .val (.bool false), .val (.bool false), .cls (fun _ _ => True) (fun _ _ _ _ _ => trivial), .cls (fun _ _ => True) (fun _ _ _ _ _ => trivial), .cls (fun _ _ => True) (fun _ _ _ _ _ => trivial), .val (.bool false), .val (.bool false), .cls (fun _ _ => True) (fun _ _ _ _ _ => trivial), .cls (fun _ _ => True) (fun _ _ _ _ _ => trivial), .cls (fun _ _ => True) (fun _ _ _ _ _ => trivial), .cls (fun _ _ => True) (fun _ _ _ _ _ => trivial), .cls (fun _ _ => True) (fun _ _ _ _ _ => trivial), .cls (fun _ _ => True) (fun _ _ _ _ _ => trivial), .cls (fun _ _ => True) (fun _ _ _ _ _ => trivial), .val (.bool false), .val (.bool false), .cls (fun _ _ => True) (fun _ _ _ _ _ => trivial), .cls (fun _ _ => True) (fun _ _ _ _ _ => trivial), .cls (fun _ _ => True) (fun _ _ _ _ _ => trivial), .cls (fun _ _ => True) (fun _ _ _ _ _ => trivial), .cls (fun _ _ => True) (fun _ _ _ _ _ => trivial), .val (.bool false), .val (.bool false)] [9, 10, 11, 14, 15, 16, 17, 18, 21, 22, 23, 26, 27, 28, 29, 30, 31, 32, 35, 36, 37, 38, 39] (by kernel_rfl) (by kernel_rfl) (by rfl) ?_ ?_ ?_
    · intro i hi v W
      have hm : i ∈ [9, 10, 11, 14, 15, 16, 17, 18, 21, 22, 23, 26, 27, 28, 29, 30, 31, 32, 35, 36, 37, 38, 39] := by simpa using hi
      simp only [List.mem_cons, List.not_mem_nil, or_false] at hm
      rcases hm with rfl | rfl | rfl | rfl | rfl | rfl | rfl | rfl | rfl | rfl | rfl | rfl | rfl | rfl | rfl | rfl | rfl | rfl | rfl | rfl | rfl | rfl | rfl <;> exact trivial
    · intro i o a W1 hi hsn ho hb hfr hpre
      have t1 : a.tmps[1]?.getD undef = .pointer (some ⟨w.heap.size, 0, none⟩) := Gr.slot (hfr.f 1 (by intro j hj; (try dsimp only); split <;> omega))
      obtain ⟨k0, k1, k2, k3, k4, k5⟩ := cells6 (blk_below R1.out hb (blk_lt R1.out))
      match i, hi with
      | 0, _ =>
        obtain rfl := Option.some.inj ho
        refine Gr.val (v := .pointer (some ⟨w.heap.size, 0, none⟩)) (w' := W1) (by simp [go_sem, t1]) ⟨_, rfl, rfl, Below.refl _ _⟩
      | 1, _ =>
        have p3 : a.tmps[3]?.getD undef = .pointer (some ⟨w.heap.size, 0, none⟩) := Gr.slot (hpre { on := 0, ground := .data } (by obtain rfl := Option.some.inj ho; simp) rfl (by decide))
        obtain rfl := Option.some.inj ho
        refine Gr.val (v := .int .i64 p.vars) (w' := W1) (by simp [go_sem, p3, k0]) ⟨_, rfl, rfl, Below.refl _ _⟩
      | 2, _ =>
        have p4 : a.tmps[4]?.getD undef = .int .i64 p.vars := Gr.slot (hpre { on := 1, ground := .data } (by obtain rfl := Option.some.inj ho; simp) rfl (by decide))
        obtain rfl := Option.some.inj ho
        refine Gr.val (v := .bool true) (w' := W1) (by simp [go_sem, p4, dn1]) ⟨_, rfl, rfl, Below.refl _ _⟩
      | 3, _ =>
        have p5 : a.tmps[5]?.getD undef = .bool true := Gr.slot (hpre { on := 2, ground := .data } (by obtain rfl := Option.some.inj ho; simp) rfl (by decide))
        obtain rfl := Option.some.inj ho
        refine Gr.val (v := .bool true) (w' := W1) (by simp [go_sem, p5]) ⟨_, rfl, rfl, Below.refl _ _⟩
      | 4, _ =>
        obtain rfl := Option.some.inj ho
        refine Gr.val (v := .pointer (some ⟨w.heap.size, 1, none⟩)) (w' := W1) (by simp [go_sem, t1]) ⟨_, rfl, rfl, Below.refl _ _⟩
      | 5, _ =>
        have p7 : a.tmps[7]?.getD undef = .pointer (some ⟨w.heap.size, 1, none⟩) := Gr.slot (hpre { on := 4, ground := .data } (by obtain rfl := Option.some.inj ho; simp) rfl (by decide))
        obtain rfl := Option.some.inj ho
        refine Gr.val (v := .int .i64 p.objs) (w' := W1) (by simp [go_sem, p7, k1]) ⟨_, rfl, rfl, Below.refl _ _⟩
      | 6, _ =>
        have p8 : a.tmps[8]?.getD undef = .int .i64 p.objs := Gr.slot (hpre { on := 5, ground := .data } (by obtain rfl := Option.some.inj ho; simp) rfl (by decide))
        obtain rfl := Option.some.inj ho
        refine Gr.val (v := .bool false) (w' := W1) (by simp [go_sem, p8, dn2]) ⟨_, rfl, rfl, Below.refl _ _⟩
      | 7, _ =>
        have p6 : a.tmps[6]?.getD undef = .bool true := Gr.slot (hpre { on := 3, ground := .data } (by obtain rfl := Option.some.inj ho; simp) rfl (by decide))
        have p9 : a.tmps[9]?.getD undef = .bool false := Gr.slot (hpre { on := 6, ground := .data } (by obtain rfl := Option.some.inj ho; simp) rfl (by decide))
        obtain rfl := Option.some.inj ho
        refine Gr.val (v := .bool false) (w' := W1) (by simp [go_sem, p6, p9]) ⟨_, rfl, rfl, Below.refl _ _⟩
      | 8, _ =>
        have p10 : a.tmps[10]?.getD undef = .bool false := Gr.slot (hpre { on := 7, ground := .data } (by obtain rfl := Option.some.inj ho; simp) rfl (by decide))
        obtain rfl := Option.some.inj ho
        refine Gr.val (v := .bool false) (w' := W1) (by simp [go_sem, p10]) ⟨_, rfl, rfl, Below.refl _ _⟩
      | 9, _ => exact absurd hsn (by decide)
      | 10, _ => exact absurd hsn (by decide)
      | 11, _ => exact absurd hsn (by decide)
      | 12, _ =>
        have p11 : a.tmps[11]?.getD undef = .bool false := Gr.slot (hpre { on := 8, ground := .data } (by obtain rfl := Option.some.inj ho; simp) rfl (by decide))
        obtain rfl := Option.some.inj ho
        refine Gr.val (v := .bool false) (w' := W1) (by simp [go_sem, p11]) ⟨_, rfl, rfl, Below.refl _ _⟩
      | 13, _ =>
        have p15 : a.tmps[15]?.getD undef = .bool false := Gr.slot (hpre { on := 12, ground := .data } (by obtain rfl := Option.some.inj ho; simp) rfl (by decide))
        obtain rfl := Option.some.inj ho
        refine Gr.val (v := .bool false) (w' := W1) (by simp [go_sem, p15]) ⟨_, rfl, rfl, Below.refl _ _⟩
      | 14, _ => exact absurd hsn (by decide)
      | 15, _ => exact absurd hsn (by decide)
      | 16, _ => exact absurd hsn (by decide)
      | 17, _ => exact absurd hsn (by decide)
      | 18, _ => exact absurd hsn (by decide)
      | 19, _ =>
        have p16 : a.tmps[16]?.getD undef = .bool false := Gr.slot (hpre { on := 13, ground := .data } (by obtain rfl := Option.some.inj ho; simp) rfl (by decide))
        obtain rfl := Option.some.inj ho
        refine Gr.val (v := .bool false) (w' := W1) (by simp [go_sem, p16]) ⟨_, rfl, rfl, Below.refl _ _⟩
      | 20, _ =>
        have p22 : a.tmps[22]?.getD undef = .bool false := Gr.slot (hpre { on := 19, ground := .data } (by obtain rfl := Option.some.inj ho; simp) rfl (by decide))
        obtain rfl := Option.some.inj ho
        refine Gr.val (v := .bool false) (w' := W1) (by simp [go_sem, p22]) ⟨_, rfl, rfl, Below.refl _ _⟩
      | 21, _ => exact absurd hsn (by decide)
      | 22, _ => exact absurd hsn (by decide)
      | 23, _ => exact absurd hsn (by decide)
      | 24, _ =>
        have p23 : a.tmps[23]?.getD undef = .bool false := Gr.slot (hpre { on := 20, ground := .data } (by obtain rfl := Option.some.inj ho; simp) rfl (by decide))
        obtain rfl := Option.some.inj ho
        refine Gr.val (v := .bool false) (w' := W1) (by simp [go_sem, p23]) ⟨_, rfl, rfl, Below.refl _ _⟩
      | 25, _ =>
        have p27 : a.tmps[27]?.getD undef = .bool false := Gr.slot (hpre { on := 24, ground := .data } (by obtain rfl := Option.some.inj ho; simp) rfl (by decide))
        obtain rfl := Option.some.inj ho
        refine Gr.val (v := .bool false) (w' := W1) (by simp [go_sem, p27]) ⟨_, rfl, rfl, Below.refl _ _⟩
      | 26, _ => exact absurd hsn (by decide)
      | 27, _ => exact absurd hsn (by decide)
      | 28, _ => exact absurd hsn (by decide)
      | 29, _ => exact absurd hsn (by decide)
      | 30, _ => exact absurd hsn (by decide)
      | 31, _ => exact absurd hsn (by decide)
      | 32, _ => exact absurd hsn (by decide)
      | 33, _ =>
        have p28 : a.tmps[28]?.getD undef = .bool false := Gr.slot (hpre { on := 25, ground := .data } (by obtain rfl := Option.some.inj ho; simp) rfl (by decide))
        obtain rfl := Option.some.inj ho
        refine Gr.val (v := .bool false) (w' := W1) (by simp [go_sem, p28]) ⟨_, rfl, rfl, Below.refl _ _⟩
      | 34, _ =>
        have p36 : a.tmps[36]?.getD undef = .bool false := Gr.slot (hpre { on := 33, ground := .data } (by obtain rfl := Option.some.inj ho; simp) rfl (by decide))
        obtain rfl := Option.some.inj ho
        refine Gr.val (v := .bool false) (w' := W1) (by simp [go_sem, p36]) ⟨_, rfl, rfl, Below.refl _ _⟩
      | 35, _ => exact absurd hsn (by decide)
      | 36, _ => exact absurd hsn (by decide)
      | 37, _ => exact absurd hsn (by decide)
      | 38, _ => exact absurd hsn (by decide)
      | 39, _ => exact absurd hsn (by decide)
      | 40, _ =>
        have p37 : a.tmps[37]?.getD undef = .bool false := Gr.slot (hpre { on := 34, ground := .data } (by obtain rfl := Option.some.inj ho; simp) rfl (by decide))
        obtain rfl := Option.some.inj ho
        refine Gr.val (v := .bool false) (w' := W1) (by simp [go_sem, p37]) ⟨_, rfl, rfl, Below.refl _ _⟩
      | 41, _ =>
        have p43 : a.tmps[43]?.getD undef = .bool false := Gr.slot (hpre { on := 40, ground := .data } (by obtain rfl := Option.some.inj ho; simp) rfl (by decide))
        obtain rfl := Option.some.inj ho
        refine Gr.val (v := .bool false) (w' := W1) (by simp [go_sem, p43]) ⟨_, rfl, rfl, Below.refl _ _⟩
      | i + 42, h => omega
    intro a W1 hb hfr hall
    obtain ⟨u0, hu0⟩ : ∃ u, a.tmps[0]?.getD undef = u := ⟨_, rfl⟩
    obtain ⟨u3, hu3⟩ : ∃ u, a.tmps[3]?.getD undef = u := ⟨_, rfl⟩
    obtain ⟨u4, hu4⟩ : ∃ u, a.tmps[4]?.getD undef = u := ⟨_, rfl⟩
    obtain ⟨u5, hu5⟩ : ∃ u, a.tmps[5]?.getD undef = u := ⟨_, rfl⟩
    obtain ⟨u6, hu6⟩ : ∃ u, a.tmps[6]?.getD undef = u := ⟨_, rfl⟩
    obtain ⟨u7, hu7⟩ : ∃ u, a.tmps[7]?.getD undef = u := ⟨_, rfl⟩
    obtain ⟨u8, hu8⟩ : ∃ u, a.tmps[8]?.getD undef = u := ⟨_, rfl⟩
    obtain ⟨u9, hu9⟩ : ∃ u, a.tmps[9]?.getD undef = u := ⟨_, rfl⟩
    obtain ⟨u10, hu10⟩ : ∃ u, a.tmps[10]?.getD undef = u := ⟨_, rfl⟩
    obtain ⟨u11, hu11⟩ : ∃ u, a.tmps[11]?.getD undef = u := ⟨_, rfl⟩
    obtain ⟨u12, hu12⟩ : ∃ u, a.tmps[12]?.getD undef = u := ⟨_, rfl⟩
    obtain ⟨u13, hu13⟩ : ∃ u, a.tmps[13]?.getD undef = u := ⟨_, rfl⟩
    obtain ⟨u14, hu14⟩ : ∃ u, a.tmps[14]?.getD undef = u := ⟨_, rfl⟩
    obtain ⟨u15, hu15⟩ : ∃ u, a.tmps[15]?.getD undef = u := ⟨_, rfl⟩
    obtain ⟨u16, hu16⟩ : ∃ u, a.tmps[16]?.getD undef = u := ⟨_, rfl⟩
    obtain ⟨u17, hu17⟩ : ∃ u, a.tmps[17]?.getD undef = u := ⟨_, rfl⟩
    obtain ⟨u18, hu18⟩ : ∃ u, a.tmps[18]?.getD undef = u := ⟨_, rfl⟩
    obtain ⟨u19, hu19⟩ : ∃ u, a.tmps[19]?.getD undef = u := ⟨_, rfl⟩
    obtain ⟨u20, hu20⟩ : ∃ u, a.tmps[20]?.getD undef = u := ⟨_, rfl⟩
    obtain ⟨u21, hu21⟩ : ∃ u, a.tmps[21]?.getD undef = u := ⟨_, rfl⟩
    obtain ⟨u22, hu22⟩ : ∃ u, a.tmps[22]?.getD undef = u := ⟨_, rfl⟩
    obtain ⟨u23, hu23⟩ : ∃ u, a.tmps[23]?.getD undef = u := ⟨_, rfl⟩
    obtain ⟨u24, hu24⟩ : ∃ u, a.tmps[24]?.getD undef = u := ⟨_, rfl⟩
    obtain ⟨u25, hu25⟩ : ∃ u, a.tmps[25]?.getD undef = u := ⟨_, rfl⟩
    obtain ⟨u26, hu26⟩ : ∃ u, a.tmps[26]?.getD undef = u := ⟨_, rfl⟩
    obtain ⟨u27, hu27⟩ : ∃ u, a.tmps[27]?.getD undef = u := ⟨_, rfl⟩
    obtain ⟨u28, hu28⟩ : ∃ u, a.tmps[28]?.getD undef = u := ⟨_, rfl⟩
    obtain ⟨u29, hu29⟩ : ∃ u, a.tmps[29]?.getD undef = u := ⟨_, rfl⟩
    obtain ⟨u30, hu30⟩ : ∃ u, a.tmps[30]?.getD undef = u := ⟨_, rfl⟩
    obtain ⟨u31, hu31⟩ : ∃ u, a.tmps[31]?.getD undef = u := ⟨_, rfl⟩
    obtain ⟨u32, hu32⟩ : ∃ u, a.tmps[32]?.getD undef = u := ⟨_, rfl⟩
    obtain ⟨u33, hu33⟩ : ∃ u, a.tmps[33]?.getD undef = u := ⟨_, rfl⟩
    obtain ⟨u34, hu34⟩ : ∃ u, a.tmps[34]?.getD undef = u := ⟨_, rfl⟩
    obtain ⟨u35, hu35⟩ : ∃ u, a.tmps[35]?.getD undef = u := ⟨_, rfl⟩
    obtain ⟨u36, hu36⟩ : ∃ u, a.tmps[36]?.getD undef = u := ⟨_, rfl⟩
    obtain ⟨u37, hu37⟩ : ∃ u, a.tmps[37]?.getD undef = u := ⟨_, rfl⟩
    obtain ⟨u38, hu38⟩ : ∃ u, a.tmps[38]?.getD undef = u := ⟨_, rfl⟩
    obtain ⟨u39, hu39⟩ : ∃ u, a.tmps[39]?.getD undef = u := ⟨_, rfl⟩
    obtain ⟨u40, hu40⟩ : ∃ u, a.tmps[40]?.getD undef = u := ⟨_, rfl⟩
    obtain ⟨u41, hu41⟩ : ∃ u, a.tmps[41]?.getD undef = u := ⟨_, rfl⟩
    obtain ⟨u42, hu42⟩ : ∃ u, a.tmps[42]?.getD undef = u := ⟨_, rfl⟩
    obtain ⟨u43, hu43⟩ : ∃ u, a.tmps[43]?.getD undef = u := ⟨_, rfl⟩
    have hA : a = ⟨#[u0, .pointer (some ⟨w.heap.size, 0, none⟩), .bool false, u3, u4, u5, u6, u7, u8, u9, u10, u11, u12, u13, u14, u15, u16, u17, u18, u19, u20, u21, u22, u23, u24, u25, u26, u27, u28, u29, u30, u31, u32, u33, u34, u35, u36, u37, u38, u39, u40, u41, u42, u43], []⟩ := Gr.act_eq (l := [u0, .pointer (some ⟨w.heap.size, 0, none⟩), .bool false, u3, u4, u5, u6, u7, u8, u9, u10, u11, u12, u13, u14, u15, u16, u17, u18, u19, u20, u21, u22, u23, u24, u25, u26, u27, u28, u29, u30, u31, u32, u33, u34, u35, u36, u37, u38, u39, u40, u41, u42, u43]) hfr.d hfr.s (by
      intro i hi
      match i, hi with
      | 0, _ => exact hu0
      | 1, _ => exact Gr.slot (hfr.f 1 (by intro j hj; (try dsimp only); split <;> omega))
      | 2, _ => exact Gr.slot (hall 41 (by omega))
      | 3, _ => exact hu3
      | 4, _ => exact hu4
      | 5, _ => exact hu5
      | 6, _ => exact hu6
      | 7, _ => exact hu7
      | 8, _ => exact hu8
      | 9, _ => exact hu9
      | 10, _ => exact hu10
      | 11, _ => exact hu11
      | 12, _ => exact hu12
      | 13, _ => exact hu13
      | 14, _ => exact hu14
      | 15, _ => exact hu15
      | 16, _ => exact hu16
      | 17, _ => exact hu17
      | 18, _ => exact hu18
      | 19, _ => exact hu19
      | 20, _ => exact hu20
      | 21, _ => exact hu21
      | 22, _ => exact hu22
      | 23, _ => exact hu23
      | 24, _ => exact hu24
      | 25, _ => exact hu25
      | 26, _ => exact hu26
      | 27, _ => exact hu27
      | 28, _ => exact hu28
      | 29, _ => exact hu29
      | 30, _ => exact hu30
      | 31, _ => exact hu31
      | 32, _ => exact hu32
      | 33, _ => exact hu33
      | 34, _ => exact hu34
      | 35, _ => exact hu35
      | 36, _ => exact hu36
      | 37, _ => exact hu37
      | 38, _ => exact hu38
      | 39, _ => exact hu39
      | 40, _ => exact hu40
      | 41, _ => exact hu41
      | 42, _ => exact hu42
      | 43, _ => exact hu43
      | i + 44, h => simp only [List.length_cons, List.length_nil] at h; omega)
    clear hu0 hu3 hu4 hu5 hu6 hu7 hu8 hu9 hu10 hu11 hu12 hu13 hu14 hu15 hu16 hu17 hu18 hu19 hu20 hu21 hu22 hu23 hu24 hu25 hu26 hu27 hu28 hu29 hu30 hu31 hu32 hu33 hu34 hu35 hu36 hu37 hu38 hu39 hu40 hu41 hu42 hu43
    subst hA
    go_wp2
    go_ret
    exact ⟨by rw [HO.out]; rfl, B1.out.trans (hb.mono B1.out.size)⟩
  have n2 : 0 ≤ p.objs := by omega
  have dn2 : decide (0 ≤ p.objs) = true := decide_eq_true n2
  clear mn2
  by_cases mn3 : ¬ 0 ≤ p.fields
  · have HO := Lib.hid (show formed p = false from by simp [formed, n1, n2, mn3])
    have dn3 : decide (0 ≤ p.fields) = false := decide_eq_false mn3
    clear mn3
    go_enter Try.func31, Try.ntmps31
    go_upto_region 1 with fail
    generalize w.alloc (.cells #[.int .i64 p.vars, .int .i64 p.objs, .int .i64 p.fields, .slice Af p.fs.length cf, .slice Ae p.en.length ce, .slice Ao p.ops.length co] 33) = w1 at *
    refine Gr.regionY 42 (fun i => if i < 41 then i + 3 else i - 39) [.val (.pointer (some ⟨w.heap.size, 0, none⟩)), .val (.int .i64 p.vars), .val (.bool true), .val (.bool true), .val (.pointer (some ⟨w.heap.size, 1, none⟩)), .val (.int .i64 p.objs), .val (.bool true), .val (.bool true), .val (.bool true), .val (.pointer (some ⟨w.heap.size, 2, none⟩)), .val (.int .i64 p.fields), .val (.bool false), .val (.bool false), .val (.bool false), .cls (fun _ _ => True) (fun _ _ _ _ _ => trivial), .cls (fun _ _ => True) (fun _ _ _ _ _ => trivial), .cls (fun _ _ => True) (fun _ _ _ _ _ => trivial), .cls (fun _ _ => True) (fun _ _ _ _ _ => trivial), .cls (fun _ _ => True) (fun _ _ _ _ _ => trivial), .val (.bool false), .val (.bool false), .cls (fun _ _ => True) (fun _ _ _ _ _ => trivial), .cls (fun _ _ => True) (fun _ _ _ _ _ => trivial), .cls (fun _ _ => True) (fun _ _ _ _ _ => trivial), .val (.bool false), .val (.bool false), .cls (fun _ _ => True) (fun _ _ _ _ _ => trivial), .cls (fun _ _ => True) (fun _ _ _ _ _ => trivial), .cls (fun _ _ => True) (fun _ _ _ _ _ => trivial), .cls (fun _ _ => True) (fun _ _ _ _ _ => trivial), .cls (fun _ _ => True) (fun _ _ _ _ _ => trivial), .cls (fun _ _ => True) (fun _ _ _ _ _ => trivial), .cls (fun _ _ => True) (fun _ _ _ _ _ => trivial), .val (.bool false), .val (.bool false), .cls (fun _ _ => True) (fun _ _ _ _ _ => trivial), .cls (fun _ _ => True) (fun _ _ _ _ _ => trivial), .cls (fun _ _ => True) (fun _ _ _ _ _ => trivial), .cls (fun _ _ => True) (fun _ _ _ _ _ => trivial), .cls (fun _ _ => True) (fun _ _ _ _ _ => trivial), .val (.bool false), .val (.bool false)] [14, 15, 16, 17, 18, 21, 22, 23, 26, 27, 28, 29, 30, 31, 32, 35, 36, 37, 38, 39] (by kernel_rfl) (by kernel_rfl) (by rfl) ?_ ?_ ?_
    · intro i hi v W
      have hm : i ∈ [14, 15, 16, 17, 18, 21, 22, 23, 26, 27, 28, 29, 30, 31, 32, 35, 36, 37, 38, 39] := by simpa using hi
      simp only [List.mem_cons, List.not_mem_nil, or_false] at hm
      rcases hm with rfl | rfl | rfl | rfl | rfl | rfl | rfl | rfl | rfl | rfl | rfl | rfl | rfl | rfl | rfl | rfl | rfl | rfl | rfl | rfl <;> exact trivial
    · intro i o a W1 hi hsn ho hb hfr hpre
      have t1 : a.tmps[1]?.getD undef = .pointer (some ⟨w.heap.size, 0, none⟩) := Gr.slot (hfr.f 1 (by intro j hj; (try dsimp only); split <;> omega))
      obtain ⟨k0, k1, k2, k3, k4, k5⟩ := cells6 (blk_below R1.out hb (blk_lt R1.out))
      match i, hi with
      | 0, _ =>
        obtain rfl := Option.some.inj ho
        refine Gr.val (v := .pointer (some ⟨w.heap.size, 0, none⟩)) (w' := W1) (by simp [go_sem, t1]) ⟨_, rfl, rfl, Below.refl _ _⟩
      | 1, _ =>
        have p3 : a.tmps[3]?.getD undef = .pointer (some ⟨w.heap.size, 0, none⟩) := Gr.slot (hpre { on := 0, ground := .data } (by obtain rfl := Option.some.inj ho; simp) rfl (by decide))
        obtain rfl := Option.some.inj ho
        refine Gr.val (v := .int .i64 p.vars) (w' := W1) (by simp [go_sem, p3, k0]) ⟨_, rfl, rfl, Below.refl _ _⟩
      | 2, _ =>
        have p4 : a.tmps[4]?.getD undef = .int .i64 p.vars := Gr.slot (hpre { on := 1, ground := .data } (by obtain rfl := Option.some.inj ho; simp) rfl (by decide))
        obtain rfl := Option.some.inj ho
        refine Gr.val (v := .bool true) (w' := W1) (by simp [go_sem, p4, dn1]) ⟨_, rfl, rfl, Below.refl _ _⟩
      | 3, _ =>
        have p5 : a.tmps[5]?.getD undef = .bool true := Gr.slot (hpre { on := 2, ground := .data } (by obtain rfl := Option.some.inj ho; simp) rfl (by decide))
        obtain rfl := Option.some.inj ho
        refine Gr.val (v := .bool true) (w' := W1) (by simp [go_sem, p5]) ⟨_, rfl, rfl, Below.refl _ _⟩
      | 4, _ =>
        obtain rfl := Option.some.inj ho
        refine Gr.val (v := .pointer (some ⟨w.heap.size, 1, none⟩)) (w' := W1) (by simp [go_sem, t1]) ⟨_, rfl, rfl, Below.refl _ _⟩
      | 5, _ =>
        have p7 : a.tmps[7]?.getD undef = .pointer (some ⟨w.heap.size, 1, none⟩) := Gr.slot (hpre { on := 4, ground := .data } (by obtain rfl := Option.some.inj ho; simp) rfl (by decide))
        obtain rfl := Option.some.inj ho
        refine Gr.val (v := .int .i64 p.objs) (w' := W1) (by simp [go_sem, p7, k1]) ⟨_, rfl, rfl, Below.refl _ _⟩
      | 6, _ =>
        have p8 : a.tmps[8]?.getD undef = .int .i64 p.objs := Gr.slot (hpre { on := 5, ground := .data } (by obtain rfl := Option.some.inj ho; simp) rfl (by decide))
        obtain rfl := Option.some.inj ho
        refine Gr.val (v := .bool true) (w' := W1) (by simp [go_sem, p8, dn2]) ⟨_, rfl, rfl, Below.refl _ _⟩
      | 7, _ =>
        have p6 : a.tmps[6]?.getD undef = .bool true := Gr.slot (hpre { on := 3, ground := .data } (by obtain rfl := Option.some.inj ho; simp) rfl (by decide))
        have p9 : a.tmps[9]?.getD undef = .bool true := Gr.slot (hpre { on := 6, ground := .data } (by obtain rfl := Option.some.inj ho; simp) rfl (by decide))
        obtain rfl := Option.some.inj ho
        refine Gr.val (v := .bool true) (w' := W1) (by simp [go_sem, p6, p9]) ⟨_, rfl, rfl, Below.refl _ _⟩
      | 8, _ =>
        have p10 : a.tmps[10]?.getD undef = .bool true := Gr.slot (hpre { on := 7, ground := .data } (by obtain rfl := Option.some.inj ho; simp) rfl (by decide))
        obtain rfl := Option.some.inj ho
        refine Gr.val (v := .bool true) (w' := W1) (by simp [go_sem, p10]) ⟨_, rfl, rfl, Below.refl _ _⟩
      | 9, _ =>
        obtain rfl := Option.some.inj ho
        refine Gr.val (v := .pointer (some ⟨w.heap.size, 2, none⟩)) (w' := W1) (by simp [go_sem, t1]) ⟨_, rfl, rfl, Below.refl _ _⟩
      | 10, _ =>
        have p12 : a.tmps[12]?.getD undef = .pointer (some ⟨w.heap.size, 2, none⟩) := Gr.slot (hpre { on := 9, ground := .data } (by obtain rfl := Option.some.inj ho; simp) rfl (by decide))
        obtain rfl := Option.some.inj ho
        refine Gr.val (v := .int .i64 p.fields) (w' := W1) (by simp [go_sem, p12, k2]) ⟨_, rfl, rfl, Below.refl _ _⟩
      | 11, _ =>
        have p13 : a.tmps[13]?.getD undef = .int .i64 p.fields := Gr.slot (hpre { on := 10, ground := .data } (by obtain rfl := Option.some.inj ho; simp) rfl (by decide))
        obtain rfl := Option.some.inj ho
        refine Gr.val (v := .bool false) (w' := W1) (by simp [go_sem, p13, dn3]) ⟨_, rfl, rfl, Below.refl _ _⟩
      | 12, _ =>
        have p11 : a.tmps[11]?.getD undef = .bool true := Gr.slot (hpre { on := 8, ground := .data } (by obtain rfl := Option.some.inj ho; simp) rfl (by decide))
        have p14 : a.tmps[14]?.getD undef = .bool false := Gr.slot (hpre { on := 11, ground := .data } (by obtain rfl := Option.some.inj ho; simp) rfl (by decide))
        obtain rfl := Option.some.inj ho
        refine Gr.val (v := .bool false) (w' := W1) (by simp [go_sem, p11, p14]) ⟨_, rfl, rfl, Below.refl _ _⟩
      | 13, _ =>
        have p15 : a.tmps[15]?.getD undef = .bool false := Gr.slot (hpre { on := 12, ground := .data } (by obtain rfl := Option.some.inj ho; simp) rfl (by decide))
        obtain rfl := Option.some.inj ho
        refine Gr.val (v := .bool false) (w' := W1) (by simp [go_sem, p15]) ⟨_, rfl, rfl, Below.refl _ _⟩
      | 14, _ => exact absurd hsn (by decide)
      | 15, _ => exact absurd hsn (by decide)
      | 16, _ => exact absurd hsn (by decide)
      | 17, _ => exact absurd hsn (by decide)
      | 18, _ => exact absurd hsn (by decide)
      | 19, _ =>
        have p16 : a.tmps[16]?.getD undef = .bool false := Gr.slot (hpre { on := 13, ground := .data } (by obtain rfl := Option.some.inj ho; simp) rfl (by decide))
        obtain rfl := Option.some.inj ho
        refine Gr.val (v := .bool false) (w' := W1) (by simp [go_sem, p16]) ⟨_, rfl, rfl, Below.refl _ _⟩
      | 20, _ =>
        have p22 : a.tmps[22]?.getD undef = .bool false := Gr.slot (hpre { on := 19, ground := .data } (by obtain rfl := Option.some.inj ho; simp) rfl (by decide))
        obtain rfl := Option.some.inj ho
        refine Gr.val (v := .bool false) (w' := W1) (by simp [go_sem, p22]) ⟨_, rfl, rfl, Below.refl _ _⟩
      | 21, _ => exact absurd hsn (by decide)
      | 22, _ => exact absurd hsn (by decide)
      | 23, _ => exact absurd hsn (by decide)
      | 24, _ =>
        have p23 : a.tmps[23]?.getD undef = .bool false := Gr.slot (hpre { on := 20, ground := .data } (by obtain rfl := Option.some.inj ho; simp) rfl (by decide))
        obtain rfl := Option.some.inj ho
        refine Gr.val (v := .bool false) (w' := W1) (by simp [go_sem, p23]) ⟨_, rfl, rfl, Below.refl _ _⟩
      | 25, _ =>
        have p27 : a.tmps[27]?.getD undef = .bool false := Gr.slot (hpre { on := 24, ground := .data } (by obtain rfl := Option.some.inj ho; simp) rfl (by decide))
        obtain rfl := Option.some.inj ho
        refine Gr.val (v := .bool false) (w' := W1) (by simp [go_sem, p27]) ⟨_, rfl, rfl, Below.refl _ _⟩
      | 26, _ => exact absurd hsn (by decide)
      | 27, _ => exact absurd hsn (by decide)
      | 28, _ => exact absurd hsn (by decide)
      | 29, _ => exact absurd hsn (by decide)
      | 30, _ => exact absurd hsn (by decide)
      | 31, _ => exact absurd hsn (by decide)
      | 32, _ => exact absurd hsn (by decide)
      | 33, _ =>
        have p28 : a.tmps[28]?.getD undef = .bool false := Gr.slot (hpre { on := 25, ground := .data } (by obtain rfl := Option.some.inj ho; simp) rfl (by decide))
        obtain rfl := Option.some.inj ho
        refine Gr.val (v := .bool false) (w' := W1) (by simp [go_sem, p28]) ⟨_, rfl, rfl, Below.refl _ _⟩
      | 34, _ =>
        have p36 : a.tmps[36]?.getD undef = .bool false := Gr.slot (hpre { on := 33, ground := .data } (by obtain rfl := Option.some.inj ho; simp) rfl (by decide))
        obtain rfl := Option.some.inj ho
        refine Gr.val (v := .bool false) (w' := W1) (by simp [go_sem, p36]) ⟨_, rfl, rfl, Below.refl _ _⟩
      | 35, _ => exact absurd hsn (by decide)
      | 36, _ => exact absurd hsn (by decide)
      | 37, _ => exact absurd hsn (by decide)
      | 38, _ => exact absurd hsn (by decide)
      | 39, _ => exact absurd hsn (by decide)
      | 40, _ =>
        have p37 : a.tmps[37]?.getD undef = .bool false := Gr.slot (hpre { on := 34, ground := .data } (by obtain rfl := Option.some.inj ho; simp) rfl (by decide))
        obtain rfl := Option.some.inj ho
        refine Gr.val (v := .bool false) (w' := W1) (by simp [go_sem, p37]) ⟨_, rfl, rfl, Below.refl _ _⟩
      | 41, _ =>
        have p43 : a.tmps[43]?.getD undef = .bool false := Gr.slot (hpre { on := 40, ground := .data } (by obtain rfl := Option.some.inj ho; simp) rfl (by decide))
        obtain rfl := Option.some.inj ho
        refine Gr.val (v := .bool false) (w' := W1) (by simp [go_sem, p43]) ⟨_, rfl, rfl, Below.refl _ _⟩
      | i + 42, h => omega
    intro a W1 hb hfr hall
    obtain ⟨u0, hu0⟩ : ∃ u, a.tmps[0]?.getD undef = u := ⟨_, rfl⟩
    obtain ⟨u3, hu3⟩ : ∃ u, a.tmps[3]?.getD undef = u := ⟨_, rfl⟩
    obtain ⟨u4, hu4⟩ : ∃ u, a.tmps[4]?.getD undef = u := ⟨_, rfl⟩
    obtain ⟨u5, hu5⟩ : ∃ u, a.tmps[5]?.getD undef = u := ⟨_, rfl⟩
    obtain ⟨u6, hu6⟩ : ∃ u, a.tmps[6]?.getD undef = u := ⟨_, rfl⟩
    obtain ⟨u7, hu7⟩ : ∃ u, a.tmps[7]?.getD undef = u := ⟨_, rfl⟩
    obtain ⟨u8, hu8⟩ : ∃ u, a.tmps[8]?.getD undef = u := ⟨_, rfl⟩
    obtain ⟨u9, hu9⟩ : ∃ u, a.tmps[9]?.getD undef = u := ⟨_, rfl⟩
    obtain ⟨u10, hu10⟩ : ∃ u, a.tmps[10]?.getD undef = u := ⟨_, rfl⟩
    obtain ⟨u11, hu11⟩ : ∃ u, a.tmps[11]?.getD undef = u := ⟨_, rfl⟩
    obtain ⟨u12, hu12⟩ : ∃ u, a.tmps[12]?.getD undef = u := ⟨_, rfl⟩
    obtain ⟨u13, hu13⟩ : ∃ u, a.tmps[13]?.getD undef = u := ⟨_, rfl⟩
    obtain ⟨u14, hu14⟩ : ∃ u, a.tmps[14]?.getD undef = u := ⟨_, rfl⟩
    obtain ⟨u15, hu15⟩ : ∃ u, a.tmps[15]?.getD undef = u := ⟨_, rfl⟩
    obtain ⟨u16, hu16⟩ : ∃ u, a.tmps[16]?.getD undef = u := ⟨_, rfl⟩
    obtain ⟨u17, hu17⟩ : ∃ u, a.tmps[17]?.getD undef = u := ⟨_, rfl⟩
    obtain ⟨u18, hu18⟩ : ∃ u, a.tmps[18]?.getD undef = u := ⟨_, rfl⟩
    obtain ⟨u19, hu19⟩ : ∃ u, a.tmps[19]?.getD undef = u := ⟨_, rfl⟩
    obtain ⟨u20, hu20⟩ : ∃ u, a.tmps[20]?.getD undef = u := ⟨_, rfl⟩
    obtain ⟨u21, hu21⟩ : ∃ u, a.tmps[21]?.getD undef = u := ⟨_, rfl⟩
    obtain ⟨u22, hu22⟩ : ∃ u, a.tmps[22]?.getD undef = u := ⟨_, rfl⟩
    obtain ⟨u23, hu23⟩ : ∃ u, a.tmps[23]?.getD undef = u := ⟨_, rfl⟩
    obtain ⟨u24, hu24⟩ : ∃ u, a.tmps[24]?.getD undef = u := ⟨_, rfl⟩
    obtain ⟨u25, hu25⟩ : ∃ u, a.tmps[25]?.getD undef = u := ⟨_, rfl⟩
    obtain ⟨u26, hu26⟩ : ∃ u, a.tmps[26]?.getD undef = u := ⟨_, rfl⟩
    obtain ⟨u27, hu27⟩ : ∃ u, a.tmps[27]?.getD undef = u := ⟨_, rfl⟩
    obtain ⟨u28, hu28⟩ : ∃ u, a.tmps[28]?.getD undef = u := ⟨_, rfl⟩
    obtain ⟨u29, hu29⟩ : ∃ u, a.tmps[29]?.getD undef = u := ⟨_, rfl⟩
    obtain ⟨u30, hu30⟩ : ∃ u, a.tmps[30]?.getD undef = u := ⟨_, rfl⟩
    obtain ⟨u31, hu31⟩ : ∃ u, a.tmps[31]?.getD undef = u := ⟨_, rfl⟩
    obtain ⟨u32, hu32⟩ : ∃ u, a.tmps[32]?.getD undef = u := ⟨_, rfl⟩
    obtain ⟨u33, hu33⟩ : ∃ u, a.tmps[33]?.getD undef = u := ⟨_, rfl⟩
    obtain ⟨u34, hu34⟩ : ∃ u, a.tmps[34]?.getD undef = u := ⟨_, rfl⟩
    obtain ⟨u35, hu35⟩ : ∃ u, a.tmps[35]?.getD undef = u := ⟨_, rfl⟩
    obtain ⟨u36, hu36⟩ : ∃ u, a.tmps[36]?.getD undef = u := ⟨_, rfl⟩
    obtain ⟨u37, hu37⟩ : ∃ u, a.tmps[37]?.getD undef = u := ⟨_, rfl⟩
    obtain ⟨u38, hu38⟩ : ∃ u, a.tmps[38]?.getD undef = u := ⟨_, rfl⟩
    obtain ⟨u39, hu39⟩ : ∃ u, a.tmps[39]?.getD undef = u := ⟨_, rfl⟩
    obtain ⟨u40, hu40⟩ : ∃ u, a.tmps[40]?.getD undef = u := ⟨_, rfl⟩
    obtain ⟨u41, hu41⟩ : ∃ u, a.tmps[41]?.getD undef = u := ⟨_, rfl⟩
    obtain ⟨u42, hu42⟩ : ∃ u, a.tmps[42]?.getD undef = u := ⟨_, rfl⟩
    obtain ⟨u43, hu43⟩ : ∃ u, a.tmps[43]?.getD undef = u := ⟨_, rfl⟩
    have hA : a = ⟨#[u0, .pointer (some ⟨w.heap.size, 0, none⟩), .bool false, u3, u4, u5, u6, u7, u8, u9, u10, u11, u12, u13, u14, u15, u16, u17, u18, u19, u20, u21, u22, u23, u24, u25, u26, u27, u28, u29, u30, u31, u32, u33, u34, u35, u36, u37, u38, u39, u40, u41, u42, u43], []⟩ := Gr.act_eq (l := [u0, .pointer (some ⟨w.heap.size, 0, none⟩), .bool false, u3, u4, u5, u6, u7, u8, u9, u10, u11, u12, u13, u14, u15, u16, u17, u18, u19, u20, u21, u22, u23, u24, u25, u26, u27, u28, u29, u30, u31, u32, u33, u34, u35, u36, u37, u38, u39, u40, u41, u42, u43]) hfr.d hfr.s (by
      intro i hi
      match i, hi with
      | 0, _ => exact hu0
      | 1, _ => exact Gr.slot (hfr.f 1 (by intro j hj; (try dsimp only); split <;> omega))
      | 2, _ => exact Gr.slot (hall 41 (by omega))
      | 3, _ => exact hu3
      | 4, _ => exact hu4
      | 5, _ => exact hu5
      | 6, _ => exact hu6
      | 7, _ => exact hu7
      | 8, _ => exact hu8
      | 9, _ => exact hu9
      | 10, _ => exact hu10
      | 11, _ => exact hu11
      | 12, _ => exact hu12
      | 13, _ => exact hu13
      | 14, _ => exact hu14
      | 15, _ => exact hu15
      | 16, _ => exact hu16
      | 17, _ => exact hu17
      | 18, _ => exact hu18
      | 19, _ => exact hu19
      | 20, _ => exact hu20
      | 21, _ => exact hu21
      | 22, _ => exact hu22
      | 23, _ => exact hu23
      | 24, _ => exact hu24
      | 25, _ => exact hu25
      | 26, _ => exact hu26
      | 27, _ => exact hu27
      | 28, _ => exact hu28
      | 29, _ => exact hu29
      | 30, _ => exact hu30
      | 31, _ => exact hu31
      | 32, _ => exact hu32
      | 33, _ => exact hu33
      | 34, _ => exact hu34
      | 35, _ => exact hu35
      | 36, _ => exact hu36
      | 37, _ => exact hu37
      | 38, _ => exact hu38
      | 39, _ => exact hu39
      | 40, _ => exact hu40
      | 41, _ => exact hu41
      | 42, _ => exact hu42
      | 43, _ => exact hu43
      | i + 44, h => simp only [List.length_cons, List.length_nil] at h; omega)
    clear hu0 hu3 hu4 hu5 hu6 hu7 hu8 hu9 hu10 hu11 hu12 hu13 hu14 hu15 hu16 hu17 hu18 hu19 hu20 hu21 hu22 hu23 hu24 hu25 hu26 hu27 hu28 hu29 hu30 hu31 hu32 hu33 hu34 hu35 hu36 hu37 hu38 hu39 hu40 hu41 hu42 hu43
    subst hA
    go_wp2
    go_ret
    exact ⟨by rw [HO.out]; rfl, B1.out.trans (hb.mono B1.out.size)⟩
  have n3 : 0 ≤ p.fields := by omega
  have dn3 : decide (0 ≤ p.fields) = true := decide_eq_true n3
  clear mn3
  have HO := Lib.hid (show formed p = (p.fs.all (okF p) && rises p.en && p.en.all (inB p.fs.length) && p.ops.all (okO p)) from by simp [formed, n1, n2, n3])
  cases hF : p.fs.all (okF p) with
  | false =>
    rw [hF] at CF
    have HO := Lib.hid (show formed p = false from by rw [HO.out, hF]; simp)
    clear hF
    go_enter Try.func31, Try.ntmps31
    go_upto_region 1 with fail
    generalize w.alloc (.cells #[.int .i64 p.vars, .int .i64 p.objs, .int .i64 p.fields, .slice Af p.fs.length cf, .slice Ae p.en.length ce, .slice Ao p.ops.length co] 33) = w1 at *
    refine Gr.regionY 42 (fun i => if i < 41 then i + 3 else i - 39) [.val (.pointer (some ⟨w.heap.size, 0, none⟩)), .val (.int .i64 p.vars), .val (.bool true), .val (.bool true), .val (.pointer (some ⟨w.heap.size, 1, none⟩)), .val (.int .i64 p.objs), .val (.bool true), .val (.bool true), .val (.bool true), .val (.pointer (some ⟨w.heap.size, 2, none⟩)), .val (.int .i64 p.fields), .val (.bool true), .val (.bool true), .val (.bool true), .val (.pointer (some ⟨w.heap.size, 3, none⟩)), .val (.slice Af p.fs.length cf), .val (pv p Af cf Ae ce Ao co), .val (.func (.func 63) #[pv p Af cf Ae ce Ao co] #[]), .val (.bool false), .val (.bool false), .val (.bool false), .cls (fun _ _ => True) (fun _ _ _ _ _ => trivial), .cls (fun _ _ => True) (fun _ _ _ _ _ => trivial), .cls (fun _ _ => True) (fun _ _ _ _ _ => trivial), .val (.bool false), .val (.bool false), .cls (fun _ _ => True) (fun _ _ _ _ _ => trivial), .cls (fun _ _ => True) (fun _ _ _ _ _ => trivial), .cls (fun _ _ => True) (fun _ _ _ _ _ => trivial), .cls (fun _ _ => True) (fun _ _ _ _ _ => trivial), .cls (fun _ _ => True) (fun _ _ _ _ _ => trivial), .cls (fun _ _ => True) (fun _ _ _ _ _ => trivial), .cls (fun _ _ => True) (fun _ _ _ _ _ => trivial), .val (.bool false), .val (.bool false), .cls (fun _ _ => True) (fun _ _ _ _ _ => trivial), .cls (fun _ _ => True) (fun _ _ _ _ _ => trivial), .cls (fun _ _ => True) (fun _ _ _ _ _ => trivial), .cls (fun _ _ => True) (fun _ _ _ _ _ => trivial), .cls (fun _ _ => True) (fun _ _ _ _ _ => trivial), .val (.bool false), .val (.bool false)] [21, 22, 23, 26, 27, 28, 29, 30, 31, 32, 35, 36, 37, 38, 39] (by kernel_rfl) (by kernel_rfl) (by rfl) ?_ ?_ ?_
    · intro i hi v W
      have hm : i ∈ [21, 22, 23, 26, 27, 28, 29, 30, 31, 32, 35, 36, 37, 38, 39] := by simpa using hi
      simp only [List.mem_cons, List.not_mem_nil, or_false] at hm
      rcases hm with rfl | rfl | rfl | rfl | rfl | rfl | rfl | rfl | rfl | rfl | rfl | rfl | rfl | rfl | rfl <;> exact trivial
    · intro i o a W1 hi hsn ho hb hfr hpre
      have t1 : a.tmps[1]?.getD undef = .pointer (some ⟨w.heap.size, 0, none⟩) := Gr.slot (hfr.f 1 (by intro j hj; (try dsimp only); split <;> omega))
      obtain ⟨k0, k1, k2, k3, k4, k5⟩ := cells6 (blk_below R1.out hb (blk_lt R1.out))
      match i, hi with
      | 0, _ =>
        obtain rfl := Option.some.inj ho
        refine Gr.val (v := .pointer (some ⟨w.heap.size, 0, none⟩)) (w' := W1) (by simp [go_sem, t1]) ⟨_, rfl, rfl, Below.refl _ _⟩
      | 1, _ =>
        have p3 : a.tmps[3]?.getD undef = .pointer (some ⟨w.heap.size, 0, none⟩) := Gr.slot (hpre { on := 0, ground := .data } (by obtain rfl := Option.some.inj ho; simp) rfl (by decide))
        obtain rfl := Option.some.inj ho
        refine Gr.val (v := .int .i64 p.vars) (w' := W1) (by simp [go_sem, p3, k0]) ⟨_, rfl, rfl, Below.refl _ _⟩
      | 2, _ =>
        have p4 : a.tmps[4]?.getD undef = .int .i64 p.vars := Gr.slot (hpre { on := 1, ground := .data } (by obtain rfl := Option.some.inj ho; simp) rfl (by decide))
        obtain rfl := Option.some.inj ho
        refine Gr.val (v := .bool true) (w' := W1) (by simp [go_sem, p4, dn1]) ⟨_, rfl, rfl, Below.refl _ _⟩
      | 3, _ =>
        have p5 : a.tmps[5]?.getD undef = .bool true := Gr.slot (hpre { on := 2, ground := .data } (by obtain rfl := Option.some.inj ho; simp) rfl (by decide))
        obtain rfl := Option.some.inj ho
        refine Gr.val (v := .bool true) (w' := W1) (by simp [go_sem, p5]) ⟨_, rfl, rfl, Below.refl _ _⟩
      | 4, _ =>
        obtain rfl := Option.some.inj ho
        refine Gr.val (v := .pointer (some ⟨w.heap.size, 1, none⟩)) (w' := W1) (by simp [go_sem, t1]) ⟨_, rfl, rfl, Below.refl _ _⟩
      | 5, _ =>
        have p7 : a.tmps[7]?.getD undef = .pointer (some ⟨w.heap.size, 1, none⟩) := Gr.slot (hpre { on := 4, ground := .data } (by obtain rfl := Option.some.inj ho; simp) rfl (by decide))
        obtain rfl := Option.some.inj ho
        refine Gr.val (v := .int .i64 p.objs) (w' := W1) (by simp [go_sem, p7, k1]) ⟨_, rfl, rfl, Below.refl _ _⟩
      | 6, _ =>
        have p8 : a.tmps[8]?.getD undef = .int .i64 p.objs := Gr.slot (hpre { on := 5, ground := .data } (by obtain rfl := Option.some.inj ho; simp) rfl (by decide))
        obtain rfl := Option.some.inj ho
        refine Gr.val (v := .bool true) (w' := W1) (by simp [go_sem, p8, dn2]) ⟨_, rfl, rfl, Below.refl _ _⟩
      | 7, _ =>
        have p6 : a.tmps[6]?.getD undef = .bool true := Gr.slot (hpre { on := 3, ground := .data } (by obtain rfl := Option.some.inj ho; simp) rfl (by decide))
        have p9 : a.tmps[9]?.getD undef = .bool true := Gr.slot (hpre { on := 6, ground := .data } (by obtain rfl := Option.some.inj ho; simp) rfl (by decide))
        obtain rfl := Option.some.inj ho
        refine Gr.val (v := .bool true) (w' := W1) (by simp [go_sem, p6, p9]) ⟨_, rfl, rfl, Below.refl _ _⟩
      | 8, _ =>
        have p10 : a.tmps[10]?.getD undef = .bool true := Gr.slot (hpre { on := 7, ground := .data } (by obtain rfl := Option.some.inj ho; simp) rfl (by decide))
        obtain rfl := Option.some.inj ho
        refine Gr.val (v := .bool true) (w' := W1) (by simp [go_sem, p10]) ⟨_, rfl, rfl, Below.refl _ _⟩
      | 9, _ =>
        obtain rfl := Option.some.inj ho
        refine Gr.val (v := .pointer (some ⟨w.heap.size, 2, none⟩)) (w' := W1) (by simp [go_sem, t1]) ⟨_, rfl, rfl, Below.refl _ _⟩
      | 10, _ =>
        have p12 : a.tmps[12]?.getD undef = .pointer (some ⟨w.heap.size, 2, none⟩) := Gr.slot (hpre { on := 9, ground := .data } (by obtain rfl := Option.some.inj ho; simp) rfl (by decide))
        obtain rfl := Option.some.inj ho
        refine Gr.val (v := .int .i64 p.fields) (w' := W1) (by simp [go_sem, p12, k2]) ⟨_, rfl, rfl, Below.refl _ _⟩
      | 11, _ =>
        have p13 : a.tmps[13]?.getD undef = .int .i64 p.fields := Gr.slot (hpre { on := 10, ground := .data } (by obtain rfl := Option.some.inj ho; simp) rfl (by decide))
        obtain rfl := Option.some.inj ho
        refine Gr.val (v := .bool true) (w' := W1) (by simp [go_sem, p13, dn3]) ⟨_, rfl, rfl, Below.refl _ _⟩
      | 12, _ =>
        have p11 : a.tmps[11]?.getD undef = .bool true := Gr.slot (hpre { on := 8, ground := .data } (by obtain rfl := Option.some.inj ho; simp) rfl (by decide))
        have p14 : a.tmps[14]?.getD undef = .bool true := Gr.slot (hpre { on := 11, ground := .data } (by obtain rfl := Option.some.inj ho; simp) rfl (by decide))
        obtain rfl := Option.some.inj ho
        refine Gr.val (v := .bool true) (w' := W1) (by simp [go_sem, p11, p14]) ⟨_, rfl, rfl, Below.refl _ _⟩
      | 13, _ =>
        have p15 : a.tmps[15]?.getD undef = .bool true := Gr.slot (hpre { on := 12, ground := .data } (by obtain rfl := Option.some.inj ho; simp) rfl (by decide))
        obtain rfl := Option.some.inj ho
        refine Gr.val (v := .bool true) (w' := W1) (by simp [go_sem, p15]) ⟨_, rfl, rfl, Below.refl _ _⟩
      | 14, _ =>
        obtain rfl := Option.some.inj ho
        refine Gr.val (v := .pointer (some ⟨w.heap.size, 3, none⟩)) (w' := W1) (by simp [go_sem, t1]) ⟨_, rfl, rfl, Below.refl _ _⟩
      | 15, _ =>
        have p17 : a.tmps[17]?.getD undef = .pointer (some ⟨w.heap.size, 3, none⟩) := Gr.slot (hpre { on := 14, ground := .data } (by obtain rfl := Option.some.inj ho; simp) rfl (by decide))
        obtain rfl := Option.some.inj ho
        refine Gr.val (v := .slice Af p.fs.length cf) (w' := W1) (by simp [go_sem, p17, k3]) ⟨_, rfl, rfl, Below.refl _ _⟩
      | 16, _ =>
        obtain rfl := Option.some.inj ho
        refine Gr.val (v := pv p Af cf Ae ce Ao co) (w' := W1) (by simp [go_sem, t1, k0, k1, k2, k3, k4, k5]) ⟨_, rfl, rfl, Below.refl _ _⟩
      | 17, _ =>
        have p19 : a.tmps[19]?.getD undef = pv p Af cf Ae ce Ao co := Gr.slot (hpre { on := 16, ground := .data } (by obtain rfl := Option.some.inj ho; simp) rfl (by decide))
        obtain rfl := Option.some.inj ho
        refine Gr.val (v := .func (.func 63) #[pv p Af cf Ae ce Ao co] #[]) (w' := W1) (by simp [go_sem, p19]) ⟨_, rfl, rfl, Below.refl _ _⟩
      | 18, _ =>
        have p18 : a.tmps[18]?.getD undef = .slice Af p.fs.length cf := Gr.slot (hpre { on := 15, ground := .data } (by obtain rfl := Option.some.inj ho; simp) rfl (by decide))
        have p20 : a.tmps[20]?.getD undef = .func (.func 63) #[pv p Af cf Ae ce Ao co] #[] := Gr.slot (hpre { on := 17, ground := .data } (by obtain rfl := Option.some.inj ho; simp) rfl (by decide))
        obtain rfl := Option.some.inj ho
        refine Gr.call (f := 59) (args := #[.slice Af p.fs.length cf, .func (.func 63) #[pv p Af cf Ae ce Ao co] #[]]) (by simp [go_sem, p18, p20]) ((CF.out W1 (B1.out.trans (hb.mono B1.out.size))).mono ?_)
        rintro e w' ⟨rfl, h2⟩
        exact ⟨_, rfl, _, rfl, rfl, h2⟩
      | 19, _ =>
        have p16 : a.tmps[16]?.getD undef = .bool true := Gr.slot (hpre { on := 13, ground := .data } (by obtain rfl := Option.some.inj ho; simp) rfl (by decide))
        have p21 : a.tmps[21]?.getD undef = .bool false := Gr.slot (hpre { on := 18, ground := .data } (by obtain rfl := Option.some.inj ho; simp) rfl (by decide))
        obtain rfl := Option.some.inj ho
        refine Gr.val (v := .bool false) (w' := W1) (by simp [go_sem, p16, p21]) ⟨_, rfl, rfl, Below.refl _ _⟩
      | 20, _ =>
        have p22 : a.tmps[22]?.getD undef = .bool false := Gr.slot (hpre { on := 19, ground := .data } (by obtain rfl := Option.some.inj ho; simp) rfl (by decide))
        obtain rfl := Option.some.inj ho
        refine Gr.val (v := .bool false) (w' := W1) (by simp [go_sem, p22]) ⟨_, rfl, rfl, Below.refl _ _⟩
      | 21, _ => exact absurd hsn (by decide)
      | 22, _ => exact absurd hsn (by decide)
      | 23, _ => exact absurd hsn (by decide)
      | 24, _ =>
        have p23 : a.tmps[23]?.getD undef = .bool false := Gr.slot (hpre { on := 20, ground := .data } (by obtain rfl := Option.some.inj ho; simp) rfl (by decide))
        obtain rfl := Option.some.inj ho
        refine Gr.val (v := .bool false) (w' := W1) (by simp [go_sem, p23]) ⟨_, rfl, rfl, Below.refl _ _⟩
      | 25, _ =>
        have p27 : a.tmps[27]?.getD undef = .bool false := Gr.slot (hpre { on := 24, ground := .data } (by obtain rfl := Option.some.inj ho; simp) rfl (by decide))
        obtain rfl := Option.some.inj ho
        refine Gr.val (v := .bool false) (w' := W1) (by simp [go_sem, p27]) ⟨_, rfl, rfl, Below.refl _ _⟩
      | 26, _ => exact absurd hsn (by decide)
      | 27, _ => exact absurd hsn (by decide)
      | 28, _ => exact absurd hsn (by decide)
      | 29, _ => exact absurd hsn (by decide)
      | 30, _ => exact absurd hsn (by decide)
      | 31, _ => exact absurd hsn (by decide)
      | 32, _ => exact absurd hsn (by decide)
      | 33, _ =>
        have p28 : a.tmps[28]?.getD undef = .bool false := Gr.slot (hpre { on := 25, ground := .data } (by obtain rfl := Option.some.inj ho; simp) rfl (by decide))
        obtain rfl := Option.some.inj ho
        refine Gr.val (v := .bool false) (w' := W1) (by simp [go_sem, p28]) ⟨_, rfl, rfl, Below.refl _ _⟩
      | 34, _ =>
        have p36 : a.tmps[36]?.getD undef = .bool false := Gr.slot (hpre { on := 33, ground := .data } (by obtain rfl := Option.some.inj ho; simp) rfl (by decide))
        obtain rfl := Option.some.inj ho
        refine Gr.val (v := .bool false) (w' := W1) (by simp [go_sem, p36]) ⟨_, rfl, rfl, Below.refl _ _⟩
      | 35, _ => exact absurd hsn (by decide)
      | 36, _ => exact absurd hsn (by decide)
      | 37, _ => exact absurd hsn (by decide)
      | 38, _ => exact absurd hsn (by decide)
      | 39, _ => exact absurd hsn (by decide)
      | 40, _ =>
        have p37 : a.tmps[37]?.getD undef = .bool false := Gr.slot (hpre { on := 34, ground := .data } (by obtain rfl := Option.some.inj ho; simp) rfl (by decide))
        obtain rfl := Option.some.inj ho
        refine Gr.val (v := .bool false) (w' := W1) (by simp [go_sem, p37]) ⟨_, rfl, rfl, Below.refl _ _⟩
      | 41, _ =>
        have p43 : a.tmps[43]?.getD undef = .bool false := Gr.slot (hpre { on := 40, ground := .data } (by obtain rfl := Option.some.inj ho; simp) rfl (by decide))
        obtain rfl := Option.some.inj ho
        refine Gr.val (v := .bool false) (w' := W1) (by simp [go_sem, p43]) ⟨_, rfl, rfl, Below.refl _ _⟩
      | i + 42, h => omega
    intro a W1 hb hfr hall
    obtain ⟨u0, hu0⟩ : ∃ u, a.tmps[0]?.getD undef = u := ⟨_, rfl⟩
    obtain ⟨u3, hu3⟩ : ∃ u, a.tmps[3]?.getD undef = u := ⟨_, rfl⟩
    obtain ⟨u4, hu4⟩ : ∃ u, a.tmps[4]?.getD undef = u := ⟨_, rfl⟩
    obtain ⟨u5, hu5⟩ : ∃ u, a.tmps[5]?.getD undef = u := ⟨_, rfl⟩
    obtain ⟨u6, hu6⟩ : ∃ u, a.tmps[6]?.getD undef = u := ⟨_, rfl⟩
    obtain ⟨u7, hu7⟩ : ∃ u, a.tmps[7]?.getD undef = u := ⟨_, rfl⟩
    obtain ⟨u8, hu8⟩ : ∃ u, a.tmps[8]?.getD undef = u := ⟨_, rfl⟩
    obtain ⟨u9, hu9⟩ : ∃ u, a.tmps[9]?.getD undef = u := ⟨_, rfl⟩
    obtain ⟨u10, hu10⟩ : ∃ u, a.tmps[10]?.getD undef = u := ⟨_, rfl⟩
    obtain ⟨u11, hu11⟩ : ∃ u, a.tmps[11]?.getD undef = u := ⟨_, rfl⟩
    obtain ⟨u12, hu12⟩ : ∃ u, a.tmps[12]?.getD undef = u := ⟨_, rfl⟩
    obtain ⟨u13, hu13⟩ : ∃ u, a.tmps[13]?.getD undef = u := ⟨_, rfl⟩
    obtain ⟨u14, hu14⟩ : ∃ u, a.tmps[14]?.getD undef = u := ⟨_, rfl⟩
    obtain ⟨u15, hu15⟩ : ∃ u, a.tmps[15]?.getD undef = u := ⟨_, rfl⟩
    obtain ⟨u16, hu16⟩ : ∃ u, a.tmps[16]?.getD undef = u := ⟨_, rfl⟩
    obtain ⟨u17, hu17⟩ : ∃ u, a.tmps[17]?.getD undef = u := ⟨_, rfl⟩
    obtain ⟨u18, hu18⟩ : ∃ u, a.tmps[18]?.getD undef = u := ⟨_, rfl⟩
    obtain ⟨u19, hu19⟩ : ∃ u, a.tmps[19]?.getD undef = u := ⟨_, rfl⟩
    obtain ⟨u20, hu20⟩ : ∃ u, a.tmps[20]?.getD undef = u := ⟨_, rfl⟩
    obtain ⟨u21, hu21⟩ : ∃ u, a.tmps[21]?.getD undef = u := ⟨_, rfl⟩
    obtain ⟨u22, hu22⟩ : ∃ u, a.tmps[22]?.getD undef = u := ⟨_, rfl⟩
    obtain ⟨u23, hu23⟩ : ∃ u, a.tmps[23]?.getD undef = u := ⟨_, rfl⟩
    obtain ⟨u24, hu24⟩ : ∃ u, a.tmps[24]?.getD undef = u := ⟨_, rfl⟩
    obtain ⟨u25, hu25⟩ : ∃ u, a.tmps[25]?.getD undef = u := ⟨_, rfl⟩
    obtain ⟨u26, hu26⟩ : ∃ u, a.tmps[26]?.getD undef = u := ⟨_, rfl⟩
    obtain ⟨u27, hu27⟩ : ∃ u, a.tmps[27]?.getD undef = u := ⟨_, rfl⟩
    obtain ⟨u28, hu28⟩ : ∃ u, a.tmps[28]?.getD undef = u := ⟨_, rfl⟩
    obtain ⟨u29, hu29⟩ : ∃ u, a.tmps[29]?.getD undef = u := ⟨_, rfl⟩
    obtain ⟨u30, hu30⟩ : ∃ u, a.tmps[30]?.getD undef = u := ⟨_, rfl⟩
    obtain ⟨u31, hu31⟩ : ∃ u, a.tmps[31]?.getD undef = u := ⟨_, rfl⟩
    obtain ⟨u32, hu32⟩ : ∃ u, a.tmps[32]?.getD undef = u := ⟨_, rfl⟩
    obtain ⟨u33, hu33⟩ : ∃ u, a.tmps[33]?.getD undef = u := ⟨_, rfl⟩
    obtain ⟨u34, hu34⟩ : ∃ u, a.tmps[34]?.getD undef = u := ⟨_, rfl⟩
    obtain ⟨u35, hu35⟩ : ∃ u, a.tmps[35]?.getD undef = u := ⟨_, rfl⟩
    obtain ⟨u36, hu36⟩ : ∃ u, a.tmps[36]?.getD undef = u := ⟨_, rfl⟩
    obtain ⟨u37, hu37⟩ : ∃ u, a.tmps[37]?.getD undef = u := ⟨_, rfl⟩
    obtain ⟨u38, hu38⟩ : ∃ u, a.tmps[38]?.getD undef = u := ⟨_, rfl⟩
    obtain ⟨u39, hu39⟩ : ∃ u, a.tmps[39]?.getD undef = u := ⟨_, rfl⟩
    obtain ⟨u40, hu40⟩ : ∃ u, a.tmps[40]?.getD undef = u := ⟨_, rfl⟩
    obtain ⟨u41, hu41⟩ : ∃ u, a.tmps[41]?.getD undef = u := ⟨_, rfl⟩
    obtain ⟨u42, hu42⟩ : ∃ u, a.tmps[42]?.getD undef = u := ⟨_, rfl⟩
    obtain ⟨u43, hu43⟩ : ∃ u, a.tmps[43]?.getD undef = u := ⟨_, rfl⟩
    have hA : a = ⟨#[u0, .pointer (some ⟨w.heap.size, 0, none⟩), .bool false, u3, u4, u5, u6, u7, u8, u9, u10, u11, u12, u13, u14, u15, u16, u17, u18, u19, u20, u21, u22, u23, u24, u25, u26, u27, u28, u29, u30, u31, u32, u33, u34, u35, u36, u37, u38, u39, u40, u41, u42, u43], []⟩ := Gr.act_eq (l := [u0, .pointer (some ⟨w.heap.size, 0, none⟩), .bool false, u3, u4, u5, u6, u7, u8, u9, u10, u11, u12, u13, u14, u15, u16, u17, u18, u19, u20, u21, u22, u23, u24, u25, u26, u27, u28, u29, u30, u31, u32, u33, u34, u35, u36, u37, u38, u39, u40, u41, u42, u43]) hfr.d hfr.s (by
      intro i hi
      match i, hi with
      | 0, _ => exact hu0
      | 1, _ => exact Gr.slot (hfr.f 1 (by intro j hj; (try dsimp only); split <;> omega))
      | 2, _ => exact Gr.slot (hall 41 (by omega))
      | 3, _ => exact hu3
      | 4, _ => exact hu4
      | 5, _ => exact hu5
      | 6, _ => exact hu6
      | 7, _ => exact hu7
      | 8, _ => exact hu8
      | 9, _ => exact hu9
      | 10, _ => exact hu10
      | 11, _ => exact hu11
      | 12, _ => exact hu12
      | 13, _ => exact hu13
      | 14, _ => exact hu14
      | 15, _ => exact hu15
      | 16, _ => exact hu16
      | 17, _ => exact hu17
      | 18, _ => exact hu18
      | 19, _ => exact hu19
      | 20, _ => exact hu20
      | 21, _ => exact hu21
      | 22, _ => exact hu22
      | 23, _ => exact hu23
      | 24, _ => exact hu24
      | 25, _ => exact hu25
      | 26, _ => exact hu26
      | 27, _ => exact hu27
      | 28, _ => exact hu28
      | 29, _ => exact hu29
      | 30, _ => exact hu30
      | 31, _ => exact hu31
      | 32, _ => exact hu32
      | 33, _ => exact hu33
      | 34, _ => exact hu34
      | 35, _ => exact hu35
      | 36, _ => exact hu36
      | 37, _ => exact hu37
      | 38, _ => exact hu38
      | 39, _ => exact hu39
      | 40, _ => exact hu40
      | 41, _ => exact hu41
      | 42, _ => exact hu42
      | 43, _ => exact hu43
      | i + 44, h => simp only [List.length_cons, List.length_nil] at h; omega)
    clear hu0 hu3 hu4 hu5 hu6 hu7 hu8 hu9 hu10 hu11 hu12 hu13 hu14 hu15 hu16 hu17 hu18 hu19 hu20 hu21 hu22 hu23 hu24 hu25 hu26 hu27 hu28 hu29 hu30 hu31 hu32 hu33 hu34 hu35 hu36 hu37 hu38 hu39 hu40 hu41 hu42 hu43
    subst hA
    go_wp2
    go_ret
    exact ⟨by rw [HO.out]; rfl, B1.out.trans (hb.mono B1.out.size)⟩
  | true =>
    rw [hF] at CF
    cases hR : rises p.en with
    | false =>
      rw [hR] at CI
      have HO := Lib.hid (show formed p = false from by rw [HO.out, hF, hR]; simp)
      clear hR
      go_enter Try.func31, Try.ntmps31
      go_upto_region 1 with fail
      generalize w.alloc (.cells #[.int .i64 p.vars, .int .i64 p.objs, .int .i64 p.fields, .slice Af p.fs.length cf, .slice Ae p.en.length ce, .slice Ao p.ops.length co] 33) = w1 at *
      refine Gr.regionY 42 (fun i => if i < 41 then i + 3 else i - 39) [.val (.pointer (some ⟨w.heap.size, 0, none⟩)), .val (.int .i64 p.vars), .val (.bool true), .val (.bool true), .val (.pointer (some ⟨w.heap.size, 1, none⟩)), .val (.int .i64 p.objs), .val (.bool true), .val (.bool true), .val (.bool true), .val (.pointer (some ⟨w.heap.size, 2, none⟩)), .val (.int .i64 p.fields), .val (.bool true), .val (.bool true), .val (.bool true), .val (.pointer (some ⟨w.heap.size, 3, none⟩)), .val (.slice Af p.fs.length cf), .val (pv p Af cf Ae ce Ao co), .val (.func (.func 63) #[pv p Af cf Ae ce Ao co] #[]), .val (.bool true), .val (.bool true), .val (.bool true), .val (.pointer (some ⟨w.heap.size, 4, none⟩)), .val (.slice Ae p.en.length ce), .val (.bool false), .val (.bool false), .val (.bool false), .cls (fun _ _ => True) (fun _ _ _ _ _ => trivial), .cls (fun _ _ => True) (fun _ _ _ _ _ => trivial), .cls (fun _ _ => True) (fun _ _ _ _ _ => trivial), .cls (fun _ _ => True) (fun _ _ _ _ _ => trivial), .cls (fun _ _ => True) (fun _ _ _ _ _ => trivial), .cls (fun _ _ => True) (fun _ _ _ _ _ => trivial), .cls (fun _ _ => True) (fun _ _ _ _ _ => trivial), .val (.bool false), .val (.bool false), .cls (fun _ _ => True) (fun _ _ _ _ _ => trivial), .cls (fun _ _ => True) (fun _ _ _ _ _ => trivial), .cls (fun _ _ => True) (fun _ _ _ _ _ => trivial), .cls (fun _ _ => True) (fun _ _ _ _ _ => trivial), .cls (fun _ _ => True) (fun _ _ _ _ _ => trivial), .val (.bool false), .val (.bool false)] [26, 27, 28, 29, 30, 31, 32, 35, 36, 37, 38, 39] (by kernel_rfl) (by kernel_rfl) (by rfl) ?_ ?_ ?_
      · intro i hi v W
        have hm : i ∈ [26, 27, 28, 29, 30, 31, 32, 35, 36, 37, 38, 39] := by simpa using hi
        simp only [List.mem_cons, List.not_mem_nil, or_false] at hm
        rcases hm with rfl | rfl | rfl | rfl | rfl | rfl | rfl | rfl | rfl | rfl | rfl | rfl <;> exact trivial
      · intro i o a W1 hi hsn ho hb hfr hpre
        have t1 : a.tmps[1]?.getD undef = .pointer (some ⟨w.heap.size, 0, none⟩) := Gr.slot (hfr.f 1 (by intro j hj; (try dsimp only); split <;> omega))
        obtain ⟨k0, k1, k2, k3, k4, k5⟩ := cells6 (blk_below R1.out hb (blk_lt R1.out))
        match i, hi with
        | 0, _ =>
          obtain rfl := Option.some.inj ho
          refine Gr.val (v := .pointer (some ⟨w.heap.size, 0, none⟩)) (w' := W1) (by simp [go_sem, t1]) ⟨_, rfl, rfl, Below.refl _ _⟩
        | 1, _ =>
          have p3 : a.tmps[3]?.getD undef = .pointer (some ⟨w.heap.size, 0, none⟩) := Gr.slot (hpre { on := 0, ground := .data } (by obtain rfl := Option.some.inj ho; simp) rfl (by decide))
          obtain rfl := Option.some.inj ho
          refine Gr.val (v := .int .i64 p.vars) (w' := W1) (by simp [go_sem, p3, k0]) ⟨_, rfl, rfl, Below.refl _ _⟩
        | 2, _ =>
          have p4 : a.tmps[4]?.getD undef = .int .i64 p.vars := Gr.slot (hpre { on := 1, ground := .data } (by obtain rfl := Option.some.inj ho; simp) rfl (by decide))
          obtain rfl := Option.some.inj ho
          refine Gr.val (v := .bool true) (w' := W1) (by simp [go_sem, p4, dn1]) ⟨_, rfl, rfl, Below.refl _ _⟩
        | 3, _ =>
          have p5 : a.tmps[5]?.getD undef = .bool true := Gr.slot (hpre { on := 2, ground := .data } (by obtain rfl := Option.some.inj ho; simp) rfl (by decide))
          obtain rfl := Option.some.inj ho
          refine Gr.val (v := .bool true) (w' := W1) (by simp [go_sem, p5]) ⟨_, rfl, rfl, Below.refl _ _⟩
        | 4, _ =>
          obtain rfl := Option.some.inj ho
          refine Gr.val (v := .pointer (some ⟨w.heap.size, 1, none⟩)) (w' := W1) (by simp [go_sem, t1]) ⟨_, rfl, rfl, Below.refl _ _⟩
        | 5, _ =>
          have p7 : a.tmps[7]?.getD undef = .pointer (some ⟨w.heap.size, 1, none⟩) := Gr.slot (hpre { on := 4, ground := .data } (by obtain rfl := Option.some.inj ho; simp) rfl (by decide))
          obtain rfl := Option.some.inj ho
          refine Gr.val (v := .int .i64 p.objs) (w' := W1) (by simp [go_sem, p7, k1]) ⟨_, rfl, rfl, Below.refl _ _⟩
        | 6, _ =>
          have p8 : a.tmps[8]?.getD undef = .int .i64 p.objs := Gr.slot (hpre { on := 5, ground := .data } (by obtain rfl := Option.some.inj ho; simp) rfl (by decide))
          obtain rfl := Option.some.inj ho
          refine Gr.val (v := .bool true) (w' := W1) (by simp [go_sem, p8, dn2]) ⟨_, rfl, rfl, Below.refl _ _⟩
        | 7, _ =>
          have p6 : a.tmps[6]?.getD undef = .bool true := Gr.slot (hpre { on := 3, ground := .data } (by obtain rfl := Option.some.inj ho; simp) rfl (by decide))
          have p9 : a.tmps[9]?.getD undef = .bool true := Gr.slot (hpre { on := 6, ground := .data } (by obtain rfl := Option.some.inj ho; simp) rfl (by decide))
          obtain rfl := Option.some.inj ho
          refine Gr.val (v := .bool true) (w' := W1) (by simp [go_sem, p6, p9]) ⟨_, rfl, rfl, Below.refl _ _⟩
        | 8, _ =>
          have p10 : a.tmps[10]?.getD undef = .bool true := Gr.slot (hpre { on := 7, ground := .data } (by obtain rfl := Option.some.inj ho; simp) rfl (by decide))
          obtain rfl := Option.some.inj ho
          refine Gr.val (v := .bool true) (w' := W1) (by simp [go_sem, p10]) ⟨_, rfl, rfl, Below.refl _ _⟩
        | 9, _ =>
          obtain rfl := Option.some.inj ho
          refine Gr.val (v := .pointer (some ⟨w.heap.size, 2, none⟩)) (w' := W1) (by simp [go_sem, t1]) ⟨_, rfl, rfl, Below.refl _ _⟩
        | 10, _ =>
          have p12 : a.tmps[12]?.getD undef = .pointer (some ⟨w.heap.size, 2, none⟩) := Gr.slot (hpre { on := 9, ground := .data } (by obtain rfl := Option.some.inj ho; simp) rfl (by decide))
          obtain rfl := Option.some.inj ho
          refine Gr.val (v := .int .i64 p.fields) (w' := W1) (by simp [go_sem, p12, k2]) ⟨_, rfl, rfl, Below.refl _ _⟩
        | 11, _ =>
          have p13 : a.tmps[13]?.getD undef = .int .i64 p.fields := Gr.slot (hpre { on := 10, ground := .data } (by obtain rfl := Option.some.inj ho; simp) rfl (by decide))
          obtain rfl := Option.some.inj ho
          refine Gr.val (v := .bool true) (w' := W1) (by simp [go_sem, p13, dn3]) ⟨_, rfl, rfl, Below.refl _ _⟩
        | 12, _ =>
          have p11 : a.tmps[11]?.getD undef = .bool true := Gr.slot (hpre { on := 8, ground := .data } (by obtain rfl := Option.some.inj ho; simp) rfl (by decide))
          have p14 : a.tmps[14]?.getD undef = .bool true := Gr.slot (hpre { on := 11, ground := .data } (by obtain rfl := Option.some.inj ho; simp) rfl (by decide))
          obtain rfl := Option.some.inj ho
          refine Gr.val (v := .bool true) (w' := W1) (by simp [go_sem, p11, p14]) ⟨_, rfl, rfl, Below.refl _ _⟩
        | 13, _ =>
          have p15 : a.tmps[15]?.getD undef = .bool true := Gr.slot (hpre { on := 12, ground := .data } (by obtain rfl := Option.some.inj ho; simp) rfl (by decide))
          obtain rfl := Option.some.inj ho
          refine Gr.val (v := .bool true) (w' := W1) (by simp [go_sem, p15]) ⟨_, rfl, rfl, Below.refl _ _⟩
        | 14, _ =>
          obtain rfl := Option.some.inj ho
          refine Gr.val (v := .pointer (some ⟨w.heap.size, 3, none⟩)) (w' := W1) (by simp [go_sem, t1]) ⟨_, rfl, rfl, Below.refl _ _⟩
        | 15, _ =>
          have p17 : a.tmps[17]?.getD undef = .pointer (some ⟨w.heap.size, 3, none⟩) := Gr.slot (hpre { on := 14, ground := .data } (by obtain rfl := Option.some.inj ho; simp) rfl (by decide))
          obtain rfl := Option.some.inj ho
          refine Gr.val (v := .slice Af p.fs.length cf) (w' := W1) (by simp [go_sem, p17, k3]) ⟨_, rfl, rfl, Below.refl _ _⟩
        | 16, _ =>
          obtain rfl := Option.some.inj ho
          refine Gr.val (v := pv p Af cf Ae ce Ao co) (w' := W1) (by simp [go_sem, t1, k0, k1, k2, k3, k4, k5]) ⟨_, rfl, rfl, Below.refl _ _⟩
        | 17, _ =>
          have p19 : a.tmps[19]?.getD undef = pv p Af cf Ae ce Ao co := Gr.slot (hpre { on := 16, ground := .data } (by obtain rfl := Option.some.inj ho; simp) rfl (by decide))
          obtain rfl := Option.some.inj ho
          refine Gr.val (v := .func (.func 63) #[pv p Af cf Ae ce Ao co] #[]) (w' := W1) (by simp [go_sem, p19]) ⟨_, rfl, rfl, Below.refl _ _⟩
        | 18, _ =>
          have p18 : a.tmps[18]?.getD undef = .slice Af p.fs.length cf := Gr.slot (hpre { on := 15, ground := .data } (by obtain rfl := Option.some.inj ho; simp) rfl (by decide))
          have p20 : a.tmps[20]?.getD undef = .func (.func 63) #[pv p Af cf Ae ce Ao co] #[] := Gr.slot (hpre { on := 17, ground := .data } (by obtain rfl := Option.some.inj ho; simp) rfl (by decide))
          obtain rfl := Option.some.inj ho
          refine Gr.call (f := 59) (args := #[.slice Af p.fs.length cf, .func (.func 63) #[pv p Af cf Ae ce Ao co] #[]]) (by simp [go_sem, p18, p20]) ((CF.out W1 (B1.out.trans (hb.mono B1.out.size))).mono ?_)
          rintro e w' ⟨rfl, h2⟩
          exact ⟨_, rfl, _, rfl, rfl, h2⟩
        | 19, _ =>
          have p16 : a.tmps[16]?.getD undef = .bool true := Gr.slot (hpre { on := 13, ground := .data } (by obtain rfl := Option.some.inj ho; simp) rfl (by decide))
          have p21 : a.tmps[21]?.getD undef = .bool true := Gr.slot (hpre { on := 18, ground := .data } (by obtain rfl := Option.some.inj ho; simp) rfl (by decide))
          obtain rfl := Option.some.inj ho
          refine Gr.val (v := .bool true) (w' := W1) (by simp [go_sem, p16, p21]) ⟨_, rfl, rfl, Below.refl _ _⟩
        | 20, _ =>
          have p22 : a.tmps[22]?.getD undef = .bool true := Gr.slot (hpre { on := 19, ground := .data } (by obtain rfl := Option.some.inj ho; simp) rfl (by decide))
          obtain rfl := Option.some.inj ho
          refine Gr.val (v := .bool true) (w' := W1) (by simp [go_sem, p22]) ⟨_, rfl, rfl, Below.refl _ _⟩
        | 21, _ =>
          obtain rfl := Option.some.inj ho
          refine Gr.val (v := .pointer (some ⟨w.heap.size, 4, none⟩)) (w' := W1) (by simp [go_sem, t1]) ⟨_, rfl, rfl, Below.refl _ _⟩
        | 22, _ =>
          have p24 : a.tmps[24]?.getD undef = .pointer (some ⟨w.heap.size, 4, none⟩) := Gr.slot (hpre { on := 21, ground := .data } (by obtain rfl := Option.some.inj ho; simp) rfl (by decide))
          obtain rfl := Option.some.inj ho
          refine Gr.val (v := .slice Ae p.en.length ce) (w' := W1) (by simp [go_sem, p24, k4]) ⟨_, rfl, rfl, Below.refl _ _⟩
        | 23, _ =>
          have p25 : a.tmps[25]?.getD undef = .slice Ae p.en.length ce := Gr.slot (hpre { on := 22, ground := .data } (by obtain rfl := Option.some.inj ho; simp) rfl (by decide))
          obtain rfl := Option.some.inj ho
          refine Gr.call (f := 64) (args := #[.slice Ae p.en.length ce]) (by simp [go_sem, p25]) ((CI.out W1 (B1.out.trans (hb.mono B1.out.size))).mono ?_)
          rintro e w' ⟨rfl, m, rfl⟩
          exact ⟨_, rfl, _, rfl, rfl, below_drewN (Below.refl _ _) m⟩
        | 24, _ =>
          have p23 : a.tmps[23]?.getD undef = .bool true := Gr.slot (hpre { on := 20, ground := .data } (by obtain rfl := Option.some.inj ho; simp) rfl (by decide))
          have p26 : a.tmps[26]?.getD undef = .bool false := Gr.slot (hpre { on := 23, ground := .data } (by obtain rfl := Option.some.inj ho; simp) rfl (by decide))
          obtain rfl := Option.some.inj ho
          refine Gr.val (v := .bool false) (w' := W1) (by simp [go_sem, p23, p26]) ⟨_, rfl, rfl, Below.refl _ _⟩
        | 25, _ =>
          have p27 : a.tmps[27]?.getD undef = .bool false := Gr.slot (hpre { on := 24, ground := .data } (by obtain rfl := Option.some.inj ho; simp) rfl (by decide))
          obtain rfl := Option.some.inj ho
          refine Gr.val (v := .bool false) (w' := W1) (by simp [go_sem, p27]) ⟨_, rfl, rfl, Below.refl _ _⟩
        | 26, _ => exact absurd hsn (by decide)
        | 27, _ => exact absurd hsn (by decide)
        | 28, _ => exact absurd hsn (by decide)
        | 29, _ => exact absurd hsn (by decide)
        | 30, _ => exact absurd hsn (by decide)
        | 31, _ => exact absurd hsn (by decide)
        | 32, _ => exact absurd hsn (by decide)
        | 33, _ =>
          have p28 : a.tmps[28]?.getD undef = .bool false := Gr.slot (hpre { on := 25, ground := .data } (by obtain rfl := Option.some.inj ho; simp) rfl (by decide))
          obtain rfl := Option.some.inj ho
          refine Gr.val (v := .bool false) (w' := W1) (by simp [go_sem, p28]) ⟨_, rfl, rfl, Below.refl _ _⟩
        | 34, _ =>
          have p36 : a.tmps[36]?.getD undef = .bool false := Gr.slot (hpre { on := 33, ground := .data } (by obtain rfl := Option.some.inj ho; simp) rfl (by decide))
          obtain rfl := Option.some.inj ho
          refine Gr.val (v := .bool false) (w' := W1) (by simp [go_sem, p36]) ⟨_, rfl, rfl, Below.refl _ _⟩
        | 35, _ => exact absurd hsn (by decide)
        | 36, _ => exact absurd hsn (by decide)
        | 37, _ => exact absurd hsn (by decide)
        | 38, _ => exact absurd hsn (by decide)
        | 39, _ => exact absurd hsn (by decide)
        | 40, _ =>
          have p37 : a.tmps[37]?.getD undef = .bool false := Gr.slot (hpre { on := 34, ground := .data } (by obtain rfl := Option.some.inj ho; simp) rfl (by decide))
          obtain rfl := Option.some.inj ho
          refine Gr.val (v := .bool false) (w' := W1) (by simp [go_sem, p37]) ⟨_, rfl, rfl, Below.refl _ _⟩
        | 41, _ =>
          have p43 : a.tmps[43]?.getD undef = .bool false := Gr.slot (hpre { on := 40, ground := .data } (by obtain rfl := Option.some.inj ho; simp) rfl (by decide))
          obtain rfl := Option.some.inj ho
          refine Gr.val (v := .bool false) (w' := W1) (by simp [go_sem, p43]) ⟨_, rfl, rfl, Below.refl _ _⟩
        | i + 42, h => omega
      intro a W1 hb hfr hall
      obtain ⟨u0, hu0⟩ : ∃ u, a.tmps[0]?.getD undef = u := ⟨_, rfl⟩
      obtain ⟨u3, hu3⟩ : ∃ u, a.tmps[3]?.getD undef = u := ⟨_, rfl⟩
      obtain ⟨u4, hu4⟩ : ∃ u, a.tmps[4]?.getD undef = u := ⟨_, rfl⟩
      obtain ⟨u5, hu5⟩ : ∃ u, a.tmps[5]?.getD undef = u := ⟨_, rfl⟩
      obtain ⟨u6, hu6⟩ : ∃ u, a.tmps[6]?.getD undef = u := ⟨_, rfl⟩
      obtain ⟨u7, hu7⟩ : ∃ u, a.tmps[7]?.getD undef = u := ⟨_, rfl⟩
      obtain ⟨u8, hu8⟩ : ∃ u, a.tmps[8]?.getD undef = u := ⟨_, rfl⟩
      obtain ⟨u9, hu9⟩ : ∃ u, a.tmps[9]?.getD undef = u := ⟨_, rfl⟩
      obtain ⟨u10, hu10⟩ : ∃ u, a.tmps[10]?.getD undef = u := ⟨_, rfl⟩
      obtain ⟨u11, hu11⟩ : ∃ u, a.tmps[11]?.getD undef = u := ⟨_, rfl⟩
      obtain ⟨u12, hu12⟩ : ∃ u, a.tmps[12]?.getD undef = u := ⟨_, rfl⟩
      obtain ⟨u13, hu13⟩ : ∃ u, a.tmps[13]?.getD undef = u := ⟨_, rfl⟩
      obtain ⟨u14, hu14⟩ : ∃ u, a.tmps[14]?.getD undef = u := ⟨_, rfl⟩
      obtain ⟨u15, hu15⟩ : ∃ u, a.tmps[15]?.getD undef = u := ⟨_, rfl⟩
      obtain ⟨u16, hu16⟩ : ∃ u, a.tmps[16]?.getD undef = u := ⟨_, rfl⟩
      obtain ⟨u17, hu17⟩ : ∃ u, a.tmps[17]?.getD undef = u := ⟨_, rfl⟩
      obtain ⟨u18, hu18⟩ : ∃ u, a.tmps[18]?.getD undef = u := ⟨_, rfl⟩
      obtain ⟨u19, hu19⟩ : ∃ u, a.tmps[19]?.getD undef = u := ⟨_, rfl⟩
      obtain ⟨u20, hu20⟩ : ∃ u, a.tmps[20]?.getD undef = u := ⟨_, rfl⟩
      obtain ⟨u21, hu21⟩ : ∃ u, a.tmps[21]?.getD undef = u := ⟨_, rfl⟩
      obtain ⟨u22, hu22⟩ : ∃ u, a.tmps[22]?.getD undef = u := ⟨_, rfl⟩
      obtain ⟨u23, hu23⟩ : ∃ u, a.tmps[23]?.getD undef = u := ⟨_, rfl⟩
      obtain ⟨u24, hu24⟩ : ∃ u, a.tmps[24]?.getD undef = u := ⟨_, rfl⟩
      obtain ⟨u25, hu25⟩ : ∃ u, a.tmps[25]?.getD undef = u := ⟨_, rfl⟩
      obtain ⟨u26, hu26⟩ : ∃ u, a.tmps[26]?.getD undef = u := ⟨_, rfl⟩
      obtain ⟨u27, hu27⟩ : ∃ u, a.tmps[27]?.getD undef = u := ⟨_, rfl⟩
      obtain ⟨u28, hu28⟩ : ∃ u, a.tmps[28]?.getD undef = u := ⟨_, rfl⟩
      obtain ⟨u29, hu29⟩ : ∃ u, a.tmps[29]?.getD undef = u := ⟨_, rfl⟩
      obtain ⟨u30, hu30⟩ : ∃ u, a.tmps[30]?.getD undef = u := ⟨_, rfl⟩
      obtain ⟨u31, hu31⟩ : ∃ u, a.tmps[31]?.getD undef = u := ⟨_, rfl⟩
      obtain ⟨u32, hu32⟩ : ∃ u, a.tmps[32]?.getD undef = u := ⟨_, rfl⟩
      obtain ⟨u33, hu33⟩ : ∃ u, a.tmps[33]?.getD undef = u := ⟨_, rfl⟩
      obtain ⟨u34, hu34⟩ : ∃ u, a.tmps[34]?.getD undef = u := ⟨_, rfl⟩
      obtain ⟨u35, hu35⟩ : ∃ u, a.tmps[35]?.getD undef = u := ⟨_, rfl⟩
      obtain ⟨u36, hu36⟩ : ∃ u, a.tmps[36]?.getD undef = u := ⟨_, rfl⟩
      obtain ⟨u37, hu37⟩ : ∃ u, a.tmps[37]?.getD undef = u := ⟨_, rfl⟩
      obtain ⟨u38, hu38⟩ : ∃ u, a.tmps[38]?.getD undef = u := ⟨_, rfl⟩
      obtain ⟨u39, hu39⟩ : ∃ u, a.tmps[39]?.getD undef = u := ⟨_, rfl⟩
      obtain ⟨u40, hu40⟩ : ∃ u, a.tmps[40]?.getD undef = u := ⟨_, rfl⟩
      obtain ⟨u41, hu41⟩ : ∃ u, a.tmps[41]?.getD undef = u := ⟨_, rfl⟩
      obtain ⟨u42, hu42⟩ : ∃ u, a.tmps[42]?.getD undef = u := ⟨_, rfl⟩
      obtain ⟨u43, hu43⟩ : ∃ u, a.tmps[43]?.getD undef = u := ⟨_, rfl⟩
      have hA : a = ⟨#[u0, .pointer (some ⟨w.heap.size, 0, none⟩), .bool false, u3, u4, u5, u6, u7, u8, u9, u10, u11, u12, u13, u14, u15, u16, u17, u18, u19, u20, u21, u22, u23, u24, u25, u26, u27, u28, u29, u30, u31, u32, u33, u34, u35, u36, u37, u38, u39, u40, u41, u42, u43], []⟩ := Gr.act_eq (l := [u0, .pointer (some ⟨w.heap.size, 0, none⟩), .bool false, u3, u4, u5, u6, u7, u8, u9, u10, u11, u12, u13, u14, u15, u16, u17, u18, u19, u20, u21, u22, u23, u24, u25, u26, u27, u28, u29, u30, u31, u32, u33, u34, u35, u36, u37, u38, u39, u40, u41, u42, u43]) hfr.d hfr.s (by
        intro i hi
        match i, hi with
        | 0, _ => exact hu0
        | 1, _ => exact Gr.slot (hfr.f 1 (by intro j hj; (try dsimp only); split <;> omega))
        | 2, _ => exact Gr.slot (hall 41 (by omega))
        | 3, _ => exact hu3
        | 4, _ => exact hu4
        | 5, _ => exact hu5
        | 6, _ => exact hu6
        | 7, _ => exact hu7
        | 8, _ => exact hu8
        | 9, _ => exact hu9
        | 10, _ => exact hu10
        | 11, _ => exact hu11
        | 12, _ => exact hu12
        | 13, _ => exact hu13
        | 14, _ => exact hu14
        | 15, _ => exact hu15
        | 16, _ => exact hu16
        | 17, _ => exact hu17
        | 18, _ => exact hu18
        | 19, _ => exact hu19
        | 20, _ => exact hu20
        | 21, _ => exact hu21
        | 22, _ => exact hu22
        | 23, _ => exact hu23
        | 24, _ => exact hu24
        | 25, _ => exact hu25
        | 26, _ => exact hu26
        | 27, _ => exact hu27
        | 28, _ => exact hu28
        | 29, _ => exact hu29
        | 30, _ => exact hu30
        | 31, _ => exact hu31
        | 32, _ => exact hu32
        | 33, _ => exact hu33
        | 34, _ => exact hu34
        | 35, _ => exact hu35
        | 36, _ => exact hu36
        | 37, _ => exact hu37
        | 38, _ => exact hu38
        | 39, _ => exact hu39
        | 40, _ => exact hu40
        | 41, _ => exact hu41
        | 42, _ => exact hu42
        | 43, _ => exact hu43
        | i + 44, h => simp only [List.length_cons, List.length_nil] at h; omega)
      clear hu0 hu3 hu4 hu5 hu6 hu7 hu8 hu9 hu10 hu11 hu12 hu13 hu14 hu15 hu16 hu17 hu18 hu19 hu20 hu21 hu22 hu23 hu24 hu25 hu26 hu27 hu28 hu29 hu30 hu31 hu32 hu33 hu34 hu35 hu36 hu37 hu38 hu39 hu40 hu41 hu42 hu43
      subst hA
      go_wp2
      go_ret
      exact ⟨by rw [HO.out]; rfl, B1.out.trans (hb.mono B1.out.size)⟩
    | true =>
      rw [hR] at CI
      cases hE : p.en.all (inB p.fs.length) with
      | false =>
        rw [hE] at CE
        have HO := Lib.hid (show formed p = false from by rw [HO.out, hF, hR, hE]; simp)
        clear hE
        go_enter Try.func31, Try.ntmps31
        go_upto_region 1 with fail
        generalize w.alloc (.cells #[.int .i64 p.vars, .int .i64 p.objs, .int .i64 p.fields, .slice Af p.fs.length cf, .slice Ae p.en.length ce, .slice Ao p.ops.length co] 33) = w1 at *
        refine Gr.regionY 42 (fun i => if i < 41 then i + 3 else i - 39) [.val (.pointer (some ⟨w.heap.size, 0, none⟩)), .val (.int .i64 p.vars), .val (.bool true), .val (.bool true), .val (.pointer (some ⟨w.heap.size, 1, none⟩)), .val (.int .i64 p.objs), .val (.bool true), .val (.bool true), .val (.bool true), .val (.pointer (some ⟨w.heap.size, 2, none⟩)), .val (.int .i64 p.fields), .val (.bool true), .val (.bool true), .val (.bool true), .val (.pointer (some ⟨w.heap.size, 3, none⟩)), .val (.slice Af p.fs.length cf), .val (pv p Af cf Ae ce Ao co), .val (.func (.func 63) #[pv p Af cf Ae ce Ao co] #[]), .val (.bool true), .val (.bool true), .val (.bool true), .val (.pointer (some ⟨w.heap.size, 4, none⟩)), .val (.slice Ae p.en.length ce), .val (.bool true), .val (.bool true), .val (.bool true), .val (.pointer (some ⟨w.heap.size, 4, none⟩)), .val (.slice Ae p.en.length ce), .val (.pointer (some ⟨w.heap.size, 3, none⟩)), .val (.slice Af p.fs.length cf), .val (.int .i64 (p.fs.length : Int)), .cls (BV (p.fs.length : Int)) (bv_grow), .val (.bool false), .val (.bool false), .val (.bool false), .cls (fun _ _ => True) (fun _ _ _ _ _ => trivial), .cls (fun _ _ => True) (fun _ _ _ _ _ => trivial), .cls (fun _ _ => True) (fun _ _ _ _ _ => trivial), .cls (fun _ _ => True) (fun _ _ _ _ _ => trivial), .cls (fun _ _ => True) (fun _ _ _ _ _ => trivial), .val (.bool false), .val (.bool false)] [35, 36, 37, 38, 39] (by kernel_rfl) (by kernel_rfl) (by rfl) ?_ ?_ ?_
        · intro i hi v W
          have hm : i ∈ [35, 36, 37, 38, 39] := by simpa using hi
          simp only [List.mem_cons, List.not_mem_nil, or_false] at hm
          rcases hm with rfl | rfl | rfl | rfl | rfl <;> exact trivial
        · intro i o a W1 hi hsn ho hb hfr hpre
          have t1 : a.tmps[1]?.getD undef = .pointer (some ⟨w.heap.size, 0, none⟩) := Gr.slot (hfr.f 1 (by intro j hj; (try dsimp only); split <;> omega))
          obtain ⟨k0, k1, k2, k3, k4, k5⟩ := cells6 (blk_below R1.out hb (blk_lt R1.out))
          match i, hi with
          | 0, _ =>
            obtain rfl := Option.some.inj ho
            refine Gr.val (v := .pointer (some ⟨w.heap.size, 0, none⟩)) (w' := W1) (by simp [go_sem, t1]) ⟨_, rfl, rfl, Below.refl _ _⟩
          | 1, _ =>
            have p3 : a.tmps[3]?.getD undef = .pointer (some ⟨w.heap.size, 0, none⟩) := Gr.slot (hpre { on := 0, ground := .data } (by obtain rfl := Option.some.inj ho; simp) rfl (by decide))
            obtain rfl := Option.some.inj ho
            refine Gr.val (v := .int .i64 p.vars) (w' := W1) (by simp [go_sem, p3, k0]) ⟨_, rfl, rfl, Below.refl _ _⟩
          | 2, _ =>
            have p4 : a.tmps[4]?.getD undef = .int .i64 p.vars := Gr.slot (hpre { on := 1, ground := .data } (by obtain rfl := Option.some.inj ho; simp) rfl (by decide))
            obtain rfl := Option.some.inj ho
            refine Gr.val (v := .bool true) (w' := W1) (by simp [go_sem, p4, dn1]) ⟨_, rfl, rfl, Below.refl _ _⟩
          | 3, _ =>
            have p5 : a.tmps[5]?.getD undef = .bool true := Gr.slot (hpre { on := 2, ground := .data } (by obtain rfl := Option.some.inj ho; simp) rfl (by decide))
            obtain rfl := Option.some.inj ho
            refine Gr.val (v := .bool true) (w' := W1) (by simp [go_sem, p5]) ⟨_, rfl, rfl, Below.refl _ _⟩
          | 4, _ =>
            obtain rfl := Option.some.inj ho
            refine Gr.val (v := .pointer (some ⟨w.heap.size, 1, none⟩)) (w' := W1) (by simp [go_sem, t1]) ⟨_, rfl, rfl, Below.refl _ _⟩
          | 5, _ =>
            have p7 : a.tmps[7]?.getD undef = .pointer (some ⟨w.heap.size, 1, none⟩) := Gr.slot (hpre { on := 4, ground := .data } (by obtain rfl := Option.some.inj ho; simp) rfl (by decide))
            obtain rfl := Option.some.inj ho
            refine Gr.val (v := .int .i64 p.objs) (w' := W1) (by simp [go_sem, p7, k1]) ⟨_, rfl, rfl, Below.refl _ _⟩
          | 6, _ =>
            have p8 : a.tmps[8]?.getD undef = .int .i64 p.objs := Gr.slot (hpre { on := 5, ground := .data } (by obtain rfl := Option.some.inj ho; simp) rfl (by decide))
            obtain rfl := Option.some.inj ho
            refine Gr.val (v := .bool true) (w' := W1) (by simp [go_sem, p8, dn2]) ⟨_, rfl, rfl, Below.refl _ _⟩
          | 7, _ =>
            have p6 : a.tmps[6]?.getD undef = .bool true := Gr.slot (hpre { on := 3, ground := .data } (by obtain rfl := Option.some.inj ho; simp) rfl (by decide))
            have p9 : a.tmps[9]?.getD undef = .bool true := Gr.slot (hpre { on := 6, ground := .data } (by obtain rfl := Option.some.inj ho; simp) rfl (by decide))
            obtain rfl := Option.some.inj ho
            refine Gr.val (v := .bool true) (w' := W1) (by simp [go_sem, p6, p9]) ⟨_, rfl, rfl, Below.refl _ _⟩
          | 8, _ =>
            have p10 : a.tmps[10]?.getD undef = .bool true := Gr.slot (hpre { on := 7, ground := .data } (by obtain rfl := Option.some.inj ho; simp) rfl (by decide))
            obtain rfl := Option.some.inj ho
            refine Gr.val (v := .bool true) (w' := W1) (by simp [go_sem, p10]) ⟨_, rfl, rfl, Below.refl _ _⟩
          | 9, _ =>
            obtain rfl := Option.some.inj ho
            refine Gr.val (v := .pointer (some ⟨w.heap.size, 2, none⟩)) (w' := W1) (by simp [go_sem, t1]) ⟨_, rfl, rfl, Below.refl _ _⟩
          | 10, _ =>
            have p12 : a.tmps[12]?.getD undef = .pointer (some ⟨w.heap.size, 2, none⟩) := Gr.slot (hpre { on := 9, ground := .data } (by obtain rfl := Option.some.inj ho; simp) rfl (by decide))
            obtain rfl := Option.some.inj ho
            refine Gr.val (v := .int .i64 p.fields) (w' := W1) (by simp [go_sem, p12, k2]) ⟨_, rfl, rfl, Below.refl _ _⟩
          | 11, _ =>
            have p13 : a.tmps[13]?.getD undef = .int .i64 p.fields := Gr.slot (hpre { on := 10, ground := .data } (by obtain rfl := Option.some.inj ho; simp) rfl (by decide))
            obtain rfl := Option.some.inj ho
            refine Gr.val (v := .bool true) (w' := W1) (by simp [go_sem, p13, dn3]) ⟨_, rfl, rfl, Below.refl _ _⟩
          | 12, _ =>
            have p11 : a.tmps[11]?.getD undef = .bool true := Gr.slot (hpre { on := 8, ground := .data } (by obtain rfl := Option.some.inj ho; simp) rfl (by decide))
            have p14 : a.tmps[14]?.getD undef = .bool true := Gr.slot (hpre { on := 11, ground := .data } (by obtain rfl := Option.some.inj ho; simp) rfl (by decide))
            obtain rfl := Option.some.inj ho
            refine Gr.val (v := .bool true) (w' := W1) (by simp [go_sem, p11, p14]) ⟨_, rfl, rfl, Below.refl _ _⟩
          | 13, _ =>
            have p15 : a.tmps[15]?.getD undef = .bool true := Gr.slot (hpre { on := 12, ground := .data } (by obtain rfl := Option.some.inj ho; simp) rfl (by decide))
            obtain rfl := Option.some.inj ho
            refine Gr.val (v := .bool true) (w' := W1) (by simp [go_sem, p15]) ⟨_, rfl, rfl, Below.refl _ _⟩
          | 14, _ =>
            obtain rfl := Option.some.inj ho
            refine Gr.val (v := .pointer (some ⟨w.heap.size, 3, none⟩)) (w' := W1) (by simp [go_sem, t1]) ⟨_, rfl, rfl, Below.refl _ _⟩
          | 15, _ =>
            have p17 : a.tmps[17]?.getD undef = .pointer (some ⟨w.heap.size, 3, none⟩) := Gr.slot (hpre { on := 14, ground := .data } (by obtain rfl := Option.some.inj ho; simp) rfl (by decide))
            obtain rfl := Option.some.inj ho
            refine Gr.val (v := .slice Af p.fs.length cf) (w' := W1) (by simp [go_sem, p17, k3]) ⟨_, rfl, rfl, Below.refl _ _⟩
          | 16, _ =>
            obtain rfl := Option.some.inj ho
            refine Gr.val (v := pv p Af cf Ae ce Ao co) (w' := W1) (by simp [go_sem, t1, k0, k1, k2, k3, k4, k5]) ⟨_, rfl, rfl, Below.refl _ _⟩
          | 17, _ =>
            have p19 : a.tmps[19]?.getD undef = pv p Af cf Ae ce Ao co := Gr.slot (hpre { on := 16, ground := .data } (by obtain rfl := Option.some.inj ho; simp) rfl (by decide))
            obtain rfl := Option.some.inj ho
            refine Gr.val (v := .func (.func 63) #[pv p Af cf Ae ce Ao co] #[]) (w' := W1) (by simp [go_sem, p19]) ⟨_, rfl, rfl, Below.refl _ _⟩
          | 18, _ =>
            have p18 : a.tmps[18]?.getD undef = .slice Af p.fs.length cf := Gr.slot (hpre { on := 15, ground := .data } (by obtain rfl := Option.some.inj ho; simp) rfl (by decide))
            have p20 : a.tmps[20]?.getD undef = .func (.func 63) #[pv p Af cf Ae ce Ao co] #[] := Gr.slot (hpre { on := 17, ground := .data } (by obtain rfl := Option.some.inj ho; simp) rfl (by decide))
            obtain rfl := Option.some.inj ho
            refine Gr.call (f := 59) (args := #[.slice Af p.fs.length cf, .func (.func 63) #[pv p Af cf Ae ce Ao co] #[]]) (by simp [go_sem, p18, p20]) ((CF.out W1 (B1.out.trans (hb.mono B1.out.size))).mono ?_)
            rintro e w' ⟨rfl, h2⟩
            exact ⟨_, rfl, _, rfl, rfl, h2⟩
          | 19, _ =>
            have p16 : a.tmps[16]?.getD undef = .bool true := Gr.slot (hpre { on := 13, ground := .data } (by obtain rfl := Option.some.inj ho; simp) rfl (by decide))
            have p21 : a.tmps[21]?.getD undef = .bool true := Gr.slot (hpre { on := 18, ground := .data } (by obtain rfl := Option.some.inj ho; simp) rfl (by decide))
            obtain rfl := Option.some.inj ho
            refine Gr.val (v := .bool true) (w' := W1) (by simp [go_sem, p16, p21]) ⟨_, rfl, rfl, Below.refl _ _⟩
          | 20, _ =>
            have p22 : a.tmps[22]?.getD undef = .bool true := Gr.slot (hpre { on := 19, ground := .data } (by obtain rfl := Option.some.inj ho; simp) rfl (by decide))
            obtain rfl := Option.some.inj ho
            refine Gr.val (v := .bool true) (w' := W1) (by simp [go_sem, p22]) ⟨_, rfl, rfl, Below.refl _ _⟩
          | 21, _ =>
            obtain rfl := Option.some.inj ho
            refine Gr.val (v := .pointer (some ⟨w.heap.size, 4, none⟩)) (w' := W1) (by simp [go_sem, t1]) ⟨_, rfl, rfl, Below.refl _ _⟩
          | 22, _ =>
            have p24 : a.tmps[24]?.getD undef = .pointer (some ⟨w.heap.size, 4, none⟩) := Gr.slot (hpre { on := 21, ground := .data } (by obtain rfl := Option.some.inj ho; simp) rfl (by decide))
            obtain rfl := Option.some.inj ho
            refine Gr.val (v := .slice Ae p.en.length ce) (w' := W1) (by simp [go_sem, p24, k4]) ⟨_, rfl, rfl, Below.refl _ _⟩
          | 23, _ =>
            have p25 : a.tmps[25]?.getD undef = .slice Ae p.en.length ce := Gr.slot (hpre { on := 22, ground := .data } (by obtain rfl := Option.some.inj ho; simp) rfl (by decide))
            obtain rfl := Option.some.inj ho
            refine Gr.call (f := 64) (args := #[.slice Ae p.en.length ce]) (by simp [go_sem, p25]) ((CI.out W1 (B1.out.trans (hb.mono B1.out.size))).mono ?_)
            rintro e w' ⟨rfl, m, rfl⟩
            exact ⟨_, rfl, _, rfl, rfl, below_drewN (Below.refl _ _) m⟩
          | 24, _ =>
            have p23 : a.tmps[23]?.getD undef = .bool true := Gr.slot (hpre { on := 20, ground := .data } (by obtain rfl := Option.some.inj ho; simp) rfl (by decide))
            have p26 : a.tmps[26]?.getD undef = .bool true := Gr.slot (hpre { on := 23, ground := .data } (by obtain rfl := Option.some.inj ho; simp) rfl (by decide))
            obtain rfl := Option.some.inj ho
            refine Gr.val (v := .bool true) (w' := W1) (by simp [go_sem, p23, p26]) ⟨_, rfl, rfl, Below.refl _ _⟩
          | 25, _ =>
            have p27 : a.tmps[27]?.getD undef = .bool true := Gr.slot (hpre { on := 24, ground := .data } (by obtain rfl := Option.some.inj ho; simp) rfl (by decide))
            obtain rfl := Option.some.inj ho
            refine Gr.val (v := .bool true) (w' := W1) (by simp [go_sem, p27]) ⟨_, rfl, rfl, Below.refl _ _⟩
          | 26, _ =>
            obtain rfl := Option.some.inj ho
            refine Gr.val (v := .pointer (some ⟨w.heap.size, 4, none⟩)) (w' := W1) (by simp [go_sem, t1]) ⟨_, rfl, rfl, Below.refl _ _⟩
          | 27, _ =>
            have p29 : a.tmps[29]?.getD undef = .pointer (some ⟨w.heap.size, 4, none⟩) := Gr.slot (hpre { on := 26, ground := .data } (by obtain rfl := Option.some.inj ho; simp) rfl (by decide))
            obtain rfl := Option.some.inj ho
            refine Gr.val (v := .slice Ae p.en.length ce) (w' := W1) (by simp [go_sem, p29, k4]) ⟨_, rfl, rfl, Below.refl _ _⟩
          | 28, _ =>
            obtain rfl := Option.some.inj ho
            refine Gr.val (v := .pointer (some ⟨w.heap.size, 3, none⟩)) (w' := W1) (by simp [go_sem, t1]) ⟨_, rfl, rfl, Below.refl _ _⟩
          | 29, _ =>
            have p31 : a.tmps[31]?.getD undef = .pointer (some ⟨w.heap.size, 3, none⟩) := Gr.slot (hpre { on := 28, ground := .data } (by obtain rfl := Option.some.inj ho; simp) rfl (by decide))
            obtain rfl := Option.some.inj ho
            refine Gr.val (v := .slice Af p.fs.length cf) (w' := W1) (by simp [go_sem, p31, k3]) ⟨_, rfl, rfl, Below.refl _ _⟩
          | 30, _ =>
            have p32 : a.tmps[32]?.getD undef = .slice Af p.fs.length cf := Gr.slot (hpre { on := 29, ground := .data } (by obtain rfl := Option.some.inj ho; simp) rfl (by decide))
            obtain rfl := Option.some.inj ho
            refine Gr.val (v := .int .i64 (p.fs.length : Int)) (w' := W1) (by simp [go_sem, p32]) ⟨_, rfl, rfl, Below.refl _ _⟩
          | 31, _ =>
            have p33 : a.tmps[33]?.getD undef = .int .i64 (p.fs.length : Int) := Gr.slot (hpre { on := 30, ground := .data } (by obtain rfl := Option.some.inj ho; simp) rfl (by decide))
            obtain rfl := Option.some.inj ho
            refine Gr.call (f := 47) (args := #[.int .i64 (p.fs.length : Int)]) (by simp [go_sem, p33]) ((below_any (p.fs.length : Int) W1).mono ?_)
            rintro e w' ⟨rfl, h1, h2, h3⟩
            exact ⟨_, rfl, _, rfl, ⟨_, rfl, h1⟩, h3⟩
          | 32, _ =>
            have p30 : a.tmps[30]?.getD undef = .slice Ae p.en.length ce := Gr.slot (hpre { on := 27, ground := .data } (by obtain rfl := Option.some.inj ho; simp) rfl (by decide))
            have q34 : (BV (p.fs.length : Int)) (a.eval (.tmp 34)) W1 := hpre { on := 31, ground := .data } (by obtain rfl := Option.some.inj ho; simp) rfl (by decide)
            obtain ⟨g, hv, hk⟩ := q34
            have p34 := Gr.slot hv
            obtain rfl := Option.some.inj ho
            refine Gr.call (f := 65) (args := #[.slice Ae p.en.length ce, bv g]) (by simp [go_sem, p30, p34]) ((CE.out W1 g (B1.out.trans (hb.mono B1.out.size)) hk).mono ?_)
            rintro e w' ⟨rfl, h2⟩
            exact ⟨_, rfl, _, rfl, rfl, h2⟩
          | 33, _ =>
            have p28 : a.tmps[28]?.getD undef = .bool true := Gr.slot (hpre { on := 25, ground := .data } (by obtain rfl := Option.some.inj ho; simp) rfl (by decide))
            have p35 : a.tmps[35]?.getD undef = .bool false := Gr.slot (hpre { on := 32, ground := .data } (by obtain rfl := Option.some.inj ho; simp) rfl (by decide))
            obtain rfl := Option.some.inj ho
            refine Gr.val (v := .bool false) (w' := W1) (by simp [go_sem, p28, p35]) ⟨_, rfl, rfl, Below.refl _ _⟩
          | 34, _ =>
            have p36 : a.tmps[36]?.getD undef = .bool false := Gr.slot (hpre { on := 33, ground := .data } (by obtain rfl := Option.some.inj ho; simp) rfl (by decide))
            obtain rfl := Option.some.inj ho
            refine Gr.val (v := .bool false) (w' := W1) (by simp [go_sem, p36]) ⟨_, rfl, rfl, Below.refl _ _⟩
          | 35, _ => exact absurd hsn (by decide)
          | 36, _ => exact absurd hsn (by decide)
          | 37, _ => exact absurd hsn (by decide)
          | 38, _ => exact absurd hsn (by decide)
          | 39, _ => exact absurd hsn (by decide)
          | 40, _ =>
            have p37 : a.tmps[37]?.getD undef = .bool false := Gr.slot (hpre { on := 34, ground := .data } (by obtain rfl := Option.some.inj ho; simp) rfl (by decide))
            obtain rfl := Option.some.inj ho
            refine Gr.val (v := .bool false) (w' := W1) (by simp [go_sem, p37]) ⟨_, rfl, rfl, Below.refl _ _⟩
          | 41, _ =>
            have p43 : a.tmps[43]?.getD undef = .bool false := Gr.slot (hpre { on := 40, ground := .data } (by obtain rfl := Option.some.inj ho; simp) rfl (by decide))
            obtain rfl := Option.some.inj ho
            refine Gr.val (v := .bool false) (w' := W1) (by simp [go_sem, p43]) ⟨_, rfl, rfl, Below.refl _ _⟩
          | i + 42, h => omega
        intro a W1 hb hfr hall
        obtain ⟨u0, hu0⟩ : ∃ u, a.tmps[0]?.getD undef = u := ⟨_, rfl⟩
        obtain ⟨u3, hu3⟩ : ∃ u, a.tmps[3]?.getD undef = u := ⟨_, rfl⟩
        obtain ⟨u4, hu4⟩ : ∃ u, a.tmps[4]?.getD undef = u := ⟨_, rfl⟩
        obtain ⟨u5, hu5⟩ : ∃ u, a.tmps[5]?.getD undef = u := ⟨_, rfl⟩
        obtain ⟨u6, hu6⟩ : ∃ u, a.tmps[6]?.getD undef = u := ⟨_, rfl⟩
        obtain ⟨u7, hu7⟩ : ∃ u, a.tmps[7]?.getD undef = u := ⟨_, rfl⟩
        obtain ⟨u8, hu8⟩ : ∃ u, a.tmps[8]?.getD undef = u := ⟨_, rfl⟩
        obtain ⟨u9, hu9⟩ : ∃ u, a.tmps[9]?.getD undef = u := ⟨_, rfl⟩
        obtain ⟨u10, hu10⟩ : ∃ u, a.tmps[10]?.getD undef = u := ⟨_, rfl⟩
        obtain ⟨u11, hu11⟩ : ∃ u, a.tmps[11]?.getD undef = u := ⟨_, rfl⟩
        obtain ⟨u12, hu12⟩ : ∃ u, a.tmps[12]?.getD undef = u := ⟨_, rfl⟩
        obtain ⟨u13, hu13⟩ : ∃ u, a.tmps[13]?.getD undef = u := ⟨_, rfl⟩
        obtain ⟨u14, hu14⟩ : ∃ u, a.tmps[14]?.getD undef = u := ⟨_, rfl⟩
        obtain ⟨u15, hu15⟩ : ∃ u, a.tmps[15]?.getD undef = u := ⟨_, rfl⟩
        obtain ⟨u16, hu16⟩ : ∃ u, a.tmps[16]?.getD undef = u := ⟨_, rfl⟩
        obtain ⟨u17, hu17⟩ : ∃ u, a.tmps[17]?.getD undef = u := ⟨_, rfl⟩
        obtain ⟨u18, hu18⟩ : ∃ u, a.tmps[18]?.getD undef = u := ⟨_, rfl⟩
        obtain ⟨u19, hu19⟩ : ∃ u, a.tmps[19]?.getD undef = u := ⟨_, rfl⟩
        obtain ⟨u20, hu20⟩ : ∃ u, a.tmps[20]?.getD undef = u := ⟨_, rfl⟩
        obtain ⟨u21, hu21⟩ : ∃ u, a.tmps[21]?.getD undef = u := ⟨_, rfl⟩
        obtain ⟨u22, hu22⟩ : ∃ u, a.tmps[22]?.getD undef = u := ⟨_, rfl⟩
        obtain ⟨u23, hu23⟩ : ∃ u, a.tmps[23]?.getD undef = u := ⟨_, rfl⟩
        obtain ⟨u24, hu24⟩ : ∃ u, a.tmps[24]?.getD undef = u := ⟨_, rfl⟩
        obtain ⟨u25, hu25⟩ : ∃ u, a.tmps[25]?.getD undef = u := ⟨_, rfl⟩
        obtain ⟨u26, hu26⟩ : ∃ u, a.tmps[26]?.getD undef = u := ⟨_, rfl⟩
        obtain ⟨u27, hu27⟩ : ∃ u, a.tmps[27]?.getD undef = u := ⟨_, rfl⟩
        obtain ⟨u28, hu28⟩ : ∃ u, a.tmps[28]?.getD undef = u := ⟨_, rfl⟩
        obtain ⟨u29, hu29⟩ : ∃ u, a.tmps[29]?.getD undef = u := ⟨_, rfl⟩
        obtain ⟨u30, hu30⟩ : ∃ u, a.tmps[30]?.getD undef = u := ⟨_, rfl⟩
        obtain ⟨u31, hu31⟩ : ∃ u, a.tmps[31]?.getD undef = u := ⟨_, rfl⟩
        obtain ⟨u32, hu32⟩ : ∃ u, a.tmps[32]?.getD undef = u := ⟨_, rfl⟩
        obtain ⟨u33, hu33⟩ : ∃ u, a.tmps[33]?.getD undef = u := ⟨_, rfl⟩
        obtain ⟨u34, hu34⟩ : ∃ u, a.tmps[34]?.getD undef = u := ⟨_, rfl⟩
        obtain ⟨u35, hu35⟩ : ∃ u, a.tmps[35]?.getD undef = u := ⟨_, rfl⟩
        obtain ⟨u36, hu36⟩ : ∃ u, a.tmps[36]?.getD undef = u := ⟨_, rfl⟩
        obtain ⟨u37, hu37⟩ : ∃ u, a.tmps[37]?.getD undef = u := ⟨_, rfl⟩
        obtain ⟨u38, hu38⟩ : ∃ u, a.tmps[38]?.getD undef = u := ⟨_, rfl⟩
        obtain ⟨u39, hu39⟩ : ∃ u, a.tmps[39]?.getD undef = u := ⟨_, rfl⟩
        obtain ⟨u40, hu40⟩ : ∃ u, a.tmps[40]?.getD undef = u := ⟨_, rfl⟩
        obtain ⟨u41, hu41⟩ : ∃ u, a.tmps[41]?.getD undef = u := ⟨_, rfl⟩
        obtain ⟨u42, hu42⟩ : ∃ u, a.tmps[42]?.getD undef = u := ⟨_, rfl⟩
        obtain ⟨u43, hu43⟩ : ∃ u, a.tmps[43]?.getD undef = u := ⟨_, rfl⟩
        have hA : a = ⟨#[u0, .pointer (some ⟨w.heap.size, 0, none⟩), .bool false, u3, u4, u5, u6, u7, u8, u9, u10, u11, u12, u13, u14, u15, u16, u17, u18, u19, u20, u21, u22, u23, u24, u25, u26, u27, u28, u29, u30, u31, u32, u33, u34, u35, u36, u37, u38, u39, u40, u41, u42, u43], []⟩ := Gr.act_eq (l := [u0, .pointer (some ⟨w.heap.size, 0, none⟩), .bool false, u3, u4, u5, u6, u7, u8, u9, u10, u11, u12, u13, u14, u15, u16, u17, u18, u19, u20, u21, u22, u23, u24, u25, u26, u27, u28, u29, u30, u31, u32, u33, u34, u35, u36, u37, u38, u39, u40, u41, u42, u43]) hfr.d hfr.s (by
          intro i hi
          match i, hi with
          | 0, _ => exact hu0
          | 1, _ => exact Gr.slot (hfr.f 1 (by intro j hj; (try dsimp only); split <;> omega))
          | 2, _ => exact Gr.slot (hall 41 (by omega))
          | 3, _ => exact hu3
          | 4, _ => exact hu4
          | 5, _ => exact hu5
          | 6, _ => exact hu6
          | 7, _ => exact hu7
          | 8, _ => exact hu8
          | 9, _ => exact hu9
          | 10, _ => exact hu10
          | 11, _ => exact hu11
          | 12, _ => exact hu12
          | 13, _ => exact hu13
          | 14, _ => exact hu14
          | 15, _ => exact hu15
          | 16, _ => exact hu16
          | 17, _ => exact hu17
          | 18, _ => exact hu18
          | 19, _ => exact hu19
          | 20, _ => exact hu20
          | 21, _ => exact hu21
          | 22, _ => exact hu22
          | 23, _ => exact hu23
          | 24, _ => exact hu24
          | 25, _ => exact hu25
          | 26, _ => exact hu26
          | 27, _ => exact hu27
          | 28, _ => exact hu28
          | 29, _ => exact hu29
          | 30, _ => exact hu30
          | 31, _ => exact hu31
          | 32, _ => exact hu32
          | 33, _ => exact hu33
          | 34, _ => exact hu34
          | 35, _ => exact hu35
          | 36, _ => exact hu36
          | 37, _ => exact hu37
          | 38, _ => exact hu38
          | 39, _ => exact hu39
          | 40, _ => exact hu40
          | 41, _ => exact hu41
          | 42, _ => exact hu42
          | 43, _ => exact hu43
          | i + 44, h => simp only [List.length_cons, List.length_nil] at h; omega)
        clear hu0 hu3 hu4 hu5 hu6 hu7 hu8 hu9 hu10 hu11 hu12 hu13 hu14 hu15 hu16 hu17 hu18 hu19 hu20 hu21 hu22 hu23 hu24 hu25 hu26 hu27 hu28 hu29 hu30 hu31 hu32 hu33 hu34 hu35 hu36 hu37 hu38 hu39 hu40 hu41 hu42 hu43
        subst hA
        go_wp2
        go_ret
        exact ⟨by rw [HO.out]; rfl, B1.out.trans (hb.mono B1.out.size)⟩
      | true =>
        rw [hE] at CE
        have HO := Lib.hid (show formed p = p.ops.all (okO p) from by rw [HO.out, hF, hR, hE]; simp)
        clear hF hR hE
        go_enter Try.func31, Try.ntmps31
        go_upto_region 1 with fail
        generalize w.alloc (.cells #[.int .i64 p.vars, .int .i64 p.objs, .int .i64 p.fields, .slice Af p.fs.length cf, .slice Ae p.en.length ce, .slice Ao p.ops.length co] 33) = w1 at *
        refine Gr.regionY 42 (fun i => if i < 41 then i + 3 else i - 39) [.val (.pointer (some ⟨w.heap.size, 0, none⟩)), .val (.int .i64 p.vars), .val (.bool true), .val (.bool true), .val (.pointer (some ⟨w.heap.size, 1, none⟩)), .val (.int .i64 p.objs), .val (.bool true), .val (.bool true), .val (.bool true), .val (.pointer (some ⟨w.heap.size, 2, none⟩)), .val (.int .i64 p.fields), .val (.bool true), .val (.bool true), .val (.bool true), .val (.pointer (some ⟨w.heap.size, 3, none⟩)), .val (.slice Af p.fs.length cf), .val (pv p Af cf Ae ce Ao co), .val (.func (.func 63) #[pv p Af cf Ae ce Ao co] #[]), .val (.bool true), .val (.bool true), .val (.bool true), .val (.pointer (some ⟨w.heap.size, 4, none⟩)), .val (.slice Ae p.en.length ce), .val (.bool true), .val (.bool true), .val (.bool true), .val (.pointer (some ⟨w.heap.size, 4, none⟩)), .val (.slice Ae p.en.length ce), .val (.pointer (some ⟨w.heap.size, 3, none⟩)), .val (.slice Af p.fs.length cf), .val (.int .i64 (p.fs.length : Int)), .cls (BV (p.fs.length : Int)) (bv_grow), .val (.bool true), .val (.bool true), .val (.bool true), .val (.pointer (some ⟨w.heap.size, 5, none⟩)), .val (.slice Ao p.ops.length co), .val (pv p Af cf Ae ce Ao co), .val (.func (.func 66) #[pv p Af cf Ae ce Ao co] #[]), .val (.bool (p.ops.all (okO p))), .val (.bool (p.ops.all (okO p))), .val (.bool (p.ops.all (okO p)))] [] (by kernel_rfl) (by kernel_rfl) (by rfl) ?_ ?_ ?_
        · intro i hi; simp at hi
        · intro i o a W1 hi hsn ho hb hfr hpre
          have t1 : a.tmps[1]?.getD undef = .pointer (some ⟨w.heap.size, 0, none⟩) := Gr.slot (hfr.f 1 (by intro j hj; (try dsimp only); split <;> omega))
          obtain ⟨k0, k1, k2, k3, k4, k5⟩ := cells6 (blk_below R1.out hb (blk_lt R1.out))
          match i, hi with
          | 0, _ =>
            obtain rfl := Option.some.inj ho
            refine Gr.val (v := .pointer (some ⟨w.heap.size, 0, none⟩)) (w' := W1) (by simp [go_sem, t1]) ⟨_, rfl, rfl, Below.refl _ _⟩
          | 1, _ =>
            have p3 : a.tmps[3]?.getD undef = .pointer (some ⟨w.heap.size, 0, none⟩) := Gr.slot (hpre { on := 0, ground := .data } (by obtain rfl := Option.some.inj ho; simp) rfl (by decide))
            obtain rfl := Option.some.inj ho
            refine Gr.val (v := .int .i64 p.vars) (w' := W1) (by simp [go_sem, p3, k0]) ⟨_, rfl, rfl, Below.refl _ _⟩
          | 2, _ =>
            have p4 : a.tmps[4]?.getD undef = .int .i64 p.vars := Gr.slot (hpre { on := 1, ground := .data } (by obtain rfl := Option.some.inj ho; simp) rfl (by decide))
            obtain rfl := Option.some.inj ho
            refine Gr.val (v := .bool true) (w' := W1) (by simp [go_sem, p4, dn1]) ⟨_, rfl, rfl, Below.refl _ _⟩
          | 3, _ =>
            have p5 : a.tmps[5]?.getD undef = .bool true := Gr.slot (hpre { on := 2, ground := .data } (by obtain rfl := Option.some.inj ho; simp) rfl (by decide))
            obtain rfl := Option.some.inj ho
            refine Gr.val (v := .bool true) (w' := W1) (by simp [go_sem, p5]) ⟨_, rfl, rfl, Below.refl _ _⟩
          | 4, _ =>
            obtain rfl := Option.some.inj ho
            refine Gr.val (v := .pointer (some ⟨w.heap.size, 1, none⟩)) (w' := W1) (by simp [go_sem, t1]) ⟨_, rfl, rfl, Below.refl _ _⟩
          | 5, _ =>
            have p7 : a.tmps[7]?.getD undef = .pointer (some ⟨w.heap.size, 1, none⟩) := Gr.slot (hpre { on := 4, ground := .data } (by obtain rfl := Option.some.inj ho; simp) rfl (by decide))
            obtain rfl := Option.some.inj ho
            refine Gr.val (v := .int .i64 p.objs) (w' := W1) (by simp [go_sem, p7, k1]) ⟨_, rfl, rfl, Below.refl _ _⟩
          | 6, _ =>
            have p8 : a.tmps[8]?.getD undef = .int .i64 p.objs := Gr.slot (hpre { on := 5, ground := .data } (by obtain rfl := Option.some.inj ho; simp) rfl (by decide))
            obtain rfl := Option.some.inj ho
            refine Gr.val (v := .bool true) (w' := W1) (by simp [go_sem, p8, dn2]) ⟨_, rfl, rfl, Below.refl _ _⟩
          | 7, _ =>
            have p6 : a.tmps[6]?.getD undef = .bool true := Gr.slot (hpre { on := 3, ground := .data } (by obtain rfl := Option.some.inj ho; simp) rfl (by decide))
            have p9 : a.tmps[9]?.getD undef = .bool true := Gr.slot (hpre { on := 6, ground := .data } (by obtain rfl := Option.some.inj ho; simp) rfl (by decide))
            obtain rfl := Option.some.inj ho
            refine Gr.val (v := .bool true) (w' := W1) (by simp [go_sem, p6, p9]) ⟨_, rfl, rfl, Below.refl _ _⟩
          | 8, _ =>
            have p10 : a.tmps[10]?.getD undef = .bool true := Gr.slot (hpre { on := 7, ground := .data } (by obtain rfl := Option.some.inj ho; simp) rfl (by decide))
            obtain rfl := Option.some.inj ho
            refine Gr.val (v := .bool true) (w' := W1) (by simp [go_sem, p10]) ⟨_, rfl, rfl, Below.refl _ _⟩
          | 9, _ =>
            obtain rfl := Option.some.inj ho
            refine Gr.val (v := .pointer (some ⟨w.heap.size, 2, none⟩)) (w' := W1) (by simp [go_sem, t1]) ⟨_, rfl, rfl, Below.refl _ _⟩
          | 10, _ =>
            have p12 : a.tmps[12]?.getD undef = .pointer (some ⟨w.heap.size, 2, none⟩) := Gr.slot (hpre { on := 9, ground := .data } (by obtain rfl := Option.some.inj ho; simp) rfl (by decide))
            obtain rfl := Option.some.inj ho
            refine Gr.val (v := .int .i64 p.fields) (w' := W1) (by simp [go_sem, p12, k2]) ⟨_, rfl, rfl, Below.refl _ _⟩
          | 11, _ =>
            have p13 : a.tmps[13]?.getD undef = .int .i64 p.fields := Gr.slot (hpre { on := 10, ground := .data } (by obtain rfl := Option.some.inj ho; simp) rfl (by decide))
            obtain rfl := Option.some.inj ho
            refine Gr.val (v := .bool true) (w' := W1) (by simp [go_sem, p13, dn3]) ⟨_, rfl, rfl, Below.refl _ _⟩
          | 12, _ =>
            have p11 : a.tmps[11]?.getD undef = .bool true := Gr.slot (hpre { on := 8, ground := .data } (by obtain rfl := Option.some.inj ho; simp) rfl (by decide))
            have p14 : a.tmps[14]?.getD undef = .bool true := Gr.slot (hpre { on := 11, ground := .data } (by obtain rfl := Option.some.inj ho; simp) rfl (by decide))
            obtain rfl := Option.some.inj ho
            refine Gr.val (v := .bool true) (w' := W1) (by simp [go_sem, p11, p14]) ⟨_, rfl, rfl, Below.refl _ _⟩
          | 13, _ =>
            have p15 : a.tmps[15]?.getD undef = .bool true := Gr.slot (hpre { on := 12, ground := .data } (by obtain rfl := Option.some.inj ho; simp) rfl (by decide))
            obtain rfl := Option.some.inj ho
            refine Gr.val (v := .bool true) (w' := W1) (by simp [go_sem, p15]) ⟨_, rfl, rfl, Below.refl _ _⟩
          | 14, _ =>
            obtain rfl := Option.some.inj ho
            refine Gr.val (v := .pointer (some ⟨w.heap.size, 3, none⟩)) (w' := W1) (by simp [go_sem, t1]) ⟨_, rfl, rfl, Below.refl _ _⟩
          | 15, _ =>
            have p17 : a.tmps[17]?.getD undef = .pointer (some ⟨w.heap.size, 3, none⟩) := Gr.slot (hpre { on := 14, ground := .data } (by obtain rfl := Option.some.inj ho; simp) rfl (by decide))
            obtain rfl := Option.some.inj ho
            refine Gr.val (v := .slice Af p.fs.length cf) (w' := W1) (by simp [go_sem, p17, k3]) ⟨_, rfl, rfl, Below.refl _ _⟩
          | 16, _ =>
            obtain rfl := Option.some.inj ho
            refine Gr.val (v := pv p Af cf Ae ce Ao co) (w' := W1) (by simp [go_sem, t1, k0, k1, k2, k3, k4, k5]) ⟨_, rfl, rfl, Below.refl _ _⟩
          | 17, _ =>
            have p19 : a.tmps[19]?.getD undef = pv p Af cf Ae ce Ao co := Gr.slot (hpre { on := 16, ground := .data } (by obtain rfl := Option.some.inj ho; simp) rfl (by decide))
            obtain rfl := Option.some.inj ho
            refine Gr.val (v := .func (.func 63) #[pv p Af cf Ae ce Ao co] #[]) (w' := W1) (by simp [go_sem, p19]) ⟨_, rfl, rfl, Below.refl _ _⟩
          | 18, _ =>
            have p18 : a.tmps[18]?.getD undef = .slice Af p.fs.length cf := Gr.slot (hpre { on := 15, ground := .data } (by obtain rfl := Option.some.inj ho; simp) rfl (by decide))
            have p20 : a.tmps[20]?.getD undef = .func (.func 63) #[pv p Af cf Ae ce Ao co] #[] := Gr.slot (hpre { on := 17, ground := .data } (by obtain rfl := Option.some.inj ho; simp) rfl (by decide))
            obtain rfl := Option.some.inj ho
            refine Gr.call (f := 59) (args := #[.slice Af p.fs.length cf, .func (.func 63) #[pv p Af cf Ae ce Ao co] #[]]) (by simp [go_sem, p18, p20]) ((CF.out W1 (B1.out.trans (hb.mono B1.out.size))).mono ?_)
            rintro e w' ⟨rfl, h2⟩
            exact ⟨_, rfl, _, rfl, rfl, h2⟩
          | 19, _ =>
            have p16 : a.tmps[16]?.getD undef = .bool true := Gr.slot (hpre { on := 13, ground := .data } (by obtain rfl := Option.some.inj ho; simp) rfl (by decide))
            have p21 : a.tmps[21]?.getD undef = .bool true := Gr.slot (hpre { on := 18, ground := .data } (by obtain rfl := Option.some.inj ho; simp) rfl (by decide))
            obtain rfl := Option.some.inj ho
            refine Gr.val (v := .bool true) (w' := W1) (by simp [go_sem, p16, p21]) ⟨_, rfl, rfl, Below.refl _ _⟩
          | 20, _ =>
            have p22 : a.tmps[22]?.getD undef = .bool true := Gr.slot (hpre { on := 19, ground := .data } (by obtain rfl := Option.some.inj ho; simp) rfl (by decide))
            obtain rfl := Option.some.inj ho
            refine Gr.val (v := .bool true) (w' := W1) (by simp [go_sem, p22]) ⟨_, rfl, rfl, Below.refl _ _⟩
          | 21, _ =>
            obtain rfl := Option.some.inj ho
            refine Gr.val (v := .pointer (some ⟨w.heap.size, 4, none⟩)) (w' := W1) (by simp [go_sem, t1]) ⟨_, rfl, rfl, Below.refl _ _⟩
          | 22, _ =>
            have p24 : a.tmps[24]?.getD undef = .pointer (some ⟨w.heap.size, 4, none⟩) := Gr.slot (hpre { on := 21, ground := .data } (by obtain rfl := Option.some.inj ho; simp) rfl (by decide))
            obtain rfl := Option.some.inj ho
            refine Gr.val (v := .slice Ae p.en.length ce) (w' := W1) (by simp [go_sem, p24, k4]) ⟨_, rfl, rfl, Below.refl _ _⟩
          | 23, _ =>
            have p25 : a.tmps[25]?.getD undef = .slice Ae p.en.length ce := Gr.slot (hpre { on := 22, ground := .data } (by obtain rfl := Option.some.inj ho; simp) rfl (by decide))
            obtain rfl := Option.some.inj ho
            refine Gr.call (f := 64) (args := #[.slice Ae p.en.length ce]) (by simp [go_sem, p25]) ((CI.out W1 (B1.out.trans (hb.mono B1.out.size))).mono ?_)
            rintro e w' ⟨rfl, m, rfl⟩
            exact ⟨_, rfl, _, rfl, rfl, below_drewN (Below.refl _ _) m⟩
          | 24, _ =>
            have p23 : a.tmps[23]?.getD undef = .bool true := Gr.slot (hpre { on := 20, ground := .data } (by obtain rfl := Option.some.inj ho; simp) rfl (by decide))
            have p26 : a.tmps[26]?.getD undef = .bool true := Gr.slot (hpre { on := 23, ground := .data } (by obtain rfl := Option.some.inj ho; simp) rfl (by decide))
            obtain rfl := Option.some.inj ho
            refine Gr.val (v := .bool true) (w' := W1) (by simp [go_sem, p23, p26]) ⟨_, rfl, rfl, Below.refl _ _⟩
          | 25, _ =>
            have p27 : a.tmps[27]?.getD undef = .bool true := Gr.slot (hpre { on := 24, ground := .data } (by obtain rfl := Option.some.inj ho; simp) rfl (by decide))
            obtain rfl := Option.some.inj ho
            refine Gr.val (v := .bool true) (w' := W1) (by simp [go_sem, p27]) ⟨_, rfl, rfl, Below.refl _ _⟩
          | 26, _ =>
            obtain rfl := Option.some.inj ho
            refine Gr.val (v := .pointer (some ⟨w.heap.size, 4, none⟩)) (w' := W1) (by simp [go_sem, t1]) ⟨_, rfl, rfl, Below.refl _ _⟩
          | 27, _ =>
            have p29 : a.tmps[29]?.getD undef = .pointer (some ⟨w.heap.size, 4, none⟩) := Gr.slot (hpre { on := 26, ground := .data } (by obtain rfl := Option.some.inj ho; simp) rfl (by decide))
            obtain rfl := Option.some.inj ho
            refine Gr.val (v := .slice Ae p.en.length ce) (w' := W1) (by simp [go_sem, p29, k4]) ⟨_, rfl, rfl, Below.refl _ _⟩
          | 28, _ =>
            obtain rfl := Option.some.inj ho
            refine Gr.val (v := .pointer (some ⟨w.heap.size, 3, none⟩)) (w' := W1) (by simp [go_sem, t1]) ⟨_, rfl, rfl, Below.refl _ _⟩
          | 29, _ =>
            have p31 : a.tmps[31]?.getD undef = .pointer (some ⟨w.heap.size, 3, none⟩) := Gr.slot (hpre { on := 28, ground := .data } (by obtain rfl := Option.some.inj ho; simp) rfl (by decide))
            obtain rfl := Option.some.inj ho
            refine Gr.val (v := .slice Af p.fs.length cf) (w' := W1) (by simp [go_sem, p31, k3]) ⟨_, rfl, rfl, Below.refl _ _⟩
          | 30, _ =>
            have p32 : a.tmps[32]?.getD undef = .slice Af p.fs.length cf := Gr.slot (hpre { on := 29, ground := .data } (by obtain rfl := Option.some.inj ho; simp) rfl (by decide))
            obtain rfl := Option.some.inj ho
            refine Gr.val (v := .int .i64 (p.fs.length : Int)) (w' := W1) (by simp [go_sem, p32]) ⟨_, rfl, rfl, Below.refl _ _⟩
          | 31, _ =>
            have p33 : a.tmps[33]?.getD undef = .int .i64 (p.fs.length : Int) := Gr.slot (hpre { on := 30, ground := .data } (by obtain rfl := Option.some.inj ho; simp) rfl (by decide))
            obtain rfl := Option.some.inj ho
            refine Gr.call (f := 47) (args := #[.int .i64 (p.fs.length : Int)]) (by simp [go_sem, p33]) ((below_any (p.fs.length : Int) W1).mono ?_)
            rintro e w' ⟨rfl, h1, h2, h3⟩
            exact ⟨_, rfl, _, rfl, ⟨_, rfl, h1⟩, h3⟩
          | 32, _ =>
            have p30 : a.tmps[30]?.getD undef = .slice Ae p.en.length ce := Gr.slot (hpre { on := 27, ground := .data } (by obtain rfl := Option.some.inj ho; simp) rfl (by decide))
            have q34 : (BV (p.fs.length : Int)) (a.eval (.tmp 34)) W1 := hpre { on := 31, ground := .data } (by obtain rfl := Option.some.inj ho; simp) rfl (by decide)
            obtain ⟨g, hv, hk⟩ := q34
            have p34 := Gr.slot hv
            obtain rfl := Option.some.inj ho
            refine Gr.call (f := 65) (args := #[.slice Ae p.en.length ce, bv g]) (by simp [go_sem, p30, p34]) ((CE.out W1 g (B1.out.trans (hb.mono B1.out.size)) hk).mono ?_)
            rintro e w' ⟨rfl, h2⟩
            exact ⟨_, rfl, _, rfl, rfl, h2⟩
          | 33, _ =>
            have p28 : a.tmps[28]?.getD undef = .bool true := Gr.slot (hpre { on := 25, ground := .data } (by obtain rfl := Option.some.inj ho; simp) rfl (by decide))
            have p35 : a.tmps[35]?.getD undef = .bool true := Gr.slot (hpre { on := 32, ground := .data } (by obtain rfl := Option.some.inj ho; simp) rfl (by decide))
            obtain rfl := Option.some.inj ho
            refine Gr.val (v := .bool true) (w' := W1) (by simp [go_sem, p28, p35]) ⟨_, rfl, rfl, Below.refl _ _⟩
          | 34, _ =>
            have p36 : a.tmps[36]?.getD undef = .bool true := Gr.slot (hpre { on := 33, ground := .data } (by obtain rfl := Option.some.inj ho; simp) rfl (by decide))
            obtain rfl := Option.some.inj ho
            refine Gr.val (v := .bool true) (w' := W1) (by simp [go_sem, p36]) ⟨_, rfl, rfl, Below.refl _ _⟩
          | 35, _ =>
            obtain rfl := Option.some.inj ho
            refine Gr.val (v := .pointer (some ⟨w.heap.size, 5, none⟩)) (w' := W1) (by simp [go_sem, t1]) ⟨_, rfl, rfl, Below.refl _ _⟩
          | 36, _ =>
            have p38 : a.tmps[38]?.getD undef = .pointer (some ⟨w.heap.size, 5, none⟩) := Gr.slot (hpre { on := 35, ground := .data } (by obtain rfl := Option.some.inj ho; simp) rfl (by decide))
            obtain rfl := Option.some.inj ho
            refine Gr.val (v := .slice Ao p.ops.length co) (w' := W1) (by simp [go_sem, p38, k5]) ⟨_, rfl, rfl, Below.refl _ _⟩
          | 37, _ =>
            obtain rfl := Option.some.inj ho
            refine Gr.val (v := pv p Af cf Ae ce Ao co) (w' := W1) (by simp [go_sem, t1, k0, k1, k2, k3, k4, k5]) ⟨_, rfl, rfl, Below.refl _ _⟩
          | 38, _ =>
            have p40 : a.tmps[40]?.getD undef = pv p Af cf Ae ce Ao co := Gr.slot (hpre { on := 37, ground := .data } (by obtain rfl := Option.some.inj ho; simp) rfl (by decide))
            obtain rfl := Option.some.inj ho
            refine Gr.val (v := .func (.func 66) #[pv p Af cf Ae ce Ao co] #[]) (w' := W1) (by simp [go_sem, p40]) ⟨_, rfl, rfl, Below.refl _ _⟩
          | 39, _ =>
            have p39 : a.tmps[39]?.getD undef = .slice Ao p.ops.length co := Gr.slot (hpre { on := 36, ground := .data } (by obtain rfl := Option.some.inj ho; simp) rfl (by decide))
            have p41 : a.tmps[41]?.getD undef = .func (.func 66) #[pv p Af cf Ae ce Ao co] #[] := Gr.slot (hpre { on := 38, ground := .data } (by obtain rfl := Option.some.inj ho; simp) rfl (by decide))
            obtain rfl := Option.some.inj ho
            refine Gr.call (f := 61) (args := #[.slice Ao p.ops.length co, .func (.func 66) #[pv p Af cf Ae ce Ao co] #[]]) (by simp [go_sem, p39, p41]) ((CO.out W1 (B1.out.trans (hb.mono B1.out.size))).mono ?_)
            rintro e w' ⟨rfl, h2⟩
            exact ⟨_, rfl, _, rfl, rfl, h2⟩
          | 40, _ =>
            have p37 : a.tmps[37]?.getD undef = .bool true := Gr.slot (hpre { on := 34, ground := .data } (by obtain rfl := Option.some.inj ho; simp) rfl (by decide))
            have p42 : a.tmps[42]?.getD undef = .bool (p.ops.all (okO p)) := Gr.slot (hpre { on := 39, ground := .data } (by obtain rfl := Option.some.inj ho; simp) rfl (by decide))
            obtain rfl := Option.some.inj ho
            refine Gr.val (v := .bool (p.ops.all (okO p))) (w' := W1) (by simp [go_sem, p37, p42]) ⟨_, rfl, rfl, Below.refl _ _⟩
          | 41, _ =>
            have p43 : a.tmps[43]?.getD undef = .bool (p.ops.all (okO p)) := Gr.slot (hpre { on := 40, ground := .data } (by obtain rfl := Option.some.inj ho; simp) rfl (by decide))
            obtain rfl := Option.some.inj ho
            refine Gr.val (v := .bool (p.ops.all (okO p))) (w' := W1) (by simp [go_sem, p43]) ⟨_, rfl, rfl, Below.refl _ _⟩
          | i + 42, h => omega
        intro a W1 hb hfr hall
        obtain ⟨u0, hu0⟩ : ∃ u, a.tmps[0]?.getD undef = u := ⟨_, rfl⟩
        obtain ⟨u3, hu3⟩ : ∃ u, a.tmps[3]?.getD undef = u := ⟨_, rfl⟩
        obtain ⟨u4, hu4⟩ : ∃ u, a.tmps[4]?.getD undef = u := ⟨_, rfl⟩
        obtain ⟨u5, hu5⟩ : ∃ u, a.tmps[5]?.getD undef = u := ⟨_, rfl⟩
        obtain ⟨u6, hu6⟩ : ∃ u, a.tmps[6]?.getD undef = u := ⟨_, rfl⟩
        obtain ⟨u7, hu7⟩ : ∃ u, a.tmps[7]?.getD undef = u := ⟨_, rfl⟩
        obtain ⟨u8, hu8⟩ : ∃ u, a.tmps[8]?.getD undef = u := ⟨_, rfl⟩
        obtain ⟨u9, hu9⟩ : ∃ u, a.tmps[9]?.getD undef = u := ⟨_, rfl⟩
        obtain ⟨u10, hu10⟩ : ∃ u, a.tmps[10]?.getD undef = u := ⟨_, rfl⟩
        obtain ⟨u11, hu11⟩ : ∃ u, a.tmps[11]?.getD undef = u := ⟨_, rfl⟩
        obtain ⟨u12, hu12⟩ : ∃ u, a.tmps[12]?.getD undef = u := ⟨_, rfl⟩
        obtain ⟨u13, hu13⟩ : ∃ u, a.tmps[13]?.getD undef = u := ⟨_, rfl⟩
        obtain ⟨u14, hu14⟩ : ∃ u, a.tmps[14]?.getD undef = u := ⟨_, rfl⟩
        obtain ⟨u15, hu15⟩ : ∃ u, a.tmps[15]?.getD undef = u := ⟨_, rfl⟩
        obtain ⟨u16, hu16⟩ : ∃ u, a.tmps[16]?.getD undef = u := ⟨_, rfl⟩
        obtain ⟨u17, hu17⟩ : ∃ u, a.tmps[17]?.getD undef = u := ⟨_, rfl⟩
        obtain ⟨u18, hu18⟩ : ∃ u, a.tmps[18]?.getD undef = u := ⟨_, rfl⟩
        obtain ⟨u19, hu19⟩ : ∃ u, a.tmps[19]?.getD undef = u := ⟨_, rfl⟩
        obtain ⟨u20, hu20⟩ : ∃ u, a.tmps[20]?.getD undef = u := ⟨_, rfl⟩
        obtain ⟨u21, hu21⟩ : ∃ u, a.tmps[21]?.getD undef = u := ⟨_, rfl⟩
        obtain ⟨u22, hu22⟩ : ∃ u, a.tmps[22]?.getD undef = u := ⟨_, rfl⟩
        obtain ⟨u23, hu23⟩ : ∃ u, a.tmps[23]?.getD undef = u := ⟨_, rfl⟩
        obtain ⟨u24, hu24⟩ : ∃ u, a.tmps[24]?.getD undef = u := ⟨_, rfl⟩
        obtain ⟨u25, hu25⟩ : ∃ u, a.tmps[25]?.getD undef = u := ⟨_, rfl⟩
        obtain ⟨u26, hu26⟩ : ∃ u, a.tmps[26]?.getD undef = u := ⟨_, rfl⟩
        obtain ⟨u27, hu27⟩ : ∃ u, a.tmps[27]?.getD undef = u := ⟨_, rfl⟩
        obtain ⟨u28, hu28⟩ : ∃ u, a.tmps[28]?.getD undef = u := ⟨_, rfl⟩
        obtain ⟨u29, hu29⟩ : ∃ u, a.tmps[29]?.getD undef = u := ⟨_, rfl⟩
        obtain ⟨u30, hu30⟩ : ∃ u, a.tmps[30]?.getD undef = u := ⟨_, rfl⟩
        obtain ⟨u31, hu31⟩ : ∃ u, a.tmps[31]?.getD undef = u := ⟨_, rfl⟩
        obtain ⟨u32, hu32⟩ : ∃ u, a.tmps[32]?.getD undef = u := ⟨_, rfl⟩
        obtain ⟨u33, hu33⟩ : ∃ u, a.tmps[33]?.getD undef = u := ⟨_, rfl⟩
        obtain ⟨u34, hu34⟩ : ∃ u, a.tmps[34]?.getD undef = u := ⟨_, rfl⟩
        obtain ⟨u35, hu35⟩ : ∃ u, a.tmps[35]?.getD undef = u := ⟨_, rfl⟩
        obtain ⟨u36, hu36⟩ : ∃ u, a.tmps[36]?.getD undef = u := ⟨_, rfl⟩
        obtain ⟨u37, hu37⟩ : ∃ u, a.tmps[37]?.getD undef = u := ⟨_, rfl⟩
        obtain ⟨u38, hu38⟩ : ∃ u, a.tmps[38]?.getD undef = u := ⟨_, rfl⟩
        obtain ⟨u39, hu39⟩ : ∃ u, a.tmps[39]?.getD undef = u := ⟨_, rfl⟩
        obtain ⟨u40, hu40⟩ : ∃ u, a.tmps[40]?.getD undef = u := ⟨_, rfl⟩
        obtain ⟨u41, hu41⟩ : ∃ u, a.tmps[41]?.getD undef = u := ⟨_, rfl⟩
        obtain ⟨u42, hu42⟩ : ∃ u, a.tmps[42]?.getD undef = u := ⟨_, rfl⟩
        obtain ⟨u43, hu43⟩ : ∃ u, a.tmps[43]?.getD undef = u := ⟨_, rfl⟩
        have hA : a = ⟨#[u0, .pointer (some ⟨w.heap.size, 0, none⟩), .bool (p.ops.all (okO p)), u3, u4, u5, u6, u7, u8, u9, u10, u11, u12, u13, u14, u15, u16, u17, u18, u19, u20, u21, u22, u23, u24, u25, u26, u27, u28, u29, u30, u31, u32, u33, u34, u35, u36, u37, u38, u39, u40, u41, u42, u43], []⟩ := Gr.act_eq (l := [u0, .pointer (some ⟨w.heap.size, 0, none⟩), .bool (p.ops.all (okO p)), u3, u4, u5, u6, u7, u8, u9, u10, u11, u12, u13, u14, u15, u16, u17, u18, u19, u20, u21, u22, u23, u24, u25, u26, u27, u28, u29, u30, u31, u32, u33, u34, u35, u36, u37, u38, u39, u40, u41, u42, u43]) hfr.d hfr.s (by
          intro i hi
          match i, hi with
          | 0, _ => exact hu0
          | 1, _ => exact Gr.slot (hfr.f 1 (by intro j hj; (try dsimp only); split <;> omega))
          | 2, _ => exact Gr.slot (hall 41 (by omega))
          | 3, _ => exact hu3
          | 4, _ => exact hu4
          | 5, _ => exact hu5
          | 6, _ => exact hu6
          | 7, _ => exact hu7
          | 8, _ => exact hu8
          | 9, _ => exact hu9
          | 10, _ => exact hu10
          | 11, _ => exact hu11
          | 12, _ => exact hu12
          | 13, _ => exact hu13
          | 14, _ => exact hu14
          | 15, _ => exact hu15
          | 16, _ => exact hu16
          | 17, _ => exact hu17
          | 18, _ => exact hu18
          | 19, _ => exact hu19
          | 20, _ => exact hu20
          | 21, _ => exact hu21
          | 22, _ => exact hu22
          | 23, _ => exact hu23
          | 24, _ => exact hu24
          | 25, _ => exact hu25
          | 26, _ => exact hu26
          | 27, _ => exact hu27
          | 28, _ => exact hu28
          | 29, _ => exact hu29
          | 30, _ => exact hu30
          | 31, _ => exact hu31
          | 32, _ => exact hu32
          | 33, _ => exact hu33
          | 34, _ => exact hu34
          | 35, _ => exact hu35
          | 36, _ => exact hu36
          | 37, _ => exact hu37
          | 38, _ => exact hu38
          | 39, _ => exact hu39
          | 40, _ => exact hu40
          | 41, _ => exact hu41
          | 42, _ => exact hu42
          | 43, _ => exact hu43
          | i + 44, h => simp only [List.length_cons, List.length_nil] at h; omega)
        clear hu0 hu3 hu4 hu5 hu6 hu7 hu8 hu9 hu10 hu11 hu12 hu13 hu14 hu15 hu16 hu17 hu18 hu19 hu20 hu21 hu22 hu23 hu24 hu25 hu26 hu27 hu28 hu29 hu30 hu31 hu32 hu33 hu34 hu35 hu36 hu37 hu38 hu39 hu40 hu41 hu42 hu43
        subst hA
        go_wp2
        go_ret
        exact ⟨by rw [HO.out]; rfl, B1.out.trans (hb.mono B1.out.size)⟩
set_option maxRecDepth 100000 in
set_option maxHeartbeats 4000000 in
/-- CHECK -/
theorem check_any (lo : Nat) (p : P) (Af : Option Addr) (cf : Nat) (Ae : Option Addr) (ce : Nat) (Ao : Option Addr) (co : Nat) (w : World) (h : PIn lo w p Af cf Ae ce Ao co) (hs : Sm p) :
    Calls Try.prog 14 #[pv p Af cf Ae ce Ao co] w fun e w' => e = .returned (.int .i64 (check p)) ∧ Below w.heap.size w w' := by
  have CL := Lib.hid (fun X (q : Below w.heap.size w X) => limit_any lo p Af cf Ae ce Ao co X (h.below q) hs)
  have CF := Lib.hid (fun X (q : Below w.heap.size w X) => formed_any lo p Af cf Ae ce Ao co X (h.below q) hs)
  have bA := below1 w (.cells #[.int .i64 p.vars, .int .i64 p.objs, .int .i64 p.fields, .slice Af p.fs.length cf, .slice Ae p.en.length ce, .slice Ao p.ops.length co] 33)
  have B1 := Lib.hid bA
  have R1 := Lib.hid (heap_last w (.cells #[.int .i64 p.vars, .int .i64 p.objs, .int .i64 p.fields, .slice Af p.fs.length cf, .slice Ae p.en.length ce, .slice Ao p.ops.length co] 33) w.heap.size rfl)
  unfold check
  clear bA h hs
  cases hB : big p with
  | true =>
    rw [hB] at CL
    clear hB
    go_enter Try.func14, Try.ntmps14
    go_wp2_with (go_at_call 30; ((with_reducible refine (CL.out _ B1.out).mono ?_); rintro e w2 ⟨rfl, hb2⟩; have B2 := Lib.hid (B1.out.trans (hb2.mono B1.out.size))))
    go_ret
    exact ⟨rfl, B2.out⟩
  | false =>
    rw [hB] at CL
    clear hB
    cases hF : formed p with
    | false =>
      rw [hF] at CF
      clear hF
      go_enter Try.func14, Try.ntmps14
      go_wp2_with (first
        | (go_at_call 30; ((with_reducible refine (CL.out _ B1.out).mono ?_); rintro e w2 ⟨rfl, hb2⟩; have B2 := Lib.hid (B1.out.trans (hb2.mono B1.out.size)); have R2 := Lib.hid (blk_below R1.out hb2 (blk_lt R1.out)); obtain ⟨x0, x1, x2, x3, x4, x5⟩ := cells6 R2.out))
        | (go_at_call 31; ((with_reducible refine (CF.out _ B2.out).mono ?_); rintro e w3 ⟨rfl, hb3⟩; have B3 := Lib.hid (B2.out.trans (hb3.mono B2.out.size)))))
      go_ret
      exact ⟨rfl, B3.out⟩
    | true =>
      rw [hF] at CF
      clear hF
      go_enter Try.func14, Try.ntmps14
      go_wp2_with (first
        | (go_at_call 30; ((with_reducible refine (CL.out _ B1.out).mono ?_); rintro e w2 ⟨rfl, hb2⟩; have B2 := Lib.hid (B1.out.trans (hb2.mono B1.out.size)); have R2 := Lib.hid (blk_below R1.out hb2 (blk_lt R1.out)); obtain ⟨x0, x1, x2, x3, x4, x5⟩ := cells6 R2.out))
        | (go_at_call 31; ((with_reducible refine (CF.out _ B2.out).mono ?_); rintro e w3 ⟨rfl, hb3⟩; have B3 := Lib.hid (B2.out.trans (hb3.mono B2.out.size)))))
      go_ret
      exact ⟨rfl, B3.out⟩
end Pm
end Go.Proofs.Ytnhgoeoffjcooaa
