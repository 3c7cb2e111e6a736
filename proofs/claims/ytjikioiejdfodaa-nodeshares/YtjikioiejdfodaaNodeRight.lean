/-
  The statement's own 'Right', walked.
-/
import Derived.Test.YtjikioiejdfodaaNodeRt0
namespace Go.Proofs.Ytjikioiejdfodaa
open Go.RowKit
namespace Nod
open B V
set_option linter.unusedVariables false
theorem RI.le {kd : Int} {i : Nat} {s : St} (h : RI kd i s) : s.2.1.length ≤ i ∧ s.2.2.1.length ≤ i ∧ s.2.2.2.length ≤ i := by
  have h1 := h.len
  have h2 := h.v
  by_cases hk : kd = 1
  · rw [if_pos hk] at h2; rw [h2.2]; exact ⟨h1, by omega, by simp⟩
  · rw [if_neg hk] at h2; rw [h2.2]; exact ⟨h1, by simp, by omega⟩
theorem rst_skip {f : N} {kd : Int} {i : Nat} (h : ¬ Lt (rst f kd i).1 (cutB (f.keys.getD i ⟨#[]⟩) 16)) : rst f kd (i + 1) = rst f kd i := by show rstep _ _ _ _ = _; unfold rstep; rw [if_neg h]
theorem rst_go1 {f : N} {i : Nat} (h : Lt (rst f 1 i).1 (cutB (f.keys.getD i ⟨#[]⟩) 16)) : rst f 1 (i + 1) = (cutB (f.keys.getD i ⟨#[]⟩) 16, (rst f 1 i).2.1 ++ [cutB (f.keys.getD i ⟨#[]⟩) 16], (rst f 1 i).2.2.1 ++ [cutB (f.vals.getD i ⟨#[]⟩) 32], (rst f 1 i).2.2.2) := by show rstep _ _ _ _ = _; unfold rstep; rw [if_pos h]; simp
theorem rst_go2 {f : N} {i : Nat} (h : Lt (rst f 2 i).1 (cutB (f.keys.getD i ⟨#[]⟩) 16)) : rst f 2 (i + 1) = (cutB (f.keys.getD i ⟨#[]⟩) 16, (rst f 2 i).2.1 ++ [cutB (f.keys.getD i ⟨#[]⟩) 16], (rst f 2 i).2.2.1, (rst f 2 i).2.2.2 ++ [clamp (f.kids.getD i 0)]) := by show rstep _ _ _ _ = _; unfold rstep; rw [if_pos h]; simp
theorem cut_nil (m : Nat) : cutB ⟨#[]⟩ m = ⟨#[]⟩ := by unfold cutB; rw [if_neg (by show ¬ m < 0; omega)]
theorem leq_f {a b : ByteArray} (h : Lt b a) : (Op.bytesLess a.toList b.toList || a.toList == b.toList) = false := by
  rw [less_f (fun k => h.asymm k), B.ne_toList h.ne.symm]; rfl
theorem leq_t {a b : ByteArray} (h : ¬ Lt b a) : (Op.bytesLess a.toList b.toList || a.toList == b.toList) = true := by
  rcases Lt.tri a b with k | k | k
  · rw [less_t k]; rfl
  · subst k; simp
  · exact absurd k h
/-- what the loop of 'Right' holds -/
structure RS (Bd G : Nat) (wr : World) (kd : Int) (vk vv vc : Value) (s : St) (vf : Value) (f : N) (g1 g2 : Nat) (o1 o2 : Obj) (w : World) : Prop where
  nb : NB 55 (G + 1) wr G kd vk vv vc s.2.1 s.2.2.1 s.2.2.2
  few : NOwn Bd wr vf f
  two : Two wr g1 g2 o1 o2
  bel : Below Bd w wr
theorem RS.key {Bd G : Nat} {wr w : World} {kd : Int} {vk vv vc : Value} {s : St} {vf : Value} {f : N} {g1 g2 : Nat} {o1 o2 : Obj} {o : Obj} {w' : World} {g cap : Nat} {x : ByteArray} (h : RS Bd G wr kd vk vv vc s vf f g1 g2 o1 o2 w) (hB : Bd ≤ g1) (h1 : g1 < g2) (h2 : g2 < G) (hb : ∀ b, nblk vf b → b < G)
    (own : w'.ownsRow (G + 1) 9 1 (.slice (some ⟨g, 0, none⟩) (s.2.1.length + 1) cap) (s.2.1.length + 1) (s.2.1.map vStr ++ [.string x])) (grow : (wr.alloc o).grownBy w' vk.ownBlock) (lies : vk.ownBlock = some g ∨ g = (wr.alloc o).heap.size) :
    RS Bd G (w'.setCell ⟨G, 1, none⟩ (.slice (some ⟨g, 0, none⟩) (s.2.1.length + 1) cap)) kd (.slice (some ⟨g, 0, none⟩) (s.2.1.length + 1) cap) vv vc (x, s.2.1 ++ [x], s.2.2.1, s.2.2.2) vf f g1 g2 o1 o2 w := by
  have hl := low_step (gN := G) (j := 1) (x := .slice (some ⟨g, 0, none⟩) (s.2.1.length + 1) cap) h.nb.l4 (fun b hb => own_ge h.nb.ok hb) grow
  have hbl := below_step (Bd := Bd) (gN := G) (j := 1) (x := .slice (some ⟨g, 0, none⟩) (s.2.1.length + 1) cap) (by omega) h.nb.l3 h.nb.l4 (fun b hb => own_ge h.nb.ok hb) grow
  exact ⟨h.nb.key own grow lies, h.few.low hl (fun b q => by have := hb b q; omega), h.two.low hl (by omega) (by omega) (by omega) (by omega), h.bel.trans hbl⟩
theorem RS.val {Bd G : Nat} {wr w : World} {kd : Int} {vk vv vc : Value} {s : St} {vf : Value} {f : N} {g1 g2 : Nat} {o1 o2 : Obj} {o : Obj} {w' : World} {g cap : Nat} {x : ByteArray} (h : RS Bd G wr kd vk vv vc s vf f g1 g2 o1 o2 w) (hB : Bd ≤ g1) (h1 : g1 < g2) (h2 : g2 < G) (hb : ∀ b, nblk vf b → b < G)
    (own : w'.ownsRow (G + 1) 9 1 (.slice (some ⟨g, 0, none⟩) (s.2.2.1.length + 1) cap) (s.2.2.1.length + 1) (s.2.2.1.map vStr ++ [.string x])) (grow : (wr.alloc o).grownBy w' vv.ownBlock) (lies : vv.ownBlock = some g ∨ g = (wr.alloc o).heap.size) :
    RS Bd G (w'.setCell ⟨G, 2, none⟩ (.slice (some ⟨g, 0, none⟩) (s.2.2.1.length + 1) cap)) kd vk (.slice (some ⟨g, 0, none⟩) (s.2.2.1.length + 1) cap) vc (s.1, s.2.1, s.2.2.1 ++ [x], s.2.2.2) vf f g1 g2 o1 o2 w := by
  have hl := low_step (gN := G) (j := 2) (x := .slice (some ⟨g, 0, none⟩) (s.2.2.1.length + 1) cap) h.nb.l4 (fun b hb => own_ge h.nb.ov hb) grow
  have hbl := below_step (Bd := Bd) (gN := G) (j := 2) (x := .slice (some ⟨g, 0, none⟩) (s.2.2.1.length + 1) cap) (by omega) h.nb.l3 h.nb.l4 (fun b hb => own_ge h.nb.ov hb) grow
  exact ⟨h.nb.val own grow lies, h.few.low hl (fun b q => by have := hb b q; omega), h.two.low hl (by omega) (by omega) (by omega) (by omega), h.bel.trans hbl⟩
theorem RS.kid {Bd G : Nat} {wr w : World} {kd : Int} {vk vv vc : Value} {s : St} {vf : Value} {f : N} {g1 g2 : Nat} {o1 o2 : Obj} {o : Obj} {w' : World} {g cap : Nat} {x : Int} (h : RS Bd G wr kd vk vv vc s vf f g1 g2 o1 o2 w) (hB : Bd ≤ g1) (h1 : g1 < g2) (h2 : g2 < G) (hb : ∀ b, nblk vf b → b < G)
    (own : w'.ownsRow (G + 1) 3 1 (.slice (some ⟨g, 0, none⟩) (s.2.2.2.length + 1) cap) (s.2.2.2.length + 1) (s.2.2.2.map vInt ++ [.int .i64 x])) (grow : (wr.alloc o).grownBy w' vc.ownBlock) (lies : vc.ownBlock = some g ∨ g = (wr.alloc o).heap.size) :
    RS Bd G (w'.setCell ⟨G, 3, none⟩ (.slice (some ⟨g, 0, none⟩) (s.2.2.2.length + 1) cap)) kd vk vv (.slice (some ⟨g, 0, none⟩) (s.2.2.2.length + 1) cap) (s.1, s.2.1, s.2.2.1, s.2.2.2 ++ [x]) vf f g1 g2 o1 o2 w := by
  have hl := low_step (gN := G) (j := 3) (x := .slice (some ⟨g, 0, none⟩) (s.2.2.2.length + 1) cap) h.nb.l4 (fun b hb => own_ge h.nb.oc hb) grow
  have hbl := below_step (Bd := Bd) (gN := G) (j := 3) (x := .slice (some ⟨g, 0, none⟩) (s.2.2.2.length + 1) cap) (by omega) h.nb.l3 h.nb.l4 (fun b hb => own_ge h.nb.oc hb) grow
  exact ⟨h.nb.kid own grow lies, h.few.low hl (fun b q => by have := hb b q; omega), h.two.low hl (by omega) (by omega) (by omega) (by omega), h.bel.trans hbl⟩
theorem RS.one {Bd G : Nat} {wr w : World} {kd : Int} {vk vv vc : Value} {s : St} {vf : Value} {f : N} {g1 g2 : Nat} {o1 o2 : Obj} {k' : Int} (h : RS Bd G wr kd vk vv vc s vf f g1 g2 o1 o2 w) (hB : Bd ≤ g1) (h1 : g1 < g2) (h2 : g2 < G) (hb : ∀ b, nblk vf b → b < G) :
    RS Bd G (wr.setCell ⟨G, 0, none⟩ (.int .i64 k')) k' vk vv vc s vf f g1 g2 o1 o2 w := by
  have hl : Low (G + 1) G wr (wr.setCell ⟨G, 0, none⟩ (.int .i64 k')) := fun g _ hg => Below.heap_setCell wr ⟨G, 0, none⟩ _ g hg
  exact ⟨h.nb.kind, h.few.low hl (fun b q => by have := hb b q; omega), h.two.low hl (by omega) (by omega) (by omega) (by omega), h.bel.setCell (p := ⟨G, 0, none⟩) (by show Bd ≤ G; omega) _⟩
theorem nown_nat {M : Nat} {w : World} {F1 F2 F3 : Option Addr} {f1 f2 f3 : Nat} {k : Value} {f : N} {a b c : Nat} (h : NOwn M w (.agg #[k, .slice F1 a f1, .slice F2 b f2, .slice F3 c f3]) f) : NAt w F1 F2 F3 f := by
  obtain ⟨vk, vv, vc, e, h1, h2, h3, _⟩ := h
  injection e with e
  injection e with e
  injection e with e0 e
  injection e with e1 e
  injection e with e2 e
  injection e with e3 e
  subst e1 e2 e3
  exact ⟨own_at' h1, own_at' h2, own_at' h3⟩
set_option maxRecDepth 100000 in
set_option maxHeartbeats 8000000 in
theorem right_any (A1 A2 A3 : Option Addr) (c1 c2 c3 : Nat) (n : N) (w : World) (h : NAt w A1 A2 A3 n) (hk : n.keys.length ≤ maxLen) (hv : n.vals.length ≤ maxLen) (hc : n.kids.length ≤ maxLen) :
    Calls Try.prog 32 #[nv A1 A2 A3 c1 c2 c3 n] w fun e w' => ∃ v, e = .returned v ∧ NOwn w.heap.size w' v (rightN n) ∧ Below w.heap.size w w' := by
  obtain ⟨i9, hi9, hz90, hz91, hz92⟩ := info_parts info9
  obtain ⟨i3, hi3, hz30, hz31, hz32⟩ := info_parts info3
  have CF := Lib.hid (fun W (q : Below w.heap.size w W) => few_any A1 A2 A3 c1 c2 c3 n W (h.below q) hk hv hc)
  have C16 := Lib.hid (show ∀ s W, Calls Try.prog 14 #[.string s, .int .i64 16] W (fun e w' => e = .returned (.string (cutB s 16)) ∧ W = w') from fun s W => cut_any s 16 W (by omega))
  have C32 := Lib.hid (show ∀ s W, Calls Try.prog 14 #[.string s, .int .i64 32] W (fun e w' => e = .returned (.string (cutB s 32)) ∧ W = w') from fun s W => cut_any s 32 W (by omega))
  unfold nv at *
  have bA := below1 w (.cells #[.int .i64 n.kind, .slice A1 n.keys.length c1, .slice A2 n.vals.length c2, .slice A3 n.kids.length c3] 55)
  have bB := below1 (w.alloc (.cells #[.int .i64 n.kind, .slice A1 n.keys.length c1, .slice A2 n.vals.length c2, .slice A3 n.kids.length c3] 55)) (.cells #[.int .i64 0, .slice none 0 0, .slice none 0 0, .slice none 0 0] 55)
  have B0 := Lib.hid (bA.trans (bB.mono bA.size))
  have T0 : Hid (Two ((w.alloc (.cells #[.int .i64 n.kind, .slice A1 n.keys.length c1, .slice A2 n.vals.length c2, .slice A3 n.kids.length c3] 55)).alloc (.cells #[.int .i64 0, .slice none 0 0, .slice none 0 0, .slice none 0 0] 55)) w.heap.size (w.heap.size + 1) (.cells #[.int .i64 n.kind, .slice A1 n.keys.length c1, .slice A2 n.vals.length c2, .slice A3 n.kids.length c3] 55) (.cells #[.int .i64 0, .slice none 0 0, .slice none 0 0, .slice none 0 0] 55)) := ⟨hp_old _ (heap_last w _ _ rfl), heap_last _ _ _ (by simp)⟩
  have S0 : Hid (((w.alloc (.cells #[.int .i64 n.kind, .slice A1 n.keys.length c1, .slice A2 n.vals.length c2, .slice A3 n.kids.length c3] 55)).alloc (.cells #[.int .i64 0, .slice none 0 0, .slice none 0 0, .slice none 0 0] 55)).heap.size = w.heap.size + 2) := by rw [Hid]; simp
  clear bA bB h hk hv hc
  have hlen := fewN_len n
  have HRI := Lib.hid (fun kd i => ri (fewN n) kd i)
  have HRN : Hid (rightN n = if (rst (fewN n) (kindOf n.kind) (fewN n).keys.length).2.1.length = 0 then ⟨1, (rst (fewN n) (kindOf n.kind) (fewN n).keys.length).2.1, (rst (fewN n) (kindOf n.kind) (fewN n).keys.length).2.2.1, (rst (fewN n) (kindOf n.kind) (fewN n).keys.length).2.2.2⟩ else ⟨kindOf n.kind, (rst (fewN n) (kindOf n.kind) (fewN n).keys.length).2.1, (rst (fewN n) (kindOf n.kind) (fewN n).keys.length).2.2.1, (rst (fewN n) (kindOf n.kind) (fewN n).keys.length).2.2.2⟩) := rfl
  have hkd := kindOf_or n.kind
  have hkn : 1 + bits .and .i64 n.kind 1 = kindOf n.kind := rfl
  go_enter Try.func32, Try.ntmps32
  go_upto_region 1 with fail
  generalize (w.alloc (.cells #[.int .i64 n.kind, .slice A1 n.keys.length c1, .slice A2 n.vals.length c2, .slice A3 n.kids.length c3] 55)).alloc (.cells #[.int .i64 0, .slice none 0 0, .slice none 0 0, .slice none 0 0] 55) = W at *
  obtain ⟨⟨x0, x1, x2, x3⟩, y0, y1, y2, y3⟩ := row4 T0.out.a
  go_upto_region 2 with (go_at_call 28; ((with_reducible refine (CF.out _ B0.out).mono ?_); rintro e w1 ⟨vf, rfl, ho1, hb1⟩; have B1 := Lib.hid (B0.out.trans (hb1.mono B0.out.size)); have T1 := Lib.hid (T0.out.below hb1); have O1 := Lib.hid ho1; obtain ⟨F1, F2, F3, f1, f2, f3, hvf, _⟩ := nown_out ho1; unfold nv at hvf; subst hvf; clear ho1 hb1; obtain ⟨⟨x0, x1, x2, x3⟩, y0, y1, y2, y3⟩ := row4 T1.out.a))
  have T2 : Hid (Two ((((w1.setCell ⟨w.heap.size, 0, none⟩ (.int .i64 n.kind)).setCell ⟨w.heap.size, 1, none⟩ (.slice F1 (fewN n).keys.length f1)).setCell ⟨w.heap.size, 2, none⟩ (.slice F2 (fewN n).vals.length f2)).setCell ⟨w.heap.size, 3, none⟩ (.slice F3 (fewN n).kids.length f3)) w.heap.size (w.heap.size + 1) (.cells #[.int .i64 n.kind, .slice F1 (fewN n).keys.length f1, .slice F2 (fewN n).vals.length f2, .slice F3 (fewN n).kids.length f3] 55) (.cells #[.int .i64 0, .slice none 0 0, .slice none 0 0, .slice none 0 0] 55)) := ⟨set4 T1.out.a _ _ _ _, put4_other T1.out.b (by omega)⟩
  have O2 : Hid (NOwn w.heap.size ((((w1.setCell ⟨w.heap.size, 0, none⟩ (.int .i64 n.kind)).setCell ⟨w.heap.size, 1, none⟩ (.slice F1 (fewN n).keys.length f1)).setCell ⟨w.heap.size, 2, none⟩ (.slice F2 (fewN n).vals.length f2)).setCell ⟨w.heap.size, 3, none⟩ (.slice F3 (fewN n).kids.length f3)) (.agg #[.int .i64 n.kind, .slice F1 (fewN n).keys.length f1, .slice F2 (fewN n).vals.length f2, .slice F3 (fewN n).kids.length f3]) (fewN n)) := nown_mono (nown_put O1.out (by have := S0.out; omega)) (by have := S0.out; omega)
  have B2 : Hid (Below w.heap.size w ((((w1.setCell ⟨w.heap.size, 0, none⟩ (.int .i64 n.kind)).setCell ⟨w.heap.size, 1, none⟩ (.slice F1 (fewN n).keys.length f1)).setCell ⟨w.heap.size, 2, none⟩ (.slice F2 (fewN n).vals.length f2)).setCell ⟨w.heap.size, 3, none⟩ (.slice F3 (fewN n).kids.length f3))) := below_put4 B1.out (Nat.le_refl _)
  have hfk : (fewN n).kind = n.kind := rfl
  clear x0 x1 x2 x3 y0 y1 y2 y3 B0 T0 S0 B1 T1 O1 CF
  simp only [hfk]
  generalize (((w1.setCell ⟨w.heap.size, 0, none⟩ (.int .i64 n.kind)).setCell ⟨w.heap.size, 1, none⟩ (.slice F1 (fewN n).keys.length f1)).setCell ⟨w.heap.size, 2, none⟩ (.slice F2 (fewN n).vals.length f2)).setCell ⟨w.heap.size, 3, none⟩ (.slice F3 (fewN n).kids.length f3) = W2 at *
  obtain ⟨⟨x0, x1, x2, x3⟩, _⟩ := row4 T2.out.a
  have hkw : IntKind.i64.wrap (kindOf n.kind) = kindOf n.kind := IntWalk.i64_in _ (by omega)
  have lG := blk_lt T2.out.b
  have bN := below1 W2 (.cells #[.int .i64 (kindOf n.kind), .slice none 0 0, .slice none 0 0, .slice none 0 0] 55)
  have HB : Hid (∀ b, nblk (.agg #[.int .i64 n.kind, .slice F1 (fewN n).keys.length f1, .slice F2 (fewN n).vals.length f2, .slice F3 (fewN n).kids.length f3]) b → b < W2.heap.size) := fun b hb => (nblk_lt O2.out hb).2
  have RS0 : Hid (RS w.heap.size W2.heap.size (W2.alloc (.cells #[.int .i64 (kindOf n.kind), .slice none 0 0, .slice none 0 0, .slice none 0 0] 55)) (kindOf n.kind) (.slice none 0 0) (.slice none 0 0) (.slice none 0 0) (rst (fewN n) (kindOf n.kind) 0) (.agg #[.int .i64 n.kind, .slice F1 (fewN n).keys.length f1, .slice F2 (fewN n).vals.length f2, .slice F3 (fewN n).kids.length f3]) (fewN n) w.heap.size (w.heap.size + 1) (.cells #[.int .i64 n.kind, .slice F1 (fewN n).keys.length f1, .slice F2 (fewN n).vals.length f2, .slice F3 (fewN n).kids.length f3] 55) (.cells #[.int .i64 0, .slice none 0 0, .slice none 0 0, .slice none 0 0] 55) w) :=
    ⟨NB.new _ _ _ _ _ (heap_last _ _ _ rfl) (by omega) (by simp), nown_below O2.out bN, T2.out.below bN, B2.out.trans (bN.mono B2.out.size)⟩
  go_upto_region 4 with fail
  generalize W2.alloc (.cells #[.int .i64 (kindOf n.kind), .slice none 0 0, .slice none 0 0, .slice none 0 0] 55) = W3 at *
  generalize W2.heap.size = G at *
  have hG2 : w.heap.size + 1 < G := lG
  clear x0 x1 x2 x3 T2 O2 B2 bN lG hkn hkw
  obtain ⟨⟨x0, x1, x2, x3⟩, _⟩ := row4 RS0.out.two.a
  obtain ⟨kd, hkdd⟩ : ∃ kd, kindOf n.kind = kd := ⟨_, rfl⟩
  rw [hkdd] at HRN RS0 hkd
  rw [hkdd]
  clear hkdd
  go_wp2
  go_loopw [4, 19] (fun t4 t19 wr => ∃ (i : Nat) (vk vv vc : Value), t19 = .int .i64 (i : Int) ∧ i ≤ (fewN n).keys.length ∧ t4 = .string (rst (fewN n) kd i).1 ∧ RS w.heap.size G wr kd vk vv vc (rst (fewN n) kd i) (.agg #[.int .i64 n.kind, .slice F1 (fewN n).keys.length f1, .slice F2 (fewN n).vals.length f2, .slice F3 (fewN n).kids.length f3]) (fewN n) w.heap.size (w.heap.size + 1) (.cells #[.int .i64 n.kind, .slice F1 (fewN n).keys.length f1, .slice F2 (fewN n).vals.length f2, .slice F3 (fewN n).kids.length f3] 55) (.cells #[.int .i64 0, .slice none 0 0, .slice none 0 0, .slice none 0 0] 55) w) (fun _ t19 _ => (fewN n).keys.length - (intOf t19).toNat)
  case atStart => exact ⟨0, _, _, _, rfl, Nat.zero_le _, rfl, RS0.out⟩
  case round =>
    obtain ⟨i, vk, vv, vc, rfl, hi, rfl, hrs⟩ := hrel
    clear RS0 x0 x1 x2 x3
    have R3 := Lib.hid hrs
    have hna := nown_nat hrs.few
    have hle := (HRI.out kd i).le
    clear hrs
    obtain ⟨⟨x0, x1, x2, x3⟩, _⟩ := row4 R3.out.two.a
    obtain ⟨⟨m0, m1, m2, m3⟩, n0, n1, n2, n3⟩ := row4 R3.out.nb.rN
    by_cases hlt : i < (fewN n).keys.length
    · have hI : (i : Int) < ((fewN n).keys.length : Int) := by omega
      obtain ⟨b, off, hA, hb, hcc⟩ := hna.k (by omega)
      have hgk : (fewN n).keys.getD i ⟨#[]⟩ = (fewN n).keys[i] := by rw [List.getD_eq_getElem?_getD, List.getElem?_eq_getElem hlt]; rfl
      have c0 : wr.cell? ⟨b, off + i, none⟩ = some (.string ((fewN n).keys.getD i ⟨#[]⟩)) := by rw [hgk]; exact hcc i hlt
      clear hcc hgk
      have CX := Lib.hid (C16.out ((fewN n).keys.getD i ⟨#[]⟩))
      subst hA
      by_cases hL : Lt (rst (fewN n) kd i).1 (cutB ((fewN n).keys.getD i ⟨#[]⟩) 16)
      · have hle1 := leq_f hL
        rcases hkd with rfl | rfl
        · have hgo := rst_go1 hL
          have hks : (rst (fewN n) 1 (i + 1)) = rst (fewN n) 1 (i + 1) := rfl
          generalize rst (fewN n) 1 i = s at *
          generalize (fewN n).keys.getD i ⟨#[]⟩ = kk at *
          generalize cutB kk 16 = ck at *
          go_upto_region 11 with (first
            | (go_at_call 14; ((with_reducible refine (CX.out _).mono ?_); rintro e w' ⟨rfl, rfl⟩))
            | (at_builtin; refine wpList_append_lies _ rfl _ _ 53 rfl (G + 1) 9 i9 _ 1 16 Try.underlying53 hi9 hz90 hz91 hz92 rfl (by decide) _ _ _ rfl (R3.out.nb.ok.alloc _) ⟨wr.heap.size, 0, none⟩ 1 1 [.string ck] rfl rfl (cell_one_new _ _ _) (one_str _) (by omega) (by unfold maxLen; omega) (by omega) (Nat.le_trans R3.out.nb.l4 (by simp)) _ rfl ?_; intro gg cap w5 own5 grow5 lies5 lt5; have R5 := Lib.hid (R3.out.key (Nat.le_refl _) (by omega) hG2 HB.out own5 grow5 lies5); obtain ⟨⟨k0, k1, k2, k3⟩, q0, q1, q2, q3⟩ := row4 (blk_grow R3.out.nb.rN grow5 (fun b hb => by have := own_ge R3.out.nb.ok hb; omega)); clear own5 grow5 lies5 lt5))
          generalize w5.setCell ⟨G, 1, none⟩ (.slice (some ⟨gg, 0, none⟩) (s.2.1.length + 1) cap) = W5 at *
          clear k0 k1 k2 k3 q0 q1 q2 q3 x0 x1 x2 x3 m0 m1 m2 m3 n0 n1 n2 n3 R3 c0 CX hna hks
          have hna5 := nown_nat R5.out.few
          obtain ⟨⟨x0, x1, x2, x3⟩, _⟩ := row4 R5.out.two.a
          obtain ⟨⟨m0, m1, m2, m3⟩, n0, n1, n2, n3⟩ := row4 R5.out.nb.rN
          have R4 := R5
          clear R5
          have OV := R4.out.nb.ov
          dsimp only at OV
          by_cases hv : i < (fewN n).vals.length
          · have hI2 : (i : Int) < ((fewN n).vals.length : Int) := by omega
            obtain ⟨b', off', hA', hb', hcc'⟩ := hna5.v (by omega)
            have hgv : (fewN n).vals.getD i ⟨#[]⟩ = (fewN n).vals[i] := by rw [List.getD_eq_getElem?_getD, List.getElem?_eq_getElem hv]; rfl
            have c1 : W5.cell? ⟨b', off' + i, none⟩ = some (.string ((fewN n).vals.getD i ⟨#[]⟩)) := by rw [hgv]; exact hcc' i hv
            clear hcc' hgv hna5
            subst hA'
            have CX := Lib.hid (C32.out ((fewN n).vals.getD i ⟨#[]⟩))
            generalize (fewN n).vals.getD i ⟨#[]⟩ = vx at *
            generalize cutB vx 32 = cv at *
            go_upto_region 20 with (first
              | (go_at_call 14; ((with_reducible refine (CX.out _).mono ?_); rintro e w' ⟨rfl, rfl⟩))
              | (at_builtin; refine wpList_append_lies _ rfl _ _ 53 rfl (G + 1) 9 i9 _ 1 16 Try.underlying53 hi9 hz90 hz91 hz92 rfl (by decide) _ _ _ rfl (OV.alloc _) ⟨W5.heap.size, 0, none⟩ 1 1 [.string cv] rfl rfl (cell_one_new _ _ _) (one_str _) (by omega) (by unfold maxLen; omega) (by omega) (Nat.le_trans R4.out.nb.l4 (by simp)) _ rfl ?_; intro gg cap w5 own5 grow5 lies5 lt5; have R5 := Lib.hid (R4.out.val (Nat.le_refl _) (by omega) hG2 HB.out own5 grow5 lies5); obtain ⟨⟨k0, k1, k2, k3⟩, q0, q1, q2, q3⟩ := row4 (blk_grow R4.out.nb.rN grow5 (fun b hb => by have := own_ge R4.out.nb.ov hb; omega)); clear own5 grow5 lies5 lt5))
            go_wp2
            go_roundw
            case rel => exact ⟨i + 1, _, _, _, by go_num, by omega, by rw [hgo], by rw [hgo]; exact R5.out⟩
            case measure => simp [intOf]; omega
          · have hI2 : ¬ (i : Int) < ((fewN n).vals.length : Int) := by omega
            have hgv : (fewN n).vals.getD i ⟨#[]⟩ = ⟨#[]⟩ := by rw [List.getD_eq_getElem?_getD, List.getElem?_eq_none (by omega)]; rfl
            rw [hgv, cut_nil] at hgo
            clear hgv hna5
            have CX := Lib.hid (C32.out ⟨#[]⟩)
            go_upto_region 20 with (first
              | (go_at_call 14; ((with_reducible refine (CX.out _).mono ?_); rintro e w' ⟨rfl, rfl⟩))
              | (at_builtin; refine wpList_append_lies _ rfl _ _ 53 rfl (G + 1) 9 i9 _ 1 16 Try.underlying53 hi9 hz90 hz91 hz92 rfl (by decide) _ _ _ rfl (OV.alloc _) ⟨W5.heap.size, 0, none⟩ 1 1 [.string ⟨#[]⟩] rfl rfl (cell_one_new _ _ _) (one_str _) (by omega) (by unfold maxLen; omega) (by omega) (Nat.le_trans R4.out.nb.l4 (by simp)) _ rfl ?_; intro gg cap w5 own5 grow5 lies5 lt5; have R5 := Lib.hid (R4.out.val (Nat.le_refl _) (by omega) hG2 HB.out own5 grow5 lies5); obtain ⟨⟨k0, k1, k2, k3⟩, q0, q1, q2, q3⟩ := row4 (blk_grow R4.out.nb.rN grow5 (fun b hb => by have := own_ge R4.out.nb.ov hb; omega)); clear own5 grow5 lies5 lt5))
            go_wp2
            go_roundw
            case rel => exact ⟨i + 1, _, _, _, by go_num, by omega, by rw [hgo], by rw [hgo]; exact R5.out⟩
            case measure => simp [intOf]; omega
        · have hgo := rst_go2 hL
          have hks : (rst (fewN n) 2 (i + 1)) = rst (fewN n) 2 (i + 1) := rfl
          generalize rst (fewN n) 2 i = s at *
          generalize (fewN n).keys.getD i ⟨#[]⟩ = kk at *
          generalize cutB kk 16 = ck at *
          go_upto_region 11 with (first
            | (go_at_call 14; ((with_reducible refine (CX.out _).mono ?_); rintro e w' ⟨rfl, rfl⟩))
            | (at_builtin; refine wpList_append_lies _ rfl _ _ 53 rfl (G + 1) 9 i9 _ 1 16 Try.underlying53 hi9 hz90 hz91 hz92 rfl (by decide) _ _ _ rfl (R3.out.nb.ok.alloc _) ⟨wr.heap.size, 0, none⟩ 1 1 [.string ck] rfl rfl (cell_one_new _ _ _) (one_str _) (by omega) (by unfold maxLen; omega) (by omega) (Nat.le_trans R3.out.nb.l4 (by simp)) _ rfl ?_; intro gg cap w5 own5 grow5 lies5 lt5; have R5 := Lib.hid (R3.out.key (Nat.le_refl _) (by omega) hG2 HB.out own5 grow5 lies5); obtain ⟨⟨k0, k1, k2, k3⟩, q0, q1, q2, q3⟩ := row4 (blk_grow R3.out.nb.rN grow5 (fun b hb => by have := own_ge R3.out.nb.ok hb; omega)); clear own5 grow5 lies5 lt5))
          generalize w5.setCell ⟨G, 1, none⟩ (.slice (some ⟨gg, 0, none⟩) (s.2.1.length + 1) cap) = W5 at *
          clear k0 k1 k2 k3 q0 q1 q2 q3 x0 x1 x2 x3 m0 m1 m2 m3 n0 n1 n2 n3 R3 c0 CX hna hks
          have hna5 := nown_nat R5.out.few
          obtain ⟨⟨x0, x1, x2, x3⟩, _⟩ := row4 R5.out.two.a
          obtain ⟨⟨m0, m1, m2, m3⟩, n0, n1, n2, n3⟩ := row4 R5.out.nb.rN
          have R4 := R5
          clear R5
          have OC := R4.out.nb.oc
          dsimp only at OC
          have CX := Lib.hid (C32.out ⟨#[]⟩)
          by_cases hv : i < (fewN n).kids.length
          · have hI2 : (i : Int) < ((fewN n).kids.length : Int) := by omega
            obtain ⟨b', off', hA', hb', hcc'⟩ := hna5.c (by omega)
            have hgv : (fewN n).kids.getD i 0 = (fewN n).kids[i] := by rw [List.getD_eq_getElem?_getD, List.getElem?_eq_getElem hv]; rfl
            have c1 : W5.cell? ⟨b', off' + i, none⟩ = some (.int .i64 ((fewN n).kids.getD i 0)) := by rw [hgv]; exact hcc' i hv
            clear hcc' hgv hna5
            subst hA'
            generalize (fewN n).kids.getD i 0 = px at *
            go_upto_region 19 with fail
            rw [show clamp px = max 0 (min px 2147483647) from rfl] at hgo
            generalize max 0 (min px 2147483647) = cp at *
            go_upto_region 20 with (first
              | (go_at_call 14; ((with_reducible refine (CX.out _).mono ?_); rintro e w' ⟨rfl, rfl⟩))
              | (at_builtin; refine wpList_append_lies _ rfl _ _ 34 rfl (G + 1) 3 i3 _ 1 8 Try.underlying34 hi3 hz30 hz31 hz32 rfl (by decide) _ _ _ rfl (OC.alloc _) ⟨W5.heap.size, 0, none⟩ 1 1 [.int .i64 cp] rfl rfl (cell_one_new _ _ _) (one_int _) (by omega) (by unfold maxLen; omega) (by omega) (Nat.le_trans R4.out.nb.l4 (by simp)) _ rfl ?_; intro gg cap w5 own5 grow5 lies5 lt5; have R5 := Lib.hid (R4.out.kid (Nat.le_refl _) (by omega) hG2 HB.out own5 grow5 lies5); obtain ⟨⟨k0, k1, k2, k3⟩, q0, q1, q2, q3⟩ := row4 (blk_grow R4.out.nb.rN grow5 (fun b hb => by have := own_ge R4.out.nb.oc hb; omega)); clear own5 grow5 lies5 lt5))
            go_wp2
            go_roundw
            case rel => exact ⟨i + 1, _, _, _, by go_num, by omega, by rw [hgo], by rw [hgo]; exact R5.out⟩
            case measure => simp [intOf]; omega
          · have hI2 : ¬ (i : Int) < ((fewN n).kids.length : Int) := by omega
            have hgv : (fewN n).kids.getD i 0 = 0 := by rw [List.getD_eq_getElem?_getD, List.getElem?_eq_none (by omega)]; rfl
            rw [hgv, show clamp 0 = 0 from rfl] at hgo
            clear hgv hna5
            go_upto_region 20 with (first
              | (go_at_call 14; ((with_reducible refine (CX.out _).mono ?_); rintro e w' ⟨rfl, rfl⟩))
              | (at_builtin; refine wpList_append_lies _ rfl _ _ 34 rfl (G + 1) 3 i3 _ 1 8 Try.underlying34 hi3 hz30 hz31 hz32 rfl (by decide) _ _ _ rfl (OC.alloc _) ⟨W5.heap.size, 0, none⟩ 1 1 [.int .i64 0] rfl rfl (cell_one_new _ _ _) (one_int _) (by omega) (by unfold maxLen; omega) (by omega) (Nat.le_trans R4.out.nb.l4 (by simp)) _ rfl ?_; intro gg cap w5 own5 grow5 lies5 lt5; have R5 := Lib.hid (R4.out.kid (Nat.le_refl _) (by omega) hG2 HB.out own5 grow5 lies5); obtain ⟨⟨k0, k1, k2, k3⟩, q0, q1, q2, q3⟩ := row4 (blk_grow R4.out.nb.rN grow5 (fun b hb => by have := own_ge R4.out.nb.oc hb; omega)); clear own5 grow5 lies5 lt5))
            go_wp2
            go_roundw
            case rel => exact ⟨i + 1, _, _, _, by go_num, by omega, by rw [hgo], by rw [hgo]; exact R5.out⟩
            case measure => simp [intOf]; omega
      · have hle1 := leq_t hL
        have hgo := rst_skip hL
        generalize (fewN n).keys.getD i ⟨#[]⟩ = kk at *
        generalize cutB kk 16 = ck at *
        generalize rst (fewN n) kd i = s at *
        go_wp2_with (go_at_call 14; ((with_reducible refine (CX.out _).mono ?_); rintro e w' ⟨rfl, rfl⟩))
        go_roundw
        case rel => exact ⟨i + 1, _, _, _, by go_num, by omega, by rw [hgo], by rw [hgo]; exact R3.out⟩
        case measure => simp [intOf]; omega
    · have hI : ¬ (i : Int) < ((fewN n).keys.length : Int) := by omega
      have hie : i = (fewN n).keys.length := by omega
      rw [← hie] at HRN
      generalize rst (fewN n) kd i = s at *
      go_upto_region 21 with fail
      obtain ⟨vK, aK, hvK, _⟩ := own_at R3.out.nb.ok
      obtain ⟨vV, aV, hvV, _⟩ := own_at R3.out.nb.ov
      obtain ⟨vC, aC, hvC, _⟩ := own_at R3.out.nb.oc
      subst hvK hvV hvC
      clear x0 x1 x2 x3
      by_cases h0 : s.2.1.length = 0
      · rw [if_pos h0] at HRN
        have R4 : Hid (RS w.heap.size G (wr.setCell ⟨G, 0, none⟩ (.int .i64 1)) 1 (.slice vK s.2.1.length aK) (.slice vV s.2.2.1.length aV) (.slice vC s.2.2.2.length aC) s (.agg #[.int .i64 n.kind, .slice F1 (fewN n).keys.length f1, .slice F2 (fewN n).vals.length f2, .slice F3 (fewN n).kids.length f3]) (fewN n) w.heap.size (w.heap.size + 1) (.cells #[.int .i64 n.kind, .slice F1 (fewN n).keys.length f1, .slice F2 (fewN n).vals.length f2, .slice F3 (fewN n).kids.length f3] 55) (.cells #[.int .i64 0, .slice none 0 0, .slice none 0 0, .slice none 0 0] 55) w) := R3.out.one (Nat.le_refl _) (by omega) hG2 HB.out
        have hz : ((s.2.1.length : Nat) : Int) = 0 := by omega
        generalize h1 : s.2.1.length = L1 at *
        generalize h2 : s.2.2.1.length = L2 at *
        generalize h3 : s.2.2.2.length = L3 at *
        subst h0
        go_upto_region 23 with fail
        generalize wr.setCell ⟨G, 0, none⟩ (.int .i64 1) = W6 at *
        clear m0 m1 m2 m3 n0 n1 n2 n3 R3
        obtain ⟨⟨z0, z1, z2, z3⟩, p0, p1, p2, p3⟩ := row4 R4.out.two.b
        obtain ⟨⟨m0, m1, m2, m3⟩, f0, f1, f2, f3⟩ := row4 R4.out.nb.rN
        go_wp2
        (try simp only [Exit.inBlock, Exit.then])
        have r := set4 R4.out.two.b (.int .i64 1) (.slice vK 0 aK) (.slice vV L2 aV) (.slice vC L3 aC)
        refine bodyPost_ret (results_cells rfl _ _ (w.heap.size + 1) [.int .i64 1, .slice vK 0 aK, .slice vV L2 aV, .slice vC L3 aC] _ rfl ?_ Try.underlying55 rnode_info) rfl ?_
        · refine four ⟨?_, ?_, ?_, ?_⟩ <;> go_simp
        · have O : NOwn (G + 1) W6 (.agg #[.int .i64 1, .slice vK 0 aK, .slice vV L2 aV, .slice vC L3 aC]) (rightN n) := by rw [HRN.out]; exact ⟨_, _, _, rfl, R4.out.nb.ok, R4.out.nb.ov, R4.out.nb.oc, R4.out.nb.n1, R4.out.nb.n2, R4.out.nb.n3⟩
          refine ⟨_, rfl, ?_, ?_⟩
          · have := nown_mono (nown_put (g := w.heap.size + 1) (a := .int .i64 1) (b := .slice vK 0 aK) (c := .slice vV L2 aV) (d := .slice vC L3 aC) O (by omega)) (show w.heap.size ≤ G + 1 by omega)
            simpa using this
          · repeat (refine Below.setCell ?_ (by simp) _)
            exact R4.out.bel
      · rw [if_neg h0] at HRN
        have R4 := R3
        clear R3
        have hz : ¬ ((s.2.1.length : Nat) : Int) = 0 := by omega
        generalize h1 : s.2.1.length = L1 at *
        generalize h2 : s.2.2.1.length = L2 at *
        generalize h3 : s.2.2.2.length = L3 at *
        go_upto_region 23 with fail
        generalize wr = W6 at *
        clear m0 m1 m2 m3 n0 n1 n2 n3
        obtain ⟨⟨z0, z1, z2, z3⟩, p0, p1, p2, p3⟩ := row4 R4.out.two.b
        obtain ⟨⟨m0, m1, m2, m3⟩, f0, f1, f2, f3⟩ := row4 R4.out.nb.rN
        go_wp2
        (try simp only [Exit.inBlock, Exit.then])
        have r := set4 R4.out.two.b (.int .i64 kd) (.slice vK L1 aK) (.slice vV L2 aV) (.slice vC L3 aC)
        refine bodyPost_ret (results_cells rfl _ _ (w.heap.size + 1) [.int .i64 kd, .slice vK L1 aK, .slice vV L2 aV, .slice vC L3 aC] _ rfl ?_ Try.underlying55 rnode_info) rfl ?_
        · refine four ⟨?_, ?_, ?_, ?_⟩ <;> go_simp
        · have O : NOwn (G + 1) W6 (.agg #[.int .i64 kd, .slice vK L1 aK, .slice vV L2 aV, .slice vC L3 aC]) (rightN n) := by rw [HRN.out]; exact ⟨_, _, _, rfl, R4.out.nb.ok, R4.out.nb.ov, R4.out.nb.oc, R4.out.nb.n1, R4.out.nb.n2, R4.out.nb.n3⟩
          refine ⟨_, rfl, ?_, ?_⟩
          · have := nown_mono (nown_put (g := w.heap.size + 1) (a := .int .i64 kd) (b := .slice vK L1 aK) (c := .slice vV L2 aV) (d := .slice vC L3 aC) O (by omega)) (show w.heap.size ≤ G + 1 by omega)
            simpa using this
          · repeat (refine Below.setCell ?_ (by simp) _)
            exact R4.out.bel
end Nod
end Go.Proofs.Ytjikioiejdfodaa
