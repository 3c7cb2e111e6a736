/-
  slices.Grow of nothing, slices.Concat of two; Node: Join.
-/
import Derived.Test.YtjikioiejdfodaaNodeSplit
import Derived.Test.YtjikioiejdfodaaShelfX
namespace Go.Proofs.Ytjikioiejdfodaa
open Go.RowKit
namespace Nod
open B V
theorem size_zeros (cs : Array Value) (k : Nat) : (Builtin.zeroCells cs k).size = k * cs.size := by
  unfold Builtin.zeroCells
  simp

theorem grow_growS (n : Nat) (w : World) (hn : n ≤ 2000000) : Calls Try.prog 98 #[.slice none 0 0, .int .i64 (n : Int)] w fun e w' => ∃ v, e = .returned v ∧ w'.ownsRow w.heap.size 9 1 v 0 [] ∧ Below w.heap.size w w' := by
  obtain ⟨i0, hi0, hz0, hz1, hz2⟩ := info_parts info9
  by_cases h0 : n = 0
  · subst h0
    exact (Any8.slices_Grow_room Try.growS none 0 0 0 w (Nat.le_refl _) (by omega) (by omega) (by omega)).mono fun e w' ⟨he, hw⟩ => by subst hw; exact ⟨_, he, World.ownsRow_nil _ _ _ _, Below.refl _ _⟩
  · refine (Any8.slices_Grow_grow Try.growS i0 _ hi0 hz0 (by omega) none 0 0 n [] w (Nat.le_refl _) (by omega) (by rw [hz2]; omega) (by omega) (by simp) (fun _ => rfl) (fun a ha => by cases ha)).mono fun e w' ⟨he, hw⟩ => ?_
    subst hw
    have c1 := grownCap_ge w (0 + n) 0 (Try.growS_ren.t 25)
    have c2 := grownCap_le_maxLen w (0 + n) 0 (Try.growS_ren.t 25) (by unfold maxLen; omega)
    refine ⟨_, he, ⟨rfl, .inr ⟨w.heap.size, _, _, rfl, Nat.le_refl _, heap_last w.drew _ _ rfl, by omega, c2, ?_, by simp⟩⟩, ?_⟩
    · simp [size_zeros]
      have hz : (Value.cells (.string { data := #[] })).size = 1 := rfl
      rw [Nat.zero_add] at c1
      try rw [hz]
      omega
    · have h := (Below.refl w.heap.size w.drew).alloc (Nat.le_refl _) (.cells (([] : List Value).toArray ++ Builtin.zeroCells (Value.cells (.string { data := #[] })) (0 + n - 0) ++ Builtin.zeroCells (Value.cells (.string { data := #[] })) (grownCap w (0 + n) 0 (Try.growS_ren.t 25) - (0 + n))) (Try.growS_ren.t 25))
      exact ⟨h.os, h.tape, h.output, h.size, h.block⟩
set_option maxRecDepth 100000 in
set_option maxHeartbeats 4000000 in
theorem concat_growS (g : Nat) (A1 A2 : Option Addr) (l1 l2 : List ByteArray) (c1 c2 : Nat) (w : World) (h : w.heap[g]? = some (.cells #[.slice A1 l1.length c1, .slice A2 l2.length c2] 53)) (h1 : At vStr w A1 l1) (h2 : At vStr w A2 l2) (n1 : A1 = none → c1 = 0) (n2 : A2 = none → c2 = 0) (hl1 : l1.length ≤ 1000000) (hl2 : l2.length ≤ 1000000) :
    Calls Try.prog 77 #[.slice (some ⟨g, 0, none⟩) 2 2] w fun e w' => ∃ v, e = .returned v ∧ w'.ownsRow w.heap.size 9 1 v (l1 ++ l2).length ((l1 ++ l2).map vStr) ∧ Below w.heap.size w w' := by
  obtain ⟨i0, hi0, hz0, hz1, hz2⟩ := info_parts info9
  have k0 : w.cell? ⟨g, 0, none⟩ = some (.slice A1 l1.length c1) := row_cell (cs := [_, _]) h 0
  have k1 : w.cell? ⟨g, 1, none⟩ = some (.slice A2 l2.length c2) := row_cell (cs := [_, _]) h 1
  have lg := blk_lt h
  have H1 := Lib.hid h1
  have H2 := Lib.hid h2
  have CG := Lib.hid (show Calls Try.prog 98 #[.slice none 0 0, .int .i64 ((l1.length : Int) + (l2.length : Int))] w (fun e w' => ∃ v, e = .returned v ∧ w'.ownsRow w.heap.size 9 1 v 0 [] ∧ Below w.heap.size w w') from by
    have := grow_growS (l1.length + l2.length) w (by omega)
    rw [show ((l1.length + l2.length : Nat) : Int) = (l1.length : Int) + (l2.length : Int) by omega] at this
    exact this)
  clear h h1 h2
  go_enter Try.func77, Try.ntmps77
  go_wp2
  go_loop [3, 11] (fun t3 t11 => (t11 = .int .i64 0 ∧ t3 = .int .i64 0) ∨ (t11 = .int .i64 1 ∧ t3 = .int .i64 (l1.length : Int)) ∨ (t11 = .int .i64 2 ∧ t3 = .int .i64 ((l1.length : Int) + (l2.length : Int)))) (fun _ t11 => 2 - (intOf t11).toNat)
  case atStart => exact .inl ⟨rfl, rfl⟩
  case round =>
    rcases hrel with ⟨rfl, rfl⟩ | ⟨rfl, rfl⟩ | ⟨rfl, rfl⟩
    · go_wp2
      go_round
      case rel => exact .inr (.inl ⟨by go_num, by go_num⟩)
      case measure => simp [intOf]
    · go_wp2
      go_round
      case rel => exact .inr (.inr ⟨by go_num, by go_num⟩)
      case measure => simp [intOf]
    · go_wp2_with (go_at_call 98; ((with_reducible refine CG.out.mono ?_); rintro e w1 ⟨v1, rfl, ho1, hb1⟩; have O1 := Lib.hid ho1; have B1 := Lib.hid hb1; clear ho1 hb1))
      go_loopw [6, 27] (fun t6 t27 wr => ((t27 = .int .i64 0 ∧ wr.ownsRow w.heap.size 9 1 t6 ([] : List ByteArray).length (([] : List ByteArray).map vStr)) ∨ (t27 = .int .i64 1 ∧ wr.ownsRow w.heap.size 9 1 t6 l1.length (l1.map vStr)) ∨ (t27 = .int .i64 2 ∧ wr.ownsRow w.heap.size 9 1 t6 (l1 ++ l2).length ((l1 ++ l2).map vStr))) ∧ Below w.heap.size w wr) (fun _ t27 _ => 2 - (intOf t27).toNat)
      case atStart => exact ⟨.inl ⟨rfl, O1.out⟩, B1.out⟩
      case round =>
        obtain ⟨hst, hb⟩ := hrel
        have B2 := Lib.hid hb
        have s2 := hb.size
        have j0 : wr.cell? ⟨g, 0, none⟩ = some (.slice A1 l1.length c1) := (hb.cell (p := ⟨g, 0, none⟩) lg).trans k0
        have j1 : wr.cell? ⟨g, 1, none⟩ = some (.slice A2 l2.length c2) := (hb.cell (p := ⟨g, 1, none⟩) lg).trans k1
        clear k0 k1 CG O1 B1
        rcases hst with ⟨rfl, ho⟩ | ⟨rfl, ho⟩ | ⟨rfl, ho⟩
        · have O2 := Lib.hid ho
          clear ho hb
          go_wp2_with (at_builtin; refine wpList_append_at _ rfl _ _ 53 9 rfl w.heap.size i0 _ 16 Try.underlying53 hi0 hz0 hz1 hz2 rfl (by decide) _ ([] : List ByteArray) l1 (fun _ => rfl) rfl O2.out A1 c1 rfl (H1.out.below B2.out) n1 ?a1 s2 ?_)
          case a1 => simp; omega
          · intro v3 w3 o3 g3 _
            have b3 : Below w.heap.size wr w3 := (Below.refl w.heap.size wr).grown g3 s2 (fun k hk => (O2.out.lt k hk).1)
            go_wp2
            go_roundw
            case rel => exact ⟨.inr (.inl ⟨by go_num, o3⟩), B2.out.trans b3⟩
            case measure => simp [intOf]
        · have O2 := Lib.hid ho
          clear ho hb
          go_wp2_with (at_builtin; refine wpList_append_at _ rfl _ _ 53 9 rfl w.heap.size i0 _ 16 Try.underlying53 hi0 hz0 hz1 hz2 rfl (by decide) _ l1 l2 (fun _ => rfl) rfl O2.out A2 c2 rfl (H2.out.below B2.out) n2 ?a1 s2 ?_)
          case a1 => omega
          · intro v3 w3 o3 g3 _
            have b3 : Below w.heap.size wr w3 := (Below.refl w.heap.size wr).grown g3 s2 (fun k hk => (O2.out.lt k hk).1)
            go_wp2
            go_roundw
            case rel => exact ⟨.inr (.inr ⟨by go_num, by rw [List.length_append, List.map_append]; exact o3⟩), B2.out.trans b3⟩
            case measure => simp [intOf]
        · go_wp2
          go_ret
          exact ⟨_, rfl, ho, B2.out⟩

theorem grow_growI (n : Nat) (w : World) (hn : n ≤ 2000000) : Calls Try.prog 99 #[.slice none 0 0, .int .i64 (n : Int)] w fun e w' => ∃ v, e = .returned v ∧ w'.ownsRow w.heap.size 3 1 v 0 [] ∧ Below w.heap.size w w' := by
  obtain ⟨i0, hi0, hz0, hz1, hz2⟩ := info_parts info3
  by_cases h0 : n = 0
  · subst h0
    exact (Any8.slices_Grow_room Try.growI none 0 0 0 w (Nat.le_refl _) (by omega) (by omega) (by omega)).mono fun e w' ⟨he, hw⟩ => by subst hw; exact ⟨_, he, World.ownsRow_nil _ _ _ _, Below.refl _ _⟩
  · refine (Any8.slices_Grow_grow Try.growI i0 _ hi0 hz0 (by omega) none 0 0 n [] w (Nat.le_refl _) (by omega) (by rw [hz2]; omega) (by omega) (by simp) (fun _ => rfl) (fun a ha => by cases ha)).mono fun e w' ⟨he, hw⟩ => ?_
    subst hw
    have c1 := grownCap_ge w (0 + n) 0 (Try.growI_ren.t 25)
    have c2 := grownCap_le_maxLen w (0 + n) 0 (Try.growI_ren.t 25) (by unfold maxLen; omega)
    refine ⟨_, he, ⟨rfl, .inr ⟨w.heap.size, _, _, rfl, Nat.le_refl _, heap_last w.drew _ _ rfl, by omega, c2, ?_, by simp⟩⟩, ?_⟩
    · simp [size_zeros]
      have hz : (Value.cells (.int .i64 0)).size = 1 := rfl
      rw [Nat.zero_add] at c1
      try rw [hz]
      omega
    · have h := (Below.refl w.heap.size w.drew).alloc (Nat.le_refl _) (.cells (([] : List Value).toArray ++ Builtin.zeroCells (Value.cells (.int .i64 0)) (0 + n - 0) ++ Builtin.zeroCells (Value.cells (.int .i64 0)) (grownCap w (0 + n) 0 (Try.growI_ren.t 25) - (0 + n))) (Try.growI_ren.t 25))
      exact ⟨h.os, h.tape, h.output, h.size, h.block⟩
set_option maxRecDepth 100000 in
set_option maxHeartbeats 4000000 in
theorem concat_growI (g : Nat) (A1 A2 : Option Addr) (l1 l2 : List Int) (c1 c2 : Nat) (w : World) (h : w.heap[g]? = some (.cells #[.slice A1 l1.length c1, .slice A2 l2.length c2] 34)) (h1 : At vInt w A1 l1) (h2 : At vInt w A2 l2) (n1 : A1 = none → c1 = 0) (n2 : A2 = none → c2 = 0) (hl1 : l1.length ≤ 1000000) (hl2 : l2.length ≤ 1000000) :
    Calls Try.prog 78 #[.slice (some ⟨g, 0, none⟩) 2 2] w fun e w' => ∃ v, e = .returned v ∧ w'.ownsRow w.heap.size 3 1 v (l1 ++ l2).length ((l1 ++ l2).map vInt) ∧ Below w.heap.size w w' := by
  obtain ⟨i0, hi0, hz0, hz1, hz2⟩ := info_parts info3
  have k0 : w.cell? ⟨g, 0, none⟩ = some (.slice A1 l1.length c1) := row_cell (cs := [_, _]) h 0
  have k1 : w.cell? ⟨g, 1, none⟩ = some (.slice A2 l2.length c2) := row_cell (cs := [_, _]) h 1
  have lg := blk_lt h
  have H1 := Lib.hid h1
  have H2 := Lib.hid h2
  have CG := Lib.hid (show Calls Try.prog 99 #[.slice none 0 0, .int .i64 ((l1.length : Int) + (l2.length : Int))] w (fun e w' => ∃ v, e = .returned v ∧ w'.ownsRow w.heap.size 3 1 v 0 [] ∧ Below w.heap.size w w') from by
    have := grow_growI (l1.length + l2.length) w (by omega)
    rw [show ((l1.length + l2.length : Nat) : Int) = (l1.length : Int) + (l2.length : Int) by omega] at this
    exact this)
  clear h h1 h2
  go_enter Try.func78, Try.ntmps78
  go_wp2
  go_loop [3, 11] (fun t3 t11 => (t11 = .int .i64 0 ∧ t3 = .int .i64 0) ∨ (t11 = .int .i64 1 ∧ t3 = .int .i64 (l1.length : Int)) ∨ (t11 = .int .i64 2 ∧ t3 = .int .i64 ((l1.length : Int) + (l2.length : Int)))) (fun _ t11 => 2 - (intOf t11).toNat)
  case atStart => exact .inl ⟨rfl, rfl⟩
  case round =>
    rcases hrel with ⟨rfl, rfl⟩ | ⟨rfl, rfl⟩ | ⟨rfl, rfl⟩
    · go_wp2
      go_round
      case rel => exact .inr (.inl ⟨by go_num, by go_num⟩)
      case measure => simp [intOf]
    · go_wp2
      go_round
      case rel => exact .inr (.inr ⟨by go_num, by go_num⟩)
      case measure => simp [intOf]
    · go_wp2_with (go_at_call 99; ((with_reducible refine CG.out.mono ?_); rintro e w1 ⟨v1, rfl, ho1, hb1⟩; have O1 := Lib.hid ho1; have B1 := Lib.hid hb1; clear ho1 hb1))
      go_loopw [6, 27] (fun t6 t27 wr => ((t27 = .int .i64 0 ∧ wr.ownsRow w.heap.size 3 1 t6 ([] : List Int).length (([] : List Int).map vInt)) ∨ (t27 = .int .i64 1 ∧ wr.ownsRow w.heap.size 3 1 t6 l1.length (l1.map vInt)) ∨ (t27 = .int .i64 2 ∧ wr.ownsRow w.heap.size 3 1 t6 (l1 ++ l2).length ((l1 ++ l2).map vInt))) ∧ Below w.heap.size w wr) (fun _ t27 _ => 2 - (intOf t27).toNat)
      case atStart => exact ⟨.inl ⟨rfl, O1.out⟩, B1.out⟩
      case round =>
        obtain ⟨hst, hb⟩ := hrel
        have B2 := Lib.hid hb
        have s2 := hb.size
        have j0 : wr.cell? ⟨g, 0, none⟩ = some (.slice A1 l1.length c1) := (hb.cell (p := ⟨g, 0, none⟩) lg).trans k0
        have j1 : wr.cell? ⟨g, 1, none⟩ = some (.slice A2 l2.length c2) := (hb.cell (p := ⟨g, 1, none⟩) lg).trans k1
        clear k0 k1 CG O1 B1
        rcases hst with ⟨rfl, ho⟩ | ⟨rfl, ho⟩ | ⟨rfl, ho⟩
        · have O2 := Lib.hid ho
          clear ho hb
          go_wp2_with (at_builtin; refine wpList_append_at _ rfl _ _ 34 3 rfl w.heap.size i0 _ 8 Try.underlying34 hi0 hz0 hz1 hz2 rfl (by decide) _ ([] : List Int) l1 (fun _ => rfl) rfl O2.out A1 c1 rfl (H1.out.below B2.out) n1 ?a1 s2 ?_)
          case a1 => simp; omega
          · intro v3 w3 o3 g3 _
            have b3 : Below w.heap.size wr w3 := (Below.refl w.heap.size wr).grown g3 s2 (fun k hk => (O2.out.lt k hk).1)
            go_wp2
            go_roundw
            case rel => exact ⟨.inr (.inl ⟨by go_num, o3⟩), B2.out.trans b3⟩
            case measure => simp [intOf]
        · have O2 := Lib.hid ho
          clear ho hb
          go_wp2_with (at_builtin; refine wpList_append_at _ rfl _ _ 34 3 rfl w.heap.size i0 _ 8 Try.underlying34 hi0 hz0 hz1 hz2 rfl (by decide) _ l1 l2 (fun _ => rfl) rfl O2.out A2 c2 rfl (H2.out.below B2.out) n2 ?a1 s2 ?_)
          case a1 => omega
          · intro v3 w3 o3 g3 _
            have b3 : Below w.heap.size wr w3 := (Below.refl w.heap.size wr).grown g3 s2 (fun k hk => (O2.out.lt k hk).1)
            go_wp2
            go_roundw
            case rel => exact ⟨.inr (.inr ⟨by go_num, by rw [List.length_append, List.map_append]; exact o3⟩), B2.out.trans b3⟩
            case measure => simp [intOf]
        · go_wp2
          go_ret
          exact ⟨_, rfl, ho, B2.out⟩

theorem size_al {a : Nat} {W : World} (h : a ≤ W.heap.size) (o : Obj) : a ≤ (W.alloc o).heap.size := base1 h o
theorem size_dr {a : Nat} {W : World} (h : a ≤ W.heap.size) : a ≤ W.drew.heap.size := h
theorem blk_dr {W : World} {g : Nat} {o : Obj} (h : W.heap[g]? = some o) : W.drew.heap[g]? = some o := h
theorem blk_thru {W w' : World} {g : Nat} {o : Obj} (hb : Below W.heap.size W w') (h : W.heap[g]? = some o) : w'.heap[g]? = some o := blk_below h hb (blk_lt h)
theorem below_al {w W : World} (h : Below w.heap.size w W) (o : Obj) : Below w.heap.size w (W.alloc o) := h.alloc h.size o
theorem below_thru {w W w' : World} (h : Below w.heap.size w W) (hb : Below W.heap.size W w') : Below w.heap.size w w' := h.trans (hb.mono h.size)
theorem own_thru {W w' : World} {M t size n : Nat} {v : Value} {xs : List Value} (hb : Below W.heap.size W w') (h : W.ownsRow M t size v n xs) : w'.ownsRow M t size v n xs := B.own_below h hb
abbrev NBx (w : World) (g : Nat) (A1 A2 A3 : Option Addr) (c1 c2 c3 : Nat) (n : N) : Prop := Bx w g (.int .i64 n.kind) (.slice A1 n.keys.length c1) (.slice A2 n.vals.length c2) (.slice A3 n.kids.length c3)
theorem Bx.al {w : World} {g : Nat} {a b c d : Value} (h : Bx w g a b c d) (o : Obj) : Bx (w.alloc o) g a b c d := h.below (below1 w o)
theorem Bx.dr {w : World} {g : Nat} {a b c d : Value} (h : Bx w g a b c d) : Bx w.drew g a b c d := ⟨h.l, h.p⟩
/-- the entries of both -/
def njoin (n m : N) : N := ⟨n.kind, n.keys ++ m.keys, n.vals ++ m.vals, n.kids ++ m.kids⟩
set_option maxRecDepth 100000 in
set_option maxHeartbeats 8000000 in
theorem join_any (A1 A2 A3 : Option Addr) (c1 c2 c3 : Nat) (n : N) (B1 B2 B3 : Option Addr) (d1 d2 d3 : Nat) (m : N) (w : World) (h : NAt w A1 A2 A3 n) (hl : Sm n) (hc : Caps A1 A2 A3 c1 c2 c3 n) (h' : NAt w B1 B2 B3 m) (hl' : Sm m) (hc' : Caps B1 B2 B3 d1 d2 d3 m) :
    Calls Try.prog 44 #[nv A1 A2 A3 c1 c2 c3 n, nv B1 B2 B3 d1 d2 d3 m] w fun e w' => ∃ v, e = .returned v ∧ NOwn w.heap.size w' v (njoin n m) ∧ Below w.heap.size w w' := by
  have CK := Lib.hid (fun W g (q : Below w.heap.size w W) (r : W.heap[g]? = some (.cells #[.slice A1 n.keys.length c1, .slice B1 m.keys.length d1] 53)) => concat_growS g A1 B1 n.keys m.keys c1 d1 W r (h.k.below q) (h'.k.below q) hc.n1 hc'.n1 hl.k hl'.k)
  have CV := Lib.hid (fun W g (q : Below w.heap.size w W) (r : W.heap[g]? = some (.cells #[.slice A2 n.vals.length c2, .slice B2 m.vals.length d2] 53)) => concat_growS g A2 B2 n.vals m.vals c2 d2 W r (h.v.below q) (h'.v.below q) hc.n2 hc'.n2 hl.v hl'.v)
  have CC := Lib.hid (fun W g (q : Below w.heap.size w W) (r : W.heap[g]? = some (.cells #[.slice A3 n.kids.length c3, .slice B3 m.kids.length d3] 34)) => concat_growI g A3 B3 n.kids m.kids c3 d3 W r (h.c.below q) (h'.c.below q) hc.n3 hc'.n3 hl.c hl'.c)
  unfold nv at *
  have bA := below1 w (.cells #[.int .i64 n.kind, .slice A1 n.keys.length c1, .slice A2 n.vals.length c2, .slice A3 n.kids.length c3] 57)
  have bB := below1 (w.alloc (.cells #[.int .i64 n.kind, .slice A1 n.keys.length c1, .slice A2 n.vals.length c2, .slice A3 n.kids.length c3] 57)) (.cells #[.int .i64 m.kind, .slice B1 m.keys.length d1, .slice B2 m.vals.length d2, .slice B3 m.kids.length d3] 57)
  have bC := below1 ((w.alloc (.cells #[.int .i64 n.kind, .slice A1 n.keys.length c1, .slice A2 n.vals.length c2, .slice A3 n.kids.length c3] 57)).alloc (.cells #[.int .i64 m.kind, .slice B1 m.keys.length d1, .slice B2 m.vals.length d2, .slice B3 m.kids.length d3] 57)) (.cells #[.int .i64 0, .slice none 0 0, .slice none 0 0, .slice none 0 0] 57)
  have BX := Lib.hid (((bx_new w (.int .i64 n.kind) (.slice A1 n.keys.length c1) (.slice A2 n.vals.length c2) (.slice A3 n.kids.length c3) 57).below bB).below bC)
  have BY := Lib.hid ((bx_new (w.alloc (.cells #[.int .i64 n.kind, .slice A1 n.keys.length c1, .slice A2 n.vals.length c2, .slice A3 n.kids.length c3] 57)) (.int .i64 m.kind) (.slice B1 m.keys.length d1) (.slice B2 m.vals.length d2) (.slice B3 m.kids.length d3) 57).below bC)
  have b0 := (bA.trans (bB.mono bA.size))
  have B0 := Lib.hid (b0.trans (bC.mono b0.size))
  have R6 := Lib.hid (heap_last ((w.alloc (.cells #[.int .i64 n.kind, .slice A1 n.keys.length c1, .slice A2 n.vals.length c2, .slice A3 n.kids.length c3] 57)).alloc (.cells #[.int .i64 m.kind, .slice B1 m.keys.length d1, .slice B2 m.vals.length d2, .slice B3 m.kids.length d3] 57)) (.cells #[.int .i64 0, .slice none 0 0, .slice none 0 0, .slice none 0 0] 57) (w.heap.size + 1 + 1) (by simp))
  have hsz : (w.alloc (.cells #[.int .i64 n.kind, .slice A1 n.keys.length c1, .slice A2 n.vals.length c2, .slice A3 n.kids.length c3] 57)).heap.size = w.heap.size + 1 := by simp
  rw [hsz] at BY
  clear bA bB bC b0 h hl hc h' hl' hc' hsz
  go_enter Try.func44, Try.ntmps44
  go_upto_region 1 with fail
  generalize ((w.alloc (.cells #[.int .i64 n.kind, .slice A1 n.keys.length c1, .slice A2 n.vals.length c2, .slice A3 n.kids.length c3] 57)).alloc (.cells #[.int .i64 m.kind, .slice B1 m.keys.length d1, .slice B2 m.vals.length d2, .slice B3 m.kids.length d3] 57)).alloc (.cells #[.int .i64 0, .slice none 0 0, .slice none 0 0, .slice none 0 0] 57) = W at *
  obtain ⟨k0, k1, k2, k3⟩ := BX.out.p
  obtain ⟨i0, i1, i2, i3⟩ := BY.out.p
  have mark : True := trivial
  go_cut [25] (fun _ wc => ∃ vk vv vc, NOwn (w.heap.size + 3) wc (.agg #[.int .i64 n.kind, vk, vv, vc]) (njoin n m) ∧ wc.heap[w.heap.size + 1 + 1]? = some (.cells #[.int .i64 n.kind, vk, vv, vc] 57) ∧ Below w.heap.size w wc)
  case first =>
    go_region_held3 (fun w' => (w'.cell? ⟨w.heap.size, 0, none⟩ = some (.int .i64 n.kind) ∧ w'.cell? ⟨w.heap.size, 1, none⟩ = some (.slice A1 n.keys.length c1) ∧ w'.cell? ⟨w.heap.size, 2, none⟩ = some (.slice A2 n.vals.length c2) ∧ w'.cell? ⟨w.heap.size, 3, none⟩ = some (.slice A3 n.kids.length c3)) ∧ (w'.cell? ⟨w.heap.size + 1, 0, none⟩ = some (.int .i64 m.kind) ∧ w'.cell? ⟨w.heap.size + 1, 1, none⟩ = some (.slice B1 m.keys.length d1) ∧ w'.cell? ⟨w.heap.size + 1, 2, none⟩ = some (.slice B2 m.vals.length d2) ∧ w'.cell? ⟨w.heap.size + 1, 3, none⟩ = some (.slice B3 m.kids.length d3)))
      (first | with_reducible exact ⟨yx.p, yy.p⟩ | with_reducible exact ⟨keep4 yx.p (by omega), keep4 yy.p (by omega)⟩ | (refine ⟨Bx.p (by repeat (first | exact yx | exact BX.out | refine Bx.dr ?_ | refine Bx.al ?_ _)), Bx.p (by repeat (first | exact yy | exact BY.out | refine Bx.dr ?_ | refine Bx.al ?_ _))⟩) | fail)
      (first
        | (go_at_call 78; (with_reducible refine (CC.out _ _ (by repeat (first | exact zV | exact zK | exact B0.out | refine below_drew' ?_ | refine below_al ?_ _)) (by repeat (first | exact heap_last _ _ _ (by simp) | refine hp_old _ ?_ | refine blk_dr ?_ | refine blk_thru hbV ?_ | refine blk_thru hbK ?_))).mono ?_); rintro e wC ⟨vC, rfl, oC, hbC⟩; have bC := own_mono oC (show w.heap.size + 3 ≤ _ from blk_lt (g := w.heap.size + 1 + 1) (o := .cells #[.int .i64 0, .slice none 0 0, .slice none 0 0, .slice none 0 0] 57) (by repeat (first | exact r6 | exact R6.out | refine blk_dr ?_ | refine hp_old _ ?_))); have dKC := fresh1 oK oC (Nat.le_trans (Nat.le_trans (by repeat (first | exact Nat.le_refl _ | refine size_dr ?_ | refine size_al ?_ _)) hbV.size) (by repeat (first | exact Nat.le_refl _ | refine size_dr ?_ | refine size_al ?_ _))); have dVC := fresh1 oV oC (by repeat (first | exact Nat.le_refl _ | refine size_dr ?_ | refine size_al ?_ _)); have zC : Below w.heap.size w wC := below_thru (by repeat (first | exact zV | exact zK | exact B0.out | refine below_drew' ?_ | refine below_al ?_ _)) hbC; have yx : NBx wC w.heap.size A1 A2 A3 c1 c2 c3 n := Bx.below (by repeat (first | exact yx | exact BX.out | refine Bx.dr ?_ | refine Bx.al ?_ _)) hbC; have yy : NBx wC (w.heap.size + 1) B1 B2 B3 d1 d2 d3 m := Bx.below (by repeat (first | exact yy | exact BY.out | refine Bx.dr ?_ | refine Bx.al ?_ _)) hbC; have r6 : wC.heap[w.heap.size + 1 + 1]? = some (.cells #[.int .i64 0, .slice none 0 0, .slice none 0 0, .slice none 0 0] 57) := blk_thru hbC (by repeat (first | exact r6 | exact R6.out | refine blk_dr ?_ | refine hp_old _ ?_)); obtain ⟨AC, aC, hvC, _⟩ := own_at (V := vInt) oC; rw [List.length_append] at hvC; subst hvC; obtain ⟨⟨m0, m1, m2, m3⟩, q0, q1, q2, q3⟩ := row4 r6)
        | (go_at_call 77; clear mark; (with_reducible refine (CK.out _ _ (by repeat (first | exact zV | exact zK | exact B0.out | refine below_drew' ?_ | refine below_al ?_ _)) (by repeat (first | exact heap_last _ _ _ (by simp) | refine hp_old _ ?_ | refine blk_dr ?_ | refine blk_thru hbV ?_ | refine blk_thru hbK ?_))).mono ?_); rintro e wK ⟨vK, rfl, oK, hbK⟩; have bK := own_mono oK (show w.heap.size + 3 ≤ _ from blk_lt (g := w.heap.size + 1 + 1) (o := .cells #[.int .i64 0, .slice none 0 0, .slice none 0 0, .slice none 0 0] 57) (by repeat (first | exact r6 | exact R6.out | refine blk_dr ?_ | refine hp_old _ ?_))); have zK : Below w.heap.size w wK := below_thru (by repeat (first | exact zV | exact zK | exact B0.out | refine below_drew' ?_ | refine below_al ?_ _)) hbK; have yx : NBx wK w.heap.size A1 A2 A3 c1 c2 c3 n := Bx.below (by repeat (first | exact yx | exact BX.out | refine Bx.dr ?_ | refine Bx.al ?_ _)) hbK; have yy : NBx wK (w.heap.size + 1) B1 B2 B3 d1 d2 d3 m := Bx.below (by repeat (first | exact yy | exact BY.out | refine Bx.dr ?_ | refine Bx.al ?_ _)) hbK; have r6 : wK.heap[w.heap.size + 1 + 1]? = some (.cells #[.int .i64 0, .slice none 0 0, .slice none 0 0, .slice none 0 0] 57) := blk_thru hbK (by repeat (first | exact r6 | exact R6.out | refine blk_dr ?_ | refine hp_old _ ?_)); obtain ⟨AK, aK, hvK, _⟩ := own_at (V := vStr) oK; rw [List.length_append] at hvK; subst hvK; obtain ⟨⟨m0, m1, m2, m3⟩, q0, q1, q2, q3⟩ := row4 r6)
        | (go_at_call 77; (with_reducible refine (CV.out _ _ (by repeat (first | exact zV | exact zK | exact B0.out | refine below_drew' ?_ | refine below_al ?_ _)) (by repeat (first | exact heap_last _ _ _ (by simp) | refine hp_old _ ?_ | refine blk_dr ?_ | refine blk_thru hbV ?_ | refine blk_thru hbK ?_))).mono ?_); rintro e wV ⟨vV, rfl, oV, hbV⟩; have bV := own_mono oV (show w.heap.size + 3 ≤ _ from blk_lt (g := w.heap.size + 1 + 1) (o := .cells #[.int .i64 0, .slice none 0 0, .slice none 0 0, .slice none 0 0] 57) (by repeat (first | exact r6 | exact R6.out | refine blk_dr ?_ | refine hp_old _ ?_))); have dKV := fresh1 oK oV (by repeat (first | exact Nat.le_refl _ | refine size_dr ?_ | refine size_al ?_ _)); have zV : Below w.heap.size w wV := below_thru (by repeat (first | exact zV | exact zK | exact B0.out | refine below_drew' ?_ | refine below_al ?_ _)) hbV; have yx : NBx wV w.heap.size A1 A2 A3 c1 c2 c3 n := Bx.below (by repeat (first | exact yx | exact BX.out | refine Bx.dr ?_ | refine Bx.al ?_ _)) hbV; have yy : NBx wV (w.heap.size + 1) B1 B2 B3 d1 d2 d3 m := Bx.below (by repeat (first | exact yy | exact BY.out | refine Bx.dr ?_ | refine Bx.al ?_ _)) hbV; have r6 : wV.heap[w.heap.size + 1 + 1]? = some (.cells #[.int .i64 0, .slice none 0 0, .slice none 0 0, .slice none 0 0] 57) := blk_thru hbV (by repeat (first | exact r6 | exact R6.out | refine blk_dr ?_ | refine hp_old _ ?_)); obtain ⟨AV, aV, hvV, _⟩ := own_at (V := vStr) oV; rw [List.length_append] at hvV; subst hvV; obtain ⟨⟨m0, m1, m2, m3⟩, q0, q1, q2, q3⟩ := row4 r6))
    all_goals
      go_wp2
      go_meet
      case rel => exact ⟨_, _, _, ⟨_, _, _, rfl, own_put4 (by repeat (first | exact bK | refine own_thru hbC ?_ | refine own_thru hbV ?_ | refine World.ownsRow.alloc ?_ _)) (by omega), own_put4 (by repeat (first | exact bV | refine own_thru hbC ?_ | refine World.ownsRow.alloc ?_ _)) (by omega), own_put4 bC (by omega), dKV, dKC, dVC⟩, set4 r6 _ _ _ _, below_put4 zC (by omega)⟩
  case rest =>
    obtain ⟨vk, vv, vc, hno, hr, hb⟩ := hcut
    have HN := Lib.hid hno
    obtain ⟨⟨m0, m1, m2, m3⟩, _⟩ := row4 hr
    go_wp2
    (try simp only [Exit.inBlock, Exit.then])
    refine bodyPost_ret (results_cells rfl _ _ (w.heap.size + 1 + 1) [.int .i64 n.kind, vk, vv, vc] _ rfl ?_ Try.underlying57 node_info) rfl ?_
    · exact four ⟨m0, m1, m2, m3⟩
    · exact ⟨_, rfl, nown_mono HN.out (show w.heap.size ≤ w.heap.size + 3 by omega), hb⟩
end Nod
end Go.Proofs.Ytjikioiejdfodaa
