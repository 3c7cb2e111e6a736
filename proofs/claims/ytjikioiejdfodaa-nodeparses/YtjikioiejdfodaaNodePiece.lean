/-
  Node: a piece of a list; a part of a node.
-/
import Derived.Test.YtjikioiejdfodaaNodeMid
import Derived.Test.YtjikioiejdfodaaNodeParse
import Derived.Deep.RegionHeld3
namespace Go.Proofs.Ytjikioiejdfodaa
open Go.RowKit
namespace Nod
open B V
def sub {α : Type} (l : List α) (lo hi : Nat) : List α := (l.take hi).drop lo
theorem sub_eq {α : Type} (l : List α) {lo hi : Nat} (_ : lo ≤ hi) : sub l lo hi = (l.drop (min lo l.length)).take (min hi l.length - min lo l.length) := by
  unfold sub
  rw [List.drop_take]
  rcases Nat.le_total lo l.length with h | h
  · rw [Nat.min_eq_left h]
    rcases Nat.le_total hi l.length with k | k
    · rw [Nat.min_eq_left k]
    · rw [Nat.min_eq_right k, List.take_of_length_le (by rw [List.length_drop]; omega), List.take_of_length_le (by rw [List.length_drop]; omega)]
  · rw [Nat.min_eq_right h, List.drop_eq_nil_of_le h, List.drop_length]; simp

set_option maxHeartbeats 2000000 in
theorem pieces_any (A : Option Addr) (l : List ByteArray) (c lo hi : Nat) (w : World) (h : At vStr w A l) (hn : A = none → c = 0) (hl : l.length ≤ 1000000) (hc : l.length ≤ c) (hc2 : c ≤ 9223372036854775807) (h1 : lo ≤ hi) :
    Calls Try.prog 96 #[.slice A l.length c, .int .i64 (lo : Int), .int .i64 (hi : Int)] w fun e w' => ∃ v, e = .returned v ∧ w'.ownsRow w.heap.size 9 1 v (sub l lo hi).length ((sub l lo hi).map vStr) ∧ Below w.heap.size w w' := by
  obtain ⟨a, ha⟩ : ∃ a : Nat, min (lo : Int) (l.length : Int) = (a : Int) := ⟨min lo l.length, by omega⟩
  obtain ⟨b, hb⟩ : ∃ b : Nat, min (hi : Int) (l.length : Int) = (b : Int) := ⟨min hi l.length, by omega⟩
  have hab : a ≤ b := by omega
  have hbl : b ≤ l.length := by omega
  have hsub : sub l lo hi = (l.drop a).take (b - a) := by
    have ea : a = min lo l.length := by omega
    have eb : b = min hi l.length := by omega
    subst ea eb
    exact sub_eq l h1
  rw [hsub]
  have hlen : ((l.drop a).take (b - a)).length = b - a := by rw [List.length_take, List.length_drop]; omega
  rw [hlen]
  clear hsub hlen h1
  have e1 : (b : Int) - (a : Int) = ((b - a : Nat) : Int) := by omega
  have e2 : (c : Int) - (a : Int) = ((c - a : Nat) : Int) := by omega
  cases A with
  | none =>
    have := hn rfl
    subst this
    have hl0 : l = [] := List.eq_nil_of_length_eq_zero (by omega)
    subst hl0
    obtain rfl : b = 0 := by simpa using hbl
    obtain rfl : a = 0 := by omega
    have m1 : min (lo : Int) 0 = 0 := by omega
    have m2 : min (hi : Int) 0 = 0 := by omega
    clear ha hb e1 e2 hl hc hc2 hab hbl h hn
    have CC := Lib.hid (fun W => Try.slices_Clone_string_nil 0 0 W)
    go_enter Try.func96, Try.ntmps96
    go_wp2_with (go_at_call 111; ((with_reducible refine (CC.out _).mono ?_); rintro e w1 ⟨rfl, rfl⟩))
    go_ret
    exact ⟨_, rfl, World.ownsRow_nil _ _ _ _, Below.refl _ _⟩
  | some ad =>
    by_cases hl0 : l.length = 0
    · have hl1 : l = [] := List.eq_nil_of_length_eq_zero hl0
      subst hl1
      obtain rfl : b = 0 := by simpa using hbl
      obtain rfl : a = 0 := by omega
      have m1 : min (lo : Int) 0 = 0 := by omega
      have m2 : min (hi : Int) 0 = 0 := by omega
      clear ha hb e1 e2 hl hab hbl h hn hl0
      have CC := Lib.hid (fun W x y => Try.slices_Clone_string_zero x y W)
      go_enter Try.func96, Try.ntmps96
      go_wp2_with (go_at_call 111; ((with_reducible refine (CC.out _ _ _).mono ?_); rintro e w1 ⟨v, rfl, ho, _, hb1⟩))
      go_ret
      exact ⟨_, rfl, ho, hb1⟩
    · obtain ⟨bb, off, hA, hbb, hcc⟩ := h (by omega)
      injection hA with hA
      subst hA
      by_cases hca : c = a
      · have hba : b = a := by omega
        subst hba
        have CC := Lib.hid (fun W x y => Try.slices_Clone_string_zero x y W)
        have e3 : (b - b : Nat) = 0 := by omega
        have e4 : (c - b : Nat) = 0 := by omega
        rw [e3] at e1
        rw [e4] at e2
        go_enter Try.func96, Try.ntmps96
        go_wp2_with (go_at_call 111; ((with_reducible refine (CC.out _ _ _).mono ?_); rintro e w1 ⟨v, rfl, ho, _, hb1⟩))
        go_ret
        exact ⟨_, rfl, by simpa using ho, hb1⟩
      · have CC := Lib.hid (fun y => Try.slices_Clone_string bb (off + a) (b - a) y ((l.drop a).take (b - a)) w (by rw [List.length_take, List.length_drop]; omega) (by omega) (fun j hj => by
          rw [List.length_take, List.length_drop] at hj
          rw [List.getD_eq_getElem?_getD, List.getElem?_take_of_lt (by omega), List.getElem?_drop, List.getElem?_eq_getElem (by omega)]
          have := hcc (a + j) (by omega)
          rw [show off + (a + j) = off + a + j by omega] at this
          exact this))
        have hca2 : ¬ (c - a : Nat) = 0 := by omega
        go_enter Try.func96, Try.ntmps96
        go_wp2_with (go_at_call 111; ((with_reducible refine (CC.out _).mono ?_); rintro e w1 ⟨v, rfl, ho, _, hb1⟩))
        go_ret
        exact ⟨_, rfl, by rw [List.take_of_length_le (by rw [List.length_take, List.length_drop]; omega)] at ho; exact ho, hb1⟩

set_option maxHeartbeats 2000000 in
theorem piecei_any (A : Option Addr) (l : List Int) (c lo hi : Nat) (w : World) (h : At vInt w A l) (hn : A = none → c = 0) (hl : l.length ≤ 1000000) (hc : l.length ≤ c) (hc2 : c ≤ 9223372036854775807) (h1 : lo ≤ hi) :
    Calls Try.prog 97 #[.slice A l.length c, .int .i64 (lo : Int), .int .i64 (hi : Int)] w fun e w' => ∃ v, e = .returned v ∧ w'.ownsRow w.heap.size 3 1 v (sub l lo hi).length ((sub l lo hi).map vInt) ∧ Below w.heap.size w w' := by
  obtain ⟨a, ha⟩ : ∃ a : Nat, min (lo : Int) (l.length : Int) = (a : Int) := ⟨min lo l.length, by omega⟩
  obtain ⟨b, hb⟩ : ∃ b : Nat, min (hi : Int) (l.length : Int) = (b : Int) := ⟨min hi l.length, by omega⟩
  have hab : a ≤ b := by omega
  have hbl : b ≤ l.length := by omega
  have hsub : sub l lo hi = (l.drop a).take (b - a) := by
    have ea : a = min lo l.length := by omega
    have eb : b = min hi l.length := by omega
    subst ea eb
    exact sub_eq l h1
  rw [hsub]
  have hlen : ((l.drop a).take (b - a)).length = b - a := by rw [List.length_take, List.length_drop]; omega
  rw [hlen]
  clear hsub hlen h1
  have e1 : (b : Int) - (a : Int) = ((b - a : Nat) : Int) := by omega
  have e2 : (c : Int) - (a : Int) = ((c - a : Nat) : Int) := by omega
  cases A with
  | none =>
    have := hn rfl
    subst this
    have hl0 : l = [] := List.eq_nil_of_length_eq_zero (by omega)
    subst hl0
    obtain rfl : b = 0 := by simpa using hbl
    obtain rfl : a = 0 := by omega
    have m1 : min (lo : Int) 0 = 0 := by omega
    have m2 : min (hi : Int) 0 = 0 := by omega
    clear ha hb e1 e2 hl hc hc2 hab hbl h hn
    have CC := Lib.hid (fun W => Try.slices_Clone_int_nil 0 0 W)
    go_enter Try.func97, Try.ntmps97
    go_wp2_with (go_at_call 112; ((with_reducible refine (CC.out _).mono ?_); rintro e w1 ⟨rfl, rfl⟩))
    go_ret
    exact ⟨_, rfl, World.ownsRow_nil _ _ _ _, Below.refl _ _⟩
  | some ad =>
    by_cases hl0 : l.length = 0
    · have hl1 : l = [] := List.eq_nil_of_length_eq_zero hl0
      subst hl1
      obtain rfl : b = 0 := by simpa using hbl
      obtain rfl : a = 0 := by omega
      have m1 : min (lo : Int) 0 = 0 := by omega
      have m2 : min (hi : Int) 0 = 0 := by omega
      clear ha hb e1 e2 hl hab hbl h hn hl0
      have CC := Lib.hid (fun W x y => Try.slices_Clone_int_zero x y W)
      go_enter Try.func97, Try.ntmps97
      go_wp2_with (go_at_call 112; ((with_reducible refine (CC.out _ _ _).mono ?_); rintro e w1 ⟨v, rfl, ho, _, hb1⟩))
      go_ret
      exact ⟨_, rfl, ho, hb1⟩
    · obtain ⟨bb, off, hA, hbb, hcc⟩ := h (by omega)
      injection hA with hA
      subst hA
      by_cases hca : c = a
      · have hba : b = a := by omega
        subst hba
        have CC := Lib.hid (fun W x y => Try.slices_Clone_int_zero x y W)
        have e3 : (b - b : Nat) = 0 := by omega
        have e4 : (c - b : Nat) = 0 := by omega
        rw [e3] at e1
        rw [e4] at e2
        go_enter Try.func97, Try.ntmps97
        go_wp2_with (go_at_call 112; ((with_reducible refine (CC.out _ _ _).mono ?_); rintro e w1 ⟨v, rfl, ho, _, hb1⟩))
        go_ret
        exact ⟨_, rfl, by simpa using ho, hb1⟩
      · have CC := Lib.hid (fun y => Try.slices_Clone_int bb (off + a) (b - a) y ((l.drop a).take (b - a)) w (by rw [List.length_take, List.length_drop]; omega) (by omega) (fun j hj => by
          rw [List.length_take, List.length_drop] at hj
          rw [List.getD_eq_getElem?_getD, List.getElem?_take_of_lt (by omega), List.getElem?_drop, List.getElem?_eq_getElem (by omega)]
          have := hcc (a + j) (by omega)
          rw [show off + (a + j) = off + a + j by omega] at this
          exact this))
        have hca2 : ¬ (c - a : Nat) = 0 := by omega
        go_enter Try.func97, Try.ntmps97
        go_wp2_with (go_at_call 112; ((with_reducible refine (CC.out _).mono ?_); rintro e w1 ⟨v, rfl, ho, _, hb1⟩))
        go_ret
        exact ⟨_, rfl, by rw [List.take_of_length_le (by rw [List.length_take, List.length_drop]; omega)] at ho; exact ho, hb1⟩

/-- the bounds of a node's three slices -/
structure Caps (A1 A2 A3 : Option Addr) (c1 c2 c3 : Nat) (n : N) : Prop where
  n1 : A1 = none → c1 = 0
  n2 : A2 = none → c2 = 0
  n3 : A3 = none → c3 = 0
  l1 : n.keys.length ≤ c1
  l2 : n.vals.length ≤ c2
  l3 : n.kids.length ≤ c3
  m1 : c1 ≤ 9223372036854775807
  m2 : c2 ≤ 9223372036854775807
  m3 : c3 ≤ 9223372036854775807
def npart (n : N) (lo hi : Nat) : N := ⟨n.kind, sub n.keys lo hi, sub n.vals lo hi, sub n.kids lo hi⟩
theorem fresh1 {w w' : World} {M M' t t' size size' n n' : Nat} {v v' : Value} {xs xs' : List Value} (h : w.ownsRow M t size v n xs) (h' : w'.ownsRow M' t' size' v' n' xs') (hM : w.heap.size ≤ M') : ∀ b, v.ownBlock = some b → v'.ownBlock ≠ some b := by
  intro b hb hb'
  have h1 := (h.lt b hb).2
  have h2 := (h'.lt b hb').1
  omega
theorem fresh2 {w w' : World} {M M' t t' size size' n n' : Nat} {v v' : Value} {xs xs' : List Value} (h : w.ownsRow M t size v n xs) (h' : w'.ownsRow M' t' size' v' n' xs') (hM : w.heap.size ≤ M') : ∀ b, v'.ownBlock = some b → v.ownBlock ≠ some b := fun b hb hb' => fresh1 h h' hM b hb' hb
theorem own_put4 {w : World} {M t size n g : Nat} {v a b c d : Value} {xs : List Value} (h : w.ownsRow M t size v n xs) (hg : g < M) : ((((w.setCell ⟨g, 0, none⟩ a).setCell ⟨g, 1, none⟩ b).setCell ⟨g, 2, none⟩ c).setCell ⟨g, 3, none⟩ d).ownsRow M t size v n xs := own_put (own_put (own_put (own_put h hg) hg) hg) hg
theorem set4 {w : World} {g : Nat} {a b c d : Value} {t : TypeId} (h : w.heap[g]? = some (.cells #[a, b, c, d] t)) (a' b' c' d' : Value) : ((((w.setCell ⟨g, 0, none⟩ a').setCell ⟨g, 1, none⟩ b').setCell ⟨g, 2, none⟩ c').setCell ⟨g, 3, none⟩ d').heap[g]? = some (.cells #[a', b', c', d'] t) :=
  blk_set (cs := [_, _, _, _]) (blk_set (cs := [_, _, _, _]) (blk_set (cs := [_, _, _, _]) (blk_set (cs := [_, _, _, _]) h 0 a') 1 b') 2 c') 3 d'
theorem below_put4 {w0 w : World} {Bd g : Nat} {a b c d : Value} (h : Below Bd w0 w) (hg : Bd ≤ g) : Below Bd w0 ((((w.setCell ⟨g, 0, none⟩ a).setCell ⟨g, 1, none⟩ b).setCell ⟨g, 2, none⟩ c).setCell ⟨g, 3, none⟩ d) :=
  (((h.setCell (p := ⟨g, 0, none⟩) hg _).setCell (p := ⟨g, 1, none⟩) hg _).setCell (p := ⟨g, 2, none⟩) hg _).setCell (p := ⟨g, 3, none⟩) hg _
theorem nown_mono {M M' : Nat} {w : World} {v : Value} {n : N} (h : NOwn M w v n) (hM : M' ≤ M) : NOwn M' w v n := by
  obtain ⟨vk, vv, vc, h0, h1, h2, h3, r⟩ := h
  exact ⟨vk, vv, vc, h0, own_mono h1 hM, own_mono h2 hM, own_mono h3 hM, r⟩
set_option maxRecDepth 100000 in
set_option maxHeartbeats 4000000 in
theorem part_any (A1 A2 A3 : Option Addr) (c1 c2 c3 : Nat) (n : N) (lo hi : Nat) (w : World) (h : NAt w A1 A2 A3 n) (hl : Sm n) (hc : Caps A1 A2 A3 c1 c2 c3 n) (h1 : lo ≤ hi) :
    Calls Try.prog 76 #[nv A1 A2 A3 c1 c2 c3 n, .int .i64 (lo : Int), .int .i64 (hi : Int)] w fun e w' => ∃ v, e = .returned v ∧ NOwn w.heap.size w' v (npart n lo hi) ∧ Below w.heap.size w w' := by
  have CK := Lib.hid (fun W (q : Below w.heap.size w W) => pieces_any A1 n.keys c1 lo hi W (h.k.below q) hc.n1 hl.k hc.l1 hc.m1 h1)
  have CV := Lib.hid (fun W (q : Below w.heap.size w W) => pieces_any A2 n.vals c2 lo hi W (h.v.below q) hc.n2 hl.v hc.l2 hc.m2 h1)
  have CC := Lib.hid (fun W (q : Below w.heap.size w W) => piecei_any A3 n.kids c3 lo hi W (h.c.below q) hc.n3 hl.c hc.l3 hc.m3 h1)
  unfold nv at *
  have bA := below1 w (.cells #[.int .i64 n.kind, .slice A1 n.keys.length c1, .slice A2 n.vals.length c2, .slice A3 n.kids.length c3] 57)
  have bB := below1 (w.alloc (.cells #[.int .i64 n.kind, .slice A1 n.keys.length c1, .slice A2 n.vals.length c2, .slice A3 n.kids.length c3] 57)) (.cells #[.int .i64 0, .slice none 0 0, .slice none 0 0, .slice none 0 0] 57)
  have BX := Lib.hid ((bx_new w (.int .i64 n.kind) (.slice A1 n.keys.length c1) (.slice A2 n.vals.length c2) (.slice A3 n.kids.length c3) 57).below bB)
  have B0 := Lib.hid (bA.trans (bB.mono bA.size))
  have R6 := Lib.hid (heap_last (w.alloc (.cells #[.int .i64 n.kind, .slice A1 n.keys.length c1, .slice A2 n.vals.length c2, .slice A3 n.kids.length c3] 57)) (.cells #[.int .i64 0, .slice none 0 0, .slice none 0 0, .slice none 0 0] 57) (w.heap.size + 1) (by simp))
  clear bA bB h hl hc
  go_enter Try.func76, Try.ntmps76
  go_upto_region 1 with fail
  generalize (w.alloc (.cells #[.int .i64 n.kind, .slice A1 n.keys.length c1, .slice A2 n.vals.length c2, .slice A3 n.kids.length c3] 57)).alloc (.cells #[.int .i64 0, .slice none 0 0, .slice none 0 0, .slice none 0 0] 57) = W at *
  obtain ⟨k0, k1, k2, k3⟩ := BX.out.p
  go_cut [24] (fun _ wc => ∃ vk vv vc, NOwn (w.heap.size + 2) wc (.agg #[.int .i64 n.kind, vk, vv, vc]) (npart n lo hi) ∧ wc.heap[w.heap.size + 1]? = some (.cells #[.int .i64 n.kind, vk, vv, vc] 57) ∧ Below w.heap.size w wc)
  case first =>
    go_region_held3 (fun w' => w'.cell? ⟨w.heap.size, 0, none⟩ = some (.int .i64 n.kind) ∧ w'.cell? ⟨w.heap.size, 1, none⟩ = some (.slice A1 n.keys.length c1) ∧ w'.cell? ⟨w.heap.size, 2, none⟩ = some (.slice A2 n.vals.length c2) ∧ w'.cell? ⟨w.heap.size, 3, none⟩ = some (.slice A3 n.kids.length c3))
      (first | go_keep | exact y.p)
      (first
        | (go_at_call_of 96 (Value.slice A1 n.keys.length c1); (with_reducible refine (CK.out _ (by first | exact z | exact below_drew' B0.out)).mono ?_); rintro e w' ⟨vK, rfl, ho, hb⟩; have dKV := (by first | exact fresh2 oV ho (Nat.le_refl _) | exact True.intro); have dKC := (by first | exact fresh2 oC ho (Nat.le_refl _) | exact True.intro); have oV := (by first | exact B.own_below oV hb | exact True.intro); have oC := (by first | exact B.own_below oC hb | exact True.intro); have oK := own_mono ho (show w.heap.size + 2 ≤ _ from by first | exact blk_lt r6 | exact blk_lt R6.out); obtain ⟨AK, aK, hv, _⟩ := own_at (V := vStr) ho; subst hv; have y := (by first | exact y.below hb | exact BX.out.drew hb); have r6 := (by first | exact blk_below r6 hb (blk_lt r6) | exact blk_below R6.out (below_of_drew hb) (blk_lt R6.out)); have z := (by first | exact z.trans (hb.mono z.size) | exact B0.out.trans ((below_of_drew hb).mono B0.out.size)); obtain ⟨⟨m0, m1, m2, m3⟩, q0, q1, q2, q3⟩ := row4 r6; clear ho hb)
        | (go_at_call_of 96 (Value.slice A2 n.vals.length c2); (with_reducible refine (CV.out _ (by first | exact z | exact below_drew' B0.out)).mono ?_); rintro e w' ⟨vV, rfl, ho, hb⟩; have dKV := (by first | exact fresh1 oK ho (Nat.le_refl _) | exact True.intro); have dVC := (by first | exact fresh2 oC ho (Nat.le_refl _) | exact True.intro); have oK := (by first | exact B.own_below oK hb | exact True.intro); have oC := (by first | exact B.own_below oC hb | exact True.intro); have oV := own_mono ho (show w.heap.size + 2 ≤ _ from by first | exact blk_lt r6 | exact blk_lt R6.out); obtain ⟨AV, aV, hv, _⟩ := own_at (V := vStr) ho; subst hv; have y := (by first | exact y.below hb | exact BX.out.drew hb); have r6 := (by first | exact blk_below r6 hb (blk_lt r6) | exact blk_below R6.out (below_of_drew hb) (blk_lt R6.out)); have z := (by first | exact z.trans (hb.mono z.size) | exact B0.out.trans ((below_of_drew hb).mono B0.out.size)); obtain ⟨⟨m0, m1, m2, m3⟩, q0, q1, q2, q3⟩ := row4 r6; clear ho hb)
        | (go_at_call_of 97 (Value.slice A3 n.kids.length c3); (with_reducible refine (CC.out _ (by first | exact z | exact below_drew' B0.out)).mono ?_); rintro e w' ⟨vC, rfl, ho, hb⟩; have dKC := (by first | exact fresh1 oK ho (Nat.le_refl _) | exact True.intro); have dVC := (by first | exact fresh1 oV ho (Nat.le_refl _) | exact True.intro); have oK := (by first | exact B.own_below oK hb | exact True.intro); have oV := (by first | exact B.own_below oV hb | exact True.intro); have oC := own_mono ho (show w.heap.size + 2 ≤ _ from by first | exact blk_lt r6 | exact blk_lt R6.out); obtain ⟨AC, aC, hv, _⟩ := own_at (V := vInt) ho; subst hv; have y := (by first | exact y.below hb | exact BX.out.drew hb); have r6 := (by first | exact blk_below r6 hb (blk_lt r6) | exact blk_below R6.out (below_of_drew hb) (blk_lt R6.out)); have z := (by first | exact z.trans (hb.mono z.size) | exact B0.out.trans ((below_of_drew hb).mono B0.out.size)); obtain ⟨⟨m0, m1, m2, m3⟩, q0, q1, q2, q3⟩ := row4 r6; clear ho hb))
    all_goals (go_wp2; go_meet; case rel => exact ⟨_, _, _, ⟨_, _, _, rfl, own_put4 oK (by omega), own_put4 oV (by omega), own_put4 oC (by omega), dKV, dKC, dVC⟩, set4 r6 _ _ _ _, below_put4 z (by omega)⟩)
  case rest =>
    obtain ⟨vk, vv, vc, hno, hr, hb⟩ := hcut
    have HN := Lib.hid hno
    obtain ⟨⟨m0, m1, m2, m3⟩, _⟩ := row4 hr
    go_wp2
    (try simp only [Exit.inBlock, Exit.then])
    refine bodyPost_ret (results_cells rfl _ _ (w.heap.size + 1) [.int .i64 n.kind, vk, vv, vc] _ rfl ?_ Try.underlying57 node_info) rfl ?_
    · exact four ⟨m0, m1, m2, m3⟩
    · exact ⟨_, rfl, nown_mono HN.out (by omega), hb⟩
end Nod
end Go.Proofs.Ytjikioiejdfodaa
