/-
  What the program's heat.Rank does of at most 20 heats: it answers the places ranked, in memory of its own.
-/
import Derived.Test.YtkbchpbdpkbnjaaHeatSort
import Derived.Test.YtkbchpbdpkbnjaaHeatWalks
import Derived.Test.YtkbchpbdpkbnjaaHeatFloats
import Derived.Test.YtkbchpbdpkbnjaaShelf
import Derived.Lib.OwnBridge
import Derived.OwnWalk
namespace Go.Proofs.Ytkbchpbdpkbnjaa
open Go.RowKit Go.Sort
namespace H
open I (below_drewN)

def encP {n : Nat} (i : Fin (n + 1)) : Value := .int .i64 (i.val : Int)

/-- What the closure reads: the box that holds the list, and the list. -/
structure Env (W : World) (g bx b1 o1 c : Nat) (l : List Nat) : Prop where
  box : W.cell? ⟨bx, 0, none⟩ = some (.slice (some ⟨b1, o1, none⟩) l.length c)
  boxl : bx < W.heap.size
  boxn : bx ≠ g
  b1l : b1 < W.heap.size
  b1n : b1 ≠ g
  at_ : ∀ i (h : i < l.length), W.cell? ⟨b1, o1 + i, none⟩ = some (.float .f64 l[i])
theorem Env.put {W : World} {g bx b1 o1 c : Nat} {l : List Nat} (h : Env W g bx b1 o1 c l) {n : Nat} (d : Array (Fin (n + 1))) (m : Nat) (os : Array Obj) : Env (sortWorld encP W g 0 m d os) g bx b1 o1 c l := by
  have hs : W.heap.size ≤ (sortWorld encP W g 0 m d os).heap.size := by simp [sortWorld, grow]
  have hc : ∀ b off v, b < W.heap.size → b ≠ g → W.cell? ⟨b, off, none⟩ = some v → (sortWorld encP W g 0 m d os).cell? ⟨b, off, none⟩ = some v := fun b off v h1 h2 h3 => by
    unfold sortWorld
    rw [cell?_grow _ _ _ (by simpa using h1), cell?_putRow_other encP _ g 0 d _ (Or.inl h2)]
    exact h3
  exact ⟨hc _ _ _ h.boxl h.boxn h.box, Nat.lt_of_lt_of_le h.boxl hs, h.boxn, Nat.lt_of_lt_of_le h.b1l hs, h.b1n, fun i hi => hc _ _ _ h.b1l h.b1n (h.at_ i hi)⟩

set_option maxRecDepth 100000 in
set_option maxHeartbeats 1000000 in
theorem less_any {n : Nat} (l : List Nat) (hl : l.length = n + 1) (hbl : ∀ b ∈ l, b < 18446744073709551616) {W : World} {g bx b1 o1 c : Nat} (E : Env W g bx b1 o1 c l) (x y : Fin (n + 1)) :
    Calls Try.prog 59 #[.int .i64 (x.val : Int), .int .i64 (y.val : Int), .pointer (some ⟨bx, 0, none⟩)] W fun e w' => e = .returned (.int .i64 (Heat.cfOf l x y)) ∧ ∃ q, w' = W.drewN q := by
  have hb := E.box
  have hx : x.val < l.length := by rw [hl]; exact x.isLt
  have hy : y.val < l.length := by rw [hl]; exact y.isLt
  have cx := E.at_ x.val hx
  have cy := E.at_ y.val hy
  have hv : Heat.cfOf l x y = Heat.cmp l[y.val] l[x.val] := by
    unfold Heat.cfOf; simp [List.getD, List.getElem?_eq_getElem hx, List.getElem?_eq_getElem hy]
  rw [hv]
  have CC := Lib.hid (fun w => compare_any l[y.val] l[x.val] w (hbl _ (List.getElem_mem hy)) (hbl _ (List.getElem_mem hx)))
  have hxi : ((x.val : Nat) : Int) < (l.length : Int) := by omega
  have hyi : ((y.val : Nat) : Int) < (l.length : Int) := by omega
  clear hv E hbl hl
  generalize l[x.val] = fx at *
  generalize l[y.val] = fy at *
  generalize x.val = i at *
  generalize y.val = j at *
  generalize l.length = L at *
  go_enter Try.func59, Try.ntmps59
  go_wp2
  go_quiet (first | (go_at_call 15; exact Calls.quiet_of_same ((CC.out _).mono fun e w' h => ⟨h.1, h.2.symm⟩)))
  go_wp2
  go_ret
  exact ⟨rfl, _, rfl⟩

theorem insOuter_size {α : Type} [Inhabited α] (lt : α → α → Bool) (a b : Nat) : ∀ (n i : Nat) (d : Array α), b - i = n → a ≤ i → b ≤ d.size → (insOuter lt a b i d).size = d.size
  | 0, i, d, hn, _, _ => by rw [insOuter_stop lt a b i d (by omega)]
  | n + 1, i, d, hn, ha, hb => by
    have h := (Heat.insInner_in lt a i d (by omega) ha).2.2
    rw [insOuter_go lt a b i d (by omega), insOuter_size lt a b n (i + 1) _ (by omega) (by omega) (by rw [h]; exact hb), h]
theorem insertionSort_size {α : Type} [Inhabited α] (lt : α → α → Bool) (d : Array α) (a b : Nat) (hb : b ≤ d.size) : (insertionSort lt d a b).size = d.size ∧ True := ⟨insOuter_size lt a b _ (a + 1) d rfl (by omega) hb, trivial⟩

theorem e59 : ∀ args w, (callFunc 59 args).run Try.prog w = .ok (.enter 59 args) w := fun args w => enters_of Try.func59 (by kernel_rfl) rfl args w
theorem encP_one {n : Nat} : OneCell (encP (n := n)) := fun _ => rfl

theorem ins_any {n : Nat} (l : List Nat) (hl : l.length = n + 1) (hn : n ≤ 1000) (hbl : ∀ b ∈ l, b < 18446744073709551616) {W : World} {g bx b1 o1 c : Nat} (E : Env W g bx b1 o1 c l) (cap a b : Nat) (hab : a ≤ b) (hb : b ≤ n + 1) (d : Array (Fin (n + 1))) (hd : d.size = n + 1) (hH : Holds encP W g 0 d) :
    Calls Try.prog 78 #[.slice (some ⟨g, 0, none⟩) (n + 1) cap, .int .i64 (a : Int), .int .i64 (b : Int), .func (.func 59) #[] #[.pointer (some ⟨bx, 0, none⟩)]] W fun e w' =>
      e = .returned (.tuple #[]) ∧ ∃ m, w' = (putRow encP W g 0 (insertionSort (ltOf (Heat.cfOf l)) d a b)).drewN m := by
  have h := Try.insertionSortCmpFunc_one encP encP_one (Heat.cfOf l) 59 #[.pointer (some ⟨bx, 0, none⟩)] g 0 cap a b d W e59 (fun m os dk _ x y => less_any l hl hbl (E.put dk m os) x y) hH hab (by omega) (by omega)
  rw [hd] at h
  exact h

set_option maxRecDepth 100000 in
set_option maxHeartbeats 1000000 in
theorem stable_small {n : Nat} (l : List Nat) (hl : l.length = n + 1) (hn : n + 1 ≤ 20) (hbl : ∀ b ∈ l, b < 18446744073709551616) {W : World} {g bx b1 o1 c : Nat} (E : Env W g bx b1 o1 c l) (cap : Nat) (d : Array (Fin (n + 1))) (hd : d.size = n + 1) (hH : Holds encP W g 0 d) :
    Calls Try.prog 72 #[.slice (some ⟨g, 0, none⟩) (n + 1) cap, .int .i64 ((n : Int) + 1), .func (.func 59) #[] #[.pointer (some ⟨bx, 0, none⟩)]] W fun e w' =>
      e = .returned (.tuple #[]) ∧ ∃ m, w' = (putRow encP W g 0 (insertionSort (ltOf (Heat.cfOf l)) d 0 (n + 1))).drewN m := by
  have C1 : Hid (Calls Try.prog 78 #[.slice (some ⟨g, 0, none⟩) (n + 1) cap, .int .i64 0, .int .i64 ((n : Int) + 1), .func (.func 59) #[] #[.pointer (some ⟨bx, 0, none⟩)]] W fun e w' =>
      e = .returned (.tuple #[]) ∧ ∃ m, w' = (putRow encP W g 0 (insertionSort (ltOf (Heat.cfOf l)) d 0 (n + 1))).drewN m) := ins_any l hl (by omega) hbl E cap 0 (n + 1) (by omega) (Nat.le_refl _) d hd hH
  rcases Nat.lt_or_ge (n + 1) 20 with h20 | h20
  · generalize insertionSort (ltOf (Heat.cfOf l)) d 0 (n + 1) = D at *
    clear hH hd E
    go_enter Try.func72, Try.ntmps72
    go_wp2
    refine wp_loop_rounds 1 ?_
    rw [rounds_succ]
    go_wp2_with (go_at_call 78; ((with_reducible refine C1.out.mono ?_); rintro e w1 ⟨rfl, m, rfl⟩))
    refine wp_loop_rounds 1 ?_
    rw [rounds_succ]
    go_wp2
    all_goals first | (exfalso; omega) | (go_end0; exact ⟨rfl, m, rfl⟩)
  · have hn20 : n + 1 = 20 := by omega
    have hn19 : n = 19 := by omega
    subst hn19
    have hs : (insertionSort (ltOf (Heat.cfOf l)) d 0 20).size = 20 := by
      obtain ⟨h1, _⟩ := insertionSort_size (ltOf (Heat.cfOf l)) d 0 20 (by omega)
      rw [h1, hd]
    generalize hD : insertionSort (ltOf (Heat.cfOf l)) d 0 (19 + 1) = D at *
    have C2 : Hid (∀ m, Calls Try.prog 78 #[.slice (some ⟨g, 0, none⟩) (19 + 1) cap, .int .i64 20, .int .i64 20, .func (.func 59) #[] #[.pointer (some ⟨bx, 0, none⟩)]] ((putRow encP W g 0 D).drewN m) fun e w' => e = .returned (.tuple #[]) ∧ ∃ q, w' = ((putRow encP W g 0 D).drewN m).drewN q) := fun m => by
      have h := ins_any l hl (by omega) hbl (W := (putRow encP W g 0 D).drewN m) (E.put D m #[]) cap 20 20 (Nat.le_refl _) (by omega) D hs (holds_putRow encP W g 0 d D hH (by rw [hs, hd]))
      refine h.mono fun e w' ⟨he, q, hw⟩ => ⟨he, q, ?_⟩
      have e2 : insertionSort (ltOf (Heat.cfOf l)) D 20 20 = D := insOuter_stop _ _ _ _ _ (by omega)
      rw [hw, e2]
      have e3 : putRow encP ((putRow encP W g 0 D).drewN m) g 0 D = (putRow encP W g 0 D).drewN m := putRow_self encP _ g 0 D (holds_putRow encP W g 0 d D hH (by rw [hs, hd]))
      rw [e3]
    have D1 : Hid (Calls Try.prog 78 #[.slice (some ⟨g, 0, none⟩) 20 cap, .int .i64 0, .int .i64 20, .func (.func 59) #[] #[.pointer (some ⟨bx, 0, none⟩)]] W fun e w' => e = .returned (.tuple #[]) ∧ ∃ m, w' = (putRow encP W g 0 D).drewN m) := C1.out
    have D2 : Hid (∀ m, Calls Try.prog 78 #[.slice (some ⟨g, 0, none⟩) 20 cap, .int .i64 20, .int .i64 20, .func (.func 59) #[] #[.pointer (some ⟨bx, 0, none⟩)]] ((putRow encP W g 0 D).drewN m) fun e w' => e = .returned (.tuple #[]) ∧ ∃ q, w' = ((putRow encP W g 0 D).drewN m).drewN q) := C2.out
    clear hH hd E hD hs C1 C2
    go_enter Try.func72, Try.ntmps72
    go_wp2
    refine wp_loop_rounds 2 ?_
    rw [rounds_succ]
    go_wp2_with (go_at_call 78; ((with_reducible refine D1.out.mono ?_); rintro e w1 ⟨rfl, m, rfl⟩))
    rw [rounds_succ]
    go_wp2_with (go_at_call 78; ((with_reducible refine (D2.out m).mono ?_); rintro e w1 ⟨rfl, q, rfl⟩))
    refine wp_loop_rounds 1 ?_
    rw [rounds_succ]
    go_wp2
    all_goals first | (exfalso; omega) | (go_end0; exact ⟨rfl, m + q, rfl⟩)

set_option maxRecDepth 100000 in
set_option maxHeartbeats 1000000 in
theorem sorts_small {n : Nat} (l : List Nat) (hl : l.length = n + 1) (hn : n + 1 ≤ 20) (hbl : ∀ b ∈ l, b < 18446744073709551616) {W : World} {g bx b1 o1 c : Nat} (E : Env W g bx b1 o1 c l) (cap : Nat) (d : Array (Fin (n + 1))) (hd : d.size = n + 1) (hH : Holds encP W g 0 d) :
    Calls Try.prog 58 #[.slice (some ⟨g, 0, none⟩) (n + 1) cap, .func (.func 59) #[] #[.pointer (some ⟨bx, 0, none⟩)]] W fun e w' =>
      e = .returned (.tuple #[]) ∧ ∃ m, w' = (putRow encP W g 0 (insertionSort (ltOf (Heat.cfOf l)) d 0 (n + 1))).drewN m := by
  have C := Lib.hid (stable_small l hl hn hbl E cap d hd hH)
  generalize insertionSort (ltOf (Heat.cfOf l)) d 0 (n + 1) = D at *
  clear hH hd E
  go_enter Try.func58, Try.ntmps58
  go_wp2_with (go_at_call 72; ((with_reducible refine C.out.mono ?_); rintro e w1 ⟨rfl, m, rfl⟩))
  go_end0
  exact ⟨rfl, m, rfl⟩

set_option maxRecDepth 100000 in
set_option maxHeartbeats 1000000 in
theorem ins_none (A : Option Addr) (c : Nat) (f : Value) (W : World) : Calls Try.prog 78 #[.slice A 0 c, .int .i64 0, .int .i64 0, f] W fun e w' => e = .returned (.tuple #[]) ∧ W = w' := by
  go_enter Try.func78, Try.ntmps78
  go_wp2
  refine wp_loop_rounds 1 ?_
  rw [rounds_succ]
  go_wp2
  go_end0
  exact ⟨rfl, rfl⟩
set_option maxRecDepth 100000 in
set_option maxHeartbeats 1000000 in
theorem stable_none (A : Option Addr) (c : Nat) (f : Value) (W : World) : Calls Try.prog 72 #[.slice A 0 c, .int .i64 0, f] W fun e w' => e = .returned (.tuple #[]) ∧ W = w' := by
  have C := Lib.hid (ins_none A c f W)
  go_enter Try.func72, Try.ntmps72
  go_wp2
  refine wp_loop_rounds 1 ?_
  rw [rounds_succ]
  go_wp2_with (go_at_call 78; ((with_reducible refine C.out.mono ?_); rintro e w1 ⟨rfl, rfl⟩))
  refine wp_loop_rounds 1 ?_
  rw [rounds_succ]
  go_wp2
  go_end0
  exact ⟨rfl, rfl⟩
set_option maxRecDepth 100000 in
set_option maxHeartbeats 1000000 in
theorem sorts_none (A : Option Addr) (c : Nat) (f : Value) (W : World) : Calls Try.prog 58 #[.slice A 0 c, f] W fun e w' => e = .returned (.tuple #[]) ∧ W = w' := by
  have C := Lib.hid (stable_none A c f W)
  go_enter Try.func58, Try.ntmps58
  go_wp2_with (go_at_call 72; ((with_reducible refine C.out.mono ?_); rintro e w1 ⟨rfl, rfl⟩))
  go_end0
  exact ⟨rfl, rfl⟩

theorem made_zeros (n : Nat) : (madeCells #[Value.int .i64 0] (n + 1)).toList = (List.replicate (n + 1) (0 : Fin (n + 1))).map encP := by
  simp [madeCells, encP, Nat.mod_one]
  apply List.ext_getElem <;> simp

set_option maxRecDepth 100000 in
set_option maxHeartbeats 1000000 in
theorem rank_some {n : Nat} (l : List Nat) (hl : l.length = n + 1) (hn : n ≤ 1000) (b1 o1 c : Nat) (w : World) (hb1 : b1 < w.heap.size) (hx : ∀ i (h : i < l.length), w.cell? ⟨b1, o1 + i, none⟩ = some (.float .f64 l[i]))
    (R : Array (Fin (n + 1))) (hR : R.size = n + 1)
    (hsort : ∀ (W : World) (g bx : Nat), Env W g bx b1 o1 c l → Holds encP W g 0 (Heat.places n) → Calls Try.prog 58 #[.slice (some ⟨g, 0, none⟩) (n + 1) (n + 1), .func (.func 59) #[] #[.pointer (some ⟨bx, 0, none⟩)]] W fun e w' =>
      e = .returned (.tuple #[]) ∧ ∃ m, w' = (putRow encP W g 0 R).drewN m) :
    Calls Try.prog 33 #[.slice (some ⟨b1, o1, none⟩) (n + 1) c] w fun e w' => ∃ v, e = .returned v ∧ w'.ownsRow w.heap.size 3 1 v (n + 1) (R.toList.map encP) ∧ Below w.heap.size w w' := by
  obtain ⟨i0, hi, hz0, hz1, hz2⟩ := info_parts I.info3
  have HX := Lib.hid hx
  have HS : Aside _ := hsort
  have HL := Lib.hid hl
  clear hx hsort hl
  have hm3 : n + 1 ≤ maxLen := by unfold maxLen; omega
  have hm4 : i0.bytes * (n + 1) ≤ 281474976710656 := by rw [hz2]; omega
  go_enter Try.func33, Try.ntmps33
  go_wp2_with (at_make; refine wpList_make_full _ rfl _ _ 41 rfl w.heap.size 3 i0 (.int .i64 0) 1 Try.underlying41 hi hz0 hz1 .i64 .i64 _ _ (n + 1) rfl rfl (by omega) (by omega) hm4 hm3 (by simp) ?_)
  intro W0 own0 gr0
  have bel0 : RowKit.Below w.heap.size w W0 := ((Below.refl _ _).alloc (Nat.le_refl _) _).grown gr0 (by simp) (fun k h => by cases h)
  rw [made_zeros] at own0
  obtain ⟨g, cap, hv, hgb, hgl, _, _, hrl, hH0⟩ := Lib.holds_of_ownsRow own0 (by simp)
  injection hv with hv1 _ hcap
  subst hcap
  injection hv1 with hv1
  injection hv1 with hg _
  have hbx : W0.cell? ⟨w.heap.size, 0, none⟩ = some (.slice (some ⟨b1, o1, none⟩) (n + 1) c) := by
    have hk := gr0.block w.heap.size (by simp) (by simp)
    rw [heap_alloc_new] at hk
    simp [World.cell?, hk]
  have E0 : Env W0 g w.heap.size b1 o1 c l := ⟨by rw [HL.out]; exact hbx, by omega, by omega, Nat.lt_of_lt_of_le hb1 bel0.size, by omega, fun i hi => (bel0.cell (p := ⟨b1, o1 + i, none⟩) hb1).trans (HX.out i hi)⟩
  subst hg
  have O0 := Lib.hid own0
  have H0 := Lib.hid hH0
  have EE := Lib.hid E0
  have B0 := Lib.hid bel0
  clear own0 hH0 E0 bel0 hbx gr0 hrl
  go_wp2
  go_loopw [10] (fun i wr => ∃ (k : Nat) (dk : Array (Fin (n + 1))), k ≤ n + 1 ∧ i = .int .i64 (k : Int) ∧ dk.size = n + 1 ∧ (∀ j, j < k → dk[j]! = (Heat.places n)[j]!) ∧ wr = putRow encP W0 (w.heap.size + 1) 0 dk) (fun i _ => n + 1 - (intOf i).toNat)
  case atStart => exact ⟨0, (List.replicate (n + 1) (0 : Fin (n + 1))).toArray, Nat.zero_le _, rfl, by simp, fun j hj => absurd hj (by omega), (putRow_self encP W0 _ 0 _ H0.out).symm⟩
  case round =>
    obtain ⟨k, dk, hk, rfl, hdk, hall, rfl⟩ := hrel
    have HA := Lib.hid hall
    clear hall
    by_cases hlt : k < n + 1
    · obtain ⟨ck, fk⟩ := holds_putRow encP W0 (w.heap.size + 1) 0 _ dk H0.out (by simp [hdk]) k (by omega)
      rw [Nat.zero_add] at ck fk
      have hset := putRow_set encP W0 (w.heap.size + 1) 0 dk k ⟨k, hlt⟩ (by omega)
      rw [Nat.zero_add] at hset
      have HSET := Lib.hid hset
      clear hset
      generalize hW : putRow encP W0 (w.heap.size + 1) 0 dk = W1 at *
      have hki : (k : Int) < (n : Int) + 1 := by omega
      go_wp2
      go_roundw
      case rel =>
        refine ⟨k + 1, dk.setIfInBounds k ⟨k, hlt⟩, by omega, by go_num, by simp [hdk], fun j hj => ?_, HSET.out⟩
        rcases Nat.lt_or_ge j k with h1 | h1
        · rw [getElem!_set_other _ _ _ _ (by omega)]; exact HA.out j h1
        · have : j = k := by omega
          subst this
          rw [getElem!_set_same _ _ _ (by omega), Heat.places_get n j hlt]
      case measure => simp [intOf]; omega
    · have hkn : k = n + 1 := by omega
      subst hkn
      have hdp : dk = Heat.places n := by
        apply Array.ext
        · rw [hdk, Heat.places_size]
        · intro i h1 h2
          have := HA.out i (by omega)
          rw [getElem!_pos _ i h1, getElem!_pos _ i h2] at this
          exact this
      subst hdp
      have CS := Lib.hid (HS.out (putRow encP W0 (w.heap.size + 1) 0 (Heat.places n)) (w.heap.size + 1) w.heap.size (EE.out.put (Heat.places n) 0 #[]) (holds_putRow encP W0 _ 0 _ _ H0.out (by simp [Heat.places_size])))
      have HP : Hid (∀ m, (putRow encP (putRow encP W0 (w.heap.size + 1) 0 (Heat.places n)) (w.heap.size + 1) 0 R).drewN m = putRow encP (Sort.ahead W0 m) (w.heap.size + 1) 0 R.toList.toArray) := fun m => by
        rw [putRow_putRow encP W0 _ 0 _ _ (by rw [hR, Heat.places_size])]; rfl
      generalize putRow encP W0 (w.heap.size + 1) 0 (Heat.places n) = W1 at *
      go_wp2_with (go_at_call 58; ((with_reducible refine CS.out.mono ?_); rintro e w1 ⟨rfl, m, rfl⟩))
      rw [HP.out m]
      go_ret
      refine ⟨_, rfl, ?_, Lib.below_putRow B0.out (by omega)⟩
      have h := Lib.ownsRow_putRow (q := m) (k := n + 1) (ys := R.toList) O0.out (by simpa using hR) (Nat.le_refl _)
      rw [List.take_of_length_le (by simp [hR])] at h
      exact h
end H
end Go.Proofs.Ytkbchpbdpkbnjaa
