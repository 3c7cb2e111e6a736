/-
  The stable sort of more than one block, and with it heat.Rank of at most 39 heats.
-/
import Derived.Test.YtkbchpbdpkbnjaaHeatSym3
import Derived.Test.YtkbchpbdpkbnjaaHeatAwake
namespace Go.Proofs.Ytkbchpbdpkbnjaa
open Go.RowKit Go.Sort
namespace H
open I (below_drewN icells IntsAt own_ints)

theorem sym_all {n : Nat} (hn : n ≤ 1000) (l : List Nat) (hl : l.length = n + 1) (hbl : ∀ b ∈ l, b < 18446744073709551616) (g bx b1 o1 c cap : Nat) : ∀ (N : Nat) (W : World) (d : Array (Fin (n + 1))) (a m b : Nat), b - a ≤ N → Env W g bx b1 o1 c l → d.size = n + 1 → Holds encP W g 0 d → a < m → m < b → b ≤ n + 1 → Heat.Runs (fun i : Fin (n + 1) => i.val) (Heat.ltP l) a m b d →
    Calls Try.prog 79 #[.slice (some ⟨g, 0, none⟩) (n + 1) cap, .int .i64 (a : Int), .int .i64 (m : Int), .int .i64 (b : Int), .func (.func 59) #[] #[.pointer (some ⟨bx, 0, none⟩)]] W fun e w' =>
      e = .returned (.tuple #[]) ∧ ∃ d' q, PermIn a b d d' ∧ SortedIn (Heat.ltP l) a b d' ∧ w' = (putRow encP W g 0 d').drewN q
  | 0, W, d, a, m, b, h, _, _, _, h1, h2, _, _ => absurd h (by omega)
  | N + 1, W, d, a, m, b, h, E, hd, hH, h1, h2, hb, hR => by
    by_cases hm1 : m = a + 1
    · subst hm1
      exact sym_left hn l hl hbl E cap d hd hH a b h2 hb hR
    · by_cases hb1 : b = m + 1
      · subst hb1
        exact sym_right hn l hl hbl E cap d hd hH a m (by omega) hb hR
      · exact sym_gen hn l hl hbl E cap d hd hH a m b (by omega) (by omega) hb hR (fun W' d' a' m' b' E' hd' hH' k1 k2 k3 k4 hR' => sym_all hn l hl hbl g bx b1 o1 c cap N W' d' a' m' b' (by omega) E' hd' hH' k1 k2 k3 hR')

/-- the two blocks of the stable sort -/
theorem two_runs {n : Nat} (l : List Nat) (hn : 20 < n + 1) (d1 d2 : Array (Fin (n + 1))) (h1 : d1 = insertionSort (ltOf (Heat.cfOf l)) (Heat.places n) 0 20) (h2 : d2 = insertionSort (ltOf (Heat.cfOf l)) d1 20 (n + 1)) :
    d1.size = n + 1 ∧ d2.size = n + 1 ∧ PermIn 0 (n + 1) (Heat.places n) d2 ∧ Heat.Runs (fun i : Fin (n + 1) => i.val) (Heat.ltP l) 0 20 (n + 1) d2 := by
  have hps := Heat.places_size n
  have c1 := Heat.insertionSort_congr (ltOf (Heat.cfOf l)) (Heat.ltP l) (fun i : Fin (n + 1) => i.val) (fun x y h => Heat.cf_lt l x y h) 0 20 (Heat.places n) (by omega) (fun k k' _ k2 k3 => by
    rw [Heat.places_get n k (by omega), Heat.places_get n k' (by omega)]; exact k2)
  rw [c1] at h1
  obtain ⟨p1, s1⟩ := insertionSort_holds (Heat.swoP l) (Heat.places n) 0 20 (by omega) (by omega)
  rw [← h1] at p1 s1
  have hd1 : d1.size = n + 1 := by rw [p1.1, hps]
  have ho : ∀ k (h : k < n + 1), 20 ≤ k → d1[k]! = ⟨k, h⟩ := fun k h hk => by rw [p1.2.1 k (.inr hk), Heat.places_get n k h]
  have c2 := Heat.insertionSort_congr (ltOf (Heat.cfOf l)) (Heat.ltP l) (fun i : Fin (n + 1) => i.val) (fun x y h => Heat.cf_lt l x y h) 20 (n + 1) d1 (by omega) (fun k k' k1 k2 k3 => by
    rw [ho k (by omega) k1, ho k' k3 (by omega)]; exact k2)
  rw [c2] at h2
  obtain ⟨p2, s2⟩ := insertionSort_holds (Heat.swoP l) d1 20 (n + 1) (by omega) (by omega)
  rw [← h2] at p2 s2
  have hd2 : d2.size = n + 1 := by rw [p2.1, hd1]
  have hlow : ∀ i, 0 ≤ i → i < 20 → d1[i]!.val < 20 := Sort.permIn_all (Heat.places n) d1 0 20 (fun x => x.val < 20) (by omega) p1 (fun i _ hi => by rw [Heat.places_get n i (by omega)]; exact hi)
  have hhigh : ∀ i, 20 ≤ i → i < n + 1 → 20 ≤ d2[i]!.val := Sort.permIn_all d1 d2 20 (n + 1) (fun x => 20 ≤ x.val) (by omega) p2 (fun i hi h => by rw [ho i h hi]; exact hi)
  have hsame : ∀ k, k < 20 → d2[k]! = d1[k]! := fun k hk => p2.2.1 k (.inl hk)
  refine ⟨hd1, hd2, permIn_trans _ _ _ _ _ (permIn_mono _ _ 0 20 0 (n + 1) (Nat.le_refl _) (by omega) (by omega) p1) (permIn_mono _ _ 20 (n + 1) 0 (n + 1) (by omega) (Nat.le_refl _) (by omega) p2), ⟨fun x y hx hxy hy => ?_, s2, fun i j k1 k2 k3 k4 => ?_⟩⟩
  · rw [hsame x (by omega), hsame y hy]; exact s1 x y hx hxy hy
  · rw [hsame i k2]; exact Nat.lt_of_lt_of_le (hlow i k1 k2) (hhigh j k3 k4)

set_option maxRecDepth 100000 in
set_option maxHeartbeats 2000000 in
theorem stable_mid {n : Nat} (l : List Nat) (hl : l.length = n + 1) (hn1 : 20 < n + 1) (hn2 : n + 1 < 40) (hbl : ∀ b ∈ l, b < 18446744073709551616) {W : World} {g bx b1 o1 c : Nat} (E : Env W g bx b1 o1 c l) (cap : Nat) (hH : Holds encP W g 0 (Heat.places n)) :
    Calls Try.prog 72 #[.slice (some ⟨g, 0, none⟩) (n + 1) cap, .int .i64 ((n : Int) + 1), .func (.func 59) #[] #[.pointer (some ⟨bx, 0, none⟩)]] W fun e w' =>
      e = .returned (.tuple #[]) ∧ ∃ (R : Array (Fin (n + 1))) (m : Nat), R.size = n + 1 ∧ Heat.Ranked l (R.toList.map fun i => i.val) ∧ w' = (putRow encP W g 0 R).drewN m := by
  obtain ⟨d1, hd1⟩ : ∃ d1, d1 = insertionSort (ltOf (Heat.cfOf l)) (Heat.places n) 0 20 := ⟨_, rfl⟩
  obtain ⟨d2, hd2⟩ : ∃ d2, d2 = insertionSort (ltOf (Heat.cfOf l)) d1 20 (n + 1) := ⟨_, rfl⟩
  obtain ⟨z1, z2, hperm, hruns⟩ := two_runs l hn1 d1 d2 hd1 hd2
  have hps := Heat.places_size n
  have C1 : Hid (Calls Try.prog 78 #[.slice (some ⟨g, 0, none⟩) (n + 1) cap, .int .i64 0, .int .i64 20, .func (.func 59) #[] #[.pointer (some ⟨bx, 0, none⟩)]] W fun e w' => e = .returned (.tuple #[]) ∧ ∃ m, w' = (putRow encP W g 0 d1).drewN m) := by
    have h := ins_any l hl (by omega) hbl E cap 0 20 (by omega) (by omega) (Heat.places n) hps hH
    rw [← hd1] at h; exact h
  have C2 : Hid (∀ m, Calls Try.prog 78 #[.slice (some ⟨g, 0, none⟩) (n + 1) cap, .int .i64 20, .int .i64 ((n : Int) + 1), .func (.func 59) #[] #[.pointer (some ⟨bx, 0, none⟩)]] ((putRow encP W g 0 d1).drewN m) fun e w' => e = .returned (.tuple #[]) ∧ ∃ q, w' = (putRow encP W g 0 d2).drewN (m + q)) := fun m => by
    have h := ins_any l hl (by omega) hbl (W := (putRow encP W g 0 d1).drewN m) (E.put d1 m #[]) cap 20 (n + 1) (by omega) (Nat.le_refl _) d1 z1 (holds_putRow encP W g 0 (Heat.places n) d1 hH (by rw [z1, hps]))
    rw [← hd2] at h
    exact h.mono fun e w' ⟨he, q, hw⟩ => ⟨he, q, by rw [hw, put_again W g m q d1 d2 (by rw [z2, z1])]⟩
  have C3 : Hid (∀ m, Calls Try.prog 79 #[.slice (some ⟨g, 0, none⟩) (n + 1) cap, .int .i64 0, .int .i64 20, .int .i64 ((n : Int) + 1), .func (.func 59) #[] #[.pointer (some ⟨bx, 0, none⟩)]] ((putRow encP W g 0 d2).drewN m) fun e w' => e = .returned (.tuple #[]) ∧ ∃ (R : Array (Fin (n + 1))) (q : Nat), R.size = n + 1 ∧ Heat.Ranked l (R.toList.map fun i => i.val) ∧ w' = (putRow encP W g 0 R).drewN (m + q)) := fun m => by
    have h := sym_all (by omega) l hl hbl g bx b1 o1 c cap (n + 1) ((putRow encP W g 0 d2).drewN m) d2 0 20 (n + 1) (by omega) (E.put d2 m #[]) z2 (holds_putRow encP W g 0 (Heat.places n) d2 hH (by rw [z2, hps])) (by omega) (by omega) (Nat.le_refl _) hruns
    exact h.mono fun e w' ⟨he, R, q, hp, hs, hw⟩ => ⟨he, R, q, by rw [hp.1, z2], Heat.ranked_of l hl (Heat.permIn_all hps (permIn_trans _ _ _ _ _ hperm hp)) hs, by rw [hw, put_again W g m q d2 R hp.1]⟩
  clear hH E hd1 hd2 z1 z2 hperm hruns hps
  go_enter Try.func72, Try.ntmps72
  go_wp2
  refine wp_loop_rounds 2 ?_
  rw [rounds_succ]
  go_wp2_with (go_at_call 78; ((with_reducible refine C1.out.mono ?_); rintro e w1 ⟨rfl, m, rfl⟩))
  rw [rounds_succ]
  go_wp2_with (go_at_call 78; ((with_reducible refine (C2.out m).mono ?_); rintro e w1 ⟨rfl, q, rfl⟩))
  refine wp_loop_rounds 2 ?_
  rw [rounds_succ]
  go_wp2_with fail
  refine wp_loop_rounds 1 ?_
  rw [rounds_succ]
  go_wp2_with (go_at_call 79; ((with_reducible refine (C3.out (m + q)).mono ?_); rintro e w1 ⟨rfl, R, r, hRs, hRk, rfl⟩))
  rw [rounds_succ]
  go_wp2_with fail
  all_goals first | (exfalso; omega) | skip
  all_goals go_end0
  all_goals exact ⟨rfl, R, m + q + r, hRs, hRk, rfl⟩

set_option maxRecDepth 100000 in
set_option maxHeartbeats 1000000 in
theorem sorts_mid {n : Nat} (l : List Nat) (hl : l.length = n + 1) (hn1 : 20 < n + 1) (hn2 : n + 1 < 40) (hbl : ∀ b ∈ l, b < 18446744073709551616) {W : World} {g bx b1 o1 c : Nat} (E : Env W g bx b1 o1 c l) (cap : Nat) (hH : Holds encP W g 0 (Heat.places n)) :
    Calls Try.prog 58 #[.slice (some ⟨g, 0, none⟩) (n + 1) cap, .func (.func 59) #[] #[.pointer (some ⟨bx, 0, none⟩)]] W fun e w' =>
      e = .returned (.tuple #[]) ∧ ∃ (R : Array (Fin (n + 1))) (m : Nat), R.size = n + 1 ∧ Heat.Ranked l (R.toList.map fun i => i.val) ∧ w' = (putRow encP W g 0 R).drewN m := by
  have C := Lib.hid (stable_mid l hl hn1 hn2 hbl E cap hH)
  clear hH E
  go_enter Try.func58, Try.ntmps58
  go_wp2_with (go_at_call 72; ((with_reducible refine C.out.mono ?_); rintro e w1 ⟨rfl, R, m, hRs, hRk, rfl⟩))
  go_end0
  exact ⟨rfl, R, m, hRs, hRk, rfl⟩

set_option maxRecDepth 100000 in
set_option maxHeartbeats 1000000 in
theorem rank_some2 {n : Nat} (l : List Nat) (hl : l.length = n + 1) (hn : n ≤ 1000) (b1 o1 c : Nat) (w : World) (hb1 : b1 < w.heap.size) (hx : ∀ i (h : i < l.length), w.cell? ⟨b1, o1 + i, none⟩ = some (.float .f64 l[i]))
    (Good : Array (Fin (n + 1)) → Prop)
    (hsort : ∀ (W : World) (g bx : Nat), Env W g bx b1 o1 c l → Holds encP W g 0 (Heat.places n) → Calls Try.prog 58 #[.slice (some ⟨g, 0, none⟩) (n + 1) (n + 1), .func (.func 59) #[] #[.pointer (some ⟨bx, 0, none⟩)]] W fun e w' =>
      e = .returned (.tuple #[]) ∧ ∃ (R : Array (Fin (n + 1))) (m : Nat), R.size = n + 1 ∧ Good R ∧ w' = (putRow encP W g 0 R).drewN m) :
    Calls Try.prog 33 #[.slice (some ⟨b1, o1, none⟩) (n + 1) c] w fun e w' => ∃ (R : Array (Fin (n + 1))) (v : Value), R.size = n + 1 ∧ Good R ∧ e = .returned v ∧ w'.ownsRow w.heap.size 3 1 v (n + 1) (R.toList.map encP) ∧ RowKit.Below w.heap.size w w' := by
  obtain ⟨i0, hi, hz0, hz1, hz2⟩ := info_parts I.info3
  have HX := Lib.hid hx
  have HS : Aside _ := hsort
  have HL := Lib.hid hl
  clear hx hsort hl
  have hm3 : n + 1 ≤ maxLen := by unfold maxLen; omega
  have hm4 : i0.bytes * (n + 1) ≤ 281474976710656 := by rw [hz2]; omega
  go_enter Try.func33, Try.ntmps33
  go_wp2_with (at_make; refine wpList_make_full _ rfl _ _ 41 rfl w.heap.size 3 i0 (.int .i64 0) 1 Try.underlying41 hi hz0 hz1 .i64 .i64 _ _ (n + 1) rfl rfl (by omega) (by omega) hm4 hm3 (by simp) ?_)
  intro W0 own0 gr0
  have bel0 : RowKit.Below w.heap.size w W0 := ((Below.refl _ _).alloc (Nat.le_refl _) _).grown gr0 (by simp) (fun k h => by cases h)
  rw [made_zeros] at own0
  obtain ⟨g, cap, hv, hgb, hgl, _, _, hrl, hH0⟩ := Lib.holds_of_ownsRow own0 (by simp)
  injection hv with hv1 _ hcap
  subst hcap
  injection hv1 with hv1
  injection hv1 with hg _
  have hbx : W0.cell? ⟨w.heap.size, 0, none⟩ = some (.slice (some ⟨b1, o1, none⟩) (n + 1) c) := by
    have hk := gr0.block w.heap.size (by simp) (by simp)
    rw [heap_alloc_new] at hk
    simp [World.cell?, hk]
  have E0 : Env W0 g w.heap.size b1 o1 c l := ⟨by rw [HL.out]; exact hbx, by omega, by omega, Nat.lt_of_lt_of_le hb1 bel0.size, by omega, fun i hi => (bel0.cell (p := ⟨b1, o1 + i, none⟩) hb1).trans (HX.out i hi)⟩
  subst hg
  have O0 := Lib.hid own0
  have H0 := Lib.hid hH0
  have EE := Lib.hid E0
  have B0 := Lib.hid bel0
  clear own0 hH0 E0 bel0 hbx gr0 hrl
  go_wp2
  go_loopw [10] (fun i wr => ∃ (k : Nat) (dk : Array (Fin (n + 1))), k ≤ n + 1 ∧ i = .int .i64 (k : Int) ∧ dk.size = n + 1 ∧ (∀ j, j < k → dk[j]! = (Heat.places n)[j]!) ∧ wr = putRow encP W0 (w.heap.size + 1) 0 dk) (fun i _ => n + 1 - (intOf i).toNat)
  case atStart => exact ⟨0, (List.replicate (n + 1) (0 : Fin (n + 1))).toArray, Nat.zero_le _, rfl, by simp, fun j hj => absurd hj (by omega), (putRow_self encP W0 _ 0 _ H0.out).symm⟩
  case round =>
    obtain ⟨k, dk, hk, rfl, hdk, hall, rfl⟩ := hrel
    have HA := Lib.hid hall
    clear hall
    by_cases hlt : k < n + 1
    · obtain ⟨ck, fk⟩ := holds_putRow encP W0 (w.heap.size + 1) 0 _ dk H0.out (by simp [hdk]) k (by omega)
      rw [Nat.zero_add] at ck fk
      have hset := putRow_set encP W0 (w.heap.size + 1) 0 dk k ⟨k, hlt⟩ (by omega)
      rw [Nat.zero_add] at hset
      have HSET := Lib.hid hset
      clear hset
      generalize hW : putRow encP W0 (w.heap.size + 1) 0 dk = W1 at *
      have hki : (k : Int) < (n : Int) + 1 := by omega
      go_wp2
      go_roundw
      case rel =>
        refine ⟨k + 1, dk.setIfInBounds k ⟨k, hlt⟩, by omega, by go_num, by simp [hdk], fun j hj => ?_, HSET.out⟩
        rcases Nat.lt_or_ge j k with h1 | h1
        · rw [getElem!_set_other _ _ _ _ (by omega)]; exact HA.out j h1
        · have : j = k := by omega
          subst this
          rw [getElem!_set_same _ _ _ (by omega), Heat.places_get n j hlt]
      case measure => simp [intOf]; omega
    · have hkn : k = n + 1 := by omega
      subst hkn
      have hdp : dk = Heat.places n := by
        apply Array.ext
        · rw [hdk, Heat.places_size]
        · intro i h1 h2
          have := HA.out i (by omega)
          rw [getElem!_pos _ i h1, getElem!_pos _ i h2] at this
          exact this
      subst hdp
      have CS := Lib.hid (HS.out (putRow encP W0 (w.heap.size + 1) 0 (Heat.places n)) (w.heap.size + 1) w.heap.size (EE.out.put (Heat.places n) 0 #[]) (holds_putRow encP W0 _ 0 _ _ H0.out (by simp [Heat.places_size])))
      have HP : Hid (∀ (R : Array (Fin (n + 1))) m, R.size = n + 1 → (putRow encP (putRow encP W0 (w.heap.size + 1) 0 (Heat.places n)) (w.heap.size + 1) 0 R).drewN m = putRow encP (Sort.ahead W0 m) (w.heap.size + 1) 0 R.toList.toArray) := fun R m hR => by
        rw [putRow_putRow encP W0 _ 0 _ _ (by rw [hR, Heat.places_size])]; rfl
      generalize putRow encP W0 (w.heap.size + 1) 0 (Heat.places n) = W1 at *
      go_wp2_with (go_at_call 58; ((with_reducible refine CS.out.mono ?_); rintro e w1 ⟨rfl, R, m, hR, hG, rfl⟩; have HR := Lib.hid hR; have HG := Lib.hid hG; clear hR hG))
      rw [HP.out R m HR.out]
      go_ret
      have hR := HR.out
      refine ⟨R, _, HR.out, HG.out, rfl, ?_, Lib.below_putRow B0.out (by omega)⟩
      have h := Lib.ownsRow_putRow (q := m) (k := n + 1) (ys := R.toList) O0.out (by simpa using hR) (Nat.le_refl _)
      rw [List.take_of_length_le (by simp [hR])] at h
      exact h

theorem rank_wide (l : List Nat) (A : Option Addr) (c : Nat) (w : World) (hl : l.length < 40) (hbl : ∀ b ∈ l, b < 18446744073709551616) (hx : FloatsAt w A l) :
    Calls Try.prog 33 #[.slice A l.length c] w fun e w' => ∃ o v, Heat.Ranked l o ∧ e = .returned v ∧ w'.ownsRow w.heap.size 3 1 v o.length (icells (ints o)) ∧ RowKit.Below w.heap.size w w' := by
  by_cases h20 : l.length ≤ 20
  · exact rank_any l A c w h20 hbl hx
  · cases hl0 : l.length with
    | zero => omega
    | succ n =>
      obtain ⟨b1, o1, hA, hb1, hc⟩ := hx (by omega)
      subst hA
      refine (rank_some2 l hl0 (by omega) b1 o1 c w hb1 hc (fun R => Heat.Ranked l (R.toList.map fun i => i.val)) (fun W g bx E hH => sorts_mid l hl0 (by omega) (by omega) hbl E (n + 1) hH)).mono ?_
      rintro e w' ⟨R, v, hs, hG, he, ho, hb⟩
      refine ⟨_, v, hG, he, ?_, hb⟩
      rw [List.length_map, Array.length_toList, hs, ← enc_ints]
      exact ho
end H
end Go.Proofs.Ytkbchpbdpkbnjaa
