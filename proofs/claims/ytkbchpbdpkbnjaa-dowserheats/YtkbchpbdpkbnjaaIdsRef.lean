/-
  What the document's own answers for layer 4 (dowserref04) do: Has, Same, Compare, Keep, Add, Of, as functions on lists, for every list within the reach.
-/
import Derived.Test.YtkbchpbdpkbnjaaProg
import Derived.Test.YtkbchpbdpkbnjaaIdsMath
import Derived.WalkKit
import Derived.WalkSpells
import Derived.WalkLawsBesides
import Derived.Lib.Hide
import Derived.Deep.DeepCutAuto
import Derived.Deep.QuietTactic
import Derived.BigQuiet
namespace Go.Proofs.Ytkbchpbdpkbnjaa
open Go.RowKit
namespace I

theorem ret_bool {a b : Bool} (h : a = b) : Ending.returned (.bool a) = .returned (.bool b) := by rw [h]
theorem ret_int {k : IntKind} {a b : Int} (h : a = b) : Ending.returned (.int k a) = .returned (.int k b) := by rw [h]

/-- a slice of ints reads as xs (nil let in) -/
def IntsAt (w : World) (A : Option Addr) (xs : List Int) : Prop := 0 < xs.length → ∃ b off, A = some ⟨b, off, none⟩ ∧ b < w.heap.size ∧ ∀ i (h : i < xs.length), w.cell? ⟨b, off + i, none⟩ = some (.int .i64 xs[i])
theorem IntsAt.below {w w' : World} {A : Option Addr} {xs : List Int} (h : IntsAt w A xs) (hb : Below w.heap.size w w') : IntsAt w' A xs := fun hp => by
  obtain ⟨b, off, e, hl, hc⟩ := h hp
  exact ⟨b, off, e, Nat.lt_of_lt_of_le hl hb.size, fun i hi => (hb.cell (p := ⟨b, off + i, none⟩) hl).trans (hc i hi)⟩
theorem IntsAt.nil (w : World) (A : Option Addr) : IntsAt w A [] := fun h => absurd h (by simp)
theorem below_drewN {B : Nat} {a w : World} (h : Below B a w) (n : Nat) : Below B a (w.drewN n) := ⟨h.os, h.tape, h.output, h.size, h.block⟩

set_option maxHeartbeats 1000000 in
theorem refHas_any (xs : List Int) (A : Option Addr) (c : Nat) (x : Int) (w : World) (hl : xs.length ≤ 1000000) (hx : IntsAt w A xs) :
    Calls Try.prog 42 #[.slice A xs.length c, .int .i64 x] w fun e w' => e = .returned (.bool (Ids.has xs x)) ∧ w = w' := by
  have HX := Lib.hid hx
  clear hx
  go_enter Try.func42, Try.ntmps42
  go_wp2
  go_loop [9] (fun i => ∃ k : Nat, k ≤ xs.length ∧ i = .int .i64 (k : Int) ∧ Ids.has xs x = Ids.has (xs.drop k) x) (fun i => xs.length - (intOf i).toNat)
  case atStart => exact ⟨0, Nat.zero_le _, rfl, rfl⟩
  case round =>
    obtain ⟨k, hk, rfl, hr⟩ := hrel
    have HR := Lib.hid hr
    clear hr
    by_cases hlt : k < xs.length
    · obtain ⟨b, off, hA, _, hc⟩ := HX.out (by omega)
      subst hA
      have c0 := hc k hlt
      have HD := Lib.hid (Ids.has_drop xs x k hlt)
      clear hc
      generalize xs[k] = y at *
      by_cases hxy : x = y
      · have h1 : (x == y) = true := by simpa using hxy
        have HT : Hid (Ids.has xs x = true) := by rw [HR.out, HD.out, h1]; rfl
        clear hxy HD HR
        go_wp2
        go_ret
        exact ⟨ret_bool HT.out.symm, rfl⟩
      · have h1 : (x == y) = false := by rw [beq_eq_false_iff_ne]; exact hxy
        have HT : Hid (Ids.has xs x = Ids.has (xs.drop (k + 1)) x) := by rw [HR.out, HD.out, h1]; rfl
        clear hxy HD HR
        go_wp2
        go_round
        case rel => exact ⟨k + 1, by omega, by go_num, HT.out⟩
        case measure => simp [intOf]; omega
    · have HT : Hid (Ids.has xs x = false) := by rw [HR.out, List.drop_eq_nil_of_le (by omega)]; rfl
      go_wp2
      go_ret
      exact ⟨ret_bool HT.out.symm, rfl⟩

set_option maxHeartbeats 1000000 in
theorem refSame_any (xs ys : List Int) (A B : Option Addr) (c d : Nat) (w : World) (hl : xs.length ≤ 1000000) (_hl2 : ys.length ≤ 1000000) (hx : IntsAt w A xs) (hy : IntsAt w B ys) :
    Calls Try.prog 38 #[.slice A xs.length c, .slice B ys.length d] w fun e w' => e = .returned (.bool (Ids.same xs ys)) ∧ Below w.heap.size w w' := by
  have HX := Lib.hid hx
  have HY := Lib.hid hy
  clear hx hy
  by_cases hll : xs.length = ys.length
  · have hle : ((xs.length : Int) != (ys.length : Int)) = false := by rw [bne_eq_false_iff_eq]; omega
    have hl1 : xs.length ≤ ys.length := by omega
    have hl3 : ys.length ≤ xs.length := by omega
    clear hll
    go_enter Try.func38, Try.ntmps38
    go_wp2
    go_loopw [13] (fun i wr => ∃ k : Nat, k ≤ xs.length ∧ i = .int .i64 (k : Int) ∧ Below w.heap.size w wr ∧ Ids.same xs ys = Ids.same (xs.drop k) (ys.drop k)) (fun i _ => xs.length - (intOf i).toNat)
    case atStart => exact ⟨0, Nat.zero_le _, rfl, Below.refl _ _, rfl⟩
    case round =>
      obtain ⟨k, hk, rfl, hb, hr⟩ := hrel
      have HR := Lib.hid hr
      clear hr
      by_cases hlt : k < xs.length
      · have hlt2 : k < ys.length := by omega
        obtain ⟨b, off, hA, _, hc⟩ := (HX.out.below hb) (by omega)
        obtain ⟨b2, off2, hB, _, hc2⟩ := (HY.out.below hb) (by omega)
        subst hA hB
        have c0 := hc k hlt
        have c1 := hc2 k hlt2
        have HD := Lib.hid (Ids.same_drop xs ys k hlt hlt2)
        have hki : ((k : Int) < (xs.length : Int)) := by omega
        have hki2 : ((k : Int) < (ys.length : Int)) := by omega
        clear hc hc2
        generalize xs[k] = x at *
        generalize ys[k] = y at *
        by_cases hxy : x = y
        · have h1 : (x != y) = false := by simpa using hxy
          have h2 : (x == y) = true := by simpa using hxy
          have HT : Hid (Ids.same xs ys = Ids.same (xs.drop (k + 1)) (ys.drop (k + 1))) := by rw [HR.out, HD.out, h2]; rfl
          clear hxy HD HR h2
          go_wp2
          go_quiet (fail)
          go_wp2
          go_roundw
          case rel => exact ⟨k + 1, by omega, by go_num, below_drewN hb _, HT.out⟩
          case measure => simp [intOf]; omega
        · have h1 : (x != y) = true := by rw [bne_iff_ne]; exact hxy
          have h2 : (x == y) = false := by rw [beq_eq_false_iff_ne]; exact hxy
          have HT : Hid (Ids.same xs ys = false) := by rw [HR.out, HD.out, h2]; rfl
          clear hxy HD HR h2
          go_wp2
          go_quiet (fail)
          go_wp2
          go_ret
          exact ⟨ret_bool HT.out.symm, below_drewN hb _⟩
      · have HT : Hid (Ids.same xs ys = true) := by rw [HR.out, List.drop_eq_nil_of_le (by omega), List.drop_eq_nil_of_le (by omega)]; rfl
        go_wp2
        go_ret
        exact ⟨ret_bool HT.out.symm, hb⟩
  · have hle : ((xs.length : Int) != (ys.length : Int)) = true := by rw [bne_iff_ne]; omega
    have HT := Lib.hid (Ids.same_len hll)
    clear hll
    go_enter Try.func38, Try.ntmps38
    go_wp2
    go_ret
    exact ⟨ret_bool HT.out.symm, Below.refl _ _⟩

set_option maxHeartbeats 1000000 in
theorem refCompare_any (xs ys : List Int) (A B : Option Addr) (c d : Nat) (w : World) (hl : xs.length ≤ 1000000) (hl2 : ys.length ≤ 1000000) (hx : IntsAt w A xs) (hy : IntsAt w B ys) :
    Calls Try.prog 52 #[.slice A xs.length c, .slice B ys.length d] w fun e w' => e = .returned (.int .i64 (Ids.cmp xs ys)) ∧ Below w.heap.size w w' := by
  have HX := Lib.hid hx
  have HY := Lib.hid hy
  clear hx hy
  go_enter Try.func52, Try.ntmps52
  go_wp2
  go_loopw [5] (fun i wr => ∃ k : Nat, k ≤ xs.length ∧ k ≤ ys.length ∧ i = .int .i64 (k : Int) ∧ Below w.heap.size w wr ∧ Ids.cmp xs ys = Ids.cmp (xs.drop k) (ys.drop k)) (fun i _ => xs.length - (intOf i).toNat)
  case atStart => exact ⟨0, Nat.zero_le _, Nat.zero_le _, rfl, Below.refl _ _, rfl⟩
  case round =>
    obtain ⟨k, hk, hk2, rfl, hb, hr⟩ := hrel
    have HR := Lib.hid hr
    clear hr
    by_cases hlt : k < xs.length
    · by_cases hlt2 : k < ys.length
      · obtain ⟨b, off, hA, _, hc⟩ := (HX.out.below hb) (by omega)
        obtain ⟨b2, off2, hB, _, hc2⟩ := (HY.out.below hb) (by omega)
        subst hA hB
        have c0 := hc k hlt
        have c1 := hc2 k hlt2
        have HD := Lib.hid (Ids.cmp_drop xs ys k hlt hlt2)
        have hki : ((k : Int) < (xs.length : Int)) := by omega
        have hki2 : ((k : Int) < (ys.length : Int)) := by omega
        clear hc hc2
        generalize xs[k] = x at *
        generalize ys[k] = y at *
        by_cases hxy : x < y
        · have HT : Hid (Ids.cmp xs ys = -1) := by rw [HR.out, HD.out, if_pos hxy]; rfl
          clear HD HR
          go_wp2
          go_quiet (fail)
          go_wp2
          go_ret
          exact ⟨ret_int HT.out.symm, below_drewN hb _⟩
        · by_cases hyx : y < x
          · have HT : Hid (Ids.cmp xs ys = 1) := by rw [HR.out, HD.out, if_neg hxy, if_pos hyx]; rfl
            clear HD HR
            go_wp2
            go_quiet (fail)
            go_wp2
            go_quiet (fail)
            go_wp2
            go_ret
            exact ⟨ret_int HT.out.symm, below_drewN (below_drewN hb _) _⟩
          · have HT : Hid (Ids.cmp xs ys = Ids.cmp (xs.drop (k + 1)) (ys.drop (k + 1))) := by rw [HR.out, HD.out, if_neg hxy, if_neg hyx]; rfl
            clear HD HR
            go_wp2
            go_quiet (fail)
            go_wp2
            go_quiet (fail)
            go_wp2
            go_roundw
            case rel => exact ⟨k + 1, by omega, by omega, by go_num, below_drewN hb _, HT.out⟩
            case measure => simp [intOf]; omega
      · have HT : Hid (Ids.cmp xs ys = 1) := by
          rw [HR.out, List.drop_eq_nil_of_le (show ys.length ≤ k by omega), List.drop_eq_getElem_cons hlt]; rfl
        have h1 : ys.length < xs.length := by omega
        go_wp2
        go_ret
        exact ⟨ret_int HT.out.symm, hb⟩
    · by_cases hlt2 : xs.length < ys.length
      · have HT : Hid (Ids.cmp xs ys = -1) := by
          rw [HR.out, List.drop_eq_nil_of_le (show xs.length ≤ k by omega), List.drop_eq_getElem_cons (show k < ys.length by omega)]; rfl
        go_wp2
        go_ret
        exact ⟨ret_int HT.out.symm, hb⟩
      · have HT : Hid (Ids.cmp xs ys = 0) := by
          rw [HR.out, List.drop_eq_nil_of_le (show xs.length ≤ k by omega), List.drop_eq_nil_of_le (by omega)]; rfl
        have h1 : ys.length ≤ xs.length := by omega
        go_wp2
        go_ret
        exact ⟨ret_int HT.out.symm, hb⟩

/-! ### slices of the call's own -/
theorem info3 : (Try.prog.info? 3).map (fun i => (i.zero, i.size, i.bytes)) = some (some (.int .i64 0), 1, 8) := by kernel_rfl
def icells (l : List Int) : List Value := l.map (Value.int .i64)
theorem icells_snoc (l : List Int) (x : Int) : icells (l ++ [x]) = icells l ++ [.int .i64 x] := by simp [icells]
theorem icells_append (l m : List Int) : icells (l ++ m) = icells l ++ icells m := by simp [icells]
theorem icells_two (l : List Int) (x y : Int) : icells ((l ++ [x]) ++ [y]) = icells l ++ [.int .i64 x, .int .i64 y] := by simp [icells]
theorem two_len (l : List Int) (x y : Int) : ((l ++ [x]) ++ [y]).length = l.length + 1 + 1 := by simp
theorem icells_length (l : List Int) : (icells l).length = l.length := by simp [icells]
theorem one_int (x : Int) : ∀ u ∈ [Value.int .i64 x], u.oneCell' = true := by intro u hu; simp at hu; subst hu; rfl
theorem all_int (l : List Int) : ∀ u ∈ icells l, u.oneCell' = true := by
  intro u hu; simp [icells] at hu; obtain ⟨x, _, rfl⟩ := hu; rfl
theorem base1 {a : Nat} {W : World} (h : a ≤ W.heap.size) (o : Obj) : a ≤ (W.alloc o).heap.size := by rw [World.size_alloc]; omega
theorem one_new (W : World) (x : Value) (e : TypeId) (g : Nat) (hg : g = W.heap.size) : ∀ j u, [x][j]? = some u → (W.alloc (.cells #[x] e)).cell? ((⟨g, 0, none⟩ : Addr).add j) = some u := by
  subst hg; exact cell_one_new W x e
theorem add_plain0 (g j : Nat) : (⟨g, 0, none⟩ : Addr).add j = ⟨g, j, none⟩ := by unfold Addr.add; split <;> simp_all
/-- what the call has built reads as a list; its shape -/
theorem own_ints {w : World} {B n : Nat} {v : Value} {l : List Int} (h : w.ownsRow B 3 1 v n (icells l)) : ∃ A c, v = .slice A l.length c ∧ IntsAt w A l ∧ n = l.length := by
  have hn : n = l.length := by have := h.1; rw [icells_length] at this; omega
  subst hn
  rcases h.2 with ⟨rfl, h0⟩ | ⟨g, cap, cur, rfl, hb, hg, _⟩
  · have hl : l = [] := List.eq_nil_of_length_eq_zero h0
    subst hl
    exact ⟨none, 0, rfl, IntsAt.nil _ _, rfl⟩
  · refine ⟨_, cap, rfl, fun _ => ⟨g, 0, rfl, (h.lt g rfl).2, fun i hi => ?_⟩, rfl⟩
    have c0 := h.cells rfl i (.int .i64 l[i]) (by simp [icells, List.getElem?_eq_getElem hi])
    rw [add_plain0] at c0
    rw [Nat.zero_add]; exact c0

set_option maxHeartbeats 1000000 in
theorem refKeep_any (xs ys : List Int) (A B : Option Addr) (c d : Nat) (q : Bool) (w : World) (hl : xs.length ≤ 1000000) (hl2 : ys.length ≤ 1000000) (hx : IntsAt w A xs) (hy : IntsAt w B ys) :
    Calls Try.prog 47 #[.slice A xs.length c, .slice B ys.length d, .bool q] w fun e w' => ∃ v, e = .returned v ∧ w'.ownsRow w.heap.size 3 1 v (Ids.keep xs ys q).length (icells (Ids.keep xs ys q)) ∧ Below w.heap.size w w' := by
  obtain ⟨i0, hi, hz0, hz1, hz2⟩ := info_parts info3
  have HX := Lib.hid hx
  have HY := Lib.hid hy
  clear hx hy
  go_enter Try.func47, Try.ntmps47
  go_wp2
  go_loopw [7, 13] (fun v i wr => ∃ k : Nat, k ≤ xs.length ∧ i = .int .i64 (k : Int) ∧ wr.ownsRow w.heap.size 3 1 v (Ids.keep (xs.take k) ys q).length (icells (Ids.keep (xs.take k) ys q)) ∧ Below w.heap.size w wr) (fun _ i _ => xs.length - (intOf i).toNat)
  case atStart => exact ⟨0, Nat.zero_le _, rfl, World.ownsRow_lit w #[] 0 (Nat.le_refl _) (Nat.zero_le _) rfl, (Below.refl _ _).alloc (Nat.le_refl _) _⟩
  case round =>
    obtain ⟨k, hk, rfl, hown, hb⟩ := hrel
    have hbs := hb.size
    by_cases hlt : k < xs.length
    · obtain ⟨b, off, hA, _, hc⟩ := (HX.out.below hb) (by omega)
      subst hA
      have c0 := hc k hlt
      have CH := Lib.hid (fun x => refHas_any ys B d x wr hl2 (HY.out.below hb))
      have HS := Lib.hid (Ids.keep_snoc xs ys q k hlt)
      have hkl : (Ids.keep (xs.take k) ys q).length ≤ k := Nat.le_trans (List.length_filter_le _ _) (by simp; omega)
      clear hc
      generalize xs[k] = x at *
      by_cases hq : (Ids.has ys x == q) = true
      · have hs := HS.out
        rw [if_pos hq] at hs
        have HS2 := Lib.hid hs
        clear HS hs
        have hm3 : (Ids.keep (xs.take k) ys q).length + 1 ≤ maxLen := by unfold maxLen; omega
        have hm4 : ((Ids.keep (xs.take k) ys q).length + 1) * 8 ≤ 140737488355328 := by omega
        generalize Ids.keep (xs.take k) ys q = G at *
        go_wp2_with (first
          | (go_at_call 42; ((with_reducible refine (CH.out _).mono ?_); rintro e1 w' ⟨rfl, rfl⟩))
          | (at_builtin; refine wpList_append_own _ rfl _ _ 41 rfl w.heap.size 3 i0 (.int .i64 0) 1 8 Try.underlying41 hi hz0 hz1 hz2 rfl (by decide) _ _ _ rfl (hown.alloc _) ⟨wr.heap.size, 0, none⟩ 1 1 [.int .i64 x] rfl rfl (one_new _ _ _ _ rfl) (one_int _) hm3 hm4 (base1 hbs _) ?_))
        intro v' w1 hown' hgrow _
        have hb1 : Below w.heap.size w w1 := (hb.alloc hbs _).grown hgrow (base1 hbs _) (fun r hr => (hown.lt r hr).1)
        have HO : Hid (w1.ownsRow w.heap.size 3 1 v' (Ids.keep (xs.take (k + 1)) ys q).length (icells (Ids.keep (xs.take (k + 1)) ys q))) := by
          rw [HS2.out, icells_snoc, List.length_append]; exact hown'
        clear hown' hgrow hown
        go_wp2
        go_roundw
        case rel => exact ⟨k + 1, by omega, by go_num, HO.out, hb1⟩
        case measure => simp [intOf]; omega
      · have hs := HS.out
        rw [if_neg hq, List.append_nil] at hs
        have hq' : (Ids.has ys x == q) = false := by simpa using hq
        have HO : Hid (wr.ownsRow w.heap.size 3 1 u7 (Ids.keep (xs.take (k + 1)) ys q).length (icells (Ids.keep (xs.take (k + 1)) ys q))) := by rw [hs]; exact hown
        clear HS hs hq hown
        go_wp2_with (go_at_call 42; ((with_reducible refine (CH.out _).mono ?_); rintro e1 w' ⟨rfl, rfl⟩))
        go_roundw
        case rel => exact ⟨k + 1, by omega, by go_num, HO.out, hb⟩
        case measure => simp [intOf]; omega
    · have hk' : xs.take k = xs := List.take_of_length_le (by omega)
      rw [hk'] at hown
      have HO := Lib.hid hown
      clear hk' hown
      go_wp2
      go_ret
      exact ⟨_, rfl, HO.out, hb⟩

theorem add_rel {G s : List Int} {x : Int} {k : Nat} (h : k < s.length) (hx : ¬ x < s[k]) : G ++ Ids.insR x (s.drop k) = (G ++ [s[k]]) ++ Ids.insR x (s.drop (k + 1)) := by
  rw [Ids.insR_drop s x k h, if_neg hx]; simp
theorem add_rel2 {G s : List Int} {x : Int} {k : Nat} (h : k < s.length) (hx : x < s[k]) : G ++ Ids.insR x (s.drop k) = ((G ++ [x]) ++ [s[k]]) ++ s.drop (k + 1) := by
  rw [Ids.insR_drop s x k h, if_pos hx, List.drop_eq_getElem_cons h]; simp
theorem add_rel3 {G s : List Int} {k : Nat} (h : k < s.length) : G ++ s.drop k = (G ++ [s[k]]) ++ s.drop (k + 1) := by
  rw [List.drop_eq_getElem_cons h]; simp

set_option maxHeartbeats 1000000 in
theorem refAdd_new (s : List Int) (A : Option Addr) (c : Nat) (x : Int) (w : World) (hl : s.length ≤ 1000000) (hs : IntsAt w A s) (hx : Ids.has s x = false) :
    Calls Try.prog 63 #[.slice A s.length c, .int .i64 x] w fun e w' => ∃ v, e = .returned v ∧ w'.ownsRow w.heap.size 3 1 v (Ids.insR x s).length (icells (Ids.insR x s)) ∧ Below w.heap.size w w' := by
  obtain ⟨i0, hi, hz0, hz1, hz2⟩ := info_parts info3
  have ch := refHas_any s A c x w hl hs
  rw [hx] at ch
  have CH := Lib.hid ch
  have HX := Lib.hid hs
  have hil := Ids.insR_length x s
  have HIL := Lib.hid hil
  clear ch hs hx hil
  go_enter Try.func63, Try.ntmps63
  go_wp2_with (go_at_call 42; ((with_reducible refine (CH.out).mono ?_); rintro e1 w' ⟨rfl, rfl⟩))
  go_loopw [5, 6, 16] (fun v dn i wr => ∃ (k : Nat) (G : List Int) (done : Bool), k ≤ s.length ∧ i = .int .i64 (k : Int) ∧ dn = .bool done ∧ G.length ≤ k + done.toNat ∧ wr.ownsRow w.heap.size 3 1 v G.length (icells G) ∧ Below w.heap.size w wr ∧ (G ++ (if done then s.drop k else Ids.insR x (s.drop k))) = Ids.insR x s) (fun _ _ i _ => s.length - (intOf i).toNat)
  case atStart => exact ⟨0, [], false, Nat.zero_le _, rfl, rfl, by simp, World.ownsRow_lit w #[] 0 (Nat.le_refl _) (Nat.zero_le _) rfl, (Below.refl _ _).alloc (Nat.le_refl _) _, rfl⟩
  case round =>
    obtain ⟨k, G, done, hk, rfl, rfl, hG, hown, hb, hr⟩ := hrel
    have hbs := hb.size
    have hG0 : G.length ≤ k + 1 := by have := Bool.toNat_le done; omega
    by_cases hlt : k < s.length
    · obtain ⟨b, off, hA, _, hc⟩ := (HX.out.below hb) (by omega)
      subst hA
      have c0 := hc k hlt
      have HR1 := Lib.hid (fun hx => add_rel (G := G) (x := x) hlt hx)
      have HR2 := Lib.hid (fun hx => add_rel2 (G := G) (x := x) hlt hx)
      have HR3 := Lib.hid (add_rel3 (G := G) hlt)
      have hm3 : G.length + 1 ≤ maxLen := by unfold maxLen; omega
      have hm4 : (G.length + 1) * 8 ≤ 140737488355328 := by omega
      have hn3 : G.length + 1 + 1 ≤ maxLen := by unfold maxLen; omega
      have hn4 : (G.length + 1 + 1) * 8 ≤ 140737488355328 := by omega
      clear hc
      generalize s[k] = y at *
      cases done with
      | true =>
        clear hG
        rw [if_pos rfl, HR3.out] at hr
        have HN := Lib.hid hr
        clear hr HR1 HR2 HR3
        go_wp2_with (at_builtin; refine wpList_append_own _ rfl _ _ 41 rfl w.heap.size 3 i0 (.int .i64 0) 1 8 Try.underlying41 hi hz0 hz1 hz2 rfl (by decide) _ _ _ rfl (hown.alloc _) ⟨wr.heap.size, 0, none⟩ 1 1 [.int .i64 y] rfl rfl (one_new _ _ _ _ rfl) (one_int _) hm3 hm4 (base1 hbs _) ?_)
        intro v' w1 hown' hgrow _
        have hb1 : Below w.heap.size w w1 := (hb.alloc hbs _).grown hgrow (base1 hbs _) (fun r hr => (hown.lt r hr).1)
        have HO : Hid (w1.ownsRow w.heap.size 3 1 v' (G ++ [y]).length (icells (G ++ [y]))) := by rw [icells_snoc, List.length_append]; exact hown'
        clear hown' hgrow hown
        go_wp2
        go_roundw
        case rel => exact ⟨k + 1, G ++ [y], true, by omega, by go_num, rfl, by simp only [List.length_append, List.length_cons, List.length_nil, Bool.toNat_true]; omega, HO.out, hb1, HN.out⟩
        case measure => simp [intOf]; omega
      | false =>
        have hG1 : G.length ≤ k := hG
        clear hG
        rw [if_neg (by decide)] at hr
        by_cases hxy : x < y
        · rw [HR2.out hxy] at hr
          have HN := Lib.hid hr
          clear hr HR1 HR2 HR3
          go_wp2_with (at_builtin; refine wpList_append_own _ rfl _ _ 41 rfl w.heap.size 3 i0 (.int .i64 0) 1 8 Try.underlying41 hi hz0 hz1 hz2 rfl (by decide) _ _ _ rfl (hown.alloc _) ⟨wr.heap.size, 0, none⟩ 1 1 [.int .i64 x] rfl rfl (one_new _ _ _ _ rfl) (one_int _) hm3 hm4 (base1 hbs _) ?_)
          intro v' w1 hown' hgrow _
          have hb1 : Below w.heap.size w w1 := (hb.alloc hbs _).grown hgrow (base1 hbs _) (fun r hr => (hown.lt r hr).1)
          have hown1 : w1.ownsRow w.heap.size 3 1 v' (G.length + 1) (icells G ++ [.int .i64 x]) := hown'
          have hbs1 := hb1.size
          clear hown' hgrow hown
          go_wp2_with (at_builtin; refine wpList_append_own _ rfl _ _ 41 rfl w.heap.size 3 i0 (.int .i64 0) 1 8 Try.underlying41 hi hz0 hz1 hz2 rfl (by decide) _ _ _ rfl (hown1.alloc _) ⟨w1.heap.size, 0, none⟩ 1 1 [.int .i64 y] rfl rfl (one_new _ _ _ _ rfl) (one_int _) hn3 hn4 (base1 hbs1 _) ?_)
          intro v2 w2 hown2 hgrow2 _
          have hb2 : Below w.heap.size w w2 := (hb1.alloc hbs1 _).grown hgrow2 (base1 hbs1 _) (fun r hr => (hown1.lt r hr).1)
          have HO : Hid (w2.ownsRow w.heap.size 3 1 v2 ((G ++ [x]) ++ [y]).length (icells ((G ++ [x]) ++ [y]))) := by rw [icells_two, two_len]; exact hown2
          clear hown2 hgrow2 hown1
          go_wp2
          go_roundw
          case rel => exact ⟨k + 1, (G ++ [x]) ++ [y], true, by omega, by go_num, rfl, by simp only [List.length_append, List.length_cons, List.length_nil, Bool.toNat_true]; omega, HO.out, hb2, HN.out⟩
          case measure => simp [intOf]; omega
        · rw [HR1.out hxy] at hr
          have HN := Lib.hid hr
          clear hr HR1 HR2 HR3
          go_wp2_with (at_builtin; refine wpList_append_own _ rfl _ _ 41 rfl w.heap.size 3 i0 (.int .i64 0) 1 8 Try.underlying41 hi hz0 hz1 hz2 rfl (by decide) _ _ _ rfl (hown.alloc _) ⟨wr.heap.size, 0, none⟩ 1 1 [.int .i64 y] rfl rfl (one_new _ _ _ _ rfl) (one_int _) hm3 hm4 (base1 hbs _) ?_)
          intro v' w1 hown' hgrow _
          have hb1 : Below w.heap.size w w1 := (hb.alloc hbs _).grown hgrow (base1 hbs _) (fun r hr => (hown.lt r hr).1)
          have HO : Hid (w1.ownsRow w.heap.size 3 1 v' (G ++ [y]).length (icells (G ++ [y]))) := by rw [icells_snoc, List.length_append]; exact hown'
          clear hown' hgrow hown
          go_wp2
          go_roundw
          case rel => exact ⟨k + 1, G ++ [y], false, by omega, by go_num, rfl, by simp only [List.length_append, List.length_cons, List.length_nil, Bool.toNat_false]; omega, HO.out, hb1, HN.out⟩
          case measure => simp [intOf]; omega
    · have hd : s.drop k = [] := List.drop_eq_nil_of_le (by omega)
      rw [hd] at hr
      have hm3 : G.length + 1 ≤ maxLen := by unfold maxLen; omega
      have hm4 : (G.length + 1) * 8 ≤ 140737488355328 := by omega
      cases done with
      | true =>
        rw [if_pos rfl, List.append_nil] at hr
        have HO : Hid (wr.ownsRow w.heap.size 3 1 u5 (Ids.insR x s).length (icells (Ids.insR x s))) := by rw [← hr]; exact hown
        clear hr hd hown
        go_wp2
        go_ret
        exact ⟨_, rfl, HO.out, hb⟩
      | false =>
        have hr' : G ++ [x] = Ids.insR x s := hr
        have HN := Lib.hid hr'
        clear hr hr' hd
        go_wp2_with (at_builtin; refine wpList_append_own _ rfl _ _ 41 rfl w.heap.size 3 i0 (.int .i64 0) 1 8 Try.underlying41 hi hz0 hz1 hz2 rfl (by decide) _ _ _ rfl (hown.alloc _) ⟨wr.heap.size, 0, none⟩ 1 1 [.int .i64 x] rfl rfl (one_new _ _ _ _ rfl) (one_int _) hm3 hm4 (base1 hbs _) ?_)
        intro v' w1 hown' hgrow _
        have hb1 : Below w.heap.size w w1 := (hb.alloc hbs _).grown hgrow (base1 hbs _) (fun r hr => (hown.lt r hr).1)
        have HO : Hid (w1.ownsRow w.heap.size 3 1 v' (Ids.insR x s).length (icells (Ids.insR x s))) := by rw [← HN.out, icells_snoc, List.length_append]; exact hown'
        clear hown' hgrow hown
        go_wp2
        go_ret
        exact ⟨_, rfl, HO.out, hb1⟩

/-- a slice that reads as l, of l's length -/
def Lst (w : World) (v : Value) (l : List Int) : Prop := ∃ A c, v = .slice A l.length c ∧ IntsAt w A l
theorem Lst.below {w w' : World} {v : Value} {l : List Int} (h : Lst w v l) (hb : Below w.heap.size w w') : Lst w' v l := by
  obtain ⟨A, c, e, hx⟩ := h; exact ⟨A, c, e, hx.below hb⟩

set_option maxHeartbeats 1000000 in
theorem refAdd_any (s : List Int) (A : Option Addr) (c : Nat) (x : Int) (w : World) (hl : s.length ≤ 1000000) (hs : IntsAt w A s) :
    Calls Try.prog 63 #[.slice A s.length c, .int .i64 x] w fun e w' => ∃ v, e = .returned v ∧ Lst w' v (Ids.ins s x) ∧ Below w.heap.size w w' := by
  cases hx : Ids.has s x with
  | false =>
    have e : Ids.ins s x = Ids.insR x s := by unfold Ids.ins; rw [hx]; rfl
    rw [e]
    refine (refAdd_new s A c x w hl hs hx).mono ?_
    rintro e1 w1 ⟨v, rfl, hown, hb⟩
    obtain ⟨A', c', hv, hi, _⟩ := own_ints hown
    exact ⟨v, rfl, ⟨A', c', hv, hi⟩, hb⟩
  | true =>
    have e : Ids.ins s x = s := by unfold Ids.ins; rw [hx]; rfl
    rw [e]
    have ch := refHas_any s A c x w hl hs
    rw [hx] at ch
    have CH := Lib.hid ch
    have HX := Lib.hid hs
    clear ch hs hx e
    go_enter Try.func63, Try.ntmps63
    go_wp2_with (go_at_call 42; ((with_reducible refine (CH.out).mono ?_); rintro e1 w' ⟨rfl, rfl⟩))
    go_ret
    exact ⟨_, rfl, ⟨A, c, rfl, HX.out⟩, Below.refl _ _⟩

set_option maxHeartbeats 1000000 in
theorem refOf_any (l : List Int) (A : Option Addr) (c : Nat) (w : World) (hl : l.length ≤ 1000000) (hx : IntsAt w A l) :
    Calls Try.prog 39 #[.slice A l.length c] w fun e w' => ∃ v, e = .returned v ∧ Lst w' v (Ids.setOf l) ∧ Below w.heap.size w w' := by
  have HX := Lib.hid hx
  clear hx
  go_enter Try.func39, Try.ntmps39
  go_wp2
  go_loopw [3, 9] (fun v i wr => ∃ k : Nat, k ≤ l.length ∧ i = .int .i64 (k : Int) ∧ Lst wr v (Ids.setOf (l.take k)) ∧ Below w.heap.size w wr) (fun _ i _ => l.length - (intOf i).toNat)
  case atStart => exact ⟨0, Nat.zero_le _, rfl, ⟨_, _, rfl, IntsAt.nil _ _⟩, (Below.refl _ _).alloc (Nat.le_refl _) _⟩
  case round =>
    obtain ⟨k, hk, rfl, ⟨A2, c2, rfl, hI⟩, hb⟩ := hrel
    by_cases hlt : k < l.length
    · obtain ⟨b, off, hA, _, hc⟩ := (HX.out.below hb) (by omega)
      subst hA
      have c0 := hc k hlt
      have hsl := Ids.setOf_take_length l k
      have CA := Lib.hid (fun x => refAdd_any (Ids.setOf (l.take k)) A2 c2 x wr (by omega) hI)
      have HS := Lib.hid (Ids.setOf_snoc l k hlt)
      clear hc hI
      generalize l[k] = x at *
      go_wp2_with (go_at_call 63; ((with_reducible refine (CA.out _).mono ?_); rintro e1 w1 ⟨v1, rfl, hL1, hb1⟩; have HL1 := Lib.hid hL1; clear hL1))
      go_roundw
      case rel => exact ⟨k + 1, by omega, by go_num, by rw [HS.out]; exact HL1.out, hb.trans (hb1.mono hb.size)⟩
      case measure => simp [intOf]; omega
    · have hk' : l.take k = l := List.take_of_length_le (by omega)
      rw [hk'] at hI ⊢
      have HI := Lib.hid hI
      clear hk' hI
      go_wp2
      go_ret
      exact ⟨_, rfl, ⟨A2, c2, rfl, HI.out⟩, hb⟩
end I
end Go.Proofs.Ytkbchpbdpkbnjaa
