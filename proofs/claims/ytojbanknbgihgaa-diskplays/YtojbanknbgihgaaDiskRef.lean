/-
  What the document's own disk does (layer 5): a sector, a turn, a number more.
-/
import Derived.Test.YtojbanknbgihgaaDiskMath
namespace Go.Proofs.Ytojbanknbgihgaa
open Go.RowKit
namespace Dsk
open B

set_option maxRecDepth 100000 in
set_option maxHeartbeats 1000000 in
theorem refFill_any (s : ByteArray) (w : World) (hs : s.size ≤ 1000000) :
    Calls Try.prog 21 #[.string s] w fun e w' => e = .returned (.string (fill s)) ∧ Below w.heap.size w w' := by
  go_enter Try.func21, Try.ntmps21
  go_wp2
  go_loopw [0] (fun t wr => ∃ S : ByteArray, S.size ≤ 1000000 ∧ t = .string S ∧ Below w.heap.size w wr ∧ fill S = fill s) (fun t _ => 256 - (match t with | .string S => S.size | _ => 0))
  case atStart => exact ⟨s, hs, rfl, Below.refl _ _, rfl⟩
  case round =>
    obtain ⟨S, hS, rfl, hb, hf⟩ := hrel
    have hbs := hb.size
    by_cases h : S.size < 256
    · have HF := Lib.hid ((fill_step h).trans hf)
      have hcv := conv_one wr 0 0 rfl
      have hc : (S ++ ByteArray.mk #[0]).size = S.size + 1 := by rw [cat_size]; rfl
      have HC := Lib.hid hc
      clear hf hc
      go_wp2
      go_roundw
      case rel => exact ⟨_, by rw [HC.out]; omega, rfl, hb.alloc hbs _, HF.out⟩
      case measure => simp only [HC.out]; omega
    · have HF := Lib.hid ((fill_full (by omega : 256 ≤ S.size)).symm.trans hf)
      clear hf
      go_wp2
      go_ret
      exact ⟨ret_str HF.out, hb⟩

/-- a disk's value, of its three slices -/
abbrev dval (x y z : Value) (wr h : Int) (dn : Bool) : Value := .agg #[x, y, z, .int .i64 wr, .int .i64 h, .bool dn]

theorem disk_info : (Try.prog.info? 29).map (·.size) = some 6 := by kernel_rfl
set_option maxHeartbeats 1000000 in
theorem refTurn_any (A1 A2 A3 : Option Addr) (n1 c1 n2 c2 n3 c3 : Nat) (wr h : Int) (dn : Bool) (w : World) (hw : 0 ≤ wr) (hw2 : wr ≤ 1000000000000) (hh : -9223372036854775808 ≤ h) (hh2 : h ≤ 9223372036854775807) :
    Calls Try.prog 29 #[dval (.slice A1 n1 c1) (.slice A2 n2 c2) (.slice A3 n3 c3) wr h dn] w fun e w' =>
      e = .returned (.tuple #[dval (.slice A1 n1 c1) (.slice A2 n2 c2) (.slice A3 n3 c3) (if h = 0 then wr else wr + 1) (if 0 < h then h - 1 else h) (if h = 0 then true else dn), .bool (!(h == 0))]) ∧ w' = (w.alloc (.cells #[.slice A1 n1 c1, .slice A2 n2 c2, .slice A3 n3 c3, .int .i64 (if h = 0 then wr else wr + 1), .int .i64 (if 0 < h then h - 1 else h), .bool (if h = 0 then true else dn)] 29)).alloc (.cells #[.slice A1 n1 c1, .slice A2 n2 c2, .slice A3 n3 c3, .int .i64 (if h = 0 then wr else wr + 1), .int .i64 (if 0 < h then h - 1 else h), .bool (if h = 0 then true else dn)] 29) := by
  rcases Int.lt_trichotomy h 0 with h0 | h0 | h0
  · have e1 : (if h = 0 then wr else wr + 1) = wr + 1 := if_neg (by omega)
    have e2 : (if 0 < h then h - 1 else h) = h := if_neg (by omega)
    have e3 : (if h = 0 then true else dn) = dn := if_neg (by omega)
    have e4 : (h == 0) = false := by rw [beq_eq_false_iff_ne]; omega
    rw [e1, e2, e3, e4]
    have h5 : ¬ (0 < h) := by omega
    clear e1 e2 e3 h0
    go_enter Try.func29, Try.ntmps29
    go_wp2
    ((try simp only [Exit.inBlock, Exit.then]); refine bodyPost_ret (results_row_tmp rfl _ _ (w.heap.size + 1) 29 _ _ _ rfl (heap_last _ _ _ (by simp)) Try.underlying29 disk_info) rfl ?_)
    exact ⟨rfl, rfl⟩
  · subst h0
    go_enter Try.func29, Try.ntmps29
    go_wp2
    ((try simp only [Exit.inBlock, Exit.then]); refine bodyPost_ret (results_row_tmp rfl _ _ (w.heap.size + 1) 29 _ _ _ rfl (heap_last _ _ _ (by simp)) Try.underlying29 disk_info) rfl ?_)
    exact ⟨rfl, rfl⟩
  · have e1 : (if h = 0 then wr else wr + 1) = wr + 1 := if_neg (by omega)
    have e2 : (if 0 < h then h - 1 else h) = h - 1 := if_pos h0
    have e3 : (if h = 0 then true else dn) = dn := if_neg (by omega)
    have e4 : (h == 0) = false := by rw [beq_eq_false_iff_ne]; omega
    rw [e1, e2, e3, e4]
    clear e1 e2 e3
    go_enter Try.func29, Try.ntmps29
    go_wp2
    ((try simp only [Exit.inBlock, Exit.then]); refine bodyPost_ret (results_row_tmp rfl _ _ (w.heap.size + 1) 29 _ _ _ rfl (heap_last _ _ _ (by simp)) Try.underlying29 disk_info) rfl ?_)
    exact ⟨rfl, rfl⟩

theorem info_parts {t : TypeId} {z : Value} {a b : Nat} (h : (Try.prog.info? t).map (fun i => (i.zero, i.size, i.bytes)) = some (some z, a, b)) : ∃ i, Try.prog.info? t = some i ∧ i.zero = some z ∧ i.size = a ∧ i.bytes = b := by
  cases hi : Try.prog.info? t with
  | none => rw [hi] at h; cases h
  | some i =>
    rw [hi] at h
    simp only [Option.map_some, Option.some.injEq, Prod.mk.injEq] at h
    exact ⟨i, rfl, h.1, h.2.1, h.2.2⟩
theorem two_len {α : Type} (G : List α) (x y : α) : ((G ++ [x]) ++ [y]).length = G.length + 1 + 1 := by simp

set_option maxHeartbeats 1000000 in
theorem refWith_any (s : List Int) (A : Option Addr) (c : Nat) (x : Int) (w : World) (hl : s.length ≤ 1000000) (hs : At vInt w A s) :
    Calls Try.prog 33 #[.slice A s.length c, .int .i64 x] w fun e w' => ∃ v, e = .returned v ∧ w'.ownsRow w.heap.size 3 1 v (withR x s).length ((withR x s).map vInt) ∧ Below w.heap.size w w' := by
  obtain ⟨i0, hi, hz0, hz1, hz2⟩ := info_parts info3
  have HX := Lib.hid hs
  clear hs
  go_enter Try.func33, Try.ntmps33
  go_wp2
  go_loopw [5, 6, 12] (fun v dn i wr => ∃ (k : Nat) (G : List Int) (done : Bool), k ≤ s.length ∧ i = .int .i64 (k : Int) ∧ dn = .bool done ∧ G.length ≤ k + done.toNat ∧ wr.ownsRow w.heap.size 3 1 v G.length (G.map vInt) ∧ Below w.heap.size w wr ∧ (G ++ (if done then s.drop k else withR x (s.drop k))) = withR x s) (fun _ _ i _ => s.length - (intOf i).toNat)
  case atStart => exact ⟨0, [], false, Nat.zero_le _, rfl, rfl, by simp, World.ownsRow_lit w #[] 0 (Nat.le_refl _) (Nat.zero_le _) rfl, (Below.refl _ _).alloc (Nat.le_refl _) _, rfl⟩
  case round =>
    obtain ⟨k, G, done, hk, rfl, rfl, hG, hown, hb, hr⟩ := hrel
    have hbs := hb.size
    have hG0 : G.length ≤ k + 1 := by have := Bool.toNat_le done; omega
    by_cases hlt : k < s.length
    · obtain ⟨b, off, hA, _, hc⟩ := (HX.out.below (hb.mono (Nat.le_refl _))) (by omega)
      subst hA
      have c0 := hc k hlt
      have HR0 := Lib.hid (fun h1 h2 => with_rel (G := G) (x := x) hlt h1 h2)
      have HR1 := Lib.hid (fun hx => with_same (G := G) (x := x) hlt hx)
      have HR2 := Lib.hid (fun hx => with_less (G := G) (x := x) hlt hx)
      have HR3 := Lib.hid (with_done (G := G) hlt)
      have hm3 : G.length + 1 ≤ maxLen := by unfold maxLen; omega
      have hm4 : (G.length + 1) * 8 ≤ 140737488355328 := by omega
      have hn3 : G.length + 1 + 1 ≤ maxLen := by unfold maxLen; omega
      have hn4 : (G.length + 1 + 1) * 8 ≤ 140737488355328 := by omega
      clear hc
      generalize s[k] = y at *
      cases done with
      | true =>
        clear hG
        rw [if_pos rfl, HR3.out] at hr
        have HN := Lib.hid hr
        clear hr HR0 HR1 HR2 HR3
        go_wp2_with (at_builtin; refine wpList_append_own _ rfl _ _ 27 rfl w.heap.size 3 i0 (.int .i64 0) 1 8 Try.underlying27 hi hz0 hz1 hz2 rfl (by decide) _ _ _ rfl (hown.alloc _) ⟨wr.heap.size, 0, none⟩ 1 1 [.int .i64 y] rfl rfl (one_new _ _ _ _ rfl) (one_int _) hm3 hm4 (base1 hbs _) ?_)
        intro v' w1 hown' hgrow _
        have hb1 : Below w.heap.size w w1 := (hb.alloc hbs _).grown hgrow (base1 hbs _) (fun r hr => (hown.lt r hr).1)
        have HO : Hid (w1.ownsRow w.heap.size 3 1 v' (G ++ [y]).length ((G ++ [y]).map vInt)) := by rw [map_snoc, List.length_append]; exact hown'
        clear hown' hgrow hown
        go_wp2
        go_roundw
        case rel => exact ⟨k + 1, G ++ [y], true, by omega, by go_num, rfl, by simp only [List.length_append, List.length_cons, List.length_nil, Bool.toNat_true]; omega, HO.out, hb1, HN.out⟩
        case measure => simp [intOf]; omega
      | false =>
        have hG1 : G.length ≤ k := hG
        clear hG
        rw [if_neg (by decide)] at hr
        by_cases hxy : x < y
        · rw [HR2.out hxy] at hr
          have HN := Lib.hid hr
          clear hr HR0 HR1 HR2 HR3
          have hle : x ≤ y := by omega
          go_wp2_with (at_builtin; refine wpList_append_own _ rfl _ _ 27 rfl w.heap.size 3 i0 (.int .i64 0) 1 8 Try.underlying27 hi hz0 hz1 hz2 rfl (by decide) _ _ _ rfl (hown.alloc _) ⟨wr.heap.size, 0, none⟩ 1 1 [.int .i64 x] rfl rfl (one_new _ _ _ _ rfl) (one_int _) hm3 hm4 (base1 hbs _) ?_)
          intro v' w1 hown' hgrow _
          have hb1 : Below w.heap.size w w1 := (hb.alloc hbs _).grown hgrow (base1 hbs _) (fun r hr => (hown.lt r hr).1)
          have hown1 : w1.ownsRow w.heap.size 3 1 v' (G.length + 1) (G.map vInt ++ [.int .i64 x]) := hown'
          have hbs1 := hb1.size
          clear hown' hgrow hown
          go_wp2_with (at_builtin; refine wpList_append_own _ rfl _ _ 27 rfl w.heap.size 3 i0 (.int .i64 0) 1 8 Try.underlying27 hi hz0 hz1 hz2 rfl (by decide) _ _ _ rfl (hown1.alloc _) ⟨w1.heap.size, 0, none⟩ 1 1 [.int .i64 y] rfl rfl (one_new _ _ _ _ rfl) (one_int _) hn3 hn4 (base1 hbs1 _) ?_)
          intro v2 w2 hown2 hgrow2 _
          have hb2 : Below w.heap.size w w2 := (hb1.alloc hbs1 _).grown hgrow2 (base1 hbs1 _) (fun r hr => (hown1.lt r hr).1)
          have HO : Hid (w2.ownsRow w.heap.size 3 1 v2 ((G ++ [x]) ++ [y]).length (((G ++ [x]) ++ [y]).map vInt)) := by rw [map_snoc, map_snoc, two_len, List.append_assoc]; exact hown2
          clear hown2 hgrow2 hown1
          go_wp2
          go_roundw
          case rel => exact ⟨k + 1, (G ++ [x]) ++ [y], true, by omega, by go_num, rfl, by simp only [List.length_append, List.length_cons, List.length_nil, Bool.toNat_true]; omega, HO.out, hb2, HN.out⟩
          case measure => simp [intOf]; omega
        · by_cases hxe : x = y
          · rw [HR1.out hxe] at hr
            have HN := Lib.hid hr
            clear hr HR0 HR1 HR2 HR3
            have hle : x ≤ y := by omega
            clear hxe
            go_wp2_with (at_builtin; refine wpList_append_own _ rfl _ _ 27 rfl w.heap.size 3 i0 (.int .i64 0) 1 8 Try.underlying27 hi hz0 hz1 hz2 rfl (by decide) _ _ _ rfl (hown.alloc _) ⟨wr.heap.size, 0, none⟩ 1 1 [.int .i64 y] rfl rfl (one_new _ _ _ _ rfl) (one_int _) hm3 hm4 (base1 hbs _) ?_)
            intro v' w1 hown' hgrow _
            have hb1 : Below w.heap.size w w1 := (hb.alloc hbs _).grown hgrow (base1 hbs _) (fun r hr => (hown.lt r hr).1)
            have HO : Hid (w1.ownsRow w.heap.size 3 1 v' (G ++ [y]).length ((G ++ [y]).map vInt)) := by rw [map_snoc, List.length_append]; exact hown'
            clear hown' hgrow hown
            go_wp2
            go_roundw
            case rel => exact ⟨k + 1, G ++ [y], true, by omega, by go_num, rfl, by simp only [List.length_append, List.length_cons, List.length_nil, Bool.toNat_true]; omega, HO.out, hb1, HN.out⟩
            case measure => simp [intOf]; omega
          · rw [HR0.out hxy hxe] at hr
            have HN := Lib.hid hr
            clear hr HR0 HR1 HR2 HR3
            have hle : ¬ x ≤ y := by omega
            clear hxe
            go_wp2_with (at_builtin; refine wpList_append_own _ rfl _ _ 27 rfl w.heap.size 3 i0 (.int .i64 0) 1 8 Try.underlying27 hi hz0 hz1 hz2 rfl (by decide) _ _ _ rfl (hown.alloc _) ⟨wr.heap.size, 0, none⟩ 1 1 [.int .i64 y] rfl rfl (one_new _ _ _ _ rfl) (one_int _) hm3 hm4 (base1 hbs _) ?_)
            intro v' w1 hown' hgrow _
            have hb1 : Below w.heap.size w w1 := (hb.alloc hbs _).grown hgrow (base1 hbs _) (fun r hr => (hown.lt r hr).1)
            have HO : Hid (w1.ownsRow w.heap.size 3 1 v' (G ++ [y]).length ((G ++ [y]).map vInt)) := by rw [map_snoc, List.length_append]; exact hown'
            clear hown' hgrow hown
            go_wp2
            go_roundw
            case rel => exact ⟨k + 1, G ++ [y], false, by omega, by go_num, rfl, by simp only [List.length_append, List.length_cons, List.length_nil, Bool.toNat_false]; omega, HO.out, hb1, HN.out⟩
            case measure => simp [intOf]; omega
    · have hd : s.drop k = [] := List.drop_eq_nil_of_le (by omega)
      rw [hd] at hr
      have hm3 : G.length + 1 ≤ maxLen := by unfold maxLen; omega
      have hm4 : (G.length + 1) * 8 ≤ 140737488355328 := by omega
      cases done with
      | true =>
        rw [if_pos rfl, List.append_nil] at hr
        have HO : Hid (wr.ownsRow w.heap.size 3 1 u5 (withR x s).length ((withR x s).map vInt)) := by rw [← hr]; exact hown
        clear hr hd hown
        go_wp2
        go_ret
        exact ⟨_, rfl, HO.out, hb⟩
      | false =>
        have hr' : G ++ [x] = withR x s := hr
        have HN := Lib.hid hr'
        clear hr hr' hd
        go_wp2_with (at_builtin; refine wpList_append_own _ rfl _ _ 27 rfl w.heap.size 3 i0 (.int .i64 0) 1 8 Try.underlying27 hi hz0 hz1 hz2 rfl (by decide) _ _ _ rfl (hown.alloc _) ⟨wr.heap.size, 0, none⟩ 1 1 [.int .i64 x] rfl rfl (one_new _ _ _ _ rfl) (one_int _) hm3 hm4 (base1 hbs _) ?_)
        intro v' w1 hown' hgrow _
        have hb1 : Below w.heap.size w w1 := (hb.alloc hbs _).grown hgrow (base1 hbs _) (fun r hr => (hown.lt r hr).1)
        have HO : Hid (w1.ownsRow w.heap.size 3 1 v' (withR x s).length ((withR x s).map vInt)) := by rw [← HN.out, map_snoc, List.length_append]; exact hown'
        clear hown' hgrow hown
        go_wp2
        go_ret
        exact ⟨_, rfl, HO.out, hb1⟩
end Dsk
end Go.Proofs.Ytojbanknbgihgaa
