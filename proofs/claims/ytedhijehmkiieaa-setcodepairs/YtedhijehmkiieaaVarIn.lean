/-
  What the calls of an In do (package varint): Of, Fail, Num, Raw, Text, Err, Left, End, and the bytes of a text, for every state and every world.
-/
import Derived.Test.YtedhijehmkiieaaVarWalks
import Derived.Deep.QuietTactic
import Derived.BigQuiet
import Derived.Lib.Bytes
namespace Go.Proofs.Ytedhijehmkiieaa
open Go.RowKit
namespace V

theorem results_none {fn : Func} (h : fn.results = #[]) (tmps : Array Value) (P : Program) (w : World) : (results fn tmps).run P w = .ok (.tuple #[]) w := by simp [results, h]
theorem nat_eq0 {f : Nat} (h : 0 < f) : ((f : Int) == 0) = false := by rw [beq_eq_false_iff_ne]; omega
theorem nat_ne0 {f : Nat} (h : 0 < f) : ((f : Int) != 0) = true := by rw [bne_iff_ne]; omega

/-- an In: what is left, and the first error's number -/
def InAt (w : World) (g : Nat) (s : ByteArray) (e : Nat) : Prop :=
  w.cell? ⟨g, 0, none⟩ = some (.string s) ∧ w.cell? ⟨g, 1, none⟩ = some (.int .i64 (e : Int)) ∧ w.frozen? ⟨g, 0, none⟩ = false ∧ w.frozen? ⟨g, 1, none⟩ = false
theorem InAt.below {w w' : World} {g B : Nat} {s : ByteArray} {e : Nat} (h : InAt w g s e) (hb : Below B w w') (hg : g < B) : InAt w' g s e :=
  ⟨(hb.cell (p := ⟨g, 0, none⟩) hg).trans h.1, (hb.cell (p := ⟨g, 1, none⟩) hg).trans h.2.1, (hb.frozen (p := ⟨g, 0, none⟩) hg).trans h.2.2.1, (hb.frozen (p := ⟨g, 1, none⟩) hg).trans h.2.2.2⟩

/-- Fail, on the state -/
def failS (s : ByteArray) (e f : Nat) : ByteArray × Nat := if f = 0 ∨ e ≠ 0 then (s, e) else (⟨#[]⟩, f)

set_option maxHeartbeats 1000000 in
theorem of_new (s : ByteArray) (w : World) :
    Calls Try.prog 56 #[.string s] w fun e w' => e = .returned (.pointer (some ⟨w.heap.size, 0, none⟩)) ∧ InAt w' w.heap.size s 0 ∧ Below w.heap.size w w' ∧ w.heap.size < w'.heap.size := by
  go_enter Try.func56, Try.ntmps56
  go_wp2
  go_ret
  refine ⟨rfl, ⟨?_, ?_, ?_, ?_⟩, (Below.refl _ _).alloc (Nat.le_refl _) _, by simp⟩
  · rw [World.cell?_alloc_mark]; rfl
  · rw [World.cell?_alloc_mark]; rfl
  · rw [World.frozen?_alloc_mark]; rfl
  · rw [World.frozen?_alloc_mark]; rfl

theorem grown_set (w : World) (g o : Nat) (u : Value) : w.grownBy (w.setCell ⟨g, o, none⟩ u) (some g) :=
  ⟨rfl, rfl, rfl, by simp, fun i _ hne => Below.heap_setCell w ⟨g, o, none⟩ u i (by rintro rfl; exact hne rfl)⟩
theorem grown_tr {a b c : World} {g : Nat} (h : a.grownBy b (some g)) (k : b.grownBy c (some g)) : a.grownBy c (some g) :=
  ⟨k.os.trans h.os, k.tape.trans h.tape, k.output.trans h.output, Nat.le_trans h.size k.size, fun i hi hne => (k.block i (Nat.lt_of_lt_of_le hi h.size) hne).trans (h.block i hi hne)⟩
theorem grown_below {a b : World} {g B : Nat} (h : a.grownBy b (some g)) (hg : B ≤ g) (hB : B ≤ a.heap.size) : Below B a b :=
  ⟨h.os, h.tape, h.output, h.size, fun i hi => h.block i (by omega) (by intro e; injection e with e; omega)⟩
theorem grown_store {w : World} {g : Nat} (u v : Value) : w.grownBy ((w.setCell ⟨g, 1, none⟩ u).setCell ⟨g, 0, none⟩ v) (some g) :=
  grown_tr (grown_set w g 1 u) (grown_set _ g 0 v)

set_option maxHeartbeats 1000000 in
theorem fail_any (g : Nat) (s : ByteArray) (e f : Nat) (w : World) (h : InAt w g s e) :
    Calls Try.prog 59 #[.pointer (some ⟨g, 0, none⟩), .int .i64 (f : Int)] w fun r w' => r = .returned (.tuple #[]) ∧ InAt w' g (failS s e f).1 (failS s e f).2 ∧ w.grownBy w' (some g) := by
  have hh := h
  obtain ⟨h0, h1, h2, h3⟩ := h
  by_cases hf0 : f = 0
  · subst hf0
    have HF : Hid (failS s e 0 = (s, e)) := by unfold failS; rw [if_pos (.inl rfl)]; rfl
    go_enter Try.func59, Try.ntmps59
    go_wp2
    refine bodyPost_ret (results_none rfl _ _ _) rfl ?_
    rw [HF.out]
    exact ⟨rfl, hh, World.grownBy.refl _ _⟩
  · have hf1 := nat_eq0 (show 0 < f by omega)
    by_cases he : e = 0
    · subst he
      have HF : Hid (failS s 0 f = (⟨#[]⟩, f)) := by unfold failS; rw [if_neg (by omega)]; rfl
      go_enter Try.func59, Try.ntmps59
      go_wp2
      go_end0
      rw [HF.out]
      refine ⟨rfl, ⟨?_, ?_, ?_, ?_⟩, grown_store _ _⟩
      · go_simp
      · go_simp
      · go_simp
      · go_simp
    · have he1 := nat_ne0 (show 0 < e by omega)
      have HF : Hid (failS s e f = (s, e)) := by unfold failS; rw [if_pos (.inr he)]; rfl
      go_enter Try.func59, Try.ntmps59
      go_wp2
      refine bodyPost_ret (results_none rfl _ _ _) rfl ?_
      rw [HF.out]
      exact ⟨rfl, hh, World.grownBy.refl _ _⟩

theorem hd_le : ∀ (l : List UInt8) (i acc x n f : Nat), Var.hd i acc l = (x, n, f) → n ≤ i + l.length
  | [], i, acc, x, n, f, h => by simp only [Var.hd, Prod.mk.injEq] at h; omega
  | b :: r, i, acc, x, n, f, h => by
    rw [Var.hd] at h
    by_cases h1 : (0 < i ∧ b.toNat = 0) ∨ (i = 9 ∧ 1 < b.toNat)
    · rw [if_pos h1] at h; simp only [Prod.mk.injEq] at h; omega
    · rw [if_neg h1] at h
      by_cases h2 : b.toNat < 128
      · rw [if_pos h2] at h; simp only [Prod.mk.injEq] at h; simp only [List.length_cons]; omega
      · rw [if_neg h2] at h
        have := hd_le r _ _ _ _ _ h
        simp only [List.length_cons]; omega

theorem first_at (s : ByteArray) (x n f : Nat) (w : World) (hs : s.size ≤ maxLen) (hr : Var.hd 0 0 s.data.toList = (x, n, f)) :
    Calls Try.prog 91 #[.string s] w fun e w' => e = .returned (.tuple #[.int .u64 (x : Int), .int .i64 (n : Int), .int .i64 (f : Int)]) ∧ w = w' := by
  have h := first_any s w hs
  rw [hr] at h; exact h

set_option maxRecDepth 100000 in
set_option maxHeartbeats 1000000 in
theorem num_ok (g : Nat) (s : ByteArray) (e m x n : Nat) (w : World) (h : InAt w g s e) (hs : s.size ≤ maxLen) (hr : Var.hd 0 0 s.data.toList = (x, n, 0)) (hx : x ≤ m) :
    Calls Try.prog 57 #[.pointer (some ⟨g, 0, none⟩), .int .u64 (m : Int)] w fun r w' => r = .returned (.int .u64 (x : Int)) ∧ InAt w' g (s.extract n s.size) e ∧ w.grownBy w' (some g) := by
  have hn := hd_le _ _ _ _ _ _ hr
  have hn' : n ≤ s.size := by rw [Array.length_toList] at hn; simpa using hn
  have HF := Lib.hid (first_at s x n 0 w hs hr)
  obtain ⟨h0, h1, h2, h3⟩ := h
  unfold maxLen at hs
  clear hr hn
  go_enter Try.func57, Try.ntmps57
  go_wp2_with (go_at_call 91; ((with_reducible refine HF.out.mono ?_); rintro e1 w' ⟨rfl, rfl⟩))
  go_ret
  refine ⟨rfl, ⟨?_, ?_, ?_, ?_⟩, grown_set _ _ _ _⟩
  · go_simp
  · go_simp
  · go_simp
  · go_simp

set_option maxRecDepth 100000 in
set_option maxHeartbeats 1000000 in
theorem num_bad (g : Nat) (s : ByteArray) (e m x n f : Nat) (w : World) (h : InAt w g s e) (hs : s.size ≤ maxLen) (hr : Var.hd 0 0 s.data.toList = (x, n, f)) (hf : 0 < f) :
    Calls Try.prog 57 #[.pointer (some ⟨g, 0, none⟩), .int .u64 (m : Int)] w fun r w' => r = .returned (.int .u64 0) ∧ InAt w' g (failS s e f).1 (failS s e f).2 ∧ w.grownBy w' (some g) := by
  have HF := Lib.hid (first_at s x n f w hs hr)
  have HG := Lib.hid (fail_any g s e f w h)
  have hf1 := nat_eq0 hf
  have hf2 := nat_ne0 hf
  obtain ⟨h0, h1, h2, h3⟩ := h
  clear hr hs
  go_enter Try.func57, Try.ntmps57
  go_wp2_with (first | (go_at_call 91; ((with_reducible refine HF.out.mono ?_); rintro e1 w' ⟨rfl, rfl⟩)) | (go_at_call 59; ((with_reducible refine HG.out.mono ?_); rintro e1 w1 ⟨rfl, hi1, hg1⟩)))
  go_ret
  exact ⟨rfl, hi1, hg1⟩

set_option maxRecDepth 100000 in
set_option maxHeartbeats 1000000 in
theorem num_big (g : Nat) (s : ByteArray) (e m x n : Nat) (w : World) (h : InAt w g s e) (hs : s.size ≤ maxLen) (hr : Var.hd 0 0 s.data.toList = (x, n, 0)) (hx : m < x) :
    Calls Try.prog 57 #[.pointer (some ⟨g, 0, none⟩), .int .u64 (m : Int)] w fun r w' => r = .returned (.int .u64 0) ∧ InAt w' g (failS s e 4).1 (failS s e 4).2 ∧ w.grownBy w' (some g) := by
  have HF := Lib.hid (first_at s x n 0 w hs hr)
  have HG := Lib.hid (show Calls Try.prog 59 #[.pointer (some ⟨g, 0, none⟩), .int .i64 4] w fun r w' => r = .returned (.tuple #[]) ∧ InAt w' g (failS s e 4).1 (failS s e 4).2 ∧ w.grownBy w' (some g) from fail_any g s e 4 w h)
  obtain ⟨h0, h1, h2, h3⟩ := h
  clear hr hs
  go_enter Try.func57, Try.ntmps57
  go_wp2_with (first | (go_at_call 91; ((with_reducible refine HF.out.mono ?_); rintro e1 w' ⟨rfl, rfl⟩)) | (go_at_call 59; ((with_reducible refine HG.out.mono ?_); rintro e1 w1 ⟨rfl, hi1, hg1⟩)))
  go_ret
  exact ⟨rfl, hi1, hg1⟩

/-- Num, on the state: the answer, what is left, the first error -/
def numS (s : ByteArray) (e m : Nat) : Nat × ByteArray × Nat :=
  if (Var.hd 0 0 s.data.toList).2.2 = 0 then
    if (Var.hd 0 0 s.data.toList).1 ≤ m then ((Var.hd 0 0 s.data.toList).1, s.extract (Var.hd 0 0 s.data.toList).2.1 s.size, e) else (0, failS s e 4)
  else (0, failS s e (Var.hd 0 0 s.data.toList).2.2)

theorem in_num (g : Nat) (s : ByteArray) (e m : Nat) (w : World) (h : InAt w g s e) (hs : s.size ≤ maxLen) :
    Calls Try.prog 57 #[.pointer (some ⟨g, 0, none⟩), .int .u64 (m : Int)] w fun r w' => r = .returned (.int .u64 ((numS s e m).1 : Int)) ∧ InAt w' g (numS s e m).2.1 (numS s e m).2.2 ∧ w.grownBy w' (some g) := by
  obtain ⟨x, n, f, hr⟩ : ∃ x n f, Var.hd 0 0 s.data.toList = (x, n, f) := ⟨_, _, _, rfl⟩
  by_cases hf : f = 0
  · subst hf
    by_cases hx : x ≤ m
    · have e1 : numS s e m = (x, s.extract n s.size, e) := by unfold numS; rw [hr, if_pos rfl, if_pos hx]
      rw [e1]; exact num_ok g s e m x n w h hs hr hx
    · have e1 : numS s e m = (0, failS s e 4) := by unfold numS; rw [hr, if_pos rfl, if_neg hx]
      rw [e1]; exact num_big g s e m x n w h hs hr (by omega)
  · have e1 : numS s e m = (0, failS s e f) := by unfold numS; rw [hr, if_neg hf]
    rw [e1]; exact num_bad g s e m x n f w h hs hr (by omega)

/-- Raw, on the state -/
def rawS (s : ByteArray) (e n : Nat) : ByteArray × ByteArray × Nat := if s.size < n then (⟨#[]⟩, failS s e 2) else (s.extract 0 n, s.extract n s.size, e)

/-- Text, on the state -/
def textS (s : ByteArray) (e m : Nat) : ByteArray × ByteArray × Nat := rawS (numS s e m).2.1 (numS s e m).2.2 (numS s e m).1

theorem numS_le (s : ByteArray) (e m : Nat) : (numS s e m).1 ≤ m := by
  unfold numS
  by_cases h : (Var.hd 0 0 s.data.toList).2.2 = 0
  · rw [if_pos h]
    by_cases h2 : (Var.hd 0 0 s.data.toList).1 ≤ m
    · rw [if_pos h2]; exact h2
    · rw [if_neg h2]; exact Nat.zero_le _
  · rw [if_neg h]; exact Nat.zero_le _
theorem failS_size (s : ByteArray) (e f : Nat) : (failS s e f).1.size ≤ s.size := by
  unfold failS; split
  · exact Nat.le_refl _
  · exact Nat.zero_le _
theorem numS_size (s : ByteArray) (e m : Nat) : (numS s e m).2.1.size ≤ s.size := by
  unfold numS
  by_cases h : (Var.hd 0 0 s.data.toList).2.2 = 0
  · rw [if_pos h]
    by_cases h2 : (Var.hd 0 0 s.data.toList).1 ≤ m
    · rw [if_pos h2]; show (s.extract _ s.size).size ≤ _; rw [ByteArray.size_extract]; omega
    · rw [if_neg h2]; exact failS_size _ _ _
  · rw [if_neg h]; exact failS_size _ _ _

set_option maxHeartbeats 1000000 in
theorem in_err (g : Nat) (s : ByteArray) (e : Nat) (w : World) (h : InAt w g s e) :
    Calls Try.prog 58 #[.pointer (some ⟨g, 0, none⟩)] w fun r w' => r = .returned (.int .i64 (e : Int)) ∧ w = w' := by
  obtain ⟨h0, h1, h2, h3⟩ := h
  go_enter Try.func58, Try.ntmps58
  go_wp2
  go_ret
  exact ⟨rfl, rfl⟩
theorem not_empty {s : ByteArray} (h : 0 < s.size) : s.toList.isEmpty = false := by
  rw [Lib.toList_data, Bool.eq_false_iff]; intro e
  have := List.isEmpty_iff.mp e
  have h2 : s.data.toList.length = s.size := by rw [Array.length_toList]; rfl
  rw [this] at h2; simp at h2; omega
theorem is_empty {s : ByteArray} (h : s.size = 0) : s.toList.isEmpty = true := by
  rw [Lib.toList_data, List.isEmpty_iff]
  have h2 : s.data.toList.length = s.size := by rw [Array.length_toList]; rfl
  exact List.length_eq_zero_iff.mp (by omega)

/-- End, on the state -/
def endS (s : ByteArray) (e : Nat) : Nat := if e = 0 ∧ 0 < s.size then 3 else e

set_option maxHeartbeats 1000000 in
theorem in_end (g : Nat) (s : ByteArray) (e : Nat) (w : World) (h : InAt w g s e) :
    Calls Try.prog 60 #[.pointer (some ⟨g, 0, none⟩)] w fun r w' => r = .returned (.int .i64 (endS s e : Int)) ∧ w = w' := by
  obtain ⟨h0, h1, h2, h3⟩ := h
  by_cases he : e = 0
  · subst he
    by_cases hz : 0 < s.size
    · have HE : Hid (endS s 0 = 3) := by unfold endS; rw [if_pos ⟨rfl, hz⟩]; rfl
      have hne := not_empty hz
      have hne2 : (!s.toList.isEmpty) = true := by rw [hne]; rfl
      go_enter Try.func60, Try.ntmps60
      go_wp2
      go_ret
      exact ⟨ret_int (by rw [HE.out]; rfl), rfl⟩
    · have HE : Hid (endS s 0 = 0) := by unfold endS; rw [if_neg (by omega)]; rfl
      have hne := is_empty (show s.size = 0 by omega)
      have hne2 : (!s.toList.isEmpty) = false := by rw [hne]; rfl
      go_enter Try.func60, Try.ntmps60
      go_wp2
      go_ret
      exact ⟨ret_int (by rw [HE.out]; rfl), rfl⟩
  · have HE : Hid (endS s e = e) := by unfold endS; rw [if_neg (by omega)]; rfl
    have he1 := nat_eq0 (show 0 < e by omega)
    go_enter Try.func60, Try.ntmps60
    go_wp2
    go_ret
    exact ⟨ret_int (by rw [HE.out]), rfl⟩

/-- a text's bytes -/
def textB (s : ByteArray) : ByteArray := (ByteArray.mk (Var.num s.size).toArray) ++ s
theorem textB_data (s : ByteArray) : (textB s).data.toList = Var.num s.size ++ s.data.toList := by unfold textB; rw [ByteArray.data_append]; simp

set_option maxRecDepth 100000 in
set_option maxHeartbeats 1000000 in
theorem text_any (s : ByteArray) (w : World) (hs : s.size ≤ 1000000) :
    Calls Try.prog 117 #[.string s] w fun e w' => e = .returned (.string (textB s)) ∧ Below w.heap.size w w' := by
  have C := Lib.hid (fun W => num_any s.size W (by omega))
  have HT : Hid (textB s = (ByteArray.mk (Var.num s.size).toArray) ++ s) := rfl
  have hB : (ByteArray.mk (Var.num s.size).toArray).size ≤ 10 := by show (Var.num s.size).toArray.size ≤ 10; rw [List.size_toArray]; exact Var.num_ten _ (by omega)
  generalize textB s = T at *
  generalize ByteArray.mk (Var.num s.size).toArray = B at *
  go_enter Try.func117, Try.ntmps117
  go_wp2_with (go_at_call 90; ((with_reducible refine (C.out _).mono ?_); rintro e1 w1 ⟨rfl, hb1⟩))
  go_ret
  exact ⟨ret_str HT.out.symm, hb1⟩
set_option maxRecDepth 100000 in
set_option maxHeartbeats 1000000 in
theorem refText_any (s : ByteArray) (w : World) (hs : s.size ≤ 1000000) :
    Calls Try.prog 87 #[.string s] w fun e w' => e = .returned (.string (textB s)) ∧ Below w.heap.size w w' := by
  have C := Lib.hid (fun W => refNum_any s.size W (by omega))
  have HT : Hid (textB s = (ByteArray.mk (Var.num s.size).toArray) ++ s) := rfl
  have hB : (ByteArray.mk (Var.num s.size).toArray).size ≤ 10 := by show (Var.num s.size).toArray.size ≤ 10; rw [List.size_toArray]; exact Var.num_ten _ (by omega)
  generalize textB s = T at *
  generalize ByteArray.mk (Var.num s.size).toArray = B at *
  go_enter Try.func87, Try.ntmps87
  go_wp2_with (go_at_call 49; ((with_reducible refine (C.out _).mono ?_); rintro e1 w1 ⟨rfl, hb1⟩))
  go_ret
  exact ⟨ret_str HT.out.symm, hb1⟩

theorem num300 : Var.num 300 = [172, 2] := by rw [Var.num_ge (by omega), Var.num_lt (by omega)]; rfl
theorem awake_num (w : World) : Calls Try.prog 90 #[.int .u64 300] w fun e w' => e = .returned (.string { data := #[172, 2] }) ∧ Below w.heap.size w w' := by
  have h := num_any 300 w (by omega)
  rw [num300] at h; exact h
theorem awake_text (w : World) : Calls Try.prog 117 #[.string { data := #[97, 98] }] w fun e w' => e = .returned (.string { data := #[2, 97, 98] }) ∧ Below w.heap.size w w' := by
  have h := text_any { data := #[97, 98] } w (by decide)
  have e : textB { data := #[97, 98] } = { data := #[2, 97, 98] } := by
    unfold textB
    have : Var.num (ByteArray.size { data := #[97, 98] }) = [2] := Var.num_lt (by decide)
    rw [this]; rfl
  rw [e] at h; exact h
end V
end Go.Proofs.Ytedhijehmkiieaa
