/-
  What the calls of an In do (package varint): Of, Fail, Num, Raw, Text, Err, Left, End, and the bytes of a text, for every state and every world.
-/
import Derived.Test.YtnnjcgamhkmljaaVarWalks
import Derived.Deep.QuietTactic
import Derived.BigQuiet
import Derived.Lib.Bytes
namespace Go.Proofs.Ytnnjcgamhkmljaa
open Go.RowKit
namespace V

theorem results_none {fn : Func} (h : fn.results = #[]) (tmps : Array Value) (P : Program) (w : World) : (results fn tmps).run P w = .ok (.tuple #[]) w := by simp [results, h]
theorem nat_eq0 {f : Nat} (h : 0 < f) : ((f : Int) == 0) = false := by rw [beq_eq_false_iff_ne]; omega
theorem nat_ne0 {f : Nat} (h : 0 < f) : ((f : Int) != 0) = true := by rw [bne_iff_ne]; omega

/-- an In: what is left, and the first error's number -/
def InAt (w : World) (g : Nat) (s : ByteArray) (e : Nat) : Prop :=
  w.cell? ⟨g, 0, none⟩ = some (.string s) ∧ w.cell? ⟨g, 1, none⟩ = some (.int .i64 (e : Int)) ∧ w.frozen? ⟨g, 0, none⟩ = false ∧ w.frozen? ⟨g, 1, none⟩ = false
theorem InAt.below {w w' : World} {g B : Nat} {s : ByteArray} {e : Nat} (h : InAt w g s e) (hb : Below B w w') (hg : g < B) : InAt w' g s e :=
  ⟨(hb.cell (p := ⟨g, 0, none⟩) hg).trans h.1, (hb.cell (p := ⟨g, 1, none⟩) hg).trans h.2.1, (hb.frozen (p := ⟨g, 0, none⟩) hg).trans h.2.2.1, (hb.frozen (p := ⟨g, 1, none⟩) hg).trans h.2.2.2⟩

/-- Fail, on the state -/
def failS (s : ByteArray) (e f : Nat) : ByteArray × Nat := if f = 0 ∨ e ≠ 0 then (s, e) else (⟨#[]⟩, f)

theorem grown_set (w : World) (g o : Nat) (u : Value) : w.grownBy (w.setCell ⟨g, o, none⟩ u) (some g) :=
  ⟨rfl, rfl, rfl, by simp, fun i _ hne => Below.heap_setCell w ⟨g, o, none⟩ u i (by rintro rfl; exact hne rfl)⟩
theorem grown_tr {a b c : World} {g : Nat} (h : a.grownBy b (some g)) (k : b.grownBy c (some g)) : a.grownBy c (some g) :=
  ⟨k.os.trans h.os, k.tape.trans h.tape, k.output.trans h.output, Nat.le_trans h.size k.size, fun i hi hne => (k.block i (Nat.lt_of_lt_of_le hi h.size) hne).trans (h.block i hi hne)⟩
theorem grown_below {a b : World} {g B : Nat} (h : a.grownBy b (some g)) (hg : B ≤ g) (hB : B ≤ a.heap.size) : Below B a b :=
  ⟨h.os, h.tape, h.output, h.size, fun i hi => h.block i (by omega) (by intro e; injection e with e; omega)⟩
theorem grown_store {w : World} {g : Nat} (u v : Value) : w.grownBy ((w.setCell ⟨g, 1, none⟩ u).setCell ⟨g, 0, none⟩ v) (some g) :=
  grown_tr (grown_set w g 1 u) (grown_set _ g 0 v)

theorem hd_le : ∀ (l : List UInt8) (i acc x n f : Nat), Var.hd i acc l = (x, n, f) → n ≤ i + l.length
  | [], i, acc, x, n, f, h => by simp only [Var.hd, Prod.mk.injEq] at h; omega
  | b :: r, i, acc, x, n, f, h => by
    rw [Var.hd] at h
    by_cases h1 : (0 < i ∧ b.toNat = 0) ∨ (i = 9 ∧ 1 < b.toNat)
    · rw [if_pos h1] at h; simp only [Prod.mk.injEq] at h; omega
    · rw [if_neg h1] at h
      by_cases h2 : b.toNat < 128
      · rw [if_pos h2] at h; simp only [Prod.mk.injEq] at h; simp only [List.length_cons]; omega
      · rw [if_neg h2] at h
        have := hd_le r _ _ _ _ _ h
        simp only [List.length_cons]; omega

/-- Num, on the state: the answer, what is left, the first error -/
def numS (s : ByteArray) (e m : Nat) : Nat × ByteArray × Nat :=
  if (Var.hd 0 0 s.data.toList).2.2 = 0 then
    if (Var.hd 0 0 s.data.toList).1 ≤ m then ((Var.hd 0 0 s.data.toList).1, s.extract (Var.hd 0 0 s.data.toList).2.1 s.size, e) else (0, failS s e 4)
  else (0, failS s e (Var.hd 0 0 s.data.toList).2.2)

/-- Raw, on the state -/
def rawS (s : ByteArray) (e n : Nat) : ByteArray × ByteArray × Nat := if s.size < n then (⟨#[]⟩, failS s e 2) else (s.extract 0 n, s.extract n s.size, e)

/-- Text, on the state -/
def textS (s : ByteArray) (e m : Nat) : ByteArray × ByteArray × Nat := rawS (numS s e m).2.1 (numS s e m).2.2 (numS s e m).1

theorem numS_le (s : ByteArray) (e m : Nat) : (numS s e m).1 ≤ m := by
  unfold numS
  by_cases h : (Var.hd 0 0 s.data.toList).2.2 = 0
  · rw [if_pos h]
    by_cases h2 : (Var.hd 0 0 s.data.toList).1 ≤ m
    · rw [if_pos h2]; exact h2
    · rw [if_neg h2]; exact Nat.zero_le _
  · rw [if_neg h]; exact Nat.zero_le _
theorem failS_size (s : ByteArray) (e f : Nat) : (failS s e f).1.size ≤ s.size := by
  unfold failS; split
  · exact Nat.le_refl _
  · exact Nat.zero_le _
theorem numS_size (s : ByteArray) (e m : Nat) : (numS s e m).2.1.size ≤ s.size := by
  unfold numS
  by_cases h : (Var.hd 0 0 s.data.toList).2.2 = 0
  · rw [if_pos h]
    by_cases h2 : (Var.hd 0 0 s.data.toList).1 ≤ m
    · rw [if_pos h2]; show (s.extract _ s.size).size ≤ _; rw [ByteArray.size_extract]; omega
    · rw [if_neg h2]; exact failS_size _ _ _
  · rw [if_neg h]; exact failS_size _ _ _

theorem not_empty {s : ByteArray} (h : 0 < s.size) : s.toList.isEmpty = false := by
  rw [Lib.toList_data, Bool.eq_false_iff]; intro e
  have := List.isEmpty_iff.mp e
  have h2 : s.data.toList.length = s.size := by rw [Array.length_toList]; rfl
  rw [this] at h2; simp at h2; omega
theorem is_empty {s : ByteArray} (h : s.size = 0) : s.toList.isEmpty = true := by
  rw [Lib.toList_data, List.isEmpty_iff]
  have h2 : s.data.toList.length = s.size := by rw [Array.length_toList]; rfl
  exact List.length_eq_zero_iff.mp (by omega)

/-- End, on the state -/
def endS (s : ByteArray) (e : Nat) : Nat := if e = 0 ∧ 0 < s.size then 3 else e

/-- a text's bytes -/
def textB (s : ByteArray) : ByteArray := (ByteArray.mk (Var.num s.size).toArray) ++ s
theorem textB_data (s : ByteArray) : (textB s).data.toList = Var.num s.size ++ s.data.toList := by unfold textB; rw [ByteArray.data_append]; simp

set_option maxRecDepth 100000 in
set_option maxHeartbeats 1000000 in
theorem text_any (s : ByteArray) (w : World) (hs : s.size ≤ 1000000) :
    Calls Try.prog 98 #[.string s] w fun e w' => e = .returned (.string (textB s)) ∧ Below w.heap.size w w' := by
  have C := Lib.hid (fun W => num_any s.size W (by omega))
  have HT : Hid (textB s = (ByteArray.mk (Var.num s.size).toArray) ++ s) := rfl
  have hB : (ByteArray.mk (Var.num s.size).toArray).size ≤ 10 := by show (Var.num s.size).toArray.size ≤ 10; rw [List.size_toArray]; exact Var.num_ten _ (by omega)
  generalize textB s = T at *
  generalize ByteArray.mk (Var.num s.size).toArray = B at *
  go_enter Try.func98, Try.ntmps98
  go_wp2_with (go_at_call 84; ((with_reducible refine (C.out _).mono ?_); rintro e1 w1 ⟨rfl, hb1⟩))
  go_ret
  exact ⟨ret_str HT.out.symm, hb1⟩
set_option maxRecDepth 100000 in
set_option maxHeartbeats 1000000 in
theorem refText_any (s : ByteArray) (w : World) (hs : s.size ≤ 1000000) :
    Calls Try.prog 68 #[.string s] w fun e w' => e = .returned (.string (textB s)) ∧ Below w.heap.size w w' := by
  have C := Lib.hid (fun W => refNum_any s.size W (by omega))
  have HT : Hid (textB s = (ByteArray.mk (Var.num s.size).toArray) ++ s) := rfl
  have hB : (ByteArray.mk (Var.num s.size).toArray).size ≤ 10 := by show (Var.num s.size).toArray.size ≤ 10; rw [List.size_toArray]; exact Var.num_ten _ (by omega)
  generalize textB s = T at *
  generalize ByteArray.mk (Var.num s.size).toArray = B at *
  go_enter Try.func68, Try.ntmps68
  go_wp2_with (go_at_call 46; ((with_reducible refine (C.out _).mono ?_); rintro e1 w1 ⟨rfl, hb1⟩))
  go_ret
  exact ⟨ret_str HT.out.symm, hb1⟩

theorem num300 : Var.num 300 = [172, 2] := by rw [Var.num_ge (by omega), Var.num_lt (by omega)]; rfl
theorem awake_num (w : World) : Calls Try.prog 84 #[.int .u64 300] w fun e w' => e = .returned (.string { data := #[172, 2] }) ∧ Below w.heap.size w w' := by
  have h := num_any 300 w (by omega)
  rw [num300] at h; exact h
theorem awake_text (w : World) : Calls Try.prog 98 #[.string { data := #[97, 98] }] w fun e w' => e = .returned (.string { data := #[2, 97, 98] }) ∧ Below w.heap.size w w' := by
  have h := text_any { data := #[97, 98] } w (by decide)
  have e : textB { data := #[97, 98] } = { data := #[2, 97, 98] } := by
    unfold textB
    have : Var.num (ByteArray.size { data := #[97, 98] }) = [2] := Var.num_lt (by decide)
    rw [this]; rfl
  rw [e] at h; exact h
end V
end Go.Proofs.Ytnnjcgamhkmljaa
