/-
  The walk of the statement CrcGoesOn (and of the fixed fact and of Cut): from any sum on, for all texts.
-/
import Derived.Test.YtkeapapkigmdoaaRows
import Derived.Test.YtkeapapkigmdoaaCrcWalks
namespace Go.Proofs.Ytkeapapkigmdoaa
open Go.RowKit

theorem of_one (s : ByteArray) (W : World) (g : Nat) (hs : s.size ≤ maxLen) (hg : g = W.heap.size) :
    Calls Try.prog 25 #[.slice (some ⟨g, 0, none⟩) 1 1] (W.alloc (.cells #[.string s] 9)) fun e w' => e = .returned (.int .u32 ((Crc.on Crc.start s.data.toList).toNat : Int)) ∧ W.alloc (.cells #[.string s] 9) = w' := by
  subst hg
  have h := of_any [s] W.heap.size 1 (W.alloc (.cells #[.string s] 9)) (by simp) (by simpa using hs) (fun i hi => by
    have : i = 0 := by simpa using hi
    subst this; rw [World.cell?_alloc_mark]; rfl)
  simpa [joined] using h

theorem awake_sum : ((Crc.on Crc.start [49, 50, 51, 52, 53, 54, 55, 56, 57]).toNat : Int) = 58124007 := by
  have : Crc.on Crc.start [49, 50, 51, 52, 53, 54, 55, 56, 57] = 58124007#32 := by decide +kernel
  rw [this]; rfl
theorem awake_one (W : World) (g : Nat) (hg : g = W.heap.size) :
    Calls Try.prog 25 #[.slice (some ⟨g, 0, none⟩) 1 1] (W.alloc (.cells #[.string { data := #[49, 50, 51, 52, 53, 54, 55, 56, 57] }] 9)) fun e w' => e = .returned (.int .u32 58124007) ∧ W.alloc (.cells #[.string { data := #[49, 50, 51, 52, 53, 54, 55, 56, 57] }] 9) = w' := by
  have h := of_one ⟨#[49, 50, 51, 52, 53, 54, 55, 56, 57]⟩ W g (by decide) hg
  rw [awake_sum] at h
  exact h
theorem four_258 (W : World) : Calls Try.prog 28 #[.int .u32 258] W fun e w' => e = .returned (.string { data := #[0, 0, 1, 2] }) ∧ Below W.heap.size W w' := four_any 258#32 W

set_option maxHeartbeats 400000 in
theorem awake_any (w : World) : Calls Try.prog 24 #[] w fun e w' => e = .returned (.bool true) ∧ Below w.heap.size w w' := by
  go_enter Try.func24, Try.ntmps24
  go_wp2_with (first | (go_at_call 25; refine (awake_one _ _ ?_).mono ?_; (· rfl); rintro e w' ⟨rfl, rfl⟩) | (go_at_call 28; refine (four_258 _).mono ?_; rintro e w' ⟨rfl, hb⟩))
  go_ret
  exact ⟨rfl, ((Below.refl _ _).alloc (Nat.le_refl _) _).trans (hb.mono (by simp))⟩

theorem ret_bool {a b : Bool} (h : a = b) : Ending.returned (.bool a) = .returned (.bool b) := by rw [h]
theorem ret_str {a b : ByteArray} (h : a = b) : Ending.returned (.string a) = .returned (.string b) := by rw [h]

/-- 'Cut': at most n bytes. -/
def cutB (s : ByteArray) (n : Nat) : ByteArray := if n < s.size then s.extract 0 n else s
theorem cutB_size (s : ByteArray) (n : Nat) : (cutB s n).size ≤ n := by
  unfold cutB; split
  · simp; omega
  · omega

set_option maxHeartbeats 400000 in
theorem cut_any (s : ByteArray) (n : Nat) (w : World) (_hs : s.size ≤ maxLen) (hn : n ≤ 1000) :
    Calls Try.prog 15 #[.string s, .int .i64 (n : Int)] w fun e w' => e = .returned (.string (cutB s n)) ∧ w = w' := by
  by_cases h : n < s.size
  · have HE : Hid (cutB s n = s.extract 0 n) := by unfold cutB; rw [if_pos h]; rfl
    go_enter Try.func15, Try.ntmps15
    go_wp2
    go_ret
    exact ⟨ret_str HE.out.symm, rfl⟩
  · have HE : Hid (cutB s n = s) := by unfold cutB; rw [if_neg h]; rfl
    go_enter Try.func15, Try.ntmps15
    go_wp2
    go_ret
    exact ⟨ret_str HE.out.symm, rfl⟩

theorem cut60 (s : ByteArray) (w : World) (hs : s.size ≤ maxLen) : Calls Try.prog 15 #[.string s, .int .i64 60] w fun e w' => e = .returned (.string (cutB s 60)) ∧ w = w' := cut_any s 60 w hs (by omega)
theorem cut200 (s : ByteArray) (w : World) (hs : s.size ≤ maxLen) : Calls Try.prog 15 #[.string s, .int .i64 200] w fun e w' => e = .returned (.string (cutB s 200)) ∧ w = w' := cut_any s 200 w hs (by omega)

theorem cat_data (a b : ByteArray) : (a ++ b).data.toList = a.data.toList ++ b.data.toList := by simp [ByteArray.data_append]
theorem cat_size (a b : ByteArray) : (a ++ b).size = a.size + b.size := ByteArray.size_append

theorem refOn_cat (x : BitVec 32) (a b : ByteArray) (w : World) (ha : a.size ≤ 1000) (hb : b.size ≤ 1000) :
    Calls Try.prog 30 #[.int .u32 (x.toNat : Int), .string (a ++ b)] w fun e w' => e = .returned (.int .u32 ((Crc.on (Crc.on x a.data.toList) b.data.toList).toNat : Int)) ∧ w = w' := by
  have h := refOn_any x (a ++ b) w (by unfold maxLen; rw [cat_size]; omega)
  rw [cat_data, Crc.on_append] at h
  exact h
theorem on_x1 (x : BitVec 32) (s : ByteArray) (w : World) (hs : s.size ≤ maxLen) :
    Calls Try.prog 27 #[.int .u32 (bits .xor .u32 (x.toNat : Int) 1), .string s] w fun e w' => e = .returned (.int .u32 ((Crc.on (x ^^^ 1#32) s.data.toList).toNat : Int)) ∧ w = w' := by
  have h := on_any (x ^^^ 1#32) s w hs
  have e : bits .xor .u32 (x.toNat : Int) 1 = ((x ^^^ 1#32).toNat : Int) := by
    have := u32_xor_nat x.toNat 1 x.isLt (by omega)
    simpa using this
  rw [e]; exact h
theorem on_none (x : BitVec 32) (w : World) :
    Calls Try.prog 27 #[.int .u32 (x.toNat : Int), .string { data := #[] }] w fun e w' => e = .returned (.int .u32 (x.toNat : Int)) ∧ w = w' :=
  on_any x { data := #[] } w (by decide)
theorem on_unlike (x : BitVec 32) (l : List UInt8) : (((Crc.on (x ^^^ 1#32) l).toNat : Int) != ((Crc.on x l).toNat : Int)) = true := by
  rw [bne_iff_ne]
  intro h
  have h1 : Crc.on (x ^^^ 1#32) l = Crc.on x l := BitVec.eq_of_toNat_eq (by omega)
  have h2 := Crc.on_inj l _ _ h1
  have h3 := congrArg (fun z => x ^^^ z) h2
  simp [← BitVec.xor_assoc] at h3

set_option maxHeartbeats 1000000 in
theorem crcGoesOn_walk (x : BitVec 32) (a b : ByteArray) (w : World) (ha : a.size ≤ maxLen) (hb : b.size ≤ maxLen) :
    Calls Try.prog 8 #[.int .u32 (x.toNat : Int), .string a, .string b] w fun e w' => e = .returned (.bool true) ∧ Below w.heap.size w w' := by
  have hA := cutB_size a 60
  have hB := cutB_size b 60
  have cA := fun w => cut60 a w ha
  have cB := fun w => cut60 b w hb
  have CA := Lib.hid cA
  have CB := Lib.hid cB
  clear cA cB ha hb
  generalize cutB a 60 = A at *
  generalize cutB b 60 = B at *
  have hA' : A.size ≤ maxLen := by unfold maxLen; omega
  have hB' : B.size ≤ maxLen := by unfold maxLen; omega
  have hne := on_unlike x A.data.toList
  go_enter Try.func8, Try.ntmps8
  go_wp2_with (go_at_call 24; refine (awake_any _).mono ?_; rintro e w1 ⟨rfl, hw1⟩)
  go_wp2_with (first
    | (go_at_call 15; first | ((with_reducible refine (CA.out _).mono ?_); rintro e w' ⟨rfl, rfl⟩) | ((with_reducible refine (CB.out _).mono ?_); rintro e w' ⟨rfl, rfl⟩))
    | (go_at_call 30; first | ((with_reducible refine (refOn_any _ A _ hA').mono ?_); rintro e w' ⟨rfl, rfl⟩) | ((with_reducible refine (refOn_cat _ A B _ ?_ ?_).mono ?_); (· omega); (· omega); rintro e w' ⟨rfl, rfl⟩))
    | (go_at_call 27; first | ((with_reducible refine (on_x1 x A _ hA').mono ?_); rintro e w' ⟨rfl, rfl⟩) | ((with_reducible refine (on_any _ A _ hA').mono ?_); rintro e w' ⟨rfl, rfl⟩) | ((with_reducible refine (on_any _ B _ hB').mono ?_); rintro e w' ⟨rfl, rfl⟩) | ((with_reducible refine (on_none _ _).mono ?_); rintro e w' ⟨rfl, rfl⟩)))
  go_ret
  exact ⟨rfl, hw1⟩
theorem u32_bv {a : Int} (h : (Lit.int .u32 a).wf = true) : ∃ x : BitVec 32, a = (x.toNat : Int) := by
  have hx : 0 ≤ a ∧ a ≤ 4294967295 := by simpa [Lit.wf, IntKind.min, IntKind.max, IntKind.signed, IntKind.bits] using h
  exact ⟨BitVec.ofNat 32 a.toNat, by rw [BitVec.toNat_ofNat]; omega⟩
end Go.Proofs.Ytkeapapkigmdoaa
