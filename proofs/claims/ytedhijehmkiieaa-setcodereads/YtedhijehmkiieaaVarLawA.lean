/-
  The walk of the statement VarintNums: a number has just its bytes, comes back, and no number's bytes begin with another one's.
-/
import Derived.Test.YtedhijehmkiieaaRows
import Derived.Test.YtedhijehmkiieaaVarIn
namespace Go.Proofs.Ytedhijehmkiieaa
open Go.RowKit
namespace V

theorem num_okM (g : Nat) (s : ByteArray) (e x n : Nat) (w : World) (h : InAt w g s e) (hs : s.size ≤ maxLen) (hr : Var.hd 0 0 s.data.toList = (x, n, 0)) (hx : x < 18446744073709551616) :
    Calls Try.prog 57 #[.pointer (some ⟨g, 0, none⟩), .int .u64 18446744073709551615] w fun r w' => r = .returned (.int .u64 (x : Int)) ∧ InAt w' g (s.extract n s.size) e ∧ w.grownBy w' (some g) :=
  num_ok g s e 18446744073709551615 x n w h hs hr (by omega)

theorem mk_data (l : List UInt8) : (ByteArray.mk l.toArray).data.toList = l := rfl
theorem mk_size (l : List UInt8) : (ByteArray.mk l.toArray).size = l.length := by show l.toArray.size = _; simp
theorem drop_data (s : ByteArray) (n : Nat) : (s.extract n s.size).data.toList = s.data.toList.drop n := by
  rw [ByteArray.data_extract, Array.toList_extract]
  simp only [List.extract]
  exact List.take_of_length_le (by rw [List.length_drop, Array.length_toList]; exact Nat.le_refl _)
theorem size_data (s : ByteArray) : s.data.toList.length = s.size := by rw [Array.length_toList]; rfl
theorem cat_data (a b : ByteArray) : (a ++ b).data.toList = a.data.toList ++ b.data.toList := by simp [ByteArray.data_append]
theorem cat_size (a b : ByteArray) : (a ++ b).size = a.size + b.size := ByteArray.size_append
theorem take_data (s : ByteArray) (n : Nat) : (s.extract 0 n).data.toList = s.data.toList.take n := by
  rw [ByteArray.data_extract, Array.toList_extract]; simp [List.extract]

/-- 'begins == (x == y)' -/
theorem begins_ne (x y : Nat) (hx : x < 18446744073709551616) (hy : y < 18446744073709551616) (h : x ≠ y) (S T : ByteArray) (hS : S.data.toList = Var.num x) (hT : T.data.toList = Var.num y) :
    ((T.extract 0 S.size).toList == S.toList) = false := by
  rw [beq_eq_false_iff_ne]
  intro e
  rw [Lib.toList_data, Lib.toList_data, take_data, hS, hT] at e
  refine h (Var.num_begins x y hx hy ((Var.num y).drop S.size) ?_)
  rw [← e]; exact (List.take_append_drop _ _).symm

theorem keep7 {w4 w5 w6 w7 : World} {g e : Nat} {U : ByteArray} (h : InAt w6 g U e) (hz : g < w4.heap.size) (h5 : w4.grownBy w5 (some g)) (h6 : w5.grownBy w6 (some g)) (h7 : Below w6.heap.size w6 w7) : InAt w7 g U e :=
  h.below h7 (Nat.lt_of_lt_of_le (Nat.lt_of_lt_of_le hz h5.size) h6.size)
theorem chain7 {w w1 w2 w3 w4 w5 w6 w7 : World} (h1 : Below w.heap.size w w1) (h2 : Below w1.heap.size w1 w2) (h3 : Below w2.heap.size w2 w3) (h4 : Below w3.heap.size w3 w4)
    (h5 : w4.grownBy w5 (some w3.heap.size)) (h6 : w5.grownBy w6 (some w3.heap.size)) (h7 : Below w6.heap.size w6 w7) : Below w.heap.size w w7 := by
  have a2 := h1.trans (h2.mono h1.size)
  have a3 := a2.trans (h3.mono a2.size)
  have a4 := a3.trans (h4.mono a3.size)
  have a5 := a4.trans (grown_below h5 a3.size a4.size)
  have a6 := a5.trans (grown_below h6 a3.size a5.size)
  exact a6.trans (h7.mono a6.size)

end V
end Go.Proofs.Ytedhijehmkiieaa
