/-
  A slot's text and what it says (layer 6): plain mathematics.
-/
import Derived.Test.YtojbanknbgihgaaDoorDiskCrash
import Derived.Test.YtojbanknbgihgaaDoorCrcMath
namespace Go.Proofs.YtojbanknbgihgaaDoor
namespace Rt
open B Dsk

/-- a root -/
structure R where
  ep : Nat
  half : Int
  page : Int
  next : Int
  count : Int
  height : Int
def R0 : R := ⟨0, 0, 0, 0, 0, 0⟩

def four (n : Nat) : List UInt8 := Crc.fourOf (BitVec.ofNat 32 n)
theorem four_len (n : Nat) : (four n).length = 4 := rfl
theorem four_eq {n : Nat} (h : n < 4294967296) : four n = [UInt8.ofNat (n / 16777216), UInt8.ofNat (n / 65536), UInt8.ofNat (n / 256), UInt8.ofNat n] := by
  unfold four Crc.fourOf
  rw [show (BitVec.ofNat 32 n).toNat = n by rw [BitVec.toNat_ofNat]; exact Nat.mod_eq_of_lt h]

/-- the number of bytes, the highest first -/
def num (l : List UInt8) : Nat := l.foldl (fun x b => (x * 256 + b.toNat) % 18446744073709551616) 0
theorem num_four {n : Nat} (h : n < 4294967296) : num (four n) = n := by
  rw [four_eq h]
  simp only [num, List.foldl_cons, List.foldl_nil, UInt8.toNat_ofNat']
  omega

def epB (e : Nat) : List UInt8 := four (e / 4294967296) ++ four (e % 4294967296)
theorem epB_len (e : Nat) : (epB e).length = 8 := rfl
theorem num_ep {e : Nat} (h : e < 18446744073709551616) : num (epB e) = e := by
  unfold epB
  rw [four_eq (by omega), four_eq (Nat.mod_lt _ (by omega))]
  simp only [num, List.cons_append, List.nil_append, List.foldl_cons, List.foldl_nil, UInt8.toNat_ofNat']
  omega

/-- may all of r be, but for its epoch? -/
def may (r : R) : Prop := (r.half = 0 ∨ r.half = 1) ∧ (-1 ≤ r.page ∧ r.page ≤ 2147483647) ∧ (0 ≤ r.next ∧ r.next ≤ 2147483647) ∧ (0 ≤ r.count ∧ r.count ≤ 2147483647) ∧ (0 ≤ r.height ∧ r.height ≤ 2147483647)
instance (r : R) : Decidable (may r) := by unfold may; infer_instance

def nums (r : R) : List UInt8 := four (r.page + 1).toNat ++ (four r.next.toNat ++ (four r.count.toNat ++ four r.height.toNat))
def fields (r : R) : List UInt8 := epB r.ep ++ (UInt8.ofNat r.half.toNat :: nums r)
def sum (r : R) : List UInt8 := Crc.fourOf (Crc.on Crc.start (fields r))
def txtL (r : R) : List UInt8 := fields r ++ (sum r ++ (epB r.ep ++ List.replicate 219 0))
def txt (r : R) : ByteArray := ⟨(txtL r).toArray⟩
theorem nums_len (r : R) : (nums r).length = 16 := rfl
theorem fields_len (r : R) : (fields r).length = 25 := rfl
theorem sum_len (r : R) : (sum r).length = 4 := rfl
theorem txtL_len (r : R) : (txtL r).length = 256 := by
  unfold txtL
  rw [List.length_append, List.length_append, List.length_append, fields_len, sum_len, epB_len, List.length_replicate]
theorem txt_data (r : R) : (txt r).data.toList = txtL r := by simp [txt]
theorem txt_size (r : R) : (txt r).size = 256 := by have := size_data (txt r); rw [txt_data, txtL_len] at this; omega

/-- what a slot's bytes say -/
def part (t : ByteArray) (a n : Nat) : List UInt8 := (t.data.toList.drop a).take n
def rd (t : ByteArray) : R := ⟨num (part t 0 8), (t.data.toList.getD 8 0).toNat, (num (part t 9 4) : Int) - 1, num (part t 13 4), num (part t 17 4), num (part t 21 4)⟩

theorem part_txt (r : R) : part (txt r) 0 8 = epB r.ep ∧ (txt r).data.toList.getD 8 0 = UInt8.ofNat r.half.toNat ∧ part (txt r) 9 4 = four (r.page + 1).toNat ∧ part (txt r) 13 4 = four r.next.toNat ∧ part (txt r) 17 4 = four r.count.toNat ∧ part (txt r) 21 4 = four r.height.toNat ∧ part (txt r) 29 8 = epB r.ep := by
  unfold part
  rw [txt_data]
  exact ⟨rfl, rfl, rfl, rfl, rfl, rfl, rfl⟩
theorem rd_txt {r : R} (h : may r) (he : r.ep < 18446744073709551616) : rd (txt r) = r := by
  obtain ⟨p1, p2, p3, p4, p5, p6, _⟩ := part_txt r
  obtain ⟨ep, half, page, next, count, height⟩ := r
  obtain ⟨h1, h2, h3, h4, h5⟩ := h
  simp only at h1 h2 h3 h4 h5 he p1 p2 p3 p4 p5 p6
  unfold rd
  rw [p1, p2, p3, p4, p5, p6, num_ep he, num_four (by omega), num_four (by omega), num_four (by omega), num_four (by omega)]
  congr 1
  · rw [UInt8.toNat_ofNat']; omega
  · omega
  · omega
  · omega
  · omega
/-- a slot has a root -/
def good (t : ByteArray) : Prop := (rd t).ep ≠ 0 ∧ may (rd t) ∧ txt (rd t) = t
open Classical in
noncomputable def parse (t : ByteArray) : Option R := if good t then some (rd t) else none
theorem parse_some {t : ByteArray} {r : R} (h : parse t = some r) : r = rd t ∧ r.ep ≠ 0 ∧ may r ∧ txt r = t := by
  unfold parse at h
  split at h
  · rename_i hg
    injection h with h
    subst h
    exact ⟨rfl, hg⟩
  · cases h
theorem parse_txt {r : R} (h : may r) (he : r.ep < 18446744073709551616) (h0 : r.ep ≠ 0) : parse (txt r) = some r := by
  unfold parse
  rw [if_pos (by unfold good; rw [rd_txt h he]; exact ⟨h0, h, rfl⟩), rd_txt h he]
theorem parse_none {t : ByteArray} (h : ¬ good t) : parse t = none := by unfold parse; rw [if_neg h]
theorem parse_good {t : ByteArray} (h : good t) : parse t = some (rd t) := by unfold parse; rw [if_pos h]

/-- the root in use, and in which slot it is -/
noncomputable def firstR (a : ByteArray) : R × Int := match parse a with | some r => (r, 0) | none => (R0, -1)
noncomputable def newR (a b : ByteArray) : R × Int := match parse b with | some r => if (firstR a).1.ep < r.ep then (r, 1) else firstR a | none => firstR a
/-- the greatest number where epochs stand -/
def lastOf (x : Nat) (t : ByteArray) : Nat := max (max x (num (part t 0 8))) (num (part t 29 8))
def lastE (a b : ByteArray) : Nat := lastOf (lastOf 0 a) b
noncomputable def spare (a b : ByteArray) : Nat := if (newR a b).2 = 0 then 1 else 0
end Rt
end Go.Proofs.YtojbanknbgihgaaDoor
