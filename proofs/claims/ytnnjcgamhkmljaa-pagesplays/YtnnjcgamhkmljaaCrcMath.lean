/-
  Plain mathematics of the 32-bit sum of layer 2 (no program text is spoken of here): a step by one bit, over bytes, that it is one to one, and that a sum's own bytes bring it to nought.
-/
import Derived.Laws.BitsAllLaws
namespace Go.Proofs.Ytnnjcgamhkmljaa.Crc

def poly : BitVec 32 := 79764919#32
def step (x : BitVec 32) (b : Bool) : BitVec 32 := if (x.msb ^^ b) = true then (x <<< 1) ^^^ poly else x <<< 1
def bitsOf (c : UInt8) : List Bool := [c.toNat.testBit 7, c.toNat.testBit 6, c.toNat.testBit 5, c.toNat.testBit 4, c.toNat.testBit 3, c.toNat.testBit 2, c.toNat.testBit 1, c.toNat.testBit 0]
def run (x : BitVec 32) (bs : List Bool) : BitVec 32 := bs.foldl step x
def byteOn (x : BitVec 32) (c : UInt8) : BitVec 32 := run x (bitsOf c)
def on (x : BitVec 32) (l : List UInt8) : BitVec 32 := l.foldl byteOn x
def start : BitVec 32 := 4294967295#32

theorem on_append (x : BitVec 32) (l m : List UInt8) : on x (l ++ m) = on (on x l) m := by simp [on]
theorem on_nil (x : BitVec 32) : on x [] = x := rfl
theorem on_cons (x : BitVec 32) (c : UInt8) (l : List UInt8) : on x (c :: l) = on (byteOn x c) l := rfl

/-! ### the loops' forms -/
def runs : Nat → BitVec 32 → Nat → BitVec 32
  | 0, X, _ => X
  | n + 1, X, B => runs n (step X (decide (128 ≤ B))) (B * 2 % 256)
def krun (c : Nat) : Nat → BitVec 32 → BitVec 32
  | 0, X => X
  | n + 1, X => krun c n (step X (c / 2 ^ n % 2 == 1))

set_option maxRecDepth 10000 in
theorem tops : ∀ c, c < 256 → (decide (128 ≤ c) = c.testBit 7 ∧ decide (128 ≤ c * 2 % 256) = c.testBit 6 ∧ decide (128 ≤ c * 2 % 256 * 2 % 256) = c.testBit 5 ∧ decide (128 ≤ c * 2 % 256 * 2 % 256 * 2 % 256) = c.testBit 4
    ∧ decide (128 ≤ c * 2 % 256 * 2 % 256 * 2 % 256 * 2 % 256) = c.testBit 3 ∧ decide (128 ≤ c * 2 % 256 * 2 % 256 * 2 % 256 * 2 % 256 * 2 % 256) = c.testBit 2
    ∧ decide (128 ≤ c * 2 % 256 * 2 % 256 * 2 % 256 * 2 % 256 * 2 % 256 * 2 % 256) = c.testBit 1 ∧ decide (128 ≤ c * 2 % 256 * 2 % 256 * 2 % 256 * 2 % 256 * 2 % 256 * 2 % 256 * 2 % 256) = c.testBit 0) := by decide +kernel

theorem runs_eq (x : BitVec 32) (c : UInt8) : runs 8 x c.toNat = byteOn x c := by
  obtain ⟨h7, h6, h5, h4, h3, h2, h1, h0⟩ := tops c.toNat c.toNat_lt
  simp only [runs, byteOn, run, bitsOf, List.foldl, h7, h6, h5, h4, h3, h2, h1, h0]

theorem bit_eq (c n : Nat) : (c / 2 ^ n % 2 == 1) = c.testBit n := by
  rw [Nat.testBit_eq_decide_div_mod_eq]; rfl

theorem krun_eq (x : BitVec 32) (c : UInt8) : krun c.toNat 8 x = byteOn x c := by
  simp only [krun, byteOn, run, bitsOf, List.foldl, bit_eq]

theorem poly_nat : poly.toNat = 79764919 := rfl
theorem shl_nat (X : BitVec 32) : (X <<< 1).toNat = X.toNat * 2 % 4294967296 := by
  simp [BitVec.toNat_shiftLeft, Nat.shiftLeft_eq]

theorem xor_poly (X : BitVec 32) : bits .xor .u32 ((X.toNat : Int) * 2 % 4294967296) 79764919 = (((X <<< 1) ^^^ poly).toNat : Int) := by
  have h : ((X.toNat : Int) * 2 % 4294967296) = ((X.toNat * 2 % 4294967296 : Nat) : Int) := by omega
  rw [h, BitVec.toNat_xor, shl_nat, poly_nat]
  have := u32_xor_nat (X.toNat * 2 % 4294967296) 79764919 (by omega) (by omega)
  simpa using this

theorem out_eq (X : BitVec 32) (B : Nat) (hB : B < 256) : (bits .xor .u32 ((X.toNat : Int) / 2147483648) ((B : Int) / 128) == 1) = (X.msb ^^ decide (128 ≤ B)) := by
  have hX := X.isLt
  rw [BitVec.msb_eq_decide]
  by_cases h1 : 2147483648 ≤ X.toNat <;> by_cases h2 : 128 ≤ B
  · have e1 : (X.toNat : Int) / 2147483648 = 1 := by omega
    have e2 : (B : Int) / 128 = 1 := by omega
    rw [e1, e2]; simp [h1, h2]; decide
  · have e1 : (X.toNat : Int) / 2147483648 = 1 := by omega
    have e2 : (B : Int) / 128 = 0 := by omega
    rw [e1, e2]; simp [h1, h2]; decide
  · have e1 : (X.toNat : Int) / 2147483648 = 0 := by omega
    have e2 : (B : Int) / 128 = 1 := by omega
    rw [e1, e2]; simp [h1, h2]; decide
  · have e1 : (X.toNat : Int) / 2147483648 = 0 := by omega
    have e2 : (B : Int) / 128 = 0 := by omega
    rw [e1, e2]; simp [h1, h2]; decide

/-! ### the algebra -/
theorem shl_low (x : BitVec 32) : (x <<< 1).getLsbD 0 = false := by simp
theorem poly_low : poly.getLsbD 0 = true := by decide

theorem shl_inj (x y : BitVec 32) (h : x <<< 1 = y <<< 1) (hm : x.msb = y.msb) : x = y := by
  apply BitVec.eq_of_getLsbD_eq
  intro i hi
  by_cases h31 : i = 31
  · subst h31; simpa [BitVec.msb_eq_getLsbD_last] using hm
  · have := congrArg (fun z => z.getLsbD (i + 1)) h
    have e : x[i] = y[i] := by simpa [show i + 1 < 32 by omega] using this
    simpa [BitVec.getLsbD_eq_getElem hi] using e

theorem step_inj (x y : BitVec 32) (b : Bool) (h : step x b = step y b) : x = y := by
  unfold step at h
  by_cases hm : x.msb = y.msb
  · rw [hm] at h
    split at h
    · refine shl_inj x y ?_ hm
      have := congrArg (fun z => z ^^^ poly) h
      simpa [BitVec.xor_assoc] using this
    · exact shl_inj x y h hm
  · exfalso
    have hl := congrArg (fun z => z.getLsbD 0) h
    have px := shl_low x
    have py := shl_low y
    have pp := poly_low
    cases hx : x.msb <;> cases hy : y.msb <;> cases b <;> simp only [hx, hy, Bool.false_xor, Bool.true_xor, Bool.not_true, Bool.not_false, if_true, if_false, Bool.false_eq_true, BitVec.getLsbD_xor, px, py, pp] at hl hm <;> first | exact hm trivial | cases hl

theorem run_inj (bs : List Bool) : ∀ x y : BitVec 32, run x bs = run y bs → x = y := by
  induction bs with
  | nil => intro x y h; exact h
  | cons b bs ih => intro x y h; exact step_inj x y b (ih _ _ h)

theorem on_inj (l : List UInt8) : ∀ x y : BitVec 32, on x l = on y l → x = y := by
  induction l with
  | nil => intro x y h; exact h
  | cons c l ih => intro x y h; exact run_inj (bitsOf c) x y (ih _ _ h)

theorem step_xor (x y : BitVec 32) (b c : Bool) : step (x ^^^ y) (b ^^ c) = step x b ^^^ step y c := by
  unfold step
  rw [BitVec.msb_xor, BitVec.shiftLeft_xor_distrib]
  cases x.msb <;> cases y.msb <;> cases b <;> cases c <;> simp <;> first | ac_rfl | (rw [BitVec.xor_assoc, ← BitVec.xor_assoc poly, BitVec.xor_comm poly, BitVec.xor_assoc (y <<< 1), BitVec.xor_self, BitVec.xor_zero])

theorem run_xor : ∀ (bs cs : List Bool) (x y : BitVec 32), bs.length = cs.length → run (x ^^^ y) (List.zipWith xor bs cs) = run x bs ^^^ run y cs
  | [], [], _, _, _ => rfl
  | b :: bs, c :: cs, x, y, h => by
    show run (step (x ^^^ y) (b ^^ c)) (List.zipWith xor bs cs) = run (step x b) bs ^^^ run (step y c) cs
    rw [step_xor]
    exact run_xor bs cs _ _ (by simpa using h)

/-! ### a sum's own bytes -/
def fourOf (x : BitVec 32) : List UInt8 := [UInt8.ofNat (x.toNat / 16777216), UInt8.ofNat (x.toNat / 65536), UInt8.ofNat (x.toNat / 256), UInt8.ofNat x.toNat]

theorem bit_of (n k j : Nat) (hj : j < 8) : (UInt8.ofNat (n / 2 ^ k)).toNat.testBit j = n.testBit (k + j) := by
  rw [UInt8.toNat_ofNat', Nat.testBit_mod_two_pow, Nat.testBit_div_two_pow]
  simp [hj, Nat.add_comm]

theorem bitsOf_at (n k : Nat) : bitsOf (UInt8.ofNat (n / 2 ^ k)) = [n.testBit (k + 7), n.testBit (k + 6), n.testBit (k + 5), n.testBit (k + 4), n.testBit (k + 3), n.testBit (k + 2), n.testBit (k + 1), n.testBit k] := by
  simp only [bitsOf, bit_of n k _ (by decide : 7 < 8), bit_of n k _ (by decide : 6 < 8), bit_of n k _ (by decide : 5 < 8), bit_of n k _ (by decide : 4 < 8), bit_of n k _ (by decide : 3 < 8), bit_of n k _ (by decide : 2 < 8), bit_of n k _ (by decide : 1 < 8), bit_of n k _ (by decide : 0 < 8), Nat.add_zero]

theorem step_own (x : BitVec 32) (k : Nat) (hk : k < 32) : step (x <<< k) (x.toNat.testBit (31 - k)) = x <<< (k + 1) := by
  unfold step
  have hm : (x <<< k).msb = x.toNat.testBit (31 - k) := by
    rw [BitVec.msb_eq_getLsbD_last, BitVec.getLsbD_shiftLeft, ← BitVec.testBit_toNat]
    simp; omega
  rw [hm, Bool.xor_self, if_neg (by decide), ← BitVec.shiftLeft_add]

/-- a list of bits, read one behind the other -/
def bitsAll (l : List UInt8) : List Bool := l.flatMap bitsOf
theorem run_append (x : BitVec 32) (a b : List Bool) : run x (a ++ b) = run (run x a) b := by simp [run]
theorem on_eq (l : List UInt8) : ∀ x : BitVec 32, on x l = run x (bitsAll l) := by
  induction l with
  | nil => intro x; rfl
  | cons c l ih => intro x; rw [on_cons, ih]; simp only [bitsAll, List.flatMap_cons]; rw [run_append]; rfl

theorem bitsAll_four (x : BitVec 32) : bitsAll (fourOf x) = (List.range 32).map fun k => x.toNat.testBit (31 - k) := by
  have h3 := bitsOf_at x.toNat 24
  have h2 := bitsOf_at x.toNat 16
  have h1 := bitsOf_at x.toNat 8
  have h0 := bitsOf_at x.toNat 0
  simp only [Nat.reducePow, Nat.reduceAdd, Nat.div_one] at h3 h2 h1 h0
  simp only [bitsAll, fourOf, List.flatMap_cons, List.flatMap_nil, h3, h2, h1, h0]
  rfl

theorem run_own_upto (x : BitVec 32) : ∀ n, n ≤ 32 → run x ((List.range n).map fun k => x.toNat.testBit (31 - k)) = x <<< n
  | 0, _ => by simp [run]
  | n + 1, h => by
    rw [List.range_succ, List.map_append, run_append, run_own_upto x n (by omega)]
    exact step_own x n (by omega)

/-- WITH ITS OWN BYTES BEHIND IT THE SUM IS NOUGHT -/
theorem on_own (x : BitVec 32) : on x (fourOf x) = 0#32 := by
  rw [on_eq, bitsAll_four, run_own_upto x 32 (by omega)]
  simp

/-! ### a burst -/
def xorBytes : List UInt8 → List UInt8 → List UInt8 := List.zipWith fun a b => a ^^^ b

theorem bitsOf_xor (a b : UInt8) : bitsOf (a ^^^ b) = List.zipWith xor (bitsOf a) (bitsOf b) := by
  simp only [bitsOf, UInt8.toNat_xor, Nat.testBit_xor, List.zipWith]

theorem bitsAll_xor : ∀ (l m : List UInt8), l.length = m.length → bitsAll (xorBytes l m) = List.zipWith xor (bitsAll l) (bitsAll m)
  | [], [], _ => rfl
  | a :: l, b :: m, h => by
    show bitsOf (a ^^^ b) ++ bitsAll (xorBytes l m) = List.zipWith xor (bitsOf a ++ bitsAll l) (bitsOf b ++ bitsAll m)
    rw [bitsAll_xor l m (by simpa using h), bitsOf_xor, List.zipWith_append (by simp [bitsOf])]

theorem length_bitsAll : ∀ l : List UInt8, (bitsAll l).length = 8 * l.length
  | [] => rfl
  | c :: l => by
    have := length_bitsAll l
    simp only [bitsAll, List.flatMap_cons, List.length_append] at this ⊢
    simp only [bitsOf, List.length_cons, List.length_nil] at this ⊢
    omega

theorem on_xor (l m : List UInt8) (x y : BitVec 32) (h : l.length = m.length) : on (x ^^^ y) (xorBytes l m) = on x l ^^^ on y m := by
  rw [on_eq, on_eq, on_eq, bitsAll_xor l m h, run_xor _ _ _ _ (by rw [length_bitsAll, length_bitsAll, h])]

theorem on_zero_four (d : BitVec 32) : on 0#32 (fourOf d) = 0#32 → d = 0#32 := by
  intro h
  exact (on_inj (fourOf d) 0#32 d (h.trans (on_own d).symm)).symm

/-- A BURST IS TOLD: four bytes one behind the other, xored with d's. -/
theorem burst (x d : BitVec 32) (p q r : List UInt8) (hq : q.length = 4) : on x (p ++ (xorBytes q (fourOf d) ++ r)) = on x (p ++ (q ++ r)) ↔ d = 0#32 := by
  rw [on_append, on_append, on_append, on_append]
  constructor
  · intro h
    have h1 := on_inj r _ _ h
    have h2 := on_xor q (fourOf d) (on x p) 0#32 (by rw [hq]; rfl)
    rw [BitVec.xor_zero] at h2
    rw [h2] at h1
    have h3 := congrArg (fun z => on (on x p) q ^^^ z) h1
    simp only [← BitVec.xor_assoc, BitVec.xor_self, BitVec.zero_xor] at h3
    exact on_zero_four d h3
  · rintro rfl
    congr 1
    have h2 := on_xor q (fourOf 0#32) (on x p) 0#32 (by rw [hq]; rfl)
    rw [BitVec.xor_zero, on_own, BitVec.xor_zero] at h2
    exact h2

end Go.Proofs.Ytnnjcgamhkmljaa.Crc
