/-
  Nodes (layer 9): plain mathematics: the order of keys, which nodes may be, their bytes, there and back.
-/
import Derived.Test.YtnnjcgamhkmljaaBase
import Derived.Test.YtnnjcgamhkmljaaVarIn
import Derived.Sort.Walk0
namespace Go.Proofs.Ytnnjcgamhkmljaa
open Go.RowKit
namespace Nod
open B V

/-! ### the order of keys -/
def Lt (a b : ByteArray) : Prop := a.data.toList < b.data.toList
instance (a b : ByteArray) : Decidable (Lt a b) := inferInstanceAs (Decidable (a.data.toList < b.data.toList))
theorem less_eq (a b : ByteArray) : Op.bytesLess a.toList b.toList = decide (Lt a b) := by rw [Go.Proofs.bytesLess_eq, Lib.toList_data, Lib.toList_data]; rfl
theorem less_t {a b : ByteArray} (h : Lt a b) : Op.bytesLess a.toList b.toList = true := by rw [less_eq]; exact decide_eq_true h
theorem less_f {a b : ByteArray} (h : ¬ Lt a b) : Op.bytesLess a.toList b.toList = false := by rw [less_eq]; exact decide_eq_false h
theorem Lt.irrefl (a : ByteArray) : ¬ Lt a a := List.lt_irrefl _
theorem Lt.trans {a b c : ByteArray} (h : Lt a b) (k : Lt b c) : Lt a c := List.lt_trans h k
theorem Lt.tri (a b : ByteArray) : Lt a b ∨ a = b ∨ Lt b a := by
  by_cases h : Lt a b
  · exact .inl h
  · by_cases k : Lt b a
    · exact .inr (.inr k)
    · exact .inr (.inl (ext_data (List.le_antisymm (List.not_lt.mp k) (List.not_lt.mp h))))
theorem Lt.ne {a b : ByteArray} (h : Lt a b) : a ≠ b := fun e => Lt.irrefl b (e ▸ h)
theorem Lt.asymm {a b : ByteArray} (h : Lt a b) (k : Lt b a) : False := Lt.irrefl _ (h.trans k)
def Rise (l : List ByteArray) : Prop := l.Pairwise Lt
instance (l : List ByteArray) : Decidable (Rise l) := inferInstanceAs (Decidable (l.Pairwise Lt))
theorem Rise.lt {l : List ByteArray} (h : Rise l) {i j : Nat} (hij : i < j) (hj : j < l.length) : Lt (l[i]'(Nat.lt_trans hij hj)) l[j] := List.pairwise_iff_getElem.mp h i j (Nat.lt_trans hij hj) hj hij
theorem rise_adj {l : List ByteArray} (h : ∀ i (hi : i + 1 < l.length), Lt l[i] l[i + 1]) : Rise l := by
  refine List.pairwise_iff_getElem.mpr fun i j hi hj hij => ?_
  obtain ⟨d, rfl⟩ : ∃ d, j = i + 1 + d := ⟨j - (i + 1), by omega⟩
  induction d with
  | zero => exact h i hj
  | succ d ih => exact (ih (by omega) (by omega)).trans (h (i + 1 + d) hj)

/-! ### nodes -/
structure N where
  kind : Int
  keys : List ByteArray
  vals : List ByteArray
  kids : List Int
def N.zero : N := ⟨0, [], [], []⟩
def mayKey (s : ByteArray) : Bool := decide (0 < s.size ∧ s.size ≤ 16)
def mayVal (s : ByteArray) : Bool := decide (s.size ≤ 32)
def mayPage (x : Int) : Bool := decide (0 ≤ x ∧ x ≤ 2147483647)
def even (n : N) : Bool := decide (n.kind = 1 ∧ n.vals.length = n.keys.length ∧ n.kids.length = 0 ∨ n.kind = 2 ∧ n.kids.length = n.keys.length ∧ n.vals.length = 0 ∧ 0 < n.keys.length)
def check (n : N) : Bool := even n && decide (Rise n.keys) && n.keys.all mayKey && n.vals.all mayVal && n.kids.all mayPage
structure Ok (n : N) : Prop where
  ev : n.kind = 1 ∧ n.vals.length = n.keys.length ∧ n.kids.length = 0 ∨ n.kind = 2 ∧ n.kids.length = n.keys.length ∧ n.vals.length = 0 ∧ 0 < n.keys.length
  rise : Rise n.keys
  key : ∀ k ∈ n.keys, 0 < k.size ∧ k.size ≤ 16
  val : ∀ v ∈ n.vals, v.size ≤ 32
  kid : ∀ p ∈ n.kids, 0 ≤ p ∧ p ≤ 2147483647
theorem check_ok {n : N} : check n = true ↔ Ok n := by
  unfold check even mayKey mayVal mayPage
  simp only [Bool.and_eq_true, decide_eq_true_eq, List.all_eq_true]
  exact ⟨fun ⟨⟨⟨⟨a, b⟩, c⟩, d⟩, e⟩ => ⟨a, b, c, d, e⟩, fun h => ⟨⟨⟨⟨h.ev, h.rise⟩, h.key⟩, h.val⟩, h.kid⟩⟩

/-! ### bytes -/
def txt (s : ByteArray) : List UInt8 := Var.num s.size ++ s.data.toList
theorem textB_txt (s : ByteArray) : (textB s).data.toList = txt s := textB_data s
/-- one entry's bytes -/
def ent (n : N) (i : Nat) : List UInt8 := txt (n.keys.getD i ⟨#[]⟩) ++ if n.kind = 2 then Var.num (n.kids.getD i 0).toNat else txt (n.vals.getD i ⟨#[]⟩)
def ents (n : N) (k : Nat) : List UInt8 := (List.range k).flatMap (ent n)
theorem ents_zero (n : N) : ents n 0 = [] := rfl
theorem ents_succ (n : N) (k : Nat) : ents n (k + 1) = ents n k ++ ent n k := by simp [ents, List.range_succ]
def pack (n : N) : List UInt8 := Var.num n.keys.length ++ ents n n.keys.length
def packB (n : N) : ByteArray := ⟨(pack n).toArray⟩
def size (n : N) : Nat := (pack n).length
theorem packB_size (n : N) : (packB n).size = size n := mk_size _

/-! ### a number at the head, backwards -/
theorem hd_inv : ∀ (l : List UInt8) (i acc x n : Nat), Var.hd i acc l = (x, n, 0) → ∃ y t, l = Var.num y ++ t ∧ n = i + (Var.num y).length ∧ x = acc + y * 128 ^ i ∧ (0 < i → 0 < y)
  | [], i, acc, x, n, h => by simp [Var.hd] at h
  | b :: r, i, acc, x, n, h => by
    rw [Var.hd] at h
    have hb := b.toNat_lt
    by_cases h1 : (0 < i ∧ b.toNat = 0) ∨ (i = 9 ∧ 1 < b.toNat)
    · rw [if_pos h1] at h; simp at h
    · rw [if_neg h1] at h
      by_cases h2 : b.toNat < 128
      · rw [if_pos h2] at h
        simp only [Prod.mk.injEq] at h
        refine ⟨b.toNat, r, ?_, ?_, by omega, fun hi => by omega⟩
        · rw [Var.num_lt h2]; simp
        · rw [Var.num_lt h2]; simp; omega
      · rw [if_neg h2] at h
        obtain ⟨y, t, e1, e2, e3, e4⟩ := hd_inv r _ _ _ _ h
        have hy := e4 (by omega)
        refine ⟨b.toNat % 128 + 128 * y, t, ?_, ?_, ?_, fun _ => by omega⟩
        · rw [Var.num_ge (by omega), e1]
          have : UInt8.ofNat (128 + (b.toNat % 128 + 128 * y) % 128) = b := by
            apply UInt8.toNat_inj.1
            rw [UInt8.toNat_ofNat']
            omega
          rw [this, show (b.toNat % 128 + 128 * y) / 128 = y by omega]; rfl
        · rw [Var.num_ge (by omega), show (b.toNat % 128 + 128 * y) / 128 = y by omega, List.length_cons]; omega
        · rw [e3, Nat.add_mul, Nat.pow_succ]
          have : 128 * y * 128 ^ i = y * (128 ^ i * 128) := by rw [Nat.mul_comm 128 y, Nat.mul_assoc, Nat.mul_comm 128]
          omega
theorem hd_inv0 {l : List UInt8} {x n : Nat} (h : Var.hd 0 0 l = (x, n, 0)) : ∃ t, l = Var.num x ++ t ∧ n = (Var.num x).length := by
  obtain ⟨y, t, e1, e2, e3, _⟩ := hd_inv l 0 0 x n h
  have : x = y := by simpa using e3
  subst this
  exact ⟨t, e1, by omega⟩

/-! ### what In takes, there and back -/
theorem numS_back {s : ByteArray} {x m : Nat} {t : List UInt8} (hx : x < 18446744073709551616) (h : s.data.toList = Var.num x ++ t) (hm : x ≤ m) : ∃ R : ByteArray, numS s 0 m = (x, R, 0) ∧ R.data.toList = t := by
  have hr : Var.hd 0 0 s.data.toList = (x, (Var.num x).length, 0) := by rw [h]; exact Var.hd_back _ hx _
  refine ⟨s.extract (Var.num x).length s.size, by unfold numS; rw [hr, if_pos rfl, if_pos hm], ?_⟩
  rw [drop_data, h, List.drop_left]
theorem failS_err {s : ByteArray} {f : Nat} (hf : f ≠ 0) : failS s 0 f = (⟨#[]⟩, f) := by unfold failS; rw [if_neg (by omega)]
theorem hd_err : ∀ (l : List UInt8) (i acc : Nat), (Var.hd i acc l).2.2 = 0 ∨ (Var.hd i acc l).2.2 = 2 ∨ (Var.hd i acc l).2.2 = 3
  | [], i, acc => .inr (.inl rfl)
  | b :: r, i, acc => by
    rw [Var.hd]
    split
    · exact .inr (.inr rfl)
    · split
      · exact .inl rfl
      · exact hd_err r _ _
theorem numS_inv {s R : ByteArray} {x m : Nat} (h : numS s 0 m = (x, R, 0)) : s.data.toList = Var.num x ++ R.data.toList ∧ x ≤ m := by
  obtain ⟨y, n, f, hr⟩ : ∃ y n f, Var.hd 0 0 s.data.toList = (y, n, f) := ⟨_, _, _, rfl⟩
  unfold numS at h
  rw [hr] at h
  by_cases hf : f = 0
  · subst hf
    rw [if_pos rfl] at h
    by_cases hm : y ≤ m
    · simp only [if_pos hm, Prod.mk.injEq] at h
      obtain ⟨rfl, rfl, _⟩ := h
      obtain ⟨t, e1, e2⟩ := hd_inv0 hr
      rw [drop_data, e1, e2, List.drop_left]
      exact ⟨rfl, hm⟩
    · simp only [if_neg hm, failS_err (show 4 ≠ 0 by omega), Prod.mk.injEq] at h; omega
  · simp only [if_neg hf, failS_err hf, Prod.mk.injEq] at h; omega
theorem text_back {s A : ByteArray} {t : List UInt8} {m : Nat} (hA : A.size < 18446744073709551616) (h : s.data.toList = txt A ++ t) (hm : A.size ≤ m) : ∃ R : ByteArray, textS s 0 m = (A, R, 0) ∧ R.data.toList = t := by
  obtain ⟨R, h1, h2⟩ := numS_back (s := s) (x := A.size) (m := m) (t := A.data.toList ++ t) hA (by rw [h]; simp [txt]) hm
  unfold textS
  rw [h1]
  have hsz : R.size = A.size + t.length := by rw [← size_data, h2, List.length_append, size_data]
  refine ⟨R.extract A.size R.size, ?_, by rw [drop_data, h2, ← size_data, List.drop_left]⟩
  unfold rawS
  rw [if_neg (by simp only; omega)]
  refine Prod.ext (ext_data ?_) rfl
  show (R.extract 0 A.size).data.toList = _
  rw [take_data, h2, ← size_data, List.take_left]
theorem rawS_inv {s A R : ByteArray} {n e : Nat} (h : rawS s e n = (A, R, 0)) : e = 0 ∧ n ≤ s.size ∧ A = s.extract 0 n ∧ R = s.extract n s.size := by
  unfold rawS at h
  by_cases hs : s.size < n
  · rw [if_pos hs] at h
    unfold failS at h
    split at h
    · rename_i hc
      simp only [Prod.mk.injEq] at h
      omega
    · simp only [Prod.mk.injEq] at h; omega
  · rw [if_neg hs] at h
    simp only [Prod.mk.injEq] at h
    obtain ⟨rfl, rfl, he⟩ := h
    exact ⟨he, by omega, rfl, rfl⟩
theorem text_inv {s A R : ByteArray} {m : Nat} (h : textS s 0 m = (A, R, 0)) : s.data.toList = txt A ++ R.data.toList ∧ A.size ≤ m := by
  unfold textS at h
  obtain ⟨x, T, e, hn⟩ : ∃ x T e, numS s 0 m = (x, T, e) := ⟨_, _, _, rfl⟩
  rw [hn] at h
  obtain ⟨he, hx, rfl, rfl⟩ := rawS_inv h
  subst he
  have hx : x ≤ T.size := hx
  obtain ⟨h1, h2⟩ := numS_inv hn
  have hz : (T.extract 0 x).size = x := by rw [ByteArray.size_extract]; omega
  show _ = txt (T.extract 0 x) ++ (T.extract x T.size).data.toList ∧ (T.extract 0 x).size ≤ m
  refine ⟨?_, by omega⟩
  rw [h1, txt, hz, take_data, drop_data, List.append_assoc, List.take_append_drop]

/-! ### Parse -/
abbrev E := ByteArray × ByteArray × Int
def mk (k : Int) (l : List E) : N := ⟨k, l.map (·.1), if k = 1 then l.map (·.2.1) else [], if k = 1 then [] else l.map (·.2.2)⟩
def one (k : Int) (s : ByteArray) : E × ByteArray × Nat :=
  if k = 1 then (((textS s 0 16).1, (textS (textS s 0 16).2.1 (textS s 0 16).2.2 32).1, 0), (textS (textS s 0 16).2.1 (textS s 0 16).2.2 32).2)
  else (((textS s 0 16).1, ⟨#[]⟩, ((numS (textS s 0 16).2.1 (textS s 0 16).2.2 2147483647).1 : Int)), (numS (textS s 0 16).2.1 (textS s 0 16).2.2 2147483647).2)
def many (k : Int) : Nat → ByteArray → Nat → List E × ByteArray × Nat
  | 0, s, e => ([], s, e)
  | x + 1, s, e => if e = 0 then ((one k s).1 :: (many k x (one k s).2.1 (one k s).2.2).1, (many k x (one k s).2.1 (one k s).2.2).2) else ([], s, e)
theorem many_err (k : Int) (x : Nat) (s : ByteArray) {e : Nat} (he : e ≠ 0) : many k x s e = ([], s, e) := by cases x <;> simp [many, he]
def nparse (k : Int) (s : ByteArray) : N × Nat :=
  if k ≠ 1 ∧ k ≠ 2 then (.zero, 13)
  else if endS (many k (numS s 0 18446744073709551615).1 (numS s 0 18446744073709551615).2.1 (numS s 0 18446744073709551615).2.2).2.1 (many k (numS s 0 18446744073709551615).1 (numS s 0 18446744073709551615).2.1 (numS s 0 18446744073709551615).2.2).2.2 ≠ 0 then (.zero, endS (many k (numS s 0 18446744073709551615).1 (numS s 0 18446744073709551615).2.1 (numS s 0 18446744073709551615).2.2).2.1 (many k (numS s 0 18446744073709551615).1 (numS s 0 18446744073709551615).2.1 (numS s 0 18446744073709551615).2.2).2.2)
  else if check (mk k (many k (numS s 0 18446744073709551615).1 (numS s 0 18446744073709551615).2.1 (numS s 0 18446744073709551615).2.2).1) then (mk k (many k (numS s 0 18446744073709551615).1 (numS s 0 18446744073709551615).2.1 (numS s 0 18446744073709551615).2.2).1, 0) else (.zero, 1)
theorem nparse_at {k : Int} {s S R : ByteArray} {x e f : Nat} {l : List E} (hk : k = 1 ∨ k = 2) (h1 : numS s 0 18446744073709551615 = (x, S, e)) (h2 : many k x S e = (l, R, f)) :
    nparse k s = if endS R f ≠ 0 then (.zero, endS R f) else if check (mk k l) then (mk k l, 0) else (.zero, 1) := by
  unfold nparse
  rw [if_neg (by omega), h1]
  simp only [h2]
/-- an entry's bytes -/
def eb (k : Int) (e : E) : List UInt8 := txt e.1 ++ if k = 2 then Var.num e.2.2.toNat else txt e.2.1
theorem getD_map {α β : Type} (f : α → β) (l : List α) {i : Nat} (h : i < l.length) (z : β) : (l.map f).getD i z = f l[i] := by
  rw [List.getD_eq_getElem?_getD, List.getElem?_map, List.getElem?_eq_getElem h]; rfl
theorem ent_mk {k : Int} (hk : k = 1 ∨ k = 2) (l : List E) {i : Nat} (h : i < l.length) : ent (mk k l) i = eb k l[i] := by
  unfold ent eb mk
  rcases hk with rfl | rfl
  · simp only [if_neg (show ¬ (1 : Int) = 2 by omega), if_true]
    rw [getD_map _ _ h, getD_map _ _ h]
  · simp only [if_neg (show ¬ (2 : Int) = 1 by omega), if_true]
    rw [getD_map _ _ h, getD_map _ _ h]
theorem flatMap_idx {α : Type} : ∀ (l : List α) (f : Nat → List UInt8) (g : α → List UInt8), (∀ i (h : i < l.length), f i = g l[i]) → (List.range l.length).flatMap f = l.flatMap g
  | [], f, g, _ => rfl
  | x :: l, f, g, h => by
    rw [List.length_cons, List.range_succ_eq_map, List.flatMap_cons, List.flatMap_map, List.flatMap_cons]
    rw [flatMap_idx l (fun i => f (i + 1)) g (fun i hi => h (i + 1) (by rw [List.length_cons]; omega))]
    rw [h 0 (by simp)]; rfl
theorem pack_mk {k : Int} (hk : k = 1 ∨ k = 2) (l : List E) : pack (mk k l) = Var.num l.length ++ l.flatMap (eb k) := by
  unfold pack ents
  have : (mk k l).keys.length = l.length := by simp [mk]
  rw [this, flatMap_idx l _ _ (fun i h => ent_mk hk l h)]
/-- an entry that may be -/
structure EOk (k : Int) (e : E) : Prop where
  key : e.1.size ≤ 16
  val : e.2.1.size ≤ 32
  kid : 0 ≤ e.2.2 ∧ e.2.2 ≤ 2147483647
  zv : k ≠ 1 → e.2.1 = ⟨#[]⟩
  zk : k = 1 → e.2.2 = 0
theorem one_back {k : Int} (hk : k = 1 ∨ k = 2) {e : E} (he : EOk k e) {s : ByteArray} {t : List UInt8} (h : s.data.toList = eb k e ++ t) : ∃ R : ByteArray, one k s = (e, R, 0) ∧ R.data.toList = t := by
  obtain ⟨a, b, c⟩ := e
  obtain ⟨h1, h2, h3, h4, h5⟩ := he
  simp only at h1 h2 h3 h4 h5
  unfold eb at h
  simp only [List.append_assoc] at h
  obtain ⟨R, e1, e2⟩ := text_back (m := 16) (by omega) h h1
  rcases hk with rfl | rfl
  · rw [if_neg (by omega)] at e2
    obtain ⟨T, e3, e4⟩ := text_back (m := 32) (by omega) e2 h2
    refine ⟨T, ?_, e4⟩
    unfold one
    rw [if_pos rfl, e1]
    simp only [e3, h5]
  · rw [if_pos rfl] at e2
    obtain ⟨T, e3, e4⟩ := numS_back (m := 2147483647) (by omega) e2 (by omega)
    refine ⟨T, ?_, e4⟩
    unfold one
    rw [if_neg (by omega), e1]
    simp only [e3, h4 (by omega)]
    rw [Int.toNat_of_nonneg h3.1]
theorem many_back {k : Int} (hk : k = 1 ∨ k = 2) : ∀ (l : List E) (s : ByteArray) (t : List UInt8), (∀ e ∈ l, EOk k e) → s.data.toList = l.flatMap (eb k) ++ t → ∃ R : ByteArray, many k l.length s 0 = (l, R, 0) ∧ R.data.toList = t
  | [], s, t, _, h => ⟨s, rfl, h⟩
  | e :: l, s, t, he, h => by
    rw [List.flatMap_cons, List.append_assoc] at h
    obtain ⟨R, h1, h2⟩ := one_back hk (he e (by simp)) h
    obtain ⟨T, h3, h4⟩ := many_back hk l R t (fun x hx => he x (by simp [hx])) h2
    refine ⟨T, ?_, h4⟩
    rw [List.length_cons, many, if_pos rfl, h1]
    simp only [h3]
theorem failS_keep {s : ByteArray} {e f : Nat} (he : e ≠ 0) : failS s e f = (s, e) := by unfold failS; rw [if_pos (.inr he)]
theorem numS_keep {s : ByteArray} {e m : Nat} (he : e ≠ 0) : (numS s e m).2.2 = e := by
  unfold numS
  split
  · split
    · rfl
    · rw [failS_keep he]
  · rw [failS_keep he]
theorem rawS_keep {s : ByteArray} {e n : Nat} (he : e ≠ 0) : (rawS s e n).2.2 = e := by
  unfold rawS
  split
  · rw [failS_keep he]
  · rfl
theorem textS_keep {s : ByteArray} {e m : Nat} (he : e ≠ 0) : (textS s e m).2.2 = e := by
  have h := numS_keep (s := s) (m := m) he
  unfold textS
  rw [rawS_keep (by omega), h]
theorem one_inv {k : Int} (hk : k = 1 ∨ k = 2) {e : E} {s R : ByteArray} (h : one k s = (e, R, 0)) : s.data.toList = eb k e ++ R.data.toList ∧ EOk k e := by
  unfold one at h
  obtain ⟨a, T, f, ht⟩ : ∃ a T f, textS s 0 16 = (a, T, f) := ⟨_, _, _, rfl⟩
  rw [ht] at h
  simp only at h
  rcases hk with rfl | rfl
  · rw [if_pos rfl] at h
    obtain ⟨b, U, g, hu⟩ : ∃ b U g, textS T f 32 = (b, U, g) := ⟨_, _, _, rfl⟩
    rw [hu] at h
    simp only [Prod.mk.injEq] at h
    obtain ⟨rfl, rfl, rfl⟩ := h
    have hf : f = 0 := by
      rcases Nat.eq_zero_or_pos f with h0 | h0
      · exact h0
      · exfalso
        have := textS_keep (s := T) (m := 32) (e := f) (by omega)
        rw [hu] at this
        simp only at this; omega
    subst hf
    obtain ⟨h1, h2⟩ := text_inv ht
    obtain ⟨h3, h4⟩ := text_inv hu
    refine ⟨?_, h2, h4, ⟨by simp, by simp⟩, fun h => absurd rfl h, fun _ => rfl⟩
    rw [h1, h3]; simp [eb]
  · rw [if_neg (by omega)] at h
    obtain ⟨b, U, g, hu⟩ : ∃ b U g, numS T f 2147483647 = (b, U, g) := ⟨_, _, _, rfl⟩
    rw [hu] at h
    simp only [Prod.mk.injEq] at h
    obtain ⟨rfl, rfl, rfl⟩ := h
    have hf : f = 0 := by
      rcases Nat.eq_zero_or_pos f with h0 | h0
      · exact h0
      · exfalso
        have := numS_keep (s := T) (m := 2147483647) (e := f) (by omega)
        rw [hu] at this
        simp only at this; omega
    subst hf
    obtain ⟨h1, h2⟩ := text_inv ht
    obtain ⟨h3, h4⟩ := numS_inv hu
    refine ⟨?_, h2, by show (0 : Nat) ≤ 32; omega, ⟨by simp, by simp; omega⟩, fun _ => rfl, fun h => by omega⟩
    rw [h1, h3]; simp [eb]
theorem many_inv {k : Int} (hk : k = 1 ∨ k = 2) : ∀ (x : Nat) (s R : ByteArray) (f : Nat) (l : List E), many k x s f = (l, R, 0) → f = 0 ∧ s.data.toList = l.flatMap (eb k) ++ R.data.toList ∧ l.length = x ∧ ∀ e ∈ l, EOk k e
  | 0, s, R, f, l, h => by
    simp only [many, Prod.mk.injEq] at h
    obtain ⟨rfl, rfl, rfl⟩ := h
    exact ⟨rfl, rfl, rfl, fun e he => by cases he⟩
  | x + 1, s, R, f, l, h => by
    by_cases hf : f = 0
    · subst hf
      rw [many, if_pos rfl] at h
      obtain ⟨e, T, g, ho⟩ : ∃ e T g, one k s = (e, T, g) := ⟨_, _, _, rfl⟩
      rw [ho] at h
      simp only [Prod.mk.injEq] at h
      obtain ⟨rfl, h⟩ := h
      obtain ⟨l', R', z, hm⟩ : ∃ l' R' z, many k x T g = (l', R', z) := ⟨_, _, _, rfl⟩
      rw [hm] at h
      simp only [Prod.mk.injEq] at h
      obtain ⟨rfl, rfl⟩ := h
      obtain ⟨rfl, h2, h3, h4⟩ := many_inv hk x T _ g l' hm
      obtain ⟨h5, h6⟩ := one_inv hk ho
      rw [hm]
      refine ⟨rfl, by rw [h5, h2, List.flatMap_cons, List.append_assoc], by rw [List.length_cons, h3], fun y hy => ?_⟩
      rcases List.mem_cons.mp hy with rfl | hy
      · exact h6
      · exact h4 y hy
    · rw [many, if_neg hf] at h
      simp only [Prod.mk.injEq] at h
      omega
end Nod
end Go.Proofs.Ytnnjcgamhkmljaa
