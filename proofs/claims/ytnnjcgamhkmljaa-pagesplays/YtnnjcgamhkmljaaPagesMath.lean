/-
  A page's sector and what it says (layer 7): plain mathematics.
-/
import Derived.Test.YtnnjcgamhkmljaaDiskNew
import Derived.Test.YtnnjcgamhkmljaaCrcMath
namespace Go.Proofs.Ytnnjcgamhkmljaa
namespace Pg
open B Dsk

/-- what stands behind a page's sum -/
def restL (k : Nat) (p : ByteArray) : List UInt8 := UInt8.ofNat k :: UInt8.ofNat p.size :: (p.data.toList ++ List.replicate (250 - p.size) 0)
def ptxtL (k : Nat) (p : ByteArray) : List UInt8 := Crc.fourOf (Crc.on Crc.start (restL k p)) ++ restL k p
/-- a page's sector -/
def ptxt (k : Nat) (p : ByteArray) : ByteArray := ⟨(ptxtL k p).toArray⟩
theorem four_len (x : BitVec 32) : (Crc.fourOf x).length = 4 := rfl
theorem restL_len {k : Nat} {p : ByteArray} (h : p.size ≤ 240) : (restL k p).length = 252 := by
  unfold restL; rw [List.length_cons, List.length_cons, List.length_append, List.length_replicate, size_data]; omega
theorem ptxt_data (k : Nat) (p : ByteArray) : (ptxt k p).data.toList = ptxtL k p := by simp [ptxt]
theorem ptxt_size {k : Nat} {p : ByteArray} (h : p.size ≤ 240) : (ptxt k p).size = 256 := by
  have := size_data (ptxt k p)
  rw [ptxt_data] at this
  unfold ptxtL at this
  rw [List.length_append, four_len, restL_len h] at this
  omega
theorem ptxt_fill {k : Nat} {p : ByteArray} (h : p.size ≤ 240) : fill (ptxt k p) = ptxt k p := fill_full (by rw [ptxt_size h]; exact Nat.le_refl _)

/-- how many bytes of payload a sector tells of, and its kind -/
def zOf (s : ByteArray) : Nat := (s.data.toList.getD 5 0).toNat
def kOf (s : ByteArray) : Nat := (s.data.toList.getD 4 0).toNat
def payOf (s : ByteArray) : ByteArray := s.extract 6 (6 + zOf s)
theorem zOf_lt (s : ByteArray) : zOf s < 256 := (s.data.toList.getD 5 0).toNat_lt
theorem kOf_lt (s : ByteArray) : kOf s < 256 := (s.data.toList.getD 4 0).toNat_lt
def pparse (s : ByteArray) : Option (Nat × ByteArray) := if 240 < zOf s then none else if ptxt (kOf s) (payOf s) = s then some (kOf s, payOf s) else none
theorem payOf_size {s : ByteArray} (hs : s.size = 256) (h : zOf s ≤ 240) : (payOf s).size = zOf s := by unfold payOf; rw [ByteArray.size_extract]; omega

theorem getD_txt (k : Nat) (p : ByteArray) : (ptxtL k p).getD 5 0 = UInt8.ofNat p.size ∧ (ptxtL k p).getD 4 0 = UInt8.ofNat k := ⟨rfl, rfl⟩
theorem zOf_txt {k : Nat} {p : ByteArray} (h : p.size ≤ 240) : zOf (ptxt k p) = p.size := by
  unfold zOf; rw [ptxt_data, (getD_txt k p).1, UInt8.toNat_ofNat']; omega
theorem kOf_txt {k : Nat} (hk : k < 256) (p : ByteArray) : kOf (ptxt k p) = k := by
  unfold kOf; rw [ptxt_data, (getD_txt k p).2, UInt8.toNat_ofNat']; omega
theorem payOf_txt {k : Nat} {p : ByteArray} (h : p.size ≤ 240) : payOf (ptxt k p) = p := by
  apply ext_data
  unfold payOf
  rw [zOf_txt h, ByteArray.data_extract, Array.toList_extract, ptxt_data]
  simp only [List.extract]
  have e : (ptxtL k p).drop 6 = p.data.toList ++ List.replicate (250 - p.size) 0 := rfl
  rw [e, show 6 + p.size - 6 = p.data.toList.length by rw [size_data]; omega, List.take_left']
  rfl
theorem pparse_txt {k : Nat} {p : ByteArray} (hk : k < 256) (h : p.size ≤ 240) : pparse (ptxt k p) = some (k, p) := by
  unfold pparse
  rw [zOf_txt h, kOf_txt hk, payOf_txt h, if_neg (by omega), if_pos rfl]
theorem pparse_some {s : ByteArray} {k : Nat} {p : ByteArray} (hs : s.size = 256) (h : pparse s = some (k, p)) : k < 256 ∧ p.size ≤ 240 ∧ s = ptxt k p := by
  unfold pparse at h
  split at h
  · cases h
  · rename_i hz
    split at h
    · rename_i ht
      injection h with h; injection h with h1 h2
      subst h1; subst h2
      exact ⟨kOf_lt s, by rw [payOf_size hs (by omega)]; omega, ht.symm⟩
    · cases h
theorem four_inj {x y : BitVec 32} (h : Crc.fourOf x = Crc.fourOf y) : x = y := by
  have h1 := Crc.on_own x
  rw [h, ← Crc.on_own y] at h1
  exact Crc.on_inj _ _ _ h1
set_option maxRecDepth 10000 in
theorem byte_null : ∀ n, n < 256 → Crc.on 0#32 [UInt8.ofNat n] = 0#32 → n = 0 := by decide +kernel
theorem byte_inj {x : BitVec 32} {c d : UInt8} (h : Crc.byteOn x c = Crc.byteOn x d) : c = d := by
  have h1 := Crc.on_xor [c] [d] x x rfl
  have e : Crc.on x [c] = Crc.on x [d] := h
  rw [e, BitVec.xor_self, BitVec.xor_self] at h1
  have h2 : Crc.xorBytes [c] [d] = [UInt8.ofNat (c ^^^ d).toNat] := by
    show [c ^^^ d] = _
    rw [UInt8.ofNat_toNat]
  rw [h2] at h1
  have h3 := byte_null _ (c ^^^ d).toNat_lt h1
  have h4 : c ^^^ d = 0 := by apply UInt8.toNat_inj.mp; exact h3
  exact UInt8.xor_eq_zero_iff.mp h4
theorem on_zeros (n : Nat) : Crc.on 0#32 (List.replicate n 0) = 0#32 := by
  induction n with
  | zero => rfl
  | succ n ih =>
    rw [List.replicate_succ, Crc.on_cons]
    have e : Crc.byteOn 0#32 0 = 0#32 := by decide +kernel
    rw [e, ih]
theorem zero_list : zero.data.toList = List.replicate 256 0 := by unfold zero; rw [fill_data]; rfl
/-- a sector of noughts is no page -/
theorem zero_bad : pparse zero = none := by
  cases hq : pparse zero with
  | none => rfl
  | some q =>
    exfalso
    obtain ⟨k, p⟩ := q
    obtain ⟨hk, hp, e⟩ := pparse_some (fill_size (by decide)) hq
    have e1 : zero.data.toList = (ptxt k p).data.toList := congrArg (fun s : ByteArray => s.data.toList) e
    rw [zero_list, ptxt_data] at e1
    unfold ptxtL at e1
    rw [show List.replicate 256 (0 : UInt8) = Crc.fourOf 0#32 ++ List.replicate 252 0 from rfl] at e1
    obtain ⟨h1, h2⟩ := List.append_inj e1 rfl
    rw [← h2] at h1
    have h3 := four_inj h1
    rw [← on_zeros 252] at h3
    have h4 := Crc.on_inj _ _ _ h3
    exact absurd h4 (by decide)
/-- with another byte it is none -/
theorem flip_bad {k : Nat} {p : ByteArray} {j : Nat} {c : UInt8} (hp : p.size ≤ 240) (hj : j < 256) (hc : (ptxtL k p)[j]? ≠ some c) {s : ByteArray} (hs : s.data.toList = (ptxtL k p).set j c) : pparse s = none := by
  cases hq : pparse s with
  | none => rfl
  | some q =>
    exfalso
    obtain ⟨k', p'⟩ := q
    have hsz : s.size = 256 := by
      have := size_data s
      rw [hs, List.length_set, ← ptxt_data, size_data, ptxt_size hp] at this
      omega
    obtain ⟨_, hp', e⟩ := pparse_some hsz hq
    rw [e, ptxt_data] at hs
    unfold ptxtL at hs hc
    by_cases h4 : j < 4
    · -- a byte of the sum
      rw [List.set_append_left j c (by rw [four_len]; exact h4)] at hs
      obtain ⟨h1, h2⟩ := List.append_inj hs (by rw [List.length_set, four_len, four_len])
      rw [h2] at h1
      rw [List.getElem?_append_left (by rw [four_len]; exact h4), h1] at hc
      apply hc
      rw [List.getElem?_set_self (by rw [four_len]; exact h4)]
    · rw [List.set_append_right j c (by rw [four_len]; omega)] at hs
      rw [List.getElem?_append_right (by rw [four_len]; omega), four_len] at hc
      rw [four_len] at hs
      obtain ⟨h1, h2⟩ := List.append_inj hs rfl
      have h3 := four_inj h1
      rw [h2] at h3
      have hl : j - 4 < (restL k p).length := by rw [restL_len hp]; omega
      rw [List.getElem?_eq_getElem hl] at hc
      have e1 : restL k p = (restL k p).take (j - 4) ++ ((restL k p)[j - 4] :: (restL k p).drop (j - 4 + 1)) := by rw [List.getElem_cons_drop, List.take_append_drop]
      rw [List.set_eq_take_append_cons_drop, if_pos hl] at h3
      have h3' : Crc.on Crc.start ((restL k p).take (j - 4) ++ (c :: (restL k p).drop (j - 4 + 1))) = Crc.on Crc.start ((restL k p).take (j - 4) ++ ((restL k p)[j - 4] :: (restL k p).drop (j - 4 + 1))) := h3.trans (congrArg _ e1)
      rw [Crc.on_append, Crc.on_append, Crc.on_cons, Crc.on_cons] at h3'
      have h4 := Crc.on_inj _ _ _ h3'
      have h5 := byte_inj h4
      exact hc (by rw [h5])
end Pg
end Go.Proofs.Ytnnjcgamhkmljaa
