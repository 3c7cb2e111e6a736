/-
  What stands on the pages of a half: plain mathematics.
-/
import Derived.Test.YtnnjcgamhkmljaaPagesAw
namespace Go.Proofs.Ytnnjcgamhkmljaa
open Go.RowKit
namespace Pg
open B Dsk

abbrev Pag := Nat × ByteArray
/-- the pages of a half, from the first one on -/
structure Con (d : D) (half : Int) (l : List Pag) : Prop where
  ok : ∀ x ∈ l, x.1 < 256 ∧ x.2.size ≤ 240
  le : l.length ≤ room d
  get : ∀ i (h : i < l.length), d.now.getD (sec d half (i : Int)).toNat ⟨#[]⟩ = ptxt l[i].1 l[i].2
theorem Con.nil (d : D) (half : Int) : Con d half [] := ⟨(fun _ h => by cases h), Nat.zero_le _, (fun _ h => absurd h (by simp))⟩
theorem Con.same {d d' : D} {half : Int} {l : List Pag} (h : Con d half l) (hn : d'.now = d.now) : Con d' half l := by
  have hl : d'.now.length = d.now.length := by rw [hn]
  exact ⟨h.ok, by rw [room_len hl]; exact h.le, fun i hi => by rw [sec_len hl, hn]; exact h.get i hi⟩
theorem Con.take {d : D} {half : Int} {l : List Pag} (h : Con d half l) (n : Nat) : Con d half (l.take n) :=
  ⟨fun x hx => h.ok x (List.mem_of_mem_take hx), by rw [List.length_take]; have := h.le; omega, fun i hi => by
    rw [List.length_take] at hi
    rw [List.getElem_take]; exact h.get i (by omega)⟩
theorem getD_set_self {l : List ByteArray} {i : Nat} (h : i < l.length) (x z : ByteArray) : (l.set i x).getD i z = x := by
  rw [List.getD_eq_getElem?_getD, List.getElem?_set_self h]; rfl
theorem getD_set_ne {l : List ByteArray} {i j : Nat} (h : i ≠ j) (x z : ByteArray) : (l.set i x).getD j z = l.getD j z := by
  rw [List.getD_eq_getElem?_getD, List.getElem?_set_ne h, ← List.getD_eq_getElem?_getD]
/-- what an Append that goes well leaves -/
def put (d : D) (half next : Int) (k : Int) (p : ByteArray) : D := { d with now := d.now.set (sec d half next).toNat (ptxt k.toNat p), loose := withR (sec d half next) d.loose, writes := d.writes + 1 }
theorem papp_put {d : D} (hu : Up d) (hz : Sz d) {half next k : Int} (hh : half = 0 ∨ half = 1) (h0 : 0 ≤ next) (h1 : next < (room d : Int)) {p : ByteArray} (k0 : 0 ≤ k) (k1 : k ≤ 255) (hp : p.size ≤ 240) :
    papp d half next k p = (put d half next k p, next + 1, next, 0) := papp_up hu hz hh h0 h1 k0 k1 hp
theorem put_up {d : D} (hu : Up d) (half next k : Int) (p : ByteArray) : Up (put d half next k p) := ⟨hu.dn, hu.h⟩
theorem put_len (d : D) (half next k : Int) (p : ByteArray) : (put d half next k p).now.length = d.now.length := by simp [put]
theorem put_sz {d : D} (hz : Sz d) (half next k : Int) (p : ByteArray) : Sz (put d half next k p) := ⟨by rw [put_len]; exact hz.lo, by rw [put_len]; exact hz.hi⟩
theorem put_room (d : D) (half next k : Int) (p : ByteArray) : room (put d half next k p) = room d := room_len (put_len d half next k p)
theorem Con.put {d : D} (hz : Sz d) {half k : Int} {p : ByteArray} {l : List Pag} (hh : half = 0 ∨ half = 1) (h : Con d half l) (h1 : l.length < room d) (k0 : 0 ≤ k) (k1 : k ≤ 255) (hp : p.size ≤ 240) : Con (put d half (l.length : Int) k p) half (l ++ [(k.toNat, p)]) := by
  have hl := put_len d half (l.length : Int) k p
  obtain ⟨s0, s1⟩ := sec_in hz hh (show (0 : Int) ≤ (l.length : Int) by omega) (show (l.length : Int) < (room d : Int) by omega)
  refine ⟨fun x hx => ?_, ?_, fun i hi => ?_⟩
  · rcases List.mem_append.mp hx with hx | hx
    · exact h.ok x hx
    · rw [List.mem_singleton] at hx; subst hx; exact ⟨by show k.toNat < 256; omega, hp⟩
  · rw [room_len hl, List.length_append, List.length_singleton]; omega
  · rw [sec_len hl]
    rw [List.length_append, List.length_singleton] at hi
    show (d.now.set (sec d half (l.length : Int)).toNat (ptxt k.toNat p)).getD _ _ = _
    by_cases he : i = l.length
    · subst he
      rw [getD_set_self (by omega), List.getElem_append_right (Nat.le_refl _)]
      simp
    · have hil : i < l.length := by omega
      rw [getD_set_ne (fun e => he (by have := (sec_inj hh hh (by omega) (by omega) (by omega) (by omega) e).2; omega)), List.getElem_append_left hil]
      exact h.get i hil
theorem Con.beside {d : D} {half half' k next : Int} {p : ByteArray} {m : List Pag} (hh : half = 0 ∨ half = 1) (hh' : half' = 0 ∨ half' = 1) (hne : half ≠ half') (h : Con d half' m) (h0 : 0 ≤ next) (h1 : next < (room d : Int)) : Con (Pg.put d half next k p) half' m := by
  have hl := put_len d half next k p
  refine ⟨h.ok, by rw [room_len hl]; exact h.le, fun i hi => ?_⟩
  rw [sec_len hl]
  show (d.now.set (sec d half next).toNat (ptxt k.toNat p)).getD _ _ = _
  have := h.le
  rw [getD_set_ne (fun e => hne (sec_inj hh hh' h0 h1 (by omega) (by omega) e).1)]
  exact h.get i hi
theorem Con.read {d : D} (hu : Up d) (hz : Sz d) {half : Int} {l : List Pag} (hh : half = 0 ∨ half = 1) (h : Con d half l) {i : Nat} (hi : i < l.length) {next : Int} (hn : (i : Int) < next) (hr : next ≤ (room d : Int)) : pread d half next (i : Int) = ((l[i].1 : Int), l[i].2, 0) := by
  rw [pread_up hu hz hh (by omega) hn hr, h.get i hi]
  obtain ⟨h1, h2⟩ := h.ok l[i] (List.getElem_mem _)
  rw [pparse_txt h1 h2]
end Pg
end Go.Proofs.Ytnnjcgamhkmljaa
