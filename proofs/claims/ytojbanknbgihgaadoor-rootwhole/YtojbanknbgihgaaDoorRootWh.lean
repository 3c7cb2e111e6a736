/-
  A slot that was written in part, and what a broken Publish leaves (layer 6): plain mathematics.
-/
import Derived.Test.YtojbanknbgihgaaDoorRootFresh
import Derived.Test.YtojbanknbgihgaaDoorKeepMath
namespace Go.Proofs.YtojbanknbgihgaaDoor
open Go.RowKit
namespace Rt
open B Dsk

def ep8 (a : Nat) : List UInt8 := [0, 0, 0, 0, 0, 0, 0, UInt8.ofNat a]
theorem ep8_eq {e : Nat} (h : e ≤ 15) : epB e = ep8 e := by
  have : ∀ e, e < 16 → epB e = ep8 e := by decide +kernel
  exact this e (by omega)
theorem num_ep8 {e : Nat} (h : e ≤ 15) : num (ep8 e) = e := by rw [← ep8_eq h]; exact num_ep (by omega)
theorem ep8_inj {a b : Nat} (ha : a ≤ 15) (hb : b ≤ 15) (h : ep8 a = ep8 b) : a = b := by rw [← num_ep8 ha, h, num_ep8 hb]

/-- a slot of 256 bytes, in which no greater number than e stands where epochs do -/
def Slot (e : Nat) (s : ByteArray) : Prop := s.size = 256 ∧ ∃ a b, a ≤ e ∧ b ≤ e ∧ part s 0 8 = ep8 a ∧ part s 29 8 = ep8 b
theorem Slot.mono {e e' : Nat} {s : ByteArray} (h : Slot e s) (he : e ≤ e') : Slot e' s := by
  obtain ⟨hs, a, b, h1, h2, h3⟩ := h
  exact ⟨hs, a, b, Nat.le_trans h1 he, Nat.le_trans h2 he, h3⟩
theorem slot_zero (e : Nat) : Slot e zero := ⟨fill_size (by decide), 0, 0, Nat.zero_le _, Nat.zero_le _, by rw [zero_part _ _ (by omega)]; rfl, by rw [zero_part _ _ (by omega)]; rfl⟩
theorem slot_txt {x : R} {e : Nat} (he : x.ep ≤ e) (h15 : x.ep ≤ 15) : Slot e (txt x) := by
  obtain ⟨p1, _, _, _, _, _, p7⟩ := part_txt x
  exact ⟨txt_size x, x.ep, x.ep, he, he, by rw [p1, ep8_eq h15], by rw [p7, ep8_eq h15]⟩
theorem slot_num {e : Nat} {s : ByteArray} (h : Slot e s) (he : e ≤ 15) : num (part s 0 8) ≤ e ∧ num (part s 29 8) ≤ e := by
  obtain ⟨_, a, b, h1, h2, h3, h4⟩ := h
  rw [h3, h4, num_ep8 (by omega), num_ep8 (by omega)]
  exact ⟨h1, h2⟩
theorem slot_last {e : Nat} {s t : ByteArray} (hs : Slot e s) (ht : Slot e t) (he : e ≤ 15) : lastE s t ≤ e := by
  have h1 := slot_num hs he
  have h2 := slot_num ht he
  unfold lastE lastOf
  omega
theorem slot_lastE {s t : ByteArray} {e : Nat} (hs : Slot e s) (ht : Slot e t) (he : e ≤ 15) : Slot (lastE s t) s ∧ Slot (lastE s t) t := by
  obtain ⟨z1, a, b, h1, h2, h3, h4⟩ := hs
  obtain ⟨z2, a', b', g1, g2, g3, g4⟩ := ht
  have k1 : a ≤ lastE s t := by unfold lastE lastOf; rw [h3, num_ep8 (by omega)]; omega
  have k2 : b ≤ lastE s t := by unfold lastE lastOf; rw [h4, num_ep8 (by omega)]; omega
  have k3 : a' ≤ lastE s t := by unfold lastE lastOf; rw [g3, num_ep8 (by omega)]; omega
  have k4 : b' ≤ lastE s t := by unfold lastE lastOf; rw [g4, num_ep8 (by omega)]; omega
  exact ⟨⟨z1, a, b, k1, k2, h3, h4⟩, ⟨z2, a', b', k3, k4, g3, g4⟩⟩
theorem parse_ep {e : Nat} {s : ByteArray} {r : R} (hs : Slot e s) (he : e ≤ 15) (h : parse s = some r) : r.ep ≤ e ∧ 0 < r.ep := by
  obtain ⟨h1, h2, _⟩ := parse_some h
  have h3 : r.ep = num (part s 0 8) := by rw [h1]; rfl
  exact ⟨by rw [h3]; exact (slot_num hs he).1, by omega⟩

theorem part_get (s : ByteArray) (a m j : Nat) : (part s a m)[j]? = if j < m then s.data.toList[a + j]? else none := by
  unfold part; rw [List.getElem?_take, List.getElem?_drop]
theorem tear_get {p q : ByteArray} (hp : p.size = 256) (hq : q.size = 256) {n : Nat} (hn : n ≤ 256) (i : Nat) : (tear p q n).data.toList[i]? = if i < n then p.data.toList[i]? else q.data.toList[i]? := by
  have hl : (p.data.toList.take n).length = n := by rw [List.length_take, size_data, hp]; omega
  rw [tear_list hq (n := n), List.getElem?_append, hl]
  split
  · rw [List.getElem?_take, if_pos (by assumption)]
  · rw [List.getElem?_drop, show n + (i - n) = i by omega]
theorem part_tear {p q : ByteArray} (hp : p.size = 256) (hq : q.size = 256) {n : Nat} (hn : n ≤ 256) (a m j : Nat) : (part (tear p q n) a m)[j]? = if a + j < n then (part p a m)[j]? else (part q a m)[j]? := by
  rw [part_get, part_get, part_get, tear_get hp hq hn]
  split <;> split <;> rfl
theorem part_tear8 {p q : ByteArray} (hp : p.size = 256) (hq : q.size = 256) {n : Nat} (hn : n ≤ 256) {a x y : Nat} (h1 : part p a 8 = ep8 x) (h2 : part q a 8 = ep8 y) : part (tear p q n) a 8 = ep8 (if a + 7 < n then x else y) := by
  apply List.ext_getElem?
  intro j
  rw [part_tear hp hq hn, h1, h2]
  match j with
  | 0 => split <;> rfl
  | 1 => split <;> rfl
  | 2 => split <;> rfl
  | 3 => split <;> rfl
  | 4 => split <;> rfl
  | 5 => split <;> rfl
  | 6 => split <;> rfl
  | 7 => split <;> rfl
  | j + 8 => split <;> rfl
theorem part_tear_new {p q : ByteArray} (hp : p.size = 256) (hq : q.size = 256) {n : Nat} (hn : n ≤ 256) {a m : Nat} (h : a + m ≤ n) : part (tear p q n) a m = part p a m := by
  apply List.ext_getElem?
  intro j
  rw [part_tear hp hq hn]
  split
  · rfl
  · rw [part_get, part_get, if_neg (by omega), if_neg (by omega)]

/-- a slot that is written in part is what it was, or has no root, or is the new one whole -/
theorem tear_cases {x : R} (hm : may x) {e : Nat} {old : ByteArray} (ho : Slot e old) (hx : x.ep = e + 1) (he : e + 1 ≤ 15) {n : Nat} (hn : n ≤ 256) :
    Slot (e + 1) (tear (txt x) old n) ∧ (tear (txt x) old n = old ∨ parse (tear (txt x) old n) = none ∨ tear (txt x) old n = txt x) := by
  obtain ⟨hs, a, b, ha, hb, h1, h2⟩ := ho
  obtain ⟨_, a', b', _, _, p1, p2⟩ := slot_txt (x := x) (e := e + 1) (by omega) (by omega)
  obtain ⟨q1, _, _, _, _, _, q7⟩ := part_txt x
  have e1 : part (txt x) 0 8 = ep8 (e + 1) := by rw [q1, hx, ep8_eq he]
  have e2 : part (txt x) 29 8 = ep8 (e + 1) := by rw [q7, hx, ep8_eq he]
  have t1 := part_tear8 (txt_size x) hs hn e1 h1
  have t2 := part_tear8 (txt_size x) hs hn e2 h2
  have hz := tear_size (txt_size x) hs hn
  refine ⟨⟨hz, _, _, ?_, ?_, t1, t2⟩, ?_⟩
  · split <;> omega
  · split <;> omega
  rcases Nat.lt_or_ge n 8 with h7 | h7
  · left
    apply ext_data
    apply List.ext_getElem?
    intro i
    rw [tear_get (txt_size x) hs hn]
    split
    · have g1 := part_get (txt x) 0 8 i
      have g2 := part_get old 0 8 i
      rw [if_pos (by omega), Nat.zero_add] at g1 g2
      rw [← g1, ← g2, e1, h1]
      match i, (by omega : i < 7) with
      | 0, _ => rfl
      | 1, _ => rfl
      | 2, _ => rfl
      | 3, _ => rfl
      | 4, _ => rfl
      | 5, _ => rfl
      | 6, _ => rfl
    · rfl
  · rcases Nat.lt_or_ge n 37 with h36 | h36
    · right; left
      cases hq : parse (tear (txt x) old n) with
      | none => rfl
      | some r =>
        exfalso
        obtain ⟨_, _, _, hr⟩ := parse_some hq
        obtain ⟨r1, _, _, _, _, _, r7⟩ := part_txt r
        rw [hr] at r1 r7
        rw [if_pos (by omega)] at t1
        rw [if_neg (by omega)] at t2
        have hbad := ep8_inj (a := e + 1) (b := b) (by omega) (by omega) (by rw [← t1, ← t2, r1, r7])
        omega
    · cases hq : parse (tear (txt x) old n) with
      | none => exact .inr (.inl rfl)
      | some r =>
        right; right
        obtain ⟨hr0, _, _, hr⟩ := parse_some hq
        have hrd : rd (tear (txt x) old n) = rd (txt x) := by
          have g8 := tear_get (txt_size x) hs hn 8
          rw [if_pos (by omega)] at g8
          unfold rd
          rw [part_tear_new (txt_size x) hs hn (by omega), part_tear_new (txt_size x) hs hn (by omega), part_tear_new (txt_size x) hs hn (by omega), part_tear_new (txt_size x) hs hn (by omega), part_tear_new (txt_size x) hs hn (by omega), List.getD_eq_getElem?_getD, List.getD_eq_getElem?_getD, g8]
        rw [hrd, rd_txt hm (by omega)] at hr0
        rw [hr0] at hr
        exact hr.symm
theorem tear_same {s : ByteArray} (hs : s.size = 256) {n : Nat} (hn : n ≤ 256) : tear s s n = s := by
  apply ext_data
  apply List.ext_getElem?
  intro i
  rw [tear_get hs hs hn]
  split <;> rfl

/-- the slots, and the root in use, behind a Publish that was broken off -/
theorem newR_at (a b : ByteArray) : (newR a b).2 = -1 ∧ (newR a b).1 = R0 ∧ parse a = none ∧ parse b = none ∨ (newR a b).2 = 0 ∧ parse a = some (newR a b).1 ∧ (∀ r, parse b = some r → r.ep ≤ (newR a b).1.ep) ∨ (newR a b).2 = 1 ∧ parse b = some (newR a b).1 ∧ (∀ r, parse a = some r → r.ep < (newR a b).1.ep) := by
  unfold newR
  cases hb : parse b with
  | none =>
    unfold firstR
    cases ha : parse a with
    | none => exact .inl ⟨rfl, rfl, rfl, rfl⟩
    | some r => exact .inr (.inl ⟨rfl, rfl, fun r h => by cases h⟩)
  | some r =>
    by_cases hlt : (firstR a).1.ep < r.ep
    · simp only [hlt, if_true]
      refine .inr (.inr ⟨trivial, trivial, fun q hq => ?_⟩)
      unfold firstR at hlt
      rw [hq] at hlt
      exact hlt
    · simp only [hlt, if_false]
      have h0 := (parse_some hb).2.1
      unfold firstR at hlt ⊢
      cases ha : parse a with
      | none =>
        rw [ha] at hlt
        exact absurd (show (R0).ep < r.ep by show 0 < r.ep; omega) hlt
      | some q =>
        rw [ha] at hlt
        refine .inr (.inl ⟨rfl, rfl, fun r' h => ?_⟩)
        injection h with h
        subst h
        show r.ep ≤ q.ep
        simp only at hlt
        omega
theorem newR_left {a b : ByteArray} {r : R} (ha : parse a = some r) (hb : ∀ q, parse b = some q → q.ep ≤ r.ep) : newR a b = (r, 0) := by
  unfold newR firstR
  rw [ha]
  cases hq : parse b with
  | none => rfl
  | some q => simp only; rw [if_neg (by have := hb q hq; omega)]
theorem newR_right {a b : ByteArray} {r : R} (hb : parse b = some r) (ha : ∀ q, parse a = some q → q.ep < r.ep) : newR a b = (r, 1) := by
  unfold newR firstR
  rw [hb]
  cases hq : parse a with
  | none => simp only; rw [if_pos (by have := (parse_some hb).2.1; show 0 < r.ep; omega)]
  | some q => simp only; rw [if_pos (ha q hq)]
theorem newR_none {a b : ByteArray} (ha : parse a = none) (hb : parse b = none) : newR a b = (R0, -1) := by
  unfold newR firstR
  rw [ha, hb]
/-- whole: what is found is what was found, or the new one -/
theorem whole_slots {x : R} (hm : may x) {a b : ByteArray} {e : Nat} (ha : Slot e a) (hb : Slot e b) (he : e + 1 ≤ 15) (hx : x.ep = lastE a b + 1) {n : Nat} (hn : n ≤ 256) {a' b' : ByteArray}
    (hs : spare a b = 0 ∧ a' = tear (txt x) a n ∧ b' = b ∨ spare a b = 1 ∧ a' = a ∧ b' = tear (txt x) b n) :
    Slot (e + 1) a' ∧ Slot (e + 1) b' ∧ (newR a' b' = newR a b ∨ (newR a' b').1 = x ∧ 0 ≤ (newR a' b').2) := by
  have hl := slot_last ha hb (by omega)
  obtain ⟨sa, sb⟩ := slot_lastE ha hb (by omega)
  have hl15 : lastE a b + 1 ≤ 15 := by omega
  have px : parse (txt x) = some x := parse_txt hm (by omega) (by omega)
  unfold spare at hs
  rcases hs with ⟨h1, rfl, rfl⟩ | ⟨h1, rfl, rfl⟩
  · have h1' : (newR a b').2 ≠ 0 := fun h => by rw [if_pos h] at h1; cases h1
    obtain ⟨t1, t2⟩ := tear_cases hm sa hx hl15 hn
    refine ⟨t1.mono (by omega), hb.mono (by omega), ?_⟩
    rcases t2 with t2 | t2 | t2
    · rw [t2]; exact .inl rfl
    · left
      rcases newR_at a b' with ⟨k1, k2, k3, k4⟩ | ⟨k1, _⟩ | ⟨k1, k2, k3⟩
      · rw [newR_none t2 k4, newR_none k3 k4]
      · exact absurd k1 h1'
      · rw [newR_right k2 (fun q hq => by rw [t2] at hq; cases hq), ← k1]
    · right
      rw [t2, newR_left px (fun q hq => by have := (parse_ep sb (by omega) hq).1; omega)]
      exact ⟨rfl, by show (0 : Int) ≤ 0; omega⟩
  · have h1' : (newR a' b).2 = 0 := by
      rcases Classical.em ((newR a' b).2 = 0) with h | h
      · exact h
      · rw [if_neg h] at h1; cases h1
    obtain ⟨t1, t2⟩ := tear_cases hm sb hx hl15 hn
    refine ⟨ha.mono (by omega), t1.mono (by omega), ?_⟩
    rcases t2 with t2 | t2 | t2
    · rw [t2]; exact .inl rfl
    · left
      rcases newR_at a' b with ⟨k1, _⟩ | ⟨k1, k2, k3⟩ | ⟨k1, _⟩
      · rw [h1'] at k1; cases k1
      · rw [newR_left k2 (fun q hq => by rw [t2] at hq; cases hq), ← k1]
      · rw [h1'] at k1; cases k1
    · right
      rw [t2, newR_right px (fun q hq => by have := (parse_ep sa (by omega) hq).1; omega)]
      exact ⟨rfl, by show (0 : Int) ≤ 1; omega⟩
end Rt
end Go.Proofs.YtojbanknbgihgaaDoor
