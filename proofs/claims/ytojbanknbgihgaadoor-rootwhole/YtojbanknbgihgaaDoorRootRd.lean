/-
  A round of Publish, broken off or not, and a crash (layer 6): plain mathematics.
-/
import Derived.Test.YtojbanknbgihgaaDoorRootWh
import Derived.Test.YtojbanknbgihgaaDoorRootPb0
namespace Go.Proofs.YtojbanknbgihgaaDoor
open Go.RowKit
namespace Rt
open B Dsk

theorem write_go {d : D} (h1 : d.down = false) {i : Int} (h2 : 0 ≤ i) (h3 : i < (d.now.length : Int)) {s : ByteArray} (h4 : s.size = 256) (h5 : d.halt ≠ 0) :
    write d i s = (⟨d.now.set i.toNat s, d.sure, withR i d.loose, d.writes + 1, if 0 < d.halt then d.halt - 1 else d.halt, false⟩, 0) := by
  have hf : fill s = s := fill_full (by omega)
  unfold write turn
  rw [if_neg (show ¬ d.down = true by rw [h1]; decide), if_neg (by omega), if_neg (by omega), if_neg (show ¬ d.halt = 0 from h5), hf]
  show ((⟨d.now.set i.toNat s, d.sure, withR i d.loose, d.writes + 1, if 0 < d.halt then d.halt - 1 else d.halt, d.down⟩ : D), (0 : Int)) = _
  rw [h1]
theorem write_no {d : D} (h1 : d.down = false) {i : Int} (h2 : 0 ≤ i) (h3 : i < (d.now.length : Int)) {s : ByteArray} (h4 : s.size = 256) (h5 : d.halt = 0) : write d i s = ({ d with down := true }, 6) := by
  unfold write turn
  rw [if_neg (show ¬ d.down = true by rw [h1]; decide), if_neg (by omega), if_neg (by omega), if_pos h5]
  rfl
theorem flush_go {d : D} (h1 : d.down = false) (h5 : d.halt ≠ 0) : flush d = (⟨d.now, d.now, [], d.writes + 1, if 0 < d.halt then d.halt - 1 else d.halt, false⟩, 0) := by
  unfold flush turn
  rw [if_neg (show ¬ d.down = true by rw [h1]; decide), if_neg (show ¬ d.halt = 0 from h5)]
  show ((⟨d.now, d.now, [], d.writes + 1, if 0 < d.halt then d.halt - 1 else d.halt, d.down⟩ : D), (0 : Int)) = _
  rw [h1]
theorem flush_no {d : D} (h1 : d.down = false) (h5 : d.halt = 0) : flush d = ({ d with down := true }, 6) := by
  unfold flush turn
  rw [if_neg (show ¬ d.down = true by rw [h1]; decide), if_pos h5]
  rfl
theorem ne60 : ¬ (6 : Int) = 0 := by decide
abbrev n0 (d : D) : ByteArray := d.now.getD 0 ⟨#[]⟩
abbrev n1 (d : D) : ByteArray := d.now.getD 1 ⟨#[]⟩
/-- the disk ahead of a round -/
structure Wh (e : Nat) (d : D) : Prop where
  inv : Inv d
  len : d.now.length = 3
  ht : d.halt = -1
  dn : d.down = false
  lo : d.loose = []
  s0 : Slot e (n0 d)
  s1 : Slot e (n1 d)
theorem wh_new : Wh 0 (new 3) := ⟨new_inv 3 (by omega) (by omega), rfl, rfl, rfl, rfl, slot_zero 0, slot_zero 0⟩

/-- sector 2 is marked -/
def marked (d : D) (s : ByteArray) : D := { d with now := d.now.set 2 s, loose := [2], writes := d.writes + 1 }
theorem write_mark {e : Nat} {d : D} (h : Wh e d) {s : ByteArray} (hs : s.size = 256) : write d 2 s = (marked d s, 0) := by
  rw [write_go h.dn (by omega) (by rw [h.len]; omega) hs (by rw [h.ht]; decide), h.lo]
  unfold marked
  obtain ⟨now, sure, lo, wr, ht, dn⟩ := d
  have h1 : ht = -1 := h.ht
  have h2 : dn = false := h.dn
  subst h1; subst h2
  rfl
theorem marked_len {e : Nat} {d : D} (h : Wh e d) (s : ByteArray) : (marked d s).now.length = 3 := by show (d.now.set 2 s).length = 3; rw [List.length_set, h.len]
theorem marked_0 (d : D) (s : ByteArray) (v : Int) : n0 (halt (marked d s) v) = n0 d := by
  show (d.now.set 2 s).getD 0 _ = _
  rw [List.getD_eq_getElem?_getD, List.getElem?_set_ne (by omega), ← List.getD_eq_getElem?_getD]
theorem marked_1 (d : D) (s : ByteArray) (v : Int) : n1 (halt (marked d s) v) = n1 d := by
  show (d.now.set 2 s).getD 1 _ = _
  rw [List.getD_eq_getElem?_getD, List.getElem?_set_ne (by omega), ← List.getD_eq_getElem?_getD]
theorem marked_inv {e : Nat} {d : D} (h : Wh e d) (hw : d.writes < 1000000) {s : ByteArray} (hs : s.size = 256) (v : Int) : Inv (halt (marked d s) v) := by
  have := write_inv h.inv hw 2 s
  rw [write_mark h hs] at this
  exact halt_inv this v

section
variable {e : Nat} {d : D} {s t : ByteArray} {dst : Nat} {v : Int}
theorem pub0 (h : Wh e d) (hv : v = 0) : pub (halt (marked d s) v) (dst : Int) t = ({ halt (marked d s) v with down := true }, 6) := by
  have hf := flush_no (d := halt (marked d s) v) h.dn hv
  unfold pub
  rw [hf]
  exact if_neg ne60
theorem flush_ok (h : Wh e d) (hv : v ≠ 0) : flush (halt (marked d s) v) = (⟨(marked d s).now, (marked d s).now, [], d.writes + 2, if 0 < v then v - 1 else v, false⟩, 0) := by
  rw [flush_go (d := halt (marked d s) v) h.dn hv]
  show ((⟨(marked d s).now, (marked d s).now, [], d.writes + 1 + 1, if 0 < v then v - 1 else v, false⟩ : D), (0 : Int)) = _
  rw [show d.writes + 1 + 1 = d.writes + 2 by omega]
theorem pub1 (h : Wh e d) (hd : dst < 2) (ht : t.size = 256) (hv : v = 1) : pub (halt (marked d s) v) (dst : Int) t = (⟨(marked d s).now, (marked d s).now, [], d.writes + 2, 0, true⟩, 6) := by
  subst hv
  have hl := marked_len h s
  have hf := flush_ok (s := s) (v := 1) h (by decide)
  have hw := write_no (d := ⟨(marked d s).now, (marked d s).now, [], d.writes + 2, 0, false⟩) (i := (dst : Int)) (s := t) rfl (by omega) (by show (dst : Int) < ((marked d s).now.length : Int); omega) ht rfl
  have hf' : flush (halt (marked d s) 1) = (⟨(marked d s).now, (marked d s).now, [], d.writes + 2, 0, false⟩, 0) := hf
  unfold pub
  rw [hf']
  show (if (0 : Int) = 0 then (if (write ⟨(marked d s).now, (marked d s).now, [], d.writes + 2, 0, false⟩ (dst : Int) t).2 = 0 then _ else _) else _ : D × Int) = _
  rw [if_pos rfl, hw]
  exact if_neg ne60
theorem write_ok (h : Wh e d) (hd : dst < 2) (ht : t.size = 256) (v' : Int) (hv : v' ≠ 0) : write ⟨(marked d s).now, (marked d s).now, [], d.writes + 2, v', false⟩ (dst : Int) t = (⟨(marked d s).now.set dst t, (marked d s).now, [(dst : Int)], d.writes + 3, if 0 < v' then v' - 1 else v', false⟩, 0) := by
  have hl := marked_len h s
  rw [write_go (d := ⟨(marked d s).now, (marked d s).now, [], d.writes + 2, v', false⟩) (i := (dst : Int)) (s := t) rfl (by omega) (by show (dst : Int) < ((marked d s).now.length : Int); omega) ht hv, Int.toNat_natCast]
  show ((⟨(marked d s).now.set dst t, (marked d s).now, [(dst : Int)], d.writes + 2 + 1, if 0 < v' then v' - 1 else v', false⟩ : D), (0 : Int)) = _
  rw [show d.writes + 2 + 1 = d.writes + 3 by omega]
theorem pub2 (h : Wh e d) (hd : dst < 2) (ht : t.size = 256) (hv : v = 2) : pub (halt (marked d s) v) (dst : Int) t = (⟨(marked d s).now.set dst t, (marked d s).now, [(dst : Int)], d.writes + 3, 0, true⟩, 6) := by
  subst hv
  have hf : flush (halt (marked d s) 2) = (⟨(marked d s).now, (marked d s).now, [], d.writes + 2, 1, false⟩, 0) := flush_ok (s := s) (v := 2) h (by decide)
  have hw : write ⟨(marked d s).now, (marked d s).now, [], d.writes + 2, 1, false⟩ (dst : Int) t = (⟨(marked d s).now.set dst t, (marked d s).now, [(dst : Int)], d.writes + 3, 0, false⟩, 0) := write_ok (s := s) h hd ht 1 (by decide)
  unfold pub
  rw [hf]
  show (if (0 : Int) = 0 then (if (write ⟨(marked d s).now, (marked d s).now, [], d.writes + 2, 1, false⟩ (dst : Int) t).2 = 0 then flush (write ⟨(marked d s).now, (marked d s).now, [], d.writes + 2, 1, false⟩ (dst : Int) t).1 else _) else _ : D × Int) = _
  rw [if_pos rfl, hw]
  exact (if_pos rfl).trans (flush_no rfl rfl)
theorem pub3 (h : Wh e d) (hd : dst < 2) (ht : t.size = 256) (hv : v < 0 ∨ 3 ≤ v) : ∃ v', pub (halt (marked d s) v) (dst : Int) t = (⟨(marked d s).now.set dst t, (marked d s).now.set dst t, [], d.writes + 4, v', false⟩, 0) := by
  have hf := flush_ok (s := s) (v := v) h (by omega)
  obtain ⟨v1, hv1⟩ : ∃ v1, (if 0 < v then v - 1 else v) = v1 := ⟨_, rfl⟩
  have h1 : v1 < 0 ∨ 2 ≤ v1 := by rw [← hv1]; split <;> omega
  rw [hv1] at hf
  have hw := write_ok (s := s) h hd ht v1 (by omega)
  obtain ⟨v2, hv2⟩ : ∃ v2, (if 0 < v1 then v1 - 1 else v1) = v2 := ⟨_, rfl⟩
  have h2 : v2 < 0 ∨ 1 ≤ v2 := by rw [← hv2]; split <;> omega
  rw [hv2] at hw
  have hg := flush_go (d := ⟨(marked d s).now.set dst t, (marked d s).now, [(dst : Int)], d.writes + 3, v2, false⟩) rfl (show v2 ≠ 0 by omega)
  unfold pub
  rw [hf]
  show ∃ v', (if (0 : Int) = 0 then (if (write ⟨(marked d s).now, (marked d s).now, [], d.writes + 2, v1, false⟩ (dst : Int) t).2 = 0 then flush (write ⟨(marked d s).now, (marked d s).now, [], d.writes + 2, v1, false⟩ (dst : Int) t).1 else _) else _ : D × Int) = _
  rw [if_pos rfl, hw]
  refine ⟨if 0 < v2 then v2 - 1 else v2, (if_pos rfl).trans (hg.trans ?_)⟩
  show ((⟨(marked d s).now.set dst t, (marked d s).now.set dst t, [], d.writes + 3 + 1, if 0 < v2 then v2 - 1 else v2, false⟩ : D), (0 : Int)) = _
  rw [show d.writes + 3 + 1 = d.writes + 4 by omega]
end
theorem getD_set {l : List ByteArray} {i j : Nat} (hi : i < l.length) (x z : ByteArray) : (l.set i x).getD j z = if i = j then x else l.getD j z := by
  rw [List.getD_eq_getElem?_getD, List.getElem?_set, List.getD_eq_getElem?_getD]
  split
  · subst_vars; first | rfl | (rw [if_pos hi]; rfl)
  · rfl
/-- the two slots behind a crash, if Publish was broken off -/
theorem round_fail {e : Nat} {d : D} (h : Wh e d) (he : e + 1 ≤ 15) (hw : d.writes < 900000) {s : ByteArray} (hs : s.size = 256) {v : Int} (hv : 0 ≤ v ∧ v ≤ 2) {x : R} (hm : may x) (hx : x.ep = lastE (n0 d) (n1 d) + 1) (ch : List Int) :
    (pub (halt (marked d s) v) (spare (n0 d) (n1 d) : Int) (txt x)).2 = 6 ∧ Wh (e + 1) (crash (pub (halt (marked d s) v) (spare (n0 d) (n1 d) : Int) (txt x)).1 ch) ∧
    (crash (pub (halt (marked d s) v) (spare (n0 d) (n1 d) : Int) (txt x)).1 ch).writes ≤ d.writes + 4 ∧
    (newR (n0 (crash (pub (halt (marked d s) v) (spare (n0 d) (n1 d) : Int) (txt x)).1 ch)) (n1 (crash (pub (halt (marked d s) v) (spare (n0 d) (n1 d) : Int) (txt x)).1 ch)) = newR (n0 d) (n1 d) ∨
      (newR (n0 (crash (pub (halt (marked d s) v) (spare (n0 d) (n1 d) : Int) (txt x)).1 ch)) (n1 (crash (pub (halt (marked d s) v) (spare (n0 d) (n1 d) : Int) (txt x)).1 ch))).1 = x ∧ 0 ≤ (newR (n0 (crash (pub (halt (marked d s) v) (spare (n0 d) (n1 d) : Int) (txt x)).1 ch)) (n1 (crash (pub (halt (marked d s) v) (spare (n0 d) (n1 d) : Int) (txt x)).1 ch))).2) := by
  have hsp : spare (n0 d) (n1 d) = 0 ∨ spare (n0 d) (n1 d) = 1 := by unfold spare; split <;> simp
  have hd2 : spare (n0 d) (n1 d) < 2 := by omega
  have hmi := marked_inv h (by omega) hs v
  have z0 := h.s0.1
  have z1 := h.s1.1
  -- what is known of the disk that is broken off
  have hgen : ∀ p : D, Inv p → p.now.length = 3 → p.writes ≤ d.writes + 4 → (∃ n, n ≤ 256 ∧ (spare (n0 d) (n1 d) = 0 ∧ n0 (crash p ch) = tear (txt x) (n0 d) n ∧ n1 (crash p ch) = n1 d ∨ spare (n0 d) (n1 d) = 1 ∧ n0 (crash p ch) = n0 d ∧ n1 (crash p ch) = tear (txt x) (n1 d) n)) →
      Wh (e + 1) (crash p ch) ∧ (crash p ch).writes ≤ d.writes + 4 ∧ (newR (n0 (crash p ch)) (n1 (crash p ch)) = newR (n0 d) (n1 d) ∨ (newR (n0 (crash p ch)) (n1 (crash p ch))).1 = x ∧ 0 ≤ (newR (n0 (crash p ch)) (n1 (crash p ch))).2) := by
    intro p hi hl hwr ⟨n, hn, hc⟩
    obtain ⟨k1, k2, k3⟩ := whole_slots hm h.s0 h.s1 he hx hn hc
    exact ⟨⟨crash_inv hi ch, by show (crashFrom _ _ _ _ _).length = 3; rw [crashFrom_len]; exact hl, rfl, rfl, rfl, k1, k2⟩, hwr, k3⟩
  -- both slots stay
  have hstay : ∀ p : D, Inv p → p.now = (marked d s).now → (p.sure = (marked d s).now ∨ p.loose = [2]) → ∃ n, n ≤ 256 ∧ (spare (n0 d) (n1 d) = 0 ∧ n0 (crash p ch) = tear (txt x) (n0 d) n ∧ n1 (crash p ch) = n1 d ∨ spare (n0 d) (n1 d) = 1 ∧ n0 (crash p ch) = n0 d ∧ n1 (crash p ch) = tear (txt x) (n1 d) n) := by
    intro p hi hn hsu
    have hl : p.now.length = 3 := by rw [hn]; exact marked_len h s
    have hj : ∀ j, j < 2 → (crash p ch).now.getD j ⟨#[]⟩ = d.now.getD j ⟨#[]⟩ := by
      intro j hj
      obtain ⟨n, hn2, ht⟩ := crash_at hi ch (j := j) (by omega)
      have e1 : p.now.getD j ⟨#[]⟩ = d.now.getD j ⟨#[]⟩ := by
        rw [hn]; show (d.now.set 2 s).getD j _ = _
        rw [getD_set (by rw [h.len]; omega), if_neg (by omega)]
      have e2 : p.sure.getD j ⟨#[]⟩ = p.now.getD j ⟨#[]⟩ := by
        rcases hsu with hsu | hsu
        · rw [hsu, hn]
        · exact hi.same j (by omega) (by rw [hsu]; simp; omega)
      rw [ht, e2, tear_same (size_at hi.full (by omega)) hn2, e1]
    refine ⟨0, by omega, ?_⟩
    have t0 : ∀ q : ByteArray, q.size = 256 → tear (txt x) q 0 = q := fun q hq => by rw [tear_0, extract_full hq]
    rcases hsp with h1 | h1
    · exact .inl ⟨h1, by rw [t0 _ z0]; exact hj 0 (by omega), hj 1 (by omega)⟩
    · exact .inr ⟨h1, hj 0 (by omega), by rw [t0 _ z1]; exact hj 1 (by omega)⟩
  have hin : Inv (pub (halt (marked d s) v) (spare (n0 d) (n1 d) : Int) (txt x)).1 := by
    unfold pub
    have i1 : Inv (flush (halt (marked d s) v)).1 := flush_inv hmi (by show d.writes + 1 < _; omega)
    have w1 := flush_w (halt (marked d s) v)
    have w1' : (flush (halt (marked d s) v)).1.writes < 1000000 := by
      have : (halt (marked d s) v).writes = d.writes + 1 := rfl
      omega
    have i2 := write_inv i1 w1' (spare (n0 d) (n1 d) : Int) (txt x)
    have w2 := write_w (flush (halt (marked d s) v)).1 (spare (n0 d) (n1 d) : Int) (txt x)
    split
    · split
      · exact flush_inv i2 (by have : (halt (marked d s) v).writes = d.writes + 1 := rfl; omega)
      · exact i2
    · exact i1
  rcases (show v = 0 ∨ v = 1 ∨ v = 2 by omega) with hv0 | hv0 | hv0
  · rw [pub0 h hv0] at hin ⊢
    refine ⟨rfl, hgen _ hin (marked_len h s) (by show d.writes + 1 ≤ _; omega) (hstay _ hin rfl (.inr rfl))⟩
  · rw [pub1 h hd2 (txt_size x) hv0] at hin ⊢
    refine ⟨rfl, hgen _ hin (marked_len h s) (by show d.writes + 2 ≤ _; omega) (hstay _ hin rfl (.inl rfl))⟩
  · rw [pub2 h hd2 (txt_size x) hv0] at hin ⊢
    have hl3 := marked_len h s
    refine ⟨rfl, hgen _ hin (by show ((marked d s).now.set _ _).length = 3; rw [List.length_set]; exact hl3) (by show d.writes + 3 ≤ _; omega) ?_⟩
    generalize hp : (⟨(marked d s).now.set (spare (n0 d) (n1 d)) (txt x), (marked d s).now, [((spare (n0 d) (n1 d) : Nat) : Int)], d.writes + 3, 0, true⟩ : D) = p at *
    have e1 : p.now = (marked d s).now.set (spare (n0 d) (n1 d)) (txt x) := by rw [← hp]
    have e2 : p.sure = (marked d s).now := by rw [← hp]
    have g0 : ∀ j, j < 2 → (marked d s).now.getD j ⟨#[]⟩ = d.now.getD j ⟨#[]⟩ := fun j hj => by
      show (d.now.set 2 s).getD j _ = _
      rw [getD_set (by rw [h.len]; omega), if_neg (by omega)]
    have hl : p.now.length = 3 := by rw [e1, List.length_set]; exact hl3
    have hin' : Inv p := hin
    obtain ⟨m0, hm0, c0⟩ := crash_at hin' ch (j := 0) (by omega)
    obtain ⟨m1, hm1, c1⟩ := crash_at hin' ch (j := 1) (by omega)
    rw [e1, e2, getD_set (by omega), g0 0 (by omega)] at c0
    rw [e1, e2, getD_set (by omega), g0 1 (by omega)] at c1
    rcases hsp with h1 | h1
    · rw [h1, if_pos rfl] at c0
      rw [h1, if_neg (by omega), tear_same z1 hm1] at c1
      exact ⟨m0, hm0, .inl ⟨h1, c0, c1⟩⟩
    · rw [h1, if_neg (by omega), tear_same z0 hm0] at c0
      rw [h1, if_pos rfl] at c1
      exact ⟨m1, hm1, .inr ⟨h1, c0, c1⟩⟩
/-- and if it was not -/
theorem round_ok {e : Nat} {d : D} (h : Wh e d) (he : e + 1 ≤ 15) (hw : d.writes < 900000) {s : ByteArray} (hs : s.size = 256) {v : Int} (hv : v < 0 ∨ 3 ≤ v) {x : R} (hm : may x) (hx : x.ep = lastE (n0 d) (n1 d) + 1) (ch : List Int) :
    (pub (halt (marked d s) v) (spare (n0 d) (n1 d) : Int) (txt x)).2 = 0 ∧ Wh (e + 1) (crash (pub (halt (marked d s) v) (spare (n0 d) (n1 d) : Int) (txt x)).1 ch) ∧
    (crash (pub (halt (marked d s) v) (spare (n0 d) (n1 d) : Int) (txt x)).1 ch).writes ≤ d.writes + 4 ∧
    (newR (n0 (crash (pub (halt (marked d s) v) (spare (n0 d) (n1 d) : Int) (txt x)).1 ch)) (n1 (crash (pub (halt (marked d s) v) (spare (n0 d) (n1 d) : Int) (txt x)).1 ch))).1 = x ∧ 0 ≤ (newR (n0 (crash (pub (halt (marked d s) v) (spare (n0 d) (n1 d) : Int) (txt x)).1 ch)) (n1 (crash (pub (halt (marked d s) v) (spare (n0 d) (n1 d) : Int) (txt x)).1 ch))).2 ∧
    (crash (pub (halt (marked d s) v) (spare (n0 d) (n1 d) : Int) (txt x)).1 ch).now.getD 2 ⟨#[]⟩ = s := by
  have hsp : spare (n0 d) (n1 d) = 0 ∨ spare (n0 d) (n1 d) = 1 := by unfold spare; split <;> simp
  have hd2 : spare (n0 d) (n1 d) < 2 := by omega
  have hmi := marked_inv h (by omega) hs v
  have z0 := h.s0.1
  have z1 := h.s1.1
  have hl3 := marked_len h s
  obtain ⟨v', hp⟩ := pub3 (s := s) h hd2 (txt_size x) hv
  have hin : Inv (pub (halt (marked d s) v) (spare (n0 d) (n1 d) : Int) (txt x)).1 := by
    unfold pub
    have i1 : Inv (flush (halt (marked d s) v)).1 := flush_inv hmi (by show d.writes + 1 < _; omega)
    have w1 := flush_w (halt (marked d s) v)
    have w1' : (flush (halt (marked d s) v)).1.writes < 1000000 := by
      have : (halt (marked d s) v).writes = d.writes + 1 := rfl
      omega
    have i2 := write_inv i1 w1' (spare (n0 d) (n1 d) : Int) (txt x)
    have w2 := write_w (flush (halt (marked d s) v)).1 (spare (n0 d) (n1 d) : Int) (txt x)
    split
    · split
      · exact flush_inv i2 (by have : (halt (marked d s) v).writes = d.writes + 1 := rfl; omega)
      · exact i2
    · exact i1
  rw [hp] at hin ⊢
  have g0 : ∀ j, j < 2 → (marked d s).now.getD j ⟨#[]⟩ = d.now.getD j ⟨#[]⟩ := fun j hj => by
    show (d.now.set 2 s).getD j _ = _
    rw [getD_set (by rw [h.len]; omega), if_neg (by omega)]
  have g2 : (marked d s).now.getD 2 ⟨#[]⟩ = s := by
    show (d.now.set 2 s).getD 2 _ = _
    rw [getD_set (by rw [h.len]; omega), if_pos rfl]
  have hnow : ∀ j, (crash (⟨(marked d s).now.set (spare (n0 d) (n1 d)) (txt x), (marked d s).now.set (spare (n0 d) (n1 d)) (txt x), [], d.writes + 4, v', false⟩ : D) ch).now.getD j ⟨#[]⟩ = if spare (n0 d) (n1 d) = j then txt x else (marked d s).now.getD j ⟨#[]⟩ := fun j => by
    show ((marked d s).now.set (spare (n0 d) (n1 d)) (txt x)).getD j _ = _
    rw [getD_set (by omega)]
  have hlen : (crash (⟨(marked d s).now.set (spare (n0 d) (n1 d)) (txt x), (marked d s).now.set (spare (n0 d) (n1 d)) (txt x), [], d.writes + 4, v', false⟩ : D) ch).now.length = 3 := by
    show ((marked d s).now.set _ _).length = 3; rw [List.length_set]; exact hl3
  have a0 := hnow 0
  have a1 := hnow 1
  have a2 := hnow 2
  rw [if_neg (by omega), g2] at a2
  rw [g0 0 (by omega)] at a0
  rw [g0 1 (by omega)] at a1
  have px : parse (txt x) = some x := parse_txt hm (by have := slot_last h.s0 h.s1 (by omega); omega) (by omega)
  have hl := slot_last h.s0 h.s1 (by omega)
  obtain ⟨sa, sb⟩ := slot_lastE h.s0 h.s1 (by omega)
  have sx : Slot (e + 1) (txt x) := slot_txt (by omega) (by omega)
  refine ⟨rfl, ?_, by show d.writes + 4 ≤ _; omega, ?_⟩
  · refine ⟨crash_inv hin ch, hlen, rfl, rfl, rfl, ?_, ?_⟩
    · show Slot (e + 1) ((crash _ ch).now.getD 0 _)
      rw [a0]; split
      · exact sx
      · exact h.s0.mono (by omega)
    · show Slot (e + 1) ((crash _ ch).now.getD 1 _)
      rw [a1]; split
      · exact sx
      · exact h.s1.mono (by omega)
  · refine ⟨?_, ?_, a2⟩ <;>
    · show _
      rcases hsp with h1 | h1
      · rw [h1, if_pos rfl] at a0
        rw [h1, if_neg (by omega)] at a1
        rw [h1] 
        first
          | (rw [show n0 (crash _ ch) = _ from a0, show n1 (crash _ ch) = _ from a1, newR_left px (fun q hq => by have := (parse_ep sb (by omega) hq).1; omega)]; done)
          | (rw [show n0 (crash _ ch) = _ from a0, show n1 (crash _ ch) = _ from a1, newR_left px (fun q hq => by have := (parse_ep sb (by omega) hq).1; omega)]; show (0 : Int) ≤ 0; omega)
      · rw [h1, if_neg (by omega)] at a0
        rw [h1, if_pos rfl] at a1
        rw [h1]
        first
          | (rw [show n0 (crash _ ch) = _ from a0, show n1 (crash _ ch) = _ from a1, newR_right px (fun q hq => by have := (parse_ep sa (by omega) hq).1; omega)]; done)
          | (rw [show n0 (crash _ ch) = _ from a0, show n1 (crash _ ch) = _ from a1, newR_right px (fun q hq => by have := (parse_ep sa (by omega) hq).1; omega)]; show (0 : Int) ≤ 1; omega)
end Rt
end Go.Proofs.YtojbanknbgihgaaDoor
