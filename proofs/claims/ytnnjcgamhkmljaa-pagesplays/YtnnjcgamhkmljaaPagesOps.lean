/-
  Pages over a disk that is up: what Append and Read come to (plain mathematics), and their contracts beyond a mark.
-/
import Derived.Test.YtnnjcgamhkmljaaPagesParse
import Derived.Test.YtnnjcgamhkmljaaDiskLaw
namespace Go.Proofs.Ytnnjcgamhkmljaa
open Go.RowKit
namespace Pg
open B Dsk

/-- it is up, and stays so -/
structure Up (d : D) : Prop where
  dn : d.down = false
  h : d.halt < 0
theorem write_up {d : D} (hu : Up d) {i : Int} (h0 : 0 ≤ i) (h1 : i < (d.now.length : Int)) {s : ByteArray} (hs : s.size ≤ 256) :
    write d i s = ({ d with now := d.now.set i.toNat (fill s), loose := withR i d.loose, writes := d.writes + 1 }, 0) := by
  obtain ⟨h2, h3⟩ := hu
  unfold write turn
  rw [if_neg (by rw [h2]; decide), if_neg (by omega), if_neg (by omega), if_neg (show ¬ d.halt = 0 by omega), if_neg (show ¬ 0 < d.halt by omega)]
  rfl
theorem reach_up {d : D} (hu : Up d) {i : Int} (h0 : 0 ≤ i) (h1 : i < (d.now.length : Int)) : reach d i = 0 := by
  unfold reach
  rw [if_neg (by rw [hu.dn]; decide), if_neg (by omega)]
theorem readS_up {d : D} (hu : Up d) {i : Int} (h0 : 0 ≤ i) (h1 : i < (d.now.length : Int)) : readS d i = d.now.getD i.toNat ⟨#[]⟩ := if_pos (reach_up hu h0 h1)

theorem sec_in {d : D} (hz : Sz d) {half n : Int} (hh : half = 0 ∨ half = 1) (h0 : 0 ≤ n) (h1 : n < (room d : Int)) : 0 ≤ sec d half n ∧ sec d half n < (d.now.length : Int) := by
  have := hz.lo
  unfold sec
  unfold room at *
  rcases hh with rfl | rfl <;> omega
theorem room_len {d d' : D} (h : d'.now.length = d.now.length) : room d' = room d := by unfold room; rw [h]
theorem sec_len {d d' : D} (h : d'.now.length = d.now.length) (half n : Int) : sec d' half n = sec d half n := by unfold sec; rw [room_len h]
theorem sec_inj {d : D} {half half' n m : Int} (hh : half = 0 ∨ half = 1) (hh' : half' = 0 ∨ half' = 1) (h0 : 0 ≤ n) (h1 : n < (room d : Int)) (g0 : 0 ≤ m) (g1 : m < (room d : Int)) (h : (sec d half n).toNat = (sec d half' m).toNat) : half = half' ∧ n = m := by
  unfold sec at h
  generalize room d = r at *
  rcases hh with rfl | rfl <;> rcases hh' with rfl | rfl <;> simp at h <;> omega

theorem papp_bad {d : D} {half next k : Int} {p : ByteArray} (h : k < 0 ∨ 255 < k ∨ 240 < p.size) : papp d half next k p = (d, next, -1, 1) := if_pos h
theorem papp_full {d : D} {half next k : Int} {p : ByteArray} (h : ¬ (k < 0 ∨ 255 < k ∨ 240 < p.size)) (hf : (room d : Int) ≤ next) : papp d half next k p = (d, next, -1, 5) := by unfold papp; rw [if_neg h, if_pos hf]
theorem papp_up {d : D} (hu : Up d) (hz : Sz d) {half next k : Int} (hh : half = 0 ∨ half = 1) (h0 : 0 ≤ next) (h1 : next < (room d : Int)) {p : ByteArray} (k0 : 0 ≤ k) (k1 : k ≤ 255) (hp : p.size ≤ 240) :
    papp d half next k p = ({ d with now := d.now.set (sec d half next).toNat (ptxt k.toNat p), loose := withR (sec d half next) d.loose, writes := d.writes + 1 }, next + 1, next, 0) := by
  obtain ⟨s0, s1⟩ := sec_in hz hh h0 h1
  unfold papp
  rw [if_neg (by omega), if_neg (by omega), write_up hu s0 s1 (by rw [ptxt_size hp]; exact Nat.le_refl _), if_pos rfl, ptxt_fill hp]
theorem pread_arg {d : D} {half next n : Int} (h : n < 0 ∨ next ≤ n) : pread d half next n = (0, ⟨#[]⟩, 1) := if_pos h
theorem pread_up {d : D} (hu : Up d) (hz : Sz d) {half next n : Int} (hh : half = 0 ∨ half = 1) (h0 : 0 ≤ n) (h1 : n < next) (h2 : next ≤ (room d : Int)) :
    pread d half next n = match pparse (d.now.getD (sec d half n).toNat ⟨#[]⟩) with
      | some (k, p) => ((k : Int), p, 0)
      | none => (0, ⟨#[]⟩, 8) := by
  obtain ⟨s0, s1⟩ := sec_in hz hh h0 (by omega : n < (room d : Int))
  unfold pread
  rw [if_neg (by omega), if_neg (by rw [reach_up hu s0 s1]; decide), readS_up hu s0 s1]
  cases pparse (d.now.getD (sec d half n).toNat ⟨#[]⟩) <;> rfl
theorem papp_len (d : D) (half next k : Int) (p : ByteArray) : (papp d half next k p).1.now.length = d.now.length := by
  have hw : ∀ i s, (write d i s).1.now.length = d.now.length := by
    intro i s
    unfold write turn
    split
    · rfl
    · split
      · rfl
      · split
        · rfl
        · split <;> simp
  unfold papp
  split
  · rfl
  · split
    · rfl
    · split <;> exact hw _ _

/-- the pages of a half of a disk whose blocks, and their own, lie beyond a mark -/
structure PMy (B : Nat) (w : World) (b : Bl) (d : D) (g : Nat) (half next : Int) : Prop where
  my : My B w b d
  p : PAt w b g half next
  gB : B ≤ g
  gn : g ∉ b.l
  sz : Sz d
  hh : half = 0 ∨ half = 1
  n0 : 0 ≤ next
  n1 : next ≤ (room d : Int)
theorem papp_next {d : D} {half next k : Int} {p : ByteArray} (n0 : 0 ≤ next) (n1 : next ≤ (room d : Int)) : 0 ≤ (papp d half next k p).2.1 ∧ (papp d half next k p).2.1 ≤ (room d : Int) := by
  unfold papp
  split
  · exact ⟨n0, n1⟩
  · split
    · exact ⟨n0, n1⟩
    · split
      · exact ⟨by show 0 ≤ next + 1; omega, by show next + 1 ≤ _; omega⟩
      · exact ⟨n0, n1⟩
theorem papp_inv {d : D} (hi : Inv d) (hw : d.writes < 1000000) (half next k : Int) (p : ByteArray) : Inv (papp d half next k p).1 := by
  unfold papp
  split
  · exact hi
  · split
    · exact hi
    · split <;> exact write_inv hi hw _ _
theorem papp_my {B : Nat} (b : Bl) (d : D) (g : Nat) (half next k : Int) (p : ByteArray) (w : World) (h : PMy B w b d g half next) (hw : d.writes < 1000000) (hB : B ≤ w.heap.size) :
    Calls Try.prog 18 #[.pointer (some ⟨g, 0, none⟩), .int .i64 k, .string p] w fun e w' => e = .returned (.tuple #[.int .i64 (papp d half next k p).2.2.1, .int .i64 (papp d half next k p).2.2.2]) ∧ PMy B w' b (papp d half next k p).1 g half (papp d half next k p).2.1 ∧ Below B w w' :=
  (papp_any b d g half next k p w h.p h.gn h.my.at' h.my.inv hw h.sz h.hh h.n0 h.n1).mono fun _ _ ⟨he, hd, hp, ht⟩ => by
    have hl := papp_len d half next k p
    refine ⟨he, ⟨⟨hd, papp_inv h.my.inv hw _ _ _ _, h.my.g, h.my.bs, h.my.bm⟩, hp, h.gB, h.gn, ⟨by rw [hl]; exact h.sz.lo, by rw [hl]; exact h.sz.hi⟩, h.hh, (papp_next h.n0 h.n1).1, by rw [room_len hl]; exact (papp_next h.n0 h.n1).2⟩, ht.below (fun x hx => ?_) hB⟩
    have h1 := h.my.g; have h2 := h.my.bs; have h3 := h.my.bm; have h4 := h.gB
    simp at hx
    rcases hx with rfl | rfl | rfl | rfl <;> assumption
theorem PMy.below {B : Nat} {w w' : World} {b : Bl} {d : D} {g : Nat} {half next : Int} (h : PMy B w b d g half next) (hb : Below w.heap.size w w') : PMy B w' b d g half next :=
  ⟨h.my.below hb, h.p.below hb, h.gB, h.gn, h.sz, h.hh, h.n0, h.n1⟩
theorem pread_my {B : Nat} (b : Bl) (d : D) (g : Nat) (half next n : Int) (w : World) (h : PMy B w b d g half next) :
    Calls Try.prog 11 #[.pointer (some ⟨g, 0, none⟩), .int .i64 n] w fun e w' => e = .returned (pval (pread d half next n)) ∧ Below w.heap.size w w' :=
  pread_any b d g half next n w h.p h.my.at' h.my.inv h.sz h.hh h.n1
theorem free_my {B : Nat} (b : Bl) (d : D) (g : Nat) (half next : Int) (w : World) (h : PMy B w b d g half next) :
    Calls Try.prog 21 #[.pointer (some ⟨g, 0, none⟩)] w fun e w' => e = .returned (.int .i64 ((room d : Int) - next)) ∧ Below w.heap.size w w' :=
  (free_any b d g half next w h.p h.my.at' h.sz h.n0 h.n1).mono fun _ _ ⟨he, n, hw⟩ => ⟨he, by rw [hw]; exact below_drewN (Below.refl _ _) n⟩
theorem open_my {B : Nat} (b : Bl) (d : D) (half next : Int) (w : World) (h : My B w b d) (hz : Sz d) (hm : mayOpen d half next) (hB : B ≤ w.heap.size) :
    Calls Try.prog 8 #[.pointer (some ⟨b.g, 0, none⟩), .int .i64 half, .int .i64 next] w fun e w' => ∃ g, e = .returned (.tuple #[.pointer (some ⟨g, 0, none⟩), .int .i64 0]) ∧ PMy B w' b d g half next ∧ Below w.heap.size w w' :=
  (open_yes b d half next w h.at' hz hm).mono fun _ _ ⟨he, hw⟩ => by
    subst hw
    have hb := (Below.refl w.heap.size w).alloc (Nat.le_refl _) (.cells #[.pointer (some ⟨b.g, 0, none⟩), .int .i64 half, .int .i64 next] 81)
    obtain ⟨l1, l2, l3⟩ := h.at'.lts
    exact ⟨_, he, ⟨h.below hb, heap_last w _ _ rfl, hB, by simp; omega, hz, hm.1, hm.2.1, hm.2.2⟩, hb⟩
theorem cut_my {B : Nat} (b : Bl) (d : D) (g : Nat) (half next n : Int) (w : World) (h : PMy B w b d g half next) (h0 : 0 ≤ n) (h1 : n ≤ next) (hB : B ≤ w.heap.size) :
    Calls Try.prog 12 #[.pointer (some ⟨g, 0, none⟩), .int .i64 n] w fun e w' => e = .returned (.bool true) ∧ PMy B w' b d g half n ∧ Below B w w' :=
  (cut_yes b g half next n w h.p h0 h1).mono fun _ _ ⟨he, hw⟩ => by
    subst hw
    have hg := h.gn
    simp only [List.mem_cons, List.not_mem_nil, or_false, not_or] at hg
    have ht : Tch [g] w (w.setCell ⟨g, 2, none⟩ (.int .i64 n)) := (Tch.refl _ _).set (by simp) _
    exact ⟨he, ⟨⟨h.my.at'.tch ht (by simp only [List.mem_singleton]; exact ⟨fun e => hg.1 e.symm, fun e => hg.2.1 e.symm, fun e => hg.2.2 e.symm⟩), h.my.inv, h.my.g, h.my.bs, h.my.bm⟩, h.p.set n, h.gB, h.gn, h.sz, h.hh, h0, by have := h.n1; omega⟩, ht.below (fun x hx => by rw [List.mem_singleton] at hx; subst hx; exact h.gB) hB⟩
theorem next_my {B : Nat} (b : Bl) (d : D) (g : Nat) (half next : Int) (w : World) (h : PMy B w b d g half next) :
    Calls Try.prog 20 #[.pointer (some ⟨g, 0, none⟩)] w fun e w' => e = .returned (.int .i64 next) ∧ w = w' := next_any b g half next w h.p
theorem new_len (n : Nat) : (new n).now.length = n := by simp [new]
theorem new_up (n : Nat) : Up (new n) := ⟨rfl, by show (-1 : Int) < 0; omega⟩
theorem new_sz {n : Nat} (h2 : 2 ≤ n) (h : n ≤ 65536) : Sz (new n) := ⟨by rw [new_len]; exact h2, by rw [new_len]; exact h⟩
theorem room_new (n : Nat) : room (new n) = (n - 2) / 2 := by unfold room; rw [new_len]
end Pg
end Go.Proofs.Ytnnjcgamhkmljaa
