/-
  Setcode (layer 13): the program's Pairs.
-/
import Derived.Test.YtedhijehmkiieaaSetPr
import Derived.Shelf.Strings.BuilderK
namespace Go.Proofs.Ytedhijehmkiieaa
open Go.RowKit
namespace Sc
open B

theorem wstrk (B gb : Nat) (l : List UInt8) (s : ByteArray) (w : World) (h : Bu.Bld B gb l w) (hl : l.length + s.size ≤ 1000000) (hB : B ≤ w.heap.size) :
    Calls Try.prog 89 #[.pointer (some ⟨gb, 0, none⟩), .string s] w fun e w' => e = .returned (.tuple #[.int .i64 s.size, .nilIface]) ∧ Bu.Bld B gb (l ++ s.data.toList) w' ∧ Below B w w' ∧ Lib.OthersKept 5 (some gb) w w' := by
  have hc := Any.Builder_WriteString_k (P := Try.prog) (ρ := Try.lays105_ren) { Try.lays105 with } Try.Builder_Extra_105 B gb (Lib.byteCells l) s w h (by rw [Lib.byteCells_length]; omega) hB
  refine hc.mono fun e w' ⟨h1, h2, h3, h4⟩ => ⟨h1, .inr ?_, h3, h4⟩
  have e2 : Lib.byteCells l ++ Lib.strCells s = Lib.byteCells (l ++ s.data.toList) := by simp [Lib.byteCells, Lib.strCells]
  rw [e2] at h2
  exact h2
theorem kept_below {e : TypeId} {b : Option Nat} {w w' : World} (h : Below w.heap.size w w') : Lib.OthersKept e b w w' := fun _ _ hk _ _ => (h.block _ (blk_lt hk)).trans hk

set_option maxHeartbeats 1000000 in
theorem putk_any (B gb : Nat) (l : List UInt8) (x : Nat) (w : World) (h : Bu.Bld B gb l w) (hl : l.length ≤ 900000) (hx : x ≤ 4294967296) (hB : B ≤ w.heap.size) :
    Calls Try.prog 54 #[.pointer (some ⟨gb, 0, none⟩), .int .i64 (x : Int)] w fun e w' => e = .returned (.tuple #[]) ∧ Bu.Bld B gb (l ++ Var.num x) w' ∧ Below B w w' ∧ Lib.OthersKept 5 (some gb) w w' := by
  have hn := Var.num_ten x (by omega)
  have CN := Lib.hid (V.num_any x w (by omega))
  have HB := Lib.hid h
  have CW := Lib.hid (fun W (q : Bu.Bld B gb l W) hB => wstrk B gb l ⟨(Var.num x).toArray⟩ W q (by rw [mk_size]; omega) hB)
  clear h hn
  go_enter Try.func54, Try.ntmps54
  go_wp2_with (first
    | (go_at_call 90; ((with_reducible refine CN.out.mono ?_); rintro e w1 ⟨rfl, hb1⟩; have B1 := Lib.hid (hb1.mono hB); have K1 : Hid (Lib.OthersKept 5 (some gb) w w1) := kept_below hb1; have C2 := Lib.hid (CW.out w1 (Bu.bld_keep HB.out hb1) (Nat.le_trans hB hb1.size)); clear hb1))
    | (go_at_call 89; ((with_reducible refine C2.out.mono ?_); rintro e w2 ⟨rfl, h2, hb2, hk2⟩; have H2 := Lib.hid h2; have B2 := Lib.hid hb2; have K2 := Lib.hid hk2; clear h2 hb2 hk2)))
  go_end0
  exact ⟨rfl, H2.out, B1.out.trans B2.out, K1.out.trans K2.out⟩
theorem putk_int (B gb : Nat) (l : List UInt8) (x : Int) (w : World) (h : Bu.Bld B gb l w) (hl : l.length ≤ 900000) (h0 : 0 ≤ x) (hx : x ≤ 4294967296) (hB : B ≤ w.heap.size) :
    Calls Try.prog 54 #[.pointer (some ⟨gb, 0, none⟩), .int .i64 x] w fun e w' => e = .returned (.tuple #[]) ∧ Bu.Bld B gb (l ++ Var.num x.toNat) w' ∧ Below B w w' ∧ Lib.OthersKept 5 (some gb) w w' := by
  obtain ⟨n, rfl⟩ := Int.eq_ofNat_of_zero_le h0
  rw [Int.toNat_natCast]
  exact putk_any B gb l n w h hl (by omega) hB

/-- are pairs such as may be? -/
def okP (l : List P2) : Bool := prise l && !(l.any pbad)
theorem okP_may {l : List P2} (h : okP l = true) : ∀ p ∈ l, pmay p := by
  intro p hp
  unfold okP at h
  rw [Bool.and_eq_true, Bool.not_eq_true', List.any_eq_false] at h
  have := h.2 p hp
  simp only [pbad, bad, Bool.not_eq_true, Bool.or_eq_false_iff, decide_eq_false_iff_not] at this
  unfold pmay; omega
theorem may_okP {l : List P2} (h : ∀ p ∈ l, pmay p) (hr : prise l = true) : okP l = true := by
  unfold okP
  rw [hr, Bool.true_and, Bool.not_eq_true', List.any_eq_false]
  intro p hp
  have := h p hp
  unfold pmay at this
  simp only [pbad, bad, Bool.not_eq_true, Bool.or_eq_false_iff, decide_eq_false_iff_not]
  omega
theorem encP_drop (l : List P2) (k : Nat) (h : k < l.length) : encP (l.drop k) = Var.num l[k].1.toNat ++ (Var.num l[k].2.toNat ++ encP (l.drop (k + 1))) := by
  rw [List.drop_eq_getElem_cons h]; rfl
theorem encP_len : ∀ (l : List P2), (∀ p ∈ l, pmay p) → (encP l).length ≤ 20 * l.length
  | [], _ => by simp [encP]
  | p :: r, h => by
    have h1 := encP_len r (fun q hq => h q (by simp [hq]))
    obtain ⟨a, b, c, d⟩ := h p (by simp)
    have h2 := Var.num_ten p.1.toNat (by omega)
    have h3 := Var.num_ten p.2.toNat (by omega)
    show (Var.num p.1.toNat ++ (Var.num p.2.toNat ++ encP r)).length ≤ _
    rw [List.length_append, List.length_append, List.length_cons]; omega

theorem not_bytes {c c2 : Array Value} {fz fz2 : Nat × Nat} : Obj.cells c 116 fz ≠ .cells c2 5 fz2 := by
  intro h
  injection h with _ h2 _
  exact absurd h2 (by decide)

set_option maxRecDepth 100000 in
set_option maxHeartbeats 4000000 in
theorem pairs_any (l : List P2) (A : Option Addr) (c : Nat) (w : World) (hl : l.length ≤ 1000) (hx : PrR w A l) :
    Calls Try.prog 33 #[.slice A l.length c] w fun e w' => e = .returned (.tuple #[.string (if okP l = true then ⟨(encPs l).toArray⟩ else ⟨#[]⟩), .int .i64 (if okP l = true then 0 else 1)]) ∧ Below w.heap.size w w' := by
  have ci := (prise_any l A c w (by omega) hx).mono (fun e w' (h : _ ∧ ∃ n, w' = w.drewN n) => (show e = .returned (.bool (prise l)) ∧ Below w.heap.size w w' from ⟨h.1, by obtain ⟨n, rfl⟩ := h.2; exact below_drewN (Below.refl _ _) n⟩))
  have CC := Lib.hid (fun W (q : Below w.heap.size w W) => pcontains_any l A c W (by omega) (hx.below q))
  by_cases hr : prise l = true
  · rw [hr] at ci
    have CI := Lib.hid ci
    clear ci
    by_cases hb : l.any pbad = true
    · have ho : okP l = false := by unfold okP; rw [hr, hb]; rfl
      rw [ho]
      rw [hb] at CC
      clear hx hr hb ho
      go_enter Try.func33, Try.ntmps33
      go_wp2_with (first
        | (go_at_call 62; ((with_reducible refine CI.out.mono ?_); rintro e w1 ⟨rfl, hb1⟩))
        | (go_at_call 63; ((with_reducible refine (CC.out _ hb1).mono ?_); rintro e w2 ⟨rfl, hb2⟩)))
      go_ret2
      exact ⟨rfl, hb1.trans (hb2.mono hb1.size)⟩
    · have hb' : l.any pbad = false := by simpa using hb
      have ho : okP l = true := by unfold okP; rw [hr, hb']; rfl
      have OK := Lib.hid (okP_may ho)
      rw [ho, if_pos rfl, if_pos rfl]
      rw [hb'] at CC
      have HX := Lib.hid hx
      clear hx hr hb hb' ho
      go_enter Try.func33, Try.ntmps33
      go_wp2_with (first
        | (go_at_call 62; ((with_reducible refine CI.out.mono ?_); rintro e w0 ⟨rfl, hb0⟩; have B0 := Lib.hid hb0; clear hb0))
        | (go_at_call 63; ((with_reducible refine (CC.out _ B0.out).mono ?_); rintro e w1 ⟨rfl, hb1⟩; have B1 := Lib.hid (B0.out.trans (hb1.mono B0.out.size)); have s1 := B1.out.size; clear hb1; have hs1 : w1.heap.size ≤ (w1.alloc (.cells #[.pointer none, .slice none 0 0] 107)).heap.size := by simp))
        | (go_at_call 54; ((with_reducible refine (put_any w1.heap.size w1.heap.size [] l.length _ (Bu.bld_new w1 _ (Nat.le_refl _)) (by simp) (by omega) hs1).mono ?_); rintro e w3 ⟨rfl, h3, hb3⟩; have H3 := Lib.hid h3; have B3 := Lib.hid ((B1.out.alloc s1 _).trans (hb3.mono s1)); have s3 := Nat.le_trans hs1 hb3.size; clear h3 hb3 hs1)))
      clear CI CC
      go_loopw [19] (fun t19 wr => ∃ (k : Nat) (L : List UInt8), k ≤ l.length ∧ t19 = .int .i64 (k : Int) ∧ L.length ≤ 20 * (k + 1) ∧ L ++ encP (l.drop k) = encPs l ∧ Bu.Bld w1.heap.size w1.heap.size L wr ∧ Below w.heap.size w wr ∧ w1.heap.size ≤ wr.heap.size) (fun t19 _ => l.length - (intOf t19).toNat)
      case atStart => exact ⟨0, _, Nat.zero_le _, rfl, by have := Var.num_ten l.length (by omega); show (Var.num l.length).length ≤ 20; omega, rfl, H3.out, B3.out, s3⟩
      case round =>
        obtain ⟨k, L, hk, rfl, hL, he, hbl, hbel, hsr⟩ := hrel
        clear H3 B3 s3
        have HE := Lib.hid he
        have BL := Lib.hid hbl
        have BW := Lib.hid hbel
        have sw := hbel.size
        have hgb : w1.heap.size < wr.heap.size := by
          rcases hbl with ⟨_, v, h1, _⟩ | ⟨_, v, h1, _⟩ <;> exact blk_lt h1
        clear he hbl hbel
        by_cases hlt : k < l.length
        · obtain ⟨b, off, hA, _, hc⟩ := (HX.out.below BW.out) (by omega)
          subst hA
          obtain ⟨c0, c1⟩ := hc k hlt
          have hkI : (k : Int) < (l.length : Int) := by omega
          obtain ⟨m0, m1, m2, m3⟩ := OK.out _ (List.getElem_mem hlt)
          have HD := Lib.hid (encP_drop l k hlt)
          clear hc
          generalize l[k] = x at *
          obtain ⟨x0, x1⟩ := x
          simp only at c0 c1 m0 m1 m2 m3 HD
          have hn0 := Var.num_ten x0.toNat (by omega)
          have hn1 := Var.num_ten x1.toNat (by omega)
          have bA := (Below.refl wr.heap.size wr).alloc (Nat.le_refl _) (.cells #[.int .i64 x0, .int .i64 x1] 116)
          have RA := Lib.hid (heap_last wr (.cells #[.int .i64 x0, .int .i64 x1] 116) wr.heap.size rfl)
          have BA := Lib.hid bA
          have sA := bA.size
          have CP := Lib.hid (fun h => putk_int w1.heap.size w1.heap.size L x0 (wr.alloc (.cells #[.int .i64 x0, .int .i64 x1] 116)) (Bu.bld_keep BL.out BA.out) (by omega) (by omega) (by omega) h)
          have CQ := Lib.hid (fun W (q : Bu.Bld w1.heap.size w1.heap.size (L ++ Var.num x0.toNat) W) h => putk_int w1.heap.size w1.heap.size (L ++ Var.num x0.toNat) x1 W q (by rw [List.length_append]; omega) (by omega) (by omega) h)
          have HL2 : Hid (((L ++ Var.num x0.toNat) ++ Var.num x1.toNat).length ≤ 20 * (k + 1 + 1)) := by unfold Hid; rw [List.length_append, List.length_append]; omega
          have HE2 : Hid (((L ++ Var.num x0.toNat) ++ Var.num x1.toNat) ++ encP (l.drop (k + 1)) = encPs l) := by unfold Hid; rw [List.append_assoc, List.append_assoc, ← HD.out]; exact HE.out
          clear hn0 hn1 HD HE bA
          go_wp2_with (go_at_call 54; first
            | ((with_reducible refine (CP.out (Nat.le_trans hsr sA)).mono ?_); rintro e w4 ⟨rfl, h4, hb4, hk4⟩; have H4 := Lib.hid h4; have B4 := Lib.hid ((BW.out.alloc sw _).trans (hb4.mono s1)); have s4 := Nat.le_trans (Nat.le_trans hsr sA) hb4.size; have r4 := hk4 _ _ RA.out (by simp; omega) (fun c fz => not_bytes); have c4 := (row_cell (cs := [Value.int .i64 x0, .int .i64 x1]) r4 1).trans rfl; clear h4 hb4 hk4)
            | ((with_reducible refine (CQ.out _ H4.out s4).mono ?_); rintro e w5 ⟨rfl, h5, hb5, _⟩; have H5 := Lib.hid h5; have B5 := Lib.hid (B4.out.trans (hb5.mono s1)); have s5 := Nat.le_trans s4 hb5.size; clear h5 hb5))
          go_roundw
          case rel => exact ⟨k + 1, _, by omega, by go_num, HL2.out, HE2.out, H5.out, B5.out, s5⟩
          case measure => simp [intOf]; omega
        · have hkl : k = l.length := by omega
          have HL : Hid (L = encPs l) := by
            unfold Hid
            rw [← HE.out, hkl, List.drop_length]
            simp [encP]
          have CS := Lib.hid (Bu.bstr w1.heap.size w1.heap.size L wr BL.out hsr)
          clear HE
          go_wp2_with (go_at_call 55; ((with_reducible refine CS.out.mono ?_); rintro e w5 ⟨rfl, hb5⟩))
          go_ret2
          rw [HL.out]
          exact ⟨rfl, BW.out.trans (hb5.mono s1)⟩
  · have hr' : prise l = false := by simpa using hr
    have ho : okP l = false := by unfold okP; rw [hr']; rfl
    rw [ho]
    rw [hr'] at ci
    have CI := Lib.hid ci
    clear hx hr hr' ho ci CC
    go_enter Try.func33, Try.ntmps33
    go_wp2_with (go_at_call 62; ((with_reducible refine CI.out.mono ?_); rintro e w1 ⟨rfl, hb1⟩))
    go_ret2
    exact ⟨rfl, hb1⟩
end Sc
end Go.Proofs.Ytedhijehmkiieaa
