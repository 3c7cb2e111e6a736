/-
  Setcode (layer 13): a set's bytes: the program's Encode and Size.
-/
import Derived.Test.YtedhijehmkiieaaBldr
import Derived.Test.YtedhijehmkiieaaVarHead
import Derived.Test.YtedhijehmkiieaaSetOps
namespace Go.Proofs.Ytedhijehmkiieaa
open Go.RowKit
namespace Sc
open B

/-- what the next number may be at least -/
def lst (xs : List Int) (k : Nat) : Int := if k = 0 then 0 else xs.getD (k - 1) 0 + 1
theorem getD_at (xs : List Int) (k : Nat) (h : k < xs.length) : xs.getD k 0 = xs[k] := by simp [List.getD, List.getElem?_eq_getElem h]
theorem lst_succ (xs : List Int) (k : Nat) (h : k < xs.length) : lst xs (k + 1) = xs[k] + 1 := by
  unfold lst
  rw [if_neg (by omega), Nat.add_sub_cancel, getD_at xs k h]
theorem okL_at : ∀ (xs : List Int) (least : Int), okL least xs → ∀ (k : Nat) (hk : k < xs.length), (if k = 0 then least else xs.getD (k - 1) 0 + 1) ≤ xs[k] ∧ xs[k] ≤ 2147483647
  | [], _, _, k, hk => by simp at hk
  | x :: r, least, h, 0, _ => ⟨h.1, h.2.1⟩
  | x :: r, least, h, k + 1, hk => by
    have h1 := okL_at r (x + 1) h.2.2 k (by simpa using hk)
    simp only [List.getElem_cons_succ]
    rw [if_neg (by omega), Nat.add_sub_cancel]
    cases k with
    | zero => simpa using h1
    | succ k =>
      rw [if_neg (by omega)] at h1
      simpa using h1
theorem okL_mem : ∀ (xs : List Int) (least : Int), okL least xs → ∀ x ∈ xs, least ≤ x ∧ x ≤ 2147483647
  | [], _, _, x, hx => by cases hx
  | y :: r, least, h, x, hx => by
    rcases List.mem_cons.1 hx with rfl | hx
    · exact ⟨h.1, h.2.1⟩
    · have := okL_mem r (y + 1) h.2.2 x hx
      have := h.1
      omega
theorem lst_pos {xs : List Int} (h : okL 0 xs) (k : Nat) (hk : k ≤ xs.length) : 0 ≤ lst xs k ∧ lst xs k ≤ 2147483648 := by
  unfold lst
  split
  · omega
  · have hk2 : k - 1 < xs.length := by omega
    rw [getD_at xs _ hk2]
    have := okL_mem xs 0 h _ (List.getElem_mem hk2)
    omega
theorem encL_drop (xs : List Int) (least : Int) (k : Nat) (h : k < xs.length) : encL least (xs.drop k) = Var.num (xs[k] - least).toNat ++ encL (xs[k] + 1) (xs.drop (k + 1)) := by
  rw [List.drop_eq_getElem_cons h]; rfl

set_option maxHeartbeats 1000000 in
theorem put_any (B gb : Nat) (l : List UInt8) (x : Nat) (w : World) (h : Bu.Bld B gb l w) (hl : l.length ≤ 900000) (hx : x ≤ 4294967296) (hB : B ≤ w.heap.size) :
    Calls Try.prog 54 #[.pointer (some ⟨gb, 0, none⟩), .int .i64 (x : Int)] w fun e w' => e = .returned (.tuple #[]) ∧ Bu.Bld B gb (l ++ Var.num x) w' ∧ Below B w w' := by
  have hn := Var.num_ten x (by omega)
  have CN := Lib.hid (V.num_any x w (by omega))
  have HB := Lib.hid h
  have CW := Lib.hid (fun W (q : Bu.Bld B gb l W) hB => Bu.wstr B gb l ⟨(Var.num x).toArray⟩ W q (by rw [mk_size]; omega) hB)
  clear h hn
  go_enter Try.func54, Try.ntmps54
  go_wp2_with (first
    | (go_at_call 90; ((with_reducible refine CN.out.mono ?_); rintro e w1 ⟨rfl, hb1⟩; have B1 := Lib.hid (hb1.mono hB); have C2 := Lib.hid (CW.out w1 (Bu.bld_keep HB.out hb1) (Nat.le_trans hB hb1.size)); clear hb1))
    | (go_at_call 89; ((with_reducible refine C2.out.mono ?_); rintro e w2 ⟨rfl, h2, hb2⟩; have H2 := Lib.hid h2; have B2 := Lib.hid hb2; clear h2 hb2)))
  go_end0
  exact ⟨rfl, H2.out, B1.out.trans B2.out⟩
theorem put_int (B gb : Nat) (l : List UInt8) (x : Int) (w : World) (h : Bu.Bld B gb l w) (hl : l.length ≤ 900000) (h0 : 0 ≤ x) (hx : x ≤ 4294967296) (hB : B ≤ w.heap.size) :
    Calls Try.prog 54 #[.pointer (some ⟨gb, 0, none⟩), .int .i64 x] w fun e w' => e = .returned (.tuple #[]) ∧ Bu.Bld B gb (l ++ Var.num x.toNat) w' ∧ Below B w w' := by
  obtain ⟨n, rfl⟩ := Int.eq_ofNat_of_zero_le h0
  rw [Int.toNat_natCast]
  exact put_any B gb l n w h hl (by omega) hB

set_option maxRecDepth 100000 in
set_option maxHeartbeats 2000000 in
theorem encode_any (xs : List Int) (A : Option Addr) (c : Nat) (w : World) (hl : xs.length ≤ 1000) (hx : At vInt w A xs) :
    Calls Try.prog 22 #[.slice A xs.length c] w fun e w' => e = .returned (.tuple #[.string (if okB xs = true then ⟨(enc xs).toArray⟩ else ⟨#[]⟩), .int .i64 (if okB xs = true then 0 else 1)]) ∧ Below w.heap.size w w' := by
  have ci := (is_any xs A c w (by omega) hx).mono (fun e w' (h : _ ∧ ∃ n, w' = w.drewN n) => (show e = .returned (.bool (rises xs)) ∧ Below w.heap.size w w' from ⟨h.1, by obtain ⟨n, rfl⟩ := h.2; exact below_drewN (Below.refl _ _) n⟩))
  have CC := Lib.hid (fun W (q : Below w.heap.size w W) => contains_any xs A c W (by omega) (hx.below q))
  by_cases hr : rises xs = true
  · rw [hr] at ci
    have CI := Lib.hid ci
    clear ci
    by_cases hb : xs.any bad = true
    · have ho : okB xs = false := by unfold okB; rw [hr, hb]; rfl
      rw [ho]
      rw [hb] at CC
      clear hx hr hb ho
      go_enter Try.func22, Try.ntmps22
      go_wp2_with (first
        | (go_at_call 51; ((with_reducible refine CI.out.mono ?_); rintro e w1 ⟨rfl, hb1⟩))
        | (go_at_call 52; ((with_reducible refine (CC.out _ hb1).mono ?_); rintro e w2 ⟨rfl, rfl⟩)))
      go_ret2
      exact ⟨rfl, hb1⟩
    · have hb' : xs.any bad = false := by simpa using hb
      have ho : okB xs = true := by unfold okB; rw [hr, hb']; rfl
      have OK := Lib.hid (okB_ok ho)
      rw [ho, if_pos rfl, if_pos rfl]
      rw [hb'] at CC
      have HX := Lib.hid hx
      clear hx hr hb hb' ho
      go_enter Try.func22, Try.ntmps22
      go_wp2_with (first
        | (go_at_call 51; ((with_reducible refine CI.out.mono ?_); rintro e w1 ⟨rfl, hb1⟩; have s1 := hb1.size; have B1 := Lib.hid hb1; clear hb1))
        | (go_at_call 52; ((with_reducible refine (CC.out _ B1.out).mono ?_); rintro e w2 ⟨rfl, rfl⟩; have hs1 : w1.heap.size ≤ (w1.alloc (.cells #[.pointer none, .slice none 0 0] 107)).heap.size := by simp))
        | (go_at_call 54; ((with_reducible refine (put_any w1.heap.size w1.heap.size [] xs.length _ (Bu.bld_new w1 _ (Nat.le_refl _)) (by simp) (by omega) hs1).mono ?_); rintro e w3 ⟨rfl, h3, hb3⟩; have H3 := Lib.hid h3; have B3 := Lib.hid ((B1.out.alloc s1 _).trans (hb3.mono s1)); have s3 := Nat.le_trans hs1 hb3.size; clear h3 hb3 hs1)))
      clear CI CC
      go_loopw [5, 20] (fun t5 t20 wr => ∃ (k : Nat) (L : List UInt8), k ≤ xs.length ∧ t5 = .int .i64 (lst xs k) ∧ t20 = .int .i64 (k : Int) ∧ L.length ≤ 10 * (k + 1) ∧ L ++ encL (lst xs k) (xs.drop k) = enc xs ∧ Bu.Bld w1.heap.size w1.heap.size L wr ∧ Below w.heap.size w wr ∧ w1.heap.size ≤ wr.heap.size) (fun _ t20 _ => xs.length - (intOf t20).toNat)
      case atStart => exact ⟨0, _, Nat.zero_le _, rfl, rfl, by have := Var.num_ten xs.length (by omega); simpa using this, rfl, H3.out, B3.out, s3⟩
      case round =>
        obtain ⟨k, L, hk, rfl, rfl, hL, he, hbl, hbel, hsr⟩ := hrel
        clear H3 B3 s3
        have HE := Lib.hid he
        have BL := Lib.hid hbl
        have BW := Lib.hid hbel
        clear he hbl hbel
        by_cases hlt : k < xs.length
        · obtain ⟨b, off, hA, _, hc⟩ := (HX.out.below BW.out) (by omega)
          subst hA
          have c0 := hc k hlt
          have hkI : (k : Int) < (xs.length : Int) := by omega
          obtain ⟨hp0, hp1⟩ := lst_pos OK.out k hk
          obtain ⟨ha0, ha1⟩ := okL_at xs 0 OK.out k hlt
          have ha0 : lst xs k ≤ xs[k] := ha0
          have HS := Lib.hid (lst_succ xs k hlt)
          have HD := Lib.hid (encL_drop xs (lst xs k) k hlt)
          clear hc
          generalize xs[k] = x at *
          generalize lst xs k = y at *
          have hn := Var.num_ten (x - y).toNat (by omega)
          have CP := Lib.hid (put_int w1.heap.size w1.heap.size L (x - y) wr BL.out (by omega) (by omega) (by omega) hsr)
          have HL2 : Hid ((L ++ Var.num (x - y).toNat).length ≤ 10 * (k + 1 + 1)) := by unfold Hid; rw [List.length_append]; omega
          have HE2 : Hid ((L ++ Var.num (x - y).toNat) ++ encL (x + 1) (xs.drop (k + 1)) = enc xs) := by unfold Hid; rw [List.append_assoc, ← HD.out]; exact HE.out
          clear hn HD HE
          go_wp2_with (go_at_call 54; ((with_reducible refine CP.out.mono ?_); rintro e w4 ⟨rfl, h4, hb4⟩; have H4 := Lib.hid h4; have B4 := Lib.hid (BW.out.trans (hb4.mono s1)); have s4 := Nat.le_trans hsr hb4.size; clear h4 hb4))
          go_roundw
          case rel => exact ⟨k + 1, _, by omega, by rw [HS.out]; try go_num, by go_num, HL2.out, by rw [HS.out]; exact HE2.out, H4.out, B4.out, s4⟩
          case measure => simp [intOf]; omega
        · have hkl : k = xs.length := by omega
          have HL : Hid (L = enc xs) := by
            unfold Hid
            rw [← HE.out, hkl, List.drop_length]
            simp [encL]
          have CS := Lib.hid (Bu.bstr w1.heap.size w1.heap.size L wr BL.out hsr)
          have hkI : ((k : Int) < (xs.length : Int)) = False := by simp; omega
          clear HE
          go_wp2_with (go_at_call 55; ((with_reducible refine CS.out.mono ?_); rintro e w5 ⟨rfl, hb5⟩))
          go_ret2
          rw [HL.out]
          exact ⟨rfl, BW.out.trans (hb5.mono s1)⟩
  · have hr' : rises xs = false := by simpa using hr
    have ho : okB xs = false := by unfold okB; rw [hr']; rfl
    rw [ho]
    rw [hr'] at ci
    have CI := Lib.hid ci
    clear hx hr hr' ho ci CC
    go_enter Try.func22, Try.ntmps22
    go_wp2_with (go_at_call 51; ((with_reducible refine CI.out.mono ?_); rintro e w1 ⟨rfl, hb1⟩))
    go_ret2
    exact ⟨rfl, hb1⟩

set_option maxHeartbeats 1000000 in
theorem size_any (xs : List Int) (A : Option Addr) (c : Nat) (w : World) (hl : xs.length ≤ 1000) (hx : At vInt w A xs) :
    Calls Try.prog 24 #[.slice A xs.length c] w fun e w' => e = .returned (.int .i64 (if okB xs = true then ((enc xs).length : Int) else 0)) ∧ Below w.heap.size w w' := by
  have ce := encode_any xs A c w hl hx
  by_cases ho : okB xs = true
  · rw [ho, if_pos rfl, if_pos rfl] at ce
    rw [ho, if_pos rfl]
    obtain ⟨S, hS⟩ : ∃ S : ByteArray, S = ⟨(enc xs).toArray⟩ := ⟨_, rfl⟩
    have HZ : Hid (S.size = (enc xs).length) := by unfold Hid; rw [hS, mk_size]
    rw [← hS] at ce
    have CE := Lib.hid ce
    clear ce hS hx ho
    go_enter Try.func24, Try.ntmps24
    go_wp2_with (go_at_call 22; ((with_reducible refine CE.out.mono ?_); rintro e w1 ⟨rfl, hb1⟩))
    go_ret
    exact ⟨ret_int (by rw [HZ.out]), hb1⟩
  · rw [if_neg ho, if_neg ho] at ce
    rw [if_neg ho]
    have CE := Lib.hid ce
    clear ce hx ho
    go_enter Try.func24, Try.ntmps24
    go_wp2_with (go_at_call 22; ((with_reducible refine CE.out.mono ?_); rintro e w1 ⟨rfl, hb1⟩))
    go_ret
    exact ⟨rfl, hb1⟩
end Sc
end Go.Proofs.Ytedhijehmkiieaa
