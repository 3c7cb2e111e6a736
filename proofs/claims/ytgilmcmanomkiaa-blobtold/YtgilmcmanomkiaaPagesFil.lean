/-
  The walk of the statement PagesFill.
-/
import Derived.Test.YtgilmcmanomkiaaPagesCon
namespace Go.Proofs.Ytgilmcmanomkiaa
open Go.RowKit
namespace Pg
open B Dsk
theorem and255 (k : Int) : bits .and .i64 k 255 = ((k % 256).toNat : Int) := by
  show IntKind.i64.wrap ((BitVec.ofInt 64 k &&& BitVec.ofInt 64 255).toNat : Int) = _
  have h : (BitVec.ofInt 64 k &&& BitVec.ofInt 64 255).toNat = (k % 256).toNat := by
    rw [BitVec.toNat_and, show (BitVec.ofInt 64 255).toNat = 255 from rfl]
    rw [show (BitVec.ofInt 64 k).toNat &&& 255 = (BitVec.ofInt 64 k).toNat % 256 from Nat.and_two_pow_sub_one_eq_mod _ 8, BitVec.toNat_ofInt]
    omega
  rw [h]
  exact IntWalk.i64_in _ (by omega)
theorem and255_nat (k : Nat) (h : k < 256) : bits .and .i64 (k : Int) 255 = (k : Int) := by rw [and255]; omega
def xF : ByteArray := ⟨#[120]⟩
def fillL (j : Nat) : List Pag := (List.range j).map fun i => (i, xF)
theorem fillL_len (j : Nat) : (fillL j).length = j := by simp [fillL]
theorem fillL_succ (j : Nat) : fillL (j + 1) = fillL j ++ [(j, xF)] := by simp [fillL, List.range_succ]
theorem fillL_get {j i : Nat} (h : i < (fillL j).length) : (fillL j)[i] = (i, xF) := by simp [fillL]
/-- so many pages have come -/
structure Fl (r k : Nat) (d : D) : Prop where
  up : Up d
  sz : Sz d
  rm : room d = r
  wr : d.writes ≤ (k : Int)
  con : Con d 1 (fillL k)
theorem fl_new {n : Nat} (h2 : 2 ≤ n) (hn : n ≤ 60) : Fl ((n - 2) / 2) 0 (new n) := ⟨new_up n, new_sz h2 (by omega), room_new n, Int.le_refl _, Con.nil _ _⟩
theorem fl_step {r k : Nat} {d : D} (h : Fl r k d) (hk : k < r) (hk2 : k < 256) : papp d 1 (k : Int) (k : Int) xF = (put d 1 (k : Int) (k : Int) xF, (k : Int) + 1, (k : Int), 0) ∧ Fl r (k + 1) (put d 1 (k : Int) (k : Int) xF) := by
  have hr := h.rm
  have hz : xF.size ≤ 240 := by decide
  refine ⟨papp_put h.up h.sz (.inr rfl) (by omega) (by omega) (by omega) (by omega) hz, put_up h.up _ _ _ _, put_sz h.sz _ _ _ _, by rw [put_room]; exact hr, ?_, ?_⟩
  · show d.writes + 1 ≤ _; have := h.wr; omega
  · have hc := Con.put h.sz (half := 1) (k := (k : Int)) (p := xF) (.inr rfl) h.con (by rw [fillL_len]; omega) (by omega) (by omega) hz
    rw [fillL_len, Int.toNat_natCast, ← fillL_succ] at hc
    exact hc
theorem fl_read {r k i : Nat} {d : D} (h : Fl r k d) (hk : k ≤ r) {c : Int} (hi : (i : Int) < c) (hc : c ≤ (k : Int)) : pread d 1 c (i : Int) = ((i : Int), xF, 0) := by
  have hr := h.rm
  rw [Con.read h.up h.sz (.inr rfl) h.con (i := i) (by rw [fillL_len]; omega) hi (by omega), fillL_get]

set_option maxRecDepth 100000 in
set_option maxHeartbeats 4000000 in
theorem pagesFill_walk (size cut : Int) (w : World) :
    Calls Try.prog 6 #[.int .i64 size, .int .i64 cut] w fun e w' => e = .returned (.bool true) ∧ Below w.heap.size w w' := by
  have CA := Lib.hid (awake_any w)
  obtain ⟨n, hnn⟩ : ∃ n : Nat, max 2 (min size 60) = (n : Int) := ⟨(max 2 (min size 60)).toNat, by omega⟩
  have h2 : 2 ≤ n := by omega
  have hn : n ≤ 60 := by omega
  have CN := Lib.hid (fun W => new_my n n W rfl h2 (by omega))
  have F0 := Lib.hid (fl_new h2 hn)
  have hr29 : (n - 2) / 2 ≤ 29 := by omega
  generalize (n - 2) / 2 = r at *
  generalize new n = d0 at *
  obtain ⟨c, hcc⟩ : ∃ c : Nat, max 0 (min cut (r : Int)) = (c : Int) := ⟨(max 0 (min cut (r : Int))).toNat, by omega⟩
  have hcr : c ≤ r := by omega
  go_enter Try.func6, Try.ntmps6
  go_wp2_with (first
    | (go_at_call 11; ((with_reducible refine CA.out.mono ?_); rintro e w1 ⟨rfl, hb1⟩; have B1 := Lib.hid hb1; clear hb1))
    | (go_at_call 12; ((with_reducible refine (CN.out _).mono ?_); rintro e w2 ⟨b, rfl, hm2, hb2⟩; have M2 := Lib.hid hm2; have B2 := Lib.hid (B1.out.trans (hb2.mono B1.out.size)); have s2 := hb2.size; clear hm2 hb2; have cr := room_any b d0 w2 M2.out.at' F0.out.sz.lo F0.out.sz.hi; rw [F0.out.rm] at cr; have CRm := Lib.hid cr; clear cr; have CO1 := Lib.hid (open_my b d0 1 0 w2 M2.out F0.out.sz ⟨.inr rfl, by omega, by omega⟩ s2)))
    | (go_at_call 15; ((with_reducible refine CRm.out.mono ?_); rintro e w' ⟨rfl, rfl⟩))
    | (go_at_call 14; ((with_reducible refine CO1.out.mono ?_); rintro e w3 ⟨g, rfl, hp3, hb3⟩; have P3 := Lib.hid hp3; have B3 := Lib.hid (B2.out.trans (hb3.mono B2.out.size)); have s3 := hb3.size; have s1 := B1.out.size; clear hp3 hb3)))
  go_loopw [43] (fun t43 wr => ∃ (k : Nat) (d : D), k ≤ r ∧ t43 = .int .i64 (k : Int) ∧ Fl r k d ∧ PMy w1.heap.size wr b d g 1 (k : Int) ∧ Below w1.heap.size w3 wr) (fun t43 _ => r - (intOf t43).toNat)
  case atStart => exact ⟨0, d0, Nat.zero_le _, rfl, F0.out, P3.out, Below.refl _ _⟩
  case round =>
    obtain ⟨k, d, hk, rfl, hf, hp, hb⟩ := hrel
    have FF := Lib.hid hf
    have PP := Lib.hid hp
    have BB := Lib.hid hb
    have sb := hb.size
    have hwr : d.writes < 1000000 := by have := hf.wr; omega
    clear hf hp hb
    by_cases hlt : k < r
    · obtain ⟨hst, hfl⟩ := fl_step FF.out hlt (by omega)
      have ca := papp_my b d g 1 (k : Int) (k : Int) xF wr PP.out hwr (by omega)
      rw [hst] at ca
      dsimp only at ca
      have F1 := Lib.hid hfl
      generalize put d 1 (k : Int) (k : Int) xF = d1 at *
      unfold xF at ca
      have CAp := Lib.hid ca
      have ha := and255_nat k (by omega)
      clear ca hst hfl
      have hlI : (k : Int) < (r : Int) := by omega
      go_wp2_with (first
        | (go_at_call 24; ((with_reducible refine CAp.out.mono ?_); rintro e w4 ⟨rfl, hp4, hb4⟩; have P4 := Lib.hid hp4; have B4 := Lib.hid (BB.out.trans hb4); have s4 := hb4.size; clear hp4 hb4; have cf := free_my b d1 g 1 _ w4 P4.out; rw [F1.out.rm] at cf; have CF := Lib.hid cf; clear cf))
        | (go_at_call 27; ((with_reducible refine CF.out.mono ?_); rintro e w5 ⟨rfl, hb5⟩; have P5 := Lib.hid (P4.out.below hb5); have B5 := Lib.hid (B4.out.trans (hb5.mono (by omega))); clear hb5)))
      go_roundw
      case rel => exact ⟨k + 1, d1, by omega, by go_num, F1.out, P5.out, B5.out⟩
      case measure => simp [intOf]; omega
    · obtain rfl : k = r := by omega
      clear hlt hk
      have ca := papp_my b d g 1 (k : Int) 1 xF wr PP.out hwr (by omega)
      rw [papp_full (by decide) (by rw [FF.out.rm]; omega)] at ca
      dsimp only at ca
      unfold xF at ca
      have CAp := Lib.hid ca
      clear ca
      have ca := fun W (q : PMy w1.heap.size W b d g 1 (c : Int)) => pread_my b d g 1 (c : Int) (c : Int) W q
      rw [pread_arg (.inr (Int.le_refl _))] at ca
      have CR9 := Lib.hid ca
      clear ca
      generalize wr = wq at *
      go_wp2_with (first
        | (go_at_call 24; ((with_reducible refine CAp.out.mono ?_); rintro e w4 ⟨rfl, hp4, hb4⟩; have P4 := Lib.hid hp4; have B4 := Lib.hid (BB.out.trans hb4); have s4 := hb4.size; clear hp4 hb4; have CC := Lib.hid (cut_my b d g 1 _ (c : Int) w4 P4.out (by omega) (by omega) (by omega))))
        | (go_at_call 18; ((with_reducible refine CC.out.mono ?_); rintro e w5 ⟨rfl, hp5, hb5⟩; have P5 := Lib.hid hp5; have B5 := Lib.hid (B4.out.trans hb5); have s5 := hb5.size; clear hp5 hb5; have cf := free_my b d g 1 _ w5 P5.out; rw [FF.out.rm] at cf; have CF := Lib.hid cf; clear cf))
        | (go_at_call 27; ((with_reducible refine CF.out.mono ?_); rintro e w6 ⟨rfl, hb6⟩; have P6 := Lib.hid (P5.out.below hb6); have B6 := Lib.hid (B5.out.trans (hb6.mono (by omega))); have s6 := hb6.size; clear hb6)))
      go_loopw [94] (fun t94 wr => ∃ (j : Nat), j ≤ c ∧ t94 = .int .i64 (j : Int) ∧ PMy w1.heap.size wr b d g 1 (c : Int) ∧ Below w1.heap.size w3 wr) (fun t94 _ => c - (intOf t94).toNat)
      case atStart => exact ⟨0, Nat.zero_le _, rfl, P6.out, B6.out⟩
      case round =>
        obtain ⟨j, hj, rfl, hp, hb⟩ := hrel
        have P7 := Lib.hid hp
        have B7 := Lib.hid hb
        have s7 := hb.size
        clear hp hb
        by_cases hlt : j < c
        · have cr := pread_my b d g 1 (c : Int) (j : Int) wr P7.out
          rw [fl_read FF.out (Nat.le_refl _) (by omega) (by omega)] at cr
          unfold xF at cr
          have CR := Lib.hid cr
          clear cr
          have ha := and255_nat j (by omega)
          have hlI : (j : Int) < (c : Int) := by omega
          go_wp2_with (go_at_call 17; ((with_reducible refine CR.out.mono ?_); rintro e w8 ⟨rfl, hb8⟩; have P8 := Lib.hid (P7.out.below hb8); have B8 := Lib.hid (B7.out.trans (hb8.mono (by omega))); clear hb8))
          go_roundw
          case rel => exact ⟨j + 1, by omega, by go_num, P8.out, B8.out⟩
          case measure => simp [intOf]; omega
        · have hlI : ¬ (j : Int) < (c : Int) := by omega
          have CR := Lib.hid (CR9.out _ P7.out)
          go_wp2_with (go_at_call 17; ((with_reducible refine CR.out.mono ?_); rintro e w8 ⟨rfl, hb8⟩; have B8 := Lib.hid (B7.out.trans (hb8.mono (by omega))); clear hb8))
          go_ret
          exact ⟨rfl, B3.out.trans (B8.out.mono s1)⟩
end Pg
end Go.Proofs.Ytgilmcmanomkiaa
