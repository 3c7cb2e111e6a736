/-
  The walk of the statement BlobLimits.
-/
import Derived.Test.YtgilmcmanomkiaaBlobLo
namespace Go.Proofs.Ytgilmcmanomkiaa
open Go.RowKit
namespace Bb
open B Dsk Pg
theorem cost_max (m : Nat) : max (((m : Int) + 234) / 235) 1 = (cost m : Int) := by unfold cost; split <;> omega
set_option maxRecDepth 100000 in
set_option maxHeartbeats 4000000 in
theorem blobLimits_walk (n : Int) (w : World) :
    Calls Try.prog 8 #[.int .i64 n] w fun e w' => e = .returned (.bool true) ∧ Below w.heap.size w w' := by
  have CA := Lib.hid (awake_any w)
  have CH := Lib.hid (fun W => half_any 300 300 W rfl (by omega))
  obtain ⟨m, hm⟩ : ∃ m : Nat, max 0 (min n 65539) = (m : Int) := ⟨(max 0 (min n 65539)).toNat, by omega⟩
  have hm2 : m ≤ 65539 := by omega
  have CL := Lib.hid (fun W => long_any ⟨#[]⟩ m (m : Int) W (by omega))
  have hsz := longB_size ⟨#[]⟩ m
  generalize longB ⟨#[]⟩ m = S at *
  by_cases hbig : 65536 < m
  · have hbI : (65536 : Int) < (m : Int) := by omega
    have CW := Lib.hid (fun B b g W (hp : PMy B W b (new (2 + 2 * 300)) g 0 0) => bwrite_long b (new (2 + 2 * 300)) g 0 0 S W hp (by omega))
    have CWs := Lib.hid (fun b W (hd : DAt W b (new (2 + 2 * 300))) => writes_any b (new (2 + 2 * 300)) W hd)
    rw [show (new (2 + 2 * 300)).writes = 0 from rfl] at CWs
    generalize new (2 + 2 * 300) = d0 at *
    go_enter Try.func8, Try.ntmps8
    go_wp2_with (first
      | (go_at_call 33; ((with_reducible refine CA.out.mono ?_); rintro e w1 ⟨rfl, hb1⟩; have B1 := Lib.hid hb1; clear hb1))
      | (go_at_call 34; ((with_reducible refine (CH.out _).mono ?_); rintro e w2 ⟨b, g, rfl, hp2, hb2⟩; have P2 := Lib.hid hp2; have B2 := Lib.hid (B1.out.trans (hb2.mono B1.out.size)); clear hp2 hb2))
      | (go_at_call 35; ((with_reducible refine (CL.out _).mono ?_); rintro e w3 ⟨rfl, hb3⟩; have P3 := Lib.hid (P2.out.below hb3); have B3 := Lib.hid (B2.out.trans (hb3.mono B2.out.size)); clear hb3; have CW1 := Lib.hid (CW.out _ _ _ _ P3.out); have CS1 := Lib.hid (CWs.out _ _ P3.out.my.at')))
      | (go_at_call 36; ((with_reducible refine CW1.out.mono ?_); rintro e w' ⟨rfl, rfl⟩))
      | (go_at_call 40; ((with_reducible refine CS1.out.mono ?_); rintro e w' ⟨rfl, rfl⟩)))
    go_ret
    exact ⟨rfl, B3.out⟩
  · have hbI : ¬ (65536 : Int) < (m : Int) := by omega
    have hcl := cost_le (n := S.size) (by omega)
    have hcp := cost_pos S.size
    have hmx := cost_max m
    rw [show cost m = cost S.size by rw [hsz]] at hmx
    have CW := Lib.hid (fun B b g W (hp : PMy B W b (new (2 + 2 * 300)) g 0 0) hB => bwrite_ok (r := 300) (wr0 := 0) b (new (2 + 2 * 300)) g 0 [] S W hp (wb_new (by omega)) (by omega) (by show 0 + cost S.size ≤ 300; omega) (by omega) hB)
    have HB := read_back (L := [] ++ bpages 0 S (cost S.size) (cost S.size)) (a := 0) (s := S) (by omega) (fun j h => by have := at_pages [] [] S (cost S.size) j h; rw [List.append_nil] at this; exact this) (by omega)
    have hnl : ([] : List Pag).length = 0 := rfl
    simp only [hnl, Nat.zero_add] at CW HB
    have HL : ([] ++ bpages 0 S (cost S.size) (cost S.size) : List Pag).length = cost S.size := by rw [List.nil_append, bpages_len]
    have CR := Lib.hid (fun B b (d' : D) g W (hp : PMy B W b d' g 0 (([] ++ bpages 0 S (cost S.size) (cost S.size) : List Pag).length : Int)) (hw : Wb 300 0 0 ([] ++ bpages 0 S (cost S.size) (cost S.size)) d') => bread_any b d' g 0 ([] ++ bpages 0 S (cost S.size) (cost S.size)) ((cost S.size - 1 : Nat) : Int) W hp hw.up hw.con)
    rw [HL, HB] at CR
    have CX := Lib.hid (fun B b (d' : D) g W (hp : PMy B W b d' g 0 (cost S.size : Int)) => next_my b d' g 0 (cost S.size : Int) W hp)
    clear HB hnl HL
    generalize new (2 + 2 * 300) = d0 at *
    generalize ([] ++ bpages 0 S (cost S.size) (cost S.size) : List Pag) = LL at *
    generalize cost S.size = c at *
    obtain ⟨c1, hc1⟩ : ∃ c1 : Nat, c - 1 = c1 := ⟨_, rfl⟩
    rw [hc1] at CW CR
    have hss : S.size ≤ 65536 := by omega
    clear hc1 hbig
    go_enter Try.func8, Try.ntmps8
    go_wp2_with (first
      | (go_at_call 33; ((with_reducible refine CA.out.mono ?_); rintro e w1 ⟨rfl, hb1⟩; have B1 := Lib.hid hb1; clear hb1))
      | (go_at_call 34; ((with_reducible refine (CH.out _).mono ?_); rintro e w2 ⟨b, g, rfl, hp2, hb2⟩; have P2 := Lib.hid hp2; have B2 := Lib.hid (B1.out.trans (hb2.mono B1.out.size)); have s2 := hb2.size; clear hp2 hb2))
      | (go_at_call 35; ((with_reducible refine (CL.out _).mono ?_); rintro e w3 ⟨rfl, hb3⟩; have P3 := Lib.hid (P2.out.below hb3); have B3 := Lib.hid (B2.out.trans (hb3.mono B2.out.size)); have s3 := hb3.size; clear hb3; have CW1 := Lib.hid (CW.out _ _ _ _ P3.out (Nat.le_trans s2 s3))))
      | (go_at_call 36; ((with_reducible refine CW1.out.mono ?_); rintro e w4 ⟨rfl, d4, hp4, hw4, hb4⟩; have P4 := Lib.hid hp4; have B4 := Lib.hid (B3.out.trans (hb4.mono B1.out.size)); have CR1 := Lib.hid (CR.out _ _ _ _ _ hp4 hw4); clear hp4 hw4 hb4))
      | (go_at_call 38; ((with_reducible refine CR1.out.mono ?_); rintro e w5 ⟨rfl, hb5⟩; have P5 := Lib.hid (P4.out.below hb5); have B5 := Lib.hid (B4.out.trans (hb5.mono B4.out.size)); clear hb5; have CX1 := Lib.hid (CX.out _ _ _ _ _ P5.out)))
      | (go_at_call 26; ((with_reducible refine CX1.out.mono ?_); rintro e w' ⟨rfl, rfl⟩)))
    go_ret
    exact ⟨rfl, B5.out⟩
end Bb
end Go.Proofs.Ytgilmcmanomkiaa
