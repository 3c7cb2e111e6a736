/-
  Blobs (layer 8): what Cost, look do.
-/
import Derived.Test.YtgilmcmanomkiaaPagesCon
import Derived.Test.YtgilmcmanomkiaaVarIn
namespace Go.Proofs.Ytgilmcmanomkiaa
open Go.RowKit
namespace Bb
open B Dsk Pg
open V (InAt failS rawS numS of_new in_num in_raw in_err in_left numS_size)

/-- how many pages a text of so many bytes takes -/
def cost (n : Nat) : Nat := if n = 0 then 1 else (n - 1) / 235 + 1
theorem cost_pos (n : Nat) : 1 ≤ cost n := by unfold cost; split <;> omega
set_option maxHeartbeats 1000000 in
theorem cost_any (n : Int) (w : World) (h1 : n ≤ 9223372036854775807) : Calls Try.prog 37 #[.int .i64 n] w fun e w' => e = .returned (.int .i64 (cost n.toNat : Int)) ∧ w = w' := by
  have HC : Hid ((cost n.toNat : Int) = if n ≤ 0 then 1 else (n - 1) / 235 + 1) := by
    unfold cost
    by_cases h : n ≤ 0
    · rw [if_pos h, if_pos (show n.toNat = 0 by omega)]; rfl
    · rw [Hid, if_neg h, if_neg (show ¬ n.toNat = 0 by omega)]; omega
  by_cases h : n ≤ 0
  · rw [if_pos h] at HC
    rw [HC.out]
    go_enter Try.func37, Try.ntmps37
    go_wp2
    go_ret
    exact ⟨rfl, rfl⟩
  · rw [if_neg h] at HC
    rw [HC.out]
    go_enter Try.func37, Try.ntmps37
    go_wp2
    go_ret
    exact ⟨rfl, rfl⟩

/-- what a page of a blob says: the page of the next bytes (below 0: none), and its bytes; 'most' is its own number -/
def bsays (most : Nat) (q : Pag) : Option (Int × ByteArray) :=
  if q.1 = 3 ∧ (Var.hd 0 0 q.2.data.toList).2.2 = 0 ∧ (Var.hd 0 0 q.2.data.toList).1 ≤ most then some (((Var.hd 0 0 q.2.data.toList).1 : Int) - 1, q.2.extract (Var.hd 0 0 q.2.data.toList).2.1 q.2.size) else none
/-- what look answers: the next page, the bytes, the error -/
def blook (l : List Pag) (n : Int) : Int × ByteArray × Int :=
  if h : 0 ≤ n ∧ n.toNat < l.length then match bsays n.toNat l[n.toNat] with
    | some (x, s) => (x, s, 0)
    | none => (-1, ⟨#[]⟩, 8)
  else (-1, ⟨#[]⟩, 1)
theorem grown_bel {w w' : World} {g : Nat} {B : Nat} (h : w.grownBy w' (some g)) (hg : B ≤ g) (hB : B ≤ w.heap.size) : Below B w w' := grown_below h hg hB
theorem wrapu (n : Nat) (h : n < 9223372036854775808) : IntKind.u64.wrap (n : Int) = (n : Int) := by show (n : Int) % 18446744073709551616 = _; omega
theorem failS_ne (s : ByteArray) {f : Nat} (h : 0 < f) : (failS s 0 f).2 = f := by unfold failS; rw [if_neg (by omega)]
theorem raw_all (s : ByteArray) (e : Nat) : (rawS s e s.size).1 = s := by
  unfold rawS
  rw [if_neg (by omega)]
  exact ext_data (by rw [take_data, List.take_of_length_le (by rw [size_data]; exact Nat.le_refl _)])
set_option maxRecDepth 100000 in
set_option maxHeartbeats 4000000 in
theorem look_any {B : Nat} (b : Bl) (d : D) (g : Nat) (half : Int) (l : List Pag) (n : Int) (w : World) (h : PMy B w b d g half (l.length : Int)) (hu : Up d) (hc : Con d half l) :
    Calls Try.prog 66 #[.pointer (some ⟨g, 0, none⟩), .int .i64 n] w fun e w' => e = .returned (pval (blook l n)) ∧ Below w.heap.size w w' := by
  have cr := pread_my b d g half (l.length : Int) n w h
  by_cases hin : 0 ≤ n ∧ n.toNat < l.length
  · obtain ⟨k, rfl⟩ : ∃ k : Nat, n = (k : Int) := ⟨n.toNat, by omega⟩
    have hk : k < l.length := by omega
    rw [Con.read hu h.sz h.hh hc hk (by omega) h.n1] at cr
    have HB : Hid (blook l (k : Int) = match bsays k l[k] with
      | some (x, s) => (x, s, 0)
      | none => (-1, ⟨#[]⟩, 8)) := by
      unfold blook
      rw [Hid, dif_pos hin]
      simp only [Int.toNat_natCast]
    obtain ⟨hkd, hps⟩ := hc.ok l[k] (List.getElem_mem _)
    have hk2 : k < 9223372036854775808 := by have h1 := hc.le; have h2 := room_le h.sz; omega
    generalize l[k] = q at *
    obtain ⟨kd, pay⟩ := q
    simp only at cr hkd hps
    dsimp only [pval] at cr
    have CR := Lib.hid cr
    have CO := Lib.hid (fun W => of_new pay W)
    have CN := Lib.hid (fun g2 W (hi : InAt W g2 pay 0) => in_num g2 pay 0 k W hi (by unfold maxLen; omega))
    have hwu := wrapu k hk2
    obtain ⟨x, m, f, hr⟩ : ∃ x m f, Var.hd 0 0 pay.data.toList = (x, m, f) := ⟨_, _, _, rfl⟩
    have HS : Hid (bsays k (kd, pay) = if kd = 3 ∧ f = 0 ∧ x ≤ k then some ((x : Int) - 1, pay.extract m pay.size) else none) := by
      unfold bsays; rw [Hid]; simp only [hr]
    clear cr h hc
    have hkI : (0 : Int) ≤ (k : Int) := by omega
    by_cases hk3 : kd = 3
    · subst hk3
      by_cases hf : f = 0 ∧ x ≤ k
      · obtain ⟨rfl, hx⟩ := hf
        have hns : numS pay 0 k = (x, pay.extract m pay.size, 0) := by unfold numS; rw [hr]; simp only; rw [if_pos trivial, if_pos hx]
        rw [hns] at CN
        rw [if_pos ⟨rfl, rfl, hx⟩] at HS
        rw [HB.out, HS.out]
        have hrs : (pay.extract m pay.size).size ≤ 240 := by rw [ByteArray.size_extract]; omega
        have CL := Lib.hid (fun g2 W hi => in_left g2 (pay.extract m pay.size) 0 W hi)
        have CE := Lib.hid (fun g2 W hi => in_err g2 (pay.extract m pay.size) 0 W hi)
        have CRw := Lib.hid (fun g2 W hi => in_raw g2 (pay.extract m pay.size) 0 ((pay.extract m pay.size).size : Int) W hi (by unfold maxLen; omega) (by omega))
        rw [Int.toNat_natCast, raw_all] at CRw
        generalize pay.extract m pay.size = rs at *
        clear HB HS hr hns
        go_enter Try.func66, Try.ntmps66
        go_wp2_with (first
          | (go_at_call 17; ((with_reducible refine CR.out.mono ?_); rintro e w1 ⟨rfl, hb1⟩; have B1 := Lib.hid hb1; clear hb1))
          | (go_at_call 77; ((with_reducible refine (CO.out _).mono ?_); rintro e w2 ⟨rfl, hi2, hb2, hl2⟩; have B2 := Lib.hid (B1.out.trans (hb2.mono B1.out.size)); have CN2 := Lib.hid (CN.out _ _ hi2); clear hi2 hb2))
          | (go_at_call 78; ((with_reducible refine CN2.out.mono ?_); rintro e w3 ⟨rfl, hi3, hg3⟩; have B3 := Lib.hid (B2.out.trans (grown_bel hg3 B1.out.size B2.out.size)); have CE3 := Lib.hid (CE.out _ _ hi3); have CL3 := Lib.hid (CL.out _ _ hi3); have CR3 := Lib.hid (CRw.out _ _ hi3); clear hi3 hg3))
          | (go_at_call 79; ((with_reducible refine CE3.out.mono ?_); rintro e w' ⟨rfl, rfl⟩))
          | (go_at_call 81; ((with_reducible refine CL3.out.mono ?_); rintro e w' ⟨rfl, rfl⟩))
          | (go_at_call 80; ((with_reducible refine CR3.out.mono ?_); rintro e w4 ⟨rfl, _, hg4⟩; have B4 := Lib.hid (B3.out.trans (grown_bel hg4 B1.out.size B3.out.size)); clear hg4)))
        go_ret3
        exact ⟨rfl, B4.out⟩
      · obtain ⟨e9, rs, hns, he9⟩ : ∃ e9 rs, numS pay 0 k = (0, rs, e9) ∧ 0 < e9 := by
          unfold numS
          rw [hr]
          simp only
          by_cases h0 : f = 0
          · rw [if_pos h0, if_neg (fun h => hf ⟨h0, h⟩)]
            exact ⟨(failS pay 0 4).2, (failS pay 0 4).1, rfl, by rw [failS_ne _ (by omega)]; omega⟩
          · rw [if_neg h0]
            exact ⟨(failS pay 0 f).2, (failS pay 0 f).1, rfl, by rw [failS_ne _ (by omega)]; omega⟩
        rw [hns] at CN
        rw [if_neg (fun h => hf h.2)] at HS
        rw [HB.out, HS.out]
        have CE := Lib.hid (fun g2 W hi => in_err g2 rs e9 W hi)
        have hne : ((e9 : Int) != 0) = true := by rw [bne_iff_ne]; omega
        clear HB HS hr hns hf
        go_enter Try.func66, Try.ntmps66
        go_wp2_with (first
          | (go_at_call 17; ((with_reducible refine CR.out.mono ?_); rintro e w1 ⟨rfl, hb1⟩; have B1 := Lib.hid hb1; clear hb1))
          | (go_at_call 77; ((with_reducible refine (CO.out _).mono ?_); rintro e w2 ⟨rfl, hi2, hb2, hl2⟩; have B2 := Lib.hid (B1.out.trans (hb2.mono B1.out.size)); have CN2 := Lib.hid (CN.out _ _ hi2); clear hi2 hb2))
          | (go_at_call 78; ((with_reducible refine CN2.out.mono ?_); rintro e w3 ⟨rfl, hi3, hg3⟩; have B3 := Lib.hid (B2.out.trans (grown_bel hg3 B1.out.size B2.out.size)); have CE3 := Lib.hid (CE.out _ _ hi3); clear hi3 hg3))
          | (go_at_call 79; ((with_reducible refine CE3.out.mono ?_); rintro e w' ⟨rfl, rfl⟩)))
        go_ret3
        exact ⟨rfl, B3.out⟩
    · have hkb : ((kd : Int) != 3) = true := by rw [bne_iff_ne]; omega
      rw [if_neg (fun h => hk3 h.1)] at HS
      rw [HB.out, HS.out]
      have hnl := V.numS_le pay 0 k
      generalize numS pay 0 k = ns at *
      obtain ⟨nx, rs, e9⟩ := ns
      simp only at CN hnl
      clear HB HS hr hk3
      go_enter Try.func66, Try.ntmps66
      go_wp2_with (first
        | (go_at_call 17; ((with_reducible refine CR.out.mono ?_); rintro e w1 ⟨rfl, hb1⟩; have B1 := Lib.hid hb1; clear hb1))
        | (go_at_call 77; ((with_reducible refine (CO.out _).mono ?_); rintro e w2 ⟨rfl, hi2, hb2, hl2⟩; have B2 := Lib.hid (B1.out.trans (hb2.mono B1.out.size)); have CN2 := Lib.hid (CN.out _ _ hi2); clear hi2 hb2))
        | (go_at_call 78; ((with_reducible refine CN2.out.mono ?_); rintro e w3 ⟨rfl, hi3, hg3⟩; have B3 := Lib.hid (B2.out.trans (grown_bel hg3 B1.out.size B2.out.size)); clear hi3 hg3)))
      go_ret3
      exact ⟨rfl, B3.out⟩
  · have hb : blook l n = (-1, ⟨#[]⟩, 1) := dif_neg hin
    rw [pread_arg (by omega)] at cr
    dsimp only [pval] at cr
    have CR := Lib.hid cr
    rw [hb]
    clear cr h hc hb
    go_enter Try.func66, Try.ntmps66
    go_wp2_with (go_at_call 17; ((with_reducible refine CR.out.mono ?_); rintro e w1 ⟨rfl, hb1⟩))
    go_ret3
    exact ⟨rfl, hb1⟩
end Bb
end Go.Proofs.Ytgilmcmanomkiaa
