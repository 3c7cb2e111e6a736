/-
  The walk of the statement DiskPlays.
-/
import Derived.Test.YtojbanknbgihgaaPlayMath
namespace Go.Proofs.Ytojbanknbgihgaa
open Go.RowKit
namespace Dsk
open B

theorem cut260 (s : ByteArray) (w : World) : Calls Try.prog 10 #[.string s, .int .i64 260] w fun e w' => e = .returned (.string (cutB s 260)) ∧ w = w' := cut_any s 260 w (by omega)
theorem row4 {w : World} {g : Nat} {a b c d : Value} {t : TypeId} (h : w.heap[g]? = some (.cells #[a, b, c, d] t)) : w.cell? ⟨g, 0, none⟩ = some a ∧ w.cell? ⟨g, 1, none⟩ = some b ∧ w.cell? ⟨g, 2, none⟩ = some c ∧ w.cell? ⟨g, 3, none⟩ = some d := by
  unfold World.cell?; rw [h]; simp
theorem ply_step {B : Nat} {w0 w w1 w2 : World} {b : Bl} {g : Nat} {d d' : D} {cs : Array Value} (h : Ply B w b g d) (h0 : Below B w0 w) (hB : B ≤ w.heap.size) (hd : DAt w1 b d') (hi : Inv d') (ht : Tch b.l w w1) (hb : Below w1.heap.size w1 w2) (hx : Is (Apart b g) w2 (.agg cs) d')
    (l0 : -9223372036854775808 ≤ d'.halt) (l1 : d'.halt ≤ 9223372036854775807) :
    Ply B (w2.setRow g cs) b g d' ∧ Is (Apart b g) (w2.setRow g cs) (.agg cs) d' ∧ Below B w0 (w2.setRow g cs) ∧ (w2.setRow g cs).heap[g]? = some (.cells cs 29) ∧ (∀ k o, k ≠ g → w2.heap[k]? = some o → (w2.setRow g cs).heap[k]? = some o) := by
  obtain ⟨r1, r2, r3⟩ := h.step h0 hB hd hi ht hb hx l0 l1
  obtain ⟨cs0, x1, _⟩ := h.x
  exact ⟨r1, r2, r3, setRow_heap _ _ _ _ _ _ (blk_below ((ht.block g (blk_lt x1) h.gl).trans x1) hb (Nat.lt_of_lt_of_le (blk_lt x1) ht.size)), fun k o hk ho => (setRow_other _ _ _ _ hk).trans ho⟩
theorem new_low {W w w' : World} {b : Bl} (ht : Tch b.l w w') (hb : W.heap.size ≤ b.g ∧ W.heap.size ≤ b.bs ∧ W.heap.size ≤ b.bm) (hs : W.heap.size ≤ w.heap.size) : Below W.heap.size w w' := by
  refine ht.below (fun x hx => ?_) hs
  simp only [List.mem_cons, List.not_mem_nil, or_false] at hx
  rcases hx with rfl | rfl | rfl
  · exact hb.1
  · exact hb.2.1
  · exact hb.2.2
theorem ply_crashx {B : Nat} {w : World} {b : Bl} {g : Nat} {d : D} {A1 A2 A3 : Option Addr} {c1 c2 c3 : Nat} (h : Ply B w b g d) (ch : List Int) (cA : Option Addr) (cc : Nat) (W : World) (hx : Is (Apart b g) W (.agg #[.slice A1 d.now.length c1, .slice A2 d.sure.length c2, .slice A3 d.loose.length c3, .int .i64 d.writes, .int .i64 d.halt, .bool d.down]) d) (hs : w.heap.size ≤ W.heap.size) (h4 : At vInt W cA ch) (hl : ch.length ≤ 100000) :
    Calls Try.prog 16 #[.agg #[.slice A1 d.now.length c1, .slice A2 d.sure.length c2, .slice A3 d.loose.length c3, .int .i64 d.writes, .int .i64 d.halt, .bool d.down], .slice cA ch.length cc] W fun e w' => ∃ v, e = .returned v ∧ Is (Apart b g) w' v (crash d ch) ∧ Below W.heap.size W w' := by
  obtain ⟨B1, e1, B2, e2, B3, e3, hv, r1, r2, r3, m1, m2, m3, p1, p2, p3⟩ := hx
  injection hv with hv
  injection hv with hv
  injection hv with hv1 hv
  injection hv with hv2 hv
  injection hv with hv3 hv
  injection hv1 with a1 _ b1
  injection hv2 with a2 _ b2
  injection hv3 with a3 _ b3
  subst a1 a2 a3 b1 b2 b3
  have ok := h.ok
  have hi := h.my.inv
  exact refCrash_any (p := Apart b g) A1 A2 A3 cA d.now d.sure d.loose ch c1 c2 c3 cc d.writes d.halt d.down W ok.n1 hi.pos hi.len ok.n3 hl r1 r2 r3 h4 m1 hi.inr hi.full hi.fulls (h.far hs)
theorem six_one {A1 A2 A3 : Option Addr} {n1 n2 n3 c1 c2 c3 : Nat} {x y : Int} {z : Bool} : (#[.slice A1 n1 c1, .slice A2 n2 c2, .slice A3 n3 c3, .int .i64 x, .int .i64 y, .bool z] : Array Value).all (·.oneCell') = true := by simp [Value.oneCell']
theorem is_new {b : Bl} {w2 w3 : World} {v : Value} {d : D} (h : Is (fun n => w2.heap.size ≤ n) w3 v d) (hb : b.g < w2.heap.size ∧ b.bs < w2.heap.size ∧ b.bm < w2.heap.size) (hl : d.loose = []) : Is (Apart b w3.heap.size) w3 v d := by
  obtain ⟨A1, c1, A2, c2, A3, c3, e, h1, h2, h3, n1, n2, n3, p1, p2, p3⟩ := h
  refine ⟨A1, c1, A2, c2, A3, c3, e, h1, h2, h3, n1, n2, n3, fun hp a ha => ?_, fun hp a ha => ?_, fun hp => by rw [hl] at hp; cases hp⟩
  · obtain ⟨b', off, e', hlt, _⟩ := h1 hp
    have := p1 hp a ha
    rw [ha] at e'; injection e' with e'; subst e'
    refine ⟨?_, by simp only at hlt ⊢; omega⟩
    simp only [List.mem_cons, List.not_mem_nil, or_false] at this ⊢; omega
  · obtain ⟨b', off, e', hlt, _⟩ := h2 hp
    have := p2 hp a ha
    rw [ha] at e'; injection e' with e'; subst e'
    refine ⟨?_, by simp only at hlt ⊢; omega⟩
    simp only [List.mem_cons, List.not_mem_nil, or_false] at this ⊢; omega

set_option maxRecDepth 100000 in
set_option maxHeartbeats 8000000 in
theorem diskPlays_walk (n : Int) (A1 : Option Addr) (acts : List Act) (cap1 : Nat) (w : World) (h1 : ActsAt w A1 acts) (hl1 : acts.length ≤ maxLen) :
    Calls Try.prog 3 #[.int .i64 n, .slice A1 acts.length cap1] w fun e w' => e = .returned (.bool true) ∧ Below w.heap.size w w' := by
  have CA := Lib.hid (awake_any w)
  obtain ⟨m, hm⟩ : ∃ m : Nat, max 2 (min n 8) = (m : Int) := ⟨(max 2 (min n 8)).toNat, by omega⟩
  have hm2 : 2 ≤ m := by omega
  have hm6 : m ≤ 8 := by omega
  have CN := Lib.hid (fun W => new_my m (m : Int) W rfl hm2 (by omega))
  have CX := Lib.hid (fun W => refNew_any (p := fun n => W.heap.size ≤ n) m W (by omega) (fun n hn => hn))
  have HA1 := Lib.hid h1
  have hla : acts.length ≤ 9223372036854775807 := by unfold maxLen at hl1; omega
  clear h1 hl1
  go_enter Try.func3, Try.ntmps3
  go_wp2_with (first
    | (go_at_call 7; ((with_reducible refine CA.out.mono ?_); rintro e w1 ⟨rfl, hb1⟩; have hs1 := hb1.size; have B1 := Lib.hid hb1; clear hb1))
    | (go_at_call 8; ((with_reducible refine (CN.out _).mono ?_); rintro e w2 ⟨b, rfl, hm2, hb2⟩; have hs2 := hb2.size; have M2 := Lib.hid hm2; have B2 := Lib.hid hb2; clear hm2 hb2))
    | (go_at_call 9; ((with_reducible refine (CX.out _).mono ?_); rintro e w3 ⟨v, rfl, hx3, hb3⟩; have X3 := Lib.hid hx3; have B3 := Lib.hid hb3; have hs3 := hb3.size; obtain ⟨cA1, cc1, cA2, cc2, cA3, cc3, hv, _⟩ := hx3; subst hv; clear hb3)))
  have hlts := M2.out.at'.lts
  have PL : Hid (Ply w.heap.size (w3.alloc (.cells #[.slice cA1 (new m).now.length cc1, .slice cA2 (new m).sure.length cc2, .slice cA3 (new m).loose.length cc3, .int .i64 (new m).writes, .int .i64 (new m).halt, .bool (new m).down] 29)) b w3.heap.size (new m)) := by
    have bA := (Below.refl w3.heap.size w3).alloc (Nat.le_refl _) (.cells #[.slice cA1 (new m).now.length cc1, .slice cA2 (new m).sure.length cc2, .slice cA3 (new m).loose.length cc3, .int .i64 (new m).writes, .int .i64 (new m).halt, .bool (new m).down] 29)
    refine ⟨((M2.out.lower hs1).below B3.out).below bA, ⟨_, heap_last _ _ _ rfl, (is_new X3.out hlts rfl).below bA⟩, ?_, by omega, by show (-9223372036854775808 : Int) ≤ -1; omega, by show (-1 : Int) ≤ _; omega⟩
    simp only [List.mem_cons, List.not_mem_nil, or_false]; omega
  have BB := Lib.hid (((B1.out.trans (B2.out.mono hs1)).trans (B3.out.mono (by omega))).alloc (show w.heap.size ≤ w3.heap.size by omega) (.cells #[.slice cA1 (new m).now.length cc1, .slice cA2 (new m).sure.length cc2, .slice cA3 (new m).loose.length cc3, .int .i64 (new m).writes, .int .i64 (new m).halt, .bool (new m).down] 29))
  have hnw : (new m).writes = 0 := rfl
  clear CA CN CX B1 B2 B3 M2 X3 hlts
  generalize w3.heap.size = g at *
  go_loopw [7] (fun t7 wr => ∃ (k : Nat) (d : D), k ≤ acts.length ∧ k ≤ 60 ∧ t7 = .int .i64 (k : Int) ∧ Ply w.heap.size wr b g d ∧ d.writes ≤ k ∧ Below w.heap.size w wr) (fun t7 _ => acts.length - (intOf t7).toNat)
  case atStart => exact ⟨0, new m, Nat.zero_le _, Nat.zero_le _, rfl, PL.out, by omega, BB.out⟩
  case round =>
    obtain ⟨k, d, hk, hk2, rfl, hpl, hwr, hbel⟩ := hrel
    clear PL BB hnw
    have hs := hbel.size
    by_cases hlt : k < acts.length
    · by_cases hlt2 : k < 60
      · obtain ⟨ab, off, hAe, hab, c0, c1, c2, c3, c4, c5, c6, c7⟩ := (HA1.out.below hbel) k hlt
        have h40 := (HA1.out k hlt).elim fun _ h => h.elim fun _ h => h.2.2.2.2.2.2.1
        subst hAe
        generalize acts[k] = a at *
        obtain ⟨kd, ai, sa, ch, cA, cc⟩ := a
        simp only at c0 c1 c2 c3 c4 c5 c6 c7 h40
        have hkI : (k : Int) < (acts.length : Int) := by omega
        have hkI2 : (k : Int) < 60 := by omega
        have bA := (Below.refl wr.heap.size wr).alloc (Nat.le_refl _) (.cells #[.int .i64 kd, .int .i64 ai, .string sa, .slice cA ch.length cc] 32)
        have PW := Lib.hid (hpl.below bA)
        have KA := Lib.hid (heap_last wr (.cells #[.int .i64 kd, .int .i64 ai, .string sa, .slice cA ch.length cc] 32) wr.heap.size rfl)
        have BW := Lib.hid (hbel.alloc hs (.cells #[.int .i64 kd, .int .i64 ai, .string sa, .slice cA ch.length cc] 32))
        have H4 := Lib.hid (c4.below bA)
        have H40 := Lib.hid h40
        have hga : ∀ W : World, W = wr → wr.heap.size ∉ b.l ∧ wr.heap.size ≠ g := fun W _ => by
          obtain ⟨l1, l2, l3⟩ := hpl.my.at'.lts
          obtain ⟨cs, x1, _⟩ := hpl.x
          have := blk_lt x1
          refine ⟨?_, by omega⟩
          simp only [List.mem_cons, List.not_mem_nil, or_false]; omega
        obtain ⟨ha, hag⟩ := hga wr rfl
        have hsW : w.heap.size ≤ (wr.alloc (.cells #[.int .i64 kd, .int .i64 ai, .string sa, .slice cA ch.length cc] 32)).heap.size := by simp; omega
        clear hpl hbel c4 h40 bA hga
        go_upto_region 11 with fail
        generalize wr.alloc (.cells #[.int .i64 kd, .int .i64 ai, .string sa, .slice cA ch.length cc] 32) = W at *
        generalize wr.heap.size = ga at *
        obtain ⟨cs, x1, x2⟩ := PW.out.x
        have x2' := x2
        obtain ⟨xA1, xc1, xA2, xc2, xA3, xc3, hv, xr⟩ := x2'
        injection hv with hv
        subst hv
        have K := Lib.hid x1
        have X := Lib.hid x2
        have XR := Lib.hid xr
        obtain ⟨k00, k01, k02, k03, k04, k05, _⟩ := row6 x1
        obtain ⟨z0, z1, z2, z3⟩ := row4 KA.out
        have hw0 : d.writes < 1000000 := by omega
        clear x1 x2 xr c0 c1 c2 c3
        by_cases e1 : kd = 1
        · subst e1
          have ST : Hid (Ply w.heap.size W b g d ∧ True ∧ Below w.heap.size w W ∧ True) := ⟨PW.out, trivial, BW.out, trivial⟩
          have CI := Lib.hid (PW.out.is X.out ai)
          go_wp2_with (first
            | (go_at_call 10; ((with_reducible refine (cut260 sa _).mono ?_); rintro e w' ⟨rfl, rfl⟩))
            | (go_at_call 18; ((with_reducible refine CI.out.mono ?_); rintro e w9 ⟨rfl, hb9⟩; have PF := Lib.hid (ST.out.1.below hb9); have BF := Lib.hid (ST.out.2.2.1.trans (hb9.mono ST.out.2.2.1.size)); clear hb9)))
          go_roundw
          case rel => exact ⟨k + 1, d, by omega, by omega, by go_num, PF.out, by omega, BF.out⟩
          case measure => simp [intOf]; omega
        · have b1' : (kd == 1) = false := by simpa using e1
          by_cases e2 : kd = 2
          · subst e2
            have CF := Lib.hid (flush_any b d W PW.out.my.at' PW.out.my.inv)
            have HI1 := Lib.hid (flush_inv PW.out.my.inv hw0)
            have HL := Lib.hid (flush_halts d PW.out.h0 PW.out.h1)
            have hfw := flush_writes d
            clear e1
            go_wp2_with (first
              | (go_at_call 10; ((with_reducible refine (cut260 sa _).mono ?_); rintro e w' ⟨rfl, rfl⟩))
              | (go_at_call 11; ((with_reducible refine CF.out.mono ?_); rintro e w1 ⟨rfl, hd1, ht1⟩; have D1 := Lib.hid hd1; have T1 := Lib.hid ht1; have hsz1 := ht1.size; have G1 := Lib.hid ((ht1.block g (blk_lt K.out) PW.out.gl).trans K.out); have A1 := Lib.hid ((ht1.block ga (blk_lt KA.out) ha).trans KA.out); obtain ⟨z0, z1, z2, z3⟩ := row4 A1.out; obtain ⟨k00, k01, k02, k03, k04, k05, _⟩ := row6 G1.out; have CX := Lib.hid (refFlush_any d _ w1 (X.out.tch ht1 (fun n hn => hn.1)) PW.out.ok (PW.out.far hsz1)); clear hd1 ht1))
              | (go_at_call 12; ((with_reducible refine CX.out.mono ?_); rintro e w2 ⟨v, rfl, hx2, hb2⟩; have hx2' := hx2; obtain ⟨yA1, yc1, yA2, yc2, yA3, yc3, hv, _⟩ := hx2'; subst hv; have ST := Lib.hid (ply_step PW.out BW.out hsW D1.out HI1.out T1.out hb2 hx2 HL.out.1 HL.out.2); have G2 := Lib.hid (blk_below G1.out hb2 (blk_lt G1.out)); have CI := Lib.hid (ST.out.1.is ST.out.2.1 ai); obtain ⟨y0, y1, y2, y3⟩ := row4 (ST.out.2.2.2.2 ga _ hag (blk_below A1.out hb2 (blk_lt A1.out))); obtain ⟨q00, q01, q02, q03, q04, q05, _⟩ := row6 ST.out.2.2.2.1; clear hx2 hb2))
              | (refine wpList_store_row rfl 29 _ _ rfl g _ rfl rfl 29 _ G2.out xinfo rfl six_one ?_)
              | (go_at_call 18; ((with_reducible refine CI.out.mono ?_); rintro e w9 ⟨rfl, hb9⟩; have PF := Lib.hid (ST.out.1.below hb9); have BF := Lib.hid (ST.out.2.2.1.trans (hb9.mono ST.out.2.2.1.size)); clear hb9)))
            go_roundw
            case rel => exact ⟨k + 1, _, by omega, by omega, by go_num, PF.out, by omega, BF.out⟩
            case measure => simp [intOf]; omega
          · have b2' : (kd == 2) = false := by simpa using e2
            by_cases e3 : kd = 3
            · subst e3
              obtain ⟨hn, hne⟩ : ∃ hn, max ai (-1) = hn := ⟨_, rfl⟩
              have CF := Lib.hid (halt_any b d hn ai W PW.out.my.at' (by omega) c6 c7)
              have hn0 : -9223372036854775808 ≤ hn := by omega
              have hn1 : hn ≤ 9223372036854775807 := by omega
              clear e1 e2
              go_wp2_with (first
                | (go_at_call 10; ((with_reducible refine (cut260 sa _).mono ?_); rintro e w' ⟨rfl, rfl⟩))
                | (go_at_call 13; ((with_reducible refine CF.out.mono ?_); rintro e w1 ⟨rfl, hd1, ht0⟩; have ht1 := ht0.mono (bl_g b); have G1 := Lib.hid ((ht1.block g (blk_lt K.out) PW.out.gl).trans K.out); have A1 := Lib.hid ((ht1.block ga (blk_lt KA.out) ha).trans KA.out); obtain ⟨z0, z1, z2, z3⟩ := row4 A1.out; obtain ⟨k00, k01, k02, k03, k04, k05, f00, f01, f02, f03, f04, f05⟩ := row6 G1.out; have ST := Lib.hid (PW.out.haltd BW.out hsW hd1 ht1 G1.out (X.out.tch ht1 (fun n hn => hn.1)) hn0 hn1); have CI := Lib.hid (ST.out.1.is ST.out.2.1 ai); obtain ⟨y0, y1, y2, y3⟩ := row4 (blk_other (i := 4) A1.out hag (.int .i64 hn)); obtain ⟨q00, q01, q02, q03, q04, q05, _⟩ := row6 ST.out.2.2.2; clear hd1 ht0 ht1))
                | (go_at_call 18; ((with_reducible refine CI.out.mono ?_); rintro e w9 ⟨rfl, hb9⟩; have PF := Lib.hid (ST.out.1.below hb9); have BF := Lib.hid (ST.out.2.2.1.trans (hb9.mono ST.out.2.2.1.size)); clear hb9)))
              go_roundw
              case rel => exact ⟨k + 1, halt d hn, by omega, by omega, by go_num, PF.out, by show d.writes ≤ _; omega, BF.out⟩
              case measure => simp [intOf]; omega
            · have b3' : (kd == 3) = false := by simpa using e3
              by_cases e4 : kd = 4
              · subst e4
                have CFw := Lib.hid (fun W' (h : At vInt W' cA ch) => few_any cA ch cc W' h c5)
                have CF := Lib.hid (crash_any b d cA (few ch) cc W PW.out.my.at' PW.out.my.inv (at_few H4.out) (by have := few_len ch; omega) (PW.out.my.apart (at_few H40.out)))
                have HI1 := Lib.hid (crash_inv PW.out.my.inv (few ch))
                have HAP := Lib.hid (PW.out.my.apart H40.out)
                clear e1 e2 e3
                go_wp2_with (first
                  | (go_at_call 10; ((with_reducible refine (cut260 sa _).mono ?_); rintro e w' ⟨rfl, rfl⟩))
                  | (go_at_call 15; ((with_reducible refine (CFw.out _ H4.out).mono ?_); rintro e w' ⟨rfl, rfl⟩))
                  | (go_at_call 14; ((with_reducible refine CF.out.mono ?_); rintro e w1 ⟨rfl, hd1, ht1⟩; have D1 := Lib.hid hd1; have T1 := Lib.hid ht1; have hsz1 := ht1.size; have G1 := Lib.hid ((ht1.block g (blk_lt K.out) PW.out.gl).trans K.out); have A1 := Lib.hid ((ht1.block ga (blk_lt KA.out) ha).trans KA.out); clear hd1 ht1)))
                have T2 : Hid (Tch b.l W w1.drew) := T1.out.drewN 1
                have D2 : Hid (DAt w1.drew b (crash d (few ch))) := D1.out.kept rfl rfl rfl
                have G2 : Hid (w1.drew.heap[g]? = some (.cells #[.slice xA1 d.now.length xc1, .slice xA2 d.sure.length xc2, .slice xA3 d.loose.length xc3, .int .i64 d.writes, .int .i64 d.halt, .bool d.down] 29)) := G1.out
                have A2 : Hid (w1.drew.heap[ga]? = some (.cells #[.int .i64 4, .int .i64 ai, .string sa, .slice cA ch.length cc] 32)) := A1.out
                have H4' := Lib.hid (at_tch H4.out T2.out HAP.out)
                have CFe := Lib.hid (CFw.out w1.drew H4'.out)
                obtain ⟨z0, z1, z2, z3⟩ := row4 A2.out
                obtain ⟨k00, k01, k02, k03, k04, k05, _⟩ := row6 G2.out
                have CX := Lib.hid (ply_crashx PW.out (few ch) cA cc w1.drew (X.out.tch T2.out (fun n hn => hn.1)) T2.out.size (at_few H4'.out) (by have := few_len ch; omega))
                refine wp_region_still_tail 4 (by kernel_rfl) (by kernel_rfl) ?_
                change wpStill Try.prog _ w1.drew (fun a' => wpList Try.prog _ _ _ a' w1.drew) _ _
                simp only [List.take_succ_cons, List.take_zero, List.drop_succ_cons, List.drop_zero]
                repeat (first | still_step | still_call (CFe.out.mono fun e w' ⟨h1, h2⟩ => ⟨h1, h2.symm⟩))
                refine wpStill_nil ?_
                clear D1 T1 G1 A1 hsz1
                generalize few ch = fc at *
                generalize w1.drew = wd at *
                go_wp2_with (first
                  | (go_at_call 16; ((with_reducible refine CX.out.mono ?_); rintro e w2 ⟨v, rfl, hx2, hb2⟩; have hx2' := hx2; obtain ⟨yA1, yc1, yA2, yc2, yA3, yc3, hv, _⟩ := hx2'; subst hv; have ST := Lib.hid (ply_step PW.out BW.out hsW D2.out HI1.out T2.out hb2 hx2 (by show (-9223372036854775808 : Int) ≤ -1; omega) (by show (-1 : Int) ≤ _; omega)); have G3 := Lib.hid (blk_below G2.out hb2 (blk_lt G2.out)); have CI := Lib.hid (ST.out.1.is ST.out.2.1 ai); obtain ⟨y0, y1, y2, y3⟩ := row4 (ST.out.2.2.2.2 ga _ hag (blk_below A2.out hb2 (blk_lt A2.out))); obtain ⟨q00, q01, q02, q03, q04, q05, _⟩ := row6 ST.out.2.2.2.1; clear hx2 hb2))
                  | (refine wpList_store_row rfl 29 _ _ rfl g _ rfl rfl 29 _ G3.out xinfo rfl six_one ?_)
                  | (go_at_call 18; ((with_reducible refine CI.out.mono ?_); rintro e w9 ⟨rfl, hb9⟩; have PF := Lib.hid (ST.out.1.below hb9); have BF := Lib.hid (ST.out.2.2.1.trans (hb9.mono ST.out.2.2.1.size)); clear hb9)))
                go_roundw
                case rel => exact ⟨k + 1, _, by omega, by omega, by go_num, PF.out, by show d.writes ≤ _; omega, BF.out⟩
                case measure => simp [intOf]; omega
              · have b4' : (kd == 4) = false := by simpa using e4
                by_cases e5 : kd = 5
                · subst e5
                  have CCl := Lib.hid (clone_any b d W PW.out.my.at' PW.out.my.inv)
                  have hw1 := write_writes d 0 (cutB sa 260)
                  have HI1 := Lib.hid (write_inv PW.out.my.inv hw0 0 (cutB sa 260))
                  have HI2 := Lib.hid (flush_inv HI1.out (by omega))
                  have HI0 := Lib.hid PW.out.my.inv
                  clear e1 e2 e3 e4
                  go_wp2_with (first
                    | (go_at_call 10; ((with_reducible refine (cut260 sa _).mono ?_); rintro e w' ⟨rfl, rfl⟩))
                    | (go_at_call 17; ((with_reducible refine CCl.out.mono ?_); rintro e w1 ⟨b5, rfl, hd1, hg1, hb1⟩; have D1 := Lib.hid hd1; have B1 := Lib.hid hb1; have hsz1 := hb1.size; have G1 := Lib.hid hg1; obtain ⟨z0, z1, z2, z3⟩ := row4 (blk_below KA.out hb1 (blk_lt KA.out)); obtain ⟨k00, k01, k02, k03, k04, k05, _⟩ := row6 (blk_below K.out hb1 (blk_lt K.out)); have C5 := Lib.hid (is_any b5 d _ ai w1 hd1 HI0.out (X.out.below hb1)); clear hd1 hb1 hg1))
                    | (go_at_call 18; ((with_reducible refine C5.out.mono ?_); rintro e w2 ⟨rfl, hb2⟩; have D2 := Lib.hid (D1.out.below hb2); have B2 := Lib.hid (B1.out.trans (hb2.mono hsz1)); have CW := Lib.hid (write_any b5 d 0 (cutB sa 260) w2 D2.out HI0.out hw0); clear hb2))
                    | (go_at_call 19; ((with_reducible refine CW.out.mono ?_); rintro e w3 ⟨rfl, hd3, ht3⟩; have B3 := Lib.hid (B2.out.trans (new_low ht3 G1.out B2.out.size)); have CFl := Lib.hid (flush_any b5 _ w3 hd3 HI1.out); clear hd3 ht3))
                    | (go_at_call 11; ((with_reducible refine CFl.out.mono ?_); rintro e w4 ⟨rfl, hd4, ht4⟩; have B4 := Lib.hid (B3.out.trans (new_low ht4 G1.out B3.out.size)); have CC := Lib.hid (crash0 b5 _ w4 hd4 HI2.out); clear hd4 ht4))
                    | (go_at_call 14; ((with_reducible refine CC.out.mono ?_); rintro e w5 ⟨rfl, hd5, ht5⟩; have B5 := Lib.hid (B4.out.trans (new_low ht5 G1.out B4.out.size)); have ST : Hid (Ply w.heap.size w5 b g d ∧ True ∧ Below w.heap.size w w5 ∧ True) := ⟨PW.out.below B5.out, trivial, BW.out.trans (B5.out.mono hsW), trivial⟩; have CI := Lib.hid (ST.out.1.is (X.out.below B5.out) ai); obtain ⟨y0, y1, y2, y3⟩ := row4 (blk_below KA.out B5.out (blk_lt KA.out)); obtain ⟨q00, q01, q02, q03, q04, q05, _⟩ := row6 (blk_below K.out B5.out (blk_lt K.out)); clear hd5 ht5))
                    | (go_at_call 18; ((with_reducible refine CI.out.mono ?_); rintro e w9 ⟨rfl, hb9⟩; have PF := Lib.hid (ST.out.1.below hb9); have BF := Lib.hid (ST.out.2.2.1.trans (hb9.mono ST.out.2.2.1.size)); clear hb9)))
                  go_roundw
                  case rel => exact ⟨k + 1, d, by omega, by omega, by go_num, PF.out, by omega, BF.out⟩
                  case measure => simp [intOf]; omega
                · have b5' : (kd == 5) = false := by simpa using e5
                  have CF := Lib.hid (write_any b d ai (cutB sa 260) W PW.out.my.at' PW.out.my.inv hw0)
                  have HI1 := Lib.hid (write_inv PW.out.my.inv hw0 ai (cutB sa 260))
                  have HL := Lib.hid (write_halts d ai (cutB sa 260) PW.out.h0 PW.out.h1)
                  have hfw := write_writes d ai (cutB sa 260)
                  clear e1 e2 e3 e4 e5
                  go_wp2_with (first
                    | (go_at_call 10; ((with_reducible refine (cut260 sa _).mono ?_); rintro e w' ⟨rfl, rfl⟩))
                    | (go_at_call 19; ((with_reducible refine CF.out.mono ?_); rintro e w1 ⟨rfl, hd1, ht1⟩; have D1 := Lib.hid hd1; have T1 := Lib.hid ht1; have hsz1 := ht1.size; have G1 := Lib.hid ((ht1.block g (blk_lt K.out) PW.out.gl).trans K.out); have A1 := Lib.hid ((ht1.block ga (blk_lt KA.out) ha).trans KA.out); obtain ⟨z0, z1, z2, z3⟩ := row4 A1.out; obtain ⟨k00, k01, k02, k03, k04, k05, _⟩ := row6 G1.out; have CX := Lib.hid (refWrite_any d _ ai (cutB sa 260) w1 (X.out.tch ht1 (fun n hn => hn.1)) PW.out.ok (PW.out.far hsz1)); clear hd1 ht1))
                    | (go_at_call 20; ((with_reducible refine CX.out.mono ?_); rintro e w2 ⟨v, rfl, hx2, hb2⟩; have hx2' := hx2; obtain ⟨yA1, yc1, yA2, yc2, yA3, yc3, hv, _⟩ := hx2'; subst hv; have ST := Lib.hid (ply_step PW.out BW.out hsW D1.out HI1.out T1.out hb2 hx2 HL.out.1 HL.out.2); have G2 := Lib.hid (blk_below G1.out hb2 (blk_lt G1.out)); have CI := Lib.hid (ST.out.1.is ST.out.2.1 ai); obtain ⟨y0, y1, y2, y3⟩ := row4 (ST.out.2.2.2.2 ga _ hag (blk_below A1.out hb2 (blk_lt A1.out))); obtain ⟨q00, q01, q02, q03, q04, q05, _⟩ := row6 ST.out.2.2.2.1; clear hx2 hb2))
                    | (refine wpList_store_row rfl 29 _ _ rfl g _ rfl rfl 29 _ G2.out xinfo rfl six_one ?_)
                    | (go_at_call 18; ((with_reducible refine CI.out.mono ?_); rintro e w9 ⟨rfl, hb9⟩; have PF := Lib.hid (ST.out.1.below hb9); have BF := Lib.hid (ST.out.2.2.1.trans (hb9.mono ST.out.2.2.1.size)); clear hb9)))
                  go_roundw
                  case rel => exact ⟨k + 1, _, by omega, by omega, by go_num, PF.out, by omega, BF.out⟩
                  case measure => simp [intOf]; omega
      · have hkI : (k : Int) < (acts.length : Int) := by omega
        have hkI2 : ¬ (k : Int) < 60 := by omega
        have BB := Lib.hid hbel
        clear hpl hbel
        go_wp2
        go_ret
        exact ⟨rfl, BB.out⟩
    · have hkI : ¬ (k : Int) < (acts.length : Int) := by omega
      have BB := Lib.hid hbel
      clear hpl hbel
      go_wp2
      go_ret
      exact ⟨rfl, BB.out⟩
end Dsk
end Go.Proofs.Ytojbanknbgihgaa
