/-
  The walk of the statement PagesPlays.
-/
import Derived.Test.YtjikioiejdfodaaPagesPl2
import Derived.Test.YtjikioiejdfodaaOver
namespace Go.Proofs.Ytjikioiejdfodaa
open Go.RowKit
namespace Pp
open B Dsk
set_option linter.unusedVariables false
theorem up_low {w : World} (x : Ov.Up w) : Below w.heap.size w x.w := x.h
theorem bdr (W : World) (n : Nat) : Below W.heap.size W (W.drewN n) := ⟨rfl, rfl, rfl, Nat.le_refl _, fun _ _ => rfl⟩
theorem row2f {w : World} {g : Nat} {a b : Value} {t : TypeId} (h : w.heap[g]? = some (.cells #[a, b] t)) : (w.cell? ⟨g, 0, none⟩ = some a ∧ w.cell? ⟨g, 1, none⟩ = some b) ∧ w.frozen? ⟨g, 0, none⟩ = false ∧ w.frozen? ⟨g, 1, none⟩ = false := by
  unfold World.cell? World.frozen?
  rw [h]; simp
theorem at_tch {w w' : World} {A : Option Addr} {l : List Int} {bl : List Nat} (h : At vInt w A l) (ht : Tch bl w w') (hn : 0 < l.length → ∀ a, A = some a → a.block ∉ bl) : At vInt w' A l := fun hp => by
  obtain ⟨b, off, e, h1, h2⟩ := h hp
  have hb := ht.block b h1 (hn hp _ e)
  exact ⟨b, off, e, Nat.lt_of_lt_of_le h1 ht.size, fun i hi => (cells_same hb (off + i)).trans (h2 i hi)⟩
set_option maxRecDepth 100000 in
set_option maxHeartbeats 16000000 in
theorem pagesPlays_walk (size : Int) (A1 : Option Addr) (acts : List Ac) (cc : Nat) (w : World) (hA : AcIn w A1 acts) (hl : acts.length ≤ maxLen) :
    Calls Try.prog 3 #[.int .i64 size, .slice A1 acts.length cc] w fun e w' => e = .returned (.bool true) ∧ Below w.heap.size w w' := by
  have CA := Lib.hid (Pg.awake_any w)
  obtain ⟨n, hn⟩ : ∃ n : Nat, max 2 (min size 20) = (n : Int) := ⟨(max 2 (min size 20)).toNat, by omega⟩
  have hn2 : 2 ≤ n := by omega
  have hn20 : n ≤ 20 := by omega
  have CNw := Lib.hid (fun W => new_my n (n : Int) W rfl hn2 (by omega))
  have hrm : Pg.room (new n) = (n - 2) / 2 := Pg.room_new n
  have hup := Pg.new_up n
  have hsz := Pg.new_sz hn2 (show n ≤ 65536 by omega)
  have hlen : (new n).now.length = n := Pg.new_len n
  have CSz := Lib.hid (fun W b (q : My w.heap.size W b (new n)) => size_any b (new n) W q.at')
  have COp := Lib.hid (fun W b (q : My w.heap.size W b (new n)) (hB : w.heap.size ≤ W.heap.size) => Pg.open_my b (new n) 0 0 W q hsz ⟨.inl rfl, by omega, by omega⟩ hB)
  have CRm := Lib.hid (fun W b (q : My w.heap.size W b (new n)) => Pg.room_any b (new n) W q.at' (by rw [hlen]; exact hn2) (by rw [hlen]; omega))
  rw [hlen] at CSz
  have HAc := Lib.hid hA
  clear hA
  go_enter Try.func3, Try.ntmps3
  go_upto_region 7 with (first
    | (go_at_call 9; ((with_reducible refine CA.out.mono ?_); rintro e w1 ⟨rfl, hb1⟩; have B1 := Lib.hid hb1; clear hb1))
    | (go_at_call 10; ((with_reducible refine (CNw.out _).mono ?_); rintro e w2 ⟨b, rfl, hmy, hb2⟩; have B2 := Lib.hid (B1.out.trans (hb2.mono B1.out.size)); have M2 := Lib.hid (show My w.heap.size w2 b (new n) from ⟨hmy.at', hmy.inv, Nat.le_trans B1.out.size hmy.g, Nat.le_trans B1.out.size hmy.bs, Nat.le_trans B1.out.size hmy.bm⟩); clear hmy hb2))
    | (go_at_call 11; ((with_reducible refine (CSz.out _ _ M2.out).mono ?_); rintro e w' ⟨rfl, rfl⟩)))
  obtain ⟨R, hR⟩ : ∃ R : Nat, (n - 2) / 2 = R := ⟨_, rfl⟩
  have hRI : ((n : Int) - 2) / 2 = (R : Int) := by omega
  rw [hRI]
  rw [hR] at hrm
  have hR9 : R ≤ 9 := by omega
  clear hRI
  rw [hrm] at CRm
  have LO : Hid (∀ x ∈ b.l, x < w2.heap.size) := fun x hx => by
    obtain ⟨l1, l2, l3⟩ := M2.out.at'.lts
    simp only [List.mem_cons, List.not_mem_nil, or_false] at hx
    rcases hx with rfl | rfl | rfl <;> assumption
  go_upto_region 10 with (first
    | (go_at_call 12; ((with_reducible refine (COp.out _ _ M2.out B2.out.size).mono ?_); rintro e w3 ⟨g, rfl, hpm, hb3⟩; have P3 := Lib.hid hpm; have B3 := Lib.hid (B2.out.trans (hb3.mono B2.out.size)); have LS := Lib.hid hb3.size; clear hpm hb3))
    | (go_at_call 13; ((with_reducible refine (CRm.out _ _ P3.out.my).mono ?_); rintro e w' ⟨rfl, rfl⟩)))
  have bX := Nod.below1 w3 (.cells #[.slice none 0 0, .slice none 0 0] 33)
  have L0 : Hid (PL w2.heap.size R 0 w (w3.alloc (.cells #[.slice none 0 0, .slice none 0 0] 33)) b (new n) g w3.heap.size 0 [] [] none none 0 0) :=
    ⟨P3.out.below bX, hup, Pg.Con.nil _ _, Pg.Con.nil _ _, hrm, LO.out, LS.out, heap_last _ _ _ rfl, RW.nil _ _, RW.nil _ _, by simp [new], B3.out.trans (bX.mono B3.out.size), Nat.le_trans LS.out bX.size⟩
  clear bX P3 B3 LO LS
  go_upto_region 11 with fail
  generalize w3.alloc (.cells #[.slice none 0 0, .slice none 0 0] 33) = W4 at *
  generalize w3.heap.size = gh at *
  generalize new n = d0 at *
  generalize w2.heap.size = S at *
  clear CA CNw CSz COp CRm hrm hup hsz hlen M2 B2 B1
  go_wp2
  go_loopw [7, 8, 10, 11] (fun t7 t8 t10 t11 wr => ∃ (i : Nat) (d : D) (g : Nat) (h : Int) (l0 l1 : List Pg.Pag) (H0 H1 : Option Addr) (k0 k1 : Nat), i ≤ 60 ∧ t11 = .int .i64 (i : Int) ∧ t7 = .pointer (some ⟨g, 0, none⟩) ∧ t10 = .int .i64 h ∧ (h = 0 ∨ h = 1) ∧ PL S R i w wr b d g gh h l0 l1 H0 H1 k0 k1) (fun _ _ _ t11 _ => 60 - (intOf t11).toNat)
  case atStart => exact ⟨0, d0, g, 0, [], [], none, none, 0, 0, by omega, rfl, rfl, rfl, .inl rfl, L0.out⟩
  case round =>
    obtain ⟨i, d, g, h, l0, l1, H0, H1, k0, k1, hi, rfl, rfl, rfl, hh, hpl⟩ := hrel
    clear L0
    by_cases hlt : i < acts.length ∧ i < 60
    · obtain ⟨hlt, h60⟩ := hlt
      have hI1 : (i : Int) < (acts.length : Int) := by omega
      have hI2 : (i : Int) < 60 := by omega
      have hq : 0 < acts[i].ch.length → ∀ a, acts[i].A = some a → a.block < w.heap.size := by
        obtain ⟨_, _, _, _, _, _, _, _, _, q, _⟩ := HAc.out i hlt
        intro hp a ha
        obtain ⟨b', off, e', hl', _⟩ := q hp
        rw [ha] at e'
        injection e' with e'
        rw [e']; exact hl'
      obtain ⟨ba, offa, hA', hba, a0, a1, a2, a3, a4, haat, hac, hn0, hn1⟩ := (HAc.out.below hpl.bl) i hlt
      subst hA'
      generalize acts[i] = ac at *
      obtain ⟨kd, kk, nn, ss, ch, cA, cC⟩ := ac
      simp only at a0 a1 a2 a3 a4 haat hac hn0 hn1
      have HQ : Hid (0 < ch.length → ∀ a, cA = some a → a.block < w.heap.size) := hq
      go_upto_region 16 with fail
      have bX := Nod.below1 wr (.cells #[.int .i64 kd, .int .i64 kk, .int .i64 nn, .string ss, .slice cA ch.length cC] 36)
      have P5 := Lib.hid (hpl.below bX)
      have LGA := Lib.hid hpl.sz
      have A5 := Lib.hid (heap_last wr (.cells #[.int .i64 kd, .int .i64 kk, .int .i64 nn, .string ss, .slice cA ch.length cC] 36) _ rfl)
      have HT := Lib.hid (haat.below bX)
      have CC := Lib.hid (show ∀ s W, Calls Try.prog 14 #[.string s, .int .i64 242] W (fun e w' => e = .returned (.string (cutB s 242)) ∧ W = w') from fun s W => cut_any s 242 W (by omega))
      have hcs := cutB_size ss 242
      clear hpl bX haat a0 a1 a2 a3 a4 HAc
      generalize wr.alloc (.cells #[.int .i64 kd, .int .i64 kk, .int .i64 nn, .string ss, .slice cA ch.length cC] 36) = W5 at *
      generalize wr.heap.size = ga at *
      obtain ⟨⟨v0, v1, v2, v3, v4⟩, _⟩ := row5 A5.out
      go_upto_block 2 with (go_at_call 14; ((with_reducible refine (CC.out _ _).mono ?_); rintro e w' ⟨rfl, rfl⟩))
      generalize cutB ss 242 = cs at *
      go_cut [7, 10] (fun t7 t10 wc => ∃ (d : D) (g : Nat) (h : Int) (l0 l1 : List Pg.Pag) (H0 H1 : Option Addr) (k0 k1 : Nat), t7 = .pointer (some ⟨g, 0, none⟩) ∧ t10 = .int .i64 h ∧ (h = 0 ∨ h = 1) ∧ PL S R (i + 1) w wc b d g gh h l0 l1 H0 H1 k0 k1)
      case first =>
        have GA : S ≤ ga := LGA.out
        rcases hh with rfl | rfl
        · obtain ⟨⟨y0, y1⟩, f0, f1⟩ := row2f P5.out.hg
          by_cases e1 : kd = 1
          · subst e1
            as_aux_lemma =>
              have CR := Lib.hid (Pg.pread_my b d g 0 (l0.length : Int) nn W5 P5.out.next0)
              clear v0 v1 v2 v3 v4 y0 y1 f0 f1
              obtain ⟨⟨v0, v1, v2, v3, v4⟩, _⟩ := row5 A5.out
              by_cases q1 : nn < 0
              · rw [Pg.pread_arg (.inl q1)] at CR
                unfold Pg.pval at CR
                go_upto_region 25 with (go_at_call 15; ((with_reducible refine CR.out.mono ?_); rintro e w6 ⟨rfl, hb6⟩; have P6 := Lib.hid (P5.out.below hb6); obtain ⟨⟨v0, v1, v2, v3, v4⟩, _⟩ := row5 (blk_below A5.out hb6 (blk_lt A5.out)); obtain ⟨⟨y0, y1⟩, _⟩ := row2f P6.out.hg; clear hb6))
                go_quiet (fail)
                go_wp2
                go_meet
                case rel => exact ⟨d, g, 0, l0, l1, H0, H1, k0, k1, rfl, rfl, .inl rfl, (P6.out.mono (Nat.le_succ i)).below (bdr _ _)⟩
              · by_cases q2 : (l0.length : Int) ≤ nn
                · rw [Pg.pread_arg (.inr q2)] at CR
                  unfold Pg.pval at CR
                  have q3 : nn ≥ (l0.length : Int) := q2
                  go_upto_region 25 with (go_at_call 15; ((with_reducible refine CR.out.mono ?_); rintro e w6 ⟨rfl, hb6⟩; have P6 := Lib.hid (P5.out.below hb6); obtain ⟨⟨v0, v1, v2, v3, v4⟩, _⟩ := row5 (blk_below A5.out hb6 (blk_lt A5.out)); obtain ⟨⟨y0, y1⟩, _⟩ := row2f P6.out.hg; clear hb6))
                  go_quiet (fail)
                  go_wp2
                  go_meet
                  case rel => exact ⟨d, g, 0, l0, l1, H0, H1, k0, k1, rfl, rfl, .inl rfl, (P6.out.mono (Nat.le_succ i)).below (bdr _ _)⟩
                · obtain ⟨ra, rb, rc, hr⟩ : ∃ ra rb rc, Pg.pread d 0 (l0.length : Int) nn = (ra, rb, rc) := ⟨_, _, _, rfl⟩
                  rw [hr] at CR
                  unfold Pg.pval at CR
                  have q3 : ¬ nn ≥ (l0.length : Int) := q2
                  clear hr
                  go_upto_region 25 with (go_at_call 15; ((with_reducible refine CR.out.mono ?_); rintro e w6 ⟨rfl, hb6⟩; have P6 := Lib.hid (P5.out.below hb6); obtain ⟨⟨v0, v1, v2, v3, v4⟩, _⟩ := row5 (blk_below A5.out hb6 (blk_lt A5.out)); obtain ⟨⟨y0, y1⟩, _⟩ := row2f P6.out.hg; clear hb6))
                  go_quiet (fail)
                  go_wp2
                  go_meet
                  case rel => exact ⟨d, g, 0, l0, l1, H0, H1, k0, k1, rfl, rfl, .inl rfl, (P6.out.mono (Nat.le_succ i)).below (bdr _ _)⟩
          have z1 : (kd == 1) = false := by rw [beq_eq_false_iff_ne]; exact e1
          by_cases e2 : kd = 2
          · subst e2
            as_aux_lemma =>
              by_cases q1 : nn < 0
              · have CN := Lib.hid (fun W (q : Below W5.heap.size W5 W) => Pg.cut_no b g 0 (l0.length : Int) nn W (P5.out.next0.below q).p (.inl q1))
                have q1' : ¬ nn ≥ 0 := by omega
                go_upto_region 29 with fail
                go_quiet (fail)
                go_wp2_with (go_at_call 16; ((with_reducible refine (CN.out _ (bdr _ _)).mono ?_); rintro e w' ⟨rfl, rfl⟩))
                go_meet
                case rel => exact ⟨d, g, 0, l0, l1, H0, H1, k0, k1, rfl, rfl, .inl rfl, (P5.out.mono (Nat.le_succ i)).below (bdr _ _)⟩
              by_cases q2 : (l0.length : Int) < nn
              · have CN := Lib.hid (fun W (q : Below W5.heap.size W5 W) => Pg.cut_no b g 0 (l0.length : Int) nn W (P5.out.next0.below q).p (.inr q2))
                have q1' : nn ≥ 0 := by omega
                have q2' : ¬ nn ≤ (l0.length : Int) := by omega
                go_upto_region 29 with fail
                go_quiet (fail)
                go_wp2_with (go_at_call 16; ((with_reducible refine (CN.out _ (bdr _ _)).mono ?_); rintro e w' ⟨rfl, rfl⟩))
                go_meet
                case rel => exact ⟨d, g, 0, l0, l1, H0, H1, k0, k1, rfl, rfl, .inl rfl, (P5.out.mono (Nat.le_succ i)).below (bdr _ _)⟩
              obtain ⟨m, rfl⟩ : ∃ m : Nat, nn = (m : Int) := ⟨nn.toNat, by omega⟩
              have q1' : (m : Int) ≥ 0 := by omega
              have q2' : (m : Int) ≤ (l0.length : Int) := by omega
              have CY := Lib.hid (fun W (q : Below W5.heap.size W5 W) => Pg.cut_yes b g 0 (l0.length : Int) (m : Int) W (P5.out.next0.below q).p (by omega) (by omega))
              have NG : Hid (gh ≠ g) := fun e => P5.out.gh_ne (by rw [e]; exact List.mem_cons_self)
              have NG2 : Hid (ga ≠ g) := fun e => by
                have h1 := P5.out.pm.p
                have h2 := A5.out
                unfold Pg.PAt at h1
                rw [e, h1] at h2; injection h2 with h2; injection h2 with _ h2 _; exact absurd h2 (by decide)
              go_upto_region 29 with fail
              go_quiet (fail)
              have P6 := Lib.hid (P5.out.below (bdr W5 nq))
              have A6 : Hid ((W5.drewN nq).heap[ga]? = _) := A5.out
              have CY6 := Lib.hid (CY.out _ (bdr W5 nq))
              have HN6 : Hid (H0 = none → l0.length = 0 ∧ k0 = 0) := P5.out.r0.n
              have HK6 : Hid (l0.length ≤ k0) := P5.out.r0.c
              have PC6 := Lib.hid (P6.out.cut0 (n := m) (by omega))
              clear v0 v1 v2 v3 v4 y0 y1 f0 f1
              generalize W5.drewN nq = W6 at *
              obtain ⟨⟨v0, v1, v2, v3, v4⟩, _⟩ := row5 A6.out
              go_upto_region 33 with (go_at_call 16; ((with_reducible refine CY6.out.mono ?_); rintro e w' ⟨rfl, rfl⟩))
              have Ag : Hid ((W6.setCell ⟨g, 2, none⟩ (.int .i64 (m : Int))).heap[gh]? = some (.cells #[.slice H0 l0.length k0, .slice H1 l1.length k1] 33)) := blk_other P6.out.hg NG.out _
              have Aa : Hid ((W6.setCell ⟨g, 2, none⟩ (.int .i64 (m : Int))).heap[ga]? = _) := blk_other A6.out NG2.out _
              clear v0 v1 v2 v3 v4
              obtain ⟨⟨v0, v1, v2, v3, v4⟩, _⟩ := row5 Aa.out
              obtain ⟨⟨y0, y1⟩, f0, f1⟩ := row2f Ag.out
              generalize W6.setCell ⟨g, 2, none⟩ (.int .i64 (m : Int)) = W7 at *
              have hk' : l0.length ≤ k0 := HK6.out
              cases hH : H0 with
              | none =>
                obtain ⟨z1, z2⟩ := HN6.out hH
                have hm0 : m = 0 := by omega
                subst hm0 hH
                simp only [z2] at *
                go_region
                all_goals
                  go_wp2
                  go_meet
                  case rel => exact ⟨d, g, 0, (l0.take 0), l1, none, H1, 0, k1, rfl, rfl, .inl rfl, (PC6.out.mono (Nat.le_succ i)).below ⟨rfl, rfl, rfl, Nat.le_refl _, fun _ _ => rfl⟩⟩
              | some ad =>
                subst hH
                go_region
                all_goals
                  go_wp2
                  go_meet
                  case rel => exact ⟨d, g, 0, (l0.take m), l1, (some ad), H1, k0, k1, rfl, rfl, .inl rfl, (PC6.out.mono (Nat.le_succ i)).below ⟨rfl, rfl, rfl, Nat.le_refl _, fun _ _ => rfl⟩⟩
          have z2 : (kd == 2) = false := by rw [beq_eq_false_iff_ne]; exact e2
          by_cases e3 : kd = 3
          · subst e3
            as_aux_lemma =>
              have CF := Lib.hid (flush_any b d W5 P5.out.pm.my.at' P5.out.pm.my.inv)
              have hfl := flush_is P5.out.up
              have PF := Lib.hid (fun w6 (hd : DAt w6 b (flush d).1) (ht : Tch b.l W5 w6) => (show PL S R (i + 1) w w6 b (flush d).1 g gh 0 l0 l1 H0 H1 k0 k1 from P5.out.disk hd (flush_inv P5.out.pm.my.inv (by have := P5.out.nw; omega)) (by rw [hfl]; exact ⟨rfl, P5.out.up.h⟩) (by rw [hfl]) (by rw [hfl]; show d.writes + 1 ≤ _; have := P5.out.nw; omega) ht))
              clear hfl
              go_wp2_with (go_at_call 17; ((with_reducible refine CF.out.mono ?_); rintro e w6 ⟨rfl, hd6, ht6⟩; have P6 := Lib.hid (PF.out w6 hd6 ht6); clear hd6 ht6))
              go_meet
              case rel => exact ⟨(flush d).1, g, 0, l0, l1, H0, H1, k0, k1, rfl, rfl, .inl rfl, P6.out⟩
          have z3 : (kd == 3) = false := by rw [beq_eq_false_iff_ne]; exact e3
          by_cases e4 : kd = 4
          · subst e4
            as_aux_lemma =>
              have CO := Lib.hid (Pg.open_my b d 1 (l1.length : Int) W5 P5.out.pm.my P5.out.pm.sz ⟨.inr rfl, by omega, by have := P5.out.c1.le; omega⟩ P5.out.bl.size)
              go_wp2_with (go_at_call 12; ((with_reducible refine CO.out.mono ?_); rintro e w6 ⟨g6, rfl, hm6, hb6⟩; have P6 := Lib.hid (P5.out.open0 hm6 hb6); clear hm6 hb6))
              go_meet
              case rel => exact ⟨d, g6, 1, l0, l1, H0, H1, k0, k1, rfl, rfl, .inr rfl, P6.out.mono (Nat.le_succ i)⟩
          have z4 : (kd == 4) = false := by rw [beq_eq_false_iff_ne]; exact e4
          by_cases e5 : kd = 5
          · subst e5
            as_aux_lemma =>
              have CO := Lib.hid (show Calls Try.prog 18 #[.pointer (some ⟨g, 0, none⟩)] W5 fun e w' => e = .returned (.pointer (some ⟨W5.heap.size, 0, none⟩)) ∧ Pg.PAt w' b W5.heap.size 1 0 ∧ Below W5.heap.size W5 w' from Pg.other_any b g 0 _ W5 P5.out.pm.p (.inl rfl))
              clear y0 y1 f0 f1
              go_upto_region 43 with fail
              go_wp2_with (go_at_call 18; ((with_reducible refine CO.out.mono ?_); rintro e w6 ⟨rfl, hp6, hb6⟩; have P6 := Lib.hid (P5.out.other0 hp6 hb6); obtain ⟨⟨y0, y1⟩, f0, f1⟩ := row2f (blk_below P5.out.hg hb6 (blk_lt P5.out.hg)); clear hp6 hb6))
              go_meet
              case rel => exact ⟨d, W5.heap.size, 1, l0, [], H0, none, k0, 0, rfl, rfl, .inr rfl, P6.out.mono (Nat.le_succ i)⟩
          have z5 : (kd == 5) = false := by rw [beq_eq_false_iff_ne]; exact e5
          by_cases e6 : kd = 6
          · subst e6
            as_aux_lemma =>
              have CF := Lib.hid (flush_any b d W5 P5.out.pm.my.at' P5.out.pm.my.inv)
              have hfl := flush_is P5.out.up
              have PF := Lib.hid (fun w6 (hd : DAt w6 b (flush d).1) (ht : Tch b.l W5 w6) => (show PL S R (i + 1) w w6 b (flush d).1 g gh 0 l0 l1 H0 H1 k0 k1 from P5.out.disk hd (flush_inv P5.out.pm.my.inv (by have := P5.out.nw; omega)) (by rw [hfl]; exact ⟨rfl, P5.out.up.h⟩) (by rw [hfl]) (by rw [hfl]; show d.writes + 1 ≤ _; have := P5.out.nw; omega) ht))
              have hlo : (flush d).1.loose = [] := by rw [hfl]
              clear hfl
              have LB : Hid (∀ x ∈ b.l, x < S) := P5.out.lo
              have NA : Hid (ga ∉ b.l) := fun q => by have := LB.out ga q; omega
              have NC : Hid (0 < ch.length → ∀ a, cA = some a → a.block ∉ b.l) := fun hp a ha q => by
                have := HQ.out hp a ha
                have h1 := P5.out.pm.my.g; have h2 := P5.out.pm.my.bs; have h3 := P5.out.pm.my.bm
                simp only [List.mem_cons, List.not_mem_nil, or_false] at q
                omega
              clear v0 v1 v2 v3 v4
              go_upto_region 46 with (go_at_call 17; ((with_reducible refine CF.out.mono ?_); rintro e w6 ⟨rfl, hd6, ht6⟩; have P6 := Lib.hid (PF.out w6 hd6 ht6); have T6 := Lib.hid ht6; clear hd6 ht6))
              have A6 := Lib.hid ((T6.out.block ga (blk_lt A5.out) NA.out).trans A5.out)
              have HT6 := Lib.hid (at_tch HT.out T6.out NC.out)
              obtain ⟨⟨v0, v1, v2, v3, v4⟩, _⟩ := row5 A6.out
              have CW := Lib.hid (fun W => few_any cA ch cC W)
              have CK := Lib.hid (crash_any b (flush d).1 cA (few ch) cC w6 P6.out.pm.my.at' P6.out.pm.my.inv (at_few HT6.out) (by have := few_len ch; omega) (fun hp a ha => NC.out (by unfold few at hp; rw [List.length_take] at hp; omega) a ha))
              go_wp2_with (first
                | (go_at_call 20; ((with_reducible refine (CW.out _ HT6.out hac).mono ?_); rintro e w' ⟨rfl, rfl⟩))
                | (go_at_call 19; ((with_reducible refine CK.out.mono ?_); rintro e w7 ⟨rfl, hd7, ht7⟩; have P7 := Lib.hid (P6.out.disk (N' := i + 1) hd7 (crash_inv P6.out.pm.my.inv _) ⟨rfl, by show (-1 : Int) < 0; omega⟩ (crash_is _ hlo) (by show (flush d).1.writes ≤ _; exact P6.out.nw) ht7); clear hd7 ht7)))
              go_meet
              case rel => exact ⟨(crash (flush d).1 (few ch)), g, 0, l0, l1, H0, H1, k0, k1, rfl, rfl, .inl rfl, P7.out⟩
          have z6 : (kd == 6) = false := by rw [beq_eq_false_iff_ne]; exact e6
          as_aux_lemma =>
            have hNW : d.writes < 1000000 := by have := P5.out.nw; omega
            have hlR : l0.length ≤ R := by have := P5.out.c0.le; rw [P5.out.rm] at this; exact this
            by_cases q1 : kk < 0 ∨ 255 < kk ∨ 240 < cs.size
            · have HB : kk < 0 ∨ 255 < kk ∨ 240 < cs.size ∨ (R : Int) ≤ (((l0.map toPg).length : Nat) : Int) := by omega
              have hra : ra (l0.map toPg) (R : Int) kk cs = (-1, 1) := by unfold ra; simp only [List.length_map]; rw [if_pos q1]
              have CN := Lib.hid (fun W => refApp_no H0 (l0.map toPg) k0 (R : Int) kk cs W (by rw [List.length_map]; omega) (by omega) HB)
              rw [hra, List.length_map] at CN
              have CP := Lib.hid (fun W (q : Pg.PMy w.heap.size W b d g 0 (l0.length : Int)) => papp_tch b d g 0 (l0.length : Int) kk cs W q hNW)
              rw [Pg.papp_bad q1] at CP
              clear hra HB
              go_upto_region 18 with fail
              go_region_with (go_at_call 21; ((with_reducible refine (CN.out _).mono ?_); rintro e w6 ⟨rfl, hb6⟩; have P6 := Lib.hid (P5.out.below (Nod.below_of_drew hb6)); have A6 := Lib.hid (blk_below A5.out (Nod.below_of_drew hb6) (blk_lt A5.out)); clear hb6))
              all_goals
                clear v0 v1 v2 v3 v4 y0 y1 f0 f1
                obtain ⟨⟨v0, v1, v2, v3, v4⟩, _⟩ := row5 A6.out
                go_upto_region 20 with (go_at_call 22; ((with_reducible refine (CP.out _ P6.out.next0).mono ?_); rintro e w7 ⟨rfl, hm7, ht7⟩; have M7 := Lib.hid hm7; have T7 := Lib.hid ht7; clear hm7 ht7))
                have K7 := Lib.hid ((P6.out.keep0 M7.out T7.out).mono (Nat.le_succ i))
                obtain ⟨⟨y0, y1⟩, f0, f1⟩ := row2f (P6.out.tch T7.out).1
                go_wp2
                go_meet
                case rel => exact ⟨d, g, 0, l0, l1, H0, H1, k0, k1, rfl, rfl, .inl rfl, K7.out⟩
            by_cases q2 : (R : Int) ≤ (l0.length : Int)
            · have HB : kk < 0 ∨ 255 < kk ∨ 240 < cs.size ∨ (R : Int) ≤ (((l0.map toPg).length : Nat) : Int) := by rw [List.length_map]; omega
              have hra : ra (l0.map toPg) (R : Int) kk cs = (-1, 5) := by unfold ra; simp only [List.length_map]; rw [if_neg q1, if_pos q2]
              have CN := Lib.hid (fun W => refApp_no H0 (l0.map toPg) k0 (R : Int) kk cs W (by rw [List.length_map]; omega) (by omega) HB)
              rw [hra, List.length_map] at CN
              have CP := Lib.hid (fun W (q : Pg.PMy w.heap.size W b d g 0 (l0.length : Int)) => papp_tch b d g 0 (l0.length : Int) kk cs W q hNW)
              rw [Pg.papp_full q1 (by rw [P5.out.rm]; exact q2)] at CP
              clear hra HB
              go_upto_region 18 with fail
              go_region_with (go_at_call 21; ((with_reducible refine (CN.out _).mono ?_); rintro e w6 ⟨rfl, hb6⟩; have P6 := Lib.hid (P5.out.below (Nod.below_of_drew hb6)); have A6 := Lib.hid (blk_below A5.out (Nod.below_of_drew hb6) (blk_lt A5.out)); clear hb6))
              all_goals
                clear v0 v1 v2 v3 v4 y0 y1 f0 f1
                obtain ⟨⟨v0, v1, v2, v3, v4⟩, _⟩ := row5 A6.out
                go_upto_region 20 with (go_at_call 22; ((with_reducible refine (CP.out _ P6.out.next0).mono ?_); rintro e w7 ⟨rfl, hm7, ht7⟩; have M7 := Lib.hid hm7; have T7 := Lib.hid ht7; clear hm7 ht7))
                have K7 := Lib.hid ((P6.out.keep0 M7.out T7.out).mono (Nat.le_succ i))
                obtain ⟨⟨y0, y1⟩, f0, f1⟩ := row2f (P6.out.tch T7.out).1
                go_wp2
                go_meet
                case rel => exact ⟨d, g, 0, l0, l1, H0, H1, k0, k1, rfl, rfl, .inl rfl, K7.out⟩
            have hk0 : 0 ≤ kk := by omega
            have hk1 : kk ≤ 255 := by omega
            have hcz : cs.size ≤ 240 := by omega
            have hlt2 : l0.length < R := by omega
            have CY := Lib.hid (fun W (q : Below W5.heap.size W5 W) => refApp_yes H0 (l0.map toPg) k0 (R : Int) kk cs W (P5.out.r0.pr.below q) (by rw [List.length_map]; exact P5.out.r0.n) (by rw [List.length_map]; omega) hcz (by omega) (by omega) (by rw [List.length_map]; omega))
            rw [List.length_map] at CY
            have CP := Lib.hid (fun W (q : Pg.PMy w.heap.size W b d g 0 (l0.length : Int)) => papp_tch b d g 0 (l0.length : Int) kk cs W q hNW)
            rw [Pg.papp_put P5.out.up P5.out.pm.sz (.inl rfl) (by omega) (by rw [P5.out.rm]; omega) hk0 hk1 hcz] at CP
            have SZ5 : Hid (S ≤ W5.heap.size) := P5.out.sz
            have HL : Hid ((l0 ++ [(kk.toNat, cs)]).length = l0.length + 1) := by rw [Hid]; simp
            clear q1 q2
            go_upto_region 18 with fail
            have CY5 := Lib.hid (CY.out W5.drew ⟨rfl, rfl, rfl, Nat.le_refl _, fun _ _ => rfl⟩)
            go_region_with (go_at_call 21; ((with_reducible refine CY5.out.mono ?_); rintro e w6 ⟨gg, cap, rfl, own6, hb6⟩; have P6 := Lib.hid (P5.out.below (Nod.below_of_drew hb6)); have A6 := Lib.hid (blk_below A5.out (Nod.below_of_drew hb6) (blk_lt A5.out)); have RW6 : Hid (RW S w6 (some ⟨gg, 0, none⟩) (l0 ++ [(kk.toNat, cs)]) cap) := RW.new (M := W5.heap.size) (by rw [HL.out, ← map_snoc hk0]; exact own6) SZ5.out; clear hb6 own6))
            all_goals
              clear v0 v1 v2 v3 v4 y0 y1 f0 f1
              obtain ⟨⟨v0, v1, v2, v3, v4⟩, _⟩ := row5 A6.out
              go_upto_region 20 with (go_at_call 22; ((with_reducible refine (CP.out _ P6.out.next0).mono ?_); rintro e w7 ⟨rfl, hm7, ht7⟩; have M7 := Lib.hid hm7; have T7 := Lib.hid ht7; clear hm7 ht7))
              have K7 := Lib.hid (P6.out.app0 RW6.out M7.out T7.out hk0 hk1 hcz hlt2)
              obtain ⟨⟨y0, y1⟩, f0, f1⟩ := row2f (P6.out.tch T7.out).1
              go_wp2
              go_meet
              case rel => exact ⟨(Pg.put d 0 (l0.length : Int) kk cs), g, 0, (l0 ++ [(kk.toNat, cs)]), l1, (some ⟨gg, 0, none⟩), H1, cap, k1, rfl, rfl, .inl rfl, K7.out⟩
        · obtain ⟨⟨y0, y1⟩, f0, f1⟩ := row2f P5.out.hg
          by_cases e1 : kd = 1
          · subst e1
            as_aux_lemma =>
              have CR := Lib.hid (Pg.pread_my b d g 1 (l1.length : Int) nn W5 P5.out.next1)
              clear v0 v1 v2 v3 v4 y0 y1 f0 f1
              obtain ⟨⟨v0, v1, v2, v3, v4⟩, _⟩ := row5 A5.out
              by_cases q1 : nn < 0
              · rw [Pg.pread_arg (.inl q1)] at CR
                unfold Pg.pval at CR
                go_upto_region 25 with (go_at_call 15; ((with_reducible refine CR.out.mono ?_); rintro e w6 ⟨rfl, hb6⟩; have P6 := Lib.hid (P5.out.below hb6); obtain ⟨⟨v0, v1, v2, v3, v4⟩, _⟩ := row5 (blk_below A5.out hb6 (blk_lt A5.out)); obtain ⟨⟨y0, y1⟩, _⟩ := row2f P6.out.hg; clear hb6))
                go_quiet (fail)
                go_wp2
                go_meet
                case rel => exact ⟨d, g, 1, l0, l1, H0, H1, k0, k1, rfl, rfl, .inr rfl, (P6.out.mono (Nat.le_succ i)).below (bdr _ _)⟩
              · by_cases q2 : (l1.length : Int) ≤ nn
                · rw [Pg.pread_arg (.inr q2)] at CR
                  unfold Pg.pval at CR
                  have q3 : nn ≥ (l1.length : Int) := q2
                  go_upto_region 25 with (go_at_call 15; ((with_reducible refine CR.out.mono ?_); rintro e w6 ⟨rfl, hb6⟩; have P6 := Lib.hid (P5.out.below hb6); obtain ⟨⟨v0, v1, v2, v3, v4⟩, _⟩ := row5 (blk_below A5.out hb6 (blk_lt A5.out)); obtain ⟨⟨y0, y1⟩, _⟩ := row2f P6.out.hg; clear hb6))
                  go_quiet (fail)
                  go_wp2
                  go_meet
                  case rel => exact ⟨d, g, 1, l0, l1, H0, H1, k0, k1, rfl, rfl, .inr rfl, (P6.out.mono (Nat.le_succ i)).below (bdr _ _)⟩
                · obtain ⟨ra, rb, rc, hr⟩ : ∃ ra rb rc, Pg.pread d 1 (l1.length : Int) nn = (ra, rb, rc) := ⟨_, _, _, rfl⟩
                  rw [hr] at CR
                  unfold Pg.pval at CR
                  have q3 : ¬ nn ≥ (l1.length : Int) := q2
                  clear hr
                  go_upto_region 25 with (go_at_call 15; ((with_reducible refine CR.out.mono ?_); rintro e w6 ⟨rfl, hb6⟩; have P6 := Lib.hid (P5.out.below hb6); obtain ⟨⟨v0, v1, v2, v3, v4⟩, _⟩ := row5 (blk_below A5.out hb6 (blk_lt A5.out)); obtain ⟨⟨y0, y1⟩, _⟩ := row2f P6.out.hg; clear hb6))
                  go_quiet (fail)
                  go_wp2
                  go_meet
                  case rel => exact ⟨d, g, 1, l0, l1, H0, H1, k0, k1, rfl, rfl, .inr rfl, (P6.out.mono (Nat.le_succ i)).below (bdr _ _)⟩
          have z1 : (kd == 1) = false := by rw [beq_eq_false_iff_ne]; exact e1
          by_cases e2 : kd = 2
          · subst e2
            as_aux_lemma =>
              by_cases q1 : nn < 0
              · have CN := Lib.hid (fun W (q : Below W5.heap.size W5 W) => Pg.cut_no b g 1 (l1.length : Int) nn W (P5.out.next1.below q).p (.inl q1))
                have q1' : ¬ nn ≥ 0 := by omega
                go_upto_region 29 with fail
                go_quiet (fail)
                go_wp2_with (go_at_call 16; ((with_reducible refine (CN.out _ (bdr _ _)).mono ?_); rintro e w' ⟨rfl, rfl⟩))
                go_meet
                case rel => exact ⟨d, g, 1, l0, l1, H0, H1, k0, k1, rfl, rfl, .inr rfl, (P5.out.mono (Nat.le_succ i)).below (bdr _ _)⟩
              by_cases q2 : (l1.length : Int) < nn
              · have CN := Lib.hid (fun W (q : Below W5.heap.size W5 W) => Pg.cut_no b g 1 (l1.length : Int) nn W (P5.out.next1.below q).p (.inr q2))
                have q1' : nn ≥ 0 := by omega
                have q2' : ¬ nn ≤ (l1.length : Int) := by omega
                go_upto_region 29 with fail
                go_quiet (fail)
                go_wp2_with (go_at_call 16; ((with_reducible refine (CN.out _ (bdr _ _)).mono ?_); rintro e w' ⟨rfl, rfl⟩))
                go_meet
                case rel => exact ⟨d, g, 1, l0, l1, H0, H1, k0, k1, rfl, rfl, .inr rfl, (P5.out.mono (Nat.le_succ i)).below (bdr _ _)⟩
              obtain ⟨m, rfl⟩ : ∃ m : Nat, nn = (m : Int) := ⟨nn.toNat, by omega⟩
              have q1' : (m : Int) ≥ 0 := by omega
              have q2' : (m : Int) ≤ (l1.length : Int) := by omega
              have CY := Lib.hid (fun W (q : Below W5.heap.size W5 W) => Pg.cut_yes b g 1 (l1.length : Int) (m : Int) W (P5.out.next1.below q).p (by omega) (by omega))
              have NG : Hid (gh ≠ g) := fun e => P5.out.gh_ne (by rw [e]; exact List.mem_cons_self)
              have NG2 : Hid (ga ≠ g) := fun e => by
                have h1 := P5.out.pm.p
                have h2 := A5.out
                unfold Pg.PAt at h1
                rw [e, h1] at h2; injection h2 with h2; injection h2 with _ h2 _; exact absurd h2 (by decide)
              go_upto_region 29 with fail
              go_quiet (fail)
              have P6 := Lib.hid (P5.out.below (bdr W5 nq))
              have A6 : Hid ((W5.drewN nq).heap[ga]? = _) := A5.out
              have CY6 := Lib.hid (CY.out _ (bdr W5 nq))
              have HN6 : Hid (H1 = none → l1.length = 0 ∧ k1 = 0) := P5.out.r1.n
              have HK6 : Hid (l1.length ≤ k1) := P5.out.r1.c
              have PC6 := Lib.hid (P6.out.cut1 (n := m) (by omega))
              clear v0 v1 v2 v3 v4 y0 y1 f0 f1
              generalize W5.drewN nq = W6 at *
              obtain ⟨⟨v0, v1, v2, v3, v4⟩, _⟩ := row5 A6.out
              go_upto_region 33 with (go_at_call 16; ((with_reducible refine CY6.out.mono ?_); rintro e w' ⟨rfl, rfl⟩))
              have Ag : Hid ((W6.setCell ⟨g, 2, none⟩ (.int .i64 (m : Int))).heap[gh]? = some (.cells #[.slice H0 l0.length k0, .slice H1 l1.length k1] 33)) := blk_other P6.out.hg NG.out _
              have Aa : Hid ((W6.setCell ⟨g, 2, none⟩ (.int .i64 (m : Int))).heap[ga]? = _) := blk_other A6.out NG2.out _
              clear v0 v1 v2 v3 v4
              obtain ⟨⟨v0, v1, v2, v3, v4⟩, _⟩ := row5 Aa.out
              obtain ⟨⟨y0, y1⟩, f0, f1⟩ := row2f Ag.out
              generalize W6.setCell ⟨g, 2, none⟩ (.int .i64 (m : Int)) = W7 at *
              have hk' : l1.length ≤ k1 := HK6.out
              cases hH : H1 with
              | none =>
                obtain ⟨z1, z2⟩ := HN6.out hH
                have hm0 : m = 0 := by omega
                subst hm0 hH
                simp only [z2] at *
                go_region
                all_goals
                  go_wp2
                  go_meet
                  case rel => exact ⟨d, g, 1, l0, (l1.take 0), H0, none, k0, 0, rfl, rfl, .inr rfl, (PC6.out.mono (Nat.le_succ i)).below ⟨rfl, rfl, rfl, Nat.le_refl _, fun _ _ => rfl⟩⟩
              | some ad =>
                subst hH
                go_region
                all_goals
                  go_wp2
                  go_meet
                  case rel => exact ⟨d, g, 1, l0, (l1.take m), H0, (some ad), k0, k1, rfl, rfl, .inr rfl, (PC6.out.mono (Nat.le_succ i)).below ⟨rfl, rfl, rfl, Nat.le_refl _, fun _ _ => rfl⟩⟩
          have z2 : (kd == 2) = false := by rw [beq_eq_false_iff_ne]; exact e2
          by_cases e3 : kd = 3
          · subst e3
            as_aux_lemma =>
              have CF := Lib.hid (flush_any b d W5 P5.out.pm.my.at' P5.out.pm.my.inv)
              have hfl := flush_is P5.out.up
              have PF := Lib.hid (fun w6 (hd : DAt w6 b (flush d).1) (ht : Tch b.l W5 w6) => (show PL S R (i + 1) w w6 b (flush d).1 g gh 1 l0 l1 H0 H1 k0 k1 from P5.out.disk hd (flush_inv P5.out.pm.my.inv (by have := P5.out.nw; omega)) (by rw [hfl]; exact ⟨rfl, P5.out.up.h⟩) (by rw [hfl]) (by rw [hfl]; show d.writes + 1 ≤ _; have := P5.out.nw; omega) ht))
              clear hfl
              go_wp2_with (go_at_call 17; ((with_reducible refine CF.out.mono ?_); rintro e w6 ⟨rfl, hd6, ht6⟩; have P6 := Lib.hid (PF.out w6 hd6 ht6); clear hd6 ht6))
              go_meet
              case rel => exact ⟨(flush d).1, g, 1, l0, l1, H0, H1, k0, k1, rfl, rfl, .inr rfl, P6.out⟩
          have z3 : (kd == 3) = false := by rw [beq_eq_false_iff_ne]; exact e3
          by_cases e4 : kd = 4
          · subst e4
            as_aux_lemma =>
              have CO := Lib.hid (Pg.open_my b d 0 (l0.length : Int) W5 P5.out.pm.my P5.out.pm.sz ⟨.inl rfl, by omega, by have := P5.out.c0.le; omega⟩ P5.out.bl.size)
              go_wp2_with (go_at_call 12; ((with_reducible refine CO.out.mono ?_); rintro e w6 ⟨g6, rfl, hm6, hb6⟩; have P6 := Lib.hid (P5.out.open1 hm6 hb6); clear hm6 hb6))
              go_meet
              case rel => exact ⟨d, g6, 0, l0, l1, H0, H1, k0, k1, rfl, rfl, .inl rfl, P6.out.mono (Nat.le_succ i)⟩
          have z4 : (kd == 4) = false := by rw [beq_eq_false_iff_ne]; exact e4
          by_cases e5 : kd = 5
          · subst e5
            as_aux_lemma =>
              have CO := Lib.hid (show Calls Try.prog 18 #[.pointer (some ⟨g, 0, none⟩)] W5 fun e w' => e = .returned (.pointer (some ⟨W5.heap.size, 0, none⟩)) ∧ Pg.PAt w' b W5.heap.size 0 0 ∧ Below W5.heap.size W5 w' from Pg.other_any b g 1 _ W5 P5.out.pm.p (.inr rfl))
              clear y0 y1 f0 f1
              go_upto_region 43 with fail
              go_wp2_with (go_at_call 18; ((with_reducible refine CO.out.mono ?_); rintro e w6 ⟨rfl, hp6, hb6⟩; have P6 := Lib.hid (P5.out.other1 hp6 hb6); obtain ⟨⟨y0, y1⟩, f0, f1⟩ := row2f (blk_below P5.out.hg hb6 (blk_lt P5.out.hg)); clear hp6 hb6))
              go_meet
              case rel => exact ⟨d, W5.heap.size, 0, [], l1, none, H1, 0, k1, rfl, rfl, .inl rfl, P6.out.mono (Nat.le_succ i)⟩
          have z5 : (kd == 5) = false := by rw [beq_eq_false_iff_ne]; exact e5
          by_cases e6 : kd = 6
          · subst e6
            as_aux_lemma =>
              have CF := Lib.hid (flush_any b d W5 P5.out.pm.my.at' P5.out.pm.my.inv)
              have hfl := flush_is P5.out.up
              have PF := Lib.hid (fun w6 (hd : DAt w6 b (flush d).1) (ht : Tch b.l W5 w6) => (show PL S R (i + 1) w w6 b (flush d).1 g gh 1 l0 l1 H0 H1 k0 k1 from P5.out.disk hd (flush_inv P5.out.pm.my.inv (by have := P5.out.nw; omega)) (by rw [hfl]; exact ⟨rfl, P5.out.up.h⟩) (by rw [hfl]) (by rw [hfl]; show d.writes + 1 ≤ _; have := P5.out.nw; omega) ht))
              have hlo : (flush d).1.loose = [] := by rw [hfl]
              clear hfl
              have LB : Hid (∀ x ∈ b.l, x < S) := P5.out.lo
              have NA : Hid (ga ∉ b.l) := fun q => by have := LB.out ga q; omega
              have NC : Hid (0 < ch.length → ∀ a, cA = some a → a.block ∉ b.l) := fun hp a ha q => by
                have := HQ.out hp a ha
                have h1 := P5.out.pm.my.g; have h2 := P5.out.pm.my.bs; have h3 := P5.out.pm.my.bm
                simp only [List.mem_cons, List.not_mem_nil, or_false] at q
                omega
              clear v0 v1 v2 v3 v4
              go_upto_region 46 with (go_at_call 17; ((with_reducible refine CF.out.mono ?_); rintro e w6 ⟨rfl, hd6, ht6⟩; have P6 := Lib.hid (PF.out w6 hd6 ht6); have T6 := Lib.hid ht6; clear hd6 ht6))
              have A6 := Lib.hid ((T6.out.block ga (blk_lt A5.out) NA.out).trans A5.out)
              have HT6 := Lib.hid (at_tch HT.out T6.out NC.out)
              obtain ⟨⟨v0, v1, v2, v3, v4⟩, _⟩ := row5 A6.out
              have CW := Lib.hid (fun W => few_any cA ch cC W)
              have CK := Lib.hid (crash_any b (flush d).1 cA (few ch) cC w6 P6.out.pm.my.at' P6.out.pm.my.inv (at_few HT6.out) (by have := few_len ch; omega) (fun hp a ha => NC.out (by unfold few at hp; rw [List.length_take] at hp; omega) a ha))
              go_wp2_with (first
                | (go_at_call 20; ((with_reducible refine (CW.out _ HT6.out hac).mono ?_); rintro e w' ⟨rfl, rfl⟩))
                | (go_at_call 19; ((with_reducible refine CK.out.mono ?_); rintro e w7 ⟨rfl, hd7, ht7⟩; have P7 := Lib.hid (P6.out.disk (N' := i + 1) hd7 (crash_inv P6.out.pm.my.inv _) ⟨rfl, by show (-1 : Int) < 0; omega⟩ (crash_is _ hlo) (by show (flush d).1.writes ≤ _; exact P6.out.nw) ht7); clear hd7 ht7)))
              go_meet
              case rel => exact ⟨(crash (flush d).1 (few ch)), g, 1, l0, l1, H0, H1, k0, k1, rfl, rfl, .inr rfl, P7.out⟩
          have z6 : (kd == 6) = false := by rw [beq_eq_false_iff_ne]; exact e6
          as_aux_lemma =>
            have hNW : d.writes < 1000000 := by have := P5.out.nw; omega
            have hlR : l1.length ≤ R := by have := P5.out.c1.le; rw [P5.out.rm] at this; exact this
            by_cases q1 : kk < 0 ∨ 255 < kk ∨ 240 < cs.size
            · have HB : kk < 0 ∨ 255 < kk ∨ 240 < cs.size ∨ (R : Int) ≤ (((l1.map toPg).length : Nat) : Int) := by omega
              have hra : ra (l1.map toPg) (R : Int) kk cs = (-1, 1) := by unfold ra; simp only [List.length_map]; rw [if_pos q1]
              have CN := Lib.hid (fun W => refApp_no H1 (l1.map toPg) k1 (R : Int) kk cs W (by rw [List.length_map]; omega) (by omega) HB)
              rw [hra, List.length_map] at CN
              have CP := Lib.hid (fun W (q : Pg.PMy w.heap.size W b d g 1 (l1.length : Int)) => papp_tch b d g 1 (l1.length : Int) kk cs W q hNW)
              rw [Pg.papp_bad q1] at CP
              clear hra HB
              go_upto_region 18 with fail
              go_region_with (go_at_call 21; ((with_reducible refine (CN.out _).mono ?_); rintro e w6 ⟨rfl, hb6⟩; have P6 := Lib.hid (P5.out.below (Nod.below_of_drew hb6)); have A6 := Lib.hid (blk_below A5.out (Nod.below_of_drew hb6) (blk_lt A5.out)); clear hb6))
              all_goals
                clear v0 v1 v2 v3 v4 y0 y1 f0 f1
                obtain ⟨⟨v0, v1, v2, v3, v4⟩, _⟩ := row5 A6.out
                go_upto_region 20 with (go_at_call 22; ((with_reducible refine (CP.out _ P6.out.next1).mono ?_); rintro e w7 ⟨rfl, hm7, ht7⟩; have M7 := Lib.hid hm7; have T7 := Lib.hid ht7; clear hm7 ht7))
                have K7 := Lib.hid ((P6.out.keep1 M7.out T7.out).mono (Nat.le_succ i))
                obtain ⟨⟨y0, y1⟩, f0, f1⟩ := row2f (P6.out.tch T7.out).1
                go_wp2
                go_meet
                case rel => exact ⟨d, g, 1, l0, l1, H0, H1, k0, k1, rfl, rfl, .inr rfl, K7.out⟩
            by_cases q2 : (R : Int) ≤ (l1.length : Int)
            · have HB : kk < 0 ∨ 255 < kk ∨ 240 < cs.size ∨ (R : Int) ≤ (((l1.map toPg).length : Nat) : Int) := by rw [List.length_map]; omega
              have hra : ra (l1.map toPg) (R : Int) kk cs = (-1, 5) := by unfold ra; simp only [List.length_map]; rw [if_neg q1, if_pos q2]
              have CN := Lib.hid (fun W => refApp_no H1 (l1.map toPg) k1 (R : Int) kk cs W (by rw [List.length_map]; omega) (by omega) HB)
              rw [hra, List.length_map] at CN
              have CP := Lib.hid (fun W (q : Pg.PMy w.heap.size W b d g 1 (l1.length : Int)) => papp_tch b d g 1 (l1.length : Int) kk cs W q hNW)
              rw [Pg.papp_full q1 (by rw [P5.out.rm]; exact q2)] at CP
              clear hra HB
              go_upto_region 18 with fail
              go_region_with (go_at_call 21; ((with_reducible refine (CN.out _).mono ?_); rintro e w6 ⟨rfl, hb6⟩; have P6 := Lib.hid (P5.out.below (Nod.below_of_drew hb6)); have A6 := Lib.hid (blk_below A5.out (Nod.below_of_drew hb6) (blk_lt A5.out)); clear hb6))
              all_goals
                clear v0 v1 v2 v3 v4 y0 y1 f0 f1
                obtain ⟨⟨v0, v1, v2, v3, v4⟩, _⟩ := row5 A6.out
                go_upto_region 20 with (go_at_call 22; ((with_reducible refine (CP.out _ P6.out.next1).mono ?_); rintro e w7 ⟨rfl, hm7, ht7⟩; have M7 := Lib.hid hm7; have T7 := Lib.hid ht7; clear hm7 ht7))
                have K7 := Lib.hid ((P6.out.keep1 M7.out T7.out).mono (Nat.le_succ i))
                obtain ⟨⟨y0, y1⟩, f0, f1⟩ := row2f (P6.out.tch T7.out).1
                go_wp2
                go_meet
                case rel => exact ⟨d, g, 1, l0, l1, H0, H1, k0, k1, rfl, rfl, .inr rfl, K7.out⟩
            have hk0 : 0 ≤ kk := by omega
            have hk1 : kk ≤ 255 := by omega
            have hcz : cs.size ≤ 240 := by omega
            have hlt2 : l1.length < R := by omega
            have CY := Lib.hid (fun W (q : Below W5.heap.size W5 W) => refApp_yes H1 (l1.map toPg) k1 (R : Int) kk cs W (P5.out.r1.pr.below q) (by rw [List.length_map]; exact P5.out.r1.n) (by rw [List.length_map]; omega) hcz (by omega) (by omega) (by rw [List.length_map]; omega))
            rw [List.length_map] at CY
            have CP := Lib.hid (fun W (q : Pg.PMy w.heap.size W b d g 1 (l1.length : Int)) => papp_tch b d g 1 (l1.length : Int) kk cs W q hNW)
            rw [Pg.papp_put P5.out.up P5.out.pm.sz (.inr rfl) (by omega) (by rw [P5.out.rm]; omega) hk0 hk1 hcz] at CP
            have SZ5 : Hid (S ≤ W5.heap.size) := P5.out.sz
            have HL : Hid ((l1 ++ [(kk.toNat, cs)]).length = l1.length + 1) := by rw [Hid]; simp
            clear q1 q2
            go_upto_region 18 with fail
            have CY5 := Lib.hid (CY.out W5.drew ⟨rfl, rfl, rfl, Nat.le_refl _, fun _ _ => rfl⟩)
            go_region_with (go_at_call 21; ((with_reducible refine CY5.out.mono ?_); rintro e w6 ⟨gg, cap, rfl, own6, hb6⟩; have P6 := Lib.hid (P5.out.below (Nod.below_of_drew hb6)); have A6 := Lib.hid (blk_below A5.out (Nod.below_of_drew hb6) (blk_lt A5.out)); have RW6 : Hid (RW S w6 (some ⟨gg, 0, none⟩) (l1 ++ [(kk.toNat, cs)]) cap) := RW.new (M := W5.heap.size) (by rw [HL.out, ← map_snoc hk0]; exact own6) SZ5.out; clear hb6 own6))
            all_goals
              clear v0 v1 v2 v3 v4 y0 y1 f0 f1
              obtain ⟨⟨v0, v1, v2, v3, v4⟩, _⟩ := row5 A6.out
              go_upto_region 20 with (go_at_call 22; ((with_reducible refine (CP.out _ P6.out.next1).mono ?_); rintro e w7 ⟨rfl, hm7, ht7⟩; have M7 := Lib.hid hm7; have T7 := Lib.hid ht7; clear hm7 ht7))
              have K7 := Lib.hid (P6.out.app1 RW6.out M7.out T7.out hk0 hk1 hcz hlt2)
              obtain ⟨⟨y0, y1⟩, f0, f1⟩ := row2f (P6.out.tch T7.out).1
              go_wp2
              go_meet
              case rel => exact ⟨(Pg.put d 1 (l1.length : Int) kk cs), g, 1, l0, (l1 ++ [(kk.toNat, cs)]), H0, (some ⟨gg, 0, none⟩), k0, cap, rfl, rfl, .inr rfl, K7.out⟩
      case rest =>
        obtain ⟨d, g, h, l0, l1, H0, H1, k0, k1, rfl, rfl, hh, hpl⟩ := hcut
        clear P5 A5 HT CC HQ LGA v0 v1 v2 v3 v4
        rcases hh with rfl | rfl
        ·
          have P8 := Lib.hid hpl
          clear hpl
          have hlR : l0.length ≤ R := by have := P8.out.c0.le; rw [P8.out.rm] at this; exact this
          have CHf := Lib.hid (fun W (q : Below wc.heap.size wc W) => Pg.half_any b g 0 _ W (P8.out.below q).pm.p)
          have CNx := Lib.hid (fun W (q : Below wc.heap.size wc W) => Pg.next_my b d g 0 (l0.length : Int) W (P8.out.below q).next0)
          have CFr := Lib.hid (fun W (q : Below wc.heap.size wc W) => Pg.free_my b d g 0 (l0.length : Int) W (P8.out.below q).next0)
          rw [P8.out.rm] at CFr
          have CRd := Lib.hid (fun W (q : Below wc.heap.size wc W) => reads_any b d g 0 (l0.length : Int) H0 k0 l0 W (P8.out.below q).next0 P8.out.up P8.out.c0 (Int.le_refl _) (P8.out.below q).r0.pr (by omega))
          obtain ⟨⟨y0, y1⟩, _⟩ := row2f P8.out.hg
          have r0 := fun x => Ov.Up.cell y0 (blk_lt P8.out.hg) x
          have r1 := fun x => Ov.Up.cell y1 (blk_lt P8.out.hg) x
          go_upto_region 47 with fail
          refine Ov.region (by kernel_rfl) (by kernel_rfl) (Ov.start wc) ?_
          repeat (go_big_quiet_step (first
            | (go_at_call 23; exact Ov.Up.same (CHf.out _ (up_low _)))
            | (go_at_call 24; exact Ov.Up.same (CNx.out _ (up_low _)))
            | (go_at_call 25; exact Ov.Up.call (CFr.out _ (up_low _)))
            | (go_at_call 26; exact Ov.Up.call (CRd.out _ (up_low _)))))
          refine wpQuiet_nil ?_
          rintro _ ⟨yo, rfl⟩
          have P9 := Lib.hid (P8.out.below (up_low yo))
          clear r0 r1 y0 y1 CHf CNx CFr CRd P8
          generalize yo.w = W9 at *
          go_wp2
          go_roundw
          case rel => exact ⟨i + 1, d, g, 0, l0, l1, H0, H1, k0, k1, by omega, by go_num, rfl, rfl, .inl rfl, P9.out⟩
          case measure => simp [intOf]; omega
        ·
          have P8 := Lib.hid hpl
          clear hpl
          have hlR : l1.length ≤ R := by have := P8.out.c1.le; rw [P8.out.rm] at this; exact this
          have CHf := Lib.hid (fun W (q : Below wc.heap.size wc W) => Pg.half_any b g 1 _ W (P8.out.below q).pm.p)
          have CNx := Lib.hid (fun W (q : Below wc.heap.size wc W) => Pg.next_my b d g 1 (l1.length : Int) W (P8.out.below q).next1)
          have CFr := Lib.hid (fun W (q : Below wc.heap.size wc W) => Pg.free_my b d g 1 (l1.length : Int) W (P8.out.below q).next1)
          rw [P8.out.rm] at CFr
          have CRd := Lib.hid (fun W (q : Below wc.heap.size wc W) => reads_any b d g 1 (l1.length : Int) H1 k1 l1 W (P8.out.below q).next1 P8.out.up P8.out.c1 (Int.le_refl _) (P8.out.below q).r1.pr (by omega))
          obtain ⟨⟨y0, y1⟩, _⟩ := row2f P8.out.hg
          have r0 := fun x => Ov.Up.cell y0 (blk_lt P8.out.hg) x
          have r1 := fun x => Ov.Up.cell y1 (blk_lt P8.out.hg) x
          go_upto_region 47 with fail
          refine Ov.region (by kernel_rfl) (by kernel_rfl) (Ov.start wc) ?_
          repeat (go_big_quiet_step (first
            | (go_at_call 23; exact Ov.Up.same (CHf.out _ (up_low _)))
            | (go_at_call 24; exact Ov.Up.same (CNx.out _ (up_low _)))
            | (go_at_call 25; exact Ov.Up.call (CFr.out _ (up_low _)))
            | (go_at_call 26; exact Ov.Up.call (CRd.out _ (up_low _)))))
          refine wpQuiet_nil ?_
          rintro _ ⟨yo, rfl⟩
          have P9 := Lib.hid (P8.out.below (up_low yo))
          clear r0 r1 y0 y1 CHf CNx CFr CRd P8
          generalize yo.w = W9 at *
          go_wp2
          go_roundw
          case rel => exact ⟨i + 1, d, g, 1, l0, l1, H0, H1, k0, k1, by omega, by go_num, rfl, rfl, .inr rfl, P9.out⟩
          case measure => simp [intOf]; omega
    · have hex : ¬ (i : Int) < (acts.length : Int) ∨ (i : Int) < (acts.length : Int) ∧ ¬ (i : Int) < 60 := by omega
      clear hlt
      rcases hh with rfl | rfl
      · rcases hex with hI | ⟨hI, hI2⟩
        ·
          have CO := Lib.hid (Pg.open_my b d 1 (l1.length : Int) wr hpl.pm.my hpl.pm.sz ⟨.inr rfl, by omega, by have := hpl.c1.le; omega⟩ hpl.bl.size)
          have P5 := Lib.hid hpl
          have CRd := Lib.hid (fun W g6 (q : Below wr.heap.size wr W) (hm : Pg.PMy w.heap.size W b d g6 1 (l1.length : Int)) => reads_any b d g6 1 (l1.length : Int) H1 k1 l1 W hm P5.out.up P5.out.c1 (Int.le_refl _) (P5.out.below q).r1.pr (by have := P5.out.c1.le; rw [P5.out.rm] at this; omega))
          obtain ⟨⟨y0, y1⟩, _⟩ := row2f hpl.hg
          clear hpl
          go_wp2_with (first
            | (go_at_call 12; ((with_reducible refine CO.out.mono ?_); rintro e w6 ⟨g6, rfl, hm6, hb6⟩; have Q6 := Lib.hid hb6; have M6 := Lib.hid hm6; obtain ⟨⟨y0, y1⟩, _⟩ := row2f (P5.out.below hb6).hg; clear hm6 hb6))
            | (go_at_call 26; ((with_reducible refine (CRd.out _ _ Q6.out M6.out).mono ?_); rintro e w7 ⟨rfl, hb7⟩; have B7 := Lib.hid ((P5.out.bl.trans (Q6.out.mono P5.out.bl.size)).trans (hb7.mono (Nat.le_trans P5.out.bl.size Q6.out.size))); clear hb7)))
          go_ret
          exact ⟨rfl, B7.out⟩
        ·
          have CO := Lib.hid (Pg.open_my b d 1 (l1.length : Int) wr hpl.pm.my hpl.pm.sz ⟨.inr rfl, by omega, by have := hpl.c1.le; omega⟩ hpl.bl.size)
          have P5 := Lib.hid hpl
          have CRd := Lib.hid (fun W g6 (q : Below wr.heap.size wr W) (hm : Pg.PMy w.heap.size W b d g6 1 (l1.length : Int)) => reads_any b d g6 1 (l1.length : Int) H1 k1 l1 W hm P5.out.up P5.out.c1 (Int.le_refl _) (P5.out.below q).r1.pr (by have := P5.out.c1.le; rw [P5.out.rm] at this; omega))
          obtain ⟨⟨y0, y1⟩, _⟩ := row2f hpl.hg
          clear hpl
          go_wp2_with (first
            | (go_at_call 12; ((with_reducible refine CO.out.mono ?_); rintro e w6 ⟨g6, rfl, hm6, hb6⟩; have Q6 := Lib.hid hb6; have M6 := Lib.hid hm6; obtain ⟨⟨y0, y1⟩, _⟩ := row2f (P5.out.below hb6).hg; clear hm6 hb6))
            | (go_at_call 26; ((with_reducible refine (CRd.out _ _ Q6.out M6.out).mono ?_); rintro e w7 ⟨rfl, hb7⟩; have B7 := Lib.hid ((P5.out.bl.trans (Q6.out.mono P5.out.bl.size)).trans (hb7.mono (Nat.le_trans P5.out.bl.size Q6.out.size))); clear hb7)))
          go_ret
          exact ⟨rfl, B7.out⟩
      · rcases hex with hI | ⟨hI, hI2⟩
        ·
          have CO := Lib.hid (Pg.open_my b d 0 (l0.length : Int) wr hpl.pm.my hpl.pm.sz ⟨.inl rfl, by omega, by have := hpl.c0.le; omega⟩ hpl.bl.size)
          have P5 := Lib.hid hpl
          have CRd := Lib.hid (fun W g6 (q : Below wr.heap.size wr W) (hm : Pg.PMy w.heap.size W b d g6 0 (l0.length : Int)) => reads_any b d g6 0 (l0.length : Int) H0 k0 l0 W hm P5.out.up P5.out.c0 (Int.le_refl _) (P5.out.below q).r0.pr (by have := P5.out.c0.le; rw [P5.out.rm] at this; omega))
          obtain ⟨⟨y0, y1⟩, _⟩ := row2f hpl.hg
          clear hpl
          go_wp2_with (first
            | (go_at_call 12; ((with_reducible refine CO.out.mono ?_); rintro e w6 ⟨g6, rfl, hm6, hb6⟩; have Q6 := Lib.hid hb6; have M6 := Lib.hid hm6; obtain ⟨⟨y0, y1⟩, _⟩ := row2f (P5.out.below hb6).hg; clear hm6 hb6))
            | (go_at_call 26; ((with_reducible refine (CRd.out _ _ Q6.out M6.out).mono ?_); rintro e w7 ⟨rfl, hb7⟩; have B7 := Lib.hid ((P5.out.bl.trans (Q6.out.mono P5.out.bl.size)).trans (hb7.mono (Nat.le_trans P5.out.bl.size Q6.out.size))); clear hb7)))
          go_ret
          exact ⟨rfl, B7.out⟩
        ·
          have CO := Lib.hid (Pg.open_my b d 0 (l0.length : Int) wr hpl.pm.my hpl.pm.sz ⟨.inl rfl, by omega, by have := hpl.c0.le; omega⟩ hpl.bl.size)
          have P5 := Lib.hid hpl
          have CRd := Lib.hid (fun W g6 (q : Below wr.heap.size wr W) (hm : Pg.PMy w.heap.size W b d g6 0 (l0.length : Int)) => reads_any b d g6 0 (l0.length : Int) H0 k0 l0 W hm P5.out.up P5.out.c0 (Int.le_refl _) (P5.out.below q).r0.pr (by have := P5.out.c0.le; rw [P5.out.rm] at this; omega))
          obtain ⟨⟨y0, y1⟩, _⟩ := row2f hpl.hg
          clear hpl
          go_wp2_with (first
            | (go_at_call 12; ((with_reducible refine CO.out.mono ?_); rintro e w6 ⟨g6, rfl, hm6, hb6⟩; have Q6 := Lib.hid hb6; have M6 := Lib.hid hm6; obtain ⟨⟨y0, y1⟩, _⟩ := row2f (P5.out.below hb6).hg; clear hm6 hb6))
            | (go_at_call 26; ((with_reducible refine (CRd.out _ _ Q6.out M6.out).mono ?_); rintro e w7 ⟨rfl, hb7⟩; have B7 := Lib.hid ((P5.out.bl.trans (Q6.out.mono P5.out.bl.size)).trans (hb7.mono (Nat.le_trans P5.out.bl.size Q6.out.size))); clear hb7)))
          go_ret
          exact ⟨rfl, B7.out⟩
end Pp
end Go.Proofs.Ytjikioiejdfodaa
