/-
  The program's disk: Write.
-/
import Derived.Test.YtnnjcgamhkmljaaDiskPut
namespace Go.Proofs.Ytnnjcgamhkmljaa
open Go.RowKit
namespace Dsk
open B

theorem withR_mem {x : Int} : ∀ {l : List Int}, l.Pairwise (· < ·) → x ∈ l → withR x l = l
  | [], _, h => by cases h
  | y :: r, hp, h => by
    rw [List.pairwise_cons] at hp
    unfold withR
    rcases List.mem_cons.1 h with rfl | h
    · rw [if_neg (by omega), if_pos rfl]
    · have := hp.1 x h
      rw [if_neg (by omega), if_neg (by omega), withR_mem hp.2 h]
theorem withR_len {x : Int} : ∀ {l : List Int}, x ∉ l → (withR x l).length = l.length + 1
  | [], _ => rfl
  | y :: r, h => by
    rw [List.mem_cons, not_or] at h
    unfold withR
    split
    · rfl
    · rw [if_neg h.1, List.length_cons, withR_len h.2]; rfl
theorem mem_withR {x z : Int} : ∀ {l : List Int}, z ∈ withR x l ↔ z = x ∨ z ∈ l
  | [] => by simp [withR]
  | y :: r => by
    unfold withR
    split
    · simp
    · split
      · rename_i h; subst h; simp
      · rw [List.mem_cons, mem_withR, List.mem_cons]
        constructor
        · rintro (h | h | h)
          · exact .inr (.inl h)
          · exact .inl h
          · exact .inr (.inr h)
        · rintro (h | h | h)
          · exact .inr (.inl h)
          · exact .inl h
          · exact .inr (.inr h)
theorem withR_rise {x : Int} : ∀ {l : List Int}, l.Pairwise (· < ·) → (withR x l).Pairwise (· < ·)
  | [], _ => by simp [withR]
  | y :: r, h => by
    have h' := h
    rw [List.pairwise_cons] at h
    unfold withR
    split
    · rename_i hx
      rw [List.pairwise_cons]
      refine ⟨fun z hz => ?_, h'⟩
      rcases List.mem_cons.1 hz with rfl | hz
      · exact hx
      · exact Int.lt_trans hx (h.1 z hz)
    · split
      · exact h'
      · rw [List.pairwise_cons]
        refine ⟨fun z hz => ?_, withR_rise h.2⟩
        rcases mem_withR.1 hz with rfl | hz
        · omega
        · exact h.1 z hz
theorem contains_withR (x z : Int) (l : List Int) : (withR x l).contains z = (z == x || l.contains z) := by
  rw [Bool.eq_iff_iff]
  simp [mem_withR]

/-- a sector that was not loose goes into the map -/
theorem LoAt.put {w : World} {bm : Nat} {loose : List Int} {sure : List ByteArray} (M : DataW Unit) (k : Nat) (x : ByteArray)
    (hown : w.ownsMap Try.prog 3 elem bm (loose.length + 1) (M.put (.int .i64 (k : Int)) (.agg [.lit (.string x.data.toList)]))) (hm : Maps.IsMap M)
    (hhas : ∀ k : Int, Maps.has M (.int .i64 k) = loose.contains k) (hat : ∀ k ∈ loose, ∀ z, M.atKey (.int .i64 k) z = .agg [.lit (.string (sure.getD k.toNat ⟨#[]⟩).data.toList)])
    (hk : (k : Int) ∉ loose) (hx : sure.getD k ⟨#[]⟩ = x) : LoAt w bm (withR (k : Int) loose) sure := by
  refine ⟨_, by rw [withR_len hk]; exact hown, fun j => ?_, fun j hj z => ?_⟩
  · rw [contains_withR]
    by_cases e : j = (k : Int)
    · subst e; rw [Maps.has_put_same hm (by trivial)]; simp
    · rw [Maps.has_put_other (by intro h; injection h with _ h; exact e h), hhas]
      have : (j == (k : Int)) = false := by simpa using e
      rw [this]; rfl
  · by_cases e : j = (k : Int)
    · subst e; rw [Maps.atKey_put_same hm (by trivial), Int.toNat_natCast, hx]
    · rw [Maps.atKey_put_other (by intro h; injection h with _ h; exact e h)]
      rcases mem_withR.1 hj with h | h
      · exact absurd h e
      · exact hat j h z

theorem DAt.sec_set {w : World} {b : Bl} {d : D} (h : DAt w b d) {k : Nat} (hk : k < d.now.length) (x : ByteArray) : DAt (w.setCell ⟨b.bs, k, none⟩ (.string x)) b { d with now := d.now.set k x } := by
  obtain ⟨l1, l2, l3⟩ := h.lts
  obtain ⟨row, sec, free, slt, lo, n1, n2, n3⟩ := h
  refine ⟨?_, sec.set hk x, ?_, by simpa using slt, ?_, n1, n2, n3⟩
  · obtain ⟨c, left, hr, r⟩ := row
    refine ⟨c, left, ?_, r⟩
    have := blk_other (b := b.bs) (i := k) hr n1 (.string x)
    simpa using this
  · intro i; rw [World.frozen?_setCell]; exact free i
  · obtain ⟨M, ⟨es, clock, hb, r⟩, h2⟩ := lo
    exact ⟨M, ⟨es, clock, blk_other hb (fun e => n3 e.symm) _, r⟩, h2⟩
theorem sec_cell {w : World} {b : Bl} {d : D} (h : DAt w b d) {k : Nat} (hk : k < d.now.length) : w.cell? ⟨b.bs, k, none⟩ = some (.string (d.now.getD k ⟨#[]⟩)) := by
  obtain ⟨b', off, he, _, hc⟩ := h.sec (by omega)
  obtain ⟨rfl, rfl⟩ : b.bs = b' ∧ 0 = off := by injection he with he; injection he with e1 e2; exact ⟨e1, e2⟩
  have := hc k hk
  rw [Nat.zero_add] at this
  rw [this]; simp [List.getD, List.getElem?_eq_getElem hk]

set_option maxRecDepth 100000 in
set_option maxHeartbeats 2000000 in
theorem write_again (b : Bl) (dd : D) (k : Nat) (s : ByteArray) (w : World) (hk : k < dd.now.length) (hs : s.size ≤ 256) (h1 : (k : Int) ≤ 9223372036854775807) (hm : (k : Int) ∈ dd.loose) (hrise : dd.loose.Pairwise (· < ·))
    (CR : Hid (Calls Try.prog 49 #[.pointer (some ⟨b.g, 0, none⟩), .int .i64 (k : Int)] w fun e w' => e = .returned (.int .i64 0) ∧ w = w'))
    (CS : Hid (Calls Try.prog 37 #[.pointer (some ⟨b.g, 0, none⟩)] w fun e w' => e = .returned (.int .i64 0) ∧ DAt w' b dd ∧ Tch [b.g] w w')) :
    Calls Try.prog 39 #[.pointer (some ⟨b.g, 0, none⟩), .int .i64 (k : Int), .string s] w fun e w' => e = .returned (.int .i64 0) ∧ DAt w' b { dd with now := dd.now.set k (fill s), loose := withR (k : Int) dd.loose } ∧ Tch b.l w w' := by
  have HM := Lib.hid (withR_mem hrise hm)
  have hc : dd.loose.contains (k : Int) = true := by simpa using hm
  have CF := Lib.hid (fun W => filled_any s W hs)
  have hs3 : ¬ (256 : Int) < (s.size : Int) := by omega
  have hki : (k : Int) < (dd.now.length : Int) := by omega
  have h0 : (0 : Int) ≤ (k : Int) := by omega
  clear hm
  go_enter Try.func39, Try.ntmps39
  go_wp2_with (first
    | (go_at_call 49; ((with_reducible refine CR.out.mono ?_); rintro e w' ⟨rfl, rfl⟩))
    | (go_at_call 37; ((with_reducible refine CS.out.mono ?_); rintro e w1 ⟨rfl, hD, ht⟩; obtain ⟨c', left', hr', _⟩ := hD.row; obtain ⟨⟨d0, d1, d2, d3, d4⟩, g0, g1, g2, g3, g4⟩ := row5 hr'; obtain ⟨M, hown, hhas, hat⟩ := hD.lo; obtain ⟨v0, ps, hlk, hv⟩ := hown.look_ok ikey Try.underlying77 (zeroB _) (elem_mk ⟨#[]⟩) (ikl k (by omega) h1); obtain ⟨s0, rfl, _⟩ := elem_inv hv; rw [hhas, hc] at hlk; have hfk := hD.free k; have hck := sec_cell hD hk; obtain ⟨l1, l2, l3⟩ := hD.lts; have HD1 := Lib.hid hD; have HT1 := Lib.hid ht; clear hD ht hr' hown hhas hat hv)))
  have HDW := Lib.hid (HD1.out.below ((Below.refl w1.heap.size w1).alloc (Nat.le_refl _) (.cells #[.string s0] 89)))
  have HTW := Lib.hid (HT1.out.alloc (.cells #[.string s0] 89))
  clear d0 d1 d2 d3 d4 g0 g1 g2 g3 g4 hfk hck l1 l2 l3 HD1 HT1 hlk
  generalize w1.alloc (.cells #[.string s0] 89) = W at *
  obtain ⟨c, left, hr, _⟩ := HDW.out.row
  obtain ⟨⟨d0, d1, d2, d3, d4⟩, g0, g1, g2, g3, g4⟩ := row5 hr
  have hfk := HDW.out.free k
  have hck := sec_cell HDW.out hk
  obtain ⟨l1, l2, l3⟩ := HDW.out.lts
  clear hr
  go_region_held3 (fun w' => w'.cell? ⟨b.g, 0, none⟩ = some (.slice (some ⟨b.bs, 0, none⟩) dd.now.length c))
    (first
      | go_keep
      | exact r0
      | (rw [World.cell?_setCell_other _ _ _ _ (by intro e; injection e with e _; exact HDW.out.n1 e.symm)]; exact r0))
    (first | (go_at_call 33; refine (CF.out _).mono ?_; rintro e w' ⟨rfl, hb⟩; have r0 := (hb.cell (p := ⟨b.g, 0, none⟩) (by simpa using l1)).trans (by simpa using d0); have r1 := (hb.cell (p := ⟨b.bs, k, none⟩) (by simpa using l2)).trans (by simpa using hck); have r2 := (hb.frozen (p := ⟨b.bs, k, none⟩) (by simpa using l2)).trans (by simpa using hfk)))
  have hb' : Below W.heap.size W w' := ⟨hb.os, hb.tape, hb.output, hb.size, hb.block⟩
  go_wp2
  go_ret
  refine ⟨rfl, ?_, ((HTW.out.mono (bl_g b)).trans (Tch.of_below hb')).set (by simp) _⟩
  have := (HDW.out.below hb').sec_set hk (fill s)
  rw [HM.out]; exact this

set_option maxRecDepth 100000 in
set_option maxHeartbeats 2000000 in
theorem write_new (b : Bl) (dd : D) (k : Nat) (s : ByteArray) (w : World) (hk : k < dd.now.length) (hs : s.size ≤ 256) (h1 : (k : Int) ≤ 9223372036854775807) (hm : (k : Int) ∉ dd.loose) (hl : dd.loose.length ≤ 100000) (hsame : dd.sure.getD k ⟨#[]⟩ = dd.now.getD k ⟨#[]⟩)
    (CR : Hid (Calls Try.prog 49 #[.pointer (some ⟨b.g, 0, none⟩), .int .i64 (k : Int)] w fun e w' => e = .returned (.int .i64 0) ∧ w = w'))
    (CS : Hid (Calls Try.prog 37 #[.pointer (some ⟨b.g, 0, none⟩)] w fun e w' => e = .returned (.int .i64 0) ∧ DAt w' b dd ∧ Tch [b.g] w w')) :
    Calls Try.prog 39 #[.pointer (some ⟨b.g, 0, none⟩), .int .i64 (k : Int), .string s] w fun e w' => e = .returned (.int .i64 0) ∧ DAt w' b { dd with now := dd.now.set k (fill s), loose := withR (k : Int) dd.loose } ∧ Tch b.l w w' := by
  have HM := Lib.hid hm
  have HSM := Lib.hid hsame
  have hc : dd.loose.contains (k : Int) = false := by simpa using hm
  have CF := Lib.hid (fun W => filled_any s W hs)
  have hs3 : ¬ (256 : Int) < (s.size : Int) := by omega
  have hki : (k : Int) < (dd.now.length : Int) := by omega
  have h0 : (0 : Int) ≤ (k : Int) := by omega
  clear hm hsame
  go_enter Try.func39, Try.ntmps39
  go_wp2_with (first
    | (go_at_call 49; ((with_reducible refine CR.out.mono ?_); rintro e w' ⟨rfl, rfl⟩))
    | (go_at_call 37; ((with_reducible refine CS.out.mono ?_); rintro e w1 ⟨rfl, hD, ht⟩; obtain ⟨c', left', hr', _⟩ := hD.row; obtain ⟨⟨d0, d1, d2, d3, d4⟩, g0, g1, g2, g3, g4⟩ := row5 hr'; obtain ⟨M, hown, hhas, hat⟩ := hD.lo; obtain ⟨v0, ps, hlk, hv⟩ := hown.look_ok ikey Try.underlying77 (zeroB _) (elem_mk ⟨#[]⟩) (ikl k (by omega) h1); obtain ⟨s0, rfl, _⟩ := elem_inv hv; rw [hhas, hc] at hlk; have HD1 := Lib.hid hD; have HT1 := Lib.hid ht; clear hD ht hr' hown hhas hat hv)))
  have HDW := Lib.hid (HD1.out.below ((Below.refl w1.heap.size w1).alloc (Nat.le_refl _) (.cells #[.string s0] 89)))
  have HTW := Lib.hid (HT1.out.alloc (.cells #[.string s0] 89))
  clear d0 d1 d2 d3 d4 g0 g1 g2 g3 g4 HD1 HT1 hlk
  generalize w1.alloc (.cells #[.string s0] 89) = W at *
  obtain ⟨c, left, hr, _⟩ := HDW.out.row
  obtain ⟨⟨d0, d1, d2, d3, d4⟩, g0, g1, g2, g3, g4⟩ := row5 hr
  have hck := sec_cell HDW.out hk
  have HX := Lib.hid hck
  obtain ⟨x, hx⟩ : ∃ x, x = dd.now.getD k ⟨#[]⟩ := ⟨_, rfl⟩
  rw [← hx] at hck
  rw [← hx] at HSM
  obtain ⟨M', hown, hhas, hat⟩ := HDW.out.lo
  obtain ⟨w2, hst, hown2, hturn⟩ := (show W.drew.ownsMap Try.prog 3 elem b.bm dd.loose.length M' from hown).store ikey Try.underlying77 (by unfold maxLen; omega) (ikl k (by omega) h1) (elem_mk x)
  have HLO := Lib.hid (LoAt.put M' k x hown2 hown.isMap hhas hat HM.out HSM.out)
  have HG : Hid (W.grownBy w2 (some b.bm)) := ⟨hturn.grown.os, hturn.grown.tape, hturn.grown.output, hturn.grown.size, hturn.grown.block⟩
  have HDM := Lib.hid (HDW.out.map_new (d' := { dd with loose := withR (k : Int) dd.loose }) HG.out HLO.out rfl rfl rfl rfl)
  clear hr hown hhas hat hown2 hturn HX hx HSM
  go_region
  go_wp2
  clear d0 d1 d2 d3 d4 g0 g1 g2 g3 g4 hck hst
  obtain ⟨c, left, hr, _⟩ := HDM.out.row
  obtain ⟨⟨d0, d1, d2, d3, d4⟩, g0, g1, g2, g3, g4⟩ := row5 hr
  have hfk := HDM.out.free k
  have hck := sec_cell HDM.out hk
  obtain ⟨l1, l2, l3⟩ := HDM.out.lts
  clear hr
  go_region_held3 (fun w' => w'.cell? ⟨b.g, 0, none⟩ = some (.slice (some ⟨b.bs, 0, none⟩) dd.now.length c))
    (first
      | go_keep
      | exact r0
      | (rw [World.cell?_setCell_other _ _ _ _ (by intro e; injection e with e _; exact HDW.out.n1 e.symm)]; exact r0))
    (first | (go_at_call 33; refine (CF.out _).mono ?_; rintro e w' ⟨rfl, hb⟩; have r0 := (hb.cell (p := ⟨b.g, 0, none⟩) (by simpa using l1)).trans (by simpa using d0); have r1 := (hb.cell (p := ⟨b.bs, k, none⟩) (by simpa using l2)).trans (by simpa using hck); have r2 := (hb.frozen (p := ⟨b.bs, k, none⟩) (by simpa using l2)).trans (by simpa using hfk)))
  have hb' : Below w2.heap.size w2 w' := ⟨hb.os, hb.tape, hb.output, hb.size, hb.block⟩
  go_wp2
  go_ret
  refine ⟨rfl, ?_, (((HTW.out.mono (bl_g b)).grown HG.out (by simp)).trans (Tch.of_below hb')).set (by simp) _⟩
  exact (HDM.out.below hb').sec_set hk (fill s)

theorem turn_inv {d : D} (h : Inv d) (hw : d.writes < 1000000) : Inv (turn d).1 := by
  obtain ⟨a1, a2, a3, a4, a5, a6, a7, a8, a9, a10⟩ := h
  unfold turn
  split
  · exact ⟨a1, a2, a3, a4, a5, a6, a7, a8, a9, a10⟩
  · exact ⟨a1, a2, a3, a4, a5, a6, a7, a8, by show 0 ≤ d.writes + 1; omega, by show d.writes + 1 ≤ 1000000; omega⟩
theorem loose_len {l : List Int} {n : Nat} (hr : l.Pairwise (· < ·)) (hi : ∀ x ∈ l, 0 ≤ x ∧ x < (n : Int)) : l.length ≤ n := by
  have h : ∀ (l : List Int) (a : Int), l.Pairwise (· < ·) → (∀ x ∈ l, a ≤ x ∧ x < (n : Int)) → a ≤ (n : Int) → (l.length : Int) ≤ (n : Int) - a := by
    intro l
    induction l with
    | nil => intro a _ _ h; simp; omega
    | cons y r ih =>
      intro a hp hx ha
      rw [List.pairwise_cons] at hp
      have hy := hx y (by simp)
      have := ih (y + 1) hp.2 (fun x hxr => ⟨by have := hp.1 x hxr; omega, (hx x (by simp [hxr])).2⟩) (by omega)
      simp only [List.length_cons]; omega
  have := h l 0 hr hi (by omega)
  omega
theorem write_inv {d : D} (h : Inv d) (hw : d.writes < 1000000) (i : Int) (s : ByteArray) : Inv (write d i s).1 := by
  unfold write
  split
  · exact h
  · split
    · exact h
    · rename_i h1
      split
      · exact h
      · rename_i h2
        have ht := turn_inv h hw
        obtain ⟨e1, e2, e3⟩ := turn_now d
        simp only
        split
        · obtain ⟨a1, a2, a3, a4, a5, a6, a7, a8, a9, a10⟩ := ht
          have hf : (fill s).size = 256 := fill_size (by omega)
          refine ⟨by simpa using a1, by simpa using a2, by simpa using a3, ?_, a5, ?_, withR_rise a7, ?_, a9, a10⟩
          · intro t ht
            rcases List.mem_or_eq_of_mem_set ht with h | h
            · exact a4 t h
            · rw [h]; exact hf
          · intro x hx
            simp only [List.length_set]
            rcases mem_withR.1 hx with rfl | hx
            · rw [e1]; omega
            · exact a6 x hx
          · intro k hk hn
            simp only [List.length_set] at hk
            have hn' : ¬ ((k : Int) = i ∨ (k : Int) ∈ (turn d).1.loose) := fun h => hn (mem_withR.2 h)
            rw [not_or] at hn'
            have hne : i.toNat ≠ k := by omega
            have := a8 k hk hn'.2
            simp only [List.getD_eq_getElem?_getD, List.getElem?_set_ne hne] at this ⊢
            exact this
        · exact ht
theorem flush_inv {d : D} (h : Inv d) (hw : d.writes < 1000000) : Inv (flush d).1 := by
  unfold flush
  split
  · exact h
  · have ht := turn_inv h hw
    simp only
    split
    · obtain ⟨a1, a2, a3, a4, a5, a6, a7, a8, a9, a10⟩ := ht
      exact ⟨rfl, a2, a3, a4, a4, (by intro x hx; cases hx), List.Pairwise.nil, fun _ _ _ => rfl, a9, a10⟩
    · exact ht
theorem halt_inv {d : D} (h : Inv d) (n : Int) : Inv (halt d n) := by
  obtain ⟨a1, a2, a3, a4, a5, a6, a7, a8, a9, a10⟩ := h
  exact ⟨a1, a2, a3, a4, a5, a6, a7, a8, a9, a10⟩

set_option maxRecDepth 100000 in
set_option maxHeartbeats 2000000 in
theorem write_any (b : Bl) (d : D) (i : Int) (s : ByteArray) (w : World) (h : DAt w b d) (hi : Inv d) (hw : d.writes < 1000000) :
    Calls Try.prog 39 #[.pointer (some ⟨b.g, 0, none⟩), .int .i64 i, .string s] w fun e w' => e = .returned (.int .i64 (write d i s).2) ∧ DAt w' b (write d i s).1 ∧ Tch b.l w w' := by
  have HD := Lib.hid h
  have CS := Lib.hid (step_any b d w h hi)
  have CR := Lib.hid (reach_any b d i w h)
  by_cases hz : reach d i = 0
  · obtain ⟨hd, hp, hq⟩ := reach_ok hz
    obtain ⟨k, rfl⟩ : ∃ k : Nat, i = (k : Int) := ⟨i.toNat, by omega⟩
    have hk : k < d.now.length := by omega
    have hbig := hi.big
    have hti := turn_inv hi hw
    unfold write
    rw [hd, if_neg (by decide), if_neg (by omega)]
    rw [hz] at CR
    by_cases hs2 : 256 < s.size
    · rw [if_pos hs2]
      have hs3 : (256 : Int) < (s.size : Int) := by omega
      clear CS hi h hz hd hs2 hti
      go_enter Try.func39, Try.ntmps39
      go_wp2_with (go_at_call 49; ((with_reducible refine CR.out.mono ?_); rintro e w' ⟨rfl, rfl⟩))
      go_ret
      exact ⟨rfl, HD.out, Tch.refl _ _⟩
    · rw [if_neg hs2]
      have hs3 : ¬ (256 : Int) < (s.size : Int) := by omega
      by_cases hh : d.halt = 0
      · have e1 : stepN d = 6 := if_pos hh
        rw [turn_halt hh]
        simp only [Bool.false_eq_true, if_false]
        rw [e1, turn_halt hh] at CS
        clear hi h hz hd hs2 hh e1 hti
        go_enter Try.func39, Try.ntmps39
        go_wp2_with (first
          | (go_at_call 49; ((with_reducible refine CR.out.mono ?_); rintro e w' ⟨rfl, rfl⟩))
          | (go_at_call 37; ((with_reducible refine CS.out.mono ?_); rintro e w1 ⟨rfl, hD, ht⟩; have HD1 := Lib.hid hD; have HT1 := Lib.hid ht; clear hD ht)))
        go_ret
        exact ⟨rfl, HD1.out, HT1.out.mono (bl_g b)⟩
      · have e1 : stepN d = 0 := if_neg hh
        have e2 := turn_go hh
        simp only [e2, if_true]
        rw [e1] at CS
        obtain ⟨t1, t2, t3⟩ := turn_now d
        rw [← t1] at hk
        rw [Int.toNat_natCast]
        generalize (turn d).1 = dd at *
        by_cases hm : (k : Int) ∈ dd.loose
        · exact write_again b dd k s w hk (by omega) (by omega) hm hti.rise CR CS
        · exact write_new b dd k s w hk (by omega) (by omega) hm (by have := loose_len hti.rise hti.inr; have := hti.big; omega) (hti.same k hk hm) CR CS
  · have hb : (reach d i != 0) = true := by simpa using hz
    have e : write d i s = (d, reach d i) := by
      unfold write reach
      unfold reach at hz
      by_cases hd : d.down = true
      · rw [if_pos hd, if_pos hd]
      · rw [if_neg hd] at hz ⊢
        by_cases h2 : i < 0 ∨ (d.now.length : Int) ≤ i
        · rw [if_neg hd, if_pos h2, if_pos h2]
        · rw [if_neg h2] at hz; exact absurd rfl hz
    rw [e]
    generalize reach d i = r at *
    clear h hi CS hz e
    go_enter Try.func39, Try.ntmps39
    go_wp2_with (go_at_call 49; ((with_reducible refine CR.out.mono ?_); rintro e w' ⟨rfl, rfl⟩))
    go_ret
    exact ⟨rfl, HD.out, Tch.refl _ _⟩
end Dsk
end Go.Proofs.Ytnnjcgamhkmljaa
