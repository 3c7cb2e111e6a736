/-
  The program's disk: Crash.
-/
import Derived.Test.YtnnjcgamhkmljaaDiskLo
namespace Go.Proofs.Ytnnjcgamhkmljaa
open Go.RowKit
namespace Dsk
open B

theorem and511 (y : Int) : bits .and .i64 y 511 = ((y % 512).toNat : Int) := by
  show IntKind.i64.wrap ((BitVec.ofInt 64 y &&& BitVec.ofInt 64 511).toNat : Int) = _
  have h : (BitVec.ofInt 64 y &&& BitVec.ofInt 64 511).toNat = (y % 512).toNat := by
    rw [BitVec.toNat_and, show (BitVec.ofInt 64 511).toNat = 511 from rfl]
    rw [show (BitVec.ofInt 64 y).toNat &&& 511 = (BitVec.ofInt 64 y).toNat % 512 from Nat.and_two_pow_sub_one_eq_mod _ 9, BitVec.toNat_ofInt]
    omega
  rw [h]
  exact IntWalk.i64_in _ (by omega)

theorem crashFrom_len (sure : List ByteArray) (ch : List Int) : ∀ (l : List Int) (L : List ByteArray) (k : Nat), (crashFrom sure ch L k l).length = L.length
  | [], _, _ => rfl
  | i :: r, L, k => by rw [crashFrom, crashFrom_len]; simp

/-- what stays while sectors are torn -/
structure Torn (d : D) (L : List ByteArray) : Prop where
  len : L.length = d.now.length
  full : ∀ s ∈ L, s.size = 256

theorem torn_set {d : D} {L : List ByteArray} (h : Torn d L) (i : Nat) {x : ByteArray} (hx : x.size = 256) : Torn d (L.set i x) := by
  refine ⟨by rw [List.length_set]; exact h.len, fun s hs => ?_⟩
  rcases List.mem_or_eq_of_mem_set hs with h1 | h1
  · exact h.full s h1
  · rw [h1]; exact hx
theorem crashFrom_torn {d : D} (hs : ∀ s ∈ d.sure, s.size = 256) (hl : d.sure.length = d.now.length) (ch : List Int) : ∀ (l : List Int) (L : List ByteArray) (k : Nat), Torn d L → (∀ x ∈ l, 0 ≤ x ∧ x < (d.now.length : Int)) → Torn d (crashFrom d.sure ch L k l)
  | [], _, _, h, _ => h
  | i :: r, L, k, h, hx => by
    rw [crashFrom]
    have hi := hx i (by simp)
    refine crashFrom_torn hs hl ch r _ _ (torn_set h _ (tear_size ?_ ?_ (keepN_le _ _))) (fun x hxr => hx x (by simp [hxr]))
    · have hlt : i.toNat < L.length := by rw [h.len]; omega
      rw [List.getD_eq_getElem?_getD, List.getElem?_eq_getElem hlt]
      exact h.full _ (List.getElem_mem _)
    · have hlt : i.toNat < d.sure.length := by omega
      rw [List.getD_eq_getElem?_getD, List.getElem?_eq_getElem hlt]
      exact hs _ (List.getElem_mem _)
theorem crash_inv {d : D} (h : Inv d) (ch : List Int) : Inv (crash d ch) := by
  obtain ⟨a1, a2, a3, a4, a5, a6, a7, a8, a9, a10⟩ := h
  have ht : Torn d (crashFrom d.sure ch d.now 0 d.loose) := crashFrom_torn a5 a1 ch d.loose d.now 0 ⟨rfl, a4⟩ a6
  have hl := ht.len
  exact ⟨rfl, by show 0 < (crashFrom d.sure ch d.now 0 d.loose).length; omega, by show (crashFrom d.sure ch d.now 0 d.loose).length ≤ _; omega, ht.full, ht.full, (by intro x hx; cases hx), List.Pairwise.nil, fun _ _ _ => rfl, a9, a10⟩

theorem field_b (q : ByteArray) (w : World) : Sem.run Try.prog (Instr.field 89 (.agg #[.string q]) 0) w = .ok (.string q) w := by kernel_rfl
/-- one sector more is torn -/
theorem torn_round {w wr : World} {b : Bl} {d : D} {L : List ByteArray} {i : Nat} {x : ByteArray} {A3 A4 : Option Addr} {l3 l4 : List Int} (hD : DAt wr b { d with now := L }) (hT : Torn d L) (hi : i < L.length) (hx : x.size = 256)
    (hA3 : At vInt wr A3 l3) (hA4 : At vInt wr A4 l4) (hn3 : ∀ a, A3 = some a → a.block ∉ b.l) (hn4 : 0 < l4.length → ∀ a, A4 = some a → a.block ∉ b.l) (ht : Tch b.l w wr) :
    DAt (wr.setCell ⟨b.bs, i, none⟩ (.string x)).drew b { d with now := L.set i x } ∧ Torn d (L.set i x) ∧ At vInt (wr.setCell ⟨b.bs, i, none⟩ (.string x)).drew A3 l3 ∧ At vInt (wr.setCell ⟨b.bs, i, none⟩ (.string x)).drew A4 l4 ∧ Tch b.l w (wr.setCell ⟨b.bs, i, none⟩ (.string x)).drew := by
  have k3 := hA3.other (b := b.bs) (o := i) (fun c hc e => hn3 c hc (by rw [e]; simp)) (.string x)
  have k4 : At vInt (wr.setCell ⟨b.bs, i, none⟩ (.string x)) A4 l4 := fun hp => hA4.other (b := b.bs) (o := i) (fun c hc e => hn4 hp c hc (by rw [e]; simp)) (.string x) hp
  have kt := ht.set (g := b.bs) (i := i) (by simp) (.string x)
  exact ⟨(hD.sec_set hi x).kept rfl rfl rfl, torn_set hT i hx, k3.below ⟨rfl, rfl, rfl, Nat.le_refl _, fun _ _ => rfl⟩, k4.below ⟨rfl, rfl, rfl, Nat.le_refl _, fun _ _ => rfl⟩, ⟨kt.os, kt.tape, kt.output, kt.size, kt.block⟩⟩

set_option maxRecDepth 100000 in
set_option maxHeartbeats 4000000 in
theorem crash_any (b : Bl) (d : D) (A4 : Option Addr) (ch : List Int) (c4 : Nat) (w : World) (h : DAt w b d) (hi : Inv d) (hA4 : At vInt w A4 ch) (hl4 : ch.length ≤ 100000) (hn4 : 0 < ch.length → ∀ a, A4 = some a → a.block ∉ b.l) :
    Calls Try.prog 15 #[.pointer (some ⟨b.g, 0, none⟩), .slice A4 ch.length c4] w fun e w' => e = .returned (.tuple #[]) ∧ DAt w' b (crash d ch) ∧ Tch b.l w w' := by
  have CL := Lib.hid (loose_any b d w h hi)
  have HD := Lib.hid h
  have HI := Lib.hid hi
  have HA4 := Lib.hid hA4
  have HN4 := Lib.hid hn4
  have hbig := hi.big
  have hlen := loose_len hi.rise hi.inr
  obtain ⟨l1, l2, l3⟩ := h.lts
  clear h hi hA4 hn4
  go_enter Try.func15, Try.ntmps15
  go_wp2_with (go_at_call 38; ((with_reducible refine CL.out.mono ?_); rintro e w1 ⟨v, rfl, hrow, hb⟩; have hlt := hrow.lt; obtain ⟨A3, c3, hv, hA3, _⟩ := own_at (V := vInt) (l := d.loose) hrow; subst hv; have HA3 := Lib.hid hA3; have HLT := Lib.hid hlt; have HB1 := Lib.hid hb; clear hA3 hrow hb hlt))
  have HA3n : Hid (∀ a, A3 = some a → a.block ∉ b.l) := fun a ha => by
    subst ha
    have := HLT.out a.block rfl
    simp; omega
  go_loopw [10] (fun t wr => ∃ (k : Nat) (L : List ByteArray), k ≤ d.loose.length ∧ t = .int .i64 (k : Int) ∧ DAt wr b { d with now := L } ∧ Torn d L ∧ crashFrom d.sure ch L k (d.loose.drop k) = crashFrom d.sure ch d.now 0 d.loose ∧ At vInt wr A3 d.loose ∧ At vInt wr A4 ch ∧ Tch b.l w wr) (fun t _ => d.loose.length - (intOf t).toNat)
  case atStart => exact ⟨0, d.now, Nat.zero_le _, rfl, HD.out.below HB1.out, ⟨rfl, HI.out.full⟩, rfl, HA3.out, HA4.out.below HB1.out, Tch.of_below HB1.out⟩
  case round =>
    obtain ⟨k, L, hk, rfl, hD, hT, hr, hA3, hA4, hTch⟩ := hrel
    have H1 := Lib.hid hD
    have H2 := Lib.hid hT
    have H3 := Lib.hid hA3
    have H4 := Lib.hid hA4
    have H5 := Lib.hid hTch
    have HR := Lib.hid hr
    have HL := Lib.hid hT.len
    obtain ⟨c, left, hrow, _⟩ := hD.row
    obtain ⟨⟨d0, d1, d2, d3, d4⟩, g0, g1, g2, g3, g4⟩ := row5 hrow
    clear hD hT hA3 hA4 hTch hr hrow HB1 HA3 HLT CL
    by_cases hlt : k < d.loose.length
    · obtain ⟨b3, o3, hA3e, _, hc3⟩ := H3.out (by omega)
      subst hA3e
      have e0 := hc3 k hlt
      clear hc3
      have hx := HI.out.inr d.loose[k] (List.getElem_mem hlt)
      have hxm : d.loose[k] ∈ d.loose := List.getElem_mem hlt
      have HDr := Lib.hid (List.drop_eq_getElem_cons hlt)
      generalize d.loose[k] = x at *
      obtain ⟨i, rfl⟩ : ∃ i : Nat, x = (i : Int) := ⟨x.toNat, by omega⟩
      have hi1 : i < d.now.length := by omega
      have hiL : i < L.length := by rw [HL.out]; exact hi1
      have his : i < d.sure.length := by rw [HI.out.len]; exact hi1
      have s0 := sec_cell H1.out hiL
      have fi := H1.out.free i
      obtain ⟨M, hown, hhas, hat⟩ := H1.out.lo
      obtain ⟨v0, ps, hlk, hv⟩ := (show wr.drew.ownsMap Try.prog 3 elem b.bm d.loose.length M from hown).lookup ikey Try.underlying77 (zeroB _) (elem_mk ⟨#[]⟩) (ikl i (by omega) (by omega))
      obtain ⟨q, rfl, hq⟩ := elem_inv hv
      have hqs : q = d.sure.getD i ⟨#[]⟩ := by
        rw [hat (i : Int) hxm] at hq
        injection hq with hq _; injection hq with hq; injection hq with hq _; injection hq with hq; injection hq with hq
        apply ext_data
        rw [← hq, Int.toNat_natCast]
      have HS : Hid (crashFrom d.sure ch (L.set i (tear (L.getD i ⟨#[]⟩) q (keepN ch k))) (k + 1) (d.loose.drop (k + 1)) = crashFrom d.sure ch d.now 0 d.loose) := by
        have h1 := HR.out
        rw [HDr.out, crashFrom, Int.toNat_natCast, ← hqs] at h1; exact h1
      have hss : q.size = 256 := by
        rw [hqs, List.getD_eq_getElem?_getD, List.getElem?_eq_getElem his]; exact HI.out.fulls _ (List.getElem_mem _)
      have hls : (L.getD i ⟨#[]⟩).size = 256 := by
        rw [List.getD_eq_getElem?_getD, List.getElem?_eq_getElem hiL]; exact H2.out.full _ (List.getElem_mem _)
      clear HR HDr hqs hq hv hown hhas hat
      generalize hp : L.getD i ⟨#[]⟩ = p at *
      clear hp
      have hfd := field_b q wr.drew
      have HPZ := Lib.hid hls
      have HQZ := Lib.hid hss
      have hi2 : (i : Int) < (L.length : Int) := by omega
      by_cases hkc : k < ch.length
      · obtain ⟨b4, o4, hA4e, _, hc4⟩ := H4.out (by omega)
        subst hA4e
        have e4 := hc4 k hkc
        have HKN : Hid (keepN ch k = min (ch[k] % 512).toNat 256) := by unfold keepN; rw [dif_pos hkc]; rfl
        have hmm := and511 ch[k]
        clear hc4
        have hkc2 : (k : Int) < (ch.length : Int) := by omega
        generalize ch[k] = y at *
        generalize (y % 512).toNat = m at *
        by_cases hm : m ≤ 256
        · have hn : keepN ch k = m := by rw [HKN.out]; omega
          rw [hn] at HS
          have hmin : min (m : Int) 256 = (m : Int) := by omega
          clear hn HKN
          go_wp2
          go_region
          go_wp2
          go_roundw
          case rel =>
            obtain ⟨r1, r2, r3, r4, r5⟩ := torn_round H1.out H2.out hiL (tear_size (n := m) HPZ.out HQZ.out (by omega)) H3.out H4.out HA3n.out HN4.out H5.out
            exact ⟨k + 1, L.set i (tear p q m), by omega, by go_num, r1, r2, HS.out, r3, r4, r5⟩
          case measure => simp [intOf]; omega
        · have hn : keepN ch k = 256 := by rw [HKN.out]; omega
          rw [hn, tear_256 HQZ.out] at HS
          have hxs : (p.extract 0 256).size = 256 := by have := tear_size (n := 256) HPZ.out HQZ.out (by omega); rw [tear_256 HQZ.out] at this; exact this
          have HXS := Lib.hid hxs
          have hmin : min (m : Int) 256 = 256 := by omega
          clear hn HKN hxs
          go_wp2
          go_region
          go_wp2
          go_roundw
          case rel =>
            obtain ⟨r1, r2, r3, r4, r5⟩ := torn_round H1.out H2.out hiL HXS.out H3.out H4.out HA3n.out HN4.out H5.out
            exact ⟨k + 1, L.set i (p.extract 0 256), by omega, by go_num, r1, r2, HS.out, r3, r4, r5⟩
          case measure => simp [intOf]; omega
      · have hn : keepN ch k = 0 := by unfold keepN; rw [dif_neg hkc]
        rw [hn, tear_0] at HS
        have hxs : (q.extract 0 256).size = 256 := by have := tear_size (n := 0) HPZ.out HQZ.out (by omega); rw [tear_0] at this; exact this
        have HXS := Lib.hid hxs
        clear hn hxs
        go_wp2
        go_region
        go_wp2
        go_roundw
        case rel =>
          obtain ⟨r1, r2, r3, r4, r5⟩ := torn_round H1.out H2.out hiL HXS.out H3.out H4.out HA3n.out HN4.out H5.out
          exact ⟨k + 1, L.set i (q.extract 0 256), by omega, by go_num, r1, r2, HS.out, r3, r4, r5⟩
        case measure => simp [intOf]; omega
    · have hd : d.loose.drop k = [] := List.drop_eq_nil_of_le (by omega)
      have hr := HR.out
      rw [hd, crashFrom] at hr
      have HX := Lib.hid hr
      obtain ⟨w2, hrun, hlo, hgr⟩ := clear_run H1.out.lo
      have HG := Lib.hid hgr
      have HM := Lib.hid (H1.out.map_new (d' := ⟨L, L, [], d.writes, d.halt, d.down⟩) hgr (hlo _) rfl rfl rfl rfl)
      obtain ⟨c', left', hrow', _⟩ := HM.out.row
      obtain ⟨⟨t0, t1, t2, t3, t4⟩, y0, y1, y2, y3, y4⟩ := row5 hrow'
      have HR2 := Lib.hid hrow'
      clear hd hr HR hgr hlo hrow'
      go_wp2
      go_end0
      have ht : Tch [b.g] w2 ((w2.setCell ⟨b.g, 3, none⟩ (.int .i64 (-1))).setCell ⟨b.g, 4, none⟩ (.bool false)) := ((Tch.refl _ _).set (by simp) _).set (by simp) _
      have e : crash d ch = ⟨L, L, [], d.writes, -1, false⟩ := by unfold crash; rw [HX.out]
      rw [e]
      exact ⟨rfl, HM.out.row_new (left := -1) ht (blk_set (cs := [_, _, _, _, _]) (blk_set (cs := [_, _, _, _, _]) HR2.out 3 (.int .i64 (-1))) 4 (.bool false)) (.inl rfl) (by omega) (by omega) rfl rfl rfl, ((H5.out.grown HG.out (by simp)).set (by simp) _).set (by simp) _⟩
end Dsk
end Go.Proofs.Ytnnjcgamhkmljaa
