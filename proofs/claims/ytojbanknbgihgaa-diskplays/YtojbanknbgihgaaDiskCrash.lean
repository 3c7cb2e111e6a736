/-
  What the document's own Crash does (layer 5).
-/
import Derived.Test.YtojbanknbgihgaaDiskFlush
import Derived.Deep.RegionHeld3
import Derived.Deep.AppendLies
namespace Go.Proofs.Ytojbanknbgihgaa
open Go.RowKit
namespace Dsk
open B

/-- how many bytes stay, of the k-th -/
def keepN (ch : List Int) (k : Nat) : Nat := if h : k < ch.length then min (ch[k] % 512).toNat 256 else 0
theorem keepN_le (ch : List Int) (k : Nat) : keepN ch k ≤ 256 := by unfold keepN; split <;> omega
def tear (a b : ByteArray) (n : Nat) : ByteArray := a.extract 0 n ++ b.extract n 256
def crashFrom (sure : List ByteArray) (ch : List Int) : List ByteArray → Nat → List Int → List ByteArray
  | L, _, [] => L
  | L, k, i :: r => crashFrom sure ch (L.set i.toNat (tear (L.getD i.toNat ⟨#[]⟩) (sure.getD i.toNat ⟨#[]⟩) (keepN ch k))) (k + 1) r
def crash (d : D) (ch : List Int) : D := ⟨crashFrom d.sure ch d.now 0 d.loose, crashFrom d.sure ch d.now 0 d.loose, [], d.writes, -1, false⟩

theorem mod512 (y : Int) : (wrap64 (y.tmod 512 + 512)).tmod 512 = ((y % 512).toNat : Int) := by
  have h1 : y.tmod 512 + 512 ≥ 0 := by have := Int.lt_tmod_of_pos y (show (0 : Int) < 512 by decide); omega
  have h2 : y.tmod 512 < 512 := Int.tmod_lt_of_pos y (by decide)
  have hw : wrap64 (y.tmod 512 + 512) = y.tmod 512 + 512 := by unfold wrap64; go_num
  rw [hw, Int.tmod_eq_emod_of_nonneg h1]
  have : (y.tmod 512 + 512) % 512 = y % 512 := by
    rw [Int.add_emod_right, Int.tmod_eq_emod]
    split <;> omega
  rw [this]; omega
theorem tear_size {p q : ByteArray} {n : Nat} (hp : p.size = 256) (hq : q.size = 256) (hn : n ≤ 256) : (tear p q n).size = 256 := by
  unfold tear; rw [cat_size, ByteArray.size_extract, ByteArray.size_extract]; omega

theorem tear_256 {p q : ByteArray} (hq : q.size = 256) : tear p q 256 = p.extract 0 256 := by
  apply ext_data
  unfold tear
  rw [cat_data, ← hq, ByteArray.data_extract (a := q), Array.toList_extract]; simp [List.extract]
theorem tear_0 (p q : ByteArray) : tear p q 0 = q.extract 0 256 := by
  apply ext_data
  unfold tear
  rw [cat_data, ByteArray.data_extract (a := p), Array.toList_extract]; simp [List.extract]

set_option maxRecDepth 5000 in
set_option maxHeartbeats 4000000 in
theorem refCrash_any {p : Nat → Prop} (A1 A2 A3 A4 : Option Addr) (now sure : List ByteArray) (loose ch : List Int) (c1 c2 c3 c4 : Nat) (ws h : Int) (dn : Bool) (w : World)
    (hl : now.length ≤ 100000) (hp : 0 < now.length) (hsl : sure.length = now.length) (hl3 : loose.length ≤ 100000) (hl4 : ch.length ≤ 100000) (hA : At vStr w A1 now) (hA2 : At vStr w A2 sure) (hA3 : At vInt w A3 loose) (hA4 : At vInt w A4 ch) (hc : A1 = none → c1 = 0)
    (hin : ∀ x ∈ loose, 0 ≤ x ∧ x < (now.length : Int)) (hz : ∀ s ∈ now, s.size = 256) (hzs : ∀ s ∈ sure, s.size = 256) (hpp : ∀ n, w.heap.size ≤ n → p n) :
    Calls Try.prog 16 #[dval (.slice A1 now.length c1) (.slice A2 sure.length c2) (.slice A3 loose.length c3) ws h dn, .slice A4 ch.length c4] w fun e w' => ∃ v, e = .returned v ∧ Is p w' v (crash ⟨now, sure, loose, ws, h, dn⟩ ch) ∧ Below w.heap.size w w' := by
  obtain ⟨i0, hi, hz0, hz1, hz2⟩ := info_parts info9
  have HA := Lib.hid hA
  have HA2 := Lib.hid hA2
  have HA3 := Lib.hid hA3
  have HA4 := Lib.hid hA4
  have HC := Lib.hid hc
  have HI := Lib.hid hin
  have HZ := Lib.hid hz
  have HZS := Lib.hid hzs
  have HPP := Lib.hid hpp
  clear hpp
  clear hA hA2 hA3 hA4 hc hin hz hzs
  have bW : ∀ o p q : Obj, Below w.heap.size w (((w.alloc o).alloc p).alloc q) := fun o p q => ((Below.refl _ w).alloc (Nat.le_refl _) o).alloc (by simp) p |>.alloc (by simp; omega) q
  go_enter Try.func16, Try.ntmps16
  go_wp2_with (at_builtin; refine wpList_append_at (V := vStr) _ rfl _ _ 26 9 rfl (w.heap.size + 2) i0 _ 16 Try.underlying26 hi hz0 hz1 hz2 rfl (by decide) _ [] now (fun _ => rfl) rfl (own_lit0 _ _ _ _ (by simp) (by omega)) A1 c1 rfl (HA.out.below (bW _ _ _)) HC.out (by simp; omega) (by simp) ?_)
  intro v1 w1 own1 g1 _
  have k0 := grown_block g1 (hp_old _ (hp_old _ (heap_last _ _ _ rfl))) (ne_own (by omega))
  have k1 := grown_block g1 (hp_old _ (heap_last _ _ (w.heap.size + 1) (by simp))) (ne_own (by omega))
  have b1 : Below w.heap.size w w1 := (bW _ _ _).grown g1 (by simp; omega) (fun k hk => by simp [Value.ownBlock] at hk; omega)
  have hlo := fun g hg => own1.lt g hg
  obtain ⟨A, c, hv, hAt, _, hAn⟩ := own_at own1
  subst hv
  obtain ⟨bb, off, hAe, hbl, hcells⟩ := hAt (by omega)
  have hz : off = 0 ∧ ∀ i, w1.frozen? ⟨bb, i, none⟩ = false := by
    rcases own1.2 with ⟨hv, _⟩ | ⟨g, cap, cur, hv, _, hg, _⟩
    · rw [hAe] at hv; cases hv
    · rw [hAe] at hv; injection hv with hv; injection hv with hv; injection hv with hv1 hv2
      subst hv1
      exact ⟨hv2, fun i => by unfold World.frozen?; rw [hg]; simp⟩
  obtain ⟨hz, hfr⟩ := hz
  subst hz hAe
  have hbb : w.heap.size + 2 ≤ bb := (hlo bb rfl).1
  have HT := Lib.hid hAt
  have K0 := Lib.hid k0
  have K1 := Lib.hid k1
  have B1 := Lib.hid b1
  have HF := Lib.hid hfr
  obtain ⟨k00, k01, k02, k03, k04, k05, f00, f01, f02, f03, f04, f05⟩ := row6 k0
  clear own1 b1 g1 k0 k1 hfr bW hlo hcells hAt hAn
  go_wp2
  go_loopw [16] (fun t wr => ∃ (k : Nat) (L : List ByteArray), k ≤ loose.length ∧ t = .int .i64 (k : Int) ∧
    wr.heap[w.heap.size]? = some (.cells #[.slice A1 now.length c1, .slice A2 now.length c2, .slice A3 loose.length c3, .int .i64 ws, .int .i64 h, .bool dn] 29) ∧
    wr.heap[w.heap.size + 1]? = some (.cells #[.slice none 0 0, .slice none 0 0, .slice none 0 0, .int .i64 0, .int .i64 0, .bool false] 29) ∧
    At vStr wr (some ⟨bb, 0, none⟩) L ∧ L.length = now.length ∧ (∀ s ∈ L, s.size = 256) ∧ (∀ i, wr.frozen? ⟨bb, i, none⟩ = false) ∧ Below w.heap.size w wr ∧ crashFrom sure ch L k (loose.drop k) = crashFrom sure ch now 0 loose) (fun t _ => loose.length - (intOf t).toNat)
  case atStart => exact ⟨0, now, Nat.zero_le _, rfl, K0.out, K1.out, HT.out, rfl, HZ.out, HF.out, B1.out, rfl⟩
  case round =>
    obtain ⟨k, L, hk, rfl, K0', K1', HT', hLl, hLz, hfr, hb, hr⟩ := hrel
    clear k00 k01 k02 k03 k04 k05 f00 f01 f02 f03 f04 f05 K0 K1 HT B1 HF
    have HR := Lib.hid hr
    have H0 := Lib.hid K0'
    have H1 := Lib.hid K1'
    have H2 := Lib.hid HT'
    have H3 := Lib.hid hLz
    have H4 := Lib.hid hfr
    have H5 := Lib.hid hb
    have HL := Lib.hid hLl
    obtain ⟨k00, k01, k02, k03, k04, k05, f00, f01, f02, f03, f04, f05⟩ := row6 K0'
    clear hr K0' K1' HT' hLz hfr hb hLl
    by_cases hlt : k < loose.length
    · obtain ⟨b3, o3, hA3e, _, hc3⟩ := (HA3.out.below H5.out) (by omega)
      subst hA3e
      have c0 := hc3 k hlt
      clear hc3
      have hx := HI.out loose[k] (List.getElem_mem hlt)
      have HD := Lib.hid (List.drop_eq_getElem_cons hlt)
      generalize loose[k] = x at *
      obtain ⟨i, rfl⟩ : ∃ i : Nat, x = (i : Int) := ⟨x.toNat, by omega⟩
      have hi1 : i < now.length := by omega
      obtain ⟨b2, o2, hA2e, _, hc2⟩ := (HA2.out.below H5.out) (by omega)
      subst hA2e
      have s0 := hc2 i (by omega)
      have hss : sure[i].size = 256 := HZS.out _ (List.getElem_mem _)
      clear hc2
      have l0 := H2.out (by rw [HL.out]; omega)
      obtain ⟨b', o', he, hbl', hcl⟩ := l0
      have hiL : i < L.length := by rw [HL.out]; exact hi1
      have l1 := hcl i hiL
      have hls : L[i].size = 256 := H3.out _ (List.getElem_mem _)
      obtain ⟨rfl, rfl⟩ : bb = b' ∧ 0 = o' := by injection he with he; injection he with e1 e2; exact ⟨e1, e2⟩
      rw [Nat.zero_add] at l1
      clear he hcl
      have hi2 : (i : Int) < (now.length : Int) := by omega
      have hfi := H4.out i
      have HS : Hid (crashFrom sure ch (L.set i (tear L[i] sure[i] (keepN ch k))) (k + 1) (loose.drop (k + 1)) = crashFrom sure ch now 0 loose) := by
        have h1 := HR.out
        rw [HD.out, crashFrom, Int.toNat_natCast] at h1
        have e1 : L.getD i ⟨#[]⟩ = L[i] := by simp [List.getD, List.getElem?_eq_getElem hiL]
        have e2 : sure.getD i ⟨#[]⟩ = sure[i] := by simp [List.getD, List.getElem?_eq_getElem (show i < sure.length by omega)]
        rw [e1, e2] at h1; exact h1
      clear HR HD
      have his : i < sure.length := by omega
      generalize L[i] = p at *
      generalize sure[i] = q at *
      have HPZ := Lib.hid hls
      have HQZ := Lib.hid hss
      by_cases hkc : k < ch.length
      · obtain ⟨b4, o4, hA4e, _, hc4⟩ := (HA4.out.below H5.out) (by omega)
        subst hA4e
        have d0 := hc4 k hkc
        have HKN : Hid (keepN ch k = min (ch[k] % 512).toNat 256) := by unfold keepN; rw [dif_pos hkc]; rfl
        have hmm := mod512 ch[k]
        clear hc4
        have hkc2 : (k : Int) < (ch.length : Int) := by omega
        generalize ch[k] = y at *
        generalize (y % 512).toNat = m at *
        by_cases hm : m ≤ 256
        · have hn : keepN ch k = m := by rw [HKN.out]; omega
          rw [hn] at HS
          clear hn HKN
          go_wp2
          go_region
          go_wp2
          go_roundw
          case rel =>
            refine ⟨k + 1, L.set i (tear p q m), by omega, by go_num, blk_other H0.out (by omega) _, blk_other H1.out (by omega) _, H2.out.set hiL (tear p q m), ?_, ?_, ?_, ?_, HS.out⟩
            · rw [List.length_set]; exact HL.out
            · intro s hs
              rcases List.mem_or_eq_of_mem_set hs with h | h
              · exact H3.out s h
              · rw [h]; exact tear_size HPZ.out HQZ.out (by omega)
            · intro j
              have h := H4.out j
              show (wr.setCell _ _).frozen? _ = false
              rw [World.frozen?_setCell]; exact h
            · have h := H5.out.setCell (p := ⟨bb, i, none⟩) (show w.heap.size ≤ bb by omega) (.string (tear p q m))
              exact ⟨h.os, h.tape, h.output, h.size, h.block⟩
          case measure => simp [intOf]; omega
        · have hn : keepN ch k = 256 := by rw [HKN.out]; omega
          rw [hn, tear_256 HQZ.out] at HS
          clear hn HKN
          go_wp2
          go_region
          go_wp2
          go_roundw
          case rel =>
            refine ⟨k + 1, L.set i (p.extract 0 256), by omega, by go_num, blk_other H0.out (by omega) _, blk_other H1.out (by omega) _, H2.out.set hiL (p.extract 0 256), ?_, ?_, ?_, ?_, HS.out⟩
            · rw [List.length_set]; exact HL.out
            · intro s hs
              rcases List.mem_or_eq_of_mem_set hs with h | h
              · exact H3.out s h
              · rw [h]; exact (by have := tear_size (n := 256) HPZ.out HQZ.out (by omega); rw [tear_256 HQZ.out] at this; exact this)
            · intro j
              have h := H4.out j
              show (wr.setCell _ _).frozen? _ = false
              rw [World.frozen?_setCell]; exact h
            · have h := H5.out.setCell (p := ⟨bb, i, none⟩) (show w.heap.size ≤ bb by omega) (.string (p.extract 0 256))
              exact ⟨h.os, h.tape, h.output, h.size, h.block⟩
          case measure => simp [intOf]; omega
      · have hn : keepN ch k = 0 := by unfold keepN; rw [dif_neg hkc]
        rw [hn, tear_0] at HS
        clear hn
        go_wp2
        go_region
        go_wp2
        go_roundw
        case rel =>
          refine ⟨k + 1, L.set i (q.extract 0 256), by omega, by go_num, blk_other H0.out (by omega) _, blk_other H1.out (by omega) _, H2.out.set hiL (q.extract 0 256), ?_, ?_, ?_, ?_, HS.out⟩
          · rw [List.length_set]; exact HL.out
          · intro s hs
            rcases List.mem_or_eq_of_mem_set hs with h | h
            · exact H3.out s h
            · rw [h]; exact (by have := tear_size (n := 0) HPZ.out HQZ.out (by omega); rw [tear_0] at this; exact this)
          · intro j
            have h := H4.out j
            show (wr.setCell _ _).frozen? _ = false
            rw [World.frozen?_setCell]; exact h
          · have h := H5.out.setCell (p := ⟨bb, i, none⟩) (show w.heap.size ≤ bb by omega) (.string (q.extract 0 256))
            exact ⟨h.os, h.tape, h.output, h.size, h.block⟩
        case measure => simp [intOf]; omega
    · have hd : loose.drop k = [] := List.drop_eq_nil_of_le (by omega)
      have hr := HR.out
      rw [hd, crashFrom] at hr
      have HX := Lib.hid hr
      clear hd hr HR
      have hLp : 0 < L.length := by rw [HL.out]; exact hp
      go_wp2
      have hne := World.new_ne wr ⟨w.heap.size, 3, none⟩ k03
      have hLl := HL.out
      have bA : ∀ o : Obj, Below wr.heap.size wr (wr.alloc o).drew := fun o => by
        have h := (Below.refl wr.heap.size wr).alloc (Nat.le_refl _) o
        exact ⟨h.os, h.tape, h.output, h.size, h.block⟩
      have bs := H5.out.size
      have bl := blk_lt H1.out
      go_region_held3 (fun w' => w'.cell? ⟨w.heap.size, 3, none⟩ = some (.int .i64 ws))
        (first
          | go_keep
          | exact r3
          | (trace_state; fail))
        ((refine step_append_lies _ (by rfl) _ _ _ (by rfl) (w.heap.size + 2) 9 i0 _ 1 16 Try.underlying26 hi hz0 hz1 hz2 rfl (by decide) _ 0 [] (by rfl) ((own_lit0 wr _ _ _ rfl (by omega)).drew)
            ⟨bb, 0, none⟩ now.length c (L.map vStr) (by rfl) (by rw [List.length_map]; omega) (At.news (H2.out.below (bA _))) (fun u hu => by obtain ⟨y, _, rfl⟩ := List.mem_map.1 hu; rfl) hp (by unfold maxLen; omega) (by omega) (by simp; omega) (wr.heap.size + 1) (by simp) ?_; intro gg cap w2 own2 grow2 lies2 lt2; have r3 := (row6 (grown_block grow2 (hp_old _ H0.out) (ne_own (by omega)))).2.2.2.1; obtain ⟨k10, k11, k12, k13, k14, k15, f10, f11, f12, f13, f14, f15⟩ := row6 (grown_block grow2 (hp_old _ H1.out) (ne_own (by omega)))))
      have bB : Below wr.heap.size wr w2 := (bA _).grown grow2 (by simp) (fun r hr => by have : wr.heap.size = r := Option.some.inj hr; omega)
      have HB := Lib.hid bB
      have H6 : Hid (w2.ownsRow (w.heap.size + 2) 9 1 (.slice (some ⟨gg, 0, none⟩) now.length cap) now.length (L.map vStr)) := Lib.hid (by simpa using own2)
      have HE : Hid (L.length = now.length) := hLl
      clear own2 grow2 lies2 lt2 bB bA hne bs
      go_wp2
      (try simp only [Exit.inBlock, Exit.then])
      refine bodyPost_ret (results_cells rfl _ _ (w.heap.size + 1) [.slice (some ⟨bb, 0, none⟩) now.length c, .slice (some ⟨gg, 0, none⟩) now.length cap, .slice none 0 0, .int .i64 ws, .int .i64 (-1), .bool false] _ rfl ?_ Try.underlying29 disk_info) rfl ?_
      · refine six ?_ ?_ ?_ ?_ ?_ ?_ <;> go_simp
      · refine ⟨_, rfl, ⟨some ⟨bb, 0, none⟩, c, some ⟨gg, 0, none⟩, cap, none, 0, ?_, ?_, ?_, At.nil _ _, (fun e => by cases e), (fun e => by cases e), (fun _ => rfl), (fun _ a ha => HPP.out _ (by injection ha with ha; subst ha; show w.heap.size ≤ bb; omega)), (fun _ a ha => HPP.out _ (by have := own_from H6.out a ha; omega)), fun _ a ha => by cases ha⟩, ?_⟩
        · show dval _ _ _ _ _ _ = dval (.slice _ (crashFrom sure ch now 0 loose).length c) (.slice _ (crashFrom sure ch now 0 loose).length cap) _ _ _ _
          rw [← HX.out, HE.out]; rfl
        · show At vStr _ _ (crashFrom sure ch now 0 loose)
          rw [← HX.out]
          repeat (refine At.other ?_ (fun c hc => by injection hc with hc; subst hc; simp; omega) _)
          exact H2.out.below HB.out
        · show At vStr _ _ (crashFrom sure ch now 0 loose)
          rw [← HX.out]
          refine own_at' (B := w.heap.size + 2) (e := 9) (m := now.length) (c := cap) (n := now.length) ?_
          repeat (refine ownsRow_setCell_below ?_ (by simp) _)
          exact H6.out
        · repeat (refine Below.setCell ?_ (by simp) _)
          exact H5.out.trans (HB.out.mono H5.out.size)
end Dsk
end Go.Proofs.Ytojbanknbgihgaa
