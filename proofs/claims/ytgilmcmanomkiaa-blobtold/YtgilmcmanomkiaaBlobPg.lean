/-
  Blobs (layer 8): what Pages does.
-/
import Derived.Test.YtgilmcmanomkiaaBlobBk
namespace Go.Proofs.Ytgilmcmanomkiaa
open Go.RowKit
namespace Bb
open B Dsk Pg
/-- the numbers that Pages has gathered -/
def Nums (B gl : Nat) (xs : List Int) (w : World) : Prop := B ≤ gl ∧ ∃ v, w.heap[gl]? = some (.cells #[v] 34) ∧ w.ownsRow B 3 1 v xs.length (xs.map vInt) ∧ v.ownBlock ≠ some gl
theorem nums_keep {B gl : Nat} {xs : List Int} {w w' : World} (h : Nums B gl xs w) (hb : Below w.heap.size w w') : Nums B gl xs w' := by
  obtain ⟨h1, v, h2, h3, h4⟩ := h
  exact ⟨h1, v, blk_below h2 hb (blk_lt h2), own_below h3 hb, h4⟩
theorem own_ne {w : World} {B n gl : Nat} {v x : Value} {xs : List Value} (h : w.ownsRow B 3 1 v n xs) (hg : w.heap[gl]? = some (.cells #[x] 34)) : v.ownBlock ≠ some gl := by
  rcases h.2 with ⟨rfl, _⟩ | ⟨g, cap, cur, rfl, _, hgg, _⟩
  · intro e; cases e
  · intro e
    have e2 : g = gl := by injection e
    subst e2
    rw [hg] at hgg
    injection hgg with hgg
    injection hgg with _ ht _
    exact absurd ht (by decide)
theorem own_set {w : World} {B n gl : Nat} {v u : Value} {xs : List Value} (h : w.ownsRow B 3 1 v n xs) (hne : v.ownBlock ≠ some gl) : (w.setCell ⟨gl, 0, none⟩ u).ownsRow B 3 1 v n xs :=
  h.kept (row := some gl) (grown_set w gl 0 u) (.inr hne)
set_option maxRecDepth 100000 in
set_option maxHeartbeats 4000000 in
theorem pages1_any (B gl : Nat) (xs : List Int) (n : Int) (s : ByteArray) (w : World) (h : Nums B gl xs w) (hl : xs.length ≤ 1000) (hB : B ≤ w.heap.size) :
    Calls Try.prog 58 #[.int .i64 n, .string s, .pointer (some ⟨gl, 0, none⟩)] w fun e w' => e = .returned (.tuple #[]) ∧ Nums B gl (xs ++ [n]) w' ∧ Below B w w' := by
  obtain ⟨h1, v, h2, h3, h4⟩ := h
  obtain ⟨Av, cv, hv, hrest⟩ := own_at (V := vInt) (l := xs) h3
  clear hrest
  subst hv
  obtain ⟨i0, hi, hz0, hz1, hz2⟩ := info_parts info3
  have c0 : w.cell? ⟨gl, 0, none⟩ = some (.slice Av xs.length cv) := row_cell (cs := [_]) h2 0
  have f0 : w.frozen? ⟨gl, 0, none⟩ = false := row_frozen (cs := [_]) h2 0
  have l2 := blk_lt h2
  have HO := Lib.hid h3
  have H2 := Lib.hid h2
  have H4 := Lib.hid h4
  clear h2 h3 h4
  go_enter Try.func58, Try.ntmps58
  go_wp2_with (at_builtin; refine wpList_append_own _ rfl _ _ 34 rfl B 3 i0 (.int .i64 0) 1 8 Try.underlying34 hi hz0 hz1 hz2 rfl (by decide) _ _ _ rfl (HO.out.alloc _) ⟨w.heap.size, 0, none⟩ 1 1 [.int .i64 n] rfl rfl (cell_one_new _ _ _) ?c2 ?c3 ?c4 ?c5 ?_)
  case c2 => first | exact one_int n | rfl
  case c3 => unfold maxLen; omega
  case c4 => omega
  case c5 => first | (simp; omega) | exact hB | omega
  · intro v' w1 hown' hgrow _
    obtain ⟨A', c', hv', hrest⟩ := own_at (V := vInt) (l := xs ++ [n]) (by rw [List.map_append]; exact hown')
    have hln : (xs ++ [n]).length = xs.length + 1 := by simp
    clear hrest
    rw [hln] at hv'
    subst hv'
    have hg1 : w1.heap[gl]? = some (.cells #[.slice Av xs.length cv] 34) := grown_block hgrow (hp_old (.cells #[.int .i64 n] 3) H2.out) (fun e => H4.out e.symm)
    have bG : Below B w w1 := ((Below.refl B w).alloc hB _).grown hgrow (by simp; omega) (fun k hk => (HO.out.lt k hk).1)
    have hne := own_ne hown' hg1
    have d0 : w1.cell? ⟨gl, 0, none⟩ = some (.slice Av xs.length cv) := row_cell (cs := [_]) hg1 0
    have d1 : w1.frozen? ⟨gl, 0, none⟩ = false := row_frozen (cs := [_]) hg1 0
    have NN : Hid (Nums B gl (xs ++ [n]) (w1.setCell ⟨gl, 0, none⟩ (.slice A' (xs.length + 1) c'))) := ⟨h1, _, blk_set (cs := [_]) hg1 0 _, by
      have := own_set (u := .slice A' (xs.length + 1) c') hown' hne
      rw [hln, List.map_append]
      exact this, hne⟩
    have BN := Lib.hid (bG.setCell (p := ⟨gl, 0, none⟩) h1 (.slice A' (xs.length + 1) c'))
    clear hown' hgrow hg1 bG hne c0 f0 hln
    go_wp2
    go_end0
    exact ⟨rfl, NN.out, BN.out⟩
set_option maxRecDepth 100000 in
set_option maxHeartbeats 4000000 in
theorem walk_pages {B : Nat} (b : Bl) (d : D) (g : Nat) (half : Int) (l : List Pag) (first : Int) (gb : Nat) (w0 w : World) (h0 : PMy B w0 b d g half (l.length : Int)) (h : PMy B w b d g half (l.length : Int)) (hu : Up d) (hc : Con d half l) (hb : Nums w0.heap.size gb [] w) (hw : w0.heap.size ≤ w.heap.size) :
    Calls Try.prog 54 #[.pointer (some ⟨g, 0, none⟩), .int .i64 first, .func (.func 58) #[] #[.pointer (some ⟨gb, 0, none⟩)]] w fun e w' => e = .returned (.int .i64 (bwalk l 279 first).2) ∧ Nums w0.heap.size gb ((bwalk l 279 first).1.map (·.1)) w' ∧ Below w0.heap.size w w' := by
  have H0 := Lib.hid h0
  have PP := Lib.hid h
  have CC : Hid (∀ W, Calls Try.prog 37 #[.int .i64 65536] W fun e w' => e = .returned (.int .i64 279) ∧ W = w') := fun W => cost_any 65536 W (by omega)
  have CL := Lib.hid (fun n W (q : PMy B W b d g half (l.length : Int)) => look_any b d g half l n W q hu hc)
  have HO := Lib.hid hc.ok
  have HB0 := Lib.hid hb
  clear h0 h hu hc hb
  go_enter Try.func54, Try.ntmps54
  go_wp2
  go_step3
  go_wp2
  go_step3
  go_wp2_with (go_at_call 37; ((with_reducible refine (CC.out _).mono ?_); rintro e w' ⟨rfl, rfl⟩))
  go_loopw [7, 8, 14] (fun t7 t8 t14 wr => ∃ (k : Nat) (n : Int) (xs : List (Int × ByteArray)), t7 = .int .i64 n ∧ t8 = .int .i64 8 ∧ t14 = .int .i64 (k : Int) ∧ Goes l first k n xs ∧ (∀ x ∈ xs, x.2.size ≤ 240) ∧ PMy B wr b d g half (l.length : Int) ∧ Nums w0.heap.size gb (xs.map (·.1)) wr ∧ Below w0.heap.size w wr) (fun _ _ t14 _ => 279 - (intOf t14).toNat)
  case atStart => exact ⟨0, first, [], rfl, rfl, rfl, goes_start l first, (fun _ h => by cases h), PP.out, HB0.out, Below.refl _ _⟩
  case round =>
    obtain ⟨k, n, xs, rfl, rfl, rfl, hg, hsz, hp, hbl, hbel⟩ := hrel
    have GG := Lib.hid hg
    have PW := Lib.hid hp
    have BL := Lib.hid hbl
    have BW := Lib.hid hbel
    have sw := hbel.size
    have hk279 := hg.1
    have hxl := hg.2.1
    have SZ := Lib.hid hsz
    clear hg hp hbl hbel hsz
    by_cases hlt : k < 279
    · have hlI : (k : Int) < 279 := by omega
      have cl := CL.out n wr PW.out
      have hpt := look_part HO.out n
      have E1 := Lib.hid (fun h1 => goes_err GG.out hlt h1)
      have E2 := Lib.hid (fun h1 h2 => goes_end GG.out hlt h1 h2)
      have E3 := Lib.hid (fun h1 h2 => goes_on GG.out hlt h1 h2)
      generalize blook l n = r at *
      obtain ⟨nx, part, er⟩ := r
      simp only at cl hpt E1 E2 E3
      dsimp only [pval] at cl
      have CL1 := Lib.hid cl
      clear cl
      by_cases her : er = 0
      · subst her
        have hcl : (xs.map (·.1)).length ≤ 1000 := by rw [List.length_map]; omega
        have C1 := Lib.hid (fun W (q : Nums w0.heap.size gb (xs.map (·.1)) W) hB => pages1_any w0.heap.size gb (xs.map (·.1)) n part W q hcl hB)
        have HSN : Hid ((xs ++ [(n, part)]).map (·.1) = xs.map (·.1) ++ [n]) := by simp [Hid]
        have HS2 : Hid (∀ x ∈ xs ++ [(n, part)], x.2.size ≤ 240) := fun x hx => by
          rcases List.mem_append.mp hx with hx | hx
          · exact SZ.out x hx
          · rw [List.mem_singleton] at hx; subst hx; exact hpt
        by_cases hnx : nx = -1
        · have hE := E2.out rfl hnx
          have HE := Lib.hid hE
          subst hnx
          clear E1 E2 E3 hE
          go_wp2_with (first
            | (go_at_call 66; ((with_reducible refine CL1.out.mono ?_); rintro e w1 ⟨rfl, hb1⟩; have B1 := Lib.hid (hb1.mono (Nat.le_trans hw sw)); have C2 := Lib.hid (C1.out w1 (nums_keep BL.out hb1) (Nat.le_trans (Nat.le_trans hw sw) hb1.size)); clear hb1))
            | (go_at_call 58; ((with_reducible refine C2.out.mono ?_); rintro e w2 ⟨rfl, hl2, hb2⟩; have L2 := Lib.hid hl2; have B2 := Lib.hid hb2; clear hl2 hb2)))
          go_wp2
          rw [Exit.noGoto_ret]
          go_ret
          rw [HE.out]
          refine ⟨rfl, ?_, (BW.out.trans B1.out).trans B2.out⟩
          show Nums w0.heap.size gb ((xs ++ [(n, part)]).map (·.1)) w2
          rw [HSN.out]
          exact L2.out
        · have HG := Lib.hid (E3.out rfl hnx)
          have hnb : (nx == -1) = false := by simpa using hnx
          clear E1 E2 E3 hnx
          go_wp2_with (first
            | (go_at_call 66; ((with_reducible refine CL1.out.mono ?_); rintro e w1 ⟨rfl, hb1⟩; have P1 := Lib.hid (PW.out.below hb1); have B1 := Lib.hid (hb1.mono (Nat.le_trans hw sw)); have s1 := hb1.size; have C2 := Lib.hid (C1.out w1 (nums_keep BL.out hb1) (Nat.le_trans (Nat.le_trans hw sw) hb1.size)); clear hb1))
            | (go_at_call 58; ((with_reducible refine C2.out.mono ?_); rintro e w2 ⟨rfl, hl2, hb2⟩; have L2 := Lib.hid hl2; have B2 := Lib.hid hb2; clear hl2 hb2)))
          go_roundw
          case rel => exact ⟨k + 1, nx, xs ++ [(n, part)], rfl, rfl, by go_num, HG.out, HS2.out, pmy_keep H0.out P1.out B2.out, by rw [HSN.out]; exact L2.out, (BW.out.trans B1.out).trans B2.out⟩
          case measure => simp [intOf]; omega
      · have hE := E1.out her
        have HE := Lib.hid hE
        have hb : (er != 0) = true := by simpa using her
        clear her E1 E2 E3 hE
        go_wp2_with (go_at_call 66; ((with_reducible refine CL1.out.mono ?_); rintro e w1 ⟨rfl, hb1⟩; have L1 := Lib.hid (nums_keep BL.out hb1); have B1 := Lib.hid (hb1.mono (Nat.le_trans hw sw)); clear hb1))
        go_wp2
        rw [Exit.noGoto_ret]
        go_ret
        rw [HE.out]
        exact ⟨rfl, L1.out, BW.out.trans B1.out⟩
    · obtain rfl : k = 279 := by omega
      have HE := Lib.hid (goes_out GG.out)
      go_wp2
      rw [Exit.noGoto_ret]
      go_ret
      rw [HE.out]
      exact ⟨rfl, BL.out, BW.out⟩

/-- what Pages answers -/
def bnums (l : List Pag) (first : Int) : List Int × Int := if (bwalk l 279 first).2 = 0 then ((bwalk l 279 first).1.map (·.1), 0) else ([], (bwalk l 279 first).2)
set_option maxRecDepth 100000 in
set_option maxHeartbeats 4000000 in
theorem bnums_any {B : Nat} (b : Bl) (d : D) (g : Nat) (half : Int) (l : List Pag) (first : Int) (w : World) (h : PMy B w b d g half (l.length : Int)) (hu : Up d) (hc : Con d half l) :
    Calls Try.prog 39 #[.pointer (some ⟨g, 0, none⟩), .int .i64 first] w fun e w' => ∃ v, e = .returned (.tuple #[v, .int .i64 (bnums l first).2]) ∧ w'.ownsRow w.heap.size 3 1 v (bnums l first).1.length ((bnums l first).1.map vInt) ∧ Below w.heap.size w w' := by
  have hb0 := (Below.refl w.heap.size w).alloc (Nat.le_refl _) (.cells #[.slice none 0 0] 34)
  have hbl : Nums w.heap.size w.heap.size [] (w.alloc (.cells #[.slice none 0 0] 34)) :=
    ⟨Nat.le_refl _, .slice none 0 0, heap_last w _ _ rfl, World.ownsRow_nil _ _ _ _, by intro e; cases e⟩
  have cw := walk_pages b d g half l first w.heap.size w (w.alloc (.cells #[.slice none 0 0] 34)) h (h.below hb0) hu hc hbl hb0.size
  have HR : Hid (bnums l first = if (bwalk l 279 first).2 = 0 then ((bwalk l 279 first).1.map (·.1), 0) else ([], (bwalk l 279 first).2)) := rfl
  have B0 := Lib.hid hb0
  generalize bwalk l 279 first = q at *
  obtain ⟨xs, er⟩ := q
  simp only at cw HR
  have CW := Lib.hid cw
  clear h hu hc hb0 hbl cw
  by_cases her : er = 0
  · subst her
    rw [if_pos rfl] at HR
    rw [HR.out]
    go_enter Try.func39, Try.ntmps39
    go_wp2_with (go_at_call 54; ((with_reducible refine CW.out.mono ?_); rintro e w1 ⟨rfl, ⟨_, v, hv1, hv2, _⟩, hb1⟩; have B1 := Lib.hid (B0.out.trans hb1); have c0 : w1.cell? ⟨w.heap.size, 0, none⟩ = some v := row_cell (cs := [_]) hv1 0; have V2 := Lib.hid hv2; clear hv1 hv2 hb1))
    go_ret2
    exact ⟨v, rfl, V2.out, B1.out⟩
  · rw [if_neg her] at HR
    rw [HR.out]
    have hb : (er != 0) = true := by simpa using her
    clear her
    go_enter Try.func39, Try.ntmps39
    go_wp2_with (go_at_call 54; ((with_reducible refine CW.out.mono ?_); rintro e w1 ⟨rfl, hl1, hb1⟩; have B1 := Lib.hid (B0.out.trans hb1); clear hl1 hb1))
    go_ret2
    exact ⟨_, rfl, World.ownsRow_nil _ _ _ _, B1.out⟩
end Bb
end Go.Proofs.Ytgilmcmanomkiaa
