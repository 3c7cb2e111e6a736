/-
  Blobs (layer 8): what walk, Read and Pages do.
-/
import Derived.Test.YtgilmcmanomkiaaBlobWr
import Derived.Lib.AppendIntMem
import Derived.WalkMore
namespace Go.Proofs.Ytgilmcmanomkiaa
open Go.RowKit
namespace Bb
open B Dsk Pg

/-- the pages of a blob from a page on, each with its bytes, and the error's number; so many are looked at -/
def bwalk (l : List Pag) : Nat → Int → List (Int × ByteArray) × Int
  | 0, _ => ([], 8)
  | k + 1, n => if (blook l n).2.2 ≠ 0 then ([], (blook l n).2.2) else if (blook l n).1 = -1 then ([(n, (blook l n).2.1)], 0) else ((n, (blook l n).2.1) :: (bwalk l k (blook l n).1).1, (bwalk l k (blook l n).1).2)
def bytesOf (xs : List (Int × ByteArray)) : List UInt8 := xs.flatMap fun x => x.2.data.toList
theorem bytesOf_snoc (xs : List (Int × ByteArray)) (x : Int × ByteArray) : bytesOf (xs ++ [x]) = bytesOf xs ++ x.2.data.toList := by simp [bytesOf]
/-- all that walk may be asked of keeps what lies below a mark -/
theorem pmy_keep {B : Nat} {w0 w w' : World} {b : Bl} {d : D} {g : Nat} {half next : Int} (h0 : PMy B w0 b d g half next) (h : PMy B w b d g half next) (hb : Below w0.heap.size w w') : PMy B w' b d g half next := by
  obtain ⟨l1, l2, l3⟩ := h0.my.at'.lts
  have l4 := blk_lt h0.p
  exact ⟨⟨h.my.at'.kept (hb.block _ l1) (hb.block _ l2) (hb.block _ l3), h.my.inv, h.my.g, h.my.bs, h.my.bm⟩, (hb.block _ l4).trans h.p, h.gB, h.gn, h.sz, h.hh, h.n0, h.n1⟩
theorem look_part {l : List Pag} (ho : ∀ x ∈ l, x.1 < 256 ∧ x.2.size ≤ 240) (n : Int) : (blook l n).2.1.size ≤ 240 := by
  unfold blook
  split
  · rename_i h
    have hp := (ho l[n.toNat] (List.getElem_mem _)).2
    unfold bsays
    split
    · rename_i x s he
      split at he
      · injection he with he; injection he with _ he
        subst he
        show (ByteArray.extract _ _ _).size ≤ 240
        rw [ByteArray.size_extract]; omega
      · cases he
    · exact Nat.zero_le _
  · exact Nat.zero_le _

/-- the builder that Read has made -/
abbrev Bld (B gb : Nat) (l : List UInt8) (w : World) : Prop := Lib.IsBuilderF 96 5 B gb (Lib.byteCells l) w
theorem bld_keep {B gb : Nat} {l : List UInt8} {w w' : World} (h : Bld B gb l w) (hb : Below w.heap.size w w') : Bld B gb l w' := by
  have hk : ∀ p, Lib.BuilderAtF 96 5 B gb p (Lib.byteCells l) w → Lib.BuilderAtF 96 5 B gb p (Lib.byteCells l) w' := by
    intro p ⟨h1, v, h2, h3, h4⟩
    refine ⟨h1, v, blk_below h2 hb (blk_lt h2), ⟨h3.1, ?_⟩, h4⟩
    rcases h3.2 with hn | ⟨q, cap, cur, fz, e1, e2, e3, r⟩
    · exact .inl hn
    · exact .inr ⟨q, cap, cur, fz, e1, e2, blk_below e3 hb (blk_lt e3), r⟩
  exact h.elim (fun q => .inl (hk _ q)) (fun q => .inr (hk _ q))
theorem wstr (B gb : Nat) (l : List UInt8) (s : ByteArray) (w : World) (h : Bld B gb l w) (hl : l.length + s.size ≤ 1000000) (hB : B ≤ w.heap.size) :
    Calls Try.prog 56 #[.pointer (some ⟨gb, 0, none⟩), .string s] w fun e w' => e = .returned (.tuple #[.int .i64 s.size, .nilIface]) ∧ Bld B gb (l ++ s.data.toList) w' ∧ Below B w w' := by
  have hc := Any.Builder_WriteString_f (P := Try.prog) (ρ := Try.lays105_ren) { Try.lays105 with } Try.Builder_Extra_105 B gb (Lib.byteCells l) s w h (by rw [Lib.byteCells_length]; omega) hB
  refine hc.mono fun e w' ⟨h1, h2, h3⟩ => ⟨h1, .inr ?_, h3⟩
  have e2 : Lib.byteCells l ++ Lib.strCells s = Lib.byteCells (l ++ s.data.toList) := by simp [Lib.byteCells, Lib.strCells]
  rw [e2] at h2
  exact h2
set_option maxHeartbeats 1000000 in
theorem read1_any (B gb : Nat) (l : List UInt8) (n : Int) (s : ByteArray) (w : World) (h : Bld B gb l w) (hl : l.length + s.size ≤ 1000000) (hB : B ≤ w.heap.size) :
    Calls Try.prog 55 #[.int .i64 n, .string s, .pointer (some ⟨gb, 0, none⟩)] w fun e w' => e = .returned (.tuple #[]) ∧ Bld B gb (l ++ s.data.toList) w' ∧ Below B w w' := by
  have CW := Lib.hid (wstr B gb l s w h hl hB)
  clear h
  go_enter Try.func55, Try.ntmps55
  go_wp2_with (go_at_call 56; ((with_reducible refine CW.out.mono ?_); rintro e w1 ⟨rfl, h1, h2⟩))
  go_end0
  exact ⟨rfl, h1, h2⟩

/-- what has been gone through, and what is still to do -/
def Goes (l : List Pag) (first : Int) (k : Nat) (n : Int) (xs : List (Int × ByteArray)) : Prop := k ≤ 279 ∧ xs.length = k ∧ xs ++ (bwalk l (279 - k) n).1 = (bwalk l 279 first).1 ∧ (bwalk l (279 - k) n).2 = (bwalk l 279 first).2
theorem goes_start (l : List Pag) (first : Int) : Goes l first 0 first [] := ⟨by omega, rfl, rfl, rfl⟩
theorem goes_err {l : List Pag} {first : Int} {k : Nat} {n : Int} {xs : List (Int × ByteArray)} (h : Goes l first k n xs) (hk : k < 279) (he : (blook l n).2.2 ≠ 0) : bwalk l 279 first = (xs, (blook l n).2.2) := by
  obtain ⟨_, _, h1, h2⟩ := h
  have e : bwalk l (279 - k) n = ([], (blook l n).2.2) := by
    rw [show 279 - k = (278 - k) + 1 by omega]; unfold bwalk; rw [if_pos he]
  rw [e] at h1 h2
  rw [List.append_nil] at h1
  exact Prod.ext h1.symm h2.symm
theorem goes_end {l : List Pag} {first : Int} {k : Nat} {n : Int} {xs : List (Int × ByteArray)} (h : Goes l first k n xs) (hk : k < 279) (he : (blook l n).2.2 = 0) (hn : (blook l n).1 = -1) : bwalk l 279 first = (xs ++ [(n, (blook l n).2.1)], 0) := by
  obtain ⟨_, _, h1, h2⟩ := h
  have e : bwalk l (279 - k) n = ([(n, (blook l n).2.1)], 0) := by
    rw [show 279 - k = (278 - k) + 1 by omega]; unfold bwalk; rw [if_neg (by rw [he]; decide), if_pos hn]
  rw [e] at h1 h2
  exact Prod.ext h1.symm h2.symm
theorem goes_on {l : List Pag} {first : Int} {k : Nat} {n : Int} {xs : List (Int × ByteArray)} (h : Goes l first k n xs) (hk : k < 279) (he : (blook l n).2.2 = 0) (hn : (blook l n).1 ≠ -1) : Goes l first (k + 1) (blook l n).1 (xs ++ [(n, (blook l n).2.1)]) := by
  obtain ⟨_, h0, h1, h2⟩ := h
  have e : bwalk l (279 - k) n = ((n, (blook l n).2.1) :: (bwalk l (279 - (k + 1)) (blook l n).1).1, (bwalk l (279 - (k + 1)) (blook l n).1).2) := by
    rw [show 279 - k = (279 - (k + 1)) + 1 by omega]; rw [bwalk, if_neg (by rw [he]; decide), if_neg hn]
  rw [e] at h1 h2
  exact ⟨by omega, by rw [List.length_append, h0]; rfl, by rw [List.append_assoc]; exact h1, h2⟩
theorem goes_out {l : List Pag} {first : Int} {n : Int} {xs : List (Int × ByteArray)} (h : Goes l first 279 n xs) : bwalk l 279 first = (xs, 8) := by
  obtain ⟨_, _, h1, h2⟩ := h
  have e : bwalk l (279 - 279) n = ([], 8) := rfl
  rw [e] at h1 h2
  rw [List.append_nil] at h1
  exact Prod.ext h1.symm h2.symm
theorem bytes_le {xs : List (Int × ByteArray)} (h : ∀ x ∈ xs, x.2.size ≤ 240) : (bytesOf xs).length ≤ 240 * xs.length := by
  induction xs with
  | nil => simp [bytesOf]
  | cons x r ih =>
    have h1 := h x (by simp)
    have h2 := ih (fun y hy => h y (by simp [hy]))
    show (x.2.data.toList ++ bytesOf r).length ≤ _
    rw [List.length_append, size_data, List.length_cons]
    omega
set_option maxRecDepth 100000 in
set_option maxHeartbeats 4000000 in
theorem walk_read {B : Nat} (b : Bl) (d : D) (g : Nat) (half : Int) (l : List Pag) (first : Int) (gb : Nat) (w0 w : World) (h0 : PMy B w0 b d g half (l.length : Int)) (h : PMy B w b d g half (l.length : Int)) (hu : Up d) (hc : Con d half l) (hb : Bld w0.heap.size gb [] w) (hw : w0.heap.size ≤ w.heap.size) :
    Calls Try.prog 54 #[.pointer (some ⟨g, 0, none⟩), .int .i64 first, .func (.func 55) #[] #[.pointer (some ⟨gb, 0, none⟩)]] w fun e w' => e = .returned (.int .i64 (bwalk l 279 first).2) ∧ Bld w0.heap.size gb (bytesOf (bwalk l 279 first).1) w' ∧ Below w0.heap.size w w' := by
  have H0 := Lib.hid h0
  have PP := Lib.hid h
  have CC : Hid (∀ W, Calls Try.prog 37 #[.int .i64 65536] W fun e w' => e = .returned (.int .i64 279) ∧ W = w') := fun W => cost_any 65536 W (by omega)
  have CL := Lib.hid (fun n W (q : PMy B W b d g half (l.length : Int)) => look_any b d g half l n W q hu hc)
  have HO := Lib.hid hc.ok
  have HB0 := Lib.hid hb
  clear h0 h hu hc hb
  go_enter Try.func54, Try.ntmps54
  go_wp2
  go_step3
  go_wp2
  go_step3
  go_wp2_with (go_at_call 37; ((with_reducible refine (CC.out _).mono ?_); rintro e w' ⟨rfl, rfl⟩))
  go_loopw [7, 8, 14] (fun t7 t8 t14 wr => ∃ (k : Nat) (n : Int) (xs : List (Int × ByteArray)), t7 = .int .i64 n ∧ t8 = .int .i64 8 ∧ t14 = .int .i64 (k : Int) ∧ Goes l first k n xs ∧ (∀ x ∈ xs, x.2.size ≤ 240) ∧ PMy B wr b d g half (l.length : Int) ∧ Bld w0.heap.size gb (bytesOf xs) wr ∧ Below w0.heap.size w wr) (fun _ _ t14 _ => 279 - (intOf t14).toNat)
  case atStart => exact ⟨0, first, [], rfl, rfl, rfl, goes_start l first, (fun _ h => by cases h), PP.out, HB0.out, Below.refl _ _⟩
  case round =>
    obtain ⟨k, n, xs, rfl, rfl, rfl, hg, hsz, hp, hbl, hbel⟩ := hrel
    have GG := Lib.hid hg
    have PW := Lib.hid hp
    have BL := Lib.hid hbl
    have BW := Lib.hid hbel
    have sw := hbel.size
    have hk279 := hg.1
    have hxl := hg.2.1
    have SZ := Lib.hid hsz
    have hby := bytes_le hsz
    clear hg hp hbl hbel hsz
    by_cases hlt : k < 279
    · have hlI : (k : Int) < 279 := by omega
      have cl := CL.out n wr PW.out
      have hpt := look_part HO.out n
      have E1 := Lib.hid (fun h1 => goes_err GG.out hlt h1)
      have E2 := Lib.hid (fun h1 h2 => goes_end GG.out hlt h1 h2)
      have E3 := Lib.hid (fun h1 h2 => goes_on GG.out hlt h1 h2)
      generalize blook l n = r at *
      obtain ⟨nx, part, er⟩ := r
      simp only at cl hpt E1 E2 E3
      dsimp only [pval] at cl
      have CL1 := Lib.hid cl
      clear cl
      by_cases her : er = 0
      · subst her
        have hcl : (bytesOf xs).length + part.size ≤ 1000000 := by omega
        have C1 := Lib.hid (fun W (q : Bld w0.heap.size gb (bytesOf xs) W) hB => read1_any w0.heap.size gb (bytesOf xs) n part W q hcl hB)
        have HSN := Lib.hid (bytesOf_snoc xs (n, part))
        have HS2 : Hid (∀ x ∈ xs ++ [(n, part)], x.2.size ≤ 240) := fun x hx => by
          rcases List.mem_append.mp hx with hx | hx
          · exact SZ.out x hx
          · rw [List.mem_singleton] at hx; subst hx; exact hpt
        by_cases hnx : nx = -1
        · have hE := E2.out rfl hnx
          have HE := Lib.hid hE
          subst hnx
          clear E1 E2 E3 hE
          go_wp2_with (first
            | (go_at_call 66; ((with_reducible refine CL1.out.mono ?_); rintro e w1 ⟨rfl, hb1⟩; have B1 := Lib.hid (hb1.mono (Nat.le_trans hw sw)); have C2 := Lib.hid (C1.out w1 (bld_keep BL.out hb1) (Nat.le_trans (Nat.le_trans hw sw) hb1.size)); clear hb1))
            | (go_at_call 55; ((with_reducible refine C2.out.mono ?_); rintro e w2 ⟨rfl, hl2, hb2⟩; have L2 := Lib.hid hl2; have B2 := Lib.hid hb2; clear hl2 hb2)))
          go_wp2
          rw [Exit.noGoto_ret]
          go_ret
          rw [HE.out]
          refine ⟨rfl, ?_, (BW.out.trans B1.out).trans B2.out⟩
          show Bld w0.heap.size gb (bytesOf (xs ++ [(n, part)])) w2
          rw [HSN.out]
          exact L2.out
        · have HG := Lib.hid (E3.out rfl hnx)
          have hnb : (nx == -1) = false := by simpa using hnx
          clear E1 E2 E3 hnx
          go_wp2_with (first
            | (go_at_call 66; ((with_reducible refine CL1.out.mono ?_); rintro e w1 ⟨rfl, hb1⟩; have P1 := Lib.hid (PW.out.below hb1); have B1 := Lib.hid (hb1.mono (Nat.le_trans hw sw)); have s1 := hb1.size; have C2 := Lib.hid (C1.out w1 (bld_keep BL.out hb1) (Nat.le_trans (Nat.le_trans hw sw) hb1.size)); clear hb1))
            | (go_at_call 55; ((with_reducible refine C2.out.mono ?_); rintro e w2 ⟨rfl, hl2, hb2⟩; have L2 := Lib.hid hl2; have B2 := Lib.hid hb2; clear hl2 hb2)))
          go_roundw
          case rel => exact ⟨k + 1, nx, xs ++ [(n, part)], rfl, rfl, by go_num, HG.out, HS2.out, pmy_keep H0.out P1.out B2.out, by rw [HSN.out]; exact L2.out, (BW.out.trans B1.out).trans B2.out⟩
          case measure => simp [intOf]; omega
      · have hE := E1.out her
        have HE := Lib.hid hE
        have hb : (er != 0) = true := by simpa using her
        clear her E1 E2 E3 hE
        go_wp2_with (go_at_call 66; ((with_reducible refine CL1.out.mono ?_); rintro e w1 ⟨rfl, hb1⟩; have L1 := Lib.hid (bld_keep BL.out hb1); have B1 := Lib.hid (hb1.mono (Nat.le_trans hw sw)); clear hb1))
        go_wp2
        rw [Exit.noGoto_ret]
        go_ret
        rw [HE.out]
        exact ⟨rfl, L1.out, BW.out.trans B1.out⟩
    · obtain rfl : k = 279 := by omega
      have HE := Lib.hid (goes_out GG.out)
      go_wp2
      rw [Exit.noGoto_ret]
      go_ret
      rw [HE.out]
      exact ⟨rfl, BL.out, BW.out⟩

/-- what Read answers -/
def bread (l : List Pag) (first : Int) : ByteArray × Int := if (bwalk l 279 first).2 = 0 then (⟨(bytesOf (bwalk l 279 first).1).toArray⟩, 0) else (⟨#[]⟩, (bwalk l 279 first).2)
set_option maxRecDepth 100000 in
set_option maxHeartbeats 4000000 in
theorem bread_any {B : Nat} (b : Bl) (d : D) (g : Nat) (half : Int) (l : List Pag) (first : Int) (w : World) (h : PMy B w b d g half (l.length : Int)) (hu : Up d) (hc : Con d half l) :
    Calls Try.prog 38 #[.pointer (some ⟨g, 0, none⟩), .int .i64 first] w fun e w' => e = .returned (.tuple #[.string (bread l first).1, .int .i64 (bread l first).2]) ∧ Below w.heap.size w w' := by
  have hb0 := (Below.refl w.heap.size w).alloc (Nat.le_refl _) (.cells #[.pointer none, .slice none 0 0] 96)
  have hbl : Bld w.heap.size w.heap.size [] (w.alloc (.cells #[.pointer none, .slice none 0 0] 96)) :=
    .inl ⟨Nat.le_refl _, .slice none 0 0, heap_last w _ _ rfl, ⟨by simp [Lib.byteCells], .inl ⟨rfl, rfl⟩⟩, by intro e; cases e⟩
  have cw := walk_read b d g half l first w.heap.size w (w.alloc (.cells #[.pointer none, .slice none 0 0] 96)) h (h.below hb0) hu hc hbl hb0.size
  have HR : Hid (bread l first = if (bwalk l 279 first).2 = 0 then (⟨(bytesOf (bwalk l 279 first).1).toArray⟩, 0) else (⟨#[]⟩, (bwalk l 279 first).2)) := rfl
  have B0 := Lib.hid hb0
  generalize bwalk l 279 first = q at *
  obtain ⟨xs, er⟩ := q
  simp only at cw HR
  have CW := Lib.hid cw
  have CS := Lib.hid (fun W (q : Bld w.heap.size w.heap.size (bytesOf xs) W) hB => Try.Builder_String_any_f w.heap.size w.heap.size (bytesOf xs) W q hB)
  clear h hu hc hb0 hbl cw
  by_cases her : er = 0
  · subst her
    rw [if_pos rfl] at HR
    rw [HR.out]
    go_enter Try.func38, Try.ntmps38
    go_wp2_with (first
      | (go_at_call 54; ((with_reducible refine CW.out.mono ?_); rintro e w1 ⟨rfl, hl1, hb1⟩; have B1 := Lib.hid (B0.out.trans hb1); have C2 := Lib.hid (CS.out w1 hl1 B1.out.size); clear hl1 hb1))
      | (go_at_call 57; ((with_reducible refine C2.out.mono ?_); rintro e w2 ⟨rfl, _, hb2⟩; have B2 := Lib.hid (B1.out.trans hb2); clear hb2)))
    go_ret2
    exact ⟨rfl, B2.out⟩
  · rw [if_neg her] at HR
    rw [HR.out]
    have hb : (er != 0) = true := by simpa using her
    clear her
    go_enter Try.func38, Try.ntmps38
    go_wp2_with (go_at_call 54; ((with_reducible refine CW.out.mono ?_); rintro e w1 ⟨rfl, hl1, hb1⟩; have B1 := Lib.hid (B0.out.trans hb1); clear hl1 hb1))
    go_ret2
    exact ⟨rfl, B1.out⟩
end Bb
end Go.Proofs.Ytgilmcmanomkiaa
