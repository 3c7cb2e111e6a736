/-
  The walk of the statement BlobTold.
-/
import Derived.Test.YtgilmcmanomkiaaBlobBa
import Derived.Test.YtgilmcmanomkiaaVarHead
namespace Go.Proofs.Ytgilmcmanomkiaa
open Go.RowKit
namespace Bb
open B Dsk Pg
theorem and3 (k : Int) : bits .and .i64 k 3 = ((k % 4).toNat : Int) := by
  show IntKind.i64.wrap ((BitVec.ofInt 64 k &&& BitVec.ofInt 64 3).toNat : Int) = _
  have h : (BitVec.ofInt 64 k &&& BitVec.ofInt 64 3).toNat = (k % 4).toNat := by
    rw [BitVec.toNat_and, show (BitVec.ofInt 64 3).toNat = 3 from rfl]
    rw [show (BitVec.ofInt 64 k).toNat &&& 3 = (BitVec.ofInt 64 k).toNat % 4 from Nat.and_two_pow_sub_one_eq_mod _ 2, BitVec.toNat_ofInt]
    omega
  rw [h]
  exact IntWalk.i64_in _ (by omega)
/-- pages that came in -/
def PgIn (w : World) (A : Option Addr) (l : List (Int × ByteArray)) : Prop := ∀ k (h : k < l.length), ∃ b off, A = some ⟨b, off, none⟩ ∧ b < w.heap.size ∧ w.cell? ⟨b, off + k * 2, none⟩ = some (.int .i64 l[k].1) ∧ w.cell? ⟨b, off + k * 2 + 1, none⟩ = some (.string l[k].2)
theorem PgIn.below {w w' : World} {A : Option Addr} {l : List (Int × ByteArray)} (h : PgIn w A l) (hb : Below w.heap.size w w') : PgIn w' A l := by
  intro k hk
  obtain ⟨b, off, e, hl, h0, h1⟩ := h k hk
  exact ⟨b, off, e, Nat.lt_of_lt_of_le hl hb.size, (hb.cell (p := ⟨b, _, none⟩) hl).trans h0, (hb.cell (p := ⟨b, _, none⟩) hl).trans h1⟩
/-- pages in memory of the call's own -/
def pc1 (q : Pag) : List Value := [.int .i64 (q.1 : Int), .string q.2]
def pc (l : List Pag) : List Value := l.flatMap pc1
theorem pc_append (l m : List Pag) : pc (l ++ m) = pc l ++ pc m := by simp [pc]
theorem pc_get : ∀ (l : List Pag) (k j : Nat) (_ : j < 2) (hk : k < l.length), (pc l)[k * 2 + j]? = (pc1 l[k])[j]?
  | r :: l, 0, j, hj, _ => by show (pc1 r ++ pc l)[0 * 2 + j]? = _; rw [List.getElem?_append_left (by show _ < 2; omega)]; simp
  | r :: l, k + 1, j, hj, hk => by
    show (pc1 r ++ pc l)[(k + 1) * 2 + j]? = _
    rw [List.getElem?_append_right (by show 2 ≤ _; omega)]
    have e : (k + 1) * 2 + j - (pc1 r).length = k * 2 + j := by show _ - 2 = _; omega
    rw [e, pc_get l k j hj (by simpa using hk)]
    simp
theorem own2_len {w : World} {B n : Nat} {v : Value} {xs : List Value} (h : w.ownsRow B 48 2 v n xs) : ∃ A c, v = .slice A n c := by
  rcases h.2 with ⟨rfl, hn⟩ | ⟨g, cap, cur, rfl, _⟩
  · exact ⟨none, 0, by rw [hn]⟩
  · exact ⟨_, _, rfl⟩
theorem own2_get {w : World} {B : Nat} {A : Option Addr} {c : Nat} {l : List Pag} (h : w.ownsRow B 48 2 (.slice A l.length c) l.length (pc l)) {k : Nat} (hk : k < l.length) : ∃ g, A = some ⟨g, 0, none⟩ ∧ g < w.heap.size ∧ w.cell? ⟨g, k * 2, none⟩ = some (.int .i64 (l[k].1 : Int)) ∧ w.cell? ⟨g, k * 2 + 1, none⟩ = some (.string l[k].2) := by
  rcases h.2 with ⟨_, hn⟩ | ⟨g, cap', cur, he, _, hgg, _⟩
  · omega
  · injection he with he1 _ _
    subst he1
    have hc := h.cells (g := g) rfl
    have hcell : ∀ j (hj : j < 2) u, (pc1 l[k])[j]? = some u → w.cell? ⟨g, k * 2 + j, none⟩ = some u := fun j hj u hu => by
      have := hc (k * 2 + j) u ((pc_get l k j hj hk).trans hu)
      rw [add_plain0] at this
      exact this
    exact ⟨g, rfl, blk_lt hgg, hcell 0 (by omega) _ rfl, hcell 1 (by omega) _ rfl⟩
theorem own2_tch {w w' : World} {B e n : Nat} {v : Value} {xs : List Value} {l : List Nat} (h : w.ownsRow B e 2 v n xs) (ht : Tch l w w') (hl : ∀ x ∈ l, x < B) : w'.ownsRow B e 2 v n xs := by
  refine ⟨h.1, ?_⟩
  rcases h.2 with hn | ⟨g, cap, cur, rfl, hb, hgg, rest⟩
  · exact .inl hn
  · exact .inr ⟨g, cap, cur, rfl, hb, (ht.block g (blk_lt hgg) (fun hx => by have := hl g hx; omega)).trans hgg, rest⟩
theorem info48 : (Try.prog.info? 48).map (fun i => (i.zero, i.size, i.bytes)) = some (some (.agg #[.int .i64 0, .string { data := #[] }]), 2, 24) := by kernel_rfl
theorem pc_new (W : World) (k : Int) (s : ByteArray) : ∀ j u, [Value.int .i64 k, .string s][j]? = some u → (W.alloc (.cells #[.int .i64 k, .string s] 48)).cell? ((⟨W.heap.size, 0, none⟩ : Addr).add j) = some u := by
  intro j u hu
  rw [add_plain0]
  exact (row_cell (cs := [_, _]) (heap_last W _ _ rfl) j).trans hu
theorem pc_one (k : Int) (s : ByteArray) : ∀ u ∈ [Value.int .i64 k, .string s], u.oneCell' = true := by
  intro u hu
  simp at hu
  rcases hu with rfl | rfl <;> rfl
theorem wb_stepk {r wr0 : Nat} {half : Int} {l : List Pag} {d : D} (h : Wb r wr0 half l d) (hh : half = 0 ∨ half = 1) (hl : l.length < r) {k : Nat} (hk : k ≤ 255) {p : ByteArray} (hp : p.size ≤ 240) :
    papp d half (l.length : Int) (k : Int) p = (put d half (l.length : Int) (k : Int) p, (l.length : Int) + 1, (l.length : Int), 0) ∧ Wb r wr0 half (l ++ [(k, p)]) (put d half (l.length : Int) (k : Int) p) := by
  have hr := h.rm
  have hc := Con.put h.sz (half := half) (k := (k : Int)) (p := p) hh h.con (by omega) (by omega) (by omega) hp
  rw [Int.toNat_natCast] at hc
  refine ⟨papp_put h.up h.sz hh (by omega) (by omega) (by omega) (by omega) hp, put_up h.up _ _ _ _, put_sz h.sz _ _ _ _, by rw [put_room]; exact hr, ?_, hc⟩
  have := h.wr
  rw [List.length_append, List.length_singleton]
  show d.writes + 1 ≤ _
  omega
set_option maxRecDepth 100000 in
set_option maxHeartbeats 8000000 in
theorem blobTold_walk (A1 : Option Addr) (pl : List (Int × ByteArray)) (c1 : Nat) (first : Int) (w : World) (h1 : PgIn w A1 pl) (hl1 : pl.length ≤ maxLen) :
    Calls Try.prog 9 #[.slice A1 pl.length c1, .int .i64 first] w fun e w' => e = .returned (.bool true) ∧ Below w.heap.size w w' := by
  have CA := Lib.hid (awake_any w)
  have CH := Lib.hid (fun W => half_any 12 12 W rfl (by omega))
  have W0 := Lib.hid (wb_new (r := 12) (by omega))
  have H1 := Lib.hid h1
  have hm1 : pl.length ≤ 9223372036854775807 := by unfold maxLen at hl1; omega
  obtain ⟨i0, hi0, hz0, hz1, hz2⟩ := info_parts info3
  obtain ⟨j0, hj0, hy0, hy1, hy2⟩ := info_parts info48
  clear h1 hl1
  generalize new (2 + 2 * 12) = d0 at *
  go_enter Try.func9, Try.ntmps9
  go_wp2_with (first
    | (go_at_call 33; ((with_reducible refine CA.out.mono ?_); rintro e w1 ⟨rfl, hb1⟩; have B1 := Lib.hid hb1; have s1 := hb1.size; clear hb1))
    | (go_at_call 34; ((with_reducible refine (CH.out _).mono ?_); rintro e w2 ⟨b, g, rfl, hp2, hb2⟩; have P2 := Lib.hid hp2; have B2 := Lib.hid (B1.out.trans (hb2.mono s1)); have s2 := hb2.size; clear hp2 hb2)))
  have LOW := Lib.hid (pmy_lts P2.out)
  go_loopw [7, 8] (fun t7 t8 wr => ∃ (L : List Pag) (d : D), L.length ≤ pl.length ∧ L.length ≤ 12 ∧ t8 = .int .i64 (L.length : Int) ∧ wr.ownsRow w2.heap.size 48 2 t7 L.length (pc L) ∧ Wb 12 0 0 L d ∧ PMy w1.heap.size wr b d g 0 (L.length : Int) ∧ (∀ q ∈ L, q.2.size ≤ 20) ∧ w2.heap.size ≤ wr.heap.size ∧ Below w.heap.size w wr) (fun _ t8 _ => 13 - (intOf t8).toNat)
  case atStart => exact ⟨[], d0, Nat.zero_le _, Nat.zero_le _, rfl, World.ownsRow_nil _ _ _ _, W0.out, P2.out, (fun _ h => by cases h), Nat.le_refl _, B2.out⟩
  case round =>
    obtain ⟨L, d, hi, hi12, rfl, ho7, hwb, hpm, hsz, hs2, hbel⟩ := hrel
    obtain ⟨A7, c7, hv7⟩ := own2_len ho7
    subst hv7
    have O7 := Lib.hid ho7
    have WB := Lib.hid hwb
    have PM := Lib.hid hpm
    have SZ := Lib.hid hsz
    have BB := Lib.hid hbel
    have sb := hbel.size
    clear ho7 hwb hpm hsz hbel CA CH W0
    by_cases hlt : L.length < pl.length ∧ L.length < 12
    · obtain ⟨hlt1, hlt2⟩ := hlt
      have hI1 : (L.length : Int) < (pl.length : Int) := by omega
      have hI2 : (L.length : Int) < 12 := by omega
      obtain ⟨bz, oz, hAz, hlz, cz0, cz1⟩ := (H1.out.below BB.out) L.length hlt1
      subst hAz
      generalize pl[L.length] = q at *
      obtain ⟨kd, sp⟩ := q
      simp only at cz0 cz1
      have ha := and3 kd
      have hk4 : (kd % 4).toNat ≤ 3 := by omega
      generalize (kd % 4).toNat = kk at *
      have cct : ∀ W, Calls Try.prog 16 #[.string sp, .int .i64 20] W fun e w' => e = .returned (.string (cutB sp 20)) ∧ W = w' := fun W => cut_any sp 20 W (by omega)
      have CC := Lib.hid cct
      have hc20 := cutB_size sp 20
      clear cct
      generalize cutB sp 20 = S at *
      obtain ⟨hst, hwb⟩ := wb_stepk WB.out (.inl rfl) hlt2 (k := kk) (by omega) (p := S) (by omega)
      have ca := fun W (q : PMy w1.heap.size W b d g 0 (L.length : Int)) => papp_tch b d g 0 (L.length : Int) (kk : Int) S W q (by have := WB.out.wr; omega)
      rw [hst] at ca
      dsimp only at ca
      have CAp := Lib.hid ca
      have W3 := Lib.hid hwb
      clear ca hst hwb
      generalize put d 0 (L.length : Int) (kk : Int) S = d2 at *
      go_upto_region 10 with fail
      go_cut [9] (fun t9 wc => t9 = .pointer (some ⟨wr.heap.size, 0, none⟩) ∧ wc.heap[wr.heap.size]? = some (.cells #[.int .i64 (kk : Int), .string S] 48) ∧ Below wr.heap.size wr wc)
      case first =>
        go_region_held3 (fun w' => w'.cell? ⟨bz, oz + L.length * 2, none⟩ = some (.int .i64 kd) ∧ w'.cell? ⟨bz, oz + L.length * 2 + 1, none⟩ = some (.string sp)) (first | go_keep | exact ⟨cz0, cz1⟩) (first | (go_at_call 16; (with_reducible refine (CC.out _).mono ?_); rintro e w' ⟨rfl, rfl⟩))
        all_goals (go_wp2; go_meet; case rel => exact ⟨rfl, heap_last wr _ _ rfl, below_drew ((Below.refl _ _).alloc (Nat.le_refl _) _)⟩)
      case rest =>
        obtain ⟨rfl, k4, b4⟩ := hcut
        have K4 := Lib.hid k4
        have P4 := Lib.hid (PM.out.below b4)
        have O4 := Lib.hid (O7.out.kept (row := none) ⟨b4.os, b4.tape, b4.output, b4.size, fun i hi _ => b4.block i hi⟩ (by cases (Value.slice A7 L.length c7).ownBlock <;> simp))
        have B4 := Lib.hid (BB.out.trans (b4.mono sb))
        have s4 : w2.heap.size ≤ wc.heap.size := Nat.le_trans hs2 b4.size
        have HQN : Hid (wr.heap.size ∉ g :: b.l) := fun hx => by have := LOW.out _ hx; omega
        clear k4 b4 cz0 cz1
        generalize wr.heap.size = gq at *
        generalize wc = w4 at *
        obtain ⟨k0, k1, _, _⟩ := page2 K4.out
        have CAp4 := Lib.hid (CAp.out _ P4.out)
        go_upto_region 14 with (go_at_call 24; ((with_reducible refine CAp4.out.mono ?_); rintro e w5 ⟨rfl, hp5, ht5⟩; have P5 := Lib.hid hp5; have B5 := Lib.hid (B4.out.trans ((tch_low P4.out ht5 (Nat.le_trans s2 s4)).mono s1)); have s5 := ht5.size; have O5 := Lib.hid (own2_tch O4.out ht5 LOW.out); have K5 := Lib.hid ((ht5.block gq (blk_lt K4.out) HQN.out).trans K4.out); clear hp5 ht5))
        clear k0 k1
        obtain ⟨k0, k1, _, _⟩ := page2 K5.out
        have s25 : w2.heap.size ≤ w5.heap.size := Nat.le_trans s4 s5
        go_wp2_with (at_builtin; refine wpList_append_own _ rfl _ _ 32 rfl w2.heap.size 48 j0 _ 2 24 Try.underlying32 hj0 hy0 hy1 hy2 rfl (by decide) _ _ _ rfl (O5.out.alloc _) ⟨w5.heap.size, 0, none⟩ 1 1 [.int .i64 (kk : Int), .string S] rfl rfl (pc_new _ _ _) ?a2 ?a3 ?a4 ?a5 ?_)
        case a2 => exact pc_one _ _
        case a3 => unfold maxLen; omega
        case a4 => omega
        case a5 => exact Nat.le_trans s25 (by simp)
        · intro v7 w6 hown7 hgrow7 _
          have b6 : Below w2.heap.size w5 w6 := ((Below.refl w2.heap.size w5).alloc s25 _).grown hgrow7 (Nat.le_trans s25 (by simp)) (fun k hk => (O5.out.lt k hk).1)
          have O6 := Lib.hid hown7
          have B6 := Lib.hid b6
          have P6 := Lib.hid (pmy_low P5.out LOW.out b6)
          have s26 : w2.heap.size ≤ w6.heap.size := Nat.le_trans s25 b6.size
          clear hown7 hgrow7 b6
          go_wp2
          go_roundw
          case rel => exact ⟨L ++ [(kk, S)], d2, by rw [List.length_append]; exact hlt1, by rw [List.length_append]; exact hlt2, by rw [List.length_append, List.length_singleton]; go_num, by rw [List.length_append, pc_append]; exact O6.out, W3.out, by rw [List.length_append, List.length_singleton, show ((L.length + 1 : Nat) : Int) = (L.length : Int) + 1 by omega]; exact P6.out, (fun q hq => by rcases List.mem_append.mp hq with hq | hq; exact SZ.out q hq; rw [List.mem_singleton] at hq; subst hq; exact hc20), s26, B5.out.trans (B6.out.mono (Nat.le_trans s1 s2))⟩
          case measure => simp [intOf]; omega
    · have hex : ¬ (L.length : Int) < (pl.length : Int) ∨ (L.length : Int) < (pl.length : Int) ∧ ¬ (L.length : Int) < 12 := by omega
      clear hlt
      rcases hex with hex | ⟨hex, hex2⟩
      · go_wp2
        generalize wr = wo at *
        go_loopw [12, 13, 14, 15] (fun t12 t13 t14 t15 wx => ∃ (n : Int) (xs : List (Int × ByteArray)) (S : ByteArray), t12 = .string S ∧ S.data.toList = bytesOf xs ∧ t13 = .int .i64 0 ∧ t15 = .int .i64 n ∧ wx.ownsRow wo.heap.size 3 1 t14 xs.length ((xs.map (·.1)).map vInt) ∧ S.size ≤ 240 * xs.length ∧ (Goes L first xs.length n xs ∧ (xs = [] ∨ 0 ≤ n ∧ n + (xs.length : Int) ≤ 12) ∨ n = -1 ∧ xs ≠ [] ∧ bwalk L 279 first = (xs, 0)) ∧ xs.length ≤ 13 ∧ Below wo.heap.size wo wx) (fun _ _ _ t15 _ => (intOf t15 + 1).toNat)
        case atStart => exact ⟨first, [], ⟨#[]⟩, rfl, rfl, rfl, rfl, World.ownsRow_nil _ _ _ _, Nat.zero_le _, .inl ⟨goes_start L first, .inl rfl⟩, by simp, Below.refl _ _⟩
        case round =>
          obtain ⟨n, xs, S, rfl, hS, rfl, rfl, ho4, hSz, hstate, hxl, hb3⟩ := hrel
          have B3 := Lib.hid hb3
          have s3 := hb3.size
          have HS := Lib.hid hS
          obtain ⟨A14, c14, hv14, hr14⟩ := own_at (V := vInt) (l := xs.map (·.1)) ho4
          rw [List.length_map] at hv14
          subst hv14
          have AA14 := Lib.hid hr14.1
          have O14 := Lib.hid ho4
          clear hb3 hS hr14 ho4
          rcases hstate with ⟨hG, hst⟩ | ⟨hn1, hxn, hF⟩
          · have hlt79 : xs.length < 279 := by omega
            by_cases hin : 0 ≤ n ∧ n.toNat < L.length
            · obtain ⟨k, rfl⟩ : ∃ k : Nat, n = (k : Int) := ⟨n.toNat, by omega⟩
              have hk : k < L.length := by omega
              have hk0 : (0 : Int) ≤ (k : Int) := by omega
              have hkI : (k : Int) < (L.length : Int) := by omega
              have hbl : blook L (k : Int) = match bsays k L[k] with
                  | some (x, s) => (x, s, 0)
                  | none => (-1, ⟨#[]⟩, 8) := by
                unfold blook
                rw [dif_pos hin]
                simp only [Int.toNat_natCast]
                cases bsays k L[k] <;> rfl
              have hps := SZ.out L[k] (List.getElem_mem _)
              have hok := (WB.out.con.ok L[k] (List.getElem_mem _)).1
              obtain ⟨g7, hA7, hl7, x0, x1⟩ := own2_get O7.out hk
              subst hA7
              have y0 := (B3.out.cell (p := ⟨g7, k * 2, none⟩) hl7).trans x0
              have y1 := (B3.out.cell (p := ⟨g7, k * 2 + 1, none⟩) hl7).trans x1
              generalize L[k] = q at *
              obtain ⟨kd, pay⟩ := q
              simp only at y0 y1 hps hok
              have chd := fun W => V.head_any pay W (by unfold maxLen; omega)
              obtain ⟨x, m, f, hr⟩ : ∃ x m f, Var.hd 0 0 pay.data.toList = (x, m, f) := ⟨_, _, _, rfl⟩
              have hmle := V.hd_le _ _ _ _ _ _ hr
              rw [size_data] at hmle
              have hsay : bsays k (kd, pay) = if kd = 3 ∧ f = 0 ∧ x ≤ k then some ((x : Int) - 1, pay.extract m pay.size) else none := by unfold bsays; simp only [hr]
              rw [hsay] at hbl
              rw [hr] at chd
              dsimp only [V.tri] at chd
              have CHd := Lib.hid chd
              clear chd hsay x0 x1 hr
              have hwu := wrapu k (by omega)
              have hf0 : (0 : Int) ≤ (f : Int) := by omega
              by_cases hbad : kd = 3 ∧ f = 0 ∧ x ≤ k
              · rw [if_pos hbad] at hbl
                obtain ⟨rfl, rfl, hxk⟩ := hbad
                have hpl : (pay.extract m pay.size).size ≤ 20 := by rw [ByteArray.size_extract]; omega
                have hE := fun h => goes_end hG hlt79 (by rw [hbl]) h
                have hO := fun h => goes_on hG hlt79 (by rw [hbl]) h
                rw [hbl] at hE hO
                simp only at hE hO
                have EE := Lib.hid hE
                have OO := Lib.hid hO
                have hxw : IntKind.i64.wrap (x : Int) = (x : Int) := IntWalk.i64_in _ (by omega)
                have hnx : ¬ (k : Int) < (x : Int) := by omega
                have hme : m ≤ pay.size := by omega
                have HS2 : Hid ((S ++ pay.extract m pay.size).data.toList = bytesOf (xs ++ [((k : Int), pay.extract m pay.size)])) := by rw [Hid, bytesOf_snoc, cat_data, HS.out]
                have hS2 : (S ++ pay.extract m pay.size).size ≤ 240 * (xs.length + 1) := by rw [cat_size]; omega
                have HSZ2 := Lib.hid hS2
                clear hE hO hbl hG hin hS2
                go_wp2_with (first
                  | (go_at_call 41; ((with_reducible refine (CHd.out _).mono ?_); rintro e w' ⟨rfl, rfl⟩))
                  | (at_builtin; refine wpList_append_own _ rfl _ _ 34 rfl wo.heap.size 3 i0 (.int .i64 0) 1 8 Try.underlying34 hi0 hz0 hz1 hz2 rfl (by decide) _ _ _ rfl (O14.out.alloc _) ⟨wr.heap.size, 0, none⟩ 1 1 [.int .i64 (k : Int)] rfl rfl (cell_one_new _ _ _) ?d2a ?d3a ?d4a ?d5a ?_))
                case d2a => first | exact one_int _ | rfl
                case d3a => unfold maxLen; omega
                case d4a => omega
                case d5a => exact Nat.le_trans s3 (by simp)
                · intro v' w6 hown hgrow _
                  have b6 : Below wo.heap.size wr w6 := ((Below.refl wo.heap.size wr).alloc s3 _).grown hgrow (Nat.le_trans s3 (by simp)) (fun k hk => (O14.out.lt k hk).1)
                  have O6 : Hid (w6.ownsRow wo.heap.size 3 1 v' (xs ++ [((k : Int), pay.extract m pay.size)]).length (((xs ++ [((k : Int), pay.extract m pay.size)]).map (·.1)).map vInt)) := by rw [Hid, List.length_append, List.map_append, List.map_append, List.map_map]; exact hown
                  have B6 := Lib.hid (B3.out.trans b6)
                  have hxl2 : xs.length + 1 ≤ 13 := by
                    rcases hst with h | h
                    · subst h; simp
                    · omega
                  have hxl3 : (x : Int) - 1 + ((xs.length + 1 : Nat) : Int) ≤ 12 := by
                    rcases hst with h | h
                    · subst h; simp; omega
                    · omega
                  have HX3 := Lib.hid hxl3
                  clear hown hgrow b6 hst hxl3
                  by_cases hx0 : x = 0
                  · subst hx0
                    go_wp2
                    go_roundw
                    case rel => exact ⟨-1, xs ++ [((k : Int), pay.extract m pay.size)], _, rfl, HS2.out, rfl, by go_num, O6.out, by rw [List.length_append]; exact HSZ2.out, .inr ⟨rfl, by simp, EE.out rfl⟩, by rw [List.length_append]; exact hxl2, B6.out⟩
                    case measure => simp [intOf]
                  · go_wp2
                    go_roundw
                    case rel => exact ⟨(x : Int) - 1, xs ++ [((k : Int), pay.extract m pay.size)], _, rfl, HS2.out, rfl, by go_num, O6.out, by rw [List.length_append]; exact HSZ2.out, .inl ⟨by rw [List.length_append]; exact OO.out (by omega), .inr ⟨by omega, by rw [List.length_append]; exact HX3.out⟩⟩, by rw [List.length_append]; exact hxl2, B6.out⟩
                    case measure => simp [intOf]; omega
              · rw [if_neg hbad] at hbl
                have hF := goes_err hG hlt79 (by rw [hbl]; decide)
                rw [hbl] at hF
                simp only at hF
                clear hbl hG hin hst
                by_cases hk3 : kd = 3
                · subst hk3
                  by_cases hff : f = 0
                  · subst hff
                    have hnx : (k : Int) < (x : Int) := by
                      have : ¬ x ≤ k := fun h => hbad ⟨rfl, rfl, h⟩
                      omega
                    clear hbad
                    have hbr : bread L first = (⟨#[]⟩, 8) := by unfold bread; rw [hF]; exact if_neg (show ¬ (8 : Int) = 0 by decide)
                    have hbn : bnums L first = ([], 8) := by unfold bnums; rw [hF]; exact if_neg (show ¬ (8 : Int) = 0 by decide)
                    have cr := bread_any b d g 0 L first wr (PM.out.below B3.out) WB.out.up WB.out.con
                    have cg := fun W (q : PMy w1.heap.size W b d g 0 (L.length : Int)) => bnums_any b d g 0 L first W q WB.out.up WB.out.con
                    rw [hbr] at cr
                    rw [hbn] at cg
                    have CR := Lib.hid cr
                    have CG := Lib.hid cg
                    have P3 := Lib.hid (PM.out.below B3.out)
                    clear cr cg hbr hbn hF
                    go_wp2_with (first
                      | (go_at_call 41; ((with_reducible refine (CHd.out _).mono ?_); rintro e w' ⟨rfl, rfl⟩))
                      | (go_at_call 38; ((with_reducible refine CR.out.mono ?_); rintro e w4 ⟨rfl, hb4⟩; have B4 := Lib.hid (B3.out.trans (hb4.mono s3)); have CG4 := Lib.hid (CG.out _ (P3.out.below hb4)); clear hb4))
                      | (go_at_call 39; ((with_reducible refine CG4.out.mono ?_); rintro e w5 ⟨v9, rfl, ho9, hb5⟩; have B5 := Lib.hid (B4.out.trans (hb5.mono B4.out.size)); obtain ⟨A9, c9, hv9, hr9⟩ := own_at (V := vInt) (l := []) ho9; subst hv9; clear hr9 ho9 hb5)))
                    go_ret
                    exact ⟨rfl, BB.out.trans (B5.out.mono sb)⟩
                  · have hfb : ((f : Int) != 0) = true := by rw [bne_iff_ne]; omega
                    clear hbad hff
                    have hbr : bread L first = (⟨#[]⟩, 8) := by unfold bread; rw [hF]; exact if_neg (show ¬ (8 : Int) = 0 by decide)
                    have hbn : bnums L first = ([], 8) := by unfold bnums; rw [hF]; exact if_neg (show ¬ (8 : Int) = 0 by decide)
                    have cr := bread_any b d g 0 L first wr (PM.out.below B3.out) WB.out.up WB.out.con
                    have cg := fun W (q : PMy w1.heap.size W b d g 0 (L.length : Int)) => bnums_any b d g 0 L first W q WB.out.up WB.out.con
                    rw [hbr] at cr
                    rw [hbn] at cg
                    have CR := Lib.hid cr
                    have CG := Lib.hid cg
                    have P3 := Lib.hid (PM.out.below B3.out)
                    clear cr cg hbr hbn hF
                    go_wp2_with (first
                      | (go_at_call 41; ((with_reducible refine (CHd.out _).mono ?_); rintro e w' ⟨rfl, rfl⟩))
                      | (go_at_call 38; ((with_reducible refine CR.out.mono ?_); rintro e w4 ⟨rfl, hb4⟩; have B4 := Lib.hid (B3.out.trans (hb4.mono s3)); have CG4 := Lib.hid (CG.out _ (P3.out.below hb4)); clear hb4))
                      | (go_at_call 39; ((with_reducible refine CG4.out.mono ?_); rintro e w5 ⟨v9, rfl, ho9, hb5⟩; have B5 := Lib.hid (B4.out.trans (hb5.mono B4.out.size)); obtain ⟨A9, c9, hv9, hr9⟩ := own_at (V := vInt) (l := []) ho9; subst hv9; clear hr9 ho9 hb5)))
                    go_ret
                    exact ⟨rfl, BB.out.trans (B5.out.mono sb)⟩
                · have hkb : ((kd : Int) != 3) = true := by rw [bne_iff_ne]; omega
                  clear hbad hk3
                  have hbr : bread L first = (⟨#[]⟩, 8) := by unfold bread; rw [hF]; exact if_neg (show ¬ (8 : Int) = 0 by decide)
                  have hbn : bnums L first = ([], 8) := by unfold bnums; rw [hF]; exact if_neg (show ¬ (8 : Int) = 0 by decide)
                  have cr := bread_any b d g 0 L first wr (PM.out.below B3.out) WB.out.up WB.out.con
                  have cg := fun W (q : PMy w1.heap.size W b d g 0 (L.length : Int)) => bnums_any b d g 0 L first W q WB.out.up WB.out.con
                  rw [hbr] at cr
                  rw [hbn] at cg
                  have CR := Lib.hid cr
                  have CG := Lib.hid cg
                  have P3 := Lib.hid (PM.out.below B3.out)
                  clear cr cg hbr hbn hF
                  go_wp2_with (first
                    | (go_at_call 41; ((with_reducible refine (CHd.out _).mono ?_); rintro e w' ⟨rfl, rfl⟩))
                    | (go_at_call 38; ((with_reducible refine CR.out.mono ?_); rintro e w4 ⟨rfl, hb4⟩; have B4 := Lib.hid (B3.out.trans (hb4.mono s3)); have CG4 := Lib.hid (CG.out _ (P3.out.below hb4)); clear hb4))
                    | (go_at_call 39; ((with_reducible refine CG4.out.mono ?_); rintro e w5 ⟨v9, rfl, ho9, hb5⟩; have B5 := Lib.hid (B4.out.trans (hb5.mono B4.out.size)); obtain ⟨A9, c9, hv9, hr9⟩ := own_at (V := vInt) (l := []) ho9; subst hv9; clear hr9 ho9 hb5)))
                  go_ret
                  exact ⟨rfl, BB.out.trans (B5.out.mono sb)⟩
            · have hbl : blook L n = (-1, ⟨#[]⟩, 1) := dif_neg hin
              have hF := goes_err hG hlt79 (by rw [hbl]; decide)
              rw [hbl] at hF
              simp only at hF
              clear hbl hG
              by_cases hn0 : n < 0
              · have hxe : xs = [] := by rcases hst with h | h; exact h; omega
                subst hxe
                have hl0 : ([] : List (Int × ByteArray)).length = 0 := rfl
                clear hst
                have hbr : bread L first = (⟨#[]⟩, 1) := by unfold bread; rw [hF]; exact if_neg (show ¬ (1 : Int) = 0 by decide)
                have hbn : bnums L first = ([], 1) := by unfold bnums; rw [hF]; exact if_neg (show ¬ (1 : Int) = 0 by decide)
                have cr := bread_any b d g 0 L first wr (PM.out.below B3.out) WB.out.up WB.out.con
                have cg := fun W (q : PMy w1.heap.size W b d g 0 (L.length : Int)) => bnums_any b d g 0 L first W q WB.out.up WB.out.con
                rw [hbr] at cr
                rw [hbn] at cg
                have CR := Lib.hid cr
                have CG := Lib.hid cg
                have P3 := Lib.hid (PM.out.below B3.out)
                clear cr cg hbr hbn
                go_wp2_with (first
                  | (go_at_call 38; ((with_reducible refine CR.out.mono ?_); rintro e w4 ⟨rfl, hb4⟩; have B4 := Lib.hid (B3.out.trans (hb4.mono s3)); have CG4 := Lib.hid (CG.out _ (P3.out.below hb4)); clear hb4))
                  | (go_at_call 39; ((with_reducible refine CG4.out.mono ?_); rintro e w5 ⟨v9, rfl, ho9, hb5⟩; have B5 := Lib.hid (B4.out.trans (hb5.mono B4.out.size)); obtain ⟨A9, c9, hv9, hr9⟩ := own_at (V := vInt) (l := []) ho9; subst hv9; clear hr9 ho9 hb5)))
                go_ret
                exact ⟨rfl, BB.out.trans (B5.out.mono sb)⟩
              · have hn0' : (0 : Int) ≤ n := by omega
                have hnl : (L.length : Int) ≤ n := by omega
                clear hst
                have hbr : bread L first = (⟨#[]⟩, 1) := by unfold bread; rw [hF]; exact if_neg (show ¬ (1 : Int) = 0 by decide)
                have hbn : bnums L first = ([], 1) := by unfold bnums; rw [hF]; exact if_neg (show ¬ (1 : Int) = 0 by decide)
                have cr := bread_any b d g 0 L first wr (PM.out.below B3.out) WB.out.up WB.out.con
                have cg := fun W (q : PMy w1.heap.size W b d g 0 (L.length : Int)) => bnums_any b d g 0 L first W q WB.out.up WB.out.con
                rw [hbr] at cr
                rw [hbn] at cg
                have CR := Lib.hid cr
                have CG := Lib.hid cg
                have P3 := Lib.hid (PM.out.below B3.out)
                clear cr cg hbr hbn
                go_wp2_with (first
                  | (go_at_call 38; ((with_reducible refine CR.out.mono ?_); rintro e w4 ⟨rfl, hb4⟩; have B4 := Lib.hid (B3.out.trans (hb4.mono s3)); have CG4 := Lib.hid (CG.out _ (P3.out.below hb4)); clear hb4))
                  | (go_at_call 39; ((with_reducible refine CG4.out.mono ?_); rintro e w5 ⟨v9, rfl, ho9, hb5⟩; have B5 := Lib.hid (B4.out.trans (hb5.mono B4.out.size)); obtain ⟨A9, c9, hv9, hr9⟩ := own_at (V := vInt) (l := []) ho9; subst hv9; clear hr9 ho9 hb5)))
                go_ret
                exact ⟨rfl, BB.out.trans (B5.out.mono sb)⟩
          · have hbr : bread L first = (⟨(bytesOf xs).toArray⟩, 0) := by unfold bread; rw [hF]; exact if_pos rfl
            have hbn : bnums L first = (xs.map (·.1), 0) := by unfold bnums; rw [hF]; exact if_pos rfl
            rw [← of_bytes HS.out] at hbr
            have cr := bread_any b d g 0 L first wr (PM.out.below B3.out) WB.out.up WB.out.con
            have cg := fun W (q : PMy w1.heap.size W b d g 0 (L.length : Int)) => bnums_any b d g 0 L first W q WB.out.up WB.out.con
            rw [hbr] at cr
            rw [hbn] at cg
            have CR := Lib.hid cr
            have CG := Lib.hid cg
            have P3 := Lib.hid (PM.out.below B3.out)
            have hxp : 0 < xs.length := by
              rcases Nat.eq_zero_or_pos xs.length with h | h
              · exact absurd (List.length_eq_zero_iff.mp h) hxn
              · exact h
            have hxz : ((xs.length : Int) == 0) = false := by rw [beq_eq_false_iff_ne]; omega
            subst hn1
            clear cr cg hbr hbn hF hxn
            go_wp2_with (first
              | (go_at_call 38; ((with_reducible refine CR.out.mono ?_); rintro e w4 ⟨rfl, hb4⟩; have B4 := Lib.hid (B3.out.trans (hb4.mono s3)); have B34 := Lib.hid hb4; have CG4 := Lib.hid (CG.out _ (P3.out.below hb4)); clear hb4))
              | (go_at_call 39; ((with_reducible refine CG4.out.mono ?_); rintro e w5 ⟨v9, rfl, ho9, hb5⟩; have B5 := Lib.hid (B4.out.trans (hb5.mono B4.out.size)); have A145 := Lib.hid ((AA14.out.below B34.out).below hb5); obtain ⟨A9, c9, hv9, hr9⟩ := own_at (V := vInt) (l := xs.map (·.1)) ho9; rw [List.length_map] at hv9; have A9H := Lib.hid hr9.1; subst hv9; clear hr9 ho9 hb5)))
            go_loopw [188] (fun t188 wx => ∃ t : Nat, t ≤ xs.length ∧ t188 = .int .i64 (t : Int) ∧ Below w5.heap.size w5 wx) (fun t188 _ => xs.length - (intOf t188).toNat)
            case atStart => exact ⟨0, Nat.zero_le _, rfl, Below.refl _ _⟩
            case round =>
              obtain ⟨t, ht, rfl, hb6⟩ := hrel
              have B6 := Lib.hid hb6
              clear hb6
              by_cases htc : t < xs.length
              · have htI : (t : Int) < (xs.length : Int) := by omega
                have ht0 : (0 : Int) ≤ (t : Int) := by omega
                have htl : t < (xs.map (·.1)).length := by rw [List.length_map]; exact htc
                obtain ⟨b9, o9, hA9, _, hc9⟩ := (A9H.out.below B6.out) (by omega)
                have x9 := hc9 t htl
                subst hA9
                obtain ⟨b4, o4, hA4, _, hc4⟩ := (A145.out.below B6.out) (by omega)
                have x4 := hc4 t htl
                subst hA4
                generalize (xs.map (·.1))[t] = nv at *
                clear hc9 hc4 htl
                go_wp2
                go_quiet (fail)
                go_wp2
                go_roundw
                case rel => exact ⟨t + 1, by omega, by go_num, below_drewN B6.out _⟩
                case measure => simp [intOf]; omega
              · have htI : ¬ (t : Int) < (xs.length : Int) := by omega
                go_wp2
                go_ret
                exact ⟨rfl, (BB.out.trans (B5.out.mono sb)).trans (B6.out.mono (Nat.le_trans sb B5.out.size))⟩
      · go_wp2
        generalize wr = wo at *
        go_loopw [12, 13, 14, 15] (fun t12 t13 t14 t15 wx => ∃ (n : Int) (xs : List (Int × ByteArray)) (S : ByteArray), t12 = .string S ∧ S.data.toList = bytesOf xs ∧ t13 = .int .i64 0 ∧ t15 = .int .i64 n ∧ wx.ownsRow wo.heap.size 3 1 t14 xs.length ((xs.map (·.1)).map vInt) ∧ S.size ≤ 240 * xs.length ∧ (Goes L first xs.length n xs ∧ (xs = [] ∨ 0 ≤ n ∧ n + (xs.length : Int) ≤ 12) ∨ n = -1 ∧ xs ≠ [] ∧ bwalk L 279 first = (xs, 0)) ∧ xs.length ≤ 13 ∧ Below wo.heap.size wo wx) (fun _ _ _ t15 _ => (intOf t15 + 1).toNat)
        case atStart => exact ⟨first, [], ⟨#[]⟩, rfl, rfl, rfl, rfl, World.ownsRow_nil _ _ _ _, Nat.zero_le _, .inl ⟨goes_start L first, .inl rfl⟩, by simp, Below.refl _ _⟩
        case round =>
          obtain ⟨n, xs, S, rfl, hS, rfl, rfl, ho4, hSz, hstate, hxl, hb3⟩ := hrel
          have B3 := Lib.hid hb3
          have s3 := hb3.size
          have HS := Lib.hid hS
          obtain ⟨A14, c14, hv14, hr14⟩ := own_at (V := vInt) (l := xs.map (·.1)) ho4
          rw [List.length_map] at hv14
          subst hv14
          have AA14 := Lib.hid hr14.1
          have O14 := Lib.hid ho4
          clear hb3 hS hr14 ho4
          rcases hstate with ⟨hG, hst⟩ | ⟨hn1, hxn, hF⟩
          · have hlt79 : xs.length < 279 := by omega
            by_cases hin : 0 ≤ n ∧ n.toNat < L.length
            · obtain ⟨k, rfl⟩ : ∃ k : Nat, n = (k : Int) := ⟨n.toNat, by omega⟩
              have hk : k < L.length := by omega
              have hk0 : (0 : Int) ≤ (k : Int) := by omega
              have hkI : (k : Int) < (L.length : Int) := by omega
              have hbl : blook L (k : Int) = match bsays k L[k] with
                  | some (x, s) => (x, s, 0)
                  | none => (-1, ⟨#[]⟩, 8) := by
                unfold blook
                rw [dif_pos hin]
                simp only [Int.toNat_natCast]
                cases bsays k L[k] <;> rfl
              have hps := SZ.out L[k] (List.getElem_mem _)
              have hok := (WB.out.con.ok L[k] (List.getElem_mem _)).1
              obtain ⟨g7, hA7, hl7, x0, x1⟩ := own2_get O7.out hk
              subst hA7
              have y0 := (B3.out.cell (p := ⟨g7, k * 2, none⟩) hl7).trans x0
              have y1 := (B3.out.cell (p := ⟨g7, k * 2 + 1, none⟩) hl7).trans x1
              generalize L[k] = q at *
              obtain ⟨kd, pay⟩ := q
              simp only at y0 y1 hps hok
              have chd := fun W => V.head_any pay W (by unfold maxLen; omega)
              obtain ⟨x, m, f, hr⟩ : ∃ x m f, Var.hd 0 0 pay.data.toList = (x, m, f) := ⟨_, _, _, rfl⟩
              have hmle := V.hd_le _ _ _ _ _ _ hr
              rw [size_data] at hmle
              have hsay : bsays k (kd, pay) = if kd = 3 ∧ f = 0 ∧ x ≤ k then some ((x : Int) - 1, pay.extract m pay.size) else none := by unfold bsays; simp only [hr]
              rw [hsay] at hbl
              rw [hr] at chd
              dsimp only [V.tri] at chd
              have CHd := Lib.hid chd
              clear chd hsay x0 x1 hr
              have hwu := wrapu k (by omega)
              have hf0 : (0 : Int) ≤ (f : Int) := by omega
              by_cases hbad : kd = 3 ∧ f = 0 ∧ x ≤ k
              · rw [if_pos hbad] at hbl
                obtain ⟨rfl, rfl, hxk⟩ := hbad
                have hpl : (pay.extract m pay.size).size ≤ 20 := by rw [ByteArray.size_extract]; omega
                have hE := fun h => goes_end hG hlt79 (by rw [hbl]) h
                have hO := fun h => goes_on hG hlt79 (by rw [hbl]) h
                rw [hbl] at hE hO
                simp only at hE hO
                have EE := Lib.hid hE
                have OO := Lib.hid hO
                have hxw : IntKind.i64.wrap (x : Int) = (x : Int) := IntWalk.i64_in _ (by omega)
                have hnx : ¬ (k : Int) < (x : Int) := by omega
                have hme : m ≤ pay.size := by omega
                have HS2 : Hid ((S ++ pay.extract m pay.size).data.toList = bytesOf (xs ++ [((k : Int), pay.extract m pay.size)])) := by rw [Hid, bytesOf_snoc, cat_data, HS.out]
                have hS2 : (S ++ pay.extract m pay.size).size ≤ 240 * (xs.length + 1) := by rw [cat_size]; omega
                have HSZ2 := Lib.hid hS2
                clear hE hO hbl hG hin hS2
                go_wp2_with (first
                  | (go_at_call 41; ((with_reducible refine (CHd.out _).mono ?_); rintro e w' ⟨rfl, rfl⟩))
                  | (at_builtin; refine wpList_append_own _ rfl _ _ 34 rfl wo.heap.size 3 i0 (.int .i64 0) 1 8 Try.underlying34 hi0 hz0 hz1 hz2 rfl (by decide) _ _ _ rfl (O14.out.alloc _) ⟨wr.heap.size, 0, none⟩ 1 1 [.int .i64 (k : Int)] rfl rfl (cell_one_new _ _ _) ?d2b ?d3b ?d4b ?d5b ?_))
                case d2b => first | exact one_int _ | rfl
                case d3b => unfold maxLen; omega
                case d4b => omega
                case d5b => exact Nat.le_trans s3 (by simp)
                · intro v' w6 hown hgrow _
                  have b6 : Below wo.heap.size wr w6 := ((Below.refl wo.heap.size wr).alloc s3 _).grown hgrow (Nat.le_trans s3 (by simp)) (fun k hk => (O14.out.lt k hk).1)
                  have O6 : Hid (w6.ownsRow wo.heap.size 3 1 v' (xs ++ [((k : Int), pay.extract m pay.size)]).length (((xs ++ [((k : Int), pay.extract m pay.size)]).map (·.1)).map vInt)) := by rw [Hid, List.length_append, List.map_append, List.map_append, List.map_map]; exact hown
                  have B6 := Lib.hid (B3.out.trans b6)
                  have hxl2 : xs.length + 1 ≤ 13 := by
                    rcases hst with h | h
                    · subst h; simp
                    · omega
                  have hxl3 : (x : Int) - 1 + ((xs.length + 1 : Nat) : Int) ≤ 12 := by
                    rcases hst with h | h
                    · subst h; simp; omega
                    · omega
                  have HX3 := Lib.hid hxl3
                  clear hown hgrow b6 hst hxl3
                  by_cases hx0 : x = 0
                  · subst hx0
                    go_wp2
                    go_roundw
                    case rel => exact ⟨-1, xs ++ [((k : Int), pay.extract m pay.size)], _, rfl, HS2.out, rfl, by go_num, O6.out, by rw [List.length_append]; exact HSZ2.out, .inr ⟨rfl, by simp, EE.out rfl⟩, by rw [List.length_append]; exact hxl2, B6.out⟩
                    case measure => simp [intOf]
                  · go_wp2
                    go_roundw
                    case rel => exact ⟨(x : Int) - 1, xs ++ [((k : Int), pay.extract m pay.size)], _, rfl, HS2.out, rfl, by go_num, O6.out, by rw [List.length_append]; exact HSZ2.out, .inl ⟨by rw [List.length_append]; exact OO.out (by omega), .inr ⟨by omega, by rw [List.length_append]; exact HX3.out⟩⟩, by rw [List.length_append]; exact hxl2, B6.out⟩
                    case measure => simp [intOf]; omega
              · rw [if_neg hbad] at hbl
                have hF := goes_err hG hlt79 (by rw [hbl]; decide)
                rw [hbl] at hF
                simp only at hF
                clear hbl hG hin hst
                by_cases hk3 : kd = 3
                · subst hk3
                  by_cases hff : f = 0
                  · subst hff
                    have hnx : (k : Int) < (x : Int) := by
                      have : ¬ x ≤ k := fun h => hbad ⟨rfl, rfl, h⟩
                      omega
                    clear hbad
                    have hbr : bread L first = (⟨#[]⟩, 8) := by unfold bread; rw [hF]; exact if_neg (show ¬ (8 : Int) = 0 by decide)
                    have hbn : bnums L first = ([], 8) := by unfold bnums; rw [hF]; exact if_neg (show ¬ (8 : Int) = 0 by decide)
                    have cr := bread_any b d g 0 L first wr (PM.out.below B3.out) WB.out.up WB.out.con
                    have cg := fun W (q : PMy w1.heap.size W b d g 0 (L.length : Int)) => bnums_any b d g 0 L first W q WB.out.up WB.out.con
                    rw [hbr] at cr
                    rw [hbn] at cg
                    have CR := Lib.hid cr
                    have CG := Lib.hid cg
                    have P3 := Lib.hid (PM.out.below B3.out)
                    clear cr cg hbr hbn hF
                    go_wp2_with (first
                      | (go_at_call 41; ((with_reducible refine (CHd.out _).mono ?_); rintro e w' ⟨rfl, rfl⟩))
                      | (go_at_call 38; ((with_reducible refine CR.out.mono ?_); rintro e w4 ⟨rfl, hb4⟩; have B4 := Lib.hid (B3.out.trans (hb4.mono s3)); have CG4 := Lib.hid (CG.out _ (P3.out.below hb4)); clear hb4))
                      | (go_at_call 39; ((with_reducible refine CG4.out.mono ?_); rintro e w5 ⟨v9, rfl, ho9, hb5⟩; have B5 := Lib.hid (B4.out.trans (hb5.mono B4.out.size)); obtain ⟨A9, c9, hv9, hr9⟩ := own_at (V := vInt) (l := []) ho9; subst hv9; clear hr9 ho9 hb5)))
                    go_ret
                    exact ⟨rfl, BB.out.trans (B5.out.mono sb)⟩
                  · have hfb : ((f : Int) != 0) = true := by rw [bne_iff_ne]; omega
                    clear hbad hff
                    have hbr : bread L first = (⟨#[]⟩, 8) := by unfold bread; rw [hF]; exact if_neg (show ¬ (8 : Int) = 0 by decide)
                    have hbn : bnums L first = ([], 8) := by unfold bnums; rw [hF]; exact if_neg (show ¬ (8 : Int) = 0 by decide)
                    have cr := bread_any b d g 0 L first wr (PM.out.below B3.out) WB.out.up WB.out.con
                    have cg := fun W (q : PMy w1.heap.size W b d g 0 (L.length : Int)) => bnums_any b d g 0 L first W q WB.out.up WB.out.con
                    rw [hbr] at cr
                    rw [hbn] at cg
                    have CR := Lib.hid cr
                    have CG := Lib.hid cg
                    have P3 := Lib.hid (PM.out.below B3.out)
                    clear cr cg hbr hbn hF
                    go_wp2_with (first
                      | (go_at_call 41; ((with_reducible refine (CHd.out _).mono ?_); rintro e w' ⟨rfl, rfl⟩))
                      | (go_at_call 38; ((with_reducible refine CR.out.mono ?_); rintro e w4 ⟨rfl, hb4⟩; have B4 := Lib.hid (B3.out.trans (hb4.mono s3)); have CG4 := Lib.hid (CG.out _ (P3.out.below hb4)); clear hb4))
                      | (go_at_call 39; ((with_reducible refine CG4.out.mono ?_); rintro e w5 ⟨v9, rfl, ho9, hb5⟩; have B5 := Lib.hid (B4.out.trans (hb5.mono B4.out.size)); obtain ⟨A9, c9, hv9, hr9⟩ := own_at (V := vInt) (l := []) ho9; subst hv9; clear hr9 ho9 hb5)))
                    go_ret
                    exact ⟨rfl, BB.out.trans (B5.out.mono sb)⟩
                · have hkb : ((kd : Int) != 3) = true := by rw [bne_iff_ne]; omega
                  clear hbad hk3
                  have hbr : bread L first = (⟨#[]⟩, 8) := by unfold bread; rw [hF]; exact if_neg (show ¬ (8 : Int) = 0 by decide)
                  have hbn : bnums L first = ([], 8) := by unfold bnums; rw [hF]; exact if_neg (show ¬ (8 : Int) = 0 by decide)
                  have cr := bread_any b d g 0 L first wr (PM.out.below B3.out) WB.out.up WB.out.con
                  have cg := fun W (q : PMy w1.heap.size W b d g 0 (L.length : Int)) => bnums_any b d g 0 L first W q WB.out.up WB.out.con
                  rw [hbr] at cr
                  rw [hbn] at cg
                  have CR := Lib.hid cr
                  have CG := Lib.hid cg
                  have P3 := Lib.hid (PM.out.below B3.out)
                  clear cr cg hbr hbn hF
                  go_wp2_with (first
                    | (go_at_call 41; ((with_reducible refine (CHd.out _).mono ?_); rintro e w' ⟨rfl, rfl⟩))
                    | (go_at_call 38; ((with_reducible refine CR.out.mono ?_); rintro e w4 ⟨rfl, hb4⟩; have B4 := Lib.hid (B3.out.trans (hb4.mono s3)); have CG4 := Lib.hid (CG.out _ (P3.out.below hb4)); clear hb4))
                    | (go_at_call 39; ((with_reducible refine CG4.out.mono ?_); rintro e w5 ⟨v9, rfl, ho9, hb5⟩; have B5 := Lib.hid (B4.out.trans (hb5.mono B4.out.size)); obtain ⟨A9, c9, hv9, hr9⟩ := own_at (V := vInt) (l := []) ho9; subst hv9; clear hr9 ho9 hb5)))
                  go_ret
                  exact ⟨rfl, BB.out.trans (B5.out.mono sb)⟩
            · have hbl : blook L n = (-1, ⟨#[]⟩, 1) := dif_neg hin
              have hF := goes_err hG hlt79 (by rw [hbl]; decide)
              rw [hbl] at hF
              simp only at hF
              clear hbl hG
              by_cases hn0 : n < 0
              · have hxe : xs = [] := by rcases hst with h | h; exact h; omega
                subst hxe
                have hl0 : ([] : List (Int × ByteArray)).length = 0 := rfl
                clear hst
                have hbr : bread L first = (⟨#[]⟩, 1) := by unfold bread; rw [hF]; exact if_neg (show ¬ (1 : Int) = 0 by decide)
                have hbn : bnums L first = ([], 1) := by unfold bnums; rw [hF]; exact if_neg (show ¬ (1 : Int) = 0 by decide)
                have cr := bread_any b d g 0 L first wr (PM.out.below B3.out) WB.out.up WB.out.con
                have cg := fun W (q : PMy w1.heap.size W b d g 0 (L.length : Int)) => bnums_any b d g 0 L first W q WB.out.up WB.out.con
                rw [hbr] at cr
                rw [hbn] at cg
                have CR := Lib.hid cr
                have CG := Lib.hid cg
                have P3 := Lib.hid (PM.out.below B3.out)
                clear cr cg hbr hbn
                go_wp2_with (first
                  | (go_at_call 38; ((with_reducible refine CR.out.mono ?_); rintro e w4 ⟨rfl, hb4⟩; have B4 := Lib.hid (B3.out.trans (hb4.mono s3)); have CG4 := Lib.hid (CG.out _ (P3.out.below hb4)); clear hb4))
                  | (go_at_call 39; ((with_reducible refine CG4.out.mono ?_); rintro e w5 ⟨v9, rfl, ho9, hb5⟩; have B5 := Lib.hid (B4.out.trans (hb5.mono B4.out.size)); obtain ⟨A9, c9, hv9, hr9⟩ := own_at (V := vInt) (l := []) ho9; subst hv9; clear hr9 ho9 hb5)))
                go_ret
                exact ⟨rfl, BB.out.trans (B5.out.mono sb)⟩
              · have hn0' : (0 : Int) ≤ n := by omega
                have hnl : (L.length : Int) ≤ n := by omega
                clear hst
                have hbr : bread L first = (⟨#[]⟩, 1) := by unfold bread; rw [hF]; exact if_neg (show ¬ (1 : Int) = 0 by decide)
                have hbn : bnums L first = ([], 1) := by unfold bnums; rw [hF]; exact if_neg (show ¬ (1 : Int) = 0 by decide)
                have cr := bread_any b d g 0 L first wr (PM.out.below B3.out) WB.out.up WB.out.con
                have cg := fun W (q : PMy w1.heap.size W b d g 0 (L.length : Int)) => bnums_any b d g 0 L first W q WB.out.up WB.out.con
                rw [hbr] at cr
                rw [hbn] at cg
                have CR := Lib.hid cr
                have CG := Lib.hid cg
                have P3 := Lib.hid (PM.out.below B3.out)
                clear cr cg hbr hbn
                go_wp2_with (first
                  | (go_at_call 38; ((with_reducible refine CR.out.mono ?_); rintro e w4 ⟨rfl, hb4⟩; have B4 := Lib.hid (B3.out.trans (hb4.mono s3)); have CG4 := Lib.hid (CG.out _ (P3.out.below hb4)); clear hb4))
                  | (go_at_call 39; ((with_reducible refine CG4.out.mono ?_); rintro e w5 ⟨v9, rfl, ho9, hb5⟩; have B5 := Lib.hid (B4.out.trans (hb5.mono B4.out.size)); obtain ⟨A9, c9, hv9, hr9⟩ := own_at (V := vInt) (l := []) ho9; subst hv9; clear hr9 ho9 hb5)))
                go_ret
                exact ⟨rfl, BB.out.trans (B5.out.mono sb)⟩
          · have hbr : bread L first = (⟨(bytesOf xs).toArray⟩, 0) := by unfold bread; rw [hF]; exact if_pos rfl
            have hbn : bnums L first = (xs.map (·.1), 0) := by unfold bnums; rw [hF]; exact if_pos rfl
            rw [← of_bytes HS.out] at hbr
            have cr := bread_any b d g 0 L first wr (PM.out.below B3.out) WB.out.up WB.out.con
            have cg := fun W (q : PMy w1.heap.size W b d g 0 (L.length : Int)) => bnums_any b d g 0 L first W q WB.out.up WB.out.con
            rw [hbr] at cr
            rw [hbn] at cg
            have CR := Lib.hid cr
            have CG := Lib.hid cg
            have P3 := Lib.hid (PM.out.below B3.out)
            have hxp : 0 < xs.length := by
              rcases Nat.eq_zero_or_pos xs.length with h | h
              · exact absurd (List.length_eq_zero_iff.mp h) hxn
              · exact h
            have hxz : ((xs.length : Int) == 0) = false := by rw [beq_eq_false_iff_ne]; omega
            subst hn1
            clear cr cg hbr hbn hF hxn
            go_wp2_with (first
              | (go_at_call 38; ((with_reducible refine CR.out.mono ?_); rintro e w4 ⟨rfl, hb4⟩; have B4 := Lib.hid (B3.out.trans (hb4.mono s3)); have B34 := Lib.hid hb4; have CG4 := Lib.hid (CG.out _ (P3.out.below hb4)); clear hb4))
              | (go_at_call 39; ((with_reducible refine CG4.out.mono ?_); rintro e w5 ⟨v9, rfl, ho9, hb5⟩; have B5 := Lib.hid (B4.out.trans (hb5.mono B4.out.size)); have A145 := Lib.hid ((AA14.out.below B34.out).below hb5); obtain ⟨A9, c9, hv9, hr9⟩ := own_at (V := vInt) (l := xs.map (·.1)) ho9; rw [List.length_map] at hv9; have A9H := Lib.hid hr9.1; subst hv9; clear hr9 ho9 hb5)))
            go_loopw [188] (fun t188 wx => ∃ t : Nat, t ≤ xs.length ∧ t188 = .int .i64 (t : Int) ∧ Below w5.heap.size w5 wx) (fun t188 _ => xs.length - (intOf t188).toNat)
            case atStart => exact ⟨0, Nat.zero_le _, rfl, Below.refl _ _⟩
            case round =>
              obtain ⟨t, ht, rfl, hb6⟩ := hrel
              have B6 := Lib.hid hb6
              clear hb6
              by_cases htc : t < xs.length
              · have htI : (t : Int) < (xs.length : Int) := by omega
                have ht0 : (0 : Int) ≤ (t : Int) := by omega
                have htl : t < (xs.map (·.1)).length := by rw [List.length_map]; exact htc
                obtain ⟨b9, o9, hA9, _, hc9⟩ := (A9H.out.below B6.out) (by omega)
                have x9 := hc9 t htl
                subst hA9
                obtain ⟨b4, o4, hA4, _, hc4⟩ := (A145.out.below B6.out) (by omega)
                have x4 := hc4 t htl
                subst hA4
                generalize (xs.map (·.1))[t] = nv at *
                clear hc9 hc4 htl
                go_wp2
                go_quiet (fail)
                go_wp2
                go_roundw
                case rel => exact ⟨t + 1, by omega, by go_num, below_drewN B6.out _⟩
                case measure => simp [intOf]; omega
              · have htI : ¬ (t : Int) < (xs.length : Int) := by omega
                go_wp2
                go_ret
                exact ⟨rfl, (BB.out.trans (B5.out.mono sb)).trans (B6.out.mono (Nat.le_trans sb B5.out.size))⟩
end Bb
end Go.Proofs.Ytgilmcmanomkiaa
