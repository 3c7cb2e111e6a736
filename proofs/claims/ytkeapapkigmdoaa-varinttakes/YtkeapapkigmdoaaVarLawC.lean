/-
  The walk of the statement VarintTakes: of any bytes, whatever is asked for is taken as the document says, and the first error stays.
-/
import Derived.Test.YtkeapapkigmdoaaRows
import Derived.Test.YtkeapapkigmdoaaVarTake
namespace Go.Proofs.Ytkeapapkigmdoaa
open Go.RowKit
namespace V

/-- what the walk is told of the parts that came in -/
def RawAt (w : World) (A : Option Addr) (len : Nat) (raw : Nat → Int × Int × Int) : Prop := 0 < len → ∃ b off, A = some ⟨b, off, none⟩ ∧ b < w.heap.size ∧ ∀ i, i < len →
  w.cell? ⟨b, off + i * 3, none⟩ = some (.int .i64 (raw i).1) ∧ w.cell? ⟨b, off + i * 3 + 1, none⟩ = some (.int .u64 (raw i).2.1) ∧ w.cell? ⟨b, off + i * 3 + 2, none⟩ = some (.int .i64 (raw i).2.2) ∧
  (0 ≤ (raw i).2.1 ∧ (raw i).2.1 < 18446744073709551616) ∧ -9223372036854775808 ≤ (raw i).2.2 ∧ (raw i).2.2 ≤ 9223372036854775807

/-- 'Kind &= 3; if Kind == 1 { Most = min(Most, 1<<40) }' -/
def kindOf (k : Int) : Nat := (BitVec.ofInt 64 k).toNat % 4
def fix (r : Int × Int × Int) : Pt := ⟨kindOf r.1, if kindOf r.1 = 1 then min r.2.1.toNat 1099511627776 else r.2.1.toNat, r.2.2⟩
theorem and3 (k : Int) : bits .and .i64 k 3 = (kindOf k : Int) := by
  show IntKind.i64.wrap ((BitVec.ofInt 64 k &&& BitVec.ofInt 64 3).toNat : Int) = _
  have h : (BitVec.ofInt 64 k &&& BitVec.ofInt 64 3).toNat = kindOf k := by
    rw [BitVec.toNat_and]
    exact Nat.and_two_pow_sub_one_eq_mod _ 2
  rw [h]
  have : kindOf k < 4 := Nat.mod_lt _ (by omega)
  exact IntWalk.i64_in _ (by omega)

def ptCells (p : Pt) : List Value := [.int .i64 (p.k : Int), .int .u64 (p.m : Int), .int .i64 p.n]
def partCells (ps : List Pt) : List Value := ps.flatMap ptCells
theorem info34 : (Try.prog.info? 34).map (fun i => (i.zero, i.size, i.bytes)) = some (some (.agg #[.int .i64 0, .int .u64 0, .int .i64 0]), 3, 24) := by kernel_rfl

theorem three_new (W : World) (a b c : Value) (e : TypeId) (g : Nat) (hg : g = W.heap.size) : ∀ j u, [a, b, c][j]? = some u → (W.alloc (.cells #[a, b, c] e)).cell? ((⟨g, 0, none⟩ : Addr).add j) = some u := by
  subst hg
  intro j u hj
  have hp : (⟨W.heap.size, 0, none⟩ : Addr).add j = ⟨W.heap.size, j, none⟩ := by unfold Addr.add; split <;> simp_all
  rw [hp, World.cell?_alloc_mark]
  match j, hj with
  | 0, hj => exact hj
  | 1, hj => exact hj
  | 2, hj => exact hj
theorem one3 (a b c : Int) : ∀ u ∈ [Value.int .i64 a, .int .u64 b, .int .i64 c], u.oneCell' = true := by
  intro u hu; simp at hu; rcases hu with rfl | rfl | rfl <;> rfl
/-- the parts as the law fixes them -/
def fixed (raw : Nat → Int × Int × Int) (k : Nat) : List Pt := (List.range k).map fun i => fix (raw i)
theorem fixed_succ (raw : Nat → Int × Int × Int) (k : Nat) : fixed raw (k + 1) = fixed raw k ++ [fix (raw k)] := by simp [fixed, List.range_succ]
theorem fixed_length (raw : Nat → Int × Int × Int) (k : Nat) : (fixed raw k).length = k := by simp [fixed]
theorem partCells_snoc (ps : List Pt) (p : Pt) : partCells (ps ++ [p]) = partCells ps ++ [.int .i64 (p.k : Int), .int .u64 (p.m : Int), .int .i64 p.n] := by simp [partCells, ptCells]

theorem partCells_get : ∀ (ps : List Pt) (i : Nat) (h : i < ps.length), (partCells ps)[i * 3]? = some (.int .i64 (ps[i].k : Int)) ∧ (partCells ps)[i * 3 + 1]? = some (.int .u64 (ps[i].m : Int)) ∧ (partCells ps)[i * 3 + 2]? = some (.int .i64 ps[i].n)
  | p :: r, 0, _ => by simp [partCells, ptCells]
  | p :: r, i + 1, h => by
    have ih := partCells_get r i (by simpa using h)
    have e : partCells (p :: r) = ptCells p ++ partCells r := by simp [partCells]
    have el : (ptCells p).length = 3 := rfl
    rw [e, List.getElem?_append_right (by rw [el]; omega), List.getElem?_append_right (by rw [el]; omega), List.getElem?_append_right (by rw [el]; omega), el,
      show (i + 1) * 3 - 3 = i * 3 by omega, show (i + 1) * 3 + 1 - 3 = i * 3 + 1 by omega, show (i + 1) * 3 + 2 - 3 = i * 3 + 2 by omega]
    exact ih
theorem add_plain0 (g j : Nat) : (⟨g, 0, none⟩ : Addr).add j = ⟨g, j, none⟩ := by unfold Addr.add; split <;> simp_all
theorem own_parts {w : World} {B L : Nat} {v : Value} {ps : List Pt} (hw : 0 < w.heap.size) (hl : ps.length = L) (h : w.ownsRow B 34 3 v L (partCells ps)) :
    ∃ A g c, v = .slice A L c ∧ (0 < L → A = some ⟨g, 0, none⟩ ∧ B ≤ g) ∧ g < w.heap.size ∧ PartsAt w g ps := by
  rcases h.2 with ⟨rfl, rfl⟩ | ⟨g, cap, cur, rfl, hb, hg, _⟩
  · exact ⟨none, 0, 0, rfl, fun h => absurd h (by omega), hw, fun i hi => absurd hi (by omega)⟩
  · refine ⟨_, g, cap, rfl, fun _ => ⟨rfl, hb⟩, (h.lt g rfl).2, fun i hi => ?_⟩
    obtain ⟨h0, h1, h2⟩ := partCells_get ps i hi
    have c0 := h.cells rfl _ _ h0
    have c1 := h.cells rfl _ _ h1
    have c2 := h.cells rfl _ _ h2
    rw [add_plain0] at c0 c1 c2
    exact ⟨c0, c1, c2⟩
theorem own_strs {w : World} {B L : Nat} {v : Value} {gs : List ByteArray} (hw : 0 < w.heap.size) (hl : gs.length = L) (h : w.ownsRow B 9 1 v L (strCells gs)) :
    ∃ A g c, v = .slice A L c ∧ (0 < L → A = some ⟨g, 0, none⟩ ∧ B ≤ g) ∧ g < w.heap.size ∧ ∀ i (hi : i < gs.length), w.cell? ⟨g, i, none⟩ = some (.string gs[i]) := by
  rcases h.2 with ⟨rfl, rfl⟩ | ⟨g, cap, cur, rfl, hb, hg, _⟩
  · exact ⟨none, 0, 0, rfl, fun h => absurd h (by omega), hw, fun i hi => absurd hi (by omega)⟩
  · refine ⟨_, g, cap, rfl, fun _ => ⟨rfl, hb⟩, (h.lt g rfl).2, fun i hi => ?_⟩
    have c0 := h.cells rfl i (.string gs[i]) (by simp [strCells, List.getElem?_eq_getElem hi])
    rw [add_plain0] at c0
    exact c0
theorem kindOf_lt (k : Int) : kindOf k < 4 := Nat.mod_lt _ (by omega)
theorem fix_ok {r : Int × Int × Int} (h1 : 0 ≤ r.2.1 ∧ r.2.1 < 18446744073709551616) (h2 : -9223372036854775808 ≤ r.2.2) (h3 : r.2.2 ≤ 9223372036854775807) : PtOk (fix r) := by
  refine ⟨kindOf_lt _, ?_, ?_, h2, h3⟩
  · show (if kindOf r.1 = 1 then min r.2.1.toNat 1099511627776 else r.2.1.toNat) < 18446744073709551616
    split <;> omega
  · intro h
    show (if kindOf r.1 = 1 then min r.2.1.toNat 1099511627776 else r.2.1.toNat) ≤ 1099511627776
    rw [if_pos (show kindOf r.1 = 1 from h)]; omega
theorem run_length (ps : List Pt) : ∀ (s : ByteArray) (e : Nat), (run s e ps).1.length = ps.length := by
  induction ps with
  | nil => intro s e; rfl
  | cons p r ih => intro s e; simp only [run, List.length_cons, ih]
theorem gr_alloc {a w : World} {g : Nat} (h : a.grownBy w (some g)) (o : Obj) : a.grownBy (w.alloc o) (some g) :=
  ⟨h.os, h.tape, h.output, Nat.le_trans h.size (by simp), fun i hi hne => (Below.heap_alloc w o i (Nat.lt_of_lt_of_le hi h.size)).trans (h.block i hi hne)⟩
theorem gr_below {a w w' : World} {g : Nat} (h : a.grownBy w (some g)) (hb : Below w.heap.size w w') : a.grownBy w' (some g) :=
  ⟨hb.os.trans h.os, hb.tape.trans h.tape, hb.output.trans h.output, Nat.le_trans h.size hb.size, fun i hi hne => (hb.block i (Nat.lt_of_lt_of_le hi h.size)).trans (h.block i hi hne)⟩
theorem carry {w6 w8 : World} {g g6 j : Nat} {v : Value} (h : w6.grownBy w8 (some g)) (hc : w6.cell? ⟨g6, j, none⟩ = some v) (hne : g6 ≠ g) : w8.cell? ⟨g6, j, none⟩ = some v :=
  h.cell hc (fun e => hne (by injection e))
theorem InAt.alloc {w : World} {g : Nat} {s : ByteArray} {e : Nat} (h : InAt w g s e) (hg : g < w.heap.size) (o : Obj) : InAt (w.alloc o) g s e := h.below ((Below.refl _ _).alloc (Nat.le_refl _) o) hg
theorem rawS_size (s : ByteArray) (e n : Nat) : (rawS s e n).2.1.size ≤ s.size := by
  unfold rawS
  by_cases h : s.size < n
  · rw [if_pos h]; exact failS_size _ _ _
  · rw [if_neg h]; show (s.extract n s.size).size ≤ _; rw [ByteArray.size_extract]; omega
theorem stepS_size (s : ByteArray) (e : Nat) (p : Pt) : (stepS s e p).2.1.size ≤ s.size := by
  unfold stepS
  by_cases h0 : p.k = 0
  · rw [if_pos h0]; exact numS_size _ _ _
  · rw [if_neg h0]
    by_cases h1 : p.k = 1
    · rw [if_pos h1]; unfold textS; exact Nat.le_trans (rawS_size _ _ _) (numS_size _ _ _)
    · rw [if_neg h1]
      by_cases h2 : p.k = 2
      · rw [if_pos h2]; exact rawS_size _ _ _
      · rw [if_neg h2]; exact failS_size _ _ _
theorem fail_twice (s : ByteArray) (e : Nat) : failS (failS s e 0).1 (failS s e 0).2 13 = failS s e 13 := by
  have : failS s e 0 = (s, e) := by unfold failS; rw [if_pos (.inl rfl)]
  rw [this]
theorem fail0 (g : Nat) (s : ByteArray) (e : Nat) (w : World) (h : InAt w g s e) :
    Calls Try.prog 19 #[.pointer (some ⟨g, 0, none⟩), .int .i64 0] w fun r w' => r = .returned (.tuple #[]) ∧ InAt w' g (failS s e 0).1 (failS s e 0).2 ∧ w.grownBy w' (some g) := fail_any g s e 0 w h
theorem fail13 (g : Nat) (s : ByteArray) (e : Nat) (w : World) (h : InAt w g s e) :
    Calls Try.prog 19 #[.pointer (some ⟨g, 0, none⟩), .int .i64 13] w fun r w' => r = .returned (.tuple #[]) ∧ InAt w' g (failS s e 13).1 (failS s e 13).2 ∧ w.grownBy w' (some g) := fail_any g s e 13 w h
theorem run_head {S' : ByteArray} {E' k : Nat} {ps : List Pt} {gs : List ByteArray} (hlt : k < ps.length) (hl : k < gs.length) (h : gs.drop k = (run S' E' (ps.drop k)).1) : gs[k] = (stepS S' E' ps[k]).1 ∧ gs.drop (k + 1) = (run (stepS S' E' ps[k]).2.1 (stepS S' E' ps[k]).2.2 (ps.drop (k + 1))).1 := by
  rw [List.drop_eq_getElem_cons hlt, List.drop_eq_getElem_cons hl] at h
  simp only [run] at h
  injection h with h1 h2
  exact ⟨h1, h2⟩
theorem run_rest {S' : ByteArray} {E' k : Nat} {ps : List Pt} {t : ByteArray × Nat} (hlt : k < ps.length) (h : t = (run S' E' (ps.drop k)).2) : t = (run (stepS S' E' ps[k]).2.1 (stepS S' E' ps[k]).2.2 (ps.drop (k + 1))).2 := by
  rw [List.drop_eq_getElem_cons hlt] at h
  exact h

set_option maxRecDepth 100000 in
set_option maxHeartbeats 1000000 in
theorem varintTakes_walk (s : ByteArray) (A : Option Addr) (len cap : Nat) (raw : Nat → Int × Int × Int) (w : World) (hlc : len ≤ cap) (hcm : cap ≤ maxLen) (hraw : RawAt w A len raw) :
    Calls Try.prog 4 #[.string s, .slice A len cap] w fun e w' => e = .returned (.bool true) ∧ Below w.heap.size w w' := by
  obtain ⟨i0, hi, hz0, hz1, hz2⟩ := info_parts info34
  have hS := cutB_size s 60
  have CS := Lib.hid (cut60 s)
  generalize cutB s 60 = S at *
  have HRaw := Lib.hid hraw
  unfold maxLen at hcm
  clear hraw
  go_enter Try.func4, Try.ntmps4
  go_upto_if 22 with (first
    | (go_at_call 9; ((with_reducible refine (awake1_any _).mono ?_); rintro e w1 ⟨rfl, hb1⟩))
    | (go_at_call 15; ((with_reducible refine (CS.out _).mono ?_); rintro e w' ⟨rfl, rfl⟩)))
  go_cut [1] (fun s1 w => ∃ L : Nat, L ≤ 10 ∧ L ≤ len ∧ s1 = .slice A L cap ∧ w = w1)
  case first =>
    go_wp2
    · go_meet
      case rel => exact ⟨10, by omega, by omega, rfl, rfl⟩
    · go_meet
      case rel => exact ⟨len, by omega, by omega, rfl, rfl⟩
  case rest =>
    obtain ⟨L, hL, hLl, rfl, rfl⟩ := hcut
    go_wp2_with (go_at_call 11; ((with_reducible refine (of_new _ _).mono ?_); rintro e w4 ⟨rfl, hi4, hb4, hz4⟩; have HI := Lib.hid hi4; clear hi4))
    have acc0 : Below w.heap.size w w4 := hb1.trans (hb4.mono hb1.size)
    go_loopw [6, 31] (fun v i wr => ∃ k : Nat, k ≤ L ∧ i = .int .i64 (k : Int) ∧ wr.ownsRow w4.heap.size 34 3 v k (partCells (fixed raw k)) ∧ Below w4.heap.size w4 wr) (fun _ i _ => L - (intOf i).toNat)
    case atStart => exact ⟨0, Nat.zero_le _, rfl, World.ownsRow_nil _ _ _ _, Below.refl _ _⟩
    case round =>
      obtain ⟨k, hk, rfl, hown, hbel⟩ := hrel
      have hbs := hbel.size
      by_cases hlt : k < L
      · obtain ⟨b, off, hA, hbw, hcells⟩ := HRaw.out (by omega)
        subst hA
        obtain ⟨x0, x1, x2, ⟨x3, x4⟩, x5, x6⟩ := hcells k (by omega)
        have accr : Below w.heap.size w wr := acc0.trans (hbel.mono acc0.size)
        have c0 := (accr.cell (p := ⟨b, off + k * 3, none⟩) hbw).trans x0
        have c1 := (accr.cell (p := ⟨b, off + k * 3 + 1, none⟩) hbw).trans x1
        have c2 := (accr.cell (p := ⟨b, off + k * 3 + 2, none⟩) hbw).trans x2
        have hand := and3 (raw k).1
        have hKK : kindOf (raw k).1 < 4 := Nat.mod_lt _ (by omega)
        have HFx := Lib.hid (show fix (raw k) = ⟨kindOf (raw k).1, if kindOf (raw k).1 = 1 then min (raw k).2.1.toNat 1099511627776 else (raw k).2.1.toNat, (raw k).2.2⟩ from rfl)
        have hm3 : k + 1 ≤ maxLen := by unfold maxLen; omega
        have hm4 : (k + 1) * 24 ≤ 140737488355328 := by omega
        clear hcells x0 x1 x2
        generalize kindOf (raw k).1 = KK at *
        generalize (raw k).2.2 = rn at *
        obtain ⟨M, hM⟩ : ∃ M : Nat, (raw k).2.1 = (M : Int) := ⟨(raw k).2.1.toNat, by omega⟩
        rw [hM] at c1 x3 x4 HFx
        generalize (raw k).1 = rk at *
        rw [Int.toNat_natCast] at HFx
        clear hM x3
        by_cases hK1 : KK = 1
        · subst hK1
          by_cases hmm : M ≤ 1099511627776
          · have HF : Hid (fix (raw k) = ⟨1, M, rn⟩) := by rw [HFx.out, if_pos rfl, Nat.min_eq_left hmm]; rfl
            clear HFx
            go_wp2_with (at_builtin; refine wpList_append_own _ rfl _ _ 31 rfl w4.heap.size 34 i0 (.agg #[.int .i64 0, .int .u64 0, .int .i64 0]) 3 24 Try.underlying31 hi hz0 hz1 hz2 rfl (by decide) _ _ _ rfl ((hown.alloc _).alloc _) ⟨wr.heap.size + 1, 0, none⟩ 1 1 [.int .i64 1, .int .u64 (M : Int), .int .i64 rn] rfl rfl (three_new _ _ _ _ _ _ (World.size_alloc _ _).symm) (one3 _ _ _) hm3 hm4 (base1 (base1 hbs _) _) ?_)
            intro v' w5 hown' hgrow _
            have hb5 : Below w4.heap.size w4 w5 := (((hbel.alloc hbs _).alloc (base1 hbs _) _).grown hgrow (base1 (base1 hbs _) _) (fun q hq => (hown.lt q hq).1))
            have HO : Hid (w5.ownsRow w4.heap.size 34 3 v' (k + 1) (partCells (fixed raw (k + 1)))) := by rw [fixed_succ, partCells_snoc, HF.out]; exact hown'
            clear hown' hgrow hown
            go_wp2
            go_roundw
            case rel => exact ⟨k + 1, by omega, by go_num, HO.out, hb5⟩
            case measure => simp [intOf]; omega
          · have HF : Hid (fix (raw k) = ⟨1, 1099511627776, rn⟩) := by rw [HFx.out, if_pos rfl, Nat.min_eq_right (by omega)]; rfl
            have hmm2 : 1099511627776 < (M : Int) := by omega
            clear HFx hmm x4
            go_wp2_with (at_builtin; refine wpList_append_own _ rfl _ _ 31 rfl w4.heap.size 34 i0 (.agg #[.int .i64 0, .int .u64 0, .int .i64 0]) 3 24 Try.underlying31 hi hz0 hz1 hz2 rfl (by decide) _ _ _ rfl ((hown.alloc _).alloc _) ⟨wr.heap.size + 1, 0, none⟩ 1 1 [.int .i64 1, .int .u64 1099511627776, .int .i64 rn] rfl rfl (three_new _ _ _ _ _ _ (World.size_alloc _ _).symm) (one3 _ _ _) hm3 hm4 (base1 (base1 hbs _) _) ?_)
            intro v' w5 hown' hgrow _
            have hb5 : Below w4.heap.size w4 w5 := (((hbel.alloc hbs _).alloc (base1 hbs _) _).grown hgrow (base1 (base1 hbs _) _) (fun q hq => (hown.lt q hq).1))
            have HO : Hid (w5.ownsRow w4.heap.size 34 3 v' (k + 1) (partCells (fixed raw (k + 1)))) := by rw [fixed_succ, partCells_snoc, HF.out]; exact hown'
            clear hown' hgrow hown
            go_wp2
            go_roundw
            case rel => exact ⟨k + 1, by omega, by go_num, HO.out, hb5⟩
            case measure => simp [intOf]; omega
        · have HF : Hid (fix (raw k) = ⟨KK, M, rn⟩) := by rw [HFx.out, if_neg hK1]; rfl
          have hK2 : ((KK : Int) == 1) = false := by rw [beq_eq_false_iff_ne]; omega
          clear HFx
          go_wp2_with (at_builtin; refine wpList_append_own _ rfl _ _ 31 rfl w4.heap.size 34 i0 (.agg #[.int .i64 0, .int .u64 0, .int .i64 0]) 3 24 Try.underlying31 hi hz0 hz1 hz2 rfl (by decide) _ _ _ rfl ((hown.alloc _).alloc _) ⟨wr.heap.size + 1, 0, none⟩ 1 1 [.int .i64 (KK : Int), .int .u64 (M : Int), .int .i64 rn] rfl rfl (three_new _ _ _ _ _ _ (World.size_alloc _ _).symm) (one3 _ _ _) hm3 hm4 (base1 (base1 hbs _) _) ?_)
          intro v' w5 hown' hgrow _
          have hb5 : Below w4.heap.size w4 w5 := (((hbel.alloc hbs _).alloc (base1 hbs _) _).grown hgrow (base1 (base1 hbs _) _) (fun q hq => (hown.lt q hq).1))
          have HO : Hid (w5.ownsRow w4.heap.size 34 3 v' (k + 1) (partCells (fixed raw (k + 1)))) := by rw [fixed_succ, partCells_snoc, HF.out]; exact hown'
          clear hown' hgrow hown
          go_wp2
          go_roundw
          case rel => exact ⟨k + 1, by omega, by go_num, HO.out, hb5⟩
          case measure => simp [intOf]; omega
      · have hkL : k = L := by omega
        subst hkL
        have accr : Below w.heap.size w wr := acc0.trans (hbel.mono acc0.size)
        obtain ⟨A2, g2, c2, hv, hA2, hg2, hP2⟩ := own_parts (by omega) (fixed_length raw k) hown
        subst hv
        have hok : ∀ p ∈ fixed raw k, PtOk p := by
          intro p hp
          simp only [fixed, List.mem_map, List.mem_range] at hp
          obtain ⟨i, hik, rfl⟩ := hp
          obtain ⟨_, _, _, _, hcells⟩ := HRaw.out (by omega)
          obtain ⟨_, _, _, x3, x5, x6⟩ := hcells i (by omega)
          exact fix_ok x3 x5 x6
        have HT := Lib.hid (take_any S (fixed raw k) A2 g2 c2 wr (by omega) (by rw [fixed_length]; omega) (fun h => (hA2 (by rw [fixed_length] at h; exact h)).1) hg2 hP2 hok)
        rw [fixed_length] at HT
        have HOK := Lib.hid hok
        have HA2 := Lib.hid hA2
        have HP2 := Lib.hid hP2
        have hrl := run_length (fixed raw k) S 0
        rw [fixed_length] at hrl
        have HRL := Lib.hid hrl
        have HPL := Lib.hid (fixed_length raw k)
        have HR1 := Lib.hid (show (run S 0 (fixed raw k)).1.drop 0 = (run S 0 ((fixed raw k).drop 0)).1 from rfl)
        have HR2 := Lib.hid (show (run S 0 (fixed raw k)).2 = (run S 0 ((fixed raw k).drop 0)).2 from rfl)
        clear hok hA2 hP2 hown HRaw hrl
        generalize fixed raw k = ps at *
        obtain ⟨gs, SL, EL, hgs⟩ : ∃ gs SL EL, run S 0 ps = (gs, SL, EL) := ⟨_, _, _, rfl⟩
        rw [hgs] at HT HRL HR1 HR2
        clear hgs
        go_wp2_with (go_at_call 16; ((with_reducible refine HT.out.mono ?_); rintro e w6 ⟨v6, rfl, hown6, hb6⟩; have HW := Lib.hid hown6; clear hown6 HT))
        obtain ⟨A6, g6, c6, hv6, hA6, hg6, hC6⟩ := own_strs (by have := hb6.size; omega) HRL.out HW.out
        subst hv6
        have HA6 := Lib.hid hA6
        have HC6 := Lib.hid hC6
        clear hA6 hC6 HW
        have hz6 := hb6.size
        have HI6 := Lib.hid ((HI.out.below hbel (by omega)).below hb6 (by omega))
        have acc6 : Below w.heap.size w w6 := accr.trans (hb6.mono accr.size)
        have hb1s := hb1.size
        clear HI
        generalize wc.heap.size = g at *
        generalize wr = wq at *
        go_loopw [60] (fun i wz => ∃ (j : Nat) (S' : ByteArray) (E' : Nat), j ≤ k ∧ i = .int .i64 (j : Int) ∧ InAt wz g S' E' ∧ w6.grownBy wz (some g) ∧ S'.size ≤ 60 ∧ gs.drop j = (run S' E' (ps.drop j)).1 ∧ (SL, EL) = (run S' E' (ps.drop j)).2) (fun i _ => k - (intOf i).toNat)
        case atStart => exact ⟨0, S, 0, Nat.zero_le _, rfl, HI6.out, World.grownBy.refl _ _, hS, HR1.out, HR2.out⟩
        case round =>
          obtain ⟨j, S', E', hj, rfl, hI, hgz, hS', hr1, hr2⟩ := hrel
          have hzs := hgz.size
          by_cases hlt2 : j < k
          · obtain ⟨hA2, hB2⟩ := HA2.out (by omega)
            obtain ⟨hA6, hB6⟩ := HA6.out (by omega)
            subst hA2
            subst hA6
            have hjp : j < ps.length := by rw [HPL.out]; exact hlt2
            have hjg : j < gs.length := by rw [HRL.out]; exact hlt2
            obtain ⟨p0, p1, p2⟩ := HP2.out j hjp
            have hgz' : wq.grownBy wr (some g) := ⟨hgz.os.trans hb6.os, hgz.tape.trans hb6.tape, hgz.output.trans hb6.output, Nat.le_trans hb6.size hgz.size, fun i hi hne => (hgz.block i (by omega) hne).trans (hb6.block i hi)⟩
            have c0 := carry hgz' p0 (by omega)
            have c1 := carry hgz' p1 (by omega)
            have c2' := carry hgz' p2 (by omega)
            obtain ⟨e1, hr1'⟩ := run_head hjp hjg hr1
            have hr2' := run_rest hjp hr2
            have cw6 := HC6.out j hjg
            rw [e1] at cw6
            obtain ⟨o1, o2, o3, o4, o5⟩ := HOK.out _ (List.getElem_mem hjp)
            have hsz' := stepS_size S' E' ps[j]
            obtain ⟨kk, m, n, hp⟩ : ∃ kk m n, ps[j] = ⟨kk, m, n⟩ := ⟨_, _, _, rfl⟩
            simp only [hp] at c0 c1 c2' hr1' hr2' cw6 o1 o2 o3 o4 o5 hsz'
            have HG1 := Lib.hid hr1'
            have HG2 := Lib.hid hr2'
            have HC := Lib.hid cw6
            have HSz := Lib.hid (Nat.le_trans hsz' hS')
            have hgw : g < wr.heap.size := by omega
            have HIz := Lib.hid hI
            have HGz := Lib.hid hgz
            have hne6 : g6 ≠ g := by omega
            have HNE := Lib.hid hne6
            clear hr1 hr2 hr1' hr2' cw6 e1 hp hsz' p0 p1 p2 hI hgz hgz' HR1 HR2 HP2 HC6 HOK HA2 HA6 hne6
            obtain rfl | rfl | rfl | rfl : kk = 0 ∨ kk = 1 ∨ kk = 2 ∨ kk = 3 := by omega
            · have HI1 := Lib.hid (HIz.out.alloc hgw (Obj.cells #[Value.int IntKind.i64 0, Value.int IntKind.u64 (m : Int), Value.int IntKind.i64 n] 34))
              have GZ1 := Lib.hid (gr_alloc HGz.out (Obj.cells #[Value.int IntKind.i64 0, Value.int IntKind.u64 (m : Int), Value.int IntKind.i64 n] 34))
              have C12 := Lib.hid (fun W h => in_num g S' E' m W h (by unfold maxLen; omega))
              have hX : (numS S' E' m).1 < 18446744073709551616 := Nat.lt_of_le_of_lt (numS_le S' E' m) o2
              have CN := Lib.hid (fun W => refNum_any (numS S' E' m).1 W hX)
              have hstep := step_k0 S' E' m n
              rw [hstep] at HC HG1 HG2 HSz
              clear hstep hX
              generalize ByteArray.mk (Var.num (numS S' E' m).1).toArray = got at *
              generalize numS S' E' m = t at *
              obtain ⟨X, T1, T2⟩ := t
              dsimp only at C12 CN HC HG1 HG2 HSz
              go_wp2_with (first
                | (go_at_call 12; ((with_reducible refine (C12.out _ HI1.out).mono ?_); rintro e1 w7 ⟨rfl, hi7, hg7⟩; have gacc := Lib.hid (grown_tr GZ1.out hg7); have HI7 := Lib.hid hi7; have cw := carry gacc.out HC.out HNE.out; have hgs7 := Nat.lt_of_lt_of_le hgw (Nat.le_trans (base1 (Nat.le_refl _) _) hg7.size); clear hi7 hg7))
                | (go_at_call 13; ((with_reducible refine (CN.out _).mono ?_); rintro e2 w8 ⟨rfl, hb8⟩; replace gacc := Lib.hid (gr_below gacc.out hb8); replace HI7 := Lib.hid (HI7.out.below hb8 hgs7); replace cw := carry gacc.out HC.out HNE.out)))
              go_roundw
              case rel => exact ⟨j + 1, T1, T2, by omega, by go_num, HI7.out, gacc.out, HSz.out, HG1.out, HG2.out⟩
              case measure => simp [intOf]; omega
            · have HI1 := Lib.hid (HIz.out.alloc hgw (Obj.cells #[Value.int IntKind.i64 1, Value.int IntKind.u64 (m : Int), Value.int IntKind.i64 n] 34))
              have GZ1 := Lib.hid (gr_alloc HGz.out (Obj.cells #[Value.int IntKind.i64 1, Value.int IntKind.u64 (m : Int), Value.int IntKind.i64 n] 34))
              have hm40 := o3 rfl
              have c17 := fun W h => in_text g S' E' (m : Int) W h (by unfold maxLen; omega) (by omega)
              rw [Int.toNat_natCast] at c17
              have C17 := Lib.hid c17
              have hstep := step_k1 S' E' m n
              rw [hstep] at HC HG1 HG2 HSz
              clear hstep c17
              generalize textS S' E' m = t at *
              obtain ⟨got, T1, T2⟩ := t
              dsimp only at C17 HC HG1 HG2 HSz
              go_wp2_with (go_at_call 17; ((with_reducible refine (C17.out _ HI1.out).mono ?_); rintro e1 w7 ⟨rfl, hi7, hg7⟩; have gacc := Lib.hid (grown_tr GZ1.out hg7); have HI7 := Lib.hid hi7; have cw := carry gacc.out HC.out HNE.out; clear hi7 hg7))
              go_roundw
              case rel => exact ⟨j + 1, T1, T2, by omega, by go_num, HI7.out, gacc.out, HSz.out, HG1.out, HG2.out⟩
              case measure => simp [intOf]; omega
            · have HI1 := Lib.hid (HIz.out.alloc hgw (Obj.cells #[Value.int IntKind.i64 2, Value.int IntKind.u64 (m : Int), Value.int IntKind.i64 n] 34))
              have GZ1 := Lib.hid (gr_alloc HGz.out (Obj.cells #[Value.int IntKind.i64 2, Value.int IntKind.u64 (m : Int), Value.int IntKind.i64 n] 34))
              have C18 := Lib.hid (fun W h => in_raw g S' E' n W h (by unfold maxLen; omega) ⟨o4, o5⟩)
              have hstep := step_k2 S' E' m n
              rw [hstep] at HC HG1 HG2 HSz
              clear hstep
              generalize rawS S' E' n.toNat = t at *
              obtain ⟨got, T1, T2⟩ := t
              dsimp only at C18 HC HG1 HG2 HSz
              go_wp2_with (go_at_call 18; ((with_reducible refine (C18.out _ HI1.out).mono ?_); rintro e1 w7 ⟨rfl, hi7, hg7⟩; have gacc := Lib.hid (grown_tr GZ1.out hg7); have HI7 := Lib.hid hi7; have cw := carry gacc.out HC.out HNE.out; clear hi7 hg7))
              go_roundw
              case rel => exact ⟨j + 1, T1, T2, by omega, by go_num, HI7.out, gacc.out, HSz.out, HG1.out, HG2.out⟩
              case measure => simp [intOf]; omega
            · have HI1 := Lib.hid (HIz.out.alloc hgw (Obj.cells #[Value.int IntKind.i64 3, Value.int IntKind.u64 (m : Int), Value.int IntKind.i64 n] 34))
              have GZ1 := Lib.hid (gr_alloc HGz.out (Obj.cells #[Value.int IntKind.i64 3, Value.int IntKind.u64 (m : Int), Value.int IntKind.i64 n] 34))
              have C19 := Lib.hid (fun W h => fail0 g S' E' W h)
              have c19 := fun W h => fail13 g (failS S' E' 0).1 (failS S' E' 0).2 W h
              rw [fail_twice] at c19
              have C19b := Lib.hid c19
              have hstep := step_k3 S' E' m n
              rw [hstep] at HC HG1 HG2 HSz
              clear hstep c19
              generalize failS S' E' 13 = t at *
              generalize failS S' E' 0 = t0 at *
              obtain ⟨T1, T2⟩ := t
              dsimp only at C19b HC HG1 HG2 HSz
              go_wp2_with (go_at_call 19; first
                | ((with_reducible refine (C19.out _ HI1.out).mono ?_); rintro e1 w7 ⟨rfl, hi7, hg7⟩; have gac0 := Lib.hid (grown_tr GZ1.out hg7); have HI6 := Lib.hid hi7; clear hi7 hg7)
                | ((with_reducible refine (C19b.out _ HI6.out).mono ?_); rintro e1 w8 ⟨rfl, hi8, hg8⟩; have gacc := Lib.hid (grown_tr gac0.out hg8); have HI7 := Lib.hid hi8; have cw := carry gacc.out HC.out HNE.out; clear hi8 hg8))
              go_roundw
              case rel => exact ⟨j + 1, T1, T2, by omega, by go_num, HI7.out, gacc.out, HSz.out, HG1.out, HG2.out⟩
              case measure => simp [intOf]; omega
          · have hjk : j = k := by omega
            subst hjk
            have hdr : ps.drop j = [] := List.drop_eq_nil_of_le (by rw [HPL.out]; omega)
            rw [hdr] at hr2
            obtain ⟨rfl, rfl⟩ : SL = S' ∧ EL = E' := by simpa [run] using hr2
            have accf : Below w.heap.size w wr := acc6.trans (grown_below hgz (by omega) acc6.size)
            have CE := Lib.hid (in_err g SL EL wr hI)
            have CL := Lib.hid (in_left g SL EL wr hI)
            have CD := Lib.hid (in_end g SL EL wr hI)
            clear hr1 hr2 hdr HR1 HR2 HP2 HC6 HOK HA2 HA6 hgz hI
            by_cases he : EL = 0
            · subst he
              by_cases hz : 0 < SL.size
              · have hE : endS SL 0 = 3 := by unfold endS; rw [if_pos ⟨rfl, hz⟩]
                rw [hE] at CD
                have hne := not_empty hz
                have hne2 : (!SL.toList.isEmpty) = true := by rw [hne]; rfl
                clear hE
                go_wp2_with (first | (go_at_call 20; ((with_reducible refine CE.out.mono ?_); rintro e1 w' ⟨rfl, rfl⟩)) | (go_at_call 21; ((with_reducible refine CL.out.mono ?_); rintro e1 w' ⟨rfl, rfl⟩)) | (go_at_call 14; ((with_reducible refine CD.out.mono ?_); rintro e1 w' ⟨rfl, rfl⟩)))
                go_ret
                exact ⟨rfl, accf⟩
              · have hE : endS SL 0 = 0 := by unfold endS; rw [if_neg (by omega)]
                rw [hE] at CD
                have hne := is_empty (show SL.size = 0 by omega)
                have hne2 : (!SL.toList.isEmpty) = false := by rw [hne]; rfl
                clear hE
                go_wp2_with (first | (go_at_call 20; ((with_reducible refine CE.out.mono ?_); rintro e1 w' ⟨rfl, rfl⟩)) | (go_at_call 21; ((with_reducible refine CL.out.mono ?_); rintro e1 w' ⟨rfl, rfl⟩)) | (go_at_call 14; ((with_reducible refine CD.out.mono ?_); rintro e1 w' ⟨rfl, rfl⟩)))
                go_ret
                exact ⟨rfl, accf⟩
            · have hE : endS SL EL = EL := by unfold endS; rw [if_neg (by omega)]
              rw [hE] at CD
              have he1 := nat_eq0 (show 0 < EL by omega)
              clear hE
              go_wp2_with (first | (go_at_call 20; ((with_reducible refine CE.out.mono ?_); rintro e1 w' ⟨rfl, rfl⟩)) | (go_at_call 21; ((with_reducible refine CL.out.mono ?_); rintro e1 w' ⟨rfl, rfl⟩)) | (go_at_call 14; ((with_reducible refine CD.out.mono ?_); rintro e1 w' ⟨rfl, rfl⟩)))
              go_ret
              exact ⟨rfl, accf⟩
end V
end Go.Proofs.Ytkeapapkigmdoaa
