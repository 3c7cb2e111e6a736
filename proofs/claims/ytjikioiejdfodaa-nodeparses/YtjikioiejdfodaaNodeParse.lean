/-
  Node: Parse.
-/
import Derived.Test.YtjikioiejdfodaaNodePS
namespace Go.Proofs.Ytjikioiejdfodaa
open Go.RowKit
namespace Nod
open B V

/-- a node whose three rows are of the call's own -/
def NOwn (M : Nat) (w : World) (v : Value) (n : N) : Prop := ∃ vk vv vc, v = .agg #[.int .i64 n.kind, vk, vv, vc] ∧ w.ownsRow M 9 1 vk n.keys.length (n.keys.map vStr) ∧ w.ownsRow M 9 1 vv n.vals.length (n.vals.map vStr) ∧ w.ownsRow M 3 1 vc n.kids.length (n.kids.map vInt) ∧
  (∀ b, vk.ownBlock = some b → vv.ownBlock ≠ some b) ∧ (∀ b, vk.ownBlock = some b → vc.ownBlock ≠ some b) ∧ (∀ b, vv.ownBlock = some b → vc.ownBlock ≠ some b)
theorem nown_zero (M : Nat) (w : World) : NOwn M w (.agg #[.int .i64 0, .slice none 0 0, .slice none 0 0, .slice none 0 0]) N.zero :=
  ⟨_, _, _, rfl, World.ownsRow_nil _ _ _ _, World.ownsRow_nil _ _ _ _, World.ownsRow_nil _ _ _ _, (fun _ h => by cases h), (fun _ h => by cases h), (fun _ h => by cases h)⟩
theorem four {w : World} {g : Nat} {a b c d : Value} (h : w.cell? ⟨g, 0, none⟩ = some a ∧ w.cell? ⟨g, 1, none⟩ = some b ∧ w.cell? ⟨g, 2, none⟩ = some c ∧ w.cell? ⟨g, 3, none⟩ = some d) :
    ∀ j v, [a, b, c, d][j]? = some v → w.cell? ⟨g, j, none⟩ = some v := by
  intro j v hj
  match j, hj with
  | 0, hj => exact h.1.trans hj
  | 1, hj => exact h.2.1.trans hj
  | 2, hj => exact h.2.2.1.trans hj
  | 3, hj => exact h.2.2.2.trans hj
  | j + 4, hj => cases hj
theorem own_mono {w : World} {M M' t size n : Nat} {v : Value} {xs : List Value} (h : w.ownsRow M t size v n xs) (hM : M' ≤ M) : w.ownsRow M' t size v n xs := by
  refine ⟨h.1, ?_⟩
  rcases h.2 with hn | ⟨g, cap, cur, rfl, hb, r⟩
  · exact .inl hn
  · exact .inr ⟨g, cap, cur, rfl, Nat.le_trans hM hb, r⟩
theorem nown_back {w w' : World} {Bd gN gI : Nat} {k : Int} {vk vv vc : Value} {K Vv : List ByteArray} {C : List Int} {S : ByteArray} {e : Nat} (h : PS (Bd + 3) w Bd gN gI k vk vv vc K Vv C S e) (hb : Below w.heap.size w w') : NOwn (Bd + 3) w' (.agg #[.int .i64 k, vk, vv, vc]) ⟨k, K, Vv, C⟩ :=
  ⟨vk, vv, vc, rfl, B.own_below h.ok hb, B.own_below h.ov hb, B.own_below h.oc hb, h.n1, h.n2, h.n3⟩
theorem nown_put4 {w : World} {g : Nat} {v a b c d : Value} {n : N} (h : NOwn (g + 3) w v n) (_ : 0 ≤ g) : NOwn g ((((w.setCell ⟨g, 0, none⟩ a).setCell ⟨g, 1, none⟩ b).setCell ⟨g, 2, none⟩ c).setCell ⟨g, 3, none⟩ d) v n := by
  obtain ⟨vk, vv, vc, h0, h1, h2, h3, r⟩ := h
  exact ⟨vk, vv, vc, h0, own_mono (own_put (own_put (own_put (own_put h1 (by omega)) (by omega)) (by omega)) (by omega)) (by omega), own_mono (own_put (own_put (own_put (own_put h2 (by omega)) (by omega)) (by omega)) (by omega)) (by omega), own_mono (own_put (own_put (own_put (own_put h3 (by omega)) (by omega)) (by omega)) (by omega)) (by omega), r⟩
theorem node_info : (Try.prog.info? 57).map (·.size) = some 4 := by kernel_rfl
theorem rawS_size (s : ByteArray) (e n : Nat) : (rawS s e n).2.1.size ≤ s.size := by
  unfold rawS
  split
  · exact failS_size _ _ _
  · show (s.extract n s.size).size ≤ _; rw [ByteArray.size_extract]; omega
theorem textS_size (s : ByteArray) (e m : Nat) : (textS s e m).2.1.size ≤ s.size := by
  unfold textS
  exact Nat.le_trans (rawS_size _ _ _) (numS_size _ _ _)
theorem eb_pos (k : Int) (e : E) : 1 ≤ (eb k e).length := by unfold eb txt; rw [List.length_append, List.length_append]; have := Var.num_pos e.1.size; omega
theorem one_size {k : Int} (hk : k = 1 ∨ k = 2) (s : ByteArray) : (one k s).2.1.size ≤ s.size ∧ ((one k s).2.2 = 0 → (one k s).2.1.size + 1 ≤ s.size) := by
  refine ⟨?_, fun h0 => ?_⟩
  · unfold one
    split
    · exact Nat.le_trans (textS_size _ _ _) (textS_size _ _ _)
    · exact Nat.le_trans (numS_size _ _ _) (textS_size _ _ _)
  · obtain ⟨x, R, e, ho⟩ : ∃ x R e, one k s = (x, R, e) := ⟨_, _, _, rfl⟩
    rw [ho] at h0 ⊢
    simp only at h0 ⊢
    subst h0
    have h1 := (one_inv hk ho).1
    have h2 := congrArg List.length h1
    rw [List.length_append, size_data, size_data] at h2
    have := eb_pos k x
    omega
theorem many_next {k : Int} {x left : Nat} {s0 S S' : ByteArray} {e0 e' : Nat} {G : List E} {y : E} (ho : one k S = (y, S', e')) (hr : (G ++ (many k (left + 1) S 0).1, (many k (left + 1) S 0).2) = many k x s0 e0) :
    ((G ++ [y]) ++ (many k left S' e').1, (many k left S' e').2) = many k x s0 e0 := by
  rw [← hr, many, if_pos rfl, ho]
  simp only [List.append_assoc, List.singleton_append]

set_option maxHeartbeats 1000000 in
theorem parse_kind (k : Int) (s : ByteArray) (w : World) (h1 : k ≠ 1) (h2 : k ≠ 2) :
    Calls Try.prog 34 #[.int .i64 k, .string s] w fun e w' => ∃ v, e = .returned (.tuple #[v, .int .i64 ((nparse k s).2 : Int)]) ∧ NOwn w.heap.size w' v (nparse k s).1 ∧ Below w.heap.size w w' := by
  have hn : nparse k s = (.zero, 13) := by unfold nparse; rw [if_pos ⟨h1, h2⟩]
  rw [hn]
  have e1 : (k != 1) = true := by simpa using h1
  have e2 : (k != 2) = true := by simpa using h2
  have K := Lib.hid (row4 (heap_last w (.cells #[.int .i64 0, .slice none 0 0, .slice none 0 0, .slice none 0 0] 57) w.heap.size rfl))
  have bA := below1 w (.cells #[.int .i64 0, .slice none 0 0, .slice none 0 0, .slice none 0 0] 57)
  clear hn h1 h2
  go_enter Try.func34, Try.ntmps34
  go_wp2
  (try simp only [Exit.inBlock, Exit.then])
  refine bodyPost_ret (results_cells_tmp rfl _ _ w.heap.size [.int .i64 0, .slice none 0 0, .slice none 0 0, .slice none 0 0] _ rfl ?_ Try.underlying57 node_info) rfl ?_
  · refine four ⟨?_, ?_, ?_, ?_⟩ <;> go_simp
  · refine ⟨_, rfl, nown_zero _ _, ?_⟩
    repeat (refine Below.setCell ?_ (by simp) _)
    exact bA

set_option maxRecDepth 100000 in
set_option maxHeartbeats 8000000 in
theorem parse1 (s : ByteArray) (w : World) (hs : s.size ≤ 2000) :
    Calls Try.prog 34 #[.int .i64 1, .string s] w fun e w' => ∃ v, e = .returned (.tuple #[v, .int .i64 ((nparse 1 s).2 : Int)]) ∧ NOwn w.heap.size w' v (nparse 1 s).1 ∧ Below w.heap.size w w' := by
  obtain ⟨i9, hi9, hz90, hz91, hz92⟩ := info_parts info9
  obtain ⟨i3, hi3, hz30, hz31, hz32⟩ := info_parts info3
  obtain ⟨x, S0, e0, h0⟩ : ∃ x S0 e0, numS s 0 18446744073709551615 = (x, S0, e0) := ⟨_, _, _, rfl⟩
  have hS0 : S0.size ≤ s.size := by have := numS_size s 0 18446744073709551615; rw [h0] at this; exact this
  have hx64 : x ≤ 18446744073709551615 := by have := numS_le s 0 18446744073709551615; rw [h0] at this; exact this
  obtain ⟨l, R, f, hm⟩ : ∃ l R f, many 1 x S0 e0 = (l, R, f) := ⟨_, _, _, rfl⟩
  have HN := Lib.hid (nparse_at (k := 1) (.inl rfl) h0 hm)
  have HM := Lib.hid hm
  have CO := Lib.hid (fun W => of_new s W)
  have CN := Lib.hid (fun W g (q : InAt W g s 0) => (show Calls Try.prog 66 #[.pointer (some ⟨g, 0, none⟩), .int .u64 18446744073709551615] W fun r w' => r = .returned (.int .u64 (x : Int)) ∧ InAt w' g S0 e0 ∧ W.grownBy w' (some g) by
    have := in_num g s 0 18446744073709551615 W q (by unfold maxLen; omega); rw [h0] at this; exact this))
  have bA := below1 w (.cells #[.int .i64 0, .slice none 0 0, .slice none 0 0, .slice none 0 0] 57)
  have bB := below1 (w.alloc (.cells #[.int .i64 0, .slice none 0 0, .slice none 0 0, .slice none 0 0] 57)) (.cells #[.int .i64 1, .slice none 0 0, .slice none 0 0, .slice none 0 0] 57)
  have B0 := Lib.hid (bA.trans (bB.mono bA.size))
  have R4 := Lib.hid (hp_old (.cells #[.int .i64 1, .slice none 0 0, .slice none 0 0, .slice none 0 0] 57) (heap_last w (.cells #[.int .i64 0, .slice none 0 0, .slice none 0 0, .slice none 0 0] 57) w.heap.size rfl))
  have RN := Lib.hid (heap_last (w.alloc (.cells #[.int .i64 0, .slice none 0 0, .slice none 0 0, .slice none 0 0] 57)) (.cells #[.int .i64 1, .slice none 0 0, .slice none 0 0, .slice none 0 0] 57) (w.heap.size + 1) (by simp))
  have hsz : ((w.alloc (.cells #[.int .i64 0, .slice none 0 0, .slice none 0 0, .slice none 0 0] 57)).alloc (.cells #[.int .i64 1, .slice none 0 0, .slice none 0 0, .slice none 0 0] 57)).heap.size = w.heap.size + 2 := by simp
  clear bA bB h0 hm
  go_enter Try.func34, Try.ntmps34
  go_upto_region 4 with fail
  generalize (w.alloc (.cells #[.int .i64 0, .slice none 0 0, .slice none 0 0, .slice none 0 0] 57)).alloc (.cells #[.int .i64 1, .slice none 0 0, .slice none 0 0, .slice none 0 0] 57) = W at *
  go_wp2_with (first
    | (go_at_call 65; ((with_reducible refine (CO.out _).mono ?_); rintro e w1 ⟨rfl, hi1, hb1, hs1⟩; rw [hsz] at hi1 hs1; have B1 := Lib.hid (B0.out.trans (hb1.mono B0.out.size)); have I1 := Lib.hid hi1; have R41 := Lib.hid (blk_below R4.out hb1 (blk_lt R4.out)); have RN1 := Lib.hid (blk_below RN.out hb1 (blk_lt RN.out)); clear hi1 hb1))
    | (go_at_call 66; ((with_reducible refine (CN.out _ _ I1.out).mono ?_); rintro e w2 ⟨rfl, hi2, hg2⟩; have I2 := Lib.hid hi2; have G2 := Lib.hid hg2; clear hi2 hg2)))
  have PS0 : Hid (PS (w.heap.size + 3) w2 w.heap.size (w.heap.size + 1) (w.heap.size + 2) 1 (.slice none 0 0) (.slice none 0 0) (.slice none 0 0) [] [] [] S0 e0) := by
    have hg := G2.out
    have hi := I2.out
    have := hg.size
    exact ⟨grown_block hg R41.out (by intro q; injection q with q; omega), grown_block hg RN1.out (by intro q; injection q with q; omega), hi, World.ownsRow_nil _ _ _ _, World.ownsRow_nil _ _ _ _, World.ownsRow_nil _ _ _ _, by omega, by omega, by omega, by omega, (fun _ h => by cases h), (fun _ h => by cases h), (fun _ h => by cases h)⟩
  have B2 := Lib.hid (B1.out.trans (B.grown_below G2.out (show w.heap.size ≤ w.heap.size + 2 by omega) B1.out.size))
  clear B0 B1 R4 RN R41 RN1 I1 I2 G2 CO CN
  clear hsz
  go_loopw [8] (fun t8 wr => ∃ (left : Nat) (S : ByteArray) (e : Nat) (G : List E) (vk vv vc : Value), t8 = .int .u64 (left : Int) ∧ left ≤ 18446744073709551615 ∧ (G ++ (many 1 left S e).1, (many 1 left S e).2) = many 1 x S0 e0 ∧ S.size ≤ 2000 ∧ (e = 0 → G.length + S.size ≤ s.size) ∧ G.length ≤ s.size + 1 ∧
      PS (w.heap.size + 3) wr w.heap.size (w.heap.size + 1) (w.heap.size + 2) 1 vk vv vc (G.map (·.1)) (G.map (·.2.1)) ([]) S e ∧ Below w.heap.size w wr) (fun t8 _ => (intOf t8).toNat)
  case atStart => exact ⟨x, S0, e0, [], _, _, _, rfl, hx64, rfl, by omega, fun _ => by simpa using hS0, by simp, PS0.out, B2.out⟩
  case round =>
    obtain ⟨left, S, e, G, vk, vv, vc, rfl, hl64, hr, hS, hGe, hG, hps, hbel⟩ := hrel
    clear PS0 B2
    have HR := Lib.hid hr
    have P3 := Lib.hid hps
    have B3 := Lib.hid hbel
    have sb := hbel.size
    have CE := Lib.hid (in_err _ S e wr hps.i)
    clear hr hps hbel
    by_cases hgo : 0 < left ∧ e = 0
    · obtain ⟨hl0, rfl⟩ := hgo
      obtain ⟨lf, rfl⟩ : ∃ lf, left = lf + 1 := ⟨left - 1, by omega⟩
      have hlI : (0 : Int) < ((lf + 1 : Nat) : Int) := by omega
      have hGS := hGe rfl
      obtain ⟨key, S1, e1, ht⟩ : ∃ key S1 e1, textS S 0 16 = (key, S1, e1) := ⟨_, _, _, rfl⟩
      have hS1 : S1.size ≤ S.size := by have := textS_size S 0 16; rw [ht] at this; exact this
      obtain ⟨y, S2, e2, hu⟩ : ∃ y S2 e2, (textS S1 e1 32) = (y, S2, e2) := ⟨_, _, _, rfl⟩
      have ho : one 1 S = ((key, y, 0), S2, e2) := by
        unfold one
        rw [if_pos rfl, ht]
        simp only [hu]
      have HR2 := Lib.hid (many_next ho HR.out)
      have hsz2 := one_size (k := 1) (.inl rfl) S
      rw [ho] at hsz2
      simp only at hsz2
      have CT := Lib.hid (fun W (q : InAt W (w.heap.size + 2) S 0) => (show Calls Try.prog 68 #[.pointer (some ⟨w.heap.size + 2, 0, none⟩), .int .i64 16] W fun r w' => r = .returned (.string key) ∧ InAt w' (w.heap.size + 2) S1 e1 ∧ W.grownBy w' (some (w.heap.size + 2)) by
        have := in_text (w.heap.size + 2) S 0 16 W q (by unfold maxLen; omega) (by omega); rw [show (16 : Int).toNat = 16 from rfl, ht] at this; exact this))
      have CU := Lib.hid (fun W (q : InAt W (w.heap.size + 2) S1 e1) => (show Calls Try.prog 68 #[.pointer (some ⟨w.heap.size + 2, 0, none⟩), .int .i64 32] W fun r w' => r = .returned (.string y) ∧ InAt w' (w.heap.size + 2) S2 e2 ∧ W.grownBy w' (some (w.heap.size + 2)) by
        have := in_text (w.heap.size + 2) S1 e1 32 W q (by unfold maxLen; omega) (by omega); rw [show (32 : Int).toNat = 32 from rfl, hu] at this; exact this))
      clear ht hu ho HR hGe
      obtain ⟨⟨c0, c1, c2, c3⟩, f0, f1, f2, f3⟩ := row4 P3.out.rN
      have hkl : (G.map (·.1)).length = G.length := List.length_map _
      have hkn : ∀ (z : E → ByteArray), (G.map z).length = G.length := fun z => List.length_map _
      go_upto_region 8 with (go_at_call 67; ((with_reducible refine CE.out.mono ?_); rintro e w' ⟨rfl, rfl⟩))
      go_cut [38] (fun _ wc => ∃ vk', PS (w.heap.size + 3) wc w.heap.size (w.heap.size + 1) (w.heap.size + 2) 1 vk' vv vc (G.map (·.1) ++ [key]) (G.map (·.2.1)) ([]) S1 e1 ∧ Below w.heap.size w wc)
      case first =>
        go_region_law (first
          | (refine step_append_lies _ (by rfl) _ _ _ (by rfl) (w.heap.size + 3) 9 i9 _ 1 16 Try.underlying53 hi9 hz90 hz91 hz92 rfl (by decide) _ _ _ (by rfl) (P4.ok.alloc _) ⟨w4.heap.size, 0, none⟩ 1 1 [.string key] (by rfl) rfl (cell_one_new _ _ _) (one_str _) (by omega) (by rw [List.length_map]; unfold maxLen; omega) (by rw [List.length_map]; omega) (Nat.le_trans P4.l4 (by simp)) _ rfl ?_; intro gg cap w5 own5 grow5 lies5 lt5; have P5 := P4.key own5 grow5 lies5; simp only [List.length_map] at P5; have B5 : Below w.heap.size w w5 := ((B4.alloc (show w.heap.size ≤ w4.heap.size by have := P4.l4; omega) _).grown grow5 (by have := P4.l4; simp; omega) (fun b hb => by have := own_ge P4.ok hb; omega)); obtain ⟨⟨k0, k1, k2, k3⟩, q0, q1, q2, q3⟩ := row4 (blk_grow P4.rN grow5 (fun b hb => by have := own_ge P4.ok hb; omega)); clear own5 grow5 lies5)
          | (go_simp; go_at_call 68; (with_reducible refine (CT.out _ P3.out.drew.i).mono ?_); rintro e w4 ⟨rfl, hi4, hg4⟩; have P4 := P3.out.drew.read hi4 hg4; have B4 : Below w.heap.size w w4 := (below_drew' B3.out).trans (B.grown_below hg4 (by omega) sb); obtain ⟨⟨m0, m1, m2, m3⟩, _⟩ := row4 P4.rN; have m1' : (w4.alloc (.cells #[.string key] 9)).cell? ⟨w.heap.size + 1, 1, none⟩ = some vk := (row4 (hp_old _ P4.rN)).1.2.1; clear hi4 hg4))
        all_goals (go_wp2; go_meet; case rel => exact ⟨_, P5, B5.setCell (p := ⟨w.heap.size + 1, 1, none⟩) (show w.heap.size ≤ w.heap.size + 1 by omega) _⟩)
      case rest =>
        obtain ⟨vk', hp6, hb6⟩ := hcut
        have P6 := Lib.hid hp6
        have B6 := Lib.hid hb6
        have s6 := hb6.size
        clear hp6 hb6 P3 B3 c0 c1 c2 c3 f0 f1 f2 f3 CT CE
        generalize wc = w6 at *
        obtain ⟨⟨c0, c1, c2, c3⟩, f0, f1, f2, f3⟩ := row4 P6.out.rN
        go_upto_region 10 with fail
        go_region_law (first
            | (refine step_append_lies _ (by rfl) _ _ _ (by rfl) (w.heap.size + 3) 9 i9 _ 1 16 Try.underlying53 hi9 hz90 hz91 hz92 rfl (by decide) _ _ _ (by rfl)  (P4.ov.alloc _) ⟨w4.heap.size, 0, none⟩ 1 1 [.string y] (by rfl) rfl (cell_one_new _ _ _) (one_str _) (by omega) (by rw [List.length_map]; unfold maxLen; omega) (by rw [List.length_map]; omega) (Nat.le_trans P4.l4 (by simp)) _ rfl ?_; intro gg cap w5 own5 grow5 lies5 lt5; have P5 := P4.val own5 grow5 lies5; simp only [List.length_map] at P5; have B5 : Below w.heap.size w w5 := ((B4.alloc (show w.heap.size ≤ w4.heap.size by have := P4.l4; omega) _).grown grow5 (by have := P4.l4; simp; omega) (fun b hb => by have := own_ge P4.ov hb; omega)); obtain ⟨⟨k0, k1, k2, k3⟩, q0, q1, q2, q3⟩ := row4 (blk_grow P4.rN grow5 (fun b hb => by have := own_ge P4.ov hb; omega)); clear own5 grow5 lies5)
            | (go_simp; go_at_call 68; (with_reducible refine (CU.out _ P6.out.drew.i).mono ?_); rintro e w4 ⟨rfl, hi4, hg4⟩; have P4 := P6.out.drew.read hi4 hg4; have B4 : Below w.heap.size w w4 := (below_drew' B6.out).trans (B.grown_below hg4 (by omega) s6); obtain ⟨⟨m0, m1, m2, m3⟩, _⟩ := row4 P4.rN; have m1' : (w4.alloc (.cells #[.string y] 9)).cell? ⟨w.heap.size + 1, 2, none⟩ = some vv := (row4 (hp_old _ P4.rN)).1.2.2.1; clear hi4 hg4))
        all_goals
          have P7 := Lib.hid P5
          have B7 := Lib.hid (B5.setCell (p := ⟨w.heap.size + 1, 2, none⟩) (show w.heap.size ≤ w.heap.size + 1 by omega) (.slice (some ⟨gg, 0, none⟩) (G.length + 1) cap))
          clear P5 B5 P6 B6 c0 c1 c2 c3 f0 f1 f2 f3 k0 k1 k2 k3 q0 q1 q2 q3 m0 m1 m2 m3 m1' P4 B4 CU
          have hlw : IntKind.u64.wrap (((lf + 1 : Nat) : Int) - 1) = (lf : Int) := by rw [show ((lf + 1 : Nat) : Int) - 1 = (lf : Int) by omega]; exact IntWalk.u64_in _ (by omega)
          go_wp2
          go_roundw
          case rel => exact ⟨lf, S2, e2, G ++ [(key, y, 0)], vk', _, vc, by first | rfl | go_num, by omega, HR2.out, by omega, fun h0 => by have := hsz2.2 h0; rw [List.length_append, List.length_singleton]; omega, by rw [List.length_append, List.length_singleton]; omega, by simpa using P7.out, B7.out⟩
          case measure => simp [intOf]
    · have hex : left = 0 ∨ 0 < left ∧ e ≠ 0 := by omega
      have hdone : many 1 left S e = ([], S, e) := by
        rcases hex with rfl | ⟨_, he⟩
        · rfl
        · exact many_err _ _ _ he
      have hrr := HR.out
      rw [hdone, HM.out] at hrr
      simp only [List.append_nil, Prod.mk.injEq] at hrr
      obtain ⟨rfl, rfl, rfl⟩ := hrr
      have CEn := Lib.hid (in_end _ S e wr P3.out.i)
      have HNp := HN.out
      obtain ⟨A1, a1, hv1, t1, _⟩ := own_at P3.out.ok
      obtain ⟨A2, a2, hv2, t2, _⟩ := own_at P3.out.ov
      obtain ⟨A3, a3, hv3, t3, _⟩ := own_at P3.out.oc
      have hna : NAt wr A1 A2 A3 (mk 1 G) := ⟨t1, by simpa [mk] using t2, by simpa [mk] using t3⟩
      have hsm : Sm (mk 1 G) := ⟨by simp [mk]; omega, by simp [mk]; try omega, by simp [mk]; try omega⟩
      have CC := Lib.hid (check_any A1 A2 A3 a1 a2 a3 (mk 1 G) wr hna hsm)
      have hkey : (mk 1 G).keys = G.map (·.1) := rfl
      have hval : (mk 1 G).vals = G.map (·.2.1) := by simp [mk]
      have hkid : (mk 1 G).kids = [] := by simp [mk]
      have hkd : (mk 1 G).kind = 1 := rfl
      unfold nv at CC
      rw [hkey, hval, hkid, hkd] at CC
      simp only [List.length_map, List.length_nil] at CC hv1 hv2 hv3
      subst hv1 hv2 hv3
      obtain ⟨⟨c0, c1, c2, c3⟩, f0, f1, f2, f3⟩ := row4 P3.out.rN
      obtain ⟨⟨d0, d1, d2, d3⟩, g0, g1, g2, g3⟩ := row4 P3.out.r4
      have l4 := blk_lt P3.out.r4
      have lN := blk_lt P3.out.rN
      clear hna hsm t1 t2 t3 hdone HR HM hgo hGe hkey hval hkid hkd
      generalize endS S e = en at *
      have hE2 : left = 0 ∨ 0 < left ∧ ((e : Int) == 0) = false := by
        rcases hex with h | ⟨h1, h2⟩
        · exact .inl h
        · exact .inr ⟨h1, by rw [beq_eq_false_iff_ne]; omega⟩
      clear hex
      have WAYS : ∀ (X : Prop), (left = 0 → X) → (0 < left → ((e : Int) == 0) = false → X) → X := fun X h1 h2 => hE2.elim h1 (fun h => h2 h.1 h.2)
      clear hE2
      by_cases hen : en = 0
      · subst hen
        rw [if_neg (by simp)] at HNp
        cases hck : check (mk 1 G) with
        | true =>
          rw [hck] at HNp CC
          rw [if_pos rfl] at HNp CC
          refine WAYS _ (fun h => ?_) (fun h1 h2 => ?_)
          · go_wp2_with (first
              | (go_at_call 67; ((with_reducible refine CE.out.mono ?_); rintro e w' ⟨rfl, rfl⟩))
              | (go_at_call 69; ((with_reducible refine CEn.out.mono ?_); rintro e w' ⟨rfl, rfl⟩))
              | (go_at_call 30; ((with_reducible refine CC.out.mono ?_); rintro e w7 ⟨rfl, hb7⟩; obtain ⟨⟨c0, c1, c2, c3⟩, f0, f1, f2, f3⟩ := row4 (blk_below P3.out.rN hb7 lN); obtain ⟨⟨d0, d1, d2, d3⟩, g0, g1, g2, g3⟩ := row4 (blk_below P3.out.r4 hb7 l4); have Q7 := Lib.hid hb7; clear hb7)))
            (try simp only [Exit.inBlock, Exit.then])
            refine bodyPost_ret (results_cells_tmp rfl _ _ w.heap.size [.int .i64 1, .slice A1 G.length a1, .slice A2 G.length a2, .slice A3 0 a3] _ rfl ?_ Try.underlying57 node_info) rfl ?_
            · refine four ⟨?_, ?_, ?_, ?_⟩ <;> go_simp
            · rw [HNp]
              have O := nown_back P3.out Q7.out
              refine ⟨_, rfl, ?_, ?_⟩
              · refine nown_put4 (g := w.heap.size) (by simpa [mk] using O) (by omega)
              · repeat (refine Below.setCell ?_ (by simp) _)
                exact B3.out.trans (Q7.out.mono sb)
            
          · go_wp2_with (first
              | (go_at_call 67; ((with_reducible refine CE.out.mono ?_); rintro e w' ⟨rfl, rfl⟩))
              | (go_at_call 69; ((with_reducible refine CEn.out.mono ?_); rintro e w' ⟨rfl, rfl⟩))
              | (go_at_call 30; ((with_reducible refine CC.out.mono ?_); rintro e w7 ⟨rfl, hb7⟩; obtain ⟨⟨c0, c1, c2, c3⟩, f0, f1, f2, f3⟩ := row4 (blk_below P3.out.rN hb7 lN); obtain ⟨⟨d0, d1, d2, d3⟩, g0, g1, g2, g3⟩ := row4 (blk_below P3.out.r4 hb7 l4); have Q7 := Lib.hid hb7; clear hb7)))
            (try simp only [Exit.inBlock, Exit.then])
            refine bodyPost_ret (results_cells_tmp rfl _ _ w.heap.size [.int .i64 1, .slice A1 G.length a1, .slice A2 G.length a2, .slice A3 0 a3] _ rfl ?_ Try.underlying57 node_info) rfl ?_
            · refine four ⟨?_, ?_, ?_, ?_⟩ <;> go_simp
            · rw [HNp]
              have O := nown_back P3.out Q7.out
              refine ⟨_, rfl, ?_, ?_⟩
              · refine nown_put4 (g := w.heap.size) (by simpa [mk] using O) (by omega)
              · repeat (refine Below.setCell ?_ (by simp) _)
                exact B3.out.trans (Q7.out.mono sb)
            
        | false =>
          rw [hck] at HNp CC
          rw [if_neg (by decide)] at HNp CC
          refine WAYS _ (fun h => ?_) (fun h1 h2 => ?_)
          · go_wp2_with (first
              | (go_at_call 67; ((with_reducible refine CE.out.mono ?_); rintro e w' ⟨rfl, rfl⟩))
              | (go_at_call 69; ((with_reducible refine CEn.out.mono ?_); rintro e w' ⟨rfl, rfl⟩))
              | (go_at_call 30; ((with_reducible refine CC.out.mono ?_); rintro e w7 ⟨rfl, hb7⟩; obtain ⟨⟨c0, c1, c2, c3⟩, f0, f1, f2, f3⟩ := row4 (blk_below P3.out.rN hb7 lN); obtain ⟨⟨d0, d1, d2, d3⟩, g0, g1, g2, g3⟩ := row4 (blk_below P3.out.r4 hb7 l4); have Q7 := Lib.hid hb7; clear hb7)))
            (try simp only [Exit.inBlock, Exit.then])
            refine bodyPost_ret (results_cells_tmp rfl _ _ w.heap.size [.int .i64 0, .slice none 0 0, .slice none 0 0, .slice none 0 0] _ rfl ?_ Try.underlying57 node_info) rfl ?_
            · refine four ⟨?_, ?_, ?_, ?_⟩ <;> go_simp
            · rw [HNp]
              refine ⟨_, rfl, nown_zero _ _, ?_⟩
              repeat (refine Below.setCell ?_ (by simp) _)
              exact B3.out.trans (Q7.out.mono sb)
            
          · go_wp2_with (first
              | (go_at_call 67; ((with_reducible refine CE.out.mono ?_); rintro e w' ⟨rfl, rfl⟩))
              | (go_at_call 69; ((with_reducible refine CEn.out.mono ?_); rintro e w' ⟨rfl, rfl⟩))
              | (go_at_call 30; ((with_reducible refine CC.out.mono ?_); rintro e w7 ⟨rfl, hb7⟩; obtain ⟨⟨c0, c1, c2, c3⟩, f0, f1, f2, f3⟩ := row4 (blk_below P3.out.rN hb7 lN); obtain ⟨⟨d0, d1, d2, d3⟩, g0, g1, g2, g3⟩ := row4 (blk_below P3.out.r4 hb7 l4); have Q7 := Lib.hid hb7; clear hb7)))
            (try simp only [Exit.inBlock, Exit.then])
            refine bodyPost_ret (results_cells_tmp rfl _ _ w.heap.size [.int .i64 0, .slice none 0 0, .slice none 0 0, .slice none 0 0] _ rfl ?_ Try.underlying57 node_info) rfl ?_
            · refine four ⟨?_, ?_, ?_, ?_⟩ <;> go_simp
            · rw [HNp]
              refine ⟨_, rfl, nown_zero _ _, ?_⟩
              repeat (refine Below.setCell ?_ (by simp) _)
              exact B3.out.trans (Q7.out.mono sb)
            
      · rw [if_pos hen] at HNp
        have hen2 : ((en : Int) != 0) = true := by rw [bne_iff_ne]; omega
        refine WAYS _ (fun h => ?_) (fun h1 h2 => ?_)
        · go_wp2_with (first
            | (go_at_call 67; ((with_reducible refine CE.out.mono ?_); rintro e w' ⟨rfl, rfl⟩))
            | (go_at_call 69; ((with_reducible refine CEn.out.mono ?_); rintro e w' ⟨rfl, rfl⟩))
            | (go_at_call 30; ((with_reducible refine CC.out.mono ?_); rintro e w7 ⟨rfl, hb7⟩; obtain ⟨⟨c0, c1, c2, c3⟩, f0, f1, f2, f3⟩ := row4 (blk_below P3.out.rN hb7 lN); obtain ⟨⟨d0, d1, d2, d3⟩, g0, g1, g2, g3⟩ := row4 (blk_below P3.out.r4 hb7 l4); have Q7 := Lib.hid hb7; clear hb7)))
          (try simp only [Exit.inBlock, Exit.then])
          refine bodyPost_ret (results_cells_tmp rfl _ _ w.heap.size [.int .i64 0, .slice none 0 0, .slice none 0 0, .slice none 0 0] _ rfl ?_ Try.underlying57 node_info) rfl ?_
          · refine four ⟨?_, ?_, ?_, ?_⟩ <;> go_simp
          · rw [HNp]
            refine ⟨_, rfl, nown_zero _ _, ?_⟩
            repeat (refine Below.setCell ?_ (by simp) _)
            exact B3.out
          
        · go_wp2_with (first
            | (go_at_call 67; ((with_reducible refine CE.out.mono ?_); rintro e w' ⟨rfl, rfl⟩))
            | (go_at_call 69; ((with_reducible refine CEn.out.mono ?_); rintro e w' ⟨rfl, rfl⟩))
            | (go_at_call 30; ((with_reducible refine CC.out.mono ?_); rintro e w7 ⟨rfl, hb7⟩; obtain ⟨⟨c0, c1, c2, c3⟩, f0, f1, f2, f3⟩ := row4 (blk_below P3.out.rN hb7 lN); obtain ⟨⟨d0, d1, d2, d3⟩, g0, g1, g2, g3⟩ := row4 (blk_below P3.out.r4 hb7 l4); have Q7 := Lib.hid hb7; clear hb7)))
          (try simp only [Exit.inBlock, Exit.then])
          refine bodyPost_ret (results_cells_tmp rfl _ _ w.heap.size [.int .i64 0, .slice none 0 0, .slice none 0 0, .slice none 0 0] _ rfl ?_ Try.underlying57 node_info) rfl ?_
          · refine four ⟨?_, ?_, ?_, ?_⟩ <;> go_simp
          · rw [HNp]
            refine ⟨_, rfl, nown_zero _ _, ?_⟩
            repeat (refine Below.setCell ?_ (by simp) _)
            exact B3.out
          

set_option maxRecDepth 100000 in
set_option maxHeartbeats 8000000 in
theorem parse2 (s : ByteArray) (w : World) (hs : s.size ≤ 2000) :
    Calls Try.prog 34 #[.int .i64 2, .string s] w fun e w' => ∃ v, e = .returned (.tuple #[v, .int .i64 ((nparse 2 s).2 : Int)]) ∧ NOwn w.heap.size w' v (nparse 2 s).1 ∧ Below w.heap.size w w' := by
  obtain ⟨i9, hi9, hz90, hz91, hz92⟩ := info_parts info9
  obtain ⟨i3, hi3, hz30, hz31, hz32⟩ := info_parts info3
  obtain ⟨x, S0, e0, h0⟩ : ∃ x S0 e0, numS s 0 18446744073709551615 = (x, S0, e0) := ⟨_, _, _, rfl⟩
  have hS0 : S0.size ≤ s.size := by have := numS_size s 0 18446744073709551615; rw [h0] at this; exact this
  have hx64 : x ≤ 18446744073709551615 := by have := numS_le s 0 18446744073709551615; rw [h0] at this; exact this
  obtain ⟨l, R, f, hm⟩ : ∃ l R f, many 2 x S0 e0 = (l, R, f) := ⟨_, _, _, rfl⟩
  have HN := Lib.hid (nparse_at (k := 2) (.inr rfl) h0 hm)
  have HM := Lib.hid hm
  have CO := Lib.hid (fun W => of_new s W)
  have CN := Lib.hid (fun W g (q : InAt W g s 0) => (show Calls Try.prog 66 #[.pointer (some ⟨g, 0, none⟩), .int .u64 18446744073709551615] W fun r w' => r = .returned (.int .u64 (x : Int)) ∧ InAt w' g S0 e0 ∧ W.grownBy w' (some g) by
    have := in_num g s 0 18446744073709551615 W q (by unfold maxLen; omega); rw [h0] at this; exact this))
  have bA := below1 w (.cells #[.int .i64 0, .slice none 0 0, .slice none 0 0, .slice none 0 0] 57)
  have bB := below1 (w.alloc (.cells #[.int .i64 0, .slice none 0 0, .slice none 0 0, .slice none 0 0] 57)) (.cells #[.int .i64 2, .slice none 0 0, .slice none 0 0, .slice none 0 0] 57)
  have B0 := Lib.hid (bA.trans (bB.mono bA.size))
  have R4 := Lib.hid (hp_old (.cells #[.int .i64 2, .slice none 0 0, .slice none 0 0, .slice none 0 0] 57) (heap_last w (.cells #[.int .i64 0, .slice none 0 0, .slice none 0 0, .slice none 0 0] 57) w.heap.size rfl))
  have RN := Lib.hid (heap_last (w.alloc (.cells #[.int .i64 0, .slice none 0 0, .slice none 0 0, .slice none 0 0] 57)) (.cells #[.int .i64 2, .slice none 0 0, .slice none 0 0, .slice none 0 0] 57) (w.heap.size + 1) (by simp))
  have hsz : ((w.alloc (.cells #[.int .i64 0, .slice none 0 0, .slice none 0 0, .slice none 0 0] 57)).alloc (.cells #[.int .i64 2, .slice none 0 0, .slice none 0 0, .slice none 0 0] 57)).heap.size = w.heap.size + 2 := by simp
  clear bA bB h0 hm
  go_enter Try.func34, Try.ntmps34
  go_upto_region 4 with fail
  generalize (w.alloc (.cells #[.int .i64 0, .slice none 0 0, .slice none 0 0, .slice none 0 0] 57)).alloc (.cells #[.int .i64 2, .slice none 0 0, .slice none 0 0, .slice none 0 0] 57) = W at *
  go_wp2_with (first
    | (go_at_call 65; ((with_reducible refine (CO.out _).mono ?_); rintro e w1 ⟨rfl, hi1, hb1, hs1⟩; rw [hsz] at hi1 hs1; have B1 := Lib.hid (B0.out.trans (hb1.mono B0.out.size)); have I1 := Lib.hid hi1; have R41 := Lib.hid (blk_below R4.out hb1 (blk_lt R4.out)); have RN1 := Lib.hid (blk_below RN.out hb1 (blk_lt RN.out)); clear hi1 hb1))
    | (go_at_call 66; ((with_reducible refine (CN.out _ _ I1.out).mono ?_); rintro e w2 ⟨rfl, hi2, hg2⟩; have I2 := Lib.hid hi2; have G2 := Lib.hid hg2; clear hi2 hg2)))
  have PS0 : Hid (PS (w.heap.size + 3) w2 w.heap.size (w.heap.size + 1) (w.heap.size + 2) 2 (.slice none 0 0) (.slice none 0 0) (.slice none 0 0) [] [] [] S0 e0) := by
    have hg := G2.out
    have hi := I2.out
    have := hg.size
    exact ⟨grown_block hg R41.out (by intro q; injection q with q; omega), grown_block hg RN1.out (by intro q; injection q with q; omega), hi, World.ownsRow_nil _ _ _ _, World.ownsRow_nil _ _ _ _, World.ownsRow_nil _ _ _ _, by omega, by omega, by omega, by omega, (fun _ h => by cases h), (fun _ h => by cases h), (fun _ h => by cases h)⟩
  have B2 := Lib.hid (B1.out.trans (B.grown_below G2.out (show w.heap.size ≤ w.heap.size + 2 by omega) B1.out.size))
  clear B0 B1 R4 RN R41 RN1 I1 I2 G2 CO CN
  clear hsz
  go_loopw [8] (fun t8 wr => ∃ (left : Nat) (S : ByteArray) (e : Nat) (G : List E) (vk vv vc : Value), t8 = .int .u64 (left : Int) ∧ left ≤ 18446744073709551615 ∧ (G ++ (many 2 left S e).1, (many 2 left S e).2) = many 2 x S0 e0 ∧ S.size ≤ 2000 ∧ (e = 0 → G.length + S.size ≤ s.size) ∧ G.length ≤ s.size + 1 ∧
      PS (w.heap.size + 3) wr w.heap.size (w.heap.size + 1) (w.heap.size + 2) 2 vk vv vc (G.map (·.1)) ([]) (G.map (·.2.2)) S e ∧ Below w.heap.size w wr) (fun t8 _ => (intOf t8).toNat)
  case atStart => exact ⟨x, S0, e0, [], _, _, _, rfl, hx64, rfl, by omega, fun _ => by simpa using hS0, by simp, PS0.out, B2.out⟩
  case round =>
    obtain ⟨left, S, e, G, vk, vv, vc, rfl, hl64, hr, hS, hGe, hG, hps, hbel⟩ := hrel
    clear PS0 B2
    have HR := Lib.hid hr
    have P3 := Lib.hid hps
    have B3 := Lib.hid hbel
    have sb := hbel.size
    have CE := Lib.hid (in_err _ S e wr hps.i)
    clear hr hps hbel
    by_cases hgo : 0 < left ∧ e = 0
    · obtain ⟨hl0, rfl⟩ := hgo
      obtain ⟨lf, rfl⟩ : ∃ lf, left = lf + 1 := ⟨left - 1, by omega⟩
      have hlI : (0 : Int) < ((lf + 1 : Nat) : Int) := by omega
      have hGS := hGe rfl
      obtain ⟨key, S1, e1, ht⟩ : ∃ key S1 e1, textS S 0 16 = (key, S1, e1) := ⟨_, _, _, rfl⟩
      have hS1 : S1.size ≤ S.size := by have := textS_size S 0 16; rw [ht] at this; exact this
      obtain ⟨y, S2, e2, hu⟩ : ∃ y S2 e2, (numS S1 e1 2147483647) = (y, S2, e2) := ⟨_, _, _, rfl⟩
      have ho : one 2 S = ((key, ⟨#[]⟩, (y : Int)), S2, e2) := by
        unfold one
        rw [if_neg (by omega), ht]
        simp only [hu]
      have HR2 := Lib.hid (many_next ho HR.out)
      have hsz2 := one_size (k := 2) (.inr rfl) S
      rw [ho] at hsz2
      simp only at hsz2
      have CT := Lib.hid (fun W (q : InAt W (w.heap.size + 2) S 0) => (show Calls Try.prog 68 #[.pointer (some ⟨w.heap.size + 2, 0, none⟩), .int .i64 16] W fun r w' => r = .returned (.string key) ∧ InAt w' (w.heap.size + 2) S1 e1 ∧ W.grownBy w' (some (w.heap.size + 2)) by
        have := in_text (w.heap.size + 2) S 0 16 W q (by unfold maxLen; omega) (by omega); rw [show (16 : Int).toNat = 16 from rfl, ht] at this; exact this))
      have hy31 : y ≤ 2147483647 := by have := numS_le S1 e1 2147483647; rw [hu] at this; exact this
      have hyw : IntKind.i64.wrap (y : Int) = (y : Int) := IntWalk.i64_in _ (by omega)
      have CU := Lib.hid (fun W (q : InAt W (w.heap.size + 2) S1 e1) => (show Calls Try.prog 66 #[.pointer (some ⟨w.heap.size + 2, 0, none⟩), .int .u64 2147483647] W fun r w' => r = .returned (.int .u64 (y : Int)) ∧ InAt w' (w.heap.size + 2) S2 e2 ∧ W.grownBy w' (some (w.heap.size + 2)) by
        have := in_num (w.heap.size + 2) S1 e1 2147483647 W q (by unfold maxLen; omega); rw [hu] at this; exact this))
      clear ht hu ho HR hGe
      obtain ⟨⟨c0, c1, c2, c3⟩, f0, f1, f2, f3⟩ := row4 P3.out.rN
      have hkl : (G.map (·.1)).length = G.length := List.length_map _
      have hkn : ∀ (z : E → ByteArray), (G.map z).length = G.length := fun z => List.length_map _
      go_upto_region 8 with (go_at_call 67; ((with_reducible refine CE.out.mono ?_); rintro e w' ⟨rfl, rfl⟩))
      go_cut [38] (fun _ wc => ∃ vk', PS (w.heap.size + 3) wc w.heap.size (w.heap.size + 1) (w.heap.size + 2) 2 vk' vv vc (G.map (·.1) ++ [key]) ([]) (G.map (·.2.2)) S1 e1 ∧ Below w.heap.size w wc)
      case first =>
        go_region_law (first
          | (refine step_append_lies _ (by rfl) _ _ _ (by rfl) (w.heap.size + 3) 9 i9 _ 1 16 Try.underlying53 hi9 hz90 hz91 hz92 rfl (by decide) _ _ _ (by rfl) (P4.ok.alloc _) ⟨w4.heap.size, 0, none⟩ 1 1 [.string key] (by rfl) rfl (cell_one_new _ _ _) (one_str _) (by omega) (by rw [List.length_map]; unfold maxLen; omega) (by rw [List.length_map]; omega) (Nat.le_trans P4.l4 (by simp)) _ rfl ?_; intro gg cap w5 own5 grow5 lies5 lt5; have P5 := P4.key own5 grow5 lies5; simp only [List.length_map] at P5; have B5 : Below w.heap.size w w5 := ((B4.alloc (show w.heap.size ≤ w4.heap.size by have := P4.l4; omega) _).grown grow5 (by have := P4.l4; simp; omega) (fun b hb => by have := own_ge P4.ok hb; omega)); obtain ⟨⟨k0, k1, k2, k3⟩, q0, q1, q2, q3⟩ := row4 (blk_grow P4.rN grow5 (fun b hb => by have := own_ge P4.ok hb; omega)); clear own5 grow5 lies5)
          | (go_simp; go_at_call 68; (with_reducible refine (CT.out _ P3.out.drew.i).mono ?_); rintro e w4 ⟨rfl, hi4, hg4⟩; have P4 := P3.out.drew.read hi4 hg4; have B4 : Below w.heap.size w w4 := (below_drew' B3.out).trans (B.grown_below hg4 (by omega) sb); obtain ⟨⟨m0, m1, m2, m3⟩, _⟩ := row4 P4.rN; have m1' : (w4.alloc (.cells #[.string key] 9)).cell? ⟨w.heap.size + 1, 1, none⟩ = some vk := (row4 (hp_old _ P4.rN)).1.2.1; clear hi4 hg4))
        all_goals (go_wp2; go_meet; case rel => exact ⟨_, P5, B5.setCell (p := ⟨w.heap.size + 1, 1, none⟩) (show w.heap.size ≤ w.heap.size + 1 by omega) _⟩)
      case rest =>
        obtain ⟨vk', hp6, hb6⟩ := hcut
        have P6 := Lib.hid hp6
        have B6 := Lib.hid hb6
        have s6 := hb6.size
        clear hp6 hb6 P3 B3 c0 c1 c2 c3 f0 f1 f2 f3 CT CE
        generalize wc = w6 at *
        obtain ⟨⟨c0, c1, c2, c3⟩, f0, f1, f2, f3⟩ := row4 P6.out.rN
        go_upto_region 11 with fail
        go_region_law (first
            | (refine step_append_lies _ (by rfl) _ _ _ (by rfl) (w.heap.size + 3) 3 i3 _ 1 8 Try.underlying34 hi3 hz30 hz31 hz32 rfl (by decide) _ _ _ (by rfl)  (P4.oc.alloc _) ⟨w4.heap.size, 0, none⟩ 1 1 [.int .i64 (y : Int)] (by rfl) rfl (cell_one_new _ _ _) (one_int _) (by omega) (by rw [List.length_map]; unfold maxLen; omega) (by rw [List.length_map]; omega) (Nat.le_trans P4.l4 (by simp)) _ rfl ?_; intro gg cap w5 own5 grow5 lies5 lt5; have P5 := P4.kid own5 grow5 lies5; simp only [List.length_map] at P5; have B5 : Below w.heap.size w w5 := ((B4.alloc (show w.heap.size ≤ w4.heap.size by have := P4.l4; omega) _).grown grow5 (by have := P4.l4; simp; omega) (fun b hb => by have := own_ge P4.oc hb; omega)); obtain ⟨⟨k0, k1, k2, k3⟩, q0, q1, q2, q3⟩ := row4 (blk_grow P4.rN grow5 (fun b hb => by have := own_ge P4.oc hb; omega)); clear own5 grow5 lies5)
            | (go_simp; go_at_call 66; (with_reducible refine (CU.out _ P6.out.drew.i).mono ?_); rintro e w4 ⟨rfl, hi4, hg4⟩; have P4 := P6.out.drew.read hi4 hg4; have B4 : Below w.heap.size w w4 := (below_drew' B6.out).trans (B.grown_below hg4 (by omega) s6); obtain ⟨⟨m0, m1, m2, m3⟩, _⟩ := row4 P4.rN; have m1' : (w4.alloc (.cells #[.int .i64 (y : Int)] 3)).cell? ⟨w.heap.size + 1, 3, none⟩ = some vc := (row4 (hp_old _ P4.rN)).1.2.2.2; clear hi4 hg4))
        all_goals
          have P7 := Lib.hid P5
          have B7 := Lib.hid (B5.setCell (p := ⟨w.heap.size + 1, 3, none⟩) (show w.heap.size ≤ w.heap.size + 1 by omega) (.slice (some ⟨gg, 0, none⟩) (G.length + 1) cap))
          clear P5 B5 P6 B6 c0 c1 c2 c3 f0 f1 f2 f3 k0 k1 k2 k3 q0 q1 q2 q3 m0 m1 m2 m3 m1' P4 B4 CU
          have hlw : IntKind.u64.wrap (((lf + 1 : Nat) : Int) - 1) = (lf : Int) := by rw [show ((lf + 1 : Nat) : Int) - 1 = (lf : Int) by omega]; exact IntWalk.u64_in _ (by omega)
          go_wp2
          go_roundw
          case rel => exact ⟨lf, S2, e2, G ++ [(key, ⟨#[]⟩, (y : Int))], vk', vv, _, by first | rfl | go_num, by omega, HR2.out, by omega, fun h0 => by have := hsz2.2 h0; rw [List.length_append, List.length_singleton]; omega, by rw [List.length_append, List.length_singleton]; omega, by simpa using P7.out, B7.out⟩
          case measure => simp [intOf]
    · have hex : left = 0 ∨ 0 < left ∧ e ≠ 0 := by omega
      have hdone : many 2 left S e = ([], S, e) := by
        rcases hex with rfl | ⟨_, he⟩
        · rfl
        · exact many_err _ _ _ he
      have hrr := HR.out
      rw [hdone, HM.out] at hrr
      simp only [List.append_nil, Prod.mk.injEq] at hrr
      obtain ⟨rfl, rfl, rfl⟩ := hrr
      have CEn := Lib.hid (in_end _ S e wr P3.out.i)
      have HNp := HN.out
      obtain ⟨A1, a1, hv1, t1, _⟩ := own_at P3.out.ok
      obtain ⟨A2, a2, hv2, t2, _⟩ := own_at P3.out.ov
      obtain ⟨A3, a3, hv3, t3, _⟩ := own_at P3.out.oc
      have hna : NAt wr A1 A2 A3 (mk 2 G) := ⟨t1, by simpa [mk] using t2, by simpa [mk] using t3⟩
      have hsm : Sm (mk 2 G) := ⟨by simp [mk]; omega, by simp [mk]; try omega, by simp [mk]; try omega⟩
      have CC := Lib.hid (check_any A1 A2 A3 a1 a2 a3 (mk 2 G) wr hna hsm)
      have hkey : (mk 2 G).keys = G.map (·.1) := rfl
      have hval : (mk 2 G).vals = [] := by simp [mk]
      have hkid : (mk 2 G).kids = G.map (·.2.2) := by simp [mk]
      have hkd : (mk 2 G).kind = 2 := rfl
      unfold nv at CC
      rw [hkey, hval, hkid, hkd] at CC
      simp only [List.length_map, List.length_nil] at CC hv1 hv2 hv3
      subst hv1 hv2 hv3
      obtain ⟨⟨c0, c1, c2, c3⟩, f0, f1, f2, f3⟩ := row4 P3.out.rN
      obtain ⟨⟨d0, d1, d2, d3⟩, g0, g1, g2, g3⟩ := row4 P3.out.r4
      have l4 := blk_lt P3.out.r4
      have lN := blk_lt P3.out.rN
      clear hna hsm t1 t2 t3 hdone HR HM hgo hGe hkey hval hkid hkd
      generalize endS S e = en at *
      have hE2 : left = 0 ∨ 0 < left ∧ ((e : Int) == 0) = false := by
        rcases hex with h | ⟨h1, h2⟩
        · exact .inl h
        · exact .inr ⟨h1, by rw [beq_eq_false_iff_ne]; omega⟩
      clear hex
      have WAYS : ∀ (X : Prop), (left = 0 → X) → (0 < left → ((e : Int) == 0) = false → X) → X := fun X h1 h2 => hE2.elim h1 (fun h => h2 h.1 h.2)
      clear hE2
      by_cases hen : en = 0
      · subst hen
        rw [if_neg (by simp)] at HNp
        cases hck : check (mk 2 G) with
        | true =>
          rw [hck] at HNp CC
          rw [if_pos rfl] at HNp CC
          refine WAYS _ (fun h => ?_) (fun h1 h2 => ?_)
          · go_wp2_with (first
              | (go_at_call 67; ((with_reducible refine CE.out.mono ?_); rintro e w' ⟨rfl, rfl⟩))
              | (go_at_call 69; ((with_reducible refine CEn.out.mono ?_); rintro e w' ⟨rfl, rfl⟩))
              | (go_at_call 30; ((with_reducible refine CC.out.mono ?_); rintro e w7 ⟨rfl, hb7⟩; obtain ⟨⟨c0, c1, c2, c3⟩, f0, f1, f2, f3⟩ := row4 (blk_below P3.out.rN hb7 lN); obtain ⟨⟨d0, d1, d2, d3⟩, g0, g1, g2, g3⟩ := row4 (blk_below P3.out.r4 hb7 l4); have Q7 := Lib.hid hb7; clear hb7)))
            (try simp only [Exit.inBlock, Exit.then])
            refine bodyPost_ret (results_cells_tmp rfl _ _ w.heap.size [.int .i64 2, .slice A1 G.length a1, .slice A2 0 a2, .slice A3 G.length a3] _ rfl ?_ Try.underlying57 node_info) rfl ?_
            · refine four ⟨?_, ?_, ?_, ?_⟩ <;> go_simp
            · rw [HNp]
              have O := nown_back P3.out Q7.out
              refine ⟨_, rfl, ?_, ?_⟩
              · refine nown_put4 (g := w.heap.size) (by simpa [mk] using O) (by omega)
              · repeat (refine Below.setCell ?_ (by simp) _)
                exact B3.out.trans (Q7.out.mono sb)
            
          · go_wp2_with (first
              | (go_at_call 67; ((with_reducible refine CE.out.mono ?_); rintro e w' ⟨rfl, rfl⟩))
              | (go_at_call 69; ((with_reducible refine CEn.out.mono ?_); rintro e w' ⟨rfl, rfl⟩))
              | (go_at_call 30; ((with_reducible refine CC.out.mono ?_); rintro e w7 ⟨rfl, hb7⟩; obtain ⟨⟨c0, c1, c2, c3⟩, f0, f1, f2, f3⟩ := row4 (blk_below P3.out.rN hb7 lN); obtain ⟨⟨d0, d1, d2, d3⟩, g0, g1, g2, g3⟩ := row4 (blk_below P3.out.r4 hb7 l4); have Q7 := Lib.hid hb7; clear hb7)))
            (try simp only [Exit.inBlock, Exit.then])
            refine bodyPost_ret (results_cells_tmp rfl _ _ w.heap.size [.int .i64 2, .slice A1 G.length a1, .slice A2 0 a2, .slice A3 G.length a3] _ rfl ?_ Try.underlying57 node_info) rfl ?_
            · refine four ⟨?_, ?_, ?_, ?_⟩ <;> go_simp
            · rw [HNp]
              have O := nown_back P3.out Q7.out
              refine ⟨_, rfl, ?_, ?_⟩
              · refine nown_put4 (g := w.heap.size) (by simpa [mk] using O) (by omega)
              · repeat (refine Below.setCell ?_ (by simp) _)
                exact B3.out.trans (Q7.out.mono sb)
            
        | false =>
          rw [hck] at HNp CC
          rw [if_neg (by decide)] at HNp CC
          refine WAYS _ (fun h => ?_) (fun h1 h2 => ?_)
          · go_wp2_with (first
              | (go_at_call 67; ((with_reducible refine CE.out.mono ?_); rintro e w' ⟨rfl, rfl⟩))
              | (go_at_call 69; ((with_reducible refine CEn.out.mono ?_); rintro e w' ⟨rfl, rfl⟩))
              | (go_at_call 30; ((with_reducible refine CC.out.mono ?_); rintro e w7 ⟨rfl, hb7⟩; obtain ⟨⟨c0, c1, c2, c3⟩, f0, f1, f2, f3⟩ := row4 (blk_below P3.out.rN hb7 lN); obtain ⟨⟨d0, d1, d2, d3⟩, g0, g1, g2, g3⟩ := row4 (blk_below P3.out.r4 hb7 l4); have Q7 := Lib.hid hb7; clear hb7)))
            (try simp only [Exit.inBlock, Exit.then])
            refine bodyPost_ret (results_cells_tmp rfl _ _ w.heap.size [.int .i64 0, .slice none 0 0, .slice none 0 0, .slice none 0 0] _ rfl ?_ Try.underlying57 node_info) rfl ?_
            · refine four ⟨?_, ?_, ?_, ?_⟩ <;> go_simp
            · rw [HNp]
              refine ⟨_, rfl, nown_zero _ _, ?_⟩
              repeat (refine Below.setCell ?_ (by simp) _)
              exact B3.out.trans (Q7.out.mono sb)
            
          · go_wp2_with (first
              | (go_at_call 67; ((with_reducible refine CE.out.mono ?_); rintro e w' ⟨rfl, rfl⟩))
              | (go_at_call 69; ((with_reducible refine CEn.out.mono ?_); rintro e w' ⟨rfl, rfl⟩))
              | (go_at_call 30; ((with_reducible refine CC.out.mono ?_); rintro e w7 ⟨rfl, hb7⟩; obtain ⟨⟨c0, c1, c2, c3⟩, f0, f1, f2, f3⟩ := row4 (blk_below P3.out.rN hb7 lN); obtain ⟨⟨d0, d1, d2, d3⟩, g0, g1, g2, g3⟩ := row4 (blk_below P3.out.r4 hb7 l4); have Q7 := Lib.hid hb7; clear hb7)))
            (try simp only [Exit.inBlock, Exit.then])
            refine bodyPost_ret (results_cells_tmp rfl _ _ w.heap.size [.int .i64 0, .slice none 0 0, .slice none 0 0, .slice none 0 0] _ rfl ?_ Try.underlying57 node_info) rfl ?_
            · refine four ⟨?_, ?_, ?_, ?_⟩ <;> go_simp
            · rw [HNp]
              refine ⟨_, rfl, nown_zero _ _, ?_⟩
              repeat (refine Below.setCell ?_ (by simp) _)
              exact B3.out.trans (Q7.out.mono sb)
            
      · rw [if_pos hen] at HNp
        have hen2 : ((en : Int) != 0) = true := by rw [bne_iff_ne]; omega
        refine WAYS _ (fun h => ?_) (fun h1 h2 => ?_)
        · go_wp2_with (first
            | (go_at_call 67; ((with_reducible refine CE.out.mono ?_); rintro e w' ⟨rfl, rfl⟩))
            | (go_at_call 69; ((with_reducible refine CEn.out.mono ?_); rintro e w' ⟨rfl, rfl⟩))
            | (go_at_call 30; ((with_reducible refine CC.out.mono ?_); rintro e w7 ⟨rfl, hb7⟩; obtain ⟨⟨c0, c1, c2, c3⟩, f0, f1, f2, f3⟩ := row4 (blk_below P3.out.rN hb7 lN); obtain ⟨⟨d0, d1, d2, d3⟩, g0, g1, g2, g3⟩ := row4 (blk_below P3.out.r4 hb7 l4); have Q7 := Lib.hid hb7; clear hb7)))
          (try simp only [Exit.inBlock, Exit.then])
          refine bodyPost_ret (results_cells_tmp rfl _ _ w.heap.size [.int .i64 0, .slice none 0 0, .slice none 0 0, .slice none 0 0] _ rfl ?_ Try.underlying57 node_info) rfl ?_
          · refine four ⟨?_, ?_, ?_, ?_⟩ <;> go_simp
          · rw [HNp]
            refine ⟨_, rfl, nown_zero _ _, ?_⟩
            repeat (refine Below.setCell ?_ (by simp) _)
            exact B3.out
          
        · go_wp2_with (first
            | (go_at_call 67; ((with_reducible refine CE.out.mono ?_); rintro e w' ⟨rfl, rfl⟩))
            | (go_at_call 69; ((with_reducible refine CEn.out.mono ?_); rintro e w' ⟨rfl, rfl⟩))
            | (go_at_call 30; ((with_reducible refine CC.out.mono ?_); rintro e w7 ⟨rfl, hb7⟩; obtain ⟨⟨c0, c1, c2, c3⟩, f0, f1, f2, f3⟩ := row4 (blk_below P3.out.rN hb7 lN); obtain ⟨⟨d0, d1, d2, d3⟩, g0, g1, g2, g3⟩ := row4 (blk_below P3.out.r4 hb7 l4); have Q7 := Lib.hid hb7; clear hb7)))
          (try simp only [Exit.inBlock, Exit.then])
          refine bodyPost_ret (results_cells_tmp rfl _ _ w.heap.size [.int .i64 0, .slice none 0 0, .slice none 0 0, .slice none 0 0] _ rfl ?_ Try.underlying57 node_info) rfl ?_
          · refine four ⟨?_, ?_, ?_, ?_⟩ <;> go_simp
          · rw [HNp]
            refine ⟨_, rfl, nown_zero _ _, ?_⟩
            repeat (refine Below.setCell ?_ (by simp) _)
            exact B3.out
          
end Nod
end Go.Proofs.Ytjikioiejdfodaa
