/-
  What the document's own Take does (dowserref01): part by part, on the state (what is left, the first error).
-/
import Derived.Test.YtkeapapkigmdoaaVarHead
namespace Go.Proofs.Ytkeapapkigmdoaa
open Go.RowKit
namespace V

/-- a part that is asked for: its kind (0 to 3), the most that it may be, how many bytes -/
structure Pt where
  k : Nat
  m : Nat
  n : Int

/-- the first error stays, and nothing is left behind it -/
def stepS (s : ByteArray) (e : Nat) (p : Pt) : ByteArray × ByteArray × Nat :=
  if p.k = 0 then (⟨(Var.num (numS s e p.m).1).toArray⟩, (numS s e p.m).2)
  else if p.k = 1 then textS s e p.m
  else if p.k = 2 then rawS s e p.n.toNat
  else (⟨#[]⟩, failS s e 13)

def run (s : ByteArray) (e : Nat) : List Pt → List ByteArray × ByteArray × Nat
  | [] => ([], s, e)
  | p :: r => ((stepS s e p).1 :: (run (stepS s e p).2.1 (stepS s e p).2.2 r).1, (run (stepS s e p).2.1 (stepS s e p).2.2 r).2)

/-- the parts lie in block g, three cells each -/
def PartsAt (w : World) (g : Nat) (ps : List Pt) : Prop := ∀ i (h : i < ps.length),
  w.cell? ⟨g, i * 3, none⟩ = some (.int .i64 (ps[i].k : Int)) ∧ w.cell? ⟨g, i * 3 + 1, none⟩ = some (.int .u64 (ps[i].m : Int)) ∧ w.cell? ⟨g, i * 3 + 2, none⟩ = some (.int .i64 ps[i].n)
def PtOk (p : Pt) : Prop := p.k < 4 ∧ p.m < 18446744073709551616 ∧ (p.k = 1 → p.m ≤ 1099511627776) ∧ -9223372036854775808 ≤ p.n ∧ p.n ≤ 9223372036854775807

theorem info9 : (Try.prog.info? 9).map (fun i => (i.zero, i.size, i.bytes)) = some (some (.string { data := #[] }), 1, 16) := by kernel_rfl
def strCells (l : List ByteArray) : List Value := l.map Value.string

theorem run_next {s S S' : ByteArray} {E E' k : Nat} {ps : List Pt} {G : List ByteArray} {got : ByteArray} (hlt : k < ps.length) (hT : stepS S E ps[k] = (got, S', E'))
    (hr : (G ++ (run S E (ps.drop k)).1, (run S E (ps.drop k)).2) = run s 0 ps) : ((G ++ [got]) ++ (run S' E' (ps.drop (k + 1))).1, (run S' E' (ps.drop (k + 1))).2) = run s 0 ps := by
  rw [← hr, List.drop_eq_getElem_cons hlt]
  simp only [run, hT, List.append_assoc, List.singleton_append]
theorem run_done {s S : ByteArray} {E k : Nat} {ps : List Pt} {G : List ByteArray} (hk : ps.length ≤ k) (hr : (G ++ (run S E (ps.drop k)).1, (run S E (ps.drop k)).2) = run s 0 ps) : run s 0 ps = (G, S, E) := by
  rw [← hr, List.drop_eq_nil_of_le hk]; simp [run]
theorem own_below {w w' : World} {base e size n : Nat} {v : Value} {xs : List Value} (h : w.ownsRow base e size v n xs) (hb : Below w.heap.size w w') : w'.ownsRow base e size v n xs :=
  h.kept (row := none) ⟨hb.os, hb.tape, hb.output, hb.size, fun i hi _ => hb.block i hi⟩ (by cases v.ownBlock <;> simp)
theorem strCells_snoc (G : List ByteArray) (x : ByteArray) : strCells (G ++ [x]) = strCells G ++ [.string x] := by simp [strCells]
theorem head_at (s : ByteArray) (x n f : Nat) (hs : s.size ≤ 1000) (hr : Var.hd 0 0 s.data.toList = (x, n, f)) (w : World) :
    Calls Try.prog 32 #[.string s] w fun e w' => e = .returned (.tuple #[.int .u64 (x : Int), .int .i64 (n : Int), .int .i64 (f : Int)]) ∧ w = w' := by
  have h := head_any s w (by unfold maxLen; omega)
  rw [hr] at h; exact h
theorem hd_lt64 : ∀ (l : List UInt8) (i acc x n f : Nat), i ≤ 9 → acc < 128 ^ i → Var.hd i acc l = (x, n, f) → x < 18446744073709551616
  | [], i, acc, x, n, f, _, _, h => by simp only [Var.hd, Prod.mk.injEq] at h; omega
  | b :: r, i, acc, x, n, f, hi, ha, h => by
    rw [Var.hd] at h
    by_cases h1 : (0 < i ∧ b.toNat = 0) ∨ (i = 9 ∧ 1 < b.toNat)
    · rw [if_pos h1] at h; simp only [Prod.mk.injEq] at h; omega
    · rw [if_neg h1] at h
      have ho := (or_sum acc i b ha hi (by omega)).2
      by_cases h2 : b.toNat < 128
      · rw [if_pos h2] at h; simp only [Prod.mk.injEq] at h
        rw [Nat.mod_eq_of_lt h2] at ho
        omega
      · rw [if_neg h2] at h
        refine hd_lt64 r _ _ _ _ _ (by omega) ?_ h
        have h3 : b.toNat % 128 * 128 ^ i ≤ 127 * 128 ^ i := Nat.mul_le_mul_right _ (by omega)
        rw [Nat.pow_succ]; omega
theorem one_new (W : World) (x : Value) (e : TypeId) (g : Nat) (hg : g = W.heap.size) : ∀ j u, [x][j]? = some u → (W.alloc (.cells #[x] e)).cell? ((⟨g, 0, none⟩ : Addr).add j) = some u := by
  subst hg; exact cell_one_new W x e
theorem one_str (x : ByteArray) : ∀ u ∈ [Value.string x], u.oneCell' = true := by intro u hu; simp at hu; subst hu; rfl
theorem base1 {a : Nat} {W : World} (h : a ≤ W.heap.size) (o : Obj) : a ≤ (W.alloc o).heap.size := by rw [World.size_alloc]; omega
theorem refNum0 (w : World) : Calls Try.prog 13 #[.int .u64 0] w fun e w' => e = .returned (.string ⟨(Var.num 0).toArray⟩) ∧ Below w.heap.size w w' := refNum_any 0 w (by omega)
theorem step_k0 (s : ByteArray) (e m : Nat) (n : Int) : stepS s e ⟨0, m, n⟩ = (⟨(Var.num (numS s e m).1).toArray⟩, (numS s e m).2) := by simp [stepS]
theorem step_k1 (s : ByteArray) (e m : Nat) (n : Int) : stepS s e ⟨1, m, n⟩ = textS s e m := by simp [stepS]
theorem step_k2 (s : ByteArray) (e m : Nat) (n : Int) : stepS s e ⟨2, m, n⟩ = rawS s e n.toNat := by simp [stepS]
theorem step_k3 (s : ByteArray) (e m : Nat) (n : Int) : stepS s e ⟨3, m, n⟩ = (⟨#[]⟩, failS s e 13) := by simp [stepS]
theorem p_cells {wr w2 : World} {a b c : Value} (h : Below (wr.alloc (Obj.cells #[a, b, c] 34)).heap.size (wr.alloc (Obj.cells #[a, b, c] 34)) w2) :
    w2.cell? ⟨wr.heap.size, 0, none⟩ = some a ∧ w2.cell? ⟨wr.heap.size, 1, none⟩ = some b ∧ w2.cell? ⟨wr.heap.size, 2, none⟩ = some c := by
  have hlt : wr.heap.size < (wr.alloc (Obj.cells #[a, b, c] 34)).heap.size := by simp
  exact ⟨(h.cell (p := ⟨wr.heap.size, 0, none⟩) hlt).trans (by rw [World.cell?_alloc_mark]; rfl), (h.cell (p := ⟨wr.heap.size, 1, none⟩) hlt).trans (by rw [World.cell?_alloc_mark]; rfl), (h.cell (p := ⟨wr.heap.size, 2, none⟩) hlt).trans (by rw [World.cell?_alloc_mark]; rfl)⟩
theorem empty_size : (ByteArray.mk #[]).size = 0 := rfl
theorem fail_err {E : Nat} (hE : E ≠ 0) (f : Nat) : failS ⟨#[]⟩ E f = (⟨#[]⟩, E) := by unfold failS; rw [if_pos (.inr hE)]
theorem num_err {E : Nat} (hE : E ≠ 0) (m : Nat) : numS ⟨#[]⟩ E m = (0, ⟨#[]⟩, E) := by unfold numS; rw [if_neg (by decide)]; exact congrArg (Prod.mk 0) (fail_err hE 2)
theorem raw_err {E : Nat} (hE : E ≠ 0) (q : Nat) : rawS ⟨#[]⟩ E q = (⟨#[]⟩, ⟨#[]⟩, E) := by
  unfold rawS
  by_cases h : (ByteArray.mk #[]).size < q
  · rw [if_pos h, fail_err hE]
  · have : q = 0 := by have := empty_size; omega
    subst this; rfl
theorem step_err {E : Nat} (hE : E ≠ 0) (kk m : Nat) (n : Int) (hk : kk ≠ 0) : stepS ⟨#[]⟩ E ⟨kk, m, n⟩ = (⟨#[]⟩, ⟨#[]⟩, E) := by
  unfold stepS
  rw [if_neg hk]
  by_cases h1 : kk = 1
  · rw [if_pos h1]; unfold textS; rw [num_err hE]; exact raw_err hE 0
  · rw [if_neg h1]
    by_cases h2 : kk = 2
    · rw [if_pos h2]; exact raw_err hE _
    · rw [if_neg h2, fail_err hE]
theorem step_err0 {E : Nat} (hE : E ≠ 0) (m : Nat) (n : Int) : stepS ⟨#[]⟩ E ⟨0, m, n⟩ = (⟨(Var.num 0).toArray⟩, ⟨#[]⟩, E) := by
  unfold stepS; rw [if_pos rfl]; simp only [num_err hE]

set_option maxRecDepth 100000 in
set_option maxHeartbeats 1000000 in
theorem take_any (s : ByteArray) (ps : List Pt) (A : Option Addr) (g c : Nat) (w : World) (hs : s.size ≤ 1000) (hl : ps.length ≤ 10) (hA : 0 < ps.length → A = some ⟨g, 0, none⟩) (hg : g < w.heap.size)
    (hp : PartsAt w g ps) (hok : ∀ p ∈ ps, PtOk p) :
    Calls Try.prog 16 #[.string s, .slice A ps.length c] w fun e w' => ∃ v, e = .returned (.tuple #[v, .string (run s 0 ps).2.1, .int .i64 ((run s 0 ps).2.2 : Int)]) ∧ w'.ownsRow w.heap.size 9 1 v ps.length (strCells (run s 0 ps).1) ∧ Below w.heap.size w w' := by
  obtain ⟨i0, hi, hz0, hz1, hz2⟩ := info_parts info9
  have HP := Lib.hid hp
  have HK := Lib.hid hok
  have HA := Lib.hid hA
  clear hp hok hA
  go_enter Try.func16, Try.ntmps16
  go_wp2
  go_loopw [0, 7, 8, 19] (fun t v e i wr => ∃ (k : Nat) (G : List ByteArray) (S : ByteArray) (E : Nat), k ≤ ps.length ∧ i = .int .i64 (k : Int) ∧ t = .string S ∧ e = .int .i64 (E : Int) ∧ G.length = k ∧ S.size ≤ 1000 ∧ (E ≠ 0 → S = ⟨#[]⟩) ∧
      wr.ownsRow w.heap.size 9 1 v k (strCells G) ∧ Below w.heap.size w wr ∧ (G ++ (run S E (ps.drop k)).1, (run S E (ps.drop k)).2) = run s 0 ps) (fun _ _ _ i _ => ps.length - (intOf i).toNat)
  case atStart => exact ⟨0, [], s, 0, Nat.zero_le _, rfl, rfl, rfl, rfl, hs, fun h => absurd rfl h, World.ownsRow_lit w #[] 0 (Nat.le_refl _) (Nat.zero_le _) rfl, (Below.refl _ _).alloc (Nat.le_refl _) _, rfl⟩
  case round =>
    obtain ⟨k, G, S, E, hk, rfl, rfl, rfl, hG, hS, hE, hown, hbel, hrun⟩ := hrel
    have hbs := hbel.size
    by_cases hlt : k < ps.length
    · obtain ⟨hc0, hc1, hc2⟩ := HP.out k hlt
      have hA := HA.out (by omega)
      subst hA
      obtain ⟨o1, o2, o3, o4, o5⟩ := HK.out _ (List.getElem_mem hlt)
      have HRun := Lib.hid (fun (got S' : ByteArray) (E' : Nat) hT => run_next (got := got) (S' := S') (E' := E') hlt hT hrun)
      obtain ⟨kk, m, n, hp⟩ : ∃ kk m n, ps[k] = ⟨kk, m, n⟩ := ⟨_, _, _, rfl⟩
      simp only [hp] at hc0 hc1 hc2 o1 o2 o3 o4 o5 HRun
      have c0 := (hbel.cell (p := ⟨g, k * 3, none⟩) hg).trans hc0
      have c1 := (hbel.cell (p := ⟨g, k * 3 + 1, none⟩) hg).trans hc1
      have c2 := (hbel.cell (p := ⟨g, k * 3 + 2, none⟩) hg).trans hc2
      have HE := Lib.hid hE
      have HG := Lib.hid hG
      have hm3 : k + 1 ≤ maxLen := by unfold maxLen; omega
      have hm4 : (k + 1) * 16 ≤ 140737488355328 := by omega
      clear hrun hE hG hc0 hc1 hc2 hp HP HK HA
      go_upto_region 7 with fail
      go_cut [12] (fun s12 w => ∃ N : Nat, Hid (N = n.toNat) ∧ s12 = .int .i64 (N : Int) ∧ w = wr.alloc (Obj.cells #[Value.int IntKind.i64 (kk : Int), Value.int IntKind.u64 (m : Int), Value.int IntKind.i64 n] 34))
      case first =>
        go_wp2
        all_goals go_meet
        all_goals exact ⟨n.toNat, rfl, by go_num, rfl⟩
      case rest =>
        obtain ⟨N, HN, rfl, rfl⟩ := hcut
        by_cases hE0 : E = 0
        · subst hE0
          clear HE
          obtain rfl | rfl | rfl | rfl : kk = 0 ∨ kk = 1 ∨ kk = 2 ∨ kk = 3 := by omega
          · obtain ⟨x, nn, f, hr⟩ : ∃ x nn f, Var.hd 0 0 S.data.toList = (x, nn, f) := ⟨_, _, _, rfl⟩
            have CH := Lib.hid (head_at S x nn f hS hr)
            have hn1 : nn ≤ S.size := by have := hd_le _ _ _ _ _ _ hr; rw [size_data] at this; omega
            have hx64 : x < 18446744073709551616 := hd_lt64 _ _ _ _ _ _ (by omega) (by decide) hr
            have hns : ∀ M, numS S 0 M = if f = 0 then (if x ≤ M then (x, S.extract nn S.size, 0) else (0, ⟨#[]⟩, 4)) else (0, failS S 0 f) := fun M => by unfold numS; rw [hr]; rfl
            have hzx : (S.extract nn S.size).size = S.size - nn := by rw [ByteArray.size_extract]; omega
            by_cases hf : f = 0
            · subst hf
              by_cases hx : x ≤ m
              · have hn2 : numS S 0 m = (x, S.extract nn S.size, 0) := by rw [hns, if_pos rfl, if_pos hx]
                have CN := Lib.hid (fun W => refNum_any x W hx64)
                have HT0 := Lib.hid (show stepS S 0 ⟨0, m, n⟩ = (⟨(Var.num x).toArray⟩, S.extract nn S.size, 0) by rw [step_k0, hn2])
                clear hns hn2 hr
                generalize ByteArray.mk (Var.num x).toArray = Z at *
                have HT := Lib.hid (HRun.out Z (S.extract nn S.size) 0 (by exact HT0.out))
                clear HRun
                go_wp2_with (first
                  | (go_at_call 32; ((with_reducible refine (CH.out _).mono ?_); rintro e1 w' ⟨rfl, rfl⟩))
                  | (go_at_call 13; ((with_reducible refine (CN.out _).mono ?_); rintro e1 w2 ⟨rfl, hb2⟩; have hz3 := Nat.le_trans (base1 hbs _) hb2.size; obtain ⟨q0, q1, q2⟩ := p_cells hb2))
                  | (at_builtin; refine wpList_append_own _ rfl _ _ 35 rfl w.heap.size 9 i0 (.string { data := #[] }) 1 16 Try.underlying35 hi hz0 hz1 hz2 rfl (by decide) _ _ _ rfl ((own_below (hown.alloc _) hb2).alloc _) ⟨w2.heap.size, 0, none⟩ 1 1 [.string Z] rfl rfl (one_new _ _ _ _ rfl) (one_str _) hm3 hm4 (base1 hz3 _) ?_))
                · intro v' w1 hown' hgrow _
                  have hb1 : Below w.heap.size w w1 := ((((hbel.alloc hbs _).trans (hb2.mono (base1 hbs _))).alloc hz3 _).grown hgrow (base1 hz3 _) (fun q hq => (hown.lt q hq).1))
                  have HO : Hid (w1.ownsRow w.heap.size 9 1 v' (k + 1) (strCells (G ++ [Z]))) := by rw [strCells_snoc]; exact hown'
                  clear hown' hgrow hown
                  go_wp2
                  go_roundw
                  case rel => exact ⟨k + 1, G ++ [Z], (S.extract nn S.size), 0, by omega, by go_num, rfl, rfl, by simp [HG.out], by omega, fun h => absurd rfl h, HO.out, hb1, HT.out⟩
                  case measure => simp [intOf]; omega
              · have hn2 : numS S 0 m = (0, ⟨#[]⟩, 4) := by rw [hns, if_pos rfl, if_neg hx]
                have hx' : m < x := by omega
                have CN := Lib.hid refNum0
                have HT0 := Lib.hid (show stepS S 0 ⟨0, m, n⟩ = (⟨(Var.num 0).toArray⟩, ⟨#[]⟩, 4) by rw [step_k0, hn2])
                clear hns hn2 hr hx64
                generalize ByteArray.mk (Var.num 0).toArray = Z at *
                have HT := Lib.hid (HRun.out Z ⟨#[]⟩ 4 (by exact HT0.out))
                clear HRun
                go_wp2_with (first
                  | (go_at_call 32; ((with_reducible refine (CH.out _).mono ?_); rintro e1 w' ⟨rfl, rfl⟩))
                  | (go_at_call 13; ((with_reducible refine (CN.out _).mono ?_); rintro e1 w2 ⟨rfl, hb2⟩; have hz3 := Nat.le_trans (base1 hbs _) hb2.size; obtain ⟨q0, q1, q2⟩ := p_cells hb2))
                  | (at_builtin; refine wpList_append_own _ rfl _ _ 35 rfl w.heap.size 9 i0 (.string { data := #[] }) 1 16 Try.underlying35 hi hz0 hz1 hz2 rfl (by decide) _ _ _ rfl ((own_below (hown.alloc _) hb2).alloc _) ⟨w2.heap.size, 0, none⟩ 1 1 [.string Z] rfl rfl (one_new _ _ _ _ rfl) (one_str _) hm3 hm4 (base1 hz3 _) ?_))
                · intro v' w1 hown' hgrow _
                  have hb1 : Below w.heap.size w w1 := ((((hbel.alloc hbs _).trans (hb2.mono (base1 hbs _))).alloc hz3 _).grown hgrow (base1 hz3 _) (fun q hq => (hown.lt q hq).1))
                  have HO : Hid (w1.ownsRow w.heap.size 9 1 v' (k + 1) (strCells (G ++ [Z]))) := by rw [strCells_snoc]; exact hown'
                  clear hown' hgrow hown
                  go_wp2
                  go_roundw
                  case rel => exact ⟨k + 1, G ++ [Z], ⟨#[]⟩, 4, by omega, by go_num, rfl, rfl, by simp [HG.out], by decide, fun _ => rfl, HO.out, hb1, HT.out⟩
                  case measure => simp [intOf]; omega
            · have hf1 := nat_eq0 (show 0 < f by omega)
              have hf2 := nat_ne0 (show 0 < f by omega)
              have hn2 : numS S 0 m = (0, ⟨#[]⟩, f) := by rw [hns, if_neg hf]; unfold failS; rw [if_neg (by omega)]
              have CN := Lib.hid refNum0
              have HT0 := Lib.hid (show stepS S 0 ⟨0, m, n⟩ = (⟨(Var.num 0).toArray⟩, ⟨#[]⟩, f) by rw [step_k0, hn2])
              clear hns hn2 hr hx64
              generalize ByteArray.mk (Var.num 0).toArray = Z at *
              have HT := Lib.hid (HRun.out Z ⟨#[]⟩ f (by exact HT0.out))
              clear HRun
              go_wp2_with (first
                | (go_at_call 32; ((with_reducible refine (CH.out _).mono ?_); rintro e1 w' ⟨rfl, rfl⟩))
                | (go_at_call 13; ((with_reducible refine (CN.out _).mono ?_); rintro e1 w2 ⟨rfl, hb2⟩; have hz3 := Nat.le_trans (base1 hbs _) hb2.size; obtain ⟨q0, q1, q2⟩ := p_cells hb2))
                | (at_builtin; refine wpList_append_own _ rfl _ _ 35 rfl w.heap.size 9 i0 (.string { data := #[] }) 1 16 Try.underlying35 hi hz0 hz1 hz2 rfl (by decide) _ _ _ rfl ((own_below (hown.alloc _) hb2).alloc _) ⟨w2.heap.size, 0, none⟩ 1 1 [.string Z] rfl rfl (one_new _ _ _ _ rfl) (one_str _) hm3 hm4 (base1 hz3 _) ?_))
              · intro v' w1 hown' hgrow _
                have hb1 : Below w.heap.size w w1 := ((((hbel.alloc hbs _).trans (hb2.mono (base1 hbs _))).alloc hz3 _).grown hgrow (base1 hz3 _) (fun q hq => (hown.lt q hq).1))
                have HO : Hid (w1.ownsRow w.heap.size 9 1 v' (k + 1) (strCells (G ++ [Z]))) := by rw [strCells_snoc]; exact hown'
                clear hown' hgrow hown
                go_wp2
                go_roundw
                case rel => exact ⟨k + 1, G ++ [Z], ⟨#[]⟩, f, by omega, by go_num, rfl, rfl, by simp [HG.out], by decide, fun _ => rfl, HO.out, hb1, HT.out⟩
                case measure => simp [intOf]; omega
          · obtain ⟨x, nn, f, hr⟩ : ∃ x nn f, Var.hd 0 0 S.data.toList = (x, nn, f) := ⟨_, _, _, rfl⟩
            have CH := Lib.hid (head_at S x nn f hS hr)
            have hn1 : nn ≤ S.size := by have := hd_le _ _ _ _ _ _ hr; rw [size_data] at this; omega
            have hx64 : x < 18446744073709551616 := hd_lt64 _ _ _ _ _ _ (by omega) (by decide) hr
            have hns : ∀ M, numS S 0 M = if f = 0 then (if x ≤ M then (x, S.extract nn S.size, 0) else (0, ⟨#[]⟩, 4)) else (0, failS S 0 f) := fun M => by unfold numS; rw [hr]; rfl
            have hzx : (S.extract nn S.size).size = S.size - nn := by rw [ByteArray.size_extract]; omega
            by_cases hf : f = 0
            · subst hf
              by_cases hx : x ≤ m
              · have hn2 : numS S 0 m = (x, S.extract nn S.size, 0) := by rw [hns, if_pos rfl, if_pos hx]
                have CN := Lib.hid (fun W => refNum_any x W hx64)
                have hx40 : x ≤ 1099511627776 := by have := o3 rfl; omega
                by_cases hb : S.size - nn < x
                · have HT0 := Lib.hid (show stepS S 0 ⟨1, m, n⟩ = (⟨#[]⟩, ⟨#[]⟩, 2) by rw [step_k1]; unfold textS; rw [hn2]; show rawS _ 0 x = _; unfold rawS; rw [if_pos (by rw [hzx]; exact hb)]; rfl)
                  clear hns hn2 hr hx64 hzx
                  have HT := Lib.hid (HRun.out { data := #[] } ⟨#[]⟩ 2 (by exact HT0.out))
                  clear HRun
                  go_wp2_with (first
                    | (go_at_call 32; ((with_reducible refine (CH.out _).mono ?_); rintro e1 w' ⟨rfl, rfl⟩))
                    | (go_at_call 13; ((with_reducible refine (CN.out _).mono ?_); rintro e1 w2 ⟨rfl, hb2⟩; have hz3 := Nat.le_trans (base1 hbs _) hb2.size; obtain ⟨q0, q1, q2⟩ := p_cells hb2))
                    | (at_builtin; refine wpList_append_own _ rfl _ _ 35 rfl w.heap.size 9 i0 (.string { data := #[] }) 1 16 Try.underlying35 hi hz0 hz1 hz2 rfl (by decide) _ _ _ rfl ((own_below (hown.alloc _) hb2).alloc _) ⟨w2.heap.size, 0, none⟩ 1 1 [.string { data := #[] }] rfl rfl (one_new _ _ _ _ rfl) (one_str _) hm3 hm4 (base1 hz3 _) ?_))
                  · intro v' w1 hown' hgrow _
                    have hb1 : Below w.heap.size w w1 := ((((hbel.alloc hbs _).trans (hb2.mono (base1 hbs _))).alloc hz3 _).grown hgrow (base1 hz3 _) (fun q hq => (hown.lt q hq).1))
                    have HO : Hid (w1.ownsRow w.heap.size 9 1 v' (k + 1) (strCells (G ++ [{ data := #[] }]))) := by rw [strCells_snoc]; exact hown'
                    clear hown' hgrow hown
                    go_wp2
                    go_roundw
                    case rel => exact ⟨k + 1, G ++ [{ data := #[] }], ⟨#[]⟩, 2, by omega, by go_num, rfl, rfl, by simp [HG.out], by decide, fun _ => rfl, HO.out, hb1, HT.out⟩
                    case measure => simp [intOf]; omega
                · have HT0 := Lib.hid (show stepS S 0 ⟨1, m, n⟩ = ((S.extract nn S.size).extract 0 x, (S.extract nn S.size).extract x (S.size - nn), 0) by rw [step_k1]; unfold textS; rw [hn2]; show rawS _ 0 x = _; unfold rawS; rw [if_neg (by rw [hzx]; exact hb), hzx])
                  have hz4 : ((S.extract nn S.size).extract x (S.size - nn)).size ≤ 1000 := by rw [ByteArray.size_extract]; omega
                  have HZ4 := Lib.hid hz4
                  clear hns hn2 hr hx64 hz4
                  have HT := Lib.hid (HRun.out ((S.extract nn S.size).extract 0 x) ((S.extract nn S.size).extract x (S.size - nn)) 0 (by exact HT0.out))
                  clear HRun
                  go_wp2_with (first
                    | (go_at_call 32; ((with_reducible refine (CH.out _).mono ?_); rintro e1 w' ⟨rfl, rfl⟩))
                    | (go_at_call 13; ((with_reducible refine (CN.out _).mono ?_); rintro e1 w2 ⟨rfl, hb2⟩; have hz3 := Nat.le_trans (base1 hbs _) hb2.size; obtain ⟨q0, q1, q2⟩ := p_cells hb2))
                    | (at_builtin; refine wpList_append_own _ rfl _ _ 35 rfl w.heap.size 9 i0 (.string { data := #[] }) 1 16 Try.underlying35 hi hz0 hz1 hz2 rfl (by decide) _ _ _ rfl ((own_below (hown.alloc _) hb2).alloc _) ⟨w2.heap.size, 0, none⟩ 1 1 [.string ((S.extract nn S.size).extract 0 x)] rfl rfl (one_new _ _ _ _ rfl) (one_str _) hm3 hm4 (base1 hz3 _) ?_))
                  · intro v' w1 hown' hgrow _
                    have hb1 : Below w.heap.size w w1 := ((((hbel.alloc hbs _).trans (hb2.mono (base1 hbs _))).alloc hz3 _).grown hgrow (base1 hz3 _) (fun q hq => (hown.lt q hq).1))
                    have HO : Hid (w1.ownsRow w.heap.size 9 1 v' (k + 1) (strCells (G ++ [((S.extract nn S.size).extract 0 x)]))) := by rw [strCells_snoc]; exact hown'
                    clear hown' hgrow hown
                    go_wp2
                    go_roundw
                    case rel => exact ⟨k + 1, G ++ [((S.extract nn S.size).extract 0 x)], ((S.extract nn S.size).extract x (S.size - nn)), 0, by omega, by go_num, rfl, rfl, by simp [HG.out], HZ4.out, fun h => absurd rfl h, HO.out, hb1, HT.out⟩
                    case measure => simp [intOf]; omega
              · have hn2 : numS S 0 m = (0, ⟨#[]⟩, 4) := by rw [hns, if_pos rfl, if_neg hx]
                have hx' : m < x := by omega
                have HT0 := Lib.hid (show stepS S 0 ⟨1, m, n⟩ = (⟨#[]⟩, ⟨#[]⟩, 4) by rw [step_k1]; unfold textS; rw [hn2]; rfl)
                clear hns hn2 hr hx64
                have HT := Lib.hid (HRun.out { data := #[] } ⟨#[]⟩ 4 (by exact HT0.out))
                clear HRun
                go_wp2_with (first
                  | (go_at_call 32; ((with_reducible refine (CH.out _).mono ?_); rintro e1 w' ⟨rfl, rfl⟩))
                  | (at_builtin; refine wpList_append_own _ rfl _ _ 35 rfl w.heap.size 9 i0 (.string { data := #[] }) 1 16 Try.underlying35 hi hz0 hz1 hz2 rfl (by decide) _ _ _ rfl ((hown.alloc _).alloc _) ⟨wr.heap.size + 1, 0, none⟩ 1 1 [.string { data := #[] }] rfl rfl (one_new _ _ _ _ (World.size_alloc _ _).symm) (one_str _) hm3 hm4 (base1 (base1 hbs _) _) ?_))
                · intro v' w1 hown' hgrow _
                  have hb1 : Below w.heap.size w w1 := (((hbel.alloc hbs _).alloc (base1 hbs _) _).grown hgrow (base1 (base1 hbs _) _) (fun q hq => (hown.lt q hq).1))
                  have HO : Hid (w1.ownsRow w.heap.size 9 1 v' (k + 1) (strCells (G ++ [{ data := #[] }]))) := by rw [strCells_snoc]; exact hown'
                  clear hown' hgrow hown
                  go_wp2
                  go_roundw
                  case rel => exact ⟨k + 1, G ++ [{ data := #[] }], ⟨#[]⟩, 4, by omega, by go_num, rfl, rfl, by simp [HG.out], by decide, fun _ => rfl, HO.out, hb1, HT.out⟩
                  case measure => simp [intOf]; omega
            · have hf1 := nat_eq0 (show 0 < f by omega)
              have hf2 := nat_ne0 (show 0 < f by omega)
              have hn2 : numS S 0 m = (0, ⟨#[]⟩, f) := by rw [hns, if_neg hf]; unfold failS; rw [if_neg (by omega)]
              have HT0 := Lib.hid (show stepS S 0 ⟨1, m, n⟩ = (⟨#[]⟩, ⟨#[]⟩, f) by rw [step_k1]; unfold textS; rw [hn2]; exact raw_err hf 0)
              clear hns hn2 hr hx64
              have HT := Lib.hid (HRun.out { data := #[] } ⟨#[]⟩ f (by exact HT0.out))
              clear HRun
              go_wp2_with (first
                | (go_at_call 32; ((with_reducible refine (CH.out _).mono ?_); rintro e1 w' ⟨rfl, rfl⟩))
                | (at_builtin; refine wpList_append_own _ rfl _ _ 35 rfl w.heap.size 9 i0 (.string { data := #[] }) 1 16 Try.underlying35 hi hz0 hz1 hz2 rfl (by decide) _ _ _ rfl ((hown.alloc _).alloc _) ⟨wr.heap.size + 1, 0, none⟩ 1 1 [.string { data := #[] }] rfl rfl (one_new _ _ _ _ (World.size_alloc _ _).symm) (one_str _) hm3 hm4 (base1 (base1 hbs _) _) ?_))
              · intro v' w1 hown' hgrow _
                have hb1 : Below w.heap.size w w1 := (((hbel.alloc hbs _).alloc (base1 hbs _) _).grown hgrow (base1 (base1 hbs _) _) (fun q hq => (hown.lt q hq).1))
                have HO : Hid (w1.ownsRow w.heap.size 9 1 v' (k + 1) (strCells (G ++ [{ data := #[] }]))) := by rw [strCells_snoc]; exact hown'
                clear hown' hgrow hown
                go_wp2
                go_roundw
                case rel => exact ⟨k + 1, G ++ [{ data := #[] }], ⟨#[]⟩, f, by omega, by go_num, rfl, rfl, by simp [HG.out], by decide, fun _ => rfl, HO.out, hb1, HT.out⟩
                case measure => simp [intOf]; omega
          · by_cases hb : S.size < N
            · have HT0 := Lib.hid (show stepS S 0 ⟨2, m, n⟩ = (⟨#[]⟩, ⟨#[]⟩, 2) by rw [step_k2, ← HN.out]; unfold rawS; rw [if_pos hb]; rfl)
              have HT := Lib.hid (HRun.out { data := #[] } ⟨#[]⟩ 2 (by exact HT0.out))
              clear HRun
              go_wp2_with (first
                | (at_builtin; refine wpList_append_own _ rfl _ _ 35 rfl w.heap.size 9 i0 (.string { data := #[] }) 1 16 Try.underlying35 hi hz0 hz1 hz2 rfl (by decide) _ _ _ rfl ((hown.alloc _).alloc _) ⟨wr.heap.size + 1, 0, none⟩ 1 1 [.string { data := #[] }] rfl rfl (one_new _ _ _ _ (World.size_alloc _ _).symm) (one_str _) hm3 hm4 (base1 (base1 hbs _) _) ?_))
              · intro v' w1 hown' hgrow _
                have hb1 : Below w.heap.size w w1 := (((hbel.alloc hbs _).alloc (base1 hbs _) _).grown hgrow (base1 (base1 hbs _) _) (fun q hq => (hown.lt q hq).1))
                have HO : Hid (w1.ownsRow w.heap.size 9 1 v' (k + 1) (strCells (G ++ [{ data := #[] }]))) := by rw [strCells_snoc]; exact hown'
                clear hown' hgrow hown
                go_wp2
                go_roundw
                case rel => exact ⟨k + 1, G ++ [{ data := #[] }], ⟨#[]⟩, 2, by omega, by go_num, rfl, rfl, by simp [HG.out], by decide, fun _ => rfl, HO.out, hb1, HT.out⟩
                case measure => simp [intOf]; omega
            · have HT0 := Lib.hid (show stepS S 0 ⟨2, m, n⟩ = (S.extract 0 N, S.extract N S.size, 0) by rw [step_k2, ← HN.out]; unfold rawS; rw [if_neg hb])
              have hz4 : (S.extract N S.size).size ≤ 1000 := by rw [ByteArray.size_extract]; omega
              have HZ4 := Lib.hid hz4
              clear hz4
              have HT := Lib.hid (HRun.out (S.extract 0 N) (S.extract N S.size) 0 (by exact HT0.out))
              clear HRun
              go_wp2_with (first
                | (at_builtin; refine wpList_append_own _ rfl _ _ 35 rfl w.heap.size 9 i0 (.string { data := #[] }) 1 16 Try.underlying35 hi hz0 hz1 hz2 rfl (by decide) _ _ _ rfl ((hown.alloc _).alloc _) ⟨wr.heap.size + 1, 0, none⟩ 1 1 [.string (S.extract 0 N)] rfl rfl (one_new _ _ _ _ (World.size_alloc _ _).symm) (one_str _) hm3 hm4 (base1 (base1 hbs _) _) ?_))
              · intro v' w1 hown' hgrow _
                have hb1 : Below w.heap.size w w1 := (((hbel.alloc hbs _).alloc (base1 hbs _) _).grown hgrow (base1 (base1 hbs _) _) (fun q hq => (hown.lt q hq).1))
                have HO : Hid (w1.ownsRow w.heap.size 9 1 v' (k + 1) (strCells (G ++ [(S.extract 0 N)]))) := by rw [strCells_snoc]; exact hown'
                clear hown' hgrow hown
                go_wp2
                go_roundw
                case rel => exact ⟨k + 1, G ++ [(S.extract 0 N)], (S.extract N S.size), 0, by omega, by go_num, rfl, rfl, by simp [HG.out], HZ4.out, fun h => absurd rfl h, HO.out, hb1, HT.out⟩
                case measure => simp [intOf]; omega
          · have HT := Lib.hid (HRun.out { data := #[] } ⟨#[]⟩ 13 (by rw [step_k3]; rfl))
            clear HRun
            go_wp2_with (first
              | (at_builtin; refine wpList_append_own _ rfl _ _ 35 rfl w.heap.size 9 i0 (.string { data := #[] }) 1 16 Try.underlying35 hi hz0 hz1 hz2 rfl (by decide) _ _ _ rfl ((hown.alloc _).alloc _) ⟨wr.heap.size + 1, 0, none⟩ 1 1 [.string { data := #[] }] rfl rfl (one_new _ _ _ _ (World.size_alloc _ _).symm) (one_str _) hm3 hm4 (base1 (base1 hbs _) _) ?_))
            · intro v' w1 hown' hgrow _
              have hb1 : Below w.heap.size w w1 := (((hbel.alloc hbs _).alloc (base1 hbs _) _).grown hgrow (base1 (base1 hbs _) _) (fun q hq => (hown.lt q hq).1))
              have HO : Hid (w1.ownsRow w.heap.size 9 1 v' (k + 1) (strCells (G ++ [{ data := #[] }]))) := by rw [strCells_snoc]; exact hown'
              clear hown' hgrow hown
              go_wp2
              go_roundw
              case rel => exact ⟨k + 1, G ++ [{ data := #[] }], ⟨#[]⟩, 13, by omega, by go_num, rfl, rfl, by simp [HG.out], by decide, fun _ => rfl, HO.out, hb1, HT.out⟩
              case measure => simp [intOf]; omega
        · obtain rfl := HE.out hE0
          have e1 := nat_eq0 (show 0 < E by omega)
          have e2 := nat_ne0 (show 0 < E by omega)
          obtain rfl | rfl | rfl | rfl : kk = 0 ∨ kk = 1 ∨ kk = 2 ∨ kk = 3 := by omega
          · have CN := Lib.hid refNum0
            have HT0 := Lib.hid (step_err0 hE0 m n)
            generalize ByteArray.mk (Var.num 0).toArray = Z at *
            have HT := Lib.hid (HRun.out Z ⟨#[]⟩ E (by exact HT0.out))
            clear HRun
            go_wp2_with (first
              | (go_at_call 13; ((with_reducible refine (CN.out _).mono ?_); rintro e1 w2 ⟨rfl, hb2⟩; have hz3 := Nat.le_trans (base1 hbs _) hb2.size; obtain ⟨q0, q1, q2⟩ := p_cells hb2))
              | (at_builtin; refine wpList_append_own _ rfl _ _ 35 rfl w.heap.size 9 i0 (.string { data := #[] }) 1 16 Try.underlying35 hi hz0 hz1 hz2 rfl (by decide) _ _ _ rfl ((own_below (hown.alloc _) hb2).alloc _) ⟨w2.heap.size, 0, none⟩ 1 1 [.string Z] rfl rfl (one_new _ _ _ _ rfl) (one_str _) hm3 hm4 (base1 hz3 _) ?_))
            · intro v' w1 hown' hgrow _
              have hb1 : Below w.heap.size w w1 := ((((hbel.alloc hbs _).trans (hb2.mono (base1 hbs _))).alloc hz3 _).grown hgrow (base1 hz3 _) (fun q hq => (hown.lt q hq).1))
              have HO : Hid (w1.ownsRow w.heap.size 9 1 v' (k + 1) (strCells (G ++ [Z]))) := by rw [strCells_snoc]; exact hown'
              clear hown' hgrow hown
              go_wp2
              go_roundw
              case rel => exact ⟨k + 1, G ++ [Z], ⟨#[]⟩, E, by omega, by go_num, rfl, rfl, by simp [HG.out], by decide, fun _ => rfl, HO.out, hb1, HT.out⟩
              case measure => simp [intOf]; omega
          · have HT := Lib.hid (HRun.out { data := #[] } ⟨#[]⟩ E (by exact step_err hE0 1 m n (by decide)))
            clear HRun
            go_wp2_with (first
              | (at_builtin; refine wpList_append_own _ rfl _ _ 35 rfl w.heap.size 9 i0 (.string { data := #[] }) 1 16 Try.underlying35 hi hz0 hz1 hz2 rfl (by decide) _ _ _ rfl ((hown.alloc _).alloc _) ⟨wr.heap.size + 1, 0, none⟩ 1 1 [.string { data := #[] }] rfl rfl (one_new _ _ _ _ (World.size_alloc _ _).symm) (one_str _) hm3 hm4 (base1 (base1 hbs _) _) ?_))
            · intro v' w1 hown' hgrow _
              have hb1 : Below w.heap.size w w1 := (((hbel.alloc hbs _).alloc (base1 hbs _) _).grown hgrow (base1 (base1 hbs _) _) (fun q hq => (hown.lt q hq).1))
              have HO : Hid (w1.ownsRow w.heap.size 9 1 v' (k + 1) (strCells (G ++ [{ data := #[] }]))) := by rw [strCells_snoc]; exact hown'
              clear hown' hgrow hown
              go_wp2
              go_roundw
              case rel => exact ⟨k + 1, G ++ [{ data := #[] }], ⟨#[]⟩, E, by omega, by go_num, rfl, rfl, by simp [HG.out], by decide, fun _ => rfl, HO.out, hb1, HT.out⟩
              case measure => simp [intOf]; omega
          · have HT := Lib.hid (HRun.out { data := #[] } ⟨#[]⟩ E (by exact step_err hE0 2 m n (by decide)))
            clear HRun
            go_wp2_with (first
              | (at_builtin; refine wpList_append_own _ rfl _ _ 35 rfl w.heap.size 9 i0 (.string { data := #[] }) 1 16 Try.underlying35 hi hz0 hz1 hz2 rfl (by decide) _ _ _ rfl ((hown.alloc _).alloc _) ⟨wr.heap.size + 1, 0, none⟩ 1 1 [.string { data := #[] }] rfl rfl (one_new _ _ _ _ (World.size_alloc _ _).symm) (one_str _) hm3 hm4 (base1 (base1 hbs _) _) ?_))
            · intro v' w1 hown' hgrow _
              have hb1 : Below w.heap.size w w1 := (((hbel.alloc hbs _).alloc (base1 hbs _) _).grown hgrow (base1 (base1 hbs _) _) (fun q hq => (hown.lt q hq).1))
              have HO : Hid (w1.ownsRow w.heap.size 9 1 v' (k + 1) (strCells (G ++ [{ data := #[] }]))) := by rw [strCells_snoc]; exact hown'
              clear hown' hgrow hown
              go_wp2
              go_roundw
              case rel => exact ⟨k + 1, G ++ [{ data := #[] }], ⟨#[]⟩, E, by omega, by go_num, rfl, rfl, by simp [HG.out], by decide, fun _ => rfl, HO.out, hb1, HT.out⟩
              case measure => simp [intOf]; omega
          · have HT := Lib.hid (HRun.out { data := #[] } ⟨#[]⟩ E (by exact step_err hE0 3 m n (by decide)))
            clear HRun
            go_wp2_with (first
              | (at_builtin; refine wpList_append_own _ rfl _ _ 35 rfl w.heap.size 9 i0 (.string { data := #[] }) 1 16 Try.underlying35 hi hz0 hz1 hz2 rfl (by decide) _ _ _ rfl ((hown.alloc _).alloc _) ⟨wr.heap.size + 1, 0, none⟩ 1 1 [.string { data := #[] }] rfl rfl (one_new _ _ _ _ (World.size_alloc _ _).symm) (one_str _) hm3 hm4 (base1 (base1 hbs _) _) ?_))
            · intro v' w1 hown' hgrow _
              have hb1 : Below w.heap.size w w1 := (((hbel.alloc hbs _).alloc (base1 hbs _) _).grown hgrow (base1 (base1 hbs _) _) (fun q hq => (hown.lt q hq).1))
              have HO : Hid (w1.ownsRow w.heap.size 9 1 v' (k + 1) (strCells (G ++ [{ data := #[] }]))) := by rw [strCells_snoc]; exact hown'
              clear hown' hgrow hown
              go_wp2
              go_roundw
              case rel => exact ⟨k + 1, G ++ [{ data := #[] }], ⟨#[]⟩, E, by omega, by go_num, rfl, rfl, by simp [HG.out], by decide, fun _ => rfl, HO.out, hb1, HT.out⟩
              case measure => simp [intOf]; omega
    · have HD := Lib.hid (run_done (by omega) hrun)
      have hkk : k = ps.length := by omega
      have HO : Hid (wr.ownsRow w.heap.size 9 1 u7 ps.length (strCells G)) := by rw [← hkk]; exact hown
      clear hrun hE hG HP HK HA hown hkk
      go_wp2
      go_ret3
      rw [HD.out]
      exact ⟨_, rfl, HO.out, hbel⟩
end V
end Go.Proofs.Ytkeapapkigmdoaa
