/-
  Node: Check; one entry's bytes; Pack, Size, Fits.
-/
import Derived.Test.YtjikioiejdfodaaNodeEven
namespace Go.Proofs.Ytjikioiejdfodaa
open Go.RowKit
namespace Nod
open B V

/-- as many entries as a walk bears -/
structure Sm (n : N) : Prop where
  k : n.keys.length ≤ 1000000
  v : n.vals.length ≤ 1000000
  c : n.kids.length ≤ 1000000
set_option maxHeartbeats 4000000 in
theorem check_any (A1 A2 A3 : Option Addr) (c1 c2 c3 : Nat) (n : N) (w : World) (h : NAt w A1 A2 A3 n) (hl : Sm n) :
    Calls Try.prog 30 #[nv A1 A2 A3 c1 c2 c3 n] w fun e w' => e = .returned (.int .i64 (if check n then 0 else 1)) ∧ Below w.heap.size w w' := by
  have CE := Lib.hid (fun W => even_any A1 A2 A3 c1 c2 c3 n W ⟨hl.k, hl.v, hl.c⟩)
  have CR := Lib.hid (fun W (q : Below w.heap.size w W) => rise_any A1 n.keys c1 W (h.k.below q) hl.k)
  have CK := Lib.hid (fun W (q : Below w.heap.size w W) => alls_any 57 mayKey eKey mayKey_any A1 n.keys c1 W (h.k.below q) hl.k)
  have CV := Lib.hid (fun W (q : Below w.heap.size w W) => alls_any 58 mayVal eVal mayVal_any A2 n.vals c2 W (h.v.below q) hl.v)
  have CP := Lib.hid (fun W (q : Below w.heap.size w W) => alli_any 60 mayPage ePage mayPage_any A3 n.kids c3 W (h.c.below q) hl.c)
  unfold check
  unfold nv at *
  have BX := Lib.hid (bx_new w (.int .i64 n.kind) (.slice A1 n.keys.length c1) (.slice A2 n.vals.length c2) (.slice A3 n.kids.length c3) 57)
  have bA := below1 w (.cells #[.int .i64 n.kind, .slice A1 n.keys.length c1, .slice A2 n.vals.length c2, .slice A3 n.kids.length c3] 57)
  generalize even n = b1 at *
  generalize decide (Rise n.keys) = b2 at *
  generalize n.keys.all mayKey = b3 at *
  generalize n.vals.all mayVal = b4 at *
  generalize n.kids.all mayPage = b5 at *
  clear h hl
  cases b1 with
  | false =>
    rw [show (if (false && b2 && b3 && b4 && b5) = true then (0 : Int) else 1) = 1 by simp]
    go_enter Try.func30, Try.ntmps30
    go_wp2_with (first
      | (go_at_call 54; ((with_reducible refine (CE.out _).mono ?_); rintro e w1 ⟨rfl, hb1⟩; have q1 := bA.trans (hb1.mono bA.size); obtain ⟨k0, k1, k2, k3⟩ := (BX.out.below hb1).p; clear hb1))
      | (go_at_call 55; ((with_reducible refine (CR.out _ q1).mono ?_); rintro e w2 ⟨rfl, m, rfl⟩; have q2 := below_drewN q1 m))
      | (go_at_call_of 56 (Value.slice A1 n.keys.length c1); ((with_reducible refine (CK.out _ q2).mono ?_); rintro e w' ⟨rfl, rfl⟩))
      | (go_at_call_of 56 (Value.slice A2 n.vals.length c2); ((with_reducible refine (CV.out _ q2).mono ?_); rintro e w' ⟨rfl, rfl⟩))
      | (go_at_call 59; ((with_reducible refine (CP.out _ q2).mono ?_); rintro e w' ⟨rfl, rfl⟩)))
    go_ret
    exact ⟨rfl, q1⟩
  | true =>
    cases b2 with
    | false =>
      rw [show (if (true && false && b3 && b4 && b5) = true then (0 : Int) else 1) = 1 by simp]
      go_enter Try.func30, Try.ntmps30
      go_wp2_with (first
        | (go_at_call 54; ((with_reducible refine (CE.out _).mono ?_); rintro e w1 ⟨rfl, hb1⟩; have q1 := bA.trans (hb1.mono bA.size); obtain ⟨k0, k1, k2, k3⟩ := (BX.out.below hb1).p; clear hb1))
        | (go_at_call 55; ((with_reducible refine (CR.out _ q1).mono ?_); rintro e w2 ⟨rfl, m, rfl⟩; have q2 := below_drewN q1 m))
        | (go_at_call_of 56 (Value.slice A1 n.keys.length c1); ((with_reducible refine (CK.out _ q2).mono ?_); rintro e w' ⟨rfl, rfl⟩))
        | (go_at_call_of 56 (Value.slice A2 n.vals.length c2); ((with_reducible refine (CV.out _ q2).mono ?_); rintro e w' ⟨rfl, rfl⟩))
        | (go_at_call 59; ((with_reducible refine (CP.out _ q2).mono ?_); rintro e w' ⟨rfl, rfl⟩)))
      go_ret
      exact ⟨rfl, q2⟩
    | true =>
      cases b3 with
      | false =>
        rw [show (if (true && true && false && b4 && b5) = true then (0 : Int) else 1) = 1 by simp]
        go_enter Try.func30, Try.ntmps30
        go_wp2_with (first
          | (go_at_call 54; ((with_reducible refine (CE.out _).mono ?_); rintro e w1 ⟨rfl, hb1⟩; have q1 := bA.trans (hb1.mono bA.size); obtain ⟨k0, k1, k2, k3⟩ := (BX.out.below hb1).p; clear hb1))
          | (go_at_call 55; ((with_reducible refine (CR.out _ q1).mono ?_); rintro e w2 ⟨rfl, m, rfl⟩; have q2 := below_drewN q1 m))
          | (go_at_call_of 56 (Value.slice A1 n.keys.length c1); ((with_reducible refine (CK.out _ q2).mono ?_); rintro e w' ⟨rfl, rfl⟩))
          | (go_at_call_of 56 (Value.slice A2 n.vals.length c2); ((with_reducible refine (CV.out _ q2).mono ?_); rintro e w' ⟨rfl, rfl⟩))
          | (go_at_call 59; ((with_reducible refine (CP.out _ q2).mono ?_); rintro e w' ⟨rfl, rfl⟩)))
        go_ret
        exact ⟨rfl, q2⟩
      | true =>
        cases b4 with
        | false =>
          rw [show (if (true && true && true && false && b5) = true then (0 : Int) else 1) = 1 by simp]
          go_enter Try.func30, Try.ntmps30
          go_wp2_with (first
            | (go_at_call 54; ((with_reducible refine (CE.out _).mono ?_); rintro e w1 ⟨rfl, hb1⟩; have q1 := bA.trans (hb1.mono bA.size); obtain ⟨k0, k1, k2, k3⟩ := (BX.out.below hb1).p; clear hb1))
            | (go_at_call 55; ((with_reducible refine (CR.out _ q1).mono ?_); rintro e w2 ⟨rfl, m, rfl⟩; have q2 := below_drewN q1 m))
            | (go_at_call_of 56 (Value.slice A1 n.keys.length c1); ((with_reducible refine (CK.out _ q2).mono ?_); rintro e w' ⟨rfl, rfl⟩))
            | (go_at_call_of 56 (Value.slice A2 n.vals.length c2); ((with_reducible refine (CV.out _ q2).mono ?_); rintro e w' ⟨rfl, rfl⟩))
            | (go_at_call 59; ((with_reducible refine (CP.out _ q2).mono ?_); rintro e w' ⟨rfl, rfl⟩)))
          go_ret
          exact ⟨rfl, q2⟩
        | true =>
          cases b5 with
          | false =>
            rw [show (if (true && true && true && true && false) = true then (0 : Int) else 1) = 1 by simp]
            go_enter Try.func30, Try.ntmps30
            go_wp2_with (first
              | (go_at_call 54; ((with_reducible refine (CE.out _).mono ?_); rintro e w1 ⟨rfl, hb1⟩; have q1 := bA.trans (hb1.mono bA.size); obtain ⟨k0, k1, k2, k3⟩ := (BX.out.below hb1).p; clear hb1))
              | (go_at_call 55; ((with_reducible refine (CR.out _ q1).mono ?_); rintro e w2 ⟨rfl, m, rfl⟩; have q2 := below_drewN q1 m))
              | (go_at_call_of 56 (Value.slice A1 n.keys.length c1); ((with_reducible refine (CK.out _ q2).mono ?_); rintro e w' ⟨rfl, rfl⟩))
              | (go_at_call_of 56 (Value.slice A2 n.vals.length c2); ((with_reducible refine (CV.out _ q2).mono ?_); rintro e w' ⟨rfl, rfl⟩))
              | (go_at_call 59; ((with_reducible refine (CP.out _ q2).mono ?_); rintro e w' ⟨rfl, rfl⟩)))
            go_ret
            exact ⟨rfl, q2⟩
          | true =>
            rw [show (if (true && true && true && true && true) = true then (0 : Int) else 1) = 0 by simp]
            go_enter Try.func30, Try.ntmps30
            go_wp2_with (first
              | (go_at_call 54; ((with_reducible refine (CE.out _).mono ?_); rintro e w1 ⟨rfl, hb1⟩; have q1 := bA.trans (hb1.mono bA.size); obtain ⟨k0, k1, k2, k3⟩ := (BX.out.below hb1).p; clear hb1))
              | (go_at_call 55; ((with_reducible refine (CR.out _ q1).mono ?_); rintro e w2 ⟨rfl, m, rfl⟩; have q2 := below_drewN q1 m))
              | (go_at_call_of 56 (Value.slice A1 n.keys.length c1); ((with_reducible refine (CK.out _ q2).mono ?_); rintro e w' ⟨rfl, rfl⟩))
              | (go_at_call_of 56 (Value.slice A2 n.vals.length c2); ((with_reducible refine (CV.out _ q2).mono ?_); rintro e w' ⟨rfl, rfl⟩))
              | (go_at_call 59; ((with_reducible refine (CP.out _ q2).mono ?_); rintro e w' ⟨rfl, rfl⟩)))
            go_ret
            exact ⟨rfl, q2⟩

set_option maxHeartbeats 1000000 in
theorem picki_any (A : Option Addr) (l : List Int) (c : Nat) (i : Nat) (w : World) (h : At vInt w A l) (hi : i ≤ 1000000) :
    Calls Try.prog 88 #[.slice A l.length c, .int .i64 (i : Int)] w fun e w' => e = .returned (.int .i64 (l.getD i 0)) ∧ w = w' := by
  by_cases hin : i < l.length
  · have hI : (i : Int) < (l.length : Int) := by omega
    obtain ⟨b, off, hA, hb, hc⟩ := h (by omega)
    subst hA
    have c0 : w.cell? ⟨b, off + i, none⟩ = some (.int .i64 l[i]) := hc i hin
    have e : l.getD i 0 = l[i] := by rw [List.getD_eq_getElem?_getD, List.getElem?_eq_getElem hin]; rfl
    rw [e]
    clear hc h e
    generalize l[i] = x at *
    go_enter Try.func88, Try.ntmps88
    go_wp2
    go_ret
    exact ⟨rfl, rfl⟩
  · have hI : ¬ (i : Int) < (l.length : Int) := by omega
    have e : l.getD i 0 = 0 := by rw [List.getD_eq_getElem?_getD, List.getElem?_eq_none (by omega)]; rfl
    rw [e]
    clear h e
    go_enter Try.func88, Try.ntmps88
    go_wp2
    go_ret
    exact ⟨rfl, rfl⟩
set_option maxHeartbeats 1000000 in
theorem picks_any (A : Option Addr) (l : List ByteArray) (c : Nat) (i : Nat) (w : World) (h : At vStr w A l) (hi : i ≤ 1000000) :
    Calls Try.prog 89 #[.slice A l.length c, .int .i64 (i : Int)] w fun e w' => e = .returned (.string (l.getD i ⟨#[]⟩)) ∧ w = w' := by
  by_cases hin : i < l.length
  · have hI : (i : Int) < (l.length : Int) := by omega
    obtain ⟨b, off, hA, hb, hc⟩ := h (by omega)
    subst hA
    have c0 : w.cell? ⟨b, off + i, none⟩ = some (.string l[i]) := hc i hin
    have e : l.getD i ⟨#[]⟩ = l[i] := by rw [List.getD_eq_getElem?_getD, List.getElem?_eq_getElem hin]; rfl
    rw [e]
    clear hc h e
    generalize l[i] = x at *
    go_enter Try.func89, Try.ntmps89
    go_wp2
    go_ret
    exact ⟨rfl, rfl⟩
  · have hI : ¬ (i : Int) < (l.length : Int) := by omega
    have e : l.getD i ⟨#[]⟩ = ⟨#[]⟩ := by rw [List.getD_eq_getElem?_getD, List.getElem?_eq_none (by omega)]; rfl
    rw [e]
    clear h e
    go_enter Try.func89, Try.ntmps89
    go_wp2
    go_ret
    exact ⟨rfl, rfl⟩

/-- what keeps an entry's bytes few -/
structure Fine (n : N) : Prop where
  kd : n.kind = 1 ∨ n.kind = 2
  key : ∀ k ∈ n.keys, k.size ≤ 1000
  val : ∀ v ∈ n.vals, v.size ≤ 1000
  kid : ∀ p ∈ n.kids, 0 ≤ p ∧ p ≤ 2147483647
theorem Ok.fine {n : N} (h : Ok n) : Fine n := ⟨by rcases h.ev with h | h <;> simp [h.1], fun k hk => by have := h.key k hk; omega, fun k hk => by have := h.val k hk; omega, h.kid⟩
theorem getD_mem {α : Type} {l : List α} {i : Nat} {z : α} (h : i < l.length) : l.getD i z ∈ l := by rw [List.getD_eq_getElem?_getD, List.getElem?_eq_getElem h]; exact List.getElem_mem _
theorem getD_out {α : Type} {l : List α} {i : Nat} {z : α} (h : ¬ i < l.length) : l.getD i z = z := by rw [List.getD_eq_getElem?_getD, List.getElem?_eq_none (by omega)]; rfl
theorem Fine.key' {n : N} (h : Fine n) (i : Nat) : (n.keys.getD i ⟨#[]⟩).size ≤ 1000 := by
  by_cases hi : i < n.keys.length
  · exact h.key _ (getD_mem hi)
  · rw [getD_out hi]; show 0 ≤ 1000; omega
theorem Fine.val' {n : N} (h : Fine n) (i : Nat) : (n.vals.getD i ⟨#[]⟩).size ≤ 1000 := by
  by_cases hi : i < n.vals.length
  · exact h.val _ (getD_mem hi)
  · rw [getD_out hi]; show 0 ≤ 1000; omega
theorem Fine.kid' {n : N} (h : Fine n) (i : Nat) : 0 ≤ n.kids.getD i 0 ∧ n.kids.getD i 0 ≤ 2147483647 := by
  by_cases hi : i < n.kids.length
  · exact h.kid _ (getD_mem hi)
  · rw [getD_out hi]; omega
def entB (n : N) (i : Nat) : ByteArray := ⟨(ent n i).toArray⟩
theorem txt_len {s : ByteArray} (h : s.size < 18446744073709551616) : (txt s).length ≤ 10 + s.size := by unfold txt; rw [List.length_append, size_data]; have := Var.num_ten s.size h; omega
theorem ent_len {n : N} (h : Fine n) (i : Nat) : (ent n i).length ≤ 3000 := by
  unfold ent
  rw [List.length_append]
  have a := txt_len (s := n.keys.getD i ⟨#[]⟩) (by have := h.key' i; omega)
  have b := txt_len (s := n.vals.getD i ⟨#[]⟩) (by have := h.val' i; omega)
  have c := Var.num_ten (n.kids.getD i 0).toNat (by have := h.kid' i; omega)
  have h1 := h.key' i
  have h2 := h.val' i
  split <;> omega
set_option maxHeartbeats 4000000 in
theorem entry_any (A1 A2 A3 : Option Addr) (c1 c2 c3 : Nat) (n : N) (i : Nat) (w : World) (h : NAt w A1 A2 A3 n) (hl : Sm n) (hf : Fine n) (hi : i < n.keys.length) :
    Calls Try.prog 63 #[nv A1 A2 A3 c1 c2 c3 n, .int .i64 (i : Int)] w fun e w' => e = .returned (.string (entB n i)) ∧ Below w.heap.size w w' := by
  have i6 : i ≤ 1000000 := by have := hl.k; omega
  have CT := Lib.hid (fun s (hs : s.size ≤ 1000) W => text_any s W (by omega))
  have CPi := Lib.hid (fun W (q : Below w.heap.size w W) => picki_any A3 n.kids c3 i W (h.c.below q) i6)
  have CPs := Lib.hid (fun W (q : Below w.heap.size w W) => picks_any A2 n.vals c2 i W (h.v.below q) i6)
  obtain ⟨kk, hkk⟩ : ∃ kk : Nat, n.kids.getD i 0 = (kk : Int) ∧ kk < 18446744073709551616 := ⟨(n.kids.getD i 0).toNat, by have := hf.kid' i; omega, by have := hf.kid' i; omega⟩
  have CN := Lib.hid (fun W => num_any kk W hkk.2)
  have hw : IntKind.u64.wrap (kk : Int) = (kk : Int) := IntWalk.u64_in _ (by omega)
  have hs1 := hf.key' i
  have hs2 := hf.val' i
  have hI : (i : Int) < (n.keys.length : Int) := by omega
  obtain ⟨b, off, hA, hb, hc⟩ := h.k (by omega)
  subst hA
  have e0 : n.keys.getD i ⟨#[]⟩ = n.keys[i] := by rw [List.getD_eq_getElem?_getD, List.getElem?_eq_getElem hi]; rfl
  have c0 : w.cell? ⟨b, off + i, none⟩ = some (.string (n.keys.getD i ⟨#[]⟩)) := by rw [e0]; exact hc i hi
  have HE2 : Hid (n.kind = 2 → textB (n.keys.getD i ⟨#[]⟩) ++ ⟨(Var.num kk).toArray⟩ = entB n i) := fun hk => by
    apply ext_data
    show _ = ent n i
    rw [cat_data, textB_txt]; unfold ent; rw [if_pos hk, hkk.1, Int.toNat_natCast]
  have HE1 : Hid (n.kind ≠ 2 → textB (n.keys.getD i ⟨#[]⟩) ++ textB (n.vals.getD i ⟨#[]⟩) = entB n i) := fun hk => by
    apply ext_data
    show _ = ent n i
    rw [cat_data, textB_txt, textB_txt]; unfold ent; rw [if_neg hk]
  have z1 : (textB (n.keys.getD i ⟨#[]⟩)).size ≤ 1010 := by rw [← size_data, textB_txt]; have := txt_len (s := n.keys.getD i ⟨#[]⟩) (by omega); omega
  have z2 : (textB (n.vals.getD i ⟨#[]⟩)).size ≤ 1010 := by rw [← size_data, textB_txt]; have := txt_len (s := n.vals.getD i ⟨#[]⟩) (by omega); omega
  have z3 : (ByteArray.mk (Var.num kk).toArray).size ≤ 10 := by rw [mk_size]; exact Var.num_ten _ hkk.2
  rw [hkk.1] at CPi
  have bA := below1 w (.cells #[.int .i64 n.kind, .slice (some ⟨b, off, none⟩) n.keys.length c1, .slice A2 n.vals.length c2, .slice A3 n.kids.length c3] 57)
  have BX := Lib.hid (bx_new w (.int .i64 n.kind) (.slice (some ⟨b, off, none⟩) n.keys.length c1) (.slice A2 n.vals.length c2) (.slice A3 n.kids.length c3) 57)
  have hkd := hf.kd
  unfold nv at *
  clear hc h hl hf hkk e0
  have CT1 := Lib.hid (CT.out _ hs1)
  have CT2 := Lib.hid (CT.out _ hs2)
  generalize n.keys.getD i ⟨#[]⟩ = key at *
  generalize n.vals.getD i ⟨#[]⟩ = val at *
  generalize n.keys.length = nk at *
  generalize n.vals.length = nvl at *
  generalize n.kids.length = nc at *
  generalize textB key = tk at *
  generalize textB val = tv at *
  generalize ByteArray.mk (Var.num kk).toArray = tn at *
  generalize n.kind = kd at *
  generalize entB n i = R at *
  have c1' : (w.alloc (.cells #[.int .i64 kd, .slice (some ⟨b, off, none⟩) nk c1, .slice A2 nvl c2, .slice A3 nc c3] 57)).cell? ⟨b, off + i, none⟩ = some (.string key) := (bA.cell (p := ⟨b, off + i, none⟩) hb).trans c0
  rcases hkd with rfl | rfl
  · have HE := HE1.out (by omega)
    subst HE
    go_enter Try.func63, Try.ntmps63
    go_wp2_with (first
      | (go_at_call_of 87 (Value.string key); ((with_reducible refine (CT1.out _).mono ?_); rintro e w1 ⟨rfl, hb1⟩; have q1 := bA.trans (hb1.mono bA.size); obtain ⟨k0, k1, k2, k3⟩ := (BX.out.below hb1).p; clear hb1))
      | (go_at_call 89; ((with_reducible refine (CPs.out _ q1).mono ?_); rintro e w' ⟨rfl, rfl⟩))
      | (go_at_call 87; ((with_reducible refine (CT2.out _).mono ?_); rintro e w2 ⟨rfl, hb2⟩; have q2 := q1.trans (hb2.mono q1.size); clear hb2)))
    go_ret
    exact ⟨rfl, q2⟩
  · have HE := HE2.out rfl
    subst HE
    go_enter Try.func63, Try.ntmps63
    go_wp2_with (first
      | (go_at_call 87; ((with_reducible refine (CT1.out _).mono ?_); rintro e w1 ⟨rfl, hb1⟩; have q1 := bA.trans (hb1.mono bA.size); obtain ⟨k0, k1, k2, k3⟩ := (BX.out.below hb1).p; clear hb1))
      | (go_at_call 88; ((with_reducible refine (CPi.out _ q1).mono ?_); rintro e w' ⟨rfl, rfl⟩))
      | (go_at_call 62; ((with_reducible refine (CN.out _).mono ?_); rintro e w2 ⟨rfl, hb2⟩; have q2 := q1.trans (hb2.mono q1.size); clear hb2)))
    go_ret
    exact ⟨rfl, q2⟩
end Nod
end Go.Proofs.Ytjikioiejdfodaa
