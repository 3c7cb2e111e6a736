/-
  What the document's own New does (layer 5).
-/
import Derived.Test.YtojbanknbgihgaaDiskFlush
import Derived.Deep.AppendLies
namespace Go.Proofs.Ytojbanknbgihgaa
open Go.RowKit
namespace Dsk
open B

def zero : ByteArray := fill ⟨#[]⟩
def new (n : Nat) : D := ⟨List.replicate n zero, List.replicate n zero, [], 0, -1, false⟩
def rep (k : Nat) : List Value := (List.replicate k zero).map vStr
theorem rep_succ (k : Nat) : rep (k + 1) = rep k ++ [.string (fill ⟨#[]⟩)] := by
  unfold rep; rw [List.replicate_succ', List.map_append]; rfl

set_option maxRecDepth 50000 in
set_option maxHeartbeats 2000000 in
theorem refNew_any {p : Nat → Prop} (n : Nat) (w : World) (hn : n ≤ 100000) (hp : ∀ n, w.heap.size ≤ n → p n) :
    Calls Try.prog 9 #[.int .i64 (n : Int)] w fun e w' => ∃ v, e = .returned v ∧ Is p w' v (new n) ∧ Below w.heap.size w w' := by
  obtain ⟨i0, hi, hz0, hz1, hz2⟩ := info_parts info9
  have HPP := Lib.hid hp
  clear hp
  have CF := Lib.hid (fun W => refFill_any ⟨#[]⟩ W (by decide))
  have bW : ∀ o p : Obj, Below w.heap.size w ((w.alloc o).alloc p) := fun o p => ((Below.refl _ w).alloc (Nat.le_refl _) o).alloc (by simp) p
  go_enter Try.func9, Try.ntmps9
  go_wp2_with (go_at_call 21; ((with_reducible refine (CF.out _).mono ?_); rintro e1 w0 ⟨rfl, hb0⟩))
  have K0 := blk_below (hp_old _ (heap_last w _ _ rfl)) hb0 (by simp; omega)
  have K1 := blk_below (heap_last (w.alloc _) _ (w.heap.size + 1) (by simp)) hb0 (by simp)
  have B0 := (bW _ _).trans (hb0.mono (bW _ _).size)
  have HK0 := Lib.hid K0
  have HK1 := Lib.hid K1
  have HB0 := Lib.hid B0
  clear hb0 bW K0 K1 B0 CF
  go_loopw [5] (fun t wr => ∃ (k : Nat) (va vb : Value), k ≤ n ∧ t = .int .i64 (k : Int) ∧ wr.heap[w.heap.size]? = some (.cells #[.slice none 0 0, .slice none 0 0, .slice none 0 0, .int .i64 0, .int .i64 0, .bool false] 29) ∧
    wr.heap[w.heap.size + 1]? = some (.cells #[va, vb, .slice none 0 0, .int .i64 0, .int .i64 (-1), .bool false] 29) ∧ wr.ownsRow (w.heap.size + 2) 9 1 va k (rep k) ∧ wr.ownsRow (w.heap.size + 2) 9 1 vb k (rep k) ∧
    (∀ x, va.ownBlock = some x → vb.ownBlock ≠ some x) ∧ Below w.heap.size w wr) (fun t _ => n - (intOf t).toNat)
  case atStart => exact ⟨0, .slice none 0 0, .slice none 0 0, Nat.zero_le _, rfl, HK0.out, HK1.out, ⟨rfl, .inl ⟨rfl, rfl⟩⟩, ⟨rfl, .inl ⟨rfl, rfl⟩⟩, (fun x hx => by cases hx), HB0.out⟩
  case round =>
    obtain ⟨k, va, vb, hk, rfl, K0, K1, Oa, Ob, dj, hb⟩ := hrel
    have hbs := hb.size
    have l0 := blk_lt K1
    have hm3 : k + 1 ≤ maxLen := by unfold maxLen; omega
    have hm4 : (k + 1) * 16 ≤ 140737488355328 := by omega
    obtain ⟨k10, k11, k12, k13, k14, k15, f10, f11, f12, f13, f14, f15⟩ := row6 K1
    by_cases hlt : k < n
    · have hki : (k : Int) < (n : Int) := by omega
      go_wp2_with (at_builtin; refine wpList_append_lies _ rfl _ _ 26 rfl (w.heap.size + 2) 9 i0 (.string ⟨#[]⟩) 1 16 Try.underlying26 hi hz0 hz1 hz2 rfl (by decide) _ k _ rfl (Oa.alloc _) ⟨wr.heap.size, 0, none⟩ 1 1 [.string (fill ⟨#[]⟩)] rfl rfl (one_new _ _ _ _ (by simp)) (one_str _) (by decide) hm3 hm4 (by simp; omega) (wr.heap.size + 1) (by simp) ?_)
      intro ga ca w1 own1 grow1 lies1 lt1
      have K0a := grown_block grow1 (hp_old _ K0) (fun e => by have := (Oa.lt _ e.symm).1; omega)
      have K1a := grown_block grow1 (hp_old _ K1) (fun e => by have := (Oa.lt _ e.symm).1; omega)
      have Oba : w1.ownsRow (w.heap.size + 2) 9 1 vb k (rep k) := (Ob.alloc _).kept grow1 (by
        cases hv : vb.ownBlock with
        | none => exact .inl rfl
        | some x => exact .inr (fun e => dj x e.symm hv))
      have hb1 : Below w.heap.size w w1 := (hb.alloc hbs _).grown grow1 (base1 hbs _) (fun r hr => by have := (Oa.lt r hr).1; omega)
      have dj1 : vb.ownBlock ≠ some ga := by
        rcases lies1 with h | h
        · exact dj ga h
        · intro e
          have := (Ob.lt ga e).2
          omega
      have hsz := hb1.size
      have Obb := ownsRow_setCell_below (a := ⟨w.heap.size + 1, 0, none⟩) Oba (by simp) (.slice (some ⟨ga, 0, none⟩) (k + 1) ca)
      have l1 := blk_lt K1a
      clear k10 k11 k12 k13 k14 k15 f10 f11 f12 f13 f14 f15 K0 K1 Oa Ob dj hb hbs l0 lies1 grow1 Oba
      obtain ⟨k10, k11, k12, k13, k14, k15, f10, f11, f12, f13, f14, f15⟩ := row6 K1a
      have H1 := Lib.hid own1
      have H2 := Lib.hid K0a
      have H3 := Lib.hid K1a
      clear own1 K0a K1a
      go_wp2_with (at_builtin; refine wpList_append_lies _ rfl _ _ 26 rfl (w.heap.size + 2) 9 i0 (.string ⟨#[]⟩) 1 16 Try.underlying26 hi hz0 hz1 hz2 rfl (by decide) _ k _ rfl (Obb.alloc _) ⟨w1.heap.size, 0, none⟩ 1 1 [.string (fill ⟨#[]⟩)] rfl rfl (one_new _ _ _ _ (by simp)) (one_str _) (by decide) hm3 hm4 (by simp; omega) (w1.heap.size + 1) (by simp) ?_)
      intro gb cb w2 own2 grow2 lies2 lt2
      have K0b := grown_block grow2 (hp_old _ (blk_other H2.out (by omega) _)) (fun e => by have := (Obb.lt _ e.symm).1; omega)
      have K1b := grown_block grow2 (hp_old _ (blk_set H3.out 0 _)) (fun e => by have := (Obb.lt _ e.symm).1; omega)
      have Oa2 := ((ownsRow_setCell_below (a := ⟨w.heap.size + 1, 0, none⟩) H1.out (by simp) (.slice (some ⟨ga, 0, none⟩) (k + 1) ca)).alloc (.cells #[.string (fill ⟨#[]⟩)] 9)).kept grow2 (.inr (fun e => dj1 e.symm))
      have hb2 : Below w.heap.size w w2 := ((hb1.setCell (p := ⟨w.heap.size + 1, 0, none⟩) (by simp) _).alloc (by simpa using hsz) _).grown grow2 (by simp; omega) (fun r hr => by have := (Obb.lt r hr).1; omega)
      have dj2 : ga ≠ gb := by
        rcases lies2 with h | h
        · intro e; subst e; exact dj1 h
        · omega
      have l2 := blk_lt K1b
      clear k10 k11 k12 k13 k14 k15 f10 f11 f12 f13 f14 f15 H1 H2 H3 Obb dj1 lies2 grow2 hb1 hsz
      have K1c : w2.heap[w.heap.size + 1]? = some (.cells #[.slice (some ⟨ga, 0, none⟩) (k + 1) ca, vb, .slice none 0 0, .int .i64 0, .int .i64 (-1), .bool false] 29) := K1b
      obtain ⟨k10, k11, k12, k13, k14, k15, f10, f11, f12, f13, f14, f15⟩ := row6 K1c
      have H1 := Lib.hid own2
      have H2 := Lib.hid K0b
      have H3 := Lib.hid K1c
      have H4 := Lib.hid Oa2
      have H5 := Lib.hid hb2
      have H6 := Lib.hid dj2
      clear own2 K0b K1b K1c Oa2 hb2 dj2
      go_wp2
      go_roundw
      case rel =>
        refine ⟨k + 1, .slice (some ⟨ga, 0, none⟩) (k + 1) ca, .slice (some ⟨gb, 0, none⟩) (k + 1) cb, by omega, by go_num, blk_other H2.out (by omega) _, blk_set H3.out 1 _, ?_, ?_, ?_, H5.out.setCell (by simp) _⟩
        · rw [rep_succ]; exact ownsRow_setCell_below (a := ⟨w.heap.size + 1, 1, none⟩) H4.out (by simp) _
        · rw [rep_succ]; exact ownsRow_setCell_below (a := ⟨w.heap.size + 1, 1, none⟩) H1.out (by simp) _
        · intro x hx e
          have h1 : ga = x := Option.some.inj hx
          have h2 : gb = x := Option.some.inj e
          exact H6.out (h1.trans h2.symm)
      case measure => simp [intOf]; omega
    · have hkn : k = n := by omega
      have HN := Lib.hid hkn
      clear hkn hm3 hm4 HK0 HK1 HB0
      obtain ⟨Aa, ca, hva, x1, x2, na⟩ := own_at (V := vStr) (l := List.replicate k zero) Oa
      obtain ⟨Ab, cb, hvb, y1, y2, nb⟩ := own_at (V := vStr) (l := List.replicate k zero) Ob
      rw [List.length_replicate] at hva hvb
      subst hva hvb
      have Na := Lib.hid na
      have Nb := Lib.hid nb
      clear na nb x1 x2 y1 y2
      obtain ⟨k00, k01, k02, k03, k04, k05, f00, f01, f02, f03, f04, f05⟩ := row6 K0
      have H1 := Lib.hid Oa
      have H2 := Lib.hid Ob
      have H3 := Lib.hid hb
      clear K0 K1 Oa Ob dj hb
      go_wp2
      (try simp only [Exit.inBlock, Exit.then])
      refine bodyPost_ret (results_cells rfl _ _ w.heap.size [.slice Aa k ca, .slice Ab k cb, .slice none 0 0, .int .i64 0, .int .i64 (-1), .bool false] _ rfl ?_ Try.underlying29 disk_info) rfl ?_
      · refine six ?_ ?_ ?_ ?_ ?_ ?_ <;> go_simp
      · rw [← HN.out]
        refine ⟨_, rfl, ⟨Aa, ca, Ab, cb, none, 0, ?_, own_at' (B := w.heap.size + 2) (e := 9) (m := k) (c := ca) (n := k) ?_, own_at' (B := w.heap.size + 2) (e := 9) (m := k) (c := cb) (n := k) ?_, At.nil _ _, Na.out, Nb.out, (fun _ => rfl), (fun _ a ha => HPP.out _ (by have := own_from H1.out a ha; omega)), (fun _ a ha => HPP.out _ (by have := own_from H2.out a ha; omega)), fun _ a ha => by cases ha⟩, ?_⟩
        · show dval _ _ _ _ _ _ = dval (.slice Aa (List.replicate k zero).length ca) (.slice Ab (List.replicate k zero).length cb) _ _ _ _
          rw [List.length_replicate]; rfl
        · repeat (refine ownsRow_setCell_below ?_ (by simp) _)
          exact H1.out
        · repeat (refine ownsRow_setCell_below ?_ (by simp) _)
          exact H2.out
        · repeat (refine Below.setCell ?_ (by simp) _)
          exact H3.out
end Dsk
end Go.Proofs.Ytojbanknbgihgaa
