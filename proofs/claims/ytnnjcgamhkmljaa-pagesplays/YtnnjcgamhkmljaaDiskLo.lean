/-
  The program's disk: Loose, Clone.
-/
import Derived.Test.YtnnjcgamhkmljaaDiskWr
import Derived.Test.YtnnjcgamhkmljaaShelf
namespace Go.Proofs.Ytnnjcgamhkmljaa
open Go.RowKit
namespace Dsk
open B

/-- the loose sectors' numbers, sorted: beside call 51 -/
theorem lo_sorted {w : World} {bm n : Nat} {loose : List Int} {M : DataW Unit} (h : w.ownsMap Try.prog 3 elem bm n M) (hh : ∀ k : Int, Maps.has M (.int .i64 k) = loose.contains k) (hr : loose.Pairwise (· < ·)) {ss : List Int} (hp : ss.Perm (intKeys M)) :
    ss.mergeSort (fun x y => decide (x ≤ y)) = loose := by
  have hnd : loose.Nodup := hr.imp fun {a b} h => by omega
  have c : loose.Perm (intKeys M) := CollectedI.perm (left := fun _ => false) ⟨hnd, fun x => by rw [hh]; simp⟩ h ikey Try.underlying3 (fun _ => rfl)
  have tr : ∀ a b c : Int, decide (a ≤ b) = true → decide (b ≤ c) = true → decide (a ≤ c) = true := fun a b c h1 h2 => by simp only [decide_eq_true_eq] at *; omega
  have tot : ∀ a b : Int, (decide (a ≤ b) || decide (b ≤ a)) = true := fun a b => by simp only [Bool.or_eq_true, decide_eq_true_eq]; omega
  exact List.Perm.eq_of_pairwise (le := fun a b => decide (a ≤ b) = true) (fun a b _ _ h1 h2 => by simp only [decide_eq_true_eq] at h1 h2; omega) (List.pairwise_mergeSort tr tot ss) (hr.imp fun {a b} h => by simp only [decide_eq_true_eq]; omega) ((List.mergeSort_perm ss _).trans (hp.trans c.symm))

theorem own_base {w : World} {B B' e z n : Nat} {v : Value} {xs : List Value} (h : w.ownsRow B e z v n xs) (hb : B' ≤ B) : w.ownsRow B' e z v n xs := by
  obtain ⟨h1, h2⟩ := h
  refine ⟨h1, ?_⟩
  rcases h2 with h2 | ⟨g, cap, cur, a, b, r⟩
  · exact .inl h2
  · exact .inr ⟨g, cap, cur, a, Nat.le_trans hb b, r⟩
set_option maxHeartbeats 1000000 in
theorem loose_any (b : Bl) (d : D) (w : World) (h : DAt w b d) (hi : Inv d) :
    Calls Try.prog 38 #[.pointer (some ⟨b.g, 0, none⟩)] w fun e w' => ∃ v, e = .returned v ∧ w'.ownsRow w.heap.size 3 1 v d.loose.length (d.loose.map vInt) ∧ Below w.heap.size w w' := by
  obtain ⟨c, left, hr, _⟩ := h.row
  obtain ⟨⟨c0, c1, c2, c3, c4⟩, f0, f1, f2, f3, f4⟩ := row5 hr
  obtain ⟨M, hown, hhas, hat⟩ := h.lo
  have hlen := loose_len hi.rise hi.inr
  have hbig := hi.big
  have hsz := hown.size_le
  have CK := Lib.hid (Try.keys_any (some b.bm) w)
  have CS := Lib.hid (Try.sortedKeys_any b.bm d.loose.length M elem w hown (by unfold maxLen; omega) (by omega))
  have HS := Lib.hid (fun ss hp => lo_sorted (ss := ss) hown hhas hi.rise hp)
  clear hr h hi hown hhas hat
  go_enter Try.func38, Try.ntmps38
  go_wp2_with (first
    | (go_at_call 51; ((with_reducible refine CK.out.mono ?_); rintro e w' ⟨rfl, rfl⟩))
    | (go_at_call 50; ((with_reducible refine CS.out.mono ?_); rintro e w' ⟨v, ss, rfl, hp, hrow, _, hb⟩; have HP := Lib.hid hp; have HR := Lib.hid hrow; have HB := Lib.hid hb; clear hp hrow hb)))
  go_ret
  have hl : ss.length = d.loose.length := by rw [← HS.out ss HP.out]; simp
  have hr := HR.out
  rw [HS.out ss HP.out, hl] at hr
  exact ⟨v, rfl, own_base hr (by simp), ((Below.refl _ _).alloc (Nat.le_refl _) _).trans (HB.out.mono (by simp))⟩
end Dsk
end Go.Proofs.Ytnnjcgamhkmljaa
