/-
  The walk of the statement RootWhole: a round's Publish, and the crash behind it.
-/
import Derived.Test.YtojbanknbgihgaaDoorRootWa
namespace Go.Proofs.YtojbanknbgihgaaDoor
open Go.RowKit
namespace Rt
open B Dsk
theorem pub_inv {e : Nat} {d : D} (h : Wh e d) (hw : d.writes < 900000) {s : ByteArray} (hs : s.size = 256) (v : Int) (dst : Int) (t : ByteArray) : Inv (pub (halt (marked d s) v) dst t).1 := by
  have hmi := marked_inv h (by omega) hs v
  have hw1 : (halt (marked d s) v).writes = d.writes + 1 := rfl
  have i1 : Inv (flush (halt (marked d s) v)).1 := flush_inv hmi (by omega)
  have w1 := flush_w (halt (marked d s) v)
  have i2 := write_inv i1 (by omega) dst t
  have w2 := write_w (flush (halt (marked d s) v)).1 dst t
  unfold pub
  split
  · split
    · exact flush_inv i2 (by omega)
    · exact i2
  · exact i1
theorem pub_round {e : Nat} {d : D} (h : Wh e d) (he : e + 1 ≤ 15) (hw : d.writes < 899999) {mark : ByteArray} (hs : mark.size = 256) (x : R) (hm : may x) (v : Int) (b : Bl) (gs : Nat) (wb : World) (hD : DAt wb b (halt (marked d mark) v)) (hS : SAt wb gs b) (hL : Lst wb) (h0 : 0 ∉ b.l) (hg : gs ∉ b.l)
    (ch : List Int) (ml : List R) (nn : Bool) (hf : Found ml nn (newR (n0 d) (n1 d))) : ∃ (X : R) (dP : D) (er : Int),
    (Calls Tryd.prog 9 #[.pointer (some ⟨gs, 0, none⟩), rv x] wb fun e w' => e = .returned (.tuple #[rv (if er = 0 then X else R0), .int .i64 er]) ∧ DAt w' b dP ∧ Tch b.l wb w') ∧ Inv dP ∧ Wh (e + 1) (crash dP ch) ∧ (crash dP ch).writes ≤ d.writes + 4 ∧
    (er = 6 ∧ Found (ml ++ [x]) nn (newR (n0 (crash dP ch)) (n1 (crash dP ch))) ∨ er = 0 ∧ Found [X] false (newR (n0 (crash dP ch)) (n1 (crash dP ch))) ∧ (crash dP ch).now.getD 2 ⟨#[]⟩ = mark) := by
  have hE15 := slot_last h.s0 h.s1 (by omega)
  have e0 : (halt (marked d mark) v).now.getD 0 ⟨#[]⟩ = n0 d := marked_0 d mark v
  have e1 : (halt (marked d mark) v).now.getD 1 ⟨#[]⟩ = n1 d := marked_1 d mark v
  have cp := publish_up b (halt (marked d mark) v) gs x wb hD (marked_inv h (by omega) hs v) hS hL h0 hg h.dn (by show 2 ≤ (marked d mark).now.length; rw [marked_len h]; omega) (by show d.writes + 1 < 900000; omega) hm (by rw [e0, e1]; omega)
  rw [e0, e1] at cp
  obtain ⟨X, hX⟩ : ∃ X : R, X = { x with ep := lastE (n0 d) (n1 d) + 1 } := ⟨_, rfl⟩
  have hXe : X.ep = lastE (n0 d) (n1 d) + 1 := by rw [hX]
  have hXm : may X := by rw [hX]; exact hm
  have HXx : ({ x with ep := X.ep } : R) = X := by rw [hX]
  refine ⟨X, (pub (halt (marked d mark) v) ((spare (n0 d) (n1 d) : Nat) : Int) (txt X)).1, (pub (halt (marked d mark) v) ((spare (n0 d) (n1 d) : Nat) : Int) (txt X)).2, ?_, pub_inv h (by omega) hs v _ _, ?_⟩
  · refine cp.mono fun e w' ⟨y, hx, he, hd, ht⟩ => ?_
    have ex : y = X := hx.trans hX.symm
    subst ex
    exact ⟨he, hd, ht⟩
  · by_cases hvv : 0 ≤ v ∧ v ≤ 2
    · obtain ⟨r1, r2, r3, r4⟩ := round_fail h he (by omega) hs hvv hXm hXe ch
      exact ⟨r2, r3, .inl ⟨r1, found_more hf HXx r4⟩⟩
    · obtain ⟨r1, r2, r3, r4, r5, r6⟩ := round_ok h he (by omega) hs (show v < 0 ∨ 3 ≤ v by omega) hXm hXe ch
      exact ⟨r2, r3, .inr ⟨r1, found_one r4 r5, r6⟩⟩
end Rt
end Go.Proofs.YtojbanknbgihgaaDoor
