/-
  The fixed fact of layer 7's statements.
-/
import Derived.Test.YtnnjcgamhkmljaaPagesOps
namespace Go.Proofs.Ytnnjcgamhkmljaa
open Go.RowKit
namespace Pg
open B Dsk
def abc : ByteArray := ⟨#[97, 98, 99]⟩
theorem aw_up : Up (new 11) := new_up 11
theorem aw_sz : Sz (new 11) := new_sz (by omega) (by omega)
theorem aw_room : room (new 11) = 4 := by rw [room_new]
theorem aw_app : papp (new 11) 1 0 7 abc = ({ new 11 with now := (new 11).now.set (sec (new 11) 1 0).toNat (ptxt 7 abc), loose := withR (sec (new 11) 1 0) (new 11).loose, writes := (new 11).writes + 1 }, 1, 0, 0) :=
  papp_up aw_up aw_sz (.inr rfl) (by omega) (by rw [aw_room]; decide) (by omega) (by omega) (by decide)
set_option maxRecDepth 100000 in
set_option maxHeartbeats 4000000 in
theorem awake_any (w : World) : Calls Try.prog 5 #[] w fun e w' => e = .returned (.bool true) ∧ Below w.heap.size w w' := by
  have CN := Lib.hid (fun W => new_my 11 11 W rfl (by omega) (by omega))
  have hup := Lib.hid aw_up
  have hsz := Lib.hid aw_sz
  have hrm := Lib.hid aw_room
  have happ := Lib.hid aw_app
  have hw0 : (new 11).writes < 1000000 := by decide
  have hrd : Hid (pread (papp (new 11) 1 0 7 abc).1 1 1 0 = (7, abc, 0)) := by
    rw [Hid, aw_app]
    have hl : ({ new 11 with now := (new 11).now.set (sec (new 11) 1 0).toNat (ptxt 7 abc), loose := withR (sec (new 11) 1 0) (new 11).loose, writes := (new 11).writes + 1 } : D).now.length = (new 11).now.length := by simp
    rw [pread_up ⟨rfl, by show (-1 : Int) < 0; omega⟩ ⟨by rw [hl]; exact aw_sz.lo, by rw [hl]; exact aw_sz.hi⟩ (.inr rfl) (by omega) (by omega) (by rw [room_len hl, aw_room]; decide), sec_len hl]
    have e : ((new 11).now.set (sec (new 11) 1 0).toNat (ptxt 7 abc)).getD (sec (new 11) 1 0).toNat ⟨#[]⟩ = ptxt 7 abc := by
      rw [List.getD_eq_getElem?_getD, List.getElem?_set_self (by rw [new_len]; decide)]; rfl
    rw [e, pparse_txt (by omega) (by decide)]
    rfl
  have hrm2 : Hid (room (papp (new 11) 1 0 7 abc).1 = 4) := by rw [Hid, room_len (papp_len _ _ _ _ _)]; exact aw_room
  have hnx : Hid ((papp (new 11) 1 0 7 abc).2 = (1, 0, 0)) := by rw [Hid, aw_app]
  have HAP := Lib.hid (fun B b g W hp => papp_my (B := B) b (new 11) g 1 0 7 abc W hp hw0)
  generalize papp (new 11) 1 0 7 abc = r at *
  obtain ⟨d1, r2⟩ := r
  simp only at hrd hrm2 hnx HAP
  rw [hnx.out] at HAP
  clear happ hnx
  have CO := Lib.hid (fun B b W (hp : My B W b (new 11)) => open_my b (new 11) 1 0 W hp hsz.out ⟨.inr rfl, by omega, by omega⟩)
  have CM := Lib.hid (fun B b W (hp : My B W b (new 11)) => room_any b (new 11) W hp.at' hsz.out.lo hsz.out.hi)
  rw [hrm.out] at CM
  generalize new 11 = d0 at *
  unfold abc at *
  go_enter Try.func5, Try.ntmps5
  go_wp2_with (first
    | (go_at_call 6; ((with_reducible refine (CN.out _).mono ?_); rintro e w1 ⟨b, rfl, hm1, hb1⟩; have M1 := Lib.hid hm1; have B1 := Lib.hid hb1; clear hm1 hb1; have CM1 := Lib.hid (CM.out _ _ _ M1.out); have CO1 := Lib.hid (CO.out _ _ _ M1.out B1.out.size)))
    | (go_at_call 9; ((with_reducible refine CM1.out.mono ?_); rintro e w' ⟨rfl, rfl⟩))
    | (go_at_call 8; ((with_reducible refine CO1.out.mono ?_); rintro e w2 ⟨g, rfl, hp2, hb2⟩; have P2 := Lib.hid hp2; have B2 := Lib.hid (B1.out.trans (hb2.mono B1.out.size)); clear hp2 hb2; have CA := Lib.hid (HAP.out _ _ _ _ P2.out B2.out.size)))
    | (go_at_call 18; ((with_reducible refine CA.out.mono ?_); rintro e w3 ⟨rfl, hp3, hb3⟩; have P3 := Lib.hid hp3; have B3 := Lib.hid (B2.out.trans hb3); clear hp3 hb3; have cr := pread_my b d1 g 1 1 0 w3 P3.out; rw [hrd.out] at cr; have CR := Lib.hid cr; clear cr))
    | (go_at_call 11; ((with_reducible refine CR.out.mono ?_); rintro e w4 ⟨rfl, hb4⟩; have P4 := Lib.hid (P3.out.below hb4); have B4 := Lib.hid (B3.out.trans (hb4.mono B3.out.size)); clear hb4; have cf := free_my b d1 g 1 1 w4 P4.out; rw [hrm2.out] at cf; have CF := Lib.hid cf; clear cf))
    | (go_at_call 21; ((with_reducible refine CF.out.mono ?_); rintro e w5 ⟨rfl, hb5⟩; have B5 := Lib.hid (B4.out.trans (hb5.mono B4.out.size)); clear hb5)))
  go_ret
  exact ⟨rfl, B5.out⟩
end Pg
end Go.Proofs.Ytnnjcgamhkmljaa
