/-
  The walk of the statement CrcTells: where up to 32 bits one behind the other are others, the sum is another one.
-/
import Derived.Test.YtkeapapkigmdoaaRows
import Derived.Test.YtkeapapkigmdoaaCrcLawA
import Derived.Deep.QuietTactic
import Derived.Deep.DeepCutAuto
import Derived.BigQuiet
import Derived.Laws.IdiomStrings
namespace Go.Proofs.Ytkeapapkigmdoaa
open Go.RowKit

/-- the bytes l lie, unfrozen, in block g from its start on -/
def BytesAt (w : World) (g : Nat) (l : List UInt8) : Prop := ∀ j (h : j < l.length), w.cell? ⟨g, j, none⟩ = some (.int .u8 (l[j].toNat : Int)) ∧ w.frozen? ⟨g, j, none⟩ = false
theorem BytesAt.below {w w' : World} {g B : Nat} {l : List UInt8} (h : BytesAt w g l) (hb : Below B w w') (hg : g < B) : BytesAt w' g l := fun j hj =>
  ⟨(hb.cell (p := ⟨g, j, none⟩) hg).trans (h j hj).1, (hb.frozen (p := ⟨g, j, none⟩) hg).trans (h j hj).2⟩

theorem conv (s : ByteArray) (W : World) : ∃ c w', (convert 9 50 (.string s)).run Try.prog W = .ok (.slice (some ⟨W.heap.size, 0, none⟩) s.size c) w' ∧ BytesAt w' W.heap.size s.data.toList ∧ Below W.heap.size W w' ∧ W.heap.size < w'.heap.size := by
  refine ⟨_, _, run_bytes_of_string (P := Try.prog) W 9 50 5 s Try.underlying9 Try.underlying50 Try.underlying5, ?_, ?_, ?_⟩
  · intro j hj
    have hj' : j < s.data.size := by simpa using hj
    constructor
    · have h := World.cell?_alloc_mark W.drew (bytesRow s (grownCap W s.size 0 5)) 5 ((bytesRow s (grownCap W s.size 0 5)).size, (bytesRow s (grownCap W s.size 0 5)).size + 1) j
      exact h.trans (bytesRow_at s _ j hj')
    · have h := World.frozen?_alloc_mark W.drew (bytesRow s (grownCap W s.size 0 5)) 5 ((bytesRow s (grownCap W s.size 0 5)).size) ((bytesRow s (grownCap W s.size 0 5)).size + 1) j
      refine h.trans ?_
      have hl : j < (bytesRow s (grownCap W s.size 0 5)).size := by
        have := bytesRow_at s (grownCap W s.size 0 5) j hj'
        rcases Nat.lt_or_ge j (bytesRow s (grownCap W s.size 0 5)).size with h1 | h1
        · exact h1
        · rw [Array.getElem?_eq_none h1] at this; cases this
      simp; omega
  · exact (Below.drew (Below.refl _ _)).alloc (Nat.le_refl _) _
  · simp

theorem place (at_ n : Int) (h1 : 1 ≤ n) (h2 : n ≤ 1000) : ∃ K : Nat, (K : Int) < n ∧ (wrap64 (at_.tmod n + n)).tmod n = (K : Int) := by
  have ha : at_.tmod n < n := Int.tmod_lt_of_pos _ (by omega)
  have hb : -n < at_.tmod n := Int.lt_tmod_of_pos _ (by omega)
  rw [IntWalk.wrap64_in _ (by omega)]
  have hc : 0 ≤ (at_.tmod n + n).tmod n := Int.tmod_nonneg _ (by omega)
  have hd : (at_.tmod n + n).tmod n < n := Int.tmod_lt_of_pos _ (by omega)
  exact ⟨((at_.tmod n + n).tmod n).toNat, by omega, by omega⟩

def upd (F : List UInt8) (K : Nat) : Nat → List UInt8 → List UInt8
  | 0, l => l
  | k + 1, l => (upd F K k l).set (K + k) ((upd F K k l).getD (K + k) 0 ^^^ F.getD k 0)
theorem upd_length (F : List UInt8) (K : Nat) (l : List UInt8) : ∀ k, (upd F K k l).length = l.length
  | 0 => rfl
  | k + 1 => by show (List.set _ _ _).length = _; rw [List.length_set]; exact upd_length F K l k
theorem BytesAt.set {w : World} {g : Nat} {l : List UInt8} (h : BytesAt w g l) (i : Nat) (b : UInt8) (hi : i < l.length) : BytesAt (w.setCell ⟨g, i, none⟩ (.int .u8 (b.toNat : Int))) g (l.set i b) := by
  intro j hj
  rw [List.length_set] at hj
  refine ⟨?_, ?_⟩
  · by_cases e : i = j
    · subst e
      have := World.cell?_setCell_same w ⟨g, i, none⟩ (.int .u8 (b.toNat : Int)) (h i hi).1
      rw [this]; simp
    · rw [World.cell?_setCell_other w ⟨g, i, none⟩ ⟨g, j, none⟩ _ (fun q => e (by injection q)), (h j hj).1]
      simp [e]
  · have := (h j hj).2
    simpa using this
theorem BytesAt.far {w : World} {g : Nat} {l : List UInt8} (h : BytesAt w g l) (p : Addr) (v : Value) (hp : p.block ≠ g) : BytesAt (w.setCell p v) g l := by
  intro j hj
  refine ⟨?_, ?_⟩
  · rw [World.cell?_setCell_other w p ⟨g, j, none⟩ _ (fun q => hp (by rw [q])), (h j hj).1]
  · have := (h j hj).2
    simpa using this

theorem upd_append (F p m : List UInt8) : ∀ k, upd F p.length k (p ++ m) = p ++ upd F 0 k m
  | 0 => rfl
  | k + 1 => by
    show List.set _ _ _ = p ++ List.set _ _ _
    rw [upd_append F p m k, List.set_append_right _ _ (by omega), Nat.add_sub_cancel_left, Nat.zero_add, List.getD_eq_getElem?_getD (l := p ++ _), List.getElem?_append_right (by omega), Nat.add_sub_cancel_left, ← List.getD_eq_getElem?_getD]
theorem upd_four (f0 f1 f2 f3 q0 q1 q2 q3 : UInt8) (r : List UInt8) : upd [f0, f1, f2, f3] 0 4 (q0 :: q1 :: q2 :: q3 :: r) = Crc.xorBytes [q0, q1, q2, q3] [f0, f1, f2, f3] ++ r := by
  simp [upd, Crc.xorBytes]
theorem tells (d : BitVec 32) (K : Nat) (l : List UInt8) (hK : K + 3 < l.length) :
    (Crc.on Crc.start (upd (Crc.fourOf d) K 4 l) = Crc.on Crc.start l) ↔ d = 0#32 := by
  obtain ⟨p, m, rfl, rfl⟩ : ∃ p m, l = p ++ m ∧ K = p.length := ⟨l.take K, l.drop K, (List.take_append_drop K l).symm, by simp; omega⟩
  have hm : 4 ≤ m.length := by simp at hK; omega
  match m, hm with
  | q0 :: q1 :: q2 :: q3 :: r, _ =>
    rw [upd_append]
    have e : upd (Crc.fourOf d) 0 4 (q0 :: q1 :: q2 :: q3 :: r) = Crc.xorBytes [q0, q1, q2, q3] (Crc.fourOf d) ++ r := upd_four _ _ _ _ _ _ _ _ _
    rw [e]
    exact Crc.burst Crc.start d p [q0, q1, q2, q3] r rfl
theorem tellsB (d : BitVec 32) (K : Nat) (l : List UInt8) (hK : K + 3 < l.length) :
    ∃ b : Bool, (((Crc.on Crc.start (upd (Crc.fourOf d) K 4 l)).toNat : Int) == ((Crc.on Crc.start l).toNat : Int)) = b ∧ ((d.toNat : Int) == 0) = b := by
  have h := tells d K l hK
  by_cases hd : d = 0#32
  · refine ⟨true, ?_, by rw [hd]; rfl⟩
    rw [h.2 hd]; simp
  · refine ⟨false, ?_, ?_⟩
    · rw [beq_eq_false_iff_ne]; intro e; exact hd (h.1 (BitVec.eq_of_toNat_eq (by omega)))
    · rw [beq_eq_false_iff_ne]; intro e; exact hd (BitVec.eq_of_toNat_eq (by show d.toNat = 0; omega))

set_option maxHeartbeats 1000000 in
theorem crcTells_walk (s : ByteArray) (at_ : Int) (by_ : BitVec 32) (w : World) (hs : s.size ≤ maxLen) :
    Calls Try.prog 7 #[.string s, .int .i64 at_, .int .u32 (by_.toNat : Int)] w fun e w' => e = .returned (.bool true) ∧ Below w.heap.size w w' := by
  have hA := cutB_size s 200
  have CA := Lib.hid (fun w => cut200 s w hs)
  clear hs
  generalize cutB s 200 = S0 at *
  go_enter Try.func7, Try.ntmps7
  go_upto_if 18 with (first
    | (go_at_call 24; refine (awake_any _).mono ?_; rintro e w1 ⟨rfl, hw1⟩)
    | (go_at_call 15; ((with_reducible refine (CA.out _).mono ?_); rintro e w' ⟨rfl, rfl⟩)))
  go_cut [0] (fun s0 w => ∃ S : ByteArray, 4 ≤ S.size ∧ S.size ≤ 204 ∧ s0 = .string S ∧ w = w1)
  case first =>
    go_wp2
    · go_meet
      case rel => exact ⟨_, by rw [cat_size]; show 4 ≤ S0.size + 4; omega, by rw [cat_size]; show S0.size + 4 ≤ 204; omega, rfl, rfl⟩
    · go_meet
      case rel => exact ⟨S0, by omega, by omega, rfl, rfl⟩
  case rest =>
    obtain ⟨S, hS4, hS, rfl, rfl⟩ := hcut
    go_upto_region 7 with fail
    go_cut [8] (fun s8 w => ∃ K : Nat, K + 3 < S.size ∧ s8 = .int .i64 (K : Int) ∧ w = wc)
    case first =>
      go_wp2
      go_meet
      case rel =>
        obtain ⟨K, hK, hk⟩ := place at_ ((S.size : Int) - 3) (by omega) (by omega)
        exact ⟨K, by omega, by rw [hk], rfl⟩
    case rest =>
      obtain ⟨K, hK, rfl, rfl⟩ := hcut
      obtain ⟨c1, v1, hrun1, hB1, hb1, hz1⟩ := conv S wc
      have HB1 := Lib.hid hB1
      clear hB1
      go_wp2_with (go_at_call 28; ((with_reducible refine (four_any _ _).mono ?_); rintro e w4 ⟨rfl, hb4⟩; obtain ⟨c2, v2, hrun2, hB2, hb2, hz2⟩ := conv ⟨(Crc.fourOf by_).toArray⟩ w4; have HB2 := Lib.hid hB2; clear hB2))
      have hF : (Crc.fourOf by_).length = 4 := rfl
      have HF := Lib.hid hF
      clear hF
      have hne : w4.heap.size ≠ wc.heap.size := by have := hb4.size; omega
      have HNE := Lib.hid hne
      clear hne
      have acc0 : Below w.heap.size w v2 := ((hw1.trans (hb1.mono hw1.size)).trans (hb4.mono (Nat.le_trans hw1.size hb1.size))).trans (hb2.mono (Nat.le_trans (Nat.le_trans hw1.size hb1.size) hb4.size))
      have base : w.heap.size ≤ wc.heap.size := hw1.size
      have HA : BytesAt v2 wc.heap.size S.data.toList := (HB1.out.below hb4 hz1).below hb2 (by have := hb4.size; omega)
      generalize w4.heap.size = gx at *
      generalize wc.heap.size = gb at *
      generalize hFe : Crc.fourOf by_ = F at *
      have HFe := Lib.hid hFe
      have HAA := Lib.hid HA
      clear hFe HA HB1 hb1 hb4 hb2 hrun1 hrun2 hw1
      go_loopw [37] (fun i wr => ∃ k : Nat, k ≤ 4 ∧ i = .int .i64 (k : Int) ∧ BytesAt wr gb (upd F K k S.data.toList) ∧ BytesAt wr gx F ∧ Below w.heap.size w wr) (fun i _ => 4 - (intOf i).toNat)
      case atStart => exact ⟨0, Nat.zero_le _, rfl, HAA.out, HB2.out, acc0⟩
      case round =>
        obtain ⟨k, hk, rfl, hL, hX, hacc⟩ := hrel
        have hF1 : F.length ≤ 4 := by rw [HF.out]; omega
        have hF2 : 4 ≤ F.length := by rw [HF.out]; omega
        have HLen := Lib.hid (upd_length F K S.data.toList k)
        have hsz : S.data.toList.length = S.size := by rw [Array.length_toList]; rfl
        by_cases hlt : k < 4
        · have hxk : k < F.length := by omega
          have hlk : K + k < (upd F K k S.data.toList).length := by rw [HLen.out, hsz]; omega
          have cx := (hX k hxk).1
          have cb := (hL (K + k) hlk).1
          have cf := (hL (K + k) hlk).2
          have HL := Lib.hid hL
          have HX := Lib.hid hX
          have HQ := Lib.hid (show (upd F K (k + 1) S.data.toList) = (upd F K k S.data.toList).set (K + k) ((upd F K k S.data.toList)[K + k] ^^^ F[k]) by
            show List.set _ _ _ = _
            rw [List.getD_eq_getElem?_getD, List.getElem?_eq_getElem hlk, List.getD_eq_getElem?_getD, List.getElem?_eq_getElem hxk]; rfl)
          clear hL hX hsz
          have HS := fun b => Lib.hid (HL.out.set (K + k) b hlk)
          generalize hu : (upd F K k S.data.toList)[K + k] = ub at *
          generalize hv : F[k] = uv at *
          have hub := ub.toNat_lt
          have huv := uv.toNat_lt
          clear hu hv
          go_wp2
          have he : bits BinOp.xor IntKind.u8 (ub.toNat : Int) (uv.toNat : Int) = ((ub ^^^ uv).toNat : Int) := by rw [u8_xor_nat _ _ hub huv, UInt8.toNat_xor]
          go_roundw
          case rel =>
            rw [he]
            exact ⟨k + 1, by omega, by go_num, by rw [HQ.out]; exact (HS _).out, HX.out.far _ _ (fun q => HNE.out q.symm), hacc.setCell (by show w.heap.size ≤ gb; omega) _⟩
          case measure => simp [intOf]; omega
        · have hk4 : k = 4 := by omega
          subst hk4
          have hrunB := run_convert_bytes_back (P := Try.prog) wr 50 9 5 ⟨gb, 0, none⟩ c1 (upd F K 4 S.data.toList) Try.underlying50 Try.underlying5 Try.underlying9 (fun j hj => by
            have := (hL j hj).1
            rw [show (⟨gb, 0, none⟩ : Addr).add j = ⟨gb, j, none⟩ by unfold Addr.add; split <;> simp_all]
            exact this)
          rw [HLen.out, hsz] at hrunB
          obtain ⟨bb, hb1, hb2⟩ := tellsB by_ K S.data.toList (by rw [hsz]; omega)
          rw [HFe.out] at hb1
          have hLs : (ByteArray.mk (upd F K 4 S.data.toList).toArray).size ≤ maxLen := by
            show (upd F K 4 S.data.toList).toArray.size ≤ maxLen
            rw [List.size_toArray, HLen.out, hsz]; unfold maxLen; omega
          have hSs : S.size ≤ maxLen := by unfold maxLen; omega
          have C1 := Lib.hid (fun W g hg => of_one ⟨(upd F K 4 S.data.toList).toArray⟩ W g hLs hg)
          have C2 := Lib.hid (fun W g hg => of_one S W g hSs hg)
          generalize upd F K 4 S.data.toList = L at *
          clear hL hX HLen hsz HFe
          go_wp2_with (go_at_call 25; first
            | ((with_reducible refine (C1.out _ _ ?_).mono ?_); (· simp); rintro e w' ⟨rfl, rfl⟩)
            | ((with_reducible refine (C2.out _ _ ?_).mono ?_); (· simp); rintro e w' ⟨rfl, rfl⟩))
          go_ret
          exact ⟨rfl, (hacc.alloc hacc.size _).alloc (by simp; have := hacc.size; omega) _⟩
end Go.Proofs.Ytkeapapkigmdoaa
