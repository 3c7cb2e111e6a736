/-
  The walk of the statement DiskKeeps.
-/
import Derived.Test.YtojbanknbgihgaaKeepMath
import Derived.Test.YtojbanknbgihgaaTwinLaw
import Derived.Laws.Tables
namespace Go.Proofs.Ytojbanknbgihgaa
open Go.RowKit
namespace Dsk
open B

theorem turn_up {d : D} (hh : d.halt = -1) : turn d = ({ d with writes := d.writes + 1 }, true) := by
  unfold turn
  rw [if_neg (by omega)]
  have : (if 0 < d.halt then d.halt - 1 else d.halt) = d.halt := if_neg (by omega)
  rw [this]
theorem write_up {d : D} (hd : d.down = false) (hh : d.halt = -1) {k : Nat} (hk : k < d.now.length) {s : ByteArray} (hs : s.size ≤ 256) :
    write d (k : Int) s = ({ d with now := d.now.set k (fill s), loose := withR (k : Int) d.loose, writes := d.writes + 1 }, 0) := by
  unfold write
  rw [hd, if_neg (by decide), if_neg (by omega), if_neg (by omega), turn_up hh]
  simp [hd]
theorem flush_up {d : D} (hd : d.down = false) (hh : d.halt = -1) : flush d = ({ d with sure := d.now, loose := [], writes := d.writes + 1 }, 0) := by
  unfold flush
  rw [hd, if_neg (by decide), turn_up hh]
  simp [hd]

/-- a row of five texts -/
def Arr (w : World) (g : Nat) (L : List ByteArray) : Prop := w.heap[g]? = some (.cells (L.map vStr).toArray 48)
theorem Arr.cell {w : World} {g : Nat} {L : List ByteArray} (h : Arr w g L) {k : Nat} (hk : k < L.length) : w.cell? ⟨g, k, none⟩ = some (.string (L.getD k ⟨#[]⟩)) := by
  rw [row_cell h, List.getElem?_map, List.getElem?_eq_getElem hk, getD_at hk]; rfl
theorem Arr.free {w : World} {g : Nat} {L : List ByteArray} (h : Arr w g L) (k : Nat) : w.frozen? ⟨g, k, none⟩ = false := row_frozen h k
theorem Arr.below {w w' : World} {g : Nat} {L : List ByteArray} (h : Arr w g L) (hb : Below w.heap.size w w') : Arr w' g L := blk_below h hb (blk_lt h)
theorem Arr.set {w : World} {g : Nat} {L : List ByteArray} (h : Arr w g L) (k : Nat) (x : ByteArray) : Arr (w.setCell ⟨g, k, none⟩ (.string x)) g (L.set k x) := by
  have := blk_set h k (.string x)
  unfold Arr
  rw [this, List.map_set]
theorem Arr.other {w : World} {g g' : Nat} {L : List ByteArray} (h : Arr w g L) (hne : g ≠ g') (k : Nat) (v : Value) : Arr (w.setCell ⟨g', k, none⟩ v) g L := blk_other h hne v
theorem Arr.tch {w w' : World} {g : Nat} {L : List ByteArray} {l : List Nat} (h : Arr w g L) (ht : Tch l w w') (hn : g ∉ l) : Arr w' g L := (ht.block g (blk_lt h) hn).trans h

theorem My.put {B : Nat} {w : World} {b : Bl} {d : D} (h : My B w b d) {g : Nat} (hn : g ∉ b.l) (k : Nat) (v : Value) : My B (w.setCell ⟨g, k, none⟩ v) b d := by
  have ht : Tch [g] w (w.setCell ⟨g, k, none⟩ v) := (Tch.refl _ _).set (by simp) _
  simp only [List.mem_cons, List.not_mem_nil, or_false, not_or] at hn
  exact ⟨h.at'.tch ht ⟨by simpa using fun e => hn.1 e.symm, by simpa using fun e => hn.2.1 e.symm, by simpa using fun e => hn.2.2 e.symm⟩, h.inv, h.g, h.bs, h.bm⟩
/-- the rows of the law, and the disk, say the same -/
structure Kp (B : Nat) (w : World) (b : Bl) (g8 g9 : Nat) (d : D) : Prop where
  my : My B w b d
  a8 : Arr w g8 d.sure
  a9 : Arr w g9 d.now
  up : d.down = false
  hal : d.halt = -1
  len : d.now.length = 5

theorem kp_write {B : Nat} {w0 wr w1 w2 : World} {b : Bl} {g8 g9 q : Nat} {d : D} {cs : ByteArray} {l : List Int} (h : Kp B wr b g8 g9 d) (N8 : g8 ∉ b.l) (N9 : g9 ∉ b.l) (hne : g8 ≠ g9) (ge9 : B ≤ g9) (hB : B ≤ wr.heap.size) (h0 : Below B w0 wr)
    (hd : DAt w1 b { d with now := d.now.set q (fill cs), loose := l, writes := d.writes + 1 }) (hi : Inv { d with now := d.now.set q (fill cs), loose := l, writes := d.writes + 1 }) (ht : Tch b.l wr w1) (hb : Below w1.heap.size w1 w2) :
    Kp B (w2.setCell ⟨g9, q, none⟩ (.string (fill cs))) b g8 g9 { d with now := d.now.set q (fill cs), loose := l, writes := d.writes + 1 } ∧ Below B w0 (w2.setCell ⟨g9, q, none⟩ (.string (fill cs))) := by
  have hl := h.my.low ht hB
  refine ⟨⟨((h.my.touch hd hi).below hb).put N9 _ _, ((h.a8.tch ht N8).below hb).other hne _ _, ((h.a9.tch ht N9).below hb).set q (fill cs), h.up, h.hal, by simpa using h.len⟩, ?_⟩
  exact ((h0.trans hl).trans (hb.mono (Nat.le_trans hB hl.size))).setCell (p := ⟨g9, q, none⟩) ge9 _
theorem kp_flush {B : Nat} {w0 wr w1 : World} {b : Bl} {g8 g9 : Nat} {d : D} (h : Kp B wr b g8 g9 d) (N8 : g8 ∉ b.l) (N9 : g9 ∉ b.l) (hne : g8 ≠ g9) (ge8 : B ≤ g8) (hB : B ≤ wr.heap.size) (h0 : Below B w0 wr)
    (hd : DAt w1 b { d with sure := d.now, loose := [], writes := d.writes + 1 }) (hi : Inv { d with sure := d.now, loose := [], writes := d.writes + 1 }) (ht : Tch b.l wr w1) :
    Kp B (w1.setRow g8 (d.now.map vStr).toArray) b g8 g9 { d with sure := d.now, loose := [], writes := d.writes + 1 } ∧ Below B w0 (w1.setRow g8 (d.now.map vStr).toArray) := by
  have hl := h.my.low ht hB
  have n := N8
  simp only [List.mem_cons, List.not_mem_nil, or_false, not_or] at n
  have hd' : DAt (w1.setRow g8 (d.now.map vStr).toArray) b { d with sure := d.now, loose := [], writes := d.writes + 1 } :=
    hd.kept (setRow_other _ _ _ _ (fun e => n.1 e.symm)) (setRow_other _ _ _ _ (fun e => n.2.1 e.symm)) (setRow_other _ _ _ _ (fun e => n.2.2 e.symm))
  refine ⟨⟨h.my.touch hd' hi, setRow_heap _ _ _ _ _ _ (h.a8.tch ht N8), (setRow_other _ _ _ _ hne.symm).trans (h.a9.tch ht N9), h.up, h.hal, h.len⟩, below_setRow (h0.trans hl) ge8 _⟩
theorem cut256 (s : ByteArray) (w : World) : Calls Try.prog 10 #[.string s, .int .i64 256] w fun e w' => e = .returned (.string (cutB s 256)) ∧ w = w' := cut_any s 256 w (by omega)
theorem t5_info {L : List ByteArray} (h : L.length = 5) : (Try.prog.info? 48).map (·.size) = some (L.map vStr).toArray.size := by
  have e : (Try.prog.info? 48).map (·.size) = some 5 := by kernel_rfl
  rw [e]; simp [h]
theorem t5_one (L : List ByteArray) : (L.map vStr).toArray.all (·.oneCell') = true := by
  rw [Array.all_eq_true_iff_forall_mem]
  intro v hv
  simp at hv
  obtain ⟨s, _, rfl⟩ := hv
  rfl

def laidS (k : Nat) : List ByteArray := List.replicate k zero ++ List.replicate (5 - k) ⟨#[]⟩
theorem laidS_len {k : Nat} (h : k ≤ 5) : (laidS k).length = 5 := by simp [laidS]; omega
theorem laidS_step {k : Nat} (h : k < 5) : (laidS k).set k zero = laidS (k + 1) := by
  unfold laidS
  have e : 5 - k = (5 - (k + 1)) + 1 := by omega
  rw [e, List.replicate_succ, List.set_append, if_neg (by simp), List.replicate_succ']
  simp
theorem laidS_5 : laidS 5 = List.replicate 5 zero := by simp [laidS]

set_option maxRecDepth 100000 in
set_option maxHeartbeats 8000000 in
theorem diskKeeps_walk (A0 : Option Addr) (tx : List ByteArray) (cap0 : Nat) (A1 : Option Addr) (fl : List Bool) (cap1 : Nat) (A2 : Option Addr) (ch : List Int) (cap2 : Nat) (w : World) (h0 : At vStr w A0 tx) (h1 : At Value.bool w A1 fl) (h2 : At vInt w A2 ch)
    (hl0 : tx.length ≤ maxLen) (hl1 : fl.length ≤ maxLen) (hc2 : ch.length ≤ cap2) :
    Calls Try.prog 4 #[.slice A0 tx.length cap0, .slice A1 fl.length cap1, .slice A2 ch.length cap2] w fun e w' => e = .returned (.bool true) ∧ Below w.heap.size w w' := by
  have CA := Lib.hid (awake_any w)
  have CN := Lib.hid (fun W => new_my 5 5 W rfl (by omega) (by omega))
  have CF := Lib.hid (fun W => refFill_any ⟨#[]⟩ W (by decide))
  have H0 := Lib.hid h0
  have H1 := Lib.hid h1
  have H2 := Lib.hid h2
  have hla : tx.length ≤ 9223372036854775807 := by unfold maxLen at hl0; omega
  have hlb : fl.length ≤ 9223372036854775807 := by unfold maxLen at hl1; omega
  clear h0 h1 h2 hl0 hl1
  go_enter Try.func4, Try.ntmps4
  go_upto_block 0 with (first
    | (go_at_call 7; ((with_reducible refine CA.out.mono ?_); rintro e w1 ⟨rfl, hb1⟩; have hs1 := hb1.size; have B1 := Lib.hid hb1; clear hb1))
    | (go_at_call 8; ((with_reducible refine (CN.out _).mono ?_); rintro e w2 ⟨b, rfl, hm2, hb2⟩; have hs2 := hb2.size; have M2 := Lib.hid hm2; have B2 := Lib.hid hb2; clear hm2 hb2)))
  have K8 : Hid (Arr ((w2.alloc (.cells #[.string ⟨#[]⟩, .string ⟨#[]⟩, .string ⟨#[]⟩, .string ⟨#[]⟩, .string ⟨#[]⟩] 48)).alloc (.cells #[.string ⟨#[]⟩, .string ⟨#[]⟩, .string ⟨#[]⟩, .string ⟨#[]⟩, .string ⟨#[]⟩] 48)) w2.heap.size (laidS 0)) := hp_old _ (heap_last _ _ _ rfl)
  have K9 : Hid (Arr ((w2.alloc (.cells #[.string ⟨#[]⟩, .string ⟨#[]⟩, .string ⟨#[]⟩, .string ⟨#[]⟩, .string ⟨#[]⟩] 48)).alloc (.cells #[.string ⟨#[]⟩, .string ⟨#[]⟩, .string ⟨#[]⟩, .string ⟨#[]⟩, .string ⟨#[]⟩] 48)) (w2.heap.size + 1) (laidS 0)) := heap_last _ _ _ (by simp)
  obtain ⟨l1, l2, l3⟩ := M2.out.at'.lts
  have N8 : w2.heap.size ∉ b.l := by simp only [List.mem_cons, List.not_mem_nil, or_false]; omega
  have N9 : w2.heap.size + 1 ∉ b.l := by simp only [List.mem_cons, List.not_mem_nil, or_false]; omega
  have hne : w2.heap.size ≠ w2.heap.size + 1 := by omega
  have bA := ((Below.refl w2.heap.size w2).alloc (Nat.le_refl _) (.cells #[.string ⟨#[]⟩, .string ⟨#[]⟩, .string ⟨#[]⟩, .string ⟨#[]⟩, .string ⟨#[]⟩] 48)).alloc (by simp) (.cells #[.string ⟨#[]⟩, .string ⟨#[]⟩, .string ⟨#[]⟩, .string ⟨#[]⟩, .string ⟨#[]⟩] 48)
  have MY := Lib.hid ((M2.out.lower hs1).below bA)
  have BB := Lib.hid ((B1.out.trans (B2.out.mono hs1)).trans (bA.mono (by omega)))
  have ge8 : w.heap.size ≤ w2.heap.size := by omega
  have ge9 : w.heap.size ≤ w2.heap.size + 1 := by omega
  clear CA CN B1 B2 M2 l1 l2 l3 bA hs1 hs2
  generalize (w2.alloc (.cells #[.string ⟨#[]⟩, .string ⟨#[]⟩, .string ⟨#[]⟩, .string ⟨#[]⟩, .string ⟨#[]⟩] 48)).alloc (.cells #[.string ⟨#[]⟩, .string ⟨#[]⟩, .string ⟨#[]⟩, .string ⟨#[]⟩, .string ⟨#[]⟩] 48) = w3 at *
  generalize w2.heap.size + 1 = g9 at *
  generalize w2.heap.size = g8 at *
  go_cut [23] (fun _ wc => My w.heap.size wc b (new 5) ∧ Arr wc g8 (List.replicate 5 zero) ∧ Arr wc g9 (List.replicate 5 zero) ∧ Below w.heap.size w wc)
  case first =>
    go_wp2_with fail
    go_loopw [23] (fun t wr => ∃ k : Nat, k ≤ 5 ∧ t = .int .i64 (k : Int) ∧ My w.heap.size wr b (new 5) ∧ Arr wr g8 (laidS k) ∧ Arr wr g9 (laidS k) ∧ Below w.heap.size w wr) (fun t _ => 5 - (intOf t).toNat)
    case atStart => exact ⟨0, Nat.zero_le _, rfl, MY.out, K8.out, K9.out, BB.out⟩
    case round =>
      obtain ⟨k, hk, rfl, hmy, k8, k9, hbel⟩ := hrel
      clear MY K8 K9 BB
      have MY := Lib.hid hmy
      have K8 := Lib.hid k8
      have K9 := Lib.hid k9
      have BB := Lib.hid hbel
      have hs := hbel.size
      clear hmy k8 k9 hbel
      by_cases hlt : k < 5
      · have hkI : (k : Int) < 5 := by omega
        have c8 := K8.out.cell (k := k) (by rw [laidS_len hk]; exact hlt)
        have c9 := K9.out.cell (k := k) (by rw [laidS_len hk]; exact hlt)
        have f8 := K8.out.free k
        have f9 := K9.out.free k
        have l8 := blk_lt K8.out
        have l9 := blk_lt K9.out
        go_wp2_with fail
        go_region_held3 (fun w' => True) (trivial)
          (first | (go_at_call 21; refine (CF.out _).mono ?_; rintro e w' ⟨rfl, hb⟩; have hz := hb.size; have q8 := (hb.cell (p := ⟨g8, k, none⟩) (by first | exact x8 | simpa using l8)).trans (by first | exact q8 | simpa using c8); have q9 := (hb.cell (p := ⟨g9, k, none⟩) (by first | exact x9 | simpa using l9)).trans (by first | exact q9 | simpa using c9); have p8 := (hb.frozen (p := ⟨g8, k, none⟩) (by first | exact x8 | simpa using l8)).trans (by first | exact p8 | simpa using f8); have p9 := (hb.frozen (p := ⟨g9, k, none⟩) (by first | exact x9 | simpa using l9)).trans (by first | exact p9 | simpa using f9); have x8 : g8 < w'.heap.size := Nat.lt_of_lt_of_le (by first | exact x8 | simpa using l8) hz; have x9 : g9 < w'.heap.size := Nat.lt_of_lt_of_le (by first | exact x9 | simpa using l9) hz; have y : Below wr.heap.size wr w' := (by first | exact y.trans (hb.mono y.size) | exact ⟨hb.os, hb.tape, hb.output, hb.size, hb.block⟩)))
        have Y := Lib.hid y
        clear hb hz q8 q9 p8 p9 x8 x9 y
        go_wp2_with fail
        go_roundw
        case rel =>
          refine ⟨k + 1, by omega, by go_num, ((MY.out.below Y.out).put N8 _ _).put N9 _ _, ?_, ?_, ((BB.out.trans (Y.out.mono hs)).setCell (p := ⟨g8, k, none⟩) ge8 _).setCell (p := ⟨g9, k, none⟩) ge9 _⟩
          · rw [← laidS_step hlt]
            exact ((K8.out.below Y.out).set k zero).other hne _ _
          · rw [← laidS_step hlt]
            exact ((K9.out.below Y.out).other hne.symm _ _).set k zero
        case measure => simp [intOf]; omega
      · have hk5 : k = 5 := by omega
        subst hk5
        rw [laidS_5] at K8 K9
        go_wp2
        go_meet
        case rel => exact ⟨MY.out, K8.out, K9.out, BB.out⟩
  case rest =>
    obtain ⟨hmy, k8, k9, hbel⟩ := hcut
    have KP : Hid (Kp w.heap.size wc b g8 g9 (new 5)) := ⟨hmy, k8, k9, rfl, rfl, by simp [new]⟩
    have B0 := Lib.hid hbel
    have hnw : (new 5).writes = 0 := rfl
    clear hmy k8 k9 hbel MY K8 K9 BB CF
    generalize new 5 = dn at *
    go_upto_block 2 with fail
    go_cut [11] (fun _ wx => ∃ d : D, Kp w.heap.size wx b g8 g9 d ∧ Below w.heap.size w wx)
    case first =>
      go_wp2_with fail
      go_loopw [11] (fun t wr => ∃ (k : Nat) (d : D), k ≤ tx.length ∧ k ≤ 30 ∧ t = .int .i64 (k : Int) ∧ Kp w.heap.size wr b g8 g9 d ∧ d.writes ≤ 2 * k ∧ Below w.heap.size w wr) (fun t _ => tx.length - (intOf t).toNat)
      case atStart => exact ⟨0, dn, Nat.zero_le _, Nat.zero_le _, rfl, KP.out, by omega, B0.out⟩
      case round =>
        obtain ⟨k, d, hk, hk2, rfl, hkp, hwr, hbel⟩ := hrel
        clear KP B0
        have KP := Lib.hid hkp
        have BB := Lib.hid hbel
        have hs := hbel.size
        clear hkp hbel
        by_cases hlt : k < tx.length
        · by_cases hlt2 : k < 30
          · have hkI : (k : Int) < (tx.length : Int) := by omega
            have hkI2 : (k : Int) < 30 := by omega
            obtain ⟨ab, off, hAe, hab, hc⟩ := (H0.out.below BB.out) (by omega)
            subst hAe
            have c0 : wr.cell? ⟨ab, off + k, none⟩ = some (.string tx[k]) := hc k hlt
            clear hc
            have CC := Lib.hid (cut256 tx[k] wr)
            have hcs := cutB_size tx[k] 256
            generalize cutB tx[k] 256 = cs at *
            generalize tx[k] = tk at *
            obtain ⟨q, hq, hq5⟩ : ∃ q : Nat, (cs.size : Int).tmod 5 = (q : Int) ∧ q < 5 := ⟨cs.size % 5, by rw [Int.tmod_eq_emod_of_nonneg (by omega)]; omega, Nat.mod_lt _ (by omega)⟩
            have hql : q < d.now.length := by rw [KP.out.len]; exact hq5
            have CW := Lib.hid (write_any b d (q : Int) cs wr KP.out.my.at' KP.out.my.inv (by omega))
            have HI1 := Lib.hid (write_inv KP.out.my.inv (by omega) (q : Int) cs)
            rw [write_up KP.out.up KP.out.hal hql hcs] at CW HI1
            have CFc := Lib.hid (fun W => refFill_any cs W (by omega))
            have hqI : (q : Int) < 5 := by omega
            by_cases hkf : k < fl.length
            · have hkf2 : (k : Int) < (fl.length : Int) := by omega
              obtain ⟨fb, fo, hFe, hfb, hfc⟩ := H1.out (by omega)
              subst hFe
              have z0 : w.cell? ⟨fb, fo + k, none⟩ = some (.bool fl[k]) := hfc k hkf
              clear hfc
              generalize fl[k] = fk at *
              cases fk with
              | false =>
                go_wp2_with (first
                | (go_at_call 10; ((with_reducible refine CC.out.mono ?_); rintro e w' ⟨rfl, rfl⟩))
                | (go_at_call 19; ((with_reducible refine CW.out.mono ?_); rintro e w1 ⟨rfl, hd1, ht1⟩; have D1 := Lib.hid hd1; have T1 := Lib.hid ht1; clear hd1 ht1))
                | (go_at_call 21; ((with_reducible refine (CFc.out _).mono ?_); rintro e w2 ⟨rfl, hb2⟩; have a9 := (KP.out.a9.tch T1.out N9).below hb2; have cc := a9.cell hql; have ff := a9.free q; have KW := Lib.hid (kp_write KP.out N8 N9 hne ge9 hs BB.out D1.out HI1.out T1.out hb2); have z1 := (KW.out.2.cell (p := ⟨fb, fo + k, none⟩) hfb).trans z0; clear hb2 a9)))
                go_roundw
                case rel => exact ⟨k + 1, _, by omega, by omega, by go_num, KW.out.1, by show d.writes + 1 ≤ _; omega, KW.out.2⟩
                case measure => simp [intOf]; omega
              | true =>
                go_wp2_with (first
                | (go_at_call 10; ((with_reducible refine CC.out.mono ?_); rintro e w' ⟨rfl, rfl⟩))
                | (go_at_call 19; ((with_reducible refine CW.out.mono ?_); rintro e w1 ⟨rfl, hd1, ht1⟩; have D1 := Lib.hid hd1; have T1 := Lib.hid ht1; clear hd1 ht1))
                | (go_at_call 21; ((with_reducible refine (CFc.out _).mono ?_); rintro e w2 ⟨rfl, hb2⟩; have a9 := (KP.out.a9.tch T1.out N9).below hb2; have cc := a9.cell hql; have ff := a9.free q; have KW := Lib.hid (kp_write KP.out N8 N9 hne ge9 hs BB.out D1.out HI1.out T1.out hb2); have z1 := (KW.out.2.cell (p := ⟨fb, fo + k, none⟩) hfb).trans z0; have hs2 := KW.out.2.size; have CFl := Lib.hid (flush_any b _ _ KW.out.1.my.at' KW.out.1.my.inv); have HI2 := Lib.hid (flush_inv KW.out.1.my.inv (by show d.writes + 1 < _; omega)); rw [flush_up KW.out.1.up KW.out.1.hal] at CFl HI2; clear hb2 a9))
                | (go_at_call 11; ((with_reducible refine CFl.out.mono ?_); rintro e w3 ⟨rfl, hd3, ht3⟩; have KF := Lib.hid (kp_flush KW.out.1 N8 N9 hne ge8 hs2 KW.out.2 hd3 HI2.out ht3); have A8 := Lib.hid (KW.out.1.a8.tch ht3 N8); have A9 := Lib.hid (KW.out.1.a9.tch ht3 N9); clear hd3 ht3))
                | (refine wpList_load_row rfl 48 _ rfl g9 rfl 48 _ (0, 0) _ A9.out Try.underlying48 rfl (t5_info (by simpa using KP.out.len)) ?_)
                | (refine wpList_store_row rfl 48 _ _ rfl g8 _ rfl rfl 48 _ A8.out (t5_info (by simpa using KP.out.len)) (by have e1 := KP.out.len; have e2 := KP.out.my.inv.len; simp; omega) (t5_one _) ?_))
                go_roundw
                case rel =>
                  have kf := KF.out
                  simp only [List.map_set] at kf
                  exact ⟨k + 1, _, by omega, by omega, by go_num, kf.1, by show d.writes + 1 + 1 ≤ _; omega, kf.2⟩
                case measure => simp [intOf]; omega
            · have hkf2 : ¬ (k : Int) < (fl.length : Int) := by omega
              go_wp2_with (first
                | (go_at_call 10; ((with_reducible refine CC.out.mono ?_); rintro e w' ⟨rfl, rfl⟩))
                | (go_at_call 19; ((with_reducible refine CW.out.mono ?_); rintro e w1 ⟨rfl, hd1, ht1⟩; have D1 := Lib.hid hd1; have T1 := Lib.hid ht1; clear hd1 ht1))
                | (go_at_call 21; ((with_reducible refine (CFc.out _).mono ?_); rintro e w2 ⟨rfl, hb2⟩; have a9 := (KP.out.a9.tch T1.out N9).below hb2; have cc := a9.cell hql; have ff := a9.free q; have KW := Lib.hid (kp_write KP.out N8 N9 hne ge9 hs BB.out D1.out HI1.out T1.out hb2); clear hb2 a9)))
              go_roundw
              case rel => exact ⟨k + 1, _, by omega, by omega, by go_num, KW.out.1, by show d.writes + 1 ≤ _; omega, KW.out.2⟩
              case measure => simp [intOf]; omega
          · have hkI : (k : Int) < (tx.length : Int) := by omega
            have hkI2 : ¬ (k : Int) < 30 := by omega
            go_wp2
            go_meet
            case rel => exact ⟨d, KP.out, BB.out⟩
        · have hkI : ¬ (k : Int) < (tx.length : Int) := by omega
          go_wp2
          go_meet
          case rel => exact ⟨d, KP.out, BB.out⟩
    case rest =>
      obtain ⟨d, hkp, hbel⟩ := hcut
      have hs := hbel.size
      have hlen := hkp.len
      have hsl := hkp.my.inv.len
      have CFw := Lib.hid (few_any A2 ch cap2 wc (H2.out.below hbel) hc2)
      have CCr := Lib.hid (crash_any b d A2 (few ch) cap2 wc hkp.my.at' hkp.my.inv (at_few (H2.out.below hbel)) (by have := few_len ch; omega) (hkp.my.apart (at_few H2.out)))
      have HX := Lib.hid (fun j hj => crash_at hkp.my.inv (few ch) (j := j) hj)
      have HCI := Lib.hid (crash_inv hkp.my.inv (few ch))
      have hcd : (crash d (few ch)).down = false := rfl
      have hcl : (crash d (few ch)).now.length = 5 := (crash_len _ _).trans hlen
      have hclo : (crash d (few ch)).loose = [] := rfl
      have KP := Lib.hid hkp
      have BB := Lib.hid hbel
      clear hkp hbel
      generalize few ch = fc at *
      generalize crash d fc = dc at *
      go_wp2_with (first
        | (go_at_call 15; ((with_reducible refine CFw.out.mono ?_); rintro e w' ⟨rfl, rfl⟩))
        | (go_at_call 14; ((with_reducible refine CCr.out.mono ?_); rintro e w5 ⟨rfl, hd5, ht5⟩; have D5 := Lib.hid hd5; have A8 := Lib.hid (KP.out.a8.tch ht5 N8); have A9 := Lib.hid (KP.out.a9.tch ht5 N9); have B5 := Lib.hid (BB.out.trans (KP.out.my.low ht5 hs)); clear hd5 ht5)))
      go_loopw [78] (fun t wr => ∃ j : Nat, j ≤ 5 ∧ t = .int .i64 (j : Int) ∧ DAt wr b dc ∧ Arr wr g8 d.sure ∧ Arr wr g9 d.now ∧ Below w.heap.size w wr) (fun t _ => 5 - (intOf t).toNat)
      case atStart => exact ⟨0, Nat.zero_le _, rfl, D5.out, A8.out, A9.out, B5.out⟩
      case round =>
        obtain ⟨j, hj, rfl, hd, h8, h9, hbel⟩ := hrel
        clear D5 A8 A9 B5
        by_cases hj5 : j < 5
        · have hjI : (j : Int) < 5 := by omega
          have hre : reach dc (j : Int) = 0 := by unfold reach; rw [hcd, if_neg (by decide), hcl, if_neg (by omega)]
          have CR := Lib.hid (read_any b dc (j : Int) wr hd)
          obtain ⟨nn, hnn, hx⟩ := HX.out j (by omega)
          have hrd : readS dc (j : Int) = tear (d.now.getD j ⟨#[]⟩) (d.sure.getD j ⟨#[]⟩) nn := by unfold readS; rw [if_pos hre, Int.toNat_natCast]; exact hx
          have hps : (d.now.getD j ⟨#[]⟩).size = 256 := size_at KP.out.my.inv.full (by omega)
          have hqs : (d.sure.getD j ⟨#[]⟩).size = 256 := size_at KP.out.my.inv.fulls (by omega)
          have HTR := Lib.hid (fun k hk h => tear_rest hps hqs (k := k) hnn hk h)
          have hts := tear_size hps hqs hnn
          rw [hre, hrd] at CR
          have HD := Lib.hid hd
          have H8 := Lib.hid h8
          have H9 := Lib.hid h9
          have BB := Lib.hid hbel
          have HP8 := Lib.hid (fun W (h : Arr W g8 d.sure) => h.cell (k := j) (by omega))
          have HP9 := Lib.hid (fun W (h : Arr W g9 d.now) => h.cell (k := j) (by omega))
          generalize tear (d.now.getD j ⟨#[]⟩) (d.sure.getD j ⟨#[]⟩) nn = t at *
          generalize d.now.getD j ⟨#[]⟩ = p at *
          generalize d.sure.getD j ⟨#[]⟩ = q at *
          clear hd h8 h9 hbel hre hrd hx hnn
          go_wp2_with (go_at_call 22; ((with_reducible refine CR.out.mono ?_); rintro e w' ⟨rfl, rfl⟩))
          generalize wr = wq at *
          go_loopw [17] (fun t17 wr => ∃ K : Nat, K ≤ 256 ∧ t17 = .int .i64 (K : Int) ∧ DAt wr b dc ∧ Arr wr g8 d.sure ∧ Arr wr g9 d.now ∧ Below w.heap.size w wr) (fun t17 _ => 256 - (intOf t17).toNat)
          case atStart => exact ⟨0, Nat.zero_le _, rfl, HD.out, H8.out, H9.out, BB.out⟩
          case round =>
            obtain ⟨K, hK, rfl, hd, h8, h9, hbel⟩ := hrel
            clear HD H8 H9 BB CR
            have c8 := HP8.out wr h8
            have c9 := HP9.out wr h9
            have HD := Lib.hid hd
            have H8 := Lib.hid h8
            have H9 := Lib.hid h9
            have BB := Lib.hid hbel
            clear hd h8 h9 hbel
            by_cases hK2 : K < 256
            · have hKI : (K : Int) < 256 := by omega
              have hKt : K < t.size := by omega
              have hKp : K < p.size := by omega
              by_cases he : t[K] = p[K]
              · have hb : ((t[K].toNat : Int) == (p[K].toNat : Int)) = true := by rw [he]; simp
                clear he
                go_wp2_with fail
                go_quiet (fail)
                go_wp2
                go_roundw
                case rel => exact ⟨K + 1, by omega, by go_num, HD.out.kept rfl rfl rfl, H8.out, H9.out, ⟨BB.out.os, BB.out.tape, BB.out.output, BB.out.size, BB.out.block⟩⟩
                case measure => simp [intOf]; omega
              · have hb : ((t[K].toNat : Int) == (p[K].toNat : Int)) = false := by
                  rw [beq_eq_false_iff_ne]
                  intro e
                  exact he (UInt8.toNat_inj.1 (by omega))
                have hex := HTR.out K (by omega) (.inr ⟨hKt, hKp, he⟩)
                clear he
                go_wp2_with fail
                go_quiet (fail)
                go_wp2_with fail
                go_quiet (fail)
                go_wp2
                go_roundw
                case rel => exact ⟨j + 1, by omega, by go_num, HD.out.kept rfl rfl rfl, H8.out, H9.out, ⟨BB.out.os, BB.out.tape, BB.out.output, BB.out.size, BB.out.block⟩⟩
                case measure => simp [intOf]; omega
            · have hK3 : K = 256 := by omega
              have hex := HTR.out K (by omega) (.inl hK3)
              have hKd : decide ((K : Int) < 256) = false := by simp; omega
              have hKI : (K : Int) ≤ 256 := by omega
              clear hK3
              go_wp2_with fail
              go_quiet (fail)
              go_wp2_with fail
              go_quiet (fail)
              go_wp2
              go_roundw
              case rel => exact ⟨j + 1, by omega, by go_num, HD.out.kept rfl rfl rfl, H8.out, H9.out, ⟨BB.out.os, BB.out.tape, BB.out.output, BB.out.size, BB.out.block⟩⟩
              case measure => simp [intOf]; omega
        · have hj6 : ¬ (j : Int) < 5 := by omega
          have CL := Lib.hid (loose_any b dc wr hd HCI.out)
          rw [hclo] at CL
          have BB := Lib.hid hbel
          have hs5 := hbel.size
          clear hd h8 h9 hbel
          go_wp2_with (go_at_call 23; ((with_reducible refine CL.out.mono ?_); rintro e w6 ⟨v, rfl, hrow, hb6⟩; obtain ⟨A6, c6, hv6, _⟩ := own_at (V := vInt) (l := []) hrow; subst hv6))
          go_ret
          exact ⟨rfl, BB.out.trans (hb6.mono hs5)⟩
end Dsk
end Go.Proofs.Ytojbanknbgihgaa
