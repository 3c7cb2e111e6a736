/-
  What the calls of package varint that hold no state do (Num, first), and the document's own Num: the bytes of VarMath, for every number and every text within the reach.
-/
import Derived.Test.YtedhijehmkiieaaRows
import Derived.Test.YtedhijehmkiieaaVarMath
import Derived.WalkKit
import Derived.WalkSpells
import Derived.WalkLawsBesides
import Derived.Laws.BytesArg
import Derived.Laws.IdiomStrings
import Derived.Lib.Hide
import Derived.Deep.DeepCutAuto
namespace Go.Proofs.Ytedhijehmkiieaa
open Go.RowKit
namespace V
theorem ret_int {k : IntKind} {a b : Int} (h : a = b) : Ending.returned (.int k a) = .returned (.int k b) := by rw [h]
theorem ret_str {a b : ByteArray} (h : a = b) : Ending.returned (.string a) = .returned (.string b) := by rw [h]
theorem info5 : (Try.prog.info? 5).map (fun i => (i.zero, i.size, i.bytes)) = some (some (.int .u8 0), 1, 1) := by kernel_rfl

/-- bytes as cells -/
def cellsOf (l : List UInt8) : List Value := l.map fun b => Value.int .u8 (b.toNat : Int)
theorem cellsOf_append (a b : List UInt8) : cellsOf (a ++ b) = cellsOf a ++ cellsOf b := by simp [cellsOf]
theorem cellsOf_length (a : List UInt8) : (cellsOf a).length = a.length := by simp [cellsOf]

theorem or128_nat : ∀ a, a < 256 → a ||| 128 = 128 + a % 128 := by decide +kernel
theorem or128 (X : Nat) : bits .or .u8 ((X : Int) % 256) 128 = ((UInt8.ofNat (128 + X % 128)).toNat : Int) := by
  have h := u8_or_nat (X % 256) 128 (by omega) (by omega)
  have e : ((X % 256 : Nat) : Int) = (X : Int) % 256 := by omega
  rw [e, or128_nat _ (by omega)] at h
  have e2 : (UInt8.ofNat (128 + X % 128)).toNat = 128 + X % 128 := by rw [UInt8.toNat_ofNat']; omega
  rw [e2]
  have e3 : 128 + X % 256 % 128 = 128 + X % 128 := by omega
  rw [e3] at h
  exact h

/-- string(b) of a slice of the call's own -/
theorem own_string {w : World} {base : Nat} {v : Value} {l : List UInt8} (h : w.ownsRow base 5 1 v l.length (cellsOf l)) (hl : l ≠ []) : (convert 105 9 v).run Try.prog w = .ok (.string ⟨l.toArray⟩) w := by
  have hp : 0 < l.length := by cases l <;> simp_all
  rcases h.2 with ⟨_, h0⟩ | ⟨g, cap, cur, rfl, _⟩
  · omega
  · exact run_convert_bytes_back w 105 9 5 ⟨g, 0, none⟩ cap l Try.underlying105 Try.underlying5 Try.underlying9 (fun j hj => h.cells rfl j _ (by simp [cellsOf, List.getElem?_eq_getElem hj]))

set_option maxRecDepth 100000 in
set_option maxHeartbeats 1000000 in
theorem num_any (x : Nat) (w : World) (hx : x < 18446744073709551616) :
    Calls Try.prog 90 #[.int .u64 (x : Int)] w fun e w' => e = .returned (.string ⟨(Var.num x).toArray⟩) ∧ Below w.heap.size w w' := by
  obtain ⟨i0, hi, hz0, hz1, hz2⟩ := info_parts info5
  go_enter Try.func90, Try.ntmps90
  go_wp2
  go_loopw [0, 3] (fun t v wr => ∃ (X : Nat) (L : List UInt8), X < 18446744073709551616 ∧ t = .int .u64 (X : Int) ∧ wr.ownsRow w.heap.size 5 1 v L.length (cellsOf L) ∧ Below w.heap.size w wr ∧ L ++ Var.num X = Var.num x) (fun t _ _ => (intOf t).toNat)
  case atStart => exact ⟨x, [], hx, rfl, World.ownsRow_nil _ _ _ _, Below.refl _ _, rfl⟩
  case round =>
    obtain ⟨X, L, hX, rfl, hown, hbel, hnum⟩ := hrel
    have hten := Var.num_ten x hx
    have hpos := Var.num_pos X
    have hlen : L.length + (Var.num X).length ≤ 10 := by rw [← List.length_append, hnum]; exact hten
    have HN := Lib.hid hnum
    have HO := Lib.hid (or128 X)
    have hbs := hbel.size
    clear hnum hten
    by_cases h : X < 128
    · go_wp2_with (at_builtin; refine wpList_append_own _ rfl _ _ 105 rfl w.heap.size 5 i0 (.int .u8 0) 1 1 Try.underlying105 hi hz0 hz1 hz2 rfl (by decide) _ _ _ rfl (hown.alloc _) ⟨wr.heap.size, 0, none⟩ 1 1 [.int .u8 (X : Int)] rfl rfl (cell_one_new _ _ _) ?c2 ?c3 ?c4 ?c5 ?_)
      case c2 => intro u hu; simp at hu; subst hu; rfl
      case c3 => unfold maxLen; omega
      case c4 => omega
      case c5 => simp; omega
      · intro v' w1 hown' hgrow _
        have hnx : Var.num X = [UInt8.ofNat X] := Var.num_lt h
        have hL : L ++ [UInt8.ofNat X] = Var.num x := by rw [← hnx]; exact HN.out
        have hb1 : Below w.heap.size w w1 := (hbel.alloc hbs _).grown hgrow (by simp; omega) (fun k hk => (hown.lt k hk).1)
        have hst : w1.ownsRow w.heap.size 5 1 v' (L ++ [UInt8.ofNat X]).length (cellsOf (L ++ [UInt8.ofNat X])) := by
          have e : cellsOf [UInt8.ofNat X] = [Value.int .u8 (X : Int)] := by
            simp only [cellsOf, List.map]; rw [UInt8.toNat_ofNat', Nat.mod_eq_of_lt (by omega)]
          rw [cellsOf_append, e, List.length_append]
          exact hown'
        have hstr := own_string hst (by simp)
        rw [hL] at hstr
        clear hown' hgrow hown hst hL hnx
        go_wp2
        go_ret
        exact ⟨rfl, hb1⟩
    · go_wp2_with (at_builtin; refine wpList_append_own _ rfl _ _ 105 rfl w.heap.size 5 i0 (.int .u8 0) 1 1 Try.underlying105 hi hz0 hz1 hz2 rfl (by decide) _ _ _ rfl (hown.alloc _) ⟨wr.heap.size, 0, none⟩ 1 1 [.int .u8 (bits .or .u8 ((X : Int) % 256) 128)] rfl rfl (cell_one_new _ _ _) ?d2 ?d3 ?d4 ?d5 ?_)
      case d2 => intro u hu; simp at hu; subst hu; rfl
      case d3 => unfold maxLen; omega
      case d4 => omega
      case d5 => simp; omega
      · intro v' w1 hown' hgrow _
        have hnx : Var.num X = UInt8.ofNat (128 + X % 128) :: Var.num (X / 128) := Var.num_ge h
        have hL : (L ++ [UInt8.ofNat (128 + X % 128)]) ++ Var.num (X / 128) = Var.num x := by rw [List.append_assoc, List.singleton_append, ← hnx]; exact HN.out
        have hb1 : Below w.heap.size w w1 := (hbel.alloc hbs _).grown hgrow (by simp; omega) (fun k hk => (hown.lt k hk).1)
        have hst : w1.ownsRow w.heap.size 5 1 v' (L ++ [UInt8.ofNat (128 + X % 128)]).length (cellsOf (L ++ [UInt8.ofNat (128 + X % 128)])) := by
          have e : cellsOf [UInt8.ofNat (128 + X % 128)] = [Value.int .u8 (bits .or .u8 ((X : Int) % 256) 128)] := by
            simp only [cellsOf, List.map]; rw [HO.out]
          rw [cellsOf_append, e, List.length_append]
          exact hown'
        have HL := Lib.hid hL
        have HST := Lib.hid hst
        clear hown' hgrow hown hst hL hnx HN HO
        go_wp2
        go_roundw
        case rel => exact ⟨X / 128, _, by omega, by go_num, HST.out, hb1, HL.out⟩
        case measure => simp [intOf]; omega

theorem conv_one (W : World) (b : UInt8) (v : Int) (hv : v = (b.toNat : Int)) :
    (convert 105 9 (.slice (some ⟨W.heap.size, 0, none⟩) 1 1)).run Try.prog (W.alloc (.cells #[.int .u8 v] 5)) = .ok (.string ⟨#[b]⟩) (W.alloc (.cells #[.int .u8 v] 5)) := by
  subst hv
  refine run_convert_bytes_back (P := Try.prog) (W.alloc (.cells #[.int .u8 (b.toNat : Int)] 5)) 105 9 5 ⟨W.heap.size, 0, none⟩ 1 [b] Try.underlying105 Try.underlying5 Try.underlying9 (fun j hj => ?_)
  have : j = 0 := by simpa using hj
  subst this
  show (W.alloc (.cells #[.int .u8 (b.toNat : Int)] 5)).cell? ⟨W.heap.size, 0, none⟩ = _
  rw [World.cell?_alloc_mark]; rfl

theorem cat_mk (L M : List UInt8) : (ByteArray.mk L.toArray) ++ (ByteArray.mk M.toArray) = ByteArray.mk (L ++ M).toArray := by
  apply ByteArray.ext; rw [ByteArray.data_append]; simp
theorem cat_one (L : List UInt8) (b : UInt8) : (ByteArray.mk L.toArray) ++ (ByteArray.mk #[b]) = ByteArray.mk (L ++ [b]).toArray := cat_mk L [b]

theorem cat_bytes (S : ByteArray) (b : UInt8) : (S ++ ByteArray.mk #[b]).data.toList = S.data.toList ++ [b] := by rw [ByteArray.data_append]; simp
theorem of_bytes {S : ByteArray} {l : List UInt8} (h : S.data.toList = l) : S = ⟨l.toArray⟩ := by subst h; rfl

set_option maxRecDepth 100000 in
set_option maxHeartbeats 1000000 in
theorem refNum_any (x : Nat) (w : World) (hx : x < 18446744073709551616) :
    Calls Try.prog 49 #[.int .u64 (x : Int)] w fun e w' => e = .returned (.string ⟨(Var.num x).toArray⟩) ∧ Below w.heap.size w w' := by
  have HXX := Lib.hid hx
  clear hx
  go_enter Try.func49, Try.ntmps49
  go_wp2
  go_loopw [0, 3, 4] (fun t s i wr => ∃ (X : Nat) (S : ByteArray), X < 18446744073709551616 ∧ S.size ≤ 9 ∧ t = .int .u64 (X : Int) ∧ i = .int .i64 (S.size : Int) ∧ s = .string S ∧ Below w.heap.size w wr ∧ S.data.toList ++ Var.num X = Var.num x) (fun t _ _ _ => (intOf t).toNat)
  case atStart => exact ⟨x, ⟨#[]⟩, HXX.out, by decide, rfl, rfl, rfl, Below.refl _ _, rfl⟩
  case round =>
    obtain ⟨X, S, hX, hL9, rfl, rfl, rfl, hbel, hnum⟩ := hrel
    have hten := Var.num_ten x HXX.out
    have HN := Lib.hid hnum
    have hbs := hbel.size
    have hsz : S.data.toList.length = S.size := by rw [Array.length_toList]; rfl
    clear hnum
    by_cases h : X < 128
    · have hL : S.data.toList ++ [UInt8.ofNat X] = Var.num x := by rw [← Var.num_lt h]; exact HN.out
      have hcv := conv_one wr (UInt8.ofNat X) (X : Int) (by rw [UInt8.toNat_ofNat', Nat.mod_eq_of_lt (by omega)])
      have HC := Lib.hid (of_bytes ((cat_bytes S (UInt8.ofNat X)).trans hL))
      clear hL hsz HN hten hX
      generalize UInt8.ofNat X = b at *
      go_wp2
      go_ret
      exact ⟨ret_str HC.out, hbel.alloc hbs _⟩
    · have hnx : Var.num X = UInt8.ofNat (128 + X % 128) :: Var.num (X / 128) := Var.num_ge h
      have hL : (S.data.toList ++ [UInt8.ofNat (128 + X % 128)]) ++ Var.num (X / 128) = Var.num x := by rw [List.append_assoc, List.singleton_append, ← hnx]; exact HN.out
      have hp := Var.num_pos (X / 128)
      have hlen : S.size + 1 ≤ 9 := by
        have h1 := congrArg List.length hL
        simp only [List.length_append, List.length_cons, List.length_nil] at h1
        omega
      have hcv := conv_one wr (UInt8.ofNat (128 + X % 128)) ((128 + (X : Int) % 128)) (by rw [UInt8.toNat_ofNat']; omega)
      have HC := Lib.hid (cat_bytes S (UInt8.ofNat (128 + X % 128)))
      have HL := Lib.hid hL
      have HX := Lib.hid (show X / 128 < 18446744073709551616 by omega)
      clear hL hnx HN hten hsz
      generalize UInt8.ofNat (128 + X % 128) = b at *
      have hb1 : (S ++ ByteArray.mk #[b]).size = S.size + 1 := by rw [ByteArray.size_append]; rfl
      have HB1 := Lib.hid hb1
      clear hb1
      go_wp2
      go_roundw
      case rel => exact ⟨X / 128, S ++ ByteArray.mk #[b], HX.out, by rw [HB1.out]; omega, by go_num, by rw [HB1.out]; go_num, rfl, hbel.alloc hbs _, by rw [HC.out]; exact HL.out⟩
      case measure => simp [intOf]; omega

/-- what 'first' and 'Head' answer -/
def tri (r : Nat × Nat × Nat) : Ending := .returned (.tuple #[.int .u64 (r.1 : Int), .int .i64 (r.2.1 : Int), .int .i64 (r.2.2 : Int)])

theorem tri_eq {x n e : Nat} {a b c : Int} (h1 : a = (x : Int)) (h2 : b = (n : Int)) (h3 : c = (e : Int)) : Ending.returned (.tuple #[.int .u64 a, .int .i64 b, .int .i64 c]) = tri (x, n, e) := by subst h1 h2 h3; rfl
theorem pow_eq (k : Nat) : 128 ^ k = 2 ^ (7 * k) := by rw [Nat.pow_mul]
theorem or_sum (acc k : Nat) (b : UInt8) (hacc : acc < 128 ^ k) (hk : k ≤ 9) (h9 : k = 9 → b.toNat ≤ 1) :
    bits .or .u64 (acc : Int) (IntKind.u64.wrap (IntKind.u64.wrap (bits .and .u8 (b.toNat : Int) 127) * 2 ^ (7 * k))) = ((acc + b.toNat % 128 * 128 ^ k : Nat) : Int) ∧ acc + b.toNat % 128 * 128 ^ k < 18446744073709551616 := by
  have hb := b.toNat_lt
  have e1 : bits .and .u8 (b.toNat : Int) 127 = ((b.toNat % 128 : Nat) : Int) := by
    have h := u8_and_nat b.toNat 127 hb (by omega)
    have h2 : b.toNat &&& 127 = b.toNat % 128 := Nat.and_two_pow_sub_one_eq_mod b.toNat 7
    rw [h2] at h; exact h
  have hp : 128 ^ k ≤ 128 ^ 9 := Nat.pow_le_pow_right (by omega) hk
  have h99 : (128 : Nat) ^ 9 = 9223372036854775808 := by decide
  have hm : b.toNat % 128 * 128 ^ k + 128 ^ k ≤ 18446744073709551616 := by
    by_cases h : k = 9
    · have := h9 h; subst h; rw [h99]; omega
    · have hp8 : 128 ^ k ≤ 128 ^ 8 := Nat.pow_le_pow_right (by omega) (by omega)
      have h88 : (128 : Nat) ^ 8 = 72057594037927936 := by decide
      have : b.toNat % 128 * 128 ^ k ≤ 127 * 128 ^ k := Nat.mul_le_mul_right _ (by omega)
      omega
  have hpos : 0 < 128 ^ k := Nat.pow_pos (by omega)
  refine ⟨?_, by omega⟩
  rw [e1, IntWalk.u64_in ((b.toNat % 128 : Nat) : Int) (by omega)]
  have e2 : ((b.toNat % 128 : Nat) : Int) * 2 ^ (7 * k) = ((b.toNat % 128 * 128 ^ k : Nat) : Int) := by
    rw [pow_eq, Int.natCast_mul, Int.natCast_pow]; rfl
  rw [e2, IntWalk.u64_in ((b.toNat % 128 * 128 ^ k : Nat) : Int) (by omega)]
  have h := u64_or_nat acc (b.toNat % 128 * 128 ^ k) (by omega) (by omega)
  rw [h]
  congr 1
  rw [pow_eq] at hacc ⊢
  have := Nat.two_pow_add_eq_or_of_lt hacc (b.toNat % 128)
  rw [Nat.or_comm, Nat.mul_comm, ← this]; omega

set_option maxRecDepth 100000 in
set_option maxHeartbeats 1000000 in
theorem first_any (s : ByteArray) (w : World) (hs : s.size ≤ maxLen) :
    Calls Try.prog 91 #[.string s] w fun e w' => e = tri (Var.hd 0 0 s.data.toList) ∧ w = w' := by
  unfold maxLen at hs
  go_enter Try.func91, Try.ntmps91
  go_wp2
  go_loop [5, 8] (fun t i => ∃ (k acc : Nat), k ≤ 9 ∧ k ≤ s.size ∧ acc < 128 ^ k ∧ i = .int .i64 (k : Int) ∧ t = .int .u64 (acc : Int) ∧ Var.hd k acc (s.data.toList.drop k) = Var.hd 0 0 s.data.toList) (fun _ i => 10 - (intOf i).toNat)
  case atStart => exact ⟨0, 0, by omega, by omega, by decide, rfl, rfl, rfl⟩
  case round =>
    obtain ⟨k, acc, hk9, hks, hacc, rfl, rfl, hr⟩ := hrel
    have HR := Lib.hid hr
    have HA := Lib.hid hacc
    clear hr hacc
    by_cases hlt : k < s.size
    · have hb := s[k].toNat_lt
      have hdr : s.data.toList.drop k = s[k] :: s.data.toList.drop (k + 1) := List.drop_eq_getElem_cons (by simpa using hlt)
      have hr := HR.out
      rw [hdr] at hr
      have HQ := Lib.hid hr
      clear hr hdr HR
      have HO := Lib.hid (fun h9 : k = 9 → s[k].toNat ≤ 1 => or_sum acc k s[k] HA.out hk9 h9)
      generalize hb' : s[k] = b at *
      by_cases hbad : (0 < k ∧ b.toNat = 0) ∨ (k = 9 ∧ 1 < b.toNat)
      · have HE : Hid (Var.hd 0 0 s.data.toList = (0, 0, 3)) := by have h := HQ.out; rw [Var.hd, if_pos hbad] at h; exact h.symm
        clear HQ HO HA
        by_cases h0 : 0 < k
        · by_cases hz : b.toNat = 0
          · clear hbad
            go_wp2
            go_ret3
            exact ⟨by rw [HE.out]; rfl, rfl⟩
          · have h9 : 8 < k := by omega
            have h1 : 1 < b.toNat := by omega
            clear hbad
            go_wp2
            go_ret3
            exact ⟨by rw [HE.out]; rfl, rfl⟩
        · omega
      · by_cases h128 : b.toNat < 128
        · have HE : Hid (Var.hd 0 0 s.data.toList = (acc + b.toNat * 128 ^ k, k + 1, 0)) := by have h := HQ.out; rw [Var.hd, if_neg hbad, if_pos h128] at h; exact h.symm
          have HV := Lib.hid (HO.out (by omega))
          have em : b.toNat % 128 = b.toNat := Nat.mod_eq_of_lt h128
          have HM := Lib.hid em
          clear HQ HO HA em
          by_cases h0 : 0 < k
          · have hz : 0 < b.toNat := by omega
            by_cases h9 : 8 < k
            · have h1 : b.toNat ≤ 1 := by omega
              have hz1 : ((b.toNat : Int) == 0) = false := by rw [beq_eq_false_iff_ne]; omega
              have hz2 : decide (1 < (b.toNat : Int)) = false := by rw [decide_eq_false_iff_not]; omega
              clear hbad
              go_wp2
              go_ret3
              have hv := HV.out.1; rw [HM.out] at hv
              have hp : (2 : Int) ^ (7 * k) = 9223372036854775808 := by have : k = 9 := by omega
                                                                        subst this; decide
              rw [hp] at hv
              exact ⟨by rw [HE.out]; exact tri_eq hv (by omega) rfl, rfl⟩
            · clear hbad
              go_wp2
              go_ret3
              have hv := HV.out.1; rw [HM.out] at hv
              exact ⟨by rw [HE.out]; exact tri_eq hv (by omega) rfl, rfl⟩
          · have hk0 : k = 0 := by omega
            clear hbad
            subst hk0
            go_wp2
            go_ret3
            have hv := HV.out.1; rw [HM.out] at hv
            simp only [Nat.mul_zero, Int.pow_zero, Int.mul_one] at hv
            exact ⟨by rw [HE.out]; exact tri_eq hv (by omega) rfl, rfl⟩
        · have HE : Hid (Var.hd (k + 1) (acc + b.toNat % 128 * 128 ^ k) (s.data.toList.drop (k + 1)) = Var.hd 0 0 s.data.toList) := by have h := HQ.out; rw [Var.hd, if_neg hbad, if_neg h128] at h; exact h
          have HV := Lib.hid (HO.out (by omega))
          have HN : Hid (acc + b.toNat % 128 * 128 ^ k < 128 ^ (k + 1)) := by
            have h1 := HA.out
            have h2 : b.toNat % 128 * 128 ^ k ≤ 127 * 128 ^ k := Nat.mul_le_mul_right _ (by omega)
            have h3 : 128 ^ (k + 1) = 128 * 128 ^ k := by rw [Nat.pow_succ, Nat.mul_comm]
            show _ < _
            rw [h3]; omega
          clear HQ HO HA
          by_cases h0 : 0 < k
          · have h9 : k < 9 := by omega
            clear hbad
            go_wp2
            go_round
            case rel => exact ⟨k + 1, _, by omega, by omega, HN.out, by go_num, by rw [HV.out.1], HE.out⟩
            case measure => simp [intOf]; omega
          · have hk0 : k = 0 := by omega
            clear hbad
            subst hk0
            go_wp2
            have hv := HV.out.1
            simp only [Nat.mul_zero, Int.pow_zero, Int.mul_one] at hv
            go_round
            case rel => exact ⟨1, _, by omega, by omega, HN.out, by go_num, by rw [hv], HE.out⟩
            case measure => simp [intOf]
    · have HE : Hid (Var.hd 0 0 s.data.toList = (0, 0, 2)) := by
        have h := HR.out
        rw [List.drop_eq_nil_of_le (by rw [Array.length_toList]; show s.size ≤ k; omega)] at h
        exact h.symm
      clear HR HA
      go_wp2
      go_ret3
      exact ⟨by rw [HE.out]; rfl, rfl⟩
end V
end Go.Proofs.Ytedhijehmkiieaa
