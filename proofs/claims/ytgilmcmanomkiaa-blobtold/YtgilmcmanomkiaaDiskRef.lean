/-
  What the document's own disk does (layer 5): a sector, a turn, a number more.
-/
import Derived.Test.YtgilmcmanomkiaaDiskMath
namespace Go.Proofs.Ytgilmcmanomkiaa
open Go.RowKit
namespace Dsk
open B

set_option maxRecDepth 100000 in
set_option maxHeartbeats 1000000 in
theorem refFill_any (s : ByteArray) (w : World) (hs : s.size ≤ 1000000) :
    Calls Try.prog 50 #[.string s] w fun e w' => e = .returned (.string (fill s)) ∧ Below w.heap.size w w' := by
  go_enter Try.func50, Try.ntmps50
  go_wp2
  go_loopw [0] (fun t wr => ∃ S : ByteArray, S.size ≤ 1000000 ∧ t = .string S ∧ Below w.heap.size w wr ∧ fill S = fill s) (fun t _ => 256 - (match t with | .string S => S.size | _ => 0))
  case atStart => exact ⟨s, hs, rfl, Below.refl _ _, rfl⟩
  case round =>
    obtain ⟨S, hS, rfl, hb, hf⟩ := hrel
    have hbs := hb.size
    by_cases h : S.size < 256
    · have HF := Lib.hid ((fill_step h).trans hf)
      have hcv := conv_one wr 0 0 rfl
      have hc : (S ++ ByteArray.mk #[0]).size = S.size + 1 := by rw [cat_size]; rfl
      have HC := Lib.hid hc
      clear hf hc
      go_wp2
      go_roundw
      case rel => exact ⟨_, by rw [HC.out]; omega, rfl, hb.alloc hbs _, HF.out⟩
      case measure => simp only [HC.out]; omega
    · have HF := Lib.hid ((fill_full (by omega : 256 ≤ S.size)).symm.trans hf)
      clear hf
      go_wp2
      go_ret
      exact ⟨ret_str HF.out, hb⟩

/-- a disk's value, of its three slices -/
abbrev dval (x y z : Value) (wr h : Int) (dn : Bool) : Value := .agg #[x, y, z, .int .i64 wr, .int .i64 h, .bool dn]

theorem info_parts {t : TypeId} {z : Value} {a b : Nat} (h : (Try.prog.info? t).map (fun i => (i.zero, i.size, i.bytes)) = some (some z, a, b)) : ∃ i, Try.prog.info? t = some i ∧ i.zero = some z ∧ i.size = a ∧ i.bytes = b := by
  cases hi : Try.prog.info? t with
  | none => rw [hi] at h; cases h
  | some i =>
    rw [hi] at h
    simp only [Option.map_some, Option.some.injEq, Prod.mk.injEq] at h
    exact ⟨i, rfl, h.1, h.2.1, h.2.2⟩
theorem two_len {α : Type} (G : List α) (x y : α) : ((G ++ [x]) ++ [y]).length = G.length + 1 + 1 := by simp

end Dsk
end Go.Proofs.Ytgilmcmanomkiaa
