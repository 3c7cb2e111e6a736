/-
  What text and parse do (package pages): a page's sector, there and back.
-/
import Derived.Test.YtnnjcgamhkmljaaPagesAt
import Derived.Test.YtnnjcgamhkmljaaShelf
import Derived.Lib.Repeat
namespace Go.Proofs.Ytnnjcgamhkmljaa
open Go.RowKit
namespace Pg
open B Dsk

theorem crc_one (s : ByteArray) (w : World) (hs : s.size ≤ maxLen) (g : Nat) (hg : g = w.heap.size) : Calls Try.prog 54 #[.slice (some ⟨g, 0, none⟩) 1 1] (w.alloc (.cells #[.string s] 9)) fun e w' => e = .returned (.int .u32 ((Crc.on Crc.start s.data.toList).toNat : Int)) ∧ w.alloc (.cells #[.string s] 9) = w' := by
  subst hg
  have h := of_any [s] w.heap.size 1 (w.alloc (.cells #[.string s] 9)) (by simp) (by simpa using hs) (fun i hi => by
    have : i = 0 := by simpa using hi
    subst this
    rw [World.cell?_alloc_mark]; rfl)
  have e : joined [s] = s.data.toList := by simp [joined]
  rw [e] at h
  exact h
theorem repL (n : Nat) : Lib.repeatL (ByteArray.mk #[0]).data.toList n = List.replicate n (0 : UInt8) := by
  have h := Lib.repeatL_replicate (0 : UInt8) 1 n
  rw [Nat.mul_one] at h
  exact h
theorem rep_any (n : Nat) (i : Int) (w : World) (hn : n ≤ 1000) (hi : i = (n : Int)) : Calls Try.prog 52 #[.string ⟨#[0]⟩, .int .i64 i] w fun e w' => e = .returned (.string ⟨(List.replicate n 0).toArray⟩) ∧ Below w.heap.size w w' := by
  subst hi
  have h := Try.strings_Repeat ⟨#[0]⟩ n w (by omega) (by show 1 * n ≤ _; omega)
  rw [repL] at h
  exact h
theorem conv_two (W : World) (a b : UInt8) (x y : Int) (hx : x = (a.toNat : Int)) (hy : y = (b.toNat : Int)) :
    (convert 109 9 (.slice (some ⟨W.heap.size, 0, none⟩) 2 2)).run Try.prog (W.alloc (.cells #[.int .u8 x, .int .u8 y] 5)) = .ok (.string ⟨#[a, b]⟩) (W.alloc (.cells #[.int .u8 x, .int .u8 y] 5)) := by
  subst hx; subst hy
  refine run_convert_bytes_back (P := Try.prog) (W.alloc (.cells #[.int .u8 (a.toNat : Int), .int .u8 (b.toNat : Int)] 5)) 109 9 5 ⟨W.heap.size, 0, none⟩ 2 [a, b] Try.underlying109 Try.underlying5 Try.underlying9 (fun j hj => ?_)
  rw [add_plain0]
  unfold World.cell?
  rw [heap_last _ _ _ rfl]
  match j, hj with
  | 0, _ => rfl
  | 1, _ => rfl

set_option maxRecDepth 100000 in
set_option maxHeartbeats 4000000 in
theorem text_any (k : Nat) (p : ByteArray) (w : World) (hk : k < 256) (hp : p.size ≤ 240) :
    Calls Try.prog 40 #[.int .i64 (k : Int), .string p] w fun e w' => e = .returned (.string (ptxt k p)) ∧ Below w.heap.size w w' := by
  have hc := conv_two w (UInt8.ofNat k) (UInt8.ofNat p.size) (IntKind.u8.wrap (k : Int)) (IntKind.u8.wrap (p.size : Int)) (by show (k : Int) % 256 = _; rw [UInt8.toNat_ofNat']; omega) (by show (p.size : Int) % 256 = _; rw [UInt8.toNat_ofNat']; omega)
  have e1 : IntKind.u8.wrap (k : Int) = (k : Int) := by show (k : Int) % 256 = _; omega
  have e2 : IntKind.u8.wrap (p.size : Int) = (p.size : Int) := by show (p.size : Int) % 256 = _; omega
  rw [e1, e2] at hc
  have hs1 : (ByteArray.mk #[UInt8.ofNat k, UInt8.ofNat p.size] ++ p).size = 2 + p.size := by rw [cat_size]; rfl
  have HD1 : Hid ((ByteArray.mk #[UInt8.ofNat k, UInt8.ofNat p.size] ++ p).data.toList = UInt8.ofNat k :: UInt8.ofNat p.size :: p.data.toList) := by rw [Hid, cat_data]; rfl
  have CR := Lib.hid (fun W => rep_any (250 - p.size) (252 - (2 + (p.size : Int))) W (by omega) (by omega))
  have hs2 : (ByteArray.mk (List.replicate (250 - p.size) (0 : UInt8)).toArray).size = 250 - p.size := by rw [mk_size]; simp
  have HD2 : Hid ((ByteArray.mk (List.replicate (250 - p.size) (0 : UInt8)).toArray).data.toList = List.replicate (250 - p.size) 0) := by simp [Hid]
  clear hc e1 e2
  have hc := conv_two w (UInt8.ofNat k) (UInt8.ofNat p.size) (k : Int) (p.size : Int) (by rw [UInt8.toNat_ofNat']; omega) (by rw [UInt8.toNat_ofNat']; omega)
  have B0 := Lib.hid ((Below.refl w.heap.size w).alloc (Nat.le_refl _) (.cells #[.int .u8 (k : Int), .int .u8 (p.size : Int)] 5))
  go_enter Try.func40, Try.ntmps40
  go_upto_region 2 with fail
  clear hc
  generalize ByteArray.mk #[UInt8.ofNat k, UInt8.ofNat p.size] ++ p = S1 at *
  generalize ByteArray.mk (List.replicate (250 - p.size) (0 : UInt8)).toArray = S2 at *
  have HD3 : Hid ((S1 ++ S2).data.toList = restL k p) := by rw [Hid, cat_data, HD1.out, HD2.out]; rfl
  have hs3 : (S1 ++ S2).size = 252 := by rw [cat_size, hs1, hs2]; omega
  have CO := Lib.hid (fun W => crc_one (S1 ++ S2) W (by unfold maxLen; omega) _ rfl)
  have CF := Lib.hid (fun W => four_any (Crc.on Crc.start (S1 ++ S2).data.toList) W)
  have hz : (ByteArray.mk (Crc.fourOf (Crc.on Crc.start (S1 ++ S2).data.toList)).toArray).size = 4 := rfl
  have HZ : Hid ((ByteArray.mk (Crc.fourOf (Crc.on Crc.start (S1 ++ S2).data.toList)).toArray).data.toList = Crc.fourOf (Crc.on Crc.start (restL k p))) := by rw [Hid, HD3.out]
  generalize ByteArray.mk (Crc.fourOf (Crc.on Crc.start (S1 ++ S2).data.toList)).toArray = Z at *
  generalize Crc.on Crc.start (S1 ++ S2).data.toList = x at *
  go_wp2_with (first
    | (go_at_call 52; ((with_reducible refine (CR.out _).mono ?_); rintro e w2 ⟨rfl, hb2⟩; have B2 := Lib.hid (B0.out.trans (hb2.mono B0.out.size)); clear hb2))
    | (go_at_call 54; ((with_reducible refine (CO.out _).mono ?_); rintro e w3 ⟨rfl, rfl⟩))
    | (go_at_call 53; ((with_reducible refine (CF.out _).mono ?_); rintro e w4 ⟨rfl, hb4⟩; have B4 := Lib.hid ((B2.out.alloc B2.out.size _).trans (hb4.mono (by have := B2.out.size; simp; omega))); clear hb4)))
  go_ret
  refine ⟨B.ret_str (ext_data ?_), B4.out⟩
  rw [cat_data, HZ.out, HD3.out, ptxt_data]
  rfl
end Pg
end Go.Proofs.Ytnnjcgamhkmljaa
