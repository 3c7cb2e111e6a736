/-
  The program's disk: a sector of a text.
-/
import Derived.Test.YtnnjcgamhkmljaaDiskAt
import Derived.Lib.BufferWrite
import Derived.Laws.CopyOwn
namespace Go.Proofs.Ytnnjcgamhkmljaa
open Go.RowKit
namespace Dsk
open B
def zer : Array Value := Array.replicate 256 (.int .u8 0)
theorem zer_size : zer.size = 256 := by simp [zer]
theorem zer_list : zer.toList = List.replicate 256 (.int .u8 0) := Array.toList_replicate
theorem zero256 (w : World) : (zeroValue 108).run Try.prog w = .ok (.agg zer) w := by kernel_rfl
theorem info5 : (Try.prog.info? 5).map (·.size) = some 1 := by kernel_rfl
theorem conv_fill (s : ByteArray) (w : World) (hs : s.size ≤ 256) :
    (convert 109 9 (.slice (some ⟨w.heap.size, 0, none⟩) 256 256)).run Try.prog ((w.alloc (.cells zer 108)).setRow w.heap.size (Lib.byteCells s.data.toList ++ List.drop s.size zer.toList).toArray) =
      .ok (.string (fill s)) ((w.alloc (.cells zer 108)).setRow w.heap.size (Lib.byteCells s.data.toList ++ List.drop s.size zer.toList).toArray) := by
  have hg := setRow_heap (w.alloc (.cells zer 108)) w.heap.size zer (Lib.byteCells s.data.toList ++ List.drop s.size zer.toList).toArray 108 (0, 0) (heap_last _ _ _ rfl)
  generalize (w.alloc (.cells zer 108)).setRow w.heap.size (Lib.byteCells s.data.toList ++ List.drop s.size zer.toList).toArray = W at *
  have hl : (s.data.toList ++ List.replicate (256 - s.size) 0).length = 256 := by rw [List.length_append, List.length_replicate, size_data]; omega
  have hb : Lib.byteCells s.data.toList ++ List.drop s.size zer.toList = (s.data.toList ++ List.replicate (256 - s.size) 0).map (fun b : UInt8 => Value.int .u8 (b.toNat : Int)) := by
    rw [List.map_append]
    have h1 : Lib.byteCells s.data.toList = s.data.toList.map (fun b : UInt8 => Value.int .u8 (b.toNat : Int)) := rfl
    rw [h1, zer_list, List.drop_replicate, List.map_replicate]; rfl
  have h := run_convert_bytes_back (P := Try.prog) W 109 9 5 ⟨w.heap.size, 0, none⟩ 256 (s.data.toList ++ List.replicate (256 - s.size) 0) Try.underlying109 Try.underlying5 Try.underlying9 (fun j hj => by
    rw [add_plain0]
    unfold World.cell?
    rw [hg, hb]
    show ((s.data.toList ++ List.replicate (256 - s.size) 0).map (fun b : UInt8 => Value.int .u8 (b.toNat : Int))).toArray[j]? = _
    rw [List.getElem?_toArray, List.getElem?_map, List.getElem?_eq_getElem hj]; rfl)
  rw [hl] at h
  exact h
set_option maxRecDepth 100000 in
set_option maxHeartbeats 1000000 in
theorem filled_any (s : ByteArray) (w : World) (hs : s.size ≤ 256) :
    Calls Try.prog 33 #[.string s] w fun e w' => e = .returned (.string (fill s)) ∧ Below w.heap.size w w' := by
  have hz := zero256
  have hzs := zer_size
  have hcp := fun ty => Lib.run_copy_row_string (P := Try.prog) (w.alloc (.cells zer 108)) 109 9 ty 5 w.heap.size 0 256 256 s zer 108 Try.underlying109 info5 (heap_last _ _ _ rfl) hs (by rw [hzs]; omega)
  have hcv := conv_fill s w hs
  generalize zer = Z at *
  go_enter Try.func33, Try.ntmps33
  go_wp2
  go_ret
  exact ⟨rfl, below_setRow ((Below.refl _ _).alloc (Nat.le_refl _) _) (Nat.le_refl _) _⟩
end Dsk
end Go.Proofs.Ytnnjcgamhkmljaa
