/-
  The program's disk: New.
-/
import Derived.Test.YtnnjcgamhkmljaaDiskNew
import Derived.Test.YtnnjcgamhkmljaaDiskMake
namespace Go.Proofs.Ytnnjcgamhkmljaa
open Go.RowKit
namespace Dsk
open B

theorem filled0 (w : World) : Calls Try.prog 33 #[.string ⟨#[]⟩] w fun e w' => e = .returned (.string zero) ∧ Below w.heap.size w w' := filled_any ⟨#[]⟩ w (by decide)
theorem new_inv (n : Nat) (h2 : 1 ≤ n) (hn : n ≤ 65536) : Inv (new n) := by
  have hz : zero.size = 256 := fill_size (by decide)
  refine ⟨rfl, by simp [new]; omega, by simp [new]; exact hn, ?_, ?_, ?_, List.Pairwise.nil, ?_, by simp [new], by simp [new]⟩
  · intro s hs; rw [List.eq_of_mem_replicate hs]; exact hz
  · intro s hs; rw [List.eq_of_mem_replicate hs]; exact hz
  · intro x hx; cases hx
  · intro k _ _; rfl
theorem laid_at {w : World} {g n : Nat} {z : ByteArray} (h : w.heap[g]? = some (.cells (laid z n n).toArray 9)) : At vStr w (some ⟨g, 0, none⟩) (List.replicate n z) := by
  intro hp
  refine ⟨g, 0, rfl, blk_lt h, fun i hi => ?_⟩
  rw [List.length_replicate] at hi
  rw [Nat.zero_add, row_cell h, laid_get z hi, List.getElem_replicate]
theorem lo_new {w : World} {g : Nat} (sure : List ByteArray) (h : w.heap[g]? = some (.map #[] 0)) : LoAt w g [] sure :=
  ⟨.map [], ⟨#[], 0, h, ⟨by simp, MapKept.stamped_empty 0, by simp⟩, Nat.le_refl _, rfl⟩, fun k => rfl, fun k hk => by cases hk⟩

theorem repeat_i (z : ByteArray) (n q : Nat) (i : Int) (w : World) (hi : i = (n : Int)) (hn : 1 ≤ n) (hn2 : n ≤ 65536) (hc : w.cell? ⟨q, 0, none⟩ = some (.string z)) (hq : q < w.heap.size) :
    Calls Try.prog 32 #[.slice (some ⟨q, 0, none⟩) 1 1, .int .i64 i] w fun e w' => e = .returned (.slice (some ⟨w.heap.size, 0, none⟩) n n) ∧ w'.heap[w.heap.size]? = some (.cells (laid z n n).toArray 9) ∧ Below w.heap.size w w' := by
  subst hi; exact repeat_any z n q w hn hn2 hc hq
set_option maxRecDepth 100000 in
set_option maxHeartbeats 2000000 in
theorem new_any (n : Nat) (i : Int) (w : World) (hi : i = (n : Int)) (h2 : 2 ≤ n) (hn : n ≤ 65536) :
    Calls Try.prog 6 #[.int .i64 i] w fun e w' => ∃ b : Bl, e = .returned (.pointer (some ⟨b.g, 0, none⟩)) ∧ DAt w' b (new n) ∧ (w.heap.size ≤ b.g ∧ w.heap.size ≤ b.bs ∧ w.heap.size ≤ b.bm) ∧ Below w.heap.size w w' := by
  have hmm := @run_makeMap Try.prog
  have h3 : ¬ (i < 2) := by omega
  have h4 : ¬ (65536 < i) := by omega
  have h5 : 2 ≤ i := by omega
  have h6 : i ≤ 65536 := by omega
  have HI := Lib.hid hi
  clear hi
  go_enter Try.func6, Try.ntmps6
  go_wp2_with (first
    | (go_at_call 33; ((with_reducible refine (filled0 _).mono ?_); rintro e w1 ⟨rfl, hb1⟩))
    | (go_at_call 32; ((with_reducible refine (repeat_i zero n w1.heap.size _ _ (by have := HI.out; omega) (by omega) hn (row_cell (heap_last w1 _ _ rfl) 0) (by simp)).mono ?_); rintro e w2 ⟨rfl, hk2, hb2⟩; have HK2 := Lib.hid hk2; have HB2 := Lib.hid hb2; have HS := Lib.hid hb2.size; clear hk2 hb2)))
  go_ret
  have b1s := hb1.size
  have b2 : Below w.heap.size w w2 := (hb1.alloc b1s _).trans (HB2.out.mono (by simp; omega))
  have hs2 : w1.heap.size + 1 < w2.heap.size := by
    have := blk_lt HK2.out
    simpa using this
  have hk : w2.heap[w1.heap.size + 1]? = some (.cells (laid zero n n).toArray 9) := by simpa using HK2.out
  refine ⟨⟨w2.heap.size + 1, w1.heap.size + 1, w2.heap.size⟩, rfl, ?_, ⟨by simp; omega, by simp; omega, by simp; omega⟩, (b2.alloc b2.size _).alloc (by simp; omega) _⟩
  have hk' : ∀ p q : Obj, ((w2.alloc p).alloc q).heap[w1.heap.size + 1]? = some (.cells (laid zero n n).toArray 9) := fun p q => hp_old _ (hp_old _ hk)
  refine ⟨⟨n, -1, ?_, .inl rfl, by omega, by omega⟩, ?_, ?_, by simp; omega, ?_, by simp; omega, by simp, by simp; omega⟩
  · rw [heap_last _ _ _ (by simp)]
    simp [new]
  · exact laid_at (hk' _ _)
  · intro j; exact row_frozen (hk' _ _) j
  · exact lo_new _ (hp_old _ (heap_last _ _ _ rfl))
end Dsk
end Go.Proofs.Ytnnjcgamhkmljaa
