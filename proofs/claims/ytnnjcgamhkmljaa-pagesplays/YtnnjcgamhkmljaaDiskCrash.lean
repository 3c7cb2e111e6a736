/-
  What the document's own Crash does (layer 5).
-/
import Derived.Test.YtnnjcgamhkmljaaDiskFlush
import Derived.Deep.RegionHeld3
import Derived.Deep.AppendLies
namespace Go.Proofs.Ytnnjcgamhkmljaa
open Go.RowKit
namespace Dsk
open B

/-- how many bytes stay, of the k-th -/
def keepN (ch : List Int) (k : Nat) : Nat := if h : k < ch.length then min (ch[k] % 512).toNat 256 else 0
theorem keepN_le (ch : List Int) (k : Nat) : keepN ch k ≤ 256 := by unfold keepN; split <;> omega
def tear (a b : ByteArray) (n : Nat) : ByteArray := a.extract 0 n ++ b.extract n 256
def crashFrom (sure : List ByteArray) (ch : List Int) : List ByteArray → Nat → List Int → List ByteArray
  | L, _, [] => L
  | L, k, i :: r => crashFrom sure ch (L.set i.toNat (tear (L.getD i.toNat ⟨#[]⟩) (sure.getD i.toNat ⟨#[]⟩) (keepN ch k))) (k + 1) r
def crash (d : D) (ch : List Int) : D := ⟨crashFrom d.sure ch d.now 0 d.loose, crashFrom d.sure ch d.now 0 d.loose, [], d.writes, -1, false⟩

theorem mod512 (y : Int) : (wrap64 (y.tmod 512 + 512)).tmod 512 = ((y % 512).toNat : Int) := by
  have h1 : y.tmod 512 + 512 ≥ 0 := by have := Int.lt_tmod_of_pos y (show (0 : Int) < 512 by decide); omega
  have h2 : y.tmod 512 < 512 := Int.tmod_lt_of_pos y (by decide)
  have hw : wrap64 (y.tmod 512 + 512) = y.tmod 512 + 512 := by unfold wrap64; go_num
  rw [hw, Int.tmod_eq_emod_of_nonneg h1]
  have : (y.tmod 512 + 512) % 512 = y % 512 := by
    rw [Int.add_emod_right, Int.tmod_eq_emod]
    split <;> omega
  rw [this]; omega
theorem tear_size {p q : ByteArray} {n : Nat} (hp : p.size = 256) (hq : q.size = 256) (hn : n ≤ 256) : (tear p q n).size = 256 := by
  unfold tear; rw [cat_size, ByteArray.size_extract, ByteArray.size_extract]; omega

theorem tear_256 {p q : ByteArray} (hq : q.size = 256) : tear p q 256 = p.extract 0 256 := by
  apply ext_data
  unfold tear
  rw [cat_data, ← hq, ByteArray.data_extract (a := q), Array.toList_extract]; simp [List.extract]
theorem tear_0 (p q : ByteArray) : tear p q 0 = q.extract 0 256 := by
  apply ext_data
  unfold tear
  rw [cat_data, ByteArray.data_extract (a := p), Array.toList_extract]; simp [List.extract]

end Dsk
end Go.Proofs.Ytnnjcgamhkmljaa
