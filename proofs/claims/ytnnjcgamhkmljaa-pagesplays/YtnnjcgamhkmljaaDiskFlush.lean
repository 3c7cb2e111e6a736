/-
  What the document's own Flush does (layer 5).
-/
import Derived.Test.YtnnjcgamhkmljaaDiskRef
namespace Go.Proofs.Ytnnjcgamhkmljaa
open Go.RowKit
namespace Dsk
open B

/-- a disk's value reads as a disk -/
def Is (p : Nat → Prop) (w : World) (v : Value) (d : D) : Prop := ∃ A1 c1 A2 c2 A3 c3, v = dval (.slice A1 d.now.length c1) (.slice A2 d.sure.length c2) (.slice A3 d.loose.length c3) d.writes d.halt d.down ∧
  At vStr w A1 d.now ∧ At vStr w A2 d.sure ∧ At vInt w A3 d.loose ∧ (A1 = none → c1 = 0) ∧ (A2 = none → c2 = 0) ∧ (A3 = none → c3 = 0) ∧ (0 < d.now.length → ∀ a, A1 = some a → p a.block) ∧ (0 < d.sure.length → ∀ a, A2 = some a → p a.block) ∧ (0 < d.loose.length → ∀ a, A3 = some a → p a.block)
theorem Is.below {p : Nat → Prop} {w w' : World} {v : Value} {d : D} (h : Is p w v d) (hb : Below w.heap.size w w') : Is p w' v d := by
  obtain ⟨A1, c1, A2, c2, A3, c3, e, h1, h2, h3, r⟩ := h
  exact ⟨A1, c1, A2, c2, A3, c3, e, h1.below hb, h2.below hb, h3.below hb, r⟩
theorem own_from {w : World} {B e n m c : Nat} {A : Option Addr} {l : List Value} (h : w.ownsRow B e 1 (.slice A m c) n l) : ∀ a, A = some a → B ≤ a.block := by
  intro a ha
  subst ha
  exact (h.lt a.block rfl).1
/-- numbers that no turn makes too great -/
structure Ok (d : D) : Prop where
  w0 : 0 ≤ d.writes
  w1 : d.writes ≤ 1000000000000
  h0 : -9223372036854775808 ≤ d.halt
  h1 : d.halt ≤ 9223372036854775807
  n1 : d.now.length ≤ 100000
  n2 : d.sure.length ≤ 100000
  n3 : d.loose.length ≤ 100000

end Dsk
end Go.Proofs.Ytnnjcgamhkmljaa
