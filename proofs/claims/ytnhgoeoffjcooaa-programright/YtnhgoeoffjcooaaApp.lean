/-
  append, inside a region that draws its order: onto a slice of nothing that was made just now, from whatever slice of one-cell elements, nil let in.
-/
import Derived.Test.YtnhgoeoffjcooaaBase
import Derived.Deep.RegionLaw
import Derived.Deep.RegionLawGrows
import Derived.Deep.AppendLies
namespace Go.Proofs.Ytnhgoeoffjcooaa
open Go.RowKit
namespace B
theorem at_news {α : Type} {V : α → Value} {w : World} {ad : Addr} {xs : List α} (h : At V w (some ad) xs) : ∀ j u, (xs.map V)[j]? = some u → w.cell? (ad.add j) = some u := by
  intro j u hj
  have hjl : j < xs.length := by
    rcases Nat.lt_or_ge j xs.length with h1 | h1
    · exact h1
    · rw [List.getElem?_eq_none (by rw [List.length_map]; exact h1)] at hj; cases hj
  obtain ⟨b, off, e', _, hc⟩ := h (by omega)
  obtain rfl := Option.some.inj e'
  have hp : (⟨b, off, Option.none⟩ : Addr).add j = ⟨b, off + j, Option.none⟩ := by unfold Addr.add; split <;> simp_all
  rw [hp, hc j hjl]
  simp [List.getElem?_eq_getElem hjl] at hj
  rw [← hj]
theorem below_none {w w' : World} (h : w.grownBy w' none) : Below w.heap.size w w' := ⟨h.os, h.tape, h.output, h.size, fun i hi => h.block i hi (by simp)⟩
theorem own_le {w : World} {M M' t size n : Nat} {v : Value} {xs : List Value} (h : w.ownsRow M t size v n xs) (hM : M' ≤ M) : w.ownsRow M' t size v n xs := by
  refine ⟨h.1, ?_⟩
  rcases h.2 with hn | ⟨g, cap, cur, rfl, hb, r⟩
  · exact .inl hn
  · exact .inr ⟨g, cap, cur, rfl, Nat.le_trans hM hb, r⟩
theorem step_lit_at {α : Type} {V : α → Value} {w : World} {ops : Array Oper} {o : Oper} {a : Act} {K : Act → World → Prop} {Q : Exit → Act → World → Prop} {E : Prop} (hgd : o.guard = none) (s x : Operand) (t e : TypeId)
    (ho : o.op = .call { callee := .builtin .append, args := #[s, x], argTypes := #[t, t] })
    (base : Nat) (i : TypeInfo) (z : Value) (bytes : Nat) (ht : Try.prog.underlying t = some (.slice e)) (hi : Try.prog.info? e = some i) (hz : i.zero = some z) (hsize : i.size = 1) (hby : i.bytes = bytes) (hzs : z.cells.size = 1) (hbb : bytes ≤ 64)
    (g : Nat) (xs : List α) (h1 : ∀ y : α, (V y).oneCell' = true) (hs : a.eval s = .slice (some ⟨g, 0, none⟩) 0 0) (hown : w.ownsRow base e 1 (.slice (some ⟨g, 0, none⟩) 0 0) 0 []) (A : Option Addr) (c : Nat) (hx : a.eval x = .slice A xs.length c) (hI : At V w A xs) (hn : A = none → c = 0)
    (h63 : xs.length ≤ 10000000) (hbase : base ≤ w.heap.size)
    (h : ∀ v' w', w'.ownsRow base e 1 v' xs.length (xs.map V) → Below w.heap.size w w' → K (a.put o.dst v') w') :
    if Region.wanted o (yielded ops a.tmps) = true then Oper.wp Try.prog o a w K Q else E := by
  have hw : Region.wanted o (yielded ops a.tmps) = true := by simp [Region.wanted, hgd]
  cases A with
  | none =>
    have hxs := hI.none
    subst hxs
    have hc := hn rfl
    subst hc
    rw [if_pos hw]
    have hrun := run_append_owned_none (P := Try.prog) (w := w) base t o.type e i 1 ht hi (.slice (some ⟨g, 0, none⟩) 0 0) 0 [] hown
    have hx' : a.eval x = .slice none 0 0 := hx
    unfold Oper.wp execOp
    simp only [ho, resolve, invoke, builtin, Sem.run_bind, Sem.run_pure, Result.andThen_ok, List.map_toArray, List.map_cons, List.map_nil, hs, hx', hrun]
    exact h _ w hown (Below.refl _ _)
  | some ad =>
    by_cases hx0 : xs.length = 0
    · have hxs : xs = [] := List.eq_nil_of_length_eq_zero hx0
      subst hxs
      refine step_append_room hgd s x t ho e i 1 ht hi hsize g 0 0 0 hs ad 0 c [] hx rfl (fun j u hj => by simp at hj) (fun u hu => by cases hu) (Nat.le_refl _) (fun j hj => by simp at hj) ?_
      exact h _ w hown (Below.refl _ _)
    · refine step_append_grows hgd s x t ho e i z 1 bytes ht hi hz hsize hby hzs (by decide) (some ⟨g, 0, none⟩) 0 0 [] hs (fun h => by cases h) rfl (fun b _ j u hj => by simp at hj) ad xs.length c (xs.map V) hx (by rw [List.length_map]; omega) (at_news hI) (fun u hu => by obtain ⟨y, _, rfl⟩ := List.mem_map.1 hu; exact h1 y) (by omega) (by unfold maxLen; omega) ?_ ?_
      · have h2 : (0 + xs.length) * bytes ≤ 10000000 * 64 := Nat.mul_le_mul (by omega) hbb
        exact Nat.le_trans h2 (Nat.le_of_ble_eq_true rfl)
      · intro v' w' h2 h3
        exact h v' w' (own_le (by simpa using h2) hbase) (below_none h3)
end B
end Go.Proofs.Ytnhgoeoffjcooaa
