/-
  The statement's own 'reads' of layer 7.
-/
import Derived.Test.YtnnjcgamhkmljaaPagesRA
import Derived.Test.YtnnjcgamhkmljaaPagesCon
namespace Go.Proofs.Ytnnjcgamhkmljaa
open Go.RowKit
namespace Pp
open B Dsk
set_option linter.unusedVariables false
def toPg (x : Pg.Pag) : Pp.Pg := ((x.1 : Int), x.2)
theorem cells_at : ∀ (l : List Pp.Pg) (i : Nat) (h : i < l.length), (cells l)[i * 2]? = some (.int .i64 l[i].1) ∧ (cells l)[i * 2 + 1]? = some (.string l[i].2)
  | x :: l, 0, _ => ⟨rfl, rfl⟩
  | x :: l, i + 1, h => by
    have := cells_at l i (by simpa using h)
    have e : cells (x :: l) = .int .i64 x.1 :: .string x.2 :: cells l := rfl
    rw [e, show (i + 1) * 2 = i * 2 + 1 + 1 by omega]
    simpa using this
theorem PR.at {w : World} {A : Option Addr} {l : List Pp.Pg} (h : PR w A l) {i : Nat} (hi : i < l.length) : ∃ b off, A = some ⟨b, off, none⟩ ∧ w.cell? ⟨b, off + i * 2, none⟩ = some (.int .i64 l[i].1) ∧ w.cell? ⟨b, off + i * 2 + 1, none⟩ = some (.string l[i].2) := by
  obtain ⟨b, off, h1, _, h3⟩ := h (by omega)
  obtain ⟨c1, c2⟩ := cells_at l i hi
  exact ⟨b, off, h1, h3 _ _ c1, by rw [Nat.add_assoc]; exact h3 _ _ c2⟩
set_option maxRecDepth 100000 in
set_option maxHeartbeats 4000000 in
theorem reads_any {Bd : Nat} (b : Bl) (d : D) (g : Nat) (half next : Int) (A : Option Addr) (c : Nat) (l : List Pg.Pag) (w : World) (h : Pg.PMy Bd w b d g half next) (hu : Pg.Up d) (hC : Pg.Con d half l) (hn : (l.length : Int) ≤ next) (hA : PR w A (l.map toPg)) (hl : l.length ≤ 40000) :
    Calls Try.prog 22 #[.pointer (some ⟨g, 0, none⟩), .slice A l.length c] w fun e w' => e = .returned (.bool true) ∧ Below w.heap.size w w' := by
  have CR := Lib.hid (fun W (q : Below w.heap.size w W) (i : Nat) (hi : i < l.length) => (show Calls Try.prog 11 #[.pointer (some ⟨g, 0, none⟩), .int .i64 (i : Int)] W fun e w' => e = .returned (.tuple #[.int .i64 (l[i].1 : Int), .string l[i].2, .int .i64 0]) ∧ Below W.heap.size W w' by
    have := Pg.pread_my b d g half next (i : Int) W (h.below q)
    rw [hC.read hu h.sz h.hh hi (by omega) h.n1] at this
    exact this))
  have HA := Lib.hid hA
  clear hA hC hu h
  go_enter Try.func22, Try.ntmps22
  go_wp2
  go_loopw [12] (fun t12 wr => ∃ i : Nat, i ≤ l.length ∧ t12 = .int .i64 (i : Int) ∧ Below w.heap.size w wr) (fun t12 _ => l.length - (intOf t12).toNat)
  case atStart => exact ⟨0, Nat.zero_le _, rfl, Below.refl _ _⟩
  case round =>
    obtain ⟨i, hi, rfl, hb⟩ := hrel
    have B1 := Lib.hid hb
    clear hb
    by_cases hlt : i < l.length
    · have hI : (i : Int) < (l.length : Int) := by omega
      obtain ⟨b', off, hA', c0, c1⟩ := (HA.out.below B1.out).at (i := i) (by simpa using hlt)
      rw [List.getElem_map] at c0 c1
      subst hA'
      have bX := Nod.below1 wr (.cells #[.int .i64 (l[i].1 : Int), .string l[i].2] 48)
      have B2 := Lib.hid (B1.out.trans (bX.mono B1.out.size))
      have H2 := Lib.hid (heap_last wr (.cells #[.int .i64 (l[i].1 : Int), .string l[i].2] 48) _ rfl)
      have CR2 := Lib.hid (CR.out _ B2.out i hlt)
      unfold toPg at c0 c1
      simp only at c0 c1
      clear bX
      generalize l[i] = x at *
      obtain ⟨xk, xs⟩ := x
      simp only at c0 c1 CR2 H2 B2
      go_upto_region 4 with fail
      generalize wr.alloc (.cells #[.int .i64 (xk : Int), .string xs] 48) = W2 at *
      generalize wr.heap.size = g6 at *
      go_wp2_with (go_at_call 11; ((with_reducible refine CR2.out.mono ?_); rintro e w3 ⟨rfl, hb3⟩; have B3 := Lib.hid (B2.out.trans (hb3.mono B2.out.size)); obtain ⟨z0, z1⟩ := row2 (blk_below H2.out hb3 (blk_lt H2.out)); clear hb3))
      go_roundw
      case rel => exact ⟨i + 1, by omega, by go_num, B3.out⟩
      case measure => simp [intOf]; omega
    · have hI : ¬ (i : Int) < (l.length : Int) := by omega
      go_wp2
      go_ret
      exact ⟨rfl, B1.out⟩
end Pp
end Go.Proofs.Ytnnjcgamhkmljaa
