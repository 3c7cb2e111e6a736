/-
  Programs: program.Clone. Made by wip/gen/proclone.py.
-/
import Derived.Test.YtnhgoeoffjcooaaProCln
namespace Go.Proofs.Ytnhgoeoffjcooaa
open Go.RowKit
namespace Pm
open B
set_option linter.unusedVariables false
theorem KL.weak {B M : Nat} {w : World} {v : Value} {l : List Int} (h : KL B B w v l) (hM : M ≤ B) : KL M M w v l := by
  obtain ⟨A, c, h1, h2, h3, h4, h5, h6⟩ := h
  exact ⟨A, c, h1, h2, h3, h4, h5, fun a q => ⟨Nat.le_trans hM (h6 a q).1, fun hp => ⟨((h6 a q).2 hp).1, .inr (((h6 a q).2 hp).2.resolve_left (fun e => absurd (h6 a q).1 (by omega)))⟩⟩⟩
theorem own_form {w : World} {M t size n : Nat} {v : Value} {xs : List Value} (h : w.ownsRow M t size v n xs) : ∃ A c, v = .slice A n c := by
  rcases h.2 with ⟨rfl, h0⟩ | ⟨g, cap, cur, rfl, _⟩
  · subst h0; exact ⟨_, _, rfl⟩
  · exact ⟨_, _, rfl⟩
theorem own_lo {w : World} {M M' t size n : Nat} {v : Value} {xs : List Value} (h : w.ownsRow M t size v n xs) (hM : M' ≤ M) : w.ownsRow M' t size v n xs := by
  refine ⟨h.1, ?_⟩
  rcases h.2 with hn | ⟨g, cap, cur, hv, hg, r⟩
  · exact .inl hn
  · exact .inr ⟨g, cap, cur, hv, Nat.le_trans hM hg, r⟩
theorem own_some {w : World} {M t size n m c : Nat} {A : Option Addr} {xs : List Value} (h : w.ownsRow M t size (.slice A m c) n xs) (hn : 0 < n) : ∃ g, A = some ⟨g, 0, none⟩ ∧ M ≤ g ∧ (∃ cs fr, w.heap[g]? = some (.cells cs t fr)) ∧ (∀ j u, xs[j]? = some u → w.cell? ⟨g, j, none⟩ = some u) ∧ ∀ j, w.frozen? ⟨g, j, none⟩ = false := by
  have h' := h
  rcases h.2 with ⟨e, h0⟩ | ⟨g, cap, cur, e, hM, hg, _⟩
  · omega
  · injection e with e1 e2 e3
    subst e1 e2 e3
    refine ⟨g, rfl, hM, ⟨_, _, hg⟩, fun j u hj => ?_, fun j => ?_⟩
    · have := h'.cells rfl j u hj
      rw [add_plain0] at this; exact this
    · unfold World.frozen?; rw [hg]; simp
theorem set_same {α : Type} {L : List α} {i : Nat} {x : α} (h : L[i]? = some x) : L.set i x = L := by
  apply List.ext_getElem?
  intro j
  rw [List.getElem?_set]
  by_cases hij : i = j
  · subst hij
    have hl : i < L.length := by
      rcases Nat.lt_or_ge i L.length with h1 | h1
      · exact h1
      · rw [List.getElem?_eq_none h1] at h; cases h
    rw [if_pos rfl, if_pos hl]; exact h.symm
  · rw [if_neg hij]
theorem flat_set {α : Type} {E : El α} (pos : Nat) (hk : pos < E.k) (hp : ∀ v v' x, E.cs v' x = (E.cs v x).set pos v') : ∀ (ps : List (Value × α)) (i : Nat) (h : i < ps.length) (v' : Value), flat E (ps.set i (v', ps[i].2)) = (flat E ps).set (i * E.k + pos) v'
  | x :: ps, 0, _, v' => by
    simp only [List.set_cons_zero, flat_cons, List.getElem_cons_zero]
    rw [hp x.1 v' x.2, Nat.zero_mul, Nat.zero_add]
    rw [List.set_append_left _ _ (by rw [E.len]; exact hk)]
  | x :: ps, i + 1, hi, v' => by
    simp only [List.set_cons_succ, flat_cons, List.getElem_cons_succ]
    rw [flat_set pos hk hp ps i (by simpa using hi) v', List.set_append_right _ _ (by rw [E.len, Nat.add_mul, Nat.one_mul]; omega)]
    congr 2
    rw [E.len, Nat.add_mul, Nat.one_mul]; omega
def CLV (M : Nat) (l : List Int) (v : Value) (W : World) : Prop := ∃ A c, v = .slice A l.length c ∧ KL M M W v l
theorem clv_grow {M : Nat} {l : List Int} (v : Value) (W W' : World) (h : CLV M l v W) (hb : Below W.heap.size W W') : CLV M l v W' := by obtain ⟨A, c, h1, h2⟩ := h; exact ⟨A, c, h1, h2.below hb⟩
set_option maxRecDepth 100000 in
set_option maxHeartbeats 20000000 in
theorem clone_any (lo : Nat) (p : P) (Af : Option Addr) (cf : Nat) (Ae : Option Addr) (ce : Nat) (Ao : Option Addr) (co : Nat) (w : World) (h : PIn lo w p Af cf Ae ce Ao co) (hs : Sm p) :
    Calls Try.prog 17 #[pv p Af cf Ae ce Ao co] w fun e w' => ∃ Bf df Be de Bo d, e = .returned (pv p Bf df Be de Bo d) ∧ PIn w.heap.size w' p Bf df Be de Bo d ∧ Below w.heap.size w w' := by
  have CF := Lib.hid (fun X (q : Below w.heap.size w X) => cloneF_any lo Af p.fs cf w X h.f q h.fn hs.f)
  have CO := Lib.hid (fun X (q : Below w.heap.size w X) => cloneO_any lo Ao p.ops co w X h.o q h.on hs.o)
  have CIE := Lib.hid (fun X (q : Below w.heap.size w X) => cloneI_any lo (.slice Ae p.en.length ce) p.en X (h.e.below q) hs.e)
  have SFl := Lib.hid hs.f
  have SOl := Lib.hid hs.o
  have SPl := Lib.hid hs.fp
  have SAl := Lib.hid hs.oa
  have bA := below1 w (.cells #[.int .i64 p.vars, .int .i64 p.objs, .int .i64 p.fields, .slice Af p.fs.length cf, .slice Ae p.en.length ce, .slice Ao p.ops.length co] 33)
  have bB := below1 (w.alloc (.cells #[.int .i64 p.vars, .int .i64 p.objs, .int .i64 p.fields, .slice Af p.fs.length cf, .slice Ae p.en.length ce, .slice Ao p.ops.length co] 33)) (.cells #[.int .i64 0, .int .i64 0, .int .i64 0, .slice none 0 0, .slice none 0 0, .slice none 0 0] 33)
  have B0 := Lib.hid (bA.trans (bB.mono bA.size))
  have R1 := Lib.hid (hp_old (.cells #[.int .i64 0, .int .i64 0, .int .i64 0, .slice none 0 0, .slice none 0 0, .slice none 0 0] 33) (heap_last w (.cells #[.int .i64 p.vars, .int .i64 p.objs, .int .i64 p.fields, .slice Af p.fs.length cf, .slice Ae p.en.length ce, .slice Ao p.ops.length co] 33) w.heap.size rfl))
  have R2 := Lib.hid (heap_last (w.alloc (.cells #[.int .i64 p.vars, .int .i64 p.objs, .int .i64 p.fields, .slice Af p.fs.length cf, .slice Ae p.en.length ce, .slice Ao p.ops.length co] 33)) (.cells #[.int .i64 0, .int .i64 0, .int .i64 0, .slice none 0 0, .slice none 0 0, .slice none 0 0] 33) (w.heap.size + 1) (by simp))
  clear bA bB h hs
  go_enter Try.func17, Try.ntmps17
  go_upto_region 1 with fail
  generalize (w.alloc (.cells #[.int .i64 p.vars, .int .i64 p.objs, .int .i64 p.fields, .slice Af p.fs.length cf, .slice Ae p.en.length ce, .slice Ao p.ops.length co] 33)).alloc (.cells #[.int .i64 0, .int .i64 0, .int .i64 0, .slice none 0 0, .slice none 0 0, .slice none 0 0] 33) = W at *
  obtain ⟨rp0, rp1, rp2, rp3, rp4, rp5, rq0, rq1, rq2, rq3, rq4, rq5⟩ := row6 R1.out
  go_upto_region 2 with (go_at_call 38; ((with_reducible refine (CF.out _ B0.out).mono ?_); rintro e W1 ⟨vf, psF, rfl, hps1, how1, hpx1, hb1⟩; have B01 := Lib.hid (B0.out.trans (hb1.mono B0.out.size)); have RZ1 := Lib.hid (blk_below R2.out hb1 (blk_lt R2.out)); have RG1 := Lib.hid (blk_below R1.out hb1 (blk_lt R1.out)); have OWF1 := Lib.hid (own_lo how1 B0.out.size); have PSF := Lib.hid hps1; have PXF := Lib.hid hpx1; obtain ⟨VA, vc, hvf⟩ := own_form how1; rw [show psF.length = p.fs.length by rw [← hps1]; simp] at hvf; subst hvf; clear hps1 how1 hpx1 hb1 rp0 rp1 rp2 rp3 rp4 rp5 rq0 rq1 rq2 rq3 rq4 rq5; obtain ⟨rp0, rp1, rp2, rp3, rp4, rp5, rq0, rq1, rq2, rq3, rq4, rq5⟩ := row6 RG1.out))
  have RG := Lib.hid (blk_set (cs := [_, _, _, _, _, _]) RG1.out 3 (.slice VA p.fs.length vc))
  have RZ := Lib.hid (blk_other (i := 3) RZ1.out (show w.heap.size + 1 ≠ w.heap.size by omega) (.slice VA p.fs.length vc))
  have OWF := Lib.hid (ownsRow_setCell_other OWF1.out (a := ⟨w.heap.size, 3, none⟩) (own_ty OWF1.out RG1.out (by decide)) (.slice VA p.fs.length vc))
  have B1 := Lib.hid (B01.out.setCell (p := ⟨w.heap.size, 3, none⟩) (Nat.le_refl _) (.slice VA p.fs.length vc))
  generalize W1.setCell ⟨w.heap.size, 3, none⟩ (.slice VA p.fs.length vc) = W2 at *
  clear B0 B01 RZ1 RG1 OWF1 R1 R2 rp0 rp1 rp2 rp3 rp4 rp5 rq0 rq1 rq2 rq3 rq4 rq5
  obtain ⟨rp0, rp1, rp2, rp3, rp4, rp5⟩ := cells6 RG.out
  go_wp2
  go_loopw [14] (fun t wr => ∃ (i : Nat) (qs : List (Value × F)), t = .int .i64 (i : Int) ∧ i ≤ p.fs.length ∧ qs.map Prod.snd = p.fs ∧ wr.heap[w.heap.size]? = some (.cells #[.int .i64 p.vars, .int .i64 p.objs, .int .i64 p.fields, .slice VA p.fs.length vc, .slice Ae p.en.length ce, .slice Ao p.ops.length co] 33) ∧ wr.ownsRow w.heap.size 45 2 (.slice VA p.fs.length vc) qs.length (flat elF qs) ∧ (∀ j (h : j < qs.length), j < i → KL w.heap.size w.heap.size wr qs[j].1 (elF.il qs[j].2)) ∧ (∀ j (h : j < qs.length), i ≤ j → IL lo w qs[j].1 (elF.il qs[j].2)) ∧ (∀ x ∈ qs, elF.ok x.2) ∧ wr.heap[w.heap.size + 1]? = some (.cells #[.int .i64 0, .int .i64 0, .int .i64 0, .slice none 0 0, .slice none 0 0, .slice none 0 0] 33) ∧ Below w.heap.size w wr) (fun t _ => p.fs.length - (intOf t).toNat)
  case atStart => exact ⟨0, psF, rfl, Nat.zero_le _, PSF.out, RG.out, OWF.out, fun j h q => absurd q (Nat.not_lt_zero j), fun j h _ => (PXF.out _ (List.getElem_mem h)).1, fun x hx => (PXF.out x hx).2, RZ.out, B1.out⟩
  case round =>
    obtain ⟨i, qs, rfl, hil, hqs, hg, hown, hnew, hold, hok, hz, hb⟩ := hrel
    have RG2 := Lib.hid hg
    have OW2 := Lib.hid hown
    have QN := Lib.hid hnew
    have QO := Lib.hid hold
    have QK := Lib.hid hok
    have QS := Lib.hid hqs
    have RZ2 := Lib.hid hz
    have B2 := Lib.hid hb
    have hql : qs.length = p.fs.length := by rw [← hqs]; simp
    have QL := Lib.hid hql
    clear hg hown hnew hold hok hqs hz hb hql RG RZ B1 PSF PXF OWF psF
    by_cases hin : i < p.fs.length
    · have hI : (i : Int) < (p.fs.length : Int) := by omega
      have hiq : i < qs.length := by rw [QL.out]; exact hin
      obtain ⟨gr, hVA, hgM, hgH, hgC, hgZ⟩ := own_some OW2.out (by have := QL.out; omega)
      subst hVA
      have LX : p.fs[i]? = some qs[i].2 := by rw [← QS.out]; simp [List.getElem?_eq_getElem hiq]
      have OI := Lib.hid (QO.out i hiq (Nat.le_refl _))
      have XL : Hid (qs[i].2.ps.length ≤ 2000000) := Lib.hid (SPl.out _ (List.mem_of_getElem? LX))
      have FA := fun j u hj => flat_at (E := elF) qs i hiq j u hj
      have FS := fun v' => flat_set (E := elF) 0 (by decide) (fun _ _ _ => rfl) qs i hiq v'
      have FL : i * 2 + 0 < (flat elF qs).length := by
        rw [flat_len]
        show i * 2 + 0 < qs.length * 2
        omega
      obtain ⟨y, hy⟩ : ∃ y, qs[i] = y := ⟨_, rfl⟩
      rw [hy] at OI XL FA FS
      have HY := Lib.hid hy
      clear hy LX
      obtain ⟨xv, x⟩ := y
      simp only at FA FS
      obtain ⟨A, c, hxv, hAt, _⟩ := OI.out
      simp only at hxv
      subst hxv
      have IX := Lib.hid (OI.out.below (show Below w.heap.size w wr from B2.out))
      have FSH := Lib.hid FS
      have FLH := Lib.hid FL
      have c0 : wr.cell? ⟨gr, 0 + i * 2, none⟩ = some (.slice A x.ps.length c) := by have := hgC _ _ (FA 0 _ rfl); rw [Nat.zero_add]; exact this
      have c0' : wr.cell? ⟨gr, i * 2, none⟩ = some (.slice A x.ps.length c) := by have := hgC _ _ (FA 0 _ rfl); exact this
      have c1 : wr.cell? ⟨gr, 0 + i * 2 + 1, none⟩ = some (.int .i64 x.ret) := by have := hgC _ _ (FA 1 _ rfl); rw [Nat.zero_add]; exact this
      have c1' : wr.cell? ⟨gr, i * 2 + 1, none⟩ = some (.int .i64 x.ret) := by have := hgC _ _ (FA 1 _ rfl); exact this
      clear FA FS FL OI hAt
      have GC := Lib.hid hgC
      have GZ := Lib.hid hgZ
      have GH := Lib.hid hgH
      have bX := below1 wr (.cells #[.slice A x.ps.length c, .int .i64 x.ret] 45)
      have BX := Lib.hid bX
      have RX := Lib.hid (heap_last wr (.cells #[.slice A x.ps.length c, .int .i64 x.ret] 45) wr.heap.size rfl)
      have SZ : wr.heap.size < (wr.alloc (.cells #[.slice A x.ps.length c, .int .i64 x.ret] 45)).heap.size := by simp
      obtain ⟨rp0, rp1, rp2, rp3, rp4, rp5⟩ := cells6 RG2.out
      clear bX hgC hgZ hgH
      go_upto_region 5 with fail
      have RG3 := Lib.hid (blk_below RG2.out BX.out (blk_lt RG2.out))
      have OW3 := Lib.hid (own_below OW2.out BX.out)
      have QN3 := Lib.hid (fun j (h : j < qs.length) (hj : j < i) => (QN.out j h hj).below BX.out)
      have RZ3 := Lib.hid (blk_below RZ2.out BX.out (blk_lt RZ2.out))
      have IX3 := Lib.hid (IX.out.below BX.out)
      have B3 := Lib.hid (B2.out.trans (BX.out.mono B2.out.size))
      have MW := Lib.hid (Nat.le_trans B2.out.size BX.out.size)
      generalize hW3 : wr.alloc (.cells #[.slice A x.ps.length c, .int .i64 x.ret] 45) = W3 at *
      generalize hGX : wr.heap.size = gx at *
      clear hGX hW3 rp0 rp1 rp2 rp3 rp4 rp5 c0 c0' c1 c1' B2 BX RG2 OW2 QN RZ2 IX GC GZ GH
      refine Gr.regionT 6 (fun i => i + 19) (by kernel_rfl) (by kernel_rfl) (Gr.spφ [.val (.pointer (some ⟨w.heap.size, 3, none⟩)), .val (.slice (some ⟨gr, 0, none⟩) p.fs.length vc), .val (.int .i64 (i : Int)), .val (.pointer (some ⟨gx, 0, none⟩)), .val (.slice A x.ps.length c), .cls (CLV w.heap.size x.ps) (clv_grow)]) (Gr.spφ_grow _) ?_ ?_
      · intro q o a W4 hi ho hb hfr hpre
        have t1 : a.tmps[1]?.getD undef = .pointer (some ⟨w.heap.size, 0, none⟩) := Gr.slot (hfr.f 1 (by intro j hj; omega))
        have t3 : a.tmps[3]?.getD undef = .int .i64 (i : Int) := Gr.slot (hfr.f 3 (by intro j hj; omega))
        have t4 : a.tmps[4]?.getD undef = .pointer (some ⟨gx, 0, none⟩) := Gr.slot (hfr.f 4 (by intro j hj; omega))
        obtain ⟨k0, k1, k2, k3, k4, k5⟩ := cells6 (blk_below RG3.out hb (blk_lt RG3.out))
        obtain ⟨rx0, rx1⟩ := two (blk_below RX.out hb (blk_lt RX.out))
        match q, hi with
        | 0, _ =>
          obtain rfl := Option.some.inj ho
          refine Gr.val (v := .pointer (some ⟨w.heap.size, 3, none⟩)) (w' := W4) (by simp [go_sem, t1]) ⟨_, rfl, rfl, Below.refl _ _⟩
        | 1, _ =>
          have p19 : a.tmps[19]?.getD undef = .pointer (some ⟨w.heap.size, 3, none⟩) := Gr.slot (hpre { on := 0, ground := .data } (by obtain rfl := Option.some.inj ho; simp) rfl (by decide))
          obtain rfl := Option.some.inj ho
          refine Gr.val (v := .slice (some ⟨gr, 0, none⟩) p.fs.length vc) (w' := W4) (by simp [go_sem, p19, k3]) ⟨_, rfl, rfl, Below.refl _ _⟩
        | 2, _ =>
          obtain rfl := Option.some.inj ho
          refine Gr.val (v := .int .i64 (i : Int)) (w' := W4) (by simp [go_sem, t3]) ⟨_, rfl, rfl, Below.refl _ _⟩
        | 3, _ =>
          obtain rfl := Option.some.inj ho
          refine Gr.val (v := .pointer (some ⟨gx, 0, none⟩)) (w' := W4) (by simp [go_sem, t4]) ⟨_, rfl, rfl, Below.refl _ _⟩
        | 4, _ =>
          have p22 : a.tmps[22]?.getD undef = .pointer (some ⟨gx, 0, none⟩) := Gr.slot (hpre { on := 3, ground := .data } (by obtain rfl := Option.some.inj ho; simp) rfl (by decide))
          obtain rfl := Option.some.inj ho
          refine Gr.val (v := .slice A x.ps.length c) (w' := W4) (by simp [go_sem, p22, rx0]) ⟨_, rfl, rfl, Below.refl _ _⟩
        | 5, _ =>
          have p23 : a.tmps[23]?.getD undef = .slice A x.ps.length c := Gr.slot (hpre { on := 4, ground := .data } (by obtain rfl := Option.some.inj ho; simp) rfl (by decide))
          obtain rfl := Option.some.inj ho
          refine Gr.call (f := 39) (args := #[.slice A x.ps.length c]) (by simp [go_sem, p23]) ((cloneI_any lo (.slice A x.ps.length c) x.ps W4 (IX3.out.below hb) XL.out).mono ?_)
          rintro e w' ⟨A1, c1, rfl, h1, h2⟩
          exact ⟨_, rfl, _, rfl, ⟨A1, c1, rfl, (h1.below (Below.refl _ _)).weak (Nat.le_trans MW.out hb.size)⟩, h2⟩
        | q + 6, h => omega
      intro o1 o2 o3 a W4 h1 h2 h3 hb hfr hall
      obtain ⟨A1, c1, hv5, hk5⟩ : CLV w.heap.size x.ps (a.eval (.tmp 24)) W4 := hall 5 (by omega)
      have t20 : a.tmps[20]?.getD undef = .slice (some ⟨gr, 0, none⟩) p.fs.length vc := Gr.slot (hall 1 (by omega))
      have t21 : a.tmps[21]?.getD undef = .int .i64 (i : Int) := Gr.slot (hall 2 (by omega))
      have t24 := Gr.slot hv5
      rw [hv5] at hk5
      have hds : a.tmps.size = 54 := hfr.s
      have RG4 := Lib.hid (blk_below RG3.out hb (blk_lt RG3.out))
      have OW4 := Lib.hid (own_below OW3.out hb)
      have QN4 := Lib.hid (fun j (h : j < qs.length) (hj : j < i) => (QN3.out j h hj).below hb)
      have RZ4 := Lib.hid (blk_below RZ3.out hb (blk_lt RZ3.out))
      have KK4 := Lib.hid hk5
      have B4 := Lib.hid (B3.out.trans (hb.mono B3.out.size))
      obtain ⟨gr', hgr', _, ⟨cu, fr, hgH⟩, hgC, hgZ⟩ := own_some OW4.out (by have := QL.out; omega)
      injection hgr' with hgr'
      injection hgr' with hgr'
      subst hgr'
      obtain ⟨z0, z1⟩ : (W4.cell? ⟨gr, i * 2, none⟩).isSome = true ∧ W4.frozen? ⟨gr, i * 2, none⟩ = false := by
        refine ⟨?_, hgZ _⟩
        have e0 : W4.cell? ⟨gr, i * 2, none⟩ = some ((flat elF qs)[i * 2 + 0]'FLH.out) := hgC (i * 2 + 0) _ (List.getElem?_eq_getElem FLH.out)
        rw [e0]; rfl
      obtain ⟨zv, z0⟩ := Option.isSome_iff_exists.mp z0
      obtain rfl := Option.some.inj h1
      obtain rfl := Option.some.inj h2
      obtain rfl := Option.some.inj h3
      have hI0 : (0 : Int) ≤ (i : Int) := by omega
      have t24' : a.tmps[24]'(by rw [hds]; decide) = .slice A1 x.ps.length c1 := by
        have q := t24
        rw [Array.getElem?_eq_getElem (by rw [hds]; decide)] at q
        exact q
      refine Gr.val (a := a) (v := .pointer (some ⟨gr, i * 2, none⟩)) (w' := W4) (by simp [go_sem, t20, t21, hI, Addr.add]; (try (intro q; exact q.symm))) ?_
      refine Gr.val (a := a.put (some 25) (.pointer (some ⟨gr, i * 2, none⟩))) (v := .pointer (some ⟨gr, i * 2, none⟩)) (w' := W4) (by simp [go_sem, Act.put, hds, Addr.add]) ?_
      refine Gr.skip (a := (a.put (some 25) (.pointer (some ⟨gr, i * 2, none⟩))).put (some 26) (.pointer (some ⟨gr, i * 2, none⟩))) (w' := W4.setCell ⟨gr, i * 2, none⟩ (.slice A1 x.ps.length c1)) (by simp [go_sem, Act.put, hds, t24', z0, z1]) rfl ?_
      have hne0 : w.heap.size ≠ gr := fun q => by subst q; rw [RG4.out] at hgH; injection hgH with hgH; injection hgH with _ hgH _; revert hgH; decide
      have hne1 : w.heap.size + 1 ≠ gr := fun q => by subst q; rw [RZ4.out] at hgH; injection hgH with hgH; injection hgH with _ hgH _; revert hgH; decide
      have hgM2 : w.heap.size ≤ gr := hgM
      have RG6 := Lib.hid ((Below.heap_setCell W4 ⟨gr, i * 2, none⟩ (.slice A1 x.ps.length c1) w.heap.size hne0).trans RG4.out)
      have RZ6 := Lib.hid ((Below.heap_setCell W4 ⟨gr, i * 2, none⟩ (.slice A1 x.ps.length c1) (w.heap.size + 1) hne1).trans RZ4.out)
      have OW6 : Hid ((W4.setCell ⟨gr, i * 2, none⟩ (.slice A1 x.ps.length c1)).ownsRow w.heap.size 45 2 (.slice (some ⟨gr, 0, none⟩) p.fs.length vc) (qs.set i (.slice A1 x.ps.length c1, x)).length (flat elF (qs.set i (.slice A1 x.ps.length c1, x)))) := Lib.hid (by
        rw [FSH.out, List.length_set]
        have hn := OW4.out
        rw [QL.out] at hn ⊢
        exact own_setc hn FLH.out)
      have QN6 : Hid (∀ j (h : j < (qs.set i (.slice A1 x.ps.length c1, x)).length), j < i + 1 → KL w.heap.size w.heap.size (W4.setCell ⟨gr, i * 2, none⟩ (.slice A1 x.ps.length c1)) (qs.set i (.slice A1 x.ps.length c1, x))[j].1 (elF.il (qs.set i (.slice A1 x.ps.length c1, x))[j].2)) := Lib.hid (fun j h hj => by
        by_cases hji : j = i
        · subst hji
          rw [List.getElem_set_self]
          exact KK4.out.set (t' := 45) _ hgH hgM2 (by decide)
        · rw [List.getElem_set_ne (fun e => hji e.symm)]
          exact (QN4.out j (by simpa using h) (by omega)).set (t' := 45) _ hgH hgM2 (by decide))
      have QO6 : Hid (∀ j (h : j < (qs.set i (.slice A1 x.ps.length c1, x)).length), i + 1 ≤ j → IL lo w (qs.set i (.slice A1 x.ps.length c1, x))[j].1 (elF.il (qs.set i (.slice A1 x.ps.length c1, x))[j].2)) := Lib.hid (fun j h hj => by
        rw [List.getElem_set_ne (by omega)]
        exact QO.out j (by simpa using h) (by omega))
      have QK6 : Hid (∀ z ∈ qs.set i (.slice A1 x.ps.length c1, x), elF.ok z.2) := Lib.hid (fun z hz => by
        rcases List.mem_or_eq_of_mem_set hz with hz | hz
        · exact QK.out z hz
        · have := QK.out _ (List.getElem_mem hiq)
          rw [HY.out] at this
          rw [hz]; exact this)
      have QS6 : Hid ((qs.set i (.slice A1 x.ps.length c1, x)).map Prod.snd = p.fs) := Lib.hid (by
        rw [List.map_set, QS.out]
        refine set_same ?_
        have e0 : (qs.map Prod.snd)[i]? = some qs[i].2 := by simp [List.getElem?_eq_getElem hiq]
        rw [QS.out, HY.out] at e0
        exact e0)
      have B6 := Lib.hid (B4.out.setCell (p := ⟨gr, i * 2, none⟩) hgM2 (.slice A1 x.ps.length c1))
      generalize W4.setCell ⟨gr, i * 2, none⟩ (.slice A1 x.ps.length c1) = W6 at *
      have ev := fun (s : Nat) (h1 : s ≠ 25) (h2 : s ≠ 26) (h3 : ∀ j, j < 6 → j + 19 ≠ s) => (show ((a.put (some 25) (.pointer (some ⟨gr, i * 2, none⟩))).put (some 26) (.pointer (some ⟨gr, i * 2, none⟩))).eval (.tmp s) = a.eval (.tmp s) from by
        rw [Gr.eval_put _ (by simp [Act.put, hds]), if_neg (Ne.symm h2), Gr.eval_put _ (by rw [hds]; decide), if_neg (Ne.symm h1)]).trans (hfr.f s h3)
      have hd3 : ((a.put (some 25) (.pointer (some ⟨gr, i * 2, none⟩))).put (some 26) (.pointer (some ⟨gr, i * 2, none⟩))).defers = [] := hfr.d
      have hs3 : ((a.put (some 25) (.pointer (some ⟨gr, i * 2, none⟩))).put (some 26) (.pointer (some ⟨gr, i * 2, none⟩))).tmps.size = 54 := by simp [Act.put, hds]
      have v0 := ev 0 (by decide) (by decide) (by intro j hj; omega)
      have v1 := ev 1 (by decide) (by decide) (by intro j hj; omega)
      have v2 := ev 2 (by decide) (by decide) (by intro j hj; omega)
      have v5 := ev 5 (by decide) (by decide) (by intro j hj; omega)
      have v6 := ev 6 (by decide) (by decide) (by intro j hj; omega)
      have v7 := ev 7 (by decide) (by decide) (by intro j hj; omega)
      have v8 := ev 8 (by decide) (by decide) (by intro j hj; omega)
      have v9 := ev 9 (by decide) (by decide) (by intro j hj; omega)
      have v10 := ev 10 (by decide) (by decide) (by intro j hj; omega)
      have v11 := ev 11 (by decide) (by decide) (by intro j hj; omega)
      have v12 := ev 12 (by decide) (by decide) (by intro j hj; omega)
      have v13 := ev 13 (by decide) (by decide) (by intro j hj; omega)
      have v28 := ev 28 (by decide) (by decide) (by intro j hj; omega)
      have v29 := ev 29 (by decide) (by decide) (by intro j hj; omega)
      have v30 := ev 30 (by decide) (by decide) (by intro j hj; omega)
      have v31 := ev 31 (by decide) (by decide) (by intro j hj; omega)
      have v32 := ev 32 (by decide) (by decide) (by intro j hj; omega)
      have v33 := ev 33 (by decide) (by decide) (by intro j hj; omega)
      have v34 := ev 34 (by decide) (by decide) (by intro j hj; omega)
      have v35 := ev 35 (by decide) (by decide) (by intro j hj; omega)
      have v36 := ev 36 (by decide) (by decide) (by intro j hj; omega)
      have v37 := ev 37 (by decide) (by decide) (by intro j hj; omega)
      have v38 := ev 38 (by decide) (by decide) (by intro j hj; omega)
      have v39 := ev 39 (by decide) (by decide) (by intro j hj; omega)
      have v40 := ev 40 (by decide) (by decide) (by intro j hj; omega)
      have v41 := ev 41 (by decide) (by decide) (by intro j hj; omega)
      have v42 := ev 42 (by decide) (by decide) (by intro j hj; omega)
      have v43 := ev 43 (by decide) (by decide) (by intro j hj; omega)
      have v44 := ev 44 (by decide) (by decide) (by intro j hj; omega)
      have v45 := ev 45 (by decide) (by decide) (by intro j hj; omega)
      have v46 := ev 46 (by decide) (by decide) (by intro j hj; omega)
      have v47 := ev 47 (by decide) (by decide) (by intro j hj; omega)
      have v48 := ev 48 (by decide) (by decide) (by intro j hj; omega)
      have v49 := ev 49 (by decide) (by decide) (by intro j hj; omega)
      have v50 := ev 50 (by decide) (by decide) (by intro j hj; omega)
      have v51 := ev 51 (by decide) (by decide) (by intro j hj; omega)
      have v52 := ev 52 (by decide) (by decide) (by intro j hj; omega)
      have v53 := ev 53 (by decide) (by decide) (by intro j hj; omega)
      have v14 := ev 14 (by decide) (by decide) (by intro j hj; omega)
      clear ev t24' hds t20 t21 t24 hfr hall hv5 hk5 z0 z1 hb hgC hgZ hgH
      generalize (a.put (some 25) (.pointer (some ⟨gr, i * 2, none⟩))).put (some 26) (.pointer (some ⟨gr, i * 2, none⟩)) = a3 at *
      obtain ⟨n3, hn3⟩ : ∃ u, a3.tmps[3]?.getD undef = u := ⟨_, rfl⟩
      obtain ⟨n4, hn4⟩ : ∃ u, a3.tmps[4]?.getD undef = u := ⟨_, rfl⟩
      obtain ⟨n15, hn15⟩ : ∃ u, a3.tmps[15]?.getD undef = u := ⟨_, rfl⟩
      obtain ⟨n16, hn16⟩ : ∃ u, a3.tmps[16]?.getD undef = u := ⟨_, rfl⟩
      obtain ⟨n17, hn17⟩ : ∃ u, a3.tmps[17]?.getD undef = u := ⟨_, rfl⟩
      obtain ⟨n18, hn18⟩ : ∃ u, a3.tmps[18]?.getD undef = u := ⟨_, rfl⟩
      obtain ⟨n19, hn19⟩ : ∃ u, a3.tmps[19]?.getD undef = u := ⟨_, rfl⟩
      obtain ⟨n20, hn20⟩ : ∃ u, a3.tmps[20]?.getD undef = u := ⟨_, rfl⟩
      obtain ⟨n21, hn21⟩ : ∃ u, a3.tmps[21]?.getD undef = u := ⟨_, rfl⟩
      obtain ⟨n22, hn22⟩ : ∃ u, a3.tmps[22]?.getD undef = u := ⟨_, rfl⟩
      obtain ⟨n23, hn23⟩ : ∃ u, a3.tmps[23]?.getD undef = u := ⟨_, rfl⟩
      obtain ⟨n24, hn24⟩ : ∃ u, a3.tmps[24]?.getD undef = u := ⟨_, rfl⟩
      obtain ⟨n25, hn25⟩ : ∃ u, a3.tmps[25]?.getD undef = u := ⟨_, rfl⟩
      obtain ⟨n26, hn26⟩ : ∃ u, a3.tmps[26]?.getD undef = u := ⟨_, rfl⟩
      obtain ⟨n27, hn27⟩ : ∃ u, a3.tmps[27]?.getD undef = u := ⟨_, rfl⟩
      have hA : a3 = ⟨#[pv p Af cf Ae ce Ao co, .pointer (some ⟨w.heap.size, 0, none⟩), .pointer (some ⟨w.heap.size + 1, 0, none⟩), n3, n4, undef, undef, .pointer (some ⟨w.heap.size, 3, none⟩), .slice Af p.fs.length cf, .slice (some ⟨gr, 0, none⟩) p.fs.length vc, .pointer (some ⟨w.heap.size, 3, none⟩), .pointer (some ⟨w.heap.size, 3, none⟩), .slice (some ⟨gr, 0, none⟩) p.fs.length vc, .int .i64 (p.fs.length : Int), .int .i64 (i : Int), n15, n16, n17, n18, n19, n20, n21, n22, n23, n24, n25, n26, n27, undef, undef, undef, undef, undef, undef, undef, undef, undef, undef, undef, undef, undef, undef, undef, undef, undef, undef, undef, undef, undef, undef, undef, undef, undef, undef], []⟩ := Gr.act_eq (l := [pv p Af cf Ae ce Ao co, .pointer (some ⟨w.heap.size, 0, none⟩), .pointer (some ⟨w.heap.size + 1, 0, none⟩), n3, n4, undef, undef, .pointer (some ⟨w.heap.size, 3, none⟩), .slice Af p.fs.length cf, .slice (some ⟨gr, 0, none⟩) p.fs.length vc, .pointer (some ⟨w.heap.size, 3, none⟩), .pointer (some ⟨w.heap.size, 3, none⟩), .slice (some ⟨gr, 0, none⟩) p.fs.length vc, .int .i64 (p.fs.length : Int), .int .i64 (i : Int), n15, n16, n17, n18, n19, n20, n21, n22, n23, n24, n25, n26, n27, undef, undef, undef, undef, undef, undef, undef, undef, undef, undef, undef, undef, undef, undef, undef, undef, undef, undef, undef, undef, undef, undef, undef, undef, undef, undef]) hd3 hs3 (by
        intro i hi
        match i, hi with
        | 0, _ => exact Gr.slot v0
        | 1, _ => exact Gr.slot v1
        | 2, _ => exact Gr.slot v2
        | 3, _ => exact hn3
        | 4, _ => exact hn4
        | 5, _ => exact Gr.slot v5
        | 6, _ => exact Gr.slot v6
        | 7, _ => exact Gr.slot v7
        | 8, _ => exact Gr.slot v8
        | 9, _ => exact Gr.slot v9
        | 10, _ => exact Gr.slot v10
        | 11, _ => exact Gr.slot v11
        | 12, _ => exact Gr.slot v12
        | 13, _ => exact Gr.slot v13
        | 14, _ => exact Gr.slot v14
        | 15, _ => exact hn15
        | 16, _ => exact hn16
        | 17, _ => exact hn17
        | 18, _ => exact hn18
        | 19, _ => exact hn19
        | 20, _ => exact hn20
        | 21, _ => exact hn21
        | 22, _ => exact hn22
        | 23, _ => exact hn23
        | 24, _ => exact hn24
        | 25, _ => exact hn25
        | 26, _ => exact hn26
        | 27, _ => exact hn27
        | 28, _ => exact Gr.slot v28
        | 29, _ => exact Gr.slot v29
        | 30, _ => exact Gr.slot v30
        | 31, _ => exact Gr.slot v31
        | 32, _ => exact Gr.slot v32
        | 33, _ => exact Gr.slot v33
        | 34, _ => exact Gr.slot v34
        | 35, _ => exact Gr.slot v35
        | 36, _ => exact Gr.slot v36
        | 37, _ => exact Gr.slot v37
        | 38, _ => exact Gr.slot v38
        | 39, _ => exact Gr.slot v39
        | 40, _ => exact Gr.slot v40
        | 41, _ => exact Gr.slot v41
        | 42, _ => exact Gr.slot v42
        | 43, _ => exact Gr.slot v43
        | 44, _ => exact Gr.slot v44
        | 45, _ => exact Gr.slot v45
        | 46, _ => exact Gr.slot v46
        | 47, _ => exact Gr.slot v47
        | 48, _ => exact Gr.slot v48
        | 49, _ => exact Gr.slot v49
        | 50, _ => exact Gr.slot v50
        | 51, _ => exact Gr.slot v51
        | 52, _ => exact Gr.slot v52
        | 53, _ => exact Gr.slot v53
        | i + 54, h => simp only [List.length_cons, List.length_nil] at h; omega)
      clear hn3 hn4 hn15 hn16 hn17 hn18 hn19 hn20 hn21 hn22 hn23 hn24 hn25 hn26 hn27
      subst hA
      have HI1 : Hid (i + 1 ≤ p.fs.length) := hin
      have hb0 : i + 1 ≤ 2000000 := by have := SFl.out; omega
      go_wp2
      go_roundw
      case rel => exact ⟨i + 1, _, by go_num, HI1.out, QS6.out, RG6.out, OW6.out, QN6.out, QO6.out, QK6.out, RZ6.out, B6.out⟩
      case measure => simp [intOf]; omega
    · obtain rfl : i = p.fs.length := by omega
      have RO : Hid (RowOwn elF w.heap.size w.heap.size 45 wr (.slice VA p.fs.length vc) p.fs) := Lib.hid ⟨qs, QS.out, OW2.out, fun x hx => by
        obtain ⟨j, hj, rfl⟩ := List.getElem_of_mem hx
        exact ⟨QN.out j hj (by have := QL.out; omega), QK.out _ hx⟩⟩
      have RF := RO
      have RG := RG2
      have RZ := RZ2
      have B1 := B2
      clear RO RG2 RZ2 B2 OW2 QN QO QK QS QL
      obtain ⟨rp0, rp1, rp2, rp3, rp4, rp5, rq0, rq1, rq2, rq3, rq4, rq5⟩ := row6 RG.out
      go_upto_region 8 with (go_at_call 39; ((with_reducible refine (CIE.out _ B1.out).mono ?_); rintro e W7 ⟨Be, de, rfl, hk7, hb7⟩; have B7 := Lib.hid (B1.out.trans (hb7.mono B1.out.size)); have KE7 := Lib.hid (hk7.weak B1.out.size); have RF7 := Lib.hid (RF.out.below hb7); have RZ7 := Lib.hid (blk_below RZ.out hb7 (blk_lt RZ.out)); have RG7 := Lib.hid (blk_below RG.out hb7 (blk_lt RG.out)); clear hk7 hb7 rp0 rp1 rp2 rp3 rp4 rp5 rq0 rq1 rq2 rq3 rq4 rq5; obtain ⟨rp0, rp1, rp2, rp3, rp4, rp5, rq0, rq1, rq2, rq3, rq4, rq5⟩ := row6 RG7.out))
      have RG8 := Lib.hid (blk_set (cs := [_, _, _, _, _, _]) RG7.out 4 (.slice Be p.en.length de))
      have RF8 := Lib.hid (RF7.out.set (i := 4) (.slice Be p.en.length de) RG7.out (Nat.le_refl _) (by decide) (by decide))
      have KE8 := Lib.hid (KE7.out.set (i := 4) (.slice Be p.en.length de) RG7.out (Nat.le_refl _) (by decide))
      have RZ8 := Lib.hid (blk_other (i := 4) RZ7.out (show w.heap.size + 1 ≠ w.heap.size by omega) (.slice Be p.en.length de))
      have B8 := Lib.hid (B7.out.setCell (p := ⟨w.heap.size, 4, none⟩) (Nat.le_refl _) (.slice Be p.en.length de))
      generalize W7.setCell ⟨w.heap.size, 4, none⟩ (.slice Be p.en.length de) = W8 at *
      clear RG RF RZ B1 RG7 RF7 KE7 RZ7 B7 rp0 rp1 rp2 rp3 rp4 rp5 rq0 rq1 rq2 rq3 rq4 rq5
      obtain ⟨rp0, rp1, rp2, rp3, rp4, rp5, rq0, rq1, rq2, rq3, rq4, rq5⟩ := row6 RG8.out
      go_upto_region 9 with (go_at_call 40; ((with_reducible refine (CO.out _ B8.out).mono ?_); rintro e W9 ⟨vo, psO, rfl, hps9, how9, hpx9, hb9⟩; have B9 := Lib.hid (B8.out.trans (hb9.mono B8.out.size)); have KE9 := Lib.hid (KE8.out.below hb9); have RF9 := Lib.hid (RF8.out.below hb9); have RZ9 := Lib.hid (blk_below RZ8.out hb9 (blk_lt RZ8.out)); have RG9 := Lib.hid (blk_below RG8.out hb9 (blk_lt RG8.out)); have OWO9 := Lib.hid (own_lo how9 B8.out.size); have PSO := Lib.hid hps9; have PXO9 := Lib.hid hpx9; obtain ⟨WA, wc, hvo⟩ := own_form how9; rw [show psO.length = p.ops.length by rw [← hps9]; simp] at hvo; subst hvo; clear hps9 how9 hpx9 hb9 rp0 rp1 rp2 rp3 rp4 rp5 rq0 rq1 rq2 rq3 rq4 rq5; obtain ⟨rp0, rp1, rp2, rp3, rp4, rp5, rq0, rq1, rq2, rq3, rq4, rq5⟩ := row6 RG9.out))
      have RG := Lib.hid (blk_set (cs := [_, _, _, _, _, _]) RG9.out 5 (.slice WA p.ops.length wc))
      have RF := Lib.hid (RF9.out.set (i := 5) (.slice WA p.ops.length wc) RG9.out (Nat.le_refl _) (by decide) (by decide))
      have KE := Lib.hid (KE9.out.set (i := 5) (.slice WA p.ops.length wc) RG9.out (Nat.le_refl _) (by decide))
      have RZ := Lib.hid (blk_other (i := 5) RZ9.out (show w.heap.size + 1 ≠ w.heap.size by omega) (.slice WA p.ops.length wc))
      have OWO := Lib.hid (ownsRow_setCell_other OWO9.out (a := ⟨w.heap.size, 5, none⟩) (own_ty OWO9.out RG9.out (by decide)) (.slice WA p.ops.length wc))
      have PXO := PXO9
      have B1 := Lib.hid (B9.out.setCell (p := ⟨w.heap.size, 5, none⟩) (Nat.le_refl _) (.slice WA p.ops.length wc))
      generalize W9.setCell ⟨w.heap.size, 5, none⟩ (.slice WA p.ops.length wc) = W10 at *
      clear RG8 RF8 KE8 RZ8 B8 RG9 RF9 KE9 RZ9 B9 OWO9 PXO9 rp0 rp1 rp2 rp3 rp4 rp5 rq0 rq1 rq2 rq3 rq4 rq5
      obtain ⟨rp0, rp1, rp2, rp3, rp4, rp5⟩ := cells6 RG.out
      go_wp2
      go_loopw [39] (fun t wr => ∃ (i : Nat) (qs : List (Value × O)), t = .int .i64 (i : Int) ∧ i ≤ p.ops.length ∧ qs.map Prod.snd = p.ops ∧ wr.heap[w.heap.size]? = some (.cells #[.int .i64 p.vars, .int .i64 p.objs, .int .i64 p.fields, .slice VA p.fs.length vc, .slice Be p.en.length de, .slice WA p.ops.length wc] 33) ∧ wr.ownsRow w.heap.size 42 7 (.slice WA p.ops.length wc) qs.length (flat elO qs) ∧ (∀ j (h : j < qs.length), j < i → KL w.heap.size w.heap.size wr qs[j].1 (elO.il qs[j].2)) ∧ (∀ j (h : j < qs.length), i ≤ j → IL lo w qs[j].1 (elO.il qs[j].2)) ∧ (∀ x ∈ qs, elO.ok x.2) ∧ wr.heap[w.heap.size + 1]? = some (.cells #[.int .i64 0, .int .i64 0, .int .i64 0, .slice none 0 0, .slice none 0 0, .slice none 0 0] 33) ∧ Below w.heap.size w wr ∧ KL w.heap.size w.heap.size wr (.slice Be p.en.length de) p.en ∧ RowOwn elF w.heap.size w.heap.size 45 wr (.slice VA p.fs.length vc) p.fs) (fun t _ => p.ops.length - (intOf t).toNat)
      case atStart => exact ⟨0, psO, rfl, Nat.zero_le _, PSO.out, RG.out, OWO.out, fun j h q => absurd q (Nat.not_lt_zero j), fun j h _ => (PXO.out _ (List.getElem_mem h)).1, fun x hx => (PXO.out x hx).2, RZ.out, B1.out, KE.out, RF.out⟩
      case round =>
        obtain ⟨i, qs, rfl, hil, hqs, hg, hown, hnew, hold, hok, hz, hb, hke, hrf⟩ := hrel
        have RG2 := Lib.hid hg
        have OW2 := Lib.hid hown
        have QN := Lib.hid hnew
        have QO := Lib.hid hold
        have QK := Lib.hid hok
        have QS := Lib.hid hqs
        have RZ2 := Lib.hid hz
        have B2 := Lib.hid hb
        have hql : qs.length = p.ops.length := by rw [← hqs]; simp
        have QL := Lib.hid hql
        have KE2 := Lib.hid hke
        have RF2 := Lib.hid hrf
        clear hg hown hnew hold hok hqs hz hb hql hke hrf RG RZ B1 PSO PXO OWO KE RF psO
        by_cases hin : i < p.ops.length
        · have hI : (i : Int) < (p.ops.length : Int) := by omega
          have hiq : i < qs.length := by rw [QL.out]; exact hin
          obtain ⟨gr, hVA, hgM, hgH, hgC, hgZ⟩ := own_some OW2.out (by have := QL.out; omega)
          subst hVA
          have LX : p.ops[i]? = some qs[i].2 := by rw [← QS.out]; simp [List.getElem?_eq_getElem hiq]
          have OI := Lib.hid (QO.out i hiq (Nat.le_refl _))
          have XL : Hid (qs[i].2.args.length ≤ 2000000) := Lib.hid (SAl.out _ (List.mem_of_getElem? LX))
          have FA := fun j u hj => flat_at (E := elO) qs i hiq j u hj
          have FS := fun v' => flat_set (E := elO) 5 (by decide) (fun _ _ _ => rfl) qs i hiq v'
          have FL : i * 7 + 5 < (flat elO qs).length := by
            rw [flat_len]
            show i * 7 + 5 < qs.length * 7
            omega
          obtain ⟨y, hy⟩ : ∃ y, qs[i] = y := ⟨_, rfl⟩
          rw [hy] at OI XL FA FS
          have HY := Lib.hid hy
          clear hy LX
          obtain ⟨xv, x⟩ := y
          simp only at FA FS
          obtain ⟨A, c, hxv, hAt, _⟩ := OI.out
          simp only at hxv
          subst hxv
          have IX := Lib.hid (OI.out.below (show Below w.heap.size w wr from B2.out))
          have FSH := Lib.hid FS
          have FLH := Lib.hid FL
          have c0 : wr.cell? ⟨gr, 0 + i * 7, none⟩ = some (.int .i64 x.kind) := by have := hgC _ _ (FA 0 _ rfl); rw [Nat.zero_add]; exact this
          have c0' : wr.cell? ⟨gr, i * 7, none⟩ = some (.int .i64 x.kind) := by have := hgC _ _ (FA 0 _ rfl); exact this
          have c1 : wr.cell? ⟨gr, 0 + i * 7 + 1, none⟩ = some (.int .i64 x.fn) := by have := hgC _ _ (FA 1 _ rfl); rw [Nat.zero_add]; exact this
          have c1' : wr.cell? ⟨gr, i * 7 + 1, none⟩ = some (.int .i64 x.fn) := by have := hgC _ _ (FA 1 _ rfl); exact this
          have c2 : wr.cell? ⟨gr, 0 + i * 7 + 2, none⟩ = some (.int .i64 x.a) := by have := hgC _ _ (FA 2 _ rfl); rw [Nat.zero_add]; exact this
          have c2' : wr.cell? ⟨gr, i * 7 + 2, none⟩ = some (.int .i64 x.a) := by have := hgC _ _ (FA 2 _ rfl); exact this
          have c3 : wr.cell? ⟨gr, 0 + i * 7 + 3, none⟩ = some (.int .i64 x.b) := by have := hgC _ _ (FA 3 _ rfl); rw [Nat.zero_add]; exact this
          have c3' : wr.cell? ⟨gr, i * 7 + 3, none⟩ = some (.int .i64 x.b) := by have := hgC _ _ (FA 3 _ rfl); exact this
          have c4 : wr.cell? ⟨gr, 0 + i * 7 + 4, none⟩ = some (.int .i64 x.c) := by have := hgC _ _ (FA 4 _ rfl); rw [Nat.zero_add]; exact this
          have c4' : wr.cell? ⟨gr, i * 7 + 4, none⟩ = some (.int .i64 x.c) := by have := hgC _ _ (FA 4 _ rfl); exact this
          have c5 : wr.cell? ⟨gr, 0 + i * 7 + 5, none⟩ = some (.slice A x.args.length c) := by have := hgC _ _ (FA 5 _ rfl); rw [Nat.zero_add]; exact this
          have c5' : wr.cell? ⟨gr, i * 7 + 5, none⟩ = some (.slice A x.args.length c) := by have := hgC _ _ (FA 5 _ rfl); exact this
          have c6 : wr.cell? ⟨gr, 0 + i * 7 + 6, none⟩ = some (.float .f64 x.heat) := by have := hgC _ _ (FA 6 _ rfl); rw [Nat.zero_add]; exact this
          have c6' : wr.cell? ⟨gr, i * 7 + 6, none⟩ = some (.float .f64 x.heat) := by have := hgC _ _ (FA 6 _ rfl); exact this
          clear FA FS FL OI hAt
          have GC := Lib.hid hgC
          have GZ := Lib.hid hgZ
          have GH := Lib.hid hgH
          have bX := below1 wr (.cells #[.int .i64 x.kind, .int .i64 x.fn, .int .i64 x.a, .int .i64 x.b, .int .i64 x.c, .slice A x.args.length c, .float .f64 x.heat] 42)
          have BX := Lib.hid bX
          have RX := Lib.hid (heap_last wr (.cells #[.int .i64 x.kind, .int .i64 x.fn, .int .i64 x.a, .int .i64 x.b, .int .i64 x.c, .slice A x.args.length c, .float .f64 x.heat] 42) wr.heap.size rfl)
          have SZ : wr.heap.size < (wr.alloc (.cells #[.int .i64 x.kind, .int .i64 x.fn, .int .i64 x.a, .int .i64 x.b, .int .i64 x.c, .slice A x.args.length c, .float .f64 x.heat] 42)).heap.size := by simp
          obtain ⟨rp0, rp1, rp2, rp3, rp4, rp5⟩ := cells6 RG2.out
          clear bX hgC hgZ hgH
          go_upto_region 12 with fail
          have RG3 := Lib.hid (blk_below RG2.out BX.out (blk_lt RG2.out))
          have OW3 := Lib.hid (own_below OW2.out BX.out)
          have QN3 := Lib.hid (fun j (h : j < qs.length) (hj : j < i) => (QN.out j h hj).below BX.out)
          have RZ3 := Lib.hid (blk_below RZ2.out BX.out (blk_lt RZ2.out))
          have IX3 := Lib.hid (IX.out.below BX.out)
          have B3 := Lib.hid (B2.out.trans (BX.out.mono B2.out.size))
          have MW := Lib.hid (Nat.le_trans B2.out.size BX.out.size)
          have KE3 := Lib.hid (KE2.out.below BX.out)
          have RF3 := Lib.hid (RF2.out.below BX.out)
          generalize hW3 : wr.alloc (.cells #[.int .i64 x.kind, .int .i64 x.fn, .int .i64 x.a, .int .i64 x.b, .int .i64 x.c, .slice A x.args.length c, .float .f64 x.heat] 42) = W3 at *
          generalize hGX : wr.heap.size = gx at *
          clear hGX hW3 rp0 rp1 rp2 rp3 rp4 rp5 c0 c0' c1 c1' c2 c2' c3 c3' c4 c4' c5 c5' c6 c6' B2 BX RG2 OW2 QN RZ2 IX GC GZ GH KE2 RF2
          refine Gr.regionT 6 (fun i => i + 44) (by kernel_rfl) (by kernel_rfl) (Gr.spφ [.val (.pointer (some ⟨w.heap.size, 5, none⟩)), .val (.slice (some ⟨gr, 0, none⟩) p.ops.length wc), .val (.int .i64 (i : Int)), .val (.pointer (some ⟨gx, 5, none⟩)), .val (.slice A x.args.length c), .cls (CLV w.heap.size x.args) (clv_grow)]) (Gr.spφ_grow _) ?_ ?_
          · intro q o a W4 hi ho hb hfr hpre
            have t1 : a.tmps[1]?.getD undef = .pointer (some ⟨w.heap.size, 0, none⟩) := Gr.slot (hfr.f 1 (by intro j hj; omega))
            have t5 : a.tmps[5]?.getD undef = .int .i64 (i : Int) := Gr.slot (hfr.f 5 (by intro j hj; omega))
            have t6 : a.tmps[6]?.getD undef = .pointer (some ⟨gx, 0, none⟩) := Gr.slot (hfr.f 6 (by intro j hj; omega))
            obtain ⟨k0, k1, k2, k3, k4, k5⟩ := cells6 (blk_below RG3.out hb (blk_lt RG3.out))
            obtain ⟨rx0, rx1, rx2, rx3, rx4, rx5, rx6⟩ := seven (blk_below RX.out hb (blk_lt RX.out))
            match q, hi with
            | 0, _ =>
              obtain rfl := Option.some.inj ho
              refine Gr.val (v := .pointer (some ⟨w.heap.size, 5, none⟩)) (w' := W4) (by simp [go_sem, t1]) ⟨_, rfl, rfl, Below.refl _ _⟩
            | 1, _ =>
              have p44 : a.tmps[44]?.getD undef = .pointer (some ⟨w.heap.size, 5, none⟩) := Gr.slot (hpre { on := 0, ground := .data } (by obtain rfl := Option.some.inj ho; simp) rfl (by decide))
              obtain rfl := Option.some.inj ho
              refine Gr.val (v := .slice (some ⟨gr, 0, none⟩) p.ops.length wc) (w' := W4) (by simp [go_sem, p44, k5]) ⟨_, rfl, rfl, Below.refl _ _⟩
            | 2, _ =>
              obtain rfl := Option.some.inj ho
              refine Gr.val (v := .int .i64 (i : Int)) (w' := W4) (by simp [go_sem, t5]) ⟨_, rfl, rfl, Below.refl _ _⟩
            | 3, _ =>
              obtain rfl := Option.some.inj ho
              refine Gr.val (v := .pointer (some ⟨gx, 5, none⟩)) (w' := W4) (by simp [go_sem, t6]) ⟨_, rfl, rfl, Below.refl _ _⟩
            | 4, _ =>
              have p47 : a.tmps[47]?.getD undef = .pointer (some ⟨gx, 5, none⟩) := Gr.slot (hpre { on := 3, ground := .data } (by obtain rfl := Option.some.inj ho; simp) rfl (by decide))
              obtain rfl := Option.some.inj ho
              refine Gr.val (v := .slice A x.args.length c) (w' := W4) (by simp [go_sem, p47, rx5]) ⟨_, rfl, rfl, Below.refl _ _⟩
            | 5, _ =>
              have p48 : a.tmps[48]?.getD undef = .slice A x.args.length c := Gr.slot (hpre { on := 4, ground := .data } (by obtain rfl := Option.some.inj ho; simp) rfl (by decide))
              obtain rfl := Option.some.inj ho
              refine Gr.call (f := 39) (args := #[.slice A x.args.length c]) (by simp [go_sem, p48]) ((cloneI_any lo (.slice A x.args.length c) x.args W4 (IX3.out.below hb) XL.out).mono ?_)
              rintro e w' ⟨A1, c1, rfl, h1, h2⟩
              exact ⟨_, rfl, _, rfl, ⟨A1, c1, rfl, (h1.below (Below.refl _ _)).weak (Nat.le_trans MW.out hb.size)⟩, h2⟩
            | q + 6, h => omega
          intro o1 o2 o3 a W4 h1 h2 h3 hb hfr hall
          obtain ⟨A1, c1, hv5, hk5⟩ : CLV w.heap.size x.args (a.eval (.tmp 49)) W4 := hall 5 (by omega)
          have t20 : a.tmps[45]?.getD undef = .slice (some ⟨gr, 0, none⟩) p.ops.length wc := Gr.slot (hall 1 (by omega))
          have t21 : a.tmps[46]?.getD undef = .int .i64 (i : Int) := Gr.slot (hall 2 (by omega))
          have t24 := Gr.slot hv5
          rw [hv5] at hk5
          have hds : a.tmps.size = 54 := hfr.s
          have RG4 := Lib.hid (blk_below RG3.out hb (blk_lt RG3.out))
          have OW4 := Lib.hid (own_below OW3.out hb)
          have QN4 := Lib.hid (fun j (h : j < qs.length) (hj : j < i) => (QN3.out j h hj).below hb)
          have RZ4 := Lib.hid (blk_below RZ3.out hb (blk_lt RZ3.out))
          have KK4 := Lib.hid hk5
          have B4 := Lib.hid (B3.out.trans (hb.mono B3.out.size))
          have KE4 := Lib.hid (KE3.out.below hb)
          have RF4 := Lib.hid (RF3.out.below hb)
          obtain ⟨gr', hgr', _, ⟨cu, fr, hgH⟩, hgC, hgZ⟩ := own_some OW4.out (by have := QL.out; omega)
          injection hgr' with hgr'
          injection hgr' with hgr'
          subst hgr'
          obtain ⟨z0, z1⟩ : (W4.cell? ⟨gr, i * 7 + 5, none⟩).isSome = true ∧ W4.frozen? ⟨gr, i * 7 + 5, none⟩ = false := by
            refine ⟨?_, hgZ _⟩
            have e0 : W4.cell? ⟨gr, i * 7 + 5, none⟩ = some ((flat elO qs)[i * 7 + 5]'FLH.out) := hgC (i * 7 + 5) _ (List.getElem?_eq_getElem FLH.out)
            rw [e0]; rfl
          obtain ⟨zv, z0⟩ := Option.isSome_iff_exists.mp z0
          obtain rfl := Option.some.inj h1
          obtain rfl := Option.some.inj h2
          obtain rfl := Option.some.inj h3
          have hI0 : (0 : Int) ≤ (i : Int) := by omega
          have t24' : a.tmps[49]'(by rw [hds]; decide) = .slice A1 x.args.length c1 := by
            have q := t24
            rw [Array.getElem?_eq_getElem (by rw [hds]; decide)] at q
            exact q
          refine Gr.val (a := a) (v := .pointer (some ⟨gr, i * 7, none⟩)) (w' := W4) (by simp [go_sem, t20, t21, hI, Addr.add]; (try (intro q; exact q.symm))) ?_
          refine Gr.val (a := a.put (some 50) (.pointer (some ⟨gr, i * 7, none⟩))) (v := .pointer (some ⟨gr, i * 7 + 5, none⟩)) (w' := W4) (by simp [go_sem, Act.put, hds, Addr.add]) ?_
          refine Gr.skip (a := (a.put (some 50) (.pointer (some ⟨gr, i * 7, none⟩))).put (some 51) (.pointer (some ⟨gr, i * 7 + 5, none⟩))) (w' := W4.setCell ⟨gr, i * 7 + 5, none⟩ (.slice A1 x.args.length c1)) (by simp [go_sem, Act.put, hds, t24', z0, z1]) rfl ?_
          have hne0 : w.heap.size ≠ gr := fun q => by subst q; rw [RG4.out] at hgH; injection hgH with hgH; injection hgH with _ hgH _; revert hgH; decide
          have hne1 : w.heap.size + 1 ≠ gr := fun q => by subst q; rw [RZ4.out] at hgH; injection hgH with hgH; injection hgH with _ hgH _; revert hgH; decide
          have hgM2 : w.heap.size ≤ gr := hgM
          have RG6 := Lib.hid ((Below.heap_setCell W4 ⟨gr, i * 7 + 5, none⟩ (.slice A1 x.args.length c1) w.heap.size hne0).trans RG4.out)
          have RZ6 := Lib.hid ((Below.heap_setCell W4 ⟨gr, i * 7 + 5, none⟩ (.slice A1 x.args.length c1) (w.heap.size + 1) hne1).trans RZ4.out)
          have OW6 : Hid ((W4.setCell ⟨gr, i * 7 + 5, none⟩ (.slice A1 x.args.length c1)).ownsRow w.heap.size 42 7 (.slice (some ⟨gr, 0, none⟩) p.ops.length wc) (qs.set i (.slice A1 x.args.length c1, x)).length (flat elO (qs.set i (.slice A1 x.args.length c1, x)))) := Lib.hid (by
            rw [FSH.out, List.length_set]
            have hn := OW4.out
            rw [QL.out] at hn ⊢
            exact own_setc hn FLH.out)
          have QN6 : Hid (∀ j (h : j < (qs.set i (.slice A1 x.args.length c1, x)).length), j < i + 1 → KL w.heap.size w.heap.size (W4.setCell ⟨gr, i * 7 + 5, none⟩ (.slice A1 x.args.length c1)) (qs.set i (.slice A1 x.args.length c1, x))[j].1 (elO.il (qs.set i (.slice A1 x.args.length c1, x))[j].2)) := Lib.hid (fun j h hj => by
            by_cases hji : j = i
            · subst hji
              rw [List.getElem_set_self]
              exact KK4.out.set (t' := 42) _ hgH hgM2 (by decide)
            · rw [List.getElem_set_ne (fun e => hji e.symm)]
              exact (QN4.out j (by simpa using h) (by omega)).set (t' := 42) _ hgH hgM2 (by decide))
          have QO6 : Hid (∀ j (h : j < (qs.set i (.slice A1 x.args.length c1, x)).length), i + 1 ≤ j → IL lo w (qs.set i (.slice A1 x.args.length c1, x))[j].1 (elO.il (qs.set i (.slice A1 x.args.length c1, x))[j].2)) := Lib.hid (fun j h hj => by
            rw [List.getElem_set_ne (by omega)]
            exact QO.out j (by simpa using h) (by omega))
          have QK6 : Hid (∀ z ∈ qs.set i (.slice A1 x.args.length c1, x), elO.ok z.2) := Lib.hid (fun z hz => by
            rcases List.mem_or_eq_of_mem_set hz with hz | hz
            · exact QK.out z hz
            · have := QK.out _ (List.getElem_mem hiq)
              rw [HY.out] at this
              rw [hz]; exact this)
          have QS6 : Hid ((qs.set i (.slice A1 x.args.length c1, x)).map Prod.snd = p.ops) := Lib.hid (by
            rw [List.map_set, QS.out]
            refine set_same ?_
            have e0 : (qs.map Prod.snd)[i]? = some qs[i].2 := by simp [List.getElem?_eq_getElem hiq]
            rw [QS.out, HY.out] at e0
            exact e0)
          have B6 := Lib.hid (B4.out.setCell (p := ⟨gr, i * 7 + 5, none⟩) hgM2 (.slice A1 x.args.length c1))
          have KE6 := Lib.hid (KE4.out.set (i := i * 7 + 5) (t' := 42) (.slice A1 x.args.length c1) hgH hgM2 (by decide))
          have RF6 := Lib.hid (RF4.out.set (i := i * 7 + 5) (t' := 42) (.slice A1 x.args.length c1) hgH hgM2 (by decide) (by decide))
          generalize W4.setCell ⟨gr, i * 7 + 5, none⟩ (.slice A1 x.args.length c1) = W6 at *
          have ev := fun (s : Nat) (h1 : s ≠ 50) (h2 : s ≠ 51) (h3 : ∀ j, j < 6 → j + 44 ≠ s) => (show ((a.put (some 50) (.pointer (some ⟨gr, i * 7, none⟩))).put (some 51) (.pointer (some ⟨gr, i * 7 + 5, none⟩))).eval (.tmp s) = a.eval (.tmp s) from by
            rw [Gr.eval_put _ (by simp [Act.put, hds]), if_neg (Ne.symm h2), Gr.eval_put _ (by rw [hds]; decide), if_neg (Ne.symm h1)]).trans (hfr.f s h3)
          have hd3 : ((a.put (some 50) (.pointer (some ⟨gr, i * 7, none⟩))).put (some 51) (.pointer (some ⟨gr, i * 7 + 5, none⟩))).defers = [] := hfr.d
          have hs3 : ((a.put (some 50) (.pointer (some ⟨gr, i * 7, none⟩))).put (some 51) (.pointer (some ⟨gr, i * 7 + 5, none⟩))).tmps.size = 54 := by simp [Act.put, hds]
          have v0 := ev 0 (by decide) (by decide) (by intro j hj; omega)
          have v1 := ev 1 (by decide) (by decide) (by intro j hj; omega)
          have v2 := ev 2 (by decide) (by decide) (by intro j hj; omega)
          have v3 := ev 3 (by decide) (by decide) (by intro j hj; omega)
          have v4 := ev 4 (by decide) (by decide) (by intro j hj; omega)
          have v7 := ev 7 (by decide) (by decide) (by intro j hj; omega)
          have v8 := ev 8 (by decide) (by decide) (by intro j hj; omega)
          have v9 := ev 9 (by decide) (by decide) (by intro j hj; omega)
          have v10 := ev 10 (by decide) (by decide) (by intro j hj; omega)
          have v11 := ev 11 (by decide) (by decide) (by intro j hj; omega)
          have v12 := ev 12 (by decide) (by decide) (by intro j hj; omega)
          have v13 := ev 13 (by decide) (by decide) (by intro j hj; omega)
          have v14 := ev 14 (by decide) (by decide) (by intro j hj; omega)
          have v15 := ev 15 (by decide) (by decide) (by intro j hj; omega)
          have v16 := ev 16 (by decide) (by decide) (by intro j hj; omega)
          have v17 := ev 17 (by decide) (by decide) (by intro j hj; omega)
          have v18 := ev 18 (by decide) (by decide) (by intro j hj; omega)
          have v19 := ev 19 (by decide) (by decide) (by intro j hj; omega)
          have v20 := ev 20 (by decide) (by decide) (by intro j hj; omega)
          have v21 := ev 21 (by decide) (by decide) (by intro j hj; omega)
          have v22 := ev 22 (by decide) (by decide) (by intro j hj; omega)
          have v23 := ev 23 (by decide) (by decide) (by intro j hj; omega)
          have v24 := ev 24 (by decide) (by decide) (by intro j hj; omega)
          have v25 := ev 25 (by decide) (by decide) (by intro j hj; omega)
          have v26 := ev 26 (by decide) (by decide) (by intro j hj; omega)
          have v27 := ev 27 (by decide) (by decide) (by intro j hj; omega)
          have v28 := ev 28 (by decide) (by decide) (by intro j hj; omega)
          have v29 := ev 29 (by decide) (by decide) (by intro j hj; omega)
          have v30 := ev 30 (by decide) (by decide) (by intro j hj; omega)
          have v31 := ev 31 (by decide) (by decide) (by intro j hj; omega)
          have v32 := ev 32 (by decide) (by decide) (by intro j hj; omega)
          have v33 := ev 33 (by decide) (by decide) (by intro j hj; omega)
          have v34 := ev 34 (by decide) (by decide) (by intro j hj; omega)
          have v35 := ev 35 (by decide) (by decide) (by intro j hj; omega)
          have v36 := ev 36 (by decide) (by decide) (by intro j hj; omega)
          have v37 := ev 37 (by decide) (by decide) (by intro j hj; omega)
          have v38 := ev 38 (by decide) (by decide) (by intro j hj; omega)
          have v53 := ev 53 (by decide) (by decide) (by intro j hj; omega)
          have v39 := ev 39 (by decide) (by decide) (by intro j hj; omega)
          clear ev t24' hds t20 t21 t24 hfr hall hv5 hk5 z0 z1 hb hgC hgZ hgH
          generalize (a.put (some 50) (.pointer (some ⟨gr, i * 7, none⟩))).put (some 51) (.pointer (some ⟨gr, i * 7 + 5, none⟩)) = a3 at *
          obtain ⟨n5, hn5⟩ : ∃ u, a3.tmps[5]?.getD undef = u := ⟨_, rfl⟩
          obtain ⟨n6, hn6⟩ : ∃ u, a3.tmps[6]?.getD undef = u := ⟨_, rfl⟩
          obtain ⟨n40, hn40⟩ : ∃ u, a3.tmps[40]?.getD undef = u := ⟨_, rfl⟩
          obtain ⟨n41, hn41⟩ : ∃ u, a3.tmps[41]?.getD undef = u := ⟨_, rfl⟩
          obtain ⟨n42, hn42⟩ : ∃ u, a3.tmps[42]?.getD undef = u := ⟨_, rfl⟩
          obtain ⟨n43, hn43⟩ : ∃ u, a3.tmps[43]?.getD undef = u := ⟨_, rfl⟩
          obtain ⟨n44, hn44⟩ : ∃ u, a3.tmps[44]?.getD undef = u := ⟨_, rfl⟩
          obtain ⟨n45, hn45⟩ : ∃ u, a3.tmps[45]?.getD undef = u := ⟨_, rfl⟩
          obtain ⟨n46, hn46⟩ : ∃ u, a3.tmps[46]?.getD undef = u := ⟨_, rfl⟩
          obtain ⟨n47, hn47⟩ : ∃ u, a3.tmps[47]?.getD undef = u := ⟨_, rfl⟩
          obtain ⟨n48, hn48⟩ : ∃ u, a3.tmps[48]?.getD undef = u := ⟨_, rfl⟩
          obtain ⟨n49, hn49⟩ : ∃ u, a3.tmps[49]?.getD undef = u := ⟨_, rfl⟩
          obtain ⟨n50, hn50⟩ : ∃ u, a3.tmps[50]?.getD undef = u := ⟨_, rfl⟩
          obtain ⟨n51, hn51⟩ : ∃ u, a3.tmps[51]?.getD undef = u := ⟨_, rfl⟩
          obtain ⟨n52, hn52⟩ : ∃ u, a3.tmps[52]?.getD undef = u := ⟨_, rfl⟩
          have hA : a3 = ⟨#[pv p Af cf Ae ce Ao co, .pointer (some ⟨w.heap.size, 0, none⟩), .pointer (some ⟨w.heap.size + 1, 0, none⟩), u3, u4, n5, n6, .pointer (some ⟨w.heap.size, 3, none⟩), .slice Af p.fs.length cf, .slice VA p.fs.length vc, .pointer (some ⟨w.heap.size, 3, none⟩), .pointer (some ⟨w.heap.size, 3, none⟩), .slice VA p.fs.length vc, .int .i64 (p.fs.length : Int), .int .i64 (p.fs.length : Int), .bool false, u16, u17, u18, u19, u20, u21, u22, u23, u24, u25, u26, u27, .pointer (some ⟨w.heap.size, 4, none⟩), .slice Ae p.en.length ce, .slice Be p.en.length de, .pointer (some ⟨w.heap.size, 4, none⟩), .pointer (some ⟨w.heap.size, 5, none⟩), .slice Ao p.ops.length co, .slice (some ⟨gr, 0, none⟩) p.ops.length wc, .pointer (some ⟨w.heap.size, 5, none⟩), .pointer (some ⟨w.heap.size, 5, none⟩), .slice (some ⟨gr, 0, none⟩) p.ops.length wc, .int .i64 (p.ops.length : Int), .int .i64 (i : Int), n40, n41, n42, n43, n44, n45, n46, n47, n48, n49, n50, n51, n52, undef], []⟩ := Gr.act_eq (l := [pv p Af cf Ae ce Ao co, .pointer (some ⟨w.heap.size, 0, none⟩), .pointer (some ⟨w.heap.size + 1, 0, none⟩), u3, u4, n5, n6, .pointer (some ⟨w.heap.size, 3, none⟩), .slice Af p.fs.length cf, .slice VA p.fs.length vc, .pointer (some ⟨w.heap.size, 3, none⟩), .pointer (some ⟨w.heap.size, 3, none⟩), .slice VA p.fs.length vc, .int .i64 (p.fs.length : Int), .int .i64 (p.fs.length : Int), .bool false, u16, u17, u18, u19, u20, u21, u22, u23, u24, u25, u26, u27, .pointer (some ⟨w.heap.size, 4, none⟩), .slice Ae p.en.length ce, .slice Be p.en.length de, .pointer (some ⟨w.heap.size, 4, none⟩), .pointer (some ⟨w.heap.size, 5, none⟩), .slice Ao p.ops.length co, .slice (some ⟨gr, 0, none⟩) p.ops.length wc, .pointer (some ⟨w.heap.size, 5, none⟩), .pointer (some ⟨w.heap.size, 5, none⟩), .slice (some ⟨gr, 0, none⟩) p.ops.length wc, .int .i64 (p.ops.length : Int), .int .i64 (i : Int), n40, n41, n42, n43, n44, n45, n46, n47, n48, n49, n50, n51, n52, undef]) hd3 hs3 (by
            intro i hi
            match i, hi with
            | 0, _ => exact Gr.slot v0
            | 1, _ => exact Gr.slot v1
            | 2, _ => exact Gr.slot v2
            | 3, _ => exact Gr.slot v3
            | 4, _ => exact Gr.slot v4
            | 5, _ => exact hn5
            | 6, _ => exact hn6
            | 7, _ => exact Gr.slot v7
            | 8, _ => exact Gr.slot v8
            | 9, _ => exact Gr.slot v9
            | 10, _ => exact Gr.slot v10
            | 11, _ => exact Gr.slot v11
            | 12, _ => exact Gr.slot v12
            | 13, _ => exact Gr.slot v13
            | 14, _ => exact Gr.slot v14
            | 15, _ => exact Gr.slot v15
            | 16, _ => exact Gr.slot v16
            | 17, _ => exact Gr.slot v17
            | 18, _ => exact Gr.slot v18
            | 19, _ => exact Gr.slot v19
            | 20, _ => exact Gr.slot v20
            | 21, _ => exact Gr.slot v21
            | 22, _ => exact Gr.slot v22
            | 23, _ => exact Gr.slot v23
            | 24, _ => exact Gr.slot v24
            | 25, _ => exact Gr.slot v25
            | 26, _ => exact Gr.slot v26
            | 27, _ => exact Gr.slot v27
            | 28, _ => exact Gr.slot v28
            | 29, _ => exact Gr.slot v29
            | 30, _ => exact Gr.slot v30
            | 31, _ => exact Gr.slot v31
            | 32, _ => exact Gr.slot v32
            | 33, _ => exact Gr.slot v33
            | 34, _ => exact Gr.slot v34
            | 35, _ => exact Gr.slot v35
            | 36, _ => exact Gr.slot v36
            | 37, _ => exact Gr.slot v37
            | 38, _ => exact Gr.slot v38
            | 39, _ => exact Gr.slot v39
            | 40, _ => exact hn40
            | 41, _ => exact hn41
            | 42, _ => exact hn42
            | 43, _ => exact hn43
            | 44, _ => exact hn44
            | 45, _ => exact hn45
            | 46, _ => exact hn46
            | 47, _ => exact hn47
            | 48, _ => exact hn48
            | 49, _ => exact hn49
            | 50, _ => exact hn50
            | 51, _ => exact hn51
            | 52, _ => exact hn52
            | 53, _ => exact Gr.slot v53
            | i + 54, h => simp only [List.length_cons, List.length_nil] at h; omega)
          clear hn5 hn6 hn40 hn41 hn42 hn43 hn44 hn45 hn46 hn47 hn48 hn49 hn50 hn51 hn52
          subst hA
          have HI1 : Hid (i + 1 ≤ p.ops.length) := hin
          have hb0 : i + 1 ≤ 2000000 := by have := SOl.out; omega
          go_wp2
          go_roundw
          case rel => exact ⟨i + 1, _, by go_num, HI1.out, QS6.out, RG6.out, OW6.out, QN6.out, QO6.out, QK6.out, RZ6.out, B6.out, KE6.out, RF6.out⟩
          case measure => simp [intOf]; omega
        · obtain rfl : i = p.ops.length := by omega
          have RO : Hid (RowOwn elO w.heap.size w.heap.size 42 wr (.slice WA p.ops.length wc) p.ops) := Lib.hid ⟨qs, QS.out, OW2.out, fun x hx => by
            obtain ⟨j, hj, rfl⟩ := List.getElem_of_mem hx
            exact ⟨QN.out j hj (by have := QL.out; omega), QK.out _ hx⟩⟩
          have RO2 := RO
          obtain ⟨hAo, hn2, hl2, hm2⟩ : RowAt elO w.heap.size wr WA p.ops ∧ (WA = none → wc = 0) ∧ p.ops.length ≤ wc ∧ wc ≤ 9223372036854775807 := by
            obtain ⟨B', d', e, q1, q2, q3, q4⟩ := RO.out.at (Nat.le_refl _)
            injection e with e1 _ e3
            subst e1 e3
            exact ⟨q1, q2, q3, q4⟩
          obtain ⟨hAf, hn1, hl1, hm1⟩ : RowAt elF w.heap.size wr VA p.fs ∧ (VA = none → vc = 0) ∧ p.fs.length ≤ vc ∧ vc ≤ 9223372036854775807 := by
            obtain ⟨B', d', e, q1, q2, q3, q4⟩ := RF2.out.at (Nat.le_refl _)
            injection e with e1 _ e3
            subst e1 e3
            exact ⟨q1, q2, q3, q4⟩
          clear OW2 QN QO QK QS QL
          obtain ⟨x0, x1, x2, x3, x4, x5⟩ := cells6 RG2.out
          obtain ⟨y0, y1, y2, y3, y4, y5, v0, v1, v2, v3, v4, v5⟩ := row6 RZ2.out
          have HAf := Lib.hid hAf
          have HAo := Lib.hid hAo
          have HN := Lib.hid (⟨hn1, hl1, hm1, hn2, hl2, hm2⟩ : (VA = none → vc = 0) ∧ p.fs.length ≤ vc ∧ vc ≤ 9223372036854775807 ∧ (WA = none → wc = 0) ∧ p.ops.length ≤ wc ∧ wc ≤ 9223372036854775807)
          clear hAf hAo hn1 hl1 hm1 hn2 hl2 hm2
          go_wp2
          have ST := fun (a0 a1 a2 a3 a4 a5 : Value) => (show ∀ x, x < wr.heap.size → x ≠ w.heap.size + 1 → ((((((wr.setCell ⟨w.heap.size + 1, 0, none⟩ a0).setCell ⟨w.heap.size + 1, 1, none⟩ a1).setCell ⟨w.heap.size + 1, 2, none⟩ a2).setCell ⟨w.heap.size + 1, 3, none⟩ a3).setCell ⟨w.heap.size + 1, 4, none⟩ a4).setCell ⟨w.heap.size + 1, 5, none⟩ a5).heap[x]? = wr.heap[x]? from fun x _ hne => by
            rw [Below.heap_setCell _ _ _ x hne, Below.heap_setCell _ _ _ x hne, Below.heap_setCell _ _ _ x hne, Below.heap_setCell _ _ _ x hne, Below.heap_setCell _ _ _ x hne, Below.heap_setCell _ _ _ x hne])
          have tyz : ∀ x, x < wr.heap.size → (x < w.heap.size ∨ ∃ t' cs fr, (t' = 3 ∨ t' = 45 ∨ t' = 42) ∧ wr.heap[x]? = some (.cells cs t' fr)) → x ≠ w.heap.size + 1 := by
            rintro x _ hq rfl
            rcases hq with hq | ⟨t', cs, fr, hz, hq⟩
            · omega
            · rw [RZ2.out] at hq
              injection hq with hq
              injection hq with _ hq _
              rcases hz with z | z | z <;> exact absurd (hq.trans z) (by decide)
          (try simp only [Exit.inBlock, Exit.then])
          refine bodyPost_ret (results_cells rfl _ _ (w.heap.size + 1) [.int .i64 p.vars, .int .i64 p.objs, .int .i64 p.fields, .slice VA p.fs.length vc, .slice Be p.en.length de, .slice WA p.ops.length wc] _ rfl ?_ Try.underlying33 prog_info) rfl ?_
          · exact six_of (set6 RZ2.out)
          · have S := ST (.int .i64 p.vars) (.int .i64 p.objs) (.int .i64 p.fields) (.slice VA p.fs.length vc) (.slice Be p.en.length de) (.slice WA p.ops.length wc)
            have SZ : wr.heap.size ≤ ((((((wr.setCell ⟨w.heap.size + 1, 0, none⟩ (.int .i64 p.vars)).setCell ⟨w.heap.size + 1, 1, none⟩ (.int .i64 p.objs)).setCell ⟨w.heap.size + 1, 2, none⟩ (.int .i64 p.fields)).setCell ⟨w.heap.size + 1, 3, none⟩ (.slice VA p.fs.length vc)).setCell ⟨w.heap.size + 1, 4, none⟩ (.slice Be p.en.length de)).setCell ⟨w.heap.size + 1, 5, none⟩ (.slice WA p.ops.length wc)).heap.size := by simp
            have BF := (((((B2.out.setCell (p := ⟨w.heap.size + 1, 0, none⟩) (Nat.le_succ _) (.int .i64 p.vars)).setCell (p := ⟨w.heap.size + 1, 1, none⟩) (Nat.le_succ _) (.int .i64 p.objs)).setCell (p := ⟨w.heap.size + 1, 2, none⟩) (Nat.le_succ _) (.int .i64 p.fields)).setCell (p := ⟨w.heap.size + 1, 3, none⟩) (Nat.le_succ _) (.slice VA p.fs.length vc)).setCell (p := ⟨w.heap.size + 1, 4, none⟩) (Nat.le_succ _) (.slice Be p.en.length de)).setCell (p := ⟨w.heap.size + 1, 5, none⟩) (Nat.le_succ _) (.slice WA p.ops.length wc)
            generalize (((((wr.setCell ⟨w.heap.size + 1, 0, none⟩ (.int .i64 p.vars)).setCell ⟨w.heap.size + 1, 1, none⟩ (.int .i64 p.objs)).setCell ⟨w.heap.size + 1, 2, none⟩ (.int .i64 p.fields)).setCell ⟨w.heap.size + 1, 3, none⟩ (.slice VA p.fs.length vc)).setCell ⟨w.heap.size + 1, 4, none⟩ (.slice Be p.en.length de)).setCell ⟨w.heap.size + 1, 5, none⟩ (.slice WA p.ops.length wc) = WF at *
            have q1 : RowOwn elF w.heap.size w.heap.size 45 WF (.slice VA p.fs.length vc) p.fs := RF2.out.keep SZ (fun x hx hq => S x hx (tyz x hx (hq.imp id fun ⟨t', cs, fr, h1, h2⟩ => ⟨t', cs, fr, h1.imp id .inl, h2⟩)))
            have q2 : KL w.heap.size w.heap.size WF (.slice Be p.en.length de) p.en := KE2.out.keep SZ (fun x hx hq => S x hx (tyz x hx (hq.imp id fun ⟨cs, fr, h2⟩ => ⟨_, cs, fr, .inl rfl, h2⟩)))
            have q3 : RowOwn elO w.heap.size w.heap.size 42 WF (.slice WA p.ops.length wc) p.ops := RO2.out.keep SZ (fun x hx hq => S x hx (tyz x hx (hq.imp id fun ⟨t', cs, fr, h1, h2⟩ => ⟨t', cs, fr, h1.imp id .inr, h2⟩)))
            obtain ⟨Bf', df', hvf, hA1, _⟩ := q1.at (Nat.le_refl _)
            obtain ⟨Bo', do', hvo, hA2, _⟩ := q3.at (Nat.le_refl _)
            injection hvf with e1
            injection hvo with e2
            subst e1 e2
            exact ⟨_, _, _, _, _, _, rfl, ⟨hA1.fs, q2.il, hA2.os, HN.out.1, HN.out.2.2.2.1, ⟨HN.out.2.1, HN.out.2.2.1⟩, HN.out.2.2.2.2⟩, BF⟩
end Pm
end Go.Proofs.Ytnhgoeoffjcooaa
