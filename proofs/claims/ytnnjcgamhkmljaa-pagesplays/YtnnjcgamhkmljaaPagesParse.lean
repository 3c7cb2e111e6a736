/-
  What parse, Append and Read do (package pages).
-/
import Derived.Test.YtnnjcgamhkmljaaPagesText
import Derived.Test.YtnnjcgamhkmljaaDiskWr
import Derived.Deep.RegionHeld3
namespace Go.Proofs.Ytnnjcgamhkmljaa
open Go.RowKit
namespace Pg
open B Dsk

theorem byte_at {t : ByteArray} {i : Nat} (h : i < t.size) : (t.data.toList.getD i 0).toNat = t[i].toNat := by
  have h2 : i < t.data.toList.length := by rw [size_data]; exact h
  rw [List.getD_eq_getElem?_getD, List.getElem?_eq_getElem h2]
  simp
  rfl
/-- what parse answers -/
def told : Option (Nat × ByteArray) → Value
  | some (k, p) => .tuple #[.int .i64 (k : Int), .string p, .bool true]
  | none => .tuple #[.int .i64 0, .string ⟨#[]⟩, .bool false]
set_option maxRecDepth 100000 in
set_option maxHeartbeats 4000000 in
theorem parse_any (s : ByteArray) (w : World) (hs : s.size = 256) :
    Calls Try.prog 36 #[.string s] w fun e w' => e = .returned (told (pparse s)) ∧ Below w.heap.size w w' := by
  have h5 : 5 < s.size := by omega
  have h4 : 4 < s.size := by omega
  have Z5 : Hid (zOf s = s[5].toNat) := byte_at h5
  have K4 : Hid (kOf s = s[4].toNat) := byte_at h4
  have HT : Hid (pparse s = if 240 < zOf s then none else if ptxt (kOf s) (payOf s) = s then some (kOf s, payOf s) else none) := rfl
  have hzl := zOf_lt s
  have hkl := kOf_lt s
  have HP : Hid (payOf s = s.extract 6 (6 + zOf s)) := rfl
  have hpl := fun h => payOf_size (s := s) hs h
  have CT := Lib.hid (fun W (h : zOf s ≤ 240) => text_any (kOf s) (payOf s) W hkl (by rw [hpl h]; exact h))
  have HTS := Lib.hid (fun (h : zOf s ≤ 240) => ptxt_size (k := kOf s) (p := payOf s) (by rw [hpl h]; exact h))
  rw [HP.out, K4.out, Z5.out] at CT HT HTS
  rw [Z5.out] at hzl
  rw [K4.out] at hkl
  clear Z5 K4 HP hpl
  by_cases hz : 240 < s[5].toNat
  · rw [if_pos hz] at HT
    rw [HT.out]
    clear CT HT HTS
    have hzI : (240 : Int) < (s[5].toNat : Int) := by omega
    go_enter Try.func36, Try.ntmps36
    go_wp2
    go_ret3
    exact ⟨rfl, Below.refl _ _⟩
  · have CT' := Lib.hid (fun W => CT.out W (by omega))
    have hts := HTS.out (by omega)
    rw [if_neg hz] at HT
    have hzI : ¬ (240 : Int) < (s[5].toNat : Int) := by omega
    have e6 : (6 + (s[5].toNat : Int)).toNat = 6 + s[5].toNat := by omega
    clear CT HTS
    by_cases hx : ptxt s[4].toNat (s.extract 6 (6 + s[5].toNat)) = s
    · rw [if_pos hx] at HT
      rw [HT.out]
      rw [hx] at CT'
      clear HT hx
      go_enter Try.func36, Try.ntmps36
      go_wp2
      go_quiet (fail)
      have hq : Below w.heap.size w (w.drewN nq) := below_drewN (Below.refl _ _) nq
      generalize w.drewN nq = wq at *
      go_wp2_with (go_at_call 40; ((with_reducible refine (CT'.out _).mono ?_); rintro e w2 ⟨rfl, hb2⟩))
      go_ret3
      exact ⟨rfl, hq.trans (hb2.mono hq.size)⟩
    · rw [if_neg hx] at HT
      rw [HT.out]
      have hne := ne_toList hx
      generalize ptxt s[4].toNat (s.extract 6 (6 + s[5].toNat)) = T at *
      clear HT hx
      go_enter Try.func36, Try.ntmps36
      go_wp2
      go_quiet (fail)
      have hq : Below w.heap.size w (w.drewN nq) := below_drewN (Below.refl _ _) nq
      generalize w.drewN nq = wq at *
      go_wp2_with (go_at_call 40; ((with_reducible refine (CT'.out _).mono ?_); rintro e w2 ⟨rfl, hb2⟩))
      go_ret3
      exact ⟨rfl, hq.trans (hb2.mono hq.size)⟩

/-- a page that is read: its kind, its payload, the error -/
def pread (d : D) (half next n : Int) : Int × ByteArray × Int :=
  if n < 0 ∨ next ≤ n then (0, ⟨#[]⟩, 1)
  else if reach d (sec d half n) ≠ 0 then (0, ⟨#[]⟩, reach d (sec d half n))
  else match pparse (readS d (sec d half n)) with
    | some (k, p) => ((k : Int), p, 0)
    | none => (0, ⟨#[]⟩, 8)
abbrev pval (r : Int × ByteArray × Int) : Value := .tuple #[.int .i64 r.1, .string r.2.1, .int .i64 r.2.2]
theorem readS_size {d : D} (hi : Inv d) {i : Int} (h : reach d i = 0) : (readS d i).size = 256 := by
  obtain ⟨_, h1, h2⟩ := reach_ok h
  unfold readS
  rw [if_pos h]
  have h3 : i.toNat < d.now.length := by omega
  rw [List.getD_eq_getElem?_getD, List.getElem?_eq_getElem h3]
  exact hi.full _ (List.getElem_mem _)
set_option maxRecDepth 100000 in
set_option maxHeartbeats 4000000 in
theorem pread_any (b : Bl) (d : D) (g : Nat) (half next n : Int) (w : World) (h : PAt w b g half next) (hd : DAt w b d) (hi : Inv d) (hz : Sz d) (hh : half = 0 ∨ half = 1) (h1 : next ≤ (room d : Int)) :
    Calls Try.prog 11 #[.pointer (some ⟨g, 0, none⟩), .int .i64 n] w fun e w' => e = .returned (pval (pread d half next n)) ∧ Below w.heap.size w w' := by
  obtain ⟨⟨c0, c1, c2⟩, _⟩ := row3 h
  by_cases hn0 : n < 0
  · have e : pread d half next n = (0, ⟨#[]⟩, 1) := if_pos (.inl hn0)
    rw [e]
    clear e h hd hi hz hh
    go_enter Try.func11, Try.ntmps11
    go_wp2
    go_ret3
    exact ⟨rfl, Below.refl _ _⟩
  · by_cases hn1 : next ≤ n
    · have e : pread d half next n = (0, ⟨#[]⟩, 1) := if_pos (.inr hn1)
      rw [e]
      clear e h hd hi hz hh
      go_enter Try.func11, Try.ntmps11
      go_wp2
      go_ret3
      exact ⟨rfl, Below.refl _ _⟩
    · have HE : Hid (pread d half next n = if reach d (sec d half n) ≠ 0 then (0, ⟨#[]⟩, reach d (sec d half n)) else match pparse (readS d (sec d half n)) with
          | some (k, p) => ((k : Int), p, 0)
          | none => (0, ⟨#[]⟩, 8)) := if_neg (by omega)
      have CS := Lib.hid (fun m => sector_any b d g half next n (w.drewN m) h (DAt.drewN hd m) hz hh (by omega) (by omega))
      have CR := Lib.hid (fun m => read_any b d (sec d half n) (w.drewN m) (DAt.drewN hd m))
      by_cases hr : reach d (sec d half n) = 0
      · have hsz := readS_size hi hr
        have CP := Lib.hid (fun W => parse_any (readS d (sec d half n)) W hsz)
        rw [if_neg (by rw [hr]; decide)] at HE
        rw [hr] at CR
        cases hp : pparse (readS d (sec d half n)) with
        | none =>
          rw [hp] at HE CP
          dsimp only [told] at CP
          rw [HE.out]
          generalize sec d half n = sc at *
          generalize readS d sc = S at *
          clear HE h hd hi hz hh hp hr
          go_enter Try.func11, Try.ntmps11
          go_wp2
          go_quiet (first
            | (go_at_call 35; exact Calls.quiet_of (CS.out _))
            | (go_at_call 34; exact Calls.quiet_of_same ((CR.out _).mono fun e w' h => ⟨h.1, h.2.symm⟩)))
          have hq : Below w.heap.size w (w.drewN nq) := below_drewN (Below.refl _ _) nq
          generalize w.drewN nq = wq at *
          go_wp2_with (go_at_call 36; ((with_reducible refine (CP.out _).mono ?_); rintro e w2 ⟨rfl, hb2⟩))
          go_ret3
          exact ⟨rfl, hq.trans (hb2.mono hq.size)⟩
        | some q =>
          obtain ⟨k, p⟩ := q
          rw [hp] at HE CP
          dsimp only [told] at CP
          rw [HE.out]
          generalize sec d half n = sc at *
          generalize readS d sc = S at *
          clear HE h hd hi hz hh hp hr
          go_enter Try.func11, Try.ntmps11
          go_wp2
          go_quiet (first
            | (go_at_call 35; exact Calls.quiet_of (CS.out _))
            | (go_at_call 34; exact Calls.quiet_of_same ((CR.out _).mono fun e w' h => ⟨h.1, h.2.symm⟩)))
          have hq : Below w.heap.size w (w.drewN nq) := below_drewN (Below.refl _ _) nq
          generalize w.drewN nq = wq at *
          go_wp2_with (go_at_call 36; ((with_reducible refine (CP.out _).mono ?_); rintro e w2 ⟨rfl, hb2⟩))
          go_ret3
          exact ⟨rfl, hq.trans (hb2.mono hq.size)⟩
      · rw [if_pos hr] at HE
        rw [HE.out]
        have hb : (reach d (sec d half n) != 0) = true := by simpa using hr
        generalize reach d (sec d half n) = rc at *
        generalize sec d half n = sc at *
        generalize readS d sc = S at *
        clear HE h hd hi hz hh hr
        go_enter Try.func11, Try.ntmps11
        go_wp2
        go_quiet (first
          | (go_at_call 35; exact Calls.quiet_of (CS.out _))
          | (go_at_call 34; exact Calls.quiet_of_same ((CR.out _).mono fun e w' h => ⟨h.1, h.2.symm⟩)))
        have hq : Below w.heap.size w (w.drewN nq) := below_drewN (Below.refl _ _) nq
        generalize w.drewN nq = wq at *
        go_wp2
        go_ret3
        exact ⟨rfl, hq⟩

/-- a page more: the disk, how many are in use, its number, the error -/
def papp (d : D) (half next : Int) (k : Int) (p : ByteArray) : D × Int × Int × Int :=
  if k < 0 ∨ 255 < k ∨ 240 < p.size then (d, next, -1, 1)
  else if (room d : Int) ≤ next then (d, next, -1, 5)
  else if (write d (sec d half next) (ptxt k.toNat p)).2 = 0 then ((write d (sec d half next) (ptxt k.toNat p)).1, next + 1, next, 0)
  else ((write d (sec d half next) (ptxt k.toNat p)).1, next, -1, (write d (sec d half next) (ptxt k.toNat p)).2)
theorem PAt.tch {w w' : World} {b : Bl} {g : Nat} {half next : Int} {l : List Nat} (h : PAt w b g half next) (ht : Tch l w w') (hn : g ∉ l) : PAt w' b g half next := (ht.block _ (blk_lt h) hn).trans h
theorem PAt.below {w w' : World} {b : Bl} {g : Nat} {half next : Int} (h : PAt w b g half next) (hb : Below w.heap.size w w') : PAt w' b g half next := (hb.block _ (blk_lt h)).trans h
set_option maxRecDepth 100000 in
set_option maxHeartbeats 4000000 in
theorem papp_any (b : Bl) (d : D) (g : Nat) (half next k : Int) (p : ByteArray) (w : World) (h : PAt w b g half next) (hg : g ∉ b.l) (hd : DAt w b d) (hi : Inv d) (hw : d.writes < 1000000) (hz : Sz d) (hh : half = 0 ∨ half = 1) (h0 : 0 ≤ next) (h1 : next ≤ (room d : Int)) :
    Calls Try.prog 18 #[.pointer (some ⟨g, 0, none⟩), .int .i64 k, .string p] w fun e w' => e = .returned (.tuple #[.int .i64 (papp d half next k p).2.2.1, .int .i64 (papp d half next k p).2.2.2]) ∧ DAt w' b (papp d half next k p).1 ∧ PAt w' b g half (papp d half next k p).2.1 ∧ Tch (g :: b.l) w w' := by
  obtain ⟨⟨c0, c1, c2⟩, f0, f1, f2⟩ := row3 h
  have HP := Lib.hid h
  have HD := Lib.hid hd
  by_cases hbad : k < 0 ∨ 255 < k ∨ 240 < p.size
  · have e : papp d half next k p = (d, next, -1, 1) := if_pos hbad
    rw [e]
    clear e h hd hi hz hh hg
    by_cases k0 : k < 0
    · clear hbad
      go_enter Try.func18, Try.ntmps18
      go_wp2
      go_ret2
      exact ⟨rfl, HD.out, HP.out, Tch.refl _ _⟩
    · by_cases k1 : 255 < k
      · clear hbad
        go_enter Try.func18, Try.ntmps18
        go_wp2
        go_ret2
        exact ⟨rfl, HD.out, HP.out, Tch.refl _ _⟩
      · have k2 : (240 : Int) < (p.size : Int) := by omega
        clear hbad
        go_enter Try.func18, Try.ntmps18
        go_wp2
        go_ret2
        exact ⟨rfl, HD.out, HP.out, Tch.refl _ _⟩
  · have k0 : ¬ k < 0 := by omega
    have k1 : ¬ 255 < k := by omega
    have k2 : ¬ (240 : Int) < (p.size : Int) := by omega
    have CF := Lib.hid (free_any b d g half next w h hd hz h0 h1)
    by_cases hfull : (room d : Int) ≤ next
    · have e : papp d half next k p = (d, next, -1, 5) := by unfold papp; rw [if_neg hbad, if_pos hfull]
      have ef : (room d : Int) - next = 0 := by omega
      rw [ef] at CF
      rw [e]
      clear e h hd hi hz hh hg hbad ef
      go_enter Try.func18, Try.ntmps18
      go_wp2_with (go_at_call 21; ((with_reducible refine CF.out.mono ?_); rintro e w1 ⟨rfl, m, rfl⟩))
      go_ret2
      exact ⟨rfl, DAt.drewN HD.out m, HP.out, (Tch.refl _ _).drewN m⟩
    · have ef : ((room d : Int) - next == 0) = false := by rw [beq_eq_false_iff_ne]; omega
      have HE : Hid (papp d half next k p = if (write d (sec d half next) (ptxt k.toNat p)).2 = 0 then ((write d (sec d half next) (ptxt k.toNat p)).1, next + 1, next, 0)
          else ((write d (sec d half next) (ptxt k.toNat p)).1, next, -1, (write d (sec d half next) (ptxt k.toNat p)).2)) := by unfold papp; rw [if_neg hbad, if_neg hfull]; rfl
      obtain ⟨kk, rfl⟩ : ∃ kk : Nat, k = (kk : Int) := ⟨k.toNat, by omega⟩
      have hrl := room_le hz
      have CS := Lib.hid (fun W (q : Below w.heap.size w W) => sector_any b d g half next next W (h.below q) (hd.below q) hz hh h0 h1)
      have CT := Lib.hid (fun W => text_any kk p W (by omega) (by omega))
      rw [Int.toNat_natCast] at HE
      have CW := Lib.hid (fun W (q : Below w.heap.size w W) => write_any b d (sec d half next) (ptxt kk p) W (hd.below q) hi hw)
      have hl := blk_lt h
      have HG := Lib.hid hg
      have hsc : (sec d half next) = sec d half next := rfl
      clear hd hi hz hh hbad hg hsc
      generalize hr1 : (write d (sec d half next) (ptxt kk p)).1 = d1 at *
      generalize hr2 : (write d (sec d half next) (ptxt kk p)).2 = er at *
      generalize sec d half next = sc at *
      generalize ptxt kk p = T at *
      clear hr1 hr2
      go_enter Try.func18, Try.ntmps18
      go_upto_region 6 with (go_at_call 21; ((with_reducible refine CF.out.mono ?_); rintro e w1 ⟨rfl, m, rfl⟩; have hq : Below w.heap.size w (w.drewN m) := below_drewN (Below.refl _ _) m; have hql : g < (w.drewN m).heap.size := hl; have q0 : (w.drewN m).cell? ⟨g, 0, none⟩ = some (.pointer (some ⟨b.g, 0, none⟩)) := c0; have q2 : (w.drewN m).cell? ⟨g, 2, none⟩ = some (.int .i64 next) := c2; generalize w.drewN m = w1 at *))
      clear c0 c1 c2 f0 f1 f2
      go_region_held3 (fun w' => w'.cell? ⟨g, 0, none⟩ = some (.pointer (some ⟨b.g, 0, none⟩)))
        (first | go_keep | exact x0)
        (first
          | (go_at_call 35; (with_reducible refine (CS.out _ (by first | exact y | exact below_drew hq)).mono ?_); rintro e w' ⟨rfl, hb⟩; obtain ⟨y, x0⟩ : Below w.heap.size w w' ∧ w'.cell? ⟨g, 0, none⟩ = some (.pointer (some ⟨b.g, 0, none⟩)) := (by obtain ⟨ns, rfl⟩ := hb; exact ⟨below_drewN (by first | exact y | exact below_drew hq) ns, by first | exact x0 | exact q0⟩); clear hb)
          | (go_at_call 40; (with_reducible refine (CT.out _).mono ?_); rintro e w' ⟨rfl, hb⟩; obtain ⟨y, x0⟩ : Below w.heap.size w w' ∧ w'.cell? ⟨g, 0, none⟩ = some (.pointer (some ⟨b.g, 0, none⟩)) := ⟨(by first | exact y.trans (hb.mono y.size) | exact (below_drew hq).trans (hb.mono hq.size)), (hb.cell (p := ⟨g, 0, none⟩) (by first | exact Nat.lt_of_lt_of_le hl y.size | exact hql)).trans (by first | exact x0 | exact q0)⟩; clear hb)
          | (go_at_call 39; (with_reducible refine (CW.out _ y).mono ?_); rintro e w' ⟨rfl, hdn, htn⟩; have x0 : w'.cell? ⟨g, 0, none⟩ = some (.pointer (some ⟨b.g, 0, none⟩)) := (row3 (PAt.tch (HP.out.below y) htn HG.out)).1.1; have TT : Tch (g :: b.l) w w' := (Tch.of_below y).trans (htn.mono (fun x hx => List.mem_cons_of_mem _ hx)); have PN : PAt w' b g half next := PAt.tch (HP.out.below y) htn HG.out; clear htn))
      have PP := Lib.hid PN
      have TY := Lib.hid TT
      have DY := Lib.hid hdn
      obtain ⟨⟨x0, x1, x2⟩, z0, z1, z2⟩ := row3 PN
      generalize w' = wy at *
      clear PN TT hdn q0 q2 hq hql h CS CT CW CF
      by_cases he : er = 0
      · rw [if_pos he] at HE
        subst he
        have hn1 : next + 1 ≤ 40000 := by omega
        go_wp2
        go_ret2
        have ht : Tch (g :: b.l) wy (wy.setCell ⟨g, 2, none⟩ (.int .i64 (next + 1))) := (Tch.refl _ _).set (by simp) _
        have ht1 : Tch [g] wy (wy.setCell ⟨g, 2, none⟩ (.int .i64 (next + 1))) := (Tch.refl _ _).set (by simp) _
        have hg := HG.out
        simp only [List.mem_cons, List.not_mem_nil, or_false, not_or] at hg
        rw [HE.out]
        exact ⟨rfl, DY.out.tch ht1 (by simp only [List.mem_singleton]; exact ⟨fun e => hg.1 e.symm, fun e => hg.2.1 e.symm, fun e => hg.2.2 e.symm⟩), PP.out.set _, TY.out.trans ht⟩
      · rw [if_neg he] at HE
        have hb : (er != 0) = true := by simpa using he
        clear he
        go_wp2
        go_ret2
        rw [HE.out]
        exact ⟨rfl, DY.out, PP.out, TY.out⟩
end Pg
end Go.Proofs.Ytnnjcgamhkmljaa
