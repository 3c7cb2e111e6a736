/-
  The helpers of layer 5's statements: Cut, Few, the fixed fact; calls that came in.
-/
import Derived.Test.YtnnjcgamhkmljaaDiskCr
import Derived.Test.YtnnjcgamhkmljaaDiskCl
import Derived.Test.YtnnjcgamhkmljaaDiskNewP
import Derived.StillTailTactics
namespace Go.Proofs.Ytnnjcgamhkmljaa
open Go.RowKit
namespace Dsk
open B

/-- 'Cut': at most n bytes. -/
def cutB (s : ByteArray) (n : Nat) : ByteArray := if n < s.size then s.extract 0 n else s
theorem cutB_size (s : ByteArray) (n : Nat) : (cutB s n).size ≤ n := by
  unfold cutB; split
  · simp; omega
  · omega
set_option maxHeartbeats 400000 in
theorem cut_any (s : ByteArray) (n : Nat) (w : World) (hn : n ≤ 1000) :
    Calls Try.prog 10 #[.string s, .int .i64 (n : Int)] w fun e w' => e = .returned (.string (cutB s n)) ∧ w = w' := by
  by_cases h : n < s.size
  · have HE : Hid (cutB s n = s.extract 0 n) := by unfold cutB; rw [if_pos h]; rfl
    go_enter Try.func10, Try.ntmps10
    go_wp2
    go_ret
    exact ⟨ret_str HE.out.symm, rfl⟩
  · have HE : Hid (cutB s n = s) := by unfold cutB; rw [if_neg h]; rfl
    go_enter Try.func10, Try.ntmps10
    go_wp2
    go_ret
    exact ⟨ret_str HE.out.symm, rfl⟩

/-- 'Few': at most 20 -/
def few (l : List Int) : List Int := l.take 20
theorem at_few {w : World} {A : Option Addr} {l : List Int} (h : At vInt w A l) : At vInt w A (few l) := h.take 20
theorem few_len (l : List Int) : (few l).length ≤ 20 := by unfold few; rw [List.length_take]; omega
set_option maxHeartbeats 400000 in
theorem few_any (A : Option Addr) (l : List Int) (c : Nat) (w : World) (hA : At vInt w A l) (hc : l.length ≤ c) :
    Calls Try.prog 16 #[.slice A l.length c] w fun e w' => e = .returned (.slice A (few l).length c) ∧ w = w' := by
  by_cases h : 20 < l.length
  · obtain ⟨b, off, rfl, _, _⟩ := hA (by omega)
    have e : (few l).length = 20 := by unfold few; rw [List.length_take]; omega
    rw [e]
    have h1 : (20 : Int) < (l.length : Int) := by omega
    have h2 : 20 ≤ c := by omega
    clear hA e
    go_enter Try.func16, Try.ntmps16
    go_wp2
    go_ret
    exact ⟨rfl, rfl⟩
  · have e : (few l).length = l.length := by unfold few; rw [List.length_take]; omega
    rw [e]
    have h1 : ¬ (20 : Int) < (l.length : Int) := by omega
    clear hA e
    go_enter Try.func16, Try.ntmps16
    go_wp2
    go_ret
    exact ⟨rfl, rfl⟩

/-- the calls of a disk whose blocks all lie beyond a mark -/
structure My (B : Nat) (w : World) (b : Bl) (d : D) : Prop where
  at' : DAt w b d
  inv : Inv d
  g : B ≤ b.g
  bs : B ≤ b.bs
  bm : B ≤ b.bm
theorem My.apart {w0 w : World} {b : Bl} {d : D} (h : My w0.heap.size w b d) {A : Option Addr} {l : List Int} (hA : At vInt w0 A l) : 0 < l.length → ∀ a, A = some a → a.block ∉ b.l := by
  intro hp a ha
  obtain ⟨b', off, e, hl, _⟩ := hA hp
  rw [ha] at e; injection e with e; subst e
  have h1 := h.g; have h2 := h.bs; have h3 := h.bm
  simp only [List.mem_cons, List.not_mem_nil, or_false]; omega
theorem My.touch {B : Nat} {w w' : World} {b : Bl} {d d' : D} (h : My B w b d) (hd : DAt w' b d') (hi : Inv d') : My B w' b d' := ⟨hd, hi, h.g, h.bs, h.bm⟩
theorem My.low {B : Nat} {w w' : World} {b : Bl} {d : D} (h : My B w b d) (ht : Tch b.l w w') (hB : B ≤ w.heap.size) : Below B w w' := by
  refine ht.below (fun x hx => ?_) hB
  have h1 := h.g; have h2 := h.bs; have h3 := h.bm
  simp at hx
  rcases hx with rfl | rfl | rfl <;> assumption
theorem My.low1 {B : Nat} {w w' : World} {b : Bl} {d : D} (h : My B w b d) (ht : Tch [b.g] w w') (hB : B ≤ w.heap.size) : Below B w w' := h.low (ht.mono (bl_g b)) hB
theorem new_my (n : Nat) (i : Int) (w : World) (hi : i = (n : Int)) (h2 : 2 ≤ n) (hn : n ≤ 65536) :
    Calls Try.prog 6 #[.int .i64 i] w fun e w' => ∃ b : Bl, e = .returned (.pointer (some ⟨b.g, 0, none⟩)) ∧ My w.heap.size w' b (new n) ∧ Below w.heap.size w w' :=
  (new_any n i w hi h2 hn).mono fun _ _ ⟨b, he, hd, hb, hw⟩ => ⟨b, he, ⟨hd, new_inv n (by omega) hn, hb.1, hb.2.1, hb.2.2⟩, hw⟩
theorem write_my {B : Nat} (b : Bl) (d : D) (i : Int) (s : ByteArray) (w : World) (h : My B w b d) (hw : d.writes < 1000000) (hB : B ≤ w.heap.size) :
    Calls Try.prog 39 #[.pointer (some ⟨b.g, 0, none⟩), .int .i64 i, .string s] w fun e w' => e = .returned (.int .i64 (write d i s).2) ∧ My B w' b (write d i s).1 ∧ Below B w w' :=
  (write_any b d i s w h.at' h.inv hw).mono fun _ _ ⟨he, hd, ht⟩ => ⟨he, h.touch hd (write_inv h.inv hw i s), h.low ht hB⟩
theorem flush_my {B : Nat} (b : Bl) (d : D) (w : World) (h : My B w b d) (hw : d.writes < 1000000) (hB : B ≤ w.heap.size) :
    Calls Try.prog 13 #[.pointer (some ⟨b.g, 0, none⟩)] w fun e w' => e = .returned (.int .i64 (flush d).2) ∧ My B w' b (flush d).1 ∧ Below B w w' :=
  (flush_any b d w h.at' h.inv).mono fun _ _ ⟨he, hd, ht⟩ => ⟨he, h.touch hd (flush_inv h.inv hw), h.low ht hB⟩
theorem crash_my {B : Nat} (b : Bl) (d : D) (A : Option Addr) (ch : List Int) (c : Nat) (w : World) (h : My B w b d) (hA : At vInt w A ch) (hl : ch.length ≤ 100000) (hn : 0 < ch.length → ∀ a, A = some a → a.block ∉ b.l) (hB : B ≤ w.heap.size) :
    Calls Try.prog 15 #[.pointer (some ⟨b.g, 0, none⟩), .slice A ch.length c] w fun e w' => e = .returned (.tuple #[]) ∧ My B w' b (crash d ch) ∧ Below B w w' :=
  (crash_any b d A ch c w h.at' h.inv hA hl hn).mono fun _ _ ⟨he, hd, ht⟩ => ⟨he, h.touch hd (crash_inv h.inv ch), h.low ht hB⟩
theorem My.below {B : Nat} {w w' : World} {b : Bl} {d : D} (h : My B w b d) (hb : Below w.heap.size w w') : My B w' b d := ⟨h.at'.below hb, h.inv, h.g, h.bs, h.bm⟩

/-- what the fixed fact comes to -/
theorem awake_fact : (write (new 2) 1 ⟨#[97, 98, 99]⟩).2 = 0 ∧ (write (new 2) 1 ⟨#[97, 98, 99]⟩).1.writes < 1000000 ∧
    reach (crash (write (new 2) 1 ⟨#[97, 98, 99]⟩).1 [2]) 1 = 0 ∧ readS (crash (write (new 2) 1 ⟨#[97, 98, 99]⟩).1 [2]) 1 = fill ⟨#[97, 98]⟩ := by
  refine ⟨by decide +kernel, by decide +kernel, by decide +kernel, ?_⟩
  apply ext_data
  decide +kernel

theorem at_one (W : World) (x : Int) (e : TypeId) (g : Nat) (hg : g = W.heap.size) : At vInt (W.alloc (.cells #[.int .i64 x] e)) (some ⟨g, 0, none⟩) [x] := by
  subst hg
  intro _
  refine ⟨_, 0, rfl, by simp, fun i hi => ?_⟩
  have : i = 0 := by simpa using hi
  subst this
  rw [World.cell?_alloc_mark]; rfl

theorem crash_one {B : Nat} (b : Bl) (d : D) (x : Int) (w : World) (h : My B w b d) (hB : B ≤ w.heap.size) :
    Calls Try.prog 15 #[.pointer (some ⟨b.g, 0, none⟩), .slice (some ⟨w.heap.size, 0, none⟩) 1 1] (w.alloc (.cells #[.int .i64 x] 3)) fun e w' => e = .returned (.tuple #[]) ∧ My B w' b (crash d [x]) ∧ Below B w w' := by
  have hb := (Below.refl w.heap.size w).alloc (Nat.le_refl _) (.cells #[.int .i64 x] 3)
  obtain ⟨l1, l2, l3⟩ := h.at'.lts
  refine (crash_my b d (some ⟨w.heap.size, 0, none⟩) [x] 1 _ (h.below hb) (at_one w x 3 _ rfl) (by simp) (fun _ a ha => ?_) (by simp; omega)).mono fun e w' ⟨h1, h2, h3⟩ => ⟨h1, h2, (hb.mono hB).trans h3⟩
  injection ha with ha
  subst ha
  simp; omega
theorem crash_none {B : Nat} (b : Bl) (d : D) (w : World) (h : My B w b d) (hB : B ≤ w.heap.size) :
    Calls Try.prog 15 #[.pointer (some ⟨b.g, 0, none⟩), .slice none 0 0] w fun e w' => e = .returned (.tuple #[]) ∧ My B w' b (crash d []) ∧ Below B w w' :=
  crash_my b d none [] 0 w h (At.nil _ _) (by simp) (fun _ a ha => by cases ha) hB
theorem beq_same (a b : ByteArray) (h : a = b) : (a.toList == b.toList) = true := by rw [h]; simp

/-- a call that came in -/
structure Act where
  kind : Int
  i : Int
  s : ByteArray
  ch : List Int
  A : Option Addr
  c : Nat
/-- calls that came in, in memory -/
def ActsAt (w : World) (A : Option Addr) (acts : List Act) : Prop := ∀ k (h : k < acts.length), ∃ b off, A = some ⟨b, off, none⟩ ∧ b < w.heap.size ∧
  w.cell? ⟨b, off + k * 4, none⟩ = some (.int .i64 acts[k].kind) ∧ w.cell? ⟨b, off + k * 4 + 1, none⟩ = some (.int .i64 acts[k].i) ∧ w.cell? ⟨b, off + k * 4 + 2, none⟩ = some (.string acts[k].s) ∧
  w.cell? ⟨b, off + k * 4 + 3, none⟩ = some (.slice acts[k].A acts[k].ch.length acts[k].c) ∧ At vInt w acts[k].A acts[k].ch ∧ acts[k].ch.length ≤ acts[k].c ∧ -9223372036854775808 ≤ acts[k].i ∧ acts[k].i ≤ 9223372036854775807
theorem ActsAt.below {w w' : World} {A : Option Addr} {acts : List Act} (h : ActsAt w A acts) (hb : Below w.heap.size w w') : ActsAt w' A acts := by
  intro k hk
  obtain ⟨b, off, e, hl, h0, h1, h2, h3, h4, r⟩ := h k hk
  exact ⟨b, off, e, Nat.lt_of_lt_of_le hl hb.size, (hb.cell (p := ⟨b, _, none⟩) hl).trans h0, (hb.cell (p := ⟨b, _, none⟩) hl).trans h1, (hb.cell (p := ⟨b, _, none⟩) hl).trans h2, (hb.cell (p := ⟨b, _, none⟩) hl).trans h3, h4.below hb, r⟩
end Dsk
end Go.Proofs.Ytnnjcgamhkmljaa
