/-
  Programs: program.Check.
-/
import Derived.Test.YtnhgoeoffjcooaaProMayO
namespace Go.Proofs.Ytnhgoeoffjcooaa
open Go.RowKit
namespace Pm
open B
set_option linter.unusedVariables false
set_option maxRecDepth 100000 in
set_option maxHeartbeats 4000000 in
theorem allFx_lim (A : Option Addr) (c : Nat) (f : F) (k : Nat) (w : World) (hk : w.cell? ⟨k, 0, none⟩ = some (.func (.func 60) #[] #[])) :
    Calls Try.prog 88 #[.agg #[.slice A f.ps.length c, .int .i64 f.ret], .pointer (some ⟨k, 0, none⟩)] w fun e w' => e = .returned (.bool (!(fewF f))) ∧ Below w.heap.size w w' := by
  have bA := below1 w (.cells #[.slice A f.ps.length c, .int .i64 f.ret] 45)
  have hk1 := (bA.cell (p := ⟨k, 0, none⟩) (cell_lt hk)).trans hk
  have CL := Lib.hid (fun X => limF_any A c f X)
  have B1 := Lib.hid bA
  clear bA
  go_enter Try.func88, Try.ntmps88
  go_wp2_with (go_at_call 60; ((with_reducible refine (CL.out _).mono ?_); rintro e w2 ⟨rfl, hb2⟩))
  go_ret
  exact ⟨rfl, B1.out.trans (hb2.mono B1.out.size)⟩
set_option maxRecDepth 100000 in
set_option maxHeartbeats 4000000 in
theorem allOx_lim (A : Option Addr) (c : Nat) (o : O) (k : Nat) (w : World) (hk : w.cell? ⟨k, 0, none⟩ = some (.func (.func 62) #[] #[])) :
    Calls Try.prog 90 #[.agg #[.int .i64 o.kind, .int .i64 o.fn, .int .i64 o.a, .int .i64 o.b, .int .i64 o.c, .slice A o.args.length c, .float .f64 o.heat], .pointer (some ⟨k, 0, none⟩)] w fun e w' => e = .returned (.bool (!(fewO o))) ∧ Below w.heap.size w w' := by
  have bA := below1 w (.cells #[.int .i64 o.kind, .int .i64 o.fn, .int .i64 o.a, .int .i64 o.b, .int .i64 o.c, .slice A o.args.length c, .float .f64 o.heat] 42)
  have hk1 := (bA.cell (p := ⟨k, 0, none⟩) (cell_lt hk)).trans hk
  have CL := Lib.hid (fun X => limO_any A c o X)
  have B1 := Lib.hid bA
  clear bA
  go_enter Try.func90, Try.ntmps90
  go_wp2_with (go_at_call 62; ((with_reducible refine (CL.out _).mono ?_); rintro e w2 ⟨rfl, hb2⟩))
  go_ret
  exact ⟨rfl, B1.out.trans (hb2.mono B1.out.size)⟩
set_option maxRecDepth 100000 in
set_option maxHeartbeats 4000000 in
theorem allFx_may (p : P) (Af : Option Addr) (cf : Nat) (Ae : Option Addr) (ce : Nat) (Ao : Option Addr) (co : Nat) (lo : Nat) (v : Value) (f : F) (k : Nat) (w : World) (hf : IL lo w v f.ps) (hl : f.ps.length ≤ 2000000)
    (hk : w.cell? ⟨k, 0, none⟩ = some (.func (.func 63) #[pv p Af cf Ae ce Ao co] #[])) :
    Calls Try.prog 88 #[.agg #[v, .int .i64 f.ret], .pointer (some ⟨k, 0, none⟩)] w fun e w' => e = .returned (.bool (!(okF p f))) ∧ Below w.heap.size w w' := by
  have CM := Lib.hid (fun X (q : Below w.heap.size w X) => mayF_any p Af cf Ae ce Ao co lo v f X (hf.below q) hl)
  obtain ⟨A, c, rfl, _⟩ := hf
  have bA := below1 w (.cells #[.slice A f.ps.length c, .int .i64 f.ret] 45)
  have hk1 := (bA.cell (p := ⟨k, 0, none⟩) (cell_lt hk)).trans hk
  have B1 := Lib.hid bA
  clear bA
  go_enter Try.func88, Try.ntmps88
  go_wp2_with (go_at_call 63; ((with_reducible refine (CM.out _ B1.out).mono ?_); rintro e w2 ⟨rfl, hb2⟩))
  go_ret
  exact ⟨rfl, B1.out.trans (hb2.mono B1.out.size)⟩
set_option maxRecDepth 100000 in
set_option maxHeartbeats 4000000 in
theorem allOx_may (p : P) (Af : Option Addr) (cf : Nat) (Ae : Option Addr) (ce : Nat) (Ao : Option Addr) (co : Nat) (lo : Nat) (v : Value) (o : O) (k : Nat) (w : World) (hf : IL lo w v o.args) (hl : o.args.length ≤ 2000000) (hh : o.heat < 18446744073709551616)
    (hk : w.cell? ⟨k, 0, none⟩ = some (.func (.func 66) #[pv p Af cf Ae ce Ao co] #[])) :
    Calls Try.prog 90 #[.agg #[.int .i64 o.kind, .int .i64 o.fn, .int .i64 o.a, .int .i64 o.b, .int .i64 o.c, v, .float .f64 o.heat], .pointer (some ⟨k, 0, none⟩)] w fun e w' => e = .returned (.bool (!(okO p o))) ∧ Below w.heap.size w w' := by
  have CM := Lib.hid (fun X (q : Below w.heap.size w X) => mayO_any p Af cf Ae ce Ao co lo v o X (hf.below q) hl hh)
  obtain ⟨A, c, rfl, _⟩ := hf
  have bA := below1 w (.cells #[.int .i64 o.kind, .int .i64 o.fn, .int .i64 o.a, .int .i64 o.b, .int .i64 o.c, .slice A o.args.length c, .float .f64 o.heat] 42)
  have hk1 := (bA.cell (p := ⟨k, 0, none⟩) (cell_lt hk)).trans hk
  have B1 := Lib.hid bA
  clear bA
  go_enter Try.func90, Try.ntmps90
  go_wp2_with (go_at_call 66; ((with_reducible refine (CM.out _ B1.out).mono ?_); rintro e w2 ⟨rfl, hb2⟩))
  go_ret
  exact ⟨rfl, B1.out.trans (hb2.mono B1.out.size)⟩
set_option maxRecDepth 100000 in
set_option maxHeartbeats 8000000 in
theorem limit_any (lo : Nat) (p : P) (Af : Option Addr) (cf : Nat) (Ae : Option Addr) (ce : Nat) (Ao : Option Addr) (co : Nat) (w : World) (h : PIn lo w p Af cf Ae ce Ao co) (hs : Sm p) :
    Calls Try.prog 30 #[pv p Af cf Ae ce Ao co] w fun e w' => e = .returned (.bool (big p)) ∧ Below w.heap.size w w' := by
  have CF := Lib.hid (fun X (q : Below w.heap.size w X) => allF_any (.func 60) #[] #[] fewF lo Af p.fs cf X (h.f.below q) hs.f (fun W g hk _ v f _ hi => by
    obtain ⟨A, c, rfl, _⟩ := hi
    exact allFx_lim A c f g W hk))
  have CO := Lib.hid (fun X (q : Below w.heap.size w X) => allO_any (.func 62) #[] #[] fewO lo Ao p.ops co X (h.o.below q) hs.o (fun W g hk _ v o _ hi _ => by
    obtain ⟨A, c, rfl, _⟩ := hi
    exact allOx_lim A c o g W hk))
  have bA := below1 w (.cells #[.int .i64 p.vars, .int .i64 p.objs, .int .i64 p.fields, .slice Af p.fs.length cf, .slice Ae p.en.length ce, .slice Ao p.ops.length co] 33)
  have B1 := Lib.hid bA
  have R1 := Lib.hid (heap_last w (.cells #[.int .i64 p.vars, .int .i64 p.objs, .int .i64 p.fields, .slice Af p.fs.length cf, .slice Ae p.en.length ce, .slice Ao p.ops.length co] 33) w.heap.size rfl)
  clear bA h hs
  by_cases n1 : 200 < p.vars
  · have HO := Lib.hid (show big p = true from by simp [big, big0, n1])
    go_enter Try.func30, Try.ntmps30
    go_wp2
    go_ret
    exact ⟨by rw [HO.out]; rfl, B1.out⟩
  · by_cases n2 : 60 < p.objs
    · have HO := Lib.hid (show big p = true from by simp [big, big0, n1, n2])
      go_enter Try.func30, Try.ntmps30
      go_wp2
      go_ret
      exact ⟨by rw [HO.out]; rfl, B1.out⟩
    · by_cases n3 : 6 < p.fields
      · have HO := Lib.hid (show big p = true from by simp [big, big0, n1, n2, n3])
        go_enter Try.func30, Try.ntmps30
        go_wp2
        go_ret
        exact ⟨by rw [HO.out]; rfl, B1.out⟩
      · by_cases n4 : 30 < (p.fs.length : Int)
        · have HO := Lib.hid (show big p = true from by simp [big, big0, n1, n2, n3, n4])
          go_enter Try.func30, Try.ntmps30
          go_wp2
          go_ret
          exact ⟨by rw [HO.out]; rfl, B1.out⟩
        · by_cases n5 : 30 < (p.en.length : Int)
          · have HO := Lib.hid (show big p = true from by simp [big, big0, n1, n2, n3, n4, n5])
            go_enter Try.func30, Try.ntmps30
            go_wp2
            go_ret
            exact ⟨by rw [HO.out]; rfl, B1.out⟩
          · by_cases n6 : 300 < (p.ops.length : Int)
            · have HO := Lib.hid (show big p = true from by simp [big, big0, n1, n2, n3, n4, n5, n6])
              go_enter Try.func30, Try.ntmps30
              go_wp2
              go_ret
              exact ⟨by rw [HO.out]; rfl, B1.out⟩
            · have HO := Lib.hid (show big p = (!(p.fs.all fewF) || !(p.ops.all fewO)) from by simp [big, big0, n1, n2, n3, n4, n5, n6])
              cases hF : p.fs.all fewF with
              | false =>
                rw [hF] at HO CF
                clear hF
                go_enter Try.func30, Try.ntmps30
                go_wp2_with (first
                  | (go_at_call 59; ((with_reducible refine (CF.out _ B1.out).mono ?_); rintro e w2 ⟨rfl, hb2⟩; have B2 := Lib.hid (B1.out.trans (hb2.mono B1.out.size)); have R2 := Lib.hid (blk_below R1.out hb2 (blk_lt R1.out)); obtain ⟨x0, x1, x2, x3, x4, x5, _⟩ := row6 R2.out))
                  | (go_at_call 61; ((with_reducible refine (CO.out _ B2.out).mono ?_); rintro e w3 ⟨rfl, hb3⟩)))
                go_ret
                exact ⟨by rw [HO.out]; rfl, B2.out⟩
              | true =>
                rw [hF] at HO CF
                clear hF
                go_enter Try.func30, Try.ntmps30
                go_wp2_with (first
                  | (go_at_call 59; ((with_reducible refine (CF.out _ B1.out).mono ?_); rintro e w2 ⟨rfl, hb2⟩; have B2 := Lib.hid (B1.out.trans (hb2.mono B1.out.size)); have R2 := Lib.hid (blk_below R1.out hb2 (blk_lt R1.out)); obtain ⟨x0, x1, x2, x3, x4, x5, _⟩ := row6 R2.out))
                  | (go_at_call 61; ((with_reducible refine (CO.out _ B2.out).mono ?_); rintro e w3 ⟨rfl, hb3⟩)))
                go_ret
                exact ⟨by rw [HO.out]; rfl, B2.out.trans (hb3.mono B2.out.size)⟩
end Pm
end Go.Proofs.Ytnhgoeoffjcooaa
