/-
  Programs: may an op be? (program.mayBeOp) Made by wip/gen/promayo.py.
-/
import Derived.Test.YtnhgoeoffjcooaaProMayA
import Derived.Test.YtnhgoeoffjcooaaProMayB
import Derived.Test.YtnhgoeoffjcooaaProMayC
import Derived.Test.YtnhgoeoffjcooaaProMayD
import Derived.Test.YtnhgoeoffjcooaaProMayE
import Derived.Test.YtnhgoeoffjcooaaProMayG
namespace Go.Proofs.Ytnhgoeoffjcooaa
open Go.RowKit
namespace Pm
open B
theorem mayO_any (p : P) (Af : Option Addr) (cf : Nat) (Ae : Option Addr) (ce : Nat) (Ao : Option Addr) (co : Nat) (lo : Nat) (v : Value) (o : O) (w : World) (hf : IL lo w v o.args) (hl : o.args.length ≤ 2000000) (hh : o.heat < 18446744073709551616) :
    Calls Try.prog 66 #[pv p Af cf Ae ce Ao co, .agg #[.int .i64 o.kind, .int .i64 o.fn, .int .i64 o.a, .int .i64 o.b, .int .i64 o.c, v, .float .f64 o.heat]] w fun e w' => e = .returned (.bool (okO p o)) ∧ Below w.heap.size w w' := by
  cases h0 : inB p.fs.length o.fn with
  | false => exact mayO_G p Af cf Ae ce Ao co lo v o w hf hl hh (fun q => by rw [h0] at q; cases q)
  | true =>
    by_cases h1 : o.kind = 1 ∨ o.kind = 2
    · exact mayO_A p Af cf Ae ce Ao co lo v o w hf hl hh h0 h1
    · by_cases h3 : o.kind = 3 ∨ o.kind = 4
      · exact mayO_B p Af cf Ae ce Ao co lo v o w hf hl hh h0 h3
      · by_cases h5 : o.kind = 5
        · exact mayO_C p Af cf Ae ce Ao co lo v o w hf hl hh h0 h5
        · by_cases h6 : o.kind = 6
          · exact mayO_D p Af cf Ae ce Ao co lo v o w hf hl hh h0 h6
          · by_cases h7 : o.kind = 7
            · exact mayO_E p Af cf Ae ce Ao co lo v o w hf hl hh h0 h7
            · exact mayO_G p Af cf Ae ce Ao co lo v o w hf hl hh (fun _ => by omega)
end Pm
end Go.Proofs.Ytnhgoeoffjcooaa
