/-
  No cell of these rows narrows 'for every input' (looked for: loops, veiled, ifaces, maps, wideKeys, modest, calm, conditions, laid).
  DERIVED. THE GIVEN ROWS OF THIS SEAT. 8 by the template 'for every input the law returns true; each argument reads behind the call as it read before'; 0 by the template 'total and deterministic' (their statements: YtgilmcmanomkiaaTotals.lean).
  GIVEN WITH THE SEED: the statements are not yours to turn. If you find one false, say at which input.
  Laid BY PROGRAM, IN A SANDBOX (cutbox-rows.mjs): the forced cells as the released guide's own fill.sh prints them over the translation 91adbcae6e897cf8… (all of the seat's roots in one cut). By AI agents, Wed Nov 11 2026. No macro, syntax, notation, axiom, sorry.
-/
import Derived.Test.YtgilmcmanomkiaaChecked
import GoSem.Claim
import GoSem.ClaimJoined
import GoSem.ClaimMapViews
import Derived.JoinedTies
import Derived.KernelRfl
namespace Go.Proofs.Ytgilmcmanomkiaa
/- THE CELL 'sum', in the pinned program and in every row, IS THE sha256 OF THE DUMP (.gsa) THAT YtgilmcmanomkiaaProg.lean LOADS. Nothing in Lean hashes anything: it is a label: what it is worth is what the hold of that sum in a sandbox is worth. -/
noncomputable def Try.pinned : Pinned := { name := "ytgilmcmanomkiaa", sum := "91adbcae6e897cf83ad26df09e420b12f258fc046e044c18ff065abbec8ec138", checked := Try.checked }
namespace Rows
def none {H : Type} : Left H := { results := [], args := [] }

/-- 'dowserlaw07.PagesPlays': WHATEVER THE INPUT: true; the input reads as it did. -/
def pagesPlaysSpec : ChangeSpec := { name := "pagesPlays", fn := fun _ => fun
  | [d1, d2] => { results := [.lit (.bool true)], args := [d1, d2] }
  | _ => none }
def pagesPlaysRow : OpenClaim := { program := "ytgilmcmanomkiaa", sum := "91adbcae6e897cf83ad26df09e420b12f258fc046e044c18ff065abbec8ec138", func := "dowser/dowserlaw07.PagesPlays", spec := "pagesPlays", inPlace := ["internal/abi.NoEscape", "internal/bytealg.MakeNoZero"], unfollowed := true, recurses := true, apart := false }
def PagesPlaysSaid : Prop := pagesPlaysRow.holds Try.pinned (OpenSpec.ofChange pagesPlaysSpec)

/-- ITS FALSE NEIGHBOUR: 'it returns false'. Refute it at one input. -/
def pagesPlaysWrong : ChangeSpec := { name := "pagesPlays", fn := fun _ => fun
  | [d1, d2] => { results := [.lit (.bool false)], args := [d1, d2] }
  | _ => none }
def PagesPlaysWrongFalsely : Prop := pagesPlaysRow.holds Try.pinned (OpenSpec.ofChange pagesPlaysWrong)

/-- 'dowserlaw07.PagesSectors': WHATEVER THE INPUT: true; the input reads as it did. -/
def pagesSectorsSpec : ChangeSpec := { name := "pagesSectors", fn := fun _ => fun
  | [d1, d2, d3] => { results := [.lit (.bool true)], args := [d1, d2, d3] }
  | _ => none }
def pagesSectorsRow : OpenClaim := { program := "ytgilmcmanomkiaa", sum := "91adbcae6e897cf83ad26df09e420b12f258fc046e044c18ff065abbec8ec138", func := "dowser/dowserlaw07.PagesSectors", spec := "pagesSectors", inPlace := ["internal/abi.NoEscape", "internal/bytealg.MakeNoZero"], apart := false }
def PagesSectorsSaid : Prop := pagesSectorsRow.holds Try.pinned (OpenSpec.ofChange pagesSectorsSpec)

/-- ITS FALSE NEIGHBOUR: 'it returns false'. Refute it at one input. -/
def pagesSectorsWrong : ChangeSpec := { name := "pagesSectors", fn := fun _ => fun
  | [d1, d2, d3] => { results := [.lit (.bool false)], args := [d1, d2, d3] }
  | _ => none }
def PagesSectorsWrongFalsely : Prop := pagesSectorsRow.holds Try.pinned (OpenSpec.ofChange pagesSectorsWrong)

/-- 'dowserlaw07.PagesRefuses': WHATEVER THE INPUT: true; the input reads as it did. -/
def pagesRefusesSpec : ChangeSpec := { name := "pagesRefuses", fn := fun _ => fun
  | [d1, d2, d3] => { results := [.lit (.bool true)], args := [d1, d2, d3] }
  | _ => none }
def pagesRefusesRow : OpenClaim := { program := "ytgilmcmanomkiaa", sum := "91adbcae6e897cf83ad26df09e420b12f258fc046e044c18ff065abbec8ec138", func := "dowser/dowserlaw07.PagesRefuses", spec := "pagesRefuses", inPlace := ["internal/abi.NoEscape", "internal/bytealg.MakeNoZero"], apart := false }
def PagesRefusesSaid : Prop := pagesRefusesRow.holds Try.pinned (OpenSpec.ofChange pagesRefusesSpec)

/-- ITS FALSE NEIGHBOUR: 'it returns false'. Refute it at one input. -/
def pagesRefusesWrong : ChangeSpec := { name := "pagesRefuses", fn := fun _ => fun
  | [d1, d2, d3] => { results := [.lit (.bool false)], args := [d1, d2, d3] }
  | _ => none }
def PagesRefusesWrongFalsely : Prop := pagesRefusesRow.holds Try.pinned (OpenSpec.ofChange pagesRefusesWrong)

/-- 'dowserlaw07.PagesFill': WHATEVER THE INPUT: true; the input reads as it did. -/
def pagesFillSpec : ChangeSpec := { name := "pagesFill", fn := fun _ => fun
  | [d1, d2] => { results := [.lit (.bool true)], args := [d1, d2] }
  | _ => none }
def pagesFillRow : OpenClaim := { program := "ytgilmcmanomkiaa", sum := "91adbcae6e897cf83ad26df09e420b12f258fc046e044c18ff065abbec8ec138", func := "dowser/dowserlaw07.PagesFill", spec := "pagesFill", inPlace := ["internal/abi.NoEscape", "internal/bytealg.MakeNoZero"], apart := false }
def PagesFillSaid : Prop := pagesFillRow.holds Try.pinned (OpenSpec.ofChange pagesFillSpec)

/-- ITS FALSE NEIGHBOUR: 'it returns false'. Refute it at one input. -/
def pagesFillWrong : ChangeSpec := { name := "pagesFill", fn := fun _ => fun
  | [d1, d2] => { results := [.lit (.bool false)], args := [d1, d2] }
  | _ => none }
def PagesFillWrongFalsely : Prop := pagesFillRow.holds Try.pinned (OpenSpec.ofChange pagesFillWrong)

/-- 'dowserlaw08.BlobBack': WHATEVER THE INPUT: true; the input reads as it did. -/
def blobBackSpec : ChangeSpec := { name := "blobBack", fn := fun _ => fun
  | [d1, d2] => { results := [.lit (.bool true)], args := [d1, d2] }
  | _ => none }
def blobBackRow : OpenClaim := { program := "ytgilmcmanomkiaa", sum := "91adbcae6e897cf83ad26df09e420b12f258fc046e044c18ff065abbec8ec138", func := "dowser/dowserlaw08.BlobBack", spec := "blobBack", inPlace := ["internal/abi.NoEscape", "internal/bytealg.MakeNoZero"], unfollowed := true, recurses := true, apart := false }
def BlobBackSaid : Prop := blobBackRow.holds Try.pinned (OpenSpec.ofChange blobBackSpec)

/-- ITS FALSE NEIGHBOUR: 'it returns false'. Refute it at one input. -/
def blobBackWrong : ChangeSpec := { name := "blobBack", fn := fun _ => fun
  | [d1, d2] => { results := [.lit (.bool false)], args := [d1, d2] }
  | _ => none }
def BlobBackWrongFalsely : Prop := blobBackRow.holds Try.pinned (OpenSpec.ofChange blobBackWrong)

/-- 'dowserlaw08.BlobLimits': WHATEVER THE INPUT: true; the input reads as it did. -/
def blobLimitsSpec : ChangeSpec := { name := "blobLimits", fn := fun _ => fun
  | [d] => { results := [.lit (.bool true)], args := [d] }
  | _ => none }
def blobLimitsRow : OpenClaim := { program := "ytgilmcmanomkiaa", sum := "91adbcae6e897cf83ad26df09e420b12f258fc046e044c18ff065abbec8ec138", func := "dowser/dowserlaw08.BlobLimits", spec := "blobLimits", inPlace := ["internal/abi.NoEscape", "internal/bytealg.MakeNoZero"], unfollowed := true, recurses := true, apart := false }
def BlobLimitsSaid : Prop := blobLimitsRow.holds Try.pinned (OpenSpec.ofChange blobLimitsSpec)

/-- ITS FALSE NEIGHBOUR: 'it returns false'. Refute it at one input. -/
def blobLimitsWrong : ChangeSpec := { name := "blobLimits", fn := fun _ => fun
  | [d] => { results := [.lit (.bool false)], args := [d] }
  | _ => none }
def BlobLimitsWrongFalsely : Prop := blobLimitsRow.holds Try.pinned (OpenSpec.ofChange blobLimitsWrong)

/-- 'dowserlaw08.BlobTold': WHATEVER THE INPUT: true; the input reads as it did. -/
def blobToldSpec : ChangeSpec := { name := "blobTold", fn := fun _ => fun
  | [d1, d2] => { results := [.lit (.bool true)], args := [d1, d2] }
  | _ => none }
def blobToldRow : OpenClaim := { program := "ytgilmcmanomkiaa", sum := "91adbcae6e897cf83ad26df09e420b12f258fc046e044c18ff065abbec8ec138", func := "dowser/dowserlaw08.BlobTold", spec := "blobTold", inPlace := ["internal/abi.NoEscape", "internal/bytealg.MakeNoZero"], unfollowed := true, recurses := true, apart := false }
def BlobToldSaid : Prop := blobToldRow.holds Try.pinned (OpenSpec.ofChange blobToldSpec)

/-- ITS FALSE NEIGHBOUR: 'it returns false'. Refute it at one input. -/
def blobToldWrong : ChangeSpec := { name := "blobTold", fn := fun _ => fun
  | [d1, d2] => { results := [.lit (.bool false)], args := [d1, d2] }
  | _ => none }
def BlobToldWrongFalsely : Prop := blobToldRow.holds Try.pinned (OpenSpec.ofChange blobToldWrong)

/-- 'dowserlaw08.BlobCosts': WHATEVER THE INPUT: true; the input reads as it did. -/
def blobCostsSpec : ChangeSpec := { name := "blobCosts", fn := fun _ => fun
  | [d1, d2] => { results := [.lit (.bool true)], args := [d1, d2] }
  | _ => none }
def blobCostsRow : OpenClaim := { program := "ytgilmcmanomkiaa", sum := "91adbcae6e897cf83ad26df09e420b12f258fc046e044c18ff065abbec8ec138", func := "dowser/dowserlaw08.BlobCosts", spec := "blobCosts", inPlace := ["internal/abi.NoEscape", "internal/bytealg.MakeNoZero"], unfollowed := true, recurses := true, apart := false }
def BlobCostsSaid : Prop := blobCostsRow.holds Try.pinned (OpenSpec.ofChange blobCostsSpec)

/-- ITS FALSE NEIGHBOUR: 'it returns false'. Refute it at one input. -/
def blobCostsWrong : ChangeSpec := { name := "blobCosts", fn := fun _ => fun
  | [d1, d2] => { results := [.lit (.bool false)], args := [d1, d2] }
  | _ => none }
def BlobCostsWrongFalsely : Prop := blobCostsRow.holds Try.pinned (OpenSpec.ofChange blobCostsWrong)

/- THE SECOND FORM. 'bulk': how many values and letters a reading holds, each counted each time it is reached (what is shared counts as often as it is met; a slice's spare places count too). A statement '..UptoSaid' is the law's where the arguments, and the package variables that the reading takes, are together of bulk at most 1048576: NARROWER than '..Said'. Prove '..Said' where nothing that the law and all that it calls make is longer than what came in: it says more and counts as full. Else prove '..UptoSaid'. A law counts once. -/
mutual
def uptoBulk {H : Type} : DataW H → Nat
  | .lit (.string bytes) => bytes.length + 1
  | .lit _ => 1
  | .nil => 1
  | .ptr d => uptoBulk d + 1
  | .slice elems spare => uptoBulkAll elems + uptoBulkAll spare + 1
  | .agg parts => uptoBulkAll parts + 1
  | .iface _ d => uptoBulk d + 1
  | .map entries => uptoBulkEntries entries + 1
  | .held _ => 1
def uptoBulkAll {H : Type} : List (DataW H) → Nat
  | [] => 0
  | d :: r => uptoBulk d + uptoBulkAll r
def uptoBulkEntries {H : Type} : List (Lit × DataW H) → Nat
  | [] => 0
  | x :: r => uptoBulkEntry x + uptoBulkEntries r
def uptoBulkEntry {H : Type} : Lit × DataW H → Nat
  | (.string bytes, d) => bytes.length + uptoBulk d + 1
  | (_, d) => uptoBulk d + 1
 end
def uptoSmall : (H : Type) → List (DataW H) → Bool := fun _ ds => decide (uptoBulkAll ds ≤ 1048576)
def OpenSpec.upto (s : _root_.Go.ChangeSpec) : _root_.Go.OpenSpec := { _root_.Go.OpenSpec.ofChange s with cond := some uptoSmall }

/-- 'dowserlaw07.PagesPlays', WHERE WHAT IT READS IS OF BULK AT MOST 1048576: true; the input reads as it did. -/
def pagesPlaysUptoRow : OpenClaim := { program := "ytgilmcmanomkiaa", sum := "91adbcae6e897cf83ad26df09e420b12f258fc046e044c18ff065abbec8ec138", func := "dowser/dowserlaw07.PagesPlays", spec := "pagesPlays", inPlace := ["internal/abi.NoEscape", "internal/bytealg.MakeNoZero"], unfollowed := true, recurses := true, apart := false, narrowed := true }
def PagesPlaysUptoSaid : Prop := pagesPlaysUptoRow.holds Try.pinned (OpenSpec.upto pagesPlaysSpec)

/-- 'dowserlaw07.PagesSectors', WHERE WHAT IT READS IS OF BULK AT MOST 1048576: true; the input reads as it did. -/
def pagesSectorsUptoRow : OpenClaim := { program := "ytgilmcmanomkiaa", sum := "91adbcae6e897cf83ad26df09e420b12f258fc046e044c18ff065abbec8ec138", func := "dowser/dowserlaw07.PagesSectors", spec := "pagesSectors", inPlace := ["internal/abi.NoEscape", "internal/bytealg.MakeNoZero"], apart := false, narrowed := true }
def PagesSectorsUptoSaid : Prop := pagesSectorsUptoRow.holds Try.pinned (OpenSpec.upto pagesSectorsSpec)

/-- 'dowserlaw07.PagesRefuses', WHERE WHAT IT READS IS OF BULK AT MOST 1048576: true; the input reads as it did. -/
def pagesRefusesUptoRow : OpenClaim := { program := "ytgilmcmanomkiaa", sum := "91adbcae6e897cf83ad26df09e420b12f258fc046e044c18ff065abbec8ec138", func := "dowser/dowserlaw07.PagesRefuses", spec := "pagesRefuses", inPlace := ["internal/abi.NoEscape", "internal/bytealg.MakeNoZero"], apart := false, narrowed := true }
def PagesRefusesUptoSaid : Prop := pagesRefusesUptoRow.holds Try.pinned (OpenSpec.upto pagesRefusesSpec)

/-- 'dowserlaw07.PagesFill', WHERE WHAT IT READS IS OF BULK AT MOST 1048576: true; the input reads as it did. -/
def pagesFillUptoRow : OpenClaim := { program := "ytgilmcmanomkiaa", sum := "91adbcae6e897cf83ad26df09e420b12f258fc046e044c18ff065abbec8ec138", func := "dowser/dowserlaw07.PagesFill", spec := "pagesFill", inPlace := ["internal/abi.NoEscape", "internal/bytealg.MakeNoZero"], apart := false, narrowed := true }
def PagesFillUptoSaid : Prop := pagesFillUptoRow.holds Try.pinned (OpenSpec.upto pagesFillSpec)

/-- 'dowserlaw08.BlobBack', WHERE WHAT IT READS IS OF BULK AT MOST 1048576: true; the input reads as it did. -/
def blobBackUptoRow : OpenClaim := { program := "ytgilmcmanomkiaa", sum := "91adbcae6e897cf83ad26df09e420b12f258fc046e044c18ff065abbec8ec138", func := "dowser/dowserlaw08.BlobBack", spec := "blobBack", inPlace := ["internal/abi.NoEscape", "internal/bytealg.MakeNoZero"], unfollowed := true, recurses := true, apart := false, narrowed := true }
def BlobBackUptoSaid : Prop := blobBackUptoRow.holds Try.pinned (OpenSpec.upto blobBackSpec)

/-- 'dowserlaw08.BlobLimits', WHERE WHAT IT READS IS OF BULK AT MOST 1048576: true; the input reads as it did. -/
def blobLimitsUptoRow : OpenClaim := { program := "ytgilmcmanomkiaa", sum := "91adbcae6e897cf83ad26df09e420b12f258fc046e044c18ff065abbec8ec138", func := "dowser/dowserlaw08.BlobLimits", spec := "blobLimits", inPlace := ["internal/abi.NoEscape", "internal/bytealg.MakeNoZero"], unfollowed := true, recurses := true, apart := false, narrowed := true }
def BlobLimitsUptoSaid : Prop := blobLimitsUptoRow.holds Try.pinned (OpenSpec.upto blobLimitsSpec)

/-- 'dowserlaw08.BlobTold', WHERE WHAT IT READS IS OF BULK AT MOST 1048576: true; the input reads as it did. -/
def blobToldUptoRow : OpenClaim := { program := "ytgilmcmanomkiaa", sum := "91adbcae6e897cf83ad26df09e420b12f258fc046e044c18ff065abbec8ec138", func := "dowser/dowserlaw08.BlobTold", spec := "blobTold", inPlace := ["internal/abi.NoEscape", "internal/bytealg.MakeNoZero"], unfollowed := true, recurses := true, apart := false, narrowed := true }
def BlobToldUptoSaid : Prop := blobToldUptoRow.holds Try.pinned (OpenSpec.upto blobToldSpec)

/-- 'dowserlaw08.BlobCosts', WHERE WHAT IT READS IS OF BULK AT MOST 1048576: true; the input reads as it did. -/
def blobCostsUptoRow : OpenClaim := { program := "ytgilmcmanomkiaa", sum := "91adbcae6e897cf83ad26df09e420b12f258fc046e044c18ff065abbec8ec138", func := "dowser/dowserlaw08.BlobCosts", spec := "blobCosts", inPlace := ["internal/abi.NoEscape", "internal/bytealg.MakeNoZero"], unfollowed := true, recurses := true, apart := false, narrowed := true }
def BlobCostsUptoSaid : Prop := blobCostsUptoRow.holds Try.pinned (OpenSpec.upto blobCostsSpec)

end Rows
end Go.Proofs.Ytgilmcmanomkiaa
