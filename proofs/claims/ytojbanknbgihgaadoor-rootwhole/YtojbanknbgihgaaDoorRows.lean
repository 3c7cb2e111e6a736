/-
  NARROWER THAN 'FOR EVERY INPUT', by the rows' own cells (each row's printed sentence says how): RootRefuses: laid · RootWhole: laid.
  DERIVED. THE GIVEN ROWS OF THIS SEAT. 2 by the template 'for every input the law returns true; each argument reads behind the call as it read before'; 0 by the template 'total and deterministic' (their statements: YtojbanknbgihgaaDoorTotals.lean).
  GIVEN WITH THE SEED: the statements are not yours to turn. If you find one false, say at which input.
  Laid BY PROGRAM, IN A SANDBOX (cutbox-rows.mjs): the forced cells as the released guide's own fill.sh prints them over the translation b28f45e028ad40cf… (all of the seat's roots in one cut). By AI agents, Wed Nov 11 2026. No macro, syntax, notation, axiom, sorry.
-/
import Derived.Test.YtojbanknbgihgaaDoorChecked
import GoSem.Claim
import GoSem.ClaimJoined
import GoSem.ClaimMapViews
import Derived.JoinedTies
import Derived.KernelRfl
namespace Go.Proofs.YtojbanknbgihgaaDoor
/- THE CELL 'sum', in the pinned program and in every row, IS THE sha256 OF THE DUMP (.gsa) THAT YtojbanknbgihgaaDoorProg.lean LOADS. Nothing in Lean hashes anything: it is a label: what it is worth is what the hold of that sum in a sandbox is worth. -/
noncomputable def Tryd.pinned : Pinned := { name := "ytojbanknbgihgaadoor", sum := "b28f45e028ad40cf4baacb6ef0d9220a68744477a99533647286c2235a0fdcd5", checked := Tryd.checked }
namespace Rows
def none {H : Type} : Left H := { results := [], args := [] }

/- WHAT THE LISTED PACKAGE-LEVEL VARIABLES READ AS WHEN THE CALL BEGINS. Each datum BY PROGRAM (the guide's laid-datum.mjs) off the statement by which the dump's own 'gosem.cut.vars' lays the variable. In a bare row this is a premise. The card (YtojbanknbgihgaaDoorCards.lean) ties it to the program's text. -/
def laid_dowser_root_least {H : Type} : DataW H := .agg [.lit (.int .i64 (-1)), .lit (.int .i64 0), .lit (.int .i64 0), .lit (.int .i64 0)]

/-- 'dowserlaw06.RootRefuses': WHATEVER THE INPUT: true; the input reads as it did. -/
def rootRefusesSpec : ChangeSpec := { name := "rootRefuses", fn := fun _ => fun
  | [d] => { results := [.lit (.bool true)], args := [d] }
  | _ => none }
def rootRefusesRow : OpenClaim := { program := "ytojbanknbgihgaadoor", sum := "b28f45e028ad40cf4baacb6ef0d9220a68744477a99533647286c2235a0fdcd5", func := "dowser/dowserlaw06.RootRefuses", spec := "rootRefuses", inPlace := ["internal/abi.NoEscape", "internal/bytealg.MakeNoZero"], unfollowed := true, recurses := true, named := ["dowser/root.least"], apart := false, laid := [("dowser/root.least", laid_dowser_root_least)] }
def RootRefusesSaid : Prop := rootRefusesRow.holds Tryd.pinned (OpenSpec.ofChange rootRefusesSpec)

/-- ITS FALSE NEIGHBOUR: 'it returns false'. Refute it at one input. -/
def rootRefusesWrong : ChangeSpec := { name := "rootRefuses", fn := fun _ => fun
  | [d] => { results := [.lit (.bool false)], args := [d] }
  | _ => none }
def RootRefusesWrongFalsely : Prop := rootRefusesRow.holds Tryd.pinned (OpenSpec.ofChange rootRefusesWrong)

/-- 'dowserlaw06.RootWhole': WHATEVER THE INPUT: true; the input reads as it did. -/
def rootWholeSpec : ChangeSpec := { name := "rootWhole", fn := fun _ => fun
  | [d1, d2] => { results := [.lit (.bool true)], args := [d1, d2] }
  | _ => none }
def rootWholeRow : OpenClaim := { program := "ytojbanknbgihgaadoor", sum := "b28f45e028ad40cf4baacb6ef0d9220a68744477a99533647286c2235a0fdcd5", func := "dowser/dowserlaw06.RootWhole", spec := "rootWhole", inPlace := ["internal/abi.NoEscape", "internal/bytealg.MakeNoZero"], unfollowed := true, recurses := true, named := ["dowser/root.least"], apart := false, laid := [("dowser/root.least", laid_dowser_root_least)] }
def RootWholeSaid : Prop := rootWholeRow.holds Tryd.pinned (OpenSpec.ofChange rootWholeSpec)

/-- ITS FALSE NEIGHBOUR: 'it returns false'. Refute it at one input. -/
def rootWholeWrong : ChangeSpec := { name := "rootWhole", fn := fun _ => fun
  | [d1, d2] => { results := [.lit (.bool false)], args := [d1, d2] }
  | _ => none }
def RootWholeWrongFalsely : Prop := rootWholeRow.holds Tryd.pinned (OpenSpec.ofChange rootWholeWrong)

/- THE SECOND FORM. 'bulk': how many values and letters a reading holds, each counted each time it is reached (what is shared counts as often as it is met; a slice's spare places count too). A statement '..UptoSaid' is the law's where the arguments, and the package variables that the reading takes, are together of bulk at most 1048576: NARROWER than '..Said'. Prove '..Said' where nothing that the law and all that it calls make is longer than what came in: it says more and counts as full. Else prove '..UptoSaid'. A law counts once. -/
mutual
def uptoBulk {H : Type} : DataW H → Nat
  | .lit (.string bytes) => bytes.length + 1
  | .lit _ => 1
  | .nil => 1
  | .ptr d => uptoBulk d + 1
  | .slice elems spare => uptoBulkAll elems + uptoBulkAll spare + 1
  | .agg parts => uptoBulkAll parts + 1
  | .iface _ d => uptoBulk d + 1
  | .map entries => uptoBulkEntries entries + 1
  | .held _ => 1
def uptoBulkAll {H : Type} : List (DataW H) → Nat
  | [] => 0
  | d :: r => uptoBulk d + uptoBulkAll r
def uptoBulkEntries {H : Type} : List (Lit × DataW H) → Nat
  | [] => 0
  | x :: r => uptoBulkEntry x + uptoBulkEntries r
def uptoBulkEntry {H : Type} : Lit × DataW H → Nat
  | (.string bytes, d) => bytes.length + uptoBulk d + 1
  | (_, d) => uptoBulk d + 1
 end
def uptoSmall : (H : Type) → List (DataW H) → Bool := fun _ ds => decide (uptoBulkAll ds ≤ 1048576)
def OpenSpec.upto (s : _root_.Go.ChangeSpec) : _root_.Go.OpenSpec := { _root_.Go.OpenSpec.ofChange s with cond := some uptoSmall }

/-- 'dowserlaw06.RootRefuses', WHERE WHAT IT READS IS OF BULK AT MOST 1048576: true; the input reads as it did. -/
def rootRefusesUptoRow : OpenClaim := { program := "ytojbanknbgihgaadoor", sum := "b28f45e028ad40cf4baacb6ef0d9220a68744477a99533647286c2235a0fdcd5", func := "dowser/dowserlaw06.RootRefuses", spec := "rootRefuses", inPlace := ["internal/abi.NoEscape", "internal/bytealg.MakeNoZero"], unfollowed := true, recurses := true, named := ["dowser/root.least"], apart := false, laid := [("dowser/root.least", laid_dowser_root_least)], narrowed := true }
def RootRefusesUptoSaid : Prop := rootRefusesUptoRow.holds Tryd.pinned (OpenSpec.upto rootRefusesSpec)

/-- 'dowserlaw06.RootWhole', WHERE WHAT IT READS IS OF BULK AT MOST 1048576: true; the input reads as it did. -/
def rootWholeUptoRow : OpenClaim := { program := "ytojbanknbgihgaadoor", sum := "b28f45e028ad40cf4baacb6ef0d9220a68744477a99533647286c2235a0fdcd5", func := "dowser/dowserlaw06.RootWhole", spec := "rootWhole", inPlace := ["internal/abi.NoEscape", "internal/bytealg.MakeNoZero"], unfollowed := true, recurses := true, named := ["dowser/root.least"], apart := false, laid := [("dowser/root.least", laid_dowser_root_least)], narrowed := true }
def RootWholeUptoSaid : Prop := rootWholeUptoRow.holds Tryd.pinned (OpenSpec.upto rootWholeSpec)

end Rows
end Go.Proofs.YtojbanknbgihgaaDoor
