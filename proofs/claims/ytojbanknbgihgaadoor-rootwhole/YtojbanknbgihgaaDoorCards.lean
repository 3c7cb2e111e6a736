/-
  DERIVED. GIVEN WITH THE SEED: THE CARDS: each row of YtojbanknbgihgaaDoorRows.lean that lists a variable, with what it lists TIED to the program's text (the seventh form; the later family's looks); each row that meets fmt, with fmt's text TOLD by the authors' own Lean function (tested against real Go, not proved from fmt's source: count such statements apart). THE CARD IS WHAT COUNTS. Prove the row's statement (the work); the ties are given (YtojbanknbgihgaaDoorTie.lean); close each card by the builder's one call (the guide's Derived/Test/ToyasCard.lean, 'card_holds'). Laid BY PROGRAM, IN A SANDBOX (cutbox-door.mjs). By AI agents, Wed Nov 11 2026. No macro, syntax, notation, axiom, sorry.
-/
import Derived.Test.YtojbanknbgihgaaDoorRows
import GoSem.ClaimSeven
namespace Go.Proofs.YtojbanknbgihgaaDoor
namespace Rows

/-- THE TIED CARD OF 'dowserlaw06.RootRefuses'. -/
def rootRefusesCard : Claim7 := { stood := { row := rootRefusesRow, standIns := [], harness := (true, "ddab740a29862f209452f5a67602af71fdcbb190dd08c92e517b5313ae20766f"), looks := false }, kinds := [], alts := [], laidByText := true, laidKinds := [.data], laidTests := true, laidLooks := .later }
def RootRefusesCardSaid : Prop := Claim7.holds Tryd.pinned (.plain (OpenSpec.ofChange rootRefusesSpec)) rootRefusesCard

/-- THE TIED CARD OF 'dowserlaw06.RootWhole'. -/
def rootWholeCard : Claim7 := { stood := { row := rootWholeRow, standIns := [], harness := (true, "ddab740a29862f209452f5a67602af71fdcbb190dd08c92e517b5313ae20766f"), looks := false }, kinds := [], alts := [], laidByText := true, laidKinds := [.data], laidTests := true, laidLooks := .later }
def RootWholeCardSaid : Prop := Claim7.holds Tryd.pinned (.plain (OpenSpec.ofChange rootWholeSpec)) rootWholeCard

/-- THE SECOND FORM's CARD OF 'dowserlaw06.RootRefuses'. -/
def rootRefusesUptoCard : Claim7 := { stood := { row := rootRefusesUptoRow, standIns := [], harness := (true, "ddab740a29862f209452f5a67602af71fdcbb190dd08c92e517b5313ae20766f"), looks := false }, kinds := [], alts := [], laidByText := true, laidKinds := [.data], laidTests := true, laidLooks := .later }
def RootRefusesUptoCardSaid : Prop := Claim7.holds Tryd.pinned (.plain (OpenSpec.upto rootRefusesSpec)) rootRefusesUptoCard

/-- THE SECOND FORM's CARD OF 'dowserlaw06.RootWhole'. -/
def rootWholeUptoCard : Claim7 := { stood := { row := rootWholeUptoRow, standIns := [], harness := (true, "ddab740a29862f209452f5a67602af71fdcbb190dd08c92e517b5313ae20766f"), looks := false }, kinds := [], alts := [], laidByText := true, laidKinds := [.data], laidTests := true, laidLooks := .later }
def RootWholeUptoCardSaid : Prop := Claim7.holds Tryd.pinned (.plain (OpenSpec.upto rootWholeSpec)) rootWholeUptoCard
end Rows
end Go.Proofs.YtojbanknbgihgaaDoor
