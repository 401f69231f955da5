/-
  DERIVED. GIVEN WITH THE SEED: THE CARDS: each row of YtnooabgdcfegeaaDoorRows.lean that lists a variable, with what it lists TIED to the program's text (the seventh form; the later family's looks); each row that meets fmt, with fmt's text TOLD by the authors' own Lean function (tested against real Go, not proved from fmt's source: count such statements apart). THE CARD IS WHAT COUNTS. Prove the row's statement (the work); the ties are given (YtnooabgdcfegeaaDoorTie.lean); close each card by the builder's one call (the guide's Derived/Test/ToyasCard.lean, 'card_holds'). Laid BY PROGRAM, IN A SANDBOX (cutbox-door.mjs). By AI agents, Wed Nov 11 2026. No macro, syntax, notation, axiom, sorry.
-/
import Derived.Test.YtnooabgdcfegeaaDoorRows
import GoSem.ClaimSeven
namespace Go.Proofs.YtnooabgdcfegeaaDoor
namespace Rows

/-- THE TIED CARD OF 'postbaglaw19.CodeAssembles'. -/
def codeAssemblesCard : Claim7 := { stood := { row := codeAssemblesRow, standIns := [], harness := (true, "ef17397f89cc864917fb88f455a2f1a347b6b2a09f83275a27d0fe0b6e3338b4"), looks := false }, kinds := [], alts := [], laidByText := true, laidKinds := [.data], laidTests := true, laidLooks := .later }
def CodeAssemblesCardSaid : Prop := Claim7.holds Tryd.pinned (.plain (OpenSpec.ofChange codeAssemblesSpec)) codeAssemblesCard

/-- THE TIED CARD OF 'postbaglaw19.CodeParts'. -/
def codePartsCard : Claim7 := { stood := { row := codePartsRow, standIns := [], harness := (true, "ef17397f89cc864917fb88f455a2f1a347b6b2a09f83275a27d0fe0b6e3338b4"), looks := false }, kinds := [], alts := [], laidByText := true, laidKinds := [.data], laidTests := true, laidLooks := .later }
def CodePartsCardSaid : Prop := Claim7.holds Tryd.pinned (.plain (OpenSpec.ofChange codePartsSpec)) codePartsCard

/-- THE SECOND FORM's CARD OF 'postbaglaw19.CodeAssembles'. -/
def codeAssemblesUptoCard : Claim7 := { stood := { row := codeAssemblesUptoRow, standIns := [], harness := (true, "ef17397f89cc864917fb88f455a2f1a347b6b2a09f83275a27d0fe0b6e3338b4"), looks := false }, kinds := [], alts := [], laidByText := true, laidKinds := [.data], laidTests := true, laidLooks := .later }
def CodeAssemblesUptoCardSaid : Prop := Claim7.holds Tryd.pinned (.plain (OpenSpec.upto codeAssemblesSpec)) codeAssemblesUptoCard

/-- THE SECOND FORM's CARD OF 'postbaglaw19.CodeParts'. -/
def codePartsUptoCard : Claim7 := { stood := { row := codePartsUptoRow, standIns := [], harness := (true, "ef17397f89cc864917fb88f455a2f1a347b6b2a09f83275a27d0fe0b6e3338b4"), looks := false }, kinds := [], alts := [], laidByText := true, laidKinds := [.data], laidTests := true, laidLooks := .later }
def CodePartsUptoCardSaid : Prop := Claim7.holds Tryd.pinned (.plain (OpenSpec.upto codePartsSpec)) codePartsUptoCard
end Rows
end Go.Proofs.YtnooabgdcfegeaaDoor
