/-
  DERIVED. GIVEN WITH THE SEED: THE CARDS: each row of YtmggichckhoomaaGreatDoorRows.lean that lists a variable, with what it lists TIED to the program's text (the seventh form; the later family's looks); each row that meets fmt, with fmt's text TOLD by the authors' own Lean function (tested against real Go, not proved from fmt's source: count such statements apart). THE CARD IS WHAT COUNTS. Prove the row's statement (the work); the ties are given (YtmggichckhoomaaGreatDoorTie.lean); close each card by the builder's one call (the guide's Derived/Test/ToyasCard.lean, 'card_holds'). Laid BY PROGRAM, IN A SANDBOX (cutbox-door.mjs). By AI agents, Wed Nov 11 2026. No macro, syntax, notation, axiom, sorry.
-/
import Derived.Test.YtmggichckhoomaaGreatDoorRows
import GoSem.ClaimSeven
namespace Go.Proofs.YtmggichckhoomaaGreatDoor
namespace Rows

/-- THE TIED CARD OF 'postbaglaw06.HartSteps'. -/
def hartStepsCard : Claim7 := { stood := { row := hartStepsRow, standIns := [], harness := (true, "96ff5ee96118ca46eb58a0554124d8fafab9a05f0cb863e031356b72c81cf327"), looks := false }, kinds := [], alts := [], laidByText := true, laidKinds := [.data], laidTests := true, laidLooks := .later }
def HartStepsCardSaid : Prop := Claim7.holds Tryz.pinned (.plain (OpenSpec.ofChange hartStepsSpec)) hartStepsCard

/-- THE TIED CARD OF 'postbaglaw06.HartRuns'. -/
def hartRunsCard : Claim7 := { stood := { row := hartRunsRow, standIns := [], harness := (true, "96ff5ee96118ca46eb58a0554124d8fafab9a05f0cb863e031356b72c81cf327"), looks := false }, kinds := [], alts := [], laidByText := true, laidKinds := [.data], laidTests := true, laidLooks := .later }
def HartRunsCardSaid : Prop := Claim7.holds Tryz.pinned (.plain (OpenSpec.ofChange hartRunsSpec)) hartRunsCard

/-- THE TIED CARD OF 'postbaglaw06.HartParts'. -/
def hartPartsCard : Claim7 := { stood := { row := hartPartsRow, standIns := [], harness := (true, "96ff5ee96118ca46eb58a0554124d8fafab9a05f0cb863e031356b72c81cf327"), looks := false }, kinds := [], alts := [], laidByText := true, laidKinds := [.data], laidTests := true, laidLooks := .later }
def HartPartsCardSaid : Prop := Claim7.holds Tryz.pinned (.plain (OpenSpec.ofChange hartPartsSpec)) hartPartsCard

/-- THE TIED CARD OF 'postbaglaw06.HartFour'. -/
def hartFourCard : Claim7 := { stood := { row := hartFourRow, standIns := [], harness := (true, "96ff5ee96118ca46eb58a0554124d8fafab9a05f0cb863e031356b72c81cf327"), looks := false }, kinds := [], alts := [], laidByText := true, laidKinds := [.data], laidTests := true, laidLooks := .later }
def HartFourCardSaid : Prop := Claim7.holds Tryz.pinned (.plain (OpenSpec.ofChange hartFourSpec)) hartFourCard

/-- THE TIED CARD OF 'postbaglaw06.HartKeeps'. -/
def hartKeepsCard : Claim7 := { stood := { row := hartKeepsRow, standIns := [], harness := (true, "96ff5ee96118ca46eb58a0554124d8fafab9a05f0cb863e031356b72c81cf327"), looks := false }, kinds := [], alts := [], laidByText := true, laidKinds := [.data], laidTests := true, laidLooks := .later }
def HartKeepsCardSaid : Prop := Claim7.holds Tryz.pinned (.plain (OpenSpec.ofChange hartKeepsSpec)) hartKeepsCard

/-- THE TIED CARD OF 'postbaglaw06.HartHolds'. -/
def hartHoldsCard : Claim7 := { stood := { row := hartHoldsRow, standIns := [], harness := (true, "96ff5ee96118ca46eb58a0554124d8fafab9a05f0cb863e031356b72c81cf327"), looks := false }, kinds := [], alts := [], laidByText := true, laidKinds := [.data], laidTests := true, laidLooks := .later }
def HartHoldsCardSaid : Prop := Claim7.holds Tryz.pinned (.plain (OpenSpec.ofChange hartHoldsSpec)) hartHoldsCard

/-- THE SECOND FORM's CARD OF 'postbaglaw06.HartSteps'. -/
def hartStepsUptoCard : Claim7 := { stood := { row := hartStepsUptoRow, standIns := [], harness := (true, "96ff5ee96118ca46eb58a0554124d8fafab9a05f0cb863e031356b72c81cf327"), looks := false }, kinds := [], alts := [], laidByText := true, laidKinds := [.data], laidTests := true, laidLooks := .later }
def HartStepsUptoCardSaid : Prop := Claim7.holds Tryz.pinned (.plain (OpenSpec.upto hartStepsSpec)) hartStepsUptoCard

/-- THE SECOND FORM's CARD OF 'postbaglaw06.HartRuns'. -/
def hartRunsUptoCard : Claim7 := { stood := { row := hartRunsUptoRow, standIns := [], harness := (true, "96ff5ee96118ca46eb58a0554124d8fafab9a05f0cb863e031356b72c81cf327"), looks := false }, kinds := [], alts := [], laidByText := true, laidKinds := [.data], laidTests := true, laidLooks := .later }
def HartRunsUptoCardSaid : Prop := Claim7.holds Tryz.pinned (.plain (OpenSpec.upto hartRunsSpec)) hartRunsUptoCard

/-- THE SECOND FORM's CARD OF 'postbaglaw06.HartParts'. -/
def hartPartsUptoCard : Claim7 := { stood := { row := hartPartsUptoRow, standIns := [], harness := (true, "96ff5ee96118ca46eb58a0554124d8fafab9a05f0cb863e031356b72c81cf327"), looks := false }, kinds := [], alts := [], laidByText := true, laidKinds := [.data], laidTests := true, laidLooks := .later }
def HartPartsUptoCardSaid : Prop := Claim7.holds Tryz.pinned (.plain (OpenSpec.upto hartPartsSpec)) hartPartsUptoCard

/-- THE SECOND FORM's CARD OF 'postbaglaw06.HartFour'. -/
def hartFourUptoCard : Claim7 := { stood := { row := hartFourUptoRow, standIns := [], harness := (true, "96ff5ee96118ca46eb58a0554124d8fafab9a05f0cb863e031356b72c81cf327"), looks := false }, kinds := [], alts := [], laidByText := true, laidKinds := [.data], laidTests := true, laidLooks := .later }
def HartFourUptoCardSaid : Prop := Claim7.holds Tryz.pinned (.plain (OpenSpec.upto hartFourSpec)) hartFourUptoCard

/-- THE SECOND FORM's CARD OF 'postbaglaw06.HartKeeps'. -/
def hartKeepsUptoCard : Claim7 := { stood := { row := hartKeepsUptoRow, standIns := [], harness := (true, "96ff5ee96118ca46eb58a0554124d8fafab9a05f0cb863e031356b72c81cf327"), looks := false }, kinds := [], alts := [], laidByText := true, laidKinds := [.data], laidTests := true, laidLooks := .later }
def HartKeepsUptoCardSaid : Prop := Claim7.holds Tryz.pinned (.plain (OpenSpec.upto hartKeepsSpec)) hartKeepsUptoCard

/-- THE SECOND FORM's CARD OF 'postbaglaw06.HartHolds'. -/
def hartHoldsUptoCard : Claim7 := { stood := { row := hartHoldsUptoRow, standIns := [], harness := (true, "96ff5ee96118ca46eb58a0554124d8fafab9a05f0cb863e031356b72c81cf327"), looks := false }, kinds := [], alts := [], laidByText := true, laidKinds := [.data], laidTests := true, laidLooks := .later }
def HartHoldsUptoCardSaid : Prop := Claim7.holds Tryz.pinned (.plain (OpenSpec.upto hartHoldsSpec)) hartHoldsUptoCard
end Rows
end Go.Proofs.YtmggichckhoomaaGreatDoor
