/-
  DERIVED. GIVEN WITH THE SEED: THE CARDS: each row of YtnifoghebnjonaaDoorRows.lean that lists a variable, with what it lists TIED to the program's text (the seventh form; the later family's looks); each row that meets fmt, with fmt's text TOLD by the authors' own Lean function (tested against real Go, not proved from fmt's source: count such statements apart). THE CARD IS WHAT COUNTS. Prove the row's statement (the work); the ties are given (YtnifoghebnjonaaDoorTie.lean); close each card by the builder's one call (the guide's Derived/Test/ToyasCard.lean, 'card_holds'). Laid BY PROGRAM, IN A SANDBOX (cutbox-door.mjs). By AI agents, Wed Nov 11 2026. No macro, syntax, notation, axiom, sorry.
-/
import Derived.Test.YtnifoghebnjonaaDoorRows
import GoSem.ClaimSeven
namespace Go.Proofs.YtnifoghebnjonaaDoor
namespace Rows

/-- THE TIED CARD OF 'postbaglaw03.ListingTexts'. -/
def listingTextsCard : Claim7 := { stood := { row := listingTextsRow, standIns := [], harness := (true, "1b30c97159391c2948209299fea3c696635feb17c735c187f33a81c21148e5d9"), looks := true }, kinds := [], alts := [], laidByText := true, laidKinds := [.data, .data, .data, .data, .sentinel, .sentinel, .data], laidTests := true, laidLooks := .later }
def ListingTextsCardSaid : Prop := Claim7.holds Tryd.pinned (.plain (OpenSpec.ofChange listingTextsSpec)) listingTextsCard

/-- THE TIED CARD OF 'postbaglaw03.ListingParses'. -/
def listingParsesCard : Claim7 := { stood := { row := listingParsesRow, standIns := [], harness := (true, "1b30c97159391c2948209299fea3c696635feb17c735c187f33a81c21148e5d9"), looks := true }, kinds := [], alts := [], laidByText := true, laidKinds := [.data, .data, .data, .data, .sentinel, .sentinel, .data], laidTests := true, laidLooks := .later }
def ListingParsesCardSaid : Prop := Claim7.holds Tryd.pinned (.plain (OpenSpec.ofChange listingParsesSpec)) listingParsesCard

/-- THE TIED CARD OF 'postbaglaw03.ListingReads'. -/
def listingReadsCard : Claim7 := { stood := { row := listingReadsRow, standIns := [], harness := (true, "1b30c97159391c2948209299fea3c696635feb17c735c187f33a81c21148e5d9"), looks := true }, kinds := [], alts := [], laidByText := true, laidKinds := [.data, .data, .data, .data, .sentinel, .sentinel, .data], laidTests := true, laidLooks := .later }
def ListingReadsCardSaid : Prop := Claim7.holds Tryd.pinned (.plain (OpenSpec.ofChange listingReadsSpec)) listingReadsCard

/-- THE TIED CARD OF 'postbaglaw03.ListingBack'. -/
def listingBackCard : Claim7 := { stood := { row := listingBackRow, standIns := [], harness := (true, "1b30c97159391c2948209299fea3c696635feb17c735c187f33a81c21148e5d9"), looks := true }, kinds := [], alts := [], laidByText := true, laidKinds := [.data, .data, .data, .data, .sentinel, .sentinel, .data], laidTests := true, laidLooks := .later }
def ListingBackCardSaid : Prop := Claim7.holds Tryd.pinned (.plain (OpenSpec.ofChange listingBackSpec)) listingBackCard

/-- THE TIED CARD OF 'postbaglaw03.ListingApart'. -/
def listingApartCard : Claim7 := { stood := { row := listingApartRow, standIns := [], harness := (true, "1b30c97159391c2948209299fea3c696635feb17c735c187f33a81c21148e5d9"), looks := true }, kinds := [], alts := [], laidByText := true, laidKinds := [.data, .data, .data, .data, .sentinel, .sentinel, .data], laidTests := true, laidLooks := .later }
def ListingApartCardSaid : Prop := Claim7.holds Tryd.pinned (.plain (OpenSpec.ofChange listingApartSpec)) listingApartCard

/-- THE TIED CARD OF 'postbaglaw04.AluValues'. -/
def aluValuesCard : Claim7 := { stood := { row := aluValuesRow, standIns := [], harness := (true, "1b30c97159391c2948209299fea3c696635feb17c735c187f33a81c21148e5d9"), looks := true }, kinds := [], alts := [], laidByText := true, laidKinds := [.data], laidTests := true, laidLooks := .later }
def AluValuesCardSaid : Prop := Claim7.holds Tryd.pinned (.plain (OpenSpec.ofChange aluValuesSpec)) aluValuesCard

/-- THE TIED CARD OF 'postbaglaw04.AluGoes'. -/
def aluGoesCard : Claim7 := { stood := { row := aluGoesRow, standIns := [], harness := (true, "1b30c97159391c2948209299fea3c696635feb17c735c187f33a81c21148e5d9"), looks := true }, kinds := [], alts := [], laidByText := true, laidKinds := [.data], laidTests := true, laidLooks := .later }
def AluGoesCardSaid : Prop := Claim7.holds Tryd.pinned (.plain (OpenSpec.ofChange aluGoesSpec)) aluGoesCard

/-- THE TIED CARD OF 'postbaglaw04.AluLoads'. -/
def aluLoadsCard : Claim7 := { stood := { row := aluLoadsRow, standIns := [], harness := (true, "1b30c97159391c2948209299fea3c696635feb17c735c187f33a81c21148e5d9"), looks := true }, kinds := [], alts := [], laidByText := true, laidKinds := [.data], laidTests := true, laidLooks := .later }
def AluLoadsCardSaid : Prop := Claim7.holds Tryd.pinned (.plain (OpenSpec.ofChange aluLoadsSpec)) aluLoadsCard

/-- THE TIED CARD OF 'postbaglaw04.AluWide'. -/
def aluWideCard : Claim7 := { stood := { row := aluWideRow, standIns := [], harness := (true, "1b30c97159391c2948209299fea3c696635feb17c735c187f33a81c21148e5d9"), looks := true }, kinds := [], alts := [], laidByText := true, laidKinds := [.data], laidTests := true, laidLooks := .later }
def AluWideCardSaid : Prop := Claim7.holds Tryd.pinned (.plain (OpenSpec.ofChange aluWideSpec)) aluWideCard

/-- THE TIED CARD OF 'postbaglaw04.AluTurn'. -/
def aluTurnCard : Claim7 := { stood := { row := aluTurnRow, standIns := [], harness := (true, "1b30c97159391c2948209299fea3c696635feb17c735c187f33a81c21148e5d9"), looks := true }, kinds := [], alts := [], laidByText := true, laidKinds := [.data], laidTests := true, laidLooks := .later }
def AluTurnCardSaid : Prop := Claim7.holds Tryd.pinned (.plain (OpenSpec.ofChange aluTurnSpec)) aluTurnCard

/-- THE TIED CARD OF 'postbaglaw04.AluBack'. -/
def aluBackCard : Claim7 := { stood := { row := aluBackRow, standIns := [], harness := (true, "1b30c97159391c2948209299fea3c696635feb17c735c187f33a81c21148e5d9"), looks := true }, kinds := [], alts := [], laidByText := true, laidKinds := [.data], laidTests := true, laidLooks := .later }
def AluBackCardSaid : Prop := Claim7.holds Tryd.pinned (.plain (OpenSpec.ofChange aluBackSpec)) aluBackCard

/-- THE TIED CARD OF 'postbaglaw04.AluAtomic'. -/
def aluAtomicCard : Claim7 := { stood := { row := aluAtomicRow, standIns := [], harness := (true, "1b30c97159391c2948209299fea3c696635feb17c735c187f33a81c21148e5d9"), looks := true }, kinds := [], alts := [], laidByText := true, laidKinds := [.data], laidTests := true, laidLooks := .later }
def AluAtomicCardSaid : Prop := Claim7.holds Tryd.pinned (.plain (OpenSpec.ofChange aluAtomicSpec)) aluAtomicCard

/-- THE SECOND FORM's CARD OF 'postbaglaw03.ListingTexts'. -/
def listingTextsUptoCard : Claim7 := { stood := { row := listingTextsUptoRow, standIns := [], harness := (true, "1b30c97159391c2948209299fea3c696635feb17c735c187f33a81c21148e5d9"), looks := true }, kinds := [], alts := [], laidByText := true, laidKinds := [.data, .data, .data, .data, .sentinel, .sentinel, .data], laidTests := true, laidLooks := .later }
def ListingTextsUptoCardSaid : Prop := Claim7.holds Tryd.pinned (.plain (OpenSpec.upto listingTextsSpec)) listingTextsUptoCard

/-- THE SECOND FORM's CARD OF 'postbaglaw03.ListingParses'. -/
def listingParsesUptoCard : Claim7 := { stood := { row := listingParsesUptoRow, standIns := [], harness := (true, "1b30c97159391c2948209299fea3c696635feb17c735c187f33a81c21148e5d9"), looks := true }, kinds := [], alts := [], laidByText := true, laidKinds := [.data, .data, .data, .data, .sentinel, .sentinel, .data], laidTests := true, laidLooks := .later }
def ListingParsesUptoCardSaid : Prop := Claim7.holds Tryd.pinned (.plain (OpenSpec.upto listingParsesSpec)) listingParsesUptoCard

/-- THE SECOND FORM's CARD OF 'postbaglaw03.ListingReads'. -/
def listingReadsUptoCard : Claim7 := { stood := { row := listingReadsUptoRow, standIns := [], harness := (true, "1b30c97159391c2948209299fea3c696635feb17c735c187f33a81c21148e5d9"), looks := true }, kinds := [], alts := [], laidByText := true, laidKinds := [.data, .data, .data, .data, .sentinel, .sentinel, .data], laidTests := true, laidLooks := .later }
def ListingReadsUptoCardSaid : Prop := Claim7.holds Tryd.pinned (.plain (OpenSpec.upto listingReadsSpec)) listingReadsUptoCard

/-- THE SECOND FORM's CARD OF 'postbaglaw03.ListingBack'. -/
def listingBackUptoCard : Claim7 := { stood := { row := listingBackUptoRow, standIns := [], harness := (true, "1b30c97159391c2948209299fea3c696635feb17c735c187f33a81c21148e5d9"), looks := true }, kinds := [], alts := [], laidByText := true, laidKinds := [.data, .data, .data, .data, .sentinel, .sentinel, .data], laidTests := true, laidLooks := .later }
def ListingBackUptoCardSaid : Prop := Claim7.holds Tryd.pinned (.plain (OpenSpec.upto listingBackSpec)) listingBackUptoCard

/-- THE SECOND FORM's CARD OF 'postbaglaw03.ListingApart'. -/
def listingApartUptoCard : Claim7 := { stood := { row := listingApartUptoRow, standIns := [], harness := (true, "1b30c97159391c2948209299fea3c696635feb17c735c187f33a81c21148e5d9"), looks := true }, kinds := [], alts := [], laidByText := true, laidKinds := [.data, .data, .data, .data, .sentinel, .sentinel, .data], laidTests := true, laidLooks := .later }
def ListingApartUptoCardSaid : Prop := Claim7.holds Tryd.pinned (.plain (OpenSpec.upto listingApartSpec)) listingApartUptoCard

/-- THE SECOND FORM's CARD OF 'postbaglaw04.AluValues'. -/
def aluValuesUptoCard : Claim7 := { stood := { row := aluValuesUptoRow, standIns := [], harness := (true, "1b30c97159391c2948209299fea3c696635feb17c735c187f33a81c21148e5d9"), looks := true }, kinds := [], alts := [], laidByText := true, laidKinds := [.data], laidTests := true, laidLooks := .later }
def AluValuesUptoCardSaid : Prop := Claim7.holds Tryd.pinned (.plain (OpenSpec.upto aluValuesSpec)) aluValuesUptoCard

/-- THE SECOND FORM's CARD OF 'postbaglaw04.AluGoes'. -/
def aluGoesUptoCard : Claim7 := { stood := { row := aluGoesUptoRow, standIns := [], harness := (true, "1b30c97159391c2948209299fea3c696635feb17c735c187f33a81c21148e5d9"), looks := true }, kinds := [], alts := [], laidByText := true, laidKinds := [.data], laidTests := true, laidLooks := .later }
def AluGoesUptoCardSaid : Prop := Claim7.holds Tryd.pinned (.plain (OpenSpec.upto aluGoesSpec)) aluGoesUptoCard

/-- THE SECOND FORM's CARD OF 'postbaglaw04.AluLoads'. -/
def aluLoadsUptoCard : Claim7 := { stood := { row := aluLoadsUptoRow, standIns := [], harness := (true, "1b30c97159391c2948209299fea3c696635feb17c735c187f33a81c21148e5d9"), looks := true }, kinds := [], alts := [], laidByText := true, laidKinds := [.data], laidTests := true, laidLooks := .later }
def AluLoadsUptoCardSaid : Prop := Claim7.holds Tryd.pinned (.plain (OpenSpec.upto aluLoadsSpec)) aluLoadsUptoCard

/-- THE SECOND FORM's CARD OF 'postbaglaw04.AluWide'. -/
def aluWideUptoCard : Claim7 := { stood := { row := aluWideUptoRow, standIns := [], harness := (true, "1b30c97159391c2948209299fea3c696635feb17c735c187f33a81c21148e5d9"), looks := true }, kinds := [], alts := [], laidByText := true, laidKinds := [.data], laidTests := true, laidLooks := .later }
def AluWideUptoCardSaid : Prop := Claim7.holds Tryd.pinned (.plain (OpenSpec.upto aluWideSpec)) aluWideUptoCard

/-- THE SECOND FORM's CARD OF 'postbaglaw04.AluTurn'. -/
def aluTurnUptoCard : Claim7 := { stood := { row := aluTurnUptoRow, standIns := [], harness := (true, "1b30c97159391c2948209299fea3c696635feb17c735c187f33a81c21148e5d9"), looks := true }, kinds := [], alts := [], laidByText := true, laidKinds := [.data], laidTests := true, laidLooks := .later }
def AluTurnUptoCardSaid : Prop := Claim7.holds Tryd.pinned (.plain (OpenSpec.upto aluTurnSpec)) aluTurnUptoCard

/-- THE SECOND FORM's CARD OF 'postbaglaw04.AluBack'. -/
def aluBackUptoCard : Claim7 := { stood := { row := aluBackUptoRow, standIns := [], harness := (true, "1b30c97159391c2948209299fea3c696635feb17c735c187f33a81c21148e5d9"), looks := true }, kinds := [], alts := [], laidByText := true, laidKinds := [.data], laidTests := true, laidLooks := .later }
def AluBackUptoCardSaid : Prop := Claim7.holds Tryd.pinned (.plain (OpenSpec.upto aluBackSpec)) aluBackUptoCard

/-- THE SECOND FORM's CARD OF 'postbaglaw04.AluAtomic'. -/
def aluAtomicUptoCard : Claim7 := { stood := { row := aluAtomicUptoRow, standIns := [], harness := (true, "1b30c97159391c2948209299fea3c696635feb17c735c187f33a81c21148e5d9"), looks := true }, kinds := [], alts := [], laidByText := true, laidKinds := [.data], laidTests := true, laidLooks := .later }
def AluAtomicUptoCardSaid : Prop := Claim7.holds Tryd.pinned (.plain (OpenSpec.upto aluAtomicSpec)) aluAtomicUptoCard
end Rows
end Go.Proofs.YtnifoghebnjonaaDoor
