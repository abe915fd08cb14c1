/-
  DERIVED. GIVEN WITH THE SEED: THE CARDS: each row of YteoncpifjifjlaaDoorRows.lean that lists a variable, with what it lists TIED to the program's text (the seventh form; the later family's looks); each row that meets fmt, with fmt's text TOLD by the authors' own Lean function (tested against real Go, not proved from fmt's source: count such statements apart). THE CARD IS WHAT COUNTS. Prove the row's statement (the work); the ties are given (YteoncpifjifjlaaDoorTie.lean); close each card by the builder's one call (the guide's Derived/Test/ToyasCard.lean, 'card_holds'). Laid BY PROGRAM, IN A SANDBOX (cutbox-door.mjs). By AI agents, Wed Nov 11 2026. No macro, syntax, notation, axiom, sorry.
-/
import Derived.Test.YteoncpifjifjlaaDoorRows
import GoSem.ClaimSeven
namespace Go.Proofs.YteoncpifjifjlaaDoor
namespace Rows

/-- THE TIED CARD OF 'laws.FnExactSheetFrom'. -/
def fnExactSheetFromCard : Claim7 := { stood := { row := fnExactSheetFromRow, standIns := [], harness := (true, "682b63da9f14bdb264e82a047499e7036cf397c4358caac90d4f0a1f085f9960"), looks := false }, kinds := [], alts := [], laidByText := true, laidKinds := [.data, .data, .data], laidTests := true, laidLooks := .later }
def FnExactSheetFromCardSaid : Prop := Claim7.holds Tryd.pinned (.plain (OpenSpec.ofChange fnExactSheetFromSpec)) fnExactSheetFromCard

/-- THE TIED CARD OF 'laws.FnExactPlaceFrom'. -/
def fnExactPlaceFromCard : Claim7 := { stood := { row := fnExactPlaceFromRow, standIns := [], harness := (true, "682b63da9f14bdb264e82a047499e7036cf397c4358caac90d4f0a1f085f9960"), looks := false }, kinds := [], alts := [], laidByText := true, laidKinds := [.data, .data, .data], laidTests := true, laidLooks := .later }
def FnExactPlaceFromCardSaid : Prop := Claim7.holds Tryd.pinned (.plain (OpenSpec.ofChange fnExactPlaceFromSpec)) fnExactPlaceFromCard

/-- THE TIED CARD OF 'laws.FnExactSheetBeside'. -/
def fnExactSheetBesideCard : Claim7 := { stood := { row := fnExactSheetBesideRow, standIns := [], harness := (true, "682b63da9f14bdb264e82a047499e7036cf397c4358caac90d4f0a1f085f9960"), looks := false }, kinds := [], alts := [], laidByText := true, laidKinds := [.data, .data, .data], laidTests := true, laidLooks := .later }
def FnExactSheetBesideCardSaid : Prop := Claim7.holds Tryd.pinned (.plain (OpenSpec.ofChange fnExactSheetBesideSpec)) fnExactSheetBesideCard

/-- THE TIED CARD OF 'laws.FnExactGridFrom'. -/
def fnExactGridFromCard : Claim7 := { stood := { row := fnExactGridFromRow, standIns := [], harness := (true, "682b63da9f14bdb264e82a047499e7036cf397c4358caac90d4f0a1f085f9960"), looks := false }, kinds := [], alts := [], laidByText := true, laidKinds := [.data, .pinned], laidTests := true, laidLooks := .later }
def FnExactGridFromCardSaid : Prop := Claim7.holds Tryd.pinned (.plain (OpenSpec.ofChange fnExactGridFromSpec)) fnExactGridFromCard

/-- THE TIED CARD OF 'laws.FnSheetOf'. -/
def fnSheetOfCard : Claim7 := { stood := { row := fnSheetOfRow, standIns := [], harness := (true, "682b63da9f14bdb264e82a047499e7036cf397c4358caac90d4f0a1f085f9960"), looks := false }, kinds := [], alts := [], laidByText := true, laidKinds := [.data, .data, .data], laidTests := true, laidLooks := .later }
def FnSheetOfCardSaid : Prop := Claim7.holds Tryd.pinned (.plain (OpenSpec.ofChange fnSheetOfSpec)) fnSheetOfCard

/-- THE TIED CARD OF 'laws.FnSheetFrom'. -/
def fnSheetFromCard : Claim7 := { stood := { row := fnSheetFromRow, standIns := [], harness := (true, "682b63da9f14bdb264e82a047499e7036cf397c4358caac90d4f0a1f085f9960"), looks := false }, kinds := [], alts := [], laidByText := true, laidKinds := [.data, .data, .data], laidTests := true, laidLooks := .later }
def FnSheetFromCardSaid : Prop := Claim7.holds Tryd.pinned (.plain (OpenSpec.ofChange fnSheetFromSpec)) fnSheetFromCard

/-- THE TIED CARD OF 'laws.FnPlaceName'. -/
def fnPlaceNameCard : Claim7 := { stood := { row := fnPlaceNameRow, standIns := [], harness := (true, "682b63da9f14bdb264e82a047499e7036cf397c4358caac90d4f0a1f085f9960"), looks := false }, kinds := [], alts := [], laidByText := true, laidKinds := [.data, .data, .data], laidTests := true, laidLooks := .later }
def FnPlaceNameCardSaid : Prop := Claim7.holds Tryd.pinned (.plain (OpenSpec.ofChange fnPlaceNameSpec)) fnPlaceNameCard

/-- THE TIED CARD OF 'laws.FnPlaceFrom'. -/
def fnPlaceFromCard : Claim7 := { stood := { row := fnPlaceFromRow, standIns := [], harness := (true, "682b63da9f14bdb264e82a047499e7036cf397c4358caac90d4f0a1f085f9960"), looks := false }, kinds := [], alts := [], laidByText := true, laidKinds := [.data, .data, .data], laidTests := true, laidLooks := .later }
def FnPlaceFromCardSaid : Prop := Claim7.holds Tryd.pinned (.plain (OpenSpec.ofChange fnPlaceFromSpec)) fnPlaceFromCard

/-- THE TIED CARD OF 'laws.FnSheetBeside'. -/
def fnSheetBesideCard : Claim7 := { stood := { row := fnSheetBesideRow, standIns := [], harness := (true, "682b63da9f14bdb264e82a047499e7036cf397c4358caac90d4f0a1f085f9960"), looks := false }, kinds := [], alts := [], laidByText := true, laidKinds := [.data, .data, .data], laidTests := true, laidLooks := .later }
def FnSheetBesideCardSaid : Prop := Claim7.holds Tryd.pinned (.plain (OpenSpec.ofChange fnSheetBesideSpec)) fnSheetBesideCard

/-- THE TIED CARD OF 'laws.FnPlaceFar'. -/
def fnPlaceFarCard : Claim7 := { stood := { row := fnPlaceFarRow, standIns := [], harness := (true, "682b63da9f14bdb264e82a047499e7036cf397c4358caac90d4f0a1f085f9960"), looks := false }, kinds := [], alts := [], laidByText := true, laidKinds := [.data, .data, .data], laidTests := true, laidLooks := .later }
def FnPlaceFarCardSaid : Prop := Claim7.holds Tryd.pinned (.plain (OpenSpec.ofChange fnPlaceFarSpec)) fnPlaceFarCard

/-- THE TIED CARD OF 'laws.FnSheetFar'. -/
def fnSheetFarCard : Claim7 := { stood := { row := fnSheetFarRow, standIns := [], harness := (true, "682b63da9f14bdb264e82a047499e7036cf397c4358caac90d4f0a1f085f9960"), looks := false }, kinds := [], alts := [], laidByText := true, laidKinds := [.data, .data, .data], laidTests := true, laidLooks := .later }
def FnSheetFarCardSaid : Prop := Claim7.holds Tryd.pinned (.plain (OpenSpec.ofChange fnSheetFarSpec)) fnSheetFarCard

/-- THE SECOND FORM's CARD OF 'laws.FnExactSheetFrom'. -/
def fnExactSheetFromUptoCard : Claim7 := { stood := { row := fnExactSheetFromUptoRow, standIns := [], harness := (true, "682b63da9f14bdb264e82a047499e7036cf397c4358caac90d4f0a1f085f9960"), looks := false }, kinds := [], alts := [], laidByText := true, laidKinds := [.data, .data, .data], laidTests := true, laidLooks := .later }
def FnExactSheetFromUptoCardSaid : Prop := Claim7.holds Tryd.pinned (.plain (OpenSpec.upto fnExactSheetFromSpec)) fnExactSheetFromUptoCard

/-- THE SECOND FORM's CARD OF 'laws.FnExactPlaceFrom'. -/
def fnExactPlaceFromUptoCard : Claim7 := { stood := { row := fnExactPlaceFromUptoRow, standIns := [], harness := (true, "682b63da9f14bdb264e82a047499e7036cf397c4358caac90d4f0a1f085f9960"), looks := false }, kinds := [], alts := [], laidByText := true, laidKinds := [.data, .data, .data], laidTests := true, laidLooks := .later }
def FnExactPlaceFromUptoCardSaid : Prop := Claim7.holds Tryd.pinned (.plain (OpenSpec.upto fnExactPlaceFromSpec)) fnExactPlaceFromUptoCard

/-- THE SECOND FORM's CARD OF 'laws.FnExactSheetBeside'. -/
def fnExactSheetBesideUptoCard : Claim7 := { stood := { row := fnExactSheetBesideUptoRow, standIns := [], harness := (true, "682b63da9f14bdb264e82a047499e7036cf397c4358caac90d4f0a1f085f9960"), looks := false }, kinds := [], alts := [], laidByText := true, laidKinds := [.data, .data, .data], laidTests := true, laidLooks := .later }
def FnExactSheetBesideUptoCardSaid : Prop := Claim7.holds Tryd.pinned (.plain (OpenSpec.upto fnExactSheetBesideSpec)) fnExactSheetBesideUptoCard

/-- THE SECOND FORM's CARD OF 'laws.FnExactGridFrom'. -/
def fnExactGridFromUptoCard : Claim7 := { stood := { row := fnExactGridFromUptoRow, standIns := [], harness := (true, "682b63da9f14bdb264e82a047499e7036cf397c4358caac90d4f0a1f085f9960"), looks := false }, kinds := [], alts := [], laidByText := true, laidKinds := [.data, .pinned], laidTests := true, laidLooks := .later }
def FnExactGridFromUptoCardSaid : Prop := Claim7.holds Tryd.pinned (.plain (OpenSpec.upto fnExactGridFromSpec)) fnExactGridFromUptoCard

/-- THE SECOND FORM's CARD OF 'laws.FnSheetOf'. -/
def fnSheetOfUptoCard : Claim7 := { stood := { row := fnSheetOfUptoRow, standIns := [], harness := (true, "682b63da9f14bdb264e82a047499e7036cf397c4358caac90d4f0a1f085f9960"), looks := false }, kinds := [], alts := [], laidByText := true, laidKinds := [.data, .data, .data], laidTests := true, laidLooks := .later }
def FnSheetOfUptoCardSaid : Prop := Claim7.holds Tryd.pinned (.plain (OpenSpec.upto fnSheetOfSpec)) fnSheetOfUptoCard

/-- THE SECOND FORM's CARD OF 'laws.FnSheetFrom'. -/
def fnSheetFromUptoCard : Claim7 := { stood := { row := fnSheetFromUptoRow, standIns := [], harness := (true, "682b63da9f14bdb264e82a047499e7036cf397c4358caac90d4f0a1f085f9960"), looks := false }, kinds := [], alts := [], laidByText := true, laidKinds := [.data, .data, .data], laidTests := true, laidLooks := .later }
def FnSheetFromUptoCardSaid : Prop := Claim7.holds Tryd.pinned (.plain (OpenSpec.upto fnSheetFromSpec)) fnSheetFromUptoCard

/-- THE SECOND FORM's CARD OF 'laws.FnPlaceName'. -/
def fnPlaceNameUptoCard : Claim7 := { stood := { row := fnPlaceNameUptoRow, standIns := [], harness := (true, "682b63da9f14bdb264e82a047499e7036cf397c4358caac90d4f0a1f085f9960"), looks := false }, kinds := [], alts := [], laidByText := true, laidKinds := [.data, .data, .data], laidTests := true, laidLooks := .later }
def FnPlaceNameUptoCardSaid : Prop := Claim7.holds Tryd.pinned (.plain (OpenSpec.upto fnPlaceNameSpec)) fnPlaceNameUptoCard

/-- THE SECOND FORM's CARD OF 'laws.FnPlaceFrom'. -/
def fnPlaceFromUptoCard : Claim7 := { stood := { row := fnPlaceFromUptoRow, standIns := [], harness := (true, "682b63da9f14bdb264e82a047499e7036cf397c4358caac90d4f0a1f085f9960"), looks := false }, kinds := [], alts := [], laidByText := true, laidKinds := [.data, .data, .data], laidTests := true, laidLooks := .later }
def FnPlaceFromUptoCardSaid : Prop := Claim7.holds Tryd.pinned (.plain (OpenSpec.upto fnPlaceFromSpec)) fnPlaceFromUptoCard

/-- THE SECOND FORM's CARD OF 'laws.FnSheetBeside'. -/
def fnSheetBesideUptoCard : Claim7 := { stood := { row := fnSheetBesideUptoRow, standIns := [], harness := (true, "682b63da9f14bdb264e82a047499e7036cf397c4358caac90d4f0a1f085f9960"), looks := false }, kinds := [], alts := [], laidByText := true, laidKinds := [.data, .data, .data], laidTests := true, laidLooks := .later }
def FnSheetBesideUptoCardSaid : Prop := Claim7.holds Tryd.pinned (.plain (OpenSpec.upto fnSheetBesideSpec)) fnSheetBesideUptoCard

/-- THE SECOND FORM's CARD OF 'laws.FnPlaceFar'. -/
def fnPlaceFarUptoCard : Claim7 := { stood := { row := fnPlaceFarUptoRow, standIns := [], harness := (true, "682b63da9f14bdb264e82a047499e7036cf397c4358caac90d4f0a1f085f9960"), looks := false }, kinds := [], alts := [], laidByText := true, laidKinds := [.data, .data, .data], laidTests := true, laidLooks := .later }
def FnPlaceFarUptoCardSaid : Prop := Claim7.holds Tryd.pinned (.plain (OpenSpec.upto fnPlaceFarSpec)) fnPlaceFarUptoCard

/-- THE SECOND FORM's CARD OF 'laws.FnSheetFar'. -/
def fnSheetFarUptoCard : Claim7 := { stood := { row := fnSheetFarUptoRow, standIns := [], harness := (true, "682b63da9f14bdb264e82a047499e7036cf397c4358caac90d4f0a1f085f9960"), looks := false }, kinds := [], alts := [], laidByText := true, laidKinds := [.data, .data, .data], laidTests := true, laidLooks := .later }
def FnSheetFarUptoCardSaid : Prop := Claim7.holds Tryd.pinned (.plain (OpenSpec.upto fnSheetFarSpec)) fnSheetFarUptoCard
end Rows
end Go.Proofs.YteoncpifjifjlaaDoor
