/-
  DERIVED. GIVEN WITH THE SEED: THE CARDS: each row of YtbjhaggncpkdhaaDoorRows.lean that lists a variable, with what it lists TIED to the program's text (the seventh form; the later family's looks); each row that meets fmt, with fmt's text TOLD by the authors' own Lean function (tested against real Go, not proved from fmt's source: count such statements apart). THE CARD IS WHAT COUNTS. Prove the row's statement (the work); the ties are given (YtbjhaggncpkdhaaDoorTie.lean); close each card by the builder's one call (the guide's Derived/Test/ToyasCard.lean, 'card_holds'). Laid BY PROGRAM, IN A SANDBOX (cutbox-door.mjs). By AI agents, Wed Nov 11 2026. No macro, syntax, notation, axiom, sorry.
-/
import Derived.Test.YtbjhaggncpkdhaaDoorRows
import GoSem.ClaimSeven
namespace Go.Proofs.YtbjhaggncpkdhaaDoor
namespace Rows

/-- THE TIED CARD OF 'laws.FnExactSheetOf'. -/
def fnExactSheetOfCard : Claim7 := { stood := { row := fnExactSheetOfRow, standIns := [], harness := (true, "de9b60e17ef6ca0ea7a74e230caca0097140d75f4d72e6b26f014b10504dc987"), looks := false }, kinds := [], alts := [], laidByText := true, laidKinds := [.data, .data, .data], laidTests := true, laidLooks := .later }
def FnExactSheetOfCardSaid : Prop := Claim7.holds Tryd.pinned (.plain (OpenSpec.ofChange fnExactSheetOfSpec)) fnExactSheetOfCard

/-- THE TIED CARD OF 'laws.FnExactSheetFrom'. -/
def fnExactSheetFromCard : Claim7 := { stood := { row := fnExactSheetFromRow, standIns := [], harness := (true, "de9b60e17ef6ca0ea7a74e230caca0097140d75f4d72e6b26f014b10504dc987"), looks := false }, kinds := [], alts := [], laidByText := true, laidKinds := [.data, .data, .data], laidTests := true, laidLooks := .later }
def FnExactSheetFromCardSaid : Prop := Claim7.holds Tryd.pinned (.plain (OpenSpec.ofChange fnExactSheetFromSpec)) fnExactSheetFromCard

/-- THE TIED CARD OF 'laws.FnExactPlaceName'. -/
def fnExactPlaceNameCard : Claim7 := { stood := { row := fnExactPlaceNameRow, standIns := [], harness := (true, "de9b60e17ef6ca0ea7a74e230caca0097140d75f4d72e6b26f014b10504dc987"), looks := false }, kinds := [], alts := [], laidByText := true, laidKinds := [.data, .data, .data], laidTests := true, laidLooks := .later }
def FnExactPlaceNameCardSaid : Prop := Claim7.holds Tryd.pinned (.plain (OpenSpec.ofChange fnExactPlaceNameSpec)) fnExactPlaceNameCard

/-- THE TIED CARD OF 'laws.FnExactPlaceFrom'. -/
def fnExactPlaceFromCard : Claim7 := { stood := { row := fnExactPlaceFromRow, standIns := [], harness := (true, "de9b60e17ef6ca0ea7a74e230caca0097140d75f4d72e6b26f014b10504dc987"), looks := false }, kinds := [], alts := [], laidByText := true, laidKinds := [.data, .data, .data], laidTests := true, laidLooks := .later }
def FnExactPlaceFromCardSaid : Prop := Claim7.holds Tryd.pinned (.plain (OpenSpec.ofChange fnExactPlaceFromSpec)) fnExactPlaceFromCard

/-- THE TIED CARD OF 'laws.FnExactSheetBeside'. -/
def fnExactSheetBesideCard : Claim7 := { stood := { row := fnExactSheetBesideRow, standIns := [], harness := (true, "de9b60e17ef6ca0ea7a74e230caca0097140d75f4d72e6b26f014b10504dc987"), looks := false }, kinds := [], alts := [], laidByText := true, laidKinds := [.data, .data, .data], laidTests := true, laidLooks := .later }
def FnExactSheetBesideCardSaid : Prop := Claim7.holds Tryd.pinned (.plain (OpenSpec.ofChange fnExactSheetBesideSpec)) fnExactSheetBesideCard

/-- THE TIED CARD OF 'laws.FnExactSheetsBetween'. -/
def fnExactSheetsBetweenCard : Claim7 := { stood := { row := fnExactSheetsBetweenRow, standIns := [], harness := (true, "de9b60e17ef6ca0ea7a74e230caca0097140d75f4d72e6b26f014b10504dc987"), looks := false }, kinds := [], alts := [], laidByText := true, laidKinds := [.data, .data, .data], laidTests := true, laidLooks := .later }
def FnExactSheetsBetweenCardSaid : Prop := Claim7.holds Tryd.pinned (.plain (OpenSpec.ofChange fnExactSheetsBetweenSpec)) fnExactSheetsBetweenCard

/-- THE SECOND FORM's CARD OF 'laws.FnExactSheetOf'. -/
def fnExactSheetOfUptoCard : Claim7 := { stood := { row := fnExactSheetOfUptoRow, standIns := [], harness := (true, "de9b60e17ef6ca0ea7a74e230caca0097140d75f4d72e6b26f014b10504dc987"), looks := false }, kinds := [], alts := [], laidByText := true, laidKinds := [.data, .data, .data], laidTests := true, laidLooks := .later }
def FnExactSheetOfUptoCardSaid : Prop := Claim7.holds Tryd.pinned (.plain (OpenSpec.upto fnExactSheetOfSpec)) fnExactSheetOfUptoCard

/-- THE SECOND FORM's CARD OF 'laws.FnExactSheetFrom'. -/
def fnExactSheetFromUptoCard : Claim7 := { stood := { row := fnExactSheetFromUptoRow, standIns := [], harness := (true, "de9b60e17ef6ca0ea7a74e230caca0097140d75f4d72e6b26f014b10504dc987"), looks := false }, kinds := [], alts := [], laidByText := true, laidKinds := [.data, .data, .data], laidTests := true, laidLooks := .later }
def FnExactSheetFromUptoCardSaid : Prop := Claim7.holds Tryd.pinned (.plain (OpenSpec.upto fnExactSheetFromSpec)) fnExactSheetFromUptoCard

/-- THE SECOND FORM's CARD OF 'laws.FnExactPlaceName'. -/
def fnExactPlaceNameUptoCard : Claim7 := { stood := { row := fnExactPlaceNameUptoRow, standIns := [], harness := (true, "de9b60e17ef6ca0ea7a74e230caca0097140d75f4d72e6b26f014b10504dc987"), looks := false }, kinds := [], alts := [], laidByText := true, laidKinds := [.data, .data, .data], laidTests := true, laidLooks := .later }
def FnExactPlaceNameUptoCardSaid : Prop := Claim7.holds Tryd.pinned (.plain (OpenSpec.upto fnExactPlaceNameSpec)) fnExactPlaceNameUptoCard

/-- THE SECOND FORM's CARD OF 'laws.FnExactPlaceFrom'. -/
def fnExactPlaceFromUptoCard : Claim7 := { stood := { row := fnExactPlaceFromUptoRow, standIns := [], harness := (true, "de9b60e17ef6ca0ea7a74e230caca0097140d75f4d72e6b26f014b10504dc987"), looks := false }, kinds := [], alts := [], laidByText := true, laidKinds := [.data, .data, .data], laidTests := true, laidLooks := .later }
def FnExactPlaceFromUptoCardSaid : Prop := Claim7.holds Tryd.pinned (.plain (OpenSpec.upto fnExactPlaceFromSpec)) fnExactPlaceFromUptoCard

/-- THE SECOND FORM's CARD OF 'laws.FnExactSheetBeside'. -/
def fnExactSheetBesideUptoCard : Claim7 := { stood := { row := fnExactSheetBesideUptoRow, standIns := [], harness := (true, "de9b60e17ef6ca0ea7a74e230caca0097140d75f4d72e6b26f014b10504dc987"), looks := false }, kinds := [], alts := [], laidByText := true, laidKinds := [.data, .data, .data], laidTests := true, laidLooks := .later }
def FnExactSheetBesideUptoCardSaid : Prop := Claim7.holds Tryd.pinned (.plain (OpenSpec.upto fnExactSheetBesideSpec)) fnExactSheetBesideUptoCard

/-- THE SECOND FORM's CARD OF 'laws.FnExactSheetsBetween'. -/
def fnExactSheetsBetweenUptoCard : Claim7 := { stood := { row := fnExactSheetsBetweenUptoRow, standIns := [], harness := (true, "de9b60e17ef6ca0ea7a74e230caca0097140d75f4d72e6b26f014b10504dc987"), looks := false }, kinds := [], alts := [], laidByText := true, laidKinds := [.data, .data, .data], laidTests := true, laidLooks := .later }
def FnExactSheetsBetweenUptoCardSaid : Prop := Claim7.holds Tryd.pinned (.plain (OpenSpec.upto fnExactSheetsBetweenSpec)) fnExactSheetsBetweenUptoCard
end Rows
end Go.Proofs.YtbjhaggncpkdhaaDoor
