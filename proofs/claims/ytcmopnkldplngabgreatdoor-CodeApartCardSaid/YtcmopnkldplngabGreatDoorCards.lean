/-
  DERIVED. GIVEN WITH THE SEED: THE CARDS: each row of YtcmopnkldplngabGreatDoorRows.lean that lists a variable, with what it lists TIED to the program's text (the seventh form; the later family's looks); each row that meets fmt, with fmt's text TOLD by the authors' own Lean function (tested against real Go, not proved from fmt's source: count such statements apart). THE CARD IS WHAT COUNTS. Prove the row's statement (the work); the ties are given (YtcmopnkldplngabGreatDoorTie.lean); close each card by the builder's one call (the guide's Derived/Test/ToyasCard.lean, 'card_holds'). Laid BY PROGRAM, IN A SANDBOX (cutbox-door.mjs). By AI agents, Wed Nov 11 2026. No macro, syntax, notation, axiom, sorry.
-/
import Derived.Test.YtcmopnkldplngabGreatDoorRows
import GoSem.ClaimSeven
namespace Go.Proofs.YtcmopnkldplngabGreatDoor
namespace Rows

/-- THE TIED CARD OF 'droverlaw11.CodeApart'. -/
def codeApartCard : Claim7 := { stood := { row := codeApartRow, standIns := [], harness := (true, "ea81619f80ac58d4f31cad496d449e5754794b7e976c4995ccc6569b0c16a490"), looks := true }, kinds := [], alts := [], laidByText := true, laidKinds := [.data, .data, .data, .sentinel, .sentinel, .data, .data], laidTests := true, laidLooks := .later }
def CodeApartCardSaid : Prop := Claim7.holds Tryz.pinned (.plain (OpenSpec.ofChange codeApartSpec)) codeApartCard

/-- THE TIED CARD OF 'droverlaw13.ProfileBack'. -/
def profileBackCard : Claim7 := { stood := { row := profileBackRow, standIns := [], harness := (true, "ea81619f80ac58d4f31cad496d449e5754794b7e976c4995ccc6569b0c16a490"), looks := true }, kinds := [], alts := [], laidByText := true, laidKinds := [.data, .data, .data, .sentinel, .sentinel, .data], laidTests := true, laidLooks := .later }
def ProfileBackCardSaid : Prop := Claim7.holds Tryz.pinned (.plain (OpenSpec.ofChange profileBackSpec)) profileBackCard

/-- THE TIED CARD OF 'droverlaw13.ProfileWatches'. -/
def profileWatchesCard : Claim7 := { stood := { row := profileWatchesRow, standIns := [], harness := (true, "ea81619f80ac58d4f31cad496d449e5754794b7e976c4995ccc6569b0c16a490"), looks := true }, kinds := [], alts := [], laidByText := true, laidKinds := [.data, .data, .data, .sentinel, .sentinel, .data], laidTests := true, laidLooks := .later }
def ProfileWatchesCardSaid : Prop := Claim7.holds Tryz.pinned (.plain (OpenSpec.ofChange profileWatchesSpec)) profileWatchesCard

/-- THE SECOND FORM's CARD OF 'droverlaw11.CodeApart'. -/
def codeApartUptoCard : Claim7 := { stood := { row := codeApartUptoRow, standIns := [], harness := (true, "ea81619f80ac58d4f31cad496d449e5754794b7e976c4995ccc6569b0c16a490"), looks := true }, kinds := [], alts := [], laidByText := true, laidKinds := [.data, .data, .data, .sentinel, .sentinel, .data, .data], laidTests := true, laidLooks := .later }
def CodeApartUptoCardSaid : Prop := Claim7.holds Tryz.pinned (.plain (OpenSpec.upto codeApartSpec)) codeApartUptoCard

/-- THE SECOND FORM's CARD OF 'droverlaw13.ProfileBack'. -/
def profileBackUptoCard : Claim7 := { stood := { row := profileBackUptoRow, standIns := [], harness := (true, "ea81619f80ac58d4f31cad496d449e5754794b7e976c4995ccc6569b0c16a490"), looks := true }, kinds := [], alts := [], laidByText := true, laidKinds := [.data, .data, .data, .sentinel, .sentinel, .data], laidTests := true, laidLooks := .later }
def ProfileBackUptoCardSaid : Prop := Claim7.holds Tryz.pinned (.plain (OpenSpec.upto profileBackSpec)) profileBackUptoCard

/-- THE SECOND FORM's CARD OF 'droverlaw13.ProfileWatches'. -/
def profileWatchesUptoCard : Claim7 := { stood := { row := profileWatchesUptoRow, standIns := [], harness := (true, "ea81619f80ac58d4f31cad496d449e5754794b7e976c4995ccc6569b0c16a490"), looks := true }, kinds := [], alts := [], laidByText := true, laidKinds := [.data, .data, .data, .sentinel, .sentinel, .data], laidTests := true, laidLooks := .later }
def ProfileWatchesUptoCardSaid : Prop := Claim7.holds Tryz.pinned (.plain (OpenSpec.upto profileWatchesSpec)) profileWatchesUptoCard
end Rows
end Go.Proofs.YtcmopnkldplngabGreatDoor
