/-
  DERIVED. GIVEN WITH THE SEED: THE CARDS: each row of YtpakjjefbholdaaGreatDoorRows.lean that lists a variable, with what it lists TIED to the program's text (the seventh form; the later family's looks); each row that meets fmt, with fmt's text TOLD by the authors' own Lean function (tested against real Go, not proved from fmt's source: count such statements apart). THE CARD IS WHAT COUNTS. Prove the row's statement (the work); the ties are given (YtpakjjefbholdaaGreatDoorTie.lean); close each card by the builder's one call (the guide's Derived/Test/ToyasCard.lean, 'card_holds'). Laid BY PROGRAM, IN A SANDBOX (cutbox-door.mjs). By AI agents, Wed Nov 11 2026. No macro, syntax, notation, axiom, sorry.
-/
import Derived.Test.YtpakjjefbholdaaGreatDoorRows
import GoSem.ClaimSeven
namespace Go.Proofs.YtpakjjefbholdaaGreatDoor
namespace Rows

/-- THE TIED CARD OF 'droverlaw09.TreeNested'. -/
def treeNestedCard : Claim7 := { stood := { row := treeNestedRow, standIns := [], harness := (true, "0ec83d678bad86d1ba9a8ef13cf765e6d6fdef9fda128a312b9d7c21fa7f3fb5"), looks := true }, kinds := [], alts := [], laidByText := true, laidKinds := [.data, .data, .data, .sentinel, .sentinel, .data], laidTests := true, laidLooks := .later }
def TreeNestedCardSaid : Prop := Claim7.holds Tryz.pinned (.plain (OpenSpec.ofChange treeNestedSpec)) treeNestedCard

/-- THE TIED CARD OF 'droverlaw09.TreeBack'. -/
def treeBackCard : Claim7 := { stood := { row := treeBackRow, standIns := [], harness := (true, "0ec83d678bad86d1ba9a8ef13cf765e6d6fdef9fda128a312b9d7c21fa7f3fb5"), looks := true }, kinds := [], alts := [], laidByText := true, laidKinds := [.data, .data, .data, .sentinel, .sentinel, .data], laidTests := true, laidLooks := .later }
def TreeBackCardSaid : Prop := Claim7.holds Tryz.pinned (.plain (OpenSpec.ofChange treeBackSpec)) treeBackCard

/-- THE TIED CARD OF 'droverlaw09.TreeBinds'. -/
def treeBindsCard : Claim7 := { stood := { row := treeBindsRow, standIns := [], harness := (true, "0ec83d678bad86d1ba9a8ef13cf765e6d6fdef9fda128a312b9d7c21fa7f3fb5"), looks := true }, kinds := [], alts := [], laidByText := true, laidKinds := [.data, .data, .data, .sentinel, .sentinel, .listed, .data, .data], laidTests := true, laidLooks := .later }
def TreeBindsCardSaid : Prop := Claim7.holds Tryz.pinned (.plain (OpenSpec.ofChange treeBindsSpec)) treeBindsCard

/-- THE TIED CARD OF 'droverlaw09.TreeParens'. -/
def treeParensCard : Claim7 := { stood := { row := treeParensRow, standIns := [], harness := (true, "0ec83d678bad86d1ba9a8ef13cf765e6d6fdef9fda128a312b9d7c21fa7f3fb5"), looks := true }, kinds := [], alts := [], laidByText := true, laidKinds := [.data, .data, .data, .sentinel, .sentinel, .data], laidTests := true, laidLooks := .later }
def TreeParensCardSaid : Prop := Claim7.holds Tryz.pinned (.plain (OpenSpec.ofChange treeParensSpec)) treeParensCard

/-- THE TIED CARD OF 'droverlaw09.TreeLines'. -/
def treeLinesCard : Claim7 := { stood := { row := treeLinesRow, standIns := [], harness := (true, "0ec83d678bad86d1ba9a8ef13cf765e6d6fdef9fda128a312b9d7c21fa7f3fb5"), looks := true }, kinds := [], alts := [], laidByText := true, laidKinds := [.data, .data, .data, .sentinel, .sentinel, .data], laidTests := true, laidLooks := .later }
def TreeLinesCardSaid : Prop := Claim7.holds Tryz.pinned (.plain (OpenSpec.ofChange treeLinesSpec)) treeLinesCard

/-- THE TIED CARD OF 'droverlaw09.TreeCuts'. -/
def treeCutsCard : Claim7 := { stood := { row := treeCutsRow, standIns := [], harness := (true, "0ec83d678bad86d1ba9a8ef13cf765e6d6fdef9fda128a312b9d7c21fa7f3fb5"), looks := true }, kinds := [], alts := [], laidByText := true, laidKinds := [.data, .data, .data, .sentinel, .sentinel, .listed, .data, .data], laidTests := true, laidLooks := .later }
def TreeCutsCardSaid : Prop := Claim7.holds Tryz.pinned (.plain (OpenSpec.ofChange treeCutsSpec)) treeCutsCard

/-- THE TIED CARD OF 'droverlaw10.CheckTells'. -/
def checkTellsCard : Claim7 := { stood := { row := checkTellsRow, standIns := [], harness := (true, "0ec83d678bad86d1ba9a8ef13cf765e6d6fdef9fda128a312b9d7c21fa7f3fb5"), looks := true }, kinds := [], alts := [], laidByText := true, laidKinds := [.data, .data, .data, .sentinel, .sentinel, .data], laidTests := true, laidLooks := .later }
def CheckTellsCardSaid : Prop := Claim7.holds Tryz.pinned (.plain (OpenSpec.ofChange checkTellsSpec)) checkTellsCard

/-- THE TIED CARD OF 'droverlaw10.CheckArity'. -/
def checkArityCard : Claim7 := { stood := { row := checkArityRow, standIns := [], harness := (true, "0ec83d678bad86d1ba9a8ef13cf765e6d6fdef9fda128a312b9d7c21fa7f3fb5"), looks := true }, kinds := [], alts := [], laidByText := true, laidKinds := [.data, .data, .data, .sentinel, .sentinel, .data], laidTests := true, laidLooks := .later }
def CheckArityCardSaid : Prop := Claim7.holds Tryz.pinned (.plain (OpenSpec.ofChange checkAritySpec)) checkArityCard

/-- THE TIED CARD OF 'droverlaw10.CheckScopes'. -/
def checkScopesCard : Claim7 := { stood := { row := checkScopesRow, standIns := [], harness := (true, "0ec83d678bad86d1ba9a8ef13cf765e6d6fdef9fda128a312b9d7c21fa7f3fb5"), looks := true }, kinds := [], alts := [], laidByText := true, laidKinds := [.data, .data, .data, .sentinel, .sentinel, .data], laidTests := true, laidLooks := .later }
def CheckScopesCardSaid : Prop := Claim7.holds Tryz.pinned (.plain (OpenSpec.ofChange checkScopesSpec)) checkScopesCard

/-- THE TIED CARD OF 'droverlaw10.CheckPlaces'. -/
def checkPlacesCard : Claim7 := { stood := { row := checkPlacesRow, standIns := [], harness := (true, "0ec83d678bad86d1ba9a8ef13cf765e6d6fdef9fda128a312b9d7c21fa7f3fb5"), looks := true }, kinds := [], alts := [], laidByText := true, laidKinds := [.data, .data, .data, .sentinel, .sentinel, .data], laidTests := true, laidLooks := .later }
def CheckPlacesCardSaid : Prop := Claim7.holds Tryz.pinned (.plain (OpenSpec.ofChange checkPlacesSpec)) checkPlacesCard

/-- THE TIED CARD OF 'droverlaw10.CheckVars'. -/
def checkVarsCard : Claim7 := { stood := { row := checkVarsRow, standIns := [], harness := (true, "0ec83d678bad86d1ba9a8ef13cf765e6d6fdef9fda128a312b9d7c21fa7f3fb5"), looks := true }, kinds := [], alts := [], laidByText := true, laidKinds := [.data, .data, .data, .sentinel, .sentinel, .data], laidTests := true, laidLooks := .later }
def CheckVarsCardSaid : Prop := Claim7.holds Tryz.pinned (.plain (OpenSpec.ofChange checkVarsSpec)) checkVarsCard

/-- THE SECOND FORM's CARD OF 'droverlaw09.TreeNested'. -/
def treeNestedUptoCard : Claim7 := { stood := { row := treeNestedUptoRow, standIns := [], harness := (true, "0ec83d678bad86d1ba9a8ef13cf765e6d6fdef9fda128a312b9d7c21fa7f3fb5"), looks := true }, kinds := [], alts := [], laidByText := true, laidKinds := [.data, .data, .data, .sentinel, .sentinel, .data], laidTests := true, laidLooks := .later }
def TreeNestedUptoCardSaid : Prop := Claim7.holds Tryz.pinned (.plain (OpenSpec.upto treeNestedSpec)) treeNestedUptoCard

/-- THE SECOND FORM's CARD OF 'droverlaw09.TreeBack'. -/
def treeBackUptoCard : Claim7 := { stood := { row := treeBackUptoRow, standIns := [], harness := (true, "0ec83d678bad86d1ba9a8ef13cf765e6d6fdef9fda128a312b9d7c21fa7f3fb5"), looks := true }, kinds := [], alts := [], laidByText := true, laidKinds := [.data, .data, .data, .sentinel, .sentinel, .data], laidTests := true, laidLooks := .later }
def TreeBackUptoCardSaid : Prop := Claim7.holds Tryz.pinned (.plain (OpenSpec.upto treeBackSpec)) treeBackUptoCard

/-- THE SECOND FORM's CARD OF 'droverlaw09.TreeBinds'. -/
def treeBindsUptoCard : Claim7 := { stood := { row := treeBindsUptoRow, standIns := [], harness := (true, "0ec83d678bad86d1ba9a8ef13cf765e6d6fdef9fda128a312b9d7c21fa7f3fb5"), looks := true }, kinds := [], alts := [], laidByText := true, laidKinds := [.data, .data, .data, .sentinel, .sentinel, .listed, .data, .data], laidTests := true, laidLooks := .later }
def TreeBindsUptoCardSaid : Prop := Claim7.holds Tryz.pinned (.plain (OpenSpec.upto treeBindsSpec)) treeBindsUptoCard

/-- THE SECOND FORM's CARD OF 'droverlaw09.TreeParens'. -/
def treeParensUptoCard : Claim7 := { stood := { row := treeParensUptoRow, standIns := [], harness := (true, "0ec83d678bad86d1ba9a8ef13cf765e6d6fdef9fda128a312b9d7c21fa7f3fb5"), looks := true }, kinds := [], alts := [], laidByText := true, laidKinds := [.data, .data, .data, .sentinel, .sentinel, .data], laidTests := true, laidLooks := .later }
def TreeParensUptoCardSaid : Prop := Claim7.holds Tryz.pinned (.plain (OpenSpec.upto treeParensSpec)) treeParensUptoCard

/-- THE SECOND FORM's CARD OF 'droverlaw09.TreeLines'. -/
def treeLinesUptoCard : Claim7 := { stood := { row := treeLinesUptoRow, standIns := [], harness := (true, "0ec83d678bad86d1ba9a8ef13cf765e6d6fdef9fda128a312b9d7c21fa7f3fb5"), looks := true }, kinds := [], alts := [], laidByText := true, laidKinds := [.data, .data, .data, .sentinel, .sentinel, .data], laidTests := true, laidLooks := .later }
def TreeLinesUptoCardSaid : Prop := Claim7.holds Tryz.pinned (.plain (OpenSpec.upto treeLinesSpec)) treeLinesUptoCard

/-- THE SECOND FORM's CARD OF 'droverlaw09.TreeCuts'. -/
def treeCutsUptoCard : Claim7 := { stood := { row := treeCutsUptoRow, standIns := [], harness := (true, "0ec83d678bad86d1ba9a8ef13cf765e6d6fdef9fda128a312b9d7c21fa7f3fb5"), looks := true }, kinds := [], alts := [], laidByText := true, laidKinds := [.data, .data, .data, .sentinel, .sentinel, .listed, .data, .data], laidTests := true, laidLooks := .later }
def TreeCutsUptoCardSaid : Prop := Claim7.holds Tryz.pinned (.plain (OpenSpec.upto treeCutsSpec)) treeCutsUptoCard

/-- THE SECOND FORM's CARD OF 'droverlaw10.CheckTells'. -/
def checkTellsUptoCard : Claim7 := { stood := { row := checkTellsUptoRow, standIns := [], harness := (true, "0ec83d678bad86d1ba9a8ef13cf765e6d6fdef9fda128a312b9d7c21fa7f3fb5"), looks := true }, kinds := [], alts := [], laidByText := true, laidKinds := [.data, .data, .data, .sentinel, .sentinel, .data], laidTests := true, laidLooks := .later }
def CheckTellsUptoCardSaid : Prop := Claim7.holds Tryz.pinned (.plain (OpenSpec.upto checkTellsSpec)) checkTellsUptoCard

/-- THE SECOND FORM's CARD OF 'droverlaw10.CheckArity'. -/
def checkArityUptoCard : Claim7 := { stood := { row := checkArityUptoRow, standIns := [], harness := (true, "0ec83d678bad86d1ba9a8ef13cf765e6d6fdef9fda128a312b9d7c21fa7f3fb5"), looks := true }, kinds := [], alts := [], laidByText := true, laidKinds := [.data, .data, .data, .sentinel, .sentinel, .data], laidTests := true, laidLooks := .later }
def CheckArityUptoCardSaid : Prop := Claim7.holds Tryz.pinned (.plain (OpenSpec.upto checkAritySpec)) checkArityUptoCard

/-- THE SECOND FORM's CARD OF 'droverlaw10.CheckScopes'. -/
def checkScopesUptoCard : Claim7 := { stood := { row := checkScopesUptoRow, standIns := [], harness := (true, "0ec83d678bad86d1ba9a8ef13cf765e6d6fdef9fda128a312b9d7c21fa7f3fb5"), looks := true }, kinds := [], alts := [], laidByText := true, laidKinds := [.data, .data, .data, .sentinel, .sentinel, .data], laidTests := true, laidLooks := .later }
def CheckScopesUptoCardSaid : Prop := Claim7.holds Tryz.pinned (.plain (OpenSpec.upto checkScopesSpec)) checkScopesUptoCard

/-- THE SECOND FORM's CARD OF 'droverlaw10.CheckPlaces'. -/
def checkPlacesUptoCard : Claim7 := { stood := { row := checkPlacesUptoRow, standIns := [], harness := (true, "0ec83d678bad86d1ba9a8ef13cf765e6d6fdef9fda128a312b9d7c21fa7f3fb5"), looks := true }, kinds := [], alts := [], laidByText := true, laidKinds := [.data, .data, .data, .sentinel, .sentinel, .data], laidTests := true, laidLooks := .later }
def CheckPlacesUptoCardSaid : Prop := Claim7.holds Tryz.pinned (.plain (OpenSpec.upto checkPlacesSpec)) checkPlacesUptoCard

/-- THE SECOND FORM's CARD OF 'droverlaw10.CheckVars'. -/
def checkVarsUptoCard : Claim7 := { stood := { row := checkVarsUptoRow, standIns := [], harness := (true, "0ec83d678bad86d1ba9a8ef13cf765e6d6fdef9fda128a312b9d7c21fa7f3fb5"), looks := true }, kinds := [], alts := [], laidByText := true, laidKinds := [.data, .data, .data, .sentinel, .sentinel, .data], laidTests := true, laidLooks := .later }
def CheckVarsUptoCardSaid : Prop := Claim7.holds Tryz.pinned (.plain (OpenSpec.upto checkVarsSpec)) checkVarsUptoCard
end Rows
end Go.Proofs.YtpakjjefbholdaaGreatDoor
