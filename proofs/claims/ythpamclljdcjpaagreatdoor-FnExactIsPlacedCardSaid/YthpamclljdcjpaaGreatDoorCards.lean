/-
  DERIVED. GIVEN WITH THE SEED: THE CARDS: each row of YthpamclljdcjpaaGreatDoorRows.lean that lists a variable, with what it lists TIED to the program's text (the seventh form; the later family's looks); each row that meets fmt, with fmt's text TOLD by the authors' own Lean function (tested against real Go, not proved from fmt's source: count such statements apart). THE CARD IS WHAT COUNTS. Prove the row's statement (the work); the ties are given (YthpamclljdcjpaaGreatDoorTie.lean); close each card by the builder's one call (the guide's Derived/Test/ToyasCard.lean, 'card_holds'). Laid BY PROGRAM, IN A SANDBOX (cutbox-door.mjs). By AI agents, Wed Nov 11 2026. No macro, syntax, notation, axiom, sorry.
-/
import Derived.Test.YthpamclljdcjpaaGreatDoorRows
import GoSem.ClaimSeven
namespace Go.Proofs.YthpamclljdcjpaaGreatDoor
namespace Rows

/-- THE TIED CARD OF 'laws.FnDeeds'. -/
def fnDeedsCard : Claim7 := { stood := { row := fnDeedsRow, standIns := [], harness := (true, "7d543fda5c0bc996961b4293d89e4fc7d4c49a35f8d3d35934d311409ab8e29d"), looks := true }, kinds := [], alts := [], laidByText := true, laidKinds := [.handle, .sentinel, .sentinel, .sentinel, .sentinel], laidTests := true, laidLooks := .later }
def FnDeedsCardSaid : Prop := Claim7.holds Tryz.pinned (.plain (OpenSpec.ofChange fnDeedsSpec)) fnDeedsCard

/-- THE TIED CARD OF 'laws.FnGives'. -/
def fnGivesCard : Claim7 := { stood := { row := fnGivesRow, standIns := [], harness := (true, "7d543fda5c0bc996961b4293d89e4fc7d4c49a35f8d3d35934d311409ab8e29d"), looks := true }, kinds := [], alts := [], laidByText := true, laidKinds := [.handle, .sentinel, .sentinel, .sentinel, .sentinel], laidTests := true, laidLooks := .later }
def FnGivesCardSaid : Prop := Claim7.holds Tryz.pinned (.plain (OpenSpec.ofChange fnGivesSpec)) fnGivesCard

/-- THE TIED CARD OF 'laws.FnPlaces'. -/
def fnPlacesCard : Claim7 := { stood := { row := fnPlacesRow, standIns := [], harness := (true, "7d543fda5c0bc996961b4293d89e4fc7d4c49a35f8d3d35934d311409ab8e29d"), looks := true }, kinds := [], alts := [], laidByText := true, laidKinds := [.sentinel], laidTests := true, laidLooks := .later }
def FnPlacesCardSaid : Prop := Claim7.holds Tryz.pinned (.plain (OpenSpec.ofChange fnPlacesSpec)) fnPlacesCard

/-- THE TIED CARD OF 'laws.FnRequests'. -/
def fnRequestsCard : Claim7 := { stood := { row := fnRequestsRow, standIns := [], harness := (true, "7d543fda5c0bc996961b4293d89e4fc7d4c49a35f8d3d35934d311409ab8e29d"), looks := true }, kinds := [], alts := [], laidByText := true, laidKinds := [.handle, .sentinel, .sentinel, .sentinel, .sentinel], laidTests := true, laidLooks := .later }
def FnRequestsCardSaid : Prop := Claim7.holds Tryz.pinned (.plain (OpenSpec.ofChange fnRequestsSpec)) fnRequestsCard

/-- THE TIED CARD OF 'laws.FnExactDoHeap'. -/
def fnExactDoHeapCard : Claim7 := { stood := { row := fnExactDoHeapRow, standIns := [], harness := (true, "7d543fda5c0bc996961b4293d89e4fc7d4c49a35f8d3d35934d311409ab8e29d"), looks := true }, kinds := [], alts := [], laidByText := true, laidKinds := [.handle, .sentinel, .sentinel, .sentinel, .sentinel], laidTests := true, laidLooks := .later }
def FnExactDoHeapCardSaid : Prop := Claim7.holds Tryz.pinned (.plain (OpenSpec.ofChange fnExactDoHeapSpec)) fnExactDoHeapCard

/-- THE TIED CARD OF 'laws.FnExactRunHeap'. -/
def fnExactRunHeapCard : Claim7 := { stood := { row := fnExactRunHeapRow, standIns := [], harness := (true, "7d543fda5c0bc996961b4293d89e4fc7d4c49a35f8d3d35934d311409ab8e29d"), looks := true }, kinds := [], alts := [], laidByText := true, laidKinds := [.handle, .sentinel, .sentinel, .sentinel, .sentinel], laidTests := true, laidLooks := .later }
def FnExactRunHeapCardSaid : Prop := Claim7.holds Tryz.pinned (.plain (OpenSpec.ofChange fnExactRunHeapSpec)) fnExactRunHeapCard

/-- THE TIED CARD OF 'laws.FnExactIsPlaced'. -/
def fnExactIsPlacedCard : Claim7 := { stood := { row := fnExactIsPlacedRow, standIns := [], harness := (true, "7d543fda5c0bc996961b4293d89e4fc7d4c49a35f8d3d35934d311409ab8e29d"), looks := true }, kinds := [], alts := [], laidByText := true, laidKinds := [.sentinel], laidTests := true, laidLooks := .later }
def FnExactIsPlacedCardSaid : Prop := Claim7.holds Tryz.pinned (.plain (OpenSpec.ofChange fnExactIsPlacedSpec)) fnExactIsPlacedCard

/-- THE SECOND FORM's CARD OF 'laws.FnDeeds'. -/
def fnDeedsUptoCard : Claim7 := { stood := { row := fnDeedsUptoRow, standIns := [], harness := (true, "7d543fda5c0bc996961b4293d89e4fc7d4c49a35f8d3d35934d311409ab8e29d"), looks := true }, kinds := [], alts := [], laidByText := true, laidKinds := [.handle, .sentinel, .sentinel, .sentinel, .sentinel], laidTests := true, laidLooks := .later }
def FnDeedsUptoCardSaid : Prop := Claim7.holds Tryz.pinned (.plain (OpenSpec.upto fnDeedsSpec)) fnDeedsUptoCard

/-- THE SECOND FORM's CARD OF 'laws.FnGives'. -/
def fnGivesUptoCard : Claim7 := { stood := { row := fnGivesUptoRow, standIns := [], harness := (true, "7d543fda5c0bc996961b4293d89e4fc7d4c49a35f8d3d35934d311409ab8e29d"), looks := true }, kinds := [], alts := [], laidByText := true, laidKinds := [.handle, .sentinel, .sentinel, .sentinel, .sentinel], laidTests := true, laidLooks := .later }
def FnGivesUptoCardSaid : Prop := Claim7.holds Tryz.pinned (.plain (OpenSpec.upto fnGivesSpec)) fnGivesUptoCard

/-- THE SECOND FORM's CARD OF 'laws.FnPlaces'. -/
def fnPlacesUptoCard : Claim7 := { stood := { row := fnPlacesUptoRow, standIns := [], harness := (true, "7d543fda5c0bc996961b4293d89e4fc7d4c49a35f8d3d35934d311409ab8e29d"), looks := true }, kinds := [], alts := [], laidByText := true, laidKinds := [.sentinel], laidTests := true, laidLooks := .later }
def FnPlacesUptoCardSaid : Prop := Claim7.holds Tryz.pinned (.plain (OpenSpec.upto fnPlacesSpec)) fnPlacesUptoCard

/-- THE SECOND FORM's CARD OF 'laws.FnRequests'. -/
def fnRequestsUptoCard : Claim7 := { stood := { row := fnRequestsUptoRow, standIns := [], harness := (true, "7d543fda5c0bc996961b4293d89e4fc7d4c49a35f8d3d35934d311409ab8e29d"), looks := true }, kinds := [], alts := [], laidByText := true, laidKinds := [.handle, .sentinel, .sentinel, .sentinel, .sentinel], laidTests := true, laidLooks := .later }
def FnRequestsUptoCardSaid : Prop := Claim7.holds Tryz.pinned (.plain (OpenSpec.upto fnRequestsSpec)) fnRequestsUptoCard

/-- THE SECOND FORM's CARD OF 'laws.FnExactDoHeap'. -/
def fnExactDoHeapUptoCard : Claim7 := { stood := { row := fnExactDoHeapUptoRow, standIns := [], harness := (true, "7d543fda5c0bc996961b4293d89e4fc7d4c49a35f8d3d35934d311409ab8e29d"), looks := true }, kinds := [], alts := [], laidByText := true, laidKinds := [.handle, .sentinel, .sentinel, .sentinel, .sentinel], laidTests := true, laidLooks := .later }
def FnExactDoHeapUptoCardSaid : Prop := Claim7.holds Tryz.pinned (.plain (OpenSpec.upto fnExactDoHeapSpec)) fnExactDoHeapUptoCard

/-- THE SECOND FORM's CARD OF 'laws.FnExactRunHeap'. -/
def fnExactRunHeapUptoCard : Claim7 := { stood := { row := fnExactRunHeapUptoRow, standIns := [], harness := (true, "7d543fda5c0bc996961b4293d89e4fc7d4c49a35f8d3d35934d311409ab8e29d"), looks := true }, kinds := [], alts := [], laidByText := true, laidKinds := [.handle, .sentinel, .sentinel, .sentinel, .sentinel], laidTests := true, laidLooks := .later }
def FnExactRunHeapUptoCardSaid : Prop := Claim7.holds Tryz.pinned (.plain (OpenSpec.upto fnExactRunHeapSpec)) fnExactRunHeapUptoCard

/-- THE SECOND FORM's CARD OF 'laws.FnExactIsPlaced'. -/
def fnExactIsPlacedUptoCard : Claim7 := { stood := { row := fnExactIsPlacedUptoRow, standIns := [], harness := (true, "7d543fda5c0bc996961b4293d89e4fc7d4c49a35f8d3d35934d311409ab8e29d"), looks := true }, kinds := [], alts := [], laidByText := true, laidKinds := [.sentinel], laidTests := true, laidLooks := .later }
def FnExactIsPlacedUptoCardSaid : Prop := Claim7.holds Tryz.pinned (.plain (OpenSpec.upto fnExactIsPlacedSpec)) fnExactIsPlacedUptoCard
end Rows
end Go.Proofs.YthpamclljdcjpaaGreatDoor
