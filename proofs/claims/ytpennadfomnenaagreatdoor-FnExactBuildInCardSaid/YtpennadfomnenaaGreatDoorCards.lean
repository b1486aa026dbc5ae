/-
  DERIVED. GIVEN WITH THE SEED: THE CARDS: each row of YtpennadfomnenaaGreatDoorRows.lean that lists a variable, with what it lists TIED to the program's text (the seventh form; the later family's looks); each row that meets fmt, with fmt's text TOLD by the authors' own Lean function (tested against real Go, not proved from fmt's source: count such statements apart). THE CARD IS WHAT COUNTS. Prove the row's statement (the work); the ties are given (YtpennadfomnenaaGreatDoorTie.lean); close each card by the builder's one call (the guide's Derived/Test/ToyasCard.lean, 'card_holds'). Laid BY PROGRAM, IN A SANDBOX (cutbox-door.mjs). By AI agents, Wed Nov 11 2026. No macro, syntax, notation, axiom, sorry.
-/
import Derived.Test.YtpennadfomnenaaGreatDoorRows
import GoSem.ClaimSeven
namespace Go.Proofs.YtpennadfomnenaaGreatDoor
namespace Rows

/-- THE TIED CARD OF 'laws.FnTokens'. -/
def fnTokensCard : Claim7 := { stood := { row := fnTokensRow, standIns := [], harness := (true, "80f055921cacb416c0807a6112c9bb967c5c5a27ece39e2457053eae227f4e9e"), looks := true }, kinds := [], alts := [], laidByText := true, laidKinds := [.data, .data, .data, .data, .sentinel, .sentinel, .pinned], laidTests := true, laidLooks := .later }
def FnTokensCardSaid : Prop := Claim7.holds Tryz.pinned (.plain (OpenSpec.ofChange fnTokensSpec)) fnTokensCard

/-- THE TIED CARD OF 'laws.FnBuild'. -/
def fnBuildCard : Claim7 := { stood := { row := fnBuildRow, standIns := [], harness := (true, "80f055921cacb416c0807a6112c9bb967c5c5a27ece39e2457053eae227f4e9e"), looks := true }, kinds := [], alts := [], laidByText := true, laidKinds := [.data, .data, .data, .data, .sentinel, .sentinel, .pinned], laidTests := true, laidLooks := .later }
def FnBuildCardSaid : Prop := Claim7.holds Tryz.pinned (.plain (OpenSpec.ofChange fnBuildSpec)) fnBuildCard

/-- THE TIED CARD OF 'laws.FnTags'. -/
def fnTagsCard : Claim7 := { stood := { row := fnTagsRow, standIns := [], harness := (true, "80f055921cacb416c0807a6112c9bb967c5c5a27ece39e2457053eae227f4e9e"), looks := true }, kinds := [], alts := [], laidByText := true, laidKinds := [.data, .data, .data, .data, .sentinel, .sentinel, .pinned], laidTests := true, laidLooks := .later }
def FnTagsCardSaid : Prop := Claim7.holds Tryz.pinned (.plain (OpenSpec.ofChange fnTagsSpec)) fnTagsCard

/-- THE TIED CARD OF 'laws.FnSerial'. -/
def fnSerialCard : Claim7 := { stood := { row := fnSerialRow, standIns := [], harness := (true, "80f055921cacb416c0807a6112c9bb967c5c5a27ece39e2457053eae227f4e9e"), looks := true }, kinds := [], alts := [], laidByText := true, laidKinds := [.data, .data, .data, .data, .sentinel, .sentinel, .pinned], laidTests := true, laidLooks := .later }
def FnSerialCardSaid : Prop := Claim7.holds Tryz.pinned (.plain (OpenSpec.ofChange fnSerialSpec)) fnSerialCard

/-- THE TIED CARD OF 'laws.FnExactBuild'. -/
def fnExactBuildCard : Claim7 := { stood := { row := fnExactBuildRow, standIns := [], harness := (true, "80f055921cacb416c0807a6112c9bb967c5c5a27ece39e2457053eae227f4e9e"), looks := true }, kinds := [], alts := [], laidByText := true, laidKinds := [.data, .data, .data, .data, .sentinel, .sentinel, .pinned], laidTests := true, laidLooks := .later }
def FnExactBuildCardSaid : Prop := Claim7.holds Tryz.pinned (.plain (OpenSpec.ofChange fnExactBuildSpec)) fnExactBuildCard

/-- THE TIED CARD OF 'laws.FnExactBuildIn'. -/
def fnExactBuildInCard : Claim7 := { stood := { row := fnExactBuildInRow, standIns := [], harness := (true, "80f055921cacb416c0807a6112c9bb967c5c5a27ece39e2457053eae227f4e9e"), looks := true }, kinds := [], alts := [], laidByText := true, laidKinds := [.data, .data, .data, .data, .sentinel, .sentinel, .pinned], laidTests := true, laidLooks := .later }
def FnExactBuildInCardSaid : Prop := Claim7.holds Tryz.pinned (.plain (OpenSpec.ofChange fnExactBuildInSpec)) fnExactBuildInCard

/-- THE TIED CARD OF 'laws.FnExactReparse'. -/
def fnExactReparseCard : Claim7 := { stood := { row := fnExactReparseRow, standIns := [], harness := (true, "80f055921cacb416c0807a6112c9bb967c5c5a27ece39e2457053eae227f4e9e"), looks := true }, kinds := [], alts := [], laidByText := true, laidKinds := [.data, .data, .data, .data, .sentinel, .sentinel, .pinned], laidTests := true, laidLooks := .later }
def FnExactReparseCardSaid : Prop := Claim7.holds Tryz.pinned (.plain (OpenSpec.ofChange fnExactReparseSpec)) fnExactReparseCard

/-- THE TIED CARD OF 'laws.FnExactReparseTimes'. -/
def fnExactReparseTimesCard : Claim7 := { stood := { row := fnExactReparseTimesRow, standIns := [], harness := (true, "80f055921cacb416c0807a6112c9bb967c5c5a27ece39e2457053eae227f4e9e"), looks := true }, kinds := [], alts := [], laidByText := true, laidKinds := [.data, .data, .data, .data, .sentinel, .sentinel, .pinned], laidTests := true, laidLooks := .later }
def FnExactReparseTimesCardSaid : Prop := Claim7.holds Tryz.pinned (.plain (OpenSpec.ofChange fnExactReparseTimesSpec)) fnExactReparseTimesCard

/-- THE TIED CARD OF 'laws.FnExactStable'. -/
def fnExactStableCard : Claim7 := { stood := { row := fnExactStableRow, standIns := [], harness := (true, "80f055921cacb416c0807a6112c9bb967c5c5a27ece39e2457053eae227f4e9e"), looks := true }, kinds := [], alts := [], laidByText := true, laidKinds := [.data, .data, .data, .data, .sentinel, .sentinel, .pinned], laidTests := true, laidLooks := .later }
def FnExactStableCardSaid : Prop := Claim7.holds Tryz.pinned (.plain (OpenSpec.ofChange fnExactStableSpec)) fnExactStableCard

/-- THE TIED CARD OF 'laws.FnExactInsertAt'. -/
def fnExactInsertAtCard : Claim7 := { stood := { row := fnExactInsertAtRow, standIns := [], harness := (true, "80f055921cacb416c0807a6112c9bb967c5c5a27ece39e2457053eae227f4e9e"), looks := true }, kinds := [], alts := [], laidByText := true, laidKinds := [.handle], laidTests := true, laidLooks := .later }
def FnExactInsertAtCardSaid : Prop := Claim7.holds Tryz.pinned (.plain (OpenSpec.ofChange fnExactInsertAtSpec)) fnExactInsertAtCard

/-- THE TIED CARD OF 'laws.FnExactSetKids'. -/
def fnExactSetKidsCard : Claim7 := { stood := { row := fnExactSetKidsRow, standIns := [], harness := (true, "80f055921cacb416c0807a6112c9bb967c5c5a27ece39e2457053eae227f4e9e"), looks := true }, kinds := [], alts := [], laidByText := true, laidKinds := [.handle], laidTests := true, laidLooks := .later }
def FnExactSetKidsCardSaid : Prop := Claim7.holds Tryz.pinned (.plain (OpenSpec.ofChange fnExactSetKidsSpec)) fnExactSetKidsCard

/-- THE SECOND FORM's CARD OF 'laws.FnTokens'. -/
def fnTokensUptoCard : Claim7 := { stood := { row := fnTokensUptoRow, standIns := [], harness := (true, "80f055921cacb416c0807a6112c9bb967c5c5a27ece39e2457053eae227f4e9e"), looks := true }, kinds := [], alts := [], laidByText := true, laidKinds := [.data, .data, .data, .data, .sentinel, .sentinel, .pinned], laidTests := true, laidLooks := .later }
def FnTokensUptoCardSaid : Prop := Claim7.holds Tryz.pinned (.plain (OpenSpec.upto fnTokensSpec)) fnTokensUptoCard

/-- THE SECOND FORM's CARD OF 'laws.FnBuild'. -/
def fnBuildUptoCard : Claim7 := { stood := { row := fnBuildUptoRow, standIns := [], harness := (true, "80f055921cacb416c0807a6112c9bb967c5c5a27ece39e2457053eae227f4e9e"), looks := true }, kinds := [], alts := [], laidByText := true, laidKinds := [.data, .data, .data, .data, .sentinel, .sentinel, .pinned], laidTests := true, laidLooks := .later }
def FnBuildUptoCardSaid : Prop := Claim7.holds Tryz.pinned (.plain (OpenSpec.upto fnBuildSpec)) fnBuildUptoCard

/-- THE SECOND FORM's CARD OF 'laws.FnTags'. -/
def fnTagsUptoCard : Claim7 := { stood := { row := fnTagsUptoRow, standIns := [], harness := (true, "80f055921cacb416c0807a6112c9bb967c5c5a27ece39e2457053eae227f4e9e"), looks := true }, kinds := [], alts := [], laidByText := true, laidKinds := [.data, .data, .data, .data, .sentinel, .sentinel, .pinned], laidTests := true, laidLooks := .later }
def FnTagsUptoCardSaid : Prop := Claim7.holds Tryz.pinned (.plain (OpenSpec.upto fnTagsSpec)) fnTagsUptoCard

/-- THE SECOND FORM's CARD OF 'laws.FnSerial'. -/
def fnSerialUptoCard : Claim7 := { stood := { row := fnSerialUptoRow, standIns := [], harness := (true, "80f055921cacb416c0807a6112c9bb967c5c5a27ece39e2457053eae227f4e9e"), looks := true }, kinds := [], alts := [], laidByText := true, laidKinds := [.data, .data, .data, .data, .sentinel, .sentinel, .pinned], laidTests := true, laidLooks := .later }
def FnSerialUptoCardSaid : Prop := Claim7.holds Tryz.pinned (.plain (OpenSpec.upto fnSerialSpec)) fnSerialUptoCard

/-- THE SECOND FORM's CARD OF 'laws.FnExactBuild'. -/
def fnExactBuildUptoCard : Claim7 := { stood := { row := fnExactBuildUptoRow, standIns := [], harness := (true, "80f055921cacb416c0807a6112c9bb967c5c5a27ece39e2457053eae227f4e9e"), looks := true }, kinds := [], alts := [], laidByText := true, laidKinds := [.data, .data, .data, .data, .sentinel, .sentinel, .pinned], laidTests := true, laidLooks := .later }
def FnExactBuildUptoCardSaid : Prop := Claim7.holds Tryz.pinned (.plain (OpenSpec.upto fnExactBuildSpec)) fnExactBuildUptoCard

/-- THE SECOND FORM's CARD OF 'laws.FnExactBuildIn'. -/
def fnExactBuildInUptoCard : Claim7 := { stood := { row := fnExactBuildInUptoRow, standIns := [], harness := (true, "80f055921cacb416c0807a6112c9bb967c5c5a27ece39e2457053eae227f4e9e"), looks := true }, kinds := [], alts := [], laidByText := true, laidKinds := [.data, .data, .data, .data, .sentinel, .sentinel, .pinned], laidTests := true, laidLooks := .later }
def FnExactBuildInUptoCardSaid : Prop := Claim7.holds Tryz.pinned (.plain (OpenSpec.upto fnExactBuildInSpec)) fnExactBuildInUptoCard

/-- THE SECOND FORM's CARD OF 'laws.FnExactReparse'. -/
def fnExactReparseUptoCard : Claim7 := { stood := { row := fnExactReparseUptoRow, standIns := [], harness := (true, "80f055921cacb416c0807a6112c9bb967c5c5a27ece39e2457053eae227f4e9e"), looks := true }, kinds := [], alts := [], laidByText := true, laidKinds := [.data, .data, .data, .data, .sentinel, .sentinel, .pinned], laidTests := true, laidLooks := .later }
def FnExactReparseUptoCardSaid : Prop := Claim7.holds Tryz.pinned (.plain (OpenSpec.upto fnExactReparseSpec)) fnExactReparseUptoCard

/-- THE SECOND FORM's CARD OF 'laws.FnExactReparseTimes'. -/
def fnExactReparseTimesUptoCard : Claim7 := { stood := { row := fnExactReparseTimesUptoRow, standIns := [], harness := (true, "80f055921cacb416c0807a6112c9bb967c5c5a27ece39e2457053eae227f4e9e"), looks := true }, kinds := [], alts := [], laidByText := true, laidKinds := [.data, .data, .data, .data, .sentinel, .sentinel, .pinned], laidTests := true, laidLooks := .later }
def FnExactReparseTimesUptoCardSaid : Prop := Claim7.holds Tryz.pinned (.plain (OpenSpec.upto fnExactReparseTimesSpec)) fnExactReparseTimesUptoCard

/-- THE SECOND FORM's CARD OF 'laws.FnExactStable'. -/
def fnExactStableUptoCard : Claim7 := { stood := { row := fnExactStableUptoRow, standIns := [], harness := (true, "80f055921cacb416c0807a6112c9bb967c5c5a27ece39e2457053eae227f4e9e"), looks := true }, kinds := [], alts := [], laidByText := true, laidKinds := [.data, .data, .data, .data, .sentinel, .sentinel, .pinned], laidTests := true, laidLooks := .later }
def FnExactStableUptoCardSaid : Prop := Claim7.holds Tryz.pinned (.plain (OpenSpec.upto fnExactStableSpec)) fnExactStableUptoCard

/-- THE SECOND FORM's CARD OF 'laws.FnExactInsertAt'. -/
def fnExactInsertAtUptoCard : Claim7 := { stood := { row := fnExactInsertAtUptoRow, standIns := [], harness := (true, "80f055921cacb416c0807a6112c9bb967c5c5a27ece39e2457053eae227f4e9e"), looks := true }, kinds := [], alts := [], laidByText := true, laidKinds := [.handle], laidTests := true, laidLooks := .later }
def FnExactInsertAtUptoCardSaid : Prop := Claim7.holds Tryz.pinned (.plain (OpenSpec.upto fnExactInsertAtSpec)) fnExactInsertAtUptoCard

/-- THE SECOND FORM's CARD OF 'laws.FnExactSetKids'. -/
def fnExactSetKidsUptoCard : Claim7 := { stood := { row := fnExactSetKidsUptoRow, standIns := [], harness := (true, "80f055921cacb416c0807a6112c9bb967c5c5a27ece39e2457053eae227f4e9e"), looks := true }, kinds := [], alts := [], laidByText := true, laidKinds := [.handle], laidTests := true, laidLooks := .later }
def FnExactSetKidsUptoCardSaid : Prop := Claim7.holds Tryz.pinned (.plain (OpenSpec.upto fnExactSetKidsSpec)) fnExactSetKidsUptoCard
end Rows
end Go.Proofs.YtpennadfomnenaaGreatDoor
