/-
  DERIVED. GIVEN WITH THE SEED: THE CARDS: each row of YteedmmljahgpjaaGreatDoorRows.lean that lists a variable, with what it lists TIED to the program's text (the seventh form; the later family's looks); each row that meets fmt, with fmt's text TOLD by the authors' own Lean function (tested against real Go, not proved from fmt's source: count such statements apart). THE CARD IS WHAT COUNTS. Prove the row's statement (the work); the ties are given (YteedmmljahgpjaaGreatDoorTie.lean); close each card by the builder's one call (the guide's Derived/Test/ToyasCard.lean, 'card_holds'). Laid BY PROGRAM, IN A SANDBOX (cutbox-door.mjs). By AI agents, Wed Nov 11 2026. No macro, syntax, notation, axiom, sorry.
-/
import Derived.Test.YteedmmljahgpjaaGreatDoorRows
import GoSem.ClaimSeven
namespace Go.Proofs.YteedmmljahgpjaaGreatDoor
namespace Rows

/-- THE TIED CARD OF 'tripwirelaw19.TableChecks'. -/
def tableChecksCard : Claim7 := { stood := { row := tableChecksRow, standIns := [], harness := (true, "0f5b62f3ee46fa088fbe0c3e04c0d3e613c17b3cc4ebb6b8e3de1199b61ae9e9"), looks := true }, kinds := [], alts := [], laidByText := true, laidKinds := [.data], laidTests := true, laidLooks := .later }
def TableChecksCardSaid : Prop := Claim7.holds Tryz.pinned (.plain (OpenSpec.ofChange tableChecksSpec)) tableChecksCard

/-- THE TIED CARD OF 'tripwirelaw19.TableBounds'. -/
def tableBoundsCard : Claim7 := { stood := { row := tableBoundsRow, standIns := [], harness := (true, "0f5b62f3ee46fa088fbe0c3e04c0d3e613c17b3cc4ebb6b8e3de1199b61ae9e9"), looks := true }, kinds := [], alts := [], laidByText := true, laidKinds := [.data], laidTests := true, laidLooks := .later }
def TableBoundsCardSaid : Prop := Claim7.holds Tryz.pinned (.plain (OpenSpec.ofChange tableBoundsSpec)) tableBoundsCard

/-- THE TIED CARD OF 'tripwirelaw19.TableEncodes'. -/
def tableEncodesCard : Claim7 := { stood := { row := tableEncodesRow, standIns := [], harness := (true, "0f5b62f3ee46fa088fbe0c3e04c0d3e613c17b3cc4ebb6b8e3de1199b61ae9e9"), looks := true }, kinds := [], alts := [], laidByText := true, laidKinds := [.data], laidTests := true, laidLooks := .later }
def TableEncodesCardSaid : Prop := Claim7.holds Tryz.pinned (.plain (OpenSpec.ofChange tableEncodesSpec)) tableEncodesCard

/-- THE TIED CARD OF 'tripwirelaw19.TableDecodes'. -/
def tableDecodesCard : Claim7 := { stood := { row := tableDecodesRow, standIns := [], harness := (true, "0f5b62f3ee46fa088fbe0c3e04c0d3e613c17b3cc4ebb6b8e3de1199b61ae9e9"), looks := true }, kinds := [], alts := [], laidByText := true, laidKinds := [.data], laidTests := true, laidLooks := .later }
def TableDecodesCardSaid : Prop := Claim7.holds Tryz.pinned (.plain (OpenSpec.ofChange tableDecodesSpec)) tableDecodesCard

/-- THE TIED CARD OF 'tripwirelaw19.TableBack'. -/
def tableBackCard : Claim7 := { stood := { row := tableBackRow, standIns := [], harness := (true, "0f5b62f3ee46fa088fbe0c3e04c0d3e613c17b3cc4ebb6b8e3de1199b61ae9e9"), looks := true }, kinds := [], alts := [], laidByText := true, laidKinds := [.data], laidTests := true, laidLooks := .later }
def TableBackCardSaid : Prop := Claim7.holds Tryz.pinned (.plain (OpenSpec.ofChange tableBackSpec)) tableBackCard

/-- THE SECOND FORM's CARD OF 'tripwirelaw19.TableChecks'. -/
def tableChecksUptoCard : Claim7 := { stood := { row := tableChecksUptoRow, standIns := [], harness := (true, "0f5b62f3ee46fa088fbe0c3e04c0d3e613c17b3cc4ebb6b8e3de1199b61ae9e9"), looks := true }, kinds := [], alts := [], laidByText := true, laidKinds := [.data], laidTests := true, laidLooks := .later }
def TableChecksUptoCardSaid : Prop := Claim7.holds Tryz.pinned (.plain (OpenSpec.upto tableChecksSpec)) tableChecksUptoCard

/-- THE SECOND FORM's CARD OF 'tripwirelaw19.TableBounds'. -/
def tableBoundsUptoCard : Claim7 := { stood := { row := tableBoundsUptoRow, standIns := [], harness := (true, "0f5b62f3ee46fa088fbe0c3e04c0d3e613c17b3cc4ebb6b8e3de1199b61ae9e9"), looks := true }, kinds := [], alts := [], laidByText := true, laidKinds := [.data], laidTests := true, laidLooks := .later }
def TableBoundsUptoCardSaid : Prop := Claim7.holds Tryz.pinned (.plain (OpenSpec.upto tableBoundsSpec)) tableBoundsUptoCard

/-- THE SECOND FORM's CARD OF 'tripwirelaw19.TableEncodes'. -/
def tableEncodesUptoCard : Claim7 := { stood := { row := tableEncodesUptoRow, standIns := [], harness := (true, "0f5b62f3ee46fa088fbe0c3e04c0d3e613c17b3cc4ebb6b8e3de1199b61ae9e9"), looks := true }, kinds := [], alts := [], laidByText := true, laidKinds := [.data], laidTests := true, laidLooks := .later }
def TableEncodesUptoCardSaid : Prop := Claim7.holds Tryz.pinned (.plain (OpenSpec.upto tableEncodesSpec)) tableEncodesUptoCard

/-- THE SECOND FORM's CARD OF 'tripwirelaw19.TableDecodes'. -/
def tableDecodesUptoCard : Claim7 := { stood := { row := tableDecodesUptoRow, standIns := [], harness := (true, "0f5b62f3ee46fa088fbe0c3e04c0d3e613c17b3cc4ebb6b8e3de1199b61ae9e9"), looks := true }, kinds := [], alts := [], laidByText := true, laidKinds := [.data], laidTests := true, laidLooks := .later }
def TableDecodesUptoCardSaid : Prop := Claim7.holds Tryz.pinned (.plain (OpenSpec.upto tableDecodesSpec)) tableDecodesUptoCard

/-- THE SECOND FORM's CARD OF 'tripwirelaw19.TableBack'. -/
def tableBackUptoCard : Claim7 := { stood := { row := tableBackUptoRow, standIns := [], harness := (true, "0f5b62f3ee46fa088fbe0c3e04c0d3e613c17b3cc4ebb6b8e3de1199b61ae9e9"), looks := true }, kinds := [], alts := [], laidByText := true, laidKinds := [.data], laidTests := true, laidLooks := .later }
def TableBackUptoCardSaid : Prop := Claim7.holds Tryz.pinned (.plain (OpenSpec.upto tableBackSpec)) tableBackUptoCard
end Rows
end Go.Proofs.YteedmmljahgpjaaGreatDoor
