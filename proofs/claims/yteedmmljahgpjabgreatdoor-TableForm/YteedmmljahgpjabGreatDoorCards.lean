/-
  DERIVED. GIVEN WITH THE SEED: THE CARDS: each row of YteedmmljahgpjabGreatDoorRows.lean that lists a variable, with what it lists TIED to the program's text (the seventh form; the later family's looks); each row that meets fmt, with fmt's text TOLD by the authors' own Lean function (tested against real Go, not proved from fmt's source: count such statements apart). THE CARD IS WHAT COUNTS. Prove the row's statement (the work); the ties are given (YteedmmljahgpjabGreatDoorTie.lean); close each card by the builder's one call (the guide's Derived/Test/ToyasCard.lean, 'card_holds'). Laid BY PROGRAM, IN A SANDBOX (cutbox-door.mjs). By AI agents, Wed Nov 11 2026. No macro, syntax, notation, axiom, sorry.
-/
import Derived.Test.YteedmmljahgpjabGreatDoorRows
import GoSem.ClaimSeven
namespace Go.Proofs.YteedmmljahgpjabGreatDoor
namespace Rows

/-- THE TIED CARD OF 'tripwirelaw19.TableForm'. -/
def tableFormCard : Claim7 := { stood := { row := tableFormRow, standIns := [], harness := (true, "9d58eb0d25d22fbf3f63e9ce7028c8ee2c45d471c2754b9f24fcf3ea2f03a027"), looks := true }, kinds := [], alts := [], laidByText := true, laidKinds := [.data], laidTests := true, laidLooks := .later }
def TableFormCardSaid : Prop := Claim7.holds Tryz.pinned (.plain (OpenSpec.ofChange tableFormSpec)) tableFormCard

/-- THE SECOND FORM's CARD OF 'tripwirelaw19.TableForm'. -/
def tableFormUptoCard : Claim7 := { stood := { row := tableFormUptoRow, standIns := [], harness := (true, "9d58eb0d25d22fbf3f63e9ce7028c8ee2c45d471c2754b9f24fcf3ea2f03a027"), looks := true }, kinds := [], alts := [], laidByText := true, laidKinds := [.data], laidTests := true, laidLooks := .later }
def TableFormUptoCardSaid : Prop := Claim7.holds Tryz.pinned (.plain (OpenSpec.upto tableFormSpec)) tableFormUptoCard
end Rows
end Go.Proofs.YteedmmljahgpjabGreatDoor
