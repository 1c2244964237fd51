/-
  DERIVED. GIVEN WITH THE SEED: THE CARDS: each row of YtighocmdlifheaaDoorRows.lean that lists a variable, with what it lists TIED to the program's text (the seventh form; the later family's looks); each row that meets fmt, with fmt's text TOLD by the authors' own Lean function (tested against real Go, not proved from fmt's source: count such statements apart). THE CARD IS WHAT COUNTS. Prove the row's statement (the work); the ties are given (YtighocmdlifheaaDoorTie.lean); close each card by the builder's one call (the guide's Derived/Test/ToyasCard.lean, 'card_holds'). Laid BY PROGRAM, IN A SANDBOX (cutbox-door.mjs). By AI agents, Wed Nov 11 2026. No macro, syntax, notation, axiom, sorry.
-/
import Derived.Test.YtighocmdlifheaaDoorRows
import GoSem.ClaimSeven
namespace Go.Proofs.YtighocmdlifheaaDoor
namespace Rows

/-- THE TIED CARD OF 'tripwirelaw12.TreeReads'. -/
def treeReadsCard : Claim7 := { stood := { row := treeReadsRow, standIns := [], harness := (true, "aa637b58ceeab6e460a3f9918020bc4e3e06a8a6159306973d0b3011f8a2744f"), looks := true }, kinds := [], alts := [], laidByText := true, laidKinds := [.data], laidTests := true, laidLooks := .later }
def TreeReadsCardSaid : Prop := Claim7.holds Tryd.pinned (.plain (OpenSpec.ofChange treeReadsSpec)) treeReadsCard

/-- THE TIED CARD OF 'tripwirelaw12.TreeAlls'. -/
def treeAllsCard : Claim7 := { stood := { row := treeAllsRow, standIns := [], harness := (true, "aa637b58ceeab6e460a3f9918020bc4e3e06a8a6159306973d0b3011f8a2744f"), looks := true }, kinds := [], alts := [], laidByText := true, laidKinds := [.data], laidTests := true, laidLooks := .later }
def TreeAllsCardSaid : Prop := Claim7.holds Tryd.pinned (.plain (OpenSpec.ofChange treeAllsSpec)) treeAllsCard

/-- THE TIED CARD OF 'tripwirelaw12.TreeSizes'. -/
def treeSizesCard : Claim7 := { stood := { row := treeSizesRow, standIns := [], harness := (true, "aa637b58ceeab6e460a3f9918020bc4e3e06a8a6159306973d0b3011f8a2744f"), looks := true }, kinds := [], alts := [], laidByText := true, laidKinds := [.data], laidTests := true, laidLooks := .later }
def TreeSizesCardSaid : Prop := Claim7.holds Tryd.pinned (.plain (OpenSpec.ofChange treeSizesSpec)) treeSizesCard

/-- THE TIED CARD OF 'tripwirelaw12.TreeTurned'. -/
def treeTurnedCard : Claim7 := { stood := { row := treeTurnedRow, standIns := [], harness := (true, "aa637b58ceeab6e460a3f9918020bc4e3e06a8a6159306973d0b3011f8a2744f"), looks := true }, kinds := [], alts := [], laidByText := true, laidKinds := [.data], laidTests := true, laidLooks := .later }
def TreeTurnedCardSaid : Prop := Claim7.holds Tryd.pinned (.plain (OpenSpec.ofChange treeTurnedSpec)) treeTurnedCard

/-- THE SECOND FORM's CARD OF 'tripwirelaw12.TreeReads'. -/
def treeReadsUptoCard : Claim7 := { stood := { row := treeReadsUptoRow, standIns := [], harness := (true, "aa637b58ceeab6e460a3f9918020bc4e3e06a8a6159306973d0b3011f8a2744f"), looks := true }, kinds := [], alts := [], laidByText := true, laidKinds := [.data], laidTests := true, laidLooks := .later }
def TreeReadsUptoCardSaid : Prop := Claim7.holds Tryd.pinned (.plain (OpenSpec.upto treeReadsSpec)) treeReadsUptoCard

/-- THE SECOND FORM's CARD OF 'tripwirelaw12.TreeAlls'. -/
def treeAllsUptoCard : Claim7 := { stood := { row := treeAllsUptoRow, standIns := [], harness := (true, "aa637b58ceeab6e460a3f9918020bc4e3e06a8a6159306973d0b3011f8a2744f"), looks := true }, kinds := [], alts := [], laidByText := true, laidKinds := [.data], laidTests := true, laidLooks := .later }
def TreeAllsUptoCardSaid : Prop := Claim7.holds Tryd.pinned (.plain (OpenSpec.upto treeAllsSpec)) treeAllsUptoCard

/-- THE SECOND FORM's CARD OF 'tripwirelaw12.TreeSizes'. -/
def treeSizesUptoCard : Claim7 := { stood := { row := treeSizesUptoRow, standIns := [], harness := (true, "aa637b58ceeab6e460a3f9918020bc4e3e06a8a6159306973d0b3011f8a2744f"), looks := true }, kinds := [], alts := [], laidByText := true, laidKinds := [.data], laidTests := true, laidLooks := .later }
def TreeSizesUptoCardSaid : Prop := Claim7.holds Tryd.pinned (.plain (OpenSpec.upto treeSizesSpec)) treeSizesUptoCard

/-- THE SECOND FORM's CARD OF 'tripwirelaw12.TreeTurned'. -/
def treeTurnedUptoCard : Claim7 := { stood := { row := treeTurnedUptoRow, standIns := [], harness := (true, "aa637b58ceeab6e460a3f9918020bc4e3e06a8a6159306973d0b3011f8a2744f"), looks := true }, kinds := [], alts := [], laidByText := true, laidKinds := [.data], laidTests := true, laidLooks := .later }
def TreeTurnedUptoCardSaid : Prop := Claim7.holds Tryd.pinned (.plain (OpenSpec.upto treeTurnedSpec)) treeTurnedUptoCard
end Rows
end Go.Proofs.YtighocmdlifheaaDoor
