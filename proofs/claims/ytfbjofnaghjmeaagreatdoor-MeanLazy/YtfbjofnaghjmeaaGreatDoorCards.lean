/-
  DERIVED. GIVEN WITH THE SEED: THE CARDS: each row of YtfbjofnaghjmeaaGreatDoorRows.lean that lists a variable, with what it lists TIED to the program's text (the seventh form; the later family's looks); each row that meets fmt, with fmt's text TOLD by the authors' own Lean function (tested against real Go, not proved from fmt's source: count such statements apart). THE CARD IS WHAT COUNTS. Prove the row's statement (the work); the ties are given (YtfbjofnaghjmeaaGreatDoorTie.lean); close each card by the builder's one call (the guide's Derived/Test/ToyasCard.lean, 'card_holds'). Laid BY PROGRAM, IN A SANDBOX (cutbox-door.mjs). By AI agents, Wed Nov 11 2026. No macro, syntax, notation, axiom, sorry.
-/
import Derived.Test.YtfbjofnaghjmeaaGreatDoorRows
import GoSem.ClaimSeven
namespace Go.Proofs.YtfbjofnaghjmeaaGreatDoor
namespace Rows

/-- THE TIED CARD OF 'tripwirelaw17.MeanLazy'. -/
def meanLazyCard : Claim7 := { stood := { row := meanLazyRow, standIns := [], harness := (true, "8b7d4071165fbbef594c413bcf5c3c0bc3cb0b5594df318a2618dcd8dd54aedb"), looks := true }, kinds := [], alts := [], laidByText := true, laidKinds := [.handle, .data, .data], laidTests := true, laidLooks := .later }
def MeanLazyCardSaid : Prop := Claim7.holds Tryz.pinned (.plain (OpenSpec.ofChange meanLazySpec)) meanLazyCard

/-- THE TIED CARD OF 'tripwirelaw17.MeanSums'. -/
def meanSumsCard : Claim7 := { stood := { row := meanSumsRow, standIns := [], harness := (true, "8b7d4071165fbbef594c413bcf5c3c0bc3cb0b5594df318a2618dcd8dd54aedb"), looks := true }, kinds := [], alts := [], laidByText := true, laidKinds := [.handle, .data, .data], laidTests := true, laidLooks := .later }
def MeanSumsCardSaid : Prop := Claim7.holds Tryz.pinned (.plain (OpenSpec.ofChange meanSumsSpec)) meanSumsCard

/-- THE TIED CARD OF 'tripwirelaw17.MeanRefused'. -/
def meanRefusedCard : Claim7 := { stood := { row := meanRefusedRow, standIns := [], harness := (true, "8b7d4071165fbbef594c413bcf5c3c0bc3cb0b5594df318a2618dcd8dd54aedb"), looks := true }, kinds := [], alts := [], laidByText := true, laidKinds := [.handle, .data, .data], laidTests := true, laidLooks := .later }
def MeanRefusedCardSaid : Prop := Claim7.holds Tryz.pinned (.plain (OpenSpec.ofChange meanRefusedSpec)) meanRefusedCard

/-- THE TIED CARD OF 'tripwirelaw17.MeanBlind'. -/
def meanBlindCard : Claim7 := { stood := { row := meanBlindRow, standIns := [], harness := (true, "8b7d4071165fbbef594c413bcf5c3c0bc3cb0b5594df318a2618dcd8dd54aedb"), looks := true }, kinds := [], alts := [], laidByText := true, laidKinds := [.handle, .data, .data], laidTests := true, laidLooks := .later }
def MeanBlindCardSaid : Prop := Claim7.holds Tryz.pinned (.plain (OpenSpec.ofChange meanBlindSpec)) meanBlindCard

/-- THE TIED CARD OF 'tripwirelaw17.MeanModes'. -/
def meanModesCard : Claim7 := { stood := { row := meanModesRow, standIns := [], harness := (true, "8b7d4071165fbbef594c413bcf5c3c0bc3cb0b5594df318a2618dcd8dd54aedb"), looks := true }, kinds := [], alts := [], laidByText := true, laidKinds := [.handle, .data, .data], laidTests := true, laidLooks := .later }
def MeanModesCardSaid : Prop := Claim7.holds Tryz.pinned (.plain (OpenSpec.ofChange meanModesSpec)) meanModesCard

/-- THE SECOND FORM's CARD OF 'tripwirelaw17.MeanLazy'. -/
def meanLazyUptoCard : Claim7 := { stood := { row := meanLazyUptoRow, standIns := [], harness := (true, "8b7d4071165fbbef594c413bcf5c3c0bc3cb0b5594df318a2618dcd8dd54aedb"), looks := true }, kinds := [], alts := [], laidByText := true, laidKinds := [.handle, .data, .data], laidTests := true, laidLooks := .later }
def MeanLazyUptoCardSaid : Prop := Claim7.holds Tryz.pinned (.plain (OpenSpec.upto meanLazySpec)) meanLazyUptoCard

/-- THE SECOND FORM's CARD OF 'tripwirelaw17.MeanSums'. -/
def meanSumsUptoCard : Claim7 := { stood := { row := meanSumsUptoRow, standIns := [], harness := (true, "8b7d4071165fbbef594c413bcf5c3c0bc3cb0b5594df318a2618dcd8dd54aedb"), looks := true }, kinds := [], alts := [], laidByText := true, laidKinds := [.handle, .data, .data], laidTests := true, laidLooks := .later }
def MeanSumsUptoCardSaid : Prop := Claim7.holds Tryz.pinned (.plain (OpenSpec.upto meanSumsSpec)) meanSumsUptoCard

/-- THE SECOND FORM's CARD OF 'tripwirelaw17.MeanRefused'. -/
def meanRefusedUptoCard : Claim7 := { stood := { row := meanRefusedUptoRow, standIns := [], harness := (true, "8b7d4071165fbbef594c413bcf5c3c0bc3cb0b5594df318a2618dcd8dd54aedb"), looks := true }, kinds := [], alts := [], laidByText := true, laidKinds := [.handle, .data, .data], laidTests := true, laidLooks := .later }
def MeanRefusedUptoCardSaid : Prop := Claim7.holds Tryz.pinned (.plain (OpenSpec.upto meanRefusedSpec)) meanRefusedUptoCard

/-- THE SECOND FORM's CARD OF 'tripwirelaw17.MeanBlind'. -/
def meanBlindUptoCard : Claim7 := { stood := { row := meanBlindUptoRow, standIns := [], harness := (true, "8b7d4071165fbbef594c413bcf5c3c0bc3cb0b5594df318a2618dcd8dd54aedb"), looks := true }, kinds := [], alts := [], laidByText := true, laidKinds := [.handle, .data, .data], laidTests := true, laidLooks := .later }
def MeanBlindUptoCardSaid : Prop := Claim7.holds Tryz.pinned (.plain (OpenSpec.upto meanBlindSpec)) meanBlindUptoCard

/-- THE SECOND FORM's CARD OF 'tripwirelaw17.MeanModes'. -/
def meanModesUptoCard : Claim7 := { stood := { row := meanModesUptoRow, standIns := [], harness := (true, "8b7d4071165fbbef594c413bcf5c3c0bc3cb0b5594df318a2618dcd8dd54aedb"), looks := true }, kinds := [], alts := [], laidByText := true, laidKinds := [.handle, .data, .data], laidTests := true, laidLooks := .later }
def MeanModesUptoCardSaid : Prop := Claim7.holds Tryz.pinned (.plain (OpenSpec.upto meanModesSpec)) meanModesUptoCard
end Rows
end Go.Proofs.YtfbjofnaghjmeaaGreatDoor
