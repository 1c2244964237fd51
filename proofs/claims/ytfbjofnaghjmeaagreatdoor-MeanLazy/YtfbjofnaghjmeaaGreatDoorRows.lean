/-
  NARROWER THAN 'FOR EVERY INPUT', by the rows' own cells (each row's printed sentence says how): MeanLazy: loops, laid · MeanSums: loops, laid · MeanRefused: loops, laid · MeanBlind: loops, laid · MeanModes: loops, laid.
  DERIVED. THE GIVEN ROWS OF THIS SEAT. 5 by the template 'for every input the law returns true; each argument reads behind the call as it read before'; 0 by the template 'total and deterministic' (their statements: YtfbjofnaghjmeaaGreatDoorTotals.lean).
  GIVEN WITH THE SEED: the statements are not yours to turn. If you find one false, say at which input.
  Laid BY PROGRAM, IN A SANDBOX (cutbox-rows.mjs): the forced cells as the released guide's own fill.sh prints them over the translation bef3d41677964eac… (all of the seat's roots in one cut). By AI agents, Wed Nov 11 2026. No macro, syntax, notation, axiom, sorry.
-/
import Derived.Test.YtfbjofnaghjmeaaGreatDoorChecked
import GoSem.Claim
import GoSem.ClaimJoined
import GoSem.ClaimMapViews
import Derived.JoinedTies
import Derived.KernelRfl
namespace Go.Proofs.YtfbjofnaghjmeaaGreatDoor
/- THE CELL 'sum', in the pinned program and in every row, IS THE sha256 OF THE DUMP (.gsa) THAT YtfbjofnaghjmeaaGreatDoorProg.lean LOADS. Nothing in Lean hashes anything: it is a label: what it is worth is what the hold of that sum in a sandbox is worth. -/
noncomputable def Tryz.pinned : Pinned := { name := "ytfbjofnaghjmeaagreatdoor", sum := "bef3d41677964eac31d5b0a9cb8a9b7d4fcebb221d29b33a061ee188c2297b88", checked := Tryz.checked }
namespace Rows
def none {H : Type} : Left H := { results := [], args := [] }

/- WHAT THE LISTED PACKAGE-LEVEL VARIABLES READ AS WHEN THE CALL BEGINS. Each datum BY PROGRAM (the guide's laid-datum.mjs) off the statement by which the dump's own 'gosem.cut.vars' lays the variable. In a bare row this is a premise. The card (YtfbjofnaghjmeaaGreatDoorCards.lean) ties it to the program's text. -/
def laid_errors_errorType {H : Type} : DataW H := .iface "internal/reflectlite.rtype" (.agg [.ptr (.lit (.string [101, 114, 114, 111, 114]))])
def laid_tripwire_lex_words {H : Type} : DataW H := .agg [.lit (.string [97, 98, 115]), .lit (.string [97, 109, 101, 110, 100]), .lit (.string [97, 115]), .lit (.string [97, 115, 107]), .lit (.string [97, 116]), .lit (.string [98, 105, 100]), .lit (.string [98, 111, 111, 108]), .lit (.string [98, 117, 121]), .lit (.string [99, 97, 110, 99, 101, 108]), .lit (.string [100, 111]), .lit (.string [102, 97, 108, 115, 101]), .lit (.string [102, 111, 107]), .lit (.string [103, 111, 116, 111]), .lit (.string [104, 97, 108, 116]), .lit (.string [104, 97, 115]), .lit (.string [105, 110, 116]), .lit (.string [105, 111, 99]), .lit (.string [108, 97, 115, 116]), .lit (.string [108, 105, 109, 105, 116]), .lit (.string [109, 97, 114, 107, 101, 116]), .lit (.string [109, 97, 120]), .lit (.string [109, 105, 110]), .lit (.string [110, 111, 119]), .lit (.string [111, 102]), .lit (.string [111, 112, 101, 110]), .lit (.string [112, 111, 115, 116]), .lit (.string [112, 114, 105, 99, 101]), .lit (.string [113, 116, 121]), .lit (.string [114, 101, 103]), .lit (.string [115, 101, 108, 108]), .lit (.string [115, 101, 116]), .lit (.string [115, 105, 100, 101]), .lit (.string [115, 108, 111, 116]), .lit (.string [115, 116, 97, 116, 101]), .lit (.string [115, 116, 114, 97, 116, 101, 103, 121]), .lit (.string [115, 117, 98, 109, 105, 116]), .lit (.string [116, 105, 109, 101]), .lit (.string [116, 111]), .lit (.string [116, 114, 117, 101]), .lit (.string [118, 111, 108, 117, 109, 101]), .lit (.string [119, 104, 101, 110])]
def laid_tripwire_types_fieldTypes {H : Type} : DataW H := .agg [.lit (.int .u8 0), .lit (.int .u8 3), .lit (.int .u8 3), .lit (.int .u8 3), .lit (.int .u8 2), .lit (.int .u8 4), .lit (.int .u8 2)]

/-- 'tripwirelaw17.MeanLazy': WHATEVER THE INPUT: true; the input reads as it did. -/
def meanLazySpec : ChangeSpec := { name := "meanLazy", fn := fun _ => fun
  | [d1, d2, d3, d4, d5, d6] => { results := [.lit (.bool true)], args := [d1, d2, d3, d4, d5, d6] }
  | _ => none }
def meanLazyRow : OpenClaim := { program := "ytfbjofnaghjmeaagreatdoor", sum := "bef3d41677964eac31d5b0a9cb8a9b7d4fcebb221d29b33a061ee188c2297b88", func := "tripwire/tripwirelaw17.MeanLazy", spec := "meanLazy", inPlace := ["internal/bytealg.IndexByteString", "internal/reflectlite.ValueOf", "(internal/reflectlite.Value).Type", "(internal/reflectlite.Value).IsNil", "internal/reflectlite.TypeOf", "(internal/reflectlite.Value).Elem", "(internal/reflectlite.Value).Set"], unfollowed := true, recurses := true, named := ["tripwire/lex.words", "tripwire/types.fieldTypes", "errors.errorType"], loops := true, apart := false, laid := [("errors.errorType", laid_errors_errorType), ("tripwire/lex.words", laid_tripwire_lex_words), ("tripwire/types.fieldTypes", laid_tripwire_types_fieldTypes)] }
def MeanLazySaid : Prop := meanLazyRow.holds Tryz.pinned (OpenSpec.ofChange meanLazySpec)

/-- ITS FALSE NEIGHBOUR: 'it returns false'. Refute it at one input. -/
def meanLazyWrong : ChangeSpec := { name := "meanLazy", fn := fun _ => fun
  | [d1, d2, d3, d4, d5, d6] => { results := [.lit (.bool false)], args := [d1, d2, d3, d4, d5, d6] }
  | _ => none }
def MeanLazyWrongFalsely : Prop := meanLazyRow.holds Tryz.pinned (OpenSpec.ofChange meanLazyWrong)

/-- 'tripwirelaw17.MeanSums': WHATEVER THE INPUT: true; the input reads as it did. -/
def meanSumsSpec : ChangeSpec := { name := "meanSums", fn := fun _ => fun
  | [d1, d2, d3, d4, d5] => { results := [.lit (.bool true)], args := [d1, d2, d3, d4, d5] }
  | _ => none }
def meanSumsRow : OpenClaim := { program := "ytfbjofnaghjmeaagreatdoor", sum := "bef3d41677964eac31d5b0a9cb8a9b7d4fcebb221d29b33a061ee188c2297b88", func := "tripwire/tripwirelaw17.MeanSums", spec := "meanSums", inPlace := ["internal/bytealg.IndexByteString", "internal/reflectlite.ValueOf", "(internal/reflectlite.Value).Type", "(internal/reflectlite.Value).IsNil", "internal/reflectlite.TypeOf", "(internal/reflectlite.Value).Elem", "(internal/reflectlite.Value).Set"], unfollowed := true, recurses := true, named := ["tripwire/lex.words", "tripwire/types.fieldTypes", "errors.errorType"], loops := true, apart := false, laid := [("errors.errorType", laid_errors_errorType), ("tripwire/lex.words", laid_tripwire_lex_words), ("tripwire/types.fieldTypes", laid_tripwire_types_fieldTypes)] }
def MeanSumsSaid : Prop := meanSumsRow.holds Tryz.pinned (OpenSpec.ofChange meanSumsSpec)

/-- ITS FALSE NEIGHBOUR: 'it returns false'. Refute it at one input. -/
def meanSumsWrong : ChangeSpec := { name := "meanSums", fn := fun _ => fun
  | [d1, d2, d3, d4, d5] => { results := [.lit (.bool false)], args := [d1, d2, d3, d4, d5] }
  | _ => none }
def MeanSumsWrongFalsely : Prop := meanSumsRow.holds Tryz.pinned (OpenSpec.ofChange meanSumsWrong)

/-- 'tripwirelaw17.MeanRefused': WHATEVER THE INPUT: true; the input reads as it did. -/
def meanRefusedSpec : ChangeSpec := { name := "meanRefused", fn := fun _ => fun
  | [d1, d2, d3] => { results := [.lit (.bool true)], args := [d1, d2, d3] }
  | _ => none }
def meanRefusedRow : OpenClaim := { program := "ytfbjofnaghjmeaagreatdoor", sum := "bef3d41677964eac31d5b0a9cb8a9b7d4fcebb221d29b33a061ee188c2297b88", func := "tripwire/tripwirelaw17.MeanRefused", spec := "meanRefused", inPlace := ["internal/bytealg.IndexByteString", "internal/reflectlite.ValueOf", "(internal/reflectlite.Value).Type", "(internal/reflectlite.Value).IsNil", "internal/reflectlite.TypeOf", "(internal/reflectlite.Value).Elem", "(internal/reflectlite.Value).Set"], unfollowed := true, recurses := true, named := ["tripwire/lex.words", "tripwire/types.fieldTypes", "errors.errorType"], loops := true, apart := false, laid := [("errors.errorType", laid_errors_errorType), ("tripwire/lex.words", laid_tripwire_lex_words), ("tripwire/types.fieldTypes", laid_tripwire_types_fieldTypes)] }
def MeanRefusedSaid : Prop := meanRefusedRow.holds Tryz.pinned (OpenSpec.ofChange meanRefusedSpec)

/-- ITS FALSE NEIGHBOUR: 'it returns false'. Refute it at one input. -/
def meanRefusedWrong : ChangeSpec := { name := "meanRefused", fn := fun _ => fun
  | [d1, d2, d3] => { results := [.lit (.bool false)], args := [d1, d2, d3] }
  | _ => none }
def MeanRefusedWrongFalsely : Prop := meanRefusedRow.holds Tryz.pinned (OpenSpec.ofChange meanRefusedWrong)

/-- 'tripwirelaw17.MeanBlind': WHATEVER THE INPUT: true; the input reads as it did. -/
def meanBlindSpec : ChangeSpec := { name := "meanBlind", fn := fun _ => fun
  | [d1, d2, d3, d4, d5] => { results := [.lit (.bool true)], args := [d1, d2, d3, d4, d5] }
  | _ => none }
def meanBlindRow : OpenClaim := { program := "ytfbjofnaghjmeaagreatdoor", sum := "bef3d41677964eac31d5b0a9cb8a9b7d4fcebb221d29b33a061ee188c2297b88", func := "tripwire/tripwirelaw17.MeanBlind", spec := "meanBlind", inPlace := ["internal/bytealg.IndexByteString", "internal/reflectlite.ValueOf", "(internal/reflectlite.Value).Type", "(internal/reflectlite.Value).IsNil", "internal/reflectlite.TypeOf", "(internal/reflectlite.Value).Elem", "(internal/reflectlite.Value).Set"], unfollowed := true, recurses := true, named := ["tripwire/lex.words", "tripwire/types.fieldTypes", "errors.errorType"], loops := true, apart := false, laid := [("errors.errorType", laid_errors_errorType), ("tripwire/lex.words", laid_tripwire_lex_words), ("tripwire/types.fieldTypes", laid_tripwire_types_fieldTypes)] }
def MeanBlindSaid : Prop := meanBlindRow.holds Tryz.pinned (OpenSpec.ofChange meanBlindSpec)

/-- ITS FALSE NEIGHBOUR: 'it returns false'. Refute it at one input. -/
def meanBlindWrong : ChangeSpec := { name := "meanBlind", fn := fun _ => fun
  | [d1, d2, d3, d4, d5] => { results := [.lit (.bool false)], args := [d1, d2, d3, d4, d5] }
  | _ => none }
def MeanBlindWrongFalsely : Prop := meanBlindRow.holds Tryz.pinned (OpenSpec.ofChange meanBlindWrong)

/-- 'tripwirelaw17.MeanModes': WHATEVER THE INPUT: true; the input reads as it did. -/
def meanModesSpec : ChangeSpec := { name := "meanModes", fn := fun _ => fun
  | [d1, d2, d3, d4] => { results := [.lit (.bool true)], args := [d1, d2, d3, d4] }
  | _ => none }
def meanModesRow : OpenClaim := { program := "ytfbjofnaghjmeaagreatdoor", sum := "bef3d41677964eac31d5b0a9cb8a9b7d4fcebb221d29b33a061ee188c2297b88", func := "tripwire/tripwirelaw17.MeanModes", spec := "meanModes", inPlace := ["internal/bytealg.IndexByteString", "internal/reflectlite.ValueOf", "(internal/reflectlite.Value).Type", "(internal/reflectlite.Value).IsNil", "internal/reflectlite.TypeOf", "(internal/reflectlite.Value).Elem", "(internal/reflectlite.Value).Set"], unfollowed := true, recurses := true, named := ["tripwire/lex.words", "tripwire/types.fieldTypes", "errors.errorType"], loops := true, apart := false, laid := [("errors.errorType", laid_errors_errorType), ("tripwire/lex.words", laid_tripwire_lex_words), ("tripwire/types.fieldTypes", laid_tripwire_types_fieldTypes)] }
def MeanModesSaid : Prop := meanModesRow.holds Tryz.pinned (OpenSpec.ofChange meanModesSpec)

/-- ITS FALSE NEIGHBOUR: 'it returns false'. Refute it at one input. -/
def meanModesWrong : ChangeSpec := { name := "meanModes", fn := fun _ => fun
  | [d1, d2, d3, d4] => { results := [.lit (.bool false)], args := [d1, d2, d3, d4] }
  | _ => none }
def MeanModesWrongFalsely : Prop := meanModesRow.holds Tryz.pinned (OpenSpec.ofChange meanModesWrong)

/- THE SECOND FORM. 'bulk': how many values and letters a reading holds, each counted each time it is reached (what is shared counts as often as it is met; a slice's spare places count too). A statement '..UptoSaid' is the law's where the arguments, and the package variables that the reading takes, are together of bulk at most 1048576: NARROWER than '..Said'. Prove '..Said' where nothing that the law and all that it calls make is longer than what came in: it says more and counts as full. Else prove '..UptoSaid'. A law counts once. -/
mutual
def uptoBulk {H : Type} : DataW H → Nat
  | .lit (.string bytes) => bytes.length + 1
  | .lit _ => 1
  | .nil => 1
  | .ptr d => uptoBulk d + 1
  | .slice elems spare => uptoBulkAll elems + uptoBulkAll spare + 1
  | .agg parts => uptoBulkAll parts + 1
  | .iface _ d => uptoBulk d + 1
  | .map entries => uptoBulkEntries entries + 1
  | .held _ => 1
def uptoBulkAll {H : Type} : List (DataW H) → Nat
  | [] => 0
  | d :: r => uptoBulk d + uptoBulkAll r
def uptoBulkEntries {H : Type} : List (Lit × DataW H) → Nat
  | [] => 0
  | x :: r => uptoBulkEntry x + uptoBulkEntries r
def uptoBulkEntry {H : Type} : Lit × DataW H → Nat
  | (.string bytes, d) => bytes.length + uptoBulk d + 1
  | (_, d) => uptoBulk d + 1
 end
def uptoSmall : (H : Type) → List (DataW H) → Bool := fun _ ds => decide (uptoBulkAll ds ≤ 1048576)
def OpenSpec.upto (s : _root_.Go.ChangeSpec) : _root_.Go.OpenSpec := { _root_.Go.OpenSpec.ofChange s with cond := some uptoSmall }

/-- 'tripwirelaw17.MeanLazy', WHERE WHAT IT READS IS OF BULK AT MOST 1048576: true; the input reads as it did. -/
def meanLazyUptoRow : OpenClaim := { program := "ytfbjofnaghjmeaagreatdoor", sum := "bef3d41677964eac31d5b0a9cb8a9b7d4fcebb221d29b33a061ee188c2297b88", func := "tripwire/tripwirelaw17.MeanLazy", spec := "meanLazy", inPlace := ["internal/bytealg.IndexByteString", "internal/reflectlite.ValueOf", "(internal/reflectlite.Value).Type", "(internal/reflectlite.Value).IsNil", "internal/reflectlite.TypeOf", "(internal/reflectlite.Value).Elem", "(internal/reflectlite.Value).Set"], unfollowed := true, recurses := true, named := ["tripwire/lex.words", "tripwire/types.fieldTypes", "errors.errorType"], loops := true, apart := false, laid := [("errors.errorType", laid_errors_errorType), ("tripwire/lex.words", laid_tripwire_lex_words), ("tripwire/types.fieldTypes", laid_tripwire_types_fieldTypes)], narrowed := true }
def MeanLazyUptoSaid : Prop := meanLazyUptoRow.holds Tryz.pinned (OpenSpec.upto meanLazySpec)

/-- 'tripwirelaw17.MeanSums', WHERE WHAT IT READS IS OF BULK AT MOST 1048576: true; the input reads as it did. -/
def meanSumsUptoRow : OpenClaim := { program := "ytfbjofnaghjmeaagreatdoor", sum := "bef3d41677964eac31d5b0a9cb8a9b7d4fcebb221d29b33a061ee188c2297b88", func := "tripwire/tripwirelaw17.MeanSums", spec := "meanSums", inPlace := ["internal/bytealg.IndexByteString", "internal/reflectlite.ValueOf", "(internal/reflectlite.Value).Type", "(internal/reflectlite.Value).IsNil", "internal/reflectlite.TypeOf", "(internal/reflectlite.Value).Elem", "(internal/reflectlite.Value).Set"], unfollowed := true, recurses := true, named := ["tripwire/lex.words", "tripwire/types.fieldTypes", "errors.errorType"], loops := true, apart := false, laid := [("errors.errorType", laid_errors_errorType), ("tripwire/lex.words", laid_tripwire_lex_words), ("tripwire/types.fieldTypes", laid_tripwire_types_fieldTypes)], narrowed := true }
def MeanSumsUptoSaid : Prop := meanSumsUptoRow.holds Tryz.pinned (OpenSpec.upto meanSumsSpec)

/-- 'tripwirelaw17.MeanRefused', WHERE WHAT IT READS IS OF BULK AT MOST 1048576: true; the input reads as it did. -/
def meanRefusedUptoRow : OpenClaim := { program := "ytfbjofnaghjmeaagreatdoor", sum := "bef3d41677964eac31d5b0a9cb8a9b7d4fcebb221d29b33a061ee188c2297b88", func := "tripwire/tripwirelaw17.MeanRefused", spec := "meanRefused", inPlace := ["internal/bytealg.IndexByteString", "internal/reflectlite.ValueOf", "(internal/reflectlite.Value).Type", "(internal/reflectlite.Value).IsNil", "internal/reflectlite.TypeOf", "(internal/reflectlite.Value).Elem", "(internal/reflectlite.Value).Set"], unfollowed := true, recurses := true, named := ["tripwire/lex.words", "tripwire/types.fieldTypes", "errors.errorType"], loops := true, apart := false, laid := [("errors.errorType", laid_errors_errorType), ("tripwire/lex.words", laid_tripwire_lex_words), ("tripwire/types.fieldTypes", laid_tripwire_types_fieldTypes)], narrowed := true }
def MeanRefusedUptoSaid : Prop := meanRefusedUptoRow.holds Tryz.pinned (OpenSpec.upto meanRefusedSpec)

/-- 'tripwirelaw17.MeanBlind', WHERE WHAT IT READS IS OF BULK AT MOST 1048576: true; the input reads as it did. -/
def meanBlindUptoRow : OpenClaim := { program := "ytfbjofnaghjmeaagreatdoor", sum := "bef3d41677964eac31d5b0a9cb8a9b7d4fcebb221d29b33a061ee188c2297b88", func := "tripwire/tripwirelaw17.MeanBlind", spec := "meanBlind", inPlace := ["internal/bytealg.IndexByteString", "internal/reflectlite.ValueOf", "(internal/reflectlite.Value).Type", "(internal/reflectlite.Value).IsNil", "internal/reflectlite.TypeOf", "(internal/reflectlite.Value).Elem", "(internal/reflectlite.Value).Set"], unfollowed := true, recurses := true, named := ["tripwire/lex.words", "tripwire/types.fieldTypes", "errors.errorType"], loops := true, apart := false, laid := [("errors.errorType", laid_errors_errorType), ("tripwire/lex.words", laid_tripwire_lex_words), ("tripwire/types.fieldTypes", laid_tripwire_types_fieldTypes)], narrowed := true }
def MeanBlindUptoSaid : Prop := meanBlindUptoRow.holds Tryz.pinned (OpenSpec.upto meanBlindSpec)

/-- 'tripwirelaw17.MeanModes', WHERE WHAT IT READS IS OF BULK AT MOST 1048576: true; the input reads as it did. -/
def meanModesUptoRow : OpenClaim := { program := "ytfbjofnaghjmeaagreatdoor", sum := "bef3d41677964eac31d5b0a9cb8a9b7d4fcebb221d29b33a061ee188c2297b88", func := "tripwire/tripwirelaw17.MeanModes", spec := "meanModes", inPlace := ["internal/bytealg.IndexByteString", "internal/reflectlite.ValueOf", "(internal/reflectlite.Value).Type", "(internal/reflectlite.Value).IsNil", "internal/reflectlite.TypeOf", "(internal/reflectlite.Value).Elem", "(internal/reflectlite.Value).Set"], unfollowed := true, recurses := true, named := ["tripwire/lex.words", "tripwire/types.fieldTypes", "errors.errorType"], loops := true, apart := false, laid := [("errors.errorType", laid_errors_errorType), ("tripwire/lex.words", laid_tripwire_lex_words), ("tripwire/types.fieldTypes", laid_tripwire_types_fieldTypes)], narrowed := true }
def MeanModesUptoSaid : Prop := meanModesUptoRow.holds Tryz.pinned (OpenSpec.upto meanModesSpec)

end Rows
end Go.Proofs.YtfbjofnaghjmeaaGreatDoor
