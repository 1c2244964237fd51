/-
  NARROWER THAN 'FOR EVERY INPUT', by the rows' own cells (each row's printed sentence says how): CostExprs: loops, laid · CostStates: loops, laid · CostStrategies: loops, laid · CostParts: loops, laid · CostSizes: loops, laid · CostMore: loops, laid.
  DERIVED. THE GIVEN ROWS OF THIS SEAT. 6 by the template 'for every input the law returns true; each argument reads behind the call as it read before'; 0 by the template 'total and deterministic' (their statements: YtjimaceccllnlaaGreatDoorTotals.lean).
  GIVEN WITH THE SEED: the statements are not yours to turn. If you find one false, say at which input.
  Laid BY PROGRAM, IN A SANDBOX (cutbox-rows.mjs): the forced cells as the released guide's own fill.sh prints them over the translation 3f63770b36fe482b… (all of the seat's roots in one cut). By AI agents, Wed Nov 11 2026. No macro, syntax, notation, axiom, sorry.
-/
import Derived.Test.YtjimaceccllnlaaGreatDoorChecked
import GoSem.Claim
import GoSem.ClaimJoined
import GoSem.ClaimMapViews
import Derived.JoinedTies
import Derived.KernelRfl
namespace Go.Proofs.YtjimaceccllnlaaGreatDoor
/- THE CELL 'sum', in the pinned program and in every row, IS THE sha256 OF THE DUMP (.gsa) THAT YtjimaceccllnlaaGreatDoorProg.lean LOADS. Nothing in Lean hashes anything: it is a label: what it is worth is what the hold of that sum in a sandbox is worth. -/
noncomputable def Tryz.pinned : Pinned := { name := "ytjimaceccllnlaagreatdoor", sum := "3f63770b36fe482bfff917f0fb800a7d06ae9237b6ca8cdee6f27361759e2b1f", checked := Tryz.checked }
namespace Rows
def none {H : Type} : Left H := { results := [], args := [] }

/- WHAT THE LISTED PACKAGE-LEVEL VARIABLES READ AS WHEN THE CALL BEGINS. Each datum BY PROGRAM (the guide's laid-datum.mjs) off the statement by which the dump's own 'gosem.cut.vars' lays the variable. In a bare row this is a premise. The card (YtjimaceccllnlaaGreatDoorCards.lean) ties it to the program's text. -/
def laid_errors_errorType {H : Type} : DataW H := .iface "internal/reflectlite.rtype" (.agg [.ptr (.lit (.string [101, 114, 114, 111, 114]))])
def laid_tripwire_lex_words {H : Type} : DataW H := .agg [.lit (.string [97, 98, 115]), .lit (.string [97, 109, 101, 110, 100]), .lit (.string [97, 115]), .lit (.string [97, 115, 107]), .lit (.string [97, 116]), .lit (.string [98, 105, 100]), .lit (.string [98, 111, 111, 108]), .lit (.string [98, 117, 121]), .lit (.string [99, 97, 110, 99, 101, 108]), .lit (.string [100, 111]), .lit (.string [102, 97, 108, 115, 101]), .lit (.string [102, 111, 107]), .lit (.string [103, 111, 116, 111]), .lit (.string [104, 97, 108, 116]), .lit (.string [104, 97, 115]), .lit (.string [105, 110, 116]), .lit (.string [105, 111, 99]), .lit (.string [108, 97, 115, 116]), .lit (.string [108, 105, 109, 105, 116]), .lit (.string [109, 97, 114, 107, 101, 116]), .lit (.string [109, 97, 120]), .lit (.string [109, 105, 110]), .lit (.string [110, 111, 119]), .lit (.string [111, 102]), .lit (.string [111, 112, 101, 110]), .lit (.string [112, 111, 115, 116]), .lit (.string [112, 114, 105, 99, 101]), .lit (.string [113, 116, 121]), .lit (.string [114, 101, 103]), .lit (.string [115, 101, 108, 108]), .lit (.string [115, 101, 116]), .lit (.string [115, 105, 100, 101]), .lit (.string [115, 108, 111, 116]), .lit (.string [115, 116, 97, 116, 101]), .lit (.string [115, 116, 114, 97, 116, 101, 103, 121]), .lit (.string [115, 117, 98, 109, 105, 116]), .lit (.string [116, 105, 109, 101]), .lit (.string [116, 111]), .lit (.string [116, 114, 117, 101]), .lit (.string [118, 111, 108, 117, 109, 101]), .lit (.string [119, 104, 101, 110])]
def laid_tripwire_types_fieldTypes {H : Type} : DataW H := .agg [.lit (.int .u8 0), .lit (.int .u8 3), .lit (.int .u8 3), .lit (.int .u8 3), .lit (.int .u8 2), .lit (.int .u8 4), .lit (.int .u8 2)]

/-- 'tripwirelaw16.CostExprs': WHATEVER THE INPUT: true; the input reads as it did. -/
def costExprsSpec : ChangeSpec := { name := "costExprs", fn := fun _ => fun
  | [d] => { results := [.lit (.bool true)], args := [d] }
  | _ => none }
def costExprsRow : OpenClaim := { program := "ytjimaceccllnlaagreatdoor", sum := "3f63770b36fe482bfff917f0fb800a7d06ae9237b6ca8cdee6f27361759e2b1f", func := "tripwire/tripwirelaw16.CostExprs", spec := "costExprs", inPlace := ["internal/bytealg.IndexByteString", "internal/reflectlite.ValueOf", "(internal/reflectlite.Value).Type", "(internal/reflectlite.Value).IsNil", "internal/reflectlite.TypeOf", "(internal/reflectlite.Value).Elem", "(internal/reflectlite.Value).Set"], unfollowed := true, recurses := true, named := ["tripwire/lex.words", "tripwire/types.fieldTypes", "errors.errorType"], loops := true, apart := false, laid := [("errors.errorType", laid_errors_errorType), ("tripwire/lex.words", laid_tripwire_lex_words), ("tripwire/types.fieldTypes", laid_tripwire_types_fieldTypes)] }
def CostExprsSaid : Prop := costExprsRow.holds Tryz.pinned (OpenSpec.ofChange costExprsSpec)

/-- ITS FALSE NEIGHBOUR: 'it returns false'. Refute it at one input. -/
def costExprsWrong : ChangeSpec := { name := "costExprs", fn := fun _ => fun
  | [d] => { results := [.lit (.bool false)], args := [d] }
  | _ => none }
def CostExprsWrongFalsely : Prop := costExprsRow.holds Tryz.pinned (OpenSpec.ofChange costExprsWrong)

/-- 'tripwirelaw16.CostStates': WHATEVER THE INPUT: true; the input reads as it did. -/
def costStatesSpec : ChangeSpec := { name := "costStates", fn := fun _ => fun
  | [d] => { results := [.lit (.bool true)], args := [d] }
  | _ => none }
def costStatesRow : OpenClaim := { program := "ytjimaceccllnlaagreatdoor", sum := "3f63770b36fe482bfff917f0fb800a7d06ae9237b6ca8cdee6f27361759e2b1f", func := "tripwire/tripwirelaw16.CostStates", spec := "costStates", inPlace := ["internal/bytealg.IndexByteString", "internal/reflectlite.ValueOf", "(internal/reflectlite.Value).Type", "(internal/reflectlite.Value).IsNil", "internal/reflectlite.TypeOf", "(internal/reflectlite.Value).Elem", "(internal/reflectlite.Value).Set"], unfollowed := true, recurses := true, named := ["tripwire/lex.words", "tripwire/types.fieldTypes", "errors.errorType"], loops := true, apart := false, laid := [("errors.errorType", laid_errors_errorType), ("tripwire/lex.words", laid_tripwire_lex_words), ("tripwire/types.fieldTypes", laid_tripwire_types_fieldTypes)] }
def CostStatesSaid : Prop := costStatesRow.holds Tryz.pinned (OpenSpec.ofChange costStatesSpec)

/-- ITS FALSE NEIGHBOUR: 'it returns false'. Refute it at one input. -/
def costStatesWrong : ChangeSpec := { name := "costStates", fn := fun _ => fun
  | [d] => { results := [.lit (.bool false)], args := [d] }
  | _ => none }
def CostStatesWrongFalsely : Prop := costStatesRow.holds Tryz.pinned (OpenSpec.ofChange costStatesWrong)

/-- 'tripwirelaw16.CostStrategies': WHATEVER THE INPUT: true; the input reads as it did. -/
def costStrategiesSpec : ChangeSpec := { name := "costStrategies", fn := fun _ => fun
  | [d] => { results := [.lit (.bool true)], args := [d] }
  | _ => none }
def costStrategiesRow : OpenClaim := { program := "ytjimaceccllnlaagreatdoor", sum := "3f63770b36fe482bfff917f0fb800a7d06ae9237b6ca8cdee6f27361759e2b1f", func := "tripwire/tripwirelaw16.CostStrategies", spec := "costStrategies", inPlace := ["internal/bytealg.IndexByteString", "internal/reflectlite.ValueOf", "(internal/reflectlite.Value).Type", "(internal/reflectlite.Value).IsNil", "internal/reflectlite.TypeOf", "(internal/reflectlite.Value).Elem", "(internal/reflectlite.Value).Set"], unfollowed := true, recurses := true, named := ["tripwire/lex.words", "tripwire/types.fieldTypes", "errors.errorType"], loops := true, apart := false, laid := [("errors.errorType", laid_errors_errorType), ("tripwire/lex.words", laid_tripwire_lex_words), ("tripwire/types.fieldTypes", laid_tripwire_types_fieldTypes)] }
def CostStrategiesSaid : Prop := costStrategiesRow.holds Tryz.pinned (OpenSpec.ofChange costStrategiesSpec)

/-- ITS FALSE NEIGHBOUR: 'it returns false'. Refute it at one input. -/
def costStrategiesWrong : ChangeSpec := { name := "costStrategies", fn := fun _ => fun
  | [d] => { results := [.lit (.bool false)], args := [d] }
  | _ => none }
def CostStrategiesWrongFalsely : Prop := costStrategiesRow.holds Tryz.pinned (OpenSpec.ofChange costStrategiesWrong)

/-- 'tripwirelaw16.CostParts': WHATEVER THE INPUT: true; the input reads as it did. -/
def costPartsSpec : ChangeSpec := { name := "costParts", fn := fun _ => fun
  | [d1, d2, d3] => { results := [.lit (.bool true)], args := [d1, d2, d3] }
  | _ => none }
def costPartsRow : OpenClaim := { program := "ytjimaceccllnlaagreatdoor", sum := "3f63770b36fe482bfff917f0fb800a7d06ae9237b6ca8cdee6f27361759e2b1f", func := "tripwire/tripwirelaw16.CostParts", spec := "costParts", inPlace := ["internal/bytealg.IndexByteString", "internal/reflectlite.ValueOf", "(internal/reflectlite.Value).Type", "(internal/reflectlite.Value).IsNil", "internal/reflectlite.TypeOf", "(internal/reflectlite.Value).Elem", "(internal/reflectlite.Value).Set"], unfollowed := true, recurses := true, named := ["tripwire/lex.words", "tripwire/types.fieldTypes", "errors.errorType"], loops := true, apart := false, laid := [("errors.errorType", laid_errors_errorType), ("tripwire/lex.words", laid_tripwire_lex_words), ("tripwire/types.fieldTypes", laid_tripwire_types_fieldTypes)] }
def CostPartsSaid : Prop := costPartsRow.holds Tryz.pinned (OpenSpec.ofChange costPartsSpec)

/-- ITS FALSE NEIGHBOUR: 'it returns false'. Refute it at one input. -/
def costPartsWrong : ChangeSpec := { name := "costParts", fn := fun _ => fun
  | [d1, d2, d3] => { results := [.lit (.bool false)], args := [d1, d2, d3] }
  | _ => none }
def CostPartsWrongFalsely : Prop := costPartsRow.holds Tryz.pinned (OpenSpec.ofChange costPartsWrong)

/-- 'tripwirelaw16.CostSizes': WHATEVER THE INPUT: true; the input reads as it did. -/
def costSizesSpec : ChangeSpec := { name := "costSizes", fn := fun _ => fun
  | [d] => { results := [.lit (.bool true)], args := [d] }
  | _ => none }
def costSizesRow : OpenClaim := { program := "ytjimaceccllnlaagreatdoor", sum := "3f63770b36fe482bfff917f0fb800a7d06ae9237b6ca8cdee6f27361759e2b1f", func := "tripwire/tripwirelaw16.CostSizes", spec := "costSizes", inPlace := ["internal/bytealg.IndexByteString", "internal/reflectlite.ValueOf", "(internal/reflectlite.Value).Type", "(internal/reflectlite.Value).IsNil", "internal/reflectlite.TypeOf", "(internal/reflectlite.Value).Elem", "(internal/reflectlite.Value).Set"], unfollowed := true, recurses := true, named := ["tripwire/lex.words", "tripwire/types.fieldTypes", "errors.errorType"], loops := true, apart := false, laid := [("errors.errorType", laid_errors_errorType), ("tripwire/lex.words", laid_tripwire_lex_words), ("tripwire/types.fieldTypes", laid_tripwire_types_fieldTypes)] }
def CostSizesSaid : Prop := costSizesRow.holds Tryz.pinned (OpenSpec.ofChange costSizesSpec)

/-- ITS FALSE NEIGHBOUR: 'it returns false'. Refute it at one input. -/
def costSizesWrong : ChangeSpec := { name := "costSizes", fn := fun _ => fun
  | [d] => { results := [.lit (.bool false)], args := [d] }
  | _ => none }
def CostSizesWrongFalsely : Prop := costSizesRow.holds Tryz.pinned (OpenSpec.ofChange costSizesWrong)

/-- 'tripwirelaw16.CostMore': WHATEVER THE INPUT: true; the input reads as it did. -/
def costMoreSpec : ChangeSpec := { name := "costMore", fn := fun _ => fun
  | [d1, d2] => { results := [.lit (.bool true)], args := [d1, d2] }
  | _ => none }
def costMoreRow : OpenClaim := { program := "ytjimaceccllnlaagreatdoor", sum := "3f63770b36fe482bfff917f0fb800a7d06ae9237b6ca8cdee6f27361759e2b1f", func := "tripwire/tripwirelaw16.CostMore", spec := "costMore", inPlace := ["internal/bytealg.IndexByteString", "internal/reflectlite.ValueOf", "(internal/reflectlite.Value).Type", "(internal/reflectlite.Value).IsNil", "internal/reflectlite.TypeOf", "(internal/reflectlite.Value).Elem", "(internal/reflectlite.Value).Set"], unfollowed := true, recurses := true, named := ["tripwire/lex.words", "tripwire/types.fieldTypes", "errors.errorType"], loops := true, apart := false, laid := [("errors.errorType", laid_errors_errorType), ("tripwire/lex.words", laid_tripwire_lex_words), ("tripwire/types.fieldTypes", laid_tripwire_types_fieldTypes)] }
def CostMoreSaid : Prop := costMoreRow.holds Tryz.pinned (OpenSpec.ofChange costMoreSpec)

/-- ITS FALSE NEIGHBOUR: 'it returns false'. Refute it at one input. -/
def costMoreWrong : ChangeSpec := { name := "costMore", fn := fun _ => fun
  | [d1, d2] => { results := [.lit (.bool false)], args := [d1, d2] }
  | _ => none }
def CostMoreWrongFalsely : Prop := costMoreRow.holds Tryz.pinned (OpenSpec.ofChange costMoreWrong)

/- THE SECOND FORM. 'bulk': how many values and letters a reading holds, each counted each time it is reached (what is shared counts as often as it is met; a slice's spare places count too). A statement '..UptoSaid' is the law's where the arguments, and the package variables that the reading takes, are together of bulk at most 1048576: NARROWER than '..Said'. Prove '..Said' where nothing that the law and all that it calls make is longer than what came in: it says more and counts as full. Else prove '..UptoSaid'. A law counts once. -/
mutual
def uptoBulk {H : Type} : DataW H → Nat
  | .lit (.string bytes) => bytes.length + 1
  | .lit _ => 1
  | .nil => 1
  | .ptr d => uptoBulk d + 1
  | .slice elems spare => uptoBulkAll elems + uptoBulkAll spare + 1
  | .agg parts => uptoBulkAll parts + 1
  | .iface _ d => uptoBulk d + 1
  | .map entries => uptoBulkEntries entries + 1
  | .held _ => 1
def uptoBulkAll {H : Type} : List (DataW H) → Nat
  | [] => 0
  | d :: r => uptoBulk d + uptoBulkAll r
def uptoBulkEntries {H : Type} : List (Lit × DataW H) → Nat
  | [] => 0
  | x :: r => uptoBulkEntry x + uptoBulkEntries r
def uptoBulkEntry {H : Type} : Lit × DataW H → Nat
  | (.string bytes, d) => bytes.length + uptoBulk d + 1
  | (_, d) => uptoBulk d + 1
 end
def uptoSmall : (H : Type) → List (DataW H) → Bool := fun _ ds => decide (uptoBulkAll ds ≤ 1048576)
def OpenSpec.upto (s : _root_.Go.ChangeSpec) : _root_.Go.OpenSpec := { _root_.Go.OpenSpec.ofChange s with cond := some uptoSmall }

/-- 'tripwirelaw16.CostExprs', WHERE WHAT IT READS IS OF BULK AT MOST 1048576: true; the input reads as it did. -/
def costExprsUptoRow : OpenClaim := { program := "ytjimaceccllnlaagreatdoor", sum := "3f63770b36fe482bfff917f0fb800a7d06ae9237b6ca8cdee6f27361759e2b1f", func := "tripwire/tripwirelaw16.CostExprs", spec := "costExprs", inPlace := ["internal/bytealg.IndexByteString", "internal/reflectlite.ValueOf", "(internal/reflectlite.Value).Type", "(internal/reflectlite.Value).IsNil", "internal/reflectlite.TypeOf", "(internal/reflectlite.Value).Elem", "(internal/reflectlite.Value).Set"], unfollowed := true, recurses := true, named := ["tripwire/lex.words", "tripwire/types.fieldTypes", "errors.errorType"], loops := true, apart := false, laid := [("errors.errorType", laid_errors_errorType), ("tripwire/lex.words", laid_tripwire_lex_words), ("tripwire/types.fieldTypes", laid_tripwire_types_fieldTypes)], narrowed := true }
def CostExprsUptoSaid : Prop := costExprsUptoRow.holds Tryz.pinned (OpenSpec.upto costExprsSpec)

/-- 'tripwirelaw16.CostStates', WHERE WHAT IT READS IS OF BULK AT MOST 1048576: true; the input reads as it did. -/
def costStatesUptoRow : OpenClaim := { program := "ytjimaceccllnlaagreatdoor", sum := "3f63770b36fe482bfff917f0fb800a7d06ae9237b6ca8cdee6f27361759e2b1f", func := "tripwire/tripwirelaw16.CostStates", spec := "costStates", inPlace := ["internal/bytealg.IndexByteString", "internal/reflectlite.ValueOf", "(internal/reflectlite.Value).Type", "(internal/reflectlite.Value).IsNil", "internal/reflectlite.TypeOf", "(internal/reflectlite.Value).Elem", "(internal/reflectlite.Value).Set"], unfollowed := true, recurses := true, named := ["tripwire/lex.words", "tripwire/types.fieldTypes", "errors.errorType"], loops := true, apart := false, laid := [("errors.errorType", laid_errors_errorType), ("tripwire/lex.words", laid_tripwire_lex_words), ("tripwire/types.fieldTypes", laid_tripwire_types_fieldTypes)], narrowed := true }
def CostStatesUptoSaid : Prop := costStatesUptoRow.holds Tryz.pinned (OpenSpec.upto costStatesSpec)

/-- 'tripwirelaw16.CostStrategies', WHERE WHAT IT READS IS OF BULK AT MOST 1048576: true; the input reads as it did. -/
def costStrategiesUptoRow : OpenClaim := { program := "ytjimaceccllnlaagreatdoor", sum := "3f63770b36fe482bfff917f0fb800a7d06ae9237b6ca8cdee6f27361759e2b1f", func := "tripwire/tripwirelaw16.CostStrategies", spec := "costStrategies", inPlace := ["internal/bytealg.IndexByteString", "internal/reflectlite.ValueOf", "(internal/reflectlite.Value).Type", "(internal/reflectlite.Value).IsNil", "internal/reflectlite.TypeOf", "(internal/reflectlite.Value).Elem", "(internal/reflectlite.Value).Set"], unfollowed := true, recurses := true, named := ["tripwire/lex.words", "tripwire/types.fieldTypes", "errors.errorType"], loops := true, apart := false, laid := [("errors.errorType", laid_errors_errorType), ("tripwire/lex.words", laid_tripwire_lex_words), ("tripwire/types.fieldTypes", laid_tripwire_types_fieldTypes)], narrowed := true }
def CostStrategiesUptoSaid : Prop := costStrategiesUptoRow.holds Tryz.pinned (OpenSpec.upto costStrategiesSpec)

/-- 'tripwirelaw16.CostParts', WHERE WHAT IT READS IS OF BULK AT MOST 1048576: true; the input reads as it did. -/
def costPartsUptoRow : OpenClaim := { program := "ytjimaceccllnlaagreatdoor", sum := "3f63770b36fe482bfff917f0fb800a7d06ae9237b6ca8cdee6f27361759e2b1f", func := "tripwire/tripwirelaw16.CostParts", spec := "costParts", inPlace := ["internal/bytealg.IndexByteString", "internal/reflectlite.ValueOf", "(internal/reflectlite.Value).Type", "(internal/reflectlite.Value).IsNil", "internal/reflectlite.TypeOf", "(internal/reflectlite.Value).Elem", "(internal/reflectlite.Value).Set"], unfollowed := true, recurses := true, named := ["tripwire/lex.words", "tripwire/types.fieldTypes", "errors.errorType"], loops := true, apart := false, laid := [("errors.errorType", laid_errors_errorType), ("tripwire/lex.words", laid_tripwire_lex_words), ("tripwire/types.fieldTypes", laid_tripwire_types_fieldTypes)], narrowed := true }
def CostPartsUptoSaid : Prop := costPartsUptoRow.holds Tryz.pinned (OpenSpec.upto costPartsSpec)

/-- 'tripwirelaw16.CostSizes', WHERE WHAT IT READS IS OF BULK AT MOST 1048576: true; the input reads as it did. -/
def costSizesUptoRow : OpenClaim := { program := "ytjimaceccllnlaagreatdoor", sum := "3f63770b36fe482bfff917f0fb800a7d06ae9237b6ca8cdee6f27361759e2b1f", func := "tripwire/tripwirelaw16.CostSizes", spec := "costSizes", inPlace := ["internal/bytealg.IndexByteString", "internal/reflectlite.ValueOf", "(internal/reflectlite.Value).Type", "(internal/reflectlite.Value).IsNil", "internal/reflectlite.TypeOf", "(internal/reflectlite.Value).Elem", "(internal/reflectlite.Value).Set"], unfollowed := true, recurses := true, named := ["tripwire/lex.words", "tripwire/types.fieldTypes", "errors.errorType"], loops := true, apart := false, laid := [("errors.errorType", laid_errors_errorType), ("tripwire/lex.words", laid_tripwire_lex_words), ("tripwire/types.fieldTypes", laid_tripwire_types_fieldTypes)], narrowed := true }
def CostSizesUptoSaid : Prop := costSizesUptoRow.holds Tryz.pinned (OpenSpec.upto costSizesSpec)

/-- 'tripwirelaw16.CostMore', WHERE WHAT IT READS IS OF BULK AT MOST 1048576: true; the input reads as it did. -/
def costMoreUptoRow : OpenClaim := { program := "ytjimaceccllnlaagreatdoor", sum := "3f63770b36fe482bfff917f0fb800a7d06ae9237b6ca8cdee6f27361759e2b1f", func := "tripwire/tripwirelaw16.CostMore", spec := "costMore", inPlace := ["internal/bytealg.IndexByteString", "internal/reflectlite.ValueOf", "(internal/reflectlite.Value).Type", "(internal/reflectlite.Value).IsNil", "internal/reflectlite.TypeOf", "(internal/reflectlite.Value).Elem", "(internal/reflectlite.Value).Set"], unfollowed := true, recurses := true, named := ["tripwire/lex.words", "tripwire/types.fieldTypes", "errors.errorType"], loops := true, apart := false, laid := [("errors.errorType", laid_errors_errorType), ("tripwire/lex.words", laid_tripwire_lex_words), ("tripwire/types.fieldTypes", laid_tripwire_types_fieldTypes)], narrowed := true }
def CostMoreUptoSaid : Prop := costMoreUptoRow.holds Tryz.pinned (OpenSpec.upto costMoreSpec)

end Rows
end Go.Proofs.YtjimaceccllnlaaGreatDoor
