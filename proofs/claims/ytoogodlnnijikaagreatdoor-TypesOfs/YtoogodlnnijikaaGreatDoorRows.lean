/-
  NARROWER THAN 'FOR EVERY INPUT', by the rows' own cells (each row's printed sentence says how): TypesTexts: laid · TypesOfs: loops, laid · TypesParts: loops, laid · TypesNames: loops, laid · TypesTwice: loops, laid.
  DERIVED. THE GIVEN ROWS OF THIS SEAT. 5 by the template 'for every input the law returns true; each argument reads behind the call as it read before'; 0 by the template 'total and deterministic' (their statements: YtoogodlnnijikaaGreatDoorTotals.lean).
  GIVEN WITH THE SEED: the statements are not yours to turn. If you find one false, say at which input.
  Laid BY PROGRAM, IN A SANDBOX (cutbox-rows.mjs): the forced cells as the released guide's own fill.sh prints them over the translation 432a05ed2cdd5345… (all of the seat's roots in one cut). By AI agents, Wed Nov 11 2026. No macro, syntax, notation, axiom, sorry.
-/
import Derived.Test.YtoogodlnnijikaaGreatDoorChecked
import GoSem.Claim
import GoSem.ClaimJoined
import GoSem.ClaimMapViews
import Derived.JoinedTies
import Derived.KernelRfl
namespace Go.Proofs.YtoogodlnnijikaaGreatDoor
/- THE CELL 'sum', in the pinned program and in every row, IS THE sha256 OF THE DUMP (.gsa) THAT YtoogodlnnijikaaGreatDoorProg.lean LOADS. Nothing in Lean hashes anything: it is a label: what it is worth is what the hold of that sum in a sandbox is worth. -/
noncomputable def Tryz.pinned : Pinned := { name := "ytoogodlnnijikaagreatdoor", sum := "432a05ed2cdd53452e96a1991386e092553e400ca909953acfb35916c4ab8f34", checked := Tryz.checked }
namespace Rows
def none {H : Type} : Left H := { results := [], args := [] }

/- WHAT THE LISTED PACKAGE-LEVEL VARIABLES READ AS WHEN THE CALL BEGINS. Each datum BY PROGRAM (the guide's laid-datum.mjs) off the statement by which the dump's own 'gosem.cut.vars' lays the variable. In a bare row this is a premise. The card (YtoogodlnnijikaaGreatDoorCards.lean) ties it to the program's text. -/
def laid_errors_errorType {H : Type} : DataW H := .iface "internal/reflectlite.rtype" (.agg [.ptr (.lit (.string [101, 114, 114, 111, 114]))])
def laid_tripwire_lex_words {H : Type} : DataW H := .agg [.lit (.string [97, 98, 115]), .lit (.string [97, 109, 101, 110, 100]), .lit (.string [97, 115]), .lit (.string [97, 115, 107]), .lit (.string [97, 116]), .lit (.string [98, 105, 100]), .lit (.string [98, 111, 111, 108]), .lit (.string [98, 117, 121]), .lit (.string [99, 97, 110, 99, 101, 108]), .lit (.string [100, 111]), .lit (.string [102, 97, 108, 115, 101]), .lit (.string [102, 111, 107]), .lit (.string [103, 111, 116, 111]), .lit (.string [104, 97, 108, 116]), .lit (.string [104, 97, 115]), .lit (.string [105, 110, 116]), .lit (.string [105, 111, 99]), .lit (.string [108, 97, 115, 116]), .lit (.string [108, 105, 109, 105, 116]), .lit (.string [109, 97, 114, 107, 101, 116]), .lit (.string [109, 97, 120]), .lit (.string [109, 105, 110]), .lit (.string [110, 111, 119]), .lit (.string [111, 102]), .lit (.string [111, 112, 101, 110]), .lit (.string [112, 111, 115, 116]), .lit (.string [112, 114, 105, 99, 101]), .lit (.string [113, 116, 121]), .lit (.string [114, 101, 103]), .lit (.string [115, 101, 108, 108]), .lit (.string [115, 101, 116]), .lit (.string [115, 105, 100, 101]), .lit (.string [115, 108, 111, 116]), .lit (.string [115, 116, 97, 116, 101]), .lit (.string [115, 116, 114, 97, 116, 101, 103, 121]), .lit (.string [115, 117, 98, 109, 105, 116]), .lit (.string [116, 105, 109, 101]), .lit (.string [116, 111]), .lit (.string [116, 114, 117, 101]), .lit (.string [118, 111, 108, 117, 109, 101]), .lit (.string [119, 104, 101, 110])]
def laid_tripwire_types_fieldTypes {H : Type} : DataW H := .agg [.lit (.int .u8 0), .lit (.int .u8 3), .lit (.int .u8 3), .lit (.int .u8 3), .lit (.int .u8 2), .lit (.int .u8 4), .lit (.int .u8 2)]

/-- 'tripwirelaw15.TypesTexts': WHATEVER THE INPUT: true; the input reads as it did. -/
def typesTextsSpec : ChangeSpec := { name := "typesTexts", fn := fun _ => fun
  | [d] => { results := [.lit (.bool true)], args := [d] }
  | _ => none }
def typesTextsRow : OpenClaim := { program := "ytoogodlnnijikaagreatdoor", sum := "432a05ed2cdd53452e96a1991386e092553e400ca909953acfb35916c4ab8f34", func := "tripwire/tripwirelaw15.TypesTexts", spec := "typesTexts", inPlace := ["internal/bytealg.IndexByteString", "internal/reflectlite.ValueOf", "(internal/reflectlite.Value).Type", "(internal/reflectlite.Value).IsNil", "internal/reflectlite.TypeOf", "(internal/reflectlite.Value).Elem", "(internal/reflectlite.Value).Set"], unfollowed := true, recurses := true, named := ["tripwire/lex.words", "tripwire/types.fieldTypes", "errors.errorType"], apart := false, laid := [("errors.errorType", laid_errors_errorType), ("tripwire/lex.words", laid_tripwire_lex_words), ("tripwire/types.fieldTypes", laid_tripwire_types_fieldTypes)] }
def TypesTextsSaid : Prop := typesTextsRow.holds Tryz.pinned (OpenSpec.ofChange typesTextsSpec)

/-- ITS FALSE NEIGHBOUR: 'it returns false'. Refute it at one input. -/
def typesTextsWrong : ChangeSpec := { name := "typesTexts", fn := fun _ => fun
  | [d] => { results := [.lit (.bool false)], args := [d] }
  | _ => none }
def TypesTextsWrongFalsely : Prop := typesTextsRow.holds Tryz.pinned (OpenSpec.ofChange typesTextsWrong)

/-- 'tripwirelaw15.TypesOfs': WHATEVER THE INPUT: true; the input reads as it did. -/
def typesOfsSpec : ChangeSpec := { name := "typesOfs", fn := fun _ => fun
  | [d1, d2] => { results := [.lit (.bool true)], args := [d1, d2] }
  | _ => none }
def typesOfsRow : OpenClaim := { program := "ytoogodlnnijikaagreatdoor", sum := "432a05ed2cdd53452e96a1991386e092553e400ca909953acfb35916c4ab8f34", func := "tripwire/tripwirelaw15.TypesOfs", spec := "typesOfs", inPlace := ["internal/bytealg.IndexByteString", "internal/reflectlite.ValueOf", "(internal/reflectlite.Value).Type", "(internal/reflectlite.Value).IsNil", "internal/reflectlite.TypeOf", "(internal/reflectlite.Value).Elem", "(internal/reflectlite.Value).Set"], unfollowed := true, recurses := true, named := ["tripwire/lex.words", "tripwire/types.fieldTypes", "errors.errorType"], loops := true, apart := false, laid := [("errors.errorType", laid_errors_errorType), ("tripwire/lex.words", laid_tripwire_lex_words), ("tripwire/types.fieldTypes", laid_tripwire_types_fieldTypes)] }
def TypesOfsSaid : Prop := typesOfsRow.holds Tryz.pinned (OpenSpec.ofChange typesOfsSpec)

/-- ITS FALSE NEIGHBOUR: 'it returns false'. Refute it at one input. -/
def typesOfsWrong : ChangeSpec := { name := "typesOfs", fn := fun _ => fun
  | [d1, d2] => { results := [.lit (.bool false)], args := [d1, d2] }
  | _ => none }
def TypesOfsWrongFalsely : Prop := typesOfsRow.holds Tryz.pinned (OpenSpec.ofChange typesOfsWrong)

/-- 'tripwirelaw15.TypesParts': WHATEVER THE INPUT: true; the input reads as it did. -/
def typesPartsSpec : ChangeSpec := { name := "typesParts", fn := fun _ => fun
  | [d1, d2, d3, d4] => { results := [.lit (.bool true)], args := [d1, d2, d3, d4] }
  | _ => none }
def typesPartsRow : OpenClaim := { program := "ytoogodlnnijikaagreatdoor", sum := "432a05ed2cdd53452e96a1991386e092553e400ca909953acfb35916c4ab8f34", func := "tripwire/tripwirelaw15.TypesParts", spec := "typesParts", inPlace := ["internal/bytealg.IndexByteString", "internal/reflectlite.ValueOf", "(internal/reflectlite.Value).Type", "(internal/reflectlite.Value).IsNil", "internal/reflectlite.TypeOf", "(internal/reflectlite.Value).Elem", "(internal/reflectlite.Value).Set"], unfollowed := true, recurses := true, named := ["tripwire/lex.words", "tripwire/types.fieldTypes", "errors.errorType"], loops := true, apart := false, laid := [("errors.errorType", laid_errors_errorType), ("tripwire/lex.words", laid_tripwire_lex_words), ("tripwire/types.fieldTypes", laid_tripwire_types_fieldTypes)] }
def TypesPartsSaid : Prop := typesPartsRow.holds Tryz.pinned (OpenSpec.ofChange typesPartsSpec)

/-- ITS FALSE NEIGHBOUR: 'it returns false'. Refute it at one input. -/
def typesPartsWrong : ChangeSpec := { name := "typesParts", fn := fun _ => fun
  | [d1, d2, d3, d4] => { results := [.lit (.bool false)], args := [d1, d2, d3, d4] }
  | _ => none }
def TypesPartsWrongFalsely : Prop := typesPartsRow.holds Tryz.pinned (OpenSpec.ofChange typesPartsWrong)

/-- 'tripwirelaw15.TypesNames': WHATEVER THE INPUT: true; the input reads as it did. -/
def typesNamesSpec : ChangeSpec := { name := "typesNames", fn := fun _ => fun
  | [d1, d2] => { results := [.lit (.bool true)], args := [d1, d2] }
  | _ => none }
def typesNamesRow : OpenClaim := { program := "ytoogodlnnijikaagreatdoor", sum := "432a05ed2cdd53452e96a1991386e092553e400ca909953acfb35916c4ab8f34", func := "tripwire/tripwirelaw15.TypesNames", spec := "typesNames", inPlace := ["internal/bytealg.IndexByteString", "internal/reflectlite.ValueOf", "(internal/reflectlite.Value).Type", "(internal/reflectlite.Value).IsNil", "internal/reflectlite.TypeOf", "(internal/reflectlite.Value).Elem", "(internal/reflectlite.Value).Set"], unfollowed := true, recurses := true, named := ["tripwire/lex.words", "tripwire/types.fieldTypes", "errors.errorType"], loops := true, apart := false, laid := [("errors.errorType", laid_errors_errorType), ("tripwire/lex.words", laid_tripwire_lex_words), ("tripwire/types.fieldTypes", laid_tripwire_types_fieldTypes)] }
def TypesNamesSaid : Prop := typesNamesRow.holds Tryz.pinned (OpenSpec.ofChange typesNamesSpec)

/-- ITS FALSE NEIGHBOUR: 'it returns false'. Refute it at one input. -/
def typesNamesWrong : ChangeSpec := { name := "typesNames", fn := fun _ => fun
  | [d1, d2] => { results := [.lit (.bool false)], args := [d1, d2] }
  | _ => none }
def TypesNamesWrongFalsely : Prop := typesNamesRow.holds Tryz.pinned (OpenSpec.ofChange typesNamesWrong)

/-- 'tripwirelaw15.TypesTwice': WHATEVER THE INPUT: true; the input reads as it did. -/
def typesTwiceSpec : ChangeSpec := { name := "typesTwice", fn := fun _ => fun
  | [d1, d2, d3] => { results := [.lit (.bool true)], args := [d1, d2, d3] }
  | _ => none }
def typesTwiceRow : OpenClaim := { program := "ytoogodlnnijikaagreatdoor", sum := "432a05ed2cdd53452e96a1991386e092553e400ca909953acfb35916c4ab8f34", func := "tripwire/tripwirelaw15.TypesTwice", spec := "typesTwice", inPlace := ["internal/bytealg.IndexByteString", "internal/reflectlite.ValueOf", "(internal/reflectlite.Value).Type", "(internal/reflectlite.Value).IsNil", "internal/reflectlite.TypeOf", "(internal/reflectlite.Value).Elem", "(internal/reflectlite.Value).Set"], unfollowed := true, recurses := true, named := ["tripwire/lex.words", "tripwire/types.fieldTypes", "errors.errorType"], loops := true, apart := false, laid := [("errors.errorType", laid_errors_errorType), ("tripwire/lex.words", laid_tripwire_lex_words), ("tripwire/types.fieldTypes", laid_tripwire_types_fieldTypes)] }
def TypesTwiceSaid : Prop := typesTwiceRow.holds Tryz.pinned (OpenSpec.ofChange typesTwiceSpec)

/-- ITS FALSE NEIGHBOUR: 'it returns false'. Refute it at one input. -/
def typesTwiceWrong : ChangeSpec := { name := "typesTwice", fn := fun _ => fun
  | [d1, d2, d3] => { results := [.lit (.bool false)], args := [d1, d2, d3] }
  | _ => none }
def TypesTwiceWrongFalsely : Prop := typesTwiceRow.holds Tryz.pinned (OpenSpec.ofChange typesTwiceWrong)

/- THE SECOND FORM. 'bulk': how many values and letters a reading holds, each counted each time it is reached (what is shared counts as often as it is met; a slice's spare places count too). A statement '..UptoSaid' is the law's where the arguments, and the package variables that the reading takes, are together of bulk at most 1048576: NARROWER than '..Said'. Prove '..Said' where nothing that the law and all that it calls make is longer than what came in: it says more and counts as full. Else prove '..UptoSaid'. A law counts once. -/
mutual
def uptoBulk {H : Type} : DataW H → Nat
  | .lit (.string bytes) => bytes.length + 1
  | .lit _ => 1
  | .nil => 1
  | .ptr d => uptoBulk d + 1
  | .slice elems spare => uptoBulkAll elems + uptoBulkAll spare + 1
  | .agg parts => uptoBulkAll parts + 1
  | .iface _ d => uptoBulk d + 1
  | .map entries => uptoBulkEntries entries + 1
  | .held _ => 1
def uptoBulkAll {H : Type} : List (DataW H) → Nat
  | [] => 0
  | d :: r => uptoBulk d + uptoBulkAll r
def uptoBulkEntries {H : Type} : List (Lit × DataW H) → Nat
  | [] => 0
  | x :: r => uptoBulkEntry x + uptoBulkEntries r
def uptoBulkEntry {H : Type} : Lit × DataW H → Nat
  | (.string bytes, d) => bytes.length + uptoBulk d + 1
  | (_, d) => uptoBulk d + 1
 end
def uptoSmall : (H : Type) → List (DataW H) → Bool := fun _ ds => decide (uptoBulkAll ds ≤ 1048576)
def OpenSpec.upto (s : _root_.Go.ChangeSpec) : _root_.Go.OpenSpec := { _root_.Go.OpenSpec.ofChange s with cond := some uptoSmall }

/-- 'tripwirelaw15.TypesTexts', WHERE WHAT IT READS IS OF BULK AT MOST 1048576: true; the input reads as it did. -/
def typesTextsUptoRow : OpenClaim := { program := "ytoogodlnnijikaagreatdoor", sum := "432a05ed2cdd53452e96a1991386e092553e400ca909953acfb35916c4ab8f34", func := "tripwire/tripwirelaw15.TypesTexts", spec := "typesTexts", inPlace := ["internal/bytealg.IndexByteString", "internal/reflectlite.ValueOf", "(internal/reflectlite.Value).Type", "(internal/reflectlite.Value).IsNil", "internal/reflectlite.TypeOf", "(internal/reflectlite.Value).Elem", "(internal/reflectlite.Value).Set"], unfollowed := true, recurses := true, named := ["tripwire/lex.words", "tripwire/types.fieldTypes", "errors.errorType"], apart := false, laid := [("errors.errorType", laid_errors_errorType), ("tripwire/lex.words", laid_tripwire_lex_words), ("tripwire/types.fieldTypes", laid_tripwire_types_fieldTypes)], narrowed := true }
def TypesTextsUptoSaid : Prop := typesTextsUptoRow.holds Tryz.pinned (OpenSpec.upto typesTextsSpec)

/-- 'tripwirelaw15.TypesOfs', WHERE WHAT IT READS IS OF BULK AT MOST 1048576: true; the input reads as it did. -/
def typesOfsUptoRow : OpenClaim := { program := "ytoogodlnnijikaagreatdoor", sum := "432a05ed2cdd53452e96a1991386e092553e400ca909953acfb35916c4ab8f34", func := "tripwire/tripwirelaw15.TypesOfs", spec := "typesOfs", inPlace := ["internal/bytealg.IndexByteString", "internal/reflectlite.ValueOf", "(internal/reflectlite.Value).Type", "(internal/reflectlite.Value).IsNil", "internal/reflectlite.TypeOf", "(internal/reflectlite.Value).Elem", "(internal/reflectlite.Value).Set"], unfollowed := true, recurses := true, named := ["tripwire/lex.words", "tripwire/types.fieldTypes", "errors.errorType"], loops := true, apart := false, laid := [("errors.errorType", laid_errors_errorType), ("tripwire/lex.words", laid_tripwire_lex_words), ("tripwire/types.fieldTypes", laid_tripwire_types_fieldTypes)], narrowed := true }
def TypesOfsUptoSaid : Prop := typesOfsUptoRow.holds Tryz.pinned (OpenSpec.upto typesOfsSpec)

/-- 'tripwirelaw15.TypesParts', WHERE WHAT IT READS IS OF BULK AT MOST 1048576: true; the input reads as it did. -/
def typesPartsUptoRow : OpenClaim := { program := "ytoogodlnnijikaagreatdoor", sum := "432a05ed2cdd53452e96a1991386e092553e400ca909953acfb35916c4ab8f34", func := "tripwire/tripwirelaw15.TypesParts", spec := "typesParts", inPlace := ["internal/bytealg.IndexByteString", "internal/reflectlite.ValueOf", "(internal/reflectlite.Value).Type", "(internal/reflectlite.Value).IsNil", "internal/reflectlite.TypeOf", "(internal/reflectlite.Value).Elem", "(internal/reflectlite.Value).Set"], unfollowed := true, recurses := true, named := ["tripwire/lex.words", "tripwire/types.fieldTypes", "errors.errorType"], loops := true, apart := false, laid := [("errors.errorType", laid_errors_errorType), ("tripwire/lex.words", laid_tripwire_lex_words), ("tripwire/types.fieldTypes", laid_tripwire_types_fieldTypes)], narrowed := true }
def TypesPartsUptoSaid : Prop := typesPartsUptoRow.holds Tryz.pinned (OpenSpec.upto typesPartsSpec)

/-- 'tripwirelaw15.TypesNames', WHERE WHAT IT READS IS OF BULK AT MOST 1048576: true; the input reads as it did. -/
def typesNamesUptoRow : OpenClaim := { program := "ytoogodlnnijikaagreatdoor", sum := "432a05ed2cdd53452e96a1991386e092553e400ca909953acfb35916c4ab8f34", func := "tripwire/tripwirelaw15.TypesNames", spec := "typesNames", inPlace := ["internal/bytealg.IndexByteString", "internal/reflectlite.ValueOf", "(internal/reflectlite.Value).Type", "(internal/reflectlite.Value).IsNil", "internal/reflectlite.TypeOf", "(internal/reflectlite.Value).Elem", "(internal/reflectlite.Value).Set"], unfollowed := true, recurses := true, named := ["tripwire/lex.words", "tripwire/types.fieldTypes", "errors.errorType"], loops := true, apart := false, laid := [("errors.errorType", laid_errors_errorType), ("tripwire/lex.words", laid_tripwire_lex_words), ("tripwire/types.fieldTypes", laid_tripwire_types_fieldTypes)], narrowed := true }
def TypesNamesUptoSaid : Prop := typesNamesUptoRow.holds Tryz.pinned (OpenSpec.upto typesNamesSpec)

/-- 'tripwirelaw15.TypesTwice', WHERE WHAT IT READS IS OF BULK AT MOST 1048576: true; the input reads as it did. -/
def typesTwiceUptoRow : OpenClaim := { program := "ytoogodlnnijikaagreatdoor", sum := "432a05ed2cdd53452e96a1991386e092553e400ca909953acfb35916c4ab8f34", func := "tripwire/tripwirelaw15.TypesTwice", spec := "typesTwice", inPlace := ["internal/bytealg.IndexByteString", "internal/reflectlite.ValueOf", "(internal/reflectlite.Value).Type", "(internal/reflectlite.Value).IsNil", "internal/reflectlite.TypeOf", "(internal/reflectlite.Value).Elem", "(internal/reflectlite.Value).Set"], unfollowed := true, recurses := true, named := ["tripwire/lex.words", "tripwire/types.fieldTypes", "errors.errorType"], loops := true, apart := false, laid := [("errors.errorType", laid_errors_errorType), ("tripwire/lex.words", laid_tripwire_lex_words), ("tripwire/types.fieldTypes", laid_tripwire_types_fieldTypes)], narrowed := true }
def TypesTwiceUptoSaid : Prop := typesTwiceUptoRow.holds Tryz.pinned (OpenSpec.upto typesTwiceSpec)

end Rows
end Go.Proofs.YtoogodlnnijikaaGreatDoor
