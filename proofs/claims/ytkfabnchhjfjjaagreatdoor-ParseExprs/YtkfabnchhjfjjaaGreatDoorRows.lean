/-
  NARROWER THAN 'FOR EVERY INPUT', by the rows' own cells (each row's printed sentence says how): ParseStrategies: laid · ParseExprs: laid · ParseChains: laid · ParseWraps: laid · ParseWrongs: laid · ParseSound: laid.
  DERIVED. THE GIVEN ROWS OF THIS SEAT. 6 by the template 'for every input the law returns true; each argument reads behind the call as it read before'; 0 by the template 'total and deterministic' (their statements: YtkfabnchhjfjjaaGreatDoorTotals.lean).
  GIVEN WITH THE SEED: the statements are not yours to turn. If you find one false, say at which input.
  Laid BY PROGRAM, IN A SANDBOX (cutbox-rows.mjs): the forced cells as the released guide's own fill.sh prints them over the translation 88b55211cc3c9c72… (all of the seat's roots in one cut). By AI agents, Wed Nov 11 2026. No macro, syntax, notation, axiom, sorry.
-/
import Derived.Test.YtkfabnchhjfjjaaGreatDoorChecked
import GoSem.Claim
import GoSem.ClaimJoined
import GoSem.ClaimMapViews
import Derived.JoinedTies
import Derived.KernelRfl
namespace Go.Proofs.YtkfabnchhjfjjaaGreatDoor
/- THE CELL 'sum', in the pinned program and in every row, IS THE sha256 OF THE DUMP (.gsa) THAT YtkfabnchhjfjjaaGreatDoorProg.lean LOADS. Nothing in Lean hashes anything: it is a label: what it is worth is what the hold of that sum in a sandbox is worth. -/
noncomputable def Tryz.pinned : Pinned := { name := "ytkfabnchhjfjjaagreatdoor", sum := "88b55211cc3c9c72fcb4227f17db213f814dcaa10d2acae45541e16f33c811bb", checked := Tryz.checked }
namespace Rows
def none {H : Type} : Left H := { results := [], args := [] }

/- WHAT THE LISTED PACKAGE-LEVEL VARIABLES READ AS WHEN THE CALL BEGINS. Each datum BY PROGRAM (the guide's laid-datum.mjs) off the statement by which the dump's own 'gosem.cut.vars' lays the variable. In a bare row this is a premise. The card (YtkfabnchhjfjjaaGreatDoorCards.lean) ties it to the program's text. -/
def laid_errors_errorType {H : Type} : DataW H := .iface "internal/reflectlite.rtype" (.agg [.ptr (.lit (.string [101, 114, 114, 111, 114]))])
def laid_tripwire_lex_words {H : Type} : DataW H := .agg [.lit (.string [97, 98, 115]), .lit (.string [97, 109, 101, 110, 100]), .lit (.string [97, 115]), .lit (.string [97, 115, 107]), .lit (.string [97, 116]), .lit (.string [98, 105, 100]), .lit (.string [98, 111, 111, 108]), .lit (.string [98, 117, 121]), .lit (.string [99, 97, 110, 99, 101, 108]), .lit (.string [100, 111]), .lit (.string [102, 97, 108, 115, 101]), .lit (.string [102, 111, 107]), .lit (.string [103, 111, 116, 111]), .lit (.string [104, 97, 108, 116]), .lit (.string [104, 97, 115]), .lit (.string [105, 110, 116]), .lit (.string [105, 111, 99]), .lit (.string [108, 97, 115, 116]), .lit (.string [108, 105, 109, 105, 116]), .lit (.string [109, 97, 114, 107, 101, 116]), .lit (.string [109, 97, 120]), .lit (.string [109, 105, 110]), .lit (.string [110, 111, 119]), .lit (.string [111, 102]), .lit (.string [111, 112, 101, 110]), .lit (.string [112, 111, 115, 116]), .lit (.string [112, 114, 105, 99, 101]), .lit (.string [113, 116, 121]), .lit (.string [114, 101, 103]), .lit (.string [115, 101, 108, 108]), .lit (.string [115, 101, 116]), .lit (.string [115, 105, 100, 101]), .lit (.string [115, 108, 111, 116]), .lit (.string [115, 116, 97, 116, 101]), .lit (.string [115, 116, 114, 97, 116, 101, 103, 121]), .lit (.string [115, 117, 98, 109, 105, 116]), .lit (.string [116, 105, 109, 101]), .lit (.string [116, 111]), .lit (.string [116, 114, 117, 101]), .lit (.string [118, 111, 108, 117, 109, 101]), .lit (.string [119, 104, 101, 110])]

/-- 'tripwirelaw13.ParseStrategies': WHATEVER THE INPUT: true; the input reads as it did. -/
def parseStrategiesSpec : ChangeSpec := { name := "parseStrategies", fn := fun _ => fun
  | [d1, d2] => { results := [.lit (.bool true)], args := [d1, d2] }
  | _ => none }
def parseStrategiesRow : OpenClaim := { program := "ytkfabnchhjfjjaagreatdoor", sum := "88b55211cc3c9c72fcb4227f17db213f814dcaa10d2acae45541e16f33c811bb", func := "tripwire/tripwirelaw13.ParseStrategies", spec := "parseStrategies", inPlace := ["internal/bytealg.IndexByteString", "internal/reflectlite.ValueOf", "(internal/reflectlite.Value).Type", "(internal/reflectlite.Value).IsNil", "internal/reflectlite.TypeOf", "(internal/reflectlite.Value).Elem", "(internal/reflectlite.Value).Set"], unfollowed := true, recurses := true, named := ["tripwire/lex.words", "errors.errorType"], apart := false, laid := [("errors.errorType", laid_errors_errorType), ("tripwire/lex.words", laid_tripwire_lex_words)] }
def ParseStrategiesSaid : Prop := parseStrategiesRow.holds Tryz.pinned (OpenSpec.ofChange parseStrategiesSpec)

/-- ITS FALSE NEIGHBOUR: 'it returns false'. Refute it at one input. -/
def parseStrategiesWrong : ChangeSpec := { name := "parseStrategies", fn := fun _ => fun
  | [d1, d2] => { results := [.lit (.bool false)], args := [d1, d2] }
  | _ => none }
def ParseStrategiesWrongFalsely : Prop := parseStrategiesRow.holds Tryz.pinned (OpenSpec.ofChange parseStrategiesWrong)

/-- 'tripwirelaw13.ParseExprs': WHATEVER THE INPUT: true; the input reads as it did. -/
def parseExprsSpec : ChangeSpec := { name := "parseExprs", fn := fun _ => fun
  | [d1, d2] => { results := [.lit (.bool true)], args := [d1, d2] }
  | _ => none }
def parseExprsRow : OpenClaim := { program := "ytkfabnchhjfjjaagreatdoor", sum := "88b55211cc3c9c72fcb4227f17db213f814dcaa10d2acae45541e16f33c811bb", func := "tripwire/tripwirelaw13.ParseExprs", spec := "parseExprs", inPlace := ["internal/bytealg.IndexByteString", "internal/reflectlite.ValueOf", "(internal/reflectlite.Value).Type", "(internal/reflectlite.Value).IsNil", "internal/reflectlite.TypeOf", "(internal/reflectlite.Value).Elem", "(internal/reflectlite.Value).Set"], unfollowed := true, recurses := true, named := ["tripwire/lex.words", "errors.errorType"], apart := false, laid := [("errors.errorType", laid_errors_errorType), ("tripwire/lex.words", laid_tripwire_lex_words)] }
def ParseExprsSaid : Prop := parseExprsRow.holds Tryz.pinned (OpenSpec.ofChange parseExprsSpec)

/-- ITS FALSE NEIGHBOUR: 'it returns false'. Refute it at one input. -/
def parseExprsWrong : ChangeSpec := { name := "parseExprs", fn := fun _ => fun
  | [d1, d2] => { results := [.lit (.bool false)], args := [d1, d2] }
  | _ => none }
def ParseExprsWrongFalsely : Prop := parseExprsRow.holds Tryz.pinned (OpenSpec.ofChange parseExprsWrong)

/-- 'tripwirelaw13.ParseChains': WHATEVER THE INPUT: true; the input reads as it did. -/
def parseChainsSpec : ChangeSpec := { name := "parseChains", fn := fun _ => fun
  | [d] => { results := [.lit (.bool true)], args := [d] }
  | _ => none }
def parseChainsRow : OpenClaim := { program := "ytkfabnchhjfjjaagreatdoor", sum := "88b55211cc3c9c72fcb4227f17db213f814dcaa10d2acae45541e16f33c811bb", func := "tripwire/tripwirelaw13.ParseChains", spec := "parseChains", inPlace := ["internal/bytealg.IndexByteString", "internal/reflectlite.ValueOf", "(internal/reflectlite.Value).Type", "(internal/reflectlite.Value).IsNil", "internal/reflectlite.TypeOf", "(internal/reflectlite.Value).Elem", "(internal/reflectlite.Value).Set"], unfollowed := true, recurses := true, named := ["tripwire/lex.words", "errors.errorType"], apart := false, laid := [("errors.errorType", laid_errors_errorType), ("tripwire/lex.words", laid_tripwire_lex_words)] }
def ParseChainsSaid : Prop := parseChainsRow.holds Tryz.pinned (OpenSpec.ofChange parseChainsSpec)

/-- ITS FALSE NEIGHBOUR: 'it returns false'. Refute it at one input. -/
def parseChainsWrong : ChangeSpec := { name := "parseChains", fn := fun _ => fun
  | [d] => { results := [.lit (.bool false)], args := [d] }
  | _ => none }
def ParseChainsWrongFalsely : Prop := parseChainsRow.holds Tryz.pinned (OpenSpec.ofChange parseChainsWrong)

/-- 'tripwirelaw13.ParseWraps': WHATEVER THE INPUT: true; the input reads as it did. -/
def parseWrapsSpec : ChangeSpec := { name := "parseWraps", fn := fun _ => fun
  | [d] => { results := [.lit (.bool true)], args := [d] }
  | _ => none }
def parseWrapsRow : OpenClaim := { program := "ytkfabnchhjfjjaagreatdoor", sum := "88b55211cc3c9c72fcb4227f17db213f814dcaa10d2acae45541e16f33c811bb", func := "tripwire/tripwirelaw13.ParseWraps", spec := "parseWraps", inPlace := ["internal/bytealg.IndexByteString", "internal/reflectlite.ValueOf", "(internal/reflectlite.Value).Type", "(internal/reflectlite.Value).IsNil", "internal/reflectlite.TypeOf", "(internal/reflectlite.Value).Elem", "(internal/reflectlite.Value).Set"], unfollowed := true, recurses := true, named := ["tripwire/lex.words", "errors.errorType"], apart := false, laid := [("errors.errorType", laid_errors_errorType), ("tripwire/lex.words", laid_tripwire_lex_words)] }
def ParseWrapsSaid : Prop := parseWrapsRow.holds Tryz.pinned (OpenSpec.ofChange parseWrapsSpec)

/-- ITS FALSE NEIGHBOUR: 'it returns false'. Refute it at one input. -/
def parseWrapsWrong : ChangeSpec := { name := "parseWraps", fn := fun _ => fun
  | [d] => { results := [.lit (.bool false)], args := [d] }
  | _ => none }
def ParseWrapsWrongFalsely : Prop := parseWrapsRow.holds Tryz.pinned (OpenSpec.ofChange parseWrapsWrong)

/-- 'tripwirelaw13.ParseWrongs': WHATEVER THE INPUT: true; the input reads as it did. -/
def parseWrongsSpec : ChangeSpec := { name := "parseWrongs", fn := fun _ => fun
  | [d1, d2, d3, d4] => { results := [.lit (.bool true)], args := [d1, d2, d3, d4] }
  | _ => none }
def parseWrongsRow : OpenClaim := { program := "ytkfabnchhjfjjaagreatdoor", sum := "88b55211cc3c9c72fcb4227f17db213f814dcaa10d2acae45541e16f33c811bb", func := "tripwire/tripwirelaw13.ParseWrongs", spec := "parseWrongs", inPlace := ["internal/bytealg.IndexByteString", "internal/reflectlite.ValueOf", "(internal/reflectlite.Value).Type", "(internal/reflectlite.Value).IsNil", "internal/reflectlite.TypeOf", "(internal/reflectlite.Value).Elem", "(internal/reflectlite.Value).Set"], unfollowed := true, recurses := true, named := ["tripwire/lex.words", "errors.errorType"], apart := false, laid := [("errors.errorType", laid_errors_errorType), ("tripwire/lex.words", laid_tripwire_lex_words)] }
def ParseWrongsSaid : Prop := parseWrongsRow.holds Tryz.pinned (OpenSpec.ofChange parseWrongsSpec)

/-- ITS FALSE NEIGHBOUR: 'it returns false'. Refute it at one input. -/
def parseWrongsWrong : ChangeSpec := { name := "parseWrongs", fn := fun _ => fun
  | [d1, d2, d3, d4] => { results := [.lit (.bool false)], args := [d1, d2, d3, d4] }
  | _ => none }
def ParseWrongsWrongFalsely : Prop := parseWrongsRow.holds Tryz.pinned (OpenSpec.ofChange parseWrongsWrong)

/-- 'tripwirelaw13.ParseSound': WHATEVER THE INPUT: true; the input reads as it did. -/
def parseSoundSpec : ChangeSpec := { name := "parseSound", fn := fun _ => fun
  | [d1, d2] => { results := [.lit (.bool true)], args := [d1, d2] }
  | _ => none }
def parseSoundRow : OpenClaim := { program := "ytkfabnchhjfjjaagreatdoor", sum := "88b55211cc3c9c72fcb4227f17db213f814dcaa10d2acae45541e16f33c811bb", func := "tripwire/tripwirelaw13.ParseSound", spec := "parseSound", inPlace := ["internal/bytealg.IndexByteString", "internal/reflectlite.ValueOf", "(internal/reflectlite.Value).Type", "(internal/reflectlite.Value).IsNil", "internal/reflectlite.TypeOf", "(internal/reflectlite.Value).Elem", "(internal/reflectlite.Value).Set"], unfollowed := true, recurses := true, named := ["tripwire/lex.words", "errors.errorType"], apart := false, laid := [("errors.errorType", laid_errors_errorType), ("tripwire/lex.words", laid_tripwire_lex_words)] }
def ParseSoundSaid : Prop := parseSoundRow.holds Tryz.pinned (OpenSpec.ofChange parseSoundSpec)

/-- ITS FALSE NEIGHBOUR: 'it returns false'. Refute it at one input. -/
def parseSoundWrong : ChangeSpec := { name := "parseSound", fn := fun _ => fun
  | [d1, d2] => { results := [.lit (.bool false)], args := [d1, d2] }
  | _ => none }
def ParseSoundWrongFalsely : Prop := parseSoundRow.holds Tryz.pinned (OpenSpec.ofChange parseSoundWrong)

/- THE SECOND FORM. 'bulk': how many values and letters a reading holds, each counted each time it is reached (what is shared counts as often as it is met; a slice's spare places count too). A statement '..UptoSaid' is the law's where the arguments, and the package variables that the reading takes, are together of bulk at most 1048576: NARROWER than '..Said'. Prove '..Said' where nothing that the law and all that it calls make is longer than what came in: it says more and counts as full. Else prove '..UptoSaid'. A law counts once. -/
mutual
def uptoBulk {H : Type} : DataW H → Nat
  | .lit (.string bytes) => bytes.length + 1
  | .lit _ => 1
  | .nil => 1
  | .ptr d => uptoBulk d + 1
  | .slice elems spare => uptoBulkAll elems + uptoBulkAll spare + 1
  | .agg parts => uptoBulkAll parts + 1
  | .iface _ d => uptoBulk d + 1
  | .map entries => uptoBulkEntries entries + 1
  | .held _ => 1
def uptoBulkAll {H : Type} : List (DataW H) → Nat
  | [] => 0
  | d :: r => uptoBulk d + uptoBulkAll r
def uptoBulkEntries {H : Type} : List (Lit × DataW H) → Nat
  | [] => 0
  | x :: r => uptoBulkEntry x + uptoBulkEntries r
def uptoBulkEntry {H : Type} : Lit × DataW H → Nat
  | (.string bytes, d) => bytes.length + uptoBulk d + 1
  | (_, d) => uptoBulk d + 1
 end
def uptoSmall : (H : Type) → List (DataW H) → Bool := fun _ ds => decide (uptoBulkAll ds ≤ 1048576)
def OpenSpec.upto (s : _root_.Go.ChangeSpec) : _root_.Go.OpenSpec := { _root_.Go.OpenSpec.ofChange s with cond := some uptoSmall }

/-- 'tripwirelaw13.ParseStrategies', WHERE WHAT IT READS IS OF BULK AT MOST 1048576: true; the input reads as it did. -/
def parseStrategiesUptoRow : OpenClaim := { program := "ytkfabnchhjfjjaagreatdoor", sum := "88b55211cc3c9c72fcb4227f17db213f814dcaa10d2acae45541e16f33c811bb", func := "tripwire/tripwirelaw13.ParseStrategies", spec := "parseStrategies", inPlace := ["internal/bytealg.IndexByteString", "internal/reflectlite.ValueOf", "(internal/reflectlite.Value).Type", "(internal/reflectlite.Value).IsNil", "internal/reflectlite.TypeOf", "(internal/reflectlite.Value).Elem", "(internal/reflectlite.Value).Set"], unfollowed := true, recurses := true, named := ["tripwire/lex.words", "errors.errorType"], apart := false, laid := [("errors.errorType", laid_errors_errorType), ("tripwire/lex.words", laid_tripwire_lex_words)], narrowed := true }
def ParseStrategiesUptoSaid : Prop := parseStrategiesUptoRow.holds Tryz.pinned (OpenSpec.upto parseStrategiesSpec)

/-- 'tripwirelaw13.ParseExprs', WHERE WHAT IT READS IS OF BULK AT MOST 1048576: true; the input reads as it did. -/
def parseExprsUptoRow : OpenClaim := { program := "ytkfabnchhjfjjaagreatdoor", sum := "88b55211cc3c9c72fcb4227f17db213f814dcaa10d2acae45541e16f33c811bb", func := "tripwire/tripwirelaw13.ParseExprs", spec := "parseExprs", inPlace := ["internal/bytealg.IndexByteString", "internal/reflectlite.ValueOf", "(internal/reflectlite.Value).Type", "(internal/reflectlite.Value).IsNil", "internal/reflectlite.TypeOf", "(internal/reflectlite.Value).Elem", "(internal/reflectlite.Value).Set"], unfollowed := true, recurses := true, named := ["tripwire/lex.words", "errors.errorType"], apart := false, laid := [("errors.errorType", laid_errors_errorType), ("tripwire/lex.words", laid_tripwire_lex_words)], narrowed := true }
def ParseExprsUptoSaid : Prop := parseExprsUptoRow.holds Tryz.pinned (OpenSpec.upto parseExprsSpec)

/-- 'tripwirelaw13.ParseChains', WHERE WHAT IT READS IS OF BULK AT MOST 1048576: true; the input reads as it did. -/
def parseChainsUptoRow : OpenClaim := { program := "ytkfabnchhjfjjaagreatdoor", sum := "88b55211cc3c9c72fcb4227f17db213f814dcaa10d2acae45541e16f33c811bb", func := "tripwire/tripwirelaw13.ParseChains", spec := "parseChains", inPlace := ["internal/bytealg.IndexByteString", "internal/reflectlite.ValueOf", "(internal/reflectlite.Value).Type", "(internal/reflectlite.Value).IsNil", "internal/reflectlite.TypeOf", "(internal/reflectlite.Value).Elem", "(internal/reflectlite.Value).Set"], unfollowed := true, recurses := true, named := ["tripwire/lex.words", "errors.errorType"], apart := false, laid := [("errors.errorType", laid_errors_errorType), ("tripwire/lex.words", laid_tripwire_lex_words)], narrowed := true }
def ParseChainsUptoSaid : Prop := parseChainsUptoRow.holds Tryz.pinned (OpenSpec.upto parseChainsSpec)

/-- 'tripwirelaw13.ParseWraps', WHERE WHAT IT READS IS OF BULK AT MOST 1048576: true; the input reads as it did. -/
def parseWrapsUptoRow : OpenClaim := { program := "ytkfabnchhjfjjaagreatdoor", sum := "88b55211cc3c9c72fcb4227f17db213f814dcaa10d2acae45541e16f33c811bb", func := "tripwire/tripwirelaw13.ParseWraps", spec := "parseWraps", inPlace := ["internal/bytealg.IndexByteString", "internal/reflectlite.ValueOf", "(internal/reflectlite.Value).Type", "(internal/reflectlite.Value).IsNil", "internal/reflectlite.TypeOf", "(internal/reflectlite.Value).Elem", "(internal/reflectlite.Value).Set"], unfollowed := true, recurses := true, named := ["tripwire/lex.words", "errors.errorType"], apart := false, laid := [("errors.errorType", laid_errors_errorType), ("tripwire/lex.words", laid_tripwire_lex_words)], narrowed := true }
def ParseWrapsUptoSaid : Prop := parseWrapsUptoRow.holds Tryz.pinned (OpenSpec.upto parseWrapsSpec)

/-- 'tripwirelaw13.ParseWrongs', WHERE WHAT IT READS IS OF BULK AT MOST 1048576: true; the input reads as it did. -/
def parseWrongsUptoRow : OpenClaim := { program := "ytkfabnchhjfjjaagreatdoor", sum := "88b55211cc3c9c72fcb4227f17db213f814dcaa10d2acae45541e16f33c811bb", func := "tripwire/tripwirelaw13.ParseWrongs", spec := "parseWrongs", inPlace := ["internal/bytealg.IndexByteString", "internal/reflectlite.ValueOf", "(internal/reflectlite.Value).Type", "(internal/reflectlite.Value).IsNil", "internal/reflectlite.TypeOf", "(internal/reflectlite.Value).Elem", "(internal/reflectlite.Value).Set"], unfollowed := true, recurses := true, named := ["tripwire/lex.words", "errors.errorType"], apart := false, laid := [("errors.errorType", laid_errors_errorType), ("tripwire/lex.words", laid_tripwire_lex_words)], narrowed := true }
def ParseWrongsUptoSaid : Prop := parseWrongsUptoRow.holds Tryz.pinned (OpenSpec.upto parseWrongsSpec)

/-- 'tripwirelaw13.ParseSound', WHERE WHAT IT READS IS OF BULK AT MOST 1048576: true; the input reads as it did. -/
def parseSoundUptoRow : OpenClaim := { program := "ytkfabnchhjfjjaagreatdoor", sum := "88b55211cc3c9c72fcb4227f17db213f814dcaa10d2acae45541e16f33c811bb", func := "tripwire/tripwirelaw13.ParseSound", spec := "parseSound", inPlace := ["internal/bytealg.IndexByteString", "internal/reflectlite.ValueOf", "(internal/reflectlite.Value).Type", "(internal/reflectlite.Value).IsNil", "internal/reflectlite.TypeOf", "(internal/reflectlite.Value).Elem", "(internal/reflectlite.Value).Set"], unfollowed := true, recurses := true, named := ["tripwire/lex.words", "errors.errorType"], apart := false, laid := [("errors.errorType", laid_errors_errorType), ("tripwire/lex.words", laid_tripwire_lex_words)], narrowed := true }
def ParseSoundUptoSaid : Prop := parseSoundUptoRow.holds Tryz.pinned (OpenSpec.upto parseSoundSpec)

end Rows
end Go.Proofs.YtkfabnchhjfjjaaGreatDoor
