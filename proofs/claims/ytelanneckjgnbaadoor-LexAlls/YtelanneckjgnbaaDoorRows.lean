/-
  NARROWER THAN 'FOR EVERY INPUT', by the rows' own cells (each row's printed sentence says how): LexTokens: laid · LexNexts: laid · LexAlls: laid · LexWords: laid · LexPieces: laid · LexJoined: laid.
  DERIVED. THE GIVEN ROWS OF THIS SEAT. 6 by the template 'for every input the law returns true; each argument reads behind the call as it read before'; 0 by the template 'total and deterministic' (their statements: YtelanneckjgnbaaDoorTotals.lean).
  GIVEN WITH THE SEED: the statements are not yours to turn. If you find one false, say at which input.
  Laid BY PROGRAM, IN A SANDBOX (cutbox-rows.mjs): the forced cells as the released guide's own fill.sh prints them over the translation f367e74bec148b7d… (all of the seat's roots in one cut). By AI agents, Wed Nov 11 2026. No macro, syntax, notation, axiom, sorry.
-/
import Derived.Test.YtelanneckjgnbaaDoorChecked
import GoSem.Claim
import GoSem.ClaimJoined
import GoSem.ClaimMapViews
import Derived.JoinedTies
import Derived.KernelRfl
namespace Go.Proofs.YtelanneckjgnbaaDoor
/- THE CELL 'sum', in the pinned program and in every row, IS THE sha256 OF THE DUMP (.gsa) THAT YtelanneckjgnbaaDoorProg.lean LOADS. Nothing in Lean hashes anything: it is a label: what it is worth is what the hold of that sum in a sandbox is worth. -/
noncomputable def Tryd.pinned : Pinned := { name := "ytelanneckjgnbaadoor", sum := "f367e74bec148b7d85e15c82ae83e03bfd40b8d8a734b447547f8634722c1764", checked := Tryd.checked }
namespace Rows
def none {H : Type} : Left H := { results := [], args := [] }

/- WHAT THE LISTED PACKAGE-LEVEL VARIABLES READ AS WHEN THE CALL BEGINS. Each datum BY PROGRAM (the guide's laid-datum.mjs) off the statement by which the dump's own 'gosem.cut.vars' lays the variable. In a bare row this is a premise. The card (YtelanneckjgnbaaDoorCards.lean) ties it to the program's text. -/
def laid_tripwire_lex_words {H : Type} : DataW H := .agg [.lit (.string [97, 98, 115]), .lit (.string [97, 109, 101, 110, 100]), .lit (.string [97, 115]), .lit (.string [97, 115, 107]), .lit (.string [97, 116]), .lit (.string [98, 105, 100]), .lit (.string [98, 111, 111, 108]), .lit (.string [98, 117, 121]), .lit (.string [99, 97, 110, 99, 101, 108]), .lit (.string [100, 111]), .lit (.string [102, 97, 108, 115, 101]), .lit (.string [102, 111, 107]), .lit (.string [103, 111, 116, 111]), .lit (.string [104, 97, 108, 116]), .lit (.string [104, 97, 115]), .lit (.string [105, 110, 116]), .lit (.string [105, 111, 99]), .lit (.string [108, 97, 115, 116]), .lit (.string [108, 105, 109, 105, 116]), .lit (.string [109, 97, 114, 107, 101, 116]), .lit (.string [109, 97, 120]), .lit (.string [109, 105, 110]), .lit (.string [110, 111, 119]), .lit (.string [111, 102]), .lit (.string [111, 112, 101, 110]), .lit (.string [112, 111, 115, 116]), .lit (.string [112, 114, 105, 99, 101]), .lit (.string [113, 116, 121]), .lit (.string [114, 101, 103]), .lit (.string [115, 101, 108, 108]), .lit (.string [115, 101, 116]), .lit (.string [115, 105, 100, 101]), .lit (.string [115, 108, 111, 116]), .lit (.string [115, 116, 97, 116, 101]), .lit (.string [115, 116, 114, 97, 116, 101, 103, 121]), .lit (.string [115, 117, 98, 109, 105, 116]), .lit (.string [116, 105, 109, 101]), .lit (.string [116, 111]), .lit (.string [116, 114, 117, 101]), .lit (.string [118, 111, 108, 117, 109, 101]), .lit (.string [119, 104, 101, 110])]

/-- 'tripwirelaw11.LexTokens': WHATEVER THE INPUT: true; the input reads as it did. -/
def lexTokensSpec : ChangeSpec := { name := "lexTokens", fn := fun _ => fun
  | [d1, d2] => { results := [.lit (.bool true)], args := [d1, d2] }
  | _ => none }
def lexTokensRow : OpenClaim := { program := "ytelanneckjgnbaadoor", sum := "f367e74bec148b7d85e15c82ae83e03bfd40b8d8a734b447547f8634722c1764", func := "tripwire/tripwirelaw11.LexTokens", spec := "lexTokens", inPlace := ["internal/bytealg.IndexByteString"], unfollowed := true, recurses := true, named := ["tripwire/lex.words"], apart := false, laid := [("tripwire/lex.words", laid_tripwire_lex_words)] }
def LexTokensSaid : Prop := lexTokensRow.holds Tryd.pinned (OpenSpec.ofChange lexTokensSpec)

/-- ITS FALSE NEIGHBOUR: 'it returns false'. Refute it at one input. -/
def lexTokensWrong : ChangeSpec := { name := "lexTokens", fn := fun _ => fun
  | [d1, d2] => { results := [.lit (.bool false)], args := [d1, d2] }
  | _ => none }
def LexTokensWrongFalsely : Prop := lexTokensRow.holds Tryd.pinned (OpenSpec.ofChange lexTokensWrong)

/-- 'tripwirelaw11.LexNexts': WHATEVER THE INPUT: true; the input reads as it did. -/
def lexNextsSpec : ChangeSpec := { name := "lexNexts", fn := fun _ => fun
  | [d1, d2] => { results := [.lit (.bool true)], args := [d1, d2] }
  | _ => none }
def lexNextsRow : OpenClaim := { program := "ytelanneckjgnbaadoor", sum := "f367e74bec148b7d85e15c82ae83e03bfd40b8d8a734b447547f8634722c1764", func := "tripwire/tripwirelaw11.LexNexts", spec := "lexNexts", inPlace := ["internal/bytealg.IndexByteString"], unfollowed := true, recurses := true, named := ["tripwire/lex.words"], apart := false, laid := [("tripwire/lex.words", laid_tripwire_lex_words)] }
def LexNextsSaid : Prop := lexNextsRow.holds Tryd.pinned (OpenSpec.ofChange lexNextsSpec)

/-- ITS FALSE NEIGHBOUR: 'it returns false'. Refute it at one input. -/
def lexNextsWrong : ChangeSpec := { name := "lexNexts", fn := fun _ => fun
  | [d1, d2] => { results := [.lit (.bool false)], args := [d1, d2] }
  | _ => none }
def LexNextsWrongFalsely : Prop := lexNextsRow.holds Tryd.pinned (OpenSpec.ofChange lexNextsWrong)

/-- 'tripwirelaw11.LexAlls': WHATEVER THE INPUT: true; the input reads as it did. -/
def lexAllsSpec : ChangeSpec := { name := "lexAlls", fn := fun _ => fun
  | [d1, d2] => { results := [.lit (.bool true)], args := [d1, d2] }
  | _ => none }
def lexAllsRow : OpenClaim := { program := "ytelanneckjgnbaadoor", sum := "f367e74bec148b7d85e15c82ae83e03bfd40b8d8a734b447547f8634722c1764", func := "tripwire/tripwirelaw11.LexAlls", spec := "lexAlls", inPlace := ["internal/bytealg.IndexByteString"], unfollowed := true, recurses := true, named := ["tripwire/lex.words"], apart := false, laid := [("tripwire/lex.words", laid_tripwire_lex_words)] }
def LexAllsSaid : Prop := lexAllsRow.holds Tryd.pinned (OpenSpec.ofChange lexAllsSpec)

/-- ITS FALSE NEIGHBOUR: 'it returns false'. Refute it at one input. -/
def lexAllsWrong : ChangeSpec := { name := "lexAlls", fn := fun _ => fun
  | [d1, d2] => { results := [.lit (.bool false)], args := [d1, d2] }
  | _ => none }
def LexAllsWrongFalsely : Prop := lexAllsRow.holds Tryd.pinned (OpenSpec.ofChange lexAllsWrong)

/-- 'tripwirelaw11.LexWords': WHATEVER THE INPUT: true; the input reads as it did. -/
def lexWordsSpec : ChangeSpec := { name := "lexWords", fn := fun _ => fun
  | [d] => { results := [.lit (.bool true)], args := [d] }
  | _ => none }
def lexWordsRow : OpenClaim := { program := "ytelanneckjgnbaadoor", sum := "f367e74bec148b7d85e15c82ae83e03bfd40b8d8a734b447547f8634722c1764", func := "tripwire/tripwirelaw11.LexWords", spec := "lexWords", inPlace := ["internal/bytealg.IndexByteString"], unfollowed := true, recurses := true, named := ["tripwire/lex.words"], apart := false, laid := [("tripwire/lex.words", laid_tripwire_lex_words)] }
def LexWordsSaid : Prop := lexWordsRow.holds Tryd.pinned (OpenSpec.ofChange lexWordsSpec)

/-- ITS FALSE NEIGHBOUR: 'it returns false'. Refute it at one input. -/
def lexWordsWrong : ChangeSpec := { name := "lexWords", fn := fun _ => fun
  | [d] => { results := [.lit (.bool false)], args := [d] }
  | _ => none }
def LexWordsWrongFalsely : Prop := lexWordsRow.holds Tryd.pinned (OpenSpec.ofChange lexWordsWrong)

/-- 'tripwirelaw11.LexPieces': WHATEVER THE INPUT: true; the input reads as it did. -/
def lexPiecesSpec : ChangeSpec := { name := "lexPieces", fn := fun _ => fun
  | [d] => { results := [.lit (.bool true)], args := [d] }
  | _ => none }
def lexPiecesRow : OpenClaim := { program := "ytelanneckjgnbaadoor", sum := "f367e74bec148b7d85e15c82ae83e03bfd40b8d8a734b447547f8634722c1764", func := "tripwire/tripwirelaw11.LexPieces", spec := "lexPieces", inPlace := ["internal/bytealg.IndexByteString"], unfollowed := true, recurses := true, named := ["tripwire/lex.words"], apart := false, laid := [("tripwire/lex.words", laid_tripwire_lex_words)] }
def LexPiecesSaid : Prop := lexPiecesRow.holds Tryd.pinned (OpenSpec.ofChange lexPiecesSpec)

/-- ITS FALSE NEIGHBOUR: 'it returns false'. Refute it at one input. -/
def lexPiecesWrong : ChangeSpec := { name := "lexPieces", fn := fun _ => fun
  | [d] => { results := [.lit (.bool false)], args := [d] }
  | _ => none }
def LexPiecesWrongFalsely : Prop := lexPiecesRow.holds Tryd.pinned (OpenSpec.ofChange lexPiecesWrong)

/-- 'tripwirelaw11.LexJoined': WHATEVER THE INPUT: true; the input reads as it did. -/
def lexJoinedSpec : ChangeSpec := { name := "lexJoined", fn := fun _ => fun
  | [d1, d2] => { results := [.lit (.bool true)], args := [d1, d2] }
  | _ => none }
def lexJoinedRow : OpenClaim := { program := "ytelanneckjgnbaadoor", sum := "f367e74bec148b7d85e15c82ae83e03bfd40b8d8a734b447547f8634722c1764", func := "tripwire/tripwirelaw11.LexJoined", spec := "lexJoined", inPlace := ["internal/bytealg.IndexByteString"], unfollowed := true, recurses := true, named := ["tripwire/lex.words"], apart := false, laid := [("tripwire/lex.words", laid_tripwire_lex_words)] }
def LexJoinedSaid : Prop := lexJoinedRow.holds Tryd.pinned (OpenSpec.ofChange lexJoinedSpec)

/-- ITS FALSE NEIGHBOUR: 'it returns false'. Refute it at one input. -/
def lexJoinedWrong : ChangeSpec := { name := "lexJoined", fn := fun _ => fun
  | [d1, d2] => { results := [.lit (.bool false)], args := [d1, d2] }
  | _ => none }
def LexJoinedWrongFalsely : Prop := lexJoinedRow.holds Tryd.pinned (OpenSpec.ofChange lexJoinedWrong)

/- THE SECOND FORM. 'bulk': how many values and letters a reading holds, each counted each time it is reached (what is shared counts as often as it is met; a slice's spare places count too). A statement '..UptoSaid' is the law's where the arguments, and the package variables that the reading takes, are together of bulk at most 1048576: NARROWER than '..Said'. Prove '..Said' where nothing that the law and all that it calls make is longer than what came in: it says more and counts as full. Else prove '..UptoSaid'. A law counts once. -/
mutual
def uptoBulk {H : Type} : DataW H → Nat
  | .lit (.string bytes) => bytes.length + 1
  | .lit _ => 1
  | .nil => 1
  | .ptr d => uptoBulk d + 1
  | .slice elems spare => uptoBulkAll elems + uptoBulkAll spare + 1
  | .agg parts => uptoBulkAll parts + 1
  | .iface _ d => uptoBulk d + 1
  | .map entries => uptoBulkEntries entries + 1
  | .held _ => 1
def uptoBulkAll {H : Type} : List (DataW H) → Nat
  | [] => 0
  | d :: r => uptoBulk d + uptoBulkAll r
def uptoBulkEntries {H : Type} : List (Lit × DataW H) → Nat
  | [] => 0
  | x :: r => uptoBulkEntry x + uptoBulkEntries r
def uptoBulkEntry {H : Type} : Lit × DataW H → Nat
  | (.string bytes, d) => bytes.length + uptoBulk d + 1
  | (_, d) => uptoBulk d + 1
 end
def uptoSmall : (H : Type) → List (DataW H) → Bool := fun _ ds => decide (uptoBulkAll ds ≤ 1048576)
def OpenSpec.upto (s : _root_.Go.ChangeSpec) : _root_.Go.OpenSpec := { _root_.Go.OpenSpec.ofChange s with cond := some uptoSmall }

/-- 'tripwirelaw11.LexTokens', WHERE WHAT IT READS IS OF BULK AT MOST 1048576: true; the input reads as it did. -/
def lexTokensUptoRow : OpenClaim := { program := "ytelanneckjgnbaadoor", sum := "f367e74bec148b7d85e15c82ae83e03bfd40b8d8a734b447547f8634722c1764", func := "tripwire/tripwirelaw11.LexTokens", spec := "lexTokens", inPlace := ["internal/bytealg.IndexByteString"], unfollowed := true, recurses := true, named := ["tripwire/lex.words"], apart := false, laid := [("tripwire/lex.words", laid_tripwire_lex_words)], narrowed := true }
def LexTokensUptoSaid : Prop := lexTokensUptoRow.holds Tryd.pinned (OpenSpec.upto lexTokensSpec)

/-- 'tripwirelaw11.LexNexts', WHERE WHAT IT READS IS OF BULK AT MOST 1048576: true; the input reads as it did. -/
def lexNextsUptoRow : OpenClaim := { program := "ytelanneckjgnbaadoor", sum := "f367e74bec148b7d85e15c82ae83e03bfd40b8d8a734b447547f8634722c1764", func := "tripwire/tripwirelaw11.LexNexts", spec := "lexNexts", inPlace := ["internal/bytealg.IndexByteString"], unfollowed := true, recurses := true, named := ["tripwire/lex.words"], apart := false, laid := [("tripwire/lex.words", laid_tripwire_lex_words)], narrowed := true }
def LexNextsUptoSaid : Prop := lexNextsUptoRow.holds Tryd.pinned (OpenSpec.upto lexNextsSpec)

/-- 'tripwirelaw11.LexAlls', WHERE WHAT IT READS IS OF BULK AT MOST 1048576: true; the input reads as it did. -/
def lexAllsUptoRow : OpenClaim := { program := "ytelanneckjgnbaadoor", sum := "f367e74bec148b7d85e15c82ae83e03bfd40b8d8a734b447547f8634722c1764", func := "tripwire/tripwirelaw11.LexAlls", spec := "lexAlls", inPlace := ["internal/bytealg.IndexByteString"], unfollowed := true, recurses := true, named := ["tripwire/lex.words"], apart := false, laid := [("tripwire/lex.words", laid_tripwire_lex_words)], narrowed := true }
def LexAllsUptoSaid : Prop := lexAllsUptoRow.holds Tryd.pinned (OpenSpec.upto lexAllsSpec)

/-- 'tripwirelaw11.LexWords', WHERE WHAT IT READS IS OF BULK AT MOST 1048576: true; the input reads as it did. -/
def lexWordsUptoRow : OpenClaim := { program := "ytelanneckjgnbaadoor", sum := "f367e74bec148b7d85e15c82ae83e03bfd40b8d8a734b447547f8634722c1764", func := "tripwire/tripwirelaw11.LexWords", spec := "lexWords", inPlace := ["internal/bytealg.IndexByteString"], unfollowed := true, recurses := true, named := ["tripwire/lex.words"], apart := false, laid := [("tripwire/lex.words", laid_tripwire_lex_words)], narrowed := true }
def LexWordsUptoSaid : Prop := lexWordsUptoRow.holds Tryd.pinned (OpenSpec.upto lexWordsSpec)

/-- 'tripwirelaw11.LexPieces', WHERE WHAT IT READS IS OF BULK AT MOST 1048576: true; the input reads as it did. -/
def lexPiecesUptoRow : OpenClaim := { program := "ytelanneckjgnbaadoor", sum := "f367e74bec148b7d85e15c82ae83e03bfd40b8d8a734b447547f8634722c1764", func := "tripwire/tripwirelaw11.LexPieces", spec := "lexPieces", inPlace := ["internal/bytealg.IndexByteString"], unfollowed := true, recurses := true, named := ["tripwire/lex.words"], apart := false, laid := [("tripwire/lex.words", laid_tripwire_lex_words)], narrowed := true }
def LexPiecesUptoSaid : Prop := lexPiecesUptoRow.holds Tryd.pinned (OpenSpec.upto lexPiecesSpec)

/-- 'tripwirelaw11.LexJoined', WHERE WHAT IT READS IS OF BULK AT MOST 1048576: true; the input reads as it did. -/
def lexJoinedUptoRow : OpenClaim := { program := "ytelanneckjgnbaadoor", sum := "f367e74bec148b7d85e15c82ae83e03bfd40b8d8a734b447547f8634722c1764", func := "tripwire/tripwirelaw11.LexJoined", spec := "lexJoined", inPlace := ["internal/bytealg.IndexByteString"], unfollowed := true, recurses := true, named := ["tripwire/lex.words"], apart := false, laid := [("tripwire/lex.words", laid_tripwire_lex_words)], narrowed := true }
def LexJoinedUptoSaid : Prop := lexJoinedUptoRow.holds Tryd.pinned (OpenSpec.upto lexJoinedSpec)

end Rows
end Go.Proofs.YtelanneckjgnbaaDoor
