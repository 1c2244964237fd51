/-
  No cell of these rows narrows 'for every input' (looked for: loops, veiled, ifaces, maps, wideKeys, modest, calm, conditions, laid).
  DERIVED. THE GIVEN ROWS OF THIS SEAT. 3 by the template 'for every input the law returns true; each argument reads behind the call as it read before'; 0 by the template 'total and deterministic' (their statements: YtjjmpfpbfkploaaTotals.lean).
  GIVEN WITH THE SEED: the statements are not yours to turn. If you find one false, say at which input.
  Laid BY PROGRAM, IN A SANDBOX (cutbox-rows.mjs): the forced cells as the released guide's own fill.sh prints them over the translation 6cdffc2fa9f9cb51… (all of the seat's roots in one cut). By AI agents, Wed Nov 11 2026. No macro, syntax, notation, axiom, sorry.
-/
import Derived.Test.YtjjmpfpbfkploaaChecked
import GoSem.Claim
import GoSem.ClaimJoined
import GoSem.ClaimMapViews
import Derived.JoinedTies
import Derived.KernelRfl
namespace Go.Proofs.Ytjjmpfpbfkploaa
/- THE CELL 'sum', in the pinned program and in every row, IS THE sha256 OF THE DUMP (.gsa) THAT YtjjmpfpbfkploaaProg.lean LOADS. Nothing in Lean hashes anything: it is a label: what it is worth is what the hold of that sum in a sandbox is worth. -/
noncomputable def Try.pinned : Pinned := { name := "ytjjmpfpbfkploaa", sum := "6cdffc2fa9f9cb5142cc78a65d57824bb1170f227119f591bba3565d442aaaed", checked := Try.checked }
namespace Rows
def none {H : Type} : Left H := { results := [], args := [] }

/-- 'tripwirelaw10.SnapFolds': WHATEVER THE INPUT: true; the input reads as it did. -/
def snapFoldsSpec : ChangeSpec := { name := "snapFolds", fn := fun _ => fun
  | [d1, d2, d3, d4] => { results := [.lit (.bool true)], args := [d1, d2, d3, d4] }
  | _ => none }
def snapFoldsRow : OpenClaim := { program := "ytjjmpfpbfkploaa", sum := "6cdffc2fa9f9cb5142cc78a65d57824bb1170f227119f591bba3565d442aaaed", func := "tripwire/tripwirelaw10.SnapFolds", spec := "snapFolds", unfollowed := true, recurses := true, apart := false }
def SnapFoldsSaid : Prop := snapFoldsRow.holds Try.pinned (OpenSpec.ofChange snapFoldsSpec)

/-- ITS FALSE NEIGHBOUR: 'it returns false'. Refute it at one input. -/
def snapFoldsWrong : ChangeSpec := { name := "snapFolds", fn := fun _ => fun
  | [d1, d2, d3, d4] => { results := [.lit (.bool false)], args := [d1, d2, d3, d4] }
  | _ => none }
def SnapFoldsWrongFalsely : Prop := snapFoldsRow.holds Try.pinned (OpenSpec.ofChange snapFoldsWrong)

/-- 'tripwirelaw10.SnapFeeds': WHATEVER THE INPUT: true; the input reads as it did. -/
def snapFeedsSpec : ChangeSpec := { name := "snapFeeds", fn := fun _ => fun
  | [d1, d2, d3, d4] => { results := [.lit (.bool true)], args := [d1, d2, d3, d4] }
  | _ => none }
def snapFeedsRow : OpenClaim := { program := "ytjjmpfpbfkploaa", sum := "6cdffc2fa9f9cb5142cc78a65d57824bb1170f227119f591bba3565d442aaaed", func := "tripwire/tripwirelaw10.SnapFeeds", spec := "snapFeeds", unfollowed := true, recurses := true, apart := false }
def SnapFeedsSaid : Prop := snapFeedsRow.holds Try.pinned (OpenSpec.ofChange snapFeedsSpec)

/-- ITS FALSE NEIGHBOUR: 'it returns false'. Refute it at one input. -/
def snapFeedsWrong : ChangeSpec := { name := "snapFeeds", fn := fun _ => fun
  | [d1, d2, d3, d4] => { results := [.lit (.bool false)], args := [d1, d2, d3, d4] }
  | _ => none }
def SnapFeedsWrongFalsely : Prop := snapFeedsRow.holds Try.pinned (OpenSpec.ofChange snapFeedsWrong)

/-- 'tripwirelaw10.SnapParts': WHATEVER THE INPUT: true; the input reads as it did. -/
def snapPartsSpec : ChangeSpec := { name := "snapParts", fn := fun _ => fun
  | [d1, d2, d3] => { results := [.lit (.bool true)], args := [d1, d2, d3] }
  | _ => none }
def snapPartsRow : OpenClaim := { program := "ytjjmpfpbfkploaa", sum := "6cdffc2fa9f9cb5142cc78a65d57824bb1170f227119f591bba3565d442aaaed", func := "tripwire/tripwirelaw10.SnapParts", spec := "snapParts", unfollowed := true, recurses := true, apart := false }
def SnapPartsSaid : Prop := snapPartsRow.holds Try.pinned (OpenSpec.ofChange snapPartsSpec)

/-- ITS FALSE NEIGHBOUR: 'it returns false'. Refute it at one input. -/
def snapPartsWrong : ChangeSpec := { name := "snapParts", fn := fun _ => fun
  | [d1, d2, d3] => { results := [.lit (.bool false)], args := [d1, d2, d3] }
  | _ => none }
def SnapPartsWrongFalsely : Prop := snapPartsRow.holds Try.pinned (OpenSpec.ofChange snapPartsWrong)

/- THE SECOND FORM. 'bulk': how many values and letters a reading holds, each counted each time it is reached (what is shared counts as often as it is met; a slice's spare places count too). A statement '..UptoSaid' is the law's where the arguments, and the package variables that the reading takes, are together of bulk at most 1048576: NARROWER than '..Said'. Prove '..Said' where nothing that the law and all that it calls make is longer than what came in: it says more and counts as full. Else prove '..UptoSaid'. A law counts once. -/
mutual
def uptoBulk {H : Type} : DataW H → Nat
  | .lit (.string bytes) => bytes.length + 1
  | .lit _ => 1
  | .nil => 1
  | .ptr d => uptoBulk d + 1
  | .slice elems spare => uptoBulkAll elems + uptoBulkAll spare + 1
  | .agg parts => uptoBulkAll parts + 1
  | .iface _ d => uptoBulk d + 1
  | .map entries => uptoBulkEntries entries + 1
  | .held _ => 1
def uptoBulkAll {H : Type} : List (DataW H) → Nat
  | [] => 0
  | d :: r => uptoBulk d + uptoBulkAll r
def uptoBulkEntries {H : Type} : List (Lit × DataW H) → Nat
  | [] => 0
  | x :: r => uptoBulkEntry x + uptoBulkEntries r
def uptoBulkEntry {H : Type} : Lit × DataW H → Nat
  | (.string bytes, d) => bytes.length + uptoBulk d + 1
  | (_, d) => uptoBulk d + 1
 end
def uptoSmall : (H : Type) → List (DataW H) → Bool := fun _ ds => decide (uptoBulkAll ds ≤ 1048576)
def OpenSpec.upto (s : _root_.Go.ChangeSpec) : _root_.Go.OpenSpec := { _root_.Go.OpenSpec.ofChange s with cond := some uptoSmall }

/-- 'tripwirelaw10.SnapFolds', WHERE WHAT IT READS IS OF BULK AT MOST 1048576: true; the input reads as it did. -/
def snapFoldsUptoRow : OpenClaim := { program := "ytjjmpfpbfkploaa", sum := "6cdffc2fa9f9cb5142cc78a65d57824bb1170f227119f591bba3565d442aaaed", func := "tripwire/tripwirelaw10.SnapFolds", spec := "snapFolds", unfollowed := true, recurses := true, apart := false, narrowed := true }
def SnapFoldsUptoSaid : Prop := snapFoldsUptoRow.holds Try.pinned (OpenSpec.upto snapFoldsSpec)

/-- 'tripwirelaw10.SnapFeeds', WHERE WHAT IT READS IS OF BULK AT MOST 1048576: true; the input reads as it did. -/
def snapFeedsUptoRow : OpenClaim := { program := "ytjjmpfpbfkploaa", sum := "6cdffc2fa9f9cb5142cc78a65d57824bb1170f227119f591bba3565d442aaaed", func := "tripwire/tripwirelaw10.SnapFeeds", spec := "snapFeeds", unfollowed := true, recurses := true, apart := false, narrowed := true }
def SnapFeedsUptoSaid : Prop := snapFeedsUptoRow.holds Try.pinned (OpenSpec.upto snapFeedsSpec)

/-- 'tripwirelaw10.SnapParts', WHERE WHAT IT READS IS OF BULK AT MOST 1048576: true; the input reads as it did. -/
def snapPartsUptoRow : OpenClaim := { program := "ytjjmpfpbfkploaa", sum := "6cdffc2fa9f9cb5142cc78a65d57824bb1170f227119f591bba3565d442aaaed", func := "tripwire/tripwirelaw10.SnapParts", spec := "snapParts", unfollowed := true, recurses := true, apart := false, narrowed := true }
def SnapPartsUptoSaid : Prop := snapPartsUptoRow.holds Try.pinned (OpenSpec.upto snapPartsSpec)

end Rows
end Go.Proofs.Ytjjmpfpbfkploaa
