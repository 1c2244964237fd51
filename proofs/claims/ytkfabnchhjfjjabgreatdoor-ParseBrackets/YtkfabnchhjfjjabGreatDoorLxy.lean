/-
  The walk of the document's Name.
-/
import Derived.Test.YtkfabnchhjfjjabGreatDoorLxr
namespace Go.Proofs.YtkfabnchhjfjjabGreatDoor
open Go.RowKit

/-- Is a text a name? -/
def nameB (s : ByteArray) : Bool := !isW s && (decide (1 ≤ s.size) && (decide (s.size ≤ 16) && (hdB letB (rest s 0) && decide (lead goB (rest s 0) = s.size))))
end Go.Proofs.YtkfabnchhjfjjabGreatDoor
