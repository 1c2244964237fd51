/-
  The walk of the document's Tokens.
-/
import Derived.Test.YtelanneckjgnbabDoorLxb
namespace Go.Proofs.YtelanneckjgnbabDoor
open Go.RowKit

/-- What Tokens answers. -/
def tksE (s : ByteArray) : Int := if s.size > 4096 then 110 else (begO s 0).2.1
def tksB (s : ByteArray) : Int := if tksE s = 0 then 0 else if s.size > 4096 then 0 else (begO s 0).2.2
def tksL (s : ByteArray) : List Tk := if tksE s = 0 then (begO s 0).1 else []
theorem RL.none {W w : World} (h : Below W.heap.size W w) : RL W w (.slice none 0 0) [] := ⟨Row.nil _ _ _ _, fun k h => by simp [Value.ownBlock] at h, h⟩
end Go.Proofs.YtelanneckjgnbabDoor
