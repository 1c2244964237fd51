/-
  The walk of the document's One and Next.
-/
import Derived.Test.YtighocmdlifheaaDoorLxd
namespace Go.Proofs.YtighocmdlifheaaDoor
open Go.RowKit

def oneP (s : ByteArray) (f : Nat) : Nat := f + ov (rest s f) false
def hdB (p : UInt8 → Bool) : List UInt8 → Bool
  | [] => false
  | c :: _ => p c
/-- The first token from a place on; what is wrong, and where. -/
def oneT (s : ByteArray) (f : Nat) : Tk :=
  if oneP s f = s.size then ⟨0, ⟨#[]⟩, 0, 0, oneP s f⟩
  else if hdB letB (rest s (oneP s f)) = true then nmT s (oneP s f)
  else if hdB digB (rest s (oneP s f)) = true then nbT s (oneP s f) else mkT s (oneP s f)
def oneE (s : ByteArray) (f : Nat) : Int :=
  if oneP s f = s.size then 0
  else if hdB letB (rest s (oneP s f)) = true then nmE s (oneP s f)
  else if hdB digB (rest s (oneP s f)) = true then nbE s (oneP s f) else mkE s (oneP s f)
def oneB (s : ByteArray) (f : Nat) : Int := if oneE s f = 0 then 0 else oneP s f
def oneV (s : ByteArray) (f : Nat) : Value := .tuple #[.agg (tkA (oneT s f)), .int .i64 (oneE s f), .int .i64 (oneB s f)]

theorem oneP_le (s : ByteArray) (f : Nat) (hf : f ≤ s.size) : oneP s f ≤ s.size := by
  unfold oneP
  have := ov_le (rest s f) false
  rw [rest_len] at this
  omega
end Go.Proofs.YtighocmdlifheaaDoor
