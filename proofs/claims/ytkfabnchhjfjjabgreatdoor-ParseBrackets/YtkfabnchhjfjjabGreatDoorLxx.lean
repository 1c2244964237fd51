/-
  The walk of the document's Next.
-/
import Derived.Test.YtkfabnchhjfjjabGreatDoorLxr
namespace Go.Proofs.YtkfabnchhjfjjabGreatDoor
open Go.RowKit

/-- What Next answers. -/
def nxE (s : ByteArray) (a : Int) : Int := if s.size > 4096 then 110 else if a < 0 ∨ a > s.size then 1 else oneE s a.toNat
def nxT (s : ByteArray) (a : Int) : Tk := if nxE s a = 0 then oneT s a.toNat else tk0
def nxQ (s : ByteArray) (a : Int) : Int := if nxE s a = 0 then (nxT s a).p + (nxT s a).x.size else 0
def nxV (s : ByteArray) (a : Int) : Value := .tuple #[.agg (tkA (nxT s a)), .int .i64 (nxQ s a), .int .i64 (nxE s a)]
theorem nx_bad {s : ByteArray} {a e : Int} (h : nxE s a = e) (he : e ≠ 0) : nxV s a = .tuple #[.agg (tkA tk0), .int .i64 0, .int .i64 e] := by
  unfold nxV nxQ nxT
  rw [h, if_neg he, if_neg he]
theorem nx_ok {s : ByteArray} {a : Int} {T : Tk} (h : nxE s a = 0) (hT : oneT s a.toNat = T) : nxV s a = .tuple #[.agg (tkA T), .int .i64 (T.p + T.x.size), .int .i64 0] := by
  unfold nxV nxQ nxT
  rw [h, if_pos rfl, hT, if_pos rfl]

end Go.Proofs.YtkfabnchhjfjjabGreatDoor
