/-
  The walk of the document's Begin.
-/
import Derived.Test.YtelanneckjgnbabDoorLxa
namespace Go.Proofs.YtelanneckjgnbabDoor
open Go.RowKit

def oneQ (s : ByteArray) (f : Nat) : Nat := oneP s f + (oneT s f).x.size
/-- The tokens from a place on, up to the end or up to what is wrong; what, and where. -/
def begO (s : ByteArray) (f : Nat) : List Tk × Int × Int :=
  if oneE s f ≠ 0 then ([], oneE s f, oneB s f)
  else if (oneT s f).k = 0 then ([oneT s f], 0, 0)
  else if _h : f < oneQ s f ∧ oneQ s f ≤ s.size then (oneT s f :: (begO s (oneQ s f)).1, (begO s (oneQ s f)).2)
  else ([], 0, 0)
termination_by s.size - f
decreasing_by all_goals omega
theorem beg_bad {s : ByteArray} {f : Nat} (h : oneE s f ≠ 0) : begO s f = ([], oneE s f, oneB s f) := by
  rw [begO, if_pos h]
theorem beg_end {s : ByteArray} {f : Nat} (h : oneE s f = 0) (hk : (oneT s f).k = 0) : begO s f = ([oneT s f], 0, 0) := by
  rw [begO, if_neg (by simp [h]), if_pos hk]
theorem beg_more {s : ByteArray} {f : Nat} (hf : f ≤ s.size) (h : oneE s f = 0) (hk : ¬ (oneT s f).k = 0) : f < oneQ s f ∧ oneQ s f ≤ s.size ∧ (oneT s f).p + ((oneT s f).x.size : Int) = (oneQ s f : Nat) ∧ begO s f = (oneT s f :: (begO s (oneQ s f)).1, (begO s (oneQ s f)).2) := by
  obtain ⟨q0, q1, q2, q3⟩ := one_fine s f hf h
  have q4 := q3 hk
  have e1 : f < oneQ s f := by unfold oneQ; omega
  have e2 : oneQ s f ≤ s.size := q2
  refine ⟨e1, e2, by rw [q0]; unfold oneQ; omega, ?_⟩
  rw [begO, if_neg (by simp [h]), if_neg hk, dif_pos ⟨e1, e2⟩]
theorem results_t3 {P : Program} {fn : Func} {p u v : Tmp} (h : fn.results = #[.tmp p, .tmp u, .tmp v]) (tmps : Array Value) (w : World) : (results fn tmps).run P w = .ok (.tuple #[tmps.getD p undef, tmps.getD u undef, tmps.getD v undef]) w := by
  simp [results, h]
end Go.Proofs.YtelanneckjgnbabDoor
