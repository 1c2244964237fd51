/-
  The walk of the document's mark.
-/
import Derived.Test.YtighocmdlifheaaDoorLxn
namespace Go.Proofs.YtighocmdlifheaaDoor
open Go.RowKit

/-- Does mark i stand at a place? -/
def mkB (s : ByteArray) (a i : Nat) : Bool := decide (a + (mk i).size ≤ s.size) && ((s.extract a (a + (mk i).size)).data.toList == (mk i).data.toList)
def mkO (s : ByteArray) (a : Nat) : Option Nat := (List.range 23).find? (mkB s a)
def mkT (s : ByteArray) (a : Nat) : Tk := match mkO s a with | none => tk0 | some i => ⟨4, mk i, 0, 0, a⟩
def mkE (s : ByteArray) (a : Nat) : Int := match mkO s a with | none => 111 | some _ => 0
theorem mkO_some {s : ByteArray} {a i : Nat} (hi : i < 23) (h : ∀ j, j < i → mkB s a j = false) (hm : mkB s a i = true) : mkO s a = some i := by
  unfold mkO
  rw [List.find?_range_eq_some]
  exact ⟨hm, by simpa using hi, fun j hj => by rw [h j hj]; rfl⟩
theorem mkO_none {s : ByteArray} {a : Nat} (h : ∀ j, j < 23 → mkB s a j = false) : mkO s a = none := by
  unfold mkO
  rw [List.find?_eq_none]
  intro x hx
  rw [h x (by simpa using hx)]
  decide
theorem marks_cell (w : World) (j : Nat) (h : j < 23) : (w.alloc (.cells marksV 9)).cell? ⟨w.heap.size, j, none⟩ = some (.string (mk j)) := by
  rw [cell_alloc]
  unfold marksV mk
  have hl : j < marksL.length := h
  simp [List.getElem?_map, List.getElem?_eq_getElem hl, List.getD]
theorem mk_size (i : Nat) : (mk i).size ≤ 2 := by
  unfold mk
  by_cases h : i < 23
  · have : ∀ x ∈ marksL, x.size ≤ 2 := by decide
    have hl : i < marksL.length := h
    rw [List.getD, List.getElem?_eq_getElem hl]
    exact this _ (List.getElem_mem hl)
  · rw [List.getD, List.getElem?_eq_none (by show 23 ≤ i; omega)]
    decide
theorem below_drew {B : Nat} {w w' : World} (h : Below B w w') (n : Nat) : Below B w (w'.drewN n) := ⟨h.os, h.tape, h.output, h.size, h.block⟩
theorem TkH.drewN {w : World} {b : Nat} {t : Tk} (h : TkH w b t) (n : Nat) : TkH (w.drewN n) b t := h

end Go.Proofs.YtighocmdlifheaaDoor
