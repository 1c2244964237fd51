/-
  Walks of the document's goes, over, Words, Word.
-/
import Derived.Test.YtighocmdlifheaaDoorLxp
namespace Go.Proofs.YtighocmdlifheaaDoor
open Go.RowKit

theorem ov_stop {c : UInt8} {l : List UInt8} {r : Bool} (h1 : remB r c = false) (h2 : blankB c = false) : ov (c :: l) r = 0 := by unfold ov; rw [if_pos ⟨h1, h2⟩]
theorem ov_go {c : UInt8} {l : List UInt8} {r : Bool} (h : ¬ (remB r c = false ∧ blankB c = false)) : ov (c :: l) r = ov l (remB r c) + 1 := by rw [ov, if_neg h]

def wordsV : Array Value := (wordsL.map Value.string).toArray
def marksV : Array Value := (marksL.map Value.string).toArray
theorem words_cell (w : World) (j : Nat) (h : j < 41) : (w.alloc (.cells wordsV 9)).cell? ⟨w.heap.size, j, none⟩ = some (.string (wd j)) := by
  rw [cell_alloc]
  unfold wordsV wd
  have hl : j < wordsL.length := h
  simp [List.getElem?_map, List.getElem?_eq_getElem hl, List.getD]
theorem seq_ne {a b : ByteArray} (h : ¬ a = b) : (a.toList == b.toList) = false := by
  rw [ByteArray.toList_eq, ByteArray.toList_eq]
  exact beq_false_of_ne (fun h' => h (str_eq h'))
theorem isW_yes {s : ByteArray} {i : Nat} (h : i < 41) (e : wd i = s) : isW s = true := by
  unfold isW
  rw [List.any_eq_true]
  have hl : i < wordsL.length := h
  refine ⟨wordsL[i], List.getElem_mem hl, ?_⟩
  have : wd i = wordsL[i] := by unfold wd; simp [List.getD, hl]
  rw [← this, e]
  simp
theorem isW_no {s : ByteArray} (h : ∀ j, j < 41 → ¬ wd j = s) : isW s = false := by
  unfold isW
  rw [List.any_eq_false]
  intro x hx e
  obtain ⟨i, hi, rfl⟩ := List.mem_iff_getElem.1 hx
  refine h i hi ?_
  have e2 : wd i = wordsL[i] := by unfold wd; simp [List.getD, hi]
  rw [e2]
  exact str_eq (by simpa using e)
end Go.Proofs.YtighocmdlifheaaDoor
