/-
  A new variable of many cells, and what is stored into it at once.
-/
import Derived.Deep.MidRow
import Derived.WalkKit
import Derived.Below
import Derived.Test.YtighocmdlifheaaDoorMem
namespace Go.Proofs.YtighocmdlifheaaDoor
open Go.RowKit
variable {P : Program}
theorem run_alloc_row (w : World) (ty : TypeId) (C : Array Value) (hz : (P.info? ty).map (·.zero) = some (some (.agg C))) :
    (Instr.alloc ty true (.tuple #[])).run P w = .ok (.pointer (some ⟨w.heap.size, 0, none⟩)) (w.alloc (.cells C ty)) := by
  cases hq : P.info? ty with
  | none => simp [hq] at hz
  | some i =>
    have hs : i.zero = some (.agg C) := by simpa [hq] using hz
    simp [Instr.alloc, zeroValue, typeInfo, hq, hs, newVar, newRow, Value.cells, go_sem]
theorem wp_alloc_row {op : Oper} {a : Act} {w : World} {K : Act → World → Prop} {Q : Exit → Act → World → Prop} (ty : TypeId) (ho : op.op = .alloc ty) (C : Array Value) (hz : (P.info? ty).map (·.zero) = some (some (.agg C)))
    (h : K (a.put op.dst (.pointer (some ⟨w.heap.size, 0, none⟩))) (w.alloc (.cells C ty))) : op.wp P a w K Q := by
  unfold Oper.wp execOp
  simp only [ho, Sem.run_bind, run_alloc_row w ty C hz, Result.andThen_ok, Sem.run_pure]
  exact h
theorem below_cells {B g : Nat} (hg : B ≤ g) : ∀ (vs : List Value) (o : Nat) (w : World), Below B w (w.setCells g o vs)
  | [], _, w => Below.refl B w
  | v :: r, o, w => ((Below.refl B w).setCell (p := ⟨g, o, none⟩) hg v).trans (below_cells hg r (o + 1) _)
theorem size_cells (g : Nat) : ∀ (vs : List Value) (o : Nat) (w : World), (w.setCells g o vs).heap.size = w.heap.size
  | [], _, _ => rfl
  | v :: r, o, w => (size_cells g r (o + 1) _).trans (by simp [World.setCell])
/-- A new block, filled at once. -/
structure Fil (w : World) (cs : List Value) (ty : TypeId) (Y : World) : Prop where
  B : Below w.heap.size w Y
  r : Y.rangeAt w.heap.size 0 cs
  s : Y.heap.size = w.heap.size + 1
theorem wpList_new_row {ops : Array Oper} {rest : List Oper} {o1 o2 : Oper} {a : Act} {w : World} {Q : Exit → Act → World → Prop} (hg1 : o1.guard = none) (hg2 : o2.guard = none) (ty : TypeId) (h1 : o1.op = .alloc ty) (x y : Operand) (h2 : o2.op = .store ty x y)
    (C : Array Value) (hz : (P.info? ty).map (·.zero) = some (some (.agg C))) (hi : (P.info? ty).map (·.size) = some C.size) (cells : Array Value) (hs : cells.size = C.size)
    (hx : (a.put o1.dst (.pointer (some ⟨w.heap.size, 0, none⟩))).eval x = .pointer (some ⟨w.heap.size, 0, none⟩)) (hy : (a.put o1.dst (.pointer (some ⟨w.heap.size, 0, none⟩))).eval y = .agg cells) (hc : cells.all (·.oneCell') = true)
    (h : ∀ Y, Fil w cells.toList ty Y → wpList P ops Q rest ((a.put o1.dst (.pointer (some ⟨w.heap.size, 0, none⟩))).put o2.dst undef) Y) : wpList P ops Q (o1 :: o2 :: rest) a w := by
  have hb : (w.alloc (.cells C ty)).heap[w.heap.size]? = some (.cells C ty (0, 0)) := heap_new _ _
  have ht : (w.alloc (.cells C ty)).there w.heap.size 0 cells.size := fun j hj => by
    have hj' : j < C.size := by omega
    refine ⟨?_, ?_⟩
    · rw [Nat.zero_add, cell_of hb j, Array.getElem?_eq_getElem hj']; rfl
    · rw [Nat.zero_add]; exact frozen_of hb j
  refine wpList_plain hg1 fun _ hK => wp_alloc_row ty h1 C hz (hK _ _ ?_)
  refine wpList_store_mid hg2 ty x y h2 w.heap.size 0 cells hx hy ht (by rw [hi, hs]) hc (h _ ⟨?_, ?_, ?_⟩)
  · exact (below_new w _).trans ((below_cells (Nat.le_refl _) cells.toList 0 _).mono (Nat.le_refl _))
  · exact World.rangeAt_setCells_same _ _ _ _ ht
  · rw [size_cells, size_alloc]
end Go.Proofs.YtighocmdlifheaaDoor
