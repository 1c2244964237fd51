/-
  What a node says itself: selfOf, named; numbers within bounds; isLiteral.
-/
import Derived.Test.YtighocmdlifheaaDoorNd
namespace Go.Proofs.YtighocmdlifheaaDoor
open Go.RowKit

/-- A block that holds what a node says. -/
def SfH (w : World) (b : Nat) (h : Hd) : Prop := w.heap[b]? = some (.cells (selfA h) 95 (0, 0))
theorem SfH.lt {w : World} {b : Nat} {h : Hd} (k : SfH w b h) : b < w.heap.size := (Array.getElem?_eq_some_iff.1 k).1
theorem SfH.on {w w' : World} {b : Nat} {h : Hd} (k : SfH w b h) (j : Below w.heap.size w w') : SfH w' b h := (j.block b k.lt).trans k
theorem SfH.hid {w : World} {b : Nat} {h : Hd} (k : SfH w b h) : Hid (SfH w b h) := k
theorem SfH.cells {w : World} {b : Nat} {h : Hd} (k : SfH w b h) : w.cell? ⟨b, 0, none⟩ = some (.int .u8 h.k) ∧ w.cell? ⟨b, 1, none⟩ = some (.int .u8 h.o) ∧ w.cell? ⟨b, 2, none⟩ = some (.int .u8 h.t) ∧ w.cell? ⟨b, 3, none⟩ = some (.int .i64 h.n) ∧ w.cell? ⟨b, 4, none⟩ = some (.int .u8 h.f) ∧ w.cell? ⟨b, 5, none⟩ = some (.string h.x) :=
  ⟨cell_of k 0, cell_of k 1, cell_of k 2, cell_of k 3, cell_of k 4, cell_of k 5⟩
theorem SfH.froz {w : World} {b : Nat} {h : Hd} (k : SfH w b h) : w.frozen? ⟨b, 0, none⟩ = false ∧ w.frozen? ⟨b, 1, none⟩ = false ∧ w.frozen? ⟨b, 2, none⟩ = false ∧ w.frozen? ⟨b, 3, none⟩ = false ∧ w.frozen? ⟨b, 4, none⟩ = false ∧ w.frozen? ⟨b, 5, none⟩ = false :=
  ⟨frozen_of k 0, frozen_of k 1, frozen_of k 2, frozen_of k 3, frozen_of k 4, frozen_of k 5⟩
theorem put6 {w : World} {b : Nat} {cs : Array Value} (h : w.heap[b]? = some (.cells cs 95 (0, 0))) (hs : cs.size = 6) (v0 v1 v2 v3 v4 v5 : Value) :
    ((((((w.setCell ⟨b, 0, none⟩ v0).setCell ⟨b, 1, none⟩ v1).setCell ⟨b, 2, none⟩ v2).setCell ⟨b, 3, none⟩ v3).setCell ⟨b, 4, none⟩ v4).setCell ⟨b, 5, none⟩ v5).heap[b]? = some (.cells #[v0, v1, v2, v3, v4, v5] 95 (0, 0)) := by
  obtain ⟨a0, a1, a2, a3, a4, a5, e⟩ : ∃ a0 a1 a2 a3 a4 a5, cs = #[a0, a1, a2, a3, a4, a5] := ⟨cs[0], cs[1], cs[2], cs[3], cs[4], cs[5], by
    apply Array.ext
    · simpa using hs
    · intro i h1 h2
      have : i < 6 := by omega
      match i, this with
      | 0, _ => rfl
      | 1, _ => rfl
      | 2, _ => rfl
      | 3, _ => rfl
      | 4, _ => rfl
      | 5, _ => rfl⟩
  subst e
  exact heap_set _ (heap_set _ (heap_set _ (heap_set _ (heap_set _ (heap_set _ h)))))
theorem belowput6 {B : Nat} {w v : World} {b : Nat} (h : Below B w v) (hb : B ≤ b) (v0 v1 v2 v3 v4 v5 : Value) : Below B w ((((((v.setCell ⟨b, 0, none⟩ v0).setCell ⟨b, 1, none⟩ v1).setCell ⟨b, 2, none⟩ v2).setCell ⟨b, 3, none⟩ v3).setCell ⟨b, 4, none⟩ v4).setCell ⟨b, 5, none⟩ v5) :=
  (((((h.setCell (p := ⟨b, 0, none⟩) hb v0).setCell (p := ⟨b, 1, none⟩) hb v1).setCell (p := ⟨b, 2, none⟩) hb v2).setCell (p := ⟨b, 3, none⟩) hb v3).setCell (p := ⟨b, 4, none⟩) hb v4).setCell (p := ⟨b, 5, none⟩) hb v5
def hdN : Hd := ⟨0, 0, 0, 0, 0, ⟨#[]⟩, 0⟩
set_option maxRecDepth 100000 in
theorem selfOf_any (h : Hd) (a : Option Addr) (l c : Nat) (w : World) : Calls Tryd.prog 45 #[.agg (hdA h a l c)] w fun e w' => e = .returned (.agg (selfA h)) ∧ Below w.heap.size w w' := by
  obtain ⟨W, eW⟩ : ∃ W, (w.alloc (.cells (hdA h a l c) 28)).alloc (.cells #[.int .u8 0, .int .u8 0, .int .u8 0, .int .i64 0, .int .u8 0, .string ⟨#[]⟩] 95) = W := ⟨_, rfl⟩
  have HB : Hid (Below w.heap.size w W) := by rw [← eW]; exact below_two _ _ _
  have HN : Hid (W.heap[w.heap.size]? = some (.cells (hdA h a l c) 28 (0, 0))) := by show _ = _; rw [← eW]; exact heap_old (heap_new _ _) (by rw [size_alloc]; omega)
  have HS : Hid (SfH W (w.heap.size + 1) hdN) := by show SfH _ _ _; rw [← eW, ← size_alloc w (.cells (hdA h a l c) 28)]; exact heap_new _ _
  obtain ⟨y0, y1, y2, y3, y4, y5⟩ : W.cell? ⟨w.heap.size, 0, none⟩ = some (.int .u8 h.k) ∧ W.cell? ⟨w.heap.size, 1, none⟩ = some (.int .u8 h.o) ∧ W.cell? ⟨w.heap.size, 2, none⟩ = some (.int .u8 h.t) ∧ W.cell? ⟨w.heap.size, 3, none⟩ = some (.int .i64 h.n) ∧ W.cell? ⟨w.heap.size, 4, none⟩ = some (.int .u8 h.f) ∧ W.cell? ⟨w.heap.size, 5, none⟩ = some (.string h.x) :=
    ⟨cell_of HN.out 0, cell_of HN.out 1, cell_of HN.out 2, cell_of HN.out 3, cell_of HN.out 4, cell_of HN.out 5⟩
  obtain ⟨z0, z1, z2, z3, z4, z5⟩ := HS.out.cells
  obtain ⟨f0, f1, f2, f3, f4, f5⟩ := HS.out.froz
  unfold hdA at eW ⊢
  go_enter Tryd.func45, Tryd.ntmps45
  go_wp2
  exact bodyPost_ret (results_cell_row rfl _ _ (w.heap.size + 1) 95 (selfA h) (0, 0) _ rfl (put6 HS.out rfl _ _ _ _ _ _) Tryd.underlying95 rfl (by kernel_rfl)) rfl ⟨rfl, belowput6 HB.out (by omega) _ _ _ _ _ _⟩
end Go.Proofs.YtighocmdlifheaaDoor
