/-
  Walks of the document's named, number and mark.
-/
import Derived.Test.YtighocmdlifheaaDoorLxw
namespace Go.Proofs.YtighocmdlifheaaDoor
open Go.RowKit

theorem results_two {P : Program} {fn : Func} {p u : Tmp} {ty : TypeId} (h : fn.results = #[.cell p ty, .tmp u]) (tmps : Array Value) (w : World) (g : Nat) (t : TypeId) (cs : Array Value) (fr : Nat × Nat) (d : TypeDesc)
    (hp : tmps.getD p undef = .pointer (some ⟨g, 0, none⟩)) (hg : w.heap[g]? = some (.cells cs t fr))
    (hu : P.underlying ty = some d) (hd : (match d with | .struct _ | .array _ _ => true | _ => false) = true) (hi : (P.info? ty).map (·.size) = some cs.size) :
    (results fn tmps).run P w = .ok (.tuple #[.agg cs, tmps.getD u undef]) w := by
  have hp' : tmps[p]?.getD undef = .pointer (some ⟨g, 0, none⟩) := by simpa using hp
  simp [results, h, hp', asAddr, run_loadVar_row w g t ty cs fr d hg hu hd hi]
theorem results_three {P : Program} {fn : Func} {p u v : Tmp} {ty : TypeId} (h : fn.results = #[.cell p ty, .tmp u, .tmp v]) (tmps : Array Value) (w : World) (g : Nat) (t : TypeId) (cs : Array Value) (fr : Nat × Nat) (d : TypeDesc)
    (hp : tmps.getD p undef = .pointer (some ⟨g, 0, none⟩)) (hg : w.heap[g]? = some (.cells cs t fr))
    (hu : P.underlying ty = some d) (hd : (match d with | .struct _ | .array _ _ => true | _ => false) = true) (hi : (P.info? ty).map (·.size) = some cs.size) :
    (results fn tmps).run P w = .ok (.tuple #[.agg cs, tmps.getD u undef, tmps.getD v undef]) w := by
  have hp' : tmps[p]?.getD undef = .pointer (some ⟨g, 0, none⟩) := by simpa using hp
  simp [results, h, hp', asAddr, run_loadVar_row w g t ty cs fr d hg hu hd hi]
theorem below_two (w : World) (X Y : Obj) : Below w.heap.size w ((w.alloc X).alloc Y) := (below_new w X).alloc (by rw [size_alloc]; omega) Y
theorem heap_old {w : World} {o : Obj} {k : Nat} {x : Option Obj} (h : w.heap[k]? = x) (hk : k < w.heap.size) : (w.alloc o).heap[k]? = x := (Below.heap_alloc _ _ _ hk).trans h
theorem cell_of {w : World} {g : Nat} {cs : Array Value} {t : TypeId} {fr : Nat × Nat} (h : w.heap[g]? = some (.cells cs t fr)) (j : Nat) : w.cell? ⟨g, j, none⟩ = cs[j]? := by
  unfold World.cell?; rw [h]; simp
theorem frozen_of {w : World} {g : Nat} {cs : Array Value} {t : TypeId} (h : w.heap[g]? = some (.cells cs t (0, 0))) (j : Nat) : w.frozen? ⟨g, j, none⟩ = false := by
  unfold World.frozen?; rw [h]; simp
theorem heap_set {w : World} {g j : Nat} {cs : Array Value} {t : TypeId} {fr : Nat × Nat} (v : Value) (h : w.heap[g]? = some (.cells cs t fr)) : (w.setCell ⟨g, j, none⟩ v).heap[g]? = some (.cells (cs.setIfInBounds j v) t fr) := by
  have hg : g < w.heap.size := (Array.getElem?_eq_some_iff.1 h).1
  have hv : w.heap[g] = .cells cs t fr := (Array.getElem?_eq_some_iff.1 h).2
  unfold World.setCell
  simp [hg, Array.getElem_modify, hv]
def TkH (w : World) (b : Nat) (t : Tk) : Prop := w.heap[b]? = some (.cells (tkA t) 160 (0, 0))
theorem TkH.lt {w : World} {b : Nat} {t : Tk} (h : TkH w b t) : b < w.heap.size := (Array.getElem?_eq_some_iff.1 h).1
theorem TkH.onto {w w' : World} {b : Nat} {t : Tk} (h : TkH w b t) (k : Below w.heap.size w w') : TkH w' b t := (k.block b h.lt).trans h
theorem TkH.hid {w : World} {b : Nat} {t : Tk} (h : TkH w b t) : Hid (TkH w b t) := h
theorem TkH.cells {w : World} {b : Nat} {t : Tk} (h : TkH w b t) : w.cell? ⟨b, 0, none⟩ = some (.int .u8 t.k) ∧ w.cell? ⟨b, 1, none⟩ = some (.string t.x) ∧ w.cell? ⟨b, 2, none⟩ = some (.int .u8 t.ty) ∧ w.cell? ⟨b, 3, none⟩ = some (.int .i64 t.n) ∧ w.cell? ⟨b, 4, none⟩ = some (.int .i64 t.p) := ⟨cell_of h 0, cell_of h 1, cell_of h 2, cell_of h 3, cell_of h 4⟩
theorem TkH.froz {w : World} {b : Nat} {t : Tk} (h : TkH w b t) : w.frozen? ⟨b, 0, none⟩ = false ∧ w.frozen? ⟨b, 1, none⟩ = false ∧ w.frozen? ⟨b, 2, none⟩ = false ∧ w.frozen? ⟨b, 3, none⟩ = false ∧ w.frozen? ⟨b, 4, none⟩ = false := ⟨frozen_of h 0, frozen_of h 1, frozen_of h 2, frozen_of h 3, frozen_of h 4⟩
theorem TkH.put {w : World} {b : Nat} {t : Tk} (h : TkH w b t) (u : Tk) : TkH (((((w.setCell ⟨b, 0, none⟩ (.int .u8 u.k)).setCell ⟨b, 1, none⟩ (.string u.x)).setCell ⟨b, 2, none⟩ (.int .u8 u.ty)).setCell ⟨b, 3, none⟩ (.int .i64 u.n)).setCell ⟨b, 4, none⟩ (.int .i64 u.p)) b u :=
  heap_set _ (heap_set _ (heap_set _ (heap_set _ (heap_set _ h))))
theorem below_put {B : Nat} {w v : World} {b : Nat} (h : Below B w v) (hb : B ≤ b) (v0 v1 v2 v3 v4 : Value) : Below B w (((((v.setCell ⟨b, 0, none⟩ v0).setCell ⟨b, 1, none⟩ v1).setCell ⟨b, 2, none⟩ v2).setCell ⟨b, 3, none⟩ v3).setCell ⟨b, 4, none⟩ v4) :=
  ((((h.setCell (p := ⟨b, 0, none⟩) hb v0).setCell (p := ⟨b, 1, none⟩) hb v1).setCell (p := ⟨b, 2, none⟩) hb v2).setCell (p := ⟨b, 3, none⟩) hb v3).setCell (p := ⟨b, 4, none⟩) hb v4

/-- A word or a name at a place; what is wrong with it. -/
def nmT (s : ByteArray) (a : Nat) : Tk := if lead goB (rest s a) > 16 then tk0 else ⟨if isW (s.extract a (a + lead goB (rest s a))) = true then 1 else 2, s.extract a (a + lead goB (rest s a)), 0, 0, a⟩
def nmE (s : ByteArray) (a : Nat) : Int := if lead goB (rest s a) > 16 then 112 else 0
end Go.Proofs.YtighocmdlifheaaDoor
