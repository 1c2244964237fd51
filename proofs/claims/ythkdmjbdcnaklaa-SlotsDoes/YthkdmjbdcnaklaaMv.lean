/-
  How a world has moved: what lay outside a footprint lies as it lay. The freed numbers as they lie in an arena.
-/
import Derived.Test.YthkdmjbdcnaklaaHp
namespace Go.Proofs.Ythkdmjbdcnaklaa
open Go.RowKit

structure Mv (w w' : World) (F : Nat → Prop) : Prop where
  os : w'.os = w.os
  tape : w'.tape = w.tape
  output : w'.output = w.output
  size : w.heap.size ≤ w'.heap.size
  block : ∀ k, k < w.heap.size → ¬ F k → w'.heap[k]? = w.heap[k]?

theorem Mv.refl (w : World) (F : Nat → Prop) : Mv w w F := ⟨rfl, rfl, rfl, Nat.le_refl _, fun _ _ _ => rfl⟩
theorem Mv.drew {w w' : World} {F : Nat → Prop} (h : Mv w w' F) : Mv w w'.drew F := ⟨h.os, h.tape, h.output, h.size, h.block⟩
theorem Mv.trans {w w' w'' : World} {F F' : Nat → Prop} (h : Mv w w' F) (k : Mv w' w'' F') (hF : ∀ b, F' b → F b ∨ w.heap.size ≤ b) : Mv w w'' F :=
  ⟨k.os.trans h.os, k.tape.trans h.tape, k.output.trans h.output, Nat.le_trans h.size k.size, fun b hb hn =>
    (k.block b (Nat.lt_of_lt_of_le hb h.size) (fun e => (hF b e).elim hn (fun h1 => by omega))).trans (h.block b hb hn)⟩
theorem Mv.mono {w w' : World} {F F' : Nat → Prop} (h : Mv w w' F) (hF : ∀ b, F b → F' b) : Mv w w' F' := ⟨h.os, h.tape, h.output, h.size, fun b hb hn => h.block b hb (fun e => hn (hF b e))⟩
theorem Mv.setCell {w w' : World} {F : Nat → Prop} (h : Mv w w' F) {a : Addr} (ha : F a.block ∨ w.heap.size ≤ a.block) (u : Value) : Mv w (w'.setCell a u) F :=
  h.trans (F' := fun b => b = a.block) ⟨rfl, rfl, rfl, by simp [World.setCell], fun b _ hn => Below.heap_setCell _ _ _ _ hn⟩ (fun b e => by cases e; exact ha)
theorem Mv.alloc {w w' : World} {F : Nat → Prop} (h : Mv w w' F) (o : Obj) : Mv w (w'.alloc o) F :=
  h.trans (F' := fun _ => False) ⟨rfl, rfl, rfl, by simp, fun b hb _ => Below.heap_alloc _ _ _ hb⟩ (fun b e => e.elim)
theorem Mv.grown {w w' w'' : World} {F : Nat → Prop} {row : Option Nat} (h : Mv w w' F) (hg : w'.grownBy w'' row) (hr : ∀ k, row = some k → F k ∨ w.heap.size ≤ k) : Mv w w'' F :=
  h.trans (F' := fun b => some b = row) ⟨hg.os, hg.tape, hg.output, hg.size, fun b hb hn => hg.block b hb hn⟩ (fun b e => hr b e.symm)
theorem Mv.below {w w' : World} {F : Nat → Prop} (h : Mv w w' F) {B : Nat} (hB : B ≤ w.heap.size) (hF : ∀ b, F b → B ≤ b) : Below B w w' :=
  ⟨h.os, h.tape, h.output, h.size, fun k hk => h.block k (by omega) (fun e => by have := hF k e; omega)⟩
theorem Mv.row {w w' : World} {F : Nat → Prop} (h : Mv w w' F) {e : TypeId} {s n : Nat} {v : Value} {f : Nat → Value} (hr : Row w e s v n f) (hn : ∀ k, v.ownBlock = some k → ¬ F k) : Row w' e s v n f :=
  hr.of_block (fun k hk => h.block k (hr.lt k hk) (hn k hk))

/-- The freed numbers of an arena at block A. -/
structure Fd (w : World) (A : Nat) (tA : TypeId) (c0 c1 c2 : Value) (fa : Option Addr) (fc n : Nat) (f : Nat → Int) : Prop where
  own : w.heap[A]? = some (.cells #[c0, c1, c2, .slice fa n fc] tA (0, 0))
  row : Row w 3 1 (.slice fa n fc) n (fun j => .int .i64 (f j))
  ty : tA ≠ 3

def Ft (A : Nat) (fa : Option Addr) (k : Nat) : Prop := k = A ∨ fa.map (·.block) = some k

variable {w : World} {A : Nat} {tA : TypeId} {c0 c1 c2 : Value} {fa : Option Addr} {fc n : Nat} {f : Nat → Int}
theorem Fd.cell (h : Fd w A tA c0 c1 c2 fa fc n f) : w.cell? ⟨A, 3, none⟩ = some (.slice fa n fc) := (own_cell h.own).1
theorem Fd.frozen (h : Fd w A tA c0 c1 c2 fa fc n f) : w.frozen? ⟨A, 3, none⟩ = false := (own_cell h.own).2
theorem Fd.ltA (h : Fd w A tA c0 c1 c2 fa fc n f) : A < w.heap.size := (Array.getElem?_eq_some_iff.1 h.own).1
theorem Fd.at (h : Fd w A tA c0 c1 c2 fa fc n f) (hn : 0 < n) : ∃ g, fa = some ⟨g, 0, none⟩ := by
  obtain ⟨ao, c, e, h1, _⟩ := h.row.form
  cases e
  exact h1 hn
theorem Fd.ne {g : Nat} (h : Fd w A tA c0 c1 c2 (some ⟨g, 0, none⟩) fc n f) : g ≠ A := by
  rintro rfl
  obtain ⟨c, fz, h1⟩ := h.row.kind g rfl
  rw [h.own] at h1
  simp at h1
  exact h.ty h1.2.1
theorem Fd.ownBlock (h : Fd w A tA c0 c1 c2 fa fc n f) : (Value.slice fa n fc).ownBlock = fa.map (·.block) := by
  cases fa <;> rfl
theorem Fd.neB (h : Fd w A tA c0 c1 c2 fa fc n f) : ∀ k, fa.map (·.block) = some k → k ≠ A := by
  intro k hk
  rcases h.row.form with ⟨ao, c, e, _, h2 | h2⟩
  · cases e; rw [h2.1] at hk; cases hk
  · cases e
    obtain ⟨g, rfl⟩ := h2
    cases hk
    exact h.ne
theorem Fd.drew (h : Fd w A tA c0 c1 c2 fa fc n f) : Fd w.drew A tA c0 c1 c2 fa fc n f := ⟨h.own, h.row, h.ty⟩
theorem Fd.mv {w' : World} {F : Nat → Prop} (h : Fd w A tA c0 c1 c2 fa fc n f) (m : Mv w w' F) (hA : ¬ F A) (hf : ∀ k, fa.map (·.block) = some k → ¬ F k) : Fd w' A tA c0 c1 c2 fa fc n f :=
  ⟨(m.block A h.ltA hA).trans h.own, m.row h.row (fun k hk => hf k (by rwa [h.ownBlock] at hk)), h.ty⟩
theorem Fd.congr {f' : Nat → Int} (h : Fd w A tA c0 c1 c2 fa fc n f) (he : ∀ j, j < n → f j = f' j) : Fd w A tA c0 c1 c2 fa fc n f' :=
  ⟨h.own, h.row.congr (fun j hj => by rw [he j (by omega)]), h.ty⟩
/-- A store into the freed numbers. -/
theorem Fd.set {g : Nat} (h : Fd w A tA c0 c1 c2 (some ⟨g, 0, none⟩) fc n f) (j : Nat) (x : Int) : Fd (w.setCell ⟨g, j, none⟩ (.int .i64 x)) A tA c0 c1 c2 (some ⟨g, 0, none⟩) fc n (fun i => if i = j then x else f i) :=
  ⟨by rw [Below.heap_setCell _ _ _ _ (fun e => h.ne e.symm)]; exact h.own, (h.row.set j _).congr (fun i _ => by split <;> rfl), h.ty⟩

end Go.Proofs.Ythkdmjbdcnaklaa
