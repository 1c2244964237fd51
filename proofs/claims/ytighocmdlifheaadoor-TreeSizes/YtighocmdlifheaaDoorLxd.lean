/-
  The walk of the document's number.
-/
import Derived.Test.YtighocmdlifheaaDoorLxm
import Derived.Deep.DeepCutAuto
import Derived.Deep.CutRange
namespace Go.Proofs.YtighocmdlifheaaDoor
open Go.RowKit
set_option linter.unusedSimpArgs false

def nbTy : List UInt8 → Int
  | [] => 1
  | c :: _ => if c.toNat = 113 then 2 else if c.toNat = 112 then 3 else if c.toNat = 116 then 4 else 1
def badH : List UInt8 → Bool
  | [] => false
  | c :: _ => goB c || upB c
def hd0 (l : List UInt8) : Bool := match l with | [] => false | c :: _ => decide (c.toNat = 48)
/-- Where a number ends, its number, its type; nothing, if it is none. -/
def nbO (s : ByteArray) (a : Nat) : Option (Nat × Nat × Int) :=
  match nmS (rest s a) 0 0 with
  | none => none
  | some (n, d) =>
    if n > 9223372036854775807 ∨ (d > 1 ∧ hd0 (rest s a) = true) then none
    else if badH (rest s (if nbTy (rest s (a + d)) = 1 then a + d else a + d + 1)) = true then none
    else some (n, if nbTy (rest s (a + d)) = 1 then a + d else a + d + 1, nbTy (rest s (a + d)))
def nbT (s : ByteArray) (a : Nat) : Tk := match nbO s a with | none => tk0 | some (n, e, ty) => ⟨3, s.extract a e, ty, n, a⟩
def nbE (s : ByteArray) (a : Nat) : Int := match nbO s a with | none => 113 | some _ => 0
theorem nb_no {s : ByteArray} {a : Nat} (h : nbO s a = none) : Hid (nbT s a = tk0 ∧ nbE s a = 113) := by show _ ∧ _; unfold nbT nbE; rw [h]; exact ⟨rfl, rfl⟩
theorem nb_yes {s : ByteArray} {a n e : Nat} {ty : Int} (h : nbO s a = some (n, e, ty)) : Hid (nbT s a = ⟨3, s.extract a e, ty, n, a⟩ ∧ nbE s a = 0) := by show _ ∧ _; unfold nbT nbE; rw [h]; exact ⟨rfl, rfl⟩
theorem nbO_of {s : ByteArray} {a i n : Nat} (h : nmS (rest s a) 0 0 = some (n, i - a)) (hi : a ≤ i) : nbO s a = if n > 9223372036854775807 ∨ (i - a > 1 ∧ hd0 (rest s a) = true) then none else if badH (rest s (if nbTy (rest s i) = 1 then i else i + 1)) = true then none else some (n, if nbTy (rest s i) = 1 then i else i + 1, nbTy (rest s i)) := by
  unfold nbO
  rw [h]
  simp only [show a + (i - a) = i by omega]
theorem heap_fst (w : World) (X Y : Obj) : ((w.alloc X).alloc Y).heap[w.heap.size]? = some X := heap_old (heap_new w X) (by rw [size_alloc]; omega)
theorem up_lo {c : UInt8} (h : (c.toNat : Int) < 65) : upB c = false := by unfold upB; exact decide_eq_false (by omega)

end Go.Proofs.YtighocmdlifheaaDoor
