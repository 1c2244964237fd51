/-
  A book of lists while they come in: each lies in memory of its own.
-/
import Derived.Test.YtelanneckjgnbaaDoorBt
import Derived.Test.YtelanneckjgnbaaDoorWk
namespace Go.Proofs.YtelanneckjgnbaaDoor
open Go.RowKit

theorem Mv.ofBelow {w v : World} (h : Below w.heap.size w v) : Mv w v (fun _ => False) := ⟨h.os, h.tape, h.output, h.size, fun b hb _ => h.block b hb⟩
theorem Mv.toBelow {w v : World} (h : Mv w v (fun _ => False)) : Below w.heap.size w v := h.below (Nat.le_refl _) (fun _ e => e.elim)
/-- The first i lists are in. -/
structure Bag (e le : TypeId) (s : Nat) (w v : World) (i : Nat) (lv : Value) (V : Nat → Value) (n : Nat → Nat) (C : Nat → Nat → Value) : Prop where
  row : ∀ j, j < i → Row v e s (V j) (n j) (C j)
  long : Row v le 1 lv i V
  dis : ∀ j j', j < i → j' < i → j ≠ j' → ∀ b, (V j).ownBlock = some b → (V j').ownBlock ≠ some b
  new : ∀ j, j < i → ∀ b, (V j).ownBlock = some b → w.heap.size ≤ b
  lnew : ∀ b, lv.ownBlock = some b → w.heap.size ≤ b
  B : Below w.heap.size w v
section
variable {e le : TypeId} {s : Nat} {w v v' : World} {i : Nat} {lv : Value} {V : Nat → Value} {n : Nat → Nat} {C : Nat → Nat → Value}
theorem Bag.hid (h : Bag e le s w v i lv V n C) : Hid (Bag e le s w v i lv V n C) := h
theorem Bag.call (h : Bag e le s w v i lv V n C) (k : Below v.heap.size v v') : Bag e le s w v' i lv V n C :=
  ⟨fun j hj => (h.row j hj).of_block (fun b hb => k.block b ((h.row j hj).lt b hb)), h.long.of_block (fun b hb => k.block b (h.long.lt b hb)), h.dis, h.new, h.lnew, below2 h.B k⟩
/-- One more is put in. -/
theorem Bag.add {X lv' : Value} {m bk : Nat} {f : Nat → Value} (hel : e ≠ le) (h : Bag e le s w v i lv V n C) (hX : Row v e s X m f) (hnew : ∀ b, X.ownBlock = some b → w.heap.size ≤ b)
    (hd : ∀ j, j < i → ∀ b, (V j).ownBlock = some b → X.ownBlock ≠ some b) (hbk : w.heap.size ≤ bk) (hbr : ∀ (x : Value) (m : Nat) (f : Nat → Value), Row v e s x m f → x.ownBlock ≠ some bk)
    (hr : Row v' le 1 lv' (i + 1) (fun j => if j = i then X else V j)) (ho : lv'.ownBlock = lv.ownBlock ∨ ∃ q, lv'.ownBlock = some q ∧ v.heap.size ≤ q) (hm : Mv v v' (fun b => b = bk ∨ lv.ownBlock = some b)) :
    Bag e le s w v' (i + 1) lv' (fun j => if j = i then X else V j) (fun j => if j = i then m else n j) (fun j => if j = i then f else C j) := by
  have keep : ∀ {x : Value} {m : Nat} {f : Nat → Value}, Row v e s x m f → Row v' e s x m f := fun hx => hm.row hx (fun b hb h' => h'.elim (fun e1 => hbr _ _ _ hx (by rw [hb, e1])) (fun e1 => (hx.apart h.long hel) b hb e1))
  refine ⟨fun j hj => ?_, hr, fun j j' hj hj' hne b => ?_, fun j hj b => ?_, fun b hb => ?_, ?_⟩
  · by_cases e1 : j = i
    · simp only [e1, if_true]; exact keep hX
    · simp only [e1, if_false]; exact keep (h.row j (by omega))
  · by_cases e1 : j = i
    · have e2 : ¬ j' = i := by omega
      simp only [e1, e2, if_true, if_false]
      exact fun hb hb' => hd j' (by omega) b hb' hb
    · by_cases e2 : j' = i
      · simp only [e1, e2, if_true, if_false]
        exact fun hb => hd j (by omega) b hb
      · simp only [e1, e2, if_false]
        exact h.dis j j' (by omega) (by omega) hne b
  · by_cases e1 : j = i
    · simp only [e1, if_true]; exact hnew b
    · simp only [e1, if_false]; exact h.new j (by omega) b
  · rcases ho with h1 | ⟨q, h1, hq⟩
    · rw [h1] at hb; exact h.lnew b hb
    · rw [h1] at hb; cases hb; exact Nat.le_trans h.B.size hq
  · refine h.B.trans (hm.below h.B.size (fun b hb => ?_))
    rcases hb with h1 | h1
    · rw [h1]; exact hbk
    · exact h.lnew b h1
/-- All are in: what the owner's look asks. -/
theorem Bag.own {g c : Nat} (hel : e ≠ le) (h : Bag e le s w v i (.slice (some ⟨g, 0, none⟩) i c) V n C) : Aprt v g i V ∧ P1 e s v v g i V n C := by
  refine ⟨⟨h.dis, fun j hj hb => (h.row j hj).apart h.long hel g hb rfl, fun j hj b hb => (h.row j hj).lt b hb, h.long.lt g rfl⟩, ⟨h.row, fun j hj => h.long.cell (by omega), Mv.refl _ _⟩⟩
end
end Go.Proofs.YtelanneckjgnbaaDoor
