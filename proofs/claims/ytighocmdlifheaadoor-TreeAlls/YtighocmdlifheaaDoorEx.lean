/-
  The chapter's examples: sum, least.
-/
import Derived.Test.YtighocmdlifheaaDoorRu
namespace Go.Proofs.YtighocmdlifheaaDoor
open Go.RowKit
def litN (n : Int) : Nd := .mk ⟨1, 0, 1, n, 0, ⟨#[]⟩, 0⟩ none 0 []
def inN (b : Nat) : Nd := .mk ⟨6, 6, 0, 0, 0, ⟨#[]⟩, 5⟩ (some ⟨b, 0, none⟩) 2 [litN 2, litN 3]
def sumN (b c : Nat) : Nd := .mk ⟨6, 6, 0, 0, 0, ⟨#[]⟩, 0⟩ (some ⟨c, 0, none⟩) 2 [litN 1, inN b]
theorem lies_l1 (w : World) : Lies w (litN 1) := .mk _ _ _ _ ⟨by decide, by decide, by decide, by decide, by decide, by decide, by decide, by decide, by decide, by decide, by decide, by decide, by decide⟩ (Nat.le_refl _) (by decide) (fun i hi => by simp at hi) (fun k hk => by cases hk)
theorem lies_l2 (w : World) : Lies w (litN 2) := .mk _ _ _ _ ⟨by decide, by decide, by decide, by decide, by decide, by decide, by decide, by decide, by decide, by decide, by decide, by decide, by decide⟩ (Nat.le_refl _) (by decide) (fun i hi => by simp at hi) (fun k hk => by cases hk)
theorem lies_l3 (w : World) : Lies w (litN 3) := .mk _ _ _ _ ⟨by decide, by decide, by decide, by decide, by decide, by decide, by decide, by decide, by decide, by decide, by decide, by decide, by decide⟩ (Nat.le_refl _) (by decide) (fun i hi => by simp at hi) (fun k hk => by cases hk)
theorem lies_sum {w : World} {b c : Nat} (h1 : w.heap[b]? = some (.cells ((litN 2).vals ++ (litN 3).vals) 28 (0, 0))) (h2 : w.heap[c]? = some (.cells ((litN 1).vals ++ (inN b).vals) 28 (0, 0))) : Lies w (sumN b c) := by
  have hi : Lies w (inN b) := by
    refine .mk _ _ _ _ ⟨by decide, by decide, by decide, by decide, by decide, by decide, by decide, by decide, by decide, by decide, by decide, by decide, by decide⟩ (Nat.le_refl _) (by decide) (fun i hi => ⟨b, 0, rfl, ?_⟩) (fun k hk => ?_)
    · rcases (by simp at hi; omega : i = 0 ∨ i = 1) with rfl | rfl
      · exact ⟨cell_of h1 0, cell_of h1 1, cell_of h1 2, cell_of h1 3, cell_of h1 4, cell_of h1 5, cell_of h1 6, cell_of h1 7⟩
      · exact ⟨cell_of h1 8, cell_of h1 9, cell_of h1 10, cell_of h1 11, cell_of h1 12, cell_of h1 13, cell_of h1 14, cell_of h1 15⟩
    · simp at hk
      rcases hk with rfl | rfl
      · exact lies_l2 w
      · exact lies_l3 w
  refine .mk _ _ _ _ ⟨by decide, by decide, by decide, by decide, by decide, by decide, by decide, by decide, by decide, by decide, by decide, by decide, by decide⟩ (Nat.le_refl _) (by decide) (fun i hi => ⟨c, 0, rfl, ?_⟩) (fun k hk => ?_)
  · rcases (by simp at hi; omega : i = 0 ∨ i = 1) with rfl | rfl
    · exact ⟨cell_of h2 0, cell_of h2 1, cell_of h2 2, cell_of h2 3, cell_of h2 4, cell_of h2 5, cell_of h2 6, cell_of h2 7⟩
    · exact ⟨cell_of h2 8, cell_of h2 9, cell_of h2 10, cell_of h2 11, cell_of h2 12, cell_of h2 13, cell_of h2 14, cell_of h2 15⟩
  · simp at hk
    rcases hk with rfl | rfl
    · exact lies_l1 w
    · exact hi
theorem new1 (w : World) (A B : Obj) : ((w.alloc A).alloc B).heap[w.heap.size + 1]? = some B := by
  have := heap_new (w.alloc A) B
  rwa [size_alloc] at this
theorem new2 (w : World) (A B C : Obj) : (((w.alloc A).alloc B).alloc C).heap[w.heap.size + 1 + 1]? = some C := by
  have := heap_new ((w.alloc A).alloc B) C
  rwa [size_alloc, size_alloc] at this
theorem new3 (w : World) (A B C D : Obj) : ((((w.alloc A).alloc B).alloc C).alloc D).heap[w.heap.size + 1 + 1 + 1]? = some D := by
  have := heap_new (((w.alloc A).alloc B).alloc C) D
  rwa [size_alloc, size_alloc, size_alloc] at this
theorem new4 (w : World) (A B C D E : Obj) : (((((w.alloc A).alloc B).alloc C).alloc D).alloc E).heap[w.heap.size + 1 + 1 + 1 + 1]? = some E := by
  have := heap_new ((((w.alloc A).alloc B).alloc C).alloc D) E
  rwa [size_alloc, size_alloc, size_alloc, size_alloc] at this
theorem four {w : World} {A B C D : Obj} : ((((w.alloc A).alloc B).alloc C).alloc D).heap[w.heap.size]? = some A ∧ ((((w.alloc A).alloc B).alloc C).alloc D).heap[w.heap.size + 1]? = some B ∧ ((((w.alloc A).alloc B).alloc C).alloc D).heap[w.heap.size + 1 + 1 + 1]? = some D :=
  ⟨heap_old (heap_old (heap_old (heap_new w A) (by simp)) (by simp <;> omega)) (by simp <;> omega), heap_old (heap_old (new1 w A B) (by simp)) (by simp <;> omega), new3 w A B C D⟩
theorem below4 (w : World) (A B C D : Obj) : Below w.heap.size w ((((w.alloc A).alloc B).alloc C).alloc D) := (((below_new w A).alloc (by simp) B).alloc (by simp <;> omega) C).alloc (by simp <;> omega) D
set_option maxRecDepth 100000 in
set_option maxHeartbeats 4000000 in
theorem sum_any (w : World) : Calls Tryd.prog 22 #[] w fun e w' => (∃ b c, e = .returned (.agg (sumN b c).vals) ∧ Lies w' (sumN b c)) ∧ Below w.heap.size w w' := by
  go_enter Tryd.func22, Tryd.ntmps22
  go_wp2_with fail
  exact bodyPost_ret (results_cell_row rfl _ _ w.heap.size 28 (sumN (w.heap.size + 1) (w.heap.size + 1 + 1 + 1)).vals (0, 0) _ rfl four.1 Tryd.underlying28 rfl (by kernel_rfl)) rfl ⟨⟨_, _, rfl, lies_sum four.2.1 four.2.2⟩, below4 _ _ _ _ _⟩
/-- The chapter's smallest strategy, as it lies. -/
structure Least (w : World) (b2 b3 b4 : Nat) : Prop where
  h2 : w.heap[b2]? = some (.cells (doZ 6).toArray 104 (0, 0))
  h3 : w.heap[b3]? = some (.cells #[.int .u8 4, .int .u8 0, .int .u8 0, .int .i64 0, .int .u8 1, .string ⟨#[]⟩, .slice none 0 0, .int .i64 0, .slice (some ⟨b2, 0, none⟩) 1 1, .int .i64 0] 75 (0, 0))
  h4 : w.heap[b4]? = some (.cells #[.string ⟨#[97]⟩, .slice (some ⟨b3, 0, none⟩) 1 1, .int .i64 0] 78 (0, 0))
theorem five {w : World} {A B C D E : Obj} : (((((w.alloc A).alloc B).alloc C).alloc D).alloc E).heap[w.heap.size]? = some A ∧ (((((w.alloc A).alloc B).alloc C).alloc D).alloc E).heap[w.heap.size + 1 + 1]? = some C ∧ (((((w.alloc A).alloc B).alloc C).alloc D).alloc E).heap[w.heap.size + 1 + 1 + 1]? = some D ∧ (((((w.alloc A).alloc B).alloc C).alloc D).alloc E).heap[w.heap.size + 1 + 1 + 1 + 1]? = some E :=
  ⟨heap_old four.1 (by simp <;> omega), heap_old (heap_old (new2 w A B C) (by simp)) (by simp <;> omega), heap_old four.2.2 (by simp), new4 w A B C D E⟩
set_option maxRecDepth 100000 in
set_option maxHeartbeats 4000000 in
theorem least_any (w : World) : Calls Tryd.prog 27 #[] w fun e w' => (∃ b2 b3 b4, e = .returned (.agg #[.string ⟨#[115]⟩, .slice none 0 0, .slice none 0 0, .slice (some ⟨b4, 0, none⟩) 1 1]) ∧ Least w' b2 b3 b4) ∧ Below w.heap.size w w' := by
  go_enter Tryd.func27, Tryd.ntmps27
  go_wp2_with fail
  exact bodyPost_ret (results_cell_row rfl _ _ w.heap.size 71 #[.string ⟨#[115]⟩, .slice none 0 0, .slice none 0 0, .slice (some ⟨w.heap.size + 1 + 1 + 1 + 1, 0, none⟩) 1 1] (0, 0) _ rfl five.1 Tryd.underlying71 rfl (by kernel_rfl)) rfl ⟨⟨w.heap.size + 1 + 1, w.heap.size + 1 + 1 + 1, w.heap.size + 1 + 1 + 1 + 1, rfl, five.2.1, five.2.2.1, five.2.2.2⟩, (below4 _ _ _ _ _).alloc (by simp <;> omega) _⟩
end Go.Proofs.YtighocmdlifheaaDoor
