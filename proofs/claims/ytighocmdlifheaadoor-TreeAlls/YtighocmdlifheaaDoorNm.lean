/-
  named: what a node says, with nothing but what its kind names.
-/
import Derived.Test.YtighocmdlifheaaDoorSf
namespace Go.Proofs.YtighocmdlifheaaDoor
open Go.RowKit
theorem mid3 (w : World) (A B C : Obj) : (((w.alloc A).alloc B).alloc C).heap[w.heap.size + 1]? = some B := by
  refine heap_old ?_ (by rw [size_alloc, size_alloc]; omega)
  rw [← size_alloc w A]; exact heap_new _ _
theorem below3 (w : World) (A B C : Obj) : Below w.heap.size w (((w.alloc A).alloc B).alloc C) := (below_two _ _ _).alloc (by rw [size_alloc, size_alloc]; omega) _
set_option maxRecDepth 100000 in
set_option maxHeartbeats 2000000 in
theorem nm_1 (o t n f : Int) (x : ByteArray) (w : World) : Calls Tryd.prog 68 #[.agg #[.int .u8 1, .int .u8 o, .int .u8 t, .int .i64 n, .int .u8 f, .string x]] w fun e w' => e = .returned (.agg #[.int .u8 1, .int .u8 0, .int .u8 t, .int .i64 n, .int .u8 0, .string ⟨#[]⟩]) ∧ Below w.heap.size w w' := by
  go_enter Tryd.func68, Tryd.ntmps68
  go_wp2_with fail
  exact bodyPost_ret (results_cell_row rfl _ _ (w.heap.size + 1) 95 #[.int .u8 1, .int .u8 0, .int .u8 t, .int .i64 n, .int .u8 0, .string ⟨#[]⟩] (0, 0) _ rfl (mid3 _ _ _ _) Tryd.underlying95 rfl (by kernel_rfl)) rfl ⟨rfl, below3 _ _ _ _⟩
set_option maxRecDepth 100000 in
set_option maxHeartbeats 2000000 in
theorem nm_9 (o t n f : Int) (x : ByteArray) (w : World) : Calls Tryd.prog 68 #[.agg #[.int .u8 9, .int .u8 o, .int .u8 t, .int .i64 n, .int .u8 f, .string x]] w fun e w' => e = .returned (.agg #[.int .u8 9, .int .u8 0, .int .u8 t, .int .i64 0, .int .u8 0, .string ⟨#[]⟩]) ∧ Below w.heap.size w w' := by
  go_enter Tryd.func68, Tryd.ntmps68
  go_wp2_with fail
  exact bodyPost_ret (results_cell_row rfl _ _ (w.heap.size + 1) 95 #[.int .u8 9, .int .u8 0, .int .u8 t, .int .i64 0, .int .u8 0, .string ⟨#[]⟩] (0, 0) _ rfl (mid3 _ _ _ _) Tryd.underlying95 rfl (by kernel_rfl)) rfl ⟨rfl, below3 _ _ _ _⟩
set_option maxRecDepth 100000 in
set_option maxHeartbeats 2000000 in
theorem nm_2 (o t n f : Int) (x : ByteArray) (w : World) : Calls Tryd.prog 68 #[.agg #[.int .u8 2, .int .u8 o, .int .u8 t, .int .i64 n, .int .u8 f, .string x]] w fun e w' => e = .returned (.agg #[.int .u8 2, .int .u8 0, .int .u8 0, .int .i64 0, .int .u8 0, .string x]) ∧ Below w.heap.size w w' := by
  go_enter Tryd.func68, Tryd.ntmps68
  go_wp2_with fail
  exact bodyPost_ret (results_cell_row rfl _ _ (w.heap.size + 1) 95 #[.int .u8 2, .int .u8 0, .int .u8 0, .int .i64 0, .int .u8 0, .string x] (0, 0) _ rfl (mid3 _ _ _ _) Tryd.underlying95 rfl (by kernel_rfl)) rfl ⟨rfl, below3 _ _ _ _⟩
set_option maxRecDepth 100000 in
set_option maxHeartbeats 2000000 in
theorem nm_3 (o t n f : Int) (x : ByteArray) (w : World) : Calls Tryd.prog 68 #[.agg #[.int .u8 3, .int .u8 o, .int .u8 t, .int .i64 n, .int .u8 f, .string x]] w fun e w' => e = .returned (.agg #[.int .u8 3, .int .u8 0, .int .u8 0, .int .i64 0, .int .u8 f, .string ⟨#[]⟩]) ∧ Below w.heap.size w w' := by
  go_enter Tryd.func68, Tryd.ntmps68
  go_wp2_with fail
  exact bodyPost_ret (results_cell_row rfl _ _ (w.heap.size + 1) 95 #[.int .u8 3, .int .u8 0, .int .u8 0, .int .i64 0, .int .u8 f, .string ⟨#[]⟩] (0, 0) _ rfl (mid3 _ _ _ _) Tryd.underlying95 rfl (by kernel_rfl)) rfl ⟨rfl, below3 _ _ _ _⟩
set_option maxRecDepth 100000 in
set_option maxHeartbeats 2000000 in
theorem nm_4 (o t n f : Int) (x : ByteArray) (w : World) : Calls Tryd.prog 68 #[.agg #[.int .u8 4, .int .u8 o, .int .u8 t, .int .i64 n, .int .u8 f, .string x]] w fun e w' => e = .returned (.agg #[.int .u8 4, .int .u8 0, .int .u8 0, .int .i64 0, .int .u8 f, .string ⟨#[]⟩]) ∧ Below w.heap.size w w' := by
  go_enter Tryd.func68, Tryd.ntmps68
  go_wp2_with fail
  exact bodyPost_ret (results_cell_row rfl _ _ (w.heap.size + 1) 95 #[.int .u8 4, .int .u8 0, .int .u8 0, .int .i64 0, .int .u8 f, .string ⟨#[]⟩] (0, 0) _ rfl (mid3 _ _ _ _) Tryd.underlying95 rfl (by kernel_rfl)) rfl ⟨rfl, below3 _ _ _ _⟩
set_option maxRecDepth 100000 in
set_option maxHeartbeats 2000000 in
theorem nm_5 (o t n f : Int) (x : ByteArray) (w : World) : Calls Tryd.prog 68 #[.agg #[.int .u8 5, .int .u8 o, .int .u8 t, .int .i64 n, .int .u8 f, .string x]] w fun e w' => e = .returned (.agg #[.int .u8 5, .int .u8 o, .int .u8 0, .int .i64 0, .int .u8 0, .string ⟨#[]⟩]) ∧ Below w.heap.size w w' := by
  go_enter Tryd.func68, Tryd.ntmps68
  go_wp2_with fail
  exact bodyPost_ret (results_cell_row rfl _ _ (w.heap.size + 1) 95 #[.int .u8 5, .int .u8 o, .int .u8 0, .int .i64 0, .int .u8 0, .string ⟨#[]⟩] (0, 0) _ rfl (mid3 _ _ _ _) Tryd.underlying95 rfl (by kernel_rfl)) rfl ⟨rfl, below3 _ _ _ _⟩
set_option maxRecDepth 100000 in
set_option maxHeartbeats 2000000 in
theorem nm_6 (o t n f : Int) (x : ByteArray) (w : World) : Calls Tryd.prog 68 #[.agg #[.int .u8 6, .int .u8 o, .int .u8 t, .int .i64 n, .int .u8 f, .string x]] w fun e w' => e = .returned (.agg #[.int .u8 6, .int .u8 o, .int .u8 0, .int .i64 0, .int .u8 0, .string ⟨#[]⟩]) ∧ Below w.heap.size w w' := by
  go_enter Tryd.func68, Tryd.ntmps68
  go_wp2_with fail
  exact bodyPost_ret (results_cell_row rfl _ _ (w.heap.size + 1) 95 #[.int .u8 6, .int .u8 o, .int .u8 0, .int .i64 0, .int .u8 0, .string ⟨#[]⟩] (0, 0) _ rfl (mid3 _ _ _ _) Tryd.underlying95 rfl (by kernel_rfl)) rfl ⟨rfl, below3 _ _ _ _⟩
set_option maxRecDepth 100000 in
set_option maxHeartbeats 2000000 in
theorem nm_8 (o t n f : Int) (x : ByteArray) (w : World) : Calls Tryd.prog 68 #[.agg #[.int .u8 8, .int .u8 o, .int .u8 t, .int .i64 n, .int .u8 f, .string x]] w fun e w' => e = .returned (.agg #[.int .u8 8, .int .u8 o, .int .u8 0, .int .i64 0, .int .u8 0, .string ⟨#[]⟩]) ∧ Below w.heap.size w w' := by
  go_enter Tryd.func68, Tryd.ntmps68
  go_wp2_with fail
  exact bodyPost_ret (results_cell_row rfl _ _ (w.heap.size + 1) 95 #[.int .u8 8, .int .u8 o, .int .u8 0, .int .i64 0, .int .u8 0, .string ⟨#[]⟩] (0, 0) _ rfl (mid3 _ _ _ _) Tryd.underlying95 rfl (by kernel_rfl)) rfl ⟨rfl, below3 _ _ _ _⟩
set_option maxRecDepth 100000 in
set_option maxHeartbeats 2000000 in
theorem nm_z (k : Int) (e1 : (k == 1) = false) (e2 : (k == 2) = false) (e3 : (k == 3) = false) (e4 : (k == 4) = false) (e5 : (k == 5) = false) (e6 : (k == 6) = false) (e8 : (k == 8) = false) (e9 : (k == 9) = false) (o t n f : Int) (x : ByteArray) (w : World) : Calls Tryd.prog 68 #[.agg #[.int .u8 k, .int .u8 o, .int .u8 t, .int .i64 n, .int .u8 f, .string x]] w fun e w' => e = .returned (.agg #[.int .u8 k, .int .u8 0, .int .u8 0, .int .i64 0, .int .u8 0, .string ⟨#[]⟩]) ∧ Below w.heap.size w w' := by
  go_enter Tryd.func68, Tryd.ntmps68
  go_wp2_with fail
  exact bodyPost_ret (results_cell_row rfl _ _ (w.heap.size + 1) 95 #[.int .u8 k, .int .u8 0, .int .u8 0, .int .i64 0, .int .u8 0, .string ⟨#[]⟩] (0, 0) _ rfl (mid3 _ _ _ _) Tryd.underlying95 rfl (by kernel_rfl)) rfl ⟨rfl, below3 _ _ _ _⟩
theorem named_any (h : Hd) (w : World) : Calls Tryd.prog 68 #[.agg (selfA h)] w fun e w' => e = .returned (.agg (selfA (nm h))) ∧ Below w.heap.size w w' := by
  obtain ⟨k, o, t, n, f, x, p⟩ := h
  unfold selfA nm
  simp only
  by_cases e1 : k = 1
  · subst e1; exact nm_1 o t n f x w
  by_cases e9 : k = 9
  · subst e9; exact nm_9 o t n f x w
  by_cases e2 : k = 2
  · subst e2; exact nm_2 o t n f x w
  by_cases e3 : k = 3
  · subst e3; exact nm_3 o t n f x w
  by_cases e4 : k = 4
  · subst e4; exact nm_4 o t n f x w
  by_cases e5 : k = 5
  · subst e5; exact nm_5 o t n f x w
  by_cases e6 : k = 6
  · subst e6; exact nm_6 o t n f x w
  by_cases e8 : k = 8
  · subst e8; exact nm_8 o t n f x w
  rw [if_neg e1, if_neg e9, if_neg e2, if_neg (by omega), if_neg (by omega)]
  exact nm_z k (by simp [e1]) (by simp [e2]) (by simp [e3]) (by simp [e4]) (by simp [e5]) (by simp [e6]) (by simp [e8]) (by simp [e9]) o t n f x w
end Go.Proofs.YtighocmdlifheaaDoor
