/-
  Check, of the chapter's smallest strategy and of one without a state.
-/
import Derived.Test.YtighocmdlifheaaDoorCk
import Derived.Test.YtighocmdlifheaaDoorSm
import Derived.Test.YtighocmdlifheaaDoorNa
namespace Go.Proofs.YtighocmdlifheaaDoor
open Go.RowKit
theorem lies0 (w : World) : Lies w nd0 := .mk _ _ _ _ ⟨by decide, by decide, by decide, by decide, by decide, by decide, by decide, by decide, by decide, by decide, by decide, by decide, by decide⟩ (Nat.le_refl _) (by decide) (fun i hi => by simp at hi) (fun k hk => by cases hk)
theorem part_none (w : World) : Calls Tryd.prog 90 #[.agg #[.int .u8 0, .int .u8 0, .int .u8 0, .int .i64 0, .int .u8 0, .string ⟨#[]⟩, .slice none 0 0, .int .i64 0], .bool false] w fun e w' => e = .returned (.tuple #[]) ∧ Below w.heap.size w w' := by
  have cS : ∀ v, Calls Tryd.prog 21 #[.agg #[.int .u8 0, .int .u8 0, .int .u8 0, .int .i64 0, .int .u8 0, .string ⟨#[]⟩, .slice none 0 0, .int .i64 0], .agg #[.int .u8 0, .int .u8 0, .int .u8 0, .int .i64 0, .int .u8 0, .string ⟨#[]⟩, .slice none 0 0, .int .i64 0]] v fun e w' => e = .returned (.bool true) ∧ Below v.heap.size v w' := fun v => same_any nd0 nd0 v (lies0 v) (lies0 v)
  go_enter Tryd.func90, Tryd.ntmps90
  go_wp2_with fail
  refine (cS _).mono ?_
  rintro e w1 ⟨rfl, hb⟩
  have HB : Hid (Below w.heap.size w w1) := (below_new _ _).trans (hb.mono (by simp))
  clear hb
  go_wp2_with (go_at_call 63; refine (need_t 120 _).mono ?_; rintro e w3 ⟨rfl, e4⟩; obtain rfl := e4.symm)
  go_end0
  exact ⟨rfl, HB.out⟩
set_option maxRecDepth 100000 in
theorem name_ok (s : ByteArray) (hs : s.size ≤ 140737488355328) (hn : nameB s = true) (w : World) (ht : Tab w) : Calls Tryd.prog 64 #[.string s] w fun e w' => e = .returned (.tuple #[]) ∧ Below w.heap.size w w' := by
  have cN := namep_any s hs w ht
  rw [hn] at cN
  go_enter Tryd.func64, Tryd.ntmps64
  go_wp2_with (first | (go_at_call 70; refine cN.mono ?_; rintro e w1 ⟨rfl, hb⟩) | (go_at_call 63; refine (need_t 120 _).mono ?_; rintro e w3 ⟨rfl, e4⟩; obtain rfl := e4.symm))
  go_end0
  exact ⟨rfl, hb⟩
set_option maxRecDepth 100000 in
theorem count_ok (n l m : Int) (h1 : l ≤ n) (h2 : n ≤ m) (w : World) : Calls Tryd.prog 65 #[.int .i64 n, .int .i64 l, .int .i64 m] w fun e w' => e = .returned (.tuple #[]) ∧ w' = w := by
  have d1 : decide (l ≤ n) = true := decide_eq_true h1
  have d2 : decide (n ≤ m) = true := decide_eq_true h2
  go_enter Tryd.func65, Tryd.ntmps65
  go_wp2_with (go_at_call 63; refine (need_t _ _).mono ?_; rintro e w3 ⟨rfl, e4⟩; obtain rfl := e4.symm)
  go_end0
  exact ⟨rfl, rfl⟩
theorem snd2 (w : World) (A B : Obj) : ((w.alloc A).alloc B).heap[w.heap.size + 1]? = some B := by
  rw [← size_alloc w A]; exact heap_new _ _
set_option maxRecDepth 100000 in
theorem named_halt (w : World) : Calls Tryd.prog 88 #[.agg #[.int .u8 6, .int .u8 0, .string ⟨#[]⟩, .int .u8 0, .int .u8 0, .int .u8 0, .int .i64 0, .int .u8 0, .string ⟨#[]⟩, .slice none 0 0, .int .i64 0, .int .u8 0, .int .u8 0, .int .u8 0, .int .i64 0, .int .u8 0, .string ⟨#[]⟩, .slice none 0 0, .int .i64 0, .int .u8 0, .int .u8 0, .int .u8 0, .int .i64 0, .int .u8 0, .string ⟨#[]⟩, .slice none 0 0, .int .i64 0, .int .u8 0, .int .u8 0, .int .u8 0, .int .i64 0, .int .u8 0, .string ⟨#[]⟩, .slice none 0 0, .int .i64 0, .int .i64 0]] w fun e w' => e = .returned (.agg #[.bool false, .bool false, .bool false, .bool false, .bool false, .bool false]) ∧ Below w.heap.size w w' := by
  go_enter Tryd.func88, Tryd.ntmps88
  go_wp2_with fail
  exact bodyPost_ret (results_cell_row rfl _ _ (w.heap.size + 1) 169 #[.bool false, .bool false, .bool false, .bool false, .bool false, .bool false] (0, 0) _ rfl (snd2 _ _ _) Tryd.underlying169 rfl (by kernel_rfl)) rfl ⟨rfl, below_two _ _ _⟩
end Go.Proofs.YtighocmdlifheaaDoor
