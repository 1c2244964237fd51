/-
  fits: are the fields that a kind names as they may be?
-/
import Derived.Test.YtighocmdlifheaaDoorSf
import Derived.Test.YtighocmdlifheaaDoorPl
namespace Go.Proofs.YtighocmdlifheaaDoor
open Go.RowKit
theorem wU_any (F : Nat) (x a b : Int) (w : World) (hF : F = 71 ∨ F = 75 ∨ F = 76 ∨ F = 87 ∨ F = 89) : Calls Tryd.prog F #[.int .u8 x, .int .u8 a, .int .u8 b] w fun e w' => e = .returned (.bool (decide (a ≤ x ∧ x ≤ b))) ∧ w' = w := by
  rcases hF with rfl | rfl | rfl | rfl | rfl
  · go_enter Tryd.func71, Tryd.ntmps71
    go_wp2
    all_goals go_ret
    all_goals exact ⟨retB (by simp_all; try omega), rfl⟩
  · go_enter Tryd.func75, Tryd.ntmps75
    go_wp2
    all_goals go_ret
    all_goals exact ⟨retB (by simp_all; try omega), rfl⟩
  · go_enter Tryd.func76, Tryd.ntmps76
    go_wp2
    all_goals go_ret
    all_goals exact ⟨retB (by simp_all; try omega), rfl⟩
  · go_enter Tryd.func87, Tryd.ntmps87
    go_wp2
    all_goals go_ret
    all_goals exact ⟨retB (by simp_all; try omega), rfl⟩
  · go_enter Tryd.func89, Tryd.ntmps89
    go_wp2
    all_goals go_ret
    all_goals exact ⟨retB (by simp_all; try omega), rfl⟩
theorem wI_any (x a b : Int) (w : World) : Calls Tryd.prog 80 #[.int .i64 x, .int .i64 a, .int .i64 b] w fun e w' => e = .returned (.bool (decide (a ≤ x ∧ x ≤ b))) ∧ w' = w := by
  go_enter Tryd.func80, Tryd.ntmps80
  go_wp2
  all_goals go_ret
  all_goals exact ⟨retB (by simp_all; try omega), rfl⟩
theorem isNumber_any (t : Int) (w : World) : Calls Tryd.prog 77 #[.int .u8 t] w fun e w' => e = .returned (.bool (numB t)) ∧ w' = w := by
  go_enter Tryd.func77, Tryd.ntmps77
  go_wp2_with (go_at_call 71; refine (wU_any 71 _ _ _ _ (by simp)).mono ?_; rintro e w' ⟨rfl, rfl⟩)
  go_ret
  exact ⟨retB (by simp [numB]), rfl⟩
theorem isLiteral_any (t n : Int) (w : World) : Calls Tryd.prog 74 #[.int .u8 t, .int .i64 n] w fun e w' => e = .returned (.bool (litB t n)) ∧ w' = w := by
  unfold litB
  by_cases h5 : t = 5
  · subst h5
    rw [if_pos rfl]
    go_enter Tryd.func74, Tryd.ntmps74
    go_wp2_with (go_at_call 80; refine (wI_any _ _ _ _).mono ?_; rintro e w' ⟨rfl, rfl⟩)
    go_ret
    exact ⟨retB (by simp), rfl⟩
  by_cases h6 : t = 6
  · subst h6
    rw [if_neg (by decide), if_pos rfl]
    go_enter Tryd.func74, Tryd.ntmps74
    go_wp2_with (go_at_call 80; refine (wI_any _ _ _ _).mono ?_; rintro e w' ⟨rfl, rfl⟩)
    go_ret
    exact ⟨retB (by simp), rfl⟩
  rw [if_neg h5, if_neg h6]
  have e5 : (t == 5) = false := by simp [h5]
  have e6 : (t == 6) = false := by simp [h6]
  have cN := isNumber_any t
  obtain ⟨B, eB⟩ : ∃ B, numB t = B := ⟨_, rfl⟩
  rw [eB]
  simp only [eB] at cN
  clear eB h5 h6
  cases B with
  | true =>
    go_enter Tryd.func74, Tryd.ntmps74
    go_wp2_with (go_at_call 77; refine (cN _).mono ?_; rintro e w' ⟨rfl, rfl⟩)
    go_ret
    exact ⟨retB (by simp), rfl⟩
  | false =>
    go_enter Tryd.func74, Tryd.ntmps74
    go_wp2_with (go_at_call 77; refine (cN _).mono ?_; rintro e w' ⟨rfl, rfl⟩)
    go_ret
    exact ⟨retB (by simp), rfl⟩
end Go.Proofs.YtighocmdlifheaaDoor
