/-
  The walk of the statements' head: what the chapter's examples fix.
-/
import Derived.Test.YtfdnfdakejabaaaMuldiv
import Derived.Test.YtfdnfdakejabaaaSum
namespace Go.Proofs.Ytfdnfdakejabaaa
open Go.RowKit

theorem mul_ex1 (w : World) : Calls Try.prog 13 #[.int .i64 3037000499, .int .i64 3037000499] w fun e w' => e = .returned (.tuple #[.int .i64 9223372030926249001, .bool true]) ∧ w' = w := by
  have h := mul_any 3037000499 3037000499 (by decide) (by decide) (by decide) (by decide) w
  have e1 : fitN (3037000499 * 3037000499) = 9223372030926249001 := by decide +kernel
  have e2 : fitB (3037000499 * 3037000499) = true := by decide +kernel
  rw [e1, e2] at h; exact h
theorem mul_ex2 (w : World) : Calls Try.prog 13 #[.int .i64 3037000500, .int .i64 3037000500] w fun e w' => e = .returned (.tuple #[.int .i64 0, .bool false]) ∧ w' = w := by
  have h := mul_any 3037000500 3037000500 (by decide) (by decide) (by decide) (by decide) w
  have e1 : fitN (3037000500 * 3037000500) = 0 := by decide +kernel
  have e2 : fitB (3037000500 * 3037000500) = false := by decide +kernel
  rw [e1, e2] at h; exact h
theorem div_ex (w : World) : Calls Try.prog 15 #[.int .i64 (-7), .int .i64 2] w fun e w' => e = .returned (.tuple #[.int .i64 (-3), .bool true]) ∧ w' = w := by
  have h := div_any (-7) 2 (by decide) (by decide) w
  have e1 : byN (-7) 2 = -3 := by decide +kernel
  have e2 : byB (-7) 2 = true := by decide +kernel
  rw [e1, e2] at h; exact h
theorem mod_ex (w : World) : Calls Try.prog 17 #[.int .i64 (-7), .int .i64 2] w fun e w' => e = .returned (.tuple #[.int .i64 (-1), .bool true]) ∧ w' = w := by
  have h := mod_any (-7) 2 w
  have e1 : restN (-7) 2 = -1 := by decide +kernel
  have e2 : restB 2 = true := by decide +kernel
  rw [e1, e2] at h; exact h
theorem muldiv_ex (w : World) : Calls Try.prog 21 #[.int .i64 (-7), .int .i64 3, .int .i64 2] w fun e w' => e = .returned (.tuple #[.int .i64 (-10), .bool true]) ∧ ∃ n, w' = w.drewN n := by
  have h := muldiv_any (-7) 3 2 (by decide) (by decide) (by decide) (by decide) (by decide) (by decide) w
  have e1 : byN (-7 * 3) 2 = -10 := by decide +kernel
  have e2 : byB (-7 * 3) 2 = true := by decide +kernel
  rw [e1, e2] at h; exact h
theorem add_ex (w : World) : Calls Try.prog 9 #[.int .i64 2, .int .i64 3] w fun e w' => e = .returned (.tuple #[.int .i64 5, .bool true]) ∧ w' = w := by
  have h := add_any 2 3 (by decide) (by decide) (by decide) (by decide) w
  have e1 : fitN (2 + 3) = 5 := by decide +kernel
  have e2 : fitB (2 + 3) = true := by decide +kernel
  rw [e1, e2] at h; exact h
theorem sub_ex (w : World) : Calls Try.prog 11 #[.int .i64 2, .int .i64 3] w fun e w' => e = .returned (.tuple #[.int .i64 (-1), .bool true]) ∧ w' = w := by
  have h := sub_any 2 3 (by decide) (by decide) (by decide) (by decide) w
  have e1 : fitN (2 - 3) = -1 := by decide +kernel
  have e2 : fitB (2 - 3) = true := by decide +kernel
  rw [e1, e2] at h; exact h
theorem neg_ex (w : World) : Calls Try.prog 19 #[.int .i64 4] w fun e w' => e = .returned (.tuple #[.int .i64 (-4), .bool true]) ∧ w' = w := by
  have h := neg_any 4 (by decide) (by decide) w
  have e1 : fitN (-4) = -4 := by decide +kernel
  have e2 : fitB (-4) = true := by decide +kernel
  rw [e1, e2] at h; exact h
theorem cmp_ex (w : World) : Calls Try.prog 23 #[.int .i64 1, .int .i64 2] w fun e w' => e = .returned (.int .i64 (-1)) ∧ w' = w := by
  have h := cmp_any 1 2 w
  have e1 : cmpN 1 2 = -1 := by decide +kernel
  rw [e1] at h; exact h

theorem sum_ex (b : Nat) (w : World) (h0 : w.cell? ⟨b, 0, none⟩ = some (.int .i64 9223372036854775807)) (h1 : w.cell? ⟨b, 1, none⟩ = some (.int .i64 1)) (h2 : w.cell? ⟨b, 2, none⟩ = some (.int .i64 (-1))) :
    Calls Try.prog 26 #[.slice (some ⟨b, 0, none⟩) 3 3] w fun e w' => e = .returned (.tuple #[.int .i64 9223372036854775807, .bool true]) ∧ w' = w := by
  have h := sum_any b 0 3 3 [9223372036854775807, 1, -1] w (by decide) (by decide) (by
    intro j hj
    have : j = 0 ∨ j = 1 ∨ j = 2 := by simp at hj; omega
    rcases this with rfl | rfl | rfl
    · exact h0
    · exact h1
    · exact h2) (by
    intro j
    by_cases hj : j < 3
    · have : j = 0 ∨ j = 1 ∨ j = 2 := by omega
      rcases this with rfl | rfl | rfl <;> simp
    · rw [List.getElem?_eq_none (by simp; omega)]; simp)
  have e1 : fitN (List.take 3 [(9223372036854775807 : Int), 1, -1]).sum = 9223372036854775807 := by decide +kernel
  have e2 : fitB (List.take 3 [(9223372036854775807 : Int), 1, -1]).sum = true := by decide +kernel
  rw [e1, e2] at h; exact h

set_option maxHeartbeats 1000000 in
theorem works_any (w : World) : Calls Try.prog 8 #[] w fun e w' => e = .returned (.bool true) ∧ ∃ n, w' = (w.alloc (.cells #[.int .i64 9223372036854775807, .int .i64 1, .int .i64 (-1)] 2)).drewN n := by
  go_enter Try.func8, Try.ntmps8
  go_wp2_with fail
  refine (mul_ex1 _).mono ?_
  rintro e w' ⟨rfl, rfl⟩
  go_wp2_with fail
  refine (mul_ex2 _).mono ?_
  rintro e w' ⟨rfl, rfl⟩
  go_wp2_with fail
  refine (div_ex _).mono ?_
  rintro e w' ⟨rfl, rfl⟩
  go_wp2_with fail
  refine (mod_ex _).mono ?_
  rintro e w' ⟨rfl, rfl⟩
  go_wp2_with fail
  refine (sum_ex _ _ (by go_simp) (by go_simp) (by go_simp)).mono ?_
  rintro e w1 ⟨rfl, rfl⟩
  go_wp2_with fail
  refine (muldiv_ex _).mono ?_
  rintro e w1 ⟨rfl, ⟨n, rfl⟩⟩
  go_wp2_with fail
  refine (add_ex _).mono ?_
  rintro e w1 ⟨rfl, rfl⟩
  go_wp2_with fail
  refine (sub_ex _).mono ?_
  rintro e w1 ⟨rfl, rfl⟩
  go_wp2_with fail
  refine (neg_ex _).mono ?_
  rintro e w1 ⟨rfl, rfl⟩
  go_wp2_with fail
  refine (cmp_ex _).mono ?_
  rintro e w1 ⟨rfl, rfl⟩
  go_wp2_with fail
  go_ret
  exact ⟨rfl, n, rfl⟩
end Go.Proofs.Ytfdnfdakejabaaa
