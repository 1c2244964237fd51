/-
  The walk of FixnumBack, a theorem a way.
-/
import Derived.Test.YtfdnfdakejabaaaOrd
namespace Go.Proofs.Ytfdnfdakejabaaa
open Go.RowKit

set_option maxRecDepth 100000 in
set_option maxHeartbeats 2000000 in
theorem back_z1 (a b S : Int) (a1 : -9223372036854775808 ≤ a) (a2 : a ≤ 9223372036854775807) (b1 : -9223372036854775808 ≤ b) (b2 : b ≤ 9223372036854775807) (w : World)
    (hA : fitB (a + b) = true) (hS : fitN (a + b) = S) (S1 : -9223372036854775808 ≤ S) (S2 : S ≤ 9223372036854775807) (hS2 : fitB (S - b) = true) (hS3 : fitN (S - b) = a)
    (hb0 : (b == 0) = true) (hB : fitB (a * b) = true) (hC : byB a b = false) (hRB : restB b = false) (hXB : byB (a * b) b = false) :
    Calls Try.prog 5 #[.int .i64 a, .int .i64 b] w fun e w' => e = .returned (.bool true) ∧ Grown w w' := by
  go_enter Try.func5, Try.ntmps5
  go_wp2_with fail
  refine (works_any _).mono ?_
  rintro e w1 ⟨rfl, ⟨n, rfl⟩⟩
  go_wp2_with fail
  refine (add_any _ _ a1 a2 b1 b2 _).mono ?_
  rintro e w1 ⟨rfl, rfl⟩
  rw [hS]
  go_wp2_with fail
  refine (sub_any _ _ S1 S2 b1 b2 _).mono ?_
  rintro e w1 ⟨rfl, rfl⟩
  rw [hS2, hS3]
  go_wp2_with fail
  refine (mul_any _ _ a1 a2 b1 b2 _).mono ?_
  rintro e w1 ⟨rfl, rfl⟩
  go_wp2_with fail
  refine (div_any _ _ a1 a2 _).mono ?_
  rintro e w1 ⟨rfl, rfl⟩
  go_wp2_with fail
  refine (mod_any _ _ _).mono ?_
  rintro e w1 ⟨rfl, rfl⟩
  go_wp2_with fail
  all_goals
    refine (muldiv_any _ _ _ a1 a2 b1 b2 b1 b2 _).mono ?_
    rintro e w1 ⟨rfl, ⟨m, rfl⟩⟩
    go_wp2_with fail
    go_ret
    exact ⟨rfl, grown_drewN ((Grown.refl _).alloc _ _) _⟩

set_option maxRecDepth 100000 in
set_option maxHeartbeats 2000000 in
theorem back_z0 (a b : Int) (a1 : -9223372036854775808 ≤ a) (a2 : a ≤ 9223372036854775807) (b1 : -9223372036854775808 ≤ b) (b2 : b ≤ 9223372036854775807) (w : World)
    (hA : fitB (a + b) = false)
    (hb0 : (b == 0) = true) (hB : fitB (a * b) = true) (hC : byB a b = false) (hRB : restB b = false) (hXB : byB (a * b) b = false) :
    Calls Try.prog 5 #[.int .i64 a, .int .i64 b] w fun e w' => e = .returned (.bool true) ∧ Grown w w' := by
  go_enter Try.func5, Try.ntmps5
  go_wp2_with fail
  refine (works_any _).mono ?_
  rintro e w1 ⟨rfl, ⟨n, rfl⟩⟩
  go_wp2_with fail
  refine (add_any _ _ a1 a2 b1 b2 _).mono ?_
  rintro e w1 ⟨rfl, rfl⟩
  go_wp2_with fail
  refine (mul_any _ _ a1 a2 b1 b2 _).mono ?_
  rintro e w1 ⟨rfl, rfl⟩
  go_wp2_with fail
  refine (div_any _ _ a1 a2 _).mono ?_
  rintro e w1 ⟨rfl, rfl⟩
  go_wp2_with fail
  refine (mod_any _ _ _).mono ?_
  rintro e w1 ⟨rfl, rfl⟩
  go_wp2_with fail
  all_goals
    refine (muldiv_any _ _ _ a1 a2 b1 b2 b1 b2 _).mono ?_
    rintro e w1 ⟨rfl, ⟨m, rfl⟩⟩
    go_wp2_with fail
    go_ret
    exact ⟨rfl, grown_drewN ((Grown.refl _).alloc _ _) _⟩

set_option maxRecDepth 100000 in
set_option maxHeartbeats 2000000 in
theorem back_111 (a b S M Q R N : Int) (a1 : -9223372036854775808 ≤ a) (a2 : a ≤ 9223372036854775807) (b1 : -9223372036854775808 ≤ b) (b2 : b ≤ 9223372036854775807) (w : World)
    (hA : fitB (a + b) = true) (hS : fitN (a + b) = S) (S1 : -9223372036854775808 ≤ S) (S2 : S ≤ 9223372036854775807) (hS2 : fitB (S - b) = true) (hS3 : fitN (S - b) = a)
    (hb0 : (b == 0) = false) (hX : byN (a * b) b = a) (hXB : byB (a * b) b = true)
    (hB : fitB (a * b) = true) (hM : fitN (a * b) = M) (M1 : -9223372036854775808 ≤ M) (M2 : M ≤ 9223372036854775807) (hD1 : byB M b = true) (hD2 : byN M b = a)
    (hC : byB a b = true) (hQ : byN a b = Q) (Q1 : -9223372036854775808 ≤ Q) (Q2 : Q ≤ 9223372036854775807) (hR : restN a b = R) (R1 : -9223372036854775808 ≤ R) (R2 : R ≤ 9223372036854775807) (hRB : restB b = true) (hQb : fitB (Q * b) = true) (hN : fitN (Q * b) = N) (N1 : -9223372036854775808 ≤ N) (N2 : N ≤ 9223372036854775807) (hNR : fitB (N + R) = true) (hNR2 : fitN (N + R) = a) (hg1 : ¬ (0 < R ∧ a < 0)) (hg2 : ¬ (R < 0 ∧ 0 < a)) :
    Calls Try.prog 5 #[.int .i64 a, .int .i64 b] w fun e w' => e = .returned (.bool true) ∧ Grown w w' := by
  go_enter Try.func5, Try.ntmps5
  go_wp2_with fail
  refine (works_any _).mono ?_
  rintro e w1 ⟨rfl, ⟨n, rfl⟩⟩
  go_wp2_with fail
  refine (add_any _ _ a1 a2 b1 b2 _).mono ?_
  rintro e w1 ⟨rfl, rfl⟩
  rw [hS]
  go_wp2_with fail
  refine (sub_any _ _ S1 S2 b1 b2 _).mono ?_
  rintro e w1 ⟨rfl, rfl⟩
  rw [hS2, hS3]
  go_wp2_with fail
  refine (mul_any _ _ a1 a2 b1 b2 _).mono ?_
  rintro e w1 ⟨rfl, rfl⟩
  rw [hM]
  go_wp2_with fail
  refine (div_any _ _ M1 M2 _).mono ?_
  rintro e w1 ⟨rfl, rfl⟩
  rw [hD1, hD2]
  go_wp2_with fail
  refine (div_any _ _ a1 a2 _).mono ?_
  rintro e w1 ⟨rfl, rfl⟩
  go_wp2_with fail
  refine (mod_any _ _ _).mono ?_
  rintro e w1 ⟨rfl, rfl⟩
  rw [hR]
  go_wp2_with fail
  refine (mul_any _ _ Q1 Q2 b1 b2 _).mono ?_
  rintro e w1 ⟨rfl, rfl⟩
  rw [hN, hQb]
  go_wp2_with fail
  refine (add_any _ _ N1 N2 R1 R2 _).mono ?_
  rintro e w1 ⟨rfl, rfl⟩
  rw [hNR, hNR2]
  go_wp2_with fail
  all_goals
    refine (muldiv_any _ _ _ a1 a2 b1 b2 b1 b2 _).mono ?_
    rintro e w1 ⟨rfl, ⟨m, rfl⟩⟩
    go_wp2_with fail
    go_ret
    exact ⟨rfl, grown_drewN ((Grown.refl _).alloc _ _) _⟩

set_option maxRecDepth 100000 in
set_option maxHeartbeats 2000000 in
theorem back_101 (a b S Q R N : Int) (a1 : -9223372036854775808 ≤ a) (a2 : a ≤ 9223372036854775807) (b1 : -9223372036854775808 ≤ b) (b2 : b ≤ 9223372036854775807) (w : World)
    (hA : fitB (a + b) = true) (hS : fitN (a + b) = S) (S1 : -9223372036854775808 ≤ S) (S2 : S ≤ 9223372036854775807) (hS2 : fitB (S - b) = true) (hS3 : fitN (S - b) = a)
    (hb0 : (b == 0) = false) (hX : byN (a * b) b = a) (hXB : byB (a * b) b = true)
    (hB : fitB (a * b) = false)
    (hC : byB a b = true) (hQ : byN a b = Q) (Q1 : -9223372036854775808 ≤ Q) (Q2 : Q ≤ 9223372036854775807) (hR : restN a b = R) (R1 : -9223372036854775808 ≤ R) (R2 : R ≤ 9223372036854775807) (hRB : restB b = true) (hQb : fitB (Q * b) = true) (hN : fitN (Q * b) = N) (N1 : -9223372036854775808 ≤ N) (N2 : N ≤ 9223372036854775807) (hNR : fitB (N + R) = true) (hNR2 : fitN (N + R) = a) (hg1 : ¬ (0 < R ∧ a < 0)) (hg2 : ¬ (R < 0 ∧ 0 < a)) :
    Calls Try.prog 5 #[.int .i64 a, .int .i64 b] w fun e w' => e = .returned (.bool true) ∧ Grown w w' := by
  go_enter Try.func5, Try.ntmps5
  go_wp2_with fail
  refine (works_any _).mono ?_
  rintro e w1 ⟨rfl, ⟨n, rfl⟩⟩
  go_wp2_with fail
  refine (add_any _ _ a1 a2 b1 b2 _).mono ?_
  rintro e w1 ⟨rfl, rfl⟩
  rw [hS]
  go_wp2_with fail
  refine (sub_any _ _ S1 S2 b1 b2 _).mono ?_
  rintro e w1 ⟨rfl, rfl⟩
  rw [hS2, hS3]
  go_wp2_with fail
  refine (mul_any _ _ a1 a2 b1 b2 _).mono ?_
  rintro e w1 ⟨rfl, rfl⟩
  go_wp2_with fail
  refine (div_any _ _ a1 a2 _).mono ?_
  rintro e w1 ⟨rfl, rfl⟩
  go_wp2_with fail
  refine (mod_any _ _ _).mono ?_
  rintro e w1 ⟨rfl, rfl⟩
  rw [hR]
  go_wp2_with fail
  refine (mul_any _ _ Q1 Q2 b1 b2 _).mono ?_
  rintro e w1 ⟨rfl, rfl⟩
  rw [hN, hQb]
  go_wp2_with fail
  refine (add_any _ _ N1 N2 R1 R2 _).mono ?_
  rintro e w1 ⟨rfl, rfl⟩
  rw [hNR, hNR2]
  go_wp2_with fail
  all_goals
    refine (muldiv_any _ _ _ a1 a2 b1 b2 b1 b2 _).mono ?_
    rintro e w1 ⟨rfl, ⟨m, rfl⟩⟩
    go_wp2_with fail
    go_ret
    exact ⟨rfl, grown_drewN ((Grown.refl _).alloc _ _) _⟩

set_option maxRecDepth 100000 in
set_option maxHeartbeats 2000000 in
theorem back_011 (a b M Q R N : Int) (a1 : -9223372036854775808 ≤ a) (a2 : a ≤ 9223372036854775807) (b1 : -9223372036854775808 ≤ b) (b2 : b ≤ 9223372036854775807) (w : World)
    (hA : fitB (a + b) = false)
    (hb0 : (b == 0) = false) (hX : byN (a * b) b = a) (hXB : byB (a * b) b = true)
    (hB : fitB (a * b) = true) (hM : fitN (a * b) = M) (M1 : -9223372036854775808 ≤ M) (M2 : M ≤ 9223372036854775807) (hD1 : byB M b = true) (hD2 : byN M b = a)
    (hC : byB a b = true) (hQ : byN a b = Q) (Q1 : -9223372036854775808 ≤ Q) (Q2 : Q ≤ 9223372036854775807) (hR : restN a b = R) (R1 : -9223372036854775808 ≤ R) (R2 : R ≤ 9223372036854775807) (hRB : restB b = true) (hQb : fitB (Q * b) = true) (hN : fitN (Q * b) = N) (N1 : -9223372036854775808 ≤ N) (N2 : N ≤ 9223372036854775807) (hNR : fitB (N + R) = true) (hNR2 : fitN (N + R) = a) (hg1 : ¬ (0 < R ∧ a < 0)) (hg2 : ¬ (R < 0 ∧ 0 < a)) :
    Calls Try.prog 5 #[.int .i64 a, .int .i64 b] w fun e w' => e = .returned (.bool true) ∧ Grown w w' := by
  go_enter Try.func5, Try.ntmps5
  go_wp2_with fail
  refine (works_any _).mono ?_
  rintro e w1 ⟨rfl, ⟨n, rfl⟩⟩
  go_wp2_with fail
  refine (add_any _ _ a1 a2 b1 b2 _).mono ?_
  rintro e w1 ⟨rfl, rfl⟩
  go_wp2_with fail
  refine (mul_any _ _ a1 a2 b1 b2 _).mono ?_
  rintro e w1 ⟨rfl, rfl⟩
  rw [hM]
  go_wp2_with fail
  refine (div_any _ _ M1 M2 _).mono ?_
  rintro e w1 ⟨rfl, rfl⟩
  rw [hD1, hD2]
  go_wp2_with fail
  refine (div_any _ _ a1 a2 _).mono ?_
  rintro e w1 ⟨rfl, rfl⟩
  go_wp2_with fail
  refine (mod_any _ _ _).mono ?_
  rintro e w1 ⟨rfl, rfl⟩
  rw [hR]
  go_wp2_with fail
  refine (mul_any _ _ Q1 Q2 b1 b2 _).mono ?_
  rintro e w1 ⟨rfl, rfl⟩
  rw [hN, hQb]
  go_wp2_with fail
  refine (add_any _ _ N1 N2 R1 R2 _).mono ?_
  rintro e w1 ⟨rfl, rfl⟩
  rw [hNR, hNR2]
  go_wp2_with fail
  all_goals
    refine (muldiv_any _ _ _ a1 a2 b1 b2 b1 b2 _).mono ?_
    rintro e w1 ⟨rfl, ⟨m, rfl⟩⟩
    go_wp2_with fail
    go_ret
    exact ⟨rfl, grown_drewN ((Grown.refl _).alloc _ _) _⟩

set_option maxRecDepth 100000 in
set_option maxHeartbeats 2000000 in
theorem back_001 (a b Q R N : Int) (a1 : -9223372036854775808 ≤ a) (a2 : a ≤ 9223372036854775807) (b1 : -9223372036854775808 ≤ b) (b2 : b ≤ 9223372036854775807) (w : World)
    (hA : fitB (a + b) = false)
    (hb0 : (b == 0) = false) (hX : byN (a * b) b = a) (hXB : byB (a * b) b = true)
    (hB : fitB (a * b) = false)
    (hC : byB a b = true) (hQ : byN a b = Q) (Q1 : -9223372036854775808 ≤ Q) (Q2 : Q ≤ 9223372036854775807) (hR : restN a b = R) (R1 : -9223372036854775808 ≤ R) (R2 : R ≤ 9223372036854775807) (hRB : restB b = true) (hQb : fitB (Q * b) = true) (hN : fitN (Q * b) = N) (N1 : -9223372036854775808 ≤ N) (N2 : N ≤ 9223372036854775807) (hNR : fitB (N + R) = true) (hNR2 : fitN (N + R) = a) (hg1 : ¬ (0 < R ∧ a < 0)) (hg2 : ¬ (R < 0 ∧ 0 < a)) :
    Calls Try.prog 5 #[.int .i64 a, .int .i64 b] w fun e w' => e = .returned (.bool true) ∧ Grown w w' := by
  go_enter Try.func5, Try.ntmps5
  go_wp2_with fail
  refine (works_any _).mono ?_
  rintro e w1 ⟨rfl, ⟨n, rfl⟩⟩
  go_wp2_with fail
  refine (add_any _ _ a1 a2 b1 b2 _).mono ?_
  rintro e w1 ⟨rfl, rfl⟩
  go_wp2_with fail
  refine (mul_any _ _ a1 a2 b1 b2 _).mono ?_
  rintro e w1 ⟨rfl, rfl⟩
  go_wp2_with fail
  refine (div_any _ _ a1 a2 _).mono ?_
  rintro e w1 ⟨rfl, rfl⟩
  go_wp2_with fail
  refine (mod_any _ _ _).mono ?_
  rintro e w1 ⟨rfl, rfl⟩
  rw [hR]
  go_wp2_with fail
  refine (mul_any _ _ Q1 Q2 b1 b2 _).mono ?_
  rintro e w1 ⟨rfl, rfl⟩
  rw [hN, hQb]
  go_wp2_with fail
  refine (add_any _ _ N1 N2 R1 R2 _).mono ?_
  rintro e w1 ⟨rfl, rfl⟩
  rw [hNR, hNR2]
  go_wp2_with fail
  all_goals
    refine (muldiv_any _ _ _ a1 a2 b1 b2 b1 b2 _).mono ?_
    rintro e w1 ⟨rfl, ⟨m, rfl⟩⟩
    go_wp2_with fail
    go_ret
    exact ⟨rfl, grown_drewN ((Grown.refl _).alloc _ _) _⟩

set_option maxRecDepth 100000 in
set_option maxHeartbeats 2000000 in
theorem back_000 (a b : Int) (a1 : -9223372036854775808 ≤ a) (a2 : a ≤ 9223372036854775807) (b1 : -9223372036854775808 ≤ b) (b2 : b ≤ 9223372036854775807) (w : World)
    (hA : fitB (a + b) = false)
    (hb0 : (b == 0) = false) (hX : byN (a * b) b = a) (hXB : byB (a * b) b = true)
    (hB : fitB (a * b) = false)
    (hC : byB a b = false) :
    Calls Try.prog 5 #[.int .i64 a, .int .i64 b] w fun e w' => e = .returned (.bool true) ∧ Grown w w' := by
  go_enter Try.func5, Try.ntmps5
  go_wp2_with fail
  refine (works_any _).mono ?_
  rintro e w1 ⟨rfl, ⟨n, rfl⟩⟩
  go_wp2_with fail
  refine (add_any _ _ a1 a2 b1 b2 _).mono ?_
  rintro e w1 ⟨rfl, rfl⟩
  go_wp2_with fail
  refine (mul_any _ _ a1 a2 b1 b2 _).mono ?_
  rintro e w1 ⟨rfl, rfl⟩
  go_wp2_with fail
  refine (div_any _ _ a1 a2 _).mono ?_
  rintro e w1 ⟨rfl, rfl⟩
  go_wp2_with fail
  refine (mod_any _ _ _).mono ?_
  rintro e w1 ⟨rfl, rfl⟩
  go_wp2_with fail
  all_goals
    refine (muldiv_any _ _ _ a1 a2 b1 b2 b1 b2 _).mono ?_
    rintro e w1 ⟨rfl, ⟨m, rfl⟩⟩
    go_wp2_with fail
    go_ret
    exact ⟨rfl, grown_drewN ((Grown.refl _).alloc _ _) _⟩

theorem back_walk (a b : Int) (a1 : -9223372036854775808 ≤ a) (a2 : a ≤ 9223372036854775807) (b1 : -9223372036854775808 ≤ b) (b2 : b ≤ 9223372036854775807) (w : World) :
    Calls Try.prog 5 #[.int .i64 a, .int .i64 b] w fun e w' => e = .returned (.bool true) ∧ Grown w w' := by
  have hS1 := fitN_bounds (a + b)
  have hM1 := fitN_bounds (a * b)
  have fa : fitB a = true := fitB_true a1 a2
  have hS2 : fitB (a + b) = true → fitN (a + b) - b = a := fun h => by rw [fitN_true h]; omega
  by_cases hb : b = 0
  · have hb0 : (b == 0) = true := by simp [hb]
    have hB : fitB (a * b) = true := by rw [hb, Int.mul_zero]; decide +kernel
    cases hA : fitB (a + b)
    · exact back_z0 a b a1 a2 b1 b2 w hA hb0 hB (byB_0 a hb) (restB_0 hb) (byB_0 _ hb)
    · have e := hS2 hA
      exact back_z1 a b _ a1 a2 b1 b2 w hA rfl hS1.1 hS1.2 (by rw [e]; exact fa) (by rw [e]; exact fitN_true fa) hb0 hB (byB_0 a hb) (restB_0 hb) (byB_0 _ hb)
  · have hb0 : (b == 0) = false := by simp [hb]
    have hmd : (a * b).tdiv b = a := Int.mul_tdiv_cancel a hb
    have hX : byN (a * b) b = a := by rw [byN_1 _ hb, hmd, fitN_true fa]
    have hXB : byB (a * b) b = true := by rw [byB_1 _ hb, hmd, fa]
    have hM2 : fitB (a * b) = true → byB (fitN (a * b)) b = true ∧ byN (fitN (a * b)) b = a := fun h => by rw [fitN_true h]; exact ⟨hXB, hX⟩
    cases hC : byB a b
    · -- only the least number by -1
      have hC' := hC
      rw [byB_1 a hb] at hC'
      have hbm : b = -1 := by
        apply Decidable.byContradiction
        intro hne
        rw [tdiv_fits a1 a2 hb hne] at hC'
        cases hC'
      have ham : a = -9223372036854775808 := by
        rw [hbm, Int.tdiv_neg, Int.tdiv_one] at hC'
        apply Decidable.byContradiction
        intro hne
        rw [fitB_true (by omega) (by omega)] at hC'
        cases hC'
      exact back_000 a b a1 a2 b1 b2 w (fitB_false (by omega)) hb0 hX hXB (by rw [hbm, ham]; decide +kernel) hC
    · have hQ1 : fitB (a.tdiv b) = true := by rw [← byB_1 a hb]; exact hC
      have hQ : byN a b = a.tdiv b := by rw [byN_1 a hb, fitN_true hQ1]
      have hR : restN a b = a.tmod b := restN_1 a hb
      have hdm := Int.tdiv_mul_add_tmod a b
      have hrb := tmod_bound (a := a) hb
      have hrs1 : ¬ (0 < a.tmod b ∧ a < 0) := by
        intro h
        have := Int.tmod_nonneg b (show 0 ≤ -a by omega)
        rw [Int.neg_tmod] at this
        omega
      have hrs2 : ¬ (a.tmod b < 0 ∧ 0 < a) := by
        intro h
        have := Int.tmod_nonneg b (show 0 ≤ a by omega)
        omega
      have hNfit : fitB (a.tdiv b * b) = true := by
        have h0 : 0 < a.tmod b → 0 ≤ a := by intro h; omega
        have h1 : a.tmod b < 0 → a ≤ 0 := by intro h; omega
        have h2 : (a.tdiv b * b).natAbs ≤ a.natAbs := by
          rw [Int.natAbs_mul, Int.natAbs_tdiv]
          exact Nat.div_mul_le_self _ _
        apply fitB_true <;> omega
      have hNR : fitN (byN a b * b) + restN a b = a := by rw [hQ, hR, fitN_true hNfit]; exact hdm
      have hQb := fitN_bounds (a.tdiv b)
      rw [← byN_1 a hb] at hQb
      have hNb := fitN_bounds (byN a b * b)
      have hNf : fitB (byN a b * b) = true := by rw [hQ]; exact hNfit
      rw [← hR] at hrs1 hrs2 hrb
      have hRB := restB_1 hb
      cases hA : fitB (a + b) <;> cases hB : fitB (a * b)
      · exact back_001 a b _ _ _ a1 a2 b1 b2 w hA hb0 hX hXB hB hC rfl hQb.1 hQb.2 rfl (by omega) (by omega) hRB hNf rfl hNb.1 hNb.2 (by rw [hNR]; exact fa) (by rw [hNR]; exact fitN_true fa) hrs1 hrs2
      · exact back_011 a b _ _ _ _ a1 a2 b1 b2 w hA hb0 hX hXB hB rfl hM1.1 hM1.2 (hM2 hB).1 (hM2 hB).2 hC rfl hQb.1 hQb.2 rfl (by omega) (by omega) hRB hNf rfl hNb.1 hNb.2 (by rw [hNR]; exact fa) (by rw [hNR]; exact fitN_true fa) hrs1 hrs2
      · have e := hS2 hA
        exact back_101 a b _ _ _ _ a1 a2 b1 b2 w hA rfl hS1.1 hS1.2 (by rw [e]; exact fa) (by rw [e]; exact fitN_true fa) hb0 hX hXB hB hC rfl hQb.1 hQb.2 rfl (by omega) (by omega) hRB hNf rfl hNb.1 hNb.2 (by rw [hNR]; exact fa) (by rw [hNR]; exact fitN_true fa) hrs1 hrs2
      · have e := hS2 hA
        exact back_111 a b _ _ _ _ _ a1 a2 b1 b2 w hA rfl hS1.1 hS1.2 (by rw [e]; exact fa) (by rw [e]; exact fitN_true fa) hb0 hX hXB hB rfl hM1.1 hM1.2 (hM2 hB).1 (hM2 hB).2 hC rfl hQb.1 hQb.2 rfl (by omega) (by omega) hRB hNf rfl hNb.1 hNb.2 (by rw [hNR]; exact fa) (by rw [hNR]; exact fitN_true fa) hrs1 hrs2

end Go.Proofs.Ytfdnfdakejabaaa
