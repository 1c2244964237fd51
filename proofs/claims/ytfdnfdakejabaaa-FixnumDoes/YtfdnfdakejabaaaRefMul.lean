/-
  Walks of the document's answer for layer 1: wide, Mul, Div, Mod.
-/
import Derived.Test.YtfdnfdakejabaaaRef
import Derived.Test.YtfdnfdakejabaaaMuldiv
namespace Go.Proofs.Ytfdnfdakejabaaa
open Go.RowKit

set_option maxRecDepth 100000 in
set_option maxHeartbeats 1000000 in
theorem wide_any (x y : Nat) (hx : x < 18446744073709551616) (hy : y < 18446744073709551616) (w : World) :
    Calls Try.prog 32 #[.int .u64 x, .int .u64 y] w fun e w' => e = .returned (.tuple #[.int .u64 ((x * y / 18446744073709551616 : Nat) : Int), .int .u64 ((x * y % 18446744073709551616 : Nat) : Int)]) ∧ ∃ n, w' = w.drewN n := by
  obtain ⟨A, X, Y, L, eA, eX, eY, eL, bA, bX, bY, bL, e⟩ := prod_nat x y hx hy
  have HE : Hid (x * y = A * 18446744073709551616 + (X + Y) * 4294967296 + L) := e
  have kA := wrap_prod (x / 4294967296) (y / 4294967296) A ((x : Int) / 4294967296) ((y : Int) / 4294967296) (by omega) (by omega) eA bA
  have kX := wrap_prod (x / 4294967296) (y % 4294967296) X ((x : Int) / 4294967296) ((y : Int) % 4294967296) (by omega) (by omega) eX bX
  have kY := wrap_prod (x % 4294967296) (y / 4294967296) Y ((x : Int) % 4294967296) ((y : Int) / 4294967296) (by omega) (by omega) eY bY
  have kL := wrap_prod (x % 4294967296) (y % 4294967296) L ((x : Int) % 4294967296) ((y : Int) % 4294967296) (by omega) (by omega) eL bL
  clear eA eX eY eL e
  go_enter Try.func32, Try.ntmps32
  go_wp2
  go_quiet (fail)
  go_wp2
  go_quiet (fail)
  go_wp2
  go_quiet (fail)
  go_wp2
  go_quiet (fail)
  go_wp2
  go_quiet (fail)
  go_wp2
  go_ret2
  refine ⟨ret2n ?_ ?_, ?_⟩
  · rw [HE.out]; omega
  · rw [HE.out]; omega
  · simp only [World.drewN_drewN]
    exact ⟨_, rfl⟩

set_option maxHeartbeats 1000000 in
theorem rmul_any (a b : Int) (a1 : -9223372036854775808 ≤ a) (a2 : a ≤ 9223372036854775807) (b1 : -9223372036854775808 ≤ b) (b2 : b ≤ 9223372036854775807) (w : World) :
    Calls Try.prog 14 #[.int .i64 a, .int .i64 b] w fun e w' => e = .returned (.tuple #[.int .i64 (fitN (a * b)), .bool (fitB (a * b))]) ∧ ∃ n, w' = w.drewN n := by
  have hab : a.natAbs * b.natAbs = (a * b).natAbs := (Int.natAbs_mul a b).symm
  by_cases hh : a.natAbs * b.natAbs < 18446744073709551616
  · have e1 : Hid (a.natAbs * b.natAbs / 18446744073709551616 = 0) := Nat.div_eq_of_lt hh
    have e2 : Hid (a.natAbs * b.natAbs % 18446744073709551616 = a.natAbs * b.natAbs) := Nat.mod_eq_of_lt hh
    have e3 : Hid (∀ p, p = (!(decide (a < 0) == decide (b < 0))) → sizeS (a.natAbs * b.natAbs) p = a * b) := sign_mul a b hab
    obtain ⟨P, hP⟩ : ∃ P : Int, P = ((a.natAbs * b.natAbs : Nat) : Int) := ⟨_, rfl⟩
    have hP' : Hid (((a.natAbs * b.natAbs : Nat) : Int) = P) := hP.symm
    have hPn : Hid (P.toNat = a.natAbs * b.natAbs) := by show P.toNat = a.natAbs * b.natAbs; rw [hP, Int.toNat_natCast]
    have hP0 : 0 ≤ P := by omega
    have hP1 : P ≤ 18446744073709551615 := by omega
    clear hab hP
    go_enter Try.func14, Try.ntmps14
    go_wp2_with fail
    refine (size_any a a1 a2 _).mono ?_
    rintro e w' ⟨rfl, rfl⟩
    go_wp2_with fail
    refine (size_any b b1 b2 _).mono ?_
    rintro e w' ⟨rfl, rfl⟩
    go_wp2_with fail
    refine (wide_any _ _ (by omega) (by omega) _).mono ?_
    rintro e w' ⟨rfl, ⟨n, rfl⟩⟩
    rw [e1.out, e2.out, hP'.out]
    go_wp2_with fail
    refine (rsigned_any _ _ hP0 hP1 _).mono ?_
    rintro e w' ⟨rfl, rfl⟩
    rw [hPn.out, e3.out _ rfl]
    go_wp2_with fail
    go_ret2
    exact ⟨rfl, _, rfl⟩
  · have e1 : Hid (∃ k : Int, 0 < k ∧ ((a.natAbs * b.natAbs / 18446744073709551616 : Nat) : Int) = k) := ⟨_, by omega, rfl⟩
    have hb : Hid (fitB (a * b) = false) := fitB_false (by omega)
    clear hab
    go_enter Try.func14, Try.ntmps14
    go_wp2_with fail
    refine (size_any a a1 a2 _).mono ?_
    rintro e w' ⟨rfl, rfl⟩
    go_wp2_with fail
    refine (size_any b b1 b2 _).mono ?_
    rintro e w' ⟨rfl, rfl⟩
    go_wp2_with fail
    refine (wide_any _ _ (by omega) (by omega) _).mono ?_
    rintro e w' ⟨rfl, ⟨n, rfl⟩⟩
    obtain ⟨k, hk, hk'⟩ := e1.out
    rw [hk']
    clear hk'
    go_wp2_with fail
    go_ret2
    exact ⟨ret2 (fitN_false hb.out).symm hb.out.symm, _, rfl⟩

theorem size_b (a : Int) (a1 : -9223372036854775808 ≤ a) (a2 : a ≤ 9223372036854775807) : (a.natAbs : Int) ≤ 9223372036854775808 := by omega
theorem div_sign (a b : Int) (p : Bool) (hp : p = (!(decide (a < 0) == decide (b < 0)))) : sizeS (a.natAbs / b.natAbs) p = a.tdiv b := by
  rw [hp, ← tdiv_size a b (decide (a < 0)) (decide (b < 0)) (by simp; omega) (by simp) (by simp; omega) (by simp)]
  cases (decide (a < 0)) <;> cases (decide (b < 0)) <;> rfl
theorem tmod_abs (a b : Int) : a.tmod (b.natAbs : Int) = a.tmod b := by
  rcases Int.natAbs_eq b with h | h
  · rw [← h]
  · generalize b.natAbs = n at *
    rw [h, Int.tmod_neg]
theorem mod_sign (a b : Int) : sizeS (a.natAbs % b.natAbs) (decide (a < 0)) = a.tmod b := by
  rw [← tmod_abs]
  generalize b.natAbs = n
  by_cases h : a < 0
  · obtain ⟨m, hm⟩ := Int.eq_ofNat_of_zero_le (show 0 ≤ -a by omega)
    obtain rfl : a = -(m : Int) := by omega
    rw [decide_eq_true h, sizeS_t, Int.neg_tmod, Int.natAbs_neg]
    rfl
  · obtain ⟨m, rfl⟩ := Int.eq_ofNat_of_zero_le (show 0 ≤ a by omega)
    rw [decide_eq_false h, sizeS_f]
    rfl
theorem remN (a b : Nat) : (a : Int) % (b : Int) = ((a % b : Nat) : Int) := (Int.natCast_emod a b).symm

set_option maxHeartbeats 1000000 in
theorem rdiv_any (a b : Int) (a1 : -9223372036854775808 ≤ a) (a2 : a ≤ 9223372036854775807) (b1 : -9223372036854775808 ≤ b) (b2 : b ≤ 9223372036854775807) (w : World) :
    Calls Try.prog 16 #[.int .i64 a, .int .i64 b] w fun e w' => e = .returned (.tuple #[.int .i64 (byN a b), .bool (byB a b)]) ∧ w' = w := by
  by_cases h0 : b = 0
  · have h' : (b == 0) = true := by simp [h0]
    have hn : Hid (b = 0) := h0
    clear h0
    go_enter Try.func16, Try.ntmps16
    go_wp2
    go_ret2
    exact ⟨ret2 (byN_0 a hn.out).symm (byB_0 a hn.out).symm, rfl⟩
  · have h' : (b == 0) = false := by simp [h0]
    have hn : Hid (byN a b = fitN (a.tdiv b) ∧ byB a b = fitB (a.tdiv b)) := ⟨byN_1 a h0, byB_1 a h0⟩
    have hz : ((b.natAbs : Int) == 0) = false := by simp [h0]
    have hsg : Hid (∀ p, p = (!(decide (a < 0) == decide (b < 0))) → sizeS (a.natAbs / b.natAbs) p = a.tdiv b) := div_sign a b
    have hq : Hid (IntKind.u64.wrap ((a.natAbs : Int) / (b.natAbs : Int)) = ((a.natAbs / b.natAbs : Nat) : Int)) := quoN _ _ (by omega)
    have hqb : Hid (a.natAbs / b.natAbs ≤ a.natAbs) := Nat.div_le_self _ _
    go_enter Try.func16, Try.ntmps16
    go_wp2_with fail
    refine (size_any a a1 a2 _).mono ?_
    rintro e w' ⟨rfl, rfl⟩
    go_wp2_with fail
    refine (size_any b b1 b2 _).mono ?_
    rintro e w' ⟨rfl, rfl⟩
    go_wp2_with fail
    rw [hq.out]
    refine (rsigned_any _ _ (Int.natCast_nonneg _) (by have := hqb.out; generalize a.natAbs / b.natAbs = q at *; omega) _).mono ?_
    rintro e w' ⟨rfl, rfl⟩
    rw [Int.toNat_natCast, hsg.out _ rfl]
    go_wp2_with fail
    go_ret2
    exact ⟨ret2 hn.out.1.symm hn.out.2.symm, rfl⟩

set_option maxHeartbeats 1000000 in
theorem rmod_any (a b : Int) (a1 : -9223372036854775808 ≤ a) (a2 : a ≤ 9223372036854775807) (b1 : -9223372036854775808 ≤ b) (b2 : b ≤ 9223372036854775807) (w : World) :
    Calls Try.prog 18 #[.int .i64 a, .int .i64 b] w fun e w' => e = .returned (.tuple #[.int .i64 (restN a b), .bool (restB b)]) ∧ w' = w := by
  by_cases h0 : b = 0
  · have h' : (b == 0) = true := by simp [h0]
    have hn : Hid (b = 0) := h0
    clear h0
    go_enter Try.func18, Try.ntmps18
    go_wp2
    go_ret2
    exact ⟨ret2 (restN_0 a hn.out).symm (restB_0 hn.out).symm, rfl⟩
  · have h' : (b == 0) = false := by simp [h0]
    have hlt : Hid (a.natAbs % b.natAbs < b.natAbs) := Nat.mod_lt _ (by omega)
    have hfit : fitB (a.tmod b) = true := by
      have := tmod_bound (a := a) h0
      exact fitB_true (by omega) (by omega)
    have hn : Hid (restN a b = fitN (a.tmod b) ∧ restB b = fitB (a.tmod b)) := ⟨by rw [restN_1 a h0, fitN_true hfit], by rw [restB_1 h0, hfit]⟩
    have hsg : Hid (sizeS (a.natAbs % b.natAbs) (decide (a < 0)) = a.tmod b) := mod_sign a b
    have hq : Hid ((a.natAbs : Int) % (b.natAbs : Int) = ((a.natAbs % b.natAbs : Nat) : Int)) := remN _ _
    clear hfit
    go_enter Try.func18, Try.ntmps18
    go_wp2_with fail
    refine (size_any a a1 a2 _).mono ?_
    rintro e w' ⟨rfl, rfl⟩
    go_wp2_with fail
    refine (size_any b b1 b2 _).mono ?_
    rintro e w' ⟨rfl, rfl⟩
    go_wp2_with fail
    rw [hq.out]
    refine (rsigned_any _ _ (Int.natCast_nonneg _) (by have := hlt.out; generalize a.natAbs % b.natAbs = q at *; omega) _).mono ?_
    rintro e w' ⟨rfl, rfl⟩
    rw [Int.toNat_natCast, hsg.out]
    go_wp2_with fail
    go_ret2
    exact ⟨ret2 hn.out.1.symm hn.out.2.symm, rfl⟩
end Go.Proofs.Ytfdnfdakejabaaa
