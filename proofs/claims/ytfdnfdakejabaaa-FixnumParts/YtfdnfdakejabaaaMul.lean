/-
  Walks of layer 1: math/bits.Mul64, Len64, LeadingZeros64; Mul of package fixnum.
-/
import Derived.Test.YtfdnfdakejabaaaLeaf
import Derived.Lib.Mul64
namespace Go.Proofs.Ytfdnfdakejabaaa
open Go.RowKit Go.Lib

theorem maskN (a : Nat) (ha : a < 18446744073709551616) : bits .and .u64 (a : Int) 4294967295 = ((a % 4294967296 : Nat) : Int) := by
  have h := bits_and_u64_nat a 4294967295 ha (by omega)
  have e : a &&& 4294967295 = a % 4294967296 := Nat.and_two_pow_sub_one_eq_mod a 32
  rw [e] at h
  exact h
theorem divN (a : Nat) : (a : Int) / 4294967296 = ((a / 4294967296 : Nat) : Int) := by omega
theorem mulN (a b : Nat) : (a : Int) * (b : Int) = ((a * b : Nat) : Int) := (Int.natCast_mul a b).symm
theorem addN (a b : Nat) : (a : Int) + (b : Int) = ((a + b : Nat) : Int) := (Int.natCast_add a b).symm
theorem wrapN (a : Nat) (ha : a < 18446744073709551616) : IntKind.u64.wrap (a : Int) = (a : Int) := by rw [IntKind.wrap_u64]; omega
theorem wrapM (a : Nat) : IntKind.u64.wrap (a : Int) = ((a % 18446744073709551616 : Nat) : Int) := by rw [IntKind.wrap_u64]; omega

set_option maxHeartbeats 1000000 in
theorem mul64_any (x y : Nat) (hx : x < 18446744073709551616) (hy : y < 18446744073709551616) (w : World) :
    Calls Try.prog 29 #[.int .u64 x, .int .u64 y] w fun e w' => e = .returned (.tuple #[.int .u64 ((x * y / 18446744073709551616 : Nat) : Int), .int .u64 ((x * y % 18446744073709551616 : Nat) : Int)]) ∧ w' = w := by
  obtain ⟨bd, bt, bw, hhi⟩ := Lib.mul64_hi x y hx hy
  have ba := Lib.half_mul_le (a := x / 4294967296) (b := y / 4294967296) (by omega) (by omega)
  have bb := Lib.half_mul_le (a := x / 4294967296) (b := y % 4294967296) (by omega) (by omega)
  have bc := Lib.half_mul_le (a := x % 4294967296) (b := y / 4294967296) (by omega) (by omega)
  have ba' : x / 4294967296 * (y / 4294967296) < 18446744073709551616 := by omega
  have bb' : x / 4294967296 * (y % 4294967296) < 18446744073709551616 := by omega
  have bc' : x % 4294967296 * (y / 4294967296) < 18446744073709551616 := by omega
  have bh1 : x / 4294967296 * (y / 4294967296) + (x / 4294967296 * (y % 4294967296) + x % 4294967296 * (y % 4294967296) / 4294967296) / 4294967296 < 18446744073709551616 := by omega
  have bh : x / 4294967296 * (y / 4294967296) + (x / 4294967296 * (y % 4294967296) + x % 4294967296 * (y % 4294967296) / 4294967296) / 4294967296 + ((x / 4294967296 * (y % 4294967296) + x % 4294967296 * (y % 4294967296) / 4294967296) % 4294967296 + x % 4294967296 * (y / 4294967296)) / 4294967296 < 18446744073709551616 := by omega
  go_enter Try.func29, Try.ntmps29
  go_wp2
  simp only [maskN x hx, maskN y hy, divN, mulN, addN, wrapN _ bd, wrapN _ bb', wrapN _ bt, maskN _ bt, wrapN _ bc', wrapN _ bw, wrapN _ ba', wrapN _ bh1, wrapN _ bh, wrapM (x * y)]
  rw [hhi]
  go_ret2
  exact ⟨rfl, rfl⟩

theorem sign_mul (a b : Int) (h : (a.natAbs * b.natAbs : Nat) = (a * b).natAbs) (p : Bool) (hp : p = (!(decide (a < 0) == decide (b < 0)))) : sizeS (a.natAbs * b.natAbs) p = a * b := by
  subst hp
  unfold sizeS
  rw [h]
  by_cases ha : a < 0 <;> by_cases hb : b < 0
  · have := Int.mul_nonneg_of_nonpos_of_nonpos (a := a) (b := b) (by omega) (by omega)
    simp [ha, hb]; omega
  · have := Int.mul_nonpos_of_nonpos_of_nonneg (a := a) (b := b) (by omega) (by omega)
    simp [ha, hb]; omega
  · have := Int.mul_nonpos_of_nonneg_of_nonpos (a := a) (b := b) (by omega) (by omega)
    simp [ha, hb]; omega
  · have := Int.mul_nonneg (a := a) (b := b) (by omega) (by omega)
    simp [ha, hb]; omega

set_option maxHeartbeats 1000000 in
theorem mul_any (a b : Int) (a1 : -9223372036854775808 ≤ a) (a2 : a ≤ 9223372036854775807) (b1 : -9223372036854775808 ≤ b) (b2 : b ≤ 9223372036854775807) (w : World) :
    Calls Try.prog 13 #[.int .i64 a, .int .i64 b] w fun e w' => e = .returned (.tuple #[.int .i64 (fitN (a * b)), .bool (fitB (a * b))]) ∧ w' = w := by
  have hab : a.natAbs * b.natAbs = (a * b).natAbs := (Int.natAbs_mul a b).symm
  by_cases hh : a.natAbs * b.natAbs < 18446744073709551616
  · have e1 : Hid (a.natAbs * b.natAbs / 18446744073709551616 = 0) := Nat.div_eq_of_lt hh
    have e2 : Hid (a.natAbs * b.natAbs % 18446744073709551616 = a.natAbs * b.natAbs) := Nat.mod_eq_of_lt hh
    have e3 : Hid (∀ p, p = (!(decide (a < 0) == decide (b < 0))) → sizeS (a.natAbs * b.natAbs) p = a * b) := sign_mul a b hab
    clear hab
    go_enter Try.func13, Try.ntmps13
    go_wp2_with fail
    refine (magnitude_any a a1 a2 _).mono ?_
    rintro e w' ⟨rfl, rfl⟩
    go_wp2_with fail
    refine (magnitude_any b b1 b2 _).mono ?_
    rintro e w' ⟨rfl, rfl⟩
    go_wp2_with fail
    refine (mul64_any _ _ (by omega) (by omega) _).mono ?_
    rintro e w' ⟨rfl, rfl⟩
    rw [e1.out, e2.out]
    go_wp2_with fail
    refine (signed_any _ _ hh _).mono ?_
    rintro e w' ⟨rfl, rfl⟩
    rw [e3.out _ rfl]
    go_wp2_with fail
    go_ret2
    exact ⟨rfl, rfl⟩
  · have e1 : Hid (∃ k : Nat, 0 < k ∧ a.natAbs * b.natAbs / 18446744073709551616 = k) := ⟨_, by omega, rfl⟩
    have hb : Hid (fitB (a * b) = false) := fitB_false (by omega)
    clear hab
    go_enter Try.func13, Try.ntmps13
    go_wp2_with fail
    refine (magnitude_any a a1 a2 _).mono ?_
    rintro e w' ⟨rfl, rfl⟩
    go_wp2_with fail
    refine (magnitude_any b b1 b2 _).mono ?_
    rintro e w' ⟨rfl, rfl⟩
    go_wp2_with fail
    refine (mul64_any _ _ (by omega) (by omega) _).mono ?_
    rintro e w' ⟨rfl, rfl⟩
    obtain ⟨k, hk, hk'⟩ := e1.out
    rw [hk']
    have hk2 : ((k : Int) != 0) = true := by simp; omega
    clear hk'
    go_wp2_with fail
    go_ret2
    exact ⟨ret2 (fitN_false hb.out).symm hb.out.symm, rfl⟩
end Go.Proofs.Ytfdnfdakejabaaa
