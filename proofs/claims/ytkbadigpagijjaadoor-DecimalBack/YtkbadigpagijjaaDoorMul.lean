/-
  Walks of layer 1: math/bits.Mul64, Len64, LeadingZeros64; Mul of package fixnum.
-/
import Derived.Test.YtkbadigpagijjaaDoorLeaf
namespace Go.Proofs.YtkbadigpagijjaaDoor
open Go.RowKit

theorem ret2n {k : IntKind} {a b c d : Int} (h : a = b) (h' : c = d) : Ending.returned (.tuple #[.int k a, .int k c]) = .returned (.tuple #[.int k b, .int k d]) := by rw [h, h']
/-- A product of two words by their halves. -/
theorem prod_nat (x y : Nat) (hx : x < 18446744073709551616) (hy : y < 18446744073709551616) :
    ∃ A X Y L : Nat, (x / 4294967296) * (y / 4294967296) = A ∧ (x / 4294967296) * (y % 4294967296) = X ∧ (x % 4294967296) * (y / 4294967296) = Y ∧ (x % 4294967296) * (y % 4294967296) = L ∧
      A ≤ 18446744065119617025 ∧ X ≤ 18446744065119617025 ∧ Y ≤ 18446744065119617025 ∧ L ≤ 18446744065119617025 ∧ x * y = A * 18446744073709551616 + (X + Y) * 4294967296 + L := by
  have top : ∀ a b : Nat, a ≤ 4294967295 → b ≤ 4294967295 → a * b ≤ 18446744065119617025 := fun a b ha hb => Nat.mul_le_mul ha hb
  refine ⟨_, _, _, _, rfl, rfl, rfl, rfl, top _ _ (by omega) (by omega), top _ _ (by omega) (by omega), top _ _ (by omega) (by omega), top _ _ (by omega) (by omega), ?_⟩
  obtain ⟨a, ha⟩ : ∃ a, x / 4294967296 = a := ⟨_, rfl⟩
  obtain ⟨b, hb⟩ : ∃ b, x % 4294967296 = b := ⟨_, rfl⟩
  obtain ⟨c, hc⟩ : ∃ c, y / 4294967296 = c := ⟨_, rfl⟩
  obtain ⟨d, hd⟩ : ∃ d, y % 4294967296 = d := ⟨_, rfl⟩
  have ex : x = a * 4294967296 + b := by omega
  have ey : y = c * 4294967296 + d := by omega
  rw [ha, hb, hc, hd, ex, ey]
  have e1 : (a * 4294967296 + b) * (c * 4294967296 + d) = (a * 4294967296) * (c * 4294967296) + (a * 4294967296) * d + (b * (c * 4294967296) + b * d) := by
    rw [Nat.add_mul, Nat.mul_add, Nat.mul_add]
  have e2 : (a * 4294967296) * (c * 4294967296) = a * c * 18446744073709551616 := by rw [Nat.mul_mul_mul_comm]
  have e3 : (a * 4294967296) * d = a * d * 4294967296 := Nat.mul_right_comm _ _ _
  have e4 : b * (c * 4294967296) = b * c * 4294967296 := (Nat.mul_assoc _ _ _).symm
  rw [e1, e2, e3, e4]
  generalize a * c = p
  generalize a * d = q
  generalize b * c = r
  generalize b * d = t
  omega

/-- The lower half of a word, by '&'. -/
theorem low_half (a : Int) (h0 : 0 ≤ a) (h1 : a ≤ 18446744073709551615) : bits .and .u64 a 4294967295 = a % 4294967296 := by
  obtain ⟨n, rfl⟩ := Int.eq_ofNat_of_zero_le h0
  rw [show (4294967295 : Int) = ((4294967295 : Nat) : Int) from rfl, bits_and_u64_nat n 4294967295 (by omega) (by decide), show (4294967295 : Nat) = 2 ^ 32 - 1 from rfl, Nat.and_two_pow_sub_one_eq_mod]
  exact Int.natCast_emod n (2 ^ 32)
/-- A product that fits a word is not wrapped. -/
theorem wrap_prod (a b m : Nat) (p q : Int) (hp : p = (a : Int)) (hq : q = (b : Int)) (h : a * b = m) (hm : m ≤ 18446744065119617025) : IntKind.u64.wrap (p * q) = (m : Int) := by
  subst hp; subst hq
  rw [← Int.natCast_mul, h, IntKind.wrap_u64]
  omega

set_option maxRecDepth 100000 in
set_option maxHeartbeats 1000000 in
theorem mul64_any (x y : Nat) (hx : x < 18446744073709551616) (hy : y < 18446744073709551616) (w : World) :
    Calls Tryd.prog 23 #[.int .u64 x, .int .u64 y] w fun e w' => e = .returned (.tuple #[.int .u64 ((x * y / 18446744073709551616 : Nat) : Int), .int .u64 ((x * y % 18446744073709551616 : Nat) : Int)]) ∧ w' = w := by
  obtain ⟨A, X, Y, L, eA, eX, eY, eL, bA, bX, bY, bL, e⟩ := prod_nat x y hx hy
  have k1 := low_half (x : Int) (by omega) (by omega)
  have k2 := low_half (y : Int) (by omega) (by omega)
  have k3 := low_half ((X : Int) + (L : Int) / 4294967296) (by omega) (by omega)
  have kA := wrap_prod (x / 4294967296) (y / 4294967296) A ((x : Int) / 4294967296) ((y : Int) / 4294967296) (by omega) (by omega) eA bA
  have kX := wrap_prod (x / 4294967296) (y % 4294967296) X ((x : Int) / 4294967296) ((y : Int) % 4294967296) (by omega) (by omega) eX bX
  have kY := wrap_prod (x % 4294967296) (y / 4294967296) Y ((x : Int) % 4294967296) ((y : Int) / 4294967296) (by omega) (by omega) eY bY
  have kL := wrap_prod (x % 4294967296) (y % 4294967296) L ((x : Int) % 4294967296) ((y : Int) % 4294967296) (by omega) (by omega) eL bL
  have HE : Hid (x * y = A * 18446744073709551616 + (X + Y) * 4294967296 + L) := e
  have HL : Hid (IntKind.u64.wrap ((x : Int) * (y : Int)) = ((x * y % 18446744073709551616 : Nat) : Int)) := by
    show IntKind.u64.wrap ((x : Int) * (y : Int)) = ((x * y % 18446744073709551616 : Nat) : Int)
    rw [← Int.natCast_mul, IntKind.wrap_u64]; omega
  clear eA eX eY eL e
  go_enter Tryd.func23, Tryd.ntmps23
  go_wp2
  go_ret2
  refine ⟨ret2n ?_ HL.out, rfl⟩
  rw [HE.out]
  omega

theorem sign_mul (a b : Int) (h : (a.natAbs * b.natAbs : Nat) = (a * b).natAbs) (p : Bool) (hp : p = (!(decide (a < 0) == decide (b < 0)))) : sizeS (a.natAbs * b.natAbs) p = a * b := by
  subst hp
  unfold sizeS
  rw [h]
  by_cases ha : a < 0 <;> by_cases hb : b < 0
  · have := Int.mul_nonneg_of_nonpos_of_nonpos (a := a) (b := b) (by omega) (by omega)
    simp [ha, hb]; omega
  · have := Int.mul_nonpos_of_nonpos_of_nonneg (a := a) (b := b) (by omega) (by omega)
    simp [ha, hb]; omega
  · have := Int.mul_nonpos_of_nonneg_of_nonpos (a := a) (b := b) (by omega) (by omega)
    simp [ha, hb]; omega
  · have := Int.mul_nonneg (a := a) (b := b) (by omega) (by omega)
    simp [ha, hb]; omega

set_option maxHeartbeats 1000000 in
theorem mul_any (a b : Int) (a1 : -9223372036854775808 ≤ a) (a2 : a ≤ 9223372036854775807) (b1 : -9223372036854775808 ≤ b) (b2 : b ≤ 9223372036854775807) (w : World) :
    Calls Tryd.prog 12 #[.int .i64 a, .int .i64 b] w fun e w' => e = .returned (.tuple #[.int .i64 (fitN (a * b)), .bool (fitB (a * b))]) ∧ w' = w := by
  have hab : a.natAbs * b.natAbs = (a * b).natAbs := (Int.natAbs_mul a b).symm
  by_cases hh : a.natAbs * b.natAbs < 18446744073709551616
  · have e1 : Hid (a.natAbs * b.natAbs / 18446744073709551616 = 0) := Nat.div_eq_of_lt hh
    have e2 : Hid (a.natAbs * b.natAbs % 18446744073709551616 = a.natAbs * b.natAbs) := Nat.mod_eq_of_lt hh
    have e3 : Hid (∀ p, p = (!(decide (a < 0) == decide (b < 0))) → sizeS (a.natAbs * b.natAbs) p = a * b) := sign_mul a b hab
    clear hab
    go_enter Tryd.func12, Tryd.ntmps12
    go_wp2_with fail
    refine (magnitude_any a a1 a2 _).mono ?_
    rintro e w' ⟨rfl, rfl⟩
    go_wp2_with fail
    refine (magnitude_any b b1 b2 _).mono ?_
    rintro e w' ⟨rfl, rfl⟩
    go_wp2_with fail
    refine (mul64_any _ _ (by omega) (by omega) _).mono ?_
    rintro e w' ⟨rfl, rfl⟩
    rw [e1.out, e2.out]
    go_wp2_with fail
    refine (signed_any _ _ hh _).mono ?_
    rintro e w' ⟨rfl, rfl⟩
    rw [e3.out _ rfl]
    go_wp2_with fail
    go_ret2
    exact ⟨rfl, rfl⟩
  · have e1 : Hid (∃ k : Nat, 0 < k ∧ a.natAbs * b.natAbs / 18446744073709551616 = k) := ⟨_, by omega, rfl⟩
    have hb : Hid (fitB (a * b) = false) := fitB_false (by omega)
    clear hab
    go_enter Tryd.func12, Tryd.ntmps12
    go_wp2_with fail
    refine (magnitude_any a a1 a2 _).mono ?_
    rintro e w' ⟨rfl, rfl⟩
    go_wp2_with fail
    refine (magnitude_any b b1 b2 _).mono ?_
    rintro e w' ⟨rfl, rfl⟩
    go_wp2_with fail
    refine (mul64_any _ _ (by omega) (by omega) _).mono ?_
    rintro e w' ⟨rfl, rfl⟩
    obtain ⟨k, hk, hk'⟩ := e1.out
    rw [hk']
    have hk2 : ((k : Int) != 0) = true := by simp; omega
    clear hk'
    go_wp2_with fail
    go_ret2
    exact ⟨ret2 (fitN_false hb.out).symm hb.out.symm, rfl⟩
end Go.Proofs.YtkbadigpagijjaaDoor
