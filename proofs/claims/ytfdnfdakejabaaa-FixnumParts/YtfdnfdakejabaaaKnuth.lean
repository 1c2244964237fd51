/-
  The arithmetic under math/bits.Div64: a quotient's digit of 32 bits is guessed from the divisor's upper half and brought down; two digits make the quotient.
-/
namespace Go.Proofs.Ytfdnfdakejabaaa

theorem digit_eq (u d v1 v0 q r : Nat) (hu : q * v1 + r = u) : q * (v1 * 4294967296 + v0) + (4294967296 * r + d) = u * 4294967296 + d + q * v0 := by
  subst hu
  rw [Nat.mul_add, ← Nat.mul_assoc, Nat.add_mul]
  generalize q * v1 = t
  generalize q * v0 = s
  omega

/-- The guess is no greater than the digit where the test says no. -/
theorem digit_stop (u d v1 v0 q r : Nat) (hu : q * v1 + r = u) (hv : 0 < v1) (hq : (u * 4294967296 + d) / (v1 * 4294967296 + v0) ≤ q) (h2 : q * v0 ≤ 4294967296 * r + d) :
    q = (u * 4294967296 + d) / (v1 * 4294967296 + v0) := by
  have e := digit_eq u d v1 v0 q r hu
  apply Nat.le_antisymm _ hq
  rw [Nat.le_div_iff_mul_le (by omega)]
  omega

/-- The guess is too great where the test says yes. -/
theorem digit_more (u d v1 v0 q r : Nat) (hu : q * v1 + r = u) (hv : 0 < v1) (h2 : 4294967296 * r + d < q * v0) :
    (u * 4294967296 + d) / (v1 * 4294967296 + v0) < q := by
  have e := digit_eq u d v1 v0 q r hu
  rw [Nat.div_lt_iff_lt_mul (by omega)]
  omega

/-- A digit is a digit. -/
theorem digit_lt (u d v1 v0 : Nat) (hu : u < v1 * 4294967296 + v0) (hd : d < 4294967296) :
    (u * 4294967296 + d) / (v1 * 4294967296 + v0) < 4294967296 := by
  rw [Nat.div_lt_iff_lt_mul (by omega)]
  omega

/-- The first guess is at most two more than the greatest digit. -/
theorem guess_le (u v1 v0 : Nat) (hu : u < v1 * 4294967296 + v0) (hv : 2147483648 ≤ v1) (h0 : v0 < 4294967296) : u / v1 ≤ 4294967297 := by
  apply Nat.le_of_lt_succ
  rw [Nat.div_lt_iff_lt_mul (by omega)]
  omega

/-- The first guess is no less than the digit. -/
theorem guess_ge (u d v1 v0 : Nat) (hv : 0 < v1) (hd : d < 4294967296) : (u * 4294967296 + d) / (v1 * 4294967296 + v0) ≤ u / v1 := by
  rw [Nat.le_div_iff_mul_le hv]
  have h := Nat.div_mul_le_self (u * 4294967296 + d) (v1 * 4294967296 + v0)
  generalize (u * 4294967296 + d) / (v1 * 4294967296 + v0) = q at *
  rw [Nat.mul_add, ← Nat.mul_assoc] at h
  generalize q * v1 = t at *
  generalize q * v0 = s at *
  omega

/-- Behind one step down with a rest that is no digit any more, the guess is right. -/
theorem digit_break (u d v1 v0 q r : Nat) (hu : q * v1 + r = u) (hv : 0 < v1) (h0 : v0 < 4294967296) (hq : (u * 4294967296 + d) / (v1 * 4294967296 + v0) ≤ q)
    (hle : q ≤ 4294967296) (hr : 4294967296 ≤ r) : q = (u * 4294967296 + d) / (v1 * 4294967296 + v0) := by
  apply digit_stop u d v1 v0 q r hu hv hq
  have h3 : q * v0 ≤ 4294967296 * 4294967295 := Nat.mul_le_mul hle (by omega)
  omega

theorem step_down (v1 q r u : Nat) (hu : q * v1 + r = u) (hq : 0 < q) : (q - 1) * v1 + (r + v1) = u := by
  obtain ⟨k, rfl⟩ : ∃ k, q = k + 1 := ⟨q - 1, by omega⟩
  rw [Nat.add_sub_cancel, ← hu, Nat.add_mul]
  omega

/-- What is left behind a digit. -/
theorem digit_rest (u d y q : Nat) (hq : q = (u * 4294967296 + d) / y) : u * 4294967296 + d - q * y = (u * 4294967296 + d) % y ∧ q * y ≤ u * 4294967296 + d := by
  subst hq
  have h := Nat.div_add_mod (u * 4294967296 + d) y
  rw [Nat.mul_comm] at h
  omega

theorem two_aux (N r y Q q : Nat) (e : N = r + y * Q) (hy : 0 < y) (h0 : q = r / y) : Q + q = N / y := by
  rw [e, Nat.add_mul_div_left _ _ hy, ← h0, Nat.add_comm]

/-- Two digits. -/
theorem two_digits (u un1 un0 y q1 r1 q0 : Nat) (hy : 0 < y) (h1 : q1 = (u * 4294967296 + un1) / y) (hr : r1 = (u * 4294967296 + un1) % y)
    (h0 : q0 = (r1 * 4294967296 + un0) / y) : q1 * 4294967296 + q0 = (u * 18446744073709551616 + (un1 * 4294967296 + un0)) / y := by
  have h := Nat.div_add_mod (u * 4294967296 + un1) y
  rw [← h1, ← hr] at h
  have e : u * 18446744073709551616 + (un1 * 4294967296 + un0) = (r1 * 4294967296 + un0) + y * (q1 * 4294967296) := by
    rw [← Nat.mul_assoc]; generalize y * q1 = t at *; omega
  exact two_aux _ (r1 * 4294967296 + un0) y (q1 * 4294967296) q0 e hy h0

theorem shift_quot (n y s : Nat) (hs : 0 < s) : (n * s) / (y * s) = n / y := Nat.mul_div_mul_right n y hs

end Go.Proofs.Ytfdnfdakejabaaa
