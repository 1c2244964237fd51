/-
  Numbers for Div64: from the dividend's two words and the divisor to the digits that the walk goes by.
-/
import Derived.Test.YtfdnfdakejabaaaDig
import Derived.Test.YtfdnfdakejabaaaMul
namespace Go.Proofs.Ytfdnfdakejabaaa
open Go.RowKit

theorem mask32 (a : Nat) (ha : a < 18446744073709551616) : bits .and .u64 (a : Int) 4294967295 = ((a % 4294967296 : Nat) : Int) := by
  rw [low_half _ (by omega) (by omega)]; omega

/-- A word moved up, and what comes in from below: put together by '|' as by '+'. -/
theorem or_join (hi lo s : Nat) (hs : s ≤ 63) (hl : lo < 18446744073709551616) (hh : hi * 2 ^ s < 18446744073709551616) :
    bits .or .u64 (IntKind.u64.wrap ((hi : Int) * 2 ^ s)) ((lo : Int) / 2 ^ (64 - s)) = ((hi * 2 ^ s + lo / 2 ^ (64 - s) : Nat) : Int) := by
  have c : ((hi : Int) * 2 ^ s) = ((hi * 2 ^ s : Nat) : Int) := by simp
  have c2 : ((lo : Int) / 2 ^ (64 - s)) = ((lo / 2 ^ (64 - s) : Nat) : Int) := by simp
  have e64 : (2 : Nat) ^ s * 2 ^ (64 - s) = 18446744073709551616 := by
    rw [← Nat.pow_add, show s + (64 - s) = 64 by omega]
  have hlt : lo / 2 ^ (64 - s) < 2 ^ s := by
    rw [Nat.div_lt_iff_lt_mul (Nat.two_pow_pos _), e64]; exact hl
  have hlt2 : lo / 2 ^ (64 - s) < 18446744073709551616 := Nat.lt_of_le_of_lt (Nat.div_le_self _ _) hl
  have hw : IntKind.u64.wrap ((hi * 2 ^ s : Nat) : Int) = ((hi * 2 ^ s : Nat) : Int) := by rw [IntKind.wrap_u64]; omega
  rw [c, c2, hw, bits_or_u64_nat _ _ hh hlt2, Nat.mul_comm hi, ← Nat.two_pow_add_eq_or_of_lt hlt hi]

theorem split_general (hi lo a b K : Nat) (hK : a * b = K) (hb : 0 < b) : (hi * K + lo) * b = (hi * b + lo / a) * K + (lo * b) % K := by
  have h1 : lo * b / K = lo / a := by rw [← hK, Nat.mul_div_mul_right _ _ hb]
  have dm := Nat.div_add_mod (lo * b) K
  rw [h1] at dm
  rw [Nat.add_mul, Nat.add_mul, Nat.mul_right_comm hi K b, Nat.mul_comm (lo / a) K, Nat.add_assoc, dm]

/-- The dividend, moved up: its high word and its low word. -/
theorem dividend_split (hi lo s : Nat) (hs : s ≤ 63) :
    (hi * 18446744073709551616 + lo) * 2 ^ s = (hi * 2 ^ s + lo / 2 ^ (64 - s)) * 18446744073709551616 + (lo * 2 ^ s) % 18446744073709551616 := by
  have e64 : (2 : Nat) ^ (64 - s) * 2 ^ s = 18446744073709551616 := by
    rw [← Nat.pow_add, show 64 - s + s = 64 by omega]
  exact split_general hi lo _ _ _ e64 (Nat.two_pow_pos _)

theorem shl_wrap (lo s : Nat) : IntKind.u64.wrap ((lo : Int) * 2 ^ s) = (((lo * 2 ^ s) % 18446744073709551616 : Nat) : Int) := by
  have c : ((lo : Int) * 2 ^ s) = ((lo * 2 ^ s : Nat) : Int) := by simp
  rw [c, IntKind.wrap_u64]; omega

theorem hi_lt (hi lo y s : Nat) (hs : s ≤ 63) (hl : lo < 18446744073709551616) (h : hi < y) : hi * 2 ^ s + lo / 2 ^ (64 - s) < y * 2 ^ s := by
  have e64 : (2 : Nat) ^ s * 2 ^ (64 - s) = 18446744073709551616 := by
    rw [← Nat.pow_add, show s + (64 - s) = 64 by omega]
  have hlt : lo / 2 ^ (64 - s) < 2 ^ s := by
    rw [Nat.div_lt_iff_lt_mul (Nat.two_pow_pos _), e64]; exact hl
  have h1 : (hi + 1) * 2 ^ s ≤ y * 2 ^ s := Nat.mul_le_mul_right _ h
  rw [Nat.add_mul, Nat.one_mul] at h1
  omega
end Go.Proofs.Ytfdnfdakejabaaa
