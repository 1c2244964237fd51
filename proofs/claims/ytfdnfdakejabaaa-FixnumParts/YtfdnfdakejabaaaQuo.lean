/-
  math/bits.Div64: the quotient of two words by one that is greater than the upper word.
-/
import Derived.Test.YtfdnfdakejabaaaDiv
import Derived.Test.YtfdnfdakejabaaaNorm
namespace Go.Proofs.Ytfdnfdakejabaaa
open Go.RowKit

/-- The digits, all told. -/
theorem digits (U D Y : Nat) (hU : U < Y) (hD : D < 18446744073709551616) (hY1 : 9223372036854775808 ≤ Y) (hY2 : Y < 18446744073709551616) :
    ∃ g1 e1 Q1 R1 g0 e0 Q0 : Int,
      (U : Int) / ((Y / 4294967296 : Nat) : Int) = g1 ∧ IntKind.u64.wrap ((U : Int) - IntKind.u64.wrap (g1 * ((Y / 4294967296 : Nat) : Int))) = e1 ∧ 0 ≤ g1 ∧ g1 ≤ 4294967297 ∧ 0 ≤ e1 ∧ e1 ≤ 4294967295 ∧
      DG (U : Int) ((D / 4294967296 : Nat) : Int) ((Y / 4294967296 : Nat) : Int) ((Y % 4294967296 : Nat) : Int) g1 e1 Q1 ∧ 0 ≤ Q1 ∧ Q1 ≤ 4294967295 ∧
      IntKind.u64.wrap (IntKind.u64.wrap (IntKind.u64.wrap ((U : Int) * 4294967296) + ((D / 4294967296 : Nat) : Int)) - IntKind.u64.wrap (Q1 * (Y : Int))) = R1 ∧ 0 ≤ R1 ∧ R1 ≤ 18446744073709551615 ∧
      R1 / ((Y / 4294967296 : Nat) : Int) = g0 ∧ IntKind.u64.wrap (R1 - IntKind.u64.wrap (g0 * ((Y / 4294967296 : Nat) : Int))) = e0 ∧ 0 ≤ g0 ∧ g0 ≤ 4294967297 ∧ 0 ≤ e0 ∧ e0 ≤ 4294967295 ∧
      DG R1 ((D % 4294967296 : Nat) : Int) ((Y / 4294967296 : Nat) : Int) ((Y % 4294967296 : Nat) : Int) g0 e0 Q0 ∧ 0 ≤ Q0 ∧ Q0 ≤ 4294967295 ∧
      Q1 * 4294967296 + Q0 = (((U * 18446744073709551616 + D) / Y : Nat) : Int) := by
  obtain ⟨v1, hv1⟩ : ∃ n, Y / 4294967296 = n := ⟨_, rfl⟩
  obtain ⟨v0, hv0⟩ : ∃ n, Y % 4294967296 = n := ⟨_, rfl⟩
  obtain ⟨d1, hd1⟩ : ∃ n, D / 4294967296 = n := ⟨_, rfl⟩
  obtain ⟨d0, hd0⟩ : ∃ n, D % 4294967296 = n := ⟨_, rfl⟩
  rw [hv1, hv0, hd1, hd0]
  have hYe : Y = v1 * 4294967296 + v0 := by omega
  have hDe : D = d1 * 4294967296 + d0 := by omega
  obtain ⟨g1, e1, a1, a2, a3, a4, a5, a6, a7, a8, a9⟩ := guess_start (U : Int) (d1 : Int) (v1 : Int) (v0 : Int) _ (by omega) (by omega) (by omega) (by omega) (by omega) (by omega) (by omega) (by omega) (by omega) rfl
  rw [Int.toNat_natCast, Int.toNat_natCast, Int.toNat_natCast, Int.toNat_natCast] at a7 a8 a9
  obtain ⟨Q1, hQ1⟩ : ∃ n, (U * 4294967296 + d1) / (v1 * 4294967296 + v0) = n := ⟨_, rfl⟩
  rw [hQ1] at a7 a8 a9
  obtain ⟨R1, hR1⟩ : ∃ n, (U * 4294967296 + d1) % (v1 * 4294967296 + v0) = n := ⟨_, rfl⟩
  have hRlt : R1 < v1 * 4294967296 + v0 := by rw [← hR1]; exact Nat.mod_lt _ (by omega)
  obtain ⟨g0, e0, b1, b2, b3, b4, b5, b6, b7, b8, b9⟩ := guess_start (R1 : Int) (d0 : Int) (v1 : Int) (v0 : Int) _ (by omega) (by omega) (by omega) (by omega) (by omega) (by omega) (by omega) (by omega) (by omega) rfl
  rw [Int.toNat_natCast, Int.toNat_natCast, Int.toNat_natCast, Int.toNat_natCast] at b7 b8 b9
  obtain ⟨Q0, hQ0⟩ : ∃ n, (R1 * 4294967296 + d0) / (v1 * 4294967296 + v0) = n := ⟨_, rfl⟩
  rw [hQ0] at b7 b8 b9
  refine ⟨g1, e1, (Q1 : Int), (R1 : Int), g0, e0, (Q0 : Int), a1, a2, a3, a4, a5, a6, a7, a8, a9, ?_, by omega, by omega, b1, b2, b3, b4, b5, b6, b7, b8, b9, ?_⟩
  · have rw1 := rest_wraps (U * 4294967296 + d1) (v1 * 4294967296 + v0) Q1 (by omega) hQ1.symm (by omega)
    rw [hR1, ← hYe] at rw1
    have c : (Q1 : Int) * (Y : Int) = ((Q1 * Y : Nat) : Int) := (Int.natCast_mul Q1 Y).symm
    rw [c, IntKind.wrap_u64, IntKind.wrap_u64, IntKind.wrap_u64, IntKind.wrap_u64]
    generalize Q1 * Y = t at *
    omega
  · have t := two_digits U d1 d0 (v1 * 4294967296 + v0) Q1 R1 Q0 (by omega) hQ1.symm hR1.symm hQ0.symm
    rw [← hYe, ← hDe] at t
    rw [← t]
    omega

theorem div64_any (hi lo y : Nat) (h : hi < y) (hl : lo < 18446744073709551616) (hy : y < 18446744073709551616) (w : World) :
    Calls Try.prog 35 #[.int .u64 (hi : Int), .int .u64 (lo : Int), .int .u64 (y : Int)] w fun e w' =>
      (∃ r : Int, e = .returned (.tuple #[.int .u64 (((hi * 18446744073709551616 + lo) / y : Nat) : Int), .int .u64 r])) ∧ ∃ n, w' = w.drewN n := by
  by_cases h0 : hi = 0
  · subst h0
    have e : (0 * 18446744073709551616 + lo) = lo := by omega
    rw [e]
    exact div64_low lo y hl h hy w
  · obtain ⟨n1, n2⟩ := norm_exists y (by omega) hy
    obtain ⟨l1, l2, _⟩ := bitLen_lower y (by omega) hy
    obtain ⟨s, hs⟩ : ∃ s, s = 64 - Lib.bitLen y := ⟨_, rfl⟩
    rw [← hs] at n1 n2
    have hs63 : s ≤ 63 := by omega
    have hlt := hi_lt hi lo y s hs63 hl h
    have hDlt : (lo * 2 ^ s) % 18446744073709551616 < 18446744073709551616 := Nat.mod_lt _ (by decide)
    obtain ⟨g1, e1, Q1, R1, g0, e0, Q0, a1, a2, a3, a4, a5, a6, a7, a8, a9, r1, r2, r3, b1, b2, b3, b4, b5, b6, b7, b8, b9, fin⟩ :=
      digits (hi * 2 ^ s + lo / 2 ^ (64 - s)) ((lo * 2 ^ s) % 18446744073709551616) (y * 2 ^ s) hlt hDlt n1 n2
    have hq : (hi * 18446744073709551616 + lo) / y = ((hi * 2 ^ s + lo / 2 ^ (64 - s)) * 18446744073709551616 + (lo * 2 ^ s) % 18446744073709551616) / (y * 2 ^ s) := by
      rw [← dividend_split hi lo s hs63, Nat.mul_div_mul_right _ _ (Nat.two_pow_pos _)]
    rw [hq, ← fin]
    have hh : hi * 2 ^ s < 18446744073709551616 := Nat.lt_of_le_of_lt (Nat.le_add_right _ _) (Nat.lt_trans hlt n2)
    have hY : IntKind.u64.wrap ((y : Int) * 2 ^ s) = ((y * 2 ^ s : Nat) : Int) := by rw [shl_wrap, Nat.mod_eq_of_lt n2]
    have hm1 := mask32 (y * 2 ^ s) n2
    have hm2 := mask32 ((lo * 2 ^ s) % 18446744073709551616) hDlt
    have hor := or_join hi lo s hs63 hl hh
    have hshl := shl_wrap lo s
    obtain ⟨U, hU⟩ : ∃ n, hi * 2 ^ s + lo / 2 ^ (64 - s) = n := ⟨_, rfl⟩
    obtain ⟨D, hD⟩ : ∃ n, (lo * 2 ^ s) % 18446744073709551616 = n := ⟨_, rfl⟩
    obtain ⟨Y, hYn⟩ : ∃ n, y * 2 ^ s = n := ⟨_, rfl⟩
    rw [hU] at hor a1 a2 a7 r1 hlt
    rw [hD] at hm2 hshl a7 r1 b7 hDlt
    rw [hYn] at hY hm1 a1 a2 a7 r1 b1 b2 b7 n1 n2 hlt
    refine (div64_walk (hi : Int) (lo : Int) (y : Int) (Y : Int) (D : Int) (U : Int) ((Y / 4294967296 : Nat) : Int) ((Y % 4294967296 : Nat) : Int) ((D / 4294967296 : Nat) : Int) ((D % 4294967296 : Nat) : Int)
      g1 e1 Q1 R1 g0 e0 Q0 s (by omega) (by omega) (by omega) (by omega) (by omega) (by rw [Int.toNat_natCast]; exact l2) (by rw [Int.toNat_natCast]; exact hs) hs63 hY (by omega) hm1 hor hshl (by omega) hm2
      (by omega) (by omega) (by omega) (by omega) (by omega) (by omega) (by omega) (by omega) (by omega) (by omega) a1 a2 a3 a4 a5 a6 a7 a8 a9 r1 r2 r3 b1 b2 b3 b4 b5 b6 b7 b8 b9 w).mono ?_
    rintro e w' ⟨hr, rfl⟩
    exact ⟨hr, 0, rfl⟩
end Go.Proofs.Ytfdnfdakejabaaa
