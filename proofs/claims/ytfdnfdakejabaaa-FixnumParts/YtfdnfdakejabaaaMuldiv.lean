/-
  The walk of fixnum.MulDiv: the exact product divided, cut towards nought; nothing where the divisor is 0 or the quotient leaves 64 bits.
-/
import Derived.Test.YtfdnfdakejabaaaQuo
namespace Go.Proofs.Ytfdnfdakejabaaa
open Go.RowKit

theorem tdiv_size (x c : Int) (px pc : Bool) (h1 : px = true → x ≤ 0) (h2 : px = false → 0 ≤ x) (h3 : pc = true → c ≤ 0) (h4 : pc = false → 0 ≤ c) :
    sizeS (x.natAbs / c.natAbs) (px != pc) = x.tdiv c := by
  cases px <;> cases pc
  · obtain ⟨m, rfl⟩ := Int.eq_ofNat_of_zero_le (h2 rfl)
    obtain ⟨n, rfl⟩ := Int.eq_ofNat_of_zero_le (h4 rfl)
    rfl
  · obtain ⟨m, rfl⟩ := Int.eq_ofNat_of_zero_le (h2 rfl)
    obtain ⟨n, hn⟩ := Int.eq_ofNat_of_zero_le (show 0 ≤ -c by have := h3 rfl; omega)
    obtain rfl : c = -(n : Int) := by omega
    rw [Int.tdiv_neg, Int.natAbs_neg]; rfl
  · obtain ⟨n, rfl⟩ := Int.eq_ofNat_of_zero_le (h4 rfl)
    obtain ⟨m, hm⟩ := Int.eq_ofNat_of_zero_le (show 0 ≤ -x by have := h1 rfl; omega)
    obtain rfl : x = -(m : Int) := by omega
    rw [Int.neg_tdiv, Int.natAbs_neg]; rfl
  · obtain ⟨n, hn⟩ := Int.eq_ofNat_of_zero_le (show 0 ≤ -c by have := h3 rfl; omega)
    obtain rfl : c = -(n : Int) := by omega
    obtain ⟨m, hm⟩ := Int.eq_ofNat_of_zero_le (show 0 ≤ -x by have := h1 rfl; omega)
    obtain rfl : x = -(m : Int) := by omega
    rw [Int.neg_tdiv, Int.tdiv_neg, Int.neg_neg, Int.natAbs_neg, Int.natAbs_neg]; rfl

theorem mul_sign (a b : Int) : ((!(decide (a < 0) == decide (b < 0))) = true → a * b ≤ 0) ∧ ((!(decide (a < 0) == decide (b < 0))) = false → 0 ≤ a * b) := by
  by_cases ha : a < 0 <;> by_cases hb : b < 0
  · have := Int.mul_nonneg_of_nonpos_of_nonpos (a := a) (b := b) (by omega) (by omega)
    simp [ha, hb]; omega
  · have := Int.mul_nonpos_of_nonpos_of_nonneg (a := a) (b := b) (by omega) (by omega)
    simp [ha, hb]; omega
  · have := Int.mul_nonpos_of_nonneg_of_nonpos (a := a) (b := b) (by omega) (by omega)
    simp [ha, hb]; omega
  · have := Int.mul_nonneg (a := a) (b := b) (by omega) (by omega)
    simp [ha, hb]; omega

theorem muldiv_sign (a b c : Int) (p : Bool) (hp : p = (!((!(decide (a < 0) == decide (b < 0))) == decide (c < 0)))) : sizeS (a.natAbs * b.natAbs / c.natAbs) p = (a * b).tdiv c := by
  obtain ⟨m1, m2⟩ := mul_sign a b
  rw [← tdiv_size (a * b) c (!(decide (a < 0) == decide (b < 0))) (decide (c < 0)) m1 m2 (by simp; omega) (by simp), Int.natAbs_mul, hp]
  generalize (!(decide (a < 0) == decide (b < 0))) = p1
  cases p1 <;> cases (decide (c < 0)) <;> rfl

/-- Where the upper word is no less than the divisor's size there is no such number. -/
theorem muldiv_none (a b c : Int) (h : c.natAbs ≤ a.natAbs * b.natAbs / 18446744073709551616) : byN (a * b) c = 0 ∧ byB (a * b) c = false := by
  by_cases h0 : c = 0
  · exact ⟨byN_0 _ h0, byB_0 _ h0⟩
  · rw [byN_1 _ h0, byB_1 _ h0]
    have h1 : c.natAbs * 18446744073709551616 ≤ a.natAbs * b.natAbs := by rw [Nat.le_div_iff_mul_le (by decide)] at h; exact h
    have h2 : 18446744073709551616 ≤ ((a * b).tdiv c).natAbs := by
      rw [Int.natAbs_tdiv, Int.natAbs_mul]
      show 18446744073709551616 ≤ (a.natAbs * b.natAbs) / c.natAbs
      rw [Nat.le_div_iff_mul_le (by omega), Nat.mul_comm]; exact h1
    have h3 : fitB ((a * b).tdiv c) = false := fitB_false (by omega)
    exact ⟨fitN_false h3, h3⟩

set_option maxHeartbeats 1000000 in
theorem muldiv_any (a b c : Int) (a1 : -9223372036854775808 ≤ a) (a2 : a ≤ 9223372036854775807) (b1 : -9223372036854775808 ≤ b) (b2 : b ≤ 9223372036854775807) (c1 : -9223372036854775808 ≤ c) (c2 : c ≤ 9223372036854775807) (w : World) :
    Calls Try.prog 21 #[.int .i64 a, .int .i64 b, .int .i64 c] w fun e w' => e = .returned (.tuple #[.int .i64 (byN (a * b) c), .bool (byB (a * b) c)]) ∧ ∃ n, w' = w.drewN n := by
  by_cases hh : c.natAbs ≤ a.natAbs * b.natAbs / 18446744073709551616
  · have hn : Hid (byN (a * b) c = 0 ∧ byB (a * b) c = false) := muldiv_none a b c hh
    obtain ⟨H, hH⟩ : ∃ H, H = a.natAbs * b.natAbs / 18446744073709551616 := ⟨_, rfl⟩
    have hH' : Hid (a.natAbs * b.natAbs / 18446744073709551616 = H) := hH.symm
    rw [← hH] at hh
    clear hH
    go_enter Try.func21, Try.ntmps21
    go_wp2_with fail
    refine (magnitude_any c c1 c2 _).mono ?_
    rintro e w' ⟨rfl, rfl⟩
    go_wp2_with fail
    refine (magnitude_any a a1 a2 _).mono ?_
    rintro e w' ⟨rfl, rfl⟩
    go_wp2_with fail
    refine (magnitude_any b b1 b2 _).mono ?_
    rintro e w' ⟨rfl, rfl⟩
    go_wp2_with fail
    refine (mul64_any _ _ (by omega) (by omega) _).mono ?_
    rintro e w' ⟨rfl, rfl⟩
    rw [hH'.out]
    go_wp2_with fail
    go_ret2
    exact ⟨ret2 hn.out.1.symm hn.out.2.symm, 0, rfl⟩
  · have hc0 : c ≠ 0 := by intro h; subst h; exact hh (Nat.zero_le _)
    have hn : Hid (byN (a * b) c = fitN ((a * b).tdiv c) ∧ byB (a * b) c = fitB ((a * b).tdiv c)) := ⟨byN_1 _ hc0, byB_1 _ hc0⟩
    have hsg : Hid (∀ p, p = (!((!(decide (a < 0) == decide (b < 0))) == decide (c < 0))) → sizeS (a.natAbs * b.natAbs / c.natAbs) p = (a * b).tdiv c) := muldiv_sign a b c
    obtain ⟨H, hH⟩ : ∃ H, H = a.natAbs * b.natAbs / 18446744073709551616 := ⟨_, rfl⟩
    obtain ⟨L, hL⟩ : ∃ L, L = a.natAbs * b.natAbs % 18446744073709551616 := ⟨_, rfl⟩
    have hH' : Hid (a.natAbs * b.natAbs / 18446744073709551616 = H) := hH.symm
    have hL' : Hid (a.natAbs * b.natAbs % 18446744073709551616 = L) := hL.symm
    have hLb : Hid (L < 18446744073709551616) := by rw [hL]; exact Nat.mod_lt _ (by decide)
    have hq : Hid ((H * 18446744073709551616 + L) / c.natAbs = a.natAbs * b.natAbs / c.natAbs) := by
      have dm := Nat.div_add_mod' (a.natAbs * b.natAbs) 18446744073709551616
      rw [← hH, ← hL] at dm
      show (H * 18446744073709551616 + L) / c.natAbs = a.natAbs * b.natAbs / c.natAbs
      rw [dm]
    rw [← hH] at hh
    have hHc : Hid (H < c.natAbs) := by show H < c.natAbs; omega
    have hqb : Hid (a.natAbs * b.natAbs / c.natAbs < 18446744073709551616) := by
      show a.natAbs * b.natAbs / c.natAbs < 18446744073709551616
      have k : a.natAbs * b.natAbs < c.natAbs * 18446744073709551616 := by rw [← Nat.div_lt_iff_lt_mul (by decide), ← hH]; omega
      rw [Nat.div_lt_iff_lt_mul (by omega), Nat.mul_comm 18446744073709551616]; exact k
    clear hH hL
    go_enter Try.func21, Try.ntmps21
    go_wp2_with fail
    refine (magnitude_any c c1 c2 _).mono ?_
    rintro e w' ⟨rfl, rfl⟩
    go_wp2_with fail
    refine (magnitude_any a a1 a2 _).mono ?_
    rintro e w' ⟨rfl, rfl⟩
    go_wp2_with fail
    refine (magnitude_any b b1 b2 _).mono ?_
    rintro e w' ⟨rfl, rfl⟩
    go_wp2_with fail
    refine (mul64_any _ _ (by omega) (by omega) _).mono ?_
    rintro e w' ⟨rfl, rfl⟩
    rw [hH'.out, hL'.out]
    go_wp2_with fail
    refine (div64_any H L c.natAbs hHc.out hLb.out (by omega) _).mono ?_
    rintro e w' ⟨⟨r, rfl⟩, ⟨n, rfl⟩⟩
    rw [hq.out]
    go_wp2_with fail
    refine (signed_any _ _ hqb.out _).mono ?_
    rintro e w' ⟨rfl, rfl⟩
    rw [hsg.out _ rfl]
    go_wp2_with fail
    go_ret2
    exact ⟨ret2 hn.out.1.symm hn.out.2.symm, n, rfl⟩
end Go.Proofs.Ytfdnfdakejabaaa
