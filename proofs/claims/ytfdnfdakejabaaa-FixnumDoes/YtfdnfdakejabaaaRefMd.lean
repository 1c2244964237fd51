/-
  The walk of the document's answer for MulDiv: a division bit by bit.
-/
import Derived.Test.YtfdnfdakejabaaaRefMul
namespace Go.Proofs.Ytfdnfdakejabaaa
open Go.RowKit

/-- Behind k bits: the rest h, the bits l that are still to come, the quotient o so far. -/
def LD (P d k : Nat) (h l o : Int) : Prop := ∃ A : Nat, A * 18446744073709551616 + l.toNat = P * 2 ^ k ∧ h = ((A % d : Nat) : Int) ∧ o = ((A / d : Nat) : Int) ∧ 0 ≤ l ∧ l ≤ 18446744073709551615

theorem le_of_scaled (A P l k : Nat) (h : A * 18446744073709551616 + l = P * 2 ^ k) (hk : k ≤ 64) : A ≤ P := by
  have h1 : P * 2 ^ k ≤ P * 2 ^ 64 := Nat.mul_le_mul_left _ (Nat.pow_le_pow_right (by decide) hk)
  have e : (2 : Nat) ^ 64 = 18446744073709551616 := by decide
  rw [e] at h1
  omega

theorem pow_step (P k : Nat) : P * 2 ^ (k + 1) = 2 * (P * 2 ^ k) := by rw [Nat.pow_succ, Nat.mul_comm 2 (P * 2 ^ k), Nat.mul_assoc]

theorem ld_start (P d : Nat) (hP : P / 18446744073709551616 < d) : LD P d 0 ((P / 18446744073709551616 : Nat) : Int) ((P % 18446744073709551616 : Nat) : Int) 0 := by
  refine ⟨P / 18446744073709551616, ?_, ?_, ?_, by omega, by omega⟩
  · rw [Int.toNat_natCast]; omega
  · rw [Nat.mod_eq_of_lt hP]
  · rw [Nat.div_eq_of_lt hP]; rfl

theorem ld_bound (P d k : Nat) (h l o : Int) (hd : 0 < d) (hP : P < d * 18446744073709551616) (hk : k < 64) (hl : LD P d k h l o) : 0 ≤ o ∧ o ≤ 9223372036854775807 ∧ 0 ≤ h ∧ h < d ∧ 0 ≤ l ∧ l ≤ 18446744073709551615 := by
  obtain ⟨A, e, rfl, rfl, l0, l1⟩ := hl
  have h1 : 2 * A ≤ P := by
    refine le_of_scaled (2 * A) P (2 * l.toNat) (k + 1) ?_ (by omega)
    exact (show 2 * A * 18446744073709551616 + 2 * l.toNat = 2 * (A * 18446744073709551616 + l.toNat) by clear e; omega).trans ((congrArg (fun n => 2 * n) e).trans (pow_step P k).symm)
  have h2 : A / d ≤ 9223372036854775807 := by
    have h4 : A / d < 9223372036854775808 := by rw [Nat.div_lt_iff_lt_mul hd]; omega
    omega
  have h3 := Nat.mod_lt A hd
  generalize A / d = x at *
  generalize A % d = y at *
  omega

theorem ld_step (P d k : Nat) (h l o : Int) (hd : 0 < d) (hl : LD P d k h l o) :
    ((d : Int) ≤ h * 2 + l / 9223372036854775808 → LD P d (k + 1) (h * 2 + l / 9223372036854775808 - d) (IntKind.u64.wrap (l * 2)) (o * 2 + 1)) ∧
    (¬ (d : Int) ≤ h * 2 + l / 9223372036854775808 → LD P d (k + 1) (h * 2 + l / 9223372036854775808) (IntKind.u64.wrap (l * 2)) (o * 2)) := by
  obtain ⟨A, e, rfl, rfl, l0, l1⟩ := hl
  have hw : IntKind.u64.wrap (l * 2) = (l * 2) % 18446744073709551616 := IntKind.wrap_u64 _
  have dm := Nat.div_add_mod A d
  have ml := Nat.mod_lt A hd
  obtain ⟨t, ht⟩ : ∃ t : Nat, (t : Int) = l / 9223372036854775808 := ⟨(l / 9223372036854775808).toNat, by omega⟩
  have ht1 : t ≤ 1 := by omega
  have e2 : (2 * A + t) * 18446744073709551616 + ((l * 2) % 18446744073709551616).toNat = P * 2 ^ (k + 1) := by
    exact (show (2 * A + t) * 18446744073709551616 + ((l * 2) % 18446744073709551616).toNat = 2 * (A * 18446744073709551616 + l.toNat) by clear e; omega).trans ((congrArg (fun n => 2 * n) e).trans (pow_step P k).symm)
  rw [hw, ← ht]
  constructor
  · intro hge
    refine ⟨2 * A + t, e2, ?_, ?_, by omega, by omega⟩
    · have : (2 * A + t) % d = 2 * (A % d) + t - d := by
        have e3 : 2 * A + t = (2 * (A % d) + t - d) + d * (2 * (A / d) + 1) := by
          rw [Nat.mul_add, Nat.mul_left_comm]
          generalize d * (A / d) = z at *
          omega
        rw [e3, Nat.add_mul_mod_self_left]
        exact Nat.mod_eq_of_lt (by omega)
      rw [this]
      generalize A % d = y at *
      omega
    · have : (2 * A + t) / d = 2 * (A / d) + 1 := by
        have e3 : 2 * A + t = (2 * (A % d) + t - d) + d * (2 * (A / d) + 1) := by
          rw [Nat.mul_add, Nat.mul_left_comm]
          generalize d * (A / d) = z at *
          omega
        rw [e3, Nat.add_mul_div_left _ _ hd, Nat.div_eq_of_lt (by omega), Nat.zero_add]
      rw [this]
      generalize A / d = y at *
      omega
  · intro hlt
    refine ⟨2 * A + t, e2, ?_, ?_, by omega, by omega⟩
    · have : (2 * A + t) % d = 2 * (A % d) + t := by
        have e3 : 2 * A + t = (2 * (A % d) + t) + d * (2 * (A / d)) := by
          rw [Nat.mul_left_comm]
          generalize d * (A / d) = z at *
          omega
        rw [e3, Nat.add_mul_mod_self_left]
        exact Nat.mod_eq_of_lt (by omega)
      rw [this]
      generalize A % d = y at *
      omega
    · have : (2 * A + t) / d = 2 * (A / d) := by
        have e3 : 2 * A + t = (2 * (A % d) + t) + d * (2 * (A / d)) := by
          rw [Nat.mul_left_comm]
          generalize d * (A / d) = z at *
          omega
        rw [e3, Nat.add_mul_div_left _ _ hd, Nat.div_eq_of_lt (by omega), Nat.zero_add]
      rw [this]
      generalize A / d = y at *
      omega

theorem ld_end (P d : Nat) (h l o : Int) (hl : LD P d 64 h l o) : o = ((P / d : Nat) : Int) := by
  obtain ⟨A, e, rfl, rfl, l0, l1⟩ := hl
  have e64 : (2 : Nat) ^ 64 = 18446744073709551616 := by decide
  rw [e64] at e
  have : A = P := by omega
  rw [this]

set_option maxRecDepth 100000 in
set_option maxHeartbeats 1000000 in
theorem rmuldiv_any (a b c : Int) (a1 : -9223372036854775808 ≤ a) (a2 : a ≤ 9223372036854775807) (b1 : -9223372036854775808 ≤ b) (b2 : b ≤ 9223372036854775807) (c1 : -9223372036854775808 ≤ c) (c2 : c ≤ 9223372036854775807) (w : World) :
    Calls Try.prog 22 #[.int .i64 a, .int .i64 b, .int .i64 c] w fun e w' => e = .returned (.tuple #[.int .i64 (byN (a * b) c), .bool (byB (a * b) c)]) ∧ ∃ n, w' = w.drewN n := by
  by_cases h0 : c = 0
  · have h' : (c == 0) = true := by simp [h0]
    have hn : Hid (c = 0) := h0
    clear h0
    go_enter Try.func22, Try.ntmps22
    go_wp2
    go_ret2
    exact ⟨ret2 (byN_0 _ hn.out).symm (byB_0 _ hn.out).symm, 0, rfl⟩
  · have h' : (c == 0) = false := by simp [h0]
    obtain ⟨d, hd⟩ : ∃ d : Int, d = (c.natAbs : Int) := ⟨_, rfl⟩
    have hd' : Hid ((c.natAbs : Int) = d) := hd.symm
    have hd0 : 1 ≤ d := by omega
    have hd1 : d ≤ 9223372036854775808 := by omega
    obtain ⟨H, hH⟩ : ∃ H : Int, H = ((a.natAbs * b.natAbs / 18446744073709551616 : Nat) : Int) := ⟨_, rfl⟩
    obtain ⟨L, hL⟩ : ∃ L : Int, L = ((a.natAbs * b.natAbs % 18446744073709551616 : Nat) : Int) := ⟨_, rfl⟩
    have hH' : Hid (((a.natAbs * b.natAbs / 18446744073709551616 : Nat) : Int) = H) := hH.symm
    have hL' : Hid (((a.natAbs * b.natAbs % 18446744073709551616 : Nat) : Int) = L) := hL.symm
    by_cases hh : d ≤ H
    · have hn : Hid (byN (a * b) c = 0 ∧ byB (a * b) c = false) := muldiv_none a b c (by omega)
      clear hH hL hd h0
      go_enter Try.func22, Try.ntmps22
      go_wp2_with fail
      refine (size_any a a1 a2 _).mono ?_
      rintro e w' ⟨rfl, rfl⟩
      go_wp2_with fail
      refine (size_any b b1 b2 _).mono ?_
      rintro e w' ⟨rfl, rfl⟩
      go_wp2_with fail
      refine (wide_any _ _ (by omega) (by omega) _).mono ?_
      rintro e w' ⟨rfl, ⟨n, rfl⟩⟩
      rw [hH'.out, hL'.out]
      go_wp2_with fail
      refine (size_any c c1 c2 _).mono ?_
      rintro e w' ⟨rfl, rfl⟩
      rw [hd'.out]
      go_wp2_with fail
      go_ret2
      exact ⟨ret2 hn.out.1.symm hn.out.2.symm, _, rfl⟩
    · have hn : Hid (byN (a * b) c = fitN ((a * b).tdiv c) ∧ byB (a * b) c = fitB ((a * b).tdiv c)) := ⟨byN_1 _ h0, byB_1 _ h0⟩
      have hst : Hid (LD (a.natAbs * b.natAbs) c.natAbs 0 H L 0) := by
        have := ld_start (a.natAbs * b.natAbs) c.natAbs (by omega)
        rw [← hH, ← hL] at this; exact this
      have hlt : a.natAbs * b.natAbs < c.natAbs * 18446744073709551616 := by rw [← Nat.div_lt_iff_lt_mul (by decide)]; omega
      have hqb : Hid (a.natAbs * b.natAbs / c.natAbs < 18446744073709551616) := by
        show a.natAbs * b.natAbs / c.natAbs < 18446744073709551616
        rw [Nat.div_lt_iff_lt_mul (by omega), Nat.mul_comm 18446744073709551616]; exact hlt
      have hsg : Hid (∀ p, p = (!((!(decide (a < 0) == decide (b < 0))) == decide (c < 0))) → sizeS (a.natAbs * b.natAbs / c.natAbs) p = (a * b).tdiv c) := muldiv_sign a b c
      have hc0 : Hid (0 < c.natAbs) := by show 0 < c.natAbs; omega
      have hlt' : Hid (a.natAbs * b.natAbs < c.natAbs * 18446744073709551616) := hlt
      clear hH hL hd h0 hlt
      go_enter Try.func22, Try.ntmps22
      go_wp2_with fail
      refine (size_any a a1 a2 _).mono ?_
      rintro e w' ⟨rfl, rfl⟩
      go_wp2_with fail
      refine (size_any b b1 b2 _).mono ?_
      rintro e w' ⟨rfl, rfl⟩
      go_wp2_with fail
      refine (wide_any _ _ (by omega) (by omega) _).mono ?_
      rintro e w' ⟨rfl, ⟨n, rfl⟩⟩
      rw [hH'.out, hL'.out]
      go_wp2_with fail
      refine (size_any c c1 c2 _).mono ?_
      rintro e w' ⟨rfl, rfl⟩
      rw [hd'.out]
      go_wp2_with fail
      go_loop [8, 9, 11, 12, 13] (fun h l o i _ => ∃ (k : Nat) (x y z : Int), k ≤ 64 ∧ i = .int .i64 k ∧ h = .int .u64 x ∧ l = .int .u64 y ∧ o = .int .u64 z ∧ Hid (LD (a.natAbs * b.natAbs) c.natAbs k x y z)) (fun _ _ _ i _ => 64 - (intOf i).toNat)
      case atStart => exact ⟨0, H, L, 0, by omega, rfl, rfl, rfl, rfl, hst⟩
      case round =>
        obtain ⟨k, x, y, z, hk, rfl, rfl, rfl, rfl, hld⟩ := hrel
        by_cases hk64 : k < 64
        · have hbd := ld_bound _ _ _ _ _ _ hc0.out hlt'.out hk64 hld.out
          obtain ⟨s1, s2⟩ := ld_step _ _ _ _ _ _ hc0.out hld.out
          rw [hd'.out] at hbd s1 s2
          by_cases ht : d ≤ x * 2 + y / 9223372036854775808
          · have hs : Hid (LD (a.natAbs * b.natAbs) c.natAbs (k + 1) (x * 2 + y / 9223372036854775808 - d) (IntKind.u64.wrap (y * 2)) (z * 2 + 1)) := s1 ht
            clear s1 s2
            go_wp2_with fail
            exact ⟨⟨k + 1, _, _, _, by omega, by go_num, rfl, rfl, rfl, hs⟩, by simp only [intOf]; omega⟩
          · have hs : Hid (LD (a.natAbs * b.natAbs) c.natAbs (k + 1) (x * 2 + y / 9223372036854775808) (IntKind.u64.wrap (y * 2)) (z * 2)) := s2 ht
            clear s1 s2
            go_wp2_with fail
            exact ⟨⟨k + 1, _, _, _, by omega, by go_num, rfl, rfl, rfl, hs⟩, by simp only [intOf]; omega⟩
        · have hk' : k = 64 := by omega
          subst hk'
          have hz : Hid (z = ((a.natAbs * b.natAbs / c.natAbs : Nat) : Int)) := ld_end _ _ _ _ _ hld.out
          have hz0 : 0 ≤ z := by rw [hz.out]; exact Int.natCast_nonneg _
          have hz1 : z ≤ 18446744073709551615 := by rw [hz.out]; have := hqb.out; omega
          have hzn : Hid (z.toNat = a.natAbs * b.natAbs / c.natAbs) := by show z.toNat = a.natAbs * b.natAbs / c.natAbs; rw [hz.out, Int.toNat_natCast]
          by_cases hcn : c < 0
          · have hp : Hid ((decide (a < 0) == decide (b < 0)) = (!((!(decide (a < 0) == decide (b < 0))) == decide (c < 0)))) := by
              show (decide (a < 0) == decide (b < 0)) = (!((!(decide (a < 0) == decide (b < 0))) == decide (c < 0)))
              rw [decide_eq_true hcn]; cases (decide (a < 0) == decide (b < 0)) <;> rfl
            go_wp2_with fail
            refine (rsigned_any _ _ hz0 hz1 _).mono ?_
            rintro e w' ⟨rfl, rfl⟩
            rw [hzn.out, hsg.out _ hp.out]
            go_wp2_with fail
            go_ret2
            exact ⟨ret2 hn.out.1.symm hn.out.2.symm, _, rfl⟩
          · have hp : Hid ((!(decide (a < 0) == decide (b < 0))) = (!((!(decide (a < 0) == decide (b < 0))) == decide (c < 0)))) := by
              show (!(decide (a < 0) == decide (b < 0))) = (!((!(decide (a < 0) == decide (b < 0))) == decide (c < 0)))
              rw [decide_eq_false hcn]; cases (decide (a < 0) == decide (b < 0)) <;> rfl
            go_wp2_with fail
            refine (rsigned_any _ _ hz0 hz1 _).mono ?_
            rintro e w' ⟨rfl, rfl⟩
            rw [hzn.out, hsg.out _ hp.out]
            go_wp2_with fail
            go_ret2
            exact ⟨ret2 hn.out.1.symm hn.out.2.symm, _, rfl⟩
end Go.Proofs.Ytfdnfdakejabaaa
