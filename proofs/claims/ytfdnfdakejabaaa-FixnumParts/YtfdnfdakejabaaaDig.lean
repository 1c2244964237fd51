/-
  The loop that brings a guessed digit down, in the walk's own numbers (integers that are not below 0).
-/
import Derived.Test.YtfdnfdakejabaaaKnuth
import Derived.Test.YtfdnfdakejabaaaBits
namespace Go.Proofs.Ytfdnfdakejabaaa
open Go.RowKit

/-- The guess q with the rest r, of the digit Q of U and d by v1 and v0. -/
def DG (U d v1 v0 q r Q : Int) : Prop :=
  q.toNat * v1.toNat + r.toNat = U.toNat ∧ Q.toNat ≤ q.toNat ∧ Q.toNat = (U.toNat * 4294967296 + d.toNat) / (v1.toNat * 4294967296 + v0.toNat)

theorem wrap_mul_nat (a b : Int) (ha : 0 ≤ a) (hb : 0 ≤ b) (h : a.toNat * b.toNat < 18446744073709551616) : IntKind.u64.wrap (a * b) = ((a.toNat * b.toNat : Nat) : Int) := by
  obtain ⟨m, rfl⟩ := Int.eq_ofNat_of_zero_le ha
  obtain ⟨n, rfl⟩ := Int.eq_ofNat_of_zero_le hb
  rw [Int.toNat_natCast, Int.toNat_natCast] at *
  rw [← Int.natCast_mul, IntKind.wrap_u64]
  omega

theorem half_mul_lt {a b : Nat} (ha : a ≤ 4294967295) (hb : b ≤ 4294967295) : a * b < 18446744073709551616 := by
  have := Nat.mul_le_mul ha hb; omega

theorem loop_stop (U d v1 v0 q r Q : Int) (hq0 : 0 ≤ q) (hr0 : 0 ≤ r) (hQ0 : 0 ≤ Q) (hd0 : 0 ≤ d) (hv1 : 2147483648 ≤ v1) (hv0 : 0 ≤ v0) (hv0c : v0 ≤ 4294967295) (h : DG U d v1 v0 q r Q)
    (hq : q < 4294967296) (ht : IntKind.u64.wrap (q * v0) ≤ 4294967296 * r + d) : q = Q := by
  obtain ⟨e, hle, hQ⟩ := h
  have hm := half_mul_lt (a := q.toNat) (b := v0.toNat) (by omega) (by omega)
  rw [wrap_mul_nat q v0 hq0 hv0 hm] at ht
  have := digit_stop U.toNat d.toNat v1.toNat v0.toNat q.toNat r.toNat e (by omega) (by rw [← hQ]; exact hle) (by omega)
  rw [← hQ] at this
  omega

theorem loop_next (U d v1 v0 q r Q : Int) (hq0 : 0 ≤ q) (hr0 : 0 ≤ r) (hQ0 : 0 ≤ Q) (hd0 : 0 ≤ d) (hv1 : 2147483648 ≤ v1) (hv0 : 0 ≤ v0) (hv0c : v0 ≤ 4294967295) (hQc : Q ≤ 4294967295)
    (h : DG U d v1 v0 q r Q) (ht : 4294967296 ≤ q ∨ 4294967296 * r + d < IntKind.u64.wrap (q * v0)) : 1 ≤ q ∧ DG U d v1 v0 (q - 1) (r + v1) Q := by
  obtain ⟨e, hle, hQ⟩ := h
  have hlt : Q.toNat < q.toNat := by
    by_cases hB : 4294967296 ≤ q
    · omega
    · have ht := ht.resolve_left hB
      have hm := half_mul_lt (a := q.toNat) (b := v0.toNat) (by omega) (by omega)
      rw [wrap_mul_nat q v0 hq0 hv0 hm] at ht
      have := digit_more U.toNat d.toNat v1.toNat v0.toNat q.toNat r.toNat e (by omega) (by omega)
      rw [← hQ] at this
      exact this
  have sd := step_down v1.toNat q.toNat r.toNat U.toNat e (by omega)
  refine ⟨by omega, ?_, by omega, hQ⟩
  have e1 : (q - 1).toNat = q.toNat - 1 := by omega
  have e2 : (r + v1).toNat = r.toNat + v1.toNat := by omega
  rw [e1, e2]; exact sd

theorem loop_break (U d v1 v0 q r Q : Int) (hq0 : 0 ≤ q) (hQ0 : 0 ≤ Q) (hv1 : 2147483648 ≤ v1) (hv0 : 0 ≤ v0) (hv0c : v0 ≤ 4294967295)
    (h : DG U d v1 v0 q r Q) (hq : q ≤ 4294967296) (hr : 4294967296 ≤ r) : q = Q := by
  obtain ⟨e, hle, hQ⟩ := h
  have := digit_break U.toNat d.toNat v1.toNat v0.toNat q.toNat r.toNat e (by omega) (by omega) (by rw [← hQ]; exact hle) (by omega) (by omega)
  rw [← hQ] at this
  omega

/-- The first guess, and its rest. -/
theorem guess_start (U d v1 v0 Q : Int) (hU0 : 0 ≤ U) (hU : U ≤ 18446744073709551615) (hd0 : 0 ≤ d) (hdc : d ≤ 4294967295) (hv1 : 2147483648 ≤ v1) (hv1c : v1 ≤ 4294967295) (hv0 : 0 ≤ v0) (hv0c : v0 ≤ 4294967295)
    (hlt : U < v1 * 4294967296 + v0) (hQ : Q = ((U.toNat * 4294967296 + d.toNat) / (v1.toNat * 4294967296 + v0.toNat) : Nat)) :
    ∃ g e : Int, U / v1 = g ∧ IntKind.u64.wrap (U - IntKind.u64.wrap (g * v1)) = e ∧ 0 ≤ g ∧ g ≤ 4294967297 ∧ 0 ≤ e ∧ e ≤ 4294967295 ∧ DG U d v1 v0 g e Q ∧ 0 ≤ Q ∧ Q ≤ 4294967295 := by
  obtain ⟨u, rfl⟩ := Int.eq_ofNat_of_zero_le hU0
  obtain ⟨a, rfl⟩ := Int.eq_ofNat_of_zero_le (show 0 ≤ v1 by omega)
  obtain ⟨b, rfl⟩ := Int.eq_ofNat_of_zero_le hv0
  obtain ⟨c, rfl⟩ := Int.eq_ofNat_of_zero_le hd0
  have g1 := guess_le u a b (by omega) (by omega) (by omega)
  have g2 := guess_ge u c a b (by omega) (by omega)
  have g3 := digit_lt u c a b (by omega) (by omega)
  have dm := Nat.div_add_mod u a
  have ml := Nat.mod_lt u (show 0 < a by omega)
  rw [Nat.mul_comm] at dm
  rw [Int.toNat_natCast, Int.toNat_natCast, Int.toNat_natCast, Int.toNat_natCast] at hQ
  have hdiv : ((u : Nat) : Int) / ((a : Nat) : Int) = ((u / a : Nat) : Int) := (Int.natCast_ediv u a).symm
  have hDG : ∀ g e Qn : Nat, g * a + e = u → Qn ≤ g → Qn = (u * 4294967296 + c) / (a * 4294967296 + b) → DG (u : Int) (c : Int) (a : Int) (b : Int) (g : Int) (e : Int) (Qn : Int) := by
    intro g e Qn k1 k2 k3
    unfold DG
    rw [Int.toNat_natCast, Int.toNat_natCast, Int.toNat_natCast, Int.toNat_natCast, Int.toNat_natCast, Int.toNat_natCast, Int.toNat_natCast]
    exact ⟨k1, k2, k3⟩
  have hDG' := hDG (u / a) (u % a) _ dm g2 rfl
  rw [← hQ] at hDG'
  rw [hdiv]
  clear hDG hdiv
  generalize (u * 4294967296 + c) / (a * 4294967296 + b) = Qn at *
  generalize u / a = g at *
  generalize u % a = e at *
  refine ⟨(g : Int), (e : Int), rfl, ?_, by omega, by omega, by omega, by omega, hDG', by omega, by omega⟩
  · rw [wrap_mul_nat _ _ (by omega) (by omega) (by rw [Int.toNat_natCast, Int.toNat_natCast]; omega), Int.toNat_natCast, Int.toNat_natCast, IntKind.wrap_u64]; omega

/-- What is left behind a digit, as the program reckons it: modulo 2^64, by numbers that wrap. -/
theorem rest_wraps (N y q : Nat) (hy : y < 18446744073709551616) (h : q = N / y) (h0 : 0 < y) :
    (((N : Int) % 18446744073709551616) - ((q * y : Nat) : Int) % 18446744073709551616) % 18446744073709551616 = ((N % y : Nat) : Int) := by
  have dm := Nat.div_add_mod N y
  have ml := Nat.mod_lt N h0
  rw [Nat.mul_comm, ← h] at dm
  generalize q * y = t at *
  generalize N % y = m at *
  omega
end Go.Proofs.Ytfdnfdakejabaaa
