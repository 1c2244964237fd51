/-
  Walks of the document's answer for layer 1: wide, Mul, Div, Mod.
-/
import Derived.Test.YtkbadigpagijjaaDoorRef
import Derived.Test.YtkbadigpagijjaaDoorMul
import Derived.Deep.QuietTactic
import Derived.BigQuiet
namespace Go.Proofs.YtkbadigpagijjaaDoor
open Go.RowKit

set_option maxRecDepth 100000 in
set_option maxHeartbeats 1000000 in
theorem wide_any (x y : Nat) (hx : x < 18446744073709551616) (hy : y < 18446744073709551616) (w : World) :
    Calls Tryd.prog 32 #[.int .u64 x, .int .u64 y] w fun e w' => e = .returned (.tuple #[.int .u64 ((x * y / 18446744073709551616 : Nat) : Int), .int .u64 ((x * y % 18446744073709551616 : Nat) : Int)]) ∧ ∃ n, w' = w.drewN n := by
  obtain ⟨A, X, Y, L, eA, eX, eY, eL, bA, bX, bY, bL, e⟩ := prod_nat x y hx hy
  have HE : Hid (x * y = A * 18446744073709551616 + (X + Y) * 4294967296 + L) := e
  have kA := wrap_prod (x / 4294967296) (y / 4294967296) A ((x : Int) / 4294967296) ((y : Int) / 4294967296) (by omega) (by omega) eA bA
  have kX := wrap_prod (x / 4294967296) (y % 4294967296) X ((x : Int) / 4294967296) ((y : Int) % 4294967296) (by omega) (by omega) eX bX
  have kY := wrap_prod (x % 4294967296) (y / 4294967296) Y ((x : Int) % 4294967296) ((y : Int) / 4294967296) (by omega) (by omega) eY bY
  have kL := wrap_prod (x % 4294967296) (y % 4294967296) L ((x : Int) % 4294967296) ((y : Int) % 4294967296) (by omega) (by omega) eL bL
  clear eA eX eY eL e
  go_enter Tryd.func32, Tryd.ntmps32
  go_wp2
  go_quiet (fail)
  go_wp2
  go_quiet (fail)
  go_wp2
  go_quiet (fail)
  go_wp2
  go_quiet (fail)
  go_wp2
  go_quiet (fail)
  go_wp2
  go_ret2
  refine ⟨ret2n ?_ ?_, ?_⟩
  · rw [HE.out]; omega
  · rw [HE.out]; omega
  · simp only [World.drewN_drewN]
    exact ⟨_, rfl⟩

set_option maxHeartbeats 1000000 in
theorem rmul_any (a b : Int) (a1 : -9223372036854775808 ≤ a) (a2 : a ≤ 9223372036854775807) (b1 : -9223372036854775808 ≤ b) (b2 : b ≤ 9223372036854775807) (w : World) :
    Calls Tryd.prog 17 #[.int .i64 a, .int .i64 b] w fun e w' => e = .returned (.tuple #[.int .i64 (fitN (a * b)), .bool (fitB (a * b))]) ∧ ∃ n, w' = w.drewN n := by
  have hab : a.natAbs * b.natAbs = (a * b).natAbs := (Int.natAbs_mul a b).symm
  by_cases hh : a.natAbs * b.natAbs < 18446744073709551616
  · have e1 : Hid (a.natAbs * b.natAbs / 18446744073709551616 = 0) := Nat.div_eq_of_lt hh
    have e2 : Hid (a.natAbs * b.natAbs % 18446744073709551616 = a.natAbs * b.natAbs) := Nat.mod_eq_of_lt hh
    have e3 : Hid (∀ p, p = (!(decide (a < 0) == decide (b < 0))) → sizeS (a.natAbs * b.natAbs) p = a * b) := sign_mul a b hab
    obtain ⟨P, hP⟩ : ∃ P : Int, P = ((a.natAbs * b.natAbs : Nat) : Int) := ⟨_, rfl⟩
    have hP' : Hid (((a.natAbs * b.natAbs : Nat) : Int) = P) := hP.symm
    have hPn : Hid (P.toNat = a.natAbs * b.natAbs) := by show P.toNat = a.natAbs * b.natAbs; rw [hP, Int.toNat_natCast]
    have hP0 : 0 ≤ P := by omega
    have hP1 : P ≤ 18446744073709551615 := by omega
    clear hab hP
    go_enter Tryd.func17, Tryd.ntmps17
    go_wp2_with fail
    refine (size_any a a1 a2 _).mono ?_
    rintro e w' ⟨rfl, rfl⟩
    go_wp2_with fail
    refine (size_any b b1 b2 _).mono ?_
    rintro e w' ⟨rfl, rfl⟩
    go_wp2_with fail
    refine (wide_any _ _ (by omega) (by omega) _).mono ?_
    rintro e w' ⟨rfl, ⟨n, rfl⟩⟩
    rw [e1.out, e2.out, hP'.out]
    go_wp2_with fail
    refine (rsigned_any _ _ hP0 hP1 _).mono ?_
    rintro e w' ⟨rfl, rfl⟩
    rw [hPn.out, e3.out _ rfl]
    go_wp2_with fail
    go_ret2
    exact ⟨rfl, _, rfl⟩
  · have e1 : Hid (∃ k : Int, 0 < k ∧ ((a.natAbs * b.natAbs / 18446744073709551616 : Nat) : Int) = k) := ⟨_, by omega, rfl⟩
    have hb : Hid (fitB (a * b) = false) := fitB_false (by omega)
    clear hab
    go_enter Tryd.func17, Tryd.ntmps17
    go_wp2_with fail
    refine (size_any a a1 a2 _).mono ?_
    rintro e w' ⟨rfl, rfl⟩
    go_wp2_with fail
    refine (size_any b b1 b2 _).mono ?_
    rintro e w' ⟨rfl, rfl⟩
    go_wp2_with fail
    refine (wide_any _ _ (by omega) (by omega) _).mono ?_
    rintro e w' ⟨rfl, ⟨n, rfl⟩⟩
    obtain ⟨k, hk, hk'⟩ := e1.out
    rw [hk']
    clear hk'
    go_wp2_with fail
    go_ret2
    exact ⟨ret2 (fitN_false hb.out).symm hb.out.symm, _, rfl⟩


end Go.Proofs.YtkbadigpagijjaaDoor
