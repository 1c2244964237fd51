/-
  Walks of layer 1's leaves: magnitude, signed, Add, Sub, Neg, Cmp, Div, Mod of package fixnum.
-/
import Derived.Test.YtkbadigpagijjaaDoorRows
import Derived.Test.YtkbadigpagijjaaDoorMath
import Derived.Test.YtkbadigpagijjaaDoorBits
import Derived.WalkKit
import Derived.ProofKit
import Derived.Outline
namespace Go.Proofs.YtkbadigpagijjaaDoor
open Go.RowKit

theorem ret1 {k : IntKind} {a b : Int} (h : a = b) : Ending.returned (.int k a) = .returned (.int k b) := by rw [h]
theorem ret2 {k : IntKind} {a b : Int} {p q : Bool} (h : a = b) (h' : p = q) : Ending.returned (.tuple #[.int k a, .bool p]) = .returned (.tuple #[.int k b, .bool q]) := by rw [h, h']

set_option maxHeartbeats 400000 in
theorem magnitude_any (a : Int) (h1 : -9223372036854775808 ≤ a) (h2 : a ≤ 9223372036854775807) (w : World) :
    Calls Tryd.prog 24 #[.int .i64 a] w fun e w' => e = .returned (.int .u64 (a.natAbs : Int)) ∧ w' = w := by
  by_cases h : a < 0
  · go_enter Tryd.func24, Tryd.ntmps24
    go_wp2
    go_ret
    exact ⟨ret1 (by simp only [IntKind.wrap_u64]; omega), rfl⟩
  · have h : 0 ≤ a := by omega
    go_enter Tryd.func24, Tryd.ntmps24
    go_wp2
    go_ret
    exact ⟨ret1 (by omega), rfl⟩

theorem add_wraps (a b : Int) (a1 : -9223372036854775808 ≤ a) (a2 : a ≤ 9223372036854775807) (b1 : -9223372036854775808 ≤ b) (b2 : b ≤ 9223372036854775807) :
    bits BinOp.and IntKind.i64 (bits BinOp.xor IntKind.i64 a (wrap64 (a + b))) (bits BinOp.xor IntKind.i64 b (wrap64 (a + b))) < 0 ↔ fitB (a + b) = false := by
  rw [andxor_neg a (wrap64 (a + b)) b (wrap64 (a + b)) a1 a2 (wrap64_lo _) (wrap64_hi _) b1 b2 (wrap64_lo _) (wrap64_hi _)]
  constructor
  · intro h; apply fitB_false; unfold wrap64 at h; omega
  · intro h
    have h' : ¬ (-9223372036854775808 ≤ a + b ∧ a + b ≤ 9223372036854775807) := by rw [← fitB_iff, h]; decide
    unfold wrap64; omega
theorem sub_wraps (a b : Int) (a1 : -9223372036854775808 ≤ a) (a2 : a ≤ 9223372036854775807) (b1 : -9223372036854775808 ≤ b) (b2 : b ≤ 9223372036854775807) :
    bits BinOp.and IntKind.i64 (bits BinOp.xor IntKind.i64 a b) (bits BinOp.xor IntKind.i64 a (wrap64 (a - b))) < 0 ↔ fitB (a - b) = false := by
  rw [andxor_neg a b a (wrap64 (a - b)) a1 a2 b1 b2 a1 a2 (wrap64_lo _) (wrap64_hi _)]
  constructor
  · intro h; apply fitB_false; unfold wrap64 at h; omega
  · intro h
    have h' : ¬ (-9223372036854775808 ≤ a - b ∧ a - b ≤ 9223372036854775807) := by rw [← fitB_iff, h]; decide
    unfold wrap64; omega
theorem wrap_fits {n : Int} (h : fitB n = true) : wrap64 n = fitN n := by
  rw [fitN_true h]; rw [fitB_iff] at h; unfold wrap64; omega
theorem not_false_true {b : Bool} (h : ¬ b = false) : b = true := by cases b <;> simp_all

set_option maxHeartbeats 400000 in
theorem add_any (a b : Int) (a1 : -9223372036854775808 ≤ a) (a2 : a ≤ 9223372036854775807) (b1 : -9223372036854775808 ≤ b) (b2 : b ≤ 9223372036854775807) (w : World) :
    Calls Tryd.prog 28 #[.int .i64 a, .int .i64 b] w fun e w' => e = .returned (.tuple #[.int .i64 (fitN (a + b)), .bool (fitB (a + b))]) ∧ w' = w := by
  go_enter Tryd.func28, Tryd.ntmps28
  go_wp2
  · have h := (add_wraps a b a1 a2 b1 b2).1 (by assumption)
    go_ret2
    exact ⟨ret2 (fitN_false h).symm h.symm, rfl⟩
  · have h : fitB (a + b) = true := not_false_true (fun h => by have := (add_wraps a b a1 a2 b1 b2).2 h; omega)
    go_ret2
    exact ⟨ret2 (wrap_fits h) h.symm, rfl⟩

set_option maxHeartbeats 400000 in
theorem sub_any (a b : Int) (a1 : -9223372036854775808 ≤ a) (a2 : a ≤ 9223372036854775807) (b1 : -9223372036854775808 ≤ b) (b2 : b ≤ 9223372036854775807) (w : World) :
    Calls Tryd.prog 29 #[.int .i64 a, .int .i64 b] w fun e w' => e = .returned (.tuple #[.int .i64 (fitN (a - b)), .bool (fitB (a - b))]) ∧ w' = w := by
  go_enter Tryd.func29, Tryd.ntmps29
  go_wp2
  · have h := (sub_wraps a b a1 a2 b1 b2).1 (by assumption)
    go_ret2
    exact ⟨ret2 (fitN_false h).symm h.symm, rfl⟩
  · have h : fitB (a - b) = true := not_false_true (fun h => by have := (sub_wraps a b a1 a2 b1 b2).2 h; omega)
    go_ret2
    exact ⟨ret2 (wrap_fits h) h.symm, rfl⟩

/-- A size with its sign. -/
def sizeS (m : Nat) (p : Bool) : Int := if p = true then -(m : Int) else m
theorem sizeS_f (m : Nat) : sizeS m false = m := rfl
theorem sizeS_t (m : Nat) : sizeS m true = -(m : Int) := rfl

set_option maxRecDepth 100000 in
set_option maxHeartbeats 400000 in
theorem signed_any (m : Nat) (p : Bool) (h : m < 18446744073709551616) (w : World) :
    Calls Tryd.prog 25 #[.int .u64 m, .bool p] w fun e w' => e = .returned (.tuple #[.int .i64 (fitN (sizeS m p)), .bool (fitB (sizeS m p))]) ∧ w' = w := by
  cases p
  · by_cases hm : (m : Int) < 9223372036854775808
    · have hb : Hid (fitB (sizeS m false) = true) := fitB_true (by simp only [sizeS_f]; omega) (by simp only [sizeS_f]; omega)
      go_enter Tryd.func25, Tryd.ntmps25
      go_wp2
      go_ret2
      exact ⟨ret2 (by rw [fitN_true hb.out, sizeS_f]) hb.out.symm, rfl⟩
    · have hb : Hid (fitB (sizeS m false) = false) := fitB_false (by simp only [sizeS_f]; omega)
      go_enter Tryd.func25, Tryd.ntmps25
      go_wp2
      go_ret2
      exact ⟨ret2 (fitN_false hb.out).symm hb.out.symm, rfl⟩
  · by_cases hm : (m : Int) ≤ 9223372036854775808
    · have hb : Hid (fitB (sizeS m true) = true) := fitB_true (by simp only [sizeS_t]; omega) (by simp only [sizeS_t]; omega)
      go_enter Tryd.func25, Tryd.ntmps25
      go_wp2
      go_ret2
      exact ⟨ret2 (by rw [fitN_true hb.out, sizeS_t, IntKind.wrap_u64]; unfold wrap64; omega) hb.out.symm, rfl⟩
    · have hb : Hid (fitB (sizeS m true) = false) := fitB_false (by simp only [sizeS_t]; omega)
      go_enter Tryd.func25, Tryd.ntmps25
      go_wp2
      go_ret2
      exact ⟨ret2 (fitN_false hb.out).symm hb.out.symm, rfl⟩

end Go.Proofs.YtkbadigpagijjaaDoor
