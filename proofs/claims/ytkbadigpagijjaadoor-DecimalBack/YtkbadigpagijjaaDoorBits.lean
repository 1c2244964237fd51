/-
  The sign of Go's '&' and '^' on int64, and masks and shifts of uint64: plain facts for the walks of layer 1.
-/
import Derived.WalkKit
import Derived.Laws.Bits64b
import Derived.Laws.BitsLemmas
import Derived.Laws.Closers25b
namespace Go.Proofs.YtkbadigpagijjaaDoor
open Go.RowKit

theorem wrapNat_neg (r : BitVec 64) : IntKind.i64.wrap (r.toNat : Int) < 0 ↔ r.msb = true := by
  rw [IntKind.wrap_i64, BitVec.msb_eq_decide, decide_eq_true_iff]
  have := r.isLt
  omega

theorem ofInt_msb (x : Int) (h1 : -9223372036854775808 ≤ x) (h2 : x ≤ 9223372036854775807) : (BitVec.ofInt 64 x).msb = true ↔ x < 0 := by
  rw [BitVec.msb_eq_decide, decide_eq_true_iff, BitVec.toNat_ofInt]
  omega

theorem and_neg (x y : Int) (h1 : -9223372036854775808 ≤ x) (h2 : x ≤ 9223372036854775807) (h3 : -9223372036854775808 ≤ y) (h4 : y ≤ 9223372036854775807) :
    bits BinOp.and IntKind.i64 x y < 0 ↔ (x < 0 ∧ y < 0) := by
  have e : bits BinOp.and IntKind.i64 x y = IntKind.i64.wrap ((BitVec.ofInt 64 x &&& BitVec.ofInt 64 y).toNat : Int) := rfl
  rw [e, wrapNat_neg, BitVec.msb_and, Bool.and_eq_true, ofInt_msb x h1 h2, ofInt_msb y h3 h4]

theorem xor_neg (x y : Int) (h1 : -9223372036854775808 ≤ x) (h2 : x ≤ 9223372036854775807) (h3 : -9223372036854775808 ≤ y) (h4 : y ≤ 9223372036854775807) :
    bits BinOp.xor IntKind.i64 x y < 0 ↔ ¬ (x < 0 ↔ y < 0) := by
  have e : bits BinOp.xor IntKind.i64 x y = IntKind.i64.wrap ((BitVec.ofInt 64 x ^^^ BitVec.ofInt 64 y).toNat : Int) := rfl
  rw [e, wrapNat_neg, BitVec.msb_xor]
  have hx := ofInt_msb x h1 h2
  have hy := ofInt_msb y h3 h4
  cases h : (BitVec.ofInt 64 x).msb <;> cases h' : (BitVec.ofInt 64 y).msb <;> rw [h] at hx <;> rw [h'] at hy <;> simp_all

theorem andxor_neg (a b c d : Int) (ha1 : -9223372036854775808 ≤ a) (ha2 : a ≤ 9223372036854775807) (hb1 : -9223372036854775808 ≤ b) (hb2 : b ≤ 9223372036854775807)
    (hc1 : -9223372036854775808 ≤ c) (hc2 : c ≤ 9223372036854775807) (hd1 : -9223372036854775808 ≤ d) (hd2 : d ≤ 9223372036854775807) :
    bits BinOp.and IntKind.i64 (bits BinOp.xor IntKind.i64 a b) (bits BinOp.xor IntKind.i64 c d) < 0 ↔ (¬ (a < 0 ↔ b < 0) ∧ ¬ (c < 0 ↔ d < 0)) := by
  rw [and_neg _ _ (bits_lo_i64 _ _ _) (bits_hi_i64 _ _ _) (bits_lo_i64 _ _ _) (bits_hi_i64 _ _ _), xor_neg a b ha1 ha2 hb1 hb2, xor_neg c d hc1 hc2 hd1 hd2]

theorem wrap64_lo (n : Int) : -9223372036854775808 ≤ wrap64 n := by unfold wrap64; omega
theorem wrap64_hi (n : Int) : wrap64 n ≤ 9223372036854775807 := by unfold wrap64; omega
end Go.Proofs.YtkbadigpagijjaaDoor
