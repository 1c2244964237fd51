/-
  The walk of fixnum's Add.
-/
import Derived.Test.YtjjmpfpbfkploaaPln
import Derived.Laws.Bits64b
import Derived.Laws.BitsLemmas
import Derived.Laws.Closers25b
namespace Go.Proofs.Ytjjmpfpbfkploaa
open Go.RowKit

/-- Does a number fit into 64 bits with a sign? -/
def fitB (x : Int) : Bool := decide (-9223372036854775808 ≤ x ∧ x ≤ 9223372036854775807)
/-- The number that a call answers: itself where it fits, else 0. -/
def fitN (x : Int) : Int := if fitB x = true then x else 0

theorem fitB_true {x : Int} (h1 : -9223372036854775808 ≤ x) (h2 : x ≤ 9223372036854775807) : fitB x = true := by
  unfold fitB; exact decide_eq_true ⟨h1, h2⟩
theorem fitB_false {x : Int} (h : x < -9223372036854775808 ∨ 9223372036854775807 < x) : fitB x = false := by
  unfold fitB; apply decide_eq_false; omega
theorem fitB_iff {x : Int} : fitB x = true ↔ (-9223372036854775808 ≤ x ∧ x ≤ 9223372036854775807) := by
  unfold fitB; exact decide_eq_true_iff
theorem fitN_true {x : Int} (h : fitB x = true) : fitN x = x := by unfold fitN; rw [if_pos h]
theorem fitN_false {x : Int} (h : fitB x = false) : fitN x = 0 := by unfold fitN; rw [if_neg (by rw [h]; decide)]



theorem wrapNat_neg (r : BitVec 64) : IntKind.i64.wrap (r.toNat : Int) < 0 ↔ r.msb = true := by
  rw [IntKind.wrap_i64, BitVec.msb_eq_decide, decide_eq_true_iff]
  have := r.isLt
  omega

theorem ofInt_msb (x : Int) (h1 : -9223372036854775808 ≤ x) (h2 : x ≤ 9223372036854775807) : (BitVec.ofInt 64 x).msb = true ↔ x < 0 := by
  rw [BitVec.msb_eq_decide, decide_eq_true_iff, BitVec.toNat_ofInt]
  omega

theorem and_neg (x y : Int) (h1 : -9223372036854775808 ≤ x) (h2 : x ≤ 9223372036854775807) (h3 : -9223372036854775808 ≤ y) (h4 : y ≤ 9223372036854775807) :
    bits BinOp.and IntKind.i64 x y < 0 ↔ (x < 0 ∧ y < 0) := by
  have e : bits BinOp.and IntKind.i64 x y = IntKind.i64.wrap ((BitVec.ofInt 64 x &&& BitVec.ofInt 64 y).toNat : Int) := rfl
  rw [e, wrapNat_neg, BitVec.msb_and, Bool.and_eq_true, ofInt_msb x h1 h2, ofInt_msb y h3 h4]

theorem xor_neg (x y : Int) (h1 : -9223372036854775808 ≤ x) (h2 : x ≤ 9223372036854775807) (h3 : -9223372036854775808 ≤ y) (h4 : y ≤ 9223372036854775807) :
    bits BinOp.xor IntKind.i64 x y < 0 ↔ ¬ (x < 0 ↔ y < 0) := by
  have e : bits BinOp.xor IntKind.i64 x y = IntKind.i64.wrap ((BitVec.ofInt 64 x ^^^ BitVec.ofInt 64 y).toNat : Int) := rfl
  rw [e, wrapNat_neg, BitVec.msb_xor]
  have hx := ofInt_msb x h1 h2
  have hy := ofInt_msb y h3 h4
  cases h : (BitVec.ofInt 64 x).msb <;> cases h' : (BitVec.ofInt 64 y).msb <;> rw [h] at hx <;> rw [h'] at hy <;> simp_all

theorem andxor_neg (a b c d : Int) (ha1 : -9223372036854775808 ≤ a) (ha2 : a ≤ 9223372036854775807) (hb1 : -9223372036854775808 ≤ b) (hb2 : b ≤ 9223372036854775807)
    (hc1 : -9223372036854775808 ≤ c) (hc2 : c ≤ 9223372036854775807) (hd1 : -9223372036854775808 ≤ d) (hd2 : d ≤ 9223372036854775807) :
    bits BinOp.and IntKind.i64 (bits BinOp.xor IntKind.i64 a b) (bits BinOp.xor IntKind.i64 c d) < 0 ↔ (¬ (a < 0 ↔ b < 0) ∧ ¬ (c < 0 ↔ d < 0)) := by
  rw [and_neg _ _ (bits_lo_i64 _ _ _) (bits_hi_i64 _ _ _) (bits_lo_i64 _ _ _) (bits_hi_i64 _ _ _), xor_neg a b ha1 ha2 hb1 hb2, xor_neg c d hc1 hc2 hd1 hd2]

theorem wrap64_lo (n : Int) : -9223372036854775808 ≤ wrap64 n := by unfold wrap64; omega
theorem wrap64_hi (n : Int) : wrap64 n ≤ 9223372036854775807 := by unfold wrap64; omega

theorem ret2 {k : IntKind} {a b : Int} {p q : Bool} (h : a = b) (h' : p = q) : Ending.returned (.tuple #[.int k a, .bool p]) = .returned (.tuple #[.int k b, .bool q]) := by rw [h, h']

theorem add_wraps (a b : Int) (a1 : -9223372036854775808 ≤ a) (a2 : a ≤ 9223372036854775807) (b1 : -9223372036854775808 ≤ b) (b2 : b ≤ 9223372036854775807) :
    bits BinOp.and IntKind.i64 (bits BinOp.xor IntKind.i64 a (wrap64 (a + b))) (bits BinOp.xor IntKind.i64 b (wrap64 (a + b))) < 0 ↔ fitB (a + b) = false := by
  rw [andxor_neg a (wrap64 (a + b)) b (wrap64 (a + b)) a1 a2 (wrap64_lo _) (wrap64_hi _) b1 b2 (wrap64_lo _) (wrap64_hi _)]
  constructor
  · intro h; apply fitB_false; unfold wrap64 at h; omega
  · intro h
    have h' : ¬ (-9223372036854775808 ≤ a + b ∧ a + b ≤ 9223372036854775807) := by rw [← fitB_iff, h]; decide
    unfold wrap64; omega
theorem wrap_fits {n : Int} (h : fitB n = true) : wrap64 n = fitN n := by
  rw [fitN_true h]; rw [fitB_iff] at h; unfold wrap64; omega
theorem not_false_true {b : Bool} (h : ¬ b = false) : b = true := by cases b <;> simp_all

set_option maxHeartbeats 400000 in
theorem add_any (a b : Int) (a1 : -9223372036854775808 ≤ a) (a2 : a ≤ 9223372036854775807) (b1 : -9223372036854775808 ≤ b) (b2 : b ≤ 9223372036854775807) (w : World) :
    Calls Try.prog 51 #[.int .i64 a, .int .i64 b] w fun e w' => e = .returned (.tuple #[.int .i64 (fitN (a + b)), .bool (fitB (a + b))]) ∧ w' = w := by
  go_enter Try.func51, Try.ntmps51
  go_wp2
  · have h := (add_wraps a b a1 a2 b1 b2).1 (by assumption)
    go_ret2
    exact ⟨ret2 (fitN_false h).symm h.symm, rfl⟩
  · have h : fitB (a + b) = true := not_false_true (fun h => by have := (add_wraps a b a1 a2 b1 b2).2 h; omega)
    go_ret2
    exact ⟨ret2 (wrap_fits h) h.symm, rfl⟩
end Go.Proofs.Ytjjmpfpbfkploaa
