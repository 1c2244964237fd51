/-
  Walks of layer 1's leaves: magnitude, signed, Add, Sub, Neg, Cmp, Div, Mod of package fixnum.
-/
import Derived.Test.YtfdnfdakejabaaaRows
import Derived.Test.YtfdnfdakejabaaaMath
import Derived.Test.YtfdnfdakejabaaaBits
import Derived.WalkKit
import Derived.ProofKit
import Derived.Outline
namespace Go.Proofs.Ytfdnfdakejabaaa
open Go.RowKit

theorem ret1 {k : IntKind} {a b : Int} (h : a = b) : Ending.returned (.int k a) = .returned (.int k b) := by rw [h]
theorem ret2 {k : IntKind} {a b : Int} {p q : Bool} (h : a = b) (h' : p = q) : Ending.returned (.tuple #[.int k a, .bool p]) = .returned (.tuple #[.int k b, .bool q]) := by rw [h, h']

set_option maxHeartbeats 400000 in
theorem magnitude_any (a : Int) (h1 : -9223372036854775808 ≤ a) (h2 : a ≤ 9223372036854775807) (w : World) :
    Calls Try.prog 30 #[.int .i64 a] w fun e w' => e = .returned (.int .u64 (a.natAbs : Int)) ∧ w' = w := by
  by_cases h : a < 0
  · go_enter Try.func30, Try.ntmps30
    go_wp2
    go_ret
    exact ⟨ret1 (by simp only [IntKind.wrap_u64]; omega), rfl⟩
  · have h : 0 ≤ a := by omega
    go_enter Try.func30, Try.ntmps30
    go_wp2
    go_ret
    exact ⟨ret1 (by omega), rfl⟩

theorem add_wraps (a b : Int) (a1 : -9223372036854775808 ≤ a) (a2 : a ≤ 9223372036854775807) (b1 : -9223372036854775808 ≤ b) (b2 : b ≤ 9223372036854775807) :
    bits BinOp.and IntKind.i64 (bits BinOp.xor IntKind.i64 a (wrap64 (a + b))) (bits BinOp.xor IntKind.i64 b (wrap64 (a + b))) < 0 ↔ fitB (a + b) = false := by
  rw [andxor_neg a (wrap64 (a + b)) b (wrap64 (a + b)) a1 a2 (wrap64_lo _) (wrap64_hi _) b1 b2 (wrap64_lo _) (wrap64_hi _)]
  constructor
  · intro h; apply fitB_false; unfold wrap64 at h; omega
  · intro h
    have h' : ¬ (-9223372036854775808 ≤ a + b ∧ a + b ≤ 9223372036854775807) := by rw [← fitB_iff, h]; decide
    unfold wrap64; omega
theorem sub_wraps (a b : Int) (a1 : -9223372036854775808 ≤ a) (a2 : a ≤ 9223372036854775807) (b1 : -9223372036854775808 ≤ b) (b2 : b ≤ 9223372036854775807) :
    bits BinOp.and IntKind.i64 (bits BinOp.xor IntKind.i64 a b) (bits BinOp.xor IntKind.i64 a (wrap64 (a - b))) < 0 ↔ fitB (a - b) = false := by
  rw [andxor_neg a b a (wrap64 (a - b)) a1 a2 b1 b2 a1 a2 (wrap64_lo _) (wrap64_hi _)]
  constructor
  · intro h; apply fitB_false; unfold wrap64 at h; omega
  · intro h
    have h' : ¬ (-9223372036854775808 ≤ a - b ∧ a - b ≤ 9223372036854775807) := by rw [← fitB_iff, h]; decide
    unfold wrap64; omega
theorem wrap_fits {n : Int} (h : fitB n = true) : wrap64 n = fitN n := by
  rw [fitN_true h]; rw [fitB_iff] at h; unfold wrap64; omega
theorem not_false_true {b : Bool} (h : ¬ b = false) : b = true := by cases b <;> simp_all

set_option maxHeartbeats 400000 in
theorem add_any (a b : Int) (a1 : -9223372036854775808 ≤ a) (a2 : a ≤ 9223372036854775807) (b1 : -9223372036854775808 ≤ b) (b2 : b ≤ 9223372036854775807) (w : World) :
    Calls Try.prog 9 #[.int .i64 a, .int .i64 b] w fun e w' => e = .returned (.tuple #[.int .i64 (fitN (a + b)), .bool (fitB (a + b))]) ∧ w' = w := by
  go_enter Try.func9, Try.ntmps9
  go_wp2
  · have h := (add_wraps a b a1 a2 b1 b2).1 (by assumption)
    go_ret2
    exact ⟨ret2 (fitN_false h).symm h.symm, rfl⟩
  · have h : fitB (a + b) = true := not_false_true (fun h => by have := (add_wraps a b a1 a2 b1 b2).2 h; omega)
    go_ret2
    exact ⟨ret2 (wrap_fits h) h.symm, rfl⟩

set_option maxHeartbeats 400000 in
theorem sub_any (a b : Int) (a1 : -9223372036854775808 ≤ a) (a2 : a ≤ 9223372036854775807) (b1 : -9223372036854775808 ≤ b) (b2 : b ≤ 9223372036854775807) (w : World) :
    Calls Try.prog 11 #[.int .i64 a, .int .i64 b] w fun e w' => e = .returned (.tuple #[.int .i64 (fitN (a - b)), .bool (fitB (a - b))]) ∧ w' = w := by
  go_enter Try.func11, Try.ntmps11
  go_wp2
  · have h := (sub_wraps a b a1 a2 b1 b2).1 (by assumption)
    go_ret2
    exact ⟨ret2 (fitN_false h).symm h.symm, rfl⟩
  · have h : fitB (a - b) = true := not_false_true (fun h => by have := (sub_wraps a b a1 a2 b1 b2).2 h; omega)
    go_ret2
    exact ⟨ret2 (wrap_fits h) h.symm, rfl⟩

set_option maxHeartbeats 400000 in
theorem neg_any (a : Int) (a1 : -9223372036854775808 ≤ a) (a2 : a ≤ 9223372036854775807) (w : World) :
    Calls Try.prog 19 #[.int .i64 a] w fun e w' => e = .returned (.tuple #[.int .i64 (fitN (-a)), .bool (fitB (-a))]) ∧ w' = w := by
  by_cases h : a = -9223372036854775808
  · have h' : (a == -9223372036854775808) = true := by simp [h]
    have hb : Hid (fitB (-a) = false) := fitB_false (by omega)
    clear h
    go_enter Try.func19, Try.ntmps19
    go_wp2
    go_ret2
    exact ⟨ret2 (fitN_false hb.out).symm hb.out.symm, rfl⟩
  · have h' : (a == -9223372036854775808) = false := by simp [h]
    have hb : Hid (fitB (-a) = true) := fitB_true (by omega) (by omega)
    clear h
    go_enter Try.func19, Try.ntmps19
    go_wp2
    go_ret2
    exact ⟨ret2 (wrap_fits hb.out) hb.out.symm, rfl⟩

set_option maxHeartbeats 400000 in
theorem cmp_any (a b : Int) (w : World) :
    Calls Try.prog 23 #[.int .i64 a, .int .i64 b] w fun e w' => e = .returned (.int .i64 (cmpN a b)) ∧ w' = w := by
  go_enter Try.func23, Try.ntmps23
  go_wp2
  · go_ret
    exact ⟨ret1 (cmpN_lt (by omega)).symm, rfl⟩
  · go_ret
    exact ⟨ret1 (cmpN_gt (by omega)).symm, rfl⟩
  · go_ret
    exact ⟨ret1 (cmpN_eq (by omega)).symm, rfl⟩

/-- A size with its sign. -/
def sizeS (m : Nat) (p : Bool) : Int := if p = true then -(m : Int) else m
theorem sizeS_f (m : Nat) : sizeS m false = m := rfl
theorem sizeS_t (m : Nat) : sizeS m true = -(m : Int) := rfl

set_option maxRecDepth 100000 in
set_option maxHeartbeats 400000 in
theorem signed_any (m : Nat) (p : Bool) (h : m < 18446744073709551616) (w : World) :
    Calls Try.prog 31 #[.int .u64 m, .bool p] w fun e w' => e = .returned (.tuple #[.int .i64 (fitN (sizeS m p)), .bool (fitB (sizeS m p))]) ∧ w' = w := by
  cases p
  · by_cases hm : (m : Int) < 9223372036854775808
    · have hb : Hid (fitB (sizeS m false) = true) := fitB_true (by simp only [sizeS_f]; omega) (by simp only [sizeS_f]; omega)
      go_enter Try.func31, Try.ntmps31
      go_wp2
      go_ret2
      exact ⟨ret2 (by rw [fitN_true hb.out, sizeS_f]) hb.out.symm, rfl⟩
    · have hb : Hid (fitB (sizeS m false) = false) := fitB_false (by simp only [sizeS_f]; omega)
      go_enter Try.func31, Try.ntmps31
      go_wp2
      go_ret2
      exact ⟨ret2 (fitN_false hb.out).symm hb.out.symm, rfl⟩
  · by_cases hm : (m : Int) ≤ 9223372036854775808
    · have hb : Hid (fitB (sizeS m true) = true) := fitB_true (by simp only [sizeS_t]; omega) (by simp only [sizeS_t]; omega)
      go_enter Try.func31, Try.ntmps31
      go_wp2
      go_ret2
      exact ⟨ret2 (by rw [fitN_true hb.out, sizeS_t, IntKind.wrap_u64]; unfold wrap64; omega) hb.out.symm, rfl⟩
    · have hb : Hid (fitB (sizeS m true) = false) := fitB_false (by simp only [sizeS_t]; omega)
      go_enter Try.func31, Try.ntmps31
      go_wp2
      go_ret2
      exact ⟨ret2 (fitN_false hb.out).symm hb.out.symm, rfl⟩

set_option maxHeartbeats 400000 in
theorem div_any (a b : Int) (a1 : -9223372036854775808 ≤ a) (a2 : a ≤ 9223372036854775807) (w : World) :
    Calls Try.prog 15 #[.int .i64 a, .int .i64 b] w fun e w' => e = .returned (.tuple #[.int .i64 (byN a b), .bool (byB a b)]) ∧ w' = w := by
  by_cases h0 : b = 0
  · have h' : (b == 0) = true := by simp [h0]
    have hn : Hid (b = 0) := h0
    clear h0
    go_enter Try.func15, Try.ntmps15
    go_wp2
    go_ret2
    exact ⟨ret2 (byN_0 a hn.out).symm (byB_0 a hn.out).symm, rfl⟩
  · have h' : (b == 0) = false := by simp [h0]
    by_cases h1 : b = -1
    · have h'' : (b == -1) = true := by simp [h1]
      have hn : Hid (byN a b = fitN (-a) ∧ byB a b = fitB (-a)) := ⟨by rw [byN_1 a h0, h1, Int.tdiv_neg, Int.tdiv_one], by rw [byB_1 a h0, h1, Int.tdiv_neg, Int.tdiv_one]⟩
      clear h0 h1
      go_enter Try.func15, Try.ntmps15
      go_wp2_with fail
      refine (neg_any a a1 a2 _).mono ?_
      rintro e w' ⟨rfl, rfl⟩
      go_wp2
      go_ret2
      exact ⟨ret2 hn.out.1.symm hn.out.2.symm, rfl⟩
    · have h'' : (b == -1) = false := by simp [h1]
      have hn : Hid (byN a b = fitN (a.tdiv b) ∧ byB a b = true) := ⟨byN_1 a h0, by rw [byB_1 a h0]; exact tdiv_fits a1 a2 h0 h1⟩
      have hf : Hid (fitB (a.tdiv b) = true) := tdiv_fits a1 a2 h0 h1
      clear h1
      go_enter Try.func15, Try.ntmps15
      go_wp2
      go_ret2
      exact ⟨ret2 (by rw [hn.out.1]; exact wrap_fits hf.out) hn.out.2.symm, rfl⟩
set_option maxHeartbeats 400000 in
theorem mod_any (a b : Int) (w : World) :
    Calls Try.prog 17 #[.int .i64 a, .int .i64 b] w fun e w' => e = .returned (.tuple #[.int .i64 (restN a b), .bool (restB b)]) ∧ w' = w := by
  by_cases h0 : b = 0
  · have h' : (b == 0) = true := by simp [h0]
    have hn : Hid (b = 0) := h0
    clear h0
    go_enter Try.func17, Try.ntmps17
    go_wp2
    go_ret2
    exact ⟨ret2 (restN_0 a hn.out).symm (restB_0 hn.out).symm, rfl⟩
  · have h' : (b == 0) = false := by simp [h0]
    by_cases h1 : b = -1
    · have h'' : (b == -1) = true := by simp [h1]
      have hn : Hid (restN a b = 0 ∧ restB b = true) := ⟨by rw [restN_1 a h0, h1]; have := tmod_bound (a := a) (b := -1) (by decide); omega, restB_1 h0⟩
      clear h0 h1
      go_enter Try.func17, Try.ntmps17
      go_wp2
      go_ret2
      exact ⟨ret2 hn.out.1.symm hn.out.2.symm, rfl⟩
    · have h'' : (b == -1) = false := by simp [h1]
      have hn : Hid (restN a b = a.tmod b ∧ restB b = true) := ⟨restN_1 a h0, restB_1 h0⟩
      clear h1
      go_enter Try.func17, Try.ntmps17
      go_wp2
      go_ret2
      exact ⟨ret2 (by rw [hn.out.1]) hn.out.2.symm, rfl⟩
end Go.Proofs.Ytfdnfdakejabaaa
