/-
  The walk of FixnumOrder, a theorem a way.
-/
import Derived.Test.YtfdnfdakejabaaaWorks
import Derived.OpenShut
namespace Go.Proofs.Ytfdnfdakejabaaa
open Go.RowKit

theorem byN_one (x : Int) : byN x 1 = fitN x := by rw [byN_1 x (by decide), Int.tdiv_one]
theorem byB_one (x : Int) : byB x 1 = fitB x := by rw [byB_1 x (by decide), Int.tdiv_one]
theorem grown_drewN {W w : World} (h : Grown W w) (n : Nat) : Grown W (w.drewN n) := h
theorem fitN_bounds (x : Int) : -9223372036854775808 ≤ fitN x ∧ fitN x ≤ 9223372036854775807 := by
  cases h : fitB x
  · rw [fitN_false h]; omega
  · rw [fitN_true h]; exact fitB_iff.1 h
theorem cmpN_le {a b : Int} : cmpN a b ≤ 0 ↔ a ≤ b := by
  rcases Int.lt_trichotomy a b with h | h | h
  · rw [cmpN_lt h]; omega
  · rw [cmpN_eq h]; omega
  · rw [cmpN_gt h]; omega
theorem cmpN_sub (a b : Int) : cmpN (a - b) 0 = cmpN a b := by
  rcases Int.lt_trichotomy a b with h | h | h
  · rw [cmpN_lt h, cmpN_lt (by omega)]
  · rw [cmpN_eq h, cmpN_eq (by omega)]
  · rw [cmpN_gt h, cmpN_gt (by omega)]

set_option maxHeartbeats 2000000 in
theorem ord_lt_le (a b c : Int) (a1 : -9223372036854775808 ≤ a) (a2 : a ≤ 9223372036854775807) (b1 : -9223372036854775808 ≤ b) (b2 : b ≤ 9223372036854775807) (w : World)
    (hx : cmpN a b = -1) (hy : cmpN b a = 1) (hab : (a == b) = false) (hz : cmpN b c ≤ 0) (hw : cmpN a c ≤ 0) (hs : fitB (a - b) = true) (hd : cmpN (fitN (a - b)) 0 = -1) :
    Calls Try.prog 6 #[.int .i64 a, .int .i64 b, .int .i64 c] w fun e w' => e = .returned (.bool true) ∧ Grown w w' := by
  go_enter Try.func6, Try.ntmps6
  go_wp2_with fail
  refine (works_any _).mono ?_
  rintro e w1 ⟨rfl, ⟨n, rfl⟩⟩
  go_wp2_with fail
  refine (cmp_any _ _ _).mono ?_
  rintro e w1 ⟨rfl, rfl⟩
  go_wp2_with fail
  refine (cmp_any _ _ _).mono ?_
  rintro e w1 ⟨rfl, rfl⟩
  go_wp2_with fail
  refine (cmp_any _ _ _).mono ?_
  rintro e w1 ⟨rfl, rfl⟩
  go_wp2_with fail
  refine (cmp_any _ _ _).mono ?_
  rintro e w1 ⟨rfl, rfl⟩
  go_wp2_with fail
  refine (sub_any _ _ a1 a2 b1 b2 _).mono ?_
  rintro e w1 ⟨rfl, rfl⟩
  go_wp2_with fail
  refine (cmp_any _ _ _).mono ?_
  rintro e w1 ⟨rfl, rfl⟩
  go_wp2_with fail
  refine (add_any _ _ a1 a2 b1 b2 _).mono ?_
  rintro e w1 ⟨rfl, rfl⟩
  go_wp2_with fail
  refine (add_any _ _ b1 b2 a1 a2 _).mono ?_
  rintro e w1 ⟨rfl, rfl⟩
  rw [Int.add_comm b a]
  go_wp2_with fail
  refine (mul_any _ _ a1 a2 b1 b2 _).mono ?_
  rintro e w1 ⟨rfl, rfl⟩
  go_wp2_with fail
  refine (mul_any _ _ b1 b2 a1 a2 _).mono ?_
  rintro e w1 ⟨rfl, rfl⟩
  rw [Int.mul_comm b a]
  go_wp2_with fail
  refine (muldiv_any _ _ _ a1 a2 b1 b2 (by decide) (by decide) _).mono ?_
  rintro e w1 ⟨rfl, ⟨m, rfl⟩⟩
  rw [byN_one, byB_one]
  go_wp2_with fail
  go_ret
  exact ⟨rfl, grown_drewN ((Grown.refl _).alloc _ _) _⟩

set_option maxHeartbeats 2000000 in
theorem ord_lt_le0 (a b c : Int) (a1 : -9223372036854775808 ≤ a) (a2 : a ≤ 9223372036854775807) (b1 : -9223372036854775808 ≤ b) (b2 : b ≤ 9223372036854775807) (w : World)
    (hx : cmpN a b = -1) (hy : cmpN b a = 1) (hab : (a == b) = false) (hz : cmpN b c ≤ 0) (hw : cmpN a c ≤ 0) (hs : fitB (a - b) = false) :
    Calls Try.prog 6 #[.int .i64 a, .int .i64 b, .int .i64 c] w fun e w' => e = .returned (.bool true) ∧ Grown w w' := by
  go_enter Try.func6, Try.ntmps6
  go_wp2_with fail
  refine (works_any _).mono ?_
  rintro e w1 ⟨rfl, ⟨n, rfl⟩⟩
  go_wp2_with fail
  refine (cmp_any _ _ _).mono ?_
  rintro e w1 ⟨rfl, rfl⟩
  go_wp2_with fail
  refine (cmp_any _ _ _).mono ?_
  rintro e w1 ⟨rfl, rfl⟩
  go_wp2_with fail
  refine (cmp_any _ _ _).mono ?_
  rintro e w1 ⟨rfl, rfl⟩
  go_wp2_with fail
  refine (cmp_any _ _ _).mono ?_
  rintro e w1 ⟨rfl, rfl⟩
  go_wp2_with fail
  refine (sub_any _ _ a1 a2 b1 b2 _).mono ?_
  rintro e w1 ⟨rfl, rfl⟩
  go_wp2_with fail
  refine (add_any _ _ a1 a2 b1 b2 _).mono ?_
  rintro e w1 ⟨rfl, rfl⟩
  go_wp2_with fail
  refine (add_any _ _ b1 b2 a1 a2 _).mono ?_
  rintro e w1 ⟨rfl, rfl⟩
  rw [Int.add_comm b a]
  go_wp2_with fail
  refine (mul_any _ _ a1 a2 b1 b2 _).mono ?_
  rintro e w1 ⟨rfl, rfl⟩
  go_wp2_with fail
  refine (mul_any _ _ b1 b2 a1 a2 _).mono ?_
  rintro e w1 ⟨rfl, rfl⟩
  rw [Int.mul_comm b a]
  go_wp2_with fail
  refine (muldiv_any _ _ _ a1 a2 b1 b2 (by decide) (by decide) _).mono ?_
  rintro e w1 ⟨rfl, ⟨m, rfl⟩⟩
  rw [byN_one, byB_one]
  go_wp2_with fail
  go_ret
  exact ⟨rfl, grown_drewN ((Grown.refl _).alloc _ _) _⟩

set_option maxHeartbeats 2000000 in
theorem ord_lt_gt (a b c : Int) (a1 : -9223372036854775808 ≤ a) (a2 : a ≤ 9223372036854775807) (b1 : -9223372036854775808 ≤ b) (b2 : b ≤ 9223372036854775807) (w : World)
    (hx : cmpN a b = -1) (hy : cmpN b a = 1) (hab : (a == b) = false) (hz : 0 < cmpN b c) (hs : fitB (a - b) = true) (hd : cmpN (fitN (a - b)) 0 = -1) :
    Calls Try.prog 6 #[.int .i64 a, .int .i64 b, .int .i64 c] w fun e w' => e = .returned (.bool true) ∧ Grown w w' := by
  go_enter Try.func6, Try.ntmps6
  go_wp2_with fail
  refine (works_any _).mono ?_
  rintro e w1 ⟨rfl, ⟨n, rfl⟩⟩
  go_wp2_with fail
  refine (cmp_any _ _ _).mono ?_
  rintro e w1 ⟨rfl, rfl⟩
  go_wp2_with fail
  refine (cmp_any _ _ _).mono ?_
  rintro e w1 ⟨rfl, rfl⟩
  go_wp2_with fail
  refine (cmp_any _ _ _).mono ?_
  rintro e w1 ⟨rfl, rfl⟩
  go_wp2_with fail
  refine (cmp_any _ _ _).mono ?_
  rintro e w1 ⟨rfl, rfl⟩
  go_wp2_with fail
  refine (sub_any _ _ a1 a2 b1 b2 _).mono ?_
  rintro e w1 ⟨rfl, rfl⟩
  go_wp2_with fail
  refine (cmp_any _ _ _).mono ?_
  rintro e w1 ⟨rfl, rfl⟩
  go_wp2_with fail
  refine (add_any _ _ a1 a2 b1 b2 _).mono ?_
  rintro e w1 ⟨rfl, rfl⟩
  go_wp2_with fail
  refine (add_any _ _ b1 b2 a1 a2 _).mono ?_
  rintro e w1 ⟨rfl, rfl⟩
  rw [Int.add_comm b a]
  go_wp2_with fail
  refine (mul_any _ _ a1 a2 b1 b2 _).mono ?_
  rintro e w1 ⟨rfl, rfl⟩
  go_wp2_with fail
  refine (mul_any _ _ b1 b2 a1 a2 _).mono ?_
  rintro e w1 ⟨rfl, rfl⟩
  rw [Int.mul_comm b a]
  go_wp2_with fail
  refine (muldiv_any _ _ _ a1 a2 b1 b2 (by decide) (by decide) _).mono ?_
  rintro e w1 ⟨rfl, ⟨m, rfl⟩⟩
  rw [byN_one, byB_one]
  go_wp2_with fail
  go_ret
  exact ⟨rfl, grown_drewN ((Grown.refl _).alloc _ _) _⟩

set_option maxHeartbeats 2000000 in
theorem ord_lt_gt0 (a b c : Int) (a1 : -9223372036854775808 ≤ a) (a2 : a ≤ 9223372036854775807) (b1 : -9223372036854775808 ≤ b) (b2 : b ≤ 9223372036854775807) (w : World)
    (hx : cmpN a b = -1) (hy : cmpN b a = 1) (hab : (a == b) = false) (hz : 0 < cmpN b c) (hs : fitB (a - b) = false) :
    Calls Try.prog 6 #[.int .i64 a, .int .i64 b, .int .i64 c] w fun e w' => e = .returned (.bool true) ∧ Grown w w' := by
  go_enter Try.func6, Try.ntmps6
  go_wp2_with fail
  refine (works_any _).mono ?_
  rintro e w1 ⟨rfl, ⟨n, rfl⟩⟩
  go_wp2_with fail
  refine (cmp_any _ _ _).mono ?_
  rintro e w1 ⟨rfl, rfl⟩
  go_wp2_with fail
  refine (cmp_any _ _ _).mono ?_
  rintro e w1 ⟨rfl, rfl⟩
  go_wp2_with fail
  refine (cmp_any _ _ _).mono ?_
  rintro e w1 ⟨rfl, rfl⟩
  go_wp2_with fail
  refine (cmp_any _ _ _).mono ?_
  rintro e w1 ⟨rfl, rfl⟩
  go_wp2_with fail
  refine (sub_any _ _ a1 a2 b1 b2 _).mono ?_
  rintro e w1 ⟨rfl, rfl⟩
  go_wp2_with fail
  refine (add_any _ _ a1 a2 b1 b2 _).mono ?_
  rintro e w1 ⟨rfl, rfl⟩
  go_wp2_with fail
  refine (add_any _ _ b1 b2 a1 a2 _).mono ?_
  rintro e w1 ⟨rfl, rfl⟩
  rw [Int.add_comm b a]
  go_wp2_with fail
  refine (mul_any _ _ a1 a2 b1 b2 _).mono ?_
  rintro e w1 ⟨rfl, rfl⟩
  go_wp2_with fail
  refine (mul_any _ _ b1 b2 a1 a2 _).mono ?_
  rintro e w1 ⟨rfl, rfl⟩
  rw [Int.mul_comm b a]
  go_wp2_with fail
  refine (muldiv_any _ _ _ a1 a2 b1 b2 (by decide) (by decide) _).mono ?_
  rintro e w1 ⟨rfl, ⟨m, rfl⟩⟩
  rw [byN_one, byB_one]
  go_wp2_with fail
  go_ret
  exact ⟨rfl, grown_drewN ((Grown.refl _).alloc _ _) _⟩

set_option maxHeartbeats 2000000 in
theorem ord_eq_le (a b c : Int) (a1 : -9223372036854775808 ≤ a) (a2 : a ≤ 9223372036854775807) (b1 : -9223372036854775808 ≤ b) (b2 : b ≤ 9223372036854775807) (w : World)
    (hx : cmpN a b = 0) (hy : cmpN b a = 0) (hab : (a == b) = true) (hz : cmpN b c ≤ 0) (hw : cmpN a c ≤ 0) (hs : fitB (a - b) = true) (hd : cmpN (fitN (a - b)) 0 = 0) :
    Calls Try.prog 6 #[.int .i64 a, .int .i64 b, .int .i64 c] w fun e w' => e = .returned (.bool true) ∧ Grown w w' := by
  go_enter Try.func6, Try.ntmps6
  go_wp2_with fail
  refine (works_any _).mono ?_
  rintro e w1 ⟨rfl, ⟨n, rfl⟩⟩
  go_wp2_with fail
  refine (cmp_any _ _ _).mono ?_
  rintro e w1 ⟨rfl, rfl⟩
  go_wp2_with fail
  refine (cmp_any _ _ _).mono ?_
  rintro e w1 ⟨rfl, rfl⟩
  go_wp2_with fail
  refine (cmp_any _ _ _).mono ?_
  rintro e w1 ⟨rfl, rfl⟩
  go_wp2_with fail
  refine (cmp_any _ _ _).mono ?_
  rintro e w1 ⟨rfl, rfl⟩
  go_wp2_with fail
  refine (sub_any _ _ a1 a2 b1 b2 _).mono ?_
  rintro e w1 ⟨rfl, rfl⟩
  go_wp2_with fail
  refine (cmp_any _ _ _).mono ?_
  rintro e w1 ⟨rfl, rfl⟩
  go_wp2_with fail
  refine (add_any _ _ a1 a2 b1 b2 _).mono ?_
  rintro e w1 ⟨rfl, rfl⟩
  go_wp2_with fail
  refine (add_any _ _ b1 b2 a1 a2 _).mono ?_
  rintro e w1 ⟨rfl, rfl⟩
  rw [Int.add_comm b a]
  go_wp2_with fail
  refine (mul_any _ _ a1 a2 b1 b2 _).mono ?_
  rintro e w1 ⟨rfl, rfl⟩
  go_wp2_with fail
  refine (mul_any _ _ b1 b2 a1 a2 _).mono ?_
  rintro e w1 ⟨rfl, rfl⟩
  rw [Int.mul_comm b a]
  go_wp2_with fail
  refine (muldiv_any _ _ _ a1 a2 b1 b2 (by decide) (by decide) _).mono ?_
  rintro e w1 ⟨rfl, ⟨m, rfl⟩⟩
  rw [byN_one, byB_one]
  go_wp2_with fail
  go_ret
  exact ⟨rfl, grown_drewN ((Grown.refl _).alloc _ _) _⟩

set_option maxHeartbeats 2000000 in
theorem ord_eq_gt (a b c : Int) (a1 : -9223372036854775808 ≤ a) (a2 : a ≤ 9223372036854775807) (b1 : -9223372036854775808 ≤ b) (b2 : b ≤ 9223372036854775807) (w : World)
    (hx : cmpN a b = 0) (hy : cmpN b a = 0) (hab : (a == b) = true) (hz : 0 < cmpN b c) (hs : fitB (a - b) = true) (hd : cmpN (fitN (a - b)) 0 = 0) :
    Calls Try.prog 6 #[.int .i64 a, .int .i64 b, .int .i64 c] w fun e w' => e = .returned (.bool true) ∧ Grown w w' := by
  go_enter Try.func6, Try.ntmps6
  go_wp2_with fail
  refine (works_any _).mono ?_
  rintro e w1 ⟨rfl, ⟨n, rfl⟩⟩
  go_wp2_with fail
  refine (cmp_any _ _ _).mono ?_
  rintro e w1 ⟨rfl, rfl⟩
  go_wp2_with fail
  refine (cmp_any _ _ _).mono ?_
  rintro e w1 ⟨rfl, rfl⟩
  go_wp2_with fail
  refine (cmp_any _ _ _).mono ?_
  rintro e w1 ⟨rfl, rfl⟩
  go_wp2_with fail
  refine (cmp_any _ _ _).mono ?_
  rintro e w1 ⟨rfl, rfl⟩
  go_wp2_with fail
  refine (sub_any _ _ a1 a2 b1 b2 _).mono ?_
  rintro e w1 ⟨rfl, rfl⟩
  go_wp2_with fail
  refine (cmp_any _ _ _).mono ?_
  rintro e w1 ⟨rfl, rfl⟩
  go_wp2_with fail
  refine (add_any _ _ a1 a2 b1 b2 _).mono ?_
  rintro e w1 ⟨rfl, rfl⟩
  go_wp2_with fail
  refine (add_any _ _ b1 b2 a1 a2 _).mono ?_
  rintro e w1 ⟨rfl, rfl⟩
  rw [Int.add_comm b a]
  go_wp2_with fail
  refine (mul_any _ _ a1 a2 b1 b2 _).mono ?_
  rintro e w1 ⟨rfl, rfl⟩
  go_wp2_with fail
  refine (mul_any _ _ b1 b2 a1 a2 _).mono ?_
  rintro e w1 ⟨rfl, rfl⟩
  rw [Int.mul_comm b a]
  go_wp2_with fail
  refine (muldiv_any _ _ _ a1 a2 b1 b2 (by decide) (by decide) _).mono ?_
  rintro e w1 ⟨rfl, ⟨m, rfl⟩⟩
  rw [byN_one, byB_one]
  go_wp2_with fail
  go_ret
  exact ⟨rfl, grown_drewN ((Grown.refl _).alloc _ _) _⟩

set_option maxHeartbeats 2000000 in
theorem ord_gt (a b c : Int) (a1 : -9223372036854775808 ≤ a) (a2 : a ≤ 9223372036854775807) (b1 : -9223372036854775808 ≤ b) (b2 : b ≤ 9223372036854775807) (w : World)
    (hx : cmpN a b = 1) (hy : cmpN b a = -1) (hab : (a == b) = false) (hs : fitB (a - b) = true) (hd : cmpN (fitN (a - b)) 0 = 1) :
    Calls Try.prog 6 #[.int .i64 a, .int .i64 b, .int .i64 c] w fun e w' => e = .returned (.bool true) ∧ Grown w w' := by
  go_enter Try.func6, Try.ntmps6
  go_wp2_with fail
  refine (works_any _).mono ?_
  rintro e w1 ⟨rfl, ⟨n, rfl⟩⟩
  go_wp2_with fail
  refine (cmp_any _ _ _).mono ?_
  rintro e w1 ⟨rfl, rfl⟩
  go_wp2_with fail
  refine (cmp_any _ _ _).mono ?_
  rintro e w1 ⟨rfl, rfl⟩
  go_wp2_with fail
  refine (cmp_any _ _ _).mono ?_
  rintro e w1 ⟨rfl, rfl⟩
  go_wp2_with fail
  refine (cmp_any _ _ _).mono ?_
  rintro e w1 ⟨rfl, rfl⟩
  go_wp2_with fail
  refine (sub_any _ _ a1 a2 b1 b2 _).mono ?_
  rintro e w1 ⟨rfl, rfl⟩
  go_wp2_with fail
  refine (cmp_any _ _ _).mono ?_
  rintro e w1 ⟨rfl, rfl⟩
  go_wp2_with fail
  refine (add_any _ _ a1 a2 b1 b2 _).mono ?_
  rintro e w1 ⟨rfl, rfl⟩
  go_wp2_with fail
  refine (add_any _ _ b1 b2 a1 a2 _).mono ?_
  rintro e w1 ⟨rfl, rfl⟩
  rw [Int.add_comm b a]
  go_wp2_with fail
  refine (mul_any _ _ a1 a2 b1 b2 _).mono ?_
  rintro e w1 ⟨rfl, rfl⟩
  go_wp2_with fail
  refine (mul_any _ _ b1 b2 a1 a2 _).mono ?_
  rintro e w1 ⟨rfl, rfl⟩
  rw [Int.mul_comm b a]
  go_wp2_with fail
  refine (muldiv_any _ _ _ a1 a2 b1 b2 (by decide) (by decide) _).mono ?_
  rintro e w1 ⟨rfl, ⟨m, rfl⟩⟩
  rw [byN_one, byB_one]
  go_wp2_with fail
  go_ret
  exact ⟨rfl, grown_drewN ((Grown.refl _).alloc _ _) _⟩

set_option maxHeartbeats 2000000 in
theorem ord_gt0 (a b c : Int) (a1 : -9223372036854775808 ≤ a) (a2 : a ≤ 9223372036854775807) (b1 : -9223372036854775808 ≤ b) (b2 : b ≤ 9223372036854775807) (w : World)
    (hx : cmpN a b = 1) (hy : cmpN b a = -1) (hab : (a == b) = false) (hs : fitB (a - b) = false) :
    Calls Try.prog 6 #[.int .i64 a, .int .i64 b, .int .i64 c] w fun e w' => e = .returned (.bool true) ∧ Grown w w' := by
  go_enter Try.func6, Try.ntmps6
  go_wp2_with fail
  refine (works_any _).mono ?_
  rintro e w1 ⟨rfl, ⟨n, rfl⟩⟩
  go_wp2_with fail
  refine (cmp_any _ _ _).mono ?_
  rintro e w1 ⟨rfl, rfl⟩
  go_wp2_with fail
  refine (cmp_any _ _ _).mono ?_
  rintro e w1 ⟨rfl, rfl⟩
  go_wp2_with fail
  refine (cmp_any _ _ _).mono ?_
  rintro e w1 ⟨rfl, rfl⟩
  go_wp2_with fail
  refine (cmp_any _ _ _).mono ?_
  rintro e w1 ⟨rfl, rfl⟩
  go_wp2_with fail
  refine (sub_any _ _ a1 a2 b1 b2 _).mono ?_
  rintro e w1 ⟨rfl, rfl⟩
  go_wp2_with fail
  refine (add_any _ _ a1 a2 b1 b2 _).mono ?_
  rintro e w1 ⟨rfl, rfl⟩
  go_wp2_with fail
  refine (add_any _ _ b1 b2 a1 a2 _).mono ?_
  rintro e w1 ⟨rfl, rfl⟩
  rw [Int.add_comm b a]
  go_wp2_with fail
  refine (mul_any _ _ a1 a2 b1 b2 _).mono ?_
  rintro e w1 ⟨rfl, rfl⟩
  go_wp2_with fail
  refine (mul_any _ _ b1 b2 a1 a2 _).mono ?_
  rintro e w1 ⟨rfl, rfl⟩
  rw [Int.mul_comm b a]
  go_wp2_with fail
  refine (muldiv_any _ _ _ a1 a2 b1 b2 (by decide) (by decide) _).mono ?_
  rintro e w1 ⟨rfl, ⟨m, rfl⟩⟩
  rw [byN_one, byB_one]
  go_wp2_with fail
  go_ret
  exact ⟨rfl, grown_drewN ((Grown.refl _).alloc _ _) _⟩

theorem order_walk (a b c : Int) (a1 : -9223372036854775808 ≤ a) (a2 : a ≤ 9223372036854775807) (b1 : -9223372036854775808 ≤ b) (b2 : b ≤ 9223372036854775807) (w : World) :
    Calls Try.prog 6 #[.int .i64 a, .int .i64 b, .int .i64 c] w fun e w' => e = .returned (.bool true) ∧ Grown w w' := by
  have hsub : fitB (a - b) = true → cmpN (fitN (a - b)) 0 = cmpN a b := fun h => by rw [fitN_true h, cmpN_sub]
  rcases Int.lt_trichotomy a b with h | h | h
  · have hx := cmpN_lt h
    have hy := cmpN_gt h
    have hab : (a == b) = false := by simp; omega
    rw [hx] at hsub
    by_cases hz : b ≤ c
    · have hw : cmpN a c ≤ 0 := cmpN_le.2 (by omega)
      cases hf : fitB (a - b)
      · exact ord_lt_le0 a b c a1 a2 b1 b2 w hx hy hab (cmpN_le.2 hz) hw hf
      · exact ord_lt_le a b c a1 a2 b1 b2 w hx hy hab (cmpN_le.2 hz) hw hf (hsub hf)
    · have hz' : 0 < cmpN b c := by rw [cmpN_gt (by omega)]; decide
      cases hf : fitB (a - b)
      · exact ord_lt_gt0 a b c a1 a2 b1 b2 w hx hy hab hz' hf
      · exact ord_lt_gt a b c a1 a2 b1 b2 w hx hy hab hz' hf (hsub hf)
  · have hx := cmpN_eq h
    have hy := cmpN_eq h.symm
    have hab : (a == b) = true := by simp [h]
    have hf : fitB (a - b) = true := fitB_true (by omega) (by omega)
    rw [hx] at hsub
    by_cases hz : b ≤ c
    · exact ord_eq_le a b c a1 a2 b1 b2 w hx hy hab (cmpN_le.2 hz) (cmpN_le.2 (by omega)) hf (hsub hf)
    · have hz' : 0 < cmpN b c := by rw [cmpN_gt (by omega)]; decide
      exact ord_eq_gt a b c a1 a2 b1 b2 w hx hy hab hz' hf (hsub hf)
  · have hx := cmpN_gt h
    have hy := cmpN_lt h
    have hab : (a == b) = false := by simp; omega
    rw [hx] at hsub
    cases hf : fitB (a - b)
    · exact ord_gt0 a b c a1 a2 b1 b2 w hx hy hab hf
    · exact ord_gt a b c a1 a2 b1 b2 w hx hy hab hf (hsub hf)
end Go.Proofs.Ytfdnfdakejabaaa
