/-
  Walks of the document's answer for layer 1: Add, Sub, Neg, Cmp, size, signed.
-/
import Derived.Test.YtkbadigpagijjaaDoorLeaf
namespace Go.Proofs.YtkbadigpagijjaaDoor
open Go.RowKit

theorem no_fit {x : Int} (h : x < -9223372036854775808 ∨ 9223372036854775807 < x) : (0 = fitN x) ∧ (false = fitB x) := ⟨(fitN_false (fitB_false h)).symm, (fitB_false h).symm⟩
theorem yes_fit {x y : Int} (e : y = x) (h1 : -9223372036854775808 ≤ x) (h2 : x ≤ 9223372036854775807) : (y = fitN x) ∧ (true = fitB x) := ⟨by rw [fitN_true (fitB_true h1 h2), e], (fitB_true h1 h2).symm⟩
theorem ret2' {k : IntKind} {a b : Int} {p q : Bool} (h : a = b ∧ p = q) : Ending.returned (.tuple #[.int k a, .bool p]) = .returned (.tuple #[.int k b, .bool q]) := by rw [h.1, h.2]

set_option maxHeartbeats 400000 in
theorem rsub_any (a b : Int) (a1 : -9223372036854775808 ≤ a) (a2 : a ≤ 9223372036854775807) (b1 : -9223372036854775808 ≤ b) (b2 : b ≤ 9223372036854775807) (w : World) :
    Calls Tryd.prog 18 #[.int .i64 a, .int .i64 b] w fun e w' => e = .returned (.tuple #[.int .i64 (fitN (a - b)), .bool (fitB (a - b))]) ∧ w' = w := by
  by_cases hf : -9223372036854775808 ≤ a - b ∧ a - b ≤ 9223372036854775807
  · go_enter Tryd.func18, Tryd.ntmps18
    go_wp2
    all_goals (go_ret2; exact ⟨ret2' (yes_fit rfl hf.1 hf.2), rfl⟩)
  · go_enter Tryd.func18, Tryd.ntmps18
    go_wp2
    all_goals (go_ret2; exact ⟨ret2' (no_fit (by omega)), rfl⟩)

set_option maxHeartbeats 400000 in
theorem rneg_any (a : Int) (a1 : -9223372036854775808 ≤ a) (a2 : a ≤ 9223372036854775807) (w : World) :
    Calls Tryd.prog 19 #[.int .i64 a] w fun e w' => e = .returned (.tuple #[.int .i64 (fitN (-a)), .bool (fitB (-a))]) ∧ w' = w := by
  by_cases h : a = -9223372036854775808
  · have h' : (a == -9223372036854775808) = true := by simp [h]
    have hb : Hid (fitB (-a) = false) := fitB_false (by omega)
    clear h
    go_enter Tryd.func19, Tryd.ntmps19
    go_wp2
    go_ret2
    exact ⟨ret2 (fitN_false hb.out).symm hb.out.symm, rfl⟩
  · have h' : (a == -9223372036854775808) = false := by simp [h]
    have hb : Hid (fitB (-a) = true) := fitB_true (by omega) (by omega)
    clear h
    go_enter Tryd.func19, Tryd.ntmps19
    go_wp2
    go_ret2
    exact ⟨ret2 (wrap_fits hb.out) hb.out.symm, rfl⟩

set_option maxRecDepth 100000 in
set_option maxHeartbeats 400000 in
theorem size_any (a : Int) (h1 : -9223372036854775808 ≤ a) (h2 : a ≤ 9223372036854775807) (w : World) :
    Calls Tryd.prog 33 #[.int .i64 a] w fun e w' => e = .returned (.int .u64 (a.natAbs : Int)) ∧ w' = w := by
  by_cases h : a = -9223372036854775808
  · have h' : (a == -9223372036854775808) = true := by simp [h]
    have hb : Hid ((9223372036854775808 : Int) = (a.natAbs : Int)) := by show (9223372036854775808 : Int) = (a.natAbs : Int); omega
    clear h
    go_enter Tryd.func33, Tryd.ntmps33
    go_wp2
    go_ret
    exact ⟨ret1 hb.out, rfl⟩
  · have h' : (a == -9223372036854775808) = false := by simp [h]
    have hne : Hid (a ≠ -9223372036854775808) := h
    clear h
    by_cases h0 : a < 0
    · go_enter Tryd.func33, Tryd.ntmps33
      go_wp2
      go_ret
      have := hne.out
      exact ⟨ret1 (by rw [IntKind.wrap_u64]; unfold wrap64; omega), rfl⟩
    · have h0' : 0 ≤ a := by omega
      go_enter Tryd.func33, Tryd.ntmps33
      go_wp2
      go_ret
      exact ⟨ret1 (by omega), rfl⟩

set_option maxRecDepth 100000 in
set_option maxHeartbeats 400000 in
theorem rsigned_any (m : Int) (p : Bool) (hm0 : 0 ≤ m) (h : m ≤ 18446744073709551615) (w : World) :
    Calls Tryd.prog 34 #[.int .u64 m, .bool p] w fun e w' => e = .returned (.tuple #[.int .i64 (fitN (sizeS m.toNat p)), .bool (fitB (sizeS m.toNat p))]) ∧ w' = w := by
  cases p
  · have hsz : Hid (sizeS m.toNat false = m) := by show sizeS m.toNat false = m; rw [sizeS_f]; omega
    by_cases hm : m ≤ 9223372036854775807
    · go_enter Tryd.func34, Tryd.ntmps34
      go_wp2
      go_ret2
      exact ⟨ret2' (by rw [hsz.out]; exact yes_fit rfl (by omega) (by omega)), rfl⟩
    · go_enter Tryd.func34, Tryd.ntmps34
      go_wp2
      go_ret2
      exact ⟨ret2' (by rw [hsz.out]; exact no_fit (by omega)), rfl⟩
  · have hsz : Hid (sizeS m.toNat true = -m) := by show sizeS m.toNat true = -m; rw [sizeS_t]; omega
    by_cases hm : m = 9223372036854775808
    · have h' : (m == 9223372036854775808) = true := by simp [hm]
      have hb : Hid (m = 9223372036854775808) := hm
      clear hm
      go_enter Tryd.func34, Tryd.ntmps34
      go_wp2
      go_ret2
      exact ⟨ret2' (by rw [hsz.out, hb.out]; exact yes_fit rfl (by omega) (by omega)), rfl⟩
    · have h' : (m == 9223372036854775808) = false := by simp [hm]
      by_cases hm2 : m ≤ 9223372036854775807
      · clear hm
        go_enter Tryd.func34, Tryd.ntmps34
        go_wp2
        go_ret2
        refine ⟨ret2' ?_, rfl⟩
        rw [hsz.out]; exact yes_fit rfl (by omega) (by omega)
      · have hb : Hid (9223372036854775808 < m) := by show 9223372036854775808 < m; omega
        clear hm
        go_enter Tryd.func34, Tryd.ntmps34
        go_wp2
        go_ret2
        exact ⟨ret2' (by rw [hsz.out]; exact no_fit (by have := hb.out; omega)), rfl⟩
end Go.Proofs.YtkbadigpagijjaaDoor
