/-
  Walks of layer 3's leaves: Size, Zig, Zag, Sum, mayEnd, and the document's Zig, Zag, Sum.
-/
import Derived.Test.YtldipdbcmehioaaRows
import Derived.Test.YtldipdbcmehioaaFrm
import Derived.Test.YtldipdbcmehioaaBits
import Derived.Deep.QuietTactic
import Derived.BigQuiet
import Derived.Below
import Derived.WalkKit
import Derived.ProofKit
import Derived.Outline
namespace Go.Proofs.Ytldipdbcmehioaa
open Go.RowKit

theorem retb {a b : Bool} (h : a = b) : Ending.returned (.bool a) = .returned (.bool b) := by rw [h]
theorem ret1 {k : IntKind} {a b : Int} (h : a = b) : Ending.returned (.int k a) = .returned (.int k b) := by rw [h]
theorem ret1s {a b : ByteArray} (h : a = b) : Ending.returned (.string a) = .returned (.string b) := by rw [h]

theorem size_any (x : Int) (h0 : 0 ≤ x) (h1 : x ≤ 18446744073709551615) (z : Int) (hz : Hid (z = ((put1 x.toNat).length : Nat))) (w : World) :
    Calls Try.prog 14 #[.int .u64 x] w fun e w' => e = .returned (.int .i64 z) ∧ w' = w := by
  have hten : (put1 x.toNat).length ≤ 10 := put1_ten (by omega)
  have hz10 : z ≤ 10 := by rw [hz.out]; omega
  go_enter Try.func14, Try.ntmps14
  go_wp2_with fail
  go_loop [0, 3] (fun t u => ∃ y s : Int, 0 ≤ y ∧ y ≤ 18446744073709551615 ∧ 1 ≤ s ∧ s ≤ 10 ∧ t = .int .u64 y ∧ u = .int .i64 s ∧ Hid (z = s - 1 + ((put1 y.toNat).length : Nat))) (fun t _ => (intOf t).toNat)
  case atStart => exact ⟨x, 1, h0, h1, by omega, by omega, rfl, rfl, by show _ = _; rw [hz.out]; omega⟩
  case round =>
    obtain ⟨y, s, y0, y1, s1, s2, rfl, rfl, HR⟩ := hrel
    have hp := put1_pos y.toNat
    by_cases hy : y < 128
    · have hy' : ¬ 128 ≤ y := by omega
      go_wp2_with fail
      go_ret
      exact ⟨ret1 (by rw [HR.out, put1_small (by omega)]; simp), rfl⟩
    · have hy' : 128 ≤ y := by omega
      have hq : (y / 128).toNat = y.toNat / 128 := by omega
      have HS : Hid (z = s + 1 - 1 + ((put1 (y / 128).toNat).length : Nat)) := by show _ = _; rw [HR.out, put1_step (by omega), hq, List.length_cons]; omega
      have hp2 := put1_pos (y / 128).toNat
      have hs9 : s + 1 ≤ 10 := by have := HS.out; omega
      go_wp2_with fail
      go_round
      case rel => exact ⟨y / 128, s + 1, by omega, by omega, by omega, hs9, by go_num, by go_num, HS⟩
      case measure => simp [intOf]; omega

/-- A signed number as one without a sign, and back. -/
def zigN (n : Int) : Int := if 0 ≤ n then 2 * n else -2 * n - 1
def zagN (x : Int) : Int := if x % 2 = 0 then x / 2 else -(x / 2) - 1
theorem zag_zig (n : Int) : zagN (zigN n) = n := by unfold zagN zigN; split <;> split <;> omega
theorem zig_zag (x : Int) (h : 0 ≤ x) : zigN (zagN x) = x := by unfold zagN zigN; split <;> split <;> omega
theorem zigN_bd (n : Int) (h0 : -9223372036854775808 ≤ n) (h1 : n ≤ 9223372036854775807) : 0 ≤ zigN n ∧ zigN n ≤ 18446744073709551615 := by unfold zigN; split <;> omega
theorem zagN_bd (x : Int) (h0 : 0 ≤ x) (h1 : x ≤ 18446744073709551615) : -9223372036854775808 ≤ zagN x ∧ zagN x ≤ 9223372036854775807 := by unfold zagN; split <;> omega

theorem zig_any (n : Int) (h0 : -9223372036854775808 ≤ n) (h1 : n ≤ 9223372036854775807) (w : World) :
    Calls Try.prog 20 #[.int .i64 n] w fun e w' => e = .returned (.int .u64 (zigN n)) ∧ w' = w := by
  by_cases hn : n < 0
  · have HN : Hid (bits .xor .u64 IntKind.u64.max (n % 18446744073709551616 * 2 % 18446744073709551616) = zigN n) := by
      show _ = _
      rw [not64 _ (by omega) (by omega)]
      unfold zigN
      rw [if_neg (by omega)]
      omega
    go_enter Try.func20, Try.ntmps20
    go_wp2_with fail
    go_ret
    exact ⟨ret1 (by simp only [IntKind.wrap_u64]; exact HN.out), rfl⟩
  · go_enter Try.func20, Try.ntmps20
    go_wp2_with fail
    go_ret
    exact ⟨ret1 (by unfold zigN; rw [if_pos (by omega)]; (try simp only [IntKind.wrap_u64]); omega), rfl⟩
theorem rzig_any (n : Int) (h0 : -9223372036854775808 ≤ n) (h1 : n ≤ 9223372036854775807) (w : World) :
    Calls Try.prog 21 #[.int .i64 n] w fun e w' => e = .returned (.int .u64 (zigN n)) ∧ w' = w := by
  by_cases hn : n < 0
  · have hn' : ¬ 0 ≤ n := by omega
    go_enter Try.func21, Try.ntmps21
    go_wp2_with fail
    go_ret
    exact ⟨ret1 (by unfold zigN; rw [if_neg (by omega)]; (try simp only [IntKind.wrap_u64]); omega), rfl⟩
  · have hn' : 0 ≤ n := by omega
    go_enter Try.func21, Try.ntmps21
    go_wp2_with fail
    go_ret
    exact ⟨ret1 (by unfold zigN; rw [if_pos (by omega)]; (try simp only [IntKind.wrap_u64]); omega), rfl⟩
theorem zag_any (x : Int) (h0 : 0 ≤ x) (h1 : x ≤ 18446744073709551615) (w : World) :
    Calls Try.prog 16 #[.int .u64 x] w fun e w' => e = .returned (.int .i64 (zagN x)) ∧ w' = w := by
  have hand := and1 x h0 h1
  have hnot := noti64 (x / 2) (by omega) (by omega)
  by_cases hn : x % 2 = 1
  · go_enter Try.func16, Try.ntmps16
    go_wp2_with fail
    go_ret
    exact ⟨ret1 (by unfold zagN; rw [if_neg (by omega)]; try simp only [hnot]), rfl⟩
  · go_enter Try.func16, Try.ntmps16
    go_wp2_with fail
    go_ret
    exact ⟨ret1 (by unfold zagN; rw [if_pos (by omega)]), rfl⟩
theorem rzag_any (x : Int) (h0 : 0 ≤ x) (h1 : x ≤ 18446744073709551615) (w : World) :
    Calls Try.prog 17 #[.int .u64 x] w fun e w' => e = .returned (.int .i64 (zagN x)) ∧ w' = w := by
  by_cases hn : x % 2 = 0
  · go_enter Try.func17, Try.ntmps17
    go_wp2_with fail
    go_ret
    exact ⟨ret1 (by unfold zagN; rw [if_pos (by omega)]), rfl⟩
  · go_enter Try.func17, Try.ntmps17
    go_wp2_with fail
    go_ret
    exact ⟨ret1 (by unfold zagN; rw [if_neg (by omega)]), rfl⟩

/-- May a number's last byte be this one? -/
def endB (c i : Int) : Bool := decide (¬ ((i = 9 ∧ c ≠ 1) ∨ (c = 0 ∧ 0 < i)))
theorem endEq {P Q : Prop} [Decidable P] [Decidable Q] (h : P ↔ Q) : decide P = decide Q := by simp [h]
theorem mayEnd_any (c i : Int) (c0 : 0 ≤ c) (c1 : c ≤ 255) (i0 : 0 ≤ i) (i1 : i ≤ 9) (w : World) :
    Calls Try.prog 35 #[.int .u8 c, .int .i64 i] w fun e w' => e = .returned (.bool (endB c i)) ∧ w' = w := by
  by_cases hi : i = 9
  · by_cases hc : c = 1
    · subst hi hc
      go_enter Try.func35, Try.ntmps35
      go_wp2_with fail
      go_ret
      exact ⟨retb (by decide), rfl⟩
    · go_enter Try.func35, Try.ntmps35
      go_wp2_with fail
      go_ret
      exact ⟨retb (endEq (by omega)), rfl⟩
  · by_cases hc : c = 0
    · by_cases h0 : i = 0
      · subst hc h0
        go_enter Try.func35, Try.ntmps35
        go_wp2_with fail
        go_ret
        exact ⟨retb (by decide), rfl⟩
      · go_enter Try.func35, Try.ntmps35
        go_wp2_with fail
        go_ret
        exact ⟨retb (endEq (by omega)), rfl⟩
    · go_enter Try.func35, Try.ntmps35
      go_wp2_with fail
      go_ret
      exact ⟨retb (by unfold endB; exact (decide_eq_true (by omega)).symm), rfl⟩

/-! ### The check -/
theorem iv {k : IntKind} {a b : Int} (h : a = b) : Value.int k a = .int k b := by rw [h]
theorem sum_step (c : Nat) (x : UInt8) (hc : c < 4294967296) : bits .xor .u32 (c : Int) ((x.toNat : Int) % 4294967296) * 16777619 % 4294967296 = ((sumStep c x : Nat) : Int) := by
  have hx := x.toNat_lt
  rw [show (x.toNat : Int) % 4294967296 = ((x.toNat : Nat) : Int) by omega, u32_xor_nat _ _ hc (by omega)]
  unfold sumStep
  omega
theorem rsum_step (c : Nat) (x : UInt8) (hc : c < 4294967296) : (IntKind.u64.wrap (bits .xor .u64 (c : Int) (IntKind.u64.wrap (x.toNat : Int)) * 16777619)).tmod 4294967296 = ((sumStep c x : Nat) : Int) := by
  have hx := x.toNat_lt
  have h2 := xor_lt hc x
  have hw : IntKind.u64.wrap (x.toNat : Int) = ((x.toNat : Nat) : Int) := by rw [IntKind.wrap_u64]; omega
  rw [hw, u64_xor_nat _ _ (by omega) (by omega), IntKind.wrap_u64, Int.tmod_eq_emod_of_nonneg (by omega)]
  unfold sumStep
  omega
theorem sumL_nil : sumL [] = 2166136261 := by unfold sumL; exact List.foldl_nil
theorem sumL_start (l : List UInt8) : (2166136261 : Int) = ((sumL (l.take 0) : Nat) : Int) := by
  have h : sumL (l.take 0) = 2166136261 := sumL_nil
  omega
theorem sum_any (s : ByteArray) (hs : s.size ≤ 140737488355328) (w : World) :
    Calls Try.prog 22 #[.string s] w fun e w' => e = .returned (.int .u32 (sumL s.data.toList : Nat)) ∧ w' = w := by
  go_enter Try.func22, Try.ntmps22
  go_wp2_with fail
  go_loop [3, 7] (fun c i => ∃ (k : Nat) (d : Int), k ≤ s.size ∧ i = .int .i64 k ∧ c = .int .u32 d ∧ Hid (d = (sumL (s.data.toList.take k) : Nat))) (fun _ i => s.size - (intOf i).toNat)
  case atStart => exact ⟨0, 2166136261, by omega, rfl, rfl, sumL_start _⟩
  case round =>
    obtain ⟨k, d, hk, rfl, rfl, HD⟩ := hrel
    by_cases hlt : k < s.size
    · have hstep := sum_step (sumL (s.data.toList.take k)) s[k] (sumL_lt _)
      rw [← HD.out, ← sumL_snoc, ← take_at s k hlt] at hstep
      go_wp2_with fail
      go_round
      case rel => exact ⟨k + 1, (sumL (s.data.toList.take (k + 1)) : Nat), by omega, by go_num, by rw [hstep], rfl⟩
      case measure => simp [intOf]; omega
    · go_wp2_with fail
      go_ret
      exact ⟨ret1 (by rw [HD.out, List.take_of_length_le (by rw [len_of]; omega)]), rfl⟩
theorem rsum_any (s : ByteArray) (hs : s.size ≤ 140737488355328) (w : World) :
    Calls Try.prog 23 #[.string s] w fun e w' => e = .returned (.int .u32 (sumL s.data.toList : Nat)) ∧ w' = w := by
  go_enter Try.func23, Try.ntmps23
  go_wp2_with fail
  go_loop [3, 4] (fun c i => ∃ (k : Nat) (d : Int), k ≤ s.size ∧ i = .int .i64 k ∧ c = .int .u64 d ∧ Hid (d = (sumL (s.data.toList.take k) : Nat))) (fun _ i => s.size - (intOf i).toNat)
  case atStart => exact ⟨0, 2166136261, by omega, rfl, rfl, sumL_start _⟩
  case round =>
    obtain ⟨k, d, hk, rfl, rfl, HD⟩ := hrel
    have hlt2 := sumL_lt (s.data.toList.take k)
    have hd0 : 0 ≤ d := by rw [HD.out]; omega
    have hd1 : d < 4294967296 := by rw [HD.out]; omega
    by_cases hlt : k < s.size
    · have hstep := rsum_step (sumL (s.data.toList.take k)) s[k] (sumL_lt _)
      rw [← HD.out, ← sumL_snoc, ← take_at s k hlt] at hstep
      go_wp2_with fail
      go_round
      case rel => exact ⟨k + 1, (sumL (s.data.toList.take (k + 1)) : Nat), by omega, by go_num, rfl, rfl⟩
      case measure => simp [intOf]; omega
    · go_wp2_with fail
      go_ret
      exact ⟨ret1 (by rw [HD.out, List.take_of_length_le (by rw [len_of]; omega)] ), rfl⟩
end Go.Proofs.Ytldipdbcmehioaa
