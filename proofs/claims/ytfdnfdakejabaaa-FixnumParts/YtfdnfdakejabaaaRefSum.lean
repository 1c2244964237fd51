/-
  The walk of the document's answer for Sum: high halves and low halves by themselves.
-/
import Derived.Test.YtfdnfdakejabaaaSum
import Derived.Test.YtfdnfdakejabaaaRef
namespace Go.Proofs.Ytfdnfdakejabaaa
open Go.RowKit

set_option maxHeartbeats 1000000 in
theorem rsum_any (b off len cap : Nat) (zs : List Int) (w : World) (hz : len ≤ zs.length) (hmax : len ≤ 268435455)
    (hc : ∀ j, j < zs.length → w.cell? ⟨b, off + j, none⟩ = some (.int .i64 (zs.getD j 0)))
    (hr : ∀ j : Nat, -9223372036854775808 ≤ zs[j]?.getD 0 ∧ zs[j]?.getD 0 ≤ 9223372036854775807) :
    Calls Try.prog 28 #[.slice (some ⟨b, off, none⟩) len cap] w fun e w' => e = .returned (.tuple #[.int .i64 (fitN (zs.take len).sum), .bool (fitB (zs.take len).sum)]) ∧ w' = w := by
  go_enter Try.func28, Try.ntmps28
  go_wp2
  go_loop [4, 5, 6] (fun hi lo i => ∃ (k : Nat) (H L : Int), k ≤ len ∧ i = .int .i64 k ∧ hi = .int .i64 H ∧ lo = .int .u64 L ∧ -2147483648 * (k : Int) ≤ H ∧ H ≤ 2147483648 * (k : Int) ∧ 0 ≤ L ∧ L ≤ 4294967295 * (k : Int) ∧ Hid (H * 4294967296 + L = (zs.take k).sum)) (fun _ _ i => len - (intOf i).toNat)
  case atStart => exact ⟨0, 0, 0, by omega, rfl, rfl, rfl, by omega, by omega, by omega, by omega, rfl⟩
  case round =>
    obtain ⟨k, H, L, hk, rfl, rfl, rfl, hH1, hH2, hL1, hL2, hT⟩ := hrel
    by_cases hlt : k < len
    · have hcell : w.cell? ⟨b, off + k, none⟩ = some (.int .i64 (zs.getD k 0)) := hc k (by omega)
      have hrk := hr k
      have hTs := take_sum zs k (by omega)
      have hwr : (IntKind.u64.wrap (zs[k]?.getD 0)).tmod 4294967296 = (zs[k]?.getD 0) % 4294967296 := by
        rw [IntKind.wrap_u64, Int.tmod_eq_emod_of_nonneg (by omega)]; omega
      have hT' : Hid ((H + zs[k]?.getD 0 / 4294967296) * 4294967296 + (L + zs[k]?.getD 0 % 4294967296) = (zs.take (k + 1)).sum) := by
        show (H + zs[k]?.getD 0 / 4294967296) * 4294967296 + (L + zs[k]?.getD 0 % 4294967296) = (zs.take (k + 1)).sum
        have := hT.out
        rw [hTs]; omega
      clear hTs hc hr
      go_wp2
      go_round
      case rel => exact ⟨k + 1, _, _, by omega, by go_num, rfl, rfl, by omega, by omega, by omega, by omega, hT'⟩
      case measure => simp only [intOf]; omega
    · have hke : k = len := by omega
      subst hke
      by_cases hf : -9223372036854775808 ≤ (zs.take k).sum ∧ (zs.take k).sum ≤ 9223372036854775807
      · have hb : Hid (fitB (zs.take k).sum = true ∧ fitN (zs.take k).sum = H * 4294967296 + L) := ⟨fitB_true hf.1 hf.2, by rw [fitN_true (fitB_true hf.1 hf.2), hT.out]⟩
        have h1 : -2147483648 ≤ H + L / 4294967296 := by have := hT.out; omega
        have h2 : H + L / 4294967296 ≤ 2147483647 := by have := hT.out; omega
        clear hf
        go_wp2
        go_ret2
        exact ⟨ret2 (by rw [hb.out.2]; omega) hb.out.1.symm, rfl⟩
      · have hb : Hid (fitB (zs.take k).sum = false) := fitB_false (by omega)
        have h1 : H + L / 4294967296 < -2147483648 ∨ 2147483647 < H + L / 4294967296 := by have := hT.out; omega
        clear hf
        go_wp2
        all_goals (go_ret2; exact ⟨ret2 (fitN_false hb.out).symm hb.out.symm, rfl⟩)

set_option maxHeartbeats 1000000 in
theorem rsum_none (a : Option Addr) (cap : Nat) (w : World) :
    Calls Try.prog 28 #[.slice a 0 cap] w fun e w' => e = .returned (.tuple #[.int .i64 0, .bool true]) ∧ w' = w := by
  go_enter Try.func28, Try.ntmps28
  go_wp2
  refine wp_loop_rounds 1 ?_
  rw [rounds_succ]
  go_wp2
  go_ret2
  exact ⟨rfl, rfl⟩
end Go.Proofs.Ytfdnfdakejabaaa
