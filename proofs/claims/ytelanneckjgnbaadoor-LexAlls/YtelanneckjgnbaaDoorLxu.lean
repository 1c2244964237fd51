/-
  Two lists of the same texts are the same.
-/
import Derived.Test.YtelanneckjgnbaaDoorLxa
namespace Go.Proofs.YtelanneckjgnbaaDoor
open Go.RowKit

set_option maxHeartbeats 1000000 in
theorem sameX_any (b1 o1 c1 b2 o2 c2 len : Nat) (A : Nat → ByteArray) (w : World) (hmax : len ≤ 1099511627776)
    (h1 : ∀ j, j < len → w.cell? ⟨b1, o1 + j, none⟩ = some (.string (A j))) (h2 : ∀ j, j < len → w.cell? ⟨b2, o2 + j, none⟩ = some (.string (A j))) :
    Calls Tryd.prog 24 #[.slice (some ⟨b1, o1, none⟩) len c1, .slice (some ⟨b2, o2, none⟩) len c2] w fun e w' => e = .returned (.bool true) ∧ ∃ n, w' = w.drewN n := by
  go_enter Tryd.func24, Tryd.ntmps24
  go_wp2
  go_loopw [5] (fun i wr => ∃ (k n : Nat), k ≤ len ∧ i = .int .i64 k ∧ wr = w.drewN n) (fun i _ => len - (intOf i).toNat)
  case atStart => exact ⟨0, 0, by omega, rfl, rfl⟩
  case round =>
    obtain ⟨k, n, hk, rfl, rfl⟩ := hrel
    by_cases hlt : k < len
    · have a0 := h1 k hlt
      have b0 := h2 k hlt
      obtain ⟨x, hx⟩ : ∃ x, A k = x := ⟨_, rfl⟩
      rw [hx] at a0 b0
      have hlt' : (k : Int) < (len : Int) := by omega
      clear h1 h2 hx
      go_wp2
      go_quiet (fail)
      go_wp2
      exact ⟨⟨k + 1, _, by omega, by go_num, rfl⟩, by simp only [intOf]; omega⟩
    · go_wp2
      go_ret
      exact ⟨rfl, n, rfl⟩
end Go.Proofs.YtelanneckjgnbaaDoor
