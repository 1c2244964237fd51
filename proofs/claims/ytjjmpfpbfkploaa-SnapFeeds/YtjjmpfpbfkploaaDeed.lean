/-
  The walk of deed.
-/
import Derived.Test.YtjjmpfpbfkploaaNums
import Derived.Laws.EntriesVeiled
namespace Go.Proofs.Ytjjmpfpbfkploaa
open Go.RowKit
/-- What deed hands back. -/
def dv (k : Int) : Nat := if k = 1 then 43 else if k = 2 then 44 else if k = 3 then 45 else if k = 4 then 46 else if k = 5 then 47 else 48
set_option maxHeartbeats 1000000 in
theorem deed_any (k : Int) (k0 : 0 ≤ k) (k1 : k ≤ 255) (w : World) : Calls Try.prog 27 #[.int .u8 k] w fun e w' => e = .returned (.func (.func (dv k)) #[] #[]) ∧ Below w.heap.size w w' := by
  by_cases h1 : k = 1
  · subst h1
    go_enter Try.func27, Try.ntmps27
    go_wp2
    go_ret
    exact ⟨rfl, below_new w _⟩
  by_cases h2 : k = 2
  · subst h2
    go_enter Try.func27, Try.ntmps27
    go_wp2
    go_ret
    exact ⟨rfl, below_new w _⟩
  by_cases h3 : k = 3
  · subst h3
    go_enter Try.func27, Try.ntmps27
    go_wp2
    go_ret
    exact ⟨rfl, below_new w _⟩
  by_cases h4 : k = 4
  · subst h4
    go_enter Try.func27, Try.ntmps27
    go_wp2
    go_ret
    exact ⟨rfl, below_new w _⟩
  by_cases h5 : k = 5
  · subst h5
    go_enter Try.func27, Try.ntmps27
    go_wp2
    go_ret
    exact ⟨rfl, below_new w _⟩
  have hd : dv k = 48 := by unfold dv; simp [h1, h2, h3, h4, h5]
  by_cases h6 : k < 1
  · go_enter Try.func27, Try.ntmps27
    go_wp2
    all_goals go_ret
    all_goals exact ⟨by first | rfl | (rw [hd]; rfl), below_new w _⟩
  · have h7 : 6 ≤ k := by omega
    have h8 : 1 ≤ k := by omega
    go_enter Try.func27, Try.ntmps27
    go_wp2
    all_goals go_ret
    all_goals exact ⟨by first | rfl | (rw [hd]; rfl), below_new w _⟩
end Go.Proofs.Ytjjmpfpbfkploaa
