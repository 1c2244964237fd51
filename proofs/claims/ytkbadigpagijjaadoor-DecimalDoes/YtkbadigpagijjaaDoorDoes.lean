/-
  The walk of the statement DecimalDoes.
-/
import Derived.Test.YtkbadigpagijjaaDoorWorks
import Derived.Test.YtkbadigpagijjaaDoorRparse
import Derived.Test.YtkbadigpagijjaaDoorRprint
namespace Go.Proofs.YtkbadigpagijjaaDoor
open Go.RowKit

theorem does_any (s : ByteArray) (n p : Int) (hs0 : s.size ≤ 9223372036854775807) (h0 : -9223372036854775808 ≤ n) (h1 : n ≤ 9223372036854775807) (w : World) (ht : Tab w) :
    Calls Tryd.prog 3 #[.string s, .int .i64 n, .int .i64 p] w fun e w' => e = .returned (.bool true) ∧ Below w.heap.size w w' := by
  have cW := works_any w ht
  by_cases hbig : (s.size : Int) ≤ 1073741824
  · have hs : s.size ≤ 140737488355328 := by omega
    obtain ⟨S, hS⟩ : ∃ S, S = bytes (prL n p) := ⟨_, rfl⟩
    have cP := fun w ht => print_any n p h0 h1 w ht
    have cQ := fun w => rprint_any n p h0 h1 w
    rw [← hS] at cP cQ
    clear hS
    go_enter Tryd.func3, Tryd.ntmps3
    go_wp2_with fail
    refine cW.mono ?_
    rintro e w1 ⟨rfl, hb1⟩
    go_wp2_with fail
    refine (parse_any s p hs _).mono ?_
    rintro e w2 ⟨rfl, rfl⟩
    go_wp2_with fail
    refine (rparse_any s p hs _).mono ?_
    rintro e w3 ⟨rfl, hb3⟩
    go_wp2_with fail
    refine (cP _ ((ht.on hb1).on hb3)).mono ?_
    rintro e w4 ⟨rfl, hb4⟩
    go_wp2_with fail
    refine (cQ _).mono ?_
    rintro e w5 ⟨rfl, hb5⟩
    go_wp2_with fail
    go_ret
    exact ⟨rfl, below2 (below2 (below2 hb1 hb3) hb4) hb5⟩
  · have hbig' : 1073741824 < (s.size : Int) := by omega
    go_enter Tryd.func3, Tryd.ntmps3
    go_wp2_with fail
    refine cW.mono ?_
    rintro e w1 ⟨rfl, hb1⟩
    go_wp2_with fail
    go_ret
    exact ⟨rfl, hb1⟩
end Go.Proofs.YtkbadigpagijjaaDoor
