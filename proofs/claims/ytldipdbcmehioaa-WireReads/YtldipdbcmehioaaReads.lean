/-
  The walk of the statement WireReads.
-/
import Derived.Test.YtldipdbcmehioaaWorks
namespace Go.Proofs.Ytldipdbcmehioaa
open Go.RowKit

set_option maxRecDepth 100000 in
set_option maxHeartbeats 1000000 in
theorem reads_any (s : ByteArray) (a : Int) (w : World) :
    Calls Try.prog 4 #[.string s, .int .i64 a] w fun e w' => e = .returned (.bool true) ∧ Below w.heap.size w w' := by
  have cW := works_any w
  by_cases hbig : (s.size : Int) ≤ 33554431
  · have hs : s.size ≤ 1099511627776 := by omega
    have c1 := fun w => take_any s a hs w
    have c2 := fun w => rtake_any s a hs w
    have c3 := fun w => takeText_any s a hs w
    have c4 := fun w => rtakeText_any s a hs w
    have c5 := fun w => unframe_any s a hs w
    have c6 := fun w => runframe_any s a hs w
    generalize ((takeN s.data.toList a : Nat) : Int) = n1 at c1 c2
    generalize takeP s.data.toList a = p1 at c1 c2
    generalize ((takeE s.data.toList a : Nat) : Int) = e1 at c1 c2
    generalize bytes (textS s.data.toList a) = n2 at c3 c4
    generalize textP s.data.toList a = p2 at c3 c4
    generalize ((textE s.data.toList a : Nat) : Int) = e2 at c3 c4
    generalize bytes (unS s.data.toList a) = n3 at c5 c6
    generalize unP s.data.toList a = p3 at c5 c6
    generalize ((unE s.data.toList a : Nat) : Int) = e3 at c5 c6
    have hbig' : ¬ 33554431 < (s.size : Int) := by omega
    go_enter Try.func4, Try.ntmps4
    go_wp2_with fail
    refine cW.mono ?_
    rintro e w1 ⟨rfl, hb1⟩
    go_wp2_with fail
    refine (c1 _).mono ?_
    rintro e w2 ⟨rfl, rfl⟩
    go_wp2_with fail
    refine (c2 _).mono ?_
    rintro e w2 ⟨rfl, rfl⟩
    go_wp2_with fail
    refine (c3 _).mono ?_
    rintro e w2 ⟨rfl, rfl⟩
    go_wp2_with fail
    refine (c4 _).mono ?_
    rintro e w2 ⟨rfl, rfl⟩
    go_wp2_with fail
    refine (c5 _).mono ?_
    rintro e w3 ⟨rfl, hb3⟩
    go_wp2_with fail
    refine (c6 _).mono ?_
    rintro e w4 ⟨rfl, hb4⟩
    go_wp2_with fail
    go_ret
    exact ⟨rfl, below2 (below2 hb1 hb3) hb4⟩
  · have hbig' : 33554431 < (s.size : Int) := by omega
    go_enter Try.func4, Try.ntmps4
    go_wp2_with fail
    refine cW.mono ?_
    rintro e w1 ⟨rfl, hb1⟩
    go_wp2_with fail
    go_ret
    exact ⟨rfl, hb1⟩
end Go.Proofs.Ytldipdbcmehioaa
