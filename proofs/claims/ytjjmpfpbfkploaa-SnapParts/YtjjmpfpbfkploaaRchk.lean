/-
  The walk of the document's Check.
-/
import Derived.Test.YtjjmpfpbfkploaaNums
namespace Go.Proofs.Ytjjmpfpbfkploaa
open Go.RowKit

set_option maxHeartbeats 4000000 in
theorem rcheck_any (s : Sn) (w : World) : Calls Try.prog 8 #[.agg (snA s)] w fun e w' => e = .returned (.int .i64 (chkN s)) ∧ Below w.heap.size w w' := by
  have hR := SnAt.new w s 23
  have hB := below_new w (.cells (snA s) 23)
  unfold snA at *
  obtain ⟨W, hW⟩ : ∃ W, w.alloc (.cells #[.int .i64 s.bid, .int .i64 s.ask, .int .i64 s.last, .int .i64 s.vol, .int .i64 s.now, .int .i64 s.opn] 23) = W := ⟨_, rfl⟩
  rw [hW] at hR hB
  obtain ⟨c0, c1, c2, c3, c4, c5⟩ := hR
  go_enter Try.func8, Try.ntmps8
  go_wp2
  all_goals go_ret
  all_goals refine ⟨retI ?_, hB⟩
  all_goals first
    | exact (chk_no (fun m => by
        have q1 := m.b0; have q2 := m.b1; have q3 := m.a0; have q4 := m.a1; have q5 := m.l0; have q6 := m.l1; have q7 := m.v0; have q8 := m.v1; have q9 := m.n0; have r1 := m.n1; have r2 := m.o0; have r3 := m.o1
        first | omega | (simp_all; done) | (simp_all; omega))).symm
    | exact (chk_ok ⟨by omega, by omega, by omega, by omega, by omega, by omega, by omega, by omega, by omega, by omega, by omega, by omega⟩).symm
end Go.Proofs.Ytjjmpfpbfkploaa
