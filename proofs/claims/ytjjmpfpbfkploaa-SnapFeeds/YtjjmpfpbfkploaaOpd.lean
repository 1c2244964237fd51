/-
  Walks of opened and of the document's change: by how much an event changes what a client has open.
-/
import Derived.Test.YtjjmpfpbfkploaaLs
namespace Go.Proofs.Ytjjmpfpbfkploaa
open Go.RowKit
set_option linter.unusedSimpArgs false

def chgN (e : Ev) (c : Int) : Int :=
  if inB e.qt 1000000000 = false then 0
  else if inB e.wa 1000000000 = false then 0
  else if e.wh = 2 then (if e.ho = c then -e.qt else 0)
  else if ¬ e.cl = c then 0
  else if e.wh = 3 then -e.qt
  else if e.wh = 4 then -e.qt
  else if e.wh = 6 then e.qt
  else if e.wh = 7 then -e.wa
  else if e.wh = 8 then e.qt - e.wa
  else 0
theorem lots_b {n : Int} {b : Bool} (hb : inB n 1000000000 = b) (w : World) : Calls Try.prog 49 #[.int .i64 n] w fun e w' => e = .returned (.bool b) ∧ w' = w := by
  subst hb
  go_enter Try.func49, Try.ntmps49
  go_wp2
  · go_ret
    exact ⟨retB (by unfold inB; rw [decide_eq_true (show (0 : Int) ≤ n by omega)]; rfl), rfl⟩
  · go_ret
    exact ⟨retB (inB_f (by omega)).symm, rfl⟩

set_option maxHeartbeats 2000000 in
theorem opened_2 (id ot cl ho si pr qt wa c r : Int) (hr : Hid (chgN ⟨2, id, ot, cl, ho, si, pr, qt, wa⟩ c = r)) (w : World) : Calls Try.prog 29 #[.agg (evA ⟨2, id, ot, cl, ho, si, pr, qt, wa⟩), .int .i64 c] w fun e w' => e = .returned (.int .i64 r) ∧ Below w.heap.size w w' := by
  have hR := EvAt.new w ⟨2, id, ot, cl, ho, si, pr, qt, wa⟩ 70
  have hB := below_new w (.cells (evA ⟨2, id, ot, cl, ho, si, pr, qt, wa⟩) 70)
  unfold evA at *
  dsimp only at *
  obtain ⟨W, hW⟩ : ∃ W, w.alloc (.cells #[.int .u8 2, .int .i64 id, .int .i64 ot, .int .i64 cl, .int .i64 ho, .int .u8 si, .int .i64 pr, .int .i64 qt, .int .i64 wa] 70) = W := ⟨_, rfl⟩
  rw [hW] at hR hB
  obtain ⟨c0, c1, c2, c3, c4, c5, c6, c7, c8⟩ := hR
  simp only [Nat.zero_add] at c0 c1 c2 c3 c4 c5 c6 c7 c8
  by_cases ho' : ho = c
  · have eo : (ho == c) = true := by simp [ho']
    have en : (ho != c) = false := by simp [ho']
    cases b1 : inB qt 1000000000
    · have hz : Hid ((0 : Int) = r) := by
        show _ = _
        rw [← hr.out]; unfold chgN; simp [b1]
      have mk : Hid True := trivial
      clear hr ho'
      go_enter Try.func29, Try.ntmps29
      go_wp2_with (go_at_call 49; first | (clear mk; refine (lots_b b1 _).mono ?_; rintro e w' ⟨rfl, rfl⟩) | (refine (lots_b b2 _).mono ?_; rintro e w' ⟨rfl, rfl⟩))
      go_ret
      exact ⟨retI hz.out, hB⟩
    · cases b2 : inB wa 1000000000
      · have hz : Hid ((0 : Int) = r) := by
          show _ = _
          rw [← hr.out]; unfold chgN; simp [b2]
        have mk : Hid True := trivial
        clear hr ho'
        go_enter Try.func29, Try.ntmps29
        go_wp2_with (go_at_call 49; first | (clear mk; refine (lots_b b1 _).mono ?_; rintro e w' ⟨rfl, rfl⟩) | (refine (lots_b b2 _).mono ?_; rintro e w' ⟨rfl, rfl⟩))
        go_ret
        exact ⟨retI hz.out, hB⟩
      · have p := inB_iff.1 b1
        have q := inB_iff.1 b2
        have p1 := p.1; have p2 := p.2; have q1 := q.1; have q2 := q.2
        have hz : Hid (-qt = r) := by
          show _ = _
          rw [← hr.out]; unfold chgN; simp [b1, b2, ho']
        have mk : Hid True := trivial
        clear hr ho' p q
        go_enter Try.func29, Try.ntmps29
        go_wp2_with (go_at_call 49; first | (clear mk; refine (lots_b b1 _).mono ?_; rintro e w' ⟨rfl, rfl⟩) | (refine (lots_b b2 _).mono ?_; rintro e w' ⟨rfl, rfl⟩))
        go_ret
        exact ⟨retI hz.out, hB⟩
  · have eo : (ho == c) = false := beq_false_of_ne ho'
    have en : (ho != c) = true := by simp [ho']
    have hz : Hid ((0 : Int) = r) := by
      show _ = _
      rw [← hr.out]; unfold chgN; simp [ho']
    clear hr ho'
    go_enter Try.func29, Try.ntmps29
    go_wp2_with fail
    go_ret
    exact ⟨retI hz.out, hB⟩
set_option maxHeartbeats 2000000 in
theorem opened_3 (id ot cl ho si pr qt wa c r : Int) (hr : Hid (chgN ⟨3, id, ot, cl, ho, si, pr, qt, wa⟩ c = r)) (w : World) : Calls Try.prog 29 #[.agg (evA ⟨3, id, ot, cl, ho, si, pr, qt, wa⟩), .int .i64 c] w fun e w' => e = .returned (.int .i64 r) ∧ Below w.heap.size w w' := by
  have hR := EvAt.new w ⟨3, id, ot, cl, ho, si, pr, qt, wa⟩ 70
  have hB := below_new w (.cells (evA ⟨3, id, ot, cl, ho, si, pr, qt, wa⟩) 70)
  unfold evA at *
  dsimp only at *
  obtain ⟨W, hW⟩ : ∃ W, w.alloc (.cells #[.int .u8 3, .int .i64 id, .int .i64 ot, .int .i64 cl, .int .i64 ho, .int .u8 si, .int .i64 pr, .int .i64 qt, .int .i64 wa] 70) = W := ⟨_, rfl⟩
  rw [hW] at hR hB
  obtain ⟨c0, c1, c2, c3, c4, c5, c6, c7, c8⟩ := hR
  simp only [Nat.zero_add] at c0 c1 c2 c3 c4 c5 c6 c7 c8
  by_cases ho' : cl = c
  · have eo : (cl == c) = true := by simp [ho']
    have en : (cl != c) = false := by simp [ho']
    cases b1 : inB qt 1000000000
    · have hz : Hid ((0 : Int) = r) := by
        show _ = _
        rw [← hr.out]; unfold chgN; simp [b1]
      have mk : Hid True := trivial
      clear hr ho'
      go_enter Try.func29, Try.ntmps29
      go_wp2_with (go_at_call 49; first | (clear mk; refine (lots_b b1 _).mono ?_; rintro e w' ⟨rfl, rfl⟩) | (refine (lots_b b2 _).mono ?_; rintro e w' ⟨rfl, rfl⟩))
      go_ret
      exact ⟨retI hz.out, hB⟩
    · cases b2 : inB wa 1000000000
      · have hz : Hid ((0 : Int) = r) := by
          show _ = _
          rw [← hr.out]; unfold chgN; simp [b2]
        have mk : Hid True := trivial
        clear hr ho'
        go_enter Try.func29, Try.ntmps29
        go_wp2_with (go_at_call 49; first | (clear mk; refine (lots_b b1 _).mono ?_; rintro e w' ⟨rfl, rfl⟩) | (refine (lots_b b2 _).mono ?_; rintro e w' ⟨rfl, rfl⟩))
        go_ret
        exact ⟨retI hz.out, hB⟩
      · have p := inB_iff.1 b1
        have q := inB_iff.1 b2
        have p1 := p.1; have p2 := p.2; have q1 := q.1; have q2 := q.2
        have hz : Hid (-qt = r) := by
          show _ = _
          rw [← hr.out]; unfold chgN; simp [b1, b2, ho']
        have mk : Hid True := trivial
        clear hr ho' p q
        go_enter Try.func29, Try.ntmps29
        go_wp2_with (go_at_call 49; first | (clear mk; refine (lots_b b1 _).mono ?_; rintro e w' ⟨rfl, rfl⟩) | (refine (lots_b b2 _).mono ?_; rintro e w' ⟨rfl, rfl⟩))
        go_ret
        exact ⟨retI hz.out, hB⟩
  · have eo : (cl == c) = false := beq_false_of_ne ho'
    have en : (cl != c) = true := by simp [ho']
    have hz : Hid ((0 : Int) = r) := by
      show _ = _
      rw [← hr.out]; unfold chgN; simp [ho']
    clear hr ho'
    go_enter Try.func29, Try.ntmps29
    go_wp2_with fail
    go_ret
    exact ⟨retI hz.out, hB⟩
set_option maxHeartbeats 2000000 in
theorem opened_4 (id ot cl ho si pr qt wa c r : Int) (hr : Hid (chgN ⟨4, id, ot, cl, ho, si, pr, qt, wa⟩ c = r)) (w : World) : Calls Try.prog 29 #[.agg (evA ⟨4, id, ot, cl, ho, si, pr, qt, wa⟩), .int .i64 c] w fun e w' => e = .returned (.int .i64 r) ∧ Below w.heap.size w w' := by
  have hR := EvAt.new w ⟨4, id, ot, cl, ho, si, pr, qt, wa⟩ 70
  have hB := below_new w (.cells (evA ⟨4, id, ot, cl, ho, si, pr, qt, wa⟩) 70)
  unfold evA at *
  dsimp only at *
  obtain ⟨W, hW⟩ : ∃ W, w.alloc (.cells #[.int .u8 4, .int .i64 id, .int .i64 ot, .int .i64 cl, .int .i64 ho, .int .u8 si, .int .i64 pr, .int .i64 qt, .int .i64 wa] 70) = W := ⟨_, rfl⟩
  rw [hW] at hR hB
  obtain ⟨c0, c1, c2, c3, c4, c5, c6, c7, c8⟩ := hR
  simp only [Nat.zero_add] at c0 c1 c2 c3 c4 c5 c6 c7 c8
  by_cases ho' : cl = c
  · have eo : (cl == c) = true := by simp [ho']
    have en : (cl != c) = false := by simp [ho']
    cases b1 : inB qt 1000000000
    · have hz : Hid ((0 : Int) = r) := by
        show _ = _
        rw [← hr.out]; unfold chgN; simp [b1]
      have mk : Hid True := trivial
      clear hr ho'
      go_enter Try.func29, Try.ntmps29
      go_wp2_with (go_at_call 49; first | (clear mk; refine (lots_b b1 _).mono ?_; rintro e w' ⟨rfl, rfl⟩) | (refine (lots_b b2 _).mono ?_; rintro e w' ⟨rfl, rfl⟩))
      go_ret
      exact ⟨retI hz.out, hB⟩
    · cases b2 : inB wa 1000000000
      · have hz : Hid ((0 : Int) = r) := by
          show _ = _
          rw [← hr.out]; unfold chgN; simp [b2]
        have mk : Hid True := trivial
        clear hr ho'
        go_enter Try.func29, Try.ntmps29
        go_wp2_with (go_at_call 49; first | (clear mk; refine (lots_b b1 _).mono ?_; rintro e w' ⟨rfl, rfl⟩) | (refine (lots_b b2 _).mono ?_; rintro e w' ⟨rfl, rfl⟩))
        go_ret
        exact ⟨retI hz.out, hB⟩
      · have p := inB_iff.1 b1
        have q := inB_iff.1 b2
        have p1 := p.1; have p2 := p.2; have q1 := q.1; have q2 := q.2
        have hz : Hid (-qt = r) := by
          show _ = _
          rw [← hr.out]; unfold chgN; simp [b1, b2, ho']
        have mk : Hid True := trivial
        clear hr ho' p q
        go_enter Try.func29, Try.ntmps29
        go_wp2_with (go_at_call 49; first | (clear mk; refine (lots_b b1 _).mono ?_; rintro e w' ⟨rfl, rfl⟩) | (refine (lots_b b2 _).mono ?_; rintro e w' ⟨rfl, rfl⟩))
        go_ret
        exact ⟨retI hz.out, hB⟩
  · have eo : (cl == c) = false := beq_false_of_ne ho'
    have en : (cl != c) = true := by simp [ho']
    have hz : Hid ((0 : Int) = r) := by
      show _ = _
      rw [← hr.out]; unfold chgN; simp [ho']
    clear hr ho'
    go_enter Try.func29, Try.ntmps29
    go_wp2_with fail
    go_ret
    exact ⟨retI hz.out, hB⟩
set_option maxHeartbeats 2000000 in
theorem opened_6 (id ot cl ho si pr qt wa c r : Int) (hr : Hid (chgN ⟨6, id, ot, cl, ho, si, pr, qt, wa⟩ c = r)) (w : World) : Calls Try.prog 29 #[.agg (evA ⟨6, id, ot, cl, ho, si, pr, qt, wa⟩), .int .i64 c] w fun e w' => e = .returned (.int .i64 r) ∧ Below w.heap.size w w' := by
  have hR := EvAt.new w ⟨6, id, ot, cl, ho, si, pr, qt, wa⟩ 70
  have hB := below_new w (.cells (evA ⟨6, id, ot, cl, ho, si, pr, qt, wa⟩) 70)
  unfold evA at *
  dsimp only at *
  obtain ⟨W, hW⟩ : ∃ W, w.alloc (.cells #[.int .u8 6, .int .i64 id, .int .i64 ot, .int .i64 cl, .int .i64 ho, .int .u8 si, .int .i64 pr, .int .i64 qt, .int .i64 wa] 70) = W := ⟨_, rfl⟩
  rw [hW] at hR hB
  obtain ⟨c0, c1, c2, c3, c4, c5, c6, c7, c8⟩ := hR
  simp only [Nat.zero_add] at c0 c1 c2 c3 c4 c5 c6 c7 c8
  by_cases ho' : cl = c
  · have eo : (cl == c) = true := by simp [ho']
    have en : (cl != c) = false := by simp [ho']
    cases b1 : inB qt 1000000000
    · have hz : Hid ((0 : Int) = r) := by
        show _ = _
        rw [← hr.out]; unfold chgN; simp [b1]
      have mk : Hid True := trivial
      clear hr ho'
      go_enter Try.func29, Try.ntmps29
      go_wp2_with (go_at_call 49; first | (clear mk; refine (lots_b b1 _).mono ?_; rintro e w' ⟨rfl, rfl⟩) | (refine (lots_b b2 _).mono ?_; rintro e w' ⟨rfl, rfl⟩))
      go_ret
      exact ⟨retI hz.out, hB⟩
    · cases b2 : inB wa 1000000000
      · have hz : Hid ((0 : Int) = r) := by
          show _ = _
          rw [← hr.out]; unfold chgN; simp [b2]
        have mk : Hid True := trivial
        clear hr ho'
        go_enter Try.func29, Try.ntmps29
        go_wp2_with (go_at_call 49; first | (clear mk; refine (lots_b b1 _).mono ?_; rintro e w' ⟨rfl, rfl⟩) | (refine (lots_b b2 _).mono ?_; rintro e w' ⟨rfl, rfl⟩))
        go_ret
        exact ⟨retI hz.out, hB⟩
      · have p := inB_iff.1 b1
        have q := inB_iff.1 b2
        have p1 := p.1; have p2 := p.2; have q1 := q.1; have q2 := q.2
        have hz : Hid (qt = r) := by
          show _ = _
          rw [← hr.out]; unfold chgN; simp [b1, b2, ho']
        have mk : Hid True := trivial
        clear hr ho' p q
        go_enter Try.func29, Try.ntmps29
        go_wp2_with (go_at_call 49; first | (clear mk; refine (lots_b b1 _).mono ?_; rintro e w' ⟨rfl, rfl⟩) | (refine (lots_b b2 _).mono ?_; rintro e w' ⟨rfl, rfl⟩))
        go_ret
        exact ⟨retI hz.out, hB⟩
  · have eo : (cl == c) = false := beq_false_of_ne ho'
    have en : (cl != c) = true := by simp [ho']
    have hz : Hid ((0 : Int) = r) := by
      show _ = _
      rw [← hr.out]; unfold chgN; simp [ho']
    clear hr ho'
    go_enter Try.func29, Try.ntmps29
    go_wp2_with fail
    go_ret
    exact ⟨retI hz.out, hB⟩
set_option maxHeartbeats 2000000 in
theorem opened_7 (id ot cl ho si pr qt wa c r : Int) (hr : Hid (chgN ⟨7, id, ot, cl, ho, si, pr, qt, wa⟩ c = r)) (w : World) : Calls Try.prog 29 #[.agg (evA ⟨7, id, ot, cl, ho, si, pr, qt, wa⟩), .int .i64 c] w fun e w' => e = .returned (.int .i64 r) ∧ Below w.heap.size w w' := by
  have hR := EvAt.new w ⟨7, id, ot, cl, ho, si, pr, qt, wa⟩ 70
  have hB := below_new w (.cells (evA ⟨7, id, ot, cl, ho, si, pr, qt, wa⟩) 70)
  unfold evA at *
  dsimp only at *
  obtain ⟨W, hW⟩ : ∃ W, w.alloc (.cells #[.int .u8 7, .int .i64 id, .int .i64 ot, .int .i64 cl, .int .i64 ho, .int .u8 si, .int .i64 pr, .int .i64 qt, .int .i64 wa] 70) = W := ⟨_, rfl⟩
  rw [hW] at hR hB
  obtain ⟨c0, c1, c2, c3, c4, c5, c6, c7, c8⟩ := hR
  simp only [Nat.zero_add] at c0 c1 c2 c3 c4 c5 c6 c7 c8
  by_cases ho' : cl = c
  · have eo : (cl == c) = true := by simp [ho']
    have en : (cl != c) = false := by simp [ho']
    cases b1 : inB qt 1000000000
    · have hz : Hid ((0 : Int) = r) := by
        show _ = _
        rw [← hr.out]; unfold chgN; simp [b1]
      have mk : Hid True := trivial
      clear hr ho'
      go_enter Try.func29, Try.ntmps29
      go_wp2_with (go_at_call 49; first | (clear mk; refine (lots_b b1 _).mono ?_; rintro e w' ⟨rfl, rfl⟩) | (refine (lots_b b2 _).mono ?_; rintro e w' ⟨rfl, rfl⟩))
      go_ret
      exact ⟨retI hz.out, hB⟩
    · cases b2 : inB wa 1000000000
      · have hz : Hid ((0 : Int) = r) := by
          show _ = _
          rw [← hr.out]; unfold chgN; simp [b2]
        have mk : Hid True := trivial
        clear hr ho'
        go_enter Try.func29, Try.ntmps29
        go_wp2_with (go_at_call 49; first | (clear mk; refine (lots_b b1 _).mono ?_; rintro e w' ⟨rfl, rfl⟩) | (refine (lots_b b2 _).mono ?_; rintro e w' ⟨rfl, rfl⟩))
        go_ret
        exact ⟨retI hz.out, hB⟩
      · have p := inB_iff.1 b1
        have q := inB_iff.1 b2
        have p1 := p.1; have p2 := p.2; have q1 := q.1; have q2 := q.2
        have hz : Hid (-wa = r) := by
          show _ = _
          rw [← hr.out]; unfold chgN; simp [b1, b2, ho']
        have mk : Hid True := trivial
        clear hr ho' p q
        go_enter Try.func29, Try.ntmps29
        go_wp2_with (go_at_call 49; first | (clear mk; refine (lots_b b1 _).mono ?_; rintro e w' ⟨rfl, rfl⟩) | (refine (lots_b b2 _).mono ?_; rintro e w' ⟨rfl, rfl⟩))
        go_ret
        exact ⟨retI hz.out, hB⟩
  · have eo : (cl == c) = false := beq_false_of_ne ho'
    have en : (cl != c) = true := by simp [ho']
    have hz : Hid ((0 : Int) = r) := by
      show _ = _
      rw [← hr.out]; unfold chgN; simp [ho']
    clear hr ho'
    go_enter Try.func29, Try.ntmps29
    go_wp2_with fail
    go_ret
    exact ⟨retI hz.out, hB⟩
set_option maxHeartbeats 2000000 in
theorem opened_8 (id ot cl ho si pr qt wa c r : Int) (hr : Hid (chgN ⟨8, id, ot, cl, ho, si, pr, qt, wa⟩ c = r)) (w : World) : Calls Try.prog 29 #[.agg (evA ⟨8, id, ot, cl, ho, si, pr, qt, wa⟩), .int .i64 c] w fun e w' => e = .returned (.int .i64 r) ∧ Below w.heap.size w w' := by
  have hR := EvAt.new w ⟨8, id, ot, cl, ho, si, pr, qt, wa⟩ 70
  have hB := below_new w (.cells (evA ⟨8, id, ot, cl, ho, si, pr, qt, wa⟩) 70)
  unfold evA at *
  dsimp only at *
  obtain ⟨W, hW⟩ : ∃ W, w.alloc (.cells #[.int .u8 8, .int .i64 id, .int .i64 ot, .int .i64 cl, .int .i64 ho, .int .u8 si, .int .i64 pr, .int .i64 qt, .int .i64 wa] 70) = W := ⟨_, rfl⟩
  rw [hW] at hR hB
  obtain ⟨c0, c1, c2, c3, c4, c5, c6, c7, c8⟩ := hR
  simp only [Nat.zero_add] at c0 c1 c2 c3 c4 c5 c6 c7 c8
  by_cases ho' : cl = c
  · have eo : (cl == c) = true := by simp [ho']
    have en : (cl != c) = false := by simp [ho']
    cases b1 : inB qt 1000000000
    · have hz : Hid ((0 : Int) = r) := by
        show _ = _
        rw [← hr.out]; unfold chgN; simp [b1]
      have mk : Hid True := trivial
      clear hr ho'
      go_enter Try.func29, Try.ntmps29
      go_wp2_with (go_at_call 49; first | (clear mk; refine (lots_b b1 _).mono ?_; rintro e w' ⟨rfl, rfl⟩) | (refine (lots_b b2 _).mono ?_; rintro e w' ⟨rfl, rfl⟩))
      go_ret
      exact ⟨retI hz.out, hB⟩
    · cases b2 : inB wa 1000000000
      · have hz : Hid ((0 : Int) = r) := by
          show _ = _
          rw [← hr.out]; unfold chgN; simp [b2]
        have mk : Hid True := trivial
        clear hr ho'
        go_enter Try.func29, Try.ntmps29
        go_wp2_with (go_at_call 49; first | (clear mk; refine (lots_b b1 _).mono ?_; rintro e w' ⟨rfl, rfl⟩) | (refine (lots_b b2 _).mono ?_; rintro e w' ⟨rfl, rfl⟩))
        go_ret
        exact ⟨retI hz.out, hB⟩
      · have p := inB_iff.1 b1
        have q := inB_iff.1 b2
        have p1 := p.1; have p2 := p.2; have q1 := q.1; have q2 := q.2
        have hz : Hid (qt - wa = r) := by
          show _ = _
          rw [← hr.out]; unfold chgN; simp [b1, b2, ho']
        have mk : Hid True := trivial
        clear hr ho' p q
        go_enter Try.func29, Try.ntmps29
        go_wp2_with (go_at_call 49; first | (clear mk; refine (lots_b b1 _).mono ?_; rintro e w' ⟨rfl, rfl⟩) | (refine (lots_b b2 _).mono ?_; rintro e w' ⟨rfl, rfl⟩))
        go_ret
        exact ⟨retI hz.out, hB⟩
  · have eo : (cl == c) = false := beq_false_of_ne ho'
    have en : (cl != c) = true := by simp [ho']
    have hz : Hid ((0 : Int) = r) := by
      show _ = _
      rw [← hr.out]; unfold chgN; simp [ho']
    clear hr ho'
    go_enter Try.func29, Try.ntmps29
    go_wp2_with fail
    go_ret
    exact ⟨retI hz.out, hB⟩
set_option maxHeartbeats 2000000 in
theorem opened_o (wh id ot cl ho si pr qt wa c r : Int) (e2 : (wh == 2) = false) (e3 : (wh == 3) = false) (e4 : (wh == 4) = false) (e6 : (wh == 6) = false) (e7 : (wh == 7) = false) (e8 : (wh == 8) = false) (hr : Hid (chgN ⟨wh, id, ot, cl, ho, si, pr, qt, wa⟩ c = r)) (w : World) : Calls Try.prog 29 #[.agg (evA ⟨wh, id, ot, cl, ho, si, pr, qt, wa⟩), .int .i64 c] w fun e w' => e = .returned (.int .i64 r) ∧ Below w.heap.size w w' := by
  have hR := EvAt.new w ⟨wh, id, ot, cl, ho, si, pr, qt, wa⟩ 70
  have hB := below_new w (.cells (evA ⟨wh, id, ot, cl, ho, si, pr, qt, wa⟩) 70)
  unfold evA at *
  dsimp only at *
  obtain ⟨W, hW⟩ : ∃ W, w.alloc (.cells #[.int .u8 wh, .int .i64 id, .int .i64 ot, .int .i64 cl, .int .i64 ho, .int .u8 si, .int .i64 pr, .int .i64 qt, .int .i64 wa] 70) = W := ⟨_, rfl⟩
  rw [hW] at hR hB
  obtain ⟨c0, c1, c2, c3, c4, c5, c6, c7, c8⟩ := hR
  simp only [Nat.zero_add] at c0 c1 c2 c3 c4 c5 c6 c7 c8
  have n2 : ¬ wh = 2 := by simpa using e2
  have n3 : ¬ wh = 3 := by simpa using e3
  have n4 : ¬ wh = 4 := by simpa using e4
  have n6 : ¬ wh = 6 := by simpa using e6
  have n7 : ¬ wh = 7 := by simpa using e7
  have n8 : ¬ wh = 8 := by simpa using e8
  by_cases ho' : cl = c
  · have eo : (cl == c) = true := by simp [ho']
    have en : (cl != c) = false := by simp [ho']
    cases b1 : inB qt 1000000000
    · have hz : Hid ((0 : Int) = r) := by
        show _ = _
        rw [← hr.out]; unfold chgN; simp [b1]
      have mk : Hid True := trivial
      clear hr n2 n3 n4 n6 n7 n8 ho'
      go_enter Try.func29, Try.ntmps29
      go_wp2_with (go_at_call 49; first | (clear mk; refine (lots_b b1 _).mono ?_; rintro e w' ⟨rfl, rfl⟩) | (refine (lots_b b2 _).mono ?_; rintro e w' ⟨rfl, rfl⟩))
      go_ret
      exact ⟨retI hz.out, hB⟩
    · cases b2 : inB wa 1000000000
      · have hz : Hid ((0 : Int) = r) := by
          show _ = _
          rw [← hr.out]; unfold chgN; simp [b2]
        have mk : Hid True := trivial
        clear hr n2 n3 n4 n6 n7 n8 ho'
        go_enter Try.func29, Try.ntmps29
        go_wp2_with (go_at_call 49; first | (clear mk; refine (lots_b b1 _).mono ?_; rintro e w' ⟨rfl, rfl⟩) | (refine (lots_b b2 _).mono ?_; rintro e w' ⟨rfl, rfl⟩))
        go_ret
        exact ⟨retI hz.out, hB⟩
      · have p := inB_iff.1 b1
        have q := inB_iff.1 b2
        have p1 := p.1; have p2 := p.2; have q1 := q.1; have q2 := q.2
        have hz : Hid ((0 : Int) = r) := by
          show _ = _
          rw [← hr.out]; unfold chgN; simp [b1, b2, ho', n2, n3, n4, n6, n7, n8]
        have mk : Hid True := trivial
        clear hr n2 n3 n4 n6 n7 n8 ho' p q
        go_enter Try.func29, Try.ntmps29
        go_wp2_with (go_at_call 49; first | (clear mk; refine (lots_b b1 _).mono ?_; rintro e w' ⟨rfl, rfl⟩) | (refine (lots_b b2 _).mono ?_; rintro e w' ⟨rfl, rfl⟩))
        go_ret
        exact ⟨retI hz.out, hB⟩
  · have eo : (cl == c) = false := beq_false_of_ne ho'
    have en : (cl != c) = true := by simp [ho']
    have hz : Hid ((0 : Int) = r) := by
      show _ = _
      rw [← hr.out]; unfold chgN; simp [ho', n2, n3, n4, n6, n7, n8]
    clear hr n2 n3 n4 n6 n7 n8 ho'
    go_enter Try.func29, Try.ntmps29
    go_wp2_with fail
    go_ret
    exact ⟨retI hz.out, hB⟩
theorem opened_any (e : Ev) (c : Int) (w : World) : Calls Try.prog 29 #[.agg (evA e), .int .i64 c] w fun x w' => x = .returned (.int .i64 (chgN e c)) ∧ Below w.heap.size w w' := by
  obtain ⟨wh, id, ot, cl, ho, si, pr, qt, wa⟩ := e
  by_cases h2 : wh = 2
  · subst h2; exact opened_2 id ot cl ho si pr qt wa c _ rfl w
  by_cases h3 : wh = 3
  · subst h3; exact opened_3 id ot cl ho si pr qt wa c _ rfl w
  by_cases h4 : wh = 4
  · subst h4; exact opened_4 id ot cl ho si pr qt wa c _ rfl w
  by_cases h6 : wh = 6
  · subst h6; exact opened_6 id ot cl ho si pr qt wa c _ rfl w
  by_cases h7 : wh = 7
  · subst h7; exact opened_7 id ot cl ho si pr qt wa c _ rfl w
  by_cases h8 : wh = 8
  · subst h8; exact opened_8 id ot cl ho si pr qt wa c _ rfl w
  exact opened_o wh id ot cl ho si pr qt wa c _ (beq_false_of_ne h2) (beq_false_of_ne h3) (beq_false_of_ne h4) (beq_false_of_ne h6) (beq_false_of_ne h7) (beq_false_of_ne h8) rfl w
end Go.Proofs.Ytjjmpfpbfkploaa
