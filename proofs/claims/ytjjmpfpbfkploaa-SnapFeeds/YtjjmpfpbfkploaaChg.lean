/-
  Walks of the document's change.
-/
import Derived.Test.YtjjmpfpbfkploaaOpd
namespace Go.Proofs.Ytjjmpfpbfkploaa
open Go.RowKit
set_option linter.unusedSimpArgs false

set_option maxHeartbeats 2000000 in
theorem change_2 (id ot cl ho si pr qt wa c r : Int) (hr : Hid (chgN ⟨2, id, ot, cl, ho, si, pr, qt, wa⟩ c = r)) (w : World) : Calls Try.prog 31 #[.agg (evA ⟨2, id, ot, cl, ho, si, pr, qt, wa⟩), .int .i64 c] w fun e w' => e = .returned (.int .i64 r) ∧ Below w.heap.size w w' := by
  have hR := EvAt.new w ⟨2, id, ot, cl, ho, si, pr, qt, wa⟩ 70
  have hB := below_new w (.cells (evA ⟨2, id, ot, cl, ho, si, pr, qt, wa⟩) 70)
  unfold evA at *
  dsimp only at *
  obtain ⟨W, hW⟩ : ∃ W, w.alloc (.cells #[.int .u8 2, .int .i64 id, .int .i64 ot, .int .i64 cl, .int .i64 ho, .int .u8 si, .int .i64 pr, .int .i64 qt, .int .i64 wa] 70) = W := ⟨_, rfl⟩
  rw [hW] at hR hB
  obtain ⟨c0, c1, c2, c3, c4, c5, c6, c7, c8⟩ := hR
  simp only [Nat.zero_add] at c0 c1 c2 c3 c4 c5 c6 c7 c8
  by_cases b1 : inB qt 1000000000 = true
  · by_cases b2 : inB wa 1000000000 = true
    · have p := inB_iff.1 b1
      have q := inB_iff.1 b2
      have p1 := p.1; have p2 := p.2; have q1 := q.1; have q2 := q.2
      by_cases ho' : ho = c
      · have eo : (ho == c) = true := by simp [ho']
        have en : (ho != c) = false := by simp [ho']
        have hz : Hid (-qt = r) := by
          show _ = _
          rw [← hr.out]; unfold chgN; simp [b1, b2, ho']
        clear hr ho' p q b1 b2
        go_enter Try.func31, Try.ntmps31
        go_wp2
        go_ret
        exact ⟨retI hz.out, hB⟩
      · have eo : (ho == c) = false := beq_false_of_ne ho'
        have en : (ho != c) = true := by simp [ho']
        have hz : Hid ((0 : Int) = r) := by
          show _ = _
          rw [← hr.out]; unfold chgN; simp [b1, b2, ho']
        clear hr ho' p q b1 b2
        go_enter Try.func31, Try.ntmps31
        go_wp2
        go_ret
        exact ⟨retI hz.out, hB⟩
    · have hz : Hid ((0 : Int) = r) := by
        show _ = _
        rw [← hr.out]; unfold chgN; simp [b2]
      have nb : qt < 0 ∨ 1000000000 < qt ∨ wa < 0 ∨ 1000000000 < wa := by have h : ¬ (0 ≤ wa ∧ wa ≤ 1000000000) := fun h => b2 (inB_iff.2 h); omega
      clear hr b1 b2
      go_enter Try.func31, Try.ntmps31
      go_wp2
      all_goals first
        | (exfalso; omega)
        | (go_ret
           exact ⟨retI hz.out, hB⟩)
  · have hz : Hid ((0 : Int) = r) := by
      show _ = _
      rw [← hr.out]; unfold chgN; simp [b1]
    have nb : qt < 0 ∨ 1000000000 < qt ∨ wa < 0 ∨ 1000000000 < wa := by have h : ¬ (0 ≤ qt ∧ qt ≤ 1000000000) := fun h => b1 (inB_iff.2 h); omega
    clear hr b1
    go_enter Try.func31, Try.ntmps31
    go_wp2
    all_goals first
      | (exfalso; omega)
      | (go_ret
         exact ⟨retI hz.out, hB⟩)
set_option maxHeartbeats 2000000 in
theorem change_3 (id ot cl ho si pr qt wa c r : Int) (hr : Hid (chgN ⟨3, id, ot, cl, ho, si, pr, qt, wa⟩ c = r)) (w : World) : Calls Try.prog 31 #[.agg (evA ⟨3, id, ot, cl, ho, si, pr, qt, wa⟩), .int .i64 c] w fun e w' => e = .returned (.int .i64 r) ∧ Below w.heap.size w w' := by
  have hR := EvAt.new w ⟨3, id, ot, cl, ho, si, pr, qt, wa⟩ 70
  have hB := below_new w (.cells (evA ⟨3, id, ot, cl, ho, si, pr, qt, wa⟩) 70)
  unfold evA at *
  dsimp only at *
  obtain ⟨W, hW⟩ : ∃ W, w.alloc (.cells #[.int .u8 3, .int .i64 id, .int .i64 ot, .int .i64 cl, .int .i64 ho, .int .u8 si, .int .i64 pr, .int .i64 qt, .int .i64 wa] 70) = W := ⟨_, rfl⟩
  rw [hW] at hR hB
  obtain ⟨c0, c1, c2, c3, c4, c5, c6, c7, c8⟩ := hR
  simp only [Nat.zero_add] at c0 c1 c2 c3 c4 c5 c6 c7 c8
  by_cases b1 : inB qt 1000000000 = true
  · by_cases b2 : inB wa 1000000000 = true
    · have p := inB_iff.1 b1
      have q := inB_iff.1 b2
      have p1 := p.1; have p2 := p.2; have q1 := q.1; have q2 := q.2
      by_cases ho' : cl = c
      · have eo : (cl == c) = true := by simp [ho']
        have en : (cl != c) = false := by simp [ho']
        have hz : Hid (-qt = r) := by
          show _ = _
          rw [← hr.out]; unfold chgN; simp [b1, b2, ho']
        clear hr ho' p q b1 b2
        go_enter Try.func31, Try.ntmps31
        go_wp2
        go_ret
        exact ⟨retI hz.out, hB⟩
      · have eo : (cl == c) = false := beq_false_of_ne ho'
        have en : (cl != c) = true := by simp [ho']
        have hz : Hid ((0 : Int) = r) := by
          show _ = _
          rw [← hr.out]; unfold chgN; simp [b1, b2, ho']
        clear hr ho' p q b1 b2
        go_enter Try.func31, Try.ntmps31
        go_wp2
        go_ret
        exact ⟨retI hz.out, hB⟩
    · have hz : Hid ((0 : Int) = r) := by
        show _ = _
        rw [← hr.out]; unfold chgN; simp [b2]
      have nb : qt < 0 ∨ 1000000000 < qt ∨ wa < 0 ∨ 1000000000 < wa := by have h : ¬ (0 ≤ wa ∧ wa ≤ 1000000000) := fun h => b2 (inB_iff.2 h); omega
      clear hr b1 b2
      go_enter Try.func31, Try.ntmps31
      go_wp2
      all_goals first
        | (exfalso; omega)
        | (go_ret
           exact ⟨retI hz.out, hB⟩)
  · have hz : Hid ((0 : Int) = r) := by
      show _ = _
      rw [← hr.out]; unfold chgN; simp [b1]
    have nb : qt < 0 ∨ 1000000000 < qt ∨ wa < 0 ∨ 1000000000 < wa := by have h : ¬ (0 ≤ qt ∧ qt ≤ 1000000000) := fun h => b1 (inB_iff.2 h); omega
    clear hr b1
    go_enter Try.func31, Try.ntmps31
    go_wp2
    all_goals first
      | (exfalso; omega)
      | (go_ret
         exact ⟨retI hz.out, hB⟩)
set_option maxHeartbeats 2000000 in
theorem change_4 (id ot cl ho si pr qt wa c r : Int) (hr : Hid (chgN ⟨4, id, ot, cl, ho, si, pr, qt, wa⟩ c = r)) (w : World) : Calls Try.prog 31 #[.agg (evA ⟨4, id, ot, cl, ho, si, pr, qt, wa⟩), .int .i64 c] w fun e w' => e = .returned (.int .i64 r) ∧ Below w.heap.size w w' := by
  have hR := EvAt.new w ⟨4, id, ot, cl, ho, si, pr, qt, wa⟩ 70
  have hB := below_new w (.cells (evA ⟨4, id, ot, cl, ho, si, pr, qt, wa⟩) 70)
  unfold evA at *
  dsimp only at *
  obtain ⟨W, hW⟩ : ∃ W, w.alloc (.cells #[.int .u8 4, .int .i64 id, .int .i64 ot, .int .i64 cl, .int .i64 ho, .int .u8 si, .int .i64 pr, .int .i64 qt, .int .i64 wa] 70) = W := ⟨_, rfl⟩
  rw [hW] at hR hB
  obtain ⟨c0, c1, c2, c3, c4, c5, c6, c7, c8⟩ := hR
  simp only [Nat.zero_add] at c0 c1 c2 c3 c4 c5 c6 c7 c8
  by_cases b1 : inB qt 1000000000 = true
  · by_cases b2 : inB wa 1000000000 = true
    · have p := inB_iff.1 b1
      have q := inB_iff.1 b2
      have p1 := p.1; have p2 := p.2; have q1 := q.1; have q2 := q.2
      by_cases ho' : cl = c
      · have eo : (cl == c) = true := by simp [ho']
        have en : (cl != c) = false := by simp [ho']
        have hz : Hid (-qt = r) := by
          show _ = _
          rw [← hr.out]; unfold chgN; simp [b1, b2, ho']
        clear hr ho' p q b1 b2
        go_enter Try.func31, Try.ntmps31
        go_wp2
        go_ret
        exact ⟨retI hz.out, hB⟩
      · have eo : (cl == c) = false := beq_false_of_ne ho'
        have en : (cl != c) = true := by simp [ho']
        have hz : Hid ((0 : Int) = r) := by
          show _ = _
          rw [← hr.out]; unfold chgN; simp [b1, b2, ho']
        clear hr ho' p q b1 b2
        go_enter Try.func31, Try.ntmps31
        go_wp2
        go_ret
        exact ⟨retI hz.out, hB⟩
    · have hz : Hid ((0 : Int) = r) := by
        show _ = _
        rw [← hr.out]; unfold chgN; simp [b2]
      have nb : qt < 0 ∨ 1000000000 < qt ∨ wa < 0 ∨ 1000000000 < wa := by have h : ¬ (0 ≤ wa ∧ wa ≤ 1000000000) := fun h => b2 (inB_iff.2 h); omega
      clear hr b1 b2
      go_enter Try.func31, Try.ntmps31
      go_wp2
      all_goals first
        | (exfalso; omega)
        | (go_ret
           exact ⟨retI hz.out, hB⟩)
  · have hz : Hid ((0 : Int) = r) := by
      show _ = _
      rw [← hr.out]; unfold chgN; simp [b1]
    have nb : qt < 0 ∨ 1000000000 < qt ∨ wa < 0 ∨ 1000000000 < wa := by have h : ¬ (0 ≤ qt ∧ qt ≤ 1000000000) := fun h => b1 (inB_iff.2 h); omega
    clear hr b1
    go_enter Try.func31, Try.ntmps31
    go_wp2
    all_goals first
      | (exfalso; omega)
      | (go_ret
         exact ⟨retI hz.out, hB⟩)
set_option maxHeartbeats 2000000 in
theorem change_6 (id ot cl ho si pr qt wa c r : Int) (hr : Hid (chgN ⟨6, id, ot, cl, ho, si, pr, qt, wa⟩ c = r)) (w : World) : Calls Try.prog 31 #[.agg (evA ⟨6, id, ot, cl, ho, si, pr, qt, wa⟩), .int .i64 c] w fun e w' => e = .returned (.int .i64 r) ∧ Below w.heap.size w w' := by
  have hR := EvAt.new w ⟨6, id, ot, cl, ho, si, pr, qt, wa⟩ 70
  have hB := below_new w (.cells (evA ⟨6, id, ot, cl, ho, si, pr, qt, wa⟩) 70)
  unfold evA at *
  dsimp only at *
  obtain ⟨W, hW⟩ : ∃ W, w.alloc (.cells #[.int .u8 6, .int .i64 id, .int .i64 ot, .int .i64 cl, .int .i64 ho, .int .u8 si, .int .i64 pr, .int .i64 qt, .int .i64 wa] 70) = W := ⟨_, rfl⟩
  rw [hW] at hR hB
  obtain ⟨c0, c1, c2, c3, c4, c5, c6, c7, c8⟩ := hR
  simp only [Nat.zero_add] at c0 c1 c2 c3 c4 c5 c6 c7 c8
  by_cases b1 : inB qt 1000000000 = true
  · by_cases b2 : inB wa 1000000000 = true
    · have p := inB_iff.1 b1
      have q := inB_iff.1 b2
      have p1 := p.1; have p2 := p.2; have q1 := q.1; have q2 := q.2
      by_cases ho' : cl = c
      · have eo : (cl == c) = true := by simp [ho']
        have en : (cl != c) = false := by simp [ho']
        have hz : Hid (qt = r) := by
          show _ = _
          rw [← hr.out]; unfold chgN; simp [b1, b2, ho']
        clear hr ho' p q b1 b2
        go_enter Try.func31, Try.ntmps31
        go_wp2
        go_ret
        exact ⟨retI hz.out, hB⟩
      · have eo : (cl == c) = false := beq_false_of_ne ho'
        have en : (cl != c) = true := by simp [ho']
        have hz : Hid ((0 : Int) = r) := by
          show _ = _
          rw [← hr.out]; unfold chgN; simp [b1, b2, ho']
        clear hr ho' p q b1 b2
        go_enter Try.func31, Try.ntmps31
        go_wp2
        go_ret
        exact ⟨retI hz.out, hB⟩
    · have hz : Hid ((0 : Int) = r) := by
        show _ = _
        rw [← hr.out]; unfold chgN; simp [b2]
      have nb : qt < 0 ∨ 1000000000 < qt ∨ wa < 0 ∨ 1000000000 < wa := by have h : ¬ (0 ≤ wa ∧ wa ≤ 1000000000) := fun h => b2 (inB_iff.2 h); omega
      clear hr b1 b2
      go_enter Try.func31, Try.ntmps31
      go_wp2
      all_goals first
        | (exfalso; omega)
        | (go_ret
           exact ⟨retI hz.out, hB⟩)
  · have hz : Hid ((0 : Int) = r) := by
      show _ = _
      rw [← hr.out]; unfold chgN; simp [b1]
    have nb : qt < 0 ∨ 1000000000 < qt ∨ wa < 0 ∨ 1000000000 < wa := by have h : ¬ (0 ≤ qt ∧ qt ≤ 1000000000) := fun h => b1 (inB_iff.2 h); omega
    clear hr b1
    go_enter Try.func31, Try.ntmps31
    go_wp2
    all_goals first
      | (exfalso; omega)
      | (go_ret
         exact ⟨retI hz.out, hB⟩)
set_option maxHeartbeats 2000000 in
theorem change_7 (id ot cl ho si pr qt wa c r : Int) (hr : Hid (chgN ⟨7, id, ot, cl, ho, si, pr, qt, wa⟩ c = r)) (w : World) : Calls Try.prog 31 #[.agg (evA ⟨7, id, ot, cl, ho, si, pr, qt, wa⟩), .int .i64 c] w fun e w' => e = .returned (.int .i64 r) ∧ Below w.heap.size w w' := by
  have hR := EvAt.new w ⟨7, id, ot, cl, ho, si, pr, qt, wa⟩ 70
  have hB := below_new w (.cells (evA ⟨7, id, ot, cl, ho, si, pr, qt, wa⟩) 70)
  unfold evA at *
  dsimp only at *
  obtain ⟨W, hW⟩ : ∃ W, w.alloc (.cells #[.int .u8 7, .int .i64 id, .int .i64 ot, .int .i64 cl, .int .i64 ho, .int .u8 si, .int .i64 pr, .int .i64 qt, .int .i64 wa] 70) = W := ⟨_, rfl⟩
  rw [hW] at hR hB
  obtain ⟨c0, c1, c2, c3, c4, c5, c6, c7, c8⟩ := hR
  simp only [Nat.zero_add] at c0 c1 c2 c3 c4 c5 c6 c7 c8
  by_cases b1 : inB qt 1000000000 = true
  · by_cases b2 : inB wa 1000000000 = true
    · have p := inB_iff.1 b1
      have q := inB_iff.1 b2
      have p1 := p.1; have p2 := p.2; have q1 := q.1; have q2 := q.2
      by_cases ho' : cl = c
      · have eo : (cl == c) = true := by simp [ho']
        have en : (cl != c) = false := by simp [ho']
        have hz : Hid (-wa = r) := by
          show _ = _
          rw [← hr.out]; unfold chgN; simp [b1, b2, ho']
        clear hr ho' p q b1 b2
        go_enter Try.func31, Try.ntmps31
        go_wp2
        go_ret
        exact ⟨retI hz.out, hB⟩
      · have eo : (cl == c) = false := beq_false_of_ne ho'
        have en : (cl != c) = true := by simp [ho']
        have hz : Hid ((0 : Int) = r) := by
          show _ = _
          rw [← hr.out]; unfold chgN; simp [b1, b2, ho']
        clear hr ho' p q b1 b2
        go_enter Try.func31, Try.ntmps31
        go_wp2
        go_ret
        exact ⟨retI hz.out, hB⟩
    · have hz : Hid ((0 : Int) = r) := by
        show _ = _
        rw [← hr.out]; unfold chgN; simp [b2]
      have nb : qt < 0 ∨ 1000000000 < qt ∨ wa < 0 ∨ 1000000000 < wa := by have h : ¬ (0 ≤ wa ∧ wa ≤ 1000000000) := fun h => b2 (inB_iff.2 h); omega
      clear hr b1 b2
      go_enter Try.func31, Try.ntmps31
      go_wp2
      all_goals first
        | (exfalso; omega)
        | (go_ret
           exact ⟨retI hz.out, hB⟩)
  · have hz : Hid ((0 : Int) = r) := by
      show _ = _
      rw [← hr.out]; unfold chgN; simp [b1]
    have nb : qt < 0 ∨ 1000000000 < qt ∨ wa < 0 ∨ 1000000000 < wa := by have h : ¬ (0 ≤ qt ∧ qt ≤ 1000000000) := fun h => b1 (inB_iff.2 h); omega
    clear hr b1
    go_enter Try.func31, Try.ntmps31
    go_wp2
    all_goals first
      | (exfalso; omega)
      | (go_ret
         exact ⟨retI hz.out, hB⟩)
set_option maxHeartbeats 2000000 in
theorem change_8 (id ot cl ho si pr qt wa c r : Int) (hr : Hid (chgN ⟨8, id, ot, cl, ho, si, pr, qt, wa⟩ c = r)) (w : World) : Calls Try.prog 31 #[.agg (evA ⟨8, id, ot, cl, ho, si, pr, qt, wa⟩), .int .i64 c] w fun e w' => e = .returned (.int .i64 r) ∧ Below w.heap.size w w' := by
  have hR := EvAt.new w ⟨8, id, ot, cl, ho, si, pr, qt, wa⟩ 70
  have hB := below_new w (.cells (evA ⟨8, id, ot, cl, ho, si, pr, qt, wa⟩) 70)
  unfold evA at *
  dsimp only at *
  obtain ⟨W, hW⟩ : ∃ W, w.alloc (.cells #[.int .u8 8, .int .i64 id, .int .i64 ot, .int .i64 cl, .int .i64 ho, .int .u8 si, .int .i64 pr, .int .i64 qt, .int .i64 wa] 70) = W := ⟨_, rfl⟩
  rw [hW] at hR hB
  obtain ⟨c0, c1, c2, c3, c4, c5, c6, c7, c8⟩ := hR
  simp only [Nat.zero_add] at c0 c1 c2 c3 c4 c5 c6 c7 c8
  by_cases b1 : inB qt 1000000000 = true
  · by_cases b2 : inB wa 1000000000 = true
    · have p := inB_iff.1 b1
      have q := inB_iff.1 b2
      have p1 := p.1; have p2 := p.2; have q1 := q.1; have q2 := q.2
      by_cases ho' : cl = c
      · have eo : (cl == c) = true := by simp [ho']
        have en : (cl != c) = false := by simp [ho']
        have hz : Hid (qt - wa = r) := by
          show _ = _
          rw [← hr.out]; unfold chgN; simp [b1, b2, ho']
        clear hr ho' p q b1 b2
        go_enter Try.func31, Try.ntmps31
        go_wp2
        go_ret
        exact ⟨retI hz.out, hB⟩
      · have eo : (cl == c) = false := beq_false_of_ne ho'
        have en : (cl != c) = true := by simp [ho']
        have hz : Hid ((0 : Int) = r) := by
          show _ = _
          rw [← hr.out]; unfold chgN; simp [b1, b2, ho']
        clear hr ho' p q b1 b2
        go_enter Try.func31, Try.ntmps31
        go_wp2
        go_ret
        exact ⟨retI hz.out, hB⟩
    · have hz : Hid ((0 : Int) = r) := by
        show _ = _
        rw [← hr.out]; unfold chgN; simp [b2]
      have nb : qt < 0 ∨ 1000000000 < qt ∨ wa < 0 ∨ 1000000000 < wa := by have h : ¬ (0 ≤ wa ∧ wa ≤ 1000000000) := fun h => b2 (inB_iff.2 h); omega
      clear hr b1 b2
      go_enter Try.func31, Try.ntmps31
      go_wp2
      all_goals first
        | (exfalso; omega)
        | (go_ret
           exact ⟨retI hz.out, hB⟩)
  · have hz : Hid ((0 : Int) = r) := by
      show _ = _
      rw [← hr.out]; unfold chgN; simp [b1]
    have nb : qt < 0 ∨ 1000000000 < qt ∨ wa < 0 ∨ 1000000000 < wa := by have h : ¬ (0 ≤ qt ∧ qt ≤ 1000000000) := fun h => b1 (inB_iff.2 h); omega
    clear hr b1
    go_enter Try.func31, Try.ntmps31
    go_wp2
    all_goals first
      | (exfalso; omega)
      | (go_ret
         exact ⟨retI hz.out, hB⟩)
set_option maxHeartbeats 2000000 in
theorem change_o (wh id ot cl ho si pr qt wa c r : Int) (e2 : (wh == 2) = false) (e3 : (wh == 3) = false) (e4 : (wh == 4) = false) (e6 : (wh == 6) = false) (e7 : (wh == 7) = false) (e8 : (wh == 8) = false) (hr : Hid (chgN ⟨wh, id, ot, cl, ho, si, pr, qt, wa⟩ c = r)) (w : World) : Calls Try.prog 31 #[.agg (evA ⟨wh, id, ot, cl, ho, si, pr, qt, wa⟩), .int .i64 c] w fun e w' => e = .returned (.int .i64 r) ∧ Below w.heap.size w w' := by
  have hR := EvAt.new w ⟨wh, id, ot, cl, ho, si, pr, qt, wa⟩ 70
  have hB := below_new w (.cells (evA ⟨wh, id, ot, cl, ho, si, pr, qt, wa⟩) 70)
  unfold evA at *
  dsimp only at *
  obtain ⟨W, hW⟩ : ∃ W, w.alloc (.cells #[.int .u8 wh, .int .i64 id, .int .i64 ot, .int .i64 cl, .int .i64 ho, .int .u8 si, .int .i64 pr, .int .i64 qt, .int .i64 wa] 70) = W := ⟨_, rfl⟩
  rw [hW] at hR hB
  obtain ⟨c0, c1, c2, c3, c4, c5, c6, c7, c8⟩ := hR
  simp only [Nat.zero_add] at c0 c1 c2 c3 c4 c5 c6 c7 c8
  have n2 : ¬ wh = 2 := by simpa using e2
  have n3 : ¬ wh = 3 := by simpa using e3
  have n4 : ¬ wh = 4 := by simpa using e4
  have n6 : ¬ wh = 6 := by simpa using e6
  have n7 : ¬ wh = 7 := by simpa using e7
  have n8 : ¬ wh = 8 := by simpa using e8
  by_cases b1 : inB qt 1000000000 = true
  · by_cases b2 : inB wa 1000000000 = true
    · have p := inB_iff.1 b1
      have q := inB_iff.1 b2
      have p1 := p.1; have p2 := p.2; have q1 := q.1; have q2 := q.2
      by_cases ho' : cl = c
      · have eo : (cl == c) = true := by simp [ho']
        have en : (cl != c) = false := by simp [ho']
        have hz : Hid ((0 : Int) = r) := by
          show _ = _
          rw [← hr.out]; unfold chgN; simp [b1, b2, ho', n2, n3, n4, n6, n7, n8]
        clear hr n2 n3 n4 n6 n7 n8 ho' p q b1 b2
        go_enter Try.func31, Try.ntmps31
        go_wp2
        go_ret
        exact ⟨retI hz.out, hB⟩
      · have eo : (cl == c) = false := beq_false_of_ne ho'
        have en : (cl != c) = true := by simp [ho']
        have hz : Hid ((0 : Int) = r) := by
          show _ = _
          rw [← hr.out]; unfold chgN; simp [b1, b2, ho', n2, n3, n4, n6, n7, n8]
        clear hr n2 n3 n4 n6 n7 n8 ho' p q b1 b2
        go_enter Try.func31, Try.ntmps31
        go_wp2
        go_ret
        exact ⟨retI hz.out, hB⟩
    · have hz : Hid ((0 : Int) = r) := by
        show _ = _
        rw [← hr.out]; unfold chgN; simp [b2]
      have nb : qt < 0 ∨ 1000000000 < qt ∨ wa < 0 ∨ 1000000000 < wa := by have h : ¬ (0 ≤ wa ∧ wa ≤ 1000000000) := fun h => b2 (inB_iff.2 h); omega
      clear hr n2 n3 n4 n6 n7 n8 b1 b2
      go_enter Try.func31, Try.ntmps31
      go_wp2
      all_goals first
        | (exfalso; omega)
        | (go_ret
           exact ⟨retI hz.out, hB⟩)
  · have hz : Hid ((0 : Int) = r) := by
      show _ = _
      rw [← hr.out]; unfold chgN; simp [b1]
    have nb : qt < 0 ∨ 1000000000 < qt ∨ wa < 0 ∨ 1000000000 < wa := by have h : ¬ (0 ≤ qt ∧ qt ≤ 1000000000) := fun h => b1 (inB_iff.2 h); omega
    clear hr n2 n3 n4 n6 n7 n8 b1
    go_enter Try.func31, Try.ntmps31
    go_wp2
    all_goals first
      | (exfalso; omega)
      | (go_ret
         exact ⟨retI hz.out, hB⟩)
theorem change_any (e : Ev) (c : Int) (w : World) : Calls Try.prog 31 #[.agg (evA e), .int .i64 c] w fun x w' => x = .returned (.int .i64 (chgN e c)) ∧ Below w.heap.size w w' := by
  obtain ⟨wh, id, ot, cl, ho, si, pr, qt, wa⟩ := e
  by_cases h2 : wh = 2
  · subst h2; exact change_2 id ot cl ho si pr qt wa c _ rfl w
  by_cases h3 : wh = 3
  · subst h3; exact change_3 id ot cl ho si pr qt wa c _ rfl w
  by_cases h4 : wh = 4
  · subst h4; exact change_4 id ot cl ho si pr qt wa c _ rfl w
  by_cases h6 : wh = 6
  · subst h6; exact change_6 id ot cl ho si pr qt wa c _ rfl w
  by_cases h7 : wh = 7
  · subst h7; exact change_7 id ot cl ho si pr qt wa c _ rfl w
  by_cases h8 : wh = 8
  · subst h8; exact change_8 id ot cl ho si pr qt wa c _ rfl w
  exact change_o wh id ot cl ho si pr qt wa c _ (beq_false_of_ne h2) (beq_false_of_ne h3) (beq_false_of_ne h4) (beq_false_of_ne h6) (beq_false_of_ne h7) (beq_false_of_ne h8) rfl w
end Go.Proofs.Ytjjmpfpbfkploaa
