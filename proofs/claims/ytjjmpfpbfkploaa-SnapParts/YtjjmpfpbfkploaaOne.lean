/-
  The walk of the document's one.
-/
import Derived.Test.YtjjmpfpbfkploaaFg
import Derived.Test.YtjjmpfpbfkploaaRchk
namespace Go.Proofs.Ytjjmpfpbfkploaa
open Go.RowKit

theorem three (w : World) (s r : Sn) (X : Obj) : SnH (((w.alloc (.cells (snA s) 23)).alloc X).alloc (.cells (snA r) 23)) w.heap.size 23 s ∧ SnH (((w.alloc (.cells (snA s) 23)).alloc X).alloc (.cells (snA r) 23)) (w.heap.size + 1 + 1) 23 r ∧ Below w.heap.size w (((w.alloc (.cells (snA s) 23)).alloc X).alloc (.cells (snA r) 23)) := by
  refine ⟨(SnH.new w s 23).on (below_two _ _ _) (by rw [size_alloc]; omega), ?_, (below_two w _ _).alloc (by rw [size_alloc, size_alloc]; omega) _⟩
  have := SnH.new ((w.alloc (.cells (snA s) 23)).alloc X) r 23
  rwa [size_alloc, size_alloc] at this

theorem step_1 (s : Sn) (x : Fd) (hk : x.k = 1) : stepO s x = if 0 ≤ x.a ∧ x.a ≤ 1000000000 then some ⟨x.a, s.ask, s.last, s.vol, s.now, s.opn⟩ else none := by
  unfold stepO
  simp [hk]
set_option maxRecDepth 100000 in
set_option maxHeartbeats 2000000 in
theorem one_1 (s : Sn) (x : Fd) (hs : May s) (hk : x.k = 1) (w : World) : Calls Try.prog 28 #[.agg (snA s), .agg (fdA x)] w fun e w' => Stepped s x e ∧ Below w.heap.size w w' := by
  have key := step_1 s x hk
  obtain ⟨n, hn⟩ : ∃ n : Sn, n = ⟨x.a, s.ask, s.last, s.vol, s.now, s.opn⟩ := ⟨_, rfl⟩
  have hy : Hid (mayB n = true → stepO s x = some n) := by
    intro h
    have m := mayB_iff.1 h
    subst hn
    have p1 := m.b0; have p2 := m.b1; have p3 := m.a0; have p4 := m.a1; have p5 := m.l0; have p6 := m.l1; have p7 := m.v0; have p8 := m.v1; have p9 := m.n0; have o1 := m.n1; have o2 := m.o0; have o3 := m.o1
    dsimp only at p1 p2 p3 p4 p5 p6 p7 p8 p9 o1 o2 o3
    rw [key, if_pos (by omega)]
  have hz : Hid (mayB n = false → stepO s x = none) := by
    intro h
    have q1 := hs.b0; have q2 := hs.b1; have q3 := hs.a0; have q4 := hs.a1; have q5 := hs.l0; have q6 := hs.l1; have q7 := hs.v0; have q8 := hs.v1; have q9 := hs.n0; have r1 := hs.n1; have r2 := hs.o0; have r3 := hs.o1
    rw [key, if_neg]
    intro c
    refine not_may h ?_
    subst hn
    constructor <;> (dsimp only; omega)
  have cC := fun v => rcheck_any n v
  have tt := three w n sn0 (.cells (fdA x) 66)
  skip
  have hn' := hn
  clear key
  subst hn
  unfold snA fdA at *
  rw [hk] at *
  go_enter Try.func28, Try.ntmps28
  go_wp2_with fail
  refine (cC _).mono ?_
  rintro _ v ⟨rfl, bb⟩
  have hS := tt.1.onto bb
  have hR := tt.2.1.onto bb
  have hB := tt.2.2.trans (bb.mono tt.2.2.size)
  have g := hS.at
  have s0 := g.c0; have s1 := g.c1; have s2 := g.c2; have s3 := g.c3; have s4 := g.c4; have s5 := g.c5
  have g' := hR.at
  have r0 := g'.c0; have r1 := g'.c1; have r2 := g'.c2; have r3 := g'.c3; have r4 := g'.c4; have r5 := g'.c5
  obtain ⟨f0, f1, f2, f3, f4, f5⟩ := hR.froz
  have HR := hR.hid
  clear hS hR g g' bb tt cC
  cases hm : mayB ⟨x.a, s.ask, s.last, s.vol, s.now, s.opn⟩
  · rw [chk_f hm]
    go_wp2
    exact bodyPost_ret (results_two (p := 4) (u := 5) (ty := 23) rfl _ _ (w.heap.size + 1 + 1) 23 _ (0, 0) _ rfl (HR.out.put ⟨x.a, s.ask, s.last, s.vol, s.now, s.opn⟩) Try.underlying23 rfl (by kernel_rfl)) rfl ⟨stepped ⟨x.a, s.ask, s.last, s.vol, s.now, s.opn⟩ false (fun h => by cases h) (fun _ => hz.out hm), below_put hB (by omega) _ _ _ _ _ _⟩
  · rw [chk_t hm]
    go_wp2
    exact bodyPost_ret (results_two (p := 4) (u := 5) (ty := 23) rfl _ _ (w.heap.size + 1 + 1) 23 _ (0, 0) _ rfl (HR.out.put ⟨x.a, s.ask, s.last, s.vol, s.now, s.opn⟩) Try.underlying23 rfl (by kernel_rfl)) rfl ⟨stepped ⟨x.a, s.ask, s.last, s.vol, s.now, s.opn⟩ true (fun _ => hy.out hm) (fun h => by cases h), below_put hB (by omega) _ _ _ _ _ _⟩
theorem step_2 (s : Sn) (x : Fd) (hk : x.k = 2) : stepO s x = if 0 ≤ x.a ∧ x.a ≤ 1000000000 then some ⟨s.bid, x.a, s.last, s.vol, s.now, s.opn⟩ else none := by
  unfold stepO
  simp [hk]
set_option maxRecDepth 100000 in
set_option maxHeartbeats 2000000 in
theorem one_2 (s : Sn) (x : Fd) (hs : May s) (hk : x.k = 2) (w : World) : Calls Try.prog 28 #[.agg (snA s), .agg (fdA x)] w fun e w' => Stepped s x e ∧ Below w.heap.size w w' := by
  have key := step_2 s x hk
  obtain ⟨n, hn⟩ : ∃ n : Sn, n = ⟨s.bid, x.a, s.last, s.vol, s.now, s.opn⟩ := ⟨_, rfl⟩
  have hy : Hid (mayB n = true → stepO s x = some n) := by
    intro h
    have m := mayB_iff.1 h
    subst hn
    have p1 := m.b0; have p2 := m.b1; have p3 := m.a0; have p4 := m.a1; have p5 := m.l0; have p6 := m.l1; have p7 := m.v0; have p8 := m.v1; have p9 := m.n0; have o1 := m.n1; have o2 := m.o0; have o3 := m.o1
    dsimp only at p1 p2 p3 p4 p5 p6 p7 p8 p9 o1 o2 o3
    rw [key, if_pos (by omega)]
  have hz : Hid (mayB n = false → stepO s x = none) := by
    intro h
    have q1 := hs.b0; have q2 := hs.b1; have q3 := hs.a0; have q4 := hs.a1; have q5 := hs.l0; have q6 := hs.l1; have q7 := hs.v0; have q8 := hs.v1; have q9 := hs.n0; have r1 := hs.n1; have r2 := hs.o0; have r3 := hs.o1
    rw [key, if_neg]
    intro c
    refine not_may h ?_
    subst hn
    constructor <;> (dsimp only; omega)
  have cC := fun v => rcheck_any n v
  have tt := three w n sn0 (.cells (fdA x) 66)
  skip
  have hn' := hn
  clear key
  subst hn
  unfold snA fdA at *
  rw [hk] at *
  go_enter Try.func28, Try.ntmps28
  go_wp2_with fail
  refine (cC _).mono ?_
  rintro _ v ⟨rfl, bb⟩
  have hS := tt.1.onto bb
  have hR := tt.2.1.onto bb
  have hB := tt.2.2.trans (bb.mono tt.2.2.size)
  have g := hS.at
  have s0 := g.c0; have s1 := g.c1; have s2 := g.c2; have s3 := g.c3; have s4 := g.c4; have s5 := g.c5
  have g' := hR.at
  have r0 := g'.c0; have r1 := g'.c1; have r2 := g'.c2; have r3 := g'.c3; have r4 := g'.c4; have r5 := g'.c5
  obtain ⟨f0, f1, f2, f3, f4, f5⟩ := hR.froz
  have HR := hR.hid
  clear hS hR g g' bb tt cC
  cases hm : mayB ⟨s.bid, x.a, s.last, s.vol, s.now, s.opn⟩
  · rw [chk_f hm]
    go_wp2
    exact bodyPost_ret (results_two (p := 4) (u := 5) (ty := 23) rfl _ _ (w.heap.size + 1 + 1) 23 _ (0, 0) _ rfl (HR.out.put ⟨s.bid, x.a, s.last, s.vol, s.now, s.opn⟩) Try.underlying23 rfl (by kernel_rfl)) rfl ⟨stepped ⟨s.bid, x.a, s.last, s.vol, s.now, s.opn⟩ false (fun h => by cases h) (fun _ => hz.out hm), below_put hB (by omega) _ _ _ _ _ _⟩
  · rw [chk_t hm]
    go_wp2
    exact bodyPost_ret (results_two (p := 4) (u := 5) (ty := 23) rfl _ _ (w.heap.size + 1 + 1) 23 _ (0, 0) _ rfl (HR.out.put ⟨s.bid, x.a, s.last, s.vol, s.now, s.opn⟩) Try.underlying23 rfl (by kernel_rfl)) rfl ⟨stepped ⟨s.bid, x.a, s.last, s.vol, s.now, s.opn⟩ true (fun _ => hy.out hm) (fun h => by cases h), below_put hB (by omega) _ _ _ _ _ _⟩
theorem step_3 (s : Sn) (x : Fd) (hk : x.k = 3) : stepO s x = if 1 ≤ x.a ∧ x.a ≤ 1000000000 ∧ 1 ≤ x.b ∧ x.b ≤ 1000000000 ∧ s.vol + x.b ≤ 1000000000000000 then some ⟨s.bid, s.ask, x.a, s.vol + x.b, s.now, s.opn⟩ else none := by
  unfold stepO
  simp [hk]
set_option maxRecDepth 100000 in
set_option maxHeartbeats 2000000 in
theorem one_3 (s : Sn) (x : Fd) (hs : May s) (hk : x.k = 3) (he : ¬ (x.a < 1 ∨ x.b < 1 ∨ 1000000000 < x.b)) (w : World) : Calls Try.prog 28 #[.agg (snA s), .agg (fdA x)] w fun e w' => Stepped s x e ∧ Below w.heap.size w w' := by
  have key := step_3 s x hk
  obtain ⟨n, hn⟩ : ∃ n : Sn, n = ⟨s.bid, s.ask, x.a, s.vol + x.b, s.now, s.opn⟩ := ⟨_, rfl⟩
  have hy : Hid (mayB n = true → stepO s x = some n) := by
    intro h
    have m := mayB_iff.1 h
    subst hn
    have p1 := m.b0; have p2 := m.b1; have p3 := m.a0; have p4 := m.a1; have p5 := m.l0; have p6 := m.l1; have p7 := m.v0; have p8 := m.v1; have p9 := m.n0; have o1 := m.n1; have o2 := m.o0; have o3 := m.o1
    dsimp only at p1 p2 p3 p4 p5 p6 p7 p8 p9 o1 o2 o3
    rw [key, if_pos (by omega)]
  have hz : Hid (mayB n = false → stepO s x = none) := by
    intro h
    have q1 := hs.b0; have q2 := hs.b1; have q3 := hs.a0; have q4 := hs.a1; have q5 := hs.l0; have q6 := hs.l1; have q7 := hs.v0; have q8 := hs.v1; have q9 := hs.n0; have r1 := hs.n1; have r2 := hs.o0; have r3 := hs.o1
    rw [key, if_neg]
    intro c
    refine not_may h ?_
    subst hn
    constructor <;> (dsimp only; omega)
  have cC := fun v => rcheck_any n v
  have tt := three w n sn0 (.cells (fdA x) 66)
  have v0 := hs.v0; have v1 := hs.v1
  have hn' := hn
  clear key
  subst hn
  unfold snA fdA at *
  rw [hk] at *
  go_enter Try.func28, Try.ntmps28
  go_wp2_with fail
  refine (cC _).mono ?_
  rintro _ v ⟨rfl, bb⟩
  have hS := tt.1.onto bb
  have hR := tt.2.1.onto bb
  have hB := tt.2.2.trans (bb.mono tt.2.2.size)
  have g := hS.at
  have s0 := g.c0; have s1 := g.c1; have s2 := g.c2; have s3 := g.c3; have s4 := g.c4; have s5 := g.c5
  have g' := hR.at
  have r0 := g'.c0; have r1 := g'.c1; have r2 := g'.c2; have r3 := g'.c3; have r4 := g'.c4; have r5 := g'.c5
  obtain ⟨f0, f1, f2, f3, f4, f5⟩ := hR.froz
  have HR := hR.hid
  clear hS hR g g' bb tt cC
  cases hm : mayB ⟨s.bid, s.ask, x.a, s.vol + x.b, s.now, s.opn⟩
  · rw [chk_f hm]
    go_wp2
    exact bodyPost_ret (results_two (p := 4) (u := 5) (ty := 23) rfl _ _ (w.heap.size + 1 + 1) 23 _ (0, 0) _ rfl (HR.out.put ⟨s.bid, s.ask, x.a, s.vol + x.b, s.now, s.opn⟩) Try.underlying23 rfl (by kernel_rfl)) rfl ⟨stepped ⟨s.bid, s.ask, x.a, s.vol + x.b, s.now, s.opn⟩ false (fun h => by cases h) (fun _ => hz.out hm), below_put hB (by omega) _ _ _ _ _ _⟩
  · rw [chk_t hm]
    go_wp2
    exact bodyPost_ret (results_two (p := 4) (u := 5) (ty := 23) rfl _ _ (w.heap.size + 1 + 1) 23 _ (0, 0) _ rfl (HR.out.put ⟨s.bid, s.ask, x.a, s.vol + x.b, s.now, s.opn⟩) Try.underlying23 rfl (by kernel_rfl)) rfl ⟨stepped ⟨s.bid, s.ask, x.a, s.vol + x.b, s.now, s.opn⟩ true (fun _ => hy.out hm) (fun h => by cases h), below_put hB (by omega) _ _ _ _ _ _⟩
set_option maxRecDepth 100000 in
set_option maxHeartbeats 2000000 in
theorem one_3n (s : Sn) (x : Fd) (hs : May s) (hk : x.k = 3) (he : x.a < 1 ∨ x.b < 1 ∨ 1000000000 < x.b) (w : World) : Calls Try.prog 28 #[.agg (snA s), .agg (fdA x)] w fun e w' => Stepped s x e ∧ Below w.heap.size w w' := by
  have key : Hid (stepO s x = none) := by
    have q1 := hs.b0; have q2 := hs.b1; have q3 := hs.a0; have q4 := hs.a1; have q5 := hs.l0; have q6 := hs.l1; have q7 := hs.v0; have q8 := hs.v1; have q9 := hs.n0; have r1 := hs.n1; have r2 := hs.o0; have r3 := hs.o1
    show _ = _
    rw [step_3 s x hk, if_neg (by omega)]
  have tt := three w s s (.cells (fdA x) 66)
  unfold snA fdA at *
  rw [hk] at *
  go_enter Try.func28, Try.ntmps28
  go_wp2_with fail
  all_goals first
    | exact bodyPost_ret (results_two (p := 4) (u := 5) (ty := 23) rfl _ _ (w.heap.size + 1 + 1) 23 _ (0, 0) _ rfl tt.2.1 Try.underlying23 rfl (by kernel_rfl)) rfl ⟨stepped s false (fun h => by cases h) (fun _ => key.out), tt.2.2⟩
    | (exfalso; omega)
theorem step_4 (s : Sn) (x : Fd) (hk : x.k = 4) : stepO s x = if s.now ≤ x.a ∧ x.a ≤ 1000000000000000 then some ⟨s.bid, s.ask, s.last, s.vol, x.a, s.opn⟩ else none := by
  unfold stepO
  simp [hk]
set_option maxRecDepth 100000 in
set_option maxHeartbeats 2000000 in
theorem one_4 (s : Sn) (x : Fd) (hs : May s) (hk : x.k = 4) (he : ¬ (x.a < s.now)) (w : World) : Calls Try.prog 28 #[.agg (snA s), .agg (fdA x)] w fun e w' => Stepped s x e ∧ Below w.heap.size w w' := by
  have key := step_4 s x hk
  obtain ⟨n, hn⟩ : ∃ n : Sn, n = ⟨s.bid, s.ask, s.last, s.vol, x.a, s.opn⟩ := ⟨_, rfl⟩
  have hy : Hid (mayB n = true → stepO s x = some n) := by
    intro h
    have m := mayB_iff.1 h
    subst hn
    have p1 := m.b0; have p2 := m.b1; have p3 := m.a0; have p4 := m.a1; have p5 := m.l0; have p6 := m.l1; have p7 := m.v0; have p8 := m.v1; have p9 := m.n0; have o1 := m.n1; have o2 := m.o0; have o3 := m.o1
    dsimp only at p1 p2 p3 p4 p5 p6 p7 p8 p9 o1 o2 o3
    rw [key, if_pos (by omega)]
  have hz : Hid (mayB n = false → stepO s x = none) := by
    intro h
    have q1 := hs.b0; have q2 := hs.b1; have q3 := hs.a0; have q4 := hs.a1; have q5 := hs.l0; have q6 := hs.l1; have q7 := hs.v0; have q8 := hs.v1; have q9 := hs.n0; have r1 := hs.n1; have r2 := hs.o0; have r3 := hs.o1
    rw [key, if_neg]
    intro c
    refine not_may h ?_
    subst hn
    constructor <;> (dsimp only; omega)
  have cC := fun v => rcheck_any n v
  have tt := three w n sn0 (.cells (fdA x) 66)
  skip
  have hn' := hn
  clear key
  subst hn
  unfold snA fdA at *
  rw [hk] at *
  go_enter Try.func28, Try.ntmps28
  go_wp2_with fail
  refine (cC _).mono ?_
  rintro _ v ⟨rfl, bb⟩
  have hS := tt.1.onto bb
  have hR := tt.2.1.onto bb
  have hB := tt.2.2.trans (bb.mono tt.2.2.size)
  have g := hS.at
  have s0 := g.c0; have s1 := g.c1; have s2 := g.c2; have s3 := g.c3; have s4 := g.c4; have s5 := g.c5
  have g' := hR.at
  have r0 := g'.c0; have r1 := g'.c1; have r2 := g'.c2; have r3 := g'.c3; have r4 := g'.c4; have r5 := g'.c5
  obtain ⟨f0, f1, f2, f3, f4, f5⟩ := hR.froz
  have HR := hR.hid
  clear hS hR g g' bb tt cC
  cases hm : mayB ⟨s.bid, s.ask, s.last, s.vol, x.a, s.opn⟩
  · rw [chk_f hm]
    go_wp2
    exact bodyPost_ret (results_two (p := 4) (u := 5) (ty := 23) rfl _ _ (w.heap.size + 1 + 1) 23 _ (0, 0) _ rfl (HR.out.put ⟨s.bid, s.ask, s.last, s.vol, x.a, s.opn⟩) Try.underlying23 rfl (by kernel_rfl)) rfl ⟨stepped ⟨s.bid, s.ask, s.last, s.vol, x.a, s.opn⟩ false (fun h => by cases h) (fun _ => hz.out hm), below_put hB (by omega) _ _ _ _ _ _⟩
  · rw [chk_t hm]
    go_wp2
    exact bodyPost_ret (results_two (p := 4) (u := 5) (ty := 23) rfl _ _ (w.heap.size + 1 + 1) 23 _ (0, 0) _ rfl (HR.out.put ⟨s.bid, s.ask, s.last, s.vol, x.a, s.opn⟩) Try.underlying23 rfl (by kernel_rfl)) rfl ⟨stepped ⟨s.bid, s.ask, s.last, s.vol, x.a, s.opn⟩ true (fun _ => hy.out hm) (fun h => by cases h), below_put hB (by omega) _ _ _ _ _ _⟩
set_option maxRecDepth 100000 in
set_option maxHeartbeats 2000000 in
theorem one_4n (s : Sn) (x : Fd) (hs : May s) (hk : x.k = 4) (he : x.a < s.now) (w : World) : Calls Try.prog 28 #[.agg (snA s), .agg (fdA x)] w fun e w' => Stepped s x e ∧ Below w.heap.size w w' := by
  have key : Hid (stepO s x = none) := by
    have q1 := hs.b0; have q2 := hs.b1; have q3 := hs.a0; have q4 := hs.a1; have q5 := hs.l0; have q6 := hs.l1; have q7 := hs.v0; have q8 := hs.v1; have q9 := hs.n0; have r1 := hs.n1; have r2 := hs.o0; have r3 := hs.o1
    show _ = _
    rw [step_4 s x hk, if_neg (by omega)]
  have tt := three w s s (.cells (fdA x) 66)
  unfold snA fdA at *
  rw [hk] at *
  go_enter Try.func28, Try.ntmps28
  go_wp2_with fail
  all_goals first
    | exact bodyPost_ret (results_two (p := 4) (u := 5) (ty := 23) rfl _ _ (w.heap.size + 1 + 1) 23 _ (0, 0) _ rfl tt.2.1 Try.underlying23 rfl (by kernel_rfl)) rfl ⟨stepped s false (fun h => by cases h) (fun _ => key.out), tt.2.2⟩
    | (exfalso; omega)
theorem step_5 (s : Sn) (x : Fd) (hk : x.k = 5) : stepO s x = if 0 ≤ s.opn + x.a ∧ s.opn + x.a ≤ 256000000000 then some ⟨s.bid, s.ask, s.last, s.vol, s.now, s.opn + x.a⟩ else none := by
  unfold stepO
  simp [hk]
set_option maxRecDepth 100000 in
set_option maxHeartbeats 2000000 in
theorem one_5 (s : Sn) (x : Fd) (hs : May s) (hk : x.k = 5) (he : ¬ (x.a < -256000000000 ∨ 256000000000 < x.a)) (w : World) : Calls Try.prog 28 #[.agg (snA s), .agg (fdA x)] w fun e w' => Stepped s x e ∧ Below w.heap.size w w' := by
  have key := step_5 s x hk
  obtain ⟨n, hn⟩ : ∃ n : Sn, n = ⟨s.bid, s.ask, s.last, s.vol, s.now, s.opn + x.a⟩ := ⟨_, rfl⟩
  have hy : Hid (mayB n = true → stepO s x = some n) := by
    intro h
    have m := mayB_iff.1 h
    subst hn
    have p1 := m.b0; have p2 := m.b1; have p3 := m.a0; have p4 := m.a1; have p5 := m.l0; have p6 := m.l1; have p7 := m.v0; have p8 := m.v1; have p9 := m.n0; have o1 := m.n1; have o2 := m.o0; have o3 := m.o1
    dsimp only at p1 p2 p3 p4 p5 p6 p7 p8 p9 o1 o2 o3
    rw [key, if_pos (by omega)]
  have hz : Hid (mayB n = false → stepO s x = none) := by
    intro h
    have q1 := hs.b0; have q2 := hs.b1; have q3 := hs.a0; have q4 := hs.a1; have q5 := hs.l0; have q6 := hs.l1; have q7 := hs.v0; have q8 := hs.v1; have q9 := hs.n0; have r1 := hs.n1; have r2 := hs.o0; have r3 := hs.o1
    rw [key, if_neg]
    intro c
    refine not_may h ?_
    subst hn
    constructor <;> (dsimp only; omega)
  have cC := fun v => rcheck_any n v
  have tt := three w n sn0 (.cells (fdA x) 66)
  have o0 := hs.o0; have o1 := hs.o1
  have hn' := hn
  clear key
  subst hn
  unfold snA fdA at *
  rw [hk] at *
  go_enter Try.func28, Try.ntmps28
  go_wp2_with fail
  refine (cC _).mono ?_
  rintro _ v ⟨rfl, bb⟩
  have hS := tt.1.onto bb
  have hR := tt.2.1.onto bb
  have hB := tt.2.2.trans (bb.mono tt.2.2.size)
  have g := hS.at
  have s0 := g.c0; have s1 := g.c1; have s2 := g.c2; have s3 := g.c3; have s4 := g.c4; have s5 := g.c5
  have g' := hR.at
  have r0 := g'.c0; have r1 := g'.c1; have r2 := g'.c2; have r3 := g'.c3; have r4 := g'.c4; have r5 := g'.c5
  obtain ⟨f0, f1, f2, f3, f4, f5⟩ := hR.froz
  have HR := hR.hid
  clear hS hR g g' bb tt cC
  cases hm : mayB ⟨s.bid, s.ask, s.last, s.vol, s.now, s.opn + x.a⟩
  · rw [chk_f hm]
    go_wp2
    exact bodyPost_ret (results_two (p := 4) (u := 5) (ty := 23) rfl _ _ (w.heap.size + 1 + 1) 23 _ (0, 0) _ rfl (HR.out.put ⟨s.bid, s.ask, s.last, s.vol, s.now, s.opn + x.a⟩) Try.underlying23 rfl (by kernel_rfl)) rfl ⟨stepped ⟨s.bid, s.ask, s.last, s.vol, s.now, s.opn + x.a⟩ false (fun h => by cases h) (fun _ => hz.out hm), below_put hB (by omega) _ _ _ _ _ _⟩
  · rw [chk_t hm]
    go_wp2
    exact bodyPost_ret (results_two (p := 4) (u := 5) (ty := 23) rfl _ _ (w.heap.size + 1 + 1) 23 _ (0, 0) _ rfl (HR.out.put ⟨s.bid, s.ask, s.last, s.vol, s.now, s.opn + x.a⟩) Try.underlying23 rfl (by kernel_rfl)) rfl ⟨stepped ⟨s.bid, s.ask, s.last, s.vol, s.now, s.opn + x.a⟩ true (fun _ => hy.out hm) (fun h => by cases h), below_put hB (by omega) _ _ _ _ _ _⟩
set_option maxRecDepth 100000 in
set_option maxHeartbeats 2000000 in
theorem one_5n (s : Sn) (x : Fd) (hs : May s) (hk : x.k = 5) (he : x.a < -256000000000 ∨ 256000000000 < x.a) (w : World) : Calls Try.prog 28 #[.agg (snA s), .agg (fdA x)] w fun e w' => Stepped s x e ∧ Below w.heap.size w w' := by
  have key : Hid (stepO s x = none) := by
    have q1 := hs.b0; have q2 := hs.b1; have q3 := hs.a0; have q4 := hs.a1; have q5 := hs.l0; have q6 := hs.l1; have q7 := hs.v0; have q8 := hs.v1; have q9 := hs.n0; have r1 := hs.n1; have r2 := hs.o0; have r3 := hs.o1
    show _ = _
    rw [step_5 s x hk, if_neg (by omega)]
  have tt := three w s s (.cells (fdA x) 66)
  unfold snA fdA at *
  rw [hk] at *
  go_enter Try.func28, Try.ntmps28
  go_wp2_with fail
  all_goals first
    | exact bodyPost_ret (results_two (p := 4) (u := 5) (ty := 23) rfl _ _ (w.heap.size + 1 + 1) 23 _ (0, 0) _ rfl tt.2.1 Try.underlying23 rfl (by kernel_rfl)) rfl ⟨stepped s false (fun h => by cases h) (fun _ => key.out), tt.2.2⟩
    | (exfalso; omega)
set_option maxRecDepth 100000 in
set_option maxHeartbeats 2000000 in
theorem one_n (s : Sn) (x : Fd) (hk : x.k < 1 ∨ 5 < x.k) (w : World) : Calls Try.prog 28 #[.agg (snA s), .agg (fdA x)] w fun e w' => Stepped s x e ∧ Below w.heap.size w w' := by
  have key : Hid (stepO s x = none) := by
    show _ = _
    unfold stepO
    rw [if_neg (by omega), if_neg (by omega), if_neg (by omega), if_neg (by omega), if_neg (by omega)]
  have tt := three w s s (.cells (fdA x) 66)
  have e1 : (x.k == 1) = false := beq_false_of_ne (by omega)
  have e2 : (x.k == 2) = false := beq_false_of_ne (by omega)
  have e3 : (x.k == 3) = false := beq_false_of_ne (by omega)
  have e4 : (x.k == 4) = false := beq_false_of_ne (by omega)
  have e5 : (x.k == 5) = false := beq_false_of_ne (by omega)
  unfold snA fdA at *
  go_enter Try.func28, Try.ntmps28
  go_wp2_with fail
  exact bodyPost_ret (results_two (p := 4) (u := 5) (ty := 23) rfl _ _ (w.heap.size + 1 + 1) 23 _ (0, 0) _ rfl tt.2.1 Try.underlying23 rfl (by kernel_rfl)) rfl ⟨stepped s false (fun h => by cases h) (fun _ => key.out), tt.2.2⟩

theorem one_any (s : Sn) (x : Fd) (hs : May s) (w : World) : Calls Try.prog 28 #[.agg (snA s), .agg (fdA x)] w fun e w' => Stepped s x e ∧ Below w.heap.size w w' := by
  by_cases h1 : x.k = 1
  · exact one_1 s x hs h1 w
  by_cases h2 : x.k = 2
  · exact one_2 s x hs h2 w
  by_cases h3 : x.k = 3
  · by_cases he : x.a < 1 ∨ x.b < 1 ∨ 1000000000 < x.b
    · exact one_3n s x hs h3 he w
    · exact one_3 s x hs h3 he w
  by_cases h4 : x.k = 4
  · by_cases he : x.a < s.now
    · exact one_4n s x hs h4 he w
    · exact one_4 s x hs h4 he w
  by_cases h5 : x.k = 5
  · by_cases he : x.a < -256000000000 ∨ 256000000000 < x.a
    · exact one_5n s x hs h5 he w
    · exact one_5 s x hs h5 he w
  exact one_n s x (by omega) w
end Go.Proofs.Ytjjmpfpbfkploaa
