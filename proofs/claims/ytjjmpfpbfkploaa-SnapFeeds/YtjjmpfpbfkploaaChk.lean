/-
  Walks of Check, Get, Name and Diff.
-/
import Derived.Test.YtjjmpfpbfkploaaIx
namespace Go.Proofs.Ytjjmpfpbfkploaa
open Go.RowKit

/-- The first fields are as they may be. -/
def Okto (s : Sn) (k : Nat) : Prop := (1 < k → 0 ≤ s.bid ∧ s.bid ≤ 1000000000) ∧ (2 < k → 0 ≤ s.ask ∧ s.ask ≤ 1000000000) ∧ (3 < k → 0 ≤ s.last ∧ s.last ≤ 1000000000) ∧ (4 < k → 0 ≤ s.vol ∧ s.vol ≤ 1000000000000000) ∧ (5 < k → 0 ≤ s.now ∧ s.now ≤ 1000000000000000) ∧ (6 < k → 0 ≤ s.opn ∧ s.opn ≤ 256000000000)
theorem Okto.may {s : Sn} (h : Okto s 7) : May s := by
  obtain ⟨a, b, c, d, e, f⟩ := h
  exact ⟨(a (by omega)).1, (a (by omega)).2, (b (by omega)).1, (b (by omega)).2, (c (by omega)).1, (c (by omega)).2, (d (by omega)).1, (d (by omega)).2, (e (by omega)).1, (e (by omega)).2, (f (by omega)).1, (f (by omega)).2⟩
def mostA : Array Value := #[.int .i64 0, .int .i64 1000000000, .int .i64 1000000000, .int .i64 1000000000, .int .i64 1000000000000000, .int .i64 1000000000000000, .int .i64 256000000000]

set_option maxRecDepth 100000 in
set_option maxHeartbeats 4000000 in
theorem check_any (s : Sn) (w : World) : Calls Try.prog 7 #[.agg (snA s)] w fun e w' => e = .returned (.int .i64 (chkN s)) ∧ Below w.heap.size w w' := by
  have hR := (SnAt.new w s 23).on (below_new (w.alloc (.cells (snA s) 23)) (.cells mostA 71)) (by rw [size_alloc]; omega)
  have hB := below_two w (.cells (snA s) 23) (.cells mostA 71)
  have hZ : ((w.alloc (.cells (snA s) 23)).alloc (.cells mostA 71)).heap.size = w.heap.size + 2 := by rw [size_alloc, size_alloc]
  have hM : ∀ j, ((w.alloc (.cells (snA s) 23)).alloc (.cells mostA 71)).cell? ⟨w.heap.size + 1, j, none⟩ = mostA[j]? := fun j => by
    have := cell_alloc (w.alloc (.cells (snA s) 23)) mostA 71 j
    rwa [size_alloc] at this
  unfold snA mostA at *
  obtain ⟨W, hW⟩ : ∃ W, (w.alloc (.cells #[.int .i64 s.bid, .int .i64 s.ask, .int .i64 s.last, .int .i64 s.vol, .int .i64 s.now, .int .i64 s.opn] 23)).alloc (.cells #[.int .i64 0, .int .i64 1000000000, .int .i64 1000000000, .int .i64 1000000000, .int .i64 1000000000000000, .int .i64 1000000000000000, .int .i64 256000000000] 71) = W := ⟨_, rfl⟩
  rw [hW] at hR hB hZ hM
  obtain ⟨c0, c1, c2, c3, c4, c5⟩ := hR
  go_enter Try.func7, Try.ntmps7
  go_wp2_with fail
  refine (numbers_any s _).mono ?_
  rintro _ v ⟨rfl, bb⟩
  have hb : w.heap.size + 1 < W.heap.size := by omega
  have m0 : v.cell? ⟨w.heap.size + 1, 0, none⟩ = some (.int .i64 0) := (bb.cell hb).trans (hM 0)
  have m1 : v.cell? ⟨w.heap.size + 1, 1, none⟩ = some (.int .i64 1000000000) := (bb.cell hb).trans (hM 1)
  have m2 : v.cell? ⟨w.heap.size + 1, 2, none⟩ = some (.int .i64 1000000000) := (bb.cell hb).trans (hM 2)
  have m3 : v.cell? ⟨w.heap.size + 1, 3, none⟩ = some (.int .i64 1000000000) := (bb.cell hb).trans (hM 3)
  have m4 : v.cell? ⟨w.heap.size + 1, 4, none⟩ = some (.int .i64 1000000000000000) := (bb.cell hb).trans (hM 4)
  have m5 : v.cell? ⟨w.heap.size + 1, 5, none⟩ = some (.int .i64 1000000000000000) := (bb.cell hb).trans (hM 5)
  have m6 : v.cell? ⟨w.heap.size + 1, 6, none⟩ = some (.int .i64 256000000000) := (bb.cell hb).trans (hM 6)
  replace hB : Below w.heap.size w v := hB.trans (bb.mono hB.size)
  have x0 := ix0 s v
  have x1 := ix1 s v
  have x2 := ix2 s v
  have x3 := ix3 s v
  have x4 := ix4 s v
  have x5 := ix5 s v
  have x6 := ix6 s v
  clear hM c0 c1 c2 c3 c4 c5 bb hW
  unfold nuA
  go_wp2_with fail
  go_loop [9] (fun i => ∃ k : Nat, k ≤ 7 ∧ i = .int .i64 k ∧ Okto s k) (fun i => 7 - (intOf i).toNat)
  case atStart => exact ⟨0, by omega, rfl, ⟨fun h => by omega, fun h => by omega, fun h => by omega, fun h => by omega, fun h => by omega, fun h => by omega⟩⟩
  case round =>
    obtain ⟨k, hk, rfl, ho⟩ := hrel
    have hk' : k = 0 ∨ k = 1 ∨ k = 2 ∨ k = 3 ∨ k = 4 ∨ k = 5 ∨ k = 6 ∨ k = 7 := by omega
    rcases hk' with rfl | rfl | rfl | rfl | rfl | rfl | rfl | rfl
    · go_wp2
      all_goals first
        | exact ⟨⟨1, by omega, rfl, by unfold Okto at *; omega⟩, by simp [intOf]⟩
        | (go_ret
           exact ⟨retI (chk_no (fun m => by have q1 := m.b0; have q2 := m.b1; have q3 := m.a0; have q4 := m.a1; have q5 := m.l0; have q6 := m.l1; have q7 := m.v0; have q8 := m.v1; have q9 := m.n0; have r1 := m.n1; have r2 := m.o0; have r3 := m.o1; omega)).symm, hB⟩)
    · go_wp2
      all_goals first
        | exact ⟨⟨2, by omega, rfl, by unfold Okto at *; omega⟩, by simp [intOf]⟩
        | (go_ret
           exact ⟨retI (chk_no (fun m => by have q1 := m.b0; have q2 := m.b1; have q3 := m.a0; have q4 := m.a1; have q5 := m.l0; have q6 := m.l1; have q7 := m.v0; have q8 := m.v1; have q9 := m.n0; have r1 := m.n1; have r2 := m.o0; have r3 := m.o1; omega)).symm, hB⟩)
    · go_wp2
      all_goals first
        | exact ⟨⟨3, by omega, rfl, by unfold Okto at *; omega⟩, by simp [intOf]⟩
        | (go_ret
           exact ⟨retI (chk_no (fun m => by have q1 := m.b0; have q2 := m.b1; have q3 := m.a0; have q4 := m.a1; have q5 := m.l0; have q6 := m.l1; have q7 := m.v0; have q8 := m.v1; have q9 := m.n0; have r1 := m.n1; have r2 := m.o0; have r3 := m.o1; omega)).symm, hB⟩)
    · go_wp2
      all_goals first
        | exact ⟨⟨4, by omega, rfl, by unfold Okto at *; omega⟩, by simp [intOf]⟩
        | (go_ret
           exact ⟨retI (chk_no (fun m => by have q1 := m.b0; have q2 := m.b1; have q3 := m.a0; have q4 := m.a1; have q5 := m.l0; have q6 := m.l1; have q7 := m.v0; have q8 := m.v1; have q9 := m.n0; have r1 := m.n1; have r2 := m.o0; have r3 := m.o1; omega)).symm, hB⟩)
    · go_wp2
      all_goals first
        | exact ⟨⟨5, by omega, rfl, by unfold Okto at *; omega⟩, by simp [intOf]⟩
        | (go_ret
           exact ⟨retI (chk_no (fun m => by have q1 := m.b0; have q2 := m.b1; have q3 := m.a0; have q4 := m.a1; have q5 := m.l0; have q6 := m.l1; have q7 := m.v0; have q8 := m.v1; have q9 := m.n0; have r1 := m.n1; have r2 := m.o0; have r3 := m.o1; omega)).symm, hB⟩)
    · go_wp2
      all_goals first
        | exact ⟨⟨6, by omega, rfl, by unfold Okto at *; omega⟩, by simp [intOf]⟩
        | (go_ret
           exact ⟨retI (chk_no (fun m => by have q1 := m.b0; have q2 := m.b1; have q3 := m.a0; have q4 := m.a1; have q5 := m.l0; have q6 := m.l1; have q7 := m.v0; have q8 := m.v1; have q9 := m.n0; have r1 := m.n1; have r2 := m.o0; have r3 := m.o1; omega)).symm, hB⟩)
    · go_wp2
      all_goals first
        | exact ⟨⟨7, by omega, rfl, by unfold Okto at *; omega⟩, by simp [intOf]⟩
        | (go_ret
           exact ⟨retI (chk_no (fun m => by have q1 := m.b0; have q2 := m.b1; have q3 := m.a0; have q4 := m.a1; have q5 := m.l0; have q6 := m.l1; have q7 := m.v0; have q8 := m.v1; have q9 := m.n0; have r1 := m.n1; have r2 := m.o0; have r3 := m.o1; omega)).symm, hB⟩)
    · go_wp2
      go_ret
      exact ⟨retI (chk_ok ho.may).symm, hB⟩
end Go.Proofs.Ytjjmpfpbfkploaa
