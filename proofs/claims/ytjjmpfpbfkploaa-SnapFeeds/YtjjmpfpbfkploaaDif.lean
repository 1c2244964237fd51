/-
  The walk of Diff.
-/
import Derived.Test.YtjjmpfpbfkploaaMsk
namespace Go.Proofs.Ytjjmpfpbfkploaa
open Go.RowKit

set_option maxRecDepth 100000 in
set_option maxHeartbeats 4000000 in
theorem diff_any (s t : Sn) (w : World) : Calls Try.prog 13 #[.agg (snA s), .agg (snA t)] w fun e w' => e = .returned (.int .u16 (diffN s t)) ∧ Below w.heap.size w w' := by
  have hS := (SnAt.new w s 23).on (below_new (w.alloc (.cells (snA s) 23)) (.cells (snA t) 23)) (by rw [size_alloc]; omega)
  have hT := SnAt.new (w.alloc (.cells (snA s) 23)) t 23
  rw [size_alloc] at hT
  have hB := below_two w (.cells (snA s) 23) (.cells (snA t) 23)
  have hZ : ((w.alloc (.cells (snA s) 23)).alloc (.cells (snA t) 23)).heap.size = w.heap.size + 2 := by rw [size_alloc, size_alloc]
  unfold snA at *
  obtain ⟨W, hW⟩ : ∃ W, (w.alloc (.cells #[.int .i64 s.bid, .int .i64 s.ask, .int .i64 s.last, .int .i64 s.vol, .int .i64 s.now, .int .i64 s.opn] 23)).alloc (.cells #[.int .i64 t.bid, .int .i64 t.ask, .int .i64 t.last, .int .i64 t.vol, .int .i64 t.now, .int .i64 t.opn] 23) = W := ⟨_, rfl⟩
  rw [hW] at hS hT hB hZ
  have t0 := hT.c0; have t1 := hT.c1; have t2 := hT.c2; have t3 := hT.c3; have t4 := hT.c4; have t5 := hT.c5
  go_enter Try.func13, Try.ntmps13
  go_wp2_with fail
  refine (numbers_any t _).mono ?_
  rintro _ v ⟨rfl, bb⟩
  have hv := bb.size
  obtain ⟨B, hBv⟩ : ∃ B, v.heap.size = B := ⟨_, rfl⟩
  have bb2 := bb.alloc hv (.cells (nuA t) 71)
  have hM : ∀ j, (v.alloc (.cells (nuA t) 71)).cell? ⟨B, j, none⟩ = (nuA t)[j]? := fun j => by rw [← hBv]; exact cell_alloc v (nuA t) 71 j
  have hZ2 : (v.alloc (.cells (nuA t) 71)).heap.size = B + 1 := by rw [size_alloc, hBv]
  have hS2 := hS.on bb2 (by omega)
  have hB2 : Below w.heap.size w (v.alloc (.cells (nuA t) 71)) := hB.trans (bb2.mono hB.size)
  unfold nuA at *
  obtain ⟨V, hV⟩ : ∃ V, v.alloc (.cells #[.int .i64 0, .int .i64 t.bid, .int .i64 t.ask, .int .i64 t.last, .int .i64 t.vol, .int .i64 t.now, .int .i64 t.opn] 71) = V := ⟨_, rfl⟩
  rw [hV] at hM hZ2 hS2 hB2
  have s0 := hS2.c0; have s1 := hS2.c1; have s2 := hS2.c2; have s3 := hS2.c3; have s4 := hS2.c4; have s5 := hS2.c5
  clear t0 t1 t2 t3 t4 t5 hS hT hS2 bb bb2 hB hW
  go_wp2_with fail
  refine (numbers_any s _).mono ?_
  rintro _ u ⟨rfl, bb⟩
  have hb : B < V.heap.size := by omega
  have m0 : u.cell? ⟨B, 0, none⟩ = some (.int .i64 0) := (bb.cell hb).trans (hM 0)
  have m1 : u.cell? ⟨B, 1, none⟩ = some (.int .i64 t.bid) := (bb.cell hb).trans (hM 1)
  have m2 : u.cell? ⟨B, 2, none⟩ = some (.int .i64 t.ask) := (bb.cell hb).trans (hM 2)
  have m3 : u.cell? ⟨B, 3, none⟩ = some (.int .i64 t.last) := (bb.cell hb).trans (hM 3)
  have m4 : u.cell? ⟨B, 4, none⟩ = some (.int .i64 t.vol) := (bb.cell hb).trans (hM 4)
  have m5 : u.cell? ⟨B, 5, none⟩ = some (.int .i64 t.now) := (bb.cell hb).trans (hM 5)
  have m6 : u.cell? ⟨B, 6, none⟩ = some (.int .i64 t.opn) := (bb.cell hb).trans (hM 6)
  have x0 := ix0 s u
  have x1 := ix1 s u
  have x2 := ix2 s u
  have x3 := ix3 s u
  have x4 := ix4 s u
  have x5 := ix5 s u
  have x6 := ix6 s u
  replace hB2 : Below w.heap.size w u := hB2.trans (bb.mono hB2.size)
  clear hM s0 s1 s2 s3 s4 s5 bb hV
  unfold nuA
  go_wp2_with fail
  go_loop [5, 13] (fun m i => ∃ k : Nat, k ≤ 7 ∧ i = .int .i64 k ∧ m = .int .u16 (diffK s t k)) (fun _ i => 7 - (intOf i).toNat)
  case atStart => exact ⟨0, by omega, rfl, rfl⟩
  case round =>
    obtain ⟨k, hk, rfl, rfl⟩ := hrel
    have hk' : k = 0 ∨ k = 1 ∨ k = 2 ∨ k = 3 ∨ k = 4 ∨ k = 5 ∨ k = 6 ∨ k = 7 := by omega
    rcases hk' with rfl | rfl | rfl | rfl | rfl | rfl | rfl | rfl
    · go_wp2
      exact ⟨⟨1, by omega, rfl, mI rfl⟩, by simp [intOf]⟩
    · obtain ⟨l0, l1⟩ := diffK_lt s t 1
      have ho : bits BinOp.or IntKind.u16 (diffK s t 1) 2 = diffK s t 1 + 2 := or_bit (diffK s t 1) 1 (by omega) l0 l1
      by_cases he : s.bid = t.bid
      · have hd : Hid (diffK s t 2 = diffK s t 1) := by
          show _ = _
          rw [diffK_2, bitN_eq _ he, Int.add_zero]
        have he' : (s.bid == t.bid) = true := by simp [he]
        clear he
        go_wp2
        all_goals first
          | exact ⟨⟨2, by omega, rfl, mI hd.out.symm⟩, by simp [intOf]⟩
          | (exfalso; omega)
      · have hd : Hid (diffK s t 2 = diffK s t 1 + 2) := by
          show _ = _
          rw [diffK_2, bitN_ne _ he]
        have he' : (s.bid == t.bid) = false := beq_false_of_ne he
        go_wp2
        all_goals first
          | exact ⟨⟨2, by omega, rfl, mI (by first | exact hd.out.symm | exact ho.trans hd.out.symm)⟩, by simp [intOf]⟩
          | (exfalso; omega)
    · obtain ⟨l0, l1⟩ := diffK_lt s t 2
      have ho : bits BinOp.or IntKind.u16 (diffK s t 2) 4 = diffK s t 2 + 4 := or_bit (diffK s t 2) 2 (by omega) l0 l1
      by_cases he : s.ask = t.ask
      · have hd : Hid (diffK s t 3 = diffK s t 2) := by
          show _ = _
          rw [diffK_3, bitN_eq _ he, Int.add_zero]
        have he' : (s.ask == t.ask) = true := by simp [he]
        clear he
        go_wp2
        all_goals first
          | exact ⟨⟨3, by omega, rfl, mI hd.out.symm⟩, by simp [intOf]⟩
          | (exfalso; omega)
      · have hd : Hid (diffK s t 3 = diffK s t 2 + 4) := by
          show _ = _
          rw [diffK_3, bitN_ne _ he]
        have he' : (s.ask == t.ask) = false := beq_false_of_ne he
        go_wp2
        all_goals first
          | exact ⟨⟨3, by omega, rfl, mI (by first | exact hd.out.symm | exact ho.trans hd.out.symm)⟩, by simp [intOf]⟩
          | (exfalso; omega)
    · obtain ⟨l0, l1⟩ := diffK_lt s t 3
      have ho : bits BinOp.or IntKind.u16 (diffK s t 3) 8 = diffK s t 3 + 8 := or_bit (diffK s t 3) 3 (by omega) l0 l1
      by_cases he : s.last = t.last
      · have hd : Hid (diffK s t 4 = diffK s t 3) := by
          show _ = _
          rw [diffK_4, bitN_eq _ he, Int.add_zero]
        have he' : (s.last == t.last) = true := by simp [he]
        clear he
        go_wp2
        all_goals first
          | exact ⟨⟨4, by omega, rfl, mI hd.out.symm⟩, by simp [intOf]⟩
          | (exfalso; omega)
      · have hd : Hid (diffK s t 4 = diffK s t 3 + 8) := by
          show _ = _
          rw [diffK_4, bitN_ne _ he]
        have he' : (s.last == t.last) = false := beq_false_of_ne he
        go_wp2
        all_goals first
          | exact ⟨⟨4, by omega, rfl, mI (by first | exact hd.out.symm | exact ho.trans hd.out.symm)⟩, by simp [intOf]⟩
          | (exfalso; omega)
    · obtain ⟨l0, l1⟩ := diffK_lt s t 4
      have ho : bits BinOp.or IntKind.u16 (diffK s t 4) 16 = diffK s t 4 + 16 := or_bit (diffK s t 4) 4 (by omega) l0 l1
      by_cases he : s.vol = t.vol
      · have hd : Hid (diffK s t 5 = diffK s t 4) := by
          show _ = _
          rw [diffK_5, bitN_eq _ he, Int.add_zero]
        have he' : (s.vol == t.vol) = true := by simp [he]
        clear he
        go_wp2
        all_goals first
          | exact ⟨⟨5, by omega, rfl, mI hd.out.symm⟩, by simp [intOf]⟩
          | (exfalso; omega)
      · have hd : Hid (diffK s t 5 = diffK s t 4 + 16) := by
          show _ = _
          rw [diffK_5, bitN_ne _ he]
        have he' : (s.vol == t.vol) = false := beq_false_of_ne he
        go_wp2
        all_goals first
          | exact ⟨⟨5, by omega, rfl, mI (by first | exact hd.out.symm | exact ho.trans hd.out.symm)⟩, by simp [intOf]⟩
          | (exfalso; omega)
    · obtain ⟨l0, l1⟩ := diffK_lt s t 5
      have ho : bits BinOp.or IntKind.u16 (diffK s t 5) 32 = diffK s t 5 + 32 := or_bit (diffK s t 5) 5 (by omega) l0 l1
      by_cases he : s.now = t.now
      · have hd : Hid (diffK s t 6 = diffK s t 5) := by
          show _ = _
          rw [diffK_6, bitN_eq _ he, Int.add_zero]
        have he' : (s.now == t.now) = true := by simp [he]
        clear he
        go_wp2
        all_goals first
          | exact ⟨⟨6, by omega, rfl, mI hd.out.symm⟩, by simp [intOf]⟩
          | (exfalso; omega)
      · have hd : Hid (diffK s t 6 = diffK s t 5 + 32) := by
          show _ = _
          rw [diffK_6, bitN_ne _ he]
        have he' : (s.now == t.now) = false := beq_false_of_ne he
        go_wp2
        all_goals first
          | exact ⟨⟨6, by omega, rfl, mI (by first | exact hd.out.symm | exact ho.trans hd.out.symm)⟩, by simp [intOf]⟩
          | (exfalso; omega)
    · obtain ⟨l0, l1⟩ := diffK_lt s t 6
      have ho : bits BinOp.or IntKind.u16 (diffK s t 6) 64 = diffK s t 6 + 64 := or_bit (diffK s t 6) 6 (by omega) l0 l1
      by_cases he : s.opn = t.opn
      · have hd : Hid (diffK s t 7 = diffK s t 6) := by
          show _ = _
          rw [diffK_7, bitN_eq _ he, Int.add_zero]
        have he' : (s.opn == t.opn) = true := by simp [he]
        clear he
        go_wp2
        all_goals first
          | exact ⟨⟨7, by omega, rfl, mI hd.out.symm⟩, by simp [intOf]⟩
          | (exfalso; omega)
      · have hd : Hid (diffK s t 7 = diffK s t 6 + 64) := by
          show _ = _
          rw [diffK_7, bitN_ne _ he]
        have he' : (s.opn == t.opn) = false := beq_false_of_ne he
        go_wp2
        all_goals first
          | exact ⟨⟨7, by omega, rfl, mI (by first | exact hd.out.symm | exact ho.trans hd.out.symm)⟩, by simp [intOf]⟩
          | (exfalso; omega)
    · have hd := diffK_all s t
      go_wp2
      go_ret
      exact ⟨by first | rfl | exact retM hd, hB2⟩
end Go.Proofs.Ytjjmpfpbfkploaa
