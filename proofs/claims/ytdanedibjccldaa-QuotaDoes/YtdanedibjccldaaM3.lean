import Derived.Test.YtdanedibjccldaaM2
import Derived.Deep.OwnRows
import Derived.Test.YtdanedibjccldaaM1
/-
  The document's New.
-/
namespace Go.Proofs.Ytdanedibjccldaa
open Go.RowKit
set_option linter.unusedVariables false

theorem rnew_no (c : Cf) (hB : newB c = false) (w : World) :
    Calls Try.prog 7 #[.agg (cfA c)] w fun e w' => e = .returned (.tuple #[.pointer none, .int .i64 1]) ∧ Qt w w' := by
  have hZ : (w.alloc (.cells (cfA c) 25)).heap[w.heap.size]? = some (.cells (cfA c) 25 (0, 0)) := heap_new w _
  have hM : Qt w (w.alloc (.cells (cfA c) 25)) := (Mv.refl w _).alloc _
  have z0 := cell_of hZ 0
  have z11 := cell_of hZ 11
  have z13 := cell_of hZ 13
  have z14 := cell_of hZ 14
  have hB' : ¬ (((1 ≤ c.r0 ∧ c.r0 ≤ 8) ∧ 0 ≤ c.st ∧ c.st ≤ 8) ∧ 0 ≤ c.ac ∧ c.ac ≤ 1000000) ∨ ¬ (1 ≤ c.wi ∧ c.wi ≤ 1000000000000000) := by
    have : ¬ newB c = true := by rw [hB]; decide
    unfold newB at this
    simp only [Bool.and_eq_true, inB_iff] at this
    omega
  unfold cfA at *
  go_enter Try.func7, Try.ntmps7
  go_upto_region 1 with fail
  generalize hWW : w.alloc (.cells #[.int .i64 c.r0, .int .i64 c.r1, .int .i64 c.r2, .int .i64 c.r3, .int .i64 c.r4, .int .i64 c.r5, .int .i64 c.or, .int .i64 c.lv, .int .i64 c.vo, .int .i64 c.ids, .int .i64 c.rd, .int .i64 c.st, .int .i64 c.op, .int .i64 c.ac, .int .i64 c.wi] 25) = W at z0 z11 z13 z14 hM ⊢
  generalize hBB : w.heap.size = B at z0 z11 z13 z14 ⊢
  clear hWW hZ hBB
  by_cases h1 : c.r0 < 1
  · go_wp2_with fail
    go_ret2
    exact ⟨rfl, hM⟩
  by_cases h2 : 8 < c.r0
  · go_wp2_with fail
    go_ret2
    exact ⟨rfl, hM⟩
  by_cases h3 : c.st < 0
  · go_wp2_with fail
    go_ret2
    exact ⟨rfl, hM⟩
  by_cases h4 : 8 < c.st
  · go_wp2_with fail
    go_ret2
    exact ⟨rfl, hM⟩
  by_cases h5 : c.ac < 0
  · go_wp2_with fail
    go_ret2
    exact ⟨rfl, hM⟩
  by_cases h6 : 1000000 < c.ac
  · go_wp2_with fail
    go_ret2
    exact ⟨rfl, hM⟩
  by_cases h7 : c.wi < 1
  · go_wp2_with fail
    go_ret2
    exact ⟨rfl, hM⟩
  have h8 : 1000000000000000 < c.wi := by omega
  go_wp2_with fail
  go_ret2
  exact ⟨rfl, hM⟩
theorem row_of_heap {W : World} {b n : Nat} {t : TypeId} {z : Value} (h : W.heap[b]? = some (.cells (madeCells #[z] n) t (0, 0))) (hn : n ≤ 65536) : Row W t 1 (.slice (some ⟨b, 0, none⟩) n n) n (fun _ => z) := by
  refine ⟨by simp, .inr ⟨b, n, _, rfl, Nat.zero_le _, h, Nat.le_refl _, by simp only [maxLen]; omega, by rw [size_madeCells, Nat.mul_one], ?_⟩⟩
  rw [toList_madeCells_one, Nat.mul_one]
  apply List.ext_getElem?
  intro j
  by_cases hj : j < n
  · simp [hj]
  · simp [hj]
theorem rf_of_heap {W : World} {R pb tb N : Nat} {c : Cf} (hB : newB c = true) (hN : c.r0 = (N : Int) - 1) (hR : W.heap[R]? = some (.cells (rfA c 0 pb N tb N) 55 (0, 0)))
    (hp : W.heap[pb]? = some (.cells (madeCells #[.int .i64 0] N) 3 (0, 0))) (ht : W.heap[tb]? = some (.cells (madeCells #[.slice none 0 0] N) 57 (0, 0))) :
    RfAt W ⟨R, pb, N, tb, N, fun _ => .slice none 0 0, fun _ => []⟩ c (newM c) 0 := by
  have hb := hB
  unfold newB at hb
  simp only [Bool.and_eq_true, inB_iff] at hb
  have e : c.r0.toNat + 1 = N := by omega
  refine ⟨hR, ?_, ?_, fun j _ => Row.nil _ _ _ _, fun j k b _ _ hb _ => (by cases hb), fun j _ => rfl, fun j x _ hx => (by cases hx), rfl, rfl, rfl, rfl, by omega, by omega, fun j _ => Nat.le_refl _⟩
  · rw [e]
    refine (row_of_heap hp (by omega)).congr (fun j _ => ?_)
    show Value.int .i64 0 = .int .i64 (if j = 0 then 0 else 0)
    split <;> rfl
  · rw [e]
    exact row_of_heap ht (by omega)
theorem i3 : (Try.prog.info? 3).map (fun i => (i.zero, i.size, i.bytes)) = some (some (.int .i64 0), 1, 8) := by kernel_rfl
theorem i57 : (Try.prog.info? 57).map (fun i => (i.zero, i.size, i.bytes)) = some (some (.slice none 0 0), 1, 24) := by kernel_rfl
theorem three (W : World) (a b c : Obj) : (((W.alloc a).alloc b).alloc c).heap[W.heap.size]? = some a ∧ (((W.alloc a).alloc b).alloc c).heap[W.heap.size + 1]? = some b ∧ (((W.alloc a).alloc b).alloc c).heap[W.heap.size + 1 + 1]? = some c := by
  refine ⟨?_, ?_, ?_⟩
  · rw [Below.heap_alloc _ _ _ (by simp; omega), Below.heap_alloc _ _ _ (by simp)]; exact heap_new W a
  · rw [Below.heap_alloc _ _ _ (by simp)]
    have := heap_new (W.alloc a) b
    rwa [size_alloc] at this
  · have := heap_new ((W.alloc a).alloc b) c
    rwa [size_alloc, size_alloc] at this
set_option maxRecDepth 100000 in
set_option maxHeartbeats 4000000 in
theorem rnew_aux (N : Nat) (r1 r2 r3 r4 r5 or_ lv vo ids rd st op ac wi : Int) (hB : newB ⟨(N : Int) - 1, r1, r2, r3, r4, r5, or_, lv, vo, ids, rd, st, op, ac, wi⟩ = true) (w : World) :
    Calls Try.prog 7 #[.agg #[.int .i64 ((N : Int) - 1), .int .i64 r1, .int .i64 r2, .int .i64 r3, .int .i64 r4, .int .i64 r5, .int .i64 or_, .int .i64 lv, .int .i64 vo, .int .i64 ids, .int .i64 rd, .int .i64 st, .int .i64 op, .int .i64 ac, .int .i64 wi]] w fun e w' => ∃ r, e = .returned (.tuple #[.pointer (some ⟨r.R, 0, none⟩), .int .i64 0]) ∧ Qt w w' ∧ RfAt w' r ⟨(N : Int) - 1, r1, r2, r3, r4, r5, or_, lv, vo, ids, rd, st, op, ac, wi⟩ (newM ⟨(N : Int) - 1, r1, r2, r3, r4, r5, or_, lv, vo, ids, rd, st, op, ac, wi⟩) 0 ∧ ∀ k, RFt r N k → w.heap.size ≤ k := by
  have hZ : (w.alloc (.cells #[.int .i64 ((N : Int) - 1), .int .i64 r1, .int .i64 r2, .int .i64 r3, .int .i64 r4, .int .i64 r5, .int .i64 or_, .int .i64 lv, .int .i64 vo, .int .i64 ids, .int .i64 rd, .int .i64 st, .int .i64 op, .int .i64 ac, .int .i64 wi] 25)).heap[w.heap.size]? = some (.cells #[.int .i64 ((N : Int) - 1), .int .i64 r1, .int .i64 r2, .int .i64 r3, .int .i64 r4, .int .i64 r5, .int .i64 or_, .int .i64 lv, .int .i64 vo, .int .i64 ids, .int .i64 rd, .int .i64 st, .int .i64 op, .int .i64 ac, .int .i64 wi] 25 (0, 0)) := heap_new w _
  have hM : Qt w (w.alloc (.cells #[.int .i64 ((N : Int) - 1), .int .i64 r1, .int .i64 r2, .int .i64 r3, .int .i64 r4, .int .i64 r5, .int .i64 or_, .int .i64 lv, .int .i64 vo, .int .i64 ids, .int .i64 rd, .int .i64 st, .int .i64 op, .int .i64 ac, .int .i64 wi] 25)) := (Mv.refl w _).alloc _
  have hb := hB
  unfold newB at hb
  simp only [Bool.and_eq_true, inB_iff] at hb
  obtain ⟨⟨⟨⟨h1, h2⟩, h3, h4⟩, h5, h6⟩, h7, h8⟩ := hb
  have hmk1 := fun W => run_make_row' (P := Try.prog) 52 3 (.int .i64 0) 8 Try.underlying52 i3 rfl .i64 .i64 N (by omega) (by omega) W
  have hmk2 := fun W => run_make_row' (P := Try.prog) 53 57 (.slice none 0 0) 24 Try.underlying53 i57 rfl .i64 .i64 N (by omega) (by omega) W
  have z0 := cell_of hZ 0
  have z1 := cell_of hZ 1
  have z2 := cell_of hZ 2
  have z3 := cell_of hZ 3
  have z4 := cell_of hZ 4
  have z5 := cell_of hZ 5
  have z6 := cell_of hZ 6
  have z7 := cell_of hZ 7
  have z8 := cell_of hZ 8
  have z9 := cell_of hZ 9
  have z10 := cell_of hZ 10
  have z11 := cell_of hZ 11
  have z12 := cell_of hZ 12
  have z13 := cell_of hZ 13
  have z14 := cell_of hZ 14
  have eN : ((N : Int) - 1).toNat + 1 = N := by omega
  have HR := fun (W : World) (R pb tb : Nat) (hR : W.heap[R]? = some (.cells (#[.int .i64 ((N : Int) - 1), .int .i64 r1, .int .i64 r2, .int .i64 r3, .int .i64 r4, .int .i64 r5, .int .i64 or_, .int .i64 lv, .int .i64 vo, .int .i64 ids, .int .i64 rd, .int .i64 st, .int .i64 op, .int .i64 ac, .int .i64 wi, .int .i64 0, .slice (some ⟨pb, 0, none⟩) N N, .slice (some ⟨tb, 0, none⟩) N N]) 55 (0, 0))) hp ht => rf_of_heap (W := W) (R := R) (pb := pb) (tb := tb) hB rfl (by unfold rfA; dsimp only; rw [eN]; exact hR) hp ht
  replace HR : Hid _ := HR
  go_enter Try.func7, Try.ntmps7
  go_upto_region 1 with fail
  generalize hWW : w.alloc (.cells #[.int .i64 ((N : Int) - 1), .int .i64 r1, .int .i64 r2, .int .i64 r3, .int .i64 r4, .int .i64 r5, .int .i64 or_, .int .i64 lv, .int .i64 vo, .int .i64 ids, .int .i64 rd, .int .i64 st, .int .i64 op, .int .i64 ac, .int .i64 wi] 25) = W at hZ hM z0 z1 z2 z3 z4 z5 z6 z7 z8 z9 z10 z11 z12 z13 z14 ⊢
  generalize hBB : w.heap.size = B at hZ z0 z1 z2 z3 z4 z5 z6 z7 z8 z9 z10 z11 z12 z13 z14 ⊢
  have ltB := lt_of hZ
  have za0 : ∀ o, (W.alloc o).cell? ⟨B, 0, none⟩ = some (.int .i64 ((N : Int) - 1)) := fun o => (World.cell?_of_block (Below.heap_alloc W o B ltB)).trans z0
  have zb0 : ∀ o o', ((W.alloc o).alloc o').cell? ⟨B, 0, none⟩ = some (.int .i64 ((N : Int) - 1)) := fun o o' => (World.cell?_of_block (Below.heap_alloc (W.alloc o) o' B (by rw [size_alloc]; omega))).trans (za0 o)
  have za1 : ∀ o, (W.alloc o).cell? ⟨B, 1, none⟩ = some (.int .i64 r1) := fun o => (World.cell?_of_block (Below.heap_alloc W o B ltB)).trans z1
  have zb1 : ∀ o o', ((W.alloc o).alloc o').cell? ⟨B, 1, none⟩ = some (.int .i64 r1) := fun o o' => (World.cell?_of_block (Below.heap_alloc (W.alloc o) o' B (by rw [size_alloc]; omega))).trans (za1 o)
  have za2 : ∀ o, (W.alloc o).cell? ⟨B, 2, none⟩ = some (.int .i64 r2) := fun o => (World.cell?_of_block (Below.heap_alloc W o B ltB)).trans z2
  have zb2 : ∀ o o', ((W.alloc o).alloc o').cell? ⟨B, 2, none⟩ = some (.int .i64 r2) := fun o o' => (World.cell?_of_block (Below.heap_alloc (W.alloc o) o' B (by rw [size_alloc]; omega))).trans (za2 o)
  have za3 : ∀ o, (W.alloc o).cell? ⟨B, 3, none⟩ = some (.int .i64 r3) := fun o => (World.cell?_of_block (Below.heap_alloc W o B ltB)).trans z3
  have zb3 : ∀ o o', ((W.alloc o).alloc o').cell? ⟨B, 3, none⟩ = some (.int .i64 r3) := fun o o' => (World.cell?_of_block (Below.heap_alloc (W.alloc o) o' B (by rw [size_alloc]; omega))).trans (za3 o)
  have za4 : ∀ o, (W.alloc o).cell? ⟨B, 4, none⟩ = some (.int .i64 r4) := fun o => (World.cell?_of_block (Below.heap_alloc W o B ltB)).trans z4
  have zb4 : ∀ o o', ((W.alloc o).alloc o').cell? ⟨B, 4, none⟩ = some (.int .i64 r4) := fun o o' => (World.cell?_of_block (Below.heap_alloc (W.alloc o) o' B (by rw [size_alloc]; omega))).trans (za4 o)
  have za5 : ∀ o, (W.alloc o).cell? ⟨B, 5, none⟩ = some (.int .i64 r5) := fun o => (World.cell?_of_block (Below.heap_alloc W o B ltB)).trans z5
  have zb5 : ∀ o o', ((W.alloc o).alloc o').cell? ⟨B, 5, none⟩ = some (.int .i64 r5) := fun o o' => (World.cell?_of_block (Below.heap_alloc (W.alloc o) o' B (by rw [size_alloc]; omega))).trans (za5 o)
  have za6 : ∀ o, (W.alloc o).cell? ⟨B, 6, none⟩ = some (.int .i64 or_) := fun o => (World.cell?_of_block (Below.heap_alloc W o B ltB)).trans z6
  have zb6 : ∀ o o', ((W.alloc o).alloc o').cell? ⟨B, 6, none⟩ = some (.int .i64 or_) := fun o o' => (World.cell?_of_block (Below.heap_alloc (W.alloc o) o' B (by rw [size_alloc]; omega))).trans (za6 o)
  have za7 : ∀ o, (W.alloc o).cell? ⟨B, 7, none⟩ = some (.int .i64 lv) := fun o => (World.cell?_of_block (Below.heap_alloc W o B ltB)).trans z7
  have zb7 : ∀ o o', ((W.alloc o).alloc o').cell? ⟨B, 7, none⟩ = some (.int .i64 lv) := fun o o' => (World.cell?_of_block (Below.heap_alloc (W.alloc o) o' B (by rw [size_alloc]; omega))).trans (za7 o)
  have za8 : ∀ o, (W.alloc o).cell? ⟨B, 8, none⟩ = some (.int .i64 vo) := fun o => (World.cell?_of_block (Below.heap_alloc W o B ltB)).trans z8
  have zb8 : ∀ o o', ((W.alloc o).alloc o').cell? ⟨B, 8, none⟩ = some (.int .i64 vo) := fun o o' => (World.cell?_of_block (Below.heap_alloc (W.alloc o) o' B (by rw [size_alloc]; omega))).trans (za8 o)
  have za9 : ∀ o, (W.alloc o).cell? ⟨B, 9, none⟩ = some (.int .i64 ids) := fun o => (World.cell?_of_block (Below.heap_alloc W o B ltB)).trans z9
  have zb9 : ∀ o o', ((W.alloc o).alloc o').cell? ⟨B, 9, none⟩ = some (.int .i64 ids) := fun o o' => (World.cell?_of_block (Below.heap_alloc (W.alloc o) o' B (by rw [size_alloc]; omega))).trans (za9 o)
  have za10 : ∀ o, (W.alloc o).cell? ⟨B, 10, none⟩ = some (.int .i64 rd) := fun o => (World.cell?_of_block (Below.heap_alloc W o B ltB)).trans z10
  have zb10 : ∀ o o', ((W.alloc o).alloc o').cell? ⟨B, 10, none⟩ = some (.int .i64 rd) := fun o o' => (World.cell?_of_block (Below.heap_alloc (W.alloc o) o' B (by rw [size_alloc]; omega))).trans (za10 o)
  have za11 : ∀ o, (W.alloc o).cell? ⟨B, 11, none⟩ = some (.int .i64 st) := fun o => (World.cell?_of_block (Below.heap_alloc W o B ltB)).trans z11
  have zb11 : ∀ o o', ((W.alloc o).alloc o').cell? ⟨B, 11, none⟩ = some (.int .i64 st) := fun o o' => (World.cell?_of_block (Below.heap_alloc (W.alloc o) o' B (by rw [size_alloc]; omega))).trans (za11 o)
  have za12 : ∀ o, (W.alloc o).cell? ⟨B, 12, none⟩ = some (.int .i64 op) := fun o => (World.cell?_of_block (Below.heap_alloc W o B ltB)).trans z12
  have zb12 : ∀ o o', ((W.alloc o).alloc o').cell? ⟨B, 12, none⟩ = some (.int .i64 op) := fun o o' => (World.cell?_of_block (Below.heap_alloc (W.alloc o) o' B (by rw [size_alloc]; omega))).trans (za12 o)
  have za13 : ∀ o, (W.alloc o).cell? ⟨B, 13, none⟩ = some (.int .i64 ac) := fun o => (World.cell?_of_block (Below.heap_alloc W o B ltB)).trans z13
  have zb13 : ∀ o o', ((W.alloc o).alloc o').cell? ⟨B, 13, none⟩ = some (.int .i64 ac) := fun o o' => (World.cell?_of_block (Below.heap_alloc (W.alloc o) o' B (by rw [size_alloc]; omega))).trans (za13 o)
  have za14 : ∀ o, (W.alloc o).cell? ⟨B, 14, none⟩ = some (.int .i64 wi) := fun o => (World.cell?_of_block (Below.heap_alloc W o B ltB)).trans z14
  have zb14 : ∀ o o', ((W.alloc o).alloc o').cell? ⟨B, 14, none⟩ = some (.int .i64 wi) := fun o o' => (World.cell?_of_block (Below.heap_alloc (W.alloc o) o' B (by rw [size_alloc]; omega))).trans (za14 o)
  have hwN : IntKind.i64.wrap (N : Int) = N := by rw [IntKind.wrap_i64]; omega
  clear hWW hZ
  go_wp2_with fail
  go_region
  all_goals go_wp2_with fail
  all_goals go_ret2
  · have h3 := three W (.cells (madeCells #[.int .i64 0] N) 3) (.cells (madeCells #[.slice none 0 0] N) 57)
    refine ⟨⟨W.heap.size + 1 + 1, W.heap.size, N, W.heap.size + 1, N, fun _ => .slice none 0 0, fun _ => []⟩, rfl, (((hM.alloc _).alloc _).alloc _).drew, HR.out _ _ _ _ (h3 _).2.2 (h3 _).1 (h3 _).2.1, ?_⟩
    rintro k (e | e | e | ⟨i, hi, e⟩)
    · rw [e]; have := hM.size; show w.heap.size ≤ W.heap.size + 1 + 1; omega
    · rw [e]; have := hM.size; show w.heap.size ≤ W.heap.size; omega
    · rw [e]; have := hM.size; show w.heap.size ≤ W.heap.size + 1; omega
    · cases e
  · have h3 := three W (.cells (madeCells #[.slice none 0 0] N) 57) (.cells (madeCells #[.int .i64 0] N) 3)
    refine ⟨⟨W.heap.size + 1 + 1, W.heap.size + 1, N, W.heap.size, N, fun _ => .slice none 0 0, fun _ => []⟩, rfl, (((hM.alloc _).alloc _).alloc _).drew, HR.out _ _ _ _ (h3 _).2.2 (h3 _).2.1 (h3 _).1, ?_⟩
    rintro k (e | e | e | ⟨i, hi, e⟩)
    · rw [e]; have := hM.size; show w.heap.size ≤ W.heap.size + 1 + 1; omega
    · rw [e]; have := hM.size; show w.heap.size ≤ W.heap.size + 1; omega
    · rw [e]; have := hM.size; show w.heap.size ≤ W.heap.size; omega
    · cases e
theorem rnew_ok (c : Cf) (hB : newB c = true) (w : World) :
    Calls Try.prog 7 #[.agg (cfA c)] w fun e w' => ∃ r, e = .returned (.tuple #[.pointer (some ⟨r.R, 0, none⟩), .int .i64 0]) ∧ Qt w w' ∧ RfAt w' r c (newM c) 0 ∧ ∀ k, RFt r c.r0.toNat k → w.heap.size ≤ k := by
  have hb := hB
  unfold newB at hb
  simp only [Bool.and_eq_true, inB_iff] at hb
  obtain ⟨N, hN⟩ : ∃ N : Nat, c.r0 = (N : Int) - 1 := ⟨(c.r0 + 1).toNat, by omega⟩
  cases c
  replace hN : _ = _ := hN
  simp only at hN
  subst hN
  refine (rnew_aux N _ _ _ _ _ _ _ _ _ _ _ _ _ _ hB w).mono fun e w' ⟨r, h1, h2, h3, h4⟩ => ⟨r, h1, h2, h3, fun k hk => h4 k ?_⟩
  rcases hk with e | e | e | ⟨j, hj, e⟩
  · exact .inl e
  · exact .inr (.inl e)
  · exact .inr (.inr (.inl e))
  · refine .inr (.inr (.inr ⟨j, ?_, e⟩))
    simp only at hj
    omega
end Go.Proofs.Ytdanedibjccldaa

/-
  Both meters looked at.
-/
namespace Go.Proofs.Ytdanedibjccldaa
open Go.RowKit
set_option linter.unusedVariables false

set_option maxRecDepth 100000 in
theorem looks_any {w : World} {b : Nat} {r : Rp} {c : Cf} {m : Ms} {M : Nat} (h : MsAt w b m) (hr : RfAt w r c m M) (ok : m.Ok) (hM : M ≤ 4398046511104) :
    Calls Try.prog 17 #[.pointer (some ⟨b, 0, none⟩), .pointer (some ⟨r.R, 0, none⟩)] w fun e w' => e = .returned (.bool true) ∧ Qt w w' := by
  go_enter Try.func17, Try.ntmps17
  go_wp2_with fail
  go_loopw [5, 6, 7, 8, 9] (fun v5 _ _ _ _ wr => ∃ i : Int, -1 ≤ i ∧ i ≤ 10 ∧ v5 = .int .i64 i ∧ Qt w wr) (fun v5 _ _ _ _ _ => (10 - intOf v5).toNat)
  case atStart => exact ⟨-1, by omega, by omega, rfl, Mv.refl _ _⟩
  case round =>
    obtain ⟨i, h1, h2, rfl, q⟩ := hrel
    replace h := h.mv q (fun e => e)
    replace hr := hr.qt q
    by_cases hlt : i ≤ 9
    · go_wp2_with fail
      refine (used_any h ok i).mono ?_
      rintro _ w1 ⟨rfl, q1⟩
      replace h := h.mv q1 (fun e => e)
      replace hr := hr.qt q1
      go_wp2_with fail
      refine (rused_any hr ok hM i).mono ?_
      rintro _ w2 ⟨rfl, q2⟩
      generalize useP m i = P
      generalize useN m i = N
      go_wp2_with fail
      go_round
      case rel => exact ⟨i + 1, by omega, by omega, by go_num, (q.trans q1 (fun _ e => e.elim)).trans q2 (fun _ e => e.elim)⟩
      case measure => simp [intOf]; omega
    · go_wp2_with fail
      refine (win_any h ok).mono ?_
      rintro _ w1 ⟨rfl, q1⟩
      replace hr := hr.qt q1
      go_wp2_with fail
      refine (rwin_any hr ok).mono ?_
      rintro _ w2 ⟨rfl, q2⟩
      generalize m.t / m.l = V
      go_wp2_with fail
      go_ret
      exact ⟨by simp, (q.trans q1 (fun _ e => e.elim)).trans q2 (fun _ e => e.elim)⟩
end Go.Proofs.Ytdanedibjccldaa

/-
  The walk of QuotaDoes.
-/
namespace Go.Proofs.Ytdanedibjccldaa
open Go.RowKit
set_option linter.unusedVariables false

/-- The other meter, with one action of its client 2. -/
def oM : Ms := actM (newM exC) 2 1
theorem oM_ok : oM.Ok := actM_ok x0_ok 2 1
theorem oM_p : useP oM 2 = 0 := by decide +kernel
theorem oM_n : useN oM 2 = 1 := by decide +kernel
/-- Both meters between two acts, the other one, and all else as it was. -/
structure DJ (w v : World) (b ob : Nat) (c : Cf) (m m' : Ms) (r : Rp) (M : Nat) : Prop where
  mv : Qt w v
  ms : MsAt v b m
  rf : RfAt v r c m' M
  ot : MsAt v ob oM
  ap : ∀ k, RFt r c.r0.toNat k → w.heap.size ≤ k ∧ k ≠ b ∧ k ≠ ob
  nb : w.heap.size ≤ b
  no : w.heap.size ≤ ob
  ne : ob ≠ b
theorem DJ.qt {w v v' : World} {b ob : Nat} {c : Cf} {m m' : Ms} {r : Rp} {M : Nat} (h : DJ w v b ob c m m' r M) (q : Qt v v') : DJ w v' b ob c m m' r M :=
  ⟨h.mv.trans q (fun _ e => e.elim), h.ms.mv q (fun e => e), h.rf.qt q, h.ot.mv q (fun e => e), h.ap, h.nb, h.no, h.ne⟩
theorem DJ.prog {w v v' : World} {b ob : Nat} {c : Cf} {m m' m1 : Ms} {r : Rp} {M : Nat} (h : DJ w v b ob c m m' r M) (q : At b v v') (hm : MsAt v' b m1) : DJ w v' b ob c m1 m' r M :=
  ⟨h.mv.trans q (fun x e => .inr (by rw [e]; exact h.nb)), hm, h.rf.mv q (fun x hx e => (h.ap x hx).2.1 e), h.ot.mv q (fun e => h.ne e), h.ap, h.nb, h.no, h.ne⟩
theorem DJ.doc {w v v' : World} {b ob : Nat} {c : Cf} {m m' m1 : Ms} {r r' : Rp} {M M' : Nat} (h : DJ w v b ob c m m' r M) (q : RS v r c.r0.toNat v' r') (hr : RfAt v' r' c m1 M') : DJ w v' b ob c m m1 r' M' :=
  ⟨h.mv.trans q.mv (fun x e => .inr (h.ap x e).1), h.ms.mv q.mv (fun e => (h.ap _ e).2.1 rfl), hr, h.ot.mv q.mv (fun e => (h.ap _ e).2.2 rfl), fun k hk => by
    rcases q.ft k hk with e | e
    · exact h.ap k e
    · have h1 := h.ms.lt
      have h2 := h.ot.lt
      have h3 := h.mv.size
      exact ⟨by omega, by omega, by omega⟩, h.nb, h.no, h.ne⟩
structure DI (w wr : World) (b R ob : Nat) (c : Cf) (M : Nat) : Prop where
  ex : ∃ m r, DJ w wr b ob c m m r M ∧ m.Ok ∧ r.R = R

set_option maxRecDepth 100000 in
set_option maxHeartbeats 40000000 in
theorem does_any (c : Cf) (la : Option Addr) (ll lc : Nat) (A : Nat → Act4) (w : World) (hA : Acts w la ll A) (hll : ll < 4398046511104) :
    Calls Try.prog 3 #[.agg (cfA c), .slice la ll lc] w fun e w' => e = .returned (.bool true) ∧ Below w.heap.size w w' := by
  have hZ : (w.alloc (.cells (cfA c) 25)).heap[w.heap.size]? = some (.cells (cfA c) 25 (0, 0)) := heap_new w _
  have hM : Qt w (w.alloc (.cells (cfA c) 25)) := (Mv.refl w _).alloc _
  go_enter Try.func3, Try.ntmps3
  go_upto_region 1 with fail
  generalize hWW : w.alloc _ = W at hZ hM ⊢
  generalize hBB : w.heap.size = B at hZ ⊢
  clear hWW
  go_wp2_with fail
  refine (works_any W).mono ?_
  rintro _ w1 ⟨rfl, m1⟩
  replace hZ := (m1.block B (lt_of hZ) (fun e => e)).trans hZ
  replace hM : Qt w w1 := hM.trans m1 (fun _ e => e.elim)
  clear m1
  go_wp2_with (refine wpList_load_row rfl 25 (.tmp 2) rfl B rfl 25 (cfA c) (0, 0) _ hZ Try.underlying25 rfl (by kernel_rfl) ?_)
  by_cases hB : newB c = true
  · refine (new_ok c hB w1).mono ?_
    rintro _ w2 ⟨b, rfl, m2, hm, hb⟩
    replace hZ := (m2.block B (lt_of hZ) (fun e => e)).trans hZ
    go_wp2_with (refine wpList_load_row rfl 25 (.tmp 2) rfl B rfl 25 (cfA c) (0, 0) _ hZ Try.underlying25 rfl (by kernel_rfl) ?_)
    refine (rnew_ok c hB w2).mono ?_
    rintro _ w3 ⟨r, rfl, m3, hr, hk⟩
    go_wp2_with fail
    refine (plain_any w3).mono ?_
    rintro _ w4 ⟨rfl, m4⟩
    go_wp2_with fail
    refine (new_ok exC (by decide +kernel) w4).mono ?_
    rintro _ w5 ⟨ob, rfl, m5, ho, hob⟩
    have hN : DJ w w5 b ob c (newM c) (newM c) r 0 ∧ MsAt w5 ob (newM exC) ∧ ob ≠ b ∧ w.heap.size ≤ ob → True := fun _ => trivial
    clear hN
    have l2 := hm.lt
    have s1 := hM.size
    have s2 := m2.size
    have s3 := m3.size
    have s4 := m4.size
    have hne : ob ≠ b := by omega
    have q25 : Qt w2 w5 := (m3.trans m4 (fun _ e => e.elim)).trans m5 (fun _ e => e.elim)
    have q35 : Qt w3 w5 := m4.trans m5 (fun _ e => e.elim)
    have hm5 : MsAt w5 b (newM c) := hm.mv q25 (fun e => e)
    have hr5 := hr.qt q35
    have q5 : Qt w w5 := (hM.trans m2 (fun _ e => e.elim)).trans q25 (fun _ e => e.elim)
    have hap : ∀ k, RFt r c.r0.toNat k → w.heap.size ≤ k ∧ k ≠ b ∧ k ≠ ob := fun k h => by
      have h1 := hk k h
      have h2 := hr.lt h
      exact ⟨by omega, by omega, by omega⟩
    have nb : w.heap.size ≤ b := by omega
    have no : w.heap.size ≤ ob := by omega
    clear hZ hM m2 hm hb hr hk m3 m4 m5 hob l2 s1 s2 s3 s4 q25 q35
    go_wp2_with fail
    refine (acts_any ho x0_ok 2 1).mono ?_
    rintro _ w6 ⟨rfl, m6, ho6⟩
    have hI : DI w w6 b r.R ob c 0 := ⟨newM c, r, ⟨q5.trans m6 (fun x e => .inr (by rw [e]; exact no)), hm5.mv m6 (fun e => hne e.symm), hr5.mv m6 (fun x hx e => (hap x hx).2.2 e), ho6, hap, nb, no, hne⟩, newM_ok hB, rfl⟩
    clear ho m6 ho6 hm5 hr5 q5 hap nb no hne
    generalize r.R = R at hI ⊢
    generalize actE (newM exC) 2 1 = oe
    go_wp2_with fail
    go_loopw [11, 12, 13, 14, 15, 16, 17, 18, 19, 20, 21] (fun v11 _ _ _ _ _ _ _ _ _ _ wr => ∃ i : Nat, i ≤ ll ∧ v11 = .int .i64 i ∧ DI w wr b R ob c i) (fun v11 _ _ _ _ _ _ _ _ _ _ _ => ll - (intOf v11).toNat)
    case atStart => exact ⟨0, by omega, rfl, hI⟩
    case round =>
      clear hI
      obtain ⟨i, hi, rfl, hI⟩ := hrel
      obtain ⟨m, r, hJ, ok, rfl⟩ := hI.ex
      clear hI
      by_cases hlt : i < ll
      · have hb : (i : Int) < (ll : Int) := by omega
        have hMM : i + 1 ≤ 4398046511104 := by omega
        obtain ⟨ab, off, rfl, hbl, hcell⟩ := hA (by omega)
        obtain ⟨hok4, k0, k1, k2, k3⟩ := hcell i hlt
        clear hcell hA
        have hbk := hJ.mv.block ab hbl (fun e => e)
        have hcc : ∀ j, wr.cell? ⟨ab, j, none⟩ = w.cell? ⟨ab, j, none⟩ := fun j => by unfold World.cell?; rw [hbk]
        rw [← hcc] at k0 k1 k2 k3
        clear hcc hbk hok4
        obtain ⟨⟨kk, cl, n, t⟩, eA⟩ : ∃ a, A i = a := ⟨_, rfl⟩
        rw [eA] at k0 k1 k2 k3
        simp only at k0 k1 k2 k3
        have xx : (wr.alloc (.cells #[.int .i64 kk, .int .i64 cl, .int .i64 n, .int .i64 t] 38)).heap[wr.heap.size]? = some (.cells #[.int .i64 kk, .int .i64 cl, .int .i64 n, .int .i64 t] 38 (0, 0)) := heap_new wr _
        have hXb : wr.heap.size ≠ b := fun e => by have := hJ.ms.lt; omega
        replace hJ := hJ.qt (v' := wr.alloc (.cells #[.int .i64 kk, .int .i64 cl, .int .i64 n, .int .i64 t] 38)) ((Mv.refl wr _).alloc _)
        clear eA
        go_upto_region 16 with fail
        generalize hWW : wr.alloc _ = W1 at hJ xx ⊢
        generalize hXX : wr.heap.size = X at xx hXb ⊢
        clear hWW hXX k0 k1 k2 k3
        have z0 : W1.cell? ⟨X, 0, none⟩ = some (.int .i64 kk) := cell_of xx 0
        have z1 : W1.cell? ⟨X, 1, none⟩ = some (.int .i64 cl) := cell_of xx 1
        have z2 : W1.cell? ⟨X, 2, none⟩ = some (.int .i64 n) := cell_of xx 2
        have z3 : W1.cell? ⟨X, 3, none⟩ = some (.int .i64 t) := cell_of xx 3
        by_cases e1 : kk = 1
        · subst e1
          go_wp2_with fail
          refine (acts_any hJ.ms ok cl n).mono ?_
          rintro _ w3 ⟨rfl, q3, h3⟩
          replace hJ := hJ.prog q3 h3
          replace xx := (q3.block X (lt_of xx) hXb).trans xx
          clear q3 h3 z0 z1 z2 z3
          have z1 := cell_of xx 1
          have z2 := cell_of xx 2
          go_wp2_with fail
          refine (racts_any hJ.rf ok hMM cl n).mono ?_
          rintro _ w4 ⟨rfl, r1, s4, h4⟩
          replace hJ := hJ.doc s4 h4
          have hI : DI w w4 b r.R ob c (i + 1) := ⟨_, _, hJ, actM_ok ok cl n, s4.R⟩
          generalize actE m cl n = f
          go_wp2_with fail
          go_round
          case rel => exact ⟨i + 1, by omega, by go_num, hI⟩
          case measure => simp [intOf]; omega
        by_cases e2 : kk = 2
        · subst e2
          go_wp2_with fail
          refine (Plan_any hJ.ms ok cl).mono ?_
          rintro _ w3 ⟨rfl, q3, h3⟩
          replace hJ := hJ.prog q3 h3
          replace xx := (q3.block X (lt_of xx) hXb).trans xx
          clear q3 h3 z0 z1 z2 z3
          have z1 := cell_of xx 1
          go_wp2_with fail
          refine (rplan_any hJ.rf ok cl).mono ?_
          rintro _ w4 ⟨rfl, s4, h4⟩
          replace hJ := hJ.doc s4 h4.more
          have hI : DI w w4 b r.R ob c (i + 1) := ⟨_, _, hJ, plnM_ok ok cl 1, s4.R⟩
          generalize plnE m cl 1 = f
          go_wp2_with fail
          go_round
          case rel => exact ⟨i + 1, by omega, by go_num, hI⟩
          case measure => simp [intOf]; omega
        by_cases e3 : kk = 3
        · subst e3
          go_wp2_with fail
          refine (Drop_any hJ.ms ok cl).mono ?_
          rintro _ w3 ⟨rfl, q3, h3⟩
          replace hJ := hJ.prog q3 h3
          replace xx := (q3.block X (lt_of xx) hXb).trans xx
          clear q3 h3 z0 z1 z2 z3
          have z1 := cell_of xx 1
          go_wp2_with fail
          refine (rdrop_any hJ.rf ok cl).mono ?_
          rintro _ w4 ⟨rfl, s4, h4⟩
          replace hJ := hJ.doc s4 h4.more
          have hI : DI w w4 b r.R ob c (i + 1) := ⟨_, _, hJ, plnM_ok ok cl (-1), s4.R⟩
          generalize plnE m cl (-1) = f
          go_wp2_with fail
          go_round
          case rel => exact ⟨i + 1, by omega, by go_num, hI⟩
          case measure => simp [intOf]; omega
        by_cases e4 : kk = 4
        · subst e4
          go_wp2_with fail
          refine (tick_any hJ.ms ok t).mono ?_
          rintro _ w3 ⟨rfl, q3, h3⟩
          replace hJ := hJ.prog q3 h3
          replace xx := (q3.block X (lt_of xx) hXb).trans xx
          clear q3 h3 z0 z1 z2 z3
          have z3 := cell_of xx 3
          go_wp2_with fail
          refine (rtick_any hJ.rf ok t).mono ?_
          rintro _ w4 ⟨rfl, s4, h4⟩
          replace hJ := hJ.doc s4 h4.more
          have hI : DI w w4 b r.R ob c (i + 1) := ⟨_, _, hJ, tckM_ok ok t, s4.R⟩
          generalize tckE m t = f
          go_wp2_with fail
          go_round
          case rel => exact ⟨i + 1, by omega, by go_num, hI⟩
          case measure => simp [intOf]; omega
        go_wp2_with fail
        refine (looks_any hJ.ms hJ.rf ok (by omega)).mono ?_
        rintro _ w3 ⟨rfl, q3⟩
        replace hJ := hJ.qt q3
        have hI : DI w w3 b r.R ob c (i + 1) := ⟨m, r, ⟨hJ.mv, hJ.ms, hJ.rf.more, hJ.ot, hJ.ap, hJ.nb, hJ.no, hJ.ne⟩, ok, rfl⟩
        go_wp2_with fail
        go_round
        case rel => exact ⟨i + 1, by omega, by go_num, hI⟩
        case measure => simp [intOf]; omega
      · have hb : ¬ (i : Int) < (ll : Int) := by omega
        go_wp2_with fail
        refine (looks_any hJ.ms hJ.rf ok (by omega)).mono ?_
        rintro _ w3 ⟨rfl, q3⟩
        replace hJ := hJ.qt q3
        go_wp2_with fail
        refine (used_any hJ.ot oM_ok 2).mono ?_
        rintro _ w4 ⟨rfl, q4⟩
        rw [oM_p, oM_n]
        go_wp2_with fail
        go_ret
        exact ⟨rfl, (hJ.mv.trans q4 (fun _ e => e.elim)).below (Nat.le_refl _) (fun _ e => e.elim)⟩
  · have hB' : newB c = false := by simpa using hB
    refine (new_no c hB' w1).mono ?_
    rintro _ w2 ⟨rfl, m2⟩
    replace hZ := (m2.block B (lt_of hZ) (fun e => e)).trans hZ
    go_wp2_with (refine wpList_load_row rfl 25 (.tmp 2) rfl B rfl 25 (cfA c) (0, 0) _ hZ Try.underlying25 rfl (by kernel_rfl) ?_)
    refine (rnew_no c hB' w2).mono ?_
    rintro _ w3 ⟨rfl, m3⟩
    go_wp2_with fail
    go_ret
    exact ⟨rfl, ((hM.trans m2 (fun _ e => e.elim)).trans m3 (fun _ e => e.elim)).below (Nat.le_refl _) (fun _ e => e.elim)⟩
end Go.Proofs.Ytdanedibjccldaa
