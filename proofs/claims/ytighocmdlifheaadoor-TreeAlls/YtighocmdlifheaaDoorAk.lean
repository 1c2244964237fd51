/-
  awake: what the chapter's examples fix is so.
-/
import Derived.Test.YtighocmdlifheaaDoorAw
namespace Go.Proofs.YtighocmdlifheaaDoor
open Go.RowKit
theorem field71 (a0 a1 a2 a3 : Value) (v : World) : (Instr.field 71 (.agg #[a0, a1, a2, a3]) 3).run Tryd.prog v = .ok a3 v := by kernel_rfl
set_option maxRecDepth 100000 in
set_option maxHeartbeats 8000000 in
theorem awake_any (w : World) (ht : Tab w) : Calls Tryd.prog 7 #[] w fun e w' => e = .returned (.bool true) ∧ Below w.heap.size w w' := by
  have HT : Hid (Tab w) := ht
  clear ht
  have cS := sum_any w
  go_enter Tryd.func7, Tryd.ntmps7
  go_wp2_with fail
  refine cS.mono ?_
  rintro e w1 ⟨⟨b, c, rfl, hl⟩, hb1⟩
  have HL1 := hl.hid
  have HB1 : Hid (Below w.heap.size w w1) := hb1
  have HT1 : Hid (Tab w1) := HT.out.on hb1
  clear hl hb1 cS HT
  have f1 : ∀ v, Below w1.heap.size w1 v → Calls Tryd.prog 23 #[.agg #[.int .u8 6, .int .u8 6, .int .u8 0, .int .i64 0, .int .u8 0, .string ⟨#[]⟩, .slice (some ⟨c, 0, none⟩) 2 2, .int .i64 0]] v fun e w' => e = .returned (.int .i64 5) ∧ Below v.heap.size v w' := fun v hv => levelX_any (sumN b c) v (HL1.out.on hv) (HT1.out.on hv)
  have f2 : ∀ v, Below w1.heap.size w1 v → Calls Tryd.prog 24 #[.agg #[.int .u8 6, .int .u8 6, .int .u8 0, .int .i64 0, .int .u8 0, .string ⟨#[]⟩, .slice (some ⟨c, 0, none⟩) 2 2, .int .i64 0]] v fun e w' => e = .returned (.int .i64 1) ∧ Below v.heap.size v w' := fun v hv => depthX_any (sumN b c) v (HL1.out.on hv) (by rw [sum_size]; decide) (HT1.out.on hv)
  have f3 : ∀ v, Below w1.heap.size w1 v → Calls Tryd.prog 19 #[.agg #[.int .u8 6, .int .u8 6, .int .u8 0, .int .i64 0, .int .u8 0, .string ⟨#[]⟩, .slice (some ⟨c, 0, none⟩) 2 2, .int .i64 0]] v fun e w' => e = .returned (.int .i64 5) ∧ Below v.heap.size v w' := fun v hv => size_any (sumN b c) v (HL1.out.on hv) (by rw [sum_size]; decide)
  have f4 : ∀ v, Below w1.heap.size w1 v → Calls Tryd.prog 25 #[.agg #[.int .u8 6, .int .u8 6, .int .u8 0, .int .i64 0, .int .u8 0, .string ⟨#[]⟩, .slice (some ⟨c, 0, none⟩) 2 2, .int .i64 0]] v fun e w' => e = .returned (.int .i64 0) ∧ Below v.heap.size v w' := fun v hv => checkExpr_any (sumN b c) v (HL1.out.on hv) (by rw [sum_size]; decide) (HT1.out.on hv)
  have f5 : ∀ v, Below w1.heap.size w1 v → Calls Tryd.prog 25 #[.agg #[.int .u8 1, .int .u8 0, .int .u8 6, .int .i64 0, .int .u8 0, .string ⟨#[]⟩, .slice none 0 0, .int .i64 0]] v fun e w' => e = .returned (.int .i64 120) ∧ Below v.heap.size v w' := fun v hv => checkExpr_any wrongN v (liesWrong v) (by decide) (HT1.out.on hv)
  have f6 : ∀ v, Below w1.heap.size w1 v → Calls Tryd.prog 28 #[.agg #[.int .u8 6, .int .u8 6, .int .u8 0, .int .i64 0, .int .u8 0, .string ⟨#[]⟩, .slice (some ⟨c, 0, none⟩) 2 2, .int .i64 0]] v (Bared (sumN b c) v) := fun v hv => bare_any (sumN b c) v (HL1.out.on hv) (by rw [sum_size]; decide)
  rw [show (sumN b c).vals = #[.int .u8 6, .int .u8 6, .int .u8 0, .int .i64 0, .int .u8 0, .string ⟨#[]⟩, .slice (some ⟨c, 0, none⟩) 2 2, .int .i64 0] from rfl]
  go_upto_region 2 with fail
  obtain ⟨V, eV⟩ : ∃ V, w1.alloc (.cells #[.int .u8 6, .int .u8 6, .int .u8 0, .int .i64 0, .int .u8 0, .string ⟨#[]⟩, .slice (some ⟨c, 0, none⟩) 2 2, .int .i64 0] 28) = V := ⟨_, rfl⟩
  have HBV : Hid (Below w1.heap.size w1 V) := by rw [← eV]; exact below_new _ _
  have HN : Hid (V.heap[w1.heap.size]? = some (.cells #[.int .u8 6, .int .u8 6, .int .u8 0, .int .i64 0, .int .u8 0, .string ⟨#[]⟩, .slice (some ⟨c, 0, none⟩) 2 2, .int .i64 0] 28 (0, 0))) := by rw [← eV]; exact heap_new _ _
  rw [eV]
  obtain ⟨N, eN⟩ : ∃ N, w1.heap.size = N := ⟨_, rfl⟩
  rw [eN] at HN ⊢
  clear eV
  have y0 : V.cell? ⟨N, 0, none⟩ = some (.int .u8 6) := cell_of HN.out 0
  have y1 : V.cell? ⟨N, 1, none⟩ = some (.int .u8 6) := cell_of HN.out 1
  have y2 : V.cell? ⟨N, 2, none⟩ = some (.int .u8 0) := cell_of HN.out 2
  have y3 : V.cell? ⟨N, 3, none⟩ = some (.int .i64 0) := cell_of HN.out 3
  have y4 : V.cell? ⟨N, 4, none⟩ = some (.int .u8 0) := cell_of HN.out 4
  have y5 : V.cell? ⟨N, 5, none⟩ = some (.string ⟨#[]⟩) := cell_of HN.out 5
  have y6 : V.cell? ⟨N, 6, none⟩ = some (.slice (some ⟨c, 0, none⟩) 2 2) := cell_of HN.out 6
  have y7 : V.cell? ⟨N, 7, none⟩ = some (.int .i64 0) := cell_of HN.out 7
  go_wp2_with fail
  refine (f1 _ HBV.out).mono ?_
  rintro e v1 ⟨rfl, hb⟩
  have HN1 : Hid (v1.heap[N]? = some (.cells #[.int .u8 6, .int .u8 6, .int .u8 0, .int .i64 0, .int .u8 0, .string ⟨#[]⟩, .slice (some ⟨c, 0, none⟩) 2 2, .int .i64 0] 28 (0, 0))) := (hb.block N (Array.getElem?_eq_some_iff.1 HN.out).1).trans HN.out
  have HB1x : Hid (Below w1.heap.size w1 v1) := below2 HBV.out hb
  clear y0 y1 y2 y3 y4 y5 y6 y7
  clear hb HN HBV
  have y0 : v1.cell? ⟨N, 0, none⟩ = some (.int .u8 6) := cell_of HN1.out 0
  have y1 : v1.cell? ⟨N, 1, none⟩ = some (.int .u8 6) := cell_of HN1.out 1
  have y2 : v1.cell? ⟨N, 2, none⟩ = some (.int .u8 0) := cell_of HN1.out 2
  have y3 : v1.cell? ⟨N, 3, none⟩ = some (.int .i64 0) := cell_of HN1.out 3
  have y4 : v1.cell? ⟨N, 4, none⟩ = some (.int .u8 0) := cell_of HN1.out 4
  have y5 : v1.cell? ⟨N, 5, none⟩ = some (.string ⟨#[]⟩) := cell_of HN1.out 5
  have y6 : v1.cell? ⟨N, 6, none⟩ = some (.slice (some ⟨c, 0, none⟩) 2 2) := cell_of HN1.out 6
  have y7 : v1.cell? ⟨N, 7, none⟩ = some (.int .i64 0) := cell_of HN1.out 7
  go_wp2_with fail
  refine (f2 _ HB1x.out).mono ?_
  rintro e v2 ⟨rfl, hb⟩
  have HN2 : Hid (v2.heap[N]? = some (.cells #[.int .u8 6, .int .u8 6, .int .u8 0, .int .i64 0, .int .u8 0, .string ⟨#[]⟩, .slice (some ⟨c, 0, none⟩) 2 2, .int .i64 0] 28 (0, 0))) := (hb.block N (Array.getElem?_eq_some_iff.1 HN1.out).1).trans HN1.out
  have HB2x : Hid (Below w1.heap.size w1 v2) := below2 HB1x.out hb
  clear y0 y1 y2 y3 y4 y5 y6 y7
  clear hb HN1 HB1x
  have y0 : v2.cell? ⟨N, 0, none⟩ = some (.int .u8 6) := cell_of HN2.out 0
  have y1 : v2.cell? ⟨N, 1, none⟩ = some (.int .u8 6) := cell_of HN2.out 1
  have y2 : v2.cell? ⟨N, 2, none⟩ = some (.int .u8 0) := cell_of HN2.out 2
  have y3 : v2.cell? ⟨N, 3, none⟩ = some (.int .i64 0) := cell_of HN2.out 3
  have y4 : v2.cell? ⟨N, 4, none⟩ = some (.int .u8 0) := cell_of HN2.out 4
  have y5 : v2.cell? ⟨N, 5, none⟩ = some (.string ⟨#[]⟩) := cell_of HN2.out 5
  have y6 : v2.cell? ⟨N, 6, none⟩ = some (.slice (some ⟨c, 0, none⟩) 2 2) := cell_of HN2.out 6
  have y7 : v2.cell? ⟨N, 7, none⟩ = some (.int .i64 0) := cell_of HN2.out 7
  go_wp2_with fail
  refine (f3 _ HB2x.out).mono ?_
  rintro e v3 ⟨rfl, hb⟩
  have HN3 : Hid (v3.heap[N]? = some (.cells #[.int .u8 6, .int .u8 6, .int .u8 0, .int .i64 0, .int .u8 0, .string ⟨#[]⟩, .slice (some ⟨c, 0, none⟩) 2 2, .int .i64 0] 28 (0, 0))) := (hb.block N (Array.getElem?_eq_some_iff.1 HN2.out).1).trans HN2.out
  have HB3x : Hid (Below w1.heap.size w1 v3) := below2 HB2x.out hb
  clear y0 y1 y2 y3 y4 y5 y6 y7
  clear hb HN2 HB2x
  have y0 : v3.cell? ⟨N, 0, none⟩ = some (.int .u8 6) := cell_of HN3.out 0
  have y1 : v3.cell? ⟨N, 1, none⟩ = some (.int .u8 6) := cell_of HN3.out 1
  have y2 : v3.cell? ⟨N, 2, none⟩ = some (.int .u8 0) := cell_of HN3.out 2
  have y3 : v3.cell? ⟨N, 3, none⟩ = some (.int .i64 0) := cell_of HN3.out 3
  have y4 : v3.cell? ⟨N, 4, none⟩ = some (.int .u8 0) := cell_of HN3.out 4
  have y5 : v3.cell? ⟨N, 5, none⟩ = some (.string ⟨#[]⟩) := cell_of HN3.out 5
  have y6 : v3.cell? ⟨N, 6, none⟩ = some (.slice (some ⟨c, 0, none⟩) 2 2) := cell_of HN3.out 6
  have y7 : v3.cell? ⟨N, 7, none⟩ = some (.int .i64 0) := cell_of HN3.out 7
  go_wp2_with fail
  refine (f4 _ HB3x.out).mono ?_
  rintro e v4 ⟨rfl, hb⟩
  have HN4 : Hid (v4.heap[N]? = some (.cells #[.int .u8 6, .int .u8 6, .int .u8 0, .int .i64 0, .int .u8 0, .string ⟨#[]⟩, .slice (some ⟨c, 0, none⟩) 2 2, .int .i64 0] 28 (0, 0))) := (hb.block N (Array.getElem?_eq_some_iff.1 HN3.out).1).trans HN3.out
  have HB4x : Hid (Below w1.heap.size w1 v4) := below2 HB3x.out hb
  clear y0 y1 y2 y3 y4 y5 y6 y7
  clear hb HN3 HB3x
  have y0 : v4.cell? ⟨N, 0, none⟩ = some (.int .u8 6) := cell_of HN4.out 0
  have y1 : v4.cell? ⟨N, 1, none⟩ = some (.int .u8 6) := cell_of HN4.out 1
  have y2 : v4.cell? ⟨N, 2, none⟩ = some (.int .u8 0) := cell_of HN4.out 2
  have y3 : v4.cell? ⟨N, 3, none⟩ = some (.int .i64 0) := cell_of HN4.out 3
  have y4 : v4.cell? ⟨N, 4, none⟩ = some (.int .u8 0) := cell_of HN4.out 4
  have y5 : v4.cell? ⟨N, 5, none⟩ = some (.string ⟨#[]⟩) := cell_of HN4.out 5
  have y6 : v4.cell? ⟨N, 6, none⟩ = some (.slice (some ⟨c, 0, none⟩) 2 2) := cell_of HN4.out 6
  have y7 : v4.cell? ⟨N, 7, none⟩ = some (.int .i64 0) := cell_of HN4.out 7
  go_wp2_with fail
  refine (f5 _ HB4x.out).mono ?_
  rintro e v5 ⟨rfl, hb⟩
  have HN5 : Hid (v5.heap[N]? = some (.cells #[.int .u8 6, .int .u8 6, .int .u8 0, .int .i64 0, .int .u8 0, .string ⟨#[]⟩, .slice (some ⟨c, 0, none⟩) 2 2, .int .i64 0] 28 (0, 0))) := (hb.block N (Array.getElem?_eq_some_iff.1 HN4.out).1).trans HN4.out
  have HB5x : Hid (Below w1.heap.size w1 v5) := below2 HB4x.out hb
  clear y0 y1 y2 y3 y4 y5 y6 y7
  clear hb HN4 HB4x
  go_wp2_with fail
  refine (least_any _).mono ?_
  rintro e v6 ⟨⟨p2, p3, p4, rfl, hLe⟩, hb⟩
  have HN6 : Hid (v6.heap[N]? = some (.cells #[.int .u8 6, .int .u8 6, .int .u8 0, .int .i64 0, .int .u8 0, .string ⟨#[]⟩, .slice (some ⟨c, 0, none⟩) 2 2, .int .i64 0] 28 (0, 0))) := (hb.block N (Array.getElem?_eq_some_iff.1 HN5.out).1).trans HN5.out
  have HB6x : Hid (Below w1.heap.size w1 v6) := below2 HB5x.out hb
  have cC := check_least hLe (HT1.out.on HB6x.out)
  clear hb hLe HN5 HB5x
  go_wp2_with fail
  refine cC.mono ?_
  rintro e v7 ⟨rfl, hb⟩
  have HN7 : Hid (v7.heap[N]? = some (.cells #[.int .u8 6, .int .u8 6, .int .u8 0, .int .i64 0, .int .u8 0, .string ⟨#[]⟩, .slice (some ⟨c, 0, none⟩) 2 2, .int .i64 0] 28 (0, 0))) := (hb.block N (Array.getElem?_eq_some_iff.1 HN6.out).1).trans HN6.out
  have HB7x : Hid (Below w1.heap.size w1 v7) := below2 HB6x.out hb
  clear hb cC HN6 HB6x
  have cC := check_none v7 (HT1.out.on HB7x.out)
  go_wp2_with fail
  refine cC.mono ?_
  rintro e v8 ⟨rfl, hb⟩
  have HN8 : Hid (v8.heap[N]? = some (.cells #[.int .u8 6, .int .u8 6, .int .u8 0, .int .i64 0, .int .u8 0, .string ⟨#[]⟩, .slice (some ⟨c, 0, none⟩) 2 2, .int .i64 0] 28 (0, 0))) := (hb.block N (Array.getElem?_eq_some_iff.1 HN7.out).1).trans HN7.out
  have HB8x : Hid (Below w1.heap.size w1 v8) := below2 HB7x.out hb
  clear hb cC HN7 HB7x
  go_wp2_with fail
  refine (least_any _).mono ?_
  rintro e v9 ⟨⟨q2, q3, q4, rfl, hLe⟩, hb⟩
  have HN9 : Hid (v9.heap[N]? = some (.cells #[.int .u8 6, .int .u8 6, .int .u8 0, .int .i64 0, .int .u8 0, .string ⟨#[]⟩, .slice (some ⟨c, 0, none⟩) 2 2, .int .i64 0] 28 (0, 0))) := (hb.block N (Array.getElem?_eq_some_iff.1 HN8.out).1).trans HN8.out
  have HB9x : Hid (Below w1.heap.size w1 v9) := below2 HB8x.out hb
  have x1 : v9.cell? ⟨q4, 1, none⟩ = some (.slice (some ⟨q3, 0, none⟩) 1 1) := cell_of hLe.h4 1
  have y0 : v9.cell? ⟨q3, 0, none⟩ = some (.int .u8 4) := cell_of hLe.h3 0
  have y1 : v9.cell? ⟨q3, 1, none⟩ = some (.int .u8 0) := cell_of hLe.h3 1
  have y2 : v9.cell? ⟨q3, 2, none⟩ = some (.int .u8 0) := cell_of hLe.h3 2
  have y3 : v9.cell? ⟨q3, 3, none⟩ = some (.int .i64 0) := cell_of hLe.h3 3
  have y4 : v9.cell? ⟨q3, 4, none⟩ = some (.int .u8 1) := cell_of hLe.h3 4
  have y5 : v9.cell? ⟨q3, 5, none⟩ = some (.string ⟨#[]⟩) := cell_of hLe.h3 5
  have y6 : v9.cell? ⟨q3, 6, none⟩ = some (.slice none 0 0) := cell_of hLe.h3 6
  have y7 : v9.cell? ⟨q3, 7, none⟩ = some (.int .i64 0) := cell_of hLe.h3 7
  have hfd : (Instr.field 71 (.agg #[.string ⟨#[115]⟩, .slice none 0 0, .slice none 0 0, .slice (some ⟨q4, 0, none⟩) 1 1]) 3).run Tryd.prog v9 = .ok (.slice (some ⟨q4, 0, none⟩) 1 1) v9 := field71 _ _ _ _ v9
  have cR : Calls Tryd.prog 10 #[.agg #[.int .u8 4, .int .u8 0, .int .u8 0, .int .i64 0, .int .u8 1, .string ⟨#[]⟩, .slice none 0 0, .int .i64 0]] v9 fun e w' => e = .returned (.tuple #[.int .u16 2, .slice none 0 0]) ∧ Below v9.heap.size v9 w' := reads_has v9
  clear hb hLe HN8 HB8x
  go_wp2_with fail
  refine cR.mono ?_
  rintro e v10 ⟨rfl, hb⟩
  have HN10 : Hid (v10.heap[N]? = some (.cells #[.int .u8 6, .int .u8 6, .int .u8 0, .int .i64 0, .int .u8 0, .string ⟨#[]⟩, .slice (some ⟨c, 0, none⟩) 2 2, .int .i64 0] 28 (0, 0))) := (hb.block N (Array.getElem?_eq_some_iff.1 HN9.out).1).trans HN9.out
  have HB10x : Hid (Below w1.heap.size w1 v10) := below2 HB9x.out hb
  clear y0 y1 y2 y3 y4 y5 y6 y7
  clear hb cR HN9 HB9x x1
  have y0 : v10.cell? ⟨N, 0, none⟩ = some (.int .u8 6) := cell_of HN10.out 0
  have y1 : v10.cell? ⟨N, 1, none⟩ = some (.int .u8 6) := cell_of HN10.out 1
  have y2 : v10.cell? ⟨N, 2, none⟩ = some (.int .u8 0) := cell_of HN10.out 2
  have y3 : v10.cell? ⟨N, 3, none⟩ = some (.int .i64 0) := cell_of HN10.out 3
  have y4 : v10.cell? ⟨N, 4, none⟩ = some (.int .u8 0) := cell_of HN10.out 4
  have y5 : v10.cell? ⟨N, 5, none⟩ = some (.string ⟨#[]⟩) := cell_of HN10.out 5
  have y6 : v10.cell? ⟨N, 6, none⟩ = some (.slice (some ⟨c, 0, none⟩) 2 2) := cell_of HN10.out 6
  have y7 : v10.cell? ⟨N, 7, none⟩ = some (.int .i64 0) := cell_of HN10.out 7
  go_wp2_with fail
  refine (f6 _ HB10x.out).mono ?_
  rintro e v11 ⟨m', rfl, hl', hbare, _, hb⟩
  have HN11 : Hid (v11.heap[N]? = some (.cells #[.int .u8 6, .int .u8 6, .int .u8 0, .int .i64 0, .int .u8 0, .string ⟨#[]⟩, .slice (some ⟨c, 0, none⟩) 2 2, .int .i64 0] 28 (0, 0))) := (hb.block N (Array.getElem?_eq_some_iff.1 HN10.out).1).trans HN10.out
  have HB11x : Hid (Below w1.heap.size w1 v11) := below2 HB10x.out hb
  clear y0 y1 y2 y3 y4 y5 y6 y7
  have cS := fun v (hv : Below v11.heap.size v11 v) => same_any (sumN b c) m' v ((HL1.out.on HB11x.out).on hv) (hl'.on hv)
  rw [bare_same hbare] at cS
  obtain ⟨a', c', ks', rfl, hks, hk1⟩ : ∃ a' c' ks', m' = .mk ⟨6, 6, 0, 0, 0, ⟨#[]⟩, 0⟩ a' c' ks' ∧ ks'.length = 2 ∧ ∀ h : 1 < ks'.length, ks'[1].h.p = 0 := by
    cases hbare with
    | mk _ _ a' _ c' _ ks' hl hk =>
      refine ⟨a', c', ks', rfl, hl, fun h => ?_⟩
      have := hk 1 (by simp) h
      generalize ks'[1] = z at this
      cases this
      rfl
  have cS : ∀ v, Below v11.heap.size v11 v → Calls Tryd.prog 21 #[.agg #[.int .u8 6, .int .u8 6, .int .u8 0, .int .i64 0, .int .u8 0, .string ⟨#[]⟩, .slice (some ⟨c, 0, none⟩) 2 2, .int .i64 0], .agg #[.int .u8 6, .int .u8 6, .int .u8 0, .int .i64 0, .int .u8 0, .string ⟨#[]⟩, .slice a' 2 c', .int .i64 0]] v fun e w' => e = .returned (.bool true) ∧ Below v.heap.size v w' := fun v hv => by
    have := cS v hv
    unfold Nd.vals hdA at this
    simp only [Nd.h, Nd.a, Nd.c, Nd.ks, hks] at this
    exact this
  obtain ⟨kb, ko, ea, hat⟩ := hl'.kid 1 (by simp only [Nd.ks]; omega)
  have ea' : a' = some ⟨kb, ko, none⟩ := ea
  have hat7 : v11.cell? ⟨kb, ko + 1 * 8 + 7, none⟩ = some (.int .i64 0) := by
    have e7 : v11.cell? ⟨kb, ko + 1 * 8 + 7, none⟩ = some (.int .i64 (ks'[1]'(by omega)).h.p) := hat.c7
    rw [hk1 (by omega)] at e7
    exact e7
  rw [show (Nd.mk ⟨6, 6, 0, 0, 0, ⟨#[]⟩, 0⟩ a' c' ks').vals = #[.int .u8 6, .int .u8 6, .int .u8 0, .int .i64 0, .int .u8 0, .string ⟨#[]⟩, .slice a' 2 c', .int .i64 0] by simp [Nd.vals, hdA, Nd.h, Nd.a, Nd.c, Nd.ks, hks]]
  have Hc' : Hid (2 ≤ c') := by have := hl'.cap; simp only [Nd.ks, Nd.c, hks] at this; exact this
  have Hat : Hid (v11.cell? ⟨kb, ko + 1 * 8 + 7, none⟩ = some (.int .i64 0)) := hat7
  clear hb hl' hbare hks hk1 hat ea hat7 HN10 HB10x
  subst ea'
  go_upto_region 11 with fail
  obtain ⟨U, eU⟩ : ∃ U, v11.alloc (.cells #[.int .u8 6, .int .u8 6, .int .u8 0, .int .i64 0, .int .u8 0, .string ⟨#[]⟩, .slice (some ⟨kb, ko, none⟩) 2 c', .int .i64 0] 28) = U := ⟨_, rfl⟩
  have hbU : Below v11.heap.size v11 U := by rw [← eU]; exact below_new _ _
  have HM : Hid (U.heap[v11.heap.size]? = some (.cells #[.int .u8 6, .int .u8 6, .int .u8 0, .int .i64 0, .int .u8 0, .string ⟨#[]⟩, .slice (some ⟨kb, ko, none⟩) 2 c', .int .i64 0] 28 (0, 0))) := by rw [← eU]; exact heap_new _ _
  have HNU : Hid (U.heap[N]? = some (.cells #[.int .u8 6, .int .u8 6, .int .u8 0, .int .i64 0, .int .u8 0, .string ⟨#[]⟩, .slice (some ⟨c, 0, none⟩) 2 2, .int .i64 0] 28 (0, 0))) := (hbU.block N (Array.getElem?_eq_some_iff.1 HN11.out).1).trans HN11.out
  have cU := cS U hbU
  have kbl := World.block_lt_of_cell? _ _ Hat.out
  have HatU : Hid (U.cell? ⟨kb, ko + 1 * 8 + 7, none⟩ = some (.int .i64 0)) := (World.cell?_of_block (hbU.block kb kbl)).trans Hat.out
  have HBU : Hid (Below w1.heap.size w1 U) := below2 HB11x.out hbU
  rw [eU]
  obtain ⟨N2, eN2⟩ : ∃ N2, v11.heap.size = N2 := ⟨_, rfl⟩
  rw [eN2] at HM ⊢
  clear eU hbU kbl cS Hat
  have y0 : U.cell? ⟨N, 0, none⟩ = some (.int .u8 6) := cell_of HNU.out 0
  have y1 : U.cell? ⟨N, 1, none⟩ = some (.int .u8 6) := cell_of HNU.out 1
  have y2 : U.cell? ⟨N, 2, none⟩ = some (.int .u8 0) := cell_of HNU.out 2
  have y3 : U.cell? ⟨N, 3, none⟩ = some (.int .i64 0) := cell_of HNU.out 3
  have y4 : U.cell? ⟨N, 4, none⟩ = some (.int .u8 0) := cell_of HNU.out 4
  have y5 : U.cell? ⟨N, 5, none⟩ = some (.string ⟨#[]⟩) := cell_of HNU.out 5
  have y6 : U.cell? ⟨N, 6, none⟩ = some (.slice (some ⟨c, 0, none⟩) 2 2) := cell_of HNU.out 6
  have y7 : U.cell? ⟨N, 7, none⟩ = some (.int .i64 0) := cell_of HNU.out 7
  have z0 : U.cell? ⟨N2, 0, none⟩ = some (.int .u8 6) := cell_of HM.out 0
  have z1 : U.cell? ⟨N2, 1, none⟩ = some (.int .u8 6) := cell_of HM.out 1
  have z2 : U.cell? ⟨N2, 2, none⟩ = some (.int .u8 0) := cell_of HM.out 2
  have z3 : U.cell? ⟨N2, 3, none⟩ = some (.int .i64 0) := cell_of HM.out 3
  have z4 : U.cell? ⟨N2, 4, none⟩ = some (.int .u8 0) := cell_of HM.out 4
  have z5 : U.cell? ⟨N2, 5, none⟩ = some (.string ⟨#[]⟩) := cell_of HM.out 5
  have z6 : U.cell? ⟨N2, 6, none⟩ = some (.slice (some ⟨kb, ko, none⟩) 2 c') := cell_of HM.out 6
  have z7 : U.cell? ⟨N2, 7, none⟩ = some (.int .i64 0) := cell_of HM.out 7
  go_wp2_with fail
  refine cU.mono ?_
  rintro e X ⟨rfl, hb⟩
  have x6 : X.cell? ⟨N2, 6, none⟩ = some (.slice (some ⟨kb, ko, none⟩) 2 c') := cell_of ((hb.block N2 (Array.getElem?_eq_some_iff.1 HM.out).1).trans HM.out) 6
  have x7 : X.cell? ⟨kb, ko + 1 * 8 + 7, none⟩ = some (.int .i64 0) := (World.cell?_of_block (hb.block kb (World.block_lt_of_cell? _ _ HatU.out))).trans HatU.out
  have HX : Hid (Below w.heap.size w X) := below2 (below2 HB1.out HBU.out) hb
  clear hb cU HM HNU HatU HBU y0 y1 y2 y3 y4 y5 y6 y7 z0 z1 z2 z3 z4 z5 z6 z7 HN11 HB11x
  go_wp2_with fail
  go_ret
  exact ⟨rfl, HX.out⟩
end Go.Proofs.YtighocmdlifheaaDoor
