import Derived.Test.YtighocmdlifheaaDoorM18
import Derived.Test.YtighocmdlifheaaDoorM1
import Derived.Deep.Slices
import Derived.ProofKit
import Derived.OpenShut
import Derived.ChangeArms
import Derived.SizedLaws
/-
  awake: what the chapter's examples fix is so.
-/
namespace Go.Proofs.YtighocmdlifheaaDoor
open Go.RowKit
theorem field71 (a0 a1 a2 a3 : Value) (v : World) : (Instr.field 71 (.agg #[a0, a1, a2, a3]) 3).run Tryd.prog v = .ok a3 v := by kernel_rfl
set_option maxRecDepth 100000 in
set_option maxHeartbeats 8000000 in
theorem awake_any (w : World) (ht : Tab w) : Calls Tryd.prog 7 #[] w fun e w' => e = .returned (.bool true) ∧ Below w.heap.size w w' := by
  have HT : Hid (Tab w) := ht
  clear ht
  have cS := sum_any w
  go_enter Tryd.func7, Tryd.ntmps7
  go_wp2_with fail
  refine cS.mono ?_
  rintro e w1 ⟨⟨b, c, rfl, hl⟩, hb1⟩
  have HL1 := hl.hid
  have HB1 : Hid (Below w.heap.size w w1) := hb1
  have HT1 : Hid (Tab w1) := HT.out.on hb1
  clear hl hb1 cS HT
  have f1 : ∀ v, Below w1.heap.size w1 v → Calls Tryd.prog 23 #[.agg #[.int .u8 6, .int .u8 6, .int .u8 0, .int .i64 0, .int .u8 0, .string ⟨#[]⟩, .slice (some ⟨c, 0, none⟩) 2 2, .int .i64 0]] v fun e w' => e = .returned (.int .i64 5) ∧ Below v.heap.size v w' := fun v hv => levelX_any (sumN b c) v (HL1.out.on hv) (HT1.out.on hv)
  have f2 : ∀ v, Below w1.heap.size w1 v → Calls Tryd.prog 24 #[.agg #[.int .u8 6, .int .u8 6, .int .u8 0, .int .i64 0, .int .u8 0, .string ⟨#[]⟩, .slice (some ⟨c, 0, none⟩) 2 2, .int .i64 0]] v fun e w' => e = .returned (.int .i64 1) ∧ Below v.heap.size v w' := fun v hv => depthX_any (sumN b c) v (HL1.out.on hv) (by rw [sum_size]; decide) (HT1.out.on hv)
  have f3 : ∀ v, Below w1.heap.size w1 v → Calls Tryd.prog 19 #[.agg #[.int .u8 6, .int .u8 6, .int .u8 0, .int .i64 0, .int .u8 0, .string ⟨#[]⟩, .slice (some ⟨c, 0, none⟩) 2 2, .int .i64 0]] v fun e w' => e = .returned (.int .i64 5) ∧ Below v.heap.size v w' := fun v hv => size_any (sumN b c) v (HL1.out.on hv) (by rw [sum_size]; decide)
  have f4 : ∀ v, Below w1.heap.size w1 v → Calls Tryd.prog 25 #[.agg #[.int .u8 6, .int .u8 6, .int .u8 0, .int .i64 0, .int .u8 0, .string ⟨#[]⟩, .slice (some ⟨c, 0, none⟩) 2 2, .int .i64 0]] v fun e w' => e = .returned (.int .i64 0) ∧ Below v.heap.size v w' := fun v hv => checkExpr_any (sumN b c) v (HL1.out.on hv) (by rw [sum_size]; decide) (HT1.out.on hv)
  have f5 : ∀ v, Below w1.heap.size w1 v → Calls Tryd.prog 25 #[.agg #[.int .u8 1, .int .u8 0, .int .u8 6, .int .i64 0, .int .u8 0, .string ⟨#[]⟩, .slice none 0 0, .int .i64 0]] v fun e w' => e = .returned (.int .i64 120) ∧ Below v.heap.size v w' := fun v hv => checkExpr_any wrongN v (liesWrong v) (by decide) (HT1.out.on hv)
  have f6 : ∀ v, Below w1.heap.size w1 v → Calls Tryd.prog 28 #[.agg #[.int .u8 6, .int .u8 6, .int .u8 0, .int .i64 0, .int .u8 0, .string ⟨#[]⟩, .slice (some ⟨c, 0, none⟩) 2 2, .int .i64 0]] v (Bared (sumN b c) v) := fun v hv => bare_any (sumN b c) v (HL1.out.on hv) (by rw [sum_size]; decide)
  rw [show (sumN b c).vals = #[.int .u8 6, .int .u8 6, .int .u8 0, .int .i64 0, .int .u8 0, .string ⟨#[]⟩, .slice (some ⟨c, 0, none⟩) 2 2, .int .i64 0] from rfl]
  go_upto_region 2 with fail
  obtain ⟨V, eV⟩ : ∃ V, w1.alloc (.cells #[.int .u8 6, .int .u8 6, .int .u8 0, .int .i64 0, .int .u8 0, .string ⟨#[]⟩, .slice (some ⟨c, 0, none⟩) 2 2, .int .i64 0] 28) = V := ⟨_, rfl⟩
  have HBV : Hid (Below w1.heap.size w1 V) := by rw [← eV]; exact below_new _ _
  have HN : Hid (V.heap[w1.heap.size]? = some (.cells #[.int .u8 6, .int .u8 6, .int .u8 0, .int .i64 0, .int .u8 0, .string ⟨#[]⟩, .slice (some ⟨c, 0, none⟩) 2 2, .int .i64 0] 28 (0, 0))) := by rw [← eV]; exact heap_new _ _
  rw [eV]
  obtain ⟨N, eN⟩ : ∃ N, w1.heap.size = N := ⟨_, rfl⟩
  rw [eN] at HN ⊢
  clear eV
  have y0 : V.cell? ⟨N, 0, none⟩ = some (.int .u8 6) := cell_of HN.out 0
  have y1 : V.cell? ⟨N, 1, none⟩ = some (.int .u8 6) := cell_of HN.out 1
  have y2 : V.cell? ⟨N, 2, none⟩ = some (.int .u8 0) := cell_of HN.out 2
  have y3 : V.cell? ⟨N, 3, none⟩ = some (.int .i64 0) := cell_of HN.out 3
  have y4 : V.cell? ⟨N, 4, none⟩ = some (.int .u8 0) := cell_of HN.out 4
  have y5 : V.cell? ⟨N, 5, none⟩ = some (.string ⟨#[]⟩) := cell_of HN.out 5
  have y6 : V.cell? ⟨N, 6, none⟩ = some (.slice (some ⟨c, 0, none⟩) 2 2) := cell_of HN.out 6
  have y7 : V.cell? ⟨N, 7, none⟩ = some (.int .i64 0) := cell_of HN.out 7
  go_wp2_with fail
  refine (f1 _ HBV.out).mono ?_
  rintro e v1 ⟨rfl, hb⟩
  have HN1 : Hid (v1.heap[N]? = some (.cells #[.int .u8 6, .int .u8 6, .int .u8 0, .int .i64 0, .int .u8 0, .string ⟨#[]⟩, .slice (some ⟨c, 0, none⟩) 2 2, .int .i64 0] 28 (0, 0))) := (hb.block N (Array.getElem?_eq_some_iff.1 HN.out).1).trans HN.out
  have HB1x : Hid (Below w1.heap.size w1 v1) := below2 HBV.out hb
  clear y0 y1 y2 y3 y4 y5 y6 y7
  clear hb HN HBV
  have y0 : v1.cell? ⟨N, 0, none⟩ = some (.int .u8 6) := cell_of HN1.out 0
  have y1 : v1.cell? ⟨N, 1, none⟩ = some (.int .u8 6) := cell_of HN1.out 1
  have y2 : v1.cell? ⟨N, 2, none⟩ = some (.int .u8 0) := cell_of HN1.out 2
  have y3 : v1.cell? ⟨N, 3, none⟩ = some (.int .i64 0) := cell_of HN1.out 3
  have y4 : v1.cell? ⟨N, 4, none⟩ = some (.int .u8 0) := cell_of HN1.out 4
  have y5 : v1.cell? ⟨N, 5, none⟩ = some (.string ⟨#[]⟩) := cell_of HN1.out 5
  have y6 : v1.cell? ⟨N, 6, none⟩ = some (.slice (some ⟨c, 0, none⟩) 2 2) := cell_of HN1.out 6
  have y7 : v1.cell? ⟨N, 7, none⟩ = some (.int .i64 0) := cell_of HN1.out 7
  go_wp2_with fail
  refine (f2 _ HB1x.out).mono ?_
  rintro e v2 ⟨rfl, hb⟩
  have HN2 : Hid (v2.heap[N]? = some (.cells #[.int .u8 6, .int .u8 6, .int .u8 0, .int .i64 0, .int .u8 0, .string ⟨#[]⟩, .slice (some ⟨c, 0, none⟩) 2 2, .int .i64 0] 28 (0, 0))) := (hb.block N (Array.getElem?_eq_some_iff.1 HN1.out).1).trans HN1.out
  have HB2x : Hid (Below w1.heap.size w1 v2) := below2 HB1x.out hb
  clear y0 y1 y2 y3 y4 y5 y6 y7
  clear hb HN1 HB1x
  have y0 : v2.cell? ⟨N, 0, none⟩ = some (.int .u8 6) := cell_of HN2.out 0
  have y1 : v2.cell? ⟨N, 1, none⟩ = some (.int .u8 6) := cell_of HN2.out 1
  have y2 : v2.cell? ⟨N, 2, none⟩ = some (.int .u8 0) := cell_of HN2.out 2
  have y3 : v2.cell? ⟨N, 3, none⟩ = some (.int .i64 0) := cell_of HN2.out 3
  have y4 : v2.cell? ⟨N, 4, none⟩ = some (.int .u8 0) := cell_of HN2.out 4
  have y5 : v2.cell? ⟨N, 5, none⟩ = some (.string ⟨#[]⟩) := cell_of HN2.out 5
  have y6 : v2.cell? ⟨N, 6, none⟩ = some (.slice (some ⟨c, 0, none⟩) 2 2) := cell_of HN2.out 6
  have y7 : v2.cell? ⟨N, 7, none⟩ = some (.int .i64 0) := cell_of HN2.out 7
  go_wp2_with fail
  refine (f3 _ HB2x.out).mono ?_
  rintro e v3 ⟨rfl, hb⟩
  have HN3 : Hid (v3.heap[N]? = some (.cells #[.int .u8 6, .int .u8 6, .int .u8 0, .int .i64 0, .int .u8 0, .string ⟨#[]⟩, .slice (some ⟨c, 0, none⟩) 2 2, .int .i64 0] 28 (0, 0))) := (hb.block N (Array.getElem?_eq_some_iff.1 HN2.out).1).trans HN2.out
  have HB3x : Hid (Below w1.heap.size w1 v3) := below2 HB2x.out hb
  clear y0 y1 y2 y3 y4 y5 y6 y7
  clear hb HN2 HB2x
  have y0 : v3.cell? ⟨N, 0, none⟩ = some (.int .u8 6) := cell_of HN3.out 0
  have y1 : v3.cell? ⟨N, 1, none⟩ = some (.int .u8 6) := cell_of HN3.out 1
  have y2 : v3.cell? ⟨N, 2, none⟩ = some (.int .u8 0) := cell_of HN3.out 2
  have y3 : v3.cell? ⟨N, 3, none⟩ = some (.int .i64 0) := cell_of HN3.out 3
  have y4 : v3.cell? ⟨N, 4, none⟩ = some (.int .u8 0) := cell_of HN3.out 4
  have y5 : v3.cell? ⟨N, 5, none⟩ = some (.string ⟨#[]⟩) := cell_of HN3.out 5
  have y6 : v3.cell? ⟨N, 6, none⟩ = some (.slice (some ⟨c, 0, none⟩) 2 2) := cell_of HN3.out 6
  have y7 : v3.cell? ⟨N, 7, none⟩ = some (.int .i64 0) := cell_of HN3.out 7
  go_wp2_with fail
  refine (f4 _ HB3x.out).mono ?_
  rintro e v4 ⟨rfl, hb⟩
  have HN4 : Hid (v4.heap[N]? = some (.cells #[.int .u8 6, .int .u8 6, .int .u8 0, .int .i64 0, .int .u8 0, .string ⟨#[]⟩, .slice (some ⟨c, 0, none⟩) 2 2, .int .i64 0] 28 (0, 0))) := (hb.block N (Array.getElem?_eq_some_iff.1 HN3.out).1).trans HN3.out
  have HB4x : Hid (Below w1.heap.size w1 v4) := below2 HB3x.out hb
  clear y0 y1 y2 y3 y4 y5 y6 y7
  clear hb HN3 HB3x
  have y0 : v4.cell? ⟨N, 0, none⟩ = some (.int .u8 6) := cell_of HN4.out 0
  have y1 : v4.cell? ⟨N, 1, none⟩ = some (.int .u8 6) := cell_of HN4.out 1
  have y2 : v4.cell? ⟨N, 2, none⟩ = some (.int .u8 0) := cell_of HN4.out 2
  have y3 : v4.cell? ⟨N, 3, none⟩ = some (.int .i64 0) := cell_of HN4.out 3
  have y4 : v4.cell? ⟨N, 4, none⟩ = some (.int .u8 0) := cell_of HN4.out 4
  have y5 : v4.cell? ⟨N, 5, none⟩ = some (.string ⟨#[]⟩) := cell_of HN4.out 5
  have y6 : v4.cell? ⟨N, 6, none⟩ = some (.slice (some ⟨c, 0, none⟩) 2 2) := cell_of HN4.out 6
  have y7 : v4.cell? ⟨N, 7, none⟩ = some (.int .i64 0) := cell_of HN4.out 7
  go_wp2_with fail
  refine (f5 _ HB4x.out).mono ?_
  rintro e v5 ⟨rfl, hb⟩
  have HN5 : Hid (v5.heap[N]? = some (.cells #[.int .u8 6, .int .u8 6, .int .u8 0, .int .i64 0, .int .u8 0, .string ⟨#[]⟩, .slice (some ⟨c, 0, none⟩) 2 2, .int .i64 0] 28 (0, 0))) := (hb.block N (Array.getElem?_eq_some_iff.1 HN4.out).1).trans HN4.out
  have HB5x : Hid (Below w1.heap.size w1 v5) := below2 HB4x.out hb
  clear y0 y1 y2 y3 y4 y5 y6 y7
  clear hb HN4 HB4x
  go_wp2_with fail
  refine (least_any _).mono ?_
  rintro e v6 ⟨⟨p2, p3, p4, rfl, hLe⟩, hb⟩
  have HN6 : Hid (v6.heap[N]? = some (.cells #[.int .u8 6, .int .u8 6, .int .u8 0, .int .i64 0, .int .u8 0, .string ⟨#[]⟩, .slice (some ⟨c, 0, none⟩) 2 2, .int .i64 0] 28 (0, 0))) := (hb.block N (Array.getElem?_eq_some_iff.1 HN5.out).1).trans HN5.out
  have HB6x : Hid (Below w1.heap.size w1 v6) := below2 HB5x.out hb
  have cC := check_least hLe (HT1.out.on HB6x.out)
  clear hb hLe HN5 HB5x
  go_wp2_with fail
  refine cC.mono ?_
  rintro e v7 ⟨rfl, hb⟩
  have HN7 : Hid (v7.heap[N]? = some (.cells #[.int .u8 6, .int .u8 6, .int .u8 0, .int .i64 0, .int .u8 0, .string ⟨#[]⟩, .slice (some ⟨c, 0, none⟩) 2 2, .int .i64 0] 28 (0, 0))) := (hb.block N (Array.getElem?_eq_some_iff.1 HN6.out).1).trans HN6.out
  have HB7x : Hid (Below w1.heap.size w1 v7) := below2 HB6x.out hb
  clear hb cC HN6 HB6x
  have cC := check_none v7 (HT1.out.on HB7x.out)
  go_wp2_with fail
  refine cC.mono ?_
  rintro e v8 ⟨rfl, hb⟩
  have HN8 : Hid (v8.heap[N]? = some (.cells #[.int .u8 6, .int .u8 6, .int .u8 0, .int .i64 0, .int .u8 0, .string ⟨#[]⟩, .slice (some ⟨c, 0, none⟩) 2 2, .int .i64 0] 28 (0, 0))) := (hb.block N (Array.getElem?_eq_some_iff.1 HN7.out).1).trans HN7.out
  have HB8x : Hid (Below w1.heap.size w1 v8) := below2 HB7x.out hb
  clear hb cC HN7 HB7x
  go_wp2_with fail
  refine (least_any _).mono ?_
  rintro e v9 ⟨⟨q2, q3, q4, rfl, hLe⟩, hb⟩
  have HN9 : Hid (v9.heap[N]? = some (.cells #[.int .u8 6, .int .u8 6, .int .u8 0, .int .i64 0, .int .u8 0, .string ⟨#[]⟩, .slice (some ⟨c, 0, none⟩) 2 2, .int .i64 0] 28 (0, 0))) := (hb.block N (Array.getElem?_eq_some_iff.1 HN8.out).1).trans HN8.out
  have HB9x : Hid (Below w1.heap.size w1 v9) := below2 HB8x.out hb
  have x1 : v9.cell? ⟨q4, 1, none⟩ = some (.slice (some ⟨q3, 0, none⟩) 1 1) := cell_of hLe.h4 1
  have y0 : v9.cell? ⟨q3, 0, none⟩ = some (.int .u8 4) := cell_of hLe.h3 0
  have y1 : v9.cell? ⟨q3, 1, none⟩ = some (.int .u8 0) := cell_of hLe.h3 1
  have y2 : v9.cell? ⟨q3, 2, none⟩ = some (.int .u8 0) := cell_of hLe.h3 2
  have y3 : v9.cell? ⟨q3, 3, none⟩ = some (.int .i64 0) := cell_of hLe.h3 3
  have y4 : v9.cell? ⟨q3, 4, none⟩ = some (.int .u8 1) := cell_of hLe.h3 4
  have y5 : v9.cell? ⟨q3, 5, none⟩ = some (.string ⟨#[]⟩) := cell_of hLe.h3 5
  have y6 : v9.cell? ⟨q3, 6, none⟩ = some (.slice none 0 0) := cell_of hLe.h3 6
  have y7 : v9.cell? ⟨q3, 7, none⟩ = some (.int .i64 0) := cell_of hLe.h3 7
  have hfd : (Instr.field 71 (.agg #[.string ⟨#[115]⟩, .slice none 0 0, .slice none 0 0, .slice (some ⟨q4, 0, none⟩) 1 1]) 3).run Tryd.prog v9 = .ok (.slice (some ⟨q4, 0, none⟩) 1 1) v9 := field71 _ _ _ _ v9
  have cR : Calls Tryd.prog 10 #[.agg #[.int .u8 4, .int .u8 0, .int .u8 0, .int .i64 0, .int .u8 1, .string ⟨#[]⟩, .slice none 0 0, .int .i64 0]] v9 fun e w' => e = .returned (.tuple #[.int .u16 2, .slice none 0 0]) ∧ Below v9.heap.size v9 w' := reads_has v9
  clear hb hLe HN8 HB8x
  go_wp2_with fail
  refine cR.mono ?_
  rintro e v10 ⟨rfl, hb⟩
  have HN10 : Hid (v10.heap[N]? = some (.cells #[.int .u8 6, .int .u8 6, .int .u8 0, .int .i64 0, .int .u8 0, .string ⟨#[]⟩, .slice (some ⟨c, 0, none⟩) 2 2, .int .i64 0] 28 (0, 0))) := (hb.block N (Array.getElem?_eq_some_iff.1 HN9.out).1).trans HN9.out
  have HB10x : Hid (Below w1.heap.size w1 v10) := below2 HB9x.out hb
  clear y0 y1 y2 y3 y4 y5 y6 y7
  clear hb cR HN9 HB9x x1
  have y0 : v10.cell? ⟨N, 0, none⟩ = some (.int .u8 6) := cell_of HN10.out 0
  have y1 : v10.cell? ⟨N, 1, none⟩ = some (.int .u8 6) := cell_of HN10.out 1
  have y2 : v10.cell? ⟨N, 2, none⟩ = some (.int .u8 0) := cell_of HN10.out 2
  have y3 : v10.cell? ⟨N, 3, none⟩ = some (.int .i64 0) := cell_of HN10.out 3
  have y4 : v10.cell? ⟨N, 4, none⟩ = some (.int .u8 0) := cell_of HN10.out 4
  have y5 : v10.cell? ⟨N, 5, none⟩ = some (.string ⟨#[]⟩) := cell_of HN10.out 5
  have y6 : v10.cell? ⟨N, 6, none⟩ = some (.slice (some ⟨c, 0, none⟩) 2 2) := cell_of HN10.out 6
  have y7 : v10.cell? ⟨N, 7, none⟩ = some (.int .i64 0) := cell_of HN10.out 7
  go_wp2_with fail
  refine (f6 _ HB10x.out).mono ?_
  rintro e v11 ⟨m', rfl, hl', hbare, _, hb⟩
  have HN11 : Hid (v11.heap[N]? = some (.cells #[.int .u8 6, .int .u8 6, .int .u8 0, .int .i64 0, .int .u8 0, .string ⟨#[]⟩, .slice (some ⟨c, 0, none⟩) 2 2, .int .i64 0] 28 (0, 0))) := (hb.block N (Array.getElem?_eq_some_iff.1 HN10.out).1).trans HN10.out
  have HB11x : Hid (Below w1.heap.size w1 v11) := below2 HB10x.out hb
  clear y0 y1 y2 y3 y4 y5 y6 y7
  have cS := fun v (hv : Below v11.heap.size v11 v) => same_any (sumN b c) m' v ((HL1.out.on HB11x.out).on hv) (hl'.on hv)
  rw [bare_same hbare] at cS
  obtain ⟨a', c', ks', rfl, hks, hk1⟩ : ∃ a' c' ks', m' = .mk ⟨6, 6, 0, 0, 0, ⟨#[]⟩, 0⟩ a' c' ks' ∧ ks'.length = 2 ∧ ∀ h : 1 < ks'.length, ks'[1].h.p = 0 := by
    cases hbare with
    | mk _ _ a' _ c' _ ks' hl hk =>
      refine ⟨a', c', ks', rfl, hl, fun h => ?_⟩
      have := hk 1 (by simp) h
      generalize ks'[1] = z at this
      cases this
      rfl
  have cS : ∀ v, Below v11.heap.size v11 v → Calls Tryd.prog 21 #[.agg #[.int .u8 6, .int .u8 6, .int .u8 0, .int .i64 0, .int .u8 0, .string ⟨#[]⟩, .slice (some ⟨c, 0, none⟩) 2 2, .int .i64 0], .agg #[.int .u8 6, .int .u8 6, .int .u8 0, .int .i64 0, .int .u8 0, .string ⟨#[]⟩, .slice a' 2 c', .int .i64 0]] v fun e w' => e = .returned (.bool true) ∧ Below v.heap.size v w' := fun v hv => by
    have := cS v hv
    unfold Nd.vals hdA at this
    simp only [Nd.h, Nd.a, Nd.c, Nd.ks, hks] at this
    exact this
  obtain ⟨kb, ko, ea, hat⟩ := hl'.kid 1 (by simp only [Nd.ks]; omega)
  have ea' : a' = some ⟨kb, ko, none⟩ := ea
  have hat7 : v11.cell? ⟨kb, ko + 1 * 8 + 7, none⟩ = some (.int .i64 0) := by
    have e7 : v11.cell? ⟨kb, ko + 1 * 8 + 7, none⟩ = some (.int .i64 (ks'[1]'(by omega)).h.p) := hat.c7
    rw [hk1 (by omega)] at e7
    exact e7
  rw [show (Nd.mk ⟨6, 6, 0, 0, 0, ⟨#[]⟩, 0⟩ a' c' ks').vals = #[.int .u8 6, .int .u8 6, .int .u8 0, .int .i64 0, .int .u8 0, .string ⟨#[]⟩, .slice a' 2 c', .int .i64 0] by simp [Nd.vals, hdA, Nd.h, Nd.a, Nd.c, Nd.ks, hks]]
  have Hc' : Hid (2 ≤ c') := by have := hl'.cap; simp only [Nd.ks, Nd.c, hks] at this; exact this
  have Hat : Hid (v11.cell? ⟨kb, ko + 1 * 8 + 7, none⟩ = some (.int .i64 0)) := hat7
  clear hb hl' hbare hks hk1 hat ea hat7 HN10 HB10x
  subst ea'
  go_upto_region 11 with fail
  obtain ⟨U, eU⟩ : ∃ U, v11.alloc (.cells #[.int .u8 6, .int .u8 6, .int .u8 0, .int .i64 0, .int .u8 0, .string ⟨#[]⟩, .slice (some ⟨kb, ko, none⟩) 2 c', .int .i64 0] 28) = U := ⟨_, rfl⟩
  have hbU : Below v11.heap.size v11 U := by rw [← eU]; exact below_new _ _
  have HM : Hid (U.heap[v11.heap.size]? = some (.cells #[.int .u8 6, .int .u8 6, .int .u8 0, .int .i64 0, .int .u8 0, .string ⟨#[]⟩, .slice (some ⟨kb, ko, none⟩) 2 c', .int .i64 0] 28 (0, 0))) := by rw [← eU]; exact heap_new _ _
  have HNU : Hid (U.heap[N]? = some (.cells #[.int .u8 6, .int .u8 6, .int .u8 0, .int .i64 0, .int .u8 0, .string ⟨#[]⟩, .slice (some ⟨c, 0, none⟩) 2 2, .int .i64 0] 28 (0, 0))) := (hbU.block N (Array.getElem?_eq_some_iff.1 HN11.out).1).trans HN11.out
  have cU := cS U hbU
  have kbl := World.block_lt_of_cell? _ _ Hat.out
  have HatU : Hid (U.cell? ⟨kb, ko + 1 * 8 + 7, none⟩ = some (.int .i64 0)) := (World.cell?_of_block (hbU.block kb kbl)).trans Hat.out
  have HBU : Hid (Below w1.heap.size w1 U) := below2 HB11x.out hbU
  rw [eU]
  obtain ⟨N2, eN2⟩ : ∃ N2, v11.heap.size = N2 := ⟨_, rfl⟩
  rw [eN2] at HM ⊢
  clear eU hbU kbl cS Hat
  have y0 : U.cell? ⟨N, 0, none⟩ = some (.int .u8 6) := cell_of HNU.out 0
  have y1 : U.cell? ⟨N, 1, none⟩ = some (.int .u8 6) := cell_of HNU.out 1
  have y2 : U.cell? ⟨N, 2, none⟩ = some (.int .u8 0) := cell_of HNU.out 2
  have y3 : U.cell? ⟨N, 3, none⟩ = some (.int .i64 0) := cell_of HNU.out 3
  have y4 : U.cell? ⟨N, 4, none⟩ = some (.int .u8 0) := cell_of HNU.out 4
  have y5 : U.cell? ⟨N, 5, none⟩ = some (.string ⟨#[]⟩) := cell_of HNU.out 5
  have y6 : U.cell? ⟨N, 6, none⟩ = some (.slice (some ⟨c, 0, none⟩) 2 2) := cell_of HNU.out 6
  have y7 : U.cell? ⟨N, 7, none⟩ = some (.int .i64 0) := cell_of HNU.out 7
  have z0 : U.cell? ⟨N2, 0, none⟩ = some (.int .u8 6) := cell_of HM.out 0
  have z1 : U.cell? ⟨N2, 1, none⟩ = some (.int .u8 6) := cell_of HM.out 1
  have z2 : U.cell? ⟨N2, 2, none⟩ = some (.int .u8 0) := cell_of HM.out 2
  have z3 : U.cell? ⟨N2, 3, none⟩ = some (.int .i64 0) := cell_of HM.out 3
  have z4 : U.cell? ⟨N2, 4, none⟩ = some (.int .u8 0) := cell_of HM.out 4
  have z5 : U.cell? ⟨N2, 5, none⟩ = some (.string ⟨#[]⟩) := cell_of HM.out 5
  have z6 : U.cell? ⟨N2, 6, none⟩ = some (.slice (some ⟨kb, ko, none⟩) 2 c') := cell_of HM.out 6
  have z7 : U.cell? ⟨N2, 7, none⟩ = some (.int .i64 0) := cell_of HM.out 7
  go_wp2_with fail
  refine cU.mono ?_
  rintro e X ⟨rfl, hb⟩
  have x6 : X.cell? ⟨N2, 6, none⟩ = some (.slice (some ⟨kb, ko, none⟩) 2 c') := cell_of ((hb.block N2 (Array.getElem?_eq_some_iff.1 HM.out).1).trans HM.out) 6
  have x7 : X.cell? ⟨kb, ko + 1 * 8 + 7, none⟩ = some (.int .i64 0) := (World.cell?_of_block (hb.block kb (World.block_lt_of_cell? _ _ HatU.out))).trans HatU.out
  have HX : Hid (Below w.heap.size w X) := below2 (below2 HB1.out HBU.out) hb
  clear hb cU HM HNU HatU HBU y0 y1 y2 y3 y4 y5 y6 y7 z0 z1 z2 z3 z4 z5 z6 z7 HN11 HB11x
  go_wp2_with fail
  go_ret
  exact ⟨rfl, HX.out⟩
end Go.Proofs.YtighocmdlifheaaDoor

/-
  Expressions that came in, opened.
-/
namespace Go.Proofs.YtighocmdlifheaaDoor
open Go.ChangeShapes Go.WideShapes Go.ChangeAt Go.RowKit
theorem mem_all {H : Type} {P : Program} {e : TypeId} : ∀ {l : List (DataW H)} {j : Nat} {d : DataW H}, l[j]? = some d → ∀ n ∈ d.weights P e, n ∈ DataW.weightsAll P e l
  | d0 :: l, 0, d, hd, n, hn => by
    simp only [List.getElem?_cons_zero, Option.some.injEq] at hd
    subst hd
    simp only [DataW.weightsAll, List.mem_append]
    exact Or.inl hn
  | d0 :: l, j + 1, d, hd, n, hn => by
    simp only [List.getElem?_cons_succ] at hd
    simp only [DataW.weightsAll, List.mem_append]
    exact Or.inr (mem_all hd n hn)
  | [], _, _, hd, _, _ => by simp at hd
set_option maxRecDepth 100000 in
theorem nd_open {H : Type} {enc : TypeId × Value → H} {W : World} {held : Bool} : ∀ (fuel : Nat) (cs : List Value) (x : DataW H × List MemPlace), DataW.trod enc Tryd.prog W 0 (fun _ => true) held fuel 28 cs = some x →
    (∀ z ∈ x.1.weights Tryd.prog 28, z ≤ reachBytes) → ∃ m : Nd, cs = m.vals.toList ∧ Lies W m := by
  intro fuel
  induction fuel using Nat.strongRecOn with
  | _ fuel ih =>
  intro cs x h hz
  obtain ⟨xs, k, hk, hx, hlen, hxl, hf⟩ := DataW.trod_struct Tryd.underlying28 h
  rw [show Tryd.prog.cellsOf 28 = 8 by kernel_rfl] at hlen
  match cs, hlen with
  | [v0, v1, v2, v3, v4, v5, v6, v7], _ =>
    have hx8 : xs.length = 8 := hxl
    match xs, hx8 with
    | [y0, y1, y2, y3, y4, y5, y6, y7], _ =>
      have g0 : DataW.trod enc Tryd.prog W 0 (fun _ => true) held k 22 (([v0, v1, v2, v3, v4, v5, v6, v7].drop 0).take (Tryd.prog.cellsOf 22)) = some y0 := hf 0 _ rfl
      have g1 : DataW.trod enc Tryd.prog W 0 (fun _ => true) held k 23 (([v0, v1, v2, v3, v4, v5, v6, v7].drop 1).take (Tryd.prog.cellsOf 23)) = some y1 := hf 1 _ rfl
      have g2 : DataW.trod enc Tryd.prog W 0 (fun _ => true) held k 24 (([v0, v1, v2, v3, v4, v5, v6, v7].drop 2).take (Tryd.prog.cellsOf 24)) = some y2 := hf 2 _ rfl
      have g3 : DataW.trod enc Tryd.prog W 0 (fun _ => true) held k 2 (([v0, v1, v2, v3, v4, v5, v6, v7].drop 3).take (Tryd.prog.cellsOf 2)) = some y3 := hf 3 _ rfl
      have g4 : DataW.trod enc Tryd.prog W 0 (fun _ => true) held k 25 (([v0, v1, v2, v3, v4, v5, v6, v7].drop 4).take (Tryd.prog.cellsOf 25)) = some y4 := hf 4 _ rfl
      have g5 : DataW.trod enc Tryd.prog W 0 (fun _ => true) held k 9 (([v0, v1, v2, v3, v4, v5, v6, v7].drop 5).take (Tryd.prog.cellsOf 9)) = some y5 := hf 5 _ rfl
      have g6 : DataW.trod enc Tryd.prog W 0 (fun _ => true) held k 26 (([v0, v1, v2, v3, v4, v5, v6, v7].drop 6).take (Tryd.prog.cellsOf 26)) = some y6 := hf 6 _ rfl
      have g7 : DataW.trod enc Tryd.prog W 0 (fun _ => true) held k 3 (([v0, v1, v2, v3, v4, v5, v6, v7].drop 7).take (Tryd.prog.cellsOf 3)) = some y7 := hf 7 _ rfl
      rw [show Tryd.prog.cellsOf 22 = 1 by kernel_rfl] at g0
      rw [show Tryd.prog.cellsOf 23 = 1 by kernel_rfl] at g1
      rw [show Tryd.prog.cellsOf 24 = 1 by kernel_rfl] at g2
      rw [show Tryd.prog.cellsOf 2 = 1 by kernel_rfl] at g3
      rw [show Tryd.prog.cellsOf 25 = 1 by kernel_rfl] at g4
      rw [show Tryd.prog.cellsOf 9 = 1 by kernel_rfl] at g5
      rw [show Tryd.prog.cellsOf 26 = 1 by kernel_rfl] at g6
      rw [show Tryd.prog.cellsOf 3 = 1 by kernel_rfl] at g7
      obtain ⟨n0, e0, _, w0⟩ := DataW.trod_int (show Tryd.prog.underlying 22 = some (.int .u8) by kernel_rfl) (show DataW.trod enc Tryd.prog W 0 (fun _ => true) held k 22 [v0] = some y0 from g0)
      obtain ⟨n1, e1, _, w1⟩ := DataW.trod_int (show Tryd.prog.underlying 23 = some (.int .u8) by kernel_rfl) (show DataW.trod enc Tryd.prog W 0 (fun _ => true) held k 23 [v1] = some y1 from g1)
      obtain ⟨n2, e2, _, w2⟩ := DataW.trod_int (show Tryd.prog.underlying 24 = some (.int .u8) by kernel_rfl) (show DataW.trod enc Tryd.prog W 0 (fun _ => true) held k 24 [v2] = some y2 from g2)
      obtain ⟨n3, e3, _, w3⟩ := DataW.trod_int (show Tryd.prog.underlying 2 = some (.int .i64) by kernel_rfl) (show DataW.trod enc Tryd.prog W 0 (fun _ => true) held k 2 [v3] = some y3 from g3)
      obtain ⟨n4, e4, _, w4⟩ := DataW.trod_int (show Tryd.prog.underlying 25 = some (.int .u8) by kernel_rfl) (show DataW.trod enc Tryd.prog W 0 (fun _ => true) held k 25 [v4] = some y4 from g4)
      obtain ⟨n5, e5, d5, w5⟩ := DataW.trod_string (show Tryd.prog.underlying 9 = some .string by kernel_rfl) (show DataW.trod enc Tryd.prog W 0 (fun _ => true) held k 9 [v5] = some y5 from g5)
      obtain ⟨n7, e7, _, w7⟩ := DataW.trod_int (show Tryd.prog.underlying 3 = some (.int .i64) by kernel_rfl) (show DataW.trod enc Tryd.prog W 0 (fun _ => true) held k 3 [v7] = some y7 from g7)
      cases e0; cases e1; cases e2; cases e3; cases e4; cases e5; cases e7
      have hz' : ∀ (j : Nat) (t : TypeId) (d : DataW H), [22, 23, 24, 2, 25, 9, 26, 3][j]? = some t → ([y0, y1, y2, y3, y4, y5, y6, y7].map (·.1))[j]? = some d → ∀ z ∈ d.weights Tryd.prog t, z ≤ reachBytes := by
        intro j t d h1 h2 z hz1
        refine hz z ?_
        rw [hx]
        have := DataW.weights_mem_each (P := Tryd.prog) h1 h2 z hz1
        rw [show (DataW.weights Tryd.prog 28 (.agg ([y0, y1, y2, y3, y4, y5, y6, y7].map (·.1)) : DataW H)) = DataW.weightsEach Tryd.prog [22, 23, 24, 2, 25, 9, 26, 3] ([y0, y1, y2, y3, y4, y5, y6, y7].map (·.1)) by
          rw [DataW.weights, Tryd.underlying28]; rfl]
        exact this
      have hr : Rg ⟨n0, n1, n2, n3, n4, n5, n7⟩ := by
        refine ⟨(bounds_u8 w0).1, (bounds_u8 w0).2, (bounds_u8 w1).1, (bounds_u8 w1).2, (bounds_u8 w2).1, (bounds_u8 w2).2, (bounds_i64 w3).1, (bounds_i64 w3).2, (bounds_u8 w4).1, (bounds_u8 w4).2, (bounds_i64 w7).1, (bounds_i64 w7).2, ?_⟩
        have := hz' 5 9 y5.1 rfl rfl n5.size (by rw [d5]; simp [DataW.weights])
        have h2 : reachBytes ≤ 140737488355328 := by decide
        exact Nat.le_trans this h2
      rcases DataW.trod_slice Tryd.underlying26 (show DataW.trod enc Tryd.prog W 0 (fun _ => true) held k 26 [v6] = some y6 from g6) with ⟨hcs, _⟩ | ⟨a, len, cap, elems, rest, n, hn, hcs, hx6, hb, hl, hm, hlen', hel, hsp, hns⟩
      · cases hcs
        exact ⟨.mk ⟨n0, n1, n2, n3, n4, n5, n7⟩ none 0 [], rfl, .mk _ _ _ _ hr (Nat.le_refl _) (by decide) (fun i hi => by simp at hi) (fun k hk => by cases hk)⟩
      · cases hcs
        have each : ∀ i, i < len → ∃ q : Nd, (∀ j, j < 8 → W.cell? (a.add (i * 8 + j)) = q.vals.toList[j]?) ∧ Lies W q := by
          intro i hi
          have h1 := hel i hi
          rw [show Tryd.prog.cellsOf 28 = 8 by kernel_rfl] at h1
          have h2 : elems[i]? = some elems[i] := List.getElem?_eq_getElem (by omega)
          rw [h2] at h1
          obtain ⟨cs', h3, h4⟩ := Option.bind_eq_some_iff.1 h1
          obtain ⟨q, hq, hlq⟩ := ih n (by omega) cs' elems[i] h4 (fun z hz1 => hz' 6 26 y6.1 rfl rfl z (by
            rw [hx6, DataW.weights, Tryd.underlying26]
            refine List.mem_cons_of_mem _ (List.mem_append_left _ ?_)
            exact mem_all (j := i) (by simp [h2]) z hz1))
          obtain ⟨_, hlen, hcell⟩ := World.cells?_some h3
          refine ⟨q, fun j hj => ?_, hlq⟩
          have e0 := hcell j (by omega)
          rw [Go.Deep.add_add] at e0
          rw [e0, hq]
        have : Inhabited Nd := ⟨.mk ⟨0, 0, 0, 0, 0, ⟨#[]⟩, 0⟩ none 0 []⟩
        obtain ⟨A, hA⟩ := Go.Deep.choose_lt each
        refine ⟨.mk ⟨n0, n1, n2, n3, n4, n5, n7⟩ (some a) cap ((List.range len).map A), by simp [Nd.vals, hdA, Nd.h, Nd.a, Nd.ks, Nd.c], .mk _ _ _ _ hr (by simpa using hl) (by unfold maxLen at hm; omega) (fun i hi => ?_) (fun k hk => ?_)⟩
        · have hi' : i < len := by simpa using hi
          have g := (hA i hi').1
          have hc0 := (hA 0 (by omega)).1 0 (by omega)
          obtain ⟨b, off, spot⟩ := a
          have hspot : spot = none := by simpa [Addr.add] using World.cell?_spot hc0
          subst hspot
          refine ⟨b, off, rfl, ?_⟩
          rw [List.getElem_map, List.getElem_range]
          refine ⟨?_, ?_, ?_, ?_, ?_, ?_, ?_, ?_⟩
          · have := g 0 (by omega); rw [Addr.add_lit] at this; exact this
          · have := g 1 (by omega); rw [Addr.add_lit, ← Nat.add_assoc] at this; exact this
          · have := g 2 (by omega); rw [Addr.add_lit, ← Nat.add_assoc] at this; exact this
          · have := g 3 (by omega); rw [Addr.add_lit, ← Nat.add_assoc] at this; exact this
          · have := g 4 (by omega); rw [Addr.add_lit, ← Nat.add_assoc] at this; exact this
          · have := g 5 (by omega); rw [Addr.add_lit, ← Nat.add_assoc] at this; exact this
          · have := g 6 (by omega); rw [Addr.add_lit, ← Nat.add_assoc] at this; exact this
          · have := g 7 (by omega); rw [Addr.add_lit, ← Nat.add_assoc] at this; exact this
        · obtain ⟨i, hi, rfl⟩ := List.mem_map.1 hk
          exact (hA i (List.mem_range.1 hi)).2
theorem nd_in {H : Type} {enc : TypeId × Value → H} {W : World} {held : Bool} {fuel : Nat} {cs : Array Value} {x : DataW H × List MemPlace}
    (h : DataW.trod enc Tryd.prog W 0 (fun _ => true) held fuel 28 (Value.agg cs).cells.toList = some x) (hz : ∀ z ∈ x.1.weights Tryd.prog 28, z ≤ reachBytes) : ∃ m : Nd, cs = m.vals ∧ Lies W m := by
  obtain ⟨m, hm, hl⟩ := nd_open fuel _ x h hz
  exact ⟨m, Array.toList_inj.1 hm, hl⟩
end Go.Proofs.YtighocmdlifheaaDoor
