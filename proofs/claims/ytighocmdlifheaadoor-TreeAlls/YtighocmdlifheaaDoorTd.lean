/-
  TreeAlls: the walk, from the start.
-/
import Derived.Test.YtighocmdlifheaaDoorTc
import Derived.Test.YtighocmdlifheaaDoorSy
namespace Go.Proofs.YtighocmdlifheaaDoor
open Go.RowKit Go.Shelf Go.Sort
set_option linter.unusedVariables false
attribute [local go_sem] Oper.semAt_some
theorem run_store_func (P : Program) (w : World) (a : Addr) (m : Mode) (f : Fn) (x y : Array Value) : (store a (.func f x y) m).run P w = stored P w a (.func f x y) m := run_store P w a _ m rfl
attribute [local go_sem] run_store_func
theorem pre_pos (m : Nd) : 0 < (pre m).length := by cases m; simp [pre]
set_option maxRecDepth 1000000 in
set_option maxHeartbeats 8000000 in
theorem alls_law (m : Nd) (most : Int) (w : World) (hl : Lies w m) (cA : ∀ v, Below w.heap.size w v → Calls Tryd.prog 7 #[] v fun e w' => e = .returned (.bool true) ∧ Below v.heap.size v w') :
    Calls Tryd.prog 4 #[.agg m.vals, .int .i64 most] w fun e w' => e = .returned (.bool true) ∧ Below w.heap.size w w' := by
  have HL := hl.hid
  clear hl
  refine (callsIn_wide (n := 3)).1 (callsIn_of_wp_marks Tryd.func4 rfl trivial ?_ rfl)
  refine wpIn_wide.2 ?_
  simp only [Tryd.ntmps4, List.size_toArray, List.length_cons, List.length_nil, Nat.reduceAdd, Nat.reduceSub, Array.replicate_succ, Array.replicate_zero, List.push_toArray, List.append_toArray, List.nil_append, List.cons_append]
  obtain ⟨C, hC⟩ : ∃ C, cSnd (cSnd (cSnd (cSnd (cSnd (cSnd (cSnd (Tryd.f4.body.getD .skip))))))) = C := ⟨_, rfl⟩
  have hC2 := hC
  simp only [cSnd, Tryd.f4, Option.getD_some] at hC2
  rw [hC2]
  clear hC2
  have HC : Hid (cSnd (cSnd (cSnd (cSnd (cSnd (cSnd (cSnd (Tryd.f4.body.getD .skip))))))) = C) := hC
  clear hC
  obtain ⟨B0, hB0⟩ : ∃ x, w.heap.size = x := ⟨_, rfl⟩
  obtain ⟨V, hV⟩ : ∃ V, ((w.alloc (.cells m.vals 28)).alloc (.cells #[.int .i64 most] 3)).alloc (.cells #[.bool false] 4) = V := ⟨_, rfl⟩
  have hbV : Below w.heap.size w V := by rw [← hV]; exact below2 (below_two _ _ _) (below_new _ _)
  have hN : NdH V B0 m := by rw [← hV, ← hB0]; exact NdH.on (NdH.on (heap_new w (.cells m.vals 28)) (below_new _ _)) (below_new _ _)
  have hM : Boxed V (B0 + 1) 3 (.int .i64 most) := by
    have := (Boxed.new (w.alloc (.cells m.vals 28)) 3 (.int .i64 most)).alloc (.cells #[.bool false] 4)
    rw [World.size_alloc, hB0] at this
    rw [← hV]; exact this
  have hR : Boxed V (B0 + 2) 4 (.bool false) := by
    have := Boxed.new ((w.alloc (.cells m.vals 28)).alloc (.cells #[.int .i64 most] 3)) 4 (.bool false)
    rw [World.size_alloc, World.size_alloc, hB0] at this
    rw [← hV]; exact this
  have cA1 := cA V hbV
  have HN := hN.hid
  have HM : Hid (Boxed V (B0 + 1) 3 (.int .i64 most)) := hM
  have HR : Hid (Boxed V (B0 + 2) 4 (.bool false)) := hR
  have HBV : Hid (Below w.heap.size w V) := hbV
  clear hN hbV cA hM hR
  have cF := fun v (hv : Below w.heap.size w v) => far_any m v (HL.out.on hv)
  have cL := fun v => all_any m v
  have cN := fun v (hv : Below w.heap.size w v) (hz : size m ≤ 900000000) => nodes_any m v (HL.out.on hv) hz
  unfold Nd.vals hdA at cF cL cN hV ⊢
  have HVV : Hid (((w.alloc (.cells #[.int .u8 m.h.k, .int .u8 m.h.o, .int .u8 m.h.t, .int .i64 m.h.n, .int .u8 m.h.f, .string m.h.x, .slice m.a m.ks.length m.c, .int .i64 m.h.p] 28)).alloc (.cells #[.int .i64 most] 3)).alloc (.cells #[.bool false] 4) = V) := hV
  clear hV
  go_wp2_with fail
  rw [HVV.out]
  clear HVV
  refine cA1.mono ?_
  rintro e w1 ⟨rfl, hb1⟩
  have HN1 := (HN.out.on hb1).hid
  have HB1 : Hid (Below w.heap.size w w1) := below2 HBV.out hb1
  have HM1 : Hid (Boxed w1 (B0 + 1) 3 (.int .i64 most)) := (hb1.block _ HM.out.lt).trans HM.out
  have HR1 : Hid (Boxed w1 (B0 + 2) 4 (.bool false)) := (hb1.block _ HR.out.lt).trans HR.out
  obtain ⟨y0, y1, y2, y3, y4, y5, y6, y7⟩ := HN1.out.eight
  clear cA1 hb1 HN HBV HM HR
  go_wp2_with fail
  refine (cF _ HB1.out).mono ?_
  rintro e w2 ⟨⟨far, rfl, hfar⟩, hb2⟩
  have HN2 := (HN1.out.on hb2).hid
  have HB2 : Hid (Below w.heap.size w w2) := below2 HB1.out hb2
  have HM2 : Hid (Boxed w2 (B0 + 1) 3 (.int .i64 most)) := (hb2.block _ HM1.out.lt).trans HM1.out
  have HR2 : Hid (Boxed w2 (B0 + 2) 4 (.bool false)) := (hb2.block _ HR1.out.lt).trans HR1.out
  clear y0 y1 y2 y3 y4 y5 y6 y7
  obtain ⟨y0, y1, y2, y3, y4, y5, y6, y7⟩ := HN2.out.eight
  have HF : Hid (far = false → wt m ≤ 1048576) := hfar
  clear hb2 HN1 HB1 HM1 HR1 cF hfar
  cases far with
  | true =>
    have ca := HR2.out.cell
    have fa := HR2.out.frozen
    go_wp2_with fail
    refine leaves_marks (v := .bool true) [] _ (by simp) (fun D hD => by simp at hD) (fun W' m' => ?_)
    have bz := HR2.out.set (.bool true)
    have bz' : Boxed W' (B0 + 2) 4 (.bool true) := (m'.block _ bz.lt (fun e => by simp at e)).trans bz
    refine ⟨result4 _ _ ⟨B0 + 2, 0, none⟩ rfl bz'.cell, rfl, ?_⟩
    exact (((Mv.ofBelow HB2.out).setCell (a := ⟨B0 + 2, 0, none⟩) (.inr (by show w.heap.size ≤ B0 + 2; omega)) _).trans m' (fun b e => by simp at e)).toBelow
  | false =>
    have HS : Hid (size m ≤ 1048576) := Nat.le_trans (size_wt m) (HF.out rfl)
    have cN2 := cN w2 HB2.out (by have := HS.out; omega)
    clear HF cN
    go_wp2_with fail
    refine cN2.mono ?_
    rintro e w3 ⟨v', rfl, hr⟩
    obtain ⟨g, cap, rfl, hcap, _, hrow⟩ := hr.row.lies.resolve_left (fun h => by have := pre_pos m; rw [h.2] at this; simp at this)
    have HB3 : Hid (Below w.heap.size w w3) := below2 HB2.out hr.B
    have HN3 := (HN2.out.on hr.B).hid
    have HM3 : Hid (Boxed w3 (B0 + 1) 3 (.int .i64 most)) := (hr.B.block _ HM2.out.lt).trans HM2.out
    have HR3 : Hid (Boxed w3 (B0 + 2) 4 (.bool false)) := (hr.B.block _ HR2.out.lt).trans HR2.out
    clear y0 y1 y2 y3 y4 y5 y6 y7
    obtain ⟨Bw, hBw⟩ : ∃ x, w3.heap.size = x := ⟨_, rfl⟩
    obtain ⟨V3, hV3⟩ : ∃ V, w3.alloc (.cells #[.slice (some ⟨g, 0, none⟩) (pre m).length cap] 26) = V := ⟨_, rfl⟩
    have b3 : Below w3.heap.size w3 V3 := by rw [← hV3]; exact below_new _ _
    have bw3 : Boxed V3 Bw 26 (.slice (some ⟨g, 0, none⟩) (pre m).length cap) := by rw [← hV3, ← hBw]; exact Boxed.new w3 26 _
    have s3 : V3.heap.size = Bw + 1 := by rw [← hV3, World.size_alloc, hBw]
    have HRW : Hid (∀ j, j < (pre m).length → NdAt V3 g (j * 8) (ldF (pre m) j)) := fun j hj => by
      have := (hrow j hj).on b3
      rw [Nat.zero_add] at this
      exact this
    have HV3 : Hid (w3.alloc (.cells #[.slice (some ⟨g, 0, none⟩) (pre m).length cap] 26) = V3) := hV3
    have HN4 := (HN3.out.on b3).hid
    have HB4 : Hid (Below w.heap.size w V3) := below2 HB3.out b3
    have HM4 : Hid (Boxed V3 (B0 + 1) 3 (.int .i64 most)) := (b3.block _ HM3.out.lt).trans HM3.out
    have HR4 : Hid (Boxed V3 (B0 + 2) 4 (.bool false)) := (b3.block _ HR3.out.lt).trans HR3.out
    have HW4 : Hid (Boxed V3 Bw 26 (.slice (some ⟨g, 0, none⟩) (pre m).length cap)) := bw3
    have HC4 : Hid ((pre m).length ≤ cap) := hcap
    obtain ⟨y0, y1, y2, y3, y4, y5, y6, y7⟩ := HN4.out.eight
    have q0 : (w3.alloc (.cells #[.slice (some ⟨g, 0, none⟩) (pre m).length cap] 26)).cell? ⟨B0, 0, none⟩ = some (.int .u8 m.h.k) := by rw [hV3]; exact y0
    have q1 : (w3.alloc (.cells #[.slice (some ⟨g, 0, none⟩) (pre m).length cap] 26)).cell? ⟨B0, 1, none⟩ = some (.int .u8 m.h.o) := by rw [hV3]; exact y1
    have q2 : (w3.alloc (.cells #[.slice (some ⟨g, 0, none⟩) (pre m).length cap] 26)).cell? ⟨B0, 2, none⟩ = some (.int .u8 m.h.t) := by rw [hV3]; exact y2
    have q3 : (w3.alloc (.cells #[.slice (some ⟨g, 0, none⟩) (pre m).length cap] 26)).cell? ⟨B0, 3, none⟩ = some (.int .i64 m.h.n) := by rw [hV3]; exact y3
    have q4 : (w3.alloc (.cells #[.slice (some ⟨g, 0, none⟩) (pre m).length cap] 26)).cell? ⟨B0, 4, none⟩ = some (.int .u8 m.h.f) := by rw [hV3]; exact y4
    have q5 : (w3.alloc (.cells #[.slice (some ⟨g, 0, none⟩) (pre m).length cap] 26)).cell? ⟨B0, 5, none⟩ = some (.string m.h.x) := by rw [hV3]; exact y5
    have q6 : (w3.alloc (.cells #[.slice (some ⟨g, 0, none⟩) (pre m).length cap] 26)).cell? ⟨B0, 6, none⟩ = some (.slice m.a m.ks.length m.c) := by rw [hV3]; exact y6
    have q7 : (w3.alloc (.cells #[.slice (some ⟨g, 0, none⟩) (pre m).length cap] 26)).cell? ⟨B0, 7, none⟩ = some (.int .i64 m.h.p) := by rw [hV3]; exact y7
    clear hr hrow hV3 bw3 b3 hcap HN2 HB2 HM2 HR2 HN3 HB3 HM3 HR3 cN2
    go_wp2_with fail
    rw [HV3.out]
    clear q0 q1 q2 q3 q4 q5 q6 q7 HV3
    refine (cL _).mono ?_
    rintro e w4 ⟨rfl, e4⟩
    rw [s3]
    have b4 : Below V3.heap.size V3 w4 := by rw [e4]; exact below_new _ _
    have HS4 : Hid (NdH w4 (Bw + 1) m) := by rw [e4, ← s3]; exact heap_new _ _
    clear e4 y0 y1 y2 y3 y4 y5 y6 y7 cL
    obtain ⟨Bf, hBf⟩ : ∃ x, w4.heap.size = x := ⟨_, rfl⟩
    obtain ⟨V5, hV5⟩ : ∃ V, w4.alloc (.cells #[.func (.func 43) #[] #[.pointer (some ⟨Bw + 1, 0, none⟩)]] 56) = V := ⟨_, rfl⟩
    have b5 : Below w4.heap.size w4 V5 := by rw [← hV5]; exact below_new _ _
    have bf5 : Boxed V5 Bf 56 (.func (.func 43) #[] #[.pointer (some ⟨Bw + 1, 0, none⟩)]) := by rw [← hV5, ← hBf]; exact Boxed.new w4 56 _
    have HV5 : Hid (w4.alloc (.cells #[.func (.func 43) #[] #[.pointer (some ⟨Bw + 1, 0, none⟩)]] 56) = V5) := hV5
    have HBF : Hid (w4.heap.size = Bf) := hBf
    have bb : Below V3.heap.size V3 V5 := below2 b4 b5
    have HALL : Hid (Below w.heap.size w V5 ∧ Boxed V5 (B0 + 1) 3 (.int .i64 most) ∧ Boxed V5 (B0 + 2) 4 (.bool false) ∧ Boxed V5 Bw 26 (.slice (some ⟨g, 0, none⟩) (pre m).length cap) ∧ NdH V5 (Bw + 1) m ∧ Boxed V5 Bf 56 (.func (.func 43) #[] #[.pointer (some ⟨Bw + 1, 0, none⟩)]) ∧ ∀ j, j < (pre m).length → NdAt V5 g (j * 8) (ldF (pre m) j)) :=
      ⟨below2 HB4.out bb, (bb.block _ HM4.out.lt).trans HM4.out, (bb.block _ HR4.out.lt).trans HR4.out, (bb.block _ HW4.out.lt).trans HW4.out, HS4.out.on b5, bf5, fun j hj => (HRW.out j hj).on bb⟩
    have hbo := fun v => func_nil (Bw + 1) v
    clear hV5 bf5 b4 b5 bb hBf
    go_wp2_with fail
    rw [HV5.out, HBF.out]
    obtain ⟨a1, a2, a3, a4, a5, a6, a7⟩ := HALL.out
    exact alls_loops C HC.out m w V5 HL.out a1 (by rw [size_pre]; have := HS.out; omega) (B0 + 1) (B0 + 2) Bw (Bw + 1) Bf g cap most a2 a3 a4 a5 a6 a7 HC4.out (by omega) _ _ _ _ _ _ _ _ _ _ _ _ _ _ _ _ _ _ _ _ _ _ _ _ _ _ _ _ _ _ _ _ _ _ _ _ _ _ _ _ _ _ _ _ _ _ _ _ _ _ _ _ _ _ _ _ _ _ _ _ _ _ _ _ _ _ _ _ _ _ _ _ _ _ _ _ _ _ _ _ _ _ _ _ _ _ _ _ _ _ _ _ _ _ _ _ _ _ _ _ _ _ _ _ _ _ _ _ _ _ _ _ _
end Go.Proofs.YtighocmdlifheaaDoor
