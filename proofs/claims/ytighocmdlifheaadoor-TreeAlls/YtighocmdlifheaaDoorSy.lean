/-
  TreeSizes: an expression's size is how many nodes are met, and one more than its kids' together.
-/
import Derived.Test.YtighocmdlifheaaDoorSz
import Derived.Test.YtighocmdlifheaaDoorWg
namespace Go.Proofs.YtighocmdlifheaaDoor
open Go.RowKit Go.Shelf
attribute [local go_sem] Oper.semAt_some
theorem sizes_append (a b : List Nd) : sizes (a ++ b) = sizes a + sizes b := by
  induction a with
  | nil => simp [sizes]
  | cons k a ih => simp only [List.cons_append, sizes, ih]; omega
theorem sizes_take {ks : List Nd} {i : Nat} (hi : i < ks.length) : sizes (ks.take (i + 1)) = sizes (ks.take i) + size ks[i] := by
  rw [List.take_add_one, sizes_append, List.getElem?_eq_getElem hi]
  simp [sizes]
/-- Between two rounds: so many have come; the node's box is as it was. -/
structure Cy (w : World) (B B0 : Nat) (m : Nd) (pr : List Nat) (W : World) : Prop where
  b : Boxed W B 3 (.int .i64 pr.length)
  n : NdH W B0 m
  m : Below w.heap.size w W
theorem cy_own (w : World) (B B0 : Nat) (m : Nd) {C : Nat} (hC : w.heap.size ≤ C) : OwnFrom C (Cy w B B0 m) := by
  intro pr W W' row h hg hr
  refine ⟨boxed_own _ _ (fun (_ : Unit) => _) () W W' row h.b hg (fun x e => (hr x e).2), (hg.block B0 h.n.lt (fun e => ?_)).trans h.n, h.m.grown hg h.m.size (fun k e => Nat.le_trans hC (hr k e).1)⟩
  obtain ⟨_, o, ho, hc⟩ := hr B0 e.symm
  rw [show W.heap[B0]? = _ from h.n] at ho
  cases ho
  cases hc
theorem size_ks (m : Nd) : size m = 1 + sizes m.ks := by cases m; rfl
theorem size_in {ks : List Nd} {k : Nd} (hk : k ∈ ks) : size k ≤ sizes ks := size_mem hk
/-- What stays behind the count. -/
structure Cz (w : World) (B B0 D : Nat) (m : Nd) (W : World) : Prop where
  b : Boxed W B 3 (.int .i64 (size m))
  n : NdH W B0 m
  m : Below w.heap.size w W
  d : W.heap[D]? = some (.deferred (some []))
theorem Cz.on {w : World} {B B0 D : Nat} {m : Nd} {W W' : World} (h : Cz w B B0 D m W) (k : Below W.heap.size W W') : Cz w B B0 D m W' :=
  ⟨(k.block B (Array.getElem?_eq_some_iff.1 h.b).1).trans h.b, h.n.on k, below2 h.m k, (k.block D (Array.getElem?_eq_some_iff.1 h.d).1).trans h.d⟩
theorem func_nil (B : Nat) (v : World) : (binOp BinOp.eql 56 (.func (.func 43) #[] #[.pointer (some ⟨B, 0, none⟩)]) .nilFunc).run Tryd.prog v = .ok (.bool false) v := by kernel_rfl
set_option maxRecDepth 1000000 in
set_option maxHeartbeats 8000000 in
theorem sizes_far (m : Nd) (w : World) (hl : Lies w m) (cA : ∀ v, Below w.heap.size w v → Calls Tryd.prog 7 #[] v fun e w' => e = .returned (.bool true) ∧ Below v.heap.size v w') :
    Calls Tryd.prog 5 #[.agg m.vals] w fun e w' => e = .returned (.bool true) ∧ Below w.heap.size w w' := by
  have HL := hl.hid
  clear hl
  refine (callsIn_wide (n := 3)).1 (callsIn_of_wp_marks Tryd.func5 rfl trivial ?_ rfl)
  refine wpIn_wide.2 ?_
  simp only [Tryd.ntmps5, List.size_toArray, List.length_cons, List.length_nil, Nat.reduceAdd, Nat.reduceSub, Array.replicate_succ, Array.replicate_zero, List.push_toArray, List.append_toArray, List.nil_append, List.cons_append]
  obtain ⟨B0, hB0⟩ : ∃ x, w.heap.size = x := ⟨_, rfl⟩
  obtain ⟨V, hV⟩ : ∃ V, w.alloc (.cells m.vals 28) = V := ⟨_, rfl⟩
  have hbV : Below w.heap.size w V := by rw [← hV]; exact below_new _ _
  have hN : NdH V B0 m := by rw [← hV, ← hB0]; exact heap_new _ _
  have cA1 := cA V hbV
  have HN := hN.hid
  have HBV : Hid (Below w.heap.size w V) := hbV
  clear hN hbV cA
  have cF := fun v (hv : Below w.heap.size w v) => far_any m v (HL.out.on hv)
  have cL := fun v => all_any m v
  unfold Nd.vals hdA at cF cL hV ⊢
  go_wp2_with fail
  clear hV
  refine cA1.mono ?_
  rintro e w1 ⟨rfl, hb1⟩
  have HN1 := (HN.out.on hb1).hid
  have HB1 : Hid (Below w.heap.size w w1) := below2 HBV.out hb1
  obtain ⟨y0, y1, y2, y3, y4, y5, y6, y7⟩ := HN1.out.eight
  clear cA1 hb1 HN HBV
  go_wp2_with fail
  refine (cF _ HB1.out).mono ?_
  rintro e w2 ⟨⟨far, rfl, hfar⟩, hb2⟩
  have HN2 := (HN1.out.on hb2).hid
  have HB2 : Hid (Below w.heap.size w w2) := below2 HB1.out hb2
  clear y0 y1 y2 y3 y4 y5 y6 y7
  obtain ⟨y0, y1, y2, y3, y4, y5, y6, y7⟩ := HN2.out.eight
  have HF : Hid (far = false → wt m ≤ 1048576) := hfar
  clear hb2 HN1 HB1 cF hfar
  go_wp2_with fail
  refine (cL _).mono ?_
  rintro e w3 ⟨rfl, e3⟩
  cases far with
  | true =>
    have HB3 : Hid (Below w.heap.size w w3) := by rw [e3]; exact HB2.out.alloc HB2.out.size _
    clear e3
    go_wp2_with fail
    exact ⟨.bool true, results_t1 (p := 2) rfl _ _, rfl, HB3.out⟩
  | false =>
    have hz : wt m ≤ 1048576 := HF.out rfl
    have HS : Hid (size m ≤ 1048576) := Nat.le_trans (size_wt m) hz
    obtain ⟨B1, hB1⟩ : ∃ x, w2.heap.size = x := ⟨_, rfl⟩
    rw [hB1]
    have hb3 : Below w2.heap.size w2 w3 := by rw [e3]; exact below_new _ _
    have HN3 : Hid (NdH w3 B0 m) := HN2.out.on hb3
    have HM3 : Hid (NdH w3 B1 m) := by rw [e3, ← hB1]; exact heap_new _ _
    have HB3 : Hid (Below w.heap.size w w3) := below2 HB2.out hb3
    have HS3 : Hid (w3.heap.size = B1 + 1) := by show _ = _; rw [e3, size_alloc, hB1]
    clear e3 hb3 hz HF y0 y1 y2 y3 y4 y5 y6 y7 HN2 HB2 hB1
    have hbo := fun v => func_nil B1 v
    go_wp2_with fail
    obtain ⟨W4, e4⟩ : ∃ W4, w3.alloc (.cells #[.int .i64 0] 3) = W4 := ⟨_, rfl⟩
    have hb4 : Below w3.heap.size w3 W4 := by rw [← e4]; exact below_new _ _
    have z1 : Boxed W4 (B1 + 1) 3 (.int .i64 0) := by rw [← e4, ← HS3.out]; exact heap_new _ _
    have s4 : W4.heap.size = B1 + 1 + 1 := by rw [← e4, size_alloc, HS3.out]
    rw [e4, HS3.out]
    have HB4 : Hid (Below w.heap.size w W4) := below2 HB3.out hb4
    have HN4 : Hid (NdH W4 B0 m) := HN3.out.on hb4
    have HM4 : Hid (NdH W4 B1 m) := HM3.out.on hb4
    have HZ1 : Hid (Boxed W4 (B1 + 1) 3 (.int .i64 0)) := z1
    have HS4 : Hid (W4.heap.size = B1 + 1 + 1) := s4
    have HLT : Hid (w.heap.size ≤ B1) := by have h1 := HB3.out.size; have h2 := HS3.out; have h3 := HN3.out.lt; show _ ≤ _; rw [hB0]; have h4 : B0 < B1 + 1 := by omega
                                            omega
    clear e4 hb4 z1 s4 HN3 HM3 HB3 HS3 cL hbo
    refine (wpIn_wide (n := 12)).1 ?_
    refine wpIn_rangeFunc_ownH rfl (by omega) (gf := 43) (lb := #[.pointer (some ⟨B1, 0, none⟩)]) rfl trivial (enters_of Tryd.func43 (by kernel_rfl) rfl)
      (all_stops 11 m (fun b => b = B1 + 1) B1 w W4 HL.out HB4.out (fun b hb => by have := HS4.out; have := HLT.out; omega) HM4.out)
      (fun h k => h.trans k) ?hKb (Below.refl _ _) (fun _ => rfl)
      (Cy w (B1 + 1) B0 m)
      (fun _ pre _ => False)
      (cy_own w (B1 + 1) B0 m HB4.out.size) (fun c => ownFrom_pure _ _) ⟨HZ1.out, HN4.out, HB4.out⟩
      (fun _ a' _ => ∃ (v0 v1 v2 v3 v4 v5 v7 v8 v9 v10 v11 v12 v13 v14 v15 v16 v17 v18 v19 v20 v21 v22 v23 v24 v25 v26 v27 v28 v29 v30 v31 v32 v33 v34 v35 v36 v37 v38 v39 v40 v41 v42 v43 v44 v45 v46 v47 v48 v49 v50 v51 v52 v53 v54 v55 v56 v57 v58 v59 v60 v61 v62 : Value), a' = { tmps := #[v0, v1, v2, v3, v4, v5, .pointer (some ⟨B1 + 1, 0, none⟩), v7, v8, v9, v10, v11, v12, v13, v14, v15, v16, v17, v18, v19, v20, v21, v22, v23, v24, v25, v26, v27, v28, v29, v30, v31, v32, v33, v34, v35, v36, v37, v38, v39, v40, v41, v42, v43, v44, v45, v46, v47, v48, v49, v50, v51, v52, v53, v54, v55, v56, v57, v58, v59, v60, v61, v62], defers := [] })
      ?hAx ?assign ?body ?done ?stop
    case hKb => exact fun W l o o' h1 h2 h3 h4 => Kc.bound (w := W4) W l o o' h1 h2 h3 h4
    case hAx => exact fun x a' => ownFrom_pure _ (fun _ => _)
    case assign =>
      rintro lo pr x W K hi hK
      have HK : Hid (∀ a', (∃ (v0 v1 v2 v3 v4 v5 v7 v8 v9 v10 v11 v12 v13 v14 v15 v16 v17 v18 v19 v20 v21 v22 v23 v24 v25 v26 v27 v28 v29 v30 v31 v32 v33 v34 v35 v36 v37 v38 v39 v40 v41 v42 v43 v44 v45 v46 v47 v48 v49 v50 v51 v52 v53 v54 v55 v56 v57 v58 v59 v60 v61 v62 : Value), a' = _) → K a' W) := fun a' ha => hK a' W ⟨Nat.le_refl _, fun _ _ _ h _ => h⟩ (Kc.refl _ _) hi ha
      clear hK hi
      unfold encN
      obtain ⟨u, eu⟩ : ∃ u, Value.agg (cutN ((pre m).getD x (.mk ⟨0, 0, 0, 0, 0, ⟨#[]⟩, 0⟩ none 0 []))).vals = u := ⟨_, rfl⟩
      rw [eu]
      gi_wp2
      exact HK.out _ ⟨_, _, _, _, _, _, _, _, _, _, _, _, _, _, _, _, _, _, _, _, _, _, _, _, _, _, _, _, _, _, _, _, _, _, _, _, _, _, _, _, _, _, _, _, _, _, _, _, _, _, _, _, _, _, _, _, _, _, _, _, _, _, rfl⟩
    case body =>
      rintro lo pr x a' W hlo _ ⟨b, hn, hm⟩ ⟨v0, v1, v2, v3, v4, v5, v7, v8, v9, v10, v11, v12, v13, v14, v15, v16, v17, v18, v19, v20, v21, v22, v23, v24, v25, v26, v27, v28, v29, v30, v31, v32, v33, v34, v35, v36, v37, v38, v39, v40, v41, v42, v43, v44, v45, v46, v47, v48, v49, v50, v51, v52, v53, v54, v55, v56, v57, v58, v59, v60, v61, v62, rfl⟩ hlen
      have c1 := b.cell
      have f1 := b.frozen
      have HB : Hid (Boxed W (B1 + 1) 3 (.int .i64 pr.length)) := b
      have HM : Hid (Below w.heap.size w W) := hm
      have HNW : Hid (NdH W B0 m) := hn
      have hmx : (pr.length : Int) + 1 ≤ 9223372036854775807 := by rw [size_pre] at hlen; have := HS.out; omega
      clear b hm hlen hn
      gi_wp2
      refine ⟨⟨by simp [World.setCell], fun k o _ hk ho => (Below.heap_setCell _ _ _ _ (fun e => ?_)).trans hk⟩, ⟨by simp [World.setCell], fun k cs t fr hv _ => Below.heap_setCell _ _ _ _ hv⟩, ?_, ?_, HM.out.setCell (p := ⟨B1 + 1, 0, none⟩) (Nat.le_succ_of_le HLT.out) _⟩
      · have e : k = B1 + 1 := e
        rw [e, show W.heap[B1 + 1]? = _ from HB.out] at hk
        cases hk
        cases ho
      · have := HB.out.set (.int .i64 ((pr.length : Int) + 1))
        rw [show ((pr ++ [x]).length : Int) = (pr.length : Int) + 1 by simp]
        exact this
      · refine (Below.heap_setCell _ _ _ _ (fun e => ?_)).trans HNW.out
        have e : B0 = B1 + 1 := e
        have := HN4.out
        unfold NdH at this
        rw [e, show W4.heap[B1 + 1]? = _ from HZ1.out] at this
        cases this
    case done =>
      rintro D xs W hD rfl ⟨b, hn, hm⟩ hK
      have e1 : (List.range (pre m).length).length = size m := by rw [List.length_range, size_pre]
      rw [e1] at b
      have HD : Hid (W.heap[D]? = some (.deferred (some []))) := hK
      have HM : Hid (Below w.heap.size w W) := hm
      have HNW : Hid (NdH W B0 m) := hn
      have HBW : Hid (Boxed W (B1 + 1) 3 (.int .i64 (size m))) := b
      clear hK hm b hn HZ1 HN4 HM4
      have HC : Hid (Cz w (B1 + 1) B0 D m W) := ⟨HBW.out, HNW.out, HM.out, HD.out⟩
      clear HD HM HNW HBW
      go_wp2_with fail
      go_loopw [7, 8, 9] (fun s t _ wr => ∃ (i : Nat) (z : Int), i ≤ m.ks.length ∧ t = .int .i64 i ∧ s = .int .i64 z ∧ Hid (z = 1 + sizes (m.ks.take i)) ∧ Hid (Cz w (B1 + 1) B0 D m wr)) (fun _ t _ _ => m.ks.length - (intOf t).toNat)
      case atStart => exact ⟨0, 1, by omega, rfl, rfl, by simp [Hid, sizes], HC⟩
      case round =>
        obtain ⟨i, z, hi, rfl, rfl, HZ, HCr⟩ := hrel
        have q6 : wr.cell? ⟨B0, 6, none⟩ = some (.slice m.a m.ks.length m.c) := cell_of HCr.out.n 6
        by_cases hlt : i < m.ks.length
        · have hlt' : (i : Int) < (m.ks.length : Int) := by omega
          obtain ⟨b, o, e1, hat⟩ := (HL.out.on HCr.out.m).kid i hlt
          have hk1 : NdAt wr b (o + i * 8) m.ks[i] := hat
          have HQ : Hid (size m.ks[i] ≤ 1048576 ∧ sizes (m.ks.take (i + 1)) = sizes (m.ks.take i) + size m.ks[i] ∧ sizes (m.ks.take (i + 1)) ≤ 1048576) := by
            have h1 := HS.out
            rw [size_ks] at h1
            have h2 := size_in (nth_mem hlt)
            have h3 := sizes_append (m.ks.take (i + 1)) (m.ks.drop (i + 1))
            rw [List.take_append_drop] at h3
            exact ⟨by omega, sizes_take hlt, by omega⟩
          have cI := size_any m.ks[i] wr ((HL.out.sub _ (nth_mem hlt)).on HCr.out.m) (by have := HQ.out.1; omega)
          have hmx : (i : Int) + 1 ≤ 9223372036854775807 := by
            have h1 := HL.out.max
            have h2 := HL.out.cap
            omega
          obtain ⟨k, ek⟩ : ∃ k, m.ks[i] = k := ⟨_, rfl⟩
          rw [ek] at hk1 cI HQ
          rw [e1] at q6
          obtain ⟨y0, y1, y2, y3, y4, y5, y6, y7⟩ := hk1
          unfold Nd.vals hdA at cI
          have hs1 : -9223372036854775808 ≤ z + (size k : Int) := by have h1 := HQ.out; have h2 := HZ.out; omega
          have hs2 : z + (size k : Int) ≤ 9223372036854775807 := by have h1 := HQ.out; have h2 := HZ.out; omega
          clear ek hat e1
          go_wp2_with fail
          refine cI.mono ?_
          rintro e w5 ⟨rfl, hb5⟩
          have HC5 : Hid (Cz w (B1 + 1) B0 D m w5) := HCr.out.on hb5
          have HZ5 : Hid (z + (size k : Int) = 1 + sizes (m.ks.take (i + 1))) := by have h1 := HQ.out.2.1; have h2 := HZ.out; show _ = _; omega
          clear hb5 cI y0 y1 y2 y3 y4 y5 y6 y7 q6
          go_wp2_with fail
          exact ⟨⟨i + 1, _, hlt, rfl, rfl, HZ5, HC5⟩, by simp only [intOf]; omega⟩
        · obtain rfl : i = m.ks.length := by omega
          have hnot : ¬ (m.ks.length : Int) < (m.ks.length : Int) := by omega
          have cI := size_any m wr (HL.out.on HCr.out.m) (by have := HS.out; omega)
          unfold Nd.vals hdA at cI
          obtain ⟨y0, y1, y2, y3, y4, y5, y6, y7⟩ := HCr.out.n.eight
          have hz : z = (size m : Int) := by have := HZ.out; rw [List.take_length] at this; rw [size_ks]; omega
          subst hz
          go_wp2_with fail
          refine cI.mono ?_
          rintro e w5 ⟨rfl, hb5⟩
          have HC5 : Hid (Cz w (B1 + 1) B0 D m w5) := HCr.out.on hb5
          have c5 := HC5.out.b.cell
          clear hb5 cI y0 y1 y2 y3 y4 y5 y6 y7 q6
          go_wp2_with fail
          refine leaves_marks (v := .bool true) [D] w5 (by simp) (fun D' hD' => by simp at hD'; rw [hD']; exact HC5.out.d) (fun W' mv => ⟨results_t1 (p := 2) rfl _ _, rfl, ?_⟩)
          exact ((Mv.ofBelow HC5.out.m).trans mv (fun b e => .inr (by simp at e; rw [e]; have := HB4.out.size; omega))).toBelow
    case stop =>
      intro D c pre W _ h1 h2 _
      exact absurd h2 (by simp)
end Go.Proofs.YtighocmdlifheaaDoor
