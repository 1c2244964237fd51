/-
  The document's formed.
-/
import Derived.Test.YteedmmljahgpjabGreatDoorM25
namespace Go.Proofs.YteedmmljahgpjabGreatDoor
open Go.RowKit
set_option linter.unusedVariables false
set_option linter.unusedSimpArgs false
theorem formB_no {t : TbM} (h : sizesB t = false) : formB t = false := by unfold formB; rw [h]; simp
theorem gds_at {sl : Int} {nr ns : Nat} {z : Int} {gs : List GdM} {j : Nat} (hj : j < gs.length) : gdsN sl nr ns z (gs.drop j) = (gdN sl nr ns gs[j] z).bind fun q => gdsN sl nr ns q (gs.drop (j + 1)) := by
  rw [List.drop_eq_getElem_cons hj]; rfl
theorem sts_at {sl : Int} {nr ns : Nat} {z : Int} {ts : List StM} {i : Nat} (hi : i < ts.length) : stsN sl nr ns z (ts.drop i) = if (ts[i].gs.length : Int) > 12 then none else (gdsN sl nr ns z ts[i].gs).bind fun q => stsN sl nr ns q (ts.drop (i + 1)) := by
  rw [List.drop_eq_getElem_cons hi]; rfl
set_option maxRecDepth 100000 in
set_option maxHeartbeats 4000000 in
theorem formed_any (t : TbM) (w : World) (hl : TbL w t) : Calls Tryz.prog 16 #[.agg t.vals] w fun e w' => e = .returned (.bool (formB t)) ∧ Below w.heap.size w w' := by
  have hb1 := below_new w (.cells t.vals 27)
  have hn1 := heap_new w (.cells t.vals 27)
  obtain ⟨W1, e1⟩ : ∃ W, w.alloc (.cells t.vals 27) = W := ⟨_, rfl⟩
  have E1 : Hid (w.alloc (.cells t.vals 27) = W1) := e1
  rw [e1] at hb1 hn1
  have HB1 : Hid (Below w.heap.size w W1) := hb1
  have HN1 : Hid (W1.heap[w.heap.size]? = some (.cells t.vals 27 (0, 0))) := hn1
  have HL : Hid (TbL W1 t) := hl.on hb1
  have c0 : W1.cell? ⟨w.heap.size, 0, none⟩ = some (.string t.x) := cell_of hn1 0
  have cN := rname_any t.x hl.X W1
  clear hb1 e1 hl hn1
  obtain ⟨ANS, eA⟩ : ∃ q, formB t = q := ⟨_, rfl⟩
  have HA : Hid (formB t = ANS) := eA
  rw [eA]
  clear eA
  go_enter Tryz.func16, Tryz.ntmps16
  go_upto_region 1 with fail
  rw [E1.out]
  clear E1
  go_wp2_with fail
  refine cN.mono ?_
  rintro e w2 ⟨rfl, hb2⟩
  have HB2 : Hid (Below W1.heap.size W1 w2) := hb2
  have c1 : w2.cell? ⟨w.heap.size, 1, none⟩ = some (.slice t.ra t.rs.length t.rc) := cell_on (cell_of HN1.out 1) hb2
  have c2 : w2.cell? ⟨w.heap.size, 2, none⟩ = some (.int .i64 t.sl) := cell_on (cell_of HN1.out 2) hb2
  have c3 : w2.cell? ⟨w.heap.size, 3, none⟩ = some (.slice t.ca t.cs.length t.cc) := cell_on (cell_of HN1.out 3) hb2
  have c4 : w2.cell? ⟨w.heap.size, 4, none⟩ = some (.slice t.da t.ds.length t.dc) := cell_on (cell_of HN1.out 4) hb2
  have c5 : w2.cell? ⟨w.heap.size, 5, none⟩ = some (.slice t.ta t.ts.length t.tc) := cell_on (cell_of HN1.out 5) hb2
  clear hb2 cN c0
  cases hnm : nameB t.x with
  | false =>
    have HN : Hid (ANS = false) := by show _ = _; rw [← HA.out]; unfold formB; rw [hnm]; rfl
    go_wp2_with fail
    go_ret
    exact ⟨by rw [HN.out]; rfl, below2 HB1.out HB2.out⟩
  | true =>
    cases h0 : decide ((t.rs.length : Int) > 12) with
    | true =>
      have HN : Hid (ANS = false) := by show _ = _; rw [← HA.out]; exact formB_no (by have := of_decide_eq_true h0; unfold sizesB withinB; simp; omega)
      go_wp2_with fail
      go_ret
      exact ⟨by rw [HN.out]; rfl, below2 HB1.out HB2.out⟩
    | false =>
      cases h1 : decide (t.sl < 0) with
      | true =>
        have HN : Hid (ANS = false) := by show _ = _; rw [← HA.out]; exact formB_no (by have := of_decide_eq_true h1; unfold sizesB withinB; simp; omega)
        go_wp2_with fail
        go_ret
        exact ⟨by rw [HN.out]; rfl, below2 HB1.out HB2.out⟩
      | false =>
        cases h2 : decide (t.sl > 4) with
        | true =>
          have HN : Hid (ANS = false) := by show _ = _; rw [← HA.out]; exact formB_no (by have := of_decide_eq_true h2; unfold sizesB withinB; simp; omega)
          go_wp2_with fail
          go_ret
          exact ⟨by rw [HN.out]; rfl, below2 HB1.out HB2.out⟩
        | false =>
          cases h3 : decide ((t.cs.length : Int) > 1024) with
          | true =>
            have HN : Hid (ANS = false) := by show _ = _; rw [← HA.out]; exact formB_no (by have := of_decide_eq_true h3; unfold sizesB withinB; simp; omega)
            go_wp2_with fail
            go_ret
            exact ⟨by rw [HN.out]; rfl, below2 HB1.out HB2.out⟩
          | false =>
            cases h4 : decide ((t.ds.length : Int) > 4096) with
            | true =>
              have HN : Hid (ANS = false) := by show _ = _; rw [← HA.out]; exact formB_no (by have := of_decide_eq_true h4; unfold sizesB withinB; simp; omega)
              go_wp2_with fail
              go_ret
              exact ⟨by rw [HN.out]; rfl, below2 HB1.out HB2.out⟩
            | false =>
              cases h5 : decide ((t.ts.length : Int) < 1) with
              | true =>
                have HN : Hid (ANS = false) := by show _ = _; rw [← HA.out]; exact formB_no (by have := of_decide_eq_true h5; unfold sizesB withinB; simp; omega)
                go_wp2_with fail
                go_ret
                exact ⟨by rw [HN.out]; rfl, below2 HB1.out HB2.out⟩
              | false =>
                cases h6 : decide ((t.ts.length : Int) > 12) with
                | true =>
                  have HN : Hid (ANS = false) := by show _ = _; rw [← HA.out]; exact formB_no (by have := of_decide_eq_true h6; unfold sizesB withinB; simp; omega)
                  go_wp2_with fail
                  go_ret
                  exact ⟨by rw [HN.out]; rfl, below2 HB1.out HB2.out⟩
                | false =>
                  have HSZ : Hid (sizesB t = true ∧ t.ts.length ≤ 12) := by
                    have a0 := of_decide_eq_false h0; have a1 := of_decide_eq_false h1; have a2 := of_decide_eq_false h2; have a3 := of_decide_eq_false h3
                    have a4 := of_decide_eq_false h4; have a5 := of_decide_eq_false h5; have a6 := of_decide_eq_false h6
                    refine ⟨?_, by omega⟩
                    unfold sizesB withinB
                    simp
                    omega
                  have HF : Hid (endB t.ds.length (stsN t.sl t.rs.length t.ts.length 0 t.ts) = ANS) := by show _ = _; rw [← HA.out]; unfold formB; rw [hnm, HSZ.out.1]; rfl
                  clear HA
                  go_upto_region 4 with fail
                  clear h0 h1 h2 h3 h4 h5 h6 hnm c1 c2 c3 c4 c5
                  obtain ⟨X, eX⟩ : ∃ X, stsN t.sl t.rs.length t.ts.length 0 t.ts = X := ⟨_, rfl⟩
                  have HX : Hid (stsN t.sl t.rs.length t.ts.length 0 t.ts = X) := eX
                  rw [eX] at HF
                  clear eX
                  go_wp2_with fail
                  go_loopw [4, 5] (fun v q wr => ∃ (z : Int) (i : Nat), i ≤ t.ts.length ∧ v = .int .i64 z ∧ q = .int .i64 i ∧ Hid (Below W1.heap.size W1 wr) ∧ Hid (stsN t.sl t.rs.length t.ts.length z (t.ts.drop i) = X)) (fun _ q _ => t.ts.length - (intOf q).toNat)
                  case atStart => exact ⟨0, 0, by omega, rfl, rfl, HB2, HX⟩
                  case round =>
                    clear HB2 HX
                    obtain ⟨z, i, hi, rfl, rfl, HBR, HSR⟩ := hrel
                    have c5 : wr.cell? ⟨w.heap.size, 5, none⟩ = some (.slice t.ta t.ts.length t.tc) := cell_on (cell_of HN1.out 5) HBR.out
                    by_cases hlt : i < t.ts.length
                    · have hlt' : (i : Int) < (t.ts.length : Int) := by omega
                      have hmx : (i : Int) + 1 ≤ 9223372036854775807 := by have := HSZ.out.2; omega
                      obtain ⟨b1, o1, ea, r1⟩ := els_at StM.sz HL.out.T i hlt
                      have HGX : Hid (StL W1 t.ts[i]) := HL.out.Ti _ (List.getElem_mem hlt)
                      have HSA : Hid ((if (t.ts[i].gs.length : Int) > 12 then none else (gdsN t.sl t.rs.length t.ts.length z t.ts[i].gs).bind fun q => stsN t.sl t.rs.length t.ts.length q (t.ts.drop (i + 1))) = X) := by show _ = _; rw [← sts_at hlt]; exact HSR.out
                      obtain ⟨x, ex⟩ : ∃ x, t.ts[i] = x := ⟨_, rfl⟩
                      rw [ex] at r1 HGX HSA
                      clear ex HSR
                      rw [ea] at c5
                      have HC5 : Hid (W1.cell? ⟨w.heap.size, 5, none⟩ = some (.slice (some ⟨b1, o1, none⟩) t.ts.length t.tc)) := by rw [← ea]; exact cell_of HN1.out 5
                      clear ea
                      have HX0 : Hid (W1.cell? ⟨b1, o1 + i, none⟩ = some (.slice x.a x.gs.length x.c)) := by have := r1 0 _ rfl; rw [Nat.mul_one, Nat.add_zero] at this; exact this
                      clear r1
                      have x0 := cell_on HX0.out HBR.out
                      cases h7 : decide ((x.gs.length : Int) > 12) with
                      | true =>
                        have HN : Hid (ANS = false) := by show _ = _; rw [← HF.out, ← HSA.out, if_pos (of_decide_eq_true h7)]; rfl
                        go_wp2_with fail
                        go_ret
                        exact ⟨by rw [HN.out]; rfl, below2 HB1.out HBR.out⟩
                      | false =>
                        have HSB : Hid ((gdsN t.sl t.rs.length t.ts.length z x.gs).bind (fun q => stsN t.sl t.rs.length t.ts.length q (t.ts.drop (i + 1))) = X) := by show _ = _; rw [← HSA.out, if_neg (of_decide_eq_false h7)]
                        have hgl : x.gs.length ≤ 12 := by have := of_decide_eq_false h7; omega
                        clear HSA
                        go_upto_region 10 with fail
                        clear h7 x0
                        go_wp2_with fail
                        clear c5
                        go_loopw [4, 6] (fun v q wv => ∃ (y : Int) (j : Nat), j ≤ x.gs.length ∧ v = .int .i64 y ∧ q = .int .i64 j ∧ Hid (Below W1.heap.size W1 wv) ∧ Hid ((gdsN t.sl t.rs.length t.ts.length y (x.gs.drop j)).bind (fun q => stsN t.sl t.rs.length t.ts.length q (t.ts.drop (i + 1))) = X)) (fun _ q _ => x.gs.length - (intOf q).toNat)
                        case atStart => exact ⟨z, 0, by omega, rfl, rfl, HBR, HSB⟩
                        case round =>
                          clear HBR HSB
                          obtain ⟨y, j, hj, rfl, rfl, HBW, HJR⟩ := hrel
                          have c5 := cell_on HC5.out HBW.out
                          have x0 := cell_on HX0.out HBW.out
                          by_cases hjl : j < x.gs.length
                          · have hjl' : (j : Int) < (x.gs.length : Int) := by omega
                            have hmy : (j : Int) + 1 ≤ 9223372036854775807 := by omega
                            obtain ⟨b3, o3, ea, r3⟩ := els_at GdM.sz HGX.out.1 j hjl
                            have HGG := HGX.out.2 _ (List.getElem_mem hjl)
                            have HJA : Hid ((gdN t.sl t.rs.length t.ts.length x.gs[j] y).bind (fun q => (gdsN t.sl t.rs.length t.ts.length q (x.gs.drop (j + 1))).bind (fun q => stsN t.sl t.rs.length t.ts.length q (t.ts.drop (i + 1)))) = X) := by
                              show _ = _
                              rw [← HJR.out, gds_at hjl, Option.bind_assoc]
                            obtain ⟨g, eg⟩ : ∃ g, x.gs[j] = g := ⟨_, rfl⟩
                            rw [eg] at r3 HGG HJA
                            clear eg HJR
                            have HXA : Hid (W1.cell? ⟨b1, o1 + i, none⟩ = some (.slice (some ⟨b3, o3, none⟩) x.gs.length x.c)) := by rw [← ea]; exact HX0
                            have HR3 : Hid (W1.rangeAt b3 (o3 + j * 5) g.vals.toList) := r3
                            clear ea r3
                            have HFA : Hid (∀ v : World, Below wr.heap.size wr v → v.heap[w.heap.size]? = some (.cells t.vals 27 (0, 0))) := fun v hv => ((below2 HBW.out hv).block _ (hp_lt HN1.out)).trans HN1.out
                            have HFB : Hid (∀ v : World, Below wr.heap.size wr v → v.cell? ⟨w.heap.size, 5, none⟩ = some (.slice (some ⟨b1, o1, none⟩) t.ts.length t.tc)) := fun v hv => cell_on HC5.out (below2 HBW.out hv)
                            have HFC : Hid (∀ v : World, Below wr.heap.size wr v → v.cell? ⟨b1, o1 + i, none⟩ = some (.slice (some ⟨b3, o3, none⟩) x.gs.length x.c)) := fun v hv => cell_on HXA.out (below2 HBW.out hv)
                            have HFD : Hid (∀ v : World, Below wr.heap.size wr v → v.rangeAt b3 (o3 + j * 5) g.vals.toList) := fun v hv => rng_on HR3.out (below2 HBW.out hv)
                            have cR := rguard_any' t g y wr.drew ((HGG.on HBW.out).on ⟨rfl, rfl, rfl, Nat.le_refl _, fun _ _ => rfl⟩)
                            clear HR3 HXA HGG
                            go_upto_region 13 with fail
                            clear c5 x0
                            refine wp_region_held_drew (S := fun v => Below wr.heap.size wr v) (by kernel_rfl) ⟨rfl, rfl, rfl, Nat.le_refl _, fun _ _ => rfl⟩ (fun hHeld => ?_)
                            refine wpAnyH_take (i := 0) (v := .agg t.vals) rfl (by kernel_rfl) (by kernel_rfl) (by kernel_rfl) (fun _ _ _ h => h) (yl_row (by rfl) 27 (.tmp 1) rfl w.heap.size rfl 27 t.vals (0, 0) _ HFA.out Tryz.underlying27 rfl size26') (by assumption) ?_
                            try simp [Act.put]
                            refine wpAnyH_take (i := 1) (v := ?_) rfl (by kernel_rfl) (by kernel_rfl) (by kernel_rfl) (fun _ _ _ h => h) (Or.inl ⟨by rfl, ?_⟩) (by assumption) ?_
                            rotate_left
                            · (intro v hv; go_simp; try (with_reducible rfl))
                            try simp [Act.put]
                            refine wpAnyH_take (i := 2) (v := ?_) rfl (by kernel_rfl) (by kernel_rfl) (by kernel_rfl) (fun _ _ _ h => h) (Or.inl ⟨by rfl, ?_⟩) (by assumption) ?_
                            rotate_left
                            · (intro v hv; have hF := HFB.out v hv; go_simp; try (with_reducible rfl))
                            try simp [Act.put]
                            refine wpAnyH_take (i := 3) (v := ?_) rfl (by kernel_rfl) (by kernel_rfl) (by kernel_rfl) (fun _ _ _ h => h) (Or.inl ⟨by rfl, ?_⟩) (by assumption) ?_
                            rotate_left
                            · (intro v hv; go_simp; try (with_reducible rfl))
                            try simp [Act.put]
                            refine wpAnyH_take (i := 4) (v := ?_) rfl (by kernel_rfl) (by kernel_rfl) (by kernel_rfl) (fun _ _ _ h => h) (Or.inl ⟨by rfl, ?_⟩) (by assumption) ?_
                            rotate_left
                            · (intro v hv; go_simp; try (with_reducible rfl))
                            try simp [Act.put]
                            refine wpAnyH_take (i := 5) (v := ?_) rfl (by kernel_rfl) (by kernel_rfl) (by kernel_rfl) (fun _ _ _ h => h) (Or.inl ⟨by rfl, ?_⟩) (by assumption) ?_
                            rotate_left
                            · (intro v hv; have hF := HFC.out v hv; go_simp; try (with_reducible rfl))
                            try simp [Act.put]
                            refine wpAnyH_take (i := 6) (v := ?_) rfl (by kernel_rfl) (by kernel_rfl) (by kernel_rfl) (fun _ _ _ h => h) (Or.inl ⟨by rfl, ?_⟩) (by assumption) ?_
                            rotate_left
                            · (intro v hv; go_simp; try (with_reducible rfl))
                            try simp [Act.put]
                            refine wpAnyH_take (i := 7) (v := ?_) rfl (by kernel_rfl) (by kernel_rfl) (by kernel_rfl) (fun _ _ _ h => h) (Or.inl ⟨by rfl, ?_⟩) (by assumption) ?_
                            rotate_left
                            · (intro v hv; go_simp; try (with_reducible rfl))
                            try simp [Act.put]
                            refine wpAnyH_take (i := 8) (v := .agg g.vals) rfl (by kernel_rfl) (by kernel_rfl) (by kernel_rfl) (fun _ _ _ h => h) (yl_mid (by rfl) 49 (.tmp 86) rfl b3 (o3 + j * 5) rfl g.vals _ HFD.out Tryz.underlying49 rfl (by show _ = some 5; exact size68')) (by assumption) ?_
                            try simp [Act.put]
                            refine wpAnyH_take (i := 9) (v := ?_) rfl (by kernel_rfl) (by kernel_rfl) (by kernel_rfl) (fun _ _ _ h => h) (Or.inl ⟨by rfl, ?_⟩) (by assumption) ?_
                            rotate_left
                            · (intro v hv; go_simp; try (with_reducible rfl))
                            try simp [Act.put]
                            refine wpAnyH_ready (rs := [10]) (by kernel_rfl) (by simp) ?_
                            refine AllReadyH.cons rfl (fun K hK => ?_) AllReadyH.nil
                            go_simp
                            refine cR.mono ?_
                            rintro e w5 ⟨rfl, hb5⟩
                            have hB5 : Below wr.heap.size wr w5 := ⟨hb5.os, hb5.tape, hb5.output, hb5.size, hb5.block⟩
                            have HB5 : Hid (Below W1.heap.size W1 w5) := below2 HBW.out hB5
                            refine hK.out _ _ hB5 (fun hHeld => ?_)
                            clear hK K cR hb5 hB5
                            try simp [Act.put]
                            cases hrw : gdN t.sl t.rs.length t.ts.length g y with
                            | none =>
                              have HN : Hid (ANS = false) := by show _ = _; rw [← HF.out, ← HJA.out, hrw]; rfl
                              unfold outP
                              refine wpAnyH_take (i := 11) (v := ?_) rfl (by kernel_rfl) (by kernel_rfl) (by kernel_rfl) (fun _ _ _ h => h) (Or.inl ⟨by rfl, ?_⟩) (by assumption) ?_
                              rotate_left
                              · (intro v hv; go_simp; try (with_reducible rfl))
                              try simp [Act.put]
                              refine wpAnyH_take (i := 12) (v := ?_) rfl (by kernel_rfl) (by kernel_rfl) (by kernel_rfl) (fun _ _ _ h => h) (Or.inl ⟨by rfl, ?_⟩) (by assumption) ?_
                              rotate_left
                              · (intro v hv; go_simp; try (with_reducible rfl))
                              try simp [Act.put]
                              refine wpAnyH_take (i := 13) (v := ?_) rfl (by kernel_rfl) (by kernel_rfl) (by kernel_rfl) (fun _ _ _ h => h) (Or.inl ⟨by rfl, ?_⟩) (by assumption) ?_
                              rotate_left
                              · (intro v hv; go_simp; try (with_reducible rfl))
                              try simp [Act.put]
                              refine wpAnyH_take (i := 14) (v := ?_) rfl (by kernel_rfl) (by kernel_rfl) (by kernel_rfl) (fun _ _ _ h => h) (Or.inl ⟨by rfl, ?_⟩) (by assumption) ?_
                              rotate_left
                              · (intro v hv; go_simp; try (with_reducible rfl))
                              try simp [Act.put]
                              refine wpAnyH_take (i := 15) (v := ?_) rfl (by kernel_rfl) (by kernel_rfl) (by kernel_rfl) (fun _ _ _ h => h) (Or.inl ⟨by rfl, ?_⟩) (by assumption) ?_
                              rotate_left
                              · (intro v hv; go_simp; try (with_reducible rfl))
                              try simp [Act.put]
                              refine wpAnyH_done (by kernel_rfl) ?_ _
                              go_wp2_with fail
                              go_ret
                              exact ⟨by rw [HN.out]; rfl, below2 HB1.out HB5.out⟩
                            | some q =>
                              have HN : Hid ((gdsN t.sl t.rs.length t.ts.length q (x.gs.drop (j + 1))).bind (fun q => stsN t.sl t.rs.length t.ts.length q (t.ts.drop (i + 1))) = X) := by show _ = _; rw [← HJA.out, hrw]; rfl
                              unfold outP
                              refine wpAnyH_take (i := 11) (v := ?_) rfl (by kernel_rfl) (by kernel_rfl) (by kernel_rfl) (fun _ _ _ h => h) (Or.inl ⟨by rfl, ?_⟩) (by assumption) ?_
                              rotate_left
                              · (intro v hv; go_simp; try (with_reducible rfl))
                              try simp [Act.put]
                              refine wpAnyH_take (i := 12) (v := ?_) rfl (by kernel_rfl) (by kernel_rfl) (by kernel_rfl) (fun _ _ _ h => h) (Or.inl ⟨by rfl, ?_⟩) (by assumption) ?_
                              rotate_left
                              · (intro v hv; go_simp; try (with_reducible rfl))
                              try simp [Act.put]
                              refine wpAnyH_take (i := 13) (v := ?_) rfl (by kernel_rfl) (by kernel_rfl) (by kernel_rfl) (fun _ _ _ h => h) (Or.inl ⟨by rfl, ?_⟩) (by assumption) ?_
                              rotate_left
                              · (intro v hv; go_simp; try (with_reducible rfl))
                              try simp [Act.put]
                              refine wpAnyH_take (i := 14) (v := ?_) rfl (by kernel_rfl) (by kernel_rfl) (by kernel_rfl) (fun _ _ _ h => h) (Or.inl ⟨by rfl, ?_⟩) (by assumption) ?_
                              rotate_left
                              · (intro v hv; go_simp; try (with_reducible rfl))
                              try simp [Act.put]
                              refine wpAnyH_take (i := 15) (v := ?_) rfl (by kernel_rfl) (by kernel_rfl) (by kernel_rfl) (fun _ _ _ h => h) (Or.inl ⟨by rfl, ?_⟩) (by assumption) ?_
                              rotate_left
                              · (intro v hv; go_simp; try (with_reducible rfl))
                              try simp [Act.put]
                              refine wpAnyH_done (by kernel_rfl) ?_ _
                              go_wp2_with fail
                              exact ⟨⟨q, j + 1, hjl, rfl, rfl, HB5, HN⟩, by simp only [intOf]; omega⟩
                          · obtain rfl : j = x.gs.length := by omega
                            have hnot : ¬ (x.gs.length : Int) < (x.gs.length : Int) := by omega
                            have HN : Hid (stsN t.sl t.rs.length t.ts.length y (t.ts.drop (i + 1)) = X) := by show _ = _; rw [← HJR.out, List.drop_length]; rfl
                            go_wp2_with fail
                            exact ⟨⟨y, i + 1, hlt, rfl, rfl, HBW, HN⟩, by simp only [intOf]; omega⟩
                    · obtain rfl : i = t.ts.length := by omega
                      have hnot : ¬ (t.ts.length : Int) < (t.ts.length : Int) := by omega
                      have c4 : wr.cell? ⟨w.heap.size, 4, none⟩ = some (.slice t.da t.ds.length t.dc) := cell_on (cell_of HN1.out 4) HBR.out
                      have HN : Hid (ANS = (z == (t.ds.length : Int))) := by
                        show _ = _
                        rw [← HF.out, ← HSR.out, List.drop_length]; rfl
                      go_wp2_with fail
                      go_ret
                      exact ⟨by rw [HN.out]; rfl, below2 HB1.out HBR.out⟩
end Go.Proofs.YteedmmljahgpjabGreatDoor
