import Derived.Test.YteedmmljahgpjaaDoorM24
import Derived.Test.YteedmmljahgpjaaDoorM10
/-
  The document's Reads, of instructions.
-/
namespace Go.Proofs.YteedmmljahgpjaaDoor
open Go.RowKit
set_option linter.unusedVariables false
set_option linter.unusedSimpArgs false
set_option maxRecDepth 100000 in
set_option maxHeartbeats 4000000 in
theorem rreads_any (t : TbM) (F : Nat) (T : Int) (w : World) (hl : TbL w t) (hT : T ≤ t.ds.length) : Calls Tryd.prog 15 #[.slice t.da t.ds.length t.dc, .agg (Sp.vals ⟨F, T⟩)] w fun e w' => e = .returned (.tuple #[.int .u16 (rdL t.ds (T.toNat - F) F (0, 0)).1, .int .u16 (rdL t.ds (T.toNat - F) F (0, 0)).2]) ∧ Below w.heap.size w w' := by
  have hb1 := below_new w (.cells (Sp.vals ⟨F, T⟩) 34)
  have hn1 := heap_new w (.cells (Sp.vals ⟨F, T⟩) 34)
  obtain ⟨W1, e1⟩ : ∃ W, w.alloc (.cells (Sp.vals ⟨F, T⟩) 34) = W := ⟨_, rfl⟩
  have E1 : Hid (w.alloc (.cells (Sp.vals ⟨F, T⟩) 34) = W1) := e1
  rw [e1] at hb1 hn1
  have HB1 : Hid (Below w.heap.size w W1) := hb1
  have HL : Hid (TbL W1 t) := hl.on hb1
  have x0 : W1.cell? ⟨w.heap.size, 0, none⟩ = some (.int .i64 F) := cell_of hn1 0
  have x1 : W1.cell? ⟨w.heap.size, 1, none⟩ = some (.int .i64 T) := cell_of hn1 1
  obtain ⟨R, eR⟩ : ∃ q, rdL t.ds (T.toNat - F) F (0, 0) = q := ⟨_, rfl⟩
  have HR : Hid (R = rdL t.ds (T.toNat - F) F (0, 0)) := eR.symm
  rw [eR]
  have hdl : t.ds.length ≤ 9223372036854775807 := by have h1 := hl.D.1; have h2 := hl.D.2.1; rw [List.length_map] at h1; omega
  have HTL : Hid (T ≤ t.ds.length) := hT
  clear hb1 hn1 e1 eR hl hT
  go_enter Tryd.func15, Tryd.ntmps15
  go_upto_region 1 with fail
  rw [E1.out]
  clear E1
  go_wp2_with fail
  clear x0
  go_loopw [6, 7, 8] (fun p q s wr => ∃ (a : Nat) (fm rm : Int), p = .int .u16 fm ∧ q = .int .u16 rm ∧ s = .int .i64 a ∧ wr = W1 ∧ Hid (R = rdL t.ds (T.toNat - a) a (fm, rm))) (fun _ _ s _ => (T - intOf s).toNat)
  case atStart => exact ⟨F, 0, 0, rfl, rfl, rfl, rfl, HR⟩
  case round =>
    obtain ⟨a, fm, rm, rfl, rfl, rfl, rfl, HRR⟩ := hrel
    by_cases hlt : (a : Int) < T
    · have hTT := HTL.out
      have hal : a < t.ds.length := by omega
      have hal' : (a : Int) < (t.ds.length : Int) := by omega
      have hai : (a : Int) + 1 ≤ 9223372036854775807 := by omega
      obtain ⟨bb, o, ea, r1⟩ := els_at InM.sz HL.out.D a hal
      have hR := HRR.out
      rw [show T.toNat - a = (T.toNat - (a + 1)) + 1 by omega] at hR
      simp only [rdL] at hR
      have hgd : t.ds.getD a ⟨0, 0⟩ = t.ds[a] := by rw [List.getD_eq_getElem?_getD, List.getElem?_eq_getElem hal]; rfl
      rw [hgd] at hR
      obtain ⟨d, ed⟩ : ∃ d, t.ds[a] = d := ⟨_, rfl⟩
      rw [ed] at hR r1
      have k0 : wr.cell? ⟨bb, o + a * 2, none⟩ = some (.int .u8 d.k) := by have := r1 0 _ rfl; rw [Nat.add_zero] at this; exact this
      have k1 : wr.cell? ⟨bb, o + a * 2 + 1, none⟩ = some (.int .i64 d.a) := r1 1 _ rfl
      have HD := hid_of hR
      clear hR ed hgd r1 hTT HRR
      rw [ea]
      cases h2 : (d.k == 2) with
      | true =>
        cases h0 : decide (d.a ≥ 0) with
        | false =>
          have g0 : decide (d.a < 0) = true := decide_eq_true (by have := of_decide_eq_false h0; omega)
          have HX : Hid (R = rdL t.ds (T.toNat - (a + 1)) (a + 1) (fm, rm)) := by show _ = _; rw [HD.out]; unfold rd1; simp only [g0, reduceIte, Bool.false_eq_true, if_false, if_true]
          go_wp2_with fail
          exact ⟨⟨a + 1, fm, rm, by first | (unfold orM; rfl) | rfl | trivial, by first | (unfold orM; rfl) | rfl | trivial, by congr 1, by first | rfl | trivial, HX⟩, by simp only [intOf]; omega⟩
        | true =>
          have g0 : decide (d.a < 0) = false := decide_eq_false (by have := of_decide_eq_true h0; omega)
          cases h16 : decide (d.a < 16) with
          | false =>
            have g1 : decide (d.a ≥ 16) = true := decide_eq_true (by have := of_decide_eq_false h16; omega)
            have HX : Hid (R = rdL t.ds (T.toNat - (a + 1)) (a + 1) (fm, rm)) := by show _ = _; rw [HD.out]; unfold rd1; simp only [g0, g1, reduceIte, Bool.false_eq_true, if_false, if_true]
            go_wp2_with fail
            exact ⟨⟨a + 1, fm, rm, by first | (unfold orM; rfl) | rfl | trivial, by first | (unfold orM; rfl) | rfl | trivial, by congr 1, by first | rfl | trivial, HX⟩, by simp only [intOf]; omega⟩
          | true =>
            have g1 : decide (d.a ≥ 16) = false := decide_eq_false (by have := of_decide_eq_true h16; omega)
            have ha0 : 0 ≤ d.a := of_decide_eq_true h0
            have ha16 : d.a < 16 := of_decide_eq_true h16
            have HX : Hid (R = rdL t.ds (T.toNat - (a + 1)) (a + 1) ((orM fm d.a), rm)) := by show _ = _; rw [HD.out]; unfold rd1; simp only [g0, g1, h2, reduceIte, Bool.false_eq_true, if_false, if_true]
            go_wp2_with fail
            exact ⟨⟨a + 1, (orM fm d.a), rm, by first | (unfold orM; rfl) | rfl | trivial, by first | (unfold orM; rfl) | rfl | trivial, by congr 1, by first | rfl | trivial, HX⟩, by simp only [intOf]; omega⟩
      | false =>
        cases h3 : (d.k == 3) with
        | true =>
          cases h0 : decide (d.a ≥ 0) with
          | false =>
            have g0 : decide (d.a < 0) = true := decide_eq_true (by have := of_decide_eq_false h0; omega)
            have HX : Hid (R = rdL t.ds (T.toNat - (a + 1)) (a + 1) (fm, rm)) := by show _ = _; rw [HD.out]; unfold rd1; simp only [g0, reduceIte, Bool.false_eq_true, if_false, if_true]
            go_wp2_with fail
            exact ⟨⟨a + 1, fm, rm, by first | (unfold orM; rfl) | rfl | trivial, by first | (unfold orM; rfl) | rfl | trivial, by congr 1, by first | rfl | trivial, HX⟩, by simp only [intOf]; omega⟩
          | true =>
            have g0 : decide (d.a < 0) = false := decide_eq_false (by have := of_decide_eq_true h0; omega)
            cases h16 : decide (d.a < 16) with
            | false =>
              have g1 : decide (d.a ≥ 16) = true := decide_eq_true (by have := of_decide_eq_false h16; omega)
              have HX : Hid (R = rdL t.ds (T.toNat - (a + 1)) (a + 1) (fm, rm)) := by show _ = _; rw [HD.out]; unfold rd1; simp only [g0, g1, reduceIte, Bool.false_eq_true, if_false, if_true]
              go_wp2_with fail
              exact ⟨⟨a + 1, fm, rm, by first | (unfold orM; rfl) | rfl | trivial, by first | (unfold orM; rfl) | rfl | trivial, by congr 1, by first | rfl | trivial, HX⟩, by simp only [intOf]; omega⟩
            | true =>
              have g1 : decide (d.a ≥ 16) = false := decide_eq_false (by have := of_decide_eq_true h16; omega)
              have ha0 : 0 ≤ d.a := of_decide_eq_true h0
              have ha16 : d.a < 16 := of_decide_eq_true h16
              have HX : Hid (R = rdL t.ds (T.toNat - (a + 1)) (a + 1) ((orM fm d.a), rm)) := by show _ = _; rw [HD.out]; unfold rd1; simp only [g0, g1, h2, h3, reduceIte, Bool.false_eq_true, if_false, if_true]
              go_wp2_with fail
              exact ⟨⟨a + 1, (orM fm d.a), rm, by first | (unfold orM; rfl) | rfl | trivial, by first | (unfold orM; rfl) | rfl | trivial, by congr 1, by first | rfl | trivial, HX⟩, by simp only [intOf]; omega⟩
        | false =>
          cases h4 : (d.k == 4) with
          | true =>
            cases h0 : decide (d.a ≥ 0) with
            | false =>
              have g0 : decide (d.a < 0) = true := decide_eq_true (by have := of_decide_eq_false h0; omega)
              have HX : Hid (R = rdL t.ds (T.toNat - (a + 1)) (a + 1) (fm, rm)) := by show _ = _; rw [HD.out]; unfold rd1; simp only [g0, reduceIte, Bool.false_eq_true, if_false, if_true]
              go_wp2_with fail
              exact ⟨⟨a + 1, fm, rm, by first | (unfold orM; rfl) | rfl | trivial, by first | (unfold orM; rfl) | rfl | trivial, by congr 1, by first | rfl | trivial, HX⟩, by simp only [intOf]; omega⟩
            | true =>
              have g0 : decide (d.a < 0) = false := decide_eq_false (by have := of_decide_eq_true h0; omega)
              cases h16 : decide (d.a < 16) with
              | false =>
                have g1 : decide (d.a ≥ 16) = true := decide_eq_true (by have := of_decide_eq_false h16; omega)
                have HX : Hid (R = rdL t.ds (T.toNat - (a + 1)) (a + 1) (fm, rm)) := by show _ = _; rw [HD.out]; unfold rd1; simp only [g0, g1, reduceIte, Bool.false_eq_true, if_false, if_true]
                go_wp2_with fail
                exact ⟨⟨a + 1, fm, rm, by first | (unfold orM; rfl) | rfl | trivial, by first | (unfold orM; rfl) | rfl | trivial, by congr 1, by first | rfl | trivial, HX⟩, by simp only [intOf]; omega⟩
              | true =>
                have g1 : decide (d.a ≥ 16) = false := decide_eq_false (by have := of_decide_eq_true h16; omega)
                have ha0 : 0 ≤ d.a := of_decide_eq_true h0
                have ha16 : d.a < 16 := of_decide_eq_true h16
                have HX : Hid (R = rdL t.ds (T.toNat - (a + 1)) (a + 1) (fm, (orM rm d.a))) := by show _ = _; rw [HD.out]; unfold rd1; simp only [g0, g1, h2, h3, h4, reduceIte, Bool.false_eq_true, if_false, if_true]
                go_wp2_with fail
                exact ⟨⟨a + 1, fm, (orM rm d.a), by first | (unfold orM; rfl) | rfl | trivial, by first | (unfold orM; rfl) | rfl | trivial, by congr 1, by first | rfl | trivial, HX⟩, by simp only [intOf]; omega⟩
          | false =>
            have HX : Hid (R = rdL t.ds (T.toNat - (a + 1)) (a + 1) (fm, rm)) := by show _ = _; rw [HD.out]; unfold rd1; simp [h2, h3, h4]
            go_wp2_with fail
            exact ⟨⟨a + 1, fm, rm, rfl, rfl, by congr 1, by first | rfl | trivial, HX⟩, by simp only [intOf]; omega⟩
    · have HX : Hid (R = (fm, rm)) := by show _ = _; rw [HRR.out, show T.toNat - a = 0 by omega]; rfl
      go_wp2_with fail
      go_ret2
      exact ⟨by rw [HX.out]; rfl, HB1.out⟩
end Go.Proofs.YteedmmljahgpjaaDoor

/-
  The document's Reads, of any table and span.
-/
namespace Go.Proofs.YteedmmljahgpjaaDoor
open Go.RowKit
set_option linter.unusedVariables false
set_option linter.unusedSimpArgs false
set_option maxRecDepth 100000 in
set_option maxHeartbeats 4000000 in
theorem rreadsT_any (t : TbM) (x : Sp) (w : World) (hl : TbL w t) : Calls Tryd.prog 7 #[.agg t.vals, .agg x.vals] w fun e w' => e = .returned (.tuple #[.int .u16 (readsN t.ds x).1, .int .u16 (readsN t.ds x).2]) ∧ Below w.heap.size w w' := by
  obtain ⟨W2, e2⟩ : ∃ W, (w.alloc (.cells t.vals 26)).alloc (.cells x.vals 34) = W := ⟨_, rfl⟩
  have E2 : Hid ((w.alloc (.cells t.vals 26)).alloc (.cells x.vals 34) = W2) := e2
  obtain ⟨hn1, hn2, hb2, hs2⟩ := two_box e2
  have HB2 : Hid (Below w.heap.size w W2) := hb2
  have HN1 : Hid (W2.heap[w.heap.size]? = some (.cells t.vals 26 (0, 0))) := hn1
  have HN2 : Hid (W2.heap[w.heap.size + 1]? = some (.cells x.vals 34 (0, 0))) := hn2
  clear e2
  have HL : Hid (TbL w t) := hl
  have x0 : W2.cell? ⟨w.heap.size + 1, 0, none⟩ = some (.int .i64 x.f) := cell_of hn2 0
  have x1 : W2.cell? ⟨w.heap.size + 1, 1, none⟩ = some (.int .i64 x.t) := cell_of hn2 1
  have f0 : W2.frozen? ⟨w.heap.size + 1, 0, none⟩ = false := frozen_of hn2 0
  have f1 : W2.frozen? ⟨w.heap.size + 1, 1, none⟩ = false := frozen_of hn2 1
  have c4 : W2.cell? ⟨w.heap.size, 4, none⟩ = some (.slice t.da t.ds.length t.dc) := cell_of hn1 4
  obtain ⟨R, eR⟩ : ∃ q, readsN t.ds x = q := ⟨_, rfl⟩
  have HR : Hid (rdL t.ds ((mnL x.t t.ds.length).toNat - (mx0 x.f).toNat) (mx0 x.f).toNat (0, 0) = R) := eR
  rw [eR]
  clear eR hn1 hn2 hb2 hs2 hl
  go_enter Tryd.func7, Tryd.ntmps7
  go_upto_region 1 with fail
  rw [E2.out]
  clear E2
  obtain ⟨XB, eXB⟩ : ∃ b, w.heap.size + 1 = b := ⟨_, rfl⟩
  have HXB : Hid (w.heap.size < XB) := by show _ < _; omega
  rw [eXB] at x0 x1 f0 f1 HN2 ⊢
  clear eXB
  cases hA : decide (x.f < 0) with
  | true =>
    cases hC : decide ((t.ds.length : Int) < x.t) with
    | true =>
      have HXX : Hid (((W2.setCell ⟨XB, 0, none⟩ (.int .i64 0)).setCell ⟨XB, 1, none⟩ (.int .i64 (t.ds.length : Int))).heap[XB]? = some (.cells #[.int .i64 0, .int .i64 (t.ds.length : Int)] 34 (0, 0))) := (heap_set (.int .i64 (t.ds.length : Int)) (heap_set (.int .i64 0) HN2.out))
      have HBV : Hid (Below w.heap.size w ((W2.setCell ⟨XB, 0, none⟩ (.int .i64 0)).setCell ⟨XB, 1, none⟩ (.int .i64 (t.ds.length : Int)))) := ((HB2.out.setCell (p := ⟨XB, 0, none⟩) (Nat.le_of_lt HXB.out) _).setCell (p := ⟨XB, 1, none⟩) (Nat.le_of_lt HXB.out) _)
      have HTV : Hid (((W2.setCell ⟨XB, 0, none⟩ (.int .i64 0)).setCell ⟨XB, 1, none⟩ (.int .i64 (t.ds.length : Int))).heap[w.heap.size]? = some (.cells t.vals 26 (0, 0))) := ((heap_setCell_other _ _ _ _ (by show w.heap.size ≠ XB; have := HXB.out; omega)).trans ((heap_setCell_other _ _ _ _ (by show w.heap.size ≠ XB; have := HXB.out; omega)).trans HN1.out))
      have hF : (mx0 x.f).toNat = (0 : Nat) := by unfold mx0; rw [if_pos (show (0 : Int) > x.f from of_decide_eq_true hA)]; rfl
      have hT : mnL x.t t.ds.length = (t.ds.length : Int) := by unfold mnL; rw [if_pos (of_decide_eq_true hC)]
      rw [hF, hT] at HR
      have hff : (((0 : Nat) : Nat) : Int) = 0 := by rfl
      have cR : ∀ v : World, TbL v t → Calls Tryd.prog 15 #[.slice t.da t.ds.length t.dc, .agg #[.int .i64 0, .int .i64 (t.ds.length : Int)]] v fun e w' => e = .returned (.tuple #[.int .u16 R.1, .int .u16 R.2]) ∧ Below v.heap.size v w' := fun v hv => by
        have h := rreads_any t (0 : Nat) (t.ds.length : Int) v hv (by exact Int.le_refl _)
        rw [HR.out] at h
        unfold Sp.vals at h
        rw [hff] at h
        exact h
      have HCR := hid_of cR
      clear cR hF hT hff
      go_upto_region 5 with fail
      generalize eV : ((W2.setCell ⟨XB, 0, none⟩ (.int .i64 0)).setCell ⟨XB, 1, none⟩ (.int .i64 (t.ds.length : Int))) = V at HXX HBV HTV ⊢
      clear eV x0 x1 f0 f1 c4
      have c4 : V.cell? ⟨w.heap.size, 4, none⟩ = some (.slice t.da t.ds.length t.dc) := cell_of HTV.out 4
      go_wp2_with (refine wpList_load_row rfl 34 (.tmp 3) rfl XB rfl 34 #[.int .i64 0, .int .i64 (t.ds.length : Int)] (0, 0) _ HXX.out Tryd.underlying34 rfl size65' ?_)
      refine (HCR.out V (HL.out.on HBV.out)).mono ?_
      rintro e w3 ⟨rfl, hb3⟩
      have HB3 : Hid (Below w.heap.size w w3) := below2 HBV.out hb3
      clear hb3
      go_wp2_with fail
      go_ret2
      exact ⟨rfl, HB3.out⟩
    | false =>
      have HXX : Hid ((W2.setCell ⟨XB, 0, none⟩ (.int .i64 0)).heap[XB]? = some (.cells #[.int .i64 0, .int .i64 x.t] 34 (0, 0))) := (heap_set (.int .i64 0) HN2.out)
      have HBV : Hid (Below w.heap.size w (W2.setCell ⟨XB, 0, none⟩ (.int .i64 0))) := (HB2.out.setCell (p := ⟨XB, 0, none⟩) (Nat.le_of_lt HXB.out) _)
      have HTV : Hid ((W2.setCell ⟨XB, 0, none⟩ (.int .i64 0)).heap[w.heap.size]? = some (.cells t.vals 26 (0, 0))) := ((heap_setCell_other _ _ _ _ (by show w.heap.size ≠ XB; have := HXB.out; omega)).trans HN1.out)
      have hF : (mx0 x.f).toNat = (0 : Nat) := by unfold mx0; rw [if_pos (show (0 : Int) > x.f from of_decide_eq_true hA)]; rfl
      have hT : mnL x.t t.ds.length = x.t := by unfold mnL; rw [if_neg (show ¬ (t.ds.length : Int) < x.t from of_decide_eq_false hC)]
      rw [hF, hT] at HR
      have hff : (((0 : Nat) : Nat) : Int) = 0 := by rfl
      have cR : ∀ v : World, TbL v t → Calls Tryd.prog 15 #[.slice t.da t.ds.length t.dc, .agg #[.int .i64 0, .int .i64 x.t]] v fun e w' => e = .returned (.tuple #[.int .u16 R.1, .int .u16 R.2]) ∧ Below v.heap.size v w' := fun v hv => by
        have h := rreads_any t (0 : Nat) x.t v hv (by have := of_decide_eq_false hC; omega)
        rw [HR.out] at h
        unfold Sp.vals at h
        rw [hff] at h
        exact h
      have HCR := hid_of cR
      clear cR hF hT hff
      go_upto_region 5 with fail
      generalize eV : (W2.setCell ⟨XB, 0, none⟩ (.int .i64 0)) = V at HXX HBV HTV ⊢
      clear eV x0 x1 f0 f1 c4
      have c4 : V.cell? ⟨w.heap.size, 4, none⟩ = some (.slice t.da t.ds.length t.dc) := cell_of HTV.out 4
      go_wp2_with (refine wpList_load_row rfl 34 (.tmp 3) rfl XB rfl 34 #[.int .i64 0, .int .i64 x.t] (0, 0) _ HXX.out Tryd.underlying34 rfl size65' ?_)
      refine (HCR.out V (HL.out.on HBV.out)).mono ?_
      rintro e w3 ⟨rfl, hb3⟩
      have HB3 : Hid (Below w.heap.size w w3) := below2 HBV.out hb3
      clear hb3
      go_wp2_with fail
      go_ret2
      exact ⟨rfl, HB3.out⟩
  | false =>
    cases hC : decide ((t.ds.length : Int) < x.t) with
    | true =>
      have HXX : Hid ((W2.setCell ⟨XB, 1, none⟩ (.int .i64 (t.ds.length : Int))).heap[XB]? = some (.cells #[.int .i64 x.f, .int .i64 (t.ds.length : Int)] 34 (0, 0))) := (heap_set (.int .i64 (t.ds.length : Int)) HN2.out)
      have HBV : Hid (Below w.heap.size w (W2.setCell ⟨XB, 1, none⟩ (.int .i64 (t.ds.length : Int)))) := (HB2.out.setCell (p := ⟨XB, 1, none⟩) (Nat.le_of_lt HXB.out) _)
      have HTV : Hid ((W2.setCell ⟨XB, 1, none⟩ (.int .i64 (t.ds.length : Int))).heap[w.heap.size]? = some (.cells t.vals 26 (0, 0))) := ((heap_setCell_other _ _ _ _ (by show w.heap.size ≠ XB; have := HXB.out; omega)).trans HN1.out)
      have hF : (mx0 x.f).toNat = x.f.toNat := by unfold mx0; rw [if_neg (show ¬ (0 : Int) > x.f from of_decide_eq_false hA)]
      have hT : mnL x.t t.ds.length = (t.ds.length : Int) := by unfold mnL; rw [if_pos (of_decide_eq_true hC)]
      rw [hF, hT] at HR
      have hff : ((x.f.toNat : Nat) : Int) = x.f := by have := of_decide_eq_false hA; omega
      have cR : ∀ v : World, TbL v t → Calls Tryd.prog 15 #[.slice t.da t.ds.length t.dc, .agg #[.int .i64 x.f, .int .i64 (t.ds.length : Int)]] v fun e w' => e = .returned (.tuple #[.int .u16 R.1, .int .u16 R.2]) ∧ Below v.heap.size v w' := fun v hv => by
        have h := rreads_any t x.f.toNat (t.ds.length : Int) v hv (by exact Int.le_refl _)
        rw [HR.out] at h
        unfold Sp.vals at h
        rw [hff] at h
        exact h
      have HCR := hid_of cR
      clear cR hF hT hff
      go_upto_region 5 with fail
      generalize eV : (W2.setCell ⟨XB, 1, none⟩ (.int .i64 (t.ds.length : Int))) = V at HXX HBV HTV ⊢
      clear eV x0 x1 f0 f1 c4
      have c4 : V.cell? ⟨w.heap.size, 4, none⟩ = some (.slice t.da t.ds.length t.dc) := cell_of HTV.out 4
      go_wp2_with (refine wpList_load_row rfl 34 (.tmp 3) rfl XB rfl 34 #[.int .i64 x.f, .int .i64 (t.ds.length : Int)] (0, 0) _ HXX.out Tryd.underlying34 rfl size65' ?_)
      refine (HCR.out V (HL.out.on HBV.out)).mono ?_
      rintro e w3 ⟨rfl, hb3⟩
      have HB3 : Hid (Below w.heap.size w w3) := below2 HBV.out hb3
      clear hb3
      go_wp2_with fail
      go_ret2
      exact ⟨rfl, HB3.out⟩
    | false =>
      have HXX : Hid (W2.heap[XB]? = some (.cells #[.int .i64 x.f, .int .i64 x.t] 34 (0, 0))) := HN2.out
      have HBV : Hid (Below w.heap.size w W2) := HB2.out
      have HTV : Hid (W2.heap[w.heap.size]? = some (.cells t.vals 26 (0, 0))) := HN1.out
      have hF : (mx0 x.f).toNat = x.f.toNat := by unfold mx0; rw [if_neg (show ¬ (0 : Int) > x.f from of_decide_eq_false hA)]
      have hT : mnL x.t t.ds.length = x.t := by unfold mnL; rw [if_neg (show ¬ (t.ds.length : Int) < x.t from of_decide_eq_false hC)]
      rw [hF, hT] at HR
      have hff : ((x.f.toNat : Nat) : Int) = x.f := by have := of_decide_eq_false hA; omega
      have cR : ∀ v : World, TbL v t → Calls Tryd.prog 15 #[.slice t.da t.ds.length t.dc, .agg #[.int .i64 x.f, .int .i64 x.t]] v fun e w' => e = .returned (.tuple #[.int .u16 R.1, .int .u16 R.2]) ∧ Below v.heap.size v w' := fun v hv => by
        have h := rreads_any t x.f.toNat x.t v hv (by have := of_decide_eq_false hC; omega)
        rw [HR.out] at h
        unfold Sp.vals at h
        rw [hff] at h
        exact h
      have HCR := hid_of cR
      clear cR hF hT hff
      go_upto_region 5 with fail
      obtain ⟨V, eV⟩ : ∃ V, W2 = V := ⟨_, rfl⟩
      rw [eV] at HXX HBV HTV ⊢
      clear eV x0 x1 f0 f1 c4
      have c4 : V.cell? ⟨w.heap.size, 4, none⟩ = some (.slice t.da t.ds.length t.dc) := cell_of HTV.out 4
      go_wp2_with (refine wpList_load_row rfl 34 (.tmp 3) rfl XB rfl 34 #[.int .i64 x.f, .int .i64 x.t] (0, 0) _ HXX.out Tryd.underlying34 rfl size65' ?_)
      refine (HCR.out V (HL.out.on HBV.out)).mono ?_
      rintro e w3 ⟨rfl, hb3⟩
      have HB3 : Hid (Below w.heap.size w w3) := below2 HBV.out hb3
      clear hb3
      go_wp2_with fail
      go_ret2
      exact ⟨rfl, HB3.out⟩
end Go.Proofs.YteedmmljahgpjaaDoor

/-
  TableReads, walked.
-/
namespace Go.Proofs.YteedmmljahgpjaaDoor
open Go.RowKit
set_option linter.unusedVariables false
set_option linter.unusedSimpArgs false
set_option maxRecDepth 100000 in
set_option maxHeartbeats 4000000 in
theorem readsL_any (t : TbM) (f0 t0 : Int) (w : World) (hl : TbL w t) (hz : TbZ t) (htb : Tab w) : Calls Tryd.prog 3 #[.agg t.vals, .int .i64 f0, .int .i64 t0] w fun e w' => e = .returned (.bool true) ∧ Below w.heap.size w w' := by
  have hb1 := below_new w (.cells t.vals 26)
  have hn1 := heap_new w (.cells t.vals 26)
  obtain ⟨W1, e1⟩ : ∃ W, w.alloc (.cells t.vals 26) = W := ⟨_, rfl⟩
  have E1 : Hid (w.alloc (.cells t.vals 26) = W1) := e1
  rw [e1] at hb1 hn1
  have HB1 : Hid (Below w.heap.size w W1) := hb1
  have HN1 : Hid (W1.heap[w.heap.size]? = some (.cells t.vals 26 (0, 0))) := hn1
  have HL : Hid (TbL W1 t) := hl.on hb1
  have HT : Hid (Tab W1) := htb.on hb1
  have HZ : Hid (TbZ t) := hz
  have cA := awake_any W1 HT.out
  clear hb1 hn1 hl hz htb e1
  go_enter Tryd.func3, Tryd.ntmps3
  go_upto_region 1 with fail
  rw [E1.out]
  clear E1
  go_wp2_with fail
  refine cA.mono ?_
  rintro e w2 ⟨rfl, hb2⟩
  have HB2 : Hid (Below W1.heap.size W1 w2) := hb2
  have HN2 : Hid (w2.heap[w.heap.size]? = some (.cells t.vals 26 (0, 0))) := (hb2.block _ (hp_lt HN1.out)).trans HN1.out
  have cF := far_any t w2 (HL.out.on hb2) HZ.out
  clear cA hb2
  go_wp2_with (refine wpList_load_row rfl 26 (.tmp 3) rfl w.heap.size rfl 26 t.vals (0, 0) _ HN2.out Tryd.underlying26 rfl size26' ?_)
  refine cF.mono ?_
  rintro e w3 ⟨b, rfl, _, hb3⟩
  have HB3 : Hid (Below W1.heap.size W1 w3) := below2 HB2.out hb3
  have HN3 : Hid (w3.heap[w.heap.size]? = some (.cells t.vals 26 (0, 0))) := (HB3.out.block _ (hp_lt HN1.out)).trans HN1.out
  clear cF hb3 HB2 HN2
  cases b with
  | true =>
    go_wp2_with fail
    go_ret
    exact ⟨rfl, below2 HB1.out HB3.out⟩
  | false =>
    obtain ⟨m1, em1⟩ : ∃ q, (readsN t.ds ⟨f0, t0⟩).1 = q := ⟨_, rfl⟩
    obtain ⟨m2, em2⟩ : ∃ q, (readsN t.ds ⟨f0, t0⟩).2 = q := ⟨_, rfl⟩
    have cB : ∀ v, TbL v t → Calls Tryd.prog 6 #[.agg t.vals, .agg #[.int .i64 f0, .int .i64 t0]] v fun e w' => e = .returned (.tuple #[.int .u16 m1, .int .u16 m2]) ∧ Below v.heap.size v w' := fun v hv => by
      have := reads_any t ⟨f0, t0⟩ v hv
      rw [em1, em2] at this
      exact this
    have cD : ∀ v, TbL v t → Calls Tryd.prog 7 #[.agg t.vals, .agg #[.int .i64 f0, .int .i64 t0]] v fun e w' => e = .returned (.tuple #[.int .u16 m1, .int .u16 m2]) ∧ Below v.heap.size v w' := fun v hv => by
      have := rreadsT_any t ⟨f0, t0⟩ v hv
      rw [em1, em2] at this
      exact this
    have HCB : Hid (∀ v, TbL v t → Calls Tryd.prog 6 #[.agg t.vals, .agg #[.int .i64 f0, .int .i64 t0]] v fun e w' => e = .returned (.tuple #[.int .u16 m1, .int .u16 m2]) ∧ Below v.heap.size v w') := cB
    have HCD : Hid (∀ v, TbL v t → Calls Tryd.prog 7 #[.agg t.vals, .agg #[.int .i64 f0, .int .i64 t0]] v fun e w' => e = .returned (.tuple #[.int .u16 m1, .int .u16 m2]) ∧ Below v.heap.size v w') := cD
    clear cB cD em1 em2
    go_wp2_with (refine wpList_load_row rfl 26 (.tmp 3) rfl w.heap.size rfl 26 t.vals (0, 0) _ HN3.out Tryd.underlying26 rfl size26' ?_)
    refine (HCB.out w3 (HL.out.on HB3.out)).mono ?_
    rintro e w4 ⟨rfl, hb4⟩
    have HB4 : Hid (Below W1.heap.size W1 w4) := below2 HB3.out hb4
    have HN4 : Hid (w4.heap[w.heap.size]? = some (.cells t.vals 26 (0, 0))) := (HB4.out.block _ (hp_lt HN1.out)).trans HN1.out
    clear hb4 HB3 HN3
    go_wp2_with (refine wpList_load_row rfl 26 (.tmp 3) rfl w.heap.size rfl 26 t.vals (0, 0) _ HN4.out Tryd.underlying26 rfl size26' ?_)
    refine (HCD.out w4 (HL.out.on HB4.out)).mono ?_
    rintro e w5 ⟨rfl, hb5⟩
    have HB5 : Hid (Below W1.heap.size W1 w5) := below2 HB4.out hb5
    clear hb5 HB4 HN4
    go_wp2_with fail
    go_ret
    exact ⟨by simp, below2 HB1.out HB5.out⟩
end Go.Proofs.YteedmmljahgpjaaDoor
