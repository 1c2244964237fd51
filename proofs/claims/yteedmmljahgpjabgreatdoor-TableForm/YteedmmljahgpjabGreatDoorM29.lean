import Derived.Test.YteedmmljahgpjabGreatDoorM28
/-
  The document's fit.
-/
namespace Go.Proofs.YteedmmljahgpjabGreatDoor
open Go.RowKit
set_option linter.unusedVariables false
set_option linter.unusedSimpArgs false
theorem OwnK.putAt {w V : World} {b t : Nat} {cs : Array Value} {bs : List (Nat × Nat × Array Value)} {e sz : Nat} {v : Value} {vs : List (Array Value)} (h : OwnK w V ((b, t, cs) :: bs) e sz v vs) (hN : ∀ p ∈ bs, p.1 ≠ b) (j : Nat) (u : Value) : OwnK w (V.setCell ⟨b, j, none⟩ u) ((b, t, cs.setIfInBounds j u) :: bs) e sz v vs := by
  obtain ⟨q1, q2, q3⟩ := h.K _ (List.mem_cons_self ..)
  refine ⟨owns_blk' h.R fun g hg => heap_setCell_other _ _ _ _ (fun e => q3 (by rw [hg, e])), h.Z, h.B.setCell q2 _, fun p hp => ?_⟩
  rcases List.mem_cons.1 hp with rfl | hp
  · exact ⟨heap_set u q1, q2, q3⟩
  · obtain ⟨r1, r2, r3⟩ := h.K p (List.mem_cons_of_mem _ hp)
    exact ⟨(heap_setCell_other _ _ _ _ (hN p hp)).trans r1, r2, r3⟩
def htV (f : Nat) (v : Value) : Array Value := #[.int .i64 f, v, .bool false]
theorem nvals_all (n : Int) : (nvals n).all (·.oneCell') = true := by simp [nvals, Value.oneCell']
theorem flat_rep (n : Nat) : ((List.replicate n (nvals (-1))).map Array.toList).flatten = List.replicate n (Value.int .i64 (-1)) := by
  induction n with
  | zero => rfl
  | succ n ih => rw [List.replicate_succ, List.map_cons, List.flatten_cons, ih, List.replicate_succ]; rfl
/-- The heights, all at their beginning. -/
theorem ht_start {w V : World} {C f n : Nat} {bs : List (Nat × Nat × Array Value)} {v : Value} (h : OwnK w V ((C, 118, htV f v) :: bs) 3 1 v (List.replicate n (nvals (-1)))) (hn : 0 < n) :
    ∃ L, Ht V C L f n (fun _ => 0) false ∧ w.heap.size ≤ L ∧ (∀ p ∈ bs, p.1 ≠ L) := by
  have hK := h.K _ (List.mem_cons_self ..)
  rcases h.R.2 with ⟨h1, h2⟩ | ⟨g, cap, cur, h1, h2, h3, h4, h5, h6, h7⟩
  · rw [List.length_replicate] at h2; omega
  · rw [List.length_replicate] at h1 h7
    rw [flat_rep, Nat.mul_one] at h7
    subst h1
    refine ⟨g, ⟨⟨cap, hK.1⟩, ⟨cur, h3, fun j hj => ?_⟩, fun e => hK.2.2 (by rw [e]; rfl)⟩, h2, fun p hp e => (h.K p (List.mem_cons_of_mem _ hp)).2.2 (by rw [e]; rfl)⟩
    have h8 : (cur.toList.take n)[j]? = some (Value.int .i64 (-1)) := by rw [h7, List.getElem?_replicate, if_pos hj]
    rw [List.getElem?_take, if_pos hj, Array.getElem?_toList] at h8
    rw [h8]; rfl
theorem upd_ok0 (f : Nat) : HOk (upd (fun _ => 0) f 1) := fun j => by unfold upd; split <;> simp
theorem come0 (f : Nat) : comeB (fun _ => 0) f 0 = true ∧ comeD (fun _ => 0) f 0 = upd (fun _ => 0) f 1 := by
  have : comeB (fun _ => 0) f 0 = true := by unfold comeB withinB; simp
  exact ⟨this, by unfold comeD; rw [if_pos this]; rfl⟩
set_option maxRecDepth 100000 in
set_option maxHeartbeats 4000000 in
theorem rfit_any (t : TbM) (f b : Nat) (w : World) (hl : TbL w t) (hfb : f < b) (hb : b ≤ t.ds.length) (hm : t.ds.length ≤ 4096) (hst : standsL t b (b - f) f = true) : Calls Tryz.prog 31 #[.agg t.vals, .agg (Sp.vals ⟨f, b⟩)] w fun e w' => e = .returned (.bool (fitsL t.ds (b - f) f (upd (fun _ => 0) f 1)).1) ∧ Below w.heap.size w w' := by
  have HST0 := standsL_all _ _ hst
  obtain ⟨T, eT⟩ : ∃ T : Int, (b : Int) = T := ⟨_, rfl⟩
  rw [eT]
  obtain ⟨W2, e2⟩ : ∃ W, (w.alloc (.cells t.vals 27)).alloc (.cells (Sp.vals ⟨f, T⟩) 46) = W := ⟨_, rfl⟩
  have E2 : Hid ((w.alloc (.cells t.vals 27)).alloc (.cells (Sp.vals ⟨f, T⟩) 46) = W2) := e2
  obtain ⟨hn1, hn2, hb2, hs2⟩ := two_box e2
  have HB2 : Hid (Below w.heap.size w W2) := hb2
  have HN1 : Hid (W2.heap[w.heap.size]? = some (.cells t.vals 27 (0, 0))) := hn1
  have HN2 : Hid (W2.heap[w.heap.size + 1]? = some (.cells (Sp.vals ⟨f, T⟩) 46 (0, 0))) := hn2
  clear e2
  obtain ⟨n, en⟩ : ∃ n, b - f = n := ⟨_, rfl⟩
  have HST : Hid (∀ k, k < n → standB t (t.ds.getD (f + k) ⟨0, 0⟩) ((f + k : Nat) : Int) b = true) := fun k hk => HST0 (f + k) (by omega) (by omega)
  rw [en]
  have hbn : b = f + n := by omega
  subst hbn
  have HTT : Hid (T = (f : Int) + (n : Int)) := by show _ = _; omega
  clear HST0
  have HL : Hid (TbL w t) := hl
  obtain ⟨ANS, eA⟩ : ∃ q, (fitsL t.ds n f (upd (fun _ => 0) f 1)).1 = q := ⟨_, rfl⟩
  have HA : Hid ((fitsL t.ds n f (upd (fun _ => 0) f 1)).1 = ANS) := eA
  rw [eA]
  have hC := heap_new W2 (.cells (htV f (.slice none 0 0)) 118)
  have hbC := below_new W2 (.cells (htV f (.slice none 0 0)) 118)
  have HO0 : Hid (OwnK w (W2.alloc (.cells (htV f (.slice none 0 0)) 118)) [(w.heap.size + 2, 118, htV f (.slice none 0 0)), (w.heap.size, 27, t.vals), (w.heap.size + 1, 46, Sp.vals ⟨f, T⟩)] 3 1 (.slice none 0 0) []) := by
    rw [hs2] at hC
    exact (((OwnK.nil (below2 hb2 hbC) 3 1).add _ _ _ ((hbC.block _ (hp_lt hn2)).trans hn2) (by omega) (by simp [Value.ownBlock])).add _ _ _ ((hbC.block _ (hp_lt hn1)).trans hn1) (Nat.le_refl _) (by simp [Value.ownBlock])).add _ _ _ hC (by omega) (by simp [Value.ownBlock])
  have HNE : Hid (∀ p ∈ ([(w.heap.size, 27, t.vals), (w.heap.size + 1, 46, Sp.vals ⟨f, T⟩)] : List (Nat × Nat × Array Value)), p.1 ≠ w.heap.size + 2) := fun p hp => by
    simp at hp
    rcases hp with rfl | rfl
    · show w.heap.size ≠ w.heap.size + 2; omega
    · show w.heap.size + 1 ≠ w.heap.size + 2; omega
  have x0 : W2.cell? ⟨w.heap.size + 1, 0, none⟩ = some (.int .i64 f) := cell_of hn2 0
  have HS2 : Hid (W2.heap.size = w.heap.size + 2) := hs2
  have hf9 : f ≤ 4096 := by omega
  have hn9 : n ≤ 4096 := by omega
  have hnp : 0 < n := by omega
  have HDS : Hid (f + n ≤ t.ds.length) := hb
  clear eT eA hC hbC hn1 hn2 hb2 hs2 hl hst en HN1 HN2 HB2 hfb hb hm
  go_enter Tryz.func31, Tryz.ntmps31
  go_upto_region 1 with fail
  rw [E2.out]
  clear E2
  go_upto_region 2 with fail
  rw [show (W2.alloc (.cells #[.int .i64 f, .slice none 0 0, .bool false] 118)) = W2.alloc (.cells (htV f (.slice none 0 0)) 118) from rfl, HS2.out]
  generalize W2.alloc (.cells (htV f (.slice none 0 0)) 118) = W3 at HO0 ⊢
  clear HS2 x0
  generalize hCC : w.heap.size + 2 = C at HO0 HNE ⊢
  generalize hXX : w.heap.size + 1 = XB at HO0 HNE ⊢
  have HCX : Hid (C = w.heap.size + 2 ∧ XB = w.heap.size + 1) := ⟨hCC.symm, hXX.symm⟩
  clear hCC hXX
  have x0 : W3.cell? ⟨XB, 0, none⟩ = some (.int .i64 f) := cell_of (HO0.out.K (XB, 46, Sp.vals ⟨f, T⟩) (by simp)).1 0
  go_wp2_with fail
  clear x0
  go_loopw [6] (fun q wr => ∃ (i : Nat) (v : Value), i ≤ n + 1 ∧ q = .int .i64 ((f : Int) + (i : Int)) ∧ Hid (OwnK w wr [(C, 118, htV f v), (w.heap.size, 27, t.vals), (XB, 46, Sp.vals ⟨f, T⟩)] 3 1 v (List.replicate i (nvals (-1))))) (fun q _ => ((f : Int) + (n : Int) + 1 - intOf q).toNat)
  case atStart => exact ⟨0, _, by omega, by simp, HO0⟩
  case round =>
    obtain ⟨i, v, hi, rfl, HO⟩ := hrel
    have x1 : wr.cell? ⟨XB, 1, none⟩ = some (.int .i64 T) := cell_of (HO.out.K (XB, 46, Sp.vals ⟨f, T⟩) (by simp)).1 1
    have hTT := HTT.out
    by_cases hlt : i < n + 1
    · have hlt' : (f : Int) + (i : Int) ≤ T := by omega
      have hmx : (f : Int) + (i : Int) + 1 ≤ 9223372036854775807 := by omega
      clear hTT
      have cb : wr.cell? ⟨C, 1, none⟩ = some v := cell_of HO.out.box 1
      have HLL : Hid ((List.replicate i (nvals (-1))).length ≤ 1000000) := by show _ ≤ _; rw [List.length_replicate]; omega
      go_wp2_with (first | (refine wpList_slice1v rfl 116 3 (.const (.int .i64 (-1))) rfl (nvals (-1)) (.int .i64 (-1)) rfl rfl 1 _ Tryz.underlying116 8 inf3 rfl rfl (by decide) (by decide) ?_) | (refine app_one HO.out 116 (nvals (-1)) rfl (nvals_all _) _ 8 Tryz.underlying116 inf3 rfl (by decide) HLL.out (by decide) rfl (.tmp 24) (.tmp 25) rfl rfl rfl ?_; intro g cap w8 HO8; have xb : w8.cell? ⟨C, 1, none⟩ = some v := cell_of HO8.box 1; have fb : w8.frozen? ⟨C, 1, none⟩ = false := frozen_of HO8.box 1))
      rw [show (List.replicate i (nvals (-1))).length = i from List.length_replicate] at HO8
      refine ⟨⟨i + 1, .slice (some ⟨g, 0, none⟩) (i + 1) cap, hlt, by congr 1, ?_⟩, by simp only [intOf]; omega⟩
      have hq := HO8.putAt HNE.out 1 (.slice (some ⟨g, 0, none⟩) (i + 1) cap)
      rw [List.replicate_succ']
      exact hq
    · obtain rfl : i = n + 1 := by omega
      obtain ⟨U, rfl⟩ : ∃ U, U = wr := ⟨wr, rfl⟩
      have hlt' : ¬ ((f : Int) + ((n : Int) + 1) ≤ T) := by omega
      clear hTT
      obtain ⟨L, hH, hL1, hL2⟩ := ht_start HO.out (by omega)
      have hT := (HO.out.K (w.heap.size, 27, t.vals) (by simp)).1
      have hX := (HO.out.K (XB, 46, Sp.vals ⟨f, T⟩) (by simp)).1
      have HB3 : Hid (Below w.heap.size w U) := HO.out.B
      have HLT : Hid (w.heap.size ≤ L ∧ L ≠ w.heap.size ∧ L ≠ XB) := ⟨hL1, fun e => hL2 (w.heap.size, 27, t.vals) (by simp) e.symm, fun e => hL2 (XB, 46, Sp.vals ⟨f, T⟩) (by simp) e.symm⟩
      have HTB : Hid (U.heap[w.heap.size]? = some (.cells t.vals 27 (0, 0))) := hT
      have HXB : Hid (U.heap[XB]? = some (.cells (Sp.vals ⟨f, T⟩) 46 (0, 0))) := hX
      have xx0 : U.cell? ⟨XB, 0, none⟩ = some (.int .i64 f) := cell_of hX 0
      have cC : Calls Tryz.prog 60 #[.pointer (some ⟨C, 0, none⟩), .int .i64 (f : Int), .int .i64 0] U fun e w' => e = .returned (.tuple #[]) ∧ Ht w' C L f (n + 1) (upd (fun _ => 0) f 1) false ∧ Mv U w' (fun k => k = C ∨ k = L) := by
        have h := rcome_any U C L f (n + 1) (fun _ => 0) false hH (fun _ => ⟨by show (0 : Int) ≤ 0; omega, by show (0 : Int) ≤ 65; omega⟩) 0 (by omega) hf9 (by omega) 0
        rw [show (f : Int) + ((0 : Nat) : Int) = (f : Int) by simp] at h
        refine h.mono ?_
        rintro e w' ⟨a, b, c⟩
        refine ⟨a, ?_, c⟩
        rw [show (f + 0) = f from rfl, (come0 f).1, (come0 f).2] at b
        exact b
      clear HO hH hL1 hL2 hT hX HO0
      go_wp2_with fail
      refine cC.mono ?_
      rintro e w5 ⟨rfl, hK5, hM5⟩
      have HK5 : Hid (Ht w5 C L f (n + 1) (upd (fun _ => 0) f 1) false) := hK5
      have HM5 : Hid (Mv U w5 (fun k => k = C ∨ k = L)) := hM5
      have HFX : Hid (∀ v : World, Mv U v (fun k => k = C ∨ k = L) → v.heap[XB]? = some (.cells (Sp.vals ⟨f, T⟩) 46 (0, 0)) ∧ v.heap[w.heap.size]? = some (.cells t.vals 27 (0, 0)) ∧ Below w.heap.size w v ∧ TbL v t) := fun v hv => by
        have h1 := HLT.out
        have h2 := HCX.out
        have hB : Below w.heap.size w v := HB3.out.trans (hv.below HB3.out.size (fun b hb => by rcases hb with rfl | rfl <;> omega))
        refine ⟨(hv.block _ (hp_lt HXB.out) (fun e => by rcases e with e | e <;> omega)).trans HXB.out, (hv.block _ (hp_lt HTB.out) (fun e => by rcases e with e | e <;> omega)).trans HTB.out, hB, HL.out.on hB⟩
      have x0 : w5.cell? ⟨XB, 0, none⟩ = some (.int .i64 f) := cell_of (HFX.out w5 hM5).1 0
      clear cC hK5 hM5 xx0 x1 hlt'
      go_wp2_with fail
      clear x0
      go_loopw [7] (fun q wv => ∃ (k : Nat) (h : Nat → Int) (bad : Bool), k ≤ n ∧ q = .int .i64 ((f : Int) + (k : Int)) ∧ Hid (Ht wv C L f (n + 1) h bad) ∧ Hid (HOk h) ∧ Hid (bad = false → (fitsL t.ds (n - k) (f + k) h).1 = ANS) ∧ Hid (bad = true → ANS = false) ∧ Hid (Mv U wv (fun k => k = C ∨ k = L))) (fun q _ => ((f : Int) + (n : Int) - intOf q).toNat)
      case atStart => exact ⟨0, _, false, by omega, by simp, HK5, upd_ok0 f, fun _ => HA.out, fun e => (by cases e), HM5⟩
      case round =>
        obtain ⟨k, h, bad, hk, rfl, HK, HOKK, HF1, HF2, HM⟩ := hrel
        obtain ⟨hx, ht0, hB, hTL⟩ := HFX.out wr HM.out
        have HBW : Hid (Below w.heap.size w wr) := hB
        have x0 : wr.cell? ⟨XB, 0, none⟩ = some (.int .i64 f) := cell_of hx 0
        have x1 : wr.cell? ⟨XB, 1, none⟩ = some (.int .i64 T) := cell_of hx 1
        have hTT := HTT.out
        obtain ⟨cap, k1⟩ := HK.out.c
        obtain ⟨cs, k2, k3⟩ := HK.out.l
        have c1 : wr.cell? ⟨C, 1, none⟩ = some (.slice (some ⟨L, 0, none⟩) ((n + 1 : Nat)) cap) := cell_of k1 1
        have c2 : wr.cell? ⟨C, 2, none⟩ = some (.bool bad) := cell_of k1 2
        have ln : wr.cell? ⟨L, n, none⟩ = some (.int .i64 (h (f + n) - 1)) := (cell_of k2 n).trans (k3 n (by omega))
        have lk : wr.cell? ⟨L, k, none⟩ = some (.int .i64 (h (f + k) - 1)) := (cell_of k2 k).trans (k3 k (by omega))
        have hs1 : T - (f : Int) = (n : Int) := by omega
        have hs2 : (f : Int) + (k : Int) - (f : Int) = (k : Int) := by omega
        have hnn : (n : Int) < ((n + 1 : Nat) : Int) := by omega
        have hnn2 : (n : Int) < (n : Int) + 1 := by omega
        have hkn : (k : Int) < ((n + 1 : Nat) : Int) := by omega
        have hkn2 : (k : Int) < (n : Int) + 1 := by omega
        clear hx hB k1 k2 k3
        cases bad with
        | true =>
          have HN : Hid (ANS = false) := HF2.out rfl
          clear HF1 HF2 lk ln
          by_cases hlt : k < n
          · have hlt' : (f : Int) + (k : Int) < T := by omega
            clear hTT
            go_wp2_with fail
            go_quiet (fail)
            go_wp2_with fail
            go_ret
            exact ⟨by rw [HN.out]; rfl, below_d HBW.out _⟩
          · obtain rfl : k = n := by omega
            have hlt' : ¬ ((f : Int) + (k : Int) < T) := by omega
            clear hTT
            go_wp2_with fail
            go_quiet (fail)
            go_wp2_with fail
            go_ret
            exact ⟨by rw [HN.out]; rfl, below_d HBW.out _⟩
        | false =>
          by_cases hlt : k < n
          · have hlt' : (f : Int) + (k : Int) < T := by omega
            clear hTT
            have hmx : (f : Int) + (k : Int) + 1 ≤ 9223372036854775807 := by omega
            have hF := HF1.out rfl
            rw [show n - k = (n - (k + 1)) + 1 by omega] at hF
            simp only [fitsL] at hF
            have hge := HOKK.out (f + k)
            obtain ⟨Y, eY⟩ : ∃ Y, h (f + k) - 1 = Y := ⟨_, rfl⟩
            rw [eY] at lk hF
            have hY : h (f + k) = Y + 1 := by omega
            clear ln HF1 HF2
            cases hY0 : decide (Y < 0) with
            | true =>
              have HN : Hid (ANS = false) := by
                show _ = _
                have := of_decide_eq_true hY0
                rw [← hF, if_pos (by rw [hY]; simp; omega)]
              clear hF hY hge eY
              go_wp2_with fail
              go_quiet (fail)
              go_wp2_with fail
              go_ret
              exact ⟨by rw [HN.out]; rfl, below_d HBW.out _⟩
            | false =>
              have hYp : 0 ≤ Y := by have := of_decide_eq_false hY0; omega
              rw [if_neg (by rw [hY]; simp; omega)] at hF
              have HDD := HDS.out
              obtain ⟨bb, o, ea, r1⟩ := els_at InM.sz hTL.D (f + k) (by omega)
              have hgd : t.ds.getD (f + k) ⟨0, 0⟩ = t.ds[f + k]'(by omega) := by rw [List.getD_eq_getElem?_getD, List.getElem?_eq_getElem (by omega)]; rfl
              have hsb := HST.out k hlt
              rw [hgd] at hF hsb
              obtain ⟨d, ed⟩ : ∃ d, t.ds[f + k]'(by omega) = d := ⟨_, rfl⟩
              rw [ed] at r1 hF hsb
              have c4 : wr.cell? ⟨w.heap.size, 4, none⟩ = some (.slice (some ⟨bb, o, none⟩) t.ds.length t.dc) := by rw [← ea]; exact cell_of ht0 4
              have hfl : (f : Int) + (k : Int) < (t.ds.length : Int) := by omega
              have hjj : (d.k == 6 || d.k == 7 || d.k == 8 || d.k == 9) = true → (f : Int) ≤ d.a ∧ d.a < (f : Int) + ((n + 1 : Nat) : Int) := fun e => by
                have hwb : withinB (((f + k : Nat) : Int) + 1) d.a ((f + n : Nat) : Int) = true := by
                  unfold standB at hsb
                  by_cases e6 : d.k = 6
                  · simpa [e6] using hsb
                  by_cases e7 : d.k = 7
                  · simpa [e7] using hsb
                  by_cases e8 : d.k = 8
                  · simpa [e8] using hsb
                  by_cases e9 : d.k = 9
                  · simpa [e9] using hsb
                  · simp [e6, e7, e8, e9] at e
                unfold withinB at hwb
                simp at hwb
                omega
              have HRG : Hid (∀ q, (wr.drewN q).rangeAt bb (o + (f + k) * 2) d.vals.toList) := fun q => rng_on r1 ⟨rfl, rfl, rfl, Nat.le_refl _, fun _ _ => rfl⟩
              have cS := fun q => rstep_any (wr.drewN q) C L f (n + 1) h (HK.out.mv ⟨rfl, rfl, rfl, Nat.le_refl _, fun _ _ => rfl⟩) HOKK.out k (by omega) hf9 (by omega) d Y hY hYp hjj
              have HCS := hid_of cS
              have HFF := hid_of hF
              have HMD : Hid (∀ q, Mv U (wr.drewN q) (fun k => k = C ∨ k = L)) := fun q => ⟨HM.out.os, HM.out.tape, HM.out.output, HM.out.size, HM.out.block⟩
              clear hF hY hge eY hYp HDD r1 hgd hsb ed hjj cS hTL ht0 ea
              go_wp2_with fail
              go_quiet (fail)
              clear hY0 lk hs2 hkn hkn2 x0
              go_wp2_with (refine wpList_load_mid rfl 42 (.tmp 63) rfl bb (o + (f + k) * 2) rfl d.vals.toList _ (HRG.out _) Tryz.underlying42 rfl (by show _ = some 2; exact size61') ?_; rw [Array.toArray_toList])
              refine (HCS.out _).mono ?_
              rintro e w6 ⟨h', b', rfl, q1, q2, q3, q4, q5⟩
              have HQ1 : Hid (Ht w6 C L f (n + 1) h' b') := q1
              have HQ4 : Hid (HOk h') := q4
              have HM6 : Hid (Mv U w6 (fun k => k = C ∨ k = L)) := (HMD.out _).trans q5 (fun _ e => .inl e)
              have HG1 : Hid (b' = false → (fitsL t.ds (n - (k + 1)) (f + (k + 1)) h').1 = ANS) := fun e => by
                have h1 : (goF h d (f + k) Y).1 = true := by rw [e] at q2; simpa using q2.symm
                have h2 := HFF.out
                rw [if_pos h1, ← q3 e] at h2
                exact h2
              have HG2 : Hid (b' = true → ANS = false) := fun e => by
                have h1 : (goF h d (f + k) Y).1 = false := by rw [e] at q2; simpa using q2.symm
                have h2 := HFF.out
                rw [h1] at h2
                exact h2.symm
              clear q1 q2 q3 q4 q5 HFF HCS
              go_wp2_with fail
              exact ⟨⟨k + 1, h', b', hlt, by congr 1, HQ1, HQ4, HG1, HG2, HM6⟩, by simp only [intOf]; omega⟩
          · obtain rfl : k = n := by omega
            have hlt' : ¬ ((f : Int) + (k : Int) < T) := by omega
            clear hTT
            have hF := HF1.out rfl
            rw [Nat.sub_self] at hF
            simp only [fitsL] at hF
            obtain ⟨Y, eY⟩ : ∃ Y, h (f + k) - 1 = Y := ⟨_, rfl⟩
            have HN : Hid (ANS = (Y == 1)) := by
              show _ = _
              rw [← hF, ← eY]
              rw [Bool.eq_iff_iff, beq_iff_eq, beq_iff_eq]; omega
            rw [eY] at lk
            clear ln HF1 HF2 hF eY
            go_wp2_with fail
            go_quiet (fail)
            go_wp2_with fail
            go_ret
            exact ⟨by rw [HN.out]; rfl, below_d HBW.out _⟩
end Go.Proofs.YteedmmljahgpjabGreatDoor

/-
  The document's span.
-/
namespace Go.Proofs.YteedmmljahgpjabGreatDoor
open Go.RowKit
set_option linter.unusedVariables false
set_option linter.unusedSimpArgs false
set_option maxRecDepth 100000 in
set_option maxHeartbeats 4000000 in
theorem rspan_any' (t : TbM) (f b : Nat) (w : World) (hl : TbL w t) (hfb : f < b) (hb : b ≤ t.ds.length) (hm : t.ds.length ≤ 4096) : Calls Tryz.prog 17 #[.agg t.vals, .agg (Sp.vals ⟨f, b⟩)] w fun e w' => e = .returned (.int .i64 (spanE t (fun _ => 0) f b).1) ∧ Below w.heap.size w w' := by
  obtain ⟨T, eT⟩ : ∃ T : Int, (b : Int) = T := ⟨_, rfl⟩
  have cF : ∀ v : World, TbL v t → standsL t b (b - f) f = true → Calls Tryz.prog 31 #[.agg t.vals, .agg (Sp.vals ⟨f, T⟩)] v fun e w' => e = .returned (.bool (fitsL t.ds (b - f) f (upd (fun _ => 0) f 1)).1) ∧ Below v.heap.size v w' := fun v hv hs => by
    rw [← eT]; exact rfit_any t f b v hv hfb hb hm hs
  have cS : ∀ (v : World) (a : Nat), TbL v t → a < t.ds.length → Calls Tryz.prog 30 #[.agg t.vals, .int .i64 a, .int .i64 T] v fun e w' => e = .returned (.bool (standB t (t.ds.getD a ⟨0, 0⟩) a b)) ∧ Below v.heap.size v w' := fun v a hv ha => by
    rw [← eT]; exact rstands_any t a b v hv ha hm
  rw [eT]
  obtain ⟨W2, e2⟩ : ∃ W, (w.alloc (.cells t.vals 27)).alloc (.cells (Sp.vals ⟨f, T⟩) 46) = W := ⟨_, rfl⟩
  have E2 : Hid ((w.alloc (.cells t.vals 27)).alloc (.cells (Sp.vals ⟨f, T⟩) 46) = W2) := e2
  obtain ⟨hn1, hn2, hb2, hs2⟩ := two_box e2
  have HB2 : Hid (Below w.heap.size w W2) := hb2
  have HN1 : Hid (W2.heap[w.heap.size]? = some (.cells t.vals 27 (0, 0))) := hn1
  have HN2 : Hid (W2.heap[w.heap.size + 1]? = some (.cells (Sp.vals ⟨f, T⟩) 46 (0, 0))) := hn2
  clear e2
  obtain ⟨n, en⟩ : ∃ n, b - f = n := ⟨_, rfl⟩
  have hbn : b = f + n := by omega
  obtain ⟨ANS, eA⟩ : ∃ q, (spanE t (fun _ => 0) f b).1 = q := ⟨_, rfl⟩
  have HA : Hid ((if standsL t b n f then (if (fitsL t.ds n f (upd (fun _ => 0) f 1)).1 then 0 else 192) else 191) = ANS) := by
    show _ = _
    rw [← eA, ← en]
    unfold spanE
    split
    · split <;> rfl
    · rfl
  rw [eA]
  rw [en] at cF
  have HCF := hid_of cF
  have HCS := hid_of cS
  have HTT : Hid (T = (f : Int) + (n : Int)) := by show _ = _; omega
  have HDS : Hid (b = f + n ∧ f + n ≤ t.ds.length ∧ t.ds.length ≤ 4096) := ⟨hbn, by omega, hm⟩
  have HL : Hid (TbL W2 t) := hl.on hb2
  have x0 : W2.cell? ⟨w.heap.size + 1, 0, none⟩ = some (.int .i64 f) := cell_of hn2 0
  have hf9 : f ≤ 4096 := by omega
  have hn9 : n ≤ 4096 := by omega
  clear eA hn1 hn2 hb2 hs2 hl en cF cS hfb hb hm eT hbn
  go_enter Tryz.func17, Tryz.ntmps17
  go_upto_region 1 with fail
  rw [E2.out]
  clear E2
  obtain ⟨XB, eXB⟩ : ∃ x, w.heap.size + 1 = x := ⟨_, rfl⟩
  rw [eXB] at HN2 x0 ⊢
  clear eXB
  go_wp2_with fail
  clear x0
  go_loopw [5] (fun q wr => ∃ (k : Nat), k ≤ n ∧ q = .int .i64 ((f : Int) + (k : Int)) ∧ Hid (Below W2.heap.size W2 wr) ∧ Hid (standsL t b n f = standsL t b (n - k) (f + k))) (fun q _ => ((f : Int) + (n : Int) - intOf q).toNat)
  case atStart => exact ⟨0, by omega, by simp, Below.refl _ _, rfl⟩
  case round =>
    obtain ⟨k, hk, rfl, HBR, HSR⟩ := hrel
    have x1 : wr.cell? ⟨XB, 1, none⟩ = some (.int .i64 T) := cell_on (cell_of HN2.out 1) HBR.out
    have HTB : Hid (wr.heap[w.heap.size]? = some (.cells t.vals 27 (0, 0))) := (HBR.out.block _ (hp_lt HN1.out)).trans HN1.out
    have HXX : Hid (wr.heap[XB]? = some (.cells (Sp.vals ⟨f, T⟩) 46 (0, 0))) := (HBR.out.block _ (hp_lt HN2.out)).trans HN2.out
    have hTT := HTT.out
    by_cases hlt : k < n
    · have hlt' : (f : Int) + (k : Int) < T := by omega
      have hmx : (f : Int) + (k : Int) + 1 ≤ 9223372036854775807 := by omega
      clear hTT
      have cS := HCS.out wr (f + k) (HL.out.on HBR.out) (by have := HDS.out; omega)
      rw [show ((f + k : Nat) : Int) = (f : Int) + (k : Int) by omega] at cS
      have hF := HSR.out
      rw [show n - k = (n - (k + 1)) + 1 by omega] at hF
      simp only [standsL] at hF
      rw [show ((f + k : Nat) : Int) = (f : Int) + (k : Int) by omega] at hF
      obtain ⟨sb, esb⟩ : ∃ s, standB t (t.ds.getD (f + k) ⟨0, 0⟩) ((f : Int) + (k : Int)) b = s := ⟨_, rfl⟩
      rw [esb] at hF cS
      have HF := hid_of hF
      clear hF esb
      go_wp2_with (refine wpList_load_row rfl 27 (.tmp 2) rfl w.heap.size rfl 27 t.vals (0, 0) _ HTB.out Tryz.underlying27 rfl size26' ?_)
      refine cS.mono ?_
      rintro e w5 ⟨rfl, hb5⟩
      have HB5 : Hid (Below W2.heap.size W2 w5) := below2 HBR.out hb5
      clear cS hb5
      cases sb with
      | false =>
        have HN : Hid (ANS = 191) := by show _ = _; rw [← HA.out, HF.out]; rfl
        go_wp2_with fail
        go_ret
        exact ⟨by rw [HN.out]; rfl, below2 HB2.out HB5.out⟩
      | true =>
        have HN : Hid (standsL t b n f = standsL t b (n - (k + 1)) (f + (k + 1))) := by show _ = _; rw [HF.out]; rfl
        go_wp2_with fail
        exact ⟨⟨k + 1, hlt, by congr 1, HB5, HN⟩, by simp only [intOf]; omega⟩
    · obtain rfl : k = n := by omega
      have hlt' : ¬ ((f : Int) + (k : Int) < T) := by omega
      clear hTT
      have hst : standsL t b k f = true := by rw [HSR.out, Nat.sub_self]; rfl
      have cF := HCF.out wr (HL.out.on HBR.out) hst
      have HAA : Hid ((if (fitsL t.ds k f (upd (fun _ => 0) f 1)).1 then 0 else 192) = ANS) := by show _ = _; rw [← HA.out, hst]; rfl
      obtain ⟨fb, efb⟩ : ∃ s, (fitsL t.ds k f (upd (fun _ => 0) f 1)).1 = s := ⟨_, rfl⟩
      rw [efb] at cF HAA
      clear efb hst
      go_wp2_with (first | (refine wpList_load_row rfl 27 (.tmp 2) rfl w.heap.size rfl 27 t.vals (0, 0) _ HTB.out Tryz.underlying27 rfl size26' ?_) | (refine wpList_load_row rfl 46 (.tmp 3) rfl XB rfl 46 (Sp.vals ⟨f, T⟩) (0, 0) _ HXX.out Tryz.underlying46 rfl size65' ?_))
      refine cF.mono ?_
      rintro e w5 ⟨rfl, hb5⟩
      have HB5 : Hid (Below W2.heap.size W2 w5) := below2 HBR.out hb5
      clear cF hb5
      cases fb with
      | false =>
        have HN : Hid (ANS = 192) := HAA.out.symm
        go_wp2_with fail
        go_ret
        exact ⟨by rw [HN.out]; rfl, below2 HB2.out HB5.out⟩
      | true =>
        have HN : Hid (ANS = 0) := HAA.out.symm
        go_wp2_with fail
        go_ret
        exact ⟨by rw [HN.out]; rfl, below2 HB2.out HB5.out⟩
end Go.Proofs.YteedmmljahgpjabGreatDoor

/-
  The document's Reads, of instructions.
-/
namespace Go.Proofs.YteedmmljahgpjabGreatDoor
open Go.RowKit
set_option linter.unusedVariables false
set_option linter.unusedSimpArgs false
set_option maxRecDepth 100000 in
set_option maxHeartbeats 4000000 in
theorem rreads_any (t : TbM) (F : Nat) (T : Int) (w : World) (hl : TbL w t) (hT : T ≤ t.ds.length) : Calls Tryz.prog 18 #[.slice t.da t.ds.length t.dc, .agg (Sp.vals ⟨F, T⟩)] w fun e w' => e = .returned (.tuple #[.int .u16 (rdL t.ds (T.toNat - F) F (0, 0)).1, .int .u16 (rdL t.ds (T.toNat - F) F (0, 0)).2]) ∧ Below w.heap.size w w' := by
  have hb1 := below_new w (.cells (Sp.vals ⟨F, T⟩) 46)
  have hn1 := heap_new w (.cells (Sp.vals ⟨F, T⟩) 46)
  obtain ⟨W1, e1⟩ : ∃ W, w.alloc (.cells (Sp.vals ⟨F, T⟩) 46) = W := ⟨_, rfl⟩
  have E1 : Hid (w.alloc (.cells (Sp.vals ⟨F, T⟩) 46) = W1) := e1
  rw [e1] at hb1 hn1
  have HB1 : Hid (Below w.heap.size w W1) := hb1
  have HL : Hid (TbL W1 t) := hl.on hb1
  have x0 : W1.cell? ⟨w.heap.size, 0, none⟩ = some (.int .i64 F) := cell_of hn1 0
  have x1 : W1.cell? ⟨w.heap.size, 1, none⟩ = some (.int .i64 T) := cell_of hn1 1
  obtain ⟨R, eR⟩ : ∃ q, rdL t.ds (T.toNat - F) F (0, 0) = q := ⟨_, rfl⟩
  have HR : Hid (R = rdL t.ds (T.toNat - F) F (0, 0)) := eR.symm
  rw [eR]
  have hdl : t.ds.length ≤ 9223372036854775807 := by have h1 := hl.D.1; have h2 := hl.D.2.1; rw [List.length_map] at h1; omega
  have HTL : Hid (T ≤ t.ds.length) := hT
  clear hb1 hn1 e1 eR hl hT
  go_enter Tryz.func18, Tryz.ntmps18
  go_upto_region 1 with fail
  rw [E1.out]
  clear E1
  go_wp2_with fail
  clear x0
  go_loopw [6, 7, 8] (fun p q s wr => ∃ (a : Nat) (fm rm : Int), p = .int .u16 fm ∧ q = .int .u16 rm ∧ s = .int .i64 a ∧ wr = W1 ∧ Hid (R = rdL t.ds (T.toNat - a) a (fm, rm))) (fun _ _ s _ => (T - intOf s).toNat)
  case atStart => exact ⟨F, 0, 0, rfl, rfl, rfl, rfl, HR⟩
  case round =>
    obtain ⟨a, fm, rm, rfl, rfl, rfl, rfl, HRR⟩ := hrel
    by_cases hlt : (a : Int) < T
    · have hTT := HTL.out
      have hal : a < t.ds.length := by omega
      have hal' : (a : Int) < (t.ds.length : Int) := by omega
      have hai : (a : Int) + 1 ≤ 9223372036854775807 := by omega
      obtain ⟨bb, o, ea, r1⟩ := els_at InM.sz HL.out.D a hal
      have hR := HRR.out
      rw [show T.toNat - a = (T.toNat - (a + 1)) + 1 by omega] at hR
      simp only [rdL] at hR
      have hgd : t.ds.getD a ⟨0, 0⟩ = t.ds[a] := by rw [List.getD_eq_getElem?_getD, List.getElem?_eq_getElem hal]; rfl
      rw [hgd] at hR
      obtain ⟨d, ed⟩ : ∃ d, t.ds[a] = d := ⟨_, rfl⟩
      rw [ed] at hR r1
      have k0 : wr.cell? ⟨bb, o + a * 2, none⟩ = some (.int .u8 d.k) := by have := r1 0 _ rfl; rw [Nat.add_zero] at this; exact this
      have k1 : wr.cell? ⟨bb, o + a * 2 + 1, none⟩ = some (.int .i64 d.a) := r1 1 _ rfl
      have HD := hid_of hR
      clear hR ed hgd r1 hTT HRR
      rw [ea]
      cases h2 : (d.k == 2) with
      | true =>
        cases h0 : decide (d.a ≥ 0) with
        | false =>
          have g0 : decide (d.a < 0) = true := decide_eq_true (by have := of_decide_eq_false h0; omega)
          have HX : Hid (R = rdL t.ds (T.toNat - (a + 1)) (a + 1) (fm, rm)) := by show _ = _; rw [HD.out]; unfold rd1; simp only [g0, reduceIte, Bool.false_eq_true, if_false, if_true]
          go_wp2_with fail
          exact ⟨⟨a + 1, fm, rm, by first | (unfold orM; rfl) | rfl | trivial, by first | (unfold orM; rfl) | rfl | trivial, by congr 1, by first | rfl | trivial, HX⟩, by simp only [intOf]; omega⟩
        | true =>
          have g0 : decide (d.a < 0) = false := decide_eq_false (by have := of_decide_eq_true h0; omega)
          cases h16 : decide (d.a < 16) with
          | false =>
            have g1 : decide (d.a ≥ 16) = true := decide_eq_true (by have := of_decide_eq_false h16; omega)
            have HX : Hid (R = rdL t.ds (T.toNat - (a + 1)) (a + 1) (fm, rm)) := by show _ = _; rw [HD.out]; unfold rd1; simp only [g0, g1, reduceIte, Bool.false_eq_true, if_false, if_true]
            go_wp2_with fail
            exact ⟨⟨a + 1, fm, rm, by first | (unfold orM; rfl) | rfl | trivial, by first | (unfold orM; rfl) | rfl | trivial, by congr 1, by first | rfl | trivial, HX⟩, by simp only [intOf]; omega⟩
          | true =>
            have g1 : decide (d.a ≥ 16) = false := decide_eq_false (by have := of_decide_eq_true h16; omega)
            have ha0 : 0 ≤ d.a := of_decide_eq_true h0
            have ha16 : d.a < 16 := of_decide_eq_true h16
            have HX : Hid (R = rdL t.ds (T.toNat - (a + 1)) (a + 1) ((orM fm d.a), rm)) := by show _ = _; rw [HD.out]; unfold rd1; simp only [g0, g1, h2, reduceIte, Bool.false_eq_true, if_false, if_true]
            go_wp2_with fail
            exact ⟨⟨a + 1, (orM fm d.a), rm, by first | (unfold orM; rfl) | rfl | trivial, by first | (unfold orM; rfl) | rfl | trivial, by congr 1, by first | rfl | trivial, HX⟩, by simp only [intOf]; omega⟩
      | false =>
        cases h3 : (d.k == 3) with
        | true =>
          cases h0 : decide (d.a ≥ 0) with
          | false =>
            have g0 : decide (d.a < 0) = true := decide_eq_true (by have := of_decide_eq_false h0; omega)
            have HX : Hid (R = rdL t.ds (T.toNat - (a + 1)) (a + 1) (fm, rm)) := by show _ = _; rw [HD.out]; unfold rd1; simp only [g0, reduceIte, Bool.false_eq_true, if_false, if_true]
            go_wp2_with fail
            exact ⟨⟨a + 1, fm, rm, by first | (unfold orM; rfl) | rfl | trivial, by first | (unfold orM; rfl) | rfl | trivial, by congr 1, by first | rfl | trivial, HX⟩, by simp only [intOf]; omega⟩
          | true =>
            have g0 : decide (d.a < 0) = false := decide_eq_false (by have := of_decide_eq_true h0; omega)
            cases h16 : decide (d.a < 16) with
            | false =>
              have g1 : decide (d.a ≥ 16) = true := decide_eq_true (by have := of_decide_eq_false h16; omega)
              have HX : Hid (R = rdL t.ds (T.toNat - (a + 1)) (a + 1) (fm, rm)) := by show _ = _; rw [HD.out]; unfold rd1; simp only [g0, g1, reduceIte, Bool.false_eq_true, if_false, if_true]
              go_wp2_with fail
              exact ⟨⟨a + 1, fm, rm, by first | (unfold orM; rfl) | rfl | trivial, by first | (unfold orM; rfl) | rfl | trivial, by congr 1, by first | rfl | trivial, HX⟩, by simp only [intOf]; omega⟩
            | true =>
              have g1 : decide (d.a ≥ 16) = false := decide_eq_false (by have := of_decide_eq_true h16; omega)
              have ha0 : 0 ≤ d.a := of_decide_eq_true h0
              have ha16 : d.a < 16 := of_decide_eq_true h16
              have HX : Hid (R = rdL t.ds (T.toNat - (a + 1)) (a + 1) ((orM fm d.a), rm)) := by show _ = _; rw [HD.out]; unfold rd1; simp only [g0, g1, h2, h3, reduceIte, Bool.false_eq_true, if_false, if_true]
              go_wp2_with fail
              exact ⟨⟨a + 1, (orM fm d.a), rm, by first | (unfold orM; rfl) | rfl | trivial, by first | (unfold orM; rfl) | rfl | trivial, by congr 1, by first | rfl | trivial, HX⟩, by simp only [intOf]; omega⟩
        | false =>
          cases h4 : (d.k == 4) with
          | true =>
            cases h0 : decide (d.a ≥ 0) with
            | false =>
              have g0 : decide (d.a < 0) = true := decide_eq_true (by have := of_decide_eq_false h0; omega)
              have HX : Hid (R = rdL t.ds (T.toNat - (a + 1)) (a + 1) (fm, rm)) := by show _ = _; rw [HD.out]; unfold rd1; simp only [g0, reduceIte, Bool.false_eq_true, if_false, if_true]
              go_wp2_with fail
              exact ⟨⟨a + 1, fm, rm, by first | (unfold orM; rfl) | rfl | trivial, by first | (unfold orM; rfl) | rfl | trivial, by congr 1, by first | rfl | trivial, HX⟩, by simp only [intOf]; omega⟩
            | true =>
              have g0 : decide (d.a < 0) = false := decide_eq_false (by have := of_decide_eq_true h0; omega)
              cases h16 : decide (d.a < 16) with
              | false =>
                have g1 : decide (d.a ≥ 16) = true := decide_eq_true (by have := of_decide_eq_false h16; omega)
                have HX : Hid (R = rdL t.ds (T.toNat - (a + 1)) (a + 1) (fm, rm)) := by show _ = _; rw [HD.out]; unfold rd1; simp only [g0, g1, reduceIte, Bool.false_eq_true, if_false, if_true]
                go_wp2_with fail
                exact ⟨⟨a + 1, fm, rm, by first | (unfold orM; rfl) | rfl | trivial, by first | (unfold orM; rfl) | rfl | trivial, by congr 1, by first | rfl | trivial, HX⟩, by simp only [intOf]; omega⟩
              | true =>
                have g1 : decide (d.a ≥ 16) = false := decide_eq_false (by have := of_decide_eq_true h16; omega)
                have ha0 : 0 ≤ d.a := of_decide_eq_true h0
                have ha16 : d.a < 16 := of_decide_eq_true h16
                have HX : Hid (R = rdL t.ds (T.toNat - (a + 1)) (a + 1) (fm, (orM rm d.a))) := by show _ = _; rw [HD.out]; unfold rd1; simp only [g0, g1, h2, h3, h4, reduceIte, Bool.false_eq_true, if_false, if_true]
                go_wp2_with fail
                exact ⟨⟨a + 1, fm, (orM rm d.a), by first | (unfold orM; rfl) | rfl | trivial, by first | (unfold orM; rfl) | rfl | trivial, by congr 1, by first | rfl | trivial, HX⟩, by simp only [intOf]; omega⟩
          | false =>
            have HX : Hid (R = rdL t.ds (T.toNat - (a + 1)) (a + 1) (fm, rm)) := by show _ = _; rw [HD.out]; unfold rd1; simp [h2, h3, h4]
            go_wp2_with fail
            exact ⟨⟨a + 1, fm, rm, rfl, rfl, by congr 1, by first | rfl | trivial, HX⟩, by simp only [intOf]; omega⟩
    · have HX : Hid (R = (fm, rm)) := by show _ = _; rw [HRR.out, show T.toNat - a = 0 by omega]; rfl
      go_wp2_with fail
      go_ret2
      exact ⟨by rw [HX.out]; rfl, HB1.out⟩
end Go.Proofs.YteedmmljahgpjabGreatDoor
