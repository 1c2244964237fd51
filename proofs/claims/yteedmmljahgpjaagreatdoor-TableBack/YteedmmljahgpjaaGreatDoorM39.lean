import Derived.Test.YteedmmljahgpjaaGreatDoorM38
import Derived.Test.YteedmmljahgpjaaGreatDoorUq
import Derived.Test.YteedmmljahgpjaaGreatDoorM29
/-
  The document's Bound, of any table.
-/
namespace Go.Proofs.YteedmmljahgpjaaGreatDoor
open Go.RowKit
set_option linter.unusedVariables false
set_option linter.unusedSimpArgs false
structure Bb (w V : World) (g2 g5 : Nat) (t : TbM) (m : Int × Int) : Prop where
  B : Below w.heap.size w V
  N : V.heap[g2]? = some (.cells #[.int .i64 0, .int .i64 0] 34 (0, 0))
  M : V.heap[g5]? = some (.cells (coV m) 34 (0, 0))
  T : V.heap[w.heap.size]? = some (.cells t.vals 26 (0, 0))
theorem Bb.on {w V V' : World} {g2 g5 : Nat} {t : TbM} {m : Int × Int} (h : Bb w V g2 g5 t m) (k : Below V.heap.size V V') : Bb w V' g2 g5 t m :=
  ⟨below2 h.B k, (k.block _ (hp_lt h.N)).trans h.N, (k.block _ (hp_lt h.M)).trans h.M, (k.block _ (hp_lt h.T)).trans h.T⟩
theorem Bb.set0 {w V : World} {g2 g5 : Nat} {t : TbM} {m : Int × Int} (h : Bb w V g2 g5 t m) (hn : w.heap.size < g2 ∧ g2 < g5) (x : Int) : Bb w (V.setCell ⟨g5, 0, none⟩ (.int .i64 x)) g2 g5 t (x, m.2) :=
  ⟨h.B.setCell (by show w.heap.size ≤ g5; omega) _, (heap_setCell_other _ _ _ _ (by show g2 ≠ g5; omega)).trans h.N, heap_set _ h.M, (heap_setCell_other _ _ _ _ (by show w.heap.size ≠ g5; omega)).trans h.T⟩
theorem Bb.set1 {w V : World} {g2 g5 : Nat} {t : TbM} {m : Int × Int} (h : Bb w V g2 g5 t m) (hn : w.heap.size < g2 ∧ g2 < g5) (x : Int) : Bb w (V.setCell ⟨g5, 1, none⟩ (.int .i64 x)) g2 g5 t (m.1, x) :=
  ⟨h.B.setCell (by show w.heap.size ≤ g5; omega) _, (heap_setCell_other _ _ _ _ (by show g2 ≠ g5; omega)).trans h.N, heap_set _ h.M, (heap_setCell_other _ _ _ _ (by show w.heap.size ≠ g5; omega)).trans h.T⟩
set_option maxRecDepth 100000 in
set_option maxHeartbeats 4000000 in
theorem rbound_any (t : TbM) (w : World) (hl : TbL w t) : Calls Tryz.prog 15 #[.agg t.vals] w fun e w' => e = .returned (.tuple #[.agg (coV (boundN t)), .int .i64 (checkE t)]) ∧ Below w.heap.size w w' := by
  obtain ⟨W2, e2⟩ : ∃ W, (w.alloc (.cells t.vals 26)).alloc (.cells #[.int .i64 0, .int .i64 0] 34) = W := ⟨_, rfl⟩
  have E2 : Hid ((w.alloc (.cells t.vals 26)).alloc (.cells #[.int .i64 0, .int .i64 0] 34) = W2) := e2
  obtain ⟨hn1, hn2, hb2, hs2⟩ := two_box e2
  have HB2 : Hid (Below w.heap.size w W2) := hb2
  have HN1 : Hid (W2.heap[w.heap.size]? = some (.cells t.vals 26 (0, 0))) := hn1
  have HN2 : Hid (W2.heap[w.heap.size + 1]? = some (.cells #[.int .i64 0, .int .i64 0] 34 (0, 0))) := hn2
  clear e2
  have cC := rcheck_any t W2 (hl.on hb2)
  have HL : Hid (TbL w t) := hl
  clear hn1 hn2 hb2 hs2 hl
  unfold boundN
  cases hz : (checkE t == 0) with
  | false =>
    have hq : (checkE t != 0) = true := by simp [bne, hz]
    rw [if_neg (by simp)]
    obtain ⟨E, eE⟩ : ∃ q, checkE t = q := ⟨_, rfl⟩
    rw [eE] at cC hq hz ⊢
    clear eE
    go_enter Tryz.func15, Tryz.ntmps15
    go_upto_region 1 with fail
    rw [E2.out]
    clear E2
    obtain ⟨g2, eg2⟩ : ∃ g, w.heap.size + 1 = g := ⟨_, rfl⟩
    rw [eg2] at HN2 ⊢
    have hg2 : w.heap.size ≤ g2 := by omega
    clear eg2
    go_wp2_with (refine wpList_load_row rfl 26 (.tmp 1) rfl w.heap.size rfl 26 t.vals (0, 0) _ HN1.out Tryz.underlying26 rfl size26' ?_)
    refine cC.mono ?_
    rintro e w3 ⟨rfl, hb3⟩
    have HB3 : Hid (Below w.heap.size w w3) := below2 HB2.out hb3
    have HN3 : Hid (w3.heap[g2]? = some (.cells #[.int .i64 0, .int .i64 0] 34 (0, 0))) := (hb3.block _ (hp_lt HN2.out)).trans HN2.out
    have HBS : Hid (Below w.heap.size w (w3.setRow g2 (coV (0, 0)))) := below_row HB3.out hg2 _
    have HNS : Hid ((w3.setRow g2 (coV (0, 0))).heap[g2]? = some (.cells (coV (0, 0)) 34 (0, 0))) := setRow_heap _ _ _ _ _ _ HN3.out
    clear cC hb3
    go_wp2_with (refine wpList_store_row rfl 34 (.tmp 2) (.tmp 19) rfl g2 (coV (0, 0)) rfl rfl 34 #[.int .i64 0, .int .i64 0] HN3.out size34' rfl (coV_all _) ?_)
    exact bodyPost_ret (results_two rfl _ _ g2 34 (coV (0, 0)) (0, 0) _ rfl HNS.out Tryz.underlying34 rfl size34') rfl ⟨rfl, HBS.out⟩
  | true =>
    have hq : (checkE t != 0) = false := by simp [bne, hz]
    have hform := check_form hz
    have HFB : Hid (∀ s ∈ t.ts, s.gs.length ≤ 12 ∧ ∀ g ∈ s.gs, GdB g) := form_b hform
    have HFW : Hid ((t.rs.length ≤ 12 ∧ t.cs.length ≤ 1024 ∧ t.ds.length ≤ 4096) ∧ ∀ s ∈ t.ts, ∀ g ∈ s.gs, GdW t g) := form_w hform
    have HFR : Hid (∀ s ∈ t.ts, ∀ g ∈ s.gs, ∀ r ∈ g.rs, rowB t.sl t.rs.length t.ts.length r = true) := form_rows hform
    rw [if_pos rfl]
    have hE : checkE t = 0 := by simpa using hz
    rw [hE] at cC ⊢
    obtain ⟨S, eS⟩ : ∃ S, bndT (0, 0) t.ts = S := ⟨_, rfl⟩
    have HS : Hid (bndT (0, 0) (t.ts.drop 0) = S) := eS
    rw [eS]
    clear hz hq hE hform eS
    go_enter Tryz.func15, Tryz.ntmps15
    go_upto_region 1 with fail
    rw [E2.out]
    clear E2
    obtain ⟨g2, eg2⟩ : ∃ g, w.heap.size + 1 = g := ⟨_, rfl⟩
    rw [eg2] at HN2 ⊢
    have HLG : Hid (w.heap.size < g2) := by show _ < _; omega
    clear eg2
    go_wp2_with (refine wpList_load_row rfl 26 (.tmp 1) rfl w.heap.size rfl 26 t.vals (0, 0) _ HN1.out Tryz.underlying26 rfl size26' ?_)
    refine cC.mono ?_
    rintro e w3 ⟨rfl, hb3⟩
    have HN3 : Hid (w3.heap[g2]? = some (.cells #[.int .i64 0, .int .i64 0] 34 (0, 0))) := (hb3.block _ (hp_lt HN2.out)).trans HN2.out
    have HT3 : Hid (w3.heap[w.heap.size]? = some (.cells t.vals 26 (0, 0))) := (hb3.block _ (hp_lt HN1.out)).trans HN1.out
    have HZ : Hid ((w3.alloc (.cells #[.int .i64 0, .int .i64 0] 34)).heap[w3.heap.size]? = some (.cells #[.int .i64 0, .int .i64 0] 34 (0, 0))) := heap_new _ _
    have hbx : Below w3.heap.size w3 ((w3.alloc (.cells #[.int .i64 0, .int .i64 0] 34)).setRow w3.heap.size (coV (0, 0))) := below_row (below_new _ _) (Nat.le_refl _) _
    have HBB : Hid (Bb w ((w3.alloc (.cells #[.int .i64 0, .int .i64 0] 34)).setRow w3.heap.size (coV (0, 0))) g2 w3.heap.size t (0, 0)) := ⟨below2 (below2 HB2.out hb3) hbx, (hbx.block _ (hp_lt HN3.out)).trans HN3.out, setRow_heap _ _ _ _ _ _ HZ.out, (hbx.block _ (hp_lt HT3.out)).trans HT3.out⟩
    have HNE : Hid (w.heap.size < g2 ∧ g2 < w3.heap.size) := ⟨HLG.out, hp_lt HN3.out⟩
    clear cC hb3 hbx HN1 HN2 HB2
    go_upto_region 5 with (refine wpList_store_row rfl 34 (.tmp 5) (.tmp 21) rfl w3.heap.size (coV (0, 0)) rfl rfl 34 #[.int .i64 0, .int .i64 0] HZ.out size34' rfl (coV_all _) ?_)
    clear HZ HN3 HT3
    generalize World.setRow _ _ _ = W4 at HBB ⊢
    generalize w3.heap.size = g5 at HBB HNE ⊢
    go_wp2_with fail
    go_loopw [6] (fun q wr => ∃ (i : Nat) (m : Int × Int), i ≤ t.ts.length ∧ q = .int .i64 i ∧ Hid (Bb w wr g2 g5 t m) ∧ Hid (0 ≤ m.2 ∧ m.2 ≤ 8) ∧ Hid (bndT m (t.ts.drop i) = S)) (fun q _ => t.ts.length - (intOf q).toNat)
    case atStart => exact ⟨0, (0, 0), by omega, rfl, HBB, ⟨by simp, by simp⟩, HS⟩
    case round =>
      clear HBB HS
      obtain ⟨i, m, hi, rfl, HBR, HM8, HRR⟩ := hrel
      have c5 : wr.cell? ⟨w.heap.size, 5, none⟩ = some (.slice t.ta t.ts.length t.tc) := cell_of HBR.out.T 5
      by_cases hlt : i < t.ts.length
      · have hlt' : (i : Int) < (t.ts.length : Int) := by omega
        have hmx : (i : Int) + 1 ≤ 9223372036854775807 := by have h1 := HL.out.T.1; have h2 := HL.out.T.2.1; rw [List.length_map] at h1; omega
        obtain ⟨b1, o1, ea, r1⟩ := els_at StM.sz HL.out.T i hlt
        have HGX : Hid (StL w t.ts[i]) := HL.out.Ti _ (List.getElem_mem hlt)
        have HGB : Hid (t.ts[i].gs.length ≤ 12 ∧ ∀ g ∈ t.ts[i].gs, GdB g) := HFB.out _ (List.getElem_mem hlt)
        have HGW : Hid (∀ g ∈ t.ts[i].gs, GdW t g) := HFW.out.2 _ (List.getElem_mem hlt)
        have HGR : Hid (∀ g ∈ t.ts[i].gs, ∀ r ∈ g.rs, rowB t.sl t.rs.length t.ts.length r = true) := HFR.out _ (List.getElem_mem hlt)
        have hR := HRR.out
        rw [List.drop_eq_getElem_cons hlt] at hR
        simp only [bndT] at hR
        obtain ⟨x, ex⟩ : ∃ x, t.ts[i] = x := ⟨_, rfl⟩
        rw [ex] at r1 HGX HGB HGW HGR hR
        obtain ⟨Q, eQ⟩ : ∃ Q, bndL (0, 0, m.2) x.gs = Q := ⟨_, rfl⟩
        have HQ : Hid (bndL (0, 0, m.2) (x.gs.drop 0) = Q) := eQ
        have HNX : Hid (bndT (mxN m.1 (Q.1 + Q.2.1), Q.2.2) (t.ts.drop (i + 1)) = S) := by
          show _ = _
          obtain ⟨a1, a2, a3⟩ := bndL_acts x.gs 0 0 m.2 HM8.out.1
          rw [← eQ, a1, a2, a3]
          exact hR
        obtain ⟨q1, q2, q3⟩ := bndL_le x.gs (0, 0, m.2) 0 HGB.out.2 ⟨by simp, by simp⟩ ⟨by simp, by simp⟩ HM8.out
        rw [eQ] at q1 q2 q3
        have HQB : Hid ((0 ≤ Q.1 ∧ Q.1 ≤ 49152) ∧ (0 ≤ Q.2.1 ∧ Q.2.1 ≤ 131072) ∧ (0 ≤ Q.2.2 ∧ Q.2.2 ≤ 8)) := ⟨⟨q1.1, by have := q1.2; have := HGB.out.1; omega⟩, q2, q3⟩
        clear ex hR eQ q1 q2 q3 HRR
        rw [ea] at c5
        have HEA : Hid (t.ta = some ⟨b1, o1, none⟩) := ea
        clear ea
        have HX0 : Hid (w.cell? ⟨b1, o1 + i, none⟩ = some (.slice x.a x.gs.length x.c)) := by have := r1 0 _ rfl; rw [Nat.mul_one, Nat.add_zero] at this; exact this
        clear r1
        go_wp2_with fail
        clear c5
        go_loopw [7, 8, 9] (fun u v q wv => ∃ (j : Nat) (y z c : Int), j ≤ x.gs.length ∧ u = .int .i64 y ∧ v = .int .i64 z ∧ q = .int .i64 j ∧ Hid (Bb w wv g2 g5 t (m.1, c)) ∧ Hid ((0 ≤ y ∧ y ≤ 4096 * j) ∧ (0 ≤ z ∧ z ≤ 131072) ∧ (0 ≤ c ∧ c ≤ 8)) ∧ Hid (bndL (y, z, c) (x.gs.drop j) = Q)) (fun _ _ q _ => x.gs.length - (intOf q).toNat)
        case atStart => exact ⟨0, 0, 0, m.2, by omega, rfl, rfl, rfl, HBR, ⟨⟨by simp, by simp⟩, ⟨by simp, by simp⟩, HM8.out⟩, HQ⟩
        case round =>
          clear HBR HQ
          obtain ⟨j, y, z, c, hj, rfl, rfl, rfl, HBW, HYZ, HJR⟩ := hrel
          have c5 : wr.cell? ⟨w.heap.size, 5, none⟩ = some (.slice (some ⟨b1, o1, none⟩) t.ts.length t.tc) := by rw [← HEA.out]; exact cell_of HBW.out.T 5
          have x0 : wr.cell? ⟨b1, o1 + i, none⟩ = some (.slice x.a x.gs.length x.c) := cell_on HX0.out HBW.out.B
          by_cases hjl : j < x.gs.length
          · have hjl' : (j : Int) < (x.gs.length : Int) := by omega
            have hmy : (j : Int) + 1 ≤ 9223372036854775807 := by have := HGB.out.1; omega
            obtain ⟨b3, o3, ea, r3⟩ := els_at GdM.sz HGX.out.1 j hjl
            have HGG : Hid (GdL w x.gs[j]) := HGX.out.2 _ (List.getElem_mem hjl)
            have HGD : Hid (GdW t x.gs[j]) := HGW.out _ (List.getElem_mem hjl)
            have HBD : Hid (GdB x.gs[j]) := HGB.out.2 _ (List.getElem_mem hjl)
            have HRD : Hid (∀ r ∈ x.gs[j].rs, rowB t.sl t.rs.length t.ts.length r = true) := HGR.out _ (List.getElem_mem hjl)
            have hJ := HJR.out
            rw [List.drop_eq_getElem_cons hjl] at hJ
            simp only [bndL] at hJ
            obtain ⟨g, eg⟩ : ∃ g, x.gs[j] = g := ⟨_, rfl⟩
            rw [eg] at r3 HGG HGD HBD HRD hJ
            obtain ⟨ST, eST⟩ : ∃ s, stepsN g.rs = s := ⟨_, rfl⟩
            obtain ⟨AT, eAT⟩ : ∃ s, actsN g.rs = s := ⟨_, rfl⟩
            have hstl := stepsN_le g.rs HBD.out.2.2
            have hacl := actsN_le g.rs
            rw [eST] at hJ hstl
            rw [eAT] at hJ hacl
            have HSA : Hid (stepsN (g.rs.drop 0) = ST ∧ actsN (g.rs.drop 0) = AT) := ⟨eST, eAT⟩
            have HJA := hid_of hJ
            have h8 : g.rs.length ≤ 8 := HBD.out.2.1
            have HSB : Hid ((0 ≤ ST ∧ ST ≤ 131072) ∧ (0 ≤ AT ∧ AT ≤ 8)) := ⟨⟨hstl.1, by have := hstl.2; omega⟩, hacl.1, by have := hacl.2; omega⟩
            clear eg hJ HJR eST eAT hstl hacl
            rw [ea] at x0
            clear ea
            have HRG : Hid (wr.rangeAt b3 (o3 + j * 5) g.vals.toList) := rng_on r3 HBW.out.B
            have HZ : Hid ((wr.alloc (.cells #[.int .i64 0, .int .i64 0, .int .u16 0, .int .u16 0, .slice none 0 0] 68)).heap[wr.heap.size]? = some (.cells #[.int .i64 0, .int .i64 0, .int .u16 0, .int .u16 0, .slice none 0 0] 68 (0, 0))) := heap_new _ _
            have HBX : Hid (Bb w ((wr.alloc (.cells #[.int .i64 0, .int .i64 0, .int .u16 0, .int .u16 0, .slice none 0 0] 68)).setRow wr.heap.size g.vals) g2 g5 t (m.1, c)) := HBW.out.on (below_row (below_new _ _) (Nat.le_refl _) _)
            have HNG : Hid (((wr.alloc (.cells #[.int .i64 0, .int .i64 0, .int .u16 0, .int .u16 0, .slice none 0 0] 68)).setRow wr.heap.size g.vals).heap[wr.heap.size]? = some (.cells g.vals 68 (0, 0))) := setRow_heap _ _ _ _ _ _ HZ.out
            clear r3
            go_upto_region 14 with (first | (refine wpList_load_mid rfl 68 (.tmp 45) rfl b3 (o3 + j * 5) rfl g.vals.toList _ HRG.out Tryz.underlying68 rfl (by show _ = some 5; exact size68') ?_; rw [Array.toArray_toList]) | (refine wpList_store_row rfl 68 (.tmp 10) (.tmp 46) rfl wr.heap.size g.vals rfl rfl 68 #[.int .i64 0, .int .i64 0, .int .u16 0, .int .u16 0, .slice none 0 0] HZ.out size68' rfl (allGd g) ?_))
            clear c5 x0 HZ HRG HBW
            generalize World.setRow _ _ _ = V at HNG HBX ⊢
            generalize wr.heap.size = G at HNG ⊢
            have g0 : V.cell? ⟨G, 0, none⟩ = some (.int .i64 g.wh.f) := cell_of HNG.out 0
            have g1 : V.cell? ⟨G, 1, none⟩ = some (.int .i64 g.wh.t) := cell_of HNG.out 1
            have hSW : SpW t g.wh := HGD.out g.wh (by unfold gSp; exact List.mem_cons_self ..)
            have hd4 := HFW.out.1.2.2
            have hgl := HGB.out.1
            obtain ⟨hy1, hz1, hc1⟩ := HYZ.out
            obtain ⟨w0, w1, w2⟩ := hSW
            have v0 : y + g.wh.t ≤ 9223372036854775807 := by omega
            have v1 : -9223372036854775808 ≤ y + g.wh.t := by omega
            have v2 : y + g.wh.t - g.wh.f ≤ 9223372036854775807 := by omega
            have v3 : -9223372036854775808 ≤ y + g.wh.t - g.wh.f := by omega
            have HY2 : Hid (y + g.wh.t - g.wh.f = y + g.wh.len ∧ 0 ≤ y + g.wh.len ∧ y + g.wh.len ≤ 4096 * ((j + 1 : Nat) : Int)) := by
              unfold Sp.len
              exact ⟨by omega, by omega, by omega⟩
            clear hy1 hz1 hc1 w0 w1 w2 hd4 hgl
            go_upto_region 15 with fail
            clear g0 g1 v0 v1 v2 v3
            rw [HY2.out.1]
            go_wp2_with fail
            go_loopw [11, 12, 13] (fun u v q wv => ∃ (k : Nat) (s a : Int), k ≤ g.rs.length ∧ u = .int .i64 s ∧ v = .int .i64 a ∧ q = .int .i64 k ∧ Hid (Below V.heap.size V wv) ∧ Hid ((0 ≤ s ∧ s ≤ 16384 * k) ∧ (0 ≤ a ∧ a ≤ k)) ∧ Hid (s + stepsN (g.rs.drop k) = ST ∧ a + actsN (g.rs.drop k) = AT)) (fun _ _ q _ => g.rs.length - (intOf q).toNat)
            case atStart => exact ⟨0, 0, 0, by omega, rfl, rfl, rfl, Below.refl _ _, ⟨⟨by simp, by simp⟩, ⟨by simp, by simp⟩⟩, ⟨by rw [Int.zero_add]; exact HSA.out.1, by rw [Int.zero_add]; exact HSA.out.2⟩⟩
            case round =>
              clear HSA
              obtain ⟨k, s, a, hk, rfl, rfl, rfl, HBK, HSS, HKR⟩ := hrel
              have g4 : wr.cell? ⟨G, 4, none⟩ = some (.slice g.a g.rs.length g.c) := cell_on (cell_of HNG.out 4) HBK.out
              by_cases hkl : k < g.rs.length
              · have hkl' : (k : Int) < (g.rs.length : Int) := by omega
                have hmz : (k : Int) + 1 ≤ 9223372036854775807 := by omega
                obtain ⟨b5, o5, ea, r5⟩ := els_at RowM.sz HGG.out.2.2.2.1 k hkl
                have hRZ : RowZ g.rs[k] := row_z (HRD.out _ (List.getElem_mem hkl)) HFW.out.1.2.2 (fun y hy => HGD.out y (by unfold gSp; exact List.mem_cons_of_mem _ (List.mem_flatten.2 ⟨_, List.mem_map.2 ⟨_, List.getElem_mem hkl, rfl⟩, hy⟩)))
                have hK := HKR.out
                rw [List.drop_eq_getElem_cons hkl] at hK
                simp only [stepsN, actsN] at hK
                obtain ⟨r, er⟩ : ∃ r, g.rs[k] = r := ⟨_, rfl⟩
                rw [er] at r5 hRZ hK
                rw [hRZ.s, hRZ.k] at hK
                have HRG : Hid (wr.rangeAt b5 (o5 + k * 11) r.vals.toList) := rng_on r5 (below2 HBX.out.B HBK.out)
                rw [ea] at g4
                clear er ea r5 HKR
                have HZ : Hid ((wr.alloc (.cells #[.int .u8 0, .int .u8 0, .int .i64 0, .int .i64 0, .int .i64 0, .int .i64 0, .int .i64 0, .int .i64 0, .int .i64 0, .int .i64 0, .int .i64 0] 85)).heap[wr.heap.size]? = some (.cells #[.int .u8 0, .int .u8 0, .int .i64 0, .int .i64 0, .int .i64 0, .int .i64 0, .int .i64 0, .int .i64 0, .int .i64 0, .int .i64 0, .int .i64 0] 85 (0, 0))) := heap_new _ _
                have HBY : Hid (Below V.heap.size V ((wr.alloc (.cells #[.int .u8 0, .int .u8 0, .int .i64 0, .int .i64 0, .int .i64 0, .int .i64 0, .int .i64 0, .int .i64 0, .int .i64 0, .int .i64 0, .int .i64 0] 85)).setRow wr.heap.size r.vals)) := below2 HBK.out (below_row (below_new _ _) (Nat.le_refl _) _)
                have HNR : Hid (((wr.alloc (.cells #[.int .u8 0, .int .u8 0, .int .i64 0, .int .i64 0, .int .i64 0, .int .i64 0, .int .i64 0, .int .i64 0, .int .i64 0, .int .i64 0, .int .i64 0] 85)).setRow wr.heap.size r.vals).heap[wr.heap.size]? = some (.cells r.vals 85 (0, 0))) := setRow_heap _ _ _ _ _ _ HZ.out
                have HKK := hid_of hK
                have HRZ := hid_of hRZ
                clear hK hRZ
                go_upto_region 21 with (first | (refine wpList_load_mid rfl 85 (.tmp 66) rfl b5 (o5 + k * 11) rfl r.vals.toList _ HRG.out Tryz.underlying85 rfl (by show _ = some 11; exact size85') ?_; rw [Array.toArray_toList]) | (refine wpList_store_row rfl 85 (.tmp 14) (.tmp 67) rfl wr.heap.size r.vals rfl rfl 85 #[.int .u8 0, .int .u8 0, .int .i64 0, .int .i64 0, .int .i64 0, .int .i64 0, .int .i64 0, .int .i64 0, .int .i64 0, .int .i64 0, .int .i64 0] HZ.out size85' rfl (allRow r) ?_))
                clear g4 HZ HRG
                generalize World.setRow _ _ _ = U at HNR HBY ⊢
                generalize wr.heap.size = R at HNR ⊢
                have r0 : U.cell? ⟨R, 0, none⟩ = some (.int .u8 r.k) := cell_of HNR.out 0
                have r3 : U.cell? ⟨R, 3, none⟩ = some (.int .i64 r.sd.f) := cell_of HNR.out 3
                have r4 : U.cell? ⟨R, 4, none⟩ = some (.int .i64 r.sd.t) := cell_of HNR.out 4
                have r5 : U.cell? ⟨R, 5, none⟩ = some (.int .i64 r.qt.f) := cell_of HNR.out 5
                have r6 : U.cell? ⟨R, 6, none⟩ = some (.int .i64 r.qt.t) := cell_of HNR.out 6
                have r7 : U.cell? ⟨R, 7, none⟩ = some (.int .i64 r.pr.f) := cell_of HNR.out 7
                have r8 : U.cell? ⟨R, 8, none⟩ = some (.int .i64 r.pr.t) := cell_of HNR.out 8
                have r9 : U.cell? ⟨R, 9, none⟩ = some (.int .i64 r.vl.f) := cell_of HNR.out 9
                have r10 : U.cell? ⟨R, 10, none⟩ = some (.int .i64 r.vl.t) := cell_of HNR.out 10
                obtain ⟨⟨s0, s1⟩, a0, a1⟩ := HSS.out
                obtain ⟨⟨z1, z2, z3⟩, ⟨z4, z5, z6⟩, ⟨z7, z8, z9⟩, ⟨z10, z11, z12⟩, zs, zk⟩ := HRZ.out
                clear zs zk
                have p0 : s + r.sd.t ≤ 9223372036854775807 := by omega
                have n0 : -9223372036854775808 ≤ s + r.sd.t := by omega
                have p1 : s + r.sd.t - r.sd.f ≤ 9223372036854775807 := by omega
                have n1 : -9223372036854775808 ≤ s + r.sd.t - r.sd.f := by omega
                have p2 : s + r.sd.t - r.sd.f + r.qt.t ≤ 9223372036854775807 := by omega
                have n2 : -9223372036854775808 ≤ s + r.sd.t - r.sd.f + r.qt.t := by omega
                have p3 : s + r.sd.t - r.sd.f + r.qt.t - r.qt.f ≤ 9223372036854775807 := by omega
                have n3 : -9223372036854775808 ≤ s + r.sd.t - r.sd.f + r.qt.t - r.qt.f := by omega
                have p4 : s + r.sd.t - r.sd.f + r.qt.t - r.qt.f + r.pr.t ≤ 9223372036854775807 := by omega
                have n4 : -9223372036854775808 ≤ s + r.sd.t - r.sd.f + r.qt.t - r.qt.f + r.pr.t := by omega
                have p5 : s + r.sd.t - r.sd.f + r.qt.t - r.qt.f + r.pr.t - r.pr.f ≤ 9223372036854775807 := by omega
                have n5 : -9223372036854775808 ≤ s + r.sd.t - r.sd.f + r.qt.t - r.qt.f + r.pr.t - r.pr.f := by omega
                have p6 : s + r.sd.t - r.sd.f + r.qt.t - r.qt.f + r.pr.t - r.pr.f + r.vl.t ≤ 9223372036854775807 := by omega
                have n6 : -9223372036854775808 ≤ s + r.sd.t - r.sd.f + r.qt.t - r.qt.f + r.pr.t - r.pr.f + r.vl.t := by omega
                have p7 : s + r.sd.t - r.sd.f + r.qt.t - r.qt.f + r.pr.t - r.pr.f + r.vl.t - r.vl.f ≤ 9223372036854775807 := by omega
                have n7 : -9223372036854775808 ≤ s + r.sd.t - r.sd.f + r.qt.t - r.qt.f + r.pr.t - r.pr.f + r.vl.t - r.vl.f := by omega
                have ha5 : a + 1 ≤ 9223372036854775807 := by omega
                have HEQ : Hid ((s + r.sd.t - r.sd.f + r.qt.t - r.qt.f + r.pr.t - r.pr.f + r.vl.t - r.vl.f) = s + (r.sd.len + r.qt.len + r.pr.len + r.vl.len) ∧ 0 ≤ (s + r.sd.t - r.sd.f + r.qt.t - r.qt.f + r.pr.t - r.pr.f + r.vl.t - r.vl.f) ∧ (s + r.sd.t - r.sd.f + r.qt.t - r.qt.f + r.pr.t - r.pr.f + r.vl.t - r.vl.f) ≤ 16384 * ((k + 1 : Nat) : Int)) := by
                  unfold Sp.len
                  exact ⟨by omega, by omega, by omega⟩
                clear z1 z2 z3 z4 z5 z6 z7 z8 z9 z10 z11 z12 s0 s1
                go_upto_region 22 with fail
                clear r3 r4 r5 r6 r7 r8 r9 r10
                clear p0 n0 p1 n1 p2 n2 p3 n3 p4 n4 p5 n5 p6 n6 p7 n7
                cases hk3 : decide (r.k ≤ 3) with
                | true =>
                  have HK2 : Hid ((s + r.sd.t - r.sd.f + r.qt.t - r.qt.f + r.pr.t - r.pr.f + r.vl.t - r.vl.f) + stepsN (g.rs.drop (k + 1)) = ST ∧ (a + 1) + actsN (g.rs.drop (k + 1)) = AT) := by
                    obtain ⟨h1, h2⟩ := HKK.out
                    rw [if_pos (of_decide_eq_true hk3)] at h2
                    have := HEQ.out.1
                    exact ⟨by omega, by omega⟩
                  go_wp2_with fail
                  exact ⟨⟨k + 1, _, _, hkl, rfl, rfl, rfl, HBY, ⟨HEQ.out.2, by show _ ∧ _; exact ⟨by omega, by omega⟩⟩, HK2⟩, by simp only [intOf]; omega⟩
                | false =>
                  have HK2 : Hid ((s + r.sd.t - r.sd.f + r.qt.t - r.qt.f + r.pr.t - r.pr.f + r.vl.t - r.vl.f) + stepsN (g.rs.drop (k + 1)) = ST ∧ a + actsN (g.rs.drop (k + 1)) = AT) := by
                    obtain ⟨h1, h2⟩ := HKK.out
                    rw [if_neg (of_decide_eq_false hk3)] at h2
                    have := HEQ.out.1
                    exact ⟨by omega, by omega⟩
                  go_wp2_with fail
                  exact ⟨⟨k + 1, _, _, hkl, rfl, rfl, rfl, HBY, ⟨HEQ.out.2, by show _ ∧ _; exact ⟨by omega, by omega⟩⟩, HK2⟩, by simp only [intOf]; omega⟩
              · obtain rfl : k = g.rs.length := by omega
                have hnot : ¬ (g.rs.length : Int) < (g.rs.length : Int) := by omega
                obtain rfl : s = ST := by have := HKR.out.1; rw [List.drop_length] at this; simpa [stepsN] using this
                obtain rfl : a = AT := by have := HKR.out.2; rw [List.drop_length] at this; simpa [actsN] using this
                have HBU : Hid (Bb w wr g2 g5 t (m.1, c)) := HBX.out.on HBK.out
                have q1 : wr.cell? ⟨g5, 1, none⟩ = some (.int .i64 c) := cell_of HBU.out.M 1
                have f1 : wr.frozen? ⟨g5, 1, none⟩ = false := frozen_of HBU.out.M 1
                have HBU1 : Hid (Bb w (wr.setCell ⟨g5, 1, none⟩ (.int .i64 a)) g2 g5 t (m.1, a)) := HBU.out.set1 HNE.out a
                clear HKR HSS
                cases hs1 : decide (z < s) with
                | true =>
                  cases ha1 : decide (c < a) with
                  | true =>
                    have HN : Hid (bndL (y + g.wh.len, s, a) (x.gs.drop (j + 1)) = Q) := by show _ = _; rw [← HJA.out]; unfold mxN; rw [if_pos (show _ > _ from of_decide_eq_true hs1), if_pos (show _ > _ from of_decide_eq_true ha1)]
                    go_wp2_with fail
                    exact ⟨⟨j + 1, _, _, _, hjl, rfl, rfl, rfl, HBU1, ⟨HY2.out.2, HSB.out⟩, HN⟩, by simp only [intOf]; omega⟩
                  | false =>
                    have HN : Hid (bndL (y + g.wh.len, s, c) (x.gs.drop (j + 1)) = Q) := by show _ = _; rw [← HJA.out]; unfold mxN; rw [if_pos (show _ > _ from of_decide_eq_true hs1), if_neg (show ¬ _ > _ from of_decide_eq_false ha1)]
                    go_wp2_with fail
                    exact ⟨⟨j + 1, _, _, _, hjl, rfl, rfl, rfl, HBU, ⟨HY2.out.2, HSB.out.1, HYZ.out.2.2⟩, HN⟩, by simp only [intOf]; omega⟩
                | false =>
                  cases ha1 : decide (c < a) with
                  | true =>
                    have HN : Hid (bndL (y + g.wh.len, z, a) (x.gs.drop (j + 1)) = Q) := by show _ = _; rw [← HJA.out]; unfold mxN; rw [if_neg (show ¬ _ > _ from of_decide_eq_false hs1), if_pos (show _ > _ from of_decide_eq_true ha1)]
                    go_wp2_with fail
                    exact ⟨⟨j + 1, _, _, _, hjl, rfl, rfl, rfl, HBU1, ⟨HY2.out.2, HYZ.out.2.1, HSB.out.2⟩, HN⟩, by simp only [intOf]; omega⟩
                  | false =>
                    have HN : Hid (bndL (y + g.wh.len, z, c) (x.gs.drop (j + 1)) = Q) := by show _ = _; rw [← HJA.out]; unfold mxN; rw [if_neg (show ¬ _ > _ from of_decide_eq_false hs1), if_neg (show ¬ _ > _ from of_decide_eq_false ha1)]
                    go_wp2_with fail
                    exact ⟨⟨j + 1, _, _, _, hjl, rfl, rfl, rfl, HBU, ⟨HY2.out.2, HYZ.out.2.1, HYZ.out.2.2⟩, HN⟩, by simp only [intOf]; omega⟩
          · obtain rfl : j = x.gs.length := by omega
            have hnot : ¬ (x.gs.length : Int) < (x.gs.length : Int) := by omega
            obtain rfl : (y, z, c) = Q := by have := HJR.out; rw [List.drop_length] at this; exact this
            obtain ⟨⟨hy0, hy1⟩, ⟨hz0, hz1⟩, hc⟩ := HQB.out
            simp only at hy0 hy1 hz0 hz1
            have hyz : y + z ≤ 9223372036854775807 := by omega
            have q0 : wr.cell? ⟨g5, 0, none⟩ = some (.int .i64 m.1) := cell_of HBW.out.M 0
            have f0 : wr.frozen? ⟨g5, 0, none⟩ = false := frozen_of HBW.out.M 0
            have HBU1 : Hid (Bb w (wr.setCell ⟨g5, 0, none⟩ (.int .i64 (y + z))) g2 g5 t (y + z, c)) := HBW.out.set0 HNE.out (y + z)
            clear HJR HYZ
            obtain ⟨M1, eM1⟩ : ∃ q, m.1 = q := ⟨_, rfl⟩
            rw [eM1] at q0 HNX HBW
            clear eM1
            cases hs1 : decide (M1 < y + z) with
            | true =>
              have HN : Hid (bndT (y + z, c) (t.ts.drop (i + 1)) = S) := by show _ = _; rw [← HNX.out]; unfold mxN; simp only; rw [if_pos (show _ > _ from of_decide_eq_true hs1)]
              go_wp2_with fail
              exact ⟨⟨i + 1, _, hlt, rfl, HBU1, hc, HN⟩, by simp only [intOf]; omega⟩
            | false =>
              have HN : Hid (bndT (M1, c) (t.ts.drop (i + 1)) = S) := by show _ = _; rw [← HNX.out]; unfold mxN; simp only; rw [if_neg (show ¬ _ > _ from of_decide_eq_false hs1)]
              go_wp2_with fail
              exact ⟨⟨i + 1, _, hlt, rfl, HBW, hc, HN⟩, by simp only [intOf]; omega⟩
      · obtain rfl : i = t.ts.length := by omega
        have hnot : ¬ (t.ts.length : Int) < (t.ts.length : Int) := by omega
        have HE3 : Hid (S = m) := by show _ = _; rw [← HRR.out, List.drop_length]; rfl
        have HBS : Hid (Below w.heap.size w (wr.setRow g2 (coV m))) := below_row HBR.out.B (Nat.le_of_lt HNE.out.1) _
        have HNS : Hid ((wr.setRow g2 (coV m)).heap[g2]? = some (.cells (coV m) 34 (0, 0))) := setRow_heap _ _ _ _ _ _ HBR.out.N
        go_wp2_with (first | (refine wpList_load_row rfl 34 (.tmp 5) rfl g5 rfl 34 (coV m) (0, 0) _ HBR.out.M Tryz.underlying34 rfl size34' ?_) | (refine wpList_store_row rfl 34 (.tmp 2) (.tmp 126) rfl g2 (coV m) rfl rfl 34 #[.int .i64 0, .int .i64 0] HBR.out.N size34' rfl (coV_all _) ?_))
        exact bodyPost_ret (results_two rfl _ _ g2 34 (coV m) (0, 0) _ rfl HNS.out Tryz.underlying34 rfl size34') rfl ⟨by rw [HE3.out]; rfl, HBS.out⟩
end Go.Proofs.YteedmmljahgpjaaGreatDoor

/-
  TableBounds, walked.
-/
namespace Go.Proofs.YteedmmljahgpjaaGreatDoor
open Go.RowKit
set_option linter.unusedVariables false
set_option linter.unusedSimpArgs false
set_option maxRecDepth 100000 in
set_option maxHeartbeats 4000000 in
theorem bounds_any (t : TbM) (w : World) (hl : TbL w t) (hz : TbZ t) (htb : Tab w) : Calls Tryz.prog 4 #[.agg t.vals] w fun e w' => e = .returned (.bool true) ∧ Below w.heap.size w w' := by
  have hb1 := below_new w (.cells t.vals 26)
  have hn1 := heap_new w (.cells t.vals 26)
  obtain ⟨W1, e1⟩ : ∃ W, w.alloc (.cells t.vals 26) = W := ⟨_, rfl⟩
  have E1 : Hid (w.alloc (.cells t.vals 26) = W1) := e1
  rw [e1] at hb1 hn1
  have HB1 : Hid (Below w.heap.size w W1) := hb1
  have HN1 : Hid (W1.heap[w.heap.size]? = some (.cells t.vals 26 (0, 0))) := hn1
  have HL : Hid (TbL W1 t) := hl.on hb1
  have HT : Hid (Tab W1) := htb.on hb1
  have HZ : Hid (TbZ t) := hz
  have cA := awake_any W1 HT.out
  clear hb1 hn1 hl hz htb e1
  go_enter Tryz.func4, Tryz.ntmps4
  go_upto_region 1 with fail
  rw [E1.out]
  clear E1
  go_wp2_with fail
  refine cA.mono ?_
  rintro e w2 ⟨rfl, hb2⟩
  have HB2 : Hid (Below W1.heap.size W1 w2) := hb2
  have HN2 : Hid (w2.heap[w.heap.size]? = some (.cells t.vals 26 (0, 0))) := (hb2.block _ (hp_lt HN1.out)).trans HN1.out
  have cF := far_any t w2 (HL.out.on hb2) HZ.out
  clear cA hb2
  go_wp2_with (refine wpList_load_row rfl 26 (.tmp 1) rfl w.heap.size rfl 26 t.vals (0, 0) _ HN2.out Tryz.underlying26 rfl size26' ?_)
  refine cF.mono ?_
  rintro e w3 ⟨b, rfl, _, hb3⟩
  have HB3 : Hid (Below W1.heap.size W1 w3) := below2 HB2.out hb3
  have HN3 : Hid (w3.heap[w.heap.size]? = some (.cells t.vals 26 (0, 0))) := (HB3.out.block _ (hp_lt HN1.out)).trans HN1.out
  clear cF hb3 HB2 HN2
  cases b with
  | true =>
    go_wp2_with fail
    go_ret
    exact ⟨rfl, below2 HB1.out HB3.out⟩
  | false =>
    have cB := bound_any t w3 (HL.out.on HB3.out) (HT.out.on HB3.out)
    obtain ⟨q, eq⟩ : ∃ q, boundN t = q := ⟨_, rfl⟩
    obtain ⟨E, eE⟩ : ∃ q, checkE t = q := ⟨_, rfl⟩
    have cD := fun v hv => rbound_any t v hv
    rw [eq, eE] at cB
    simp only [eq, eE] at cD
    have HCD : Hid (∀ v, TbL v t → Calls Tryz.prog 15 #[.agg t.vals] v fun e w' => e = .returned (.tuple #[.agg (coV q), .int .i64 E]) ∧ Below v.heap.size v w') := cD
    clear cD eq eE
    go_wp2_with (refine wpList_load_row rfl 26 (.tmp 1) rfl w.heap.size rfl 26 t.vals (0, 0) _ HN3.out Tryz.underlying26 rfl size26' ?_)
    refine cB.mono ?_
    rintro e w4 ⟨rfl, hb4⟩
    have HZ4 : Hid ((w4.alloc (.cells #[.int .i64 0, .int .i64 0] 34)).heap[w4.heap.size]? = some (.cells #[.int .i64 0, .int .i64 0] 34 (0, 0))) := heap_new _ _
    have hbx : Below w4.heap.size w4 ((w4.alloc (.cells #[.int .i64 0, .int .i64 0] 34)).setRow w4.heap.size (coV q)) := below_row (below_new _ _) (Nat.le_refl _) _
    have HB5 : Hid (Below W1.heap.size W1 ((w4.alloc (.cells #[.int .i64 0, .int .i64 0] 34)).setRow w4.heap.size (coV q))) := below2 (below2 HB3.out hb4) hbx
    have HN5 : Hid (((w4.alloc (.cells #[.int .i64 0, .int .i64 0] 34)).setRow w4.heap.size (coV q)).heap[w4.heap.size]? = some (.cells (coV q) 34 (0, 0))) := setRow_heap _ _ _ _ _ _ HZ4.out
    clear cB hb4 hbx
    go_upto_region 6 with (refine wpList_store_row rfl 34 (.tmp 5) (.tmp 21) rfl w4.heap.size (coV q) rfl rfl 34 #[.int .i64 0, .int .i64 0] HZ4.out size34' rfl (coV_all _) ?_)
    generalize World.setRow _ _ _ = W5 at HB5 HN5 ⊢
    generalize w4.heap.size = G5 at HN5 ⊢
    clear HZ4 HN3 HB3
    have HT5 : Hid (W5.heap[w.heap.size]? = some (.cells t.vals 26 (0, 0))) := (HB5.out.block _ (hp_lt HN1.out)).trans HN1.out
    go_wp2_with (refine wpList_load_row rfl 26 (.tmp 1) rfl w.heap.size rfl 26 t.vals (0, 0) _ HT5.out Tryz.underlying26 rfl size26' ?_)
    refine (HCD.out W5 (HL.out.on HB5.out)).mono ?_
    rintro e w6 ⟨rfl, hb6⟩
    have HZ6 : Hid ((w6.alloc (.cells #[.int .i64 0, .int .i64 0] 34)).heap[w6.heap.size]? = some (.cells #[.int .i64 0, .int .i64 0] 34 (0, 0))) := heap_new _ _
    have hbx : Below w6.heap.size w6 ((w6.alloc (.cells #[.int .i64 0, .int .i64 0] 34)).setRow w6.heap.size (coV q)) := below_row (below_new _ _) (Nat.le_refl _) _
    have hB7 := below2 hb6 hbx
    have HB7 : Hid (Below W1.heap.size W1 ((w6.alloc (.cells #[.int .i64 0, .int .i64 0] 34)).setRow w6.heap.size (coV q))) := below2 HB5.out hB7
    have HN7 : Hid (((w6.alloc (.cells #[.int .i64 0, .int .i64 0] 34)).setRow w6.heap.size (coV q)).heap[w6.heap.size]? = some (.cells (coV q) 34 (0, 0))) := setRow_heap _ _ _ _ _ _ HZ6.out
    have HN8 : Hid (((w6.alloc (.cells #[.int .i64 0, .int .i64 0] 34)).setRow w6.heap.size (coV q)).heap[G5]? = some (.cells (coV q) 34 (0, 0))) := (hB7.block _ (hp_lt HN5.out)).trans HN5.out
    clear hb6 hbx hB7
    go_upto_region 7 with (refine wpList_store_row rfl 34 (.tmp 7) (.tmp 26) rfl w6.heap.size (coV q) rfl rfl 34 #[.int .i64 0, .int .i64 0] HZ6.out size34' rfl (coV_all _) ?_)
    generalize World.setRow _ _ _ = W7 at HB7 HN7 HN8 ⊢
    generalize w6.heap.size = G7 at HN7 ⊢
    clear HZ6 HT5
    obtain ⟨q1, q2⟩ := q
    have a0 : W7.cell? ⟨G5, 0, none⟩ = some (.int .i64 q1) := cell_of HN8.out 0
    have a1 : W7.cell? ⟨G5, 1, none⟩ = some (.int .i64 q2) := cell_of HN8.out 1
    have b0 : W7.cell? ⟨G7, 0, none⟩ = some (.int .i64 q1) := cell_of HN7.out 0
    have b1 : W7.cell? ⟨G7, 1, none⟩ = some (.int .i64 q2) := cell_of HN7.out 1
    go_wp2_with fail
    go_ret
    exact ⟨by simp, below2 HB1.out HB7.out⟩
end Go.Proofs.YteedmmljahgpjaaGreatDoor
