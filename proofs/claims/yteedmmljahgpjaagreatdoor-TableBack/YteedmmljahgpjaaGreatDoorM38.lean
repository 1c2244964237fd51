import Derived.Test.YteedmmljahgpjaaGreatDoorM37
import Derived.Test.YteedmmljahgpjaaGreatDoorM15
/-
  The document's Check, of any table.
-/
namespace Go.Proofs.YteedmmljahgpjaaGreatDoor
open Go.RowKit
set_option linter.unusedVariables false
set_option linter.unusedSimpArgs false
def ct (a b : Int) : Int := if a == 0 then b else a
theorem ct_0 (b : Int) : ct 0 b = b := rfl
theorem ct_n {a : Int} (b : Int) (h : (a != 0) = true) : ct a b = a := by unfold ct; rw [if_neg (by simpa using h)]
theorem ct_z {a : Int} (b : Int) (h : (a != 0) = false) : ct a b = b := by unfold ct; rw [if_pos (by simpa using h)]
theorem ct_a (a b c : Int) : ct (ct a b) c = ct a (ct b c) := by
  unfold ct
  cases e : (a == 0) with
  | true => simp
  | false => simp [e]
theorem sts_c {t : TbM} {ts : List StM} {i : Nat} (hi : i < ts.length) : stsD t (ts.drop i) = ct (gdsD t ts[i].gs) (stsD t (ts.drop (i + 1))) := by rw [List.drop_eq_getElem_cons hi]; rfl
theorem gds_c {t : TbM} {gs : List GdM} {i : Nat} (hi : i < gs.length) : gdsD t (gs.drop i) = ct (gdD t gs[i]) (gdsD t (gs.drop (i + 1))) := by rw [List.drop_eq_getElem_cons hi]; rfl
theorem rws_c {t : TbM} {rs : List RowM} {i : Nat} (hi : i < rs.length) : rwsD t (rs.drop i) = ct (spsD t (hasL rs[i])) (rwsD t (rs.drop (i + 1))) := by rw [List.drop_eq_getElem_cons hi]; rfl
theorem reads_w {t : TbM} {x : Sp} (hx : SpW t x) : readsN t.ds x = rdL t.ds (x.t.toNat - x.f.toNat) x.f.toNat (0, 0) := by
  obtain ⟨h0, h1, h2⟩ := hx
  unfold readsN
  rw [show mnL x.t t.ds.length = x.t by unfold mnL; split <;> omega, show mx0 x.f = x.f by unfold mx0; split <;> omega]
theorem rreads_sp (t : TbM) (x : Sp) (w : World) (hl : TbL w t) (hx : SpW t x) : Calls Tryz.prog 30 #[.slice t.da t.ds.length t.dc, .agg x.vals] w fun e w' => e = .returned (.tuple #[.int .u16 (readsN t.ds x).1, .int .u16 (readsN t.ds x).2]) ∧ Below w.heap.size w w' := by
  rw [reads_w hx]
  obtain ⟨f, b⟩ := x
  obtain ⟨h0, h1, h2⟩ := hx
  simp only at h0 h1 h2
  obtain ⟨n, rfl⟩ := Int.eq_ofNat_of_zero_le h0
  exact rreads_any t n b w hl h2
set_option maxRecDepth 100000 in
set_option maxHeartbeats 4000000 in
theorem rcheck_any (t : TbM) (w : World) (hl : TbL w t) : Calls Tryz.prog 13 #[.agg t.vals] w fun e w' => e = .returned (.int .i64 (checkE t)) ∧ Below w.heap.size w w' := by
  have hb1 := below_new w (.cells t.vals 26)
  have hn1 := heap_new w (.cells t.vals 26)
  obtain ⟨W1, e1⟩ : ∃ W, w.alloc (.cells t.vals 26) = W := ⟨_, rfl⟩
  have E1 : Hid (w.alloc (.cells t.vals 26) = W1) := e1
  rw [e1] at hb1 hn1
  have HB1 : Hid (Below w.heap.size w W1) := hb1
  have HN1 : Hid (W1.heap[w.heap.size]? = some (.cells t.vals 26 (0, 0))) := hn1
  have HL : Hid (TbL W1 t) := hl.on hb1
  have cN := formed_any t W1 (hl.on hb1)
  clear hb1 e1 hl hn1
  rw [checkD_eq]
  obtain ⟨ANS, eA⟩ : ∃ q, (if formB t then stsD t t.ts else 190) = q := ⟨_, rfl⟩
  have HA : Hid ((if formB t then stsD t t.ts else 190) = ANS) := eA
  rw [eA]
  clear eA
  have HFW : Hid (formB t = true → (t.rs.length ≤ 12 ∧ t.cs.length ≤ 1024 ∧ t.ds.length ≤ 4096) ∧ ∀ s ∈ t.ts, ∀ g ∈ s.gs, GdW t g) := form_w
  obtain ⟨fb, efb⟩ : ∃ b, formB t = b := ⟨_, rfl⟩
  rw [efb] at cN HA HFW
  clear efb
  go_enter Tryz.func13, Tryz.ntmps13
  go_upto_region 1 with fail
  rw [E1.out]
  clear E1
  go_wp2_with (refine wpList_load_row rfl 26 (.tmp 1) rfl w.heap.size rfl 26 t.vals (0, 0) _ HN1.out Tryz.underlying26 rfl size26' ?_)
  refine cN.mono ?_
  rintro e w2 ⟨rfl, hb2⟩
  have HB2 : Hid (Below W1.heap.size W1 w2) := hb2
  clear hb2 cN
  cases fb with
  | false =>
    have HN : Hid (ANS = 190) := HA.out.symm
    go_wp2_with fail
    go_ret
    exact ⟨by rw [HN.out]; rfl, below2 HB1.out HB2.out⟩
  | true =>
    have HX : Hid (stsD t (t.ts.drop 0) = ANS) := HA.out
    have HSM : Hid (t.ds.length ≤ 4096) := (HFW.out rfl).1.2.2
    have HGW : Hid (∀ s ∈ t.ts, ∀ g ∈ s.gs, GdW t g) := (HFW.out rfl).2
    clear HA HFW
    go_wp2_with fail
    go_loopw [4] (fun q wr => ∃ (i : Nat), i ≤ t.ts.length ∧ q = .int .i64 i ∧ Hid (Below W1.heap.size W1 wr) ∧ Hid (stsD t (t.ts.drop i) = ANS)) (fun q _ => t.ts.length - (intOf q).toNat)
    case atStart => exact ⟨0, by omega, rfl, HB2, HX⟩
    case round =>
      clear HB2 HX
      obtain ⟨i, hi, rfl, HBR, HSR⟩ := hrel
      have c5 : wr.cell? ⟨w.heap.size, 5, none⟩ = some (.slice t.ta t.ts.length t.tc) := cell_on (cell_of HN1.out 5) HBR.out
      by_cases hlt : i < t.ts.length
      · have hlt' : (i : Int) < (t.ts.length : Int) := by omega
        have hmx : (i : Int) + 1 ≤ 9223372036854775807 := by have h1 := HL.out.T.1; have h2 := HL.out.T.2.1; rw [List.length_map] at h1; omega
        obtain ⟨b1, o1, ea, r1⟩ := els_at StM.sz HL.out.T i hlt
        have HGX : Hid (StL W1 t.ts[i]) := HL.out.Ti _ (List.getElem_mem hlt)
        have HGY : Hid (∀ g ∈ t.ts[i].gs, GdW t g) := HGW.out _ (List.getElem_mem hlt)
        obtain ⟨X, eX⟩ : ∃ X, stsD t (t.ts.drop (i + 1)) = X := ⟨_, rfl⟩
        have HSA : Hid (ct (gdsD t (t.ts[i].gs.drop 0)) X = ANS) := by show _ = _; rw [← HSR.out, sts_c hlt, eX]; rfl
        have HXE : Hid (stsD t (t.ts.drop (i + 1)) = X) := eX
        obtain ⟨x, ex⟩ : ∃ x, t.ts[i] = x := ⟨_, rfl⟩
        rw [ex] at r1 HGX HGY HSA
        clear ex eX HSR
        rw [ea] at c5
        have HC5 : Hid (W1.cell? ⟨w.heap.size, 5, none⟩ = some (.slice (some ⟨b1, o1, none⟩) t.ts.length t.tc)) := by rw [← ea]; exact cell_of HN1.out 5
        clear ea
        have HX0 : Hid (W1.cell? ⟨b1, o1 + i, none⟩ = some (.slice x.a x.gs.length x.c)) := by have := r1 0 _ rfl; rw [Nat.mul_one, Nat.add_zero] at this; exact this
        clear r1
        go_wp2_with fail
        clear c5
        go_loopw [5] (fun q wv => ∃ (j : Nat), j ≤ x.gs.length ∧ q = .int .i64 j ∧ Hid (Below W1.heap.size W1 wv) ∧ Hid (ct (gdsD t (x.gs.drop j)) X = ANS)) (fun q _ => x.gs.length - (intOf q).toNat)
        case atStart => exact ⟨0, by omega, rfl, HBR, HSA⟩
        case round =>
          clear HBR HSA
          obtain ⟨j, hj, rfl, HBW, HJR⟩ := hrel
          have c5 := cell_on HC5.out HBW.out
          have x0 := cell_on HX0.out HBW.out
          by_cases hjl : j < x.gs.length
          · have hjl' : (j : Int) < (x.gs.length : Int) := by omega
            have hmy : (j : Int) + 1 ≤ 9223372036854775807 := by have h1 := HGX.out.1.1; have h2 := HGX.out.1.2.1; rw [List.length_map] at h1; omega
            obtain ⟨b3, o3, ea, r3⟩ := els_at GdM.sz HGX.out.1 j hjl
            have HGG : Hid (GdL W1 x.gs[j]) := HGX.out.2 _ (List.getElem_mem hjl)
            have HGD : Hid (GdW t x.gs[j]) := HGY.out _ (List.getElem_mem hjl)
            obtain ⟨Y, eY⟩ : ∃ Y, ct (gdsD t (x.gs.drop (j + 1))) X = Y := ⟨_, rfl⟩
            have HYE : Hid (ct (gdsD t (x.gs.drop (j + 1))) X = Y) := eY
            have HJA : Hid (ct (gdD t x.gs[j]) Y = ANS) := by show _ = _; rw [← HJR.out, gds_c hjl, ct_a, eY]
            obtain ⟨g, eg⟩ : ∃ g, x.gs[j] = g := ⟨_, rfl⟩
            rw [eg] at r3 HGG HGD HJA
            clear eg eY HJR
            rw [ea] at x0
            clear ea
            have HRG : Hid (wr.rangeAt b3 (o3 + j * 5) g.vals.toList) := rng_on r3 HBW.out
            have HZ : Hid ((wr.alloc (.cells #[.int .i64 0, .int .i64 0, .int .u16 0, .int .u16 0, .slice none 0 0] 68)).heap[wr.heap.size]? = some (.cells #[.int .i64 0, .int .i64 0, .int .u16 0, .int .u16 0, .slice none 0 0] 68 (0, 0))) := heap_new _ _
            have HWX : Hid (Below W1.heap.size W1 ((wr.alloc (.cells #[.int .i64 0, .int .i64 0, .int .u16 0, .int .u16 0, .slice none 0 0] 68)).setRow wr.heap.size g.vals)) := below2 HBW.out (below_row (below_new _ _) (Nat.le_refl _) _)
            have HNX : Hid (((wr.alloc (.cells #[.int .i64 0, .int .i64 0, .int .u16 0, .int .u16 0, .slice none 0 0] 68)).setRow wr.heap.size g.vals).heap[wr.heap.size]? = some (.cells g.vals 68 (0, 0))) := setRow_heap _ _ _ _ _ _ HZ.out
            clear r3
            go_upto_region 11 with (first | (refine wpList_load_mid rfl 68 (.tmp 38) rfl b3 (o3 + j * 5) rfl g.vals.toList _ HRG.out Tryz.underlying68 rfl (by show _ = some 5; exact size68') ?_; rw [Array.toArray_toList]) | (refine wpList_store_row rfl 68 (.tmp 6) (.tmp 39) rfl wr.heap.size g.vals rfl rfl 68 #[.int .i64 0, .int .i64 0, .int .u16 0, .int .u16 0, .slice none 0 0] HZ.out size68' rfl (allGd g) ?_))
            clear c5 x0 HZ HRG HBW
            generalize World.setRow _ _ _ = V at HNX HWX ⊢
            generalize wr.heap.size = G at HNX ⊢
            have HTB : Hid (V.heap[w.heap.size]? = some (.cells t.vals 26 (0, 0))) := (HWX.out.block _ (hp_lt HN1.out)).trans HN1.out
            have g0 : V.cell? ⟨G, 0, none⟩ = some (.int .i64 g.wh.f) := cell_of HNX.out 0
            have g1 : V.cell? ⟨G, 1, none⟩ = some (.int .i64 g.wh.t) := cell_of HNX.out 1
            have hSW : SpW t g.wh := HGD.out g.wh (by unfold gSp; exact List.mem_cons_self ..)
            have HSW := hid_of hSW
            have cS := rspan_sp t g.wh V (HL.out.on HWX.out) HSM.out hSW
            have HGE : Hid (gdD t g = if spD t g.wh == 0 then (if (readsN t.ds g.wh).1 == g.fd then (if (readsN t.ds g.wh).2 == g.rg then rwsD t g.rs else 193) else 193) else spD t g.wh) := rfl
            obtain ⟨E, eE⟩ : ∃ E, spD t g.wh = E := ⟨_, rfl⟩
            rw [eE] at cS HGE
            unfold Sp.vals at cS
            clear eE hSW
            go_wp2_with (refine wpList_load_row rfl 26 (.tmp 1) rfl w.heap.size rfl 26 t.vals (0, 0) _ HTB.out Tryz.underlying26 rfl size26' ?_)
            refine cS.mono ?_
            rintro e w5 ⟨rfl, hb5⟩
            have HB5 : Hid (Below V.heap.size V w5) := hb5
            clear cS hb5 g0 g1
            cases hE : (E != 0) with
            | true =>
              have HN : Hid (ANS = E) := by
                show _ = _
                rw [← HJA.out, HGE.out, if_neg (by simpa using hE), ct_n _ hE]
              go_wp2_with fail
              go_ret
              exact ⟨by rw [HN.out]; rfl, below2 HB1.out (below2 HWX.out HB5.out)⟩
            | false =>
              have HGE2 : Hid (gdD t g = if (readsN t.ds g.wh).1 == g.fd then (if (readsN t.ds g.wh).2 == g.rg then rwsD t g.rs else 193) else 193) := by show _ = _; rw [HGE.out, if_pos (by simpa using hE)]
              clear HGE
              have c4 : w5.cell? ⟨w.heap.size, 4, none⟩ = some (.slice t.da t.ds.length t.dc) := cell_on (cell_of HTB.out 4) HB5.out
              have HNX5 : Hid (w5.heap[G]? = some (.cells g.vals 68 (0, 0))) := (HB5.out.block _ (hp_lt HNX.out)).trans HNX.out
              have g0 : w5.cell? ⟨G, 0, none⟩ = some (.int .i64 g.wh.f) := cell_of HNX5.out 0
              have g1 : w5.cell? ⟨G, 1, none⟩ = some (.int .i64 g.wh.t) := cell_of HNX5.out 1
              have cR := rreads_sp t g.wh w5 (HL.out.on (below2 HWX.out HB5.out)) HSW.out
              obtain ⟨m1, em1⟩ : ∃ m, (readsN t.ds g.wh).1 = m := ⟨_, rfl⟩
              obtain ⟨m2, em2⟩ : ∃ m, (readsN t.ds g.wh).2 = m := ⟨_, rfl⟩
              rw [em1, em2] at cR HGE2
              unfold Sp.vals at cR
              clear em1 em2
              go_wp2_with fail
              refine cR.mono ?_
              rintro e w6 ⟨rfl, hb6⟩
              have HB6 : Hid (Below V.heap.size V w6) := below2 HB5.out hb6
              have HN6 : Hid (w6.heap[G]? = some (.cells g.vals 68 (0, 0))) := (HB6.out.block _ (hp_lt HNX.out)).trans HNX.out
              clear cR hb6 g0 g1 c4 hE HB5 HNX5
              have g2 : w6.cell? ⟨G, 2, none⟩ = some (.int .u16 g.fd) := cell_of HN6.out 2
              have g3 : w6.cell? ⟨G, 3, none⟩ = some (.int .u16 g.rg) := cell_of HN6.out 3
              cases h1 : (m1 != g.fd) with
              | true =>
                have HN : Hid (ANS = 193) := by show _ = _; rw [← HJA.out, HGE2.out, if_neg (by simpa using h1)]; rfl
                go_wp2_with fail
                go_ret
                exact ⟨by rw [HN.out]; rfl, below2 HB1.out (below2 HWX.out HB6.out)⟩
              | false =>
                cases h2 : (m2 != g.rg) with
                | true =>
                  have HN : Hid (ANS = 193) := by show _ = _; rw [← HJA.out, HGE2.out, if_pos (by simpa using h1), if_neg (by simpa using h2)]; rfl
                  go_wp2_with fail
                  go_ret
                  exact ⟨by rw [HN.out]; rfl, below2 HB1.out (below2 HWX.out HB6.out)⟩
                | false =>
                  have HRS : Hid (ct (rwsD t (g.rs.drop 0)) Y = ANS) := by show _ = _; rw [← HJA.out, HGE2.out, if_pos (by simpa using h1), if_pos (by simpa using h2)]; rfl
                  clear HGE2 HJA
                  go_upto_region 17 with fail
                  clear h1 h2 g2 g3
                  go_wp2_with fail
                  go_loopw [10] (fun q wv => ∃ (k : Nat), k ≤ g.rs.length ∧ q = .int .i64 k ∧ Hid (Below V.heap.size V wv) ∧ Hid (ct (rwsD t (g.rs.drop k)) Y = ANS)) (fun q _ => g.rs.length - (intOf q).toNat)
                  case atStart => exact ⟨0, by omega, rfl, HB6, HRS⟩
                  case round =>
                    clear HB6 HRS HN6
                    obtain ⟨k, hk, rfl, HBK, HKR⟩ := hrel
                    have g4 : wr.cell? ⟨G, 4, none⟩ = some (.slice g.a g.rs.length g.c) := cell_on (cell_of HNX.out 4) HBK.out
                    by_cases hkl : k < g.rs.length
                    · have hkl' : (k : Int) < (g.rs.length : Int) := by omega
                      have hmz : (k : Int) + 1 ≤ 9223372036854775807 := by have h1 := HGG.out.2.2.2.1.1; have h2 := HGG.out.2.2.2.1.2.1; rw [List.length_map] at h1; omega
                      obtain ⟨b5, o5, ea, r5⟩ := els_at RowM.sz HGG.out.2.2.2.1 k hkl
                      have hSX : ∀ y ∈ hasL g.rs[k], SpW t y := fun y hy => HGD.out y (by unfold gSp; exact List.mem_cons_of_mem _ (List.mem_flatten.2 ⟨_, List.mem_map.2 ⟨_, List.getElem_mem hkl, rfl⟩, hy⟩))
                      obtain ⟨Z, eZ⟩ : ∃ Z, ct (rwsD t (g.rs.drop (k + 1))) Y = Z := ⟨_, rfl⟩
                      have HZE : Hid (ct (rwsD t (g.rs.drop (k + 1))) Y = Z) := eZ
                      have HKA : Hid (ct (spsD t (hasL g.rs[k])) Z = ANS) := by show _ = _; rw [← HKR.out, rws_c hkl, ct_a, eZ]
                      obtain ⟨r, er⟩ : ∃ r, g.rs[k] = r := ⟨_, rfl⟩
                      rw [er] at r5 hSX HKA
                      clear er eZ HKR
                      have HFA : Hid (∀ v : World, Below wr.heap.size wr v → v.heap[w.heap.size]? = some (.cells t.vals 26 (0, 0))) := fun v hv => ((below2 HBK.out hv).block _ (hp_lt HTB.out)).trans HTB.out
                      have HFB : Hid (∀ v : World, Below wr.heap.size wr v → v.cell? ⟨G, 4, none⟩ = some (.slice (some ⟨b5, o5, none⟩) g.rs.length g.c)) := fun v hv => by rw [← ea]; exact cell_on (cell_of HNX.out 4) (below2 HBK.out hv)
                      have HFD : Hid (∀ v : World, Below wr.heap.size wr v → v.rangeAt b5 (o5 + k * 11) r.vals.toList) := fun v hv => rng_on r5 (below2 HWX.out (below2 HBK.out hv))
                      have cS := rrows_any t r wr.drew ((HL.out.on (below2 HWX.out HBK.out)).on ⟨rfl, rfl, rfl, Nat.le_refl _, fun _ _ => rfl⟩) HSM.out hSX
                      obtain ⟨F, eF⟩ : ∃ F, spsD t (hasL r) = F := ⟨_, rfl⟩
                      rw [eF] at cS HKA
                      clear eF hSX r5 ea
                      go_upto_region 20 with fail
                      clear g4
                      refine wp_region_held_drew (S := fun v => Below wr.heap.size wr v) (by kernel_rfl) ⟨rfl, rfl, rfl, Nat.le_refl _, fun _ _ => rfl⟩ (fun hHeld => ?_)
                      refine wpAnyH_take (i := 0) (v := .agg t.vals) rfl (by kernel_rfl) (by kernel_rfl) (by kernel_rfl) (fun _ _ _ h => h) (yl_row (by rfl) 26 (.tmp 1) rfl w.heap.size rfl 26 t.vals (0, 0) _ HFA.out Tryz.underlying26 rfl size26') (by assumption) ?_
                      try simp [Act.put]
                      refine wpAnyH_take (i := 1) (v := ?_) rfl (by kernel_rfl) (by kernel_rfl) (by kernel_rfl) (fun _ _ _ h => h) (Or.inl ⟨by rfl, ?_⟩) (by assumption) ?_
                      rotate_left
                      · (intro v hv; go_simp; try (with_reducible rfl))
                      try simp [Act.put]
                      refine wpAnyH_take (i := 2) (v := ?_) rfl (by kernel_rfl) (by kernel_rfl) (by kernel_rfl) (fun _ _ _ h => h) (Or.inl ⟨by rfl, ?_⟩) (by assumption) ?_
                      rotate_left
                      · (intro v hv; have hF := HFB.out v hv; go_simp; try (with_reducible rfl))
                      try simp [Act.put]
                      refine wpAnyH_take (i := 3) (v := ?_) rfl (by kernel_rfl) (by kernel_rfl) (by kernel_rfl) (fun _ _ _ h => h) (Or.inl ⟨by rfl, ?_⟩) (by assumption) ?_
                      rotate_left
                      · (intro v hv; go_simp; try (with_reducible rfl))
                      try simp [Act.put]
                      refine wpAnyH_take (i := 4) (v := ?_) rfl (by kernel_rfl) (by kernel_rfl) (by kernel_rfl) (fun _ _ _ h => h) (Or.inl ⟨by rfl, ?_⟩) (by assumption) ?_
                      rotate_left
                      · (intro v hv; go_simp; try (with_reducible rfl))
                      try simp [Act.put]
                      refine wpAnyH_take (i := 5) (v := .agg r.vals) rfl (by kernel_rfl) (by kernel_rfl) (by kernel_rfl) (fun _ _ _ h => h) (yl_mid (by rfl) 85 (.tmp 76) rfl b5 (o5 + k * 11) rfl r.vals _ HFD.out Tryz.underlying85 rfl (by show _ = some 11; exact size85')) (by assumption) ?_
                      try simp [Act.put]
                      refine wpAnyH_ready (rs := [6]) (by kernel_rfl) (by simp) ?_
                      refine AllReadyH.cons rfl (fun K hK => ?_) AllReadyH.nil
                      go_simp
                      refine cS.mono ?_
                      rintro e w7 ⟨rfl, hb7⟩
                      have hB7 : Below wr.heap.size wr w7 := ⟨hb7.os, hb7.tape, hb7.output, hb7.size, hb7.block⟩
                      have HB7 : Hid (Below V.heap.size V w7) := below2 HBK.out hB7
                      refine hK.out _ _ hB7 (fun hHeld => ?_)
                      clear hK K cS hb7 hB7
                      try simp [Act.put]
                      refine wpAnyH_take (i := 7) (v := ?_) rfl (by kernel_rfl) (by kernel_rfl) (by kernel_rfl) (fun _ _ _ h => h) (Or.inl ⟨by rfl, ?_⟩) (by assumption) ?_
                      rotate_left
                      · (intro v hv; go_simp; try (with_reducible rfl))
                      try simp [Act.put]
                      refine wpAnyH_done (by kernel_rfl) ?_ _
                      cases hF : (F != 0) with
                      | true =>
                        have HN : Hid (ANS = F) := by show _ = _; rw [← HKA.out, ct_n _ hF]
                        go_wp2_with fail
                        go_ret
                        exact ⟨by rw [HN.out]; rfl, below2 HB1.out (below2 HWX.out HB7.out)⟩
                      | false =>
                        have HN : Hid (ct (rwsD t (g.rs.drop (k + 1))) Y = ANS) := by show _ = _; rw [HZE.out, ← HKA.out, ct_z _ hF]
                        go_wp2_with fail
                        exact ⟨⟨k + 1, hkl, rfl, HB7, HN⟩, by simp only [intOf]; omega⟩
                    · obtain rfl : k = g.rs.length := by omega
                      have hnot : ¬ (g.rs.length : Int) < (g.rs.length : Int) := by omega
                      have HN : Hid (ct (gdsD t (x.gs.drop (j + 1))) X = ANS) := by
                        show _ = _
                        rw [HYE.out, ← HKR.out, List.drop_length]
                        rfl
                      go_wp2_with fail
                      exact ⟨⟨j + 1, hjl, rfl, below2 HWX.out HBK.out, HN⟩, by simp only [intOf]; omega⟩
          · obtain rfl : j = x.gs.length := by omega
            have hnot : ¬ (x.gs.length : Int) < (x.gs.length : Int) := by omega
            have HN : Hid (stsD t (t.ts.drop (i + 1)) = ANS) := by
              show _ = _
              rw [HXE.out, ← HJR.out, List.drop_length]
              rfl
            go_wp2_with fail
            exact ⟨⟨i + 1, hlt, rfl, HBW, HN⟩, by simp only [intOf]; omega⟩
      · obtain rfl : i = t.ts.length := by omega
        have hnot : ¬ (t.ts.length : Int) < (t.ts.length : Int) := by omega
        have HN : Hid (ANS = 0) := by
          show _ = _
          rw [← HSR.out, List.drop_length]; rfl
        go_wp2_with fail
        go_ret
        exact ⟨by rw [HN.out]; rfl, below2 HB1.out HBR.out⟩
end Go.Proofs.YteedmmljahgpjaaGreatDoor

/-
  Rows of a table that may be: their lengths and actions.
-/
namespace Go.Proofs.YteedmmljahgpjaaGreatDoor
open Go.RowKit
set_option linter.unusedVariables false
set_option linter.unusedSimpArgs false
theorem rowsR_all (sl : Int) (nr ns : Nat) : ∀ l : List RowM, rowsR sl nr ns l = true → ∀ r ∈ l, rowB sl nr ns r = true
  | [], _ => fun r hr => by cases hr
  | x :: l, h => fun r hr => by
    simp only [rowsR, Bool.and_eq_true] at h
    rcases List.mem_cons.1 hr with rfl | hr
    · exact h.1.1
    · exact rowsR_all sl nr ns l h.2 r hr
theorem gdsN_rows (sl : Int) (nr ns : Nat) : ∀ (l : List GdM) (p q : Int), gdsN sl nr ns p l = some q → ∀ g ∈ l, ∀ r ∈ g.rs, rowB sl nr ns r = true
  | [], p, q, h => fun x hx => by cases hx
  | y :: l, p, q, h => by
    unfold gdsN at h
    obtain ⟨r, hr, h⟩ := Option.bind_eq_some_iff.1 h
    unfold gdN at hr
    split at hr
    · rename_i hb
      unfold rowsB at hb
      rw [Bool.and_eq_true] at hb
      intro g hg
      rcases List.mem_cons.1 hg with rfl | hg
      · exact rowsR_all sl nr ns _ hb.2
      · exact gdsN_rows sl nr ns l r q h g hg
    · cases hr
theorem stsN_rows (sl : Int) (nr ns : Nat) : ∀ (l : List StM) (p q : Int), stsN sl nr ns p l = some q → ∀ s ∈ l, ∀ g ∈ s.gs, ∀ r ∈ g.rs, rowB sl nr ns r = true
  | [], p, q, h => fun x hx => by cases hx
  | y :: l, p, q, h => by
    unfold stsN at h
    split at h
    · cases h
    · obtain ⟨r, hr, h⟩ := Option.bind_eq_some_iff.1 h
      intro s hs
      rcases List.mem_cons.1 hs with rfl | hs
      · exact gdsN_rows sl nr ns _ p r hr
      · exact stsN_rows sl nr ns l r q h s hs
theorem form_rows {t : TbM} (h : formB t = true) : ∀ s ∈ t.ts, ∀ g ∈ s.gs, ∀ r ∈ g.rs, rowB t.sl t.rs.length t.ts.length r = true := by
  unfold formB at h
  rw [Bool.and_eq_true, Bool.and_eq_true] at h
  obtain ⟨_, h3⟩ := h
  unfold endB at h3
  split at h3
  · rename_i q hq
    exact stsN_rows _ _ _ _ 0 q hq
  · cases h3
/-- A span that lies in the code, or none. -/
def SpZ (x : Sp) : Prop := 0 ≤ x.f ∧ x.f ≤ x.t ∧ x.t ≤ 4096
structure RowZ (r : RowM) : Prop where
  a : SpZ r.sd
  b : SpZ r.qt
  c : SpZ r.pr
  d : SpZ r.vl
  s : lenL (hasL r) = r.sd.len + r.qt.len + r.pr.len + r.vl.len
  k : actI r = if r.k ≤ 3 then 1 else 0
theorem part_z {t : TbM} {b : Bool} {x : Sp} (hm : t.ds.length ≤ 4096) (h1 : partB b x = true) (h2 : b = true → SpW t x) : SpZ x ∧ (b = false → x.len = 0) := by
  cases b with
  | true =>
    have := h2 rfl
    unfold SpW at this
    exact ⟨⟨by omega, by omega, by omega⟩, fun e => by cases e⟩
  | false =>
    unfold partB noneB at h1
    simp at h1
    refine ⟨⟨by omega, by omega, by omega⟩, fun _ => ?_⟩
    unfold Sp.len
    omega
theorem row_z {t : TbM} {r : RowM} (hb : rowB t.sl t.rs.length t.ts.length r = true) (hm : t.ds.length ≤ 4096) (hs : ∀ x ∈ hasL r, SpW t x) : RowZ r := by
  unfold rowB at hb
  simp only [Bool.and_eq_true] at hb
  obtain ⟨⟨_, h2⟩, h3⟩ := hb
  have hk : actI r = if r.k ≤ 3 then 1 else 0 := by
    unfold idxN withinB at h2
    unfold actI
    by_cases e1 : r.k = 1
    · rw [e1]; rfl
    by_cases e2 : r.k = 2
    · rw [e2]; rfl
    by_cases e3 : r.k = 3
    · rw [e3]; rfl
    by_cases e4 : r.k = 4
    · rw [e4]; rfl
    by_cases e5 : r.k = 5
    · rw [e5]; rfl
    by_cases e6 : r.k = 6
    · rw [e6]; rfl
    · simp [e1, e2, e3, e4, e5, e6] at h2
      omega
  obtain ⟨p, ep⟩ : ∃ p, partsN r.k r.o = p := ⟨_, rfl⟩
  have q0 := rowPB_s r 0 (by omega)
  have q1 := rowPB_s r 1 (by omega)
  have q2 := rowPB_s r 2 (by omega)
  have q3 := rowPB_s r 3 (by omega)
  have z0 : rowPB r 0 = true := rfl
  simp only [Nat.zero_add, Nat.reduceAdd] at q0 q1 q2 q3
  rw [q3, Bool.and_eq_true] at h3
  have h32 := h3.1
  rw [q2, Bool.and_eq_true] at h32
  have h31 := h32.1
  rw [q1, Bool.and_eq_true] at h31
  have h30 := h31.1
  rw [q0, Bool.and_eq_true] at h30
  have p0 := h30.2
  have p1 := h31.2
  have p2 := h32.2
  have p3 := h3.2
  rw [ep] at p0 p1 p2 p3
  have hL : hasL r = (if p.a then [r.sd] else []) ++ ((if p.b then [r.qt] else []) ++ ((if p.c then [r.pr] else []) ++ (if p.d then [r.vl] else []))) := by
    rw [← hasR_0, hasR_s r 0 (by omega), hasR_s r 1 (by omega), hasR_s r 2 (by omega), hasR_s r 3 (by omega), hasR_4, ep, List.append_nil]
    rfl
  obtain ⟨a1, a2⟩ := part_z (t := t) (b := p.a) (x := r.sd) hm p0 (fun e => hs _ (by rw [hL, e]; simp))
  obtain ⟨b1, b2⟩ := part_z (t := t) (b := p.b) (x := r.qt) hm p1 (fun e => hs _ (by rw [hL, e]; simp))
  obtain ⟨c1, c2⟩ := part_z (t := t) (b := p.c) (x := r.pr) hm p2 (fun e => hs _ (by rw [hL, e]; simp))
  obtain ⟨d1, d2⟩ := part_z (t := t) (b := p.d) (x := r.vl) hm p3 (fun e => hs _ (by rw [hL, e]; simp))
  refine ⟨a1, b1, c1, d1, ?_, hk⟩
  rw [hL]
  cases ha : p.a <;> cases hb' : p.b <;> cases hc : p.c <;> cases hd : p.d <;> simp [lenL, ha, hb', hc, hd] at a2 b2 c2 d2 ⊢ <;> omega
theorem bndL_acts : ∀ (l : List GdM) (a b c : Int), 0 ≤ c → (bndL (a, b, c) l).1 = (bndL (a, b, 0) l).1 ∧ (bndL (a, b, c) l).2.1 = (bndL (a, b, 0) l).2.1 ∧ (bndL (a, b, c) l).2.2 = mxN c (bndL (a, b, 0) l).2.2
  | [], a, b, c, h => ⟨rfl, rfl, by simp only [bndL]; unfold mxN; split <;> omega⟩
  | g :: l, a, b, c, h => by
    have hg := actsN_le g.rs
    simp only [bndL]
    have h0 : mxN 0 (actsN g.rs) = actsN g.rs := by unfold mxN; split <;> omega
    have h1 := bndL_acts l (a + g.wh.len) (mxN b (stepsN g.rs)) (mxN c (actsN g.rs)) (by unfold mxN; split <;> omega)
    have h2 := bndL_acts l (a + g.wh.len) (mxN b (stepsN g.rs)) (mxN 0 (actsN g.rs)) (by rw [h0]; omega)
    refine ⟨h1.1.trans h2.1.symm, h1.2.1.trans h2.2.1.symm, ?_⟩
    rw [h1.2.2, h2.2.2, h0]
    unfold mxN
    repeat' split
    all_goals omega
end Go.Proofs.YteedmmljahgpjaaGreatDoor
