import Derived.Test.YteedmmljahgpjabGreatDoorM30
import Derived.Test.YteedmmljahgpjabGreatDoorM11
import Derived.Test.YteedmmljahgpjabGreatDoorM15
import Derived.Test.YteedmmljahgpjabGreatDoorM20
import Derived.Test.YteedmmljahgpjabGreatDoorM29
import Derived.Test.YteedmmljahgpjabGreatDoorM19
/-
  The document's Check, of any table.
-/
namespace Go.Proofs.YteedmmljahgpjabGreatDoor
open Go.RowKit
set_option linter.unusedVariables false
set_option linter.unusedSimpArgs false
def ct (a b : Int) : Int := if a == 0 then b else a
theorem ct_n {a : Int} (b : Int) (h : (a != 0) = true) : ct a b = a := by unfold ct; rw [if_neg (by simpa using h)]
theorem ct_z {a : Int} (b : Int) (h : (a != 0) = false) : ct a b = b := by unfold ct; rw [if_pos (by simpa using h)]
theorem ct_a (a b c : Int) : ct (ct a b) c = ct a (ct b c) := by
  unfold ct
  cases e : (a == 0) with
  | true => simp
  | false => simp [e]
theorem sts_c {t : TbM} {ts : List StM} {i : Nat} (hi : i < ts.length) : stsD t (ts.drop i) = ct (gdsD t ts[i].gs) (stsD t (ts.drop (i + 1))) := by rw [List.drop_eq_getElem_cons hi]; rfl
theorem gds_c {t : TbM} {gs : List GdM} {i : Nat} (hi : i < gs.length) : gdsD t (gs.drop i) = ct (gdD t gs[i]) (gdsD t (gs.drop (i + 1))) := by rw [List.drop_eq_getElem_cons hi]; rfl
theorem rws_c {t : TbM} {rs : List RowM} {i : Nat} (hi : i < rs.length) : rwsD t (rs.drop i) = ct (spsD t (hasL rs[i])) (rwsD t (rs.drop (i + 1))) := by rw [List.drop_eq_getElem_cons hi]; rfl
theorem reads_w {t : TbM} {x : Sp} (hx : SpW t x) : readsN t.ds x = rdL t.ds (x.t.toNat - x.f.toNat) x.f.toNat (0, 0) := by
  obtain ⟨h0, h1, h2⟩ := hx
  unfold readsN
  rw [show mnL x.t t.ds.length = x.t by unfold mnL; split <;> omega, show mx0 x.f = x.f by unfold mx0; split <;> omega]
theorem rreads_sp (t : TbM) (x : Sp) (w : World) (hl : TbL w t) (hx : SpW t x) : Calls Tryz.prog 18 #[.slice t.da t.ds.length t.dc, .agg x.vals] w fun e w' => e = .returned (.tuple #[.int .u16 (readsN t.ds x).1, .int .u16 (readsN t.ds x).2]) ∧ Below w.heap.size w w' := by
  rw [reads_w hx]
  obtain ⟨f, b⟩ := x
  obtain ⟨h0, h1, h2⟩ := hx
  simp only at h0 h1 h2
  obtain ⟨n, rfl⟩ := Int.eq_ofNat_of_zero_le h0
  exact rreads_any t n b w hl h2
set_option maxRecDepth 100000 in
set_option maxHeartbeats 4000000 in
theorem rcheck_any (t : TbM) (w : World) (hl : TbL w t) : Calls Tryz.prog 6 #[.agg t.vals] w fun e w' => e = .returned (.int .i64 (checkE t)) ∧ Below w.heap.size w w' := by
  have hb1 := below_new w (.cells t.vals 27)
  have hn1 := heap_new w (.cells t.vals 27)
  obtain ⟨W1, e1⟩ : ∃ W, w.alloc (.cells t.vals 27) = W := ⟨_, rfl⟩
  have E1 : Hid (w.alloc (.cells t.vals 27) = W1) := e1
  rw [e1] at hb1 hn1
  have HB1 : Hid (Below w.heap.size w W1) := hb1
  have HN1 : Hid (W1.heap[w.heap.size]? = some (.cells t.vals 27 (0, 0))) := hn1
  have HL : Hid (TbL W1 t) := hl.on hb1
  have cN := formed_any t W1 (hl.on hb1)
  clear hb1 e1 hl hn1
  rw [checkD_eq]
  obtain ⟨ANS, eA⟩ : ∃ q, (if formB t then stsD t t.ts else 190) = q := ⟨_, rfl⟩
  have HA : Hid ((if formB t then stsD t t.ts else 190) = ANS) := eA
  rw [eA]
  clear eA
  have HFW : Hid (formB t = true → (t.rs.length ≤ 12 ∧ t.cs.length ≤ 1024 ∧ t.ds.length ≤ 4096) ∧ ∀ s ∈ t.ts, ∀ g ∈ s.gs, GdW t g) := form_w
  obtain ⟨fb, efb⟩ : ∃ b, formB t = b := ⟨_, rfl⟩
  rw [efb] at cN HA HFW
  clear efb
  go_enter Tryz.func6, Tryz.ntmps6
  go_upto_region 1 with fail
  rw [E1.out]
  clear E1
  go_wp2_with (refine wpList_load_row rfl 27 (.tmp 1) rfl w.heap.size rfl 27 t.vals (0, 0) _ HN1.out Tryz.underlying27 rfl size26' ?_)
  refine cN.mono ?_
  rintro e w2 ⟨rfl, hb2⟩
  have HB2 : Hid (Below W1.heap.size W1 w2) := hb2
  clear hb2 cN
  cases fb with
  | false =>
    have HN : Hid (ANS = 190) := HA.out.symm
    go_wp2_with fail
    go_ret
    exact ⟨by rw [HN.out]; rfl, below2 HB1.out HB2.out⟩
  | true =>
    have HX : Hid (stsD t (t.ts.drop 0) = ANS) := HA.out
    have HSM : Hid (t.ds.length ≤ 4096) := (HFW.out rfl).1.2.2
    have HGW : Hid (∀ s ∈ t.ts, ∀ g ∈ s.gs, GdW t g) := (HFW.out rfl).2
    clear HA HFW
    go_wp2_with fail
    go_loopw [4] (fun q wr => ∃ (i : Nat), i ≤ t.ts.length ∧ q = .int .i64 i ∧ Hid (Below W1.heap.size W1 wr) ∧ Hid (stsD t (t.ts.drop i) = ANS)) (fun q _ => t.ts.length - (intOf q).toNat)
    case atStart => exact ⟨0, by omega, rfl, HB2, HX⟩
    case round =>
      clear HB2 HX
      obtain ⟨i, hi, rfl, HBR, HSR⟩ := hrel
      have c5 : wr.cell? ⟨w.heap.size, 5, none⟩ = some (.slice t.ta t.ts.length t.tc) := cell_on (cell_of HN1.out 5) HBR.out
      by_cases hlt : i < t.ts.length
      · have hlt' : (i : Int) < (t.ts.length : Int) := by omega
        have hmx : (i : Int) + 1 ≤ 9223372036854775807 := by have h1 := HL.out.T.1; have h2 := HL.out.T.2.1; rw [List.length_map] at h1; omega
        obtain ⟨b1, o1, ea, r1⟩ := els_at StM.sz HL.out.T i hlt
        have HGX : Hid (StL W1 t.ts[i]) := HL.out.Ti _ (List.getElem_mem hlt)
        have HGY : Hid (∀ g ∈ t.ts[i].gs, GdW t g) := HGW.out _ (List.getElem_mem hlt)
        obtain ⟨X, eX⟩ : ∃ X, stsD t (t.ts.drop (i + 1)) = X := ⟨_, rfl⟩
        have HSA : Hid (ct (gdsD t (t.ts[i].gs.drop 0)) X = ANS) := by show _ = _; rw [← HSR.out, sts_c hlt, eX]; rfl
        have HXE : Hid (stsD t (t.ts.drop (i + 1)) = X) := eX
        obtain ⟨x, ex⟩ : ∃ x, t.ts[i] = x := ⟨_, rfl⟩
        rw [ex] at r1 HGX HGY HSA
        clear ex eX HSR
        rw [ea] at c5
        have HC5 : Hid (W1.cell? ⟨w.heap.size, 5, none⟩ = some (.slice (some ⟨b1, o1, none⟩) t.ts.length t.tc)) := by rw [← ea]; exact cell_of HN1.out 5
        clear ea
        have HX0 : Hid (W1.cell? ⟨b1, o1 + i, none⟩ = some (.slice x.a x.gs.length x.c)) := by have := r1 0 _ rfl; rw [Nat.mul_one, Nat.add_zero] at this; exact this
        clear r1
        go_wp2_with fail
        clear c5
        go_loopw [5] (fun q wv => ∃ (j : Nat), j ≤ x.gs.length ∧ q = .int .i64 j ∧ Hid (Below W1.heap.size W1 wv) ∧ Hid (ct (gdsD t (x.gs.drop j)) X = ANS)) (fun q _ => x.gs.length - (intOf q).toNat)
        case atStart => exact ⟨0, by omega, rfl, HBR, HSA⟩
        case round =>
          clear HBR HSA
          obtain ⟨j, hj, rfl, HBW, HJR⟩ := hrel
          have c5 := cell_on HC5.out HBW.out
          have x0 := cell_on HX0.out HBW.out
          by_cases hjl : j < x.gs.length
          · have hjl' : (j : Int) < (x.gs.length : Int) := by omega
            have hmy : (j : Int) + 1 ≤ 9223372036854775807 := by have h1 := HGX.out.1.1; have h2 := HGX.out.1.2.1; rw [List.length_map] at h1; omega
            obtain ⟨b3, o3, ea, r3⟩ := els_at GdM.sz HGX.out.1 j hjl
            have HGG : Hid (GdL W1 x.gs[j]) := HGX.out.2 _ (List.getElem_mem hjl)
            have HGD : Hid (GdW t x.gs[j]) := HGY.out _ (List.getElem_mem hjl)
            obtain ⟨Y, eY⟩ : ∃ Y, ct (gdsD t (x.gs.drop (j + 1))) X = Y := ⟨_, rfl⟩
            have HYE : Hid (ct (gdsD t (x.gs.drop (j + 1))) X = Y) := eY
            have HJA : Hid (ct (gdD t x.gs[j]) Y = ANS) := by show _ = _; rw [← HJR.out, gds_c hjl, ct_a, eY]
            obtain ⟨g, eg⟩ : ∃ g, x.gs[j] = g := ⟨_, rfl⟩
            rw [eg] at r3 HGG HGD HJA
            clear eg eY HJR
            rw [ea] at x0
            clear ea
            have HRG : Hid (wr.rangeAt b3 (o3 + j * 5) g.vals.toList) := rng_on r3 HBW.out
            have HZ : Hid ((wr.alloc (.cells #[.int .i64 0, .int .i64 0, .int .u16 0, .int .u16 0, .slice none 0 0] 49)).heap[wr.heap.size]? = some (.cells #[.int .i64 0, .int .i64 0, .int .u16 0, .int .u16 0, .slice none 0 0] 49 (0, 0))) := heap_new _ _
            have HWX : Hid (Below W1.heap.size W1 ((wr.alloc (.cells #[.int .i64 0, .int .i64 0, .int .u16 0, .int .u16 0, .slice none 0 0] 49)).setRow wr.heap.size g.vals)) := below2 HBW.out (below_row (below_new _ _) (Nat.le_refl _) _)
            have HNX : Hid (((wr.alloc (.cells #[.int .i64 0, .int .i64 0, .int .u16 0, .int .u16 0, .slice none 0 0] 49)).setRow wr.heap.size g.vals).heap[wr.heap.size]? = some (.cells g.vals 49 (0, 0))) := setRow_heap _ _ _ _ _ _ HZ.out
            clear r3
            go_upto_region 11 with (first | (refine wpList_load_mid rfl 49 (.tmp 38) rfl b3 (o3 + j * 5) rfl g.vals.toList _ HRG.out Tryz.underlying49 rfl (by show _ = some 5; exact size68') ?_; rw [Array.toArray_toList]) | (refine wpList_store_row rfl 49 (.tmp 6) (.tmp 39) rfl wr.heap.size g.vals rfl rfl 49 #[.int .i64 0, .int .i64 0, .int .u16 0, .int .u16 0, .slice none 0 0] HZ.out size68' rfl (allGd g) ?_))
            clear c5 x0 HZ HRG HBW
            generalize World.setRow _ _ _ = V at HNX HWX ⊢
            generalize wr.heap.size = G at HNX ⊢
            have HTB : Hid (V.heap[w.heap.size]? = some (.cells t.vals 27 (0, 0))) := (HWX.out.block _ (hp_lt HN1.out)).trans HN1.out
            have g0 : V.cell? ⟨G, 0, none⟩ = some (.int .i64 g.wh.f) := cell_of HNX.out 0
            have g1 : V.cell? ⟨G, 1, none⟩ = some (.int .i64 g.wh.t) := cell_of HNX.out 1
            have hSW : SpW t g.wh := HGD.out g.wh (by unfold gSp; exact List.mem_cons_self ..)
            have HSW := hid_of hSW
            have cS := rspan_sp t g.wh V (HL.out.on HWX.out) HSM.out hSW
            have HGE : Hid (gdD t g = if spD t g.wh == 0 then (if (readsN t.ds g.wh).1 == g.fd then (if (readsN t.ds g.wh).2 == g.rg then rwsD t g.rs else 193) else 193) else spD t g.wh) := rfl
            obtain ⟨E, eE⟩ : ∃ E, spD t g.wh = E := ⟨_, rfl⟩
            rw [eE] at cS HGE
            unfold Sp.vals at cS
            clear eE hSW
            go_wp2_with (refine wpList_load_row rfl 27 (.tmp 1) rfl w.heap.size rfl 27 t.vals (0, 0) _ HTB.out Tryz.underlying27 rfl size26' ?_)
            refine cS.mono ?_
            rintro e w5 ⟨rfl, hb5⟩
            have HB5 : Hid (Below V.heap.size V w5) := hb5
            clear cS hb5 g0 g1
            cases hE : (E != 0) with
            | true =>
              have HN : Hid (ANS = E) := by
                show _ = _
                rw [← HJA.out, HGE.out, if_neg (by simpa using hE), ct_n _ hE]
              go_wp2_with fail
              go_ret
              exact ⟨by rw [HN.out]; rfl, below2 HB1.out (below2 HWX.out HB5.out)⟩
            | false =>
              have HGE2 : Hid (gdD t g = if (readsN t.ds g.wh).1 == g.fd then (if (readsN t.ds g.wh).2 == g.rg then rwsD t g.rs else 193) else 193) := by show _ = _; rw [HGE.out, if_pos (by simpa using hE)]
              clear HGE
              have c4 : w5.cell? ⟨w.heap.size, 4, none⟩ = some (.slice t.da t.ds.length t.dc) := cell_on (cell_of HTB.out 4) HB5.out
              have HNX5 : Hid (w5.heap[G]? = some (.cells g.vals 49 (0, 0))) := (HB5.out.block _ (hp_lt HNX.out)).trans HNX.out
              have g0 : w5.cell? ⟨G, 0, none⟩ = some (.int .i64 g.wh.f) := cell_of HNX5.out 0
              have g1 : w5.cell? ⟨G, 1, none⟩ = some (.int .i64 g.wh.t) := cell_of HNX5.out 1
              have cR := rreads_sp t g.wh w5 (HL.out.on (below2 HWX.out HB5.out)) HSW.out
              obtain ⟨m1, em1⟩ : ∃ m, (readsN t.ds g.wh).1 = m := ⟨_, rfl⟩
              obtain ⟨m2, em2⟩ : ∃ m, (readsN t.ds g.wh).2 = m := ⟨_, rfl⟩
              rw [em1, em2] at cR HGE2
              unfold Sp.vals at cR
              clear em1 em2
              go_wp2_with fail
              refine cR.mono ?_
              rintro e w6 ⟨rfl, hb6⟩
              have HB6 : Hid (Below V.heap.size V w6) := below2 HB5.out hb6
              have HN6 : Hid (w6.heap[G]? = some (.cells g.vals 49 (0, 0))) := (HB6.out.block _ (hp_lt HNX.out)).trans HNX.out
              clear cR hb6 g0 g1 c4 hE HB5 HNX5
              have g2 : w6.cell? ⟨G, 2, none⟩ = some (.int .u16 g.fd) := cell_of HN6.out 2
              have g3 : w6.cell? ⟨G, 3, none⟩ = some (.int .u16 g.rg) := cell_of HN6.out 3
              cases h1 : (m1 != g.fd) with
              | true =>
                have HN : Hid (ANS = 193) := by show _ = _; rw [← HJA.out, HGE2.out, if_neg (by simpa using h1)]; rfl
                go_wp2_with fail
                go_ret
                exact ⟨by rw [HN.out]; rfl, below2 HB1.out (below2 HWX.out HB6.out)⟩
              | false =>
                cases h2 : (m2 != g.rg) with
                | true =>
                  have HN : Hid (ANS = 193) := by show _ = _; rw [← HJA.out, HGE2.out, if_pos (by simpa using h1), if_neg (by simpa using h2)]; rfl
                  go_wp2_with fail
                  go_ret
                  exact ⟨by rw [HN.out]; rfl, below2 HB1.out (below2 HWX.out HB6.out)⟩
                | false =>
                  have HRS : Hid (ct (rwsD t (g.rs.drop 0)) Y = ANS) := by show _ = _; rw [← HJA.out, HGE2.out, if_pos (by simpa using h1), if_pos (by simpa using h2)]; rfl
                  clear HGE2 HJA
                  go_upto_region 17 with fail
                  clear h1 h2 g2 g3
                  go_wp2_with fail
                  go_loopw [10] (fun q wv => ∃ (k : Nat), k ≤ g.rs.length ∧ q = .int .i64 k ∧ Hid (Below V.heap.size V wv) ∧ Hid (ct (rwsD t (g.rs.drop k)) Y = ANS)) (fun q _ => g.rs.length - (intOf q).toNat)
                  case atStart => exact ⟨0, by omega, rfl, HB6, HRS⟩
                  case round =>
                    clear HB6 HRS HN6
                    obtain ⟨k, hk, rfl, HBK, HKR⟩ := hrel
                    have g4 : wr.cell? ⟨G, 4, none⟩ = some (.slice g.a g.rs.length g.c) := cell_on (cell_of HNX.out 4) HBK.out
                    by_cases hkl : k < g.rs.length
                    · have hkl' : (k : Int) < (g.rs.length : Int) := by omega
                      have hmz : (k : Int) + 1 ≤ 9223372036854775807 := by have h1 := HGG.out.2.2.2.1.1; have h2 := HGG.out.2.2.2.1.2.1; rw [List.length_map] at h1; omega
                      obtain ⟨b5, o5, ea, r5⟩ := els_at RowM.sz HGG.out.2.2.2.1 k hkl
                      have hSX : ∀ y ∈ hasL g.rs[k], SpW t y := fun y hy => HGD.out y (by unfold gSp; exact List.mem_cons_of_mem _ (List.mem_flatten.2 ⟨_, List.mem_map.2 ⟨_, List.getElem_mem hkl, rfl⟩, hy⟩))
                      obtain ⟨Z, eZ⟩ : ∃ Z, ct (rwsD t (g.rs.drop (k + 1))) Y = Z := ⟨_, rfl⟩
                      have HZE : Hid (ct (rwsD t (g.rs.drop (k + 1))) Y = Z) := eZ
                      have HKA : Hid (ct (spsD t (hasL g.rs[k])) Z = ANS) := by show _ = _; rw [← HKR.out, rws_c hkl, ct_a, eZ]
                      obtain ⟨r, er⟩ : ∃ r, g.rs[k] = r := ⟨_, rfl⟩
                      rw [er] at r5 hSX HKA
                      clear er eZ HKR
                      have HFA : Hid (∀ v : World, Below wr.heap.size wr v → v.heap[w.heap.size]? = some (.cells t.vals 27 (0, 0))) := fun v hv => ((below2 HBK.out hv).block _ (hp_lt HTB.out)).trans HTB.out
                      have HFB : Hid (∀ v : World, Below wr.heap.size wr v → v.cell? ⟨G, 4, none⟩ = some (.slice (some ⟨b5, o5, none⟩) g.rs.length g.c)) := fun v hv => by rw [← ea]; exact cell_on (cell_of HNX.out 4) (below2 HBK.out hv)
                      have HFD : Hid (∀ v : World, Below wr.heap.size wr v → v.rangeAt b5 (o5 + k * 11) r.vals.toList) := fun v hv => rng_on r5 (below2 HWX.out (below2 HBK.out hv))
                      have cS := rrows_any t r wr.drew ((HL.out.on (below2 HWX.out HBK.out)).on ⟨rfl, rfl, rfl, Nat.le_refl _, fun _ _ => rfl⟩) HSM.out hSX
                      obtain ⟨F, eF⟩ : ∃ F, spsD t (hasL r) = F := ⟨_, rfl⟩
                      rw [eF] at cS HKA
                      clear eF hSX r5 ea
                      go_upto_region 20 with fail
                      clear g4
                      refine wp_region_held_drew (S := fun v => Below wr.heap.size wr v) (by kernel_rfl) ⟨rfl, rfl, rfl, Nat.le_refl _, fun _ _ => rfl⟩ (fun hHeld => ?_)
                      refine wpAnyH_take (i := 0) (v := .agg t.vals) rfl (by kernel_rfl) (by kernel_rfl) (by kernel_rfl) (fun _ _ _ h => h) (yl_row (by rfl) 27 (.tmp 1) rfl w.heap.size rfl 27 t.vals (0, 0) _ HFA.out Tryz.underlying27 rfl size26') (by assumption) ?_
                      try simp [Act.put]
                      refine wpAnyH_take (i := 1) (v := ?_) rfl (by kernel_rfl) (by kernel_rfl) (by kernel_rfl) (fun _ _ _ h => h) (Or.inl ⟨by rfl, ?_⟩) (by assumption) ?_
                      rotate_left
                      · (intro v hv; go_simp; try (with_reducible rfl))
                      try simp [Act.put]
                      refine wpAnyH_take (i := 2) (v := ?_) rfl (by kernel_rfl) (by kernel_rfl) (by kernel_rfl) (fun _ _ _ h => h) (Or.inl ⟨by rfl, ?_⟩) (by assumption) ?_
                      rotate_left
                      · (intro v hv; have hF := HFB.out v hv; go_simp; try (with_reducible rfl))
                      try simp [Act.put]
                      refine wpAnyH_take (i := 3) (v := ?_) rfl (by kernel_rfl) (by kernel_rfl) (by kernel_rfl) (fun _ _ _ h => h) (Or.inl ⟨by rfl, ?_⟩) (by assumption) ?_
                      rotate_left
                      · (intro v hv; go_simp; try (with_reducible rfl))
                      try simp [Act.put]
                      refine wpAnyH_take (i := 4) (v := ?_) rfl (by kernel_rfl) (by kernel_rfl) (by kernel_rfl) (fun _ _ _ h => h) (Or.inl ⟨by rfl, ?_⟩) (by assumption) ?_
                      rotate_left
                      · (intro v hv; go_simp; try (with_reducible rfl))
                      try simp [Act.put]
                      refine wpAnyH_take (i := 5) (v := .agg r.vals) rfl (by kernel_rfl) (by kernel_rfl) (by kernel_rfl) (fun _ _ _ h => h) (yl_mid (by rfl) 66 (.tmp 76) rfl b5 (o5 + k * 11) rfl r.vals _ HFD.out Tryz.underlying66 rfl (by show _ = some 11; exact size85')) (by assumption) ?_
                      try simp [Act.put]
                      refine wpAnyH_ready (rs := [6]) (by kernel_rfl) (by simp) ?_
                      refine AllReadyH.cons rfl (fun K hK => ?_) AllReadyH.nil
                      go_simp
                      refine cS.mono ?_
                      rintro e w7 ⟨rfl, hb7⟩
                      have hB7 : Below wr.heap.size wr w7 := ⟨hb7.os, hb7.tape, hb7.output, hb7.size, hb7.block⟩
                      have HB7 : Hid (Below V.heap.size V w7) := below2 HBK.out hB7
                      refine hK.out _ _ hB7 (fun hHeld => ?_)
                      clear hK K cS hb7 hB7
                      try simp [Act.put]
                      refine wpAnyH_take (i := 7) (v := ?_) rfl (by kernel_rfl) (by kernel_rfl) (by kernel_rfl) (fun _ _ _ h => h) (Or.inl ⟨by rfl, ?_⟩) (by assumption) ?_
                      rotate_left
                      · (intro v hv; go_simp; try (with_reducible rfl))
                      try simp [Act.put]
                      refine wpAnyH_done (by kernel_rfl) ?_ _
                      cases hF : (F != 0) with
                      | true =>
                        have HN : Hid (ANS = F) := by show _ = _; rw [← HKA.out, ct_n _ hF]
                        go_wp2_with fail
                        go_ret
                        exact ⟨by rw [HN.out]; rfl, below2 HB1.out (below2 HWX.out HB7.out)⟩
                      | false =>
                        have HN : Hid (ct (rwsD t (g.rs.drop (k + 1))) Y = ANS) := by show _ = _; rw [HZE.out, ← HKA.out, ct_z _ hF]
                        go_wp2_with fail
                        exact ⟨⟨k + 1, hkl, rfl, HB7, HN⟩, by simp only [intOf]; omega⟩
                    · obtain rfl : k = g.rs.length := by omega
                      have hnot : ¬ (g.rs.length : Int) < (g.rs.length : Int) := by omega
                      have HN : Hid (ct (gdsD t (x.gs.drop (j + 1))) X = ANS) := by
                        show _ = _
                        rw [HYE.out, ← HKR.out, List.drop_length]
                        rfl
                      go_wp2_with fail
                      exact ⟨⟨j + 1, hjl, rfl, below2 HWX.out HBK.out, HN⟩, by simp only [intOf]; omega⟩
          · obtain rfl : j = x.gs.length := by omega
            have hnot : ¬ (x.gs.length : Int) < (x.gs.length : Int) := by omega
            have HN : Hid (stsD t (t.ts.drop (i + 1)) = ANS) := by
              show _ = _
              rw [HXE.out, ← HJR.out, List.drop_length]
              rfl
            go_wp2_with fail
            exact ⟨⟨i + 1, hlt, rfl, HBW, HN⟩, by simp only [intOf]; omega⟩
      · obtain rfl : i = t.ts.length := by omega
        have hnot : ¬ (t.ts.length : Int) < (t.ts.length : Int) := by omega
        have HN : Hid (ANS = 0) := by
          show _ = _
          rw [← HSR.out, List.drop_length]; rfl
        go_wp2_with fail
        go_ret
        exact ⟨by rw [HN.out]; rfl, below2 HB1.out HBR.out⟩
end Go.Proofs.YteedmmljahgpjabGreatDoor

/-
  The document's state: a state's guards behind bytes.
-/
namespace Go.Proofs.YteedmmljahgpjabGreatDoor
open Go.RowKit
set_option linter.unusedVariables false
set_option linter.unusedSimpArgs false
def pL (l : List Int) : List UInt8 := (l.map (fun n => W.put1 n.toNat)).flatten
end Go.Proofs.YteedmmljahgpjabGreatDoor

/-
  The document's Encode, of any table.
-/
namespace Go.Proofs.YteedmmljahgpjabGreatDoor
open Go.RowKit
set_option linter.unusedVariables false
set_option linter.unusedSimpArgs false
theorem pL_app (a b : List Int) : pL (a ++ b) = pL a ++ pL b := by unfold pL; rw [List.map_append, List.flatten_append]
theorem pL_put : ∀ l : List Int, pL l = W.putL (W.nats l)
  | [] => rfl
  | n :: l => by
    have := pL_put l
    unfold pL W.nats at *
    simp only [List.map_cons, List.flatten_cons, W.putL]
    rw [this]
theorem sg_b (l : List Int) : pL (sgZ l) = W.put1 l.length ++ (l.map (fun n => W.put1 (W.zigN n).toNat)).flatten := by
  unfold sgZ pL
  rw [List.map_cons, List.flatten_cons, List.map_map, Int.toNat_natCast]
  rfl
end Go.Proofs.YteedmmljahgpjabGreatDoor

/-
  What was written is read again: numbers, lists, instructions, rows.
-/
namespace Go.Proofs.YteedmmljahgpjabGreatDoor
open Go.RowKit
set_option linter.unusedVariables false
set_option linter.unusedSimpArgs false
/-- The spans that are there. -/
def prs : List Bool → List Sp → List Sp
  | b :: bs, x :: xs => if b then x :: prs bs xs else prs bs xs
  | _, _ => []
end Go.Proofs.YteedmmljahgpjabGreatDoor

/-
  What is read was written so, and not otherwise: numbers, lists, instructions.
-/
namespace Go.Proofs.YteedmmljahgpjabGreatDoor
open Go.RowKit
set_option linter.unusedVariables false
set_option linter.unusedSimpArgs false
/-- From a place to a place there stands s. -/
structure Wn (l : List UInt8) (p q : Int) (s : List UInt8) : Prop where
  a : 0 ≤ p
  b : p ≤ q
  c : q ≤ l.length
  d : (l.drop p.toNat).take (q.toNat - p.toNat) = s
theorem Wn.nil {l : List UInt8} {p : Int} (h0 : 0 ≤ p) (h1 : p ≤ l.length) : Wn l p p [] := ⟨h0, Int.le_refl _, h1, by rw [Nat.sub_self, List.take_zero]⟩
theorem Wn.app {l : List UInt8} {p m q : Int} {s t : List UInt8} (h : Wn l p m s) (k : Wn l m q t) : Wn l p q (s ++ t) := by
  obtain ⟨a1, b1, c1, d1⟩ := h
  obtain ⟨a2, b2, c2, d2⟩ := k
  refine ⟨a1, by omega, c2, ?_⟩
  rw [← d1, ← d2, show q.toNat - p.toNat = (m.toNat - p.toNat) + (q.toNat - m.toNat) by omega, List.take_add, List.drop_drop, show p.toNat + (m.toNat - p.toNat) = m.toNat by omega]
theorem Wn.all {l s : List UInt8} (h : Wn l 0 l.length s) : l = s := by
  have := h.d
  rw [Int.toNat_zero, List.drop_zero, Nat.sub_zero, Int.toNat_natCast, List.take_length] at this
  exact this
theorem num_wn {l : List UInt8} {p n q : Int} (h : numR l p = some (n, q)) : Wn l p q (W.put1 n.toNat) ∧ 0 ≤ n := by
  unfold numR at h
  split at h
  · rename_i e
    obtain ⟨g1, g2, g3, g4, g5, g6⟩ := W.take_one e
    simp only [Option.some.injEq, Prod.mk.injEq] at h
    obtain ⟨h1, h2⟩ := h
    subst h1 h2
    refine ⟨⟨g1, by omega, g3, ?_⟩, by omega⟩
    rw [Int.toNat_natCast]
    exact g5.symm
  · cases h
theorem upto_wn {l : List UInt8} {k p n q : Int} (h : uptoR k l p = some (n, q)) : Wn l p q (W.put1 n.toNat) ∧ 0 ≤ n ∧ n ≤ k := by
  unfold uptoR at h
  obtain ⟨d, h1, h2⟩ := Option.bind_eq_some_iff.1 h
  split at h2
  · rename_i e
    simp only [Option.some.injEq] at h2
    subst h2
    obtain ⟨a, b⟩ := num_wn h1
    exact ⟨a, b, by simpa using e⟩
  · cases h2
theorem sign_wn {l : List UInt8} {p n q : Int} (h : signR l p = some (n, q)) : Wn l p q (W.put1 (W.zigN n).toNat) := by
  unfold signR at h
  obtain ⟨d, h1, h2⟩ := Option.map_eq_some_iff.1 h
  obtain ⟨x, y⟩ := d
  simp only [Prod.mk.injEq] at h2
  obtain ⟨e1, e2⟩ := h2
  subst e1 e2
  obtain ⟨a, b⟩ := num_wn h1
  rw [W.zig_zag x b]
  exact a
theorem ints_wn {l : List UInt8} : ∀ (n : Nat) (p q : Int) (xs : List Int), 0 ≤ p → p ≤ l.length → intsR l n p = some (xs, q) → Wn l p q (xs.map (fun n => W.put1 (W.zigN n).toNat)).flatten ∧ xs.length = n
  | 0, p, q, xs, h0, h1, h => by
    simp only [intsR, Option.some.injEq, Prod.mk.injEq] at h
    obtain ⟨e1, e2⟩ := h
    subst e1 e2
    exact ⟨Wn.nil h0 h1, rfl⟩
  | n + 1, p, q, xs, h0, h1, h => by
    simp only [intsR] at h
    obtain ⟨d, k1, k2⟩ := Option.bind_eq_some_iff.1 h
    obtain ⟨r, k3, k4⟩ := Option.map_eq_some_iff.1 k2
    obtain ⟨x, m⟩ := d
    obtain ⟨ys, z⟩ := r
    simp only [Prod.mk.injEq] at k4
    obtain ⟨e1, e2⟩ := k4
    subst e1 e2
    have w1 := sign_wn k1
    obtain ⟨w2, hl⟩ := ints_wn n m z ys (by have := w1.a; have := w1.b; omega) w1.c k3
    exact ⟨w1.app w2, by rw [List.length_cons, hl]⟩
theorem instr_wn {l : List UInt8} {p q : Int} {d : InM} (h : instrR l p = some (d, q)) : Wn l p q (W.put1 d.k.toNat ++ W.put1 d.a.toNat) ∧ (0 ≤ d.k ∧ d.k ≤ 9) ∧ (0 ≤ d.a ∧ d.a ≤ 4096) := by
  unfold instrR at h
  obtain ⟨k, h1, h2⟩ := Option.bind_eq_some_iff.1 h
  obtain ⟨a, h3, h4⟩ := Option.map_eq_some_iff.1 h2
  simp only [Prod.mk.injEq] at h4
  obtain ⟨e1, e2⟩ := h4
  subst e1 e2
  obtain ⟨w1, b1, b2⟩ := upto_wn h1
  obtain ⟨w2, b3, b4⟩ := upto_wn h3
  exact ⟨w1.app w2, ⟨b1, b2⟩, b3, b4⟩
theorem ins_wn {l : List UInt8} : ∀ (n : Nat) (p q : Int) (ds : List InM), 0 ≤ p → p ≤ l.length → insR l n p = some (ds, q) → Wn l p q (pL (((ds.map inZ).flatten).map u64)) ∧ ds.length = n
  | 0, p, q, ds, h0, h1, h => by
    simp only [insR, Option.some.injEq, Prod.mk.injEq] at h
    obtain ⟨e1, e2⟩ := h
    subst e1 e2
    exact ⟨Wn.nil h0 h1, rfl⟩
  | n + 1, p, q, ds, h0, h1, h => by
    simp only [insR] at h
    obtain ⟨d, k1, k2⟩ := Option.bind_eq_some_iff.1 h
    obtain ⟨r, k3, k4⟩ := Option.map_eq_some_iff.1 k2
    obtain ⟨x, m⟩ := d
    obtain ⟨ys, z⟩ := r
    simp only [Prod.mk.injEq] at k4
    obtain ⟨e1, e2⟩ := k4
    subst e1 e2
    obtain ⟨w1, ⟨b1, b2⟩, b3, b4⟩ := instr_wn k1
    obtain ⟨w2, hl⟩ := ins_wn n m z ys (by have := w1.a; have := w1.b; omega) w1.c k3
    refine ⟨?_, by rw [List.length_cons, hl]⟩
    have hk : u64 x.k = x.k := by unfold u64; omega
    have ha : u64 x.a = x.a := by unfold u64; omega
    have e : pL ((((x :: ys).map inZ).flatten).map u64) = (W.put1 x.k.toNat ++ W.put1 x.a.toNat) ++ pL (((ys.map inZ).flatten).map u64) := by
      rw [List.map_cons, List.flatten_cons]
      unfold inZ pL
      simp [hk, ha]
    rw [e]
    exact w1.app w2
end Go.Proofs.YteedmmljahgpjabGreatDoor

/-
  What was written is read again: rows, guards, states.
-/
namespace Go.Proofs.YteedmmljahgpjabGreatDoor
open Go.RowKit
set_option linter.unusedVariables false
set_option linter.unusedSimpArgs false
theorem has_prs (r : RowM) : hasL r = prs (prts (partsN r.k r.o)) (spL r) := by
  obtain ⟨p, ep⟩ : ∃ p, partsN r.k r.o = p := ⟨_, rfl⟩
  rw [← hasR_0]
  unfold hasR
  rw [ep]
  obtain ⟨a, b, c, d⟩ := p
  cases a <;> cases b <;> cases c <;> cases d <;> rfl
end Go.Proofs.YteedmmljahgpjabGreatDoor

/-
  What is read was written so, and not otherwise: rows, guards, states.
-/
namespace Go.Proofs.YteedmmljahgpjabGreatDoor
open Go.RowKit
set_option linter.unusedVariables false
set_option linter.unusedSimpArgs false
theorem len_wn {l : List UInt8} {p p' : Int} {q q' : RS} {x : Sp} (h : lenR q l p = some (x, q', p')) : Wn l p p' (W.put1 x.len.toNat) := by
  unfold lenR at h
  obtain ⟨n, h1, h2⟩ := Option.map_eq_some_iff.1 h
  simp only [Prod.mk.injEq] at h2
  obtain ⟨e1, e2, e3⟩ := h2
  subst e1 e2 e3
  obtain ⟨w1, b1, b2⟩ := upto_wn h1
  have e : (⟨q.sp, q.sp + n.1⟩ : Sp).len = n.1 := by unfold Sp.len; simp only; omega
  rw [e]
  exact w1
theorem sps_wn {l : List UInt8} : ∀ (bs : List Bool) (q q' : RS) (p p' : Int) (xs : List Sp), 0 ≤ p → p ≤ l.length → spsR bs q l p = some (xs, q', p') → Wn l p p' (pL ((prs bs xs).map Sp.len)) ∧ xs.length = bs.length
  | [], q, q', p, p', xs, h0, h1, h => by
    simp only [spsR, Option.some.injEq, Prod.mk.injEq] at h
    obtain ⟨e1, e2, e3⟩ := h
    subst e1 e2 e3
    exact ⟨Wn.nil h0 h1, rfl⟩
  | true :: bs, q, q', p, p', xs, h0, h1, h => by
    simp only [spsR, if_true] at h
    obtain ⟨d, k1, k2⟩ := Option.bind_eq_some_iff.1 h
    obtain ⟨r, k3, k4⟩ := Option.map_eq_some_iff.1 k2
    obtain ⟨x, qa, m⟩ := d
    obtain ⟨ys, qb, z⟩ := r
    simp only [Prod.mk.injEq] at k4
    obtain ⟨e1, e2, e3⟩ := k4
    subst e1 e2 e3
    have w1 := len_wn k1
    obtain ⟨w2, hl⟩ := sps_wn bs qa qb m z ys (by have := w1.a; have := w1.b; omega) w1.c k3
    refine ⟨?_, by rw [List.length_cons, List.length_cons, hl]⟩
    have e : pL ((prs (true :: bs) (x :: ys)).map Sp.len) = W.put1 x.len.toNat ++ pL ((prs bs ys).map Sp.len) := rfl
    rw [e]
    exact w1.app w2
  | false :: bs, q, q', p, p', xs, h0, h1, h => by
    simp only [spsR, Bool.false_eq_true, if_false] at h
    obtain ⟨r, k3, k4⟩ := Option.map_eq_some_iff.1 h
    obtain ⟨ys, qb, z⟩ := r
    simp only [Prod.mk.injEq] at k4
    obtain ⟨e1, e2, e3⟩ := k4
    subst e1 e2 e3
    obtain ⟨w2, hl⟩ := sps_wn bs q qb p z ys h0 h1 k3
    exact ⟨w2, by rw [List.length_cons, List.length_cons, hl]⟩
theorem mk_sp (k o i : Int) {xs : List Sp} (h : xs.length = 4) : spL (mkRow k o i xs) = xs := by
  match xs, h with
  | [a, b, c, d], _ => rfl
theorem row_wn {l : List UInt8} {q q' : RS} {p p' : Int} {r : RowM} (h : rowR q l p = some (r, q', p')) : Wn l p p' (pL (rowZ r)) := by
  unfold rowR at h
  obtain ⟨k, h1, h⟩ := Option.bind_eq_some_iff.1 h
  obtain ⟨o, h2, h⟩ := Option.bind_eq_some_iff.1 h
  obtain ⟨i, h3, h⟩ := Option.bind_eq_some_iff.1 h
  obtain ⟨d, h4, h5⟩ := Option.map_eq_some_iff.1 h
  obtain ⟨xs, qb, z⟩ := d
  simp only [Prod.mk.injEq] at h5
  obtain ⟨e1, e2, e3⟩ := h5
  subst e1 e2 e3
  obtain ⟨w1, _, _⟩ := upto_wn h1
  obtain ⟨w2, _, _⟩ := upto_wn h2
  obtain ⟨w3, _, _⟩ := upto_wn h3
  obtain ⟨w4, hl⟩ := sps_wn _ _ _ _ _ _ (by have := w3.a; have := w3.b; omega) w3.c h4
  have hl4 : xs.length = 4 := hl
  have e : pL (rowZ (mkRow k.1 o.1 i.1 xs)) = W.put1 k.1.toNat ++ (W.put1 o.1.toNat ++ (W.put1 i.1.toNat ++ pL ((prs (prts (partsN k.1 o.1)) xs).map Sp.len))) := by
    unfold rowZ
    rw [has_prs, mk_sp _ _ _ hl4, pL_app]
    unfold pL
    simp [mkRow]
  rw [e]
  exact w1.app (w2.app (w3.app w4))
theorem rows_wn {l : List UInt8} : ∀ (n : Nat) (q q' : RS) (p p' : Int) (rs : List RowM), 0 ≤ p → p ≤ l.length → listR (stR l) n q p = some (rs, q', p') → Wn l p p' (pL (rs.map rowZ).flatten) ∧ rs.length = n
  | 0, q, q', p, p', rs, h0, h1, h => by
    simp only [listR, Option.some.injEq, Prod.mk.injEq] at h
    obtain ⟨e1, e2, e3⟩ := h
    subst e1 e2 e3
    exact ⟨Wn.nil h0 h1, rfl⟩
  | n + 1, q, q', p, p', rs, h0, h1, h => by
    simp only [listR] at h
    obtain ⟨d, k1, k2⟩ := Option.bind_eq_some_iff.1 h
    obtain ⟨r, k3, k4⟩ := Option.map_eq_some_iff.1 k2
    obtain ⟨x, qa, m⟩ := d
    obtain ⟨ys, qb, z⟩ := r
    simp only [Prod.mk.injEq] at k4
    obtain ⟨e1, e2, e3⟩ := k4
    subst e1 e2 e3
    have w1 := row_wn k1
    obtain ⟨w2, hl⟩ := rows_wn n qa qb m z ys (by have := w1.a; have := w1.b; omega) w1.c k3
    refine ⟨?_, by rw [List.length_cons, hl]⟩
    rw [List.map_cons, List.flatten_cons, pL_app]
    exact w1.app w2
end Go.Proofs.YteedmmljahgpjabGreatDoor

/-
  Boxes of a call's own, lists among them.
-/
namespace Go.Proofs.YteedmmljahgpjabGreatDoor
open Go.RowKit
set_option linter.unusedVariables false
set_option linter.unusedSimpArgs false
structure Bs (w V : World) (bs : List Bx) : Prop where
  B : Below w.heap.size w V
  K : ∀ p ∈ bs, V.heap[p.1]? = some (.cells p.2.2 p.2.1 (0, 0)) ∧ w.heap.size ≤ p.1
  N : (bs.map (·.1)).Nodup
theorem Bs.on {w V V' : World} {bs : List Bx} (h : Bs w V bs) (k : Below V.heap.size V V') : Bs w V' bs :=
  ⟨below2 h.B k, fun p hp => ⟨(k.block _ (hp_lt (h.K p hp).1)).trans (h.K p hp).1, (h.K p hp).2⟩, h.N⟩
theorem Bs.perm {w V : World} {bs bs' : List Bx} (h : Bs w V bs) (p : bs.Perm bs') : Bs w V bs' :=
  ⟨h.B, fun q hq => h.K q (p.mem_iff.2 hq), (p.map _).nodup_iff.1 h.N⟩
def Lst (w : World) (nb : List Bx) (e sz : Nat) (v : Value) (vs : List (Array Value)) : Prop :=
  (∀ x ∈ vs, x.size = sz) ∧ (∀ V : World, (∀ b ∈ nb, V.heap[b.1]? = some (.cells b.2.2 b.2.1 (0, 0))) → V.ownsRow w.heap.size e sz v vs.length (vs.map Array.toList).flatten) ∧ ∀ g, v.ownBlock = some g → ∃ b ∈ nb, b.1 = g
theorem Lst.nil (w : World) (e sz : Nat) : Lst w [] e sz (.slice none 0 0) [] := ⟨fun x hx => (by cases hx), fun V _ => ⟨by simp, .inl ⟨rfl, rfl⟩⟩, fun g hg => by simp [Value.ownBlock] at hg⟩
theorem Bs.own {w V : World} {nb bs : List Bx} {e sz : Nat} {v : Value} {vs : List (Array Value)} (h : Bs w V (nb ++ bs)) (l : Lst w nb e sz v vs) : OwnK w V bs e sz v vs := by
  refine ⟨l.2.1 V fun b hb => (h.K b (List.mem_append_left _ hb)).1, l.1, h.B, fun p hp => ⟨(h.K p (List.mem_append_right _ hp)).1, (h.K p (List.mem_append_right _ hp)).2, fun e => ?_⟩⟩
  obtain ⟨b, hb, hbp⟩ := l.2.2 _ e
  have hn := h.N
  rw [List.map_append, List.nodup_append] at hn
  exact hn.2.2 _ (List.mem_map.2 ⟨b, hb, rfl⟩) _ (List.mem_map.2 ⟨p, hp, rfl⟩) hbp
theorem OwnK.fin {w V : World} {bs : List Bx} {e sz : Nat} {v : Value} {vs : List (Array Value)} (h : OwnK w V bs e sz v vs) (n : (bs.map (·.1)).Nodup) :
    ∃ (nb : List Bx) (a : Option Addr) (c : Nat), v = .slice a vs.length c ∧ Bs w V (nb ++ bs) ∧ Lst w nb e sz v vs ∧ Keep nb (fun U => SlAt U sz a c vs) := by
  rcases h.R.2 with ⟨h1, h2⟩ | ⟨g, cap, cur, h1, h2, h3, h4, h5, h6, h7⟩
  · have hv : vs = [] := List.eq_nil_of_length_eq_zero h2
    subst hv h1
    exact ⟨[], none, 0, rfl, ⟨h.B, fun p hp => ⟨(h.K p hp).1, (h.K p hp).2.1⟩, n⟩, Lst.nil _ _ _, fun U _ => ⟨Nat.le_refl _, Nat.zero_le _, fun i hi => by simp at hi⟩⟩
  · subst h1
    refine ⟨[(g, e, cur)], some ⟨g, 0, none⟩, cap, rfl, ⟨h.B, fun p hp => ?_, ?_⟩, ⟨h.Z, fun U hU => ⟨h.R.1, .inr ⟨g, cap, cur, rfl, h2, hU _ (List.mem_singleton.2 rfl), h4, h5, h6, h7⟩⟩, fun g' hg' => ⟨_, List.mem_singleton.2 rfl, by simpa [Value.ownBlock] using hg'⟩⟩, fun U hU => ?_⟩
    · rcases List.mem_cons.1 (by simpa using hp) with rfl | hp
      · exact ⟨h3, h2⟩
      · exact ⟨(h.K p hp).1, (h.K p hp).2.1⟩
    · rw [List.singleton_append, List.map_cons, List.nodup_cons]
      refine ⟨fun e' => ?_, n⟩
      obtain ⟨p, hp, e'⟩ := List.mem_map.1 e'
      exact (h.K p hp).2.2 (by simp [Value.ownBlock]; exact e'.symm)
    · have hc := hU _ (List.mem_singleton.2 rfl)
      have hO : OwnK U U [] e sz (.slice (some ⟨g, 0, none⟩) vs.length cap) vs → SlAt U sz (some ⟨g, 0, none⟩) cap vs := fun k => by
        obtain ⟨a, c, e1, e2⟩ := k.sl
        cases e1
        exact e2
      refine ⟨h4, by unfold maxLen at h5; omega, fun i hi => ⟨g, 0, rfl, fun j hj => ?_⟩⟩
      rw [cell_of hc, Nat.zero_add]
      have hlt : i * sz + j < vs.length * sz := by
        have : (i + 1) * sz ≤ vs.length * sz := Nat.mul_le_mul hi (Nat.le_refl _)
        rw [Nat.add_mul] at this
        omega
      rw [← flat_at vs h.Z i hi j hj, ← h7, List.getElem?_take, if_pos hlt, Array.getElem?_toList]
end Go.Proofs.YteedmmljahgpjabGreatDoor
