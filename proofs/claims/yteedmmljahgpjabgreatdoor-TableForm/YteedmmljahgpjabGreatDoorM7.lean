import Derived.Test.YteedmmljahgpjabGreatDoorM6
/-
  Is a table well formed?
-/
namespace Go.Proofs.YteedmmljahgpjabGreatDoor
open Go.RowKit
set_option linter.unusedVariables false
set_option linter.unusedSimpArgs false
def gdN (sl : Int) (nr ns : Nat) (g : GdM) (p : Int) : Option Int := if rowsB sl nr ns g.rs then liesN p (gSp g) else none
def gdsN (sl : Int) (nr ns : Nat) : Int → List GdM → Option Int
  | p, [] => some p
  | p, g :: l => (gdN sl nr ns g p).bind fun q => gdsN sl nr ns q l
def stsN (sl : Int) (nr ns : Nat) : Int → List StM → Option Int
  | p, [] => some p
  | p, s :: l => if (s.gs.length : Int) > 12 then none else (gdsN sl nr ns p s.gs).bind fun q => stsN sl nr ns q l
def endB (n : Nat) (o : Option Int) : Bool := match o with | some q => q == (n : Int) | none => false
def formB (t : TbM) : Bool := nameB t.x && sizesB t && endB t.ds.length (stsN t.sl t.rs.length t.ts.length 0 t.ts)
theorem rowsB8 {sl : Int} {nr ns : Nat} {rs : List RowM} (h : rowsB sl nr ns rs = true) : rs.length ≤ 8 := by
  unfold rowsB withinB at h
  simp at h
  omega
set_option maxRecDepth 100000 in
set_option maxHeartbeats 4000000 in
theorem wellFormed_any (t : TbM) (w : World) (hl : TbL w t) (htb : Tab w) : Calls Tryz.prog 22 #[.agg t.vals] w fun e w' => e = .returned (.bool (formB t)) ∧ Below w.heap.size w w' := by
  have hb1 := below_new w (.cells t.vals 27)
  have hn1 := heap_new w (.cells t.vals 27)
  obtain ⟨W1, e1⟩ : ∃ W, w.alloc (.cells t.vals 27) = W := ⟨_, rfl⟩
  have E1 : Hid (w.alloc (.cells t.vals 27) = W1) := e1
  rw [e1] at hb1 hn1
  have HB1 : Hid (Below w.heap.size w W1) := hb1
  have c0 : W1.cell? ⟨w.heap.size, 0, none⟩ = some (.string t.x) := cell_of hn1 0
  have HN1 : Hid (W1.heap[w.heap.size]? = some (.cells t.vals 27 (0, 0))) := hn1
  have HS1 : Hid (W1.heap.size = w.heap.size + 1) := by show _ = _; rw [← e1]; exact size_alloc _ _
  clear hb1 e1 hn1
  have cN := namep_any t.x hl.X W1 (htb.on HB1.out)
  have HTL : Hid (TbL w t) := hl
  obtain ⟨ANS, eA⟩ : ∃ q, formB t = q := ⟨_, rfl⟩
  have HA : Hid (ANS = (nameB t.x && sizesB t && endB t.ds.length (stsN t.sl t.rs.length t.ts.length 0 t.ts))) := eA.symm
  rw [eA]
  clear eA hl htb
  cases h1 : nameB t.x with
  | false =>
    rw [h1] at cN
    have HF : Hid (ANS = false) := by show _ = _; rw [HA.out, h1]; rfl
    go_enter Tryz.func22, Tryz.ntmps22
    go_upto_region 1 with fail
    rw [E1.out]
    clear E1
    go_wp2_with fail
    refine cN.mono ?_
    rintro e w2 ⟨rfl, hb2⟩
    have HB2 : Hid (Below w.heap.size w w2) := below2 HB1.out hb2
    go_wp2_with fail
    go_ret
    exact ⟨by rw [HF.out]; rfl, HB2.out⟩
  | true =>
    rw [h1] at cN
    go_enter Tryz.func22, Tryz.ntmps22
    go_upto_region 1 with fail
    rw [E1.out]
    clear E1
    go_wp2_with fail
    refine cN.mono ?_
    rintro e w2 ⟨rfl, hb2⟩
    have HB2 : Hid (Below w.heap.size w w2) := below2 HB1.out hb2
    have hk2 := hb2.block w.heap.size (by rw [HS1.out]; omega)
    have HN2 : Hid (w2.heap[w.heap.size]? = some (.cells t.vals 27 (0, 0))) := hk2.trans HN1.out
    have hsz2 : w.heap.size < w2.heap.size := (Array.getElem?_eq_some_iff.1 HN2.out).1
    have cS := sizesFit_any t w2
    unfold TbM.vals at cS
    have d0 : w2.cell? ⟨w.heap.size, 0, none⟩ = some (.string t.x) := cell_of HN2.out 0
    have d1 : w2.cell? ⟨w.heap.size, 1, none⟩ = some (.slice t.ra t.rs.length t.rc) := cell_of HN2.out 1
    have d2 : w2.cell? ⟨w.heap.size, 2, none⟩ = some (.int .i64 t.sl) := cell_of HN2.out 2
    have d3 : w2.cell? ⟨w.heap.size, 3, none⟩ = some (.slice t.ca t.cs.length t.cc) := cell_of HN2.out 3
    have d4 : w2.cell? ⟨w.heap.size, 4, none⟩ = some (.slice t.da t.ds.length t.dc) := cell_of HN2.out 4
    have d5 : w2.cell? ⟨w.heap.size, 5, none⟩ = some (.slice t.ta t.ts.length t.tc) := cell_of HN2.out 5
    clear cN hb2 hk2 c0 HN1 HB1 HS1
    cases h2 : sizesB t with
    | false =>
      rw [h2] at cS
      have HF : Hid (ANS = false) := by show _ = _; rw [HA.out, h1, h2]; rfl
      go_wp2_with fail
      refine cS.mono ?_
      rintro e w3 ⟨rfl, hb3⟩
      have HB3 : Hid (Below w.heap.size w w3) := below2 HB2.out hb3
      go_wp2_with fail
      go_ret
      exact ⟨by rw [HF.out]; rfl, HB3.out⟩
    | true =>
      rw [h2] at cS
      have HF : Hid (ANS = endB t.ds.length (stsN t.sl t.rs.length t.ts.length 0 (t.ts.drop 0))) := by show _ = _; rw [HA.out, h1, h2]; rfl
      clear HA h1 h2
      go_wp2_with fail
      refine cS.mono ?_
      rintro e w3 ⟨rfl, hb3⟩
      have hsz3 : w.heap.size < w3.heap.size := by have := hb3.size; omega
      have hN3 : (w3.alloc (.cells #[.int .i64 0] 3)).heap[w.heap.size]? = some (.cells t.vals 27 (0, 0)) := ((below_new w3 (.cells #[.int .i64 0] 3)).block _ hsz3).trans ((hb3.block _ hsz2).trans HN2.out)
      have HA3 : (w3.alloc (.cells #[.int .i64 0] 3)).heap[w3.heap.size]? = some (.cells #[.int .i64 0] 3 (0, 0)) := heap_new _ _
      have HB3 : Below w.heap.size w (w3.alloc (.cells #[.int .i64 0] 3)) := below2 (below2 HB2.out hb3) (below_new _ _)
      obtain ⟨A, eA⟩ : ∃ q, w3.heap.size = q := ⟨_, rfl⟩
      have HEA : Hid (w3.heap.size = A) := eA
      rw [eA] at HA3
      have HAG : Hid (w.heap.size < A) := by show _ < _; omega
      obtain ⟨W4, e4⟩ : ∃ W, w3.alloc (.cells #[.int .i64 0] 3) = W := ⟨_, rfl⟩
      have HE4 : Hid (w3.alloc (.cells #[.int .i64 0] 3) = W4) := e4
      rw [e4] at hN3 HA3 HB3
      have x0 : W4.cell? ⟨A, 0, none⟩ = some (.int .i64 0) := cell_of HA3 0
      have fA : W4.frozen? ⟨A, 0, none⟩ = false := frozen_of HA3 0
      have HA5 : Hid ((W4.setCell ⟨A, 0, none⟩ (.int .i64 0)).heap[A]? = some (.cells #[.int .i64 0] 3 (0, 0))) := heap_set _ HA3
      have HB5 : Hid (Below w.heap.size w (W4.setCell ⟨A, 0, none⟩ (.int .i64 0))) := HB3.setCell (by show w.heap.size ≤ A; omega) _
      have HN5 : Hid ((W4.setCell ⟨A, 0, none⟩ (.int .i64 0)).heap[w.heap.size]? = some (.cells t.vals 27 (0, 0))) := (heap_setCell_other _ _ _ _ (by show w.heap.size ≠ A; omega)).trans hN3
      clear cS hb3 hsz3 hsz2 HB2 HN2 hN3 HA3 HB3 e4 eA d0 d1 d2 d3 d4 d5
      go_upto_region 4 with (first | rw [HE4.out, HEA.out] | fail)
      try rw [HE4.out]
      try rw [HEA.out]
      generalize W4.setCell ⟨A, 0, none⟩ (.int .i64 0) = U at HA5 HB5 HN5 ⊢
      clear HE4 HEA x0 fA
      have c5 : U.cell? ⟨w.heap.size, 5, none⟩ = some (.slice t.ta t.ts.length t.tc) := cell_of HN5.out 5
      have HTT : Hid (SlAt w 1 t.ta t.tc (t.ts.map StM.vals)) := HTL.out.T
      obtain ⟨ta, eta⟩ : ∃ q, t.ta = q := ⟨_, rfl⟩
      rw [eta] at c5 HTT
      clear eta
      go_wp2_with fail
      go_loopw [20] (fun q wr => ∃ (i : Nat) (p : Int), i ≤ t.ts.length ∧ q = .int .i64 i ∧ Hid (Below w.heap.size w wr) ∧ Hid (wr.heap[w.heap.size]? = some (.cells t.vals 27 (0, 0))) ∧ Hid (wr.heap[A]? = some (.cells #[.int .i64 p] 3 (0, 0))) ∧ Hid (ANS = endB t.ds.length (stsN t.sl t.rs.length t.ts.length p (t.ts.drop i)))) (fun q _ => t.ts.length - (intOf q).toNat)
      case atStart => exact ⟨0, 0, by omega, rfl, HB5, HN5, HA5, HF⟩
      case round =>
        obtain ⟨i, p, hi, rfl, HBR, HNR, HAR, HRR⟩ := hrel
        by_cases hlt : i < t.ts.length
        · rename World => V
          have hlt' : (i : Int) < (t.ts.length : Int) := by omega
          have hmx : (i : Int) + 1 ≤ 9223372036854775807 := by have h1 := HTT.out.1; have h2 := HTT.out.2.1; rw [List.length_map] at h1; omega
          obtain ⟨bb, o, ea, hat⟩ := (HTT.out.on (mapz StM.sz _) HBR.out).2.2 i (by rw [List.length_map]; exact hlt)
          simp only [List.getElem_map] at hat
          have hsl := HTL.out.Ti t.ts[i] (List.getElem_mem hlt)
          have HD : Hid (ANS = endB t.ds.length (if (t.ts[i].gs.length : Int) > 12 then none else (gdsN t.sl t.rs.length t.ts.length p t.ts[i].gs).bind fun q => stsN t.sl t.rs.length t.ts.length q (t.ts.drop (i + 1)))) := by show _ = _; rw [HRR.out, List.drop_eq_getElem_cons hlt]; rfl
          obtain ⟨s, es⟩ : ∃ s, t.ts[i] = s := ⟨_, rfl⟩
          rw [es] at hat hsl HD
          have hc := hat 0 (by omega)
          have cs : V.cell? ⟨bb, o + i, none⟩ = some (.slice s.a s.gs.length s.c) := by rw [Nat.mul_one, Nat.add_zero] at hc; exact hc
          have HSG : Hid (SlAt w 5 s.a s.c (s.gs.map GdM.vals)) := hsl.1
          have HGI : Hid (∀ g ∈ s.gs, GdL w g) := hsl.2
          subst ea
          clear hat es hc hsl HRR
          obtain ⟨gs, egs⟩ : ∃ q, s.gs = q := ⟨_, rfl⟩
          obtain ⟨sa, esa⟩ : ∃ q, s.a = q := ⟨_, rfl⟩
          rw [egs, esa] at HSG cs
          rw [egs] at HGI HD
          clear egs esa
          cases h12 : decide ((gs.length : Int) > 12) with
          | true =>
            have HX : Hid (ANS = false) := by show _ = _; rw [HD.out, if_pos (of_decide_eq_true h12)]; rfl
            go_wp2_with fail
            go_ret
            exact ⟨by rw [HX.out]; rfl, HBR.out⟩
          | false =>
            have HX : Hid (ANS = endB t.ds.length ((gdsN t.sl t.rs.length t.ts.length p (gs.drop 0)).bind fun q => stsN t.sl t.rs.length t.ts.length q (t.ts.drop (i + 1)))) := by show _ = _; rw [HD.out, if_neg (of_decide_eq_false h12)]; rfl
            clear HD
            go_wp2_with fail
            go_loopw [29] (fun q wr => ∃ (j : Nat) (p : Int), j ≤ gs.length ∧ q = .int .i64 j ∧ Hid (Below w.heap.size w wr) ∧ Hid (wr.heap[w.heap.size]? = some (.cells t.vals 27 (0, 0))) ∧ Hid (wr.heap[A]? = some (.cells #[.int .i64 p] 3 (0, 0))) ∧ Hid (ANS = endB t.ds.length ((gdsN t.sl t.rs.length t.ts.length p (gs.drop j)).bind fun q => stsN t.sl t.rs.length t.ts.length q (t.ts.drop (i + 1))))) (fun q _ => gs.length - (intOf q).toNat)
            case atStart => exact ⟨0, p, by omega, rfl, HBR, HNR, HAR, HX⟩
            case round =>
              obtain ⟨j, p2, hj, rfl, HB2, HN2, HA2, HR2⟩ := hrel
              by_cases hltj : j < gs.length
              · have hltj' : (j : Int) < (gs.length : Int) := by omega
                have hmxj : (j : Int) + 1 ≤ 9223372036854775807 := by have h1 := HSG.out.1; have h2 := HSG.out.2.1; rw [List.length_map] at h1; omega
                obtain ⟨b2, o2, ea, hat⟩ := (HSG.out.on (mapz GdM.sz _) HB2.out).2.2 j (by rw [List.length_map]; exact hltj)
                simp only [List.getElem_map] at hat
                have HMEM : Hid (gs[j] ∈ gs) := List.getElem_mem hltj
                have HD : Hid (ANS = endB t.ds.length (((gdN t.sl t.rs.length t.ts.length gs[j] p2).bind fun q => gdsN t.sl t.rs.length t.ts.length q (gs.drop (j + 1))).bind fun q => stsN t.sl t.rs.length t.ts.length q (t.ts.drop (i + 1)))) := by show _ = _; rw [HR2.out, List.drop_eq_getElem_cons hltj]; rfl
                obtain ⟨d, ed⟩ : ∃ d, gs[j] = d := ⟨_, rfl⟩
                rw [ed] at hat HMEM HD
                have HRG : Hid (wr.rangeAt b2 (o2 + j * 5) d.vals.toList) := fun j v hv => by
                  have hj : j < 5 := (List.getElem?_eq_some_iff.1 hv).1
                  rw [hat j hj, ← hv]; simp
                have HZ : Hid ((wr.alloc (.cells #[.int .i64 0, .int .i64 0, .int .u16 0, .int .u16 0, .slice none 0 0] 49)).heap[wr.heap.size]? = some (.cells #[.int .i64 0, .int .i64 0, .int .u16 0, .int .u16 0, .slice none 0 0] 49 (0, 0))) := heap_new _ _
                have HWX : Hid (Below wr.heap.size wr ((wr.alloc (.cells #[.int .i64 0, .int .i64 0, .int .u16 0, .int .u16 0, .slice none 0 0] 49)).setRow wr.heap.size d.vals)) := below_row (below_new _ _) (Nat.le_refl _) _
                have HNX : Hid (((wr.alloc (.cells #[.int .i64 0, .int .i64 0, .int .u16 0, .int .u16 0, .slice none 0 0] 49)).setRow wr.heap.size d.vals).heap[wr.heap.size]? = some (.cells d.vals 49 (0, 0))) := setRow_heap _ _ _ _ _ _ HZ.out
                subst ea
                clear hat ed
                go_upto_region 12 with (first | (refine wpList_load_mid rfl 49 (.tmp 31) rfl b2 (o2 + j * 5) rfl d.vals.toList _ HRG.out Tryz.underlying49 rfl (by show _ = some 5; exact size68') ?_; rw [Array.toArray_toList]) | (refine wpList_store_row rfl 49 (.tmp 7) (.tmp 32) rfl wr.heap.size d.vals rfl rfl 49 #[.int .i64 0, .int .i64 0, .int .u16 0, .int .u16 0, .slice none 0 0] HZ.out size68' rfl (allGd d) ?_))
                generalize World.setRow _ _ _ = WX at HWX HNX ⊢
                clear HZ HRG
                have HBX : Hid (Below w.heap.size w WX) := below2 HB2.out HWX.out
                have HPX : Hid (WX.heap[w.heap.size]? = some (.cells t.vals 27 (0, 0))) := (HWX.out.block _ (Array.getElem?_eq_some_iff.1 HN2.out).1).trans HN2.out
                have HAX : Hid (WX.heap[A]? = some (.cells #[.int .i64 p2] 3 (0, 0))) := (HWX.out.block _ (Array.getElem?_eq_some_iff.1 HA2.out).1).trans HA2.out
                have HGL : Hid (GdL WX d) := (HGI.out d HMEM.out).on HBX.out
                have x4 : WX.cell? ⟨wr.heap.size, 4, none⟩ = some (.slice d.a d.rs.length d.c) := cell_of HNX.out 4
                have cR := rowsFit_any t d.rs d.a d.c WX (HTL.out.on HBX.out) HGL.out.2.2.2.1
                clear HB2 HN2 HA2 HR2 HMEM
                go_wp2_with (refine wpList_load_row rfl 27 (.tmp 1) rfl w.heap.size rfl 27 t.vals (0, 0) _ HPX.out Tryz.underlying27 rfl size26' ?_)
                refine cR.mono ?_
                rintro e w5 ⟨rfl, hb5⟩
                have HB5 : Hid (Below w.heap.size w w5) := below2 HBX.out hb5
                have HP5 : Hid (w5.heap[w.heap.size]? = some (.cells t.vals 27 (0, 0))) := (hb5.block _ (Array.getElem?_eq_some_iff.1 HPX.out).1).trans HPX.out
                have HA5 : Hid (w5.heap[A]? = some (.cells #[.int .i64 p2] 3 (0, 0))) := (hb5.block _ (Array.getElem?_eq_some_iff.1 HAX.out).1).trans HAX.out
                have HN5 : Hid (w5.heap[wr.heap.size]? = some (.cells d.vals 49 (0, 0))) := (hb5.block _ (Array.getElem?_eq_some_iff.1 HNX.out).1).trans HNX.out
                have HG5 : Hid (GdL w5 d) := HGL.out.on hb5
                clear cR hb5 HBX HPX HAX HNX HGL x4 HWX
                cases hr : rowsB t.sl t.rs.length t.ts.length d.rs with
                | false =>
                  have HX2 : Hid (ANS = false) := by show _ = _; rw [HD.out]; unfold gdN; rw [hr]; rfl
                  go_wp2_with fail
                  go_ret
                  exact ⟨by rw [HX2.out]; rfl, HB5.out⟩
                | true =>
                  have HD2 : Hid (ANS = endB t.ds.length (((liesN p2 (gSp d)).bind fun q => gdsN t.sl t.rs.length t.ts.length q (gs.drop (j + 1))).bind fun q => stsN t.sl t.rs.length t.ts.length q (t.ts.drop (i + 1)))) := by show _ = _; rw [HD.out]; unfold gdN; rw [hr]; rfl
                  have y0 : w5.cell? ⟨wr.heap.size, 0, none⟩ = some (.int .i64 d.wh.f) := cell_of HN5.out 0
                  have y1 : w5.cell? ⟨wr.heap.size, 1, none⟩ = some (.int .i64 d.wh.t) := cell_of HN5.out 1
                  have y2 : w5.cell? ⟨wr.heap.size, 2, none⟩ = some (.int .u16 d.fd) := cell_of HN5.out 2
                  have y3 : w5.cell? ⟨wr.heap.size, 3, none⟩ = some (.int .u16 d.rg) := cell_of HN5.out 3
                  have y4 : w5.cell? ⟨wr.heap.size, 4, none⟩ = some (.slice d.a d.rs.length d.c) := cell_of HN5.out 4
                  have cL := lies_any d A p2 w5 HG5.out (rowsB8 hr) HA5.out
                  unfold GdM.vals at cL
                  clear HD hr HN5 HG5
                  go_wp2_with fail
                  refine cL.mono ?_
                  rintro e w6 ⟨rfl, hm6, q, ha6, hq6⟩
                  have HB6 : Hid (Below w.heap.size w w6) := HB5.out.trans ((hm6.below HB5.out.size (by rintro _ rfl; exact Nat.le_of_lt HAG.out)))
                  have HP6 : Hid (w6.heap[w.heap.size]? = some (.cells t.vals 27 (0, 0))) := (hm6.block _ (Array.getElem?_eq_some_iff.1 HP5.out).1 (by have := HAG.out; omega)).trans HP5.out
                  have HA6 : Hid (w6.heap[A]? = some (.cells #[.int .i64 q] 3 (0, 0))) := ha6
                  have HQ6 : Hid (∀ y, liesN p2 (gSp d) = some y → q = y) := hq6
                  clear cL y0 y1 y2 y3 y4 hm6 ha6 hq6
                  cases hz : liesN p2 (gSp d) with
                  | none =>
                    have HX2 : Hid (ANS = false) := by show _ = _; rw [HD2.out, hz]; rfl
                    go_wp2_with fail
                    go_ret
                    exact ⟨by rw [HX2.out]; rfl, HB6.out⟩
                  | some z =>
                    have hqz := HQ6.out z hz
                    subst hqz
                    have HX2 : Hid (ANS = endB t.ds.length ((gdsN t.sl t.rs.length t.ts.length q (gs.drop (j + 1))).bind fun q => stsN t.sl t.rs.length t.ts.length q (t.ts.drop (i + 1)))) := by show _ = _; rw [HD2.out, hz]; rfl
                    go_wp2_with fail
                    exact ⟨⟨j + 1, q, hltj, rfl, HB6, HP6, HA6, HX2⟩, by simp only [intOf]; omega⟩
              · obtain rfl : j = gs.length := by omega
                have hnot : ¬ (gs.length : Int) < (gs.length : Int) := by omega
                have HX2 : Hid (ANS = endB t.ds.length (stsN t.sl t.rs.length t.ts.length p2 (t.ts.drop (i + 1)))) := by show _ = _; rw [HR2.out, List.drop_length]; rfl
                go_wp2_with fail
                exact ⟨⟨i + 1, p2, hlt, rfl, HB2, HN2, HA2, HX2⟩, by simp only [intOf]; omega⟩
        · obtain rfl : i = t.ts.length := by omega
          have hnot : ¬ (t.ts.length : Int) < (t.ts.length : Int) := by omega
          have HX : Hid (ANS = (p == (t.ds.length : Int))) := by show _ = _; rw [HRR.out, List.drop_length]; rfl
          have x0 : wr.cell? ⟨A, 0, none⟩ = some (.int .i64 p) := cell_of HAR.out 0
          have x4 : wr.cell? ⟨w.heap.size, 4, none⟩ = some (.slice t.da t.ds.length t.dc) := cell_of HNR.out 4
          go_wp2_with fail
          go_ret
          exact ⟨by rw [HX.out]; rfl, HBR.out⟩
end Go.Proofs.YteedmmljahgpjabGreatDoor

/-
  The checker in memory; a place is come to with a height.
-/
namespace Go.Proofs.YteedmmljahgpjabGreatDoor
open Go.RowKit
set_option linter.unusedVariables false
set_option linter.unusedSimpArgs false
structure CkAt (w : World) (C : Nat) (t : TbM) (h : Nat → Int) : Prop where
  T : ∀ j, j < 6 → w.cell? ⟨C, j, none⟩ = t.vals[j]?
  H : ∀ j, j < 4097 → w.cell? ⟨C, 6 + j, none⟩ = some (.int .u8 (h j))
  F : ∀ k, w.frozen? ⟨C, k, none⟩ = false
  L : C < w.heap.size
theorem CkAt.blk {w w' : World} {C : Nat} {t : TbM} {h : Nat → Int} (k : CkAt w C t h) (e : w'.heap[C]? = w.heap[C]?) (hs : w.heap.size ≤ w'.heap.size) : CkAt w' C t h :=
  ⟨fun j hj => by rw [World.cell?_of_block e]; exact k.T j hj, fun j hj => by rw [World.cell?_of_block e]; exact k.H j hj, fun j => by rw [← k.F j]; unfold World.frozen?; rw [e], Nat.lt_of_lt_of_le k.L hs⟩
theorem CkAt.on {w w' : World} {C : Nat} {t : TbM} {h : Nat → Int} (k : CkAt w C t h) (b : Below w.heap.size w w') : CkAt w' C t h := k.blk (b.block C k.L) b.size
theorem cs_same {w : World} {a : Addr} {u : Value} (v : Value) (h : w.cell? a = some u) : (w.setCell a v).cell? a = some v := World.cell?_setCell_same (h := h) ..
theorem cs_other {w : World} {G x y : Nat} (v : Value) (h : x ≠ y) : (w.setCell ⟨G, x, none⟩ v).cell? ⟨G, y, none⟩ = w.cell? ⟨G, y, none⟩ := World.cell?_setCell_other (h := fun e => h (by injection e)) ..
def upd (h : Nat → Int) (a : Nat) (x : Int) : Nat → Int := fun j => if j = a then x else h j
theorem CkAt.set {w : World} {C : Nat} {t : TbM} {h : Nat → Int} (k : CkAt w C t h) (a : Nat) (ha : a < 4097) (x : Int) : CkAt (w.setCell ⟨C, 6 + a, none⟩ (.int .u8 x)) C t (upd h a x) := by
  refine ⟨fun j hj => ?_, fun j hj => ?_, fun j => ?_, ?_⟩
  · rw [cs_other _ (by omega)]; exact k.T j hj
  · unfold upd
    by_cases e : j = a
    · subst e; rw [if_pos rfl]; exact cs_same _ (k.H j hj)
    · rw [if_neg e, cs_other _ (by omega)]; exact k.H j hj
  · rw [World.frozen?_setCell]; exact k.F j
  · rw [World.size_setCell]; exact k.L
def comeB (h : Nat → Int) (a : Nat) (x : Int) : Bool := withinB 0 x 64 && (h a == 0 || h a == x + 1)
def comeH (h : Nat → Int) (a : Nat) (x : Int) : Nat → Int := if withinB 0 x 64 then upd h a (x + 1) else h
def HOk (h : Nat → Int) : Prop := ∀ j, 0 ≤ h j ∧ h j ≤ 65
theorem comeH_ok {h : Nat → Int} (k : HOk h) (a : Nat) (x : Int) : HOk (comeH h a x) := by
  unfold comeH
  cases hw : withinB 0 x 64 with
  | false => simpa using k
  | true =>
    obtain ⟨h0, h1⟩ : 0 ≤ x ∧ x ≤ 64 := by simpa [withinB] using hw
    intro j
    simp only [if_true, upd]
    split
    · omega
    · exact k j
set_option maxRecDepth 100000 in
set_option maxHeartbeats 4000000 in
theorem come_any (C : Nat) (t : TbM) (h : Nat → Int) (a : Nat) (x : Int) (w : World) (hk : CkAt w C t h) (ha : a < 4097) : Calls Tryz.prog 108 #[.pointer (some ⟨C, 0, none⟩), .int .i64 a, .int .i64 x] w fun e w' => e = .returned (.bool (comeB h a x)) ∧ Mv w w' (fun k => k = C) ∧ CkAt w' C t (comeH h a x) := by
  have cW := within_any 0 x 64 w
  unfold comeB comeH
  cases hw : withinB 0 x 64 with
  | false =>
    rw [hw] at cW
    have HK : Hid (CkAt w C t h) := hk
    clear hk ha
    go_enter Tryz.func108, Tryz.ntmps108
    go_wp2_with fail
    refine cW.mono ?_
    rintro e w5 ⟨rfl, rfl⟩
    go_wp2_with fail
    go_ret
    exact ⟨rfl, Mv.refl _ _, HK.out⟩
  | true =>
    rw [hw] at cW
    obtain ⟨h0, h1⟩ : 0 ≤ x ∧ x ≤ 64 := by simpa [withinB] using hw
    have ca := hk.H a ha
    have fa := hk.F (6 + a)
    have hx : x % 256 = x := by omega
    have hx1 : (x + 1) % 256 = x + 1 := by omega
    have ha1 : (a : Int) < 4097 := by omega
    have HK : Hid (CkAt (w.setCell ⟨C, 6 + a, none⟩ (.int .u8 (x + 1))) C t (upd h a (x + 1))) := hk.set a ha _
    have HM : Hid (Mv w (w.setCell ⟨C, 6 + a, none⟩ (.int .u8 (x + 1))) (fun k => k = C)) := (Mv.refl w (fun k => k = C)).setCell (a := ⟨C, 6 + a, none⟩) (.inl rfl) _
    clear hk
    cases hz : (h a == 0) with
    | true =>
      go_enter Tryz.func108, Tryz.ntmps108
      go_wp2_with fail
      refine cW.mono ?_
      rintro e w5 ⟨rfl, rfl⟩
      go_wp2_with fail
      go_ret
      exact ⟨rfl, HM.out, HK.out⟩
    | false =>
      go_enter Tryz.func108, Tryz.ntmps108
      go_wp2_with fail
      refine cW.mono ?_
      rintro e w5 ⟨rfl, rfl⟩
      go_wp2_with fail
      go_ret
      exact ⟨rfl, HM.out, HK.out⟩
end Go.Proofs.YteedmmljahgpjabGreatDoor

/-
  May an instruction stand at its place; where one goes on from it.
-/
namespace Go.Proofs.YteedmmljahgpjabGreatDoor
open Go.RowKit
set_option linter.unusedVariables false
set_option linter.unusedSimpArgs false
def standB (t : TbM) (d : InM) (a b : Int) : Bool :=
  if d.k == 1 then withinB 0 d.a ((t.cs.length : Int) - 1) else if d.k == 2 then withinB 1 d.a 6 else if d.k == 3 then withinB 1 d.a 3 else if d.k == 4 then withinB 0 d.a ((t.rs.length : Int) - 1) else if d.k == 5 then withinB 1 d.a 16 else if d.k == 6 then withinB (a + 1) d.a b else if d.k == 7 then withinB (a + 1) d.a b else if d.k == 8 then withinB (a + 1) d.a b else if d.k == 9 then withinB (a + 1) d.a b else false
theorem CkAt.c1 {w : World} {C : Nat} {t : TbM} {h : Nat → Int} (k : CkAt w C t h) : w.cell? ⟨C, 1, none⟩ = some (.slice t.ra t.rs.length t.rc) := k.T 1 (by omega)
theorem CkAt.c3 {w : World} {C : Nat} {t : TbM} {h : Nat → Int} (k : CkAt w C t h) : w.cell? ⟨C, 3, none⟩ = some (.slice t.ca t.cs.length t.cc) := k.T 3 (by omega)
theorem CkAt.c4 {w : World} {C : Nat} {t : TbM} {h : Nat → Int} (k : CkAt w C t h) : w.cell? ⟨C, 4, none⟩ = some (.slice t.da t.ds.length t.dc) := k.T 4 (by omega)
theorem CkAt.c5 {w : World} {C : Nat} {t : TbM} {h : Nat → Int} (k : CkAt w C t h) : w.cell? ⟨C, 5, none⟩ = some (.slice t.ta t.ts.length t.tc) := k.T 5 (by omega)
set_option maxRecDepth 100000 in
set_option maxHeartbeats 4000000 in
theorem stands_any (C : Nat) (t : TbM) (h : Nat → Int) (a : Nat) (b : Int) (w : World) (hk : CkAt w C t h) (hl : TbL w t) (hs : t.rs.length ≤ 12 ∧ t.cs.length ≤ 1024 ∧ t.ds.length ≤ 4096) (ha : a < t.ds.length) : Calls Tryz.prog 88 #[.pointer (some ⟨C, 0, none⟩), .int .i64 a, .int .i64 b] w fun e w' => e = .returned (.bool (standB t (t.ds.getD a ⟨0, 0⟩) a b)) ∧ w' = w := by
  obtain ⟨bb, o, ea, hat⟩ := hl.D.2.2 a (by rw [List.length_map]; exact ha)
  simp only [List.getElem_map] at hat
  have hI := hl.Di t.ds[a] (List.getElem_mem ha)
  obtain ⟨d, ed⟩ : ∃ d, t.ds[a] = d := ⟨_, rfl⟩
  rw [ed] at hat hI
  have k0 : w.cell? ⟨bb, o + a * 2, none⟩ = some (.int .u8 d.k) := by have := hat 0 (by omega); rw [Nat.add_zero] at this; exact this
  have k1 : w.cell? ⟨bb, o + a * 2 + 1, none⟩ = some (.int .i64 d.a) := hat 1 (by omega)
  have c4 := hk.c4
  rw [ea] at c4
  have ha1 : (a : Int) < (t.ds.length : Int) := by omega
  have hr1 : t.rs.length ≤ 12 := hs.1
  have hc1 : t.cs.length ≤ 1024 := hs.2.1
  have hd1 : t.ds.length ≤ 4096 := hs.2.2
  rw [show t.ds.getD a ⟨0, 0⟩ = d by rw [List.getD_eq_getElem?_getD, List.getElem?_eq_getElem ha, ed]; rfl]
  have c1 := hk.c1
  have c3 := hk.c3
  clear hat hk hl ed ea hs hI
  unfold standB
  cases h1 : (d.k == 1) with
  | true =>
    have cW := within_any 0 d.a ((t.cs.length : Int) - 1) w
    go_enter Tryz.func88, Tryz.ntmps88
    go_wp2_with fail
    refine cW.mono ?_
    rintro e w5 ⟨rfl, rfl⟩
    go_wp2_with fail
    go_ret
    exact ⟨by simp [*], rfl⟩
  | false =>
    cases h2 : (d.k == 2) with
    | true =>
      have cW := within_any 1 d.a 6 w
      go_enter Tryz.func88, Tryz.ntmps88
      go_wp2_with fail
      refine cW.mono ?_
      rintro e w5 ⟨rfl, rfl⟩
      go_wp2_with fail
      go_ret
      exact ⟨by simp [*], rfl⟩
    | false =>
      cases h3 : (d.k == 3) with
      | true =>
        have cW := within_any 1 d.a 3 w
        go_enter Tryz.func88, Tryz.ntmps88
        go_wp2_with fail
        refine cW.mono ?_
        rintro e w5 ⟨rfl, rfl⟩
        go_wp2_with fail
        go_ret
        exact ⟨by simp [*], rfl⟩
      | false =>
        cases h4 : (d.k == 4) with
        | true =>
          have cW := within_any 0 d.a ((t.rs.length : Int) - 1) w
          go_enter Tryz.func88, Tryz.ntmps88
          go_wp2_with fail
          refine cW.mono ?_
          rintro e w5 ⟨rfl, rfl⟩
          go_wp2_with fail
          go_ret
          exact ⟨by simp [*], rfl⟩
        | false =>
          cases h5 : (d.k == 5) with
          | true =>
            have cW := within_any 1 d.a 16 w
            go_enter Tryz.func88, Tryz.ntmps88
            go_wp2_with fail
            refine cW.mono ?_
            rintro e w5 ⟨rfl, rfl⟩
            go_wp2_with fail
            go_ret
            exact ⟨by simp [*], rfl⟩
          | false =>
            cases h6 : (d.k == 6) with
            | true =>
              have cW := within_any ((a : Int) + 1) d.a b w
              go_enter Tryz.func88, Tryz.ntmps88
              go_wp2_with fail
              refine cW.mono ?_
              rintro e w5 ⟨rfl, rfl⟩
              go_wp2_with fail
              go_ret
              exact ⟨by simp [*], rfl⟩
            | false =>
              cases h7 : (d.k == 7) with
              | true =>
                have cW := within_any ((a : Int) + 1) d.a b w
                go_enter Tryz.func88, Tryz.ntmps88
                go_wp2_with fail
                refine cW.mono ?_
                rintro e w5 ⟨rfl, rfl⟩
                go_wp2_with fail
                go_ret
                exact ⟨by simp [*], rfl⟩
              | false =>
                cases h8 : (d.k == 8) with
                | true =>
                  have cW := within_any ((a : Int) + 1) d.a b w
                  go_enter Tryz.func88, Tryz.ntmps88
                  go_wp2_with fail
                  refine cW.mono ?_
                  rintro e w5 ⟨rfl, rfl⟩
                  go_wp2_with fail
                  go_ret
                  exact ⟨by simp [*], rfl⟩
                | false =>
                  cases h9 : (d.k == 9) with
                  | true =>
                    have cW := within_any ((a : Int) + 1) d.a b w
                    go_enter Tryz.func88, Tryz.ntmps88
                    go_wp2_with fail
                    refine cW.mono ?_
                    rintro e w5 ⟨rfl, rfl⟩
                    go_wp2_with fail
                    go_ret
                    exact ⟨by simp [*], rfl⟩
                  | false =>
                    go_enter Tryz.func88, Tryz.ntmps88
                    go_wp2_with fail
                    go_ret
                    exact ⟨by simp [*], rfl⟩
end Go.Proofs.YteedmmljahgpjabGreatDoor
