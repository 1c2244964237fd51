import Derived.Test.YteedmmljahgpjabDoorM11
/-
  How many steps and actions a state, a table can need.
-/
namespace Go.Proofs.YteedmmljahgpjabDoor
open Go.RowKit
set_option linter.unusedVariables false
set_option linter.unusedSimpArgs false
theorem size34' : (Tryd.prog.info? 39).map (·.size) = some 2 := by kernel_rfl
def coV (q : Int × Int) : Array Value := #[.int .i64 q.1, .int .i64 q.2]
theorem coV_all (q : Int × Int) : (coV q).all (·.oneCell') = true := by simp [coV, Value.oneCell']
def GdB (g : GdM) : Prop := LenW g.wh ∧ g.rs.length ≤ 8 ∧ ∀ r ∈ g.rs, ∀ x ∈ hasL r, LenW x
set_option maxRecDepth 100000 in
set_option maxHeartbeats 4000000 in
theorem boundOf_any (gs : List GdM) (a : Option Addr) (c : Nat) (w : World) (hk : SlAt w 5 a c (gs.map GdM.vals)) (hl : ∀ g ∈ gs, GdL w g) (hB : ∀ g ∈ gs, GdB g) (h12 : gs.length ≤ 12) : Calls Tryd.prog 21 #[.slice a gs.length c] w fun e w' => e = .returned (.agg (coV (boundS gs))) ∧ Below w.heap.size w w' := by
  have hb1 := below_new w (.cells #[.int .i64 0, .int .i64 0] 39)
  have hn1 := heap_new w (.cells #[.int .i64 0, .int .i64 0] 39)
  obtain ⟨W1, e1⟩ : ∃ W, w.alloc (.cells #[.int .i64 0, .int .i64 0] 39) = W := ⟨_, rfl⟩
  have E1 : Hid (w.alloc (.cells #[.int .i64 0, .int .i64 0] 39) = W1) := e1
  rw [e1] at hb1 hn1
  have HB1 : Hid (Below w.heap.size w W1) := hb1
  have HN1 : Hid (W1.heap[w.heap.size]? = some (.cells #[.int .i64 0, .int .i64 0] 39 (0, 0))) := hn1
  have HSG : Hid (SlAt w 5 a c (gs.map GdM.vals)) := hk
  have HGI : Hid (∀ g ∈ gs, GdL w g) := hl
  have HGB : Hid (∀ g ∈ gs, GdB g) := hB
  obtain ⟨S, eS⟩ : ∃ S, bndL (0, 0, 0) gs = S := ⟨_, rfl⟩
  have HS : Hid (S = bndL (0, 0, 0) (gs.drop 0)) := by show _ = _; rw [← eS]; rfl
  have HF : Hid (boundS gs = (S.1 + S.2.1, S.2.2)) := by show _ = _; unfold boundS; rw [eS]
  have hm := run_max
  clear hb1 hn1 e1 hk hl hB eS
  go_enter Tryd.func21, Tryd.ntmps21
  go_upto_region 1 with fail
  rw [E1.out]
  clear E1
  go_wp2_with fail
  go_loopw [3, 4, 5, 10] (fun f3 f4 f5 q wr => ∃ (i : Nat) (n1 n2 n3 : Int), i ≤ gs.length ∧ q = .int .i64 i ∧ f3 = .int .i64 n1 ∧ f4 = .int .i64 n2 ∧ f5 = .int .i64 n3 ∧ (0 ≤ n1 ∧ n1 ≤ 4096 * i) ∧ (0 ≤ n2 ∧ n2 ≤ 131072) ∧ (0 ≤ n3 ∧ n3 ≤ 8) ∧ Hid (Below w.heap.size w wr) ∧ Hid (wr.heap[w.heap.size]? = some (.cells #[.int .i64 0, .int .i64 0] 39 (0, 0))) ∧ Hid (S = bndL (n1, n2, n3) (gs.drop i))) (fun _ _ _ q _ => gs.length - (intOf q).toNat)
  case atStart => exact ⟨0, 0, 0, 0, by omega, rfl, rfl, rfl, rfl, by omega, by omega, by omega, HB1, HN1, HS⟩
  case round =>
    obtain ⟨i, n1, n2, n3, hi, rfl, rfl, rfl, rfl, h1, h2, h3, HBR, HNR, HRR⟩ := hrel
    by_cases hlt : i < gs.length
    · have hlt' : (i : Int) < (gs.length : Int) := by omega
      have hmx : (i : Int) + 1 ≤ 9223372036854775807 := by have h1 := HSG.out.1; have h2 := HSG.out.2.1; rw [List.length_map] at h1; omega
      obtain ⟨bb, o, ea, hat⟩ := (HSG.out.on (mapz GdM.sz _) HBR.out).2.2 i (by rw [List.length_map]; exact hlt)
      simp only [List.getElem_map] at hat
      have HMEM : Hid (gs[i] ∈ gs) := List.getElem_mem hlt
      have HD : Hid (S = bndL (n1 + gs[i].wh.len, mxN n2 (stepsN gs[i].rs), mxN n3 (actsN gs[i].rs)) (gs.drop (i + 1))) := by show _ = _; rw [HRR.out, List.drop_eq_getElem_cons hlt]; rfl
      obtain ⟨d, ed⟩ : ∃ d, gs[i] = d := ⟨_, rfl⟩
      rw [ed] at hat HMEM HD
      have HRG : Hid (wr.rangeAt bb (o + i * 5) d.vals.toList) := fun j v hv => by
        have hj : j < 5 := (List.getElem?_eq_some_iff.1 hv).1
        rw [hat j hj, ← hv]; simp
      have HZ : Hid ((wr.alloc (.cells #[.int .i64 0, .int .i64 0, .int .u16 0, .int .u16 0, .slice none 0 0] 51)).heap[wr.heap.size]? = some (.cells #[.int .i64 0, .int .i64 0, .int .u16 0, .int .u16 0, .slice none 0 0] 51 (0, 0))) := heap_new _ _
      have HWX : Hid (Below wr.heap.size wr ((wr.alloc (.cells #[.int .i64 0, .int .i64 0, .int .u16 0, .int .u16 0, .slice none 0 0] 51)).setRow wr.heap.size d.vals)) := below_row (below_new _ _) (Nat.le_refl _) _
      have HNX : Hid (((wr.alloc (.cells #[.int .i64 0, .int .i64 0, .int .u16 0, .int .u16 0, .slice none 0 0] 51)).setRow wr.heap.size d.vals).heap[wr.heap.size]? = some (.cells d.vals 51 (0, 0))) := setRow_heap _ _ _ _ _ _ HZ.out
      subst ea
      clear hat ed
      go_upto_region 5 with (first | (refine wpList_load_mid rfl 51 (.tmp 12) rfl bb (o + i * 5) rfl d.vals.toList _ HRG.out Tryd.underlying51 rfl (by show _ = some 5; exact size68') ?_; rw [Array.toArray_toList]) | (refine wpList_store_row rfl 51 (.tmp 7) (.tmp 13) rfl wr.heap.size d.vals rfl rfl 51 #[.int .i64 0, .int .i64 0, .int .u16 0, .int .u16 0, .slice none 0 0] HZ.out size68' rfl (allGd d) ?_))
      generalize World.setRow _ _ _ = WX at HWX HNX ⊢
      clear HZ HRG
      have HBX : Hid (Below w.heap.size w WX) := below2 HBR.out HWX.out
      have HZX : Hid (WX.heap[w.heap.size]? = some (.cells #[.int .i64 0, .int .i64 0] 39 (0, 0))) := (HWX.out.block _ (Array.getElem?_eq_some_iff.1 HNR.out).1).trans HNR.out
      have HGL : Hid (GdL w d) := HGI.out d HMEM.out
      obtain ⟨hgw, hg8, hgr⟩ := HGB.out d HMEM.out
      have HGR : Hid (∀ r ∈ d.rs, ∀ x ∈ hasL r, LenW x) := hgr
      have hsb := stepsN_le d.rs hgr
      have hab := actsN_le d.rs
      have x0 : WX.cell? ⟨wr.heap.size, 0, none⟩ = some (.int .i64 d.wh.f) := cell_of HNX.out 0
      have x1 : WX.cell? ⟨wr.heap.size, 1, none⟩ = some (.int .i64 d.wh.t) := cell_of HNX.out 1
      have cL := length_any d.wh ⟨by have := hgw.1; omega, by have := hgw.2; omega⟩ WX
      unfold Sp.vals at cL
      obtain ⟨hw0, hw1⟩ := hgw
      obtain ⟨YL, eYL⟩ : ∃ q, d.wh.len = q := ⟨_, rfl⟩
      rw [eYL] at cL HD hw0 hw1
      obtain ⟨SN, eSN⟩ : ∃ q, stepsN d.rs = q := ⟨_, rfl⟩
      obtain ⟨AN, eAN⟩ : ∃ q, actsN d.rs = q := ⟨_, rfl⟩
      rw [eSN, eAN] at HD
      rw [eSN] at hsb
      rw [eAN] at hab
      have HSN : Hid (stepsN d.rs = SN) := eSN
      have HAN : Hid (actsN d.rs = AN) := eAN
      have hsum : n1 + YL ≤ 9223372036854775807 ∧ -9223372036854775808 ≤ n1 + YL := by omega
      obtain ⟨hsu1, hsu2⟩ := hsum
      have HBD : Hid ((0 ≤ n1 ∧ n1 ≤ 4096 * i) ∧ (0 ≤ n2 ∧ n2 ≤ 131072) ∧ (0 ≤ n3 ∧ n3 ≤ 8) ∧ (0 ≤ YL ∧ YL ≤ 4096) ∧ (0 ≤ SN ∧ SN ≤ 131072) ∧ (0 ≤ AN ∧ AN ≤ 8)) := ⟨h1, h2, h3, ⟨hw0, hw1⟩, by omega, by omega⟩
      clear HRR HBR HMEM eYL eSN eAN HNR hgr h1 h2 h3 hw0 hw1 hsb hab
      go_wp2_with fail
      refine cL.mono ?_
      rintro e w7 ⟨rfl, hb7⟩
      have HB7 : Hid (Below w.heap.size w w7) := below2 HBX.out hb7
      have HZ7 : Hid (w7.heap[w.heap.size]? = some (.cells #[.int .i64 0, .int .i64 0] 39 (0, 0))) := (hb7.block _ (Array.getElem?_eq_some_iff.1 HZX.out).1).trans HZX.out
      have HN7 : Hid (w7.heap[wr.heap.size]? = some (.cells d.vals 51 (0, 0))) := (hb7.block _ (Array.getElem?_eq_some_iff.1 HNX.out).1).trans HNX.out
      have y4 : w7.cell? ⟨wr.heap.size, 4, none⟩ = some (.slice d.a d.rs.length d.c) := cell_of HN7.out 4
      have cS := steps_any d.rs d.a d.c w7 (HGL.out.2.2.2.1.on (mapz RowM.sz _) HB7.out) HGR.out hg8
      rw [HSN.out] at cS
      clear cL hb7 HBX HZX HNX HWX x0 x1
      go_wp2_with fail
      refine cS.mono ?_
      rintro e w8 ⟨rfl, hb8⟩
      have HB8 : Hid (Below w.heap.size w w8) := below2 HB7.out hb8
      have HZ8 : Hid (w8.heap[w.heap.size]? = some (.cells #[.int .i64 0, .int .i64 0] 39 (0, 0))) := (hb8.block _ (Array.getElem?_eq_some_iff.1 HZ7.out).1).trans HZ7.out
      have HN8 : Hid (w8.heap[wr.heap.size]? = some (.cells d.vals 51 (0, 0))) := (hb8.block _ (Array.getElem?_eq_some_iff.1 HN7.out).1).trans HN7.out
      have z4 : w8.cell? ⟨wr.heap.size, 4, none⟩ = some (.slice d.a d.rs.length d.c) := cell_of HN8.out 4
      have cA := actions_any d.rs d.a d.c w8 (HGL.out.2.2.2.1.on (mapz RowM.sz _) HB8.out) hg8
      rw [HAN.out] at cA
      clear cS hb8 HB7 HZ7 HN7 y4
      go_upto_region 7 with fail
      obtain ⟨M2, eM2⟩ : ∃ q, mxN n2 SN = q := ⟨_, rfl⟩
      have HM2 : Hid (mxN n2 SN = M2) := eM2
      unfold mxN at eM2
      rw [eM2]
      clear eM2
      go_wp2_with fail
      refine cA.mono ?_
      rintro e w9 ⟨rfl, hb9⟩
      have HB9 : Hid (Below w.heap.size w w9) := below2 HB8.out hb9
      have HZ9 : Hid (w9.heap[w.heap.size]? = some (.cells #[.int .i64 0, .int .i64 0] 39 (0, 0))) := (hb9.block _ (Array.getElem?_eq_some_iff.1 HZ8.out).1).trans HZ8.out
      clear cA hb9 HB8 HZ8 HN8 z4
      go_wp2_with fail
      exact ⟨⟨i + 1, n1 + YL, mxN n2 SN, mxN n3 AN, hlt, rfl, rfl, by rw [HM2.out], rfl, by have := HBD.out; omega, by have := HBD.out; unfold mxN; split <;> omega, by have := HBD.out; unfold mxN; split <;> omega, HB9, HZ9, HD⟩, by simp only [intOf]; omega⟩
    · obtain rfl : i = gs.length := by omega
      have hnot : ¬ (gs.length : Int) < (gs.length : Int) := by omega
      have HE3 : Hid (boundS gs = (n1 + n2, n3)) := by show _ = _; rw [HF.out, HRR.out, List.drop_length]; rfl
      have HBS : Hid (Below w.heap.size w (wr.setRow w.heap.size (coV (n1 + n2, n3)))) := below_row HBR.out (Nat.le_refl _) _
      have HNS : Hid ((wr.setRow w.heap.size (coV (n1 + n2, n3))).heap[w.heap.size]? = some (.cells (coV (n1 + n2, n3)) 39 (0, 0))) := setRow_heap _ _ _ _ _ _ HNR.out
      go_wp2_with (refine wpList_store_row rfl 39 (.tmp 2) (.tmp 34) rfl w.heap.size (coV (n1 + n2, n3)) rfl rfl 39 #[.int .i64 0, .int .i64 0] HNR.out size34' rfl (coV_all _) ?_)
      exact bodyPost_ret (results_cell_row rfl _ _ w.heap.size 39 (coV (n1 + n2, n3)) (0, 0) _ rfl HNS.out Tryd.underlying39 rfl size34') rfl ⟨by rw [HE3.out], HBS.out⟩
end Go.Proofs.YteedmmljahgpjabDoor

/-
  Bound of any table.
-/
namespace Go.Proofs.YteedmmljahgpjabDoor
open Go.RowKit
set_option linter.unusedVariables false
set_option linter.unusedSimpArgs false
theorem gdsN_r (sl : Int) (nr ns : Nat) : ∀ (l : List GdM) (p q : Int), gdsN sl nr ns p l = some q → ∀ g ∈ l, g.rs.length ≤ 8
  | [], p, q, h => fun x hx => by simp at hx
  | y :: l, p, q, h => by
    unfold gdsN at h
    obtain ⟨r, hr, h⟩ := Option.bind_eq_some_iff.1 h
    unfold gdN at hr
    split at hr
    · rename_i hb
      intro g hg
      rcases List.mem_cons.1 hg with rfl | hg
      · exact rowsB8 hb
      · exact gdsN_r sl nr ns l r q h g hg
    · cases hr
theorem stsN_r (sl : Int) (nr ns : Nat) : ∀ (l : List StM) (p q : Int), stsN sl nr ns p l = some q → ∀ s ∈ l, s.gs.length ≤ 12 ∧ ∀ g ∈ s.gs, g.rs.length ≤ 8
  | [], p, q, h => fun x hx => by simp at hx
  | y :: l, p, q, h => by
    unfold stsN at h
    split at h
    · cases h
    · rename_i hc
      obtain ⟨r, hr, h⟩ := Option.bind_eq_some_iff.1 h
      intro s hs
      rcases List.mem_cons.1 hs with rfl | hs
      · exact ⟨by omega, gdsN_r sl nr ns _ p r hr⟩
      · exact stsN_r sl nr ns l r q h s hs
theorem form_b {t : TbM} (h : formB t = true) : ∀ s ∈ t.ts, s.gs.length ≤ 12 ∧ ∀ g ∈ s.gs, GdB g := by
  obtain ⟨⟨_, _, hd⟩, hw⟩ := form_w h
  unfold formB at h
  rw [Bool.and_eq_true, Bool.and_eq_true] at h
  obtain ⟨_, h3⟩ := h
  unfold endB at h3
  split at h3
  · rename_i q hq
    intro s hs
    obtain ⟨h1, h2⟩ := stsN_r _ _ _ _ 0 q hq s hs
    refine ⟨h1, fun g hg => ?_⟩
    have hg' := hw s hs g hg
    have hl : ∀ x ∈ gSp g, LenW x := fun x hx => by
      have := hg' x hx
      unfold SpW at this
      unfold LenW Sp.len
      omega
    exact ⟨hl _ (List.mem_cons_self ..), h2 g hg, fun r hr x hx => hl x (List.mem_cons_of_mem _ (List.mem_flatten.2 ⟨hasL r, List.mem_map.2 ⟨r, hr, rfl⟩, hx⟩))⟩
  · cases h3
theorem check_form {t : TbM} (h : (checkE t == 0) = true) : formB t = true := by
  unfold checkE at h
  split at h
  · assumption
  · simp at h
set_option maxRecDepth 100000 in
set_option maxHeartbeats 4000000 in
theorem bound_any (t : TbM) (w : World) (hl : TbL w t) (htb : Tab w) : Calls Tryd.prog 10 #[.agg t.vals] w fun e w' => e = .returned (.tuple #[.agg (coV (boundN t)), .int .i64 (checkE t)]) ∧ Below w.heap.size w w' := by
  have hb1 := below_new w (.cells t.vals 26)
  have hn1 := heap_new w (.cells t.vals 26)
  have hs1 := size_alloc w (.cells t.vals 26)
  obtain ⟨W1, e1⟩ : ∃ W, w.alloc (.cells t.vals 26) = W := ⟨_, rfl⟩
  have E1 : Hid (w.alloc (.cells t.vals 26) = W1) := e1
  rw [e1] at hb1 hn1 hs1
  have hb2 := below_new W1 (.cells #[.int .i64 0, .int .i64 0] 39)
  have hn2 := heap_new W1 (.cells #[.int .i64 0, .int .i64 0] 39)
  obtain ⟨W2, e2⟩ : ∃ W, W1.alloc (.cells #[.int .i64 0, .int .i64 0] 39) = W := ⟨_, rfl⟩
  have E2 : Hid (W1.alloc (.cells #[.int .i64 0, .int .i64 0] 39) = W2) := e2
  rw [e2] at hb2 hn2
  rw [hs1] at hn2
  have HT2 : Hid (W2.heap[w.heap.size]? = some (.cells t.vals 26 (0, 0))) := (hb2.block _ (by omega)).trans hn1
  have HB2 : Hid (Below w.heap.size w W2) := below2 hb1 hb2
  obtain ⟨g2, e3⟩ : ∃ g, w.heap.size + 1 = g := ⟨_, rfl⟩
  rw [e3] at hn2
  have HN2 : Hid (W2.heap[g2]? = some (.cells #[.int .i64 0, .int .i64 0] 39 (0, 0))) := hn2
  have HG2 : Hid (w.heap.size + 1 = g2) := e3
  have hg2 : w.heap.size ≤ g2 := by omega
  have HTL : Hid (TbL w t) := hl
  have cC := check_any t W2 (hl.on HB2.out) (htb.on HB2.out)
  unfold boundN
  clear hb1 hn1 hs1 e1 hb2 hn2 e2 e3 hl htb
  cases hz : (checkE t == 0) with
  | false =>
    have hq : (checkE t != 0) = true := by simp [bne, hz]
    rw [if_neg (by simp)]
    obtain ⟨E, eE⟩ : ∃ q, checkE t = q := ⟨_, rfl⟩
    rw [eE] at cC hq hz ⊢
    clear eE
    go_enter Tryd.func10, Tryd.ntmps10
    go_upto_region 1 with fail
    rw [E1.out, E2.out, HG2.out]
    clear E1 E2
    go_wp2_with (refine wpList_load_row rfl 26 (.tmp 1) rfl w.heap.size rfl 26 t.vals (0, 0) _ HT2.out Tryd.underlying26 rfl size26' ?_)
    refine cC.mono ?_
    rintro e w3 ⟨rfl, hb3⟩
    have HB3 : Hid (Below w.heap.size w w3) := below2 HB2.out hb3
    have HN3 : Hid (w3.heap[g2]? = some (.cells #[.int .i64 0, .int .i64 0] 39 (0, 0))) := (hb3.block _ (Array.getElem?_eq_some_iff.1 HN2.out).1).trans HN2.out
    have HBS : Hid (Below w.heap.size w (w3.setRow g2 (coV (0, 0)))) := below_row HB3.out hg2 _
    have HNS : Hid ((w3.setRow g2 (coV (0, 0))).heap[g2]? = some (.cells (coV (0, 0)) 39 (0, 0))) := setRow_heap _ _ _ _ _ _ HN3.out
    clear cC hb3
    go_wp2_with (refine wpList_store_row rfl 39 (.tmp 2) (.tmp 13) rfl g2 (coV (0, 0)) rfl rfl 39 #[.int .i64 0, .int .i64 0] HN3.out size34' rfl (coV_all _) ?_)
    exact bodyPost_ret (results_two rfl _ _ g2 39 (coV (0, 0)) (0, 0) _ rfl HNS.out Tryd.underlying39 rfl size34') rfl ⟨rfl, HBS.out⟩
  | true =>
    have hq : (checkE t != 0) = false := by simp [bne, hz]
    have HFB : Hid (∀ s ∈ t.ts, s.gs.length ≤ 12 ∧ ∀ g ∈ s.gs, GdB g) := form_b (check_form hz)
    rw [if_pos rfl]
    have hE : checkE t = 0 := by simpa using hz
    rw [hE] at cC ⊢
    obtain ⟨S, eS⟩ : ∃ S, bndT (0, 0) t.ts = S := ⟨_, rfl⟩
    have HS : Hid (S = bndT (0, 0) (t.ts.drop 0)) := by show _ = _; rw [← eS]; rfl
    rw [eS]
    clear hE hz hq eS
    have hm := run_max
    go_enter Tryd.func10, Tryd.ntmps10
    go_upto_region 1 with fail
    rw [E1.out, E2.out, HG2.out]
    clear E1 E2
    go_wp2_with (refine wpList_load_row rfl 26 (.tmp 1) rfl w.heap.size rfl 26 t.vals (0, 0) _ HT2.out Tryd.underlying26 rfl size26' ?_)
    refine cC.mono ?_
    rintro e w3 ⟨rfl, hb3⟩
    have hB3 := below2 HB2.out hb3
    have hN3 := (hb3.block _ (Array.getElem?_eq_some_iff.1 HN2.out).1).trans HN2.out
    have hT3 := (hb3.block _ (Array.getElem?_eq_some_iff.1 HT2.out).1).trans HT2.out
    have hb4 := below_new w3 (.cells #[.int .i64 0, .int .i64 0] 39)
    have HB4 : Hid (Below w.heap.size w (w3.alloc (.cells #[.int .i64 0, .int .i64 0] 39))) := below2 hB3 hb4
    have HN4 : Hid ((w3.alloc (.cells #[.int .i64 0, .int .i64 0] 39)).heap[g2]? = some (.cells #[.int .i64 0, .int .i64 0] 39 (0, 0))) := (hb4.block _ (Array.getElem?_eq_some_iff.1 hN3).1).trans hN3
    have HT4 : Hid ((w3.alloc (.cells #[.int .i64 0, .int .i64 0] 39)).heap[w.heap.size]? = some (.cells t.vals 26 (0, 0))) := (hb4.block _ (Array.getElem?_eq_some_iff.1 hT3).1).trans hT3
    have hM4 : (w3.alloc (.cells #[.int .i64 0, .int .i64 0] 39)).heap[w3.heap.size]? = some (.cells (coV (0, 0)) 39 (0, 0)) := heap_new _ _
    obtain ⟨g5, e5⟩ : ∃ q, w3.heap.size = q := ⟨_, rfl⟩
    have HG5 : Hid (w3.heap.size = g5) := e5
    rw [e5] at hM4
    have HM4 : Hid ((w3.alloc (.cells #[.int .i64 0, .int .i64 0] 39)).heap[g5]? = some (.cells (coV (0, 0)) 39 (0, 0))) := hM4
    have hge : w.heap.size ≤ g5 ∧ g5 ≠ g2 ∧ g5 ≠ w.heap.size := by
      have h1 := (Array.getElem?_eq_some_iff.1 hN3).1
      have h2 := (Array.getElem?_eq_some_iff.1 hT3).1
      omega
    have HGE : Hid (w.heap.size ≤ g5 ∧ g5 ≠ g2 ∧ g5 ≠ w.heap.size) := hge
    clear cC hb3 hB3 hN3 hT3 hb4 hM4 e5 hge
    go_upto_region 5 with fail
    try rw [HG5.out]
    generalize w3.alloc (.cells #[.int .i64 0, .int .i64 0] 39) = U at HB4 HN4 HT4 HM4 ⊢
    clear HG5
    have c5 : U.cell? ⟨w.heap.size, 5, none⟩ = some (.slice t.ta t.ts.length t.tc) := cell_of HT4.out 5
    have HTT : Hid (SlAt w 1 t.ta t.tc (t.ts.map StM.vals)) := HTL.out.T
    obtain ⟨ta, eta⟩ : ∃ q, t.ta = q := ⟨_, rfl⟩
    rw [eta] at c5 HTT
    clear eta
    go_wp2_with fail
    go_loopw [18] (fun q wr => ∃ (i : Nat) (m : Int × Int), i ≤ t.ts.length ∧ q = .int .i64 i ∧ Hid (Below w.heap.size w wr) ∧ Hid (wr.heap[g2]? = some (.cells #[.int .i64 0, .int .i64 0] 39 (0, 0))) ∧ Hid (wr.heap[g5]? = some (.cells (coV m) 39 (0, 0))) ∧ Hid (S = bndT m (t.ts.drop i))) (fun q _ => t.ts.length - (intOf q).toNat)
    case atStart => exact ⟨0, (0, 0), by omega, rfl, HB4, HN4, HM4, HS⟩
    case round =>
      obtain ⟨i, m, hi, rfl, HBR, HNR, HMR, HRR⟩ := hrel
      by_cases hlt : i < t.ts.length
      · have hlt' : (i : Int) < (t.ts.length : Int) := by omega
        have hmx : (i : Int) + 1 ≤ 9223372036854775807 := by have h1 := HTT.out.1; have h2 := HTT.out.2.1; rw [List.length_map] at h1; omega
        obtain ⟨bb, o, ea, hat⟩ := (HTT.out.on (mapz StM.sz _) HBR.out).2.2 i (by rw [List.length_map]; exact hlt)
        simp only [List.getElem_map] at hat
        have hsl := HTL.out.Ti t.ts[i] (List.getElem_mem hlt)
        have hfb := HFB.out t.ts[i] (List.getElem_mem hlt)
        have HD : Hid (S = bndT (mxN m.1 (boundS t.ts[i].gs).1, mxN m.2 (boundS t.ts[i].gs).2) (t.ts.drop (i + 1))) := by show _ = _; rw [HRR.out, List.drop_eq_getElem_cons hlt]; rfl
        obtain ⟨s, es⟩ : ∃ s, t.ts[i] = s := ⟨_, rfl⟩
        rw [es] at hat hsl HD hfb
        have hcc := hat 0 (by omega)
        have cs : wr.cell? ⟨bb, o + i, none⟩ = some (.slice s.a s.gs.length s.c) := by rw [Nat.mul_one, Nat.add_zero] at hcc; exact hcc
        have cB := boundOf_any s.gs s.a s.c wr (hsl.1.on (mapz GdM.sz _) HBR.out) (fun g hg => (hsl.2 g hg).on HBR.out) hfb.2 hfb.1
        obtain ⟨Q, eQ⟩ : ∃ q, boundS s.gs = q := ⟨_, rfl⟩
        rw [eQ] at cB HD
        subst ea
        clear hat es hcc hsl HRR hfb eQ
        go_wp2_with fail
        refine cB.mono ?_
        rintro e w6 ⟨rfl, hb6⟩
        have hB6 := below2 HBR.out hb6
        have hN6 := (hb6.block _ (Array.getElem?_eq_some_iff.1 HNR.out).1).trans HNR.out
        have hM6 := (hb6.block _ (Array.getElem?_eq_some_iff.1 HMR.out).1).trans HMR.out
        have HZ : Hid ((w6.alloc (.cells #[.int .i64 0, .int .i64 0] 39)).heap[w6.heap.size]? = some (.cells #[.int .i64 0, .int .i64 0] 39 (0, 0))) := heap_new _ _
        have hWX : Below w6.heap.size w6 ((w6.alloc (.cells #[.int .i64 0, .int .i64 0] 39)).setRow w6.heap.size (coV Q)) := below_row (below_new _ _) (Nat.le_refl _) _
        have HNX : Hid (((w6.alloc (.cells #[.int .i64 0, .int .i64 0] 39)).setRow w6.heap.size (coV Q)).heap[w6.heap.size]? = some (.cells (coV Q) 39 (0, 0))) := setRow_heap _ _ _ _ _ _ HZ.out
        have HB7 : Hid (Below w.heap.size w ((w6.alloc (.cells #[.int .i64 0, .int .i64 0] 39)).setRow w6.heap.size (coV Q))) := below2 hB6 hWX
        have HN7 : Hid (((w6.alloc (.cells #[.int .i64 0, .int .i64 0] 39)).setRow w6.heap.size (coV Q)).heap[g2]? = some (.cells #[.int .i64 0, .int .i64 0] 39 (0, 0))) := (hWX.block _ (Array.getElem?_eq_some_iff.1 hN6).1).trans hN6
        have HM7 : Hid (((w6.alloc (.cells #[.int .i64 0, .int .i64 0] 39)).setRow w6.heap.size (coV Q)).heap[g5]? = some (.cells (coV m) 39 (0, 0))) := (hWX.block _ (Array.getElem?_eq_some_iff.1 hM6).1).trans hM6
        have hlt8 : g5 < w6.heap.size := (Array.getElem?_eq_some_iff.1 hM6).1
        clear cB hb6 hB6 hN6 hM6 hWX HBR HNR HMR cs
        go_upto_region 9 with (refine wpList_store_row rfl 39 (.tmp 8) (.tmp 23) rfl w6.heap.size (coV Q) rfl rfl 39 #[.int .i64 0, .int .i64 0] HZ.out size34' rfl (coV_all _) ?_)
        obtain ⟨g8, e8⟩ : ∃ q, w6.heap.size = q := ⟨_, rfl⟩
        rw [e8] at HNX HB7 HN7 HM7 hlt8 ⊢
        generalize World.setRow _ _ _ = W7 at HNX HB7 HN7 HM7 ⊢
        clear HZ e8
        have m0 : W7.cell? ⟨g5, 0, none⟩ = some (.int .i64 m.1) := cell_of HM7.out 0
        have q0 : W7.cell? ⟨g8, 0, none⟩ = some (.int .i64 Q.1) := cell_of HNX.out 0
        have f0 : W7.frozen? ⟨g5, 0, none⟩ = false := frozen_of HM7.out 0
        obtain ⟨X1, eX1⟩ : ∃ q, mxN m.1 Q.1 = q := ⟨_, rfl⟩
        obtain ⟨X2, eX2⟩ : ∃ q, mxN m.2 Q.2 = q := ⟨_, rfl⟩
        rw [eX1, eX2] at HD
        have HX : Hid (mxN m.1 Q.1 = X1 ∧ mxN m.2 Q.2 = X2) := ⟨eX1, eX2⟩
        have hP := heap_set (j := 0) (.int .i64 X1) HM7.out
        have HP : Hid ((W7.setCell ⟨g5, 0, none⟩ (.int .i64 X1)).heap[g5]? = some (.cells (coV (X1, m.2)) 39 (0, 0))) := hP
        have HQ : Hid ((W7.setCell ⟨g5, 0, none⟩ (.int .i64 X1)).heap[g8]? = some (.cells (coV Q) 39 (0, 0))) := (heap_setCell_other _ _ _ _ (by show g8 ≠ g5; omega)).trans HNX.out
        have HN8 : Hid ((W7.setCell ⟨g5, 0, none⟩ (.int .i64 X1)).heap[g2]? = some (.cells #[.int .i64 0, .int .i64 0] 39 (0, 0))) := (heap_setCell_other _ _ _ _ (by show g2 ≠ g5; have := HGE.out; omega)).trans HN7.out
        have HB8 : Hid (Below w.heap.size w (W7.setCell ⟨g5, 0, none⟩ (.int .i64 X1))) := HB7.out.setCell (by show w.heap.size ≤ g5; have := HGE.out; omega) _
        unfold mxN at eX1
        clear eX2 hP HNX HN7 HM7 HB7
        go_upto_region 10 with fail
        try rw [eX1]
        generalize W7.setCell ⟨g5, 0, none⟩ (.int .i64 X1) = W8 at HP HQ HN8 HB8 ⊢
        clear eX1 m0 q0 f0
        have m1 : W8.cell? ⟨g5, 1, none⟩ = some (.int .i64 m.2) := cell_of HP.out 1
        have q1 : W8.cell? ⟨g8, 1, none⟩ = some (.int .i64 Q.2) := cell_of HQ.out 1
        have f1 : W8.frozen? ⟨g5, 1, none⟩ = false := frozen_of HP.out 1
        have hP := heap_set (j := 1) (.int .i64 X2) HP.out
        have HP9 : Hid ((W8.setCell ⟨g5, 1, none⟩ (.int .i64 X2)).heap[g5]? = some (.cells (coV (X1, X2)) 39 (0, 0))) := hP
        have HN9 : Hid ((W8.setCell ⟨g5, 1, none⟩ (.int .i64 X2)).heap[g2]? = some (.cells #[.int .i64 0, .int .i64 0] 39 (0, 0))) := (heap_setCell_other _ _ _ _ (by show g2 ≠ g5; have := HGE.out; omega)).trans HN8.out
        have HB9 : Hid (Below w.heap.size w (W8.setCell ⟨g5, 1, none⟩ (.int .i64 X2))) := HB8.out.setCell (by show w.heap.size ≤ g5; have := HGE.out; omega) _
        have eX2 := HX.out.2
        unfold mxN at eX2
        clear hP HP HQ HN8 HB8 HX
        go_upto_region 11 with fail
        try rw [eX2]
        generalize W8.setCell ⟨g5, 1, none⟩ (.int .i64 X2) = W9 at HP9 HN9 HB9 ⊢
        clear eX2 m1 q1 f1
        go_wp2_with fail
        exact ⟨⟨i + 1, (X1, X2), hlt, rfl, HB9, HN9, HP9, HD⟩, by simp only [intOf]; omega⟩
      · obtain rfl : i = t.ts.length := by omega
        have hnot : ¬ (t.ts.length : Int) < (t.ts.length : Int) := by omega
        have HE3 : Hid (S = m) := by show _ = _; rw [HRR.out, List.drop_length]; rfl
        have HBS : Hid (Below w.heap.size w (wr.setRow g2 (coV m))) := below_row HBR.out hg2 _
        have HNS : Hid ((wr.setRow g2 (coV m)).heap[g2]? = some (.cells (coV m) 39 (0, 0))) := setRow_heap _ _ _ _ _ _ HNR.out
        go_wp2_with (first | (refine wpList_load_row rfl 39 (.tmp 5) rfl g5 rfl 39 (coV m) (0, 0) _ HMR.out Tryd.underlying39 rfl size34' ?_) | (refine wpList_store_row rfl 39 (.tmp 2) (.tmp 37) rfl g2 (coV m) rfl rfl 39 #[.int .i64 0, .int .i64 0] HNR.out size34' rfl (coV_all _) ?_))
        exact bodyPost_ret (results_two rfl _ _ g2 39 (coV m) (0, 0) _ rfl HNS.out Tryd.underlying39 rfl size34') rfl ⟨by rw [HE3.out]; rfl, HBS.out⟩
end Go.Proofs.YteedmmljahgpjabDoor

/-
  The writer: numbers one behind the other.
-/
namespace Go.Proofs.YteedmmljahgpjabDoor
open Go.RowKit
set_option linter.unusedVariables false
set_option linter.unusedSimpArgs false
def uvals (n : Int) : Array Value := #[.int .u64 n]
theorem uvals_all (n : Int) : (uvals n).all (·.oneCell') = true := by simp [uvals, Value.oneCell']
theorem inf104 : (Tryd.prog.info? 98).map (fun i => (i.zero, i.size, i.bytes)) = some (some (.int .u64 0), 1, 8) := by kernel_rfl
/-- A box is written. -/
theorem OwnK.put {w V : World} {b t : Nat} {x : Value} {bs : List (Nat × Nat × Array Value)} {e sz : Nat} {v : Value} {vs : List (Array Value)} (h : OwnK w V ((b, t, #[x]) :: bs) e sz v vs) (hN : ∀ p ∈ bs, p.1 ≠ b) (u : Value) : OwnK w (V.setCell ⟨b, 0, none⟩ u) ((b, t, #[u]) :: bs) e sz v vs := by
  obtain ⟨q1, q2, q3⟩ := h.K _ (List.mem_cons_self ..)
  refine ⟨owns_blk' h.R fun g hg => heap_setCell_other _ _ _ _ (fun e => q3 (by rw [hg, e])), h.Z, h.B.setCell q2 _, fun p hp => ?_⟩
  rcases List.mem_cons.1 hp with rfl | hp
  · exact ⟨heap_set u q1, q2, q3⟩
  · obtain ⟨r1, r2, r3⟩ := h.K p (List.mem_cons_of_mem _ hp)
    exact ⟨(heap_setCell_other _ _ _ _ (hN p hp)).trans r1, r2, r3⟩
structure Wr (w0 V : World) (b : Nat) (bs : List (Nat × Nat × Array Value)) (zs : List Int) : Prop where
  H : ∃ v, OwnK w0 V ((b, 79, #[v]) :: bs) 98 1 v (zs.map uvals)
  N : ∀ p ∈ bs, p.1 ≠ b
theorem Wr.below {w0 V : World} {b : Nat} {bs : List (Nat × Nat × Array Value)} {zs : List Int} (h : Wr w0 V b bs zs) : Below w0.heap.size w0 V := by obtain ⟨v, h⟩ := h.H; exact h.B
theorem Wr.on {w0 V V' : World} {b : Nat} {bs : List (Nat × Nat × Array Value)} {zs : List Int} (h : Wr w0 V b bs zs) (k : Below V.heap.size V V') : Wr w0 V' b bs zs := by
  obtain ⟨v, h1⟩ := h.H
  exact ⟨⟨v, h1.on k⟩, h.N⟩
theorem Wr.blt {w0 V : World} {b : Nat} {bs : List (Nat × Nat × Array Value)} {zs : List Int} (h : Wr w0 V b bs zs) : b < V.heap.size := by
  obtain ⟨v, h1⟩ := h.H
  exact (Array.getElem?_eq_some_iff.1 h1.box).1
/-- A block that was made just now. -/
theorem Wr.add {w0 V V' : World} {b : Nat} {bs : List (Nat × Nat × Array Value)} {zs : List Int} (h : Wr w0 V b bs zs) (k : Below V.heap.size V V') (g t : Nat) (cs : Array Value) (hg : V.heap.size ≤ g) (hh : V'.heap[g]? = some (.cells cs t (0, 0))) : Wr w0 V' b ((g, t, cs) :: bs) zs := by
  have hb := h.blt
  obtain ⟨v, h1⟩ := h.H
  have h2 := h1.on k
  refine ⟨⟨v, h2.R, h2.Z, h2.B, fun p hp => ?_⟩, fun p hp => ?_⟩
  · rcases List.mem_cons.1 hp with rfl | hp
    · exact h2.K _ (List.mem_cons_self ..)
    · rcases List.mem_cons.1 hp with rfl | hp
      · exact ⟨hh, by have := h1.B.size; show w0.heap.size ≤ g; omega, fun e => by have := (h1.lt _ e).2; simp only at this; omega⟩
      · exact h2.K p (List.mem_cons_of_mem _ hp)
  · rcases List.mem_cons.1 hp with rfl | hp
    · show g ≠ b; omega
    · exact h.N p hp
theorem Wr.less {w0 V : World} {b : Nat} {q : Nat × Nat × Array Value} {bs : List (Nat × Nat × Array Value)} {zs : List Int} (h : Wr w0 V b (q :: bs) zs) : Wr w0 V b bs zs := by
  obtain ⟨v, h1⟩ := h.H
  refine ⟨⟨v, h1.R, h1.Z, h1.B, fun p hp => ?_⟩, fun p hp => h.N p (List.mem_cons_of_mem _ hp)⟩
  rcases List.mem_cons.1 hp with rfl | hp
  · exact h1.K _ (List.mem_cons_self ..)
  · exact h1.K p (List.mem_cons_of_mem _ (List.mem_cons_of_mem _ hp))
theorem Wr.box {w0 V : World} {b : Nat} {q : Nat × Nat × Array Value} {bs : List (Nat × Nat × Array Value)} {zs : List Int} (h : Wr w0 V b (q :: bs) zs) : V.heap[q.1]? = some (.cells q.2.2 q.2.1 (0, 0)) := by
  obtain ⟨v, h1⟩ := h.H
  exact (h1.K q (List.mem_cons_of_mem _ (List.mem_cons_self ..))).1
theorem Wr.at {w0 V : World} {b : Nat} {bs : List (Nat × Nat × Array Value)} {zs : List Int} (h : Wr w0 V b bs zs) {q : Nat × Nat × Array Value} (hq : q ∈ bs) : V.heap[q.1]? = some (.cells q.2.2 q.2.1 (0, 0)) := by
  obtain ⟨v, h1⟩ := h.H
  exact (h1.K q (List.mem_cons_of_mem _ hq)).1
def iA (ns : List Int) : Array Value := (ns.map (Value.int .i64)).toArray
theorem iA_at {V : World} {G : Nat} {ns : List Int} (h : V.heap[G]? = some (.cells (iA ns) 3 (0, 0))) (i : Nat) (hi : i < ns.length) : V.cell? ⟨G, i, none⟩ = some (.int .i64 ns[i]) := by
  rw [cell_of h]
  simp [iA, hi]
theorem wpList_slice1v {w : World} {ops : Array Oper} {rest : List Oper} {o : Oper} {a : Act} {Q : Exit → Act → World → Prop} (hgd : o.guard = none) (t e : TypeId) (x : Operand) (ho : o.op = .buildSlice t 1 #[(0, x)])
    (cs : Array Value) (u : Value) (hx : a.eval x = u) (hc : u.cells = cs) (n : Nat) (z : Value) (ht : Tryd.prog.underlying t = some (.slice e)) (by_ : Nat) (hi : (Tryd.prog.info? e).map (fun i => (i.zero, i.size, i.bytes)) = some (some z, n, by_)) (hz : z.cells.size = n) (hn : cs.size = n) (h0 : 0 < n) (h1 : n ≤ 1000)
    (h : wpList Tryd.prog ops Q rest (a.put o.dst (.slice (some ⟨w.heap.size, 0, none⟩) 1 1)) (w.alloc (.cells cs e))) : wpList Tryd.prog ops Q (o :: rest) a w := by
  refine wpList_plain hgd fun Kk hK => ?_
  obtain ⟨i0, hi0, hz0, hz1, hz2⟩ := info_parts hi
  have hu := run_underlying ht w
  have hf : Instr.fill (fun i => some (i * n, n)) ((Array.range (1 * n)).map (z.cells[· % z.cells.size]!)) [(0, u)] = some cs := by
    obtain ⟨A, hA⟩ : ∃ A, (Array.range (1 * n)).map (z.cells[· % z.cells.size]!) = A := ⟨_, rfl⟩
    have hAs : A.size = n := by rw [← hA]; simp
    rw [hA]
    have e3 : Instr.fill (fun i => some (i * n, n)) A [(0, u)] = if (decide (cs.size ≠ n) || decide (0 * n + cs.size > A.size)) = true then none else some (cs.zipIdx.foldl (fun (x : Array Value) (q : Value × Nat) => x.setIfInBounds (0 * n + q.2) q.1) A) := by rw [← hc]; rfl
    rw [e3, if_neg (by simp; omega)]
    exact congrArg some (fold_all n cs _ (by omega))
  have hr : (Instr.buildSlice t 1 #[(0, u)]).run Tryd.prog w = .ok (.slice (some ⟨w.heap.size, 0, none⟩) 1 1) (w.alloc (.cells cs e)) := by
    have e1 : ¬ n > 16777216 := by omega
    have e2 : ¬ n = 0 := by omega
    rw [show (1 * n) = n from Nat.one_mul n] at hf
    simp [Instr.buildSlice, Sem.run_bind, hu, sizeOf, zeroValue, typeInfo, hi0, hz0, hz1, e1, e2, hf, newRow, newObj]
    rfl
  unfold Oper.wp execOp
  simp only [ho, List.map_toArray, List.map_cons, List.map_nil, hx, Sem.run_bind, hr, Result.andThen_ok]
  exact hK _ _ h
set_option maxRecDepth 100000 in
set_option maxHeartbeats 4000000 in
theorem wput_any (b G : Nat) (ns zs : List Int) (bs : List (Nat × Nat × Array Value)) (w : World) (w0 : World) (h : Wr w0 w b ((G, 3, iA ns) :: bs) zs) (hns : ∀ n ∈ ns, 0 ≤ n ∧ n ≤ 9223372036854775807) (hz : zs.length + ns.length ≤ 1000000) : Calls Tryd.prog 26 #[.pointer (some ⟨b, 0, none⟩), .slice (some ⟨G, 0, none⟩) ns.length ns.length] w fun e w' => e = .returned (.tuple #[]) ∧ Wr w0 w' b ((G, 3, iA ns) :: bs) (zs ++ ns) := by
  have HW : Hid (Wr w0 w b ((G, 3, iA ns) :: bs) (zs ++ ns.take 0)) := by show Wr _ _ _ _ _; rw [List.take_zero, List.append_nil]; exact h
  have HNS : Hid (∀ n ∈ ns, 0 ≤ n ∧ n ≤ 9223372036854775807) := hns
  have HLZ : Hid (zs.length + ns.length ≤ 1000000) := hz
  have hnl : (ns.length : Int) ≤ 1000000 := by omega
  clear h hns hz
  go_enter Tryd.func26, Tryd.ntmps26
  go_wp2_with fail
  go_loopw [8] (fun q wr => ∃ (i : Nat), i ≤ ns.length ∧ q = .int .i64 i ∧ Hid (Wr w0 wr b ((G, 3, iA ns) :: bs) (zs ++ ns.take i))) (fun q _ => ns.length - (intOf q).toNat)
  case atStart => exact ⟨0, by omega, rfl, HW⟩
  case round =>
    obtain ⟨i, hi, rfl, HWR⟩ := hrel
    by_cases hlt : i < ns.length
    · have hlt' : (i : Int) < (ns.length : Int) := by omega
      have hmx : (i : Int) + 1 ≤ 9223372036854775807 := by omega
      have ci := iA_at HWR.out.box i hlt
      obtain ⟨hn0, hn1⟩ := HNS.out ns[i] (List.getElem_mem hlt)
      have HTK : Hid (ns.take (i + 1) = ns.take i ++ [ns[i]]) := List.take_succ_eq_append_getElem hlt
      obtain ⟨n, en⟩ : ∃ n, ns[i] = n := ⟨_, rfl⟩
      rw [en] at ci hn0 hn1 HTK
      have hmod : n % 18446744073709551616 = n := by omega
      obtain ⟨v, hO⟩ := HWR.out.H
      have HO : Hid (OwnK w0 wr ((b, 79, #[v]) :: (G, 3, iA ns) :: bs) 98 1 v ((zs ++ ns.take i).map uvals)) := hO
      have HNN : Hid (∀ p ∈ ((G, 3, iA ns) :: bs : List (Nat × Nat × Array Value)), p.1 ≠ b) := HWR.out.N
      have cb : wr.cell? ⟨b, 0, none⟩ = some v := cell_of hO.box 0
      have HLL : Hid (((zs ++ ns.take i).map uvals).length ≤ 1000000) := by show _ ≤ _; rw [List.length_map, List.length_append, List.length_take]; have := HLZ.out; omega
      clear en hO HWR
      go_wp2_with (first | (refine wpList_slice1v rfl 77 98 (.tmp 18) rfl (uvals n) (.int .u64 n) rfl rfl 1 _ Tryd.underlying77 8 inf104 rfl rfl (by decide) (by decide) ?_) | (refine app_one HO.out 77 (uvals n) rfl (uvals_all n) _ 8 Tryd.underlying77 inf104 rfl (by decide) HLL.out (by decide) rfl (.tmp 16) (.tmp 19) rfl rfl rfl ?_; intro g cap w8 HO8; have xb := cell_of HO8.box 0; have fb := frozen_of HO8.box 0))
      refine ⟨⟨i + 1, hlt, rfl, ?_⟩, by simp only [intOf]; omega⟩
      have hLe : ((zs ++ ns.take i).map uvals).length = zs.length + i := by rw [List.length_map, List.length_append, List.length_take]; omega
      rw [hLe] at HO8
      have hq := HO8.put HNN.out (.slice (some ⟨g, 0, none⟩) (zs.length + i + 1) cap)
      refine ⟨⟨.slice (some ⟨g, 0, none⟩) (zs.length + i + 1) cap, ?_⟩, HNN.out⟩
      rw [HTK.out, ← List.append_assoc, List.map_append]
      exact hq
    · obtain rfl : i = ns.length := by omega
      have hnot : ¬ (ns.length : Int) < (ns.length : Int) := by omega
      have HE : Hid (Wr w0 wr b ((G, 3, iA ns) :: bs) (zs ++ ns)) := by have := HWR.out; rw [List.take_length] at this; exact this
      go_wp2_with fail
      go_end0
      exact ⟨rfl, HE.out⟩
end Go.Proofs.YteedmmljahgpjabDoor
