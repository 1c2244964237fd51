import Derived.Test.YteedmmljahgpjabGreatDoorM5
/-
  Do a guard's rows fit; do its spans lie one behind the other; the sizes.
-/
namespace Go.Proofs.YteedmmljahgpjabGreatDoor
open Go.RowKit
set_option linter.unusedVariables false
set_option linter.unusedSimpArgs false
def rowsR (sl : Int) (nr ns : Nat) : List RowM → Bool
  | [] => true
  | r :: rs => rowB sl nr ns r && !(!rs.isEmpty && endsB r.k) && rowsR sl nr ns rs
def rowsB (sl : Int) (nr ns : Nat) (rs : List RowM) : Bool := withinB 1 rs.length 8 && rowsR sl nr ns rs
def liesN : Int → List Sp → Option Int
  | a, [] => some a
  | a, x :: l => if x.f != a || decide (x.t ≤ x.f) then none else liesN x.t l
def gSp (g : GdM) : List Sp := g.wh :: (g.rs.map hasL).flatten
theorem SlAt.blk {w w' : World} {n : Nat} {a : Option Addr} {c : Nat} {vs : List (Array Value)} (h : SlAt w n a c vs) (k : ∀ b o, a = some ⟨b, o, none⟩ → w'.heap[b]? = w.heap[b]?) : SlAt w' n a c vs := by
  refine ⟨h.1, h.2.1, fun i hi => ?_⟩
  obtain ⟨b, o, h1, h2⟩ := h.2.2 i hi
  exact ⟨b, o, h1, fun j hj => by rw [World.cell?_of_block (k b o h1)]; exact h2 j hj⟩
set_option maxRecDepth 100000 in
set_option maxHeartbeats 4000000 in
theorem sizesFit_any (t : TbM) (w : World) : Calls Tryz.prog 40 #[.agg t.vals] w fun e w' => e = .returned (.bool (sizesB t)) ∧ Below w.heap.size w w' := by
  have hb1 := below_new w (.cells t.vals 27)
  have hn1 := heap_new w (.cells t.vals 27)
  obtain ⟨W1, e1⟩ : ∃ W, w.alloc (.cells t.vals 27) = W := ⟨_, rfl⟩
  have E1 : Hid (w.alloc (.cells t.vals 27) = W1) := e1
  rw [e1] at hb1 hn1
  have HB1 : Hid (Below w.heap.size w W1) := hb1
  have c1 : W1.cell? ⟨w.heap.size, 1, none⟩ = some (.slice t.ra t.rs.length t.rc) := cell_of hn1 1
  have c2 : W1.cell? ⟨w.heap.size, 2, none⟩ = some (.int .i64 t.sl) := cell_of hn1 2
  have c3 : W1.cell? ⟨w.heap.size, 3, none⟩ = some (.slice t.ca t.cs.length t.cc) := cell_of hn1 3
  have c4 : W1.cell? ⟨w.heap.size, 4, none⟩ = some (.slice t.da t.ds.length t.dc) := cell_of hn1 4
  have c5 : W1.cell? ⟨w.heap.size, 5, none⟩ = some (.slice t.ta t.ts.length t.tc) := cell_of hn1 5
  clear hb1 e1 hn1
  have cW := within_any 0 t.sl 4 W1
  have cV := within_any 1 t.ts.length 12 W1
  unfold sizesB
  cases h1 : decide ((t.rs.length : Int) ≤ 12) with
  | false =>
    go_enter Tryz.func40, Tryz.ntmps40
    go_upto_region 1 with fail
    rw [E1.out]
    clear E1
    go_wp2_with fail
    go_ret
    exact ⟨rfl, HB1.out⟩
  | true =>
    cases h2 : withinB 0 t.sl 4 with
    | false =>
      rw [h2] at cW
      go_enter Tryz.func40, Tryz.ntmps40
      go_upto_region 1 with fail
      rw [E1.out]
      clear E1
      go_wp2_with fail
      refine cW.mono ?_
      rintro e w5 ⟨rfl, rfl⟩
      go_wp2_with fail
      go_ret
      exact ⟨rfl, HB1.out⟩
    | true =>
      rw [h2] at cW
      cases h3 : decide ((t.cs.length : Int) ≤ 1024) with
      | false =>
        go_enter Tryz.func40, Tryz.ntmps40
        go_upto_region 1 with fail
        rw [E1.out]
        clear E1
        go_wp2_with fail
        refine cW.mono ?_
        rintro e w5 ⟨rfl, rfl⟩
        go_wp2_with fail
        go_ret
        exact ⟨rfl, HB1.out⟩
      | true =>
        cases h4 : decide ((t.ds.length : Int) ≤ 4096) with
        | false =>
          go_enter Tryz.func40, Tryz.ntmps40
          go_upto_region 1 with fail
          rw [E1.out]
          clear E1
          go_wp2_with fail
          refine cW.mono ?_
          rintro e w5 ⟨rfl, rfl⟩
          go_wp2_with fail
          go_ret
          exact ⟨rfl, HB1.out⟩
        | true =>
          go_enter Tryz.func40, Tryz.ntmps40
          go_upto_region 1 with fail
          rw [E1.out]
          clear E1
          go_wp2_with fail
          refine cW.mono ?_
          rintro e w5 ⟨rfl, rfl⟩
          go_wp2_with fail
          refine cV.mono ?_
          rintro e w5 ⟨rfl, rfl⟩
          go_wp2_with fail
          go_ret
          exact ⟨rfl, HB1.out⟩
set_option maxRecDepth 100000 in
set_option maxHeartbeats 4000000 in
theorem rowsFit_any (t : TbM) (rs : List RowM) (a : Option Addr) (c : Nat) (w : World) (hl : TbL w t) (hk : SlAt w 11 a c (rs.map RowM.vals)) : Calls Tryz.prog 41 #[.agg t.vals, .slice a rs.length c] w fun e w' => e = .returned (.bool (rowsB t.sl t.rs.length t.ts.length rs)) ∧ Below w.heap.size w w' := by
  have hb1 := below_new w (.cells t.vals 27)
  have hn1 := heap_new w (.cells t.vals 27)
  obtain ⟨W1, e1⟩ : ∃ W, w.alloc (.cells t.vals 27) = W := ⟨_, rfl⟩
  have E1 : Hid (w.alloc (.cells t.vals 27) = W1) := e1
  rw [e1] at hb1 hn1
  have HB1 : Hid (Below w.heap.size w W1) := hb1
  have HN1 : Hid (W1.heap[w.heap.size]? = some (.cells t.vals 27 (0, 0))) := hn1
  have HS1 : Hid (W1.heap.size = w.heap.size + 1) := by show _ = _; rw [← e1]; exact size_alloc _ _
  clear hb1 e1 hn1
  have HSL : Hid (SlAt w 11 a c (rs.map RowM.vals)) := hk
  have HTL : Hid (TbL w t) := hl
  have cW := within_any 1 rs.length 8 W1
  unfold rowsB
  clear hk hl
  cases hw : withinB 1 rs.length 8 with
  | false =>
    rw [hw] at cW
    go_enter Tryz.func41, Tryz.ntmps41
    go_upto_region 1 with fail
    rw [E1.out]
    clear E1
    go_wp2_with fail
    refine cW.mono ?_
    rintro e w5 ⟨rfl, rfl⟩
    go_wp2_with fail
    go_ret
    exact ⟨rfl, HB1.out⟩
  | true =>
    rw [hw] at cW
    obtain ⟨hn0, hn8⟩ : (1 : Int) ≤ rs.length ∧ (rs.length : Int) ≤ 8 := by simpa [withinB] using hw
    obtain ⟨R, eR⟩ : ∃ R, rowsR t.sl t.rs.length t.ts.length rs = R := ⟨_, rfl⟩
    rw [eR]
    have HR0 : Hid (R = rowsR t.sl t.rs.length t.ts.length (rs.drop 0)) := by show _ = _; rw [← eR]; rfl
    clear eR hw
    go_enter Tryz.func41, Tryz.ntmps41
    go_upto_region 1 with fail
    rw [E1.out]
    clear E1
    go_wp2_with fail
    refine cW.mono ?_
    rintro e w5 ⟨rfl, rfl⟩
    clear cW
    go_wp2_with fail
    go_loopw [13] (fun q wr => ∃ (i : Nat), i ≤ rs.length ∧ q = .int .i64 i ∧ Hid (Below w.heap.size w wr) ∧ Hid (wr.heap[w.heap.size]? = some (.cells t.vals 27 (0, 0))) ∧ Hid (R = rowsR t.sl t.rs.length t.ts.length (rs.drop i))) (fun q _ => rs.length - (intOf q).toNat)
    case atStart => exact ⟨0, by omega, rfl, HB1, HN1, HR0⟩
    case round =>
      obtain ⟨i, hi, rfl, HBR, HPR, HRR⟩ := hrel
      by_cases hlt : i < rs.length
      · have hlt' : (i : Int) < (rs.length : Int) := by omega
        have hmx : (i : Int) + 1 ≤ 9223372036854775807 := by have h1 := HSL.out.1; have h2 := HSL.out.2.1; rw [List.length_map] at h1; omega
        obtain ⟨bb, o, ea, hat⟩ := (HSL.out.on (mapz RowM.sz _) HBR.out).2.2 i (by rw [List.length_map]; exact hlt)
        simp only [List.getElem_map] at hat
        have HMEM : Hid (rs[i] ∈ rs) := List.getElem_mem hlt
        have HD : Hid (R = (rowB t.sl t.rs.length t.ts.length rs[i] && !(!(rs.drop (i + 1)).isEmpty && endsB rs[i].k) && rowsR t.sl t.rs.length t.ts.length (rs.drop (i + 1)))) := by show _ = _; rw [HRR.out, List.drop_eq_getElem_cons hlt]; rfl
        obtain ⟨d, ed⟩ : ∃ d, rs[i] = d := ⟨_, rfl⟩
        rw [ed] at hat HMEM HD
        have HRG : Hid (wr.rangeAt bb (o + i * 11) d.vals.toList) := fun j v hv => by
          have hj : j < 11 := (List.getElem?_eq_some_iff.1 hv).1
          rw [hat j hj, ← hv]; simp
        have HZ : Hid ((wr.alloc (.cells #[.int .u8 0, .int .u8 0, .int .i64 0, .int .i64 0, .int .i64 0, .int .i64 0, .int .i64 0, .int .i64 0, .int .i64 0, .int .i64 0, .int .i64 0] 66)).heap[wr.heap.size]? = some (.cells #[.int .u8 0, .int .u8 0, .int .i64 0, .int .i64 0, .int .i64 0, .int .i64 0, .int .i64 0, .int .i64 0, .int .i64 0, .int .i64 0, .int .i64 0] 66 (0, 0))) := heap_new _ _
        have HWX : Hid (Below wr.heap.size wr ((wr.alloc (.cells #[.int .u8 0, .int .u8 0, .int .i64 0, .int .i64 0, .int .i64 0, .int .i64 0, .int .i64 0, .int .i64 0, .int .i64 0, .int .i64 0, .int .i64 0] 66)).setRow wr.heap.size d.vals)) := below_row (below_new _ _) (Nat.le_refl _) _
        have HNX : Hid (((wr.alloc (.cells #[.int .u8 0, .int .u8 0, .int .i64 0, .int .i64 0, .int .i64 0, .int .i64 0, .int .i64 0, .int .i64 0, .int .i64 0, .int .i64 0, .int .i64 0] 66)).setRow wr.heap.size d.vals).heap[wr.heap.size]? = some (.cells d.vals 66 (0, 0))) := setRow_heap _ _ _ _ _ _ HZ.out
        subst ea
        clear hat ed
        go_upto_region 6 with (first | (refine wpList_load_mid rfl 66 (.tmp 16) rfl bb (o + i * 11) rfl d.vals.toList _ HRG.out Tryz.underlying66 rfl (by show _ = some 11; exact size85') ?_; rw [Array.toArray_toList]) | (refine wpList_store_row rfl 66 (.tmp 6) (.tmp 17) rfl wr.heap.size d.vals rfl rfl 66 #[.int .u8 0, .int .u8 0, .int .i64 0, .int .i64 0, .int .i64 0, .int .i64 0, .int .i64 0, .int .i64 0, .int .i64 0, .int .i64 0, .int .i64 0] HZ.out size85' rfl (allRow d) ?_))
        generalize World.setRow _ _ _ = WX at HWX HNX ⊢
        clear HZ HRG
        have HBX : Hid (Below w.heap.size w WX) := below2 HBR.out HWX.out
        have HPX : Hid (WX.heap[w.heap.size]? = some (.cells t.vals 27 (0, 0))) := (HWX.out.block _ (Array.getElem?_eq_some_iff.1 HPR.out).1).trans HPR.out
        have cR := rowFits_any t d WX (HTL.out.on HBX.out)
        have hem : (rs.drop (i + 1)).isEmpty = !decide ((i : Int) < (rs.length : Int) - 1) := by
          by_cases hq : (i : Int) < (rs.length : Int) - 1
          · rw [decide_eq_true hq]
            have : (rs.drop (i + 1)).length ≠ 0 := by rw [List.length_drop]; omega
            cases hx : rs.drop (i + 1) with
            | nil => rw [hx] at this; simp at this
            | cons _ _ => rfl
          · rw [decide_eq_false hq, List.drop_of_length_le (by omega)]; rfl
        rw [hem] at HD
        have HNX2 : Hid (WX.heap[wr.heap.size]? = some (.cells d.vals 66 (0, 0))) := HNX.out
        clear hem HRR HBR HPR HMEM
        go_wp2_with (first | (refine wpList_load_row rfl 27 (.tmp 2) rfl w.heap.size rfl 27 t.vals (0, 0) _ HPX.out Tryz.underlying27 rfl size26' ?_) | (refine wpList_load_row rfl 66 (.tmp 6) rfl wr.heap.size rfl 66 d.vals (0, 0) _ HNX2.out Tryz.underlying66 rfl size85' ?_))
        refine cR.mono ?_
        rintro e w5 ⟨rfl, hb5⟩
        have HB5 : Hid (Below w.heap.size w w5) := below2 HBX.out hb5
        have HP5 : Hid (w5.heap[w.heap.size]? = some (.cells t.vals 27 (0, 0))) := (hb5.block _ (Array.getElem?_eq_some_iff.1 HPX.out).1).trans HPX.out
        have c0 : w5.cell? ⟨wr.heap.size, 0, none⟩ = some (.int .u8 d.k) := by rw [World.cell?_of_block (hb5.block _ (Array.getElem?_eq_some_iff.1 HNX2.out).1)]; exact cell_of HNX2.out 0
        clear cR hb5 HBX HPX HNX HNX2 HWX
        cases hr : rowB t.sl t.rs.length t.ts.length d with
        | false =>
          have HF : Hid (R = false) := by show _ = _; rw [HD.out, hr]; rfl
          go_wp2_with fail
          go_ret
          exact ⟨by rw [HF.out]; rfl, HB5.out⟩
        | true =>
          cases hj : decide ((i : Int) < (rs.length : Int) - 1) with
          | false =>
            have HF : Hid (R = rowsR t.sl t.rs.length t.ts.length (rs.drop (i + 1))) := by show _ = _; rw [HD.out, hr, hj]; rfl
            go_wp2_with fail
            exact ⟨⟨i + 1, hlt, rfl, HB5, HP5, HF⟩, by simp only [intOf]; omega⟩
          | true =>
            have cE := ends_any d.k w5
            cases hd : endsB d.k with
            | true =>
              rw [hd] at cE
              have HF : Hid (R = false) := by show _ = _; rw [HD.out, hr, hj, hd]; rfl
              go_wp2_with fail
              refine cE.mono ?_
              rintro e w6 ⟨rfl, rfl⟩
              go_wp2_with fail
              go_ret
              exact ⟨by rw [HF.out]; rfl, HB5.out⟩
            | false =>
              rw [hd] at cE
              have HF : Hid (R = rowsR t.sl t.rs.length t.ts.length (rs.drop (i + 1))) := by show _ = _; rw [HD.out, hr, hj, hd]; rfl
              go_wp2_with fail
              refine cE.mono ?_
              rintro e w6 ⟨rfl, rfl⟩
              go_wp2_with fail
              exact ⟨⟨i + 1, hlt, rfl, HB5, HP5, HF⟩, by simp only [intOf]; omega⟩
      · obtain rfl : i = rs.length := by omega
        have hnot : ¬ (rs.length : Int) < (rs.length : Int) := by omega
        have HF : Hid (R = true) := by show _ = _; rw [HRR.out, List.drop_length]; rfl
        go_wp2_with fail
        go_ret
        exact ⟨by rw [HF.out]; rfl, HBR.out⟩
end Go.Proofs.YteedmmljahgpjabGreatDoor

/-
  Do a guard's spans lie one behind the other?
-/
namespace Go.Proofs.YteedmmljahgpjabGreatDoor
open Go.RowKit
set_option linter.unusedVariables false
set_option linter.unusedSimpArgs false
set_option maxRecDepth 100000 in
set_option maxHeartbeats 4000000 in
theorem lies_any (g : GdM) (A : Nat) (p : Int) (w : World) (hl : GdL w g) (h8 : g.rs.length ≤ 8) (hA : w.heap[A]? = some (.cells #[.int .i64 p] 3 (0, 0))) : Calls Tryz.prog 42 #[.agg g.vals, .pointer (some ⟨A, 0, none⟩)] w fun e w' => e = .returned (.bool (liesN p (gSp g)).isSome) ∧ Mv w w' (fun k => k = A) ∧ ∃ q, w'.heap[A]? = some (.cells #[.int .i64 q] 3 (0, 0)) ∧ ∀ y, liesN p (gSp g) = some y → q = y := by
  have hb1 := below_new w (.cells g.vals 49)
  have hn1 := heap_new w (.cells g.vals 49)
  obtain ⟨W1, e1⟩ : ∃ W, w.alloc (.cells g.vals 49) = W := ⟨_, rfl⟩
  have E1 : Hid (w.alloc (.cells g.vals 49) = W1) := e1
  rw [e1] at hb1 hn1
  have HB1 : Hid (Below w.heap.size w W1) := hb1
  have c0 : W1.cell? ⟨w.heap.size, 0, none⟩ = some (.int .i64 g.wh.f) := cell_of hn1 0
  have c1 : W1.cell? ⟨w.heap.size, 1, none⟩ = some (.int .i64 g.wh.t) := cell_of hn1 1
  have c4 : W1.cell? ⟨w.heap.size, 4, none⟩ = some (.slice g.a g.rs.length g.c) := cell_of hn1 4
  have HN1 : Hid (W1.heap[w.heap.size]? = some (.cells g.vals 49 (0, 0))) := hn1
  have HS1 : Hid (W1.heap.size = w.heap.size + 1) := by show _ = _; rw [← e1]; exact size_alloc _ _
  clear hb1 e1 hn1
  have HSL : Hid (SlAt w 11 g.a g.c (g.rs.map RowM.vals)) := hl.2.2.2.1
  have HA : Hid (w.heap[A]? = some (.cells #[.int .i64 p] 3 (0, 0))) := hA
  have HAL : Hid (A < w.heap.size) := (Array.getElem?_eq_some_iff.1 hA).1
  have HO1 := OwnK.nil (Below.refl w.heap.size w |>.trans HB1.out) 46 2
  have HG : Hid (gSp g = [g.wh] ++ (g.rs.map hasL).flatten) := rfl
  obtain ⟨rs, ers⟩ : ∃ q, g.rs = q := ⟨_, rfl⟩
  obtain ⟨ra, era⟩ : ∃ q, g.a = q := ⟨_, rfl⟩
  obtain ⟨SP, eSP⟩ : ∃ q, gSp g = q := ⟨_, rfl⟩
  rw [ers, era] at HSL c4
  rw [ers, eSP] at HG
  rw [eSP]
  obtain ⟨ws, ews⟩ : ∃ q, g.wh = q := ⟨_, rfl⟩
  rw [ews] at HG c0 c1
  have hrs8 : rs.length ≤ 8 := ers ▸ h8
  obtain ⟨L0, eL0⟩ : ∃ q, liesN p SP = q := ⟨_, rfl⟩
  have HL0 : Hid (L0 = liesN p (SP.drop 0)) := by show _ = _; rw [← eL0]; rfl
  rw [eL0]
  clear hl hA ers era eSP ews h8 eL0
  go_enter Tryz.func42, Tryz.ntmps42
  go_upto_region 1 with fail
  rw [E1.out]
  clear E1
  have hs1 := HS1.out
  go_upto_region 2 with (refine wpList_slice1 rfl 89 46 (.tmp 11) rfl ws.vals rfl 2 _ Tryz.underlying89 16 inf65 rfl rfl (by decide) (by decide) ?_)
  have HO2 : Hid (OwnK w (W1.alloc (.cells ws.vals 46)) [] 46 2 (.slice (some ⟨w.heap.size + 1, 0, none⟩) 1 1) ([ws].map Sp.vals)) := by
    have hh := heap_new W1 (.cells ws.vals 46)
    rw [hs1] at hh
    refine ⟨⟨rfl, .inr ⟨_, 1, ws.vals, rfl, by omega, hh, by simp, by unfold maxLen; omega, rfl, rfl⟩⟩, fun x hx => ?_, below2 HB1.out (below_new _ _), by simp⟩
    rw [show [ws].map Sp.vals = [ws.vals] from rfl, List.mem_singleton] at hx
    rw [hx]; rfl
  have hkk : (W1.alloc (.cells ws.vals 46)).heap[w.heap.size]? = W1.heap[w.heap.size]? := (below_new W1 (.cells ws.vals 46)).block _ (by omega)
  have d4 : (W1.alloc (.cells ws.vals 46)).cell? ⟨w.heap.size, 4, none⟩ = some (.slice ra rs.length g.c) := by rw [World.cell?_of_block hkk]; exact c4
  generalize W1.alloc (.cells ws.vals 46) = W2 at HO2 d4 ⊢
  clear c0 c1 c4 hkk HO1 HN1 HB1
  go_wp2_with fail
  go_loopw [5, 16] (fun fv q wr => ∃ (v : Value) (i : Nat), i ≤ rs.length ∧ fv = v ∧ q = .int .i64 i ∧ Hid (OwnK w wr [] 46 2 v (([ws] ++ ((rs.take i).map hasL).flatten).map Sp.vals)) ∧ Hid (((rs.take i).map hasL).flatten.length ≤ 4 * i)) (fun _ q _ => rs.length - (intOf q).toNat)
  case atStart => exact ⟨_, 0, by omega, rfl, rfl, HO2, by show _ ≤ _; simp⟩
  case round =>
    obtain ⟨v, i, hi, rfl, rfl, HOR, HLR⟩ := hrel
    by_cases hlt : i < rs.length
    · have hlt' : (i : Int) < (rs.length : Int) := by omega
      have hmx : (i : Int) + 1 ≤ 9223372036854775807 := by have h1 := HSL.out.1; have h2 := HSL.out.2.1; rw [List.length_map] at h1; omega
      obtain ⟨bb, o, ea, hat⟩ := (HSL.out.on (mapz RowM.sz _) HOR.out.B).2.2 i (by rw [List.length_map]; exact hlt)
      simp only [List.getElem_map] at hat
      have HMEM : Hid (rs[i] ∈ rs) := List.getElem_mem hlt
      have HD : Hid (((rs.take (i + 1)).map hasL).flatten = ((rs.take i).map hasL).flatten ++ hasL rs[i]) := by show _ = _; rw [List.take_succ_eq_append_getElem hlt, List.map_append, List.flatten_append, List.map_singleton, List.flatten_singleton]
      obtain ⟨d, ed⟩ : ∃ d, rs[i] = d := ⟨_, rfl⟩
      rw [ed] at hat HMEM HD
      have HRG : Hid (wr.rangeAt bb (o + i * 11) d.vals.toList) := fun j v hv => by
        have hj : j < 11 := (List.getElem?_eq_some_iff.1 hv).1
        rw [hat j hj, ← hv]; simp
      have HZ : Hid ((wr.alloc (.cells #[.int .u8 0, .int .u8 0, .int .i64 0, .int .i64 0, .int .i64 0, .int .i64 0, .int .i64 0, .int .i64 0, .int .i64 0, .int .i64 0, .int .i64 0] 66)).heap[wr.heap.size]? = some (.cells #[.int .u8 0, .int .u8 0, .int .i64 0, .int .i64 0, .int .i64 0, .int .i64 0, .int .i64 0, .int .i64 0, .int .i64 0, .int .i64 0, .int .i64 0] 66 (0, 0))) := heap_new _ _
      have HWX : Hid (Below wr.heap.size wr ((wr.alloc (.cells #[.int .u8 0, .int .u8 0, .int .i64 0, .int .i64 0, .int .i64 0, .int .i64 0, .int .i64 0, .int .i64 0, .int .i64 0, .int .i64 0, .int .i64 0] 66)).setRow wr.heap.size d.vals)) := below_row (below_new _ _) (Nat.le_refl _) _
      have HNX : Hid (((wr.alloc (.cells #[.int .u8 0, .int .u8 0, .int .i64 0, .int .i64 0, .int .i64 0, .int .i64 0, .int .i64 0, .int .i64 0, .int .i64 0, .int .i64 0, .int .i64 0] 66)).setRow wr.heap.size d.vals).heap[wr.heap.size]? = some (.cells d.vals 66 (0, 0))) := setRow_heap _ _ _ _ _ _ HZ.out
      subst ea
      clear hat ed
      go_upto_region 5 with (first | (refine wpList_load_mid rfl 66 (.tmp 18) rfl bb (o + i * 11) rfl d.vals.toList _ HRG.out Tryz.underlying66 rfl (by show _ = some 11; exact size85') ?_; rw [Array.toArray_toList]) | (refine wpList_store_row rfl 66 (.tmp 7) (.tmp 19) rfl wr.heap.size d.vals rfl rfl 66 #[.int .u8 0, .int .u8 0, .int .i64 0, .int .i64 0, .int .i64 0, .int .i64 0, .int .i64 0, .int .i64 0, .int .i64 0, .int .i64 0, .int .i64 0] HZ.out size85' rfl (allRow d) ?_))
      generalize World.setRow _ _ _ = WX at HWX HNX ⊢
      clear HZ HRG
      have HOX : Hid (OwnK w WX [] 46 2 _ (([ws] ++ ((rs.take i).map hasL).flatten).map Sp.vals)) := HOR.out.on HWX.out
      have cH := has_any d WX
      clear HOR HMEM
      go_wp2_with (refine wpList_load_row rfl 66 (.tmp 7) rfl wr.heap.size rfl 66 d.vals (0, 0) _ HNX.out Tryz.underlying66 rfl size85' ?_)
      refine cH.mono ?_
      rintro e w5 ⟨ua, uc, rfl, hU, hnil, hfr, hb5⟩
      have HO5 : Hid (OwnK w w5 [] 46 2 _ (([ws] ++ ((rs.take i).map hasL).flatten).map Sp.vals)) := HOX.out.on hb5
      have HU : Hid (SlAt w5 2 ua uc ((hasL d).map Sp.vals)) := hU
      have HNL : Hid ((hasL d).map Sp.vals = [] → ua = none ∧ uc = 0) := fun e => hnil (by simpa using e)
      have HL4 : Hid ((hasL d).length ≤ 4) := hasI_le d 4 (by omega)
      clear cH hb5 hU hnil HOX HWX HNX
      have hlm : ((hasL d).map Sp.vals).length = (hasL d).length := List.length_map ..
      go_wp2_with (refine app_many HO5.out 89 ((hasL d).map Sp.vals) (fun x hx => by obtain ⟨y, _, rfl⟩ := List.mem_map.1 hx; exact ⟨rfl, allSp y⟩) ua uc HU.out HNL.out _ 16 Tryz.underlying89 inf65 rfl (by decide) (by simp only [List.length_map, List.length_append, List.length_cons, List.length_nil]; have := HL4.out; have := HLR.out; omega) (by decide) rfl (.tmp 20) (.tmp 22) rfl rfl (by rw [hlm]; rfl) ?_; intro v8 w8 HO8)
      exact ⟨⟨v8, i + 1, hlt, rfl, rfl, by show OwnK _ _ _ _ _ _ _; rw [HD.out]; simpa using HO8, by show _ ≤ _; rw [HD.out, List.length_append]; have := HL4.out; have := HLR.out; omega⟩, by simp only [intOf]; omega⟩
    · obtain rfl : i = rs.length := by omega
      have hnot : ¬ (rs.length : Int) < (rs.length : Int) := by omega
      rename World => V
      have hspl : SP.length ≤ 33 := by rw [HG.out, List.length_append]; have := HLR.out; rw [List.take_length] at this; simp only [List.length_cons, List.length_nil]; omega
      have hoz := HOR.out
      rw [List.take_length, ← HG.out] at hoz
      have hoB := hoz.B
      obtain ⟨sa, sc, rfl, hS, hSb⟩ := hoz.sl2
      have HSS : Hid (SlAt V 2 sa sc (SP.map Sp.vals)) := hS
      have HSB : Hid (∀ b o, sa = some ⟨b, o, none⟩ → w.heap.size ≤ b ∧ b < V.heap.size) := hSb
      have HMW : Hid (Mv w V (fun k => k = A)) := Mv.ofBelow hoB
      have HAW : Hid (V.heap[A]? = some (.cells #[.int .i64 p] 3 (0, 0))) := (hoB.block _ HAL.out).trans HA.out
      clear HOR hoz hoB hS hSb HLR HG HO2 d4
      rw [List.length_map]
      go_wp2_with fail
      go_loopw [27] (fun q wr => ∃ (i : Nat) (y : Int), i ≤ SP.length ∧ q = .int .i64 i ∧ Hid (Mv V wr (fun k => k = A)) ∧ Hid (wr.heap[A]? = some (.cells #[.int .i64 y] 3 (0, 0))) ∧ Hid (L0 = liesN y (SP.drop i))) (fun q _ => SP.length - (intOf q).toNat)
      case atStart => exact ⟨0, p, by omega, rfl, Mv.refl _ _, HAW, HL0⟩
      case round =>
        obtain ⟨i, y, hi, rfl, HMZ, HAZ, HLZ⟩ := hrel
        by_cases hlt : i < SP.length
        · have HSZ : Hid (SlAt _ 2 sa sc (SP.map Sp.vals)) := HSS.out.blk fun b o e => HMZ.out.block b (HSB.out b o e).2 (fun e2 => by have := (HSB.out b o e).1; have := HAL.out; omega)
          have hlt' : (i : Int) < (SP.length : Int) := by omega
          have hmx : (i : Int) + 1 ≤ 9223372036854775807 := by have h1 := HSZ.out.1; have h2 := HSZ.out.2.1; rw [List.length_map] at h1; omega
          obtain ⟨bb, o, ea, hat⟩ := (HSZ.out.on (mapz Sp.sz _) (Below.refl _ _)).2.2 i (by rw [List.length_map]; exact hlt)
          simp only [List.getElem_map] at hat
          have HMEM : Hid (SP[i] ∈ SP) := List.getElem_mem hlt
          have HD : Hid (L0 = if SP[i].f != y || decide (SP[i].t ≤ SP[i].f) then none else liesN SP[i].t (SP.drop (i + 1))) := by show _ = _; rw [HLZ.out, List.drop_eq_getElem_cons hlt]; rfl
          obtain ⟨d, ed⟩ : ∃ d, SP[i] = d := ⟨_, rfl⟩
          rw [ed] at hat HMEM HD
          have HRG : Hid (wr.rangeAt bb (o + i * 2) d.vals.toList) := fun j v hv => by
            have hj : j < 2 := (List.getElem?_eq_some_iff.1 hv).1
            rw [hat j hj, ← hv]; simp
          have HZ : Hid ((wr.alloc (.cells #[.int .i64 0, .int .i64 0] 46)).heap[wr.heap.size]? = some (.cells #[.int .i64 0, .int .i64 0] 46 (0, 0))) := heap_new _ _
          have HWX : Hid (Below wr.heap.size wr ((wr.alloc (.cells #[.int .i64 0, .int .i64 0] 46)).setRow wr.heap.size d.vals)) := below_row (below_new _ _) (Nat.le_refl _) _
          have HNX : Hid (((wr.alloc (.cells #[.int .i64 0, .int .i64 0] 46)).setRow wr.heap.size d.vals).heap[wr.heap.size]? = some (.cells d.vals 46 (0, 0))) := setRow_heap _ _ _ _ _ _ HZ.out
          subst ea
          clear hat ed
          go_upto_region 10 with (first | (refine wpList_load_mid rfl 46 (.tmp 29) rfl bb (o + i * 2) rfl d.vals.toList _ HRG.out Tryz.underlying46 rfl (by show _ = some 2; exact size65') ?_; rw [Array.toArray_toList]) | (refine wpList_store_row rfl 46 (.tmp 9) (.tmp 30) rfl wr.heap.size d.vals rfl rfl 46 #[.int .i64 0, .int .i64 0] HZ.out size65' rfl (allSp d) ?_))
          generalize World.setRow _ _ _ = WX at HWX HNX ⊢
          clear HZ HRG
          have HMX : Hid (Mv V WX (fun k => k = A)) := HMZ.out.trans (Mv.ofBelow (F := fun _ => False) HWX.out) (fun _ e => e.elim)
          have HAX : Hid (WX.heap[A]? = some (.cells #[.int .i64 y] 3 (0, 0))) := (HWX.out.block _ (Array.getElem?_eq_some_iff.1 HAZ.out).1).trans HAZ.out
          have x0 : WX.cell? ⟨wr.heap.size, 0, none⟩ = some (.int .i64 d.f) := cell_of HNX.out 0
          have x1 : WX.cell? ⟨wr.heap.size, 1, none⟩ = some (.int .i64 d.t) := cell_of HNX.out 1
          have xA : WX.cell? ⟨A, 0, none⟩ = some (.int .i64 y) := cell_of HAX.out 0
          have fA : WX.frozen? ⟨A, 0, none⟩ = false := frozen_of HAX.out 0
          clear HMZ HAZ HLZ HSZ HMEM HNX HWX
          have hfail : ∀ n, L0 = none → Ending.returned (.bool false) = .returned (.bool L0.isSome) ∧ Mv w (WX.drewN n) (fun k => k = A) ∧ ∃ q, (WX.drewN n).heap[A]? = some (.cells #[.int .i64 q] 3 (0, 0)) ∧ ∀ z, L0 = some z → q = z := fun n hq => ⟨by rw [hq]; rfl, (HMW.out.trans HMX.out (fun _ e => .inl e)).trans (show Mv WX (WX.drewN n) (fun _ => False) from Mv.ofBelow ⟨rfl, rfl, rfl, Nat.le_refl _, fun _ _ => rfl⟩) (fun _ e => e.elim), y, HAX.out, fun z hz => by rw [hq] at hz; cases hz⟩
          have HFL : Hid (∀ n, L0 = none → Ending.returned (.bool false) = .returned (.bool L0.isSome) ∧ Mv w (WX.drewN n) (fun k => k = A) ∧ ∃ q, (WX.drewN n).heap[A]? = some (.cells #[.int .i64 q] 3 (0, 0)) ∧ ∀ z, L0 = some z → q = z) := hfail
          clear hfail
          cases h0 : (d.f == y) with
          | false =>
            have hne : (d.f != y) = true := by simp [bne, h0]
            have HQ : Hid (L0 = none) := by show _ = _; rw [HD.out, hne]; rfl
            go_upto_region 10 with fail
            go_quiet (fail)
            go_wp2_with fail
            go_ret
            exact HFL.out _ HQ.out
          | true =>
            have hne : (d.f != y) = false := by simp [bne, h0]
            cases h1 : decide (d.t ≤ d.f) with
            | true =>
              have HQ : Hid (L0 = none) := by show _ = _; rw [HD.out, hne, h1]; rfl
              go_upto_region 10 with fail
              go_quiet (fail)
              go_wp2_with fail
              go_ret
              exact HFL.out _ HQ.out
            | false =>
              have HQ : Hid (L0 = liesN d.t (SP.drop (i + 1))) := by show _ = _; rw [HD.out, hne, h1]; rfl
              have HMY : Hid (∀ n, Mv V ((WX.drewN n).setCell ⟨A, 0, none⟩ (.int .i64 d.t)) (fun k => k = A)) := fun n => (HMX.out.trans (show Mv WX (WX.drewN n) (fun _ => False) from Mv.ofBelow ⟨rfl, rfl, rfl, Nat.le_refl _, fun _ _ => rfl⟩) (fun _ e => e.elim)).setCell (a := ⟨A, 0, none⟩) (.inl rfl) _
              have HAY : Hid (∀ n, ((WX.drewN n).setCell ⟨A, 0, none⟩ (.int .i64 d.t)).heap[A]? = some (.cells #[.int .i64 d.t] 3 (0, 0))) := fun n => heap_set (w := WX.drewN n) (.int .i64 d.t) HAX.out
              clear HD HFL
              go_upto_region 10 with fail
              go_quiet (fail)
              go_wp2_with fail
              exact ⟨⟨i + 1, d.t, hlt, rfl, HMY.out _, HAY.out _, HQ⟩, by simp only [intOf]; omega⟩
        · obtain rfl : i = SP.length := by omega
          have hnot : ¬ (SP.length : Int) < (SP.length : Int) := by omega
          have HQ : Hid (L0 = some y) := by show _ = _; rw [HLZ.out, List.drop_length]; rfl
          go_wp2_with fail
          go_ret
          exact ⟨by rw [HQ.out]; rfl, HMW.out.trans HMZ.out (fun _ e => .inl e), y, HAZ.out, fun z hz => by rw [HQ.out] at hz; exact Option.some.inj hz⟩
end Go.Proofs.YteedmmljahgpjabGreatDoor
