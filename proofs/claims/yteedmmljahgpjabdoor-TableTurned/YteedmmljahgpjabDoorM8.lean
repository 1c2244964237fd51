import Derived.Test.YteedmmljahgpjabDoorM7
/-
  Do a guard's spans lie one behind the other?
-/
namespace Go.Proofs.YteedmmljahgpjabDoor
open Go.RowKit
set_option linter.unusedVariables false
set_option linter.unusedSimpArgs false
set_option maxRecDepth 100000 in
set_option maxHeartbeats 4000000 in
theorem lies_any (g : GdM) (A : Nat) (p : Int) (w : World) (hl : GdL w g) (h8 : g.rs.length ≤ 8) (hA : w.heap[A]? = some (.cells #[.int .i64 p] 3 (0, 0))) : Calls Tryd.prog 34 #[.agg g.vals, .pointer (some ⟨A, 0, none⟩)] w fun e w' => e = .returned (.bool (liesN p (gSp g)).isSome) ∧ Mv w w' (fun k => k = A) ∧ ∃ q, w'.heap[A]? = some (.cells #[.int .i64 q] 3 (0, 0)) ∧ ∀ y, liesN p (gSp g) = some y → q = y := by
  have hb1 := below_new w (.cells g.vals 51)
  have hn1 := heap_new w (.cells g.vals 51)
  obtain ⟨W1, e1⟩ : ∃ W, w.alloc (.cells g.vals 51) = W := ⟨_, rfl⟩
  have E1 : Hid (w.alloc (.cells g.vals 51) = W1) := e1
  rw [e1] at hb1 hn1
  have HB1 : Hid (Below w.heap.size w W1) := hb1
  have c0 : W1.cell? ⟨w.heap.size, 0, none⟩ = some (.int .i64 g.wh.f) := cell_of hn1 0
  have c1 : W1.cell? ⟨w.heap.size, 1, none⟩ = some (.int .i64 g.wh.t) := cell_of hn1 1
  have c4 : W1.cell? ⟨w.heap.size, 4, none⟩ = some (.slice g.a g.rs.length g.c) := cell_of hn1 4
  have HN1 : Hid (W1.heap[w.heap.size]? = some (.cells g.vals 51 (0, 0))) := hn1
  have HS1 : Hid (W1.heap.size = w.heap.size + 1) := by show _ = _; rw [← e1]; exact size_alloc _ _
  clear hb1 e1 hn1
  have HSL : Hid (SlAt w 11 g.a g.c (g.rs.map RowM.vals)) := hl.2.2.2.1
  have HA : Hid (w.heap[A]? = some (.cells #[.int .i64 p] 3 (0, 0))) := hA
  have HAL : Hid (A < w.heap.size) := (Array.getElem?_eq_some_iff.1 hA).1
  have HO1 := OwnK.nil (Below.refl w.heap.size w |>.trans HB1.out) 48 2
  have HG : Hid (gSp g = [g.wh] ++ (g.rs.map hasL).flatten) := rfl
  obtain ⟨rs, ers⟩ : ∃ q, g.rs = q := ⟨_, rfl⟩
  obtain ⟨ra, era⟩ : ∃ q, g.a = q := ⟨_, rfl⟩
  obtain ⟨SP, eSP⟩ : ∃ q, gSp g = q := ⟨_, rfl⟩
  rw [ers, era] at HSL c4
  rw [ers, eSP] at HG
  rw [eSP]
  obtain ⟨ws, ews⟩ : ∃ q, g.wh = q := ⟨_, rfl⟩
  rw [ews] at HG c0 c1
  have hrs8 : rs.length ≤ 8 := ers ▸ h8
  obtain ⟨L0, eL0⟩ : ∃ q, liesN p SP = q := ⟨_, rfl⟩
  have HL0 : Hid (L0 = liesN p (SP.drop 0)) := by show _ = _; rw [← eL0]; rfl
  rw [eL0]
  clear hl hA ers era eSP ews h8 eL0
  go_enter Tryd.func34, Tryd.ntmps34
  go_upto_region 1 with fail
  rw [E1.out]
  clear E1
  have hs1 := HS1.out
  go_upto_region 2 with (refine wpList_slice1 rfl 105 48 (.tmp 11) rfl ws.vals rfl 2 _ Tryd.underlying105 16 inf65 rfl rfl (by decide) (by decide) ?_)
  have HO2 : Hid (OwnK w (W1.alloc (.cells ws.vals 48)) [] 48 2 (.slice (some ⟨w.heap.size + 1, 0, none⟩) 1 1) ([ws].map Sp.vals)) := by
    have hh := heap_new W1 (.cells ws.vals 48)
    rw [hs1] at hh
    refine ⟨⟨rfl, .inr ⟨_, 1, ws.vals, rfl, by omega, hh, by simp, by unfold maxLen; omega, rfl, rfl⟩⟩, fun x hx => ?_, below2 HB1.out (below_new _ _), by simp⟩
    rw [show [ws].map Sp.vals = [ws.vals] from rfl, List.mem_singleton] at hx
    rw [hx]; rfl
  have hkk : (W1.alloc (.cells ws.vals 48)).heap[w.heap.size]? = W1.heap[w.heap.size]? := (below_new W1 (.cells ws.vals 48)).block _ (by omega)
  have d4 : (W1.alloc (.cells ws.vals 48)).cell? ⟨w.heap.size, 4, none⟩ = some (.slice ra rs.length g.c) := by rw [World.cell?_of_block hkk]; exact c4
  generalize W1.alloc (.cells ws.vals 48) = W2 at HO2 d4 ⊢
  clear c0 c1 c4 hkk HO1 HN1 HB1
  go_wp2_with fail
  go_loopw [5, 16] (fun fv q wr => ∃ (v : Value) (i : Nat), i ≤ rs.length ∧ fv = v ∧ q = .int .i64 i ∧ Hid (OwnK w wr [] 48 2 v (([ws] ++ ((rs.take i).map hasL).flatten).map Sp.vals)) ∧ Hid (((rs.take i).map hasL).flatten.length ≤ 4 * i)) (fun _ q _ => rs.length - (intOf q).toNat)
  case atStart => exact ⟨_, 0, by omega, rfl, rfl, HO2, by show _ ≤ _; simp⟩
  case round =>
    obtain ⟨v, i, hi, rfl, rfl, HOR, HLR⟩ := hrel
    by_cases hlt : i < rs.length
    · have hlt' : (i : Int) < (rs.length : Int) := by omega
      have hmx : (i : Int) + 1 ≤ 9223372036854775807 := by have h1 := HSL.out.1; have h2 := HSL.out.2.1; rw [List.length_map] at h1; omega
      obtain ⟨bb, o, ea, hat⟩ := (HSL.out.on (mapz RowM.sz _) HOR.out.B).2.2 i (by rw [List.length_map]; exact hlt)
      simp only [List.getElem_map] at hat
      have HMEM : Hid (rs[i] ∈ rs) := List.getElem_mem hlt
      have HD : Hid (((rs.take (i + 1)).map hasL).flatten = ((rs.take i).map hasL).flatten ++ hasL rs[i]) := by show _ = _; rw [List.take_succ_eq_append_getElem hlt, List.map_append, List.flatten_append, List.map_singleton, List.flatten_singleton]
      obtain ⟨d, ed⟩ : ∃ d, rs[i] = d := ⟨_, rfl⟩
      rw [ed] at hat HMEM HD
      have HRG : Hid (wr.rangeAt bb (o + i * 11) d.vals.toList) := fun j v hv => by
        have hj : j < 11 := (List.getElem?_eq_some_iff.1 hv).1
        rw [hat j hj, ← hv]; simp
      have HZ : Hid ((wr.alloc (.cells #[.int .u8 0, .int .u8 0, .int .i64 0, .int .i64 0, .int .i64 0, .int .i64 0, .int .i64 0, .int .i64 0, .int .i64 0, .int .i64 0, .int .i64 0] 72)).heap[wr.heap.size]? = some (.cells #[.int .u8 0, .int .u8 0, .int .i64 0, .int .i64 0, .int .i64 0, .int .i64 0, .int .i64 0, .int .i64 0, .int .i64 0, .int .i64 0, .int .i64 0] 72 (0, 0))) := heap_new _ _
      have HWX : Hid (Below wr.heap.size wr ((wr.alloc (.cells #[.int .u8 0, .int .u8 0, .int .i64 0, .int .i64 0, .int .i64 0, .int .i64 0, .int .i64 0, .int .i64 0, .int .i64 0, .int .i64 0, .int .i64 0] 72)).setRow wr.heap.size d.vals)) := below_row (below_new _ _) (Nat.le_refl _) _
      have HNX : Hid (((wr.alloc (.cells #[.int .u8 0, .int .u8 0, .int .i64 0, .int .i64 0, .int .i64 0, .int .i64 0, .int .i64 0, .int .i64 0, .int .i64 0, .int .i64 0, .int .i64 0] 72)).setRow wr.heap.size d.vals).heap[wr.heap.size]? = some (.cells d.vals 72 (0, 0))) := setRow_heap _ _ _ _ _ _ HZ.out
      subst ea
      clear hat ed
      go_upto_region 5 with (first | (refine wpList_load_mid rfl 72 (.tmp 18) rfl bb (o + i * 11) rfl d.vals.toList _ HRG.out Tryd.underlying72 rfl (by show _ = some 11; exact size85') ?_; rw [Array.toArray_toList]) | (refine wpList_store_row rfl 72 (.tmp 7) (.tmp 19) rfl wr.heap.size d.vals rfl rfl 72 #[.int .u8 0, .int .u8 0, .int .i64 0, .int .i64 0, .int .i64 0, .int .i64 0, .int .i64 0, .int .i64 0, .int .i64 0, .int .i64 0, .int .i64 0] HZ.out size85' rfl (allRow d) ?_))
      generalize World.setRow _ _ _ = WX at HWX HNX ⊢
      clear HZ HRG
      have HOX : Hid (OwnK w WX [] 48 2 _ (([ws] ++ ((rs.take i).map hasL).flatten).map Sp.vals)) := HOR.out.on HWX.out
      have cH := has_any d WX
      clear HOR HMEM
      go_wp2_with (refine wpList_load_row rfl 72 (.tmp 7) rfl wr.heap.size rfl 72 d.vals (0, 0) _ HNX.out Tryd.underlying72 rfl size85' ?_)
      refine cH.mono ?_
      rintro e w5 ⟨ua, uc, rfl, hU, hnil, hfr, hb5⟩
      have HO5 : Hid (OwnK w w5 [] 48 2 _ (([ws] ++ ((rs.take i).map hasL).flatten).map Sp.vals)) := HOX.out.on hb5
      have HU : Hid (SlAt w5 2 ua uc ((hasL d).map Sp.vals)) := hU
      have HNL : Hid ((hasL d).map Sp.vals = [] → ua = none ∧ uc = 0) := fun e => hnil (by simpa using e)
      have HL4 : Hid ((hasL d).length ≤ 4) := hasI_le d 4 (by omega)
      clear cH hb5 hU hnil HOX HWX HNX
      have hlm : ((hasL d).map Sp.vals).length = (hasL d).length := List.length_map ..
      go_wp2_with (refine app_many HO5.out 105 ((hasL d).map Sp.vals) (fun x hx => by obtain ⟨y, _, rfl⟩ := List.mem_map.1 hx; exact ⟨rfl, allSp y⟩) ua uc HU.out HNL.out _ 16 Tryd.underlying105 inf65 rfl (by decide) (by simp only [List.length_map, List.length_append, List.length_cons, List.length_nil]; have := HL4.out; have := HLR.out; omega) (by decide) rfl (.tmp 20) (.tmp 22) rfl rfl (by rw [hlm]; rfl) ?_; intro v8 w8 HO8)
      exact ⟨⟨v8, i + 1, hlt, rfl, rfl, by show OwnK _ _ _ _ _ _ _; rw [HD.out]; simpa using HO8, by show _ ≤ _; rw [HD.out, List.length_append]; have := HL4.out; have := HLR.out; omega⟩, by simp only [intOf]; omega⟩
    · obtain rfl : i = rs.length := by omega
      have hnot : ¬ (rs.length : Int) < (rs.length : Int) := by omega
      rename World => V
      have hspl : SP.length ≤ 33 := by rw [HG.out, List.length_append]; have := HLR.out; rw [List.take_length] at this; simp only [List.length_cons, List.length_nil]; omega
      have hoz := HOR.out
      rw [List.take_length, ← HG.out] at hoz
      have hoB := hoz.B
      obtain ⟨sa, sc, rfl, hS, hSb⟩ := hoz.sl2
      have HSS : Hid (SlAt V 2 sa sc (SP.map Sp.vals)) := hS
      have HSB : Hid (∀ b o, sa = some ⟨b, o, none⟩ → w.heap.size ≤ b ∧ b < V.heap.size) := hSb
      have HMW : Hid (Mv w V (fun k => k = A)) := Mv.ofBelow hoB
      have HAW : Hid (V.heap[A]? = some (.cells #[.int .i64 p] 3 (0, 0))) := (hoB.block _ HAL.out).trans HA.out
      clear HOR hoz hoB hS hSb HLR HG HO2 d4
      rw [List.length_map]
      go_wp2_with fail
      go_loopw [27] (fun q wr => ∃ (i : Nat) (y : Int), i ≤ SP.length ∧ q = .int .i64 i ∧ Hid (Mv V wr (fun k => k = A)) ∧ Hid (wr.heap[A]? = some (.cells #[.int .i64 y] 3 (0, 0))) ∧ Hid (L0 = liesN y (SP.drop i))) (fun q _ => SP.length - (intOf q).toNat)
      case atStart => exact ⟨0, p, by omega, rfl, Mv.refl _ _, HAW, HL0⟩
      case round =>
        obtain ⟨i, y, hi, rfl, HMZ, HAZ, HLZ⟩ := hrel
        by_cases hlt : i < SP.length
        · have HSZ : Hid (SlAt _ 2 sa sc (SP.map Sp.vals)) := HSS.out.blk fun b o e => HMZ.out.block b (HSB.out b o e).2 (fun e2 => by have := (HSB.out b o e).1; have := HAL.out; omega)
          have hlt' : (i : Int) < (SP.length : Int) := by omega
          have hmx : (i : Int) + 1 ≤ 9223372036854775807 := by have h1 := HSZ.out.1; have h2 := HSZ.out.2.1; rw [List.length_map] at h1; omega
          obtain ⟨bb, o, ea, hat⟩ := (HSZ.out.on (mapz Sp.sz _) (Below.refl _ _)).2.2 i (by rw [List.length_map]; exact hlt)
          simp only [List.getElem_map] at hat
          have HMEM : Hid (SP[i] ∈ SP) := List.getElem_mem hlt
          have HD : Hid (L0 = if SP[i].f != y || decide (SP[i].t ≤ SP[i].f) then none else liesN SP[i].t (SP.drop (i + 1))) := by show _ = _; rw [HLZ.out, List.drop_eq_getElem_cons hlt]; rfl
          obtain ⟨d, ed⟩ : ∃ d, SP[i] = d := ⟨_, rfl⟩
          rw [ed] at hat HMEM HD
          have HRG : Hid (wr.rangeAt bb (o + i * 2) d.vals.toList) := fun j v hv => by
            have hj : j < 2 := (List.getElem?_eq_some_iff.1 hv).1
            rw [hat j hj, ← hv]; simp
          have HZ : Hid ((wr.alloc (.cells #[.int .i64 0, .int .i64 0] 48)).heap[wr.heap.size]? = some (.cells #[.int .i64 0, .int .i64 0] 48 (0, 0))) := heap_new _ _
          have HWX : Hid (Below wr.heap.size wr ((wr.alloc (.cells #[.int .i64 0, .int .i64 0] 48)).setRow wr.heap.size d.vals)) := below_row (below_new _ _) (Nat.le_refl _) _
          have HNX : Hid (((wr.alloc (.cells #[.int .i64 0, .int .i64 0] 48)).setRow wr.heap.size d.vals).heap[wr.heap.size]? = some (.cells d.vals 48 (0, 0))) := setRow_heap _ _ _ _ _ _ HZ.out
          subst ea
          clear hat ed
          go_upto_region 10 with (first | (refine wpList_load_mid rfl 48 (.tmp 29) rfl bb (o + i * 2) rfl d.vals.toList _ HRG.out Tryd.underlying48 rfl (by show _ = some 2; exact size65') ?_; rw [Array.toArray_toList]) | (refine wpList_store_row rfl 48 (.tmp 9) (.tmp 30) rfl wr.heap.size d.vals rfl rfl 48 #[.int .i64 0, .int .i64 0] HZ.out size65' rfl (allSp d) ?_))
          generalize World.setRow _ _ _ = WX at HWX HNX ⊢
          clear HZ HRG
          have HMX : Hid (Mv V WX (fun k => k = A)) := HMZ.out.trans (Mv.ofBelow (F := fun _ => False) HWX.out) (fun _ e => e.elim)
          have HAX : Hid (WX.heap[A]? = some (.cells #[.int .i64 y] 3 (0, 0))) := (HWX.out.block _ (Array.getElem?_eq_some_iff.1 HAZ.out).1).trans HAZ.out
          have x0 : WX.cell? ⟨wr.heap.size, 0, none⟩ = some (.int .i64 d.f) := cell_of HNX.out 0
          have x1 : WX.cell? ⟨wr.heap.size, 1, none⟩ = some (.int .i64 d.t) := cell_of HNX.out 1
          have xA : WX.cell? ⟨A, 0, none⟩ = some (.int .i64 y) := cell_of HAX.out 0
          have fA : WX.frozen? ⟨A, 0, none⟩ = false := frozen_of HAX.out 0
          clear HMZ HAZ HLZ HSZ HMEM HNX HWX
          have hfail : ∀ n, L0 = none → Ending.returned (.bool false) = .returned (.bool L0.isSome) ∧ Mv w (WX.drewN n) (fun k => k = A) ∧ ∃ q, (WX.drewN n).heap[A]? = some (.cells #[.int .i64 q] 3 (0, 0)) ∧ ∀ z, L0 = some z → q = z := fun n hq => ⟨by rw [hq]; rfl, (HMW.out.trans HMX.out (fun _ e => .inl e)).trans (show Mv WX (WX.drewN n) (fun _ => False) from Mv.ofBelow ⟨rfl, rfl, rfl, Nat.le_refl _, fun _ _ => rfl⟩) (fun _ e => e.elim), y, HAX.out, fun z hz => by rw [hq] at hz; cases hz⟩
          have HFL : Hid (∀ n, L0 = none → Ending.returned (.bool false) = .returned (.bool L0.isSome) ∧ Mv w (WX.drewN n) (fun k => k = A) ∧ ∃ q, (WX.drewN n).heap[A]? = some (.cells #[.int .i64 q] 3 (0, 0)) ∧ ∀ z, L0 = some z → q = z) := hfail
          clear hfail
          cases h0 : (d.f == y) with
          | false =>
            have hne : (d.f != y) = true := by simp [bne, h0]
            have HQ : Hid (L0 = none) := by show _ = _; rw [HD.out, hne]; rfl
            go_upto_region 10 with fail
            go_quiet (fail)
            go_wp2_with fail
            go_ret
            exact HFL.out _ HQ.out
          | true =>
            have hne : (d.f != y) = false := by simp [bne, h0]
            cases h1 : decide (d.t ≤ d.f) with
            | true =>
              have HQ : Hid (L0 = none) := by show _ = _; rw [HD.out, hne, h1]; rfl
              go_upto_region 10 with fail
              go_quiet (fail)
              go_wp2_with fail
              go_ret
              exact HFL.out _ HQ.out
            | false =>
              have HQ : Hid (L0 = liesN d.t (SP.drop (i + 1))) := by show _ = _; rw [HD.out, hne, h1]; rfl
              have HMY : Hid (∀ n, Mv V ((WX.drewN n).setCell ⟨A, 0, none⟩ (.int .i64 d.t)) (fun k => k = A)) := fun n => (HMX.out.trans (show Mv WX (WX.drewN n) (fun _ => False) from Mv.ofBelow ⟨rfl, rfl, rfl, Nat.le_refl _, fun _ _ => rfl⟩) (fun _ e => e.elim)).setCell (a := ⟨A, 0, none⟩) (.inl rfl) _
              have HAY : Hid (∀ n, ((WX.drewN n).setCell ⟨A, 0, none⟩ (.int .i64 d.t)).heap[A]? = some (.cells #[.int .i64 d.t] 3 (0, 0))) := fun n => heap_set (w := WX.drewN n) (.int .i64 d.t) HAX.out
              clear HD HFL
              go_upto_region 10 with fail
              go_quiet (fail)
              go_wp2_with fail
              exact ⟨⟨i + 1, d.t, hlt, rfl, HMY.out _, HAY.out _, HQ⟩, by simp only [intOf]; omega⟩
        · obtain rfl : i = SP.length := by omega
          have hnot : ¬ (SP.length : Int) < (SP.length : Int) := by omega
          have HQ : Hid (L0 = some y) := by show _ = _; rw [HLZ.out, List.drop_length]; rfl
          go_wp2_with fail
          go_ret
          exact ⟨by rw [HQ.out]; rfl, HMW.out.trans HMZ.out (fun _ e => .inl e), y, HAZ.out, fun z hz => by rw [HQ.out] at hz; exact Option.some.inj hz⟩
end Go.Proofs.YteedmmljahgpjabDoor

/-
  Is a table well formed?
-/
namespace Go.Proofs.YteedmmljahgpjabDoor
open Go.RowKit
set_option linter.unusedVariables false
set_option linter.unusedSimpArgs false
def gdN (sl : Int) (nr ns : Nat) (g : GdM) (p : Int) : Option Int := if rowsB sl nr ns g.rs then liesN p (gSp g) else none
def gdsN (sl : Int) (nr ns : Nat) : Int → List GdM → Option Int
  | p, [] => some p
  | p, g :: l => (gdN sl nr ns g p).bind fun q => gdsN sl nr ns q l
def stsN (sl : Int) (nr ns : Nat) : Int → List StM → Option Int
  | p, [] => some p
  | p, s :: l => if (s.gs.length : Int) > 12 then none else (gdsN sl nr ns p s.gs).bind fun q => stsN sl nr ns q l
def endB (n : Nat) (o : Option Int) : Bool := match o with | some q => q == (n : Int) | none => false
def formB (t : TbM) : Bool := nameB t.x && sizesB t && endB t.ds.length (stsN t.sl t.rs.length t.ts.length 0 t.ts)
theorem rowsB8 {sl : Int} {nr ns : Nat} {rs : List RowM} (h : rowsB sl nr ns rs = true) : rs.length ≤ 8 := by
  unfold rowsB withinB at h
  simp at h
  omega
set_option maxRecDepth 100000 in
set_option maxHeartbeats 4000000 in
theorem wellFormed_any (t : TbM) (w : World) (hl : TbL w t) (htb : Tab w) : Calls Tryd.prog 19 #[.agg t.vals] w fun e w' => e = .returned (.bool (formB t)) ∧ Below w.heap.size w w' := by
  have hb1 := below_new w (.cells t.vals 26)
  have hn1 := heap_new w (.cells t.vals 26)
  obtain ⟨W1, e1⟩ : ∃ W, w.alloc (.cells t.vals 26) = W := ⟨_, rfl⟩
  have E1 : Hid (w.alloc (.cells t.vals 26) = W1) := e1
  rw [e1] at hb1 hn1
  have HB1 : Hid (Below w.heap.size w W1) := hb1
  have c0 : W1.cell? ⟨w.heap.size, 0, none⟩ = some (.string t.x) := cell_of hn1 0
  have HN1 : Hid (W1.heap[w.heap.size]? = some (.cells t.vals 26 (0, 0))) := hn1
  have HS1 : Hid (W1.heap.size = w.heap.size + 1) := by show _ = _; rw [← e1]; exact size_alloc _ _
  clear hb1 e1 hn1
  have cN := namep_any t.x hl.X W1 (htb.on HB1.out)
  have HTL : Hid (TbL w t) := hl
  obtain ⟨ANS, eA⟩ : ∃ q, formB t = q := ⟨_, rfl⟩
  have HA : Hid (ANS = (nameB t.x && sizesB t && endB t.ds.length (stsN t.sl t.rs.length t.ts.length 0 t.ts))) := eA.symm
  rw [eA]
  clear eA hl htb
  cases h1 : nameB t.x with
  | false =>
    rw [h1] at cN
    have HF : Hid (ANS = false) := by show _ = _; rw [HA.out, h1]; rfl
    go_enter Tryd.func19, Tryd.ntmps19
    go_upto_region 1 with fail
    rw [E1.out]
    clear E1
    go_wp2_with fail
    refine cN.mono ?_
    rintro e w2 ⟨rfl, hb2⟩
    have HB2 : Hid (Below w.heap.size w w2) := below2 HB1.out hb2
    go_wp2_with fail
    go_ret
    exact ⟨by rw [HF.out]; rfl, HB2.out⟩
  | true =>
    rw [h1] at cN
    go_enter Tryd.func19, Tryd.ntmps19
    go_upto_region 1 with fail
    rw [E1.out]
    clear E1
    go_wp2_with fail
    refine cN.mono ?_
    rintro e w2 ⟨rfl, hb2⟩
    have HB2 : Hid (Below w.heap.size w w2) := below2 HB1.out hb2
    have hk2 := hb2.block w.heap.size (by rw [HS1.out]; omega)
    have HN2 : Hid (w2.heap[w.heap.size]? = some (.cells t.vals 26 (0, 0))) := hk2.trans HN1.out
    have hsz2 : w.heap.size < w2.heap.size := (Array.getElem?_eq_some_iff.1 HN2.out).1
    have cS := sizesFit_any t w2
    unfold TbM.vals at cS
    have d0 : w2.cell? ⟨w.heap.size, 0, none⟩ = some (.string t.x) := cell_of HN2.out 0
    have d1 : w2.cell? ⟨w.heap.size, 1, none⟩ = some (.slice t.ra t.rs.length t.rc) := cell_of HN2.out 1
    have d2 : w2.cell? ⟨w.heap.size, 2, none⟩ = some (.int .i64 t.sl) := cell_of HN2.out 2
    have d3 : w2.cell? ⟨w.heap.size, 3, none⟩ = some (.slice t.ca t.cs.length t.cc) := cell_of HN2.out 3
    have d4 : w2.cell? ⟨w.heap.size, 4, none⟩ = some (.slice t.da t.ds.length t.dc) := cell_of HN2.out 4
    have d5 : w2.cell? ⟨w.heap.size, 5, none⟩ = some (.slice t.ta t.ts.length t.tc) := cell_of HN2.out 5
    clear cN hb2 hk2 c0 HN1 HB1 HS1
    cases h2 : sizesB t with
    | false =>
      rw [h2] at cS
      have HF : Hid (ANS = false) := by show _ = _; rw [HA.out, h1, h2]; rfl
      go_wp2_with fail
      refine cS.mono ?_
      rintro e w3 ⟨rfl, hb3⟩
      have HB3 : Hid (Below w.heap.size w w3) := below2 HB2.out hb3
      go_wp2_with fail
      go_ret
      exact ⟨by rw [HF.out]; rfl, HB3.out⟩
    | true =>
      rw [h2] at cS
      have HF : Hid (ANS = endB t.ds.length (stsN t.sl t.rs.length t.ts.length 0 (t.ts.drop 0))) := by show _ = _; rw [HA.out, h1, h2]; rfl
      clear HA h1 h2
      go_wp2_with fail
      refine cS.mono ?_
      rintro e w3 ⟨rfl, hb3⟩
      have hsz3 : w.heap.size < w3.heap.size := by have := hb3.size; omega
      have hN3 : (w3.alloc (.cells #[.int .i64 0] 3)).heap[w.heap.size]? = some (.cells t.vals 26 (0, 0)) := ((below_new w3 (.cells #[.int .i64 0] 3)).block _ hsz3).trans ((hb3.block _ hsz2).trans HN2.out)
      have HA3 : (w3.alloc (.cells #[.int .i64 0] 3)).heap[w3.heap.size]? = some (.cells #[.int .i64 0] 3 (0, 0)) := heap_new _ _
      have HB3 : Below w.heap.size w (w3.alloc (.cells #[.int .i64 0] 3)) := below2 (below2 HB2.out hb3) (below_new _ _)
      obtain ⟨A, eA⟩ : ∃ q, w3.heap.size = q := ⟨_, rfl⟩
      have HEA : Hid (w3.heap.size = A) := eA
      rw [eA] at HA3
      have HAG : Hid (w.heap.size < A) := by show _ < _; omega
      obtain ⟨W4, e4⟩ : ∃ W, w3.alloc (.cells #[.int .i64 0] 3) = W := ⟨_, rfl⟩
      have HE4 : Hid (w3.alloc (.cells #[.int .i64 0] 3) = W4) := e4
      rw [e4] at hN3 HA3 HB3
      have x0 : W4.cell? ⟨A, 0, none⟩ = some (.int .i64 0) := cell_of HA3 0
      have fA : W4.frozen? ⟨A, 0, none⟩ = false := frozen_of HA3 0
      have HA5 : Hid ((W4.setCell ⟨A, 0, none⟩ (.int .i64 0)).heap[A]? = some (.cells #[.int .i64 0] 3 (0, 0))) := heap_set _ HA3
      have HB5 : Hid (Below w.heap.size w (W4.setCell ⟨A, 0, none⟩ (.int .i64 0))) := HB3.setCell (by show w.heap.size ≤ A; omega) _
      have HN5 : Hid ((W4.setCell ⟨A, 0, none⟩ (.int .i64 0)).heap[w.heap.size]? = some (.cells t.vals 26 (0, 0))) := (heap_setCell_other _ _ _ _ (by show w.heap.size ≠ A; omega)).trans hN3
      clear cS hb3 hsz3 hsz2 HB2 HN2 hN3 HA3 HB3 e4 eA d0 d1 d2 d3 d4 d5
      go_upto_region 4 with (first | rw [HE4.out, HEA.out] | fail)
      try rw [HE4.out]
      try rw [HEA.out]
      generalize W4.setCell ⟨A, 0, none⟩ (.int .i64 0) = U at HA5 HB5 HN5 ⊢
      clear HE4 HEA x0 fA
      have c5 : U.cell? ⟨w.heap.size, 5, none⟩ = some (.slice t.ta t.ts.length t.tc) := cell_of HN5.out 5
      have HTT : Hid (SlAt w 1 t.ta t.tc (t.ts.map StM.vals)) := HTL.out.T
      obtain ⟨ta, eta⟩ : ∃ q, t.ta = q := ⟨_, rfl⟩
      rw [eta] at c5 HTT
      clear eta
      go_wp2_with fail
      go_loopw [20] (fun q wr => ∃ (i : Nat) (p : Int), i ≤ t.ts.length ∧ q = .int .i64 i ∧ Hid (Below w.heap.size w wr) ∧ Hid (wr.heap[w.heap.size]? = some (.cells t.vals 26 (0, 0))) ∧ Hid (wr.heap[A]? = some (.cells #[.int .i64 p] 3 (0, 0))) ∧ Hid (ANS = endB t.ds.length (stsN t.sl t.rs.length t.ts.length p (t.ts.drop i)))) (fun q _ => t.ts.length - (intOf q).toNat)
      case atStart => exact ⟨0, 0, by omega, rfl, HB5, HN5, HA5, HF⟩
      case round =>
        obtain ⟨i, p, hi, rfl, HBR, HNR, HAR, HRR⟩ := hrel
        by_cases hlt : i < t.ts.length
        · rename World => V
          have hlt' : (i : Int) < (t.ts.length : Int) := by omega
          have hmx : (i : Int) + 1 ≤ 9223372036854775807 := by have h1 := HTT.out.1; have h2 := HTT.out.2.1; rw [List.length_map] at h1; omega
          obtain ⟨bb, o, ea, hat⟩ := (HTT.out.on (mapz StM.sz _) HBR.out).2.2 i (by rw [List.length_map]; exact hlt)
          simp only [List.getElem_map] at hat
          have hsl := HTL.out.Ti t.ts[i] (List.getElem_mem hlt)
          have HD : Hid (ANS = endB t.ds.length (if (t.ts[i].gs.length : Int) > 12 then none else (gdsN t.sl t.rs.length t.ts.length p t.ts[i].gs).bind fun q => stsN t.sl t.rs.length t.ts.length q (t.ts.drop (i + 1)))) := by show _ = _; rw [HRR.out, List.drop_eq_getElem_cons hlt]; rfl
          obtain ⟨s, es⟩ : ∃ s, t.ts[i] = s := ⟨_, rfl⟩
          rw [es] at hat hsl HD
          have hc := hat 0 (by omega)
          have cs : V.cell? ⟨bb, o + i, none⟩ = some (.slice s.a s.gs.length s.c) := by rw [Nat.mul_one, Nat.add_zero] at hc; exact hc
          have HSG : Hid (SlAt w 5 s.a s.c (s.gs.map GdM.vals)) := hsl.1
          have HGI : Hid (∀ g ∈ s.gs, GdL w g) := hsl.2
          subst ea
          clear hat es hc hsl HRR
          obtain ⟨gs, egs⟩ : ∃ q, s.gs = q := ⟨_, rfl⟩
          obtain ⟨sa, esa⟩ : ∃ q, s.a = q := ⟨_, rfl⟩
          rw [egs, esa] at HSG cs
          rw [egs] at HGI HD
          clear egs esa
          cases h12 : decide ((gs.length : Int) > 12) with
          | true =>
            have HX : Hid (ANS = false) := by show _ = _; rw [HD.out, if_pos (of_decide_eq_true h12)]; rfl
            go_wp2_with fail
            go_ret
            exact ⟨by rw [HX.out]; rfl, HBR.out⟩
          | false =>
            have HX : Hid (ANS = endB t.ds.length ((gdsN t.sl t.rs.length t.ts.length p (gs.drop 0)).bind fun q => stsN t.sl t.rs.length t.ts.length q (t.ts.drop (i + 1)))) := by show _ = _; rw [HD.out, if_neg (of_decide_eq_false h12)]; rfl
            clear HD
            go_wp2_with fail
            go_loopw [29] (fun q wr => ∃ (j : Nat) (p : Int), j ≤ gs.length ∧ q = .int .i64 j ∧ Hid (Below w.heap.size w wr) ∧ Hid (wr.heap[w.heap.size]? = some (.cells t.vals 26 (0, 0))) ∧ Hid (wr.heap[A]? = some (.cells #[.int .i64 p] 3 (0, 0))) ∧ Hid (ANS = endB t.ds.length ((gdsN t.sl t.rs.length t.ts.length p (gs.drop j)).bind fun q => stsN t.sl t.rs.length t.ts.length q (t.ts.drop (i + 1))))) (fun q _ => gs.length - (intOf q).toNat)
            case atStart => exact ⟨0, p, by omega, rfl, HBR, HNR, HAR, HX⟩
            case round =>
              obtain ⟨j, p2, hj, rfl, HB2, HN2, HA2, HR2⟩ := hrel
              by_cases hltj : j < gs.length
              · have hltj' : (j : Int) < (gs.length : Int) := by omega
                have hmxj : (j : Int) + 1 ≤ 9223372036854775807 := by have h1 := HSG.out.1; have h2 := HSG.out.2.1; rw [List.length_map] at h1; omega
                obtain ⟨b2, o2, ea, hat⟩ := (HSG.out.on (mapz GdM.sz _) HB2.out).2.2 j (by rw [List.length_map]; exact hltj)
                simp only [List.getElem_map] at hat
                have HMEM : Hid (gs[j] ∈ gs) := List.getElem_mem hltj
                have HD : Hid (ANS = endB t.ds.length (((gdN t.sl t.rs.length t.ts.length gs[j] p2).bind fun q => gdsN t.sl t.rs.length t.ts.length q (gs.drop (j + 1))).bind fun q => stsN t.sl t.rs.length t.ts.length q (t.ts.drop (i + 1)))) := by show _ = _; rw [HR2.out, List.drop_eq_getElem_cons hltj]; rfl
                obtain ⟨d, ed⟩ : ∃ d, gs[j] = d := ⟨_, rfl⟩
                rw [ed] at hat HMEM HD
                have HRG : Hid (wr.rangeAt b2 (o2 + j * 5) d.vals.toList) := fun j v hv => by
                  have hj : j < 5 := (List.getElem?_eq_some_iff.1 hv).1
                  rw [hat j hj, ← hv]; simp
                have HZ : Hid ((wr.alloc (.cells #[.int .i64 0, .int .i64 0, .int .u16 0, .int .u16 0, .slice none 0 0] 51)).heap[wr.heap.size]? = some (.cells #[.int .i64 0, .int .i64 0, .int .u16 0, .int .u16 0, .slice none 0 0] 51 (0, 0))) := heap_new _ _
                have HWX : Hid (Below wr.heap.size wr ((wr.alloc (.cells #[.int .i64 0, .int .i64 0, .int .u16 0, .int .u16 0, .slice none 0 0] 51)).setRow wr.heap.size d.vals)) := below_row (below_new _ _) (Nat.le_refl _) _
                have HNX : Hid (((wr.alloc (.cells #[.int .i64 0, .int .i64 0, .int .u16 0, .int .u16 0, .slice none 0 0] 51)).setRow wr.heap.size d.vals).heap[wr.heap.size]? = some (.cells d.vals 51 (0, 0))) := setRow_heap _ _ _ _ _ _ HZ.out
                subst ea
                clear hat ed
                go_upto_region 12 with (first | (refine wpList_load_mid rfl 51 (.tmp 31) rfl b2 (o2 + j * 5) rfl d.vals.toList _ HRG.out Tryd.underlying51 rfl (by show _ = some 5; exact size68') ?_; rw [Array.toArray_toList]) | (refine wpList_store_row rfl 51 (.tmp 7) (.tmp 32) rfl wr.heap.size d.vals rfl rfl 51 #[.int .i64 0, .int .i64 0, .int .u16 0, .int .u16 0, .slice none 0 0] HZ.out size68' rfl (allGd d) ?_))
                generalize World.setRow _ _ _ = WX at HWX HNX ⊢
                clear HZ HRG
                have HBX : Hid (Below w.heap.size w WX) := below2 HB2.out HWX.out
                have HPX : Hid (WX.heap[w.heap.size]? = some (.cells t.vals 26 (0, 0))) := (HWX.out.block _ (Array.getElem?_eq_some_iff.1 HN2.out).1).trans HN2.out
                have HAX : Hid (WX.heap[A]? = some (.cells #[.int .i64 p2] 3 (0, 0))) := (HWX.out.block _ (Array.getElem?_eq_some_iff.1 HA2.out).1).trans HA2.out
                have HGL : Hid (GdL WX d) := (HGI.out d HMEM.out).on HBX.out
                have x4 : WX.cell? ⟨wr.heap.size, 4, none⟩ = some (.slice d.a d.rs.length d.c) := cell_of HNX.out 4
                have cR := rowsFit_any t d.rs d.a d.c WX (HTL.out.on HBX.out) HGL.out.2.2.2.1
                clear HB2 HN2 HA2 HR2 HMEM
                go_wp2_with (refine wpList_load_row rfl 26 (.tmp 1) rfl w.heap.size rfl 26 t.vals (0, 0) _ HPX.out Tryd.underlying26 rfl size26' ?_)
                refine cR.mono ?_
                rintro e w5 ⟨rfl, hb5⟩
                have HB5 : Hid (Below w.heap.size w w5) := below2 HBX.out hb5
                have HP5 : Hid (w5.heap[w.heap.size]? = some (.cells t.vals 26 (0, 0))) := (hb5.block _ (Array.getElem?_eq_some_iff.1 HPX.out).1).trans HPX.out
                have HA5 : Hid (w5.heap[A]? = some (.cells #[.int .i64 p2] 3 (0, 0))) := (hb5.block _ (Array.getElem?_eq_some_iff.1 HAX.out).1).trans HAX.out
                have HN5 : Hid (w5.heap[wr.heap.size]? = some (.cells d.vals 51 (0, 0))) := (hb5.block _ (Array.getElem?_eq_some_iff.1 HNX.out).1).trans HNX.out
                have HG5 : Hid (GdL w5 d) := HGL.out.on hb5
                clear cR hb5 HBX HPX HAX HNX HGL x4 HWX
                cases hr : rowsB t.sl t.rs.length t.ts.length d.rs with
                | false =>
                  have HX2 : Hid (ANS = false) := by show _ = _; rw [HD.out]; unfold gdN; rw [hr]; rfl
                  go_wp2_with fail
                  go_ret
                  exact ⟨by rw [HX2.out]; rfl, HB5.out⟩
                | true =>
                  have HD2 : Hid (ANS = endB t.ds.length (((liesN p2 (gSp d)).bind fun q => gdsN t.sl t.rs.length t.ts.length q (gs.drop (j + 1))).bind fun q => stsN t.sl t.rs.length t.ts.length q (t.ts.drop (i + 1)))) := by show _ = _; rw [HD.out]; unfold gdN; rw [hr]; rfl
                  have y0 : w5.cell? ⟨wr.heap.size, 0, none⟩ = some (.int .i64 d.wh.f) := cell_of HN5.out 0
                  have y1 : w5.cell? ⟨wr.heap.size, 1, none⟩ = some (.int .i64 d.wh.t) := cell_of HN5.out 1
                  have y2 : w5.cell? ⟨wr.heap.size, 2, none⟩ = some (.int .u16 d.fd) := cell_of HN5.out 2
                  have y3 : w5.cell? ⟨wr.heap.size, 3, none⟩ = some (.int .u16 d.rg) := cell_of HN5.out 3
                  have y4 : w5.cell? ⟨wr.heap.size, 4, none⟩ = some (.slice d.a d.rs.length d.c) := cell_of HN5.out 4
                  have cL := lies_any d A p2 w5 HG5.out (rowsB8 hr) HA5.out
                  unfold GdM.vals at cL
                  clear HD hr HN5 HG5
                  go_wp2_with fail
                  refine cL.mono ?_
                  rintro e w6 ⟨rfl, hm6, q, ha6, hq6⟩
                  have HB6 : Hid (Below w.heap.size w w6) := HB5.out.trans ((hm6.below HB5.out.size (by rintro _ rfl; exact Nat.le_of_lt HAG.out)))
                  have HP6 : Hid (w6.heap[w.heap.size]? = some (.cells t.vals 26 (0, 0))) := (hm6.block _ (Array.getElem?_eq_some_iff.1 HP5.out).1 (by have := HAG.out; omega)).trans HP5.out
                  have HA6 : Hid (w6.heap[A]? = some (.cells #[.int .i64 q] 3 (0, 0))) := ha6
                  have HQ6 : Hid (∀ y, liesN p2 (gSp d) = some y → q = y) := hq6
                  clear cL y0 y1 y2 y3 y4 hm6 ha6 hq6
                  cases hz : liesN p2 (gSp d) with
                  | none =>
                    have HX2 : Hid (ANS = false) := by show _ = _; rw [HD2.out, hz]; rfl
                    go_wp2_with fail
                    go_ret
                    exact ⟨by rw [HX2.out]; rfl, HB6.out⟩
                  | some z =>
                    have hqz := HQ6.out z hz
                    subst hqz
                    have HX2 : Hid (ANS = endB t.ds.length ((gdsN t.sl t.rs.length t.ts.length q (gs.drop (j + 1))).bind fun q => stsN t.sl t.rs.length t.ts.length q (t.ts.drop (i + 1)))) := by show _ = _; rw [HD2.out, hz]; rfl
                    go_wp2_with fail
                    exact ⟨⟨j + 1, q, hltj, rfl, HB6, HP6, HA6, HX2⟩, by simp only [intOf]; omega⟩
              · obtain rfl : j = gs.length := by omega
                have hnot : ¬ (gs.length : Int) < (gs.length : Int) := by omega
                have HX2 : Hid (ANS = endB t.ds.length (stsN t.sl t.rs.length t.ts.length p2 (t.ts.drop (i + 1)))) := by show _ = _; rw [HR2.out, List.drop_length]; rfl
                go_wp2_with fail
                exact ⟨⟨i + 1, p2, hlt, rfl, HB2, HN2, HA2, HX2⟩, by simp only [intOf]; omega⟩
        · obtain rfl : i = t.ts.length := by omega
          have hnot : ¬ (t.ts.length : Int) < (t.ts.length : Int) := by omega
          have HX : Hid (ANS = (p == (t.ds.length : Int))) := by show _ = _; rw [HRR.out, List.drop_length]; rfl
          have x0 : wr.cell? ⟨A, 0, none⟩ = some (.int .i64 p) := cell_of HAR.out 0
          have x4 : wr.cell? ⟨w.heap.size, 4, none⟩ = some (.slice t.da t.ds.length t.dc) := cell_of HNR.out 4
          go_wp2_with fail
          go_ret
          exact ⟨by rw [HX.out]; rfl, HBR.out⟩
end Go.Proofs.YteedmmljahgpjabDoor

/-
  The checker in memory; a place is come to with a height.
-/
namespace Go.Proofs.YteedmmljahgpjabDoor
open Go.RowKit
set_option linter.unusedVariables false
set_option linter.unusedSimpArgs false
structure CkAt (w : World) (C : Nat) (t : TbM) (h : Nat → Int) : Prop where
  T : ∀ j, j < 6 → w.cell? ⟨C, j, none⟩ = t.vals[j]?
  H : ∀ j, j < 4097 → w.cell? ⟨C, 6 + j, none⟩ = some (.int .u8 (h j))
  F : ∀ k, w.frozen? ⟨C, k, none⟩ = false
  L : C < w.heap.size
theorem CkAt.blk {w w' : World} {C : Nat} {t : TbM} {h : Nat → Int} (k : CkAt w C t h) (e : w'.heap[C]? = w.heap[C]?) (hs : w.heap.size ≤ w'.heap.size) : CkAt w' C t h :=
  ⟨fun j hj => by rw [World.cell?_of_block e]; exact k.T j hj, fun j hj => by rw [World.cell?_of_block e]; exact k.H j hj, fun j => by rw [← k.F j]; unfold World.frozen?; rw [e], Nat.lt_of_lt_of_le k.L hs⟩
theorem CkAt.on {w w' : World} {C : Nat} {t : TbM} {h : Nat → Int} (k : CkAt w C t h) (b : Below w.heap.size w w') : CkAt w' C t h := k.blk (b.block C k.L) b.size
theorem cs_same {w : World} {a : Addr} {u : Value} (v : Value) (h : w.cell? a = some u) : (w.setCell a v).cell? a = some v := World.cell?_setCell_same (h := h) ..
theorem cs_other {w : World} {G x y : Nat} (v : Value) (h : x ≠ y) : (w.setCell ⟨G, x, none⟩ v).cell? ⟨G, y, none⟩ = w.cell? ⟨G, y, none⟩ := World.cell?_setCell_other (h := fun e => h (by injection e)) ..
def upd (h : Nat → Int) (a : Nat) (x : Int) : Nat → Int := fun j => if j = a then x else h j
theorem CkAt.set {w : World} {C : Nat} {t : TbM} {h : Nat → Int} (k : CkAt w C t h) (a : Nat) (ha : a < 4097) (x : Int) : CkAt (w.setCell ⟨C, 6 + a, none⟩ (.int .u8 x)) C t (upd h a x) := by
  refine ⟨fun j hj => ?_, fun j hj => ?_, fun j => ?_, ?_⟩
  · rw [cs_other _ (by omega)]; exact k.T j hj
  · unfold upd
    by_cases e : j = a
    · subst e; rw [if_pos rfl]; exact cs_same _ (k.H j hj)
    · rw [if_neg e, cs_other _ (by omega)]; exact k.H j hj
  · rw [World.frozen?_setCell]; exact k.F j
  · rw [World.size_setCell]; exact k.L
def comeB (h : Nat → Int) (a : Nat) (x : Int) : Bool := withinB 0 x 64 && (h a == 0 || h a == x + 1)
def comeH (h : Nat → Int) (a : Nat) (x : Int) : Nat → Int := if withinB 0 x 64 then upd h a (x + 1) else h
def HOk (h : Nat → Int) : Prop := ∀ j, 0 ≤ h j ∧ h j ≤ 65
theorem comeH_ok {h : Nat → Int} (k : HOk h) (a : Nat) (x : Int) : HOk (comeH h a x) := by
  unfold comeH
  cases hw : withinB 0 x 64 with
  | false => simpa using k
  | true =>
    obtain ⟨h0, h1⟩ : 0 ≤ x ∧ x ≤ 64 := by simpa [withinB] using hw
    intro j
    simp only [if_true, upd]
    split
    · omega
    · exact k j
set_option maxRecDepth 100000 in
set_option maxHeartbeats 4000000 in
theorem come_any (C : Nat) (t : TbM) (h : Nat → Int) (a : Nat) (x : Int) (w : World) (hk : CkAt w C t h) (ha : a < 4097) : Calls Tryd.prog 91 #[.pointer (some ⟨C, 0, none⟩), .int .i64 a, .int .i64 x] w fun e w' => e = .returned (.bool (comeB h a x)) ∧ Mv w w' (fun k => k = C) ∧ CkAt w' C t (comeH h a x) := by
  have cW := within_any 0 x 64 w
  unfold comeB comeH
  cases hw : withinB 0 x 64 with
  | false =>
    rw [hw] at cW
    have HK : Hid (CkAt w C t h) := hk
    clear hk ha
    go_enter Tryd.func91, Tryd.ntmps91
    go_wp2_with fail
    refine cW.mono ?_
    rintro e w5 ⟨rfl, rfl⟩
    go_wp2_with fail
    go_ret
    exact ⟨rfl, Mv.refl _ _, HK.out⟩
  | true =>
    rw [hw] at cW
    obtain ⟨h0, h1⟩ : 0 ≤ x ∧ x ≤ 64 := by simpa [withinB] using hw
    have ca := hk.H a ha
    have fa := hk.F (6 + a)
    have hx : x % 256 = x := by omega
    have hx1 : (x + 1) % 256 = x + 1 := by omega
    have ha1 : (a : Int) < 4097 := by omega
    have HK : Hid (CkAt (w.setCell ⟨C, 6 + a, none⟩ (.int .u8 (x + 1))) C t (upd h a (x + 1))) := hk.set a ha _
    have HM : Hid (Mv w (w.setCell ⟨C, 6 + a, none⟩ (.int .u8 (x + 1))) (fun k => k = C)) := (Mv.refl w (fun k => k = C)).setCell (a := ⟨C, 6 + a, none⟩) (.inl rfl) _
    clear hk
    cases hz : (h a == 0) with
    | true =>
      go_enter Tryd.func91, Tryd.ntmps91
      go_wp2_with fail
      refine cW.mono ?_
      rintro e w5 ⟨rfl, rfl⟩
      go_wp2_with fail
      go_ret
      exact ⟨rfl, HM.out, HK.out⟩
    | false =>
      go_enter Tryd.func91, Tryd.ntmps91
      go_wp2_with fail
      refine cW.mono ?_
      rintro e w5 ⟨rfl, rfl⟩
      go_wp2_with fail
      go_ret
      exact ⟨rfl, HM.out, HK.out⟩
end Go.Proofs.YteedmmljahgpjabDoor
