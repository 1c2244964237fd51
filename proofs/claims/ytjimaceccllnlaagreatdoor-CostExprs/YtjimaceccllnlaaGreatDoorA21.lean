import Derived.Test.YtjimaceccllnlaaGreatDoorA0
import Derived.Test.YtjimaceccllnlaaGreatDoorRows
import Derived.Test.YtjimaceccllnlaaGreatDoorA20
import Derived.Test.YtjimaceccllnlaaGreatDoorA2
import Derived.Test.YtjimaceccllnlaaGreatDoorA3
import Derived.LaidMore
import Derived.LaidHandle
import Derived.MakeChecks
import Derived.Stop.LaidErr
import Derived.Lib.LaidTab
import Derived.Maps.OwnSet
namespace Go.Proofs.YtjimaceccllnlaaGreatDoor
set_option maxRecDepth 100000
set_option maxHeartbeats 8000000
open Go.RowKit
set_option linter.unusedVariables false
def slE (d : SlotM) : Int := namE d.x
def StratZ (S : StratM) : Prop := ∀ d ∈ S.ts, StateZ d
def stratE (S : StratM) : Int := fs (namE S.x) (fs (cntE S.rs.length 0 12) (fs (fsL (S.rs.map regE)) (fs (cntE S.ss.length 0 4) (fs (fsL (S.ss.map slE)) (fs (cntE S.ts.length 1 12) (fsL (S.ts.map stateE)))))))
theorem state_gives (r : StateM) (w : World) (hl : StateL w r) (hz : StateZ r) (ht : Tab w) : Gives 139 #[.agg r.vals] w (stateE r) := by
 have hb0 := Bn w (.cells r.vals 65)
 have hn0 := Hn w (.cells r.vals 65)
 have HH : Hid (StateL w r ∧ Tab w ∧ StateZ r) := ⟨hl, ht, hz⟩
 have HN0 : Hid ((w.alloc (.cells r.vals 65)).heap[w§]? = some (.cells r.vals 65 (0, 0))) := hn0
 have HB0 : Hid (Below w§ w (w.alloc (.cells r.vals 65))) := hb0
 obtain ⟨E, eE⟩ : ∃ E, stateE r = E := ⟨_, rfl⟩
 have HE : Hid (stateE r = E) := eE
 rw [eE]
 unfold stateE at HE
 clear eE
 have q0 : (w.alloc (.cells r.vals 65)).cell? ⟨w§, 0, none⟩ = some (.string r.x) := Co hn0 0
 have c1 := (nm_gives (x := r.x) hl.2.2.2 (ht.on hb0)).two
 clear hl ht hz hb0 hn0
 unfold Gives
 rcases c1 with ⟨h1, c1⟩ | ⟨h1, c1⟩
 ·go_enter Tryz.func139, Tryz.ntmps139
  go_wp2_with fail
  refine c1.mono ?_
  rintro e w1 ⟨rfl, hb⟩
  have HB1 : Hid (Below w§ w w1) := below2 HB0.out hb
  have hn1 := (hb.block _ (Array.getElem?_eq_some_iff.1 HN0.out).1).trans HN0.out
  have HN1 : Hid (w1.heap[w§]? = some (.cells r.vals 65 (0, 0))) := hn1
  obtain ⟨n, en⟩ : ∃ n, r.rs.length = n := ⟨_, rfl⟩
  have q8 : w1.cell? ⟨w§, 1, none⟩ = some (.slice r.a n r.c) := by rw [← en]; exact Co hn1 1
  have HNL : Hid (r.rs.length = n) := en
  have c2 := (cnt_gives n 0 12 w1).two
  rw [en] at HE
  clear c1 hb hn1 HN0 HB0 en q0
  rcases c2 with ⟨h2, c2⟩ | ⟨h2, c2⟩
  ·go_wp2_with fail
   refine c2.mono ?_
   rintro e w2 ⟨rfl, hb⟩
   have HBS : Hid (Below w§ w w2) := below2 HB1.out hb
   have hn2 := (hb.block _ (Array.getElem?_eq_some_iff.1 HN1.out).1).trans HN1.out
   have q9 : w2.cell? ⟨w§, 1, none⟩ = some (.slice r.a n r.c) := by rw [← HNL.out]; exact Co hn2 1
   have HSL : Hid (SlAt w 10 r.a r.c (r.rs.map RuleM.vals)) := HH.out.1.1
   obtain ⟨ds, eds⟩ : ∃ ds, r.rs = ds := ⟨_, rfl⟩
   have HDS : Hid (∀ d ∈ ds, RuleL w d ∧ RuleZ d) := fun d hd => by rw [← eds] at hd; exact ⟨HH.out.1.2.1 d hd, HH.out.2.2 d hd⟩
   rw [eds] at HSL HNL HE
   obtain ⟨ra, era⟩ : ∃ q, r.a = q := ⟨_, rfl⟩
   rw [era] at HSL q8 q9
   clear c2 hb hn2 q8 HN1 HB1 eds era
   go_wp2_with fail
   obtain rfl := HNL.out
   go_loopw [14] (fun t wr => ∃ i : Nat, i ≤ ds.length ∧ t = zI i ∧ Below w§ w wr ∧ Hid (fsL (ds.map ruleE) = fsL ((ds.drop i).map ruleE))) (fun t _ => ds.length - (intOf t).toNat)
   case atStart => exact ⟨0, by omega, rfl, HBS.out, rfl⟩
   case round =>
    obtain ⟨i, hi, rfl, hbr, HR⟩ := hrel
    have HBR : Hid (Below w§ w wr) := hbr
    clear hbr
    by_cases hlt : i < ds.length
    ·have hlt' : (i : Int) < (ds.length : Int) := by omega
     have hmx : (i : Int) + 1 ≤ 9223372036854775807 := by have h1 := HSL.out.1; have h2 := HSL.out.2.1; rw [List.length_map] at h1; omega
     obtain ⟨b, o, ea, hat⟩ := (HSL.out.on (mapz RuleM.sz _) HBR.out).2.2 i (by rw [List.length_map]; exact hlt)
     simp only [List.getElem_map] at hat
     have HMEM : Hid (ds[i] ∈ ds) := List.getElem_mem hlt
     have HD : Hid (fsL (ds.map ruleE) = fs (ruleE ds[i]) (fsL ((ds.drop (i + 1)).map ruleE))) := by show _ = _; rw [HR.out, List.drop_eq_getElem_cons hlt]; rfl
     obtain ⟨d, ed⟩ : ∃ d, ds[i] = d := ⟨_, rfl⟩
     rw [ed] at hat HD HMEM
     have HRG : Hid (wr.rangeAt b (o + i * 10) d.vals.toList) := fun j v hv => by
      have hj : j < 10 := (List.getElem?_eq_some_iff.1 hv).1
      rw [hat j hj, ← hv]; simp
     have HZ : Hid ((wr.alloc (.cells #[zU 0, zU 0, zU 0, zI 0, zU 0, .string ⟨#[]⟩, .slice none 0 0, zI 0, .slice none 0 0, zI 0] 88)).heap[wr§]? = some (.cells #[zU 0, zU 0, zU 0, zI 0, zU 0, .string ⟨#[]⟩, .slice none 0 0, zI 0, .slice none 0 0, zI 0] 88 (0, 0))) := Hn _ _
     have hbx : Below wr§ wr ((wr.alloc (.cells #[zU 0, zU 0, zU 0, zI 0, zU 0, .string ⟨#[]⟩, .slice none 0 0, zI 0, .slice none 0 0, zI 0] 88)).setRow wr§ d.vals) := below_row (Bn _ _) (Nat.le_refl _) _
     have HBX : Hid (Below w§ w ((wr.alloc (.cells #[zU 0, zU 0, zU 0, zI 0, zU 0, .string ⟨#[]⟩, .slice none 0 0, zI 0, .slice none 0 0, zI 0] 88)).setRow wr§ d.vals)) := below2 HBR.out hbx
     have HNX : Hid (((wr.alloc (.cells #[zU 0, zU 0, zU 0, zI 0, zU 0, .string ⟨#[]⟩, .slice none 0 0, zI 0, .slice none 0 0, zI 0] 88)).setRow wr§ d.vals).heap[wr§]? = some (.cells d.vals 88 (0, 0))) := setRow_heap _ _ _ _ _ _ HZ.out
     obtain ⟨A, eA⟩ : ∃ A, ra = A := ⟨_, rfl⟩
     rw [eA] at ea ⊢
     subst ea
     clear hat ed hbx HR
     go_upto_region 6 with (first | (refine wpList_load_mid rfl 88 (.tmp 16) rfl b (o + i * 10) rfl d.vals.toList _ HRG.out Tryz.underlying88 rfl (by show _ = some 10; exact size106') ?_; rw [Array.toArray_toList]) | (refine wpList_store_row rfl 88 (.tmp 3) (.tmp 17) rfl wr§ d.vals rfl rfl 88 #[zU 0, zU 0, zU 0, zI 0, zU 0, .string ⟨#[]⟩, .slice none 0 0, zI 0, .slice none 0 0, zI 0] HZ.out size106' rfl (all10' d) ?_))
     generalize hWX : World.setRow _ _ _ = WX
     rw [hWX] at HBX HNX
     clear hWX HZ HRG
     have cD := (rule_gives d WX ((HDS.out d HMEM.out).1.on HBX.out) (HDS.out d HMEM.out).2 (HH.out.2.1.on HBX.out)).two
     rcases cD with ⟨hd0, cD⟩ | ⟨hd0, cD⟩
     ·go_wp2_with (refine wpList_load_row rfl 88 (.tmp 3) rfl wr§ rfl 88 d.vals (0, 0) _ HNX.out Tryz.underlying88 rfl size106' ?_)
      refine cD.mono ?_
      rintro e w5 ⟨rfl, hb5⟩
      have HB5 : Hid (Below w§ w w5) := below2 HBX.out hb5
      clear cD hb5
      go_wp2_with fail
      exact ⟨⟨i + 1, hlt, rfl, HB5.out, by show _ = _; rw [HD.out, fs_z hd0]⟩, by simp only [intOf]; omega⟩
     ·go_wp2_with (refine wpList_load_row rfl 88 (.tmp 3) rfl wr§ rfl 88 d.vals (0, 0) _ HNX.out Tryz.underlying88 rfl size106' ?_)
      refine cD.mono ?_
      rintro e w5 ⟨rfl, hb5⟩
      have hE : E = ruleE d := by rw [← HE.out, fs3_z h1 h2, HD.out, fs_n hd0]
      exact ⟨rfl, .inr ⟨by rw [hE]; exact hd0, by rw [hE]⟩, below2 HBX.out hb5⟩
    ·obtain rfl : i = ds.length := by omega
     have hnot : ¬ (ds.length : Int) < (ds.length : Int) := by omega
     have HZERO : Hid (fsL (ds.map ruleE) = 0) := by show _ = _; rw [HR.out, List.drop_length]; rfl
     clear HR
     go_wp2_with fail
     go_end0
     exact ⟨.inl ⟨by rw [← HE.out, fs3_z h1 h2]; exact HZERO.out, rfl⟩, HBR.out⟩
  ·go_wp2_with fail
   refine c2.mono ?_
   rintro e w2 ⟨rfl, hb⟩
   have hE : E = cntE n 0 12 := by rw [← HE.out, fs3_n h1 h2]
   exact ⟨rfl, .inr ⟨by rw [hE]; exact h2, by rw [hE]⟩, below2 HB1.out hb⟩
 ·go_enter Tryz.func139, Tryz.ntmps139
  go_wp2_with fail
  refine c1.mono ?_
  rintro e w1 ⟨rfl, hb⟩
  have hE : E = namE r.x := by rw [← HE.out, fs_n h1]
  exact ⟨rfl, .inr ⟨by rw [hE]; exact h1, by rw [hE]⟩, below2 HB0.out hb⟩
theorem strat_gives (r : StratM) (w : World) (hl : StratL w r) (hz : StratZ r) (ht : Tab w) : Gives 102 #[.agg r.vals] w (stratE r) := by
 have hb0 := Bn w (.cells r.vals 38)
 have hn0 := Hn w (.cells r.vals 38)
 have HH : Hid (StratL w r ∧ Tab w ∧ StratZ r) := ⟨hl, ht, hz⟩
 have HN0 : Hid ((w.alloc (.cells r.vals 38)).heap[w§]? = some (.cells r.vals 38 (0, 0))) := hn0
 have HB0 : Hid (Below w§ w (w.alloc (.cells r.vals 38))) := hb0
 obtain ⟨E, eE⟩ : ∃ E, stratE r = E := ⟨_, rfl⟩
 have HE : Hid (stratE r = E) := eE
 rw [eE]
 unfold stratE at HE
 clear eE
 have q0 : (w.alloc (.cells r.vals 38)).cell? ⟨w§, 0, none⟩ = some (.string r.x) := Co hn0 0
 have c1 := (nm_gives (x := r.x) hl.2.2.2.2.2.2 (ht.on hb0)).two
 obtain ⟨V, eV⟩ : ∃ V, w.alloc (.cells r.vals 38) = V := ⟨_, rfl⟩
 have HV : Hid (w.alloc (.cells r.vals 38) = V) := eV
 have BOX : Hid (∀ u, Below V§ V u → u.heap[w§]? = some (.cells r.vals 38 (0, 0))) := fun u hu => by rw [← eV] at hu; exact (hu.block _ (Array.getElem?_eq_some_iff.1 hn0).1).trans hn0
 have HBV : Hid (Below w§ w V) := by show Below w§ w V; rw [← eV]; exact hb0
 have HHV : Hid (StratL V r) := hl.on HBV.out
 have HTV : Hid (Tab V) := ht.on HBV.out
 clear hl ht hz hb0 hn0 eV
 unfold Gives
 rcases c1 with ⟨h1, c1⟩ | ⟨h1, c1⟩
 ·go_enter Tryz.func102, Tryz.ntmps102
  go_wp2_with fail
  refine c1.mono ?_
  rintro e w1 ⟨rfl, hb⟩
  rw [HV.out] at hb
  have HB1 : Hid (Below V§ V w1) := hb
  clear c1 hb q0 HN0 HB0 HV
  obtain ⟨n2, en2⟩ : ∃ n, r.rs.length = n := ⟨_, rfl⟩
  have q2 : w1.cell? ⟨w§, 1, none⟩ = some (.slice r.ra n2 r.rc) := by rw [← en2]; exact Co (BOX.out _ HB1.out) 1
  have HNL2 : Hid (r.rs.length = n2) := en2
  have c2 := (cnt_gives n2 0 12 w1).two
  rw [en2] at HE
  clear en2
  rcases c2 with ⟨h2, c2⟩ | ⟨h2, c2⟩
  ·go_wp2_with fail
   refine c2.mono ?_
   rintro e v2 ⟨rfl, hb⟩
   have HBS2 : Hid (Below V§ V v2) := below2 HB1.out hb
   have p2 : v2.cell? ⟨w§, 1, none⟩ = some (.slice r.ra n2 r.rc) := by rw [← HNL2.out]; exact Co (BOX.out _ HBS2.out) 1
   have HSL2 : Hid (SlAt V 11 r.ra r.rc (r.rs.map RegM.vals)) := HHV.out.1
   obtain ⟨ds2, eds⟩ : ∃ ds, r.rs = ds := ⟨_, rfl⟩
   have HDS2 : Hid (∀ d ∈ ds2, RegL V d) := fun d hd => by rw [← eds] at hd; exact HHV.out.2.1 d hd
   rw [eds] at HSL2 HNL2 HE
   obtain ⟨ra2, era⟩ : ∃ q, r.ra = q := ⟨_, rfl⟩
   rw [era] at HSL2 q2 p2
   clear c2 hb q2 HB1 eds era
   go_wp2_with fail
   obtain rfl := HNL2.out
   clear HNL2
   go_loopw [18] (fun t wr => ∃ i : Nat, i ≤ ds2.length ∧ t = zI i ∧ Below V§ V wr ∧ Hid (fsL (ds2.map regE) = fsL ((ds2.drop i).map regE))) (fun t _ => ds2.length - (intOf t).toNat)
   case atStart => exact ⟨0, by omega, rfl, HBS2.out, rfl⟩
   case round =>
    obtain ⟨i, hi, rfl, hbr, HR⟩ := hrel
    have HBR : Hid (Below V§ V wr) := hbr
    clear hbr
    by_cases hlt : i < ds2.length
    ·have hlt' : (i : Int) < (ds2.length : Int) := by omega
     have hmx : (i : Int) + 1 ≤ 9223372036854775807 := by have h1 := HSL2.out.1; have h2 := HSL2.out.2.1; rw [List.length_map] at h1; omega
     obtain ⟨b, o, ea, hat⟩ := (HSL2.out.on (mapz RegM.sz _) HBR.out).2.2 i (by rw [List.length_map]; exact hlt)
     simp only [List.getElem_map] at hat
     have HMEM : Hid (ds2[i] ∈ ds2) := List.getElem_mem hlt
     have HD : Hid (fsL (ds2.map regE) = fs (regE ds2[i]) (fsL ((ds2.drop (i + 1)).map regE))) := by show _ = _; rw [HR.out, List.drop_eq_getElem_cons hlt]; rfl
     obtain ⟨d, ed⟩ : ∃ d, ds2[i] = d := ⟨_, rfl⟩
     rw [ed] at hat HD HMEM
     have HRG : Hid (wr.rangeAt b (o + i * 11) d.vals.toList) := fun j v hv => by
      have hj : j < 11 := (List.getElem?_eq_some_iff.1 hv).1
      rw [hat j hj, ← hv]; simp
     have HZ : Hid ((wr.alloc (.cells #[.string ⟨#[]⟩, zU 0, zU 0, zU 0, zU 0, zI 0, zU 0, .string ⟨#[]⟩, .slice none 0 0, zI 0, zI 0] 77)).heap[wr§]? = some (.cells #[.string ⟨#[]⟩, zU 0, zU 0, zU 0, zU 0, zI 0, zU 0, .string ⟨#[]⟩, .slice none 0 0, zI 0, zI 0] 77 (0, 0))) := Hn _ _
     have hbx : Below wr§ wr ((wr.alloc (.cells #[.string ⟨#[]⟩, zU 0, zU 0, zU 0, zU 0, zI 0, zU 0, .string ⟨#[]⟩, .slice none 0 0, zI 0, zI 0] 77)).setRow wr§ d.vals) := below_row (Bn _ _) (Nat.le_refl _) _
     have HBX : Hid (Below V§ V ((wr.alloc (.cells #[.string ⟨#[]⟩, zU 0, zU 0, zU 0, zU 0, zI 0, zU 0, .string ⟨#[]⟩, .slice none 0 0, zI 0, zI 0] 77)).setRow wr§ d.vals)) := below2 HBR.out hbx
     have HNX : Hid (((wr.alloc (.cells #[.string ⟨#[]⟩, zU 0, zU 0, zU 0, zU 0, zI 0, zU 0, .string ⟨#[]⟩, .slice none 0 0, zI 0, zI 0] 77)).setRow wr§ d.vals).heap[wr§]? = some (.cells d.vals 77 (0, 0))) := setRow_heap _ _ _ _ _ _ HZ.out
     obtain ⟨A, eA⟩ : ∃ A, ra2 = A := ⟨_, rfl⟩
     rw [eA] at ea ⊢
     subst ea
     clear hat ed hbx HR
     go_upto_region 6 with (first | (refine wpList_load_mid rfl 77 (.tmp 20) rfl b (o + i * 11) rfl d.vals.toList _ HRG.out Tryz.underlying77 rfl (by show _ = some 11; exact size100') ?_; rw [Array.toArray_toList]) | (refine wpList_store_row rfl 77 (.tmp 3) (.tmp 21) rfl wr§ d.vals rfl rfl 77 #[.string ⟨#[]⟩, zU 0, zU 0, zU 0, zU 0, zI 0, zU 0, .string ⟨#[]⟩, .slice none 0 0, zI 0, zI 0] HZ.out size100' rfl (all11 d) ?_))
     generalize hWX : World.setRow _ _ _ = WX
     rw [hWX] at HBX HNX
     clear hWX HZ HRG
     have cD := (reg_gives d WX ((HDS2.out d HMEM.out).on HBX.out) (HTV.out.on HBX.out)).two
     rcases cD with ⟨hd0, cD⟩ | ⟨hd0, cD⟩
     ·go_wp2_with (refine wpList_load_row rfl 77 (.tmp 3) rfl wr§ rfl 77 d.vals (0, 0) _ HNX.out Tryz.underlying77 rfl size100' ?_)
      refine cD.mono ?_
      rintro e w5 ⟨rfl, hb5⟩
      have HB5 : Hid (Below V§ V w5) := below2 HBX.out hb5
      clear cD hb5
      go_wp2_with fail
      exact ⟨⟨i + 1, hlt, rfl, HB5.out, by show _ = _; rw [HD.out, fs_z hd0]⟩, by simp only [intOf]; omega⟩
     ·go_wp2_with (refine wpList_load_row rfl 77 (.tmp 3) rfl wr§ rfl 77 d.vals (0, 0) _ HNX.out Tryz.underlying77 rfl size100' ?_)
      refine cD.mono ?_
      rintro e w5 ⟨rfl, hb5⟩
      have hE : E = regE d := by rw [← HE.out, fs_z h1, fs_z h2, fs_n (by rw [HD.out, fs_n hd0]; exact hd0), HD.out, fs_n hd0]
      exact ⟨rfl, .inr ⟨by rw [hE]; exact hd0, by rw [hE]⟩, below2 HBV.out (below2 HBX.out hb5)⟩
    ·obtain rfl : i = ds2.length := by omega
     have hnot : ¬ (ds2.length : Int) < (ds2.length : Int) := by omega
     have HZERO : Hid (fsL (ds2.map regE) = 0) := by show _ = _; rw [HR.out, List.drop_length]; rfl
     clear HR
     have h3 := HZERO.out
     clear HZERO HSL2 HDS2 HBS2 p2
     have HBQ2 : Hid (Below V§ V wr) := HBR.out
     clear HBR
     obtain ⟨n4, en4⟩ : ∃ n, r.ss.length = n := ⟨_, rfl⟩
     have q4 : wr.cell? ⟨w§, 2, none⟩ = some (.slice r.sa n4 r.sc) := by rw [← en4]; exact Co (BOX.out _ HBQ2.out) 2
     have HNL4 : Hid (r.ss.length = n4) := en4
     have c4 := (cnt_gives n4 0 4 wr).two
     rw [en4] at HE
     clear en4
     rcases c4 with ⟨h4, c4⟩ | ⟨h4, c4⟩
     ·go_wp2_with fail
      refine c4.mono ?_
      rintro e v4 ⟨rfl, hb⟩
      have HBS4 : Hid (Below V§ V v4) := below2 HBQ2.out hb
      have p4 : v4.cell? ⟨w§, 2, none⟩ = some (.slice r.sa n4 r.sc) := by rw [← HNL4.out]; exact Co (BOX.out _ HBS4.out) 2
      have HSL4 : Hid (SlAt V 2 r.sa r.sc (r.ss.map SlotM.vals)) := HHV.out.2.2.1
      obtain ⟨ds4, eds⟩ : ∃ ds, r.ss = ds := ⟨_, rfl⟩
      have HDS4 : Hid (∀ d ∈ ds4, SlotL d) := fun d hd => by rw [← eds] at hd; exact HHV.out.2.2.2.1 d hd
      rw [eds] at HSL4 HNL4 HE
      obtain ⟨ra4, era⟩ : ∃ q, r.sa = q := ⟨_, rfl⟩
      rw [era] at HSL4 q4 p4
      clear c4 hb q4 HBQ2 eds era
      go_wp2_with fail
      obtain rfl := HNL4.out
      clear HNL4
      go_loopw [32] (fun t wr => ∃ i : Nat, i ≤ ds4.length ∧ t = zI i ∧ Below V§ V wr ∧ Hid (fsL (ds4.map slE) = fsL ((ds4.drop i).map slE))) (fun t _ => ds4.length - (intOf t).toNat)
      case atStart => exact ⟨0, by omega, rfl, HBS4.out, rfl⟩
      case round =>
       obtain ⟨i, hi, rfl, hbr, HR⟩ := hrel
       have HBR : Hid (Below V§ V wr) := hbr
       clear hbr
       by_cases hlt : i < ds4.length
       ·have hlt' : (i : Int) < (ds4.length : Int) := by omega
        have hmx : (i : Int) + 1 ≤ 9223372036854775807 := by have h1 := HSL4.out.1; have h2 := HSL4.out.2.1; rw [List.length_map] at h1; omega
        obtain ⟨b, o, ea, hat⟩ := (HSL4.out.on (mapz SlotM.sz _) HBR.out).2.2 i (by rw [List.length_map]; exact hlt)
        simp only [List.getElem_map] at hat
        have HMEM : Hid (ds4[i] ∈ ds4) := List.getElem_mem hlt
        have HD : Hid (fsL (ds4.map slE) = fs (slE ds4[i]) (fsL ((ds4.drop (i + 1)).map slE))) := by show _ = _; rw [HR.out, List.drop_eq_getElem_cons hlt]; rfl
        obtain ⟨d, ed⟩ : ∃ d, ds4[i] = d := ⟨_, rfl⟩
        rw [ed] at hat HD HMEM
        have HRG : Hid (wr.rangeAt b (o + i * 2) d.vals.toList) := fun j v hv => by
         have hj : j < 2 := (List.getElem?_eq_some_iff.1 hv).1
         rw [hat j hj, ← hv]; simp
        have HZ : Hid ((wr.alloc (.cells #[.string ⟨#[]⟩, zI 0] 79)).heap[wr§]? = some (.cells #[.string ⟨#[]⟩, zI 0] 79 (0, 0))) := Hn _ _
        have hbx : Below wr§ wr ((wr.alloc (.cells #[.string ⟨#[]⟩, zI 0] 79)).setRow wr§ d.vals) := below_row (Bn _ _) (Nat.le_refl _) _
        have HBX : Hid (Below V§ V ((wr.alloc (.cells #[.string ⟨#[]⟩, zI 0] 79)).setRow wr§ d.vals)) := below2 HBR.out hbx
        have HNX : Hid (((wr.alloc (.cells #[.string ⟨#[]⟩, zI 0] 79)).setRow wr§ d.vals).heap[wr§]? = some (.cells d.vals 79 (0, 0))) := setRow_heap _ _ _ _ _ _ HZ.out
        obtain ⟨A, eA⟩ : ∃ A, ra4 = A := ⟨_, rfl⟩
        rw [eA] at ea ⊢
        subst ea
        clear hat ed hbx HR
        go_upto_region 12 with (first | (refine wpList_load_mid rfl 79 (.tmp 34) rfl b (o + i * 2) rfl d.vals.toList _ HRG.out Tryz.underlying79 rfl (by show _ = some 2; exact size102') ?_; rw [Array.toArray_toList]) | (refine wpList_store_row rfl 79 (.tmp 5) (.tmp 35) rfl wr§ d.vals rfl rfl 79 #[.string ⟨#[]⟩, zI 0] HZ.out size102' rfl (all2 d) ?_))
        generalize hWX : World.setRow _ _ _ = WX
        rw [hWX] at HBX HNX
        clear hWX HZ HRG
        have qs : WX.cell? ⟨wr§, 0, none⟩ = some (.string d.x) := Co HNX.out 0
        have cD := (show Gives 136 #[.string d.x] WX (slE d) from nm_gives (HDS4.out d HMEM.out).2 (HTV.out.on HBX.out)).two
        rcases cD with ⟨hd0, cD⟩ | ⟨hd0, cD⟩
        ·go_wp2_with fail
         refine cD.mono ?_
         rintro e w5 ⟨rfl, hb5⟩
         have HB5 : Hid (Below V§ V w5) := below2 HBX.out hb5
         clear cD hb5
         go_wp2_with fail
         exact ⟨⟨i + 1, hlt, rfl, HB5.out, by show _ = _; rw [HD.out, fs_z hd0]⟩, by simp only [intOf]; omega⟩
        ·go_wp2_with fail
         refine cD.mono ?_
         rintro e w5 ⟨rfl, hb5⟩
         have hE : E = slE d := by rw [← HE.out, fs_z h1, fs_z h2, fs_z h3, fs_z h4, fs_n (by rw [HD.out, fs_n hd0]; exact hd0), HD.out, fs_n hd0]
         exact ⟨rfl, .inr ⟨by rw [hE]; exact hd0, by rw [hE]⟩, below2 HBV.out (below2 HBX.out hb5)⟩
       ·obtain rfl : i = ds4.length := by omega
        have hnot : ¬ (ds4.length : Int) < (ds4.length : Int) := by omega
        have HZERO : Hid (fsL (ds4.map slE) = 0) := by show _ = _; rw [HR.out, List.drop_length]; rfl
        clear HR
        have h5 := HZERO.out
        clear HZERO HSL4 HDS4 HBS4 p4
        have HBQ4 : Hid (Below V§ V wr) := HBR.out
        clear HBR
        obtain ⟨n6, en6⟩ : ∃ n, r.ts.length = n := ⟨_, rfl⟩
        have q6 : wr.cell? ⟨w§, 3, none⟩ = some (.slice r.ta n6 r.tc) := by rw [← en6]; exact Co (BOX.out _ HBQ4.out) 3
        have HNL6 : Hid (r.ts.length = n6) := en6
        have c6 := (cnt_gives n6 1 12 wr).two
        rw [en6] at HE
        clear en6
        rcases c6 with ⟨h6, c6⟩ | ⟨h6, c6⟩
        ·go_wp2_with fail
         refine c6.mono ?_
         rintro e v6 ⟨rfl, hb⟩
         have HBS6 : Hid (Below V§ V v6) := below2 HBQ4.out hb
         have p6 : v6.cell? ⟨w§, 3, none⟩ = some (.slice r.ta n6 r.tc) := by rw [← HNL6.out]; exact Co (BOX.out _ HBS6.out) 3
         have HSL6 : Hid (SlAt V 3 r.ta r.tc (r.ts.map StateM.vals)) := HHV.out.2.2.2.2.1
         obtain ⟨ds6, eds⟩ : ∃ ds, r.ts = ds := ⟨_, rfl⟩
         have HDS6 : Hid (∀ d ∈ ds6, StateL V d ∧ StateZ d) := fun d hd => by rw [← eds] at hd; exact ⟨HHV.out.2.2.2.2.2.1 d hd, HH.out.2.2 d hd⟩
         rw [eds] at HSL6 HNL6 HE
         obtain ⟨ra6, era⟩ : ∃ q, r.ta = q := ⟨_, rfl⟩
         rw [era] at HSL6 q6 p6
         clear c6 hb q6 HBQ4 eds era
         go_wp2_with fail
         obtain rfl := HNL6.out
         clear HNL6
         go_loopw [47] (fun t wr => ∃ i : Nat, i ≤ ds6.length ∧ t = zI i ∧ Below V§ V wr ∧ Hid (fsL (ds6.map stateE) = fsL ((ds6.drop i).map stateE))) (fun t _ => ds6.length - (intOf t).toNat)
         case atStart => exact ⟨0, by omega, rfl, HBS6.out, rfl⟩
         case round =>
          obtain ⟨i, hi, rfl, hbr, HR⟩ := hrel
          have HBR : Hid (Below V§ V wr) := hbr
          clear hbr
          by_cases hlt : i < ds6.length
          ·have hlt' : (i : Int) < (ds6.length : Int) := by omega
           have hmx : (i : Int) + 1 ≤ 9223372036854775807 := by have h1 := HSL6.out.1; have h2 := HSL6.out.2.1; rw [List.length_map] at h1; omega
           obtain ⟨b, o, ea, hat⟩ := (HSL6.out.on (mapz StateM.sz _) HBR.out).2.2 i (by rw [List.length_map]; exact hlt)
           simp only [List.getElem_map] at hat
           have HMEM : Hid (ds6[i] ∈ ds6) := List.getElem_mem hlt
           have HD : Hid (fsL (ds6.map stateE) = fs (stateE ds6[i]) (fsL ((ds6.drop (i + 1)).map stateE))) := by show _ = _; rw [HR.out, List.drop_eq_getElem_cons hlt]; rfl
           obtain ⟨d, ed⟩ : ∃ d, ds6[i] = d := ⟨_, rfl⟩
           rw [ed] at hat HD HMEM
           have HRG : Hid (wr.rangeAt b (o + i * 3) d.vals.toList) := fun j v hv => by
            have hj : j < 3 := (List.getElem?_eq_some_iff.1 hv).1
            rw [hat j hj, ← hv]; simp
           have HZ : Hid ((wr.alloc (.cells #[.string ⟨#[]⟩, .slice none 0 0, zI 0] 65)).heap[wr§]? = some (.cells #[.string ⟨#[]⟩, .slice none 0 0, zI 0] 65 (0, 0))) := Hn _ _
           have hbx : Below wr§ wr ((wr.alloc (.cells #[.string ⟨#[]⟩, .slice none 0 0, zI 0] 65)).setRow wr§ d.vals) := below_row (Bn _ _) (Nat.le_refl _) _
           have HBX : Hid (Below V§ V ((wr.alloc (.cells #[.string ⟨#[]⟩, .slice none 0 0, zI 0] 65)).setRow wr§ d.vals)) := below2 HBR.out hbx
           have HNX : Hid (((wr.alloc (.cells #[.string ⟨#[]⟩, .slice none 0 0, zI 0] 65)).setRow wr§ d.vals).heap[wr§]? = some (.cells d.vals 65 (0, 0))) := setRow_heap _ _ _ _ _ _ HZ.out
           obtain ⟨A, eA⟩ : ∃ A, ra6 = A := ⟨_, rfl⟩
           rw [eA] at ea ⊢
           subst ea
           clear hat ed hbx HR
           go_upto_region 18 with (first | (refine wpList_load_mid rfl 65 (.tmp 49) rfl b (o + i * 3) rfl d.vals.toList _ HRG.out Tryz.underlying65 rfl (by show _ = some 3; exact size87') ?_; rw [Array.toArray_toList]) | (refine wpList_store_row rfl 65 (.tmp 7) (.tmp 50) rfl wr§ d.vals rfl rfl 65 #[.string ⟨#[]⟩, .slice none 0 0, zI 0] HZ.out size87' rfl (all3' d) ?_))
           generalize hWX : World.setRow _ _ _ = WX
           rw [hWX] at HBX HNX
           clear hWX HZ HRG
           have cD := (state_gives d WX ((HDS6.out d HMEM.out).1.on HBX.out) (HDS6.out d HMEM.out).2 (HTV.out.on HBX.out)).two
           rcases cD with ⟨hd0, cD⟩ | ⟨hd0, cD⟩
           ·go_wp2_with (refine wpList_load_row rfl 65 (.tmp 7) rfl wr§ rfl 65 d.vals (0, 0) _ HNX.out Tryz.underlying65 rfl size87' ?_)
            refine cD.mono ?_
            rintro e w5 ⟨rfl, hb5⟩
            have HB5 : Hid (Below V§ V w5) := below2 HBX.out hb5
            clear cD hb5
            go_wp2_with fail
            exact ⟨⟨i + 1, hlt, rfl, HB5.out, by show _ = _; rw [HD.out, fs_z hd0]⟩, by simp only [intOf]; omega⟩
           ·go_wp2_with (refine wpList_load_row rfl 65 (.tmp 7) rfl wr§ rfl 65 d.vals (0, 0) _ HNX.out Tryz.underlying65 rfl size87' ?_)
            refine cD.mono ?_
            rintro e w5 ⟨rfl, hb5⟩
            have hE : E = stateE d := by rw [← HE.out, fs_z h1, fs_z h2, fs_z h3, fs_z h4, fs_z h5, fs_z h6, HD.out, fs_n hd0]
            exact ⟨rfl, .inr ⟨by rw [hE]; exact hd0, by rw [hE]⟩, below2 HBV.out (below2 HBX.out hb5)⟩
          ·obtain rfl : i = ds6.length := by omega
           have hnot : ¬ (ds6.length : Int) < (ds6.length : Int) := by omega
           have HZERO : Hid (fsL (ds6.map stateE) = 0) := by show _ = _; rw [HR.out, List.drop_length]; rfl
           clear HR
           have h7 := HZERO.out
           clear HZERO HSL6 HDS6 HBS6 p6
           have HBQ6 : Hid (Below V§ V wr) := HBR.out
           clear HBR
           go_wp2_with fail
           go_end0
           exact ⟨.inl ⟨by rw [← HE.out, fs_z h1, fs_z h2, fs_z h3, fs_z h4, fs_z h5, fs_z h6]; exact h7, rfl⟩, below2 HBV.out HBQ6.out⟩
        ·go_wp2_with fail
         refine c6.mono ?_
         rintro e wf ⟨rfl, hb⟩
         have hE : E = cntE n6 1 12 := by rw [← HE.out, fs_z h1, fs_z h2, fs_z h3, fs_z h4, fs_z h5, fs_n h6]
         exact ⟨rfl, .inr ⟨by rw [hE]; exact h6, by rw [hE]⟩, below2 HBV.out (below2 HBQ4.out hb)⟩
     ·go_wp2_with fail
      refine c4.mono ?_
      rintro e wf ⟨rfl, hb⟩
      have hE : E = cntE n4 0 4 := by rw [← HE.out, fs_z h1, fs_z h2, fs_z h3, fs_n h4]
      exact ⟨rfl, .inr ⟨by rw [hE]; exact h4, by rw [hE]⟩, below2 HBV.out (below2 HBQ2.out hb)⟩
  ·go_wp2_with fail
   refine c2.mono ?_
   rintro e wf ⟨rfl, hb⟩
   have hE : E = cntE n2 0 12 := by rw [← HE.out, fs_z h1, fs_n h2]
   exact ⟨rfl, .inr ⟨by rw [hE]; exact h2, by rw [hE]⟩, below2 HBV.out (below2 HB1.out hb)⟩
 ·go_enter Tryz.func102, Tryz.ntmps102
  go_wp2_with fail
  refine c1.mono ?_
  rintro e w1 ⟨rfl, hb⟩
  have hE : E = namE r.x := by rw [← HE.out, fs_n h1]
  exact ⟨rfl, .inr ⟨by rw [hE]; exact h1, by rw [hE]⟩, below2 HB0.out hb⟩
theorem enter141 (args : Array Value) (v : World) : Sem.run Tryz.prog (callFunc 101 args) v = .ok (.enter 101 args) v := by kernel_rfl
theorem look141 (r : StratM) (b : Nat) (w : World) (hn : w.heap[b]? = some (.cells r.vals 38 (0, 0))) (hl : StratL w r) (hz : StratZ r) (ht : Tab w) : Gives 101 #[.pointer (some ⟨b, 0, none⟩)] w (stratE r) := by
 have HN : Hid (w.heap[b]? = some (.cells r.vals 38 (0, 0))) := hn
 have c := (strat_gives r w hl hz ht).two
 clear hl ht hn hz
 unfold Gives
 rcases c with ⟨h, c⟩ | ⟨h, c⟩
 ·have HE : Hid (stratE r = 0) := h
  clear h
  go_enter Tryz.func101, Tryz.ntmps101
  go_wp2_with (refine wpList_load_row rfl 38 (.tmp 0) rfl b rfl 38 r.vals (0, 0) _ HN.out Tryz.underlying38 rfl size43' ?_)
  refine c.mono ?_
  rintro e w1 ⟨rfl, hb⟩
  go_wp2_with fail
  go_end0
  exact ⟨.inl ⟨HE.out, rfl⟩, hb⟩
 ·have HE : Hid (¬ stratE r = 0) := h
  clear h
  go_enter Tryz.func101, Tryz.ntmps101
  go_wp2_with (refine wpList_load_row rfl 38 (.tmp 0) rfl b rfl 38 r.vals (0, 0) _ HN.out Tryz.underlying38 rfl size43' ?_)
  refine c.mono ?_
  rintro e w1 ⟨rfl, hb⟩
  exact ⟨rfl, .inr ⟨HE.out, rfl⟩, hb⟩
theorem check_any (r : StratM) (w : World) (hl : StratL w r) (hz : StratZ r) (ht : Tab w) : Calls zG 64 #[.agg r.vals] w fun e w' => e = .returned (zI (stratE r)) ∧ Below w§ w w' := by
 have hmf : ∀ (fn : Fn) (first cap : Array Value) (w : World), (Instr.makeFunc fn first cap).run Tryz.prog w = .ok (.func fn first cap) w := fun _ _ _ _ => rfl
 have hb0 := Bn w (.cells r.vals 38)
 have hn0 := Hn w (.cells r.vals 38)
 have c := found_any 101 enter141 #[.pointer (some ⟨w§, 0, none⟩)] (stratE r) (w.alloc (.cells r.vals 38)) (fun v hv => look141 r w§ v ((hv.block _ (Array.getElem?_eq_some_iff.1 hn0).1).trans hn0) ((hl.on hb0).on hv) hz ((ht.on hb0).on hv))
 clear hl hz ht hb0 hn0
 go_enter Tryz.func64, Tryz.ntmps64
 go_wp2_with fail
 refine c.mono ?_
 rintro e w1 ⟨rfl, hb⟩
 go_wp2_with fail
 go_ret
 exact ⟨rfl, (Bn _ _).trans (hb.mono (by simp))⟩
set_option linter.unusedSimpArgs false
def numY (a : Int) : Bool := decide (1 ≤ a) && decide (a ≤ 4)
def prodT (a b : Int) : Int × Bool := if a == 1 then (b, numY b) else if b == 1 then (a, numY a) else (1, (a == 3 && b == 2) || (a == 2 && b == 3))
def quotT (a b : Int) : Int × Bool := if b == 1 then (a, numY a) else (1, numY a && a == b)
def aloneT (o a : Int) : Int × Bool := if o == 2 then (a, a == 5) else (a, numY a)
def pairT (o a b : Int) : Int × Bool :=
 if o == 8 then prodT a b else if o == 9 then quotT a b else if o == 17 || o == 18 then (5, a == 5 && b == 5)
 else if o == 13 || o == 14 || o == 15 || o == 16 then (if numY a then (5, a == b) else (0, false))
 else if o == 11 || o == 12 then (5, a == b) else (a, numY a && a == b)
def two (p : Int × Bool) : Value := .tuple #[zU p.1, .bool p.2]
theorem num_any (t : Int) (w : World) : Calls zG 182 #[zU t] w fun e w' => e = .returned (.bool (numY t)) ∧ w' = w := by
 unfold numY
 obtain ⟨p, hp⟩ : ∃ p, decide (1 ≤ t) = p := ⟨_, rfl⟩
 obtain ⟨q, hq⟩ : ∃ q, decide (t ≤ 4) = q := ⟨_, rfl⟩
 rw [hp, hq]
 cases p <;> cases q <;> (go_enter Tryz.func182, Tryz.ntmps182; go_wp2_with fail; go_ret; exact ⟨rfl, rfl⟩)
theorem prod_any (a b : Int) (w : World) : Calls zG 198 #[zU a, zU b] w fun e w' => e = .returned (two (prodT a b)) ∧ w' = w := by
 cases h1 : (a == 1) with
 | true =>
  have HE : Hid (prodT a b = (b, numY b)) := by show _ = _; simp [prodT, h1]
  have cN := num_any b
  obtain ⟨B, eB⟩ : ∃ B, numY b = B := ⟨_, rfl⟩
  simp only [eB] at cN HE
  clear eB
  cases B <;> (go_enter Tryz.func198, Tryz.ntmps198; go_wp2_with (go_at_call 182; refine (cN _).mono ?_; rintro e w1 ⟨rfl, e1⟩; obtain rfl := e1.symm); go_ret2; exact ⟨by rw [HE.out]; rfl, rfl⟩)
 | false =>
  cases h2 : (b == 1) with
  | true =>
   have HE : Hid (prodT a b = (a, numY a)) := by show _ = _; simp [prodT, h1, h2]
   have cN := num_any a
   obtain ⟨B, eB⟩ : ∃ B, numY a = B := ⟨_, rfl⟩
   simp only [eB] at cN HE
   clear eB
   cases B <;> (go_enter Tryz.func198, Tryz.ntmps198; go_wp2_with (go_at_call 182; refine (cN _).mono ?_; rintro e w1 ⟨rfl, e1⟩; obtain rfl := e1.symm); go_ret2; exact ⟨by rw [HE.out]; rfl, rfl⟩)
  | false =>
   have HE : Hid (prodT a b = (1, (a == 3 && b == 2) || (a == 2 && b == 3))) := by show _ = _; simp [prodT, h1, h2]
   obtain ⟨p0, hp0⟩ : ∃ p, (a == 3) = p := ⟨_, rfl⟩
   simp only [hp0] at HE
   obtain ⟨p1, hp1⟩ : ∃ p, (b == 2) = p := ⟨_, rfl⟩
   simp only [hp1] at HE
   obtain ⟨p2, hp2⟩ : ∃ p, (a == 2) = p := ⟨_, rfl⟩
   simp only [hp2] at HE
   obtain ⟨p3, hp3⟩ : ∃ p, (b == 3) = p := ⟨_, rfl⟩
   simp only [hp3] at HE
   cases p0 <;> cases p1 <;> cases p2 <;> cases p3 <;> (go_enter Tryz.func198, Tryz.ntmps198; go_wp2_with fail; go_ret2; exact ⟨by rw [HE.out]; rfl, rfl⟩)
theorem quot_any (a b : Int) (w : World) : Calls zG 199 #[zU a, zU b] w fun e w' => e = .returned (two (quotT a b)) ∧ w' = w := by
 cases h1 : (b == 1) with
 | true =>
  have HE : Hid (quotT a b = (a, numY a)) := by show _ = _; simp [quotT, h1]
  have cN := num_any a
  obtain ⟨B, eB⟩ : ∃ B, numY a = B := ⟨_, rfl⟩
  simp only [eB] at cN HE
  clear eB
  cases B <;> (go_enter Tryz.func199, Tryz.ntmps199; go_wp2_with (go_at_call 182; refine (cN _).mono ?_; rintro e w1 ⟨rfl, e1⟩; obtain rfl := e1.symm); go_ret2; exact ⟨by rw [HE.out]; rfl, rfl⟩)
 | false =>
  have HE : Hid (quotT a b = (1, numY a && a == b)) := by show _ = _; simp [quotT, h1]
  obtain ⟨p0, hp0⟩ : ∃ p, (a == b) = p := ⟨_, rfl⟩
  simp only [hp0] at HE
  have cN := num_any a
  obtain ⟨B, eB⟩ : ∃ B, numY a = B := ⟨_, rfl⟩
  simp only [eB] at cN HE
  clear eB
  cases p0 <;> cases B <;> (go_enter Tryz.func199, Tryz.ntmps199; go_wp2_with (go_at_call 182; refine (cN _).mono ?_; rintro e w1 ⟨rfl, e1⟩; obtain rfl := e1.symm); go_ret2; exact ⟨by rw [HE.out]; rfl, rfl⟩)
theorem alone_any (o a : Int) (w : World) : Calls zG 183 #[zU o, zU a] w fun e w' => e = .returned (two (aloneT o a)) ∧ w' = w := by
 cases h1 : (o == 2) with
 | true =>
  have HE : Hid (aloneT o a = (a, a == 5)) := by show _ = _; simp [aloneT, h1]
  obtain ⟨p0, hp0⟩ : ∃ p, (a == 5) = p := ⟨_, rfl⟩
  simp only [hp0] at HE
  cases p0 <;> (go_enter Tryz.func183, Tryz.ntmps183; go_wp2_with fail; go_ret2; exact ⟨by rw [HE.out]; rfl, rfl⟩)
 | false =>
  have HE : Hid (aloneT o a = (a, numY a)) := by show _ = _; simp [aloneT, h1]
  have cN := num_any a
  obtain ⟨B, eB⟩ : ∃ B, numY a = B := ⟨_, rfl⟩
  simp only [eB] at cN HE
  clear eB
  cases B <;> (go_enter Tryz.func183, Tryz.ntmps183; go_wp2_with (go_at_call 182; refine (cN _).mono ?_; rintro e w1 ⟨rfl, e1⟩; obtain rfl := e1.symm); go_ret2; exact ⟨by rw [HE.out]; rfl, rfl⟩)
theorem pair_any (o a b : Int) (w : World) : Calls zG 184 #[zU o, zU a, zU b] w fun e w' => e = .returned (two (pairT o a b)) ∧ w' = w := by
 cases h8 : (o == 8) with
 | true =>
  have HE : Hid (pairT o a b = prodT a b) := by show _ = _; simp [pairT, h8]
  have cN := prod_any a b
  obtain ⟨⟨u, v⟩, eu⟩ : ∃ q, prodT a b = q := ⟨_, rfl⟩
  simp only [eu, two] at cN HE
  clear eu
  go_enter Tryz.func184, Tryz.ntmps184
  go_wp2_with (go_at_call 198; refine (cN _).mono ?_; rintro e w1 ⟨rfl, e1⟩; obtain rfl := e1.symm)
  go_ret2
  exact ⟨by rw [HE.out]; rfl, rfl⟩
 | false =>
  cases h9 : (o == 9) with
  | true =>
   have HE : Hid (pairT o a b = quotT a b) := by show _ = _; simp [pairT, h8, h9]
   have cN := quot_any a b
   obtain ⟨⟨u, v⟩, eu⟩ : ∃ q, quotT a b = q := ⟨_, rfl⟩
   simp only [eu, two] at cN HE
   clear eu
   go_enter Tryz.func184, Tryz.ntmps184
   go_wp2_with (go_at_call 199; refine (cN _).mono ?_; rintro e w1 ⟨rfl, e1⟩; obtain rfl := e1.symm)
   go_ret2
   exact ⟨by rw [HE.out]; rfl, rfl⟩
  | false =>
   cases h17 : (o == 17) with
   | true =>
    have HE : Hid (pairT o a b = (5, a == 5 && b == 5)) := by show _ = _; simp [pairT, h8, h9, h17]
    obtain ⟨p0, hp0⟩ : ∃ p, (a == 5) = p := ⟨_, rfl⟩
    simp only [hp0] at HE
    obtain ⟨p1, hp1⟩ : ∃ p, (b == 5) = p := ⟨_, rfl⟩
    simp only [hp1] at HE
    cases p0 <;> cases p1 <;> (go_enter Tryz.func184, Tryz.ntmps184; go_wp2_with fail; go_ret2; exact ⟨by rw [HE.out]; rfl, rfl⟩)
   | false =>
    cases h18 : (o == 18) with
    | true =>
     have HE : Hid (pairT o a b = (5, a == 5 && b == 5)) := by show _ = _; simp [pairT, h8, h9, h17, h18]
     obtain ⟨p0, hp0⟩ : ∃ p, (a == 5) = p := ⟨_, rfl⟩
     simp only [hp0] at HE
     obtain ⟨p1, hp1⟩ : ∃ p, (b == 5) = p := ⟨_, rfl⟩
     simp only [hp1] at HE
     cases p0 <;> cases p1 <;> (go_enter Tryz.func184, Tryz.ntmps184; go_wp2_with fail; go_ret2; exact ⟨by rw [HE.out]; rfl, rfl⟩)
    | false =>
     cases h13 : (o == 13) with
     | true =>
      have HE : Hid (pairT o a b = (if numY a then (5, a == b) else (0, false))) := by show _ = _; simp [pairT, h8, h9, h17, h18, h13]
      obtain ⟨p0, hp0⟩ : ∃ p, (a == b) = p := ⟨_, rfl⟩
      simp only [hp0] at HE
      have cN := num_any a
      obtain ⟨B, eB⟩ : ∃ B, numY a = B := ⟨_, rfl⟩
      simp only [eB] at cN HE
      clear eB
      cases p0 <;> cases B <;> (go_enter Tryz.func184, Tryz.ntmps184; go_wp2_with (go_at_call 182; refine (cN _).mono ?_; rintro e w1 ⟨rfl, e1⟩; obtain rfl := e1.symm); go_ret2; exact ⟨by rw [HE.out]; rfl, rfl⟩)
     | false =>
      cases h14 : (o == 14) with
      | true =>
       have HE : Hid (pairT o a b = (if numY a then (5, a == b) else (0, false))) := by show _ = _; simp [pairT, h8, h9, h17, h18, h13, h14]
       obtain ⟨p0, hp0⟩ : ∃ p, (a == b) = p := ⟨_, rfl⟩
       simp only [hp0] at HE
       have cN := num_any a
       obtain ⟨B, eB⟩ : ∃ B, numY a = B := ⟨_, rfl⟩
       simp only [eB] at cN HE
       clear eB
       cases p0 <;> cases B <;> (go_enter Tryz.func184, Tryz.ntmps184; go_wp2_with (go_at_call 182; refine (cN _).mono ?_; rintro e w1 ⟨rfl, e1⟩; obtain rfl := e1.symm); go_ret2; exact ⟨by rw [HE.out]; rfl, rfl⟩)
      | false =>
       cases h15 : (o == 15) with
       | true =>
        have HE : Hid (pairT o a b = (if numY a then (5, a == b) else (0, false))) := by show _ = _; simp [pairT, h8, h9, h17, h18, h13, h14, h15]
        obtain ⟨p0, hp0⟩ : ∃ p, (a == b) = p := ⟨_, rfl⟩
        simp only [hp0] at HE
        have cN := num_any a
        obtain ⟨B, eB⟩ : ∃ B, numY a = B := ⟨_, rfl⟩
        simp only [eB] at cN HE
        clear eB
        cases p0 <;> cases B <;> (go_enter Tryz.func184, Tryz.ntmps184; go_wp2_with (go_at_call 182; refine (cN _).mono ?_; rintro e w1 ⟨rfl, e1⟩; obtain rfl := e1.symm); go_ret2; exact ⟨by rw [HE.out]; rfl, rfl⟩)
       | false =>
        cases h16 : (o == 16) with
        | true =>
         have HE : Hid (pairT o a b = (if numY a then (5, a == b) else (0, false))) := by show _ = _; simp [pairT, h8, h9, h17, h18, h13, h14, h15, h16]
         obtain ⟨p0, hp0⟩ : ∃ p, (a == b) = p := ⟨_, rfl⟩
         simp only [hp0] at HE
         have cN := num_any a
         obtain ⟨B, eB⟩ : ∃ B, numY a = B := ⟨_, rfl⟩
         simp only [eB] at cN HE
         clear eB
         cases p0 <;> cases B <;> (go_enter Tryz.func184, Tryz.ntmps184; go_wp2_with (go_at_call 182; refine (cN _).mono ?_; rintro e w1 ⟨rfl, e1⟩; obtain rfl := e1.symm); go_ret2; exact ⟨by rw [HE.out]; rfl, rfl⟩)
        | false =>
         cases h11 : (o == 11) with
         | true =>
          have HE : Hid (pairT o a b = (5, a == b)) := by show _ = _; simp [pairT, h8, h9, h17, h18, h13, h14, h15, h16, h11]
          obtain ⟨p0, hp0⟩ : ∃ p, (a == b) = p := ⟨_, rfl⟩
          simp only [hp0] at HE
          cases p0 <;> (go_enter Tryz.func184, Tryz.ntmps184; go_wp2_with fail; go_ret2; exact ⟨by rw [HE.out]; rfl, rfl⟩)
         | false =>
          cases h12 : (o == 12) with
          | true =>
           have HE : Hid (pairT o a b = (5, a == b)) := by show _ = _; simp [pairT, h8, h9, h17, h18, h13, h14, h15, h16, h11, h12]
           obtain ⟨p0, hp0⟩ : ∃ p, (a == b) = p := ⟨_, rfl⟩
           simp only [hp0] at HE
           cases p0 <;> (go_enter Tryz.func184, Tryz.ntmps184; go_wp2_with fail; go_ret2; exact ⟨by rw [HE.out]; rfl, rfl⟩)
          | false =>
           have HE : Hid (pairT o a b = (a, numY a && a == b)) := by show _ = _; simp [pairT, h8, h9, h17, h18, h13, h14, h15, h16, h11, h12]
           obtain ⟨p0, hp0⟩ : ∃ p, (a == b) = p := ⟨_, rfl⟩
           simp only [hp0] at HE
           have cN := num_any a
           obtain ⟨B, eB⟩ : ∃ B, numY a = B := ⟨_, rfl⟩
           simp only [eB] at cN HE
           clear eB
           cases p0 <;> cases B <;> (go_enter Tryz.func184, Tryz.ntmps184; go_wp2_with (go_at_call 182; refine (cN _).mono ?_; rintro e w1 ⟨rfl, e1⟩; obtain rfl := e1.symm); go_ret2; exact ⟨by rw [HE.out]; rfl, rfl⟩)
def fldL : List Int := [0, 3, 3, 3, 2, 4, 2]
def fldT (f : Int) : Int := fldL.getD f.toNat 0
def fldV : Array Value := (fldL.map (fun i => Value.int .u8 i)).toArray
def FTab (w : World) : Prop := w.var? Tryz.prog "tripwire/types.fieldTypes" = some fldV
theorem fld_global : Tryz.prog.globalNamed "tripwire/types.fieldTypes" = some 1 := by kernel_rfl
theorem FTab.on {w w' : World} (h : FTab w) (hb : Below w§ w w') : FTab w' := by
 unfold FTab World.var? at *
 rw [fld_global] at h ⊢
 simp only [Option.bind_some] at h ⊢
 have hlt : 1 < w§ := by
  rcases Nat.lt_or_ge 1 w§ with h' | h'
  ·exact h'
  ·rw [Array.getElem?_eq_none h'] at h; simp at h
 rw [hb.block 1 hlt]
 exact h
theorem FTab.cell {w : World} (h : FTab w) (i : Nat) (hi : i < 7) : w.cell? ⟨1, i, none⟩ = some (zU (fldT i)) := by
 have := World.var?_cell fld_global h i
 rw [this]
 unfold fldV fldT
 have hl : i < fldL.length := hi
 simp [List.getElem?_map, List.getElem?_eq_getElem hl, List.getD]
def fitT (h : Hd) (n : Nat) (a b c : Int) : Int × Bool :=
 if h.k == 1 then (h.t, true) else if h.k == 3 then (fldT h.f, true) else if h.k == 4 then (5, true) else if h.k == 7 then (b, a == 5 && b == c) else if h.k == 9 then (h.t, numY a)
 else if (n : Int) == 1 then aloneT h.o a else pairT h.o a b
theorem fit_any (k o t n f : Int) (x : ByteArray) (p : Int) (am : Option Addr) (cm : Nat) (ks : List Nd) (a b c : Int) (w : World) (hf : k = 3 → 0 ≤ f ∧ f < 7) (ht : FTab w) :
  Calls zG 171 #[.agg #[zU k, zU o, zU t, zI n, zU f, .string x, .slice am ks.length cm, zI p], .agg #[zU a, zU b, zU c]] w fun e w' => e = .returned (two (fitT ⟨k, o, t, n, f, x, p⟩ ks.length a b c)) ∧ Below w§ w w' := by
 obtain ⟨l, el⟩ : ∃ l, ks.length = l := ⟨_, rfl⟩
 rw [el]
 clear el
 have hb1 := Bn w (.cells #[zU k, zU o, zU t, zI n, zU f, .string x, .slice am l cm, zI p] 28)
 have hn1 := Hn w (.cells #[zU k, zU o, zU t, zI n, zU f, .string x, .slice am l cm, zI p] 28)
 have hs1 := Sa w (.cells #[zU k, zU o, zU t, zI n, zU f, .string x, .slice am l cm, zI p] 28)
 obtain ⟨W1, e1⟩ : ∃ W, w.alloc (.cells #[zU k, zU o, zU t, zI n, zU f, .string x, .slice am l cm, zI p] 28) = W := ⟨_, rfl⟩
 have E1 : Hid (w.alloc (.cells #[zU k, zU o, zU t, zI n, zU f, .string x, .slice am l cm, zI p] 28) = W1) := e1
 rw [e1] at hb1 hn1 hs1
 have hb2 := Bn W1 (.cells #[zU a, zU b, zU c] 238)
 have hn2 := Hn W1 (.cells #[zU a, zU b, zU c] 238)
 have hk2 := (hb2.block _ (Array.getElem?_eq_some_iff.1 hn1).1).trans hn1
 have hbw := below2 hb1 hb2
 rw [hs1] at hn2
 have HF : Hid (k = 3 → 0 ≤ f ∧ f < 7) := hf
 have HT : Hid (FTab w) := ht
 have HS1 : Hid (W1§ = w§ + 1) := hs1
 obtain ⟨W2, e2⟩ : ∃ W, W1.alloc (.cells #[zU a, zU b, zU c] 238) = W := ⟨_, rfl⟩
 have E2 : Hid (W1.alloc (.cells #[zU a, zU b, zU c] 238) = W2) := e2
 rw [e2] at hn2 hk2 hbw
 have HN2 : Hid (W2.heap[w§ + 1]? = some (.cells #[zU a, zU b, zU c] 238 (0, 0))) := hn2
 have HN1 : Hid (W2.heap[w§]? = some (.cells #[zU k, zU o, zU t, zI n, zU f, .string x, .slice am l cm, zI p] 28 (0, 0))) := hk2
 have HBW : Hid (Below w§ w W2) := hbw
 clear hb1 hn1 hs1 hb2 hn2 hk2 hbw hf ht e1 e2
 go_enter Tryz.func171, Tryz.ntmps171
 go_upto_region 1 with fail
 rw [E1.out, E2.out]
 try rw [HS1.out]
 have z0 : W2.cell? ⟨w§ + 1, 0, none⟩ = some (zU a) := Co HN2.out 0
 have z1 : W2.cell? ⟨w§ + 1, 1, none⟩ = some (zU b) := Co HN2.out 1
 have z2 : W2.cell? ⟨w§ + 1, 2, none⟩ = some (zU c) := Co HN2.out 2
 go_quiet (fail)
 obtain ⟨V, eV⟩ : ∃ V, W2.drewN nq = V := ⟨_, rfl⟩
 have hV1 : V.heap[w§]? = some (.cells #[zU k, zU o, zU t, zI n, zU f, .string x, .slice am l cm, zI p] 28 (0, 0)) := by rw [← eV]; exact HN1.out
 have HBV : Hid (Below w§ w V) := by
  have h1 := HBW.out
  rw [← eV]
  exact ⟨h1.os, h1.tape, h1.output, h1.size, h1.block⟩
 rw [eV]
 clear eV HN1 HN2 HBW z0 z1 z2 E1 E2 HS1
 have y0 : V.cell? ⟨w§, 0, none⟩ = some (zU k) := Co hV1 0
 have y1 : V.cell? ⟨w§, 1, none⟩ = some (zU o) := Co hV1 1
 have y2 : V.cell? ⟨w§, 2, none⟩ = some (zU t) := Co hV1 2
 have y4 : V.cell? ⟨w§, 4, none⟩ = some (zU f) := Co hV1 4
 have y6 : V.cell? ⟨w§, 6, none⟩ = some (.slice am l cm) := Co hV1 6
 clear hV1
 cases h1 : (k == 1) with
 | true =>
  have HE : Hid (fitT ⟨k, o, t, n, f, x, p⟩ l a b c = (t, true)) := by show _ = _; simp [fitT, h1]
  go_wp2_with fail
  go_ret2
  exact ⟨by rw [HE.out]; rfl, HBV.out⟩
 | false =>
  cases h3 : (k == 3) with
  | true =>
   have HE : Hid (fitT ⟨k, o, t, n, f, x, p⟩ l a b c = (fldT f, true)) := by show _ = _; simp [fitT, h1, h3]
   have hf := HF.out (by simpa using h3)
   obtain ⟨i, ei⟩ : ∃ i : Nat, (i : Int) = f := ⟨f.toNat, by omega⟩
   subst ei
   have hi : i < 7 := by omega
   have hi2 : (i : Int) < 7 := by omega
   have c0 : V.cell? ⟨1, i, none⟩ = some (zU (fldT i)) := (HT.out.on HBV.out).cell i hi
   go_wp2_with fail
   go_ret2
   exact ⟨by rw [HE.out]; rfl, HBV.out⟩
  | false =>
   cases h4 : (k == 4) with
   | true =>
    have HE : Hid (fitT ⟨k, o, t, n, f, x, p⟩ l a b c = (5, true)) := by show _ = _; simp [fitT, h1, h3, h4]
    go_wp2_with fail
    go_ret2
    exact ⟨by rw [HE.out]; rfl, HBV.out⟩
   | false =>
    cases h7 : (k == 7) with
    | true =>
     have HE : Hid (fitT ⟨k, o, t, n, f, x, p⟩ l a b c = (b, a == 5 && b == c)) := by show _ = _; simp [fitT, h1, h3, h4, h7]
     obtain ⟨p0, hp0⟩ : ∃ p, (a == 5) = p := ⟨_, rfl⟩
     obtain ⟨p1, hp1⟩ : ∃ p, (b == c) = p := ⟨_, rfl⟩
     simp only [hp0, hp1] at HE
     cases p0 <;> cases p1 <;> (go_wp2_with fail; go_ret2; exact ⟨by rw [HE.out]; rfl, HBV.out⟩)
    | false =>
     cases h9 : (k == 9) with
     | true =>
      have HE : Hid (fitT ⟨k, o, t, n, f, x, p⟩ l a b c = (t, numY a)) := by show _ = _; simp [fitT, h1, h3, h4, h7, h9]
      have cN := num_any a
      obtain ⟨B, eB⟩ : ∃ B, numY a = B := ⟨_, rfl⟩
      simp only [eB] at cN HE
      clear eB
      go_upto_region 12 with fail
      go_quiet ((go_at_call 182; refine Calls.quiet_of_same (cN _)))
      go_wp2_with fail
      go_ret2
      exact ⟨by rw [HE.out]; rfl, by have h1 := HBV.out; exact ⟨h1.os, h1.tape, h1.output, h1.size, h1.block⟩⟩
     | false =>
      cases hl : ((l : Int) == 1) with
      | true =>
       have HE : Hid (fitT ⟨k, o, t, n, f, x, p⟩ l a b c = aloneT o a) := by show _ = _; simp [fitT, h1, h3, h4, h7, h9, hl]
       have cN := alone_any o a
       obtain ⟨⟨u, v⟩, eu⟩ : ∃ q, aloneT o a = q := ⟨_, rfl⟩
       simp only [eu, two] at cN HE
       clear eu
       go_wp2_with (go_at_call 183; refine (cN _).mono ?_; rintro e w1 ⟨rfl, e1⟩; obtain rfl := e1.symm)
       go_ret2
       exact ⟨by rw [HE.out]; rfl, HBV.out⟩
      | false =>
       have HE : Hid (fitT ⟨k, o, t, n, f, x, p⟩ l a b c = pairT o a b) := by show _ = _; simp [fitT, h1, h3, h4, h7, h9, hl]
       have cN := pair_any o a b
       obtain ⟨⟨u, v⟩, eu⟩ : ∃ q, pairT o a b = q := ⟨_, rfl⟩
       simp only [eu, two] at cN HE
       clear eu
       go_wp2_with (go_at_call 184; refine (cN _).mono ?_; rintro e w1 ⟨rfl, e1⟩; obtain rfl := e1.symm)
       go_ret2
       exact ⟨by rw [HE.out]; rfl, HBV.out⟩
def txtData {H : Type} (zs : List ByteArray) : DataW H := .agg (zs.map fun z => .lit (.string z.data.toList))
theorem tab_data : (Rows.laid_tripwire_lex_words : DataW Unit) = txtData wordsL := by rfl
theorem cells_of_txt {H : Type} {enc : TypeId × Value → H} {P : Program} {w : World} {base : Nat} {sp : Nat → Bool} {held : Bool} {fuel : Nat} {t e : TypeId} {n : Nat} {cs : List Value} {zs : List ByteArray} {p : List MemPlace}
  (ht : P.underlying t = some (.array n e)) (he : P.underlying e = some .string) (hce : P.cellsOf e = 1) (hct : P.cellsOf t = n)
  (h : DataW.trod enc P w base sp held fuel t cs = some (txtData zs, p)) : cs = zs.map Value.string := by
 cases fuel with
 | zero => simp [DataW.trod] at h
 | succ fuel =>
  simp only [DataW.trod, ht, hce, hct, Nat.mul_one] at h
  split at h
  ·rename_i hl
   obtain ⟨xs, hm, hx⟩ := Option.map_eq_some_iff.1 h
   have hxs : xs.map (·.1) = zs.map fun z => (DataW.lit (.string z.data.toList) : DataW H) := by
    have := congrArg Prod.fst hx
    simpa [txtData] using this
   have hxl : xs.length = n := by simpa using Lib.mapM_length hm
   have hzl : zs.length = n := by
    have := congrArg List.length hxs
    simp at this
    omega
   apply List.ext_getElem?
   intro i
   by_cases hi : i < n
   ·obtain ⟨b, hb, hf⟩ := Lib.mapM_at hm i i (by simp [hi])
    obtain ⟨z, hc, rfl, _⟩ := DataW.trod_string he hf
    have h1 : cs[i]? = some (.string z) := by
     have := congrArg (·[0]?) hc
     simpa [List.getElem?_take, List.getElem?_drop] using this
    have h2 : (xs.map (·.1))[i]? = some (DataW.lit (.string z.data.toList) : DataW H) := by simp [hb]
    rw [hxs] at h2
    simp only [List.getElem?_map, Option.map_eq_some_iff, DataW.lit.injEq, Lit.string.injEq] at h2
    obtain ⟨z', hz', e2⟩ := h2
    simp [h1, hz', str_eq e2]
   ·rw [List.getElem?_eq_none (by omega), List.getElem?_eq_none (by simp; omega)]
  ·cases h
theorem txt_of_head {P : Program} {W : World} {name : String} {zs : List ByteArray} {rest : List (String × DataW Unit)} {g : Nat} {t e : TypeId} {n : Nat}
  (hg : P.globalNamed name = some g) (hty : (P.globals[g]?).map (·.type) = some t) (ht : P.underlying t = some (.array n e)) (he : P.underlying e = some .string) (hce : P.cellsOf e = 1) (hct : P.cellsOf t = n)
  (h : laidMet P ((name, txtData zs) :: rest) W) : W.var? P name = some (zs.map Value.string).toArray := by
 obtain ⟨ps, ⟨g', t', cs, fuel, p, q, hg', ht', hvar, hd, _, _⟩, _⟩ := h
 obtain rfl := Option.some.inj (hg.symm.trans hg')
 obtain rfl := Option.some.inj (hty.symm.trans ht')
 rw [hvar, ← cells_of_txt ht he hce hct hd]
theorem ety_of_var {W : World} (h : W.var? Tryz.prog "errors.errorType" = some #[.iface 211 (.agg #[.pointer (some ⟨4, 43, none⟩)])]) : Ety W := by
 have hg : Tryz.prog.globalNamed "errors.errorType" = some 0 := by kernel_rfl
 have := World.var?_cell hg h 0
 exact this
theorem err_row (ty : TypeId) (h1 : ty < Tryz.prog.types.size) (h2 : Tryz.prog.rowNamed ty [101, 114, 114, 111, 114] = true) : ty = 43 := by
 have h : ((List.range Tryz.prog.types.size).all fun t => !(Tryz.prog.rowNamed t [101, 114, 114, 111, 114]) || t == 43) = true := by kernel_rfl
 have := List.all_eq_true.1 h ty (List.mem_range.2 h1)
 simp [h2] at this
 exact this
theorem ftab_data : (Rows.laid_tripwire_types_fieldTypes : DataW Unit) = Lib.tabData .u8 fldL := by rfl
open Go.Maps
def FlAt (w : World) (b : Nat) (c : ByteArray) (p no : Int) : Prop := w.heap[b]? = some (.cells #[.string c, zI p, .iface 46 (zI no)] 97 (0, 0))
theorem FlAt.on {w w' : World} {b : Nat} {c : ByteArray} {p no : Int} (h : FlAt w b c p no) (k : Below w§ w w') : FlAt w' b c p no := (k.block b (Array.getElem?_eq_some_iff.1 h).1).trans h
theorem untyped_any (p no : Int) (w : World) : Calls zG 170 #[zI p, zI no] w fun e w' => e = .returned (.iface 95 (.pointer (some ⟨w§, 0, none⟩))) ∧ FlAt w' w§ ⟨#[79, 102]⟩ p no ∧ Below w§ w w' := by
 go_enter Tryz.func170, Tryz.ntmps170
 go_wp2_with fail
 go_ret
 exact ⟨rfl, Hn _ _, Bn _ _⟩
theorem wrong_any (p no : Int) (w : World) : Calls zG 65 #[zI p, zI no] w fun e w' => e = .returned (.iface 95 (.pointer (some ⟨w§, 0, none⟩))) ∧ FlAt w' w§ ⟨#[67, 104, 101, 99, 107]⟩ p no ∧ Below w§ w w' := by
 go_enter Tryz.func65, Tryz.ntmps65
 go_wp2_with fail
 go_ret
 exact ⟨rfl, Hn _ _, Bn _ _⟩
def RgM (w : World) (b : Nat) (L : ByteArray → Option Int) : Prop :=
 ∃ (n : Nat) (D : DataW Unit), w.ownsMap Tryz.prog 9 (plainElem Tryz.prog 24) b n D ∧ ∀ x : ByteArray, x.size ≤ maxLen →
  Maps.has D (.string x.data.toList) = (L x).isSome ∧ D.atKey (.string x.data.toList) (.lit (.int .u8 0)) = .lit (.int .u8 ((L x).getD 0))
theorem RgM.on {w w' : World} {b : Nat} {L : ByteArray → Option Int} (h : RgM w b L) (k : Below w§ w w') : RgM w' b L := by
 obtain ⟨n, D, ho, hL⟩ := h
 have hlt := ho.lt
 obtain ⟨es, clock, hb, F, hs, hD⟩ := ho
 exact ⟨n, D, ⟨es, clock, (k.block b hlt).trans hb, F, hs, hD⟩, hL⟩
mutual
/-- The type of an expression, or where what is wrong is. -/
def tyR (L : ByteArray → Option Int) : Nd → Except (Int × Int) Int
 | .mk h _ _ ks => match tysR L ks with
  | .error e => .error e
  | .ok ts => if h.k == 2 then (match L h.x with
    | some t => .ok t
    | none => .error (h.p, 151))
   else if (fitT h ks.length (ts.getD 0 0) (ts.getD 1 0) (ts.getD 2 0)).2 then .ok (fitT h ks.length (ts.getD 0 0) (ts.getD 1 0) (ts.getD 2 0)).1 else .error (h.p, 152)
def tysR (L : ByteArray → Option Int) : List Nd → Except (Int × Int) (List Int)
 | [] => .ok []
 | k :: ks => match tyR L k with
  | .error e => .error e
  | .ok t => match tysR L ks with
   | .error e => .error e
   | .ok ts => .ok (t :: ts)
end
theorem law9 : Keyed Tryz.prog 9 := string_keyed Tryz.underlying9
theorem zero34 (w : World) : (zeroValue 24).run Tryz.prog w = .ok (zU 0) w := by kernel_rfl
open Go.Extern.Stop Go.Stop Go.Extern
theorem FlAt.er {w : World} {b : Nat} {c : ByteArray} {p no : Int} (h : FlAt w b c p no) : Er w (.iface 95 (.pointer (some ⟨b, 0, none⟩))) no p := .inr (.inl ⟨b, c, rfl, h⟩)
theorem around_any (F : Nat) (c : ByteArray) (p no : Int) (w : World) (hF : FlAt w F c p no) (hg : Ety w) :
  Calls zG 142 #[.iface 95 (.pointer (some ⟨F, 0, none⟩))] w fun e w' => ∃ v, e = .returned v ∧ Er w' v no p ∧ Below w§ w w' := by
 have b1 := Bn w (.cells #[.string ⟨#[67, 104, 101, 99, 107]⟩, zI 0, .iface 95 (.pointer (some ⟨F, 0, none⟩))] 97)
 have n1 := Hn w (.cells #[.string ⟨#[67, 104, 101, 99, 107]⟩, zI 0, .iface 95 (.pointer (some ⟨F, 0, none⟩))] 97)
 have s1 := Sa w (.cells #[.string ⟨#[67, 104, 101, 99, 107]⟩, zI 0, .iface 95 (.pointer (some ⟨F, 0, none⟩))] 97)
 obtain ⟨W1, e1⟩ : ∃ W, w.alloc (.cells #[.string ⟨#[67, 104, 101, 99, 107]⟩, zI 0, .iface 95 (.pointer (some ⟨F, 0, none⟩))] 97) = W := ⟨_, rfl⟩
 have E1 : Hid (w.alloc (.cells #[.string ⟨#[67, 104, 101, 99, 107]⟩, zI 0, .iface 95 (.pointer (some ⟨F, 0, none⟩))] 97) = W1) := e1
 rw [e1] at b1 n1 s1
 have b2 := Bn W1 (.cells #[.pointer none] 95)
 have n2 := Hn W1 (.cells #[.pointer none] 95)
 have k2 := (b2.block _ (Array.getElem?_eq_some_iff.1 n1).1).trans n1
 have bw := below2 b1 b2
 rw [s1] at n2
 have HS1 : Hid (W1§ = w§ + 1) := s1
 obtain ⟨W2, e2⟩ : ∃ W, W1.alloc (.cells #[.pointer none] 95) = W := ⟨_, rfl⟩
 have E2 : Hid (W1.alloc (.cells #[.pointer none] 95) = W2) := e2
 rw [e2] at n2 k2 bw
 have hFlt := (Array.getElem?_eq_some_iff.1 hF).1
 have cA := asF_any ⟨F, 0, none⟩ ⟨w§ + 1, 0, none⟩ (.pointer none) W2 (hg.on bw) (Co n2 0) (Fo n2 0)
 have HB : Hid (Below w§ w W2) := bw
 have HK : Hid (W2.heap[w§]? = some (.cells #[.string ⟨#[67, 104, 101, 99, 107]⟩, zI 0, .iface 95 (.pointer (some ⟨F, 0, none⟩))] 97 (0, 0)) ∧ W2.heap[w§ + 1]? = some (.cells #[.pointer none] 95 (0, 0)) ∧ FlAt W2 F c p no) := ⟨k2, n2, hF.on bw⟩
 clear b1 n1 s1 b2 n2 k2 bw e1 e2 hg hF
 go_enter Tryz.func142, Tryz.ntmps142
 go_upto_region 3 with fail
 rw [E1.out]
 try rw [HS1.out]
 rw [E2.out]
 clear E1 E2 HS1
 go_wp2_with fail
 refine cA.mono ?_
 rintro e w3 ⟨rfl, V, hV, rfl⟩
 have h1 := (hV.block _ (Array.getElem?_eq_some_iff.1 HK.out.1).1).trans HK.out.1
 have h2 := (hV.block _ (Array.getElem?_eq_some_iff.1 HK.out.2.1).1).trans HK.out.2.1
 have h3 := HK.out.2.2.on hV
 have hb := below2 HB.out hV
 obtain ⟨U, eU⟩ : ∃ U, V.setCell ⟨w§ + 1, 0, none⟩ (.pointer (some ⟨F, 0, none⟩)) = U := ⟨_, rfl⟩
 have q2 := heap_setCell_same V (w§ + 1) 0 _ _ (.pointer (some ⟨F, 0, none⟩)) h2
 have q1 := (Below.heap_setCell V ⟨w§ + 1, 0, none⟩ (.pointer (some ⟨F, 0, none⟩)) w§ (by simp)).trans h1
 have q3 := (Below.heap_setCell V ⟨w§ + 1, 0, none⟩ (.pointer (some ⟨F, 0, none⟩)) F (by simp; omega)).trans h3
 have qb := hb.setCell (p := ⟨w§ + 1, 0, none⟩) (by simp) (.pointer (some ⟨F, 0, none⟩))
 rw [eU] at q1 q2 q3 qb ⊢
 have t0 : U.cell? ⟨w§ + 1, 0, none⟩ = some (.pointer (some ⟨F, 0, none⟩)) := Co q2 0
 have t1 : U.cell? ⟨F, 1, none⟩ = some (zI p) := Co q3 1
 have t2 : U.cell? ⟨w§, 1, none⟩ = some (zI 0) := Co q1 1
 have t3 : U.frozen? ⟨w§, 1, none⟩ = false := Fo q1 1
 have HQ : Hid (U.heap[w§]? = some (.cells #[.string ⟨#[67, 104, 101, 99, 107]⟩, zI 0, .iface 95 (.pointer (some ⟨F, 0, none⟩))] 97 (0, 0)) ∧ FlAt U F c p no ∧ Below w§ w U) := ⟨q1, q3, qb⟩
 clear h1 h2 h3 hb eU q1 q2 q3 qb cA hV HK HB
 go_wp2_with fail
 go_ret
 refine ⟨_, rfl, .inr (.inr (.inl ⟨w§, _, F, c, p, rfl, heap_setCell_same U w§ 1 _ _ _ HQ.out.1, ?_⟩)), HQ.out.2.2.setCell (by simp) _⟩
 exact (Below.heap_setCell U ⟨w§, 1, none⟩ _ F (by simp; omega)).trans HQ.out.2.1
end Go.Proofs.YtjimaceccllnlaaGreatDoor
