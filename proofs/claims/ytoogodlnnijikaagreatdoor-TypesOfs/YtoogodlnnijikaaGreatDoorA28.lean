import Derived.Test.YtoogodlnnijikaaGreatDoorA0
import Derived.Test.YtoogodlnnijikaaGreatDoorA27
import Derived.Test.YtoogodlnnijikaaGreatDoorA26
namespace Go.Proofs.YtoogodlnnijikaaGreatDoor
open Go.RowKit
set_option linter.unusedVariables false
set_option linter.unusedSimpArgs false
set_option maxRecDepth 100000 in
set_option maxHeartbeats 16000000 in
theorem sameStrat_any (S T:StratM) (w:World) (hs:StratL w S) (hy:StratL w T) (h:S.tr=T.tr) (hz:StratZ9 S):Calls zG 46 #[.agg S.vals,.agg T.vals] w fun e w'=>e=.returned (.bool true)∧Below w§ w w':=by
 simp only [StratM.tr,StratT.mk.injEq] at h
 obtain⟨hx,hr,hsl,ht⟩:=h
 have hl1:S.rs.length=T.rs.length:=by have:=congrArg List.length hr; simpa using this
 have hl2:S.ss.length=T.ss.length:=by have:=congrArg List.length hsl; simpa using this
 have hl3:S.ts.length=T.ts.length:=by have:=congrArg List.length ht; simpa using this
 obtain⟨V,eV⟩:∃ V,(w.alloc (.cells #[.string S.x,.slice S.ra S.rs.length S.rc,.slice S.sa S.ss.length S.sc,.slice S.ta S.ts.length S.tc] 27)).alloc (.cells #[.string S.x,.slice T.ra S.rs.length T.rc,.slice T.sa S.ss.length T.sc,.slice T.ta S.ts.length T.tc] 27)=V:=⟨_,rfl⟩
 have HV:Hid ((w.alloc (.cells #[.string S.x,.slice S.ra S.rs.length S.rc,.slice S.sa S.ss.length S.sc,.slice S.ta S.ts.length S.tc] 27)).alloc (.cells #[.string S.x,.slice T.ra S.rs.length T.rc,.slice T.sa S.ss.length T.sc,.slice T.ta S.ts.length T.tc] 27)=V):=eV
 have HBV:Hid (Below w§ w V):=by show Below _ _ _; rw [← eV]; exact below_two _ _ _
 have HD:Hid (V.heap[w§]? = some (.cells #[.string S.x,.slice S.ra S.rs.length S.rc,.slice S.sa S.ss.length S.sc,.slice S.ta S.ts.length S.tc] 27 (0,0))):=by show _=_; rw [← eV]; exact heap_old (heap_new _ _) (by rw [size_alloc]; omega)
 have HY:Hid (V.heap[w§+1]? = some (.cells #[.string S.x,.slice T.ra S.rs.length T.rc,.slice T.sa S.ss.length T.sc,.slice T.ta S.ts.length T.tc] 27 (0,0))):=by show _=_; rw [← eV,← size_alloc w (.cells #[.string S.x,.slice S.ra S.rs.length S.rc,.slice S.sa S.ss.length S.sc,.slice S.ta S.ts.length S.tc] 27)]; exact heap_new _ _
 have HSL:Hid (StratL w S):=hs
 have HTL:Hid (StratL w T):=hy
 have HLE:Hid ((S.rs.length=T.rs.length∧S.rs.map RegM.tr=T.rs.map RegM.tr)∧(S.ss.length=T.ss.length∧S.ss.map SlotM.tr=T.ss.map SlotM.tr)∧(S.ts.length=T.ts.length∧S.ts.map StateM.tr=T.ts.map StateM.tr)):=⟨⟨hl1,hr⟩,⟨hl2,hsl⟩,⟨hl3,ht⟩⟩
 have HZ:Hid (StratZ9 S):=hz
 have a0:V.cell? ⟨w§,0,none⟩=some (.string S.x):=cell_of HD.out 0
 have a1:V.cell? ⟨w§,1,none⟩=some (.slice S.ra S.rs.length S.rc):=cell_of HD.out 1
 have a2:V.cell? ⟨w§,2,none⟩=some (.slice S.sa S.ss.length S.sc):=cell_of HD.out 2
 have a3:V.cell? ⟨w§,3,none⟩=some (.slice S.ta S.ts.length S.tc):=cell_of HD.out 3
 have b0:V.cell? ⟨w§+1,0,none⟩=some (.string S.x):=cell_of HY.out 0
 have b1:V.cell? ⟨w§+1,1,none⟩=some (.slice T.ra S.rs.length T.rc):=cell_of HY.out 1
 have b2:V.cell? ⟨w§+1,2,none⟩=some (.slice T.sa S.ss.length T.sc):=cell_of HY.out 2
 have b3:V.cell? ⟨w§+1,3,none⟩=some (.slice T.ta S.ts.length T.tc):=cell_of HY.out 3
 show Calls zG 46 #[.agg #[.string S.x,.slice S.ra S.rs.length S.rc,.slice S.sa S.ss.length S.sc,.slice S.ta S.ts.length S.tc],.agg #[.string T.x,.slice T.ra T.rs.length T.rc,.slice T.sa T.ss.length T.sc,.slice T.ta T.ts.length T.tc]] w _
 rw [← hx,← hl1,← hl2,← hl3]
 clear hs hy hz eV hx hr hsl ht hl1 hl2 hl3
 go_enter Tryz.func46,Tryz.ntmps46
 go_upto_region 1 with fail
 rw [HV.out]
 clear HV
 go_upto_region 3 with fail
 clear a0 a1 a2 a3 b0 b1 b2 b3
 go_wp2_with fail
 go_loopw [5] (fun t wr=>∃ i:Nat,i≤S.rs.length∧t=zI i∧Hid (Below V§ V wr)) (fun t _=>S.rs.length - (intOf t).toNat)
 case atStart=>exact⟨0,by omega,rfl,Below.refl _ _⟩
 case round =>
  obtain⟨i,hi,rfl,HBR⟩:=hrel
  have HDr:Hid (wr.heap[w§]? = some (.cells #[.string S.x,.slice S.ra S.rs.length S.rc,.slice S.sa S.ss.length S.sc,.slice S.ta S.ts.length S.tc] 27 (0,0))):=(HBR.out.block _ (Array.getElem?_eq_some_iff.1 HD.out).1).trans HD.out
  have HYr:Hid (wr.heap[w§+1]? = some (.cells #[.string S.x,.slice T.ra S.rs.length T.rc,.slice T.sa S.ss.length T.sc,.slice T.ta S.ts.length T.tc] 27 (0,0))):=(HBR.out.block _ (Array.getElem?_eq_some_iff.1 HY.out).1).trans HY.out
  have a1:wr.cell? ⟨w§,1,none⟩=some (.slice S.ra S.rs.length S.rc):=cell_of HDr.out 1
  by_cases hlt:i < S.rs.length
  ·have hlt':(i:Int) < (S.rs.length:Int):=by omega
   have hlt2:i < T.rs.length:=by rw [← HLE.out.1.1]; exact hlt
   obtain⟨b,o,ea⟩:=sl_addr HSL.out.1 (i:=i) (by rw [List.length_map]; exact hlt)
   obtain⟨b',o',ea'⟩:=sl_addr HTL.out.1 (i:=i) (by rw [List.length_map]; exact hlt2)
   have hsl:=HSL.out.1.on (mapz RegM.sz _) (below2 HBV.out HBR.out)
   have hsl':=HTL.out.1.on (mapz RegM.sz _) (below2 HBV.out HBR.out)
   rw [ea] at hsl a1
   rw [ea'] at hsl'
   have hR:=rng_at RegM.sz hsl hlt
   have hR':=rng_at RegM.sz hsl' hlt2
   have hTR:=map_at HLE.out.1.2 hlt hlt2
   have HM:Hid (S.rs[i] ∈ S.rs∧T.rs[i] ∈ T.rs):=⟨List.getElem_mem hlt,List.getElem_mem hlt2⟩
   have HEA:Hid (S.ra=some ⟨b,o,none⟩∧T.ra=some ⟨b',o',none⟩):=⟨ea,ea'⟩
   obtain⟨d,ed⟩:∃ d,S.rs[i]=d:=⟨_,rfl⟩
   obtain⟨y,ey⟩:∃ d,T.rs[i]=d:=⟨_,rfl⟩
   rw [ed] at hR hTR HM
   rw [ey] at hR' hTR HM
   have HR:Hid (wr.rangeAt b (o+i * 11) d.vals.toList∧wr.rangeAt b' (o'+i * 11) y.vals.toList):=⟨hR,hR'⟩
   have HTR:Hid (d.tr=y.tr):=hTR
   have b1:wr.cell? ⟨w§+1,1,none⟩=some (.slice (some ⟨b',o',none⟩) S.rs.length T.rc):=by rw [← ea']; exact cell_of HYr.out 1
   clear hR hR' hTR ed ey ea ea' hsl hsl'
   have HRR:Hid (RegL V d∧RegL V y):=⟨(HSL.out.2.1 d HM.out.1).on HBV.out,(HTL.out.2.1 y HM.out.2).on HBV.out⟩
   have HTE:Hid (d.x=y.x∧d.t=y.t∧treeOf d.m=treeOf y.m∧d.p=y.p):=by
    have h:=HTR.out
    simp only [RegM.tr,RegT.mk.injEq] at h
    exact h
   have HZ0:Hid ((wr.alloc (.cells #[.string ⟨#[]⟩,zU 0,zU 0,zU 0,zU 0,zI 0,zU 0,.string ⟨#[]⟩,.slice none 0 0,zI 0,zI 0] 62)).heap[wr§]? = some (.cells #[.string ⟨#[]⟩,zU 0,zU 0,zU 0,zU 0,zI 0,zU 0,.string ⟨#[]⟩,.slice none 0 0,zI 0,zI 0] 62 (0,0))):=heap_new _ _
   have HU0:Hid (Below wr§ wr ((wr.alloc (.cells #[.string ⟨#[]⟩,zU 0,zU 0,zU 0,zU 0,zI 0,zU 0,.string ⟨#[]⟩,.slice none 0 0,zI 0,zI 0] 62)).setRow wr§ d.vals)∧((wr.alloc (.cells #[.string ⟨#[]⟩,zU 0,zU 0,zU 0,zU 0,zI 0,zU 0,.string ⟨#[]⟩,.slice none 0 0,zI 0,zI 0] 62)).setRow wr§ d.vals).heap[wr§]? = some (.cells d.vals 62 (0,0))∧((wr.alloc (.cells #[.string ⟨#[]⟩,zU 0,zU 0,zU 0,zU 0,zI 0,zU 0,.string ⟨#[]⟩,.slice none 0 0,zI 0,zI 0] 62)).setRow wr§ d.vals)§=wr§+1):=⟨below_row (below_new _ _) (Nat.le_refl _) _,setRow_heap _ _ _ _ _ _ HZ0.out,by rw [sz_row,size_alloc]⟩
   have b1h:Hid (wr.cell? ⟨w§+1,1,none⟩=some (.slice (some ⟨b',o',none⟩) S.rs.length T.rc)):=b1
   clear b1
   go_upto_region 7 with (first | (refine wpList_load_mid rfl 62 (.tmp 54) rfl b (o+i * 11) rfl d.vals.toList _ HR.out.1 Tryz.underlying62 rfl (by show _=some 11; exact size62s) ?_; rw [Array.toArray_toList]) | (refine wpList_store_row rfl 62 (.tmp 6) (.tmp 55) rfl wr§ d.vals rfl rfl 62 #[.string ⟨#[]⟩,zU 0,zU 0,zU 0,zU 0,zI 0,zU 0,.string ⟨#[]⟩,.slice none 0 0,zI 0,zI 0] HZ0.out (by show _=some 11; exact size62s) rfl (all11 d) ?_))
   generalize World.setRow _ _ _=U0 at HU0 ⊢
   have hu0:=HU0.out
   have b1:U0.cell? ⟨w§+1,1,none⟩=some (.slice (some ⟨b',o',none⟩) S.rs.length T.rc):=(World.cell?_of_block (hu0.1.block _ (World.block_lt_of_cell? wr _ b1h.out))).trans b1h.out
   have HR2:Hid (U0.rangeAt b' (o'+i * 11) y.vals.toList):=fun j v hv=>by
    have h2:=HR.out.2 j v hv
    rw [World.cell?_of_block (hu0.1.block b' (World.block_lt_of_cell? wr _ h2))]; exact h2
   have HZ1:Hid ((U0.alloc (.cells #[.string ⟨#[]⟩,zU 0,zU 0,zU 0,zU 0,zI 0,zU 0,.string ⟨#[]⟩,.slice none 0 0,zI 0,zI 0] 62)).heap[U0§]? = some (.cells #[.string ⟨#[]⟩,zU 0,zU 0,zU 0,zU 0,zI 0,zU 0,.string ⟨#[]⟩,.slice none 0 0,zI 0,zI 0] 62 (0,0))):=heap_new _ _
   have HU1:Hid (Below U0§ U0 ((U0.alloc (.cells #[.string ⟨#[]⟩,zU 0,zU 0,zU 0,zU 0,zI 0,zU 0,.string ⟨#[]⟩,.slice none 0 0,zI 0,zI 0] 62)).setRow U0§ y.vals)∧((U0.alloc (.cells #[.string ⟨#[]⟩,zU 0,zU 0,zU 0,zU 0,zI 0,zU 0,.string ⟨#[]⟩,.slice none 0 0,zI 0,zI 0] 62)).setRow U0§ y.vals).heap[U0§]? = some (.cells y.vals 62 (0,0))):=⟨below_row (below_new _ _) (Nat.le_refl _) _,setRow_heap _ _ _ _ _ _ HZ1.out⟩
   clear hu0 a1 HZ0
   go_upto_region 8 with (first | (refine wpList_load_mid rfl 62 (.tmp 59) rfl b' (o'+i * 11) rfl y.vals.toList _ HR2.out Tryz.underlying62 rfl (by show _=some 11; exact size62s) ?_; rw [Array.toArray_toList]) | (refine wpList_store_row rfl 62 (.tmp 7) (.tmp 60) rfl U0§ y.vals rfl rfl 62 #[.string ⟨#[]⟩,zU 0,zU 0,zU 0,zU 0,zI 0,zU 0,.string ⟨#[]⟩,.slice none 0 0,zI 0,zI 0] HZ1.out (by show _=some 11; exact size62s) rfl (all11 y) ?_))
   generalize World.setRow _ _ _=U1 at HU1 ⊢
   have hu1:=HU1.out
   have HBU:Hid (Below wr§ wr U1):=below2 HU0.out.1 hu1.1
   have HB1:Hid (U1.heap[wr§]? = some (.cells d.vals 62 (0,0))∧U1.heap[wr§+1]? = some (.cells y.vals 62 (0,0))):=⟨(hu1.1.block _ (Array.getElem?_eq_some_iff.1 HU0.out.2.1).1).trans HU0.out.2.1,by rw [← HU0.out.2.2]; exact hu1.2⟩
   rw [HU0.out.2.2]
   clear hu1 HU1 b1 HR HR2 b1h HZ1
   obtain⟨N,eN⟩:∃ q,wr§=q:=⟨_,rfl⟩
   rw [eN] at HB1 ⊢
   clear eN
   have cN:=same_id d.m y.m U1 ((HRR.out.1.1.on HBR.out).on HBU.out) ((HRR.out.2.1.on HBR.out).on HBU.out) HTE.out.2.2.1
   go_upto_region 9 with (first | (refine wpList_load_mid rfl 48 (.tmp 61) rfl N 2 rfl d.m.vals.toList _ (nd_rng HB1.out.1 2 d.m (reg_m d)) Tryz.underlying48 rfl (size38 d.m) ?_; rw [toArr]) | (refine wpList_load_mid rfl 48 (.tmp 63) rfl (N+1) 2 rfl y.m.vals.toList _ (nd_rng HB1.out.2 2 y.m (reg_m y)) Tryz.underlying48 rfl (size38 y.m) ?_; rw [toArr]) | (go_at_call 48; refine cN.mono ?_; rintro _ U2 ⟨rfl,hb2⟩))
   have HB2:Hid (U2.heap[N]? = some (.cells d.vals 62 (0,0))∧U2.heap[N+1]? = some (.cells y.vals 62 (0,0))):=⟨(hb2.block _ (Array.getElem?_eq_some_iff.1 HB1.out.1).1).trans HB1.out.1,(hb2.block _ (Array.getElem?_eq_some_iff.1 HB1.out.2).1).trans HB1.out.2⟩
   have HBZ:Hid (Below V§ V U2):=below2 (below2 HBR.out HBU.out) hb2
   have c0:U2.cell? ⟨N,0,none⟩=some (.string d.x):=cell_of HB2.out.1 0
   have c1:U2.cell? ⟨N,1,none⟩=some (zU d.t):=cell_of HB2.out.1 1
   have c9:U2.cell? ⟨N,10,none⟩=some (zI d.p):=cell_of HB2.out.1 10
   have d0:U2.cell? ⟨N+1,0,none⟩=some (.string d.x):=by rw [HTE.out.1]; exact cell_of HB2.out.2 0
   have d1:U2.cell? ⟨N+1,1,none⟩=some (zU d.t):=by rw [HTE.out.2.1]; exact cell_of HB2.out.2 1
   have d9:U2.cell? ⟨N+1,10,none⟩=some (zI d.p):=by rw [HTE.out.2.2.2]; exact cell_of HB2.out.2 10
   clear cN hb2 HB1 HBU HU0 HEA
   go_upto_region 5 with fail
   clear c0 c1 c9 d0 d1 d9
   have hmx:(i:Int)+1≤9223372036854775807:=by have:=HZ.out.1; omega
   go_wp2_with fail
   exact⟨⟨i+1,hlt,rfl,HBZ⟩,by simp only [intOf]; omega⟩
  ·obtain rfl:i=S.rs.length:=by omega
   have hnot:¬ (S.rs.length:Int) < (S.rs.length:Int):=by omega
   have HSB:=HBR
   clear HBR
   go_upto_region 12 with fail
   clear a1 hnot
   go_loopw [9] (fun t wr=>∃ i:Nat,i≤S.ss.length∧t=zI i∧Hid (Below V§ V wr)) (fun t _=>S.ss.length - (intOf t).toNat)
   case atStart=>exact⟨0,by omega,rfl,HSB⟩
   case round =>
    obtain⟨i,hi,rfl,HBR⟩:=hrel
    have HDr:Hid (wr.heap[w§]? = some (.cells #[.string S.x,.slice S.ra S.rs.length S.rc,.slice S.sa S.ss.length S.sc,.slice S.ta S.ts.length S.tc] 27 (0,0))):=(HBR.out.block _ (Array.getElem?_eq_some_iff.1 HD.out).1).trans HD.out
    have HYr:Hid (wr.heap[w§+1]? = some (.cells #[.string S.x,.slice T.ra S.rs.length T.rc,.slice T.sa S.ss.length T.sc,.slice T.ta S.ts.length T.tc] 27 (0,0))):=(HBR.out.block _ (Array.getElem?_eq_some_iff.1 HY.out).1).trans HY.out
    have a1:wr.cell? ⟨w§,2,none⟩=some (.slice S.sa S.ss.length S.sc):=cell_of HDr.out 2
    by_cases hlt:i < S.ss.length
    ·have hlt':(i:Int) < (S.ss.length:Int):=by omega
     have hlt2:i < T.ss.length:=by rw [← HLE.out.2.1.1]; exact hlt
     obtain⟨b,o,ea⟩:=sl_addr HSL.out.2.2.1 (i:=i) (by rw [List.length_map]; exact hlt)
     obtain⟨b',o',ea'⟩:=sl_addr HTL.out.2.2.1 (i:=i) (by rw [List.length_map]; exact hlt2)
     have hsl:=HSL.out.2.2.1.on (mapz SlotM.sz _) (below2 HBV.out HBR.out)
     have hsl':=HTL.out.2.2.1.on (mapz SlotM.sz _) (below2 HBV.out HBR.out)
     rw [ea] at hsl a1
     rw [ea'] at hsl'
     have hR:=rng_at SlotM.sz hsl hlt
     have hR':=rng_at SlotM.sz hsl' hlt2
     have hTR:=map_at HLE.out.2.1.2 hlt hlt2
     have HM:Hid (S.ss[i] ∈ S.ss∧T.ss[i] ∈ T.ss):=⟨List.getElem_mem hlt,List.getElem_mem hlt2⟩
     have HEA:Hid (S.sa=some ⟨b,o,none⟩∧T.sa=some ⟨b',o',none⟩):=⟨ea,ea'⟩
     obtain⟨d,ed⟩:∃ d,S.ss[i]=d:=⟨_,rfl⟩
     obtain⟨y,ey⟩:∃ d,T.ss[i]=d:=⟨_,rfl⟩
     rw [ed] at hR hTR HM
     rw [ey] at hR' hTR HM
     have HR:Hid (wr.rangeAt b (o+i * 2) d.vals.toList∧wr.rangeAt b' (o'+i * 2) y.vals.toList):=⟨hR,hR'⟩
     have HTR:Hid (d.tr=y.tr):=hTR
     have b1:wr.cell? ⟨w§+1,2,none⟩=some (.slice (some ⟨b',o',none⟩) S.ss.length T.sc):=by rw [← ea']; exact cell_of HYr.out 2
     clear hR hR' hTR ed ey ea ea' hsl hsl'
     have HN1:Hid (wr.cell? ⟨w§,2,none⟩=some (.slice (some ⟨b,o,none⟩) S.ss.length S.sc)∧wr.cell? ⟨w§+1,2,none⟩=some (.slice (some ⟨b',o',none⟩) S.ss.length T.sc)):=⟨a1,b1⟩
     have HSK:Hid (∀ v,Below wr§ wr v→v.cell? ⟨w§,2,none⟩=some (.slice (some ⟨b,o,none⟩) S.ss.length S.sc)∧v.cell? ⟨w§+1,2,none⟩=some (.slice (some ⟨b',o',none⟩) S.ss.length T.sc)∧v.rangeAt b (o+i * 2) d.vals.toList∧v.rangeAt b' (o'+i * 2) y.vals.toList):=fun v hv=>by
      have e1:=hv.block _ (World.block_lt_of_cell? wr _ HN1.out.1)
      have e2:=hv.block _ (World.block_lt_of_cell? wr _ HN1.out.2)
      refine⟨(World.cell?_of_block e1).trans HN1.out.1,(World.cell?_of_block e2).trans HN1.out.2,fun j u hj=>?_,fun j u hj=>?_⟩
      ·have h:=HR.out.1 j u hj
       exact (World.cell?_of_block (hv.block _ (World.block_lt_of_cell? wr _ h))).trans h
      ·have h:=HR.out.2 j u hj
       exact (World.cell?_of_block (hv.block _ (World.block_lt_of_cell? wr _ h))).trans h
     have HVV:Hid (d.vals=#[.string d.x,zI d.p]∧y.vals=#[.string d.x,zI d.p]):=by
      have h:=HTR.out
      simp only [SlotM.tr,SlotT.mk.injEq] at h
      exact⟨rfl,by rw [h.1,h.2]; rfl⟩
     have hne:=fun v:World=>eq65s d.x d.p v
     go_upto_region 14 with fail
     clear a1 b1
     refine (?_:∀ Q',Hid (Q'=_)→Code.wp _ _ Q' _ _) _ rfl
     intro Q' HQ'
     have HPn:Hid (∀ p (d:Nat) v a w,Q' (.panic p) (Act.put a (some d) v) w→Q' (.panic p) a w):=by rw [HQ'.out]; exact fun _ _ _ _ _ h=>h
     refine wp_region_held_drew (S:=fun v=>Below wr§ wr v) zK ⟨rfl,rfl,rfl,Nat.le_refl _,fun _ _=>rfl⟩ (fun hHeld=>?_)
     refine wpAnyH_take (i:=0) (v:=?_) rfl zK zK zK (fun c a w h=>HPn.out c _ _ a w h) (Or.inl ⟨by rfl,?_⟩) (by assumption) ?_
     rotate_left
     ·(intro v hv; go_simp; try (with_reducible rfl))
     try simp [Act.put]
     refine wpAnyH_take (i:=1) (v:=?_) rfl zK zK zK (fun c a w h=>HPn.out c _ _ a w h) (Or.inl ⟨by rfl,?_⟩) (by assumption) ?_
     rotate_left
     ·(intro v hv; have t1:=(HSK.out v hv).1; go_simp; try (with_reducible rfl))
     try simp [Act.put]
     refine wpAnyH_take (i:=2) (v:=?_) rfl zK zK zK (fun c a w h=>HPn.out c _ _ a w h) (Or.inl ⟨by rfl,?_⟩) (by assumption) ?_
     rotate_left
     ·(intro v hv; go_simp; try (with_reducible rfl))
     try simp [Act.put]
     refine wpAnyH_take (i:=3) (v:=?_) rfl zK zK zK (fun c a w h=>HPn.out c _ _ a w h) (Or.inl ⟨by rfl,?_⟩) (by assumption) ?_
     rotate_left
     ·(intro v hv; go_simp; try (with_reducible rfl))
     try simp [Act.put]
     refine wpAnyH_take (i:=4) (v:=.agg d.vals.toList.toArray) rfl zK zK zK (fun c a w h=>HPn.out c _ _ a w h) (yieldsIf_load_mid (by rfl) 65 (.tmp 99) rfl b (o+i * 2) rfl d.vals.toList _ (fun v hv=>(HSK.out v hv).2.2.1) Tryz.underlying65 rfl (by show _=some 2; exact size65s)) (by assumption) ?_
     rw [show (d.vals.toList.toArray:Array Value)=d.vals from by simp]
     try simp [Act.put]
     refine wpAnyH_take (i:=5) (v:=?_) rfl zK zK zK (fun c a w h=>HPn.out c _ _ a w h) (Or.inl ⟨by rfl,?_⟩) (by assumption) ?_
     rotate_left
     ·(intro v hv; go_simp; try (with_reducible rfl))
     try simp [Act.put]
     refine wpAnyH_take (i:=6) (v:=?_) rfl zK zK zK (fun c a w h=>HPn.out c _ _ a w h) (Or.inl ⟨by rfl,?_⟩) (by assumption) ?_
     rotate_left
     ·(intro v hv; have t1:=(HSK.out v hv).2.1; go_simp; try (with_reducible rfl))
     try simp [Act.put]
     refine wpAnyH_take (i:=7) (v:=?_) rfl zK zK zK (fun c a w h=>HPn.out c _ _ a w h) (Or.inl ⟨by rfl,?_⟩) (by assumption) ?_
     rotate_left
     ·(intro v hv; go_simp; try (with_reducible rfl))
     try simp [Act.put]
     refine wpAnyH_take (i:=8) (v:=?_) rfl zK zK zK (fun c a w h=>HPn.out c _ _ a w h) (Or.inl ⟨by rfl,?_⟩) (by assumption) ?_
     rotate_left
     ·(intro v hv; go_simp; try (with_reducible rfl))
     try simp [Act.put]
     refine wpAnyH_take (i:=9) (v:=.agg y.vals.toList.toArray) rfl zK zK zK (fun c a w h=>HPn.out c _ _ a w h) (yieldsIf_load_mid (by rfl) 65 (.tmp 104) rfl b' (o'+i * 2) rfl y.vals.toList _ (fun v hv=>(HSK.out v hv).2.2.2) Tryz.underlying65 rfl (by show _=some 2; exact size65s)) (by assumption) ?_
     rw [show (y.vals.toList.toArray:Array Value)=y.vals from by simp]
     try simp [Act.put]
     rw [HVV.out.1,HVV.out.2]
     refine wpAnyH_take (i:=10) (v:=?_) rfl zK zK zK (fun c a w h=>HPn.out c _ _ a w h) (Or.inl ⟨by rfl,?_⟩) (by assumption) ?_
     rotate_left
     ·(intro v hv; go_simp; try (with_reducible rfl))
     try simp [Act.put]
     refine wpAnyH_done zK ?_ _
     rw [HQ'.out]
     clear HQ' HPn Q' hne HSK HN1 HR HEA
     have HBZ:Hid (Below V§ V wr.drew):=below2 HBR.out (show Below wr§ wr wr.drew from ⟨rfl,rfl,rfl,Nat.le_refl _,fun _ _=>rfl⟩)
     have hmx:(i:Int)+1≤9223372036854775807:=by have:=HZ.out.2.2.1; omega
     go_wp2_with fail
     exact⟨⟨i+1,hlt,rfl,HBZ⟩,by simp only [intOf]; omega⟩
    ·obtain rfl:i=S.ss.length:=by omega
     have hnot:¬ (S.ss.length:Int) < (S.ss.length:Int):=by omega
     have HSB:=HBR
     clear HBR
     go_upto_region 17 with fail
     clear a1 hnot
     go_loopw [10] (fun t wr=>∃ i:Nat,i≤S.ts.length∧t=zI i∧Hid (Below V§ V wr)) (fun t _=>S.ts.length - (intOf t).toNat)
     case atStart=>exact⟨0,by omega,rfl,HSB⟩
     case round =>
      obtain⟨i,hi,rfl,HBR⟩:=hrel
      have HDr:Hid (wr.heap[w§]? = some (.cells #[.string S.x,.slice S.ra S.rs.length S.rc,.slice S.sa S.ss.length S.sc,.slice S.ta S.ts.length S.tc] 27 (0,0))):=(HBR.out.block _ (Array.getElem?_eq_some_iff.1 HD.out).1).trans HD.out
      have HYr:Hid (wr.heap[w§+1]? = some (.cells #[.string S.x,.slice T.ra S.rs.length T.rc,.slice T.sa S.ss.length T.sc,.slice T.ta S.ts.length T.tc] 27 (0,0))):=(HBR.out.block _ (Array.getElem?_eq_some_iff.1 HY.out).1).trans HY.out
      have a1:wr.cell? ⟨w§,3,none⟩=some (.slice S.ta S.ts.length S.tc):=cell_of HDr.out 3
      by_cases hlt:i < S.ts.length
      ·have hlt':(i:Int) < (S.ts.length:Int):=by omega
       have hlt2:i < T.ts.length:=by rw [← HLE.out.2.2.1]; exact hlt
       obtain⟨b,o,ea⟩:=sl_addr HSL.out.2.2.2.2.1 (i:=i) (by rw [List.length_map]; exact hlt)
       obtain⟨b',o',ea'⟩:=sl_addr HTL.out.2.2.2.2.1 (i:=i) (by rw [List.length_map]; exact hlt2)
       have hsl:=HSL.out.2.2.2.2.1.on (mapz StateM.sz _) (below2 HBV.out HBR.out)
       have hsl':=HTL.out.2.2.2.2.1.on (mapz StateM.sz _) (below2 HBV.out HBR.out)
       rw [ea] at hsl a1
       rw [ea'] at hsl'
       have hR:=rng_at StateM.sz hsl hlt
       have hR':=rng_at StateM.sz hsl' hlt2
       have hTR:=map_at HLE.out.2.2.2 hlt hlt2
       have HM:Hid (S.ts[i] ∈ S.ts∧T.ts[i] ∈ T.ts):=⟨List.getElem_mem hlt,List.getElem_mem hlt2⟩
       have HEA:Hid (S.ta=some ⟨b,o,none⟩∧T.ta=some ⟨b',o',none⟩):=⟨ea,ea'⟩
       obtain⟨d,ed⟩:∃ d,S.ts[i]=d:=⟨_,rfl⟩
       obtain⟨y,ey⟩:∃ d,T.ts[i]=d:=⟨_,rfl⟩
       rw [ed] at hR hTR HM
       rw [ey] at hR' hTR HM
       have HR:Hid (wr.rangeAt b (o+i * 3) d.vals.toList∧wr.rangeAt b' (o'+i * 3) y.vals.toList):=⟨hR,hR'⟩
       have HTR:Hid (d.tr=y.tr):=hTR
       have b1:wr.cell? ⟨w§+1,3,none⟩=some (.slice (some ⟨b',o',none⟩) S.ts.length T.tc):=by rw [← ea']; exact cell_of HYr.out 3
       clear hR hR' hTR ed ey ea ea' hsl hsl'
       have HN1:Hid (wr.cell? ⟨w§,3,none⟩=some (.slice (some ⟨b,o,none⟩) S.ts.length S.tc)∧wr.cell? ⟨w§+1,3,none⟩=some (.slice (some ⟨b',o',none⟩) S.ts.length T.tc)):=⟨a1,b1⟩
       have HSK:Hid (∀ v,Below wr§ wr v→v.cell? ⟨w§,3,none⟩=some (.slice (some ⟨b,o,none⟩) S.ts.length S.tc)∧v.cell? ⟨w§+1,3,none⟩=some (.slice (some ⟨b',o',none⟩) S.ts.length T.tc)∧v.rangeAt b (o+i * 3) d.vals.toList∧v.rangeAt b' (o'+i * 3) y.vals.toList):=fun v hv=>by
        have e1:=hv.block _ (World.block_lt_of_cell? wr _ HN1.out.1)
        have e2:=hv.block _ (World.block_lt_of_cell? wr _ HN1.out.2)
        refine⟨(World.cell?_of_block e1).trans HN1.out.1,(World.cell?_of_block e2).trans HN1.out.2,fun j u hj=>?_,fun j u hj=>?_⟩
        ·have h:=HR.out.1 j u hj
         exact (World.cell?_of_block (hv.block _ (World.block_lt_of_cell? wr _ h))).trans h
        ·have h:=HR.out.2 j u hj
         exact (World.cell?_of_block (hv.block _ (World.block_lt_of_cell? wr _ h))).trans h
       have HBW:=below2 HBV.out (below2 HBR.out (show Below wr§ wr wr.drew from ⟨rfl,rfl,rfl,Nat.le_refl _,fun _ _=>rfl⟩))
       have cS:=sameState_any d y wr.drew ((HSL.out.2.2.2.2.2.1 d HM.out.1).on HBW) ((HTL.out.2.2.2.2.2.1 y HM.out.2).on HBW) HTR.out (HZ.out.2.2.2.2 d HM.out.1).1 (fun r hr=>((HZ.out.2.2.2.2 d HM.out.1).2 r hr).2.1)
       clear HBW
       go_upto_region 19 with fail
       clear a1 b1
       refine (?_:∀ Q',Hid (Q'=_)→Code.wp _ _ Q' _ _) _ rfl
       intro Q' HQ'
       have HPn:Hid (∀ p (d:Nat) v a w,Q' (.panic p) (Act.put a (some d) v) w→Q' (.panic p) a w):=by rw [HQ'.out]; exact fun _ _ _ _ _ h=>h
       refine wp_region_held_drew (S:=fun v=>Below wr§ wr v) zK ⟨rfl,rfl,rfl,Nat.le_refl _,fun _ _=>rfl⟩ (fun hHeld=>?_)
       refine wpAnyH_take (i:=0) (v:=?_) rfl zK zK zK (fun c a w h=>HPn.out c _ _ a w h) (Or.inl ⟨by rfl,?_⟩) (by assumption) ?_
       rotate_left
       ·(intro v hv; go_simp; try (with_reducible rfl))
       try simp [Act.put]
       refine wpAnyH_take (i:=1) (v:=?_) rfl zK zK zK (fun c a w h=>HPn.out c _ _ a w h) (Or.inl ⟨by rfl,?_⟩) (by assumption) ?_
       rotate_left
       ·(intro v hv; have t1:=(HSK.out v hv).1; go_simp; try (with_reducible rfl))
       try simp [Act.put]
       refine wpAnyH_take (i:=2) (v:=?_) rfl zK zK zK (fun c a w h=>HPn.out c _ _ a w h) (Or.inl ⟨by rfl,?_⟩) (by assumption) ?_
       rotate_left
       ·(intro v hv; go_simp; try (with_reducible rfl))
       try simp [Act.put]
       refine wpAnyH_take (i:=3) (v:=?_) rfl zK zK zK (fun c a w h=>HPn.out c _ _ a w h) (Or.inl ⟨by rfl,?_⟩) (by assumption) ?_
       rotate_left
       ·(intro v hv; go_simp; try (with_reducible rfl))
       try simp [Act.put]
       refine wpAnyH_take (i:=4) (v:=.agg d.vals.toList.toArray) rfl zK zK zK (fun c a w h=>HPn.out c _ _ a w h) (yieldsIf_load_mid (by rfl) 68 (.tmp 117) rfl b (o+i * 3) rfl d.vals.toList _ (fun v hv=>(HSK.out v hv).2.2.1) Tryz.underlying68 rfl (by show _=some 3; exact size68s)) (by assumption) ?_
       rw [show (d.vals.toList.toArray:Array Value)=d.vals from by simp]
       try simp [Act.put]
       refine wpAnyH_take (i:=5) (v:=?_) rfl zK zK zK (fun c a w h=>HPn.out c _ _ a w h) (Or.inl ⟨by rfl,?_⟩) (by assumption) ?_
       rotate_left
       ·(intro v hv; go_simp; try (with_reducible rfl))
       try simp [Act.put]
       refine wpAnyH_take (i:=6) (v:=?_) rfl zK zK zK (fun c a w h=>HPn.out c _ _ a w h) (Or.inl ⟨by rfl,?_⟩) (by assumption) ?_
       rotate_left
       ·(intro v hv; have t1:=(HSK.out v hv).2.1; go_simp; try (with_reducible rfl))
       try simp [Act.put]
       refine wpAnyH_take (i:=7) (v:=?_) rfl zK zK zK (fun c a w h=>HPn.out c _ _ a w h) (Or.inl ⟨by rfl,?_⟩) (by assumption) ?_
       rotate_left
       ·(intro v hv; go_simp; try (with_reducible rfl))
       try simp [Act.put]
       refine wpAnyH_take (i:=8) (v:=?_) rfl zK zK zK (fun c a w h=>HPn.out c _ _ a w h) (Or.inl ⟨by rfl,?_⟩) (by assumption) ?_
       rotate_left
       ·(intro v hv; go_simp; try (with_reducible rfl))
       try simp [Act.put]
       refine wpAnyH_take (i:=9) (v:=.agg y.vals.toList.toArray) rfl zK zK zK (fun c a w h=>HPn.out c _ _ a w h) (yieldsIf_load_mid (by rfl) 68 (.tmp 122) rfl b' (o'+i * 3) rfl y.vals.toList _ (fun v hv=>(HSK.out v hv).2.2.2) Tryz.underlying68 rfl (by show _=some 3; exact size68s)) (by assumption) ?_
       rw [show (y.vals.toList.toArray:Array Value)=y.vals from by simp]
       try simp [Act.put]
       refine wpAnyH_ready (rs:=[10]) zK (by simp) ?_
       refine AllReadyH.cons rfl (fun Kx hK=>?_) AllReadyH.nil
       go_simp
       refine cS.mono ?_
       rintro _ w1 ⟨rfl,hb1⟩
       have HB9:Hid (Below wr§ wr w1):=below2 (show Below wr§ wr wr.drew from ⟨rfl,rfl,rfl,Nat.le_refl _,fun _ _=>rfl⟩) hb1
       refine hK.out _ _ HB9.out (fun hHeld=>?_)
       clear hK Kx hb1 cS
       try simp [Act.put]
       refine wpAnyH_take (i:=11) (v:=?_) rfl zK zK zK (fun c a w h=>HPn.out c _ _ a w h) (Or.inl ⟨by rfl,?_⟩) (by assumption) ?_
       rotate_left
       ·(intro v hv; go_simp; try (with_reducible rfl))
       try simp [Act.put]
       refine wpAnyH_done zK ?_ _
       rw [HQ'.out]
       clear HQ' HPn Q' HSK HN1 HR HEA
       have HBZ:Hid (Below V§ V w1):=below2 HBR.out HB9.out
       have hmx:(i:Int)+1≤9223372036854775807:=by have:=HZ.out.2.2.2.1; omega
       go_wp2_with fail
       exact⟨⟨i+1,hlt,rfl,HBZ⟩,by simp only [intOf]; omega⟩
      ·obtain rfl:i=S.ts.length:=by omega
       have hnot:¬ (S.ts.length:Int) < (S.ts.length:Int):=by omega
       go_wp2_with fail
       go_ret
       exact⟨rfl,below2 HBV.out HBR.out⟩
theorem size_tr {m k:Nd}(h:treeOf m=treeOf k):size m=size k:=by
 rw [← size_b m,← size_b k]
 unfold bare
 rw [h]
theorem mem_tr {α β:Type}{f:α→β}{l l':List α}(h:l.map f=l'.map f) {x:α}(hx:x ∈ l):∃ y ∈ l',f y=f x:=by
 have:f x ∈ l'.map f:=by rw [← h]; exact List.mem_map.2 ⟨x,hx,rfl⟩
 exact List.mem_map.1 this
theorem len_tr {α β:Type}{f:α→β}{l l':List α}(h:l.map f=l'.map f):l.length=l'.length:=by have:=congrArg List.length h; simpa using this
theorem z9_tr {S T:StratM}(h:S.tr=T.tr) (hz:StratZ9 T):StratZ9 S:=by
 simp only [StratM.tr,StratT.mk.injEq] at h
 obtain⟨hx,hr,hs,ht⟩:=h
 obtain⟨z1,z2,z3,z4,z5⟩:=hz
 refine⟨by rw [len_tr hr]; exact z1,fun r hr'=>?_,by rw [len_tr hs]; exact z3,by rw [len_tr ht]; exact z4,fun s hs'=>?_⟩
 ·obtain⟨y,hy,e⟩:=mem_tr hr hr'
  simp only [RegM.tr,RegT.mk.injEq] at e
  rw [← size_tr e.2.2.1]; exact z2 y hy
 ·obtain⟨y,hy,e⟩:=mem_tr ht hs'
  simp only [StateM.tr,StateT.mk.injEq] at e
  obtain⟨k1,k2⟩:=z5 y hy
  refine⟨by rw [← len_tr e.2.1]; exact k1,fun r hr'=>?_⟩
  obtain⟨u,hu,e2⟩:=mem_tr e.2.1.symm hr'
  simp only [RuleM.tr,RuleT.mk.injEq] at e2
  obtain⟨l1,l2,l3⟩:=k2 u hu
  refine⟨by rw [← size_tr e2.1]; exact l1,by rw [← len_tr e2.2.1]; exact l2,fun d hd=>?_⟩
  obtain⟨v,hv,e3⟩:=mem_tr e2.2.1.symm hd
  simp only [DoM.tr,DoT.mk.injEq] at e3
  obtain⟨m0,m1,m2,m3,m4⟩:=l3 v hv
  have q0:=size_tr e3.2.2.2.1
  have q1:=size_tr e3.2.2.2.2.1
  have q2:=size_tr e3.2.2.2.2.2.1
  have q3:=size_tr e3.2.2.2.2.2.2.1
  exact⟨⟨by rw [← q0]; exact m0.1,by rw [← q1]; exact m0.2.1,by rw [← q2]; exact m0.2.2.1,by rw [← q3]; exact m0.2.2.2⟩,by rw [← q0]; exact m1,by rw [← q1]; exact m2,by rw [← q2]; exact m3,by rw [← q3]; exact m4⟩
theorem LntT.on {w w':World}{lo:Nat}{s:StateM}(h:LntT w lo s) (k:Below w§ w w'):LntT w' lo s:=kSt.blk h fun b _ hb=>k.block b hb
theorem LntR.on {w w':World}{lo:Nat}{s:RuleM}(h:LntR w lo s) (k:Below w§ w w'):LntR w' lo s:=kRu.blk h fun b _ hb=>k.block b hb
theorem Lrw.on {α:Type}{K:Lkd α}{w w':World}{lo:Nat}{a:Option Addr}{c:Nat}{L:List α}{mk:Nat}(h:Lrw K w lo a c L mk) (k:Below w§ w w'):Lrw K w' lo a c L mk:=h.blk fun b _ hb=>k.block b hb
theorem Lrw.mark {α:Type}{K:Lkd α}{w:World}{lo G c:Nat}{L:List α}{mk:Nat}(h:Lrw K w lo (some ⟨G,0,none⟩) c L mk):w.cell? ⟨G,L.length * K.n+mk,none⟩=some (zI (-771))∧c=L.length+2∧L.length≤1000000000000:=by
 obtain⟨G',h1,h2,h3,h4,h5,h6,h7,h8⟩:=h
 cases h1
 exact⟨h7,h4,h5⟩
theorem Lrw.rng {α:Type}{K:Lkd α}{w:World}{lo G c:Nat}{L:List α}{mk:Nat}(h:Lrw K w lo (some ⟨G,0,none⟩) c L mk) {i:Nat}(hi:i < L.length):w.rangeAt G (i * K.n) (K.f L[i]).toList:=by
 obtain⟨G',h1,h2,h3,h4,h5,h6,h7,h8⟩:=h
 cases h1
 exact h6 i hi
theorem Lrw.addr {α:Type}{K:Lkd α}{w:World}{lo:Nat}{a:Option Addr}{c:Nat}{L:List α}{mk:Nat}(h:Lrw K w lo a c L mk):∃ G,a=some ⟨G,0,none⟩:=by
 obtain⟨G,h1,_⟩:=h
 exact⟨G,h1⟩
set_option maxRecDepth 100000 in
set_option maxHeartbeats 16000000 in
theorem wholeStrat_any (S T:StratM) (w:World) (lo:Nat) (hs:LntS w lo S) (ht:StratL w T) (h:S.tr=T.tr) (hz:StratZ9 T):Calls zG 18 #[.agg S.vals,.agg T.vals] w fun e w'=>e=.returned (.bool true)∧Below w§ w w':=by
 have hz':=z9_tr h hz
 obtain⟨V,eV⟩:∃ V,(w.alloc (.cells S.vals 27)).alloc (.cells T.vals 27)=V:=⟨_,rfl⟩
 have HV:Hid ((w.alloc (.cells S.vals 27)).alloc (.cells T.vals 27)=V):=eV
 have HBV:Hid (Below w§ w V):=by show Below _ _ _; rw [← eV]; exact below_two _ _ _
 have HD:Hid (V.heap[w§]? = some (.cells S.vals 27 (0,0))):=by show _=_; rw [← eV]; exact heap_old (heap_new _ _) (by rw [size_alloc]; omega)
 have HY:Hid (V.heap[w§+1]? = some (.cells T.vals 27 (0,0))):=by show _=_; rw [← eV,← size_alloc w (.cells S.vals 27)]; exact heap_new _ _
 have cS:=sameStrat_any S T V ((LntS.lies hs).on HBV.out) (ht.on HBV.out) h hz'
 have HL:Hid (LntS w lo S):=hs
 have HZ:Hid (StratZ9 S):=hz'
 have HSZ:Hid ((Tryz.prog.info? 27).map (·.size)=some S.vals.size∧(Tryz.prog.info? 27).map (·.size)=some T.vals.size):=⟨size27s,size27s⟩
 clear hs ht h hz hz' eV
 go_enter Tryz.func18,Tryz.ntmps18
 go_upto_region 1 with fail
 rw [HV.out]
 clear HV
 go_upto_region 4 with (first | (refine wpList_load_row rfl 27 (.tmp 2) rfl w§ rfl 27 S.vals (0,0) _ HD.out Tryz.underlying27 rfl HSZ.out.1 ?_) | (refine wpList_load_row rfl 27 (.tmp 3) rfl (w§+1) rfl 27 T.vals (0,0) _ HY.out Tryz.underlying27 rfl HSZ.out.2 ?_) | (go_at_call 46; refine cS.mono ?_; rintro _ U ⟨rfl,hb⟩))
 have HBU:Hid (Below w§ w U):=below2 HBV.out hb
 obtain⟨G1,e1⟩:=HL.out.1.addr
 obtain⟨G2,e2⟩:=HL.out.2.1.addr
 obtain⟨G3,e3⟩:=HL.out.2.2.1.addr
 have HD2:Hid (U.heap[w§]? = some (.cells S.vals 27 (0,0))):=(hb.block _ (Array.getElem?_eq_some_iff.1 HD.out).1).trans HD.out
 have HLU:=HL.out.on HBU.out
 clear cS hb HD HY HBV HSZ
 have h1:Lrw kRg U lo (some ⟨G1,0,none⟩) S.rc S.rs 10:=by rw [← e1]; exact HLU.1
 have h2:Lrw kSl U lo (some ⟨G2,0,none⟩) S.sc S.ss 1:=by rw [← e2]; exact HLU.2.1
 have h3:Lrw kSt U lo (some ⟨G3,0,none⟩) S.tc S.ts 2:=by rw [← e3]; exact HLU.2.2.1
 have HL3:Hid (Lrw kSt U lo (some ⟨G3,0,none⟩) S.tc S.ts 2):=h3
 have m1:U.cell? ⟨G1,S.rs.length * 11+10,none⟩=some (zI (-771)):=h1.mark.1
 have m2:U.cell? ⟨G2,S.ss.length * 2+1,none⟩=some (zI (-771)):=h2.mark.1
 have m3:U.cell? ⟨G3,S.ts.length * 3+2,none⟩=some (zI (-771)):=h3.mark.1
 have q1:U.cell? ⟨w§,1,none⟩=some (.slice (some ⟨G1,0,none⟩) S.rs.length S.rc):=by rw [← e1]; exact cell_of HD2.out 1
 have q2:U.cell? ⟨w§,2,none⟩=some (.slice (some ⟨G2,0,none⟩) S.ss.length S.sc):=by rw [← e2]; exact cell_of HD2.out 2
 have q3:U.cell? ⟨w§,3,none⟩=some (.slice (some ⟨G3,0,none⟩) S.ts.length S.tc):=by rw [← e3]; exact cell_of HD2.out 3
 have HE3:Hid (S.ta=some ⟨G3,0,none⟩):=e3
 have HCC:Hid (S.rc=S.rs.length+2∧S.rs.length≤1000000000000∧S.sc=S.ss.length+2∧S.ss.length≤1000000000000∧S.tc=S.ts.length+2∧S.ts.length≤1000000000000):=⟨h1.mark.2.1,h1.mark.2.2,h2.mark.2.1,h2.mark.2.2,h3.mark.2.1,h3.mark.2.2⟩
 clear h1 h2 h3 HLU e1 e2 e3
 generalize S.rc=c1 at q1 HCC ⊢
 generalize S.sc=c2 at q2 HCC ⊢
 have k1:(S.rs.length:Int)+1≤(c1:Int):=by have:=HCC.out; omega
 have k2:(S.ss.length:Int)+1≤(c2:Int):=by have:=HCC.out; omega
 have k3:(S.ts.length:Int)+1≤(S.tc:Int):=by have:=HCC.out; omega
 have u1:(S.rs.length:Int)+1≤9223372036854775807:=by have:=HCC.out; omega
 have u2:(S.ss.length:Int)+1≤9223372036854775807:=by have:=HCC.out; omega
 have u3:(S.ts.length:Int)+1≤9223372036854775807:=by have:=HCC.out; omega
 have v1:(S.rs.length:Int) < (S.rs.length:Int)+1:=by omega
 have v2:(S.ss.length:Int) < (S.ss.length:Int)+1:=by omega
 have v3:(S.ts.length:Int) < (S.ts.length:Int)+1:=by omega
 go_upto_region 9 with fail
 clear m1 m2 m3 q1 q2 q3 k1 k2 k3 u1 u2 u3 v1 v2 v3
 go_wp2_with fail
 go_loopw [9] (fun t wr=>∃ i:Nat,i≤S.ts.length∧t=zI i∧Hid (Below U§ U wr)) (fun t _=>S.ts.length - (intOf t).toNat)
 case atStart=>exact⟨0,by omega,rfl,Below.refl _ _⟩
 case round =>
  obtain⟨i,hi,rfl,HBR⟩:=hrel
  have q3:wr.cell? ⟨w§,3,none⟩=some (.slice (some ⟨G3,0,none⟩) S.ts.length S.tc):=by rw [← HE3.out]; exact cell_of ((HBR.out.block _ (Array.getElem?_eq_some_iff.1 HD2.out).1).trans HD2.out) 3
  by_cases hlt:i < S.ts.length
  ·have hlt':(i:Int) < (S.ts.length:Int):=by omega
   have hRS:=(HL3.out.on HBR.out).rng hlt
   have hTS:LntT U lo S.ts[i]:=HL3.out.all _ (List.getElem_mem hlt)
   have hZS:=HZ.out.2.2.2.2 _ (List.getElem_mem hlt)
   obtain⟨d,ed⟩:∃ d,S.ts[i]=d:=⟨_,rfl⟩
   rw [ed] at hRS hTS hZS
   clear ed
   obtain⟨Gs,es⟩:=hTS.1.addr
   have hTS1:Lrw kRu U lo (some ⟨Gs,0,none⟩) d.c d.rs 9:=by rw [← es]; exact hTS.1
   have HT:Hid (Lrw kRu U lo (some ⟨Gs,0,none⟩) d.c d.rs 9∧StateZ9 d):=⟨hTS1,hZS⟩
   have r1:wr.cell? ⟨G3,i * 3+1,none⟩=some (.slice (some ⟨Gs,0,none⟩) d.rs.length d.c):=by rw [← es]; exact hRS 1 _ rfl
   have m1:wr.cell? ⟨Gs,d.rs.length * 10+9,none⟩=some (zI (-771)):=(hTS1.on HBR.out).mark.1
   have hCC:=hTS1.mark.2
   obtain⟨n2,en⟩:∃ n,d.rs.length=n:=⟨_,rfl⟩
   have HEN:Hid (d.rs.length=n2):=en
   have HC2:Hid (d.c=n2+2∧n2≤1000000000000):=by rw [← en]; exact hCC
   rw [en] at r1 m1
   have k1:(n2:Int)+1≤(d.c:Int):=by have:=HC2.out; omega
   have u1:(n2:Int)+1≤9223372036854775807:=by have:=HC2.out; omega
   have v1:(n2:Int) < (n2:Int)+1:=by omega
   clear hRS hTS hTS1 hZS es hCC en
   go_upto_region 16 with fail
   clear q3 r1 m1 k1 u1 v1
   go_wp2_with fail
   go_loopw [12] (fun t wr2=>∃ k:Nat,k≤n2∧t=zI k∧Hid (Below U§ U wr2)) (fun t _=>n2 - (intOf t).toNat)
   case atStart=>exact⟨0,by omega,rfl,HBR⟩
   case round =>
   obtain⟨k,hk,rfl,HBK⟩:=hrel
   by_cases hltk:k < n2
   ·have hltk':(k:Int) < (n2:Int):=by omega
    have hltd:k < d.rs.length:=by rw [HEN.out]; exact hltk
    have hRR:=(HT.out.1.on HBK.out).rng hltd
    have hTR:LntR U lo d.rs[k]:=HT.out.1.all _ (List.getElem_mem hltd)
    obtain⟨r,er⟩:∃ r,d.rs[k]=r:=⟨_,rfl⟩
    rw [er] at hRR hTR
    clear er
    obtain⟨Gd,eg⟩:=hTR.2.1.addr
    have hDS:Lrw kDo U lo (some ⟨Gd,0,none⟩) r.c r.ds 35:=by rw [← eg]; exact hTR.2.1
    have HR:Hid (wr.rangeAt Gs (k * 10) r.vals.toList):=hRR
    have HLN:Hid (Lnt U lo r.m):=hTR.1
    have r8:wr.cell? ⟨Gs,k * 10+8,none⟩=some (.slice (some ⟨Gd,0,none⟩) r.ds.length r.c):=by rw [← eg]; exact HR.out 8 _ rfl
    have mk:wr.cell? ⟨Gd,r.ds.length * 36+35,none⟩=some (zI (-771)):=(hDS.on HBK.out).mark.1
    obtain⟨n3,en⟩:∃ n,r.ds.length=n:=⟨_,rfl⟩
    have HC3:Hid (r.c=n3+2∧n3≤1000000000000):=by rw [← en]; exact hDS.mark.2
    rw [en] at r8 mk
    have HCE:Hid (wr.cell? ⟨Gs,k * 10+8,none⟩=some (.slice (some ⟨Gd,0,none⟩) n3 r.c)∧wr.cell? ⟨Gd,n3 * 36+35,none⟩=some (zI (-771))):=⟨r8,mk⟩
    have HSK:Hid (∀ v,Below wr§ wr v→v.cell? ⟨Gs,k * 10+8,none⟩=some (.slice (some ⟨Gd,0,none⟩) n3 r.c)):=fun v hv=>(World.cell?_of_block (hv.block _ (World.block_lt_of_cell? wr _ HCE.out.1))).trans HCE.out.1
    have k1:(n3:Int)+1≤(r.c:Int):=by have:=HC3.out; omega
    have k0:(0:Int)≤(n3:Int)+1:=by omega
    have u1:IntKind.i64.wrap ((n3:Int)+1)=(n3:Int)+1:=by rw [IntKind.wrap_i64]; have:=HC3.out; omega
    clear hRR hTR eg hDS r8 mk en
    go_upto_region 19 with fail
    refine (?_:∀ Q',Hid (Q'=_)→Code.wp _ _ Q' _ _) _ rfl
    intro Q' HQ'
    have HPn:Hid (∀ p (d:Nat) v a w,Q' (.panic p) (Act.put a (some d) v) w→Q' (.panic p) a w):=by rw [HQ'.out]; exact fun _ _ _ _ _ h=>h
    refine wp_region_held_drew (S:=fun v=>Below wr§ wr v) zK ⟨rfl,rfl,rfl,Nat.le_refl _,fun _ _=>rfl⟩ (fun hHeld=>?_)
    refine wpAnyH_take (i:=0) (v:=?_) rfl zK zK zK (fun c a w h=>HPn.out c _ _ a w h) (Or.inl ⟨by rfl,?_⟩) (by assumption) ?_
    rotate_left
    ·(intro v hv; go_simp; try (with_reducible rfl))
    try simp [Act.put]
    refine wpAnyH_take (i:=1) (v:=?_) rfl zK zK zK (fun c a w h=>HPn.out c _ _ a w h) (Or.inl ⟨by rfl,?_⟩) (by assumption) ?_
    rotate_left
    ·(intro v hv; go_simp; try (with_reducible rfl))
    try simp [Act.put]
    refine wpAnyH_take (i:=2) (v:=?_) rfl zK zK zK (fun c a w h=>HPn.out c _ _ a w h) (Or.inl ⟨by rfl,?_⟩) (by assumption) ?_
    rotate_left
    ·(intro v hv; go_simp; try (with_reducible rfl))
    try simp [Act.put]
    refine wpAnyH_take (i:=3) (v:=?_) rfl zK zK zK (fun c a w h=>HPn.out c _ _ a w h) (Or.inl ⟨by rfl,?_⟩) (by assumption) ?_
    rotate_left
    ·(intro v hv; go_simp; try (with_reducible rfl))
    try simp [Act.put]
    refine wpAnyH_take (i:=4) (v:=?_) rfl zK zK zK (fun c a w h=>HPn.out c _ _ a w h) (Or.inl ⟨by rfl,?_⟩) (by assumption) ?_
    rotate_left
    ·(intro v hv; have t1:=HSK.out v hv; go_simp; try (with_reducible rfl))
    try simp [Act.put]
    refine wpAnyH_take (i:=5) (v:=?_) rfl zK zK zK (fun c a w h=>HPn.out c _ _ a w h) (Or.inl ⟨by rfl,?_⟩) (by assumption) ?_
    rotate_left
    ·(intro v hv; go_simp; try (with_reducible rfl))
    try simp [Act.put]
    refine wpAnyH_take (i:=6) (v:=?_) rfl zK zK zK (fun c a w h=>HPn.out c _ _ a w h) (Or.inl ⟨by rfl,?_⟩) (by assumption) ?_
    rotate_left
    ·(intro v hv; go_simp; try (with_reducible rfl))
    try simp [Act.put]
    refine wpAnyH_take (i:=7) (v:=?_) rfl zK zK zK (fun c a w h=>HPn.out c _ _ a w h) (Or.inl ⟨by rfl,?_⟩) (by assumption) ?_
    rotate_left
    ·(intro v hv; go_simp; try (with_reducible rfl))
    try simp [Act.put]
    refine wpAnyH_take (i:=8) (v:=?_) rfl zK zK zK (fun c a w h=>HPn.out c _ _ a w h) (Or.inl ⟨by rfl,?_⟩) (by assumption) ?_
    rotate_left
    ·(intro v hv; go_simp; try (with_reducible rfl))
    try simp [Act.put]
    refine wpAnyH_take (i:=9) (v:=?_) rfl zK zK zK (fun c a w h=>HPn.out c _ _ a w h) (Or.inl ⟨by rfl,?_⟩) (by assumption) ?_
    rotate_left
    ·(intro v hv; have t1:=HSK.out v hv; go_simp; try (with_reducible rfl))
    try simp [Act.put]
    refine wpAnyH_take (i:=10) (v:=?_) rfl zK zK zK (fun c a w h=>HPn.out c _ _ a w h) (Or.inl ⟨by rfl,?_⟩) (by assumption) ?_
    rotate_left
    ·(intro v hv; go_simp; try (with_reducible rfl))
    try simp [Act.put]
    refine wpAnyH_take (i:=11) (v:=?_) rfl zK zK zK (fun c a w h=>HPn.out c _ _ a w h) (Or.inl ⟨by rfl,?_⟩) (by assumption) ?_
    rotate_left
    ·(intro v hv; go_simp; try (with_reducible rfl))
    try simp [Act.put]
    refine wpAnyH_take (i:=12) (v:=?_) rfl zK zK zK (fun c a w h=>HPn.out c _ _ a w h) (Or.inl ⟨by rfl,?_⟩) (by assumption) ?_
    rotate_left
    ·(intro v hv; go_simp; try (with_reducible rfl))
    try simp [Act.put]
    refine wpAnyH_take (i:=13) (v:=?_) rfl zK zK zK (fun c a w h=>HPn.out c _ _ a w h) (Or.inl ⟨by rfl,?_⟩) (by assumption) ?_
    rotate_left
    ·(intro v hv; go_simp; try (with_reducible rfl))
    try simp [Act.put]
    refine wpAnyH_done zK ?_ _
    rw [HQ'.out]
    clear HQ' HPn Q' u1 k0
    have HBY:Hid (Below wr§ wr wr.drew):=⟨rfl,rfl,rfl,Nat.le_refl _,fun _ _=>rfl⟩
    generalize wr.drew=Y at HBY ⊢
    have HRM:Hid (Y.rangeAt Gs (k * 10) r.m.vals.toList):=fun j v hv=>by
     have hj:j < 8:=(List.getElem?_eq_some_iff.1 hv).1
     have h:=HR.out j v (by rw [← hv,Array.getElem?_toList,← rule_m r j hj,Nat.zero_add])
     exact (World.cell?_of_block (HBY.out.block _ (World.block_lt_of_cell? wr _ h))).trans h
    have cR:=room_any r.m Y lo ((HLN.out.on HBK.out).on HBY.out)
    go_upto_region 21 with (first | (refine wpList_load_mid rfl 48 (.tmp 116) rfl Gs (k * 10) rfl r.m.vals.toList _ HRM.out Tryz.underlying48 rfl (size38 r.m) ?_; rw [toArr]) | (go_at_call 47; refine cR.mono ?_; rintro _ Y2 ⟨rfl,hb2⟩))
    have HBY2:Hid (Below wr§ wr Y2):=below2 HBY.out hb2
    have r8:Y2.cell? ⟨Gs,k * 10+8,none⟩=some (.slice (some ⟨Gd,0,none⟩) n3 r.c):=HSK.out Y2 HBY2.out
    have mk:Y2.cell? ⟨Gd,n3 * 36+35,none⟩=some (zI (-771)):=(World.cell?_of_block (HBY2.out.block _ (World.block_lt_of_cell? wr _ HCE.out.2))).trans HCE.out.2
    have v1:(n3:Int) < (n3:Int)+1:=by omega
    have HBZ:Hid (Below U§ U Y2):=below2 HBK.out HBY2.out
    clear cR hb2 HRM HBY
    go_upto_region 18 with fail
    clear r8 mk v1 k1
    have hmx:(k:Int)+1≤9223372036854775807:=by have:=HC2.out; omega
    go_wp2_with fail
    exact⟨⟨k+1,hltk,rfl,HBZ⟩,by simp only [intOf]; omega⟩
   ·obtain rfl:k=n2:=by omega
    have hnotk:¬ (k:Int) < (k:Int):=by omega
    have hmx:(i:Int)+1≤9223372036854775807:=by have:=HZ.out.2.2.2.1; omega
    go_wp2_with fail
    exact⟨⟨i+1,hlt,rfl,HBK⟩,by simp only [intOf]; omega⟩
  ·obtain rfl:i=S.ts.length:=by omega
   have hnot:¬ (S.ts.length:Int) < (S.ts.length:Int):=by omega
   go_wp2_with fail
   go_ret
   exact⟨rfl,below2 HBU.out HBR.out⟩
end Go.Proofs.YtoogodlnnijikaaGreatDoor
