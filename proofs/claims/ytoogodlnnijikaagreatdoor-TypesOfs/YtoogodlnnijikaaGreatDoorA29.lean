import Derived.Test.YtoogodlnnijikaaGreatDoorA0
import Derived.Test.YtoogodlnnijikaaGreatDoorA27
namespace Go.Proofs.YtoogodlnnijikaaGreatDoor
open Go.RowKit
set_option linter.unusedVariables false
set_option linter.unusedSimpArgs false
set_option maxRecDepth 100000 in
set_option maxHeartbeats 16000000 in
theorem lendState_any (s:StateM) (w:World) (hl:StateL w s) (hz:StateZ9 s):Calls zG 39 #[.agg s.vals] w fun e w'=>∃ s',e=.returned (.agg s'.vals)∧LntT w' w§ s'∧s'.tr=s.tr∧Below w§ w w':=by
 obtain⟨x,a,c,rs,p⟩:=s
 obtain⟨W,eW⟩:∃ W,(w.alloc (.cells #[.string x,.slice a rs.length c,zI p] 68)).alloc (.cells #[.string ⟨#[]⟩,.slice none 0 0,zI 0] 68)=W:=⟨_,rfl⟩
 have HEW:Hid ((w.alloc (.cells #[.string x,.slice a rs.length c,zI p] 68)).alloc (.cells #[.string ⟨#[]⟩,.slice none 0 0,zI 0] 68)=W):=eW
 have HBW:Hid (Below w§ w W):=by show Below _ _ _; rw [← eW]; exact below_two _ _ _
 have HWS:Hid (W§=w§+2):=by show _=_; rw [← eW,size_alloc,size_alloc]
 have H0:Hid (W.heap[w§]? = some (.cells #[.string x,.slice a rs.length c,zI p] 68 (0,0))):=by show _=_; rw [← eW]; exact heap_old (heap_new _ _) (by rw [size_alloc]; omega)
 have H1:Hid (W.heap[w§+1]? = some (.cells #[.string ⟨#[]⟩,.slice none 0 0,zI 0] 68 (0,0))):=by
  show _=_; rw [← eW,← size_alloc w (.cells #[.string x,.slice a rs.length c,zI p] 68)]; exact heap_new _ _
 have HSL:Hid (SlAt W 10 a c (rs.map RuleM.vals)):=hl.1.on (mapz RuleM.sz _) HBW.out
 have HRS:Hid (∀ r ∈ rs,RuleL W r∧RuleZ9 r):=fun r hr=>⟨(hl.2.1 r hr).on HBW.out,hz.2 r hr⟩
 have HN:Hid (rs.length≤900000000):=hz.1
 have HPX:Hid (I64 p∧SzX x):=hl.2.2
 obtain⟨M,eM⟩:∃ M:Int,(rs.length:Int)+2=M:=⟨_,rfl⟩
 obtain⟨Z,hZ⟩:∃ Z:Array Value,(Tryz.prog.info? 92).map (fun i=>(i.zero,i.size,i.bytes))=some (some (.agg Z),10,104):=⟨_,infR⟩
 have hmk:=fun V=>mk_any (st:=66) Tryz.underlying66 hZ (by decide) HN.out eM V
 obtain⟨K,eK⟩:∃ K,rs.length+2=K:=⟨_,rfl⟩
 have HMD:Hid (Lrr kRu (W.alloc (.cells (madeCells Z ((rs.length+2) * 10)) 92)) W§ rs.length []):=Lrr.new kRu W Z 92 rs.length
 have HMB:Hid (Below W§ W (W.alloc (.cells (madeCells Z ((rs.length+2) * 10)) 92))):=below_new _ _
 have HKK:Hid (rs.length+2=K):=eK
 rw [eK] at hmk HMD HMB
 have q1:W.cell? ⟨w§,1,none⟩=some (.slice a rs.length c):=cell_of H0.out 1
 have hM0:(rs.length:Int)+2≤9223372036854775807:=by have:=HN.out; omega
 clear hl hz eW eK hZ
 show Calls zG 39 #[.agg #[.string x,.slice a rs.length c,zI p]] w _
 go_enter Tryz.func39,Tryz.ntmps39
 go_upto_region 1 with fail
 rw [HEW.out]
 clear HEW
 go_upto_region 2 with fail
 generalize World.alloc W _=V at HMD HMB ⊢
 obtain⟨G,eG⟩:∃ G,W§=G:=⟨_,rfl⟩
 have HGG:Hid (G=w§+2):=by show _=_; rw [← eG]; exact HWS.out
 rw [eG] at HMD ⊢
 clear eG hmk eM hM0 q1
 go_wp2_with fail
 go_loopw [4] (fun t wr=>∃ (i:Nat) (L:List RuleM),i≤rs.length∧t=zI i∧Hid (L.length=i)∧Hid (Below W§ W wr)∧Hid (Lrr kRu wr G rs.length L)∧Hid (L.map RuleM.tr=(rs.map RuleM.tr).take i)) (fun t _=>rs.length - (intOf t).toNat)
 case atStart=>exact⟨0,[],by omega,rfl,rfl,HMB,HMD,rfl⟩
 case round =>
  obtain⟨i,L,hi,rfl,HLI,HBR,HLN,HTT⟩:=hrel
  have HX0:Hid (wr.heap[w§]? = some (.cells #[.string x,.slice a rs.length c,zI p] 68 (0,0))):=(HBR.out.block _ (Array.getElem?_eq_some_iff.1 H0.out).1).trans H0.out
  have q1:wr.cell? ⟨w§,1,none⟩=some (.slice a rs.length c):=cell_of HX0.out 1
  have HK8:Hid ((K:Int)=(rs.length:Int)+2):=by have:=HKK.out; show _=_; omega
  by_cases hlt:i < rs.length
  ·have hlt':(i:Int) < (rs.length:Int):=by omega
   obtain⟨b,o,ea,hat⟩:=(HSL.out.on (mapz RuleM.sz _) HBR.out).2.2 i (by rw [List.length_map]; exact hlt)
   simp only [List.getElem_map] at hat
   have HMEM:Hid (rs[i] ∈ rs):=List.getElem_mem hlt
   obtain⟨d,ed⟩:∃ d,rs[i]=d:=⟨_,rfl⟩
   have HED:Hid (rs[i]=d):=ed
   rw [ed] at hat HMEM
   have HRG:Hid (wr.rangeAt b (o+i * 10) d.vals.toList):=fun j v hv=>by
    have hj:j < 10:=(List.getElem?_eq_some_iff.1 hv).1
    rw [hat j hj,← hv]; simp
   have HZ:Hid ((wr.alloc (.cells #[zU 0,zU 0,zU 0,zI 0,zU 0,.string ⟨#[]⟩,.slice none 0 0,zI 0,.slice none 0 0,zI 0] 92)).heap[wr§]? = some (.cells #[zU 0,zU 0,zU 0,zI 0,zU 0,.string ⟨#[]⟩,.slice none 0 0,zI 0,.slice none 0 0,zI 0] 92 (0,0))):=heap_new _ _
   have HBX:Hid (Below wr§ wr ((wr.alloc (.cells #[zU 0,zU 0,zU 0,zI 0,zU 0,.string ⟨#[]⟩,.slice none 0 0,zI 0,.slice none 0 0,zI 0] 92)).setRow wr§ d.vals)):=below_row (below_new _ _) (Nat.le_refl _) _
   have HNX:Hid (((wr.alloc (.cells #[zU 0,zU 0,zU 0,zI 0,zU 0,.string ⟨#[]⟩,.slice none 0 0,zI 0,.slice none 0 0,zI 0] 92)).setRow wr§ d.vals).heap[wr§]? = some (.cells d.vals 92 (0,0))):=setRow_heap _ _ _ _ _ _ HZ.out
   subst ea
   clear hat ed
   go_upto_region 6 with (first | (refine wpList_load_mid rfl 92 (.tmp 24) rfl b (o+i * 10) rfl d.vals.toList _ HRG.out Tryz.underlying92 rfl (by show _=some 10; exact size106') ?_; rw [Array.toArray_toList]) | (refine wpList_store_row rfl 92 (.tmp 5) (.tmp 25) rfl wr§ d.vals rfl rfl 92 #[zU 0,zU 0,zU 0,zI 0,zU 0,.string ⟨#[]⟩,.slice none 0 0,zI 0,.slice none 0 0,zI 0] HZ.out size106' rfl (all10' d) ?_))
   generalize hWX:World.setRow _ _ _=WX
   rw [hWX] at HBX HNX
   clear hWX HZ HRG q1
   have HDL:Hid (RuleL WX d):=((HRS.out d HMEM.out).1.on HBR.out).on HBX.out
   have HDZ:Hid (RuleZ9 d):=(HRS.out d HMEM.out).2
   have HLX:Hid (Lrr kRu WX G rs.length L):=HLN.out.on HBX.out
   have HNN:Hid (wr§ < WX§):=(Array.getElem?_eq_some_iff.1 HNX.out).1
   have HGN:Hid (G < wr§):=HLN.out.lt
   obtain⟨N,eN⟩:∃ q,wr§=q:=⟨_,rfl⟩
   have HEN:Hid (wr§=N):=eN
   rw [eN] at HNX HNN HGN ⊢
   obtain⟨M2,eM2⟩:∃ M:Int,(d.ds.length:Int)+2=M:=⟨_,rfl⟩
   obtain⟨Z2,hZ2⟩:∃ Z:Array Value,(Tryz.prog.info? 105).map (fun i=>(i.zero,i.size,i.bytes))=some (some (.agg Z),36,320):=⟨_,inf110⟩
   have hmk2:=fun V=>mk_any (st:=90) Tryz.underlying90 hZ2 (by decide) HDZ.out.2.1 eM2 V
   obtain⟨K2,eK2⟩:∃ K,d.ds.length+2=K:=⟨_,rfl⟩
   have HMD2:Hid (Lrr kDo (WX.alloc (.cells (madeCells Z2 ((d.ds.length+2) * 36)) 105)) WX§ d.ds.length []):=Lrr.new kDo WX Z2 105 d.ds.length
   have HMB2:Hid (Below WX§ WX (WX.alloc (.cells (madeCells Z2 ((d.ds.length+2) * 36)) 105))):=below_new _ _
   have HKK2:Hid (d.ds.length+2=K2):=eK2
   rw [eK2] at hmk2 HMD2 HMB2
   have q8:WX.cell? ⟨N,8,none⟩=some (.slice d.a d.ds.length d.c):=cell_of HNX.out 8
   have hM2:(d.ds.length:Int)+2≤9223372036854775807:=by have:=HDZ.out.2.1; omega
   clear eN eK2 hZ2
   go_upto_region 7 with fail
   generalize World.alloc WX _=V2 at HMD2 HMB2 ⊢
   obtain⟨H,eH⟩:∃ H,WX§=H:=⟨_,rfl⟩
   have HHH:Hid (N < H):=by show _ < _; rw [← eH]; exact HNN.out
   have HEH:Hid (WX§=H):=eH
   rw [eH] at HMD2 ⊢
   clear eH hmk2 eM2 hM2 q8
   go_upto_region 8 with fail
   go_loopw [7] (fun t wr2=>∃ (k:Nat) (D:List DoM),k≤d.ds.length∧t=zI k∧Hid (D.length=k)∧Hid (Below WX§ WX wr2)∧Hid (Lrr kDo wr2 H d.ds.length D)∧Hid (D.map DoM.tr=(d.ds.map DoM.tr).take k)) (fun t _=>d.ds.length - (intOf t).toNat)
   case atStart=>exact⟨0,[],by omega,rfl,rfl,HMB2,HMD2,rfl⟩
   case round =>
    rename_i wr0 _ _ _ _ _ _
    obtain⟨k,D,hk,rfl,HDI,HBD,HDN,HDT⟩:=hrel
    have HNR:Hid (wr.heap[N]? = some (.cells d.vals 92 (0,0))):=(HBD.out.block _ (Array.getElem?_eq_some_iff.1 HNX.out).1).trans HNX.out
    have q8:wr.cell? ⟨N,8,none⟩=some (.slice d.a d.ds.length d.c):=cell_of HNR.out 8
    have HK9:Hid ((K2:Int)=(d.ds.length:Int)+2):=by have:=HKK2.out; show _=_; omega
    by_cases hltd:k < d.ds.length
    ·have hltd':(k:Int) < (d.ds.length:Int):=by omega
     obtain⟨b2,o2,ea2,hat2⟩:=(HDL.out.2.1.on (mapz DoM.sz _) HBD.out).2.2 k (by rw [List.length_map]; exact hltd)
     simp only [List.getElem_map] at hat2
     have HMDm:Hid (d.ds[k] ∈ d.ds):=List.getElem_mem hltd
     obtain⟨y,ey⟩:∃ y,d.ds[k]=y:=⟨_,rfl⟩
     have HEY:Hid (d.ds[k]=y):=ey
     rw [ey] at hat2 HMDm
     have HRY:Hid (wr.rangeAt b2 (o2+k * 36) y.vals.toList):=fun j v hv=>by
      have hj:j < 36:=(List.getElem?_eq_some_iff.1 hv).1
      rw [hat2 j hj,← hv]; simp
     rw [ea2] at q8
     have HYL:Hid (DoL wr y):=(HDL.out.2.2.1 y HMDm.out).on HBD.out
     have HYZ:Hid (DoZ9 y):=HDZ.out.2.2 y HMDm.out
     clear hat2 ey ea2
     go_upto_region 11 with (first | (refine wpList_load_mid rfl 105 (.tmp 41) rfl b2 (o2+k * 36) rfl y.vals.toList _ HRY.out Tryz.underlying105 rfl (by show _=some 36; exact size110') ?_; rw [Array.toArray_toList]) | (refine wpList_new_rowB rfl rfl 105 rfl (.tmp 8) (.tmp 42) rfl _ zero105q y.vals size110' rfl rfl rfl (all36 _ _ _ _ _ _ _ _) ?_; intro v0 hv0))
     have HV0:Hid (Below wr§ wr v0∧v0.heap[wr§]? = some (.cells (doA y.k y.o y.x y.sd y.qt y.pr y.vl y.p) 105 (0,0))):=⟨hv0.1,hv0.2.1⟩
     have HNH:Hid (H < wr§):=HDN.out.lt
     obtain⟨B,eB⟩:∃ B,wr§=B:=⟨_,rfl⟩
     have HEB:Hid (wr§=B):=eB
     have HBV0:Hid (Below wr§ wr v0):=hv0.1
     rw [eB] at HV0 HNH ⊢
     clear hv0 eB q8 HRY
     have c0:=lend_any y.sd v0 ((HYL.out.1).on HBV0.out) HYZ.out.2.1
     have HLT0:Hid (B < v0§):=(Array.getElem?_eq_some_iff.1 HV0.out.2).1
     go_upto_region 12 with (first | (refine wpList_load_mid rfl 48 _ rfl B 3 rfl y.sd.vals.toList _ (nd_rng HV0.out.2 3 y.sd (do_sd (⟨y.k,y.o,y.x,y.sd,y.qt,y.pr,y.vl,y.p⟩:DoM))) Tryz.underlying48 rfl (size38 y.sd) ?_; rw [toArr]) | (go_at_call 15; refine c0.mono ?_; rintro e z0 ⟨m0,rfl,hm0,ht0,hb0⟩) | (refine wpList_store_mid rfl 48 _ _ rfl B 3 m0.vals rfl rfl (there_of ((hb0.block _ (Array.getElem?_eq_some_iff.1 HV0.out.2).1).trans HV0.out.2) 3 8 (by show 3+8≤36; omega)) size64' (all8 m0) ?_))
     have HBV1:Hid (Below wr§ wr (z0.setCells B 3 m0.vals.toList)):=below_cellsq (by have:=HEB.out; omega) _ _ (below2 HBV0.out hb0)
     have HV1:Hid (Below B wr (z0.setCells B 3 m0.vals.toList)∧(z0.setCells B 3 m0.vals.toList).heap[B]? = some (.cells (doA y.k y.o y.x m0 y.qt y.pr y.vl y.p) 105 (0,0))∧(Lnt (z0.setCells B 3 m0.vals.toList) (B+1) m0∧treeOf m0=treeOf y.sd)):=by
      have hB:wr§=B:=HEB.out
      refine⟨by rw [← hB]; have:=HBV1.out; rw [← hB] at this; exact this,(put_cells ((hb0.block _ (Array.getElem?_eq_some_iff.1 HV0.out.2).1).trans HV0.out.2) 3 m0).trans (by rw [doSd_eq]),⟨(hm0.lo (by have:=HLT0.out; omega)).blk fun b hb _=>heap_cells _ _ _ _ _ (by omega),ht0⟩⟩
     clear hm0 ht0 hb0 c0 HV0 HLT0
     generalize World.setCells z0 _ _ _=v1 at HV1 HBV1 ⊢
     have c1:=lend_any y.qt v1 ((HYL.out.2.1).on HBV1.out) HYZ.out.2.2.1
     have HLT1:Hid (B < v1§):=(Array.getElem?_eq_some_iff.1 HV1.out.2.1).1
     go_upto_region 13 with (first | (refine wpList_load_mid rfl 48 _ rfl B 11 rfl y.qt.vals.toList _ (nd_rng HV1.out.2.1 11 y.qt (do_qt (⟨y.k,y.o,y.x,m0,y.qt,y.pr,y.vl,y.p⟩:DoM))) Tryz.underlying48 rfl (size38 y.qt) ?_; rw [toArr]) | (go_at_call 15; refine c1.mono ?_; rintro e z1 ⟨m1,rfl,hm1,ht1,hb1⟩) | (refine wpList_store_mid rfl 48 _ _ rfl B 11 m1.vals rfl rfl (there_of ((hb1.block _ (Array.getElem?_eq_some_iff.1 HV1.out.2.1).1).trans HV1.out.2.1) 11 8 (by show 11+8≤36; omega)) size64' (all8 m1) ?_))
     have HBV2:Hid (Below wr§ wr (z1.setCells B 11 m1.vals.toList)):=below_cellsq (by have:=HEB.out; omega) _ _ (below2 HBV1.out hb1)
     have HV2:Hid (Below B wr (z1.setCells B 11 m1.vals.toList)∧(z1.setCells B 11 m1.vals.toList).heap[B]? = some (.cells (doA y.k y.o y.x m0 m1 y.pr y.vl y.p) 105 (0,0))∧(Lnt (z1.setCells B 11 m1.vals.toList) (B+1) m1∧treeOf m1=treeOf y.qt)∧(Lnt (z1.setCells B 11 m1.vals.toList) (B+1) m0∧treeOf m0=treeOf y.sd)):=by
      have hB:wr§=B:=HEB.out
      refine⟨by rw [← hB]; have:=HBV2.out; rw [← hB] at this; exact this,(put_cells ((hb1.block _ (Array.getElem?_eq_some_iff.1 HV1.out.2.1).1).trans HV1.out.2.1) 11 m1).trans (by rw [doQt_eq]),⟨(hm1.lo (by have:=HLT1.out; omega)).blk fun b hb _=>heap_cells _ _ _ _ _ (by omega),ht1⟩,⟨((HV1.out.2.2).1.on hb1).blk fun b hb _=>heap_cells _ _ _ _ _ (by omega),(HV1.out.2.2).2⟩⟩
     clear hm1 ht1 hb1 c1 HV1 HLT1
     generalize World.setCells z1 _ _ _=v2 at HV2 HBV2 ⊢
     have c2:=lend_any y.pr v2 ((HYL.out.2.2.1).on HBV2.out) HYZ.out.2.2.2.1
     have HLT2:Hid (B < v2§):=(Array.getElem?_eq_some_iff.1 HV2.out.2.1).1
     go_upto_region 14 with (first | (refine wpList_load_mid rfl 48 _ rfl B 19 rfl y.pr.vals.toList _ (nd_rng HV2.out.2.1 19 y.pr (do_pr (⟨y.k,y.o,y.x,m0,m1,y.pr,y.vl,y.p⟩:DoM))) Tryz.underlying48 rfl (size38 y.pr) ?_; rw [toArr]) | (go_at_call 15; refine c2.mono ?_; rintro e z2 ⟨m2,rfl,hm2,ht2,hb2⟩) | (refine wpList_store_mid rfl 48 _ _ rfl B 19 m2.vals rfl rfl (there_of ((hb2.block _ (Array.getElem?_eq_some_iff.1 HV2.out.2.1).1).trans HV2.out.2.1) 19 8 (by show 19+8≤36; omega)) size64' (all8 m2) ?_))
     have HBV3:Hid (Below wr§ wr (z2.setCells B 19 m2.vals.toList)):=below_cellsq (by have:=HEB.out; omega) _ _ (below2 HBV2.out hb2)
     have HV3:Hid (Below B wr (z2.setCells B 19 m2.vals.toList)∧(z2.setCells B 19 m2.vals.toList).heap[B]? = some (.cells (doA y.k y.o y.x m0 m1 m2 y.vl y.p) 105 (0,0))∧(Lnt (z2.setCells B 19 m2.vals.toList) (B+1) m2∧treeOf m2=treeOf y.pr)∧(Lnt (z2.setCells B 19 m2.vals.toList) (B+1) m1∧treeOf m1=treeOf y.qt)∧(Lnt (z2.setCells B 19 m2.vals.toList) (B+1) m0∧treeOf m0=treeOf y.sd)):=by
      have hB:wr§=B:=HEB.out
      refine⟨by rw [← hB]; have:=HBV3.out; rw [← hB] at this; exact this,(put_cells ((hb2.block _ (Array.getElem?_eq_some_iff.1 HV2.out.2.1).1).trans HV2.out.2.1) 19 m2).trans (by rw [doPr_eq]),⟨(hm2.lo (by have:=HLT2.out; omega)).blk fun b hb _=>heap_cells _ _ _ _ _ (by omega),ht2⟩,⟨((HV2.out.2.2.1).1.on hb2).blk fun b hb _=>heap_cells _ _ _ _ _ (by omega),(HV2.out.2.2.1).2⟩,⟨((HV2.out.2.2.2).1.on hb2).blk fun b hb _=>heap_cells _ _ _ _ _ (by omega),(HV2.out.2.2.2).2⟩⟩
     clear hm2 ht2 hb2 c2 HV2 HLT2
     generalize World.setCells z2 _ _ _=v3 at HV3 HBV3 ⊢
     have c3:=lend_any y.vl v3 ((HYL.out.2.2.2.1).on HBV3.out) HYZ.out.2.2.2.2
     have HLT3:Hid (B < v3§):=(Array.getElem?_eq_some_iff.1 HV3.out.2.1).1
     go_upto_region 15 with (first | (refine wpList_load_mid rfl 48 _ rfl B 27 rfl y.vl.vals.toList _ (nd_rng HV3.out.2.1 27 y.vl (do_vl (⟨y.k,y.o,y.x,m0,m1,m2,y.vl,y.p⟩:DoM))) Tryz.underlying48 rfl (size38 y.vl) ?_; rw [toArr]) | (go_at_call 15; refine c3.mono ?_; rintro e z3 ⟨m3,rfl,hm3,ht3,hb3⟩) | (refine wpList_store_mid rfl 48 _ _ rfl B 27 m3.vals rfl rfl (there_of ((hb3.block _ (Array.getElem?_eq_some_iff.1 HV3.out.2.1).1).trans HV3.out.2.1) 27 8 (by show 27+8≤36; omega)) size64' (all8 m3) ?_))
     have HBV4:Hid (Below wr§ wr (z3.setCells B 27 m3.vals.toList)):=below_cellsq (by have:=HEB.out; omega) _ _ (below2 HBV3.out hb3)
     have HV4:Hid (Below B wr (z3.setCells B 27 m3.vals.toList)∧(z3.setCells B 27 m3.vals.toList).heap[B]? = some (.cells (doA y.k y.o y.x m0 m1 m2 m3 y.p) 105 (0,0))∧(Lnt (z3.setCells B 27 m3.vals.toList) (B+1) m3∧treeOf m3=treeOf y.vl)∧(Lnt (z3.setCells B 27 m3.vals.toList) (B+1) m2∧treeOf m2=treeOf y.pr)∧(Lnt (z3.setCells B 27 m3.vals.toList) (B+1) m1∧treeOf m1=treeOf y.qt)∧(Lnt (z3.setCells B 27 m3.vals.toList) (B+1) m0∧treeOf m0=treeOf y.sd)):=by
      have hB:wr§=B:=HEB.out
      refine⟨by rw [← hB]; have:=HBV4.out; rw [← hB] at this; exact this,(put_cells ((hb3.block _ (Array.getElem?_eq_some_iff.1 HV3.out.2.1).1).trans HV3.out.2.1) 27 m3).trans (by rw [doVl_eq]),⟨(hm3.lo (by have:=HLT3.out; omega)).blk fun b hb _=>heap_cells _ _ _ _ _ (by omega),ht3⟩,⟨((HV3.out.2.2.1).1.on hb3).blk fun b hb _=>heap_cells _ _ _ _ _ (by omega),(HV3.out.2.2.1).2⟩,⟨((HV3.out.2.2.2.1).1.on hb3).blk fun b hb _=>heap_cells _ _ _ _ _ (by omega),(HV3.out.2.2.2.1).2⟩,⟨((HV3.out.2.2.2.2).1.on hb3).blk fun b hb _=>heap_cells _ _ _ _ _ (by omega),(HV3.out.2.2.2.2).2⟩⟩
     clear hm3 ht3 hb3 c3 HV3 HLT3
     generalize World.setCells z3 _ _ _=v4 at HV4 HBV4 ⊢
     have hlt9:(k:Int) < (K2:Int):=by have:=HK9.out; omega
     have hmx:(k:Int)+1≤9223372036854775807:=by have:=HDZ.out.2.1; omega
     have HD4:Hid (Lrr kDo v4 H d.ds.length D):=HDN.out.on HBV4.out
     have HLD:Hid (LntD v4 (B+1) ⟨y.k,y.o,y.x,m0,m1,m2,m3,y.p⟩):=⟨HV4.out.2.2.2.2.2.1,HV4.out.2.2.2.2.1.1,HV4.out.2.2.2.1.1,HV4.out.2.2.1.1,HYL.out.2.2.2.2⟩
     have HTE:Hid ((DoM.mk y.k y.o y.x m0 m1 m2 m3 y.p).tr=y.tr):=by
      show _=_
      unfold DoM.tr
      rw [HV4.out.2.2.1.2,HV4.out.2.2.2.1.2,HV4.out.2.2.2.2.1.2,HV4.out.2.2.2.2.2.2]
     have HPT:Hid (Lrr kDo (v4.setCells H (k * 36) (DoM.mk y.k y.o y.x m0 m1 m2 m3 y.p).vals.toList) H d.ds.length (D ++ [⟨y.k,y.o,y.x,m0,m1,m2,m3,y.p⟩])):=by
      have:=HD4.out.put (by rw [HDI.out]; exact hltd) (x:=(⟨y.k,y.o,y.x,m0,m1,m2,m3,y.p⟩:DoM)) (kDo.low HLD.out (by have:=HNH.out; omega))
      rw [HDI.out] at this
      exact this
     have HP2:Hid (Below WX§ WX (v4.setCells H (k * 36) (DoM.mk y.k y.o y.x m0 m1 m2 m3 y.p).vals.toList)):=below_cellsq (by have:=HEH.out; omega) _ _ (below2 HBD.out HBV4.out)
     have HTH:Hid (v4.there H (k * 36) (DoM.mk y.k y.o y.x m0 m1 m2 m3 y.p).vals.size):=HD4.out.there hltd (o:=0) (n:=36) (Nat.le_refl _)
     have HPD:Hid ((D ++ [(⟨y.k,y.o,y.x,m0,m1,m2,m3,y.p⟩:DoM)]).map DoM.tr=(d.ds.map DoM.tr).take (k+1)):=map_take_snoc HDT.out hltd (by rw [HTE.out,HEY.out])
     go_upto_region 9 with (first | (refine wpList_load_row rfl 105 (.tmp 8) rfl B rfl 105 (doA y.k y.o y.x m0 m1 m2 m3 y.p) (0,0) _ HV4.out.2.1 Tryz.underlying105 rfl size110' ?_) | (refine wpList_store_mid rfl 105 (.tmp 62) (.tmp 61) rfl H (k * 36) (DoM.mk y.k y.o y.x m0 m1 m2 m3 y.p).vals (by simp [Act.eval]) rfl HTH.out size110' (all36 _ _ _ _ _ _ _ _) ?_))
     generalize World.setCells _ _ _ _=Y at HPT HP2 ⊢
     clear HD4 HLD HTH HV4 HBV0 HBV1 HBV2 HBV3 HBV4
     go_wp2_with fail
     exact⟨⟨k+1,D ++ [_],hltd,rfl,by show _=_; rw [List.length_append,List.length_singleton,HDI.out],HP2,HPT,HPD⟩,by simp only [intOf]; omega⟩
    ·obtain rfl:k=d.ds.length:=by omega
     have hnotd:¬ (d.ds.length:Int) < (d.ds.length:Int):=by omega
     have hltk:(d.ds.length:Int) < (K2:Int):=by have:=HK9.out; omega
     have hlek:(d.ds.length:Int)≤(K2:Int):=by omega
     obtain⟨⟨vq,e0⟩,t0b⟩:=HDN.out.free (mk:=35) (by decide)
     have e0':wr.cell? ⟨H,d.ds.length * 36+35,none⟩=some vq:=e0
     have t0c:wr.frozen? ⟨H,d.ds.length * 36+35,none⟩=false:=t0b
     have HDW:Hid (Lrw kDo (wr.setCell ⟨H,d.ds.length * 36+35,none⟩ (zI (-771))) H (some ⟨H,0,none⟩) (d.ds.length+2) D 35):=HDN.out.fin HDI.out (Nat.le_refl _) (by decide) (by have:=HDZ.out.2.1; omega)
     have hNH2:N < H:=HHH.out
     have HBU:Hid (Below WX§ WX (wr.setCell ⟨H,d.ds.length * 36+35,none⟩ (zI (-771)))):=HBD.out.setCell (by have:=HEH.out; show _≤H; omega) _
     have HNU:Hid ((wr.setCell ⟨H,d.ds.length * 36+35,none⟩ (zI (-771))).heap[N]? = some (.cells d.vals 92 (0,0))):=(Below.heap_setCell _ _ _ _ (by show N≠H; omega)).trans HNR.out
     clear e0 t0b HDN
     go_upto_region 17 with fail
     generalize hU:World.setCell wr _ _=U at HDW HBU HNU ⊢
     clear hU e0' t0c q8 HNR
     have HMKR:Hid (d.ds.length+2=K2):=HKK2.out
     rw [HKK2.out] at HDW
     have hb4:Below U§ U U.drew:=⟨rfl,rfl,rfl,Nat.le_refl _,fun _ _=>rfl⟩
     have HB4:Hid (Below U§ U U.drew):=hb4
     have cN:Calls zG 15 #[.agg #[zU d.m.h.k,zU d.m.h.o,zU d.m.h.t,zI d.m.h.n,zU d.m.h.f,.string d.m.h.x,.slice d.m.a d.m.ks.length d.m.c,zI d.m.h.p]] U.drew (Lent d.m U.drew):=lend_any d.m U.drew ((HDL.out.1.on HBU.out).on hb4) HDZ.out.1
     have hiK:(i:Int) < (K:Int):=by have:=HK8.out; omega
     clear hb4
     refine (?_:∀ Q',Hid (Q'=_)→Code.wp _ _ Q' _ _) _ rfl
     intro Q' HQ'
     have HPn:Hid (∀ p (d:Nat) v a w,Q' (.panic p) (Act.put a (some d) v) w→Q' (.panic p) a w):=by rw [HQ'.out]; exact fun _ _ _ _ _ h=>h
     refine wp_region_held_drew (S:=fun v=>v.heap[N]? = some (.cells d.vals 92 (0,0))) zK HNU.out (fun hHeld=>?_)
     refine wpAnyH_take (i:=0) (v:=?_) rfl zK zK zK (fun c a w h=>HPn.out c _ _ a w h) (Or.inl ⟨by rfl,?_⟩) (by assumption) ?_
     rotate_left
     ·(intro v hv; go_simp; try (with_reducible rfl))
     try simp [Act.put]
     refine wpAnyH_take (i:=1) (v:=?_) rfl zK zK zK (fun c a w h=>HPn.out c _ _ a w h) (Or.inl ⟨by rfl,?_⟩) (by assumption) ?_
     rotate_left
     ·(intro v hv; go_simp; try (with_reducible rfl))
     try simp [Act.put]
     refine wpAnyH_take (i:=2) (v:=?_) rfl zK zK zK (fun c a w h=>HPn.out c _ _ a w h) (Or.inl ⟨by rfl,?_⟩) (by assumption) ?_
     rotate_left
     ·(intro v hv; go_simp; try (with_reducible rfl))
     try simp [Act.put]
     refine wpAnyH_take (i:=3) (v:=?_) rfl zK zK zK (fun c a w h=>HPn.out c _ _ a w h) (Or.inl ⟨by rfl,?_⟩) (by assumption) ?_
     rotate_left
     ·(intro v hv; have g:=hv; have t0:v.cell? ⟨N,0,none⟩=some (zU d.m.h.k):=cell_of g 0; have t1:v.cell? ⟨N,1,none⟩=some (zU d.m.h.o):=cell_of g 1; have t2:v.cell? ⟨N,2,none⟩=some (zU d.m.h.t):=cell_of g 2; have t3:v.cell? ⟨N,3,none⟩=some (zI d.m.h.n):=cell_of g 3; have t4:v.cell? ⟨N,4,none⟩=some (zU d.m.h.f):=cell_of g 4; have t5:v.cell? ⟨N,5,none⟩=some (.string d.m.h.x):=cell_of g 5; have t6:v.cell? ⟨N,6,none⟩=some (.slice d.m.a d.m.ks.length d.m.c):=cell_of g 6; have t7:v.cell? ⟨N,7,none⟩=some (zI d.m.h.p):=cell_of g 7; clear g; go_simp; try (with_reducible rfl))
     try simp [Act.put]
     refine wpAnyH_take (i:=5) (v:=?_) rfl zK zK zK (fun c a w h=>HPn.out c _ _ a w h) (Or.inl ⟨by rfl,?_⟩) (by assumption) ?_
     rotate_left
     ·(intro v hv; go_simp; try (with_reducible rfl))
     try simp [Act.put]
     refine wpAnyH_take (i:=6) (v:=?_) rfl zK zK zK (fun c a w h=>HPn.out c _ _ a w h) (Or.inl ⟨by rfl,?_⟩) (by assumption) ?_
     rotate_left
     ·(intro v hv; go_simp; try (with_reducible rfl))
     try simp [Act.put]
     refine wpAnyH_take (i:=7) (v:=?_) rfl zK zK zK (fun c a w h=>HPn.out c _ _ a w h) (Or.inl ⟨by rfl,?_⟩) (by assumption) ?_
     rotate_left
     ·(intro v hv; have g:=hv; have t8:v.cell? ⟨N,8,none⟩=some (.slice d.a d.ds.length d.c):=cell_of g 8; clear g; go_simp; try (with_reducible rfl))
     try simp [Act.put]
     refine wpAnyH_take (i:=8) (v:=?_) rfl zK zK zK (fun c a w h=>HPn.out c _ _ a w h) (Or.inl ⟨by rfl,?_⟩) (by assumption) ?_
     rotate_left
     ·(intro v hv; go_simp; try (with_reducible rfl))
     try simp [Act.put]
     refine wpAnyH_take (i:=9) (v:=?_) rfl zK zK zK (fun c a w h=>HPn.out c _ _ a w h) (Or.inl ⟨by rfl,?_⟩) (by assumption) ?_
     rotate_left
     ·(intro v hv; go_simp; try (with_reducible rfl))
     try simp [Act.put]
     refine wpAnyH_take (i:=10) (v:=?_) rfl zK zK zK (fun c a w h=>HPn.out c _ _ a w h) (Or.inl ⟨by rfl,?_⟩) (by assumption) ?_
     rotate_left
     ·(intro v hv; go_simp; try (with_reducible rfl))
     try simp [Act.put]
     refine wpAnyH_take (i:=11) (v:=?_) rfl zK zK zK (fun c a w h=>HPn.out c _ _ a w h) (Or.inl ⟨by rfl,?_⟩) (by assumption) ?_
     rotate_left
     ·(intro v hv; have g:=hv; have t9:v.cell? ⟨N,9,none⟩=some (zI d.p):=cell_of g 9; clear g; go_simp; try (with_reducible rfl))
     try simp [Act.put]
     refine wpAnyH_ready (rs:=[4]) zK (by simp) ?_
     refine AllReadyH.cons rfl (fun Kx hK=>?_) AllReadyH.nil
     go_simp
     refine cN.mono ?_
     rintro e w1 ⟨m',rfl,hm1,hm2,hb1⟩
     have HB1:Hid (Below U§ U w1):=below2 HB4.out hb1
     have HM1:Hid (Lnt w1 U§ m'∧treeOf m'=treeOf d.m):=⟨hm1,hm2⟩
     refine hK.out _ _ ((HB1.out.block _ (Array.getElem?_eq_some_iff.1 HNU.out).1).trans HNU.out) (fun hHeld=>?_)
     clear hK Kx hm1 hm2 hb1 cN
     try simp [Act.put]
     unfold Nd.vals hdA
     refine wpAnyH_take (i:=12) (v:=?_) rfl zK zK zK (fun c a w h=>HPn.out c _ _ a w h) (Or.inl ⟨by rfl,?_⟩) (by assumption) ?_
     rotate_left
     ·(intro v hv; go_simp; try (with_reducible rfl))
     try simp [Act.put]
     refine wpAnyH_take (i:=13) (v:=?_) rfl zK zK zK (fun c a w h=>HPn.out c _ _ a w h) (Or.inl ⟨by rfl,?_⟩) (by assumption) ?_
     rotate_left
     ·(intro v hv; go_simp; try (with_reducible rfl))
     try simp [Act.put]
     have HVV:Hid ((RuleM.mk m' (some ⟨H,0,none⟩) K2 D d.p).vals=#[zU m'.h.k,zU m'.h.o,zU m'.h.t,zI m'.h.n,zU m'.h.f,.string m'.h.x,.slice m'.a m'.ks.length m'.c,zI m'.h.p,.slice (some ⟨H,0,none⟩) d.ds.length K2,zI d.p]):=by
      show _=_
      unfold RuleM.vals
      simp [HDI.out]
     have HWX1:Hid (Below WX§ WX w1):=below2 HBU.out HB1.out
     have HL1:Hid (Lrr kRu w1 G rs.length L):=HLX.out.on HWX1.out
     have HTHR:Hid (w1.there G (i * 10) (RuleM.mk m' (some ⟨H,0,none⟩) K2 D d.p).vals.size):=HL1.out.there hlt (o:=0) (n:=10) (Nat.le_refl _)
     have HLR:Hid (LntR w1 (G+1) (RuleM.mk m' (some ⟨H,0,none⟩) K2 D d.p)):=by
      have h1:=HGN.out
      have h2:=HHH.out
      have h3:=HNN.out
      have h4:=HBU.out.size
      exact⟨HM1.out.1.lo (by omega),(HDW.out.blk fun b _ hb=>HB1.out.block b hb).low (by omega),HDL.out.2.2.2⟩
     have HTR:Hid ((RuleM.mk m' (some ⟨H,0,none⟩) K2 D d.p).tr=d.tr):=by
      show _=_
      unfold RuleM.tr
      have h1:=HDT.out
      rw [List.take_of_length_le (by simp)] at h1
      rw [HM1.out.2,h1]
     have HPT:Hid (Lrr kRu (w1.setCells G (i * 10) (RuleM.mk m' (some ⟨H,0,none⟩) K2 D d.p).vals.toList) G rs.length (L ++ [(RuleM.mk m' (some ⟨H,0,none⟩) K2 D d.p)])):=by
      have:=HL1.out.put (by rw [HLI.out]; exact hlt) (x:=(RuleM.mk m' (some ⟨H,0,none⟩) K2 D d.p)) HLR.out
      rw [HLI.out] at this
      exact this
     have HP2:Hid (Below W§ W (w1.setCells G (i * 10) (RuleM.mk m' (some ⟨H,0,none⟩) K2 D d.p).vals.toList)):=below_cellsq (by have h1:=HGG.out; have h2:=HWS.out; omega) _ _ (below2 (below2 HBR.out HBX.out) HWX1.out)
     have HPD:Hid ((L ++ [(RuleM.mk m' (some ⟨H,0,none⟩) K2 D d.p)]).map RuleM.tr=(rs.map RuleM.tr).take (i+1)):=map_take_snoc HTT.out hlt (by rw [HTR.out,HED.out])
     refine wpAnyH_ready (rs:=[14]) zK (by simp) ?_
     refine AllReadyH.cons rfl (fun Kx hK=>?_) AllReadyH.nil
     refine step_store_mid rfl 92 (.tmp 82) (.tmp 81) rfl G (i * 10) (RuleM.mk m' (some ⟨H,0,none⟩) K2 D d.p).vals (by rfl) (by rw [HVV.out]; rfl) HTHR.out (by show _=some 10; exact size106') (all10' _) ?_
     refine hK.out _ _ ((heap_cells _ _ _ _ _ (by have:=HGN.out; omega)).trans ((HB1.out.block _ (Array.getElem?_eq_some_iff.1 HNU.out).1).trans HNU.out)) (fun hHeld=>?_)
     clear hK Kx
     generalize World.setCells _ _ _ _=Y at HPT HP2 ⊢
     try simp [Act.put]
     refine wpAnyH_done zK ?_ _
     rw [HQ'.out]
     clear HQ' HPn Q'
     have hmxo:(i:Int)+1≤9223372036854775807:=by have:=HN.out; omega
     go_wp2_with fail
     exact⟨⟨i+1,L ++ [_],hlt,rfl,by show _=_; rw [List.length_append,List.length_singleton,HLI.out],HP2,HPT,HPD⟩,by simp only [intOf]; omega⟩
  ·obtain rfl:i=rs.length:=by omega
   have hnot:¬ (rs.length:Int) < (rs.length:Int):=by omega
   have hltk:(rs.length:Int) < (K:Int):=by have:=HK8.out; omega
   have hlek:(rs.length:Int)≤(K:Int):=by omega
   obtain⟨⟨vq,e0⟩,t0b⟩:=HLN.out.free (mk:=9) (by decide)
   have e0':wr.cell? ⟨G,rs.length * 10+9,none⟩=some vq:=e0
   have t0c:wr.frozen? ⟨G,rs.length * 10+9,none⟩=false:=t0b
   have HDW:Hid (Lrw kRu (wr.setCell ⟨G,rs.length * 10+9,none⟩ (zI (-771))) G (some ⟨G,0,none⟩) (rs.length+2) L 9):=HLN.out.fin HLI.out (Nat.le_refl _) (by decide) (by have:=HN.out; omega)
   have hG2:G=w§+2:=HGG.out
   have hW2:W§=w§+2:=HWS.out
   have HBU:Hid (Below W§ W (wr.setCell ⟨G,rs.length * 10+9,none⟩ (zI (-771)))):=HBR.out.setCell (by show _≤G; omega) _
   have HXU:Hid ((wr.setCell ⟨G,rs.length * 10+9,none⟩ (zI (-771))).heap[w§]? = some (.cells #[.string x,.slice a rs.length c,zI p] 68 (0,0))∧(wr.setCell ⟨G,rs.length * 10+9,none⟩ (zI (-771))).heap[w§+1]? = some (.cells #[.string ⟨#[]⟩,.slice none 0 0,zI 0] 68 (0,0))):=⟨(HBU.out.block _ (Array.getElem?_eq_some_iff.1 H0.out).1).trans H0.out,(HBU.out.block _ (Array.getElem?_eq_some_iff.1 H1.out).1).trans H1.out⟩
   have HG2:Hid (G=w§+2∧W§=w§+2):=⟨hG2,hW2⟩
   clear e0 t0b HLN hG2 hW2
   go_upto_region 19 with fail
   generalize hU:World.setCell wr _ _=U at HDW HBU HXU ⊢
   clear hU e0' t0c q1
   rw [HKK.out] at HDW
   refine (?_:∀ Q',Hid (Q'=_)→Code.wp _ _ Q' _ _) _ rfl
   intro Q' HQ'
   have HPn:Hid (∀ p (d:Nat) v a w,Q' (.panic p) (Act.put a (some d) v) w→Q' (.panic p) a w):=by rw [HQ'.out]; exact fun _ _ _ _ _ h=>h
   refine wp_region_held_drew (S:=fun v=>v.heap[w§]? = some (.cells #[.string x,.slice a rs.length c,zI p] 68 (0,0))) zK HXU.out.1 (fun hHeld=>?_)
   refine wpAnyH_take (i:=0) (v:=?_) rfl zK zK zK (fun c a w h=>HPn.out c _ _ a w h) (Or.inl ⟨by rfl,?_⟩) (by assumption) ?_
   rotate_left
   ·(intro v hv; go_simp; try (with_reducible rfl))
   try simp [Act.put]
   refine wpAnyH_take (i:=1) (v:=?_) rfl zK zK zK (fun c a w h=>HPn.out c _ _ a w h) (Or.inl ⟨by rfl,?_⟩) (by assumption) ?_
   rotate_left
   ·(intro v hv; have g:=hv; have t0:v.cell? ⟨w§,0,none⟩=some (.string x):=cell_of g 0; clear g; go_simp; try (with_reducible rfl))
   try simp [Act.put]
   refine wpAnyH_take (i:=2) (v:=?_) rfl zK zK zK (fun c a w h=>HPn.out c _ _ a w h) (Or.inl ⟨by rfl,?_⟩) (by assumption) ?_
   rotate_left
   ·(intro v hv; go_simp; try (with_reducible rfl))
   try simp [Act.put]
   refine wpAnyH_take (i:=3) (v:=?_) rfl zK zK zK (fun c a w h=>HPn.out c _ _ a w h) (Or.inl ⟨by rfl,?_⟩) (by assumption) ?_
   rotate_left
   ·(intro v hv; go_simp; try (with_reducible rfl))
   try simp [Act.put]
   refine wpAnyH_take (i:=4) (v:=?_) rfl zK zK zK (fun c a w h=>HPn.out c _ _ a w h) (Or.inl ⟨by rfl,?_⟩) (by assumption) ?_
   rotate_left
   ·(intro v hv; have g:=hv; have t1:v.cell? ⟨w§,1,none⟩=some (.slice a rs.length c):=cell_of g 1; clear g; go_simp; try (with_reducible rfl))
   try simp [Act.put]
   refine wpAnyH_take (i:=5) (v:=?_) rfl zK zK zK (fun c a w h=>HPn.out c _ _ a w h) (Or.inl ⟨by rfl,?_⟩) (by assumption) ?_
   rotate_left
   ·(intro v hv; go_simp; try (with_reducible rfl))
   try simp [Act.put]
   refine wpAnyH_take (i:=6) (v:=?_) rfl zK zK zK (fun c a w h=>HPn.out c _ _ a w h) (Or.inl ⟨by rfl,?_⟩) (by assumption) ?_
   rotate_left
   ·(intro v hv; go_simp; try (with_reducible rfl))
   try simp [Act.put]
   refine wpAnyH_take (i:=7) (v:=?_) rfl zK zK zK (fun c a w h=>HPn.out c _ _ a w h) (Or.inl ⟨by rfl,?_⟩) (by assumption) ?_
   rotate_left
   ·(intro v hv; go_simp; try (with_reducible rfl))
   try simp [Act.put]
   refine wpAnyH_take (i:=8) (v:=?_) rfl zK zK zK (fun c a w h=>HPn.out c _ _ a w h) (Or.inl ⟨by rfl,?_⟩) (by assumption) ?_
   rotate_left
   ·(intro v hv; have g:=hv; have t2:v.cell? ⟨w§,2,none⟩=some (zI p):=cell_of g 2; clear g; go_simp; try (with_reducible rfl))
   try simp [Act.put]
   refine wpAnyH_take (i:=9) (v:=?_) rfl zK zK zK (fun c a w h=>HPn.out c _ _ a w h) (Or.inl ⟨by rfl,?_⟩) (by assumption) ?_
   rotate_left
   ·(intro v hv; go_simp; try (with_reducible rfl))
   try simp [Act.put]
   have HVV:Hid ((StateM.mk x (some ⟨G,0,none⟩) K L p).vals=#[.string x,.slice (some ⟨G,0,none⟩) rs.length K,zI p]):=by
    show _=_
    unfold StateM.vals
    simp [HLI.out]
   have HLT:Hid (LntT (U.drew.setRow (w§+1) (StateM.mk x (some ⟨G,0,none⟩) K L p).vals) w§ (StateM.mk x (some ⟨G,0,none⟩) K L p)):=by
    have h1:=HG2.out.1
    have h2:Lrw kRu (U.drew.setRow (w§+1) (StateM.mk x (some ⟨G,0,none⟩) K L p).vals) G (some ⟨G,0,none⟩) K L 9:=HDW.out.blk fun b hb _=>(setRow_oth U.drew _ _ (by omega)).trans rfl
    exact⟨h2.low (by omega),HPX.out⟩
   have HTR:Hid ((StateM.mk x (some ⟨G,0,none⟩) K L p).tr=(StateM.mk x a c rs p).tr):=by
    show _=_
    unfold StateM.tr
    have h1:=HTT.out
    rw [List.take_of_length_le (by simp)] at h1
    rw [h1]
   have HF:Hid ((U.drew.setRow (w§+1) (StateM.mk x (some ⟨G,0,none⟩) K L p).vals).heap[w§+1]? = some (.cells (StateM.mk x (some ⟨G,0,none⟩) K L p).vals 68 (0,0))):=setRow_heap _ _ _ _ _ _ HXU.out.2
   have HB9:Hid (Below w§ w (U.drew.setRow (w§+1) (StateM.mk x (some ⟨G,0,none⟩) K L p).vals)):=below_row ((below2 HBW.out HBU.out).drew) (by omega) _
   refine wpAnyH_ready (rs:=[10]) zK (by simp) ?_
   refine AllReadyH.cons rfl (fun Kx hK=>?_) AllReadyH.nil
   refine step_store_row rfl 68 (.tmp 2) (.tmp 98) rfl (w§+1) (StateM.mk x (some ⟨G,0,none⟩) K L p).vals rfl (by rw [HVV.out]; rfl) 68 #[.string ⟨#[]⟩,.slice none 0 0,zI 0] HXU.out.2 (by show _=some 3; exact size68s) rfl (by rw [HVV.out]; simp [Value.oneCell']) ?_
   refine hK.out _ _ ((setRow_oth _ _ _ (by omega)).trans HXU.out.1) (fun hHeld=>?_)
   clear hK Kx
   try simp [Act.put]
   refine wpAnyH_done zK ?_ _
   rw [HQ'.out]
   clear HQ' HPn Q'
   go_wp2_with fail
   exact bodyPost_ret (results_cell_row rfl _ _ (w§+1) 68 (StateM.mk x (some ⟨G,0,none⟩) K L p).vals (0,0) _ rfl HF.out Tryz.underlying68 rfl (by show _=some 3; exact size68s)) rfl ⟨(StateM.mk x (some ⟨G,0,none⟩) K L p),rfl,HLT.out,HTR.out,HB9.out⟩
end Go.Proofs.YtoogodlnnijikaaGreatDoor
