import Derived.Test.YtoogodlnnijikaaGreatDoorA0
import Derived.Test.YtoogodlnnijikaaGreatDoorA29
import Derived.Test.YtoogodlnnijikaaGreatDoorA27
namespace Go.Proofs.YtoogodlnnijikaaGreatDoor
open Go.RowKit
set_option linter.unusedVariables false
set_option linter.unusedSimpArgs false
theorem inf62q:(Tryz.prog.info? 62).map (fun i=>(i.zero,i.size,i.bytes))=some (some (.agg (RegM.mk ⟨#[]⟩ 0 nd0T 0).vals),11,104):=by kernel_rfl
theorem inf65q:(Tryz.prog.info? 65).map (fun i=>(i.zero,i.size,i.bytes))=some (some (.agg (SlotM.mk ⟨#[]⟩ 0).vals),2,24):=by kernel_rfl
theorem inf68q:(Tryz.prog.info? 68).map (fun i=>(i.zero,i.size,i.bytes))=some (some (.agg (StateM.mk ⟨#[]⟩ none 0 [] 0).vals),3,48):=by kernel_rfl
theorem size65q:(Tryz.prog.info? 65).map (·.size)=some 2:=by kernel_rfl
theorem slot_all (r:SlotM):r.vals.all (·.oneCell')=true:=by simp [SlotM.vals,Value.oneCell']
theorem state_all (r:StateM):r.vals.all (·.oneCell')=true:=by simp [StateM.vals,Value.oneCell']
structure Bx3 (w:World) (S:StratM) (v1 v2 v3:Value) (V:World):Prop where
 b:Below w§ w V
 s:V.heap[w§]? = some (.cells #[.string S.x,.slice S.ra S.rs.length S.rc,.slice S.sa S.ss.length S.sc,.slice S.ta S.ts.length S.tc] 27 (0,0))
 z:V.heap[w§+1]? = some (.cells #[.string ⟨#[]⟩,.slice none 0 0,.slice none 0 0,.slice none 0 0] 27 (0,0))
 x:V.heap[w§+2]? = some (.cells #[.string S.x,v1,v2,v3] 27 (0,0))
theorem Bx3.on {w:World}{S:StratM}{v1 v2 v3:Value}{V V':World}(h:Bx3 w S v1 v2 v3 V) (k:Below V§ V V'):Bx3 w S v1 v2 v3 V' :=
 ⟨below2 h.b k,(k.block _ (Array.getElem?_eq_some_iff.1 h.s).1).trans h.s,(k.block _ (Array.getElem?_eq_some_iff.1 h.z).1).trans h.z,(k.block _ (Array.getElem?_eq_some_iff.1 h.x).1).trans h.x⟩
theorem Bx3.lt {w:World}{S:StratM}{v1 v2 v3:Value}{V:World}(h:Bx3 w S v1 v2 v3 V):w§+2 < V§:=(Array.getElem?_eq_some_iff.1 h.x).1
theorem Bx3.set {w:World}{S:StratM}{v1 v2 v3:Value}{V:World}(h:Bx3 w S v1 v2 v3 V) (G o:Nat) (hG:w§+2 < G) (v:Value):Bx3 w S v1 v2 v3 (V.setCell ⟨G,o,none⟩ v) :=
 ⟨h.b.setCell (p:=⟨G,o,none⟩) (by show _≤G; omega) v,(Below.heap_setCell _ _ _ _ (by show w§≠G; omega)).trans h.s,(Below.heap_setCell _ _ _ _ (by show w§+1≠G; omega)).trans h.z,(Below.heap_setCell _ _ _ _ (by show w§+2≠G; omega)).trans h.x⟩
theorem Bx3.put {w:World}{S:StratM}{v1 v2 v3 u1 u2 u3 v:Value}{V:World}(h:Bx3 w S v1 v2 v3 V) (o:Nat) (hv:(#[.string S.x,v1,v2,v3]:Array Value).setIfInBounds o v=#[.string S.x,u1,u2,u3]):Bx3 w S u1 u2 u3 (V.setCell ⟨w§+2,o,none⟩ v) :=
 ⟨h.b.setCell (p:=⟨w§+2,o,none⟩) (by show _≤w§+2; omega) v,(Below.heap_setCell _ _ _ _ (by show w§≠w§+2; omega)).trans h.s,(Below.heap_setCell _ _ _ _ (by show w§+1≠w§+2; omega)).trans h.z,by rw [heap_set v h.x,hv]⟩
theorem reg_patch {V:World}{G o:Nat}{r:RegM}{m:Nd}(h:V.rangeAt G o r.vals.toList) (ht:V.there G (o+2) 8):(V.setCells G (o+2) m.vals.toList).rangeAt G o (RegM.mk r.x r.t m r.p).vals.toList:=by
 have hi:=World.rangeAt_setCells_same V G (o+2) m.vals.toList ht
 have ho:∀ k,(k < o+2∨o+10≤k)→(V.setCells G (o+2) m.vals.toList).cell? ⟨G,k,none⟩=V.cell? ⟨G,k,none⟩:=fun k hk=>World.cell?_setCells_out _ _ _ _ _ (fun _ _=>by
  rcases hk with hk | hk
  ·exact .inl (by show k < _; omega)
  ·exact .inr (by show _≤k; simp [Nd.vals,hdA]; omega))
 intro j v hv
 have hj:j < 11:=(List.getElem?_eq_some_iff.1 hv).1
 match j,hj with
 | 0,_=>exact (ho _ (by omega)).trans (h 0 v hv)
 | 1,_=>exact (ho _ (by omega)).trans (h 1 v hv)
 | 2,_=>exact hi 0 v hv
 | 3,_=>exact hi 1 v hv
 | 4,_=>exact hi 2 v hv
 | 5,_=>exact hi 3 v hv
 | 6,_=>exact hi 4 v hv
 | 7,_=>exact hi 5 v hv
 | 8,_=>exact hi 6 v hv
 | 9,_=>exact hi 7 v hv
 | 10,_=>exact (ho _ (by omega)).trans (h 10 v hv)
set_option maxRecDepth 100000 in
set_option maxHeartbeats 16000000 in
theorem lendStrat_any (S:StratM) (w:World) (hl:StratL w S) (hz:StratZ9 S):Calls zG 14 #[.agg S.vals] w fun e w'=>∃ S',e=.returned (.agg S'.vals)∧LntS w' w§ S'∧S'.tr=S.tr∧Below w§ w w':=by
 obtain⟨W,eW⟩:∃ W,(w.alloc (.cells #[.string S.x,.slice S.ra S.rs.length S.rc,.slice S.sa S.ss.length S.sc,.slice S.ta S.ts.length S.tc] 27)).alloc (.cells #[.string ⟨#[]⟩,.slice none 0 0,.slice none 0 0,.slice none 0 0] 27)=W:=⟨_,rfl⟩
 have HEW:Hid ((w.alloc (.cells #[.string S.x,.slice S.ra S.rs.length S.rc,.slice S.sa S.ss.length S.sc,.slice S.ta S.ts.length S.tc] 27)).alloc (.cells #[.string ⟨#[]⟩,.slice none 0 0,.slice none 0 0,.slice none 0 0] 27)=W):=eW
 have HBW:Hid (Below w§ w W):=by show Below _ _ _; rw [← eW]; exact below_two _ _ _
 have HWS:Hid (W§=w§+2):=by show _=_; rw [← eW,size_alloc,size_alloc]
 have H0:Hid (W.heap[w§]? = some (.cells #[.string S.x,.slice S.ra S.rs.length S.rc,.slice S.sa S.ss.length S.sc,.slice S.ta S.ts.length S.tc] 27 (0,0))):=by show _=_; rw [← eW]; exact heap_old (heap_new _ _) (by rw [size_alloc]; omega)
 have H1:Hid (W.heap[w§+1]? = some (.cells #[.string ⟨#[]⟩,.slice none 0 0,.slice none 0 0,.slice none 0 0] 27 (0,0))):=by
  show _=_; rw [← eW,← size_alloc w (.cells #[.string S.x,.slice S.ra S.rs.length S.rc,.slice S.sa S.ss.length S.sc,.slice S.ta S.ts.length S.tc] 27)]; exact heap_new _ _
 have HL:Hid (StratL w S):=hl
 have HZ:Hid (StratZ9 S):=hz
 have q0:W.cell? ⟨w§,0,none⟩=some (.string S.x):=cell_of H0.out 0
 clear hl hz eW
 show Calls zG 14 #[.agg #[.string S.x,.slice S.ra S.rs.length S.rc,.slice S.sa S.ss.length S.sc,.slice S.ta S.ts.length S.tc]] w _
 go_enter Tryz.func14,Tryz.ntmps14
 go_upto_region 1 with fail
 rw [HEW.out]
 clear HEW
 have HU0:Hid (Bx3 w S (.slice none 0 0) (.slice none 0 0) (.slice none 0 0) (W.alloc (.cells #[.string S.x,.slice none 0 0,.slice none 0 0,.slice none 0 0] 27))):=by
  have hb:=below_new W (.cells #[.string S.x,.slice none 0 0,.slice none 0 0,.slice none 0 0] 27)
  refine⟨below2 HBW.out hb,(hb.block _ (Array.getElem?_eq_some_iff.1 H0.out).1).trans H0.out,(hb.block _ (Array.getElem?_eq_some_iff.1 H1.out).1).trans H1.out,?_⟩
  rw [← HWS.out]
  exact heap_new _ _
 go_upto_region 2 with fail
 rw [HWS.out]
 generalize World.alloc W _=U0 at HU0 ⊢
 clear q0 H0 H1 HBW HWS
 obtain⟨M1,eM1⟩:∃ M:Int,(S.rs.length:Int)+2=M:=⟨_,rfl⟩
 obtain⟨Z1,hZ1⟩:∃ Z:Array Value,(Tryz.prog.info? 62).map (fun i=>(i.zero,i.size,i.bytes))=some (some (.agg Z),11,104):=⟨_,inf62q⟩
 have hmk1:=fun V=>mk_any (st:=23) Tryz.underlying23 hZ1 (by decide) HZ.out.1 eM1 V
 obtain⟨K1,eK1⟩:∃ K,S.rs.length+2=K:=⟨_,rfl⟩
 have HKK1:Hid (S.rs.length+2=K1):=eK1
 have HMD1:Hid (Lrr kRg (U0.alloc (.cells (madeCells Z1 ((S.rs.length+2) * 11)) 62)) U0§ S.rs.length []):=Lrr.new kRg U0 Z1 62 S.rs.length
 have HMB1:Hid (Below U0§ U0 (U0.alloc (.cells (madeCells Z1 ((S.rs.length+2) * 11)) 62))):=below_new _ _
 rw [eK1] at hmk1 HMD1 HMB1
 have q1:U0.cell? ⟨w§,1,none⟩=some (.slice S.ra S.rs.length S.rc):=cell_of HU0.out.s 1
 have hM1:(S.rs.length:Int)+2≤9223372036854775807:=by have:=HZ.out.1; omega
 clear eK1 hZ1
 go_upto_region 3 with fail
 generalize World.alloc U0 _=V1 at HMD1 HMB1 ⊢
 obtain⟨G1,eG1⟩:∃ G,U0§=G:=⟨_,rfl⟩
 have HG1:Hid (w§+2 < G1∧U0§=G1):=⟨by rw [← eG1]; exact HU0.out.lt,eG1⟩
 rw [eG1] at HMD1 ⊢
 clear eG1 hmk1 eM1 hM1 q1
 go_wp2_with fail
 go_loopw [5] (fun t wr=>∃ (i:Nat) (L:List RegM),i≤S.rs.length∧t=zI i∧Hid (L.length=i)∧Hid (Below U0§ U0 wr)∧Hid (Lrr kRg wr G1 S.rs.length L)∧Hid (L.map RegM.tr=(S.rs.map RegM.tr).take i)) (fun t _=>S.rs.length - (intOf t).toNat)
 case atStart=>exact⟨0,[],by omega,rfl,rfl,HMB1,HMD1,rfl⟩
 case round =>
  obtain⟨i,L,hi,rfl,HLI,HBR,HLN,HTT⟩:=hrel
  have HBX:Hid (Bx3 w S (.slice none 0 0) (.slice none 0 0) (.slice none 0 0) wr):=HU0.out.on HBR.out
  have q1:wr.cell? ⟨w§,1,none⟩=some (.slice S.ra S.rs.length S.rc):=cell_of HBX.out.s 1
  have HK8:Hid ((K1:Int)=(S.rs.length:Int)+2):=by have:=HKK1.out; show _=_; omega
  by_cases hlt:i < S.rs.length
  ·have hlt':(i:Int) < (S.rs.length:Int):=by omega
   have hltK:(i:Int) < (K1:Int):=by have:=HK8.out; omega
   obtain⟨b,o,ea,hat⟩:=((HL.out.1).on (mapz RegM.sz _) HBX.out.b).2.2 i (by rw [List.length_map]; exact hlt)
   simp only [List.getElem_map] at hat
   have HEX:Hid (S.rs[i] ∈ S.rs):=List.getElem_mem hlt
   obtain⟨d,ed⟩:∃ d,S.rs[i]=d:=⟨_,rfl⟩
   have HED:Hid (S.rs[i]=d):=ed
   rw [ed] at hat HEX
   have HRG:Hid (wr.rangeAt b (o+i * 11) d.vals.toList):=fun j v hv=>by
    have hj:j < 11:=(List.getElem?_eq_some_iff.1 hv).1
    rw [hat j hj,← hv]; simp
   rw [ea] at q1
   have HTH:Hid (wr.there G1 (i * 11) d.vals.size):=HLN.out.there hlt (o:=0) (n:=11) (Nat.le_refl _)
   have HRS:Hid ((wr.setCells G1 (i * 11) d.vals.toList).rangeAt G1 (i * 11) d.vals.toList):=World.rangeAt_setCells_same _ _ _ _ HTH.out
   have HLK:Hid (Lrr kRg (wr.setCells G1 (i * 11) d.vals.toList) G1 S.rs.length L):=HLN.out.keep (by rw [HLI.out]; exact Nat.le_refl _) _
   have HUB:Hid (Below U0§ U0 (wr.setCells G1 (i * 11) d.vals.toList)):=below_cellsq (by have:=HG1.out.2; omega) _ _ HBR.out
   have HEA:Hid (S.ra=some ⟨b,o,none⟩):=ea
   clear hat ed ea
   go_upto_region 7 with (first | (refine wpList_load_mid rfl 62 (.tmp 30) rfl b (o+i * 11) rfl d.vals.toList _ HRG.out Tryz.underlying62 rfl (by show _=some 11; exact size62s) ?_; rw [Array.toArray_toList]) | (refine wpList_store_mid rfl 62 (.tmp 32) (.tmp 31) rfl G1 (i * 11) d.vals (by simp [Act.eval]) rfl HTH.out (by show _=some 11; exact size62s) (all11 d) ?_))
   generalize World.setCells _ _ _ _=Y at HRS HLK HUB ⊢
   have HBY:Hid (Bx3 w S (.slice none 0 0) (.slice none 0 0) (.slice none 0 0) Y):=HU0.out.on HUB.out
   obtain⟨b',o',ea',hat'⟩:=((HL.out.1).on (mapz RegM.sz _) HBY.out.b).2.2 i (by rw [List.length_map]; exact hlt)
   have e9:b'=b∧o'=o:=by rw [HEA.out] at ea'; cases ea'; exact⟨rfl,rfl⟩
   rw [e9.1,e9.2] at hat'
   simp only [List.getElem_map] at hat'
   rw [HED.out] at hat'
   have HRM:Hid (Y.rangeAt b (o+i * 11+2) d.m.vals.toList):=fun j v hv=>by
    have hj:j < 8:=(List.getElem?_eq_some_iff.1 hv).1
    rw [show o+i * 11+2+j=o+i * 11+(2+j) by omega,hat' (2+j) (by omega),reg_m d j hj,← hv]
   have q1':Y.cell? ⟨w§,1,none⟩=some (.slice (some ⟨b,o,none⟩) S.rs.length S.rc):=by rw [← HEA.out]; exact cell_of HBY.out.s 1
   have HDG:Hid (B8 d.t∧I64 d.p∧SzX d.x):=(HL.out.2.1 d HEX.out).2
   have cI:=lend_any d.m Y ((HL.out.2.1 d HEX.out).1.on HBY.out.b) (HZ.out.2.1 d HEX.out)
   clear hat' ea' e9 q1 HTH HRG
   go_upto_region 5 with (first | (refine wpList_load_mid rfl 48 (.tmp 39) rfl b (o+i * 11+2) rfl d.m.vals.toList _ HRM.out Tryz.underlying48 rfl (size38 d.m) ?_; rw [toArr]) | (go_at_call 15; refine cI.mono ?_; rintro e z ⟨m',rfl,hm,htr,hb⟩) | (refine wpList_store_mid rfl 48 (.tmp 43) (.tmp 41) rfl G1 (i * 11+2) m'.vals (by simp [Act.eval]) rfl (show z.there G1 (i * 11+2) 8 from (HLK.out.on hb).there hlt (o:=2) (n:=8) (by show 2+8≤11; omega)) size64' (all8 m') ?_))
   have HPT:Hid (Lrr kRg (z.setCells G1 (i * 11+2) m'.vals.toList) G1 S.rs.length (L ++ [⟨d.x,d.t,m',d.p⟩])):=by
    have hY:G1 < Y§:=HLK.out.lt
    have h1:=(HLK.out.on hb).keep (o:=i * 11+2) (by rw [HLI.out]; exact Nat.le_add_right _ _) m'.vals.toList
    have h2:(z.setCells G1 (i * 11+2) m'.vals.toList).rangeAt G1 (i * 11) (RegM.mk d.x d.t m' d.p).vals.toList:=reg_patch (rng_blk HRS.out (hb.block _ hY)) ((HLK.out.on hb).there hlt (o:=2) (n:=8) (by show 2+8≤11; omega))
    refine h1.snoc (x:=(⟨d.x,d.t,m',d.p⟩:RegM)) (by rw [HLI.out]; exact h2) ⟨(hm.lo (by omega)).blk fun c hc _=>heap_cells _ _ _ _ _ (by omega),HDG.out⟩
   have HP2:Hid (Below U0§ U0 (z.setCells G1 (i * 11+2) m'.vals.toList)):=below_cellsq (by have:=HG1.out.2; omega) _ _ (below2 HUB.out hb)
   have HPD:Hid ((L ++ [(⟨d.x,d.t,m',d.p⟩:RegM)]).map RegM.tr=(S.rs.map RegM.tr).take (i+1)):=map_take_snoc HTT.out hlt (by rw [HED.out]; simp only [RegM.tr,htr])
   clear cI hm htr hb q1'
   generalize World.setCells _ _ _ _=Y2 at HPT HP2 ⊢
   have hmx:(i:Int)+1≤9223372036854775807:=by have:=HZ.out.1; omega
   go_wp2_with fail
   exact⟨⟨i+1,L ++ [_],hlt,rfl,by show _=_; rw [List.length_append,List.length_singleton,HLI.out],HP2,HPT,HPD⟩,by simp only [intOf]; omega⟩
  ·obtain rfl:i=S.rs.length:=by omega
   have hnot:¬ (S.rs.length:Int) < (S.rs.length:Int):=by omega
   have hltk:(S.rs.length:Int) < (K1:Int):=by have:=HK8.out; omega
   have hlek:(S.rs.length:Int)≤(K1:Int):=by omega
   obtain⟨⟨vq,e0⟩,t0b⟩:=HLN.out.free (mk:=10) (by decide)
   have e0':wr.cell? ⟨G1,S.rs.length * 11+10,none⟩=some vq:=e0
   have t0c:wr.frozen? ⟨G1,S.rs.length * 11+10,none⟩=false:=t0b
   have hGG:=HG1.out
   have HDW:Hid (Lrw kRg (wr.setCell ⟨G1,S.rs.length * 11+10,none⟩ (zI (-771))) G1 (some ⟨G1,0,none⟩) (S.rs.length+2) L 10):=HLN.out.fin HLI.out (Nat.le_refl _) (by decide) (by have:=HZ.out.1; omega)
   have HBU:Hid (Below U0§ U0 (wr.setCell ⟨G1,S.rs.length * 11+10,none⟩ (zI (-771)))):=HBR.out.setCell (by show _≤G1; omega) _
   clear e0 t0b HLN HBX hGG
   go_upto_region 9 with fail
   generalize hU:World.setCell wr _ _=T1 at HDW HBU ⊢
   clear hU e0' t0c q1
   rw [HKK1.out] at HDW
   have HBT:Hid (Bx3 w S (.slice none 0 0) (.slice none 0 0) (.slice none 0 0) T1):=HU0.out.on HBU.out
   have q1:T1.cell? ⟨w§,1,none⟩=some (.slice S.ra S.rs.length S.rc):=cell_of HBT.out.s 1
   have x1:T1.cell? ⟨w§+2,1,none⟩=some (.slice none 0 0):=cell_of HBT.out.x 1
   have f1:T1.frozen? ⟨w§+2,1,none⟩=false:=frozen_of HBT.out.x 1
   have HU1:Hid (Bx3 w S (.slice (some ⟨G1,0,none⟩) S.rs.length K1) (.slice none 0 0) (.slice none 0 0) (T1.setCell ⟨w§+2,1,none⟩ (.slice (some ⟨G1,0,none⟩) S.rs.length K1))):=HBT.out.put 1 rfl
   have HOL1:Hid (∀ b,w§+2 < b→b < U0§→(T1.setCell ⟨w§+2,1,none⟩ (.slice (some ⟨G1,0,none⟩) S.rs.length K1)).heap[b]? = U0.heap[b]?):=fun b hb hlt=>(Below.heap_setCell _ _ _ _ (by show b≠w§+2; omega)).trans (HBU.out.block b hlt)
   have HR1:Hid (Lrw kRg (T1.setCell ⟨w§+2,1,none⟩ (.slice (some ⟨G1,0,none⟩) S.rs.length K1)) G1 (some ⟨G1,0,none⟩) K1 L 10):=HDW.out.blk fun b hb _=>Below.heap_setCell _ _ _ _ (by have:=HG1.out.1; show b≠w§+2; omega)
   have HTL1:Hid (L.length=S.rs.length∧L.map RegM.tr=S.rs.map RegM.tr):=⟨HLI.out,by have h:=HTT.out; rw [List.take_of_length_le (by simp)] at h; exact h⟩
   clear HDW HBT HBU HTT HLI HBR HK8 hltk hnot
   go_upto_region 10 with fail
   generalize hU:World.setCell T1 _ _=U1 at HU1 HOL1 HR1 ⊢
   clear hU q1 x1 f1 HOL1 hlek
   obtain⟨L1,eL⟩:∃ l,L=l:=⟨_,rfl⟩
   rw [eL] at HR1 HTL1
   clear eL
   obtain⟨M2,eM2⟩:∃ M:Int,(S.ss.length:Int)+2=M:=⟨_,rfl⟩
   obtain⟨Z2,hZ2⟩:∃ Z:Array Value,(Tryz.prog.info? 65).map (fun i=>(i.zero,i.size,i.bytes))=some (some (.agg Z),2,24):=⟨_,inf65q⟩
   have hmk2:=fun V=>mk_any (st:=24) Tryz.underlying24 hZ2 (by decide) HZ.out.2.2.1 eM2 V
   obtain⟨K2,eK2⟩:∃ K,S.ss.length+2=K:=⟨_,rfl⟩
   have HKK2:Hid (S.ss.length+2=K2):=eK2
   have HMD2:Hid (Lrr kSl (U1.alloc (.cells (madeCells Z2 ((S.ss.length+2) * 2)) 65)) U1§ S.ss.length []):=Lrr.new kSl U1 Z2 65 S.ss.length
   have HMB2:Hid (Below U1§ U1 (U1.alloc (.cells (madeCells Z2 ((S.ss.length+2) * 2)) 65))):=below_new _ _
   rw [eK2] at hmk2 HMD2 HMB2
   have q1:U1.cell? ⟨w§,2,none⟩=some (.slice S.sa S.ss.length S.sc):=cell_of HU1.out.s 2
   have hM2:(S.ss.length:Int)+2≤9223372036854775807:=by have:=HZ.out.2.2.1; omega
   clear eK2 hZ2
   go_upto_region 11 with fail
   generalize World.alloc U1 _=V2 at HMD2 HMB2 ⊢
   obtain⟨G2,eG2⟩:∃ G,U1§=G:=⟨_,rfl⟩
   have HG2:Hid (w§+2 < G2∧U1§=G2):=⟨by rw [← eG2]; exact HU1.out.lt,eG2⟩
   rw [eG2] at HMD2 ⊢
   clear eG2 hmk2 eM2 hM2 q1
   go_wp2_with fail
   go_loopw [7] (fun t wr=>∃ (i:Nat) (L:List SlotM),i≤S.ss.length∧t=zI i∧Hid (L.length=i)∧Hid (Below U1§ U1 wr)∧Hid (Lrr kSl wr G2 S.ss.length L)∧Hid (L.map SlotM.tr=(S.ss.map SlotM.tr).take i)) (fun t _=>S.ss.length - (intOf t).toNat)
   case atStart=>exact⟨0,[],by omega,rfl,rfl,HMB2,HMD2,rfl⟩
   case round =>
    obtain⟨i,L,hi,rfl,HLI,HBR,HLN,HTT⟩:=hrel
    have HBX:Hid (Bx3 w S (.slice (some ⟨G1,0,none⟩) S.rs.length K1) (.slice none 0 0) (.slice none 0 0) wr):=HU1.out.on HBR.out
    have q1:wr.cell? ⟨w§,2,none⟩=some (.slice S.sa S.ss.length S.sc):=cell_of HBX.out.s 2
    have HK8:Hid ((K2:Int)=(S.ss.length:Int)+2):=by have:=HKK2.out; show _=_; omega
    by_cases hlt:i < S.ss.length
    ·have hlt':(i:Int) < (S.ss.length:Int):=by omega
     have hltK:(i:Int) < (K2:Int):=by have:=HK8.out; omega
     obtain⟨b,o,ea,hat⟩:=((HL.out.2.2.1).on (mapz SlotM.sz _) HBX.out.b).2.2 i (by rw [List.length_map]; exact hlt)
     simp only [List.getElem_map] at hat
     have HEX:Hid (S.ss[i] ∈ S.ss):=List.getElem_mem hlt
     obtain⟨d,ed⟩:∃ d,S.ss[i]=d:=⟨_,rfl⟩
     have HED:Hid (S.ss[i]=d):=ed
     rw [ed] at hat HEX
     have HRG:Hid (wr.rangeAt b (o+i * 2) d.vals.toList):=fun j v hv=>by
      have hj:j < 2:=(List.getElem?_eq_some_iff.1 hv).1
      rw [hat j hj,← hv]; simp
     rw [ea] at q1
     have HTH:Hid (wr.there G2 (i * 2) d.vals.size):=HLN.out.there hlt (o:=0) (n:=2) (Nat.le_refl _)
     have HPT:Hid (Lrr kSl (wr.setCells G2 (i * 2) d.vals.toList) G2 S.ss.length (L ++ [d])):=by
      have:=HLN.out.put (by rw [HLI.out]; exact hlt) (x:=d) (HL.out.2.2.2.1 d HEX.out)
      rw [HLI.out] at this
      exact this
     have HP2:Hid (Below U1§ U1 (wr.setCells G2 (i * 2) d.vals.toList)):=below_cellsq (by have:=HG2.out.2; omega) _ _ HBR.out
     have HPD:Hid ((L ++ [d]).map SlotM.tr=(S.ss.map SlotM.tr).take (i+1)):=map_take_snoc HTT.out hlt (by rw [HED.out])
     clear hat ed ea
     go_upto_region 13 with (first | (refine wpList_load_mid rfl 65 (.tmp 73) rfl b (o+i * 2) rfl d.vals.toList _ HRG.out Tryz.underlying65 rfl (by show _=some 2; exact size65q) ?_; rw [Array.toArray_toList]) | (refine wpList_store_mid rfl 65 (.tmp 75) (.tmp 74) rfl G2 (i * 2) d.vals (by simp [Act.eval]) rfl HTH.out (by show _=some 2; exact size65q) (slot_all d) ?_))
     generalize World.setCells _ _ _ _=Y2 at HPT HP2 ⊢
     clear q1
     have hmx:(i:Int)+1≤9223372036854775807:=by have:=HZ.out.2.2.1; omega
     go_wp2_with fail
     exact⟨⟨i+1,L ++ [_],hlt,rfl,by show _=_; rw [List.length_append,List.length_singleton,HLI.out],HP2,HPT,HPD⟩,by simp only [intOf]; omega⟩
    ·obtain rfl:i=S.ss.length:=by omega
     have hnot:¬ (S.ss.length:Int) < (S.ss.length:Int):=by omega
     have hltk:(S.ss.length:Int) < (K2:Int):=by have:=HK8.out; omega
     have hlek:(S.ss.length:Int)≤(K2:Int):=by omega
     obtain⟨⟨vq,e0⟩,t0b⟩:=HLN.out.free (mk:=1) (by decide)
     have e0':wr.cell? ⟨G2,S.ss.length * 2+1,none⟩=some vq:=e0
     have t0c:wr.frozen? ⟨G2,S.ss.length * 2+1,none⟩=false:=t0b
     have hGG:=HG2.out
     have HDW:Hid (Lrw kSl (wr.setCell ⟨G2,S.ss.length * 2+1,none⟩ (zI (-771))) G2 (some ⟨G2,0,none⟩) (S.ss.length+2) L 1):=HLN.out.fin HLI.out (Nat.le_refl _) (by decide) (by have:=HZ.out.2.2.1; omega)
     have HBU:Hid (Below U1§ U1 (wr.setCell ⟨G2,S.ss.length * 2+1,none⟩ (zI (-771)))):=HBR.out.setCell (by show _≤G2; omega) _
     clear e0 t0b HLN HBX hGG
     go_upto_region 16 with fail
     generalize hU:World.setCell wr _ _=T2 at HDW HBU ⊢
     clear hU e0' t0c q1
     rw [HKK2.out] at HDW
     have HBT:Hid (Bx3 w S (.slice (some ⟨G1,0,none⟩) S.rs.length K1) (.slice none 0 0) (.slice none 0 0) T2):=HU1.out.on HBU.out
     have q1:T2.cell? ⟨w§,2,none⟩=some (.slice S.sa S.ss.length S.sc):=cell_of HBT.out.s 2
     have x1:T2.cell? ⟨w§+2,2,none⟩=some (.slice none 0 0):=cell_of HBT.out.x 2
     have f1:T2.frozen? ⟨w§+2,2,none⟩=false:=frozen_of HBT.out.x 2
     have HU2:Hid (Bx3 w S (.slice (some ⟨G1,0,none⟩) S.rs.length K1) (.slice (some ⟨G2,0,none⟩) S.ss.length K2) (.slice none 0 0) (T2.setCell ⟨w§+2,2,none⟩ (.slice (some ⟨G2,0,none⟩) S.ss.length K2))):=HBT.out.put 2 rfl
     have HOL2:Hid (∀ b,w§+2 < b→b < U1§→(T2.setCell ⟨w§+2,2,none⟩ (.slice (some ⟨G2,0,none⟩) S.ss.length K2)).heap[b]? = U1.heap[b]?):=fun b hb hlt=>(Below.heap_setCell _ _ _ _ (by show b≠w§+2; omega)).trans (HBU.out.block b hlt)
     have HR2:Hid (Lrw kSl (T2.setCell ⟨w§+2,2,none⟩ (.slice (some ⟨G2,0,none⟩) S.ss.length K2)) G2 (some ⟨G2,0,none⟩) K2 L 1):=HDW.out.blk fun b hb _=>Below.heap_setCell _ _ _ _ (by have:=HG2.out.1; show b≠w§+2; omega)
     have HTL2:Hid (L.length=S.ss.length∧L.map SlotM.tr=S.ss.map SlotM.tr):=⟨HLI.out,by have h:=HTT.out; rw [List.take_of_length_le (by simp)] at h; exact h⟩
     have HR1:Hid (Lrw kRg (T2.setCell ⟨w§+2,2,none⟩ (.slice (some ⟨G2,0,none⟩) S.ss.length K2)) G1 (some ⟨G1,0,none⟩) K1 L1 10):=HR1.out.blk fun b hb hlt=>HOL2.out b (by have:=HG1.out.1; omega) hlt
     clear HDW HBT HBU HTT HLI HBR HK8 hltk hnot
     go_upto_region 17 with fail
     generalize hU:World.setCell T2 _ _=U2 at HU2 HOL2 HR1 HR2 ⊢
     clear hU q1 x1 f1 HOL2 hlek
     obtain⟨L2,eL⟩:∃ l,L=l:=⟨_,rfl⟩
     rw [eL] at HR2 HTL2
     clear eL
     obtain⟨M3,eM3⟩:∃ M:Int,(S.ts.length:Int)+2=M:=⟨_,rfl⟩
     obtain⟨Z3,hZ3⟩:∃ Z:Array Value,(Tryz.prog.info? 68).map (fun i=>(i.zero,i.size,i.bytes))=some (some (.agg Z),3,48):=⟨_,inf68q⟩
     have hmk3:=fun V=>mk_any (st:=25) Tryz.underlying25 hZ3 (by decide) HZ.out.2.2.2.1 eM3 V
     obtain⟨K3,eK3⟩:∃ K,S.ts.length+2=K:=⟨_,rfl⟩
     have HKK3:Hid (S.ts.length+2=K3):=eK3
     have HMD3:Hid (Lrr kSt (U2.alloc (.cells (madeCells Z3 ((S.ts.length+2) * 3)) 68)) U2§ S.ts.length []):=Lrr.new kSt U2 Z3 68 S.ts.length
     have HMB3:Hid (Below U2§ U2 (U2.alloc (.cells (madeCells Z3 ((S.ts.length+2) * 3)) 68))):=below_new _ _
     rw [eK3] at hmk3 HMD3 HMB3
     have q1:U2.cell? ⟨w§,3,none⟩=some (.slice S.ta S.ts.length S.tc):=cell_of HU2.out.s 3
     have hM3:(S.ts.length:Int)+2≤9223372036854775807:=by have:=HZ.out.2.2.2.1; omega
     clear eK3 hZ3
     go_upto_region 18 with fail
     generalize World.alloc U2 _=V3 at HMD3 HMB3 ⊢
     obtain⟨G3,eG3⟩:∃ G,U2§=G:=⟨_,rfl⟩
     have HG3:Hid (w§+2 < G3∧U2§=G3):=⟨by rw [← eG3]; exact HU2.out.lt,eG3⟩
     rw [eG3] at HMD3 ⊢
     clear eG3 hmk3 eM3 hM3 q1
     go_wp2_with fail
     go_loopw [9] (fun t wr=>∃ (i:Nat) (L:List StateM),i≤S.ts.length∧t=zI i∧Hid (L.length=i)∧Hid (Below U2§ U2 wr)∧Hid (Lrr kSt wr G3 S.ts.length L)∧Hid (L.map StateM.tr=(S.ts.map StateM.tr).take i)) (fun t _=>S.ts.length - (intOf t).toNat)
     case atStart=>exact⟨0,[],by omega,rfl,rfl,HMB3,HMD3,rfl⟩
     case round =>
      obtain⟨i,L,hi,rfl,HLI,HBR,HLN,HTT⟩:=hrel
      have HBX:Hid (Bx3 w S (.slice (some ⟨G1,0,none⟩) S.rs.length K1) (.slice (some ⟨G2,0,none⟩) S.ss.length K2) (.slice none 0 0) wr):=HU2.out.on HBR.out
      have q1:wr.cell? ⟨w§,3,none⟩=some (.slice S.ta S.ts.length S.tc):=cell_of HBX.out.s 3
      have HK8:Hid ((K3:Int)=(S.ts.length:Int)+2):=by have:=HKK3.out; show _=_; omega
      by_cases hlt:i < S.ts.length
      ·have hlt':(i:Int) < (S.ts.length:Int):=by omega
       have hltK:(i:Int) < (K3:Int):=by have:=HK8.out; omega
       obtain⟨b,o,ea,hat⟩:=((HL.out.2.2.2.2.1).on (mapz StateM.sz _) HBX.out.b).2.2 i (by rw [List.length_map]; exact hlt)
       simp only [List.getElem_map] at hat
       have HEX:Hid (S.ts[i] ∈ S.ts):=List.getElem_mem hlt
       obtain⟨d,ed⟩:∃ d,S.ts[i]=d:=⟨_,rfl⟩
       have HED:Hid (S.ts[i]=d):=ed
       rw [ed] at hat HEX
       have HRG:Hid (wr.rangeAt b (o+i * 3) d.vals.toList):=fun j v hv=>by
        have hj:j < 3:=(List.getElem?_eq_some_iff.1 hv).1
        rw [hat j hj,← hv]; simp
       rw [ea] at q1
       have HTH:Hid (wr.there G3 (i * 3) d.vals.size):=HLN.out.there hlt (o:=0) (n:=3) (Nat.le_refl _)
       have cI:=lendState_any d wr ((HL.out.2.2.2.2.2.1 d HEX.out).on HBX.out.b) (HZ.out.2.2.2.2 d HEX.out)
       clear hat ed ea HTH
       go_upto_region 20 with (first | (refine wpList_load_mid rfl 68 (.tmp 105) rfl b (o+i * 3) rfl d.vals.toList _ HRG.out Tryz.underlying68 rfl (by show _=some 3; exact size68s) ?_; rw [Array.toArray_toList]) | (go_at_call 39; refine cI.mono ?_; rintro e z ⟨d',rfl,hm,htr,hb⟩) | (refine wpList_store_mid rfl 68 (.tmp 108) (.tmp 107) rfl G3 (i * 3) d'.vals (by simp [Act.eval]) rfl (show z.there G3 (i * 3) 3 from (HLN.out.on hb).there hlt (o:=0) (n:=3) (Nat.le_refl _)) (by show _=some 3; exact size68s) (state_all d') ?_))
       have HPT:Hid (Lrr kSt (z.setCells G3 (i * 3) d'.vals.toList) G3 S.ts.length (L ++ [d'])):=by
        have hY:G3 < wr§:=HLN.out.lt
        have:=(HLN.out.on hb).put (by rw [HLI.out]; exact hlt) (x:=d') (kSt.low hm (by omega))
        rw [HLI.out] at this
        exact this
       have HP2:Hid (Below U2§ U2 (z.setCells G3 (i * 3) d'.vals.toList)):=below_cellsq (by have:=HG3.out.2; omega) _ _ (below2 HBR.out hb)
       have HPD:Hid ((L ++ [d']).map StateM.tr=(S.ts.map StateM.tr).take (i+1)):=map_take_snoc HTT.out hlt (by rw [HED.out,htr])
       clear cI hm htr hb q1
       generalize World.setCells _ _ _ _=Y2 at HPT HP2 ⊢
       have hmx:(i:Int)+1≤9223372036854775807:=by have:=HZ.out.2.2.2.1; omega
       go_wp2_with fail
       exact⟨⟨i+1,L ++ [_],hlt,rfl,by show _=_; rw [List.length_append,List.length_singleton,HLI.out],HP2,HPT,HPD⟩,by simp only [intOf]; omega⟩
      ·obtain rfl:i=S.ts.length:=by omega
       have hnot:¬ (S.ts.length:Int) < (S.ts.length:Int):=by omega
       have hltk:(S.ts.length:Int) < (K3:Int):=by have:=HK8.out; omega
       have hlek:(S.ts.length:Int)≤(K3:Int):=by omega
       obtain⟨⟨vq,e0⟩,t0b⟩:=HLN.out.free (mk:=2) (by decide)
       have e0':wr.cell? ⟨G3,S.ts.length * 3+2,none⟩=some vq:=e0
       have t0c:wr.frozen? ⟨G3,S.ts.length * 3+2,none⟩=false:=t0b
       have hGG:=HG3.out
       have HDW:Hid (Lrw kSt (wr.setCell ⟨G3,S.ts.length * 3+2,none⟩ (zI (-771))) G3 (some ⟨G3,0,none⟩) (S.ts.length+2) L 2):=HLN.out.fin HLI.out (Nat.le_refl _) (by decide) (by have:=HZ.out.2.2.2.1; omega)
       have HBU:Hid (Below U2§ U2 (wr.setCell ⟨G3,S.ts.length * 3+2,none⟩ (zI (-771)))):=HBR.out.setCell (by show _≤G3; omega) _
       clear e0 t0b HLN HBX hGG
       go_upto_region 23 with fail
       generalize hU:World.setCell wr _ _=T3 at HDW HBU ⊢
       clear hU e0' t0c q1
       rw [HKK3.out] at HDW
       have HBT:Hid (Bx3 w S (.slice (some ⟨G1,0,none⟩) S.rs.length K1) (.slice (some ⟨G2,0,none⟩) S.ss.length K2) (.slice none 0 0) T3):=HU2.out.on HBU.out
       have q1:T3.cell? ⟨w§,3,none⟩=some (.slice S.ta S.ts.length S.tc):=cell_of HBT.out.s 3
       have x1:T3.cell? ⟨w§+2,3,none⟩=some (.slice none 0 0):=cell_of HBT.out.x 3
       have f1:T3.frozen? ⟨w§+2,3,none⟩=false:=frozen_of HBT.out.x 3
       have HU3:Hid (Bx3 w S (.slice (some ⟨G1,0,none⟩) S.rs.length K1) (.slice (some ⟨G2,0,none⟩) S.ss.length K2) (.slice (some ⟨G3,0,none⟩) S.ts.length K3) (T3.setCell ⟨w§+2,3,none⟩ (.slice (some ⟨G3,0,none⟩) S.ts.length K3))):=HBT.out.put 3 rfl
       have HOL3:Hid (∀ b,w§+2 < b→b < U2§→(T3.setCell ⟨w§+2,3,none⟩ (.slice (some ⟨G3,0,none⟩) S.ts.length K3)).heap[b]? = U2.heap[b]?):=fun b hb hlt=>(Below.heap_setCell _ _ _ _ (by show b≠w§+2; omega)).trans (HBU.out.block b hlt)
       have HR3:Hid (Lrw kSt (T3.setCell ⟨w§+2,3,none⟩ (.slice (some ⟨G3,0,none⟩) S.ts.length K3)) G3 (some ⟨G3,0,none⟩) K3 L 2):=HDW.out.blk fun b hb _=>Below.heap_setCell _ _ _ _ (by have:=HG3.out.1; show b≠w§+2; omega)
       have HTL3:Hid (L.length=S.ts.length∧L.map StateM.tr=S.ts.map StateM.tr):=⟨HLI.out,by have h:=HTT.out; rw [List.take_of_length_le (by simp)] at h; exact h⟩
       have HR1:Hid (Lrw kRg (T3.setCell ⟨w§+2,3,none⟩ (.slice (some ⟨G3,0,none⟩) S.ts.length K3)) G1 (some ⟨G1,0,none⟩) K1 L1 10):=HR1.out.blk fun b hb hlt=>HOL3.out b (by have:=HG1.out.1; omega) hlt
       have HR2:Hid (Lrw kSl (T3.setCell ⟨w§+2,3,none⟩ (.slice (some ⟨G3,0,none⟩) S.ts.length K3)) G2 (some ⟨G2,0,none⟩) K2 L2 1):=HR2.out.blk fun b hb hlt=>HOL3.out b (by have:=HG2.out.1; omega) hlt
       clear HDW HBT HBU HTT HLI HBR HK8 hltk hnot
       go_upto_region 24 with fail
       generalize hU:World.setCell T3 _ _=U3 at HU3 HOL3 HR1 HR2 HR3 ⊢
       clear hU q1 x1 f1 HOL3 hlek
       obtain⟨L3,eL⟩:∃ l,L=l:=⟨_,rfl⟩
       rw [eL] at HR3 HTL3
       clear eL
       have HVV:Hid ((StratM.mk S.x (some ⟨G1,0,none⟩) K1 L1 (some ⟨G2,0,none⟩) K2 L2 (some ⟨G3,0,none⟩) K3 L3).vals=#[.string S.x,.slice (some ⟨G1,0,none⟩) S.rs.length K1,.slice (some ⟨G2,0,none⟩) S.ss.length K2,.slice (some ⟨G3,0,none⟩) S.ts.length K3]):=by
        show _=_
        unfold StratM.vals
        simp only [HTL1.out.1,HTL2.out.1,HTL3.out.1]
       have HTR:Hid ((StratM.mk S.x (some ⟨G1,0,none⟩) K1 L1 (some ⟨G2,0,none⟩) K2 L2 (some ⟨G3,0,none⟩) K3 L3).tr=S.tr):=by
        show _=_
        unfold StratM.tr
        simp only [HTL1.out.2,HTL2.out.2,HTL3.out.2]
       have HLS:Hid (LntS (U3.setRow (w§+1) (StratM.mk S.x (some ⟨G1,0,none⟩) K1 L1 (some ⟨G2,0,none⟩) K2 L2 (some ⟨G3,0,none⟩) K3 L3).vals) w§ (StratM.mk S.x (some ⟨G1,0,none⟩) K1 L1 (some ⟨G2,0,none⟩) K2 L2 (some ⟨G3,0,none⟩) K3 L3)):=by
        have g1:=HG1.out.1
        have g2:=HG2.out.1
        have g3:=HG3.out.1
        exact⟨(HR1.out.blk fun b hb _=>setRow_oth _ _ _ (by omega)).low (by omega),(HR2.out.blk fun b hb _=>setRow_oth _ _ _ (by omega)).low (by omega),(HR3.out.blk fun b hb _=>setRow_oth _ _ _ (by omega)).low (by omega),HL.out.2.2.2.2.2.2⟩
       have HF:Hid ((U3.setRow (w§+1) (StratM.mk S.x (some ⟨G1,0,none⟩) K1 L1 (some ⟨G2,0,none⟩) K2 L2 (some ⟨G3,0,none⟩) K3 L3).vals).heap[w§+1]? = some (.cells (StratM.mk S.x (some ⟨G1,0,none⟩) K1 L1 (some ⟨G2,0,none⟩) K2 L2 (some ⟨G3,0,none⟩) K3 L3).vals 27 (0,0))∧Below w§ w (U3.setRow (w§+1) (StratM.mk S.x (some ⟨G1,0,none⟩) K1 L1 (some ⟨G2,0,none⟩) K2 L2 (some ⟨G3,0,none⟩) K3 L3).vals)):=⟨setRow_heap _ _ _ _ _ _ HU3.out.z,below_row HU3.out.b (by omega) _⟩
       have HX3:Hid (U3.heap[w§+2]? = some (.cells (StratM.mk S.x (some ⟨G1,0,none⟩) K1 L1 (some ⟨G2,0,none⟩) K2 L2 (some ⟨G3,0,none⟩) K3 L3).vals 27 (0,0))):=by show _=_; rw [HVV.out]; exact HU3.out.x
       obtain⟨R,eR⟩:∃ R,(StratM.mk S.x (some ⟨G1,0,none⟩) K1 L1 (some ⟨G2,0,none⟩) K2 L2 (some ⟨G3,0,none⟩) K3 L3).vals=R:=⟨_,rfl⟩
       have HSZ:Hid (R.size=4∧R.all (·.oneCell')=true):=by show _∧_; rw [← eR,HVV.out]; exact⟨rfl,by simp [Value.oneCell']⟩
       have HER:Hid ((StratM.mk S.x (some ⟨G1,0,none⟩) K1 L1 (some ⟨G2,0,none⟩) K2 L2 (some ⟨G3,0,none⟩) K3 L3).vals=R):=eR
       rw [eR] at HX3 HF HLS
       clear eR
       go_wp2_with (first | (refine wpList_load_row rfl 27 _ rfl (w§+2) rfl 27 R (0,0) _ HX3.out Tryz.underlying27 rfl (by rw [HSZ.out.1]; exact size27s) ?_) | (refine wpList_store_row rfl 27 _ _ rfl (w§+1) R rfl rfl 27 #[.string ⟨#[]⟩,.slice none 0 0,.slice none 0 0,.slice none 0 0] HU3.out.z (by rw [HSZ.out.1]; exact size27s) (by rw [HSZ.out.1]; rfl) HSZ.out.2 ?_))
       exact bodyPost_ret (results_cell_row rfl _ _ (w§+1) 27 R (0,0) _ rfl HF.out.1 Tryz.underlying27 rfl (by rw [HSZ.out.1]; exact size27s)) rfl ⟨(StratM.mk S.x (some ⟨G1,0,none⟩) K1 L1 (some ⟨G2,0,none⟩) K2 L2 (some ⟨G3,0,none⟩) K3 L3),by rw [HER.out],HLS.out,HTR.out,HF.out.2⟩
end Go.Proofs.YtoogodlnnijikaaGreatDoor
