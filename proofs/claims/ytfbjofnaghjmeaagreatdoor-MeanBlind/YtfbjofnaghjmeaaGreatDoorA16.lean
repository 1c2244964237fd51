import Derived.Test.YtfbjofnaghjmeaaGreatDoorA0
import Derived.Test.YtfbjofnaghjmeaaGreatDoorA15
import Derived.Test.YtfbjofnaghjmeaaGreatDoorA11
namespace Go.Proofs.YtfbjofnaghjmeaaGreatDoor
set_option maxHeartbeats 8000000
set_option maxRecDepth 100000
open Go.RowKit
set_option linter.unusedVariables false
def rlA (m:Nd) (a:Option Addr) (n c:Nat) (p:Int):Array Value:=#[zU m.h.k,zU m.h.o,zU m.h.t,zI m.h.n,zU m.h.f,.string m.h.x,.slice m.a m.ks.length m.c,zI m.h.p,.slice a n c,zI p]
theorem rlA_vals (r:RuleM):r.vals=rlA r.m r.a r.ds.length r.c r.p:=rfl
theorem rlZ_eq (p:Int):#[zU 0,zU 0,zU 0,zI 0,zU 0,yQ,.slice none 0 0,zI 0,.slice none 0 0,zI p]=rlA nd00 none 0 0 p:=rfl
theorem rlM_eq (m m':Nd) (a:Option Addr) (n c:Nat) (p:Int):set8 (rlA m a n c p) 0 m'=rlA m' a n c p:=by kernel_rfl
theorem rlS_eq (m:Nd) (a a':Option Addr) (n n' c c':Nat) (p:Int):(rlA m a n c p).setIfInBounds 8 (.slice a' n' c')=rlA m a' n' c' p:=by kernel_rfl
theorem HX.rlMS {w:yW}{b:Nat}{K:PK}{V:yW}{post:List (Nat × Nat × Array Value)}{N:Nat}{e sz:Nat}{v:Value}{vs:List (Array Value)}{F:yW→Prop}{ts:List Tk}{m:Nd}{a:Option Addr}{n c:Nat}{p:Int}(h:HX w b K V ((N,100,rlA m a n c p) :: post) e sz v vs F ts) (m':Nd):HX w b K (V.setCells N 0 m'.vals.toList) ((N,100,rlA m' a n c p) :: post) e sz v vs F ts:=by
 rw [cells8_eq]
 have h':=HX.nodeA (pre:=[]) h 0 m'
 rw [rlM_eq] at h'
 exact h'
theorem HX.rlS {w:yW}{b:Nat}{K:PK}{V:yW}{post:List (Nat × Nat × Array Value)}{N:Nat}{e sz:Nat}{v:Value}{vs:List (Array Value)}{F:yW→Prop}{ts:List Tk}{m:Nd}{a:Option Addr}{n c:Nat}{p:Int}(h:HX w b K V ((N,100,rlA m a n c p) :: post) e sz v vs F ts) (a':Option Addr) (n' c':Nat):HX w b K (V.setCell N¢8 (.slice a' n' c')) ((N,100,rlA m a' n' c' p) :: post) e sz v vs F ts:=by
 have h':=HX.setA (pre:=[]) h 8 (.slice a' n' c')
 rw [rlS_eq] at h'
 exact h'
theorem HX.doT0 {w:yW}{b:Nat}{K:PK}{V:yW}{post:List (Nat × Nat × Array Value)}{N:Nat}{e sz:Nat}{v:Value}{vs:List (Array Value)}{F:yW→Prop}{ts:List Tk}{m:Nd}{a:Option Addr}{n c:Nat}{p:Int}(h:HX w b K V ((N,100,rlA m a n c p) :: post) e sz v vs F ts) (i:Nat) (hi:i+8≤10):V.there N i 8:=HX.thereA (pre:=[]) h i 8 hi
theorem HX.rlCl {w:yW}{b:Nat}{K:PK}{V:yW}{post:List (Nat × Nat × Array Value)}{N:Nat}{e sz:Nat}{v:Value}{vs:List (Array Value)}{F:yW→Prop}{ts:List Tk}{m:Nd}{a:Option Addr}{n c:Nat}{p:Int}(h:HX w b K V ((N,100,rlA m a n c p) :: post) e sz v vs F ts):Cl V N 8 (.slice a n c):=⟨_,_,(h.B _ List.mem_cons_self).1,rfl⟩
theorem size106':(Tryz.prog.info? 100).map (·.size)=some 10:=by kernel_rfl
theorem all10 (m:Nd) (a:Option Addr) (n c:Nat) (p:Int):(rlA m a n c p).all (·.oneCell')=true:=by simp [rlA,Value.oneCell']
theorem pDos_inv {k:Nat}{ts:List Tk}{rest:List DoT}{te:Tk}{ts':List Tk}(h:pDos k ts=some (rest,te :: ts')):∃ d u us,pDo ts=some (d,u :: us)∧((¬ u.x=Z8∧rest = [d]∧u=te∧us=ts')∨(u.x=Z8∧∃ k' rest',k=k'+1∧pDos k' us=some (rest',te :: ts')∧rest=d :: rest')):=by
 have key:∀ {q:DoT × List Tk},pIs Z8 q.2=true→∃ u us,q.2=u :: us∧u.x=Z8:=by
  intro q hq
  cases hc:q.2 with
  | nil=>rw [hc] at hq; cases hq
  | cons u us=>rw [hc] at hq; exact⟨u,us,rfl,of_decide_eq_true hq⟩
 cases k with
 | zero =>
  unfold pDos at h
  obtain⟨q,h1,h2⟩:=opt_bind h
  by_cases hi:pIs Z8 q.2=true
  ·rw [if_pos hi] at h2; cases h2
  ·rw [if_neg hi] at h2
   obtain⟨e1,e2⟩:=Prod.mk.inj (Option.some.inj h2)
   refine⟨q.1,te,ts',by rw [h1,← e2],.inl ⟨fun e=>hi ?_,e1.symm,rfl,rfl⟩⟩
   rw [e2]; exact decide_eq_true e
 | succ k =>
  unfold pDos at h
  obtain⟨q,h1,h2⟩:=opt_bind h
  by_cases hi:pIs Z8 q.2=true
  ·rw [if_pos hi] at h2
   obtain⟨u,us,e,hx⟩:=key hi
   obtain⟨r,h3,h4⟩:=opt_bind h2
   obtain⟨e1,e2⟩:=Prod.mk.inj (Option.some.inj h4)
   rw [e] at h3
   simp only [List.tail_cons] at h3
   exact⟨q.1,u,us,by rw [h1,← e],.inr ⟨hx,k,r.1,rfl,by rw [h3,← e2],e1.symm⟩⟩
  ·rw [if_neg hi] at h2
   obtain⟨e1,e2⟩:=Prod.mk.inj (Option.some.inj h2)
   refine⟨q.1,te,ts',by rw [h1,← e2],.inl ⟨fun e=>hi ?_,e1.symm,rfl,rfl⟩⟩
   rw [e2]; exact decide_eq_true e
theorem pRule_inv {ts:List Tk}{r:RuleT}{ts':List Tk}(h:pRule ts=some (r,ts')):∃ t1 a1 as1 m t2 us2 ds te,ts=t1 :: a1 :: as1∧t1.x=Zd∧pEx (a1 :: as1)=some (m,t2 :: us2)∧t2.x=⟨#[100,111]⟩∧pDos 7 us2=some (ds,te :: ts')∧te.x=Z9∧r=⟨m,ds,t1.p⟩:=by
 unfold pRule at h
 obtain⟨a,h1,h⟩:=opt_bind h
 obtain⟨b,h2,h⟩:=opt_bind h
 obtain⟨c,h3,h⟩:=opt_bind h
 obtain⟨d,h4,h⟩:=opt_bind h
 obtain⟨f,h5,h⟩:=opt_bind h
 cases h
 obtain⟨t1,rfl,k1,k1'⟩:=pTake_inv h1
 obtain⟨a1,as1,e1⟩:=pEx_cons h2
 obtain⟨t2,g3,k3,_⟩:=pTake_inv h3
 obtain⟨te,g5,k5,_⟩:=pTake_inv h5
 exact⟨t1,a1,as1,b.1,t2,c.2,d.1,te,by rw [e1],k1,by rw [← e1,h2,← g3],k3,by rw [h4,← g5],k5,by rw [k1']⟩
def RLI (w:yW) (b:Nat) (K:PK) (N3:Nat) (m:Nd) (p:Int) (te:Tk) (ts':List Tk) (al:List DoT) (wr:yW):Prop :=
 ∃ (ds:List DoM) (a:Option Addr) (n c:Nat) (ts2:List Tk) (rest:List DoT),ds.length=n∧n≤7∧HX w b K wr [(N3,100,rlA m a n c p),(w§,100,rlA nd00 none 0 0 0)] 121 36 (.slice a n c) (ds.map DoM.vals) (fun U=>Lies U m∧∀ d ∈ ds,DoL U d) ts2∧pDos (7 - n) ts2=some (rest,te :: ts')∧ds.map DoM.tr ++ rest=al
theorem rule_l {w:yW}{b:Nat}{K:PK}{ts:List Tk}{r:RuleT}{ts':List Tk}(hK:KG K) (h:Lv w b K ts) (hp:pRule ts=some (r,ts')):Calls zG 176 #[zP b] w (OutL RuleM.vals RuleM.tr RuleL b K w r ts'):=by
 obtain⟨t1,a1,as1,m0,t2,us2,al,te,rfl,k1,h1,k2,hds,kte,rfl⟩:=pRule_inv hp
 have HK:Hid (KG K):=hK
 have HT1:Hid (RgT t1):=(h.ok hK.k).r
 have HDS:Hid (pDos 7 us2=some (al,te :: ts')):=hds
 have HTE:Hid (te.x=Z9):=kte
 have HG0:=((HX.new h 121 36).push zg 100).hid
 clear h hK hp hds kte
 obtain⟨W0,eW0⟩:∃ W,w.alloc (.cells zg 100)=W:=⟨_,rfl⟩
 rw [eW0,rlZ_eq] at HG0
 have cT:=take_l HK.out HG0.out.S Zd (by decide +kernel) k1
 clear k1
 go_enter Tryz.func176,Tryz.ntmps176
 go_wp2_with fail
 try rw [eW0]
 refine cT.mono ?_
 rintro e w1 ⟨rfl,hs,hm⟩
 have HG1:=((HG0.out.mv hm hs).push #[zU 0,zU 0,zU 0,zI 0,zU 0,yQ,.slice none 0 0,zI 0,.slice none 0 0,zI t1.p] 100).hid
 clear cT hs hm HG0 eW0
 go_upto_region 2 with fail
 obtain⟨N3,eN3⟩:∃ q,w1§=q:=⟨_,rfl⟩
 obtain⟨W1,eW1⟩:∃ W,w1.alloc (.cells #[zU 0,zU 0,zU 0,zI 0,zU 0,yQ,.slice none 0 0,zI 0,.slice none 0 0,zI t1.p] 100)=W:=⟨_,rfl⟩
 rw [eW1,eN3,rlZ_eq] at HG1
 rw [eW1,eN3]
 clear eW1 eN3
 generalize Value.agg #[zU 0,zU 0,zU 0,zI 0,zU 0,yQ,.slice none 0 0,zI 0,.slice none 0 0,zI t1.p]=D0
 have cE:=expr_l HK.out HG1.out.S h1
 go_wp2_with fail
 refine cE.mono ?_
 rintro e ua1 ⟨m1,rfl,htr,hdp,hs,hm⟩
 have HM1:Hid (treeOf m1=_):=htr
 have HA1:=(HG1.out.add hm hs hdp).hid
 have HB1:=(HA1.out.rlMS m1).hid
 clear cE hs hm htr hdp HG1 h1
 go_upto_region 3 with (refine wpList_store_mid rfl 38 (.tmp 12) (.tmp 11) rfl N3 0 m1.vals rfl rfl (HA1.out.doT0 0 (by omega)) size64' (all8 m1) ?_)
 generalize hY:World.setCells _ _ _ _=Y1
 rw [hY] at HB1
 clear hY HA1
 have cT:=take_l HK.out HB1.out.S ⟨#[100,111]⟩ (by decide +kernel) k2
 go_wp2_with fail
 refine cT.mono ?_
 rintro e w2 ⟨rfl,hs,hm⟩
 have HG2:=(HB1.out.mv hm hs).hid
 clear cT hs hm HB1 k2
 generalize Value.agg m1.vals=D1
 have HI0:Hid (RLI w b K N3 m1 t1.p te ts' al w2):=⟨[],none,0,0,us2,al,rfl,by omega,HG2.out.imp fun U hU=>⟨hU.2,fun d hd=>by simp at hd⟩,HDS.out,rfl⟩
 clear HG2 HDS
 go_wp2_with fail
 go_loopw [4,5,6] (fun _ _ _ wr=>Hid (RLI w b K N3 m1 t1.p te ts' al wr)) (fun _ _ _ wr=>7 - clen N3 8 wr)
 case atStart=>exact HI0
 case round =>
  obtain⟨ds,a,n,c,ts2,rest,hn,hn7,hx,hpd,hal⟩:=hrel.out
  have HL:=hx.hid
  have HNN:Hid (ds.length=n):=hn
  have HAL:Hid (ds.map DoM.tr ++ rest=al):=hal
  have HMS:Hid (clen N3 8 wr=n):=hx.rlCl.clen
  obtain⟨dt,u,us,hpo,hor⟩:=pDos_inv hpd
  have HOR:Hid ((¬ u.x=Z8∧rest = [dt]∧u=te∧us=ts')∨(u.x=Z8∧∃ k' rest',7 - n=k'+1∧pDos k' us=some (rest',te :: ts')∧rest=dt :: rest')):=hor
  have cD:=do_l HK.out hx.S hpo
  clear hx hrel hpd hpo hor hal hn HI0
  go_wp2_with fail
  refine cD.mono ?_
  rintro e w3 ⟨dm,rfl,htr,hdp,hs,hm⟩
  have HDT:Hid (dm.tr=dt):=htr
  have HLp:=((HL.out.add hm hs hdp).push #[zU 0,zU 0,yQ,zU 0,zU 0,zU 0,zI 0,zU 0,yQ,.slice none 0 0,zI 0,zU 0,zU 0,zU 0,zI 0,zU 0,yQ,.slice none 0 0,zI 0,zU 0,zU 0,zU 0,zI 0,zU 0,yQ,.slice none 0 0,zI 0,zU 0,zU 0,zU 0,zI 0,zU 0,yQ,.slice none 0 0,zI 0,zI 0] 121).hid
  have HL4:=(HX.rowA (pre:=[]) HLp.out dm.vals).hid
  have HZ:Hid ((w3.alloc (.cells #[zU 0,zU 0,yQ,zU 0,zU 0,zU 0,zI 0,zU 0,yQ,.slice none 0 0,zI 0,zU 0,zU 0,zU 0,zI 0,zU 0,yQ,.slice none 0 0,zI 0,zU 0,zU 0,zU 0,zI 0,zU 0,yQ,.slice none 0 0,zI 0,zU 0,zU 0,zU 0,zI 0,zU 0,yQ,.slice none 0 0,zI 0,zI 0] 121)).heap[w3§]? = (zC #[zU 0,zU 0,yQ,zU 0,zU 0,zU 0,zI 0,zU 0,yQ,.slice none 0 0,zI 0,zU 0,zU 0,zU 0,zI 0,zU 0,yQ,.slice none 0 0,zI 0,zU 0,zU 0,zU 0,zI 0,zU 0,yQ,.slice none 0 0,zI 0,zU 0,zU 0,zU 0,zI 0,zU 0,yQ,.slice none 0 0,zI 0,zI 0] 121)):=heap_new _ _
  clear cD hs hm htr hdp HL HLp
  go_upto_region 5 with (refine wpList_store_row rfl 121 (.tmp 4) (.tmp 16) rfl w3§ dm.vals rfl rfl 121 #[zU 0,zU 0,yQ,zU 0,zU 0,zU 0,zI 0,zU 0,yQ,.slice none 0 0,zI 0,zU 0,zU 0,zU 0,zI 0,zU 0,yQ,.slice none 0 0,zI 0,zU 0,zU 0,zU 0,zI 0,zU 0,yQ,.slice none 0 0,zI 0,zU 0,zU 0,zU 0,zI 0,zU 0,yQ,.slice none 0 0,zI 0,zI 0] HZ.out size110' rfl (all36 ..) ?_)
  generalize hW4:World.setRow _ _ _=W4
  rw [hW4] at HL4
  obtain⟨N4,eN4⟩:∃ q,w3§=q:=⟨_,rfl⟩
  rw [eN4] at HL4 ⊢
  clear eN4 HZ hW4
  have HN4:Hid (W4.heap[N4]? = (zC dm.vals 121)):=(HL4.out.B _ List.mem_cons_self).1
  have k8:W4.cell? N3¢8=some (.slice a n c):=cell_of (HL4.out.B _ (List.mem_cons_of_mem _ List.mem_cons_self)).1 8
  go_upto_region 6 with (first | (refine wpList_load_row rfl 121 (.tmp 4) rfl N4 rfl 121 dm.vals (0,0) _ HN4.out Tryz.underlying121 rfl size110' ?_) | (refine wpList_slice1 rfl 98 121 (.tmp 19) rfl dm.vals rfl 36 _ Tryz.underlying98 320 inf110 rfl rfl (by decide) (by decide) ?_) | (at_builtin; refine app_h HL4.out 98 dm.vals rfl (all36 ..) _ 320 Tryz.underlying98 inf110 rfl (by decide) (by rw [List.length_map,HNN.out]; omega) (by decide) rfl (.tmp 18) (.tmp 20) rfl rfl rfl ?_; intro g7 cap7 w7 hl7; rw [List.length_map,HNN.out] at hl7 ⊢; have HL7:=hl7.pop.hid; obtain⟨av8,ac8,af8⟩:=HX.cellA (pre:=[]) HL7.out 8 (by show 8 < 10; omega); clear hl7))
  have HL8:=(HL7.out.rlS (some g7¢0) (n+1) cap7).hid
  generalize hW8:World.setCell _ _ _=W8
  rw [hW8] at HL8
  clear hW8 HL7 ac8 af8 k8 HL4 HN4
  generalize Value.agg dm.vals=D4
  have HX8:Hid (HX w b K W8 [(N3,100,rlA m1 (some g7¢0) (n+1) cap7 t1.p),(w§,100,rlA nd00 none 0 0 0)] 121 36 (.slice (some g7¢0) (n+1) cap7) ((ds ++ [dm]).map DoM.vals) (fun U=>Lies U m1∧∀ d ∈ ds ++ [dm],DoL U d) (u :: us)):=by
   rw [List.map_append]
   refine HL8.out.imp fun U hU=>⟨hU.1.1,fun d hd=>?_⟩
   rcases List.mem_append.1 hd with hd | hd
   ·exact hU.1.2 d hd
   ·rw [List.mem_singleton.1 hd]; exact hU.2
  clear HL8
  by_cases hc:u.x=Z8
  ·obtain⟨k',rest',hk',hpd',hre⟩:∃ k' rest',7 - n=k'+1∧pDos k' us=some (rest',te :: ts')∧rest=dt :: rest':=by
    rcases HOR.out with ⟨g,_⟩ | ⟨_,g⟩
    ·exact absurd hc g
    ·exact g
   have cI:=is_l HK.out HX8.out.S Z8 (by decide +kernel) (i:=true) (by simp only [pIs]; exact decide_eq_true hc)
   have HPD:Hid (pDos (7 - (n+1)) us=some (rest',te :: ts')∧(ds ++ [dm]).map DoM.tr ++ rest'=al):=by
    refine⟨by rw [show 7 - (n+1)=k' by omega]; exact hpd',?_⟩
    rw [← HAL.out,hre,List.map_append,List.map_singleton,HDT.out]
    simp
   clear hpd' hre hc HOR HAL HDT
   go_wp2_with fail
   refine cI.mono ?_
   rintro e z1 ⟨rfl,hb⟩
   have HL9:=(HX8.out.on hb).hid
   have k8:=HL9.out.rlCl.cell
   have cM:=many_ok HL9.out.S (n+1) 8 (by omega) (by omega)
   clear cI hb HX8
   simp only [Int.natCast_add,Int.natCast_one] at cM
   go_wp2_with fail
   refine cM.mono ?_
   rintro e z2 ⟨rfl,e2⟩
   obtain rfl:=e2.symm
   clear cM e2
   obtain⟨i,c3,f3,hmx,hL,hM,_,_⟩:=HL9.out.S.at'
   have HL10:=(HL9.out.mv hM hL).hid
   clear hL hM HL9
   go_wp2_with fail
   refine⟨?_,?_⟩
   ·exact⟨ds ++ [dm],_,n+1,cap7,us,rest',by rw [List.length_append,HNN.out]; rfl,by omega,HL10.out,HPD.out.1,HPD.out.2⟩
   ·rw [HMS.out,HL10.out.rlCl.clen]; omega
  ·obtain⟨hre,rfl,rfl⟩:rest = [dt]∧u=te∧us=ts':=by
    rcases HOR.out with ⟨_,g⟩ | ⟨g,_⟩
    ·exact g
    ·exact absurd g hc
   have cI:=is_l HK.out HX8.out.S Z8 (by decide +kernel) (i:=false) (by simp only [pIs]; exact decide_eq_false hc)
   have HPD:Hid ((ds ++ [dm]).map DoM.tr=al):=by
    show _=_
    rw [← HAL.out,hre,List.map_append,List.map_singleton,HDT.out]
   clear hre hc HOR HAL HDT
   go_wp2_with fail
   refine cI.mono ?_
   rintro e z1 ⟨rfl,hb⟩
   have HL9:=(HX8.out.on hb).hid
   have cT:=take_l HK.out HL9.out.S Z9 (by decide +kernel) HTE.out
   clear cI hb HX8
   go_wp2_with fail
   refine cT.mono ?_
   rintro e z9 ⟨rfl,hs,hm⟩
   have HL10:=(HL9.out.mv hm hs).hid
   clear cT hs hm HL9
   obtain⟨a9,c9,e9,HE⟩:=HL10.out.retire 0 0
   injection e9 with e91 e92 e93
   subst e91 e93
   have HC:Hid (z9.heap[N3]? = (zC (rlA m1 (some g7¢0) (n+1) cap7 t1.p) 100)):=(HE.B _ List.mem_cons_self).1
   have HO:Hid (z9.heap[w§]? = (zC (rlA nd00 none 0 0 0) 100)):=(HE.B _ (List.mem_cons_of_mem _ List.mem_cons_self)).1
   have HF:=(HX.rowA (pre:=[_]) HE (rlA m1 (some g7¢0) (n+1) cap7 t1.p)).hid
   have HR:Hid ((z9.setRow w§ (rlA m1 (some g7¢0) (n+1) cap7 t1.p)).heap[w§]? = (zC (rlA m1 (some g7¢0) (n+1) cap7 t1.p) 100)):=(HF.out.B _ (List.mem_cons_of_mem _ List.mem_cons_self)).1
   clear HE HL10
   go_wp2_with (first | (refine wpList_load_row rfl 100 (.tmp 3) rfl N3 rfl 100 (rlA m1 (some g7¢0) (n+1) cap7 t1.p) (0,0) _ HC.out Tryz.underlying100 rfl size106' ?_) | (refine wpList_store_row rfl 100 (.tmp 2) (.tmp 43) rfl w§ (rlA m1 (some g7¢0) (n+1) cap7 t1.p) rfl rfl 100 _ HO.out size106' rfl (all10 ..) ?_))
   have hlen:(ds ++ [dm]).length=n+1:=by rw [List.length_append,HNN.out]; rfl
   have hval:RuleM.vals ⟨m1,some g7¢0,cap7,ds ++ [dm],t1.p⟩=rlA m1 (some g7¢0) (n+1) cap7 t1.p:=by rw [rlA_vals]; show rlA m1 _ (ds ++ [dm]).length _ _=_; rw [hlen]
   refine bodyPost_ret (results_cell_row rfl _ _ w§ 100 (rlA m1 (some g7¢0) (n+1) cap7 t1.p) (0,0) _ rfl HR.out Tryz.underlying100 rfl size106') rfl ⟨⟨m1,some g7¢0,cap7,ds ++ [dm],t1.p⟩,by rw [hval],?_,HF.out.fin.1.imp fun U hU=>⟨hU.1.1,hU.2,hU.1.2,⟨HT1.out.p0,HT1.out.p1⟩⟩,HF.out.S,HF.out.M⟩
   show RuleT.mk (treeOf m1) ((ds ++ [dm]).map DoM.tr) t1.p=_
   rw [HM1.out,HPD.out]
def stA (x:yB) (a:Option Addr) (n c:Nat) (p:Int):Array Value:=#[.string x,.slice a n c,zI p]
theorem stA_vals (r:StateM):r.vals=stA r.x r.a r.rs.length r.c r.p:=rfl
theorem stZ_eq (p:Int):#[yQ,.slice none 0 0,zI p]=stA ⟨#[]⟩ none 0 0 p:=rfl
theorem stX_eq (x x':yB) (a:Option Addr) (n c:Nat) (p:Int):(stA x a n c p).setIfInBounds 0 (.string x')=stA x' a n c p:=by kernel_rfl
theorem stS_eq (x:yB) (a a':Option Addr) (n n' c c':Nat) (p:Int):(stA x a n c p).setIfInBounds 1 (.slice a' n' c')=stA x a' n' c' p:=by kernel_rfl
theorem HX.stX {w:yW}{b:Nat}{K:PK}{V:yW}{post:List (Nat × Nat × Array Value)}{N:Nat}{e sz:Nat}{v:Value}{vs:List (Array Value)}{F:yW→Prop}{ts:List Tk}{x:yB}{a:Option Addr}{n c:Nat}{p:Int}(h:HX w b K V ((N,69,stA x a n c p) :: post) e sz v vs F ts) (x':yB):HX w b K (V.setCell N¢0 (.string x')) ((N,69,stA x' a n c p) :: post) e sz v vs F ts:=by
 have h':=HX.setA (pre:=[]) h 0 (.string x')
 rw [stX_eq] at h'
 exact h'
theorem HX.stS {w:yW}{b:Nat}{K:PK}{V:yW}{post:List (Nat × Nat × Array Value)}{N:Nat}{e sz:Nat}{v:Value}{vs:List (Array Value)}{F:yW→Prop}{ts:List Tk}{x:yB}{a:Option Addr}{n c:Nat}{p:Int}(h:HX w b K V ((N,69,stA x a n c p) :: post) e sz v vs F ts) (a':Option Addr) (n' c':Nat):HX w b K (V.setCell N¢1 (.slice a' n' c')) ((N,69,stA x a' n' c' p) :: post) e sz v vs F ts:=by
 have h':=HX.setA (pre:=[]) h 1 (.slice a' n' c')
 rw [stS_eq] at h'
 exact h'
theorem HX.stCl {w:yW}{b:Nat}{K:PK}{V:yW}{post:List (Nat × Nat × Array Value)}{N:Nat}{e sz:Nat}{v:Value}{vs:List (Array Value)}{F:yW→Prop}{ts:List Tk}{x:yB}{a:Option Addr}{n c:Nat}{p:Int}(h:HX w b K V ((N,69,stA x a n c p) :: post) e sz v vs F ts):Cl V N 1 (.slice a n c):=⟨_,_,(h.B _ List.mem_cons_self).1,rfl⟩
theorem size87':(Tryz.prog.info? 69).map (·.size)=some 3:=by kernel_rfl
theorem all3 (x:yB) (a:Option Addr) (n c:Nat) (p:Int):(stA x a n c p).all (·.oneCell')=true:=by simp [stA,Value.oneCell']
theorem all10' (r:RuleM):r.vals.all (·.oneCell')=true:=by simp [RuleM.vals,Value.oneCell']
theorem pMany_inv {α:Type}{x:yB}{part:List Tk→Option (α × List Tk)}{k:Nat}{ts:List Tk}{rest:List α}{ts':List Tk}(h:pMany x part k ts=some (rest,ts')):(pIs x ts=false∧rest = []∧ts=ts')∨(pIs x ts=true∧∃ k' a ts1 rest',k=k'+1∧part ts=some (a,ts1)∧pMany x part k' ts1=some (rest',ts')∧rest=a :: rest'):=by
 cases k with
 | zero =>
  unfold pMany at h
  by_cases hi:pIs x ts=true
  ·rw [if_pos hi] at h; cases h
  ·rw [if_neg hi] at h
   cases h
   exact .inl ⟨by simpa using hi,rfl,rfl⟩
 | succ k =>
  unfold pMany at h
  by_cases hi:pIs x ts=true
  ·rw [if_pos hi] at h
   obtain⟨q,h1,h2⟩:=opt_bind h
   obtain⟨r,h3,h4⟩:=opt_bind h2
   cases h4
   exact .inr ⟨hi,k,q.1,q.2,r.1,rfl,h1,h3,rfl⟩
  ·rw [if_neg hi] at h
   cases h
   exact .inl ⟨by simpa using hi,rfl,rfl⟩
theorem pIs_cons {x:yB}{ts:List Tk}(h:pIs x ts=true):∃ t us,ts=t :: us:=by
 cases ts with
 | nil=>cases h
 | cons t us=>exact⟨t,us,rfl⟩
theorem pState_inv {ts:List Tk}{r:StateT}{ts':List Tk}(h:pState ts=some (r,ts')):∃ t1 t2 t3 us rs te,ts=t1 :: t2 :: t3 :: us∧t1.x=Zc∧t2.k=2∧t3.x=Zg∧pMany Zd pRule 12 us=some (rs,te :: ts')∧te.x=Ze∧r=⟨t2.x,rs,t1.p⟩:=by
 unfold pState at h
 obtain⟨a,h1,h⟩:=opt_bind h
 obtain⟨b,h2,h⟩:=opt_bind h
 obtain⟨c,h3,h⟩:=opt_bind h
 obtain⟨d,h4,h⟩:=opt_bind h
 obtain⟨f,h5,h⟩:=opt_bind h
 cases h
 obtain⟨t1,rfl,k1,k1'⟩:=pTake_inv h1
 obtain⟨t2,g2,k2,k2'⟩:=pName_inv h2
 obtain⟨t3,g3,k3,_⟩:=pTake_inv h3
 obtain⟨te,g5,k5,_⟩:=pTake_inv h5
 exact⟨t1,t2,t3,c.2,d.1,te,by rw [g2,g3],k1,k2,k3,by rw [h4,← g5],k5,by rw [k1',k2']⟩
def STI (w:yW) (b:Nat) (K:PK) (N3:Nat) (x:yB) (p:Int) (te:Tk) (ts':List Tk) (al:List RuleT) (wr:yW):Prop :=
 ∃ (ds:List RuleM) (a:Option Addr) (n c:Nat) (ts2:List Tk) (rest:List RuleT),ds.length=n∧n≤12∧HX w b K wr [(N3,69,stA x a n c p),(w§,69,stA ⟨#[]⟩ none 0 0 0)] 100 10 (.slice a n c) (ds.map RuleM.vals) (fun U=>∀ d ∈ ds,RuleL U d) ts2∧pMany Zd pRule (12 - n) ts2=some (rest,te :: ts')∧ds.map RuleM.tr ++ rest=al
theorem state_l {w:yW}{b:Nat}{K:PK}{ts:List Tk}{r:StateT}{ts':List Tk}(hK:KG K) (h:Lv w b K ts) (hp:pState ts=some (r,ts')):Calls zG 141 #[zP b] w (OutL StateM.vals StateM.tr StateL b K w r ts'):=by
 obtain⟨t1,t2,t3,us,al,te,rfl,k1,k2,k3,hds,kte,rfl⟩:=pState_inv hp
 have HK:Hid (KG K):=hK
 have HT1:Hid (RgT t1):=(h.ok hK.k).r
 have HDS:Hid (pMany Zd pRule 12 us=some (al,te :: ts')):=hds
 have HTE:Hid (te.x=Ze):=kte
 have HG0:=((HX.new h 100 10).push zk 69).hid
 clear h hK hp hds kte
 obtain⟨W0,eW0⟩:∃ W,w.alloc (.cells zk 69)=W:=⟨_,rfl⟩
 rw [eW0,stZ_eq] at HG0
 have cT:=take_l HK.out HG0.out.S Zc (by decide +kernel) k1
 clear k1
 go_enter Tryz.func141,Tryz.ntmps141
 go_wp2_with fail
 try rw [eW0]
 refine cT.mono ?_
 rintro e w1 ⟨rfl,hs,hm⟩
 have HG1:=((HG0.out.mv hm hs).push #[yQ,.slice none 0 0,zI t1.p] 69).hid
 clear cT hs hm HG0 eW0
 go_upto_region 2 with fail
 obtain⟨N3,eN3⟩:∃ q,w1§=q:=⟨_,rfl⟩
 obtain⟨W1,eW1⟩:∃ W,w1.alloc (.cells #[yQ,.slice none 0 0,zI t1.p] 69)=W:=⟨_,rfl⟩
 rw [eW1,eN3,stZ_eq] at HG1
 rw [eW1,eN3]
 clear eW1 eN3
 generalize Value.agg #[yQ,.slice none 0 0,zI t1.p]=D0
 have HT2:Hid (RgT t2):=(HG1.out.S.ok HK.out.k).r
 have cN:=name_l HG1.out.S k2
 clear k2
 go_wp2_with fail
 refine cN.mono ?_
 rintro e wn ⟨rfl,hs,hm⟩
 have HN1:=(HG1.out.mv hm hs).hid
 obtain⟨v1,c1,f1⟩:=HX.cellA (pre:=[]) HN1.out 0 (by show 0 < 3; omega)
 have HN2:=(HN1.out.stX t2.x).hid
 clear cN hs hm HG1
 go_upto_region 3 with fail
 generalize hY:World.setCell _ _ _=Yx
 rw [hY] at HN2
 clear hY c1 f1 HN1
 have cT:=take_l HK.out HN2.out.S Zg (by decide +kernel) k3
 go_wp2_with fail
 refine cT.mono ?_
 rintro e w2 ⟨rfl,hs,hm⟩
 have HG2:=(HN2.out.mv hm hs).hid
 clear cT hs hm HN2 k3
 have HI0:Hid (STI w b K N3 t2.x t1.p te ts' al w2):=⟨[],none,0,0,us,al,rfl,by omega,HG2.out.imp fun U hU=>(fun d hd=>by simp at hd),HDS.out,rfl⟩
 clear HG2 HDS
 go_wp2_with fail
 go_loopw [4,5,6] (fun _ _ _ wr=>Hid (STI w b K N3 t2.x t1.p te ts' al wr)) (fun _ _ _ wr=>12 - clen N3 1 wr)
 case atStart=>exact HI0
 case round =>
  obtain⟨ds,a,n,c,ts2,rest,hn,hn7,hx,hpd,hal⟩:=hrel.out
  have HL:=hx.hid
  have HNN:Hid (ds.length=n):=hn
  have HAL:Hid (ds.map RuleM.tr ++ rest=al):=hal
  have HMS:Hid (clen N3 1 wr=n):=hx.stCl.clen
  rcases pMany_inv hpd with ⟨hi,hre,e2⟩ | ⟨hi,k',dt,ts1,rest',hk',hpo,hpd',hre⟩
  ·have HRE:Hid (ds.map RuleM.tr=al):=by show _=_; rw [← hal,hre,List.append_nil]
   subst e2
   have cI:=is_l HK.out hx.S Zd (by decide +kernel) hi
   clear hx hrel hpd hal hn HI0 hi hre HAL
   go_wp2_with fail
   refine cI.mono ?_
   rintro e z1 ⟨rfl,hb⟩
   have HL9:=(HL.out.on hb).hid
   have cT:=take_l HK.out HL9.out.S Ze (by decide +kernel) HTE.out
   clear cI hb HL
   go_wp2_with fail
   refine cT.mono ?_
   rintro e z9 ⟨rfl,hs,hm⟩
   have HL10:=(HL9.out.mv hm hs).hid
   clear cT hs hm HL9
   obtain⟨a9,c9,e9,HE⟩:=HL10.out.retire 0 0
   injection e9 with e91 e92 e93
   subst e91 e93
   have HC:Hid (z9.heap[N3]? = (zC (stA t2.x a n c t1.p) 69)):=(HE.B _ List.mem_cons_self).1
   have HO:Hid (z9.heap[w§]? = (zC (stA ⟨#[]⟩ none 0 0 0) 69)):=(HE.B _ (List.mem_cons_of_mem _ List.mem_cons_self)).1
   have HF:=(HX.rowA (pre:=[_]) HE (stA t2.x a n c t1.p)).hid
   have HR:Hid ((z9.setRow w§ (stA t2.x a n c t1.p)).heap[w§]? = (zC (stA t2.x a n c t1.p) 69)):=(HF.out.B _ (List.mem_cons_of_mem _ List.mem_cons_self)).1
   clear HE HL10
   go_wp2_with (first | (refine wpList_load_row rfl 69 (.tmp 3) rfl N3 rfl 69 (stA t2.x a n c t1.p) (0,0) _ HC.out Tryz.underlying69 rfl size87' ?_) | (refine wpList_store_row rfl 69 (.tmp 2) (.tmp 36) rfl w§ (stA t2.x a n c t1.p) rfl rfl 69 _ HO.out size87' rfl (all3 ..) ?_))
   have hval:StateM.vals ⟨t2.x,a,c,ds,t1.p⟩=stA t2.x a n c t1.p:=by rw [stA_vals]; show stA t2.x _ ds.length _ _=_; rw [HNN.out]
   refine bodyPost_ret (results_cell_row rfl _ _ w§ 69 (stA t2.x a n c t1.p) (0,0) _ rfl HR.out Tryz.underlying69 rfl size87') rfl ⟨⟨t2.x,a,c,ds,t1.p⟩,by rw [hval],?_,HF.out.fin.1.imp fun U hU=>⟨hU.2,hU.1,⟨HT1.out.p0,HT1.out.p1⟩,HT2.out.x1⟩,HF.out.S,HF.out.M⟩
   show StateT.mk t2.x (ds.map RuleM.tr) t1.p=_
   rw [HRE.out]
  ·obtain⟨u,us2,rfl⟩:=pIs_cons hi
   have cI:=is_l HK.out hx.S Zd (by decide +kernel) hi
   have HPO:Hid (pRule (u :: us2)=some (dt,ts1)∧pMany Zd pRule k' ts1=some (rest',te :: ts')∧rest=dt :: rest'):=⟨hpo,hpd',hre⟩
   have k8:=hx.stCl.cell
   clear hx hrel hpd hal hn HI0 hi hre hpo hpd'
   go_wp2_with fail
   refine cI.mono ?_
   rintro e z1 ⟨rfl,hb⟩
   have HL9:=(HL.out.on hb).hid
   clear k8
   have k8:=HL9.out.stCl.cell
   have cM:=many_ok HL9.out.S n 12 (by omega) (by omega)
   clear cI hb HL
   go_wp2_with fail
   refine cM.mono ?_
   rintro e z2 ⟨rfl,e2⟩
   obtain rfl:=e2.symm
   clear cM e2 k8
   have cD:=rule_l HK.out HL9.out.S HPO.out.1
   go_wp2_with fail
   refine cD.mono ?_
   rintro e w3 ⟨dm,rfl,htr,hdp,hs,hm⟩
   have HDT:Hid (dm.tr=dt):=htr
   have HLp:=((HL9.out.add hm hs hdp).push zg 100).hid
   have HL4:=(HX.rowA (pre:=[]) HLp.out dm.vals).hid
   have HZ:Hid ((w3.alloc (.cells zg 100)).heap[w3§]? = (zC zg 100)):=heap_new _ _
   clear cD hs hm htr hdp HL9 HLp
   go_upto_region 9 with (refine wpList_store_row rfl 100 (.tmp 6) (.tmp 27) rfl w3§ dm.vals rfl rfl 100 zg HZ.out size106' rfl (all10' dm) ?_)
   generalize hW4:World.setRow _ _ _=W4
   rw [hW4] at HL4
   obtain⟨N4,eN4⟩:∃ q,w3§=q:=⟨_,rfl⟩
   rw [eN4] at HL4 ⊢
   clear eN4 HZ hW4
   have HN4:Hid (W4.heap[N4]? = (zC dm.vals 100)):=(HL4.out.B _ List.mem_cons_self).1
   have k8:W4.cell? N3¢1=some (.slice a n c):=cell_of (HL4.out.B _ (List.mem_cons_of_mem _ List.mem_cons_self)).1 1
   go_wp2_with (first | (refine wpList_load_row rfl 100 (.tmp 6) rfl N4 rfl 100 dm.vals (0,0) _ HN4.out Tryz.underlying100 rfl size106' ?_) | (refine wpList_slice1 rfl 67 100 (.tmp 30) rfl dm.vals rfl 10 _ Tryz.underlying67 104 inf106 rfl rfl (by decide) (by decide) ?_) | (at_builtin; refine app_h HL4.out 67 dm.vals rfl (all10' dm) _ 104 Tryz.underlying67 inf106 rfl (by decide) (by rw [List.length_map,HNN.out]; omega) (by decide) rfl (.tmp 29) (.tmp 31) rfl rfl rfl ?_; intro g7 cap7 w7 hl7; rw [List.length_map,HNN.out] at hl7 ⊢; have HL7:=hl7.pop.hid; obtain⟨av8,ac8,af8⟩:=HX.cellA (pre:=[]) HL7.out 1 (by show 1 < 3; omega); clear hl7))
   have HL8:=(HL7.out.stS (some g7¢0) (n+1) cap7).hid
   have HX8:Hid (HX w b K (w7.setCell N3¢1 (.slice (some g7¢0) (n+1) cap7)) [(N3,69,stA t2.x (some g7¢0) (n+1) cap7 t1.p),(w§,69,stA ⟨#[]⟩ none 0 0 0)] 100 10 (.slice (some g7¢0) (n+1) cap7) ((ds ++ [dm]).map RuleM.vals) (fun U=>∀ d ∈ ds ++ [dm],RuleL U d) ts1):=by
    rw [List.map_append]
    refine HL8.out.imp fun U hU d hd=>?_
    rcases List.mem_append.1 hd with hd | hd
    ·exact hU.1 d hd
    ·rw [List.mem_singleton.1 hd]; exact hU.2
   refine⟨?_,?_⟩
   ·exact⟨ds ++ [dm],_,n+1,cap7,ts1,rest',by rw [List.length_append,HNN.out]; rfl,by omega,HX8.out,by rw [show 12 - (n+1)=k' by omega]; exact HPO.out.2.1,by rw [← HAL.out,HPO.out.2.2,List.map_append,List.map_singleton,HDT.out]; simp⟩
   ·rw [HMS.out,HX8.out.stCl.clen]; omega
theorem pSlot_inv {ts:List Tk}{r:SlotT}{ts':List Tk}(h:pSlot ts=some (r,ts')):∃ t1 t2 t3,ts=t1 :: t2 :: t3 :: ts'∧t1.x=Za∧t2.k=2∧t3.x=Z9∧r=⟨t2.x,t1.p⟩:=by
 unfold pSlot at h
 obtain⟨a,h1,h⟩:=opt_bind h
 obtain⟨b,h2,h⟩:=opt_bind h
 obtain⟨c,h3,h⟩:=opt_bind h
 cases h
 obtain⟨t1,rfl,k1,k1'⟩:=pTake_inv h1
 obtain⟨t2,g2,k2,k2'⟩:=pName_inv h2
 obtain⟨t3,g3,k3,_⟩:=pTake_inv h3
 exact⟨t1,t2,t3,by rw [g2,g3],k1,k2,k3,by rw [k1',k2']⟩
theorem all2 (r:SlotM):r.vals.all (·.oneCell')=true:=by simp [SlotM.vals,Value.oneCell']
theorem size102':(Tryz.prog.info? 129).map (·.size)=some 2:=by kernel_rfl
theorem slX_eq (x x':yB) (p:Int):(#[.string x,zI p]:Array Value).setIfInBounds 0 (.string x')=SlotM.vals ⟨x',p⟩:=by kernel_rfl
def SLI (w:yW) (b:Nat) (K:PK) (te:Tk) (ts':List Tk) (al:List SlotT) (t:Value) (wr:yW):Prop :=
 ∃ (ds:List SlotM) (a:Option Addr) (n c:Nat) (ts2:List Tk) (rest:List SlotT),t=.slice a n c∧ds.length=n∧n≤4∧HX w b K wr [] 129 2 (.slice a n c) (ds.map SlotM.vals) (fun _=>True) ts2∧(∀ d ∈ ds,SlotL d)∧pMany Za pSlot (4 - n) ts2=some (rest,te :: ts')∧ds.map SlotM.tr ++ rest=al
theorem slots_l {w:yW}{b:Nat}{K:PK}{ts:List Tk}{al:List SlotT}{te:Tk}{ts':List Tk}(hK:KG K) (h:Lv w b K ts) (hp:pMany Za pSlot 4 ts=some (al,te :: ts')):Calls zG 140 #[zP b] w fun e w'=>∃ (ds:List SlotM) (a:Option Addr) (c:Nat),e=.returned (.slice a ds.length c)∧ds.map SlotM.tr=al∧(∀ d ∈ ds,SlotL d)∧Dp w w' (fun U=>SlAt U 2 a c (ds.map SlotM.vals))∧Lv w' b K (te :: ts')∧Mv w w' (fun k=>k=b):=by
 have HK:Hid (KG K):=hK
 have HI0:Hid (SLI w b K te ts' al (.slice none 0 0) w):=⟨[],none,0,0,ts,al,rfl,rfl,by omega,HX.new h 129 2,(fun d hd=>by simp at hd),hp,rfl⟩
 clear h hK hp
 go_enter Tryz.func140,Tryz.ntmps140
 go_wp2_with fail
 go_loopw [3,4,5,6] (fun t _ _ _ wr=>Hid (SLI w b K te ts' al t wr)) (fun t _ _ _ _=>4 - slen t)
 case atStart=>exact HI0
 case round =>
  obtain⟨ds,a,n,c,ts2,rest,rfl,hn,hn7,hx,hsl,hpd,hal⟩:=hrel.out
  have HL:=hx.hid
  have HNN:Hid (ds.length=n):=hn
  have HAL:Hid (ds.map SlotM.tr ++ rest=al):=hal
  have HSL:Hid (∀ d ∈ ds,SlotL d):=hsl
  rcases pMany_inv hpd with ⟨hi,hre,e2⟩ | ⟨hi,k',dt,ts1,rest',hk',hpo,hpd',hre⟩
  ·have HRE:Hid (ds.map SlotM.tr=al):=by show _=_; rw [← hal,hre,List.append_nil]
   subst e2
   have cI:=is_l HK.out hx.S Za (by decide +kernel) hi
   clear hx hrel hpd hal hn HI0 hi hre HAL hsl
   go_wp2_with fail
   refine cI.mono ?_
   rintro e z1 ⟨rfl,hb⟩
   have HL9:=(HL.out.on hb).hid
   clear cI hb HL
   go_wp2_with fail
   go_ret
   obtain⟨a9,c9,e9,HE⟩:=HL9.out.retire 0 0
   injection e9 with e91 e92 e93
   subst e91 e93
   exact⟨ds,a,c,by rw [HNN.out]; rfl,HRE.out,HSL.out,HE.fin.1.imp fun U hU=>hU.2,HE.S,HE.M⟩
  ·obtain⟨t1,t2,t3,rfl,k1,k2,k3,hdt⟩:=pSlot_inv hpo
   have cI:=is_l HK.out hx.S Za (by decide +kernel) hi
   have HPO:Hid (pMany Za pSlot k' ts1=some (rest',te :: ts')∧rest=dt :: rest'∧dt=⟨t2.x,t1.p⟩):=⟨hpd',hre,hdt⟩
   clear hx hrel hpd hal hn HI0 hi hre hpo hpd' hsl hdt
   go_wp2_with fail
   refine cI.mono ?_
   rintro e z1 ⟨rfl,hb⟩
   have HL9:=(HL.out.on hb).hid
   have cM:=many_ok HL9.out.S n 4 (by omega) (by omega)
   clear cI hb HL
   go_wp2_with fail
   refine cM.mono ?_
   rintro e z2 ⟨rfl,e2⟩
   obtain rfl:=e2.symm
   clear cM e2
   have HT1:Hid (RgT t1):=(HL9.out.S.ok HK.out.k).r
   have cT:=take_l HK.out HL9.out.S Za (by decide +kernel) k1
   clear k1
   go_wp2_with fail
   refine cT.mono ?_
   rintro e w1 ⟨rfl,hs,hm⟩
   have HG1:=((HL9.out.mv hm hs).push #[yQ,zI t1.p] 129).hid
   clear cT hs hm HL9
   go_upto_region 9 with fail
   obtain⟨N3,eN3⟩:∃ q,w1§=q:=⟨_,rfl⟩
   obtain⟨W1,eW1⟩:∃ W,w1.alloc (.cells #[yQ,zI t1.p] 129)=W:=⟨_,rfl⟩
   rw [eW1,eN3] at HG1
   rw [eW1,eN3]
   clear eW1 eN3
   have HT2:Hid (RgT t2):=(HG1.out.S.ok HK.out.k).r
   have cN:=name_l HG1.out.S k2
   clear k2
   go_wp2_with fail
   refine cN.mono ?_
   rintro e wn ⟨rfl,hs,hm⟩
   have HN1:=(HG1.out.mv hm hs).hid
   obtain⟨v1,c1,f1⟩:=HX.cellA (pre:=[]) HN1.out 0 (by show 0 < 2; omega)
   have HN2:=(HX.setA (pre:=[]) HN1.out 0 (.string t2.x)).hid
   rw [slX_eq] at HN2
   clear cN hs hm HG1
   go_upto_region 10 with fail
   generalize hY:World.setCell _ _ _=Yx
   rw [hY] at HN2
   clear hY c1 f1 HN1
   have cT:=take_l HK.out HN2.out.S Z9 (by decide +kernel) k3
   go_wp2_with fail
   refine cT.mono ?_
   rintro e w2 ⟨rfl,hs,hm⟩
   have HG2:=(HN2.out.mv hm hs).hid
   clear cT hs hm HN2 k3
   have HN4:Hid (w2.heap[N3]? = (zC (SlotM.vals ⟨t2.x,t1.p⟩) 129)):=(HG2.out.B _ List.mem_cons_self).1
   go_wp2_with (first | (refine wpList_load_row rfl 129 (.tmp 6) rfl N3 rfl 129 (SlotM.vals ⟨t2.x,t1.p⟩) (0,0) _ HN4.out Tryz.underlying129 rfl size102' ?_) | (refine wpList_slice1 rfl 23 129 (.tmp 28) rfl (SlotM.vals ⟨t2.x,t1.p⟩) rfl 2 _ Tryz.underlying23 24 inf102 rfl rfl (by decide) (by decide) ?_) | (at_builtin; refine app_h HG2.out 23 (SlotM.vals ⟨t2.x,t1.p⟩) rfl (all2 _) _ 24 Tryz.underlying23 inf102 rfl (by decide) (by rw [List.length_map,HNN.out]; omega) (by decide) rfl (.tmp 27) (.tmp 29) rfl rfl rfl ?_; intro g7 cap7 w7 hl7; rw [List.length_map,HNN.out] at hl7 ⊢; have HL7:=hl7.pop.hid; clear hl7))
   have HX8:Hid (HX w b K w7 [] 129 2 (.slice (some g7¢0) (n+1) cap7) ((ds ++ [(⟨t2.x,t1.p⟩:SlotM)]).map SlotM.vals) (fun _=>True) ts1):=by
    rw [List.map_append]
    exact HL7.out
   refine⟨?_,?_⟩
   ·refine⟨ds ++ [(⟨t2.x,t1.p⟩:SlotM)],_,n+1,cap7,ts1,rest',rfl,by rw [List.length_append,HNN.out]; rfl,by omega,HX8.out,fun d hd=>?_,by rw [show 4 - (n+1)=k' by omega]; exact HPO.out.1,by rw [← HAL.out,HPO.out.2.1,HPO.out.2.2,List.map_append,List.map_singleton]; simp [SlotM.tr]⟩
    rcases List.mem_append.1 hd with hd | hd
    ·exact HSL.out d hd
    ·rw [List.mem_singleton.1 hd]; exact⟨⟨HT1.out.p0,HT1.out.p1⟩,HT2.out.x1⟩
   ·simp only [slen]; omega
end Go.Proofs.YtfbjofnaghjmeaaGreatDoor
