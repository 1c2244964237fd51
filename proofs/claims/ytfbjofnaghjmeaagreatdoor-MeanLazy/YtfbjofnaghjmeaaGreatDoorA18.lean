import Derived.Test.YtfbjofnaghjmeaaGreatDoorA17
namespace Go.Proofs.YtfbjofnaghjmeaaGreatDoor
open Go.Proofs.Tryz
set_option maxRecDepth 100000
set_option maxHeartbeats 8000000
open Go.RowKit
set_option linter.unusedVariables false
def rlA (m:Nd) (a:Option Addr) (n c:Nat) (p:Int):Array Value:=#[zU m.h.k,zU m.h.o,zU m.h.t,zI m.h.n,zU m.h.f,.string m.h.x,.slice m.a m.ks.length m.c,zI m.h.p,.slice a n c,zI p]
theorem QdG (r:Qy):r.vals=rlA r.m r.a r.ds.length r.c r.p:=rfl
theorem QdF (p:Int):#[zU 0,zU 0,zU 0,zI 0,zU 0,yQ,zO,zI 0,zO,zI p]=rlA nd00 none 0 0 p:=rfl
theorem QhJ (m m':Nd) (a:Option Addr) (n c:Nat) (p:Int):set8 (rlA m a n c p) 0 m'=rlA m' a n c p:=by kernel_rfl
theorem QhI (m:Nd) (a a':Option Addr) (n n' c c':Nat) (p:Int):(rlA m a n c p).setIfInBounds 8 (.slice a' n' c')=rlA m a' n' c' p:=by kernel_rfl
theorem HX.rlMS {w:yW}{b:Nat}{K:PK}{V:yW}{post:List (Nat × Nat × Array Value)}{N:Nat}{e sz:Nat}{v:Value}{vs:List (Array Value)}{F:yW→Prop}{ts:List Tk}{m:Nd}{a:Option Addr}{n c:Nat}{p:Int}(h:HX w b K V ((N,100,rlA m a n c p) :: post) e sz v vs F ts) (m':Nd):HX w b K (V.setCells N 0 m'.vals.toList) ((N,100,rlA m' a n c p) :: post) e sz v vs F ts:=by
 rw [J8]
 have h':=HX.nodeA (pre:=[]) h 0 m'
 rw [QhJ] at h'
 exact h'
theorem HX.rlS {w:yW}{b:Nat}{K:PK}{V:yW}{post:List (Nat × Nat × Array Value)}{N:Nat}{e sz:Nat}{v:Value}{vs:List (Array Value)}{F:yW→Prop}{ts:List Tk}{m:Nd}{a:Option Addr}{n c:Nat}{p:Int}(h:HX w b K V ((N,100,rlA m a n c p) :: post) e sz v vs F ts) (a':Option Addr) (n' c':Nat):HX w b K (V.setCell N¢8 (.slice a' n' c')) ((N,100,rlA m a' n' c' p) :: post) e sz v vs F ts:=by
 have h':=HX.setA (pre:=[]) h 8 (.slice a' n' c')
 rw [QhI] at h'
 exact h'
theorem HX.doT0 {w:yW}{b:Nat}{K:PK}{V:yW}{post:List (Nat × Nat × Array Value)}{N:Nat}{e sz:Nat}{v:Value}{vs:List (Array Value)}{F:yW→Prop}{ts:List Tk}{m:Nd}{a:Option Addr}{n c:Nat}{p:Int}(h:HX w b K V ((N,100,rlA m a n c p) :: post) e sz v vs F ts) (i:Nat) (hi:i+8≤10):V.there N i 8:=HX.thereA (pre:=[]) h i 8 hi
theorem HX.rlCl {w:yW}{b:Nat}{K:PK}{V:yW}{post:List (Nat × Nat × Array Value)}{N:Nat}{e sz:Nat}{v:Value}{vs:List (Array Value)}{F:yW→Prop}{ts:List Tk}{m:Nd}{a:Option Addr}{n c:Nat}{p:Int}(h:HX w b K V ((N,100,rlA m a n c p) :: post) e sz v vs F ts):Cl V N 8 (.slice a n c):=⟨_,_,(h.B _ List.mem_cons_self).1,rfl⟩
theorem Q7:(Tryz.prog.info? 100).map (·.size)=some 10:=by kernel_rfl
theorem all10 (m:Nd) (a:Option Addr) (n c:Nat) (p:Int):(rlA m a n c p).all (·.oneCell')=true:=by simp [rlA,Value.oneCell']
theorem QdZ {k:Nat}{ts:List Tk}{rest:List DoT}{te:Tk}{ts':List Tk}(h:pDos k ts=some (rest,te :: ts')):∃ d u us,pDo ts=some (d,u :: us)∧((¬ u.x=Z8∧rest = [d]∧u=te∧us=ts')∨(u.x=Z8∧∃ k' rest',k=k'+1∧pDos k' us=some (rest',te :: ts')∧rest=d :: rest')):=by
 have key:∀ {q:DoT × List Tk},pIs Z8 q.2=true→∃ u us,q.2=u :: us∧u.x=Z8:=by
  intro q hq
  cases hc:q.2 with
  | nil=>rw [hc] at hq;cases hq
  | cons u us=>rw [hc] at hq;exact⟨u,us,rfl,of_decide_eq_true hq⟩
 cases k with
 | zero =>
  unfold pDos at h
  obtain⟨q,h1,h2⟩:=Qo h
  by_cases hi:pIs Z8 q.2=true
  ·rw [if_pos hi] at h2;cases h2
  ·rw [if_neg hi] at h2
   obtain⟨e1,e2⟩:=Prod.mk.inj (Option.some.inj h2)
   refine⟨q.1,te,ts',by rw [h1,← e2],.inl ⟨fun e=>hi ?_,e1.symm,rfl,rfl⟩⟩
   rw [e2];exact decide_eq_true e
 | succ k =>
  unfold pDos at h
  obtain⟨q,h1,h2⟩:=Qo h
  by_cases hi:pIs Z8 q.2=true
  ·rw [if_pos hi] at h2
   obtain⟨u,us,e,hx⟩:=key hi
   obtain⟨r,h3,h4⟩:=Qo h2
   obtain⟨e1,e2⟩:=Prod.mk.inj (Option.some.inj h4)
   rw [e] at h3
   simp only [List.tail_cons] at h3
   exact⟨q.1,u,us,by rw [h1,← e],.inr ⟨hx,k,r.1,rfl,by rw [h3,← e2],e1.symm⟩⟩
  ·rw [if_neg hi] at h2
   obtain⟨e1,e2⟩:=Prod.mk.inj (Option.some.inj h2)
   refine⟨q.1,te,ts',by rw [h1,← e2],.inl ⟨fun e=>hi ?_,e1.symm,rfl,rfl⟩⟩
   rw [e2];exact decide_eq_true e
theorem Qcd {ts:List Tk}{r:Ur}{ts':List Tk}(h:UK ts=some (r,ts')):∃ t1 a1 as1 m t2 us2 ds te,ts=t1 :: a1 :: as1∧t1.x=Zd∧pEx (a1 :: as1)=some (m,t2 :: us2)∧t2.x=⟨#[100,111]⟩∧pDos 7 us2=some (ds,te :: ts')∧te.x=Z9∧r=⟨m,ds,t1.p⟩:=by
 unfold UK at h
 obtain⟨a,h1,h⟩:=Qo h
 obtain⟨b,h2,h⟩:=Qo h
 obtain⟨c,h3,h⟩:=Qo h
 obtain⟨d,h4,h⟩:=Qo h
 obtain⟨f,h5,h⟩:=Qo h
 cases h
 obtain⟨t1,rfl,k1,k1'⟩:=QL h1
 obtain⟨a1,as1,e1⟩:=Xh h2
 obtain⟨t2,g3,k3,_⟩:=QL h3
 obtain⟨te,g5,k5,_⟩:=QL h5
 exact⟨t1,a1,as1,b.1,t2,c.2,d.1,te,by rw [e1],k1,by rw [← e1,h2,← g3],k3,by rw [h4,← g5],k5,by rw [k1']⟩
def RLI (w:yW) (b:Nat) (K:PK) (N3:Nat) (m:Nd) (p:Int) (te:Tk) (ts':List Tk) (al:List DoT) (wr:yW):Prop :=
 ∃ (ds:List DoM) (a:Option Addr) (n c:Nat) (ts2:List Tk) (rest:List DoT),ds.length=n∧n≤7∧HX w b K wr [(N3,100,rlA m a n c p),(w§,100,rlA nd00 none 0 0 0)] 121 36 (.slice a n c) (ds.map DoM.vals) (fun U=>Lies U m∧∀ d ∈ ds,DoL U d) ts2∧pDos (7 - n) ts2=some (rest,te :: ts')∧ds.map DoM.tr ++ rest=al
theorem QhG {w:yW}{b:Nat}{K:PK}{ts:List Tk}{r:Ur}{ts':List Tk}(hK:KG K) (h:Lv w b K ts) (hp:UK ts=some (r,ts')):Calls zG 176 #[zP b] w (OutL Qy.vals Qy.tr J5 b K w r ts'):=by
 obtain⟨t1,a1,as1,m0,t2,us2,al,te,rfl,k1,h1,k2,hds,kte,rfl⟩:=Qcd hp
 have HK:Hid (KG K):=hK
 have HT1:Hid (RgT t1):=(h.ok hK.k).r
 have HDS:=zH hds
 have HTE:Hid (te.x=Z9):=kte
 have HG0:=((HX.new h 121 36).push zh 100).hid
 clear h hK hp hds kte
 obtain⟨W0,eW0⟩:∃ W,w.alloc (.cells zh 100)=W:=jV
 rw [eW0,QdF] at HG0
 have cT:=Jr HK.out HG0.out.S Zd (by decide +kernel) k1
 clear k1
 go_enter func176,ntmps176
 go_wp2_with fail
 try rw [eW0]
 refine cT.mono ?_
 rintro e w1 ⟨rfl,hs,hm⟩
 have HG1:=((HG0.out.mv hm hs).push #[zU 0,zU 0,zU 0,zI 0,zU 0,yQ,zO,zI 0,zO,zI t1.p] 100).hid
 clear cT hs hm HG0 eW0
 go_upto_region 2 with fail
 obtain⟨N3,eN3⟩:∃ q,w1§=q:=jV
 obtain⟨W1,eW1⟩:∃ W,w1.alloc (.cells #[zU 0,zU 0,zU 0,zI 0,zU 0,yQ,zO,zI 0,zO,zI t1.p] 100)=W:=jV
 rw [eW1,eN3,QdF] at HG1
 rw [eW1,eN3]
 clear eW1 eN3
 generalize Value.agg #[zU 0,zU 0,zU 0,zI 0,zU 0,yQ,zO,zI 0,zO,zI t1.p]=D0
 have cE:=Vo HK.out HG1.out.S h1
 go_wp2_with fail
 refine cE.mono ?_
 rintro e ua1 ⟨m1,rfl,htr,hdp,hs,hm⟩
 have HM1:Hid (Qs m1=_):=htr
 have HA1:=(HG1.out.add hm hs hdp).hid
 have HB1:=(HA1.out.rlMS m1).hid
 clear cE hs hm htr hdp HG1 h1
 go_upto_region 3 with (refine wpList_store_mid rfl 38 (.tmp 12) (.tmp 11) rfl N3 0 m1.vals rfl rfl (HA1.out.doT0 0 zY) Qj (all8 m1) ?_)
 generalize hY:World.setCells _ _ _ _=Y1
 rw [hY] at HB1
 clear hY HA1
 have cT:=Jr HK.out HB1.out.S ⟨#[100,111]⟩ (by decide +kernel) k2
 go_wp2_with fail
 refine cT.mono ?_
 rintro e w2 ⟨rfl,hs,hm⟩
 have HG2:=(HB1.out.mv hm hs).hid
 clear cT hs hm HB1 k2
 generalize Value.agg m1.vals=D1
 have HI0:Hid (RLI w b K N3 m1 t1.p te ts' al w2):=⟨[],none,0,0,us2,al,rfl,by omega,HG2.out.imp fun U hU=>⟨hU.2,fun d hd=>by simp at hd⟩,HDS.out,rfl⟩
 clear HG2 HDS
 go_wp2_with fail
 go_loopw [4,5,6] (fun _ _ _ wr=>Hid (RLI w b K N3 m1 t1.p te ts' al wr)) (fun _ _ _ wr=>7 - clen N3 8 wr)
 case atStart=>exact HI0
 case round =>
  obtain⟨ds,a,n,c,ts2,rest,hn,hn7,hx,hpd,hal⟩:=hrel.out
  have HL:=hx.hid
  have HNN:Hid (ds.length=n):=hn
  have HAL:=zH hal
  have HMS:Hid (clen N3 8 wr=n):=hx.rlCl.clen
  obtain⟨dt,u,us,hpo,hor⟩:=QdZ hpd
  have HOR:=zH hor
  have cD:=do_l HK.out hx.S hpo
  clear hx hrel hpd hpo hor hal hn HI0
  go_wp2_with fail
  refine cD.mono ?_
  rintro e w3 ⟨dm,rfl,htr,hdp,hs,hm⟩
  have HDT:Hid (dm.tr=dt):=htr
  have HLp:=((HL.out.add hm hs hdp).push (zE 0) 121).hid
  have HL4:=(HX.rowA (pre:=[]) HLp.out dm.vals).hid
  have HZ:Hid ((zA w3 (zE 0) 121).heap[w3§]? = (zC (zE 0) 121)):=Qc _ _
  clear cD hs hm htr hdp HL HLp
  go_upto_region 5 with (refine wpList_store_row rfl 121 (.tmp 4) (.tmp 16) rfl w3§ dm.vals rfl rfl 121 (zE 0) HZ.out Qt rfl (Xr ..) ?_)
  generalize hW4:World.setRow _ _ _=W4
  rw [hW4] at HL4
  obtain⟨N4,eN4⟩:∃ q,w3§=q:=jV
  rw [eN4] at HL4 ⊢
  clear eN4 HZ hW4
  have HN4:Hid (W4.heap[N4]? = (zC dm.vals 121)):=(HL4.out.B _ List.mem_cons_self).1
  have k8:zQ W4 N3¢8 (.slice a n c):=Qa (HL4.out.B _ (List.mem_cons_of_mem _ List.mem_cons_self)).1 8
  go_upto_region 6 with (first | (refine wpList_load_row rfl 121 (.tmp 4) rfl N4 rfl 121 dm.vals (0,0) _ HN4.out underlying121 rfl Qt ?_) | (refine Jb rfl 98 121 (.tmp 19) rfl dm.vals rfl 36 _ underlying98 320 QeE rfl rfl (by decide) (by decide) ?_) | (at_builtin;refine FF HL4.out 98 dm.vals rfl (Xr ..) _ 320 underlying98 QeE rfl (by decide) (by rw [List.length_map,HNN.out];omega) (by decide) rfl (.tmp 18) (.tmp 20) rfl rfl rfl ?_;intro g7 cap7 w7 hl7;rw [List.length_map,HNN.out] at hl7 ⊢;have HL7:=hl7.pop.hid;obtain⟨av8,ac8,af8⟩:=HX.cellA (pre:=[]) HL7.out 8 (by show 8 < 10;omega);clear hl7))
  have HL8:=(HL7.out.rlS (some g7¢0) (n+1) cap7).hid
  generalize hW8:World.setCell _ _ _=W8
  rw [hW8] at HL8
  clear hW8 HL7 ac8 af8 k8 HL4 HN4
  generalize Value.agg dm.vals=D4
  have HX8:Hid (HX w b K W8 [(N3,100,rlA m1 (some g7¢0) (n+1) cap7 t1.p),(w§,100,rlA nd00 none 0 0 0)] 121 36 (.slice (some g7¢0) (n+1) cap7) ((ds ++ [dm]).map DoM.vals) (fun U=>Lies U m1∧∀ d ∈ ds ++ [dm],DoL U d) (u :: us)):=by
   rw [List.map_append]
   refine HL8.out.imp fun U hU=>⟨hU.1.1,fun d hd=>?_⟩
   rcases List.mem_append.1 hd with hd | hd
   ·exact hU.1.2 d hd
   ·rw [List.mem_singleton.1 hd];exact hU.2
  clear HL8
  by_cases hc:u.x=Z8
  ·obtain⟨k',rest',hk',hpd',hre⟩:∃ k' rest',7 - n=k'+1∧pDos k' us=some (rest',te :: ts')∧rest=dt :: rest':=by
    rcases HOR.out with ⟨g,_⟩ | ⟨_,g⟩
    ·exact absurd hc g
    ·exact g
   have cI:=is_l HK.out HX8.out.S Z8 (by decide +kernel) (i:=true) (by simp only [pIs];exact decide_eq_true hc)
   have HPD:Hid (pDos (7 - (n+1)) us=some (rest',te :: ts')∧(ds ++ [dm]).map DoM.tr ++ rest'=al):=by
    refine⟨by rw [show 7 - (n+1)=k' by omega];exact hpd',?_⟩
    rw [← HAL.out,hre,List.map_append,List.map_singleton,HDT.out]
    simp
   clear hpd' hre hc HOR HAL HDT
   go_wp2_with fail
   refine cI.mono ?_
   rintro e z1 ⟨rfl,hb⟩
   have HL9:=(HX8.out.on hb).hid
   have k8:=HL9.out.rlCl.cell
   have cM:=X9 HL9.out.S (n+1) 8 zY zY
   clear cI hb HX8
   simp only [Int.natCast_add,Int.natCast_one] at cM
   go_wp2_with fail
   refine cM.mono ?_
   rintro e z2 ⟨rfl,e2⟩
   obtain rfl:=e2.symm
   clear cM e2
   obtain⟨i,c3,f3,hmx,hL,hM,_,_⟩:=HL9.out.S.at'
   have HL10:=(HL9.out.mv hM hL).hid
   clear hL hM HL9
   go_wp2_with fail
   refine⟨?_,?_⟩
   ·exact⟨ds ++ [dm],_,n+1,cap7,us,rest',by rw [List.length_append,HNN.out];rfl,by omega,HL10.out,HPD.out.1,HPD.out.2⟩
   ·rw [HMS.out,HL10.out.rlCl.clen];omega
  ·obtain⟨hre,rfl,rfl⟩:rest = [dt]∧u=te∧us=ts':=by
    rcases HOR.out with ⟨_,g⟩ | ⟨g,_⟩
    ·exact g
    ·exact absurd g hc
   have cI:=is_l HK.out HX8.out.S Z8 (by decide +kernel) (i:=false) (by simp only [pIs];exact decide_eq_false hc)
   have HPD:Hid ((ds ++ [dm]).map DoM.tr=al):=by
    show _=_
    rw [← HAL.out,hre,List.map_append,List.map_singleton,HDT.out]
   clear hre hc HOR HAL HDT
   go_wp2_with fail
   refine cI.mono ?_
   rintro e z1 ⟨rfl,hb⟩
   have HL9:=(HX8.out.on hb).hid
   have cT:=Jr HK.out HL9.out.S Z9 (by decide +kernel) HTE.out
   clear cI hb HX8
   go_wp2_with fail
   refine cT.mono ?_
   rintro e z9 ⟨rfl,hs,hm⟩
   have HL10:=(HL9.out.mv hm hs).hid
   clear cT hs hm HL9
   obtain⟨a9,c9,e9,HE⟩:=HL10.out.retire 0 0
   injection e9 with e91 e92 e93
   subst e91 e93
   have HC:Hid (z9.heap[N3]? = (zC (rlA m1 (some g7¢0) (n+1) cap7 t1.p) 100)):=(HE.B _ List.mem_cons_self).1
   have HO:Hid (z9.heap[w§]? = (zC (rlA nd00 none 0 0 0) 100)):=(HE.B _ (List.mem_cons_of_mem _ List.mem_cons_self)).1
   have HF:=(HX.rowA (pre:=[_]) HE (rlA m1 (some g7¢0) (n+1) cap7 t1.p)).hid
   have HR:Hid ((z9.setRow w§ (rlA m1 (some g7¢0) (n+1) cap7 t1.p)).heap[w§]? = (zC (rlA m1 (some g7¢0) (n+1) cap7 t1.p) 100)):=(HF.out.B _ (List.mem_cons_of_mem _ List.mem_cons_self)).1
   clear HE HL10
   go_wp2_with (first | (refine wpList_load_row rfl 100 (.tmp 3) rfl N3 rfl 100 (rlA m1 (some g7¢0) (n+1) cap7 t1.p) (0,0) _ HC.out underlying100 rfl Q7 ?_) | (refine wpList_store_row rfl 100 (.tmp 2) (.tmp 43) rfl w§ (rlA m1 (some g7¢0) (n+1) cap7 t1.p) rfl rfl 100 _ HO.out Q7 rfl (all10 ..) ?_))
   have hlen:(ds ++ [dm]).length=n+1:=by rw [List.length_append,HNN.out];rfl
   have hval:Qy.vals ⟨m1,some g7¢0,cap7,ds ++ [dm],t1.p⟩=rlA m1 (some g7¢0) (n+1) cap7 t1.p:=by rw [QdG];show rlA m1 _ (ds ++ [dm]).length _ _=_;rw [hlen]
   refine bodyPost_ret (results_cell_row rfl _ _ w§ 100 (rlA m1 (some g7¢0) (n+1) cap7 t1.p) (0,0) _ rfl HR.out underlying100 rfl Q7) rfl ⟨⟨m1,some g7¢0,cap7,ds ++ [dm],t1.p⟩,by rw [hval],?_,HF.out.fin.1.imp fun U hU=>⟨hU.1.1,hU.2,hU.1.2,⟨HT1.out.p0,HT1.out.p1⟩⟩,HF.out.S,HF.out.M⟩
   show Ur.mk (Qs m1) ((ds ++ [dm]).map DoM.tr) t1.p=_
   rw [HM1.out,HPD.out]
def stA (x:yB) (a:Option Addr) (n c:Nat) (p:Int):Array Value:=#[.string x,.slice a n c,zI p]
theorem Qdk (r:Qq):r.vals=stA r.x r.a r.rs.length r.c r.p:=rfl
theorem Qdi (p:Int):#[yQ,zO,zI p]=stA ⟨#[]⟩ none 0 0 p:=rfl
theorem Qhy (x x':yB) (a:Option Addr) (n c:Nat) (p:Int):(stA x a n c p).setIfInBounds 0 (.string x')=stA x' a n c p:=by kernel_rfl
theorem Qhz (x:yB) (a a':Option Addr) (n n' c c':Nat) (p:Int):(stA x a n c p).setIfInBounds 1 (.slice a' n' c')=stA x a' n' c' p:=by kernel_rfl
theorem HX.stX {w:yW}{b:Nat}{K:PK}{V:yW}{post:List (Nat × Nat × Array Value)}{N:Nat}{e sz:Nat}{v:Value}{vs:List (Array Value)}{F:yW→Prop}{ts:List Tk}{x:yB}{a:Option Addr}{n c:Nat}{p:Int}(h:HX w b K V ((N,69,stA x a n c p) :: post) e sz v vs F ts) (x':yB):HX w b K (V.setCell N¢0 (.string x')) ((N,69,stA x' a n c p) :: post) e sz v vs F ts:=by
 have h':=HX.setA (pre:=[]) h 0 (.string x')
 rw [Qhy] at h'
 exact h'
theorem HX.stS {w:yW}{b:Nat}{K:PK}{V:yW}{post:List (Nat × Nat × Array Value)}{N:Nat}{e sz:Nat}{v:Value}{vs:List (Array Value)}{F:yW→Prop}{ts:List Tk}{x:yB}{a:Option Addr}{n c:Nat}{p:Int}(h:HX w b K V ((N,69,stA x a n c p) :: post) e sz v vs F ts) (a':Option Addr) (n' c':Nat):HX w b K (V.setCell N¢1 (.slice a' n' c')) ((N,69,stA x a' n' c' p) :: post) e sz v vs F ts:=by
 have h':=HX.setA (pre:=[]) h 1 (.slice a' n' c')
 rw [Qhz] at h'
 exact h'
theorem HX.stCl {w:yW}{b:Nat}{K:PK}{V:yW}{post:List (Nat × Nat × Array Value)}{N:Nat}{e sz:Nat}{v:Value}{vs:List (Array Value)}{F:yW→Prop}{ts:List Tk}{x:yB}{a:Option Addr}{n c:Nat}{p:Int}(h:HX w b K V ((N,69,stA x a n c p) :: post) e sz v vs F ts):Cl V N 1 (.slice a n c):=⟨_,_,(h.B _ List.mem_cons_self).1,rfl⟩
theorem Je:(Tryz.prog.info? 69).map (·.size)=some 3:=by kernel_rfl
theorem all3 (x:yB) (a:Option Addr) (n c:Nat) (p:Int):(stA x a n c p).all (·.oneCell')=true:=by simp [stA,Value.oneCell']
theorem Vz (r:Qy):r.vals.all (·.oneCell')=true:=by simp [Qy.vals,Value.oneCell']
theorem Kx {α:Type}{x:yB}{part:List Tk→Option (α × List Tk)}{k:Nat}{ts:List Tk}{rest:List α}{ts':List Tk}(h:Ju x part k ts=some (rest,ts')):(pIs x ts=false∧rest = []∧ts=ts')∨(pIs x ts=true∧∃ k' a ts1 rest',k=k'+1∧part ts=some (a,ts1)∧Ju x part k' ts1=some (rest',ts')∧rest=a :: rest'):=by
 cases k with
 | zero =>
  unfold Ju at h
  by_cases hi:pIs x ts=true
  ·rw [if_pos hi] at h;cases h
  ·rw [if_neg hi] at h
   cases h
   exact .inl ⟨by simpa using hi,rfl,rfl⟩
 | succ k =>
  unfold Ju at h
  by_cases hi:pIs x ts=true
  ·rw [if_pos hi] at h
   obtain⟨q,h1,h2⟩:=Qo h
   obtain⟨r,h3,h4⟩:=Qo h2
   cases h4
   exact .inr ⟨hi,k,q.1,q.2,r.1,rfl,h1,h3,rfl⟩
  ·rw [if_neg hi] at h
   cases h
   exact .inl ⟨by simpa using hi,rfl,rfl⟩
theorem X5 {x:yB}{ts:List Tk}(h:pIs x ts=true):∃ t us,ts=t :: us:=by
 cases ts with
 | nil=>cases h
 | cons t us=>exact⟨t,us,rfl⟩
theorem Qan {ts:List Tk}{r:K5}{ts':List Tk}(h:Xg ts=some (r,ts')):∃ t1 t2 t3 us rs te,ts=t1 :: t2 :: t3 :: us∧t1.x=Zc∧t2.k=2∧t3.x=Zg∧Ju Zd UK 12 us=some (rs,te :: ts')∧te.x=Ze∧r=⟨t2.x,rs,t1.p⟩:=by
 unfold Xg at h
 obtain⟨a,h1,h⟩:=Qo h
 obtain⟨b,h2,h⟩:=Qo h
 obtain⟨c,h3,h⟩:=Qo h
 obtain⟨d,h4,h⟩:=Qo h
 obtain⟨f,h5,h⟩:=Qo h
 cases h
 obtain⟨t1,rfl,k1,k1'⟩:=QL h1
 obtain⟨t2,g2,k2,k2'⟩:=JJ h2
 obtain⟨t3,g3,k3,_⟩:=QL h3
 obtain⟨te,g5,k5,_⟩:=QL h5
 exact⟨t1,t2,t3,c.2,d.1,te,by rw [g2,g3],k1,k2,k3,by rw [h4,← g5],k5,by rw [k1',k2']⟩
def STI (w:yW) (b:Nat) (K:PK) (N3:Nat) (x:yB) (p:Int) (te:Tk) (ts':List Tk) (al:List Ur) (wr:yW):Prop :=
 ∃ (ds:List Qy) (a:Option Addr) (n c:Nat) (ts2:List Tk) (rest:List Ur),ds.length=n∧n≤12∧HX w b K wr [(N3,69,stA x a n c p),(w§,69,stA ⟨#[]⟩ none 0 0 0)] 100 10 (.slice a n c) (ds.map Qy.vals) (fun U=>∀ d ∈ ds,J5 U d) ts2∧Ju Zd UK (12 - n) ts2=some (rest,te :: ts')∧ds.map Qy.tr ++ rest=al
theorem QfH {w:yW}{b:Nat}{K:PK}{ts:List Tk}{r:K5}{ts':List Tk}(hK:KG K) (h:Lv w b K ts) (hp:Xg ts=some (r,ts')):Calls zG 141 #[zP b] w (OutL Qq.vals Qq.tr JX b K w r ts'):=by
 obtain⟨t1,t2,t3,us,al,te,rfl,k1,k2,k3,hds,kte,rfl⟩:=Qan hp
 have HK:Hid (KG K):=hK
 have HT1:Hid (RgT t1):=(h.ok hK.k).r
 have HDS:=zH hds
 have HTE:Hid (te.x=Ze):=kte
 have HG0:=((HX.new h 100 10).push zm 69).hid
 clear h hK hp hds kte
 obtain⟨W0,eW0⟩:∃ W,w.alloc (.cells zm 69)=W:=jV
 rw [eW0,Qdi] at HG0
 have cT:=Jr HK.out HG0.out.S Zc (by decide +kernel) k1
 clear k1
 go_enter func141,ntmps141
 go_wp2_with fail
 try rw [eW0]
 refine cT.mono ?_
 rintro e w1 ⟨rfl,hs,hm⟩
 have HG1:=((HG0.out.mv hm hs).push #[yQ,zO,zI t1.p] 69).hid
 clear cT hs hm HG0 eW0
 go_upto_region 2 with fail
 obtain⟨N3,eN3⟩:∃ q,w1§=q:=jV
 obtain⟨W1,eW1⟩:∃ W,w1.alloc (.cells #[yQ,zO,zI t1.p] 69)=W:=jV
 rw [eW1,eN3,Qdi] at HG1
 rw [eW1,eN3]
 clear eW1 eN3
 generalize Value.agg #[yQ,zO,zI t1.p]=D0
 have HT2:Hid (RgT t2):=(HG1.out.S.ok HK.out.k).r
 have cN:=Xk HG1.out.S k2
 clear k2
 go_wp2_with fail
 refine cN.mono ?_
 rintro e wn ⟨rfl,hs,hm⟩
 have HN1:=(HG1.out.mv hm hs).hid
 obtain⟨v1,c1,f1⟩:=HX.cellA (pre:=[]) HN1.out 0 (by show 0 < 3;omega)
 have HN2:=(HN1.out.stX t2.x).hid
 clear cN hs hm HG1
 go_upto_region 3 with fail
 generalize hY:World.setCell _ _ _=Yx
 rw [hY] at HN2
 clear hY c1 f1 HN1
 have cT:=Jr HK.out HN2.out.S Zg (by decide +kernel) k3
 go_wp2_with fail
 refine cT.mono ?_
 rintro e w2 ⟨rfl,hs,hm⟩
 have HG2:=(HN2.out.mv hm hs).hid
 clear cT hs hm HN2 k3
 have HI0:Hid (STI w b K N3 t2.x t1.p te ts' al w2):=⟨[],none,0,0,us,al,rfl,by omega,HG2.out.imp fun U hU=>(fun d hd=>by simp at hd),HDS.out,rfl⟩
 clear HG2 HDS
 go_wp2_with fail
 go_loopw [4,5,6] (fun _ _ _ wr=>Hid (STI w b K N3 t2.x t1.p te ts' al wr)) (fun _ _ _ wr=>12 - clen N3 1 wr)
 case atStart=>exact HI0
 case round =>
  obtain⟨ds,a,n,c,ts2,rest,hn,hn7,hx,hpd,hal⟩:=hrel.out
  have HL:=hx.hid
  have HNN:Hid (ds.length=n):=hn
  have HAL:=zH hal
  have HMS:Hid (clen N3 1 wr=n):=hx.stCl.clen
  rcases Kx hpd with ⟨hi,hre,e2⟩ | ⟨hi,k',dt,ts1,rest',hk',hpo,hpd',hre⟩
  ·have HRE:Hid (ds.map Qy.tr=al):=by show _=_;rw [← hal,hre,List.append_nil]
   subst e2
   have cI:=is_l HK.out hx.S Zd (by decide +kernel) hi
   clear hx hrel hpd hal hn HI0 hi hre HAL
   go_wp2_with fail
   refine cI.mono ?_
   rintro e z1 ⟨rfl,hb⟩
   have HL9:=(HL.out.on hb).hid
   have cT:=Jr HK.out HL9.out.S Ze (by decide +kernel) HTE.out
   clear cI hb HL
   go_wp2_with fail
   refine cT.mono ?_
   rintro e z9 ⟨rfl,hs,hm⟩
   have HL10:=(HL9.out.mv hm hs).hid
   clear cT hs hm HL9
   obtain⟨a9,c9,e9,HE⟩:=HL10.out.retire 0 0
   injection e9 with e91 e92 e93
   subst e91 e93
   have HC:Hid (z9.heap[N3]? = (zC (stA t2.x a n c t1.p) 69)):=(HE.B _ List.mem_cons_self).1
   have HO:Hid (z9.heap[w§]? = (zC (stA ⟨#[]⟩ none 0 0 0) 69)):=(HE.B _ (List.mem_cons_of_mem _ List.mem_cons_self)).1
   have HF:=(HX.rowA (pre:=[_]) HE (stA t2.x a n c t1.p)).hid
   have HR:Hid ((z9.setRow w§ (stA t2.x a n c t1.p)).heap[w§]? = (zC (stA t2.x a n c t1.p) 69)):=(HF.out.B _ (List.mem_cons_of_mem _ List.mem_cons_self)).1
   clear HE HL10
   go_wp2_with (first | (refine wpList_load_row rfl 69 (.tmp 3) rfl N3 rfl 69 (stA t2.x a n c t1.p) (0,0) _ HC.out underlying69 rfl Je ?_) | (refine wpList_store_row rfl 69 (.tmp 2) (.tmp 36) rfl w§ (stA t2.x a n c t1.p) rfl rfl 69 _ HO.out Je rfl (all3 ..) ?_))
   have hval:Qq.vals ⟨t2.x,a,c,ds,t1.p⟩=stA t2.x a n c t1.p:=by rw [Qdk];show stA t2.x _ ds.length _ _=_;rw [HNN.out]
   refine bodyPost_ret (results_cell_row rfl _ _ w§ 69 (stA t2.x a n c t1.p) (0,0) _ rfl HR.out underlying69 rfl Je) rfl ⟨⟨t2.x,a,c,ds,t1.p⟩,by rw [hval],?_,HF.out.fin.1.imp fun U hU=>⟨hU.2,hU.1,⟨HT1.out.p0,HT1.out.p1⟩,HT2.out.x1⟩,HF.out.S,HF.out.M⟩
   show K5.mk t2.x (ds.map Qy.tr) t1.p=_
   rw [HRE.out]
  ·obtain⟨u,us2,rfl⟩:=X5 hi
   have cI:=is_l HK.out hx.S Zd (by decide +kernel) hi
   have HPO:Hid (UK (u :: us2)=some (dt,ts1)∧Ju Zd UK k' ts1=some (rest',te :: ts')∧rest=dt :: rest'):=⟨hpo,hpd',hre⟩
   have k8:=hx.stCl.cell
   clear hx hrel hpd hal hn HI0 hi hre hpo hpd'
   go_wp2_with fail
   refine cI.mono ?_
   rintro e z1 ⟨rfl,hb⟩
   have HL9:=(HL.out.on hb).hid
   clear k8
   have k8:=HL9.out.stCl.cell
   have cM:=X9 HL9.out.S n 12 zY zY
   clear cI hb HL
   go_wp2_with fail
   refine cM.mono ?_
   rintro e z2 ⟨rfl,e2⟩
   obtain rfl:=e2.symm
   clear cM e2 k8
   have cD:=QhG HK.out HL9.out.S HPO.out.1
   go_wp2_with fail
   refine cD.mono ?_
   rintro e w3 ⟨dm,rfl,htr,hdp,hs,hm⟩
   have HDT:Hid (dm.tr=dt):=htr
   have HLp:=((HL9.out.add hm hs hdp).push zh 100).hid
   have HL4:=(HX.rowA (pre:=[]) HLp.out dm.vals).hid
   have HZ:Hid ((zA w3 zh 100).heap[w3§]? = (zC zh 100)):=Qc _ _
   clear cD hs hm htr hdp HL9 HLp
   go_upto_region 9 with (refine wpList_store_row rfl 100 (.tmp 6) (.tmp 27) rfl w3§ dm.vals rfl rfl 100 zh HZ.out Q7 rfl (Vz dm) ?_)
   generalize hW4:World.setRow _ _ _=W4
   rw [hW4] at HL4
   obtain⟨N4,eN4⟩:∃ q,w3§=q:=jV
   rw [eN4] at HL4 ⊢
   clear eN4 HZ hW4
   have HN4:Hid (W4.heap[N4]? = (zC dm.vals 100)):=(HL4.out.B _ List.mem_cons_self).1
   have k8:zQ W4 N3¢1 (.slice a n c):=Qa (HL4.out.B _ (List.mem_cons_of_mem _ List.mem_cons_self)).1 1
   go_wp2_with (first | (refine wpList_load_row rfl 100 (.tmp 6) rfl N4 rfl 100 dm.vals (0,0) _ HN4.out underlying100 rfl Q7 ?_) | (refine Jb rfl 67 100 (.tmp 30) rfl dm.vals rfl 10 _ underlying67 104 QeF rfl rfl (by decide) (by decide) ?_) | (at_builtin;refine FF HL4.out 67 dm.vals rfl (Vz dm) _ 104 underlying67 QeF rfl (by decide) (by rw [List.length_map,HNN.out];omega) (by decide) rfl (.tmp 29) (.tmp 31) rfl rfl rfl ?_;intro g7 cap7 w7 hl7;rw [List.length_map,HNN.out] at hl7 ⊢;have HL7:=hl7.pop.hid;obtain⟨av8,ac8,af8⟩:=HX.cellA (pre:=[]) HL7.out 1 (by show 1 < 3;omega);clear hl7))
   have HL8:=(HL7.out.stS (some g7¢0) (n+1) cap7).hid
   have HX8:Hid (HX w b K (w7.setCell N3¢1 (.slice (some g7¢0) (n+1) cap7)) [(N3,69,stA t2.x (some g7¢0) (n+1) cap7 t1.p),(w§,69,stA ⟨#[]⟩ none 0 0 0)] 100 10 (.slice (some g7¢0) (n+1) cap7) ((ds ++ [dm]).map Qy.vals) (fun U=>∀ d ∈ ds ++ [dm],J5 U d) ts1):=by
    rw [List.map_append]
    refine HL8.out.imp fun U hU d hd=>?_
    rcases List.mem_append.1 hd with hd | hd
    ·exact hU.1 d hd
    ·rw [List.mem_singleton.1 hd];exact hU.2
   refine⟨?_,?_⟩
   ·exact⟨ds ++ [dm],_,n+1,cap7,ts1,rest',by rw [List.length_append,HNN.out];rfl,by omega,HX8.out,by rw [show 12 - (n+1)=k' by omega];exact HPO.out.2.1,by rw [← HAL.out,HPO.out.2.2,List.map_append,List.map_singleton,HDT.out];simp⟩
   ·rw [HMS.out,HX8.out.stCl.clen];omega
theorem Qcc {ts:List Tk}{r:UM}{ts':List Tk}(h:U8 ts=some (r,ts')):∃ t1 t2 t3,ts=t1 :: t2 :: t3 :: ts'∧t1.x=Za∧t2.k=2∧t3.x=Z9∧r=⟨t2.x,t1.p⟩:=by
 unfold U8 at h
 obtain⟨a,h1,h⟩:=Qo h
 obtain⟨b,h2,h⟩:=Qo h
 obtain⟨c,h3,h⟩:=Qo h
 cases h
 obtain⟨t1,rfl,k1,k1'⟩:=QL h1
 obtain⟨t2,g2,k2,k2'⟩:=JJ h2
 obtain⟨t3,g3,k3,_⟩:=QL h3
 exact⟨t1,t2,t3,by rw [g2,g3],k1,k2,k3,by rw [k1',k2']⟩
theorem all2 (r:Qx):r.vals.all (·.oneCell')=true:=by simp [Qx.vals,Value.oneCell']
theorem J1:(Tryz.prog.info? 129).map (·.size)=some 2:=by kernel_rfl
theorem QhB (x x':yB) (p:Int):(#[.string x,zI p]:Array Value).setIfInBounds 0 (.string x')=Qx.vals ⟨x',p⟩:=by kernel_rfl
def SLI (w:yW) (b:Nat) (K:PK) (te:Tk) (ts':List Tk) (al:List UM) (t:Value) (wr:yW):Prop :=
 ∃ (ds:List Qx) (a:Option Addr) (n c:Nat) (ts2:List Tk) (rest:List UM),t=.slice a n c∧ds.length=n∧n≤4∧HX w b K wr [] 129 2 (.slice a n c) (ds.map Qx.vals) (fun _=>True) ts2∧(∀ d ∈ ds,UN d)∧Ju Za U8 (4 - n) ts2=some (rest,te :: ts')∧ds.map Qx.tr ++ rest=al
theorem QfK {w:yW}{b:Nat}{K:PK}{ts:List Tk}{al:List UM}{te:Tk}{ts':List Tk}(hK:KG K) (h:Lv w b K ts) (hp:Ju Za U8 4 ts=some (al,te :: ts')):Calls zG 140 #[zP b] w fun e w'=>∃ (ds:List Qx) (a:Option Addr) (c:Nat),e=.returned (.slice a ds.length c)∧ds.map Qx.tr=al∧(∀ d ∈ ds,UN d)∧Dp w w' (fun U=>SlAt U 2 a c (ds.map Qx.vals))∧Lv w' b K (te :: ts')∧Mv w w' (fun k=>k=b):=by
 have HK:Hid (KG K):=hK
 have HI0:Hid (SLI w b K te ts' al (zO) w):=⟨[],none,0,0,ts,al,rfl,rfl,by omega,HX.new h 129 2,(fun d hd=>by simp at hd),hp,rfl⟩
 clear h hK hp
 go_enter func140,ntmps140
 go_wp2_with fail
 go_loopw [3,4,5,6] (fun t _ _ _ wr=>Hid (SLI w b K te ts' al t wr)) (fun t _ _ _ _=>4 - slen t)
 case atStart=>exact HI0
 case round =>
  obtain⟨ds,a,n,c,ts2,rest,rfl,hn,hn7,hx,hsl,hpd,hal⟩:=hrel.out
  have HL:=hx.hid
  have HNN:Hid (ds.length=n):=hn
  have HAL:=zH hal
  have HSL:Hid (∀ d ∈ ds,UN d):=hsl
  rcases Kx hpd with ⟨hi,hre,e2⟩ | ⟨hi,k',dt,ts1,rest',hk',hpo,hpd',hre⟩
  ·have HRE:Hid (ds.map Qx.tr=al):=by show _=_;rw [← hal,hre,List.append_nil]
   subst e2
   have cI:=is_l HK.out hx.S Za (by decide +kernel) hi
   clear hx hrel hpd hal hn HI0 hi hre HAL hsl
   go_wp2_with fail
   refine cI.mono ?_
   rintro e z1 ⟨rfl,hb⟩
   have HL9:=(HL.out.on hb).hid
   clear cI hb HL
   go_wp2
   go_ret
   obtain⟨a9,c9,e9,HE⟩:=HL9.out.retire 0 0
   injection e9 with e91 e92 e93
   subst e91 e93
   exact⟨ds,a,c,by rw [HNN.out];rfl,HRE.out,HSL.out,HE.fin.1.imp fun U hU=>hU.2,HE.S,HE.M⟩
  ·obtain⟨t1,t2,t3,rfl,k1,k2,k3,hdt⟩:=Qcc hpo
   have cI:=is_l HK.out hx.S Za (by decide +kernel) hi
   have HPO:Hid (Ju Za U8 k' ts1=some (rest',te :: ts')∧rest=dt :: rest'∧dt=⟨t2.x,t1.p⟩):=⟨hpd',hre,hdt⟩
   clear hx hrel hpd hal hn HI0 hi hre hpo hpd' hsl hdt
   go_wp2_with fail
   refine cI.mono ?_
   rintro e z1 ⟨rfl,hb⟩
   have HL9:=(HL.out.on hb).hid
   have cM:=X9 HL9.out.S n 4 zY zY
   clear cI hb HL
   go_wp2_with fail
   refine cM.mono ?_
   rintro e z2 ⟨rfl,e2⟩
   obtain rfl:=e2.symm
   clear cM e2
   have HT1:Hid (RgT t1):=(HL9.out.S.ok HK.out.k).r
   have cT:=Jr HK.out HL9.out.S Za (by decide +kernel) k1
   clear k1
   go_wp2_with fail
   refine cT.mono ?_
   rintro e w1 ⟨rfl,hs,hm⟩
   have HG1:=((HL9.out.mv hm hs).push #[yQ,zI t1.p] 129).hid
   clear cT hs hm HL9
   go_upto_region 9 with fail
   obtain⟨N3,eN3⟩:∃ q,w1§=q:=jV
   obtain⟨W1,eW1⟩:∃ W,w1.alloc (.cells #[yQ,zI t1.p] 129)=W:=jV
   rw [eW1,eN3] at HG1
   rw [eW1,eN3]
   clear eW1 eN3
   have HT2:Hid (RgT t2):=(HG1.out.S.ok HK.out.k).r
   have cN:=Xk HG1.out.S k2
   clear k2
   go_wp2_with fail
   refine cN.mono ?_
   rintro e wn ⟨rfl,hs,hm⟩
   have HN1:=(HG1.out.mv hm hs).hid
   obtain⟨v1,c1,f1⟩:=HX.cellA (pre:=[]) HN1.out 0 (by show 0 < 2;omega)
   have HN2:=(HX.setA (pre:=[]) HN1.out 0 (.string t2.x)).hid
   rw [QhB] at HN2
   clear cN hs hm HG1
   go_upto_region 10 with fail
   generalize hY:World.setCell _ _ _=Yx
   rw [hY] at HN2
   clear hY c1 f1 HN1
   have cT:=Jr HK.out HN2.out.S Z9 (by decide +kernel) k3
   go_wp2_with fail
   refine cT.mono ?_
   rintro e w2 ⟨rfl,hs,hm⟩
   have HG2:=(HN2.out.mv hm hs).hid
   clear cT hs hm HN2 k3
   have HN4:Hid (w2.heap[N3]? = (zC (Qx.vals ⟨t2.x,t1.p⟩) 129)):=(HG2.out.B _ List.mem_cons_self).1
   go_wp2_with (first | (refine wpList_load_row rfl 129 (.tmp 6) rfl N3 rfl 129 (Qx.vals ⟨t2.x,t1.p⟩) (0,0) _ HN4.out underlying129 rfl J1 ?_) | (refine Jb rfl 23 129 (.tmp 28) rfl (Qx.vals ⟨t2.x,t1.p⟩) rfl 2 _ underlying23 24 QeG rfl rfl (by decide) (by decide) ?_) | (at_builtin;refine FF HG2.out 23 (Qx.vals ⟨t2.x,t1.p⟩) rfl (all2 _) _ 24 underlying23 QeG rfl (by decide) (by rw [List.length_map,HNN.out];omega) (by decide) rfl (.tmp 27) (.tmp 29) rfl rfl rfl ?_;intro g7 cap7 w7 hl7;rw [List.length_map,HNN.out] at hl7 ⊢;have HL7:=hl7.pop.hid;clear hl7))
   have HX8:Hid (HX w b K w7 [] 129 2 (.slice (some g7¢0) (n+1) cap7) ((ds ++ [(⟨t2.x,t1.p⟩:Qx)]).map Qx.vals) (fun _=>True) ts1):=by
    rw [List.map_append]
    exact HL7.out
   refine⟨?_,?_⟩
   ·refine⟨ds ++ [(⟨t2.x,t1.p⟩:Qx)],_,n+1,cap7,ts1,rest',rfl,by rw [List.length_append,HNN.out];rfl,by omega,HX8.out,fun d hd=>?_,by rw [show 4 - (n+1)=k' by omega];exact HPO.out.1,by rw [← HAL.out,HPO.out.2.1,HPO.out.2.2,List.map_append,List.map_singleton];simp [Qx.tr]⟩
    rcases List.mem_append.1 hd with hd | hd
    ·exact HSL.out d hd
    ·rw [List.mem_singleton.1 hd];exact⟨⟨HT1.out.p0,HT1.out.p1⟩,HT2.out.x1⟩
   ·simp only [slen];omega
set_option maxHeartbeats 16000000
def sgA (x:yB) (ra:Option Addr) (rn rc:Nat) (sa:Option Addr) (sn sc:Nat) (ta:Option Addr) (tn tc:Nat):Array Value:=#[.string x,.slice ra rn rc,.slice sa sn sc,.slice ta tn tc]
theorem FX:zk=sgA ⟨#[]⟩ none 0 0 none 0 0 none 0 0:=rfl
theorem QhC (x:yB) (ra sa ta:Option Addr) (rn rc sn sc tn tc:Nat) (x':yB):(sgA x ra rn rc sa sn sc ta tn tc).setIfInBounds 0 (.string x')=sgA x' ra rn rc sa sn sc ta tn tc:=by kernel_rfl
theorem HX.sgX {w:yW}{b:Nat}{K:PK}{V:yW}{post:List (Nat × Nat × Array Value)}{N:Nat}{e sz:Nat}{v:Value}{vs:List (Array Value)}{F:yW→Prop}{ts:List Tk}{x:yB}{ra sa ta:Option Addr}{rn rc sn sc tn tc:Nat}(h:HX w b K V ((N,26,sgA x ra rn rc sa sn sc ta tn tc) :: post) e sz v vs F ts) (x':yB):HX w b K (V.setCell N¢0 (.string x')) ((N,26,sgA x' ra rn rc sa sn sc ta tn tc) :: post) e sz v vs F ts:=by
 have h':=HX.setA (pre:=[]) h 0 (.string x')
 rw [QhC] at h'
 exact h'
theorem QhF (x:yB) (ra sa ta:Option Addr) (rn rc sn sc tn tc:Nat) (a:Option Addr) (n c:Nat):(sgA x ra rn rc sa sn sc ta tn tc).setIfInBounds 1 (.slice a n c)=sgA x a n c sa sn sc ta tn tc:=by kernel_rfl
theorem HX.sgR {w:yW}{b:Nat}{K:PK}{V:yW}{post:List (Nat × Nat × Array Value)}{N:Nat}{e sz:Nat}{v:Value}{vs:List (Array Value)}{F:yW→Prop}{ts:List Tk}{x:yB}{ra sa ta:Option Addr}{rn rc sn sc tn tc:Nat}(h:HX w b K V ((N,26,sgA x ra rn rc sa sn sc ta tn tc) :: post) e sz v vs F ts) (a:Option Addr) (n c:Nat):HX w b K (V.setCell N¢1 (.slice a n c)) ((N,26,sgA x a n c sa sn sc ta tn tc) :: post) e sz v vs F ts:=by
 have h':=HX.setA (pre:=[]) h 1 (.slice a n c)
 rw [QhF] at h'
 exact h'
theorem QhE (x:yB) (ra sa ta:Option Addr) (rn rc sn sc tn tc:Nat) (a:Option Addr) (n c:Nat):(sgA x ra rn rc sa sn sc ta tn tc).setIfInBounds 2 (.slice a n c)=sgA x ra rn rc a n c ta tn tc:=by kernel_rfl
theorem HX.sgS {w:yW}{b:Nat}{K:PK}{V:yW}{post:List (Nat × Nat × Array Value)}{N:Nat}{e sz:Nat}{v:Value}{vs:List (Array Value)}{F:yW→Prop}{ts:List Tk}{x:yB}{ra sa ta:Option Addr}{rn rc sn sc tn tc:Nat}(h:HX w b K V ((N,26,sgA x ra rn rc sa sn sc ta tn tc) :: post) e sz v vs F ts) (a:Option Addr) (n c:Nat):HX w b K (V.setCell N¢2 (.slice a n c)) ((N,26,sgA x ra rn rc a n c ta tn tc) :: post) e sz v vs F ts:=by
 have h':=HX.setA (pre:=[]) h 2 (.slice a n c)
 rw [QhE] at h'
 exact h'
theorem QhD (x:yB) (ra sa ta:Option Addr) (rn rc sn sc tn tc:Nat) (a:Option Addr) (n c:Nat):(sgA x ra rn rc sa sn sc ta tn tc).setIfInBounds 3 (.slice a n c)=sgA x ra rn rc sa sn sc a n c:=by kernel_rfl
theorem HX.sgT {w:yW}{b:Nat}{K:PK}{V:yW}{post:List (Nat × Nat × Array Value)}{N:Nat}{e sz:Nat}{v:Value}{vs:List (Array Value)}{F:yW→Prop}{ts:List Tk}{x:yB}{ra sa ta:Option Addr}{rn rc sn sc tn tc:Nat}(h:HX w b K V ((N,26,sgA x ra rn rc sa sn sc ta tn tc) :: post) e sz v vs F ts) (a:Option Addr) (n c:Nat):HX w b K (V.setCell N¢3 (.slice a n c)) ((N,26,sgA x ra rn rc sa sn sc a n c) :: post) e sz v vs F ts:=by
 have h':=HX.setA (pre:=[]) h 3 (.slice a n c)
 rw [QhD] at h'
 exact h'
theorem HX.sgC {w:yW}{b:Nat}{K:PK}{V:yW}{post:List (Nat × Nat × Array Value)}{N:Nat}{e sz:Nat}{v:Value}{vs:List (Array Value)}{F:yW→Prop}{ts:List Tk}{x:yB}{ra sa ta:Option Addr}{rn rc sn sc tn tc:Nat}(h:HX w b K V ((N,26,sgA x ra rn rc sa sn sc ta tn tc) :: post) e sz v vs F ts) (i:Nat) (hi:i < 4):∃ u,V.cell? N¢i=some u∧zS V N¢i:=HX.cellA (pre:=[]) h i hi
theorem HX.sgCl1 {w:yW}{b:Nat}{K:PK}{V:yW}{post:List (Nat × Nat × Array Value)}{N:Nat}{e sz:Nat}{v:Value}{vs:List (Array Value)}{F:yW→Prop}{ts:List Tk}{x:yB}{ra sa ta:Option Addr}{rn rc sn sc tn tc:Nat}(h:HX w b K V ((N,26,sgA x ra rn rc sa sn sc ta tn tc) :: post) e sz v vs F ts):Cl V N 1 (.slice ra rn rc):=⟨_,_,(h.B _ List.mem_cons_self).1,rfl⟩
theorem HX.sgCl3 {w:yW}{b:Nat}{K:PK}{V:yW}{post:List (Nat × Nat × Array Value)}{N:Nat}{e sz:Nat}{v:Value}{vs:List (Array Value)}{F:yW→Prop}{ts:List Tk}{x:yB}{ra sa ta:Option Addr}{rn rc sn sc tn tc:Nat}(h:HX w b K V ((N,26,sgA x ra rn rc sa sn sc ta tn tc) :: post) e sz v vs F ts):Cl V N 3 (.slice ta tn tc):=⟨_,_,(h.B _ List.mem_cons_self).1,rfl⟩
theorem J6:(Tryz.prog.info? 26).map (·.size)=some 4:=by kernel_rfl
theorem all4 (x:yB) (ra sa ta:Option Addr) (rn rc sn sc tn tc:Nat):(sgA x ra rn rc sa sn sc ta tn tc).all (·.oneCell')=true:=by simp [sgA,Value.oneCell']
theorem Hc (r:Qq):r.vals.all (·.oneCell')=true:=by simp [Qq.vals,Value.oneCell']
theorem Qce {ts:List Tk}{S:K4}{ts':List Tk}(h:P3 ts=some (S,ts')):∃ t1 t2 t3 us rs us2 ss us3 sts tg,ts=t1 :: t2 :: t3 :: us∧t1.x=Zw∧t2.k=2∧t3.x=Zg∧Ju Zb pReg 12 us=some (rs,us2)∧Ju Za U8 4 us2=some (ss,us3)∧Ju Zc Xg 12 us3=some (sts,tg :: ts')∧tg.x=Ze∧sts.length≠0∧S=⟨t2.x,rs,ss,sts⟩:=by
 unfold P3 at h
 obtain⟨a,h1,h⟩:=Qo h
 obtain⟨b,h2,h⟩:=Qo h
 obtain⟨c,h3,h⟩:=Qo h
 obtain⟨d,h4,h⟩:=Qo h
 obtain⟨f,h5,h⟩:=Qo h
 obtain⟨g,h6,h⟩:=Qo h
 obtain⟨k,h7,h⟩:=Qo h
 by_cases hl:g.1.length=0
 ·rw [if_pos hl] at h;cases h
 rw [if_neg hl] at h
 cases h
 obtain⟨t1,rfl,k1,_⟩:=QL h1
 obtain⟨t2,g2,k2,k2'⟩:=JJ h2
 obtain⟨t3,g3,k3,_⟩:=QL h3
 obtain⟨tg,g7,k7,_⟩:=QL h7
 exact⟨t1,t2,t3,c.2,d.1,d.2,f.1,f.2,g.1,tg,by rw [g2,g3],k1,k2,k3,h4,h5,by rw [h6,← g7],k7,hl,by rw [k2']⟩
theorem U9 {α:Type}{x:yB}{part:List Tk→Option (α × List Tk)}{k:Nat}{ts:List Tk}{rest:List α}{t:Tk}{ts':List Tk}(h:Ju x part k ts=some (rest,t :: ts')):∃ u us,ts=u :: us:=by
 rcases Kx h with ⟨_,_,e⟩ | ⟨e,_⟩
 ·exact⟨t,ts',e⟩
 ·exact X5 e
def RGI (w:yW) (b:Nat) (K:PK) (N3:Nat) (x:yB) (us2:List Tk) (al:List RegT) (wr:yW):Prop :=
 ∃ (ds:List RegM) (a:Option Addr) (n c:Nat) (ts2:List Tk) (rest:List RegT),ds.length=n∧n≤12∧HX w b K wr [(N3,26,sgA x a n c none 0 0 none 0 0),(w§,26,sgA ⟨#[]⟩ none 0 0 none 0 0 none 0 0)] 102 11 (.slice a n c) (ds.map RegM.vals) (fun U=>∀ d ∈ ds,RegL U d) ts2∧Ju Zb pReg (12 - n) ts2=some (rest,us2)∧ds.map RegM.tr ++ rest=al
def SSI (w:yW) (b:Nat) (K:PK) (N3:Nat) (x:yB) (ra:Option Addr) (rn rc:Nat) (sa:Option Addr) (sn sc:Nat) (F:yW→Prop) (tg:Tk) (ts':List Tk) (al:List K5) (wr:yW):Prop :=
 ∃ (ds:List Qq) (a:Option Addr) (n c:Nat) (ts2:List Tk) (rest:List K5),ds.length=n∧n≤12∧HX w b K wr [(N3,26,sgA x ra rn rc sa sn sc a n c),(w§,26,sgA ⟨#[]⟩ none 0 0 none 0 0 none 0 0)] 69 3 (.slice a n c) (ds.map Qq.vals) (fun U=>F U∧∀ d ∈ ds,JX U d) ts2∧Ju Zc Xg (12 - n) ts2=some (rest,tg :: ts')∧ds.map Qq.tr ++ rest=al
theorem Qfu {w:yW}{b:Nat}{K:PK}{ts:List Tk}{S:K4}{te:Tk}{ts'':List Tk}(hK:KG K) (h:Lv w b K ts) (hp:P3 ts=some (S,te :: ts'')) (hte:te.k=0):Calls zG 86 #[zP b] w (OutL Qg.vals Qg.tr Qr b K w S (te :: ts'')):=by
 obtain⟨t1,t2,t3,us,rs,us2,ss,us3,sts,tg,rfl,k1,k2,k3,hrs,hss,hst,ktg,hne,rfl⟩:=Qce hp
 obtain⟨u3,us3',rfl⟩:=U9 hst
 obtain⟨u2,us2',rfl⟩:=U9 hss
 obtain⟨ts',ets⟩:∃ q,te :: ts''=q:=jV
 have HTE:Hid (te :: ts''=ts'∧te.k=0):=⟨ets,hte⟩
 rw [ets] at hst
 have HK:Hid (KG K):=hK
 have HRS:=zH hrs
 have HSS:=zH hss
 have HST:=zH hst
 have HTG:Hid (tg.x=Ze∧sts.length≠0):=⟨ktg,hne⟩
 have hg0:=((HX.new h 102 11).push zk 26).push zk 26
 rw [Qe,FX] at hg0
 have HG0:=hg0.hid
 clear h hK hp hrs hss hst ktg hne hg0 ets hte
 obtain⟨W0,eW0⟩:∃ W,(zA w zk 26).alloc (.cells zk 26)=W:=jV
 rw [← FX,eW0,FX] at HG0
 have HEW:=zH eW0
 have cT:=Jr HK.out HG0.out.S Zw (by decide +kernel) k1
 clear k1 eW0
 go_enter func86,ntmps86
 go_wp2_with fail
 try rw [HEW.out]
 clear HEW
 refine cT.mono ?_
 rintro e w1 ⟨rfl,hs,hm⟩
 have HG1:=(HG0.out.mv hm hs).hid
 clear cT hs hm HG0
 generalize Value.agg zk=D0
 obtain⟨N3,eN3⟩:∃ q,w§+1=q:=jV
 rw [eN3] at HG1
 have HT2:Hid (RgT t2):=(HG1.out.S.ok HK.out.k).r
 have cN:=Xk HG1.out.S k2
 clear k2
 go_wp2_with fail
 try rw [eN3]
 clear eN3
 refine cN.mono ?_
 rintro e wn ⟨rfl,hs,hm⟩
 have HN1:=(HG1.out.mv hm hs).hid
 obtain⟨v1,c1,f1⟩:=HX.sgC HN1.out 0 zY
 have HN2:=(HN1.out.sgX t2.x).hid
 clear cN hs hm HG1
 go_upto_region 4 with fail
 generalize hY:World.setCell _ _ _=Yx
 rw [hY] at HN2
 clear hY c1 f1 HN1
 have cT:=Jr HK.out HN2.out.S Zg (by decide +kernel) k3
 go_wp2_with fail
 refine cT.mono ?_
 rintro e w2 ⟨rfl,hs,hm⟩
 have HG2:=(HN2.out.mv hm hs).hid
 clear cT hs hm HN2 k3
 have HI0:Hid (RGI w b K N3 t2.x (u2 :: us2') rs w2):=⟨[],none,0,0,us,rs,rfl,by omega,HG2.out.imp fun U hU=>(fun d hd=>by simp at hd),HRS.out,rfl⟩
 clear HG2 HRS
 go_wp2_with fail
 go_loopw [4,5,6] (fun _ _ _ wr=>Hid (RGI w b K N3 t2.x (u2 :: us2') rs wr)) (fun _ _ _ wr=>12 - clen N3 1 wr)
 case atStart=>exact HI0
 case round =>
  obtain⟨ds,a,n,c,ts2,rest,hn,hn7,hx,hpd,hal⟩:=hrel.out
  have HL:=hx.hid
  have HNN:Hid (ds.length=n):=hn
  have HAL:=zH hal
  have HMS:Hid (clen N3 1 wr=n):=hx.sgCl1.clen
  rcases Kx hpd with ⟨hi,hre,e2⟩ | ⟨hi,k',dt,ts1,rest',hk',hpo,hpd',hre⟩
  ·have HRE:Hid (ds.map RegM.tr=rs):=by show _=_;rw [← hal,hre,List.append_nil]
   subst e2
   have cI:=is_l HK.out hx.S Zb (by decide +kernel) hi
   clear hx hrel hpd hal hn HI0 hi hre HAL HMS
   go_wp2_with fail
   refine cI.mono ?_
   rintro e z1 ⟨rfl,hb⟩
   obtain⟨a9,c9,e9,hE⟩:=(HL.out.on hb).retire 69 3
   injection e9 with e91 e92 e93
   subst e91 e93
   have HE:=hE.hid
   clear cI hb HL hE e92
   have cS:=QfK HK.out HE.out.S HSS.out
   go_wp2_with fail
   refine cS.mono ?_
   rintro e w4 ⟨ss1,sa,sc,rfl,hs1,hs2,hdp,hs,hm⟩
   have HSQ:Hid (ss1.map Qx.tr=ss∧∀ d ∈ ss1,UN d):=⟨hs1,hs2⟩
   have HM4:=(HE.out.add hm hs hdp).hid
   obtain⟨v1,c1,f1⟩:=HX.sgC HM4.out 2 zY
   have HM5:=(HM4.out.sgS sa ss1.length sc).hid
   clear cS hs1 hs2 hdp hs hm HE HSS
   go_upto_region 12 with fail
   generalize hY:World.setCell _ _ _=Ys
   rw [hY] at HM5
   clear hY c1 f1 HM4
   obtain⟨rs1,ers1⟩:∃ q,ds=q:=jV
   rw [ers1] at HNN HM5 HRE
   obtain⟨ra,era⟩:∃ q,a=q:=jV
   rw [era] at HM5
   obtain⟨rc,erc⟩:∃ q,c=q:=jV
   rw [erc,← HNN.out] at HM5
   clear ers1 era erc
   obtain⟨FS,eFS⟩:∃ FS:yW→Prop,(fun U=>((∀ d ∈ rs1,RegL U d)∧SlAt U 11 ra rc (rs1.map RegM.vals))∧SlAt U 2 sa sc (ss1.map Qx.vals))=FS:=jV
   rw [eFS] at HM5
   have HFS:Hid (∀ U,FS U→((∀ d ∈ rs1,RegL U d)∧SlAt U 11 ra rc (rs1.map RegM.vals))∧SlAt U 2 sa sc (ss1.map Qx.vals)):=fun U hU=>by rw [← eFS] at hU;exact hU
   clear eFS HNN hn7
   have HI0:Hid (SSI w b K N3 t2.x ra rs1.length rc sa ss1.length sc FS tg ts' sts Ys):=⟨[],none,0,0,_,sts,rfl,by omega,HM5.out.imp fun U hU=>⟨hU,(fun d hd=>by simp at hd)⟩,HST.out,rfl⟩
   clear HM5 HST
   go_wp2_with fail
   go_loopw [7,8,9] (fun _ _ _ wr=>Hid (SSI w b K N3 t2.x ra rs1.length rc sa ss1.length sc FS tg ts' sts wr)) (fun _ _ _ wr=>12 - clen N3 3 wr)
   case atStart=>exact HI0
   case round =>
    obtain⟨ds,a,n,c,ts2,rest,hn,hn7,hx,hpd,hal⟩:=hrel.out
    have HL:=hx.hid
    have HNN:Hid (ds.length=n):=hn
    have HAL:=zH hal
    have HMS:Hid (clen N3 3 wr=n):=hx.sgCl3.clen
    rcases Kx hpd with ⟨hi,hre,e2⟩ | ⟨hi,k',dt,ts1,rest',hk',hpo,hpd',hre⟩
    ·have HRE2:Hid (ds.map Qq.tr=sts):=by show _=_;rw [← hal,hre,List.append_nil]
     subst e2
     have hn0:n≠0:=fun e=>HTG.out.2 (by rw [← HRE2.out,List.length_map,hn,e])
     have hn0':((n:Int) == 0)=false:=by simpa using hn0
     have cI:=is_l HK.out hx.S Zc (by decide +kernel) hi
     clear hx hrel hpd hal hn HI0 hi hre HAL HMS
     go_wp2_with fail
     refine cI.mono ?_
     rintro e z1 ⟨rfl,hb⟩
     have HL9:=(HL.out.on hb).hid
     have k8:=HL9.out.sgCl3.cell
     have cT:=Jr HK.out HL9.out.S Ze (by decide +kernel) HTG.out.1
     clear cI hb HL
     go_wp2_with fail
     refine cT.mono ?_
     rintro e z8 ⟨rfl,hs,hm⟩
     have HL10:=(HL9.out.mv hm hs).hid
     clear cT hs hm HL9 k8 hn0 hn0'
     have hS10:=HL10.out.S
     rw [← HTE.out.1] at hS10
     have cE:=end_y hS10 HTE.out.2
     clear hS10
     go_wp2_with fail
     refine cE.mono ?_
     rintro e z9 ⟨rfl,hs,hm⟩
     obtain⟨a9,c9,e9,hE⟩:=(HL10.out.mv hm hs).retire 0 0
     injection e9 with e91 e92 e93
     subst e91 e93
     have HC:Hid (z9.heap[N3]? = (zC (sgA t2.x ra rs1.length rc sa ss1.length sc a n c) 26)):=(hE.B _ List.mem_cons_self).1
     have HO:Hid (z9.heap[w§]? = (zC (sgA ⟨#[]⟩ none 0 0 none 0 0 none 0 0) 26)):=(hE.B _ (List.mem_cons_of_mem _ List.mem_cons_self)).1
     have HF:=(HX.rowA (pre:=[_]) hE (sgA t2.x ra rs1.length rc sa ss1.length sc a n c)).hid
     have HR:Hid ((z9.setRow w§ (sgA t2.x ra rs1.length rc sa ss1.length sc a n c)).heap[w§]? = (zC (sgA t2.x ra rs1.length rc sa ss1.length sc a n c) 26)):=(HF.out.B _ (List.mem_cons_of_mem _ List.mem_cons_self)).1
     clear cE hs hm hE HL10 e92
     go_wp2_with (first | (refine wpList_load_row rfl 26 (.tmp 3) rfl N3 rfl 26 (sgA t2.x ra rs1.length rc sa ss1.length sc a n c) (0,0) _ HC.out underlying26 rfl J6 ?_) | (refine wpList_store_row rfl 26 (.tmp 2) (.tmp 69) rfl w§ (sgA t2.x ra rs1.length rc sa ss1.length sc a n c) rfl rfl 26 _ HO.out J6 rfl (all4 ..) ?_))
     have hval:Qg.vals ⟨t2.x,ra,rc,rs1,sa,sc,ss1,a,c,ds⟩=(sgA t2.x ra rs1.length rc sa ss1.length sc a n c):=by
      show sgA t2.x ra rs1.length rc sa ss1.length sc a ds.length c=_
      rw [HNN.out]
     refine bodyPost_ret (results_cell_row rfl _ _ w§ 26 (sgA t2.x ra rs1.length rc sa ss1.length sc a n c) (0,0) _ rfl HR.out underlying26 rfl J6) rfl ⟨⟨t2.x,ra,rc,rs1,sa,sc,ss1,a,c,ds⟩,by rw [hval],?_,HF.out.fin.1.imp fun U hU=>?_,HF.out.S,HF.out.M⟩
     ·show K4.mk t2.x (rs1.map RegM.tr) (ss1.map Qx.tr) (ds.map Qq.tr)=_
      rw [HRE.out,HSQ.out.1,HRE2.out]
     ·obtain⟨⟨g1,g2⟩,g3⟩:=HFS.out U hU.1.1
      exact⟨g2,g1,g3,HSQ.out.2,hU.2,hU.1.2,HT2.out.x1⟩
    ·obtain⟨u,us9,rfl⟩:=X5 hi
     have cI:=is_l HK.out hx.S Zc (by decide +kernel) hi
     have HPO:Hid (Xg (u :: us9)=some (dt,ts1)∧Ju Zc Xg k' ts1=some (rest',tg :: ts')∧rest=dt :: rest'):=⟨hpo,hpd',hre⟩
     clear hx hrel hpd hal hn HI0 hi hre hpo hpd'
     go_wp2_with fail
     refine cI.mono ?_
     rintro e z1 ⟨rfl,hb⟩
     have HL9:=(HL.out.on hb).hid
     have k8:=HL9.out.sgCl3.cell
     have cM:=X9 HL9.out.S n 12 zY zY
     clear cI hb HL
     go_wp2_with fail
     refine cM.mono ?_
     rintro e z2 ⟨rfl,e2⟩
     obtain rfl:=e2.symm
     clear cM e2 k8
     have cD:=QfH HK.out HL9.out.S HPO.out.1
     go_wp2_with fail
     refine cD.mono ?_
     rintro e w3 ⟨dm,rfl,htr,hdp,hs,hm⟩
     have HDT:Hid (dm.tr=dt):=htr
     have HLp:=((HL9.out.add hm hs hdp).push zm 69).hid
     have HL4:=(HX.rowA (pre:=[]) HLp.out dm.vals).hid
     have HZ:Hid ((zA w3 zm 69).heap[w3§]? = (zC zm 69)):=Qc _ _
     clear cD hs hm htr hdp HL9 HLp
     go_upto_region 17 with (refine wpList_store_row rfl 69 (.tmp 9) (.tmp 52) rfl w3§ dm.vals rfl rfl 69 zm HZ.out Je rfl (Hc dm) ?_)
     generalize hW4:World.setRow _ _ _=W4
     rw [hW4] at HL4
     obtain⟨N4,eN4⟩:∃ q,w3§=q:=jV
     rw [eN4] at HL4 ⊢
     clear eN4 HZ hW4
     have HN4:Hid (W4.heap[N4]? = (zC dm.vals 69)):=(HL4.out.B _ List.mem_cons_self).1
     have k8:zQ W4 N3¢3 (.slice a n c):=Qa (HL4.out.B _ (List.mem_cons_of_mem _ List.mem_cons_self)).1 3
     go_wp2_with (first | (refine wpList_load_row rfl 69 (.tmp 9) rfl N4 rfl 69 dm.vals (0,0) _ HN4.out underlying69 rfl Je ?_) | (refine Jb rfl 24 69 (.tmp 55) rfl dm.vals rfl 3 _ underlying24 48 Qhh rfl rfl (by decide) (by decide) ?_) | (at_builtin;refine FF HL4.out 24 dm.vals rfl (Hc dm) _ 48 underlying24 Qhh rfl (by decide) (by rw [List.length_map,HNN.out];omega) (by decide) rfl (.tmp 54) (.tmp 56) rfl rfl rfl ?_;intro g7 cap7 w7 hl7;rw [List.length_map,HNN.out] at hl7 ⊢;have HL7:=hl7.pop.hid;obtain⟨av8,ac8,af8⟩:=HX.sgC HL7.out 3 zY;clear hl7))
     have HL8:=(HL7.out.sgT (some g7¢0) (n+1) cap7).hid
     have HX8:Hid (HX w b K (w7.setCell N3¢3 (.slice (some g7¢0) (n+1) cap7)) [(N3,26,sgA t2.x ra rs1.length rc sa ss1.length sc (some g7¢0) (n+1) cap7),(w§,26,sgA ⟨#[]⟩ none 0 0 none 0 0 none 0 0)] 69 3 (.slice (some g7¢0) (n+1) cap7) ((ds ++ [dm]).map Qq.vals) (fun U=>FS U∧∀ d ∈ ds ++ [dm],JX U d) ts1):=by
      rw [List.map_append]
      refine HL8.out.imp fun U hU=>⟨hU.1.1,(fun d hd=>?_)⟩
      rcases List.mem_append.1 hd with hd | hd
      ·exact hU.1.2 d hd
      ·rw [List.mem_singleton.1 hd];exact hU.2
     refine⟨?_,?_⟩
     ·exact⟨ds ++ [dm],_,n+1,cap7,ts1,rest',by rw [List.length_append,HNN.out];rfl,by omega,HX8.out,by rw [show 12 - (n+1)=k' by omega];exact HPO.out.2.1,by rw [← HAL.out,HPO.out.2.2,List.map_append,List.map_singleton,HDT.out];simp⟩
     ·rw [HMS.out,HX8.out.sgCl3.clen];omega
  ·obtain⟨u,us9,rfl⟩:=X5 hi
   have cI:=is_l HK.out hx.S Zb (by decide +kernel) hi
   have HPO:Hid (pReg (u :: us9)=some (dt,ts1)∧Ju Zb pReg k' ts1=some (rest',u2 :: us2')∧rest=dt :: rest'):=⟨hpo,hpd',hre⟩
   clear hx hrel hpd hal hn HI0 hi hre hpo hpd'
   go_wp2_with fail
   refine cI.mono ?_
   rintro e z1 ⟨rfl,hb⟩
   have HL9:=(HL.out.on hb).hid
   have k8:=HL9.out.sgCl1.cell
   have cM:=X9 HL9.out.S n 12 zY zY
   clear cI hb HL
   go_wp2_with fail
   refine cM.mono ?_
   rintro e z2 ⟨rfl,e2⟩
   obtain rfl:=e2.symm
   clear cM e2 k8
   have cD:=reg_l HK.out HL9.out.S HPO.out.1
   go_wp2_with fail
   refine cD.mono ?_
   rintro e w3 ⟨dm,rfl,htr,hdp,hs,hm⟩
   have HDT:Hid (dm.tr=dt):=htr
   have HLp:=((HL9.out.add hm hs hdp).push ze 102).hid
   have HL4:=(HX.rowA (pre:=[]) HLp.out dm.vals).hid
   have HZ:Hid ((zA w3 ze 102).heap[w3§]? = (zC ze 102)):=Qc _ _
   clear cD hs hm htr hdp HL9 HLp
   go_upto_region 10 with (refine wpList_store_row rfl 102 (.tmp 6) (.tmp 30) rfl w3§ dm.vals rfl rfl 102 ze HZ.out QO rfl (Uq dm) ?_)
   generalize hW4:World.setRow _ _ _=W4
   rw [hW4] at HL4
   obtain⟨N4,eN4⟩:∃ q,w3§=q:=jV
   rw [eN4] at HL4 ⊢
   clear eN4 HZ hW4
   have HN4:Hid (W4.heap[N4]? = (zC dm.vals 102)):=(HL4.out.B _ List.mem_cons_self).1
   have k8:zQ W4 N3¢1 (.slice a n c):=Qa (HL4.out.B _ (List.mem_cons_of_mem _ List.mem_cons_self)).1 1
   go_wp2_with (first | (refine wpList_load_row rfl 102 (.tmp 6) rfl N4 rfl 102 dm.vals (0,0) _ HN4.out underlying102 rfl QO ?_) | (refine Jb rfl 22 102 (.tmp 33) rfl dm.vals rfl 11 _ underlying22 104 QeH rfl rfl (by decide) (by decide) ?_) | (at_builtin;refine FF HL4.out 22 dm.vals rfl (Uq dm) _ 104 underlying22 QeH rfl (by decide) (by rw [List.length_map,HNN.out];omega) (by decide) rfl (.tmp 32) (.tmp 34) rfl rfl rfl ?_;intro g7 cap7 w7 hl7;rw [List.length_map,HNN.out] at hl7 ⊢;have HL7:=hl7.pop.hid;obtain⟨av8,ac8,af8⟩:=HX.sgC HL7.out 1 zY;clear hl7))
   have HL8:=(HL7.out.sgR (some g7¢0) (n+1) cap7).hid
   have HX8:Hid (HX w b K (w7.setCell N3¢1 (.slice (some g7¢0) (n+1) cap7)) [(N3,26,sgA t2.x (some g7¢0) (n+1) cap7 none 0 0 none 0 0),(w§,26,sgA ⟨#[]⟩ none 0 0 none 0 0 none 0 0)] 102 11 (.slice (some g7¢0) (n+1) cap7) ((ds ++ [dm]).map RegM.vals) (fun U=>∀ d ∈ ds ++ [dm],RegL U d) ts1):=by
    rw [List.map_append]
    refine HL8.out.imp fun U hU=>(fun d hd=>?_)
    rcases List.mem_append.1 hd with hd | hd
    ·exact hU.1 d hd
    ·rw [List.mem_singleton.1 hd];exact hU.2
   refine⟨?_,?_⟩
   ·exact⟨ds ++ [dm],_,n+1,cap7,ts1,rest',by rw [List.length_append,HNN.out];rfl,by omega,HX8.out,by rw [show 12 - (n+1)=k' by omega];exact HPO.out.2.1,by rw [← HAL.out,HPO.out.2.2,List.map_append,List.map_singleton,HDT.out];simp⟩
   ·rw [HMS.out,HX8.out.sgCl1.clen];omega
end Go.Proofs.YtfbjofnaghjmeaaGreatDoor
