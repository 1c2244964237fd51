import Derived.Test.YtfbjofnaghjmeaaGreatDoorA0
import Derived.Test.YtfbjofnaghjmeaaGreatDoorA16
import Derived.Test.YtfbjofnaghjmeaaGreatDoorA11
namespace Go.Proofs.YtfbjofnaghjmeaaGreatDoor
set_option maxHeartbeats 16000000
set_option maxRecDepth 100000
open Go.RowKit
set_option linter.unusedVariables false
def sgA (x:yB) (ra:Option Addr) (rn rc:Nat) (sa:Option Addr) (sn sc:Nat) (ta:Option Addr) (tn tc:Nat):Array Value:=#[.string x,.slice ra rn rc,.slice sa sn sc,.slice ta tn tc]
theorem sgZ_eq:zi=sgA ⟨#[]⟩ none 0 0 none 0 0 none 0 0:=rfl
theorem sgX_eq (x:yB) (ra sa ta:Option Addr) (rn rc sn sc tn tc:Nat) (x':yB):(sgA x ra rn rc sa sn sc ta tn tc).setIfInBounds 0 (.string x')=sgA x' ra rn rc sa sn sc ta tn tc:=by kernel_rfl
theorem HX.sgX {w:yW}{b:Nat}{K:PK}{V:yW}{post:List (Nat × Nat × Array Value)}{N:Nat}{e sz:Nat}{v:Value}{vs:List (Array Value)}{F:yW→Prop}{ts:List Tk}{x:yB}{ra sa ta:Option Addr}{rn rc sn sc tn tc:Nat}(h:HX w b K V ((N,26,sgA x ra rn rc sa sn sc ta tn tc) :: post) e sz v vs F ts) (x':yB):HX w b K (V.setCell N¢0 (.string x')) ((N,26,sgA x' ra rn rc sa sn sc ta tn tc) :: post) e sz v vs F ts:=by
 have h':=HX.setA (pre:=[]) h 0 (.string x')
 rw [sgX_eq] at h'
 exact h'
theorem sgR_eq (x:yB) (ra sa ta:Option Addr) (rn rc sn sc tn tc:Nat) (a:Option Addr) (n c:Nat):(sgA x ra rn rc sa sn sc ta tn tc).setIfInBounds 1 (.slice a n c)=sgA x a n c sa sn sc ta tn tc:=by kernel_rfl
theorem HX.sgR {w:yW}{b:Nat}{K:PK}{V:yW}{post:List (Nat × Nat × Array Value)}{N:Nat}{e sz:Nat}{v:Value}{vs:List (Array Value)}{F:yW→Prop}{ts:List Tk}{x:yB}{ra sa ta:Option Addr}{rn rc sn sc tn tc:Nat}(h:HX w b K V ((N,26,sgA x ra rn rc sa sn sc ta tn tc) :: post) e sz v vs F ts) (a:Option Addr) (n c:Nat):HX w b K (V.setCell N¢1 (.slice a n c)) ((N,26,sgA x a n c sa sn sc ta tn tc) :: post) e sz v vs F ts:=by
 have h':=HX.setA (pre:=[]) h 1 (.slice a n c)
 rw [sgR_eq] at h'
 exact h'
theorem sgS_eq (x:yB) (ra sa ta:Option Addr) (rn rc sn sc tn tc:Nat) (a:Option Addr) (n c:Nat):(sgA x ra rn rc sa sn sc ta tn tc).setIfInBounds 2 (.slice a n c)=sgA x ra rn rc a n c ta tn tc:=by kernel_rfl
theorem HX.sgS {w:yW}{b:Nat}{K:PK}{V:yW}{post:List (Nat × Nat × Array Value)}{N:Nat}{e sz:Nat}{v:Value}{vs:List (Array Value)}{F:yW→Prop}{ts:List Tk}{x:yB}{ra sa ta:Option Addr}{rn rc sn sc tn tc:Nat}(h:HX w b K V ((N,26,sgA x ra rn rc sa sn sc ta tn tc) :: post) e sz v vs F ts) (a:Option Addr) (n c:Nat):HX w b K (V.setCell N¢2 (.slice a n c)) ((N,26,sgA x ra rn rc a n c ta tn tc) :: post) e sz v vs F ts:=by
 have h':=HX.setA (pre:=[]) h 2 (.slice a n c)
 rw [sgS_eq] at h'
 exact h'
theorem sgT_eq (x:yB) (ra sa ta:Option Addr) (rn rc sn sc tn tc:Nat) (a:Option Addr) (n c:Nat):(sgA x ra rn rc sa sn sc ta tn tc).setIfInBounds 3 (.slice a n c)=sgA x ra rn rc sa sn sc a n c:=by kernel_rfl
theorem HX.sgT {w:yW}{b:Nat}{K:PK}{V:yW}{post:List (Nat × Nat × Array Value)}{N:Nat}{e sz:Nat}{v:Value}{vs:List (Array Value)}{F:yW→Prop}{ts:List Tk}{x:yB}{ra sa ta:Option Addr}{rn rc sn sc tn tc:Nat}(h:HX w b K V ((N,26,sgA x ra rn rc sa sn sc ta tn tc) :: post) e sz v vs F ts) (a:Option Addr) (n c:Nat):HX w b K (V.setCell N¢3 (.slice a n c)) ((N,26,sgA x ra rn rc sa sn sc a n c) :: post) e sz v vs F ts:=by
 have h':=HX.setA (pre:=[]) h 3 (.slice a n c)
 rw [sgT_eq] at h'
 exact h'
theorem HX.sgC {w:yW}{b:Nat}{K:PK}{V:yW}{post:List (Nat × Nat × Array Value)}{N:Nat}{e sz:Nat}{v:Value}{vs:List (Array Value)}{F:yW→Prop}{ts:List Tk}{x:yB}{ra sa ta:Option Addr}{rn rc sn sc tn tc:Nat}(h:HX w b K V ((N,26,sgA x ra rn rc sa sn sc ta tn tc) :: post) e sz v vs F ts) (i:Nat) (hi:i < 4):∃ u,V.cell? N¢i=some u∧V.frozen? N¢i=false:=HX.cellA (pre:=[]) h i hi
theorem HX.sgCl1 {w:yW}{b:Nat}{K:PK}{V:yW}{post:List (Nat × Nat × Array Value)}{N:Nat}{e sz:Nat}{v:Value}{vs:List (Array Value)}{F:yW→Prop}{ts:List Tk}{x:yB}{ra sa ta:Option Addr}{rn rc sn sc tn tc:Nat}(h:HX w b K V ((N,26,sgA x ra rn rc sa sn sc ta tn tc) :: post) e sz v vs F ts):Cl V N 1 (.slice ra rn rc):=⟨_,_,(h.B _ List.mem_cons_self).1,rfl⟩
theorem HX.sgCl3 {w:yW}{b:Nat}{K:PK}{V:yW}{post:List (Nat × Nat × Array Value)}{N:Nat}{e sz:Nat}{v:Value}{vs:List (Array Value)}{F:yW→Prop}{ts:List Tk}{x:yB}{ra sa ta:Option Addr}{rn rc sn sc tn tc:Nat}(h:HX w b K V ((N,26,sgA x ra rn rc sa sn sc ta tn tc) :: post) e sz v vs F ts):Cl V N 3 (.slice ta tn tc):=⟨_,_,(h.B _ List.mem_cons_self).1,rfl⟩
theorem size43':(Tryz.prog.info? 26).map (·.size)=some 4:=by kernel_rfl
theorem all4 (x:yB) (ra sa ta:Option Addr) (rn rc sn sc tn tc:Nat):(sgA x ra rn rc sa sn sc ta tn tc).all (·.oneCell')=true:=by simp [sgA,Value.oneCell']
theorem all3' (r:StateM):r.vals.all (·.oneCell')=true:=by simp [StateM.vals,Value.oneCell']
theorem pBody_inv {ts:List Tk}{S:StratT}{ts':List Tk}(h:pBody ts=some (S,ts')):∃ t1 t2 t3 us rs us2 ss us3 sts tg,ts=t1 :: t2 :: t3 :: us∧t1.x=Zx∧t2.k=2∧t3.x=Zg∧pMany Zb pReg 12 us=some (rs,us2)∧pMany Za pSlot 4 us2=some (ss,us3)∧pMany Zc pState 12 us3=some (sts,tg :: ts')∧tg.x=Ze∧sts.length≠0∧S=⟨t2.x,rs,ss,sts⟩:=by
 unfold pBody at h
 obtain⟨a,h1,h⟩:=opt_bind h
 obtain⟨b,h2,h⟩:=opt_bind h
 obtain⟨c,h3,h⟩:=opt_bind h
 obtain⟨d,h4,h⟩:=opt_bind h
 obtain⟨f,h5,h⟩:=opt_bind h
 obtain⟨g,h6,h⟩:=opt_bind h
 obtain⟨k,h7,h⟩:=opt_bind h
 by_cases hl:g.1.length=0
 ·rw [if_pos hl] at h; cases h
 rw [if_neg hl] at h
 cases h
 obtain⟨t1,rfl,k1,_⟩:=pTake_inv h1
 obtain⟨t2,g2,k2,k2'⟩:=pName_inv h2
 obtain⟨t3,g3,k3,_⟩:=pTake_inv h3
 obtain⟨tg,g7,k7,_⟩:=pTake_inv h7
 exact⟨t1,t2,t3,c.2,d.1,d.2,f.1,f.2,g.1,tg,by rw [g2,g3],k1,k2,k3,h4,h5,by rw [h6,← g7],k7,hl,by rw [k2']⟩
theorem pMany_cons {α:Type}{x:yB}{part:List Tk→Option (α × List Tk)}{k:Nat}{ts:List Tk}{rest:List α}{t:Tk}{ts':List Tk}(h:pMany x part k ts=some (rest,t :: ts')):∃ u us,ts=u :: us:=by
 rcases pMany_inv h with ⟨_,_,e⟩ | ⟨e,_⟩
 ·exact⟨t,ts',e⟩
 ·exact pIs_cons e
def RGI (w:yW) (b:Nat) (K:PK) (N3:Nat) (x:yB) (us2:List Tk) (al:List RegT) (wr:yW):Prop :=
 ∃ (ds:List RegM) (a:Option Addr) (n c:Nat) (ts2:List Tk) (rest:List RegT),ds.length=n∧n≤12∧HX w b K wr [(N3,26,sgA x a n c none 0 0 none 0 0),(w§,26,sgA ⟨#[]⟩ none 0 0 none 0 0 none 0 0)] 102 11 (.slice a n c) (ds.map RegM.vals) (fun U=>∀ d ∈ ds,RegL U d) ts2∧pMany Zb pReg (12 - n) ts2=some (rest,us2)∧ds.map RegM.tr ++ rest=al
def SSI (w:yW) (b:Nat) (K:PK) (N3:Nat) (x:yB) (ra:Option Addr) (rn rc:Nat) (sa:Option Addr) (sn sc:Nat) (F:yW→Prop) (tg:Tk) (ts':List Tk) (al:List StateT) (wr:yW):Prop :=
 ∃ (ds:List StateM) (a:Option Addr) (n c:Nat) (ts2:List Tk) (rest:List StateT),ds.length=n∧n≤12∧HX w b K wr [(N3,26,sgA x ra rn rc sa sn sc a n c),(w§,26,sgA ⟨#[]⟩ none 0 0 none 0 0 none 0 0)] 69 3 (.slice a n c) (ds.map StateM.vals) (fun U=>F U∧∀ d ∈ ds,StateL U d) ts2∧pMany Zc pState (12 - n) ts2=some (rest,tg :: ts')∧ds.map StateM.tr ++ rest=al
theorem whole_l {w:yW}{b:Nat}{K:PK}{ts:List Tk}{S:StratT}{te:Tk}{ts'':List Tk}(hK:KG K) (h:Lv w b K ts) (hp:pBody ts=some (S,te :: ts'')) (hte:te.k=0):Calls zG 86 #[zP b] w (OutL StratM.vals StratM.tr StratL b K w S (te :: ts'')):=by
 obtain⟨t1,t2,t3,us,rs,us2,ss,us3,sts,tg,rfl,k1,k2,k3,hrs,hss,hst,ktg,hne,rfl⟩:=pBody_inv hp
 obtain⟨u3,us3',rfl⟩:=pMany_cons hst
 obtain⟨u2,us2',rfl⟩:=pMany_cons hss
 obtain⟨ts',ets⟩:∃ q,te :: ts''=q:=⟨_,rfl⟩
 have HTE:Hid (te :: ts''=ts'∧te.k=0):=⟨ets,hte⟩
 rw [ets] at hst
 have HK:Hid (KG K):=hK
 have HRS:Hid (pMany Zb pReg 12 us=some (rs,u2 :: us2')):=hrs
 have HSS:Hid (pMany Za pSlot 4 (u2 :: us2')=some (ss,u3 :: us3')):=hss
 have HST:Hid (pMany Zc pState 12 (u3 :: us3')=some (sts,tg :: ts')):=hst
 have HTG:Hid (tg.x=Ze∧sts.length≠0):=⟨ktg,hne⟩
 have hg0:=((HX.new h 102 11).push zi 26).push zi 26
 rw [size_alloc,sgZ_eq] at hg0
 have HG0:=hg0.hid
 clear h hK hp hrs hss hst ktg hne hg0 ets hte
 obtain⟨W0,eW0⟩:∃ W,(w.alloc (.cells zi 26)).alloc (.cells zi 26)=W:=⟨_,rfl⟩
 rw [← sgZ_eq,eW0,sgZ_eq] at HG0
 have HEW:Hid ((w.alloc (.cells zi 26)).alloc (.cells zi 26)=W0):=eW0
 have cT:=take_l HK.out HG0.out.S Zx (by decide +kernel) k1
 clear k1 eW0
 go_enter Tryz.func86,Tryz.ntmps86
 go_wp2_with fail
 try rw [HEW.out]
 clear HEW
 refine cT.mono ?_
 rintro e w1 ⟨rfl,hs,hm⟩
 have HG1:=(HG0.out.mv hm hs).hid
 clear cT hs hm HG0
 generalize Value.agg zi=D0
 obtain⟨N3,eN3⟩:∃ q,w§+1=q:=⟨_,rfl⟩
 rw [eN3] at HG1
 have HT2:Hid (RgT t2):=(HG1.out.S.ok HK.out.k).r
 have cN:=name_l HG1.out.S k2
 clear k2
 go_wp2_with fail
 try rw [eN3]
 clear eN3
 refine cN.mono ?_
 rintro e wn ⟨rfl,hs,hm⟩
 have HN1:=(HG1.out.mv hm hs).hid
 obtain⟨v1,c1,f1⟩:=HX.sgC HN1.out 0 (by omega)
 have HN2:=(HN1.out.sgX t2.x).hid
 clear cN hs hm HG1
 go_upto_region 4 with fail
 generalize hY:World.setCell _ _ _=Yx
 rw [hY] at HN2
 clear hY c1 f1 HN1
 have cT:=take_l HK.out HN2.out.S Zg (by decide +kernel) k3
 go_wp2_with fail
 refine cT.mono ?_
 rintro e w2 ⟨rfl,hs,hm⟩
 have HG2:=(HN2.out.mv hm hs).hid
 clear cT hs hm HN2 k3
 have HI0:Hid (RGI w b K N3 t2.x (u2 :: us2') rs w2):=⟨[],none,0,0,us,rs,rfl,by omega,HG2.out.imp fun U hU=>(fun d hd=>by simp at hd),HRS.out,rfl⟩
 clear HG2 HRS
 go_wp2_with fail
 go_loopw [4,5,6] (fun _ _ _ wr=>Hid (RGI w b K N3 t2.x (u2 :: us2') rs wr)) (fun _ _ _ wr=>12 - clen N3 1 wr)
 case atStart=>exact HI0
 case round =>
  obtain⟨ds,a,n,c,ts2,rest,hn,hn7,hx,hpd,hal⟩:=hrel.out
  have HL:=hx.hid
  have HNN:Hid (ds.length=n):=hn
  have HAL:Hid (ds.map RegM.tr ++ rest=rs):=hal
  have HMS:Hid (clen N3 1 wr=n):=hx.sgCl1.clen
  rcases pMany_inv hpd with ⟨hi,hre,e2⟩ | ⟨hi,k',dt,ts1,rest',hk',hpo,hpd',hre⟩
  ·have HRE:Hid (ds.map RegM.tr=rs):=by show _=_; rw [← hal,hre,List.append_nil]
   subst e2
   have cI:=is_l HK.out hx.S Zb (by decide +kernel) hi
   clear hx hrel hpd hal hn HI0 hi hre HAL HMS
   go_wp2_with fail
   refine cI.mono ?_
   rintro e z1 ⟨rfl,hb⟩
   obtain⟨a9,c9,e9,hE⟩:=(HL.out.on hb).retire 69 3
   injection e9 with e91 e92 e93
   subst e91 e93
   have HE:=hE.hid
   clear cI hb HL hE e92
   have cS:=slots_l HK.out HE.out.S HSS.out
   go_wp2_with fail
   refine cS.mono ?_
   rintro e w4 ⟨ss1,sa,sc,rfl,hs1,hs2,hdp,hs,hm⟩
   have HSQ:Hid (ss1.map SlotM.tr=ss∧∀ d ∈ ss1,SlotL d):=⟨hs1,hs2⟩
   have HM4:=(HE.out.add hm hs hdp).hid
   obtain⟨v1,c1,f1⟩:=HX.sgC HM4.out 2 (by omega)
   have HM5:=(HM4.out.sgS sa ss1.length sc).hid
   clear cS hs1 hs2 hdp hs hm HE HSS
   go_upto_region 12 with fail
   generalize hY:World.setCell _ _ _=Ys
   rw [hY] at HM5
   clear hY c1 f1 HM4
   obtain⟨rs1,ers1⟩:∃ q,ds=q:=⟨_,rfl⟩
   rw [ers1] at HNN HM5 HRE
   obtain⟨ra,era⟩:∃ q,a=q:=⟨_,rfl⟩
   rw [era] at HM5
   obtain⟨rc,erc⟩:∃ q,c=q:=⟨_,rfl⟩
   rw [erc,← HNN.out] at HM5
   clear ers1 era erc
   obtain⟨FS,eFS⟩:∃ FS:yW→Prop,(fun U=>((∀ d ∈ rs1,RegL U d)∧SlAt U 11 ra rc (rs1.map RegM.vals))∧SlAt U 2 sa sc (ss1.map SlotM.vals))=FS:=⟨_,rfl⟩
   rw [eFS] at HM5
   have HFS:Hid (∀ U,FS U→((∀ d ∈ rs1,RegL U d)∧SlAt U 11 ra rc (rs1.map RegM.vals))∧SlAt U 2 sa sc (ss1.map SlotM.vals)):=fun U hU=>by rw [← eFS] at hU; exact hU
   clear eFS HNN hn7
   have HI0:Hid (SSI w b K N3 t2.x ra rs1.length rc sa ss1.length sc FS tg ts' sts Ys):=⟨[],none,0,0,_,sts,rfl,by omega,HM5.out.imp fun U hU=>⟨hU,(fun d hd=>by simp at hd)⟩,HST.out,rfl⟩
   clear HM5 HST
   go_wp2_with fail
   go_loopw [7,8,9] (fun _ _ _ wr=>Hid (SSI w b K N3 t2.x ra rs1.length rc sa ss1.length sc FS tg ts' sts wr)) (fun _ _ _ wr=>12 - clen N3 3 wr)
   case atStart=>exact HI0
   case round =>
    obtain⟨ds,a,n,c,ts2,rest,hn,hn7,hx,hpd,hal⟩:=hrel.out
    have HL:=hx.hid
    have HNN:Hid (ds.length=n):=hn
    have HAL:Hid (ds.map StateM.tr ++ rest=sts):=hal
    have HMS:Hid (clen N3 3 wr=n):=hx.sgCl3.clen
    rcases pMany_inv hpd with ⟨hi,hre,e2⟩ | ⟨hi,k',dt,ts1,rest',hk',hpo,hpd',hre⟩
    ·have HRE2:Hid (ds.map StateM.tr=sts):=by show _=_; rw [← hal,hre,List.append_nil]
     subst e2
     have hn0:n≠0:=fun e=>HTG.out.2 (by rw [← HRE2.out,List.length_map,hn,e])
     have hn0':((n:Int) == 0)=false:=by simpa using hn0
     have cI:=is_l HK.out hx.S Zc (by decide +kernel) hi
     clear hx hrel hpd hal hn HI0 hi hre HAL HMS
     go_wp2_with fail
     refine cI.mono ?_
     rintro e z1 ⟨rfl,hb⟩
     have HL9:=(HL.out.on hb).hid
     have k8:=HL9.out.sgCl3.cell
     have cT:=take_l HK.out HL9.out.S Ze (by decide +kernel) HTG.out.1
     clear cI hb HL
     go_wp2_with fail
     refine cT.mono ?_
     rintro e z8 ⟨rfl,hs,hm⟩
     have HL10:=(HL9.out.mv hm hs).hid
     clear cT hs hm HL9 k8 hn0 hn0'
     have hS10:=HL10.out.S
     rw [← HTE.out.1] at hS10
     have cE:=end_y hS10 HTE.out.2
     clear hS10
     go_wp2_with fail
     refine cE.mono ?_
     rintro e z9 ⟨rfl,hs,hm⟩
     obtain⟨a9,c9,e9,hE⟩:=(HL10.out.mv hm hs).retire 0 0
     injection e9 with e91 e92 e93
     subst e91 e93
     have HC:Hid (z9.heap[N3]? = (zC (sgA t2.x ra rs1.length rc sa ss1.length sc a n c) 26)):=(hE.B _ List.mem_cons_self).1
     have HO:Hid (z9.heap[w§]? = (zC (sgA ⟨#[]⟩ none 0 0 none 0 0 none 0 0) 26)):=(hE.B _ (List.mem_cons_of_mem _ List.mem_cons_self)).1
     have HF:=(HX.rowA (pre:=[_]) hE (sgA t2.x ra rs1.length rc sa ss1.length sc a n c)).hid
     have HR:Hid ((z9.setRow w§ (sgA t2.x ra rs1.length rc sa ss1.length sc a n c)).heap[w§]? = (zC (sgA t2.x ra rs1.length rc sa ss1.length sc a n c) 26)):=(HF.out.B _ (List.mem_cons_of_mem _ List.mem_cons_self)).1
     clear cE hs hm hE HL10 e92
     go_wp2_with (first | (refine wpList_load_row rfl 26 (.tmp 3) rfl N3 rfl 26 (sgA t2.x ra rs1.length rc sa ss1.length sc a n c) (0,0) _ HC.out Tryz.underlying26 rfl size43' ?_) | (refine wpList_store_row rfl 26 (.tmp 2) (.tmp 69) rfl w§ (sgA t2.x ra rs1.length rc sa ss1.length sc a n c) rfl rfl 26 _ HO.out size43' rfl (all4 ..) ?_))
     have hval:StratM.vals ⟨t2.x,ra,rc,rs1,sa,sc,ss1,a,c,ds⟩=(sgA t2.x ra rs1.length rc sa ss1.length sc a n c):=by
      show sgA t2.x ra rs1.length rc sa ss1.length sc a ds.length c=_
      rw [HNN.out]
     refine bodyPost_ret (results_cell_row rfl _ _ w§ 26 (sgA t2.x ra rs1.length rc sa ss1.length sc a n c) (0,0) _ rfl HR.out Tryz.underlying26 rfl size43') rfl ⟨⟨t2.x,ra,rc,rs1,sa,sc,ss1,a,c,ds⟩,by rw [hval],?_,HF.out.fin.1.imp fun U hU=>?_,HF.out.S,HF.out.M⟩
     ·show StratT.mk t2.x (rs1.map RegM.tr) (ss1.map SlotM.tr) (ds.map StateM.tr)=_
      rw [HRE.out,HSQ.out.1,HRE2.out]
     ·obtain⟨⟨g1,g2⟩,g3⟩:=HFS.out U hU.1.1
      exact⟨g2,g1,g3,HSQ.out.2,hU.2,hU.1.2,HT2.out.x1⟩
    ·obtain⟨u,us9,rfl⟩:=pIs_cons hi
     have cI:=is_l HK.out hx.S Zc (by decide +kernel) hi
     have HPO:Hid (pState (u :: us9)=some (dt,ts1)∧pMany Zc pState k' ts1=some (rest',tg :: ts')∧rest=dt :: rest'):=⟨hpo,hpd',hre⟩
     clear hx hrel hpd hal hn HI0 hi hre hpo hpd'
     go_wp2_with fail
     refine cI.mono ?_
     rintro e z1 ⟨rfl,hb⟩
     have HL9:=(HL.out.on hb).hid
     have k8:=HL9.out.sgCl3.cell
     have cM:=many_ok HL9.out.S n 12 (by omega) (by omega)
     clear cI hb HL
     go_wp2_with fail
     refine cM.mono ?_
     rintro e z2 ⟨rfl,e2⟩
     obtain rfl:=e2.symm
     clear cM e2 k8
     have cD:=state_l HK.out HL9.out.S HPO.out.1
     go_wp2_with fail
     refine cD.mono ?_
     rintro e w3 ⟨dm,rfl,htr,hdp,hs,hm⟩
     have HDT:Hid (dm.tr=dt):=htr
     have HLp:=((HL9.out.add hm hs hdp).push zk 69).hid
     have HL4:=(HX.rowA (pre:=[]) HLp.out dm.vals).hid
     have HZ:Hid ((w3.alloc (.cells zk 69)).heap[w3§]? = (zC zk 69)):=heap_new _ _
     clear cD hs hm htr hdp HL9 HLp
     go_upto_region 17 with (refine wpList_store_row rfl 69 (.tmp 9) (.tmp 52) rfl w3§ dm.vals rfl rfl 69 zk HZ.out size87' rfl (all3' dm) ?_)
     generalize hW4:World.setRow _ _ _=W4
     rw [hW4] at HL4
     obtain⟨N4,eN4⟩:∃ q,w3§=q:=⟨_,rfl⟩
     rw [eN4] at HL4 ⊢
     clear eN4 HZ hW4
     have HN4:Hid (W4.heap[N4]? = (zC dm.vals 69)):=(HL4.out.B _ List.mem_cons_self).1
     have k8:W4.cell? N3¢3=some (.slice a n c):=cell_of (HL4.out.B _ (List.mem_cons_of_mem _ List.mem_cons_self)).1 3
     go_wp2_with (first | (refine wpList_load_row rfl 69 (.tmp 9) rfl N4 rfl 69 dm.vals (0,0) _ HN4.out Tryz.underlying69 rfl size87' ?_) | (refine wpList_slice1 rfl 24 69 (.tmp 55) rfl dm.vals rfl 3 _ Tryz.underlying24 48 inf87 rfl rfl (by decide) (by decide) ?_) | (at_builtin; refine app_h HL4.out 24 dm.vals rfl (all3' dm) _ 48 Tryz.underlying24 inf87 rfl (by decide) (by rw [List.length_map,HNN.out]; omega) (by decide) rfl (.tmp 54) (.tmp 56) rfl rfl rfl ?_; intro g7 cap7 w7 hl7; rw [List.length_map,HNN.out] at hl7 ⊢; have HL7:=hl7.pop.hid; obtain⟨av8,ac8,af8⟩:=HX.sgC HL7.out 3 (by omega); clear hl7))
     have HL8:=(HL7.out.sgT (some g7¢0) (n+1) cap7).hid
     have HX8:Hid (HX w b K (w7.setCell N3¢3 (.slice (some g7¢0) (n+1) cap7)) [(N3,26,sgA t2.x ra rs1.length rc sa ss1.length sc (some g7¢0) (n+1) cap7),(w§,26,sgA ⟨#[]⟩ none 0 0 none 0 0 none 0 0)] 69 3 (.slice (some g7¢0) (n+1) cap7) ((ds ++ [dm]).map StateM.vals) (fun U=>FS U∧∀ d ∈ ds ++ [dm],StateL U d) ts1):=by
      rw [List.map_append]
      refine HL8.out.imp fun U hU=>⟨hU.1.1,(fun d hd=>?_)⟩
      rcases List.mem_append.1 hd with hd | hd
      ·exact hU.1.2 d hd
      ·rw [List.mem_singleton.1 hd]; exact hU.2
     refine⟨?_,?_⟩
     ·exact⟨ds ++ [dm],_,n+1,cap7,ts1,rest',by rw [List.length_append,HNN.out]; rfl,by omega,HX8.out,by rw [show 12 - (n+1)=k' by omega]; exact HPO.out.2.1,by rw [← HAL.out,HPO.out.2.2,List.map_append,List.map_singleton,HDT.out]; simp⟩
     ·rw [HMS.out,HX8.out.sgCl3.clen]; omega
  ·obtain⟨u,us9,rfl⟩:=pIs_cons hi
   have cI:=is_l HK.out hx.S Zb (by decide +kernel) hi
   have HPO:Hid (pReg (u :: us9)=some (dt,ts1)∧pMany Zb pReg k' ts1=some (rest',u2 :: us2')∧rest=dt :: rest'):=⟨hpo,hpd',hre⟩
   clear hx hrel hpd hal hn HI0 hi hre hpo hpd'
   go_wp2_with fail
   refine cI.mono ?_
   rintro e z1 ⟨rfl,hb⟩
   have HL9:=(HL.out.on hb).hid
   have k8:=HL9.out.sgCl1.cell
   have cM:=many_ok HL9.out.S n 12 (by omega) (by omega)
   clear cI hb HL
   go_wp2_with fail
   refine cM.mono ?_
   rintro e z2 ⟨rfl,e2⟩
   obtain rfl:=e2.symm
   clear cM e2 k8
   have cD:=reg_l HK.out HL9.out.S HPO.out.1
   go_wp2_with fail
   refine cD.mono ?_
   rintro e w3 ⟨dm,rfl,htr,hdp,hs,hm⟩
   have HDT:Hid (dm.tr=dt):=htr
   have HLp:=((HL9.out.add hm hs hdp).push ze 102).hid
   have HL4:=(HX.rowA (pre:=[]) HLp.out dm.vals).hid
   have HZ:Hid ((w3.alloc (.cells ze 102)).heap[w3§]? = (zC ze 102)):=heap_new _ _
   clear cD hs hm htr hdp HL9 HLp
   go_upto_region 10 with (refine wpList_store_row rfl 102 (.tmp 6) (.tmp 30) rfl w3§ dm.vals rfl rfl 102 ze HZ.out size100' rfl (all11 dm) ?_)
   generalize hW4:World.setRow _ _ _=W4
   rw [hW4] at HL4
   obtain⟨N4,eN4⟩:∃ q,w3§=q:=⟨_,rfl⟩
   rw [eN4] at HL4 ⊢
   clear eN4 HZ hW4
   have HN4:Hid (W4.heap[N4]? = (zC dm.vals 102)):=(HL4.out.B _ List.mem_cons_self).1
   have k8:W4.cell? N3¢1=some (.slice a n c):=cell_of (HL4.out.B _ (List.mem_cons_of_mem _ List.mem_cons_self)).1 1
   go_wp2_with (first | (refine wpList_load_row rfl 102 (.tmp 6) rfl N4 rfl 102 dm.vals (0,0) _ HN4.out Tryz.underlying102 rfl size100' ?_) | (refine wpList_slice1 rfl 22 102 (.tmp 33) rfl dm.vals rfl 11 _ Tryz.underlying22 104 inf100 rfl rfl (by decide) (by decide) ?_) | (at_builtin; refine app_h HL4.out 22 dm.vals rfl (all11 dm) _ 104 Tryz.underlying22 inf100 rfl (by decide) (by rw [List.length_map,HNN.out]; omega) (by decide) rfl (.tmp 32) (.tmp 34) rfl rfl rfl ?_; intro g7 cap7 w7 hl7; rw [List.length_map,HNN.out] at hl7 ⊢; have HL7:=hl7.pop.hid; obtain⟨av8,ac8,af8⟩:=HX.sgC HL7.out 1 (by omega); clear hl7))
   have HL8:=(HL7.out.sgR (some g7¢0) (n+1) cap7).hid
   have HX8:Hid (HX w b K (w7.setCell N3¢1 (.slice (some g7¢0) (n+1) cap7)) [(N3,26,sgA t2.x (some g7¢0) (n+1) cap7 none 0 0 none 0 0),(w§,26,sgA ⟨#[]⟩ none 0 0 none 0 0 none 0 0)] 102 11 (.slice (some g7¢0) (n+1) cap7) ((ds ++ [dm]).map RegM.vals) (fun U=>∀ d ∈ ds ++ [dm],RegL U d) ts1):=by
    rw [List.map_append]
    refine HL8.out.imp fun U hU=>(fun d hd=>?_)
    rcases List.mem_append.1 hd with hd | hd
    ·exact hU.1 d hd
    ·rw [List.mem_singleton.1 hd]; exact hU.2
   refine⟨?_,?_⟩
   ·exact⟨ds ++ [dm],_,n+1,cap7,ts1,rest',by rw [List.length_append,HNN.out]; rfl,by omega,HX8.out,by rw [show 12 - (n+1)=k' by omega]; exact HPO.out.2.1,by rw [← HAL.out,HPO.out.2.2,List.map_append,List.map_singleton,HDT.out]; simp⟩
   ·rw [HMS.out,HX8.out.sgCl1.clen]; omega
theorem all4' (r:StratM):r.vals.all (·.oneCell')=true:=by simp [StratM.vals,Value.oneCell']
theorem strat_l {s:yB}{S:StratT}(hz:s.size≤4096) (hp:pWhole s=some S) (w:yW):Calls zG 51 #[.string s] w fun e w'=>∃ m:StratM,e=.returned (.tuple #[.agg m.vals,.agg zn])∧m.tr=S∧StratL w' m∧yD w w':=by
 have HX0:=(XS.new w zi 26).hid
 obtain⟨W0,eW0⟩:∃ W,(w.alloc (.cells zi 26)).alloc (.cells zn 123)=W:=⟨_,rfl⟩
 rw [eW0] at HX0
 have cB:=begin_y s hz W0
 have HEW:Hid ((w.alloc (.cells zi 26)).alloc (.cells zn 123)=W0):=eW0
 unfold pWhole at hp
 obtain⟨q,hb,hq⟩:=opt_bind hp
 obtain⟨te,us,hq2,hte,rfl⟩:∃ te us,q.2=te :: us∧te.k=0∧q.1=S:=by
  cases h2:q.2 with
  | nil=>rw [h2] at hq; cases hq
  | cons t ts =>
   rw [h2] at hq
   simp only at hq
   by_cases e:t.k=0
   ·rw [if_pos e] at hq; cases hq; exact⟨t,ts,rfl,e,rfl⟩
   ·rw [if_neg e] at hq; cases hq
 have HPB:Hid (pBody (rdT s)=some (q.1,te :: us)∧te.k=0):=⟨by rw [hb,← hq2],hte⟩
 clear eW0 hp hb hq hq2 hte
 go_enter Tryz.func51,Tryz.ntmps51
 go_wp2_with fail
 try rw [HEW.out]
 clear HEW
 refine cB.mono ?_
 rintro e w1 ⟨b,K,rfl,hb,hs,hK,hB⟩
 have hz0:=(zJ HX0.out.f).1
 have HB1:Hid (w§+1 < b):=by show _ < _; omega
 have HX1:=(HX0.out.on hB).hid
 have cW:=whole_l hK hs HPB.out.1 HPB.out.2
 clear cB hb hs hK hB hz0 HX0
 go_wp2_with fail
 refine cW.mono ?_
 rintro e w2 ⟨m,rfl,htr,hdp,hs,hm⟩
 have HTR:Hid (m.tr=q.1):=htr
 have HX2:=(HX1.out.mv hm (fun k e=>by rw [e]; exact HB1.out)).hid
 have hz1:=(zJ HX1.out.f).1
 have HSZ:Hid (w§+1 < w1§∧w1§≤w2§):=⟨hz1,hm.size⟩
 have HZ:Hid ((w2.alloc (.cells zi 26)).heap[w2§]? = (zC zi 26)):=heap_new _ _
 have h3:yD w2 ((w2.alloc (.cells zi 26)).setRow w2§ m.vals):=below_row (below_new _ _) (Nat.le_refl _) _
 have HB3:Hid (yD w2 ((w2.alloc (.cells zi 26)).setRow w2§ m.vals)):=h3
 have HN3:Hid (((w2.alloc (.cells zi 26)).setRow w2§ m.vals).heap[w2§]? = (zC m.vals 26)):=setRow_heap _ _ _ _ _ _ HZ.out
 have HLV:=(hs.on h3).hid
 have HDP:Hid (Dp w1 w2 fun U=>StratL U m):=hdp
 have HX3:=(HX2.out.on h3).hid
 clear cW htr hdp hs hm HX1 hz1 HX2 h3
 go_upto_region 3 with (refine wpList_store_row rfl 26 (.tmp 5) (.tmp 9) rfl w2§ m.vals rfl rfl 26 zi HZ.out size43' rfl (all4' m) ?_)
 generalize hW3:World.setRow _ _ _=w3
 rw [hW3] at HB3 HN3 HLV HX3
 clear hW3 HZ
 obtain⟨N5,eN5⟩:∃ n,w2§=n:=⟨_,rfl⟩
 have HN5:Hid (w2§=N5):=eN5
 rw [eN5] at HN3 ⊢
 clear eN5
 obtain⟨i,p,u,hp,_⟩:=HLV.out
 have cO:=over_no hp
 clear hp
 go_wp2_with fail
 refine cO.mono ?_
 rintro e w4 ⟨rfl,e9⟩
 obtain rfl:=e9.symm
 clear cO e9
 have HY1:Hid ((w3.setRow w§ m.vals).heap[w§]? = (zC m.vals 26)∧(w3.setRow w§ m.vals).heap[w§+1]? = (zC zn 123)∧yD w (w3.setRow w§ m.vals)):=⟨setRow_heap _ _ _ _ _ _ HX3.out.z,(setRow_oth _ _ _ (by omega)).trans HX3.out.f,below_row HX3.out.B (Nat.le_refl _) _⟩
 have HY2:Hid (((w3.setRow w§ m.vals).setRow (w§+1) zn).heap[w§]? = (zC m.vals 26)∧((w3.setRow w§ m.vals).setRow (w§+1) zn).heap[w§+1]? = (zC zn 123)∧yD w ((w3.setRow w§ m.vals).setRow (w§+1) zn)):=⟨(setRow_oth _ _ _ (by omega)).trans HY1.out.1,setRow_heap _ _ _ _ _ _ HY1.out.2.1,below_row HY1.out.2.2 (by omega) _⟩
 have HSL:Hid (StratL ((w3.setRow w§ m.vals).setRow (w§+1) zn) m):=by
  have h1:=HSZ.out
  refine HDP.out _ fun k k1 k2=>?_
  rw [setRow_oth _ _ _ (by omega),setRow_oth _ _ _ (by omega)]
  exact HB3.out.block k k2
 go_wp2_with (first | (refine wpList_load_row rfl 26 (.tmp 5) rfl N5 rfl 26 m.vals (0,0) _ HN3.out Tryz.underlying26 rfl size43' ?_) | (refine wpList_store_row rfl 26 (.tmp 2) (.tmp 17) rfl w§ m.vals rfl rfl 26 _ HX3.out.z size43' rfl (all4' m) ?_) | (refine wpList_store_row rfl 123 (.tmp 3) (.tmp 18) rfl (w§+1) zn rfl rfl 123 _ HY1.out.2.1 size50 rfl (by simp [Value.oneCell']) ?_))
 exact bodyPost_ret (results_cc rfl _ _ w§ (w§+1) 26 123 m.vals zn (0,0) (0,0) _ _ rfl HY2.out.1 Tryz.underlying26 rfl size43' rfl HY2.out.2.1 Tryz.underlying123 rfl size50) rfl ⟨m,rfl,HTR.out,HSL.out,HY2.out.2.2⟩
end Go.Proofs.YtfbjofnaghjmeaaGreatDoor
