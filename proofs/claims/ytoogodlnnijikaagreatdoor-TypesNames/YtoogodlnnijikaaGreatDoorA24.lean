import Derived.Test.YtoogodlnnijikaaGreatDoorA0
import Derived.Test.YtoogodlnnijikaaGreatDoorA23
import Derived.Deep.MidRow
namespace Go.Proofs.YtoogodlnnijikaaGreatDoor
set_option maxHeartbeats 4000000
set_option maxRecDepth 100000
open Go.RowKit
set_option linter.unusedVariables false
theorem Q2 (V:yW) (N o:Nat) (m:Nd):V.setCells N o m.vals.toList=((((((((V.setCell N¢o (zU m.h.k)).setCell ⟨N,o+1,none⟩ (zU m.h.o)).setCell ⟨N,o+2,none⟩ (zU m.h.t)).setCell ⟨N,o+3,none⟩ (zI m.h.n)).setCell ⟨N,o+4,none⟩ (zU m.h.f)).setCell ⟨N,o+5,none⟩ (.string m.h.x)).setCell ⟨N,o+6,none⟩ (.slice m.a m.ks.length m.c)).setCell ⟨N,o+7,none⟩ (zI m.h.p)):=rfl
theorem QN:(Tryz.prog.info? 48).map (·.size)=some 8:=by kernel_rfl
theorem all8 (m:Nd):m.vals.all (·.oneCell')=true:=by simp [Nd.vals,hdA,Value.oneCell']
theorem HX.thereA {w:yW}{b:Nat}{K:PK}{V:yW}{pre post:List (Nat × Nat × Array Value)}{N:Nat}{e sz:Nat}{v:Value}{vs:List (Array Value)}{F:yW→Prop}{ts:List Tk}{T:Nat}{cs:Array Value}(h:HX w b K V (pre ++ (N,T,cs) :: post) e sz v vs F ts) (o n:Nat) (hi:o+n≤cs.size):V.there N o n:=fun j hj=>by
 obtain⟨u,h1,h2⟩:=h.cellA (o+j) (by omega)
 exact⟨by rw [h1]; rfl,h2⟩
theorem HX.doT {w:yW}{b:Nat}{K:PK}{V:yW}{post:List (Nat × Nat × Array Value)}{N:Nat}{e sz:Nat}{v:Value}{vs:List (Array Value)}{F:yW→Prop}{ts:List Tk}{k o:Int}{x:yB}{s q r u:Nd}{p:Int}(h:HX w b K V ((N,105,doA k o x s q r u p) :: post) e sz v vs F ts) (i:Nat) (hi:i+8≤36):V.there N i 8:=HX.thereA (pre:=[]) h i 8 hi
theorem HX.doSdS {w:yW}{b:Nat}{K:PK}{V:yW}{post:List (Nat × Nat × Array Value)}{N:Nat}{e sz:Nat}{v:Value}{vs:List (Array Value)}{F:yW→Prop}{ts:List Tk}{k o:Int}{x:yB}{s q r u:Nd}{p:Int}(h:HX w b K V ((N,105,doA k o x s q r u p) :: post) e sz v vs F ts) (m:Nd):HX w b K (V.setCells N 3 m.vals.toList) ((N,105,doA k o x m q r u p) :: post) e sz v vs F ts:=by
 rw [Q2]
 exact h.doSd m
theorem HX.doQtS {w:yW}{b:Nat}{K:PK}{V:yW}{post:List (Nat × Nat × Array Value)}{N:Nat}{e sz:Nat}{v:Value}{vs:List (Array Value)}{F:yW→Prop}{ts:List Tk}{k o:Int}{x:yB}{s q r u:Nd}{p:Int}(h:HX w b K V ((N,105,doA k o x s q r u p) :: post) e sz v vs F ts) (m:Nd):HX w b K (V.setCells N 11 m.vals.toList) ((N,105,doA k o x s m r u p) :: post) e sz v vs F ts:=by
 rw [Q2]
 exact h.doQt m
theorem HX.doPrS {w:yW}{b:Nat}{K:PK}{V:yW}{post:List (Nat × Nat × Array Value)}{N:Nat}{e sz:Nat}{v:Value}{vs:List (Array Value)}{F:yW→Prop}{ts:List Tk}{k o:Int}{x:yB}{s q r u:Nd}{p:Int}(h:HX w b K V ((N,105,doA k o x s q r u p) :: post) e sz v vs F ts) (m:Nd):HX w b K (V.setCells N 19 m.vals.toList) ((N,105,doA k o x s q m u p) :: post) e sz v vs F ts:=by
 rw [Q2]
 exact h.doPr m
theorem HX.doVlS {w:yW}{b:Nat}{K:PK}{V:yW}{post:List (Nat × Nat × Array Value)}{N:Nat}{e sz:Nat}{v:Value}{vs:List (Array Value)}{F:yW→Prop}{ts:List Tk}{k o:Int}{x:yB}{s q r u:Nd}{p:Int}(h:HX w b K V ((N,105,doA k o x s q r u p) :: post) e sz v vs F ts) (m:Nd):HX w b K (V.setCells N 27 m.vals.toList) ((N,105,doA k o x s q r m p) :: post) e sz v vs F ts:=by
 rw [Q2]
 exact h.doVl m
theorem Jh (k p:Int):#[zU k,zU 0,yQ,zU 0,zU 0,zU 0,zI 0,zU 0,yQ,.slice none 0 0,zI 0,zU 0,zU 0,zU 0,zI 0,zU 0,yQ,.slice none 0 0,zI 0,zU 0,zU 0,zU 0,zI 0,zU 0,yQ,.slice none 0 0,zI 0,zU 0,zU 0,zU 0,zI 0,zU 0,yQ,.slice none 0 0,zI 0,zI p]=doA k 0 ⟨#[]⟩ nd00 nd00 nd00 nd00 p:=by kernel_rfl
theorem J8 {us:List Tk}{q:Tr × List Tk}(h:pEx us=some q):∃ t ts,us=t :: ts:=by
 cases us with
 | nil=>unfold pEx at h; rw [exprT_nil] at h; cases h
 | cons t ts=>exact⟨t,ts,rfl⟩
theorem pSubmit_inv {ts:List Tk}{r:DoT}{ts':List Tk}(h:pSubmit ts=some (r,ts')):∃ t1 a1 as1 sd t2 a2 as2 qt,∃ us:List Tk,∃ y:(Tr × Int) × List Tk,∃ x,ts=t1 :: a1 :: as1∧t1.x=Z6∧pEx (a1 :: as1)=some (sd,t2 :: a2 :: as2)∧t2.x=ZS∧pEx (a2 :: as2)=some (qt,us)∧pSel us=some y∧pAs y.2=some (x,ts')∧r=⟨1,y.1.2,x,sd,qt,y.1.1,tr0,t1.p⟩:=by
 unfold pSubmit at h
 obtain⟨a,h1,h⟩:=Qn h
 obtain⟨b,h2,h⟩:=Qn h
 obtain⟨c,h3,h⟩:=Qn h
 obtain⟨d,h4,h⟩:=Qn h
 obtain⟨e,h5,h⟩:=Qn h
 obtain⟨f,h6,h⟩:=Qn h
 cases h
 obtain⟨t1,rfl,k1,k1'⟩:=QK h1
 obtain⟨a1,as1,e1⟩:=J8 h2
 obtain⟨t2,g3,k3,_⟩:=QK h3
 obtain⟨a2,as2,e2⟩:=J8 h4
 refine⟨t1,a1,as1,b.1,t2,a2,as2,d.1,d.2,e,f.1,by rw [e1],k1,?_,k3,?_,h5,h6,by rw [k1']⟩
 ·rw [← e1,h2,← e2,← g3]
 ·rw [← e2,h4]
theorem Qk:(Tryz.prog.info? 105).map (·.size)=some 36:=by kernel_rfl
theorem Km {w:yW}{b:Nat}{K:PK}{V:yW}{bs:List (Nat × Nat × Array Value)}{e sz:Nat}{v:Value}{vs:List (Array Value)}{F:yW→Prop}{ts:List Tk}{d:DoM}{r:DoT}(h:HX w b K V bs e sz v vs F ts) (hr:d.tr=r) (hF:∀ U,F U→DoL U d):OutL DoM.vals DoM.tr DoL b K w r ts (.returned (.agg d.vals)) V :=
 ⟨d,rfl,hr,h.fin.1.imp hF,h.S,h.M⟩
theorem submit_mn {w:yW}{b:Nat}{K:PK}{t1 a1 t2 a2 t3 a3 t4 t5 t6:Tk}{as1 as2 as3 us4 us6:List Tk}{sd qt pr:Tr}{u:Int}(hK:KG K) (h:Lv w b K (t1 :: a1 :: as1)) (k1:t1.x=Z6) (h1:pEx (a1 :: as1)=some (sd,t2 :: a2 :: as2)) (k2:t2.x=ZS) (h2:pEx (a2 :: as2)=some (qt,t3 :: us4)) (hv:fnd t3.x [Zr,Zp] 0=0) (h4:us4=t5 :: us6) (k5:¬ t5.x=ZO) :
  Calls zG 157 #[zP b] w (OutL DoM.vals DoM.tr DoL b K w ⟨1,2,gE,sd,qt,tr0,tr0,t1.p⟩ (t5 :: us6)):=by
 subst h4
 have HK:Hid (KG K):=hK
 have HT1:Hid (RgT t1):=(h.ok hK.k).r
 have HG0:=((HX.new h 0 0).push #[zU 0,zU 0,yQ,zU 0,zU 0,zU 0,zI 0,zU 0,yQ,.slice none 0 0,zI 0,zU 0,zU 0,zU 0,zI 0,zU 0,yQ,.slice none 0 0,zI 0,zU 0,zU 0,zU 0,zI 0,zU 0,yQ,.slice none 0 0,zI 0,zU 0,zU 0,zU 0,zI 0,zU 0,yQ,.slice none 0 0,zI 0,zI 0] 105).hid
 clear h hK
 obtain⟨W0,eW0⟩:∃ W,w.alloc (.cells #[zU 0,zU 0,yQ,zU 0,zU 0,zU 0,zI 0,zU 0,yQ,.slice none 0 0,zI 0,zU 0,zU 0,zU 0,zI 0,zU 0,yQ,.slice none 0 0,zI 0,zU 0,zU 0,zU 0,zI 0,zU 0,yQ,.slice none 0 0,zI 0,zU 0,zU 0,zU 0,zI 0,zU 0,yQ,.slice none 0 0,zI 0,zI 0] 105)=W:=⟨_,rfl⟩
 rw [eW0,Jh] at HG0
 have cT:=QT HK.out HG0.out.S Z6 (by decide +kernel) k1
 clear k1
 go_enter Tryz.func157,Tryz.ntmps157
 go_wp2_with fail
 try rw [eW0]
 refine cT.mono ?_
 rintro e w1 ⟨rfl,hs,hm⟩
 have HGp:=((HG0.out.mv hm hs).push #[zU 0,zU 0,yQ,zU 0,zU 0,zU 0,zI 0,zU 0,yQ,.slice none 0 0,zI 0,zU 0,zU 0,zU 0,zI 0,zU 0,yQ,.slice none 0 0,zI 0,zU 0,zU 0,zU 0,zI 0,zU 0,yQ,.slice none 0 0,zI 0,zU 0,zU 0,zU 0,zI 0,zU 0,yQ,.slice none 0 0,zI 0,zI 0] 105).hid
 have HG1:=(HX.rowA (pre:=[]) HGp.out #[zU 1,zU 0,yQ,zU 0,zU 0,zU 0,zI 0,zU 0,yQ,.slice none 0 0,zI 0,zU 0,zU 0,zU 0,zI 0,zU 0,yQ,.slice none 0 0,zI 0,zU 0,zU 0,zU 0,zI 0,zU 0,yQ,.slice none 0 0,zI 0,zU 0,zU 0,zU 0,zI 0,zU 0,yQ,.slice none 0 0,zI 0,zI t1.p]).hid
 have HZ:Hid ((w1.alloc (.cells #[zU 0,zU 0,yQ,zU 0,zU 0,zU 0,zI 0,zU 0,yQ,.slice none 0 0,zI 0,zU 0,zU 0,zU 0,zI 0,zU 0,yQ,.slice none 0 0,zI 0,zU 0,zU 0,zU 0,zI 0,zU 0,yQ,.slice none 0 0,zI 0,zU 0,zU 0,zU 0,zI 0,zU 0,yQ,.slice none 0 0,zI 0,zI 0] 105)).heap[w1§]? = (zC #[zU 0,zU 0,yQ,zU 0,zU 0,zU 0,zI 0,zU 0,yQ,.slice none 0 0,zI 0,zU 0,zU 0,zU 0,zI 0,zU 0,yQ,.slice none 0 0,zI 0,zU 0,zU 0,zU 0,zI 0,zU 0,yQ,.slice none 0 0,zI 0,zU 0,zU 0,zU 0,zI 0,zU 0,yQ,.slice none 0 0,zI 0,zI 0] 105)):=Qd _ _
 clear cT hs hm HG0 eW0 HGp
 obtain⟨cs1,ecs1⟩:∃ c:Array Value,#[zU 1,zU 0,yQ,zU 0,zU 0,zU 0,zI 0,zU 0,yQ,.slice none 0 0,zI 0,zU 0,zU 0,zU 0,zI 0,zU 0,yQ,.slice none 0 0,zI 0,zU 0,zU 0,zU 0,zI 0,zU 0,yQ,.slice none 0 0,zI 0,zU 0,zU 0,zU 0,zI 0,zU 0,yQ,.slice none 0 0,zI 0,zI t1.p]=c:=⟨_,rfl⟩
 have hcs1:cs1.size=36:=by rw [← ecs1]; rfl
 have hcs2:cs1.all (·.oneCell')=true:=by rw [← ecs1]; simp [Value.oneCell']
 rw [ecs1] at HG1
 go_upto_region 2 with (refine wpList_store_row rfl 105 (.tmp 3) (.tmp 9) rfl w1§ cs1 rfl (by first | rfl | exact congrArg Value.agg ecs1) 105 #[zU 0,zU 0,yQ,zU 0,zU 0,zU 0,zI 0,zU 0,yQ,.slice none 0 0,zI 0,zU 0,zU 0,zU 0,zI 0,zU 0,yQ,.slice none 0 0,zI 0,zU 0,zU 0,zU 0,zI 0,zU 0,yQ,.slice none 0 0,zI 0,zU 0,zU 0,zU 0,zI 0,zU 0,yQ,.slice none 0 0,zI 0,zI 0] HZ.out (by rw [hcs1]; exact Qk) (by rw [hcs1]; rfl) hcs2 ?_)
 generalize hW1:World.setRow _ _ _=W1
 rw [hW1,← ecs1,Jh] at HG1
 obtain⟨N3,eN3⟩:∃ q,w1§=q:=⟨_,rfl⟩
 rw [eN3] at HG1 ⊢
 clear eN3 HZ hW1
 generalize Value.agg _=D0
 clear ecs1 hcs1 hcs2
 have cE:=JE HK.out HG1.out.S h1
 go_wp2_with fail
 refine cE.mono ?_
 rintro e ua1 ⟨m1,rfl,htr,hdp,hs,hm⟩
 have HM1:Hid (Qh m1=_):=htr
 have HA1:=(HG1.out.add hm hs hdp).hid
 have HB1:=(HA1.out.doSdS m1).hid
 clear cE hs hm htr hdp HG1 h1
 go_upto_region 3 with (refine wpList_store_mid rfl 48 (.tmp 12) (.tmp 11) rfl N3 3 m1.vals rfl rfl (HA1.out.doT 3 (by omega)) QN (all8 m1) ?_)
 generalize hY:World.setCells _ _ _ _=Y1
 rw [hY] at HB1
 clear hY HA1
 have cT:=QT HK.out HB1.out.S ZS (by decide +kernel) k2
 go_wp2_with fail
 refine cT.mono ?_
 rintro e w2 ⟨rfl,hs,hm⟩
 have HG2:=(HB1.out.mv hm hs).hid
 clear cT hs hm HB1 k2
 have cE:=JE HK.out HG2.out.S h2
 go_wp2_with fail
 refine cE.mono ?_
 rintro e ua2 ⟨m2,rfl,htr,hdp,hs,hm⟩
 have HM2:Hid (Qh m2=_):=htr
 have HA2:=(HG2.out.add hm hs hdp).hid
 have HB2:=(HA2.out.doQtS m2).hid
 clear cE hs hm htr hdp HG2 h2
 go_upto_region 5 with (refine wpList_store_mid rfl 48 (.tmp 17) (.tmp 16) rfl N3 11 m2.vals rfl rfl (HA2.out.doT 11 (by omega)) QN (all8 m2) ?_)
 generalize hY:World.setCells _ _ _ _=Y2
 rw [hY] at HB2
 clear hY HA2
 have HW:Hid (yD Y2 (Y2.alloc (.cells zw 9))):=Qc _ _
 have hSL:SLs (Y2.alloc (.cells zw 9)) Y2§ [Zr,Zp]:=fun j hj=>by
  have hh:=Qd Y2 (.cells zw 9)
  match j,hj with
  | 0,_=>exact Qa hh 0
  | 1,_=>exact Qa hh 1
 have cA:=Qv (HB2.out.S.on HW.out) (n:=2) (c:=2) hSL rfl (by omega) (by intro x hx; simp only [List.mem_cons,List.not_mem_nil,or_false] at hx; rcases hx with rfl | rfl <;> exact J9 (HB2.out.S.gd HK.out) (by decide +kernel))
 clear hSL
 rw [hv] at cA
 clear hv
 go_wp2_with fail
 refine cA.mono ?_
 rintro e wa3 ⟨rfl,hb4⟩
 have HGa3:=((HB2.out.on HW.out).on hb4).hid
 obtain⟨i,c3,f3,hmx,hL,hM,_,_⟩:=HGa3.out.S.at'
 obtain⟨V3,eV⟩:∃ V,wa3.setCell b¢3 (zI ((i:Int)+1))=V:=⟨_,rfl⟩
 rw [eV] at hL hM
 have HGb3:=(HGa3.out.mv hM hL).hid
 clear cA hb4 HW HB2 hL hM HGa3
 go_upto_region 10 with fail
 try rw [eV]
 clear eV c3 f3 hmx
 obtain⟨v1,c1,f1⟩:=HX.cellA (pre:=[]) HGb3.out 1 (by rw [JV]; omega)
 have HO:=(HGb3.out.doO 2).hid
 go_upto_region 11 with fail
 generalize hY:World.setCell _ _ _=Y3
 rw [hY] at HO
 clear hY c1 f1 HGb3
 have cI:=is_l HK.out HO.out.S ZO (by decide +kernel) (i:=false) (by simp only [pIs]; exact decide_eq_false k5)
 clear k5
 go_wp2_with fail
 refine cI.mono ?_
 rintro e wi ⟨rfl,hbi⟩
 have HI:=(HO.out.on hbi).hid
 clear cI hbi HO
 have HC:Hid (wi.heap[N3]? = (zC (doA 1 2 ⟨#[]⟩ m1 m2 nd00 nd00 t1.p) 105)):=(HI.out.B _ List.mem_cons_self).1
 have HQ:Hid (wi.heap[w§]? = (zC (doA 0 0 ⟨#[]⟩ nd00 nd00 nd00 nd00 0) 105)):=(HI.out.B _ (List.mem_cons_of_mem _ List.mem_cons_self)).1
 have HF:=(HX.rowA (pre:=[_]) HI.out (doA 1 2 ⟨#[]⟩ m1 m2 nd00 nd00 t1.p)).hid
 have HR:Hid ((wi.setRow w§ (doA 1 2 ⟨#[]⟩ m1 m2 nd00 nd00 t1.p)).heap[w§]? = (zC (doA 1 2 ⟨#[]⟩ m1 m2 nd00 nd00 t1.p) 105)):=(HF.out.B _ (List.mem_cons_of_mem _ List.mem_cons_self)).1
 go_wp2_with (first | (refine wpList_load_row rfl 105 (.tmp 3) rfl N3 rfl 105 (doA 1 2 ⟨#[]⟩ m1 m2 nd00 nd00 t1.p) (0,0) _ HC.out Tryz.underlying105 rfl Qk ?_) | (refine wpList_store_row rfl 105 (.tmp 2) (.tmp 72) rfl w§ (doA 1 2 ⟨#[]⟩ m1 m2 nd00 nd00 t1.p) rfl rfl 105 _ HQ.out Qk rfl (JY ..) ?_))
 refine bodyPost_ret (results_cell_row rfl _ _ w§ 105 (doA 1 2 ⟨#[]⟩ m1 m2 nd00 nd00 t1.p) (0,0) _ rfl HR.out Tryz.underlying105 rfl Qk) rfl (Km (d:=⟨1,2,⟨#[]⟩,m1,m2,nd00,nd00,t1.p⟩) HF.out ?_ fun U hU=>⟨hU.1.2,hU.2,QA U rg0,QA U rg0,⟨by show (0:Int)≤1; decide,by show (1:Int)≤255; decide⟩,⟨by show (0:Int)≤2; decide,by show (2:Int)≤255; decide⟩,⟨HT1.out.p0,HT1.out.p1⟩,(show gE.size≤140737488355328 by decide)⟩)
 show DoT.mk 1 2 ⟨#[]⟩ (Qh m1) (Qh m2) (Qh nd00) tr0 t1.p=_
 rw [HM1.out,HM2.out]
 all_goals rfl
theorem submit_mx {w:yW}{b:Nat}{K:PK}{t1 a1 t2 a2 t3 a3 t4 t5 t6:Tk}{as1 as2 as3 us4 us6:List Tk}{sd qt pr:Tr}{u:Int}(hK:KG K) (h:Lv w b K (t1 :: a1 :: as1)) (k1:t1.x=Z6) (h1:pEx (a1 :: as1)=some (sd,t2 :: a2 :: as2)) (k2:t2.x=ZS) (h2:pEx (a2 :: as2)=some (qt,t3 :: us4)) (hv:fnd t3.x [Zr,Zp] 0=0) (h4:us4=t5 :: t6 :: us6) (k5:t5.x=ZO) (k6:t6.k=2) :
  Calls zG 157 #[zP b] w (OutL DoM.vals DoM.tr DoL b K w ⟨1,2,t6.x,sd,qt,tr0,tr0,t1.p⟩ us6):=by
 subst h4
 have HK:Hid (KG K):=hK
 have HT1:Hid (RgT t1):=(h.ok hK.k).r
 have HG0:=((HX.new h 0 0).push #[zU 0,zU 0,yQ,zU 0,zU 0,zU 0,zI 0,zU 0,yQ,.slice none 0 0,zI 0,zU 0,zU 0,zU 0,zI 0,zU 0,yQ,.slice none 0 0,zI 0,zU 0,zU 0,zU 0,zI 0,zU 0,yQ,.slice none 0 0,zI 0,zU 0,zU 0,zU 0,zI 0,zU 0,yQ,.slice none 0 0,zI 0,zI 0] 105).hid
 clear h hK
 obtain⟨W0,eW0⟩:∃ W,w.alloc (.cells #[zU 0,zU 0,yQ,zU 0,zU 0,zU 0,zI 0,zU 0,yQ,.slice none 0 0,zI 0,zU 0,zU 0,zU 0,zI 0,zU 0,yQ,.slice none 0 0,zI 0,zU 0,zU 0,zU 0,zI 0,zU 0,yQ,.slice none 0 0,zI 0,zU 0,zU 0,zU 0,zI 0,zU 0,yQ,.slice none 0 0,zI 0,zI 0] 105)=W:=⟨_,rfl⟩
 rw [eW0,Jh] at HG0
 have cT:=QT HK.out HG0.out.S Z6 (by decide +kernel) k1
 clear k1
 go_enter Tryz.func157,Tryz.ntmps157
 go_wp2_with fail
 try rw [eW0]
 refine cT.mono ?_
 rintro e w1 ⟨rfl,hs,hm⟩
 have HGp:=((HG0.out.mv hm hs).push #[zU 0,zU 0,yQ,zU 0,zU 0,zU 0,zI 0,zU 0,yQ,.slice none 0 0,zI 0,zU 0,zU 0,zU 0,zI 0,zU 0,yQ,.slice none 0 0,zI 0,zU 0,zU 0,zU 0,zI 0,zU 0,yQ,.slice none 0 0,zI 0,zU 0,zU 0,zU 0,zI 0,zU 0,yQ,.slice none 0 0,zI 0,zI 0] 105).hid
 have HG1:=(HX.rowA (pre:=[]) HGp.out #[zU 1,zU 0,yQ,zU 0,zU 0,zU 0,zI 0,zU 0,yQ,.slice none 0 0,zI 0,zU 0,zU 0,zU 0,zI 0,zU 0,yQ,.slice none 0 0,zI 0,zU 0,zU 0,zU 0,zI 0,zU 0,yQ,.slice none 0 0,zI 0,zU 0,zU 0,zU 0,zI 0,zU 0,yQ,.slice none 0 0,zI 0,zI t1.p]).hid
 have HZ:Hid ((w1.alloc (.cells #[zU 0,zU 0,yQ,zU 0,zU 0,zU 0,zI 0,zU 0,yQ,.slice none 0 0,zI 0,zU 0,zU 0,zU 0,zI 0,zU 0,yQ,.slice none 0 0,zI 0,zU 0,zU 0,zU 0,zI 0,zU 0,yQ,.slice none 0 0,zI 0,zU 0,zU 0,zU 0,zI 0,zU 0,yQ,.slice none 0 0,zI 0,zI 0] 105)).heap[w1§]? = (zC #[zU 0,zU 0,yQ,zU 0,zU 0,zU 0,zI 0,zU 0,yQ,.slice none 0 0,zI 0,zU 0,zU 0,zU 0,zI 0,zU 0,yQ,.slice none 0 0,zI 0,zU 0,zU 0,zU 0,zI 0,zU 0,yQ,.slice none 0 0,zI 0,zU 0,zU 0,zU 0,zI 0,zU 0,yQ,.slice none 0 0,zI 0,zI 0] 105)):=Qd _ _
 clear cT hs hm HG0 eW0 HGp
 obtain⟨cs1,ecs1⟩:∃ c:Array Value,#[zU 1,zU 0,yQ,zU 0,zU 0,zU 0,zI 0,zU 0,yQ,.slice none 0 0,zI 0,zU 0,zU 0,zU 0,zI 0,zU 0,yQ,.slice none 0 0,zI 0,zU 0,zU 0,zU 0,zI 0,zU 0,yQ,.slice none 0 0,zI 0,zU 0,zU 0,zU 0,zI 0,zU 0,yQ,.slice none 0 0,zI 0,zI t1.p]=c:=⟨_,rfl⟩
 have hcs1:cs1.size=36:=by rw [← ecs1]; rfl
 have hcs2:cs1.all (·.oneCell')=true:=by rw [← ecs1]; simp [Value.oneCell']
 rw [ecs1] at HG1
 go_upto_region 2 with (refine wpList_store_row rfl 105 (.tmp 3) (.tmp 9) rfl w1§ cs1 rfl (by first | rfl | exact congrArg Value.agg ecs1) 105 #[zU 0,zU 0,yQ,zU 0,zU 0,zU 0,zI 0,zU 0,yQ,.slice none 0 0,zI 0,zU 0,zU 0,zU 0,zI 0,zU 0,yQ,.slice none 0 0,zI 0,zU 0,zU 0,zU 0,zI 0,zU 0,yQ,.slice none 0 0,zI 0,zU 0,zU 0,zU 0,zI 0,zU 0,yQ,.slice none 0 0,zI 0,zI 0] HZ.out (by rw [hcs1]; exact Qk) (by rw [hcs1]; rfl) hcs2 ?_)
 generalize hW1:World.setRow _ _ _=W1
 rw [hW1,← ecs1,Jh] at HG1
 obtain⟨N3,eN3⟩:∃ q,w1§=q:=⟨_,rfl⟩
 rw [eN3] at HG1 ⊢
 clear eN3 HZ hW1
 generalize Value.agg _=D0
 clear ecs1 hcs1 hcs2
 have cE:=JE HK.out HG1.out.S h1
 go_wp2_with fail
 refine cE.mono ?_
 rintro e ua1 ⟨m1,rfl,htr,hdp,hs,hm⟩
 have HM1:Hid (Qh m1=_):=htr
 have HA1:=(HG1.out.add hm hs hdp).hid
 have HB1:=(HA1.out.doSdS m1).hid
 clear cE hs hm htr hdp HG1 h1
 go_upto_region 3 with (refine wpList_store_mid rfl 48 (.tmp 12) (.tmp 11) rfl N3 3 m1.vals rfl rfl (HA1.out.doT 3 (by omega)) QN (all8 m1) ?_)
 generalize hY:World.setCells _ _ _ _=Y1
 rw [hY] at HB1
 clear hY HA1
 have cT:=QT HK.out HB1.out.S ZS (by decide +kernel) k2
 go_wp2_with fail
 refine cT.mono ?_
 rintro e w2 ⟨rfl,hs,hm⟩
 have HG2:=(HB1.out.mv hm hs).hid
 clear cT hs hm HB1 k2
 have cE:=JE HK.out HG2.out.S h2
 go_wp2_with fail
 refine cE.mono ?_
 rintro e ua2 ⟨m2,rfl,htr,hdp,hs,hm⟩
 have HM2:Hid (Qh m2=_):=htr
 have HA2:=(HG2.out.add hm hs hdp).hid
 have HB2:=(HA2.out.doQtS m2).hid
 clear cE hs hm htr hdp HG2 h2
 go_upto_region 5 with (refine wpList_store_mid rfl 48 (.tmp 17) (.tmp 16) rfl N3 11 m2.vals rfl rfl (HA2.out.doT 11 (by omega)) QN (all8 m2) ?_)
 generalize hY:World.setCells _ _ _ _=Y2
 rw [hY] at HB2
 clear hY HA2
 have HW:Hid (yD Y2 (Y2.alloc (.cells zw 9))):=Qc _ _
 have hSL:SLs (Y2.alloc (.cells zw 9)) Y2§ [Zr,Zp]:=fun j hj=>by
  have hh:=Qd Y2 (.cells zw 9)
  match j,hj with
  | 0,_=>exact Qa hh 0
  | 1,_=>exact Qa hh 1
 have cA:=Qv (HB2.out.S.on HW.out) (n:=2) (c:=2) hSL rfl (by omega) (by intro x hx; simp only [List.mem_cons,List.not_mem_nil,or_false] at hx; rcases hx with rfl | rfl <;> exact J9 (HB2.out.S.gd HK.out) (by decide +kernel))
 clear hSL
 rw [hv] at cA
 clear hv
 go_wp2_with fail
 refine cA.mono ?_
 rintro e wa3 ⟨rfl,hb4⟩
 have HGa3:=((HB2.out.on HW.out).on hb4).hid
 obtain⟨i,c3,f3,hmx,hL,hM,_,_⟩:=HGa3.out.S.at'
 obtain⟨V3,eV⟩:∃ V,wa3.setCell b¢3 (zI ((i:Int)+1))=V:=⟨_,rfl⟩
 rw [eV] at hL hM
 have HGb3:=(HGa3.out.mv hM hL).hid
 clear cA hb4 HW HB2 hL hM HGa3
 go_upto_region 10 with fail
 try rw [eV]
 clear eV c3 f3 hmx
 obtain⟨v1,c1,f1⟩:=HX.cellA (pre:=[]) HGb3.out 1 (by rw [JV]; omega)
 have HO:=(HGb3.out.doO 2).hid
 go_upto_region 11 with fail
 generalize hY:World.setCell _ _ _=Y3
 rw [hY] at HO
 clear hY c1 f1 HGb3
 have cI:=is_l HK.out HO.out.S ZO (by decide +kernel) (i:=true) (by simp only [pIs]; exact decide_eq_true k5)
 clear k5
 go_wp2_with fail
 refine cI.mono ?_
 rintro e wi ⟨rfl,hbi⟩
 have HI:=(HO.out.on hbi).hid
 clear cI hbi HO
 obtain⟨i,c3,f3,hmx,hL,hM,_,_⟩:=HI.out.S.at'
 obtain⟨Vi,eV⟩:∃ V,wi.setCell b¢3 (zI ((i:Int)+1))=V:=⟨_,rfl⟩
 rw [eV] at hL hM
 have HJ:=(HI.out.mv hM hL).hid
 clear hL hM HI
 go_upto_region 22 with fail
 try rw [eV]
 clear eV c3 f3 hmx
 have HT6:Hid (RgT t6):=(HJ.out.S.ok HK.out.k).r
 have cN:=Kj HJ.out.S k6
 clear k6
 go_wp2_with fail
 refine cN.mono ?_
 rintro e wn ⟨rfl,hs,hm⟩
 have HN1:=(HJ.out.mv hm hs).hid
 obtain⟨v1,c1,f1⟩:=HX.cellA (pre:=[]) HN1.out 2 (by rw [JV]; omega)
 have HN2:=(HN1.out.doX t6.x).hid
 clear cN hs hm HJ
 go_upto_region 23 with fail
 generalize hY:World.setCell _ _ _=Yx
 rw [hY] at HN2
 clear hY c1 f1 HN1
 have HC:Hid (Yx.heap[N3]? = (zC (doA 1 2 t6.x m1 m2 nd00 nd00 t1.p) 105)):=(HN2.out.B _ List.mem_cons_self).1
 have HQ:Hid (Yx.heap[w§]? = (zC (doA 0 0 ⟨#[]⟩ nd00 nd00 nd00 nd00 0) 105)):=(HN2.out.B _ (List.mem_cons_of_mem _ List.mem_cons_self)).1
 have HF:=(HX.rowA (pre:=[_]) HN2.out (doA 1 2 t6.x m1 m2 nd00 nd00 t1.p)).hid
 have HR:Hid ((Yx.setRow w§ (doA 1 2 t6.x m1 m2 nd00 nd00 t1.p)).heap[w§]? = (zC (doA 1 2 t6.x m1 m2 nd00 nd00 t1.p) 105)):=(HF.out.B _ (List.mem_cons_of_mem _ List.mem_cons_self)).1
 go_wp2_with (first | (refine wpList_load_row rfl 105 (.tmp 3) rfl N3 rfl 105 (doA 1 2 t6.x m1 m2 nd00 nd00 t1.p) (0,0) _ HC.out Tryz.underlying105 rfl Qk ?_) | (refine wpList_store_row rfl 105 (.tmp 2) (.tmp 72) rfl w§ (doA 1 2 t6.x m1 m2 nd00 nd00 t1.p) rfl rfl 105 _ HQ.out Qk rfl (JY ..) ?_))
 refine bodyPost_ret (results_cell_row rfl _ _ w§ 105 (doA 1 2 t6.x m1 m2 nd00 nd00 t1.p) (0,0) _ rfl HR.out Tryz.underlying105 rfl Qk) rfl (Km (d:=⟨1,2,t6.x,m1,m2,nd00,nd00,t1.p⟩) HF.out ?_ fun U hU=>⟨hU.1.2,hU.2,QA U rg0,QA U rg0,⟨by show (0:Int)≤1; decide,by show (1:Int)≤255; decide⟩,⟨by show (0:Int)≤2; decide,by show (2:Int)≤255; decide⟩,⟨HT1.out.p0,HT1.out.p1⟩,HT6.out.x1⟩)
 show DoT.mk 1 2 t6.x (Qh m1) (Qh m2) (Qh nd00) tr0 t1.p=_
 rw [HM1.out,HM2.out]
 all_goals rfl
theorem submit_an {w:yW}{b:Nat}{K:PK}{t1 a1 t2 a2 t3 a3 t4 t5 t6:Tk}{as1 as2 as3 us4 us6:List Tk}{sd qt pr:Tr}{u:Int}(hK:KG K) (h:Lv w b K (t1 :: a1 :: as1)) (k1:t1.x=Z6) (h1:pEx (a1 :: as1)=some (sd,t2 :: a2 :: as2)) (k2:t2.x=ZS) (h2:pEx (a2 :: as2)=some (qt,t3 :: a3 :: as3)) (hv:fnd t3.x [Zr,Zp] 0=1) (h3:pEx (a3 :: as3)=some (pr,t4 :: us4)) (hu:fnd t4.x ye 0=u) (hu0:0≤u) (h4:us4=t5 :: us6) (k5:¬ t5.x=ZO) :
  Calls zG 157 #[zP b] w (OutL DoM.vals DoM.tr DoL b K w ⟨1,(ordX u),gE,sd,qt,pr,tr0,t1.p⟩ (t5 :: us6)):=by
 subst h4
 have HK:Hid (KG K):=hK
 have HT1:Hid (RgT t1):=(h.ok hK.k).r
 have HG0:=((HX.new h 0 0).push #[zU 0,zU 0,yQ,zU 0,zU 0,zU 0,zI 0,zU 0,yQ,.slice none 0 0,zI 0,zU 0,zU 0,zU 0,zI 0,zU 0,yQ,.slice none 0 0,zI 0,zU 0,zU 0,zU 0,zI 0,zU 0,yQ,.slice none 0 0,zI 0,zU 0,zU 0,zU 0,zI 0,zU 0,yQ,.slice none 0 0,zI 0,zI 0] 105).hid
 clear h hK
 obtain⟨W0,eW0⟩:∃ W,w.alloc (.cells #[zU 0,zU 0,yQ,zU 0,zU 0,zU 0,zI 0,zU 0,yQ,.slice none 0 0,zI 0,zU 0,zU 0,zU 0,zI 0,zU 0,yQ,.slice none 0 0,zI 0,zU 0,zU 0,zU 0,zI 0,zU 0,yQ,.slice none 0 0,zI 0,zU 0,zU 0,zU 0,zI 0,zU 0,yQ,.slice none 0 0,zI 0,zI 0] 105)=W:=⟨_,rfl⟩
 rw [eW0,Jh] at HG0
 have cT:=QT HK.out HG0.out.S Z6 (by decide +kernel) k1
 clear k1
 go_enter Tryz.func157,Tryz.ntmps157
 go_wp2_with fail
 try rw [eW0]
 refine cT.mono ?_
 rintro e w1 ⟨rfl,hs,hm⟩
 have HGp:=((HG0.out.mv hm hs).push #[zU 0,zU 0,yQ,zU 0,zU 0,zU 0,zI 0,zU 0,yQ,.slice none 0 0,zI 0,zU 0,zU 0,zU 0,zI 0,zU 0,yQ,.slice none 0 0,zI 0,zU 0,zU 0,zU 0,zI 0,zU 0,yQ,.slice none 0 0,zI 0,zU 0,zU 0,zU 0,zI 0,zU 0,yQ,.slice none 0 0,zI 0,zI 0] 105).hid
 have HG1:=(HX.rowA (pre:=[]) HGp.out #[zU 1,zU 0,yQ,zU 0,zU 0,zU 0,zI 0,zU 0,yQ,.slice none 0 0,zI 0,zU 0,zU 0,zU 0,zI 0,zU 0,yQ,.slice none 0 0,zI 0,zU 0,zU 0,zU 0,zI 0,zU 0,yQ,.slice none 0 0,zI 0,zU 0,zU 0,zU 0,zI 0,zU 0,yQ,.slice none 0 0,zI 0,zI t1.p]).hid
 have HZ:Hid ((w1.alloc (.cells #[zU 0,zU 0,yQ,zU 0,zU 0,zU 0,zI 0,zU 0,yQ,.slice none 0 0,zI 0,zU 0,zU 0,zU 0,zI 0,zU 0,yQ,.slice none 0 0,zI 0,zU 0,zU 0,zU 0,zI 0,zU 0,yQ,.slice none 0 0,zI 0,zU 0,zU 0,zU 0,zI 0,zU 0,yQ,.slice none 0 0,zI 0,zI 0] 105)).heap[w1§]? = (zC #[zU 0,zU 0,yQ,zU 0,zU 0,zU 0,zI 0,zU 0,yQ,.slice none 0 0,zI 0,zU 0,zU 0,zU 0,zI 0,zU 0,yQ,.slice none 0 0,zI 0,zU 0,zU 0,zU 0,zI 0,zU 0,yQ,.slice none 0 0,zI 0,zU 0,zU 0,zU 0,zI 0,zU 0,yQ,.slice none 0 0,zI 0,zI 0] 105)):=Qd _ _
 clear cT hs hm HG0 eW0 HGp
 obtain⟨cs1,ecs1⟩:∃ c:Array Value,#[zU 1,zU 0,yQ,zU 0,zU 0,zU 0,zI 0,zU 0,yQ,.slice none 0 0,zI 0,zU 0,zU 0,zU 0,zI 0,zU 0,yQ,.slice none 0 0,zI 0,zU 0,zU 0,zU 0,zI 0,zU 0,yQ,.slice none 0 0,zI 0,zU 0,zU 0,zU 0,zI 0,zU 0,yQ,.slice none 0 0,zI 0,zI t1.p]=c:=⟨_,rfl⟩
 have hcs1:cs1.size=36:=by rw [← ecs1]; rfl
 have hcs2:cs1.all (·.oneCell')=true:=by rw [← ecs1]; simp [Value.oneCell']
 rw [ecs1] at HG1
 go_upto_region 2 with (refine wpList_store_row rfl 105 (.tmp 3) (.tmp 9) rfl w1§ cs1 rfl (by first | rfl | exact congrArg Value.agg ecs1) 105 #[zU 0,zU 0,yQ,zU 0,zU 0,zU 0,zI 0,zU 0,yQ,.slice none 0 0,zI 0,zU 0,zU 0,zU 0,zI 0,zU 0,yQ,.slice none 0 0,zI 0,zU 0,zU 0,zU 0,zI 0,zU 0,yQ,.slice none 0 0,zI 0,zU 0,zU 0,zU 0,zI 0,zU 0,yQ,.slice none 0 0,zI 0,zI 0] HZ.out (by rw [hcs1]; exact Qk) (by rw [hcs1]; rfl) hcs2 ?_)
 generalize hW1:World.setRow _ _ _=W1
 rw [hW1,← ecs1,Jh] at HG1
 obtain⟨N3,eN3⟩:∃ q,w1§=q:=⟨_,rfl⟩
 rw [eN3] at HG1 ⊢
 clear eN3 HZ hW1
 generalize Value.agg _=D0
 clear ecs1 hcs1 hcs2
 have cE:=JE HK.out HG1.out.S h1
 go_wp2_with fail
 refine cE.mono ?_
 rintro e ua1 ⟨m1,rfl,htr,hdp,hs,hm⟩
 have HM1:Hid (Qh m1=_):=htr
 have HA1:=(HG1.out.add hm hs hdp).hid
 have HB1:=(HA1.out.doSdS m1).hid
 clear cE hs hm htr hdp HG1 h1
 go_upto_region 3 with (refine wpList_store_mid rfl 48 (.tmp 12) (.tmp 11) rfl N3 3 m1.vals rfl rfl (HA1.out.doT 3 (by omega)) QN (all8 m1) ?_)
 generalize hY:World.setCells _ _ _ _=Y1
 rw [hY] at HB1
 clear hY HA1
 have cT:=QT HK.out HB1.out.S ZS (by decide +kernel) k2
 go_wp2_with fail
 refine cT.mono ?_
 rintro e w2 ⟨rfl,hs,hm⟩
 have HG2:=(HB1.out.mv hm hs).hid
 clear cT hs hm HB1 k2
 have cE:=JE HK.out HG2.out.S h2
 go_wp2_with fail
 refine cE.mono ?_
 rintro e ua2 ⟨m2,rfl,htr,hdp,hs,hm⟩
 have HM2:Hid (Qh m2=_):=htr
 have HA2:=(HG2.out.add hm hs hdp).hid
 have HB2:=(HA2.out.doQtS m2).hid
 clear cE hs hm htr hdp HG2 h2
 go_upto_region 5 with (refine wpList_store_mid rfl 48 (.tmp 17) (.tmp 16) rfl N3 11 m2.vals rfl rfl (HA2.out.doT 11 (by omega)) QN (all8 m2) ?_)
 generalize hY:World.setCells _ _ _ _=Y2
 rw [hY] at HB2
 clear hY HA2
 have HW:Hid (yD Y2 (Y2.alloc (.cells zw 9))):=Qc _ _
 have hSL:SLs (Y2.alloc (.cells zw 9)) Y2§ [Zr,Zp]:=fun j hj=>by
  have hh:=Qd Y2 (.cells zw 9)
  match j,hj with
  | 0,_=>exact Qa hh 0
  | 1,_=>exact Qa hh 1
 have cA:=Qv (HB2.out.S.on HW.out) (n:=2) (c:=2) hSL rfl (by omega) (by intro x hx; simp only [List.mem_cons,List.not_mem_nil,or_false] at hx; rcases hx with rfl | rfl <;> exact J9 (HB2.out.S.gd HK.out) (by decide +kernel))
 clear hSL
 rw [hv] at cA
 clear hv
 go_wp2_with fail
 refine cA.mono ?_
 rintro e wa3 ⟨rfl,hb4⟩
 have HGa3:=((HB2.out.on HW.out).on hb4).hid
 obtain⟨i,c3,f3,hmx,hL,hM,_,_⟩:=HGa3.out.S.at'
 obtain⟨V3,eV⟩:∃ V,wa3.setCell b¢3 (zI ((i:Int)+1))=V:=⟨_,rfl⟩
 rw [eV] at hL hM
 have HGb3:=(HGa3.out.mv hM hL).hid
 clear cA hb4 HW HB2 hL hM HGa3
 go_upto_region 10 with fail
 try rw [eV]
 clear eV c3 f3 hmx
 obtain⟨v1,c1,f1⟩:=HX.cellA (pre:=[]) HGb3.out 1 (by rw [JV]; omega)
 have HO:=(HGb3.out.doO 2).hid
 go_upto_region 11 with fail
 generalize hY:World.setCell _ _ _=Y3
 rw [hY] at HO
 clear hY c1 f1 HGb3
 have cE:=JE HK.out HO.out.S h3
 go_wp2_with fail
 refine cE.mono ?_
 rintro e ua3 ⟨m3,rfl,htr,hdp,hs,hm⟩
 have HM3:Hid (Qh m3=_):=htr
 have HA3:=(HO.out.add hm hs hdp).hid
 have HB3:=(HA3.out.doPrS m3).hid
 clear cE hs hm htr hdp HO h3
 go_upto_region 13 with (refine wpList_store_mid rfl 48 (.tmp 38) (.tmp 37) rfl N3 19 m3.vals rfl rfl (HA3.out.doT 19 (by omega)) QN (all8 m3) ?_)
 generalize hY:World.setCells _ _ _ _=Y3
 rw [hY] at HB3
 clear hY HA3
 have hrg:=Jt t4.x ye 0
 rw [hu] at hrg
 simp only [List.length_cons,List.length_nil] at hrg
 have hu4:u < 4:=by omega
 have hu2:decide (u < 0)=false:=decide_eq_false (by omega)
 clear hrg
 have HW:Hid (yD Y3 (Y3.alloc (.cells zx 9))):=Qc _ _
 have hSL:SLs (Y3.alloc (.cells zx 9)) Y3§ ye:=fun j hj=>by
  have hh:=Qd Y3 (.cells zx 9)
  match j,hj with
  | 0,_=>exact Qa hh 0
  | 1,_=>exact Qa hh 1
  | 2,_=>exact Qa hh 2
  | 3,_=>exact Qa hh 3
 have cA:=Qv (HB3.out.S.on HW.out) (n:=4) (c:=4) hSL rfl (by omega) (by intro x hx; simp only [List.mem_cons,List.not_mem_nil,or_false] at hx; rcases hx with rfl | rfl | rfl | rfl <;> exact J9 (HB3.out.S.gd HK.out) (by decide +kernel))
 clear hSL
 rw [hu] at cA
 clear hu
 go_wp2_with fail
 refine cA.mono ?_
 rintro e wa4 ⟨rfl,hb4⟩
 have HGa4:=((HB3.out.on HW.out).on hb4).hid
 obtain⟨i,c3,f3,hmx,hL,hM,_,_⟩:=HGa4.out.S.at'
 obtain⟨V4,eV⟩:∃ V,wa4.setCell b¢3 (zI ((i:Int)+1))=V:=⟨_,rfl⟩
 rw [eV] at hL hM
 have HGb4:=(HGa4.out.mv hM hL).hid
 clear cA hb4 HW HB3 hL hM HGa4
 go_upto_region 18 with fail
 try rw [eV]
 clear eV c3 f3 hmx
 have hkv:∀ h,([zU 1,zU 3,zU 4,zU 5]:List Value)[u.toNat]'h=zU (ordX u):=by
  obtain rfl | rfl | rfl | rfl:u=0∨u=1∨u=2∨u=3:=by omega
  all_goals exact fun h=>rfl
 have HOR:Hid (B8 (ordX u)):=by
  obtain rfl | rfl | rfl | rfl:u=0∨u=1∨u=2∨u=3:=by omega
  all_goals exact⟨by decide,by decide⟩
 obtain⟨kv,ekv⟩:∃ kv,ordX u=kv:=⟨_,rfl⟩
 have HKV:Hid (ordX u=kv):=ekv
 rw [ekv] at hkv HOR
 clear ekv
 have hlt:N3 < V4§:=(zJ (HGb4.out.B _ List.mem_cons_self).1).1
 obtain⟨v1,c1,f1⟩:=HX.cellA (pre:=[]) HGb4.out 1 (by rw [JV]; omega)
 have HO2:=((HGb4.out.doO kv).on (Qc _ (.cells #[zU 1,zU 3,zU 4,zU 5] 103))).hid
 go_upto_region 19 with fail
 generalize hY:World.alloc _ _=Y4
 rw [hY] at HO2
 clear hY c1 f1 hlt HGb4 hkv
 have cI:=is_l HK.out HO2.out.S ZO (by decide +kernel) (i:=false) (by simp only [pIs]; exact decide_eq_false k5)
 clear k5
 go_wp2_with fail
 refine cI.mono ?_
 rintro e wi ⟨rfl,hbi⟩
 have HI:=(HO2.out.on hbi).hid
 clear cI hbi HO2
 have HC:Hid (wi.heap[N3]? = (zC (doA 1 kv ⟨#[]⟩ m1 m2 m3 nd00 t1.p) 105)):=(HI.out.B _ List.mem_cons_self).1
 have HQ:Hid (wi.heap[w§]? = (zC (doA 0 0 ⟨#[]⟩ nd00 nd00 nd00 nd00 0) 105)):=(HI.out.B _ (List.mem_cons_of_mem _ List.mem_cons_self)).1
 have HF:=(HX.rowA (pre:=[_]) HI.out (doA 1 kv ⟨#[]⟩ m1 m2 m3 nd00 t1.p)).hid
 have HR:Hid ((wi.setRow w§ (doA 1 kv ⟨#[]⟩ m1 m2 m3 nd00 t1.p)).heap[w§]? = (zC (doA 1 kv ⟨#[]⟩ m1 m2 m3 nd00 t1.p) 105)):=(HF.out.B _ (List.mem_cons_of_mem _ List.mem_cons_self)).1
 go_wp2_with (first | (refine wpList_load_row rfl 105 (.tmp 3) rfl N3 rfl 105 (doA 1 kv ⟨#[]⟩ m1 m2 m3 nd00 t1.p) (0,0) _ HC.out Tryz.underlying105 rfl Qk ?_) | (refine wpList_store_row rfl 105 (.tmp 2) (.tmp 72) rfl w§ (doA 1 kv ⟨#[]⟩ m1 m2 m3 nd00 t1.p) rfl rfl 105 _ HQ.out Qk rfl (JY ..) ?_))
 refine bodyPost_ret (results_cell_row rfl _ _ w§ 105 (doA 1 kv ⟨#[]⟩ m1 m2 m3 nd00 t1.p) (0,0) _ rfl HR.out Tryz.underlying105 rfl Qk) rfl (Km (d:=⟨1,kv,⟨#[]⟩,m1,m2,m3,nd00,t1.p⟩) HF.out ?_ fun U hU=>⟨hU.1.1.2,hU.1.2,hU.2,QA U rg0,⟨by show (0:Int)≤1; decide,by show (1:Int)≤255; decide⟩,HOR.out,⟨HT1.out.p0,HT1.out.p1⟩,(show gE.size≤140737488355328 by decide)⟩)
 show DoT.mk 1 kv ⟨#[]⟩ (Qh m1) (Qh m2) (Qh m3) tr0 t1.p=_
 rw [HM1.out,HM2.out,HM3.out,HKV.out]
 all_goals rfl
theorem submit_ax {w:yW}{b:Nat}{K:PK}{t1 a1 t2 a2 t3 a3 t4 t5 t6:Tk}{as1 as2 as3 us4 us6:List Tk}{sd qt pr:Tr}{u:Int}(hK:KG K) (h:Lv w b K (t1 :: a1 :: as1)) (k1:t1.x=Z6) (h1:pEx (a1 :: as1)=some (sd,t2 :: a2 :: as2)) (k2:t2.x=ZS) (h2:pEx (a2 :: as2)=some (qt,t3 :: a3 :: as3)) (hv:fnd t3.x [Zr,Zp] 0=1) (h3:pEx (a3 :: as3)=some (pr,t4 :: us4)) (hu:fnd t4.x ye 0=u) (hu0:0≤u) (h4:us4=t5 :: t6 :: us6) (k5:t5.x=ZO) (k6:t6.k=2) :
  Calls zG 157 #[zP b] w (OutL DoM.vals DoM.tr DoL b K w ⟨1,(ordX u),t6.x,sd,qt,pr,tr0,t1.p⟩ us6):=by
 subst h4
 have HK:Hid (KG K):=hK
 have HT1:Hid (RgT t1):=(h.ok hK.k).r
 have HG0:=((HX.new h 0 0).push #[zU 0,zU 0,yQ,zU 0,zU 0,zU 0,zI 0,zU 0,yQ,.slice none 0 0,zI 0,zU 0,zU 0,zU 0,zI 0,zU 0,yQ,.slice none 0 0,zI 0,zU 0,zU 0,zU 0,zI 0,zU 0,yQ,.slice none 0 0,zI 0,zU 0,zU 0,zU 0,zI 0,zU 0,yQ,.slice none 0 0,zI 0,zI 0] 105).hid
 clear h hK
 obtain⟨W0,eW0⟩:∃ W,w.alloc (.cells #[zU 0,zU 0,yQ,zU 0,zU 0,zU 0,zI 0,zU 0,yQ,.slice none 0 0,zI 0,zU 0,zU 0,zU 0,zI 0,zU 0,yQ,.slice none 0 0,zI 0,zU 0,zU 0,zU 0,zI 0,zU 0,yQ,.slice none 0 0,zI 0,zU 0,zU 0,zU 0,zI 0,zU 0,yQ,.slice none 0 0,zI 0,zI 0] 105)=W:=⟨_,rfl⟩
 rw [eW0,Jh] at HG0
 have cT:=QT HK.out HG0.out.S Z6 (by decide +kernel) k1
 clear k1
 go_enter Tryz.func157,Tryz.ntmps157
 go_wp2_with fail
 try rw [eW0]
 refine cT.mono ?_
 rintro e w1 ⟨rfl,hs,hm⟩
 have HGp:=((HG0.out.mv hm hs).push #[zU 0,zU 0,yQ,zU 0,zU 0,zU 0,zI 0,zU 0,yQ,.slice none 0 0,zI 0,zU 0,zU 0,zU 0,zI 0,zU 0,yQ,.slice none 0 0,zI 0,zU 0,zU 0,zU 0,zI 0,zU 0,yQ,.slice none 0 0,zI 0,zU 0,zU 0,zU 0,zI 0,zU 0,yQ,.slice none 0 0,zI 0,zI 0] 105).hid
 have HG1:=(HX.rowA (pre:=[]) HGp.out #[zU 1,zU 0,yQ,zU 0,zU 0,zU 0,zI 0,zU 0,yQ,.slice none 0 0,zI 0,zU 0,zU 0,zU 0,zI 0,zU 0,yQ,.slice none 0 0,zI 0,zU 0,zU 0,zU 0,zI 0,zU 0,yQ,.slice none 0 0,zI 0,zU 0,zU 0,zU 0,zI 0,zU 0,yQ,.slice none 0 0,zI 0,zI t1.p]).hid
 have HZ:Hid ((w1.alloc (.cells #[zU 0,zU 0,yQ,zU 0,zU 0,zU 0,zI 0,zU 0,yQ,.slice none 0 0,zI 0,zU 0,zU 0,zU 0,zI 0,zU 0,yQ,.slice none 0 0,zI 0,zU 0,zU 0,zU 0,zI 0,zU 0,yQ,.slice none 0 0,zI 0,zU 0,zU 0,zU 0,zI 0,zU 0,yQ,.slice none 0 0,zI 0,zI 0] 105)).heap[w1§]? = (zC #[zU 0,zU 0,yQ,zU 0,zU 0,zU 0,zI 0,zU 0,yQ,.slice none 0 0,zI 0,zU 0,zU 0,zU 0,zI 0,zU 0,yQ,.slice none 0 0,zI 0,zU 0,zU 0,zU 0,zI 0,zU 0,yQ,.slice none 0 0,zI 0,zU 0,zU 0,zU 0,zI 0,zU 0,yQ,.slice none 0 0,zI 0,zI 0] 105)):=Qd _ _
 clear cT hs hm HG0 eW0 HGp
 obtain⟨cs1,ecs1⟩:∃ c:Array Value,#[zU 1,zU 0,yQ,zU 0,zU 0,zU 0,zI 0,zU 0,yQ,.slice none 0 0,zI 0,zU 0,zU 0,zU 0,zI 0,zU 0,yQ,.slice none 0 0,zI 0,zU 0,zU 0,zU 0,zI 0,zU 0,yQ,.slice none 0 0,zI 0,zU 0,zU 0,zU 0,zI 0,zU 0,yQ,.slice none 0 0,zI 0,zI t1.p]=c:=⟨_,rfl⟩
 have hcs1:cs1.size=36:=by rw [← ecs1]; rfl
 have hcs2:cs1.all (·.oneCell')=true:=by rw [← ecs1]; simp [Value.oneCell']
 rw [ecs1] at HG1
 go_upto_region 2 with (refine wpList_store_row rfl 105 (.tmp 3) (.tmp 9) rfl w1§ cs1 rfl (by first | rfl | exact congrArg Value.agg ecs1) 105 #[zU 0,zU 0,yQ,zU 0,zU 0,zU 0,zI 0,zU 0,yQ,.slice none 0 0,zI 0,zU 0,zU 0,zU 0,zI 0,zU 0,yQ,.slice none 0 0,zI 0,zU 0,zU 0,zU 0,zI 0,zU 0,yQ,.slice none 0 0,zI 0,zU 0,zU 0,zU 0,zI 0,zU 0,yQ,.slice none 0 0,zI 0,zI 0] HZ.out (by rw [hcs1]; exact Qk) (by rw [hcs1]; rfl) hcs2 ?_)
 generalize hW1:World.setRow _ _ _=W1
 rw [hW1,← ecs1,Jh] at HG1
 obtain⟨N3,eN3⟩:∃ q,w1§=q:=⟨_,rfl⟩
 rw [eN3] at HG1 ⊢
 clear eN3 HZ hW1
 generalize Value.agg _=D0
 clear ecs1 hcs1 hcs2
 have cE:=JE HK.out HG1.out.S h1
 go_wp2_with fail
 refine cE.mono ?_
 rintro e ua1 ⟨m1,rfl,htr,hdp,hs,hm⟩
 have HM1:Hid (Qh m1=_):=htr
 have HA1:=(HG1.out.add hm hs hdp).hid
 have HB1:=(HA1.out.doSdS m1).hid
 clear cE hs hm htr hdp HG1 h1
 go_upto_region 3 with (refine wpList_store_mid rfl 48 (.tmp 12) (.tmp 11) rfl N3 3 m1.vals rfl rfl (HA1.out.doT 3 (by omega)) QN (all8 m1) ?_)
 generalize hY:World.setCells _ _ _ _=Y1
 rw [hY] at HB1
 clear hY HA1
 have cT:=QT HK.out HB1.out.S ZS (by decide +kernel) k2
 go_wp2_with fail
 refine cT.mono ?_
 rintro e w2 ⟨rfl,hs,hm⟩
 have HG2:=(HB1.out.mv hm hs).hid
 clear cT hs hm HB1 k2
 have cE:=JE HK.out HG2.out.S h2
 go_wp2_with fail
 refine cE.mono ?_
 rintro e ua2 ⟨m2,rfl,htr,hdp,hs,hm⟩
 have HM2:Hid (Qh m2=_):=htr
 have HA2:=(HG2.out.add hm hs hdp).hid
 have HB2:=(HA2.out.doQtS m2).hid
 clear cE hs hm htr hdp HG2 h2
 go_upto_region 5 with (refine wpList_store_mid rfl 48 (.tmp 17) (.tmp 16) rfl N3 11 m2.vals rfl rfl (HA2.out.doT 11 (by omega)) QN (all8 m2) ?_)
 generalize hY:World.setCells _ _ _ _=Y2
 rw [hY] at HB2
 clear hY HA2
 have HW:Hid (yD Y2 (Y2.alloc (.cells zw 9))):=Qc _ _
 have hSL:SLs (Y2.alloc (.cells zw 9)) Y2§ [Zr,Zp]:=fun j hj=>by
  have hh:=Qd Y2 (.cells zw 9)
  match j,hj with
  | 0,_=>exact Qa hh 0
  | 1,_=>exact Qa hh 1
 have cA:=Qv (HB2.out.S.on HW.out) (n:=2) (c:=2) hSL rfl (by omega) (by intro x hx; simp only [List.mem_cons,List.not_mem_nil,or_false] at hx; rcases hx with rfl | rfl <;> exact J9 (HB2.out.S.gd HK.out) (by decide +kernel))
 clear hSL
 rw [hv] at cA
 clear hv
 go_wp2_with fail
 refine cA.mono ?_
 rintro e wa3 ⟨rfl,hb4⟩
 have HGa3:=((HB2.out.on HW.out).on hb4).hid
 obtain⟨i,c3,f3,hmx,hL,hM,_,_⟩:=HGa3.out.S.at'
 obtain⟨V3,eV⟩:∃ V,wa3.setCell b¢3 (zI ((i:Int)+1))=V:=⟨_,rfl⟩
 rw [eV] at hL hM
 have HGb3:=(HGa3.out.mv hM hL).hid
 clear cA hb4 HW HB2 hL hM HGa3
 go_upto_region 10 with fail
 try rw [eV]
 clear eV c3 f3 hmx
 obtain⟨v1,c1,f1⟩:=HX.cellA (pre:=[]) HGb3.out 1 (by rw [JV]; omega)
 have HO:=(HGb3.out.doO 2).hid
 go_upto_region 11 with fail
 generalize hY:World.setCell _ _ _=Y3
 rw [hY] at HO
 clear hY c1 f1 HGb3
 have cE:=JE HK.out HO.out.S h3
 go_wp2_with fail
 refine cE.mono ?_
 rintro e ua3 ⟨m3,rfl,htr,hdp,hs,hm⟩
 have HM3:Hid (Qh m3=_):=htr
 have HA3:=(HO.out.add hm hs hdp).hid
 have HB3:=(HA3.out.doPrS m3).hid
 clear cE hs hm htr hdp HO h3
 go_upto_region 13 with (refine wpList_store_mid rfl 48 (.tmp 38) (.tmp 37) rfl N3 19 m3.vals rfl rfl (HA3.out.doT 19 (by omega)) QN (all8 m3) ?_)
 generalize hY:World.setCells _ _ _ _=Y3
 rw [hY] at HB3
 clear hY HA3
 have hrg:=Jt t4.x ye 0
 rw [hu] at hrg
 simp only [List.length_cons,List.length_nil] at hrg
 have hu4:u < 4:=by omega
 have hu2:decide (u < 0)=false:=decide_eq_false (by omega)
 clear hrg
 have HW:Hid (yD Y3 (Y3.alloc (.cells zx 9))):=Qc _ _
 have hSL:SLs (Y3.alloc (.cells zx 9)) Y3§ ye:=fun j hj=>by
  have hh:=Qd Y3 (.cells zx 9)
  match j,hj with
  | 0,_=>exact Qa hh 0
  | 1,_=>exact Qa hh 1
  | 2,_=>exact Qa hh 2
  | 3,_=>exact Qa hh 3
 have cA:=Qv (HB3.out.S.on HW.out) (n:=4) (c:=4) hSL rfl (by omega) (by intro x hx; simp only [List.mem_cons,List.not_mem_nil,or_false] at hx; rcases hx with rfl | rfl | rfl | rfl <;> exact J9 (HB3.out.S.gd HK.out) (by decide +kernel))
 clear hSL
 rw [hu] at cA
 clear hu
 go_wp2_with fail
 refine cA.mono ?_
 rintro e wa4 ⟨rfl,hb4⟩
 have HGa4:=((HB3.out.on HW.out).on hb4).hid
 obtain⟨i,c3,f3,hmx,hL,hM,_,_⟩:=HGa4.out.S.at'
 obtain⟨V4,eV⟩:∃ V,wa4.setCell b¢3 (zI ((i:Int)+1))=V:=⟨_,rfl⟩
 rw [eV] at hL hM
 have HGb4:=(HGa4.out.mv hM hL).hid
 clear cA hb4 HW HB3 hL hM HGa4
 go_upto_region 18 with fail
 try rw [eV]
 clear eV c3 f3 hmx
 have hkv:∀ h,([zU 1,zU 3,zU 4,zU 5]:List Value)[u.toNat]'h=zU (ordX u):=by
  obtain rfl | rfl | rfl | rfl:u=0∨u=1∨u=2∨u=3:=by omega
  all_goals exact fun h=>rfl
 have HOR:Hid (B8 (ordX u)):=by
  obtain rfl | rfl | rfl | rfl:u=0∨u=1∨u=2∨u=3:=by omega
  all_goals exact⟨by decide,by decide⟩
 obtain⟨kv,ekv⟩:∃ kv,ordX u=kv:=⟨_,rfl⟩
 have HKV:Hid (ordX u=kv):=ekv
 rw [ekv] at hkv HOR
 clear ekv
 have hlt:N3 < V4§:=(zJ (HGb4.out.B _ List.mem_cons_self).1).1
 obtain⟨v1,c1,f1⟩:=HX.cellA (pre:=[]) HGb4.out 1 (by rw [JV]; omega)
 have HO2:=((HGb4.out.doO kv).on (Qc _ (.cells #[zU 1,zU 3,zU 4,zU 5] 103))).hid
 go_upto_region 19 with fail
 generalize hY:World.alloc _ _=Y4
 rw [hY] at HO2
 clear hY c1 f1 hlt HGb4 hkv
 have cI:=is_l HK.out HO2.out.S ZO (by decide +kernel) (i:=true) (by simp only [pIs]; exact decide_eq_true k5)
 clear k5
 go_wp2_with fail
 refine cI.mono ?_
 rintro e wi ⟨rfl,hbi⟩
 have HI:=(HO2.out.on hbi).hid
 clear cI hbi HO2
 obtain⟨i,c3,f3,hmx,hL,hM,_,_⟩:=HI.out.S.at'
 obtain⟨Vi,eV⟩:∃ V,wi.setCell b¢3 (zI ((i:Int)+1))=V:=⟨_,rfl⟩
 rw [eV] at hL hM
 have HJ:=(HI.out.mv hM hL).hid
 clear hL hM HI
 go_upto_region 22 with fail
 try rw [eV]
 clear eV c3 f3 hmx
 have HT6:Hid (RgT t6):=(HJ.out.S.ok HK.out.k).r
 have cN:=Kj HJ.out.S k6
 clear k6
 go_wp2_with fail
 refine cN.mono ?_
 rintro e wn ⟨rfl,hs,hm⟩
 have HN1:=(HJ.out.mv hm hs).hid
 obtain⟨v1,c1,f1⟩:=HX.cellA (pre:=[]) HN1.out 2 (by rw [JV]; omega)
 have HN2:=(HN1.out.doX t6.x).hid
 clear cN hs hm HJ
 go_upto_region 23 with fail
 generalize hY:World.setCell _ _ _=Yx
 rw [hY] at HN2
 clear hY c1 f1 HN1
 have HC:Hid (Yx.heap[N3]? = (zC (doA 1 kv t6.x m1 m2 m3 nd00 t1.p) 105)):=(HN2.out.B _ List.mem_cons_self).1
 have HQ:Hid (Yx.heap[w§]? = (zC (doA 0 0 ⟨#[]⟩ nd00 nd00 nd00 nd00 0) 105)):=(HN2.out.B _ (List.mem_cons_of_mem _ List.mem_cons_self)).1
 have HF:=(HX.rowA (pre:=[_]) HN2.out (doA 1 kv t6.x m1 m2 m3 nd00 t1.p)).hid
 have HR:Hid ((Yx.setRow w§ (doA 1 kv t6.x m1 m2 m3 nd00 t1.p)).heap[w§]? = (zC (doA 1 kv t6.x m1 m2 m3 nd00 t1.p) 105)):=(HF.out.B _ (List.mem_cons_of_mem _ List.mem_cons_self)).1
 go_wp2_with (first | (refine wpList_load_row rfl 105 (.tmp 3) rfl N3 rfl 105 (doA 1 kv t6.x m1 m2 m3 nd00 t1.p) (0,0) _ HC.out Tryz.underlying105 rfl Qk ?_) | (refine wpList_store_row rfl 105 (.tmp 2) (.tmp 72) rfl w§ (doA 1 kv t6.x m1 m2 m3 nd00 t1.p) rfl rfl 105 _ HQ.out Qk rfl (JY ..) ?_))
 refine bodyPost_ret (results_cell_row rfl _ _ w§ 105 (doA 1 kv t6.x m1 m2 m3 nd00 t1.p) (0,0) _ rfl HR.out Tryz.underlying105 rfl Qk) rfl (Km (d:=⟨1,kv,t6.x,m1,m2,m3,nd00,t1.p⟩) HF.out ?_ fun U hU=>⟨hU.1.1.2,hU.1.2,hU.2,QA U rg0,⟨by show (0:Int)≤1; decide,by show (1:Int)≤255; decide⟩,HOR.out,⟨HT1.out.p0,HT1.out.p1⟩,HT6.out.x1⟩)
 show DoT.mk 1 kv t6.x (Qh m1) (Qh m2) (Qh m3) tr0 t1.p=_
 rw [HM1.out,HM2.out,HM3.out,HKV.out]
 all_goals rfl
end Go.Proofs.YtoogodlnnijikaaGreatDoor
