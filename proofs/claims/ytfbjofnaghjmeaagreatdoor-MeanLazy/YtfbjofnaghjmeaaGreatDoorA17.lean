import Derived.Test.YtfbjofnaghjmeaaGreatDoorA16
namespace Go.Proofs.YtfbjofnaghjmeaaGreatDoor
open Go.Proofs.Tryz
set_option maxRecDepth 100000
set_option maxHeartbeats 4000000
open Go.RowKit
set_option linter.unusedVariables false
theorem rg0:Rg ⟨0,0,0,0,0,gE,0⟩:=by constructor <;> first | omega | decide
theorem HX.thereA {w:yW}{b:Nat}{K:PK}{V:yW}{pre post:List (Nat × Nat × Array Value)}{N:Nat}{e sz:Nat}{v:Value}{vs:List (Array Value)}{F:yW→Prop}{ts:List Tk}{T:Nat}{cs:Array Value}(h:HX w b K V (pre ++ (N,T,cs) :: post) e sz v vs F ts) (o n:Nat) (hi:o+n≤cs.size):V.there N o n:=fun j hj=>by
 obtain⟨u,h1,h2⟩:=h.cellA (o+j) zY
 exact⟨by rw [h1];rfl,h2⟩
theorem HX.doT {w:yW}{b:Nat}{K:PK}{V:yW}{post:List (Nat × Nat × Array Value)}{N:Nat}{e sz:Nat}{v:Value}{vs:List (Array Value)}{F:yW→Prop}{ts:List Tk}{k o:Int}{x:yB}{s q r u:Nd}{p:Int}(h:HX w b K V ((N,121,doA k o x s q r u p) :: post) e sz v vs F ts) (i:Nat) (hi:i+8≤36):V.there N i 8:=HX.thereA (pre:=[]) h i 8 hi
theorem HX.doSdS {w:yW}{b:Nat}{K:PK}{V:yW}{post:List (Nat × Nat × Array Value)}{N:Nat}{e sz:Nat}{v:Value}{vs:List (Array Value)}{F:yW→Prop}{ts:List Tk}{k o:Int}{x:yB}{s q r u:Nd}{p:Int}(h:HX w b K V ((N,121,doA k o x s q r u p) :: post) e sz v vs F ts) (m:Nd):HX w b K (V.setCells N 3 m.vals.toList) ((N,121,doA k o x m q r u p) :: post) e sz v vs F ts:=by
 rw [J8]
 exact h.doSd m
theorem HX.doQtS {w:yW}{b:Nat}{K:PK}{V:yW}{post:List (Nat × Nat × Array Value)}{N:Nat}{e sz:Nat}{v:Value}{vs:List (Array Value)}{F:yW→Prop}{ts:List Tk}{k o:Int}{x:yB}{s q r u:Nd}{p:Int}(h:HX w b K V ((N,121,doA k o x s q r u p) :: post) e sz v vs F ts) (m:Nd):HX w b K (V.setCells N 11 m.vals.toList) ((N,121,doA k o x s m r u p) :: post) e sz v vs F ts:=by
 rw [J8]
 exact h.doQt m
theorem HX.doPrS {w:yW}{b:Nat}{K:PK}{V:yW}{post:List (Nat × Nat × Array Value)}{N:Nat}{e sz:Nat}{v:Value}{vs:List (Array Value)}{F:yW→Prop}{ts:List Tk}{k o:Int}{x:yB}{s q r u:Nd}{p:Int}(h:HX w b K V ((N,121,doA k o x s q r u p) :: post) e sz v vs F ts) (m:Nd):HX w b K (V.setCells N 19 m.vals.toList) ((N,121,doA k o x s q m u p) :: post) e sz v vs F ts:=by
 rw [J8]
 exact h.doPr m
theorem HX.doVlS {w:yW}{b:Nat}{K:PK}{V:yW}{post:List (Nat × Nat × Array Value)}{N:Nat}{e sz:Nat}{v:Value}{vs:List (Array Value)}{F:yW→Prop}{ts:List Tk}{k o:Int}{x:yB}{s q r u:Nd}{p:Int}(h:HX w b K V ((N,121,doA k o x s q r u p) :: post) e sz v vs F ts) (m:Nd):HX w b K (V.setCells N 27 m.vals.toList) ((N,121,doA k o x s q r m p) :: post) e sz v vs F ts:=by
 rw [J8]
 exact h.doVl m
theorem Kg (k p:Int):#[zU k,zU 0,yQ,zU 0,zU 0,zU 0,zI 0,zU 0,yQ,zO,zI 0,zU 0,zU 0,zU 0,zI 0,zU 0,yQ,zO,zI 0,zU 0,zU 0,zU 0,zI 0,zU 0,yQ,zO,zI 0,zU 0,zU 0,zU 0,zI 0,zU 0,yQ,zO,zI 0,zI p]=doA k 0 ⟨#[]⟩ nd00 nd00 nd00 nd00 p:=by kernel_rfl
theorem Xh {us:List Tk}{q:Tr × List Tk}(h:pEx us=some q):∃ t ts,us=t :: ts:=by
 cases us with
 | nil=>cases h
 | cons t ts=>exact⟨t,ts,rfl⟩
theorem Qt:(Tryz.prog.info? 121).map (·.size)=some 36:=by kernel_rfl
theorem UF {w:yW}{b:Nat}{K:PK}{V:yW}{bs:List (Nat × Nat × Array Value)}{e sz:Nat}{v:Value}{vs:List (Array Value)}{F:yW→Prop}{ts:List Tk}{d:DoM}{r:DoT}(h:HX w b K V bs e sz v vs F ts) (hr:d.tr=r) (hF:∀ U,F U→DoL U d):OutL DoM.vals DoM.tr DoL b K w r ts (.returned (.agg d.vals)) V :=
 ⟨d,rfl,hr,h.fin.1.imp hF,h.S,h.M⟩
theorem QbW {w:yW}{b:Nat}{K:PK}{t1 a1 t2 a2 t3 a3 t4 t5 t6:Tk}{as1 as2 as3 us4 us6:List Tk}{sd qt pr:Tr}{u:Int}(hK:KG K) (h:Lv w b K (t1 :: a1 :: as1)) (k1:t1.x=Z0) (h1:pEx (a1 :: as1)=some (sd,t2 :: a2 :: as2)) (k2:t2.x=⟨#[111,102]⟩) (h2:pEx (a2 :: as2)=some (qt,t3 :: a3 :: as3)) (hv:fnd t3.x [Zx,⟨#[97,116]⟩] 0=1) (h3:pEx (a3 :: as3)=some (pr,t4 :: us4)) (hu:fnd t4.x [Zt,Zs,Zr,Zu] 0=u) (hu0:0≤u) (h4:us4=t5 :: t6 :: us6) (k5:t5.x=⟨#[97,115]⟩) (k6:t6.k=2) :
  Calls zG 220 #[zP b] w (OutL DoM.vals DoM.tr DoL b K w ⟨1,(ordX u),t6.x,sd,qt,pr,tr0,t1.p⟩ us6):=by
 subst h4
 have HK:Hid (KG K):=hK
 have HT1:Hid (RgT t1):=(h.ok hK.k).r
 have HG0:=((HX.new h 0 0).push (zE 0) 121).hid
 clear h hK
 obtain⟨W0,eW0⟩:∃ W,w.alloc (.cells (zE 0) 121)=W:=jV
 rw [eW0,Kg] at HG0
 have cT:=Jr HK.out HG0.out.S Z0 (by decide +kernel) k1
 clear k1
 go_enter func220,ntmps220
 go_wp2_with fail
 try rw [eW0]
 refine cT.mono ?_
 rintro e w1 ⟨rfl,hs,hm⟩
 have HGp:=((HG0.out.mv hm hs).push (zE 0) 121).hid
 have HG1:=(HX.rowA (pre:=[]) HGp.out #[zU 1,zU 0,yQ,zU 0,zU 0,zU 0,zI 0,zU 0,yQ,zO,zI 0,zU 0,zU 0,zU 0,zI 0,zU 0,yQ,zO,zI 0,zU 0,zU 0,zU 0,zI 0,zU 0,yQ,zO,zI 0,zU 0,zU 0,zU 0,zI 0,zU 0,yQ,zO,zI 0,zI t1.p]).hid
 have HZ:Hid ((zA w1 (zE 0) 121).heap[w1§]? = (zC (zE 0) 121)):=Qc _ _
 clear cT hs hm HG0 eW0 HGp
 obtain⟨cs1,ecs1⟩:∃ c:Array Value,#[zU 1,zU 0,yQ,zU 0,zU 0,zU 0,zI 0,zU 0,yQ,zO,zI 0,zU 0,zU 0,zU 0,zI 0,zU 0,yQ,zO,zI 0,zU 0,zU 0,zU 0,zI 0,zU 0,yQ,zO,zI 0,zU 0,zU 0,zU 0,zI 0,zU 0,yQ,zO,zI 0,zI t1.p]=c:=jV
 have hcs1:cs1.size=36:=by rw [← ecs1];rfl
 have hcs2:cs1.all (·.oneCell')=true:=by rw [← ecs1];simp [Value.oneCell']
 rw [ecs1] at HG1
 go_upto_region 2 with (refine wpList_store_row rfl 121 (.tmp 3) (.tmp 9) rfl w1§ cs1 rfl (by first | rfl | exact congrArg Value.agg ecs1) 121 (zE 0) HZ.out (by rw [hcs1];exact Qt) (by rw [hcs1];rfl) hcs2 ?_)
 generalize hW1:World.setRow _ _ _=W1
 rw [hW1,← ecs1,Kg] at HG1
 obtain⟨N3,eN3⟩:∃ q,w1§=q:=jV
 rw [eN3] at HG1 ⊢
 clear eN3 HZ hW1
 generalize Value.agg _=D0
 clear ecs1 hcs1 hcs2
 have cE:=Vo HK.out HG1.out.S h1
 go_wp2_with fail
 refine cE.mono ?_
 rintro e ua1 ⟨m1,rfl,htr,hdp,hs,hm⟩
 have HM1:Hid (Qs m1=_):=htr
 have HA1:=(HG1.out.add hm hs hdp).hid
 have HB1:=(HA1.out.doSdS m1).hid
 clear cE hs hm htr hdp HG1 h1
 go_upto_region 3 with (refine wpList_store_mid rfl 38 (.tmp 12) (.tmp 11) rfl N3 3 m1.vals rfl rfl (HA1.out.doT 3 zY) Qj (all8 m1) ?_)
 generalize hY:World.setCells _ _ _ _=Y1
 rw [hY] at HB1
 clear hY HA1
 have cT:=Jr HK.out HB1.out.S ⟨#[111,102]⟩ (by decide +kernel) k2
 go_wp2_with fail
 refine cT.mono ?_
 rintro e w2 ⟨rfl,hs,hm⟩
 have HG2:=(HB1.out.mv hm hs).hid
 clear cT hs hm HB1 k2
 have cE:=Vo HK.out HG2.out.S h2
 go_wp2_with fail
 refine cE.mono ?_
 rintro e ua2 ⟨m2,rfl,htr,hdp,hs,hm⟩
 have HM2:Hid (Qs m2=_):=htr
 have HA2:=(HG2.out.add hm hs hdp).hid
 have HB2:=(HA2.out.doQtS m2).hid
 clear cE hs hm htr hdp HG2 h2
 go_upto_region 5 with (refine wpList_store_mid rfl 38 (.tmp 17) (.tmp 16) rfl N3 11 m2.vals rfl rfl (HA2.out.doT 11 zY) Qj (all8 m2) ?_)
 generalize hY:World.setCells _ _ _ _=Y2
 rw [hY] at HB2
 clear hY HA2
 have cA:=Jy HB2.out.S HK.out [Zx,⟨#[97,116]⟩] (n:=2) rfl (by decide) (by decide +kernel)
 simp only [List.map] at cA
 rw [hv] at cA
 clear hv
 go_wp2_with fail
 refine cA.mono ?_
 rintro e wa3 ⟨rfl,hb4⟩
 have HGa3:=(HB2.out.on hb4).hid
 obtain⟨i,c3,f3,hmx,hL,hM,_,_⟩:=HGa3.out.S.at'
 obtain⟨V3,eV⟩:∃ V,wa3.setCell b¢3 (zI ((i:Int)+1))=V:=jV
 rw [eV] at hL hM
 have HGb3:=(HGa3.out.mv hM hL).hid
 clear cA hb4 HB2 hL hM HGa3
 go_upto_region 10 with fail
 try rw [eV]
 clear eV c3 f3 hmx
 obtain⟨v1,c1,f1⟩:=HX.cellA (pre:=[]) HGb3.out 1 (by rw [UG];omega)
 have HO:=(HGb3.out.doO 2).hid
 go_upto_region 11 with fail
 generalize hY:World.setCell _ _ _=Y3
 rw [hY] at HO
 clear hY c1 f1 HGb3
 have cE:=Vo HK.out HO.out.S h3
 go_wp2_with fail
 refine cE.mono ?_
 rintro e ua3 ⟨m3,rfl,htr,hdp,hs,hm⟩
 have HM3:Hid (Qs m3=_):=htr
 have HA3:=(HO.out.add hm hs hdp).hid
 have HB3:=(HA3.out.doPrS m3).hid
 clear cE hs hm htr hdp HO h3
 go_upto_region 13 with (refine wpList_store_mid rfl 38 (.tmp 38) (.tmp 37) rfl N3 19 m3.vals rfl rfl (HA3.out.doT 19 zY) Qj (all8 m3) ?_)
 generalize hY:World.setCells _ _ _ _=Y3
 rw [hY] at HB3
 clear hY HA3
 have hrg:=QeS t4.x [Zt,Zs,Zr,Zu] 0
 rw [hu] at hrg
 simp only [List.length_cons,List.length_nil] at hrg
 have hu4:u < 4:=by omega
 have hu2:decide (u < 0)=false:=decide_eq_false zY
 clear hrg
 have cA:=Jy HB3.out.S HK.out [Zt,Zs,Zr,Zu] (n:=4) rfl (by decide) (by decide +kernel)
 simp only [List.map] at cA
 rw [hu] at cA
 clear hu
 go_wp2_with fail
 refine cA.mono ?_
 rintro e wa4 ⟨rfl,hb4⟩
 have HGa4:=(HB3.out.on hb4).hid
 obtain⟨i,c3,f3,hmx,hL,hM,_,_⟩:=HGa4.out.S.at'
 obtain⟨V4,eV⟩:∃ V,wa4.setCell b¢3 (zI ((i:Int)+1))=V:=jV
 rw [eV] at hL hM
 have HGb4:=(HGa4.out.mv hM hL).hid
 clear cA hb4 HB3 hL hM HGa4
 go_upto_region 18 with fail
 try rw [eV]
 clear eV c3 f3 hmx
 have hkv:∀ h,([zU 1,zU 3,zU 4,zU 5]:List Value)[u.toNat]'h=zU (ordX u):=by
  obtain rfl | rfl | rfl | rfl:u=0∨u=1∨u=2∨u=3:=by omega
  all_goals exact fun h=>rfl
 have HOR:Hid (B8 (ordX u)):=by
  obtain rfl | rfl | rfl | rfl:u=0∨u=1∨u=2∨u=3:=by omega
  all_goals exact⟨by decide,by decide⟩
 obtain⟨kv,ekv⟩:∃ kv,ordX u=kv:=jV
 have HKV:Hid (ordX u=kv):=ekv
 rw [ekv] at hkv HOR
 clear ekv
 have hlt:N3 < V4§:=(zJ (HGb4.out.B _ List.mem_cons_self).1).1
 obtain⟨v1,c1,f1⟩:=HX.cellA (pre:=[]) HGb4.out 1 (by rw [UG];omega)
 have HO2:=((HGb4.out.doO kv).on (Qb _ (.cells #[zU 1,zU 3,zU 4,zU 5] 76))).hid
 go_upto_region 19 with fail
 generalize hY:World.alloc _ _=Y4
 rw [hY] at HO2
 clear hY c1 f1 hlt HGb4 hkv
 have cI:=is_l HK.out HO2.out.S ⟨#[97,115]⟩ (by decide +kernel) (i:=true) (by simp only [pIs];exact decide_eq_true k5)
 clear k5
 go_wp2_with fail
 refine cI.mono ?_
 rintro e wi ⟨rfl,hbi⟩
 have HI:=(HO2.out.on hbi).hid
 clear cI hbi HO2
 obtain⟨i,c3,f3,hmx,hL,hM,_,_⟩:=HI.out.S.at'
 obtain⟨Vi,eV⟩:∃ V,wi.setCell b¢3 (zI ((i:Int)+1))=V:=jV
 rw [eV] at hL hM
 have HJ:=(HI.out.mv hM hL).hid
 clear hL hM HI
 go_upto_region 22 with fail
 try rw [eV]
 clear eV c3 f3 hmx
 have HT6:Hid (RgT t6):=(HJ.out.S.ok HK.out.k).r
 have cN:=Xk HJ.out.S k6
 clear k6
 go_wp2_with fail
 refine cN.mono ?_
 rintro e wn ⟨rfl,hs,hm⟩
 have HN1:=(HJ.out.mv hm hs).hid
 obtain⟨v1,c1,f1⟩:=HX.cellA (pre:=[]) HN1.out 2 (by rw [UG];omega)
 have HN2:=(HN1.out.doX t6.x).hid
 clear cN hs hm HJ
 go_upto_region 23 with fail
 generalize hY:World.setCell _ _ _=Yx
 rw [hY] at HN2
 clear hY c1 f1 HN1
 have HC:Hid (Yx.heap[N3]? = (zC (doA 1 kv t6.x m1 m2 m3 nd00 t1.p) 121)):=(HN2.out.B _ List.mem_cons_self).1
 have HQ:Hid (Yx.heap[w§]? = (zC (doA 0 0 ⟨#[]⟩ nd00 nd00 nd00 nd00 0) 121)):=(HN2.out.B _ (List.mem_cons_of_mem _ List.mem_cons_self)).1
 have HF:=(HX.rowA (pre:=[_]) HN2.out (doA 1 kv t6.x m1 m2 m3 nd00 t1.p)).hid
 have HR:Hid ((Yx.setRow w§ (doA 1 kv t6.x m1 m2 m3 nd00 t1.p)).heap[w§]? = (zC (doA 1 kv t6.x m1 m2 m3 nd00 t1.p) 121)):=(HF.out.B _ (List.mem_cons_of_mem _ List.mem_cons_self)).1
 go_wp2_with (first | (refine wpList_load_row rfl 121 (.tmp 3) rfl N3 rfl 121 (doA 1 kv t6.x m1 m2 m3 nd00 t1.p) (0,0) _ HC.out underlying121 rfl Qt ?_) | (refine wpList_store_row rfl 121 (.tmp 2) (.tmp 72) rfl w§ (doA 1 kv t6.x m1 m2 m3 nd00 t1.p) rfl rfl 121 _ HQ.out Qt rfl (Xr ..) ?_))
 refine bodyPost_ret (results_cell_row rfl _ _ w§ 121 (doA 1 kv t6.x m1 m2 m3 nd00 t1.p) (0,0) _ rfl HR.out underlying121 rfl Qt) rfl (UF (d:=⟨1,kv,t6.x,m1,m2,m3,nd00,t1.p⟩) HF.out ?_ fun U hU=>⟨hU.1.1.2,hU.1.2,hU.2,QH U rg0,⟨by show (0:Int)≤1;decide,by show (1:Int)≤255;decide⟩,HOR.out,⟨HT1.out.p0,HT1.out.p1⟩,HT6.out.x1⟩)
 show DoT.mk 1 kv t6.x (Qs m1) (Qs m2) (Qs m3) tr0 t1.p=_
 rw [HM1.out,HM2.out,HM3.out,HKV.out]
 all_goals rfl
theorem Qda {w:yW}{b:Nat}{K:PK}{ts:List Tk}{r:DoT}{u:Tk}{us:List Tk}(hK:KG K) (h:Lv w b K ts) (hp:UU ts=some (r,u :: us)):Calls zG 220 #[zP b] w (OutL DoM.vals DoM.tr DoL b K w r (u :: us)):=by
 unfold UU at hp
 obtain⟨⟨a,a2⟩,h1,hp⟩:=Qo hp
 obtain⟨⟨b1,b2⟩,h2,hp⟩:=Qo hp
 obtain⟨⟨c,c2⟩,h3,hp⟩:=Qo hp
 obtain⟨⟨d,d2⟩,h4,hp⟩:=Qo hp
 obtain⟨⟨e,e2⟩,h5,hp⟩:=Qo hp
 obtain⟨⟨f,f2⟩,h6,hp⟩:=Qo hp
 obtain⟨⟨g,g2⟩,h7,hp⟩:=Qo hp
 obtain⟨⟨i,i2⟩,h8,hp⟩:=Qo hp
 obtain⟨⟨j,j2⟩,h9,hp⟩:=Qo hp
 cases hp
 obtain⟨t1,e1,k1,p1⟩:=QL h1
 obtain⟨t2,e3,k3,_⟩:=QL h3
 obtain⟨t3,e5,k5,_⟩:=QL h5
 obtain⟨t4,e7,k7,v7⟩:=P4 h7
 obtain⟨t5,e8,k8,_⟩:=QL h8
 obtain⟨t6,e9,k9,p9⟩:=JJ h9
 simp only at e1 e3 e5 e7 e8 e9 p1 p9 k7 v7
 subst e1 e3 e5 e7 e8 e9 p1 p9
 obtain⟨a1,as1,rfl⟩:=Xh h2
 obtain⟨a3,as3,rfl⟩:=Xh h4
 obtain⟨a5,as5,rfl⟩:=Xh h6
 exact QbW hK h k1 h2 k3 h4 (by rw [k5];decide +kernel) h6 v7 k7 rfl k8 k9
theorem HX.doK {w:yW}{b:Nat}{K:PK}{V:yW}{post:List (Nat × Nat × Array Value)}{N:Nat}{e sz:Nat}{v:Value}{vs:List (Array Value)}{F:yW→Prop}{ts:List Tk}{k o:Int}{x:yB}{s q r u:Nd}{p:Int}(h:HX w b K V ((N,121,doA k o x s q r u p) :: post) e sz v vs F ts):zQ V N¢0 (zU k):=Qa (h.B _ List.mem_cons_self).1 0
theorem QaS {w:yW}{b:Nat}{K:PK}{t t2:Tk}{us:List Tk}(hK:KG K) (h:Lv w b K (t :: t2 :: us)) (hv:fnd t.x zt 0=2) (k2:t2.k=2) :
  Calls zG 204 #[zP b] w (OutL DoM.vals DoM.tr DoL b K w ⟨3,0,t2.x,tr0,tr0,tr0,tr0,t.p⟩ us):=by
 have HK:Hid (KG K):=hK
 have HT1:Hid (RgT t):=(h.ok hK.k).r
 have HG0:=((HX.new h 0 0).push (zE 0) 121).hid
 clear h hK
 obtain⟨W0,eW0⟩:∃ W,w.alloc (.cells (zE 0) 121)=W:=jV
 rw [eW0,Kg] at HG0
 have cN:=QM HG0.out.S
 have hf:=fun v=>Q6 t v
 go_enter func204,ntmps204
 go_wp2_with fail
 try rw [eW0]
 refine cN.mono ?_
 rintro e w1 ⟨rfl,hb1⟩
 have HG1:=(HG0.out.on hb1).hid
 clear cN hb1 HG0 eW0
 have cA:=Jy HG1.out.S HK.out zt (n:=6) rfl (by decide) (by decide +kernel)
 simp only [List.map] at cA
 rw [hv] at cA
 clear hv
 go_wp2_with fail
 refine cA.mono ?_
 rintro e wa ⟨rfl,hb4⟩
 have HGa:=(HG1.out.on hb4).hid
 obtain⟨i,c3,f3,hmx,hL,hM,_,_⟩:=HGa.out.S.at'
 obtain⟨V,eV⟩:∃ V,wa.setCell b¢3 (zI ((i:Int)+1))=V:=jV
 rw [eV] at hL hM
 have HGb:=(HGa.out.mv hM hL).hid
 clear cA hb4 HG1 hL hM HGa
 go_upto_region 9 with fail
 try rw [eV]
 clear eV c3 f3 hmx hf
 have HGp:=(HGb.out.push (zE 0) 121).hid
 have HG2:=(HX.rowA (pre:=[]) HGp.out #[zU 3,zU 0,yQ,zU 0,zU 0,zU 0,zI 0,zU 0,yQ,zO,zI 0,zU 0,zU 0,zU 0,zI 0,zU 0,yQ,zO,zI 0,zU 0,zU 0,zU 0,zI 0,zU 0,yQ,zO,zI 0,zU 0,zU 0,zU 0,zI 0,zU 0,yQ,zO,zI 0,zI t.p]).hid
 have HZ:Hid ((zA V (zE 0) 121).heap[V§]? = (zC (zE 0) 121)):=Qc _ _
 clear HGp HGb
 obtain⟨cs1,ecs1⟩:∃ c:Array Value,#[zU 3,zU 0,yQ,zU 0,zU 0,zU 0,zI 0,zU 0,yQ,zO,zI 0,zU 0,zU 0,zU 0,zI 0,zU 0,yQ,zO,zI 0,zU 0,zU 0,zU 0,zI 0,zU 0,yQ,zO,zI 0,zU 0,zU 0,zU 0,zI 0,zU 0,yQ,zO,zI 0,zI t.p]=c:=jV
 have hcs1:cs1.size=36:=by rw [← ecs1];rfl
 have hcs2:cs1.all (·.oneCell')=true:=by rw [← ecs1];simp [Value.oneCell']
 rw [ecs1] at HG2
 go_upto_region 10 with (refine wpList_store_row rfl 121 (.tmp 5) (.tmp 32) rfl V§ cs1 rfl (by first | rfl | exact congrArg Value.agg ecs1) 121 (zE 0) HZ.out (by rw [hcs1];exact Qt) (by rw [hcs1];rfl) hcs2 ?_)
 generalize hW1:World.setRow _ _ _=W1
 rw [hW1,← ecs1,Kg] at HG2
 obtain⟨N3,eN3⟩:∃ q,V§=q:=jV
 rw [eN3] at HG2 ⊢
 clear eN3 HZ hW1
 generalize Value.agg _=D0
 clear ecs1 hcs1 hcs2
 have hk0:=HG2.out.doK
 have HT2:Hid (RgT t2):=(HG2.out.S.ok HK.out.k).r
 have cN:=Xk HG2.out.S k2
 clear k2
 go_wp2_with fail
 refine cN.mono ?_
 rintro e wn ⟨rfl,hs,hm⟩
 have HN1:=(HG2.out.mv hm hs).hid
 obtain⟨v1,c1,f1⟩:=HX.cellA (pre:=[]) HN1.out 2 (by rw [UG];omega)
 have HN2:=(HN1.out.doX t2.x).hid
 clear cN hs hm HG2 hk0
 go_upto_region 12 with fail
 generalize hY:World.setCell _ _ _=Yx
 rw [hY] at HN2
 clear hY c1 f1 HN1
 have HC:Hid (Yx.heap[N3]? = (zC (doA 3 0 t2.x nd00 nd00 nd00 nd00 t.p) 121)):=(HN2.out.B _ List.mem_cons_self).1
 have HQ:Hid (Yx.heap[w§]? = (zC (doA 0 0 ⟨#[]⟩ nd00 nd00 nd00 nd00 0) 121)):=(HN2.out.B _ (List.mem_cons_of_mem _ List.mem_cons_self)).1
 have HF:=(HX.rowA (pre:=[_]) HN2.out (doA 3 0 t2.x nd00 nd00 nd00 nd00 t.p)).hid
 have HR:Hid ((Yx.setRow w§ (doA 3 0 t2.x nd00 nd00 nd00 nd00 t.p)).heap[w§]? = (zC (doA 3 0 t2.x nd00 nd00 nd00 nd00 t.p) 121)):=(HF.out.B _ (List.mem_cons_of_mem _ List.mem_cons_self)).1
 have hk0:=HN2.out.doK
 go_wp2_with (first | (refine wpList_load_row rfl 121 (.tmp 5) rfl N3 rfl 121 (doA 3 0 t2.x nd00 nd00 nd00 nd00 t.p) (0,0) _ HC.out underlying121 rfl Qt ?_) | (refine wpList_store_row rfl 121 (.tmp 2) (.tmp 60) rfl w§ (doA 3 0 t2.x nd00 nd00 nd00 nd00 t.p) rfl rfl 121 _ HQ.out Qt rfl (Xr ..) ?_))
 refine bodyPost_ret (results_cell_row rfl _ _ w§ 121 (doA 3 0 t2.x nd00 nd00 nd00 nd00 t.p) (0,0) _ rfl HR.out underlying121 rfl Qt) rfl (UF (d:=⟨3,0,t2.x,nd00,nd00,nd00,nd00,t.p⟩) HF.out ?_ fun U hU=>⟨QH U rg0,QH U rg0,QH U rg0,QH U rg0,⟨by show (0:Int)≤3;decide,by show (3:Int)≤255;decide⟩,⟨by show (0:Int)≤0;decide,by show (0:Int)≤255;decide⟩,⟨HT1.out.p0,HT1.out.p1⟩,HT2.out.x1⟩)
 show DoT.mk 3 0 t2.x tr0 (Qs nd00) (Qs nd00) (Qs nd00) t.p=_
 all_goals rfl
theorem QgG {w:yW}{b:Nat}{K:PK}{t t2 t3 a3 u:Tk}{as3 us:List Tk}{vl:Tr}(hK:KG K) (h:Lv w b K (t :: t2 :: t3 :: a3 :: as3)) (hv:fnd t.x zt 0=3) (k2:t2.k=2) (k3:t3.x=Zh) (h3:pEx (a3 :: as3)=some (vl,u :: us)) :
  Calls zG 204 #[zP b] w (OutL DoM.vals DoM.tr DoL b K w ⟨4,0,t2.x,tr0,tr0,tr0,vl,t.p⟩ (u :: us)):=by
 have HK:Hid (KG K):=hK
 have HT1:Hid (RgT t):=(h.ok hK.k).r
 have HG0:=((HX.new h 0 0).push (zE 0) 121).hid
 clear h hK
 obtain⟨W0,eW0⟩:∃ W,w.alloc (.cells (zE 0) 121)=W:=jV
 rw [eW0,Kg] at HG0
 have cN:=QM HG0.out.S
 have hf:=fun v=>Q6 t v
 go_enter func204,ntmps204
 go_wp2_with fail
 try rw [eW0]
 refine cN.mono ?_
 rintro e w1 ⟨rfl,hb1⟩
 have HG1:=(HG0.out.on hb1).hid
 clear cN hb1 HG0 eW0
 have cA:=Jy HG1.out.S HK.out zt (n:=6) rfl (by decide) (by decide +kernel)
 simp only [List.map] at cA
 rw [hv] at cA
 clear hv
 go_wp2_with fail
 refine cA.mono ?_
 rintro e wa ⟨rfl,hb4⟩
 have HGa:=(HG1.out.on hb4).hid
 obtain⟨i,c3,f3,hmx,hL,hM,_,_⟩:=HGa.out.S.at'
 obtain⟨V,eV⟩:∃ V,wa.setCell b¢3 (zI ((i:Int)+1))=V:=jV
 rw [eV] at hL hM
 have HGb:=(HGa.out.mv hM hL).hid
 clear cA hb4 HG1 hL hM HGa
 go_upto_region 9 with fail
 try rw [eV]
 clear eV c3 f3 hmx hf
 have HGp:=(HGb.out.push (zE 0) 121).hid
 have HG2:=(HX.rowA (pre:=[]) HGp.out #[zU 4,zU 0,yQ,zU 0,zU 0,zU 0,zI 0,zU 0,yQ,zO,zI 0,zU 0,zU 0,zU 0,zI 0,zU 0,yQ,zO,zI 0,zU 0,zU 0,zU 0,zI 0,zU 0,yQ,zO,zI 0,zU 0,zU 0,zU 0,zI 0,zU 0,yQ,zO,zI 0,zI t.p]).hid
 have HZ:Hid ((zA V (zE 0) 121).heap[V§]? = (zC (zE 0) 121)):=Qc _ _
 clear HGp HGb
 obtain⟨cs1,ecs1⟩:∃ c:Array Value,#[zU 4,zU 0,yQ,zU 0,zU 0,zU 0,zI 0,zU 0,yQ,zO,zI 0,zU 0,zU 0,zU 0,zI 0,zU 0,yQ,zO,zI 0,zU 0,zU 0,zU 0,zI 0,zU 0,yQ,zO,zI 0,zU 0,zU 0,zU 0,zI 0,zU 0,yQ,zO,zI 0,zI t.p]=c:=jV
 have hcs1:cs1.size=36:=by rw [← ecs1];rfl
 have hcs2:cs1.all (·.oneCell')=true:=by rw [← ecs1];simp [Value.oneCell']
 rw [ecs1] at HG2
 go_upto_region 10 with (refine wpList_store_row rfl 121 (.tmp 5) (.tmp 32) rfl V§ cs1 rfl (by first | rfl | exact congrArg Value.agg ecs1) 121 (zE 0) HZ.out (by rw [hcs1];exact Qt) (by rw [hcs1];rfl) hcs2 ?_)
 generalize hW1:World.setRow _ _ _=W1
 rw [hW1,← ecs1,Kg] at HG2
 obtain⟨N3,eN3⟩:∃ q,V§=q:=jV
 rw [eN3] at HG2 ⊢
 clear eN3 HZ hW1
 generalize Value.agg _=D0
 clear ecs1 hcs1 hcs2
 have hk0:=HG2.out.doK
 have HT2:Hid (RgT t2):=(HG2.out.S.ok HK.out.k).r
 have cN:=Xk HG2.out.S k2
 clear k2
 go_wp2_with fail
 refine cN.mono ?_
 rintro e wn ⟨rfl,hs,hm⟩
 have HN1:=(HG2.out.mv hm hs).hid
 obtain⟨v1,c1,f1⟩:=HX.cellA (pre:=[]) HN1.out 2 (by rw [UG];omega)
 have HN2:=(HN1.out.doX t2.x).hid
 clear cN hs hm HG2 hk0
 go_upto_region 12 with fail
 generalize hY:World.setCell _ _ _=Yx
 rw [hY] at HN2
 clear hY c1 f1 HN1
 have hk0:=HN2.out.doK
 have cT:=Jr HK.out HN2.out.S Zh (by decide +kernel) k3
 go_wp2_with fail
 refine cT.mono ?_
 rintro e w3 ⟨rfl,hs,hm⟩
 have HG3:=(HN2.out.mv hm hs).hid
 clear cT hs hm HN2 k3 hk0
 have cE:=Vo HK.out HG3.out.S h3
 go_wp2_with fail
 refine cE.mono ?_
 rintro e ua1 ⟨m1,rfl,htr,hdp,hs,hm⟩
 have HM1:Hid (Qs m1=_):=htr
 have HA1:=(HG3.out.add hm hs hdp).hid
 have HB1:=(HA1.out.doVlS m1).hid
 clear cE hs hm htr hdp HG3 h3
 go_upto_region 20 with (refine wpList_store_mid rfl 38 (.tmp 59) (.tmp 58) rfl N3 27 m1.vals rfl rfl (HA1.out.doT 27 zY) Qj (all8 m1) ?_)
 generalize hY:World.setCells _ _ _ _=Y1
 rw [hY] at HB1
 clear hY HA1
 have HC:Hid (Y1.heap[N3]? = (zC (doA 4 0 t2.x nd00 nd00 nd00 m1 t.p) 121)):=(HB1.out.B _ List.mem_cons_self).1
 have HQ:Hid (Y1.heap[w§]? = (zC (doA 0 0 ⟨#[]⟩ nd00 nd00 nd00 nd00 0) 121)):=(HB1.out.B _ (List.mem_cons_of_mem _ List.mem_cons_self)).1
 have HF:=(HX.rowA (pre:=[_]) HB1.out (doA 4 0 t2.x nd00 nd00 nd00 m1 t.p)).hid
 have HR:Hid ((Y1.setRow w§ (doA 4 0 t2.x nd00 nd00 nd00 m1 t.p)).heap[w§]? = (zC (doA 4 0 t2.x nd00 nd00 nd00 m1 t.p) 121)):=(HF.out.B _ (List.mem_cons_of_mem _ List.mem_cons_self)).1
 have hk0:=HB1.out.doK
 go_wp2_with (first | (refine wpList_load_row rfl 121 (.tmp 5) rfl N3 rfl 121 (doA 4 0 t2.x nd00 nd00 nd00 m1 t.p) (0,0) _ HC.out underlying121 rfl Qt ?_) | (refine wpList_store_row rfl 121 (.tmp 2) (.tmp 60) rfl w§ (doA 4 0 t2.x nd00 nd00 nd00 m1 t.p) rfl rfl 121 _ HQ.out Qt rfl (Xr ..) ?_))
 refine bodyPost_ret (results_cell_row rfl _ _ w§ 121 (doA 4 0 t2.x nd00 nd00 nd00 m1 t.p) (0,0) _ rfl HR.out underlying121 rfl Qt) rfl (UF (d:=⟨4,0,t2.x,nd00,nd00,nd00,m1,t.p⟩) HF.out ?_ fun U hU=>⟨QH U rg0,QH U rg0,QH U rg0,hU.2,⟨by show (0:Int)≤4;decide,by show (4:Int)≤255;decide⟩,⟨by show (0:Int)≤0;decide,by show (0:Int)≤255;decide⟩,⟨HT1.out.p0,HT1.out.p1⟩,HT2.out.x1⟩)
 show DoT.mk 4 0 t2.x tr0 (Qs nd00) (Qs nd00) (Qs m1) t.p=_
 rw [HM1.out]
 all_goals rfl
theorem Qfa {w:yW}{b:Nat}{K:PK}{t t2:Tk}{us:List Tk}(hK:KG K) (h:Lv w b K (t :: t2 :: us)) (hv:fnd t.x zt 0=4) (k2:t2.k=2) :
  Calls zG 204 #[zP b] w (OutL DoM.vals DoM.tr DoL b K w ⟨5,0,t2.x,tr0,tr0,tr0,tr0,t.p⟩ us):=by
 have HK:Hid (KG K):=hK
 have HT1:Hid (RgT t):=(h.ok hK.k).r
 have HG0:=((HX.new h 0 0).push (zE 0) 121).hid
 clear h hK
 obtain⟨W0,eW0⟩:∃ W,w.alloc (.cells (zE 0) 121)=W:=jV
 rw [eW0,Kg] at HG0
 have cN:=QM HG0.out.S
 have hf:=fun v=>Q6 t v
 go_enter func204,ntmps204
 go_wp2_with fail
 try rw [eW0]
 refine cN.mono ?_
 rintro e w1 ⟨rfl,hb1⟩
 have HG1:=(HG0.out.on hb1).hid
 clear cN hb1 HG0 eW0
 have cA:=Jy HG1.out.S HK.out zt (n:=6) rfl (by decide) (by decide +kernel)
 simp only [List.map] at cA
 rw [hv] at cA
 clear hv
 go_wp2_with fail
 refine cA.mono ?_
 rintro e wa ⟨rfl,hb4⟩
 have HGa:=(HG1.out.on hb4).hid
 obtain⟨i,c3,f3,hmx,hL,hM,_,_⟩:=HGa.out.S.at'
 obtain⟨V,eV⟩:∃ V,wa.setCell b¢3 (zI ((i:Int)+1))=V:=jV
 rw [eV] at hL hM
 have HGb:=(HGa.out.mv hM hL).hid
 clear cA hb4 HG1 hL hM HGa
 go_upto_region 9 with fail
 try rw [eV]
 clear eV c3 f3 hmx hf
 have HGp:=(HGb.out.push (zE 0) 121).hid
 have HG2:=(HX.rowA (pre:=[]) HGp.out #[zU 5,zU 0,yQ,zU 0,zU 0,zU 0,zI 0,zU 0,yQ,zO,zI 0,zU 0,zU 0,zU 0,zI 0,zU 0,yQ,zO,zI 0,zU 0,zU 0,zU 0,zI 0,zU 0,yQ,zO,zI 0,zU 0,zU 0,zU 0,zI 0,zU 0,yQ,zO,zI 0,zI t.p]).hid
 have HZ:Hid ((zA V (zE 0) 121).heap[V§]? = (zC (zE 0) 121)):=Qc _ _
 clear HGp HGb
 obtain⟨cs1,ecs1⟩:∃ c:Array Value,#[zU 5,zU 0,yQ,zU 0,zU 0,zU 0,zI 0,zU 0,yQ,zO,zI 0,zU 0,zU 0,zU 0,zI 0,zU 0,yQ,zO,zI 0,zU 0,zU 0,zU 0,zI 0,zU 0,yQ,zO,zI 0,zU 0,zU 0,zU 0,zI 0,zU 0,yQ,zO,zI 0,zI t.p]=c:=jV
 have hcs1:cs1.size=36:=by rw [← ecs1];rfl
 have hcs2:cs1.all (·.oneCell')=true:=by rw [← ecs1];simp [Value.oneCell']
 rw [ecs1] at HG2
 go_upto_region 10 with (refine wpList_store_row rfl 121 (.tmp 5) (.tmp 32) rfl V§ cs1 rfl (by first | rfl | exact congrArg Value.agg ecs1) 121 (zE 0) HZ.out (by rw [hcs1];exact Qt) (by rw [hcs1];rfl) hcs2 ?_)
 generalize hW1:World.setRow _ _ _=W1
 rw [hW1,← ecs1,Kg] at HG2
 obtain⟨N3,eN3⟩:∃ q,V§=q:=jV
 rw [eN3] at HG2 ⊢
 clear eN3 HZ hW1
 generalize Value.agg _=D0
 clear ecs1 hcs1 hcs2
 have hk0:=HG2.out.doK
 have HT2:Hid (RgT t2):=(HG2.out.S.ok HK.out.k).r
 have cN:=Xk HG2.out.S k2
 clear k2
 go_wp2_with fail
 refine cN.mono ?_
 rintro e wn ⟨rfl,hs,hm⟩
 have HN1:=(HG2.out.mv hm hs).hid
 obtain⟨v1,c1,f1⟩:=HX.cellA (pre:=[]) HN1.out 2 (by rw [UG];omega)
 have HN2:=(HN1.out.doX t2.x).hid
 clear cN hs hm HG2 hk0
 go_upto_region 12 with fail
 generalize hY:World.setCell _ _ _=Yx
 rw [hY] at HN2
 clear hY c1 f1 HN1
 have HC:Hid (Yx.heap[N3]? = (zC (doA 5 0 t2.x nd00 nd00 nd00 nd00 t.p) 121)):=(HN2.out.B _ List.mem_cons_self).1
 have HQ:Hid (Yx.heap[w§]? = (zC (doA 0 0 ⟨#[]⟩ nd00 nd00 nd00 nd00 0) 121)):=(HN2.out.B _ (List.mem_cons_of_mem _ List.mem_cons_self)).1
 have HF:=(HX.rowA (pre:=[_]) HN2.out (doA 5 0 t2.x nd00 nd00 nd00 nd00 t.p)).hid
 have HR:Hid ((Yx.setRow w§ (doA 5 0 t2.x nd00 nd00 nd00 nd00 t.p)).heap[w§]? = (zC (doA 5 0 t2.x nd00 nd00 nd00 nd00 t.p) 121)):=(HF.out.B _ (List.mem_cons_of_mem _ List.mem_cons_self)).1
 have hk0:=HN2.out.doK
 go_wp2_with (first | (refine wpList_load_row rfl 121 (.tmp 5) rfl N3 rfl 121 (doA 5 0 t2.x nd00 nd00 nd00 nd00 t.p) (0,0) _ HC.out underlying121 rfl Qt ?_) | (refine wpList_store_row rfl 121 (.tmp 2) (.tmp 60) rfl w§ (doA 5 0 t2.x nd00 nd00 nd00 nd00 t.p) rfl rfl 121 _ HQ.out Qt rfl (Xr ..) ?_))
 refine bodyPost_ret (results_cell_row rfl _ _ w§ 121 (doA 5 0 t2.x nd00 nd00 nd00 nd00 t.p) (0,0) _ rfl HR.out underlying121 rfl Qt) rfl (UF (d:=⟨5,0,t2.x,nd00,nd00,nd00,nd00,t.p⟩) HF.out ?_ fun U hU=>⟨QH U rg0,QH U rg0,QH U rg0,QH U rg0,⟨by show (0:Int)≤5;decide,by show (5:Int)≤255;decide⟩,⟨by show (0:Int)≤0;decide,by show (0:Int)≤255;decide⟩,⟨HT1.out.p0,HT1.out.p1⟩,HT2.out.x1⟩)
 show DoT.mk 5 0 t2.x tr0 (Qs nd00) (Qs nd00) (Qs nd00) t.p=_
 all_goals rfl
theorem Qe9 {w:yW}{b:Nat}{K:PK}{t:Tk}{us:List Tk}(hK:KG K) (h:Lv w b K (t :: us)) (hv:fnd t.x zt 0=5) :
  Calls zG 204 #[zP b] w (OutL DoM.vals DoM.tr DoL b K w ⟨6,0,gE,tr0,tr0,tr0,tr0,t.p⟩ us):=by
 have HK:Hid (KG K):=hK
 have HT1:Hid (RgT t):=(h.ok hK.k).r
 have HG0:=((HX.new h 0 0).push (zE 0) 121).hid
 clear h hK
 obtain⟨W0,eW0⟩:∃ W,w.alloc (.cells (zE 0) 121)=W:=jV
 rw [eW0,Kg] at HG0
 have cN:=QM HG0.out.S
 have hf:=fun v=>Q6 t v
 go_enter func204,ntmps204
 go_wp2_with fail
 try rw [eW0]
 refine cN.mono ?_
 rintro e w1 ⟨rfl,hb1⟩
 have HG1:=(HG0.out.on hb1).hid
 clear cN hb1 HG0 eW0
 have cA:=Jy HG1.out.S HK.out zt (n:=6) rfl (by decide) (by decide +kernel)
 simp only [List.map] at cA
 rw [hv] at cA
 clear hv
 go_wp2_with fail
 refine cA.mono ?_
 rintro e wa ⟨rfl,hb4⟩
 have HGa:=(HG1.out.on hb4).hid
 obtain⟨i,c3,f3,hmx,hL,hM,_,_⟩:=HGa.out.S.at'
 obtain⟨V,eV⟩:∃ V,wa.setCell b¢3 (zI ((i:Int)+1))=V:=jV
 rw [eV] at hL hM
 have HGb:=(HGa.out.mv hM hL).hid
 clear cA hb4 HG1 hL hM HGa
 go_upto_region 9 with fail
 try rw [eV]
 clear eV c3 f3 hmx hf
 have HGp:=(HGb.out.push (zE 0) 121).hid
 have HG2:=(HX.rowA (pre:=[]) HGp.out #[zU 6,zU 0,yQ,zU 0,zU 0,zU 0,zI 0,zU 0,yQ,zO,zI 0,zU 0,zU 0,zU 0,zI 0,zU 0,yQ,zO,zI 0,zU 0,zU 0,zU 0,zI 0,zU 0,yQ,zO,zI 0,zU 0,zU 0,zU 0,zI 0,zU 0,yQ,zO,zI 0,zI t.p]).hid
 have HZ:Hid ((zA V (zE 0) 121).heap[V§]? = (zC (zE 0) 121)):=Qc _ _
 clear HGp HGb
 obtain⟨cs1,ecs1⟩:∃ c:Array Value,#[zU 6,zU 0,yQ,zU 0,zU 0,zU 0,zI 0,zU 0,yQ,zO,zI 0,zU 0,zU 0,zU 0,zI 0,zU 0,yQ,zO,zI 0,zU 0,zU 0,zU 0,zI 0,zU 0,yQ,zO,zI 0,zU 0,zU 0,zU 0,zI 0,zU 0,yQ,zO,zI 0,zI t.p]=c:=jV
 have hcs1:cs1.size=36:=by rw [← ecs1];rfl
 have hcs2:cs1.all (·.oneCell')=true:=by rw [← ecs1];simp [Value.oneCell']
 rw [ecs1] at HG2
 go_upto_region 10 with (refine wpList_store_row rfl 121 (.tmp 5) (.tmp 32) rfl V§ cs1 rfl (by first | rfl | exact congrArg Value.agg ecs1) 121 (zE 0) HZ.out (by rw [hcs1];exact Qt) (by rw [hcs1];rfl) hcs2 ?_)
 generalize hW1:World.setRow _ _ _=W1
 rw [hW1,← ecs1,Kg] at HG2
 obtain⟨N3,eN3⟩:∃ q,V§=q:=jV
 rw [eN3] at HG2 ⊢
 clear eN3 HZ hW1
 generalize Value.agg _=D0
 clear ecs1 hcs1 hcs2
 have HC:Hid (W1.heap[N3]? = (zC (doA 6 0 ⟨#[]⟩ nd00 nd00 nd00 nd00 t.p) 121)):=(HG2.out.B _ List.mem_cons_self).1
 have HQ:Hid (W1.heap[w§]? = (zC (doA 0 0 ⟨#[]⟩ nd00 nd00 nd00 nd00 0) 121)):=(HG2.out.B _ (List.mem_cons_of_mem _ List.mem_cons_self)).1
 have HF:=(HX.rowA (pre:=[_]) HG2.out (doA 6 0 ⟨#[]⟩ nd00 nd00 nd00 nd00 t.p)).hid
 have HR:Hid ((W1.setRow w§ (doA 6 0 ⟨#[]⟩ nd00 nd00 nd00 nd00 t.p)).heap[w§]? = (zC (doA 6 0 ⟨#[]⟩ nd00 nd00 nd00 nd00 t.p) 121)):=(HF.out.B _ (List.mem_cons_of_mem _ List.mem_cons_self)).1
 have hk0:=HG2.out.doK
 go_wp2_with (first | (refine wpList_load_row rfl 121 (.tmp 5) rfl N3 rfl 121 (doA 6 0 ⟨#[]⟩ nd00 nd00 nd00 nd00 t.p) (0,0) _ HC.out underlying121 rfl Qt ?_) | (refine wpList_store_row rfl 121 (.tmp 2) (.tmp 60) rfl w§ (doA 6 0 ⟨#[]⟩ nd00 nd00 nd00 nd00 t.p) rfl rfl 121 _ HQ.out Qt rfl (Xr ..) ?_))
 refine bodyPost_ret (results_cell_row rfl _ _ w§ 121 (doA 6 0 ⟨#[]⟩ nd00 nd00 nd00 nd00 t.p) (0,0) _ rfl HR.out underlying121 rfl Qt) rfl (UF (d:=⟨6,0,⟨#[]⟩,nd00,nd00,nd00,nd00,t.p⟩) HF.out ?_ fun U hU=>⟨QH U rg0,QH U rg0,QH U rg0,QH U rg0,⟨by show (0:Int)≤6;decide,by show (6:Int)≤255;decide⟩,⟨by show (0:Int)≤0;decide,by show (0:Int)≤255;decide⟩,⟨HT1.out.p0,HT1.out.p1⟩,(show gE.size≤140737488355328 by decide)⟩)
 show DoT.mk 6 0 ⟨#[]⟩ tr0 (Qs nd00) (Qs nd00) (Qs nd00) t.p=_
 all_goals rfl
theorem QaR {w:yW}{b:Nat}{K:PK}{t:Tk}{ts:List Tk}{r:DoT}{u:Tk}{us:List Tk}(hK:KG K) (h:Lv w b K (t :: ts)) (hv:fnd t.x zt 0=0) (hp:UU (t :: ts)=some (r,u :: us)) :
  Calls zG 204 #[zP b] w (OutL DoM.vals DoM.tr DoL b K w r (u :: us)):=by
 have HK:Hid (KG K):=hK
 have HG0:=((HX.new h 0 0).push (zE 0) 121).hid
 clear h hK
 obtain⟨W0,eW0⟩:∃ W,w.alloc (.cells (zE 0) 121)=W:=jV
 rw [eW0,Kg] at HG0
 have cN:=QM HG0.out.S
 have hf:=fun v=>Q6 t v
 go_enter func204,ntmps204
 go_wp2_with fail
 try rw [eW0]
 refine cN.mono ?_
 rintro e w1 ⟨rfl,hb1⟩
 have HG1:=(HG0.out.on hb1).hid
 clear cN hb1 HG0 eW0
 have cA:=Jy HG1.out.S HK.out zt (n:=6) rfl (by decide) (by decide +kernel)
 simp only [List.map] at cA
 rw [hv] at cA
 clear hv
 go_wp2_with fail
 refine cA.mono ?_
 rintro e wa ⟨rfl,hb4⟩
 have HGa:=(HG1.out.on hb4).hid
 have cS:=Qda HK.out HGa.out.S hp
 clear cA hb4 HG1 hf hp
 go_wp2_with fail
 refine cS.mono ?_
 rintro e w5 ⟨d,rfl,htr,hdp,hs,hm⟩
 have HG5:=(HGa.out.add hm hs hdp).hid
 have HD:Hid (d.tr=r):=htr
 have HQ:Hid (w5.heap[w§]? = (zC (doA 0 0 ⟨#[]⟩ nd00 nd00 nd00 nd00 0) 121)):=(HG5.out.B _ List.mem_cons_self).1
 have HF:=(HX.rowA (pre:=[]) HG5.out d.vals).hid
 have HR:Hid ((w5.setRow w§ d.vals).heap[w§]? = (zC d.vals 121)):=(HF.out.B _ List.mem_cons_self).1
 clear cS htr hdp hs hm HGa
 go_wp2_with (refine wpList_store_row rfl 121 (.tmp 2) (.tmp 20) rfl w§ d.vals rfl rfl 121 _ HQ.out Qt rfl (Xr ..) ?_)
 exact bodyPost_ret (results_cell_row rfl _ _ w§ 121 d.vals (0,0) _ rfl HR.out underlying121 rfl Qt) rfl (UF HF.out HD.out fun U hU=>hU.2)
theorem do_l {w:yW}{b:Nat}{K:PK}{ts:List Tk}{r:DoT}{u:Tk}{us:List Tk}(hK:KG K) (h:Lv w b K ts) (hp:pDo ts=some (r,u :: us)):Calls zG 204 #[zP b] w (OutL DoM.vals DoM.tr DoL b K w r (u :: us)):=by
 cases ts with
 | nil=>cases hp
 | cons t ts =>
  simp only [pDo] at hp
  by_cases hv:fnd t.x zt 0=0
  ·rw [if_pos hv] at hp
   exact QaR hK h hv hp
  rw [if_neg hv] at hp
  clear hv
  by_cases hv:fnd t.x zt 0=2
  ·rw [if_pos hv] at hp
   obtain⟨⟨a,a2⟩,h1,hp⟩:=Qo hp
   cases hp
   obtain⟨t2,g2,k2,k2'⟩:=JJ h1
   simp only at k2' g2
   rw [k2']
   rw [g2] at h
   exact QaS hK h hv k2
  rw [if_neg hv] at hp
  clear hv
  by_cases hv:fnd t.x zt 0=3
  ·rw [if_pos hv] at hp
   unfold pSet at hp
   obtain⟨⟨a,a2⟩,h1,hp⟩:=Qo hp
   obtain⟨⟨c,c2⟩,h2,hp⟩:=Qo hp
   obtain⟨⟨e,e2⟩,h3,hp⟩:=Qo hp
   cases hp
   obtain⟨t2,g2,k2,k2'⟩:=JJ h1
   obtain⟨t3,g3,k3,_⟩:=QL h2
   simp only at k2' g2 g3
   subst g2 g3 k2'
   obtain⟨a3,as3,rfl⟩:=Xh h3
   exact QgG hK h hv k2 k3 h3
  rw [if_neg hv] at hp
  clear hv
  by_cases hv:fnd t.x zt 0=4
  ·rw [if_pos hv] at hp
   obtain⟨⟨a,a2⟩,h1,hp⟩:=Qo hp
   cases hp
   obtain⟨t2,g2,k2,k2'⟩:=JJ h1
   simp only at k2' g2
   rw [k2']
   rw [g2] at h
   exact Qfa hK h hv k2
  rw [if_neg hv] at hp
  clear hv
  by_cases hv:fnd t.x zt 0=5
  ·rw [if_pos hv] at hp
   cases hp
   exact Qe9 hK h hv
  ·rw [if_neg hv] at hp;cases hp
end Go.Proofs.YtfbjofnaghjmeaaGreatDoor
