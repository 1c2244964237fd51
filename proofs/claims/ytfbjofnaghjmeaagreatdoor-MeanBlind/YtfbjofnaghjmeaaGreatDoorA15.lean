import Derived.Test.YtfbjofnaghjmeaaGreatDoorA0
import Derived.Test.YtfbjofnaghjmeaaGreatDoorA14
namespace Go.Proofs.YtfbjofnaghjmeaaGreatDoor
set_option maxHeartbeats 4000000
set_option maxRecDepth 100000
open Go.RowKit
set_option linter.unusedVariables false
theorem submit_l {w:yW}{b:Nat}{K:PK}{ts:List Tk}{r:DoT}{u:Tk}{us:List Tk}(hK:KG K) (h:Lv w b K ts) (hp:pSubmit ts=some (r,u :: us)):Calls zG 220 #[zP b] w (OutL DoM.vals DoM.tr DoL b K w r (u :: us)):=by
 unfold pSubmit at hp
 obtain⟨⟨a,a2⟩,h1,hp⟩:=opt_bind hp
 obtain⟨⟨b1,b2⟩,h2,hp⟩:=opt_bind hp
 obtain⟨⟨c,c2⟩,h3,hp⟩:=opt_bind hp
 obtain⟨⟨d,d2⟩,h4,hp⟩:=opt_bind hp
 obtain⟨⟨e,e2⟩,h5,hp⟩:=opt_bind hp
 obtain⟨⟨f,f2⟩,h6,hp⟩:=opt_bind hp
 obtain⟨⟨g,g2⟩,h7,hp⟩:=opt_bind hp
 obtain⟨⟨i,i2⟩,h8,hp⟩:=opt_bind hp
 obtain⟨⟨j,j2⟩,h9,hp⟩:=opt_bind hp
 cases hp
 obtain⟨t1,e1,k1,p1⟩:=pTake_inv h1
 obtain⟨t2,e3,k3,_⟩:=pTake_inv h3
 obtain⟨t3,e5,k5,_⟩:=pTake_inv h5
 obtain⟨t4,e7,k7,v7⟩:=pAny_inv h7
 obtain⟨t5,e8,k8,_⟩:=pTake_inv h8
 obtain⟨t6,e9,k9,p9⟩:=pName_inv h9
 simp only at e1 e3 e5 e7 e8 e9 p1 p9 k7 v7
 subst e1 e3 e5 e7 e8 e9 p1 p9
 obtain⟨a1,as1,rfl⟩:=pEx_cons h2
 obtain⟨a3,as3,rfl⟩:=pEx_cons h4
 obtain⟨a5,as5,rfl⟩:=pEx_cons h6
 exact submit_ax hK h k1 h2 k3 h4 (by rw [k5]; decide +kernel) h6 v7 k7 rfl k8 k9
theorem HX.doK {w:yW}{b:Nat}{K:PK}{V:yW}{post:List (Nat × Nat × Array Value)}{N:Nat}{e sz:Nat}{v:Value}{vs:List (Array Value)}{F:yW→Prop}{ts:List Tk}{k o:Int}{x:yB}{s q r u:Nd}{p:Int}(h:HX w b K V ((N,121,doA k o x s q r u p) :: post) e sz v vs F ts):V.cell? N¢0=some (zU k):=cell_of (h.B _ List.mem_cons_self).1 0
theorem doL_cancel {w:yW}{b:Nat}{K:PK}{t t2:Tk}{us:List Tk}(hK:KG K) (h:Lv w b K (t :: t2 :: us)) (hv:fnd t.x zr 0=2) (k2:t2.k=2) :
  Calls zG 204 #[zP b] w (OutL DoM.vals DoM.tr DoL b K w ⟨3,0,t2.x,tr0,tr0,tr0,tr0,t.p⟩ us):=by
 have HK:Hid (KG K):=hK
 have HT1:Hid (RgT t):=(h.ok hK.k).r
 have HG0:=((HX.new h 0 0).push #[zU 0,zU 0,yQ,zU 0,zU 0,zU 0,zI 0,zU 0,yQ,.slice none 0 0,zI 0,zU 0,zU 0,zU 0,zI 0,zU 0,yQ,.slice none 0 0,zI 0,zU 0,zU 0,zU 0,zI 0,zU 0,yQ,.slice none 0 0,zI 0,zU 0,zU 0,zU 0,zI 0,zU 0,yQ,.slice none 0 0,zI 0,zI 0] 121).hid
 clear h hK
 obtain⟨W0,eW0⟩:∃ W,w.alloc (.cells #[zU 0,zU 0,yQ,zU 0,zU 0,zU 0,zI 0,zU 0,yQ,.slice none 0 0,zI 0,zU 0,zU 0,zU 0,zI 0,zU 0,yQ,.slice none 0 0,zI 0,zU 0,zU 0,zU 0,zI 0,zU 0,yQ,.slice none 0 0,zI 0,zU 0,zU 0,zU 0,zI 0,zU 0,yQ,.slice none 0 0,zI 0,zI 0] 121)=W:=⟨_,rfl⟩
 rw [eW0,doZ_eq] at HG0
 have cN:=live_now HG0.out.S
 have hf:=fun v=>field82_4 t v
 go_enter Tryz.func204,Tryz.ntmps204
 go_wp2_with fail
 try rw [eW0]
 refine cN.mono ?_
 rintro e w1 ⟨rfl,hb1⟩
 have HG1:=(HG0.out.on hb1).hid
 clear cN hb1 HG0 eW0
 have cA:=any_y HG1.out.S HK.out zr (n:=6) rfl (by decide) (by decide +kernel)
 simp only [List.map] at cA
 rw [hv] at cA
 clear hv
 go_wp2_with fail
 refine cA.mono ?_
 rintro e wa ⟨rfl,hb4⟩
 have HGa:=(HG1.out.on hb4).hid
 obtain⟨i,c3,f3,hmx,hL,hM,_,_⟩:=HGa.out.S.at'
 obtain⟨V,eV⟩:∃ V,wa.setCell b¢3 (zI ((i:Int)+1))=V:=⟨_,rfl⟩
 rw [eV] at hL hM
 have HGb:=(HGa.out.mv hM hL).hid
 clear cA hb4 HG1 hL hM HGa
 go_upto_region 9 with fail
 try rw [eV]
 clear eV c3 f3 hmx hf
 have HGp:=(HGb.out.push #[zU 0,zU 0,yQ,zU 0,zU 0,zU 0,zI 0,zU 0,yQ,.slice none 0 0,zI 0,zU 0,zU 0,zU 0,zI 0,zU 0,yQ,.slice none 0 0,zI 0,zU 0,zU 0,zU 0,zI 0,zU 0,yQ,.slice none 0 0,zI 0,zU 0,zU 0,zU 0,zI 0,zU 0,yQ,.slice none 0 0,zI 0,zI 0] 121).hid
 have HG2:=(HX.rowA (pre:=[]) HGp.out #[zU 3,zU 0,yQ,zU 0,zU 0,zU 0,zI 0,zU 0,yQ,.slice none 0 0,zI 0,zU 0,zU 0,zU 0,zI 0,zU 0,yQ,.slice none 0 0,zI 0,zU 0,zU 0,zU 0,zI 0,zU 0,yQ,.slice none 0 0,zI 0,zU 0,zU 0,zU 0,zI 0,zU 0,yQ,.slice none 0 0,zI 0,zI t.p]).hid
 have HZ:Hid ((V.alloc (.cells #[zU 0,zU 0,yQ,zU 0,zU 0,zU 0,zI 0,zU 0,yQ,.slice none 0 0,zI 0,zU 0,zU 0,zU 0,zI 0,zU 0,yQ,.slice none 0 0,zI 0,zU 0,zU 0,zU 0,zI 0,zU 0,yQ,.slice none 0 0,zI 0,zU 0,zU 0,zU 0,zI 0,zU 0,yQ,.slice none 0 0,zI 0,zI 0] 121)).heap[V§]? = (zC #[zU 0,zU 0,yQ,zU 0,zU 0,zU 0,zI 0,zU 0,yQ,.slice none 0 0,zI 0,zU 0,zU 0,zU 0,zI 0,zU 0,yQ,.slice none 0 0,zI 0,zU 0,zU 0,zU 0,zI 0,zU 0,yQ,.slice none 0 0,zI 0,zU 0,zU 0,zU 0,zI 0,zU 0,yQ,.slice none 0 0,zI 0,zI 0] 121)):=heap_new _ _
 clear HGp HGb
 obtain⟨cs1,ecs1⟩:∃ c:Array Value,#[zU 3,zU 0,yQ,zU 0,zU 0,zU 0,zI 0,zU 0,yQ,.slice none 0 0,zI 0,zU 0,zU 0,zU 0,zI 0,zU 0,yQ,.slice none 0 0,zI 0,zU 0,zU 0,zU 0,zI 0,zU 0,yQ,.slice none 0 0,zI 0,zU 0,zU 0,zU 0,zI 0,zU 0,yQ,.slice none 0 0,zI 0,zI t.p]=c:=⟨_,rfl⟩
 have hcs1:cs1.size=36:=by rw [← ecs1]; rfl
 have hcs2:cs1.all (·.oneCell')=true:=by rw [← ecs1]; simp [Value.oneCell']
 rw [ecs1] at HG2
 go_upto_region 10 with (refine wpList_store_row rfl 121 (.tmp 5) (.tmp 32) rfl V§ cs1 rfl (by first | rfl | exact congrArg Value.agg ecs1) 121 #[zU 0,zU 0,yQ,zU 0,zU 0,zU 0,zI 0,zU 0,yQ,.slice none 0 0,zI 0,zU 0,zU 0,zU 0,zI 0,zU 0,yQ,.slice none 0 0,zI 0,zU 0,zU 0,zU 0,zI 0,zU 0,yQ,.slice none 0 0,zI 0,zU 0,zU 0,zU 0,zI 0,zU 0,yQ,.slice none 0 0,zI 0,zI 0] HZ.out (by rw [hcs1]; exact size110') (by rw [hcs1]; rfl) hcs2 ?_)
 generalize hW1:World.setRow _ _ _=W1
 rw [hW1,← ecs1,doZ_eq] at HG2
 obtain⟨N3,eN3⟩:∃ q,V§=q:=⟨_,rfl⟩
 rw [eN3] at HG2 ⊢
 clear eN3 HZ hW1
 generalize Value.agg _=D0
 clear ecs1 hcs1 hcs2
 have hk0:=HG2.out.doK
 have HT2:Hid (RgT t2):=(HG2.out.S.ok HK.out.k).r
 have cN:=name_l HG2.out.S k2
 clear k2
 go_wp2_with fail
 refine cN.mono ?_
 rintro e wn ⟨rfl,hs,hm⟩
 have HN1:=(HG2.out.mv hm hs).hid
 obtain⟨v1,c1,f1⟩:=HX.cellA (pre:=[]) HN1.out 2 (by rw [doA_sz]; omega)
 have HN2:=(HN1.out.doX t2.x).hid
 clear cN hs hm HG2 hk0
 go_upto_region 12 with fail
 generalize hY:World.setCell _ _ _=Yx
 rw [hY] at HN2
 clear hY c1 f1 HN1
 have HC:Hid (Yx.heap[N3]? = (zC (doA 3 0 t2.x nd00 nd00 nd00 nd00 t.p) 121)):=(HN2.out.B _ List.mem_cons_self).1
 have HQ:Hid (Yx.heap[w§]? = (zC (doA 0 0 ⟨#[]⟩ nd00 nd00 nd00 nd00 0) 121)):=(HN2.out.B _ (List.mem_cons_of_mem _ List.mem_cons_self)).1
 have HF:=(HX.rowA (pre:=[_]) HN2.out (doA 3 0 t2.x nd00 nd00 nd00 nd00 t.p)).hid
 have HR:Hid ((Yx.setRow w§ (doA 3 0 t2.x nd00 nd00 nd00 nd00 t.p)).heap[w§]? = (zC (doA 3 0 t2.x nd00 nd00 nd00 nd00 t.p) 121)):=(HF.out.B _ (List.mem_cons_of_mem _ List.mem_cons_self)).1
 have hk0:=HN2.out.doK
 go_wp2_with (first | (refine wpList_load_row rfl 121 (.tmp 5) rfl N3 rfl 121 (doA 3 0 t2.x nd00 nd00 nd00 nd00 t.p) (0,0) _ HC.out Tryz.underlying121 rfl size110' ?_) | (refine wpList_store_row rfl 121 (.tmp 2) (.tmp 60) rfl w§ (doA 3 0 t2.x nd00 nd00 nd00 nd00 t.p) rfl rfl 121 _ HQ.out size110' rfl (all36 ..) ?_))
 refine bodyPost_ret (results_cell_row rfl _ _ w§ 121 (doA 3 0 t2.x nd00 nd00 nd00 nd00 t.p) (0,0) _ rfl HR.out Tryz.underlying121 rfl size110') rfl (do_out (d:=⟨3,0,t2.x,nd00,nd00,nd00,nd00,t.p⟩) HF.out ?_ fun U hU=>⟨lies_leaf U rg0,lies_leaf U rg0,lies_leaf U rg0,lies_leaf U rg0,⟨by show (0:Int)≤3; decide,by show (3:Int)≤255; decide⟩,⟨by show (0:Int)≤0; decide,by show (0:Int)≤255; decide⟩,⟨HT1.out.p0,HT1.out.p1⟩,HT2.out.x1⟩)
 show DoT.mk 3 0 t2.x tr0 (treeOf nd00) (treeOf nd00) (treeOf nd00) t.p=_
 all_goals rfl
theorem doL_set {w:yW}{b:Nat}{K:PK}{t t2 t3 a3 u:Tk}{as3 us:List Tk}{vl:Tr}(hK:KG K) (h:Lv w b K (t :: t2 :: t3 :: a3 :: as3)) (hv:fnd t.x zr 0=3) (k2:t2.k=2) (k3:t3.x=Zi) (h3:pEx (a3 :: as3)=some (vl,u :: us)) :
  Calls zG 204 #[zP b] w (OutL DoM.vals DoM.tr DoL b K w ⟨4,0,t2.x,tr0,tr0,tr0,vl,t.p⟩ (u :: us)):=by
 have HK:Hid (KG K):=hK
 have HT1:Hid (RgT t):=(h.ok hK.k).r
 have HG0:=((HX.new h 0 0).push #[zU 0,zU 0,yQ,zU 0,zU 0,zU 0,zI 0,zU 0,yQ,.slice none 0 0,zI 0,zU 0,zU 0,zU 0,zI 0,zU 0,yQ,.slice none 0 0,zI 0,zU 0,zU 0,zU 0,zI 0,zU 0,yQ,.slice none 0 0,zI 0,zU 0,zU 0,zU 0,zI 0,zU 0,yQ,.slice none 0 0,zI 0,zI 0] 121).hid
 clear h hK
 obtain⟨W0,eW0⟩:∃ W,w.alloc (.cells #[zU 0,zU 0,yQ,zU 0,zU 0,zU 0,zI 0,zU 0,yQ,.slice none 0 0,zI 0,zU 0,zU 0,zU 0,zI 0,zU 0,yQ,.slice none 0 0,zI 0,zU 0,zU 0,zU 0,zI 0,zU 0,yQ,.slice none 0 0,zI 0,zU 0,zU 0,zU 0,zI 0,zU 0,yQ,.slice none 0 0,zI 0,zI 0] 121)=W:=⟨_,rfl⟩
 rw [eW0,doZ_eq] at HG0
 have cN:=live_now HG0.out.S
 have hf:=fun v=>field82_4 t v
 go_enter Tryz.func204,Tryz.ntmps204
 go_wp2_with fail
 try rw [eW0]
 refine cN.mono ?_
 rintro e w1 ⟨rfl,hb1⟩
 have HG1:=(HG0.out.on hb1).hid
 clear cN hb1 HG0 eW0
 have cA:=any_y HG1.out.S HK.out zr (n:=6) rfl (by decide) (by decide +kernel)
 simp only [List.map] at cA
 rw [hv] at cA
 clear hv
 go_wp2_with fail
 refine cA.mono ?_
 rintro e wa ⟨rfl,hb4⟩
 have HGa:=(HG1.out.on hb4).hid
 obtain⟨i,c3,f3,hmx,hL,hM,_,_⟩:=HGa.out.S.at'
 obtain⟨V,eV⟩:∃ V,wa.setCell b¢3 (zI ((i:Int)+1))=V:=⟨_,rfl⟩
 rw [eV] at hL hM
 have HGb:=(HGa.out.mv hM hL).hid
 clear cA hb4 HG1 hL hM HGa
 go_upto_region 9 with fail
 try rw [eV]
 clear eV c3 f3 hmx hf
 have HGp:=(HGb.out.push #[zU 0,zU 0,yQ,zU 0,zU 0,zU 0,zI 0,zU 0,yQ,.slice none 0 0,zI 0,zU 0,zU 0,zU 0,zI 0,zU 0,yQ,.slice none 0 0,zI 0,zU 0,zU 0,zU 0,zI 0,zU 0,yQ,.slice none 0 0,zI 0,zU 0,zU 0,zU 0,zI 0,zU 0,yQ,.slice none 0 0,zI 0,zI 0] 121).hid
 have HG2:=(HX.rowA (pre:=[]) HGp.out #[zU 4,zU 0,yQ,zU 0,zU 0,zU 0,zI 0,zU 0,yQ,.slice none 0 0,zI 0,zU 0,zU 0,zU 0,zI 0,zU 0,yQ,.slice none 0 0,zI 0,zU 0,zU 0,zU 0,zI 0,zU 0,yQ,.slice none 0 0,zI 0,zU 0,zU 0,zU 0,zI 0,zU 0,yQ,.slice none 0 0,zI 0,zI t.p]).hid
 have HZ:Hid ((V.alloc (.cells #[zU 0,zU 0,yQ,zU 0,zU 0,zU 0,zI 0,zU 0,yQ,.slice none 0 0,zI 0,zU 0,zU 0,zU 0,zI 0,zU 0,yQ,.slice none 0 0,zI 0,zU 0,zU 0,zU 0,zI 0,zU 0,yQ,.slice none 0 0,zI 0,zU 0,zU 0,zU 0,zI 0,zU 0,yQ,.slice none 0 0,zI 0,zI 0] 121)).heap[V§]? = (zC #[zU 0,zU 0,yQ,zU 0,zU 0,zU 0,zI 0,zU 0,yQ,.slice none 0 0,zI 0,zU 0,zU 0,zU 0,zI 0,zU 0,yQ,.slice none 0 0,zI 0,zU 0,zU 0,zU 0,zI 0,zU 0,yQ,.slice none 0 0,zI 0,zU 0,zU 0,zU 0,zI 0,zU 0,yQ,.slice none 0 0,zI 0,zI 0] 121)):=heap_new _ _
 clear HGp HGb
 obtain⟨cs1,ecs1⟩:∃ c:Array Value,#[zU 4,zU 0,yQ,zU 0,zU 0,zU 0,zI 0,zU 0,yQ,.slice none 0 0,zI 0,zU 0,zU 0,zU 0,zI 0,zU 0,yQ,.slice none 0 0,zI 0,zU 0,zU 0,zU 0,zI 0,zU 0,yQ,.slice none 0 0,zI 0,zU 0,zU 0,zU 0,zI 0,zU 0,yQ,.slice none 0 0,zI 0,zI t.p]=c:=⟨_,rfl⟩
 have hcs1:cs1.size=36:=by rw [← ecs1]; rfl
 have hcs2:cs1.all (·.oneCell')=true:=by rw [← ecs1]; simp [Value.oneCell']
 rw [ecs1] at HG2
 go_upto_region 10 with (refine wpList_store_row rfl 121 (.tmp 5) (.tmp 32) rfl V§ cs1 rfl (by first | rfl | exact congrArg Value.agg ecs1) 121 #[zU 0,zU 0,yQ,zU 0,zU 0,zU 0,zI 0,zU 0,yQ,.slice none 0 0,zI 0,zU 0,zU 0,zU 0,zI 0,zU 0,yQ,.slice none 0 0,zI 0,zU 0,zU 0,zU 0,zI 0,zU 0,yQ,.slice none 0 0,zI 0,zU 0,zU 0,zU 0,zI 0,zU 0,yQ,.slice none 0 0,zI 0,zI 0] HZ.out (by rw [hcs1]; exact size110') (by rw [hcs1]; rfl) hcs2 ?_)
 generalize hW1:World.setRow _ _ _=W1
 rw [hW1,← ecs1,doZ_eq] at HG2
 obtain⟨N3,eN3⟩:∃ q,V§=q:=⟨_,rfl⟩
 rw [eN3] at HG2 ⊢
 clear eN3 HZ hW1
 generalize Value.agg _=D0
 clear ecs1 hcs1 hcs2
 have hk0:=HG2.out.doK
 have HT2:Hid (RgT t2):=(HG2.out.S.ok HK.out.k).r
 have cN:=name_l HG2.out.S k2
 clear k2
 go_wp2_with fail
 refine cN.mono ?_
 rintro e wn ⟨rfl,hs,hm⟩
 have HN1:=(HG2.out.mv hm hs).hid
 obtain⟨v1,c1,f1⟩:=HX.cellA (pre:=[]) HN1.out 2 (by rw [doA_sz]; omega)
 have HN2:=(HN1.out.doX t2.x).hid
 clear cN hs hm HG2 hk0
 go_upto_region 12 with fail
 generalize hY:World.setCell _ _ _=Yx
 rw [hY] at HN2
 clear hY c1 f1 HN1
 have hk0:=HN2.out.doK
 have cT:=take_l HK.out HN2.out.S Zi (by decide +kernel) k3
 go_wp2_with fail
 refine cT.mono ?_
 rintro e w3 ⟨rfl,hs,hm⟩
 have HG3:=(HN2.out.mv hm hs).hid
 clear cT hs hm HN2 k3 hk0
 have cE:=expr_l HK.out HG3.out.S h3
 go_wp2_with fail
 refine cE.mono ?_
 rintro e ua1 ⟨m1,rfl,htr,hdp,hs,hm⟩
 have HM1:Hid (treeOf m1=_):=htr
 have HA1:=(HG3.out.add hm hs hdp).hid
 have HB1:=(HA1.out.doVlS m1).hid
 clear cE hs hm htr hdp HG3 h3
 go_upto_region 20 with (refine wpList_store_mid rfl 38 (.tmp 59) (.tmp 58) rfl N3 27 m1.vals rfl rfl (HA1.out.doT 27 (by omega)) size64' (all8 m1) ?_)
 generalize hY:World.setCells _ _ _ _=Y1
 rw [hY] at HB1
 clear hY HA1
 have HC:Hid (Y1.heap[N3]? = (zC (doA 4 0 t2.x nd00 nd00 nd00 m1 t.p) 121)):=(HB1.out.B _ List.mem_cons_self).1
 have HQ:Hid (Y1.heap[w§]? = (zC (doA 0 0 ⟨#[]⟩ nd00 nd00 nd00 nd00 0) 121)):=(HB1.out.B _ (List.mem_cons_of_mem _ List.mem_cons_self)).1
 have HF:=(HX.rowA (pre:=[_]) HB1.out (doA 4 0 t2.x nd00 nd00 nd00 m1 t.p)).hid
 have HR:Hid ((Y1.setRow w§ (doA 4 0 t2.x nd00 nd00 nd00 m1 t.p)).heap[w§]? = (zC (doA 4 0 t2.x nd00 nd00 nd00 m1 t.p) 121)):=(HF.out.B _ (List.mem_cons_of_mem _ List.mem_cons_self)).1
 have hk0:=HB1.out.doK
 go_wp2_with (first | (refine wpList_load_row rfl 121 (.tmp 5) rfl N3 rfl 121 (doA 4 0 t2.x nd00 nd00 nd00 m1 t.p) (0,0) _ HC.out Tryz.underlying121 rfl size110' ?_) | (refine wpList_store_row rfl 121 (.tmp 2) (.tmp 60) rfl w§ (doA 4 0 t2.x nd00 nd00 nd00 m1 t.p) rfl rfl 121 _ HQ.out size110' rfl (all36 ..) ?_))
 refine bodyPost_ret (results_cell_row rfl _ _ w§ 121 (doA 4 0 t2.x nd00 nd00 nd00 m1 t.p) (0,0) _ rfl HR.out Tryz.underlying121 rfl size110') rfl (do_out (d:=⟨4,0,t2.x,nd00,nd00,nd00,m1,t.p⟩) HF.out ?_ fun U hU=>⟨lies_leaf U rg0,lies_leaf U rg0,lies_leaf U rg0,hU.2,⟨by show (0:Int)≤4; decide,by show (4:Int)≤255; decide⟩,⟨by show (0:Int)≤0; decide,by show (0:Int)≤255; decide⟩,⟨HT1.out.p0,HT1.out.p1⟩,HT2.out.x1⟩)
 show DoT.mk 4 0 t2.x tr0 (treeOf nd00) (treeOf nd00) (treeOf m1) t.p=_
 rw [HM1.out]
 all_goals rfl
theorem doL_goto {w:yW}{b:Nat}{K:PK}{t t2:Tk}{us:List Tk}(hK:KG K) (h:Lv w b K (t :: t2 :: us)) (hv:fnd t.x zr 0=4) (k2:t2.k=2) :
  Calls zG 204 #[zP b] w (OutL DoM.vals DoM.tr DoL b K w ⟨5,0,t2.x,tr0,tr0,tr0,tr0,t.p⟩ us):=by
 have HK:Hid (KG K):=hK
 have HT1:Hid (RgT t):=(h.ok hK.k).r
 have HG0:=((HX.new h 0 0).push #[zU 0,zU 0,yQ,zU 0,zU 0,zU 0,zI 0,zU 0,yQ,.slice none 0 0,zI 0,zU 0,zU 0,zU 0,zI 0,zU 0,yQ,.slice none 0 0,zI 0,zU 0,zU 0,zU 0,zI 0,zU 0,yQ,.slice none 0 0,zI 0,zU 0,zU 0,zU 0,zI 0,zU 0,yQ,.slice none 0 0,zI 0,zI 0] 121).hid
 clear h hK
 obtain⟨W0,eW0⟩:∃ W,w.alloc (.cells #[zU 0,zU 0,yQ,zU 0,zU 0,zU 0,zI 0,zU 0,yQ,.slice none 0 0,zI 0,zU 0,zU 0,zU 0,zI 0,zU 0,yQ,.slice none 0 0,zI 0,zU 0,zU 0,zU 0,zI 0,zU 0,yQ,.slice none 0 0,zI 0,zU 0,zU 0,zU 0,zI 0,zU 0,yQ,.slice none 0 0,zI 0,zI 0] 121)=W:=⟨_,rfl⟩
 rw [eW0,doZ_eq] at HG0
 have cN:=live_now HG0.out.S
 have hf:=fun v=>field82_4 t v
 go_enter Tryz.func204,Tryz.ntmps204
 go_wp2_with fail
 try rw [eW0]
 refine cN.mono ?_
 rintro e w1 ⟨rfl,hb1⟩
 have HG1:=(HG0.out.on hb1).hid
 clear cN hb1 HG0 eW0
 have cA:=any_y HG1.out.S HK.out zr (n:=6) rfl (by decide) (by decide +kernel)
 simp only [List.map] at cA
 rw [hv] at cA
 clear hv
 go_wp2_with fail
 refine cA.mono ?_
 rintro e wa ⟨rfl,hb4⟩
 have HGa:=(HG1.out.on hb4).hid
 obtain⟨i,c3,f3,hmx,hL,hM,_,_⟩:=HGa.out.S.at'
 obtain⟨V,eV⟩:∃ V,wa.setCell b¢3 (zI ((i:Int)+1))=V:=⟨_,rfl⟩
 rw [eV] at hL hM
 have HGb:=(HGa.out.mv hM hL).hid
 clear cA hb4 HG1 hL hM HGa
 go_upto_region 9 with fail
 try rw [eV]
 clear eV c3 f3 hmx hf
 have HGp:=(HGb.out.push #[zU 0,zU 0,yQ,zU 0,zU 0,zU 0,zI 0,zU 0,yQ,.slice none 0 0,zI 0,zU 0,zU 0,zU 0,zI 0,zU 0,yQ,.slice none 0 0,zI 0,zU 0,zU 0,zU 0,zI 0,zU 0,yQ,.slice none 0 0,zI 0,zU 0,zU 0,zU 0,zI 0,zU 0,yQ,.slice none 0 0,zI 0,zI 0] 121).hid
 have HG2:=(HX.rowA (pre:=[]) HGp.out #[zU 5,zU 0,yQ,zU 0,zU 0,zU 0,zI 0,zU 0,yQ,.slice none 0 0,zI 0,zU 0,zU 0,zU 0,zI 0,zU 0,yQ,.slice none 0 0,zI 0,zU 0,zU 0,zU 0,zI 0,zU 0,yQ,.slice none 0 0,zI 0,zU 0,zU 0,zU 0,zI 0,zU 0,yQ,.slice none 0 0,zI 0,zI t.p]).hid
 have HZ:Hid ((V.alloc (.cells #[zU 0,zU 0,yQ,zU 0,zU 0,zU 0,zI 0,zU 0,yQ,.slice none 0 0,zI 0,zU 0,zU 0,zU 0,zI 0,zU 0,yQ,.slice none 0 0,zI 0,zU 0,zU 0,zU 0,zI 0,zU 0,yQ,.slice none 0 0,zI 0,zU 0,zU 0,zU 0,zI 0,zU 0,yQ,.slice none 0 0,zI 0,zI 0] 121)).heap[V§]? = (zC #[zU 0,zU 0,yQ,zU 0,zU 0,zU 0,zI 0,zU 0,yQ,.slice none 0 0,zI 0,zU 0,zU 0,zU 0,zI 0,zU 0,yQ,.slice none 0 0,zI 0,zU 0,zU 0,zU 0,zI 0,zU 0,yQ,.slice none 0 0,zI 0,zU 0,zU 0,zU 0,zI 0,zU 0,yQ,.slice none 0 0,zI 0,zI 0] 121)):=heap_new _ _
 clear HGp HGb
 obtain⟨cs1,ecs1⟩:∃ c:Array Value,#[zU 5,zU 0,yQ,zU 0,zU 0,zU 0,zI 0,zU 0,yQ,.slice none 0 0,zI 0,zU 0,zU 0,zU 0,zI 0,zU 0,yQ,.slice none 0 0,zI 0,zU 0,zU 0,zU 0,zI 0,zU 0,yQ,.slice none 0 0,zI 0,zU 0,zU 0,zU 0,zI 0,zU 0,yQ,.slice none 0 0,zI 0,zI t.p]=c:=⟨_,rfl⟩
 have hcs1:cs1.size=36:=by rw [← ecs1]; rfl
 have hcs2:cs1.all (·.oneCell')=true:=by rw [← ecs1]; simp [Value.oneCell']
 rw [ecs1] at HG2
 go_upto_region 10 with (refine wpList_store_row rfl 121 (.tmp 5) (.tmp 32) rfl V§ cs1 rfl (by first | rfl | exact congrArg Value.agg ecs1) 121 #[zU 0,zU 0,yQ,zU 0,zU 0,zU 0,zI 0,zU 0,yQ,.slice none 0 0,zI 0,zU 0,zU 0,zU 0,zI 0,zU 0,yQ,.slice none 0 0,zI 0,zU 0,zU 0,zU 0,zI 0,zU 0,yQ,.slice none 0 0,zI 0,zU 0,zU 0,zU 0,zI 0,zU 0,yQ,.slice none 0 0,zI 0,zI 0] HZ.out (by rw [hcs1]; exact size110') (by rw [hcs1]; rfl) hcs2 ?_)
 generalize hW1:World.setRow _ _ _=W1
 rw [hW1,← ecs1,doZ_eq] at HG2
 obtain⟨N3,eN3⟩:∃ q,V§=q:=⟨_,rfl⟩
 rw [eN3] at HG2 ⊢
 clear eN3 HZ hW1
 generalize Value.agg _=D0
 clear ecs1 hcs1 hcs2
 have hk0:=HG2.out.doK
 have HT2:Hid (RgT t2):=(HG2.out.S.ok HK.out.k).r
 have cN:=name_l HG2.out.S k2
 clear k2
 go_wp2_with fail
 refine cN.mono ?_
 rintro e wn ⟨rfl,hs,hm⟩
 have HN1:=(HG2.out.mv hm hs).hid
 obtain⟨v1,c1,f1⟩:=HX.cellA (pre:=[]) HN1.out 2 (by rw [doA_sz]; omega)
 have HN2:=(HN1.out.doX t2.x).hid
 clear cN hs hm HG2 hk0
 go_upto_region 12 with fail
 generalize hY:World.setCell _ _ _=Yx
 rw [hY] at HN2
 clear hY c1 f1 HN1
 have HC:Hid (Yx.heap[N3]? = (zC (doA 5 0 t2.x nd00 nd00 nd00 nd00 t.p) 121)):=(HN2.out.B _ List.mem_cons_self).1
 have HQ:Hid (Yx.heap[w§]? = (zC (doA 0 0 ⟨#[]⟩ nd00 nd00 nd00 nd00 0) 121)):=(HN2.out.B _ (List.mem_cons_of_mem _ List.mem_cons_self)).1
 have HF:=(HX.rowA (pre:=[_]) HN2.out (doA 5 0 t2.x nd00 nd00 nd00 nd00 t.p)).hid
 have HR:Hid ((Yx.setRow w§ (doA 5 0 t2.x nd00 nd00 nd00 nd00 t.p)).heap[w§]? = (zC (doA 5 0 t2.x nd00 nd00 nd00 nd00 t.p) 121)):=(HF.out.B _ (List.mem_cons_of_mem _ List.mem_cons_self)).1
 have hk0:=HN2.out.doK
 go_wp2_with (first | (refine wpList_load_row rfl 121 (.tmp 5) rfl N3 rfl 121 (doA 5 0 t2.x nd00 nd00 nd00 nd00 t.p) (0,0) _ HC.out Tryz.underlying121 rfl size110' ?_) | (refine wpList_store_row rfl 121 (.tmp 2) (.tmp 60) rfl w§ (doA 5 0 t2.x nd00 nd00 nd00 nd00 t.p) rfl rfl 121 _ HQ.out size110' rfl (all36 ..) ?_))
 refine bodyPost_ret (results_cell_row rfl _ _ w§ 121 (doA 5 0 t2.x nd00 nd00 nd00 nd00 t.p) (0,0) _ rfl HR.out Tryz.underlying121 rfl size110') rfl (do_out (d:=⟨5,0,t2.x,nd00,nd00,nd00,nd00,t.p⟩) HF.out ?_ fun U hU=>⟨lies_leaf U rg0,lies_leaf U rg0,lies_leaf U rg0,lies_leaf U rg0,⟨by show (0:Int)≤5; decide,by show (5:Int)≤255; decide⟩,⟨by show (0:Int)≤0; decide,by show (0:Int)≤255; decide⟩,⟨HT1.out.p0,HT1.out.p1⟩,HT2.out.x1⟩)
 show DoT.mk 5 0 t2.x tr0 (treeOf nd00) (treeOf nd00) (treeOf nd00) t.p=_
 all_goals rfl
theorem doL_halt {w:yW}{b:Nat}{K:PK}{t:Tk}{us:List Tk}(hK:KG K) (h:Lv w b K (t :: us)) (hv:fnd t.x zr 0=5) :
  Calls zG 204 #[zP b] w (OutL DoM.vals DoM.tr DoL b K w ⟨6,0,gE,tr0,tr0,tr0,tr0,t.p⟩ us):=by
 have HK:Hid (KG K):=hK
 have HT1:Hid (RgT t):=(h.ok hK.k).r
 have HG0:=((HX.new h 0 0).push #[zU 0,zU 0,yQ,zU 0,zU 0,zU 0,zI 0,zU 0,yQ,.slice none 0 0,zI 0,zU 0,zU 0,zU 0,zI 0,zU 0,yQ,.slice none 0 0,zI 0,zU 0,zU 0,zU 0,zI 0,zU 0,yQ,.slice none 0 0,zI 0,zU 0,zU 0,zU 0,zI 0,zU 0,yQ,.slice none 0 0,zI 0,zI 0] 121).hid
 clear h hK
 obtain⟨W0,eW0⟩:∃ W,w.alloc (.cells #[zU 0,zU 0,yQ,zU 0,zU 0,zU 0,zI 0,zU 0,yQ,.slice none 0 0,zI 0,zU 0,zU 0,zU 0,zI 0,zU 0,yQ,.slice none 0 0,zI 0,zU 0,zU 0,zU 0,zI 0,zU 0,yQ,.slice none 0 0,zI 0,zU 0,zU 0,zU 0,zI 0,zU 0,yQ,.slice none 0 0,zI 0,zI 0] 121)=W:=⟨_,rfl⟩
 rw [eW0,doZ_eq] at HG0
 have cN:=live_now HG0.out.S
 have hf:=fun v=>field82_4 t v
 go_enter Tryz.func204,Tryz.ntmps204
 go_wp2_with fail
 try rw [eW0]
 refine cN.mono ?_
 rintro e w1 ⟨rfl,hb1⟩
 have HG1:=(HG0.out.on hb1).hid
 clear cN hb1 HG0 eW0
 have cA:=any_y HG1.out.S HK.out zr (n:=6) rfl (by decide) (by decide +kernel)
 simp only [List.map] at cA
 rw [hv] at cA
 clear hv
 go_wp2_with fail
 refine cA.mono ?_
 rintro e wa ⟨rfl,hb4⟩
 have HGa:=(HG1.out.on hb4).hid
 obtain⟨i,c3,f3,hmx,hL,hM,_,_⟩:=HGa.out.S.at'
 obtain⟨V,eV⟩:∃ V,wa.setCell b¢3 (zI ((i:Int)+1))=V:=⟨_,rfl⟩
 rw [eV] at hL hM
 have HGb:=(HGa.out.mv hM hL).hid
 clear cA hb4 HG1 hL hM HGa
 go_upto_region 9 with fail
 try rw [eV]
 clear eV c3 f3 hmx hf
 have HGp:=(HGb.out.push #[zU 0,zU 0,yQ,zU 0,zU 0,zU 0,zI 0,zU 0,yQ,.slice none 0 0,zI 0,zU 0,zU 0,zU 0,zI 0,zU 0,yQ,.slice none 0 0,zI 0,zU 0,zU 0,zU 0,zI 0,zU 0,yQ,.slice none 0 0,zI 0,zU 0,zU 0,zU 0,zI 0,zU 0,yQ,.slice none 0 0,zI 0,zI 0] 121).hid
 have HG2:=(HX.rowA (pre:=[]) HGp.out #[zU 6,zU 0,yQ,zU 0,zU 0,zU 0,zI 0,zU 0,yQ,.slice none 0 0,zI 0,zU 0,zU 0,zU 0,zI 0,zU 0,yQ,.slice none 0 0,zI 0,zU 0,zU 0,zU 0,zI 0,zU 0,yQ,.slice none 0 0,zI 0,zU 0,zU 0,zU 0,zI 0,zU 0,yQ,.slice none 0 0,zI 0,zI t.p]).hid
 have HZ:Hid ((V.alloc (.cells #[zU 0,zU 0,yQ,zU 0,zU 0,zU 0,zI 0,zU 0,yQ,.slice none 0 0,zI 0,zU 0,zU 0,zU 0,zI 0,zU 0,yQ,.slice none 0 0,zI 0,zU 0,zU 0,zU 0,zI 0,zU 0,yQ,.slice none 0 0,zI 0,zU 0,zU 0,zU 0,zI 0,zU 0,yQ,.slice none 0 0,zI 0,zI 0] 121)).heap[V§]? = (zC #[zU 0,zU 0,yQ,zU 0,zU 0,zU 0,zI 0,zU 0,yQ,.slice none 0 0,zI 0,zU 0,zU 0,zU 0,zI 0,zU 0,yQ,.slice none 0 0,zI 0,zU 0,zU 0,zU 0,zI 0,zU 0,yQ,.slice none 0 0,zI 0,zU 0,zU 0,zU 0,zI 0,zU 0,yQ,.slice none 0 0,zI 0,zI 0] 121)):=heap_new _ _
 clear HGp HGb
 obtain⟨cs1,ecs1⟩:∃ c:Array Value,#[zU 6,zU 0,yQ,zU 0,zU 0,zU 0,zI 0,zU 0,yQ,.slice none 0 0,zI 0,zU 0,zU 0,zU 0,zI 0,zU 0,yQ,.slice none 0 0,zI 0,zU 0,zU 0,zU 0,zI 0,zU 0,yQ,.slice none 0 0,zI 0,zU 0,zU 0,zU 0,zI 0,zU 0,yQ,.slice none 0 0,zI 0,zI t.p]=c:=⟨_,rfl⟩
 have hcs1:cs1.size=36:=by rw [← ecs1]; rfl
 have hcs2:cs1.all (·.oneCell')=true:=by rw [← ecs1]; simp [Value.oneCell']
 rw [ecs1] at HG2
 go_upto_region 10 with (refine wpList_store_row rfl 121 (.tmp 5) (.tmp 32) rfl V§ cs1 rfl (by first | rfl | exact congrArg Value.agg ecs1) 121 #[zU 0,zU 0,yQ,zU 0,zU 0,zU 0,zI 0,zU 0,yQ,.slice none 0 0,zI 0,zU 0,zU 0,zU 0,zI 0,zU 0,yQ,.slice none 0 0,zI 0,zU 0,zU 0,zU 0,zI 0,zU 0,yQ,.slice none 0 0,zI 0,zU 0,zU 0,zU 0,zI 0,zU 0,yQ,.slice none 0 0,zI 0,zI 0] HZ.out (by rw [hcs1]; exact size110') (by rw [hcs1]; rfl) hcs2 ?_)
 generalize hW1:World.setRow _ _ _=W1
 rw [hW1,← ecs1,doZ_eq] at HG2
 obtain⟨N3,eN3⟩:∃ q,V§=q:=⟨_,rfl⟩
 rw [eN3] at HG2 ⊢
 clear eN3 HZ hW1
 generalize Value.agg _=D0
 clear ecs1 hcs1 hcs2
 have HC:Hid (W1.heap[N3]? = (zC (doA 6 0 ⟨#[]⟩ nd00 nd00 nd00 nd00 t.p) 121)):=(HG2.out.B _ List.mem_cons_self).1
 have HQ:Hid (W1.heap[w§]? = (zC (doA 0 0 ⟨#[]⟩ nd00 nd00 nd00 nd00 0) 121)):=(HG2.out.B _ (List.mem_cons_of_mem _ List.mem_cons_self)).1
 have HF:=(HX.rowA (pre:=[_]) HG2.out (doA 6 0 ⟨#[]⟩ nd00 nd00 nd00 nd00 t.p)).hid
 have HR:Hid ((W1.setRow w§ (doA 6 0 ⟨#[]⟩ nd00 nd00 nd00 nd00 t.p)).heap[w§]? = (zC (doA 6 0 ⟨#[]⟩ nd00 nd00 nd00 nd00 t.p) 121)):=(HF.out.B _ (List.mem_cons_of_mem _ List.mem_cons_self)).1
 have hk0:=HG2.out.doK
 go_wp2_with (first | (refine wpList_load_row rfl 121 (.tmp 5) rfl N3 rfl 121 (doA 6 0 ⟨#[]⟩ nd00 nd00 nd00 nd00 t.p) (0,0) _ HC.out Tryz.underlying121 rfl size110' ?_) | (refine wpList_store_row rfl 121 (.tmp 2) (.tmp 60) rfl w§ (doA 6 0 ⟨#[]⟩ nd00 nd00 nd00 nd00 t.p) rfl rfl 121 _ HQ.out size110' rfl (all36 ..) ?_))
 refine bodyPost_ret (results_cell_row rfl _ _ w§ 121 (doA 6 0 ⟨#[]⟩ nd00 nd00 nd00 nd00 t.p) (0,0) _ rfl HR.out Tryz.underlying121 rfl size110') rfl (do_out (d:=⟨6,0,⟨#[]⟩,nd00,nd00,nd00,nd00,t.p⟩) HF.out ?_ fun U hU=>⟨lies_leaf U rg0,lies_leaf U rg0,lies_leaf U rg0,lies_leaf U rg0,⟨by show (0:Int)≤6; decide,by show (6:Int)≤255; decide⟩,⟨by show (0:Int)≤0; decide,by show (0:Int)≤255; decide⟩,⟨HT1.out.p0,HT1.out.p1⟩,(show gE.size≤140737488355328 by decide)⟩)
 show DoT.mk 6 0 ⟨#[]⟩ tr0 (treeOf nd00) (treeOf nd00) (treeOf nd00) t.p=_
 all_goals rfl
theorem doL_submit {w:yW}{b:Nat}{K:PK}{t:Tk}{ts:List Tk}{r:DoT}{u:Tk}{us:List Tk}(hK:KG K) (h:Lv w b K (t :: ts)) (hv:fnd t.x zr 0=0) (hp:pSubmit (t :: ts)=some (r,u :: us)) :
  Calls zG 204 #[zP b] w (OutL DoM.vals DoM.tr DoL b K w r (u :: us)):=by
 have HK:Hid (KG K):=hK
 have HG0:=((HX.new h 0 0).push #[zU 0,zU 0,yQ,zU 0,zU 0,zU 0,zI 0,zU 0,yQ,.slice none 0 0,zI 0,zU 0,zU 0,zU 0,zI 0,zU 0,yQ,.slice none 0 0,zI 0,zU 0,zU 0,zU 0,zI 0,zU 0,yQ,.slice none 0 0,zI 0,zU 0,zU 0,zU 0,zI 0,zU 0,yQ,.slice none 0 0,zI 0,zI 0] 121).hid
 clear h hK
 obtain⟨W0,eW0⟩:∃ W,w.alloc (.cells #[zU 0,zU 0,yQ,zU 0,zU 0,zU 0,zI 0,zU 0,yQ,.slice none 0 0,zI 0,zU 0,zU 0,zU 0,zI 0,zU 0,yQ,.slice none 0 0,zI 0,zU 0,zU 0,zU 0,zI 0,zU 0,yQ,.slice none 0 0,zI 0,zU 0,zU 0,zU 0,zI 0,zU 0,yQ,.slice none 0 0,zI 0,zI 0] 121)=W:=⟨_,rfl⟩
 rw [eW0,doZ_eq] at HG0
 have cN:=live_now HG0.out.S
 have hf:=fun v=>field82_4 t v
 go_enter Tryz.func204,Tryz.ntmps204
 go_wp2_with fail
 try rw [eW0]
 refine cN.mono ?_
 rintro e w1 ⟨rfl,hb1⟩
 have HG1:=(HG0.out.on hb1).hid
 clear cN hb1 HG0 eW0
 have cA:=any_y HG1.out.S HK.out zr (n:=6) rfl (by decide) (by decide +kernel)
 simp only [List.map] at cA
 rw [hv] at cA
 clear hv
 go_wp2_with fail
 refine cA.mono ?_
 rintro e wa ⟨rfl,hb4⟩
 have HGa:=(HG1.out.on hb4).hid
 have cS:=submit_l HK.out HGa.out.S hp
 clear cA hb4 HG1 hf hp
 go_wp2_with fail
 refine cS.mono ?_
 rintro e w5 ⟨d,rfl,htr,hdp,hs,hm⟩
 have HG5:=(HGa.out.add hm hs hdp).hid
 have HD:Hid (d.tr=r):=htr
 have HQ:Hid (w5.heap[w§]? = (zC (doA 0 0 ⟨#[]⟩ nd00 nd00 nd00 nd00 0) 121)):=(HG5.out.B _ List.mem_cons_self).1
 have HF:=(HX.rowA (pre:=[]) HG5.out d.vals).hid
 have HR:Hid ((w5.setRow w§ d.vals).heap[w§]? = (zC d.vals 121)):=(HF.out.B _ List.mem_cons_self).1
 clear cS htr hdp hs hm HGa
 go_wp2_with (refine wpList_store_row rfl 121 (.tmp 2) (.tmp 20) rfl w§ d.vals rfl rfl 121 _ HQ.out size110' rfl (all36 ..) ?_)
 exact bodyPost_ret (results_cell_row rfl _ _ w§ 121 d.vals (0,0) _ rfl HR.out Tryz.underlying121 rfl size110') rfl (do_out HF.out HD.out fun U hU=>hU.2)
theorem do_l {w:yW}{b:Nat}{K:PK}{ts:List Tk}{r:DoT}{u:Tk}{us:List Tk}(hK:KG K) (h:Lv w b K ts) (hp:pDo ts=some (r,u :: us)):Calls zG 204 #[zP b] w (OutL DoM.vals DoM.tr DoL b K w r (u :: us)):=by
 cases ts with
 | nil=>cases hp
 | cons t ts =>
  simp only [pDo] at hp
  by_cases hv:fnd t.x zr 0=0
  ·rw [if_pos hv] at hp
   exact doL_submit hK h hv hp
  rw [if_neg hv] at hp
  clear hv
  by_cases hv:fnd t.x zr 0=2
  ·rw [if_pos hv] at hp
   obtain⟨⟨a,a2⟩,h1,hp⟩:=opt_bind hp
   cases hp
   obtain⟨t2,g2,k2,k2'⟩:=pName_inv h1
   simp only at k2' g2
   rw [k2']
   rw [g2] at h
   exact doL_cancel hK h hv k2
  rw [if_neg hv] at hp
  clear hv
  by_cases hv:fnd t.x zr 0=3
  ·rw [if_pos hv] at hp
   unfold pSet at hp
   obtain⟨⟨a,a2⟩,h1,hp⟩:=opt_bind hp
   obtain⟨⟨c,c2⟩,h2,hp⟩:=opt_bind hp
   obtain⟨⟨e,e2⟩,h3,hp⟩:=opt_bind hp
   cases hp
   obtain⟨t2,g2,k2,k2'⟩:=pName_inv h1
   obtain⟨t3,g3,k3,_⟩:=pTake_inv h2
   simp only at k2' g2 g3
   subst g2 g3 k2'
   obtain⟨a3,as3,rfl⟩:=pEx_cons h3
   exact doL_set hK h hv k2 k3 h3
  rw [if_neg hv] at hp
  clear hv
  by_cases hv:fnd t.x zr 0=4
  ·rw [if_pos hv] at hp
   obtain⟨⟨a,a2⟩,h1,hp⟩:=opt_bind hp
   cases hp
   obtain⟨t2,g2,k2,k2'⟩:=pName_inv h1
   simp only at k2' g2
   rw [k2']
   rw [g2] at h
   exact doL_goto hK h hv k2
  rw [if_neg hv] at hp
  clear hv
  by_cases hv:fnd t.x zr 0=5
  ·rw [if_pos hv] at hp
   cases hp
   exact doL_halt hK h hv
  ·rw [if_neg hv] at hp; cases hp
end Go.Proofs.YtfbjofnaghjmeaaGreatDoor
