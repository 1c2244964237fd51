import Derived.Test.YtoogodlnnijikaaGreatDoorA0
import Derived.Test.YtoogodlnnijikaaGreatDoorA24
namespace Go.Proofs.YtoogodlnnijikaaGreatDoor
set_option maxHeartbeats 4000000
set_option maxRecDepth 100000
open Go.RowKit
set_option linter.unusedVariables false
theorem pAs_inv {ts:List Tk}{x:yB}{u:Tk}{us:List Tk}(h:pAs ts=some (x,u :: us)):(∃ t5 t6,ts=t5 :: t6 :: u :: us∧t5.x=ZO∧t6.k=2∧x=t6.x)∨(ts=u :: us∧¬ u.x=ZO∧x=gE):=by
 unfold pAs at h
 by_cases hi:pIs ZO ts=true
 ·rw [if_pos hi] at h
  cases ts with
  | nil=>cases hi
  | cons t ts =>
   obtain⟨t6,h1,h2,h3⟩:=Jn h
   simp only [List.tail_cons] at h1
   exact .inl ⟨t,t6,by rw [h1],of_decide_eq_true hi,h2,h3⟩
 ·rw [if_neg hi] at h
  cases h
  exact .inr ⟨rfl,fun e=>hi (decide_eq_true e),rfl⟩
theorem submit_l {w:yW}{b:Nat}{K:PK}{ts:List Tk}{r:DoT}{u:Tk}{us:List Tk}(hK:KG K) (h:Lv w b K ts) (hp:pSubmit ts=some (r,u :: us)):Calls zG 157 #[zP b] w (OutL DoM.vals DoM.tr DoL b K w r (u :: us)):=by
 obtain⟨t1,a1,as1,sd,t2,a2,as2,qt,vs,y,x,rfl,k1,h1,k2,h2,h3,h4,rfl⟩:=pSubmit_inv hp
 unfold pSel at h3
 obtain⟨a,g1,h3b⟩:=Qn h3
 clear h3
 have h3:=h3b
 clear h3b
 obtain⟨t3,rfl,g2,g3⟩:=pAny_inv g1
 have hrg:=Jt t3.x [Zr,Zp] 0
 rw [g3] at hrg
 simp only [List.length_cons,List.length_nil] at hrg
 by_cases ha:a.1=0
 ·rw [if_pos ha] at h3
  cases h3
  rw [ha] at g3
  rcases pAs_inv h4 with ⟨t5,t6,e1,e2,e3,rfl⟩ | ⟨e1,e2,rfl⟩
  ·exact submit_mx (a3:=t1) (t4:=t1) (as3:=[]) (pr:=tr0) (u:=0) hK h k1 h1 k2 h2 g3 e1 e2 e3
  ·exact submit_mn (a3:=t1) (t4:=t1) (t6:=t1) (as3:=[]) (pr:=tr0) (u:=0) hK h k1 h1 k2 h2 g3 e1 e2
 ·rw [if_neg ha] at h3
  have ha1:a.1=1:=by omega
  rw [ha1] at g3
  obtain⟨c,g4,h3⟩:=Qn h3
  obtain⟨d,g5,h3⟩:=Qn h3
  cases h3
  obtain⟨a3,as3,e3⟩:=J8 g4
  obtain⟨t4,e4,g6,g7⟩:=pAny_inv g5
  have g4':pEx (a3 :: as3)=some (c.1,t4 :: d.2):=by rw [← e3,g4,← e4]
  rw [e3] at h2
  rcases pAs_inv h4 with ⟨t5,t6,e1,e2,e3,rfl⟩ | ⟨e1,e2,rfl⟩
  ·exact submit_ax hK h k1 h1 k2 h2 g3 g4' g7 g6 e1 e2 e3
  ·exact submit_an (t6:=t1) hK h k1 h1 k2 h2 g3 g4' g7 g6 e1 e2
theorem HX.doK {w:yW}{b:Nat}{K:PK}{V:yW}{post:List (Nat × Nat × Array Value)}{N:Nat}{e sz:Nat}{v:Value}{vs:List (Array Value)}{F:yW→Prop}{ts:List Tk}{k o:Int}{x:yB}{s q r u:Nd}{p:Int}(h:HX w b K V ((N,105,doA k o x s q r u p) :: post) e sz v vs F ts):V.cell? N¢0=some (zU k):=Qa (h.B _ List.mem_cons_self).1 0
theorem doL_amend {w:yW}{b:Nat}{K:PK}{t t2 t3 a3 t4 a4 u:Tk}{as3 as4 us:List Tk}{qt pr:Tr}(hK:KG K) (h:Lv w b K (t :: t2 :: t3 :: a3 :: as3)) (hv:fnd t.x zp 0=1) (k2:t2.k=2) (k3:t3.x=⟨#[116,111]⟩) (h3:pEx (a3 :: as3)=some (qt,t4 :: a4 :: as4)) (k4:t4.x=Zp) (h4:pEx (a4 :: as4)=some (pr,u :: us)) :
  Calls zG 132 #[zP b] w (OutL DoM.vals DoM.tr DoL b K w ⟨2,0,t2.x,tr0,qt,pr,tr0,t.p⟩ (u :: us)):=by
 have HK:Hid (KG K):=hK
 have HT1:Hid (RgT t):=(h.ok hK.k).r
 have HG0:=((HX.new h 0 0).push #[zU 0,zU 0,yQ,zU 0,zU 0,zU 0,zI 0,zU 0,yQ,.slice none 0 0,zI 0,zU 0,zU 0,zU 0,zI 0,zU 0,yQ,.slice none 0 0,zI 0,zU 0,zU 0,zU 0,zI 0,zU 0,yQ,.slice none 0 0,zI 0,zU 0,zU 0,zU 0,zI 0,zU 0,yQ,.slice none 0 0,zI 0,zI 0] 105).hid
 clear h hK
 obtain⟨W0,eW0⟩:∃ W,w.alloc (.cells #[zU 0,zU 0,yQ,zU 0,zU 0,zU 0,zI 0,zU 0,yQ,.slice none 0 0,zI 0,zU 0,zU 0,zU 0,zI 0,zU 0,yQ,.slice none 0 0,zI 0,zU 0,zU 0,zU 0,zI 0,zU 0,yQ,.slice none 0 0,zI 0,zU 0,zU 0,zU 0,zI 0,zU 0,yQ,.slice none 0 0,zI 0,zI 0] 105)=W:=⟨_,rfl⟩
 rw [eW0,Jh] at HG0
 have cN:=Qt HG0.out.S
 have hf:=fun v=>QF t v
 go_enter Tryz.func132,Tryz.ntmps132
 go_wp2_with fail
 try rw [eW0]
 refine cN.mono ?_
 rintro e w1 ⟨rfl,hb1⟩
 have HG1:=(HG0.out.on hb1).hid
 clear cN hb1 HG0 eW0
 have HW:Hid (yD w1 (w1.alloc (.cells zh 9))):=Qc _ _
 have hSL:SLs (w1.alloc (.cells zh 9)) w1§ zp:=fun j hj=>by
  have hh:=Qd w1 (.cells zh 9)
  match j,hj with
  | 0,_=>exact Qa hh 0
  | 1,_=>exact Qa hh 1
  | 2,_=>exact Qa hh 2
  | 3,_=>exact Qa hh 3
  | 4,_=>exact Qa hh 4
  | 5,_=>exact Qa hh 5
 have cA:=Qv (HG1.out.S.on HW.out) (n:=6) (c:=6) hSL rfl (by omega) (by intro x hx; simp only [List.mem_cons,List.not_mem_nil,or_false] at hx; rcases hx with rfl | rfl | rfl | rfl | rfl | rfl <;> exact J9 (HG1.out.S.gd HK.out) (by decide +kernel))
 clear hSL
 rw [hv] at cA
 clear hv
 go_wp2_with fail
 refine cA.mono ?_
 rintro e wa ⟨rfl,hb4⟩
 have HGa:=((HG1.out.on HW.out).on hb4).hid
 obtain⟨i,c3,f3,hmx,hL,hM,_,_⟩:=HGa.out.S.at'
 obtain⟨V,eV⟩:∃ V,wa.setCell b¢3 (zI ((i:Int)+1))=V:=⟨_,rfl⟩
 rw [eV] at hL hM
 have HGb:=(HGa.out.mv hM hL).hid
 clear cA hb4 HW HG1 hL hM HGa
 go_upto_region 9 with fail
 try rw [eV]
 clear eV c3 f3 hmx hf
 have HGp:=(HGb.out.push #[zU 0,zU 0,yQ,zU 0,zU 0,zU 0,zI 0,zU 0,yQ,.slice none 0 0,zI 0,zU 0,zU 0,zU 0,zI 0,zU 0,yQ,.slice none 0 0,zI 0,zU 0,zU 0,zU 0,zI 0,zU 0,yQ,.slice none 0 0,zI 0,zU 0,zU 0,zU 0,zI 0,zU 0,yQ,.slice none 0 0,zI 0,zI 0] 105).hid
 have HG2:=(HX.rowA (pre:=[]) HGp.out #[zU 2,zU 0,yQ,zU 0,zU 0,zU 0,zI 0,zU 0,yQ,.slice none 0 0,zI 0,zU 0,zU 0,zU 0,zI 0,zU 0,yQ,.slice none 0 0,zI 0,zU 0,zU 0,zU 0,zI 0,zU 0,yQ,.slice none 0 0,zI 0,zU 0,zU 0,zU 0,zI 0,zU 0,yQ,.slice none 0 0,zI 0,zI t.p]).hid
 have HZ:Hid ((V.alloc (.cells #[zU 0,zU 0,yQ,zU 0,zU 0,zU 0,zI 0,zU 0,yQ,.slice none 0 0,zI 0,zU 0,zU 0,zU 0,zI 0,zU 0,yQ,.slice none 0 0,zI 0,zU 0,zU 0,zU 0,zI 0,zU 0,yQ,.slice none 0 0,zI 0,zU 0,zU 0,zU 0,zI 0,zU 0,yQ,.slice none 0 0,zI 0,zI 0] 105)).heap[V§]? = (zC #[zU 0,zU 0,yQ,zU 0,zU 0,zU 0,zI 0,zU 0,yQ,.slice none 0 0,zI 0,zU 0,zU 0,zU 0,zI 0,zU 0,yQ,.slice none 0 0,zI 0,zU 0,zU 0,zU 0,zI 0,zU 0,yQ,.slice none 0 0,zI 0,zU 0,zU 0,zU 0,zI 0,zU 0,yQ,.slice none 0 0,zI 0,zI 0] 105)):=Qd _ _
 clear HGp HGb
 obtain⟨cs1,ecs1⟩:∃ c:Array Value,#[zU 2,zU 0,yQ,zU 0,zU 0,zU 0,zI 0,zU 0,yQ,.slice none 0 0,zI 0,zU 0,zU 0,zU 0,zI 0,zU 0,yQ,.slice none 0 0,zI 0,zU 0,zU 0,zU 0,zI 0,zU 0,yQ,.slice none 0 0,zI 0,zU 0,zU 0,zU 0,zI 0,zU 0,yQ,.slice none 0 0,zI 0,zI t.p]=c:=⟨_,rfl⟩
 have hcs1:cs1.size=36:=by rw [← ecs1]; rfl
 have hcs2:cs1.all (·.oneCell')=true:=by rw [← ecs1]; simp [Value.oneCell']
 rw [ecs1] at HG2
 go_upto_region 10 with (refine wpList_store_row rfl 105 (.tmp 5) (.tmp 32) rfl V§ cs1 rfl (by first | rfl | exact congrArg Value.agg ecs1) 105 #[zU 0,zU 0,yQ,zU 0,zU 0,zU 0,zI 0,zU 0,yQ,.slice none 0 0,zI 0,zU 0,zU 0,zU 0,zI 0,zU 0,yQ,.slice none 0 0,zI 0,zU 0,zU 0,zU 0,zI 0,zU 0,yQ,.slice none 0 0,zI 0,zU 0,zU 0,zU 0,zI 0,zU 0,yQ,.slice none 0 0,zI 0,zI 0] HZ.out (by rw [hcs1]; exact Qk) (by rw [hcs1]; rfl) hcs2 ?_)
 generalize hW1:World.setRow _ _ _=W1
 rw [hW1,← ecs1,Jh] at HG2
 obtain⟨N3,eN3⟩:∃ q,V§=q:=⟨_,rfl⟩
 rw [eN3] at HG2 ⊢
 clear eN3 HZ hW1
 generalize Value.agg _=D0
 clear ecs1 hcs1 hcs2
 have hk0:=HG2.out.doK
 have HT2:Hid (RgT t2):=(HG2.out.S.ok HK.out.k).r
 have cN:=Kj HG2.out.S k2
 clear k2
 go_wp2_with fail
 refine cN.mono ?_
 rintro e wn ⟨rfl,hs,hm⟩
 have HN1:=(HG2.out.mv hm hs).hid
 obtain⟨v1,c1,f1⟩:=HX.cellA (pre:=[]) HN1.out 2 (by rw [JV]; omega)
 have HN2:=(HN1.out.doX t2.x).hid
 clear cN hs hm HG2 hk0
 go_upto_region 12 with fail
 generalize hY:World.setCell _ _ _=Yx
 rw [hY] at HN2
 clear hY c1 f1 HN1
 have hk0:=HN2.out.doK
 have cT:=QT HK.out HN2.out.S ⟨#[116,111]⟩ (by decide +kernel) k3
 go_wp2_with fail
 refine cT.mono ?_
 rintro e w3 ⟨rfl,hs,hm⟩
 have HG3:=(HN2.out.mv hm hs).hid
 clear cT hs hm HN2 k3 hk0
 have cE:=JE HK.out HG3.out.S h3
 go_wp2_with fail
 refine cE.mono ?_
 rintro e ua1 ⟨m1,rfl,htr,hdp,hs,hm⟩
 have HM1:Hid (Qh m1=_):=htr
 have HA1:=(HG3.out.add hm hs hdp).hid
 have HB1:=(HA1.out.doQtS m1).hid
 clear cE hs hm htr hdp HG3 h3
 go_upto_region 15 with (refine wpList_store_mid rfl 48 (.tmp 46) (.tmp 45) rfl N3 11 m1.vals rfl rfl (HA1.out.doT 11 (by omega)) QN (all8 m1) ?_)
 generalize hY:World.setCells _ _ _ _=Y1
 rw [hY] at HB1
 clear hY HA1
 have cT:=QT HK.out HB1.out.S Zp (by decide +kernel) k4
 go_wp2_with fail
 refine cT.mono ?_
 rintro e w4 ⟨rfl,hs,hm⟩
 have HG4:=(HB1.out.mv hm hs).hid
 clear cT hs hm HB1 k4
 have cE:=JE HK.out HG4.out.S h4
 go_wp2_with fail
 refine cE.mono ?_
 rintro e ua2 ⟨m2,rfl,htr,hdp,hs,hm⟩
 have HM2:Hid (Qh m2=_):=htr
 have HA2:=(HG4.out.add hm hs hdp).hid
 have HB2:=(HA2.out.doPrS m2).hid
 clear cE hs hm htr hdp HG4 h4
 go_upto_region 17 with (refine wpList_store_mid rfl 48 (.tmp 51) (.tmp 50) rfl N3 19 m2.vals rfl rfl (HA2.out.doT 19 (by omega)) QN (all8 m2) ?_)
 generalize hY:World.setCells _ _ _ _=Y2
 rw [hY] at HB2
 clear hY HA2
 have HC:Hid (Y2.heap[N3]? = (zC (doA 2 0 t2.x nd00 m1 m2 nd00 t.p) 105)):=(HB2.out.B _ List.mem_cons_self).1
 have HQ:Hid (Y2.heap[w§]? = (zC (doA 0 0 ⟨#[]⟩ nd00 nd00 nd00 nd00 0) 105)):=(HB2.out.B _ (List.mem_cons_of_mem _ List.mem_cons_self)).1
 have HF:=(HX.rowA (pre:=[_]) HB2.out (doA 2 0 t2.x nd00 m1 m2 nd00 t.p)).hid
 have HR:Hid ((Y2.setRow w§ (doA 2 0 t2.x nd00 m1 m2 nd00 t.p)).heap[w§]? = (zC (doA 2 0 t2.x nd00 m1 m2 nd00 t.p) 105)):=(HF.out.B _ (List.mem_cons_of_mem _ List.mem_cons_self)).1
 have hk0:=HB2.out.doK
 go_wp2_with (first | (refine wpList_load_row rfl 105 (.tmp 5) rfl N3 rfl 105 (doA 2 0 t2.x nd00 m1 m2 nd00 t.p) (0,0) _ HC.out Tryz.underlying105 rfl Qk ?_) | (refine wpList_store_row rfl 105 (.tmp 2) (.tmp 60) rfl w§ (doA 2 0 t2.x nd00 m1 m2 nd00 t.p) rfl rfl 105 _ HQ.out Qk rfl (JY ..) ?_))
 refine bodyPost_ret (results_cell_row rfl _ _ w§ 105 (doA 2 0 t2.x nd00 m1 m2 nd00 t.p) (0,0) _ rfl HR.out Tryz.underlying105 rfl Qk) rfl (Km (d:=⟨2,0,t2.x,nd00,m1,m2,nd00,t.p⟩) HF.out ?_ fun U hU=>⟨QA U rg0,hU.1.2,hU.2,QA U rg0,⟨by show (0:Int)≤2; decide,by show (2:Int)≤255; decide⟩,⟨by show (0:Int)≤0; decide,by show (0:Int)≤255; decide⟩,⟨HT1.out.p0,HT1.out.p1⟩,HT2.out.x1⟩)
 show DoT.mk 2 0 t2.x tr0 (Qh m1) (Qh m2) (Qh nd00) t.p=_
 rw [HM1.out,HM2.out]
 all_goals rfl
theorem doL_cancel {w:yW}{b:Nat}{K:PK}{t t2:Tk}{us:List Tk}(hK:KG K) (h:Lv w b K (t :: t2 :: us)) (hv:fnd t.x zp 0=2) (k2:t2.k=2) :
  Calls zG 132 #[zP b] w (OutL DoM.vals DoM.tr DoL b K w ⟨3,0,t2.x,tr0,tr0,tr0,tr0,t.p⟩ us):=by
 have HK:Hid (KG K):=hK
 have HT1:Hid (RgT t):=(h.ok hK.k).r
 have HG0:=((HX.new h 0 0).push #[zU 0,zU 0,yQ,zU 0,zU 0,zU 0,zI 0,zU 0,yQ,.slice none 0 0,zI 0,zU 0,zU 0,zU 0,zI 0,zU 0,yQ,.slice none 0 0,zI 0,zU 0,zU 0,zU 0,zI 0,zU 0,yQ,.slice none 0 0,zI 0,zU 0,zU 0,zU 0,zI 0,zU 0,yQ,.slice none 0 0,zI 0,zI 0] 105).hid
 clear h hK
 obtain⟨W0,eW0⟩:∃ W,w.alloc (.cells #[zU 0,zU 0,yQ,zU 0,zU 0,zU 0,zI 0,zU 0,yQ,.slice none 0 0,zI 0,zU 0,zU 0,zU 0,zI 0,zU 0,yQ,.slice none 0 0,zI 0,zU 0,zU 0,zU 0,zI 0,zU 0,yQ,.slice none 0 0,zI 0,zU 0,zU 0,zU 0,zI 0,zU 0,yQ,.slice none 0 0,zI 0,zI 0] 105)=W:=⟨_,rfl⟩
 rw [eW0,Jh] at HG0
 have cN:=Qt HG0.out.S
 have hf:=fun v=>QF t v
 go_enter Tryz.func132,Tryz.ntmps132
 go_wp2_with fail
 try rw [eW0]
 refine cN.mono ?_
 rintro e w1 ⟨rfl,hb1⟩
 have HG1:=(HG0.out.on hb1).hid
 clear cN hb1 HG0 eW0
 have HW:Hid (yD w1 (w1.alloc (.cells zh 9))):=Qc _ _
 have hSL:SLs (w1.alloc (.cells zh 9)) w1§ zp:=fun j hj=>by
  have hh:=Qd w1 (.cells zh 9)
  match j,hj with
  | 0,_=>exact Qa hh 0
  | 1,_=>exact Qa hh 1
  | 2,_=>exact Qa hh 2
  | 3,_=>exact Qa hh 3
  | 4,_=>exact Qa hh 4
  | 5,_=>exact Qa hh 5
 have cA:=Qv (HG1.out.S.on HW.out) (n:=6) (c:=6) hSL rfl (by omega) (by intro x hx; simp only [List.mem_cons,List.not_mem_nil,or_false] at hx; rcases hx with rfl | rfl | rfl | rfl | rfl | rfl <;> exact J9 (HG1.out.S.gd HK.out) (by decide +kernel))
 clear hSL
 rw [hv] at cA
 clear hv
 go_wp2_with fail
 refine cA.mono ?_
 rintro e wa ⟨rfl,hb4⟩
 have HGa:=((HG1.out.on HW.out).on hb4).hid
 obtain⟨i,c3,f3,hmx,hL,hM,_,_⟩:=HGa.out.S.at'
 obtain⟨V,eV⟩:∃ V,wa.setCell b¢3 (zI ((i:Int)+1))=V:=⟨_,rfl⟩
 rw [eV] at hL hM
 have HGb:=(HGa.out.mv hM hL).hid
 clear cA hb4 HW HG1 hL hM HGa
 go_upto_region 9 with fail
 try rw [eV]
 clear eV c3 f3 hmx hf
 have HGp:=(HGb.out.push #[zU 0,zU 0,yQ,zU 0,zU 0,zU 0,zI 0,zU 0,yQ,.slice none 0 0,zI 0,zU 0,zU 0,zU 0,zI 0,zU 0,yQ,.slice none 0 0,zI 0,zU 0,zU 0,zU 0,zI 0,zU 0,yQ,.slice none 0 0,zI 0,zU 0,zU 0,zU 0,zI 0,zU 0,yQ,.slice none 0 0,zI 0,zI 0] 105).hid
 have HG2:=(HX.rowA (pre:=[]) HGp.out #[zU 3,zU 0,yQ,zU 0,zU 0,zU 0,zI 0,zU 0,yQ,.slice none 0 0,zI 0,zU 0,zU 0,zU 0,zI 0,zU 0,yQ,.slice none 0 0,zI 0,zU 0,zU 0,zU 0,zI 0,zU 0,yQ,.slice none 0 0,zI 0,zU 0,zU 0,zU 0,zI 0,zU 0,yQ,.slice none 0 0,zI 0,zI t.p]).hid
 have HZ:Hid ((V.alloc (.cells #[zU 0,zU 0,yQ,zU 0,zU 0,zU 0,zI 0,zU 0,yQ,.slice none 0 0,zI 0,zU 0,zU 0,zU 0,zI 0,zU 0,yQ,.slice none 0 0,zI 0,zU 0,zU 0,zU 0,zI 0,zU 0,yQ,.slice none 0 0,zI 0,zU 0,zU 0,zU 0,zI 0,zU 0,yQ,.slice none 0 0,zI 0,zI 0] 105)).heap[V§]? = (zC #[zU 0,zU 0,yQ,zU 0,zU 0,zU 0,zI 0,zU 0,yQ,.slice none 0 0,zI 0,zU 0,zU 0,zU 0,zI 0,zU 0,yQ,.slice none 0 0,zI 0,zU 0,zU 0,zU 0,zI 0,zU 0,yQ,.slice none 0 0,zI 0,zU 0,zU 0,zU 0,zI 0,zU 0,yQ,.slice none 0 0,zI 0,zI 0] 105)):=Qd _ _
 clear HGp HGb
 obtain⟨cs1,ecs1⟩:∃ c:Array Value,#[zU 3,zU 0,yQ,zU 0,zU 0,zU 0,zI 0,zU 0,yQ,.slice none 0 0,zI 0,zU 0,zU 0,zU 0,zI 0,zU 0,yQ,.slice none 0 0,zI 0,zU 0,zU 0,zU 0,zI 0,zU 0,yQ,.slice none 0 0,zI 0,zU 0,zU 0,zU 0,zI 0,zU 0,yQ,.slice none 0 0,zI 0,zI t.p]=c:=⟨_,rfl⟩
 have hcs1:cs1.size=36:=by rw [← ecs1]; rfl
 have hcs2:cs1.all (·.oneCell')=true:=by rw [← ecs1]; simp [Value.oneCell']
 rw [ecs1] at HG2
 go_upto_region 10 with (refine wpList_store_row rfl 105 (.tmp 5) (.tmp 32) rfl V§ cs1 rfl (by first | rfl | exact congrArg Value.agg ecs1) 105 #[zU 0,zU 0,yQ,zU 0,zU 0,zU 0,zI 0,zU 0,yQ,.slice none 0 0,zI 0,zU 0,zU 0,zU 0,zI 0,zU 0,yQ,.slice none 0 0,zI 0,zU 0,zU 0,zU 0,zI 0,zU 0,yQ,.slice none 0 0,zI 0,zU 0,zU 0,zU 0,zI 0,zU 0,yQ,.slice none 0 0,zI 0,zI 0] HZ.out (by rw [hcs1]; exact Qk) (by rw [hcs1]; rfl) hcs2 ?_)
 generalize hW1:World.setRow _ _ _=W1
 rw [hW1,← ecs1,Jh] at HG2
 obtain⟨N3,eN3⟩:∃ q,V§=q:=⟨_,rfl⟩
 rw [eN3] at HG2 ⊢
 clear eN3 HZ hW1
 generalize Value.agg _=D0
 clear ecs1 hcs1 hcs2
 have hk0:=HG2.out.doK
 have HT2:Hid (RgT t2):=(HG2.out.S.ok HK.out.k).r
 have cN:=Kj HG2.out.S k2
 clear k2
 go_wp2_with fail
 refine cN.mono ?_
 rintro e wn ⟨rfl,hs,hm⟩
 have HN1:=(HG2.out.mv hm hs).hid
 obtain⟨v1,c1,f1⟩:=HX.cellA (pre:=[]) HN1.out 2 (by rw [JV]; omega)
 have HN2:=(HN1.out.doX t2.x).hid
 clear cN hs hm HG2 hk0
 go_upto_region 12 with fail
 generalize hY:World.setCell _ _ _=Yx
 rw [hY] at HN2
 clear hY c1 f1 HN1
 have HC:Hid (Yx.heap[N3]? = (zC (doA 3 0 t2.x nd00 nd00 nd00 nd00 t.p) 105)):=(HN2.out.B _ List.mem_cons_self).1
 have HQ:Hid (Yx.heap[w§]? = (zC (doA 0 0 ⟨#[]⟩ nd00 nd00 nd00 nd00 0) 105)):=(HN2.out.B _ (List.mem_cons_of_mem _ List.mem_cons_self)).1
 have HF:=(HX.rowA (pre:=[_]) HN2.out (doA 3 0 t2.x nd00 nd00 nd00 nd00 t.p)).hid
 have HR:Hid ((Yx.setRow w§ (doA 3 0 t2.x nd00 nd00 nd00 nd00 t.p)).heap[w§]? = (zC (doA 3 0 t2.x nd00 nd00 nd00 nd00 t.p) 105)):=(HF.out.B _ (List.mem_cons_of_mem _ List.mem_cons_self)).1
 have hk0:=HN2.out.doK
 go_wp2_with (first | (refine wpList_load_row rfl 105 (.tmp 5) rfl N3 rfl 105 (doA 3 0 t2.x nd00 nd00 nd00 nd00 t.p) (0,0) _ HC.out Tryz.underlying105 rfl Qk ?_) | (refine wpList_store_row rfl 105 (.tmp 2) (.tmp 60) rfl w§ (doA 3 0 t2.x nd00 nd00 nd00 nd00 t.p) rfl rfl 105 _ HQ.out Qk rfl (JY ..) ?_))
 refine bodyPost_ret (results_cell_row rfl _ _ w§ 105 (doA 3 0 t2.x nd00 nd00 nd00 nd00 t.p) (0,0) _ rfl HR.out Tryz.underlying105 rfl Qk) rfl (Km (d:=⟨3,0,t2.x,nd00,nd00,nd00,nd00,t.p⟩) HF.out ?_ fun U hU=>⟨QA U rg0,QA U rg0,QA U rg0,QA U rg0,⟨by show (0:Int)≤3; decide,by show (3:Int)≤255; decide⟩,⟨by show (0:Int)≤0; decide,by show (0:Int)≤255; decide⟩,⟨HT1.out.p0,HT1.out.p1⟩,HT2.out.x1⟩)
 show DoT.mk 3 0 t2.x tr0 (Qh nd00) (Qh nd00) (Qh nd00) t.p=_
 all_goals rfl
theorem doL_set {w:yW}{b:Nat}{K:PK}{t t2 t3 a3 u:Tk}{as3 us:List Tk}{vl:Tr}(hK:KG K) (h:Lv w b K (t :: t2 :: t3 :: a3 :: as3)) (hv:fnd t.x zp 0=3) (k2:t2.k=2) (k3:t3.x=Z02) (h3:pEx (a3 :: as3)=some (vl,u :: us)) :
  Calls zG 132 #[zP b] w (OutL DoM.vals DoM.tr DoL b K w ⟨4,0,t2.x,tr0,tr0,tr0,vl,t.p⟩ (u :: us)):=by
 have HK:Hid (KG K):=hK
 have HT1:Hid (RgT t):=(h.ok hK.k).r
 have HG0:=((HX.new h 0 0).push #[zU 0,zU 0,yQ,zU 0,zU 0,zU 0,zI 0,zU 0,yQ,.slice none 0 0,zI 0,zU 0,zU 0,zU 0,zI 0,zU 0,yQ,.slice none 0 0,zI 0,zU 0,zU 0,zU 0,zI 0,zU 0,yQ,.slice none 0 0,zI 0,zU 0,zU 0,zU 0,zI 0,zU 0,yQ,.slice none 0 0,zI 0,zI 0] 105).hid
 clear h hK
 obtain⟨W0,eW0⟩:∃ W,w.alloc (.cells #[zU 0,zU 0,yQ,zU 0,zU 0,zU 0,zI 0,zU 0,yQ,.slice none 0 0,zI 0,zU 0,zU 0,zU 0,zI 0,zU 0,yQ,.slice none 0 0,zI 0,zU 0,zU 0,zU 0,zI 0,zU 0,yQ,.slice none 0 0,zI 0,zU 0,zU 0,zU 0,zI 0,zU 0,yQ,.slice none 0 0,zI 0,zI 0] 105)=W:=⟨_,rfl⟩
 rw [eW0,Jh] at HG0
 have cN:=Qt HG0.out.S
 have hf:=fun v=>QF t v
 go_enter Tryz.func132,Tryz.ntmps132
 go_wp2_with fail
 try rw [eW0]
 refine cN.mono ?_
 rintro e w1 ⟨rfl,hb1⟩
 have HG1:=(HG0.out.on hb1).hid
 clear cN hb1 HG0 eW0
 have HW:Hid (yD w1 (w1.alloc (.cells zh 9))):=Qc _ _
 have hSL:SLs (w1.alloc (.cells zh 9)) w1§ zp:=fun j hj=>by
  have hh:=Qd w1 (.cells zh 9)
  match j,hj with
  | 0,_=>exact Qa hh 0
  | 1,_=>exact Qa hh 1
  | 2,_=>exact Qa hh 2
  | 3,_=>exact Qa hh 3
  | 4,_=>exact Qa hh 4
  | 5,_=>exact Qa hh 5
 have cA:=Qv (HG1.out.S.on HW.out) (n:=6) (c:=6) hSL rfl (by omega) (by intro x hx; simp only [List.mem_cons,List.not_mem_nil,or_false] at hx; rcases hx with rfl | rfl | rfl | rfl | rfl | rfl <;> exact J9 (HG1.out.S.gd HK.out) (by decide +kernel))
 clear hSL
 rw [hv] at cA
 clear hv
 go_wp2_with fail
 refine cA.mono ?_
 rintro e wa ⟨rfl,hb4⟩
 have HGa:=((HG1.out.on HW.out).on hb4).hid
 obtain⟨i,c3,f3,hmx,hL,hM,_,_⟩:=HGa.out.S.at'
 obtain⟨V,eV⟩:∃ V,wa.setCell b¢3 (zI ((i:Int)+1))=V:=⟨_,rfl⟩
 rw [eV] at hL hM
 have HGb:=(HGa.out.mv hM hL).hid
 clear cA hb4 HW HG1 hL hM HGa
 go_upto_region 9 with fail
 try rw [eV]
 clear eV c3 f3 hmx hf
 have HGp:=(HGb.out.push #[zU 0,zU 0,yQ,zU 0,zU 0,zU 0,zI 0,zU 0,yQ,.slice none 0 0,zI 0,zU 0,zU 0,zU 0,zI 0,zU 0,yQ,.slice none 0 0,zI 0,zU 0,zU 0,zU 0,zI 0,zU 0,yQ,.slice none 0 0,zI 0,zU 0,zU 0,zU 0,zI 0,zU 0,yQ,.slice none 0 0,zI 0,zI 0] 105).hid
 have HG2:=(HX.rowA (pre:=[]) HGp.out #[zU 4,zU 0,yQ,zU 0,zU 0,zU 0,zI 0,zU 0,yQ,.slice none 0 0,zI 0,zU 0,zU 0,zU 0,zI 0,zU 0,yQ,.slice none 0 0,zI 0,zU 0,zU 0,zU 0,zI 0,zU 0,yQ,.slice none 0 0,zI 0,zU 0,zU 0,zU 0,zI 0,zU 0,yQ,.slice none 0 0,zI 0,zI t.p]).hid
 have HZ:Hid ((V.alloc (.cells #[zU 0,zU 0,yQ,zU 0,zU 0,zU 0,zI 0,zU 0,yQ,.slice none 0 0,zI 0,zU 0,zU 0,zU 0,zI 0,zU 0,yQ,.slice none 0 0,zI 0,zU 0,zU 0,zU 0,zI 0,zU 0,yQ,.slice none 0 0,zI 0,zU 0,zU 0,zU 0,zI 0,zU 0,yQ,.slice none 0 0,zI 0,zI 0] 105)).heap[V§]? = (zC #[zU 0,zU 0,yQ,zU 0,zU 0,zU 0,zI 0,zU 0,yQ,.slice none 0 0,zI 0,zU 0,zU 0,zU 0,zI 0,zU 0,yQ,.slice none 0 0,zI 0,zU 0,zU 0,zU 0,zI 0,zU 0,yQ,.slice none 0 0,zI 0,zU 0,zU 0,zU 0,zI 0,zU 0,yQ,.slice none 0 0,zI 0,zI 0] 105)):=Qd _ _
 clear HGp HGb
 obtain⟨cs1,ecs1⟩:∃ c:Array Value,#[zU 4,zU 0,yQ,zU 0,zU 0,zU 0,zI 0,zU 0,yQ,.slice none 0 0,zI 0,zU 0,zU 0,zU 0,zI 0,zU 0,yQ,.slice none 0 0,zI 0,zU 0,zU 0,zU 0,zI 0,zU 0,yQ,.slice none 0 0,zI 0,zU 0,zU 0,zU 0,zI 0,zU 0,yQ,.slice none 0 0,zI 0,zI t.p]=c:=⟨_,rfl⟩
 have hcs1:cs1.size=36:=by rw [← ecs1]; rfl
 have hcs2:cs1.all (·.oneCell')=true:=by rw [← ecs1]; simp [Value.oneCell']
 rw [ecs1] at HG2
 go_upto_region 10 with (refine wpList_store_row rfl 105 (.tmp 5) (.tmp 32) rfl V§ cs1 rfl (by first | rfl | exact congrArg Value.agg ecs1) 105 #[zU 0,zU 0,yQ,zU 0,zU 0,zU 0,zI 0,zU 0,yQ,.slice none 0 0,zI 0,zU 0,zU 0,zU 0,zI 0,zU 0,yQ,.slice none 0 0,zI 0,zU 0,zU 0,zU 0,zI 0,zU 0,yQ,.slice none 0 0,zI 0,zU 0,zU 0,zU 0,zI 0,zU 0,yQ,.slice none 0 0,zI 0,zI 0] HZ.out (by rw [hcs1]; exact Qk) (by rw [hcs1]; rfl) hcs2 ?_)
 generalize hW1:World.setRow _ _ _=W1
 rw [hW1,← ecs1,Jh] at HG2
 obtain⟨N3,eN3⟩:∃ q,V§=q:=⟨_,rfl⟩
 rw [eN3] at HG2 ⊢
 clear eN3 HZ hW1
 generalize Value.agg _=D0
 clear ecs1 hcs1 hcs2
 have hk0:=HG2.out.doK
 have HT2:Hid (RgT t2):=(HG2.out.S.ok HK.out.k).r
 have cN:=Kj HG2.out.S k2
 clear k2
 go_wp2_with fail
 refine cN.mono ?_
 rintro e wn ⟨rfl,hs,hm⟩
 have HN1:=(HG2.out.mv hm hs).hid
 obtain⟨v1,c1,f1⟩:=HX.cellA (pre:=[]) HN1.out 2 (by rw [JV]; omega)
 have HN2:=(HN1.out.doX t2.x).hid
 clear cN hs hm HG2 hk0
 go_upto_region 12 with fail
 generalize hY:World.setCell _ _ _=Yx
 rw [hY] at HN2
 clear hY c1 f1 HN1
 have hk0:=HN2.out.doK
 have cT:=QT HK.out HN2.out.S Z02 (by decide +kernel) k3
 go_wp2_with fail
 refine cT.mono ?_
 rintro e w3 ⟨rfl,hs,hm⟩
 have HG3:=(HN2.out.mv hm hs).hid
 clear cT hs hm HN2 k3 hk0
 have cE:=JE HK.out HG3.out.S h3
 go_wp2_with fail
 refine cE.mono ?_
 rintro e ua1 ⟨m1,rfl,htr,hdp,hs,hm⟩
 have HM1:Hid (Qh m1=_):=htr
 have HA1:=(HG3.out.add hm hs hdp).hid
 have HB1:=(HA1.out.doVlS m1).hid
 clear cE hs hm htr hdp HG3 h3
 go_upto_region 20 with (refine wpList_store_mid rfl 48 (.tmp 59) (.tmp 58) rfl N3 27 m1.vals rfl rfl (HA1.out.doT 27 (by omega)) QN (all8 m1) ?_)
 generalize hY:World.setCells _ _ _ _=Y1
 rw [hY] at HB1
 clear hY HA1
 have HC:Hid (Y1.heap[N3]? = (zC (doA 4 0 t2.x nd00 nd00 nd00 m1 t.p) 105)):=(HB1.out.B _ List.mem_cons_self).1
 have HQ:Hid (Y1.heap[w§]? = (zC (doA 0 0 ⟨#[]⟩ nd00 nd00 nd00 nd00 0) 105)):=(HB1.out.B _ (List.mem_cons_of_mem _ List.mem_cons_self)).1
 have HF:=(HX.rowA (pre:=[_]) HB1.out (doA 4 0 t2.x nd00 nd00 nd00 m1 t.p)).hid
 have HR:Hid ((Y1.setRow w§ (doA 4 0 t2.x nd00 nd00 nd00 m1 t.p)).heap[w§]? = (zC (doA 4 0 t2.x nd00 nd00 nd00 m1 t.p) 105)):=(HF.out.B _ (List.mem_cons_of_mem _ List.mem_cons_self)).1
 have hk0:=HB1.out.doK
 go_wp2_with (first | (refine wpList_load_row rfl 105 (.tmp 5) rfl N3 rfl 105 (doA 4 0 t2.x nd00 nd00 nd00 m1 t.p) (0,0) _ HC.out Tryz.underlying105 rfl Qk ?_) | (refine wpList_store_row rfl 105 (.tmp 2) (.tmp 60) rfl w§ (doA 4 0 t2.x nd00 nd00 nd00 m1 t.p) rfl rfl 105 _ HQ.out Qk rfl (JY ..) ?_))
 refine bodyPost_ret (results_cell_row rfl _ _ w§ 105 (doA 4 0 t2.x nd00 nd00 nd00 m1 t.p) (0,0) _ rfl HR.out Tryz.underlying105 rfl Qk) rfl (Km (d:=⟨4,0,t2.x,nd00,nd00,nd00,m1,t.p⟩) HF.out ?_ fun U hU=>⟨QA U rg0,QA U rg0,QA U rg0,hU.2,⟨by show (0:Int)≤4; decide,by show (4:Int)≤255; decide⟩,⟨by show (0:Int)≤0; decide,by show (0:Int)≤255; decide⟩,⟨HT1.out.p0,HT1.out.p1⟩,HT2.out.x1⟩)
 show DoT.mk 4 0 t2.x tr0 (Qh nd00) (Qh nd00) (Qh m1) t.p=_
 rw [HM1.out]
 all_goals rfl
theorem doL_goto {w:yW}{b:Nat}{K:PK}{t t2:Tk}{us:List Tk}(hK:KG K) (h:Lv w b K (t :: t2 :: us)) (hv:fnd t.x zp 0=4) (k2:t2.k=2) :
  Calls zG 132 #[zP b] w (OutL DoM.vals DoM.tr DoL b K w ⟨5,0,t2.x,tr0,tr0,tr0,tr0,t.p⟩ us):=by
 have HK:Hid (KG K):=hK
 have HT1:Hid (RgT t):=(h.ok hK.k).r
 have HG0:=((HX.new h 0 0).push #[zU 0,zU 0,yQ,zU 0,zU 0,zU 0,zI 0,zU 0,yQ,.slice none 0 0,zI 0,zU 0,zU 0,zU 0,zI 0,zU 0,yQ,.slice none 0 0,zI 0,zU 0,zU 0,zU 0,zI 0,zU 0,yQ,.slice none 0 0,zI 0,zU 0,zU 0,zU 0,zI 0,zU 0,yQ,.slice none 0 0,zI 0,zI 0] 105).hid
 clear h hK
 obtain⟨W0,eW0⟩:∃ W,w.alloc (.cells #[zU 0,zU 0,yQ,zU 0,zU 0,zU 0,zI 0,zU 0,yQ,.slice none 0 0,zI 0,zU 0,zU 0,zU 0,zI 0,zU 0,yQ,.slice none 0 0,zI 0,zU 0,zU 0,zU 0,zI 0,zU 0,yQ,.slice none 0 0,zI 0,zU 0,zU 0,zU 0,zI 0,zU 0,yQ,.slice none 0 0,zI 0,zI 0] 105)=W:=⟨_,rfl⟩
 rw [eW0,Jh] at HG0
 have cN:=Qt HG0.out.S
 have hf:=fun v=>QF t v
 go_enter Tryz.func132,Tryz.ntmps132
 go_wp2_with fail
 try rw [eW0]
 refine cN.mono ?_
 rintro e w1 ⟨rfl,hb1⟩
 have HG1:=(HG0.out.on hb1).hid
 clear cN hb1 HG0 eW0
 have HW:Hid (yD w1 (w1.alloc (.cells zh 9))):=Qc _ _
 have hSL:SLs (w1.alloc (.cells zh 9)) w1§ zp:=fun j hj=>by
  have hh:=Qd w1 (.cells zh 9)
  match j,hj with
  | 0,_=>exact Qa hh 0
  | 1,_=>exact Qa hh 1
  | 2,_=>exact Qa hh 2
  | 3,_=>exact Qa hh 3
  | 4,_=>exact Qa hh 4
  | 5,_=>exact Qa hh 5
 have cA:=Qv (HG1.out.S.on HW.out) (n:=6) (c:=6) hSL rfl (by omega) (by intro x hx; simp only [List.mem_cons,List.not_mem_nil,or_false] at hx; rcases hx with rfl | rfl | rfl | rfl | rfl | rfl <;> exact J9 (HG1.out.S.gd HK.out) (by decide +kernel))
 clear hSL
 rw [hv] at cA
 clear hv
 go_wp2_with fail
 refine cA.mono ?_
 rintro e wa ⟨rfl,hb4⟩
 have HGa:=((HG1.out.on HW.out).on hb4).hid
 obtain⟨i,c3,f3,hmx,hL,hM,_,_⟩:=HGa.out.S.at'
 obtain⟨V,eV⟩:∃ V,wa.setCell b¢3 (zI ((i:Int)+1))=V:=⟨_,rfl⟩
 rw [eV] at hL hM
 have HGb:=(HGa.out.mv hM hL).hid
 clear cA hb4 HW HG1 hL hM HGa
 go_upto_region 9 with fail
 try rw [eV]
 clear eV c3 f3 hmx hf
 have HGp:=(HGb.out.push #[zU 0,zU 0,yQ,zU 0,zU 0,zU 0,zI 0,zU 0,yQ,.slice none 0 0,zI 0,zU 0,zU 0,zU 0,zI 0,zU 0,yQ,.slice none 0 0,zI 0,zU 0,zU 0,zU 0,zI 0,zU 0,yQ,.slice none 0 0,zI 0,zU 0,zU 0,zU 0,zI 0,zU 0,yQ,.slice none 0 0,zI 0,zI 0] 105).hid
 have HG2:=(HX.rowA (pre:=[]) HGp.out #[zU 5,zU 0,yQ,zU 0,zU 0,zU 0,zI 0,zU 0,yQ,.slice none 0 0,zI 0,zU 0,zU 0,zU 0,zI 0,zU 0,yQ,.slice none 0 0,zI 0,zU 0,zU 0,zU 0,zI 0,zU 0,yQ,.slice none 0 0,zI 0,zU 0,zU 0,zU 0,zI 0,zU 0,yQ,.slice none 0 0,zI 0,zI t.p]).hid
 have HZ:Hid ((V.alloc (.cells #[zU 0,zU 0,yQ,zU 0,zU 0,zU 0,zI 0,zU 0,yQ,.slice none 0 0,zI 0,zU 0,zU 0,zU 0,zI 0,zU 0,yQ,.slice none 0 0,zI 0,zU 0,zU 0,zU 0,zI 0,zU 0,yQ,.slice none 0 0,zI 0,zU 0,zU 0,zU 0,zI 0,zU 0,yQ,.slice none 0 0,zI 0,zI 0] 105)).heap[V§]? = (zC #[zU 0,zU 0,yQ,zU 0,zU 0,zU 0,zI 0,zU 0,yQ,.slice none 0 0,zI 0,zU 0,zU 0,zU 0,zI 0,zU 0,yQ,.slice none 0 0,zI 0,zU 0,zU 0,zU 0,zI 0,zU 0,yQ,.slice none 0 0,zI 0,zU 0,zU 0,zU 0,zI 0,zU 0,yQ,.slice none 0 0,zI 0,zI 0] 105)):=Qd _ _
 clear HGp HGb
 obtain⟨cs1,ecs1⟩:∃ c:Array Value,#[zU 5,zU 0,yQ,zU 0,zU 0,zU 0,zI 0,zU 0,yQ,.slice none 0 0,zI 0,zU 0,zU 0,zU 0,zI 0,zU 0,yQ,.slice none 0 0,zI 0,zU 0,zU 0,zU 0,zI 0,zU 0,yQ,.slice none 0 0,zI 0,zU 0,zU 0,zU 0,zI 0,zU 0,yQ,.slice none 0 0,zI 0,zI t.p]=c:=⟨_,rfl⟩
 have hcs1:cs1.size=36:=by rw [← ecs1]; rfl
 have hcs2:cs1.all (·.oneCell')=true:=by rw [← ecs1]; simp [Value.oneCell']
 rw [ecs1] at HG2
 go_upto_region 10 with (refine wpList_store_row rfl 105 (.tmp 5) (.tmp 32) rfl V§ cs1 rfl (by first | rfl | exact congrArg Value.agg ecs1) 105 #[zU 0,zU 0,yQ,zU 0,zU 0,zU 0,zI 0,zU 0,yQ,.slice none 0 0,zI 0,zU 0,zU 0,zU 0,zI 0,zU 0,yQ,.slice none 0 0,zI 0,zU 0,zU 0,zU 0,zI 0,zU 0,yQ,.slice none 0 0,zI 0,zU 0,zU 0,zU 0,zI 0,zU 0,yQ,.slice none 0 0,zI 0,zI 0] HZ.out (by rw [hcs1]; exact Qk) (by rw [hcs1]; rfl) hcs2 ?_)
 generalize hW1:World.setRow _ _ _=W1
 rw [hW1,← ecs1,Jh] at HG2
 obtain⟨N3,eN3⟩:∃ q,V§=q:=⟨_,rfl⟩
 rw [eN3] at HG2 ⊢
 clear eN3 HZ hW1
 generalize Value.agg _=D0
 clear ecs1 hcs1 hcs2
 have hk0:=HG2.out.doK
 have HT2:Hid (RgT t2):=(HG2.out.S.ok HK.out.k).r
 have cN:=Kj HG2.out.S k2
 clear k2
 go_wp2_with fail
 refine cN.mono ?_
 rintro e wn ⟨rfl,hs,hm⟩
 have HN1:=(HG2.out.mv hm hs).hid
 obtain⟨v1,c1,f1⟩:=HX.cellA (pre:=[]) HN1.out 2 (by rw [JV]; omega)
 have HN2:=(HN1.out.doX t2.x).hid
 clear cN hs hm HG2 hk0
 go_upto_region 12 with fail
 generalize hY:World.setCell _ _ _=Yx
 rw [hY] at HN2
 clear hY c1 f1 HN1
 have HC:Hid (Yx.heap[N3]? = (zC (doA 5 0 t2.x nd00 nd00 nd00 nd00 t.p) 105)):=(HN2.out.B _ List.mem_cons_self).1
 have HQ:Hid (Yx.heap[w§]? = (zC (doA 0 0 ⟨#[]⟩ nd00 nd00 nd00 nd00 0) 105)):=(HN2.out.B _ (List.mem_cons_of_mem _ List.mem_cons_self)).1
 have HF:=(HX.rowA (pre:=[_]) HN2.out (doA 5 0 t2.x nd00 nd00 nd00 nd00 t.p)).hid
 have HR:Hid ((Yx.setRow w§ (doA 5 0 t2.x nd00 nd00 nd00 nd00 t.p)).heap[w§]? = (zC (doA 5 0 t2.x nd00 nd00 nd00 nd00 t.p) 105)):=(HF.out.B _ (List.mem_cons_of_mem _ List.mem_cons_self)).1
 have hk0:=HN2.out.doK
 go_wp2_with (first | (refine wpList_load_row rfl 105 (.tmp 5) rfl N3 rfl 105 (doA 5 0 t2.x nd00 nd00 nd00 nd00 t.p) (0,0) _ HC.out Tryz.underlying105 rfl Qk ?_) | (refine wpList_store_row rfl 105 (.tmp 2) (.tmp 60) rfl w§ (doA 5 0 t2.x nd00 nd00 nd00 nd00 t.p) rfl rfl 105 _ HQ.out Qk rfl (JY ..) ?_))
 refine bodyPost_ret (results_cell_row rfl _ _ w§ 105 (doA 5 0 t2.x nd00 nd00 nd00 nd00 t.p) (0,0) _ rfl HR.out Tryz.underlying105 rfl Qk) rfl (Km (d:=⟨5,0,t2.x,nd00,nd00,nd00,nd00,t.p⟩) HF.out ?_ fun U hU=>⟨QA U rg0,QA U rg0,QA U rg0,QA U rg0,⟨by show (0:Int)≤5; decide,by show (5:Int)≤255; decide⟩,⟨by show (0:Int)≤0; decide,by show (0:Int)≤255; decide⟩,⟨HT1.out.p0,HT1.out.p1⟩,HT2.out.x1⟩)
 show DoT.mk 5 0 t2.x tr0 (Qh nd00) (Qh nd00) (Qh nd00) t.p=_
 all_goals rfl
theorem doL_halt {w:yW}{b:Nat}{K:PK}{t:Tk}{us:List Tk}(hK:KG K) (h:Lv w b K (t :: us)) (hv:fnd t.x zp 0=5) :
  Calls zG 132 #[zP b] w (OutL DoM.vals DoM.tr DoL b K w ⟨6,0,gE,tr0,tr0,tr0,tr0,t.p⟩ us):=by
 have HK:Hid (KG K):=hK
 have HT1:Hid (RgT t):=(h.ok hK.k).r
 have HG0:=((HX.new h 0 0).push #[zU 0,zU 0,yQ,zU 0,zU 0,zU 0,zI 0,zU 0,yQ,.slice none 0 0,zI 0,zU 0,zU 0,zU 0,zI 0,zU 0,yQ,.slice none 0 0,zI 0,zU 0,zU 0,zU 0,zI 0,zU 0,yQ,.slice none 0 0,zI 0,zU 0,zU 0,zU 0,zI 0,zU 0,yQ,.slice none 0 0,zI 0,zI 0] 105).hid
 clear h hK
 obtain⟨W0,eW0⟩:∃ W,w.alloc (.cells #[zU 0,zU 0,yQ,zU 0,zU 0,zU 0,zI 0,zU 0,yQ,.slice none 0 0,zI 0,zU 0,zU 0,zU 0,zI 0,zU 0,yQ,.slice none 0 0,zI 0,zU 0,zU 0,zU 0,zI 0,zU 0,yQ,.slice none 0 0,zI 0,zU 0,zU 0,zU 0,zI 0,zU 0,yQ,.slice none 0 0,zI 0,zI 0] 105)=W:=⟨_,rfl⟩
 rw [eW0,Jh] at HG0
 have cN:=Qt HG0.out.S
 have hf:=fun v=>QF t v
 go_enter Tryz.func132,Tryz.ntmps132
 go_wp2_with fail
 try rw [eW0]
 refine cN.mono ?_
 rintro e w1 ⟨rfl,hb1⟩
 have HG1:=(HG0.out.on hb1).hid
 clear cN hb1 HG0 eW0
 have HW:Hid (yD w1 (w1.alloc (.cells zh 9))):=Qc _ _
 have hSL:SLs (w1.alloc (.cells zh 9)) w1§ zp:=fun j hj=>by
  have hh:=Qd w1 (.cells zh 9)
  match j,hj with
  | 0,_=>exact Qa hh 0
  | 1,_=>exact Qa hh 1
  | 2,_=>exact Qa hh 2
  | 3,_=>exact Qa hh 3
  | 4,_=>exact Qa hh 4
  | 5,_=>exact Qa hh 5
 have cA:=Qv (HG1.out.S.on HW.out) (n:=6) (c:=6) hSL rfl (by omega) (by intro x hx; simp only [List.mem_cons,List.not_mem_nil,or_false] at hx; rcases hx with rfl | rfl | rfl | rfl | rfl | rfl <;> exact J9 (HG1.out.S.gd HK.out) (by decide +kernel))
 clear hSL
 rw [hv] at cA
 clear hv
 go_wp2_with fail
 refine cA.mono ?_
 rintro e wa ⟨rfl,hb4⟩
 have HGa:=((HG1.out.on HW.out).on hb4).hid
 obtain⟨i,c3,f3,hmx,hL,hM,_,_⟩:=HGa.out.S.at'
 obtain⟨V,eV⟩:∃ V,wa.setCell b¢3 (zI ((i:Int)+1))=V:=⟨_,rfl⟩
 rw [eV] at hL hM
 have HGb:=(HGa.out.mv hM hL).hid
 clear cA hb4 HW HG1 hL hM HGa
 go_upto_region 9 with fail
 try rw [eV]
 clear eV c3 f3 hmx hf
 have HGp:=(HGb.out.push #[zU 0,zU 0,yQ,zU 0,zU 0,zU 0,zI 0,zU 0,yQ,.slice none 0 0,zI 0,zU 0,zU 0,zU 0,zI 0,zU 0,yQ,.slice none 0 0,zI 0,zU 0,zU 0,zU 0,zI 0,zU 0,yQ,.slice none 0 0,zI 0,zU 0,zU 0,zU 0,zI 0,zU 0,yQ,.slice none 0 0,zI 0,zI 0] 105).hid
 have HG2:=(HX.rowA (pre:=[]) HGp.out #[zU 6,zU 0,yQ,zU 0,zU 0,zU 0,zI 0,zU 0,yQ,.slice none 0 0,zI 0,zU 0,zU 0,zU 0,zI 0,zU 0,yQ,.slice none 0 0,zI 0,zU 0,zU 0,zU 0,zI 0,zU 0,yQ,.slice none 0 0,zI 0,zU 0,zU 0,zU 0,zI 0,zU 0,yQ,.slice none 0 0,zI 0,zI t.p]).hid
 have HZ:Hid ((V.alloc (.cells #[zU 0,zU 0,yQ,zU 0,zU 0,zU 0,zI 0,zU 0,yQ,.slice none 0 0,zI 0,zU 0,zU 0,zU 0,zI 0,zU 0,yQ,.slice none 0 0,zI 0,zU 0,zU 0,zU 0,zI 0,zU 0,yQ,.slice none 0 0,zI 0,zU 0,zU 0,zU 0,zI 0,zU 0,yQ,.slice none 0 0,zI 0,zI 0] 105)).heap[V§]? = (zC #[zU 0,zU 0,yQ,zU 0,zU 0,zU 0,zI 0,zU 0,yQ,.slice none 0 0,zI 0,zU 0,zU 0,zU 0,zI 0,zU 0,yQ,.slice none 0 0,zI 0,zU 0,zU 0,zU 0,zI 0,zU 0,yQ,.slice none 0 0,zI 0,zU 0,zU 0,zU 0,zI 0,zU 0,yQ,.slice none 0 0,zI 0,zI 0] 105)):=Qd _ _
 clear HGp HGb
 obtain⟨cs1,ecs1⟩:∃ c:Array Value,#[zU 6,zU 0,yQ,zU 0,zU 0,zU 0,zI 0,zU 0,yQ,.slice none 0 0,zI 0,zU 0,zU 0,zU 0,zI 0,zU 0,yQ,.slice none 0 0,zI 0,zU 0,zU 0,zU 0,zI 0,zU 0,yQ,.slice none 0 0,zI 0,zU 0,zU 0,zU 0,zI 0,zU 0,yQ,.slice none 0 0,zI 0,zI t.p]=c:=⟨_,rfl⟩
 have hcs1:cs1.size=36:=by rw [← ecs1]; rfl
 have hcs2:cs1.all (·.oneCell')=true:=by rw [← ecs1]; simp [Value.oneCell']
 rw [ecs1] at HG2
 go_upto_region 10 with (refine wpList_store_row rfl 105 (.tmp 5) (.tmp 32) rfl V§ cs1 rfl (by first | rfl | exact congrArg Value.agg ecs1) 105 #[zU 0,zU 0,yQ,zU 0,zU 0,zU 0,zI 0,zU 0,yQ,.slice none 0 0,zI 0,zU 0,zU 0,zU 0,zI 0,zU 0,yQ,.slice none 0 0,zI 0,zU 0,zU 0,zU 0,zI 0,zU 0,yQ,.slice none 0 0,zI 0,zU 0,zU 0,zU 0,zI 0,zU 0,yQ,.slice none 0 0,zI 0,zI 0] HZ.out (by rw [hcs1]; exact Qk) (by rw [hcs1]; rfl) hcs2 ?_)
 generalize hW1:World.setRow _ _ _=W1
 rw [hW1,← ecs1,Jh] at HG2
 obtain⟨N3,eN3⟩:∃ q,V§=q:=⟨_,rfl⟩
 rw [eN3] at HG2 ⊢
 clear eN3 HZ hW1
 generalize Value.agg _=D0
 clear ecs1 hcs1 hcs2
 have HC:Hid (W1.heap[N3]? = (zC (doA 6 0 ⟨#[]⟩ nd00 nd00 nd00 nd00 t.p) 105)):=(HG2.out.B _ List.mem_cons_self).1
 have HQ:Hid (W1.heap[w§]? = (zC (doA 0 0 ⟨#[]⟩ nd00 nd00 nd00 nd00 0) 105)):=(HG2.out.B _ (List.mem_cons_of_mem _ List.mem_cons_self)).1
 have HF:=(HX.rowA (pre:=[_]) HG2.out (doA 6 0 ⟨#[]⟩ nd00 nd00 nd00 nd00 t.p)).hid
 have HR:Hid ((W1.setRow w§ (doA 6 0 ⟨#[]⟩ nd00 nd00 nd00 nd00 t.p)).heap[w§]? = (zC (doA 6 0 ⟨#[]⟩ nd00 nd00 nd00 nd00 t.p) 105)):=(HF.out.B _ (List.mem_cons_of_mem _ List.mem_cons_self)).1
 have hk0:=HG2.out.doK
 go_wp2_with (first | (refine wpList_load_row rfl 105 (.tmp 5) rfl N3 rfl 105 (doA 6 0 ⟨#[]⟩ nd00 nd00 nd00 nd00 t.p) (0,0) _ HC.out Tryz.underlying105 rfl Qk ?_) | (refine wpList_store_row rfl 105 (.tmp 2) (.tmp 60) rfl w§ (doA 6 0 ⟨#[]⟩ nd00 nd00 nd00 nd00 t.p) rfl rfl 105 _ HQ.out Qk rfl (JY ..) ?_))
 refine bodyPost_ret (results_cell_row rfl _ _ w§ 105 (doA 6 0 ⟨#[]⟩ nd00 nd00 nd00 nd00 t.p) (0,0) _ rfl HR.out Tryz.underlying105 rfl Qk) rfl (Km (d:=⟨6,0,⟨#[]⟩,nd00,nd00,nd00,nd00,t.p⟩) HF.out ?_ fun U hU=>⟨QA U rg0,QA U rg0,QA U rg0,QA U rg0,⟨by show (0:Int)≤6; decide,by show (6:Int)≤255; decide⟩,⟨by show (0:Int)≤0; decide,by show (0:Int)≤255; decide⟩,⟨HT1.out.p0,HT1.out.p1⟩,(show gE.size≤140737488355328 by decide)⟩)
 show DoT.mk 6 0 ⟨#[]⟩ tr0 (Qh nd00) (Qh nd00) (Qh nd00) t.p=_
 all_goals rfl
theorem doL_submit {w:yW}{b:Nat}{K:PK}{t:Tk}{ts:List Tk}{r:DoT}{u:Tk}{us:List Tk}(hK:KG K) (h:Lv w b K (t :: ts)) (hv:fnd t.x zp 0=0) (hp:pSubmit (t :: ts)=some (r,u :: us)) :
  Calls zG 132 #[zP b] w (OutL DoM.vals DoM.tr DoL b K w r (u :: us)):=by
 have HK:Hid (KG K):=hK
 have HG0:=((HX.new h 0 0).push #[zU 0,zU 0,yQ,zU 0,zU 0,zU 0,zI 0,zU 0,yQ,.slice none 0 0,zI 0,zU 0,zU 0,zU 0,zI 0,zU 0,yQ,.slice none 0 0,zI 0,zU 0,zU 0,zU 0,zI 0,zU 0,yQ,.slice none 0 0,zI 0,zU 0,zU 0,zU 0,zI 0,zU 0,yQ,.slice none 0 0,zI 0,zI 0] 105).hid
 clear h hK
 obtain⟨W0,eW0⟩:∃ W,w.alloc (.cells #[zU 0,zU 0,yQ,zU 0,zU 0,zU 0,zI 0,zU 0,yQ,.slice none 0 0,zI 0,zU 0,zU 0,zU 0,zI 0,zU 0,yQ,.slice none 0 0,zI 0,zU 0,zU 0,zU 0,zI 0,zU 0,yQ,.slice none 0 0,zI 0,zU 0,zU 0,zU 0,zI 0,zU 0,yQ,.slice none 0 0,zI 0,zI 0] 105)=W:=⟨_,rfl⟩
 rw [eW0,Jh] at HG0
 have cN:=Qt HG0.out.S
 have hf:=fun v=>QF t v
 go_enter Tryz.func132,Tryz.ntmps132
 go_wp2_with fail
 try rw [eW0]
 refine cN.mono ?_
 rintro e w1 ⟨rfl,hb1⟩
 have HG1:=(HG0.out.on hb1).hid
 clear cN hb1 HG0 eW0
 have HW:Hid (yD w1 (w1.alloc (.cells zh 9))):=Qc _ _
 have hSL:SLs (w1.alloc (.cells zh 9)) w1§ zp:=fun j hj=>by
  have hh:=Qd w1 (.cells zh 9)
  match j,hj with
  | 0,_=>exact Qa hh 0
  | 1,_=>exact Qa hh 1
  | 2,_=>exact Qa hh 2
  | 3,_=>exact Qa hh 3
  | 4,_=>exact Qa hh 4
  | 5,_=>exact Qa hh 5
 have cA:=Qv (HG1.out.S.on HW.out) (n:=6) (c:=6) hSL rfl (by omega) (by intro x hx; simp only [List.mem_cons,List.not_mem_nil,or_false] at hx; rcases hx with rfl | rfl | rfl | rfl | rfl | rfl <;> exact J9 (HG1.out.S.gd HK.out) (by decide +kernel))
 clear hSL
 rw [hv] at cA
 clear hv
 go_wp2_with fail
 refine cA.mono ?_
 rintro e wa ⟨rfl,hb4⟩
 have HGa:=((HG1.out.on HW.out).on hb4).hid
 have cS:=submit_l HK.out HGa.out.S hp
 clear cA hb4 HW HG1 hf hp
 go_wp2_with fail
 refine cS.mono ?_
 rintro e w5 ⟨d,rfl,htr,hdp,hs,hm⟩
 have HG5:=(HGa.out.add hm hs hdp).hid
 have HD:Hid (d.tr=r):=htr
 have HQ:Hid (w5.heap[w§]? = (zC (doA 0 0 ⟨#[]⟩ nd00 nd00 nd00 nd00 0) 105)):=(HG5.out.B _ List.mem_cons_self).1
 have HF:=(HX.rowA (pre:=[]) HG5.out d.vals).hid
 have HR:Hid ((w5.setRow w§ d.vals).heap[w§]? = (zC d.vals 105)):=(HF.out.B _ List.mem_cons_self).1
 clear cS htr hdp hs hm HGa
 go_wp2_with (refine wpList_store_row rfl 105 (.tmp 2) (.tmp 20) rfl w§ d.vals rfl rfl 105 _ HQ.out Qk rfl (JY ..) ?_)
 exact bodyPost_ret (results_cell_row rfl _ _ w§ 105 d.vals (0,0) _ rfl HR.out Tryz.underlying105 rfl Qk) rfl (Km HF.out HD.out fun U hU=>hU.2)
theorem do_l {w:yW}{b:Nat}{K:PK}{ts:List Tk}{r:DoT}{u:Tk}{us:List Tk}(hK:KG K) (h:Lv w b K ts) (hp:pDo ts=some (r,u :: us)):Calls zG 132 #[zP b] w (OutL DoM.vals DoM.tr DoL b K w r (u :: us)):=by
 cases ts with
 | nil=>cases hp
 | cons t ts =>
  simp only [pDo] at hp
  by_cases e0:fnd t.x zp 0=0
  ·rw [if_pos e0] at hp
   exact doL_submit hK h e0 hp
  rw [if_neg e0] at hp
  by_cases e1:fnd t.x zp 0=1
  ·rw [if_pos e1] at hp
   unfold pAmend at hp
   obtain⟨a,h1,hp⟩:=Qn hp
   obtain⟨c,h2,hp⟩:=Qn hp
   obtain⟨d,h3,hp⟩:=Qn hp
   obtain⟨f,h4,hp⟩:=Qn hp
   obtain⟨g,h5,hp⟩:=Qn hp
   obtain⟨t2,et2,k2,k2'⟩:=Jn h1
   rw [et2] at h
   obtain⟨t3,g3,k3,_⟩:=QK h2
   obtain⟨a3,as3,e3⟩:=J8 h3
   obtain⟨t4,g4,k4,_⟩:=QK h4
   obtain⟨a4,as4,e4⟩:=J8 h5
   obtain⟨rfl,e⟩:=Prod.mk.inj (Option.some.inj hp)
   rw [g3,e3] at h
   rw [k2']
   exact doL_amend (t4:=t4) (a4:=a4) (as4:=as4) hK h e1 k2 k3 (by rw [← e3,h3,← e4,← g4]) k4 (by rw [← e4,h5,← e])
  rw [if_neg e1] at hp
  by_cases e2:fnd t.x zp 0=2
  ·rw [if_pos e2] at hp
   obtain⟨a,h1,hp⟩:=Qn hp
   obtain⟨t2,et2,k2,k2'⟩:=Jn h1
   rw [et2] at h
   obtain⟨rfl,e⟩:=Prod.mk.inj (Option.some.inj hp)
   rw [k2',← e]
   exact doL_cancel hK h e2 k2
  rw [if_neg e2] at hp
  by_cases e3:fnd t.x zp 0=3
  ·rw [if_pos e3] at hp
   unfold pSet at hp
   obtain⟨a,h1,hp⟩:=Qn hp
   obtain⟨c,h2,hp⟩:=Qn hp
   obtain⟨d,h3,hp⟩:=Qn hp
   obtain⟨t2,et2,k2,k2'⟩:=Jn h1
   rw [et2] at h
   obtain⟨t3,g3,k3,_⟩:=QK h2
   obtain⟨a3,as3,e4⟩:=J8 h3
   obtain⟨rfl,e⟩:=Prod.mk.inj (Option.some.inj hp)
   rw [g3,e4] at h
   rw [k2']
   exact doL_set hK h e3 k2 k3 (by rw [← e4,h3,← e])
  rw [if_neg e3] at hp
  by_cases e4:fnd t.x zp 0=4
  ·rw [if_pos e4] at hp
   obtain⟨a,h1,hp⟩:=Qn hp
   obtain⟨t2,et2,k2,k2'⟩:=Jn h1
   rw [et2] at h
   obtain⟨rfl,e⟩:=Prod.mk.inj (Option.some.inj hp)
   rw [k2',← e]
   exact doL_goto hK h e4 k2
  rw [if_neg e4] at hp
  by_cases e5:fnd t.x zp 0=5
  ·rw [if_pos e5] at hp
   cases hp
   exact doL_halt hK h e5
  rw [if_neg e5] at hp
  cases hp
end Go.Proofs.YtoogodlnnijikaaGreatDoor
