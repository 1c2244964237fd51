import Derived.Test.YtkfabnchhjfjjaaGreatDoorA0
import Derived.Test.YtkfabnchhjfjjaaGreatDoorA20
namespace Go.Proofs.YtkfabnchhjfjjaaGreatDoor
set_option maxRecDepth 100000
set_option maxHeartbeats 8000000
open Go.RowKit
set_option linter.unusedVariables false
theorem size110:(Tryz.prog.info? 110).map (·.size)=some 36:=by kernel_rfl
def dEx (s:St):St:=stOf (rd exprT s)
def dOrd (s:St):St:=if 0≤dAny [ZH,ZG,ZF,ZJ] s then dStep s else dWrong 130 s
def dSel (s:St):St:=if dAny [Zt,Zi] s=0 then dStep s else if dAny [Zt,Zi] s=1 then dOrd (dEx (dStep s)) else dWrong 130 s
def dAs (s:St):St:=if dIs ZR s=true then dName (dStep s) else s
def dSubmit (s:St):St:=dAs (dSel (dEx (dTake ZI (dEx (dTake Z2 s)))))
theorem dWrong_as (no:Int) (s:St):dAs (dWrong no s)=dWrong no s:=by
 match s with
 | .ok (t :: ts)=>rfl
 | .ok []=>rfl
 | .error f=>rfl
theorem submit_g {w:World}{b:Nat}{K:PK}{s:St}(hK:KG K) (h:Sp w b K s):Calls zG 153 #[zP b] w (OutG 36 b K w (dSubmit s)):=by
 have HK:Hid (KG K):=hK
 have HG0:=(GX.new h zA0 110 36 rfl (by simp [Value.oneCell'])).hid
 clear h hK
 obtain⟨W0,eW0⟩:∃ W,w.alloc (.cells zA0 110)=W:=⟨_,rfl⟩
 rw [eW0] at HG0
 obtain⟨r0,er0⟩:∃ q,dSubmit s=q:=⟨_,rfl⟩
 have HR0:Hid (dSubmit s=r0):=er0
 rw [er0]
 clear er0
 have cT:=take_g HK.out HG0.out.S Z2 (by decide +kernel) (by decide)
 obtain⟨s1,es1⟩:∃ q,dTake Z2 s=q:=⟨_,rfl⟩
 have HS1:Hid (dTake Z2 s=s1):=es1
 rw [es1] at cT
 clear es1
 go_enter Tryz.func153,Tryz.ntmps153
 go_wp2_with fail
 try rw [eW0]
 refine cT.mono ?_
 rintro e w1 ⟨⟨p1,rfl⟩,hs,hm⟩
 have HGp:=((HG0.out.mv hm hs).push zA0 110 36 rfl (by simp [Value.oneCell'])).hid
 obtain⟨cs1,ecs1⟩:∃ c:Array Value,#[zU 1,zU 0,.string ⟨#[]⟩,zU 0,zU 0,zU 0,zI 0,zU 0,.string ⟨#[]⟩,.slice none 0 0,zI 0,zU 0,zU 0,zU 0,zI 0,zU 0,.string ⟨#[]⟩,.slice none 0 0,zI 0,zU 0,zU 0,zU 0,zI 0,zU 0,.string ⟨#[]⟩,.slice none 0 0,zI 0,zU 0,zU 0,zU 0,zI 0,zU 0,.string ⟨#[]⟩,.slice none 0 0,zI 0,zI p1]=c:=⟨_,rfl⟩
 have hcs1:cs1.size=36:=by rw [← ecs1]; rfl
 have hcs2:cs1.all (·.oneCell')=true:=by rw [← ecs1]; simp [Value.oneCell']
 have HG1:=(HGp.out.row (N:=w1§) (T:=110) (n:=36) (by simp) cs1 hcs1 hcs2).1.hid
 have HZ:Hid ((w1.alloc (.cells zA0 110)).heap[w1§]? = some (.cells zA0 110 (0,0))):=Hn _ _
 clear cT hs hm HG0 eW0 HGp
 go_upto_region 2 with (refine wpList_store_row rfl 110 (.tmp 3) (.tmp 9) rfl w1§ cs1 rfl (by first | rfl | exact congrArg Value.agg ecs1) 110 zA0 HZ.out (by rw [hcs1]; exact size110) (by rw [hcs1]; rfl) hcs2 ?_)
 generalize hW1:World.setRow _ _ _=W1
 have HG1:Hid (GX w b K W1 [(w1§,110,36),(w§,110,36)] s1):=by rw [← hW1]; exact HG1.out
 obtain⟨N3,eN3⟩:∃ q,w1§=q:=⟨_,rfl⟩
 rw [eN3] at HG1 ⊢
 clear eN3 HZ hW1
 generalize Value.agg _=D0
 clear ecs1 hcs1 hcs2
 have cE:=expr0_d HK.out.k W1 s1 HG1.out.S
 go_wp2_with fail
 refine cE.mono ?_
 rintro e ua ⟨⟨⟨k2,o2,ty2,n2,f2,x2,p2⟩,am2,cm2,ks2⟩,rfl,hl,hk,hs,hm,ht⟩
 simp only [Nd.vals,Nd.h,Nd.a,Nd.c,Nd.ks,hdA]
 have HGxa:=(HG1.out.mv hm hs).hid
 clear cE hl hk hs hm ht HG1
 obtain⟨av3,ac3,af3⟩:=(HGxa.out.B (N3,110,36) (by simp)).1.cell 3 (show 3 < 36 by omega)
 obtain⟨av4,ac4,af4⟩:=(HGxa.out.B (N3,110,36) (by simp)).1.cell 4 (show 4 < 36 by omega)
 obtain⟨av5,ac5,af5⟩:=(HGxa.out.B (N3,110,36) (by simp)).1.cell 5 (show 5 < 36 by omega)
 obtain⟨av6,ac6,af6⟩:=(HGxa.out.B (N3,110,36) (by simp)).1.cell 6 (show 6 < 36 by omega)
 obtain⟨av7,ac7,af7⟩:=(HGxa.out.B (N3,110,36) (by simp)).1.cell 7 (show 7 < 36 by omega)
 obtain⟨av8,ac8,af8⟩:=(HGxa.out.B (N3,110,36) (by simp)).1.cell 8 (show 8 < 36 by omega)
 obtain⟨av9,ac9,af9⟩:=(HGxa.out.B (N3,110,36) (by simp)).1.cell 9 (show 9 < 36 by omega)
 obtain⟨av10,ac10,af10⟩:=(HGxa.out.B (N3,110,36) (by simp)).1.cell 10 (show 10 < 36 by omega)
 have HGea:Hid (GX w b K ((((((((ua.setCell ⟨N3,3,none⟩ (zU k2)).setCell ⟨N3,4,none⟩ (zU o2)).setCell ⟨N3,5,none⟩ (zU ty2)).setCell ⟨N3,6,none⟩ (zI n2)).setCell ⟨N3,7,none⟩ (zU f2)).setCell ⟨N3,8,none⟩ (.string x2)).setCell ⟨N3,9,none⟩ (.slice am2 ks2.length cm2)).setCell ⟨N3,10,none⟩ (zI p2)) _ (dEx s1)):=HGxa.out.node (N:=N3) (T:=110) (n:=36) (by simp) 3 (Nd.mk ⟨k2,o2,ty2,n2,f2,x2,p2⟩ am2 cm2 ks2)
 go_upto_region 3 with fail
 obtain⟨Ya,eYa⟩:∃ Y,((((((((ua.setCell ⟨N3,3,none⟩ (zU k2)).setCell ⟨N3,4,none⟩ (zU o2)).setCell ⟨N3,5,none⟩ (zU ty2)).setCell ⟨N3,6,none⟩ (zI n2)).setCell ⟨N3,7,none⟩ (zU f2)).setCell ⟨N3,8,none⟩ (.string x2)).setCell ⟨N3,9,none⟩ (.slice am2 ks2.length cm2)).setCell ⟨N3,10,none⟩ (zI p2))=Y:=⟨_,rfl⟩
 rw [eYa] at HGea ⊢
 clear eYa ac3 af3 ac4 af4 ac5 af5 ac6 af6 ac7 af7 ac8 af8 ac9 af9 ac10 af10 HGxa
 generalize Value.agg (zN k2 o2 ty2 n2 f2 x2 am2 ks2 cm2 p2)=Dga
 have cT:=take_g HK.out HGea.out.S ZI (by decide +kernel) (by decide)
 go_wp2_with fail
 refine cT.mono ?_
 rintro e tb ⟨⟨ptb,rfl⟩,hs,hm⟩
 have HG2:=(HGea.out.mv hm hs).hid
 clear cT hs hm HGea
 have cE:=expr0_d HK.out.k tb (dTake ZI (dEx s1)) HG2.out.S
 go_wp2_with fail
 refine cE.mono ?_
 rintro e uc ⟨⟨⟨k3,o3,ty3,n3,f3,x3,p3⟩,am3,cm3,ks3⟩,rfl,hl,hk,hs,hm,ht⟩
 simp only [Nd.vals,Nd.h,Nd.a,Nd.c,Nd.ks,hdA]
 have HGxc:=(HG2.out.mv hm hs).hid
 clear cE hl hk hs hm ht HG2
 obtain⟨av11,ac11,af11⟩:=(HGxc.out.B (N3,110,36) (by simp)).1.cell 11 (show 11 < 36 by omega)
 obtain⟨av12,ac12,af12⟩:=(HGxc.out.B (N3,110,36) (by simp)).1.cell 12 (show 12 < 36 by omega)
 obtain⟨av13,ac13,af13⟩:=(HGxc.out.B (N3,110,36) (by simp)).1.cell 13 (show 13 < 36 by omega)
 obtain⟨av14,ac14,af14⟩:=(HGxc.out.B (N3,110,36) (by simp)).1.cell 14 (show 14 < 36 by omega)
 obtain⟨av15,ac15,af15⟩:=(HGxc.out.B (N3,110,36) (by simp)).1.cell 15 (show 15 < 36 by omega)
 obtain⟨av16,ac16,af16⟩:=(HGxc.out.B (N3,110,36) (by simp)).1.cell 16 (show 16 < 36 by omega)
 obtain⟨av17,ac17,af17⟩:=(HGxc.out.B (N3,110,36) (by simp)).1.cell 17 (show 17 < 36 by omega)
 obtain⟨av18,ac18,af18⟩:=(HGxc.out.B (N3,110,36) (by simp)).1.cell 18 (show 18 < 36 by omega)
 have HGec:Hid (GX w b K ((((((((uc.setCell ⟨N3,11,none⟩ (zU k3)).setCell ⟨N3,12,none⟩ (zU o3)).setCell ⟨N3,13,none⟩ (zU ty3)).setCell ⟨N3,14,none⟩ (zI n3)).setCell ⟨N3,15,none⟩ (zU f3)).setCell ⟨N3,16,none⟩ (.string x3)).setCell ⟨N3,17,none⟩ (.slice am3 ks3.length cm3)).setCell ⟨N3,18,none⟩ (zI p3)) _ (dEx (dTake ZI (dEx s1)))):=HGxc.out.node (N:=N3) (T:=110) (n:=36) (by simp) 11 (Nd.mk ⟨k3,o3,ty3,n3,f3,x3,p3⟩ am3 cm3 ks3)
 go_upto_region 5 with fail
 obtain⟨Yc,eYc⟩:∃ Y,((((((((uc.setCell ⟨N3,11,none⟩ (zU k3)).setCell ⟨N3,12,none⟩ (zU o3)).setCell ⟨N3,13,none⟩ (zU ty3)).setCell ⟨N3,14,none⟩ (zI n3)).setCell ⟨N3,15,none⟩ (zU f3)).setCell ⟨N3,16,none⟩ (.string x3)).setCell ⟨N3,17,none⟩ (.slice am3 ks3.length cm3)).setCell ⟨N3,18,none⟩ (zI p3))=Y:=⟨_,rfl⟩
 rw [eYc] at HGec ⊢
 clear eYc ac11 af11 ac12 af12 ac13 af13 ac14 af14 ac15 af15 ac16 af16 ac17 af17 ac18 af18 HGxc
 generalize Value.agg (zN k3 o3 ty3 n3 f3 x3 am3 ks3 cm3 p3)=Dgc
 obtain⟨s4,es4⟩:∃ q,dEx (dTake ZI (dEx s1))=q:=⟨_,rfl⟩
 have HS4:Hid (dEx (dTake ZI (dEx s1))=s4):=es4
 rw [es4] at HGec
 clear es4
 have HF0:Hid (r0=dAs (dSel s4)):=by show _=_; rw [← HR0.out,dSubmit,HS1.out,HS4.out]
 have HW:Hid (Below Yc§ Yc (Yc.alloc (.cells #[.string Zt,.string Zi] 9))):=Bn _ _
 have hSL:SLs (Yc.alloc (.cells #[.string Zt,.string Zi] 9)) Yc§ [Zt,Zi]:=fun j hj=>by
  have hh:=Hn Yc (.cells #[.string Zt,.string Zi] 9)
  match j,hj with
  | 0,_=>exact Co hh 0
  | 1,_=>exact Co hh 1
 have cA:=any_g HK.out ((HGec.out.S).on HW.out) (n:=2) (c:=2) hSL rfl (by omega) (by intro x hx; simp only [List.mem_cons,List.not_mem_nil,or_false] at hx; rcases hx with rfl | rfl <;> exact⟨by decide +kernel,by decide⟩)
 clear hSL
 obtain⟨v,ev⟩:∃ v,dAny [Zt,Zi] s4=v:=⟨_,rfl⟩
 have hrg:=dAny_rg [Zt,Zi] s4
 rw [ev] at cA hrg
 simp only [List.length_cons,List.length_nil] at hrg
 have EV:Hid (dAny [Zt,Zi] s4=v):=ev
 clear ev
 by_cases hv:v < 0
 ·have hv2:decide (v < 0)=true:=decide_eq_true hv
  have HD:Hid (dAs (dSel s4)=dWrong 130 s4):=by
   have e1:dSel s4=dWrong 130 s4:=by
    unfold dSel
    rw [EV.out,if_neg (by omega),if_neg (by omega)]
   show _=_
   rw [e1,dWrong_as]
  go_wp2_with fail
  refine cA.mono ?_
  rintro e w4 ⟨rfl,hb4⟩
  have HG4:=((HGec.out.on HW.out).on hb4).hid
  have cW:=wrong_g HG4.out.S 130 (by decide)
  clear cA hb4 HW HGec
  go_wp2_with fail
  refine cW.mono ?_
  rintro e w5 ⟨rfl,hs,hm⟩
  have HG5:=(HG4.out.mv hm hs).hid
  clear cW hs hm HG4
  obtain⟨cs,hc1,hc2,hc3⟩:=(HG5.out.B (N3,110,36) (by simp)).1
  obtain⟨old,ho1,ho2,ho3⟩:=(HG5.out.B (w§,110,36) (by simp)).1
  have HC:Hid (w5.heap[N3]? = some (.cells cs 110 (0,0))):=hc1
  have HO:Hid (w5.heap[w§]? = some (.cells old 110 (0,0))):=ho1
  have HF:Hid (GX w b K (w5.setRow w§ cs) _ (dWrong 130 s4)∧(w5.setRow w§ cs).heap[w§]? = some (.cells cs 110 (0,0))):=HG5.out.row (N:=w§) (T:=110) (n:=36) (by simp) cs hc2 hc3
  have HN1:Hid (cs.size=36∧old.size=36∧cs.all (·.oneCell')=true):=⟨hc2,ho2,hc3⟩
  clear hc1 hc2 hc3 ho1 ho2 ho3
  go_wp2_with (first | (refine wpList_load_row rfl 110 (.tmp 3) rfl N3 rfl 110 cs (0,0) _ HC.out Tryz.underlying110 rfl (by rw [HN1.out.1]; exact size110) ?_) | (refine wpList_store_row rfl 110 (.tmp 2) (.tmp 25) rfl w§ cs rfl rfl 110 old HO.out (by rw [HN1.out.1]; exact size110) (by rw [HN1.out.1,HN1.out.2.1]) HN1.out.2.2 ?_))
  exact bodyPost_ret (results_cell_row rfl _ _ w§ 110 cs (0,0) _ rfl HF.out.2 Tryz.underlying110 rfl (by rw [HN1.out.1]; exact size110)) rfl ⟨cs,rfl,HN1.out.1,HN1.out.2.2,by rw [HF0.out,HD.out]; exact HF.out.1.S,HF.out.1.M⟩
 have hv0:0≤v:=by omega
 have hv6:v < 2:=by omega
 have hv2:decide (v < 0)=false:=decide_eq_false hv
 obtain⟨t3,ts3,rfl,et3⟩:=dAny_ok (s:=s4) (L:=[Zt,Zi]) (by rw [EV.out]; exact hv0)
 clear et3 hrg hv
 go_wp2_with fail
 refine cA.mono ?_
 rintro e w4 ⟨rfl,hb4⟩
 have HG4:=((HGec.out.on HW.out).on hb4).hid
 clear cA hb4 HW HGec
 obtain⟨id,c3,f3,hmx,hL,hM,_,_⟩:=HG4.out.S.2.at'
 obtain⟨Vd,eVd⟩:∃ V,w4.setCell ⟨b,3,none⟩ (zI ((id:Int)+1))=V:=⟨_,rfl⟩
 rw [eVd] at hL hM
 have HG5:=(HG4.out.mv hM hL.sp).hid
 clear hL hM HG4
 go_upto_region 10 with fail
 try rw [eVd]
 clear eVd c3 f3 hmx
 obtain⟨av1,ac1,af1⟩:=(HG5.out.B (N3,110,36) (by simp)).1.cell 1 (show 1 < 36 by omega)
 have HGsd:Hid (GX w b K (Vd.setCell ⟨N3,1,none⟩ (zU 2)) _ (nf ts3)):=HG5.out.set (N:=N3) (T:=110) (n:=36) (by simp) 1 (zU 2) rfl
 go_upto_region 11 with fail
 obtain⟨Xd,eXd⟩:∃ Y,Vd.setCell ⟨N3,1,none⟩ (zU 2)=Y:=⟨_,rfl⟩
 rw [eXd] at HGsd ⊢
 clear eXd ac1 af1 HG5
 by_cases hv1:v=1
 ·subst hv1
  have HSE:Hid (dSel (.ok (t3 :: ts3))=dOrd (dEx (nf ts3))):=by
   show (if _ then _ else _)=_
   rw [EV.out,if_neg (by decide),if_pos rfl]
   rfl
  have cE:=expr0_d HK.out.k Xd (nf ts3) HGsd.out.S
  go_wp2_with fail
  refine cE.mono ?_
  rintro e ue ⟨⟨⟨k4,o4,ty4,n4,f4,x4,p4⟩,am4,cm4,ks4⟩,rfl,hl,hk,hs,hm,ht⟩
  simp only [Nd.vals,Nd.h,Nd.a,Nd.c,Nd.ks,hdA]
  have HGxe:=(HGsd.out.mv hm hs).hid
  clear cE hl hk hs hm ht HGsd
  obtain⟨av19,ac19,af19⟩:=(HGxe.out.B (N3,110,36) (by simp)).1.cell 19 (show 19 < 36 by omega)
  obtain⟨av20,ac20,af20⟩:=(HGxe.out.B (N3,110,36) (by simp)).1.cell 20 (show 20 < 36 by omega)
  obtain⟨av21,ac21,af21⟩:=(HGxe.out.B (N3,110,36) (by simp)).1.cell 21 (show 21 < 36 by omega)
  obtain⟨av22,ac22,af22⟩:=(HGxe.out.B (N3,110,36) (by simp)).1.cell 22 (show 22 < 36 by omega)
  obtain⟨av23,ac23,af23⟩:=(HGxe.out.B (N3,110,36) (by simp)).1.cell 23 (show 23 < 36 by omega)
  obtain⟨av24,ac24,af24⟩:=(HGxe.out.B (N3,110,36) (by simp)).1.cell 24 (show 24 < 36 by omega)
  obtain⟨av25,ac25,af25⟩:=(HGxe.out.B (N3,110,36) (by simp)).1.cell 25 (show 25 < 36 by omega)
  obtain⟨av26,ac26,af26⟩:=(HGxe.out.B (N3,110,36) (by simp)).1.cell 26 (show 26 < 36 by omega)
  have HGee:Hid (GX w b K ((((((((ue.setCell ⟨N3,19,none⟩ (zU k4)).setCell ⟨N3,20,none⟩ (zU o4)).setCell ⟨N3,21,none⟩ (zU ty4)).setCell ⟨N3,22,none⟩ (zI n4)).setCell ⟨N3,23,none⟩ (zU f4)).setCell ⟨N3,24,none⟩ (.string x4)).setCell ⟨N3,25,none⟩ (.slice am4 ks4.length cm4)).setCell ⟨N3,26,none⟩ (zI p4)) _ (dEx (nf ts3))):=HGxe.out.node (N:=N3) (T:=110) (n:=36) (by simp) 19 (Nd.mk ⟨k4,o4,ty4,n4,f4,x4,p4⟩ am4 cm4 ks4)
  go_upto_region 13 with fail
  obtain⟨Ye,eYe⟩:∃ Y,((((((((ue.setCell ⟨N3,19,none⟩ (zU k4)).setCell ⟨N3,20,none⟩ (zU o4)).setCell ⟨N3,21,none⟩ (zU ty4)).setCell ⟨N3,22,none⟩ (zI n4)).setCell ⟨N3,23,none⟩ (zU f4)).setCell ⟨N3,24,none⟩ (.string x4)).setCell ⟨N3,25,none⟩ (.slice am4 ks4.length cm4)).setCell ⟨N3,26,none⟩ (zI p4))=Y:=⟨_,rfl⟩
  rw [eYe] at HGee ⊢
  clear eYe ac19 af19 ac20 af20 ac21 af21 ac22 af22 ac23 af23 ac24 af24 ac25 af25 ac26 af26 HGxe
  generalize Value.agg (zN k4 o4 ty4 n4 f4 x4 am4 ks4 cm4 p4)=Dge
  obtain⟨s5,es5⟩:∃ q,dEx (nf ts3)=q:=⟨_,rfl⟩
  rw [es5] at HGee HSE
  clear es5
  have HW2:Hid (Below Ye§ Ye (Ye.alloc (.cells #[.string ZH,.string ZG,.string ZF,.string ZJ] 9))):=Bn _ _
  have hSL:SLs (Ye.alloc (.cells #[.string ZH,.string ZG,.string ZF,.string ZJ] 9)) Ye§ [ZH,ZG,ZF,ZJ]:=fun j hj=>by
   have hh:=Hn Ye (.cells #[.string ZH,.string ZG,.string ZF,.string ZJ] 9)
   match j,hj with
   | 0,_=>exact Co hh 0
   | 1,_=>exact Co hh 1
   | 2,_=>exact Co hh 2
   | 3,_=>exact Co hh 3
  have cA:=any_g HK.out ((HGee.out.S).on HW2.out) (n:=4) (c:=4) hSL rfl (by omega) (by intro x hx; simp only [List.mem_cons,List.not_mem_nil,or_false] at hx; rcases hx with rfl | rfl | rfl | rfl <;> exact⟨by decide +kernel,by decide⟩)
  clear hSL
  obtain⟨u,eu⟩:∃ v,dAny [ZH,ZG,ZF,ZJ] s5=v:=⟨_,rfl⟩
  have hrg2:=dAny_rg [ZH,ZG,ZF,ZJ] s5
  rw [eu] at cA hrg2
  simp only [List.length_cons,List.length_nil] at hrg2
  have EU:Hid (dAny [ZH,ZG,ZF,ZJ] s5=u):=eu
  clear eu
  by_cases hu:u < 0
  ·have hu2:decide (u < 0)=true:=decide_eq_true hu
   have HD:Hid (dAs (dOrd s5)=dWrong 130 s5):=by
    have e1:dOrd s5=dWrong 130 s5:=by
     unfold dOrd
     rw [EU.out,if_neg (by omega)]
    show _=_
    rw [e1,dWrong_as]
   go_wp2_with fail
   refine cA.mono ?_
   rintro e w6 ⟨rfl,hb6⟩
   have HG6:=((HGee.out.on HW2.out).on hb6).hid
   have cW:=wrong_g HG6.out.S 130 (by decide)
   clear cA hb6 HW2 HGee
   go_wp2_with fail
   refine cW.mono ?_
   rintro e w7 ⟨rfl,hs,hm⟩
   have HG7:=(HG6.out.mv hm hs).hid
   clear cW hs hm HG6
   obtain⟨cs,hc1,hc2,hc3⟩:=(HG7.out.B (N3,110,36) (by simp)).1
   obtain⟨old,ho1,ho2,ho3⟩:=(HG7.out.B (w§,110,36) (by simp)).1
   have HC:Hid (w7.heap[N3]? = some (.cells cs 110 (0,0))):=hc1
   have HO:Hid (w7.heap[w§]? = some (.cells old 110 (0,0))):=ho1
   have HF:Hid (GX w b K (w7.setRow w§ cs) _ (dWrong 130 s5)∧(w7.setRow w§ cs).heap[w§]? = some (.cells cs 110 (0,0))):=HG7.out.row (N:=w§) (T:=110) (n:=36) (by simp) cs hc2 hc3
   have HN1:Hid (cs.size=36∧old.size=36∧cs.all (·.oneCell')=true):=⟨hc2,ho2,hc3⟩
   clear hc1 hc2 hc3 ho1 ho2 ho3
   go_wp2_with (first | (refine wpList_load_row rfl 110 (.tmp 3) rfl N3 rfl 110 cs (0,0) _ HC.out Tryz.underlying110 rfl (by rw [HN1.out.1]; exact size110) ?_) | (refine wpList_store_row rfl 110 (.tmp 2) (.tmp 46) rfl w§ cs rfl rfl 110 old HO.out (by rw [HN1.out.1]; exact size110) (by rw [HN1.out.1,HN1.out.2.1]) HN1.out.2.2 ?_))
   exact bodyPost_ret (results_cell_row rfl _ _ w§ 110 cs (0,0) _ rfl HF.out.2 Tryz.underlying110 rfl (by rw [HN1.out.1]; exact size110)) rfl ⟨cs,rfl,HN1.out.1,HN1.out.2.2,by rw [HF0.out,HSE.out,HD.out]; exact HF.out.1.S,HF.out.1.M⟩
  have hu0:0≤u:=by omega
  have hu6:u < 4:=by omega
  have hu2:decide (u < 0)=false:=decide_eq_false hu
  obtain⟨t5,ts5,rfl,et5⟩:=dAny_ok (s:=s5) (L:=[ZH,ZG,ZF,ZJ]) (by rw [EU.out]; exact hu0)
  have HOR:Hid (dOrd (.ok (t5 :: ts5))=nf ts5):=by
   show (if _ then _ else _)=_
   rw [EU.out,if_pos hu0]
   rfl
  clear et5 hrg2 hu
  go_wp2_with fail
  refine cA.mono ?_
  rintro e w6 ⟨rfl,hb6⟩
  have HG6:=((HGee.out.on HW2.out).on hb6).hid
  clear cA hb6 HW2 HGee
  obtain⟨ig,c3,f3,hmx,hL,hM,_,_⟩:=HG6.out.S.2.at'
  obtain⟨Vg,eVg⟩:∃ V,w6.setCell ⟨b,3,none⟩ (zI ((ig:Int)+1))=V:=⟨_,rfl⟩
  rw [eVg] at hL hM
  have HG7:=(HG6.out.mv hM hL.sp).hid
  clear hL hM HG6
  go_upto_region 18 with fail
  try rw [eVg]
  clear eVg c3 f3 hmx
  obtain⟨kv,hkv⟩:∃ kv:Int,∀ h,([zU 1,zU 3,zU 4,zU 5]:List Value)[u.toNat]'h=zU kv:=by
   obtain rfl | rfl | rfl | rfl:u=0∨u=1∨u=2∨u=3:=by omega
   ·exact⟨1,fun h=>rfl⟩
   ·exact⟨3,fun h=>rfl⟩
   ·exact⟨4,fun h=>rfl⟩
   ·exact⟨5,fun h=>rfl⟩
  have HG8:=(HG7.out.on (Bn Vg (.cells #[zU 1,zU 3,zU 4,zU 5] 108))).hid
  have hlt:N3 < Vg§:=(HG7.out.B (N3,110,36) (by simp)).1.lt
  obtain⟨av1,ac1,af1⟩:=(HG7.out.B (N3,110,36) (by simp)).1.cell 1 (show 1 < 36 by omega)
  have HG9:Hid (GX w b K ((Vg.setCell ⟨N3,1,none⟩ (zU kv)).alloc (.cells #[zU 1,zU 3,zU 4,zU 5] 108)) _ (nf ts5)):=(HG7.out.set (N:=N3) (T:=110) (n:=36) (by simp) 1 (zU kv) rfl).on (Bn _ _)
  go_upto_region 19 with fail
  obtain⟨W9,eW9⟩:∃ W,(Vg.setCell ⟨N3,1,none⟩ (zU kv)).alloc (.cells #[zU 1,zU 3,zU 4,zU 5] 108)=W:=⟨_,rfl⟩
  rw [eW9] at HG9 ⊢
  clear eW9 ac1 af1 hlt HG7 HG8 hkv
  obtain⟨s6,es6⟩:∃ q,nf ts5=q:=⟨_,rfl⟩
  rw [es6] at HG9 HOR
  clear es6
  have cI:=is_g HK.out HG9.out.S ZR (by decide +kernel) (by decide)
  obtain⟨q6,eq6⟩:∃ q,dIs ZR s6=q:=⟨_,rfl⟩
  have HQ6:Hid (dIs ZR s6=q6):=eq6
  rw [eq6] at cI
  clear eq6
  cases q6 with
  | false =>
   have HDA:Hid (dAs s6=s6):=by show (if _ then _ else _)=_; rw [HQ6.out]; rfl
   go_wp2_with fail
   refine cI.mono ?_
   rintro e z1 ⟨rfl,hb⟩
   have HZ1:=(HG9.out.on hb).hid
   clear cI hb HG9
   obtain⟨cs,hc1,hc2,hc3⟩:=(HZ1.out.B (N3,110,36) (by simp)).1
   obtain⟨old,ho1,ho2,ho3⟩:=(HZ1.out.B (w§,110,36) (by simp)).1
   have HC:Hid (z1.heap[N3]? = some (.cells cs 110 (0,0))):=hc1
   have HO:Hid (z1.heap[w§]? = some (.cells old 110 (0,0))):=ho1
   have HF:Hid (GX w b K (z1.setRow w§ cs) _ s6∧(z1.setRow w§ cs).heap[w§]? = some (.cells cs 110 (0,0))):=HZ1.out.row (N:=w§) (T:=110) (n:=36) (by simp) cs hc2 hc3
   have HN1:Hid (cs.size=36∧old.size=36∧cs.all (·.oneCell')=true):=⟨hc2,ho2,hc3⟩
   clear hc1 hc2 hc3 ho1 ho2 ho3
   go_wp2_with (first | (refine wpList_load_row rfl 110 (.tmp 3) rfl N3 rfl 110 cs (0,0) _ HC.out Tryz.underlying110 rfl (by rw [HN1.out.1]; exact size110) ?_) | (refine wpList_store_row rfl 110 (.tmp 2) (.tmp 72) rfl w§ cs rfl rfl 110 old HO.out (by rw [HN1.out.1]; exact size110) (by rw [HN1.out.1,HN1.out.2.1]) HN1.out.2.2 ?_))
   exact bodyPost_ret (results_cell_row rfl _ _ w§ 110 cs (0,0) _ rfl HF.out.2 Tryz.underlying110 rfl (by rw [HN1.out.1]; exact size110)) rfl ⟨cs,rfl,HN1.out.1,HN1.out.2.2,by rw [HF0.out,HSE.out,HOR.out,HDA.out]; exact HF.out.1.S,HF.out.1.M⟩
  | true =>
   obtain⟨t6,ts6,e6,hx6⟩:=dIs_ok HQ6.out
   have HDA:Hid (dAs s6=dName (nf ts6)):=by show (if _ then _ else _)=_; rw [HQ6.out,e6]; rfl
   have HE6:Hid (s6=.ok (t6 :: ts6)):=e6
   clear e6 hx6
   go_wp2_with fail
   refine cI.mono ?_
   rintro e z1 ⟨rfl,hb⟩
   have HZ1:=(HG9.out.on hb).hid
   have hlv:Lv z1 b K (t6 :: ts6):=by
    have h1:=HZ1.out.S
    rw [HE6.out] at h1
    exact h1.2
   clear cI hb HG9
   obtain⟨iz,c3,f3,hmx,hL,hM,_,_⟩:=hlv.at'
   obtain⟨Vz,eVz⟩:∃ V,z1.setCell ⟨b,3,none⟩ (zI ((iz:Int)+1))=V:=⟨_,rfl⟩
   rw [eVz] at hL hM
   have HZ2:=(HZ1.out.mv hM hL.sp).hid
   clear hL hM HZ1
   go_upto_region 22 with fail
   try rw [eVz]
   clear eVz c3 f3 hmx
   have cN:=name_g HZ2.out.S
   clear hlv
   go_wp2_with fail
   refine cN.mono ?_
   rintro e z3 ⟨⟨x3n,rfl⟩,hs,hm⟩
   have HZ3:=(HZ2.out.mv hm hs).hid
   clear cN hs hm HZ2
   obtain⟨av2,ac2,af2⟩:=(HZ3.out.B (N3,110,36) (by simp)).1.cell 2 (show 2 < 36 by omega)
   have HGsz:Hid (GX w b K (z3.setCell ⟨N3,2,none⟩ (.string x3n)) _ (dName (nf ts6))):=HZ3.out.set (N:=N3) (T:=110) (n:=36) (by simp) 2 (.string x3n) rfl
   go_upto_region 23 with fail
   obtain⟨Xz,eXz⟩:∃ Y,z3.setCell ⟨N3,2,none⟩ (.string x3n)=Y:=⟨_,rfl⟩
   rw [eXz] at HGsz ⊢
   clear eXz ac2 af2 HZ3
   obtain⟨cs,hc1,hc2,hc3⟩:=(HGsz.out.B (N3,110,36) (by simp)).1
   obtain⟨old,ho1,ho2,ho3⟩:=(HGsz.out.B (w§,110,36) (by simp)).1
   have HC:Hid (Xz.heap[N3]? = some (.cells cs 110 (0,0))):=hc1
   have HO:Hid (Xz.heap[w§]? = some (.cells old 110 (0,0))):=ho1
   have HF:Hid (GX w b K (Xz.setRow w§ cs) _ (dName (nf ts6))∧(Xz.setRow w§ cs).heap[w§]? = some (.cells cs 110 (0,0))):=HGsz.out.row (N:=w§) (T:=110) (n:=36) (by simp) cs hc2 hc3
   have HN1:Hid (cs.size=36∧old.size=36∧cs.all (·.oneCell')=true):=⟨hc2,ho2,hc3⟩
   clear hc1 hc2 hc3 ho1 ho2 ho3
   go_wp2_with (first | (refine wpList_load_row rfl 110 (.tmp 3) rfl N3 rfl 110 cs (0,0) _ HC.out Tryz.underlying110 rfl (by rw [HN1.out.1]; exact size110) ?_) | (refine wpList_store_row rfl 110 (.tmp 2) (.tmp 72) rfl w§ cs rfl rfl 110 old HO.out (by rw [HN1.out.1]; exact size110) (by rw [HN1.out.1,HN1.out.2.1]) HN1.out.2.2 ?_))
   exact bodyPost_ret (results_cell_row rfl _ _ w§ 110 cs (0,0) _ rfl HF.out.2 Tryz.underlying110 rfl (by rw [HN1.out.1]; exact size110)) rfl ⟨cs,rfl,HN1.out.1,HN1.out.2.2,by rw [HF0.out,HSE.out,HOR.out,HDA.out]; exact HF.out.1.S,HF.out.1.M⟩
 ·have hv0':v=0:=by omega
  subst hv0'
  have HSE:Hid (dSel (.ok (t3 :: ts3))=nf ts3):=by
   show (if _ then _ else _)=_
   rw [EV.out,if_pos rfl]
   rfl
  obtain⟨s6,es6⟩:∃ q,nf ts3=q:=⟨_,rfl⟩
  rw [es6] at HGsd HSE
  clear es6
  have cI:=is_g HK.out HGsd.out.S ZR (by decide +kernel) (by decide)
  obtain⟨q6,eq6⟩:∃ q,dIs ZR s6=q:=⟨_,rfl⟩
  have HQ6:Hid (dIs ZR s6=q6):=eq6
  rw [eq6] at cI
  clear eq6
  cases q6 with
  | false =>
   have HDA:Hid (dAs s6=s6):=by show (if _ then _ else _)=_; rw [HQ6.out]; rfl
   go_wp2_with fail
   refine cI.mono ?_
   rintro e z1 ⟨rfl,hb⟩
   have HZ1:=(HGsd.out.on hb).hid
   clear cI hb HGsd
   obtain⟨cs,hc1,hc2,hc3⟩:=(HZ1.out.B (N3,110,36) (by simp)).1
   obtain⟨old,ho1,ho2,ho3⟩:=(HZ1.out.B (w§,110,36) (by simp)).1
   have HC:Hid (z1.heap[N3]? = some (.cells cs 110 (0,0))):=hc1
   have HO:Hid (z1.heap[w§]? = some (.cells old 110 (0,0))):=ho1
   have HF:Hid (GX w b K (z1.setRow w§ cs) _ s6∧(z1.setRow w§ cs).heap[w§]? = some (.cells cs 110 (0,0))):=HZ1.out.row (N:=w§) (T:=110) (n:=36) (by simp) cs hc2 hc3
   have HN1:Hid (cs.size=36∧old.size=36∧cs.all (·.oneCell')=true):=⟨hc2,ho2,hc3⟩
   clear hc1 hc2 hc3 ho1 ho2 ho3
   go_wp2_with (first | (refine wpList_load_row rfl 110 (.tmp 3) rfl N3 rfl 110 cs (0,0) _ HC.out Tryz.underlying110 rfl (by rw [HN1.out.1]; exact size110) ?_) | (refine wpList_store_row rfl 110 (.tmp 2) (.tmp 72) rfl w§ cs rfl rfl 110 old HO.out (by rw [HN1.out.1]; exact size110) (by rw [HN1.out.1,HN1.out.2.1]) HN1.out.2.2 ?_))
   exact bodyPost_ret (results_cell_row rfl _ _ w§ 110 cs (0,0) _ rfl HF.out.2 Tryz.underlying110 rfl (by rw [HN1.out.1]; exact size110)) rfl ⟨cs,rfl,HN1.out.1,HN1.out.2.2,by rw [HF0.out,HSE.out,HDA.out]; exact HF.out.1.S,HF.out.1.M⟩
  | true =>
   obtain⟨t6,ts6,e6,hx6⟩:=dIs_ok HQ6.out
   have HDA:Hid (dAs s6=dName (nf ts6)):=by show (if _ then _ else _)=_; rw [HQ6.out,e6]; rfl
   have HE6:Hid (s6=.ok (t6 :: ts6)):=e6
   clear e6 hx6
   go_wp2_with fail
   refine cI.mono ?_
   rintro e z1 ⟨rfl,hb⟩
   have HZ1:=(HGsd.out.on hb).hid
   have hlv:Lv z1 b K (t6 :: ts6):=by
    have h1:=HZ1.out.S
    rw [HE6.out] at h1
    exact h1.2
   clear cI hb HGsd
   obtain⟨iz,c3,f3,hmx,hL,hM,_,_⟩:=hlv.at'
   obtain⟨Vz,eVz⟩:∃ V,z1.setCell ⟨b,3,none⟩ (zI ((iz:Int)+1))=V:=⟨_,rfl⟩
   rw [eVz] at hL hM
   have HZ2:=(HZ1.out.mv hM hL.sp).hid
   clear hL hM HZ1
   go_upto_region 22 with fail
   try rw [eVz]
   clear eVz c3 f3 hmx
   have cN:=name_g HZ2.out.S
   clear hlv
   go_wp2_with fail
   refine cN.mono ?_
   rintro e z3 ⟨⟨x3n,rfl⟩,hs,hm⟩
   have HZ3:=(HZ2.out.mv hm hs).hid
   clear cN hs hm HZ2
   obtain⟨av2,ac2,af2⟩:=(HZ3.out.B (N3,110,36) (by simp)).1.cell 2 (show 2 < 36 by omega)
   have HGsz:Hid (GX w b K (z3.setCell ⟨N3,2,none⟩ (.string x3n)) _ (dName (nf ts6))):=HZ3.out.set (N:=N3) (T:=110) (n:=36) (by simp) 2 (.string x3n) rfl
   go_upto_region 23 with fail
   obtain⟨Xz,eXz⟩:∃ Y,z3.setCell ⟨N3,2,none⟩ (.string x3n)=Y:=⟨_,rfl⟩
   rw [eXz] at HGsz ⊢
   clear eXz ac2 af2 HZ3
   obtain⟨cs,hc1,hc2,hc3⟩:=(HGsz.out.B (N3,110,36) (by simp)).1
   obtain⟨old,ho1,ho2,ho3⟩:=(HGsz.out.B (w§,110,36) (by simp)).1
   have HC:Hid (Xz.heap[N3]? = some (.cells cs 110 (0,0))):=hc1
   have HO:Hid (Xz.heap[w§]? = some (.cells old 110 (0,0))):=ho1
   have HF:Hid (GX w b K (Xz.setRow w§ cs) _ (dName (nf ts6))∧(Xz.setRow w§ cs).heap[w§]? = some (.cells cs 110 (0,0))):=HGsz.out.row (N:=w§) (T:=110) (n:=36) (by simp) cs hc2 hc3
   have HN1:Hid (cs.size=36∧old.size=36∧cs.all (·.oneCell')=true):=⟨hc2,ho2,hc3⟩
   clear hc1 hc2 hc3 ho1 ho2 ho3
   go_wp2_with (first | (refine wpList_load_row rfl 110 (.tmp 3) rfl N3 rfl 110 cs (0,0) _ HC.out Tryz.underlying110 rfl (by rw [HN1.out.1]; exact size110) ?_) | (refine wpList_store_row rfl 110 (.tmp 2) (.tmp 72) rfl w§ cs rfl rfl 110 old HO.out (by rw [HN1.out.1]; exact size110) (by rw [HN1.out.1,HN1.out.2.1]) HN1.out.2.2 ?_))
   exact bodyPost_ret (results_cell_row rfl _ _ w§ 110 cs (0,0) _ rfl HF.out.2 Tryz.underlying110 rfl (by rw [HN1.out.1]; exact size110)) rfl ⟨cs,rfl,HN1.out.1,HN1.out.2.2,by rw [HF0.out,HSE.out,HDA.out]; exact HF.out.1.S,HF.out.1.M⟩
end Go.Proofs.YtkfabnchhjfjjaaGreatDoor
