import Derived.Test.YtkfabnchhjfjjaaGreatDoorA0
import Derived.Test.YtkfabnchhjfjjaaGreatDoorA19
import Derived.Laws.Rows
namespace Go.Proofs.YtkfabnchhjfjjaaGreatDoor
set_option maxRecDepth 100000
set_option maxHeartbeats 4000000
open Go.RowKit
set_option linter.unusedVariables false
theorem size100:(Tryz.prog.info? 100).map (·.size)=some 11:=by kernel_rfl
def dTy:St→St
 | .ok (t :: ts)=>if 0≤fnd t.x [Ze,Zg,Zf,Zh,ZB,ZD] 0 then nf ts else .error (.tok 130 t.p)
 | .ok []=>.error .lex
 | .error f=>.error f
def dLit:St→St
 | .ok (t :: ts)=>if (valT t).1≠0 then nf ts else .error (.tok 130 t.p)
 | .ok []=>.error .lex
 | .error f=>.error f
def dNum:St→St
 | .ok (t :: ts)=>if t.k=3 then .ok (t :: ts) else .error (.tok 130 t.p)
 | .ok []=>.error .lex
 | .error f=>.error f
def dMin (s:St):St:=if dIs Zc s=true then dNum (dStep s) else s
def dReg (s:St):St:=dTake Zr (dLit (dMin (dTake Zv (dTy (dName (dTake Zu s))))))
theorem lit_g {w:World}{b:Nat}{K:PK}{s:St}(hK:KG K) (h:Sp w b K s) :
  Calls zG 111 #[zP b] w fun e w'=>∃ m:Nd,∃ is,e=.returned (.tuple #[.agg m.vals,.bool is])∧(if is=true then Sp w' b K (dLit s) else (Sp w' b K s∧dLit s=dWrong 130 s))∧Mv w w' (fun k=>k=b):=by
 have no:∀ {e:Ending}{w':World},e=.returned (.tuple #[.agg nul8,.bool false])∧Below w§ w w'→dLit s=dWrong 130 s→∃ m:Nd,∃ is,e=.returned (.tuple #[.agg m.vals,.bool is])∧(if is=true then Sp w' b K (dLit s) else (Sp w' b K s∧dLit s=dWrong 130 s))∧Mv w w' (fun k=>k=b):=by
  rintro e w' ⟨rfl,hb⟩ hd
  exact⟨nd0,false,rfl,⟨h.on hb,hd⟩,Mv.ofBelow hb⟩
 cases s with
 | error f=>exact (lit_dead h).mono fun e w' he=>no he rfl
 | ok ts =>
  obtain⟨hne,hl⟩:=h
  cases ts with
  | nil=>exact absurd rfl hne
  | cons t ts =>
   by_cases hv:(valT t).1=0
   ·exact (literal_no hl (hl.ok hK.k) hv).mono fun e w' he=>no he (if_neg (fun c=>c hv))
   ·refine (literal_ok hl (hl.ok hK.k) hv).mono ?_
    rintro e w' ⟨rfl,h1,h2⟩
    refine⟨litN t,true,rfl,?_,h2⟩
    show Sp w' b K (if (valT t).1≠0 then nf ts else _)
    rw [if_pos hv]
    exact h1.sp
theorem reg_g {w : World} {b : Nat} {K : PK} {s : St} (hK : KG K) (h : Sp w b K s) : Calls zG 78 #[.pointer (some ⟨b, 0, none⟩)] w (OutG 11 b K w (dReg s)) := by
 have HK:Hid (KG K):=hK
 have HG0:=(GX.new h zA3 100 11 rfl (by simp [Value.oneCell'])).hid
 clear h hK
 obtain⟨W0,eW0⟩:∃ W,w.alloc (.cells zA3 100)=W:=⟨_,rfl⟩
 rw [eW0] at HG0
 have cT:=take_g HK.out HG0.out.S Zu (by decide +kernel) (by decide)
 obtain⟨r0,er0⟩:∃ q,dReg s=q:=⟨_,rfl⟩
 have HR0:Hid (dReg s=r0):=er0
 rw [er0]
 clear er0
 obtain⟨s1,es1⟩:∃ q,dTake Zu s=q:=⟨_,rfl⟩
 have HS1:Hid (dTake Zu s=s1):=es1
 rw [es1] at cT
 clear es1
 go_enter Tryz.func78,Tryz.ntmps78
 go_wp2_with fail
 try rw [eW0]
 refine cT.mono ?_
 rintro e w1 ⟨⟨p1,rfl⟩,hs,hm⟩
 have HG1:=((HG0.out.mv hm hs).push #[.string ⟨#[]⟩,zU 0,zU 0,zU 0,zU 0,zI 0,zU 0,.string ⟨#[]⟩,.slice none 0 0,zI 0,zI p1] 100 11 rfl (by simp [Value.oneCell'])).hid
 clear cT hs hm HG0 eW0
 go_upto_region 2 with fail
 obtain⟨N3,eN3⟩:∃ q,w1§=q:=⟨_,rfl⟩
 obtain⟨W1,eW1⟩:∃ W,w1.alloc (.cells #[.string ⟨#[]⟩,zU 0,zU 0,zU 0,zU 0,zI 0,zU 0,.string ⟨#[]⟩,.slice none 0 0,zI 0,zI p1] 100)=W:=⟨_,rfl⟩
 rw [eW1] at HG1 ⊢
 rw [eN3] at HG1 ⊢
 clear eW1 eN3
 have cN:=name_g HG1.out.S
 obtain⟨s2,es2⟩:∃ q,dName s1=q:=⟨_,rfl⟩
 have HS2:Hid (dName s1=s2):=es2
 rw [es2] at cN
 clear es2
 go_wp2_with fail
 refine cN.mono ?_
 rintro e w2 ⟨⟨x1,rfl⟩,hs,hm⟩
 have HG2:=(HG1.out.mv hm hs).hid
 obtain⟨v0,c0,f0⟩:=(HG2.out.B (N3,100,11) (by simp)).1.cell 0 (show 0 < 11 by omega)
 have HG3:=(HG2.out.set (N:=N3) (T:=100) (n:=11) (by simp) 0 (.string x1) rfl).hid
 clear cN hs hm HG1
 go_upto_region 3 with fail
 obtain⟨W3,eW3⟩:∃ W,w2.setCell ⟨N3,0,none⟩ (.string x1)=W:=⟨_,rfl⟩
 rw [eW3] at HG3 ⊢
 clear eW3 HG2 c0 f0
 have HW:Hid (Below W3§ W3 (W3.alloc (.cells #[.string Ze,.string Zg,.string Zf,.string Zh,.string ZB,.string ZD] 9))):=Bn _ _
 have hSL:SLs (W3.alloc (.cells #[.string Ze,.string Zg,.string Zf,.string Zh,.string ZB,.string ZD] 9)) W3§ [Ze,Zg,Zf,Zh,ZB,ZD]:=fun j hj=>by
  have hh:=Hn W3 (.cells #[.string Ze,.string Zg,.string Zf,.string Zh,.string ZB,.string ZD] 9)
  match j,hj with
  | 0,_=>exact Co hh 0
  | 1,_=>exact Co hh 1
  | 2,_=>exact Co hh 2
  | 3,_=>exact Co hh 3
  | 4,_=>exact Co hh 4
  | 5,_=>exact Co hh 5
 have cA:=any_g HK.out ((HG3.out.S).on HW.out) (n:=6) (c:=6) hSL rfl (by omega) (by intro x hx; simp only [List.mem_cons,List.not_mem_nil,or_false] at hx; rcases hx with rfl | rfl | rfl | rfl | rfl | rfl <;> exact⟨by decide +kernel,by decide⟩)
 clear hSL
 obtain⟨v,ev⟩:∃ v,dAny [Ze,Zg,Zf,Zh,ZB,ZD] s2=v:=⟨_,rfl⟩
 have hrg:=dAny_rg [Ze,Zg,Zf,Zh,ZB,ZD] s2
 rw [ev] at cA hrg
 simp only [List.length_cons,List.length_nil] at hrg
 have EV:Hid (dAny [Ze,Zg,Zf,Zh,ZB,ZD] s2=v):=ev
 clear ev
 by_cases hv:v < 0
 ·have hv2:decide (v < 0)=true:=decide_eq_true hv
  have HD:Hid (dTy s2=dWrong 130 s2):=by
   have h1:=EV.out
   match s2,h1 with
   | .ok (t :: ts),h1=>exact if_neg (by have h1:fnd t.x [Ze,Zg,Zf,Zh,ZB,ZD] 0=v:=h1; omega)
   | .ok [],_=>rfl
   | .error f,_=>rfl
  go_wp2_with fail
  refine cA.mono ?_
  rintro e w4 ⟨rfl,hb4⟩
  have HG4:=((HG3.out.on HW.out).on hb4).hid
  have cW:=wrong_g HG4.out.S 130 (by decide)
  clear cA hb4 HW HG3
  go_wp2_with fail
  refine cW.mono ?_
  rintro e w5 ⟨rfl,hs,hm⟩
  have HG5:=(HG4.out.mv hm hs).hid
  have HDD:Hid (dWrong 130 s2=dTake Zr (dLit (dMin (dTake Zv (dTy s2))))):=by
   show _=_
   rw [HD.out]
   match s2 with
   | .ok (t :: ts)=>rfl
   | .ok []=>rfl
   | .error f=>rfl
  rw [HDD.out] at HG5
  clear cW hs hm HG4
  obtain⟨cs,hc1,hc2,hc3⟩:=(HG5.out.B (N3,100,11) (by simp)).1
  obtain⟨old,ho1,ho2,ho3⟩:=(HG5.out.B (w§,100,11) (by simp)).1
  have HC:Hid (w5.heap[N3]? = some (.cells cs 100 (0,0))):=hc1
  have HO:Hid (w5.heap[w§]? = some (.cells old 100 (0,0))):=ho1
  have HF:Hid (GX w b K (w5.setRow w§ cs) _ (dTake Zr (dLit (dMin (dTake Zv (dTy s2)))))∧(w5.setRow w§ cs).heap[w§]? = some (.cells cs 100 (0,0))):=HG5.out.row (N:=w§) (T:=100) (n:=11) (by simp) cs hc2 hc3
  have HN1:Hid (cs.size=11∧old.size=11∧cs.all (·.oneCell')=true):=⟨hc2,ho2,hc3⟩
  clear hc1 hc2 hc3 ho1 ho2 ho3
  go_wp2_with (first | (refine wpList_load_row rfl 100 (.tmp 3) rfl N3 rfl 100 cs (0,0) _ HC.out Tryz.underlying100 rfl (by rw [HN1.out.1]; exact size100) ?_) | (refine wpList_store_row rfl 100 (.tmp 2) (.tmp 22) rfl w§ cs rfl rfl 100 old HO.out (by rw [HN1.out.1]; exact size100) (by rw [HN1.out.1,HN1.out.2.1]) HN1.out.2.2 ?_))
  exact bodyPost_ret (results_cell_row rfl _ _ w§ 100 cs (0,0) _ rfl HF.out.2 Tryz.underlying100 rfl (by rw [HN1.out.1]; exact size100)) rfl ⟨cs,rfl,HN1.out.1,HN1.out.2.2,by rw [← HR0.out,dReg,HS1.out,HS2.out]; exact HF.out.1.S,HF.out.1.M⟩
 have hv0:0≤v:=by omega
 have hv6:v < 6:=by omega
 have hv2:decide (v < 0)=false:=decide_eq_false hv
 obtain⟨t3,ts3,rfl,et3⟩:∃ t ts,s2=.ok (t :: ts)∧fnd t.x [Ze,Zg,Zf,Zh,ZB,ZD] 0=v:=by
  obtain⟨t,ts,h1,h2⟩:=dAny_ok (s:=s2) (L:=[Ze,Zg,Zf,Zh,ZB,ZD]) (by rw [EV.out]; exact hv0)
  exact⟨t,ts,h1,h2.trans EV.out⟩
 have HD:Hid (dTy (.ok (t3 :: ts3))=nf ts3):=if_pos (by rw [et3]; exact hv0)
 clear et3 hrg hv EV
 go_wp2_with fail
 refine cA.mono ?_
 rintro e w4 ⟨rfl,hb4⟩
 have HG4:=((HG3.out.on HW.out).on hb4).hid
 obtain⟨i,c3,f3,hmx,hL,hM,_,_⟩:=HG4.out.S.2.at'
 obtain⟨V,eV⟩:∃ V,w4.setCell ⟨b,3,none⟩ (zI ((i:Int)+1))=V:=⟨_,rfl⟩
 rw [eV] at hL hM
 have HG5:=(HG4.out.mv hM hL.sp).hid
 obtain⟨v1,c1,f1⟩:=(HG5.out.B (N3,100,11) (by simp)).1.cell 1 (show 1 < 11 by omega)
 have HG6:=(HG5.out.set (N:=N3) (T:=100) (n:=11) (by simp) 1 (zU (1+v)) rfl).hid
 clear cA hb4 HW HG3 hL hM HG4
 go_upto_region 8 with fail
 try rw [eV]
 clear eV c3 f3 hmx
 go_upto_region 9 with fail
 obtain⟨W6,eW6⟩:∃ W,V.setCell ⟨N3,1,none⟩ (zU (1+v))=W:=⟨_,rfl⟩
 rw [eW6] at HG6 ⊢
 clear eW6 c1 f1 HG5
 have cT:=take_g HK.out HG6.out.S Zv (by decide +kernel) (by decide)
 obtain⟨s4,es4⟩:∃ q,dTake Zv (nf ts3)=q:=⟨_,rfl⟩
 have HS4:Hid (dTake Zv (nf ts3)=s4):=es4
 rw [es4] at cT
 clear es4
 go_wp2_with fail
 refine cT.mono ?_
 rintro e w7 ⟨⟨p7,rfl⟩,hs,hm⟩
 have HG7:=(HG6.out.mv hm hs).hid
 have cN:=now_g HG7.out.S
 have hf:=fun v=>field82_4 (hdT s4) v
 clear cT hs hm HG6
 go_wp2_with fail
 refine cN.mono ?_
 rintro e w8 ⟨rfl,hb8⟩
 have HG8:=(HG7.out.on hb8).hid
 have cI:=is_g HK.out HG8.out.S Zc (by decide +kernel) (by decide)
 obtain⟨mi,emi⟩:∃ q,dIs Zc s4=q:=⟨_,rfl⟩
 have HMI:Hid (dIs Zc s4=mi):=emi
 rw [emi] at cI
 clear cN hb8 HG7 emi
 cases mi with
 | false =>
  have HDM:Hid (dMin s4=s4):=by show (if _ then _ else _)=_; rw [HMI.out]; rfl
  go_wp2_with fail
  refine cI.mono ?_
  rintro e w9 ⟨rfl,hb9⟩
  have HG9:=(HG8.out.on hb9).hid
  have cL:=lit_g HK.out HG9.out.S
  clear cI hb9 HG8
  go_wp2_with fail
  refine cL.mono ?_
  rintro e w10 ⟨⟨⟨k2,o2,ty2,n2,f2,x2,p2⟩,am2,cm2,ks2⟩,is,rfl,hh,hm⟩
  simp only [Nd.vals,Nd.h,Nd.a,Nd.c,Nd.ks,hdA]
  cases is with
  | true =>
   have hh:Sp w10 b K (dLit s4):=hh
   have HG10:=((HG9.out.mv hm hh).push (zN k2 o2 ty2 n2 f2 x2 am2 ks2 cm2 p2) 64 8 rfl (by simp [Value.oneCell'])).hid
   have hN:=Hn w10 (.cells (zN k2 o2 ty2 n2 f2 x2 am2 ks2 cm2 p2) 64)
   clear cL hh hm HG9
   go_upto_region 20 with fail
   obtain⟨Q,eQ⟩:∃ q,w10§=q:=⟨_,rfl⟩
   obtain⟨W,eW⟩:∃ W,w10.alloc (.cells (zN k2 o2 ty2 n2 f2 x2 am2 ks2 cm2 p2) 64)=W:=⟨_,rfl⟩
   rw [eW,eQ] at HG10 hN
   rw [eW,eQ]
   clear eW eQ
   have HQ:Hid (W.heap[Q]? = some (.cells (zN k2 o2 ty2 n2 f2 x2 am2 ks2 cm2 p2) 64 (0,0))):=hN
   clear hN
   obtain⟨x0',x1',x2',x3',x4',x5',x6',x7'⟩:=cl8 HQ.out
   obtain⟨av2,ac2,af2⟩:=(HG10.out.B (N3,100,11) (by simp)).1.cell 2 (show 2 < 11 by omega)
   obtain⟨av3,ac3,af3⟩:=(HG10.out.B (N3,100,11) (by simp)).1.cell 3 (show 3 < 11 by omega)
   obtain⟨av4,ac4,af4⟩:=(HG10.out.B (N3,100,11) (by simp)).1.cell 4 (show 4 < 11 by omega)
   obtain⟨av5,ac5,af5⟩:=(HG10.out.B (N3,100,11) (by simp)).1.cell 5 (show 5 < 11 by omega)
   obtain⟨av6,ac6,af6⟩:=(HG10.out.B (N3,100,11) (by simp)).1.cell 6 (show 6 < 11 by omega)
   obtain⟨av7,ac7,af7⟩:=(HG10.out.B (N3,100,11) (by simp)).1.cell 7 (show 7 < 11 by omega)
   obtain⟨av8,ac8,af8⟩:=(HG10.out.B (N3,100,11) (by simp)).1.cell 8 (show 8 < 11 by omega)
   obtain⟨av9,ac9,af9⟩:=(HG10.out.B (N3,100,11) (by simp)).1.cell 9 (show 9 < 11 by omega)
   have HH1:Hid (GX w b K ((((((((W.setCell ⟨N3,2,none⟩ (zU k2)).setCell ⟨N3,3,none⟩ (zU o2)).setCell ⟨N3,4,none⟩ (zU ty2)).setCell ⟨N3,5,none⟩ (zI n2)).setCell ⟨N3,6,none⟩ (zU f2)).setCell ⟨N3,7,none⟩ (.string x2)).setCell ⟨N3,8,none⟩ (.slice am2 ks2.length cm2)).setCell ⟨N3,9,none⟩ (zI p2)) _ (dLit s4)):=HG10.out.node (N:=N3) (T:=100) (n:=11) (by simp) 2 (Nd.mk ⟨k2,o2,ty2,n2,f2,x2,p2⟩ am2 cm2 ks2)
   have HQ1:Hid (((((((((W.setCell ⟨N3,2,none⟩ (zU k2)).setCell ⟨N3,3,none⟩ (zU o2)).setCell ⟨N3,4,none⟩ (zU ty2)).setCell ⟨N3,5,none⟩ (zI n2)).setCell ⟨N3,6,none⟩ (zU f2)).setCell ⟨N3,7,none⟩ (.string x2)).setCell ⟨N3,8,none⟩ (.slice am2 ks2.length cm2)).setCell ⟨N3,9,none⟩ (zI p2)).heap[Q]? = some (.cells (zN k2 o2 ty2 n2 f2 x2 am2 ks2 cm2 p2) 64 (0,0))):=by
    have hne:Q≠N3:=fun e=>by
     have h1:=HQ.out
     obtain⟨cs,h2,_,_⟩:=(HG10.out.B (N3,100,11) (by simp)).1
     rw [e,h2] at h1
     cases h1
    iterate 8 (refine (Below.heap_setCell _ _ _ _ (show Q≠N3 from hne)).trans ?_)
    exact HQ.out
   clear HG10
   go_upto_region 21 with fail
   obtain⟨Y1,eY1⟩:∃ Y,((((((((W.setCell ⟨N3,2,none⟩ (zU k2)).setCell ⟨N3,3,none⟩ (zU o2)).setCell ⟨N3,4,none⟩ (zU ty2)).setCell ⟨N3,5,none⟩ (zI n2)).setCell ⟨N3,6,none⟩ (zU f2)).setCell ⟨N3,7,none⟩ (.string x2)).setCell ⟨N3,8,none⟩ (.slice am2 ks2.length cm2)).setCell ⟨N3,9,none⟩ (zI p2))=Y:=⟨_,rfl⟩
   rw [eY1] at HH1 HQ1 ⊢
   clear eY1 ac2 af2 ac3 af3 ac4 af4 ac5 af5 ac6 af6 ac7 af7 ac8 af8 ac9 af9 x0' x1' x2' x3' x4' x5' x6' x7' HQ
   have cT:=take_g HK.out HH1.out.S Zr (by decide +kernel) (by decide)
   go_wp2_with fail
   refine cT.mono ?_
   rintro e w12 ⟨⟨p12,rfl⟩,hs,hm⟩
   have HG12:=(HH1.out.mv hm hs).hid
   clear cT hs hm HH1
   obtain⟨cs,hc1,hc2,hc3⟩:=(HG12.out.B (N3,100,11) (by simp)).1
   obtain⟨old,ho1,ho2,ho3⟩:=(HG12.out.B (w§,100,11) (by simp)).1
   have HC:Hid (w12.heap[N3]? = some (.cells cs 100 (0,0))):=hc1
   have HO:Hid (w12.heap[w§]? = some (.cells old 100 (0,0))):=ho1
   have HF:Hid (GX w b K (w12.setRow w§ cs) _ (dTake Zr (dLit s4))∧(w12.setRow w§ cs).heap[w§]? = some (.cells cs 100 (0,0))):=HG12.out.row (N:=w§) (T:=100) (n:=11) (by simp) cs hc2 hc3
   have HN1:Hid (cs.size=11∧old.size=11∧cs.all (·.oneCell')=true):=⟨hc2,ho2,hc3⟩
   clear hc1 hc2 hc3 ho1 ho2 ho3
   go_wp2_with (first | (refine wpList_load_row rfl 100 (.tmp 3) rfl N3 rfl 100 cs (0,0) _ HC.out Tryz.underlying100 rfl (by rw [HN1.out.1]; exact size100) ?_) | (refine wpList_store_row rfl 100 (.tmp 2) (.tmp 75) rfl w§ cs rfl rfl 100 old HO.out (by rw [HN1.out.1]; exact size100) (by rw [HN1.out.1,HN1.out.2.1]) HN1.out.2.2 ?_))
   exact bodyPost_ret (results_cell_row rfl _ _ w§ 100 cs (0,0) _ rfl HF.out.2 Tryz.underlying100 rfl (by rw [HN1.out.1]; exact size100)) rfl ⟨cs,rfl,HN1.out.1,HN1.out.2.2,by rw [← HR0.out,dReg,HS1.out,HS2.out,HD.out,HS4.out,HDM.out]; exact HF.out.1.S,HF.out.1.M⟩
  | false =>
   obtain⟨h1,h2⟩:Sp w10 b K s4∧dLit s4=dWrong 130 s4:=hh
   have HDW:Hid (dLit s4=dWrong 130 s4):=h2
   have HG10:=((HG9.out.mv hm h1).push (zN k2 o2 ty2 n2 f2 x2 am2 ks2 cm2 p2) 64 8 rfl (by simp [Value.oneCell'])).hid
   have hN:=Hn w10 (.cells (zN k2 o2 ty2 n2 f2 x2 am2 ks2 cm2 p2) 64)
   have cW:=wrong_g HG10.out.S 130 (by decide)
   rw [← HDW.out] at cW
   clear cL h1 h2 hm HG9
   go_wp2_with fail
   refine cW.mono ?_
   rintro e w11 ⟨rfl,hs,hm⟩
   have HG11:=(HG10.out.mv hm hs).hid
   obtain⟨Q,eQ⟩:∃ q,w10§=q:=⟨_,rfl⟩
   have HQ:Hid (w11.heap[Q]? = some (.cells (zN k2 o2 ty2 n2 f2 x2 am2 ks2 cm2 p2) 64 (0,0))):=by
    show _=_
    rw [← eQ]
    have h3:=(HG10.out.B (w10§,64,8) (by simp)).1.lt
    have h4:w§≤w10§:=(HG10.out.B (w10§,64,8) (by simp)).2
    have h5:=HG10.out.W.1
    exact (hm.block _ h3 (by omega)).trans hN
   rw [eQ] at HG11
   clear cW hs hm HG10 hN
   go_upto_region 20 with fail
   try rw [eQ]
   clear eQ
   obtain⟨x0',x1',x2',x3',x4',x5',x6',x7'⟩:=cl8 HQ.out
   obtain⟨av2,ac2,af2⟩:=(HG11.out.B (N3,100,11) (by simp)).1.cell 2 (show 2 < 11 by omega)
   obtain⟨av3,ac3,af3⟩:=(HG11.out.B (N3,100,11) (by simp)).1.cell 3 (show 3 < 11 by omega)
   obtain⟨av4,ac4,af4⟩:=(HG11.out.B (N3,100,11) (by simp)).1.cell 4 (show 4 < 11 by omega)
   obtain⟨av5,ac5,af5⟩:=(HG11.out.B (N3,100,11) (by simp)).1.cell 5 (show 5 < 11 by omega)
   obtain⟨av6,ac6,af6⟩:=(HG11.out.B (N3,100,11) (by simp)).1.cell 6 (show 6 < 11 by omega)
   obtain⟨av7,ac7,af7⟩:=(HG11.out.B (N3,100,11) (by simp)).1.cell 7 (show 7 < 11 by omega)
   obtain⟨av8,ac8,af8⟩:=(HG11.out.B (N3,100,11) (by simp)).1.cell 8 (show 8 < 11 by omega)
   obtain⟨av9,ac9,af9⟩:=(HG11.out.B (N3,100,11) (by simp)).1.cell 9 (show 9 < 11 by omega)
   have HH1:Hid (GX w b K ((((((((w11.setCell ⟨N3,2,none⟩ (zU k2)).setCell ⟨N3,3,none⟩ (zU o2)).setCell ⟨N3,4,none⟩ (zU ty2)).setCell ⟨N3,5,none⟩ (zI n2)).setCell ⟨N3,6,none⟩ (zU f2)).setCell ⟨N3,7,none⟩ (.string x2)).setCell ⟨N3,8,none⟩ (.slice am2 ks2.length cm2)).setCell ⟨N3,9,none⟩ (zI p2)) _ (dLit s4)):=HG11.out.node (N:=N3) (T:=100) (n:=11) (by simp) 2 (Nd.mk ⟨k2,o2,ty2,n2,f2,x2,p2⟩ am2 cm2 ks2)
   have HQ1:Hid (((((((((w11.setCell ⟨N3,2,none⟩ (zU k2)).setCell ⟨N3,3,none⟩ (zU o2)).setCell ⟨N3,4,none⟩ (zU ty2)).setCell ⟨N3,5,none⟩ (zI n2)).setCell ⟨N3,6,none⟩ (zU f2)).setCell ⟨N3,7,none⟩ (.string x2)).setCell ⟨N3,8,none⟩ (.slice am2 ks2.length cm2)).setCell ⟨N3,9,none⟩ (zI p2)).heap[Q]? = some (.cells (zN k2 o2 ty2 n2 f2 x2 am2 ks2 cm2 p2) 64 (0,0))):=by
    have hne:Q≠N3:=fun e=>by
     have h1:=HQ.out
     obtain⟨cs,h2,_,_⟩:=(HG11.out.B (N3,100,11) (by simp)).1
     rw [e,h2] at h1
     cases h1
    iterate 8 (refine (Below.heap_setCell _ _ _ _ (show Q≠N3 from hne)).trans ?_)
    exact HQ.out
   clear HG11
   go_upto_region 21 with fail
   obtain⟨Y1,eY1⟩:∃ Y,((((((((w11.setCell ⟨N3,2,none⟩ (zU k2)).setCell ⟨N3,3,none⟩ (zU o2)).setCell ⟨N3,4,none⟩ (zU ty2)).setCell ⟨N3,5,none⟩ (zI n2)).setCell ⟨N3,6,none⟩ (zU f2)).setCell ⟨N3,7,none⟩ (.string x2)).setCell ⟨N3,8,none⟩ (.slice am2 ks2.length cm2)).setCell ⟨N3,9,none⟩ (zI p2))=Y:=⟨_,rfl⟩
   rw [eY1] at HH1 HQ1 ⊢
   clear eY1 ac2 af2 ac3 af3 ac4 af4 ac5 af5 ac6 af6 ac7 af7 ac8 af8 ac9 af9 x0' x1' x2' x3' x4' x5' x6' x7' HQ
   have cT:=take_g HK.out HH1.out.S Zr (by decide +kernel) (by decide)
   go_wp2_with fail
   refine cT.mono ?_
   rintro e w12 ⟨⟨p12,rfl⟩,hs,hm⟩
   have HG12:=(HH1.out.mv hm hs).hid
   clear cT hs hm HH1
   obtain⟨cs,hc1,hc2,hc3⟩:=(HG12.out.B (N3,100,11) (by simp)).1
   obtain⟨old,ho1,ho2,ho3⟩:=(HG12.out.B (w§,100,11) (by simp)).1
   have HC:Hid (w12.heap[N3]? = some (.cells cs 100 (0,0))):=hc1
   have HO:Hid (w12.heap[w§]? = some (.cells old 100 (0,0))):=ho1
   have HF:Hid (GX w b K (w12.setRow w§ cs) _ (dTake Zr (dLit s4))∧(w12.setRow w§ cs).heap[w§]? = some (.cells cs 100 (0,0))):=HG12.out.row (N:=w§) (T:=100) (n:=11) (by simp) cs hc2 hc3
   have HN1:Hid (cs.size=11∧old.size=11∧cs.all (·.oneCell')=true):=⟨hc2,ho2,hc3⟩
   clear hc1 hc2 hc3 ho1 ho2 ho3
   go_wp2_with (first | (refine wpList_load_row rfl 100 (.tmp 3) rfl N3 rfl 100 cs (0,0) _ HC.out Tryz.underlying100 rfl (by rw [HN1.out.1]; exact size100) ?_) | (refine wpList_store_row rfl 100 (.tmp 2) (.tmp 75) rfl w§ cs rfl rfl 100 old HO.out (by rw [HN1.out.1]; exact size100) (by rw [HN1.out.1,HN1.out.2.1]) HN1.out.2.2 ?_))
   exact bodyPost_ret (results_cell_row rfl _ _ w§ 100 cs (0,0) _ rfl HF.out.2 Tryz.underlying100 rfl (by rw [HN1.out.1]; exact size100)) rfl ⟨cs,rfl,HN1.out.1,HN1.out.2.2,by rw [← HR0.out,dReg,HS1.out,HS2.out,HD.out,HS4.out,HDM.out]; exact HF.out.1.S,HF.out.1.M⟩
 | true =>
  obtain⟨t4,ts4,e4,hx4⟩:=dIs_ok HMI.out
  have HS5:Hid (dMin s4=dNum (nf ts4)):=by
   show (if _ then _ else _)=_
   rw [HMI.out,e4]
   rfl
  have HE4:Hid (s4=.ok (t4 :: ts4)):=e4
  clear e4 hx4
  go_wp2_with fail
  refine cI.mono ?_
  rintro e w9 ⟨rfl,hb9⟩
  have HG9a:=(HG8.out.on hb9).hid
  obtain⟨i2,c3,f3,hmx,hL,hM,_,_⟩:∃ i:Nat,w9.cell? ⟨b,3,none⟩=some (zI i)∧w9.frozen? ⟨b,3,none⟩=false∧(i:Int)+1≤9223372036854775807 ∧
    Lv (w9.setCell ⟨b,3,none⟩ (zI ((i:Int)+1))) b K ts4∧Mv w9 (w9.setCell ⟨b,3,none⟩ (zI ((i:Int)+1))) (fun k=>k=b)∧(∀ k,k≠b→(w9.setCell ⟨b,3,none⟩ (zI ((i:Int)+1))).heap[k]? = w9.heap[k]?)∧(w9.setCell ⟨b,3,none⟩ (zI ((i:Int)+1)))§=w9§:=by
   have h1:=HG9a.out.S
   rw [HE4.out] at h1
   exact h1.2.at'
  obtain⟨V2,eV2⟩:∃ V,w9.setCell ⟨b,3,none⟩ (zI ((i2:Int)+1))=V:=⟨_,rfl⟩
  rw [eV2] at hL hM
  have HG9b:=(HG9a.out.mv hM hL.sp).hid
  have cN:=now_g HG9b.out.S
  obtain⟨s5,es5⟩:∃ q,nf ts4=q:=⟨_,rfl⟩
  rw [es5] at HG9b cN HS5
  have hf0:=fun v=>field82_0 (hdT s5) v
  clear cI hb9 HG8 hL hM HG9a es5
  go_wp2_with fail
  try rw [eV2]
  clear eV2 c3 f3 hmx
  refine cN.mono ?_
  rintro e w9 ⟨rfl,hb9⟩
  have HG9:=(HG9b.out.on hb9).hid
  clear cN hb9 HG9b
  by_cases hk3:(hdT s5).k=3
  ·have HDN:Hid (dNum s5=s5):=by
    match s5,hk3 with
    | .ok (t :: ts),h=>exact if_pos h
    | .ok [],h=>exact absurd (show tk0.k=3 from h) (by decide)
    | .error f,h=>exact absurd (show tk0.k=3 from h) (by decide)
   have cL:=lit_g HK.out HG9.out.S
   go_wp2_with fail
   refine cL.mono ?_
   rintro e w10 ⟨⟨⟨k2,o2,ty2,n2,f2,x2,p2⟩,am2,cm2,ks2⟩,is,rfl,hh,hm⟩
   simp only [Nd.vals,Nd.h,Nd.a,Nd.c,Nd.ks,hdA]
   cases is with
   | true =>
    have hh:Sp w10 b K (dLit s5):=hh
    have HG10:=((HG9.out.mv hm hh).push (zN k2 o2 ty2 n2 f2 x2 am2 ks2 cm2 p2) 64 8 rfl (by simp [Value.oneCell'])).hid
    have hN:=Hn w10 (.cells (zN k2 o2 ty2 n2 f2 x2 am2 ks2 cm2 p2) 64)
    clear cL hh hm HG9
    go_upto_region 20 with fail
    obtain⟨Q,eQ⟩:∃ q,w10§=q:=⟨_,rfl⟩
    obtain⟨W,eW⟩:∃ W,w10.alloc (.cells (zN k2 o2 ty2 n2 f2 x2 am2 ks2 cm2 p2) 64)=W:=⟨_,rfl⟩
    rw [eW,eQ] at HG10 hN
    rw [eW,eQ]
    clear eW eQ
    have HQ:Hid (W.heap[Q]? = some (.cells (zN k2 o2 ty2 n2 f2 x2 am2 ks2 cm2 p2) 64 (0,0))):=hN
    clear hN
    obtain⟨x0',x1',x2',x3',x4',x5',x6',x7'⟩:=cl8 HQ.out
    obtain⟨av2,ac2,af2⟩:=(HG10.out.B (N3,100,11) (by simp)).1.cell 2 (show 2 < 11 by omega)
    obtain⟨av3,ac3,af3⟩:=(HG10.out.B (N3,100,11) (by simp)).1.cell 3 (show 3 < 11 by omega)
    obtain⟨av4,ac4,af4⟩:=(HG10.out.B (N3,100,11) (by simp)).1.cell 4 (show 4 < 11 by omega)
    obtain⟨av5,ac5,af5⟩:=(HG10.out.B (N3,100,11) (by simp)).1.cell 5 (show 5 < 11 by omega)
    obtain⟨av6,ac6,af6⟩:=(HG10.out.B (N3,100,11) (by simp)).1.cell 6 (show 6 < 11 by omega)
    obtain⟨av7,ac7,af7⟩:=(HG10.out.B (N3,100,11) (by simp)).1.cell 7 (show 7 < 11 by omega)
    obtain⟨av8,ac8,af8⟩:=(HG10.out.B (N3,100,11) (by simp)).1.cell 8 (show 8 < 11 by omega)
    obtain⟨av9,ac9,af9⟩:=(HG10.out.B (N3,100,11) (by simp)).1.cell 9 (show 9 < 11 by omega)
    have HH1:Hid (GX w b K ((((((((W.setCell ⟨N3,2,none⟩ (zU k2)).setCell ⟨N3,3,none⟩ (zU o2)).setCell ⟨N3,4,none⟩ (zU ty2)).setCell ⟨N3,5,none⟩ (zI n2)).setCell ⟨N3,6,none⟩ (zU f2)).setCell ⟨N3,7,none⟩ (.string x2)).setCell ⟨N3,8,none⟩ (.slice am2 ks2.length cm2)).setCell ⟨N3,9,none⟩ (zI p2)) _ (dLit s5)):=HG10.out.node (N:=N3) (T:=100) (n:=11) (by simp) 2 (Nd.mk ⟨k2,o2,ty2,n2,f2,x2,p2⟩ am2 cm2 ks2)
    have HQ1:Hid (((((((((W.setCell ⟨N3,2,none⟩ (zU k2)).setCell ⟨N3,3,none⟩ (zU o2)).setCell ⟨N3,4,none⟩ (zU ty2)).setCell ⟨N3,5,none⟩ (zI n2)).setCell ⟨N3,6,none⟩ (zU f2)).setCell ⟨N3,7,none⟩ (.string x2)).setCell ⟨N3,8,none⟩ (.slice am2 ks2.length cm2)).setCell ⟨N3,9,none⟩ (zI p2)).heap[Q]? = some (.cells (zN k2 o2 ty2 n2 f2 x2 am2 ks2 cm2 p2) 64 (0,0))):=by
     have hne:Q≠N3:=fun e=>by
      have h1:=HQ.out
      obtain⟨cs,h2,_,_⟩:=(HG10.out.B (N3,100,11) (by simp)).1
      rw [e,h2] at h1
      cases h1
     iterate 8 (refine (Below.heap_setCell _ _ _ _ (show Q≠N3 from hne)).trans ?_)
     exact HQ.out
    clear HG10
    go_upto_region 21 with fail
    obtain⟨Y1,eY1⟩:∃ Y,((((((((W.setCell ⟨N3,2,none⟩ (zU k2)).setCell ⟨N3,3,none⟩ (zU o2)).setCell ⟨N3,4,none⟩ (zU ty2)).setCell ⟨N3,5,none⟩ (zI n2)).setCell ⟨N3,6,none⟩ (zU f2)).setCell ⟨N3,7,none⟩ (.string x2)).setCell ⟨N3,8,none⟩ (.slice am2 ks2.length cm2)).setCell ⟨N3,9,none⟩ (zI p2))=Y:=⟨_,rfl⟩
    rw [eY1] at HH1 HQ1 ⊢
    clear eY1 ac2 af2 ac3 af3 ac4 af4 ac5 af5 ac6 af6 ac7 af7 ac8 af8 ac9 af9 x0' x1' x2' x3' x4' x5' x6' x7' HQ
    obtain⟨x0',x1',x2',x3',x4',x5',x6',x7'⟩:=cl8 HQ1.out
    obtain⟨av2,ac2,af2⟩:=(HH1.out.B (N3,100,11) (by simp)).1.cell 2 (show 2 < 11 by omega)
    obtain⟨av3,ac3,af3⟩:=(HH1.out.B (N3,100,11) (by simp)).1.cell 3 (show 3 < 11 by omega)
    obtain⟨av4,ac4,af4⟩:=(HH1.out.B (N3,100,11) (by simp)).1.cell 4 (show 4 < 11 by omega)
    obtain⟨av5,ac5,af5⟩:=(HH1.out.B (N3,100,11) (by simp)).1.cell 5 (show 5 < 11 by omega)
    obtain⟨av6,ac6,af6⟩:=(HH1.out.B (N3,100,11) (by simp)).1.cell 6 (show 6 < 11 by omega)
    obtain⟨av7,ac7,af7⟩:=(HH1.out.B (N3,100,11) (by simp)).1.cell 7 (show 7 < 11 by omega)
    obtain⟨av8,ac8,af8⟩:=(HH1.out.B (N3,100,11) (by simp)).1.cell 8 (show 8 < 11 by omega)
    obtain⟨av9,ac9,af9⟩:=(HH1.out.B (N3,100,11) (by simp)).1.cell 9 (show 9 < 11 by omega)
    have hlt:N3 < Y1§:=(HH1.out.B (N3,100,11) (by simp)).1.lt
    have HH3:Hid (GX w b K (((((((((Y1.setCell ⟨N3,2,none⟩ (zU 5)).setCell ⟨N3,3,none⟩ (zU 1)).setCell ⟨N3,4,none⟩ (zU 0)).setCell ⟨N3,5,none⟩ (zI 0)).setCell ⟨N3,6,none⟩ (zU 0)).setCell ⟨N3,7,none⟩ (.string ⟨#[]⟩)).setCell ⟨N3,8,none⟩ (.slice (some ⟨Y1§,0,none⟩) 1 1)).setCell ⟨N3,9,none⟩ (zI (hdT s4).p)).alloc (.cells (zN k2 o2 ty2 n2 f2 x2 am2 ks2 cm2 p2) 64)) _ (dLit s5)):=(HH1.out.node (N:=N3) (T:=100) (n:=11) (by simp) 2 (Nd.mk ⟨5,1,0,0,0,gE,(hdT s4).p⟩ (some ⟨Y1§,0,none⟩) 1 [(Nd.mk ⟨k2,o2,ty2,n2,f2,x2,p2⟩ am2 cm2 ks2)])).on (Bn _ _)
    go_upto_region 23 with fail
    obtain⟨Z1,eZ1⟩:∃ Z,((((((((Y1.setCell ⟨N3,2,none⟩ (zU 5)).setCell ⟨N3,3,none⟩ (zU 1)).setCell ⟨N3,4,none⟩ (zU 0)).setCell ⟨N3,5,none⟩ (zI 0)).setCell ⟨N3,6,none⟩ (zU 0)).setCell ⟨N3,7,none⟩ (.string ⟨#[]⟩)).setCell ⟨N3,8,none⟩ (.slice (some ⟨Y1§,0,none⟩) 1 1)).setCell ⟨N3,9,none⟩ (zI (hdT s4).p)).alloc (.cells (zN k2 o2 ty2 n2 f2 x2 am2 ks2 cm2 p2) 64)=Z:=⟨_,rfl⟩
    rw [eZ1] at HH3 ⊢
    clear eZ1 ac2 af2 ac3 af3 ac4 af4 ac5 af5 ac6 af6 ac7 af7 ac8 af8 ac9 af9 x0' x1' x2' x3' x4' x5' x6' x7' hlt HH1
    have cT:=take_g HK.out HH3.out.S Zr (by decide +kernel) (by decide)
    go_wp2_with fail
    refine cT.mono ?_
    rintro e w12 ⟨⟨p12,rfl⟩,hs,hm⟩
    have HG12:=(HH3.out.mv hm hs).hid
    clear cT hs hm HH3
    obtain⟨cs,hc1,hc2,hc3⟩:=(HG12.out.B (N3,100,11) (by simp)).1
    obtain⟨old,ho1,ho2,ho3⟩:=(HG12.out.B (w§,100,11) (by simp)).1
    have HC:Hid (w12.heap[N3]? = some (.cells cs 100 (0,0))):=hc1
    have HO:Hid (w12.heap[w§]? = some (.cells old 100 (0,0))):=ho1
    have HF:Hid (GX w b K (w12.setRow w§ cs) _ (dTake Zr (dLit s5))∧(w12.setRow w§ cs).heap[w§]? = some (.cells cs 100 (0,0))):=HG12.out.row (N:=w§) (T:=100) (n:=11) (by simp) cs hc2 hc3
    have HN1:Hid (cs.size=11∧old.size=11∧cs.all (·.oneCell')=true):=⟨hc2,ho2,hc3⟩
    clear hc1 hc2 hc3 ho1 ho2 ho3
    go_wp2_with (first | (refine wpList_load_row rfl 100 (.tmp 3) rfl N3 rfl 100 cs (0,0) _ HC.out Tryz.underlying100 rfl (by rw [HN1.out.1]; exact size100) ?_) | (refine wpList_store_row rfl 100 (.tmp 2) (.tmp 75) rfl w§ cs rfl rfl 100 old HO.out (by rw [HN1.out.1]; exact size100) (by rw [HN1.out.1,HN1.out.2.1]) HN1.out.2.2 ?_))
    exact bodyPost_ret (results_cell_row rfl _ _ w§ 100 cs (0,0) _ rfl HF.out.2 Tryz.underlying100 rfl (by rw [HN1.out.1]; exact size100)) rfl ⟨cs,rfl,HN1.out.1,HN1.out.2.2,by rw [← HR0.out,dReg,HS1.out,HS2.out,HD.out,HS4.out,HS5.out,HDN.out]; exact HF.out.1.S,HF.out.1.M⟩
   | false =>
    obtain⟨h1,h2⟩:Sp w10 b K s5∧dLit s5=dWrong 130 s5:=hh
    have HDW:Hid (dLit s5=dWrong 130 s5):=h2
    have HG10:=((HG9.out.mv hm h1).push (zN k2 o2 ty2 n2 f2 x2 am2 ks2 cm2 p2) 64 8 rfl (by simp [Value.oneCell'])).hid
    have hN:=Hn w10 (.cells (zN k2 o2 ty2 n2 f2 x2 am2 ks2 cm2 p2) 64)
    have cW:=wrong_g HG10.out.S 130 (by decide)
    rw [← HDW.out] at cW
    clear cL h1 h2 hm HG9
    go_wp2_with fail
    refine cW.mono ?_
    rintro e w11 ⟨rfl,hs,hm⟩
    have HG11:=(HG10.out.mv hm hs).hid
    obtain⟨Q,eQ⟩:∃ q,w10§=q:=⟨_,rfl⟩
    have HQ:Hid (w11.heap[Q]? = some (.cells (zN k2 o2 ty2 n2 f2 x2 am2 ks2 cm2 p2) 64 (0,0))):=by
     show _=_
     rw [← eQ]
     have h3:=(HG10.out.B (w10§,64,8) (by simp)).1.lt
     have h4:w§≤w10§:=(HG10.out.B (w10§,64,8) (by simp)).2
     have h5:=HG10.out.W.1
     exact (hm.block _ h3 (by omega)).trans hN
    rw [eQ] at HG11
    clear cW hs hm HG10 hN
    go_upto_region 20 with fail
    try rw [eQ]
    clear eQ
    obtain⟨x0',x1',x2',x3',x4',x5',x6',x7'⟩:=cl8 HQ.out
    obtain⟨av2,ac2,af2⟩:=(HG11.out.B (N3,100,11) (by simp)).1.cell 2 (show 2 < 11 by omega)
    obtain⟨av3,ac3,af3⟩:=(HG11.out.B (N3,100,11) (by simp)).1.cell 3 (show 3 < 11 by omega)
    obtain⟨av4,ac4,af4⟩:=(HG11.out.B (N3,100,11) (by simp)).1.cell 4 (show 4 < 11 by omega)
    obtain⟨av5,ac5,af5⟩:=(HG11.out.B (N3,100,11) (by simp)).1.cell 5 (show 5 < 11 by omega)
    obtain⟨av6,ac6,af6⟩:=(HG11.out.B (N3,100,11) (by simp)).1.cell 6 (show 6 < 11 by omega)
    obtain⟨av7,ac7,af7⟩:=(HG11.out.B (N3,100,11) (by simp)).1.cell 7 (show 7 < 11 by omega)
    obtain⟨av8,ac8,af8⟩:=(HG11.out.B (N3,100,11) (by simp)).1.cell 8 (show 8 < 11 by omega)
    obtain⟨av9,ac9,af9⟩:=(HG11.out.B (N3,100,11) (by simp)).1.cell 9 (show 9 < 11 by omega)
    have HH1:Hid (GX w b K ((((((((w11.setCell ⟨N3,2,none⟩ (zU k2)).setCell ⟨N3,3,none⟩ (zU o2)).setCell ⟨N3,4,none⟩ (zU ty2)).setCell ⟨N3,5,none⟩ (zI n2)).setCell ⟨N3,6,none⟩ (zU f2)).setCell ⟨N3,7,none⟩ (.string x2)).setCell ⟨N3,8,none⟩ (.slice am2 ks2.length cm2)).setCell ⟨N3,9,none⟩ (zI p2)) _ (dLit s5)):=HG11.out.node (N:=N3) (T:=100) (n:=11) (by simp) 2 (Nd.mk ⟨k2,o2,ty2,n2,f2,x2,p2⟩ am2 cm2 ks2)
    have HQ1:Hid (((((((((w11.setCell ⟨N3,2,none⟩ (zU k2)).setCell ⟨N3,3,none⟩ (zU o2)).setCell ⟨N3,4,none⟩ (zU ty2)).setCell ⟨N3,5,none⟩ (zI n2)).setCell ⟨N3,6,none⟩ (zU f2)).setCell ⟨N3,7,none⟩ (.string x2)).setCell ⟨N3,8,none⟩ (.slice am2 ks2.length cm2)).setCell ⟨N3,9,none⟩ (zI p2)).heap[Q]? = some (.cells (zN k2 o2 ty2 n2 f2 x2 am2 ks2 cm2 p2) 64 (0,0))):=by
     have hne:Q≠N3:=fun e=>by
      have h1:=HQ.out
      obtain⟨cs,h2,_,_⟩:=(HG11.out.B (N3,100,11) (by simp)).1
      rw [e,h2] at h1
      cases h1
     iterate 8 (refine (Below.heap_setCell _ _ _ _ (show Q≠N3 from hne)).trans ?_)
     exact HQ.out
    clear HG11
    go_upto_region 21 with fail
    obtain⟨Y1,eY1⟩:∃ Y,((((((((w11.setCell ⟨N3,2,none⟩ (zU k2)).setCell ⟨N3,3,none⟩ (zU o2)).setCell ⟨N3,4,none⟩ (zU ty2)).setCell ⟨N3,5,none⟩ (zI n2)).setCell ⟨N3,6,none⟩ (zU f2)).setCell ⟨N3,7,none⟩ (.string x2)).setCell ⟨N3,8,none⟩ (.slice am2 ks2.length cm2)).setCell ⟨N3,9,none⟩ (zI p2))=Y:=⟨_,rfl⟩
    rw [eY1] at HH1 HQ1 ⊢
    clear eY1 ac2 af2 ac3 af3 ac4 af4 ac5 af5 ac6 af6 ac7 af7 ac8 af8 ac9 af9 x0' x1' x2' x3' x4' x5' x6' x7' HQ
    obtain⟨x0',x1',x2',x3',x4',x5',x6',x7'⟩:=cl8 HQ1.out
    obtain⟨av2,ac2,af2⟩:=(HH1.out.B (N3,100,11) (by simp)).1.cell 2 (show 2 < 11 by omega)
    obtain⟨av3,ac3,af3⟩:=(HH1.out.B (N3,100,11) (by simp)).1.cell 3 (show 3 < 11 by omega)
    obtain⟨av4,ac4,af4⟩:=(HH1.out.B (N3,100,11) (by simp)).1.cell 4 (show 4 < 11 by omega)
    obtain⟨av5,ac5,af5⟩:=(HH1.out.B (N3,100,11) (by simp)).1.cell 5 (show 5 < 11 by omega)
    obtain⟨av6,ac6,af6⟩:=(HH1.out.B (N3,100,11) (by simp)).1.cell 6 (show 6 < 11 by omega)
    obtain⟨av7,ac7,af7⟩:=(HH1.out.B (N3,100,11) (by simp)).1.cell 7 (show 7 < 11 by omega)
    obtain⟨av8,ac8,af8⟩:=(HH1.out.B (N3,100,11) (by simp)).1.cell 8 (show 8 < 11 by omega)
    obtain⟨av9,ac9,af9⟩:=(HH1.out.B (N3,100,11) (by simp)).1.cell 9 (show 9 < 11 by omega)
    have hlt:N3 < Y1§:=(HH1.out.B (N3,100,11) (by simp)).1.lt
    have HH3:Hid (GX w b K (((((((((Y1.setCell ⟨N3,2,none⟩ (zU 5)).setCell ⟨N3,3,none⟩ (zU 1)).setCell ⟨N3,4,none⟩ (zU 0)).setCell ⟨N3,5,none⟩ (zI 0)).setCell ⟨N3,6,none⟩ (zU 0)).setCell ⟨N3,7,none⟩ (.string ⟨#[]⟩)).setCell ⟨N3,8,none⟩ (.slice (some ⟨Y1§,0,none⟩) 1 1)).setCell ⟨N3,9,none⟩ (zI (hdT s4).p)).alloc (.cells (zN k2 o2 ty2 n2 f2 x2 am2 ks2 cm2 p2) 64)) _ (dLit s5)):=(HH1.out.node (N:=N3) (T:=100) (n:=11) (by simp) 2 (Nd.mk ⟨5,1,0,0,0,gE,(hdT s4).p⟩ (some ⟨Y1§,0,none⟩) 1 [(Nd.mk ⟨k2,o2,ty2,n2,f2,x2,p2⟩ am2 cm2 ks2)])).on (Bn _ _)
    go_upto_region 23 with fail
    obtain⟨Z1,eZ1⟩:∃ Z,((((((((Y1.setCell ⟨N3,2,none⟩ (zU 5)).setCell ⟨N3,3,none⟩ (zU 1)).setCell ⟨N3,4,none⟩ (zU 0)).setCell ⟨N3,5,none⟩ (zI 0)).setCell ⟨N3,6,none⟩ (zU 0)).setCell ⟨N3,7,none⟩ (.string ⟨#[]⟩)).setCell ⟨N3,8,none⟩ (.slice (some ⟨Y1§,0,none⟩) 1 1)).setCell ⟨N3,9,none⟩ (zI (hdT s4).p)).alloc (.cells (zN k2 o2 ty2 n2 f2 x2 am2 ks2 cm2 p2) 64)=Z:=⟨_,rfl⟩
    rw [eZ1] at HH3 ⊢
    clear eZ1 ac2 af2 ac3 af3 ac4 af4 ac5 af5 ac6 af6 ac7 af7 ac8 af8 ac9 af9 x0' x1' x2' x3' x4' x5' x6' x7' hlt HH1
    have cT:=take_g HK.out HH3.out.S Zr (by decide +kernel) (by decide)
    go_wp2_with fail
    refine cT.mono ?_
    rintro e w12 ⟨⟨p12,rfl⟩,hs,hm⟩
    have HG12:=(HH3.out.mv hm hs).hid
    clear cT hs hm HH3
    obtain⟨cs,hc1,hc2,hc3⟩:=(HG12.out.B (N3,100,11) (by simp)).1
    obtain⟨old,ho1,ho2,ho3⟩:=(HG12.out.B (w§,100,11) (by simp)).1
    have HC:Hid (w12.heap[N3]? = some (.cells cs 100 (0,0))):=hc1
    have HO:Hid (w12.heap[w§]? = some (.cells old 100 (0,0))):=ho1
    have HF:Hid (GX w b K (w12.setRow w§ cs) _ (dTake Zr (dLit s5))∧(w12.setRow w§ cs).heap[w§]? = some (.cells cs 100 (0,0))):=HG12.out.row (N:=w§) (T:=100) (n:=11) (by simp) cs hc2 hc3
    have HN1:Hid (cs.size=11∧old.size=11∧cs.all (·.oneCell')=true):=⟨hc2,ho2,hc3⟩
    clear hc1 hc2 hc3 ho1 ho2 ho3
    go_wp2_with (first | (refine wpList_load_row rfl 100 (.tmp 3) rfl N3 rfl 100 cs (0,0) _ HC.out Tryz.underlying100 rfl (by rw [HN1.out.1]; exact size100) ?_) | (refine wpList_store_row rfl 100 (.tmp 2) (.tmp 75) rfl w§ cs rfl rfl 100 old HO.out (by rw [HN1.out.1]; exact size100) (by rw [HN1.out.1,HN1.out.2.1]) HN1.out.2.2 ?_))
    exact bodyPost_ret (results_cell_row rfl _ _ w§ 100 cs (0,0) _ rfl HF.out.2 Tryz.underlying100 rfl (by rw [HN1.out.1]; exact size100)) rfl ⟨cs,rfl,HN1.out.1,HN1.out.2.2,by rw [← HR0.out,dReg,HS1.out,HS2.out,HD.out,HS4.out,HS5.out,HDN.out]; exact HF.out.1.S,HF.out.1.M⟩
  ·have hk4:((hdT s5).k != 3)=true:=bne_iff_ne.2 hk3
   have HDN:Hid (dNum s5=dWrong 130 s5):=by
    match s5,hk3 with
    | .ok (t :: ts),h=>exact if_neg h
    | .ok [],h=>rfl
    | .error f,h=>rfl
   have cW:=wrong_g HG9.out.S 130 (by decide)
   go_wp2_with fail
   refine cW.mono ?_
   rintro e w11 ⟨rfl,hs,hm⟩
   have HG11:=(HG9.out.mv hm hs).hid
   have HDD:Hid (dWrong 130 s5=dTake Zr (dLit (dNum s5))):=by
    show _=_
    rw [HDN.out]
    match s5 with
    | .ok (t :: ts)=>rfl
    | .ok []=>rfl
    | .error f=>rfl
   rw [HDD.out] at HG11
   clear cW hs hm HG9
   obtain⟨cs,hc1,hc2,hc3⟩:=(HG11.out.B (N3,100,11) (by simp)).1
   obtain⟨old,ho1,ho2,ho3⟩:=(HG11.out.B (w§,100,11) (by simp)).1
   have HC:Hid (w11.heap[N3]? = some (.cells cs 100 (0,0))):=hc1
   have HO:Hid (w11.heap[w§]? = some (.cells old 100 (0,0))):=ho1
   have HF:Hid (GX w b K (w11.setRow w§ cs) _ (dTake Zr (dLit (dNum s5)))∧(w11.setRow w§ cs).heap[w§]? = some (.cells cs 100 (0,0))):=HG11.out.row (N:=w§) (T:=100) (n:=11) (by simp) cs hc2 hc3
   have HN1:Hid (cs.size=11∧old.size=11∧cs.all (·.oneCell')=true):=⟨hc2,ho2,hc3⟩
   clear hc1 hc2 hc3 ho1 ho2 ho3
   go_wp2_with (first | (refine wpList_load_row rfl 100 (.tmp 3) rfl N3 rfl 100 cs (0,0) _ HC.out Tryz.underlying100 rfl (by rw [HN1.out.1]; exact size100) ?_) | (refine wpList_store_row rfl 100 (.tmp 2) (.tmp 55) rfl w§ cs rfl rfl 100 old HO.out (by rw [HN1.out.1]; exact size100) (by rw [HN1.out.1,HN1.out.2.1]) HN1.out.2.2 ?_))
   exact bodyPost_ret (results_cell_row rfl _ _ w§ 100 cs (0,0) _ rfl HF.out.2 Tryz.underlying100 rfl (by rw [HN1.out.1]; exact size100)) rfl ⟨cs,rfl,HN1.out.1,HN1.out.2.2,by rw [← HR0.out,dReg,HS1.out,HS2.out,HD.out,HS4.out,HS5.out]; exact HF.out.1.S,HF.out.1.M⟩
end Go.Proofs.YtkfabnchhjfjjaaGreatDoor
