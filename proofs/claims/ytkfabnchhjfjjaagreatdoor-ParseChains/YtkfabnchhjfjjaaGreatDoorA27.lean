import Derived.Test.YtkfabnchhjfjjaaGreatDoorA0
import Derived.Test.YtkfabnchhjfjjaaGreatDoorA26
namespace Go.Proofs.YtkfabnchhjfjjaaGreatDoor
set_option maxRecDepth 100000
set_option maxHeartbeats 4000000
open Go.RowKit
set_option linter.unusedVariables false
theorem sel_yes {s:St}(h:dIs Zt s=true):dSel s=dStep s:=by
 obtain⟨t,ts,rfl,e⟩:=dIs_ok h
 have h1:dAny [Zt,Zi] (.ok (t :: ts))=0:=by
  show fnd t.x _ 0=0
  simp only [fnd,if_pos e]
  rfl
 unfold dSel
 rw [if_pos h1]
theorem sel_no {s:St}(h:dIs Zt s=false):dSel s=dOrd (dEx (dTake Zi s)):=by
 match s,h with
 | .ok (t :: ts),h =>
  have h0:¬ t.x=Zt:=of_decide_eq_false h
  by_cases e:t.x=Zi
  ·have h1:dAny [Zt,Zi] (.ok (t :: ts))=1:=by
    show fnd t.x _ 0=1
    simp only [fnd,if_neg h0,if_pos e]
    rfl
   unfold dSel
   rw [if_neg (by rw [h1]; decide),if_pos h1]
   show _=dOrd (dEx (if t.x=Zi then nf ts else _))
   rw [if_pos e]
   rfl
  ·have h1:dAny [Zt,Zi] (.ok (t :: ts)) = -1:=by
    show fnd t.x _ 0 = -1
    simp only [fnd,if_neg h0,if_neg e]
   unfold dSel
   rw [if_neg (by rw [h1]; decide),if_neg (by rw [h1]; decide)]
   show _=dOrd (dEx (if t.x=Zi then nf ts else _))
   rw [if_neg e]
   rfl
 | .ok [],h=>rfl
 | .error f,h=>rfl
theorem submit_p {w:World}{b G:Nat}{fa:Int}{fe:Value}{ts:List Tk}{D:Nat}(h:Rp w b G fa fe ts) (hS:Shp w D 110 36) (hD:b≠D∧G≠D):Calls zG 150 #[zP b,zP D] w (OutDo D b G fa fe w (dAs (dSel (dEx (dTake ZI (dEx (nf ts))))))):=by
 have HG0:=(show GD w b G fa fe D w ts from ⟨Mv.refl _ _,hS,h,h.lt.1,h.lt.2,hS.lt,hD.1,hD.2⟩).hid
 clear h hS hD
 go_enter Tryz.func150,Tryz.ntmps150
 have cC:=expr_p HG0.out.R
 go_wp2_with fail
 refine cC.mono ?_
 rintro e w1 (⟨_,ts1,rfl,⟨⟨⟨k2,o2,ty2,n2,f2,x2,p2⟩,am2,cm2,ks2⟩,rfl⟩,hr,hn,hm⟩ | ⟨f,rfl,hf,hm⟩)
 rotate_left
 ·exact⟨rfl,.inr ⟨f,rfl,by rw [hf]; rfl,HG0.out.M.trans hm (fun _ e=>.inl (.inl e))⟩⟩
 simp only [Nd.vals,Nd.h,Nd.a,Nd.c,Nd.ks,hdA]
 have HG1:=(HG0.out.mv hm hr).hid
 have HN1:Hid (nf ts1=dEx (nf ts)):=hn
 clear cC hr hn hm HG0
 obtain⟨av3,ac3,af3⟩:=HG1.out.S.cell 3 (show 3 < 36 by omega)
 obtain⟨av4,ac4,af4⟩:=HG1.out.S.cell 4 (show 4 < 36 by omega)
 obtain⟨av5,ac5,af5⟩:=HG1.out.S.cell 5 (show 5 < 36 by omega)
 obtain⟨av6,ac6,af6⟩:=HG1.out.S.cell 6 (show 6 < 36 by omega)
 obtain⟨av7,ac7,af7⟩:=HG1.out.S.cell 7 (show 7 < 36 by omega)
 obtain⟨av8,ac8,af8⟩:=HG1.out.S.cell 8 (show 8 < 36 by omega)
 obtain⟨av9,ac9,af9⟩:=HG1.out.S.cell 9 (show 9 < 36 by omega)
 obtain⟨av10,ac10,af10⟩:=HG1.out.S.cell 10 (show 10 < 36 by omega)
 have HG2:Hid (GD w b G fa fe D ((((((((w1.setCell ⟨D,3,none⟩ (zU k2)).setCell ⟨D,4,none⟩ (zU o2)).setCell ⟨D,5,none⟩ (zU ty2)).setCell ⟨D,6,none⟩ (zI n2)).setCell ⟨D,7,none⟩ (zU f2)).setCell ⟨D,8,none⟩ (.string x2)).setCell ⟨D,9,none⟩ (.slice am2 ks2.length cm2)).setCell ⟨D,10,none⟩ (zI p2)) ts1):=HG1.out.node 3 (Nd.mk ⟨k2,o2,ty2,n2,f2,x2,p2⟩ am2 cm2 ks2)
 go_upto_region 1 with fail
 obtain⟨W2,eW2⟩:∃ Y,((((((((w1.setCell ⟨D,3,none⟩ (zU k2)).setCell ⟨D,4,none⟩ (zU o2)).setCell ⟨D,5,none⟩ (zU ty2)).setCell ⟨D,6,none⟩ (zI n2)).setCell ⟨D,7,none⟩ (zU f2)).setCell ⟨D,8,none⟩ (.string x2)).setCell ⟨D,9,none⟩ (.slice am2 ks2.length cm2)).setCell ⟨D,10,none⟩ (zI p2))=Y:=⟨_,rfl⟩
 rw [eW2] at HG2
 try rw [eW2]
 clear eW2 ac3 af3 ac4 af4 ac5 af5 ac6 af6 ac7 af7 ac8 af8 ac9 af9 ac10 af10 HG1
 try generalize Value.agg (zN k2 o2 ty2 n2 f2 x2 am2 ks2 cm2 p2)=Dg2
 have cC:=take_p HG2.out.R ZI
 go_wp2_with fail
 refine cC.mono ?_
 rintro e w3 (⟨_,ts3,rfl,⟨tk3,rfl⟩,hr,hn,hm⟩ | ⟨f,rfl,hf,hm⟩)
 rotate_left
 ·exact⟨rfl,.inr ⟨f,rfl,by rw [← HN1.out,hf]; rfl,HG2.out.M.trans hm (fun _ e=>.inl (.inl e))⟩⟩
 have HG3:=(HG2.out.mv hm hr).hid
 have HN3:Hid (nf ts3=dTake ZI (nf ts1)):=hn
 clear cC hr hn hm HG2
 generalize Value.agg (tkA tk3)=D3
 have cC:=expr_p HG3.out.R
 go_wp2_with fail
 refine cC.mono ?_
 rintro e w4 (⟨_,ts4,rfl,⟨⟨⟨k3,o3,ty3,n3,f3,x3,p3⟩,am3,cm3,ks3⟩,rfl⟩,hr,hn,hm⟩ | ⟨f,rfl,hf,hm⟩)
 rotate_left
 ·exact⟨rfl,.inr ⟨f,rfl,by rw [← HN1.out,← HN3.out,hf]; rfl,HG3.out.M.trans hm (fun _ e=>.inl (.inl e))⟩⟩
 simp only [Nd.vals,Nd.h,Nd.a,Nd.c,Nd.ks,hdA]
 have HG4:=(HG3.out.mv hm hr).hid
 have HN4:Hid (nf ts4=dEx (nf ts3)):=hn
 clear cC hr hn hm HG3
 obtain⟨av11,ac11,af11⟩:=HG4.out.S.cell 11 (show 11 < 36 by omega)
 obtain⟨av12,ac12,af12⟩:=HG4.out.S.cell 12 (show 12 < 36 by omega)
 obtain⟨av13,ac13,af13⟩:=HG4.out.S.cell 13 (show 13 < 36 by omega)
 obtain⟨av14,ac14,af14⟩:=HG4.out.S.cell 14 (show 14 < 36 by omega)
 obtain⟨av15,ac15,af15⟩:=HG4.out.S.cell 15 (show 15 < 36 by omega)
 obtain⟨av16,ac16,af16⟩:=HG4.out.S.cell 16 (show 16 < 36 by omega)
 obtain⟨av17,ac17,af17⟩:=HG4.out.S.cell 17 (show 17 < 36 by omega)
 obtain⟨av18,ac18,af18⟩:=HG4.out.S.cell 18 (show 18 < 36 by omega)
 have HG5:Hid (GD w b G fa fe D ((((((((w4.setCell ⟨D,11,none⟩ (zU k3)).setCell ⟨D,12,none⟩ (zU o3)).setCell ⟨D,13,none⟩ (zU ty3)).setCell ⟨D,14,none⟩ (zI n3)).setCell ⟨D,15,none⟩ (zU f3)).setCell ⟨D,16,none⟩ (.string x3)).setCell ⟨D,17,none⟩ (.slice am3 ks3.length cm3)).setCell ⟨D,18,none⟩ (zI p3)) ts4):=HG4.out.node 11 (Nd.mk ⟨k3,o3,ty3,n3,f3,x3,p3⟩ am3 cm3 ks3)
 go_upto_region 3 with fail
 obtain⟨W5,eW5⟩:∃ Y,((((((((w4.setCell ⟨D,11,none⟩ (zU k3)).setCell ⟨D,12,none⟩ (zU o3)).setCell ⟨D,13,none⟩ (zU ty3)).setCell ⟨D,14,none⟩ (zI n3)).setCell ⟨D,15,none⟩ (zU f3)).setCell ⟨D,16,none⟩ (.string x3)).setCell ⟨D,17,none⟩ (.slice am3 ks3.length cm3)).setCell ⟨D,18,none⟩ (zI p3))=Y:=⟨_,rfl⟩
 rw [eW5] at HG5
 try rw [eW5]
 clear eW5 ac11 af11 ac12 af12 ac13 af13 ac14 af14 ac15 af15 ac16 af16 ac17 af17 ac18 af18 HG4
 try generalize Value.agg (zN k3 o3 ty3 n3 f3 x3 am3 ks3 cm3 p3)=Dg5
 have HS4:Hid ((dAs (dSel (dEx (dTake ZI (dEx (nf ts))))))=dAs (dSel (nf ts4))):=by show _=_; rw [← HN1.out,← HN3.out,← HN4.out]
 have cI:=is_p HG5.out.R Zt
 obtain⟨qm,eqm⟩:∃ q,dIs Zt (nf ts4)=q:=⟨_,rfl⟩
 have HQm:Hid (dIs Zt (nf ts4)=qm):=eqm
 rw [eqm] at cI
 clear eqm
 cases qm with
 | true =>
  go_wp2_with fail
  refine cI.mono ?_
  rintro e wm (⟨rfl,hne,hb⟩ | ⟨rfl,rfl,hb⟩)
  rotate_left
  ·exact⟨rfl,.inr ⟨.lex,rfl,by rw [HS4.out]; rfl,HG5.out.M.trans (Mv.ofBelow (F:=fun k=>k=b) hb) (fun _ e=>.inl (.inl e))⟩⟩
  have HGm:=(HG5.out.on hb).hid
  have HNEm:Hid (ts4≠[]):=hne
  clear cI hb HG5 hne
  obtain⟨tM,rM,eM⟩:∃ t r,ts4=t :: r:=by
   cases ts4 with
   | nil=>exact absurd rfl HNEm.out
   | cons t r=>exact⟨t,r,rfl⟩
  have HSM:Hid ((dAs (dSel (dEx (dTake ZI (dEx (nf ts))))))=dAs (nf rM)):=by
   show _=_
   rw [HS4.out,sel_yes HQm.out,eM]
   rfl
  rw [eM] at HGm
  have cS:=step_p HGm.out.R
  clear eM
  go_wp2_with fail
  refine cS.mono ?_
  rintro e wn ⟨rfl,hr,hm⟩
  have HGn:=(HGm.out.mv hm hr).hid
  clear cS hr hm HGm
  generalize Value.agg (tkA tM)=DM
  obtain⟨av1,ac1,af1⟩:=HGn.out.S.cell 1 (show 1 < 36 by omega)
  have HGo:Hid (GD w b G fa fe D (wn.setCell ⟨D,1,none⟩ (zU 2)) rM):=HGn.out.set 1 (zU 2) rfl
  go_upto_region 9 with fail
  obtain⟨Wo,eWo⟩:∃ Y,wn.setCell ⟨D,1,none⟩ (zU 2)=Y:=⟨_,rfl⟩
  rw [eWo] at HGo
  try rw [eWo]
  clear eWo ac1 af1 HGn
  have cI:=is_p HGo.out.R ZR
  obtain⟨qa,eqa⟩:∃ q,dIs ZR (nf rM)=q:=⟨_,rfl⟩
  have HQa:Hid (dIs ZR (nf rM)=qa):=eqa
  rw [eqa] at cI
  clear eqa
  cases qa with
  | false =>
   go_wp2_with fail
   refine cI.mono ?_
   rintro e wa (⟨rfl,hne,hb⟩ | ⟨rfl,rfl,hb⟩)
   rotate_left
   ·exact⟨rfl,.inr ⟨.lex,rfl,by rw [HSM.out]; rfl,HGo.out.M.trans (Mv.ofBelow (F:=fun k=>k=b) hb) (fun _ e=>.inl (.inl e))⟩⟩
   have HGa:=(HGo.out.on hb).hid
   have HNEa:Hid (rM≠[]):=hne
   clear cI hb HGo hne
   go_wp2_with fail
   go_end0
   exact .inl ⟨rM,rfl,HGa.out.R,by rw [HSM.out]; show _=if _ then _ else _; rw [HQa.out]; rfl,HGa.out.S,HGa.out.M⟩
  | true =>
   go_wp2_with fail
   refine cI.mono ?_
   rintro e wa (⟨rfl,hne,hb⟩ | ⟨rfl,rfl,hb⟩)
   rotate_left
   ·exact⟨rfl,.inr ⟨.lex,rfl,by rw [HSM.out]; rfl,HGo.out.M.trans (Mv.ofBelow (F:=fun k=>k=b) hb) (fun _ e=>.inl (.inl e))⟩⟩
   have HGa:=(HGo.out.on hb).hid
   have HNEa:Hid (rM≠[]):=hne
   clear cI hb HGo hne
   obtain⟨tA,rA,eA⟩:∃ t r,rM=t :: r:=by
    cases rM with
    | nil=>exact absurd rfl HNEa.out
    | cons t r=>exact⟨t,r,rfl⟩
   have HDA:Hid (dAs (nf rM)=dName (nf rA)):=by
    show (if _ then _ else _)=_
    rw [HQa.out,eA]
    rfl
   rw [eA] at HGa
   have cS:=step_p HGa.out.R
   clear eA
   go_wp2_with fail
   refine cS.mono ?_
   rintro e wb ⟨rfl,hr,hm⟩
   have HGb:=(HGa.out.mv hm hr).hid
   clear cS hr hm HGa
   generalize Value.agg (tkA tA)=DA
   have cC:=name_p HGb.out.R
   go_wp2_with fail
   refine cC.mono ?_
   rintro e wc (⟨_,tsc,rfl,⟨xc,rfl⟩,hr,hn,hm⟩ | ⟨f,rfl,hf,hm⟩)
   rotate_left
   ·exact⟨rfl,.inr ⟨f,rfl,by rw [HSM.out,HDA.out,hf],HGb.out.M.trans hm (fun _ e=>.inl (.inl e))⟩⟩
   have HGc:=(HGb.out.mv hm hr).hid
   have HNc:Hid (nf tsc=dName (nf rA)):=hn
   clear cC hr hn hm HGb
   obtain⟨av2,ac2,af2⟩:=HGc.out.S.cell 2 (show 2 < 36 by omega)
   have HGd:Hid (GD w b G fa fe D (wc.setCell ⟨D,2,none⟩ (.string xc)) tsc):=HGc.out.set 2 (.string xc) rfl
   go_wp2_with fail
   obtain⟨Wd,eWd⟩:∃ Y,wc.setCell ⟨D,2,none⟩ (.string xc)=Y:=⟨_,rfl⟩
   rw [eWd] at HGd
   try rw [eWd]
   clear eWd ac2 af2 HGc
   go_end0
   exact .inl ⟨tsc,rfl,HGd.out.R,by rw [HSM.out,HDA.out]; exact HNc.out,HGd.out.S,HGd.out.M⟩
 | false =>
  go_wp2_with fail
  refine cI.mono ?_
  rintro e wm (⟨rfl,hne,hb⟩ | ⟨rfl,rfl,hb⟩)
  rotate_left
  ·exact⟨rfl,.inr ⟨.lex,rfl,by rw [HS4.out]; rfl,HG5.out.M.trans (Mv.ofBelow (F:=fun k=>k=b) hb) (fun _ e=>.inl (.inl e))⟩⟩
  have HGm:=(HG5.out.on hb).hid
  have HNEm:Hid (ts4≠[]):=hne
  clear cI hb HG5 hne
  have HSM:Hid ((dAs (dSel (dEx (dTake ZI (dEx (nf ts))))))=dAs (dOrd (dEx (dTake Zi (nf ts4))))):=by
   show _=_
   rw [HS4.out,sel_no HQm.out]
  have cC:=take_p HGm.out.R Zi
  go_wp2_with fail
  refine cC.mono ?_
  rintro e w6 (⟨_,ts6,rfl,⟨tk6,rfl⟩,hr,hn,hm⟩ | ⟨f,rfl,hf,hm⟩)
  rotate_left
  ·exact⟨rfl,.inr ⟨f,rfl,by rw [HSM.out,hf]; rfl,HGm.out.M.trans hm (fun _ e=>.inl (.inl e))⟩⟩
  have HG6:=(HGm.out.mv hm hr).hid
  have HN6:Hid (nf ts6=dTake Zi (nf ts4)):=hn
  clear cC hr hn hm HGm
  generalize Value.agg (tkA tk6)=D6
  have cC:=expr_p HG6.out.R
  go_wp2_with fail
  refine cC.mono ?_
  rintro e w7 (⟨_,ts7,rfl,⟨⟨⟨k4,o4,ty4,n4,f4,x4,p4⟩,am4,cm4,ks4⟩,rfl⟩,hr,hn,hm⟩ | ⟨f,rfl,hf,hm⟩)
  rotate_left
  ·exact⟨rfl,.inr ⟨f,rfl,by rw [HSM.out,← HN6.out,hf]; rfl,HG6.out.M.trans hm (fun _ e=>.inl (.inl e))⟩⟩
  simp only [Nd.vals,Nd.h,Nd.a,Nd.c,Nd.ks,hdA]
  have HG7:=(HG6.out.mv hm hr).hid
  have HN7:Hid (nf ts7=dEx (nf ts6)):=hn
  clear cC hr hn hm HG6
  obtain⟨av19,ac19,af19⟩:=HG7.out.S.cell 19 (show 19 < 36 by omega)
  obtain⟨av20,ac20,af20⟩:=HG7.out.S.cell 20 (show 20 < 36 by omega)
  obtain⟨av21,ac21,af21⟩:=HG7.out.S.cell 21 (show 21 < 36 by omega)
  obtain⟨av22,ac22,af22⟩:=HG7.out.S.cell 22 (show 22 < 36 by omega)
  obtain⟨av23,ac23,af23⟩:=HG7.out.S.cell 23 (show 23 < 36 by omega)
  obtain⟨av24,ac24,af24⟩:=HG7.out.S.cell 24 (show 24 < 36 by omega)
  obtain⟨av25,ac25,af25⟩:=HG7.out.S.cell 25 (show 25 < 36 by omega)
  obtain⟨av26,ac26,af26⟩:=HG7.out.S.cell 26 (show 26 < 36 by omega)
  have HG8:Hid (GD w b G fa fe D ((((((((w7.setCell ⟨D,19,none⟩ (zU k4)).setCell ⟨D,20,none⟩ (zU o4)).setCell ⟨D,21,none⟩ (zU ty4)).setCell ⟨D,22,none⟩ (zI n4)).setCell ⟨D,23,none⟩ (zU f4)).setCell ⟨D,24,none⟩ (.string x4)).setCell ⟨D,25,none⟩ (.slice am4 ks4.length cm4)).setCell ⟨D,26,none⟩ (zI p4)) ts7):=HG7.out.node 19 (Nd.mk ⟨k4,o4,ty4,n4,f4,x4,p4⟩ am4 cm4 ks4)
  go_upto_region 8 with fail
  obtain⟨W8,eW8⟩:∃ Y,((((((((w7.setCell ⟨D,19,none⟩ (zU k4)).setCell ⟨D,20,none⟩ (zU o4)).setCell ⟨D,21,none⟩ (zU ty4)).setCell ⟨D,22,none⟩ (zI n4)).setCell ⟨D,23,none⟩ (zU f4)).setCell ⟨D,24,none⟩ (.string x4)).setCell ⟨D,25,none⟩ (.slice am4 ks4.length cm4)).setCell ⟨D,26,none⟩ (zI p4))=Y:=⟨_,rfl⟩
  rw [eW8] at HG8
  try rw [eW8]
  clear eW8 ac19 af19 ac20 af20 ac21 af21 ac22 af22 ac23 af23 ac24 af24 ac25 af25 ac26 af26 HG7
  try generalize Value.agg (zN k4 o4 ty4 n4 f4 x4 am4 ks4 cm4 p4)=Dg8
  have cC:=order_p HG8.out.R
  go_wp2_with fail
  refine cC.mono ?_
  rintro e w9 (⟨_,ts9,rfl,⟨y9,rfl⟩,hr,hn,hm⟩ | ⟨f,rfl,hf,hm⟩)
  rotate_left
  ·exact⟨rfl,.inr ⟨f,rfl,by rw [HSM.out,← HN6.out,← HN7.out,hf]; rfl,HG8.out.M.trans hm (fun _ e=>.inl (.inl e))⟩⟩
  have HG9:=(HG8.out.mv hm hr).hid
  have HN9:Hid (nf ts9=dOrd (nf ts7)):=hn
  clear cC hr hn hm HG8
  obtain⟨av1,ac1,af1⟩:=HG9.out.S.cell 1 (show 1 < 36 by omega)
  have HGp:Hid (GD w b G fa fe D (w9.setCell ⟨D,1,none⟩ (zU y9)) ts9):=HG9.out.set 1 (zU y9) rfl
  go_upto_region 9 with fail
  obtain⟨Wp,eWp⟩:∃ Y,w9.setCell ⟨D,1,none⟩ (zU y9)=Y:=⟨_,rfl⟩
  rw [eWp] at HGp
  try rw [eWp]
  clear eWp ac1 af1 HG9
  have HSN:Hid ((dAs (dSel (dEx (dTake ZI (dEx (nf ts))))))=dAs (nf ts9)):=by
   show _=_
   rw [HSM.out,← HN6.out,← HN7.out,← HN9.out]
  have cI:=is_p HGp.out.R ZR
  obtain⟨qa,eqa⟩:∃ q,dIs ZR (nf ts9)=q:=⟨_,rfl⟩
  have HQa:Hid (dIs ZR (nf ts9)=qa):=eqa
  rw [eqa] at cI
  clear eqa
  cases qa with
  | false =>
   go_wp2_with fail
   refine cI.mono ?_
   rintro e wa (⟨rfl,hne,hb⟩ | ⟨rfl,rfl,hb⟩)
   rotate_left
   ·exact⟨rfl,.inr ⟨.lex,rfl,by rw [HSN.out]; rfl,HGp.out.M.trans (Mv.ofBelow (F:=fun k=>k=b) hb) (fun _ e=>.inl (.inl e))⟩⟩
   have HGa:=(HGp.out.on hb).hid
   have HNEa:Hid (ts9≠[]):=hne
   clear cI hb HGp hne
   go_wp2_with fail
   go_end0
   exact .inl ⟨ts9,rfl,HGa.out.R,by rw [HSN.out]; show _=if _ then _ else _; rw [HQa.out]; rfl,HGa.out.S,HGa.out.M⟩
  | true =>
   go_wp2_with fail
   refine cI.mono ?_
   rintro e wa (⟨rfl,hne,hb⟩ | ⟨rfl,rfl,hb⟩)
   rotate_left
   ·exact⟨rfl,.inr ⟨.lex,rfl,by rw [HSN.out]; rfl,HGp.out.M.trans (Mv.ofBelow (F:=fun k=>k=b) hb) (fun _ e=>.inl (.inl e))⟩⟩
   have HGa:=(HGp.out.on hb).hid
   have HNEa:Hid (ts9≠[]):=hne
   clear cI hb HGp hne
   obtain⟨tA,rA,eA⟩:∃ t r,ts9=t :: r:=by
    cases ts9 with
    | nil=>exact absurd rfl HNEa.out
    | cons t r=>exact⟨t,r,rfl⟩
   have HDA:Hid (dAs (nf ts9)=dName (nf rA)):=by
    show (if _ then _ else _)=_
    rw [HQa.out,eA]
    rfl
   rw [eA] at HGa
   have cS:=step_p HGa.out.R
   clear eA
   go_wp2_with fail
   refine cS.mono ?_
   rintro e wb ⟨rfl,hr,hm⟩
   have HGb:=(HGa.out.mv hm hr).hid
   clear cS hr hm HGa
   generalize Value.agg (tkA tA)=DA
   have cC:=name_p HGb.out.R
   go_wp2_with fail
   refine cC.mono ?_
   rintro e wc (⟨_,tsc,rfl,⟨xc,rfl⟩,hr,hn,hm⟩ | ⟨f,rfl,hf,hm⟩)
   rotate_left
   ·exact⟨rfl,.inr ⟨f,rfl,by rw [HSN.out,HDA.out,hf],HGb.out.M.trans hm (fun _ e=>.inl (.inl e))⟩⟩
   have HGc:=(HGb.out.mv hm hr).hid
   have HNc:Hid (nf tsc=dName (nf rA)):=hn
   clear cC hr hn hm HGb
   obtain⟨av2,ac2,af2⟩:=HGc.out.S.cell 2 (show 2 < 36 by omega)
   have HGd:Hid (GD w b G fa fe D (wc.setCell ⟨D,2,none⟩ (.string xc)) tsc):=HGc.out.set 2 (.string xc) rfl
   go_wp2_with fail
   obtain⟨Wd,eWd⟩:∃ Y,wc.setCell ⟨D,2,none⟩ (.string xc)=Y:=⟨_,rfl⟩
   rw [eWd] at HGd
   try rw [eWd]
   clear eWd ac2 af2 HGc
   go_end0
   exact .inl ⟨tsc,rfl,HGd.out.R,by rw [HSN.out,HDA.out]; exact HNc.out,HGd.out.S,HGd.out.M⟩
theorem do_fnd (x:ByteArray):doX x=fnd x [Z2,Z3,Z4,Z7,Z5,Z6] 0+1:=by
 have e0:(eqX x [115,117,98,109,105,116]=true)=(x=Z2):=eqX_iff x #[115,117,98,109,105,116]
 have e1:(eqX x [97,109,101,110,100]=true)=(x=Z3):=eqX_iff x #[97,109,101,110,100]
 have e2:(eqX x [99,97,110,99,101,108]=true)=(x=Z4):=eqX_iff x #[99,97,110,99,101,108]
 have e3:(eqX x [115,101,116]=true)=(x=Z7):=eqX_iff x #[115,101,116]
 have e4:(eqX x [103,111,116,111]=true)=(x=Z5):=eqX_iff x #[103,111,116,111]
 have e5:(eqX x [104,97,108,116]=true)=(x=Z6):=eqX_iff x #[104,97,108,116]
 simp only [doX,fnd,e0,e1,e2,e3,e4,e5]
 by_cases h0:x=Z2
 ·simp only [if_pos h0]; decide
 simp only [if_neg h0]
 by_cases h1:x=Z3
 ·simp only [if_pos h1]; decide
 simp only [if_neg h1]
 by_cases h2:x=Z4
 ·simp only [if_pos h2]; decide
 simp only [if_neg h2]
 by_cases h3:x=Z7
 ·simp only [if_pos h3]; decide
 simp only [if_neg h3]
 by_cases h4:x=Z5
 ·simp only [if_pos h4]; decide
 simp only [if_neg h4]
 by_cases h5:x=Z6
 ·simp only [if_pos h5]; decide
 simp only [if_neg h5]
 decide
theorem GP.mvD {w:World}{b G:Nat}{fa:Int}{fe:Value}{V V':World}{N3 R:Nat}{ts ts':List Tk}(h:GP w b G fa fe V [(N3,110,36),(R,110,36)] ts) (hm:Mv V V' (fun k=>k=b∨k=N3)) (hs:Rp V' b G fa fe ts') (hS:Shp V' N3 110 36):GP w b G fa fe V' [(N3,110,36),(R,110,36)] ts':=by
 have hb:=h.W.1
 have h3:w§≤N3:=(h.B (N3,110,36) (by simp)).2
 refine⟨h.M.trans hm (fun k e=>e.elim .inl (fun e=>.inr (by rw [e]; exact h3))),fun p hp=>?_,hs,h.W⟩
 obtain⟨h1,h2⟩:=h.B p hp
 refine⟨?_,h2⟩
 by_cases e:p.1=N3
 ·have e2:p.2=(110,36):=by
   simp only [List.mem_cons,List.not_mem_nil,or_false] at hp
   rcases hp with hp | hp <;> rw [hp]
  rw [e,e2]
  exact hS
 ·exact h1.blk (hm.block _ h1.lt (by omega))
theorem do0_p {w:World}{b G:Nat}{fa:Int}{fe:Value}{t:Tk}{ts:List Tk}(h:Rp w b G fa fe (t :: ts)) (hv:doX t.x=0):Calls zG 131 #[zP b] w (OutV (Cells 36) b G fa fe w (.error (.tok 130 t.p))):=by
 have HR:=zH h
 have HG0:=(GP.new h zA0 110 36 rfl (by simp [Value.oneCell'])).hid
 clear h
 obtain⟨W0,eW0⟩:∃ W,w.alloc (.cells zA0 110)=W:=⟨_,rfl⟩
 rw [eW0] at HG0
 have HEW:=zH eW0
 clear eW0 HR
 obtain⟨a0,c0,h0⟩:=HG0.out.R.1
 have cL:=look_ok h0
 clear h0
 go_enter Tryz.func131,Tryz.ntmps131
 go_wp2_with fail
 try rw [HEW.out]
 refine cL.mono ?_
 rintro e w1 ⟨rfl,hb⟩
 have HG1:=(HG0.out.on hb).hid
 have cY:=doOf_any t w1
 rw [hv] at cY
 clear cL hb HG0 HEW hv
 go_wp2_with fail
 refine cY.mono ?_
 rintro e w2 ⟨rfl,hb⟩
 have HG2:=(HG1.out.on hb).hid
 clear cY hb HG1
 obtain⟨a2,c2,h1⟩:=HG2.out.R.1
 have cN:=need_tok h1 130
 clear h1
 go_wp2_with fail
 refine cN.mono ?_
 rintro e w3 ⟨rfl,hb⟩
 exact⟨rfl,.inr ⟨_,rfl,rfl,HG2.out.M.trans (Mv.ofBelow hb) (fun _ e=>.inl e)⟩⟩
theorem do1_p {w:World}{b G:Nat}{fa:Int}{fe:Value}{t:Tk}{ts:List Tk}(h:Rp w b G fa fe (t :: ts)) (hv:doX t.x=1):Calls zG 131 #[zP b] w (OutV (Cells 36) b G fa fe w (dAs (dSel (dEx (dTake ZI (dEx (nf ts))))))):=by
 have HR:=zH h
 have HG0:=(GP.new h zA0 110 36 rfl (by simp [Value.oneCell'])).hid
 clear h
 obtain⟨W0,eW0⟩:∃ W,w.alloc (.cells zA0 110)=W:=⟨_,rfl⟩
 rw [eW0] at HG0
 have HEW:=zH eW0
 clear eW0 HR
 obtain⟨a0,c0,h0⟩:=HG0.out.R.1
 have cL:=look_ok h0
 clear h0
 go_enter Tryz.func131,Tryz.ntmps131
 go_wp2_with fail
 try rw [HEW.out]
 refine cL.mono ?_
 rintro e w1 ⟨rfl,hb⟩
 have HG1:=(HG0.out.on hb).hid
 have cY:=doOf_any t w1
 rw [hv] at cY
 clear cL hb HG0 HEW hv
 go_wp2_with fail
 refine cY.mono ?_
 rintro e w2 ⟨rfl,hb⟩
 have HG2:=(HG1.out.on hb).hid
 clear cY hb HG1
 have cN:=need_ok w2 b 130
 have cS:=step_p HG2.out.R
 go_wp2_with (go_at_call 72; refine cN.mono ?_; rintro e w3 ⟨rfl,e4⟩; obtain rfl:=e4.symm)
 refine cS.mono ?_
 rintro e w3 ⟨rfl,hr,hm⟩
 have HG3:=(HG2.out.mv hm hr).hid
 have hf4:=fun v=>field82_4 t v
 clear cS cN hr hm HG2
 have HGp:=(HG3.out.push zA0 110 36 rfl (by simp [Value.oneCell'])).hid
 obtain⟨cs1,ecs1⟩:∃ c:Array Value,#[zU 1,zU 0,.string ⟨#[]⟩,zU 0,zU 0,zU 0,zI 0,zU 0,.string ⟨#[]⟩,.slice none 0 0,zI 0,zU 0,zU 0,zU 0,zI 0,zU 0,.string ⟨#[]⟩,.slice none 0 0,zI 0,zU 0,zU 0,zU 0,zI 0,zU 0,.string ⟨#[]⟩,.slice none 0 0,zI 0,zU 0,zU 0,zU 0,zI 0,zU 0,.string ⟨#[]⟩,.slice none 0 0,zI 0,zI t.p]=c:=⟨_,rfl⟩
 have hcs1:cs1.size=36:=by rw [← ecs1]; rfl
 have hcs2:cs1.all (·.oneCell')=true:=by rw [← ecs1]; simp [Value.oneCell']
 have HG4:=(HGp.out.row (N:=w3§) (T:=110) (n:=36) (by simp) cs1 hcs1 hcs2).1.hid
 have HZ:Hid ((w3.alloc (.cells zA0 110)).heap[w3§]? = some (.cells zA0 110 (0,0))):=Hn _ _
 have HBN:Hid (b≠w3§∧G≠w3§):=by have h1:=HG3.out.W; have h2:=HG3.out.M.size; exact⟨by omega,by omega⟩
 clear HGp HG3
 go_upto_region 4 with (refine wpList_store_row rfl 110 (.tmp 4) (.tmp 16) rfl w3§ cs1 rfl (by first | rfl | exact congrArg Value.agg ecs1) 110 zA0 HZ.out (by rw [hcs1]; exact size110) (by rw [hcs1]; rfl) hcs2 ?_)
 generalize hW4:World.setRow _ _ _=W4
 have HG4:Hid (GP w b G fa fe W4 [(w3§,110,36),(w§,110,36)] ts):=by rw [← hW4]; exact HG4.out
 obtain⟨N3,eN3⟩:∃ q,w3§=q:=⟨_,rfl⟩
 rw [eN3] at HG4 HBN ⊢
 clear eN3 HZ hW4 hf4
 generalize Value.agg _=D0
 clear ecs1 hcs1 hcs2
 have cD:=submit_p HG4.out.R (HG4.out.B (N3,110,36) (by simp)).1 HBN.out
 go_wp2_with fail
 refine cD.mono ?_
 rintro e w5 (⟨ts5,rfl,hr,hn,hsh,hm⟩ | ⟨f,rfl,hf,hm⟩)
 rotate_left
 ·exact⟨rfl,.inr ⟨f,rfl,hf,HG4.out.M.trans hm (fun k e=>e.elim .inl (fun e=>.inr (by rw [e]; exact (HG4.out.B (N3,110,36) (by simp)).2)))⟩⟩
 have HG5:=(HG4.out.mvD hm hr hsh).hid
 have HN5:=zH hn
 clear cD hr hn hsh hm HG4
 obtain⟨cs,hc1,hc2,hc3⟩:=(HG5.out.B (N3,110,36) (by simp)).1
 obtain⟨old,ho1,ho2,ho3⟩:=(HG5.out.B (w§,110,36) (by simp)).1
 have HC:=zH hc1
 have HO:=zH ho1
 have HF:=zH (HG5.out.row (N:=w§) (T:=110) (n:=36) (by simp) cs hc2 hc3)
 have HSZ1:Hid (cs.size=36∧old.size=36∧cs.all (·.oneCell')=true):=⟨hc2,ho2,hc3⟩
 clear hc1 hc2 hc3 ho1 ho2 ho3
 go_wp2_with (first | (refine wpList_load_row rfl 110 (.tmp 4) rfl N3 rfl 110 cs (0,0) _ HC.out Tryz.underlying110 rfl (by rw [HSZ1.out.1]; exact size110) ?_) | (refine wpList_store_row rfl 110 (.tmp 2) (.tmp 36) rfl w§ cs rfl rfl 110 old HO.out (by rw [HSZ1.out.1]; exact size110) (by rw [HSZ1.out.1,HSZ1.out.2.1]) HSZ1.out.2.2 ?_))
 exact bodyPost_ret (results_cell_row rfl _ _ w§ 110 cs (0,0) _ rfl HF.out.2 Tryz.underlying110 rfl (by rw [HSZ1.out.1]; exact size110)) rfl (.inl ⟨_,ts5,rfl,⟨cs,rfl,HSZ1.out.1,HSZ1.out.2.2⟩,HF.out.1.R,by exact HN5.out,HF.out.1.M⟩)
theorem do2_p {w:World}{b G:Nat}{fa:Int}{fe:Value}{t:Tk}{ts:List Tk}(h:Rp w b G fa fe (t :: ts)) (hv:doX t.x=2):Calls zG 131 #[zP b] w (OutV (Cells 36) b G fa fe w (dEx (dTake Zi (dEx (dTake ZS (dName (nf ts))))))):=by
 have HR:=zH h
 have HG0:=(GP.new h zA0 110 36 rfl (by simp [Value.oneCell'])).hid
 clear h
 obtain⟨W0,eW0⟩:∃ W,w.alloc (.cells zA0 110)=W:=⟨_,rfl⟩
 rw [eW0] at HG0
 have HEW:=zH eW0
 clear eW0 HR
 obtain⟨a0,c0,h0⟩:=HG0.out.R.1
 have cL:=look_ok h0
 clear h0
 go_enter Tryz.func131,Tryz.ntmps131
 go_wp2_with fail
 try rw [HEW.out]
 refine cL.mono ?_
 rintro e w1 ⟨rfl,hb⟩
 have HG1:=(HG0.out.on hb).hid
 have cY:=doOf_any t w1
 rw [hv] at cY
 clear cL hb HG0 HEW hv
 go_wp2_with fail
 refine cY.mono ?_
 rintro e w2 ⟨rfl,hb⟩
 have HG2:=(HG1.out.on hb).hid
 clear cY hb HG1
 have cN:=need_ok w2 b 130
 have cS:=step_p HG2.out.R
 go_wp2_with (go_at_call 72; refine cN.mono ?_; rintro e w3 ⟨rfl,e4⟩; obtain rfl:=e4.symm)
 refine cS.mono ?_
 rintro e w3 ⟨rfl,hr,hm⟩
 have HG3:=(HG2.out.mv hm hr).hid
 have hf4:=fun v=>field82_4 t v
 clear cS cN hr hm HG2
 have HGp:=(HG3.out.push zA0 110 36 rfl (by simp [Value.oneCell'])).hid
 obtain⟨cs1,ecs1⟩:∃ c:Array Value,#[zU 2,zU 0,.string ⟨#[]⟩,zU 0,zU 0,zU 0,zI 0,zU 0,.string ⟨#[]⟩,.slice none 0 0,zI 0,zU 0,zU 0,zU 0,zI 0,zU 0,.string ⟨#[]⟩,.slice none 0 0,zI 0,zU 0,zU 0,zU 0,zI 0,zU 0,.string ⟨#[]⟩,.slice none 0 0,zI 0,zU 0,zU 0,zU 0,zI 0,zU 0,.string ⟨#[]⟩,.slice none 0 0,zI 0,zI t.p]=c:=⟨_,rfl⟩
 have hcs1:cs1.size=36:=by rw [← ecs1]; rfl
 have hcs2:cs1.all (·.oneCell')=true:=by rw [← ecs1]; simp [Value.oneCell']
 have HG4:=(HGp.out.row (N:=w3§) (T:=110) (n:=36) (by simp) cs1 hcs1 hcs2).1.hid
 have HZ:Hid ((w3.alloc (.cells zA0 110)).heap[w3§]? = some (.cells zA0 110 (0,0))):=Hn _ _
 have HBN:Hid (b≠w3§∧G≠w3§):=by have h1:=HG3.out.W; have h2:=HG3.out.M.size; exact⟨by omega,by omega⟩
 clear HGp HG3
 go_upto_region 4 with (refine wpList_store_row rfl 110 (.tmp 4) (.tmp 16) rfl w3§ cs1 rfl (by first | rfl | exact congrArg Value.agg ecs1) 110 zA0 HZ.out (by rw [hcs1]; exact size110) (by rw [hcs1]; rfl) hcs2 ?_)
 generalize hW4:World.setRow _ _ _=W4
 have HG4:Hid (GP w b G fa fe W4 [(w3§,110,36),(w§,110,36)] ts):=by rw [← hW4]; exact HG4.out
 obtain⟨N3,eN3⟩:∃ q,w3§=q:=⟨_,rfl⟩
 rw [eN3] at HG4 HBN ⊢
 clear eN3 HZ hW4 hf4
 generalize Value.agg _=D0
 clear ecs1 hcs1 hcs2
 have cD:=amend_p HG4.out.R (HG4.out.B (N3,110,36) (by simp)).1 HBN.out
 go_wp2_with fail
 refine cD.mono ?_
 rintro e w5 (⟨ts5,rfl,hr,hn,hsh,hm⟩ | ⟨f,rfl,hf,hm⟩)
 rotate_left
 ·exact⟨rfl,.inr ⟨f,rfl,hf,HG4.out.M.trans hm (fun k e=>e.elim .inl (fun e=>.inr (by rw [e]; exact (HG4.out.B (N3,110,36) (by simp)).2)))⟩⟩
 have HG5:=(HG4.out.mvD hm hr hsh).hid
 have HN5:=zH hn
 clear cD hr hn hsh hm HG4
 obtain⟨cs,hc1,hc2,hc3⟩:=(HG5.out.B (N3,110,36) (by simp)).1
 obtain⟨old,ho1,ho2,ho3⟩:=(HG5.out.B (w§,110,36) (by simp)).1
 have HC:=zH hc1
 have HO:=zH ho1
 have HF:=zH (HG5.out.row (N:=w§) (T:=110) (n:=36) (by simp) cs hc2 hc3)
 have HSZ1:Hid (cs.size=36∧old.size=36∧cs.all (·.oneCell')=true):=⟨hc2,ho2,hc3⟩
 clear hc1 hc2 hc3 ho1 ho2 ho3
 go_wp2_with (first | (refine wpList_load_row rfl 110 (.tmp 4) rfl N3 rfl 110 cs (0,0) _ HC.out Tryz.underlying110 rfl (by rw [HSZ1.out.1]; exact size110) ?_) | (refine wpList_store_row rfl 110 (.tmp 2) (.tmp 36) rfl w§ cs rfl rfl 110 old HO.out (by rw [HSZ1.out.1]; exact size110) (by rw [HSZ1.out.1,HSZ1.out.2.1]) HSZ1.out.2.2 ?_))
 exact bodyPost_ret (results_cell_row rfl _ _ w§ 110 cs (0,0) _ rfl HF.out.2 Tryz.underlying110 rfl (by rw [HSZ1.out.1]; exact size110)) rfl (.inl ⟨_,ts5,rfl,⟨cs,rfl,HSZ1.out.1,HSZ1.out.2.2⟩,HF.out.1.R,by exact HN5.out,HF.out.1.M⟩)
theorem do3_p {w:World}{b G:Nat}{fa:Int}{fe:Value}{t:Tk}{ts:List Tk}(h:Rp w b G fa fe (t :: ts)) (hv:doX t.x=3):Calls zG 131 #[zP b] w (OutV (Cells 36) b G fa fe w (dName (nf ts))):=by
 have HR:=zH h
 have HG0:=(GP.new h zA0 110 36 rfl (by simp [Value.oneCell'])).hid
 clear h
 obtain⟨W0,eW0⟩:∃ W,w.alloc (.cells zA0 110)=W:=⟨_,rfl⟩
 rw [eW0] at HG0
 have HEW:=zH eW0
 clear eW0 HR
 obtain⟨a0,c0,h0⟩:=HG0.out.R.1
 have cL:=look_ok h0
 clear h0
 go_enter Tryz.func131,Tryz.ntmps131
 go_wp2_with fail
 try rw [HEW.out]
 refine cL.mono ?_
 rintro e w1 ⟨rfl,hb⟩
 have HG1:=(HG0.out.on hb).hid
 have cY:=doOf_any t w1
 rw [hv] at cY
 clear cL hb HG0 HEW hv
 go_wp2_with fail
 refine cY.mono ?_
 rintro e w2 ⟨rfl,hb⟩
 have HG2:=(HG1.out.on hb).hid
 clear cY hb HG1
 have cN:=need_ok w2 b 130
 have cS:=step_p HG2.out.R
 go_wp2_with (go_at_call 72; refine cN.mono ?_; rintro e w3 ⟨rfl,e4⟩; obtain rfl:=e4.symm)
 refine cS.mono ?_
 rintro e w3 ⟨rfl,hr,hm⟩
 have HG3:=(HG2.out.mv hm hr).hid
 have hf4:=fun v=>field82_4 t v
 clear cS cN hr hm HG2
 have HGp:=(HG3.out.push zA0 110 36 rfl (by simp [Value.oneCell'])).hid
 obtain⟨cs1,ecs1⟩:∃ c:Array Value,#[zU 3,zU 0,.string ⟨#[]⟩,zU 0,zU 0,zU 0,zI 0,zU 0,.string ⟨#[]⟩,.slice none 0 0,zI 0,zU 0,zU 0,zU 0,zI 0,zU 0,.string ⟨#[]⟩,.slice none 0 0,zI 0,zU 0,zU 0,zU 0,zI 0,zU 0,.string ⟨#[]⟩,.slice none 0 0,zI 0,zU 0,zU 0,zU 0,zI 0,zU 0,.string ⟨#[]⟩,.slice none 0 0,zI 0,zI t.p]=c:=⟨_,rfl⟩
 have hcs1:cs1.size=36:=by rw [← ecs1]; rfl
 have hcs2:cs1.all (·.oneCell')=true:=by rw [← ecs1]; simp [Value.oneCell']
 have HG4:=(HGp.out.row (N:=w3§) (T:=110) (n:=36) (by simp) cs1 hcs1 hcs2).1.hid
 have HZ:Hid ((w3.alloc (.cells zA0 110)).heap[w3§]? = some (.cells zA0 110 (0,0))):=Hn _ _
 have HBN:Hid (b≠w3§∧G≠w3§):=by have h1:=HG3.out.W; have h2:=HG3.out.M.size; exact⟨by omega,by omega⟩
 clear HGp HG3
 go_upto_region 4 with (refine wpList_store_row rfl 110 (.tmp 4) (.tmp 16) rfl w3§ cs1 rfl (by first | rfl | exact congrArg Value.agg ecs1) 110 zA0 HZ.out (by rw [hcs1]; exact size110) (by rw [hcs1]; rfl) hcs2 ?_)
 generalize hW4:World.setRow _ _ _=W4
 have HG4:Hid (GP w b G fa fe W4 [(w3§,110,36),(w§,110,36)] ts):=by rw [← hW4]; exact HG4.out
 obtain⟨N3,eN3⟩:∃ q,w3§=q:=⟨_,rfl⟩
 rw [eN3] at HG4 HBN ⊢
 clear eN3 HZ hW4 hf4
 generalize Value.agg _=D0
 clear ecs1 hcs1 hcs2
 have cN:=name_p HG4.out.R
 go_wp2_with fail
 refine cN.mono ?_
 rintro e w5 (⟨_,ts5,rfl,⟨x5,rfl⟩,hr,hn,hm⟩ | ⟨f,rfl,hf,hm⟩)
 rotate_left
 ·exact⟨rfl,.inr ⟨f,rfl,by exact hf,HG4.out.M.trans hm (fun _ e=>.inl e)⟩⟩
 have HG5:=(HG4.out.mv hm hr).hid
 have HN5:=zH hn
 clear cN hr hn hm HG4
 obtain⟨av2,ac2,af2⟩:=(HG5.out.B (N3,110,36) (by simp)).1.cell 2 (show 2 < 36 by omega)
 have HG6:=zH (HG5.out.set (N:=N3) (T:=110) (n:=36) (by simp) 2 (.string x5) rfl)
 go_upto_region 14 with fail
 obtain⟨W6,eW6⟩:∃ Y,w5.setCell ⟨N3,2,none⟩ (.string x5)=Y:=⟨_,rfl⟩
 rw [eW6] at HG6 ⊢
 clear eW6 ac2 af2 HG5
 obtain⟨cs,hc1,hc2,hc3⟩:=(HG6.out.B (N3,110,36) (by simp)).1
 obtain⟨old,ho1,ho2,ho3⟩:=(HG6.out.B (w§,110,36) (by simp)).1
 have HC:=zH hc1
 have HO:=zH ho1
 have HF:=zH (HG6.out.row (N:=w§) (T:=110) (n:=36) (by simp) cs hc2 hc3)
 have HSZ1:Hid (cs.size=36∧old.size=36∧cs.all (·.oneCell')=true):=⟨hc2,ho2,hc3⟩
 clear hc1 hc2 hc3 ho1 ho2 ho3
 go_wp2_with (first | (refine wpList_load_row rfl 110 (.tmp 4) rfl N3 rfl 110 cs (0,0) _ HC.out Tryz.underlying110 rfl (by rw [HSZ1.out.1]; exact size110) ?_) | (refine wpList_store_row rfl 110 (.tmp 2) (.tmp 36) rfl w§ cs rfl rfl 110 old HO.out (by rw [HSZ1.out.1]; exact size110) (by rw [HSZ1.out.1,HSZ1.out.2.1]) HSZ1.out.2.2 ?_))
 exact bodyPost_ret (results_cell_row rfl _ _ w§ 110 cs (0,0) _ rfl HF.out.2 Tryz.underlying110 rfl (by rw [HSZ1.out.1]; exact size110)) rfl (.inl ⟨_,ts5,rfl,⟨cs,rfl,HSZ1.out.1,HSZ1.out.2.2⟩,HF.out.1.R,by exact HN5.out,HF.out.1.M⟩)
theorem do4_p {w:World}{b G:Nat}{fa:Int}{fe:Value}{t:Tk}{ts:List Tk}(h:Rp w b G fa fe (t :: ts)) (hv:doX t.x=4):Calls zG 131 #[zP b] w (OutV (Cells 36) b G fa fe w (dEx (dTake Zv (dName (nf ts))))):=by
 have HR:=zH h
 have HG0:=(GP.new h zA0 110 36 rfl (by simp [Value.oneCell'])).hid
 clear h
 obtain⟨W0,eW0⟩:∃ W,w.alloc (.cells zA0 110)=W:=⟨_,rfl⟩
 rw [eW0] at HG0
 have HEW:=zH eW0
 clear eW0 HR
 obtain⟨a0,c0,h0⟩:=HG0.out.R.1
 have cL:=look_ok h0
 clear h0
 go_enter Tryz.func131,Tryz.ntmps131
 go_wp2_with fail
 try rw [HEW.out]
 refine cL.mono ?_
 rintro e w1 ⟨rfl,hb⟩
 have HG1:=(HG0.out.on hb).hid
 have cY:=doOf_any t w1
 rw [hv] at cY
 clear cL hb HG0 HEW hv
 go_wp2_with fail
 refine cY.mono ?_
 rintro e w2 ⟨rfl,hb⟩
 have HG2:=(HG1.out.on hb).hid
 clear cY hb HG1
 have cN:=need_ok w2 b 130
 have cS:=step_p HG2.out.R
 go_wp2_with (go_at_call 72; refine cN.mono ?_; rintro e w3 ⟨rfl,e4⟩; obtain rfl:=e4.symm)
 refine cS.mono ?_
 rintro e w3 ⟨rfl,hr,hm⟩
 have HG3:=(HG2.out.mv hm hr).hid
 have hf4:=fun v=>field82_4 t v
 clear cS cN hr hm HG2
 have HGp:=(HG3.out.push zA0 110 36 rfl (by simp [Value.oneCell'])).hid
 obtain⟨cs1,ecs1⟩:∃ c:Array Value,#[zU 4,zU 0,.string ⟨#[]⟩,zU 0,zU 0,zU 0,zI 0,zU 0,.string ⟨#[]⟩,.slice none 0 0,zI 0,zU 0,zU 0,zU 0,zI 0,zU 0,.string ⟨#[]⟩,.slice none 0 0,zI 0,zU 0,zU 0,zU 0,zI 0,zU 0,.string ⟨#[]⟩,.slice none 0 0,zI 0,zU 0,zU 0,zU 0,zI 0,zU 0,.string ⟨#[]⟩,.slice none 0 0,zI 0,zI t.p]=c:=⟨_,rfl⟩
 have hcs1:cs1.size=36:=by rw [← ecs1]; rfl
 have hcs2:cs1.all (·.oneCell')=true:=by rw [← ecs1]; simp [Value.oneCell']
 have HG4:=(HGp.out.row (N:=w3§) (T:=110) (n:=36) (by simp) cs1 hcs1 hcs2).1.hid
 have HZ:Hid ((w3.alloc (.cells zA0 110)).heap[w3§]? = some (.cells zA0 110 (0,0))):=Hn _ _
 have HBN:Hid (b≠w3§∧G≠w3§):=by have h1:=HG3.out.W; have h2:=HG3.out.M.size; exact⟨by omega,by omega⟩
 clear HGp HG3
 go_upto_region 4 with (refine wpList_store_row rfl 110 (.tmp 4) (.tmp 16) rfl w3§ cs1 rfl (by first | rfl | exact congrArg Value.agg ecs1) 110 zA0 HZ.out (by rw [hcs1]; exact size110) (by rw [hcs1]; rfl) hcs2 ?_)
 generalize hW4:World.setRow _ _ _=W4
 have HG4:Hid (GP w b G fa fe W4 [(w3§,110,36),(w§,110,36)] ts):=by rw [← hW4]; exact HG4.out
 obtain⟨N3,eN3⟩:∃ q,w3§=q:=⟨_,rfl⟩
 rw [eN3] at HG4 HBN ⊢
 clear eN3 HZ hW4 hf4
 generalize Value.agg _=D0
 clear ecs1 hcs1 hcs2
 have cD:=set_p HG4.out.R (HG4.out.B (N3,110,36) (by simp)).1 HBN.out
 go_wp2_with fail
 refine cD.mono ?_
 rintro e w5 (⟨ts5,rfl,hr,hn,hsh,hm⟩ | ⟨f,rfl,hf,hm⟩)
 rotate_left
 ·exact⟨rfl,.inr ⟨f,rfl,hf,HG4.out.M.trans hm (fun k e=>e.elim .inl (fun e=>.inr (by rw [e]; exact (HG4.out.B (N3,110,36) (by simp)).2)))⟩⟩
 have HG5:=(HG4.out.mvD hm hr hsh).hid
 have HN5:=zH hn
 clear cD hr hn hsh hm HG4
 obtain⟨cs,hc1,hc2,hc3⟩:=(HG5.out.B (N3,110,36) (by simp)).1
 obtain⟨old,ho1,ho2,ho3⟩:=(HG5.out.B (w§,110,36) (by simp)).1
 have HC:=zH hc1
 have HO:=zH ho1
 have HF:=zH (HG5.out.row (N:=w§) (T:=110) (n:=36) (by simp) cs hc2 hc3)
 have HSZ1:Hid (cs.size=36∧old.size=36∧cs.all (·.oneCell')=true):=⟨hc2,ho2,hc3⟩
 clear hc1 hc2 hc3 ho1 ho2 ho3
 go_wp2_with (first | (refine wpList_load_row rfl 110 (.tmp 4) rfl N3 rfl 110 cs (0,0) _ HC.out Tryz.underlying110 rfl (by rw [HSZ1.out.1]; exact size110) ?_) | (refine wpList_store_row rfl 110 (.tmp 2) (.tmp 36) rfl w§ cs rfl rfl 110 old HO.out (by rw [HSZ1.out.1]; exact size110) (by rw [HSZ1.out.1,HSZ1.out.2.1]) HSZ1.out.2.2 ?_))
 exact bodyPost_ret (results_cell_row rfl _ _ w§ 110 cs (0,0) _ rfl HF.out.2 Tryz.underlying110 rfl (by rw [HSZ1.out.1]; exact size110)) rfl (.inl ⟨_,ts5,rfl,⟨cs,rfl,HSZ1.out.1,HSZ1.out.2.2⟩,HF.out.1.R,by exact HN5.out,HF.out.1.M⟩)
theorem do5_p {w:World}{b G:Nat}{fa:Int}{fe:Value}{t:Tk}{ts:List Tk}(h:Rp w b G fa fe (t :: ts)) (hv:doX t.x=5):Calls zG 131 #[zP b] w (OutV (Cells 36) b G fa fe w (dName (nf ts))):=by
 have HR:=zH h
 have HG0:=(GP.new h zA0 110 36 rfl (by simp [Value.oneCell'])).hid
 clear h
 obtain⟨W0,eW0⟩:∃ W,w.alloc (.cells zA0 110)=W:=⟨_,rfl⟩
 rw [eW0] at HG0
 have HEW:=zH eW0
 clear eW0 HR
 obtain⟨a0,c0,h0⟩:=HG0.out.R.1
 have cL:=look_ok h0
 clear h0
 go_enter Tryz.func131,Tryz.ntmps131
 go_wp2_with fail
 try rw [HEW.out]
 refine cL.mono ?_
 rintro e w1 ⟨rfl,hb⟩
 have HG1:=(HG0.out.on hb).hid
 have cY:=doOf_any t w1
 rw [hv] at cY
 clear cL hb HG0 HEW hv
 go_wp2_with fail
 refine cY.mono ?_
 rintro e w2 ⟨rfl,hb⟩
 have HG2:=(HG1.out.on hb).hid
 clear cY hb HG1
 have cN:=need_ok w2 b 130
 have cS:=step_p HG2.out.R
 go_wp2_with (go_at_call 72; refine cN.mono ?_; rintro e w3 ⟨rfl,e4⟩; obtain rfl:=e4.symm)
 refine cS.mono ?_
 rintro e w3 ⟨rfl,hr,hm⟩
 have HG3:=(HG2.out.mv hm hr).hid
 have hf4:=fun v=>field82_4 t v
 clear cS cN hr hm HG2
 have HGp:=(HG3.out.push zA0 110 36 rfl (by simp [Value.oneCell'])).hid
 obtain⟨cs1,ecs1⟩:∃ c:Array Value,#[zU 5,zU 0,.string ⟨#[]⟩,zU 0,zU 0,zU 0,zI 0,zU 0,.string ⟨#[]⟩,.slice none 0 0,zI 0,zU 0,zU 0,zU 0,zI 0,zU 0,.string ⟨#[]⟩,.slice none 0 0,zI 0,zU 0,zU 0,zU 0,zI 0,zU 0,.string ⟨#[]⟩,.slice none 0 0,zI 0,zU 0,zU 0,zU 0,zI 0,zU 0,.string ⟨#[]⟩,.slice none 0 0,zI 0,zI t.p]=c:=⟨_,rfl⟩
 have hcs1:cs1.size=36:=by rw [← ecs1]; rfl
 have hcs2:cs1.all (·.oneCell')=true:=by rw [← ecs1]; simp [Value.oneCell']
 have HG4:=(HGp.out.row (N:=w3§) (T:=110) (n:=36) (by simp) cs1 hcs1 hcs2).1.hid
 have HZ:Hid ((w3.alloc (.cells zA0 110)).heap[w3§]? = some (.cells zA0 110 (0,0))):=Hn _ _
 have HBN:Hid (b≠w3§∧G≠w3§):=by have h1:=HG3.out.W; have h2:=HG3.out.M.size; exact⟨by omega,by omega⟩
 clear HGp HG3
 go_upto_region 4 with (refine wpList_store_row rfl 110 (.tmp 4) (.tmp 16) rfl w3§ cs1 rfl (by first | rfl | exact congrArg Value.agg ecs1) 110 zA0 HZ.out (by rw [hcs1]; exact size110) (by rw [hcs1]; rfl) hcs2 ?_)
 generalize hW4:World.setRow _ _ _=W4
 have HG4:Hid (GP w b G fa fe W4 [(w3§,110,36),(w§,110,36)] ts):=by rw [← hW4]; exact HG4.out
 obtain⟨N3,eN3⟩:∃ q,w3§=q:=⟨_,rfl⟩
 rw [eN3] at HG4 HBN ⊢
 clear eN3 HZ hW4 hf4
 generalize Value.agg _=D0
 clear ecs1 hcs1 hcs2
 have cN:=name_p HG4.out.R
 go_wp2_with fail
 refine cN.mono ?_
 rintro e w5 (⟨_,ts5,rfl,⟨x5,rfl⟩,hr,hn,hm⟩ | ⟨f,rfl,hf,hm⟩)
 rotate_left
 ·exact⟨rfl,.inr ⟨f,rfl,by exact hf,HG4.out.M.trans hm (fun _ e=>.inl e)⟩⟩
 have HG5:=(HG4.out.mv hm hr).hid
 have HN5:=zH hn
 clear cN hr hn hm HG4
 obtain⟨av2,ac2,af2⟩:=(HG5.out.B (N3,110,36) (by simp)).1.cell 2 (show 2 < 36 by omega)
 have HG6:=zH (HG5.out.set (N:=N3) (T:=110) (n:=36) (by simp) 2 (.string x5) rfl)
 go_upto_region 14 with fail
 obtain⟨W6,eW6⟩:∃ Y,w5.setCell ⟨N3,2,none⟩ (.string x5)=Y:=⟨_,rfl⟩
 rw [eW6] at HG6 ⊢
 clear eW6 ac2 af2 HG5
 obtain⟨cs,hc1,hc2,hc3⟩:=(HG6.out.B (N3,110,36) (by simp)).1
 obtain⟨old,ho1,ho2,ho3⟩:=(HG6.out.B (w§,110,36) (by simp)).1
 have HC:=zH hc1
 have HO:=zH ho1
 have HF:=zH (HG6.out.row (N:=w§) (T:=110) (n:=36) (by simp) cs hc2 hc3)
 have HSZ1:Hid (cs.size=36∧old.size=36∧cs.all (·.oneCell')=true):=⟨hc2,ho2,hc3⟩
 clear hc1 hc2 hc3 ho1 ho2 ho3
 go_wp2_with (first | (refine wpList_load_row rfl 110 (.tmp 4) rfl N3 rfl 110 cs (0,0) _ HC.out Tryz.underlying110 rfl (by rw [HSZ1.out.1]; exact size110) ?_) | (refine wpList_store_row rfl 110 (.tmp 2) (.tmp 36) rfl w§ cs rfl rfl 110 old HO.out (by rw [HSZ1.out.1]; exact size110) (by rw [HSZ1.out.1,HSZ1.out.2.1]) HSZ1.out.2.2 ?_))
 exact bodyPost_ret (results_cell_row rfl _ _ w§ 110 cs (0,0) _ rfl HF.out.2 Tryz.underlying110 rfl (by rw [HSZ1.out.1]; exact size110)) rfl (.inl ⟨_,ts5,rfl,⟨cs,rfl,HSZ1.out.1,HSZ1.out.2.2⟩,HF.out.1.R,by exact HN5.out,HF.out.1.M⟩)
theorem do6_p {w:World}{b G:Nat}{fa:Int}{fe:Value}{t:Tk}{ts:List Tk}(h:Rp w b G fa fe (t :: ts)) (hv:doX t.x=6):Calls zG 131 #[zP b] w (OutV (Cells 36) b G fa fe w (nf ts)):=by
 have HR:=zH h
 have HG0:=(GP.new h zA0 110 36 rfl (by simp [Value.oneCell'])).hid
 clear h
 obtain⟨W0,eW0⟩:∃ W,w.alloc (.cells zA0 110)=W:=⟨_,rfl⟩
 rw [eW0] at HG0
 have HEW:=zH eW0
 clear eW0 HR
 obtain⟨a0,c0,h0⟩:=HG0.out.R.1
 have cL:=look_ok h0
 clear h0
 go_enter Tryz.func131,Tryz.ntmps131
 go_wp2_with fail
 try rw [HEW.out]
 refine cL.mono ?_
 rintro e w1 ⟨rfl,hb⟩
 have HG1:=(HG0.out.on hb).hid
 have cY:=doOf_any t w1
 rw [hv] at cY
 clear cL hb HG0 HEW hv
 go_wp2_with fail
 refine cY.mono ?_
 rintro e w2 ⟨rfl,hb⟩
 have HG2:=(HG1.out.on hb).hid
 clear cY hb HG1
 have cN:=need_ok w2 b 130
 have cS:=step_p HG2.out.R
 go_wp2_with (go_at_call 72; refine cN.mono ?_; rintro e w3 ⟨rfl,e4⟩; obtain rfl:=e4.symm)
 refine cS.mono ?_
 rintro e w3 ⟨rfl,hr,hm⟩
 have HG3:=(HG2.out.mv hm hr).hid
 have hf4:=fun v=>field82_4 t v
 clear cS cN hr hm HG2
 have HGp:=(HG3.out.push zA0 110 36 rfl (by simp [Value.oneCell'])).hid
 obtain⟨cs1,ecs1⟩:∃ c:Array Value,#[zU 6,zU 0,.string ⟨#[]⟩,zU 0,zU 0,zU 0,zI 0,zU 0,.string ⟨#[]⟩,.slice none 0 0,zI 0,zU 0,zU 0,zU 0,zI 0,zU 0,.string ⟨#[]⟩,.slice none 0 0,zI 0,zU 0,zU 0,zU 0,zI 0,zU 0,.string ⟨#[]⟩,.slice none 0 0,zI 0,zU 0,zU 0,zU 0,zI 0,zU 0,.string ⟨#[]⟩,.slice none 0 0,zI 0,zI t.p]=c:=⟨_,rfl⟩
 have hcs1:cs1.size=36:=by rw [← ecs1]; rfl
 have hcs2:cs1.all (·.oneCell')=true:=by rw [← ecs1]; simp [Value.oneCell']
 have HG4:=(HGp.out.row (N:=w3§) (T:=110) (n:=36) (by simp) cs1 hcs1 hcs2).1.hid
 have HZ:Hid ((w3.alloc (.cells zA0 110)).heap[w3§]? = some (.cells zA0 110 (0,0))):=Hn _ _
 have HBN:Hid (b≠w3§∧G≠w3§):=by have h1:=HG3.out.W; have h2:=HG3.out.M.size; exact⟨by omega,by omega⟩
 clear HGp HG3
 go_upto_region 4 with (refine wpList_store_row rfl 110 (.tmp 4) (.tmp 16) rfl w3§ cs1 rfl (by first | rfl | exact congrArg Value.agg ecs1) 110 zA0 HZ.out (by rw [hcs1]; exact size110) (by rw [hcs1]; rfl) hcs2 ?_)
 generalize hW4:World.setRow _ _ _=W4
 have HG4:Hid (GP w b G fa fe W4 [(w3§,110,36),(w§,110,36)] ts):=by rw [← hW4]; exact HG4.out
 obtain⟨N3,eN3⟩:∃ q,w3§=q:=⟨_,rfl⟩
 rw [eN3] at HG4 HBN ⊢
 clear eN3 HZ hW4 hf4
 generalize Value.agg _=D0
 clear ecs1 hcs1 hcs2
 go_upto_region 14 with fail
 obtain⟨cs,hc1,hc2,hc3⟩:=(HG4.out.B (N3,110,36) (by simp)).1
 obtain⟨old,ho1,ho2,ho3⟩:=(HG4.out.B (w§,110,36) (by simp)).1
 have HC:=zH hc1
 have HO:=zH ho1
 have HF:=zH (HG4.out.row (N:=w§) (T:=110) (n:=36) (by simp) cs hc2 hc3)
 have HSZ1:Hid (cs.size=36∧old.size=36∧cs.all (·.oneCell')=true):=⟨hc2,ho2,hc3⟩
 clear hc1 hc2 hc3 ho1 ho2 ho3
 go_wp2_with (first | (refine wpList_load_row rfl 110 (.tmp 4) rfl N3 rfl 110 cs (0,0) _ HC.out Tryz.underlying110 rfl (by rw [HSZ1.out.1]; exact size110) ?_) | (refine wpList_store_row rfl 110 (.tmp 2) (.tmp 36) rfl w§ cs rfl rfl 110 old HO.out (by rw [HSZ1.out.1]; exact size110) (by rw [HSZ1.out.1,HSZ1.out.2.1]) HSZ1.out.2.2 ?_))
 exact bodyPost_ret (results_cell_row rfl _ _ w§ 110 cs (0,0) _ rfl HF.out.2 Tryz.underlying110 rfl (by rw [HSZ1.out.1]; exact size110)) rfl (.inl ⟨_,ts,rfl,⟨cs,rfl,HSZ1.out.1,HSZ1.out.2.2⟩,HF.out.1.R,by rfl,HF.out.1.M⟩)
theorem doN_p {w:World}{b G:Nat}{fa:Int}{fe:Value}(h:Rp w b G fa fe []):Calls zG 131 #[zP b] w (OutV (Cells 36) b G fa fe w (.error .lex)):=by
 have HG0:=(GP.new h zA0 110 36 rfl (by simp [Value.oneCell'])).hid
 clear h
 obtain⟨W0,eW0⟩:∃ W,w.alloc (.cells zA0 110)=W:=⟨_,rfl⟩
 rw [eW0] at HG0
 have HEW:=zH eW0
 clear eW0
 obtain⟨a0,c0,h0⟩:=HG0.out.R.1
 have cL:=look_no h0
 clear h0
 go_enter Tryz.func131,Tryz.ntmps131
 go_wp2_with fail
 try rw [HEW.out]
 refine cL.mono ?_
 rintro e w1 ⟨rfl,hb⟩
 exact⟨rfl,.inr ⟨.lex,rfl,rfl,HG0.out.M.trans (Mv.ofBelow hb) (fun _ e=>.inl e)⟩⟩
theorem do_p {w:World}{b G:Nat}{fa:Int}{fe:Value}{ts:List Tk}(h:Rp w b G fa fe ts):Calls zG 131 #[zP b] w (OutV (Cells 36) b G fa fe w (dDo (nf ts))):=by
 cases ts with
 | nil=>exact doN_p h
 | cons t ts =>
  have hd:=do_fnd t.x
  have hrg:=fnd_rg t.x [Z2,Z3,Z4,Z7,Z5,Z6] 0
  simp only [List.length_cons,List.length_nil] at hrg
  have ea:dAny [Z2,Z3,Z4,Z7,Z5,Z6] (nf (t :: ts))=fnd t.x [Z2,Z3,Z4,Z7,Z5,Z6] 0:=rfl
  unfold dDo
  rw [ea]
  obtain e | e | e | e | e | e | e:fnd t.x [Z2,Z3,Z4,Z7,Z5,Z6] 0=0∨fnd t.x [Z2,Z3,Z4,Z7,Z5,Z6] 0=1∨fnd t.x [Z2,Z3,Z4,Z7,Z5,Z6] 0=2∨fnd t.x [Z2,Z3,Z4,Z7,Z5,Z6] 0=3∨fnd t.x [Z2,Z3,Z4,Z7,Z5,Z6] 0=4∨fnd t.x [Z2,Z3,Z4,Z7,Z5,Z6] 0=5∨fnd t.x [Z2,Z3,Z4,Z7,Z5,Z6] 0 = -1:=by omega
  ·rw [e] at hd ⊢
   rw [if_pos rfl]
   have ex:t.x=Z2:=by
    have hm:=fnd_mem t.x [Z2,Z3,Z4,Z7,Z5,Z6] 0 (by omega)
    simp only [List.mem_cons,List.not_mem_nil,or_false] at hm
    rcases hm with hm | hm | hm | hm | hm | hm
    ·exact hm
    all_goals (rw [hm] at e; exact absurd e (by decide))
   have e2:dSubmit (nf (t :: ts))=(dAs (dSel (dEx (dTake ZI (dEx (nf ts)))))):=by
    unfold dSubmit
    show dAs (dSel (dEx (dTake ZI (dEx (if t.x=Z2 then nf ts else _)))))=_
    rw [if_pos ex]
   rw [e2]
   exact do1_p h hd
  ·rw [e] at hd ⊢; rw [if_neg (by decide),if_pos rfl]; exact do2_p h hd
  ·rw [e] at hd ⊢; rw [if_neg (by decide),if_neg (by decide),if_pos rfl]; exact do3_p h hd
  ·rw [e] at hd ⊢; rw [if_neg (by decide),if_neg (by decide),if_neg (by decide),if_pos rfl]; exact do4_p h hd
  ·rw [e] at hd ⊢; rw [if_neg (by decide),if_neg (by decide),if_neg (by decide),if_neg (by decide),if_pos rfl]; exact do5_p h hd
  ·rw [e] at hd ⊢; rw [if_neg (by decide),if_neg (by decide),if_neg (by decide),if_neg (by decide),if_neg (by decide),if_pos rfl]; exact do6_p h hd
  ·rw [e] at hd ⊢; rw [if_neg (by decide),if_neg (by decide),if_neg (by decide),if_neg (by decide),if_neg (by decide),if_neg (by decide)]; exact do0_p h hd
end Go.Proofs.YtkfabnchhjfjjaaGreatDoor
