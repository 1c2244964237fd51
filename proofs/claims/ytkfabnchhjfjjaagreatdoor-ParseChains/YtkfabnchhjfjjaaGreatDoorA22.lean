import Derived.Test.YtkfabnchhjfjjaaGreatDoorA0
import Derived.Test.YtkfabnchhjfjjaaGreatDoorA21
import Derived.Deep.AppendLies
namespace Go.Proofs.YtkfabnchhjfjjaaGreatDoor
set_option maxRecDepth 100000
set_option maxHeartbeats 8000000
open Go.RowKit
set_option linter.unusedVariables false
def dDo (s:St):St :=
 if dAny [Z2,Z3,Z4,Z7,Z5,Z6] s=0 then dSubmit s
 else if dAny [Z2,Z3,Z4,Z7,Z5,Z6] s=1 then dEx (dTake Zi (dEx (dTake ZS (dName (dStep s)))))
 else if dAny [Z2,Z3,Z4,Z7,Z5,Z6] s=2 then dName (dStep s)
 else if dAny [Z2,Z3,Z4,Z7,Z5,Z6] s=3 then dEx (dTake Zv (dName (dStep s)))
 else if dAny [Z2,Z3,Z4,Z7,Z5,Z6] s=4 then dName (dStep s)
 else if dAny [Z2,Z3,Z4,Z7,Z5,Z6] s=5 then dStep s
 else dWrong 130 s
def Fst (V:World) (N:Nat) (v:Value):Prop:=∃ cs:Array Value,V.heap[N]? = some (.cells cs 110 (0,0))∧cs[0]? = some v
theorem Fst.hid {V:World}{N:Nat}{v:Value}(h:Fst V N v):Hid (Fst V N v):=h
theorem Fst.blk {V V':World}{N:Nat}{v:Value}(h:Fst V N v) (k:V'.heap[N]? = V.heap[N]?):Fst V' N v:=by
 obtain⟨cs,h1,h2⟩:=h
 exact⟨cs,k.trans h1,h2⟩
theorem Fst.lt {V:World}{N:Nat}{v:Value}(h:Fst V N v):N < V§:=by
 obtain⟨cs,h1,h2⟩:=h
 exact (Array.getElem?_eq_some_iff.1 h1).1
theorem Fst.cell {V:World}{N:Nat}{v:Value}(h:Fst V N v):V.cell? ⟨N,0,none⟩=some v:=by
 obtain⟨cs,h1,h2⟩:=h
 rw [Co h1 0]; exact h2
theorem Fst.set {V:World}{N:Nat}{v:Value}(h:Fst V N v) (i:Nat) (hi:i≠0) (x:Value):Fst (V.setCell ⟨N,i,none⟩ x) N v:=by
 obtain⟨cs,h1,h2⟩:=h
 refine⟨cs.setIfInBounds i x,Hs0 x h1,?_⟩
 rw [Array.getElem?_setIfInBounds,if_neg hi]; exact h2
theorem Fst.mv {V V':World}{N b:Nat}{v:Value}(h:Fst V N v) (hm:Mv V V' (fun k=>k=b)) (hb:b≠N):Fst V' N v:=h.blk (hm.block _ h.lt (fun e=>hb e.symm))
theorem do_none {w:World}{b:Nat}{K:PK}{s:St}(hK:KG K) (h:Sp w b K s) (hv:dAny [Z2,Z3,Z4,Z7,Z5,Z6] s = -1):Calls zG 134 #[zP b] w (OutG 36 b K w (dWrong 130 s)):=by
 have EV:=zH hv
 clear hv
 have HK:Hid (KG K):=hK
 have HG0:=(GX.new h zA0 110 36 rfl (by simp [Value.oneCell'])).hid
 clear h hK
 obtain⟨W0,eW0⟩:∃ W,w.alloc (.cells zA0 110)=W:=⟨_,rfl⟩
 rw [eW0] at HG0
 have cN:=now_g HG0.out.S
 have hf:=fun v=>field82_4 (hdT s) v
 go_enter Tryz.func134,Tryz.ntmps134
 go_wp2_with fail
 try rw [eW0]
 refine cN.mono ?_
 rintro e w1 ⟨rfl,hb1⟩
 have HG1:=(HG0.out.on hb1).hid
 clear cN hb1 HG0 eW0
 have HW:Hid (Below w1§ w1 (w1.alloc (.cells zA1 9))):=Bn _ _
 have hSL:SLs (w1.alloc (.cells zA1 9)) w1§ [Z2,Z3,Z4,Z7,Z5,Z6]:=fun j hj=>by
  have hh:=Hn w1 (.cells zA1 9)
  match j,hj with
  | 0,_=>exact Co hh 0
  | 1,_=>exact Co hh 1
  | 2,_=>exact Co hh 2
  | 3,_=>exact Co hh 3
  | 4,_=>exact Co hh 4
  | 5,_=>exact Co hh 5
 have cA:=any_g HK.out ((HG1.out.S).on HW.out) (n:=6) (c:=6) hSL rfl (by omega) (by intro x hx; simp only [List.mem_cons,List.not_mem_nil,or_false] at hx; rcases hx with rfl | rfl | rfl | rfl | rfl | rfl <;> exact⟨by decide +kernel,by decide⟩)
 clear hSL
 rw [EV.out] at cA
 go_wp2_with fail
 refine cA.mono ?_
 rintro e w4 ⟨rfl,hb4⟩
 have HG4:=((HG1.out.on HW.out).on hb4).hid
 have cW:=wrong_g HG4.out.S 130 (by decide)
 clear cA hb4 HW HG1
 go_wp2_with fail
 refine cW.mono ?_
 rintro e w5 ⟨rfl,hs,hm⟩
 have HG5:=(HG4.out.mv hm hs).hid
 clear cW hs hm HG4
 obtain⟨cs1,ecs1⟩:∃ c:Array Value,zA0=c:=⟨_,rfl⟩
 have hcs1:cs1.size=36:=by rw [← ecs1]; rfl
 have hcs2:cs1.all (·.oneCell')=true:=by rw [← ecs1]; simp [Value.oneCell']
 obtain⟨old,ho1,ho2,ho3⟩:=(HG5.out.B (w§,110,36) (by simp)).1
 have HO:Hid (w5.heap[w§]? = some (.cells old 110 (0,0))∧old.size=36):=⟨ho1,ho2⟩
 have HF:=HG5.out.row (N:=w§) (T:=110) (n:=36) (by simp) cs1 hcs1 hcs2
 have HF:=zH HF
 clear ho1 ho2 ho3 HG5
 go_wp2_with (refine wpList_store_row rfl 110 (.tmp 2) (.tmp 16) rfl w§ cs1 rfl (by first | rfl | exact congrArg Value.agg ecs1) 110 old HO.out.1 (by rw [hcs1]; exact size110) (by rw [hcs1,HO.out.2]) hcs2 ?_)
 exact bodyPost_ret (results_cell_row rfl _ _ w§ 110 cs1 (0,0) _ rfl HF.out.2 Tryz.underlying110 rfl (by rw [hcs1]; exact size110)) rfl ⟨cs1,rfl,hcs1,hcs2,HF.out.1.S,HF.out.1.M⟩
theorem do_submit {w:World}{b:Nat}{K:PK}{s:St}(hK:KG K) (h:Sp w b K s) (hv:dAny [Z2,Z3,Z4,Z7,Z5,Z6] s=0):Calls zG 134 #[zP b] w (OutG 36 b K w (dSubmit s)):=by
 have EV:=zH hv
 clear hv
 have HK:Hid (KG K):=hK
 have HG0:=(GX.new h zA0 110 36 rfl (by simp [Value.oneCell'])).hid
 clear h hK
 obtain⟨W0,eW0⟩:∃ W,w.alloc (.cells zA0 110)=W:=⟨_,rfl⟩
 rw [eW0] at HG0
 have cN:=now_g HG0.out.S
 have hf:=fun v=>field82_4 (hdT s) v
 go_enter Tryz.func134,Tryz.ntmps134
 go_wp2_with fail
 try rw [eW0]
 refine cN.mono ?_
 rintro e w1 ⟨rfl,hb1⟩
 have HG1:=(HG0.out.on hb1).hid
 clear cN hb1 HG0 eW0
 have HW:Hid (Below w1§ w1 (w1.alloc (.cells zA1 9))):=Bn _ _
 have hSL:SLs (w1.alloc (.cells zA1 9)) w1§ [Z2,Z3,Z4,Z7,Z5,Z6]:=fun j hj=>by
  have hh:=Hn w1 (.cells zA1 9)
  match j,hj with
  | 0,_=>exact Co hh 0
  | 1,_=>exact Co hh 1
  | 2,_=>exact Co hh 2
  | 3,_=>exact Co hh 3
  | 4,_=>exact Co hh 4
  | 5,_=>exact Co hh 5
 have cA:=any_g HK.out ((HG1.out.S).on HW.out) (n:=6) (c:=6) hSL rfl (by omega) (by intro x hx; simp only [List.mem_cons,List.not_mem_nil,or_false] at hx; rcases hx with rfl | rfl | rfl | rfl | rfl | rfl <;> exact⟨by decide +kernel,by decide⟩)
 clear hSL
 rw [EV.out] at cA
 go_wp2_with fail
 refine cA.mono ?_
 rintro e w4 ⟨rfl,hb4⟩
 have HG4:=((HG1.out.on HW.out).on hb4).hid
 have cS:=submit_g HK.out HG4.out.S
 clear cA hb4 HW HG1
 go_wp2_with fail
 refine cS.mono ?_
 rintro e w5 ⟨cs1,rfl,hcs1,hcs2,hs,hm⟩
 have HG5:=(HG4.out.mv hm hs).hid
 clear cS hs hm HG4
 obtain⟨old,ho1,ho2,ho3⟩:=(HG5.out.B (w§,110,36) (by simp)).1
 have HO:Hid (w5.heap[w§]? = some (.cells old 110 (0,0))∧old.size=36):=⟨ho1,ho2⟩
 have HF:=HG5.out.row (N:=w§) (T:=110) (n:=36) (by simp) cs1 hcs1 hcs2
 have HF:=zH HF
 clear ho1 ho2 ho3 HG5
 go_wp2_with (refine wpList_store_row rfl 110 (.tmp 2) (.tmp 20) rfl w§ cs1 rfl rfl 110 old HO.out.1 (by rw [hcs1]; exact size110) (by rw [hcs1,HO.out.2]) hcs2 ?_)
 exact bodyPost_ret (results_cell_row rfl _ _ w§ 110 cs1 (0,0) _ rfl HF.out.2 Tryz.underlying110 rfl (by rw [hcs1]; exact size110)) rfl ⟨cs1,rfl,hcs1,hcs2,HF.out.1.S,HF.out.1.M⟩
theorem do_amend {w:World}{b:Nat}{K:PK}{s:St}(hK:KG K) (h:Sp w b K s) (hv:dAny [Z2,Z3,Z4,Z7,Z5,Z6] s=1):Calls zG 134 #[zP b] w (OutG 36 b K w (dEx (dTake Zi (dEx (dTake ZS (dName (dStep s))))))):=by
 have EV:Hid (dAny [Z2,Z3,Z4,Z7,Z5,Z6] s=1):=hv
 clear hv
 obtain⟨r0,er0⟩:∃ q,(dEx (dTake Zi (dEx (dTake ZS (dName (dStep s))))))=q:=⟨_,rfl⟩
 have HR0:Hid ((dEx (dTake Zi (dEx (dTake ZS (dName (dStep s))))))=r0):=er0
 rw [er0]
 clear er0
 have HK:Hid (KG K):=hK
 have HG0:=(GX.new h zA0 110 36 rfl (by simp [Value.oneCell'])).hid
 clear h hK
 obtain⟨W0,eW0⟩:∃ W,w.alloc (.cells zA0 110)=W:=⟨_,rfl⟩
 rw [eW0] at HG0
 have cN:=now_g HG0.out.S
 have hf:=fun v=>field82_4 (hdT s) v
 go_enter Tryz.func134,Tryz.ntmps134
 go_wp2_with fail
 try rw [eW0]
 refine cN.mono ?_
 rintro e w1 ⟨rfl,hb1⟩
 have HG1:=(HG0.out.on hb1).hid
 clear cN hb1 HG0 eW0
 have HW:Hid (Below w1§ w1 (w1.alloc (.cells zA1 9))):=Bn _ _
 have hSL:SLs (w1.alloc (.cells zA1 9)) w1§ [Z2,Z3,Z4,Z7,Z5,Z6]:=fun j hj=>by
  have hh:=Hn w1 (.cells zA1 9)
  match j,hj with
  | 0,_=>exact Co hh 0
  | 1,_=>exact Co hh 1
  | 2,_=>exact Co hh 2
  | 3,_=>exact Co hh 3
  | 4,_=>exact Co hh 4
  | 5,_=>exact Co hh 5
 have cA:=any_g HK.out ((HG1.out.S).on HW.out) (n:=6) (c:=6) hSL rfl (by omega) (by intro x hx; simp only [List.mem_cons,List.not_mem_nil,or_false] at hx; rcases hx with rfl | rfl | rfl | rfl | rfl | rfl <;> exact⟨by decide +kernel,by decide⟩)
 clear hSL
 rw [EV.out] at cA
 obtain⟨t3,ts3,e3,_⟩:=dAny_ok (s:=s) (L:=[Z2,Z3,Z4,Z7,Z5,Z6]) (by rw [EV.out]; decide)
 have HDS:Hid (dStep s=nf ts3):=by show _=_; rw [e3]; rfl
 have HE3:Hid (s=.ok (t3 :: ts3)):=e3
 clear e3
 go_wp2_with fail
 refine cA.mono ?_
 rintro e w4 ⟨rfl,hb4⟩
 have HG4:=((HG1.out.on HW.out).on hb4).hid
 have hlv:Lv w4 b K (t3 :: ts3):=by
  have h1:=HG4.out.S
  rw [HE3.out] at h1
  exact h1.2
 clear cA hb4 HW HG1
 obtain⟨id,c3,f3,hmx,hL,hM,_,_⟩:=hlv.at'
 obtain⟨Vd,eVd⟩:∃ V,w4.setCell ⟨b,3,none⟩ (zI ((id:Int)+1))=V:=⟨_,rfl⟩
 rw [eVd] at hL hM
 have HG5:=(HG4.out.mv hM hL.sp).hid
 clear hL hM HG4
 go_upto_region 9 with fail
 try rw [eVd]
 clear eVd c3 f3 hmx
 clear hlv
 have HGp:=(HG5.out.push zA0 110 36 rfl (by simp [Value.oneCell'])).hid
 obtain⟨cs1,ecs1⟩:∃ c:Array Value,#[zU 2,zU 0,.string ⟨#[]⟩,zU 0,zU 0,zU 0,zI 0,zU 0,.string ⟨#[]⟩,.slice none 0 0,zI 0,zU 0,zU 0,zU 0,zI 0,zU 0,.string ⟨#[]⟩,.slice none 0 0,zI 0,zU 0,zU 0,zU 0,zI 0,zU 0,.string ⟨#[]⟩,.slice none 0 0,zI 0,zU 0,zU 0,zU 0,zI 0,zU 0,.string ⟨#[]⟩,.slice none 0 0,zI 0,zI (hdT s).p]=c:=⟨_,rfl⟩
 have hcs1:cs1.size=36:=by rw [← ecs1]; rfl
 have hcs2:cs1.all (·.oneCell')=true:=by rw [← ecs1]; simp [Value.oneCell']
 have hcs3:cs1[0]? = some (zU 2):=by rw [← ecs1]; rfl
 have HG6:=(HGp.out.row (N:=Vd§) (T:=110) (n:=36) (by simp) cs1 hcs1 hcs2).1.hid
 have HF6:Fst ((Vd.alloc (.cells zA0 110)).setRow Vd§ cs1) Vd§ (zU 2):=⟨cs1,(HGp.out.row (N:=Vd§) (T:=110) (n:=36) (by simp) cs1 hcs1 hcs2).2,hcs3⟩
 have HZ:Hid ((Vd.alloc (.cells zA0 110)).heap[Vd§]? = some (.cells zA0 110 (0,0))):=Hn _ _
 have HBN:Hid (b≠Vd§):=by have h1:=HG5.out.W.1; have h2:=HG5.out.M.size; show _≠_; omega
 clear HGp HG5
 go_upto_region 10 with (refine wpList_store_row rfl 110 (.tmp 5) (.tmp 32) rfl Vd§ cs1 rfl (by first | rfl | exact congrArg Value.agg ecs1) 110 zA0 HZ.out (by rw [hcs1]; exact size110) (by rw [hcs1]; rfl) hcs2 ?_)
 generalize hW1:World.setRow _ _ _=W1
 have HG6:Hid (GX w b K W1 [(Vd§,110,36),(w§,110,36)] (nf ts3)):=by rw [← hW1]; exact HG6.out
 have HF6:Hid (Fst W1 Vd§ (zU 2)):=by rw [← hW1]; exact HF6
 obtain⟨N3,eN3⟩:∃ q,Vd§=q:=⟨_,rfl⟩
 rw [eN3] at HG6 HF6 HBN ⊢
 clear eN3 HZ hW1
 generalize Value.agg _=D0
 clear ecs1 hcs1 hcs2 hcs3
 have k0:=HF6.out.cell
 have cN:=name_g HG6.out.S
 go_wp2_with fail
 refine cN.mono ?_
 rintro e w7 ⟨⟨x7,rfl⟩,hs,hm⟩
 have HG7:=(HG6.out.mv hm hs).hid
 have HF7:=(HF6.out.mv hm HBN.out).hid
 obtain⟨av2,ac2,af2⟩:=(HG7.out.B (N3,110,36) (by simp)).1.cell 2 (show 2 < 36 by omega)
 have HG8:Hid (GX w b K (w7.setCell ⟨N3,2,none⟩ (.string x7)) _ (dName (nf ts3))):=HG7.out.set (N:=N3) (T:=110) (n:=36) (by simp) 2 (.string x7) rfl
 have HF8:Hid (Fst (w7.setCell ⟨N3,2,none⟩ (.string x7)) N3 (zU 2)):=HF7.out.set 2 (by decide) _
 clear cN hs hm HG6 HF6 k0
 go_upto_region 12 with fail
 obtain⟨X7,eX7⟩:∃ Y,w7.setCell ⟨N3,2,none⟩ (.string x7)=Y:=⟨_,rfl⟩
 rw [eX7] at HG8 HF8 ⊢
 clear eX7 ac2 af2 HG7 HF7
 have k0:=HF8.out.cell
 go_upto_region 13 with fail
 clear k0
 have cT:=take_g HK.out HG8.out.S ZS (by decide +kernel) (by decide)
 go_wp2_with fail
 refine cT.mono ?_
 rintro e ta ⟨⟨pta,rfl⟩,hs,hm⟩
 have HGt:=(HG8.out.mv hm hs).hid
 have HFt:=(HF8.out.mv hm HBN.out).hid
 clear cT hs hm HG8 HF8
 have cE:=expr0_d HK.out.k ta (dTake ZS (dName (nf ts3))) HGt.out.S
 go_wp2_with fail
 refine cE.mono ?_
 rintro e ue ⟨⟨⟨k2,o2,ty2,n2,f2,x2,p2⟩,am2,cm2,ks2⟩,rfl,hl,hk,hs,hm,ht⟩
 simp only [Nd.vals,Nd.h,Nd.a,Nd.c,Nd.ks,hdA]
 have HGxe:=(HGt.out.mv hm hs).hid
 have HFtx:=HFt.out.mv hm HBN.out
 have HFte:Hid (Fst ((((((((ue.setCell ⟨N3,11,none⟩ (zU k2)).setCell ⟨N3,12,none⟩ (zU o2)).setCell ⟨N3,13,none⟩ (zU ty2)).setCell ⟨N3,14,none⟩ (zI n2)).setCell ⟨N3,15,none⟩ (zU f2)).setCell ⟨N3,16,none⟩ (.string x2)).setCell ⟨N3,17,none⟩ (.slice am2 ks2.length cm2)).setCell ⟨N3,18,none⟩ (zI p2)) N3 (zU 2)):=((((((((HFtx.set 11 (by decide) _).set 12 (by decide) _).set 13 (by decide) _).set 14 (by decide) _).set 15 (by decide) _).set 16 (by decide) _).set 17 (by decide) _).set 18 (by decide) _)
 clear cE hl hk hs hm ht HGt HFtx HFt
 obtain⟨av11,ac11,af11⟩:=(HGxe.out.B (N3,110,36) (by simp)).1.cell 11 (show 11 < 36 by omega)
 obtain⟨av12,ac12,af12⟩:=(HGxe.out.B (N3,110,36) (by simp)).1.cell 12 (show 12 < 36 by omega)
 obtain⟨av13,ac13,af13⟩:=(HGxe.out.B (N3,110,36) (by simp)).1.cell 13 (show 13 < 36 by omega)
 obtain⟨av14,ac14,af14⟩:=(HGxe.out.B (N3,110,36) (by simp)).1.cell 14 (show 14 < 36 by omega)
 obtain⟨av15,ac15,af15⟩:=(HGxe.out.B (N3,110,36) (by simp)).1.cell 15 (show 15 < 36 by omega)
 obtain⟨av16,ac16,af16⟩:=(HGxe.out.B (N3,110,36) (by simp)).1.cell 16 (show 16 < 36 by omega)
 obtain⟨av17,ac17,af17⟩:=(HGxe.out.B (N3,110,36) (by simp)).1.cell 17 (show 17 < 36 by omega)
 obtain⟨av18,ac18,af18⟩:=(HGxe.out.B (N3,110,36) (by simp)).1.cell 18 (show 18 < 36 by omega)
 have HGee:Hid (GX w b K ((((((((ue.setCell ⟨N3,11,none⟩ (zU k2)).setCell ⟨N3,12,none⟩ (zU o2)).setCell ⟨N3,13,none⟩ (zU ty2)).setCell ⟨N3,14,none⟩ (zI n2)).setCell ⟨N3,15,none⟩ (zU f2)).setCell ⟨N3,16,none⟩ (.string x2)).setCell ⟨N3,17,none⟩ (.slice am2 ks2.length cm2)).setCell ⟨N3,18,none⟩ (zI p2)) _ (dEx (dTake ZS (dName (nf ts3))))):=HGxe.out.node (N:=N3) (T:=110) (n:=36) (by simp) 11 (Nd.mk ⟨k2,o2,ty2,n2,f2,x2,p2⟩ am2 cm2 ks2)
 go_upto_region 15 with fail
 obtain⟨Ye,eYe⟩:∃ Y,((((((((ue.setCell ⟨N3,11,none⟩ (zU k2)).setCell ⟨N3,12,none⟩ (zU o2)).setCell ⟨N3,13,none⟩ (zU ty2)).setCell ⟨N3,14,none⟩ (zI n2)).setCell ⟨N3,15,none⟩ (zU f2)).setCell ⟨N3,16,none⟩ (.string x2)).setCell ⟨N3,17,none⟩ (.slice am2 ks2.length cm2)).setCell ⟨N3,18,none⟩ (zI p2))=Y:=⟨_,rfl⟩
 rw [eYe] at HGee HFte ⊢
 clear eYe ac11 af11 ac12 af12 ac13 af13 ac14 af14 ac15 af15 ac16 af16 ac17 af17 ac18 af18 HGxe
 generalize Value.agg (zN k2 o2 ty2 n2 f2 x2 am2 ks2 cm2 p2)=Dge
 have cT:=take_g HK.out HGee.out.S Zi (by decide +kernel) (by decide)
 go_wp2_with fail
 refine cT.mono ?_
 rintro e tb ⟨⟨ptb,rfl⟩,hs,hm⟩
 have HGu:=(HGee.out.mv hm hs).hid
 have HFu:=(HFte.out.mv hm HBN.out).hid
 clear cT hs hm HGee HFte
 have cE:=expr0_d HK.out.k tb (dTake Zi (dEx (dTake ZS (dName (nf ts3))))) HGu.out.S
 go_wp2_with fail
 refine cE.mono ?_
 rintro e uh ⟨⟨⟨k3,o3,ty3,n3,f3,x3,p3⟩,am3,cm3,ks3⟩,rfl,hl,hk,hs,hm,ht⟩
 simp only [Nd.vals,Nd.h,Nd.a,Nd.c,Nd.ks,hdA]
 have HGxh:=(HGu.out.mv hm hs).hid
 have HFux:=HFu.out.mv hm HBN.out
 have HFuh:Hid (Fst ((((((((uh.setCell ⟨N3,19,none⟩ (zU k3)).setCell ⟨N3,20,none⟩ (zU o3)).setCell ⟨N3,21,none⟩ (zU ty3)).setCell ⟨N3,22,none⟩ (zI n3)).setCell ⟨N3,23,none⟩ (zU f3)).setCell ⟨N3,24,none⟩ (.string x3)).setCell ⟨N3,25,none⟩ (.slice am3 ks3.length cm3)).setCell ⟨N3,26,none⟩ (zI p3)) N3 (zU 2)):=((((((((HFux.set 19 (by decide) _).set 20 (by decide) _).set 21 (by decide) _).set 22 (by decide) _).set 23 (by decide) _).set 24 (by decide) _).set 25 (by decide) _).set 26 (by decide) _)
 clear cE hl hk hs hm ht HGu HFux HFu
 obtain⟨av19,ac19,af19⟩:=(HGxh.out.B (N3,110,36) (by simp)).1.cell 19 (show 19 < 36 by omega)
 obtain⟨av20,ac20,af20⟩:=(HGxh.out.B (N3,110,36) (by simp)).1.cell 20 (show 20 < 36 by omega)
 obtain⟨av21,ac21,af21⟩:=(HGxh.out.B (N3,110,36) (by simp)).1.cell 21 (show 21 < 36 by omega)
 obtain⟨av22,ac22,af22⟩:=(HGxh.out.B (N3,110,36) (by simp)).1.cell 22 (show 22 < 36 by omega)
 obtain⟨av23,ac23,af23⟩:=(HGxh.out.B (N3,110,36) (by simp)).1.cell 23 (show 23 < 36 by omega)
 obtain⟨av24,ac24,af24⟩:=(HGxh.out.B (N3,110,36) (by simp)).1.cell 24 (show 24 < 36 by omega)
 obtain⟨av25,ac25,af25⟩:=(HGxh.out.B (N3,110,36) (by simp)).1.cell 25 (show 25 < 36 by omega)
 obtain⟨av26,ac26,af26⟩:=(HGxh.out.B (N3,110,36) (by simp)).1.cell 26 (show 26 < 36 by omega)
 have HGeh:Hid (GX w b K ((((((((uh.setCell ⟨N3,19,none⟩ (zU k3)).setCell ⟨N3,20,none⟩ (zU o3)).setCell ⟨N3,21,none⟩ (zU ty3)).setCell ⟨N3,22,none⟩ (zI n3)).setCell ⟨N3,23,none⟩ (zU f3)).setCell ⟨N3,24,none⟩ (.string x3)).setCell ⟨N3,25,none⟩ (.slice am3 ks3.length cm3)).setCell ⟨N3,26,none⟩ (zI p3)) _ (dEx (dTake Zi (dEx (dTake ZS (dName (nf ts3))))))):=HGxh.out.node (N:=N3) (T:=110) (n:=36) (by simp) 19 (Nd.mk ⟨k3,o3,ty3,n3,f3,x3,p3⟩ am3 cm3 ks3)
 go_upto_region 17 with fail
 obtain⟨Yh,eYh⟩:∃ Y,((((((((uh.setCell ⟨N3,19,none⟩ (zU k3)).setCell ⟨N3,20,none⟩ (zU o3)).setCell ⟨N3,21,none⟩ (zU ty3)).setCell ⟨N3,22,none⟩ (zI n3)).setCell ⟨N3,23,none⟩ (zU f3)).setCell ⟨N3,24,none⟩ (.string x3)).setCell ⟨N3,25,none⟩ (.slice am3 ks3.length cm3)).setCell ⟨N3,26,none⟩ (zI p3))=Y:=⟨_,rfl⟩
 rw [eYh] at HGeh HFuh ⊢
 clear eYh ac19 af19 ac20 af20 ac21 af21 ac22 af22 ac23 af23 ac24 af24 ac25 af25 ac26 af26 HGxh
 generalize Value.agg (zN k3 o3 ty3 n3 f3 x3 am3 ks3 cm3 p3)=Dgh
 have k0:=HFuh.out.cell
 go_upto_region 20 with fail
 clear k0
 obtain⟨cs,hc1,hc2,hc3⟩:=(HGeh.out.B (N3,110,36) (by simp)).1
 obtain⟨old,ho1,ho2,ho3⟩:=(HGeh.out.B (w§,110,36) (by simp)).1
 have HC:Hid (Yh.heap[N3]? = some (.cells cs 110 (0,0))):=hc1
 have HO:Hid (Yh.heap[w§]? = some (.cells old 110 (0,0))):=ho1
 have HF:Hid (GX w b K (Yh.setRow w§ cs) _ (dEx (dTake Zi (dEx (dTake ZS (dName (nf ts3))))))∧(Yh.setRow w§ cs).heap[w§]? = some (.cells cs 110 (0,0))):=HGeh.out.row (N:=w§) (T:=110) (n:=36) (by simp) cs hc2 hc3
 have HN1:Hid (cs.size=36∧old.size=36∧cs.all (·.oneCell')=true):=⟨hc2,ho2,hc3⟩
 clear hc1 hc2 hc3 ho1 ho2 ho3
 go_wp2_with (first | (refine wpList_load_row rfl 110 (.tmp 5) rfl N3 rfl 110 cs (0,0) _ HC.out Tryz.underlying110 rfl (by rw [HN1.out.1]; exact size110) ?_) | (refine wpList_store_row rfl 110 (.tmp 2) (.tmp 60) rfl w§ cs rfl rfl 110 old HO.out (by rw [HN1.out.1]; exact size110) (by rw [HN1.out.1,HN1.out.2.1]) HN1.out.2.2 ?_))
 exact bodyPost_ret (results_cell_row rfl _ _ w§ 110 cs (0,0) _ rfl HF.out.2 Tryz.underlying110 rfl (by rw [HN1.out.1]; exact size110)) rfl ⟨cs,rfl,HN1.out.1,HN1.out.2.2,by rw [← HR0.out,HDS.out]; exact HF.out.1.S,HF.out.1.M⟩
theorem do_cancel {w:World}{b:Nat}{K:PK}{s:St}(hK:KG K) (h:Sp w b K s) (hv:dAny [Z2,Z3,Z4,Z7,Z5,Z6] s=2):Calls zG 134 #[zP b] w (OutG 36 b K w (dName (dStep s))):=by
 have EV:=zH hv
 clear hv
 obtain⟨r0,er0⟩:∃ q,(dName (dStep s))=q:=⟨_,rfl⟩
 have HR0:=zH er0
 rw [er0]
 clear er0
 have HK:Hid (KG K):=hK
 have HG0:=(GX.new h zA0 110 36 rfl (by simp [Value.oneCell'])).hid
 clear h hK
 obtain⟨W0,eW0⟩:∃ W,w.alloc (.cells zA0 110)=W:=⟨_,rfl⟩
 rw [eW0] at HG0
 have cN:=now_g HG0.out.S
 have hf:=fun v=>field82_4 (hdT s) v
 go_enter Tryz.func134,Tryz.ntmps134
 go_wp2_with fail
 try rw [eW0]
 refine cN.mono ?_
 rintro e w1 ⟨rfl,hb1⟩
 have HG1:=(HG0.out.on hb1).hid
 clear cN hb1 HG0 eW0
 have HW:Hid (Below w1§ w1 (w1.alloc (.cells zA1 9))):=Bn _ _
 have hSL:SLs (w1.alloc (.cells zA1 9)) w1§ [Z2,Z3,Z4,Z7,Z5,Z6]:=fun j hj=>by
  have hh:=Hn w1 (.cells zA1 9)
  match j,hj with
  | 0,_=>exact Co hh 0
  | 1,_=>exact Co hh 1
  | 2,_=>exact Co hh 2
  | 3,_=>exact Co hh 3
  | 4,_=>exact Co hh 4
  | 5,_=>exact Co hh 5
 have cA:=any_g HK.out ((HG1.out.S).on HW.out) (n:=6) (c:=6) hSL rfl (by omega) (by intro x hx; simp only [List.mem_cons,List.not_mem_nil,or_false] at hx; rcases hx with rfl | rfl | rfl | rfl | rfl | rfl <;> exact⟨by decide +kernel,by decide⟩)
 clear hSL
 rw [EV.out] at cA
 obtain⟨t3,ts3,e3,_⟩:=dAny_ok (s:=s) (L:=[Z2,Z3,Z4,Z7,Z5,Z6]) (by rw [EV.out]; decide)
 have HDS:Hid (dStep s=nf ts3):=by show _=_; rw [e3]; rfl
 have HE3:Hid (s=.ok (t3 :: ts3)):=e3
 clear e3
 go_wp2_with fail
 refine cA.mono ?_
 rintro e w4 ⟨rfl,hb4⟩
 have HG4:=((HG1.out.on HW.out).on hb4).hid
 have hlv:Lv w4 b K (t3 :: ts3):=by
  have h1:=HG4.out.S
  rw [HE3.out] at h1
  exact h1.2
 clear cA hb4 HW HG1
 obtain⟨id,c3,f3,hmx,hL,hM,_,_⟩:=hlv.at'
 obtain⟨Vd,eVd⟩:∃ V,w4.setCell ⟨b,3,none⟩ (zI ((id:Int)+1))=V:=⟨_,rfl⟩
 rw [eVd] at hL hM
 have HG5:=(HG4.out.mv hM hL.sp).hid
 clear hL hM HG4
 go_upto_region 9 with fail
 try rw [eVd]
 clear eVd c3 f3 hmx
 clear hlv
 have HGp:=(HG5.out.push zA0 110 36 rfl (by simp [Value.oneCell'])).hid
 obtain⟨cs1,ecs1⟩:∃ c:Array Value,#[zU 3,zU 0,.string ⟨#[]⟩,zU 0,zU 0,zU 0,zI 0,zU 0,.string ⟨#[]⟩,.slice none 0 0,zI 0,zU 0,zU 0,zU 0,zI 0,zU 0,.string ⟨#[]⟩,.slice none 0 0,zI 0,zU 0,zU 0,zU 0,zI 0,zU 0,.string ⟨#[]⟩,.slice none 0 0,zI 0,zU 0,zU 0,zU 0,zI 0,zU 0,.string ⟨#[]⟩,.slice none 0 0,zI 0,zI (hdT s).p]=c:=⟨_,rfl⟩
 have hcs1:cs1.size=36:=by rw [← ecs1]; rfl
 have hcs2:cs1.all (·.oneCell')=true:=by rw [← ecs1]; simp [Value.oneCell']
 have hcs3:cs1[0]? = some (zU 3):=by rw [← ecs1]; rfl
 have HG6:=(HGp.out.row (N:=Vd§) (T:=110) (n:=36) (by simp) cs1 hcs1 hcs2).1.hid
 have HF6:Fst ((Vd.alloc (.cells zA0 110)).setRow Vd§ cs1) Vd§ (zU 3):=⟨cs1,(HGp.out.row (N:=Vd§) (T:=110) (n:=36) (by simp) cs1 hcs1 hcs2).2,hcs3⟩
 have HZ:Hid ((Vd.alloc (.cells zA0 110)).heap[Vd§]? = some (.cells zA0 110 (0,0))):=Hn _ _
 have HBN:Hid (b≠Vd§):=by have h1:=HG5.out.W.1; have h2:=HG5.out.M.size; show _≠_; omega
 clear HGp HG5
 go_upto_region 10 with (refine wpList_store_row rfl 110 (.tmp 5) (.tmp 32) rfl Vd§ cs1 rfl (by first | rfl | exact congrArg Value.agg ecs1) 110 zA0 HZ.out (by rw [hcs1]; exact size110) (by rw [hcs1]; rfl) hcs2 ?_)
 generalize hW1:World.setRow _ _ _=W1
 have HG6:Hid (GX w b K W1 [(Vd§,110,36),(w§,110,36)] (nf ts3)):=by rw [← hW1]; exact HG6.out
 have HF6:Hid (Fst W1 Vd§ (zU 3)):=by rw [← hW1]; exact HF6
 obtain⟨N3,eN3⟩:∃ q,Vd§=q:=⟨_,rfl⟩
 rw [eN3] at HG6 HF6 HBN ⊢
 clear eN3 HZ hW1
 generalize Value.agg _=D0
 clear ecs1 hcs1 hcs2 hcs3
 have k0:=HF6.out.cell
 have cN:=name_g HG6.out.S
 go_wp2_with fail
 refine cN.mono ?_
 rintro e w7 ⟨⟨x7,rfl⟩,hs,hm⟩
 have HG7:=(HG6.out.mv hm hs).hid
 have HF7:=(HF6.out.mv hm HBN.out).hid
 obtain⟨av2,ac2,af2⟩:=(HG7.out.B (N3,110,36) (by simp)).1.cell 2 (show 2 < 36 by omega)
 have HG8:=zH (HG7.out.set (N:=N3) (T:=110) (n:=36) (by simp) 2 (.string x7) rfl)
 have HF8:Hid (Fst (w7.setCell ⟨N3,2,none⟩ (.string x7)) N3 (zU 3)):=HF7.out.set 2 (by decide) _
 clear cN hs hm HG6 HF6 k0
 go_upto_region 12 with fail
 obtain⟨X7,eX7⟩:∃ Y,w7.setCell ⟨N3,2,none⟩ (.string x7)=Y:=⟨_,rfl⟩
 rw [eX7] at HG8 HF8 ⊢
 clear eX7 ac2 af2 HG7 HF7
 have k0:=HF8.out.cell
 go_upto_region 20 with fail
 clear k0
 obtain⟨cs,hc1,hc2,hc3⟩:=(HG8.out.B (N3,110,36) (by simp)).1
 obtain⟨old,ho1,ho2,ho3⟩:=(HG8.out.B (w§,110,36) (by simp)).1
 have HC:=zH hc1
 have HO:=zH ho1
 have HF:=zH (HG8.out.row (N:=w§) (T:=110) (n:=36) (by simp) cs hc2 hc3)
 have HN1:Hid (cs.size=36∧old.size=36∧cs.all (·.oneCell')=true):=⟨hc2,ho2,hc3⟩
 clear hc1 hc2 hc3 ho1 ho2 ho3
 go_wp2_with (first | (refine wpList_load_row rfl 110 (.tmp 5) rfl N3 rfl 110 cs (0,0) _ HC.out Tryz.underlying110 rfl (by rw [HN1.out.1]; exact size110) ?_) | (refine wpList_store_row rfl 110 (.tmp 2) (.tmp 60) rfl w§ cs rfl rfl 110 old HO.out (by rw [HN1.out.1]; exact size110) (by rw [HN1.out.1,HN1.out.2.1]) HN1.out.2.2 ?_))
 exact bodyPost_ret (results_cell_row rfl _ _ w§ 110 cs (0,0) _ rfl HF.out.2 Tryz.underlying110 rfl (by rw [HN1.out.1]; exact size110)) rfl ⟨cs,rfl,HN1.out.1,HN1.out.2.2,by rw [← HR0.out,HDS.out]; exact HF.out.1.S,HF.out.1.M⟩
theorem do_set {w:World}{b:Nat}{K:PK}{s:St}(hK:KG K) (h:Sp w b K s) (hv:dAny [Z2,Z3,Z4,Z7,Z5,Z6] s=3):Calls zG 134 #[zP b] w (OutG 36 b K w (dEx (dTake Zv (dName (dStep s))))):=by
 have EV:Hid (dAny [Z2,Z3,Z4,Z7,Z5,Z6] s=3):=hv
 clear hv
 obtain⟨r0,er0⟩:∃ q,(dEx (dTake Zv (dName (dStep s))))=q:=⟨_,rfl⟩
 have HR0:Hid ((dEx (dTake Zv (dName (dStep s))))=r0):=er0
 rw [er0]
 clear er0
 have HK:Hid (KG K):=hK
 have HG0:=(GX.new h zA0 110 36 rfl (by simp [Value.oneCell'])).hid
 clear h hK
 obtain⟨W0,eW0⟩:∃ W,w.alloc (.cells zA0 110)=W:=⟨_,rfl⟩
 rw [eW0] at HG0
 have cN:=now_g HG0.out.S
 have hf:=fun v=>field82_4 (hdT s) v
 go_enter Tryz.func134,Tryz.ntmps134
 go_wp2_with fail
 try rw [eW0]
 refine cN.mono ?_
 rintro e w1 ⟨rfl,hb1⟩
 have HG1:=(HG0.out.on hb1).hid
 clear cN hb1 HG0 eW0
 have HW:Hid (Below w1§ w1 (w1.alloc (.cells zA1 9))):=Bn _ _
 have hSL:SLs (w1.alloc (.cells zA1 9)) w1§ [Z2,Z3,Z4,Z7,Z5,Z6]:=fun j hj=>by
  have hh:=Hn w1 (.cells zA1 9)
  match j,hj with
  | 0,_=>exact Co hh 0
  | 1,_=>exact Co hh 1
  | 2,_=>exact Co hh 2
  | 3,_=>exact Co hh 3
  | 4,_=>exact Co hh 4
  | 5,_=>exact Co hh 5
 have cA:=any_g HK.out ((HG1.out.S).on HW.out) (n:=6) (c:=6) hSL rfl (by omega) (by intro x hx; simp only [List.mem_cons,List.not_mem_nil,or_false] at hx; rcases hx with rfl | rfl | rfl | rfl | rfl | rfl <;> exact⟨by decide +kernel,by decide⟩)
 clear hSL
 rw [EV.out] at cA
 obtain⟨t3,ts3,e3,_⟩:=dAny_ok (s:=s) (L:=[Z2,Z3,Z4,Z7,Z5,Z6]) (by rw [EV.out]; decide)
 have HDS:Hid (dStep s=nf ts3):=by show _=_; rw [e3]; rfl
 have HE3:Hid (s=.ok (t3 :: ts3)):=e3
 clear e3
 go_wp2_with fail
 refine cA.mono ?_
 rintro e w4 ⟨rfl,hb4⟩
 have HG4:=((HG1.out.on HW.out).on hb4).hid
 have hlv:Lv w4 b K (t3 :: ts3):=by
  have h1:=HG4.out.S
  rw [HE3.out] at h1
  exact h1.2
 clear cA hb4 HW HG1
 obtain⟨id,c3,f3,hmx,hL,hM,_,_⟩:=hlv.at'
 obtain⟨Vd,eVd⟩:∃ V,w4.setCell ⟨b,3,none⟩ (zI ((id:Int)+1))=V:=⟨_,rfl⟩
 rw [eVd] at hL hM
 have HG5:=(HG4.out.mv hM hL.sp).hid
 clear hL hM HG4
 go_upto_region 9 with fail
 try rw [eVd]
 clear eVd c3 f3 hmx
 clear hlv
 have HGp:=(HG5.out.push zA0 110 36 rfl (by simp [Value.oneCell'])).hid
 obtain⟨cs1,ecs1⟩:∃ c:Array Value,#[zU 4,zU 0,.string ⟨#[]⟩,zU 0,zU 0,zU 0,zI 0,zU 0,.string ⟨#[]⟩,.slice none 0 0,zI 0,zU 0,zU 0,zU 0,zI 0,zU 0,.string ⟨#[]⟩,.slice none 0 0,zI 0,zU 0,zU 0,zU 0,zI 0,zU 0,.string ⟨#[]⟩,.slice none 0 0,zI 0,zU 0,zU 0,zU 0,zI 0,zU 0,.string ⟨#[]⟩,.slice none 0 0,zI 0,zI (hdT s).p]=c:=⟨_,rfl⟩
 have hcs1:cs1.size=36:=by rw [← ecs1]; rfl
 have hcs2:cs1.all (·.oneCell')=true:=by rw [← ecs1]; simp [Value.oneCell']
 have hcs3:cs1[0]? = some (zU 4):=by rw [← ecs1]; rfl
 have HG6:=(HGp.out.row (N:=Vd§) (T:=110) (n:=36) (by simp) cs1 hcs1 hcs2).1.hid
 have HF6:Fst ((Vd.alloc (.cells zA0 110)).setRow Vd§ cs1) Vd§ (zU 4):=⟨cs1,(HGp.out.row (N:=Vd§) (T:=110) (n:=36) (by simp) cs1 hcs1 hcs2).2,hcs3⟩
 have HZ:Hid ((Vd.alloc (.cells zA0 110)).heap[Vd§]? = some (.cells zA0 110 (0,0))):=Hn _ _
 have HBN:Hid (b≠Vd§):=by have h1:=HG5.out.W.1; have h2:=HG5.out.M.size; show _≠_; omega
 clear HGp HG5
 go_upto_region 10 with (refine wpList_store_row rfl 110 (.tmp 5) (.tmp 32) rfl Vd§ cs1 rfl (by first | rfl | exact congrArg Value.agg ecs1) 110 zA0 HZ.out (by rw [hcs1]; exact size110) (by rw [hcs1]; rfl) hcs2 ?_)
 generalize hW1:World.setRow _ _ _=W1
 have HG6:Hid (GX w b K W1 [(Vd§,110,36),(w§,110,36)] (nf ts3)):=by rw [← hW1]; exact HG6.out
 have HF6:Hid (Fst W1 Vd§ (zU 4)):=by rw [← hW1]; exact HF6
 obtain⟨N3,eN3⟩:∃ q,Vd§=q:=⟨_,rfl⟩
 rw [eN3] at HG6 HF6 HBN ⊢
 clear eN3 HZ hW1
 generalize Value.agg _=D0
 clear ecs1 hcs1 hcs2 hcs3
 have k0:=HF6.out.cell
 have cN:=name_g HG6.out.S
 go_wp2_with fail
 refine cN.mono ?_
 rintro e w7 ⟨⟨x7,rfl⟩,hs,hm⟩
 have HG7:=(HG6.out.mv hm hs).hid
 have HF7:=(HF6.out.mv hm HBN.out).hid
 obtain⟨av2,ac2,af2⟩:=(HG7.out.B (N3,110,36) (by simp)).1.cell 2 (show 2 < 36 by omega)
 have HG8:Hid (GX w b K (w7.setCell ⟨N3,2,none⟩ (.string x7)) _ (dName (nf ts3))):=HG7.out.set (N:=N3) (T:=110) (n:=36) (by simp) 2 (.string x7) rfl
 have HF8:Hid (Fst (w7.setCell ⟨N3,2,none⟩ (.string x7)) N3 (zU 4)):=HF7.out.set 2 (by decide) _
 clear cN hs hm HG6 HF6 k0
 go_upto_region 12 with fail
 obtain⟨X7,eX7⟩:∃ Y,w7.setCell ⟨N3,2,none⟩ (.string x7)=Y:=⟨_,rfl⟩
 rw [eX7] at HG8 HF8 ⊢
 clear eX7 ac2 af2 HG7 HF7
 have k0:=HF8.out.cell
 go_upto_region 18 with fail
 clear k0
 have cT:=take_g HK.out HG8.out.S Zv (by decide +kernel) (by decide)
 go_wp2_with fail
 refine cT.mono ?_
 rintro e ta ⟨⟨pta,rfl⟩,hs,hm⟩
 have HGt:=(HG8.out.mv hm hs).hid
 have HFt:=(HF8.out.mv hm HBN.out).hid
 clear cT hs hm HG8 HF8
 have cE:=expr0_d HK.out.k ta (dTake Zv (dName (nf ts3))) HGt.out.S
 go_wp2_with fail
 refine cE.mono ?_
 rintro e ue ⟨⟨⟨k2,o2,ty2,n2,f2,x2,p2⟩,am2,cm2,ks2⟩,rfl,hl,hk,hs,hm,ht⟩
 simp only [Nd.vals,Nd.h,Nd.a,Nd.c,Nd.ks,hdA]
 have HGxe:=(HGt.out.mv hm hs).hid
 have HFtx:=HFt.out.mv hm HBN.out
 have HFte:Hid (Fst ((((((((ue.setCell ⟨N3,27,none⟩ (zU k2)).setCell ⟨N3,28,none⟩ (zU o2)).setCell ⟨N3,29,none⟩ (zU ty2)).setCell ⟨N3,30,none⟩ (zI n2)).setCell ⟨N3,31,none⟩ (zU f2)).setCell ⟨N3,32,none⟩ (.string x2)).setCell ⟨N3,33,none⟩ (.slice am2 ks2.length cm2)).setCell ⟨N3,34,none⟩ (zI p2)) N3 (zU 4)):=((((((((HFtx.set 27 (by decide) _).set 28 (by decide) _).set 29 (by decide) _).set 30 (by decide) _).set 31 (by decide) _).set 32 (by decide) _).set 33 (by decide) _).set 34 (by decide) _)
 clear cE hl hk hs hm ht HGt HFtx HFt
 obtain⟨av27,ac27,af27⟩:=(HGxe.out.B (N3,110,36) (by simp)).1.cell 27 (show 27 < 36 by omega)
 obtain⟨av28,ac28,af28⟩:=(HGxe.out.B (N3,110,36) (by simp)).1.cell 28 (show 28 < 36 by omega)
 obtain⟨av29,ac29,af29⟩:=(HGxe.out.B (N3,110,36) (by simp)).1.cell 29 (show 29 < 36 by omega)
 obtain⟨av30,ac30,af30⟩:=(HGxe.out.B (N3,110,36) (by simp)).1.cell 30 (show 30 < 36 by omega)
 obtain⟨av31,ac31,af31⟩:=(HGxe.out.B (N3,110,36) (by simp)).1.cell 31 (show 31 < 36 by omega)
 obtain⟨av32,ac32,af32⟩:=(HGxe.out.B (N3,110,36) (by simp)).1.cell 32 (show 32 < 36 by omega)
 obtain⟨av33,ac33,af33⟩:=(HGxe.out.B (N3,110,36) (by simp)).1.cell 33 (show 33 < 36 by omega)
 obtain⟨av34,ac34,af34⟩:=(HGxe.out.B (N3,110,36) (by simp)).1.cell 34 (show 34 < 36 by omega)
 have HGee:Hid (GX w b K ((((((((ue.setCell ⟨N3,27,none⟩ (zU k2)).setCell ⟨N3,28,none⟩ (zU o2)).setCell ⟨N3,29,none⟩ (zU ty2)).setCell ⟨N3,30,none⟩ (zI n2)).setCell ⟨N3,31,none⟩ (zU f2)).setCell ⟨N3,32,none⟩ (.string x2)).setCell ⟨N3,33,none⟩ (.slice am2 ks2.length cm2)).setCell ⟨N3,34,none⟩ (zI p2)) _ (dEx (dTake Zv (dName (nf ts3))))):=HGxe.out.node (N:=N3) (T:=110) (n:=36) (by simp) 27 (Nd.mk ⟨k2,o2,ty2,n2,f2,x2,p2⟩ am2 cm2 ks2)
 go_upto_region 20 with fail
 obtain⟨Ye,eYe⟩:∃ Y,((((((((ue.setCell ⟨N3,27,none⟩ (zU k2)).setCell ⟨N3,28,none⟩ (zU o2)).setCell ⟨N3,29,none⟩ (zU ty2)).setCell ⟨N3,30,none⟩ (zI n2)).setCell ⟨N3,31,none⟩ (zU f2)).setCell ⟨N3,32,none⟩ (.string x2)).setCell ⟨N3,33,none⟩ (.slice am2 ks2.length cm2)).setCell ⟨N3,34,none⟩ (zI p2))=Y:=⟨_,rfl⟩
 rw [eYe] at HGee HFte ⊢
 clear eYe ac27 af27 ac28 af28 ac29 af29 ac30 af30 ac31 af31 ac32 af32 ac33 af33 ac34 af34 HGxe
 generalize Value.agg (zN k2 o2 ty2 n2 f2 x2 am2 ks2 cm2 p2)=Dge
 have k0:=HFte.out.cell
 go_upto_region 20 with fail
 clear k0
 obtain⟨cs,hc1,hc2,hc3⟩:=(HGee.out.B (N3,110,36) (by simp)).1
 obtain⟨old,ho1,ho2,ho3⟩:=(HGee.out.B (w§,110,36) (by simp)).1
 have HC:Hid (Ye.heap[N3]? = some (.cells cs 110 (0,0))):=hc1
 have HO:Hid (Ye.heap[w§]? = some (.cells old 110 (0,0))):=ho1
 have HF:Hid (GX w b K (Ye.setRow w§ cs) _ (dEx (dTake Zv (dName (nf ts3))))∧(Ye.setRow w§ cs).heap[w§]? = some (.cells cs 110 (0,0))):=HGee.out.row (N:=w§) (T:=110) (n:=36) (by simp) cs hc2 hc3
 have HN1:Hid (cs.size=36∧old.size=36∧cs.all (·.oneCell')=true):=⟨hc2,ho2,hc3⟩
 clear hc1 hc2 hc3 ho1 ho2 ho3
 go_wp2_with (first | (refine wpList_load_row rfl 110 (.tmp 5) rfl N3 rfl 110 cs (0,0) _ HC.out Tryz.underlying110 rfl (by rw [HN1.out.1]; exact size110) ?_) | (refine wpList_store_row rfl 110 (.tmp 2) (.tmp 60) rfl w§ cs rfl rfl 110 old HO.out (by rw [HN1.out.1]; exact size110) (by rw [HN1.out.1,HN1.out.2.1]) HN1.out.2.2 ?_))
 exact bodyPost_ret (results_cell_row rfl _ _ w§ 110 cs (0,0) _ rfl HF.out.2 Tryz.underlying110 rfl (by rw [HN1.out.1]; exact size110)) rfl ⟨cs,rfl,HN1.out.1,HN1.out.2.2,by rw [← HR0.out,HDS.out]; exact HF.out.1.S,HF.out.1.M⟩
theorem do_goto {w:World}{b:Nat}{K:PK}{s:St}(hK:KG K) (h:Sp w b K s) (hv:dAny [Z2,Z3,Z4,Z7,Z5,Z6] s=4):Calls zG 134 #[zP b] w (OutG 36 b K w (dName (dStep s))):=by
 have EV:=zH hv
 clear hv
 obtain⟨r0,er0⟩:∃ q,(dName (dStep s))=q:=⟨_,rfl⟩
 have HR0:=zH er0
 rw [er0]
 clear er0
 have HK:Hid (KG K):=hK
 have HG0:=(GX.new h zA0 110 36 rfl (by simp [Value.oneCell'])).hid
 clear h hK
 obtain⟨W0,eW0⟩:∃ W,w.alloc (.cells zA0 110)=W:=⟨_,rfl⟩
 rw [eW0] at HG0
 have cN:=now_g HG0.out.S
 have hf:=fun v=>field82_4 (hdT s) v
 go_enter Tryz.func134,Tryz.ntmps134
 go_wp2_with fail
 try rw [eW0]
 refine cN.mono ?_
 rintro e w1 ⟨rfl,hb1⟩
 have HG1:=(HG0.out.on hb1).hid
 clear cN hb1 HG0 eW0
 have HW:Hid (Below w1§ w1 (w1.alloc (.cells zA1 9))):=Bn _ _
 have hSL:SLs (w1.alloc (.cells zA1 9)) w1§ [Z2,Z3,Z4,Z7,Z5,Z6]:=fun j hj=>by
  have hh:=Hn w1 (.cells zA1 9)
  match j,hj with
  | 0,_=>exact Co hh 0
  | 1,_=>exact Co hh 1
  | 2,_=>exact Co hh 2
  | 3,_=>exact Co hh 3
  | 4,_=>exact Co hh 4
  | 5,_=>exact Co hh 5
 have cA:=any_g HK.out ((HG1.out.S).on HW.out) (n:=6) (c:=6) hSL rfl (by omega) (by intro x hx; simp only [List.mem_cons,List.not_mem_nil,or_false] at hx; rcases hx with rfl | rfl | rfl | rfl | rfl | rfl <;> exact⟨by decide +kernel,by decide⟩)
 clear hSL
 rw [EV.out] at cA
 obtain⟨t3,ts3,e3,_⟩:=dAny_ok (s:=s) (L:=[Z2,Z3,Z4,Z7,Z5,Z6]) (by rw [EV.out]; decide)
 have HDS:Hid (dStep s=nf ts3):=by show _=_; rw [e3]; rfl
 have HE3:Hid (s=.ok (t3 :: ts3)):=e3
 clear e3
 go_wp2_with fail
 refine cA.mono ?_
 rintro e w4 ⟨rfl,hb4⟩
 have HG4:=((HG1.out.on HW.out).on hb4).hid
 have hlv:Lv w4 b K (t3 :: ts3):=by
  have h1:=HG4.out.S
  rw [HE3.out] at h1
  exact h1.2
 clear cA hb4 HW HG1
 obtain⟨id,c3,f3,hmx,hL,hM,_,_⟩:=hlv.at'
 obtain⟨Vd,eVd⟩:∃ V,w4.setCell ⟨b,3,none⟩ (zI ((id:Int)+1))=V:=⟨_,rfl⟩
 rw [eVd] at hL hM
 have HG5:=(HG4.out.mv hM hL.sp).hid
 clear hL hM HG4
 go_upto_region 9 with fail
 try rw [eVd]
 clear eVd c3 f3 hmx
 clear hlv
 have HGp:=(HG5.out.push zA0 110 36 rfl (by simp [Value.oneCell'])).hid
 obtain⟨cs1,ecs1⟩:∃ c:Array Value,#[zU 5,zU 0,.string ⟨#[]⟩,zU 0,zU 0,zU 0,zI 0,zU 0,.string ⟨#[]⟩,.slice none 0 0,zI 0,zU 0,zU 0,zU 0,zI 0,zU 0,.string ⟨#[]⟩,.slice none 0 0,zI 0,zU 0,zU 0,zU 0,zI 0,zU 0,.string ⟨#[]⟩,.slice none 0 0,zI 0,zU 0,zU 0,zU 0,zI 0,zU 0,.string ⟨#[]⟩,.slice none 0 0,zI 0,zI (hdT s).p]=c:=⟨_,rfl⟩
 have hcs1:cs1.size=36:=by rw [← ecs1]; rfl
 have hcs2:cs1.all (·.oneCell')=true:=by rw [← ecs1]; simp [Value.oneCell']
 have hcs3:cs1[0]? = some (zU 5):=by rw [← ecs1]; rfl
 have HG6:=(HGp.out.row (N:=Vd§) (T:=110) (n:=36) (by simp) cs1 hcs1 hcs2).1.hid
 have HF6:Fst ((Vd.alloc (.cells zA0 110)).setRow Vd§ cs1) Vd§ (zU 5):=⟨cs1,(HGp.out.row (N:=Vd§) (T:=110) (n:=36) (by simp) cs1 hcs1 hcs2).2,hcs3⟩
 have HZ:Hid ((Vd.alloc (.cells zA0 110)).heap[Vd§]? = some (.cells zA0 110 (0,0))):=Hn _ _
 have HBN:Hid (b≠Vd§):=by have h1:=HG5.out.W.1; have h2:=HG5.out.M.size; show _≠_; omega
 clear HGp HG5
 go_upto_region 10 with (refine wpList_store_row rfl 110 (.tmp 5) (.tmp 32) rfl Vd§ cs1 rfl (by first | rfl | exact congrArg Value.agg ecs1) 110 zA0 HZ.out (by rw [hcs1]; exact size110) (by rw [hcs1]; rfl) hcs2 ?_)
 generalize hW1:World.setRow _ _ _=W1
 have HG6:Hid (GX w b K W1 [(Vd§,110,36),(w§,110,36)] (nf ts3)):=by rw [← hW1]; exact HG6.out
 have HF6:Hid (Fst W1 Vd§ (zU 5)):=by rw [← hW1]; exact HF6
 obtain⟨N3,eN3⟩:∃ q,Vd§=q:=⟨_,rfl⟩
 rw [eN3] at HG6 HF6 HBN ⊢
 clear eN3 HZ hW1
 generalize Value.agg _=D0
 clear ecs1 hcs1 hcs2 hcs3
 have k0:=HF6.out.cell
 have cN:=name_g HG6.out.S
 go_wp2_with fail
 refine cN.mono ?_
 rintro e w7 ⟨⟨x7,rfl⟩,hs,hm⟩
 have HG7:=(HG6.out.mv hm hs).hid
 have HF7:=(HF6.out.mv hm HBN.out).hid
 obtain⟨av2,ac2,af2⟩:=(HG7.out.B (N3,110,36) (by simp)).1.cell 2 (show 2 < 36 by omega)
 have HG8:=zH (HG7.out.set (N:=N3) (T:=110) (n:=36) (by simp) 2 (.string x7) rfl)
 have HF8:Hid (Fst (w7.setCell ⟨N3,2,none⟩ (.string x7)) N3 (zU 5)):=HF7.out.set 2 (by decide) _
 clear cN hs hm HG6 HF6 k0
 go_upto_region 12 with fail
 obtain⟨X7,eX7⟩:∃ Y,w7.setCell ⟨N3,2,none⟩ (.string x7)=Y:=⟨_,rfl⟩
 rw [eX7] at HG8 HF8 ⊢
 clear eX7 ac2 af2 HG7 HF7
 have k0:=HF8.out.cell
 go_upto_region 20 with fail
 clear k0
 obtain⟨cs,hc1,hc2,hc3⟩:=(HG8.out.B (N3,110,36) (by simp)).1
 obtain⟨old,ho1,ho2,ho3⟩:=(HG8.out.B (w§,110,36) (by simp)).1
 have HC:=zH hc1
 have HO:=zH ho1
 have HF:=zH (HG8.out.row (N:=w§) (T:=110) (n:=36) (by simp) cs hc2 hc3)
 have HN1:Hid (cs.size=36∧old.size=36∧cs.all (·.oneCell')=true):=⟨hc2,ho2,hc3⟩
 clear hc1 hc2 hc3 ho1 ho2 ho3
 go_wp2_with (first | (refine wpList_load_row rfl 110 (.tmp 5) rfl N3 rfl 110 cs (0,0) _ HC.out Tryz.underlying110 rfl (by rw [HN1.out.1]; exact size110) ?_) | (refine wpList_store_row rfl 110 (.tmp 2) (.tmp 60) rfl w§ cs rfl rfl 110 old HO.out (by rw [HN1.out.1]; exact size110) (by rw [HN1.out.1,HN1.out.2.1]) HN1.out.2.2 ?_))
 exact bodyPost_ret (results_cell_row rfl _ _ w§ 110 cs (0,0) _ rfl HF.out.2 Tryz.underlying110 rfl (by rw [HN1.out.1]; exact size110)) rfl ⟨cs,rfl,HN1.out.1,HN1.out.2.2,by rw [← HR0.out,HDS.out]; exact HF.out.1.S,HF.out.1.M⟩
theorem do_halt {w:World}{b:Nat}{K:PK}{s:St}(hK:KG K) (h:Sp w b K s) (hv:dAny [Z2,Z3,Z4,Z7,Z5,Z6] s=5):Calls zG 134 #[zP b] w (OutG 36 b K w (dStep s)):=by
 have EV:=zH hv
 clear hv
 obtain⟨r0,er0⟩:∃ q,(dStep s)=q:=⟨_,rfl⟩
 have HR0:Hid ((dStep s)=r0):=er0
 rw [er0]
 clear er0
 have HK:Hid (KG K):=hK
 have HG0:=(GX.new h zA0 110 36 rfl (by simp [Value.oneCell'])).hid
 clear h hK
 obtain⟨W0,eW0⟩:∃ W,w.alloc (.cells zA0 110)=W:=⟨_,rfl⟩
 rw [eW0] at HG0
 have cN:=now_g HG0.out.S
 have hf:=fun v=>field82_4 (hdT s) v
 go_enter Tryz.func134,Tryz.ntmps134
 go_wp2_with fail
 try rw [eW0]
 refine cN.mono ?_
 rintro e w1 ⟨rfl,hb1⟩
 have HG1:=(HG0.out.on hb1).hid
 clear cN hb1 HG0 eW0
 have HW:Hid (Below w1§ w1 (w1.alloc (.cells zA1 9))):=Bn _ _
 have hSL:SLs (w1.alloc (.cells zA1 9)) w1§ [Z2,Z3,Z4,Z7,Z5,Z6]:=fun j hj=>by
  have hh:=Hn w1 (.cells zA1 9)
  match j,hj with
  | 0,_=>exact Co hh 0
  | 1,_=>exact Co hh 1
  | 2,_=>exact Co hh 2
  | 3,_=>exact Co hh 3
  | 4,_=>exact Co hh 4
  | 5,_=>exact Co hh 5
 have cA:=any_g HK.out ((HG1.out.S).on HW.out) (n:=6) (c:=6) hSL rfl (by omega) (by intro x hx; simp only [List.mem_cons,List.not_mem_nil,or_false] at hx; rcases hx with rfl | rfl | rfl | rfl | rfl | rfl <;> exact⟨by decide +kernel,by decide⟩)
 clear hSL
 rw [EV.out] at cA
 obtain⟨t3,ts3,e3,_⟩:=dAny_ok (s:=s) (L:=[Z2,Z3,Z4,Z7,Z5,Z6]) (by rw [EV.out]; decide)
 have HDS:Hid (dStep s=nf ts3):=by show _=_; rw [e3]; rfl
 have HE3:Hid (s=.ok (t3 :: ts3)):=e3
 clear e3
 go_wp2_with fail
 refine cA.mono ?_
 rintro e w4 ⟨rfl,hb4⟩
 have HG4:=((HG1.out.on HW.out).on hb4).hid
 have hlv:Lv w4 b K (t3 :: ts3):=by
  have h1:=HG4.out.S
  rw [HE3.out] at h1
  exact h1.2
 clear cA hb4 HW HG1
 obtain⟨id,c3,f3,hmx,hL,hM,_,_⟩:=hlv.at'
 obtain⟨Vd,eVd⟩:∃ V,w4.setCell ⟨b,3,none⟩ (zI ((id:Int)+1))=V:=⟨_,rfl⟩
 rw [eVd] at hL hM
 have HG5:=(HG4.out.mv hM hL.sp).hid
 clear hL hM HG4
 go_upto_region 9 with fail
 try rw [eVd]
 clear eVd c3 f3 hmx
 clear hlv
 have HGp:=(HG5.out.push zA0 110 36 rfl (by simp [Value.oneCell'])).hid
 obtain⟨cs1,ecs1⟩:∃ c:Array Value,#[zU 6,zU 0,.string ⟨#[]⟩,zU 0,zU 0,zU 0,zI 0,zU 0,.string ⟨#[]⟩,.slice none 0 0,zI 0,zU 0,zU 0,zU 0,zI 0,zU 0,.string ⟨#[]⟩,.slice none 0 0,zI 0,zU 0,zU 0,zU 0,zI 0,zU 0,.string ⟨#[]⟩,.slice none 0 0,zI 0,zU 0,zU 0,zU 0,zI 0,zU 0,.string ⟨#[]⟩,.slice none 0 0,zI 0,zI (hdT s).p]=c:=⟨_,rfl⟩
 have hcs1:cs1.size=36:=by rw [← ecs1]; rfl
 have hcs2:cs1.all (·.oneCell')=true:=by rw [← ecs1]; simp [Value.oneCell']
 have hcs3:cs1[0]? = some (zU 6):=by rw [← ecs1]; rfl
 have HG6:=(HGp.out.row (N:=Vd§) (T:=110) (n:=36) (by simp) cs1 hcs1 hcs2).1.hid
 have HF6:Fst ((Vd.alloc (.cells zA0 110)).setRow Vd§ cs1) Vd§ (zU 6):=⟨cs1,(HGp.out.row (N:=Vd§) (T:=110) (n:=36) (by simp) cs1 hcs1 hcs2).2,hcs3⟩
 have HZ:Hid ((Vd.alloc (.cells zA0 110)).heap[Vd§]? = some (.cells zA0 110 (0,0))):=Hn _ _
 have HBN:Hid (b≠Vd§):=by have h1:=HG5.out.W.1; have h2:=HG5.out.M.size; show _≠_; omega
 clear HGp HG5
 go_upto_region 10 with (refine wpList_store_row rfl 110 (.tmp 5) (.tmp 32) rfl Vd§ cs1 rfl (by first | rfl | exact congrArg Value.agg ecs1) 110 zA0 HZ.out (by rw [hcs1]; exact size110) (by rw [hcs1]; rfl) hcs2 ?_)
 generalize hW1:World.setRow _ _ _=W1
 have HG6:Hid (GX w b K W1 [(Vd§,110,36),(w§,110,36)] (nf ts3)):=by rw [← hW1]; exact HG6.out
 have HF6:Hid (Fst W1 Vd§ (zU 6)):=by rw [← hW1]; exact HF6
 obtain⟨N3,eN3⟩:∃ q,Vd§=q:=⟨_,rfl⟩
 rw [eN3] at HG6 HF6 HBN ⊢
 clear eN3 HZ hW1
 generalize Value.agg _=D0
 clear ecs1 hcs1 hcs2 hcs3
 have k0:=HF6.out.cell
 go_upto_region 20 with fail
 clear k0
 obtain⟨cs,hc1,hc2,hc3⟩:=(HG6.out.B (N3,110,36) (by simp)).1
 obtain⟨old,ho1,ho2,ho3⟩:=(HG6.out.B (w§,110,36) (by simp)).1
 have HC:=zH hc1
 have HO:=zH ho1
 have HF:=zH (HG6.out.row (N:=w§) (T:=110) (n:=36) (by simp) cs hc2 hc3)
 have HN1:Hid (cs.size=36∧old.size=36∧cs.all (·.oneCell')=true):=⟨hc2,ho2,hc3⟩
 clear hc1 hc2 hc3 ho1 ho2 ho3
 go_wp2_with (first | (refine wpList_load_row rfl 110 (.tmp 5) rfl N3 rfl 110 cs (0,0) _ HC.out Tryz.underlying110 rfl (by rw [HN1.out.1]; exact size110) ?_) | (refine wpList_store_row rfl 110 (.tmp 2) (.tmp 60) rfl w§ cs rfl rfl 110 old HO.out (by rw [HN1.out.1]; exact size110) (by rw [HN1.out.1,HN1.out.2.1]) HN1.out.2.2 ?_))
 exact bodyPost_ret (results_cell_row rfl _ _ w§ 110 cs (0,0) _ rfl HF.out.2 Tryz.underlying110 rfl (by rw [HN1.out.1]; exact size110)) rfl ⟨cs,rfl,HN1.out.1,HN1.out.2.2,by rw [← HR0.out,HDS.out]; exact HF.out.1.S,HF.out.1.M⟩
theorem do_g {w:World}{b:Nat}{K:PK}{s:St}(hK:KG K) (h:Sp w b K s):Calls zG 134 #[zP b] w (OutG 36 b K w (dDo s)):=by
 have hrg:=dAny_rg [Z2,Z3,Z4,Z7,Z5,Z6] s
 simp only [List.length_cons,List.length_nil] at hrg
 unfold dDo
 obtain e | e | e | e | e | e | e:dAny [Z2,Z3,Z4,Z7,Z5,Z6] s=0∨dAny [Z2,Z3,Z4,Z7,Z5,Z6] s=1∨dAny [Z2,Z3,Z4,Z7,Z5,Z6] s=2∨dAny [Z2,Z3,Z4,Z7,Z5,Z6] s=3∨dAny [Z2,Z3,Z4,Z7,Z5,Z6] s=4∨dAny [Z2,Z3,Z4,Z7,Z5,Z6] s=5∨dAny [Z2,Z3,Z4,Z7,Z5,Z6] s = -1:=by omega
 ·rw [e,if_pos rfl]; exact do_submit hK h e
 ·rw [e,if_neg (by decide),if_pos rfl]; exact do_amend hK h e
 ·rw [e,if_neg (by decide),if_neg (by decide),if_pos rfl]; exact do_cancel hK h e
 ·rw [e,if_neg (by decide),if_neg (by decide),if_neg (by decide),if_pos rfl]; exact do_set hK h e
 ·rw [e,if_neg (by decide),if_neg (by decide),if_neg (by decide),if_neg (by decide),if_pos rfl]; exact do_goto hK h e
 ·rw [e,if_neg (by decide),if_neg (by decide),if_neg (by decide),if_neg (by decide),if_neg (by decide),if_pos rfl]; exact do_halt hK h e
 ·rw [e,if_neg (by decide),if_neg (by decide),if_neg (by decide),if_neg (by decide),if_neg (by decide),if_neg (by decide)]; exact do_none hK h e
theorem fold_size (n:Nat):∀ (l:List Value) (k:Nat) (a:Array Value),((l.zipIdx k).foldl (fun cs (q:Value × Nat)=>cs.setIfInBounds (0 * n+q.2) q.1) a).size=a.size
 | [],k,a=>rfl
 | c :: l,k,a=>by
  simp only [List.zipIdx_cons,List.foldl_cons]
  rw [fold_size n l (k+1)]
  simp
theorem fold_get (n:Nat):∀ (l:List Value) (k:Nat) (a:Array Value) (i:Nat),i < a.size→((l.zipIdx k).foldl (fun cs (q:Value × Nat)=>cs.setIfInBounds (0 * n+q.2) q.1) a)[i]? = if k≤i∧i < k+l.length then l[i - k]? else a[i]?
 | [],k,a,i,hi=>by
  rw [if_neg (by simp)]
  rfl
 | c :: l,k,a,i,hi=>by
  simp only [List.zipIdx_cons,List.foldl_cons]
  rw [fold_get n l (k+1) _ i (by simpa using hi)]
  simp only [List.length_cons,Nat.zero_mul,Nat.zero_add]
  by_cases h1:k+1≤i∧i < k+1+l.length
  ·rw [if_pos h1,if_pos (by omega),show i - k=(i - (k+1))+1 by omega]
   rfl
  ·rw [if_neg h1,Array.getElem?_setIfInBounds]
   by_cases h2:k=i
   ·subst h2
    rw [if_pos rfl,if_pos hi,if_pos (by omega),Nat.sub_self]
    rfl
   ·rw [if_neg h2,if_neg (by omega)]
theorem fold_all (n:Nat) (cs a:Array Value) (h:a.size=cs.size):cs.zipIdx.foldl (fun (x:Array Value) (q:Value × Nat)=>x.setIfInBounds (0 * n+q.2) q.1) a=cs:=by
 obtain⟨l⟩:=cs
 simp only [List.size_toArray] at h
 have e:(Array.mk l).zipIdx.foldl (fun (x:Array Value) (q:Value × Nat)=>x.setIfInBounds (0 * n+q.2) q.1) a=(l.zipIdx 0).foldl (fun (x:Array Value) (q:Value × Nat)=>x.setIfInBounds (0 * n+q.2) q.1) a:=by
  rw [← Array.foldl_toList]
  simp
 rw [e]
 apply Array.ext_getElem?
 intro i
 by_cases hi:i < a.size
 ·rw [fold_get n l 0 a i hi,if_pos (by omega)]
  simp
 ·rw [Array.getElem?_eq_none (by rw [fold_size]; omega),Array.getElem?_eq_none (by simp; omega)]
theorem wpList_slice1 {w:World}{ops:Array Oper}{rest:List Oper}{o:Oper}{a:Act}{Q:Exit→Act→World→Prop}(hgd:o.guard=none) (t e:TypeId) (x:Operand) (ho:o.op=.buildSlice t 1 #[(0,x)])
  (cs:Array Value) (hx:a.eval x=.agg cs) (n:Nat) (z:Value) (ht:Tryz.prog.underlying t=some (.slice e)) (by_:Nat) (hi:(Tryz.prog.info? e).map (fun i=>(i.zero,i.size,i.bytes))=some (some z,n,by_)) (hz:z.cells.size=n) (hn:cs.size=n) (h0:0 < n) (h1:n≤1000)
  (h:wpList Tryz.prog ops Q rest (a.put o.dst (.slice (some ⟨w§,0,none⟩) 1 1)) (w.alloc (.cells cs e))):wpList Tryz.prog ops Q (o :: rest) a w:=by
 refine wpList_plain hgd fun Kk hK=>?_
 obtain⟨i0,hi0,hz0,hz1,hz2⟩:=info_parts hi
 have hu:=run_underlying ht w
 have hf:Instr.fill (fun i=>some (i * n,n)) ((Array.range (1 * n)).map (z.cells[· % z.cells.size]!)) [(0,.agg cs)]=some cs:=by
  obtain⟨A,hA⟩:∃ A,(Array.range (1 * n)).map (z.cells[· % z.cells.size]!)=A:=⟨_,rfl⟩
  have hAs:A.size=n:=by rw [← hA]; simp
  rw [hA]
  have e3:Instr.fill (fun i=>some (i * n,n)) A [(0,.agg cs)]=if (decide (cs.size≠n) || decide (0 * n+cs.size > A.size))=true then none else some (cs.zipIdx.foldl (fun (x:Array Value) (q:Value × Nat)=>x.setIfInBounds (0 * n+q.2) q.1) A):=rfl
  rw [e3,if_neg (by simp; omega)]
  exact congrArg some (fold_all n cs _ (by omega))
 have hr:(Instr.buildSlice t 1 #[(0,.agg cs)]).run Tryz.prog w=.ok (.slice (some ⟨w§,0,none⟩) 1 1) (w.alloc (.cells cs e)):=by
  have e1:¬ n > 16777216:=by omega
  have e2:¬ n=0:=by omega
  rw [show (1 * n)=n from Nat.one_mul n] at hf
  simp [Instr.buildSlice,Sem.run_bind,hu,sizeOf,zeroValue,typeInfo,hi0,hz0,hz1,e1,e2,hf,newRow,newObj]
  rfl
 unfold Oper.wp execOp
 simp only [ho,List.map_toArray,List.map_cons,List.map_nil,hx,Sem.run_bind,hr,Result.andThen_ok]
 exact hK _ _ h
theorem owns_blk {V V':World}{e sz:Nat}{v:Value}{n:Nat}{xs:List Value}(h:V.ownsRow 0 e sz v n xs) (k:∀ g,v.ownBlock=some g→V'.heap[g]? = V.heap[g]?):V'.ownsRow 0 e sz v n xs:=by
 obtain⟨h1,h2⟩:=h
 refine⟨h1,?_⟩
 rcases h2 with h2 | ⟨g,cap,cur,hv,q1,q2,q3⟩
 ·exact .inl h2
 ·exact .inr ⟨g,cap,cur,hv,q1,(k g (by rw [hv]; rfl)).trans q2,q3⟩
structure GL (w:World) (b:Nat) (K:PK) (V:World) (bs:List (Nat × Nat × Nat)) (s:St) (e sz:Nat) (v:Value) (n:Nat):Prop where
 G:GX w b K V bs s
 R:∃ xs,V.ownsRow 0 e sz v n xs
 D:∀ k,v.ownBlock=some k→w§≤k∧∀ p ∈ bs,p.1≠k
theorem GL.hid {w:World}{b:Nat}{K:PK}{V:World}{bs:List (Nat × Nat × Nat)}{s:St}{e sz:Nat}{v:Value}{n:Nat}(h:GL w b K V bs s e sz v n):Hid (GL w b K V bs s e sz v n):=h
theorem GL.lt {w:World}{b:Nat}{K:PK}{V:World}{bs:List (Nat × Nat × Nat)}{s:St}{e sz:Nat}{v:Value}{n:Nat}(h:GL w b K V bs s e sz v n):∀ k,v.ownBlock=some k→k < V§:=by
 obtain⟨xs,hx⟩:=h.R
 exact fun k hk=>(World.ownsRow.lt hx k hk).2
theorem GL.new {w:World}{b:Nat}{K:PK}{V:World}{bs:List (Nat × Nat × Nat)}{s:St}(h:GX w b K V bs s) (e sz:Nat):GL w b K V bs s e sz (.slice none 0 0) 0 :=
 ⟨h,⟨[],World.ownsRow_nil V 0 e sz⟩,fun k hk=>by simp [Value.ownBlock] at hk⟩
theorem GL.mv {w:World}{b:Nat}{K:PK}{V:World}{bs:List (Nat × Nat × Nat)}{s:St}{e sz:Nat}{v:Value}{n:Nat}{V':World}{s':St}(h:GL w b K V bs s e sz v n) (hm:Mv V V' (fun k=>k=b)) (hs:Sp V' b K s'):GL w b K V' bs s' e sz v n:=by
 obtain⟨xs,hx⟩:=h.R
 have hb:=h.G.W.1
 exact⟨h.G.mv hm hs,⟨xs,owns_blk hx fun k hk=>hm.block k (h.lt k hk) (by have:=(h.D k hk).1; omega)⟩,h.D⟩
theorem GL.on {w:World}{b:Nat}{K:PK}{V:World}{bs:List (Nat × Nat × Nat)}{s:St}{e sz:Nat}{v:Value}{n:Nat}{V':World}(h:GL w b K V bs s e sz v n) (k:Below V§ V V'):GL w b K V' bs s e sz v n:=h.mv (Mv.ofBelow k) (h.G.S.on k)
theorem GL.push {w:World}{b:Nat}{K:PK}{V:World}{bs:List (Nat × Nat × Nat)}{s:St}{e sz:Nat}{v:Value}{n:Nat}(h:GL w b K V bs s e sz v n) (cs:Array Value) (T m:Nat) (hn:cs.size=m) (h1:cs.all (·.oneCell')=true):GL w b K (V.alloc (.cells cs T)) ((V§,T,m) :: bs) s e sz v n:=by
 have h':=h.on (Bn V (.cells cs T))
 refine⟨h.G.push cs T m hn h1,h'.R,fun k hk=>⟨(h.D k hk).1,fun p hp=>?_⟩⟩
 have:=h.lt k hk
 rcases List.mem_cons.1 hp with e | e
 ·rw [e]
  show V§≠k
  omega
 ·exact (h.D k hk).2 p e
theorem GL.pop {w:World}{b:Nat}{K:PK}{V:World}{q:Nat × Nat × Nat}{bs:List (Nat × Nat × Nat)}{s:St}{e sz:Nat}{v:Value}{n:Nat}(h:GL w b K V (q :: bs) s e sz v n):GL w b K V bs s e sz v n :=
 ⟨⟨h.G.M,fun p hp=>h.G.B p (List.mem_cons_of_mem _ hp),h.G.S,h.G.W⟩,h.R,fun k hk=>⟨(h.D k hk).1,fun p hp=>(h.D k hk).2 p (List.mem_cons_of_mem _ hp)⟩⟩
theorem GL.set {w:World}{b:Nat}{K:PK}{V:World}{bs:List (Nat × Nat × Nat)}{s:St}{e sz:Nat}{v:Value}{n:Nat}(h:GL w b K V bs s e sz v n) {N T m:Nat}(hp:(N,T,m) ∈ bs) (i:Nat) (x:Value) (hx:x.oneCell'=true):GL w b K (V.setCell ⟨N,i,none⟩ x) bs s e sz v n:=by
 obtain⟨xs,hr⟩:=h.R
 exact⟨h.G.set hp i x hx,⟨xs,owns_blk hr fun k hk=>Below.heap_setCell _ _ _ _ (fun c=>(h.D k hk).2 _ hp c.symm)⟩,h.D⟩
theorem GL.row {w:World}{b:Nat}{K:PK}{V:World}{bs:List (Nat × Nat × Nat)}{s:St}{e sz:Nat}{v:Value}{n:Nat}(h:GL w b K V bs s e sz v n) {N T m:Nat}(hp:(N,T,m) ∈ bs) (cs:Array Value) (hn:cs.size=m) (h1:cs.all (·.oneCell')=true):GL w b K (V.setRow N cs) bs s e sz v n∧(V.setRow N cs).heap[N]? = some (.cells cs T (0,0)):=by
 obtain⟨xs,hr⟩:=h.R
 obtain⟨h2,h3⟩:=h.G.row hp cs hn h1
 exact⟨⟨h2,⟨xs,owns_blk hr fun k hk=>setRow_oth _ _ _ (fun c=>(h.D k hk).2 _ hp c.symm)⟩,h.D⟩,h3⟩
theorem app_g {w:World}{b:Nat}{K:PK}{V:World}{bs:List (Nat × Nat × Nat)}{s:St}{e sz:Nat}{v:Value}{n:Nat}(hL:GL w b K V bs s e sz v n) (t:TypeId) (cs:Array Value) (hcs:cs.size=sz) (h1:cs.all (·.oneCell')=true)
  (z:Value) (by_:Nat) (ht:Tryz.prog.underlying t=some (.slice e)) (hi:(Tryz.prog.info? e).map (fun i=>(i.zero,i.size,i.bytes))=some (some z,sz,by_)) (hz:z.cells.size=sz) (h0:0 < sz) (hn:n≤1000) (hby:by_≤1000000)
  {ops:Array Oper}{rest:List Oper}{o:Oper}{a:Act}{Q:Exit→Act→World→Prop}(hgd:o.guard=none) (d x:Operand)
  (ho:o.op=.call { callee:=.builtin .append,args:=#[d,x],argTypes:=#[t,t] }) (hs:a.eval d=v) (hx:a.eval x=.slice (some ⟨V§,0,none⟩) 1 1)
  (h:∀ g cap w',GL w b K w' bs s e sz (.slice (some ⟨g,0,none⟩) (n+1) cap) (n+1)→wpList Tryz.prog ops Q rest (a.put o.dst (.slice (some ⟨g,0,none⟩) (n+1) cap)) w') :
  wpList Tryz.prog ops Q (o :: rest) a (V.alloc (.cells cs e)):=by
 obtain⟨i0,hi0,hz0,hz1,hz2⟩:=info_parts hi
 obtain⟨xs,hr⟩:=hL.R
 have hsz:=Sa V (.cells cs e)
 have hby2:(n+1) * by_≤140737488355328:=by
  have:(n+1) * by_≤1001 * 1000000:=Nat.mul_le_mul (by omega) hby
  omega
 refine wpList_append_lies _ hgd d x t ho 0 e i0 z sz by_ ht hi0 hz0 hz1 hz2 hz h0 v n xs hs (World.ownsRow.alloc hr _) ⟨V§,0,none⟩ 1 1 cs.toList hx (by simp; exact hcs) (World.news_of_block (Hn V _)) (fun u hu=>(Array.all_eq_true_iff_forall_mem.1 h1) u (by simpa using hu)) (by decide) (by unfold maxLen; omega) hby2 (Nat.zero_le _) _ rfl ?_
 intro g cap w' h2 h3 h4 h5
 have hs3:=h3.size
 have hVw:=hL.G.M.size
 have old:∀ k,k < V§→v.ownBlock≠some k→w'.heap[k]? = V.heap[k]?:=fun k hk hne=>(h3.block k (by omega) (fun e=>hne e.symm)).trans (Below.heap_alloc _ _ _ hk)
 have vlow:∀ k,k < w§→v.ownBlock≠some k:=fun k hk e=>by have:=(hL.D _ e).1; omega
 refine h g cap w' ⟨⟨?_,fun p hp=>?_,?_,hL.G.W⟩,⟨_,h2⟩,fun k hk=>?_⟩
 ·exact (hL.G.M.trans (Mv.ofBelow (F:=fun k=>k=b) (Bn V (.cells cs e))) (fun _ e=>.inl e)).grown h3 (fun k e=>.inr (hL.D _ e).1)
 ·obtain⟨g1,g2⟩:=hL.G.B p hp
  exact⟨g1.blk (old _ g1.lt (fun e=>(hL.D _ e).2 p hp rfl)),g2⟩
 ·exact hL.G.S.off hL.G.W (fun k hk=>old k (by omega) (vlow k hk))
 ·simp [Value.ownBlock] at hk
  subst hk
  rcases h4 with h4 | h4
  ·exact hL.D _ h4
  ·refine⟨by omega,fun p hp=>?_⟩
   have:=(hL.G.B p hp).1.lt
   omega
def slen:Value→Nat
 | .slice _ n _=>n
 | _=>0
theorem size102:(Tryz.prog.info? 102).map (·.size)=some 2:=by kernel_rfl
theorem inf102:(Tryz.prog.info? 102).map (fun i=>(i.zero,i.size,i.bytes))=some (some (.agg #[.string ⟨#[]⟩,zI 0]),2,24):=by kernel_rfl
def dSlot (s:St):St:=dTake Zr (dName (dTake Zz s))
def dSlots:Nat→St→St
 | 0,s=>if dIs Zz s=true then dWrong 131 s else s
 | r+1,s=>if dIs Zz s=true then dSlots r (dSlot s) else s
theorem dSlots_no {r:Nat}{s:St}(h:dIs Zz s=false):dSlots r s=s:=by
 cases r with
 | zero=>unfold dSlots; rw [h]; rfl
 | succ r=>unfold dSlots; rw [h]; rfl
theorem slots_g {w:World}{b:Nat}{K:PK}{s:St}(hK:KG K) (h:Sp w b K s):Calls zG 79 #[zP b] w fun e w'=>∃ a n c,e=.returned (.slice a n c)∧Sp w' b K (dSlots 4 s)∧Mv w w' (fun k=>k=b):=by
 have HK:Hid (KG K):=hK
 have HG0:=(GL.new (w:=w) (V:=w) (bs:=[]) ⟨Mv.refl _ _,(fun p hp=>by simp at hp),h,h.lw⟩ 102 2).hid
 obtain⟨r0,er0⟩:∃ q,dSlots 4 s=q:=⟨_,rfl⟩
 have HR0:Hid (dSlots 4 s=r0):=er0
 rw [er0]
 clear h hK er0
 go_enter Tryz.func79,Tryz.ntmps79
 go_wp2_with fail
 go_loopw [3,4,5,6] (fun t _ _ _ wr=>∃ a n c s',n≤4∧t=.slice a n c∧Hid (GL w b K wr [] s' 102 2 (.slice a n c) n)∧Hid (dSlots (4 - n) s'=r0)) (fun t _ _ _ _=>4 - slen t)
 case atStart=>exact⟨none,0,0,s,by omega,rfl,HG0,HR0⟩
 case round =>
  obtain⟨a,n,c,s',hn,rfl,HL,HD⟩:=hrel
  clear HG0 HR0
  have cI:=is_g HK.out HL.out.G.S Zz (by decide +kernel) (by decide)
  obtain⟨q6,eq6⟩:∃ q,dIs Zz s'=q:=⟨_,rfl⟩
  have HQ6:=zH eq6
  rw [eq6] at cI
  clear eq6
  cases q6 with
  | false =>
   go_wp2_with fail
   refine cI.mono ?_
   rintro e w1 ⟨rfl,hb⟩
   have HL1:=(HL.out.on hb).hid
   clear cI hb HL
   go_wp2_with fail
   go_ret
   exact⟨a,n,c,rfl,by rw [← HD.out,dSlots_no HQ6.out]; exact HL1.out.G.S,HL1.out.G.M⟩
  | true =>
   obtain⟨t6,ts6,e6,hx6⟩:=dIs_ok HQ6.out
   have HE6:Hid (s'=.ok (t6 :: ts6)):=e6
   clear e6 hx6
   go_wp2_with fail
   refine cI.mono ?_
   rintro e w1 ⟨rfl,hb⟩
   have HL1:=(HL.out.on hb).hid
   have hlv:Lv w1 b K (t6 :: ts6):=by
    have h1:=HL1.out.G.S
    rw [HE6.out] at h1
    exact h1.2
   clear cI hb HL
   by_cases h4:n < 4
   ·have cM:=many_ok hlv n 4 h4 (by omega)
    have HD2:Hid (dSlots (4 - (n+1)) (dSlot s')=r0):=by
     show _=_
     rw [← HD.out,show 4 - n=(4 - (n+1))+1 by omega]
     show _=if _ then _ else _
     rw [if_pos HQ6.out]
    clear hlv
    go_wp2_with fail
    refine cM.mono ?_
    rintro e w2 ⟨rfl,e2⟩
    obtain rfl:=e2.symm
    clear cM e2
    have cT:=take_g HK.out HL1.out.G.S Zz (by decide +kernel) (by decide)
    go_wp2_with fail
    refine cT.mono ?_
    rintro e w3 ⟨⟨p3,rfl⟩,hs,hm⟩
    have HL3:=((HL1.out.mv hm hs).push #[.string ⟨#[]⟩,zI p3] 102 2 rfl (by simp [Value.oneCell'])).hid
    clear cT hs hm HL1
    go_upto_region 9 with fail
    obtain⟨N3,eN3⟩:∃ q,w3§=q:=⟨_,rfl⟩
    obtain⟨W3,eW3⟩:∃ W,w3.alloc (.cells #[.string ⟨#[]⟩,zI p3] 102)=W:=⟨_,rfl⟩
    rw [eW3] at HL3 ⊢
    rw [eN3] at HL3 ⊢
    clear eW3 eN3
    have cN:=name_g HL3.out.G.S
    go_wp2_with fail
    refine cN.mono ?_
    rintro e w4 ⟨⟨x4,rfl⟩,hs,hm⟩
    have HL4:=(HL3.out.mv hm hs).hid
    obtain⟨av0,ac0,af0⟩:=(HL4.out.G.B (N3,102,2) (by simp)).1.cell 0 (show 0 < 2 by omega)
    have HL5:=zH (HL4.out.set (N:=N3) (T:=102) (m:=2) (by simp) 0 (.string x4) rfl)
    clear cN hs hm HL3
    go_upto_region 10 with fail
    obtain⟨W5,eW5⟩:∃ W,w4.setCell ⟨N3,0,none⟩ (.string x4)=W:=⟨_,rfl⟩
    rw [eW5] at HL5 ⊢
    clear eW5 ac0 af0 HL4
    have cT:=take_g HK.out HL5.out.G.S Zr (by decide +kernel) (by decide)
    go_wp2_with fail
    refine cT.mono ?_
    rintro e w6 ⟨⟨p6,rfl⟩,hs,hm⟩
    have HL6:=(HL5.out.mv hm hs).hid
    clear cT hs hm HL5
    obtain⟨cs,hc1,hc2,hc3⟩:=(HL6.out.G.B (N3,102,2) (by simp)).1
    have HC:Hid (w6.heap[N3]? = some (.cells cs 102 (0,0))∧cs.size=2∧cs.all (·.oneCell')=true):=⟨hc1,hc2,hc3⟩
    clear hc1 hc2 hc3
    go_wp2_with (first | (refine wpList_load_row rfl 102 (.tmp 6) rfl N3 rfl 102 cs (0,0) _ HC.out.1 Tryz.underlying102 rfl (by rw [HC.out.2.1]; exact size102) ?_) | (refine wpList_slice1 rfl 40 102 (.tmp 28) rfl cs rfl 2 _ Tryz.underlying40 24 inf102 rfl HC.out.2.1 (by decide) (by decide) ?_) | (at_builtin; refine app_g HL6.out 40 cs HC.out.2.1 HC.out.2.2 _ 24 Tryz.underlying40 inf102 rfl (by decide) (by omega) (by decide) rfl (.tmp 27) (.tmp 29) rfl rfl rfl ?_; intro g7 cap7 w7 hl7; have HL7:=hl7.pop.hid; clear hl7))
    exact⟨⟨some ⟨g7,0,none⟩,n+1,cap7,_,by omega,rfl,HL7,HD2⟩,by simp only [slen]; omega⟩
   ·obtain rfl:n=4:=by omega
    have cM:=many_no hlv 4 4 h4 (by omega)
    have HD2:Hid (Except.error (.tok 131 t6.p)=r0):=by
     show _=_
     rw [← HD.out]
     show _=if _ then _ else _
     rw [if_pos HQ6.out,HE6.out]
     rfl
    clear hlv
    go_wp2_with fail
    refine cM.mono ?_
    rintro e w2 ⟨rfl,hd,hm⟩
    have HL2:=(HL1.out.mv (s':=.error (.tok 131 t6.p)) hm hd).hid
    clear cM hd hm HL1
    go_wp2_with fail
    go_ret
    exact⟨a,4,c,rfl,by rw [← HD2.out]; exact HL2.out.G.S,HL2.out.G.M⟩
end Go.Proofs.YtkfabnchhjfjjaaGreatDoor
