import Derived.Test.YtfbjofnaghjmeaaGreatDoorA0
import Derived.Test.YtfbjofnaghjmeaaGreatDoorA13
import Derived.Deep.MidRow
namespace Go.Proofs.YtfbjofnaghjmeaaGreatDoor
set_option maxHeartbeats 4000000
set_option maxRecDepth 100000
open Go.RowKit
set_option linter.unusedVariables false
theorem take_l {w:yW}{b:Nat}{K:PK}{t:Tk}{ts:List Tk}(hK:KG K) (h:Lv w b K (t :: ts)) (x:yB) (hx:(lx x.data.toList).map (·.1)=some 1∨(lx x.data.toList).map (·.1)=some 4) (ht:t.x=x) :
  Calls zG 135 #[zP b,.string x] w fun e w'=>e=.returned (zI t.p)∧Lv w' b K ts∧Mv w w' (fun k=>k=b):=by
 refine (take_live h x (kw_gd (h.gd hK) hx)).mono ?_
 rintro e w' ⟨⟨p,rfl,h1⟩,h2,h3⟩
 rw [if_pos ht] at h2
 rw [h1 ht]
 exact⟨rfl,h2,h3⟩
theorem is_l {w:yW}{b:Nat}{K:PK}{t:Tk}{ts:List Tk}(hK:KG K) (h:Lv w b K (t :: ts)) (x:yB) (hx:(lx x.data.toList).map (·.1)=some 1∨(lx x.data.toList).map (·.1)=some 4) {i:Bool}(hi:pIs x (t :: ts)=i) :
  Calls zG 137 #[zP b,.string x] w fun e w'=>e=.returned (.bool i)∧yD w w':=by
 subst hi
 exact is_live h x (kw_gd (h.gd hK) hx)
theorem name_l {w:yW}{b:Nat}{K:PK}{t:Tk}{ts:List Tk}(h:Lv w b K (t :: ts)) (hk:t.k=2) :
  Calls zG 136 #[zP b] w fun e w'=>e=.returned (.string t.x)∧Lv w' b K ts∧Mv w w' (fun k=>k=b):=by
 have cN:=live_now h
 have HH:=h.hid
 unfold tkA at cN
 rw [hk] at cN
 clear h hk
 go_enter Tryz.func136,Tryz.ntmps136
 go_wp2_with fail
 refine cN.mono ?_
 rintro e w1 ⟨rfl,hb⟩
 have HB:Hid (yD w (w1.alloc (.cells #[zU 2,.string t.x,zU t.ty,zI t.n,zI t.p] 233))):=below2 hb (below_new _ _)
 have hN:=heap_new w1 (.cells #[zU 2,.string t.x,zU t.ty,zI t.n,zI t.p] 233)
 obtain⟨i,c3,f3,hmx,hL,hM,ho,_⟩:=(HH.out.on HB.out).at'
 have hbl:=HH.out.lt
 have hsz:=hb.size
 have k1:((w1.alloc (.cells #[zU 2,.string t.x,zU t.ty,zI t.n,zI t.p] 233)).setCell b¢3 (zI ((i:Int)+1))).cell? w1§¢1=some (.string t.x):=cell_of ((ho w1§ (by omega)).trans hN) 1
 obtain⟨W,eW⟩:∃ W,w1.alloc (.cells #[zU 2,.string t.x,zU t.ty,zI t.n,zI t.p] 233)=W:=⟨_,rfl⟩
 have k0:W.cell? w1§¢0=some (zU 2):=by rw [← eW]; exact cell_of hN 0
 rw [eW] at HB c3 f3 hL hM k1
 have HL:=hL.hid
 have HM:Hid (Mv W _ (fun k=>k=b)):=hM
 clear cN hb hN hL hM ho hbl hsz
 obtain⟨Y,eY⟩:∃ Y,W.setCell b¢3 (zI ((i:Int)+1))=Y:=⟨_,rfl⟩
 rw [eY] at HL HM k1
 go_wp2_with fail
 try rw [eW]
 go_wp2_with fail
 go_ret
 first | exact⟨rfl,HL.out,(Mv.ofBelow HB.out).trans HM.out (fun k e=>.inl e)⟩ | (rw [eY]; exact⟨rfl,HL.out,(Mv.ofBelow HB.out).trans HM.out (fun k e=>.inl e)⟩)
theorem expr_l {w:yW}{b:Nat}{K:PK}{t:Tk}{ts:List Tk}{r:Tr}{u:Tk}{us:List Tk}(hK:KG K) (h:Lv w b K (t :: ts)) (hp:pEx (t :: ts)=some (r,u :: us)) :
  Calls zG 203 #[zP b,zI 0] w (OutE b K w r (u :: us)):=ex_y hK h hp
theorem HX.cellA {w:yW}{b:Nat}{K:PK}{V:yW}{pre post:List (Nat × Nat × Array Value)}{N:Nat}{e sz:Nat}{v:Value}{vs:List (Array Value)}{F:yW→Prop}{ts:List Tk}{T:Nat}{cs:Array Value}(h:HX w b K V (pre ++ (N,T,cs) :: post) e sz v vs F ts) (i:Nat) (hi:i < cs.size):∃ u,V.cell? N¢i=some u∧V.frozen? N¢i=false:=by
 have hb:=(h.B (N,T,cs) (by simp)).1
 refine⟨cs[i],?_,frozen_of hb i⟩
 rw [cell_of hb i,Array.getElem?_eq_getElem hi]
def nd00:Nd:=.mk ⟨0,0,0,0,0,gE,0⟩ none 0 []
theorem doSd_eq (k o:Int) (x:yB) (s q r u m:Nd) (p:Int):set8 (doA k o x s q r u p) 3 m=doA k o x m q r u p:=by kernel_rfl
theorem HX.doSd {w:yW}{b:Nat}{K:PK}{V:yW}{post:List (Nat × Nat × Array Value)}{N:Nat}{e sz:Nat}{v:Value}{vs:List (Array Value)}{F:yW→Prop}{ts:List Tk}{k o:Int}{x:yB}{s q r u:Nd}{p:Int}(h:HX w b K V ((N,121,doA k o x s q r u p) :: post) e sz v vs F ts) (m:Nd):HX w b K ((((((((V.setCell N¢3 (zU m.h.k)).setCell N¢4 (zU m.h.o)).setCell N¢5 (zU m.h.t)).setCell N¢6 (zI m.h.n)).setCell N¢7 (zU m.h.f)).setCell N¢8 (.string m.h.x)).setCell N¢9 (.slice m.a m.ks.length m.c)).setCell N¢10 (zI m.h.p)) ((N,121,doA k o x m q r u p) :: post) e sz v vs F ts:=by
 have h':=HX.nodeA (pre:=[]) h 3 m
 rw [doSd_eq] at h'
 exact h'
theorem doQt_eq (k o:Int) (x:yB) (s q r u m:Nd) (p:Int):set8 (doA k o x s q r u p) 11 m=doA k o x s m r u p:=by kernel_rfl
theorem HX.doQt {w:yW}{b:Nat}{K:PK}{V:yW}{post:List (Nat × Nat × Array Value)}{N:Nat}{e sz:Nat}{v:Value}{vs:List (Array Value)}{F:yW→Prop}{ts:List Tk}{k o:Int}{x:yB}{s q r u:Nd}{p:Int}(h:HX w b K V ((N,121,doA k o x s q r u p) :: post) e sz v vs F ts) (m:Nd):HX w b K ((((((((V.setCell N¢11 (zU m.h.k)).setCell N¢12 (zU m.h.o)).setCell N¢13 (zU m.h.t)).setCell N¢14 (zI m.h.n)).setCell N¢15 (zU m.h.f)).setCell N¢16 (.string m.h.x)).setCell N¢17 (.slice m.a m.ks.length m.c)).setCell N¢18 (zI m.h.p)) ((N,121,doA k o x s m r u p) :: post) e sz v vs F ts:=by
 have h':=HX.nodeA (pre:=[]) h 11 m
 rw [doQt_eq] at h'
 exact h'
theorem doPr_eq (k o:Int) (x:yB) (s q r u m:Nd) (p:Int):set8 (doA k o x s q r u p) 19 m=doA k o x s q m u p:=by kernel_rfl
theorem HX.doPr {w:yW}{b:Nat}{K:PK}{V:yW}{post:List (Nat × Nat × Array Value)}{N:Nat}{e sz:Nat}{v:Value}{vs:List (Array Value)}{F:yW→Prop}{ts:List Tk}{k o:Int}{x:yB}{s q r u:Nd}{p:Int}(h:HX w b K V ((N,121,doA k o x s q r u p) :: post) e sz v vs F ts) (m:Nd):HX w b K ((((((((V.setCell N¢19 (zU m.h.k)).setCell N¢20 (zU m.h.o)).setCell N¢21 (zU m.h.t)).setCell N¢22 (zI m.h.n)).setCell N¢23 (zU m.h.f)).setCell N¢24 (.string m.h.x)).setCell N¢25 (.slice m.a m.ks.length m.c)).setCell N¢26 (zI m.h.p)) ((N,121,doA k o x s q m u p) :: post) e sz v vs F ts:=by
 have h':=HX.nodeA (pre:=[]) h 19 m
 rw [doPr_eq] at h'
 exact h'
theorem doVl_eq (k o:Int) (x:yB) (s q r u m:Nd) (p:Int):set8 (doA k o x s q r u p) 27 m=doA k o x s q r m p:=by kernel_rfl
theorem HX.doVl {w:yW}{b:Nat}{K:PK}{V:yW}{post:List (Nat × Nat × Array Value)}{N:Nat}{e sz:Nat}{v:Value}{vs:List (Array Value)}{F:yW→Prop}{ts:List Tk}{k o:Int}{x:yB}{s q r u:Nd}{p:Int}(h:HX w b K V ((N,121,doA k o x s q r u p) :: post) e sz v vs F ts) (m:Nd):HX w b K ((((((((V.setCell N¢27 (zU m.h.k)).setCell N¢28 (zU m.h.o)).setCell N¢29 (zU m.h.t)).setCell N¢30 (zI m.h.n)).setCell N¢31 (zU m.h.f)).setCell N¢32 (.string m.h.x)).setCell N¢33 (.slice m.a m.ks.length m.c)).setCell N¢34 (zI m.h.p)) ((N,121,doA k o x s q r m p) :: post) e sz v vs F ts:=by
 have h':=HX.nodeA (pre:=[]) h 27 m
 rw [doVl_eq] at h'
 exact h'
theorem HX.doO {w:yW}{b:Nat}{K:PK}{V:yW}{post:List (Nat × Nat × Array Value)}{N:Nat}{e sz:Nat}{v:Value}{vs:List (Array Value)}{F:yW→Prop}{ts:List Tk}{k o:Int}{x:yB}{s q r u:Nd}{p:Int}(h:HX w b K V ((N,121,doA k o x s q r u p) :: post) e sz v vs F ts) (o':Int):HX w b K (V.setCell N¢1 (zU o')) ((N,121,doA k o' x s q r u p) :: post) e sz v vs F ts:=HX.setA (pre:=[]) h 1 (zU o')
theorem HX.doX {w:yW}{b:Nat}{K:PK}{V:yW}{post:List (Nat × Nat × Array Value)}{N:Nat}{e sz:Nat}{v:Value}{vs:List (Array Value)}{F:yW→Prop}{ts:List Tk}{k o:Int}{x:yB}{s q r u:Nd}{p:Int}(h:HX w b K V ((N,121,doA k o x s q r u p) :: post) e sz v vs F ts) (x':yB):HX w b K (V.setCell N¢2 (.string x')) ((N,121,doA k o x' s q r u p) :: post) e sz v vs F ts:=HX.setA (pre:=[]) h 2 (.string x')
theorem all36 (k o:Int) (x:yB) (s q r u:Nd) (p:Int):(doA k o x s q r u p).all (·.oneCell')=true:=by
 simp [doA,Value.oneCell']
theorem doA_sz (k o:Int) (x:yB) (s q r u:Nd) (p:Int):(doA k o x s q r u p).size=36:=rfl
theorem cells8_eq (V:yW) (N o:Nat) (m:Nd):V.setCells N o m.vals.toList=((((((((V.setCell N¢o (zU m.h.k)).setCell ⟨N,o+1,none⟩ (zU m.h.o)).setCell ⟨N,o+2,none⟩ (zU m.h.t)).setCell ⟨N,o+3,none⟩ (zI m.h.n)).setCell ⟨N,o+4,none⟩ (zU m.h.f)).setCell ⟨N,o+5,none⟩ (.string m.h.x)).setCell ⟨N,o+6,none⟩ (.slice m.a m.ks.length m.c)).setCell ⟨N,o+7,none⟩ (zI m.h.p)):=rfl
theorem pTake_inv {x:yB}{ts:List Tk}{q:Int × List Tk}(h:pTake x ts=some q):∃ t,ts=t :: q.2∧t.x=x∧q.1=t.p:=by
 cases ts with
 | nil=>cases h
 | cons t ts =>
  simp only [pTake] at h
  by_cases e:t.x=x
  ·rw [if_pos e] at h; cases h; exact⟨t,rfl,e,rfl⟩
  ·rw [if_neg e] at h; cases h
theorem pName_inv {ts:List Tk}{q:yB × List Tk}(h:pName ts=some q):∃ t,ts=t :: q.2∧t.k=2∧q.1=t.x:=by
 cases ts with
 | nil=>cases h
 | cons t ts =>
  simp only [pName] at h
  by_cases e:t.k=2
  ·rw [if_pos e] at h; cases h; exact⟨t,rfl,e,rfl⟩
  ·rw [if_neg e] at h; cases h
theorem pAny_inv {L:List yB}{ts:List Tk}{q:Int × List Tk}(h:pAny L ts=some q):∃ t,ts=t :: q.2∧0≤q.1∧fnd t.x L 0=q.1:=by
 cases ts with
 | nil=>cases h
 | cons t ts =>
  simp only [pAny] at h
  by_cases e:0≤fnd t.x L 0
  ·rw [if_pos e] at h; cases h; exact⟨t,rfl,e,rfl⟩
  ·rw [if_neg e] at h; cases h
theorem pReg_inv {ts:List Tk}{r:RegT}{ts':List Tk}(h:pReg ts=some (r,ts')):∃ t1 t2 t3 t4 us v,∃ q:Tr × List Tk,ts=t1 :: t2 :: t3 :: t4 :: us∧t1.x=Zb∧t2.k=2∧0≤v∧fnd t3.x zx 0=v∧t4.x=Zi∧pInit us=some q∧(∃ t6,q.2=t6 :: ts'∧t6.x=Z9)∧r=⟨t2.x,1+v,q.1,t1.p⟩:=by
 unfold pReg at h
 obtain⟨a,h1,h⟩:=opt_bind h
 obtain⟨b,h2,h⟩:=opt_bind h
 obtain⟨c,h3,h⟩:=opt_bind h
 obtain⟨d,h4,h⟩:=opt_bind h
 obtain⟨e,h5,h⟩:=opt_bind h
 obtain⟨f,h6,h⟩:=opt_bind h
 cases h
 obtain⟨t1,rfl,k1,k1'⟩:=pTake_inv h1
 obtain⟨t2,g2,k2,k2'⟩:=pName_inv h2
 obtain⟨t3,g3,k3,k3'⟩:=pAny_inv h3
 obtain⟨t4,g4,k4,_⟩:=pTake_inv h4
 obtain⟨t6,g6,k6,_⟩:=pTake_inv h6
 exact⟨t1,t2,t3,t4,d.2,c.1,e,by rw [g2,g3,g4],k1,k2,k3,k3',k4,h5,⟨t6,g6,k6⟩,by rw [k1',k2']⟩
theorem regA_zero (x:yB) (t p:Int):#[.string x,zU t,zU 0,zU 0,zU 0,zI 0,zU 0,yQ,.slice none 0 0,zI 0,zI p]=RegM.vals ⟨x,t,nd00,p⟩:=rfl
theorem rgX_eq (x x':yB) (t p:Int) (m:Nd):(RegM.vals ⟨x,t,m,p⟩).setIfInBounds 0 (.string x')=RegM.vals ⟨x',t,m,p⟩:=by kernel_rfl
theorem rgT_eq (x:yB) (t t' p:Int) (m:Nd):(RegM.vals ⟨x,t,m,p⟩).setIfInBounds 1 (zU t')=RegM.vals ⟨x,t',m,p⟩:=by kernel_rfl
theorem rgM_eq (x:yB) (t p:Int) (m m':Nd):set8 (RegM.vals ⟨x,t,m,p⟩) 2 m'=RegM.vals ⟨x,t,m',p⟩:=by kernel_rfl
theorem HX.rgX {w:yW}{b:Nat}{K:PK}{V:yW}{pre post:List (Nat × Nat × Array Value)}{N:Nat}{e sz:Nat}{v:Value}{vs:List (Array Value)}{F:yW→Prop}{ts:List Tk}{x:yB}{t p:Int}{m:Nd}(h:HX w b K V (pre ++ (N,102,RegM.vals ⟨x,t,m,p⟩) :: post) e sz v vs F ts) (x':yB):HX w b K (V.setCell N¢0 (.string x')) (pre ++ (N,102,RegM.vals ⟨x',t,m,p⟩) :: post) e sz v vs F ts:=by
 have h':=h.setA 0 (.string x')
 rwa [rgX_eq] at h'
theorem HX.rgT {w:yW}{b:Nat}{K:PK}{V:yW}{pre post:List (Nat × Nat × Array Value)}{N:Nat}{e sz:Nat}{v:Value}{vs:List (Array Value)}{F:yW→Prop}{ts:List Tk}{x:yB}{t p:Int}{m:Nd}(h:HX w b K V (pre ++ (N,102,RegM.vals ⟨x,t,m,p⟩) :: post) e sz v vs F ts) (t':Int):HX w b K (V.setCell N¢1 (zU t')) (pre ++ (N,102,RegM.vals ⟨x,t',m,p⟩) :: post) e sz v vs F ts:=by
 have h':=h.setA 1 (zU t')
 rwa [rgT_eq] at h'
theorem HX.rgM {w:yW}{b:Nat}{K:PK}{V:yW}{pre post:List (Nat × Nat × Array Value)}{N:Nat}{e sz:Nat}{v:Value}{vs:List (Array Value)}{F:yW→Prop}{ts:List Tk}{x:yB}{t p:Int}{m:Nd}(h:HX w b K V (pre ++ (N,102,RegM.vals ⟨x,t,m,p⟩) :: post) e sz v vs F ts) (m':Nd):HX w b K ((((((((V.setCell N¢2 (zU m'.h.k)).setCell N¢3 (zU m'.h.o)).setCell N¢4 (zU m'.h.t)).setCell N¢5 (zI m'.h.n)).setCell N¢6 (zU m'.h.f)).setCell N¢7 (.string m'.h.x)).setCell N¢8 (.slice m'.a m'.ks.length m'.c)).setCell N¢9 (zI m'.h.p)) (pre ++ (N,102,RegM.vals ⟨x,t,m',p⟩) :: post) e sz v vs F ts:=by
 have h':=h.nodeA 2 m'
 rwa [rgM_eq] at h'
theorem HX.rgC {w:yW}{b:Nat}{K:PK}{V:yW}{pre post:List (Nat × Nat × Array Value)}{N:Nat}{e sz:Nat}{v:Value}{vs:List (Array Value)}{F:yW→Prop}{ts:List Tk}{r:RegM}(h:HX w b K V (pre ++ (N,102,r.vals) :: post) e sz v vs F ts) (i:Nat) (hi:i < 11):∃ u,V.cell? N¢i=some u∧V.frozen? N¢i=false:=h.cellA i hi
theorem size100':(Tryz.prog.info? 102).map (·.size)=some 11:=by kernel_rfl
theorem all11 (r:RegM):r.vals.all (·.oneCell')=true:=by simp [RegM.vals,Value.oneCell']
theorem reg_l {w:yW}{b:Nat}{K:PK}{ts ts':List Tk}{r:RegT}(hK:KG K) (h:Lv w b K ts) (hp:pReg ts=some (r,ts')):Calls zG 139 #[zP b] w (OutL RegM.vals RegM.tr RegL b K w r ts'):=by
 obtain⟨t1,t2,t3,t4,us,v,q,rfl,k1,k2,hv0,hv,k4,hq,⟨t6,hq2,k6⟩,rfl⟩:=pReg_inv hp
 have HK:Hid (KG K):=hK
 have HT1:Hid (RgT t1):=(h.ok hK.k).r
 have hrg:=fnd_rg t3.x zx 0
 rw [hv] at hrg
 simp only [List.length_cons,List.length_nil] at hrg
 have hv6:v < 6:=by omega
 have HG0:=((HX.new h 0 0).push ze 102).hid
 clear h hK hp hrg
 obtain⟨W0,eW0⟩:∃ W,w.alloc (.cells ze 102)=W:=⟨_,rfl⟩
 rw [eW0] at HG0
 have cT:=take_l HK.out HG0.out.S Zb (by decide +kernel) k1
 clear k1
 go_enter Tryz.func139,Tryz.ntmps139
 go_wp2_with fail
 try rw [eW0]
 refine cT.mono ?_
 rintro e w1 ⟨rfl,hs,hm⟩
 have HG1:=((HG0.out.mv hm hs).push #[yQ,zU 0,zU 0,zU 0,zU 0,zI 0,zU 0,yQ,.slice none 0 0,zI 0,zI t1.p] 102).hid
 clear cT hs hm HG0 eW0
 go_upto_region 2 with fail
 obtain⟨N3,eN3⟩:∃ q,w1§=q:=⟨_,rfl⟩
 obtain⟨W1,eW1⟩:∃ W,w1.alloc (.cells #[yQ,zU 0,zU 0,zU 0,zU 0,zI 0,zU 0,yQ,.slice none 0 0,zI 0,zI t1.p] 102)=W:=⟨_,rfl⟩
 rw [eW1,eN3,regA_zero] at HG1
 rw [eW1,eN3]
 clear eW1 eN3
 have cN:=name_l HG1.out.S k2
 have HT2:Hid (RgT t2):=(HG1.out.S.ok HK.out.k).r
 clear k2
 go_wp2_with fail
 refine cN.mono ?_
 rintro e w2 ⟨rfl,hs,hm⟩
 have HG2:=(HG1.out.mv hm hs).hid
 obtain⟨v0,c0,f0⟩:=HX.rgC (pre:=[]) HG2.out 0 (by omega)
 have HG3:Hid (HX w b K (w2.setCell N3¢0 (.string t2.x)) [(N3,102,(RegM.vals ⟨t2.x,0,nd00,t1.p⟩)),(w§,102,ze)] 0 0 (.slice none 0 0) [] (fun _=>True) (t3 :: t4 :: us)):=HX.rgX (pre:=[]) HG2.out t2.x
 clear cN hs hm HG1
 go_upto_region 3 with fail
 obtain⟨W3,eW3⟩:∃ W,w2.setCell N3¢0 (.string t2.x)=W:=⟨_,rfl⟩
 rw [eW3] at HG3 ⊢
 clear eW3 HG2 c0 f0
 have cA:=any_y HG3.out.S HK.out zx (n:=6) rfl (by decide) (by decide +kernel)
 simp only [List.map] at cA
 rw [hv] at cA
 have hv2:decide (v < 0)=false:=decide_eq_false (by omega)
 clear hv
 go_wp2_with fail
 refine cA.mono ?_
 rintro e w4 ⟨rfl,hb4⟩
 have HG4:=(HG3.out.on hb4).hid
 obtain⟨i,c3,f3,hmx,hL,hM,_,_⟩:=HG4.out.S.at'
 obtain⟨V,eV⟩:∃ V,w4.setCell b¢3 (zI ((i:Int)+1))=V:=⟨_,rfl⟩
 rw [eV] at hL hM
 have HG5:=(HG4.out.mv hM hL).hid
 obtain⟨v1,c1,f1⟩:=HX.rgC (pre:=[]) HG5.out 1 (by omega)
 have HG6:Hid (HX w b K (V.setCell N3¢1 (zU (1+v))) [(N3,102,(RegM.vals ⟨t2.x,(1+v),nd00,t1.p⟩)),(w§,102,ze)] 0 0 (.slice none 0 0) [] (fun _=>True) (t4 :: us)):=HX.rgT (pre:=[]) HG5.out (1+v)
 clear cA hb4 HG3 hL hM HG4
 go_upto_region 8 with fail
 try rw [eV]
 clear eV c3 f3 hmx
 go_upto_region 9 with fail
 obtain⟨W6,eW6⟩:∃ W,V.setCell N3¢1 (zU (1+v))=W:=⟨_,rfl⟩
 rw [eW6] at HG6 ⊢
 clear eW6 c1 f1 HG5
 have cT:=take_l HK.out HG6.out.S Zi (by decide +kernel) k4
 clear k4
 go_wp2_with fail
 refine cT.mono ?_
 rintro e w7 ⟨rfl,hs,hm⟩
 have HG7:=(HG6.out.mv hm hs).hid
 have HV:Hid (0≤v∧v < 6):=⟨hv0,hv6⟩
 clear cT hs hm HG6 hv0 hv6
 have HK6:Hid (t6.x=Z9):=k6
 clear k6
 unfold pInit at hq
 by_cases hmi:pIs Zj us=true
 ·rw [if_pos hmi] at hq; cases hq
 rw [if_neg hmi] at hq
 obtain⟨q1,q2⟩:=q
 obtain⟨u,us,rfl⟩:∃ u r,us=u :: r:=by
  cases us with
  | nil=>cases hq
  | cons u r=>exact⟨u,r,rfl⟩
 simp only at hq2 ⊢
 subst hq2
 have hmi2:pIs Zj (u :: us)=false:=by simpa using hmi
 have cN:=live_now HG7.out.S
 have hf:=fun v=>field82_4 u v
 have HL:Hid (pLit (u :: us)=some (q1,t6 :: ts')):=hq
 clear hq hmi
 go_wp2_with fail
 refine cN.mono ?_
 rintro e w8 ⟨rfl,hb8⟩
 have HG8:=(HG7.out.on hb8).hid
 have cI:=is_l HK.out HG8.out.S Zj (by decide +kernel) hmi2
 clear cN hb8 HG7 hmi2
 go_wp2_with fail
 refine cI.mono ?_
 rintro e w9 ⟨rfl,hb9⟩
 have HG9:=(HG8.out.on hb9).hid
 have cL:=lit_y HK.out HG9.out.S HL.out
 clear cI hb9 HG8 HL hf
 go_wp2_with fail
 refine cL.mono ?_
 rintro e w10 ⟨m,rfl,htr,hl,hs,hm⟩
 have HTR:Hid (treeOf m=q1∧∀ U,Lies U m):=⟨htr,hl⟩
 have HGa:=(HX.rowA (pre:=[]) ((HG9.out.mv hm hs).push zNo 38) m.vals).hid
 have HZ:Hid ((w10.alloc (.cells zNo 38)).heap[w10§]? = (zC zNo 38)):=heap_new _ _
 clear cL hs hm htr hl HG9
 go_upto_region 18 with (refine wpList_store_row rfl 38 (.tmp 7) (.tmp 59) rfl w10§ m.vals rfl rfl 38 zNo HZ.out size64' rfl (all8 m) ?_)
 generalize hW:World.setRow _ _ _=W
 rw [hW] at HGa
 generalize w10§=Q at HGa ⊢
 clear HZ hW
 have HH1:=(HX.rgM (pre:=[_]) HGa.out m).hid
 rw [← cells8_eq] at HH1
 go_upto_region 21 with (first | (refine wpList_load_row rfl 38 (.tmp 7) rfl Q rfl 38 m.vals (0,0) _ HGa.out.b0 Tryz.underlying38 rfl size64' ?_) | (refine wpList_store_mid rfl 38 (.tmp 66) (.tmp 65) rfl N3 2 m.vals rfl rfl (fun j hj=>by obtain⟨u,h1,h2⟩:=HX.rgC (pre:=[_]) HGa.out (2+j) (by have:j < 8:=hj; omega); exact⟨by rw [h1]; rfl,h2⟩) size64' (all8 m) ?_))
 generalize World.setCells _ _ _ _=Y1 at HH1 ⊢
 have cT:=take_l HK.out HH1.out.S Z9 (by decide +kernel) HK6.out
 clear HGa
 go_wp2_with fail
 refine cT.mono ?_
 rintro e w12 ⟨rfl,hs,hm⟩
 have HG12:=((HH1.out.mv hm hs).pop).hid
 clear cT hs hm HH1
 have HF:=(HX.rowA (pre:=[_]) HG12.out (RegM.vals ⟨t2.x,(1+v),m,t1.p⟩)).hid
 go_wp2_with (first | (refine wpList_load_row rfl 102 (.tmp 3) rfl N3 rfl 102 (RegM.vals ⟨t2.x,(1+v),m,t1.p⟩) (0,0) _ HG12.out.b0 Tryz.underlying102 rfl size100' ?_) | (refine wpList_store_row rfl 102 (.tmp 2) (.tmp 75) rfl w§ (RegM.vals ⟨t2.x,(1+v),m,t1.p⟩) rfl rfl 102 ze HG12.out.b1 size100' rfl (all11 _) ?_))
 refine bodyPost_ret (results_cell_row rfl _ _ w§ 102 (RegM.vals ⟨t2.x,(1+v),m,t1.p⟩) (0,0) _ rfl HF.out.b1 Tryz.underlying102 rfl size100') rfl ⟨⟨t2.x,1+v,m,t1.p⟩,rfl,?_,HF.out.fin.1.imp fun U hU=>⟨HTR.out.2 U,?_,⟨HT1.out.p0,HT1.out.p1⟩,HT2.out.x1⟩,HF.out.S,HF.out.M⟩
 ·show RegT.mk t2.x (1+v) (treeOf m) t1.p=_
  rw [HTR.out.1]
 ·have:=HV.out
  exact⟨by show 0≤1+v; omega,by show 1+v≤255; omega⟩
theorem rg0:Rg ⟨0,0,0,0,0,gE,0⟩:=by constructor <;> first | omega | decide
theorem HX.thereA {w:yW}{b:Nat}{K:PK}{V:yW}{pre post:List (Nat × Nat × Array Value)}{N:Nat}{e sz:Nat}{v:Value}{vs:List (Array Value)}{F:yW→Prop}{ts:List Tk}{T:Nat}{cs:Array Value}(h:HX w b K V (pre ++ (N,T,cs) :: post) e sz v vs F ts) (o n:Nat) (hi:o+n≤cs.size):V.there N o n:=fun j hj=>by
 obtain⟨u,h1,h2⟩:=h.cellA (o+j) (by omega)
 exact⟨by rw [h1]; rfl,h2⟩
theorem HX.doT {w:yW}{b:Nat}{K:PK}{V:yW}{post:List (Nat × Nat × Array Value)}{N:Nat}{e sz:Nat}{v:Value}{vs:List (Array Value)}{F:yW→Prop}{ts:List Tk}{k o:Int}{x:yB}{s q r u:Nd}{p:Int}(h:HX w b K V ((N,121,doA k o x s q r u p) :: post) e sz v vs F ts) (i:Nat) (hi:i+8≤36):V.there N i 8:=HX.thereA (pre:=[]) h i 8 hi
theorem HX.doSdS {w:yW}{b:Nat}{K:PK}{V:yW}{post:List (Nat × Nat × Array Value)}{N:Nat}{e sz:Nat}{v:Value}{vs:List (Array Value)}{F:yW→Prop}{ts:List Tk}{k o:Int}{x:yB}{s q r u:Nd}{p:Int}(h:HX w b K V ((N,121,doA k o x s q r u p) :: post) e sz v vs F ts) (m:Nd):HX w b K (V.setCells N 3 m.vals.toList) ((N,121,doA k o x m q r u p) :: post) e sz v vs F ts:=by
 rw [cells8_eq]
 exact h.doSd m
theorem HX.doQtS {w:yW}{b:Nat}{K:PK}{V:yW}{post:List (Nat × Nat × Array Value)}{N:Nat}{e sz:Nat}{v:Value}{vs:List (Array Value)}{F:yW→Prop}{ts:List Tk}{k o:Int}{x:yB}{s q r u:Nd}{p:Int}(h:HX w b K V ((N,121,doA k o x s q r u p) :: post) e sz v vs F ts) (m:Nd):HX w b K (V.setCells N 11 m.vals.toList) ((N,121,doA k o x s m r u p) :: post) e sz v vs F ts:=by
 rw [cells8_eq]
 exact h.doQt m
theorem HX.doPrS {w:yW}{b:Nat}{K:PK}{V:yW}{post:List (Nat × Nat × Array Value)}{N:Nat}{e sz:Nat}{v:Value}{vs:List (Array Value)}{F:yW→Prop}{ts:List Tk}{k o:Int}{x:yB}{s q r u:Nd}{p:Int}(h:HX w b K V ((N,121,doA k o x s q r u p) :: post) e sz v vs F ts) (m:Nd):HX w b K (V.setCells N 19 m.vals.toList) ((N,121,doA k o x s q m u p) :: post) e sz v vs F ts:=by
 rw [cells8_eq]
 exact h.doPr m
theorem HX.doVlS {w:yW}{b:Nat}{K:PK}{V:yW}{post:List (Nat × Nat × Array Value)}{N:Nat}{e sz:Nat}{v:Value}{vs:List (Array Value)}{F:yW→Prop}{ts:List Tk}{k o:Int}{x:yB}{s q r u:Nd}{p:Int}(h:HX w b K V ((N,121,doA k o x s q r u p) :: post) e sz v vs F ts) (m:Nd):HX w b K (V.setCells N 27 m.vals.toList) ((N,121,doA k o x s q r m p) :: post) e sz v vs F ts:=by
 rw [cells8_eq]
 exact h.doVl m
theorem doZ_eq (k p:Int):#[zU k,zU 0,yQ,zU 0,zU 0,zU 0,zI 0,zU 0,yQ,.slice none 0 0,zI 0,zU 0,zU 0,zU 0,zI 0,zU 0,yQ,.slice none 0 0,zI 0,zU 0,zU 0,zU 0,zI 0,zU 0,yQ,.slice none 0 0,zI 0,zU 0,zU 0,zU 0,zI 0,zU 0,yQ,.slice none 0 0,zI 0,zI p]=doA k 0 ⟨#[]⟩ nd00 nd00 nd00 nd00 p:=by kernel_rfl
theorem pEx_cons {us:List Tk}{q:Tr × List Tk}(h:pEx us=some q):∃ t ts,us=t :: ts:=by
 cases us with
 | nil=>cases h
 | cons t ts=>exact⟨t,ts,rfl⟩
theorem size110':(Tryz.prog.info? 121).map (·.size)=some 36:=by kernel_rfl
theorem do_out {w:yW}{b:Nat}{K:PK}{V:yW}{bs:List (Nat × Nat × Array Value)}{e sz:Nat}{v:Value}{vs:List (Array Value)}{F:yW→Prop}{ts:List Tk}{d:DoM}{r:DoT}(h:HX w b K V bs e sz v vs F ts) (hr:d.tr=r) (hF:∀ U,F U→DoL U d):OutL DoM.vals DoM.tr DoL b K w r ts (.returned (.agg d.vals)) V :=
 ⟨d,rfl,hr,h.fin.1.imp hF,h.S,h.M⟩
theorem submit_ax {w:yW}{b:Nat}{K:PK}{t1 a1 t2 a2 t3 a3 t4 t5 t6:Tk}{as1 as2 as3 us4 us6:List Tk}{sd qt pr:Tr}{u:Int}(hK:KG K) (h:Lv w b K (t1 :: a1 :: as1)) (k1:t1.x=Z0) (h1:pEx (a1 :: as1)=some (sd,t2 :: a2 :: as2)) (k2:t2.x=⟨#[111,102]⟩) (h2:pEx (a2 :: as2)=some (qt,t3 :: a3 :: as3)) (hv:fnd t3.x [Zy,⟨#[97,116]⟩] 0=1) (h3:pEx (a3 :: as3)=some (pr,t4 :: us4)) (hu:fnd t4.x [Zu,Zt,Zs,Zv] 0=u) (hu0:0≤u) (h4:us4=t5 :: t6 :: us6) (k5:t5.x=⟨#[97,115]⟩) (k6:t6.k=2) :
  Calls zG 220 #[zP b] w (OutL DoM.vals DoM.tr DoL b K w ⟨1,(ordX u),t6.x,sd,qt,pr,tr0,t1.p⟩ us6):=by
 subst h4
 have HK:Hid (KG K):=hK
 have HT1:Hid (RgT t1):=(h.ok hK.k).r
 have HG0:=((HX.new h 0 0).push #[zU 0,zU 0,yQ,zU 0,zU 0,zU 0,zI 0,zU 0,yQ,.slice none 0 0,zI 0,zU 0,zU 0,zU 0,zI 0,zU 0,yQ,.slice none 0 0,zI 0,zU 0,zU 0,zU 0,zI 0,zU 0,yQ,.slice none 0 0,zI 0,zU 0,zU 0,zU 0,zI 0,zU 0,yQ,.slice none 0 0,zI 0,zI 0] 121).hid
 clear h hK
 obtain⟨W0,eW0⟩:∃ W,w.alloc (.cells #[zU 0,zU 0,yQ,zU 0,zU 0,zU 0,zI 0,zU 0,yQ,.slice none 0 0,zI 0,zU 0,zU 0,zU 0,zI 0,zU 0,yQ,.slice none 0 0,zI 0,zU 0,zU 0,zU 0,zI 0,zU 0,yQ,.slice none 0 0,zI 0,zU 0,zU 0,zU 0,zI 0,zU 0,yQ,.slice none 0 0,zI 0,zI 0] 121)=W:=⟨_,rfl⟩
 rw [eW0,doZ_eq] at HG0
 have cT:=take_l HK.out HG0.out.S Z0 (by decide +kernel) k1
 clear k1
 go_enter Tryz.func220,Tryz.ntmps220
 go_wp2_with fail
 try rw [eW0]
 refine cT.mono ?_
 rintro e w1 ⟨rfl,hs,hm⟩
 have HGp:=((HG0.out.mv hm hs).push #[zU 0,zU 0,yQ,zU 0,zU 0,zU 0,zI 0,zU 0,yQ,.slice none 0 0,zI 0,zU 0,zU 0,zU 0,zI 0,zU 0,yQ,.slice none 0 0,zI 0,zU 0,zU 0,zU 0,zI 0,zU 0,yQ,.slice none 0 0,zI 0,zU 0,zU 0,zU 0,zI 0,zU 0,yQ,.slice none 0 0,zI 0,zI 0] 121).hid
 have HG1:=(HX.rowA (pre:=[]) HGp.out #[zU 1,zU 0,yQ,zU 0,zU 0,zU 0,zI 0,zU 0,yQ,.slice none 0 0,zI 0,zU 0,zU 0,zU 0,zI 0,zU 0,yQ,.slice none 0 0,zI 0,zU 0,zU 0,zU 0,zI 0,zU 0,yQ,.slice none 0 0,zI 0,zU 0,zU 0,zU 0,zI 0,zU 0,yQ,.slice none 0 0,zI 0,zI t1.p]).hid
 have HZ:Hid ((w1.alloc (.cells #[zU 0,zU 0,yQ,zU 0,zU 0,zU 0,zI 0,zU 0,yQ,.slice none 0 0,zI 0,zU 0,zU 0,zU 0,zI 0,zU 0,yQ,.slice none 0 0,zI 0,zU 0,zU 0,zU 0,zI 0,zU 0,yQ,.slice none 0 0,zI 0,zU 0,zU 0,zU 0,zI 0,zU 0,yQ,.slice none 0 0,zI 0,zI 0] 121)).heap[w1§]? = (zC #[zU 0,zU 0,yQ,zU 0,zU 0,zU 0,zI 0,zU 0,yQ,.slice none 0 0,zI 0,zU 0,zU 0,zU 0,zI 0,zU 0,yQ,.slice none 0 0,zI 0,zU 0,zU 0,zU 0,zI 0,zU 0,yQ,.slice none 0 0,zI 0,zU 0,zU 0,zU 0,zI 0,zU 0,yQ,.slice none 0 0,zI 0,zI 0] 121)):=heap_new _ _
 clear cT hs hm HG0 eW0 HGp
 obtain⟨cs1,ecs1⟩:∃ c:Array Value,#[zU 1,zU 0,yQ,zU 0,zU 0,zU 0,zI 0,zU 0,yQ,.slice none 0 0,zI 0,zU 0,zU 0,zU 0,zI 0,zU 0,yQ,.slice none 0 0,zI 0,zU 0,zU 0,zU 0,zI 0,zU 0,yQ,.slice none 0 0,zI 0,zU 0,zU 0,zU 0,zI 0,zU 0,yQ,.slice none 0 0,zI 0,zI t1.p]=c:=⟨_,rfl⟩
 have hcs1:cs1.size=36:=by rw [← ecs1]; rfl
 have hcs2:cs1.all (·.oneCell')=true:=by rw [← ecs1]; simp [Value.oneCell']
 rw [ecs1] at HG1
 go_upto_region 2 with (refine wpList_store_row rfl 121 (.tmp 3) (.tmp 9) rfl w1§ cs1 rfl (by first | rfl | exact congrArg Value.agg ecs1) 121 #[zU 0,zU 0,yQ,zU 0,zU 0,zU 0,zI 0,zU 0,yQ,.slice none 0 0,zI 0,zU 0,zU 0,zU 0,zI 0,zU 0,yQ,.slice none 0 0,zI 0,zU 0,zU 0,zU 0,zI 0,zU 0,yQ,.slice none 0 0,zI 0,zU 0,zU 0,zU 0,zI 0,zU 0,yQ,.slice none 0 0,zI 0,zI 0] HZ.out (by rw [hcs1]; exact size110') (by rw [hcs1]; rfl) hcs2 ?_)
 generalize hW1:World.setRow _ _ _=W1
 rw [hW1,← ecs1,doZ_eq] at HG1
 obtain⟨N3,eN3⟩:∃ q,w1§=q:=⟨_,rfl⟩
 rw [eN3] at HG1 ⊢
 clear eN3 HZ hW1
 generalize Value.agg _=D0
 clear ecs1 hcs1 hcs2
 have cE:=expr_l HK.out HG1.out.S h1
 go_wp2_with fail
 refine cE.mono ?_
 rintro e ua1 ⟨m1,rfl,htr,hdp,hs,hm⟩
 have HM1:Hid (treeOf m1=_):=htr
 have HA1:=(HG1.out.add hm hs hdp).hid
 have HB1:=(HA1.out.doSdS m1).hid
 clear cE hs hm htr hdp HG1 h1
 go_upto_region 3 with (refine wpList_store_mid rfl 38 (.tmp 12) (.tmp 11) rfl N3 3 m1.vals rfl rfl (HA1.out.doT 3 (by omega)) size64' (all8 m1) ?_)
 generalize hY:World.setCells _ _ _ _=Y1
 rw [hY] at HB1
 clear hY HA1
 have cT:=take_l HK.out HB1.out.S ⟨#[111,102]⟩ (by decide +kernel) k2
 go_wp2_with fail
 refine cT.mono ?_
 rintro e w2 ⟨rfl,hs,hm⟩
 have HG2:=(HB1.out.mv hm hs).hid
 clear cT hs hm HB1 k2
 have cE:=expr_l HK.out HG2.out.S h2
 go_wp2_with fail
 refine cE.mono ?_
 rintro e ua2 ⟨m2,rfl,htr,hdp,hs,hm⟩
 have HM2:Hid (treeOf m2=_):=htr
 have HA2:=(HG2.out.add hm hs hdp).hid
 have HB2:=(HA2.out.doQtS m2).hid
 clear cE hs hm htr hdp HG2 h2
 go_upto_region 5 with (refine wpList_store_mid rfl 38 (.tmp 17) (.tmp 16) rfl N3 11 m2.vals rfl rfl (HA2.out.doT 11 (by omega)) size64' (all8 m2) ?_)
 generalize hY:World.setCells _ _ _ _=Y2
 rw [hY] at HB2
 clear hY HA2
 have cA:=any_y HB2.out.S HK.out [Zy,⟨#[97,116]⟩] (n:=2) rfl (by decide) (by decide +kernel)
 simp only [List.map] at cA
 rw [hv] at cA
 clear hv
 go_wp2_with fail
 refine cA.mono ?_
 rintro e wa3 ⟨rfl,hb4⟩
 have HGa3:=(HB2.out.on hb4).hid
 obtain⟨i,c3,f3,hmx,hL,hM,_,_⟩:=HGa3.out.S.at'
 obtain⟨V3,eV⟩:∃ V,wa3.setCell b¢3 (zI ((i:Int)+1))=V:=⟨_,rfl⟩
 rw [eV] at hL hM
 have HGb3:=(HGa3.out.mv hM hL).hid
 clear cA hb4 HB2 hL hM HGa3
 go_upto_region 10 with fail
 try rw [eV]
 clear eV c3 f3 hmx
 obtain⟨v1,c1,f1⟩:=HX.cellA (pre:=[]) HGb3.out 1 (by rw [doA_sz]; omega)
 have HO:=(HGb3.out.doO 2).hid
 go_upto_region 11 with fail
 generalize hY:World.setCell _ _ _=Y3
 rw [hY] at HO
 clear hY c1 f1 HGb3
 have cE:=expr_l HK.out HO.out.S h3
 go_wp2_with fail
 refine cE.mono ?_
 rintro e ua3 ⟨m3,rfl,htr,hdp,hs,hm⟩
 have HM3:Hid (treeOf m3=_):=htr
 have HA3:=(HO.out.add hm hs hdp).hid
 have HB3:=(HA3.out.doPrS m3).hid
 clear cE hs hm htr hdp HO h3
 go_upto_region 13 with (refine wpList_store_mid rfl 38 (.tmp 38) (.tmp 37) rfl N3 19 m3.vals rfl rfl (HA3.out.doT 19 (by omega)) size64' (all8 m3) ?_)
 generalize hY:World.setCells _ _ _ _=Y3
 rw [hY] at HB3
 clear hY HA3
 have hrg:=fnd_rg t4.x [Zu,Zt,Zs,Zv] 0
 rw [hu] at hrg
 simp only [List.length_cons,List.length_nil] at hrg
 have hu4:u < 4:=by omega
 have hu2:decide (u < 0)=false:=decide_eq_false (by omega)
 clear hrg
 have cA:=any_y HB3.out.S HK.out [Zu,Zt,Zs,Zv] (n:=4) rfl (by decide) (by decide +kernel)
 simp only [List.map] at cA
 rw [hu] at cA
 clear hu
 go_wp2_with fail
 refine cA.mono ?_
 rintro e wa4 ⟨rfl,hb4⟩
 have HGa4:=(HB3.out.on hb4).hid
 obtain⟨i,c3,f3,hmx,hL,hM,_,_⟩:=HGa4.out.S.at'
 obtain⟨V4,eV⟩:∃ V,wa4.setCell b¢3 (zI ((i:Int)+1))=V:=⟨_,rfl⟩
 rw [eV] at hL hM
 have HGb4:=(HGa4.out.mv hM hL).hid
 clear cA hb4 HB3 hL hM HGa4
 go_upto_region 18 with fail
 try rw [eV]
 clear eV c3 f3 hmx
 have hkv:∀ h,([zU 1,zU 3,zU 4,zU 5]:List Value)[u.toNat]'h=zU (ordX u):=by
  obtain rfl | rfl | rfl | rfl:u=0∨u=1∨u=2∨u=3:=by omega
  all_goals exact fun h=>rfl
 have HOR:Hid (B8 (ordX u)):=by
  obtain rfl | rfl | rfl | rfl:u=0∨u=1∨u=2∨u=3:=by omega
  all_goals exact⟨by decide,by decide⟩
 obtain⟨kv,ekv⟩:∃ kv,ordX u=kv:=⟨_,rfl⟩
 have HKV:Hid (ordX u=kv):=ekv
 rw [ekv] at hkv HOR
 clear ekv
 have hlt:N3 < V4§:=(zJ (HGb4.out.B _ List.mem_cons_self).1).1
 obtain⟨v1,c1,f1⟩:=HX.cellA (pre:=[]) HGb4.out 1 (by rw [doA_sz]; omega)
 have HO2:=((HGb4.out.doO kv).on (below_new _ (.cells #[zU 1,zU 3,zU 4,zU 5] 76))).hid
 go_upto_region 19 with fail
 generalize hY:World.alloc _ _=Y4
 rw [hY] at HO2
 clear hY c1 f1 hlt HGb4 hkv
 have cI:=is_l HK.out HO2.out.S ⟨#[97,115]⟩ (by decide +kernel) (i:=true) (by simp only [pIs]; exact decide_eq_true k5)
 clear k5
 go_wp2_with fail
 refine cI.mono ?_
 rintro e wi ⟨rfl,hbi⟩
 have HI:=(HO2.out.on hbi).hid
 clear cI hbi HO2
 obtain⟨i,c3,f3,hmx,hL,hM,_,_⟩:=HI.out.S.at'
 obtain⟨Vi,eV⟩:∃ V,wi.setCell b¢3 (zI ((i:Int)+1))=V:=⟨_,rfl⟩
 rw [eV] at hL hM
 have HJ:=(HI.out.mv hM hL).hid
 clear hL hM HI
 go_upto_region 22 with fail
 try rw [eV]
 clear eV c3 f3 hmx
 have HT6:Hid (RgT t6):=(HJ.out.S.ok HK.out.k).r
 have cN:=name_l HJ.out.S k6
 clear k6
 go_wp2_with fail
 refine cN.mono ?_
 rintro e wn ⟨rfl,hs,hm⟩
 have HN1:=(HJ.out.mv hm hs).hid
 obtain⟨v1,c1,f1⟩:=HX.cellA (pre:=[]) HN1.out 2 (by rw [doA_sz]; omega)
 have HN2:=(HN1.out.doX t6.x).hid
 clear cN hs hm HJ
 go_upto_region 23 with fail
 generalize hY:World.setCell _ _ _=Yx
 rw [hY] at HN2
 clear hY c1 f1 HN1
 have HC:Hid (Yx.heap[N3]? = (zC (doA 1 kv t6.x m1 m2 m3 nd00 t1.p) 121)):=(HN2.out.B _ List.mem_cons_self).1
 have HQ:Hid (Yx.heap[w§]? = (zC (doA 0 0 ⟨#[]⟩ nd00 nd00 nd00 nd00 0) 121)):=(HN2.out.B _ (List.mem_cons_of_mem _ List.mem_cons_self)).1
 have HF:=(HX.rowA (pre:=[_]) HN2.out (doA 1 kv t6.x m1 m2 m3 nd00 t1.p)).hid
 have HR:Hid ((Yx.setRow w§ (doA 1 kv t6.x m1 m2 m3 nd00 t1.p)).heap[w§]? = (zC (doA 1 kv t6.x m1 m2 m3 nd00 t1.p) 121)):=(HF.out.B _ (List.mem_cons_of_mem _ List.mem_cons_self)).1
 go_wp2_with (first | (refine wpList_load_row rfl 121 (.tmp 3) rfl N3 rfl 121 (doA 1 kv t6.x m1 m2 m3 nd00 t1.p) (0,0) _ HC.out Tryz.underlying121 rfl size110' ?_) | (refine wpList_store_row rfl 121 (.tmp 2) (.tmp 72) rfl w§ (doA 1 kv t6.x m1 m2 m3 nd00 t1.p) rfl rfl 121 _ HQ.out size110' rfl (all36 ..) ?_))
 refine bodyPost_ret (results_cell_row rfl _ _ w§ 121 (doA 1 kv t6.x m1 m2 m3 nd00 t1.p) (0,0) _ rfl HR.out Tryz.underlying121 rfl size110') rfl (do_out (d:=⟨1,kv,t6.x,m1,m2,m3,nd00,t1.p⟩) HF.out ?_ fun U hU=>⟨hU.1.1.2,hU.1.2,hU.2,lies_leaf U rg0,⟨by show (0:Int)≤1; decide,by show (1:Int)≤255; decide⟩,HOR.out,⟨HT1.out.p0,HT1.out.p1⟩,HT6.out.x1⟩)
 show DoT.mk 1 kv t6.x (treeOf m1) (treeOf m2) (treeOf m3) tr0 t1.p=_
 rw [HM1.out,HM2.out,HM3.out,HKV.out]
 all_goals rfl
end Go.Proofs.YtfbjofnaghjmeaaGreatDoor
