import Derived.Test.YtoogodlnnijikaaGreatDoorA0
import Derived.Test.YtoogodlnnijikaaGreatDoorA13
import Derived.Deep.MidRow
import Derived.Test.YtoogodlnnijikaaGreatDoorA12
namespace Go.Proofs.YtoogodlnnijikaaGreatDoor
open Go.RowKit
set_option linter.unusedVariables false
theorem pTake_inv {x:ByteArray}{ts:List Tk}{q:Int × List Tk}(h:pTake x ts=some q):∃ t,ts=t :: q.2∧t.x=x∧q.1=t.p:=by
 cases ts with
 | nil=>cases h
 | cons t ts =>
  simp only [pTake] at h
  by_cases e:t.x=x
  ·rw [if_pos e] at h; cases h; exact⟨t,rfl,e,rfl⟩
  ·rw [if_neg e] at h; cases h
theorem pName_inv {ts:List Tk}{q:ByteArray × List Tk}(h:pName ts=some q):∃ t,ts=t :: q.2∧t.k=2∧q.1=t.x:=by
 cases ts with
 | nil=>cases h
 | cons t ts =>
  simp only [pName] at h
  by_cases e:t.k=2
  ·rw [if_pos e] at h; cases h; exact⟨t,rfl,e,rfl⟩
  ·rw [if_neg e] at h; cases h
theorem pAny_inv {L:List ByteArray}{ts:List Tk}{q:Int × List Tk}(h:pAny L ts=some q):∃ t,ts=t :: q.2∧0≤q.1∧fnd t.x L 0=q.1:=by
 cases ts with
 | nil=>cases h
 | cons t ts =>
  simp only [pAny] at h
  by_cases e:0≤fnd t.x L 0
  ·rw [if_pos e] at h; cases h; exact⟨t,rfl,e,rfl⟩
  ·rw [if_neg e] at h; cases h
theorem pReg_inv {ts:List Tk}{r:RegT}{ts':List Tk}(h:pReg ts=some (r,ts')):∃ t1 t2 t3 t4 us v,∃ q:Tr × List Tk,ts=t1 :: t2 :: t3 :: t4 :: us∧t1.x=Z7∧t2.k=2∧0≤v∧fnd t3.x [Zn,Zp,Zo,Zt,Zj,Zr] 0=v∧t4.x=⟨#[61]⟩∧pInit us=some q∧(∃ t6,q.2=t6 :: ts'∧t6.x=Z5)∧r=⟨t2.x,1+v,q.1,t1.p⟩:=by
 unfold pReg at h
 obtain⟨a,h1,h⟩:=opt_bind h
 obtain⟨b,h2,h⟩:=opt_bind h
 obtain⟨c,h3,h⟩:=opt_bind h
 obtain⟨d,h4,h⟩:=opt_bind h
 obtain⟨e,h5,h⟩:=opt_bind h
 obtain⟨f,h6,h⟩:=opt_bind h
 cases h
 obtain⟨t1,rfl,k1,k1'⟩:=pTake_inv h1
 obtain⟨t2,g2,k2,k2'⟩:=pName_inv h2
 obtain⟨t3,g3,k3,k3'⟩:=pAny_inv h3
 obtain⟨t4,g4,k4,_⟩:=pTake_inv h4
 obtain⟨t6,g6,k6,_⟩:=pTake_inv h6
 exact⟨t1,t2,t3,t4,d.2,c.1,e,by rw [g2,g3,g4],k1,k2,k3,k3',k4,h5,⟨t6,g6,k6⟩,by rw [k1',k2']⟩
theorem regA_zero (x:ByteArray) (t p:Int):#[.string x,zU t,zU 0,zU 0,zU 0,zI 0,zU 0,.string ⟨#[]⟩,.slice none 0 0,zI 0,zI p]=RegM.vals ⟨x,t,nd00,p⟩:=rfl
theorem rgX_eq (x x':ByteArray) (t p:Int) (m:Nd):(RegM.vals ⟨x,t,m,p⟩).setIfInBounds 0 (.string x')=RegM.vals ⟨x',t,m,p⟩:=by kernel_rfl
theorem rgT_eq (x:ByteArray) (t t' p:Int) (m:Nd):(RegM.vals ⟨x,t,m,p⟩).setIfInBounds 1 (zU t')=RegM.vals ⟨x,t',m,p⟩:=by kernel_rfl
theorem rgM_eq (x:ByteArray) (t p:Int) (m m':Nd):set8 (RegM.vals ⟨x,t,m,p⟩) 2 m'=RegM.vals ⟨x,t,m',p⟩:=by kernel_rfl
theorem HX.rgX {w:World}{b:Nat}{K:PK}{V:World}{pre post:List (Nat × Nat × Array Value)}{N:Nat}{e sz:Nat}{v:Value}{vs:List (Array Value)}{F:World→Prop}{ts:List Tk}{x:ByteArray}{t p:Int}{m:Nd}(h:HX w b K V (pre ++ (N,62,RegM.vals ⟨x,t,m,p⟩) :: post) e sz v vs F ts) (x':ByteArray):HX w b K (V.setCell ⟨N,0,none⟩ (.string x')) (pre ++ (N,62,RegM.vals ⟨x',t,m,p⟩) :: post) e sz v vs F ts:=by
 have h':=h.setA 0 (.string x')
 rwa [rgX_eq] at h'
theorem HX.rgT {w:World}{b:Nat}{K:PK}{V:World}{pre post:List (Nat × Nat × Array Value)}{N:Nat}{e sz:Nat}{v:Value}{vs:List (Array Value)}{F:World→Prop}{ts:List Tk}{x:ByteArray}{t p:Int}{m:Nd}(h:HX w b K V (pre ++ (N,62,RegM.vals ⟨x,t,m,p⟩) :: post) e sz v vs F ts) (t':Int):HX w b K (V.setCell ⟨N,1,none⟩ (zU t')) (pre ++ (N,62,RegM.vals ⟨x,t',m,p⟩) :: post) e sz v vs F ts:=by
 have h':=h.setA 1 (zU t')
 rwa [rgT_eq] at h'
theorem HX.rgM {w:World}{b:Nat}{K:PK}{V:World}{pre post:List (Nat × Nat × Array Value)}{N:Nat}{e sz:Nat}{v:Value}{vs:List (Array Value)}{F:World→Prop}{ts:List Tk}{x:ByteArray}{t p:Int}{m:Nd}(h:HX w b K V (pre ++ (N,62,RegM.vals ⟨x,t,m,p⟩) :: post) e sz v vs F ts) (m':Nd):HX w b K ((((((((V.setCell ⟨N,2,none⟩ (zU m'.h.k)).setCell ⟨N,3,none⟩ (zU m'.h.o)).setCell ⟨N,4,none⟩ (zU m'.h.t)).setCell ⟨N,5,none⟩ (zI m'.h.n)).setCell ⟨N,6,none⟩ (zU m'.h.f)).setCell ⟨N,7,none⟩ (.string m'.h.x)).setCell ⟨N,8,none⟩ (.slice m'.a m'.ks.length m'.c)).setCell ⟨N,9,none⟩ (zI m'.h.p)) (pre ++ (N,62,RegM.vals ⟨x,t,m',p⟩) :: post) e sz v vs F ts:=by
 have h':=h.nodeA 2 m'
 rwa [rgM_eq] at h'
theorem HX.rgC {w:World}{b:Nat}{K:PK}{V:World}{pre post:List (Nat × Nat × Array Value)}{N:Nat}{e sz:Nat}{v:Value}{vs:List (Array Value)}{F:World→Prop}{ts:List Tk}{r:RegM}(h:HX w b K V (pre ++ (N,62,r.vals) :: post) e sz v vs F ts) (i:Nat) (hi:i < 11):∃ u,V.cell? ⟨N,i,none⟩=some u∧V.frozen? ⟨N,i,none⟩=false:=h.cellA i hi
theorem size100':(Tryz.prog.info? 62).map (·.size)=some 11:=by kernel_rfl
theorem all11 (r:RegM):r.vals.all (·.oneCell')=true:=by simp [RegM.vals,Value.oneCell']
set_option maxRecDepth 100000 in
set_option maxHeartbeats 4000000 in
theorem reg_l {w:World}{b:Nat}{K:PK}{ts ts':List Tk}{r:RegT}(hK:KG K) (h:Lv w b K ts) (hp:pReg ts=some (r,ts')):Calls zG 59 #[zP b] w (OutL RegM.vals RegM.tr RegL b K w r ts'):=by
 obtain⟨t1,t2,t3,t4,us,v,q,rfl,k1,k2,hv0,hv,k4,hq,⟨t6,hq2,k6⟩,rfl⟩:=pReg_inv hp
 have HK:Hid (KG K):=hK
 have HT1:Hid (RgT t1):=(h.ok hK.k).r
 have hrg:=fnd_rg t3.x [Zn,Zp,Zo,Zt,Zj,Zr] 0
 rw [hv] at hrg
 simp only [List.length_cons,List.length_nil] at hrg
 have hv6:v < 6:=by omega
 have HG0:=((HX.new h 0 0).push #[.string ⟨#[]⟩,zU 0,zU 0,zU 0,zU 0,zI 0,zU 0,.string ⟨#[]⟩,.slice none 0 0,zI 0,zI 0] 62).hid
 clear h hK hp hrg
 obtain⟨W0,eW0⟩:∃ W,w.alloc (.cells #[.string ⟨#[]⟩,zU 0,zU 0,zU 0,zU 0,zI 0,zU 0,.string ⟨#[]⟩,.slice none 0 0,zI 0,zI 0] 62)=W:=⟨_,rfl⟩
 rw [eW0] at HG0
 have cT:=take_l HK.out HG0.out.S Z7 (by decide +kernel) k1
 clear k1
 go_enter Tryz.func59,Tryz.ntmps59
 go_wp2_with fail
 try rw [eW0]
 refine cT.mono ?_
 rintro e w1 ⟨rfl,hs,hm⟩
 have HG1:=((HG0.out.mv hm hs).push #[.string ⟨#[]⟩,zU 0,zU 0,zU 0,zU 0,zI 0,zU 0,.string ⟨#[]⟩,.slice none 0 0,zI 0,zI t1.p] 62).hid
 clear cT hs hm HG0 eW0
 go_upto_region 2 with fail
 obtain⟨N3,eN3⟩:∃ q,w1§=q:=⟨_,rfl⟩
 obtain⟨W1,eW1⟩:∃ W,w1.alloc (.cells #[.string ⟨#[]⟩,zU 0,zU 0,zU 0,zU 0,zI 0,zU 0,.string ⟨#[]⟩,.slice none 0 0,zI 0,zI t1.p] 62)=W:=⟨_,rfl⟩
 rw [eW1,eN3,regA_zero] at HG1
 rw [eW1,eN3]
 clear eW1 eN3
 have cN:=name_l HG1.out.S k2
 have HT2:Hid (RgT t2):=(HG1.out.S.ok HK.out.k).r
 clear k2
 go_wp2_with fail
 refine cN.mono ?_
 rintro e w2 ⟨rfl,hs,hm⟩
 have HG2:=(HG1.out.mv hm hs).hid
 obtain⟨v0,c0,f0⟩:=HX.rgC (pre:=[]) HG2.out 0 (by omega)
 have HG3:Hid (HX w b K (w2.setCell ⟨N3,0,none⟩ (.string t2.x)) [(N3,62,(RegM.vals ⟨t2.x,0,nd00,t1.p⟩)),(w§,62,#[.string ⟨#[]⟩,zU 0,zU 0,zU 0,zU 0,zI 0,zU 0,.string ⟨#[]⟩,.slice none 0 0,zI 0,zI 0])] 0 0 (.slice none 0 0) [] (fun _=>True) (t3 :: t4 :: us)):=HX.rgX (pre:=[]) HG2.out t2.x
 clear cN hs hm HG1
 go_upto_region 3 with fail
 obtain⟨W3,eW3⟩:∃ W,w2.setCell ⟨N3,0,none⟩ (.string t2.x)=W:=⟨_,rfl⟩
 rw [eW3] at HG3 ⊢
 clear eW3 HG2 c0 f0
 have cA:=any_y HG3.out.S HK.out [Zn,Zp,Zo,Zt,Zj,Zr] (n:=6) rfl (by decide) (by decide +kernel)
 simp only [List.map] at cA
 rw [hv] at cA
 have hv2:decide (v < 0)=false:=decide_eq_false (by omega)
 clear hv
 go_wp2_with fail
 refine cA.mono ?_
 rintro e w4 ⟨rfl,hb4⟩
 have HG4:=(HG3.out.on hb4).hid
 obtain⟨i,c3,f3,hmx,hL,hM,_,_⟩:=HG4.out.S.at'
 obtain⟨V,eV⟩:∃ V,w4.setCell ⟨b,3,none⟩ (zI ((i:Int)+1))=V:=⟨_,rfl⟩
 rw [eV] at hL hM
 have HG5:=(HG4.out.mv hM hL).hid
 obtain⟨v1,c1,f1⟩:=HX.rgC (pre:=[]) HG5.out 1 (by omega)
 have HG6:Hid (HX w b K (V.setCell ⟨N3,1,none⟩ (zU (1+v))) [(N3,62,(RegM.vals ⟨t2.x,(1+v),nd00,t1.p⟩)),(w§,62,#[.string ⟨#[]⟩,zU 0,zU 0,zU 0,zU 0,zI 0,zU 0,.string ⟨#[]⟩,.slice none 0 0,zI 0,zI 0])] 0 0 (.slice none 0 0) [] (fun _=>True) (t4 :: us)):=HX.rgT (pre:=[]) HG5.out (1+v)
 clear cA hb4 HG3 hL hM HG4
 go_upto_region 8 with fail
 try rw [eV]
 clear eV c3 f3 hmx
 go_upto_region 9 with fail
 obtain⟨W6,eW6⟩:∃ W,V.setCell ⟨N3,1,none⟩ (zU (1+v))=W:=⟨_,rfl⟩
 rw [eW6] at HG6 ⊢
 clear eW6 c1 f1 HG5
 have cT:=take_l HK.out HG6.out.S ⟨#[61]⟩ (by decide +kernel) k4
 clear k4
 go_wp2_with fail
 refine cT.mono ?_
 rintro e w7 ⟨rfl,hs,hm⟩
 have HG7:=(HG6.out.mv hm hs).hid
 have HV:Hid (0≤v∧v < 6):=⟨hv0,hv6⟩
 clear cT hs hm HG6 hv0 hv6
 have HK6:Hid (t6.x=Z5):=k6
 clear k6
 unfold pInit at hq
 by_cases hmi:pIs Zg us=true
 ·rw [if_pos hmi] at hq; cases hq
 rw [if_neg hmi] at hq
 obtain⟨q1,q2⟩:=q
 obtain⟨u,us,rfl⟩:∃ u r,us=u :: r:=by
  cases us with
  | nil=>cases hq
  | cons u r=>exact⟨u,r,rfl⟩
 simp only at hq2 ⊢
 subst hq2
 have hmi2:pIs Zg (u :: us)=false:=by simpa using hmi
 have cN:=live_now HG7.out.S
 have hf:=fun v=>field82_4 u v
 have HL:Hid (pLit (u :: us)=some (q1,t6 :: ts')):=hq
 clear hq hmi
 go_wp2_with fail
 refine cN.mono ?_
 rintro e w8 ⟨rfl,hb8⟩
 have HG8:=(HG7.out.on hb8).hid
 have cI:=is_l HK.out HG8.out.S Zg (by decide +kernel) hmi2
 clear cN hb8 HG7 hmi2
 go_wp2_with fail
 refine cI.mono ?_
 rintro e w9 ⟨rfl,hb9⟩
 have HG9:=(HG8.out.on hb9).hid
 have cL:=lit_y HK.out HG9.out.S HL.out
 clear cI hb9 HG8 HL hf
 go_wp2_with fail
 refine cL.mono ?_
 rintro e w10 ⟨m,rfl,htr,hl,hs,hm⟩
 have HTR:Hid (treeOf m=q1∧∀ U,Lies U m):=⟨htr,hl⟩
 have HGa:=(HX.rowA (pre:=[]) ((HG9.out.mv hm hs).push zNo 48) m.vals).hid
 have HZ:Hid ((w10.alloc (.cells zNo 48)).heap[w10§]? = some (.cells zNo 48 (0,0))):=heap_new _ _
 clear cL hs hm htr hl HG9
 go_upto_region 18 with (refine wpList_store_row rfl 48 (.tmp 7) (.tmp 59) rfl w10§ m.vals rfl rfl 48 zNo HZ.out size64' rfl (all8 m) ?_)
 generalize hW:World.setRow _ _ _=W
 rw [hW] at HGa
 generalize w10§=Q at HGa ⊢
 clear HZ hW
 have HH1:=(HX.rgM (pre:=[_]) HGa.out m).hid
 rw [← cells8_eq] at HH1
 go_upto_region 21 with (first | (refine wpList_load_row rfl 48 (.tmp 7) rfl Q rfl 48 m.vals (0,0) _ HGa.out.b0 Tryz.underlying48 rfl size64' ?_) | (refine wpList_store_mid rfl 48 (.tmp 66) (.tmp 65) rfl N3 2 m.vals rfl rfl (fun j hj=>by obtain⟨u,h1,h2⟩:=HX.rgC (pre:=[_]) HGa.out (2+j) (by have:j < 8:=hj; omega); exact⟨by rw [h1]; rfl,h2⟩) size64' (all8 m) ?_))
 generalize World.setCells _ _ _ _=Y1 at HH1 ⊢
 have cT:=take_l HK.out HH1.out.S Z5 (by decide +kernel) HK6.out
 clear HGa
 go_wp2_with fail
 refine cT.mono ?_
 rintro e w12 ⟨rfl,hs,hm⟩
 have HG12:=((HH1.out.mv hm hs).pop).hid
 clear cT hs hm HH1
 have HF:=(HX.rowA (pre:=[_]) HG12.out (RegM.vals ⟨t2.x,(1+v),m,t1.p⟩)).hid
 go_wp2_with (first | (refine wpList_load_row rfl 62 (.tmp 3) rfl N3 rfl 62 (RegM.vals ⟨t2.x,(1+v),m,t1.p⟩) (0,0) _ HG12.out.b0 Tryz.underlying62 rfl size100' ?_) | (refine wpList_store_row rfl 62 (.tmp 2) (.tmp 75) rfl w§ (RegM.vals ⟨t2.x,(1+v),m,t1.p⟩) rfl rfl 62 #[.string ⟨#[]⟩,zU 0,zU 0,zU 0,zU 0,zI 0,zU 0,.string ⟨#[]⟩,.slice none 0 0,zI 0,zI 0] HG12.out.b1 size100' rfl (all11 _) ?_))
 refine bodyPost_ret (results_cell_row rfl _ _ w§ 62 (RegM.vals ⟨t2.x,(1+v),m,t1.p⟩) (0,0) _ rfl HF.out.b1 Tryz.underlying62 rfl size100') rfl ⟨⟨t2.x,1+v,m,t1.p⟩,rfl,?_,HF.out.fin.1.imp fun U hU=>⟨HTR.out.2 U,?_,⟨HT1.out.p0,HT1.out.p1⟩,HT2.out.x1⟩,HF.out.S,HF.out.M⟩
 ·show RegT.mk t2.x (1+v) (treeOf m) t1.p=_
  rw [HTR.out.1]
 ·have:=HV.out
  exact⟨by show 0≤1+v; omega,by show 1+v≤255; omega⟩
theorem HX.thereA {w:World}{b:Nat}{K:PK}{V:World}{pre post:List (Nat × Nat × Array Value)}{N:Nat}{e sz:Nat}{v:Value}{vs:List (Array Value)}{F:World→Prop}{ts:List Tk}{T:Nat}{cs:Array Value}(h:HX w b K V (pre ++ (N,T,cs) :: post) e sz v vs F ts) (o n:Nat) (hi:o+n≤cs.size):V.there N o n:=fun j hj=>by
 obtain⟨u,h1,h2⟩:=h.cellA (o+j) (by omega)
 exact⟨by rw [h1]; rfl,h2⟩
theorem doZ_eq (k p:Int):#[zU k,zU 0,.string ⟨#[]⟩,zU 0,zU 0,zU 0,zI 0,zU 0,.string ⟨#[]⟩,.slice none 0 0,zI 0,zU 0,zU 0,zU 0,zI 0,zU 0,.string ⟨#[]⟩,.slice none 0 0,zI 0,zU 0,zU 0,zU 0,zI 0,zU 0,.string ⟨#[]⟩,.slice none 0 0,zI 0,zU 0,zU 0,zU 0,zI 0,zU 0,.string ⟨#[]⟩,.slice none 0 0,zI 0,zI p]=doA k 0 ⟨#[]⟩ nd00 nd00 nd00 nd00 p:=by kernel_rfl
theorem pEx_cons {us:List Tk}{q:Tr × List Tk}(h:pEx us=some q):∃ t ts,us=t :: ts:=by
 cases us with
 | nil=>cases h
 | cons t ts=>exact⟨t,ts,rfl⟩
theorem size110':(Tryz.prog.info? 105).map (·.size)=some 36:=by kernel_rfl
theorem do_out {w:World}{b:Nat}{K:PK}{V:World}{bs:List (Nat × Nat × Array Value)}{e sz:Nat}{v:Value}{vs:List (Array Value)}{F:World→Prop}{ts:List Tk}{d:DoM}{r:DoT}(h:HX w b K V bs e sz v vs F ts) (hr:d.tr=r) (hF:∀ U,F U→DoL U d):OutL DoM.vals DoM.tr DoL b K w r ts (.returned (.agg d.vals)) V :=
 ⟨d,rfl,hr,h.fin.1.imp hF,h.S,h.M⟩
theorem rg0:Rg ⟨0,0,0,0,0,gE,0⟩:=by constructor <;> first | omega | decide
theorem HX.doK {w:World}{b:Nat}{K:PK}{V:World}{post:List (Nat × Nat × Array Value)}{N:Nat}{e sz:Nat}{v:Value}{vs:List (Array Value)}{F:World→Prop}{ts:List Tk}{k o:Int}{x:ByteArray}{s q r u:Nd}{p:Int}(h:HX w b K V ((N,105,doA k o x s q r u p) :: post) e sz v vs F ts):V.cell? ⟨N,0,none⟩=some (zU k):=cell_of (h.B _ List.mem_cons_self).1 0
set_option maxRecDepth 100000 in
set_option maxHeartbeats 4000000 in
theorem doL_goto {w:World}{b:Nat}{K:PK}{t t2:Tk}{us:List Tk}(hK:KG K) (h:Lv w b K (t :: t2 :: us)) (hv:fnd t.x [Zs,Zi,Zk,Zq,Zl,Zm] 0=4) (k2:t2.k=2) :
  Calls zG 132 #[zP b] w (OutL DoM.vals DoM.tr DoL b K w ⟨5,0,t2.x,tr0,tr0,tr0,tr0,t.p⟩ us):=by
 have HK:Hid (KG K):=hK
 have HT1:Hid (RgT t):=(h.ok hK.k).r
 have HG0:=((HX.new h 0 0).push #[zU 0,zU 0,.string ⟨#[]⟩,zU 0,zU 0,zU 0,zI 0,zU 0,.string ⟨#[]⟩,.slice none 0 0,zI 0,zU 0,zU 0,zU 0,zI 0,zU 0,.string ⟨#[]⟩,.slice none 0 0,zI 0,zU 0,zU 0,zU 0,zI 0,zU 0,.string ⟨#[]⟩,.slice none 0 0,zI 0,zU 0,zU 0,zU 0,zI 0,zU 0,.string ⟨#[]⟩,.slice none 0 0,zI 0,zI 0] 105).hid
 clear h hK
 obtain⟨W0,eW0⟩:∃ W,w.alloc (.cells #[zU 0,zU 0,.string ⟨#[]⟩,zU 0,zU 0,zU 0,zI 0,zU 0,.string ⟨#[]⟩,.slice none 0 0,zI 0,zU 0,zU 0,zU 0,zI 0,zU 0,.string ⟨#[]⟩,.slice none 0 0,zI 0,zU 0,zU 0,zU 0,zI 0,zU 0,.string ⟨#[]⟩,.slice none 0 0,zI 0,zU 0,zU 0,zU 0,zI 0,zU 0,.string ⟨#[]⟩,.slice none 0 0,zI 0,zI 0] 105)=W:=⟨_,rfl⟩
 rw [eW0,doZ_eq] at HG0
 have cN:=live_now HG0.out.S
 have hf:=fun v=>field82_4 t v
 go_enter Tryz.func132,Tryz.ntmps132
 go_wp2_with fail
 try rw [eW0]
 refine cN.mono ?_
 rintro e w1 ⟨rfl,hb1⟩
 have HG1:=(HG0.out.on hb1).hid
 clear cN hb1 HG0 eW0
 have cA:=any_y HG1.out.S HK.out [Zs,Zi,Zk,Zq,Zl,Zm] (n:=6) rfl (by decide) (by decide +kernel)
 simp only [List.map] at cA
 rw [hv] at cA
 clear hv
 go_wp2_with fail
 refine cA.mono ?_
 rintro e wa ⟨rfl,hb4⟩
 have HGa:=(HG1.out.on hb4).hid
 obtain⟨i,c3,f3,hmx,hL,hM,_,_⟩:=HGa.out.S.at'
 obtain⟨V,eV⟩:∃ V,wa.setCell ⟨b,3,none⟩ (zI ((i:Int)+1))=V:=⟨_,rfl⟩
 rw [eV] at hL hM
 have HGb:=(HGa.out.mv hM hL).hid
 clear cA hb4 HG1 hL hM HGa
 go_upto_region 9 with fail
 try rw [eV]
 clear eV c3 f3 hmx hf
 have HGp:=(HGb.out.push #[zU 0,zU 0,.string ⟨#[]⟩,zU 0,zU 0,zU 0,zI 0,zU 0,.string ⟨#[]⟩,.slice none 0 0,zI 0,zU 0,zU 0,zU 0,zI 0,zU 0,.string ⟨#[]⟩,.slice none 0 0,zI 0,zU 0,zU 0,zU 0,zI 0,zU 0,.string ⟨#[]⟩,.slice none 0 0,zI 0,zU 0,zU 0,zU 0,zI 0,zU 0,.string ⟨#[]⟩,.slice none 0 0,zI 0,zI 0] 105).hid
 have HG2:=(HX.rowA (pre:=[]) HGp.out #[zU 5,zU 0,.string ⟨#[]⟩,zU 0,zU 0,zU 0,zI 0,zU 0,.string ⟨#[]⟩,.slice none 0 0,zI 0,zU 0,zU 0,zU 0,zI 0,zU 0,.string ⟨#[]⟩,.slice none 0 0,zI 0,zU 0,zU 0,zU 0,zI 0,zU 0,.string ⟨#[]⟩,.slice none 0 0,zI 0,zU 0,zU 0,zU 0,zI 0,zU 0,.string ⟨#[]⟩,.slice none 0 0,zI 0,zI t.p]).hid
 have HZ:Hid ((V.alloc (.cells #[zU 0,zU 0,.string ⟨#[]⟩,zU 0,zU 0,zU 0,zI 0,zU 0,.string ⟨#[]⟩,.slice none 0 0,zI 0,zU 0,zU 0,zU 0,zI 0,zU 0,.string ⟨#[]⟩,.slice none 0 0,zI 0,zU 0,zU 0,zU 0,zI 0,zU 0,.string ⟨#[]⟩,.slice none 0 0,zI 0,zU 0,zU 0,zU 0,zI 0,zU 0,.string ⟨#[]⟩,.slice none 0 0,zI 0,zI 0] 105)).heap[V§]? = some (.cells #[zU 0,zU 0,.string ⟨#[]⟩,zU 0,zU 0,zU 0,zI 0,zU 0,.string ⟨#[]⟩,.slice none 0 0,zI 0,zU 0,zU 0,zU 0,zI 0,zU 0,.string ⟨#[]⟩,.slice none 0 0,zI 0,zU 0,zU 0,zU 0,zI 0,zU 0,.string ⟨#[]⟩,.slice none 0 0,zI 0,zU 0,zU 0,zU 0,zI 0,zU 0,.string ⟨#[]⟩,.slice none 0 0,zI 0,zI 0] 105 (0,0))):=heap_new _ _
 clear HGp HGb
 obtain⟨cs1,ecs1⟩:∃ c:Array Value,#[zU 5,zU 0,.string ⟨#[]⟩,zU 0,zU 0,zU 0,zI 0,zU 0,.string ⟨#[]⟩,.slice none 0 0,zI 0,zU 0,zU 0,zU 0,zI 0,zU 0,.string ⟨#[]⟩,.slice none 0 0,zI 0,zU 0,zU 0,zU 0,zI 0,zU 0,.string ⟨#[]⟩,.slice none 0 0,zI 0,zU 0,zU 0,zU 0,zI 0,zU 0,.string ⟨#[]⟩,.slice none 0 0,zI 0,zI t.p]=c:=⟨_,rfl⟩
 have hcs1:cs1.size=36:=by rw [← ecs1]; rfl
 have hcs2:cs1.all (·.oneCell')=true:=by rw [← ecs1]; simp [Value.oneCell']
 rw [ecs1] at HG2
 go_upto_region 10 with (refine wpList_store_row rfl 105 (.tmp 5) (.tmp 32) rfl V§ cs1 rfl (by first | rfl | exact congrArg Value.agg ecs1) 105 #[zU 0,zU 0,.string ⟨#[]⟩,zU 0,zU 0,zU 0,zI 0,zU 0,.string ⟨#[]⟩,.slice none 0 0,zI 0,zU 0,zU 0,zU 0,zI 0,zU 0,.string ⟨#[]⟩,.slice none 0 0,zI 0,zU 0,zU 0,zU 0,zI 0,zU 0,.string ⟨#[]⟩,.slice none 0 0,zI 0,zU 0,zU 0,zU 0,zI 0,zU 0,.string ⟨#[]⟩,.slice none 0 0,zI 0,zI 0] HZ.out (by rw [hcs1]; exact size110') (by rw [hcs1]; rfl) hcs2 ?_)
 generalize hW1:World.setRow _ _ _=W1
 rw [hW1,← ecs1,doZ_eq] at HG2
 obtain⟨N3,eN3⟩:∃ q,V§=q:=⟨_,rfl⟩
 rw [eN3] at HG2 ⊢
 clear eN3 HZ hW1
 generalize Value.agg _=D0
 clear ecs1 hcs1 hcs2
 have hk0:=HG2.out.doK
 have HT2:Hid (RgT t2):=(HG2.out.S.ok HK.out.k).r
 have cN:=name_l HG2.out.S k2
 clear k2
 go_wp2_with fail
 refine cN.mono ?_
 rintro e wn ⟨rfl,hs,hm⟩
 have HN1:=(HG2.out.mv hm hs).hid
 obtain⟨v1,c1,f1⟩:=HX.cellA (pre:=[]) HN1.out 2 (by rw [doA_sz]; omega)
 have HN2:=(HN1.out.doX t2.x).hid
 clear cN hs hm HG2 hk0
 go_upto_region 12 with fail
 generalize hY:World.setCell _ _ _=Yx
 rw [hY] at HN2
 clear hY c1 f1 HN1
 have HC:Hid (Yx.heap[N3]? = some (.cells (doA 5 0 t2.x nd00 nd00 nd00 nd00 t.p) 105 (0,0))):=(HN2.out.B _ List.mem_cons_self).1
 have HQ:Hid (Yx.heap[w§]? = some (.cells (doA 0 0 ⟨#[]⟩ nd00 nd00 nd00 nd00 0) 105 (0,0))):=(HN2.out.B _ (List.mem_cons_of_mem _ List.mem_cons_self)).1
 have HF:=(HX.rowA (pre:=[_]) HN2.out (doA 5 0 t2.x nd00 nd00 nd00 nd00 t.p)).hid
 have HR:Hid ((Yx.setRow w§ (doA 5 0 t2.x nd00 nd00 nd00 nd00 t.p)).heap[w§]? = some (.cells (doA 5 0 t2.x nd00 nd00 nd00 nd00 t.p) 105 (0,0))):=(HF.out.B _ (List.mem_cons_of_mem _ List.mem_cons_self)).1
 have hk0:=HN2.out.doK
 go_wp2_with (first | (refine wpList_load_row rfl 105 (.tmp 5) rfl N3 rfl 105 (doA 5 0 t2.x nd00 nd00 nd00 nd00 t.p) (0,0) _ HC.out Tryz.underlying105 rfl size110' ?_) | (refine wpList_store_row rfl 105 (.tmp 2) (.tmp 60) rfl w§ (doA 5 0 t2.x nd00 nd00 nd00 nd00 t.p) rfl rfl 105 _ HQ.out size110' rfl (all36 ..) ?_))
 refine bodyPost_ret (results_cell_row rfl _ _ w§ 105 (doA 5 0 t2.x nd00 nd00 nd00 nd00 t.p) (0,0) _ rfl HR.out Tryz.underlying105 rfl size110') rfl (do_out (d:=⟨5,0,t2.x,nd00,nd00,nd00,nd00,t.p⟩) HF.out ?_ fun U hU=>⟨lies_leaf U rg0,lies_leaf U rg0,lies_leaf U rg0,lies_leaf U rg0,⟨by show (0:Int)≤5; decide,by show (5:Int)≤255; decide⟩,⟨by show (0:Int)≤0; decide,by show (0:Int)≤255; decide⟩,⟨HT1.out.p0,HT1.out.p1⟩,HT2.out.x1⟩)
 show DoT.mk 5 0 t2.x tr0 (treeOf nd00) (treeOf nd00) (treeOf nd00) t.p=_
 all_goals rfl
theorem do_l {w:World}{b:Nat}{K:PK}{ts:List Tk}{r:DoT}{u:Tk}{us:List Tk}(hK:KG K) (h:Lv w b K ts) (hp:pDo ts=some (r,u :: us)):Calls zG 132 #[zP b] w (OutL DoM.vals DoM.tr DoL b K w r (u :: us)):=by
 cases ts with
 | nil=>cases hp
 | cons t ts =>
  simp only [pDo] at hp
  by_cases hv:fnd t.x [Zs,Zi,Zk,Zq,Zl,Zm] 0=4
  ·rw [if_pos hv] at hp
   obtain⟨⟨a,a2⟩,h1,hp⟩:=opt_bind hp
   cases hp
   obtain⟨t2,g2,k2,k2'⟩:=pName_inv h1
   simp only at k2' g2
   rw [k2']
   rw [g2] at h
   exact doL_goto hK h hv k2
  ·rw [if_neg hv] at hp; cases hp
def rlA (m:Nd) (a:Option Addr) (n c:Nat) (p:Int):Array Value:=#[zU m.h.k,zU m.h.o,zU m.h.t,zI m.h.n,zU m.h.f,.string m.h.x,.slice m.a m.ks.length m.c,zI m.h.p,.slice a n c,zI p]
theorem rlA_vals (r:RuleM):r.vals=rlA r.m r.a r.ds.length r.c r.p:=rfl
theorem rlZ_eq (p:Int):#[zU 0,zU 0,zU 0,zI 0,zU 0,.string ⟨#[]⟩,.slice none 0 0,zI 0,.slice none 0 0,zI p]=rlA nd00 none 0 0 p:=rfl
theorem rlM_eq (m m':Nd) (a:Option Addr) (n c:Nat) (p:Int):set8 (rlA m a n c p) 0 m'=rlA m' a n c p:=by kernel_rfl
theorem rlS_eq (m:Nd) (a a':Option Addr) (n n' c c':Nat) (p:Int):(rlA m a n c p).setIfInBounds 8 (.slice a' n' c')=rlA m a' n' c' p:=by kernel_rfl
theorem HX.rlMS {w:World}{b:Nat}{K:PK}{V:World}{post:List (Nat × Nat × Array Value)}{N:Nat}{e sz:Nat}{v:Value}{vs:List (Array Value)}{F:World→Prop}{ts:List Tk}{m:Nd}{a:Option Addr}{n c:Nat}{p:Int}(h:HX w b K V ((N,92,rlA m a n c p) :: post) e sz v vs F ts) (m':Nd):HX w b K (V.setCells N 0 m'.vals.toList) ((N,92,rlA m' a n c p) :: post) e sz v vs F ts:=by
 rw [cells8_eq]
 have h':=HX.nodeA (pre:=[]) h 0 m'
 rw [rlM_eq] at h'
 exact h'
theorem HX.rlS {w:World}{b:Nat}{K:PK}{V:World}{post:List (Nat × Nat × Array Value)}{N:Nat}{e sz:Nat}{v:Value}{vs:List (Array Value)}{F:World→Prop}{ts:List Tk}{m:Nd}{a:Option Addr}{n c:Nat}{p:Int}(h:HX w b K V ((N,92,rlA m a n c p) :: post) e sz v vs F ts) (a':Option Addr) (n' c':Nat):HX w b K (V.setCell ⟨N,8,none⟩ (.slice a' n' c')) ((N,92,rlA m a' n' c' p) :: post) e sz v vs F ts:=by
 have h':=HX.setA (pre:=[]) h 8 (.slice a' n' c')
 rw [rlS_eq] at h'
 exact h'
theorem HX.doT0 {w:World}{b:Nat}{K:PK}{V:World}{post:List (Nat × Nat × Array Value)}{N:Nat}{e sz:Nat}{v:Value}{vs:List (Array Value)}{F:World→Prop}{ts:List Tk}{m:Nd}{a:Option Addr}{n c:Nat}{p:Int}(h:HX w b K V ((N,92,rlA m a n c p) :: post) e sz v vs F ts) (i:Nat) (hi:i+8≤10):V.there N i 8:=HX.thereA (pre:=[]) h i 8 hi
theorem HX.rlCl {w:World}{b:Nat}{K:PK}{V:World}{post:List (Nat × Nat × Array Value)}{N:Nat}{e sz:Nat}{v:Value}{vs:List (Array Value)}{F:World→Prop}{ts:List Tk}{m:Nd}{a:Option Addr}{n c:Nat}{p:Int}(h:HX w b K V ((N,92,rlA m a n c p) :: post) e sz v vs F ts):Cl V N 8 (.slice a n c):=⟨_,_,(h.B _ List.mem_cons_self).1,rfl⟩
theorem size106':(Tryz.prog.info? 92).map (·.size)=some 10:=by kernel_rfl
theorem all10 (m:Nd) (a:Option Addr) (n c:Nat) (p:Int):(rlA m a n c p).all (·.oneCell')=true:=by simp [rlA,Value.oneCell']
theorem pDos_inv {k:Nat}{ts:List Tk}{rest:List DoT}{te:Tk}{ts':List Tk}(h:pDos k ts=some (rest,te :: ts')):∃ d u us,pDo ts=some (d,u :: us)∧((¬ u.x=Z4∧rest = [d]∧u=te∧us=ts')∨(u.x=Z4∧∃ k' rest',k=k'+1∧pDos k' us=some (rest',te :: ts')∧rest=d :: rest')):=by
 have key:∀ {q:DoT × List Tk},pIs Z4 q.2=true→∃ u us,q.2=u :: us∧u.x=Z4:=by
  intro q hq
  cases hc:q.2 with
  | nil=>rw [hc] at hq; cases hq
  | cons u us=>rw [hc] at hq; exact⟨u,us,rfl,of_decide_eq_true hq⟩
 cases k with
 | zero =>
  unfold pDos at h
  obtain⟨q,h1,h2⟩:=opt_bind h
  by_cases hi:pIs Z4 q.2=true
  ·rw [if_pos hi] at h2; cases h2
  ·rw [if_neg hi] at h2
   obtain⟨e1,e2⟩:=Prod.mk.inj (Option.some.inj h2)
   refine⟨q.1,te,ts',by rw [h1,← e2],.inl ⟨fun e=>hi ?_,e1.symm,rfl,rfl⟩⟩
   rw [e2]; exact decide_eq_true e
 | succ k =>
  unfold pDos at h
  obtain⟨q,h1,h2⟩:=opt_bind h
  by_cases hi:pIs Z4 q.2=true
  ·rw [if_pos hi] at h2
   obtain⟨u,us,e,hx⟩:=key hi
   obtain⟨r,h3,h4⟩:=opt_bind h2
   obtain⟨e1,e2⟩:=Prod.mk.inj (Option.some.inj h4)
   rw [e] at h3
   simp only [List.tail_cons] at h3
   exact⟨q.1,u,us,by rw [h1,← e],.inr ⟨hx,k,r.1,rfl,by rw [h3,← e2],e1.symm⟩⟩
  ·rw [if_neg hi] at h2
   obtain⟨e1,e2⟩:=Prod.mk.inj (Option.some.inj h2)
   refine⟨q.1,te,ts',by rw [h1,← e2],.inl ⟨fun e=>hi ?_,e1.symm,rfl,rfl⟩⟩
   rw [e2]; exact decide_eq_true e
theorem pRule_inv {ts:List Tk}{r:RuleT}{ts':List Tk}(h:pRule ts=some (r,ts')):∃ t1 a1 as1 m t2 us2 ds te,ts=t1 :: a1 :: as1∧t1.x=Z9∧pEx (a1 :: as1)=some (m,t2 :: us2)∧t2.x=⟨#[100,111]⟩∧pDos 7 us2=some (ds,te :: ts')∧te.x=Z5∧r=⟨m,ds,t1.p⟩:=by
 unfold pRule at h
 obtain⟨a,h1,h⟩:=opt_bind h
 obtain⟨b,h2,h⟩:=opt_bind h
 obtain⟨c,h3,h⟩:=opt_bind h
 obtain⟨d,h4,h⟩:=opt_bind h
 obtain⟨f,h5,h⟩:=opt_bind h
 cases h
 obtain⟨t1,rfl,k1,k1'⟩:=pTake_inv h1
 obtain⟨a1,as1,e1⟩:=pEx_cons h2
 obtain⟨t2,g3,k3,_⟩:=pTake_inv h3
 obtain⟨te,g5,k5,_⟩:=pTake_inv h5
 exact⟨t1,a1,as1,b.1,t2,c.2,d.1,te,by rw [e1],k1,by rw [← e1,h2,← g3],k3,by rw [h4,← g5],k5,by rw [k1']⟩
def RLI (w:World) (b:Nat) (K:PK) (N3:Nat) (m:Nd) (p:Int) (te:Tk) (ts':List Tk) (al:List DoT) (wr:World):Prop :=
 ∃ (ds:List DoM) (a:Option Addr) (n c:Nat) (ts2:List Tk) (rest:List DoT),ds.length=n∧n≤7∧HX w b K wr [(N3,92,rlA m a n c p),(w§,92,rlA nd00 none 0 0 0)] 105 36 (.slice a n c) (ds.map DoM.vals) (fun U=>Lies U m∧∀ d ∈ ds,DoL U d) ts2∧pDos (7 - n) ts2=some (rest,te :: ts')∧ds.map DoM.tr ++ rest=al
set_option maxRecDepth 100000 in
set_option maxHeartbeats 8000000 in
theorem rule_l {w:World}{b:Nat}{K:PK}{ts:List Tk}{r:RuleT}{ts':List Tk}(hK:KG K) (h:Lv w b K ts) (hp:pRule ts=some (r,ts')):Calls zG 94 #[zP b] w (OutL RuleM.vals RuleM.tr RuleL b K w r ts'):=by
 obtain⟨t1,a1,as1,m0,t2,us2,al,te,rfl,k1,h1,k2,hds,kte,rfl⟩:=pRule_inv hp
 have HK:Hid (KG K):=hK
 have HT1:Hid (RgT t1):=(h.ok hK.k).r
 have HDS:Hid (pDos 7 us2=some (al,te :: ts')):=hds
 have HTE:Hid (te.x=Z5):=kte
 have HG0:=((HX.new h 105 36).push #[zU 0,zU 0,zU 0,zI 0,zU 0,.string ⟨#[]⟩,.slice none 0 0,zI 0,.slice none 0 0,zI 0] 92).hid
 clear h hK hp hds kte
 obtain⟨W0,eW0⟩:∃ W,w.alloc (.cells #[zU 0,zU 0,zU 0,zI 0,zU 0,.string ⟨#[]⟩,.slice none 0 0,zI 0,.slice none 0 0,zI 0] 92)=W:=⟨_,rfl⟩
 rw [eW0,rlZ_eq] at HG0
 have cT:=take_l HK.out HG0.out.S Z9 (by decide +kernel) k1
 clear k1
 go_enter Tryz.func94,Tryz.ntmps94
 go_wp2_with fail
 try rw [eW0]
 refine cT.mono ?_
 rintro e w1 ⟨rfl,hs,hm⟩
 have HG1:=((HG0.out.mv hm hs).push #[zU 0,zU 0,zU 0,zI 0,zU 0,.string ⟨#[]⟩,.slice none 0 0,zI 0,.slice none 0 0,zI t1.p] 92).hid
 clear cT hs hm HG0 eW0
 go_upto_region 2 with fail
 obtain⟨N3,eN3⟩:∃ q,w1§=q:=⟨_,rfl⟩
 obtain⟨W1,eW1⟩:∃ W,w1.alloc (.cells #[zU 0,zU 0,zU 0,zI 0,zU 0,.string ⟨#[]⟩,.slice none 0 0,zI 0,.slice none 0 0,zI t1.p] 92)=W:=⟨_,rfl⟩
 rw [eW1,eN3,rlZ_eq] at HG1
 rw [eW1,eN3]
 clear eW1 eN3
 generalize Value.agg #[zU 0,zU 0,zU 0,zI 0,zU 0,.string ⟨#[]⟩,.slice none 0 0,zI 0,.slice none 0 0,zI t1.p]=D0
 have cE:=expr_l HK.out HG1.out.S h1
 go_wp2_with fail
 refine cE.mono ?_
 rintro e ua1 ⟨m1,rfl,htr,hdp,hs,hm⟩
 have HM1:Hid (treeOf m1=_):=htr
 have HA1:=(HG1.out.add hm hs hdp).hid
 have HB1:=(HA1.out.rlMS m1).hid
 clear cE hs hm htr hdp HG1 h1
 go_upto_region 3 with (refine wpList_store_mid rfl 48 (.tmp 12) (.tmp 11) rfl N3 0 m1.vals rfl rfl (HA1.out.doT0 0 (by omega)) size64' (all8 m1) ?_)
 generalize hY:World.setCells _ _ _ _=Y1
 rw [hY] at HB1
 clear hY HA1
 have cT:=take_l HK.out HB1.out.S ⟨#[100,111]⟩ (by decide +kernel) k2
 go_wp2_with fail
 refine cT.mono ?_
 rintro e w2 ⟨rfl,hs,hm⟩
 have HG2:=(HB1.out.mv hm hs).hid
 clear cT hs hm HB1 k2
 generalize Value.agg m1.vals=D1
 have HI0:Hid (RLI w b K N3 m1 t1.p te ts' al w2):=⟨[],none,0,0,us2,al,rfl,by omega,HG2.out.imp fun U hU=>⟨hU.2,fun d hd=>by simp at hd⟩,HDS.out,rfl⟩
 clear HG2 HDS
 go_wp2_with fail
 go_loopw [4,5,6] (fun _ _ _ wr=>Hid (RLI w b K N3 m1 t1.p te ts' al wr)) (fun _ _ _ wr=>7 - clen N3 8 wr)
 case atStart=>exact HI0
 case round =>
  obtain⟨ds,a,n,c,ts2,rest,hn,hn7,hx,hpd,hal⟩:=hrel.out
  have HL:=hx.hid
  have HNN:Hid (ds.length=n):=hn
  have HAL:Hid (ds.map DoM.tr ++ rest=al):=hal
  have HMS:Hid (clen N3 8 wr=n):=hx.rlCl.clen
  obtain⟨dt,u,us,hpo,hor⟩:=pDos_inv hpd
  have HOR:Hid ((¬ u.x=Z4∧rest = [dt]∧u=te∧us=ts')∨(u.x=Z4∧∃ k' rest',7 - n=k'+1∧pDos k' us=some (rest',te :: ts')∧rest=dt :: rest')):=hor
  have cD:=do_l HK.out hx.S hpo
  clear hx hrel hpd hpo hor hal hn HI0
  go_wp2_with fail
  refine cD.mono ?_
  rintro e w3 ⟨dm,rfl,htr,hdp,hs,hm⟩
  have HDT:Hid (dm.tr=dt):=htr
  have HLp:=((HL.out.add hm hs hdp).push #[zU 0,zU 0,.string ⟨#[]⟩,zU 0,zU 0,zU 0,zI 0,zU 0,.string ⟨#[]⟩,.slice none 0 0,zI 0,zU 0,zU 0,zU 0,zI 0,zU 0,.string ⟨#[]⟩,.slice none 0 0,zI 0,zU 0,zU 0,zU 0,zI 0,zU 0,.string ⟨#[]⟩,.slice none 0 0,zI 0,zU 0,zU 0,zU 0,zI 0,zU 0,.string ⟨#[]⟩,.slice none 0 0,zI 0,zI 0] 105).hid
  have HL4:=(HX.rowA (pre:=[]) HLp.out dm.vals).hid
  have HZ:Hid ((w3.alloc (.cells #[zU 0,zU 0,.string ⟨#[]⟩,zU 0,zU 0,zU 0,zI 0,zU 0,.string ⟨#[]⟩,.slice none 0 0,zI 0,zU 0,zU 0,zU 0,zI 0,zU 0,.string ⟨#[]⟩,.slice none 0 0,zI 0,zU 0,zU 0,zU 0,zI 0,zU 0,.string ⟨#[]⟩,.slice none 0 0,zI 0,zU 0,zU 0,zU 0,zI 0,zU 0,.string ⟨#[]⟩,.slice none 0 0,zI 0,zI 0] 105)).heap[w3§]? = some (.cells #[zU 0,zU 0,.string ⟨#[]⟩,zU 0,zU 0,zU 0,zI 0,zU 0,.string ⟨#[]⟩,.slice none 0 0,zI 0,zU 0,zU 0,zU 0,zI 0,zU 0,.string ⟨#[]⟩,.slice none 0 0,zI 0,zU 0,zU 0,zU 0,zI 0,zU 0,.string ⟨#[]⟩,.slice none 0 0,zI 0,zU 0,zU 0,zU 0,zI 0,zU 0,.string ⟨#[]⟩,.slice none 0 0,zI 0,zI 0] 105 (0,0))):=heap_new _ _
  clear cD hs hm htr hdp HL HLp
  go_upto_region 5 with (refine wpList_store_row rfl 105 (.tmp 4) (.tmp 16) rfl w3§ dm.vals rfl rfl 105 #[zU 0,zU 0,.string ⟨#[]⟩,zU 0,zU 0,zU 0,zI 0,zU 0,.string ⟨#[]⟩,.slice none 0 0,zI 0,zU 0,zU 0,zU 0,zI 0,zU 0,.string ⟨#[]⟩,.slice none 0 0,zI 0,zU 0,zU 0,zU 0,zI 0,zU 0,.string ⟨#[]⟩,.slice none 0 0,zI 0,zU 0,zU 0,zU 0,zI 0,zU 0,.string ⟨#[]⟩,.slice none 0 0,zI 0,zI 0] HZ.out size110' rfl (all36 ..) ?_)
  generalize hW4:World.setRow _ _ _=W4
  rw [hW4] at HL4
  obtain⟨N4,eN4⟩:∃ q,w3§=q:=⟨_,rfl⟩
  rw [eN4] at HL4 ⊢
  clear eN4 HZ hW4
  have HN4:Hid (W4.heap[N4]? = some (.cells dm.vals 105 (0,0))):=(HL4.out.B _ List.mem_cons_self).1
  have k8:W4.cell? ⟨N3,8,none⟩=some (.slice a n c):=cell_of (HL4.out.B _ (List.mem_cons_of_mem _ List.mem_cons_self)).1 8
  go_upto_region 6 with (first | (refine wpList_load_row rfl 105 (.tmp 4) rfl N4 rfl 105 dm.vals (0,0) _ HN4.out Tryz.underlying105 rfl size110' ?_) | (refine wpList_slice1 rfl 90 105 (.tmp 19) rfl dm.vals rfl 36 _ Tryz.underlying90 320 inf110 rfl rfl (by decide) (by decide) ?_) | (at_builtin; refine app_h HL4.out 90 dm.vals rfl (all36 ..) _ 320 Tryz.underlying90 inf110 rfl (by decide) (by rw [List.length_map,HNN.out]; omega) (by decide) rfl (.tmp 18) (.tmp 20) rfl rfl rfl ?_; intro g7 cap7 w7 hl7; rw [List.length_map,HNN.out] at hl7 ⊢; have HL7:=hl7.pop.hid; obtain⟨av8,ac8,af8⟩:=HX.cellA (pre:=[]) HL7.out 8 (by show 8 < 10; omega); clear hl7))
  have HL8:=(HL7.out.rlS (some ⟨g7,0,none⟩) (n+1) cap7).hid
  generalize hW8:World.setCell _ _ _=W8
  rw [hW8] at HL8
  clear hW8 HL7 ac8 af8 k8 HL4 HN4
  generalize Value.agg dm.vals=D4
  have HX8:Hid (HX w b K W8 [(N3,92,rlA m1 (some ⟨g7,0,none⟩) (n+1) cap7 t1.p),(w§,92,rlA nd00 none 0 0 0)] 105 36 (.slice (some ⟨g7,0,none⟩) (n+1) cap7) ((ds ++ [dm]).map DoM.vals) (fun U=>Lies U m1∧∀ d ∈ ds ++ [dm],DoL U d) (u :: us)):=by
   rw [List.map_append]
   refine HL8.out.imp fun U hU=>⟨hU.1.1,fun d hd=>?_⟩
   rcases List.mem_append.1 hd with hd | hd
   ·exact hU.1.2 d hd
   ·rw [List.mem_singleton.1 hd]; exact hU.2
  clear HL8
  by_cases hc:u.x=Z4
  ·obtain⟨k',rest',hk',hpd',hre⟩:∃ k' rest',7 - n=k'+1∧pDos k' us=some (rest',te :: ts')∧rest=dt :: rest':=by
    rcases HOR.out with ⟨g,_⟩ | ⟨_,g⟩
    ·exact absurd hc g
    ·exact g
   have cI:=is_l HK.out HX8.out.S Z4 (by decide +kernel) (i:=true) (by simp only [pIs]; exact decide_eq_true hc)
   have HPD:Hid (pDos (7 - (n+1)) us=some (rest',te :: ts')∧(ds ++ [dm]).map DoM.tr ++ rest'=al):=by
    refine⟨by rw [show 7 - (n+1)=k' by omega]; exact hpd',?_⟩
    rw [← HAL.out,hre,List.map_append,List.map_singleton,HDT.out]
    simp
   clear hpd' hre hc HOR HAL HDT
   go_wp2_with fail
   refine cI.mono ?_
   rintro e z1 ⟨rfl,hb⟩
   have HL9:=(HX8.out.on hb).hid
   have k8:=HL9.out.rlCl.cell
   have cM:=many_ok HL9.out.S (n+1) 8 (by omega) (by omega)
   clear cI hb HX8
   simp only [Int.natCast_add,Int.natCast_one] at cM
   go_wp2_with fail
   refine cM.mono ?_
   rintro e z2 ⟨rfl,e2⟩
   obtain rfl:=e2.symm
   clear cM e2
   obtain⟨i,c3,f3,hmx,hL,hM,_,_⟩:=HL9.out.S.at'
   have HL10:=(HL9.out.mv hM hL).hid
   clear hL hM HL9
   go_wp2_with fail
   refine⟨?_,?_⟩
   ·exact⟨ds ++ [dm],_,n+1,cap7,us,rest',by rw [List.length_append,HNN.out]; rfl,by omega,HL10.out,HPD.out.1,HPD.out.2⟩
   ·rw [HMS.out,HL10.out.rlCl.clen]; omega
  ·obtain⟨hre,rfl,rfl⟩:rest = [dt]∧u=te∧us=ts':=by
    rcases HOR.out with ⟨_,g⟩ | ⟨g,_⟩
    ·exact g
    ·exact absurd g hc
   have cI:=is_l HK.out HX8.out.S Z4 (by decide +kernel) (i:=false) (by simp only [pIs]; exact decide_eq_false hc)
   have HPD:Hid ((ds ++ [dm]).map DoM.tr=al):=by
    show _=_
    rw [← HAL.out,hre,List.map_append,List.map_singleton,HDT.out]
   clear hre hc HOR HAL HDT
   go_wp2_with fail
   refine cI.mono ?_
   rintro e z1 ⟨rfl,hb⟩
   have HL9:=(HX8.out.on hb).hid
   have cT:=take_l HK.out HL9.out.S Z5 (by decide +kernel) HTE.out
   clear cI hb HX8
   go_wp2_with fail
   refine cT.mono ?_
   rintro e z9 ⟨rfl,hs,hm⟩
   have HL10:=(HL9.out.mv hm hs).hid
   clear cT hs hm HL9
   obtain⟨a9,c9,e9,HE⟩:=HL10.out.retire 0 0
   injection e9 with e91 e92 e93
   subst e91 e93
   have HC:Hid (z9.heap[N3]? = some (.cells (rlA m1 (some ⟨g7,0,none⟩) (n+1) cap7 t1.p) 92 (0,0))):=(HE.B _ List.mem_cons_self).1
   have HO:Hid (z9.heap[w§]? = some (.cells (rlA nd00 none 0 0 0) 92 (0,0))):=(HE.B _ (List.mem_cons_of_mem _ List.mem_cons_self)).1
   have HF:=(HX.rowA (pre:=[_]) HE (rlA m1 (some ⟨g7,0,none⟩) (n+1) cap7 t1.p)).hid
   have HR:Hid ((z9.setRow w§ (rlA m1 (some ⟨g7,0,none⟩) (n+1) cap7 t1.p)).heap[w§]? = some (.cells (rlA m1 (some ⟨g7,0,none⟩) (n+1) cap7 t1.p) 92 (0,0))):=(HF.out.B _ (List.mem_cons_of_mem _ List.mem_cons_self)).1
   clear HE HL10
   go_wp2_with (first | (refine wpList_load_row rfl 92 (.tmp 3) rfl N3 rfl 92 (rlA m1 (some ⟨g7,0,none⟩) (n+1) cap7 t1.p) (0,0) _ HC.out Tryz.underlying92 rfl size106' ?_) | (refine wpList_store_row rfl 92 (.tmp 2) (.tmp 43) rfl w§ (rlA m1 (some ⟨g7,0,none⟩) (n+1) cap7 t1.p) rfl rfl 92 _ HO.out size106' rfl (all10 ..) ?_))
   have hlen:(ds ++ [dm]).length=n+1:=by rw [List.length_append,HNN.out]; rfl
   have hval:RuleM.vals ⟨m1,some ⟨g7,0,none⟩,cap7,ds ++ [dm],t1.p⟩=rlA m1 (some ⟨g7,0,none⟩) (n+1) cap7 t1.p:=by rw [rlA_vals]; show rlA m1 _ (ds ++ [dm]).length _ _=_; rw [hlen]
   refine bodyPost_ret (results_cell_row rfl _ _ w§ 92 (rlA m1 (some ⟨g7,0,none⟩) (n+1) cap7 t1.p) (0,0) _ rfl HR.out Tryz.underlying92 rfl size106') rfl ⟨⟨m1,some ⟨g7,0,none⟩,cap7,ds ++ [dm],t1.p⟩,by rw [hval],?_,HF.out.fin.1.imp fun U hU=>⟨hU.1.1,hU.2,hU.1.2,⟨HT1.out.p0,HT1.out.p1⟩⟩,HF.out.S,HF.out.M⟩
   show RuleT.mk (treeOf m1) ((ds ++ [dm]).map DoM.tr) t1.p=_
   rw [HM1.out,HPD.out]
end Go.Proofs.YtoogodlnnijikaaGreatDoor
