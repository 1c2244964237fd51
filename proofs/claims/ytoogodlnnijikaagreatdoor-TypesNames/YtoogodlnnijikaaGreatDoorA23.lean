import Derived.Test.YtoogodlnnijikaaGreatDoorA0
import Derived.Test.YtoogodlnnijikaaGreatDoorA22
namespace Go.Proofs.YtoogodlnnijikaaGreatDoor
set_option maxHeartbeats 4000000
set_option maxRecDepth 100000
open Go.RowKit
set_option linter.unusedVariables false
theorem QT {w:yW}{b:Nat}{K:PK}{t:Tk}{ts:List Tk}(hK:KG K) (h:Lv w b K (t :: ts)) (x:yB) (hx:(lx x.data.toList).map (·.1)=some 1∨(lx x.data.toList).map (·.1)=some 4) (ht:t.x=x) :
  Calls zG 55 #[zP b,.string x] w fun e w'=>e=.returned (zI t.p)∧Lv w' b K ts∧Mv w w' (fun k=>k=b):=by
 refine (take_live h x (J9 (h.gd hK) hx)).mono ?_
 rintro e w' ⟨⟨p,rfl,h1⟩,h2,h3⟩
 rw [if_pos ht] at h2
 rw [h1 ht]
 exact⟨rfl,h2,h3⟩
theorem is_l {w:yW}{b:Nat}{K:PK}{t:Tk}{ts:List Tk}(hK:KG K) (h:Lv w b K (t :: ts)) (x:yB) (hx:(lx x.data.toList).map (·.1)=some 1∨(lx x.data.toList).map (·.1)=some 4) {i:Bool}(hi:pIs x (t :: ts)=i) :
  Calls zG 57 #[zP b,.string x] w fun e w'=>e=.returned (.bool i)∧yD w w':=by
 subst hi
 exact Jo h x (J9 (h.gd hK) hx)
theorem Kj {w:yW}{b:Nat}{K:PK}{t:Tk}{ts:List Tk}(h:Lv w b K (t :: ts)) (hk:t.k=2) :
  Calls zG 56 #[zP b] w fun e w'=>e=.returned (.string t.x)∧Lv w' b K ts∧Mv w w' (fun k=>k=b):=by
 have cN:=Qt h
 have HH:=h.hid
 unfold tkA at cN
 rw [hk] at cN
 clear h hk
 go_enter Tryz.func56,Tryz.ntmps56
 go_wp2_with fail
 refine cN.mono ?_
 rintro e w1 ⟨rfl,hb⟩
 have HB:Hid (yD w (w1.alloc (.cells #[zU 2,.string t.x,zU t.ty,zI t.n,zI t.p] 148))):=Qe hb (Qc _ _)
 have hN:=Qd w1 (.cells #[zU 2,.string t.x,zU t.ty,zI t.n,zI t.p] 148)
 obtain⟨i,c3,f3,hmx,hL,hM,ho,_⟩:=(HH.out.on HB.out).at'
 have hbl:=HH.out.lt
 have hsz:=hb.size
 have k1:((w1.alloc (.cells #[zU 2,.string t.x,zU t.ty,zI t.n,zI t.p] 148)).setCell b¢3 (zI ((i:Int)+1))).cell? w1§¢1=some (.string t.x):=Qa ((ho w1§ (by omega)).trans hN) 1
 obtain⟨W,eW⟩:∃ W,w1.alloc (.cells #[zU 2,.string t.x,zU t.ty,zI t.n,zI t.p] 148)=W:=⟨_,rfl⟩
 have k0:W.cell? w1§¢0=some (zU 2):=by rw [← eW]; exact Qa hN 0
 rw [eW] at HB c3 f3 hL hM k1
 have HL:=hL.hid
 have HM:Hid (Mv W _ (fun k=>k=b)):=hM
 clear cN hb hN hL hM ho hbl hsz
 obtain⟨Y,eY⟩:∃ Y,W.setCell b¢3 (zI ((i:Int)+1))=Y:=⟨_,rfl⟩
 rw [eY] at HL HM k1
 go_wp2_with fail
 try rw [eW]
 go_wp2_with fail
 go_ret
 first | exact⟨rfl,HL.out,(Mv.ofBelow HB.out).trans HM.out (fun k e=>.inl e)⟩ | (rw [eY]; exact⟨rfl,HL.out,(Mv.ofBelow HB.out).trans HM.out (fun k e=>.inl e)⟩)
theorem QA (U:yW) {h:Hd}(hr:Rg h):Lies U (.mk h none 0 []):=.mk h none 0 [] hr (by simp) (by omega) (fun i hi=>by simp at hi) (fun k hk=>by simp at hk)
theorem lit_l {w:yW}{b:Nat}{K:PK}{t:Tk}{ts:List Tk}(hK:KG K) (h:Lv w b K (t :: ts)) (hv:(valT t).1≠0) :
  Calls zG 93 #[zP b] w fun e w'=>∃ m:Nd,e=.returned (.tuple #[.agg m.vals,.bool true])∧Qh m=.mk ⟨1,0,(valT t).1,(valT t).2,0,gE,t.p⟩ []∧(∀ U,Lies U m)∧Lv w' b K ts∧Mv w w' (fun k=>k=b):=by
 refine (literal_ok h (h.ok hK.k) hv).mono ?_
 rintro e w' ⟨rfl,h1,h2⟩
 exact⟨litN t,rfl,rfl,fun U=>QA U (h.ok hK.k).r.val,h1,h2⟩
theorem JE {w:yW}{b:Nat}{K:PK}{t:Tk}{ts:List Tk}{r:Tr}{u:Tk}{us:List Tk}(hK:KG K) (h:Lv w b K (t :: ts)) (hp:pEx (t :: ts)=some (r,u :: us)) :
  Calls zG 52 #[zP b,zI 0] w fun e w'=>∃ m:Nd,e=.returned (.agg m.vals)∧Qh m=r∧Dp w w' (fun U=>Lies U m)∧Lv w' b K (u :: us)∧Mv w w' (fun k=>k=b):=by
 refine (expr0_d hK.k w (.ok (t :: ts)) ⟨by simp,h⟩).mono ?_
 rintro e w' ⟨m,rfl,h1,h2,h3,h4,h5⟩
 unfold pEx at hp
 have hr:rd Ka (.ok (t :: ts))=Ka (t :: ts):=rfl
 rw [hr] at h3 h5
 cases hx:Ka (t :: ts) with
 | error f=>rw [hx] at hp; cases hp
 | ok q =>
  rw [hx] at hp h3
  cases hp
  exact⟨m,rfl,h5 _ hx,dp_lies h1 h2,h3.2,h4⟩
theorem HX.cellA {w:yW}{b:Nat}{K:PK}{V:yW}{pre post:List (Nat × Nat × Array Value)}{N:Nat}{e sz:Nat}{v:Value}{vs:List (Array Value)}{F:yW→Prop}{ts:List Tk}{T:Nat}{cs:Array Value}(h:HX w b K V (pre ++ (N,T,cs) :: post) e sz v vs F ts) (i:Nat) (hi:i < cs.size):∃ u,V.cell? N¢i=some u∧V.frozen? N¢i=false:=by
 have hb:=(h.B (N,T,cs) (by simp)).1
 refine⟨cs[i],?_,Qb hb i⟩
 rw [Qa hb i,Array.getElem?_eq_getElem hi]
def nd00:Nd:=.mk ⟨0,0,0,0,0,gE,0⟩ none 0 []
theorem doSd_eq (k o:Int) (x:yB) (s q r u m:Nd) (p:Int):set8 (doA k o x s q r u p) 3 m=doA k o x m q r u p:=by kernel_rfl
theorem HX.doSd {w:yW}{b:Nat}{K:PK}{V:yW}{post:List (Nat × Nat × Array Value)}{N:Nat}{e sz:Nat}{v:Value}{vs:List (Array Value)}{F:yW→Prop}{ts:List Tk}{k o:Int}{x:yB}{s q r u:Nd}{p:Int}(h:HX w b K V ((N,105,doA k o x s q r u p) :: post) e sz v vs F ts) (m:Nd):HX w b K ((((((((V.setCell N¢3 (zU m.h.k)).setCell N¢4 (zU m.h.o)).setCell N¢5 (zU m.h.t)).setCell N¢6 (zI m.h.n)).setCell N¢7 (zU m.h.f)).setCell N¢8 (.string m.h.x)).setCell N¢9 (.slice m.a m.ks.length m.c)).setCell N¢10 (zI m.h.p)) ((N,105,doA k o x m q r u p) :: post) e sz v vs F ts:=by
 have h':=HX.nodeA (pre:=[]) h 3 m
 rw [doSd_eq] at h'
 exact h'
theorem doQt_eq (k o:Int) (x:yB) (s q r u m:Nd) (p:Int):set8 (doA k o x s q r u p) 11 m=doA k o x s m r u p:=by kernel_rfl
theorem HX.doQt {w:yW}{b:Nat}{K:PK}{V:yW}{post:List (Nat × Nat × Array Value)}{N:Nat}{e sz:Nat}{v:Value}{vs:List (Array Value)}{F:yW→Prop}{ts:List Tk}{k o:Int}{x:yB}{s q r u:Nd}{p:Int}(h:HX w b K V ((N,105,doA k o x s q r u p) :: post) e sz v vs F ts) (m:Nd):HX w b K ((((((((V.setCell N¢11 (zU m.h.k)).setCell N¢12 (zU m.h.o)).setCell N¢13 (zU m.h.t)).setCell N¢14 (zI m.h.n)).setCell N¢15 (zU m.h.f)).setCell N¢16 (.string m.h.x)).setCell N¢17 (.slice m.a m.ks.length m.c)).setCell N¢18 (zI m.h.p)) ((N,105,doA k o x s m r u p) :: post) e sz v vs F ts:=by
 have h':=HX.nodeA (pre:=[]) h 11 m
 rw [doQt_eq] at h'
 exact h'
theorem doPr_eq (k o:Int) (x:yB) (s q r u m:Nd) (p:Int):set8 (doA k o x s q r u p) 19 m=doA k o x s q m u p:=by kernel_rfl
theorem HX.doPr {w:yW}{b:Nat}{K:PK}{V:yW}{post:List (Nat × Nat × Array Value)}{N:Nat}{e sz:Nat}{v:Value}{vs:List (Array Value)}{F:yW→Prop}{ts:List Tk}{k o:Int}{x:yB}{s q r u:Nd}{p:Int}(h:HX w b K V ((N,105,doA k o x s q r u p) :: post) e sz v vs F ts) (m:Nd):HX w b K ((((((((V.setCell N¢19 (zU m.h.k)).setCell N¢20 (zU m.h.o)).setCell N¢21 (zU m.h.t)).setCell N¢22 (zI m.h.n)).setCell N¢23 (zU m.h.f)).setCell N¢24 (.string m.h.x)).setCell N¢25 (.slice m.a m.ks.length m.c)).setCell N¢26 (zI m.h.p)) ((N,105,doA k o x s q m u p) :: post) e sz v vs F ts:=by
 have h':=HX.nodeA (pre:=[]) h 19 m
 rw [doPr_eq] at h'
 exact h'
theorem doVl_eq (k o:Int) (x:yB) (s q r u m:Nd) (p:Int):set8 (doA k o x s q r u p) 27 m=doA k o x s q r m p:=by kernel_rfl
theorem HX.doVl {w:yW}{b:Nat}{K:PK}{V:yW}{post:List (Nat × Nat × Array Value)}{N:Nat}{e sz:Nat}{v:Value}{vs:List (Array Value)}{F:yW→Prop}{ts:List Tk}{k o:Int}{x:yB}{s q r u:Nd}{p:Int}(h:HX w b K V ((N,105,doA k o x s q r u p) :: post) e sz v vs F ts) (m:Nd):HX w b K ((((((((V.setCell N¢27 (zU m.h.k)).setCell N¢28 (zU m.h.o)).setCell N¢29 (zU m.h.t)).setCell N¢30 (zI m.h.n)).setCell N¢31 (zU m.h.f)).setCell N¢32 (.string m.h.x)).setCell N¢33 (.slice m.a m.ks.length m.c)).setCell N¢34 (zI m.h.p)) ((N,105,doA k o x s q r m p) :: post) e sz v vs F ts:=by
 have h':=HX.nodeA (pre:=[]) h 27 m
 rw [doVl_eq] at h'
 exact h'
theorem HX.doO {w:yW}{b:Nat}{K:PK}{V:yW}{post:List (Nat × Nat × Array Value)}{N:Nat}{e sz:Nat}{v:Value}{vs:List (Array Value)}{F:yW→Prop}{ts:List Tk}{k o:Int}{x:yB}{s q r u:Nd}{p:Int}(h:HX w b K V ((N,105,doA k o x s q r u p) :: post) e sz v vs F ts) (o':Int):HX w b K (V.setCell N¢1 (zU o')) ((N,105,doA k o' x s q r u p) :: post) e sz v vs F ts:=HX.setA (pre:=[]) h 1 (zU o')
theorem HX.doX {w:yW}{b:Nat}{K:PK}{V:yW}{post:List (Nat × Nat × Array Value)}{N:Nat}{e sz:Nat}{v:Value}{vs:List (Array Value)}{F:yW→Prop}{ts:List Tk}{k o:Int}{x:yB}{s q r u:Nd}{p:Int}(h:HX w b K V ((N,105,doA k o x s q r u p) :: post) e sz v vs F ts) (x':yB):HX w b K (V.setCell N¢2 (.string x')) ((N,105,doA k o x' s q r u p) :: post) e sz v vs F ts:=HX.setA (pre:=[]) h 2 (.string x')
theorem dp_new (V:yW) (o:Obj):Dp V (V.alloc o) (fun U=>U.heap[V§]? = some o):=fun U hU=>(hU V§ (Nat.le_refl _) (by rw [Qf]; omega)).trans (Qd V o)
theorem JY (k o:Int) (x:yB) (s q r u:Nd) (p:Int):(doA k o x s q r u p).all (·.oneCell')=true:=by
 simp [doA,Value.oneCell']
theorem JV (k o:Int) (x:yB) (s q r u:Nd) (p:Int):(doA k o x s q r u p).size=36:=rfl
theorem Qn {α β:Type}{x:Option α}{f:α→Option β}{y:β}(h:x.bind f=some y):∃ a,x=some a∧f a=some y:=by
 cases x with
 | none=>cases h
 | some a=>exact⟨a,rfl,h⟩
theorem QK {x:yB}{ts:List Tk}{q:Int × List Tk}(h:Jq x ts=some q):∃ t,ts=t :: q.2∧t.x=x∧q.1=t.p:=by
 cases ts with
 | nil=>cases h
 | cons t ts =>
  simp only [Jq] at h
  by_cases e:t.x=x
  ·rw [if_pos e] at h; cases h; exact⟨t,rfl,e,rfl⟩
  ·rw [if_neg e] at h; cases h
theorem Jn {ts:List Tk}{q:yB × List Tk}(h:pName ts=some q):∃ t,ts=t :: q.2∧t.k=2∧q.1=t.x:=by
 cases ts with
 | nil=>cases h
 | cons t ts =>
  simp only [pName] at h
  by_cases e:t.k=2
  ·rw [if_pos e] at h; cases h; exact⟨t,rfl,e,rfl⟩
  ·rw [if_neg e] at h; cases h
theorem pAny_inv {L:List yB}{ts:List Tk}{q:Int × List Tk}(h:pAny L ts=some q):∃ t,ts=t :: q.2∧0≤q.1∧fnd t.x L 0=q.1:=by
 cases ts with
 | nil=>cases h
 | cons t ts =>
  simp only [pAny] at h
  by_cases e:0≤fnd t.x L 0
  ·rw [if_pos e] at h; cases h; exact⟨t,rfl,e,rfl⟩
  ·rw [if_neg e] at h; cases h
theorem pLit_inv {ts:List Tk}{q:Tr × List Tk}(h:pLit ts=some q):∃ t,ts=t :: q.2∧(valT t).1≠0∧q.1=.mk ⟨1,0,(valT t).1,(valT t).2,0,gE,t.p⟩ []:=by
 cases ts with
 | nil=>cases h
 | cons t ts =>
  simp only [pLit] at h
  by_cases e:(valT t).1≠0
  ·rw [if_pos e] at h; cases h; exact⟨t,rfl,e,rfl⟩
  ·rw [if_neg e] at h; cases h
theorem pReg_inv {ts:List Tk}{r:RegT}{ts':List Tk}(h:pReg ts=some (r,ts')):∃ t1 t2 t3 t4 us v,∃ q:Tr × List Tk,ts=t1 :: t2 :: t3 :: t4 :: us∧t1.x=ZT∧t2.k=2∧0≤v∧fnd t3.x yf 0=v∧t4.x=Z02∧pInit us=some q∧(∃ t6,q.2=t6 :: ts'∧t6.x=ZN)∧r=⟨t2.x,1+v,q.1,t1.p⟩:=by
 unfold pReg at h
 obtain⟨a,h1,h⟩:=Qn h
 obtain⟨b,h2,h⟩:=Qn h
 obtain⟨c,h3,h⟩:=Qn h
 obtain⟨d,h4,h⟩:=Qn h
 obtain⟨e,h5,h⟩:=Qn h
 obtain⟨f,h6,h⟩:=Qn h
 cases h
 obtain⟨t1,rfl,k1,k1'⟩:=QK h1
 obtain⟨t2,g2,k2,k2'⟩:=Jn h2
 obtain⟨t3,g3,k3,k3'⟩:=pAny_inv h3
 obtain⟨t4,g4,k4,_⟩:=QK h4
 obtain⟨t6,g6,k6,_⟩:=QK h6
 exact⟨t1,t2,t3,t4,d.2,c.1,e,by rw [g2,g3,g4],k1,k2,k3,k3',k4,h5,⟨t6,g6,k6⟩,by rw [k1',k2']⟩
theorem regA_zero (x:yB) (t p:Int):#[.string x,zU t,zU 0,zU 0,zU 0,zI 0,zU 0,yQ,.slice none 0 0,zI 0,zI p]=RegM.vals ⟨x,t,nd00,p⟩:=rfl
theorem rgX_eq (x x':yB) (t p:Int) (m:Nd):(RegM.vals ⟨x,t,m,p⟩).setIfInBounds 0 (.string x')=RegM.vals ⟨x',t,m,p⟩:=by kernel_rfl
theorem rgT_eq (x:yB) (t t' p:Int) (m:Nd):(RegM.vals ⟨x,t,m,p⟩).setIfInBounds 1 (zU t')=RegM.vals ⟨x,t',m,p⟩:=by kernel_rfl
theorem rgM_eq (x:yB) (t p:Int) (m m':Nd):set8 (RegM.vals ⟨x,t,m,p⟩) 2 m'=RegM.vals ⟨x,t,m',p⟩:=by kernel_rfl
theorem HX.rgX {w:yW}{b:Nat}{K:PK}{V:yW}{pre post:List (Nat × Nat × Array Value)}{N:Nat}{e sz:Nat}{v:Value}{vs:List (Array Value)}{F:yW→Prop}{ts:List Tk}{x:yB}{t p:Int}{m:Nd}(h:HX w b K V (pre ++ (N,62,RegM.vals ⟨x,t,m,p⟩) :: post) e sz v vs F ts) (x':yB):HX w b K (V.setCell N¢0 (.string x')) (pre ++ (N,62,RegM.vals ⟨x',t,m,p⟩) :: post) e sz v vs F ts:=by
 have h':=h.setA 0 (.string x')
 rwa [rgX_eq] at h'
theorem HX.rgT {w:yW}{b:Nat}{K:PK}{V:yW}{pre post:List (Nat × Nat × Array Value)}{N:Nat}{e sz:Nat}{v:Value}{vs:List (Array Value)}{F:yW→Prop}{ts:List Tk}{x:yB}{t p:Int}{m:Nd}(h:HX w b K V (pre ++ (N,62,RegM.vals ⟨x,t,m,p⟩) :: post) e sz v vs F ts) (t':Int):HX w b K (V.setCell N¢1 (zU t')) (pre ++ (N,62,RegM.vals ⟨x,t',m,p⟩) :: post) e sz v vs F ts:=by
 have h':=h.setA 1 (zU t')
 rwa [rgT_eq] at h'
theorem HX.rgM {w:yW}{b:Nat}{K:PK}{V:yW}{pre post:List (Nat × Nat × Array Value)}{N:Nat}{e sz:Nat}{v:Value}{vs:List (Array Value)}{F:yW→Prop}{ts:List Tk}{x:yB}{t p:Int}{m:Nd}(h:HX w b K V (pre ++ (N,62,RegM.vals ⟨x,t,m,p⟩) :: post) e sz v vs F ts) (m':Nd):HX w b K ((((((((V.setCell N¢2 (zU m'.h.k)).setCell N¢3 (zU m'.h.o)).setCell N¢4 (zU m'.h.t)).setCell N¢5 (zI m'.h.n)).setCell N¢6 (zU m'.h.f)).setCell N¢7 (.string m'.h.x)).setCell N¢8 (.slice m'.a m'.ks.length m'.c)).setCell N¢9 (zI m'.h.p)) (pre ++ (N,62,RegM.vals ⟨x,t,m',p⟩) :: post) e sz v vs F ts:=by
 have h':=h.nodeA 2 m'
 rwa [rgM_eq] at h'
theorem HX.rgC {w:yW}{b:Nat}{K:PK}{V:yW}{pre post:List (Nat × Nat × Array Value)}{N:Nat}{e sz:Nat}{v:Value}{vs:List (Array Value)}{F:yW→Prop}{ts:List Tk}{r:RegM}(h:HX w b K V (pre ++ (N,62,r.vals) :: post) e sz v vs F ts) (i:Nat) (hi:i < 11):∃ u,V.cell? N¢i=some u∧V.frozen? N¢i=false:=h.cellA i hi
theorem rg_neg {p:Int}(h0:-9223372036854775808≤p) (h1:p≤9223372036854775807):Rg ⟨5,1,0,0,0,gE,p⟩:=⟨by simp,by simp,by simp,by simp,by simp,by simp,by simp,by simp,by simp,by simp,h0,h1,(show gE.size≤140737488355328 by decide)⟩
theorem QU:(Tryz.prog.info? 62).map (·.size)=some 11:=by kernel_rfl
theorem all11 (r:RegM):r.vals.all (·.oneCell')=true:=by simp [RegM.vals,Value.oneCell']
def OutL {α β:Type}(vals:α→Array Value) (tr:α→β) (L:yW→α→Prop) (b:Nat) (K:PK) (w:yW) (r:β) (ts:List Tk) (e:Ending) (w':yW):Prop :=
 ∃ m:α,e=.returned (.agg (vals m))∧tr m=r∧Dp w w' (fun U=>L U m)∧Lv w' b K ts∧Mv w w' (fun k=>k=b)
theorem reg_l {w:yW}{b:Nat}{K:PK}{ts ts':List Tk}{r:RegT}(hK:KG K) (h:Lv w b K ts) (hp:pReg ts=some (r,ts')):Calls zG 59 #[zP b] w (OutL RegM.vals RegM.tr RegL b K w r ts'):=by
 obtain⟨t1,t2,t3,t4,us,v,q,rfl,k1,k2,hv0,hv,k4,hq,⟨t6,hq2,k6⟩,rfl⟩:=pReg_inv hp
 have HK:Hid (KG K):=hK
 have HT1:Hid (RgT t1):=(h.ok hK.k).r
 have hrg:=Jt t3.x yf 0
 rw [hv] at hrg
 simp only [List.length_cons,List.length_nil] at hrg
 have hv6:v < 6:=by omega
 have HG0:=((HX.new h 0 0).push zc 62).hid
 clear h hK hp hrg
 obtain⟨W0,eW0⟩:∃ W,w.alloc (.cells zc 62)=W:=⟨_,rfl⟩
 rw [eW0] at HG0
 have cT:=QT HK.out HG0.out.S ZT (by decide +kernel) k1
 clear k1
 go_enter Tryz.func59,Tryz.ntmps59
 go_wp2_with fail
 try rw [eW0]
 refine cT.mono ?_
 rintro e w1 ⟨rfl,hs,hm⟩
 have HG1:=((HG0.out.mv hm hs).push #[yQ,zU 0,zU 0,zU 0,zU 0,zI 0,zU 0,yQ,.slice none 0 0,zI 0,zI t1.p] 62).hid
 clear cT hs hm HG0 eW0
 go_upto_region 2 with fail
 obtain⟨N3,eN3⟩:∃ q,w1§=q:=⟨_,rfl⟩
 obtain⟨W1,eW1⟩:∃ W,w1.alloc (.cells #[yQ,zU 0,zU 0,zU 0,zU 0,zI 0,zU 0,yQ,.slice none 0 0,zI 0,zI t1.p] 62)=W:=⟨_,rfl⟩
 rw [eW1,eN3,regA_zero] at HG1
 rw [eW1,eN3]
 clear eW1 eN3
 have cN:=Kj HG1.out.S k2
 have HT2:Hid (RgT t2):=(HG1.out.S.ok HK.out.k).r
 clear k2
 go_wp2_with fail
 refine cN.mono ?_
 rintro e w2 ⟨rfl,hs,hm⟩
 have HG2:=(HG1.out.mv hm hs).hid
 obtain⟨v0,c0,f0⟩:=HX.rgC (pre:=[]) HG2.out 0 (by omega)
 have HG3:Hid (HX w b K (w2.setCell N3¢0 (.string t2.x)) [(N3,62,(RegM.vals ⟨t2.x,0,nd00,t1.p⟩)),(w§,62,zc)] 0 0 (.slice none 0 0) [] (fun _=>True) (t3 :: t4 :: us)):=HX.rgX (pre:=[]) HG2.out t2.x
 clear cN hs hm HG1
 go_upto_region 3 with fail
 obtain⟨W3,eW3⟩:∃ W,w2.setCell N3¢0 (.string t2.x)=W:=⟨_,rfl⟩
 rw [eW3] at HG3 ⊢
 clear eW3 HG2 c0 f0
 have HW:Hid (yD W3 (W3.alloc (.cells ya 9))):=Qc _ _
 have hSL:SLs (W3.alloc (.cells ya 9)) W3§ yf:=fun j hj=>by
  have hh:=Qd W3 (.cells ya 9)
  match j,hj with
  | 0,_=>exact Qa hh 0
  | 1,_=>exact Qa hh 1
  | 2,_=>exact Qa hh 2
  | 3,_=>exact Qa hh 3
  | 4,_=>exact Qa hh 4
  | 5,_=>exact Qa hh 5
 have cA:=Qv (HG3.out.S.on HW.out) (n:=6) (c:=6) hSL rfl (by omega) (by intro x hx; simp only [List.mem_cons,List.not_mem_nil,or_false] at hx; rcases hx with rfl | rfl | rfl | rfl | rfl | rfl <;> exact J9 (HG3.out.S.gd HK.out) (by decide +kernel))
 clear hSL
 rw [hv] at cA
 have hv2:decide (v < 0)=false:=decide_eq_false (by omega)
 clear hv
 go_wp2_with fail
 refine cA.mono ?_
 rintro e w4 ⟨rfl,hb4⟩
 have HG4:=((HG3.out.on HW.out).on hb4).hid
 obtain⟨i,c3,f3,hmx,hL,hM,_,_⟩:=HG4.out.S.at'
 obtain⟨V,eV⟩:∃ V,w4.setCell b¢3 (zI ((i:Int)+1))=V:=⟨_,rfl⟩
 rw [eV] at hL hM
 have HG5:=(HG4.out.mv hM hL).hid
 obtain⟨v1,c1,f1⟩:=HX.rgC (pre:=[]) HG5.out 1 (by omega)
 have HG6:Hid (HX w b K (V.setCell N3¢1 (zU (1+v))) [(N3,62,(RegM.vals ⟨t2.x,(1+v),nd00,t1.p⟩)),(w§,62,zc)] 0 0 (.slice none 0 0) [] (fun _=>True) (t4 :: us)):=HX.rgT (pre:=[]) HG5.out (1+v)
 clear cA hb4 HW HG3 hL hM HG4
 go_upto_region 8 with fail
 try rw [eV]
 clear eV c3 f3 hmx
 go_upto_region 9 with fail
 obtain⟨W6,eW6⟩:∃ W,V.setCell N3¢1 (zU (1+v))=W:=⟨_,rfl⟩
 rw [eW6] at HG6 ⊢
 clear eW6 c1 f1 HG5
 have cT:=QT HK.out HG6.out.S Z02 (by decide +kernel) k4
 clear k4
 go_wp2_with fail
 refine cT.mono ?_
 rintro e w7 ⟨rfl,hs,hm⟩
 have HG7:=(HG6.out.mv hm hs).hid
 have HV:Hid (0≤v∧v < 6):=⟨hv0,hv6⟩
 clear cT hs hm HG6 hv0 hv6
 have HK6:Hid (t6.x=ZN):=k6
 clear k6
 unfold pInit at hq
 by_cases hmi:pIs Zm us=true
 ·rw [if_pos hmi] at hq
  obtain⟨t5,u5,r5,rfl⟩:∃ t u r,us=t :: u :: r:=by
   match us,hq with
   | t :: u :: r,_=>exact⟨t,u,r,rfl⟩
  simp only at hq
  by_cases hk3:u5.k=3
  ·rw [if_pos hk3] at hq
   cases hl:pLit (u5 :: r5) with
   | none=>rw [hl] at hq; cases hq
   | some q1 =>
    rw [hl] at hq
    cases hq
    obtain⟨u,eu,hval,hq1⟩:=pLit_inv hl
    cases eu
    simp only at hq2
    have HT5:Hid (RgT t5):=(HG7.out.S.ok HK.out.k).r
    have cN:=Qt HG7.out.S
    have hf:=fun v=>QF t5 v
    clear hl
    go_wp2_with fail
    refine cN.mono ?_
    rintro e w8 ⟨rfl,hb8⟩
    have HG8:=(HG7.out.on hb8).hid
    have cI:=is_l HK.out HG8.out.S Zm (by decide +kernel) hmi
    clear cN hb8 HG7 hmi
    go_wp2_with fail
    refine cI.mono ?_
    rintro e w9 ⟨rfl,hb9⟩
    have HG9:=(HG8.out.on hb9).hid
    obtain⟨i,c3,f3,hmx,hL,hM,_,_⟩:=HG9.out.S.at'
    obtain⟨V2,eV⟩:∃ V,w9.setCell b¢3 (zI ((i:Int)+1))=V:=⟨_,rfl⟩
    rw [eV] at hL hM
    have HGa:=(HG9.out.mv hM hL).hid
    have cN:=Qt HGa.out.S
    have hf0:=fun v=>field82_0 u5 v
    rw [hk3] at hf0
    clear cI hb9 HG8 hL hM HG9
    go_upto_region 14 with fail
    try rw [eV]
    clear eV c3 f3 hmx
    go_wp2_with fail
    refine cN.mono ?_
    rintro e w9b ⟨rfl,hb9⟩
    have HGb:=(HGa.out.on hb9).hid
    have cL:=lit_l HK.out HGb.out.S hval
    rw [hq2,← hq1] at cL
    clear cN hb9 HGa hk3 hq1 hq2 hval
    go_wp2_with fail
    refine cL.mono ?_
    rintro e w10 ⟨⟨⟨k2,o2,ty2,n2,f2,x2,p2⟩,am2,cm2,ks2⟩,rfl,htr,hl,hs,hm⟩
    simp only [Nd.vals,Nd.h,Nd.a,Nd.c,Nd.ks,hdA]
    have HTR:Hid (Qh (Nd.mk ⟨k2,o2,ty2,n2,f2,x2,p2⟩ am2 cm2 ks2)=_):=htr
    have HLI:Hid (∀ U,Lies U (Nd.mk ⟨k2,o2,ty2,n2,f2,x2,p2⟩ am2 cm2 ks2)):=hl
    have HG10:=((HGb.out.mv hm hs).push (zW k2 o2 ty2 n2 f2 x2 am2 ks2 cm2 p2) 48).hid
    have hN:=Qd w10 (.cells (zW k2 o2 ty2 n2 f2 x2 am2 ks2 cm2 p2) 48)
    clear cL hs hm htr hl HGb
    go_upto_region 20 with fail
    obtain⟨Q,eQ⟩:∃ q,w10§=q:=⟨_,rfl⟩
    obtain⟨W,eW⟩:∃ W,w10.alloc (.cells (zW k2 o2 ty2 n2 f2 x2 am2 ks2 cm2 p2) 48)=W:=⟨_,rfl⟩
    rw [eW,eQ] at HG10 hN
    rw [eW,eQ]
    clear eW eQ
    have HQ:Hid (W.heap[Q]? = (zC (zW k2 o2 ty2 n2 f2 x2 am2 ks2 cm2 p2) 48)):=hN
    clear hN
    have x0':W.cell? Q¢0=some (zU k2):=Qa HQ.out 0
    have x1':W.cell? Q¢1=some (zU o2):=Qa HQ.out 1
    have x2':W.cell? Q¢2=some (zU ty2):=Qa HQ.out 2
    have x3':W.cell? Q¢3=some (zI n2):=Qa HQ.out 3
    have x4':W.cell? Q¢4=some (zU f2):=Qa HQ.out 4
    have x5':W.cell? Q¢5=some (.string x2):=Qa HQ.out 5
    have x6':W.cell? Q¢6=some (.slice am2 ks2.length cm2):=Qa HQ.out 6
    have x7':W.cell? Q¢7=some (zI p2):=Qa HQ.out 7
    obtain⟨av2,ac2,af2⟩:=HX.rgC (pre:=[_]) HG10.out 2 (by omega)
    obtain⟨av3,ac3,af3⟩:=HX.rgC (pre:=[_]) HG10.out 3 (by omega)
    obtain⟨av4,ac4,af4⟩:=HX.rgC (pre:=[_]) HG10.out 4 (by omega)
    obtain⟨av5,ac5,af5⟩:=HX.rgC (pre:=[_]) HG10.out 5 (by omega)
    obtain⟨av6,ac6,af6⟩:=HX.rgC (pre:=[_]) HG10.out 6 (by omega)
    obtain⟨av7,ac7,af7⟩:=HX.rgC (pre:=[_]) HG10.out 7 (by omega)
    obtain⟨av8,ac8,af8⟩:=HX.rgC (pre:=[_]) HG10.out 8 (by omega)
    obtain⟨av9,ac9,af9⟩:=HX.rgC (pre:=[_]) HG10.out 9 (by omega)
    have HH1:Hid (HX w b K ((((((((W.setCell N3¢2 (zU k2)).setCell N3¢3 (zU o2)).setCell N3¢4 (zU ty2)).setCell N3¢5 (zI n2)).setCell N3¢6 (zU f2)).setCell N3¢7 (.string x2)).setCell N3¢8 (.slice am2 ks2.length cm2)).setCell N3¢9 (zI p2)) [(Q,48,(zW k2 o2 ty2 n2 f2 x2 am2 ks2 cm2 p2)),(N3,62,(RegM.vals ⟨t2.x,(1+v),(Nd.mk ⟨k2,o2,ty2,n2,f2,x2,p2⟩ am2 cm2 ks2),t1.p⟩)),(w§,62,zc)] 0 0 (.slice none 0 0) [] (fun _=>True) (t6 :: ts')):=HX.rgM (pre:=[_]) HG10.out (Nd.mk ⟨k2,o2,ty2,n2,f2,x2,p2⟩ am2 cm2 ks2)
    clear HG10
    go_upto_region 21 with fail
    obtain⟨Y1,eY1⟩:∃ Y,((((((((W.setCell N3¢2 (zU k2)).setCell N3¢3 (zU o2)).setCell N3¢4 (zU ty2)).setCell N3¢5 (zI n2)).setCell N3¢6 (zU f2)).setCell N3¢7 (.string x2)).setCell N3¢8 (.slice am2 ks2.length cm2)).setCell N3¢9 (zI p2))=Y:=⟨_,rfl⟩
    rw [eY1] at HH1 ⊢
    clear eY1 ac2 af2 ac3 af3 ac4 af4 ac5 af5 ac6 af6 ac7 af7 ac8 af8 ac9 af9 x0' x1' x2' x3' x4' x5' x6' x7' HQ
    have hQ1:Y1.heap[Q]? = (zC (zW k2 o2 ty2 n2 f2 x2 am2 ks2 cm2 p2) 48):=(HH1.out.B _ List.mem_cons_self).1
    have x0':Y1.cell? Q¢0=some (zU k2):=Qa hQ1 0
    have x1':Y1.cell? Q¢1=some (zU o2):=Qa hQ1 1
    have x2':Y1.cell? Q¢2=some (zU ty2):=Qa hQ1 2
    have x3':Y1.cell? Q¢3=some (zI n2):=Qa hQ1 3
    have x4':Y1.cell? Q¢4=some (zU f2):=Qa hQ1 4
    have x5':Y1.cell? Q¢5=some (.string x2):=Qa hQ1 5
    have x6':Y1.cell? Q¢6=some (.slice am2 ks2.length cm2):=Qa hQ1 6
    have x7':Y1.cell? Q¢7=some (zI p2):=Qa hQ1 7
    obtain⟨av2,ac2,af2⟩:=HX.rgC (pre:=[_]) HH1.out 2 (by omega)
    obtain⟨av3,ac3,af3⟩:=HX.rgC (pre:=[_]) HH1.out 3 (by omega)
    obtain⟨av4,ac4,af4⟩:=HX.rgC (pre:=[_]) HH1.out 4 (by omega)
    obtain⟨av5,ac5,af5⟩:=HX.rgC (pre:=[_]) HH1.out 5 (by omega)
    obtain⟨av6,ac6,af6⟩:=HX.rgC (pre:=[_]) HH1.out 6 (by omega)
    obtain⟨av7,ac7,af7⟩:=HX.rgC (pre:=[_]) HH1.out 7 (by omega)
    obtain⟨av8,ac8,af8⟩:=HX.rgC (pre:=[_]) HH1.out 8 (by omega)
    obtain⟨av9,ac9,af9⟩:=HX.rgC (pre:=[_]) HH1.out 9 (by omega)
    have hlt:N3 < Y1§:=(zJ (HH1.out.B _ (List.mem_cons_of_mem _ List.mem_cons_self)).1).1
    have HH2:Hid (HX w b K ((((((((Y1.setCell N3¢2 (zU 5)).setCell N3¢3 (zU 1)).setCell N3¢4 (zU 0)).setCell N3¢5 (zI 0)).setCell N3¢6 (zU 0)).setCell N3¢7 (yQ)).setCell N3¢8 (.slice (some Y1§¢0) 1 1)).setCell N3¢9 (zI t5.p)) [(Q,48,(zW k2 o2 ty2 n2 f2 x2 am2 ks2 cm2 p2)),(N3,62,(RegM.vals ⟨t2.x,(1+v),(Nd.mk ⟨5,1,0,0,0,gE,t5.p⟩ (some Y1§¢0) 1 [(Nd.mk ⟨k2,o2,ty2,n2,f2,x2,p2⟩ am2 cm2 ks2)]),t1.p⟩)),(w§,62,zc)] 0 0 (.slice none 0 0) [] (fun _=>True) (t6 :: ts')):=HX.rgM (pre:=[_]) HH1.out (Nd.mk ⟨5,1,0,0,0,gE,t5.p⟩ (some Y1§¢0) 1 [(Nd.mk ⟨k2,o2,ty2,n2,f2,x2,p2⟩ am2 cm2 ks2)])
    have hbn:=Qc ((((((((Y1.setCell N3¢2 (zU 5)).setCell N3¢3 (zU 1)).setCell N3¢4 (zU 0)).setCell N3¢5 (zI 0)).setCell N3¢6 (zU 0)).setCell N3¢7 (yQ)).setCell N3¢8 (.slice (some Y1§¢0) 1 1)).setCell N3¢9 (zI t5.p)) (.cells (zW k2 o2 ty2 n2 f2 x2 am2 ks2 cm2 p2) 48)
    have hsz:((((((((Y1.setCell N3¢2 (zU 5)).setCell N3¢3 (zU 1)).setCell N3¢4 (zU 0)).setCell N3¢5 (zI 0)).setCell N3¢6 (zU 0)).setCell N3¢7 (yQ)).setCell N3¢8 (.slice (some Y1§¢0) 1 1)).setCell N3¢9 (zI t5.p))§=Y1§:=by simp [World.setCell]
    have hdp:=dp_new ((((((((Y1.setCell N3¢2 (zU 5)).setCell N3¢3 (zU 1)).setCell N3¢4 (zU 0)).setCell N3¢5 (zI 0)).setCell N3¢6 (zU 0)).setCell N3¢7 (yQ)).setCell N3¢8 (.slice (some Y1§¢0) 1 1)).setCell N3¢9 (zI t5.p)) (.cells (zW k2 o2 ty2 n2 f2 x2 am2 ks2 cm2 p2) 48)
    rw [hsz] at hdp
    have HH3:=(HH2.out.add (Mv.ofBelow hbn) (HH2.out.S.on hbn) hdp).hid
    clear HH2 hbn hdp hsz hQ1
    go_upto_region 23 with fail
    obtain⟨Z1,eZ1⟩:∃ Z,((((((((Y1.setCell N3¢2 (zU 5)).setCell N3¢3 (zU 1)).setCell N3¢4 (zU 0)).setCell N3¢5 (zI 0)).setCell N3¢6 (zU 0)).setCell N3¢7 (yQ)).setCell N3¢8 (.slice (some Y1§¢0) 1 1)).setCell N3¢9 (zI t5.p)).alloc (.cells (zW k2 o2 ty2 n2 f2 x2 am2 ks2 cm2 p2) 48)=Z:=⟨_,rfl⟩
    rw [eZ1] at HH3 ⊢
    clear eZ1 ac2 af2 ac3 af3 ac4 af4 ac5 af5 ac6 af6 ac7 af7 ac8 af8 ac9 af9 x0' x1' x2' x3' x4' x5' x6' x7' hlt HH1
    obtain⟨G,eG⟩:∃ q,Y1§=q:=⟨_,rfl⟩
    rw [eG] at HH3 ⊢
    clear eG
    have cT:=QT HK.out HH3.out.S ZN (by decide +kernel) HK6.out
    go_wp2_with fail
    refine cT.mono ?_
    rintro e w12 ⟨rfl,hs,hm⟩
    have HG12:=((HH3.out.mv hm hs).pop).hid
    clear cT hs hm HH3
    have HC:Hid (w12.heap[N3]? = (zC (RegM.vals ⟨t2.x,(1+v),(Nd.mk ⟨5,1,0,0,0,gE,t5.p⟩ (some G¢0) 1 [(Nd.mk ⟨k2,o2,ty2,n2,f2,x2,p2⟩ am2 cm2 ks2)]),t1.p⟩) 62)):=(HG12.out.B _ List.mem_cons_self).1
    have HO:Hid (w12.heap[w§]? = (zC zc 62)):=(HG12.out.B _ (List.mem_cons_of_mem _ List.mem_cons_self)).1
    have HF:=(HX.rowA (pre:=[_]) HG12.out (RegM.vals ⟨t2.x,(1+v),(Nd.mk ⟨5,1,0,0,0,gE,t5.p⟩ (some G¢0) 1 [(Nd.mk ⟨k2,o2,ty2,n2,f2,x2,p2⟩ am2 cm2 ks2)]),t1.p⟩)).hid
    have HR:Hid ((w12.setRow w§ (RegM.vals ⟨t2.x,(1+v),(Nd.mk ⟨5,1,0,0,0,gE,t5.p⟩ (some G¢0) 1 [(Nd.mk ⟨k2,o2,ty2,n2,f2,x2,p2⟩ am2 cm2 ks2)]),t1.p⟩)).heap[w§]? = (zC (RegM.vals ⟨t2.x,(1+v),(Nd.mk ⟨5,1,0,0,0,gE,t5.p⟩ (some G¢0) 1 [(Nd.mk ⟨k2,o2,ty2,n2,f2,x2,p2⟩ am2 cm2 ks2)]),t1.p⟩) 62)):=(HF.out.B _ (List.mem_cons_of_mem _ List.mem_cons_self)).1
    go_wp2_with (first | (refine wpList_load_row rfl 62 (.tmp 3) rfl N3 rfl 62 (RegM.vals ⟨t2.x,(1+v),(Nd.mk ⟨5,1,0,0,0,gE,t5.p⟩ (some G¢0) 1 [(Nd.mk ⟨k2,o2,ty2,n2,f2,x2,p2⟩ am2 cm2 ks2)]),t1.p⟩) (0,0) _ HC.out Tryz.underlying62 rfl QU ?_) | (refine wpList_store_row rfl 62 (.tmp 2) (.tmp 75) rfl w§ (RegM.vals ⟨t2.x,(1+v),(Nd.mk ⟨5,1,0,0,0,gE,t5.p⟩ (some G¢0) 1 [(Nd.mk ⟨k2,o2,ty2,n2,f2,x2,p2⟩ am2 cm2 ks2)]),t1.p⟩) rfl rfl 62 zc HO.out QU rfl (all11 _) ?_))
    refine bodyPost_ret (results_cell_row rfl _ _ w§ 62 (RegM.vals ⟨t2.x,(1+v),(Nd.mk ⟨5,1,0,0,0,gE,t5.p⟩ (some G¢0) 1 [(Nd.mk ⟨k2,o2,ty2,n2,f2,x2,p2⟩ am2 cm2 ks2)]),t1.p⟩) (0,0) _ rfl HR.out Tryz.underlying62 rfl QU) rfl ⟨⟨t2.x,1+v,(Nd.mk ⟨5,1,0,0,0,gE,t5.p⟩ (some G¢0) 1 [(Nd.mk ⟨k2,o2,ty2,n2,f2,x2,p2⟩ am2 cm2 ks2)]),t1.p⟩,rfl,?_,HF.out.fin.1.imp fun U hU=>⟨?_,?_,?_,?_⟩,HF.out.S,HF.out.M⟩
    ·show RegT.mk t2.x (1+v) (.mk ⟨5,1,0,0,0,gE,t5.p⟩ [Qh (Nd.mk ⟨k2,o2,ty2,n2,f2,x2,p2⟩ am2 cm2 ks2)]) t1.p=_
     rw [HTR.out]
    ·have hr5:=HT5.out
     refine .mk _ _ _ _ (rg_neg hr5.p0 hr5.p1) (by simp) (by omega) (fun i hi=>?_) (fun k hk=>by rw [List.mem_singleton.1 hk]; exact HLI.out U)
     have hi:i < 1:=hi
     obtain rfl:i=0:=by omega
     refine⟨G,0,rfl,?_⟩
     have hg:U.heap[G]? = (zC (zW k2 o2 ty2 n2 f2 x2 am2 ks2 cm2 p2) 48):=hU.2
     exact⟨Qa hg 0,Qa hg 1,Qa hg 2,Qa hg 3,Qa hg 4,Qa hg 5,Qa hg 6,Qa hg 7⟩
    ·have:=HV.out
     exact⟨by show 0≤1+v; omega,by show 1+v≤255; omega⟩
    ·exact⟨HT1.out.p0,HT1.out.p1⟩
    ·exact HT2.out.x1
  ·rw [if_neg hk3] at hq; cases hq
 ·rw [if_neg hmi] at hq
  obtain⟨u,rfl,hval,hq1⟩:=pLit_inv hq
  have hmi2:pIs Zm (u :: q.2)=false:=by simpa using hmi
  have cN:=Qt HG7.out.S
  have hf:=fun v=>QF u v
  clear hq hmi
  go_wp2_with fail
  refine cN.mono ?_
  rintro e w8 ⟨rfl,hb8⟩
  have HG8:=(HG7.out.on hb8).hid
  have cI:=is_l HK.out HG8.out.S Zm (by decide +kernel) hmi2
  clear cN hb8 HG7 hmi2
  go_wp2_with fail
  refine cI.mono ?_
  rintro e w9 ⟨rfl,hb9⟩
  have HG9:=(HG8.out.on hb9).hid
  have cL:=lit_l HK.out HG9.out.S hval
  rw [hq2,← hq1] at cL
  clear cI hb9 HG8 hq1 hq2 hval
  go_wp2_with fail
  refine cL.mono ?_
  rintro e w10 ⟨⟨⟨k2,o2,ty2,n2,f2,x2,p2⟩,am2,cm2,ks2⟩,rfl,htr,hl,hs,hm⟩
  simp only [Nd.vals,Nd.h,Nd.a,Nd.c,Nd.ks,hdA]
  have HTR:Hid (Qh (Nd.mk ⟨k2,o2,ty2,n2,f2,x2,p2⟩ am2 cm2 ks2)=_):=htr
  have HLI:Hid (∀ U,Lies U (Nd.mk ⟨k2,o2,ty2,n2,f2,x2,p2⟩ am2 cm2 ks2)):=hl
  have HG10:=((HG9.out.mv hm hs).push (zW k2 o2 ty2 n2 f2 x2 am2 ks2 cm2 p2) 48).hid
  have hN:=Qd w10 (.cells (zW k2 o2 ty2 n2 f2 x2 am2 ks2 cm2 p2) 48)
  clear cL hs hm htr hl HG9
  go_upto_region 20 with fail
  obtain⟨Q,eQ⟩:∃ q,w10§=q:=⟨_,rfl⟩
  obtain⟨W,eW⟩:∃ W,w10.alloc (.cells (zW k2 o2 ty2 n2 f2 x2 am2 ks2 cm2 p2) 48)=W:=⟨_,rfl⟩
  rw [eW,eQ] at HG10 hN
  rw [eW,eQ]
  clear eW eQ
  have HQ:Hid (W.heap[Q]? = (zC (zW k2 o2 ty2 n2 f2 x2 am2 ks2 cm2 p2) 48)):=hN
  clear hN
  have x0':W.cell? Q¢0=some (zU k2):=Qa HQ.out 0
  have x1':W.cell? Q¢1=some (zU o2):=Qa HQ.out 1
  have x2':W.cell? Q¢2=some (zU ty2):=Qa HQ.out 2
  have x3':W.cell? Q¢3=some (zI n2):=Qa HQ.out 3
  have x4':W.cell? Q¢4=some (zU f2):=Qa HQ.out 4
  have x5':W.cell? Q¢5=some (.string x2):=Qa HQ.out 5
  have x6':W.cell? Q¢6=some (.slice am2 ks2.length cm2):=Qa HQ.out 6
  have x7':W.cell? Q¢7=some (zI p2):=Qa HQ.out 7
  obtain⟨av2,ac2,af2⟩:=HX.rgC (pre:=[_]) HG10.out 2 (by omega)
  obtain⟨av3,ac3,af3⟩:=HX.rgC (pre:=[_]) HG10.out 3 (by omega)
  obtain⟨av4,ac4,af4⟩:=HX.rgC (pre:=[_]) HG10.out 4 (by omega)
  obtain⟨av5,ac5,af5⟩:=HX.rgC (pre:=[_]) HG10.out 5 (by omega)
  obtain⟨av6,ac6,af6⟩:=HX.rgC (pre:=[_]) HG10.out 6 (by omega)
  obtain⟨av7,ac7,af7⟩:=HX.rgC (pre:=[_]) HG10.out 7 (by omega)
  obtain⟨av8,ac8,af8⟩:=HX.rgC (pre:=[_]) HG10.out 8 (by omega)
  obtain⟨av9,ac9,af9⟩:=HX.rgC (pre:=[_]) HG10.out 9 (by omega)
  have HH1:Hid (HX w b K ((((((((W.setCell N3¢2 (zU k2)).setCell N3¢3 (zU o2)).setCell N3¢4 (zU ty2)).setCell N3¢5 (zI n2)).setCell N3¢6 (zU f2)).setCell N3¢7 (.string x2)).setCell N3¢8 (.slice am2 ks2.length cm2)).setCell N3¢9 (zI p2)) [(Q,48,(zW k2 o2 ty2 n2 f2 x2 am2 ks2 cm2 p2)),(N3,62,(RegM.vals ⟨t2.x,(1+v),(Nd.mk ⟨k2,o2,ty2,n2,f2,x2,p2⟩ am2 cm2 ks2),t1.p⟩)),(w§,62,zc)] 0 0 (.slice none 0 0) [] (fun _=>True) (t6 :: ts')):=HX.rgM (pre:=[_]) HG10.out (Nd.mk ⟨k2,o2,ty2,n2,f2,x2,p2⟩ am2 cm2 ks2)
  clear HG10
  go_upto_region 21 with fail
  obtain⟨Y1,eY1⟩:∃ Y,((((((((W.setCell N3¢2 (zU k2)).setCell N3¢3 (zU o2)).setCell N3¢4 (zU ty2)).setCell N3¢5 (zI n2)).setCell N3¢6 (zU f2)).setCell N3¢7 (.string x2)).setCell N3¢8 (.slice am2 ks2.length cm2)).setCell N3¢9 (zI p2))=Y:=⟨_,rfl⟩
  rw [eY1] at HH1 ⊢
  clear eY1 ac2 af2 ac3 af3 ac4 af4 ac5 af5 ac6 af6 ac7 af7 ac8 af8 ac9 af9 x0' x1' x2' x3' x4' x5' x6' x7' HQ
  have cT:=QT HK.out HH1.out.S ZN (by decide +kernel) HK6.out
  go_wp2_with fail
  refine cT.mono ?_
  rintro e w12 ⟨rfl,hs,hm⟩
  have HG12:=((HH1.out.mv hm hs).pop).hid
  clear cT hs hm HH1
  have HC:Hid (w12.heap[N3]? = (zC (RegM.vals ⟨t2.x,(1+v),(Nd.mk ⟨k2,o2,ty2,n2,f2,x2,p2⟩ am2 cm2 ks2),t1.p⟩) 62)):=(HG12.out.B _ List.mem_cons_self).1
  have HO:Hid (w12.heap[w§]? = (zC zc 62)):=(HG12.out.B _ (List.mem_cons_of_mem _ List.mem_cons_self)).1
  have HF:=(HX.rowA (pre:=[_]) HG12.out (RegM.vals ⟨t2.x,(1+v),(Nd.mk ⟨k2,o2,ty2,n2,f2,x2,p2⟩ am2 cm2 ks2),t1.p⟩)).hid
  have HR:Hid ((w12.setRow w§ (RegM.vals ⟨t2.x,(1+v),(Nd.mk ⟨k2,o2,ty2,n2,f2,x2,p2⟩ am2 cm2 ks2),t1.p⟩)).heap[w§]? = (zC (RegM.vals ⟨t2.x,(1+v),(Nd.mk ⟨k2,o2,ty2,n2,f2,x2,p2⟩ am2 cm2 ks2),t1.p⟩) 62)):=(HF.out.B _ (List.mem_cons_of_mem _ List.mem_cons_self)).1
  go_wp2_with (first | (refine wpList_load_row rfl 62 (.tmp 3) rfl N3 rfl 62 (RegM.vals ⟨t2.x,(1+v),(Nd.mk ⟨k2,o2,ty2,n2,f2,x2,p2⟩ am2 cm2 ks2),t1.p⟩) (0,0) _ HC.out Tryz.underlying62 rfl QU ?_) | (refine wpList_store_row rfl 62 (.tmp 2) (.tmp 75) rfl w§ (RegM.vals ⟨t2.x,(1+v),(Nd.mk ⟨k2,o2,ty2,n2,f2,x2,p2⟩ am2 cm2 ks2),t1.p⟩) rfl rfl 62 zc HO.out QU rfl (all11 _) ?_))
  refine bodyPost_ret (results_cell_row rfl _ _ w§ 62 (RegM.vals ⟨t2.x,(1+v),(Nd.mk ⟨k2,o2,ty2,n2,f2,x2,p2⟩ am2 cm2 ks2),t1.p⟩) (0,0) _ rfl HR.out Tryz.underlying62 rfl QU) rfl ⟨⟨t2.x,1+v,(Nd.mk ⟨k2,o2,ty2,n2,f2,x2,p2⟩ am2 cm2 ks2),t1.p⟩,rfl,?_,HF.out.fin.1.imp fun U hU=>⟨HLI.out U,?_,?_,?_⟩,HF.out.S,HF.out.M⟩
  ·show RegT.mk t2.x (1+v) (Qh (Nd.mk ⟨k2,o2,ty2,n2,f2,x2,p2⟩ am2 cm2 ks2)) t1.p=_
   rw [HTR.out]
  ·have:=HV.out
   exact⟨by show 0≤1+v; omega,by show 1+v≤255; omega⟩
  ·exact⟨HT1.out.p0,HT1.out.p1⟩
  ·exact HT2.out.x1
end Go.Proofs.YtoogodlnnijikaaGreatDoor
