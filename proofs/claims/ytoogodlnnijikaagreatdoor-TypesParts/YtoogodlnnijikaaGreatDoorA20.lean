import Derived.Test.YtoogodlnnijikaaGreatDoorA0
import Derived.Test.YtoogodlnnijikaaGreatDoorA18
import Derived.Test.YtoogodlnnijikaaGreatDoorA19
import Derived.Laws.Tables
import Derived.Laws.Rows
import Derived.Deep.AppendLies
namespace Go.Proofs.YtoogodlnnijikaaGreatDoor
open Go.RowKit
set_option linter.unusedVariables false
theorem RowL.tk {w:World}{v:Value}{L:List Tk}(h:RowL w v L):∃ a c,v=.slice a L.length c∧∀ j (hj:j < L.length),∃ G,a=some ⟨G,0,none⟩∧v.ownBlock=some G∧TkC w G (0+j * 5) L[j]:=by
 obtain⟨a,c,e,h1,h2⟩:=Row.form h
 refine⟨a,c,e,fun j hj=>?_⟩
 obtain⟨G,eG⟩:=h1 (by omega)
 subst eG e
 refine⟨G,rfl,rfl,?_⟩
 have key:∀ i,i < 5→w.cell? ⟨G,0+j * 5+i,none⟩=some (tkF (lsF L) (j * 5+i)):=fun i hi=>by
  have:=Row.cell h (j:=j * 5+i) (by omega)
  rw [show 0+j * 5+i=j * 5+i by omega]
  exact this
 have e1:lsF L j=L[j]:=by
  unfold lsF
  rw [List.getD_eq_getElem?_getD,List.getElem?_eq_getElem hj]
  rfl
 have f:∀ i,i < 5→tkF (lsF L) (j * 5+i)=if i=0 then zU L[j].k else if i=1 then .string L[j].x else if i=2 then zU L[j].ty else if i=3 then zI L[j].n else zI L[j].p:=fun i hi=>by
  unfold tkF
  rw [show (j * 5+i) % 5=i by omega,show (j * 5+i) / 5=j by omega,e1]
 refine⟨?_,?_,?_,?_,?_⟩
 ·have:=key 0 (by omega); rw [f 0 (by omega)] at this; exact this
 ·have:=key 1 (by omega); rw [f 1 (by omega)] at this; exact this
 ·have:=key 2 (by omega); rw [f 2 (by omega)] at this; exact this
 ·have:=key 3 (by omega); rw [f 3 (by omega)] at this; exact this
 ·have:=key 4 (by omega); rw [f 4 (by omega)] at this; exact this
def OutB (s:ByteArray) (w:World) (e:Ending) (w':World):Prop :=
 ∃ b K,e=.returned (zP b)∧w§≤b∧Sp w' b K (nf (rdT s))∧KOk K∧(∀ t ∈ K.T,Gd t)∧K.T=rdT s∧((K.lg=false∧K.be=tksE s∧K.ba=tksB s)∨(K.lg=true∧tksE s=110∧tksB s=0))∧Below w§ w w'
set_option maxRecDepth 100000 in
set_option maxHeartbeats 1000000 in
theorem begin_d (s:ByteArray) (w:World):Calls zG 25 #[.string s] w (OutB s w):=by
 by_cases hs:s.size > 4096
 ·have h1:(s.size:Int) > 4096:=by omega
  have h2:decide (4096 < (s.size:Int))=true:=decide_eq_true (by omega)
  obtain⟨r1,r2,r3⟩:=rdT_long hs
  have HR:Hid (rdT s = []∧tksE s=110∧tksB s=0):=⟨r1,r2,r3⟩
  clear r1 r2 r3 hs
  go_enter Tryz.func25,Tryz.ntmps25
  go_wp2_with fail
  go_ret
  refine⟨w§,⟨none,0,[],0,0,true⟩,rfl,Nat.le_refl _,?_,⟨fun t ht=>by simp at ht,by simp⟩,fun t ht=>by simp at ht,HR.out.1.symm,.inr ⟨rfl,HR.out.2.1,HR.out.2.2⟩,below_new _ _⟩
  rw [HR.out.1]
  exact⟨110,0,true,⟨heap_new _ _,Nat.le_refl _,by simp,fun _=>⟨rfl,rfl,rfl⟩,fun j hj=>by simp at hj⟩,.inr (.inr rfl)⟩
 ·have h1:¬ (s.size:Int) > 4096:=by omega
  have h2:decide (4096 < (s.size:Int))=false:=decide_eq_false (by omega)
  have hs':s.size≤4096:=by omega
  have cB:=rf_begin_any s (by omega) w
  have HR:Hid (rdT s=(begO s 0).1∧tksE s=(begO s 0).2.1∧tksB s=(begO s 0).2.2):=⟨rdT_beg hs',(tksB_beg hs').1,(tksB_beg hs').2⟩
  clear hs hs'
  go_enter Tryz.func25,Tryz.ntmps25
  go_wp2_with fail
  refine cB.mono ?_
  rintro e w1 ⟨v,rfl,hr⟩
  obtain⟨a,c,rfl,ht⟩:=hr.row.tk
  have HT:Hid (∀ j (hj:j < (begO s 0).1.length),∃ G,a=some ⟨G,0,none⟩∧(Value.slice a (begO s 0).1.length c).ownBlock=some G∧TkC w1 G (0+j * 5) (begO s 0).1[j]):=ht
  have HB:Hid (Below w§ w w1):=hr.B
  clear cB hr ht
  go_wp2_with fail
  go_ret
  have hL:=rdT_len s
  rw [HR.out.1] at hL
  have hn:=below_new w1 (.cells #[.slice a (begO s 0).1.length c,zI (begO s 0).2.1,zI (begO s 0).2.2,zI 0,zI 0,zI 0,.bool false] 77)
  refine⟨w1§,⟨a,c,(begO s 0).1,(begO s 0).2.1,(begO s 0).2.2,false⟩,rfl,HB.out.size,?_,⟨fun t ht=>?_,hL⟩,fun t ht=>?_,HR.out.1.symm,.inl ⟨rfl,HR.out.2.1.symm,HR.out.2.2.symm⟩,below2 HB.out hn⟩
  ·rw [HR.out.1]
   refine Lv.sp ⟨0,0,false,⟨heap_new _ _,Nat.zero_le _,by show (begO s 0).1.length≤_; omega,(fun h=>by cases h),fun j hj=>?_⟩,rfl⟩
   obtain⟨G,e1,e2,e3⟩:=HT.out j hj
   have:=e3.lt
   exact⟨G,0,e1,by omega,e3.blk (hn.block _ this)⟩
  ·exact gd_ok (rdT_gd s t (by rw [HR.out.1]; exact ht)) (rdT_rg s t (by rw [HR.out.1]; exact ht))
  ·exact rdT_gd s t (by rw [HR.out.1]; exact ht)
def dEnd:St→St
 | .ok []=>.error .lex
 | .ok (t :: ts)=>if t.k=0 then .ok (t :: ts) else .error (.tok 130 t.p)
 | .error f=>.error f
def DdX (w:World) (b:Nat) (K:PK):Ft→Prop
 | .tok no p=>∃ i,Pr w b K i no p false∧no≠0
 | .lex=>∃ i e p,Pr w b K i e p true∧(K.lg=true∨(e=K.be∧p=K.ba))
def SpX (w:World) (b:Nat) (K:PK):St→Prop
 | .ok ts=>Lv w b K ts
 | .error f=>DdX w b K f
set_option maxRecDepth 100000 in
set_option maxHeartbeats 1000000 in
theorem end_dead {w:World}{b:Nat}{K:PK}{f:Ft}(h:Dd w b K f) :
  Calls zG 53 #[zP b] w fun e w'=>e=.returned (.tuple #[])∧DdX w' b K f∧Mv w w' (fun k=>k=b):=by
 have key:∀ {i:Nat}{e p:Int}{t:Bool},Pr w b K i e p t→e≠0→Calls zG 53 #[zP b] w fun e w'=>e=.returned (.tuple #[])∧w'=w:=by
  intro i e p t h1 h2
  have cO:=over_yes h1 h2
  clear h1 h
  go_enter Tryz.func53,Tryz.ntmps53
  go_wp2_with fail
  refine cO.mono ?_
  rintro e w1 ⟨rfl,rfl⟩
  go_wp2_with fail
  exact bodyPost_ret (results_none rfl _ _ _) rfl ⟨rfl,rfl⟩
 cases f with
 | tok no p =>
  obtain⟨i,h1,h2⟩:=h
  refine (key h1 h2).mono ?_
  rintro e w' ⟨rfl,rfl⟩
  exact⟨rfl,⟨i,h1,h2⟩,Mv.refl _ _⟩
 | lex =>
  obtain⟨e,p,t,h1,h2⟩:=h
  by_cases he:e=0
  ·subst he
   clear h2 key
   have cO:=over_no h1
   have HP:=h1.hid
   have c0:w.cell? ⟨b,0,none⟩=some (.slice K.a K.T.length K.c):=cell_of h1.h 0
   have c3:w.cell? ⟨b,3,none⟩=some (zI K.T.length):=cell_of h1.h 3
   clear h1
   go_enter Tryz.func53,Tryz.ntmps53
   go_wp2_with fail
   refine cO.mono ?_
   rintro e w1 ⟨rfl,rfl⟩
   clear cO
   go_upto_region 1 with fail
   go_quiet (fail)
   obtain⟨V,eV⟩:∃ V,w1.drewN nq=V:=⟨_,rfl⟩
   have HPV:=(HP.out.blk (w':=V) (fun _ _=>by rw [← eV]; rfl)).hid
   have HMV:Hid (Mv w1 V (fun k=>k=b)):=by rw [← eV]; exact⟨rfl,rfl,rfl,Nat.le_refl _,fun _ _ _=>rfl⟩
   rw [eV]
   clear eV c0 c3 HP
   have cW:=wrong_lex HPV.out 130
   go_wp2_with fail
   refine cW.mono ?_
   rintro e w2 ⟨rfl,hp,hm⟩
   have HP2:=hp.hid
   have HM2:Hid (Mv V w2 (fun k=>k=b)):=hm
   clear cW hp hm
   go_wp2_with fail
   go_end0
   exact⟨rfl,⟨_,_,_,HP2.out,.inr ⟨rfl,rfl⟩⟩,HMV.out.trans HM2.out (fun k e=>.inl e)⟩
  ·refine (key h1 he).mono ?_
   rintro e' w' ⟨rfl,rfl⟩
   rcases h2 with h2 | ⟨h3,h4,h5⟩ | h3
   ·exact absurd h2 he
   ·subst h5
    exact⟨rfl,⟨_,_,_,h1,.inr ⟨h3,h4⟩⟩,Mv.refl _ _⟩
   ·obtain⟨_,_,h5⟩:=h1.z h3
    subst h5
    exact⟨rfl,⟨_,_,_,h1,.inl h3⟩,Mv.refl _ _⟩
set_option maxRecDepth 100000 in
set_option maxHeartbeats 1000000 in
theorem end_live {w:World}{b:Nat}{K:PK}{t:Tk}{ts:List Tk}(h:Lv w b K (t :: ts)) :
  Calls zG 53 #[zP b] w fun e w'=>e=.returned (.tuple #[])∧SpX w' b K (dEnd (.ok (t :: ts)))∧Mv w w' (fun k=>k=b):=by
 have HH:=h.hid
 obtain⟨i,p,u,h1,h2⟩:=h
 have cO:=over_no h1
 have hg:K.T[i]? = some t:=by
  have:=congrArg (fun l=>l[0]?) h2
  simp at this
  exact this.symm
 obtain⟨hi,etk⟩:=List.getElem?_eq_some_iff.1 hg
 obtain⟨G,o,ea,hn,ht⟩:=h1.r i hi
 rw [etk] at ht
 have c0:w.cell? ⟨b,0,none⟩=some (.slice (some ⟨G,o,none⟩) K.T.length K.c):=by rw [← ea]; exact cell_of h1.h 0
 have c3:w.cell? ⟨b,3,none⟩=some (zI i):=cell_of h1.h 3
 have y0:=ht.c0
 have hd:¬ (K.T.length:Int)≤(i:Int):=by omega
 have hd':decide ((K.T.length:Int)≤(i:Int))=false:=decide_eq_false hd
 have hi':(i:Int) < (K.T.length:Int):=by omega
 clear h1 h2 hg etk ea ht
 by_cases hk:t.k=0
 ·simp only [dEnd,hk,if_true]
  rw [hk] at y0
  go_enter Tryz.func53,Tryz.ntmps53
  go_wp2_with fail
  refine cO.mono ?_
  rintro e w1 ⟨rfl,rfl⟩
  clear cO
  go_upto_region 1 with fail
  go_quiet (fail)
  obtain⟨V,eV⟩:∃ V,w1.drewN nq=V:=⟨_,rfl⟩
  have HHV:=(HH.out.blk (w':=V) (fun _ _=>by rw [← eV]; rfl)).hid
  have HMV:Hid (Mv w1 V (fun k=>k=b)):=by rw [← eV]; exact⟨rfl,rfl,rfl,Nat.le_refl _,fun _ _ _=>rfl⟩
  rw [eV]
  clear eV c0 c3 y0
  go_wp2_with fail
  go_end0
  exact⟨rfl,HHV.out,HMV.out⟩
 ·simp only [dEnd,hk,if_false]
  have hk2:(t.k != 0)=true:=bne_iff_ne.2 hk
  go_enter Tryz.func53,Tryz.ntmps53
  go_wp2_with fail
  refine cO.mono ?_
  rintro e w1 ⟨rfl,rfl⟩
  clear cO
  go_upto_region 1 with fail
  go_quiet (fail)
  obtain⟨V,eV⟩:∃ V,w1.drewN nq=V:=⟨_,rfl⟩
  have HHV:=(HH.out.blk (w':=V) (fun _ _=>by rw [← eV]; rfl)).hid
  have HMV:Hid (Mv w1 V (fun k=>k=b)):=by rw [← eV]; exact⟨rfl,rfl,rfl,Nat.le_refl _,fun _ _ _=>rfl⟩
  rw [eV]
  clear eV c0 c3 y0
  have cW:=wrong_live HHV.out 130 (by decide)
  go_wp2_with fail
  refine cW.mono ?_
  rintro e w2 ⟨rfl,hp,hm⟩
  have HP2:Hid (DdX w2 b K (.tok 130 t.p)):=hp
  have HM2:Hid (Mv V w2 (fun k=>k=b)):=hm
  clear cW hp hm
  go_wp2_with fail
  go_end0
  exact⟨rfl,HP2.out,HMV.out.trans HM2.out (fun k e=>.inl e)⟩
theorem end_s {w:World}{b:Nat}{K:PK}{s:St}(h:Sp w b K s) :
  Calls zG 53 #[zP b] w fun e w'=>e=.returned (.tuple #[])∧SpX w' b K (dEnd s)∧Mv w w' (fun k=>k=b):=by
 cases s with
 | error f=>exact end_dead h
 | ok ts =>
  obtain⟨hne,hl⟩:=h
  cases ts with
  | nil=>exact absurd rfl hne
  | cons t ts=>exact end_live hl
theorem results_cc {P:Program}{fn:Func}{p u:Tmp}{ty ty2:TypeId}(h:fn.results=#[.cell p ty,.cell u ty2]) (tmps:Array Value) (w:World) (g g2:Nat) (t t2:TypeId) (cs cs2:Array Value) (fr fr2:Nat × Nat) (d d2:TypeDesc)
  (hp:tmps.getD p undef=zP g) (hg:w.heap[g]? = some (.cells cs t fr))
  (hu:P.underlying ty=some d) (hd:(match d with | .struct _ | .array _ _=>true | _=>false)=true) (hi:(P.info? ty).map (·.size)=some cs.size)
  (hp2:tmps.getD u undef=zP g2) (hg2:w.heap[g2]? = some (.cells cs2 t2 fr2))
  (hu2:P.underlying ty2=some d2) (hd2:(match d2 with | .struct _ | .array _ _=>true | _=>false)=true) (hi2:(P.info? ty2).map (·.size)=some cs2.size) :
  (results fn tmps).run P w=.ok (.tuple #[.agg cs,.agg cs2]) w:=by
 have hp':tmps[p]?.getD undef=zP g:=by simpa using hp
 have hp2':tmps[u]?.getD undef=zP g2:=by simpa using hp2
 simp [results,h,hp',hp2',asAddr,run_loadVar_row w g t ty cs fr d hg hu hd hi,run_loadVar_row w g2 t2 ty2 cs2 fr2 d2 hg2 hu2 hd2 hi2]
theorem exprT_nil:exprT []=.error .lex:=(exF_nil 26 0).1
structure RegT where
 x:ByteArray
 t:Int
 m:Tr
 p:Int
structure SlotT where
 x:ByteArray
 p:Int
structure DoT where
 k:Int
 o:Int
 x:ByteArray
 sd:Tr
 qt:Tr
 pr:Tr
 vl:Tr
 p:Int
structure RuleT where
 m:Tr
 ds:List DoT
 p:Int
structure StateT where
 x:ByteArray
 rs:List RuleT
 p:Int
structure StratT where
 x:ByteArray
 rs:List RegT
 ss:List SlotT
 ts:List StateT
def tr0:Tr:=.mk ⟨0,0,0,0,0,gE,0⟩ []
def pTake (x:ByteArray):List Tk→Option (Int × List Tk)
 | []=>none
 | t :: ts=>if t.x=x then some (t.p,ts) else none
def pName:List Tk→Option (ByteArray × List Tk)
 | []=>none
 | t :: ts=>if t.k=2 then some (t.x,ts) else none
def pIs (x:ByteArray):List Tk→Bool
 | []=>false
 | t :: _=>decide (t.x=x)
def pEx (ts:List Tk):Option (Tr × List Tk):=match exprT ts with
 | .ok q=>some q
 | .error _=>none
def pAny (L:List ByteArray):List Tk→Option (Int × List Tk)
 | []=>none
 | t :: ts=>if 0≤fnd t.x L 0 then some (fnd t.x L 0,ts) else none
def pLit:List Tk→Option (Tr × List Tk)
 | []=>none
 | t :: ts=>if (valT t).1≠0 then some (.mk ⟨1,0,(valT t).1,(valT t).2,0,gE,t.p⟩ [],ts) else none
def pInit (ts:List Tk):Option (Tr × List Tk) :=
 if pIs Zl ts=true then match ts with
  | t :: u :: r=>if u.k=3 then (pLit (u :: r)).map fun q=>(.mk ⟨5,1,0,0,0,gE,t.p⟩ [q.1],q.2) else none
  | _=>none
 else pLit ts
def pReg (ts:List Tk):Option (RegT × List Tk) :=
 (pTake ZR ts).bind fun a=>(pName a.2).bind fun b=>(pAny [Zh,Zj,Zi,Zk,ZX,ZY] b.2).bind fun c=>(pTake Z00 c.2).bind fun d=>(pInit d.2).bind fun e=>(pTake ZL e.2).bind fun f =>
  some (⟨b.1,1+c.1,e.1,a.1⟩,f.2)
def pSlot (ts:List Tk):Option (SlotT × List Tk) :=
 (pTake ZP ts).bind fun a=>(pName a.2).bind fun b=>(pTake ZL b.2).bind fun f=>some (⟨b.1,a.1⟩,f.2)
def ordX (i:Int):Int:=if i=0 then 1 else if i=1 then 3 else if i=2 then 4 else 5
def pSel (ts:List Tk):Option ((Tr × Int) × List Tk) :=
 (pAny [Zp,Zn] ts).bind fun a=>if a.1=0 then some ((tr0,2),a.2) else (pEx a.2).bind fun b=>(pAny [ZJ,ZI,ZH,ZK] b.2).bind fun c=>some ((b.1,ordX c.1),c.2)
def pAs (ts:List Tk):Option (ByteArray × List Tk):=if pIs ZM ts=true then pName ts.tail else some (gE,ts)
def pSubmit (ts:List Tk):Option (DoT × List Tk) :=
 (pTake Z5 ts).bind fun a=>(pEx a.2).bind fun b=>(pTake ZQ b.2).bind fun c=>(pEx c.2).bind fun d=>(pSel d.2).bind fun e=>(pAs e.2).bind fun f =>
  some (⟨1,e.1.2,f.1,b.1,d.1,e.1.1,tr0,a.1⟩,f.2)
def pAmend (p:Int) (ts:List Tk):Option (DoT × List Tk) :=
 (pName ts).bind fun a=>(pTake ⟨#[116,111]⟩ a.2).bind fun b=>(pEx b.2).bind fun c=>(pTake Zn c.2).bind fun d=>(pEx d.2).bind fun e =>
  some (⟨2,0,a.1,tr0,c.1,e.1,tr0,p⟩,e.2)
def pSet (p:Int) (ts:List Tk):Option (DoT × List Tk) :=
 (pName ts).bind fun a=>(pTake Z00 a.2).bind fun b=>(pEx b.2).bind fun c=>some (⟨4,0,a.1,tr0,tr0,tr0,c.1,p⟩,c.2)
def pDo:List Tk→Option (DoT × List Tk)
 | []=>none
 | t :: ts =>
  if fnd t.x [Z5,Zc,Zd,Zg,Ze,Zf] 0=0 then pSubmit (t :: ts)
  else if fnd t.x [Z5,Zc,Zd,Zg,Ze,Zf] 0=1 then pAmend t.p ts
  else if fnd t.x [Z5,Zc,Zd,Zg,Ze,Zf] 0=2 then (pName ts).bind fun a=>some (⟨3,0,a.1,tr0,tr0,tr0,tr0,t.p⟩,a.2)
  else if fnd t.x [Z5,Zc,Zd,Zg,Ze,Zf] 0=3 then pSet t.p ts
  else if fnd t.x [Z5,Zc,Zd,Zg,Ze,Zf] 0=4 then (pName ts).bind fun a=>some (⟨5,0,a.1,tr0,tr0,tr0,tr0,t.p⟩,a.2)
  else if fnd t.x [Z5,Zc,Zd,Zg,Ze,Zf] 0=5 then some (⟨6,0,gE,tr0,tr0,tr0,tr0,t.p⟩,ts)
  else none
def pDos:Nat→List Tk→Option (List DoT × List Tk)
 | 0,ts=>(pDo ts).bind fun a=>if pIs Zo a.2=true then none else some ([a.1],a.2)
 | r+1,ts=>(pDo ts).bind fun a=>if pIs Zo a.2=true then (pDos r a.2.tail).bind fun b=>some (a.1 :: b.1,b.2) else some ([a.1],a.2)
def pRule (ts:List Tk):Option (RuleT × List Tk) :=
 (pTake ZT ts).bind fun a=>(pEx a.2).bind fun b=>(pTake ⟨#[100,111]⟩ b.2).bind fun c=>(pDos 7 c.2).bind fun d=>(pTake ZL d.2).bind fun e=>some (⟨b.1,d.1,a.1⟩,e.2)
def pMany {α:Type}(x:ByteArray) (part:List Tk→Option (α × List Tk)):Nat→List Tk→Option (List α × List Tk)
 | 0,ts=>if pIs x ts=true then none else some ([],ts)
 | r+1,ts=>if pIs x ts=true then (part ts).bind fun a=>(pMany x part r a.2).bind fun b=>some (a.1 :: b.1,b.2) else some ([],ts)
def pState (ts:List Tk):Option (StateT × List Tk) :=
 (pTake ZS ts).bind fun a=>(pName a.2).bind fun b=>(pTake ZZ b.2).bind fun c=>(pMany ZT pRule 12 c.2).bind fun d=>(pTake ZU d.2).bind fun e=>some (⟨b.1,d.1,a.1⟩,e.2)
def pBody (ts:List Tk):Option (StratT × List Tk) :=
 (pTake Z03 ts).bind fun a=>(pName a.2).bind fun b=>(pTake ZZ b.2).bind fun c=>(pMany ZR pReg 12 c.2).bind fun d=>(pMany ZP pSlot 4 d.2).bind fun e=>(pMany ZS pState 12 e.2).bind fun f=>(pTake ZU f.2).bind fun g =>
  if f.1.length=0 then none else some (⟨b.1,d.1,e.1,f.1⟩,g.2)
def pWhole (s:ByteArray):Option StratT:=(pBody (rdT s)).bind fun a=>match a.2 with
 | []=>none
 | t :: _=>if t.k=0 then some a.1 else none
structure KG (K:PK):Prop where
 k:KOk K
 g:∀ t ∈ K.T,Gd t
theorem kw_gd {t:Tk}(h:Gd t) {x:ByteArray}(hx:(lx x.data.toList).map (·.1)=some 1∨(lx x.data.toList).map (·.1)=some 4):t.x=x→t.k=1∨t.k=4:=by
 rintro rfl
 rcases h with h | ⟨_,h2,_⟩
 ·rw [h.lk] at hx
  simp only [Option.map_some,Option.some.injEq] at hx
  exact hx
 ·exfalso
  rw [h2] at hx
  rcases hx with hx | hx <;> exact absurd hx (by decide +kernel)
theorem Lv.gd {w:World}{b:Nat}{K:PK}{t:Tk}{ts:List Tk}(h:Lv w b K (t :: ts)) (hK:KG K):Gd t:=hK.g t (h.mem t (by simp))
set_option maxRecDepth 100000 in
theorem many_ok {w:World}{b:Nat}{K:PK}{t:Tk}{ts:List Tk}(h:Lv w b K (t :: ts)) (n m:Nat) (hn:n < m) (hm:m≤1000) :
  Calls zG 58 #[zP b,zI n,zI m] w fun e w'=>e=.returned (.bool true)∧w'=w:=by
 obtain⟨i,p,u,h1,h2⟩:=h
 have cO:=over_no h1
 have h3:¬ (m:Int)≤(n:Int):=by omega
 have h4:decide ((m:Int)≤(n:Int))=false:=decide_eq_false h3
 clear h1 h2
 go_enter Tryz.func58,Tryz.ntmps58
 go_wp2_with fail
 refine cO.mono ?_
 rintro e w1 ⟨rfl,rfl⟩
 go_wp2_with fail
 go_ret
 exact⟨rfl,rfl⟩
theorem setRow_oth (V:World) (N:Nat) (cs:Array Value) {k:Nat}(h:k≠N):(V.setRow N cs).heap[k]? = V.heap[k]?:=by
 unfold World.setRow
 simp [Array.getElem?_modify,Ne.symm h]
theorem fold_size (n:Nat):∀ (l:List Value) (k:Nat) (a:Array Value),((l.zipIdx k).foldl (fun cs (q:Value × Nat)=>cs.setIfInBounds (0 * n+q.2) q.1) a).size=a.size
 | [],k,a=>rfl
 | c :: l,k,a=>by
  simp only [List.zipIdx_cons,List.foldl_cons]
  rw [fold_size n l (k+1)]
  simp
theorem fold_get (n:Nat):∀ (l:List Value) (k:Nat) (a:Array Value) (i:Nat),i < a.size→((l.zipIdx k).foldl (fun cs (q:Value × Nat)=>cs.setIfInBounds (0 * n+q.2) q.1) a)[i]? = if k≤i∧i < k+l.length then l[i - k]? else a[i]?
 | [],k,a,i,hi=>by
  rw [if_neg (by simp)]
  rfl
 | c :: l,k,a,i,hi=>by
  simp only [List.zipIdx_cons,List.foldl_cons]
  rw [fold_get n l (k+1) _ i (by simpa using hi)]
  simp only [List.length_cons,Nat.zero_mul,Nat.zero_add]
  by_cases h1:k+1≤i∧i < k+1+l.length
  ·rw [if_pos h1,if_pos (by omega),show i - k=(i - (k+1))+1 by omega]
   rfl
  ·rw [if_neg h1,Array.getElem?_setIfInBounds]
   by_cases h2:k=i
   ·subst h2
    rw [if_pos rfl,if_pos hi,if_pos (by omega),Nat.sub_self]
    rfl
   ·rw [if_neg h2,if_neg (by omega)]
theorem fold_all (n:Nat) (cs a:Array Value) (h:a.size=cs.size):cs.zipIdx.foldl (fun (x:Array Value) (q:Value × Nat)=>x.setIfInBounds (0 * n+q.2) q.1) a=cs:=by
 obtain⟨l⟩:=cs
 simp only [List.size_toArray] at h
 have e:(Array.mk l).zipIdx.foldl (fun (x:Array Value) (q:Value × Nat)=>x.setIfInBounds (0 * n+q.2) q.1) a=(l.zipIdx 0).foldl (fun (x:Array Value) (q:Value × Nat)=>x.setIfInBounds (0 * n+q.2) q.1) a:=by
  rw [← Array.foldl_toList]
  simp
 rw [e]
 apply Array.ext_getElem?
 intro i
 by_cases hi:i < a.size
 ·rw [fold_get n l 0 a i hi,if_pos (by omega)]
  simp
 ·rw [Array.getElem?_eq_none (by rw [fold_size]; omega),Array.getElem?_eq_none (by simp; omega)]
theorem wpList_slice1 {w:World}{ops:Array Oper}{rest:List Oper}{o:Oper}{a:Act}{Q:Exit→Act→World→Prop}(hgd:o.guard=none) (t e:TypeId) (x:Operand) (ho:o.op=.buildSlice t 1 #[(0,x)])
  (cs:Array Value) (hx:a.eval x=.agg cs) (n:Nat) (z:Value) (ht:Tryz.prog.underlying t=some (.slice e)) (by_:Nat) (hi:(Tryz.prog.info? e).map (fun i=>(i.zero,i.size,i.bytes))=some (some z,n,by_)) (hz:z.cells.size=n) (hn:cs.size=n) (h0:0 < n) (h1:n≤1000)
  (h:wpList Tryz.prog ops Q rest (a.put o.dst (.slice (some ⟨w§,0,none⟩) 1 1)) (w.alloc (.cells cs e))):wpList Tryz.prog ops Q (o :: rest) a w:=by
 refine wpList_plain hgd fun Kk hK=>?_
 obtain⟨i0,hi0,hz0,hz1,hz2⟩:=info_parts hi
 have hu:=run_underlying ht w
 have hf:Instr.fill (fun i=>some (i * n,n)) ((Array.range (1 * n)).map (z.cells[· % z.cells.size]!)) [(0,.agg cs)]=some cs:=by
  obtain⟨A,hA⟩:∃ A,(Array.range (1 * n)).map (z.cells[· % z.cells.size]!)=A:=⟨_,rfl⟩
  have hAs:A.size=n:=by rw [← hA]; simp
  rw [hA]
  have e3:Instr.fill (fun i=>some (i * n,n)) A [(0,.agg cs)]=if (decide (cs.size≠n) || decide (0 * n+cs.size > A.size))=true then none else some (cs.zipIdx.foldl (fun (x:Array Value) (q:Value × Nat)=>x.setIfInBounds (0 * n+q.2) q.1) A):=rfl
  rw [e3,if_neg (by simp; omega)]
  exact congrArg some (fold_all n cs _ (by omega))
 have hr:(Instr.buildSlice t 1 #[(0,.agg cs)]).run Tryz.prog w=.ok (.slice (some ⟨w§,0,none⟩) 1 1) (w.alloc (.cells cs e)):=by
  have e1:¬ n > 16777216:=by omega
  have e2:¬ n=0:=by omega
  rw [show (1 * n)=n from Nat.one_mul n] at hf
  simp [Instr.buildSlice,Sem.run_bind,hu,sizeOf,zeroValue,typeInfo,hi0,hz0,hz1,e1,e2,hf,newRow,newObj]
  rfl
 unfold Oper.wp execOp
 simp only [ho,List.map_toArray,List.map_cons,List.map_nil,hx,Sem.run_bind,hr,Result.andThen_ok]
 exact hK _ _ h
theorem owns_blk {V V':World}{e sz:Nat}{v:Value}{n:Nat}{xs:List Value}(h:V.ownsRow 0 e sz v n xs) (k:∀ g,v.ownBlock=some g→V'.heap[g]? = V.heap[g]?):V'.ownsRow 0 e sz v n xs:=by
 obtain⟨h1,h2⟩:=h
 refine⟨h1,?_⟩
 rcases h2 with h2 | ⟨g,cap,cur,hv,q1,q2,q3⟩
 ·exact .inl h2
 ·exact .inr ⟨g,cap,cur,hv,q1,(k g (by rw [hv]; rfl)).trans q2,q3⟩
def slen:Value→Nat
 | .slice _ n _=>n
 | _=>0
def B8 (i:Int):Prop:=0≤i∧i≤255
def I64 (i:Int):Prop:=-9223372036854775808≤i∧i≤9223372036854775807
def SzX (x:ByteArray):Prop:=x.size≤140737488355328
def SlAt (w:World) (n:Nat) (a:Option Addr) (c:Nat) (vs:List (Array Value)):Prop :=
 vs.length≤c∧c≤9223372036854775807∧∀ i (hi:i < vs.length),∃ b o,a=some ⟨b,o,none⟩∧∀ j,j < n→w.cell? ⟨b,o+i * n+j,none⟩=vs[i][j]?
structure RegM where
 x:ByteArray
 t:Int
 m:Nd
 p:Int
structure SlotM where
 x:ByteArray
 p:Int
structure DoM where
 k:Int
 o:Int
 x:ByteArray
 sd:Nd
 qt:Nd
 pr:Nd
 vl:Nd
 p:Int
structure RuleM where
 m:Nd
 a:Option Addr
 c:Nat
 ds:List DoM
 p:Int
structure StateM where
 x:ByteArray
 a:Option Addr
 c:Nat
 rs:List RuleM
 p:Int
structure StratM where
 x:ByteArray
 ra:Option Addr
 rc:Nat
 rs:List RegM
 sa:Option Addr
 sc:Nat
 ss:List SlotM
 ta:Option Addr
 tc:Nat
 ts:List StateM
def RegM.vals (r:RegM):Array Value:=⟨.string r.x :: zU r.t :: zU r.m.h.k :: zU r.m.h.o :: zU r.m.h.t :: zI r.m.h.n :: zU r.m.h.f :: .string r.m.h.x :: .slice r.m.a r.m.ks.length r.m.c :: zI r.m.h.p :: zI r.p :: []⟩
def SlotM.vals (r:SlotM):Array Value:=#[.string r.x,zI r.p]
def doA (k o:Int) (x:ByteArray) (s q r v:Nd) (p:Int):Array Value:=⟨zU k :: zU o :: .string x :: zU s.h.k :: zU s.h.o :: zU s.h.t :: zI s.h.n :: zU s.h.f :: .string s.h.x :: .slice s.a s.ks.length s.c :: zI s.h.p :: zU q.h.k :: zU q.h.o :: zU q.h.t :: zI q.h.n :: zU q.h.f :: .string q.h.x :: .slice q.a q.ks.length q.c :: zI q.h.p :: zU r.h.k :: zU r.h.o :: zU r.h.t :: zI r.h.n :: zU r.h.f :: .string r.h.x :: .slice r.a r.ks.length r.c :: zI r.h.p :: zU v.h.k :: zU v.h.o :: zU v.h.t :: zI v.h.n :: zU v.h.f :: .string v.h.x :: .slice v.a v.ks.length v.c :: zI v.h.p :: zI p :: []⟩
def DoM.vals (d:DoM):Array Value:=doA d.k d.o d.x d.sd d.qt d.pr d.vl d.p
def RuleM.vals (r:RuleM):Array Value:=⟨zU r.m.h.k :: zU r.m.h.o :: zU r.m.h.t :: zI r.m.h.n :: zU r.m.h.f :: .string r.m.h.x :: .slice r.m.a r.m.ks.length r.m.c :: zI r.m.h.p :: .slice r.a r.ds.length r.c :: zI r.p :: []⟩
def StateM.vals (r:StateM):Array Value:=#[.string r.x,.slice r.a r.rs.length r.c,zI r.p]
def StratM.vals (r:StratM):Array Value:=#[.string r.x,.slice r.ra r.rs.length r.rc,.slice r.sa r.ss.length r.sc,.slice r.ta r.ts.length r.tc]
def RegL (w:World) (r:RegM):Prop:=Lies w r.m∧B8 r.t∧I64 r.p∧SzX r.x
def SlotL (r:SlotM):Prop:=I64 r.p∧SzX r.x
def DoL (w:World) (d:DoM):Prop:=Lies w d.sd∧Lies w d.qt∧Lies w d.pr∧Lies w d.vl∧B8 d.k∧B8 d.o∧I64 d.p∧SzX d.x
def RuleL (w:World) (r:RuleM):Prop:=Lies w r.m∧SlAt w 36 r.a r.c (r.ds.map DoM.vals)∧(∀ d ∈ r.ds,DoL w d)∧I64 r.p
def StateL (w:World) (s:StateM):Prop:=SlAt w 10 s.a s.c (s.rs.map RuleM.vals)∧(∀ r ∈ s.rs,RuleL w r)∧I64 s.p∧SzX s.x
def StratL (w:World) (S:StratM):Prop :=
 SlAt w 11 S.ra S.rc (S.rs.map RegM.vals)∧(∀ r ∈ S.rs,RegL w r)∧SlAt w 2 S.sa S.sc (S.ss.map SlotM.vals)∧(∀ r ∈ S.ss,SlotL r)∧SlAt w 3 S.ta S.tc (S.ts.map StateM.vals)∧(∀ r ∈ S.ts,StateL w r)∧SzX S.x
def RegM.tr (r:RegM):RegT:=⟨r.x,r.t,treeOf r.m,r.p⟩
def SlotM.tr (r:SlotM):SlotT:=⟨r.x,r.p⟩
def DoM.tr (d:DoM):DoT:=⟨d.k,d.o,d.x,treeOf d.sd,treeOf d.qt,treeOf d.pr,treeOf d.vl,d.p⟩
def RuleM.tr (r:RuleM):RuleT:=⟨treeOf r.m,r.ds.map DoM.tr,r.p⟩
def StateM.tr (r:StateM):StateT:=⟨r.x,r.rs.map RuleM.tr,r.p⟩
def StratM.tr (r:StratM):StratT:=⟨r.x,r.rs.map RegM.tr,r.ss.map SlotM.tr,r.ts.map StateM.tr⟩
theorem SlAt.lt {w:World}{n:Nat}{a:Option Addr}{c:Nat}{vs:List (Array Value)}(h:SlAt w n a c vs):vs.length≤c:=h.1
theorem SlAt.on {w w':World}{n:Nat}{a:Option Addr}{c:Nat}{vs:List (Array Value)}(h:SlAt w n a c vs) (hz:∀ x ∈ vs,n≤x.size) (k:Below w§ w w'):SlAt w' n a c vs:=by
 refine⟨h.1,h.2.1,fun i hi=>?_⟩
 obtain⟨b,o,h1,h2⟩:=h.2.2 i hi
 refine⟨b,o,h1,fun j hj=>?_⟩
 have hs:=hz _ (List.getElem_mem hi)
 have h3:=h2 j hj
 rw [Array.getElem?_eq_getElem (by omega)] at h3
 rw [World.cell?_of_block (k.block b (World.block_lt_of_cell? w _ h3))]
 rw [h3,Array.getElem?_eq_getElem (by omega)]
theorem RegL.on {w w':World}{r:RegM}(h:RegL w r) (k:Below w§ w w'):RegL w' r:=⟨h.1.on k,h.2⟩
theorem DoL.on {w w':World}{r:DoM}(h:DoL w r) (k:Below w§ w w'):DoL w' r:=⟨h.1.on k,h.2.1.on k,h.2.2.1.on k,h.2.2.2.1.on k,h.2.2.2.2⟩
theorem mapz {α:Type}{f:α→Array Value}{n:Nat}(hf:∀ a,(f a).size=n) (l:List α):∀ x ∈ l.map f,n≤x.size:=by
 intro x hx
 obtain⟨a,_,rfl⟩:=List.mem_map.1 hx
 rw [hf a]
 exact Nat.le_refl _
theorem RegM.sz (r:RegM):r.vals.size=11:=rfl
theorem SlotM.sz (r:SlotM):r.vals.size=2:=rfl
theorem DoM.sz (r:DoM):r.vals.size=36:=rfl
theorem RuleM.sz (r:RuleM):r.vals.size=10:=rfl
theorem StateM.sz (r:StateM):r.vals.size=3:=rfl
theorem RuleL.on {w w':World}{r:RuleM}(h:RuleL w r) (k:Below w§ w w'):RuleL w' r:=⟨h.1.on k,h.2.1.on (mapz DoM.sz _) k,fun d hd=>(h.2.2.1 d hd).on k,h.2.2.2⟩
theorem StateL.on {w w':World}{r:StateM}(h:StateL w r) (k:Below w§ w w'):StateL w' r:=⟨h.1.on (mapz RuleM.sz _) k,fun d hd=>(h.2.1 d hd).on k,h.2.2⟩
theorem StratL.on {w w':World}{r:StratM}(h:StratL w r) (k:Below w§ w w'):StratL w' r :=
 ⟨h.1.on (mapz RegM.sz _) k,fun d hd=>(h.2.1 d hd).on k,h.2.2.1.on (mapz SlotM.sz _) k,h.2.2.2.1,h.2.2.2.2.1.on (mapz StateM.sz _) k,fun d hd=>(h.2.2.2.2.2.1 d hd).on k,h.2.2.2.2.2.2⟩
def Dp (w w':World) (F:World→Prop):Prop:=∀ U:World,(∀ k,w§≤k→k < w'§→U.heap[k]? = w'.heap[k]?)→F U
theorem Dp.imp {w w':World}{F G:World→Prop}(h:Dp w w' F) (k:∀ U,F U→G U):Dp w w' G:=fun U hU=>k U (h U hU)
theorem dp_lies {w w':World}{m:Nd}(h:Lies w' m) (k:Bkn (fun k=>w§≤k∧k < w'§) m):Dp w w' (fun U=>Lies U m):=fun U hU=>h.bkn k fun j hj=>hU j hj.1 hj.2
structure HX (w:World) (b:Nat) (K:PK) (V:World) (bs:List (Nat × Nat × Array Value)) (e sz:Nat) (v:Value) (vs:List (Array Value)) (F:World→Prop) (ts:List Tk):Prop where
 M:Mv w V (fun k=>k=b)
 B:∀ p ∈ bs,V.heap[p.1]? = some (.cells p.2.2 p.2.1 (0,0))∧w§≤p.1
 N:(bs.map (·.1)).Nodup
 R:V.ownsRow 0 e sz v vs.length (vs.map Array.toList).flatten
 Z:∀ x ∈ vs,x.size=sz
 D:∀ k,v.ownBlock=some k→w§≤k∧∀ p ∈ bs,p.1≠k
 E:∃ P:Nat→Prop,(∀ k,P k→w§≤k∧k < V§∧(∀ p ∈ bs,p.1≠k)∧v.ownBlock≠some k)∧∀ U:World,(∀ k,P k→U.heap[k]? = V.heap[k]?)→F U
 S:Lv V b K ts
 W:Lw w§ b K
theorem HX.hid {w:World}{b:Nat}{K:PK}{V:World}{bs:List (Nat × Nat × Array Value)}{e sz:Nat}{v:Value}{vs:List (Array Value)}{F:World→Prop}{ts:List Tk}(h:HX w b K V bs e sz v vs F ts):Hid (HX w b K V bs e sz v vs F ts):=h
theorem HX.new {w:World}{b:Nat}{K:PK}{ts:List Tk}(h:Lv w b K ts) (e sz:Nat):HX w b K w [] e sz (.slice none 0 0) [] (fun _=>True) ts :=
 ⟨Mv.refl _ _,(fun p hp=>by simp at hp),by simp,World.ownsRow_nil w 0 e sz,(fun p hp=>by simp at hp),(fun k hk=>by simp [Value.ownBlock] at hk),⟨fun _=>False,fun k hk=>hk.elim,fun _ _=>trivial⟩,h,h.lw⟩
theorem HX.vlt {w:World}{b:Nat}{K:PK}{V:World}{bs:List (Nat × Nat × Array Value)}{e sz:Nat}{v:Value}{vs:List (Array Value)}{F:World→Prop}{ts:List Tk}(h:HX w b K V bs e sz v vs F ts):∀ k,v.ownBlock=some k→k < V§:=fun k hk=>(World.ownsRow.lt h.R k hk).2
theorem HX.mv {w:World}{b:Nat}{K:PK}{V:World}{bs:List (Nat × Nat × Array Value)}{e sz:Nat}{v:Value}{vs:List (Array Value)}{F:World→Prop}{ts:List Tk}{V':World}{ts':List Tk}(h:HX w b K V bs e sz v vs F ts) (hm:Mv V V' (fun k=>k=b)) (hs:Lv V' b K ts'):HX w b K V' bs e sz v vs F ts':=by
 have hb:=h.W.1
 refine⟨h.M.trans hm (fun _ e=>.inl e),fun p hp=>?_,h.N,owns_blk h.R fun k hk=>hm.block k (h.vlt k hk) (by have:=(h.D k hk).1; omega),h.Z,h.D,?_,hs,h.W⟩
 ·obtain⟨h1,h2⟩:=h.B p hp
  exact⟨(hm.block _ (Array.getElem?_eq_some_iff.1 h1).1 (by omega)).trans h1,h2⟩
 ·obtain⟨P,h1,h2⟩:=h.E
  refine⟨P,fun k hk=>⟨(h1 k hk).1,by have:=(h1 k hk).2.1; have:=hm.size; omega,(h1 k hk).2.2⟩,fun U hU=>h2 U fun k hk=>(hU k hk).trans (hm.block k (h1 k hk).2.1 (by have:=(h1 k hk).1; omega))⟩
theorem HX.on {w:World}{b:Nat}{K:PK}{V:World}{bs:List (Nat × Nat × Array Value)}{e sz:Nat}{v:Value}{vs:List (Array Value)}{F:World→Prop}{ts:List Tk}{V':World}(h:HX w b K V bs e sz v vs F ts) (k:Below V§ V V'):HX w b K V' bs e sz v vs F ts:=h.mv (Mv.ofBelow k) (h.S.on k)
theorem HX.drew {w:World}{b:Nat}{K:PK}{V:World}{bs:List (Nat × Nat × Array Value)}{e sz:Nat}{v:Value}{vs:List (Array Value)}{F:World→Prop}{ts:List Tk}(h:HX w b K V bs e sz v vs F ts):HX w b K V.drew bs e sz v vs F ts:=h.on ((Below.refl _ V).drew)
theorem HX.add {w:World}{b:Nat}{K:PK}{V:World}{bs:List (Nat × Nat × Array Value)}{e sz:Nat}{v:Value}{vs:List (Array Value)}{F:World→Prop}{ts:List Tk}{V':World}{ts':List Tk}{G:World→Prop}(h:HX w b K V bs e sz v vs F ts) (hm:Mv V V' (fun k=>k=b)) (hs:Lv V' b K ts') (hG:Dp V V' G):HX w b K V' bs e sz v vs (fun U=>F U∧G U) ts':=by
 have h':=h.mv hm hs
 refine⟨h'.M,h'.B,h'.N,h'.R,h'.Z,h'.D,?_,h'.S,h'.W⟩
 obtain⟨P,h1,h2⟩:=h'.E
 refine⟨fun k=>P k∨(V§≤k∧k < V'§),fun k hk=>?_,fun U hU=>⟨h2 U fun k hk=>hU k (.inl hk),hG U fun k a c=>hU k (.inr ⟨a,c⟩)⟩⟩
 rcases hk with hk | hk
 ·exact h1 k hk
 ·refine⟨by have:=h.M.size; omega,hk.2,fun p hp=>?_,fun e=>?_⟩
  ·have:=(Array.getElem?_eq_some_iff.1 (h.B p hp).1).1
   omega
  ·have:=h.vlt k e
   omega
theorem HX.imp {w:World}{b:Nat}{K:PK}{V:World}{bs:List (Nat × Nat × Array Value)}{e sz:Nat}{v:Value}{vs:List (Array Value)}{F:World→Prop}{ts:List Tk}{G:World→Prop}(h:HX w b K V bs e sz v vs F ts) (k:∀ U,F U→G U):HX w b K V bs e sz v vs G ts:=by
 obtain⟨P,h1,h2⟩:=h.E
 exact⟨h.M,h.B,h.N,h.R,h.Z,h.D,⟨P,h1,fun U hU=>k U (h2 U hU)⟩,h.S,h.W⟩
theorem HX.push {w:World}{b:Nat}{K:PK}{V:World}{bs:List (Nat × Nat × Array Value)}{e sz:Nat}{v:Value}{vs:List (Array Value)}{F:World→Prop}{ts:List Tk}(h:HX w b K V bs e sz v vs F ts) (cs:Array Value) (T:Nat):HX w b K (V.alloc (.cells cs T)) ((V§,T,cs) :: bs) e sz v vs F ts:=by
 have h':=h.on (below_new V (.cells cs T))
 refine⟨h'.M,fun p hp=>?_,?_,h'.R,h'.Z,fun k hk=>⟨(h.D k hk).1,fun p hp=>?_⟩,?_,h'.S,h'.W⟩
 ·rcases List.mem_cons.1 hp with e | e
  ·rw [e]
   exact⟨heap_new _ _,h.M.size⟩
  ·exact h'.B p e
 ·rw [List.map_cons,List.nodup_cons]
  refine⟨fun hm=>?_,h.N⟩
  obtain⟨q,hq,e⟩:=List.mem_map.1 hm
  have:=(Array.getElem?_eq_some_iff.1 (h.B q hq).1).1
  have e:q.1=V§:=e
  omega
 ·rcases List.mem_cons.1 hp with e | e
  ·rw [e]
   have:=h.vlt k hk
   show V§≠k
   omega
  ·exact (h.D k hk).2 p e
 ·obtain⟨P,h1,h2⟩:=h'.E
  obtain⟨P',g1,g2⟩:=h.E
  refine⟨P',fun k hk=>⟨(g1 k hk).1,by have:=(g1 k hk).2.1; rw [size_alloc]; omega,fun p hp=>?_,(g1 k hk).2.2.2⟩,fun U hU=>g2 U fun k hk=>(hU k hk).trans (Below.heap_alloc _ _ _ (g1 k hk).2.1)⟩
  rcases List.mem_cons.1 hp with e | e
  ·rw [e]
   have:=(g1 k hk).2.1
   show V§≠k
   omega
  ·exact (g1 k hk).2.2.1 p e
theorem HX.pop {w:World}{b:Nat}{K:PK}{V:World}{bs:List (Nat × Nat × Array Value)}{e sz:Nat}{v:Value}{vs:List (Array Value)}{F:World→Prop}{ts:List Tk}{q:Nat × Nat × Array Value}(h:HX w b K V (q :: bs) e sz v vs F ts):HX w b K V bs e sz v vs F ts:=by
 obtain⟨P,h1,h2⟩:=h.E
 have hn:=h.N
 rw [List.map_cons,List.nodup_cons] at hn
 exact⟨h.M,fun p hp=>h.B p (List.mem_cons_of_mem _ hp),hn.2,h.R,h.Z,fun k hk=>⟨(h.D k hk).1,fun p hp=>(h.D k hk).2 p (List.mem_cons_of_mem _ hp)⟩,⟨P,fun k hk=>⟨(h1 k hk).1,(h1 k hk).2.1,fun p hp=>(h1 k hk).2.2.1 p (List.mem_cons_of_mem _ hp),(h1 k hk).2.2.2⟩,h2⟩,h.S,h.W⟩
theorem HX.upd {w:World}{b:Nat}{K:PK}{V:World}{pre post:List (Nat × Nat × Array Value)}{N T:Nat}{cs:Array Value}{e sz:Nat}{v:Value}{vs:List (Array Value)}{F:World→Prop}{ts:List Tk}(h:HX w b K V (pre ++ (N,T,cs) :: post) e sz v vs F ts) {V':World}(cs':Array Value) (ho:V'.os=V.os) (ht:V'.tape=V.tape) (hu:V'.output=V.output) (hz:V'§=V§) (hn:∀ k,k≠N→V'.heap[k]? = V.heap[k]?) (hN:V'.heap[N]? = some (.cells cs' T (0,0))) :
  HX w b K V' (pre ++ (N,T,cs') :: post) e sz v vs F ts:=by
 have hw:w§≤N:=(h.B (N,T,cs) (by simp)).2
 have hf:∀ p ∈ pre ++ (N,T,cs') :: post,∃ q ∈ pre ++ (N,T,cs) :: post,q.1=p.1:=by
  intro p hp
  rcases List.mem_append.1 hp with hp | hp
  ·exact⟨p,List.mem_append.2 (.inl hp),rfl⟩
  ·rcases List.mem_cons.1 hp with hp | hp
   ·exact⟨(N,T,cs),by simp,by rw [hp]⟩
   ·exact⟨p,List.mem_append.2 (.inr (List.mem_cons_of_mem _ hp)),rfl⟩
 have hnd:=h.N
 rw [List.map_append,List.map_cons,List.nodup_append] at hnd
 have hnd2:=hnd.2.1
 rw [List.nodup_cons] at hnd2
 refine⟨⟨ho.trans h.M.os,ht.trans h.M.tape,hu.trans h.M.output,by rw [hz]; exact h.M.size,fun k hk hb=>(hn k (by omega)).trans (h.M.block k hk hb)⟩,fun p hp=>?_,by rw [List.map_append,List.map_cons]; have:=h.N; rwa [List.map_append,List.map_cons] at this,owns_blk h.R fun k hk=>hn k (fun c=>(h.D k hk).2 (N,T,cs) (by simp) c.symm),h.Z,fun k hk=>⟨(h.D k hk).1,fun p hp=>?_⟩,?_,h.S.off h.W (fun k hk=>hn k (by omega)),h.W⟩
 ·rcases List.mem_append.1 hp with hp' | hp'
  ·obtain⟨g1,g2⟩:=h.B p (List.mem_append.2 (.inl hp'))
   refine⟨(hn _ (fun c=>?_)).trans g1,g2⟩
   exact hnd.2.2 p.1 (List.mem_map.2 ⟨p,hp',rfl⟩) N (by simp) c
  ·rcases List.mem_cons.1 hp' with hp' | hp'
   ·rw [hp']
    exact⟨hN,hw⟩
   ·obtain⟨g1,g2⟩:=h.B p (List.mem_append.2 (.inr (List.mem_cons_of_mem _ hp')))
    refine⟨(hn _ (fun c=>?_)).trans g1,g2⟩
    exact hnd2.1 (List.mem_map.2 ⟨p,hp',c⟩)
 ·obtain⟨q,hq,e⟩:=hf p hp
  rw [← e]
  exact (h.D k hk).2 q hq
 ·obtain⟨P,h1,h2⟩:=h.E
  refine⟨P,fun k hk=>⟨(h1 k hk).1,by rw [hz]; exact (h1 k hk).2.1,fun p hp=>?_,(h1 k hk).2.2.2⟩,fun U hU=>h2 U fun k hk=>(hU k hk).trans (hn k (fun c=>(h1 k hk).2.2.1 (N,T,cs) (by simp) c.symm))⟩
  obtain⟨q,hq,e⟩:=hf p hp
  rw [← e]
  exact (h1 k hk).2.2.1 q hq
theorem HX.setA {w:World}{b:Nat}{K:PK}{V:World}{pre post:List (Nat × Nat × Array Value)}{N T:Nat}{cs:Array Value}{e sz:Nat}{v:Value}{vs:List (Array Value)}{F:World→Prop}{ts:List Tk}(h:HX w b K V (pre ++ (N,T,cs) :: post) e sz v vs F ts) (i:Nat) (x:Value):HX w b K (V.setCell ⟨N,i,none⟩ x) (pre ++ (N,T,cs.setIfInBounds i x) :: post) e sz v vs F ts :=
 h.upd _ rfl rfl rfl (by simp [World.setCell]) (fun k hk=>Below.heap_setCell _ _ _ _ (show k≠N from hk)) (heap_set x (h.B (N,T,cs) (by simp)).1)
theorem HX.rowA {w:World}{b:Nat}{K:PK}{V:World}{pre post:List (Nat × Nat × Array Value)}{N T:Nat}{cs:Array Value}{e sz:Nat}{v:Value}{vs:List (Array Value)}{F:World→Prop}{ts:List Tk}(h:HX w b K V (pre ++ (N,T,cs) :: post) e sz v vs F ts) (cs':Array Value):HX w b K (V.setRow N cs') (pre ++ (N,T,cs') :: post) e sz v vs F ts :=
 h.upd _ rfl rfl rfl (by unfold World.setRow; simp) (fun k hk=>setRow_oth _ _ _ hk) (setRow_heap V N cs cs' T (0,0) (h.B (N,T,cs) (by simp)).1)
def set8 (cs:Array Value) (o:Nat) (m:Nd):Array Value :=
 (((((((cs.setIfInBounds o (zU m.h.k)).setIfInBounds (o+1) (zU m.h.o)).setIfInBounds (o+2) (zU m.h.t)).setIfInBounds (o+3) (zI m.h.n)).setIfInBounds (o+4) (zU m.h.f)).setIfInBounds (o+5) (.string m.h.x)).setIfInBounds (o+6) (.slice m.a m.ks.length m.c)).setIfInBounds (o+7) (zI m.h.p)
theorem HX.nodeA {w:World}{b:Nat}{K:PK}{V:World}{pre post:List (Nat × Nat × Array Value)}{N T:Nat}{cs:Array Value}{e sz:Nat}{v:Value}{vs:List (Array Value)}{F:World→Prop}{ts:List Tk}(h:HX w b K V (pre ++ (N,T,cs) :: post) e sz v vs F ts) (o:Nat) (m:Nd) :
  HX w b K ((((((((V.setCell ⟨N,o,none⟩ (zU m.h.k)).setCell ⟨N,o+1,none⟩ (zU m.h.o)).setCell ⟨N,o+2,none⟩ (zU m.h.t)).setCell ⟨N,o+3,none⟩ (zI m.h.n)).setCell ⟨N,o+4,none⟩ (zU m.h.f)).setCell ⟨N,o+5,none⟩ (.string m.h.x)).setCell ⟨N,o+6,none⟩ (.slice m.a m.ks.length m.c)).setCell ⟨N,o+7,none⟩ (zI m.h.p)) (pre ++ (N,T,set8 cs o m) :: post) e sz v vs F ts :=
 (((((((h.setA _ _).setA _ _).setA _ _).setA _ _).setA _ _).setA _ _).setA _ _).setA _ _
theorem flat_at {sz:Nat}:∀ (vs:List (Array Value)),(∀ x ∈ vs,x.size=sz)→∀ i (hi:i < vs.length) j,j < sz→(vs.map Array.toList).flatten[i * sz+j]? = vs[i][j]?
 | [],_,i,hi,_,_=>by simp at hi
 | x :: xs,h,0,hi,j,hj=>by
  have hx:=h x (by simp)
  rw [List.map_cons,List.flatten_cons,Nat.zero_mul,Nat.zero_add,List.getElem?_append_left (by rw [Array.length_toList,hx]; exact hj)]
  simp
 | x :: xs,h,i+1,hi,j,hj=>by
  have hx:=h x (by simp)
  rw [List.map_cons,List.flatten_cons,List.getElem?_append_right (by rw [Array.length_toList,hx,Nat.succ_mul]; omega),Array.length_toList,hx,show (i+1) * sz+j - sz=i * sz+j by rw [Nat.succ_mul]; omega]
  exact flat_at xs (fun y hy=>h y (List.mem_cons_of_mem _ hy)) i (by simpa using hi) j hj
theorem HX.retire {w:World}{b:Nat}{K:PK}{V:World}{bs:List (Nat × Nat × Array Value)}{e sz:Nat}{v:Value}{vs:List (Array Value)}{F:World→Prop}{ts:List Tk}(h:HX w b K V bs e sz v vs F ts) (e' sz':Nat):∃ a c,v=.slice a vs.length c∧HX w b K V bs e' sz' (.slice none 0 0) [] (fun U=>F U∧SlAt U sz a c vs) ts:=by
 have hR:=h.R
 obtain⟨P,h1,h2⟩:=h.E
 have mk:∀ (G:World→Prop) (Q:Nat→Prop),(∀ k,Q k→w§≤k∧k < V§∧(∀ p ∈ bs,p.1≠k))→(∀ U:World,(∀ k,Q k→U.heap[k]? = V.heap[k]?)→G U)→HX w b K V bs e' sz' (.slice none 0 0) [] G ts:=fun G Q q1 q2 =>
  ⟨h.M,h.B,h.N,World.ownsRow_nil V 0 e' sz',(fun p hp=>by simp at hp),(fun k hk=>by simp [Value.ownBlock] at hk),⟨Q,fun k hk=>⟨(q1 k hk).1,(q1 k hk).2.1,(q1 k hk).2.2,by simp [Value.ownBlock]⟩,q2⟩,h.S,h.W⟩
 rcases hR.2 with ⟨rfl,h0⟩ | ⟨g,cap,cur,rfl,_,hg,hc1,hc2,hc3,hc4⟩
 ·have hv:vs = []:=List.eq_nil_of_length_eq_zero h0
  subst hv
  exact⟨none,0,rfl,mk _ P (fun k hk=>⟨(h1 k hk).1,(h1 k hk).2.1,(h1 k hk).2.2.1⟩) (fun U hU=>⟨h2 U hU,by simp,by omega,fun i hi=>by simp at hi⟩)⟩
 ·refine⟨some ⟨g,0,none⟩,cap,rfl,mk _ (fun k=>P k∨k=g) (fun k hk=>?_) (fun U hU=>⟨h2 U fun k hk=>hU k (.inl hk),hc1,by unfold maxLen at hc2; omega,fun i hi=>⟨g,0,rfl,fun j hj=>?_⟩⟩)⟩
  ·rcases hk with hk | hk
   ·exact⟨(h1 k hk).1,(h1 k hk).2.1,(h1 k hk).2.2.1⟩
   ·subst hk
    obtain⟨q1,q2⟩:=h.D k rfl
    exact⟨q1,(Array.getElem?_eq_some_iff.1 hg).1,q2⟩
  ·have hU2:U.heap[g]? = some (.cells cur e (0,0)):=(hU g (.inr rfl)).trans hg
   have hlt:i * sz+j < vs.length * sz:=by
    have:(i+1) * sz≤vs.length * sz:=Nat.mul_le_mul_right _ hi
    rw [Nat.succ_mul] at this
    omega
   rw [Nat.zero_add,cell_of hU2,← flat_at vs h.Z i hi j hj,← hc4,List.getElem?_take_of_lt hlt]
   simp
theorem app_h {w:World}{b:Nat}{K:PK}{V:World}{bs:List (Nat × Nat × Array Value)}{e sz:Nat}{v:Value}{vs:List (Array Value)}{F:World→Prop}{ts:List Tk}(hL:HX w b K V bs e sz v vs F ts) (t:TypeId) (cs:Array Value) (hcs:cs.size=sz) (h1:cs.all (·.oneCell')=true)
  (z:Value) (by_:Nat) (ht:Tryz.prog.underlying t=some (.slice e)) (hi:(Tryz.prog.info? e).map (fun i=>(i.zero,i.size,i.bytes))=some (some z,sz,by_)) (hz:z.cells.size=sz) (h0:0 < sz) (hn:vs.length≤1000) (hby:by_≤1000000)
  {ops:Array Oper}{rest:List Oper}{o:Oper}{a:Act}{Q:Exit→Act→World→Prop}(hgd:o.guard=none) (d x:Operand)
  (ho:o.op=.call { callee:=.builtin .append,args:=#[d,x],argTypes:=#[t,t] }) (hs:a.eval d=v) (hx:a.eval x=.slice (some ⟨V§,0,none⟩) 1 1)
  (h:∀ g cap w',HX w b K w' bs e sz (.slice (some ⟨g,0,none⟩) (vs.length+1) cap) (vs ++ [cs]) F ts→wpList Tryz.prog ops Q rest (a.put o.dst (.slice (some ⟨g,0,none⟩) (vs.length+1) cap)) w') :
  wpList Tryz.prog ops Q (o :: rest) a (V.alloc (.cells cs e)):=by
 obtain⟨i0,hi0,hz0,hz1,hz2⟩:=info_parts hi
 have hr:=hL.R
 have hsz:=size_alloc V (.cells cs e)
 have hby2:(vs.length+1) * by_≤140737488355328:=by
  have:(vs.length+1) * by_≤1001 * 1000000:=Nat.mul_le_mul (by omega) hby
  omega
 refine wpList_append_lies _ hgd d x t ho 0 e i0 z sz by_ ht hi0 hz0 hz1 hz2 hz h0 v vs.length _ hs (World.ownsRow.alloc hr _) ⟨V§,0,none⟩ 1 1 cs.toList hx (by simp; exact hcs) (World.news_of_block (heap_new V _)) (fun u hu=>(Array.all_eq_true_iff_forall_mem.1 h1) u (by simpa using hu)) (by decide) (by unfold maxLen; omega) hby2 (Nat.zero_le _) _ rfl ?_
 intro g cap w' h2 h3 h4 h5
 have hs3:=h3.size
 have hVw:=hL.M.size
 have old:∀ k,k < V§→v.ownBlock≠some k→w'.heap[k]? = V.heap[k]?:=fun k hk hne=>(h3.block k (by omega) (fun e=>hne e.symm)).trans (Below.heap_alloc _ _ _ hk)
 have vlow:∀ k,k < w§→v.ownBlock≠some k:=fun k hk e=>by have:=(hL.D _ e).1; omega
 refine h g cap w' ⟨?_,fun p hp=>?_,hL.N,?_,fun x hx=>?_,fun k hk=>?_,?_,?_,hL.W⟩
 ·exact (hL.M.trans (Mv.ofBelow (F:=fun k=>k=b) (below_new V (.cells cs e))) (fun _ e=>.inl e)).grown h3 (fun k e=>.inr (hL.D _ e).1)
 ·obtain⟨g1,g2⟩:=hL.B p hp
  exact⟨(old _ (Array.getElem?_eq_some_iff.1 g1).1 (fun e=>(hL.D _ e).2 p hp rfl)).trans g1,g2⟩
 ·rw [List.length_append,List.length_singleton,List.map_append,List.flatten_append]
  simpa using h2
 ·rcases List.mem_append.1 hx with hx | hx
  ·exact hL.Z x hx
  ·rw [List.mem_singleton.1 hx]; exact hcs
 ·simp [Value.ownBlock] at hk
  subst hk
  rcases h4 with h4 | h4
  ·exact hL.D _ h4
  ·refine⟨by omega,fun p hp=>?_⟩
   have:=(Array.getElem?_eq_some_iff.1 (hL.B p hp).1).1
   omega
 ·obtain⟨P,q1,q2⟩:=hL.E
  refine⟨P,fun k hk=>⟨(q1 k hk).1,by have:=(q1 k hk).2.1; omega,(q1 k hk).2.2.1,fun e=>?_⟩,fun U hU=>q2 U fun k hk=>(hU k hk).trans (old k (q1 k hk).2.1 (q1 k hk).2.2.2)⟩
  simp [Value.ownBlock] at e
  subst e
  rcases h4 with h4 | h4
  ·exact (q1 _ hk).2.2.2 h4
  ·have:=(q1 _ hk).2.1
   omega
 ·exact hL.S.off hL.W (fun k hk=>old k (by omega) (vlow k hk))
theorem HX.fin {w:World}{b:Nat}{K:PK}{V:World}{bs:List (Nat × Nat × Array Value)}{e sz:Nat}{v:Value}{vs:List (Array Value)}{F:World→Prop}{ts:List Tk}(h:HX w b K V bs e sz v vs F ts):Dp w V F∧Lv V b K ts∧Mv w V (fun k=>k=b):=by
 obtain⟨P,h1,h2⟩:=h.E
 exact⟨fun U hU=>h2 U fun k hk=>hU k (h1 k hk).1 (h1 k hk).2.1,h.S,h.M⟩
end Go.Proofs.YtoogodlnnijikaaGreatDoor
