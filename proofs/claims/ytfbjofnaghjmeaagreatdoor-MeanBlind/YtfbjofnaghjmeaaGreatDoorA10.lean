import Derived.Test.YtfbjofnaghjmeaaGreatDoorA0
import Derived.Test.YtfbjofnaghjmeaaGreatDoorA8
import Derived.Test.YtfbjofnaghjmeaaGreatDoorA9
import Derived.Test.YtfbjofnaghjmeaaGreatDoorA2
import Derived.Laws.Tables
import Derived.Laws.Rows
import Derived.Deep.AppendLies
import Derived.Test.YtfbjofnaghjmeaaGreatDoorA7
import Derived.Deep.MidRow
namespace Go.Proofs.YtfbjofnaghjmeaaGreatDoor
set_option maxHeartbeats 4000000
set_option maxRecDepth 100000
open Go.RowKit
set_option linter.unusedVariables false
theorem RowL.tk {w:yW}{v:Value}{L:List Tk}(h:RowL w v L):∃ a c,v=.slice a L.length c∧∀ j (hj:j < L.length),∃ G,a=some G¢0∧v.ownBlock=some G∧TkC w G (0+j * 5) L[j]:=by
 obtain⟨a,c,e,h1,h2⟩:=Row.form h
 refine⟨a,c,e,fun j hj=>?_⟩
 obtain⟨G,eG⟩:=h1 (by omega)
 subst eG e
 refine⟨G,rfl,rfl,?_⟩
 have key:∀ i,i < 5→w.cell? ⟨G,0+j * 5+i,none⟩=some (tkF (lsF L) (j * 5+i)):=fun i hi=>by
  have:=Row.cell h (j:=j * 5+i) (by omega)
  rw [show 0+j * 5+i=j * 5+i by omega]
  exact this
 have e1:lsF L j=L[j]:=by
  unfold lsF
  rw [List.getD_eq_getElem?_getD,List.getElem?_eq_getElem hj]
  rfl
 have f:∀ i,i < 5→tkF (lsF L) (j * 5+i)=if i=0 then zU L[j].k else if i=1 then .string L[j].x else if i=2 then zU L[j].ty else if i=3 then zI L[j].n else zI L[j].p:=fun i hi=>by
  unfold tkF
  rw [show (j * 5+i) % 5=i by omega,show (j * 5+i) / 5=j by omega,e1]
 refine⟨?_,?_,?_,?_,?_⟩
 ·have:=key 0 (by omega); rw [f 0 (by omega)] at this; exact this
 ·have:=key 1 (by omega); rw [f 1 (by omega)] at this; exact this
 ·have:=key 2 (by omega); rw [f 2 (by omega)] at this; exact this
 ·have:=key 3 (by omega); rw [f 3 (by omega)] at this; exact this
 ·have:=key 4 (by omega); rw [f 4 (by omega)] at this; exact this
theorem begin_y (s:yB) (hs:s.size≤4096) (w:yW):Calls zG 85 #[.string s] w fun e w'=>∃ b K,e=.returned (zP b)∧w§≤b∧Lv w' b K (rdT s)∧KG K∧yD w w':=by
 have h1:¬ (s.size:Int) > 4096:=by omega
 have h2:decide (4096 < (s.size:Int))=false:=decide_eq_false (by omega)
 have cB:=rf_begin_any s (by omega) w
 have HR:Hid (rdT s=(begO s 0).1):=rdT_beg hs
 clear hs
 go_enter Tryz.func85,Tryz.ntmps85
 go_wp2_with fail
 refine cB.mono ?_
 rintro e w1 ⟨v,rfl,hr⟩
 obtain⟨a,c,rfl,ht⟩:=hr.row.tk
 have HT:Hid (∀ j (hj:j < (begO s 0).1.length),∃ G,a=some G¢0∧(Value.slice a (begO s 0).1.length c).ownBlock=some G∧TkC w1 G (0+j * 5) (begO s 0).1[j]):=ht
 have HB:Hid (yD w w1):=hr.B
 clear cB hr ht
 go_wp2_with fail
 go_ret
 have hL:=rdT_len s
 rw [HR.out] at hL
 have hn:=below_new w1 (.cells #[.slice a (begO s 0).1.length c,zI (begO s 0).2.1,zI (begO s 0).2.2,zI 0,zI 0,zI 0,.bool false] 168)
 refine⟨w1§,⟨a,c,(begO s 0).1,(begO s 0).2.1,(begO s 0).2.2,false⟩,rfl,HB.out.size,?_,⟨⟨fun t ht=>?_,hL⟩,fun t ht=>?_⟩,below2 HB.out hn⟩
 ·rw [HR.out]
  refine⟨0,0,false,⟨heap_new _ _,Nat.zero_le _,by show (begO s 0).1.length≤_; omega,(fun h=>by cases h),fun j hj=>?_⟩,rfl⟩
  obtain⟨G,e1,e2,e3⟩:=HT.out j hj
  have:=e3.lt
  exact⟨G,0,e1,by omega,e3.blk (hn.block _ this)⟩
 ·exact⟨rdT_rg s t (by rw [HR.out]; exact ht)⟩
 ·exact rdT_gd s t (by rw [HR.out]; exact ht)
theorem end_y {w:yW}{b:Nat}{K:PK}{t:Tk}{ts:List Tk}(h:Lv w b K (t :: ts)) (hk:t.k=0) :
  Calls zG 143 #[zP b] w fun e w'=>e=.returned (.tuple #[])∧Lv w' b K (t :: ts)∧Mv w w' (fun k=>k=b):=by
 have HH:=h.hid
 obtain⟨i,p,u,h1,h2⟩:=h
 have cO:=over_no h1
 have hg:K.T[i]? = some t:=by
  have:=congrArg (fun l=>l[0]?) h2
  simp at this
  exact this.symm
 obtain⟨hi,etk⟩:=List.getElem?_eq_some_iff.1 hg
 obtain⟨G,o,ea,hn,ht⟩:=h1.r i hi
 rw [etk] at ht
 have c0:w.cell? b¢0=some (.slice (some G¢o) K.T.length K.c):=by rw [← ea]; exact cell_of h1.h 0
 have c3:w.cell? b¢3=some (zI i):=cell_of h1.h 3
 have y0:=ht.c0
 have hd:¬ (K.T.length:Int)≤(i:Int):=by omega
 have hd':decide ((K.T.length:Int)≤(i:Int))=false:=decide_eq_false hd
 have hi':(i:Int) < (K.T.length:Int):=by omega
 clear h1 h2 hg etk ea ht
 rw [hk] at y0
 go_enter Tryz.func143,Tryz.ntmps143
 go_wp2_with fail
 refine cO.mono ?_
 rintro e w1 ⟨rfl,rfl⟩
 clear cO
 go_upto_region 1 with fail
 go_quiet (fail)
 obtain⟨V,eV⟩:∃ V,w1.drewN nq=V:=⟨_,rfl⟩
 have HHV:=(HH.out.blk (w':=V) (fun _ _=>by rw [← eV]; rfl)).hid
 have HMV:Hid (Mv w1 V (fun k=>k=b)):=by rw [← eV]; exact⟨rfl,rfl,rfl,Nat.le_refl _,fun _ _ _=>rfl⟩
 rw [eV]
 clear eV c0 c3 y0
 go_wp2_with fail
 go_end0
 exact⟨rfl,HHV.out,HMV.out⟩
structure RegT where
 x:yB
 t:Int
 m:Tr
 p:Int
structure SlotT where
 x:yB
 p:Int
structure DoT where
 k:Int
 o:Int
 x:yB
 sd:Tr
 qt:Tr
 pr:Tr
 vl:Tr
 p:Int
structure RuleT where
 m:Tr
 ds:List DoT
 p:Int
structure StateT where
 x:yB
 rs:List RuleT
 p:Int
structure StratT where
 x:yB
 rs:List RegT
 ss:List SlotT
 ts:List StateT
def tr0:Tr:=.mk ⟨0,0,0,0,0,gE,0⟩ []
def pTake (x:yB):List Tk→Option (Int × List Tk)
 | []=>none
 | t :: ts=>if t.x=x then some (t.p,ts) else none
def pName:List Tk→Option (yB × List Tk)
 | []=>none
 | t :: ts=>if t.k=2 then some (t.x,ts) else none
def pIs (x:yB):List Tk→Bool
 | []=>false
 | t :: _=>decide (t.x=x)
def pLit:List Tk→Option (Tr × List Tk)
 | []=>none
 | t :: ts=>if t.k=3 then some (.mk ⟨1,0,t.ty,t.n,0,gE,t.p⟩ [],ts) else if t.k=1∧t.x=Zk then some (.mk ⟨1,0,6,1,0,gE,t.p⟩ [],ts) else none
def LF:List yB:=[⟨#[98,105,100]⟩,⟨#[97,115,107]⟩,⟨#[108,97,115,116]⟩,⟨#[118,111,108,117,109,101]⟩,⟨#[110,111,119]⟩,⟨#[111,112,101,110]⟩]
def LP:List yB:=[⟨#[42]⟩,⟨#[47]⟩,⟨#[37]⟩]
def LS:List yB:=[⟨#[43]⟩,Zj]
def LC:List yB:=[⟨#[61,61]⟩,⟨#[33,61]⟩,⟨#[60]⟩,⟨#[60,61]⟩,⟨#[62]⟩,⟨#[62,61]⟩]
def LU:List yB:=[Zj,⟨#[33]⟩]
def LH:List yB:=[⟨#[98,105,100]⟩,⟨#[97,115,107]⟩,⟨#[108,97,115,116]⟩]
def LA:List yB:=[⟨#[97,98,115]⟩,⟨#[109,105,110]⟩,⟨#[109,97,120]⟩]
def LT:List yB:=[Zn,Zp,Zo,Zq]
def pOne:List Tk→Option (Tr × List Tk)
 | []=>none
 | t :: ts=>if t.k=2 then some (.mk ⟨2,0,0,0,0,t.x,t.p⟩ [],ts) else if t.k=1∧0≤fnd t.x LF 0 then some (.mk ⟨3,0,0,0,fnd t.x LF 0+1,gE,t.p⟩ [],ts)
  else if t.k=1∧t.x=Zm then match ts with
   | u :: us=>if 0≤fnd u.x LH 0 then some (.mk ⟨4,0,0,0,fnd u.x LH 0+1,gE,t.p⟩ [],us) else none
   | []=>none
  else pLit (t :: ts)
def pOneC (ex:List Tk→Option (Tr × List Tk)):List Tk→Option (Tr × List Tk)
 | []=>none
 | t :: ts=>if t.k=1∧0≤fnd t.x LT 0 then match ts with
   | u :: us=>if u.x=⟨#[40]⟩ then (ex us).bind fun a=>match a.2 with
    | v :: vs=>if v.x=⟨#[41]⟩ then some (.mk ⟨9,0,1+fnd t.x LT 0,0,0,gE,t.p⟩ [a.1],vs) else none
    | []=>none
    else none
   | []=>none
  else pOne (t :: ts)
def pNo (L:List yB):List Tk→Bool
 | []=>false
 | t :: _=>fnd t.x L 0 == -1
def pUn (one:List Tk→Option (Tr × List Tk)) (ts:List Tk):Option (Tr × List Tk):=if pNo LU ts then one ts else none
def pCmp (L:List yB) (c:Int) (part:List Tk→Option (Tr × List Tk)) (ts:List Tk):Option (Tr × List Tk) :=
 (part ts).bind fun a=>if pNo L a.2 then some a else match a.2 with
  | []=>none
  | t :: us=>(part us).bind fun d=>some (.mk ⟨6,c+fnd t.x L 0,0,0,0,gE,t.p⟩ [a.1,d.1],d.2)
def pRow (L:List yB) (c:Int) (part:List Tk→Option (Tr × List Tk)) (ts:List Tk):Option (Tr × List Tk) :=
 (part ts).bind fun a=>if pNo L a.2 then some a else match a.2 with
  | []=>none
  | t :: us=>(part us).bind fun d=>if pNo L d.2 then some (.mk ⟨6,c+fnd t.x L 0,0,0,0,gE,t.p⟩ [a.1,d.1],d.2) else none
def pNone (L:List yB) (part:List Tk→Option (Tr × List Tk)) (ts:List Tk):Option (Tr × List Tk) :=
 (part ts).bind fun a=>if pNo L a.2 then some a else none
def pLvl (one:List Tk→Option (Tr × List Tk)) (ts:List Tk):Option (Tr × List Tk) :=
 pNone [Zh] (pNone [Zf] (pRow [Z7] 17 (pCmp LC 11 (pRow LS 6 (pRow LP 8 (pUn one)))))) ts
def pEx (ts:List Tk):Option (Tr × List Tk):=pLvl (pOneC (pLvl pOne)) ts
def pAny (L:List yB):List Tk→Option (Int × List Tk)
 | []=>none
 | t :: ts=>if 0≤fnd t.x L 0 then some (fnd t.x L 0,ts) else none
def pInit (ts:List Tk):Option (Tr × List Tk):=if pIs Zj ts=true then none else pLit ts
def pReg (ts:List Tk):Option (RegT × List Tk) :=
 (pTake Zb ts).bind fun a=>(pName a.2).bind fun b=>(pAny zx b.2).bind fun c=>(pTake Zi c.2).bind fun d=>(pInit d.2).bind fun e=>(pTake Z9 e.2).bind fun f =>
  some (⟨b.1,1+c.1,e.1,a.1⟩,f.2)
def pSlot (ts:List Tk):Option (SlotT × List Tk) :=
 (pTake Za ts).bind fun a=>(pName a.2).bind fun b=>(pTake Z9 b.2).bind fun f=>some (⟨b.1,a.1⟩,f.2)
def ordX (i:Int):Int:=if i=0 then 1 else if i=1 then 3 else if i=2 then 4 else 5
def pSubmit (ts:List Tk):Option (DoT × List Tk) :=
 (pTake Z0 ts).bind fun a=>(pEx a.2).bind fun b=>(pTake ⟨#[111,102]⟩ b.2).bind fun c=>(pEx c.2).bind fun d=>(pTake ⟨#[97,116]⟩ d.2).bind fun e=>(pEx e.2).bind fun f=>(pAny [Zu,Zt,Zs,Zv] f.2).bind fun g=>(pTake ⟨#[97,115]⟩ g.2).bind fun h=>(pName h.2).bind fun i =>
  some (⟨1,ordX g.1,i.1,b.1,d.1,f.1,tr0,a.1⟩,i.2)
def pSet (p:Int) (ts:List Tk):Option (DoT × List Tk) :=
 (pName ts).bind fun a=>(pTake Zi a.2).bind fun b=>(pEx b.2).bind fun c=>some (⟨4,0,a.1,tr0,tr0,tr0,c.1,p⟩,c.2)
def pDo:List Tk→Option (DoT × List Tk)
 | []=>none
 | t :: ts =>
  if fnd t.x zr 0=0 then pSubmit (t :: ts)
  else if fnd t.x zr 0=2 then (pName ts).bind fun a=>some (⟨3,0,a.1,tr0,tr0,tr0,tr0,t.p⟩,a.2)
  else if fnd t.x zr 0=3 then pSet t.p ts
  else if fnd t.x zr 0=4 then (pName ts).bind fun a=>some (⟨5,0,a.1,tr0,tr0,tr0,tr0,t.p⟩,a.2)
  else if fnd t.x zr 0=5 then some (⟨6,0,gE,tr0,tr0,tr0,tr0,t.p⟩,ts)
  else none
def pDos:Nat→List Tk→Option (List DoT × List Tk)
 | 0,ts=>(pDo ts).bind fun a=>if pIs Z8 a.2=true then none else some ([a.1],a.2)
 | r+1,ts=>(pDo ts).bind fun a=>if pIs Z8 a.2=true then (pDos r a.2.tail).bind fun b=>some (a.1 :: b.1,b.2) else some ([a.1],a.2)
def pRule (ts:List Tk):Option (RuleT × List Tk) :=
 (pTake Zd ts).bind fun a=>(pEx a.2).bind fun b=>(pTake ⟨#[100,111]⟩ b.2).bind fun c=>(pDos 7 c.2).bind fun d=>(pTake Z9 d.2).bind fun e=>some (⟨b.1,d.1,a.1⟩,e.2)
def pMany {α:Type}(x:yB) (part:List Tk→Option (α × List Tk)):Nat→List Tk→Option (List α × List Tk)
 | 0,ts=>if pIs x ts=true then none else some ([],ts)
 | r+1,ts=>if pIs x ts=true then (part ts).bind fun a=>(pMany x part r a.2).bind fun b=>some (a.1 :: b.1,b.2) else some ([],ts)
def pState (ts:List Tk):Option (StateT × List Tk) :=
 (pTake Zc ts).bind fun a=>(pName a.2).bind fun b=>(pTake Zg b.2).bind fun c=>(pMany Zd pRule 12 c.2).bind fun d=>(pTake Ze d.2).bind fun e=>some (⟨b.1,d.1,a.1⟩,e.2)
def pBody (ts:List Tk):Option (StratT × List Tk) :=
 (pTake Zx ts).bind fun a=>(pName a.2).bind fun b=>(pTake Zg b.2).bind fun c=>(pMany Zb pReg 12 c.2).bind fun d=>(pMany Za pSlot 4 d.2).bind fun e=>(pMany Zc pState 12 e.2).bind fun f=>(pTake Ze f.2).bind fun g =>
  if f.1.length=0 then none else some (⟨b.1,d.1,e.1,f.1⟩,g.2)
def pWhole (s:yB):Option StratT:=(pBody (rdT s)).bind fun a=>match a.2 with
 | []=>none
 | t :: _=>if t.k=0 then some a.1 else none
theorem many_ok {w:yW}{b:Nat}{K:PK}{t:Tk}{ts:List Tk}(h:Lv w b K (t :: ts)) (n m:Nat) (hn:n < m) (hm:m≤1000) :
  Calls zG 138 #[zP b,zI n,zI m] w fun e w'=>e=.returned (.bool true)∧w'=w:=by
 obtain⟨i,p,u,h1,h2⟩:=h
 have cO:=over_no h1
 have h3:¬ (m:Int)≤(n:Int):=by omega
 have h4:decide ((m:Int)≤(n:Int))=false:=decide_eq_false h3
 clear h1 h2
 go_enter Tryz.func138,Tryz.ntmps138
 go_wp2_with fail
 refine cO.mono ?_
 rintro e w1 ⟨rfl,rfl⟩
 go_wp2_with fail
 go_ret
 exact⟨rfl,rfl⟩
theorem setRow_oth (V:yW) (N:Nat) (cs:Array Value) {k:Nat}(h:k≠N):(V.setRow N cs).heap[k]? = V.heap[k]?:=by
 unfold World.setRow
 simp [Array.getElem?_modify,Ne.symm h]
theorem fold_size (n:Nat):∀ (l:List Value) (k:Nat) (a:Array Value),((l.zipIdx k).foldl (fun cs (q:Value × Nat)=>cs.setIfInBounds (0 * n+q.2) q.1) a).size=a.size
 | [],k,a=>rfl
 | c :: l,k,a=>by
  simp only [List.zipIdx_cons,List.foldl_cons]
  rw [fold_size n l (k+1)]
  simp
theorem fold_get (n:Nat):∀ (l:List Value) (k:Nat) (a:Array Value) (i:Nat),i < a.size→((l.zipIdx k).foldl (fun cs (q:Value × Nat)=>cs.setIfInBounds (0 * n+q.2) q.1) a)[i]? = if k≤i∧i < k+l.length then l[i - k]? else a[i]?
 | [],k,a,i,hi=>by
  rw [if_neg (by simp)]
  rfl
 | c :: l,k,a,i,hi=>by
  simp only [List.zipIdx_cons,List.foldl_cons]
  rw [fold_get n l (k+1) _ i (by simpa using hi)]
  simp only [List.length_cons,Nat.zero_mul,Nat.zero_add]
  by_cases h1:k+1≤i∧i < k+1+l.length
  ·rw [if_pos h1,if_pos (by omega),show i - k=(i - (k+1))+1 by omega]
   rfl
  ·rw [if_neg h1,Array.getElem?_setIfInBounds]
   by_cases h2:k=i
   ·subst h2
    rw [if_pos rfl,if_pos hi,if_pos (by omega),Nat.sub_self]
    rfl
   ·rw [if_neg h2,if_neg (by omega)]
theorem fold_all (n:Nat) (cs a:Array Value) (h:a.size=cs.size):cs.zipIdx.foldl (fun (x:Array Value) (q:Value × Nat)=>x.setIfInBounds (0 * n+q.2) q.1) a=cs:=by
 obtain⟨l⟩:=cs
 simp only [List.size_toArray] at h
 have e:(Array.mk l).zipIdx.foldl (fun (x:Array Value) (q:Value × Nat)=>x.setIfInBounds (0 * n+q.2) q.1) a=(l.zipIdx 0).foldl (fun (x:Array Value) (q:Value × Nat)=>x.setIfInBounds (0 * n+q.2) q.1) a:=by
  rw [← Array.foldl_toList]
  simp
 rw [e]
 apply Array.ext_getElem?
 intro i
 by_cases hi:i < a.size
 ·rw [fold_get n l 0 a i hi,if_pos (by omega)]
  simp
 ·rw [Array.getElem?_eq_none (by rw [fold_size]; omega),Array.getElem?_eq_none (by simp; omega)]
theorem wpList_slice1 {w:yW}{ops:Array Oper}{rest:List Oper}{o:Oper}{a:Act}{Q:Exit→Act→yW→Prop}(hgd:o.guard=none) (t e:TypeId) (x:Operand) (ho:o.op=.buildSlice t 1 #[(0,x)])
  (cs:Array Value) (hx:a.eval x=.agg cs) (n:Nat) (z:Value) (ht:Tryz.prog.underlying t=some (.slice e)) (by_:Nat) (hi:(Tryz.prog.info? e).map (fun i=>(i.zero,i.size,i.bytes))=some (some z,n,by_)) (hz:z.cells.size=n) (hn:cs.size=n) (h0:0 < n) (h1:n≤1000)
  (h:wpList Tryz.prog ops Q rest (a.put o.dst (.slice (some w§¢0) 1 1)) (w.alloc (.cells cs e))):wpList Tryz.prog ops Q (o :: rest) a w:=by
 refine wpList_plain hgd fun Kk hK=>?_
 obtain⟨i0,hi0,hz0,hz1,hz2⟩:=info_parts hi
 have hu:=run_underlying ht w
 have hf:Instr.fill (fun i=>some (i * n,n)) ((Array.range (1 * n)).map (z.cells[· % z.cells.size]!)) [(0,.agg cs)]=some cs:=by
  obtain⟨A,hA⟩:∃ A,(Array.range (1 * n)).map (z.cells[· % z.cells.size]!)=A:=⟨_,rfl⟩
  have hAs:A.size=n:=by rw [← hA]; simp
  rw [hA]
  have e3:Instr.fill (fun i=>some (i * n,n)) A [(0,.agg cs)]=if (decide (cs.size≠n) || decide (0 * n+cs.size > A.size))=true then none else some (cs.zipIdx.foldl (fun (x:Array Value) (q:Value × Nat)=>x.setIfInBounds (0 * n+q.2) q.1) A):=rfl
  rw [e3,if_neg (by simp; omega)]
  exact congrArg some (fold_all n cs _ (by omega))
 have hr:(Instr.buildSlice t 1 #[(0,.agg cs)]).run Tryz.prog w=.ok (.slice (some w§¢0) 1 1) (w.alloc (.cells cs e)):=by
  have e1:¬ n > 16777216:=by omega
  have e2:¬ n=0:=by omega
  rw [show (1 * n)=n from Nat.one_mul n] at hf
  simp [Instr.buildSlice,Sem.run_bind,hu,sizeOf,zeroValue,typeInfo,hi0,hz0,hz1,e1,e2,hf,newRow,newObj]
  rfl
 unfold Oper.wp execOp
 simp only [ho,List.map_toArray,List.map_cons,List.map_nil,hx,Sem.run_bind,hr,Result.andThen_ok]
 exact hK _ _ h
theorem owns_blk {V V':yW}{e sz:Nat}{v:Value}{n:Nat}{xs:List Value}(h:V.ownsRow 0 e sz v n xs) (k:∀ g,v.ownBlock=some g→V'.heap[g]? = V.heap[g]?):V'.ownsRow 0 e sz v n xs:=by
 obtain⟨h1,h2⟩:=h
 refine⟨h1,?_⟩
 rcases h2 with h2 | ⟨g,cap,cur,hv,q1,q2,q3⟩
 ·exact .inl h2
 ·exact .inr ⟨g,cap,cur,hv,q1,(k g (by rw [hv]; rfl)).trans q2,q3⟩
def slen:Value→Nat
 | .slice _ n _=>n
 | _=>0
def B8 (i:Int):Prop:=0≤i∧i≤255
def I64 (i:Int):Prop:=-9223372036854775808≤i∧i≤9223372036854775807
def SzX (x:yB):Prop:=x.size≤140737488355328
def SlAt (w:yW) (n:Nat) (a:Option Addr) (c:Nat) (vs:List (Array Value)):Prop :=
 vs.length≤c∧c≤9223372036854775807∧∀ i (hi:i < vs.length),∃ b o,a=some b¢o∧∀ j,j < n→w.cell? ⟨b,o+i * n+j,none⟩=vs[i][j]?
structure RegM where
 x:yB
 t:Int
 m:Nd
 p:Int
structure SlotM where
 x:yB
 p:Int
structure DoM where
 k:Int
 o:Int
 x:yB
 sd:Nd
 qt:Nd
 pr:Nd
 vl:Nd
 p:Int
structure RuleM where
 m:Nd
 a:Option Addr
 c:Nat
 ds:List DoM
 p:Int
structure StateM where
 x:yB
 a:Option Addr
 c:Nat
 rs:List RuleM
 p:Int
structure StratM where
 x:yB
 ra:Option Addr
 rc:Nat
 rs:List RegM
 sa:Option Addr
 sc:Nat
 ss:List SlotM
 ta:Option Addr
 tc:Nat
 ts:List StateM
def RegM.vals (r:RegM):Array Value:=⟨.string r.x :: zU r.t :: zU r.m.h.k :: zU r.m.h.o :: zU r.m.h.t :: zI r.m.h.n :: zU r.m.h.f :: .string r.m.h.x :: .slice r.m.a r.m.ks.length r.m.c :: zI r.m.h.p :: zI r.p :: []⟩
def SlotM.vals (r:SlotM):Array Value:=#[.string r.x,zI r.p]
def doA (k o:Int) (x:yB) (s q r v:Nd) (p:Int):Array Value:=⟨zU k :: zU o :: .string x :: zU s.h.k :: zU s.h.o :: zU s.h.t :: zI s.h.n :: zU s.h.f :: .string s.h.x :: .slice s.a s.ks.length s.c :: zI s.h.p :: zU q.h.k :: zU q.h.o :: zU q.h.t :: zI q.h.n :: zU q.h.f :: .string q.h.x :: .slice q.a q.ks.length q.c :: zI q.h.p :: zU r.h.k :: zU r.h.o :: zU r.h.t :: zI r.h.n :: zU r.h.f :: .string r.h.x :: .slice r.a r.ks.length r.c :: zI r.h.p :: zU v.h.k :: zU v.h.o :: zU v.h.t :: zI v.h.n :: zU v.h.f :: .string v.h.x :: .slice v.a v.ks.length v.c :: zI v.h.p :: zI p :: []⟩
def DoM.vals (d:DoM):Array Value:=doA d.k d.o d.x d.sd d.qt d.pr d.vl d.p
def RuleM.vals (r:RuleM):Array Value:=⟨zU r.m.h.k :: zU r.m.h.o :: zU r.m.h.t :: zI r.m.h.n :: zU r.m.h.f :: .string r.m.h.x :: .slice r.m.a r.m.ks.length r.m.c :: zI r.m.h.p :: .slice r.a r.ds.length r.c :: zI r.p :: []⟩
def StateM.vals (r:StateM):Array Value:=#[.string r.x,.slice r.a r.rs.length r.c,zI r.p]
def StratM.vals (r:StratM):Array Value:=#[.string r.x,.slice r.ra r.rs.length r.rc,.slice r.sa r.ss.length r.sc,.slice r.ta r.ts.length r.tc]
def RegL (w:yW) (r:RegM):Prop:=Lies w r.m∧B8 r.t∧I64 r.p∧SzX r.x
def SlotL (r:SlotM):Prop:=I64 r.p∧SzX r.x
def DoL (w:yW) (d:DoM):Prop:=Lies w d.sd∧Lies w d.qt∧Lies w d.pr∧Lies w d.vl∧B8 d.k∧B8 d.o∧I64 d.p∧SzX d.x
def RuleL (w:yW) (r:RuleM):Prop:=Lies w r.m∧SlAt w 36 r.a r.c (r.ds.map DoM.vals)∧(∀ d ∈ r.ds,DoL w d)∧I64 r.p
def StateL (w:yW) (s:StateM):Prop:=SlAt w 10 s.a s.c (s.rs.map RuleM.vals)∧(∀ r ∈ s.rs,RuleL w r)∧I64 s.p∧SzX s.x
def StratL (w:yW) (S:StratM):Prop :=
 SlAt w 11 S.ra S.rc (S.rs.map RegM.vals)∧(∀ r ∈ S.rs,RegL w r)∧SlAt w 2 S.sa S.sc (S.ss.map SlotM.vals)∧(∀ r ∈ S.ss,SlotL r)∧SlAt w 3 S.ta S.tc (S.ts.map StateM.vals)∧(∀ r ∈ S.ts,StateL w r)∧SzX S.x
def RegM.tr (r:RegM):RegT:=⟨r.x,r.t,treeOf r.m,r.p⟩
def SlotM.tr (r:SlotM):SlotT:=⟨r.x,r.p⟩
def DoM.tr (d:DoM):DoT:=⟨d.k,d.o,d.x,treeOf d.sd,treeOf d.qt,treeOf d.pr,treeOf d.vl,d.p⟩
def RuleM.tr (r:RuleM):RuleT:=⟨treeOf r.m,r.ds.map DoM.tr,r.p⟩
def StateM.tr (r:StateM):StateT:=⟨r.x,r.rs.map RuleM.tr,r.p⟩
def StratM.tr (r:StratM):StratT:=⟨r.x,r.rs.map RegM.tr,r.ss.map SlotM.tr,r.ts.map StateM.tr⟩
theorem SlAt.lt {w:yW}{n:Nat}{a:Option Addr}{c:Nat}{vs:List (Array Value)}(h:SlAt w n a c vs):vs.length≤c:=h.1
theorem SlAt.on {w w':yW}{n:Nat}{a:Option Addr}{c:Nat}{vs:List (Array Value)}(h:SlAt w n a c vs) (hz:∀ x ∈ vs,n≤x.size) (k:yD w w'):SlAt w' n a c vs:=by
 refine⟨h.1,h.2.1,fun i hi=>?_⟩
 obtain⟨b,o,h1,h2⟩:=h.2.2 i hi
 refine⟨b,o,h1,fun j hj=>?_⟩
 have hs:=hz _ (List.getElem_mem hi)
 have h3:=h2 j hj
 rw [Array.getElem?_eq_getElem (by omega)] at h3
 rw [World.cell?_of_block (k.block b (World.block_lt_of_cell? w _ h3))]
 rw [h3,Array.getElem?_eq_getElem (by omega)]
theorem RegL.on {w w':yW}{r:RegM}(h:RegL w r) (k:yD w w'):RegL w' r:=⟨h.1.on k,h.2⟩
theorem DoL.on {w w':yW}{r:DoM}(h:DoL w r) (k:yD w w'):DoL w' r:=⟨h.1.on k,h.2.1.on k,h.2.2.1.on k,h.2.2.2.1.on k,h.2.2.2.2⟩
theorem mapz {α:Type}{f:α→Array Value}{n:Nat}(hf:∀ a,(f a).size=n) (l:List α):∀ x ∈ l.map f,n≤x.size:=by
 intro x hx
 obtain⟨a,_,rfl⟩:=List.mem_map.1 hx
 rw [hf a]
 exact Nat.le_refl _
theorem RegM.sz (r:RegM):r.vals.size=11:=rfl
theorem SlotM.sz (r:SlotM):r.vals.size=2:=rfl
theorem DoM.sz (r:DoM):r.vals.size=36:=rfl
theorem RuleM.sz (r:RuleM):r.vals.size=10:=rfl
theorem StateM.sz (r:StateM):r.vals.size=3:=rfl
theorem RuleL.on {w w':yW}{r:RuleM}(h:RuleL w r) (k:yD w w'):RuleL w' r:=⟨h.1.on k,h.2.1.on (mapz DoM.sz _) k,fun d hd=>(h.2.2.1 d hd).on k,h.2.2.2⟩
theorem StateL.on {w w':yW}{r:StateM}(h:StateL w r) (k:yD w w'):StateL w' r:=⟨h.1.on (mapz RuleM.sz _) k,fun d hd=>(h.2.1 d hd).on k,h.2.2⟩
theorem StratL.on {w w':yW}{r:StratM}(h:StratL w r) (k:yD w w'):StratL w' r :=
 ⟨h.1.on (mapz RegM.sz _) k,fun d hd=>(h.2.1 d hd).on k,h.2.2.1.on (mapz SlotM.sz _) k,h.2.2.2.1,h.2.2.2.2.1.on (mapz StateM.sz _) k,fun d hd=>(h.2.2.2.2.2.1 d hd).on k,h.2.2.2.2.2.2⟩
def Dp (w w':yW) (F:yW→Prop):Prop:=∀ U:yW,(∀ k,w§≤k→k < w'§→U.heap[k]? = w'.heap[k]?)→F U
theorem Dp.imp {w w':yW}{F G:yW→Prop}(h:Dp w w' F) (k:∀ U,F U→G U):Dp w w' G:=fun U hU=>k U (h U hU)
structure HX (w:yW) (b:Nat) (K:PK) (V:yW) (bs:List (Nat × Nat × Array Value)) (e sz:Nat) (v:Value) (vs:List (Array Value)) (F:yW→Prop) (ts:List Tk):Prop where
 M:Mv w V (fun k=>k=b)
 B:∀ p ∈ bs,V.heap[p.1]? = some (.cells p.2.2 p.2.1 (0,0))∧w§≤p.1
 N:(bs.map (·.1)).Nodup
 R:V.ownsRow 0 e sz v vs.length (vs.map Array.toList).flatten
 Z:∀ x ∈ vs,x.size=sz
 D:∀ k,v.ownBlock=some k→w§≤k∧∀ p ∈ bs,p.1≠k
 E:∃ P:Nat→Prop,(∀ k,P k→w§≤k∧k < V§∧(∀ p ∈ bs,p.1≠k)∧v.ownBlock≠some k)∧∀ U:yW,(∀ k,P k→U.heap[k]? = V.heap[k]?)→F U
 S:Lv V b K ts
 W:Lw w§ b K
theorem HX.hid {w:yW}{b:Nat}{K:PK}{V:yW}{bs:List (Nat × Nat × Array Value)}{e sz:Nat}{v:Value}{vs:List (Array Value)}{F:yW→Prop}{ts:List Tk}(h:HX w b K V bs e sz v vs F ts):Hid (HX w b K V bs e sz v vs F ts):=h
theorem HX.new {w:yW}{b:Nat}{K:PK}{ts:List Tk}(h:Lv w b K ts) (e sz:Nat):HX w b K w [] e sz (.slice none 0 0) [] (fun _=>True) ts :=
 ⟨Mv.refl _ _,(fun p hp=>by simp at hp),by simp,World.ownsRow_nil w 0 e sz,(fun p hp=>by simp at hp),(fun k hk=>by simp [Value.ownBlock] at hk),⟨fun _=>False,fun k hk=>hk.elim,fun _ _=>trivial⟩,h,h.lw⟩
theorem HX.vlt {w:yW}{b:Nat}{K:PK}{V:yW}{bs:List (Nat × Nat × Array Value)}{e sz:Nat}{v:Value}{vs:List (Array Value)}{F:yW→Prop}{ts:List Tk}(h:HX w b K V bs e sz v vs F ts):∀ k,v.ownBlock=some k→k < V§:=fun k hk=>(World.ownsRow.lt h.R k hk).2
theorem HX.mv {w:yW}{b:Nat}{K:PK}{V:yW}{bs:List (Nat × Nat × Array Value)}{e sz:Nat}{v:Value}{vs:List (Array Value)}{F:yW→Prop}{ts:List Tk}{V':yW}{ts':List Tk}(h:HX w b K V bs e sz v vs F ts) (hm:Mv V V' (fun k=>k=b)) (hs:Lv V' b K ts'):HX w b K V' bs e sz v vs F ts':=by
 have hb:=h.W.1
 refine⟨h.M.trans hm (fun _ e=>.inl e),fun p hp=>?_,h.N,owns_blk h.R fun k hk=>hm.block k (h.vlt k hk) (by have:=(h.D k hk).1; omega),h.Z,h.D,?_,hs,h.W⟩
 ·obtain⟨h1,h2⟩:=h.B p hp
  exact⟨(hm.block _ (zJ h1).1 (by omega)).trans h1,h2⟩
 ·obtain⟨P,h1,h2⟩:=h.E
  refine⟨P,fun k hk=>⟨(h1 k hk).1,by have:=(h1 k hk).2.1; have:=hm.size; omega,(h1 k hk).2.2⟩,fun U hU=>h2 U fun k hk=>(hU k hk).trans (hm.block k (h1 k hk).2.1 (by have:=(h1 k hk).1; omega))⟩
theorem HX.on {w:yW}{b:Nat}{K:PK}{V:yW}{bs:List (Nat × Nat × Array Value)}{e sz:Nat}{v:Value}{vs:List (Array Value)}{F:yW→Prop}{ts:List Tk}{V':yW}(h:HX w b K V bs e sz v vs F ts) (k:yD V V'):HX w b K V' bs e sz v vs F ts:=h.mv (Mv.ofBelow k) (h.S.on k)
theorem HX.drew {w:yW}{b:Nat}{K:PK}{V:yW}{bs:List (Nat × Nat × Array Value)}{e sz:Nat}{v:Value}{vs:List (Array Value)}{F:yW→Prop}{ts:List Tk}(h:HX w b K V bs e sz v vs F ts):HX w b K V.drew bs e sz v vs F ts:=h.on ((Below.refl _ V).drew)
theorem HX.add {w:yW}{b:Nat}{K:PK}{V:yW}{bs:List (Nat × Nat × Array Value)}{e sz:Nat}{v:Value}{vs:List (Array Value)}{F:yW→Prop}{ts:List Tk}{V':yW}{ts':List Tk}{G:yW→Prop}(h:HX w b K V bs e sz v vs F ts) (hm:Mv V V' (fun k=>k=b)) (hs:Lv V' b K ts') (hG:Dp V V' G):HX w b K V' bs e sz v vs (fun U=>F U∧G U) ts':=by
 have h':=h.mv hm hs
 refine⟨h'.M,h'.B,h'.N,h'.R,h'.Z,h'.D,?_,h'.S,h'.W⟩
 obtain⟨P,h1,h2⟩:=h'.E
 refine⟨fun k=>P k∨(V§≤k∧k < V'§),fun k hk=>?_,fun U hU=>⟨h2 U fun k hk=>hU k (.inl hk),hG U fun k a c=>hU k (.inr ⟨a,c⟩)⟩⟩
 rcases hk with hk | hk
 ·exact h1 k hk
 ·refine⟨by have:=h.M.size; omega,hk.2,fun p hp=>?_,fun e=>?_⟩
  ·have:=(zJ (h.B p hp).1).1
   omega
  ·have:=h.vlt k e
   omega
theorem HX.imp {w:yW}{b:Nat}{K:PK}{V:yW}{bs:List (Nat × Nat × Array Value)}{e sz:Nat}{v:Value}{vs:List (Array Value)}{F:yW→Prop}{ts:List Tk}{G:yW→Prop}(h:HX w b K V bs e sz v vs F ts) (k:∀ U,F U→G U):HX w b K V bs e sz v vs G ts:=by
 obtain⟨P,h1,h2⟩:=h.E
 exact⟨h.M,h.B,h.N,h.R,h.Z,h.D,⟨P,h1,fun U hU=>k U (h2 U hU)⟩,h.S,h.W⟩
theorem HX.push {w:yW}{b:Nat}{K:PK}{V:yW}{bs:List (Nat × Nat × Array Value)}{e sz:Nat}{v:Value}{vs:List (Array Value)}{F:yW→Prop}{ts:List Tk}(h:HX w b K V bs e sz v vs F ts) (cs:Array Value) (T:Nat):HX w b K (V.alloc (.cells cs T)) ((V§,T,cs) :: bs) e sz v vs F ts:=by
 have h':=h.on (below_new V (.cells cs T))
 refine⟨h'.M,fun p hp=>?_,?_,h'.R,h'.Z,fun k hk=>⟨(h.D k hk).1,fun p hp=>?_⟩,?_,h'.S,h'.W⟩
 ·rcases List.mem_cons.1 hp with e | e
  ·rw [e]
   exact⟨heap_new _ _,h.M.size⟩
  ·exact h'.B p e
 ·rw [List.map_cons,List.nodup_cons]
  refine⟨fun hm=>?_,h.N⟩
  obtain⟨q,hq,e⟩:=List.mem_map.1 hm
  have:=(zJ (h.B q hq).1).1
  have e:q.1=V§:=e
  omega
 ·rcases List.mem_cons.1 hp with e | e
  ·rw [e]
   have:=h.vlt k hk
   show V§≠k
   omega
  ·exact (h.D k hk).2 p e
 ·obtain⟨P,h1,h2⟩:=h'.E
  obtain⟨P',g1,g2⟩:=h.E
  refine⟨P',fun k hk=>⟨(g1 k hk).1,by have:=(g1 k hk).2.1; rw [size_alloc]; omega,fun p hp=>?_,(g1 k hk).2.2.2⟩,fun U hU=>g2 U fun k hk=>(hU k hk).trans (Below.heap_alloc _ _ _ (g1 k hk).2.1)⟩
  rcases List.mem_cons.1 hp with e | e
  ·rw [e]
   have:=(g1 k hk).2.1
   show V§≠k
   omega
  ·exact (g1 k hk).2.2.1 p e
theorem HX.pop {w:yW}{b:Nat}{K:PK}{V:yW}{bs:List (Nat × Nat × Array Value)}{e sz:Nat}{v:Value}{vs:List (Array Value)}{F:yW→Prop}{ts:List Tk}{q:Nat × Nat × Array Value}(h:HX w b K V (q :: bs) e sz v vs F ts):HX w b K V bs e sz v vs F ts:=by
 obtain⟨P,h1,h2⟩:=h.E
 have hn:=h.N
 rw [List.map_cons,List.nodup_cons] at hn
 exact⟨h.M,fun p hp=>h.B p (List.mem_cons_of_mem _ hp),hn.2,h.R,h.Z,fun k hk=>⟨(h.D k hk).1,fun p hp=>(h.D k hk).2 p (List.mem_cons_of_mem _ hp)⟩,⟨P,fun k hk=>⟨(h1 k hk).1,(h1 k hk).2.1,fun p hp=>(h1 k hk).2.2.1 p (List.mem_cons_of_mem _ hp),(h1 k hk).2.2.2⟩,h2⟩,h.S,h.W⟩
theorem HX.upd {w:yW}{b:Nat}{K:PK}{V:yW}{pre post:List (Nat × Nat × Array Value)}{N T:Nat}{cs:Array Value}{e sz:Nat}{v:Value}{vs:List (Array Value)}{F:yW→Prop}{ts:List Tk}(h:HX w b K V (pre ++ (N,T,cs) :: post) e sz v vs F ts) {V':yW}(cs':Array Value) (ho:V'.os=V.os) (ht:V'.tape=V.tape) (hu:V'.output=V.output) (hz:V'§=V§) (hn:∀ k,k≠N→V'.heap[k]? = V.heap[k]?) (hN:V'.heap[N]? = (zC cs' T)) :
  HX w b K V' (pre ++ (N,T,cs') :: post) e sz v vs F ts:=by
 have hw:w§≤N:=(h.B (N,T,cs) (by simp)).2
 have hf:∀ p ∈ pre ++ (N,T,cs') :: post,∃ q ∈ pre ++ (N,T,cs) :: post,q.1=p.1:=by
  intro p hp
  rcases List.mem_append.1 hp with hp | hp
  ·exact⟨p,List.mem_append.2 (.inl hp),rfl⟩
  ·rcases List.mem_cons.1 hp with hp | hp
   ·exact⟨(N,T,cs),by simp,by rw [hp]⟩
   ·exact⟨p,List.mem_append.2 (.inr (List.mem_cons_of_mem _ hp)),rfl⟩
 have hnd:=h.N
 rw [List.map_append,List.map_cons,List.nodup_append] at hnd
 have hnd2:=hnd.2.1
 rw [List.nodup_cons] at hnd2
 refine⟨⟨ho.trans h.M.os,ht.trans h.M.tape,hu.trans h.M.output,by rw [hz]; exact h.M.size,fun k hk hb=>(hn k (by omega)).trans (h.M.block k hk hb)⟩,fun p hp=>?_,by rw [List.map_append,List.map_cons]; have:=h.N; rwa [List.map_append,List.map_cons] at this,owns_blk h.R fun k hk=>hn k (fun c=>(h.D k hk).2 (N,T,cs) (by simp) c.symm),h.Z,fun k hk=>⟨(h.D k hk).1,fun p hp=>?_⟩,?_,h.S.off h.W (fun k hk=>hn k (by omega)),h.W⟩
 ·rcases List.mem_append.1 hp with hp' | hp'
  ·obtain⟨g1,g2⟩:=h.B p (List.mem_append.2 (.inl hp'))
   refine⟨(hn _ (fun c=>?_)).trans g1,g2⟩
   exact hnd.2.2 p.1 (List.mem_map.2 ⟨p,hp',rfl⟩) N (by simp) c
  ·rcases List.mem_cons.1 hp' with hp' | hp'
   ·rw [hp']
    exact⟨hN,hw⟩
   ·obtain⟨g1,g2⟩:=h.B p (List.mem_append.2 (.inr (List.mem_cons_of_mem _ hp')))
    refine⟨(hn _ (fun c=>?_)).trans g1,g2⟩
    exact hnd2.1 (List.mem_map.2 ⟨p,hp',c⟩)
 ·obtain⟨q,hq,e⟩:=hf p hp
  rw [← e]
  exact (h.D k hk).2 q hq
 ·obtain⟨P,h1,h2⟩:=h.E
  refine⟨P,fun k hk=>⟨(h1 k hk).1,by rw [hz]; exact (h1 k hk).2.1,fun p hp=>?_,(h1 k hk).2.2.2⟩,fun U hU=>h2 U fun k hk=>(hU k hk).trans (hn k (fun c=>(h1 k hk).2.2.1 (N,T,cs) (by simp) c.symm))⟩
  obtain⟨q,hq,e⟩:=hf p hp
  rw [← e]
  exact (h1 k hk).2.2.1 q hq
theorem HX.setA {w:yW}{b:Nat}{K:PK}{V:yW}{pre post:List (Nat × Nat × Array Value)}{N T:Nat}{cs:Array Value}{e sz:Nat}{v:Value}{vs:List (Array Value)}{F:yW→Prop}{ts:List Tk}(h:HX w b K V (pre ++ (N,T,cs) :: post) e sz v vs F ts) (i:Nat) (x:Value):HX w b K (V.setCell N¢i x) (pre ++ (N,T,cs.setIfInBounds i x) :: post) e sz v vs F ts :=
 h.upd _ rfl rfl rfl (by simp [World.setCell]) (fun k hk=>Below.heap_setCell _ _ _ _ (show k≠N from hk)) (heap_set x (h.B (N,T,cs) (by simp)).1)
theorem HX.rowA {w:yW}{b:Nat}{K:PK}{V:yW}{pre post:List (Nat × Nat × Array Value)}{N T:Nat}{cs:Array Value}{e sz:Nat}{v:Value}{vs:List (Array Value)}{F:yW→Prop}{ts:List Tk}(h:HX w b K V (pre ++ (N,T,cs) :: post) e sz v vs F ts) (cs':Array Value):HX w b K (V.setRow N cs') (pre ++ (N,T,cs') :: post) e sz v vs F ts :=
 h.upd _ rfl rfl rfl (by unfold World.setRow; simp) (fun k hk=>setRow_oth _ _ _ hk) (setRow_heap V N cs cs' T (0,0) (h.B (N,T,cs) (by simp)).1)
def set8 (cs:Array Value) (o:Nat) (m:Nd):Array Value :=
 (((((((cs.setIfInBounds o (zU m.h.k)).setIfInBounds (o+1) (zU m.h.o)).setIfInBounds (o+2) (zU m.h.t)).setIfInBounds (o+3) (zI m.h.n)).setIfInBounds (o+4) (zU m.h.f)).setIfInBounds (o+5) (.string m.h.x)).setIfInBounds (o+6) (.slice m.a m.ks.length m.c)).setIfInBounds (o+7) (zI m.h.p)
theorem HX.nodeA {w:yW}{b:Nat}{K:PK}{V:yW}{pre post:List (Nat × Nat × Array Value)}{N T:Nat}{cs:Array Value}{e sz:Nat}{v:Value}{vs:List (Array Value)}{F:yW→Prop}{ts:List Tk}(h:HX w b K V (pre ++ (N,T,cs) :: post) e sz v vs F ts) (o:Nat) (m:Nd) :
  HX w b K ((((((((V.setCell N¢o (zU m.h.k)).setCell ⟨N,o+1,none⟩ (zU m.h.o)).setCell ⟨N,o+2,none⟩ (zU m.h.t)).setCell ⟨N,o+3,none⟩ (zI m.h.n)).setCell ⟨N,o+4,none⟩ (zU m.h.f)).setCell ⟨N,o+5,none⟩ (.string m.h.x)).setCell ⟨N,o+6,none⟩ (.slice m.a m.ks.length m.c)).setCell ⟨N,o+7,none⟩ (zI m.h.p)) (pre ++ (N,T,set8 cs o m) :: post) e sz v vs F ts :=
 (((((((h.setA _ _).setA _ _).setA _ _).setA _ _).setA _ _).setA _ _).setA _ _).setA _ _
theorem flat_at {sz:Nat}:∀ (vs:List (Array Value)),(∀ x ∈ vs,x.size=sz)→∀ i (hi:i < vs.length) j,j < sz→(vs.map Array.toList).flatten[i * sz+j]? = vs[i][j]?
 | [],_,i,hi,_,_=>by simp at hi
 | x :: xs,h,0,hi,j,hj=>by
  have hx:=h x (by simp)
  rw [List.map_cons,List.flatten_cons,Nat.zero_mul,Nat.zero_add,List.getElem?_append_left (by rw [Array.length_toList,hx]; exact hj)]
  simp
 | x :: xs,h,i+1,hi,j,hj=>by
  have hx:=h x (by simp)
  rw [List.map_cons,List.flatten_cons,List.getElem?_append_right (by rw [Array.length_toList,hx,Nat.succ_mul]; omega),Array.length_toList,hx,show (i+1) * sz+j - sz=i * sz+j by rw [Nat.succ_mul]; omega]
  exact flat_at xs (fun y hy=>h y (List.mem_cons_of_mem _ hy)) i (by simpa using hi) j hj
theorem HX.retire {w:yW}{b:Nat}{K:PK}{V:yW}{bs:List (Nat × Nat × Array Value)}{e sz:Nat}{v:Value}{vs:List (Array Value)}{F:yW→Prop}{ts:List Tk}(h:HX w b K V bs e sz v vs F ts) (e' sz':Nat):∃ a c,v=.slice a vs.length c∧HX w b K V bs e' sz' (.slice none 0 0) [] (fun U=>F U∧SlAt U sz a c vs) ts:=by
 have hR:=h.R
 obtain⟨P,h1,h2⟩:=h.E
 have mk:∀ (G:yW→Prop) (Q:Nat→Prop),(∀ k,Q k→w§≤k∧k < V§∧(∀ p ∈ bs,p.1≠k))→(∀ U:yW,(∀ k,Q k→U.heap[k]? = V.heap[k]?)→G U)→HX w b K V bs e' sz' (.slice none 0 0) [] G ts:=fun G Q q1 q2 =>
  ⟨h.M,h.B,h.N,World.ownsRow_nil V 0 e' sz',(fun p hp=>by simp at hp),(fun k hk=>by simp [Value.ownBlock] at hk),⟨Q,fun k hk=>⟨(q1 k hk).1,(q1 k hk).2.1,(q1 k hk).2.2,by simp [Value.ownBlock]⟩,q2⟩,h.S,h.W⟩
 rcases hR.2 with ⟨rfl,h0⟩ | ⟨g,cap,cur,rfl,_,hg,hc1,hc2,hc3,hc4⟩
 ·have hv:vs = []:=List.eq_nil_of_length_eq_zero h0
  subst hv
  exact⟨none,0,rfl,mk _ P (fun k hk=>⟨(h1 k hk).1,(h1 k hk).2.1,(h1 k hk).2.2.1⟩) (fun U hU=>⟨h2 U hU,by simp,by omega,fun i hi=>by simp at hi⟩)⟩
 ·refine⟨some g¢0,cap,rfl,mk _ (fun k=>P k∨k=g) (fun k hk=>?_) (fun U hU=>⟨h2 U fun k hk=>hU k (.inl hk),hc1,by unfold maxLen at hc2; omega,fun i hi=>⟨g,0,rfl,fun j hj=>?_⟩⟩)⟩
  ·rcases hk with hk | hk
   ·exact⟨(h1 k hk).1,(h1 k hk).2.1,(h1 k hk).2.2.1⟩
   ·subst hk
    obtain⟨q1,q2⟩:=h.D k rfl
    exact⟨q1,(zJ hg).1,q2⟩
  ·have hU2:U.heap[g]? = (zC cur e):=(hU g (.inr rfl)).trans hg
   have hlt:i * sz+j < vs.length * sz:=by
    have:(i+1) * sz≤vs.length * sz:=Nat.mul_le_mul_right _ hi
    rw [Nat.succ_mul] at this
    omega
   rw [Nat.zero_add,cell_of hU2,← flat_at vs h.Z i hi j hj,← hc4,List.getElem?_take_of_lt hlt]
   simp
theorem app_h {w:yW}{b:Nat}{K:PK}{V:yW}{bs:List (Nat × Nat × Array Value)}{e sz:Nat}{v:Value}{vs:List (Array Value)}{F:yW→Prop}{ts:List Tk}(hL:HX w b K V bs e sz v vs F ts) (t:TypeId) (cs:Array Value) (hcs:cs.size=sz) (h1:cs.all (·.oneCell')=true)
  (z:Value) (by_:Nat) (ht:Tryz.prog.underlying t=some (.slice e)) (hi:(Tryz.prog.info? e).map (fun i=>(i.zero,i.size,i.bytes))=some (some z,sz,by_)) (hz:z.cells.size=sz) (h0:0 < sz) (hn:vs.length≤1000) (hby:by_≤1000000)
  {ops:Array Oper}{rest:List Oper}{o:Oper}{a:Act}{Q:Exit→Act→yW→Prop}(hgd:o.guard=none) (d x:Operand)
  (ho:o.op=.call { callee:=.builtin .append,args:=#[d,x],argTypes:=#[t,t] }) (hs:a.eval d=v) (hx:a.eval x=.slice (some V§¢0) 1 1)
  (h:∀ g cap w',HX w b K w' bs e sz (.slice (some g¢0) (vs.length+1) cap) (vs ++ [cs]) F ts→wpList Tryz.prog ops Q rest (a.put o.dst (.slice (some g¢0) (vs.length+1) cap)) w') :
  wpList Tryz.prog ops Q (o :: rest) a (V.alloc (.cells cs e)):=by
 obtain⟨i0,hi0,hz0,hz1,hz2⟩:=info_parts hi
 have hr:=hL.R
 have hsz:=size_alloc V (.cells cs e)
 have hby2:(vs.length+1) * by_≤140737488355328:=by
  have:(vs.length+1) * by_≤1001 * 1000000:=Nat.mul_le_mul (by omega) hby
  omega
 refine wpList_append_lies _ hgd d x t ho 0 e i0 z sz by_ ht hi0 hz0 hz1 hz2 hz h0 v vs.length _ hs (World.ownsRow.alloc hr _) V§¢0 1 1 cs.toList hx (by simp; exact hcs) (World.news_of_block (heap_new V _)) (fun u hu=>(Array.all_eq_true_iff_forall_mem.1 h1) u (by simpa using hu)) (by decide) (by unfold maxLen; omega) hby2 (Nat.zero_le _) _ rfl ?_
 intro g cap w' h2 h3 h4 h5
 have hs3:=h3.size
 have hVw:=hL.M.size
 have old:∀ k,k < V§→v.ownBlock≠some k→w'.heap[k]? = V.heap[k]?:=fun k hk hne=>(h3.block k (by omega) (fun e=>hne e.symm)).trans (Below.heap_alloc _ _ _ hk)
 have vlow:∀ k,k < w§→v.ownBlock≠some k:=fun k hk e=>by have:=(hL.D _ e).1; omega
 refine h g cap w' ⟨?_,fun p hp=>?_,hL.N,?_,fun x hx=>?_,fun k hk=>?_,?_,?_,hL.W⟩
 ·exact (hL.M.trans (Mv.ofBelow (F:=fun k=>k=b) (below_new V (.cells cs e))) (fun _ e=>.inl e)).grown h3 (fun k e=>.inr (hL.D _ e).1)
 ·obtain⟨g1,g2⟩:=hL.B p hp
  exact⟨(old _ (zJ g1).1 (fun e=>(hL.D _ e).2 p hp rfl)).trans g1,g2⟩
 ·rw [List.length_append,List.length_singleton,List.map_append,List.flatten_append]
  simpa using h2
 ·rcases List.mem_append.1 hx with hx | hx
  ·exact hL.Z x hx
  ·rw [List.mem_singleton.1 hx]; exact hcs
 ·simp [Value.ownBlock] at hk
  subst hk
  rcases h4 with h4 | h4
  ·exact hL.D _ h4
  ·refine⟨by omega,fun p hp=>?_⟩
   have:=(zJ (hL.B p hp).1).1
   omega
 ·obtain⟨P,q1,q2⟩:=hL.E
  refine⟨P,fun k hk=>⟨(q1 k hk).1,by have:=(q1 k hk).2.1; omega,(q1 k hk).2.2.1,fun e=>?_⟩,fun U hU=>q2 U fun k hk=>(hU k hk).trans (old k (q1 k hk).2.1 (q1 k hk).2.2.2)⟩
  simp [Value.ownBlock] at e
  subst e
  rcases h4 with h4 | h4
  ·exact (q1 _ hk).2.2.2 h4
  ·have:=(q1 _ hk).2.1
   omega
 ·exact hL.S.off hL.W (fun k hk=>old k (by omega) (vlow k hk))
theorem HX.fin {w:yW}{b:Nat}{K:PK}{V:yW}{bs:List (Nat × Nat × Array Value)}{e sz:Nat}{v:Value}{vs:List (Array Value)}{F:yW→Prop}{ts:List Tk}(h:HX w b K V bs e sz v vs F ts):Dp w V F∧Lv V b K ts∧Mv w V (fun k=>k=b):=by
 obtain⟨P,h1,h2⟩:=h.E
 exact⟨fun U hU=>h2 U fun k hk=>hU k (h1 k hk).1 (h1 k hk).2.1,h.S,h.M⟩
def fs (a b:Int):Int:=if a=0 then b else a
theorem fs_z {a b:Int}(h:a=0):fs a b=b:=if_pos h
theorem fs_n {a b:Int}(h:¬ a=0):fs a b=a:=if_neg h
def fsL:List Int→Int
 | []=>0
 | a :: l=>fs a (fsL l)
def namE (x:yB):Int:=if nameB x=true then 0 else 120
def cntE (n l m:Int):Int:=if n < l then 120 else if m < n then 121 else 0
def okE (ok:Bool):Int:=if ok=true then 0 else 120
theorem need_gives (ok:Bool) (w:yW):Gives 158 #[.bool ok,zI 120] w (okE ok):=by
 refine (need_any ok 120 w).mono ?_
 rintro e w' ⟨rfl,rfl⟩
 cases ok with
 | true=>exact⟨.inl ⟨rfl,rfl⟩,Below.refl _ _⟩
 | false=>exact⟨.inr ⟨by decide,rfl⟩,Below.refl _ _⟩
theorem nm_gives {x:yB}(hs:SzX x) {w:yW}(ht:Tab w):Gives 177 #[.string x] w (namE x):=by
 have cN:=namep_any x hs w ht
 obtain⟨B,eB⟩:∃ B,nameB x=B:=⟨_,rfl⟩
 have hE:namE x=okE B:=by unfold namE okE; rw [eB]
 rw [hE]
 rw [eB] at cN
 clear hE eB
 unfold Gives
 go_enter Tryz.func177,Tryz.ntmps177
 go_wp2_with fail
 refine cN.mono ?_
 rintro e w1 ⟨rfl,hb⟩
 have HB:Hid (yD w w1):=hb
 have c2:=need_gives B w1
 unfold Gives at c2
 clear cN hb
 go_wp2_with fail
 refine c2.mono ?_
 rintro e w2 ⟨⟨h0,rfl⟩ | ⟨h0,rfl⟩,hb⟩
 ·have HB2:Hid (yD w w2):=below2 HB.out hb
  clear c2 hb
  go_wp2_with fail
  go_end0
  exact⟨.inl ⟨h0,rfl⟩,HB2.out⟩
 ·exact⟨rfl,.inr ⟨h0,rfl⟩,below2 HB.out hb⟩
theorem cnt_gives (n l m:Int) (w:yW):Gives 178 #[zI n,zI l,zI m] w (cntE n l m):=by
 unfold Gives
 by_cases h1:l≤n
 ·have d1:decide (l≤n)=true:=decide_eq_true h1
  by_cases h2:n≤m
  ·have e0:cntE n l m=0:=by unfold cntE; rw [if_neg (by omega),if_neg (by omega)]
   rw [e0]
   exact (count_ok n l m h1 h2 w).mono fun e w' h=>⟨.inl ⟨rfl,h.1⟩,by rw [h.2]; exact Below.refl _ _⟩
  ·have d2:decide (n≤m)=false:=decide_eq_false h2
   have e0:cntE n l m=121:=by unfold cntE; rw [if_neg (by omega),if_pos (by omega)]
   rw [e0]
   clear e0 h1 h2
   go_enter Tryz.func178,Tryz.ntmps178
   go_wp2_with fail
   refine (need_t 120 _).mono ?_
   rintro e w1 ⟨rfl,e1⟩
   obtain rfl:=e1.symm
   clear e1
   go_wp2_with fail
   refine (need_f 121 _).mono ?_
   rintro e w1 ⟨rfl,rfl⟩
   exact⟨rfl,.inr ⟨by decide,rfl⟩,Below.refl _ _⟩
 ·have d1:decide (l≤n)=false:=decide_eq_false h1
  have e0:cntE n l m=120:=by unfold cntE; rw [if_pos (by omega)]
  rw [e0]
  clear e0 h1
  go_enter Tryz.func178,Tryz.ntmps178
  go_wp2_with fail
  refine (need_f 120 _).mono ?_
  rintro e w1 ⟨rfl,rfl⟩
  exact⟨rfl,.inr ⟨by decide,rfl⟩,Below.refl _ _⟩
theorem rng_of {w:yW}{g:Nat}{cs:Array Value}{t:TypeId}{fr:Nat × Nat}(h:w.heap[g]? = some (.cells cs t fr)) (o:Nat) (l:List Value) (hl:∀ j,j < l.length→cs[o+j]? = l[j]?):w.rangeAt g o l:=fun j v hv=>by
 have hj:j < l.length:=(List.getElem?_eq_some_iff.1 hv).1
 rw [cell_of h,hl j hj,hv]
end Go.Proofs.YtfbjofnaghjmeaaGreatDoor
