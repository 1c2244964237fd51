import Derived.Test.YtfbjofnaghjmeaaGreatDoorA9
namespace Go.Proofs.YtfbjofnaghjmeaaGreatDoor
open Go.Proofs.Tryz
open Go.RowKit
set_option linter.unusedVariables false
structure RegT where
 x:yB
 t:Int
 m:Tr
 p:Int
structure UM where
 x:yB
 p:Int
structure DoT where
 k:Int
 o:Int
 x:yB
 sd:Tr
 qt:Tr
 pr:Tr
 vl:Tr
 p:Int
structure Ur where
 m:Tr
 ds:List DoT
 p:Int
structure K5 where
 x:yB
 rs:List Ur
 p:Int
structure K4 where
 x:yB
 rs:List RegT
 ss:List UM
 ts:List K5
def tr0:Tr:=.mk ⟨0,0,0,0,0,gE,0⟩ []
def JB (x:yB):List Tk→Option (Int × List Tk)
 | []=>none
 | t :: ts=>if t.x=x then some (t.p,ts) else none
def XK:List Tk→Option (yB × List Tk)
 | []=>none
 | t :: ts=>if t.k=2 then some (t.x,ts) else none
def pIs (x:yB):List Tk→Bool
 | []=>false
 | t :: _=>decide (t.x=x)
def pLit:List Tk→Option (Tr × List Tk)
 | []=>none
 | t :: ts=>if t.k=3 then some (.mk ⟨1,0,t.ty,t.n,0,gE,t.p⟩ [],ts) else if t.k=1∧t.x=Zj then some (.mk ⟨1,0,6,1,0,gE,t.p⟩ [],ts) else none
def LF:List yB:=[⟨#[98,105,100]⟩,⟨#[97,115,107]⟩,⟨#[108,97,115,116]⟩,⟨#[118,111,108,117,109,101]⟩,⟨#[110,111,119]⟩,⟨#[111,112,101,110]⟩]
def LP:List yB:=[⟨#[42]⟩,⟨#[47]⟩,⟨#[37]⟩]
def LS:List yB:=[⟨#[43]⟩,Zi]
def LC:List yB:=[⟨#[61,61]⟩,⟨#[33,61]⟩,⟨#[60]⟩,⟨#[60,61]⟩,⟨#[62]⟩,⟨#[62,61]⟩]
def LU:List yB:=[Zi,⟨#[33]⟩]
def LH:List yB:=[⟨#[98,105,100]⟩,⟨#[97,115,107]⟩,⟨#[108,97,115,116]⟩]
def LA:List yB:=[⟨#[97,98,115]⟩,⟨#[109,105,110]⟩,⟨#[109,97,120]⟩]
def LT:List yB:=[Zm,Zo,Zn,Zp]
def pOne:List Tk→Option (Tr × List Tk)
 | []=>none
 | t :: ts=>if t.k=2 then some (.mk ⟨2,0,0,0,0,t.x,t.p⟩ [],ts) else if t.k=1∧0≤fnd t.x LF 0 then some (.mk ⟨3,0,0,0,fnd t.x LF 0+1,gE,t.p⟩ [],ts)
  else if t.k=1∧t.x=Zl then match ts with
   | u :: us=>if 0≤fnd u.x LH 0 then some (.mk ⟨4,0,0,0,fnd u.x LH 0+1,gE,t.p⟩ [],us) else none
   | []=>none
  else pLit (t :: ts)
def QdX (ex:List Tk→Option (Tr × List Tk)):List Tk→Option (Tr × List Tk)
 | []=>none
 | t :: ts=>if t.k=1∧0≤fnd t.x LT 0 then match ts with
   | u :: us=>if u.x=⟨#[40]⟩ then (ex us).bind fun a=>match a.2 with
    | v :: vs=>if v.x=⟨#[41]⟩ then some (.mk ⟨9,0,1+fnd t.x LT 0,0,0,gE,t.p⟩ [a.1],vs) else none
    | []=>none
    else none
   | []=>none
  else pOne (t :: ts)
def pNo (L:List yB):List Tk→Bool
 | []=>false
 | t :: _=>fnd t.x L 0 == -1
def pUn (one:List Tk→Option (Tr × List Tk)) (ts:List Tk):Option (Tr × List Tk):=if pNo LU ts then one ts else none
def pCmp (L:List yB) (c:Int) (part:List Tk→Option (Tr × List Tk)) (ts:List Tk):Option (Tr × List Tk) :=
 (part ts).bind fun a=>if pNo L a.2 then some a else match a.2 with
  | []=>none
  | t :: us=>(part us).bind fun d=>some (.mk ⟨6,c+fnd t.x L 0,0,0,0,gE,t.p⟩ [a.1,d.1],d.2)
def pRow (L:List yB) (c:Int) (part:List Tk→Option (Tr × List Tk)) (ts:List Tk):Option (Tr × List Tk) :=
 (part ts).bind fun a=>if pNo L a.2 then some a else match a.2 with
  | []=>none
  | t :: us=>(part us).bind fun d=>if pNo L d.2 then some (.mk ⟨6,c+fnd t.x L 0,0,0,0,gE,t.p⟩ [a.1,d.1],d.2) else none
def Qbi (L:List yB) (part:List Tk→Option (Tr × List Tk)) (ts:List Tk):Option (Tr × List Tk) :=
 (part ts).bind fun a=>if pNo L a.2 then some a else none
def pLvl (one:List Tk→Option (Tr × List Tk)) (ts:List Tk):Option (Tr × List Tk) :=
 Qbi [⟨#[63]⟩] (Qbi [Zk] (pRow [Z7] 17 (pCmp LC 11 (pRow LS 6 (pRow LP 8 (pUn one)))))) ts
def pEx (ts:List Tk):Option (Tr × List Tk):=pLvl (QdX (pLvl pOne)) ts
def pAny (L:List yB):List Tk→Option (Int × List Tk)
 | []=>none
 | t :: ts=>if 0≤fnd t.x L 0 then some (fnd t.x L 0,ts) else none
def QdY (ts:List Tk):Option (Tr × List Tk):=if pIs Zi ts=true then none else pLit ts
def pReg (ts:List Tk):Option (RegT × List Tk) :=
 (JB Zb ts).bind fun a=>(XK a.2).bind fun b=>(pAny zy b.2).bind fun c=>(JB Zh c.2).bind fun d=>(QdY d.2).bind fun e=>(JB Z9 e.2).bind fun f =>
  some (⟨b.1,1+c.1,e.1,a.1⟩,f.2)
def U8 (ts:List Tk):Option (UM × List Tk) :=
 (JB Za ts).bind fun a=>(XK a.2).bind fun b=>(JB Z9 b.2).bind fun f=>some (⟨b.1,a.1⟩,f.2)
def ordX (i:Int):Int:=if i=0 then 1 else if i=1 then 3 else if i=2 then 4 else 5
def UU (ts:List Tk):Option (DoT × List Tk) :=
 (JB Z0 ts).bind fun a=>(pEx a.2).bind fun b=>(JB ⟨#[111,102]⟩ b.2).bind fun c=>(pEx c.2).bind fun d=>(JB ⟨#[97,116]⟩ d.2).bind fun e=>(pEx e.2).bind fun f=>(pAny [Zt,Zs,Zr,Zu] f.2).bind fun g=>(JB ⟨#[97,115]⟩ g.2).bind fun h=>(XK h.2).bind fun i =>
  some (⟨1,ordX g.1,i.1,b.1,d.1,f.1,tr0,a.1⟩,i.2)
def pSet (p:Int) (ts:List Tk):Option (DoT × List Tk) :=
 (XK ts).bind fun a=>(JB Zh a.2).bind fun b=>(pEx b.2).bind fun c=>some (⟨4,0,a.1,tr0,tr0,tr0,c.1,p⟩,c.2)
def pDo:List Tk→Option (DoT × List Tk)
 | []=>none
 | t :: ts =>
  if fnd t.x zt 0=0 then UU (t :: ts)
  else if fnd t.x zt 0=2 then (XK ts).bind fun a=>some (⟨3,0,a.1,tr0,tr0,tr0,tr0,t.p⟩,a.2)
  else if fnd t.x zt 0=3 then pSet t.p ts
  else if fnd t.x zt 0=4 then (XK ts).bind fun a=>some (⟨5,0,a.1,tr0,tr0,tr0,tr0,t.p⟩,a.2)
  else if fnd t.x zt 0=5 then some (⟨6,0,gE,tr0,tr0,tr0,tr0,t.p⟩,ts)
  else none
def pDos:Nat→List Tk→Option (List DoT × List Tk)
 | 0,ts=>(pDo ts).bind fun a=>if pIs Z8 a.2=true then none else some ([a.1],a.2)
 | r+1,ts=>(pDo ts).bind fun a=>if pIs Z8 a.2=true then (pDos r a.2.tail).bind fun b=>some (a.1 :: b.1,b.2) else some ([a.1],a.2)
def UK (ts:List Tk):Option (Ur × List Tk) :=
 (JB Zd ts).bind fun a=>(pEx a.2).bind fun b=>(JB ⟨#[100,111]⟩ b.2).bind fun c=>(pDos 7 c.2).bind fun d=>(JB Z9 d.2).bind fun e=>some (⟨b.1,d.1,a.1⟩,e.2)
def Ju {α:Type}(x:yB) (part:List Tk→Option (α × List Tk)):Nat→List Tk→Option (List α × List Tk)
 | 0,ts=>if pIs x ts=true then none else some ([],ts)
 | r+1,ts=>if pIs x ts=true then (part ts).bind fun a=>(Ju x part r a.2).bind fun b=>some (a.1 :: b.1,b.2) else some ([],ts)
def Xg (ts:List Tk):Option (K5 × List Tk) :=
 (JB Zc ts).bind fun a=>(XK a.2).bind fun b=>(JB Zg b.2).bind fun c=>(Ju Zd UK 12 c.2).bind fun d=>(JB Ze d.2).bind fun e=>some (⟨b.1,d.1,a.1⟩,e.2)
def P3 (ts:List Tk):Option (K4 × List Tk) :=
 (JB Zw ts).bind fun a=>(XK a.2).bind fun b=>(JB Zg b.2).bind fun c=>(Ju Zb pReg 12 c.2).bind fun d=>(Ju Za U8 4 d.2).bind fun e=>(Ju Zc Xg 12 e.2).bind fun f=>(JB Ze f.2).bind fun g =>
  if f.1.length=0 then none else some (⟨b.1,d.1,e.1,f.1⟩,g.2)
def Ht (s:yB):Option K4:=(P3 (rdT s)).bind fun a=>match a.2 with
 | []=>none
 | t :: _=>if t.k=0 then some a.1 else none
def B8 (i:Int):Prop:=0≤i∧i≤255
def I64 (i:Int):Prop:=-9223372036854775808≤i∧i≤jX
def SzX (x:yB):Prop:=x.size≤140737488355328
def SlAt (w:yW) (n:Nat) (a:Option Addr) (c:Nat) (vs:List (Array Value)):Prop :=
 vs.length≤c∧c≤jX∧∀ i (hi:i < vs.length),∃ b o,a=some b¢o∧∀ j,j < n→w.cell? ⟨b,o+i * n+j,none⟩=vs[i][j]?
structure RegM where
 x:yB
 t:Int
 m:Nd
 p:Int
structure Qx where
 x:yB
 p:Int
structure DoM where
 k:Int
 o:Int
 x:yB
 sd:Nd
 qt:Nd
 pr:Nd
 vl:Nd
 p:Int
structure Qy where
 m:Nd
 a:Option Addr
 c:Nat
 ds:List DoM
 p:Int
structure Qq where
 x:yB
 a:Option Addr
 c:Nat
 rs:List Qy
 p:Int
structure Qg where
 x:yB
 ra:Option Addr
 rc:Nat
 rs:List RegM
 sa:Option Addr
 sc:Nat
 ss:List Qx
 ta:Option Addr
 tc:Nat
 ts:List Qq
def RegM.vals (r:RegM):Array Value:=⟨.string r.x :: zU r.t :: zU r.m.h.k :: zU r.m.h.o :: zU r.m.h.t :: zI r.m.h.n :: zU r.m.h.f :: .string r.m.h.x :: .slice r.m.a r.m.ks.length r.m.c :: zI r.m.h.p :: zI r.p :: []⟩
def Qx.vals (r:Qx):Array Value:=#[.string r.x,zI r.p]
def doA (k o:Int) (x:yB) (s q r v:Nd) (p:Int):Array Value:=⟨zU k :: zU o :: .string x :: zU s.h.k :: zU s.h.o :: zU s.h.t :: zI s.h.n :: zU s.h.f :: .string s.h.x :: .slice s.a s.ks.length s.c :: zI s.h.p :: zU q.h.k :: zU q.h.o :: zU q.h.t :: zI q.h.n :: zU q.h.f :: .string q.h.x :: .slice q.a q.ks.length q.c :: zI q.h.p :: zU r.h.k :: zU r.h.o :: zU r.h.t :: zI r.h.n :: zU r.h.f :: .string r.h.x :: .slice r.a r.ks.length r.c :: zI r.h.p :: zU v.h.k :: zU v.h.o :: zU v.h.t :: zI v.h.n :: zU v.h.f :: .string v.h.x :: .slice v.a v.ks.length v.c :: zI v.h.p :: zI p :: []⟩
def DoM.vals (d:DoM):Array Value:=doA d.k d.o d.x d.sd d.qt d.pr d.vl d.p
def Qy.vals (r:Qy):Array Value:=⟨zU r.m.h.k :: zU r.m.h.o :: zU r.m.h.t :: zI r.m.h.n :: zU r.m.h.f :: .string r.m.h.x :: .slice r.m.a r.m.ks.length r.m.c :: zI r.m.h.p :: .slice r.a r.ds.length r.c :: zI r.p :: []⟩
def Qq.vals (r:Qq):Array Value:=#[.string r.x,.slice r.a r.rs.length r.c,zI r.p]
def Qg.vals (r:Qg):Array Value:=#[.string r.x,.slice r.ra r.rs.length r.rc,.slice r.sa r.ss.length r.sc,.slice r.ta r.ts.length r.tc]
def RegL (w:yW) (r:RegM):Prop:=Lies w r.m∧B8 r.t∧I64 r.p∧SzX r.x
def UN (r:Qx):Prop:=I64 r.p∧SzX r.x
def DoL (w:yW) (d:DoM):Prop:=Lies w d.sd∧Lies w d.qt∧Lies w d.pr∧Lies w d.vl∧B8 d.k∧B8 d.o∧I64 d.p∧SzX d.x
def J5 (w:yW) (r:Qy):Prop:=Lies w r.m∧SlAt w 36 r.a r.c (r.ds.map DoM.vals)∧(∀ d ∈ r.ds,DoL w d)∧I64 r.p
def JX (w:yW) (s:Qq):Prop:=SlAt w 10 s.a s.c (s.rs.map Qy.vals)∧(∀ r ∈ s.rs,J5 w r)∧I64 s.p∧SzX s.x
def Qr (w:yW) (S:Qg):Prop :=
 SlAt w 11 S.ra S.rc (S.rs.map RegM.vals)∧(∀ r ∈ S.rs,RegL w r)∧SlAt w 2 S.sa S.sc (S.ss.map Qx.vals)∧(∀ r ∈ S.ss,UN r)∧SlAt w 3 S.ta S.tc (S.ts.map Qq.vals)∧(∀ r ∈ S.ts,JX w r)∧SzX S.x
def RegM.tr (r:RegM):RegT:=⟨r.x,r.t,Qs r.m,r.p⟩
def Qx.tr (r:Qx):UM:=⟨r.x,r.p⟩
def DoM.tr (d:DoM):DoT:=⟨d.k,d.o,d.x,Qs d.sd,Qs d.qt,Qs d.pr,Qs d.vl,d.p⟩
def Qy.tr (r:Qy):Ur:=⟨Qs r.m,r.ds.map DoM.tr,r.p⟩
def Qq.tr (r:Qq):K5:=⟨r.x,r.rs.map Qy.tr,r.p⟩
def Qg.tr (r:Qg):K4:=⟨r.x,r.rs.map RegM.tr,r.ss.map Qx.tr,r.ts.map Qq.tr⟩
theorem SlAt.lt {w:yW}{n:Nat}{a:Option Addr}{c:Nat}{vs:List (Array Value)}(h:SlAt w n a c vs):vs.length≤c:=h.1
theorem SlAt.on {w w':yW}{n:Nat}{a:Option Addr}{c:Nat}{vs:List (Array Value)}(h:SlAt w n a c vs) (hz:∀ x ∈ vs,n≤x.size) (k:yD w w'):SlAt w' n a c vs:=by
 refine⟨h.1,h.2.1,fun i hi=>?_⟩
 obtain⟨b,o,h1,h2⟩:=h.2.2 i hi
 refine⟨b,o,h1,fun j hj=>?_⟩
 have hs:=hz _ (List.getElem_mem hi)
 have h3:=h2 j hj
 rw [Array.getElem?_eq_getElem zY] at h3
 rw [World.cell?_of_block (k.block b (World.block_lt_of_cell? w _ h3))]
 rw [h3,Array.getElem?_eq_getElem zY]
theorem RegL.on {w w':yW}{r:RegM}(h:RegL w r) (k:yD w w'):RegL w' r:=⟨h.1.on k,h.2⟩
theorem DoL.on {w w':yW}{r:DoM}(h:DoL w r) (k:yD w w'):DoL w' r:=⟨h.1.on k,h.2.1.on k,h.2.2.1.on k,h.2.2.2.1.on k,h.2.2.2.2⟩
theorem mapz {α:Type}{f:α→Array Value}{n:Nat}(hf:∀ a,(f a).size=n) (l:List α):∀ x ∈ l.map f,n≤x.size:=by
 intro x hx
 obtain⟨a,_,rfl⟩:=List.mem_map.1 hx
 rw [hf a]
 exact Nat.le_refl _
theorem RegM.sz (r:RegM):r.vals.size=11:=rfl
theorem Qx.sz (r:Qx):r.vals.size=2:=rfl
theorem DoM.sz (r:DoM):r.vals.size=36:=rfl
theorem Qy.sz (r:Qy):r.vals.size=10:=rfl
theorem Qq.sz (r:Qq):r.vals.size=3:=rfl
theorem J5.on {w w':yW}{r:Qy}(h:J5 w r) (k:yD w w'):J5 w' r:=⟨h.1.on k,h.2.1.on (mapz DoM.sz _) k,fun d hd=>(h.2.2.1 d hd).on k,h.2.2.2⟩
theorem JX.on {w w':yW}{r:Qq}(h:JX w r) (k:yD w w'):JX w' r:=⟨h.1.on (mapz Qy.sz _) k,fun d hd=>(h.2.1 d hd).on k,h.2.2⟩
theorem Qr.on {w w':yW}{r:Qg}(h:Qr w r) (k:yD w w'):Qr w' r :=
 ⟨h.1.on (mapz RegM.sz _) k,fun d hd=>(h.2.1 d hd).on k,h.2.2.1.on (mapz Qx.sz _) k,h.2.2.2.1,h.2.2.2.2.1.on (mapz Qq.sz _) k,fun d hd=>(h.2.2.2.2.2.1 d hd).on k,h.2.2.2.2.2.2⟩
def Dp (w w':yW) (F:yW→Prop):Prop:=∀ U:yW,(∀ k,w§≤k→k < w'§→U.heap[k]? = w'.heap[k]?)→F U
theorem Dp.imp {w w':yW}{F G:yW→Prop}(h:Dp w w' F) (k:∀ U,F U→G U):Dp w w' G:=fun U hU=>k U (h U hU)
structure HX (w:yW) (b:Nat) (K:PK) (V:yW) (bs:List (Nat × Nat × Array Value)) (e sz:Nat) (v:Value) (vs:List (Array Value)) (F:yW→Prop) (ts:List Tk):Prop where
 M:Mv w V (fun k=>k=b)
 B:∀ p ∈ bs,V.heap[p.1]? = some (.cells p.2.2 p.2.1 (0,0))∧w§≤p.1
 N:(bs.map (·.1)).Nodup
 R:V.ownsRow 0 e sz v vs.length (vs.map Array.toList).flatten
 Z:∀ x ∈ vs,x.size=sz
 D:∀ k,v.ownBlock=some k→w§≤k∧∀ p ∈ bs,p.1≠k
 E:∃ P:Nat→Prop,(∀ k,P k→w§≤k∧k < V§∧(∀ p ∈ bs,p.1≠k)∧v.ownBlock≠some k)∧∀ U:yW,(∀ k,P k→U.heap[k]? = V.heap[k]?)→F U
 S:Lv V b K ts
 W:Lw w§ b K
theorem HX.hid {w:yW}{b:Nat}{K:PK}{V:yW}{bs:List (Nat × Nat × Array Value)}{e sz:Nat}{v:Value}{vs:List (Array Value)}{F:yW→Prop}{ts:List Tk}(h:HX w b K V bs e sz v vs F ts):Hid (HX w b K V bs e sz v vs F ts):=h
theorem HX.new {w:yW}{b:Nat}{K:PK}{ts:List Tk}(h:Lv w b K ts) (e sz:Nat):HX w b K w [] e sz (zO) [] (fun _=>True) ts :=
 ⟨Mv.refl _ _,(fun p hp=>by simp at hp),by simp,World.ownsRow_nil w 0 e sz,(fun p hp=>by simp at hp),(fun k hk=>by simp [Value.ownBlock] at hk),⟨fun _=>False,fun k hk=>hk.elim,fun _ _=>trivial⟩,h,h.lw⟩
theorem HX.vlt {w:yW}{b:Nat}{K:PK}{V:yW}{bs:List (Nat × Nat × Array Value)}{e sz:Nat}{v:Value}{vs:List (Array Value)}{F:yW→Prop}{ts:List Tk}(h:HX w b K V bs e sz v vs F ts):∀ k,v.ownBlock=some k→k < V§:=fun k hk=>(World.ownsRow.lt h.R k hk).2
theorem HX.mv {w:yW}{b:Nat}{K:PK}{V:yW}{bs:List (Nat × Nat × Array Value)}{e sz:Nat}{v:Value}{vs:List (Array Value)}{F:yW→Prop}{ts:List Tk}{V':yW}{ts':List Tk}(h:HX w b K V bs e sz v vs F ts) (hm:Mv V V' (fun k=>k=b)) (hs:Lv V' b K ts'):HX w b K V' bs e sz v vs F ts':=by
 have hb:=h.W.1
 refine⟨h.M.trans hm (fun _ e=>.inl e),fun p hp=>?_,h.N,P5 h.R fun k hk=>hm.block k (h.vlt k hk) (by have:=(h.D k hk).1;omega),h.Z,h.D,?_,hs,h.W⟩
 ·obtain⟨h1,h2⟩:=h.B p hp
  exact⟨(hm.block _ (zJ h1).1 zY).trans h1,h2⟩
 ·obtain⟨P,h1,h2⟩:=h.E
  refine⟨P,fun k hk=>⟨(h1 k hk).1,by have:=(h1 k hk).2.1;have:=hm.size;omega,(h1 k hk).2.2⟩,fun U hU=>h2 U fun k hk=>(hU k hk).trans (hm.block k (h1 k hk).2.1 (by have:=(h1 k hk).1;omega))⟩
theorem HX.on {w:yW}{b:Nat}{K:PK}{V:yW}{bs:List (Nat × Nat × Array Value)}{e sz:Nat}{v:Value}{vs:List (Array Value)}{F:yW→Prop}{ts:List Tk}{V':yW}(h:HX w b K V bs e sz v vs F ts) (k:yD V V'):HX w b K V' bs e sz v vs F ts:=h.mv (Mv.ofBelow k) (h.S.on k)
theorem HX.drew {w:yW}{b:Nat}{K:PK}{V:yW}{bs:List (Nat × Nat × Array Value)}{e sz:Nat}{v:Value}{vs:List (Array Value)}{F:yW→Prop}{ts:List Tk}(h:HX w b K V bs e sz v vs F ts):HX w b K V.drew bs e sz v vs F ts:=h.on ((Below.refl _ V).drew)
theorem HX.add {w:yW}{b:Nat}{K:PK}{V:yW}{bs:List (Nat × Nat × Array Value)}{e sz:Nat}{v:Value}{vs:List (Array Value)}{F:yW→Prop}{ts:List Tk}{V':yW}{ts':List Tk}{G:yW→Prop}(h:HX w b K V bs e sz v vs F ts) (hm:Mv V V' (fun k=>k=b)) (hs:Lv V' b K ts') (hG:Dp V V' G):HX w b K V' bs e sz v vs (fun U=>F U∧G U) ts':=by
 have h':=h.mv hm hs
 refine⟨h'.M,h'.B,h'.N,h'.R,h'.Z,h'.D,?_,h'.S,h'.W⟩
 obtain⟨P,h1,h2⟩:=h'.E
 refine⟨fun k=>P k∨(V§≤k∧k < V'§),fun k hk=>?_,fun U hU=>⟨h2 U fun k hk=>hU k (.inl hk),hG U fun k a c=>hU k (.inr ⟨a,c⟩)⟩⟩
 rcases hk with hk | hk
 ·exact h1 k hk
 ·refine⟨by have:=h.M.size;omega,hk.2,fun p hp=>?_,fun e=>?_⟩
  ·have:=(zJ (h.B p hp).1).1
   omega
  ·have:=h.vlt k e
   omega
theorem HX.imp {w:yW}{b:Nat}{K:PK}{V:yW}{bs:List (Nat × Nat × Array Value)}{e sz:Nat}{v:Value}{vs:List (Array Value)}{F:yW→Prop}{ts:List Tk}{G:yW→Prop}(h:HX w b K V bs e sz v vs F ts) (k:∀ U,F U→G U):HX w b K V bs e sz v vs G ts:=by
 obtain⟨P,h1,h2⟩:=h.E
 exact⟨h.M,h.B,h.N,h.R,h.Z,h.D,⟨P,h1,fun U hU=>k U (h2 U hU)⟩,h.S,h.W⟩
theorem HX.push {w:yW}{b:Nat}{K:PK}{V:yW}{bs:List (Nat × Nat × Array Value)}{e sz:Nat}{v:Value}{vs:List (Array Value)}{F:yW→Prop}{ts:List Tk}(h:HX w b K V bs e sz v vs F ts) (cs:Array Value) (T:Nat):HX w b K (zA V cs T) ((V§,T,cs) :: bs) e sz v vs F ts:=by
 have h':=h.on (Qb V (.cells cs T))
 refine⟨h'.M,fun p hp=>?_,?_,h'.R,h'.Z,fun k hk=>⟨(h.D k hk).1,fun p hp=>?_⟩,?_,h'.S,h'.W⟩
 ·rcases List.mem_cons.1 hp with e | e
  ·rw [e]
   exact⟨Qc _ _,h.M.size⟩
  ·exact h'.B p e
 ·rw [List.map_cons,List.nodup_cons]
  refine⟨fun hm=>?_,h.N⟩
  obtain⟨q,hq,e⟩:=List.mem_map.1 hm
  have:=(zJ (h.B q hq).1).1
  have e:q.1=V§:=e
  omega
 ·rcases List.mem_cons.1 hp with e | e
  ·rw [e]
   have:=h.vlt k hk
   show V§≠k
   omega
  ·exact (h.D k hk).2 p e
 ·obtain⟨P,h1,h2⟩:=h'.E
  obtain⟨P',g1,g2⟩:=h.E
  refine⟨P',fun k hk=>⟨(g1 k hk).1,by have:=(g1 k hk).2.1;rw [Qe];omega,fun p hp=>?_,(g1 k hk).2.2.2⟩,fun U hU=>g2 U fun k hk=>(hU k hk).trans (Below.heap_alloc _ _ _ (g1 k hk).2.1)⟩
  rcases List.mem_cons.1 hp with e | e
  ·rw [e]
   have:=(g1 k hk).2.1
   show V§≠k
   omega
  ·exact (g1 k hk).2.2.1 p e
theorem HX.pop {w:yW}{b:Nat}{K:PK}{V:yW}{bs:List (Nat × Nat × Array Value)}{e sz:Nat}{v:Value}{vs:List (Array Value)}{F:yW→Prop}{ts:List Tk}{q:Nat × Nat × Array Value}(h:HX w b K V (q :: bs) e sz v vs F ts):HX w b K V bs e sz v vs F ts:=by
 obtain⟨P,h1,h2⟩:=h.E
 have hn:=h.N
 rw [List.map_cons,List.nodup_cons] at hn
 exact⟨h.M,fun p hp=>h.B p (List.mem_cons_of_mem _ hp),hn.2,h.R,h.Z,fun k hk=>⟨(h.D k hk).1,fun p hp=>(h.D k hk).2 p (List.mem_cons_of_mem _ hp)⟩,⟨P,fun k hk=>⟨(h1 k hk).1,(h1 k hk).2.1,fun p hp=>(h1 k hk).2.2.1 p (List.mem_cons_of_mem _ hp),(h1 k hk).2.2.2⟩,h2⟩,h.S,h.W⟩
theorem HX.upd {w:yW}{b:Nat}{K:PK}{V:yW}{pre post:List (Nat × Nat × Array Value)}{N T:Nat}{cs:Array Value}{e sz:Nat}{v:Value}{vs:List (Array Value)}{F:yW→Prop}{ts:List Tk}(h:HX w b K V (pre ++ (N,T,cs) :: post) e sz v vs F ts) {V':yW}(cs':Array Value) (ho:V'.os=V.os) (ht:V'.tape=V.tape) (hu:V'.output=V.output) (hz:V'§=V§) (hn:∀ k,k≠N→V'.heap[k]? = V.heap[k]?) (hN:V'.heap[N]? = (zC cs' T)) :
  HX w b K V' (pre ++ (N,T,cs') :: post) e sz v vs F ts:=by
 have hw:w§≤N:=(h.B (N,T,cs) (by simp)).2
 have hf:∀ p ∈ pre ++ (N,T,cs') :: post,∃ q ∈ pre ++ (N,T,cs) :: post,q.1=p.1:=by
  intro p hp
  rcases List.mem_append.1 hp with hp | hp
  ·exact⟨p,List.mem_append.2 (.inl hp),rfl⟩
  ·rcases List.mem_cons.1 hp with hp | hp
   ·exact⟨(N,T,cs),by simp,by rw [hp]⟩
   ·exact⟨p,List.mem_append.2 (.inr (List.mem_cons_of_mem _ hp)),rfl⟩
 have hnd:=h.N
 rw [List.map_append,List.map_cons,List.nodup_append] at hnd
 have hnd2:=hnd.2.1
 rw [List.nodup_cons] at hnd2
 refine⟨⟨ho.trans h.M.os,ht.trans h.M.tape,hu.trans h.M.output,by rw [hz];exact h.M.size,fun k hk hb=>(hn k zY).trans (h.M.block k hk hb)⟩,fun p hp=>?_,by rw [List.map_append,List.map_cons];have:=h.N;rwa [List.map_append,List.map_cons] at this,P5 h.R fun k hk=>hn k (fun c=>(h.D k hk).2 (N,T,cs) (by simp) c.symm),h.Z,fun k hk=>⟨(h.D k hk).1,fun p hp=>?_⟩,?_,h.S.off h.W (fun k hk=>hn k zY),h.W⟩
 ·rcases List.mem_append.1 hp with hp' | hp'
  ·obtain⟨g1,g2⟩:=h.B p (List.mem_append.2 (.inl hp'))
   refine⟨(hn _ (fun c=>?_)).trans g1,g2⟩
   exact hnd.2.2 p.1 (List.mem_map.2 ⟨p,hp',rfl⟩) N (by simp) c
  ·rcases List.mem_cons.1 hp' with hp' | hp'
   ·rw [hp']
    exact⟨hN,hw⟩
   ·obtain⟨g1,g2⟩:=h.B p (List.mem_append.2 (.inr (List.mem_cons_of_mem _ hp')))
    refine⟨(hn _ (fun c=>?_)).trans g1,g2⟩
    exact hnd2.1 (List.mem_map.2 ⟨p,hp',c⟩)
 ·obtain⟨q,hq,e⟩:=hf p hp
  rw [← e]
  exact (h.D k hk).2 q hq
 ·obtain⟨P,h1,h2⟩:=h.E
  refine⟨P,fun k hk=>⟨(h1 k hk).1,by rw [hz];exact (h1 k hk).2.1,fun p hp=>?_,(h1 k hk).2.2.2⟩,fun U hU=>h2 U fun k hk=>(hU k hk).trans (hn k (fun c=>(h1 k hk).2.2.1 (N,T,cs) (by simp) c.symm))⟩
  obtain⟨q,hq,e⟩:=hf p hp
  rw [← e]
  exact (h1 k hk).2.2.1 q hq
theorem HX.setA {w:yW}{b:Nat}{K:PK}{V:yW}{pre post:List (Nat × Nat × Array Value)}{N T:Nat}{cs:Array Value}{e sz:Nat}{v:Value}{vs:List (Array Value)}{F:yW→Prop}{ts:List Tk}(h:HX w b K V (pre ++ (N,T,cs) :: post) e sz v vs F ts) (i:Nat) (x:Value):HX w b K (V.setCell N¢i x) (pre ++ (N,T,cs.setIfInBounds i x) :: post) e sz v vs F ts :=
 h.upd _ rfl rfl rfl (by simp [World.setCell]) (fun k hk=>Below.heap_setCell _ _ _ _ (show k≠N from hk)) (Qp x (h.B (N,T,cs) (by simp)).1)
theorem HX.rowA {w:yW}{b:Nat}{K:PK}{V:yW}{pre post:List (Nat × Nat × Array Value)}{N T:Nat}{cs:Array Value}{e sz:Nat}{v:Value}{vs:List (Array Value)}{F:yW→Prop}{ts:List Tk}(h:HX w b K V (pre ++ (N,T,cs) :: post) e sz v vs F ts) (cs':Array Value):HX w b K (V.setRow N cs') (pre ++ (N,T,cs') :: post) e sz v vs F ts :=
 h.upd _ rfl rfl rfl (by unfold World.setRow;simp) (fun k hk=>QV _ _ _ hk) (setRow_heap V N cs cs' T (0,0) (h.B (N,T,cs) (by simp)).1)
def set8 (cs:Array Value) (o:Nat) (m:Nd):Array Value :=
 (((((((cs.setIfInBounds o (zU m.h.k)).setIfInBounds (o+1) (zU m.h.o)).setIfInBounds (o+2) (zU m.h.t)).setIfInBounds (o+3) (zI m.h.n)).setIfInBounds (o+4) (zU m.h.f)).setIfInBounds (o+5) (.string m.h.x)).setIfInBounds (o+6) (.slice m.a m.ks.length m.c)).setIfInBounds (o+7) (zI m.h.p)
theorem HX.nodeA {w:yW}{b:Nat}{K:PK}{V:yW}{pre post:List (Nat × Nat × Array Value)}{N T:Nat}{cs:Array Value}{e sz:Nat}{v:Value}{vs:List (Array Value)}{F:yW→Prop}{ts:List Tk}(h:HX w b K V (pre ++ (N,T,cs) :: post) e sz v vs F ts) (o:Nat) (m:Nd) :
  HX w b K ((((((((V.setCell N¢o (zU m.h.k)).setCell ⟨N,o+1,none⟩ (zU m.h.o)).setCell ⟨N,o+2,none⟩ (zU m.h.t)).setCell ⟨N,o+3,none⟩ (zI m.h.n)).setCell ⟨N,o+4,none⟩ (zU m.h.f)).setCell ⟨N,o+5,none⟩ (.string m.h.x)).setCell ⟨N,o+6,none⟩ (.slice m.a m.ks.length m.c)).setCell ⟨N,o+7,none⟩ (zI m.h.p)) (pre ++ (N,T,set8 cs o m) :: post) e sz v vs F ts :=
 (((((((h.setA _ _).setA _ _).setA _ _).setA _ _).setA _ _).setA _ _).setA _ _).setA _ _
theorem QbA {sz:Nat}:∀ (vs:List (Array Value)),(∀ x ∈ vs,x.size=sz)→∀ i (hi:i < vs.length) j,j < sz→(vs.map Array.toList).flatten[i * sz+j]? = vs[i][j]?
 | [],_,i,hi,_,_=>by simp at hi
 | x :: xs,h,0,hi,j,hj=>by
  have hx:=h x (by simp)
  rw [List.map_cons,List.flatten_cons,Nat.zero_mul,Nat.zero_add,List.getElem?_append_left (by rw [Array.length_toList,hx];exact hj)]
  simp
 | x :: xs,h,i+1,hi,j,hj=>by
  have hx:=h x (by simp)
  rw [List.map_cons,List.flatten_cons,List.getElem?_append_right (by rw [Array.length_toList,hx,Nat.succ_mul];omega),Array.length_toList,hx,show (i+1) * sz+j - sz=i * sz+j by rw [Nat.succ_mul];omega]
  exact QbA xs (fun y hy=>h y (List.mem_cons_of_mem _ hy)) i (by simpa using hi) j hj
theorem HX.retire {w:yW}{b:Nat}{K:PK}{V:yW}{bs:List (Nat × Nat × Array Value)}{e sz:Nat}{v:Value}{vs:List (Array Value)}{F:yW→Prop}{ts:List Tk}(h:HX w b K V bs e sz v vs F ts) (e' sz':Nat):∃ a c,v=.slice a vs.length c∧HX w b K V bs e' sz' (zO) [] (fun U=>F U∧SlAt U sz a c vs) ts:=by
 have hR:=h.R
 obtain⟨P,h1,h2⟩:=h.E
 have mk:∀ (G:yW→Prop) (Q:Nat→Prop),(∀ k,Q k→w§≤k∧k < V§∧(∀ p ∈ bs,p.1≠k))→(∀ U:yW,(∀ k,Q k→U.heap[k]? = V.heap[k]?)→G U)→HX w b K V bs e' sz' (zO) [] G ts:=fun G Q q1 q2 =>
  ⟨h.M,h.B,h.N,World.ownsRow_nil V 0 e' sz',(fun p hp=>by simp at hp),(fun k hk=>by simp [Value.ownBlock] at hk),⟨Q,fun k hk=>⟨(q1 k hk).1,(q1 k hk).2.1,(q1 k hk).2.2,by simp [Value.ownBlock]⟩,q2⟩,h.S,h.W⟩
 rcases hR.2 with ⟨rfl,h0⟩ | ⟨g,cap,cur,rfl,_,hg,hc1,hc2,hc3,hc4⟩
 ·have hv:vs = []:=List.eq_nil_of_length_eq_zero h0
  subst hv
  exact⟨none,0,rfl,mk _ P (fun k hk=>⟨(h1 k hk).1,(h1 k hk).2.1,(h1 k hk).2.2.1⟩) (fun U hU=>⟨h2 U hU,by simp,by omega,fun i hi=>by simp at hi⟩)⟩
 ·refine⟨some g¢0,cap,rfl,mk _ (fun k=>P k∨k=g) (fun k hk=>?_) (fun U hU=>⟨h2 U fun k hk=>hU k (.inl hk),hc1,by unfold maxLen at hc2;omega,fun i hi=>⟨g,0,rfl,fun j hj=>?_⟩⟩)⟩
  ·rcases hk with hk | hk
   ·exact⟨(h1 k hk).1,(h1 k hk).2.1,(h1 k hk).2.2.1⟩
   ·subst hk
    obtain⟨q1,q2⟩:=h.D k rfl
    exact⟨q1,(zJ hg).1,q2⟩
  ·have hU2:U.heap[g]? = (zC cur e):=(hU g (.inr rfl)).trans hg
   have hlt:i * sz+j < vs.length * sz:=by
    have:(i+1) * sz≤vs.length * sz:=Nat.mul_le_mul_right _ hi
    rw [Nat.succ_mul] at this
    omega
   rw [Nat.zero_add,Qa hU2,← QbA vs h.Z i hi j hj,← hc4,List.getElem?_take_of_lt hlt]
   simp
theorem FF {w:yW}{b:Nat}{K:PK}{V:yW}{bs:List (Nat × Nat × Array Value)}{e sz:Nat}{v:Value}{vs:List (Array Value)}{F:yW→Prop}{ts:List Tk}(hL:HX w b K V bs e sz v vs F ts) (t:TypeId) (cs:Array Value) (hcs:cs.size=sz) (h1:cs.all (·.oneCell')=true)
  (z:Value) (by_:Nat) (ht:Tryz.prog.underlying t=some (.slice e)) (hi:(Tryz.prog.info? e).map (fun i=>(i.zero,i.size,i.bytes))=some (some z,sz,by_)) (hz:z.cells.size=sz) (h0:0 < sz) (hn:vs.length≤1000) (hby:by_≤1000000)
  {ops:Array Oper}{rest:List Oper}{o:Oper}{a:Act}{Q:Exit→Act→yW→Prop}(hgd:o.guard=none) (d x:Operand)
  (ho:o.op=.call { callee:=.builtin .append,args:=#[d,x],argTypes:=#[t,t] }) (hs:a.eval d=v) (hx:a.eval x=.slice (some V§¢0) 1 1)
  (h:∀ g cap w',HX w b K w' bs e sz (.slice (some g¢0) (vs.length+1) cap) (vs ++ [cs]) F ts→wpList zG ops Q rest (a.put o.dst (.slice (some g¢0) (vs.length+1) cap)) w') :
  wpList zG ops Q (o :: rest) a (zA V cs e):=by
 obtain⟨i0,hi0,hz0,hz1,hz2⟩:=info_parts hi
 have hr:=hL.R
 have hsz:=Qe V (.cells cs e)
 have hby2:(vs.length+1) * by_≤140737488355328:=by
  have:(vs.length+1) * by_≤1001 * 1000000:=Nat.mul_le_mul zY hby
  omega
 refine wpList_append_lies _ hgd d x t ho 0 e i0 z sz by_ ht hi0 hz0 hz1 hz2 hz h0 v vs.length _ hs (World.ownsRow.alloc hr _) V§¢0 1 1 cs.toList hx (by simp;exact hcs) (World.news_of_block (Qc V _)) (fun u hu=>(Array.all_eq_true_iff_forall_mem.1 h1) u (by simpa using hu)) (by decide) (by unfold maxLen;omega) hby2 (Nat.zero_le _) _ rfl ?_
 intro g cap w' h2 h3 h4 h5
 have hs3:=h3.size
 have hVw:=hL.M.size
 have old:∀ k,k < V§→v.ownBlock≠some k→w'.heap[k]? = V.heap[k]?:=fun k hk hne=>(h3.block k zY (fun e=>hne e.symm)).trans (Below.heap_alloc _ _ _ hk)
 have vlow:∀ k,k < w§→v.ownBlock≠some k:=fun k hk e=>by have:=(hL.D _ e).1;omega
 refine h g cap w' ⟨?_,fun p hp=>?_,hL.N,?_,fun x hx=>?_,fun k hk=>?_,?_,?_,hL.W⟩
 ·exact (hL.M.trans (Mv.ofBelow (F:=fun k=>k=b) (Qb V (.cells cs e))) (fun _ e=>.inl e)).grown h3 (fun k e=>.inr (hL.D _ e).1)
 ·obtain⟨g1,g2⟩:=hL.B p hp
  exact⟨(old _ (zJ g1).1 (fun e=>(hL.D _ e).2 p hp rfl)).trans g1,g2⟩
 ·rw [List.length_append,List.length_singleton,List.map_append,List.flatten_append]
  simpa using h2
 ·rcases List.mem_append.1 hx with hx | hx
  ·exact hL.Z x hx
  ·rw [List.mem_singleton.1 hx];exact hcs
 ·simp [Value.ownBlock] at hk
  subst hk
  rcases h4 with h4 | h4
  ·exact hL.D _ h4
  ·refine⟨by omega,fun p hp=>?_⟩
   have:=(zJ (hL.B p hp).1).1
   omega
 ·obtain⟨P,q1,q2⟩:=hL.E
  refine⟨P,fun k hk=>⟨(q1 k hk).1,by have:=(q1 k hk).2.1;omega,(q1 k hk).2.2.1,fun e=>?_⟩,fun U hU=>q2 U fun k hk=>(hU k hk).trans (old k (q1 k hk).2.1 (q1 k hk).2.2.2)⟩
  simp [Value.ownBlock] at e
  subst e
  rcases h4 with h4 | h4
  ·exact (q1 _ hk).2.2.2 h4
  ·have:=(q1 _ hk).2.1
   omega
 ·exact hL.S.off hL.W (fun k hk=>old k zY (vlow k hk))
theorem HX.fin {w:yW}{b:Nat}{K:PK}{V:yW}{bs:List (Nat × Nat × Array Value)}{e sz:Nat}{v:Value}{vs:List (Array Value)}{F:yW→Prop}{ts:List Tk}(h:HX w b K V bs e sz v vs F ts):Dp w V F∧Lv V b K ts∧Mv w V (fun k=>k=b):=by
 obtain⟨P,h1,h2⟩:=h.E
 exact⟨fun U hU=>h2 U fun k hk=>hU k (h1 k hk).1 (h1 k hk).2.1,h.S,h.M⟩
set_option maxRecDepth 100000
set_option maxHeartbeats 4000000
set_option linter.unusedSimpArgs false
def kwB (x:yB):Bool:=decide ((lx x.data.toList).map (·.1)=some 1∨(lx x.data.toList).map (·.1)=some 4)
theorem QfJ (w:yW) (L:List yB):SLs (w.alloc (.cells (L.map .string).toArray 9)) w§ L:=fun j hj=>by
 rw [Qa (Qc w _) j]
 simp [hj]
theorem Jy {w:yW}{b:Nat}{K:PK}{t:Tk}{ts:List Tk}(h:Lv w b K (t :: ts)) (hK:KG K) (L:List yB) {n:Nat}(hn:L.length=n) (hm:n≤1000) (hL:L.all kwB=true) :
  Calls zG 174 #[zP b,.slice (some w§¢0) n n] (w.alloc (.cells (L.map .string).toArray 9)) fun e w'=>e=.returned (zI (fnd t.x L 0))∧yD w w':=by
 subst hn
 have hb:=Qb w (.cells (L.map .string).toArray 9)
 refine (Qfo (h.on hb) (QfJ w L) hm (fun x hx=>Uc (h.gd hK) ?_)).mono ?_
 ·have:=List.all_eq_true.1 hL x hx
  exact of_decide_eq_true this
 ·rintro e w' ⟨h1,h2⟩
  exact⟨h1,Qd hb h2⟩
theorem HX.b0 {w:yW}{b:Nat}{K:PK}{V:yW}{N T:Nat}{cs:Array Value}{bs:List (Nat × Nat × Array Value)}{e sz:Nat}{v:Value}{vs:List (Array Value)}{F:yW→Prop}{ts:List Tk}(h:HX w b K V ((N,T,cs) :: bs) e sz v vs F ts):V.heap[N]? = (zC cs T):=(h.B _ List.mem_cons_self).1
theorem HX.b1 {w:yW}{b:Nat}{K:PK}{V:yW}{N T:Nat}{cs:Array Value}{q:Nat × Nat × Array Value}{bs:List (Nat × Nat × Array Value)}{e sz:Nat}{v:Value}{vs:List (Array Value)}{F:yW→Prop}{ts:List Tk}(h:HX w b K V (q :: (N,T,cs) :: bs) e sz v vs F ts):V.heap[N]? = (zC cs T):=(h.B _ (List.mem_cons_of_mem _ List.mem_cons_self)).1
theorem HX.b2 {w:yW}{b:Nat}{K:PK}{V:yW}{N T:Nat}{cs:Array Value}{q r:Nat × Nat × Array Value}{bs:List (Nat × Nat × Array Value)}{e sz:Nat}{v:Value}{vs:List (Array Value)}{F:yW→Prop}{ts:List Tk}(h:HX w b K V (q :: r :: (N,T,cs) :: bs) e sz v vs F ts):V.heap[N]? = (zC cs T):=(h.B _ (List.mem_cons_of_mem _ (List.mem_cons_of_mem _ List.mem_cons_self))).1
theorem QH (U:yW) {h:Hd}(hr:Rg h):Lies U (.mk h none 0 []):=.mk h none 0 [] hr (by simp) zY (fun i hi=>by simp at hi) (fun k hk=>by simp at hk)
theorem Qj:(Tryz.prog.info? 38).map (·.size)=some 8:=by kernel_rfl
theorem Qgh {w:yW}{b:Nat}{K:PK}{t:Tk}{ts:List Tk}(h:Lv w b K (t :: ts)) (hk:t.k=3) :
  Calls zG 175 #[zP b] w fun e w'=>e=.returned (.tuple #[.agg #[zU 1,zU 0,zU t.ty,zI t.n,zU 0,yQ,zO,zI t.p],.bool true])∧Lv w' b K ts∧Mv w w' (fun k=>k=b):=by
 have HG0:=((HX.new h 0 0).push zd 38).hid
 obtain⟨W0,eW0⟩:∃ W,w.alloc (.cells zd 38)=W:=jV
 rw [eW0] at HG0
 have hbw:=h.lt
 have cN:=QM HG0.out.S
 unfold tkA at cN
 rw [hk] at cN
 clear h hk
 go_enter func175,ntmps175
 go_wp2_with fail
 try rw [eW0]
 refine cN.mono ?_
 rintro e w1 ⟨rfl,hb⟩
 have HG1:=(((HG0.out.on hb).push #[zU 3,.string t.x,zU t.ty,zI t.n,zI t.p] 233).push #[zU 1,zU 0,zU 0,zI 0,zU 0,yQ,zO,zI t.p] 38).hid
 have hlw:=hb.size
 rw [← eW0,Qe] at hlw
 clear cN hb HG0 eW0
 rw [Qe] at HG1
 go_upto_region 4 with fail
 obtain⟨V,eV⟩:∃ V,(zA w1 #[zU 3,.string t.x,zU t.ty,zI t.n,zI t.p] 233).alloc (.cells #[zU 1,zU 0,zU 0,zI 0,zU 0,yQ,zO,zI t.p] 38)=V:=jV
 rw [eV] at HG1 ⊢
 clear eV
 obtain⟨Q,eQ⟩:∃ Q,w1§=Q:=jV
 rw [eQ] at HG1 hlw ⊢
 clear eQ
 obtain⟨N,eN⟩:∃ N,Q+1=N:=jV
 rw [eN] at HG1 ⊢
 have nQ:¬ Q=N:=by omega
 have nB:¬ b=N:=by omega
 have HG3:=(HX.setA (pre:=[]) (HX.setA (pre:=[]) HG1.out 2 (zU t.ty)) 3 (zI t.n)).hid
 have hT:=HG1.out.b1
 have hN:=HG1.out.b0
 have k0:=Qa hT 0
 have k1:=Qa hT 1
 have k2:=Qa hT 2
 have k3:=Qa hT 3
 have m2:=Qa hN 2
 have f2:=Qf hN 2
 have m3:=Qa hN 3
 have f3:=Qf hN 3
 simp only [List.getElem?_toArray,List.getElem?_cons_zero,List.getElem?_cons_succ] at k0 k1 k2 k3 m2 m3
 clear hT hN HG1 eN
 go_upto_region 16 with fail
 obtain⟨Y,eY⟩:∃ Y,(V.setCell N¢2 (zU t.ty)).setCell N¢3 (zI t.n)=Y:=jV
 rw [eY] at HG3 ⊢
 clear eY k0 k1 k2 k3 m2 f2 m3 f3
 obtain⟨i,c3,g3,hmx,hL,hM,_,_⟩:=HG3.out.S.at'
 have HG4:=(HG3.out.mv hM hL).hid
 clear hL hM
 go_upto_region 17 with fail
 generalize Y.setCell b¢3 _=Z at HG4 ⊢
 have HC:=zH HG4.out.b0
 have HO:=zH HG4.out.b2
 have HF:=(HX.rowA (pre:=[_,_]) HG4.out #[zU 1,zU 0,zU t.ty,zI t.n,zU 0,yQ,zO,zI t.p]).hid
 clear c3 g3 hmx HG3 HG4
 go_wp2_with (first | (refine wpList_load_row rfl 38 (.tmp 5) rfl N rfl 38 #[zU 1,zU 0,zU t.ty,zI t.n,zU 0,yQ,zO,zI t.p] (0,0) _ HC.out underlying38 rfl Qj ?_) | (refine wpList_store_row rfl 38 (.tmp 2) (.tmp 68) rfl w§ #[zU 1,zU 0,zU t.ty,zI t.n,zU 0,yQ,zO,zI t.p] rfl rfl 38 _ HO.out Qj rfl (by simp [Value.oneCell']) ?_))
 exact bodyPost_ret (Qi (p:=2) (u:=3) (ty:=38) rfl _ _ w§ 38 #[zU 1,zU 0,zU t.ty,zI t.n,zU 0,yQ,zO,zI t.p] (0,0) _ rfl HF.out.b2 underlying38 rfl Qj) rfl ⟨rfl,HF.out.S,HF.out.M⟩
theorem Qgi {w:yW}{b:Nat}{K:PK}{t:Tk}{ts:List Tk}(h:Lv w b K (t :: ts)) (hk:t.k=1) (hx:t.x=Zj) :
  Calls zG 175 #[zP b] w fun e w'=>e=.returned (.tuple #[.agg #[zU 1,zU 0,zU 6,zI 1,zU 0,yQ,zO,zI t.p],.bool true])∧Lv w' b K ts∧Mv w w' (fun k=>k=b):=by
 have HG0:=((HX.new h 0 0).push zd 38).hid
 obtain⟨W0,eW0⟩:∃ W,w.alloc (.cells zd 38)=W:=jV
 rw [eW0] at HG0
 have hbw:=h.lt
 have cN:=QM HG0.out.S
 unfold tkA at cN
 rw [hk,hx] at cN
 clear h hk hx
 go_enter func175,ntmps175
 go_wp2_with fail
 try rw [eW0]
 refine cN.mono ?_
 rintro e w1 ⟨rfl,hb⟩
 have HG1:=(((HG0.out.on hb).push #[zU 1,.string Zj,zU t.ty,zI t.n,zI t.p] 233).push #[zU 1,zU 0,zU 0,zI 0,zU 0,yQ,zO,zI t.p] 38).hid
 have hlw:=hb.size
 rw [← eW0,Qe] at hlw
 clear cN hb HG0 eW0
 rw [Qe] at HG1
 go_upto_region 4 with fail
 obtain⟨V,eV⟩:∃ V,(zA w1 #[zU 1,.string Zj,zU t.ty,zI t.n,zI t.p] 233).alloc (.cells #[zU 1,zU 0,zU 0,zI 0,zU 0,yQ,zO,zI t.p] 38)=V:=jV
 rw [eV] at HG1 ⊢
 clear eV
 obtain⟨Q,eQ⟩:∃ Q,w1§=Q:=jV
 rw [eQ] at HG1 hlw ⊢
 clear eQ
 obtain⟨N,eN⟩:∃ N,Q+1=N:=jV
 rw [eN] at HG1 ⊢
 have nQ:¬ Q=N:=by omega
 have nB:¬ b=N:=by omega
 have HG3:=(HX.setA (pre:=[]) (HX.setA (pre:=[]) HG1.out 2 (zU 6)) 3 (zI 1)).hid
 have hT:=HG1.out.b1
 have hN:=HG1.out.b0
 have k0:=Qa hT 0
 have k1:=Qa hT 1
 have k2:=Qa hT 2
 have k3:=Qa hT 3
 have m2:=Qa hN 2
 have f2:=Qf hN 2
 have m3:=Qa hN 3
 have f3:=Qf hN 3
 simp only [List.getElem?_toArray,List.getElem?_cons_zero,List.getElem?_cons_succ] at k0 k1 k2 k3 m2 m3
 clear hT hN HG1 eN
 go_upto_region 16 with fail
 obtain⟨Y,eY⟩:∃ Y,(V.setCell N¢2 (zU 6)).setCell N¢3 (zI 1)=Y:=jV
 rw [eY] at HG3 ⊢
 clear eY k0 k1 k2 k3 m2 f2 m3 f3
 obtain⟨i,c3,g3,hmx,hL,hM,_,_⟩:=HG3.out.S.at'
 have HG4:=(HG3.out.mv hM hL).hid
 clear hL hM
 go_upto_region 17 with fail
 generalize Y.setCell b¢3 _=Z at HG4 ⊢
 have HC:=zH HG4.out.b0
 have HO:=zH HG4.out.b2
 have HF:=(HX.rowA (pre:=[_,_]) HG4.out #[zU 1,zU 0,zU 6,zI 1,zU 0,yQ,zO,zI t.p]).hid
 clear c3 g3 hmx HG3 HG4
 go_wp2_with (first | (refine wpList_load_row rfl 38 (.tmp 5) rfl N rfl 38 #[zU 1,zU 0,zU 6,zI 1,zU 0,yQ,zO,zI t.p] (0,0) _ HC.out underlying38 rfl Qj ?_) | (refine wpList_store_row rfl 38 (.tmp 2) (.tmp 68) rfl w§ #[zU 1,zU 0,zU 6,zI 1,zU 0,yQ,zO,zI t.p] rfl rfl 38 _ HO.out Qj rfl (by simp [Value.oneCell']) ?_))
 exact bodyPost_ret (Qi (p:=2) (u:=3) (ty:=38) rfl _ _ w§ 38 #[zU 1,zU 0,zU 6,zI 1,zU 0,yQ,zO,zI t.p] (0,0) _ rfl HF.out.b2 underlying38 rfl Qj) rfl ⟨rfl,HF.out.S,HF.out.M⟩
theorem RgT.num {t:Tk}(h:RgT t):Rg ⟨1,0,t.ty,t.n,0,gE,t.p⟩:=by
 have:=h.y0;have:=h.y1;have:=h.n0;have:=h.n1;have:=h.p0;have:=h.p1
 constructor <;> first | assumption | omega | (simp only;omega) | (show gE.size≤140737488355328;decide)
theorem RgT.tru {t:Tk}(h:RgT t):Rg ⟨1,0,6,1,0,gE,t.p⟩:=by
 have:=h.p0;have:=h.p1
 constructor <;> first | assumption | omega | (simp only;omega) | (show gE.size≤140737488355328;decide)
theorem Qhf {w:yW}{b:Nat}{K:PK}{t:Tk}{ts ts':List Tk}{r:Tr}(hK:KG K) (h:Lv w b K (t :: ts)) (hp:pLit (t :: ts)=some (r,ts')) :
  Calls zG 175 #[zP b] w fun e w'=>∃ m:Nd,e=.returned (.tuple #[.agg m.vals,.bool true])∧Qs m=r∧(∀ U,Lies U m)∧Lv w' b K ts'∧Mv w w' (fun k=>k=b):=by
 have hr:=(h.ok hK.k).r
 simp only [pLit] at hp
 by_cases h3:t.k=3
 ·rw [if_pos h3] at hp
  cases hp
  refine (Qgh h h3).mono ?_
  rintro e w' ⟨rfl,h1,h2⟩
  exact⟨.mk ⟨1,0,t.ty,t.n,0,gE,t.p⟩ none 0 [],rfl,rfl,fun U=>QH U hr.num,h1,h2⟩
 ·rw [if_neg h3] at hp
  by_cases h1:t.k=1∧t.x=Zj
  ·rw [if_pos h1] at hp
   cases hp
   refine (Qgi h h1.1 h1.2).mono ?_
   rintro e w' ⟨rfl,h1,h2⟩
   exact⟨.mk ⟨1,0,6,1,0,gE,t.p⟩ none 0 [],rfl,rfl,fun U=>QH U hr.tru,h1,h2⟩
  ·rw [if_neg h1] at hp
   cases hp
end Go.Proofs.YtfbjofnaghjmeaaGreatDoor
