import Derived.Test.YtoogodlnnijikaaGreatDoorA0
import Derived.Test.YtoogodlnnijikaaGreatDoorA10
import Derived.Test.YtoogodlnnijikaaGreatDoorA7
import Derived.Deep.MidRow
namespace Go.Proofs.YtoogodlnnijikaaGreatDoor
open Go.RowKit
set_option linter.unusedVariables false
def B8 (i:Int):Prop:=0≤i∧i≤255
def I64 (i:Int):Prop:=-9223372036854775808≤i∧i≤9223372036854775807
def SzX (x:ByteArray):Prop:=x.size≤140737488355328
def SlAt (w:World) (n:Nat) (a:Option Addr) (c:Nat) (vs:List (Array Value)):Prop :=
 vs.length≤c∧c≤9223372036854775807∧∀ i (hi:i < vs.length),∃ b o,a=some ⟨b,o,none⟩∧∀ j,j < n→w.cell? ⟨b,o+i * n+j,none⟩=vs[i][j]?
structure RegM where
 x:ByteArray
 t:Int
 m:Nd
 p:Int
structure SlotM where
 x:ByteArray
 p:Int
structure DoM where
 k:Int
 o:Int
 x:ByteArray
 sd:Nd
 qt:Nd
 pr:Nd
 vl:Nd
 p:Int
structure RuleM where
 m:Nd
 a:Option Addr
 c:Nat
 ds:List DoM
 p:Int
structure StateM where
 x:ByteArray
 a:Option Addr
 c:Nat
 rs:List RuleM
 p:Int
structure StratM where
 x:ByteArray
 ra:Option Addr
 rc:Nat
 rs:List RegM
 sa:Option Addr
 sc:Nat
 ss:List SlotM
 ta:Option Addr
 tc:Nat
 ts:List StateM
def RegM.vals (r:RegM):Array Value:=⟨.string r.x :: zU r.t :: zU r.m.h.k :: zU r.m.h.o :: zU r.m.h.t :: zI r.m.h.n :: zU r.m.h.f :: .string r.m.h.x :: .slice r.m.a r.m.ks.length r.m.c :: zI r.m.h.p :: zI r.p :: []⟩
def SlotM.vals (r:SlotM):Array Value:=#[.string r.x,zI r.p]
def doA (k o:Int) (x:ByteArray) (s q r v:Nd) (p:Int):Array Value:=⟨zU k :: zU o :: .string x :: zU s.h.k :: zU s.h.o :: zU s.h.t :: zI s.h.n :: zU s.h.f :: .string s.h.x :: .slice s.a s.ks.length s.c :: zI s.h.p :: zU q.h.k :: zU q.h.o :: zU q.h.t :: zI q.h.n :: zU q.h.f :: .string q.h.x :: .slice q.a q.ks.length q.c :: zI q.h.p :: zU r.h.k :: zU r.h.o :: zU r.h.t :: zI r.h.n :: zU r.h.f :: .string r.h.x :: .slice r.a r.ks.length r.c :: zI r.h.p :: zU v.h.k :: zU v.h.o :: zU v.h.t :: zI v.h.n :: zU v.h.f :: .string v.h.x :: .slice v.a v.ks.length v.c :: zI v.h.p :: zI p :: []⟩
def DoM.vals (d:DoM):Array Value:=doA d.k d.o d.x d.sd d.qt d.pr d.vl d.p
def RuleM.vals (r:RuleM):Array Value:=⟨zU r.m.h.k :: zU r.m.h.o :: zU r.m.h.t :: zI r.m.h.n :: zU r.m.h.f :: .string r.m.h.x :: .slice r.m.a r.m.ks.length r.m.c :: zI r.m.h.p :: .slice r.a r.ds.length r.c :: zI r.p :: []⟩
def StateM.vals (r:StateM):Array Value:=#[.string r.x,.slice r.a r.rs.length r.c,zI r.p]
def StratM.vals (r:StratM):Array Value:=#[.string r.x,.slice r.ra r.rs.length r.rc,.slice r.sa r.ss.length r.sc,.slice r.ta r.ts.length r.tc]
def RegL (w:World) (r:RegM):Prop:=Lies w r.m∧B8 r.t∧I64 r.p∧SzX r.x
def SlotL (r:SlotM):Prop:=I64 r.p∧SzX r.x
def DoL (w:World) (d:DoM):Prop:=Lies w d.sd∧Lies w d.qt∧Lies w d.pr∧Lies w d.vl∧B8 d.k∧B8 d.o∧I64 d.p∧SzX d.x
def RuleL (w:World) (r:RuleM):Prop:=Lies w r.m∧SlAt w 36 r.a r.c (r.ds.map DoM.vals)∧(∀ d ∈ r.ds,DoL w d)∧I64 r.p
def StateL (w:World) (s:StateM):Prop:=SlAt w 10 s.a s.c (s.rs.map RuleM.vals)∧(∀ r ∈ s.rs,RuleL w r)∧I64 s.p∧SzX s.x
def StratL (w:World) (S:StratM):Prop :=
 SlAt w 11 S.ra S.rc (S.rs.map RegM.vals)∧(∀ r ∈ S.rs,RegL w r)∧SlAt w 2 S.sa S.sc (S.ss.map SlotM.vals)∧(∀ r ∈ S.ss,SlotL r)∧SlAt w 3 S.ta S.tc (S.ts.map StateM.vals)∧(∀ r ∈ S.ts,StateL w r)∧SzX S.x
def RegM.tr (r:RegM):RegT:=⟨r.x,r.t,treeOf r.m,r.p⟩
def SlotM.tr (r:SlotM):SlotT:=⟨r.x,r.p⟩
def DoM.tr (d:DoM):DoT:=⟨d.k,d.o,d.x,treeOf d.sd,treeOf d.qt,treeOf d.pr,treeOf d.vl,d.p⟩
def RuleM.tr (r:RuleM):RuleT:=⟨treeOf r.m,r.ds.map DoM.tr,r.p⟩
def StateM.tr (r:StateM):StateT:=⟨r.x,r.rs.map RuleM.tr,r.p⟩
def StratM.tr (r:StratM):StratT:=⟨r.x,r.rs.map RegM.tr,r.ss.map SlotM.tr,r.ts.map StateM.tr⟩
theorem SlAt.lt {w:World}{n:Nat}{a:Option Addr}{c:Nat}{vs:List (Array Value)}(h:SlAt w n a c vs):vs.length≤c:=h.1
theorem SlAt.on {w w':World}{n:Nat}{a:Option Addr}{c:Nat}{vs:List (Array Value)}(h:SlAt w n a c vs) (hz:∀ x ∈ vs,n≤x.size) (k:Below w§ w w'):SlAt w' n a c vs:=by
 refine⟨h.1,h.2.1,fun i hi=>?_⟩
 obtain⟨b,o,h1,h2⟩:=h.2.2 i hi
 refine⟨b,o,h1,fun j hj=>?_⟩
 have hs:=hz _ (List.getElem_mem hi)
 have h3:=h2 j hj
 rw [Array.getElem?_eq_getElem (by omega)] at h3
 rw [World.cell?_of_block (k.block b (World.block_lt_of_cell? w _ h3))]
 rw [h3,Array.getElem?_eq_getElem (by omega)]
theorem RegL.on {w w':World}{r:RegM}(h:RegL w r) (k:Below w§ w w'):RegL w' r:=⟨h.1.on k,h.2⟩
theorem DoL.on {w w':World}{r:DoM}(h:DoL w r) (k:Below w§ w w'):DoL w' r:=⟨h.1.on k,h.2.1.on k,h.2.2.1.on k,h.2.2.2.1.on k,h.2.2.2.2⟩
theorem mapz {α:Type}{f:α→Array Value}{n:Nat}(hf:∀ a,(f a).size=n) (l:List α):∀ x ∈ l.map f,n≤x.size:=by
 intro x hx
 obtain⟨a,_,rfl⟩:=List.mem_map.1 hx
 rw [hf a]
 exact Nat.le_refl _
theorem RegM.sz (r:RegM):r.vals.size=11:=rfl
theorem SlotM.sz (r:SlotM):r.vals.size=2:=rfl
theorem DoM.sz (r:DoM):r.vals.size=36:=rfl
theorem RuleM.sz (r:RuleM):r.vals.size=10:=rfl
theorem StateM.sz (r:StateM):r.vals.size=3:=rfl
theorem RuleL.on {w w':World}{r:RuleM}(h:RuleL w r) (k:Below w§ w w'):RuleL w' r:=⟨h.1.on k,h.2.1.on (mapz DoM.sz _) k,fun d hd=>(h.2.2.1 d hd).on k,h.2.2.2⟩
theorem StateL.on {w w':World}{r:StateM}(h:StateL w r) (k:Below w§ w w'):StateL w' r:=⟨h.1.on (mapz RuleM.sz _) k,fun d hd=>(h.2.1 d hd).on k,h.2.2⟩
theorem StratL.on {w w':World}{r:StratM}(h:StratL w r) (k:Below w§ w w'):StratL w' r :=
 ⟨h.1.on (mapz RegM.sz _) k,fun d hd=>(h.2.1 d hd).on k,h.2.2.1.on (mapz SlotM.sz _) k,h.2.2.2.1,h.2.2.2.2.1.on (mapz StateM.sz _) k,fun d hd=>(h.2.2.2.2.2.1 d hd).on k,h.2.2.2.2.2.2⟩
def Dp (w w':World) (F:World→Prop):Prop:=∀ U:World,(∀ k,w§≤k→k < w'§→U.heap[k]? = w'.heap[k]?)→F U
theorem Dp.imp {w w':World}{F G:World→Prop}(h:Dp w w' F) (k:∀ U,F U→G U):Dp w w' G:=fun U hU=>k U (h U hU)
structure HX (w:World) (b:Nat) (K:PK) (V:World) (bs:List (Nat × Nat × Array Value)) (e sz:Nat) (v:Value) (vs:List (Array Value)) (F:World→Prop) (ts:List Tk):Prop where
 M:Mv w V (fun k=>k=b)
 B:∀ p ∈ bs,V.heap[p.1]? = some (.cells p.2.2 p.2.1 (0,0))∧w§≤p.1
 N:(bs.map (·.1)).Nodup
 R:V.ownsRow 0 e sz v vs.length (vs.map Array.toList).flatten
 Z:∀ x ∈ vs,x.size=sz
 D:∀ k,v.ownBlock=some k→w§≤k∧∀ p ∈ bs,p.1≠k
 E:∃ P:Nat→Prop,(∀ k,P k→w§≤k∧k < V§∧(∀ p ∈ bs,p.1≠k)∧v.ownBlock≠some k)∧∀ U:World,(∀ k,P k→U.heap[k]? = V.heap[k]?)→F U
 S:Lv V b K ts
 W:Lw w§ b K
theorem HX.hid {w:World}{b:Nat}{K:PK}{V:World}{bs:List (Nat × Nat × Array Value)}{e sz:Nat}{v:Value}{vs:List (Array Value)}{F:World→Prop}{ts:List Tk}(h:HX w b K V bs e sz v vs F ts):Hid (HX w b K V bs e sz v vs F ts):=h
theorem HX.new {w:World}{b:Nat}{K:PK}{ts:List Tk}(h:Lv w b K ts) (e sz:Nat):HX w b K w [] e sz (.slice none 0 0) [] (fun _=>True) ts :=
 ⟨Mv.refl _ _,(fun p hp=>by simp at hp),by simp,World.ownsRow_nil w 0 e sz,(fun p hp=>by simp at hp),(fun k hk=>by simp [Value.ownBlock] at hk),⟨fun _=>False,fun k hk=>hk.elim,fun _ _=>trivial⟩,h,h.lw⟩
theorem HX.vlt {w:World}{b:Nat}{K:PK}{V:World}{bs:List (Nat × Nat × Array Value)}{e sz:Nat}{v:Value}{vs:List (Array Value)}{F:World→Prop}{ts:List Tk}(h:HX w b K V bs e sz v vs F ts):∀ k,v.ownBlock=some k→k < V§:=fun k hk=>(World.ownsRow.lt h.R k hk).2
theorem HX.mv {w:World}{b:Nat}{K:PK}{V:World}{bs:List (Nat × Nat × Array Value)}{e sz:Nat}{v:Value}{vs:List (Array Value)}{F:World→Prop}{ts:List Tk}{V':World}{ts':List Tk}(h:HX w b K V bs e sz v vs F ts) (hm:Mv V V' (fun k=>k=b)) (hs:Lv V' b K ts'):HX w b K V' bs e sz v vs F ts':=by
 have hb:=h.W.1
 refine⟨h.M.trans hm (fun _ e=>.inl e),fun p hp=>?_,h.N,owns_blk h.R fun k hk=>hm.block k (h.vlt k hk) (by have:=(h.D k hk).1; omega),h.Z,h.D,?_,hs,h.W⟩
 ·obtain⟨h1,h2⟩:=h.B p hp
  exact⟨(hm.block _ (Array.getElem?_eq_some_iff.1 h1).1 (by omega)).trans h1,h2⟩
 ·obtain⟨P,h1,h2⟩:=h.E
  refine⟨P,fun k hk=>⟨(h1 k hk).1,by have:=(h1 k hk).2.1; have:=hm.size; omega,(h1 k hk).2.2⟩,fun U hU=>h2 U fun k hk=>(hU k hk).trans (hm.block k (h1 k hk).2.1 (by have:=(h1 k hk).1; omega))⟩
theorem HX.on {w:World}{b:Nat}{K:PK}{V:World}{bs:List (Nat × Nat × Array Value)}{e sz:Nat}{v:Value}{vs:List (Array Value)}{F:World→Prop}{ts:List Tk}{V':World}(h:HX w b K V bs e sz v vs F ts) (k:Below V§ V V'):HX w b K V' bs e sz v vs F ts:=h.mv (Mv.ofBelow k) (h.S.on k)
theorem HX.drew {w:World}{b:Nat}{K:PK}{V:World}{bs:List (Nat × Nat × Array Value)}{e sz:Nat}{v:Value}{vs:List (Array Value)}{F:World→Prop}{ts:List Tk}(h:HX w b K V bs e sz v vs F ts):HX w b K V.drew bs e sz v vs F ts:=h.on ((Below.refl _ V).drew)
theorem HX.add {w:World}{b:Nat}{K:PK}{V:World}{bs:List (Nat × Nat × Array Value)}{e sz:Nat}{v:Value}{vs:List (Array Value)}{F:World→Prop}{ts:List Tk}{V':World}{ts':List Tk}{G:World→Prop}(h:HX w b K V bs e sz v vs F ts) (hm:Mv V V' (fun k=>k=b)) (hs:Lv V' b K ts') (hG:Dp V V' G):HX w b K V' bs e sz v vs (fun U=>F U∧G U) ts':=by
 have h':=h.mv hm hs
 refine⟨h'.M,h'.B,h'.N,h'.R,h'.Z,h'.D,?_,h'.S,h'.W⟩
 obtain⟨P,h1,h2⟩:=h'.E
 refine⟨fun k=>P k∨(V§≤k∧k < V'§),fun k hk=>?_,fun U hU=>⟨h2 U fun k hk=>hU k (.inl hk),hG U fun k a c=>hU k (.inr ⟨a,c⟩)⟩⟩
 rcases hk with hk | hk
 ·exact h1 k hk
 ·refine⟨by have:=h.M.size; omega,hk.2,fun p hp=>?_,fun e=>?_⟩
  ·have:=(Array.getElem?_eq_some_iff.1 (h.B p hp).1).1
   omega
  ·have:=h.vlt k e
   omega
theorem HX.imp {w:World}{b:Nat}{K:PK}{V:World}{bs:List (Nat × Nat × Array Value)}{e sz:Nat}{v:Value}{vs:List (Array Value)}{F:World→Prop}{ts:List Tk}{G:World→Prop}(h:HX w b K V bs e sz v vs F ts) (k:∀ U,F U→G U):HX w b K V bs e sz v vs G ts:=by
 obtain⟨P,h1,h2⟩:=h.E
 exact⟨h.M,h.B,h.N,h.R,h.Z,h.D,⟨P,h1,fun U hU=>k U (h2 U hU)⟩,h.S,h.W⟩
theorem HX.push {w:World}{b:Nat}{K:PK}{V:World}{bs:List (Nat × Nat × Array Value)}{e sz:Nat}{v:Value}{vs:List (Array Value)}{F:World→Prop}{ts:List Tk}(h:HX w b K V bs e sz v vs F ts) (cs:Array Value) (T:Nat):HX w b K (V.alloc (.cells cs T)) ((V§,T,cs) :: bs) e sz v vs F ts:=by
 have h':=h.on (below_new V (.cells cs T))
 refine⟨h'.M,fun p hp=>?_,?_,h'.R,h'.Z,fun k hk=>⟨(h.D k hk).1,fun p hp=>?_⟩,?_,h'.S,h'.W⟩
 ·rcases List.mem_cons.1 hp with e | e
  ·rw [e]
   exact⟨heap_new _ _,h.M.size⟩
  ·exact h'.B p e
 ·rw [List.map_cons,List.nodup_cons]
  refine⟨fun hm=>?_,h.N⟩
  obtain⟨q,hq,e⟩:=List.mem_map.1 hm
  have:=(Array.getElem?_eq_some_iff.1 (h.B q hq).1).1
  have e:q.1=V§:=e
  omega
 ·rcases List.mem_cons.1 hp with e | e
  ·rw [e]
   have:=h.vlt k hk
   show V§≠k
   omega
  ·exact (h.D k hk).2 p e
 ·obtain⟨P,h1,h2⟩:=h'.E
  obtain⟨P',g1,g2⟩:=h.E
  refine⟨P',fun k hk=>⟨(g1 k hk).1,by have:=(g1 k hk).2.1; rw [size_alloc]; omega,fun p hp=>?_,(g1 k hk).2.2.2⟩,fun U hU=>g2 U fun k hk=>(hU k hk).trans (Below.heap_alloc _ _ _ (g1 k hk).2.1)⟩
  rcases List.mem_cons.1 hp with e | e
  ·rw [e]
   have:=(g1 k hk).2.1
   show V§≠k
   omega
  ·exact (g1 k hk).2.2.1 p e
theorem HX.pop {w:World}{b:Nat}{K:PK}{V:World}{bs:List (Nat × Nat × Array Value)}{e sz:Nat}{v:Value}{vs:List (Array Value)}{F:World→Prop}{ts:List Tk}{q:Nat × Nat × Array Value}(h:HX w b K V (q :: bs) e sz v vs F ts):HX w b K V bs e sz v vs F ts:=by
 obtain⟨P,h1,h2⟩:=h.E
 have hn:=h.N
 rw [List.map_cons,List.nodup_cons] at hn
 exact⟨h.M,fun p hp=>h.B p (List.mem_cons_of_mem _ hp),hn.2,h.R,h.Z,fun k hk=>⟨(h.D k hk).1,fun p hp=>(h.D k hk).2 p (List.mem_cons_of_mem _ hp)⟩,⟨P,fun k hk=>⟨(h1 k hk).1,(h1 k hk).2.1,fun p hp=>(h1 k hk).2.2.1 p (List.mem_cons_of_mem _ hp),(h1 k hk).2.2.2⟩,h2⟩,h.S,h.W⟩
theorem HX.upd {w:World}{b:Nat}{K:PK}{V:World}{pre post:List (Nat × Nat × Array Value)}{N T:Nat}{cs:Array Value}{e sz:Nat}{v:Value}{vs:List (Array Value)}{F:World→Prop}{ts:List Tk}(h:HX w b K V (pre ++ (N,T,cs) :: post) e sz v vs F ts) {V':World}(cs':Array Value) (ho:V'.os=V.os) (ht:V'.tape=V.tape) (hu:V'.output=V.output) (hz:V'§=V§) (hn:∀ k,k≠N→V'.heap[k]? = V.heap[k]?) (hN:V'.heap[N]? = some (.cells cs' T (0,0))) :
  HX w b K V' (pre ++ (N,T,cs') :: post) e sz v vs F ts:=by
 have hw:w§≤N:=(h.B (N,T,cs) (by simp)).2
 have hf:∀ p ∈ pre ++ (N,T,cs') :: post,∃ q ∈ pre ++ (N,T,cs) :: post,q.1=p.1:=by
  intro p hp
  rcases List.mem_append.1 hp with hp | hp
  ·exact⟨p,List.mem_append.2 (.inl hp),rfl⟩
  ·rcases List.mem_cons.1 hp with hp | hp
   ·exact⟨(N,T,cs),by simp,by rw [hp]⟩
   ·exact⟨p,List.mem_append.2 (.inr (List.mem_cons_of_mem _ hp)),rfl⟩
 have hnd:=h.N
 rw [List.map_append,List.map_cons,List.nodup_append] at hnd
 have hnd2:=hnd.2.1
 rw [List.nodup_cons] at hnd2
 refine⟨⟨ho.trans h.M.os,ht.trans h.M.tape,hu.trans h.M.output,by rw [hz]; exact h.M.size,fun k hk hb=>(hn k (by omega)).trans (h.M.block k hk hb)⟩,fun p hp=>?_,by rw [List.map_append,List.map_cons]; have:=h.N; rwa [List.map_append,List.map_cons] at this,owns_blk h.R fun k hk=>hn k (fun c=>(h.D k hk).2 (N,T,cs) (by simp) c.symm),h.Z,fun k hk=>⟨(h.D k hk).1,fun p hp=>?_⟩,?_,h.S.off h.W (fun k hk=>hn k (by omega)),h.W⟩
 ·rcases List.mem_append.1 hp with hp' | hp'
  ·obtain⟨g1,g2⟩:=h.B p (List.mem_append.2 (.inl hp'))
   refine⟨(hn _ (fun c=>?_)).trans g1,g2⟩
   exact hnd.2.2 p.1 (List.mem_map.2 ⟨p,hp',rfl⟩) N (by simp) c
  ·rcases List.mem_cons.1 hp' with hp' | hp'
   ·rw [hp']
    exact⟨hN,hw⟩
   ·obtain⟨g1,g2⟩:=h.B p (List.mem_append.2 (.inr (List.mem_cons_of_mem _ hp')))
    refine⟨(hn _ (fun c=>?_)).trans g1,g2⟩
    exact hnd2.1 (List.mem_map.2 ⟨p,hp',c⟩)
 ·obtain⟨q,hq,e⟩:=hf p hp
  rw [← e]
  exact (h.D k hk).2 q hq
 ·obtain⟨P,h1,h2⟩:=h.E
  refine⟨P,fun k hk=>⟨(h1 k hk).1,by rw [hz]; exact (h1 k hk).2.1,fun p hp=>?_,(h1 k hk).2.2.2⟩,fun U hU=>h2 U fun k hk=>(hU k hk).trans (hn k (fun c=>(h1 k hk).2.2.1 (N,T,cs) (by simp) c.symm))⟩
  obtain⟨q,hq,e⟩:=hf p hp
  rw [← e]
  exact (h1 k hk).2.2.1 q hq
theorem HX.setA {w:World}{b:Nat}{K:PK}{V:World}{pre post:List (Nat × Nat × Array Value)}{N T:Nat}{cs:Array Value}{e sz:Nat}{v:Value}{vs:List (Array Value)}{F:World→Prop}{ts:List Tk}(h:HX w b K V (pre ++ (N,T,cs) :: post) e sz v vs F ts) (i:Nat) (x:Value):HX w b K (V.setCell ⟨N,i,none⟩ x) (pre ++ (N,T,cs.setIfInBounds i x) :: post) e sz v vs F ts :=
 h.upd _ rfl rfl rfl (by simp [World.setCell]) (fun k hk=>Below.heap_setCell _ _ _ _ (show k≠N from hk)) (heap_set x (h.B (N,T,cs) (by simp)).1)
theorem HX.rowA {w:World}{b:Nat}{K:PK}{V:World}{pre post:List (Nat × Nat × Array Value)}{N T:Nat}{cs:Array Value}{e sz:Nat}{v:Value}{vs:List (Array Value)}{F:World→Prop}{ts:List Tk}(h:HX w b K V (pre ++ (N,T,cs) :: post) e sz v vs F ts) (cs':Array Value):HX w b K (V.setRow N cs') (pre ++ (N,T,cs') :: post) e sz v vs F ts :=
 h.upd _ rfl rfl rfl (by unfold World.setRow; simp) (fun k hk=>setRow_oth _ _ _ hk) (setRow_heap V N cs cs' T (0,0) (h.B (N,T,cs) (by simp)).1)
def set8 (cs:Array Value) (o:Nat) (m:Nd):Array Value :=
 (((((((cs.setIfInBounds o (zU m.h.k)).setIfInBounds (o+1) (zU m.h.o)).setIfInBounds (o+2) (zU m.h.t)).setIfInBounds (o+3) (zI m.h.n)).setIfInBounds (o+4) (zU m.h.f)).setIfInBounds (o+5) (.string m.h.x)).setIfInBounds (o+6) (.slice m.a m.ks.length m.c)).setIfInBounds (o+7) (zI m.h.p)
theorem HX.nodeA {w:World}{b:Nat}{K:PK}{V:World}{pre post:List (Nat × Nat × Array Value)}{N T:Nat}{cs:Array Value}{e sz:Nat}{v:Value}{vs:List (Array Value)}{F:World→Prop}{ts:List Tk}(h:HX w b K V (pre ++ (N,T,cs) :: post) e sz v vs F ts) (o:Nat) (m:Nd) :
  HX w b K ((((((((V.setCell ⟨N,o,none⟩ (zU m.h.k)).setCell ⟨N,o+1,none⟩ (zU m.h.o)).setCell ⟨N,o+2,none⟩ (zU m.h.t)).setCell ⟨N,o+3,none⟩ (zI m.h.n)).setCell ⟨N,o+4,none⟩ (zU m.h.f)).setCell ⟨N,o+5,none⟩ (.string m.h.x)).setCell ⟨N,o+6,none⟩ (.slice m.a m.ks.length m.c)).setCell ⟨N,o+7,none⟩ (zI m.h.p)) (pre ++ (N,T,set8 cs o m) :: post) e sz v vs F ts :=
 (((((((h.setA _ _).setA _ _).setA _ _).setA _ _).setA _ _).setA _ _).setA _ _).setA _ _
theorem flat_at {sz:Nat}:∀ (vs:List (Array Value)),(∀ x ∈ vs,x.size=sz)→∀ i (hi:i < vs.length) j,j < sz→(vs.map Array.toList).flatten[i * sz+j]? = vs[i][j]?
 | [],_,i,hi,_,_=>by simp at hi
 | x :: xs,h,0,hi,j,hj=>by
  have hx:=h x (by simp)
  rw [List.map_cons,List.flatten_cons,Nat.zero_mul,Nat.zero_add,List.getElem?_append_left (by rw [Array.length_toList,hx]; exact hj)]
  simp
 | x :: xs,h,i+1,hi,j,hj=>by
  have hx:=h x (by simp)
  rw [List.map_cons,List.flatten_cons,List.getElem?_append_right (by rw [Array.length_toList,hx,Nat.succ_mul]; omega),Array.length_toList,hx,show (i+1) * sz+j - sz=i * sz+j by rw [Nat.succ_mul]; omega]
  exact flat_at xs (fun y hy=>h y (List.mem_cons_of_mem _ hy)) i (by simpa using hi) j hj
theorem HX.retire {w:World}{b:Nat}{K:PK}{V:World}{bs:List (Nat × Nat × Array Value)}{e sz:Nat}{v:Value}{vs:List (Array Value)}{F:World→Prop}{ts:List Tk}(h:HX w b K V bs e sz v vs F ts) (e' sz':Nat):∃ a c,v=.slice a vs.length c∧HX w b K V bs e' sz' (.slice none 0 0) [] (fun U=>F U∧SlAt U sz a c vs) ts:=by
 have hR:=h.R
 obtain⟨P,h1,h2⟩:=h.E
 have mk:∀ (G:World→Prop) (Q:Nat→Prop),(∀ k,Q k→w§≤k∧k < V§∧(∀ p ∈ bs,p.1≠k))→(∀ U:World,(∀ k,Q k→U.heap[k]? = V.heap[k]?)→G U)→HX w b K V bs e' sz' (.slice none 0 0) [] G ts:=fun G Q q1 q2 =>
  ⟨h.M,h.B,h.N,World.ownsRow_nil V 0 e' sz',(fun p hp=>by simp at hp),(fun k hk=>by simp [Value.ownBlock] at hk),⟨Q,fun k hk=>⟨(q1 k hk).1,(q1 k hk).2.1,(q1 k hk).2.2,by simp [Value.ownBlock]⟩,q2⟩,h.S,h.W⟩
 rcases hR.2 with ⟨rfl,h0⟩ | ⟨g,cap,cur,rfl,_,hg,hc1,hc2,hc3,hc4⟩
 ·have hv:vs = []:=List.eq_nil_of_length_eq_zero h0
  subst hv
  exact⟨none,0,rfl,mk _ P (fun k hk=>⟨(h1 k hk).1,(h1 k hk).2.1,(h1 k hk).2.2.1⟩) (fun U hU=>⟨h2 U hU,by simp,by omega,fun i hi=>by simp at hi⟩)⟩
 ·refine⟨some ⟨g,0,none⟩,cap,rfl,mk _ (fun k=>P k∨k=g) (fun k hk=>?_) (fun U hU=>⟨h2 U fun k hk=>hU k (.inl hk),hc1,by unfold maxLen at hc2; omega,fun i hi=>⟨g,0,rfl,fun j hj=>?_⟩⟩)⟩
  ·rcases hk with hk | hk
   ·exact⟨(h1 k hk).1,(h1 k hk).2.1,(h1 k hk).2.2.1⟩
   ·subst hk
    obtain⟨q1,q2⟩:=h.D k rfl
    exact⟨q1,(Array.getElem?_eq_some_iff.1 hg).1,q2⟩
  ·have hU2:U.heap[g]? = some (.cells cur e (0,0)):=(hU g (.inr rfl)).trans hg
   have hlt:i * sz+j < vs.length * sz:=by
    have:(i+1) * sz≤vs.length * sz:=Nat.mul_le_mul_right _ hi
    rw [Nat.succ_mul] at this
    omega
   rw [Nat.zero_add,cell_of hU2,← flat_at vs h.Z i hi j hj,← hc4,List.getElem?_take_of_lt hlt]
   simp
theorem app_h {w:World}{b:Nat}{K:PK}{V:World}{bs:List (Nat × Nat × Array Value)}{e sz:Nat}{v:Value}{vs:List (Array Value)}{F:World→Prop}{ts:List Tk}(hL:HX w b K V bs e sz v vs F ts) (t:TypeId) (cs:Array Value) (hcs:cs.size=sz) (h1:cs.all (·.oneCell')=true)
  (z:Value) (by_:Nat) (ht:Tryz.prog.underlying t=some (.slice e)) (hi:(Tryz.prog.info? e).map (fun i=>(i.zero,i.size,i.bytes))=some (some z,sz,by_)) (hz:z.cells.size=sz) (h0:0 < sz) (hn:vs.length≤1000) (hby:by_≤1000000)
  {ops:Array Oper}{rest:List Oper}{o:Oper}{a:Act}{Q:Exit→Act→World→Prop}(hgd:o.guard=none) (d x:Operand)
  (ho:o.op=.call { callee:=.builtin .append,args:=#[d,x],argTypes:=#[t,t] }) (hs:a.eval d=v) (hx:a.eval x=.slice (some ⟨V§,0,none⟩) 1 1)
  (h:∀ g cap w',HX w b K w' bs e sz (.slice (some ⟨g,0,none⟩) (vs.length+1) cap) (vs ++ [cs]) F ts→wpList Tryz.prog ops Q rest (a.put o.dst (.slice (some ⟨g,0,none⟩) (vs.length+1) cap)) w') :
  wpList Tryz.prog ops Q (o :: rest) a (V.alloc (.cells cs e)):=by
 obtain⟨i0,hi0,hz0,hz1,hz2⟩:=info_parts hi
 have hr:=hL.R
 have hsz:=size_alloc V (.cells cs e)
 have hby2:(vs.length+1) * by_≤140737488355328:=by
  have:(vs.length+1) * by_≤1001 * 1000000:=Nat.mul_le_mul (by omega) hby
  omega
 refine wpList_append_lies _ hgd d x t ho 0 e i0 z sz by_ ht hi0 hz0 hz1 hz2 hz h0 v vs.length _ hs (World.ownsRow.alloc hr _) ⟨V§,0,none⟩ 1 1 cs.toList hx (by simp; exact hcs) (World.news_of_block (heap_new V _)) (fun u hu=>(Array.all_eq_true_iff_forall_mem.1 h1) u (by simpa using hu)) (by decide) (by unfold maxLen; omega) hby2 (Nat.zero_le _) _ rfl ?_
 intro g cap w' h2 h3 h4 h5
 have hs3:=h3.size
 have hVw:=hL.M.size
 have old:∀ k,k < V§→v.ownBlock≠some k→w'.heap[k]? = V.heap[k]?:=fun k hk hne=>(h3.block k (by omega) (fun e=>hne e.symm)).trans (Below.heap_alloc _ _ _ hk)
 have vlow:∀ k,k < w§→v.ownBlock≠some k:=fun k hk e=>by have:=(hL.D _ e).1; omega
 refine h g cap w' ⟨?_,fun p hp=>?_,hL.N,?_,fun x hx=>?_,fun k hk=>?_,?_,?_,hL.W⟩
 ·exact (hL.M.trans (Mv.ofBelow (F:=fun k=>k=b) (below_new V (.cells cs e))) (fun _ e=>.inl e)).grown h3 (fun k e=>.inr (hL.D _ e).1)
 ·obtain⟨g1,g2⟩:=hL.B p hp
  exact⟨(old _ (Array.getElem?_eq_some_iff.1 g1).1 (fun e=>(hL.D _ e).2 p hp rfl)).trans g1,g2⟩
 ·rw [List.length_append,List.length_singleton,List.map_append,List.flatten_append]
  simpa using h2
 ·rcases List.mem_append.1 hx with hx | hx
  ·exact hL.Z x hx
  ·rw [List.mem_singleton.1 hx]; exact hcs
 ·simp [Value.ownBlock] at hk
  subst hk
  rcases h4 with h4 | h4
  ·exact hL.D _ h4
  ·refine⟨by omega,fun p hp=>?_⟩
   have:=(Array.getElem?_eq_some_iff.1 (hL.B p hp).1).1
   omega
 ·obtain⟨P,q1,q2⟩:=hL.E
  refine⟨P,fun k hk=>⟨(q1 k hk).1,by have:=(q1 k hk).2.1; omega,(q1 k hk).2.2.1,fun e=>?_⟩,fun U hU=>q2 U fun k hk=>(hU k hk).trans (old k (q1 k hk).2.1 (q1 k hk).2.2.2)⟩
  simp [Value.ownBlock] at e
  subst e
  rcases h4 with h4 | h4
  ·exact (q1 _ hk).2.2.2 h4
  ·have:=(q1 _ hk).2.1
   omega
 ·exact hL.S.off hL.W (fun k hk=>old k (by omega) (vlow k hk))
theorem HX.fin {w:World}{b:Nat}{K:PK}{V:World}{bs:List (Nat × Nat × Array Value)}{e sz:Nat}{v:Value}{vs:List (Array Value)}{F:World→Prop}{ts:List Tk}(h:HX w b K V bs e sz v vs F ts):Dp w V F∧Lv V b K ts∧Mv w V (fun k=>k=b):=by
 obtain⟨P,h1,h2⟩:=h.E
 exact⟨fun U hU=>h2 U fun k hk=>hU k (h1 k hk).1 (h1 k hk).2.1,h.S,h.M⟩
def fs (a b:Int):Int:=if a=0 then b else a
theorem fs_z {a b:Int}(h:a=0):fs a b=b:=if_pos h
theorem fs_n {a b:Int}(h:¬ a=0):fs a b=a:=if_neg h
def fsL:List Int→Int
 | []=>0
 | a :: l=>fs a (fsL l)
def namE (x:ByteArray):Int:=if nameB x=true then 0 else 120
def cntE (n l m:Int):Int:=if n < l then 120 else if m < n then 121 else 0
def okE (ok:Bool):Int:=if ok=true then 0 else 120
theorem need_gives (ok:Bool) (w:World):Gives 115 #[.bool ok,zI 120] w (okE ok):=by
 refine (need_any ok 120 w).mono ?_
 rintro e w' ⟨rfl,rfl⟩
 cases ok with
 | true=>exact⟨.inl ⟨rfl,rfl⟩,Below.refl _ _⟩
 | false=>exact⟨.inr ⟨by decide,rfl⟩,Below.refl _ _⟩
theorem nm_gives {x:ByteArray}(hs:SzX x) {w:World}(ht:Tab w):Gives 100 #[.string x] w (namE x):=by
 have cN:=namep_any x hs w ht
 obtain⟨B,eB⟩:∃ B,nameB x=B:=⟨_,rfl⟩
 have hE:namE x=okE B:=by unfold namE okE; rw [eB]
 rw [hE]
 rw [eB] at cN
 clear hE eB
 unfold Gives
 go_enter Tryz.func100,Tryz.ntmps100
 go_wp2_with fail
 refine cN.mono ?_
 rintro e w1 ⟨rfl,hb⟩
 have HB:Hid (Below w§ w w1):=hb
 have c2:=need_gives B w1
 unfold Gives at c2
 clear cN hb
 go_wp2_with fail
 refine c2.mono ?_
 rintro e w2 ⟨⟨h0,rfl⟩ | ⟨h0,rfl⟩,hb⟩
 ·have HB2:Hid (Below w§ w w2):=below2 HB.out hb
  clear c2 hb
  go_wp2_with fail
  go_end0
  exact⟨.inl ⟨h0,rfl⟩,HB2.out⟩
 ·exact⟨rfl,.inr ⟨h0,rfl⟩,below2 HB.out hb⟩
theorem cnt_gives (n l m:Int) (w:World):Gives 101 #[zI n,zI l,zI m] w (cntE n l m):=by
 unfold Gives
 by_cases h1:l≤n
 ·have d1:decide (l≤n)=true:=decide_eq_true h1
  by_cases h2:n≤m
  ·have e0:cntE n l m=0:=by unfold cntE; rw [if_neg (by omega),if_neg (by omega)]
   rw [e0]
   exact (count_ok n l m h1 h2 w).mono fun e w' h=>⟨.inl ⟨rfl,h.1⟩,by rw [h.2]; exact Below.refl _ _⟩
  ·have d2:decide (n≤m)=false:=decide_eq_false h2
   have e0:cntE n l m=121:=by unfold cntE; rw [if_neg (by omega),if_pos (by omega)]
   rw [e0]
   clear e0 h1 h2
   go_enter Tryz.func101,Tryz.ntmps101
   go_wp2_with fail
   refine (need_t 120 _).mono ?_
   rintro e w1 ⟨rfl,e1⟩
   obtain rfl:=e1.symm
   clear e1
   go_wp2_with fail
   refine (need_f 121 _).mono ?_
   rintro e w1 ⟨rfl,rfl⟩
   exact⟨rfl,.inr ⟨by decide,rfl⟩,Below.refl _ _⟩
 ·have d1:decide (l≤n)=false:=decide_eq_false h1
  have e0:cntE n l m=120:=by unfold cntE; rw [if_pos (by omega)]
  rw [e0]
  clear e0 h1
  go_enter Tryz.func101,Tryz.ntmps101
  go_wp2_with fail
  refine (need_f 120 _).mono ?_
  rintro e w1 ⟨rfl,rfl⟩
  exact⟨rfl,.inr ⟨by decide,rfl⟩,Below.refl _ _⟩
theorem rng_of {w:World}{g:Nat}{cs:Array Value}{t:TypeId}{fr:Nat × Nat}(h:w.heap[g]? = some (.cells cs t fr)) (o:Nat) (l:List Value) (hl:∀ j,j < l.length→cs[o+j]? = l[j]?):w.rangeAt g o l:=fun j v hv=>by
 have hj:j < l.length:=(List.getElem?_eq_some_iff.1 hv).1
 rw [cell_of h,hl j hj,hv]
def kid0 (m:Nd):Nd:=m.ks.getD 0 nd0
def initE (m:Nd):Int:=fs (fE m) (if m.h.k=5∧m.h.o=1 then fs (okE (numB (kid0 m).h.t)) (okE (decide ((kid0 m).h.k=1))) else okE (decide (m.h.k=1)))
theorem form_kid {m:Nd}(h:formB m=true) (h5:m.h.k=5):m.ks.length=1:=by
 obtain⟨hd,a,c,ks⟩:=m
 have h5:hd.k=5:=h5
 have h1:(oneH hd ks.length && formsB ks)=true:=h
 rw [Bool.and_eq_true] at h1
 have h2:=h1.1
 unfold oneH at h2
 rw [Bool.and_eq_true] at h2
 have h3:=h2.2
 unfold fitB at h3
 rw [if_neg (by omega),if_neg (by omega),if_neg (by omega),if_neg (by omega),if_pos h5,Bool.and_eq_true] at h3
 exact of_decide_eq_true h3.1
theorem Gives.two {F:Nat}{args:Array Value}{w:World}{E:Int}(c:Gives F args w E):(E=0∧Calls zG F args w fun e w'=>e=.returned (.tuple #[])∧Below w§ w w')∨(¬ E=0∧Calls zG F args w fun e w'=>e=.panicked [{ v:=.iface 28 (zI E),recovered:=false }]∧Below w§ w w'):=by
 by_cases h:E=0
 ·subst h; exact .inl ⟨rfl,c.zero⟩
 ·exact .inr ⟨h,c.some h⟩
set_option maxRecDepth 100000 in
set_option maxHeartbeats 4000000 in
theorem init_gives (m:Nd) (w:World) (hl:Lies w m) (ht:Tab w):Gives 138 #[.agg m.vals] w (initE m):=by
 have hb0:=below_new w (.cells m.vals 48)
 have c0:=form_gives (hl.on hb0) (ht.on hb0)
 unfold initE
 have c02:=c0.two
 clear c0
 rcases c02 with ⟨h0,c1⟩ | ⟨h0,c1⟩
 ·rw [fs_z h0]
  have hf:formB m=true:=by
   unfold fE at h0
   by_cases h:formB m=true
   ·exact h
   ·rw [if_neg h] at h0; cases h0
  by_cases h5:m.h.k=5∧m.h.o=1
  ·rw [if_pos h5]
   have hk1:=form_kid hf h5.1
   obtain⟨⟨k2,o2,ty2,n2,f2,x2,p2⟩,am2,cm2,ks2⟩:=m
   obtain⟨rfl,rfl⟩:k2=5∧o2=1:=h5
   have hk1:ks2.length=1:=hk1
   obtain⟨kd,rfl⟩:∃ k,ks2 = [k]:=List.length_eq_one_iff.1 hk1
   obtain⟨B,O,ea,hat⟩:=hl.kid 0 (by show 0 < 1; omega)
   have ea:am2=some ⟨B,O,none⟩:=ea
   subst ea
   have hat:NdAt w B (O+0 * 8) kd:=hat
   have HAT:=hat.hid
   have hcap:1≤cm2:=hl.cap
   have HKD:Hid (kid0 (.mk ⟨5,1,ty2,n2,f2,x2,p2⟩ (some ⟨B,O,none⟩) cm2 [kd])=kd):=rfl
   rw [HKD.out]
   unfold Nd.vals hdA at c1 hb0
   simp only [Nd.h,Nd.a,Nd.c,Nd.ks,List.length_cons,List.length_nil,Nat.zero_add] at c1 hb0
   unfold Gives
   simp only [Nd.vals,hdA,Nd.h,Nd.a,Nd.c,Nd.ks,List.length_cons,List.length_nil,Nat.zero_add]
   obtain⟨⟨k3,o3,ty3,n3,f3,x3,p3⟩,am3,cm3,ks3⟩:=kd
   clear h0 hf hl ht hat hk1 HKD
   go_enter Tryz.func138,Tryz.ntmps138
   go_wp2_with fail
   refine c1.mono ?_
   rintro e w1 ⟨rfl,hb⟩
   have hN1:=(hb.block w§ (by rw [size_alloc]; omega)).trans (heap_new w _)
   have HB1:Hid (Below w§ w w1):=below2 hb0 hb
   have hk1:=HAT.out.on HB1.out
   simp only [Nat.zero_mul,Nat.add_zero] at hk1
   obtain⟨x0,x1,x2',x3',x4,x5,x6,x7⟩:=hk1
   simp only [Nd.h,Nd.a,Nd.c,Nd.ks] at x0 x1 x2' x3' x4 x5 x6 x7
   have q0:w1.cell? ⟨w§,0,none⟩=some (zU 5):=cell_of hN1 0
   have q1:w1.cell? ⟨w§,1,none⟩=some (zU 1):=cell_of hN1 1
   have q2:w1.cell? ⟨w§,2,none⟩=some (zU ty2):=cell_of hN1 2
   have q3:w1.cell? ⟨w§,3,none⟩=some (zI n2):=cell_of hN1 3
   have q4:w1.cell? ⟨w§,4,none⟩=some (zU f2):=cell_of hN1 4
   have q5:w1.cell? ⟨w§,5,none⟩=some (.string x2):=cell_of hN1 5
   have q6:w1.cell? ⟨w§,6,none⟩=some (.slice (some ⟨B,O,none⟩) 1 cm2):=cell_of hN1 6
   have q7:w1.cell? ⟨w§,7,none⟩=some (zI p2):=cell_of hN1 7
   have r0:=frozen_of hN1 0
   have r1:=frozen_of hN1 1
   have r2:=frozen_of hN1 2
   have r3:=frozen_of hN1 3
   have r4:=frozen_of hN1 4
   have r5:=frozen_of hN1 5
   have r6:=frozen_of hN1 6
   have r7:=frozen_of hN1 7
   obtain⟨Y,eY,hY1,hY2,hY3,hY4⟩:=fin8 hN1 (zU k3) (zU o3) (zU ty3) (zI n3) (zU f3) (.string x3) (.slice am3 ks3.length cm3) (zI p3)
   have HBY:Hid (Below w§ w Y):=(hY4 w (fun _=>False) (Mv.ofBelow HB1.out) (Nat.le_refl _)).below (Nat.le_refl _) (fun _ e=>e.elim)
   have HY1:Hid (Y.heap[w§]? = some (.cells #[zU k3,zU o3,zU ty3,zI n3,zU f3,.string x3,.slice am3 ks3.length cm3,zI p3] 48 (0,0))):=hY1
   have HEY:Hid (_=Y):=eY
   clear hb hN1 c1 HB1 HAT hb0 eY hY1 hY2 hY3 hY4
   go_upto_region 4 with fail
   rw [HEY.out]
   clear q0 q1 q2 q3 q4 q5 q6 q7 r0 r1 r2 r3 r4 r5 r6 r7 x0 x1 x2' x3' x4 x5 x6 x7 HEY
   have y0:Y.cell? ⟨w§,0,none⟩=some (zU k3):=cell_of HY1.out 0
   have y2:Y.cell? ⟨w§,2,none⟩=some (zU ty3):=cell_of HY1.out 2
   have c2:=isNumber_any ty3 Y
   go_wp2_with fail
   refine c2.mono ?_
   rintro e w2 ⟨rfl,e2⟩
   obtain rfl:=e2.symm
   clear c2 e2
   have c3:=need_gives (numB ty3) Y
   rcases c3.two with ⟨h1,c3⟩ | ⟨h1,c3⟩
   ·go_wp2_with fail
    refine c3.mono ?_
    rintro e w3 ⟨rfl,hb3⟩
    have HB3:Hid (Below w§ w w3):=below2 HBY.out hb3
    have z0:w3.cell? ⟨w§,0,none⟩=some (zU k3):=cell_of ((hb3.block _ (Array.getElem?_eq_some_iff.1 HY1.out).1).trans HY1.out) 0
    have c4:=need_gives (decide (k3=1)) w3
    clear c3 hb3 y0 y2 HY1
    rcases c4.two with ⟨h2,c4⟩ | ⟨h2,c4⟩
    ·go_wp2_with fail
     try simp only [beq_eq_decide] at *
     refine c4.mono ?_
     rintro e w4 ⟨rfl,hb4⟩
     have HB4:Hid (Below w§ w w4):=below2 HB3.out hb4
     clear c4 hb4
     go_wp2_with fail
     go_end0
     exact⟨.inl ⟨by rw [fs_z h1]; exact h2,rfl⟩,HB4.out⟩
    ·go_wp2_with fail
     try simp only [beq_eq_decide] at *
     refine c4.mono ?_
     rintro e w4 ⟨rfl,hb4⟩
     exact⟨rfl,.inr ⟨by rw [fs_z h1]; exact h2,by simp only [fs_z h1]; rfl⟩,below2 HB3.out hb4⟩
   ·go_wp2_with fail
    refine c3.mono ?_
    rintro e w3 ⟨rfl,hb3⟩
    exact⟨rfl,.inr ⟨by rw [fs_n h1]; exact h1,by rw [fs_n h1]⟩,below2 HBY.out hb3⟩
  ·rw [if_neg h5]
   obtain⟨⟨k2,o2,ty2,n2,f2,x2,p2⟩,am2,cm2,ks2⟩:=m
   have h5:¬ (k2=5∧o2=1):=h5
   unfold Nd.vals hdA at c1 hb0
   simp only [Nd.h,Nd.a,Nd.c,Nd.ks] at c1 hb0
   unfold Gives
   simp only [Nd.vals,hdA,Nd.h,Nd.a,Nd.c,Nd.ks]
   clear h0 hf hl ht
   have body:∀ w1:World,Below w§ w w1→True:=fun _ _=>trivial
   by_cases hk:k2=5
   ·have ho:¬ o2=1:=fun e=>h5 ⟨hk,e⟩
    subst hk
    have ho2:(o2 == 1)=false:=by simpa using ho
    clear h5 ho
    go_enter Tryz.func138,Tryz.ntmps138
    go_wp2_with fail
    refine c1.mono ?_
    rintro e w1 ⟨rfl,hb⟩
    have hN1:=(hb.block w§ (by rw [size_alloc]; omega)).trans (heap_new w _)
    have HB1:Hid (Below w§ w w1):=below2 hb0 hb
    have q0:w1.cell? ⟨w§,0,none⟩=some (zU 5):=cell_of hN1 0
    have q1:w1.cell? ⟨w§,1,none⟩=some (zU o2):=cell_of hN1 1
    have c4:=(need_gives false w1).some (by decide)
    clear hb hN1 c1 hb0 body
    go_wp2_with fail
    refine c4.mono ?_
    rintro e w4 ⟨rfl,hb4⟩
    exact⟨rfl,.inr ⟨by simp [okE],by simp [okE]⟩,below2 HB1.out hb4⟩
   ·have hk2:(k2 == 5)=false:=by simpa using hk
    clear h5 hk
    go_enter Tryz.func138,Tryz.ntmps138
    go_wp2_with fail
    refine c1.mono ?_
    rintro e w1 ⟨rfl,hb⟩
    have hN1:=(hb.block w§ (by rw [size_alloc]; omega)).trans (heap_new w _)
    have HB1:Hid (Below w§ w w1):=below2 hb0 hb
    have q0:w1.cell? ⟨w§,0,none⟩=some (zU k2):=cell_of hN1 0
    have q1:w1.cell? ⟨w§,1,none⟩=some (zU o2):=cell_of hN1 1
    have c4:=need_gives (decide (k2=1)) w1
    clear hb hN1 c1 hb0 body
    rcases c4.two with ⟨h2,c4⟩ | ⟨h2,c4⟩
    ·go_wp2_with fail
     try simp only [beq_eq_decide] at *
     refine c4.mono ?_
     rintro e w4 ⟨rfl,hb4⟩
     have HB4:Hid (Below w§ w w4):=below2 HB1.out hb4
     clear c4 hb4
     go_wp2_with fail
     go_end0
     exact⟨.inl ⟨h2,rfl⟩,HB4.out⟩
    ·go_wp2_with fail
     try simp only [beq_eq_decide] at *
     refine c4.mono ?_
     rintro e w4 ⟨rfl,hb4⟩
     exact⟨rfl,.inr ⟨h2,rfl⟩,below2 HB1.out hb4⟩
 ·rw [fs_n h0]
  unfold Gives
  unfold Nd.vals hdA at c1 ⊢
  clear hl ht hb0
  go_enter Tryz.func138,Tryz.ntmps138
  go_wp2_with fail
  refine c1.mono ?_
  rintro e w1 ⟨rfl,hb⟩
  exact⟨rfl,.inr ⟨h0,rfl⟩,below2 (below_new _ _) hb⟩
def regE (r:RegM):Int:=fs (namE r.x) (fs (okE (decide (1≤r.t∧r.t≤6))) (initE r.m))
theorem fs3_z {a b c:Int}(h1:a=0) (h2:b=0):fs a (fs b c)=c:=by rw [fs_z h1,fs_z h2]
theorem fs3_n {a b c:Int}(h1:a=0) (h2:¬ b=0):fs a (fs b c)=b:=by rw [fs_z h1,fs_n h2]
theorem nd_rng {w:World}{g:Nat}{cs:Array Value}{t:TypeId}{fr:Nat × Nat}(h:w.heap[g]? = some (.cells cs t fr)) (o:Nat) (m:Nd) (hl:∀ j,j < 8→cs[o+j]? = m.vals.toList[j]?):w.rangeAt g o m.vals.toList:=rng_of h o _ hl
theorem size38 (m:Nd):(Tryz.prog.info? 48).map (·.size)=some m.vals.toList.length:=by show _=some 8; kernel_rfl
theorem reg_m (r:RegM):∀ j,j < 8→r.vals[2+j]? = r.m.vals.toList[j]?:=fun j hj=>by
 match j,hj with
 | 0,_=>rfl
 | 1,_=>rfl
 | 2,_=>rfl
 | 3,_=>rfl
 | 4,_=>rfl
 | 5,_=>rfl
 | 6,_=>rfl
 | 7,_=>rfl
theorem toArr (m:Nd):m.vals.toList.toArray=m.vals:=by simp
set_option maxRecDepth 100000 in
set_option maxHeartbeats 4000000 in
theorem reg_gives (r:RegM) (w:World) (hl:RegL w r) (ht:Tab w):Gives 102 #[.agg r.vals] w (regE r):=by
 have hb0:=below_new w (.cells r.vals 62)
 have hn0:=heap_new w (.cells r.vals 62)
 have HH:Hid (RegL w r∧Tab w):=⟨hl,ht⟩
 have q0:(w.alloc (.cells r.vals 62)).cell? ⟨w§,0,none⟩=some (.string r.x):=cell_of hn0 0
 have HN0:Hid ((w.alloc (.cells r.vals 62)).heap[w§]? = some (.cells r.vals 62 (0,0))):=hn0
 have HB0:Hid (Below w§ w (w.alloc (.cells r.vals 62))):=hb0
 have c1:=(nm_gives (x:=r.x) hl.2.2.2 (ht.on hb0)).two
 obtain⟨E,eE⟩:∃ E,regE r=E:=⟨_,rfl⟩
 have HE:Hid (fs (namE r.x) (fs (okE (decide (1≤r.t∧r.t≤6))) (initE r.m))=E):=eE
 rw [eE]
 clear hl ht eE hb0 hn0
 unfold Gives
 rcases c1 with ⟨h1,c1⟩ | ⟨h1,c1⟩
 ·go_enter Tryz.func102,Tryz.ntmps102
  go_wp2_with fail
  refine c1.mono ?_
  rintro e w1 ⟨rfl,hb⟩
  have HB1:Hid (Below w§ w w1):=below2 HB0.out hb
  have hn1:=(hb.block _ (Array.getElem?_eq_some_iff.1 HN0.out).1).trans HN0.out
  have HN1:Hid (w1.heap[w§]? = some (.cells r.vals 62 (0,0))):=hn1
  have q1:w1.cell? ⟨w§,1,none⟩=some (zU r.t):=cell_of hn1 1
  have c2:=wU_any 137 r.t 1 6 w1 (by simp)
  obtain⟨B,eB⟩:∃ B,decide (1≤r.t∧r.t≤6)=B:=⟨_,rfl⟩
  rw [eB] at c2 HE
  clear eB
  clear c1 hb hn1 q0 HN0 HB0
  go_wp2_with fail
  refine c2.mono ?_
  rintro e w2 ⟨rfl,e2⟩
  obtain rfl:=e2.symm
  have c3:=(need_gives B w1).two
  clear c2 e2
  rcases c3 with ⟨h2,c3⟩ | ⟨h2,c3⟩
  ·go_wp2_with fail
   refine c3.mono ?_
   rintro e w3 ⟨rfl,hb⟩
   have HB3:Hid (Below w§ w w3):=below2 HB1.out hb
   have hn3:=(hb.block _ (Array.getElem?_eq_some_iff.1 HN1.out).1).trans HN1.out
   have HN3:Hid (w3.heap[w§]? = some (.cells r.vals 62 (0,0))):=hn3
   have c4:=(init_gives r.m w3 (HH.out.1.1.on HB3.out) (HH.out.2.on HB3.out)).two
   clear c3 hb hn3 q1 HN1 HB1
   rcases c4 with ⟨h3,c4⟩ | ⟨h3,c4⟩
   ·go_wp2_with (refine wpList_load_mid rfl 48 (.tmp 9) rfl w§ 2 rfl r.m.vals.toList _ (nd_rng HN3.out 2 r.m (reg_m r)) Tryz.underlying48 rfl (size38 r.m) ?_; rw [toArr])
    refine c4.mono ?_
    rintro e w4 ⟨rfl,hb⟩
    have HB4:Hid (Below w§ w w4):=below2 HB3.out hb
    clear c4 hb
    go_wp2_with fail
    go_end0
    exact⟨.inl ⟨by rw [← HE.out,fs3_z h1 h2]; exact h3,rfl⟩,HB4.out⟩
   ·go_wp2_with (refine wpList_load_mid rfl 48 (.tmp 9) rfl w§ 2 rfl r.m.vals.toList _ (nd_rng HN3.out 2 r.m (reg_m r)) Tryz.underlying48 rfl (size38 r.m) ?_; rw [toArr])
    refine c4.mono ?_
    rintro e w4 ⟨rfl,hb⟩
    have hE:E=initE r.m:=by rw [← HE.out,fs3_z h1 h2]
    exact⟨rfl,.inr ⟨by rw [hE]; exact h3,by rw [hE]⟩,below2 HB3.out hb⟩
  ·go_wp2_with fail
   refine c3.mono ?_
   rintro e w3 ⟨rfl,hb⟩
   have hE:E=okE B:=by rw [← HE.out,fs3_n h1 h2]
   exact⟨rfl,.inr ⟨by rw [hE]; exact h2,by rw [hE]⟩,below2 HB1.out hb⟩
 ·go_enter Tryz.func102,Tryz.ntmps102
  go_wp2_with fail
  refine c1.mono ?_
  rintro e w1 ⟨rfl,hb⟩
  have hE:E=namE r.x:=by rw [← HE.out,fs_n h1]
  exact⟨rfl,.inr ⟨by rw [hE]; exact h1,by rw [hE]⟩,below2 HB0.out hb⟩
end Go.Proofs.YtoogodlnnijikaaGreatDoor
