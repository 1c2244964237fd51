import Derived.Test.YteedmmljahgpjaaGreatDoorA0
import Derived.Test.YteedmmljahgpjaaGreatDoorA20
import Derived.Test.YteedmmljahgpjaaGreatDoorA16
import Derived.Test.YteedmmljahgpjaaGreatDoorA13
import Derived.BigQuiet
namespace Go.Proofs.YteedmmljahgpjaaGreatDoor
open Go.RowKit
set_option linter.unusedVariables false
set_option linter.unusedSimpArgs false
theorem LE.nol (e le:TypeId) (s:Nat) (ok:(Nat→Value)→Nat→Prop) (A:Nat→Prop) (w:World):LE e le s ok A w (.slice none 0 0) 0 :=
 ⟨fun _=>.slice none 0 0,fun _=>0,fun _ _=>.slice none 0 0,⟨fun j hj=>by omega,Row.nil _ _ _ _,fun j j' hj=>by omega⟩,fun j hj=>by omega,fun b hb=>by obtain⟨j,hj,_⟩:=hb; omega⟩
section
variable {w0 w1 v v' : World} {bk : Nat} {U U' A : Nat → Prop} {NI NR NG NW NL : Nat} {lI lR lG lW lL : Value}
theorem TBs.start (hb:Below w0§ w0 v) (hbk:v.heap[bk]? = some (.cells (trZ (.slice none 0 0) (.slice none 0 0) (.slice none 0 0) (.slice none 0 0) (.slice none 0 0)) 52 (0,0))) (hn:w0§≤bk) (lb:Nat) (hlb:lb < v§) (hlk:lb≠bk) :
  TBs w0 v bk (fun b=>b=lb) (fun _=>False) 0 0 0 0 0 v (.slice none 0 0) (.slice none 0 0) (.slice none 0 0) (.slice none 0 0) (.slice none 0 0) :=
 ⟨hbk,LE.nol _ _ _ _ _ _,LE.nol _ _ _ _ _ _,LE.nol _ _ _ _ _ _,LE.nol _ _ _ _ _ _,LE.nol _ _ _ _ _ _,fun _ e=>e.elim,fun b e=>⟨by rw [e]; exact hlk,by simp [Value.ownBlock],by simp [Value.ownBlock],by simp [Value.ownBlock],by simp [Value.ownBlock],by simp [Value.ownBlock]⟩,fun b e=>by rw [e]; exact hlb,fun _ _=>rfl,Nat.le_refl _,
  ⟨hn,fun b e=>by simp [Value.ownBlock] at e,fun b e=>by simp [Value.ownBlock] at e,fun b e=>by simp [Value.ownBlock] at e,fun b e=>by simp [Value.ownBlock] at e,fun b e=>by simp [Value.ownBlock] at e⟩,hb⟩
theorem TBs.grow (h:TBs w0 w1 bk U A NI NR NG NW NL v lI lR lG lW lL) (k:Below v§ v v') (h1:∀ b,U b→U' b) (h2:∀ b,U' b→(U b∨v§≤b)∧b < v'§):TBs w0 v' bk U' A NI NR NG NW NL v' lI lR lG lW lL:=by
 have hk:=h.below k
 have lt:∀ {e le:TypeId}{s:Nat}{ok:(Nat→Value)→Nat→Prop}{lv:Value}{N:Nat},LE e le s ok A v lv N→∀ b,lv.ownBlock=some b→b < v§:=fun hl b hb=>by
  obtain⟨c,fz,hq⟩:=hl.lt b hb
  exact (Array.getElem?_eq_some_iff.1 hq).1
 have hbk:=(Array.getElem?_eq_some_iff.1 h.B).1
 refine⟨hk.B,hk.I,hk.R,hk.G,hk.W,hk.L,fun b hb=>h1 b (h.sub b hb),fun b hb=>?_,fun b hb=>(h2 b hb).2,fun b _=>rfl,Nat.le_refl _,hk.new,hk.B0⟩
 rcases (h2 b hb).1 with hu | hu
 ·exact h.out b hu
 ·exact⟨by omega,fun e=>by have:=lt h.I b e; omega,fun e=>by have:=lt h.R b e; omega,fun e=>by have:=lt h.G b e; omega,fun e=>by have:=lt h.W b e; omega,fun e=>by have:=lt h.L b e; omega⟩
variable {vR vC vD vT : Value} {nT : Nat} {stV : Nat → Value} {nG : Nat → Nat} {rwV : Nat → Nat → Value} {P : Nat → Prop}
theorem TO.lift (h:TO w1 P (fun _=>False) vR vC vD vT nT stV nG rwV) (k:∀ b,P b→v.heap[b]? = w1.heap[b]?) (hU:∀ b,P b→U b) (hA:∀ b,P b→¬ A b):TO v U A vR vC vD vT nT stV nG rwV:=by
 refine⟨?_,?_,?_,?_,fun i hi=>?_,fun i hi q hq=>?_,fun b hb=>?_,fun b hb=>?_,fun b hb=>?_,fun b hb=>?_,fun i hi b hb=>?_,fun i hi q hq b hb=>?_⟩
 ·obtain⟨m,f,h1,h2⟩:=h.R
  exact⟨m,f,h1.of_block (fun b hb=>k b (h.uR b hb).1),h2⟩
 ·obtain⟨m,f,h1,h2⟩:=h.C
  exact⟨m,f,h1.of_block (fun b hb=>k b (h.uC b hb).1),h2⟩
 ·obtain⟨m,f,h1,h2⟩:=h.D
  exact⟨m,f,h1.of_block (fun b hb=>k b (h.uD b hb).1),h2⟩
 ·obtain⟨f,h1,h2⟩:=h.T
  exact⟨f,h1.of_block (fun b hb=>k b (h.uT b hb).1),h2⟩
 ·obtain⟨f,h1,h2⟩:=h.S i hi
  exact⟨f,h1.of_block (fun b hb=>k b (h.uS i hi b hb).1),h2⟩
 ·obtain⟨m,f,h1,h2⟩:=h.X i hi q hq
  exact⟨m,f,h1.of_block (fun b hb=>k b (h.uX i hi q hq b hb).1),h2⟩
 ·have:=(h.uR b hb).1; exact⟨hU b this,hA b this⟩
 ·have:=h.uC b hb; exact⟨hU b this.1,hA b this.1,this.2.2⟩
 ·have:=(h.uD b hb).1; exact⟨hU b this,hA b this⟩
 ·have:=(h.uT b hb).1; exact⟨hU b this,hA b this⟩
 ·have:=h.uS i hi b hb; exact⟨hU b this.1,hA b this.1,this.2.2⟩
 ·have:=h.uX i hi q hq b hb; exact⟨hU b this.1,hA b this.1,this.2.2⟩
theorem TO.nol (w1:World) (U A:Nat→Prop):TO w1 U A (.slice none 0 0) (.slice none 0 0) (.slice none 0 0) (.slice none 0 0) 0 (fun _=>.slice none 0 0) (fun _=>0) (fun _ _=>.slice none 0 0) :=
 ⟨⟨0,fun _=>.slice none 0 0,.inl (Row.nil _ _ _ _),fun k hk=>by omega,by omega⟩,⟨0,fun _=>.slice none 0 0,.inl (Row.nil _ _ _ _),fun k hk=>by omega,by omega⟩,⟨0,fun _=>.slice none 0 0,.inl (Row.nil _ _ _ _),fun k hk=>by omega,by omega⟩,⟨fun _=>.slice none 0 0,.inl (Row.nil _ _ _ _),fun i hi=>by omega,by omega⟩,
  fun i hi=>by omega,fun i hi=>by omega,fun b e=>by simp [Value.ownBlock] at e,fun b e=>by simp [Value.ownBlock] at e,fun b e=>by simp [Value.ownBlock] at e,fun b e=>by simp [Value.ownBlock] at e,fun i hi=>by omega,fun i hi=>by omega⟩
end
theorem book_table (w0 w1 v v':World) (bk:Nat) (U A P:Nat→Prop) (NI NR NG NW NL:Nat) (lI lR lG lW lL:Value) (x:ByteArray) (sl:Int) (vR vC vD vT:Value) (nT:Nat) (stV:Nat→Value) (nG:Nat→Nat) (rwV:Nat→Nat→Value) (cnt:Nat→Nat)
  (h:TBs w0 w1 bk U A NI NR NG NW NL v lI lR lG lW lL) (k:Below v§ v v') (hP:∀ b,P b→v§≤b∧b < v'§) (ht:TO v' P (fun _=>False) vR vC vD vT nT stV nG rwV)
  (hc0:cnt 0=0) (hc1:∀ i,i < nT→cnt (i+1)=cnt i+nG i) (hcb:∀ i,i < nT→NR+cnt i+nG i≤900000) (hb:NI≤900000∧NL≤900000∧NW≤900000∧NG+nT≤900000) :
  Calls zG 20 #[zP bk,.agg #[.string x,vR,zI sl,vC,vD,vT]] v' fun e w'=>(∃ r,e=.returned r)∧∃ w1' U' A' lI lR lG lW lL,(∀ b,U b→U' b∧w'.heap[b]? = v'.heap[b]?)∧(∀ b,U' b→U b∨v§≤b)∧TBs w0 w1' bk U' A' (NI+1) (NR+cnt nT) (NG+nT) (NW+1) (NL+1+1) w' lI lR lG lW lL:=by
 have bn:=Bn v' (.cells #[.string x,vR,zI sl,vC,vD,vT] 26)
 have hsz:=Sa v' (.cells #[.string x,vR,zI sl,vC,vD,vT] 26)
 have kk:=Qa k bn
 have hg:=h.grow (U':=fun b=>U b∨P b∨b=v'§) kk (fun b hb=>.inl hb) (fun b hb=>by
  have h0:=k.size
  rcases hb with hb | hb | hb
  ·have:=h.old b hb
   have:=h.sz
   exact⟨.inl hb,by omega⟩
  ·have:=hP b hb
   exact⟨.inr this.1,by omega⟩
  ·exact⟨.inr (by omega),by omega⟩)
 have ht':TO (v'.alloc (.cells #[.string x,vR,zI sl,vC,vD,vT] 26)) (fun b=>U b∨P b∨b=v'§) A vR vC vD vT nT stV nG rwV:=ht.lift (fun b hb=>bn.block b (hP b hb).2) (fun b hb=>.inr (.inl hb)) (fun b hb ha=>by
  have h1:=h.old b (h.sub b ha)
  have h2:=h.sz
  have h3:=(hP b hb).1
  omega)
 refine (treesTable_any v' _ w0 bk _ A NI NR NG NW NL lI lR lG lW lL x sl vR vC vD vT nT stV nG rwV cnt rfl (.inr (.inr rfl)) hg ht' hc0 hc1 hcb hb).mono ?_
 rintro e w' ⟨h1,lI,lR,lG,lW,lL,h2⟩
 refine⟨h1,_,_,_,lI,lR,lG,lW,lL,fun b hb=>⟨.inl hb,?_⟩,fun b hb=>?_,h2⟩
 ·have h4:=h.old b hb
  have h5:=h.sz
  have h6:=k.size
  exact (h2.same b (.inl hb)).trans (bn.block b (by omega))
 ·have h6:=k.size
  rcases hb with hb | hb | hb
  ·exact .inl hb
  ·exact .inr (hP b hb).1
  ·exact .inr (by omega)
namespace O
def flF (xs:List (Array Value)) (j:Nat):Value:=((xs.map Array.toList).flatten[j]?).getD (.slice none 0 0)
theorem range_getD (L:List Value):(List.range L.length).map (fun j=>(L[j]?).getD (.slice none 0 0))=L:=by
 apply List.ext_getElem?
 intro i
 rw [List.getElem?_map]
 by_cases h:i < L.length
 ·rw [List.getElem?_range h,List.getElem?_eq_getElem h]; simp [List.getElem?_eq_getElem h]
 ·rw [List.getElem?_eq_none (by simpa using Nat.le_of_not_lt h),List.getElem?_eq_none (Nat.le_of_not_lt h)]; rfl
theorem OwR.rowX {V:World}{e sz n:Nat}{a:Option Addr}{xs:List (Array Value)}(h:OwR V e sz a n xs):RowX V e sz (.slice a n n) n (flF xs):=by
 rcases h with ⟨rfl,rfl⟩ | ⟨g,cur,rfl,hg,hm,hs,ht⟩
 ·exact .inl (Row.nil _ _ _ _)
 ·refine .inr ⟨g,cur,rfl,hg,hm,hs,?_⟩
  have hl:((xs.map Array.toList).flatten).length=n * sz:=by
   rw [← ht,List.length_take]
   simp
   omega
  rw [ht,← hl]
  exact (range_getD _).symm
theorem OwR.own {V:World}{e sz n:Nat}{a:Option Addr}{xs:List (Array Value)}{nb:List Bx}(h:OwR V e sz a n xs) (hd:Hd a nb) (b:Nat) (hb:(Value.slice a n n).ownBlock=some b):a=some ⟨b,0,none⟩∧∃ x ∈ nb,x.1=b:=by
 rcases h with ⟨rfl,rfl⟩ | ⟨g,cur,rfl,hg,hm,hs,ht⟩
 ·simp [Value.ownBlock] at hb
 ·have e1:g=b:=by simpa [Value.ownBlock] using hb
  subst e1
  exact⟨rfl,hd g rfl⟩
theorem flF_at {sz:Nat}(xs:List (Array Value)) (hz:∀ x ∈ xs,x.size=sz) {k c:Nat}(hk:k < xs.length) (hc:c < sz) {v:Value}(hv:xs[k][c]? = some v):flF xs (k * sz+c)=v:=by
 unfold flF
 rw [QR xs hz k hk c hc,hv]
 rfl
def stW (t:TbM) (i:Nat):Value:=match t.ts[i]? with | some s=>.slice s.a s.gs.length s.c | none=>.slice none 0 0
def nW (t:TbM) (i:Nat):Nat:=match t.ts[i]? with | some s=>s.gs.length | none=>0
def rwW (t:TbM) (i k:Nat):Value:=match t.ts[i]? with | some s=>(match s.gs[k]? with | some g=>.slice g.a g.rs.length g.c | none=>.slice none 0 0) | none=>.slice none 0 0
theorem stW_at {t:TbM}{i:Nat}(hi:i < t.ts.length):stW t i=.slice t.ts[i].a t.ts[i].gs.length t.ts[i].c:=by unfold stW; rw [List.getElem?_eq_getElem hi]
theorem nW_at {t:TbM}{i:Nat}(hi:i < t.ts.length):nW t i=t.ts[i].gs.length:=by unfold nW; rw [List.getElem?_eq_getElem hi]
theorem rwW_at {t:TbM}{i k:Nat}(hi:i < t.ts.length) (hk:k < t.ts[i].gs.length):rwW t i k=.slice t.ts[i].gs[k].a t.ts[i].gs[k].rs.length t.ts[i].gs[k].c:=by unfold rwW; rw [List.getElem?_eq_getElem hi]; simp only; rw [List.getElem?_eq_getElem hk]
theorem okL_of (l:List Int):oqL (flF (l.map QF)) l.length:=fun k hk=>by
 refine⟨l[k],?_⟩
 have:=flF_at (sz:=1) (l.map QF) (fun x hx=>by obtain⟨a,_,rfl⟩:=List.mem_map.1 hx; rfl) (k:=k) (c:=0) (by simpa using hk) (by decide) (v:=zI l[k]) (by simp [QF])
 simpa using this
theorem okI_of (l:List InM):oqI (flF (l.map InM.vals)) l.length:=fun k hk=>by
 refine⟨l[k].a,?_⟩
 exact flF_at (sz:=2) (l.map InM.vals) (fun x hx=>by obtain⟨a,_,rfl⟩:=List.mem_map.1 hx; rfl) (k:=k) (c:=1) (by simpa using hk) (by decide) (by simp [InM.vals])
theorem okR_of (l:List RowM):oqR (flF (l.map RowM.vals)) l.length:=fun k hk=>by
 refine⟨l[k].i,?_⟩
 exact flF_at (sz:=11) (l.map RowM.vals) (fun x hx=>by obtain⟨a,_,rfl⟩:=List.mem_map.1 hx; rfl) (k:=k) (c:=2) (by simpa using hk) (by decide) (by simp [RowM.vals])
theorem okG_of (l:List GdM):oqG (flF (l.map GdM.vals)) l.length:=fun k hk=>by
 refine⟨l[k].wh.f,?_⟩
 have:=flF_at (sz:=5) (l.map GdM.vals) (fun x hx=>by obtain⟨a,_,rfl⟩:=List.mem_map.1 hx; rfl) (k:=k) (c:=0) (by simpa using hk) (by decide) (v:=zI l[k].wh.f) (by simp [GdM.vals])
 simpa using this
theorem to_of {V:World}{nb:List Bx}{t:TbM}(h:OwT nb t) (hb:∀ b ∈ nb,V.heap[b.1]? = some (.cells b.2.2 b.2.1 (0,0))) (b1:t.rs.length≤100000000) (b2:t.cs.length≤100000000) (b3:t.ds.length≤100000000) (b4:t.ts.length≤100000) (b5:∀ s ∈ t.ts,s.gs.length≤1000000∧∀ g ∈ s.gs,g.rs.length≤100000000) :
  TO V (fun b=>∃ x ∈ nb,x.1=b) (fun _=>False) (.slice t.ra t.rs.length t.rc) (.slice t.ca t.cs.length t.cc) (.slice t.da t.ds.length t.dc) (.slice t.ta t.ts.length t.tc) t.ts.length (stW t) (nW t) (rwW t):=by
 obtain⟨c1,c2,c3,c4⟩:=h.c
 rw [c1,c2,c3,c4]
 have hR:=h.R.1 V hb
 have hC:=h.C.1 V hb
 have hD:=h.D.1 V hb
 have hT:=h.T.1 V hb
 obtain⟨s1,s2,s3,s4⟩:=h.S
 have hS:=s1 V hb
 have tm:∀ i (hi:i < t.ts.length),t.ts[i] ∈ t.ts:=fun i hi=>List.getElem_mem hi
 refine⟨⟨_,_,hR.rowX,okL_of _,b1⟩,⟨_,_,hC.rowX,okL_of _,b2⟩,⟨_,_,hD.rowX,okI_of _,b3⟩,⟨_,hT.rowX,fun i hi=>?_,b4⟩,fun i hi=>?_,fun i hi k hk=>?_,fun b hb'=>?_,fun b hb'=>?_,fun b hb'=>?_,fun b hb'=>?_,fun i hi b hb'=>?_,fun i hi k hk b hb'=>?_⟩
 ·rw [stW_at hi]
  have:=flF_at (sz:=1) (t.ts.map StM.vals) (fun x hx=>by obtain⟨a,_,rfl⟩:=List.mem_map.1 hx; rfl) (k:=i) (c:=0) (by simpa using hi) (by decide) (v:=.slice t.ts[i].a t.ts[i].gs.length t.ts[i].c) (by simp [StM.vals])
  simpa using this
 ·rw [stW_at hi,nW_at hi,(s2 _ (tm i hi)).1.1]
  refine⟨_,(hS _ (tm i hi)).1.rowX,okG_of _,(b5 _ (tm i hi)).1,fun k hk=>?_⟩
  rw [rwW_at hi hk]
  exact flF_at (sz:=5) (t.ts[i].gs.map GdM.vals) (fun x hx=>by obtain⟨a,_,rfl⟩:=List.mem_map.1 hx; rfl) (k:=k) (c:=4) (by simpa using hk) (by decide) (by simp [GdM.vals])
 ·rw [nW_at hi] at hk
  have gm:t.ts[i].gs[k] ∈ t.ts[i].gs:=List.getElem_mem hk
  rw [rwW_at hi hk,((s2 _ (tm i hi)).2 _ gm).1]
  exact⟨_,_,((hS _ (tm i hi)).2 _ gm).rowX,okR_of _,(b5 _ (tm i hi)).2 _ gm⟩
 ·exact⟨(hR.own h.R.2 b hb').2,id⟩
 ·obtain⟨e1,e2⟩:=hC.own h.C.2 b hb'
  exact⟨e2,id,fun e3=>h.rc b (hR.own h.R.2 b e3).1 e1⟩
 ·exact⟨(hD.own h.D.2 b hb').2,id⟩
 ·exact⟨(hT.own h.T.2 b hb').2,id⟩
 ·rw [stW_at hi,(s2 _ (tm i hi)).1.1] at hb'
  obtain⟨e1,e2⟩:=(hS _ (tm i hi)).1.own (s2 _ (tm i hi)).1.2 b hb'
  refine⟨e2,id,fun j hj e3=>?_⟩
  have hj':j < t.ts.length:=by omega
  rw [stW_at hj',(s2 _ (tm j hj')).1.1] at e3
  obtain⟨e4,_⟩:=(hS _ (tm j hj')).1.own (s2 _ (tm j hj')).1.2 b e3
  exact (List.pairwise_iff_getElem.1 s3 j i hj' hi hj).1 b e4 e1
 ·rw [nW_at hi] at hk
  have gm:t.ts[i].gs[k] ∈ t.ts[i].gs:=List.getElem_mem hk
  rw [rwW_at hi hk,((s2 _ (tm i hi)).2 _ gm).1] at hb'
  obtain⟨e1,e2⟩:=((hS _ (tm i hi)).2 _ gm).own ((s2 _ (tm i hi)).2 _ gm).2 b hb'
  refine⟨e2,id,fun j k' hj hk' e3=>?_⟩
  have hj':j < t.ts.length:=by omega
  rw [nW_at hj'] at hk'
  have gm':t.ts[j].gs[k'] ∈ t.ts[j].gs:=List.getElem_mem hk'
  rw [rwW_at hj' hk',((s2 _ (tm j hj')).2 _ gm').1] at e3
  obtain⟨e4,_⟩:=((hS _ (tm j hj')).2 _ gm').own ((s2 _ (tm j hj')).2 _ gm').2 b e3
  rcases hj with hj | ⟨rfl,hj⟩
  ·exact (List.pairwise_iff_getElem.1 s3 j i hj' hi hj).2 _ gm' _ gm b e4 e1
  ·exact List.pairwise_iff_getElem.1 (s4 _ (tm j hj')) k' k hk' hk hj b e4 e1
end O
set_option maxRecDepth 100000
set_option maxHeartbeats 4000000
def lsR:RowM:=⟨6,0,0,⟨0,0⟩,⟨0,0⟩,⟨0,0⟩,⟨0,0⟩⟩
def lsG (B:Nat):GdM:=⟨⟨0,4⟩,2,0,some ⟨B+2,0,none⟩,1,[lsR]⟩
def lsT (B:Nat):TbM:=⟨⟨#[115]⟩,none,0,[],0,some ⟨B+4,0,none⟩,1,[1],some ⟨B+1,0,none⟩,4,[⟨3,1⟩,⟨6,4⟩,⟨1,0⟩,⟨5,2⟩],some ⟨B+6,0,none⟩,1,[⟨some ⟨B+5,0,none⟩,1,[lsG B]⟩]⟩
def lsD:Array Value:=#[zU 3,zI 1,zU 6,zI 4,zU 1,zI 0,zU 5,zI 2]
structure LsB (w:World) (B:Nat):Prop where
 D:w.heap[B+1]? = some (.cells lsD 61 (0,0))
 R:w.heap[B+2]? = some (.cells lsR.vals 85 (0,0))
 C:w.heap[B+4]? = some (.cells #[zI 1] 2 (0,0))
 G:w.heap[B+5]? = some (.cells (lsG B).vals 68 (0,0))
 S:w.heap[B+6]? = some (.cells #[.slice (some ⟨B+5,0,none⟩) 1 1] 69 (0,0))
theorem LsB.on {w w':World}{B:Nat}(h:LsB w B) (k:Below w§ w w'):LsB w' B:=by
 have lt:∀ {i:Nat}{o:Obj},w.heap[i]? = some o→i < w§:=fun h=>by
  rcases Nat.lt_or_ge _ w§ with h' | h'
  ·exact h'
  ·rw [Array.getElem?_eq_none h'] at h; cases h
 exact⟨(k.block _ (lt h.D)).trans h.D,(k.block _ (lt h.R)).trans h.R,(k.block _ (lt h.C)).trans h.C,(k.block _ (lt h.G)).trans h.G,(k.block _ (lt h.S)).trans h.S⟩
theorem sl1 {w:World}{n b t:Nat}{cs:Array Value}(h:w.heap[b]? = some (.cells cs t (0,0))):SlAt w n (some ⟨b,0,none⟩) 1 [cs]:=by
 refine⟨Nat.le_refl _,by decide,fun i hi=>⟨b,0,rfl,fun j hj=>?_⟩⟩
 obtain rfl:i=0:=by simp at hi; omega
 rw [Co h]; simp
theorem i0:I64 0:=⟨by decide,by decide⟩
theorem i4:I64 4:=⟨by decide,by decide⟩
theorem s00:SpI ⟨0,0⟩:=⟨i0,i0⟩
theorem s04:SpI ⟨0,4⟩:=⟨i0,i4⟩
theorem u0:U16 0:=⟨by decide,by decide⟩
theorem u2:U16 2:=⟨by decide,by decide⟩
theorem k0:(0:Nat)≤9223372036854775807:=by decide
theorem k4:(4:Nat)≤9223372036854775807:=by decide
theorem lsR_i:RowI lsR:=⟨⟨by decide,by decide⟩,⟨by decide,by decide⟩,i0,s00,s00,s00,s00⟩
theorem LsB.tb {w:World}{B:Nat}(h:LsB w B):TbL w (lsT B) where
 R:=⟨Nat.le_refl _,k0,fun i hi=>absurd hi (Nat.not_lt_zero _)⟩
 Ri:=fun n hn=>by cases hn
 S:=i0
 C:=sl1 h.C
 Ci:=fun n hn=>by
  obtain rfl:n=1:=by simpa [lsT] using hn
  exact⟨by decide,by decide⟩
 D:=by
  refine⟨Nat.le_refl _,k4,fun i hi=>⟨B+1,0,rfl,fun j hj=>?_⟩⟩
  rw [Co h.D]
  have hi':i < 4:=hi
  obtain rfl | rfl | rfl | rfl:i=0∨i=1∨i=2∨i=3:=by omega
  all_goals (obtain rfl | rfl:j=0∨j=1:=by omega) <;> rfl
 Di:=fun d hd=>by
  simp [lsT] at hd
  rcases hd with rfl | rfl | rfl | rfl <;> exact⟨⟨by decide,by decide⟩,by decide,by decide⟩
 T:=sl1 h.S
 Ti:=fun s hs=>by
  obtain rfl:s=⟨some ⟨B+5,0,none⟩,1,[lsG B]⟩:=by simpa [lsT] using hs
  refine⟨sl1 h.G,fun g hg=>?_⟩
  obtain rfl:g=lsG B:=by simpa using hg
  refine⟨s04,u2,u0,sl1 h.R,fun r hr=>?_⟩
  obtain rfl:r=lsR:=by simpa [lsG] using hr
  exact lsR_i
 X:=by show (1:Nat)≤_; decide
theorem JZ (w:World) (o:Obj) (k:Nat):(w.alloc o).heap[k]? = if k=w§ then some o else w.heap[k]?:=by
 show (w.heap.push o)[k]? = _
 rw [Array.getElem?_push]
theorem seven (w:World) (o0 o1 o2 o3 o4 o5 o6:Obj) {V:World}(e:(((((((w.alloc o0).alloc o1).alloc o2).alloc o3).alloc o4).alloc o5).alloc o6)=V) :
  V.heap[w§]? = some o0∧V.heap[w§+1]? = some o1∧V.heap[w§+2]? = some o2∧V.heap[w§+4]? = some o4∧V.heap[w§+5]? = some o5∧V.heap[w§+6]? = some o6∧Below w§ w V:=by
 subst e
 refine⟨by simp only [JZ,Sa]; repeat (first | rw [if_pos trivial] | rw [if_pos (by omega)] | rw [if_neg (by omega)]),by simp only [JZ,Sa]; repeat (first | rw [if_pos trivial] | rw [if_pos (by omega)] | rw [if_neg (by omega)]),by simp only [JZ,Sa]; repeat (first | rw [if_pos trivial] | rw [if_pos (by omega)] | rw [if_neg (by omega)]),by simp only [JZ,Sa]; repeat (first | rw [if_pos trivial] | rw [if_pos (by omega)] | rw [if_neg (by omega)]),by simp only [JZ,Sa]; repeat (first | rw [if_pos trivial] | rw [if_pos (by omega)] | rw [if_neg (by omega)]),by simp only [JZ,Sa]; repeat (first | rw [if_pos trivial] | rw [if_pos (by omega)] | rw [if_neg (by omega)]),?_⟩
 exact Qa (Bn _ _) (Qa (Bn _ _) (Qa (Bn _ _) (Qa (Bn _ _) (Qa (Bn _ _) (Qa (Bn _ _) (Bn _ _))))))
theorem Ju (w:World):Calls zG 22 #[] w fun e w'=>e=.returned (.agg (lsT w§).vals)∧LsB w' w§∧Below w§ w w':=by
 go_enter Tryz.func22,Tryz.ntmps22
 go_upto_region 1 with fail
 go_wp2_with fail
 generalize hV:World.alloc _ _=V
 obtain⟨h0,h1,h2,h4,h5,h6,hb⟩:=seven w _ _ _ _ _ _ _ hV
 exact bodyPost_ret (results_cell_row rfl _ _ w§ 26 (lsT w§).vals (0,0) _ rfl h0 Tryz.underlying26 rfl Qe) rfl ⟨rfl,⟨h1,h2,h4,h5,h6⟩,hb⟩
theorem Jb {w : World} {d : Nat} {xs ys : Array Value} {f : Field} {fs : List Field} {a b : Value} {r : Bool} (hn : f.name ≠ "_") (ha : (part f.type xs f.offset).run Tryz.prog w = .ok a w) (hb : (part f.type ys f.offset).run Tryz.prog w = .ok b w) (hr : (Op.equalIn d f.type a b).run Tryz.prog w = .ok r w) : (Op.eqFields d xs ys (f :: fs)).run Tryz.prog w = if r then (Op.eqFields d xs ys fs).run Tryz.prog w else .ok false w := by
 have e : Op.eqFields d xs ys (f :: fs) = (if f.name ≠ "_" then do
   let a ← part f.type xs f.offset
   let b ← part f.type ys f.offset
   let r ← Op.equalIn d f.type a b
   if (!r)=true then pure false else Op.eqFields d xs ys fs
  else Op.eqFields d xs ys fs):=rfl
 rw [e,if_pos hn]
 clear e
 simp only [Sem.run_bind,ha,hb,hr,Result.andThen_ok,Sem.run_ite,Sem.run_pure]
 cases r <;> simp
theorem eqF_nil {w:World}{d:Nat}{xs ys:Array Value}:(Op.eqFields d xs ys []).run Tryz.prog w=.ok true w:=rfl
theorem eq65 (x y:Sp) (w:World):(Op.equalIn 9999 65 (.agg x.vals) (.agg y.vals)).run Tryz.prog w=.ok (x.f == y.f && x.t == y.t) w:=by
 rw [run_equalIn_struct _ 9998 65 _ _ zK zK]
 simp only [Program.fieldsOf,Tryz.underlying65]
 rw [Jb (a:=zI x.f) (b:=zI y.f) (r:=x.f == y.f) (by decide) zK zK zK]
 rw [Jb (a:=zI x.t) (b:=zI y.t) (r:=x.t == y.t) (by decide) zK zK zK,eqF_nil]
 cases x.f == y.f <;> cases x.t == y.t <;> rfl
theorem eq85 (x y:RowM) (w:World):(Op.equalIn 10000 85 (.agg x.vals) (.agg y.vals)).run Tryz.prog w=.ok (x.k == y.k && (x.o == y.o && (x.i == y.i && ((x.sd.f == y.sd.f && x.sd.t == y.sd.t) && ((x.qt.f == y.qt.f && x.qt.t == y.qt.t) && ((x.pr.f == y.pr.f && x.pr.t == y.pr.t) && (x.vl.f == y.vl.f && x.vl.t == y.vl.t))))))) w:=by
 rw [run_equalIn_struct _ 9999 85 _ _ zK zK]
 simp only [Program.fieldsOf,Tryz.underlying85]
 rw [Jb (a:=zU x.k) (b:=zU y.k) (r:=x.k == y.k) (by decide) zK zK zK]
 rw [Jb (a:=zU x.o) (b:=zU y.o) (r:=x.o == y.o) (by decide) zK zK zK]
 rw [Jb (a:=zI x.i) (b:=zI y.i) (r:=x.i == y.i) (by decide) zK zK zK]
 rw [Jb (a:=.agg x.sd.vals) (b:=.agg y.sd.vals) (r:=x.sd.f == y.sd.f && x.sd.t == y.sd.t) (by decide) zK zK (by exact eq65 _ _ _)]
 rw [Jb (a:=.agg x.qt.vals) (b:=.agg y.qt.vals) (r:=x.qt.f == y.qt.f && x.qt.t == y.qt.t) (by decide) zK zK (by exact eq65 _ _ _)]
 rw [Jb (a:=.agg x.pr.vals) (b:=.agg y.pr.vals) (r:=x.pr.f == y.pr.f && x.pr.t == y.pr.t) (by decide) zK zK (by exact eq65 _ _ _)]
 rw [Jb (a:=.agg x.vl.vals) (b:=.agg y.vl.vals) (r:=x.vl.f == y.vl.f && x.vl.t == y.vl.t) (by decide) zK zK (by exact eq65 _ _ _),eqF_nil]
 cases x.k == y.k
 ·rfl
 cases x.o == y.o
 ·rfl
 cases x.i == y.i
 ·rfl
 cases x.sd.f == y.sd.f && x.sd.t == y.sd.t
 ·rfl
 cases x.qt.f == y.qt.f && x.qt.t == y.qt.t
 ·rfl
 cases x.pr.f == y.pr.f && x.pr.t == y.pr.t
 ·rfl
 cases x.vl.f == y.vl.f && x.vl.t == y.vl.t <;> rfl
theorem row_eq (x y:RowM):∃ b,(b=true ↔ x=y)∧∀ w,(Op.equalIn 10000 85 (.agg x.vals) (.agg y.vals)).run Tryz.prog w=.ok b w:=by
 refine⟨(x.k == y.k && (x.o == y.o && (x.i == y.i && ((x.sd.f == y.sd.f && x.sd.t == y.sd.t) && ((x.qt.f == y.qt.f && x.qt.t == y.qt.t) && ((x.pr.f == y.pr.f && x.pr.t == y.pr.t) && (x.vl.f == y.vl.f && x.vl.t == y.vl.t))))))),?_,fun w=>eq85 _ _ _⟩
 obtain⟨a1,a2,a3,⟨a4,a5⟩,⟨a6,a7⟩,⟨a8,a9⟩,⟨a10,a11⟩⟩:=x
 obtain⟨b1,b2,b3,⟨b4,b5⟩,⟨b6,b7⟩,⟨b8,b9⟩,⟨b10,b11⟩⟩:=y
 simp only [RowM.mk.injEq,Sp.mk.injEq,Bool.and_eq_true,beq_iff_eq]
def JO (g h:GdM):Prop:=g.wh.f=h.wh.f∧g.wh.t=h.wh.t∧g.fd=h.fd∧g.rg=h.rg∧g.rs=h.rs
def OutE (S:Prop) (w:World) (e:Ending) (w':World):Prop:=∃ b,e=.returned (.bool b)∧(b=true ↔ S)∧Below w§ w w'
theorem row_at {w:World}{a:Option Addr}{c:Nat}{rs:List RowM}(h:SlAt w 11 a c (rs.map RowM.vals)) (i:Nat) (hi:i < rs.length):∃ b o,a=some ⟨b,o,none⟩∧w.rangeAt b (o+i * 11) rs[i].vals.toList:=by
 obtain⟨bb,o,ea,hat⟩:=h.2.2 i (by rw [List.length_map]; exact hi)
 simp only [List.getElem_map] at hat
 refine⟨bb,o,ea,fun j v hv=>?_⟩
 have hj:j < 11:=(List.getElem?_eq_some_iff.1 hv).1
 rw [hat j hj,← hv]; simp
theorem sameGuard_any (g h:GdM) (w:World) (hg:GdL w g) (hh:GdL w h):Calls zG 27 #[.agg g.vals,.agg h.vals] w (OutE (JO g h) w):=by
 have hn1:((w.alloc (.cells g.vals 68)).alloc (.cells h.vals 68)).heap[w§]? = some (.cells g.vals 68 (0,0)):=by rw [JZ,if_neg (by simp)]; exact Hn _ _
 have hn2:((w.alloc (.cells g.vals 68)).alloc (.cells h.vals 68)).heap[w§+1]? = some (.cells h.vals 68 (0,0)):=by rw [← Sa w (.cells g.vals 68)]; exact Hn _ _
 have hb1:Below w§ w ((w.alloc (.cells g.vals 68)).alloc (.cells h.vals 68)):=Qa (Bn _ _) (Bn _ _)
 obtain⟨W1,e1⟩:∃ W,(w.alloc (.cells g.vals 68)).alloc (.cells h.vals 68)=W:=⟨_,rfl⟩
 have E1:=zH e1
 rw [e1] at hn1 hn2 hb1
 have HB:=zH hb1
 have HG:=zH ((hg.on hb1).2.2.2.1)
 have HH:=zH ((hh.on hb1).2.2.2.1)
 have HN1:=zH hn1
 have HN2:=zH hn2
 obtain⟨c0,c1,c2,c3,c4⟩:=cl5 hn1
 obtain⟨d0,d1,d2,d3,d4⟩:=cl5 hn2
 clear hn1 hn2 e1 hb1 hg hh
 go_enter Tryz.func27,Tryz.ntmps27
 go_upto_region 1 with fail
 rw [E1.out]
 clear E1
 go_wp2_with fail
 ·rename_i hx
  go_ret
  exact⟨false,rfl,⟨fun e=>(by cases e),fun ⟨_,_,_,_,h5⟩=>by rw [h5] at hx; simp at hx⟩,HB.out⟩
 ·clear c0 c1 c2 c3 c4 d0 d1 d2 d3 d4
  rename_i q1 q2 q3 q4 hx _ _
  have HQ:Hid (g.wh.f=h.wh.f∧g.wh.t=h.wh.t∧g.fd=h.fd∧g.rg=h.rg):=⟨q1,q2,q3,q4⟩
  have hlen:g.rs.length=h.rs.length:=by have h9:=hx; simp at h9; omega
  have HLEN:=zH hlen
  clear q1 q2 q3 q4 hx hlen
  go_loopw [5] (fun q wr=>∃ (i:Nat),i≤g.rs.length∧q=zI i∧Hid (Below W1§ W1 wr)∧Hid (g.rs.take i=h.rs.take i)) (fun q _=>g.rs.length - (intOf q).toNat)
  case atStart=>exact⟨0,by omega,rfl,Below.refl _ _,rfl⟩
  case round =>
   obtain⟨i,hi,rfl,HBR,HTR⟩:=hrel
   have c4:wr.cell? ⟨w§,4,none⟩=some (.slice g.a g.rs.length g.c):=Co ((HBR.out.block _ (Array.getElem?_eq_some_iff.1 HN1.out).1).trans HN1.out) 4
   have d4:wr.cell? ⟨w§+1,4,none⟩=some (.slice h.a h.rs.length h.c):=Co ((HBR.out.block _ (Array.getElem?_eq_some_iff.1 HN2.out).1).trans HN2.out) 4
   by_cases hlt:i < g.rs.length
   ·have hlt':(i:Int) < (g.rs.length:Int):=by omega
    have hlh:i < h.rs.length:=by have:=HLEN.out; omega
    have hlh':(i:Int) < (h.rs.length:Int):=by omega
    have hmx:(i:Int)+1≤9223372036854775807:=by have h1:=HG.out.1; have h2:=HG.out.2.1; rw [List.length_map] at h1; omega
    obtain⟨b1,o1,ea,r1⟩:=row_at (HG.out.on (mapz RowM.sz _) HBR.out) i hlt
    obtain⟨b2,o2,eb,r2⟩:=row_at (HH.out.on (mapz RowM.sz _) HBR.out) i hlh
    have HS:Hid (g.rs[i]=h.rs[i]→g.rs.take (i+1)=h.rs.take (i+1)):=fun e=>by
     rw [List.take_succ_eq_append_getElem hlt,List.take_succ_eq_append_getElem hlh,HTR.out,e]
    have HF:Hid (¬ g.rs[i]=h.rs[i]→¬ JO g h):=fun e k=>e (by have:=k.2.2.2.2; simp only [this])
    obtain⟨x,ex⟩:∃ x,g.rs[i]=x:=⟨_,rfl⟩
    obtain⟨y,ey⟩:∃ y,h.rs[i]=y:=⟨_,rfl⟩
    rw [ex] at r1 HS HF
    rw [ey] at r2 HS HF
    clear ex ey HTR
    rw [ea] at c4
    rw [eb] at d4
    clear ea eb
    have HD:Hid (∀ n,Below W1§ W1 (wr.drewN n)):=fun n=>Qz HBR.out n
    clear HBR
    have x0:wr.cell? ⟨b1,o1+i * 11,none⟩=some (zU x.k):=r1 0 _ rfl
    have x1:wr.cell? ⟨b1,o1+i * 11+1,none⟩=some (zU x.o):=r1 1 _ rfl
    have x2:wr.cell? ⟨b1,o1+i * 11+2,none⟩=some (zI x.i):=r1 2 _ rfl
    have x3:wr.cell? ⟨b1,o1+i * 11+3,none⟩=some (zI x.sd.f):=r1 3 _ rfl
    have x4:wr.cell? ⟨b1,o1+i * 11+4,none⟩=some (zI x.sd.t):=r1 4 _ rfl
    have x5:wr.cell? ⟨b1,o1+i * 11+5,none⟩=some (zI x.qt.f):=r1 5 _ rfl
    have x6:wr.cell? ⟨b1,o1+i * 11+6,none⟩=some (zI x.qt.t):=r1 6 _ rfl
    have x7:wr.cell? ⟨b1,o1+i * 11+7,none⟩=some (zI x.pr.f):=r1 7 _ rfl
    have x8:wr.cell? ⟨b1,o1+i * 11+8,none⟩=some (zI x.pr.t):=r1 8 _ rfl
    have x9:wr.cell? ⟨b1,o1+i * 11+9,none⟩=some (zI x.vl.f):=r1 9 _ rfl
    have x10:wr.cell? ⟨b1,o1+i * 11+10,none⟩=some (zI x.vl.t):=r1 10 _ rfl
    have y0:wr.cell? ⟨b2,o2+i * 11,none⟩=some (zU y.k):=r2 0 _ rfl
    have y1:wr.cell? ⟨b2,o2+i * 11+1,none⟩=some (zU y.o):=r2 1 _ rfl
    have y2:wr.cell? ⟨b2,o2+i * 11+2,none⟩=some (zI y.i):=r2 2 _ rfl
    have y3:wr.cell? ⟨b2,o2+i * 11+3,none⟩=some (zI y.sd.f):=r2 3 _ rfl
    have y4:wr.cell? ⟨b2,o2+i * 11+4,none⟩=some (zI y.sd.t):=r2 4 _ rfl
    have y5:wr.cell? ⟨b2,o2+i * 11+5,none⟩=some (zI y.qt.f):=r2 5 _ rfl
    have y6:wr.cell? ⟨b2,o2+i * 11+6,none⟩=some (zI y.qt.t):=r2 6 _ rfl
    have y7:wr.cell? ⟨b2,o2+i * 11+7,none⟩=some (zI y.pr.f):=r2 7 _ rfl
    have y8:wr.cell? ⟨b2,o2+i * 11+8,none⟩=some (zI y.pr.t):=r2 8 _ rfl
    have y9:wr.cell? ⟨b2,o2+i * 11+9,none⟩=some (zI y.vl.f):=r2 9 _ rfl
    have y10:wr.cell? ⟨b2,o2+i * 11+10,none⟩=some (zI y.vl.t):=r2 10 _ rfl
    clear r1 r2
    obtain⟨b,hb1,hb2⟩:=row_eq x y
    have HB1:Hid (b=true ↔ x=y):=hb1
    have hne:∀ w,(Op.equalIn 10000 85 (.agg #[zU x.k,zU x.o,zI x.i,zI x.sd.f,zI x.sd.t,zI x.qt.f,zI x.qt.t,zI x.pr.f,zI x.pr.t,zI x.vl.f,zI x.vl.t]) (.agg #[zU y.k,zU y.o,zI y.i,zI y.sd.f,zI y.sd.t,zI y.qt.f,zI y.qt.t,zI y.pr.f,zI y.pr.t,zI y.vl.f,zI y.vl.t])).run Tryz.prog w=.ok b w:=hb2
    clear hb1 hb2
    cases b with
    | false =>
     go_wp2_with fail
     go_quiet (fail)
     go_wp2_with fail
     go_ret
     exact⟨false,rfl,⟨fun e=>(by cases e),fun k=>absurd k (HF.out (fun k=>by have:=HB1.out.2 k; cases this))⟩,Qa HB.out (HD.out _)⟩
    | true =>
     have hxy:x=y:=HB1.out.1 rfl
     have HXY:Hid (x=y):=hxy
     clear hxy
     go_wp2_with fail
     go_quiet (fail)
     go_wp2_with fail
     exact⟨⟨i+1,hlt,rfl,HD.out _,HS.out HXY.out⟩,by simp only [intOf]; omega⟩
   ·obtain rfl:i=g.rs.length:=by omega
    have hnot:¬ (g.rs.length:Int) < (g.rs.length:Int):=by omega
    go_wp2_with fail
    go_ret
    refine⟨true,rfl,⟨fun _=>⟨HQ.out.1,HQ.out.2.1,HQ.out.2.2.1,HQ.out.2.2.2,?_⟩,fun _=>rfl⟩,Qa HB.out HBR.out⟩
    have:=HTR.out
    rw [List.take_length,HLEN.out,List.take_length] at this
    exact this
 all_goals
  rename_i hx
  go_ret
  exact⟨false,rfl,⟨fun e=>(by cases e),fun ⟨h1,h2,h3,h4,_⟩=>by first | exact absurd h1 hx | exact absurd h2 hx | exact absurd h3 hx | exact absurd h4 hx⟩,HB.out⟩
set_option maxHeartbeats 16000000
def SameS (x y:StM):Prop:=x.gs.length=y.gs.length∧∀ j (h3:j < x.gs.length) (h4:j < y.gs.length),JO x.gs[j] y.gs[j]
def SameI (t u:List StM) (n:Nat):Prop:=∀ i (h1:i < t.length) (h2:i < u.length),i < n→SameS t[i] u[i]
def JU (t u:TbM):Prop:=t.x=u.x∧t.sl=u.sl∧t.rs=u.rs∧t.cs=u.cs∧t.ds=u.ds∧t.ts.length=u.ts.length∧SameI t.ts u.ts t.ts.length
theorem eq61 (x y:InM) (w:World):(Op.equalIn 10000 61 (.agg x.vals) (.agg y.vals)).run Tryz.prog w=.ok (x.k == y.k && x.a == y.a) w:=by
 rw [run_equalIn_struct _ 9999 61 _ _ zK zK]
 simp only [Program.fieldsOf,Tryz.underlying61]
 rw [Jb (a:=zU x.k) (b:=zU y.k) (r:=x.k == y.k) (by decide) zK zK zK]
 rw [Jb (a:=zI x.a) (b:=zI y.a) (r:=x.a == y.a) (by decide) zK zK zK,eqF_nil]
 cases x.k == y.k <;> cases x.a == y.a <;> rfl
theorem in_eq (x y:InM):∃ b,(b=true ↔ x=y)∧∀ w,(Op.equalIn 10000 61 (.agg x.vals) (.agg y.vals)).run Tryz.prog w=.ok b w:=by
 refine⟨_,?_,fun w=>eq61 _ _ _⟩
 obtain⟨a1,a2⟩:=x
 obtain⟨b1,b2⟩:=y
 simp only [InM.mk.injEq,Bool.and_eq_true,beq_iff_eq]
theorem Qf {w w':World}{a:Addr}{v:Value}(h:w.cell? a=some v) (k:Below w§ w w'):w'.cell? a=some v:=by
 rw [World.cell?_of_block (k.block _ (World.block_lt_of_cell? w _ h))]; exact h
theorem QP {α:Type}{f:α→Array Value}{n:Nat}(hf:∀ a,(f a).size=n) {w:World}{a:Option Addr}{c:Nat}{rs:List α}(h:SlAt w n a c (rs.map f)) (i:Nat) (hi:i < rs.length):∃ b o,a=some ⟨b,o,none⟩∧w.rangeAt b (o+i * n) (f rs[i]).toList:=by
 obtain⟨bb,o,ea,hat⟩:=h.2.2 i (by rw [List.length_map]; exact hi)
 simp only [List.getElem_map] at hat
 refine⟨bb,o,ea,fun j v hv=>?_⟩
 have hj:j < n:=by have:=(List.getElem?_eq_some_iff.1 hv).1; rw [Array.length_toList,hf] at this; exact this
 rw [hat j hj,← hv]; simp
theorem sameTable_any (t u:TbM) (w:World) (hg:TbL w t) (hh:TbL w u):Calls zG 12 #[.agg t.vals,.agg u.vals] w (OutE (JU t u) w):=by
 have hn1:((w.alloc (.cells t.vals 26)).alloc (.cells u.vals 26)).heap[w§]? = some (.cells t.vals 26 (0,0)):=by rw [JZ,if_neg (by simp)]; exact Hn _ _
 have hn2:((w.alloc (.cells t.vals 26)).alloc (.cells u.vals 26)).heap[w§+1]? = some (.cells u.vals 26 (0,0)):=by rw [← Sa w (.cells t.vals 26)]; exact Hn _ _
 have hb1:Below w§ w ((w.alloc (.cells t.vals 26)).alloc (.cells u.vals 26)):=Qa (Bn _ _) (Bn _ _)
 obtain⟨W1,e1⟩:∃ W,(w.alloc (.cells t.vals 26)).alloc (.cells u.vals 26)=W:=⟨_,rfl⟩
 have E1:Hid ((w.alloc (.cells t.vals 26)).alloc (.cells u.vals 26)=W1):=e1
 rw [e1] at hn1 hn2 hb1
 have HB:Hid (Below w§ w W1):=hb1
 have HG:Hid (TbL W1 t):=hg.on hb1
 have HH:Hid (TbL W1 u):=hh.on hb1
 have HN1:Hid (W1.heap[w§]? = some (.cells t.vals 26 (0,0))):=hn1
 have HN2:Hid (W1.heap[w§+1]? = some (.cells u.vals 26 (0,0))):=hn2
 obtain⟨c0,c1,c2,c3,c4,c5⟩:=cl6 hn1
 obtain⟨d0,d1,d2,d3,d4,d5⟩:=cl6 hn2
 clear hn1 hn2 e1 hb1 hg hh
 go_enter Tryz.func12,Tryz.ntmps12
 go_upto_region 1 with fail
 rw [E1.out]
 clear E1
 go_wp2_with fail
 ·rename_i hx
  go_ret
  exact⟨false,rfl,⟨fun e=>(by cases e),fun k=>by rw [k.2.2.2.2.2.1] at hx; simp at hx⟩,HB.out⟩
 ·clear c0 c1 c2 c3 c4 c5 d0 d1 d2 d3 d4 d5
  rename_i q0 q1 q2 q3 q4 hx _ _
  have HX:Hid (t.x=u.x):=Kl (by simpa [ByteArray.toList_eq] using q0)
  have HSL:Hid (t.sl=u.sl):=q1
  have HL0:Hid (t.rs.length=u.rs.length):=by show _=_; omega
  have HL1:Hid (t.cs.length=u.cs.length):=by show _=_; omega
  have HL2:Hid (t.ds.length=u.ds.length):=by show _=_; omega
  have HL3:Hid (t.ts.length=u.ts.length):=by show _=_; have h9:=hx; simp at h9; omega
  clear q0 q1 q2 q3 q4 hx
  have HBR0:Hid (Below W1§ W1 W1):=Below.refl _ _
  go_loopw [5] (fun q wr=>∃ (i:Nat),i≤t.rs.length∧q=zI i∧Hid (Below W1§ W1 wr)∧Hid (t.rs.take i=u.rs.take i)) (fun q _=>t.rs.length - (intOf q).toNat)
  case atStart=>exact⟨0,by omega,rfl,HBR0,rfl⟩
  case round =>
   clear HBR0
   obtain⟨i,hi,rfl,HBR1,HTR⟩:=hrel
   have c1:wr.cell? ⟨w§,1,none⟩=some (.slice t.ra t.rs.length t.rc):=Co ((HBR1.out.block _ (Array.getElem?_eq_some_iff.1 HN1.out).1).trans HN1.out) 1
   have d1:wr.cell? ⟨w§+1,1,none⟩=some (.slice u.ra u.rs.length u.rc):=Co ((HBR1.out.block _ (Array.getElem?_eq_some_iff.1 HN2.out).1).trans HN2.out) 1
   by_cases hlt:i < t.rs.length
   ·have hlt':(i:Int) < (t.rs.length:Int):=by omega
    have hlh:i < u.rs.length:=by have:=HL0.out; omega
    have hlh':(i:Int) < (u.rs.length:Int):=by omega
    have hmx:(i:Int)+1≤9223372036854775807:=by have h1:=HG.out.R.1; have h2:=HG.out.R.2.1; rw [List.length_map] at h1; omega
    obtain⟨b1,o1,ea,r1⟩:=QP Q9 (HG.out.R.on (mapz Q9 _) HBR1.out) i hlt
    obtain⟨b2,o2,eb,r2⟩:=QP Q9 (HH.out.R.on (mapz Q9 _) HBR1.out) i hlh
    have HS:Hid (t.rs[i]=u.rs[i]→t.rs.take (i+1)=u.rs.take (i+1)):=fun e=>by
     rw [List.take_succ_eq_append_getElem hlt,List.take_succ_eq_append_getElem hlh,HTR.out,e]
    have HF:Hid (¬ t.rs[i]=u.rs[i]→¬ JU t u):=fun e k=>e (by have:=k.2.2.1; simp only [this])
    obtain⟨x,ex⟩:∃ x,t.rs[i]=x:=⟨_,rfl⟩
    obtain⟨y,ey⟩:∃ y,u.rs[i]=y:=⟨_,rfl⟩
    rw [ex] at r1 HS HF
    rw [ey] at r2 HS HF
    clear ex ey HTR
    rw [ea] at c1
    rw [eb] at d1
    clear ea eb
    have HD:Hid (∀ n,Below W1§ W1 (wr.drewN n)):=fun n=>Qz HBR1.out n
    clear HBR1
    have x0:wr.cell? ⟨b1,o1+i,none⟩=some (zI x):=by have:=r1 0 _ rfl; rw [Nat.mul_one,Nat.add_zero] at this; exact this
    have y0:wr.cell? ⟨b2,o2+i,none⟩=some (zI y):=by have:=r2 0 _ rfl; rw [Nat.mul_one,Nat.add_zero] at this; exact this
    clear r1 r2
    by_cases hxy:x=y
    ·subst hxy
     go_wp2_with fail
     go_quiet (fail)
     go_wp2_with fail
     exact⟨⟨i+1,hlt,rfl,HD.out _,HS.out (by first | rfl | trivial)⟩,by simp only [intOf]; omega⟩
    ·have hb1:(x == y)=false:=by simp [hxy]
     have hb2:(x != y)=true:=by simp [hxy]
     go_wp2_with fail
     go_quiet (fail)
     go_wp2_with fail
     go_ret
     exact⟨false,rfl,⟨fun e=>(by cases e),fun k=>absurd k (HF.out hxy)⟩,Qa HB.out (HD.out _)⟩
   ·obtain rfl:i=t.rs.length:=by omega
    have hnot:¬ (t.rs.length:Int) < (t.rs.length:Int):=by omega
    have HE0:Hid (t.rs=u.rs):=by
     have h9:=HTR.out
     rw [List.take_length,HL0.out,List.take_length] at h9
     exact h9
    go_wp2_with fail
    clear c1 d1 HTR hi hnot
    go_loopw [6] (fun q wr=>∃ (i:Nat),i≤t.cs.length∧q=zI i∧Hid (Below W1§ W1 wr)∧Hid (t.cs.take i=u.cs.take i)) (fun q _=>t.cs.length - (intOf q).toNat)
    case atStart=>exact⟨0,by omega,rfl,HBR1,rfl⟩
    case round =>
     clear HBR1
     obtain⟨i,hi,rfl,HBR2,HTR⟩:=hrel
     have c3:wr.cell? ⟨w§,3,none⟩=some (.slice t.ca t.cs.length t.cc):=Co ((HBR2.out.block _ (Array.getElem?_eq_some_iff.1 HN1.out).1).trans HN1.out) 3
     have d3:wr.cell? ⟨w§+1,3,none⟩=some (.slice u.ca u.cs.length u.cc):=Co ((HBR2.out.block _ (Array.getElem?_eq_some_iff.1 HN2.out).1).trans HN2.out) 3
     by_cases hlt:i < t.cs.length
     ·have hlt':(i:Int) < (t.cs.length:Int):=by omega
      have hlh:i < u.cs.length:=by have:=HL1.out; omega
      have hlh':(i:Int) < (u.cs.length:Int):=by omega
      have hmx:(i:Int)+1≤9223372036854775807:=by have h1:=HG.out.C.1; have h2:=HG.out.C.2.1; rw [List.length_map] at h1; omega
      obtain⟨b1,o1,ea,r1⟩:=QP Q9 (HG.out.C.on (mapz Q9 _) HBR2.out) i hlt
      obtain⟨b2,o2,eb,r2⟩:=QP Q9 (HH.out.C.on (mapz Q9 _) HBR2.out) i hlh
      have HS:Hid (t.cs[i]=u.cs[i]→t.cs.take (i+1)=u.cs.take (i+1)):=fun e=>by
       rw [List.take_succ_eq_append_getElem hlt,List.take_succ_eq_append_getElem hlh,HTR.out,e]
      have HF:Hid (¬ t.cs[i]=u.cs[i]→¬ JU t u):=fun e k=>e (by have:=k.2.2.2.1; simp only [this])
      obtain⟨x,ex⟩:∃ x,t.cs[i]=x:=⟨_,rfl⟩
      obtain⟨y,ey⟩:∃ y,u.cs[i]=y:=⟨_,rfl⟩
      rw [ex] at r1 HS HF
      rw [ey] at r2 HS HF
      clear ex ey HTR
      rw [ea] at c3
      rw [eb] at d3
      clear ea eb
      have HD:Hid (∀ n,Below W1§ W1 (wr.drewN n)):=fun n=>Qz HBR2.out n
      clear HBR2
      have x0:wr.cell? ⟨b1,o1+i,none⟩=some (zI x):=by have:=r1 0 _ rfl; rw [Nat.mul_one,Nat.add_zero] at this; exact this
      have y0:wr.cell? ⟨b2,o2+i,none⟩=some (zI y):=by have:=r2 0 _ rfl; rw [Nat.mul_one,Nat.add_zero] at this; exact this
      clear r1 r2
      by_cases hxy:x=y
      ·subst hxy
       go_wp2_with fail
       go_quiet (fail)
       go_wp2_with fail
       exact⟨⟨i+1,hlt,rfl,HD.out _,HS.out (by first | rfl | trivial)⟩,by simp only [intOf]; omega⟩
      ·have hb1:(x == y)=false:=by simp [hxy]
       have hb2:(x != y)=true:=by simp [hxy]
       go_wp2_with fail
       go_quiet (fail)
       go_wp2_with fail
       go_ret
       exact⟨false,rfl,⟨fun e=>(by cases e),fun k=>absurd k (HF.out hxy)⟩,Qa HB.out (HD.out _)⟩
     ·obtain rfl:i=t.cs.length:=by omega
      have hnot:¬ (t.cs.length:Int) < (t.cs.length:Int):=by omega
      have HE1:Hid (t.cs=u.cs):=by
       have h9:=HTR.out
       rw [List.take_length,HL1.out,List.take_length] at h9
       exact h9
      go_wp2_with fail
      clear c3 d3 HTR hi hnot
      go_loopw [7] (fun q wr=>∃ (i:Nat),i≤t.ds.length∧q=zI i∧Hid (Below W1§ W1 wr)∧Hid (t.ds.take i=u.ds.take i)) (fun q _=>t.ds.length - (intOf q).toNat)
      case atStart=>exact⟨0,by omega,rfl,HBR2,rfl⟩
      case round =>
       clear HBR2
       obtain⟨i,hi,rfl,HBR3,HTR⟩:=hrel
       have c4:wr.cell? ⟨w§,4,none⟩=some (.slice t.da t.ds.length t.dc):=Co ((HBR3.out.block _ (Array.getElem?_eq_some_iff.1 HN1.out).1).trans HN1.out) 4
       have d4:wr.cell? ⟨w§+1,4,none⟩=some (.slice u.da u.ds.length u.dc):=Co ((HBR3.out.block _ (Array.getElem?_eq_some_iff.1 HN2.out).1).trans HN2.out) 4
       by_cases hlt:i < t.ds.length
       ·have hlt':(i:Int) < (t.ds.length:Int):=by omega
        have hlh:i < u.ds.length:=by have:=HL2.out; omega
        have hlh':(i:Int) < (u.ds.length:Int):=by omega
        have hmx:(i:Int)+1≤9223372036854775807:=by have h1:=HG.out.D.1; have h2:=HG.out.D.2.1; rw [List.length_map] at h1; omega
        obtain⟨b1,o1,ea,r1⟩:=QP InM.sz (HG.out.D.on (mapz InM.sz _) HBR3.out) i hlt
        obtain⟨b2,o2,eb,r2⟩:=QP InM.sz (HH.out.D.on (mapz InM.sz _) HBR3.out) i hlh
        have HS:Hid (t.ds[i]=u.ds[i]→t.ds.take (i+1)=u.ds.take (i+1)):=fun e=>by
         rw [List.take_succ_eq_append_getElem hlt,List.take_succ_eq_append_getElem hlh,HTR.out,e]
        have HF:Hid (¬ t.ds[i]=u.ds[i]→¬ JU t u):=fun e k=>e (by have:=k.2.2.2.2.1; simp only [this])
        obtain⟨x,ex⟩:∃ x,t.ds[i]=x:=⟨_,rfl⟩
        obtain⟨y,ey⟩:∃ y,u.ds[i]=y:=⟨_,rfl⟩
        rw [ex] at r1 HS HF
        rw [ey] at r2 HS HF
        clear ex ey HTR
        rw [ea] at c4
        rw [eb] at d4
        clear ea eb
        have HD:Hid (∀ n,Below W1§ W1 (wr.drewN n)):=fun n=>Qz HBR3.out n
        clear HBR3
        have x0:wr.cell? ⟨b1,o1+i * 2,none⟩=some (zU x.k):=r1 0 _ rfl
        have x1:wr.cell? ⟨b1,o1+i * 2+1,none⟩=some (zI x.a):=r1 1 _ rfl
        have y0:wr.cell? ⟨b2,o2+i * 2,none⟩=some (zU y.k):=r2 0 _ rfl
        have y1:wr.cell? ⟨b2,o2+i * 2+1,none⟩=some (zI y.a):=r2 1 _ rfl
        clear r1 r2
        obtain⟨b,hb1,hb2⟩:=in_eq x y
        have HB1:Hid (b=true ↔ x=y):=hb1
        have hne:∀ w,(Op.equalIn 10000 61 (.agg #[zU x.k,zI x.a]) (.agg #[zU y.k,zI y.a])).run Tryz.prog w=.ok b w:=hb2
        clear hb1 hb2
        cases b with
        | false =>
         go_wp2_with fail
         go_quiet (fail)
         go_wp2_with fail
         go_ret
         exact⟨false,rfl,⟨fun e=>(by cases e),fun k=>absurd k (HF.out (fun k=>by have:=HB1.out.2 k; cases this))⟩,Qa HB.out (HD.out _)⟩
        | true =>
         have HXY:Hid (x=y):=HB1.out.1 rfl
         go_wp2_with fail
         go_quiet (fail)
         go_wp2_with fail
         exact⟨⟨i+1,hlt,rfl,HD.out _,HS.out HXY.out⟩,by simp only [intOf]; omega⟩
       ·obtain rfl:i=t.ds.length:=by omega
        have hnot:¬ (t.ds.length:Int) < (t.ds.length:Int):=by omega
        have HE2:Hid (t.ds=u.ds):=by
         have h9:=HTR.out
         rw [List.take_length,HL2.out,List.take_length] at h9
         exact h9
        go_wp2_with fail
        clear c4 d4 HTR hi hnot
        go_loopw [8] (fun q wr=>∃ (i:Nat),i≤t.ts.length∧q=zI i∧Hid (Below W1§ W1 wr)∧Hid (SameI t.ts u.ts i)) (fun q _=>t.ts.length - (intOf q).toNat)
        case atStart=>exact⟨0,by omega,rfl,HBR3,fun i _ _ h=>absurd h (Nat.not_lt_zero _)⟩
        case round =>
         clear HBR3
         obtain⟨i,hi,rfl,HBR4,HTR⟩:=hrel
         have HC5:Hid (W1.cell? ⟨w§,5,none⟩=some (.slice t.ta t.ts.length t.tc)):=Co HN1.out 5
         have HD5:Hid (W1.cell? ⟨w§+1,5,none⟩=some (.slice u.ta u.ts.length u.tc)):=Co HN2.out 5
         have c5:=Qf HC5.out HBR4.out
         have d5:=Qf HD5.out HBR4.out
         by_cases hlt:i < t.ts.length
         ·have hlt':(i:Int) < (t.ts.length:Int):=by omega
          have hlh:i < u.ts.length:=by have:=HL3.out; omega
          have hlh':(i:Int) < (u.ts.length:Int):=by omega
          have hmx:(i:Int)+1≤9223372036854775807:=by have h1:=HG.out.T.1; have h2:=HG.out.T.2.1; rw [List.length_map] at h1; omega
          obtain⟨b1,o1,ea,r1⟩:=QP StM.sz HG.out.T i hlt
          obtain⟨b2,o2,eb,r2⟩:=QP StM.sz HH.out.T i hlh
          have HS:Hid (SameS t.ts[i] u.ts[i]→SameI t.ts u.ts (i+1)):=fun e k h1 h2 h3=>by
           by_cases hk:k < i
           ·exact HTR.out k h1 h2 hk
           ·obtain rfl:k=i:=by omega
            exact e
          have HF:Hid (¬ SameS t.ts[i] u.ts[i]→¬ JU t u):=fun e k=>e (k.2.2.2.2.2.2 i hlt hlh hlt)
          have HGX:Hid (StL W1 t.ts[i]):=HG.out.Ti _ (List.getElem_mem hlt)
          have HGY:Hid (StL W1 u.ts[i]):=HH.out.Ti _ (List.getElem_mem hlh)
          obtain⟨x,ex⟩:∃ x,t.ts[i]=x:=⟨_,rfl⟩
          obtain⟨y,ey⟩:∃ y,u.ts[i]=y:=⟨_,rfl⟩
          rw [ex] at r1 HS HF HGX
          rw [ey] at r2 HS HF HGY
          clear ex ey HTR
          rw [ea] at c5 HC5
          rw [eb] at d5 HD5
          clear ea eb
          have HX0:Hid (W1.cell? ⟨b1,o1+i,none⟩=some (.slice x.a x.gs.length x.c)):=by have:=r1 0 _ rfl; rw [Nat.mul_one,Nat.add_zero] at this; exact this
          have HY0:Hid (W1.cell? ⟨b2,o2+i,none⟩=some (.slice y.a y.gs.length y.c)):=by have:=r2 0 _ rfl; rw [Nat.mul_one,Nat.add_zero] at this; exact this
          clear r1 r2
          have x0:=Qf HX0.out HBR4.out
          have y0:=Qf HY0.out HBR4.out
          have HD:Hid (∀ n,Below W1§ W1 (wr.drewN n)):=fun n=>Qz HBR4.out n
          clear HBR4
          by_cases hlen:x.gs.length=y.gs.length
          ·have HLX:Hid (x.gs.length=y.gs.length):=hlen
           have hb1:((x.gs.length:Int) == (y.gs.length:Int))=true:=by rw [hlen]; simp
           have hb2:((x.gs.length:Int) != (y.gs.length:Int))=false:=by rw [hlen]; simp
           clear hlen
           go_wp2_with fail
           go_quiet (fail)
           go_wp2_with fail
           clear hb1 hb2 x0 y0 c5 d5
           have HBV:=HD.out nq
           clear HD
           have HBV':Hid (Below W1§ W1 (wr.drewN nq)):=HBV
           clear HBV
           generalize wr.drewN nq=V at HBV' ⊢
           go_loopw [9] (fun q wr=>∃ (j:Nat),j≤x.gs.length∧q=zI j∧Hid (Below W1§ W1 wr)∧Hid (∀ k,k < j→∀ (h3:k < x.gs.length) (h4:k < y.gs.length),JO x.gs[k] y.gs[k])) (fun q _=>x.gs.length - (intOf q).toNat)
           case atStart=>exact⟨0,by omega,rfl,HBV',fun k h=>absurd h (Nat.not_lt_zero _)⟩
           case round =>
            clear HBV'
            obtain⟨j,hj,rfl,HBW,HJR⟩:=hrel
            have c5:=Qf HC5.out HBW.out
            have x0:=Qf HX0.out HBW.out
            by_cases hjl:j < x.gs.length
            ·have hjl':(j:Int) < (x.gs.length:Int):=by omega
             have hjh:j < y.gs.length:=by have:=HLX.out; omega
             have hjh':(j:Int) < (y.gs.length:Int):=by omega
             have hmy:(j:Int)+1≤9223372036854775807:=by have h1:=HGX.out.1.1; have h2:=HGX.out.1.2.1; rw [List.length_map] at h1; omega
             obtain⟨b3,o3,ea,r3⟩:=QP GdM.sz HGX.out.1 j hjl
             obtain⟨b4,o4,eb,r4⟩:=QP GdM.sz HGY.out.1 j hjh
             have HJS:Hid (JO x.gs[j] y.gs[j]→∀ k,k < j+1→∀ (h3:k < x.gs.length) (h4:k < y.gs.length),JO x.gs[k] y.gs[k]):=fun e k hk h3 h4=>by
              by_cases hk':k < j
              ·exact HJR.out k hk' h3 h4
              ·obtain rfl:k=j:=by omega
               exact e
             have HJF:Hid (¬ JO x.gs[j] y.gs[j]→¬ JU t u):=fun e=>HF.out fun k=>e (k.2 j hjl hjh)
             have hg:=(HGX.out.2 _ (List.getElem_mem hjl)).on HBW.out
             have hh:=(HGY.out.2 _ (List.getElem_mem hjh)).on HBW.out
             obtain⟨g,eg⟩:∃ g,x.gs[j]=g:=⟨_,rfl⟩
             obtain⟨h,eh⟩:∃ h,y.gs[j]=h:=⟨_,rfl⟩
             rw [eg] at r3 HJS HJF hg
             rw [eh] at r4 HJS HJF hh
             clear eg eh HJR
             have HXA:Hid (W1.cell? ⟨b1,o1+i,none⟩=some (.slice (some ⟨b3,o3,none⟩) x.gs.length x.c)):=by rw [← ea]; exact HX0
             have HYA:Hid (W1.cell? ⟨b2,o2+i,none⟩=some (.slice (some ⟨b4,o4,none⟩) y.gs.length y.c)):=by rw [← eb]; exact HY0
             clear ea eb
             have HFA:Hid (∀ v:World,Below wr§ wr v→v.cell? ⟨w§,5,none⟩=some (.slice (some ⟨b1,o1,none⟩) t.ts.length t.tc)∧v.cell? ⟨w§+1,5,none⟩=some (.slice (some ⟨b2,o2,none⟩) u.ts.length u.tc)∧v.cell? ⟨b1,o1+i,none⟩=some (.slice (some ⟨b3,o3,none⟩) x.gs.length x.c)∧v.cell? ⟨b2,o2+i,none⟩=some (.slice (some ⟨b4,o4,none⟩) y.gs.length y.c)∧v.cell? ⟨b3,o3+j * 5,none⟩=some (zI g.wh.f)∧v.cell? ⟨b3,o3+j * 5+1,none⟩=some (zI g.wh.t)∧v.cell? ⟨b3,o3+j * 5+2,none⟩=some (.int .u16 g.fd)∧v.cell? ⟨b3,o3+j * 5+3,none⟩=some (.int .u16 g.rg)∧v.cell? ⟨b3,o3+j * 5+4,none⟩=some (.slice g.a g.rs.length g.c)∧v.cell? ⟨b4,o4+j * 5,none⟩=some (zI h.wh.f)∧v.cell? ⟨b4,o4+j * 5+1,none⟩=some (zI h.wh.t)∧v.cell? ⟨b4,o4+j * 5+2,none⟩=some (.int .u16 h.fd)∧v.cell? ⟨b4,o4+j * 5+3,none⟩=some (.int .u16 h.rg)∧v.cell? ⟨b4,o4+j * 5+4,none⟩=some (.slice h.a h.rs.length h.c)):=fun v hv=>by
              have hB:=Qa HBW.out hv
              exact⟨Qf HC5.out hB,Qf HD5.out hB,Qf HXA.out hB,Qf HYA.out hB,Qf (r3 0 _ rfl) hB,Qf (r3 1 _ rfl) hB,Qf (r3 2 _ rfl) hB,Qf (r3 3 _ rfl) hB,Qf (r3 4 _ rfl) hB,Qf (r4 0 _ rfl) hB,Qf (r4 1 _ rfl) hB,Qf (r4 2 _ rfl) hB,Qf (r4 3 _ rfl) hB,Qf (r4 4 _ rfl) hB⟩
             clear r3 r4 HXA HYA
             have cS:=sameGuard_any g h wr.drew (hg.on ⟨rfl,rfl,rfl,Nat.le_refl _,fun _ _=>rfl⟩) (hh.on ⟨rfl,rfl,rfl,Nat.le_refl _,fun _ _=>rfl⟩)
             unfold GdM.vals at cS
             clear hg hh
             go_wp2_with fail
             clear c5 x0
             refine wp_region_held_drew (S:=fun v=>Below wr§ wr v) zK ⟨rfl,rfl,rfl,Nat.le_refl _,fun _ _=>rfl⟩ (fun hHeld=>?_)
             refine wpAnyH_take (i:=0) (v:=?_) rfl zK zK zK (fun _ _ _ h=>h) (Or.inl ⟨by rfl,?_⟩) (by assumption) ?_
             rotate_left
             ·(intro v hv; go_simp; try (with_reducible rfl))
             try simp [Act.put]
             refine wpAnyH_take (i:=1) (v:=?_) rfl zK zK zK (fun _ _ _ h=>h) (Or.inl ⟨by rfl,?_⟩) (by assumption) ?_
             rotate_left
             ·(intro v hv; obtain⟨a0,a1,a2,a3,g0,g1,g2,g3,g4,e0,e1,e2,e3,e4⟩:=HFA.out v hv; go_simp; try (with_reducible rfl))
             try simp [Act.put]
             refine wpAnyH_take (i:=2) (v:=?_) rfl zK zK zK (fun _ _ _ h=>h) (Or.inl ⟨by rfl,?_⟩) (by assumption) ?_
             rotate_left
             ·(intro v hv; go_simp; try (with_reducible rfl))
             try simp [Act.put]
             refine wpAnyH_take (i:=3) (v:=?_) rfl zK zK zK (fun _ _ _ h=>h) (Or.inl ⟨by rfl,?_⟩) (by assumption) ?_
             rotate_left
             ·(intro v hv; go_simp; try (with_reducible rfl))
             try simp [Act.put]
             refine wpAnyH_take (i:=4) (v:=?_) rfl zK zK zK (fun _ _ _ h=>h) (Or.inl ⟨by rfl,?_⟩) (by assumption) ?_
             rotate_left
             ·(intro v hv; obtain⟨a0,a1,a2,a3,g0,g1,g2,g3,g4,e0,e1,e2,e3,e4⟩:=HFA.out v hv; go_simp; try (with_reducible rfl))
             try simp [Act.put]
             refine wpAnyH_take (i:=5) (v:=?_) rfl zK zK zK (fun _ _ _ h=>h) (Or.inl ⟨by rfl,?_⟩) (by assumption) ?_
             rotate_left
             ·(intro v hv; go_simp; try (with_reducible rfl))
             try simp [Act.put]
             refine wpAnyH_take (i:=6) (v:=?_) rfl zK zK zK (fun _ _ _ h=>h) (Or.inl ⟨by rfl,?_⟩) (by assumption) ?_
             rotate_left
             ·(intro v hv; go_simp; try (with_reducible rfl))
             try simp [Act.put]
             refine wpAnyH_take (i:=7) (v:=?_) rfl zK zK zK (fun _ _ _ h=>h) (Or.inl ⟨by rfl,?_⟩) (by assumption) ?_
             rotate_left
             ·(intro v hv; obtain⟨a0,a1,a2,a3,g0,g1,g2,g3,g4,e0,e1,e2,e3,e4⟩:=HFA.out v hv; go_simp; try (with_reducible rfl))
             try simp [Act.put]
             refine wpAnyH_take (i:=8) (v:=?_) rfl zK zK zK (fun _ _ _ h=>h) (Or.inl ⟨by rfl,?_⟩) (by assumption) ?_
             rotate_left
             ·(intro v hv; go_simp; try (with_reducible rfl))
             try simp [Act.put]
             refine wpAnyH_take (i:=9) (v:=?_) rfl zK zK zK (fun _ _ _ h=>h) (Or.inl ⟨by rfl,?_⟩) (by assumption) ?_
             rotate_left
             ·(intro v hv; obtain⟨a0,a1,a2,a3,g0,g1,g2,g3,g4,e0,e1,e2,e3,e4⟩:=HFA.out v hv; go_simp; try (with_reducible rfl))
             try simp [Act.put]
             refine wpAnyH_take (i:=10) (v:=?_) rfl zK zK zK (fun _ _ _ h=>h) (Or.inl ⟨by rfl,?_⟩) (by assumption) ?_
             rotate_left
             ·(intro v hv; go_simp; try (with_reducible rfl))
             try simp [Act.put]
             refine wpAnyH_take (i:=11) (v:=?_) rfl zK zK zK (fun _ _ _ h=>h) (Or.inl ⟨by rfl,?_⟩) (by assumption) ?_
             rotate_left
             ·(intro v hv; go_simp; try (with_reducible rfl))
             try simp [Act.put]
             refine wpAnyH_take (i:=12) (v:=?_) rfl zK zK zK (fun _ _ _ h=>h) (Or.inl ⟨by rfl,?_⟩) (by assumption) ?_
             rotate_left
             ·(intro v hv; obtain⟨a0,a1,a2,a3,g0,g1,g2,g3,g4,e0,e1,e2,e3,e4⟩:=HFA.out v hv; go_simp; try (with_reducible rfl))
             try simp [Act.put]
             refine wpAnyH_take (i:=13) (v:=?_) rfl zK zK zK (fun _ _ _ h=>h) (Or.inl ⟨by rfl,?_⟩) (by assumption) ?_
             rotate_left
             ·(intro v hv; go_simp; try (with_reducible rfl))
             try simp [Act.put]
             refine wpAnyH_take (i:=14) (v:=?_) rfl zK zK zK (fun _ _ _ h=>h) (Or.inl ⟨by rfl,?_⟩) (by assumption) ?_
             rotate_left
             ·(intro v hv; go_simp; try (with_reducible rfl))
             try simp [Act.put]
             refine wpAnyH_take (i:=15) (v:=?_) rfl zK zK zK (fun _ _ _ h=>h) (Or.inl ⟨by rfl,?_⟩) (by assumption) ?_
             rotate_left
             ·(intro v hv; obtain⟨a0,a1,a2,a3,g0,g1,g2,g3,g4,e0,e1,e2,e3,e4⟩:=HFA.out v hv; go_simp; try (with_reducible rfl))
             try simp [Act.put]
             refine wpAnyH_ready (rs:=[16]) zK (by simp) ?_
             refine AllReadyH.cons rfl (fun K hK=>?_) AllReadyH.nil
             go_simp
             refine cS.mono ?_
             rintro e w5 ⟨b,rfl,hb,hb5⟩
             have hB5:Below wr§ wr w5:=⟨hb5.os,hb5.tape,hb5.output,hb5.size,hb5.block⟩
             have HB5:Hid (Below W1§ W1 w5):=Qa HBW.out hB5
             have HBB:Hid (b=true ↔ JO g h):=hb
             refine hK.out _ _ hB5 (fun hHeld=>?_)
             clear hK K cS hb5 hb hB5
             try simp [Act.put]
             refine wpAnyH_take (i:=17) (v:=?_) rfl zK zK zK (fun _ _ _ h=>h) (Or.inl ⟨by rfl,?_⟩) (by assumption) ?_
             rotate_left
             ·(intro v hv; go_simp; try (with_reducible rfl))
             try simp [Act.put]
             refine wpAnyH_done zK ?_ _
             cases b with
             | true =>
              go_wp2_with fail
              exact⟨⟨j+1,hjl,rfl,HB5,HJS.out (HBB.out.1 rfl)⟩,by simp only [intOf]; omega⟩
             | false =>
              go_wp2_with fail
              go_ret
              exact⟨false,rfl,⟨fun e=>(by cases e),fun k=>absurd k (HJF.out fun k=>by have:=HBB.out.2 k; cases this)⟩,Qa HB.out HB5.out⟩
            ·obtain rfl:j=x.gs.length:=by omega
             have hnot:¬ (x.gs.length:Int) < (x.gs.length:Int):=by omega
             go_wp2_with fail
             exact⟨⟨i+1,hlt,rfl,HBW,HS.out ⟨HLX.out,fun k h3 h4=>HJR.out k h3 h3 h4⟩⟩,by simp only [intOf]; omega⟩
          ·have hb1:((x.gs.length:Int) == (y.gs.length:Int))=false:=by simp; omega
           have hb2:((x.gs.length:Int) != (y.gs.length:Int))=true:=by simp; omega
           go_wp2_with fail
           go_quiet (fail)
           go_wp2_with fail
           go_ret
           exact⟨false,rfl,⟨fun e=>(by cases e),fun k=>absurd k (HF.out (fun k=>hlen k.1))⟩,Qa HB.out (HD.out _)⟩
         ·obtain rfl:i=t.ts.length:=by omega
          have hnot:¬ (t.ts.length:Int) < (t.ts.length:Int):=by omega
          go_wp2_with fail
          go_ret
          exact⟨true,rfl,⟨fun _=>⟨HX.out,HSL.out,HE0.out,HE1.out,HE2.out,HL3.out,HTR.out⟩,fun _=>rfl⟩,Qa HB.out HBR4.out⟩
 all_goals
  rename_i hx
  go_ret
  exact⟨false,rfl,⟨fun e=>(by cases e),fun k=>by first | exact absurd k.2.1 hx | exact absurd (by rw [k.1]) hx | exact absurd (by rw [k.2.2.1]) hx | exact absurd (by rw [k.2.2.2.1]) hx | exact absurd (by rw [k.2.2.2.2.1]) hx⟩,HB.out⟩
end Go.Proofs.YteedmmljahgpjaaGreatDoor
