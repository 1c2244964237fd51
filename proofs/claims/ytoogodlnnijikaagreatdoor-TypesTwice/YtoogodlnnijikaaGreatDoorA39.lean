import Derived.Test.YtoogodlnnijikaaGreatDoorA0
import Derived.Test.YtoogodlnnijikaaGreatDoorA2
import Derived.Test.YtoogodlnnijikaaGreatDoorA38
import Derived.Deep.AppendLies
import Derived.Deep.CutRange
import Derived.Deep.DeepCutAuto
import Derived.Deep.RegionLaw
import Derived.Test.YtoogodlnnijikaaGreatDoorA24
import Derived.Test.YtoogodlnnijikaaGreatDoorA37
namespace Go.Proofs.YtoogodlnnijikaaGreatDoor
set_option maxHeartbeats 8000000
set_option maxRecDepth 100000
open Go.RowKit
set_option linter.unusedVariables false
structure RN (W w:yW) (v:Value) (L:List Nd):Prop where
 row:RowN w v L
 nb:∀ k,v.ownBlock=some k→W§≤k
 B:yD W w
theorem RN.nil (W:yW):RN W W (.slice none 0 0) []:=⟨Row.nil _ _ _ _,fun k h=>by simp [Value.ownBlock] at h,Below.refl _ _⟩
theorem RN.call {W w w':yW}{v:Value}{L:List Nd}(h:RN W w v L) (k:yD w w'):RN W w' v L :=
 ⟨h.row.of_block (fun b hb=>k.block b (h.row.lt b hb)),h.nb,h.B.trans (k.mono h.B.size)⟩
theorem RN.alloc {W w:yW}{v:Value}{L:List Nd}(h:RN W w v L) (o:Obj):RN W (w.alloc o) v L:=h.call (below_new w o)
theorem RN.hid {W w:yW}{v:Value}{L:List Nd}(h:RN W w v L):Hid (RN W w v L):=h
theorem appn_core {W w0 w':yW}{v:Value}{L:List Nd}{y:Nd}{g cap:Nat}(hR:RN W w0 v L)
  (h2:w'.ownsRow 0 48 8 (.slice (some g¢0) (L.length+1) cap) (L.length+1) ((List.range (L.length * 8)).map (ndF (ldF L)) ++ (y.vals).toList))
  (h3:(w0.alloc (.cells (y.vals) 48)).grownBy w' v.ownBlock) (h4:v.ownBlock=some g∨g=(w0.alloc (.cells (y.vals) 48))§) :
  RN W w' (.slice (some g¢0) (L.length+1) cap) (L ++ [y])∧w0§≤w'§∧∀ b,b < w0§→v.ownBlock≠some b→w'.heap[b]? = w0.heap[b]?:=by
 have hsz:=size_alloc w0 (.cells (y.vals) 48)
 have hB0:=hR.B.alloc hR.B.size (.cells (y.vals) 48)
 refine⟨⟨?_,?_,hB0.grown h3 hB0.size (fun k hk=>hR.nb k hk)⟩,?_,?_⟩
 ·have hr:=Row.snoc (x:=ndF (fun _=>y)) h2 rfl (fun j hj=>nd_cells y j hj)
  unfold RowN
  rw [List.length_append,List.length_singleton]
  refine hr.congr fun j hj=>?_
  by_cases h:j < L.length * 8
  ·simp only [h,if_true]
   unfold ndF
   rw [ldF_lt (by omega)]
  ·have e:j / 8=L.length:=by omega
   simp only [h,if_false]
   unfold ndF
   rw [e,ldF_at,show (j - L.length * 8) % 8=j % 8 by omega]
 ·intro k hk
  simp [Value.ownBlock] at hk
  subst hk
  rcases h4 with h4 | h4
  ·exact hR.nb _ h4
  ·have:=hR.B.size; omega
 ·have:=h3.size; omega
 ·intro b hb hne
  rw [h3.block b (by omega) (fun e=>hne e.symm)]
  exact Below.heap_alloc _ _ _ hb
theorem append_node {W w0:yW}{ops:Array Oper}{rest:List Oper}{o:Oper}{a:Act}{Q:Exit→Act→yW→Prop}(hgd:o.guard=none) (d x:Operand)
  (ho:o.op=.call { callee:=.builtin .append,args:=#[d,x],argTypes:=#[46,46] }) (y:Nd) {v:Value}{L:List Nd}(hR:RN W w0 v L) (hs:a.eval d=v) (hx:a.eval x=.slice (some w0§¢0) 1 1) (hlen:L.length≤1000000000)
  (h:∀ v' w',RN W w' v' (L ++ [y])→w0§≤w'§→(∀ b,b < w0§→v.ownBlock≠some b→w'.heap[b]? = w0.heap[b]?)→(v'.ownBlock=v.ownBlock∨∃ g,v'.ownBlock=some g∧w0§ < g)→wpList Tryz.prog ops Q rest (a.put o.dst v') w') :
  wpList Tryz.prog ops Q (o :: rest) a (w0.alloc (.cells (y.vals) 48)):=by
 obtain⟨i0,hi,hz0,hz1,hz2⟩:=info_parts Tryz.info48
 refine wpList_append_lies _ hgd d x 46 ho 0 48 i0 _ 8 72 Tryz.underlying46 hi hz0 hz1 hz2 rfl (by decide) v L.length _ hs (hR.row.alloc _) w0§¢0 1 1 (y.vals).toList hx rfl (newsn_core w0 y) (onen_core y) (by decide) (by unfold maxLen; omega) (by omega) (Nat.zero_le _) _ rfl ?_
 intro g cap w' h2 h3 h4 h5
 obtain⟨q1,q2,q3⟩:=appn_core hR h2 h3 h4
 refine h _ w' q1 q2 q3 ?_
 rcases h4 with h4 | h4
 ·exact .inl h4.symm
 ·exact .inr ⟨g,rfl,by rw [h4,size_alloc]; omega⟩
inductive Bk (P:Nat→Prop):Nd→Prop
 | mk (h:Hd) (a:Option Addr) (c:Nat) (ks:List Nd) (hb:∀ x,a=some x→P x.block) (hs:∀ k ∈ ks,Bk P k):Bk P (.mk h a c ks)
theorem Bk.mono {P Q:Nat→Prop}(h:∀ b,P b→Q b):∀ {m:Nd},Bk P m→Bk Q m:=by
 intro m hm
 induction hm with
 | mk g a c ks hb _ ih=>exact .mk g a c ks (fun x e=>h _ (hb x e)) ih
theorem Lies.bk {P:Nat→Prop}{w w':yW}(k:∀ b,b < w§→P b→w'.heap[b]? = w.heap[b]?):∀ {m:Nd},Lies w m→Bk P m→Lies w' m:=by
 intro m hl
 induction hl with
 | mk h a c ks hr hc hm hk _ ih =>
  intro hB
  cases hB with
  | mk _ _ _ _ hb hs =>
   refine .mk h a c ks hr hc hm (fun i hi=>?_) (fun x hx=>ih x hx (hs x hx))
   obtain⟨b,o,e,hat⟩:=hk i hi
   exact⟨b,o,e,hat.blk (k b hat.lt (hb _ e))⟩
theorem put8C {w:yW}{b:Nat}{a0 a1 a2 a3 a4 a5 a6 a7:Value}(h:w.heap[b]? = (zC #[a0,a1,a2,a3,a4,a5,a6,a7] 48)) (v0 v1 v2 v3 v4 v5 v6 v7:Value) :
  ((((((((w.setCell b¢0 v0).setCell b¢1 v1).setCell b¢2 v2).setCell b¢3 v3).setCell b¢4 v4).setCell b¢5 v5).setCell b¢6 v6).setCell b¢7 v7).heap[b]? = (zC #[v0,v1,v2,v3,v4,v5,v6,v7] 48):=by
 have h1:(w.setCell b¢0 v0).heap[b]? = (zC #[v0,a1,a2,a3,a4,a5,a6,a7] 48):=heap_set v0 h
 have h2:((w.setCell b¢0 v0).setCell b¢1 v1).heap[b]? = (zC #[v0,v1,a2,a3,a4,a5,a6,a7] 48):=heap_set v1 h1
 have h3:(((w.setCell b¢0 v0).setCell b¢1 v1).setCell b¢2 v2).heap[b]? = (zC #[v0,v1,v2,a3,a4,a5,a6,a7] 48):=heap_set v2 h2
 have h4:((((w.setCell b¢0 v0).setCell b¢1 v1).setCell b¢2 v2).setCell b¢3 v3).heap[b]? = (zC #[v0,v1,v2,v3,a4,a5,a6,a7] 48):=heap_set v3 h3
 have h5:(((((w.setCell b¢0 v0).setCell b¢1 v1).setCell b¢2 v2).setCell b¢3 v3).setCell b¢4 v4).heap[b]? = (zC #[v0,v1,v2,v3,v4,a5,a6,a7] 48):=heap_set v4 h4
 have h6:((((((w.setCell b¢0 v0).setCell b¢1 v1).setCell b¢2 v2).setCell b¢3 v3).setCell b¢4 v4).setCell b¢5 v5).heap[b]? = (zC #[v0,v1,v2,v3,v4,v5,a6,a7] 48):=heap_set v5 h5
 have h7:(((((((w.setCell b¢0 v0).setCell b¢1 v1).setCell b¢2 v2).setCell b¢3 v3).setCell b¢4 v4).setCell b¢5 v5).setCell b¢6 v6).heap[b]? = (zC #[v0,v1,v2,v3,v4,v5,v6,a7] 48):=heap_set v6 h6
 have h8:((((((((w.setCell b¢0 v0).setCell b¢1 v1).setCell b¢2 v2).setCell b¢3 v3).setCell b¢4 v4).setCell b¢5 v5).setCell b¢6 v6).setCell b¢7 v7).heap[b]? = (zC #[v0,v1,v2,v3,v4,v5,v6,v7] 48):=heap_set v7 h7
 exact h8
theorem belowput8 {B:Nat}{w v:yW}{b:Nat}(h:Below B w v) (hb:B≤b) (v0 v1 v2 v3 v4 v5 v6 v7:Value):Below B w ((((((((v.setCell b¢0 v0).setCell b¢1 v1).setCell b¢2 v2).setCell b¢3 v3).setCell b¢4 v4).setCell b¢5 v5).setCell b¢6 v6).setCell b¢7 v7):=(((((((h.setCell (p:=b¢0) hb v0).setCell (p:=b¢1) hb v1).setCell (p:=b¢2) hb v2).setCell (p:=b¢3) hb v3).setCell (p:=b¢4) hb v4).setCell (p:=b¢5) hb v5).setCell (p:=b¢6) hb v6).setCell (p:=b¢7) hb v7
theorem fin8C {U:yW}{b:Nat}{a0 a1 a2 a3 a4 a5 a6 a7:Value}(h:U.heap[b]? = (zC #[a0,a1,a2,a3,a4,a5,a6,a7] 48)) (v0 v1 v2 v3 v4 v5 v6 v7:Value) :
  ∃ Y,((((((((U.setCell b¢0 v0).setCell b¢1 v1).setCell b¢2 v2).setCell b¢3 v3).setCell b¢4 v4).setCell b¢5 v5).setCell b¢6 v6).setCell b¢7 v7)=Y∧Y.heap[b]? = (zC #[v0,v1,v2,v3,v4,v5,v6,v7] 48)∧Y§=U§∧(∀ k,k≠b→Y.heap[k]? = U.heap[k]?)∧(∀ (B:Nat) (w:yW),Below B w U→B≤b→Below B w Y):=by
 refine⟨_,rfl,put8C h _ _ _ _ _ _ _ _,?_,fun k hk=>?_,fun B w hB hb=>belowput8 hB hb _ _ _ _ _ _ _ _⟩
 ·simp [World.setCell]
 ·refine (Below.heap_setCell _ _ _ _ (show k≠b from hk)).trans ?_; refine (Below.heap_setCell _ _ _ _ (show k≠b from hk)).trans ?_; refine (Below.heap_setCell _ _ _ _ (show k≠b from hk)).trans ?_; refine (Below.heap_setCell _ _ _ _ (show k≠b from hk)).trans ?_; refine (Below.heap_setCell _ _ _ _ (show k≠b from hk)).trans ?_; refine (Below.heap_setCell _ _ _ _ (show k≠b from hk)).trans ?_; refine (Below.heap_setCell _ _ _ _ (show k≠b from hk)).trans ?_; exact Below.heap_setCell _ _ _ _ (show k≠b from hk)
theorem size_kid {h:Hd}{a:Option Addr}{c:Nat}{ks:List Nd}{k:Nd}(hk:k ∈ ks):size k≤size (.mk h a c ks):=by
 have:=size_mem hk
 simp only [size]; omega
inductive Twin:Nd→Nd→Prop
 | mk (h:Hd) (a a':Option Addr) (c c':Nat) (ks ks':List Nd) (hl:ks'.length=ks.length) (hk:∀ i (h1:i < ks.length) (h2:i < ks'.length),Twin ks[i] ks'[i]):Twin (.mk h a c ks) (.mk h a' c' ks')
inductive SpN:Nd→(Nat→Prop)→Prop
 | mk (h:Hd) (a:Option Addr) (c:Nat) (ks:List Nd) (P:Nat→Prop) (Q:Nat→Nat→Prop) (ha:∀ x,a=some x→P x.block∧x.off=0∧x.spot=none∧∀ i,¬ Q i x.block)
   (hs:∀ i (hi:i < ks.length),SpN ks[i] (Q i)) (hd:∀ i j b,Q i b→Q j b→i=j) (hQ:∀ i b,Q i b→P b):SpN (.mk h a c ks) P
theorem SpN.mono {P P':Nat→Prop}(hP:∀ b,P b→P' b):∀ {m:Nd},SpN m P→SpN m P':=by
 intro m h
 cases h with
 | mk h a c ks P Q ha hs hd hQ=>exact .mk h a c ks P' Q (fun x e=>⟨hP _ (ha x e).1,(ha x e).2⟩) hs hd (fun i b hq=>hP b (hQ i b hq))
theorem SpN.bk {m:Nd}:∀ {P:Nat→Prop},SpN m P→Bk P m:=by
 refine Nd.ind (P:=fun m=>∀ {P:Nat→Prop},SpN m P→Bk P m) (fun h a c ks ih P hS=>?_) m
 cases hS with
 | mk _ _ _ _ _ Q ha hs hd hQ =>
  refine .mk h a c ks (fun x e=>(ha x e).1) (fun k hk=>?_)
  obtain⟨i,hi,rfl⟩:=List.getElem_of_mem hk
  exact (ih _ hk (hs i hi)).mono fun b hb=>hQ i b hb
inductive OwnT (w:yW):Nd→Prop
 | mk (h:Hd) (a:Option Addr) (c:Nat) (ks:List Nd) (hr:RowN w (.slice a ks.length c) ks) (hs:∀ k ∈ ks,OwnT w k):OwnT w (.mk h a c ks)
theorem OwnT.bk {P:Nat→Prop}{w w':yW}(k:∀ b,b < w§→P b→w'.heap[b]? = w.heap[b]?):∀ {m:Nd},OwnT w m→Bk P m→OwnT w' m:=by
 intro m hl
 induction hl with
 | mk h a c ks hr _ ih =>
  intro hB
  cases hB with
  | mk _ _ _ _ hb hs =>
   refine .mk h a c ks (Row.of_block hr fun g hg=>k g (Row.lt hr g hg) ?_) (fun x hx=>ih x hx (hs x hx))
   cases a with
   | none=>simp [Value.ownBlock] at hg
   | some x=>simp [Value.ownBlock] at hg; rw [← hg]; exact hb x rfl
theorem OwnT.on {w w':yW}{m:Nd}(h:OwnT w m) (k:yD w w'):OwnT w' m:=by
 induction h with
 | mk h a c ks hr _ ih=>exact .mk h a c ks (Row.of_block hr fun g hg=>k.block g (Row.lt hr g hg)) ih
def Copied (m:Nd) (w:yW) (e:Ending) (w':yW):Prop:=∃ m',e=.returned (.agg m'.vals)∧Lies w' m'∧Twin m m'∧SpN m' (fun b=>w§≤b∧b < w'§)∧OwnT w' m'∧yD w w'
structure Cpd (W wr:yW) (v:Value) (ks L:List Nd) (i:Nat) (Q:Nat→Nat→Prop):Prop where
 l:L.length=i
 r:RN W wr v L
 b:∀ j (h1:j < ks.length) (h2:j < L.length),Twin ks[j] L[j]
 y:∀ j (h:j < L.length),Lies wr L[j]∧SpN L[j] (Q j)∧OwnT wr L[j]
 q:∀ j b,Q j b→W§≤b∧b < wr§∧v.ownBlock≠some b
 d:∀ i j b,Q i b→Q j b→i=j
 z:∀ j b,L.length≤j→¬ Q j b
theorem Cpd.hid {W wr:yW}{v:Value}{ks L:List Nd}{i:Nat}{Q:Nat→Nat→Prop}(h:Cpd W wr v ks L i Q):Hid (Cpd W wr v ks L i Q):=h
theorem Cpd.snoc {W wr w1 w2:yW}{v v':Value}{ks L:List Nd}{i:Nat}{k':Nd}{Q:Nat→Nat→Prop}(h:Cpd W wr v ks L i Q) (hi:i < ks.length) (hb1:yD wr w1) (hk1:Lies w1 k') (hk2:Twin ks[i] k') (hk3:SpN k' (fun b=>wr§≤b∧b < w1§)) (hk4:OwnT w1 k')
  (hr:RN W w2 v' (L ++ [k'])) (hs:w1§≤w2§) (hk:∀ b,b < w1§→v.ownBlock≠some b→w2.heap[b]? = w1.heap[b]?) (hq:v'.ownBlock=v.ownBlock∨∃ g,v'.ownBlock=some g∧w1§ < g) :
  Cpd W w2 v' ks (L ++ [k']) (i+1) (fun j b=>Q j b∨(j=i∧wr§≤b∧b < w1§)):=by
 have hW:=h.r.B.size
 have hS1:=hb1.size
 have hne:∀ b,b < w1§→v.ownBlock≠some b→v'.ownBlock≠some b:=fun b hb hn e=>by
  rcases hq with e1 | ⟨g,e1,hg⟩
  ·exact hn (e1.symm.trans e)
  ·rw [e1] at e; cases e; omega
 have hv:∀ b,wr§≤b→v.ownBlock≠some b:=fun b hb e=>by have:=h.r.row.lt b e; omega
 have hli:=h.l
 refine⟨by rw [List.length_append,h.l]; rfl,hr,fun j h1 h2=>?_,fun j hj=>?_,fun j b hb=>?_,fun a c b h1 h2=>?_,fun j b hj hb=>?_⟩
 ·by_cases hj:j < L.length
  ·rw [List.getElem_append_left hj]; exact h.b j h1 hj
  ·have e:j=L.length:=by rw [List.length_append] at h2; simp at h2; omega
   subst e
   rw [List.getElem_append_right (by omega)]
   simp only [Nat.sub_self,List.getElem_singleton]
   have e3:ks[L.length]=ks[i]:=by congr 1
   rw [e3]; exact hk2
 ·by_cases hj':j < L.length
  ·rw [List.getElem_append_left hj']
   obtain⟨y1,y2,y4⟩:=h.y j hj'
   have y3:Lies w1 L[j]:=y1.on hb1
   refine⟨y3.bk (fun b hb hp=>hk b hb (h.q j b hp).2.2) y2.bk,y2.mono fun b hp=>.inl hp,(y4.on hb1).bk (fun b hb hp=>hk b hb (h.q j b hp).2.2) y2.bk⟩
  ·have e:j=L.length:=by rw [List.length_append] at hj; simp at hj; omega
   subst e
   rw [List.getElem_append_right (by omega)]
   simp only [Nat.sub_self,List.getElem_singleton]
   exact⟨hk1.bk (fun b hb hp=>hk b hb (hv b hp.1)) hk3.bk,hk3.mono fun b hp=>.inr ⟨hli,hp⟩,hk4.bk (fun b hb hp=>hk b hb (hv b hp.1)) hk3.bk⟩
 ·rcases hb with hb | ⟨_,hb⟩
  ·obtain⟨q1,q2,q3⟩:=h.q j b hb
   exact⟨q1,by omega,hne b (by omega) q3⟩
  ·exact⟨by omega,by omega,hne b hb.2 (hv b hb.1)⟩
 ·rcases h1 with h1 | ⟨e1,h1⟩ <;> rcases h2 with h2 | ⟨e2,h2⟩
  ·exact h.d a c b h1 h2
  ·have:=(h.q a b h1).2.1; omega
  ·have:=(h.q c b h2).2.1; omega
  ·omega
 ·rw [List.length_append] at hj
  simp at hj
  rcases hb with hb | ⟨e,_⟩
  ·exact h.z j b (by omega) hb
  ·omega
theorem Cpd.nd {W wr:yW}{v:Value}{ks L:List Nd}{g:Hd}{a:Option Addr}{c:Nat}{Q:Nat→Nat→Prop}(h:Cpd W wr v ks L ks.length Q) (hr:Rg g):∃ a' c',v=.slice a' L.length c'∧Lies wr (.mk g a' c' L)∧Twin (.mk g a c ks) (.mk g a' c' L)∧SpN (.mk g a' c' L) (fun b=>W§≤b∧b < wr§)∧OwnT wr (.mk g a' c' L):=by
 have hown:∀ k ∈ L,OwnT wr k:=fun k hk=>by
  obtain⟨i,hi,rfl⟩:=List.getElem_of_mem hk
  exact (h.y i hi).2.2
 have hrow:=h.r.row
 have hlies:∀ k ∈ L,Lies wr k:=fun k hk=>by
  obtain⟨i,hi,rfl⟩:=List.getElem_of_mem hk
  exact (h.y i hi).1
 rcases h.r.row.lies with ⟨rfl,e⟩ | ⟨b,cap,rfl,hc1,hc2,hat⟩
 ·subst e
  exact⟨none,0,rfl,.mk _ _ _ _ hr (Nat.le_refl _) (by decide) (fun i hi=>by simp at hi) (fun k hk=>by cases hk),.mk _ _ _ _ _ _ _ h.l (fun i h1 h2=>by simp at h2),.mk _ _ _ _ _ Q (fun x e=>by cases e) (fun i hi=>by simp at hi) h.d (fun i b hb=>⟨(h.q i b hb).1,(h.q i b hb).2.1⟩),.mk _ _ _ _ hrow hown⟩
 ·refine⟨_,cap,rfl,.mk _ _ _ _ hr hc1 hc2 (fun i hi=>⟨b,0,rfl,by rw [← ldF_get hi]; exact hat i hi⟩) hlies,.mk _ _ _ _ _ _ _ h.l (fun i h1 h2=>h.b i h1 h2),.mk _ _ _ _ _ Q (fun x e=>?_) (fun i hi=>(h.y i hi).2.1) h.d (fun i b hb=>⟨(h.q i b hb).1,(h.q i b hb).2.1⟩),.mk _ _ _ _ hrow hown⟩
  cases e
  exact⟨⟨h.r.nb b rfl,h.r.row.lt b rfl⟩,rfl,rfl,fun i hq=>(h.q i b hq).2.2 rfl⟩
theorem copy_any:∀ (m:Nd) (w:yW),Lies w m→size m≤900000000→Calls zG 49 #[.agg m.vals] w (Copied m w):=by
 refine Nd.ind fun h a c ks ih w hl hz=>?_
 have hn:ks.length≤900000000:=by have:=len_sizes ks; simp only [size] at hz; omega
 obtain⟨W,eW⟩:∃ W,(w.alloc (.cells (Nd.mk h a c ks).vals 48)).alloc (.cells zNo 48)=W:=⟨_,rfl⟩
 have hbW:yD w W:=by rw [← eW]; exact below_two _ _ _
 have HI:Hid (∀ k ∈ ks,∀ (w:yW),Lies w k→Calls zG 49 #[.agg k.vals] w (Copied k w)):=fun k hk v hv=>ih k hk v hv (Nat.le_trans (size_kid hk) hz)
 have h0:NdH W w§ (.mk h a c ks):=by rw [← eW]; exact heap_old (heap_new _ _) (by rw [size_alloc]; omega)
 have h1:W.heap[w§+1]? = (zC zNo 48):=by
  rw [← eW,← size_alloc w (.cells (Nd.mk h a c ks).vals 48)]; exact heap_new _ _
 have HBW:Hid (yD w W):=hbW
 have HL:Hid (Lies W (.mk h a c ks)):=hl.on hbW
 have HRg:Hid (Rg h):=hl.rg
 have HWS:Hid (W§=w§+2):=by show _=_; rw [← eW,size_alloc,size_alloc]
 have H0:=h0.hid
 have H1:Hid (W.heap[w§+1]? = (zC zNo 48)):=h1
 have HN:Hid (ks.length≤900000000):=hn
 clear ih hl hz hn hbW h0 h1
 unfold Nd.vals hdA at eW
 show Calls zG 49 #[.agg (zX h a ks c)] w _
 simp only [Nd.h,Nd.a,Nd.c,Nd.ks] at eW
 go_enter Tryz.func49,Tryz.ntmps49
 go_wp2_with fail
 clear eW
 go_loopw [3,4] (fun v t wr=>∃ (i:Nat) (L:List Nd) (Q:Nat→Nat→Prop),i≤ks.length∧t=zI i∧Hid (Cpd W wr v ks L i Q)) (fun _ t _=>ks.length - (intOf t).toNat)
 case atStart=>exact⟨0,[],fun _ _=>False,by omega,rfl,rfl,RN.nil W,fun j h1 h2=>by simp at h2,fun j hj=>by simp at hj,fun j b hb=>hb.elim,fun i j b hb=>hb.elim,fun j b _ hb=>hb⟩
 case round =>
  obtain⟨i,L,Q,hi,rfl,HT⟩:=hrel
  have hN:NdH wr w§ (.mk h a c ks):=H0.out.on HT.out.r.B
  have q6:wr.cell? w§¢6=some (.slice a ks.length c):=cell_of hN 6
  have HNr:=hN.hid
  clear hN
  by_cases hlt:i < ks.length
  ·have hlt':(i:Int) < (ks.length:Int):=by omega
   obtain⟨b,o,e1,hat⟩:=(HL.out.on HT.out.r.B).kid i hlt
   have e2:a=some b¢o:=e1
   have hk1:NdAt wr b (o+i * 8) ks[i]:=hat
   have cI:=HI.out ks[i] (nth_mem hlt) wr ((HL.out.sub ks[i] (nth_mem hlt)).on HT.out.r.B)
   obtain⟨k,ek⟩:∃ k,ks[i]=k:=⟨_,rfl⟩
   rw [ek] at hk1 cI
   rw [e2] at q6
   obtain⟨y0,y1,y2,y3,y4,y5,y6,y7⟩:=hk1
   unfold Nd.vals hdA at cI
   have HEK:Hid (ks[i]=k):=ek
   clear ek e1 e2 hat
   go_wp2_with fail
   refine cI.mono ?_
   rintro e w1 ⟨k',rfl,hk1,hk2,hk3,hk4,hb1⟩
   have HB1:Hid (yD wr w1):=hb1
   have HR1:Hid (RN W w1 u3 L):=HT.out.r.call hb1
   have HLn:Hid (L.length≤1000000000):=by have h1:=HN.out; have h2:=HT.out.l; show _≤_; omega
   have HK1:Hid (Lies w1 k'):=hk1
   have HK2:Hid (Twin k k'):=hk2
   have HK3:Hid (SpN k' (fun b=>wr§≤b∧b < w1§)):=hk3
   have hmx:(i:Int)+1≤9223372036854775807:=by have:=HN.out; omega
   have HK4:Hid (OwnT w1 k'):=hk4
   clear hk1 hk2 hk3 hk4 hb1 cI y0 y1 y2 y3 y4 y5 y6 y7 q6
   unfold Nd.vals hdA
   go_wp2_with (at_builtin; refine append_node rfl (.tmp 12) (.tmp 19) rfl k' HR1.out rfl rfl HLn.out ?_; intro v1 w2 hr2 hs2 hq2 hz2; have HX:Hid (Cpd W w2 v1 ks (L ++ [k']) (i+1) (fun j b=>Q j b∨(j=i∧wr§≤b∧b < w1§))):=HT.out.snoc hlt HB1.out HK1.out (by rw [HEK.out]; exact HK2.out) HK3.out HK4.out hr2 hs2 hq2 hz2; clear hr2 hs2 hq2 hz2)
   exact⟨⟨i+1,L ++ [k'],_,hlt,rfl,HX⟩,by simp only [intOf]; omega⟩
  ·obtain rfl:i=ks.length:=by omega
   have hnot:¬ (ks.length:Int) < (ks.length:Int):=by omega
   have hb1:yD W wr:=HT.out.r.B
   obtain⟨a',c',rfl,hL1,hL2,hL3,hL4⟩:=HT.out.nd (g:=h) (a:=a) (c:=c) HRg.out
   have g0:NdH wr w§ (.mk h a c ks):=HNr.out
   have g1:=(hb1.block (w§+1) (zJ H1.out).1).trans H1.out
   obtain⟨U,eU⟩:∃ U,wr.setCell w§¢6 (.slice a' L.length c')=U:=⟨_,rfl⟩
   have u0:NdH U w§ (.mk h a' c' L):=by rw [← eU]; exact heap_set _ g0
   have u1:U.heap[w§+1]? = (zC zNo 48):=by
    rw [← eU]; exact (Below.heap_setCell _ _ _ _ (by simp)).trans g1
   have f6:wr.frozen? w§¢6=false:=frozen_of g0 6
   have HU1:Hid (U.heap[w§+1]? = (zC zNo 48)):=u1
   have q0x:U.cell? w§¢0=some (zU h.k):=cell_of u0 0
   have q1x:U.cell? w§¢1=some (zU h.o):=cell_of u0 1
   have q2x:U.cell? w§¢2=some (zU h.t):=cell_of u0 2
   have q3x:U.cell? w§¢3=some (zI h.n):=cell_of u0 3
   have q4x:U.cell? w§¢4=some (zU h.f):=cell_of u0 4
   have q5x:U.cell? w§¢5=some (.string h.x):=cell_of u0 5
   have q6x:U.cell? w§¢6=some (.slice a' L.length c'):=cell_of u0 6
   have q7x:U.cell? w§¢7=some (zI h.p):=cell_of u0 7
   have p0:U.cell? ⟨w§+1,0,none⟩=some (zU 0):=cell_of u1 0
   have r0:U.frozen? ⟨w§+1,0,none⟩=false:=frozen_of u1 0
   have p1:U.cell? ⟨w§+1,1,none⟩=some (zU 0):=cell_of u1 1
   have r1:U.frozen? ⟨w§+1,1,none⟩=false:=frozen_of u1 1
   have p2:U.cell? ⟨w§+1,2,none⟩=some (zU 0):=cell_of u1 2
   have r2:U.frozen? ⟨w§+1,2,none⟩=false:=frozen_of u1 2
   have p3:U.cell? ⟨w§+1,3,none⟩=some (zI 0):=cell_of u1 3
   have r3:U.frozen? ⟨w§+1,3,none⟩=false:=frozen_of u1 3
   have p4:U.cell? ⟨w§+1,4,none⟩=some (zU 0):=cell_of u1 4
   have r4:U.frozen? ⟨w§+1,4,none⟩=false:=frozen_of u1 4
   have p5:U.cell? ⟨w§+1,5,none⟩=some (yQ):=cell_of u1 5
   have r5:U.frozen? ⟨w§+1,5,none⟩=false:=frozen_of u1 5
   have p6:U.cell? ⟨w§+1,6,none⟩=some (.slice none 0 0):=cell_of u1 6
   have r6:U.frozen? ⟨w§+1,6,none⟩=false:=frozen_of u1 6
   have p7:U.cell? ⟨w§+1,7,none⟩=some (zI 0):=cell_of u1 7
   have r7:U.frozen? ⟨w§+1,7,none⟩=false:=frozen_of u1 7
   have HBU:Hid (yD w U):=by
    show Below _ _ _
    rw [← eU]; exact (below2 HBW.out hb1).setCell (p:=w§¢6) (Nat.le_refl _) _
   have hWs:W§=w§+2:=HWS.out
   have HLU:Hid (Lies U (.mk h a' c' L)):=by
    refine hL1.bk (P:=fun b=>W§≤b∧b < wr§) (fun b _ hp=>?_) hL3.bk
    rw [← eU]; exact Below.heap_setCell _ _ _ _ (by show b≠w§; omega)
   have HLO:Hid (OwnT U (.mk h a' c' L)):=by
    refine hL4.bk (P:=fun b=>W§≤b∧b < wr§) (fun b _ hp=>?_) hL3.bk
    rw [← eU]; exact Below.heap_setCell _ _ _ _ (by show b≠w§; omega)
   have HL2:Hid (Twin (.mk h a c ks) (.mk h a' c' L)):=hL2
   have HUs:Hid (U§=wr§):=by show _=_; rw [← eU]; simp [World.setCell]
   have HL3:Hid (SpN (.mk h a' c' L) (fun b=>W§≤b∧b < wr§)):=hL3
   have HEU:Hid (wr.setCell w§¢6 (.slice a' L.length c')=U):=eU
   clear hL1 hL2 hL3 hL4 hb1 g0 g1 u0 u1 eU
   obtain⟨Y,eY,hY1,hY2,hY3,hY4⟩:=fin8C HU1.out (zU h.k) (zU h.o) (zU h.t) (zI h.n) (zU h.f) (.string h.x) (.slice a' L.length c') (zI h.p)
   have HY:Hid (Lies Y (.mk h a' c' L)∧SpN (.mk h a' c' L) (fun b=>w§≤b∧b < Y§)∧OwnT Y (.mk h a' c' L)∧yD w Y):=by
    refine⟨HLU.out.bk (P:=fun b=>W§≤b∧b < wr§) (fun b _ hp=>hY3 b (by omega)) HL3.out.bk,HL3.out.mono fun b hp=>⟨by omega,by rw [hY2,HUs.out]; exact hp.2⟩,HLO.out.bk (P:=fun b=>W§≤b∧b < wr§) (fun b _ hp=>hY3 b (by omega)) HL3.out.bk,hY4 _ _ HBU.out (by omega)⟩
   have HY1:Hid (Y.heap[w§+1]? = (zC (Nd.mk h a' c' L).vals 48)):=hY1
   have HEY:Hid (_=Y):=eY
   clear eY hY1 hY2 hY3 hY4
   go_upto_region 7 with fail
   rw [HEU.out]
   clear f6 q6
   go_wp2_with fail
   rw [HEY.out]
   exact bodyPost_ret (results_cell_row rfl _ _ (w§+1) 48 (Nd.mk h a' c' L).vals (0,0) _ rfl HY1.out Tryz.underlying48 rfl zK) rfl ⟨.mk h a' c' L,rfl,HY.out.1,HL2.out,HY.out.2.1,HY.out.2.2.1,HY.out.2.2.2⟩
set_option linter.unusedSimpArgs false
theorem twin_trees:∀ (ks ks':List Nd),ks'.length=ks.length→(∀ i (h1:i < ks.length) (h2:i < ks'.length),treeOf ks'[i]=treeOf ks[i])→treesOf ks'=treesOf ks:=by
 intro ks
 induction ks with
 | nil=>intro ks' h _; cases ks' with | nil=>rfl | cons k l=>simp at h
 | cons k ks ih =>
  intro ks' h hi
  cases ks' with
  | nil=>simp at h
  | cons k' ks' =>
   simp only [treesOf]
   rw [show treeOf k'=treeOf k from hi 0 (by simp) (by simp),ih ks' (by simpa using h) fun i h1 h2=>hi (i+1) (Nat.succ_lt_succ h1) (Nat.succ_lt_succ h2)]
theorem twin_tree:∀ (m k:Nd),Twin m k→treeOf k=treeOf m:=by
 refine Nd.ind fun h a c ks ih k t=>?_
 cases t with
 | mk _ _ a' _ c' _ ks' hl hk =>
 simp only [treeOf]
 rw [twin_trees ks ks' hl fun i h1 h2=>ih _ (List.getElem_mem h1) _ (hk i h1 h2)]
theorem twin_bare {m k:Nd}(t:Twin m k):bare k=bare m:=by unfold bare; rw [twin_tree m k t]
theorem oth_cells (w:yW) {b c:Nat}(o:Nat) (h:c≠b) (m:Nd):(w.setCells b o m.vals.toList).heap[c]? = w.heap[c]?:=by
 rw [cells8_eq]
 iterate 8 (refine (Below.heap_setCell _ _ _ _ (show c≠b from h)).trans ?_)
 rfl
theorem put_cells {w:yW}{b:Nat}{cs:Array Value}{t:TypeId}(h:w.heap[b]? = (zC cs t)) (o:Nat) (m:Nd):(w.setCells b o m.vals.toList).heap[b]? = (zC (set8 cs o m) t):=by
 rw [cells8_eq]
 exact heap_set _ (heap_set _ (heap_set _ (heap_set _ (heap_set _ (heap_set _ (heap_set _ (heap_set _ h)))))))
theorem below_cells {w V:yW}(h:yD w V) {b:Nat}(hb:w§≤b) (o:Nat) (m:Nd):yD w (V.setCells b o m.vals.toList):=by
 rw [cells8_eq]
 exact (((((((h.setCell (p:=b¢o) hb _).setCell (p:=⟨b,o+1,none⟩) hb _).setCell (p:=⟨b,o+2,none⟩) hb _).setCell (p:=⟨b,o+3,none⟩) hb _).setCell (p:=⟨b,o+4,none⟩) hb _).setCell (p:=⟨b,o+5,none⟩) hb _).setCell (p:=⟨b,o+6,none⟩) hb _).setCell (p:=⟨b,o+7,none⟩) hb _
theorem there_of {w:yW}{b:Nat}{cs:Array Value}{t:TypeId}(h:w.heap[b]? = (zC cs t)) (o n:Nat) (hn:o+n≤cs.size):w.there b o n:=fun j hj=>⟨by rw [cell_of h]; simp; omega,frozen_of h _⟩
def Off (W:yW) (N:Nat) (m:Nd):Prop:=Lies W m∧Bk (fun b=>N+1 < b∧b < W§) m
theorem Off.on {W W':yW}{N:Nat}{m:Nd}(h:Off W N m) (k:yD W W'):Off W' N m:=⟨h.1.on k,h.2.mono fun b hb=>⟨hb.1,Nat.lt_of_lt_of_le hb.2 k.size⟩⟩
theorem sz_cells8 (w:yW) (b o:Nat) (m:Nd):(w.setCells b o m.vals.toList)§=w§:=by rw [cells8_eq]; simp [World.size_setCell]
theorem Off.set {W:yW}{N:Nat}{m:Nd}(h:Off W N m) (o:Nat) (q:Nd):Off (W.setCells N o q.vals.toList) N m:=⟨h.1.bk (P:=fun b=>N+1 < b∧b < W§) (fun b _ hb=>oth_cells W o (by omega) q) h.2,h.2.mono fun b hb=>⟨hb.1,by rw [sz_cells8]; exact hb.2⟩⟩
theorem sz_row (W:yW) (b:Nat) (cs:Array Value):(W.setRow b cs)§=W§:=by unfold World.setRow; simp
theorem Off.row {W:yW}{N:Nat}{m:Nd}(h:Off W N m) (cs:Array Value):Lies (W.setRow (N+1) cs) m:=h.1.bk (P:=fun b=>N+1 < b∧b < W§) (fun b _ hb=>setRow_oth _ _ _ (by omega)) h.2
theorem Off.rowb {W:yW}{N:Nat}{m:Nd}(h:Off W N m) (cs:Array Value):Bk (fun b=>N≤b∧b < (W.setRow (N+1) cs)§) m:=h.2.mono fun b hb=>⟨by omega,by rw [sz_row]; exact hb.2⟩
theorem Copied.off {m:Nd}{W:yW}{N:Nat}{m':Nd}{W':yW}(h:Lies W' m') (hs:SpN m' (fun b=>W§≤b∧b < W'§)) (hN:N+1 < W§):Off W' N m':=⟨h,hs.bk.mono fun b hb=>by omega⟩
def DoB (P:Nat→Prop) (d:DoM):Prop:=Bk P d.sd∧Bk P d.qt∧Bk P d.pr∧Bk P d.vl
theorem DoB.mono {P Q:Nat→Prop}(h:∀ b,P b→Q b) {d:DoM}(k:DoB P d):DoB Q d:=⟨k.1.mono h,k.2.1.mono h,k.2.2.1.mono h,k.2.2.2.mono h⟩
theorem DoL.bk {P:Nat→Prop}{w w':yW}(k:∀ b,b < w§→P b→w'.heap[b]? = w.heap[b]?) {d:DoM}(h:DoL w d) (hb:DoB P d):DoL w' d:=⟨h.1.bk k hb.1,h.2.1.bk k hb.2.1,h.2.2.1.bk k hb.2.2.1,h.2.2.2.1.bk k hb.2.2.2,h.2.2.2.2⟩
theorem copyDo_any (d:DoM) (w:yW) (hl:DoL w d) (hz:DoZ d∧size d.sd≤900000000∧size d.qt≤900000000∧size d.pr≤900000000∧size d.vl≤900000000):Calls zG 87 #[.agg d.vals] w fun e w'=>∃ d',e=.returned (.agg d'.vals)∧DoL w' d'∧bDo d'=bDo d∧yD w w'∧DoB (fun b=>w§≤b∧b < w'§) d':=by
 have HH:Hid (DoL w d∧size d.sd≤900000000∧size d.qt≤900000000∧size d.pr≤900000000∧size d.vl≤900000000):=⟨hl,hz.2⟩
 have hb0:=below_two w (.cells d.vals 105) (.cells #[zU 0,zU 0,yQ,zU 0,zU 0,zU 0,zI 0,zU 0,yQ,.slice none 0 0,zI 0,zU 0,zU 0,zU 0,zI 0,zU 0,yQ,.slice none 0 0,zI 0,zU 0,zU 0,zU 0,zI 0,zU 0,yQ,.slice none 0 0,zI 0,zU 0,zU 0,zU 0,zI 0,zU 0,yQ,.slice none 0 0,zI 0,zI 0] 105)
 have n1:((w.alloc (.cells d.vals 105)).alloc (.cells #[zU 0,zU 0,yQ,zU 0,zU 0,zU 0,zI 0,zU 0,yQ,.slice none 0 0,zI 0,zU 0,zU 0,zU 0,zI 0,zU 0,yQ,.slice none 0 0,zI 0,zU 0,zU 0,zU 0,zI 0,zU 0,yQ,.slice none 0 0,zI 0,zU 0,zU 0,zU 0,zI 0,zU 0,yQ,.slice none 0 0,zI 0,zI 0] 105)).heap[w§]? = (zC d.vals 105):=heap_old (heap_new _ _) (by rw [size_alloc]; omega)
 have n2:((w.alloc (.cells d.vals 105)).alloc (.cells #[zU 0,zU 0,yQ,zU 0,zU 0,zU 0,zI 0,zU 0,yQ,.slice none 0 0,zI 0,zU 0,zU 0,zU 0,zI 0,zU 0,yQ,.slice none 0 0,zI 0,zU 0,zU 0,zU 0,zI 0,zU 0,yQ,.slice none 0 0,zI 0,zU 0,zU 0,zU 0,zI 0,zU 0,yQ,.slice none 0 0,zI 0,zI 0] 105)).heap[w§+1]? = (zC #[zU 0,zU 0,yQ,zU 0,zU 0,zU 0,zI 0,zU 0,yQ,.slice none 0 0,zI 0,zU 0,zU 0,zU 0,zI 0,zU 0,yQ,.slice none 0 0,zI 0,zU 0,zU 0,zU 0,zI 0,zU 0,yQ,.slice none 0 0,zI 0,zU 0,zU 0,zU 0,zI 0,zU 0,yQ,.slice none 0 0,zI 0,zI 0] 105):=by rw [← size_alloc w (.cells d.vals 105)]; exact heap_new _ _
 have hs0:((w.alloc (.cells d.vals 105)).alloc (.cells #[zU 0,zU 0,yQ,zU 0,zU 0,zU 0,zI 0,zU 0,yQ,.slice none 0 0,zI 0,zU 0,zU 0,zU 0,zI 0,zU 0,yQ,.slice none 0 0,zI 0,zU 0,zU 0,zU 0,zI 0,zU 0,yQ,.slice none 0 0,zI 0,zU 0,zU 0,zU 0,zI 0,zU 0,yQ,.slice none 0 0,zI 0,zI 0] 105))§=w§+1+1:=by rw [size_alloc,size_alloc]
 obtain⟨V,eV⟩:∃ V,(w.alloc (.cells d.vals 105)).alloc (.cells #[zU 0,zU 0,yQ,zU 0,zU 0,zU 0,zI 0,zU 0,yQ,.slice none 0 0,zI 0,zU 0,zU 0,zU 0,zI 0,zU 0,yQ,.slice none 0 0,zI 0,zU 0,zU 0,zU 0,zI 0,zU 0,yQ,.slice none 0 0,zI 0,zU 0,zU 0,zU 0,zI 0,zU 0,yQ,.slice none 0 0,zI 0,zI 0] 105)=V:=⟨_,rfl⟩
 rw [eV] at hb0 n1 n2 hs0
 have HV:Hid ((w.alloc (.cells d.vals 105)).alloc (.cells #[zU 0,zU 0,yQ,zU 0,zU 0,zU 0,zI 0,zU 0,yQ,.slice none 0 0,zI 0,zU 0,zU 0,zU 0,zI 0,zU 0,yQ,.slice none 0 0,zI 0,zU 0,zU 0,zU 0,zI 0,zU 0,yQ,.slice none 0 0,zI 0,zU 0,zU 0,zU 0,zI 0,zU 0,yQ,.slice none 0 0,zI 0,zI 0] 105)=V):=eV
 have hzs:(#[zU 0,zU 0,yQ,zU 0,zU 0,zU 0,zI 0,zU 0,yQ,.slice none 0 0,zI 0,zU 0,zU 0,zU 0,zI 0,zU 0,yQ,.slice none 0 0,zI 0,zU 0,zU 0,zU 0,zI 0,zU 0,yQ,.slice none 0 0,zI 0,zU 0,zU 0,zU 0,zI 0,zU 0,yQ,.slice none 0 0,zI 0,zI 0]:Array Value).size=36:=rfl
 obtain⟨Z,eZ⟩:∃ Z:Array Value,#[zU 0,zU 0,yQ,zU 0,zU 0,zU 0,zI 0,zU 0,yQ,.slice none 0 0,zI 0,zU 0,zU 0,zU 0,zI 0,zU 0,yQ,.slice none 0 0,zI 0,zU 0,zU 0,zU 0,zI 0,zU 0,yQ,.slice none 0 0,zI 0,zU 0,zU 0,zU 0,zI 0,zU 0,yQ,.slice none 0 0,zI 0,zI 0]=Z:=⟨_,rfl⟩
 rw [eZ] at n2 hzs
 have HZZ:Hid (Z.size=36):=hzs
 have H0:Hid (yD w V∧V.heap[w§]? = (zC (doA d.k d.o d.x d.sd d.qt d.pr d.vl d.p) 105)∧w§+1 < V§∧V.heap[w§+1]? = (zC Z 105)):=⟨hb0,n1,by omega,n2⟩
 clear hl hz hb0 n1 n2 hs0 eV hzs eZ
 go_enter Tryz.func87,Tryz.ntmps87
 go_upto_region 1 with fail
 rw [HV.out]
 clear HV
 have c0:=copy_any d.sd V (HH.out.1.1.on H0.out.1) HH.out.2.1
 go_upto_region 2 with (first | (refine wpList_load_mid rfl 48 _ rfl w§ 3 rfl d.sd.vals.toList _ (nd_rng H0.out.2.1 3 d.sd (do_sd (⟨d.k,d.o,d.x,d.sd,d.qt,d.pr,d.vl,d.p⟩:DoM))) Tryz.underlying48 rfl (size38 d.sd) ?_; rw [toArr]) | (go_at_call 49; refine c0.mono ?_; rintro e u0 ⟨m0,rfl,hl0,ht0,hs0,ho0,hb0⟩) | (refine wpList_store_mid rfl 48 _ _ rfl w§ 3 m0.vals rfl rfl (there_of ((hb0.block _ (zJ H0.out.2.1).1).trans H0.out.2.1) 3 8 (by show 3+8≤36; omega)) size64' (all8 m0) ?_))
 have H1:Hid (yD w (u0.setCells w§ 3 m0.vals.toList)∧(u0.setCells w§ 3 m0.vals.toList).heap[w§]? = (zC (doA d.k d.o d.x m0 (d.qt) (d.pr) (d.vl) d.p) 105)∧w§+1 < (u0.setCells w§ 3 m0.vals.toList)§∧(u0.setCells w§ 3 m0.vals.toList).heap[w§+1]? = (zC Z 105)∧Off (u0.setCells w§ 3 m0.vals.toList) w§ m0∧bare m0=bare d.sd) :=
  ⟨below_cells (below2 H0.out.1 hb0) (Nat.le_refl _) 3 m0,(put_cells ((hb0.block _ (zJ H0.out.2.1).1).trans H0.out.2.1) 3 m0).trans (by rw [doSd_eq]),by have h1:=hb0.size; have h2:=H0.out.2.2.1; rw [cells8_eq]; simp [World.setCell]; omega,(oth_cells _ 3 (by omega) m0).trans ((hb0.block _ (zJ H0.out.2.2.2).1).trans H0.out.2.2.2),(Copied.off (m:=d.sd) hl0 hs0 H0.out.2.2.1).set 3 m0,twin_bare ht0⟩
 clear hl0 ht0 hs0 ho0 hb0 c0 H0
 generalize World.setCells _ _ _ _=v0 at H1 ⊢
 have c1:=copy_any d.qt v0 (HH.out.1.2.1.on H1.out.1) HH.out.2.2.1
 go_upto_region 3 with (first | (refine wpList_load_mid rfl 48 _ rfl w§ 11 rfl d.qt.vals.toList _ (nd_rng H1.out.2.1 11 d.qt (do_qt (⟨d.k,d.o,d.x,m0,d.qt,d.pr,d.vl,d.p⟩:DoM))) Tryz.underlying48 rfl (size38 d.qt) ?_; rw [toArr]) | (go_at_call 49; refine c1.mono ?_; rintro e u1 ⟨m1,rfl,hl1,ht1,hs1,ho1,hb1⟩) | (refine wpList_store_mid rfl 48 _ _ rfl w§ 11 m1.vals rfl rfl (there_of ((hb1.block _ (zJ H1.out.2.1).1).trans H1.out.2.1) 11 8 (by show 11+8≤36; omega)) size64' (all8 m1) ?_))
 have H2:Hid (yD w (u1.setCells w§ 11 m1.vals.toList)∧(u1.setCells w§ 11 m1.vals.toList).heap[w§]? = (zC (doA d.k d.o d.x m0 m1 (d.pr) (d.vl) d.p) 105)∧w§+1 < (u1.setCells w§ 11 m1.vals.toList)§∧(u1.setCells w§ 11 m1.vals.toList).heap[w§+1]? = (zC Z 105)∧Off (u1.setCells w§ 11 m1.vals.toList) w§ m0∧bare m0=bare d.sd∧Off (u1.setCells w§ 11 m1.vals.toList) w§ m1∧bare m1=bare d.qt) :=
  ⟨below_cells (below2 H1.out.1 hb1) (Nat.le_refl _) 11 m1,(put_cells ((hb1.block _ (zJ H1.out.2.1).1).trans H1.out.2.1) 11 m1).trans (by rw [doQt_eq]),by have h1:=hb1.size; have h2:=H1.out.2.2.1; rw [cells8_eq]; simp [World.setCell]; omega,(oth_cells _ 11 (by omega) m1).trans ((hb1.block _ (zJ H1.out.2.2.2.1).1).trans H1.out.2.2.2.1),((H1.out.2.2.2.2.1).on hb1).set 11 m1,H1.out.2.2.2.2.2,(Copied.off (m:=d.qt) hl1 hs1 H1.out.2.2.1).set 11 m1,twin_bare ht1⟩
 clear hl1 ht1 hs1 ho1 hb1 c1 H1
 generalize World.setCells _ _ _ _=v1 at H2 ⊢
 have c2:=copy_any d.pr v1 (HH.out.1.2.2.1.on H2.out.1) HH.out.2.2.2.1
 go_upto_region 4 with (first | (refine wpList_load_mid rfl 48 _ rfl w§ 19 rfl d.pr.vals.toList _ (nd_rng H2.out.2.1 19 d.pr (do_pr (⟨d.k,d.o,d.x,m0,m1,d.pr,d.vl,d.p⟩:DoM))) Tryz.underlying48 rfl (size38 d.pr) ?_; rw [toArr]) | (go_at_call 49; refine c2.mono ?_; rintro e u2 ⟨m2,rfl,hl2,ht2,hs2,ho2,hb2⟩) | (refine wpList_store_mid rfl 48 _ _ rfl w§ 19 m2.vals rfl rfl (there_of ((hb2.block _ (zJ H2.out.2.1).1).trans H2.out.2.1) 19 8 (by show 19+8≤36; omega)) size64' (all8 m2) ?_))
 have H3:Hid (yD w (u2.setCells w§ 19 m2.vals.toList)∧(u2.setCells w§ 19 m2.vals.toList).heap[w§]? = (zC (doA d.k d.o d.x m0 m1 m2 (d.vl) d.p) 105)∧w§+1 < (u2.setCells w§ 19 m2.vals.toList)§∧(u2.setCells w§ 19 m2.vals.toList).heap[w§+1]? = (zC Z 105)∧Off (u2.setCells w§ 19 m2.vals.toList) w§ m0∧bare m0=bare d.sd∧Off (u2.setCells w§ 19 m2.vals.toList) w§ m1∧bare m1=bare d.qt∧Off (u2.setCells w§ 19 m2.vals.toList) w§ m2∧bare m2=bare d.pr) :=
  ⟨below_cells (below2 H2.out.1 hb2) (Nat.le_refl _) 19 m2,(put_cells ((hb2.block _ (zJ H2.out.2.1).1).trans H2.out.2.1) 19 m2).trans (by rw [doPr_eq]),by have h1:=hb2.size; have h2:=H2.out.2.2.1; rw [cells8_eq]; simp [World.setCell]; omega,(oth_cells _ 19 (by omega) m2).trans ((hb2.block _ (zJ H2.out.2.2.2.1).1).trans H2.out.2.2.2.1),((H2.out.2.2.2.2.1).on hb2).set 19 m2,H2.out.2.2.2.2.2.1,((H2.out.2.2.2.2.2.2.1).on hb2).set 19 m2,H2.out.2.2.2.2.2.2.2,(Copied.off (m:=d.pr) hl2 hs2 H2.out.2.2.1).set 19 m2,twin_bare ht2⟩
 clear hl2 ht2 hs2 ho2 hb2 c2 H2
 generalize World.setCells _ _ _ _=v2 at H3 ⊢
 have c3:=copy_any d.vl v2 (HH.out.1.2.2.2.1.on H3.out.1) HH.out.2.2.2.2
 go_upto_region 5 with (first | (refine wpList_load_mid rfl 48 _ rfl w§ 27 rfl d.vl.vals.toList _ (nd_rng H3.out.2.1 27 d.vl (do_vl (⟨d.k,d.o,d.x,m0,m1,m2,d.vl,d.p⟩:DoM))) Tryz.underlying48 rfl (size38 d.vl) ?_; rw [toArr]) | (go_at_call 49; refine c3.mono ?_; rintro e u3 ⟨m3,rfl,hl3,ht3,hs3,ho3,hb3⟩) | (refine wpList_store_mid rfl 48 _ _ rfl w§ 27 m3.vals rfl rfl (there_of ((hb3.block _ (zJ H3.out.2.1).1).trans H3.out.2.1) 27 8 (by show 27+8≤36; omega)) size64' (all8 m3) ?_))
 have H4:Hid (yD w (u3.setCells w§ 27 m3.vals.toList)∧(u3.setCells w§ 27 m3.vals.toList).heap[w§]? = (zC (doA d.k d.o d.x m0 m1 m2 m3 d.p) 105)∧w§+1 < (u3.setCells w§ 27 m3.vals.toList)§∧(u3.setCells w§ 27 m3.vals.toList).heap[w§+1]? = (zC Z 105)∧Off (u3.setCells w§ 27 m3.vals.toList) w§ m0∧bare m0=bare d.sd∧Off (u3.setCells w§ 27 m3.vals.toList) w§ m1∧bare m1=bare d.qt∧Off (u3.setCells w§ 27 m3.vals.toList) w§ m2∧bare m2=bare d.pr∧Off (u3.setCells w§ 27 m3.vals.toList) w§ m3∧bare m3=bare d.vl) :=
  ⟨below_cells (below2 H3.out.1 hb3) (Nat.le_refl _) 27 m3,(put_cells ((hb3.block _ (zJ H3.out.2.1).1).trans H3.out.2.1) 27 m3).trans (by rw [doVl_eq]),by have h1:=hb3.size; have h2:=H3.out.2.2.1; rw [cells8_eq]; simp [World.setCell]; omega,(oth_cells _ 27 (by omega) m3).trans ((hb3.block _ (zJ H3.out.2.2.2.1).1).trans H3.out.2.2.2.1),((H3.out.2.2.2.2.1).on hb3).set 27 m3,H3.out.2.2.2.2.2.1,((H3.out.2.2.2.2.2.2.1).on hb3).set 27 m3,H3.out.2.2.2.2.2.2.2.1,((H3.out.2.2.2.2.2.2.2.2.1).on hb3).set 27 m3,H3.out.2.2.2.2.2.2.2.2.2,(Copied.off (m:=d.vl) hl3 hs3 H3.out.2.2.1).set 27 m3,twin_bare ht3⟩
 clear hl3 ht3 hs3 ho3 hb3 c3 H3
 generalize World.setCells _ _ _ _=v3 at H4 ⊢
 have HF:Hid ((v3.setRow (w§+1) (doA d.k d.o d.x m0 m1 m2 m3 d.p)).heap[w§+1]? = (zC (doA d.k d.o d.x m0 m1 m2 m3 d.p) 105)∧yD w (v3.setRow (w§+1) (doA d.k d.o d.x m0 m1 m2 m3 d.p))):=⟨setRow_heap _ _ _ _ _ _ H4.out.2.2.2.1,below_row H4.out.1 (by omega) _⟩
 go_wp2_with (first | (refine wpList_load_row rfl 105 _ rfl w§ rfl 105 (doA d.k d.o d.x m0 m1 m2 m3 d.p) (0,0) _ H4.out.2.1 Tryz.underlying105 rfl size110' ?_) | (refine wpList_store_row rfl 105 _ _ rfl (w§+1) (doA d.k d.o d.x m0 m1 m2 m3 d.p) rfl rfl 105 Z H4.out.2.2.2.1 size110' (by rw [HZZ.out]; rfl) (all36 _ _ _ _ _ _ _ _) ?_))
 have h4:=H4.out.2.2.2.2
 exact bodyPost_ret (results_cell_row rfl _ _ (w§+1) 105 (doA d.k d.o d.x m0 m1 m2 m3 d.p) (0,0) _ rfl HF.out.1 Tryz.underlying105 rfl size110') rfl ⟨⟨d.k,d.o,d.x,m0,m1,m2,m3,d.p⟩,rfl,⟨h4.1.row _,h4.2.2.1.row _,h4.2.2.2.2.1.row _,h4.2.2.2.2.2.2.1.row _,HH.out.1.2.2.2.2⟩,by simp only [bDo,h4.2.1,h4.2.2.2.1,h4.2.2.2.2.2.1,h4.2.2.2.2.2.2.2],HF.out.2,⟨h4.1.rowb _,h4.2.2.1.rowb _,h4.2.2.2.2.1.rowb _,h4.2.2.2.2.2.2.1.rowb _⟩⟩
end Go.Proofs.YtoogodlnnijikaaGreatDoor
