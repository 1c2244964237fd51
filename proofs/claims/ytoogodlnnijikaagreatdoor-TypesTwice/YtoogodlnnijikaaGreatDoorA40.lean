import Derived.Test.YtoogodlnnijikaaGreatDoorA0
import Derived.Test.YtoogodlnnijikaaGreatDoorA39
namespace Go.Proofs.YtoogodlnnijikaaGreatDoor
set_option maxHeartbeats 8000000
set_option maxRecDepth 100000
open Go.RowKit
set_option linter.unusedVariables false
def arF (L:List (Array Value)) (n j:Nat):Value:=(L.getD (j / n) #[]).getD (j % n) undef
structure RA (W w:yW) (e:TypeId) (n:Nat) (v:Value) (L:List (Array Value)):Prop where
 row:Row w e n v L.length (arF L n)
 nb:∀ k,v.ownBlock=some k→W§≤k
 B:yD W w
 sz:∀ x ∈ L,x.size=n
theorem RA.nil {W w:yW}(h:yD W w) (e:TypeId) (n:Nat):RA W w e n (.slice none 0 0) []:=⟨Row.nil _ _ _ _,fun k h=>by simp [Value.ownBlock] at h,h,fun x hx=>by cases hx⟩
theorem RA.call {W w w':yW}{e:TypeId}{n:Nat}{v:Value}{L:List (Array Value)}(h:RA W w e n v L) (k:yD w w'):RA W w' e n v L :=
 ⟨h.row.of_block (fun b hb=>k.block b (h.row.lt b hb)),h.nb,h.B.trans (k.mono h.B.size),h.sz⟩
theorem RA.hid {W w:yW}{e:TypeId}{n:Nat}{v:Value}{L:List (Array Value)}(h:RA W w e n v L):Hid (RA W w e n v L):=h
theorem arF_lt {L:List (Array Value)}{y:Array Value}{n j:Nat}(hn:0 < n) (h:j < L.length * n):arF (L ++ [y]) n j=arF L n j:=by
 have:j / n < L.length:=(Nat.div_lt_iff_lt_mul hn).2 h
 unfold arF
 simp [List.getD,List.getElem?_append_left this]
theorem arF_at {L:List (Array Value)}{y:Array Value}{n j:Nat}(hn:0 < n) (h1:L.length * n≤j) (h2:j < (L.length+1) * n):arF (L ++ [y]) n j=y.getD (j - L.length * n) undef:=by
 obtain⟨k,rfl⟩:∃ k,j=L.length * n+k:=⟨j - L.length * n,by omega⟩
 have hk:k < n:=by rw [Nat.add_mul,Nat.one_mul] at h2; omega
 have e1:(L.length * n+k) / n=L.length:=by rw [Nat.mul_comm,Nat.mul_add_div hn,Nat.div_eq_of_lt hk]; omega
 have e2:(L.length * n+k) % n=k:=by rw [Nat.mul_comm,Nat.mul_add_mod,Nat.mod_eq_of_lt hk]
 unfold arF
 rw [e1,e2,Nat.add_sub_cancel_left]
 simp [List.getD]
theorem append_arr {W w0:yW}{ops:Array Oper}{rest:List Oper}{o:Oper}{a:Act}{Q:Exit→Act→yW→Prop}(hgd:o.guard=none) (d x:Operand) (t e:TypeId) (n:Nat) (by_:Nat) (z:Value)
  (ho:o.op=.call { callee:=.builtin .append,args:=#[d,x],argTypes:=#[t,t] }) (hu:Tryz.prog.underlying t=some (.slice e)) (hi:(Tryz.prog.info? e).map (fun i=>(i.zero,i.size,i.bytes))=some (some z,n,by_)) (hz:z.cells.size=n) (hb:0 < n) (hn1:n≤100) (hby:by_≤1000)
  (y:Array Value) (hy:y.size=n) (hy1:∀ u ∈ y.toList,u.oneCell'=true) {v:Value}{L:List (Array Value)}(hR:RA W w0 e n v L) (hs:a.eval d=v) (hx:a.eval x=.slice (some w0§¢0) 1 1) (hlen:L.length≤1000000000)
  (h:∀ v' w',RA W w' e n v' (L ++ [y])→w0§≤w'§→(∀ b,b < w0§→v.ownBlock≠some b→w'.heap[b]? = w0.heap[b]?)→(v'.ownBlock=v.ownBlock∨∃ g,v'.ownBlock=some g∧w0§ < g)→wpList Tryz.prog ops Q rest (a.put o.dst v') w') :
  wpList Tryz.prog ops Q (o :: rest) a (w0.alloc (.cells y e)):=by
 obtain⟨i0,hi0,hz0,hz1,hz2⟩:=info_parts hi
 refine wpList_append_lies _ hgd d x t ho 0 e i0 _ n by_ hu hi0 hz0 hz1 hz2 hz hb v L.length _ hs (hR.row.alloc _) w0§¢0 1 1 y.toList hx (by rw [Array.length_toList,hy,Nat.one_mul]) (World.news_of_block (heap_new w0 _)) hy1 (by decide) (by unfold maxLen; omega) (Nat.le_trans (Nat.mul_le_mul (show L.length+1≤1000000001 by omega) hby) (by decide)) (Nat.zero_le _) _ rfl ?_
 intro g cap w' h2 h3 h4 h5
 have hsz:=size_alloc w0 (.cells y e)
 have hB0:=hR.B.alloc hR.B.size (.cells y e)
 refine h _ w' ⟨?_,?_,hB0.grown h3 hB0.size (fun k hk=>hR.nb k hk),?_⟩ ?_ ?_ ?_
 ·have hr:=Row.snoc (x:=fun j=>y.getD j undef) h2 (by rw [Array.length_toList,hy]) (fun j hj=>by rw [Array.getElem?_toList,Array.getElem?_eq_getElem (by omega)]; simp [show j < y.size by omega])
  rw [List.length_append,List.length_singleton]
  refine hr.congr fun j hj=>?_
  by_cases hh:j < L.length * n
  ·simp only [hh,if_true]
   rw [arF_lt hb hh]
  ·simp only [hh,if_false]
   rw [arF_at hb (by omega) hj]
 ·intro k hk
  simp [Value.ownBlock] at hk
  subst hk
  rcases h4 with h4 | h4
  ·exact hR.nb _ h4
  ·have:=hR.B.size; omega
 ·intro q hq
  rcases List.mem_append.1 hq with hq | hq
  ·exact hR.sz q hq
  ·obtain rfl:=List.mem_singleton.1 hq; exact hy
 ·have:=h3.size; omega
 ·intro b hb' hne
  rw [h3.block b (by omega) (fun e=>hne e.symm)]
  exact Below.heap_alloc _ _ _ hb'
 ·rcases h4 with h4 | h4
  ·exact .inl h4.symm
  ·exact .inr ⟨g,rfl,by rw [h4,size_alloc]; omega⟩
theorem RA.sl {W w:yW}{e:TypeId}{n:Nat}{v:Value}{L:List (Array Value)}(h:RA W w e n v L) (hn:0 < n):∃ a c,v=.slice a L.length c∧SlAt w n a c L∧∀ b o,a=some b¢o→W§≤b:=by
 have h':=h.row
 rcases h.row.2 with ⟨rfl,e0⟩ | ⟨g,cap,cur,rfl,_,_,hc1,hc2,_⟩
 ·have:L = []:=List.length_eq_zero_iff.1 e0
  subst this
  exact⟨none,0,rfl,⟨Nat.le_refl _,by decide,fun i hi=>by simp at hi⟩,fun b o h=>by cases h⟩
 ·refine⟨some g¢0,cap,rfl,⟨hc1,hc2,fun i hi=>⟨g,0,rfl,fun j hj=>?_⟩⟩,fun b o h1=>by cases h1; exact h.nb g rfl⟩
  have hij:i * n+j < L.length * n:=by
   have:(i+1) * n≤L.length * n:=Nat.mul_le_mul_right n hi
   rw [Nat.add_mul,Nat.one_mul] at this; omega
  have hc:=Row.cell h' hij
  rw [Nat.zero_add,hc]
  have hs:=h.sz _ (List.getElem_mem hi)
  unfold arF
  rw [show (i * n+j) / n=i by rw [Nat.mul_comm,Nat.mul_add_div hn,Nat.div_eq_of_lt hj]; omega,show (i * n+j) % n=j by rw [Nat.mul_comm,Nat.mul_add_mod,Nat.mod_eq_of_lt hj]]
  simp [List.getD,hi,show j < L[i].size by omega]
theorem SlAt.bk {P:Nat→Prop}{w w':yW}{n:Nat}{a:Option Addr}{c:Nat}{vs:List (Array Value)}(k:∀ b,b < w§→P b→w'.heap[b]? = w.heap[b]?) (h:SlAt w n a c vs) (hz:∀ x ∈ vs,n≤x.size) (hn:0 < n) (hP:∀ x,a=some x→P x.block):SlAt w' n a c vs:=by
 refine⟨h.1,h.2.1,fun i hi=>?_⟩
 obtain⟨b,o,h1,h2⟩:=h.2.2 i hi
 refine⟨b,o,h1,fun j hj=>?_⟩
 have hs:=hz _ (List.getElem_mem hi)
 have h3:=h2 j hj
 rw [Array.getElem?_eq_getElem (by omega)] at h3
 rw [World.cell?_of_block (k b (World.block_lt_of_cell? w _ h3) (hP _ h1))]
 rw [h3,Array.getElem?_eq_getElem (by omega)]
structure Knd {X Y:Type}(vals:X→Array Value) (LX:yW→X→Prop) (BX:(Nat→Prop)→X→Prop) (f:X→Y) (n:Nat):Prop where
 sz:∀ x,(vals x).size=n
 mono:∀ (P Q:Nat→Prop) x,(∀ b,P b→Q b)→BX P x→BX Q x
 bk:∀ (P:Nat→Prop) (w w':yW) x,(∀ b,b < w§→P b→w'.heap[b]? = w.heap[b]?)→LX w x→BX P x→LX w' x
structure Cpl {X Y:Type}(vals:X→Array Value) (LX:yW→X→Prop) (BX:(Nat→Prop)→X→Prop) (f:X→Y) (e:TypeId) (n:Nat) (W wr:yW) (v:Value) (ks L:List X) (i:Nat):Prop where
 l:L.length=i
 r:RA W wr e n v (L.map vals)
 b:L.map f=(ks.take i).map f
 y:∀ x ∈ L,LX wr x∧BX (fun b=>W§≤b∧b < wr§∧v.ownBlock≠some b) x
theorem Cpl.hid {X Y:Type}{vals:X→Array Value}{LX:yW→X→Prop}{BX:(Nat→Prop)→X→Prop}{f:X→Y}{e:TypeId}{n:Nat}{W wr:yW}{v:Value}{ks L:List X}{i:Nat}(h:Cpl vals LX BX f e n W wr v ks L i):Hid (Cpl vals LX BX f e n W wr v ks L i):=h
theorem Cpl.nil {X Y:Type}(vals:X→Array Value) (LX:yW→X→Prop) (BX:(Nat→Prop)→X→Prop) (f:X→Y) (e:TypeId) (n:Nat) {W w:yW}(h:yD W w) (ks:List X):Cpl vals LX BX f e n W w (.slice none 0 0) ks [] 0 :=
 ⟨rfl,RA.nil h e n,rfl,fun x hx=>by cases hx⟩
theorem Cpl.call {X Y:Type}{vals:X→Array Value}{LX:yW→X→Prop}{BX:(Nat→Prop)→X→Prop}{f:X→Y}{e:TypeId}{n:Nat}{W wr w1:yW}{v:Value}{ks L:List X}{i:Nat}(h:Cpl vals LX BX f e n W wr v ks L i) (K:Knd vals LX BX f n) (k:yD wr w1):Cpl vals LX BX f e n W w1 v ks L i :=
 ⟨h.l,h.r.call k,h.b,fun x hx=>⟨K.bk _ _ _ x (fun b hb _=>k.block b hb) (h.y x hx).1 (h.y x hx).2,K.mono _ _ x (fun b hb=>⟨hb.1,Nat.lt_of_lt_of_le hb.2.1 k.size,hb.2.2⟩) (h.y x hx).2⟩⟩
theorem Cpl.snoc {X Y:Type}{vals:X→Array Value}{LX:yW→X→Prop}{BX:(Nat→Prop)→X→Prop}{f:X→Y}{e:TypeId}{n:Nat}{W w0 w1 w2:yW}{v v':Value}{ks L:List X}{i:Nat}{k':X}(h:Cpl vals LX BX f e n W w0 v ks L i) (K:Knd vals LX BX f n) (hi:i < ks.length) (hb1:yD w0 w1) (hk1:LX w1 k') (hk2:f k'=f ks[i]) (hk3:BX (fun b=>w0§≤b∧b < w1§) k')
  (hr:RA W w2 e n v' (L.map vals ++ [vals k'])) (hs:w1§≤w2§) (hk:∀ b,b < w1§→v.ownBlock≠some b→w2.heap[b]? = w1.heap[b]?) (hq:v'.ownBlock=v.ownBlock∨∃ g,v'.ownBlock=some g∧w1§ < g) :
  Cpl vals LX BX f e n W w2 v' ks (L ++ [k']) (i+1):=by
 have hW:=h.r.B.size
 have hS1:=hb1.size
 have hne:∀ b,b < w1§→v.ownBlock≠some b→v'.ownBlock≠some b:=fun b hb hn e=>by
  rcases hq with e1 | ⟨g,e1,hg⟩
  ·exact hn (e1.symm.trans e)
  ·rw [e1] at e; cases e; omega
 have hv:∀ b,w0§≤b→v.ownBlock≠some b:=fun b hb e=>by have:=h.r.row.lt b e; omega
 refine⟨by rw [List.length_append,h.l]; rfl,by rw [List.map_append]; exact hr,?_,fun x hx=>?_⟩
 ·rw [List.map_append,h.b,List.map_singleton,hk2,List.take_succ_eq_append_getElem hi,List.map_append,List.map_singleton]
 ·rcases List.mem_append.1 hx with hx | hx
  ·obtain⟨y1,y2⟩:=(h.call K hb1).y x hx
   exact⟨K.bk _ _ _ x (fun b hb hp=>hk b hb hp.2.2) y1 y2,K.mono _ _ x (fun b hp=>⟨hp.1,by omega,hne b hp.2.1 hp.2.2⟩) y2⟩
  ·obtain rfl:=List.mem_singleton.1 hx
   exact⟨K.bk _ _ _ _ (fun b hb hp=>hk b hb (hv b hp.1)) hk1 hk3,K.mono _ _ _ (fun b hp=>⟨by omega,by omega,hne b hp.2 (hv b hp.1)⟩) hk3⟩
theorem Cpl.all {X Y:Type}{vals:X→Array Value}{LX:yW→X→Prop}{BX:(Nat→Prop)→X→Prop}{f:X→Y}{e:TypeId}{n:Nat}{W wr:yW}{v:Value}{ks L:List X}(h:Cpl vals LX BX f e n W wr v ks L ks.length) (K:Knd vals LX BX f n) (hn:0 < n) :
  ∃ a c,v=.slice a L.length c∧SlAt wr n a c (L.map vals)∧(∀ x,a=some x→W§≤x.block∧x.block < wr§)∧L.map f=ks.map f∧∀ x ∈ L,LX wr x∧BX (fun b=>W§≤b∧b < wr§) x:=by
 have hrow:=h.r.row
 obtain⟨a,c,e1,e2,e3⟩:=h.r.sl hn
 have hb:=h.b
 rw [List.take_length] at hb
 rw [List.length_map] at e1
 refine⟨a,c,e1,e2,fun x hx=>?_,hb,fun x hx=>⟨(h.y x hx).1,K.mono _ _ x (fun b hp=>⟨hp.1,hp.2.1⟩) (h.y x hx).2⟩⟩
 subst e1 hx
 rcases h.r.row.2 with ⟨h1,_⟩ | ⟨g,cap,cur,h1,_⟩
 ·cases h1
 ·simp only [Value.slice.injEq,Option.some.injEq] at h1
  obtain⟨rfl,-,-⟩:=h1
  exact⟨h.r.nb g rfl,h.r.row.lt g rfl⟩
def RuleB (P:Nat→Prop) (r:RuleM):Prop:=Bk P r.m∧(∀ x,r.a=some x→P x.block)∧∀ d ∈ r.ds,DoB P d
def StateB (P:Nat→Prop) (s:StateM):Prop:=(∀ x,s.a=some x→P x.block)∧∀ r ∈ s.rs,RuleB P r
def RegB (P:Nat→Prop) (r:RegM):Prop:=Bk P r.m
theorem RuleB.mono {P Q:Nat→Prop}(h:∀ b,P b→Q b) {r:RuleM}(k:RuleB P r):RuleB Q r:=⟨k.1.mono h,fun x e=>h _ (k.2.1 x e),fun d hd=>(k.2.2 d hd).mono h⟩
theorem StateB.mono {P Q:Nat→Prop}(h:∀ b,P b→Q b) {r:StateM}(k:StateB P r):StateB Q r:=⟨fun x e=>h _ (k.1 x e),fun d hd=>(k.2 d hd).mono h⟩
theorem RuleL.bk {P:Nat→Prop}{w w':yW}(k:∀ b,b < w§→P b→w'.heap[b]? = w.heap[b]?) {r:RuleM}(h:RuleL w r) (hb:RuleB P r):RuleL w' r :=
 ⟨h.1.bk k hb.1,h.2.1.bk k (mapz DoM.sz _) (by decide) hb.2.1,fun d hd=>(h.2.2.1 d hd).bk k (hb.2.2 d hd),h.2.2.2⟩
theorem StateL.bk {P:Nat→Prop}{w w':yW}(k:∀ b,b < w§→P b→w'.heap[b]? = w.heap[b]?) {r:StateM}(h:StateL w r) (hb:StateB P r):StateL w' r :=
 ⟨h.1.bk k (mapz RuleM.sz _) (by decide) hb.1,fun d hd=>(h.2.1 d hd).bk k (hb.2 d hd),h.2.2⟩
theorem kndDo:Knd DoM.vals DoL DoB bDo 36:=⟨DoM.sz,fun P Q x h k=>k.mono h,fun P w w' x k h hb=>h.bk k hb⟩
theorem kndRule:Knd RuleM.vals RuleL RuleB bRule 10:=⟨RuleM.sz,fun P Q x h k=>k.mono h,fun P w w' x k h hb=>h.bk k hb⟩
theorem kndState:Knd StateM.vals StateL StateB bState 3:=⟨StateM.sz,fun P Q x h k=>k.mono h,fun P w w' x k h hb=>h.bk k hb⟩
theorem kndReg:Knd RegM.vals RegL RegB bReg 11:=⟨RegM.sz,fun P Q x h k=>Bk.mono h k,fun P w w' x k h hb=>⟨h.1.bk k hb,h.2⟩⟩
theorem step_arr {W w0:yW}{ops:Array Oper}{o:Oper}{a:Act}{K:Act→yW→Prop}{Q:Exit→Act→yW→Prop}{E:Prop}(hgd:o.guard=none) (d x:Operand) (t e:TypeId) (n:Nat) (by_:Nat) (z:Value)
  (ho:o.op=.call { callee:=.builtin .append,args:=#[d,x],argTypes:=#[t,t] }) (hu:Tryz.prog.underlying t=some (.slice e)) (hi:(Tryz.prog.info? e).map (fun i=>(i.zero,i.size,i.bytes))=some (some z,n,by_)) (hz:z.cells.size=n) (hb:0 < n) (hn1:n≤100) (hby:by_≤1000)
  (y:Array Value) (hy:y.size=n) (hy1:∀ u ∈ y.toList,u.oneCell'=true) {v:Value}{L:List (Array Value)}(hR:RA W w0 e n v L) (hs:a.eval d=v) (hx:a.eval x=.slice (some w0§¢0) 1 1) (hlen:L.length≤1000000000)
  (h:∀ v' w',RA W w' e n v' (L ++ [y])→w0§≤w'§→(∀ b,b < w0§→v.ownBlock≠some b→w'.heap[b]? = w0.heap[b]?)→(v'.ownBlock=v.ownBlock∨∃ g,v'.ownBlock=some g∧w0§ < g)→K (a.put o.dst v') w') :
  if Region.wanted o (yielded ops a.tmps)=true then Oper.wp Tryz.prog o a (w0.alloc (.cells y e)) K Q else E:=by
 obtain⟨i0,hi0,hz0,hz1,hz2⟩:=info_parts hi
 refine step_append_lies _ hgd d x t ho 0 e i0 _ n by_ hu hi0 hz0 hz1 hz2 hz hb v L.length _ hs (hR.row.alloc _) w0§¢0 1 1 y.toList hx (by rw [Array.length_toList,hy,Nat.one_mul]) (World.news_of_block (heap_new w0 _)) hy1 (by decide) (by unfold maxLen; omega) (Nat.le_trans (Nat.mul_le_mul (show L.length+1≤1000000001 by omega) hby) (by decide)) (Nat.zero_le _) _ rfl ?_
 intro g cap w' h2 h3 h4 h5
 have hsz:=size_alloc w0 (.cells y e)
 have hB0:=hR.B.alloc hR.B.size (.cells y e)
 refine h _ w' ⟨?_,?_,hB0.grown h3 hB0.size (fun k hk=>hR.nb k hk),?_⟩ ?_ ?_ ?_
 ·have hr:=Row.snoc (x:=fun j=>y.getD j undef) h2 (by rw [Array.length_toList,hy]) (fun j hj=>by rw [Array.getElem?_toList,Array.getElem?_eq_getElem (by omega)]; simp [show j < y.size by omega])
  rw [List.length_append,List.length_singleton]
  refine hr.congr fun j hj=>?_
  by_cases hh:j < L.length * n
  ·simp only [hh,if_true]
   rw [arF_lt hb hh]
  ·simp only [hh,if_false]
   rw [arF_at hb (by omega) hj]
 ·intro k hk
  simp [Value.ownBlock] at hk
  subst hk
  rcases h4 with h4 | h4
  ·exact hR.nb _ h4
  ·have:=hR.B.size; omega
 ·intro q hq
  rcases List.mem_append.1 hq with hq | hq
  ·exact hR.sz q hq
  ·obtain rfl:=List.mem_singleton.1 hq; exact hy
 ·have:=h3.size; omega
 ·intro b hb' hne
  rw [h3.block b (by omega) (fun e=>hne e.symm)]
  exact Below.heap_alloc _ _ _ hb'
 ·rcases h4 with h4 | h4
  ·exact .inl h4.symm
  ·exact .inr ⟨g,rfl,by rw [h4,size_alloc]; omega⟩
theorem infR:(Tryz.prog.info? 92).map (fun i=>(i.zero,i.size,i.bytes))=some (some (.agg zd),10,104):=by kernel_rfl
theorem size68s:(Tryz.prog.info? 68).map (·.size)=some 3:=by kernel_rfl
theorem one36 (y:DoM):∀ u ∈ y.vals.toList,u.oneCell'=true:=by
 intro u hu
 have h:=all36 y.k y.o y.x y.sd y.qt y.pr y.vl y.p
 rw [← Array.all_toList] at h
 exact List.all_eq_true.1 h u hu
theorem one10 (y:RuleM):∀ u ∈ y.vals.toList,u.oneCell'=true:=by
 intro u hu
 have h:=all10' y
 rw [← Array.all_toList] at h
 exact List.all_eq_true.1 h u hu
def DoZ9 (d:DoM):Prop:=DoZ d∧size d.sd≤900000000∧size d.qt≤900000000∧size d.pr≤900000000∧size d.vl≤900000000
def RuleZ9 (r:RuleM):Prop:=size r.m≤900000000∧r.ds.length≤900000000∧∀ d ∈ r.ds,DoZ9 d
def StateZ9 (s:StateM):Prop:=s.rs.length≤900000000∧∀ r ∈ s.rs,RuleZ9 r
theorem copyState_any (s:StateM) (w:yW) (hl:StateL w s) (hz:StateZ9 s):Calls zG 50 #[.agg s.vals] w fun e w'=>∃ s',e=.returned (.agg s'.vals)∧StateL w' s'∧bState s'=bState s∧yD w w'∧StateB (fun b=>w§≤b∧b < w'§) s':=by
 obtain⟨x,a,c,rs,p⟩:=s
 obtain⟨W,eW⟩:∃ W,(w.alloc (.cells #[.string x,.slice a rs.length c,zI p] 68)).alloc (.cells zk 68)=W:=⟨_,rfl⟩
 have HBW:Hid (yD w W):=by show Below _ _ _; rw [← eW]; exact below_two _ _ _
 have HWS:Hid (W§=w§+2):=by show _=_; rw [← eW,size_alloc,size_alloc]
 have H0:Hid (W.heap[w§]? = (zC #[.string x,.slice a rs.length c,zI p] 68)):=by show _=_; rw [← eW]; exact heap_old (heap_new _ _) (by rw [size_alloc]; omega)
 have H1:Hid (W.heap[w§+1]? = (zC zk 68)):=by
  show _=_; rw [← eW,← size_alloc w (.cells #[.string x,.slice a rs.length c,zI p] 68)]; exact heap_new _ _
 have HSL:Hid (SlAt W 10 a c (rs.map RuleM.vals)):=hl.1.on (mapz RuleM.sz _) HBW.out
 have HRS:Hid (∀ r ∈ rs,RuleL W r∧RuleZ9 r):=fun r hr=>⟨(hl.2.1 r hr).on HBW.out,hz.2 r hr⟩
 have HN:Hid (rs.length≤900000000):=hz.1
 have HPX:Hid (I64 p∧SzX x):=hl.2.2
 clear hl hz
 show Calls zG 50 #[.agg #[.string x,.slice a rs.length c,zI p]] w _
 go_enter Tryz.func50,Tryz.ntmps50
 go_wp2_with fail
 clear eW
 go_loopw [3,4] (fun v t wr=>∃ (i:Nat) (L:List RuleM),i≤rs.length∧t=zI i∧Hid (Cpl RuleM.vals RuleL RuleB bRule 92 10 W wr v rs L i)) (fun _ t _=>rs.length - (intOf t).toNat)
 case atStart=>exact⟨0,[],by omega,rfl,Cpl.nil _ _ _ _ _ _ (Below.refl _ _) rs⟩
 case round =>
  obtain⟨i,L,hi,rfl,HT⟩:=hrel
  have HBR:Hid (yD W wr):=HT.out.r.B
  have HX0:Hid (wr.heap[w§]? = (zC #[.string x,.slice a rs.length c,zI p] 68)):=(HBR.out.block _ (zJ H0.out).1).trans H0.out
  have q1:wr.cell? w§¢1=some (.slice a rs.length c):=cell_of HX0.out 1
  by_cases hlt:i < rs.length
  ·have hlt':(i:Int) < (rs.length:Int):=by omega
   have hmx:(i:Int)+1≤9223372036854775807:=by have:=HN.out; omega
   obtain⟨b,o,ea,hat⟩:=(HSL.out.on (mapz RuleM.sz _) HBR.out).2.2 i (by rw [List.length_map]; exact hlt)
   simp only [List.getElem_map] at hat
   have HMEM:Hid (rs[i] ∈ rs):=List.getElem_mem hlt
   obtain⟨d,ed⟩:∃ d,rs[i]=d:=⟨_,rfl⟩
   have HED:Hid (rs[i]=d):=ed
   rw [ed] at hat HMEM
   have HRG:Hid (wr.rangeAt b (o+i * 10) d.vals.toList):=fun j v hv=>by
    have hj:j < 10:=(List.getElem?_eq_some_iff.1 hv).1
    rw [hat j hj,← hv]; simp
   have HZ:Hid ((wr.alloc (.cells zd 92)).heap[wr§]? = (zC zd 92)):=heap_new _ _
   have HBX:Hid (yD wr ((wr.alloc (.cells zd 92)).setRow wr§ d.vals)):=below_row (below_new _ _) (Nat.le_refl _) _
   have HNX:Hid (((wr.alloc (.cells zd 92)).setRow wr§ d.vals).heap[wr§]? = (zC d.vals 92)):=setRow_heap _ _ _ _ _ _ HZ.out
   subst ea
   clear hat ed
   go_upto_region 6 with (first | (refine wpList_load_mid rfl 92 (.tmp 18) rfl b (o+i * 10) rfl d.vals.toList _ HRG.out Tryz.underlying92 rfl (by show _=some 10; exact size106') ?_; rw [Array.toArray_toList]) | (refine wpList_store_row rfl 92 (.tmp 5) (.tmp 19) rfl wr§ d.vals rfl rfl 92 zd HZ.out size106' rfl (all10' d) ?_))
   generalize hWX:World.setRow _ _ _=WX
   rw [hWX] at HBX HNX
   clear hWX HZ HRG q1
   have HDL:Hid (RuleL WX d):=((HRS.out d HMEM.out).1.on HBR.out).on HBX.out
   have HDZ:Hid (RuleZ9 d):=(HRS.out d HMEM.out).2
   have HCX:Hid (Cpl RuleM.vals RuleL RuleB bRule 92 10 W WX u3 rs L i):=HT.out.call kndRule HBX.out
   go_upto_region 8 with fail
   have HNN:Hid (wr§ < WX§):=(zJ HNX.out).1
   obtain⟨N,eN⟩:∃ q,wr§=q:=⟨_,rfl⟩
   have HEN:Hid (wr§=N):=eN
   rw [eN] at HNX ⊢
   clear eN
   go_loopw [6,7] (fun v t wr2=>∃ (k:Nat) (D:List DoM),k≤d.ds.length∧t=zI k∧Hid (Cpl DoM.vals DoL DoB bDo 105 36 WX wr2 v d.ds D k)) (fun _ t _=>d.ds.length - (intOf t).toNat)
   case atStart=>exact⟨0,[],by omega,rfl,Cpl.nil _ _ _ _ _ _ (Below.refl _ _) d.ds⟩
   case round =>
    rename_i wr0 _ _ _ _
    obtain⟨k,D,hk,rfl,HTD⟩:=hrel
    have HBD:Hid (yD WX wr):=HTD.out.r.B
    have HNR:Hid (wr.heap[N]? = (zC d.vals 92)):=(HBD.out.block _ (zJ HNX.out).1).trans HNX.out
    have q8:wr.cell? N¢8=some (.slice d.a d.ds.length d.c):=cell_of HNR.out 8
    by_cases hltd:k < d.ds.length
    ·have hltd':(k:Int) < (d.ds.length:Int):=by omega
     have hmxd:(k:Int)+1≤9223372036854775807:=by have:=HDZ.out.2.1; omega
     obtain⟨b2,o2,ea2,hat2⟩:=(HDL.out.2.1.on (mapz DoM.sz _) HBD.out).2.2 k (by rw [List.length_map]; exact hltd)
     simp only [List.getElem_map] at hat2
     have HMD:Hid (d.ds[k] ∈ d.ds):=List.getElem_mem hltd
     obtain⟨y,ey⟩:∃ y,d.ds[k]=y:=⟨_,rfl⟩
     have HEY:Hid (d.ds[k]=y):=ey
     rw [ey] at hat2 HMD
     have HRY:Hid (wr.rangeAt b2 (o2+k * 36) y.vals.toList):=fun j v hv=>by
      have hj:j < 36:=(List.getElem?_eq_some_iff.1 hv).1
      rw [hat2 j hj,← hv]; simp
     rw [ea2] at q8
     have cD:=copyDo_any y wr ((HDL.out.2.2.1 y HMD.out).on HBD.out) (HDZ.out.2.2 y HMD.out)
     clear hat2 ey ea2
     go_wp2_with (refine wpList_load_mid rfl 105 (.tmp 31) rfl b2 (o2+k * 36) rfl y.vals.toList _ HRY.out Tryz.underlying105 rfl (by show _=some 36; exact size110') ?_; rw [Array.toArray_toList])
     refine cD.mono ?_
     rintro e w1 ⟨y',rfl,hy1,hy2,hb1,hy3⟩
     have HB1:Hid (yD wr w1):=hb1
     have HR1:Hid (RA WX w1 105 36 u6 (D.map DoM.vals)):=HTD.out.r.call hb1
     have HLn:Hid ((D.map DoM.vals).length≤1000000000):=by have h1:=HDZ.out.2.1; have h2:=HTD.out.l; show _≤_; rw [List.length_map]; omega
     have HK:Hid (DoL w1 y'∧bDo y'=bDo y∧DoB (fun b=>wr§≤b∧b < w1§) y'):=⟨hy1,hy2,hy3⟩
     have HY1:Hid (∀ u ∈ y'.vals.toList,u.oneCell'=true):=one36 y'
     clear hy1 hy2 hy3 hb1 cD q8
     go_wp2_with (first | (refine wpList_slice1 rfl 90 105 (.tmp 33) rfl y'.vals rfl 36 _ Tryz.underlying90 320 inf110 rfl rfl (by decide) (by decide) ?_) | (at_builtin; refine append_arr rfl (.tmp 27) (.tmp 34) 90 105 36 320 _ rfl Tryz.underlying90 inf110 rfl (by decide) (by decide) (by decide) y'.vals (DoM.sz y') HY1.out HR1.out rfl rfl HLn.out ?_; intro v1 w2 hr2 hs2 hq2 hz2; have HX:Hid (Cpl DoM.vals DoL DoB bDo 105 36 WX w2 v1 d.ds (D ++ [y']) (k+1)):=HTD.out.snoc kndDo hltd HB1.out HK.out.1 (by rw [HEY.out]; exact HK.out.2.1) HK.out.2.2 hr2 hs2 hq2 hz2; clear hr2 hs2 hq2 hz2))
     exact⟨⟨k+1,D ++ [y'],hltd,rfl,HX⟩,by simp only [intOf]; omega⟩
    ·obtain rfl:k=d.ds.length:=by omega
     have hnotd:¬ (d.ds.length:Int) < (d.ds.length:Int):=by omega
     go_upto_region 11 with fail
     obtain⟨a3,c3,e3,hd1,hd2,hd3,hd4⟩:=HTD.out.all kndDo (by decide)
     have HDD:Hid (SlAt wr 36 a3 c3 (D.map DoM.vals)∧(∀ x,a3=some x→WX§≤x.block∧x.block < wr§)∧D.map bDo=d.ds.map bDo∧∀ x ∈ D,DoL wr x∧DoB (fun b=>WX§≤b∧b < wr§) x):=⟨hd1,hd2,hd3,hd4⟩
     clear hd1 hd2 hd3 hd4
     subst e3
     have HCW:Hid (Cpl RuleM.vals RuleL RuleB bRule 92 10 W wr u3 rs L i):=HCX.out.call kndRule HBD.out
     have hb4:yD wr wr.drew:=⟨rfl,rfl,rfl,Nat.le_refl _,fun _ _=>rfl⟩
     have HB4:Hid (yD wr wr.drew):=hb4
     have cN:Calls zG 49 #[.agg #[zU d.m.h.k,zU d.m.h.o,zU d.m.h.t,zI d.m.h.n,zU d.m.h.f,.string d.m.h.x,.slice d.m.a d.m.ks.length d.m.c,zI d.m.h.p]] wr.drew (Copied d.m wr.drew):=copy_any d.m wr.drew ((HDL.out.1.on HBD.out).on hb4) HDZ.out.1
     clear hb4 q8
     refine (?_:∀ Q',Hid (Q'=_)→Code.wp _ _ Q' _ _) _ rfl
     intro Q' HQ'
     have HPn:Hid (∀ p (d:Nat) v a w,Q' (.panic p) (Act.put a (some d) v) w→Q' (.panic p) a w):=by rw [HQ'.out]; exact fun _ _ _ _ _ h=>h
     refine wp_region_held_drew (S:=fun v=>v.heap[N]? = (zC d.vals 92)) zK HNR.out (fun hHeld=>?_)
     refine wpAnyH_take (i:=0) (v:=?_) rfl zK zK zK (fun c a w h=>HPn.out c _ _ a w h) (Or.inl ⟨by rfl,?_⟩) (by assumption) ?_
     rotate_left
     ·(intro v hv; go_simp; try (with_reducible rfl))
     try simp [Act.put]
     refine wpAnyH_take (i:=1) (v:=?_) rfl zK zK zK (fun c a w h=>HPn.out c _ _ a w h) (Or.inl ⟨by rfl,?_⟩) (by assumption) ?_
     rotate_left
     ·(intro v hv; go_simp; try (with_reducible rfl))
     try simp [Act.put]
     refine wpAnyH_take (i:=2) (v:=?_) rfl zK zK zK (fun c a w h=>HPn.out c _ _ a w h) (Or.inl ⟨by rfl,?_⟩) (by assumption) ?_
     rotate_left
     ·(intro v hv; have g:=hv; have t0:v.cell? N¢0=some (zU d.m.h.k):=cell_of g 0; have t1:v.cell? N¢1=some (zU d.m.h.o):=cell_of g 1; have t2:v.cell? N¢2=some (zU d.m.h.t):=cell_of g 2; have t3:v.cell? N¢3=some (zI d.m.h.n):=cell_of g 3; have t4:v.cell? N¢4=some (zU d.m.h.f):=cell_of g 4; have t5:v.cell? N¢5=some (.string d.m.h.x):=cell_of g 5; have t6:v.cell? N¢6=some (.slice d.m.a d.m.ks.length d.m.c):=cell_of g 6; have t7:v.cell? N¢7=some (zI d.m.h.p):=cell_of g 7; clear g; go_simp; try (with_reducible rfl))
     try simp [Act.put]
     refine wpAnyH_take (i:=4) (v:=?_) rfl zK zK zK (fun c a w h=>HPn.out c _ _ a w h) (Or.inl ⟨by rfl,?_⟩) (by assumption) ?_
     rotate_left
     ·(intro v hv; go_simp; try (with_reducible rfl))
     try simp [Act.put]
     refine wpAnyH_take (i:=5) (v:=?_) rfl zK zK zK (fun c a w h=>HPn.out c _ _ a w h) (Or.inl ⟨by rfl,?_⟩) (by assumption) ?_
     rotate_left
     ·(intro v hv; go_simp; try (with_reducible rfl))
     try simp [Act.put]
     refine wpAnyH_take (i:=6) (v:=?_) rfl zK zK zK (fun c a w h=>HPn.out c _ _ a w h) (Or.inl ⟨by rfl,?_⟩) (by assumption) ?_
     rotate_left
     ·(intro v hv; have g:=hv; have t9:v.cell? N¢9=some (zI d.p):=cell_of g 9; clear g; go_simp; try (with_reducible rfl))
     try simp [Act.put]
     refine wpAnyH_ready (rs:=[3]) zK (by simp) ?_
     refine AllReadyH.cons rfl (fun K hK=>?_) AllReadyH.nil
     go_simp
     refine cN.mono ?_
     rintro e w1 ⟨m',rfl,hm1,hm2,hm3,hm4,hb1⟩
     have HB1:Hid (yD wr w1):=below2 HB4.out hb1
     have HM1:Hid (Lies w1 m'∧Twin d.m m'∧Bk (fun b=>wr§≤b∧b < w1§) m'):=⟨hm1,hm2,hm3.bk⟩
     refine hK.out _ _ ((HB1.out.block _ (zJ HNR.out).1).trans HNR.out) (fun hHeld=>?_)
     clear hK K hm1 hm2 hm3 hm4 hb1 cN
     try simp [Act.put]
     unfold Nd.vals hdA
     refine wpAnyH_take (i:=7) (v:=?_) rfl zK zK zK (fun c a w h=>HPn.out c _ _ a w h) (Or.inl ⟨by rfl,?_⟩) (by assumption) ?_
     rotate_left
     ·(intro v hv; go_simp; try (with_reducible rfl))
     try simp [Act.put]
     refine wpAnyH_ready (rs:=[8]) zK (by simp) ?_
     refine AllReadyH.cons rfl (fun K hK=>?_) AllReadyH.nil
     go_simp
     refine hK.out _ _ (heap_old ((HB1.out.block _ (zJ HNR.out).1).trans HNR.out) (Nat.lt_of_lt_of_le (zJ HNR.out).1 HB1.out.size)) (fun hHeld=>?_)
     clear hK K
     try simp [Act.put]
     refine wpAnyH_ready (rs:=[9]) zK (by simp) ?_
     refine AllReadyH.cons rfl (fun K hK=>?_) AllReadyH.nil
     have HRR:Hid (RA W w1 92 10 u3 (L.map RuleM.vals)):=(HCW.out.call kndRule HB1.out).r
     have HLR:Hid ((L.map RuleM.vals).length≤1000000000):=by have h1:=HN.out; have h2:=HCW.out.l; show _≤_; rw [List.length_map]; omega
     have HYR:Hid (∀ u ∈ (RuleM.mk m' a3 c3 D d.p).vals.toList,u.oneCell'=true):=one10 _
     refine step_arr rfl (.tmp 36) (.tmp 44) 66 92 10 104 _ rfl Tryz.underlying66 infR rfl (by decide) (by decide) (by decide) (RuleM.mk m' a3 c3 D d.p).vals (RuleM.sz _) HYR.out HRR.out rfl rfl HLR.out ?_
     intro v1 w2 hr2 hs2 hq2 hz2
     have HWX:Hid (yD WX w1):=below2 HBD.out HB1.out
     have HX:Hid (Cpl RuleM.vals RuleL RuleB bRule 92 10 W w2 v1 rs (L ++ [RuleM.mk m' a3 c3 D d.p]) (i+1)):=by
      refine HCX.out.snoc kndRule hlt HWX.out ⟨HM1.out.1,HDD.out.1.on (mapz DoM.sz _) HB1.out,fun q hq=>(HDD.out.2.2.2 q hq).1.on HB1.out,HDL.out.2.2.2⟩ ?_ ⟨HM1.out.2.2.mono fun b hb=>⟨Nat.le_trans HBD.out.size hb.1,hb.2⟩,fun q hq=>⟨(HDD.out.2.1 q hq).1,Nat.lt_of_lt_of_le (HDD.out.2.1 q hq).2 HB1.out.size⟩,fun q hq=>(HDD.out.2.2.2 q hq).2.mono fun b hb=>⟨hb.1,Nat.lt_of_lt_of_le hb.2 HB1.out.size⟩⟩ hr2 hs2 hq2 hz2
      rw [HED.out]
      unfold bRule
      simp only [twin_bare HM1.out.2.1,HDD.out.2.2.1]
     have HS2:Hid (w2.heap[N]? = (zC d.vals 92)):=(hq2 N (Nat.lt_of_lt_of_le (zJ HNR.out).1 HB1.out.size) (fun e=>by have h1:=HT.out.r.row.lt N e; have h2:=HEN.out; omega)).trans ((HB1.out.block _ (zJ HNR.out).1).trans HNR.out)
     clear hr2 hs2 hq2 hz2
     refine hK.out _ _ HS2.out (fun hHeld=>?_)
     clear hK K
     try simp [Act.put]
     refine wpAnyH_take (i:=10) (v:=?_) rfl zK zK zK (fun c a w h=>HPn.out c _ _ a w h) (Or.inl ⟨by rfl,?_⟩) (by assumption) ?_
     rotate_left
     ·(intro v hv; go_simp; try (with_reducible rfl))
     try simp [Act.put]
     refine wpAnyH_done zK ?_ _
     rw [HQ'.out]
     clear HQ' HPn Q'
     go_wp2_with fail
     exact⟨⟨i+1,L ++ [RuleM.mk m' a3 c3 D d.p],hlt,rfl,HX⟩,by simp only [intOf]; omega⟩
  ·obtain rfl:i=rs.length:=by omega
   have hnot:¬ (rs.length:Int) < (rs.length:Int):=by omega
   obtain⟨a',c',e',hl1,hl2,hl3,hl4⟩:=HT.out.all kndRule (by decide)
   subst e'
   have HX1:Hid (wr.heap[w§+1]? = (zC zk 68)):=(HBR.out.block _ (zJ H1.out).1).trans H1.out
   obtain⟨R,eR⟩:∃ R,(StateM.mk x a' c' L p).vals=R:=⟨_,rfl⟩
   have HR:Hid ((StateM.mk x a' c' L p).vals=R):=eR
   have HRz:Hid ((zk:Array Value).size=R.size):=by show _=_; rw [← eR]; rfl
   have HRa:Hid (R.all (·.oneCell')=true):=by show _=_; rw [← eR]; simp [StateM.vals,Value.oneCell']
   have HSZ:Hid ((Tryz.prog.info? 68).map (·.size)=some R.size):=by show _=_; rw [← eR]; exact size68s
   obtain⟨U,eU⟩:∃ U,wr.setCell w§¢1 (.slice a' L.length c')=U:=⟨_,rfl⟩
   have HEU:Hid (wr.setCell w§¢1 (.slice a' L.length c')=U):=eU
   have HU0:Hid (U.heap[w§]? = (zC R 68)):=by show _=_; rw [← eU,← eR]; exact heap_set _ HX0.out
   have HU1:Hid (U.heap[w§+1]? = (zC zk 68)):=by show _=_; rw [← eU]; exact (Below.heap_setCell _ _ _ _ (by show w§+1≠w§; omega)).trans HX1.out
   have f1:wr.frozen? w§¢1=false:=frozen_of HX0.out 1
   have HBU:Hid (yD w U):=by
    show Below _ _ _
    rw [← eU]; exact (below2 HBW.out (HBR.out.mono (by have:=HWS.out; omega))).setCell (p:=w§¢1) (Nat.le_refl _) _
   have HUs:Hid (U§=wr§):=by show _=_; rw [← eU]; simp [World.setCell]
   have HSU:Hid (StateL (U.setRow (w§+1) R) ⟨x,a',c',L,p⟩∧StateB (fun b=>w§≤b∧b < (U.setRow (w§+1) R)§) ⟨x,a',c',L,p⟩):=by
    have hk:∀ b,b < wr§→(W§≤b∧b < wr§)→(U.setRow (w§+1) R).heap[b]? = wr.heap[b]?:=fun b _ hp=>by
     have hw:=HWS.out
     rw [setRow_oth _ _ _ (by omega),← eU]
     exact Below.heap_setCell _ _ _ _ (by show b≠w§; omega)
    have hBB:StateB (fun b=>W§≤b∧b < wr§) ⟨x,a',c',L,p⟩:=⟨hl2,fun r hr=>(hl4 r hr).2⟩
    refine⟨StateL.bk hk ⟨hl1,fun r hr=>(hl4 r hr).1,HPX.out⟩ hBB,hBB.mono fun b hb=>?_⟩
    have hw:=HWS.out
    rw [sz_row,HUs.out]
    omega
   have HLL:Hid (L.map bRule=rs.map bRule):=hl3
   have HF:Hid ((U.setRow (w§+1) R).heap[w§+1]? = (zC R 68)∧yD w (U.setRow (w§+1) R)):=⟨setRow_heap _ _ _ _ _ _ HU1.out,below_row HBU.out (by omega) _⟩
   clear hl1 hl2 hl3 hl4 eU eR
   go_upto_region 13 with fail
   rw [HEU.out]
   go_wp2_with (first | (refine wpList_load_row rfl 68 _ rfl w§ rfl 68 R (0,0) _ HU0.out Tryz.underlying68 rfl HSZ.out ?_) | (refine wpList_store_row rfl 68 _ _ rfl (w§+1) R rfl rfl 68 zk HU1.out HSZ.out HRz.out HRa.out ?_) | (refine wpList_store_row rfl 68 _ _ rfl (w§+1) R rfl rfl 68 zk HU1.out size68s HRz.out HRa.out ?_))
   exact bodyPost_ret (results_cell_row rfl _ _ (w§+1) 68 R (0,0) _ rfl HF.out.1 Tryz.underlying68 rfl HSZ.out) rfl ⟨⟨x,a',c',L,p⟩,by rw [show (StateM.mk x a' c' L p).vals=R from HR.out],HSU.out.1,by simp only [bState,HLL.out],HF.out.2,HSU.out.2⟩
open Go
section
variable {P : Program} {ops : Array Oper} {Q : Exit → Act → yW → Prop} {md : Region.Mode} {S : yW → Prop} {t : Nat}
def wpAnyT (P:Program) (md:Region.Mode) (ops:Array Oper) (Q:Exit→Act→yW→Prop) (S:yW→Prop) (t:Nat):Nat→Array Bool→Act→yW→Prop
 | 0,listed,a,w=>Region.ready md ops listed = []∧Q .normal a w
 | fuel+1,listed,a,w =>
  (Region.ready md ops listed = []→Q .normal a w) ∧
  ∀ i ∈ Region.ready md ops listed,wpOp P ops Q i (fun a' w'=>(i≠t→S w')∧wpAnyT P md ops Q S t fuel (listed.setIfInBounds i true) a' w') a w
theorem wpAny_of_T:∀ (fuel:Nat) (listed:Array Bool) (a:Act) (w:yW),wpAnyT P md ops Q S t fuel listed a w→wpAny P md ops Q fuel listed a w
 | 0,_,_,_,h=>h
 | fuel+1,_,_,_,h=>⟨h.1,fun i hi=>wpOp_mono (fun a' w' h'=>wpAny_of_T fuel _ a' w' h'.2) (h.2 i hi)⟩
def waits (md:Region.Mode) (ops:Array Oper) (t i:Nat):Bool:=match ops[t]? with
 | some o=>o.after.toList.any (fun e=>Region.binds md e && e.on == i)
 | none=>false
theorem wpAnyT_first {i:Nat}{oi:Oper}{v:Value}(hi:ops[i]? = some oi) (hsel:∀ (j:Nat) (o:Oper) cs b,ops[j]? = some o→o.op≠.select cs b)
  (hQ:∀ c a w,Q (.panic c) (a.put oi.dst v) w→Q (.panic c) a w) (hw:waits md ops t i=true) :
  ∀ (fuel:Nat) (listed:Array Bool) (a:Act) (w:yW),
   (∀ j oj,ops[j]? = some oj→j≠i→listed.getD j true=false→(∀ e ∈ oj.after,Region.binds md e=true→e.on≠i)→oi.apart ops oj=true) →
   i ∈ Region.ready md ops listed→YieldsIf P ops S oi v a→S w →
   wpAnyT P md ops Q S t fuel (listed.setIfInBounds i true) (a.put oi.dst v) w→wpAnyT P md ops Q S t (fuel+1) listed a w:=by
 intro fuel
 induction fuel with
 | zero =>
  intro listed a w _ hr hy hS H
  refine⟨fun h=>(by rw [h] at hr; cases hr),fun j hj=>?_⟩
  by_cases hji:j=i
  ·subst hji; exact hy.wpOp hi hS ⟨fun _=>hS,H⟩
  ·have:=ready_mono hj hji
   rw [H.1] at this
   cases this
 | succ fuel ih =>
  intro listed a w hfree hr hy hS H
  refine⟨fun h=>(by rw [h] at hr; cases hr),fun j hj=>?_⟩
  by_cases hji:j=i
  ·subst hji; exact hy.wpOp hi hS ⟨fun _=>hS,H⟩
  ·have h1:=H.2 j (ready_mono hj hji)
   obtain⟨hjun,oj,hoj,hall⟩:=mem_ready.1 hj
   have hnot:∀ e ∈ oj.after,Region.binds md e=true→e.on≠i:=fun e he hb heq=>by
    have h1:=hall e he hb
    have h0:=(mem_ready.1 hr).1
    rw [heq] at h1
    rcases Nat.lt_or_ge i listed.size with h' | h'
    ·simp [h'] at h0 h1; rw [h0] at h1; cases h1
    ·simp [Array.getElem?_eq_none h'] at h1
   have hjt:j≠t:=by
    rintro rfl
    unfold waits at hw
    rw [hoj] at hw
    simp only [List.any_eq_true,Bool.and_eq_true,beq_iff_eq] at hw
    obtain⟨e,he,hb,ho⟩:=hw
    exact hnot e (Array.mem_toList_iff.1 he) hb ho
   have h2:=wpOp_putIf hoj (hfree j oj hoj hji hjun hnot) (fun cs b=>hsel i oi cs b hi) (fun cs b=>hsel j oj cs b hoj) hQ hy h1
   have hfree':∀ k ok,ops[k]? = some ok→k≠i→(listed.setIfInBounds j true).getD k true=false →
     (∀ e ∈ ok.after,Region.binds md e=true→e.on≠i)→oi.apart ops ok=true:=fun k ok hk hki hun hno=>by
    refine hfree k ok hk hki ?_ hno
    by_cases hjk:j=k
    ·subst hjk; exact hjun
    ·rw [getD_set_ne true hjk] at hun; exact hun
   refine wpOp_mono (fun a' w' h3=>⟨fun _=>h3.2.1 hjt,ih (listed.setIfInBounds j true) a' w' hfree' (ready_mono hr (Ne.symm hji)) h3.1 (h3.2.1 hjt) ?_⟩) h2
   rw [Array.setIfInBounds_comm _ _ hji]
   exact h3.2.2
theorem wpAnyT_take {i:Nat}{oi:Oper}{v:Value}{fuel:Nat}{listed:Array Bool}{a:Act}{w:yW}(hi:ops[i]? = some oi)
  (hs:Region.noSelect ops=true) (hf:Region.free md ops listed i=true) (hr:(Region.ready md ops listed).contains i=true) (hw:waits md ops t i=true)
  (hQ:∀ c a w,Q (.panic c) (a.put oi.dst v) w→Q (.panic c) a w) (hy:YieldsIf P ops S oi v a) (hS:S w)
  (h:wpAnyT P md ops Q S t fuel (listed.setIfInBounds i true) (a.put oi.dst v) w):wpAnyT P md ops Q S t (fuel+1) listed a w :=
 wpAnyT_first hi (Region.noSelect_spec hs) hQ hw fuel listed a w (Region.free_spec hi hf) (by simpa using hr) hy hS h
theorem wpAnyT_done {listed:Array Bool}{a:Act}{w:yW}(hr:Region.ready md ops listed = []) (h:Q .normal a w) :
  ∀ fuel,wpAnyT P md ops Q S t fuel listed a w
 | 0=>⟨hr,h⟩
 | _+1=>⟨fun _=>h,by rw [hr]; simp⟩
theorem wpAnyT_one {i:Nat}{o:Oper}{fuel:Nat}{listed:Array Bool}{a:Act}{w:yW}(hr:Region.ready md ops listed = [i]) (ho:ops[i]? = some o)
  (h:∀ K':Act→yW→Prop,Shut (∀ a w,(i≠t→S w)→wpAnyT P md ops Q S t fuel (listed.setIfInBounds i true) a w→K' a w)→if Region.wanted o (yielded ops a.tmps)=true then Oper.wp P o a w K' Q else K' (a.put o.dst undef) w) :
  wpAnyT P md ops Q S t (fuel+1) listed a w :=
 ⟨fun h0=>absurd (hr ▸ h0) (by simp),fun j hj=>by
  rw [hr] at hj
  obtain rfl:=List.mem_singleton.1 hj
  exact wpOp_step ho (fun K' hK=>h K' (fun a w hS hW=>hK a w ⟨hS,hW⟩))⟩
theorem wp_region_T {id:Nat}{a:Act}{w:yW}(hm:P.follows .mixedOrders=true) (hS:S w.drew)
  (h:S w.drew→wpAnyT P .any ops Q S t ops.size (Array.replicate ops.size false) a w.drew):(Code.region id ops true).wp P Q a w :=
 wp_region_any hm (wpAny_of_T _ _ _ _ (h hS))
end
end Go.Proofs.YtoogodlnnijikaaGreatDoor
