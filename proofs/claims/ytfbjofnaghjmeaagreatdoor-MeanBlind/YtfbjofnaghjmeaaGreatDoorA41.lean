import Derived.Test.YtfbjofnaghjmeaaGreatDoorA0
import Derived.Test.YtfbjofnaghjmeaaGreatDoorA2
import Derived.Deep.Slices
import Derived.ProofKit
import Derived.OpenShut
import Derived.ChangeArms
import Derived.SizedLaws
import Derived.Test.YtfbjofnaghjmeaaGreatDoorA10
import Derived.Test.YtfbjofnaghjmeaaGreatDoorA33
namespace Go.Proofs.YtfbjofnaghjmeaaGreatDoor
set_option maxRecDepth 100000
open Go.ChangeShapes Go.WideShapes Go.ChangeAt Go.RowKit
theorem mem_all {H:Type}{P:Program}{e:TypeId}:∀ {l:List (DataW H)}{j:Nat}{d:DataW H},l[j]? = some d→∀ n ∈ d.weights P e,n ∈ DataW.weightsAll P e l
 | d0 :: l,0,d,hd,n,hn=>by
  simp only [List.getElem?_cons_zero,Option.some.injEq] at hd
  subst hd
  simp only [DataW.weightsAll,List.mem_append]
  exact Or.inl hn
 | d0 :: l,j+1,d,hd,n,hn=>by
  simp only [List.getElem?_cons_succ] at hd
  simp only [DataW.weightsAll,List.mem_append]
  exact Or.inr (mem_all hd n hn)
 | [],_,_,hd,_,_=>by simp at hd
theorem nd_open {H:Type}{enc:TypeId × Value→H}{W:yW}{held:Bool}:∀ (fuel:Nat) (cs:List Value) (x:DataW H × List MemPlace),DataW.trod enc Tryz.prog W 0 (fun _=>true) held fuel 38 cs=some x →
  (∀ z ∈ x.1.weights Tryz.prog 38,z≤reachBytes)→∃ m:Nd,cs=m.vals.toList∧Lies W m:=by
 intro fuel
 induction fuel using Nat.strongRecOn with
 | _ fuel ih =>
 intro cs x h hz
 obtain⟨xs,k,hk,hx,hlen,hxl,hf⟩:=DataW.trod_struct Tryz.underlying38 h
 rw [show Tryz.prog.cellsOf 38=8 by kernel_rfl] at hlen
 match cs,hlen with
 | [v0,v1,v2,v3,v4,v5,v6,v7],_ =>
  have hx8:xs.length=8:=hxl
  match xs,hx8 with
  | [y0,y1,y2,y3,y4,y5,y6,y7],_ =>
   have g0:DataW.trod enc Tryz.prog W 0 (fun _=>true) held k 32 (([v0,v1,v2,v3,v4,v5,v6,v7].drop 0).take (Tryz.prog.cellsOf 32))=some y0:=hf 0 _ rfl
   have g1:DataW.trod enc Tryz.prog W 0 (fun _=>true) held k 33 (([v0,v1,v2,v3,v4,v5,v6,v7].drop 1).take (Tryz.prog.cellsOf 33))=some y1:=hf 1 _ rfl
   have g2:DataW.trod enc Tryz.prog W 0 (fun _=>true) held k 34 (([v0,v1,v2,v3,v4,v5,v6,v7].drop 2).take (Tryz.prog.cellsOf 34))=some y2:=hf 2 _ rfl
   have g3:DataW.trod enc Tryz.prog W 0 (fun _=>true) held k 2 (([v0,v1,v2,v3,v4,v5,v6,v7].drop 3).take (Tryz.prog.cellsOf 2))=some y3:=hf 3 _ rfl
   have g4:DataW.trod enc Tryz.prog W 0 (fun _=>true) held k 35 (([v0,v1,v2,v3,v4,v5,v6,v7].drop 4).take (Tryz.prog.cellsOf 35))=some y4:=hf 4 _ rfl
   have g5:DataW.trod enc Tryz.prog W 0 (fun _=>true) held k 9 (([v0,v1,v2,v3,v4,v5,v6,v7].drop 5).take (Tryz.prog.cellsOf 9))=some y5:=hf 5 _ rfl
   have g6:DataW.trod enc Tryz.prog W 0 (fun _=>true) held k 36 (([v0,v1,v2,v3,v4,v5,v6,v7].drop 6).take (Tryz.prog.cellsOf 36))=some y6:=hf 6 _ rfl
   have g7:DataW.trod enc Tryz.prog W 0 (fun _=>true) held k 3 (([v0,v1,v2,v3,v4,v5,v6,v7].drop 7).take (Tryz.prog.cellsOf 3))=some y7:=hf 7 _ rfl
   rw [show Tryz.prog.cellsOf 32=1 by kernel_rfl] at g0
   rw [show Tryz.prog.cellsOf 33=1 by kernel_rfl] at g1
   rw [show Tryz.prog.cellsOf 34=1 by kernel_rfl] at g2
   rw [show Tryz.prog.cellsOf 2=1 by kernel_rfl] at g3
   rw [show Tryz.prog.cellsOf 35=1 by kernel_rfl] at g4
   rw [show Tryz.prog.cellsOf 9=1 by kernel_rfl] at g5
   rw [show Tryz.prog.cellsOf 36=1 by kernel_rfl] at g6
   rw [show Tryz.prog.cellsOf 3=1 by kernel_rfl] at g7
   obtain⟨n0,e0,_,w0⟩:=DataW.trod_int (show Tryz.prog.underlying 32=some (.int .u8) by kernel_rfl) (show DataW.trod enc Tryz.prog W 0 (fun _=>true) held k 32 [v0]=some y0 from g0)
   obtain⟨n1,e1,_,w1⟩:=DataW.trod_int (show Tryz.prog.underlying 33=some (.int .u8) by kernel_rfl) (show DataW.trod enc Tryz.prog W 0 (fun _=>true) held k 33 [v1]=some y1 from g1)
   obtain⟨n2,e2,_,w2⟩:=DataW.trod_int (show Tryz.prog.underlying 34=some (.int .u8) by kernel_rfl) (show DataW.trod enc Tryz.prog W 0 (fun _=>true) held k 34 [v2]=some y2 from g2)
   obtain⟨n3,e3,_,w3⟩:=DataW.trod_int (show Tryz.prog.underlying 2=some (.int .i64) by kernel_rfl) (show DataW.trod enc Tryz.prog W 0 (fun _=>true) held k 2 [v3]=some y3 from g3)
   obtain⟨n4,e4,_,w4⟩:=DataW.trod_int (show Tryz.prog.underlying 35=some (.int .u8) by kernel_rfl) (show DataW.trod enc Tryz.prog W 0 (fun _=>true) held k 35 [v4]=some y4 from g4)
   obtain⟨n5,e5,d5,w5⟩:=DataW.trod_string (show Tryz.prog.underlying 9=some .string by kernel_rfl) (show DataW.trod enc Tryz.prog W 0 (fun _=>true) held k 9 [v5]=some y5 from g5)
   obtain⟨n7,e7,_,w7⟩:=DataW.trod_int (show Tryz.prog.underlying 3=some (.int .i64) by kernel_rfl) (show DataW.trod enc Tryz.prog W 0 (fun _=>true) held k 3 [v7]=some y7 from g7)
   cases e0; cases e1; cases e2; cases e3; cases e4; cases e5; cases e7
   have hz':∀ (j:Nat) (t:TypeId) (d:DataW H),[32,33,34,2,35,9,36,3][j]? = some t→([y0,y1,y2,y3,y4,y5,y6,y7].map (·.1))[j]? = some d→∀ z ∈ d.weights Tryz.prog t,z≤reachBytes:=by
    intro j t d h1 h2 z hz1
    refine hz z ?_
    rw [hx]
    have:=DataW.weights_mem_each (P:=Tryz.prog) h1 h2 z hz1
    rw [show (DataW.weights Tryz.prog 38 (.agg ([y0,y1,y2,y3,y4,y5,y6,y7].map (·.1)):DataW H))=DataW.weightsEach Tryz.prog [32,33,34,2,35,9,36,3] ([y0,y1,y2,y3,y4,y5,y6,y7].map (·.1)) by
     rw [DataW.weights,Tryz.underlying38]; rfl]
    exact this
   have hr:Rg ⟨n0,n1,n2,n3,n4,n5,n7⟩:=by
    refine⟨(bounds_u8 w0).1,(bounds_u8 w0).2,(bounds_u8 w1).1,(bounds_u8 w1).2,(bounds_u8 w2).1,(bounds_u8 w2).2,(bounds_i64 w3).1,(bounds_i64 w3).2,(bounds_u8 w4).1,(bounds_u8 w4).2,(bounds_i64 w7).1,(bounds_i64 w7).2,?_⟩
    have:=hz' 5 9 y5.1 rfl rfl n5.size (by rw [d5]; simp [DataW.weights])
    have h2:reachBytes≤140737488355328:=by decide
    exact Nat.le_trans this h2
   rcases DataW.trod_slice Tryz.underlying36 (show DataW.trod enc Tryz.prog W 0 (fun _=>true) held k 36 [v6]=some y6 from g6) with ⟨hcs,_⟩ | ⟨a,len,cap,elems,rest,n,hn,hcs,hx6,hb,hl,hm,hlen',hel,hsp,hns⟩
   ·cases hcs
    exact⟨.mk ⟨n0,n1,n2,n3,n4,n5,n7⟩ none 0 [],rfl,.mk _ _ _ _ hr (Nat.le_refl _) (by decide) (fun i hi=>by simp at hi) (fun k hk=>by cases hk)⟩
   ·cases hcs
    have each:∀ i,i < len→∃ q:Nd,(∀ j,j < 8→W.cell? (a.add (i * 8+j))=q.vals.toList[j]?)∧Lies W q:=by
     intro i hi
     have h1:=hel i hi
     rw [show Tryz.prog.cellsOf 38=8 by kernel_rfl] at h1
     have h2:elems[i]? = some elems[i]:=List.getElem?_eq_getElem (by omega)
     rw [h2] at h1
     obtain⟨cs',h3,h4⟩:=Option.bind_eq_some_iff.1 h1
     obtain⟨q,hq,hlq⟩:=ih n (by omega) cs' elems[i] h4 (fun z hz1=>hz' 6 36 y6.1 rfl rfl z (by
      rw [hx6,DataW.weights,Tryz.underlying36]
      refine List.mem_cons_of_mem _ (List.mem_append_left _ ?_)
      exact mem_all (j:=i) (by simp [h2]) z hz1))
     obtain⟨_,hlen,hcell⟩:=World.cells?_some h3
     refine⟨q,fun j hj=>?_,hlq⟩
     have e0:=hcell j (by omega)
     rw [Go.Deep.add_add] at e0
     rw [e0,hq]
    have:Inhabited Nd:=⟨.mk ⟨0,0,0,0,0,⟨#[]⟩,0⟩ none 0 []⟩
    obtain⟨A,hA⟩:=Go.Deep.choose_lt each
    refine⟨.mk ⟨n0,n1,n2,n3,n4,n5,n7⟩ (some a) cap ((List.range len).map A),by simp [Nd.vals,hdA,Nd.h,Nd.a,Nd.ks,Nd.c],.mk _ _ _ _ hr (by simpa using hl) (by unfold maxLen at hm; omega) (fun i hi=>?_) (fun k hk=>?_)⟩
    ·have hi':i < len:=by simpa using hi
     have g:=(hA i hi').1
     have hc0:=(hA 0 (by omega)).1 0 (by omega)
     obtain⟨b,off,spot⟩:=a
     have hspot:spot=none:=by simpa [Addr.add] using World.cell?_spot hc0
     subst hspot
     refine⟨b,off,rfl,?_⟩
     rw [List.getElem_map,List.getElem_range]
     refine⟨?_,?_,?_,?_,?_,?_,?_,?_⟩
     ·have:=g 0 (by omega); rw [Addr.add_lit] at this; exact this
     ·have:=g 1 (by omega); rw [Addr.add_lit,← Nat.add_assoc] at this; exact this
     ·have:=g 2 (by omega); rw [Addr.add_lit,← Nat.add_assoc] at this; exact this
     ·have:=g 3 (by omega); rw [Addr.add_lit,← Nat.add_assoc] at this; exact this
     ·have:=g 4 (by omega); rw [Addr.add_lit,← Nat.add_assoc] at this; exact this
     ·have:=g 5 (by omega); rw [Addr.add_lit,← Nat.add_assoc] at this; exact this
     ·have:=g 6 (by omega); rw [Addr.add_lit,← Nat.add_assoc] at this; exact this
     ·have:=g 7 (by omega); rw [Addr.add_lit,← Nat.add_assoc] at this; exact this
    ·obtain⟨i,hi,rfl⟩:=List.mem_map.1 hk
     exact (hA i (List.mem_range.1 hi)).2
set_option linter.unusedVariables false
def Opens (H:Type) (enc:TypeId × Value→H) (W:yW) (held:Bool) (t:TypeId) (α:Type) (vals:α→Array Value) (L:α→Prop):Prop :=
 ∀ (fuel:Nat) (cs:List Value) (x:DataW H × List MemPlace),DataW.trod enc Tryz.prog W 0 (fun _=>true) held fuel t cs=some x→(∀ z ∈ x.1.weights Tryz.prog t,z≤reachBytes)→∃ q:α,cs=(vals q).toList∧L q
theorem sl_open {H:Type}{enc:TypeId × Value→H}{W:yW}{held:Bool}{α:Type}{vals:α→Array Value}{L:α→Prop}{t e:TypeId}{n:Nat}(ih:Opens H enc W held e α vals L) (hu:Tryz.prog.underlying t=some (.slice e)) (hc:Tryz.prog.cellsOf e=n) (hn:0 < n) (hv:∀ q,(vals q).size=n) {k:Nat}{v:Value}{y:DataW H × List MemPlace}
  (g:DataW.trod enc Tryz.prog W 0 (fun _=>true) held k t [v]=some y) (hz:∀ z ∈ y.1.weights Tryz.prog t,z≤reachBytes):∃ (a:Option Addr) (c:Nat) (qs:List α),v=.slice a qs.length c∧SlAt W n a c (qs.map vals)∧∀ q ∈ qs,L q:=by
 rcases DataW.trod_slice hu g with ⟨hcs,_⟩ | ⟨a,len,cap,elems,rest,m,hm',hcs,hx6,hb,hl,hm,hlen',hel,hsp,hns⟩
 ·cases hcs
  exact⟨none,0,[],rfl,⟨Nat.le_refl _,by decide,fun i hi=>by simp at hi⟩,fun q hq=>by cases hq⟩
 ·cases hcs
  have each:∀ i,i < len→∃ q:α,(∀ j,j < n→W.cell? (a.add (i * n+j))=(vals q).toList[j]?)∧L q:=by
   intro i hi
   have h1:=hel i hi
   rw [hc] at h1
   have h2:elems[i]? = some elems[i]:=List.getElem?_eq_getElem (by omega)
   rw [h2] at h1
   obtain⟨cs',h3,h4⟩:=Option.bind_eq_some_iff.1 h1
   obtain⟨q,hq,hlq⟩:=ih m cs' elems[i] h4 (fun z hz1=>hz z (by
    rw [hx6,DataW.weights,hu]
    refine List.mem_cons_of_mem _ (List.mem_append_left _ ?_)
    exact mem_all (j:=i) (by simp [h2]) z hz1))
   obtain⟨_,hlen,hcell⟩:=World.cells?_some h3
   refine⟨q,fun j hj=>?_,hlq⟩
   have e0:=hcell j (by omega)
   rw [Go.Deep.add_add] at e0
   rw [e0,hq]
  by_cases h0:len=0
  ·subst h0
   exact⟨some a,cap,[],rfl,⟨Nat.zero_le _,by unfold maxLen at hm; omega,fun i hi=>by simp at hi⟩,fun q hq=>by cases hq⟩
  ·obtain⟨q0,hq0⟩:=each 0 (by omega)
   have:Inhabited α:=⟨q0⟩
   obtain⟨A,hA⟩:=Go.Deep.choose_lt each
   have hc0:=(hA 0 (by omega)).1 0 hn
   obtain⟨b,off,spot⟩:=a
   have hspot:spot=none:=by
    rw [List.getElem?_eq_getElem (by rw [Array.length_toList,hv]; exact hn)] at hc0
    simpa [Addr.add] using World.cell?_spot hc0
   subst hspot
   refine⟨some b¢off,cap,(List.range len).map A,by simp,⟨by simpa using hl,by unfold maxLen at hm; omega,fun i hi=>⟨b,off,rfl,fun j hj=>?_⟩⟩,fun q hq=>?_⟩
   ·have hi':i < len:=by simpa using hi
    have:=(hA i hi').1 j hj
    rw [Addr.add_lit,← Nat.add_assoc] at this
    rw [this]
    simp
   ·obtain⟨i,hi,rfl⟩:=List.mem_map.1 hq
    exact (hA i (List.mem_range.1 hi)).2
theorem nd_opens {H:Type}{enc:TypeId × Value→H}{W:yW}{held:Bool}:Opens H enc W held 38 Nd Nd.vals (Lies W):=fun fuel cs x h hz=>nd_open fuel cs x h hz
theorem reg_opens {H:Type}{enc:TypeId × Value→H}{W:yW}{held:Bool}:Opens H enc W held 102 RegM RegM.vals (RegL W):=by
 intro fuel cs x h hz
 obtain⟨xs,k,hk,hx,hlen,hxl,hf⟩:=DataW.trod_struct Tryz.underlying102 h
 rw [show Tryz.prog.cellsOf 102=11 by kernel_rfl] at hlen
 match cs,hlen with
 | [v0,v1,v2,v3,v4,v5,v6,v7,v8,v9,v10],_ =>
  have hxn:xs.length=4:=hxl
  match xs,hxn with
  | [y0,y1,y2,y3],_ =>
   have hz':∀ (j:Nat) (t:TypeId) (d:DataW H),[9,34,38,3][j]? = some t→([y0,y1,y2,y3].map (·.1))[j]? = some d→∀ z ∈ d.weights Tryz.prog t,z≤reachBytes:=by
    intro j t d h1 h2 z hz1
    refine hz z ?_
    rw [hx]
    have:=DataW.weights_mem_each (P:=Tryz.prog) h1 h2 z hz1
    rw [show (DataW.weights Tryz.prog 102 (.agg ([y0,y1,y2,y3].map (·.1)):DataW H))=DataW.weightsEach Tryz.prog [9,34,38,3] ([y0,y1,y2,y3].map (·.1)) by
     rw [DataW.weights,Tryz.underlying102]; rfl]
    exact this
   have g0:DataW.trod enc Tryz.prog W 0 (fun _=>true) held k 9 (([v0,v1,v2,v3,v4,v5,v6,v7,v8,v9,v10].drop 0).take (Tryz.prog.cellsOf 9))=some y0:=hf 0 _ rfl
   rw [show Tryz.prog.cellsOf 9=1 by kernel_rfl] at g0
   have k0:DataW.trod enc Tryz.prog W 0 (fun _=>true) held k 9 [v0]=some y0:=g0
   obtain⟨n0,e0,d0,_⟩:=DataW.trod_string (show Tryz.prog.underlying 9=some .string by kernel_rfl) k0
   have w0:SzX n0:=by
    have:=hz' 0 9 y0.1 rfl rfl n0.size (by rw [d0]; simp [DataW.weights])
    have h2:reachBytes≤140737488355328:=by decide
    exact Nat.le_trans this h2
   have g1:DataW.trod enc Tryz.prog W 0 (fun _=>true) held k 34 (([v0,v1,v2,v3,v4,v5,v6,v7,v8,v9,v10].drop 1).take (Tryz.prog.cellsOf 34))=some y1:=hf 1 _ rfl
   rw [show Tryz.prog.cellsOf 34=1 by kernel_rfl] at g1
   have k1:DataW.trod enc Tryz.prog W 0 (fun _=>true) held k 34 [v1]=some y1:=g1
   obtain⟨n1,e1,_,w1⟩:=DataW.trod_int (show Tryz.prog.underlying 34=some (.int .u8) by kernel_rfl) k1
   have g2:DataW.trod enc Tryz.prog W 0 (fun _=>true) held k 38 (([v0,v1,v2,v3,v4,v5,v6,v7,v8,v9,v10].drop 2).take (Tryz.prog.cellsOf 38))=some y2:=hf 2 _ rfl
   rw [show Tryz.prog.cellsOf 38=8 by kernel_rfl] at g2
   have k2:DataW.trod enc Tryz.prog W 0 (fun _=>true) held k 38 [v2,v3,v4,v5,v6,v7,v8,v9]=some y2:=g2
   obtain⟨n2,e2,w2⟩:=nd_opens k _ _ k2 (fun z hz1=>hz' 2 38 y2.1 rfl rfl z hz1)
   obtain⟨⟨a20,a21,a22,a23,a24,a25,a26⟩,b2,c2,q2⟩:=n2
   have g3:DataW.trod enc Tryz.prog W 0 (fun _=>true) held k 3 (([v0,v1,v2,v3,v4,v5,v6,v7,v8,v9,v10].drop 10).take (Tryz.prog.cellsOf 3))=some y3:=hf 3 _ rfl
   rw [show Tryz.prog.cellsOf 3=1 by kernel_rfl] at g3
   have k3:DataW.trod enc Tryz.prog W 0 (fun _=>true) held k 3 [v10]=some y3:=g3
   obtain⟨n3,e3,_,w3⟩:=DataW.trod_int (show Tryz.prog.underlying 3=some (.int .i64) by kernel_rfl) k3
   cases e0
   cases e1
   simp only [Nd.vals,hdA,Nd.h,Nd.a,Nd.c,Nd.ks,List.cons.injEq,and_true] at e2
   obtain⟨rfl,rfl,rfl,rfl,rfl,rfl,rfl,rfl⟩:=e2
   cases e3
   exact⟨⟨n0,n1,.mk ⟨a20,a21,a22,a23,a24,a25,a26⟩ b2 c2 q2,n3⟩,rfl,⟨w2,bounds_u8 w1,bounds_i64 w3,w0⟩⟩
theorem slot_opens {H:Type}{enc:TypeId × Value→H}{W:yW}{held:Bool}:Opens H enc W held 129 SlotM SlotM.vals SlotL:=by
 intro fuel cs x h hz
 obtain⟨xs,k,hk,hx,hlen,hxl,hf⟩:=DataW.trod_struct Tryz.underlying129 h
 rw [show Tryz.prog.cellsOf 129=2 by kernel_rfl] at hlen
 match cs,hlen with
 | [v0,v1],_ =>
  have hxn:xs.length=2:=hxl
  match xs,hxn with
  | [y0,y1],_ =>
   have hz':∀ (j:Nat) (t:TypeId) (d:DataW H),[9,3][j]? = some t→([y0,y1].map (·.1))[j]? = some d→∀ z ∈ d.weights Tryz.prog t,z≤reachBytes:=by
    intro j t d h1 h2 z hz1
    refine hz z ?_
    rw [hx]
    have:=DataW.weights_mem_each (P:=Tryz.prog) h1 h2 z hz1
    rw [show (DataW.weights Tryz.prog 129 (.agg ([y0,y1].map (·.1)):DataW H))=DataW.weightsEach Tryz.prog [9,3] ([y0,y1].map (·.1)) by
     rw [DataW.weights,Tryz.underlying129]; rfl]
    exact this
   have g0:DataW.trod enc Tryz.prog W 0 (fun _=>true) held k 9 (([v0,v1].drop 0).take (Tryz.prog.cellsOf 9))=some y0:=hf 0 _ rfl
   rw [show Tryz.prog.cellsOf 9=1 by kernel_rfl] at g0
   have k0:DataW.trod enc Tryz.prog W 0 (fun _=>true) held k 9 [v0]=some y0:=g0
   obtain⟨n0,e0,d0,_⟩:=DataW.trod_string (show Tryz.prog.underlying 9=some .string by kernel_rfl) k0
   have w0:SzX n0:=by
    have:=hz' 0 9 y0.1 rfl rfl n0.size (by rw [d0]; simp [DataW.weights])
    have h2:reachBytes≤140737488355328:=by decide
    exact Nat.le_trans this h2
   have g1:DataW.trod enc Tryz.prog W 0 (fun _=>true) held k 3 (([v0,v1].drop 1).take (Tryz.prog.cellsOf 3))=some y1:=hf 1 _ rfl
   rw [show Tryz.prog.cellsOf 3=1 by kernel_rfl] at g1
   have k1:DataW.trod enc Tryz.prog W 0 (fun _=>true) held k 3 [v1]=some y1:=g1
   obtain⟨n1,e1,_,w1⟩:=DataW.trod_int (show Tryz.prog.underlying 3=some (.int .i64) by kernel_rfl) k1
   cases e0
   cases e1
   exact⟨⟨n0,n1⟩,rfl,⟨bounds_i64 w1,w0⟩⟩
theorem do_opens {H:Type}{enc:TypeId × Value→H}{W:yW}{held:Bool}:Opens H enc W held 121 DoM DoM.vals (DoL W):=by
 intro fuel cs x h hz
 obtain⟨xs,k,hk,hx,hlen,hxl,hf⟩:=DataW.trod_struct Tryz.underlying121 h
 rw [show Tryz.prog.cellsOf 121=36 by kernel_rfl] at hlen
 match cs,hlen with
 | (v0 :: v1 :: v2 :: v3 :: v4 :: v5 :: v6 :: v7 :: v8 :: v9 :: v10 :: v11 :: v12 :: v13 :: v14 :: v15 :: v16 :: v17 :: v18 :: v19 :: v20 :: v21 :: v22 :: v23 :: v24 :: v25 :: v26 :: v27 :: v28 :: v29 :: v30 :: v31 :: v32 :: v33 :: v34 :: v35 :: []),_ =>
  have hxn:xs.length=8:=hxl
  match xs,hxn with
  | [y0,y1,y2,y3,y4,y5,y6,y7],_ =>
   have hz':∀ (j:Nat) (t:TypeId) (d:DataW H),[119,76,9,38,38,38,38,3][j]? = some t→([y0,y1,y2,y3,y4,y5,y6,y7].map (·.1))[j]? = some d→∀ z ∈ d.weights Tryz.prog t,z≤reachBytes:=by
    intro j t d h1 h2 z hz1
    refine hz z ?_
    rw [hx]
    have:=DataW.weights_mem_each (P:=Tryz.prog) h1 h2 z hz1
    rw [show (DataW.weights Tryz.prog 121 (.agg ([y0,y1,y2,y3,y4,y5,y6,y7].map (·.1)):DataW H))=DataW.weightsEach Tryz.prog [119,76,9,38,38,38,38,3] ([y0,y1,y2,y3,y4,y5,y6,y7].map (·.1)) by
     rw [DataW.weights,Tryz.underlying121]; rfl]
    exact this
   have g0:DataW.trod enc Tryz.prog W 0 (fun _=>true) held k 119 (((v0 :: v1 :: v2 :: v3 :: v4 :: v5 :: v6 :: v7 :: v8 :: v9 :: v10 :: v11 :: v12 :: v13 :: v14 :: v15 :: v16 :: v17 :: v18 :: v19 :: v20 :: v21 :: v22 :: v23 :: v24 :: v25 :: v26 :: v27 :: v28 :: v29 :: v30 :: v31 :: v32 :: v33 :: v34 :: v35 :: []).drop 0).take (Tryz.prog.cellsOf 119))=some y0:=hf 0 _ rfl
   rw [show Tryz.prog.cellsOf 119=1 by kernel_rfl] at g0
   have k0:DataW.trod enc Tryz.prog W 0 (fun _=>true) held k 119 [v0]=some y0:=g0
   obtain⟨n0,e0,_,w0⟩:=DataW.trod_int (show Tryz.prog.underlying 119=some (.int .u8) by kernel_rfl) k0
   have g1:DataW.trod enc Tryz.prog W 0 (fun _=>true) held k 76 (((v0 :: v1 :: v2 :: v3 :: v4 :: v5 :: v6 :: v7 :: v8 :: v9 :: v10 :: v11 :: v12 :: v13 :: v14 :: v15 :: v16 :: v17 :: v18 :: v19 :: v20 :: v21 :: v22 :: v23 :: v24 :: v25 :: v26 :: v27 :: v28 :: v29 :: v30 :: v31 :: v32 :: v33 :: v34 :: v35 :: []).drop 1).take (Tryz.prog.cellsOf 76))=some y1:=hf 1 _ rfl
   rw [show Tryz.prog.cellsOf 76=1 by kernel_rfl] at g1
   have k1:DataW.trod enc Tryz.prog W 0 (fun _=>true) held k 76 [v1]=some y1:=g1
   obtain⟨n1,e1,_,w1⟩:=DataW.trod_int (show Tryz.prog.underlying 76=some (.int .u8) by kernel_rfl) k1
   have g2:DataW.trod enc Tryz.prog W 0 (fun _=>true) held k 9 (((v0 :: v1 :: v2 :: v3 :: v4 :: v5 :: v6 :: v7 :: v8 :: v9 :: v10 :: v11 :: v12 :: v13 :: v14 :: v15 :: v16 :: v17 :: v18 :: v19 :: v20 :: v21 :: v22 :: v23 :: v24 :: v25 :: v26 :: v27 :: v28 :: v29 :: v30 :: v31 :: v32 :: v33 :: v34 :: v35 :: []).drop 2).take (Tryz.prog.cellsOf 9))=some y2:=hf 2 _ rfl
   rw [show Tryz.prog.cellsOf 9=1 by kernel_rfl] at g2
   have k2:DataW.trod enc Tryz.prog W 0 (fun _=>true) held k 9 [v2]=some y2:=g2
   obtain⟨n2,e2,d2,_⟩:=DataW.trod_string (show Tryz.prog.underlying 9=some .string by kernel_rfl) k2
   have w2:SzX n2:=by
    have:=hz' 2 9 y2.1 rfl rfl n2.size (by rw [d2]; simp [DataW.weights])
    have h2:reachBytes≤140737488355328:=by decide
    exact Nat.le_trans this h2
   have g3:DataW.trod enc Tryz.prog W 0 (fun _=>true) held k 38 (((v0 :: v1 :: v2 :: v3 :: v4 :: v5 :: v6 :: v7 :: v8 :: v9 :: v10 :: v11 :: v12 :: v13 :: v14 :: v15 :: v16 :: v17 :: v18 :: v19 :: v20 :: v21 :: v22 :: v23 :: v24 :: v25 :: v26 :: v27 :: v28 :: v29 :: v30 :: v31 :: v32 :: v33 :: v34 :: v35 :: []).drop 3).take (Tryz.prog.cellsOf 38))=some y3:=hf 3 _ rfl
   rw [show Tryz.prog.cellsOf 38=8 by kernel_rfl] at g3
   have k3:DataW.trod enc Tryz.prog W 0 (fun _=>true) held k 38 [v3,v4,v5,v6,v7,v8,v9,v10]=some y3:=g3
   obtain⟨n3,e3,w3⟩:=nd_opens k _ _ k3 (fun z hz1=>hz' 3 38 y3.1 rfl rfl z hz1)
   obtain⟨⟨a30,a31,a32,a33,a34,a35,a36⟩,b3,c3,q3⟩:=n3
   have g4:DataW.trod enc Tryz.prog W 0 (fun _=>true) held k 38 (((v0 :: v1 :: v2 :: v3 :: v4 :: v5 :: v6 :: v7 :: v8 :: v9 :: v10 :: v11 :: v12 :: v13 :: v14 :: v15 :: v16 :: v17 :: v18 :: v19 :: v20 :: v21 :: v22 :: v23 :: v24 :: v25 :: v26 :: v27 :: v28 :: v29 :: v30 :: v31 :: v32 :: v33 :: v34 :: v35 :: []).drop 11).take (Tryz.prog.cellsOf 38))=some y4:=hf 4 _ rfl
   rw [show Tryz.prog.cellsOf 38=8 by kernel_rfl] at g4
   have k4:DataW.trod enc Tryz.prog W 0 (fun _=>true) held k 38 [v11,v12,v13,v14,v15,v16,v17,v18]=some y4:=g4
   obtain⟨n4,e4,w4⟩:=nd_opens k _ _ k4 (fun z hz1=>hz' 4 38 y4.1 rfl rfl z hz1)
   obtain⟨⟨a40,a41,a42,a43,a44,a45,a46⟩,b4,c4,q4⟩:=n4
   have g5:DataW.trod enc Tryz.prog W 0 (fun _=>true) held k 38 (((v0 :: v1 :: v2 :: v3 :: v4 :: v5 :: v6 :: v7 :: v8 :: v9 :: v10 :: v11 :: v12 :: v13 :: v14 :: v15 :: v16 :: v17 :: v18 :: v19 :: v20 :: v21 :: v22 :: v23 :: v24 :: v25 :: v26 :: v27 :: v28 :: v29 :: v30 :: v31 :: v32 :: v33 :: v34 :: v35 :: []).drop 19).take (Tryz.prog.cellsOf 38))=some y5:=hf 5 _ rfl
   rw [show Tryz.prog.cellsOf 38=8 by kernel_rfl] at g5
   have k5:DataW.trod enc Tryz.prog W 0 (fun _=>true) held k 38 [v19,v20,v21,v22,v23,v24,v25,v26]=some y5:=g5
   obtain⟨n5,e5,w5⟩:=nd_opens k _ _ k5 (fun z hz1=>hz' 5 38 y5.1 rfl rfl z hz1)
   obtain⟨⟨a50,a51,a52,a53,a54,a55,a56⟩,b5,c5,q5⟩:=n5
   have g6:DataW.trod enc Tryz.prog W 0 (fun _=>true) held k 38 (((v0 :: v1 :: v2 :: v3 :: v4 :: v5 :: v6 :: v7 :: v8 :: v9 :: v10 :: v11 :: v12 :: v13 :: v14 :: v15 :: v16 :: v17 :: v18 :: v19 :: v20 :: v21 :: v22 :: v23 :: v24 :: v25 :: v26 :: v27 :: v28 :: v29 :: v30 :: v31 :: v32 :: v33 :: v34 :: v35 :: []).drop 27).take (Tryz.prog.cellsOf 38))=some y6:=hf 6 _ rfl
   rw [show Tryz.prog.cellsOf 38=8 by kernel_rfl] at g6
   have k6:DataW.trod enc Tryz.prog W 0 (fun _=>true) held k 38 [v27,v28,v29,v30,v31,v32,v33,v34]=some y6:=g6
   obtain⟨n6,e6,w6⟩:=nd_opens k _ _ k6 (fun z hz1=>hz' 6 38 y6.1 rfl rfl z hz1)
   obtain⟨⟨a60,a61,a62,a63,a64,a65,a66⟩,b6,c6,q6⟩:=n6
   have g7:DataW.trod enc Tryz.prog W 0 (fun _=>true) held k 3 (((v0 :: v1 :: v2 :: v3 :: v4 :: v5 :: v6 :: v7 :: v8 :: v9 :: v10 :: v11 :: v12 :: v13 :: v14 :: v15 :: v16 :: v17 :: v18 :: v19 :: v20 :: v21 :: v22 :: v23 :: v24 :: v25 :: v26 :: v27 :: v28 :: v29 :: v30 :: v31 :: v32 :: v33 :: v34 :: v35 :: []).drop 35).take (Tryz.prog.cellsOf 3))=some y7:=hf 7 _ rfl
   rw [show Tryz.prog.cellsOf 3=1 by kernel_rfl] at g7
   have k7:DataW.trod enc Tryz.prog W 0 (fun _=>true) held k 3 [v35]=some y7:=g7
   obtain⟨n7,e7,_,w7⟩:=DataW.trod_int (show Tryz.prog.underlying 3=some (.int .i64) by kernel_rfl) k7
   cases e0
   cases e1
   cases e2
   simp only [Nd.vals,hdA,Nd.h,Nd.a,Nd.c,Nd.ks,List.cons.injEq,and_true] at e3
   obtain⟨rfl,rfl,rfl,rfl,rfl,rfl,rfl,rfl⟩:=e3
   simp only [Nd.vals,hdA,Nd.h,Nd.a,Nd.c,Nd.ks,List.cons.injEq,and_true] at e4
   obtain⟨rfl,rfl,rfl,rfl,rfl,rfl,rfl,rfl⟩:=e4
   simp only [Nd.vals,hdA,Nd.h,Nd.a,Nd.c,Nd.ks,List.cons.injEq,and_true] at e5
   obtain⟨rfl,rfl,rfl,rfl,rfl,rfl,rfl,rfl⟩:=e5
   simp only [Nd.vals,hdA,Nd.h,Nd.a,Nd.c,Nd.ks,List.cons.injEq,and_true] at e6
   obtain⟨rfl,rfl,rfl,rfl,rfl,rfl,rfl,rfl⟩:=e6
   cases e7
   exact⟨⟨n0,n1,n2,.mk ⟨a30,a31,a32,a33,a34,a35,a36⟩ b3 c3 q3,.mk ⟨a40,a41,a42,a43,a44,a45,a46⟩ b4 c4 q4,.mk ⟨a50,a51,a52,a53,a54,a55,a56⟩ b5 c5 q5,.mk ⟨a60,a61,a62,a63,a64,a65,a66⟩ b6 c6 q6,n7⟩,rfl,⟨w3,w4,w5,w6,bounds_u8 w0,bounds_u8 w1,bounds_i64 w7,w2⟩⟩
theorem rule_opens {H:Type}{enc:TypeId × Value→H}{W:yW}{held:Bool}:Opens H enc W held 100 RuleM RuleM.vals (RuleL W):=by
 intro fuel cs x h hz
 obtain⟨xs,k,hk,hx,hlen,hxl,hf⟩:=DataW.trod_struct Tryz.underlying100 h
 rw [show Tryz.prog.cellsOf 100=10 by kernel_rfl] at hlen
 match cs,hlen with
 | [v0,v1,v2,v3,v4,v5,v6,v7,v8,v9],_ =>
  have hxn:xs.length=3:=hxl
  match xs,hxn with
  | [y0,y1,y2],_ =>
   have hz':∀ (j:Nat) (t:TypeId) (d:DataW H),[38,98,3][j]? = some t→([y0,y1,y2].map (·.1))[j]? = some d→∀ z ∈ d.weights Tryz.prog t,z≤reachBytes:=by
    intro j t d h1 h2 z hz1
    refine hz z ?_
    rw [hx]
    have:=DataW.weights_mem_each (P:=Tryz.prog) h1 h2 z hz1
    rw [show (DataW.weights Tryz.prog 100 (.agg ([y0,y1,y2].map (·.1)):DataW H))=DataW.weightsEach Tryz.prog [38,98,3] ([y0,y1,y2].map (·.1)) by
     rw [DataW.weights,Tryz.underlying100]; rfl]
    exact this
   have g0:DataW.trod enc Tryz.prog W 0 (fun _=>true) held k 38 (([v0,v1,v2,v3,v4,v5,v6,v7,v8,v9].drop 0).take (Tryz.prog.cellsOf 38))=some y0:=hf 0 _ rfl
   rw [show Tryz.prog.cellsOf 38=8 by kernel_rfl] at g0
   have k0:DataW.trod enc Tryz.prog W 0 (fun _=>true) held k 38 [v0,v1,v2,v3,v4,v5,v6,v7]=some y0:=g0
   obtain⟨n0,e0,w0⟩:=nd_opens k _ _ k0 (fun z hz1=>hz' 0 38 y0.1 rfl rfl z hz1)
   obtain⟨⟨a00,a01,a02,a03,a04,a05,a06⟩,b0,c0,q0⟩:=n0
   have g1:DataW.trod enc Tryz.prog W 0 (fun _=>true) held k 98 (([v0,v1,v2,v3,v4,v5,v6,v7,v8,v9].drop 8).take (Tryz.prog.cellsOf 98))=some y1:=hf 1 _ rfl
   rw [show Tryz.prog.cellsOf 98=1 by kernel_rfl] at g1
   have k1:DataW.trod enc Tryz.prog W 0 (fun _=>true) held k 98 [v8]=some y1:=g1
   obtain⟨a1,c1,n1,e1,s1,w1⟩:=sl_open do_opens Tryz.underlying98 (show Tryz.prog.cellsOf 121=36 by kernel_rfl) (by decide) (fun q=>rfl) k1 (fun z hz1=>hz' 1 98 y1.1 rfl rfl z hz1)
   have g2:DataW.trod enc Tryz.prog W 0 (fun _=>true) held k 3 (([v0,v1,v2,v3,v4,v5,v6,v7,v8,v9].drop 9).take (Tryz.prog.cellsOf 3))=some y2:=hf 2 _ rfl
   rw [show Tryz.prog.cellsOf 3=1 by kernel_rfl] at g2
   have k2:DataW.trod enc Tryz.prog W 0 (fun _=>true) held k 3 [v9]=some y2:=g2
   obtain⟨n2,e2,_,w2⟩:=DataW.trod_int (show Tryz.prog.underlying 3=some (.int .i64) by kernel_rfl) k2
   simp only [Nd.vals,hdA,Nd.h,Nd.a,Nd.c,Nd.ks,List.cons.injEq,and_true] at e0
   obtain⟨rfl,rfl,rfl,rfl,rfl,rfl,rfl,rfl⟩:=e0
   cases e1
   cases e2
   exact⟨⟨.mk ⟨a00,a01,a02,a03,a04,a05,a06⟩ b0 c0 q0,a1,c1,n1,n2⟩,rfl,⟨w0,s1,w1,bounds_i64 w2⟩⟩
theorem state_opens {H:Type}{enc:TypeId × Value→H}{W:yW}{held:Bool}:Opens H enc W held 69 StateM StateM.vals (StateL W):=by
 intro fuel cs x h hz
 obtain⟨xs,k,hk,hx,hlen,hxl,hf⟩:=DataW.trod_struct Tryz.underlying69 h
 rw [show Tryz.prog.cellsOf 69=3 by kernel_rfl] at hlen
 match cs,hlen with
 | [v0,v1,v2],_ =>
  have hxn:xs.length=3:=hxl
  match xs,hxn with
  | [y0,y1,y2],_ =>
   have hz':∀ (j:Nat) (t:TypeId) (d:DataW H),[9,67,3][j]? = some t→([y0,y1,y2].map (·.1))[j]? = some d→∀ z ∈ d.weights Tryz.prog t,z≤reachBytes:=by
    intro j t d h1 h2 z hz1
    refine hz z ?_
    rw [hx]
    have:=DataW.weights_mem_each (P:=Tryz.prog) h1 h2 z hz1
    rw [show (DataW.weights Tryz.prog 69 (.agg ([y0,y1,y2].map (·.1)):DataW H))=DataW.weightsEach Tryz.prog [9,67,3] ([y0,y1,y2].map (·.1)) by
     rw [DataW.weights,Tryz.underlying69]; rfl]
    exact this
   have g0:DataW.trod enc Tryz.prog W 0 (fun _=>true) held k 9 (([v0,v1,v2].drop 0).take (Tryz.prog.cellsOf 9))=some y0:=hf 0 _ rfl
   rw [show Tryz.prog.cellsOf 9=1 by kernel_rfl] at g0
   have k0:DataW.trod enc Tryz.prog W 0 (fun _=>true) held k 9 [v0]=some y0:=g0
   obtain⟨n0,e0,d0,_⟩:=DataW.trod_string (show Tryz.prog.underlying 9=some .string by kernel_rfl) k0
   have w0:SzX n0:=by
    have:=hz' 0 9 y0.1 rfl rfl n0.size (by rw [d0]; simp [DataW.weights])
    have h2:reachBytes≤140737488355328:=by decide
    exact Nat.le_trans this h2
   have g1:DataW.trod enc Tryz.prog W 0 (fun _=>true) held k 67 (([v0,v1,v2].drop 1).take (Tryz.prog.cellsOf 67))=some y1:=hf 1 _ rfl
   rw [show Tryz.prog.cellsOf 67=1 by kernel_rfl] at g1
   have k1:DataW.trod enc Tryz.prog W 0 (fun _=>true) held k 67 [v1]=some y1:=g1
   obtain⟨a1,c1,n1,e1,s1,w1⟩:=sl_open rule_opens Tryz.underlying67 (show Tryz.prog.cellsOf 100=10 by kernel_rfl) (by decide) (fun q=>rfl) k1 (fun z hz1=>hz' 1 67 y1.1 rfl rfl z hz1)
   have g2:DataW.trod enc Tryz.prog W 0 (fun _=>true) held k 3 (([v0,v1,v2].drop 2).take (Tryz.prog.cellsOf 3))=some y2:=hf 2 _ rfl
   rw [show Tryz.prog.cellsOf 3=1 by kernel_rfl] at g2
   have k2:DataW.trod enc Tryz.prog W 0 (fun _=>true) held k 3 [v2]=some y2:=g2
   obtain⟨n2,e2,_,w2⟩:=DataW.trod_int (show Tryz.prog.underlying 3=some (.int .i64) by kernel_rfl) k2
   cases e0
   cases e1
   cases e2
   exact⟨⟨n0,a1,c1,n1,n2⟩,rfl,⟨s1,w1,bounds_i64 w2,w0⟩⟩
theorem strat_opens {H:Type}{enc:TypeId × Value→H}{W:yW}{held:Bool}:Opens H enc W held 26 StratM StratM.vals (StratL W):=by
 intro fuel cs x h hz
 obtain⟨xs,k,hk,hx,hlen,hxl,hf⟩:=DataW.trod_struct Tryz.underlying26 h
 rw [show Tryz.prog.cellsOf 26=4 by kernel_rfl] at hlen
 match cs,hlen with
 | [v0,v1,v2,v3],_ =>
  have hxn:xs.length=4:=hxl
  match xs,hxn with
  | [y0,y1,y2,y3],_ =>
   have hz':∀ (j:Nat) (t:TypeId) (d:DataW H),[9,22,23,24][j]? = some t→([y0,y1,y2,y3].map (·.1))[j]? = some d→∀ z ∈ d.weights Tryz.prog t,z≤reachBytes:=by
    intro j t d h1 h2 z hz1
    refine hz z ?_
    rw [hx]
    have:=DataW.weights_mem_each (P:=Tryz.prog) h1 h2 z hz1
    rw [show (DataW.weights Tryz.prog 26 (.agg ([y0,y1,y2,y3].map (·.1)):DataW H))=DataW.weightsEach Tryz.prog [9,22,23,24] ([y0,y1,y2,y3].map (·.1)) by
     rw [DataW.weights,Tryz.underlying26]; rfl]
    exact this
   have g0:DataW.trod enc Tryz.prog W 0 (fun _=>true) held k 9 (([v0,v1,v2,v3].drop 0).take (Tryz.prog.cellsOf 9))=some y0:=hf 0 _ rfl
   rw [show Tryz.prog.cellsOf 9=1 by kernel_rfl] at g0
   have k0:DataW.trod enc Tryz.prog W 0 (fun _=>true) held k 9 [v0]=some y0:=g0
   obtain⟨n0,e0,d0,_⟩:=DataW.trod_string (show Tryz.prog.underlying 9=some .string by kernel_rfl) k0
   have w0:SzX n0:=by
    have:=hz' 0 9 y0.1 rfl rfl n0.size (by rw [d0]; simp [DataW.weights])
    have h2:reachBytes≤140737488355328:=by decide
    exact Nat.le_trans this h2
   have g1:DataW.trod enc Tryz.prog W 0 (fun _=>true) held k 22 (([v0,v1,v2,v3].drop 1).take (Tryz.prog.cellsOf 22))=some y1:=hf 1 _ rfl
   rw [show Tryz.prog.cellsOf 22=1 by kernel_rfl] at g1
   have k1:DataW.trod enc Tryz.prog W 0 (fun _=>true) held k 22 [v1]=some y1:=g1
   obtain⟨a1,c1,n1,e1,s1,w1⟩:=sl_open reg_opens Tryz.underlying22 (show Tryz.prog.cellsOf 102=11 by kernel_rfl) (by decide) (fun q=>rfl) k1 (fun z hz1=>hz' 1 22 y1.1 rfl rfl z hz1)
   have g2:DataW.trod enc Tryz.prog W 0 (fun _=>true) held k 23 (([v0,v1,v2,v3].drop 2).take (Tryz.prog.cellsOf 23))=some y2:=hf 2 _ rfl
   rw [show Tryz.prog.cellsOf 23=1 by kernel_rfl] at g2
   have k2:DataW.trod enc Tryz.prog W 0 (fun _=>true) held k 23 [v2]=some y2:=g2
   obtain⟨a2,c2,n2,e2,s2,w2⟩:=sl_open slot_opens Tryz.underlying23 (show Tryz.prog.cellsOf 129=2 by kernel_rfl) (by decide) (fun q=>rfl) k2 (fun z hz1=>hz' 2 23 y2.1 rfl rfl z hz1)
   have g3:DataW.trod enc Tryz.prog W 0 (fun _=>true) held k 24 (([v0,v1,v2,v3].drop 3).take (Tryz.prog.cellsOf 24))=some y3:=hf 3 _ rfl
   rw [show Tryz.prog.cellsOf 24=1 by kernel_rfl] at g3
   have k3:DataW.trod enc Tryz.prog W 0 (fun _=>true) held k 24 [v3]=some y3:=g3
   obtain⟨a3,c3,n3,e3,s3,w3⟩:=sl_open state_opens Tryz.underlying24 (show Tryz.prog.cellsOf 69=3 by kernel_rfl) (by decide) (fun q=>rfl) k3 (fun z hz1=>hz' 3 24 y3.1 rfl rfl z hz1)
   cases e0
   cases e1
   cases e2
   cases e3
   exact⟨⟨n0,a1,c1,n1,a2,c2,n2,a3,c3,n3⟩,rfl,⟨s1,w1,s2,w2,s3,w3,w0⟩⟩
theorem strat_in {H:Type}{enc:TypeId × Value→H}{W:yW}{held:Bool}{fuel:Nat}{cs:Array Value}{x:DataW H × List MemPlace}
  (h:DataW.trod enc Tryz.prog W 0 (fun _=>true) held fuel 26 (Value.agg cs).cells.toList=some x) (hz:∀ z ∈ x.1.weights Tryz.prog 26,z≤reachBytes):∃ m:StratM,cs=m.vals∧StratL W m:=by
 obtain⟨m,hm,hl⟩:=strat_opens fuel _ x h hz
 exact⟨m,Array.toList_inj.1 hm,hl⟩
theorem int_opens {H:Type}{enc:TypeId × Value→H}{W:yW}{held:Bool}:Opens H enc W held 2 Int iA I64:=by
 intro fuel cs x h hz
 obtain⟨n,e,_,w⟩:=DataW.trod_int (show Tryz.prog.underlying 2=some (.int .i64) by kernel_rfl) h
 cases e
 exact⟨n,rfl,bounds_i64 w⟩
theorem mod_opens {H:Type}{enc:TypeId × Value→H}{W:yW}{held:Bool}:Opens H enc W held 29 ModM ModM.vals (ModL W):=by
 intro fuel cs x h hz
 obtain⟨xs,k,hk,hx,hlen,hxl,hf⟩:=DataW.trod_struct Tryz.underlying29 h
 rw [show Tryz.prog.cellsOf 29=2 by kernel_rfl] at hlen
 match cs,hlen with
 | [v0,v1],_ =>
  have hxn:xs.length=2:=hxl
  match xs,hxn with
  | [y0,y1],_ =>
   have hz':∀ (j:Nat) (t:TypeId) (d:DataW H),[3,27][j]? = some t→([y0,y1].map (·.1))[j]? = some d→∀ z ∈ d.weights Tryz.prog t,z≤reachBytes:=by
    intro j t d h1 h2 z hz1
    refine hz z ?_
    rw [hx]
    have:=DataW.weights_mem_each (P:=Tryz.prog) h1 h2 z hz1
    rw [show (DataW.weights Tryz.prog 29 (.agg ([y0,y1].map (·.1)):DataW H))=DataW.weightsEach Tryz.prog [3,27] ([y0,y1].map (·.1)) by
     rw [DataW.weights,Tryz.underlying29]; rfl]
    exact this
   have g0:DataW.trod enc Tryz.prog W 0 (fun _=>true) held k 3 (([v0,v1].drop 0).take (Tryz.prog.cellsOf 3))=some y0:=hf 0 _ rfl
   rw [show Tryz.prog.cellsOf 3=1 by kernel_rfl] at g0
   have k0:DataW.trod enc Tryz.prog W 0 (fun _=>true) held k 3 [v0]=some y0:=g0
   obtain⟨n0,e0,_,w0⟩:=DataW.trod_int (show Tryz.prog.underlying 3=some (.int .i64) by kernel_rfl) k0
   have g1:DataW.trod enc Tryz.prog W 0 (fun _=>true) held k 27 (([v0,v1].drop 1).take (Tryz.prog.cellsOf 27))=some y1:=hf 1 _ rfl
   rw [show Tryz.prog.cellsOf 27=1 by kernel_rfl] at g1
   have k1:DataW.trod enc Tryz.prog W 0 (fun _=>true) held k 27 [v1]=some y1:=g1
   obtain⟨a1,c1,n1,e1,s1,w1⟩:=sl_open int_opens Tryz.underlying27 (show Tryz.prog.cellsOf 2=1 by kernel_rfl) (by decide) (fun q=>rfl) k1 (fun z hz1=>hz' 1 27 y1.1 rfl rfl z hz1)
   cases e0
   cases e1
   exact⟨⟨n0,a1,c1,n1⟩,rfl,⟨s1,w1,bounds_i64 w0⟩⟩
theorem sn_all {a b c d e g:Int}(h0:I64 a) (h1:I64 b) (h2:I64 c) (h3:I64 d) (h4:I64 e) (h5:I64 g):∀ f,I64 (Sx.getN ⟨a,b,c,d,e,g⟩ f):=fun f=>by
 unfold Sx.getN
 split
 ·exact h0
 split
 ·exact h1
 split
 ·exact h2
 split
 ·exact h3
 split
 ·exact h4
 split
 ·exact h5
 ·unfold I64; omega
theorem sn_opens {H:Type}{enc:TypeId × Value→H}{W:yW}{held:Bool}:Opens H enc W held 31 Sx.Sn Sx.snA (fun s=>∀ f,I64 (Sx.getN s f)):=by
 intro fuel cs x h hz
 obtain⟨xs,k,hk,hx,hlen,hxl,hf⟩:=DataW.trod_struct Tryz.underlying31 h
 rw [show Tryz.prog.cellsOf 31=6 by kernel_rfl] at hlen
 match cs,hlen with
 | [v0,v1,v2,v3,v4,v5],_ =>
  have hxn:xs.length=6:=hxl
  match xs,hxn with
  | [y0,y1,y2,y3,y4,y5],_ =>
   have hz':∀ (j:Nat) (t:TypeId) (d:DataW H),[2,2,2,2,2,2][j]? = some t→([y0,y1,y2,y3,y4,y5].map (·.1))[j]? = some d→∀ z ∈ d.weights Tryz.prog t,z≤reachBytes:=by
    intro j t d h1 h2 z hz1
    refine hz z ?_
    rw [hx]
    have:=DataW.weights_mem_each (P:=Tryz.prog) h1 h2 z hz1
    rw [show (DataW.weights Tryz.prog 31 (.agg ([y0,y1,y2,y3,y4,y5].map (·.1)):DataW H))=DataW.weightsEach Tryz.prog [2,2,2,2,2,2] ([y0,y1,y2,y3,y4,y5].map (·.1)) by
     rw [DataW.weights,Tryz.underlying31]; rfl]
    exact this
   have g0:DataW.trod enc Tryz.prog W 0 (fun _=>true) held k 2 (([v0,v1,v2,v3,v4,v5].drop 0).take (Tryz.prog.cellsOf 2))=some y0:=hf 0 _ rfl
   rw [show Tryz.prog.cellsOf 2=1 by kernel_rfl] at g0
   have k0:DataW.trod enc Tryz.prog W 0 (fun _=>true) held k 2 [v0]=some y0:=g0
   obtain⟨n0,e0,_,w0⟩:=DataW.trod_int (show Tryz.prog.underlying 2=some (.int .i64) by kernel_rfl) k0
   have g1:DataW.trod enc Tryz.prog W 0 (fun _=>true) held k 2 (([v0,v1,v2,v3,v4,v5].drop 1).take (Tryz.prog.cellsOf 2))=some y1:=hf 1 _ rfl
   rw [show Tryz.prog.cellsOf 2=1 by kernel_rfl] at g1
   have k1:DataW.trod enc Tryz.prog W 0 (fun _=>true) held k 2 [v1]=some y1:=g1
   obtain⟨n1,e1,_,w1⟩:=DataW.trod_int (show Tryz.prog.underlying 2=some (.int .i64) by kernel_rfl) k1
   have g2:DataW.trod enc Tryz.prog W 0 (fun _=>true) held k 2 (([v0,v1,v2,v3,v4,v5].drop 2).take (Tryz.prog.cellsOf 2))=some y2:=hf 2 _ rfl
   rw [show Tryz.prog.cellsOf 2=1 by kernel_rfl] at g2
   have k2:DataW.trod enc Tryz.prog W 0 (fun _=>true) held k 2 [v2]=some y2:=g2
   obtain⟨n2,e2,_,w2⟩:=DataW.trod_int (show Tryz.prog.underlying 2=some (.int .i64) by kernel_rfl) k2
   have g3:DataW.trod enc Tryz.prog W 0 (fun _=>true) held k 2 (([v0,v1,v2,v3,v4,v5].drop 3).take (Tryz.prog.cellsOf 2))=some y3:=hf 3 _ rfl
   rw [show Tryz.prog.cellsOf 2=1 by kernel_rfl] at g3
   have k3:DataW.trod enc Tryz.prog W 0 (fun _=>true) held k 2 [v3]=some y3:=g3
   obtain⟨n3,e3,_,w3⟩:=DataW.trod_int (show Tryz.prog.underlying 2=some (.int .i64) by kernel_rfl) k3
   have g4:DataW.trod enc Tryz.prog W 0 (fun _=>true) held k 2 (([v0,v1,v2,v3,v4,v5].drop 4).take (Tryz.prog.cellsOf 2))=some y4:=hf 4 _ rfl
   rw [show Tryz.prog.cellsOf 2=1 by kernel_rfl] at g4
   have k4:DataW.trod enc Tryz.prog W 0 (fun _=>true) held k 2 [v4]=some y4:=g4
   obtain⟨n4,e4,_,w4⟩:=DataW.trod_int (show Tryz.prog.underlying 2=some (.int .i64) by kernel_rfl) k4
   have g5:DataW.trod enc Tryz.prog W 0 (fun _=>true) held k 2 (([v0,v1,v2,v3,v4,v5].drop 5).take (Tryz.prog.cellsOf 2))=some y5:=hf 5 _ rfl
   rw [show Tryz.prog.cellsOf 2=1 by kernel_rfl] at g5
   have k5:DataW.trod enc Tryz.prog W 0 (fun _=>true) held k 2 [v5]=some y5:=g5
   obtain⟨n5,e5,_,w5⟩:=DataW.trod_int (show Tryz.prog.underlying 2=some (.int .i64) by kernel_rfl) k5
   cases e0
   cases e1
   cases e2
   cases e3
   cases e4
   cases e5
   exact⟨⟨n0,n1,n2,n3,n4,n5⟩,rfl,sn_all (bounds_i64 w0) (bounds_i64 w1) (bounds_i64 w2) (bounds_i64 w3) (bounds_i64 w4) (bounds_i64 w5)⟩
theorem mod_in {H:Type}{enc:TypeId × Value→H}{W:yW}{held:Bool}{fuel:Nat}{cs:Array Value}{x:DataW H × List MemPlace}
  (h:DataW.trod enc Tryz.prog W 0 (fun _=>true) held fuel 29 (Value.agg cs).cells.toList=some x) (hz:∀ z ∈ x.1.weights Tryz.prog 29,z≤reachBytes):∃ m:ModM,cs=m.vals∧ModL W m:=by
 obtain⟨m,hm,hl⟩:=mod_opens fuel _ x h hz
 exact⟨m,Array.toList_inj.1 hm,hl⟩
theorem sn_in {H:Type}{enc:TypeId × Value→H}{W:yW}{held:Bool}{fuel:Nat}{cs:Array Value}{x:DataW H × List MemPlace}
  (h:DataW.trod enc Tryz.prog W 0 (fun _=>true) held fuel 31 (Value.agg cs).cells.toList=some x) (hz:∀ z ∈ x.1.weights Tryz.prog 31,z≤reachBytes):∃ s:Sx.Sn,cs=Sx.snA s∧∀ f,I64 (Sx.getN s f):=by
 obtain⟨m,hm,hl⟩:=sn_opens fuel _ x h hz
 exact⟨m,Array.toList_inj.1 hm,hl⟩
end Go.Proofs.YtfbjofnaghjmeaaGreatDoor
