import Derived.Test.YtoogodlnnijikaaGreatDoorA0
import Derived.Test.YtoogodlnnijikaaGreatDoorA36
import Derived.Test.YtoogodlnnijikaaGreatDoorA11
namespace Go.Proofs.YtoogodlnnijikaaGreatDoor
open Go.ChangeShapes Go.WideShapes Go.ChangeAt Go.RowKit
set_option linter.unusedVariables false
def Opens (H:Type) (enc:TypeId × Value→H) (W:World) (held:Bool) (t:TypeId) (α:Type) (vals:α→Array Value) (L:α→Prop):Prop :=
 ∀ (fuel:Nat) (cs:List Value) (x:DataW H × List MemPlace),DataW.trod enc Tryz.prog W 0 (fun _=>true) held fuel t cs=some x→(∀ z ∈ x.1.weights Tryz.prog t,z≤reachBytes)→∃ q:α,cs=(vals q).toList∧L q
theorem sl_open {H:Type}{enc:TypeId × Value→H}{W:World}{held:Bool}{α:Type}{vals:α→Array Value}{L:α→Prop}{t e:TypeId}{n:Nat}(ih:Opens H enc W held e α vals L) (hu:Tryz.prog.underlying t=some (.slice e)) (hc:Tryz.prog.cellsOf e=n) (hn:0 < n) (hv:∀ q,(vals q).size=n) {k:Nat}{v:Value}{y:DataW H × List MemPlace}
  (g:DataW.trod enc Tryz.prog W 0 (fun _=>true) held k t [v]=some y) (hz:∀ z ∈ y.1.weights Tryz.prog t,z≤reachBytes):∃ (a:Option Addr) (c:Nat) (qs:List α),v=.slice a qs.length c∧SlAt W n a c (qs.map vals)∧∀ q ∈ qs,L q:=by
 rcases DataW.trod_slice hu g with ⟨hcs,_⟩ | ⟨a,len,cap,elems,rest,m,hm',hcs,hx6,hb,hl,hm,hlen',hel,hsp,hns⟩
 ·cases hcs
  exact⟨none,0,[],rfl,⟨Nat.le_refl _,by decide,fun i hi=>by simp at hi⟩,fun q hq=>by cases hq⟩
 ·cases hcs
  have each:∀ i,i < len→∃ q:α,(∀ j,j < n→W.cell? (a.add (i * n+j))=(vals q).toList[j]?)∧L q:=by
   intro i hi
   have h1:=hel i hi
   rw [hc] at h1
   have h2:elems[i]? = some elems[i]:=List.getElem?_eq_getElem (by omega)
   rw [h2] at h1
   obtain⟨cs',h3,h4⟩:=Option.bind_eq_some_iff.1 h1
   obtain⟨q,hq,hlq⟩:=ih m cs' elems[i] h4 (fun z hz1=>hz z (by
    rw [hx6,DataW.weights,hu]
    refine List.mem_cons_of_mem _ (List.mem_append_left _ ?_)
    exact mem_all (j:=i) (by simp [h2]) z hz1))
   obtain⟨_,hlen,hcell⟩:=World.cells?_some h3
   refine⟨q,fun j hj=>?_,hlq⟩
   have e0:=hcell j (by omega)
   rw [Go.Deep.add_add] at e0
   rw [e0,hq]
  by_cases h0:len=0
  ·subst h0
   exact⟨some a,cap,[],rfl,⟨Nat.zero_le _,by unfold maxLen at hm; omega,fun i hi=>by simp at hi⟩,fun q hq=>by cases hq⟩
  ·obtain⟨q0,hq0⟩:=each 0 (by omega)
   have:Inhabited α:=⟨q0⟩
   obtain⟨A,hA⟩:=Go.Deep.choose_lt each
   have hc0:=(hA 0 (by omega)).1 0 hn
   obtain⟨b,off,spot⟩:=a
   have hspot:spot=none:=by
    rw [List.getElem?_eq_getElem (by rw [Array.length_toList,hv]; exact hn)] at hc0
    simpa [Addr.add] using World.cell?_spot hc0
   subst hspot
   refine⟨some ⟨b,off,none⟩,cap,(List.range len).map A,by simp,⟨by simpa using hl,by unfold maxLen at hm; omega,fun i hi=>⟨b,off,rfl,fun j hj=>?_⟩⟩,fun q hq=>?_⟩
   ·have hi':i < len:=by simpa using hi
    have:=(hA i hi').1 j hj
    rw [Addr.add_lit,← Nat.add_assoc] at this
    rw [this]
    simp
   ·obtain⟨i,hi,rfl⟩:=List.mem_map.1 hq
    exact (hA i (List.mem_range.1 hi)).2
theorem nd_opens {H:Type}{enc:TypeId × Value→H}{W:World}{held:Bool}:Opens H enc W held 48 Nd Nd.vals (Lies W):=fun fuel cs x h hz=>nd_open fuel cs x h hz
set_option maxRecDepth 100000 in
theorem reg_opens {H:Type}{enc:TypeId × Value→H}{W:World}{held:Bool}:Opens H enc W held 62 RegM RegM.vals (RegL W):=by
 intro fuel cs x h hz
 obtain⟨xs,k,hk,hx,hlen,hxl,hf⟩:=DataW.trod_struct Tryz.underlying62 h
 rw [show Tryz.prog.cellsOf 62=11 by kernel_rfl] at hlen
 match cs,hlen with
 | [v0,v1,v2,v3,v4,v5,v6,v7,v8,v9,v10],_ =>
  have hxn:xs.length=4:=hxl
  match xs,hxn with
  | [y0,y1,y2,y3],_ =>
   have hz':∀ (j:Nat) (t:TypeId) (d:DataW H),[9,44,48,3][j]? = some t→([y0,y1,y2,y3].map (·.1))[j]? = some d→∀ z ∈ d.weights Tryz.prog t,z≤reachBytes:=by
    intro j t d h1 h2 z hz1
    refine hz z ?_
    rw [hx]
    have:=DataW.weights_mem_each (P:=Tryz.prog) h1 h2 z hz1
    rw [show (DataW.weights Tryz.prog 62 (.agg ([y0,y1,y2,y3].map (·.1)):DataW H))=DataW.weightsEach Tryz.prog [9,44,48,3] ([y0,y1,y2,y3].map (·.1)) by
     rw [DataW.weights,Tryz.underlying62]; rfl]
    exact this
   have g0:DataW.trod enc Tryz.prog W 0 (fun _=>true) held k 9 (([v0,v1,v2,v3,v4,v5,v6,v7,v8,v9,v10].drop 0).take (Tryz.prog.cellsOf 9))=some y0:=hf 0 _ rfl
   rw [show Tryz.prog.cellsOf 9=1 by kernel_rfl] at g0
   have k0:DataW.trod enc Tryz.prog W 0 (fun _=>true) held k 9 [v0]=some y0:=g0
   obtain⟨n0,e0,d0,_⟩:=DataW.trod_string (show Tryz.prog.underlying 9=some .string by kernel_rfl) k0
   have w0:SzX n0:=by
    have:=hz' 0 9 y0.1 rfl rfl n0.size (by rw [d0]; simp [DataW.weights])
    have h2:reachBytes≤140737488355328:=by decide
    exact Nat.le_trans this h2
   have g1:DataW.trod enc Tryz.prog W 0 (fun _=>true) held k 44 (([v0,v1,v2,v3,v4,v5,v6,v7,v8,v9,v10].drop 1).take (Tryz.prog.cellsOf 44))=some y1:=hf 1 _ rfl
   rw [show Tryz.prog.cellsOf 44=1 by kernel_rfl] at g1
   have k1:DataW.trod enc Tryz.prog W 0 (fun _=>true) held k 44 [v1]=some y1:=g1
   obtain⟨n1,e1,_,w1⟩:=DataW.trod_int (show Tryz.prog.underlying 44=some (.int .u8) by kernel_rfl) k1
   have g2:DataW.trod enc Tryz.prog W 0 (fun _=>true) held k 48 (([v0,v1,v2,v3,v4,v5,v6,v7,v8,v9,v10].drop 2).take (Tryz.prog.cellsOf 48))=some y2:=hf 2 _ rfl
   rw [show Tryz.prog.cellsOf 48=8 by kernel_rfl] at g2
   have k2:DataW.trod enc Tryz.prog W 0 (fun _=>true) held k 48 [v2,v3,v4,v5,v6,v7,v8,v9]=some y2:=g2
   obtain⟨n2,e2,w2⟩:=nd_opens k _ _ k2 (fun z hz1=>hz' 2 48 y2.1 rfl rfl z hz1)
   obtain⟨⟨a20,a21,a22,a23,a24,a25,a26⟩,b2,c2,q2⟩:=n2
   have g3:DataW.trod enc Tryz.prog W 0 (fun _=>true) held k 3 (([v0,v1,v2,v3,v4,v5,v6,v7,v8,v9,v10].drop 10).take (Tryz.prog.cellsOf 3))=some y3:=hf 3 _ rfl
   rw [show Tryz.prog.cellsOf 3=1 by kernel_rfl] at g3
   have k3:DataW.trod enc Tryz.prog W 0 (fun _=>true) held k 3 [v10]=some y3:=g3
   obtain⟨n3,e3,_,w3⟩:=DataW.trod_int (show Tryz.prog.underlying 3=some (.int .i64) by kernel_rfl) k3
   cases e0
   cases e1
   simp only [Nd.vals,hdA,Nd.h,Nd.a,Nd.c,Nd.ks,List.cons.injEq,and_true] at e2
   obtain⟨rfl,rfl,rfl,rfl,rfl,rfl,rfl,rfl⟩:=e2
   cases e3
   exact⟨⟨n0,n1,.mk ⟨a20,a21,a22,a23,a24,a25,a26⟩ b2 c2 q2,n3⟩,rfl,⟨w2,bounds_u8 w1,bounds_i64 w3,w0⟩⟩
set_option maxRecDepth 100000 in
theorem slot_opens {H:Type}{enc:TypeId × Value→H}{W:World}{held:Bool}:Opens H enc W held 65 SlotM SlotM.vals SlotL:=by
 intro fuel cs x h hz
 obtain⟨xs,k,hk,hx,hlen,hxl,hf⟩:=DataW.trod_struct Tryz.underlying65 h
 rw [show Tryz.prog.cellsOf 65=2 by kernel_rfl] at hlen
 match cs,hlen with
 | [v0,v1],_ =>
  have hxn:xs.length=2:=hxl
  match xs,hxn with
  | [y0,y1],_ =>
   have hz':∀ (j:Nat) (t:TypeId) (d:DataW H),[9,3][j]? = some t→([y0,y1].map (·.1))[j]? = some d→∀ z ∈ d.weights Tryz.prog t,z≤reachBytes:=by
    intro j t d h1 h2 z hz1
    refine hz z ?_
    rw [hx]
    have:=DataW.weights_mem_each (P:=Tryz.prog) h1 h2 z hz1
    rw [show (DataW.weights Tryz.prog 65 (.agg ([y0,y1].map (·.1)):DataW H))=DataW.weightsEach Tryz.prog [9,3] ([y0,y1].map (·.1)) by
     rw [DataW.weights,Tryz.underlying65]; rfl]
    exact this
   have g0:DataW.trod enc Tryz.prog W 0 (fun _=>true) held k 9 (([v0,v1].drop 0).take (Tryz.prog.cellsOf 9))=some y0:=hf 0 _ rfl
   rw [show Tryz.prog.cellsOf 9=1 by kernel_rfl] at g0
   have k0:DataW.trod enc Tryz.prog W 0 (fun _=>true) held k 9 [v0]=some y0:=g0
   obtain⟨n0,e0,d0,_⟩:=DataW.trod_string (show Tryz.prog.underlying 9=some .string by kernel_rfl) k0
   have w0:SzX n0:=by
    have:=hz' 0 9 y0.1 rfl rfl n0.size (by rw [d0]; simp [DataW.weights])
    have h2:reachBytes≤140737488355328:=by decide
    exact Nat.le_trans this h2
   have g1:DataW.trod enc Tryz.prog W 0 (fun _=>true) held k 3 (([v0,v1].drop 1).take (Tryz.prog.cellsOf 3))=some y1:=hf 1 _ rfl
   rw [show Tryz.prog.cellsOf 3=1 by kernel_rfl] at g1
   have k1:DataW.trod enc Tryz.prog W 0 (fun _=>true) held k 3 [v1]=some y1:=g1
   obtain⟨n1,e1,_,w1⟩:=DataW.trod_int (show Tryz.prog.underlying 3=some (.int .i64) by kernel_rfl) k1
   cases e0
   cases e1
   exact⟨⟨n0,n1⟩,rfl,⟨bounds_i64 w1,w0⟩⟩
set_option maxRecDepth 100000 in
theorem do_opens {H:Type}{enc:TypeId × Value→H}{W:World}{held:Bool}:Opens H enc W held 105 DoM DoM.vals (DoL W):=by
 intro fuel cs x h hz
 obtain⟨xs,k,hk,hx,hlen,hxl,hf⟩:=DataW.trod_struct Tryz.underlying105 h
 rw [show Tryz.prog.cellsOf 105=36 by kernel_rfl] at hlen
 match cs,hlen with
 | (v0 :: v1 :: v2 :: v3 :: v4 :: v5 :: v6 :: v7 :: v8 :: v9 :: v10 :: v11 :: v12 :: v13 :: v14 :: v15 :: v16 :: v17 :: v18 :: v19 :: v20 :: v21 :: v22 :: v23 :: v24 :: v25 :: v26 :: v27 :: v28 :: v29 :: v30 :: v31 :: v32 :: v33 :: v34 :: v35 :: []),_ =>
  have hxn:xs.length=8:=hxl
  match xs,hxn with
  | [y0,y1,y2,y3,y4,y5,y6,y7],_ =>
   have hz':∀ (j:Nat) (t:TypeId) (d:DataW H),[102,103,9,48,48,48,48,3][j]? = some t→([y0,y1,y2,y3,y4,y5,y6,y7].map (·.1))[j]? = some d→∀ z ∈ d.weights Tryz.prog t,z≤reachBytes:=by
    intro j t d h1 h2 z hz1
    refine hz z ?_
    rw [hx]
    have:=DataW.weights_mem_each (P:=Tryz.prog) h1 h2 z hz1
    rw [show (DataW.weights Tryz.prog 105 (.agg ([y0,y1,y2,y3,y4,y5,y6,y7].map (·.1)):DataW H))=DataW.weightsEach Tryz.prog [102,103,9,48,48,48,48,3] ([y0,y1,y2,y3,y4,y5,y6,y7].map (·.1)) by
     rw [DataW.weights,Tryz.underlying105]; rfl]
    exact this
   have g0:DataW.trod enc Tryz.prog W 0 (fun _=>true) held k 102 (((v0 :: v1 :: v2 :: v3 :: v4 :: v5 :: v6 :: v7 :: v8 :: v9 :: v10 :: v11 :: v12 :: v13 :: v14 :: v15 :: v16 :: v17 :: v18 :: v19 :: v20 :: v21 :: v22 :: v23 :: v24 :: v25 :: v26 :: v27 :: v28 :: v29 :: v30 :: v31 :: v32 :: v33 :: v34 :: v35 :: []).drop 0).take (Tryz.prog.cellsOf 102))=some y0:=hf 0 _ rfl
   rw [show Tryz.prog.cellsOf 102=1 by kernel_rfl] at g0
   have k0:DataW.trod enc Tryz.prog W 0 (fun _=>true) held k 102 [v0]=some y0:=g0
   obtain⟨n0,e0,_,w0⟩:=DataW.trod_int (show Tryz.prog.underlying 102=some (.int .u8) by kernel_rfl) k0
   have g1:DataW.trod enc Tryz.prog W 0 (fun _=>true) held k 103 (((v0 :: v1 :: v2 :: v3 :: v4 :: v5 :: v6 :: v7 :: v8 :: v9 :: v10 :: v11 :: v12 :: v13 :: v14 :: v15 :: v16 :: v17 :: v18 :: v19 :: v20 :: v21 :: v22 :: v23 :: v24 :: v25 :: v26 :: v27 :: v28 :: v29 :: v30 :: v31 :: v32 :: v33 :: v34 :: v35 :: []).drop 1).take (Tryz.prog.cellsOf 103))=some y1:=hf 1 _ rfl
   rw [show Tryz.prog.cellsOf 103=1 by kernel_rfl] at g1
   have k1:DataW.trod enc Tryz.prog W 0 (fun _=>true) held k 103 [v1]=some y1:=g1
   obtain⟨n1,e1,_,w1⟩:=DataW.trod_int (show Tryz.prog.underlying 103=some (.int .u8) by kernel_rfl) k1
   have g2:DataW.trod enc Tryz.prog W 0 (fun _=>true) held k 9 (((v0 :: v1 :: v2 :: v3 :: v4 :: v5 :: v6 :: v7 :: v8 :: v9 :: v10 :: v11 :: v12 :: v13 :: v14 :: v15 :: v16 :: v17 :: v18 :: v19 :: v20 :: v21 :: v22 :: v23 :: v24 :: v25 :: v26 :: v27 :: v28 :: v29 :: v30 :: v31 :: v32 :: v33 :: v34 :: v35 :: []).drop 2).take (Tryz.prog.cellsOf 9))=some y2:=hf 2 _ rfl
   rw [show Tryz.prog.cellsOf 9=1 by kernel_rfl] at g2
   have k2:DataW.trod enc Tryz.prog W 0 (fun _=>true) held k 9 [v2]=some y2:=g2
   obtain⟨n2,e2,d2,_⟩:=DataW.trod_string (show Tryz.prog.underlying 9=some .string by kernel_rfl) k2
   have w2:SzX n2:=by
    have:=hz' 2 9 y2.1 rfl rfl n2.size (by rw [d2]; simp [DataW.weights])
    have h2:reachBytes≤140737488355328:=by decide
    exact Nat.le_trans this h2
   have g3:DataW.trod enc Tryz.prog W 0 (fun _=>true) held k 48 (((v0 :: v1 :: v2 :: v3 :: v4 :: v5 :: v6 :: v7 :: v8 :: v9 :: v10 :: v11 :: v12 :: v13 :: v14 :: v15 :: v16 :: v17 :: v18 :: v19 :: v20 :: v21 :: v22 :: v23 :: v24 :: v25 :: v26 :: v27 :: v28 :: v29 :: v30 :: v31 :: v32 :: v33 :: v34 :: v35 :: []).drop 3).take (Tryz.prog.cellsOf 48))=some y3:=hf 3 _ rfl
   rw [show Tryz.prog.cellsOf 48=8 by kernel_rfl] at g3
   have k3:DataW.trod enc Tryz.prog W 0 (fun _=>true) held k 48 [v3,v4,v5,v6,v7,v8,v9,v10]=some y3:=g3
   obtain⟨n3,e3,w3⟩:=nd_opens k _ _ k3 (fun z hz1=>hz' 3 48 y3.1 rfl rfl z hz1)
   obtain⟨⟨a30,a31,a32,a33,a34,a35,a36⟩,b3,c3,q3⟩:=n3
   have g4:DataW.trod enc Tryz.prog W 0 (fun _=>true) held k 48 (((v0 :: v1 :: v2 :: v3 :: v4 :: v5 :: v6 :: v7 :: v8 :: v9 :: v10 :: v11 :: v12 :: v13 :: v14 :: v15 :: v16 :: v17 :: v18 :: v19 :: v20 :: v21 :: v22 :: v23 :: v24 :: v25 :: v26 :: v27 :: v28 :: v29 :: v30 :: v31 :: v32 :: v33 :: v34 :: v35 :: []).drop 11).take (Tryz.prog.cellsOf 48))=some y4:=hf 4 _ rfl
   rw [show Tryz.prog.cellsOf 48=8 by kernel_rfl] at g4
   have k4:DataW.trod enc Tryz.prog W 0 (fun _=>true) held k 48 [v11,v12,v13,v14,v15,v16,v17,v18]=some y4:=g4
   obtain⟨n4,e4,w4⟩:=nd_opens k _ _ k4 (fun z hz1=>hz' 4 48 y4.1 rfl rfl z hz1)
   obtain⟨⟨a40,a41,a42,a43,a44,a45,a46⟩,b4,c4,q4⟩:=n4
   have g5:DataW.trod enc Tryz.prog W 0 (fun _=>true) held k 48 (((v0 :: v1 :: v2 :: v3 :: v4 :: v5 :: v6 :: v7 :: v8 :: v9 :: v10 :: v11 :: v12 :: v13 :: v14 :: v15 :: v16 :: v17 :: v18 :: v19 :: v20 :: v21 :: v22 :: v23 :: v24 :: v25 :: v26 :: v27 :: v28 :: v29 :: v30 :: v31 :: v32 :: v33 :: v34 :: v35 :: []).drop 19).take (Tryz.prog.cellsOf 48))=some y5:=hf 5 _ rfl
   rw [show Tryz.prog.cellsOf 48=8 by kernel_rfl] at g5
   have k5:DataW.trod enc Tryz.prog W 0 (fun _=>true) held k 48 [v19,v20,v21,v22,v23,v24,v25,v26]=some y5:=g5
   obtain⟨n5,e5,w5⟩:=nd_opens k _ _ k5 (fun z hz1=>hz' 5 48 y5.1 rfl rfl z hz1)
   obtain⟨⟨a50,a51,a52,a53,a54,a55,a56⟩,b5,c5,q5⟩:=n5
   have g6:DataW.trod enc Tryz.prog W 0 (fun _=>true) held k 48 (((v0 :: v1 :: v2 :: v3 :: v4 :: v5 :: v6 :: v7 :: v8 :: v9 :: v10 :: v11 :: v12 :: v13 :: v14 :: v15 :: v16 :: v17 :: v18 :: v19 :: v20 :: v21 :: v22 :: v23 :: v24 :: v25 :: v26 :: v27 :: v28 :: v29 :: v30 :: v31 :: v32 :: v33 :: v34 :: v35 :: []).drop 27).take (Tryz.prog.cellsOf 48))=some y6:=hf 6 _ rfl
   rw [show Tryz.prog.cellsOf 48=8 by kernel_rfl] at g6
   have k6:DataW.trod enc Tryz.prog W 0 (fun _=>true) held k 48 [v27,v28,v29,v30,v31,v32,v33,v34]=some y6:=g6
   obtain⟨n6,e6,w6⟩:=nd_opens k _ _ k6 (fun z hz1=>hz' 6 48 y6.1 rfl rfl z hz1)
   obtain⟨⟨a60,a61,a62,a63,a64,a65,a66⟩,b6,c6,q6⟩:=n6
   have g7:DataW.trod enc Tryz.prog W 0 (fun _=>true) held k 3 (((v0 :: v1 :: v2 :: v3 :: v4 :: v5 :: v6 :: v7 :: v8 :: v9 :: v10 :: v11 :: v12 :: v13 :: v14 :: v15 :: v16 :: v17 :: v18 :: v19 :: v20 :: v21 :: v22 :: v23 :: v24 :: v25 :: v26 :: v27 :: v28 :: v29 :: v30 :: v31 :: v32 :: v33 :: v34 :: v35 :: []).drop 35).take (Tryz.prog.cellsOf 3))=some y7:=hf 7 _ rfl
   rw [show Tryz.prog.cellsOf 3=1 by kernel_rfl] at g7
   have k7:DataW.trod enc Tryz.prog W 0 (fun _=>true) held k 3 [v35]=some y7:=g7
   obtain⟨n7,e7,_,w7⟩:=DataW.trod_int (show Tryz.prog.underlying 3=some (.int .i64) by kernel_rfl) k7
   cases e0
   cases e1
   cases e2
   simp only [Nd.vals,hdA,Nd.h,Nd.a,Nd.c,Nd.ks,List.cons.injEq,and_true] at e3
   obtain⟨rfl,rfl,rfl,rfl,rfl,rfl,rfl,rfl⟩:=e3
   simp only [Nd.vals,hdA,Nd.h,Nd.a,Nd.c,Nd.ks,List.cons.injEq,and_true] at e4
   obtain⟨rfl,rfl,rfl,rfl,rfl,rfl,rfl,rfl⟩:=e4
   simp only [Nd.vals,hdA,Nd.h,Nd.a,Nd.c,Nd.ks,List.cons.injEq,and_true] at e5
   obtain⟨rfl,rfl,rfl,rfl,rfl,rfl,rfl,rfl⟩:=e5
   simp only [Nd.vals,hdA,Nd.h,Nd.a,Nd.c,Nd.ks,List.cons.injEq,and_true] at e6
   obtain⟨rfl,rfl,rfl,rfl,rfl,rfl,rfl,rfl⟩:=e6
   cases e7
   exact⟨⟨n0,n1,n2,.mk ⟨a30,a31,a32,a33,a34,a35,a36⟩ b3 c3 q3,.mk ⟨a40,a41,a42,a43,a44,a45,a46⟩ b4 c4 q4,.mk ⟨a50,a51,a52,a53,a54,a55,a56⟩ b5 c5 q5,.mk ⟨a60,a61,a62,a63,a64,a65,a66⟩ b6 c6 q6,n7⟩,rfl,⟨w3,w4,w5,w6,bounds_u8 w0,bounds_u8 w1,bounds_i64 w7,w2⟩⟩
set_option maxRecDepth 100000 in
theorem rule_opens {H:Type}{enc:TypeId × Value→H}{W:World}{held:Bool}:Opens H enc W held 92 RuleM RuleM.vals (RuleL W):=by
 intro fuel cs x h hz
 obtain⟨xs,k,hk,hx,hlen,hxl,hf⟩:=DataW.trod_struct Tryz.underlying92 h
 rw [show Tryz.prog.cellsOf 92=10 by kernel_rfl] at hlen
 match cs,hlen with
 | [v0,v1,v2,v3,v4,v5,v6,v7,v8,v9],_ =>
  have hxn:xs.length=3:=hxl
  match xs,hxn with
  | [y0,y1,y2],_ =>
   have hz':∀ (j:Nat) (t:TypeId) (d:DataW H),[48,90,3][j]? = some t→([y0,y1,y2].map (·.1))[j]? = some d→∀ z ∈ d.weights Tryz.prog t,z≤reachBytes:=by
    intro j t d h1 h2 z hz1
    refine hz z ?_
    rw [hx]
    have:=DataW.weights_mem_each (P:=Tryz.prog) h1 h2 z hz1
    rw [show (DataW.weights Tryz.prog 92 (.agg ([y0,y1,y2].map (·.1)):DataW H))=DataW.weightsEach Tryz.prog [48,90,3] ([y0,y1,y2].map (·.1)) by
     rw [DataW.weights,Tryz.underlying92]; rfl]
    exact this
   have g0:DataW.trod enc Tryz.prog W 0 (fun _=>true) held k 48 (([v0,v1,v2,v3,v4,v5,v6,v7,v8,v9].drop 0).take (Tryz.prog.cellsOf 48))=some y0:=hf 0 _ rfl
   rw [show Tryz.prog.cellsOf 48=8 by kernel_rfl] at g0
   have k0:DataW.trod enc Tryz.prog W 0 (fun _=>true) held k 48 [v0,v1,v2,v3,v4,v5,v6,v7]=some y0:=g0
   obtain⟨n0,e0,w0⟩:=nd_opens k _ _ k0 (fun z hz1=>hz' 0 48 y0.1 rfl rfl z hz1)
   obtain⟨⟨a00,a01,a02,a03,a04,a05,a06⟩,b0,c0,q0⟩:=n0
   have g1:DataW.trod enc Tryz.prog W 0 (fun _=>true) held k 90 (([v0,v1,v2,v3,v4,v5,v6,v7,v8,v9].drop 8).take (Tryz.prog.cellsOf 90))=some y1:=hf 1 _ rfl
   rw [show Tryz.prog.cellsOf 90=1 by kernel_rfl] at g1
   have k1:DataW.trod enc Tryz.prog W 0 (fun _=>true) held k 90 [v8]=some y1:=g1
   obtain⟨a1,c1,n1,e1,s1,w1⟩:=sl_open do_opens Tryz.underlying90 (show Tryz.prog.cellsOf 105=36 by kernel_rfl) (by decide) (fun q=>rfl) k1 (fun z hz1=>hz' 1 90 y1.1 rfl rfl z hz1)
   have g2:DataW.trod enc Tryz.prog W 0 (fun _=>true) held k 3 (([v0,v1,v2,v3,v4,v5,v6,v7,v8,v9].drop 9).take (Tryz.prog.cellsOf 3))=some y2:=hf 2 _ rfl
   rw [show Tryz.prog.cellsOf 3=1 by kernel_rfl] at g2
   have k2:DataW.trod enc Tryz.prog W 0 (fun _=>true) held k 3 [v9]=some y2:=g2
   obtain⟨n2,e2,_,w2⟩:=DataW.trod_int (show Tryz.prog.underlying 3=some (.int .i64) by kernel_rfl) k2
   simp only [Nd.vals,hdA,Nd.h,Nd.a,Nd.c,Nd.ks,List.cons.injEq,and_true] at e0
   obtain⟨rfl,rfl,rfl,rfl,rfl,rfl,rfl,rfl⟩:=e0
   cases e1
   cases e2
   exact⟨⟨.mk ⟨a00,a01,a02,a03,a04,a05,a06⟩ b0 c0 q0,a1,c1,n1,n2⟩,rfl,⟨w0,s1,w1,bounds_i64 w2⟩⟩
set_option maxRecDepth 100000 in
theorem state_opens {H:Type}{enc:TypeId × Value→H}{W:World}{held:Bool}:Opens H enc W held 68 StateM StateM.vals (StateL W):=by
 intro fuel cs x h hz
 obtain⟨xs,k,hk,hx,hlen,hxl,hf⟩:=DataW.trod_struct Tryz.underlying68 h
 rw [show Tryz.prog.cellsOf 68=3 by kernel_rfl] at hlen
 match cs,hlen with
 | [v0,v1,v2],_ =>
  have hxn:xs.length=3:=hxl
  match xs,hxn with
  | [y0,y1,y2],_ =>
   have hz':∀ (j:Nat) (t:TypeId) (d:DataW H),[9,66,3][j]? = some t→([y0,y1,y2].map (·.1))[j]? = some d→∀ z ∈ d.weights Tryz.prog t,z≤reachBytes:=by
    intro j t d h1 h2 z hz1
    refine hz z ?_
    rw [hx]
    have:=DataW.weights_mem_each (P:=Tryz.prog) h1 h2 z hz1
    rw [show (DataW.weights Tryz.prog 68 (.agg ([y0,y1,y2].map (·.1)):DataW H))=DataW.weightsEach Tryz.prog [9,66,3] ([y0,y1,y2].map (·.1)) by
     rw [DataW.weights,Tryz.underlying68]; rfl]
    exact this
   have g0:DataW.trod enc Tryz.prog W 0 (fun _=>true) held k 9 (([v0,v1,v2].drop 0).take (Tryz.prog.cellsOf 9))=some y0:=hf 0 _ rfl
   rw [show Tryz.prog.cellsOf 9=1 by kernel_rfl] at g0
   have k0:DataW.trod enc Tryz.prog W 0 (fun _=>true) held k 9 [v0]=some y0:=g0
   obtain⟨n0,e0,d0,_⟩:=DataW.trod_string (show Tryz.prog.underlying 9=some .string by kernel_rfl) k0
   have w0:SzX n0:=by
    have:=hz' 0 9 y0.1 rfl rfl n0.size (by rw [d0]; simp [DataW.weights])
    have h2:reachBytes≤140737488355328:=by decide
    exact Nat.le_trans this h2
   have g1:DataW.trod enc Tryz.prog W 0 (fun _=>true) held k 66 (([v0,v1,v2].drop 1).take (Tryz.prog.cellsOf 66))=some y1:=hf 1 _ rfl
   rw [show Tryz.prog.cellsOf 66=1 by kernel_rfl] at g1
   have k1:DataW.trod enc Tryz.prog W 0 (fun _=>true) held k 66 [v1]=some y1:=g1
   obtain⟨a1,c1,n1,e1,s1,w1⟩:=sl_open rule_opens Tryz.underlying66 (show Tryz.prog.cellsOf 92=10 by kernel_rfl) (by decide) (fun q=>rfl) k1 (fun z hz1=>hz' 1 66 y1.1 rfl rfl z hz1)
   have g2:DataW.trod enc Tryz.prog W 0 (fun _=>true) held k 3 (([v0,v1,v2].drop 2).take (Tryz.prog.cellsOf 3))=some y2:=hf 2 _ rfl
   rw [show Tryz.prog.cellsOf 3=1 by kernel_rfl] at g2
   have k2:DataW.trod enc Tryz.prog W 0 (fun _=>true) held k 3 [v2]=some y2:=g2
   obtain⟨n2,e2,_,w2⟩:=DataW.trod_int (show Tryz.prog.underlying 3=some (.int .i64) by kernel_rfl) k2
   cases e0
   cases e1
   cases e2
   exact⟨⟨n0,a1,c1,n1,n2⟩,rfl,⟨s1,w1,bounds_i64 w2,w0⟩⟩
set_option maxRecDepth 100000 in
theorem strat_opens {H:Type}{enc:TypeId × Value→H}{W:World}{held:Bool}:Opens H enc W held 27 StratM StratM.vals (StratL W):=by
 intro fuel cs x h hz
 obtain⟨xs,k,hk,hx,hlen,hxl,hf⟩:=DataW.trod_struct Tryz.underlying27 h
 rw [show Tryz.prog.cellsOf 27=4 by kernel_rfl] at hlen
 match cs,hlen with
 | [v0,v1,v2,v3],_ =>
  have hxn:xs.length=4:=hxl
  match xs,hxn with
  | [y0,y1,y2,y3],_ =>
   have hz':∀ (j:Nat) (t:TypeId) (d:DataW H),[9,23,24,25][j]? = some t→([y0,y1,y2,y3].map (·.1))[j]? = some d→∀ z ∈ d.weights Tryz.prog t,z≤reachBytes:=by
    intro j t d h1 h2 z hz1
    refine hz z ?_
    rw [hx]
    have:=DataW.weights_mem_each (P:=Tryz.prog) h1 h2 z hz1
    rw [show (DataW.weights Tryz.prog 27 (.agg ([y0,y1,y2,y3].map (·.1)):DataW H))=DataW.weightsEach Tryz.prog [9,23,24,25] ([y0,y1,y2,y3].map (·.1)) by
     rw [DataW.weights,Tryz.underlying27]; rfl]
    exact this
   have g0:DataW.trod enc Tryz.prog W 0 (fun _=>true) held k 9 (([v0,v1,v2,v3].drop 0).take (Tryz.prog.cellsOf 9))=some y0:=hf 0 _ rfl
   rw [show Tryz.prog.cellsOf 9=1 by kernel_rfl] at g0
   have k0:DataW.trod enc Tryz.prog W 0 (fun _=>true) held k 9 [v0]=some y0:=g0
   obtain⟨n0,e0,d0,_⟩:=DataW.trod_string (show Tryz.prog.underlying 9=some .string by kernel_rfl) k0
   have w0:SzX n0:=by
    have:=hz' 0 9 y0.1 rfl rfl n0.size (by rw [d0]; simp [DataW.weights])
    have h2:reachBytes≤140737488355328:=by decide
    exact Nat.le_trans this h2
   have g1:DataW.trod enc Tryz.prog W 0 (fun _=>true) held k 23 (([v0,v1,v2,v3].drop 1).take (Tryz.prog.cellsOf 23))=some y1:=hf 1 _ rfl
   rw [show Tryz.prog.cellsOf 23=1 by kernel_rfl] at g1
   have k1:DataW.trod enc Tryz.prog W 0 (fun _=>true) held k 23 [v1]=some y1:=g1
   obtain⟨a1,c1,n1,e1,s1,w1⟩:=sl_open reg_opens Tryz.underlying23 (show Tryz.prog.cellsOf 62=11 by kernel_rfl) (by decide) (fun q=>rfl) k1 (fun z hz1=>hz' 1 23 y1.1 rfl rfl z hz1)
   have g2:DataW.trod enc Tryz.prog W 0 (fun _=>true) held k 24 (([v0,v1,v2,v3].drop 2).take (Tryz.prog.cellsOf 24))=some y2:=hf 2 _ rfl
   rw [show Tryz.prog.cellsOf 24=1 by kernel_rfl] at g2
   have k2:DataW.trod enc Tryz.prog W 0 (fun _=>true) held k 24 [v2]=some y2:=g2
   obtain⟨a2,c2,n2,e2,s2,w2⟩:=sl_open slot_opens Tryz.underlying24 (show Tryz.prog.cellsOf 65=2 by kernel_rfl) (by decide) (fun q=>rfl) k2 (fun z hz1=>hz' 2 24 y2.1 rfl rfl z hz1)
   have g3:DataW.trod enc Tryz.prog W 0 (fun _=>true) held k 25 (([v0,v1,v2,v3].drop 3).take (Tryz.prog.cellsOf 25))=some y3:=hf 3 _ rfl
   rw [show Tryz.prog.cellsOf 25=1 by kernel_rfl] at g3
   have k3:DataW.trod enc Tryz.prog W 0 (fun _=>true) held k 25 [v3]=some y3:=g3
   obtain⟨a3,c3,n3,e3,s3,w3⟩:=sl_open state_opens Tryz.underlying25 (show Tryz.prog.cellsOf 68=3 by kernel_rfl) (by decide) (fun q=>rfl) k3 (fun z hz1=>hz' 3 25 y3.1 rfl rfl z hz1)
   cases e0
   cases e1
   cases e2
   cases e3
   exact⟨⟨n0,a1,c1,n1,a2,c2,n2,a3,c3,n3⟩,rfl,⟨s1,w1,s2,w2,s3,w3,w0⟩⟩
theorem strat_in {H:Type}{enc:TypeId × Value→H}{W:World}{held:Bool}{fuel:Nat}{cs:Array Value}{x:DataW H × List MemPlace}
  (h:DataW.trod enc Tryz.prog W 0 (fun _=>true) held fuel 27 (Value.agg cs).cells.toList=some x) (hz:∀ z ∈ x.1.weights Tryz.prog 27,z≤reachBytes):∃ m:StratM,cs=m.vals∧StratL W m:=by
 obtain⟨m,hm,hl⟩:=strat_opens fuel _ x h hz
 exact⟨m,Array.toList_inj.1 hm,hl⟩
end Go.Proofs.YtoogodlnnijikaaGreatDoor
