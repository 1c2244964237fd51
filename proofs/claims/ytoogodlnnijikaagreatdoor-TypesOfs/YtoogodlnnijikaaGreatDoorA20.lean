import Derived.Test.YtoogodlnnijikaaGreatDoorA0
import Derived.Test.YtoogodlnnijikaaGreatDoorA19
import Derived.Test.YtoogodlnnijikaaGreatDoorA6
import Derived.Test.YtoogodlnnijikaaGreatDoorA12
import Derived.Laws.MakeOwn
import Derived.Deep.MidRow
import Derived.Test.YtoogodlnnijikaaGreatDoorA7
import Derived.Test.YtoogodlnnijikaaGreatDoorA13
import Derived.Test.YtoogodlnnijikaaGreatDoorA16
import Derived.Test.YtoogodlnnijikaaGreatDoorA2
namespace Go.Proofs.YtoogodlnnijikaaGreatDoor
open Go.RowKit
set_option linter.unusedVariables false
set_option linter.unusedSimpArgs false
inductive Lnt (w:World) (lo:Nat):Nd→Prop
 | mk (h:Hd) (b c:Nat) (ks:List Nd) (hr:Rg h) (hc:c=ks.length+2) (hm:ks.length≤1000000000000) (hb:lo≤b)
   (m0:w.cell? ⟨b,ks.length * 8+7,none⟩=some (zI (-771))) (m1:w.cell? ⟨b,(ks.length+1) * 8+7,none⟩=some (zI (-772)))
   (hk:∀ i (hi:i < ks.length),NdAt w b (i * 8) ks[i]) (hs:∀ k ∈ ks,Lnt w lo k):Lnt w lo (.mk h (some ⟨b,0,none⟩) c ks)
theorem Lnt.lies {w:World}{lo:Nat}{m:Nd}(h:Lnt w lo m):Lies w m:=by
 induction h with
 | mk h b c ks hr hc hm hb m0 m1 hk hs ih =>
  refine .mk h _ c ks hr (by omega) (by omega) (fun i hi=>⟨b,0,rfl,?_⟩) ih
  rw [Nat.zero_add]
  exact hk i hi
theorem Lnt.blk {w w':World}{lo:Nat}{m:Nd}(h:Lnt w lo m) (k:∀ b,lo≤b→b < w§→w'.heap[b]? = w.heap[b]?):Lnt w' lo m:=by
 induction h with
 | mk h b c ks hr hc hm hb m0 m1 hk hs ih =>
  have e:=k b hb (World.block_lt_of_cell? w _ m0)
  exact .mk h b c ks hr hc hm hb (by rw [World.cell?_of_block e]; exact m0) (by rw [World.cell?_of_block e]; exact m1) (fun i hi=>(hk i hi).blk e) ih
theorem Lnt.on {w w':World}{lo:Nat}{m:Nd}(h:Lnt w lo m) (k:Below w§ w w'):Lnt w' lo m:=h.blk fun b _ hb=>k.block b hb
theorem Lnt.lo {w:World}{lo lo':Nat}{m:Nd}(h:Lnt w lo m) (k:lo'≤lo):Lnt w lo' m:=by
 induction h with
 | mk h b c ks hr hc hm hb m0 m1 hk hs ih=>exact .mk h b c ks hr hc hm (Nat.le_trans k hb) m0 m1 hk ih
theorem below_cellsq {w:World}{B R:Nat}(hR:B≤R):∀ (cs:List Value) (o:Nat) {V:World},Below B w V→Below B w (V.setCells R o cs)
 | [],_,_,h=>h
 | v :: r,o,V,h=>by
  rw [World.setCells]
  exact below_cellsq hR r (o+1) (h.setCell hR v)
theorem heap_cells (R:Nat):∀ (cs:List Value) (o:Nat) (V:World) (b:Nat),b≠R→(V.setCells R o cs).heap[b]? = V.heap[b]?
 | [],_,_,_,_=>rfl
 | v :: r,o,V,b,h=>by
  rw [World.setCells]
  exact (heap_cells R r (o+1) _ b h).trans (Below.heap_setCell _ _ _ _ h)
theorem size_cells (R:Nat):∀ (cs:List Value) (o:Nat) (V:World),(V.setCells R o cs)§=V§
 | [],_,_=>rfl
 | v :: r,o,V=>by
  rw [World.setCells]
  exact (size_cells R r (o+1) _).trans (World.size_setCell ..)
structure Ln (wr:World) (G n:Nat) (L:List Nd):Prop where
 lt:G < wr§
 th:∀ k,k < (n+2) * 8→(wr.cell? ⟨G,k,none⟩).isSome=true∧wr.frozen? ⟨G,k,none⟩=false
 at_:∀ j (hj:j < L.length),NdAt wr G (j * 8) L[j]
 sub:∀ k ∈ L,Lnt wr (G+1) k
theorem Ln.on {w w':World}{G n:Nat}{L:List Nd}(h:Ln w G n L) (k:Below w§ w w'):Ln w' G n L:=by
 have e:=k.block G h.lt
 exact⟨Nat.lt_of_lt_of_le h.lt k.size,fun j hj=>by rw [World.cell?_of_block e,World.frozen?_of_block e]; exact h.th j hj,fun j hj=>(h.at_ j hj).blk e,fun x hx=>(h.sub x hx).on k⟩
theorem Ln.put {w w1:World}{G n:Nat}{L:List Nd}{k:Nd}(h:Ln w G n L) (hb:Below w§ w w1) (hk:Lnt w1 w§ k) (hl:L.length < n):Ln (w1.setCells G (L.length * 8) k.vals.toList) G n (L ++ [k]):=by
 have h1:=h.on hb
 have hsz:k.vals.toList.length=8:=rfl
 have hth:w1.there G (L.length * 8) k.vals.toList.length:=fun j hj=>by rw [hsz] at hj; exact h1.th _ (by omega)
 refine⟨by rw [size_cells]; exact h1.lt,fun j hj=>⟨World.isSome_setCells _ _ _ _ _ (h1.th j hj).1,by rw [World.frozen?_setCells]; exact (h1.th j hj).2⟩,fun j hj=>?_,fun x hx=>?_⟩
 ·rcases Nat.lt_or_ge j L.length with h2 | h2
  ·rw [List.getElem_append_left h2]
   have ho:∀ i,i < 8→(w1.setCells G (L.length * 8) k.vals.toList).cell? ⟨G,j * 8+i,none⟩=w1.cell? ⟨G,j * 8+i,none⟩:=fun i hi=>World.cell?_setCells_out _ _ _ _ _ (fun _ _=>.inl (by show j * 8+i < _; omega))
   obtain⟨c0,c1,c2,c3,c4,c5,c6,c7⟩:=h1.at_ j h2
   exact⟨(ho 0 (by omega)).trans c0,(ho 1 (by omega)).trans c1,(ho 2 (by omega)).trans c2,(ho 3 (by omega)).trans c3,(ho 4 (by omega)).trans c4,(ho 5 (by omega)).trans c5,(ho 6 (by omega)).trans c6,(ho 7 (by omega)).trans c7⟩
  ·have e:j=L.length:=by rw [List.length_append,List.length_singleton] at hj; omega
   subst e
   rw [List.getElem_append_right (Nat.le_refl _)]
   simp only [Nat.sub_self,List.getElem_cons_zero]
   have hr:=World.rangeAt_setCells_same w1 G (L.length * 8) k.vals.toList hth
   exact⟨hr 0 _ rfl,hr 1 _ rfl,hr 2 _ rfl,hr 3 _ rfl,hr 4 _ rfl,hr 5 _ rfl,hr 6 _ rfl,hr 7 _ rfl⟩
 ·have hx2:Lnt w1 (G+1) x:=by
   rcases List.mem_append.1 hx with h3 | h3
   ·exact h1.sub x h3
   ·rw [List.mem_singleton.1 h3]; exact hk.lo h.lt
  exact hx2.blk fun b h4 _=>heap_cells _ _ _ _ _ (by omega)
theorem Ln.mark {w:World}{G n:Nat}{L:List Nd}(h:Ln w G n L) (hl:L.length≤n) (o:Nat) (ho:n * 8≤o) (v:Value):Ln (w.setCell ⟨G,o,none⟩ v) G n L:=by
 have hne:∀ j,j≠o→(w.setCell ⟨G,o,none⟩ v).cell? ⟨G,j,none⟩=w.cell? ⟨G,j,none⟩:=fun j hj=>World.cell?_setCell_other _ _ _ _ (fun e=>hj (by injection e with _ e2; exact e2.symm))
 refine⟨by rw [World.size_setCell]; exact h.lt,fun j hj=>⟨?_,by rw [World.frozen?_setCell]; exact (h.th j hj).2⟩,fun j hj=>?_,fun x hx=>(h.sub x hx).blk fun b h4 _=>Below.heap_setCell _ _ _ _ (by show b≠G; omega)⟩
 ·obtain⟨u,hu⟩:=Option.isSome_iff_exists.1 (h.th j hj).1
  by_cases e:j=o
  ·subst e; rw [World.cell?_setCell_same _ _ _ hu]; rfl
  ·rw [hne j e,hu]; rfl
 ·obtain⟨c0,c1,c2,c3,c4,c5,c6,c7⟩:=h.at_ j hj
  exact⟨(hne _ (by omega)).trans c0,(hne _ (by omega)).trans c1,(hne _ (by omega)).trans c2,(hne _ (by omega)).trans c3,(hne _ (by omega)).trans c4,(hne _ (by omega)).trans c5,(hne _ (by omega)).trans c6,(hne _ (by omega)).trans c7⟩
theorem sizeNq:(Tryz.prog.info? 48).map (·.size)=some 8:=by kernel_rfl
theorem allN (m:Nd):m.vals.all (·.oneCell')=true:=by simp [Nd.vals,hdA,Value.oneCell']
theorem size_memN:∀ {ks:List Nd}{k:Nd},k ∈ ks→size k≤sizes ks
 | x :: l,k,h=>by
  simp only [sizes]
  rcases List.mem_cons.1 h with e | e
  ·rw [e]; omega
  ·have:=size_memN e; omega
theorem size_kidN {h:Hd}{a:Option Addr}{c:Nat}{ks:List Nd}{k:Nd}(hk:k ∈ ks):size k≤size (.mk h a c ks):=by
 have:=size_memN hk
 simp only [size]
 omega
theorem infN:(Tryz.prog.info? 48).map (fun i=>(i.zero,i.size,i.bytes))=some (some (.agg zNo),8,72):=by kernel_rfl
theorem madeN (w:World) (n:Nat):Ln (w.alloc (.cells (madeCells zNo ((n+2) * 8)) 48)) w§ n []:=by
 have hn:=heap_new w (.cells (madeCells zNo ((n+2) * 8)) 48)
 refine⟨(Array.getElem?_eq_some_iff.1 hn).1,fun k hk=>⟨?_,frozen_of hn k⟩,fun j hj=>absurd hj (Nat.not_lt_zero _),fun k hk=>by cases hk⟩
 rw [cell_of hn,Array.getElem?_eq_getElem (by rw [size_madeCells]; exact hk)]
 rfl
theorem take_trees {ks L:List Nd}{i:Nat}{k:Nd}(h:treesOf L=(treesOf ks).take i) (hi:i < ks.length) (hk:treeOf k=treeOf ks[i]):treesOf (L ++ [k])=(treesOf ks).take (i+1):=by
 have e1:∀ l:List Nd,treesOf l=l.map treeOf:=fun l=>by
  induction l with
  | nil=>rfl
  | cons x l ih=>simp only [treesOf,List.map_cons,ih]
 rw [e1,e1] at h
 rw [e1,e1,List.map_append,h,List.take_add_one,List.getElem?_map,List.getElem?_eq_getElem hi]
 simp [hk]
def Lent (m:Nd) (w:World) (e:Ending) (w':World):Prop:=∃ m',e=.returned (.agg m'.vals)∧Lnt w' w§ m'∧treeOf m'=treeOf m∧Below w§ w w'
set_option maxRecDepth 100000 in
set_option maxHeartbeats 8000000 in
theorem lend_any:∀ (m:Nd) (w:World),Lies w m→size m≤900000000→Calls zG 15 #[.agg m.vals] w (Lent m w):=by
 refine Nd.ind fun h a c ks ih w hl hz=>?_
 have hn:ks.length≤900000000:=by have:=len_sizes ks; simp only [size] at hz; omega
 obtain⟨i0,hi,hz0,hz1,hz2⟩:=info_parts infN
 obtain⟨M,eM⟩:∃ M:Int,(ks.length:Int)+2=M:=⟨_,rfl⟩
 have hmk:∀ W:World,(Instr.makeSlice 46 (zI M) (zI M)).run Tryz.prog W=.ok (.slice (some ⟨W§,0,none⟩) (ks.length+2) (ks.length+2)) (W.alloc (.cells (madeCells zNo ((ks.length+2) * 8)) 48)):=by
  intro W
  have:=run_make (P:=Tryz.prog) W 46 48 i0 _ Tryz.underlying46 hi hz0 .i64 .i64 M M (by omega) (Int.le_refl _) (by rw [hz2]; omega) (by omega)
  rw [this,hz1,show M.toNat=ks.length+2 by omega]
  rfl
 obtain⟨K,eK⟩:∃ K,ks.length+2=K:=⟨_,rfl⟩
 obtain⟨W,eW⟩:∃ W,(w.alloc (.cells (Nd.mk h a c ks).vals 48)).alloc (.cells zNo 48)=W:=⟨_,rfl⟩
 have hbW:Below w§ w W:=by rw [← eW]; exact below_two _ _ _
 have HI:Hid (∀ k ∈ ks,∀ (w:World),Lies w k→Calls zG 15 #[.agg k.vals] w (Lent k w)):=fun k hk v hv=>ih k hk v hv (Nat.le_trans (size_kidN hk) hz)
 have h0:NdH W w§ (.mk h a c ks):=by rw [← eW]; exact heap_old (heap_new _ _) (by rw [size_alloc]; omega)
 have h1:W.heap[w§+1]? = some (.cells zNo 48 (0,0)):=by
  rw [← eW,← size_alloc w (.cells (Nd.mk h a c ks).vals 48)]; exact heap_new _ _
 have HBW:Hid (Below w§ w W):=hbW
 have HL:Hid (Lies W (.mk h a c ks)):=hl.on hbW
 have HRg:Hid (Rg h):=hl.rg
 have HWS:Hid (W§=w§+2):=by show _=_; rw [← eW,size_alloc,size_alloc]
 have H0:=h0.hid
 have H1:Hid (W.heap[w§+1]? = some (.cells zNo 48 (0,0))):=h1
 have HN:Hid (ks.length≤900000000):=hn
 have HMD:Hid (Ln (W.alloc (.cells (madeCells zNo ((ks.length+2) * 8)) 48)) W§ ks.length []):=madeN W ks.length
 have HMB:Hid (Below W§ W (W.alloc (.cells (madeCells zNo ((ks.length+2) * 8)) 48))):=below_new _ _
 have HKK:Hid (ks.length+2=K):=eK
 rw [eK] at hmk HMD HMB
 have HEW:Hid ((w.alloc (.cells #[zU h.k,zU h.o,zU h.t,zI h.n,zU h.f,.string h.x,.slice a ks.length c,zI h.p] 48)).alloc (.cells zNo 48)=W):=eW
 have q6:W.cell? ⟨w§,6,none⟩=some (.slice a ks.length c):=cell_of h0 6
 have hM0:(ks.length:Int)+2≤9223372036854775807:=by omega
 clear ih hl hz hn hbW h0 h1 eW eK hi hz0 hz1 hz2
 show Calls zG 15 #[.agg #[zU h.k,zU h.o,zU h.t,zI h.n,zU h.f,.string h.x,.slice a ks.length c,zI h.p]] w _
 go_enter Tryz.func15,Tryz.ntmps15
 go_upto_region 1 with fail
 rw [HEW.out]
 clear HEW
 go_upto_region 2 with fail
 generalize World.alloc W _=V at HMD HMB ⊢
 obtain⟨G,eG⟩:∃ G,W§=G:=⟨_,rfl⟩
 have HGG:Hid (G=w§+2):=by show _=_; rw [← eG]; exact HWS.out
 rw [eG] at HMD ⊢
 clear eG hmk eM hM0 q6
 go_wp2_with fail
 go_loopw [4] (fun t wr=>∃ (i:Nat) (L:List Nd),i≤ks.length∧t=zI i∧Hid (L.length=i)∧Hid (Below W§ W wr)∧Hid (Ln wr G ks.length L)∧Hid (treesOf L=(treesOf ks).take i)) (fun t _=>ks.length - (intOf t).toNat)
 case atStart=>exact⟨0,[],by omega,rfl,rfl,HMB,HMD,rfl⟩
 case round =>
  obtain⟨i,L,hi,rfl,HLI,HBR,HLN,HTT⟩:=hrel
  have hN:NdH wr w§ (.mk h a c ks):=H0.out.on HBR.out
  have q6:wr.cell? ⟨w§,6,none⟩=some (.slice a ks.length c):=cell_of hN 6
  have HNr:=hN.hid
  clear hN
  have HK8:Hid ((K:Int)=(ks.length:Int)+2):=by have:=HKK.out; show _=_; omega
  by_cases hlt:i < ks.length
  ·have hlt':(i:Int) < (ks.length:Int):=by omega
   have hltK:(i:Int) < (K:Int):=by have:=HK8.out; omega
   obtain⟨b,o,e1,hat⟩:=(HL.out.on HBR.out).kid i hlt
   have e2:a=some ⟨b,o,none⟩:=e1
   have hk1:NdAt wr b (o+i * 8) ks[i]:=hat
   have cI:=HI.out ks[i] (nth_mem hlt) wr ((HL.out.sub ks[i] (nth_mem hlt)).on HBR.out)
   obtain⟨k,ek⟩:∃ k,ks[i]=k:=⟨_,rfl⟩
   rw [ek] at hk1 cI
   rw [e2] at q6
   obtain⟨y0,y1,y2,y3,y4,y5,y6,y7⟩:=hk1
   unfold Nd.vals hdA at cI
   have HEK:Hid (ks[i]=k):=ek
   have hmx:(i:Int)+1≤9223372036854775807:=by have:=HN.out; omega
   clear ek e1 e2 hat
   go_wp2_with fail
   refine cI.mono ?_
   rintro e w1 ⟨k',rfl,hk1,hk2,hb1⟩
   have HPT:Hid (Ln (w1.setCells G (L.length * 8) k'.vals.toList) G ks.length (L ++ [k'])):=HLN.out.put hb1 hk1 (by rw [HLI.out]; exact hlt)
   have HP2:Hid (Below W§ W (w1.setCells G (L.length * 8) k'.vals.toList)):=below_cellsq (by have h1:=HGG.out; have h2:=HWS.out; omega) _ _ (below2 HBR.out hb1)
   have HTH:Hid (w1.there G (L.length * 8) k'.vals.size):=fun j hj=>by
    have hj8:j < 8:=hj
    exact (HLN.out.on hb1).th _ (by have:=HLI.out; omega)
   have HTK:Hid (treesOf (L ++ [k'])=(treesOf ks).take (i+1)):=take_trees HTT.out hlt (by rw [hk2,HEK.out])
   rw [HLI.out] at HPT HP2 HTH
   clear cI y0 y1 y2 y3 y4 y5 y6 y7 q6 hk1 hk2 hb1
   go_upto_region 4 with (refine wpList_store_mid rfl 48 (.tmp 25) (.tmp 24) rfl G (i * 8) k'.vals (by simp [Act.eval]) rfl HTH.out sizeNq (allN k') ?_)
   generalize World.setCells _ _ _ _=Y at HPT HP2 ⊢
   go_wp2_with fail
   exact⟨⟨i+1,L ++ [k'],hlt,rfl,by show _=_; rw [List.length_append,List.length_singleton,HLI.out],HP2,HPT,HTK⟩,by simp only [intOf]; omega⟩
  ·obtain rfl:i=ks.length:=by omega
   have hnot:¬ (ks.length:Int) < (ks.length:Int):=by omega
   have hM:L.length=ks.length:=HLI.out
   have hLt:treesOf L=treesOf ks:=by rw [HTT.out,← trees_len ks,List.take_length]
   have HLT:Hid (treesOf L=treesOf ks):=hLt
   have k0:(ks.length:Int) < (K:Int):=by have:=HK8.out; omega
   have k1:(ks.length:Int)+1 < (K:Int):=by have:=HK8.out; omega
   have k2:(ks.length:Int)≤(K:Int):=by omega
   have hmx:(ks.length:Int)+1≤9223372036854775807:=by have:=HN.out; omega
   obtain⟨t0a,t0b⟩:=HLN.out.th (ks.length * 8+7) (by omega)
   obtain⟨v0,e0⟩:=Option.isSome_iff_exists.1 t0a
   have HM1:=HLN.out.mark (by omega) (ks.length * 8+7) (by omega) (zI (-771))
   obtain⟨t1a,t1b⟩:=HM1.th ((ks.length+1) * 8+7) (by omega)
   obtain⟨v1,e1⟩:=Option.isSome_iff_exists.1 t1a
   have HM2:=HM1.mark (by omega) ((ks.length+1) * 8+7) (by omega) (zI (-772))
   have g0:(wr.setCell ⟨G,ks.length * 8+7,none⟩ (zI (-771))).cell? ⟨G,ks.length * 8+7,none⟩=some (zI (-771)):=World.cell?_setCell_same _ _ _ e0
   have g1:((wr.setCell ⟨G,ks.length * 8+7,none⟩ (zI (-771))).setCell ⟨G,(ks.length+1) * 8+7,none⟩ (zI (-772))).cell? ⟨G,(ks.length+1) * 8+7,none⟩=some (zI (-772)):=World.cell?_setCell_same _ _ _ e1
   have g2:((wr.setCell ⟨G,ks.length * 8+7,none⟩ (zI (-771))).setCell ⟨G,(ks.length+1) * 8+7,none⟩ (zI (-772))).cell? ⟨G,ks.length * 8+7,none⟩=some (zI (-771)):=(World.cell?_setCell_other _ _ _ _ (fun e=>by injection e with _ e2; omega)).trans g0
   have hGw:w§+2=G:=HGG.out.symm
   have hB1:Below W§ W (wr.setCell ⟨G,ks.length * 8+7,none⟩ (zI (-771))):=HBR.out.setCell (by have:=HWS.out; show _≤G; omega) _
   have hB2:Below W§ W ((wr.setCell ⟨G,ks.length * 8+7,none⟩ (zI (-771))).setCell ⟨G,(ks.length+1) * 8+7,none⟩ (zI (-772))):=hB1.setCell (by have:=HWS.out; show _≤G; omega) _
   have x0:(wr.setCell ⟨G,ks.length * 8+7,none⟩ (zI (-771))).cell? ⟨w§,6,none⟩=some (.slice a ks.length c):=(World.cell?_of_block (Below.heap_setCell _ _ _ _ (by show w§≠G; omega))).trans q6
   have nd2:NdH ((wr.setCell ⟨G,ks.length * 8+7,none⟩ (zI (-771))).setCell ⟨G,(ks.length+1) * 8+7,none⟩ (zI (-772))) w§ (.mk h a c ks):=H0.out.on hB2
   have nr2:((wr.setCell ⟨G,ks.length * 8+7,none⟩ (zI (-771))).setCell ⟨G,(ks.length+1) * 8+7,none⟩ (zI (-772))).heap[w§+1]? = some (.cells zNo 48 (0,0)):=(hB2.block _ (Array.getElem?_eq_some_iff.1 H1.out).1).trans H1.out
   have HM2h:Hid (Ln ((wr.setCell ⟨G,ks.length * 8+7,none⟩ (zI (-771))).setCell ⟨G,(ks.length+1) * 8+7,none⟩ (zI (-772))) G ks.length L):=HM2
   have HB2h:Hid (Below W§ W ((wr.setCell ⟨G,ks.length * 8+7,none⟩ (zI (-771))).setCell ⟨G,(ks.length+1) * 8+7,none⟩ (zI (-772)))):=hB2
   have HG12:Hid (((wr.setCell ⟨G,ks.length * 8+7,none⟩ (zI (-771))).setCell ⟨G,(ks.length+1) * 8+7,none⟩ (zI (-772))).cell? ⟨G,(ks.length+1) * 8+7,none⟩=some (zI (-772))∧((wr.setCell ⟨G,ks.length * 8+7,none⟩ (zI (-771))).setCell ⟨G,(ks.length+1) * 8+7,none⟩ (zI (-772))).cell? ⟨G,ks.length * 8+7,none⟩=some (zI (-771))):=⟨g1,g2⟩
   have HND2:Hid (NdH ((wr.setCell ⟨G,ks.length * 8+7,none⟩ (zI (-771))).setCell ⟨G,(ks.length+1) * 8+7,none⟩ (zI (-772))) w§ (.mk h a c ks)):=nd2
   have HNR2:Hid (((wr.setCell ⟨G,ks.length * 8+7,none⟩ (zI (-771))).setCell ⟨G,(ks.length+1) * 8+7,none⟩ (zI (-772))).heap[w§+1]? = some (.cells zNo 48 (0,0))):=nr2
   clear t0a t1a HM1 HM2 g0 g1 g2 hB1 hB2 nd2 nr2 hGw hLt HTT hM HLN HBR HNr
   go_upto_region 8 with fail
   generalize hU:World.setCell (World.setCell wr _ _) _ _=U at HM2h HB2h HG12 HND2 HNR2 ⊢
   clear hU e0 e1 t0b t1b x0 q6
   have u6:U.cell? ⟨w§,6,none⟩=some (.slice a ks.length c):=cell_of HND2.out 6
   have f6:U.frozen? ⟨w§,6,none⟩=false:=frozen_of HND2.out 6
   obtain⟨Y,eY⟩:∃ Y,U.setCell ⟨w§,6,none⟩ (.slice (some ⟨G,0,none⟩) ks.length K)=Y:=⟨_,rfl⟩
   have HEY:Hid (U.setCell ⟨w§,6,none⟩ (.slice (some ⟨G,0,none⟩) ks.length K)=Y):=eY
   have HYN:Hid (Y.heap[w§]? = some (.cells (Nd.mk h (some ⟨G,0,none⟩) K L).vals 48 (0,0))):=by
    show _=_
    rw [← eY]
    have:=heap_set (.slice (some ⟨G,0,none⟩) ks.length K) HND2.out (j:=6)
    rw [this]
    have hl:L.length=ks.length:=HLI.out
    simp [Nd.vals,hdA,Nd.h,Nd.a,Nd.ks,Nd.c,hl]
   have HYR:Hid (Y.heap[w§+1]? = some (.cells zNo 48 (0,0))):=by
    show _=_
    rw [← eY]; exact (Below.heap_setCell _ _ _ _ (by simp)).trans HNR2.out
   have HYO:Hid (∀ b,b≠w§→Y.heap[b]? = U.heap[b]?):=fun b hb=>by rw [← eY]; exact Below.heap_setCell _ _ _ _ hb
   have HYB:Hid (Below w§ w Y):=by
    show Below _ _ _
    rw [← eY]
    exact (below2 HBW.out HB2h.out).setCell (Nat.le_refl _) _
   have HYS:Hid (Y§=U§):=by show _=_; rw [← eY]; exact World.size_setCell ..
   clear eY
   go_upto_region 9 with fail
   rw [HEY.out]
   clear HEY u6 f6
   have HSR:Hid ((Y.setRow (w§+1) (Nd.mk h (some ⟨G,0,none⟩) K L).vals).heap[w§+1]? = some (.cells (Nd.mk h (some ⟨G,0,none⟩) K L).vals 48 (0,0))):=setRow_heap _ _ _ _ _ _ HYR.out
   have HSB:Hid (Below w§ w (Y.setRow (w§+1) (Nd.mk h (some ⟨G,0,none⟩) K L).vals)):=below_row HYB.out (by omega) _
   have HLL:Hid (Lnt (Y.setRow (w§+1) (Nd.mk h (some ⟨G,0,none⟩) K L).vals) w§ (.mk h (some ⟨G,0,none⟩) K L)):=by
    have hG:G=w§+2:=HGG.out
    have hl:L.length=ks.length:=HLI.out
    have hoth:∀ b,G≤b→(Y.setRow (w§+1) (Nd.mk h (some ⟨G,0,none⟩) K L).vals).heap[b]? = U.heap[b]?:=fun b hb=>(setRow_other _ _ _ _ (by omega)).trans (HYO.out b (by omega))
    have eG:=hoth G (Nat.le_refl _)
    refine .mk h G K L HRg.out (by have:=HKK.out; omega) (by have:=HN.out; omega) (by omega) ?_ ?_ (fun i hi=>(HM2h.out.at_ i hi).blk eG) (fun k hk=>((HM2h.out.sub k hk).blk fun b hb _=>hoth b (by omega)).lo (by omega))
    ·rw [World.cell?_of_block eG,hl]; exact HG12.out.2
    ·rw [World.cell?_of_block eG,hl]; exact HG12.out.1
   go_wp2_with (first | (refine wpList_load_row rfl 48 (.tmp 1) rfl w§ rfl 48 (Nd.mk h (some ⟨G,0,none⟩) K L).vals (0,0) _ HYN.out Tryz.underlying48 rfl sizeNq ?_) | (refine wpList_store_row rfl 48 (.tmp 2) (.tmp 45) rfl (w§+1) (Nd.mk h (some ⟨G,0,none⟩) K L).vals rfl rfl 48 zNo HYR.out sizeNq rfl (allN _) ?_))
   exact bodyPost_ret (results_cell_row rfl _ _ (w§+1) 48 (Nd.mk h (some ⟨G,0,none⟩) K L).vals (0,0) _ rfl HSR.out Tryz.underlying48 rfl sizeNq) rfl ⟨_,rfl,HLL.out,by rw [treeOf,treeOf,HLT.out],HSB.out⟩
set_option maxRecDepth 100000 in
set_option maxHeartbeats 8000000 in
theorem room_any:∀ (m:Nd) (w:World) (lo:Nat),Lnt w lo m→Calls zG 47 #[.agg m.vals] w fun e w'=>e=.returned (.bool true)∧Below w§ w w':=by
 refine Nd.ind fun h a c ks ih w lo hl=>?_
 cases hl with
 | mk _ b _ _ hr hc hm hb m0 m1 hk hs =>
 have HI:Hid (∀ k ∈ ks,∀ (w:World),Lnt w lo k→Calls zG 47 #[.agg k.vals] w fun e w'=>e=.returned (.bool true)∧Below w§ w w'):=fun k hk v hv=>ih k hk v lo hv
 have hb1:=below_new w (.cells #[zU h.k,zU h.o,zU h.t,zI h.n,zU h.f,.string h.x,.slice (some ⟨b,0,none⟩) ks.length c,zI h.p] 48)
 have hn1:=heap_new w (.cells #[zU h.k,zU h.o,zU h.t,zI h.n,zU h.f,.string h.x,.slice (some ⟨b,0,none⟩) ks.length c,zI h.p] 48)
 obtain⟨W1,e1⟩:∃ W,w.alloc (.cells #[zU h.k,zU h.o,zU h.t,zI h.n,zU h.f,.string h.x,.slice (some ⟨b,0,none⟩) ks.length c,zI h.p] 48)=W:=⟨_,rfl⟩
 have E1:Hid (w.alloc (.cells #[zU h.k,zU h.o,zU h.t,zI h.n,zU h.f,.string h.x,.slice (some ⟨b,0,none⟩) ks.length c,zI h.p] 48)=W1):=e1
 rw [e1] at hb1 hn1
 have HB1:Hid (Below w§ w W1):=hb1
 have HN1:Hid (W1.heap[w§]? = some (.cells #[zU h.k,zU h.o,zU h.t,zI h.n,zU h.f,.string h.x,.slice (some ⟨b,0,none⟩) ks.length c,zI h.p] 48 (0,0))):=hn1
 have HKS:Hid (∀ i (hi:i < ks.length),NdAt w b (i * 8) ks[i]):=hk
 have HSS:Hid (∀ k ∈ ks,Lnt w lo k):=hs
 have z0:W1.cell? ⟨b,ks.length * 8+7,none⟩=some (zI (-771)):=(World.cell?_of_block (hb1.block b (World.block_lt_of_cell? w _ m0))).trans m0
 have z1:W1.cell? ⟨b,(ks.length+1) * 8+7,none⟩=some (zI (-772)):=(World.cell?_of_block (hb1.block b (World.block_lt_of_cell? w _ m0))).trans m1
 have q6:W1.cell? ⟨w§,6,none⟩=some (.slice (some ⟨b,0,none⟩) ks.length c):=cell_of hn1 6
 have k0:(ks.length:Int)+2=(c:Int):=by omega
 have k1:(ks.length:Int) < (c:Int):=by omega
 have k2:(ks.length:Int)+1 < (c:Int):=by omega
 have k3:(ks.length:Int)+2≤9223372036854775807:=by omega
 have k4:(ks.length:Int)+1≤9223372036854775807:=by omega
 have HMX:Hid (ks.length≤1000000000000):=hm
 clear hb1 hn1 e1 ih hr hc hm hb m0 m1 hk hs
 show Calls zG 47 #[.agg #[zU h.k,zU h.o,zU h.t,zI h.n,zU h.f,.string h.x,.slice (some ⟨b,0,none⟩) ks.length c,zI h.p]] w _
 go_enter Tryz.func47,Tryz.ntmps47
 go_upto_region 1 with fail
 rw [E1.out]
 clear E1
 go_upto_region 5 with fail
 clear z0 z1 k0 k1 k2 k3 k4 q6
 go_wp2_with fail
 go_loopw [5,6] (fun t _ wr=>∃ i:Nat,i≤ks.length∧t=zI i∧Hid (Below W1§ W1 wr)) (fun t _ _=>ks.length - (intOf t).toNat)
 case atStart=>exact⟨0,by omega,rfl,Below.refl _ _⟩
 case round =>
  obtain⟨i,hi,rfl,HBR⟩:=hrel
  have q6:wr.cell? ⟨w§,6,none⟩=some (.slice (some ⟨b,0,none⟩) ks.length c):=cell_of ((HBR.out.block _ (Array.getElem?_eq_some_iff.1 HN1.out).1).trans HN1.out) 6
  by_cases hlt:i < ks.length
  ·have hlt':(i:Int) < (ks.length:Int):=by omega
   have hmx:(i:Int)+1≤9223372036854775807:=by have:=HMX.out; omega
   have hat:=(HKS.out i hlt).on (below2 HB1.out HBR.out)
   have hli:=(HSS.out _ (nth_mem hlt)).on (below2 HB1.out HBR.out)
   have HMEM:Hid (ks[i] ∈ ks):=nth_mem hlt
   obtain⟨k,ek⟩:∃ k,ks[i]=k:=⟨_,rfl⟩
   rw [ek] at hat hli HMEM
   have cI:Calls zG 47 #[.agg #[zU k.h.k,zU k.h.o,zU k.h.t,zI k.h.n,zU k.h.f,.string k.h.x,.slice k.a k.ks.length k.c,zI k.h.p]] wr fun e w'=>e=.returned (.bool true)∧Below wr§ wr w':=HI.out k HMEM.out wr hli
   obtain⟨y0,y1,y2,y3,y4,y5,y6,y7⟩:=hat
   clear ek hli
   go_wp2_with fail
   refine cI.mono ?_
   rintro e w5 ⟨rfl,hb5⟩
   have HB5:Hid (Below W1§ W1 w5):=below2 HBR.out hb5
   clear cI hb5 y0 y1 y2 y3 y4 y5 y6 y7 q6
   go_wp2_with fail
   exact⟨⟨i+1,hlt,rfl,HB5⟩,by simp only [intOf]; omega⟩
  ·obtain rfl:i=ks.length:=by omega
   have hnot:¬ (ks.length:Int) < (ks.length:Int):=by omega
   go_wp2_with fail
   go_ret
   exact⟨rfl,below2 HB1.out HBR.out⟩
set_option maxRecDepth 100000 in
set_option maxHeartbeats 8000000 in
theorem whole_any (m k:Nd) (w:World) (lo:Nat) (hl:Lnt w lo m) (hk:Lies w k) (ht:treeOf m=treeOf k):Calls zG 19 #[.agg m.vals,.agg k.vals] w fun e w'=>e=.returned (.bool true)∧Below w§ w w':=by
 obtain⟨hn1,hn2⟩:=below2of w m k
 have hb:=below_two w (.cells m.vals 48) (.cells k.vals 48)
 obtain⟨W1,e1⟩:∃ W,(w.alloc (.cells m.vals 48)).alloc (.cells k.vals 48)=W:=⟨_,rfl⟩
 have E1:Hid ((w.alloc (.cells m.vals 48)).alloc (.cells k.vals 48)=W1):=e1
 rw [e1] at hn1 hn2 hb
 have HN1:Hid (W1.heap[w§]? = some (.cells m.vals 48 (0,0))):=hn1
 have HN2:Hid (W1.heap[w§+1]? = some (.cells k.vals 48 (0,0))):=hn2
 have HB:Hid (Below w§ w W1):=hb
 have HLM:Hid (Lnt W1 lo m):=hl.on hb
 have cS:=some_any m k W1 (hl.on hb).lies (hk.on hb)
 have hid:idB m k=true:=tree_id m k ht
 clear e1 hn1 hn2 hb hl hk
 go_enter Tryz.func19,Tryz.ntmps19
 go_upto_region 1 with fail
 rw [E1.out]
 clear E1
 go_wp2_with (first | (refine wpList_load_row rfl 48 (.tmp 2) rfl w§ rfl 48 m.vals (0,0) _ HN1.out Tryz.underlying48 rfl sizeNq ?_) | (refine wpList_load_row rfl 48 (.tmp 3) rfl (w§+1) rfl 48 k.vals (0,0) _ HN2.out Tryz.underlying48 rfl sizeNq ?_))
 refine cS.mono ?_
 rintro e w2 ⟨rfl,hb2⟩
 rw [hid]
 have HB2:Hid (Below w§ w w2):=below2 HB.out hb2
 have HN3:Hid (w2.heap[w§]? = some (.cells m.vals 48 (0,0))):=(hb2.block _ (Array.getElem?_eq_some_iff.1 HN1.out).1).trans HN1.out
 have c0:w2.cell? ⟨w§,0,none⟩=some (zU m.h.k):=cell_of HN3.out 0
 have c1:w2.cell? ⟨w§,1,none⟩=some (zU m.h.o):=cell_of HN3.out 1
 have c2:w2.cell? ⟨w§,2,none⟩=some (zU m.h.t):=cell_of HN3.out 2
 have c3:w2.cell? ⟨w§,3,none⟩=some (zI m.h.n):=cell_of HN3.out 3
 have c4:w2.cell? ⟨w§,4,none⟩=some (zU m.h.f):=cell_of HN3.out 4
 have c5:w2.cell? ⟨w§,5,none⟩=some (.string m.h.x):=cell_of HN3.out 5
 have c6:w2.cell? ⟨w§,6,none⟩=some (.slice m.a m.ks.length m.c):=cell_of HN3.out 6
 have c7:w2.cell? ⟨w§,7,none⟩=some (zI m.h.p):=cell_of HN3.out 7
 have cR:Calls zG 47 #[.agg #[zU m.h.k,zU m.h.o,zU m.h.t,zI m.h.n,zU m.h.f,.string m.h.x,.slice m.a m.ks.length m.c,zI m.h.p]] w2 fun e w'=>e=.returned (.bool true)∧Below w2§ w2 w':=room_any m w2 lo (HLM.out.on hb2)
 clear cS hb2 hid ht
 go_wp2_with fail
 refine cR.mono ?_
 rintro e w3 ⟨rfl,hb3⟩
 have HB3:Hid (Below w§ w w3):=below2 HB2.out hb3
 clear cR hb3
 go_wp2_with fail
 go_ret
 exact⟨rfl,HB3.out⟩
structure Lkd (α:Type) where
 f:α→Array Value
 n:Nat
 P:World→Nat→α→Prop
 fs:∀ x,(f x).size=n
 blk:∀ {w w':World}{lo:Nat}{x:α},P w lo x→(∀ b,lo≤b→b < w§→w'.heap[b]? = w.heap[b]?)→P w' lo x
 low:∀ {w:World}{lo lo':Nat}{x:α},P w lo x→lo'≤lo→P w lo' x
variable {α : Type}
theorem rng_blk {w w':World}{G o:Nat}{cs:List Value}(h:w.rangeAt G o cs) (k:w'.heap[G]? = w.heap[G]?):w'.rangeAt G o cs:=fun j v hv=>(World.cell?_of_block k).trans (h j v hv)
structure Lrr (K:Lkd α) (V:World) (G m:Nat) (L:List α):Prop where
 lt:G < V§
 th:∀ k,k < (m+2) * K.n→(V.cell? ⟨G,k,none⟩).isSome=true∧V.frozen? ⟨G,k,none⟩=false
 at_:∀ j (hj:j < L.length),V.rangeAt G (j * K.n) (K.f L[j]).toList
 sub:∀ x ∈ L,K.P V (G+1) x
theorem Lrr.hid {K:Lkd α}{V:World}{G m:Nat}{L:List α}(h:Lrr K V G m L):Hid (Lrr K V G m L):=h
theorem Lrr.on {K:Lkd α}{V V':World}{G m:Nat}{L:List α}(h:Lrr K V G m L) (k:Below V§ V V'):Lrr K V' G m L:=by
 have e:=k.block G h.lt
 exact⟨Nat.lt_of_lt_of_le h.lt k.size,fun j hj=>by rw [World.cell?_of_block e,World.frozen?_of_block e]; exact h.th j hj,fun j hj=>rng_blk (h.at_ j hj) e,fun x hx=>K.blk (h.sub x hx) fun b _ hb=>k.block b hb⟩
theorem Lrr.new (K:Lkd α) (w:World) (z:Array Value) (t:TypeId) (m:Nat):Lrr K (w.alloc (.cells (madeCells z ((m+2) * K.n)) t)) w§ m []:=by
 have hn:=heap_new w (.cells (madeCells z ((m+2) * K.n)) t)
 refine⟨(Array.getElem?_eq_some_iff.1 hn).1,fun k hk=>⟨?_,frozen_of hn k⟩,fun j hj=>absurd hj (Nat.not_lt_zero _),fun k hk=>by cases hk⟩
 rw [cell_of hn,Array.getElem?_eq_getElem (by rw [size_madeCells]; exact hk)]
 rfl
theorem Lrr.there {K:Lkd α}{V:World}{G m:Nat}{L:List α}(h:Lrr K V G m L) {i:Nat}(hi:i < m) {o n:Nat}(ho:o+n≤K.n):V.there G (i * K.n+o) n:=fun j hj=>by
 have h1:(i+1) * K.n≤(m+2) * K.n:=Nat.mul_le_mul_right _ (by omega)
 rw [Nat.succ_mul] at h1
 exact h.th _ (by omega)
theorem Lrr.keep {K:Lkd α}{V:World}{G m:Nat}{L:List α}(h:Lrr K V G m L) {o:Nat}(ho:L.length * K.n≤o) (cs:List Value):Lrr K (V.setCells G o cs) G m L:=by
 refine⟨by rw [size_cells]; exact h.lt,fun k hk=>⟨World.isSome_setCells _ _ _ _ _ (h.th k hk).1,by rw [World.frozen?_setCells]; exact (h.th k hk).2⟩,fun j hj=>?_,fun x hx=>K.blk (h.sub x hx) fun b h4 _=>heap_cells _ _ _ _ _ (by omega)⟩
 intro i v hv
 have hi:i < K.n:=by have:=(List.getElem?_eq_some_iff.1 hv).1; rw [Array.length_toList,K.fs] at this; exact this
 have h1:(j+1) * K.n≤L.length * K.n:=Nat.mul_le_mul_right _ hj
 rw [Nat.succ_mul] at h1
 rw [World.cell?_setCells_out _ _ _ _ _ (fun _ _=>.inl (by show j * K.n+i < _; omega))]
 exact h.at_ j hj i v hv
theorem Lrr.snoc {K:Lkd α}{V:World}{G m:Nat}{L:List α}(h:Lrr K V G m L) {x:α}(hr:V.rangeAt G (L.length * K.n) (K.f x).toList) (hp:K.P V (G+1) x):Lrr K V G m (L ++ [x]):=by
 refine⟨h.lt,h.th,fun j hj=>?_,fun y hy=>?_⟩
 ·rcases Nat.lt_or_ge j L.length with h2 | h2
  ·rw [List.getElem_append_left h2]; exact h.at_ j h2
  ·have e:j=L.length:=by rw [List.length_append,List.length_singleton] at hj; omega
   subst e
   rw [List.getElem_append_right (Nat.le_refl _)]
   simp only [Nat.sub_self,List.getElem_cons_zero]
   exact hr
 ·rcases List.mem_append.1 hy with h3 | h3
  ·exact h.sub y h3
  ·rw [List.mem_singleton.1 h3]; exact hp
def Lrw (K:Lkd α) (w:World) (lo:Nat) (a:Option Addr) (c:Nat) (L:List α) (mk:Nat):Prop :=
 ∃ G,a=some ⟨G,0,none⟩∧lo≤G∧G < w§∧c=L.length+2∧L.length≤1000000000000∧(∀ j (hj:j < L.length),w.rangeAt G (j * K.n) (K.f L[j]).toList)∧w.cell? ⟨G,L.length * K.n+mk,none⟩=some (zI (-771))∧∀ x ∈ L,K.P w lo x
theorem Lrw.blk {K:Lkd α}{w w':World}{lo:Nat}{a:Option Addr}{c:Nat}{L:List α}{mk:Nat}(h:Lrw K w lo a c L mk) (k:∀ b,lo≤b→b < w§→w'.heap[b]? = w.heap[b]?):Lrw K w' lo a c L mk:=by
 obtain⟨G,h1,h2,h3,h4,h5,h6,h7,h8⟩:=h
 have e:=k G h2 h3
 have e2:G < w'§:=by
  rw [Array.getElem?_eq_getElem h3] at e
  exact (Array.getElem?_eq_some_iff.1 e).1
 exact⟨G,h1,h2,e2,h4,h5,fun j hj=>rng_blk (h6 j hj) e,(World.cell?_of_block e).trans h7,fun x hx=>K.blk (h8 x hx) k⟩
theorem Lrw.low {K:Lkd α}{w:World}{lo lo':Nat}{a:Option Addr}{c:Nat}{L:List α}{mk:Nat}(h:Lrw K w lo a c L mk) (k:lo'≤lo):Lrw K w lo' a c L mk:=by
 obtain⟨G,h1,h2,h3,h4,h5,h6,h7,h8⟩:=h
 exact⟨G,h1,by omega,h3,h4,h5,h6,h7,fun x hx=>K.low (h8 x hx) k⟩
theorem Lrw.sl {K:Lkd α}{w:World}{lo:Nat}{a:Option Addr}{c:Nat}{L:List α}{mk:Nat}(h:Lrw K w lo a c L mk):SlAt w K.n a c (L.map K.f):=by
 obtain⟨G,h1,h2,h3,h4,h5,h6,h7,h8⟩:=h
 refine⟨by rw [List.length_map]; omega,by omega,fun i hi=>⟨G,0,h1,fun j hj=>?_⟩⟩
 rw [List.length_map] at hi
 rw [Nat.zero_add,List.getElem_map]
 have hz:j < (K.f L[i]).size:=by rw [K.fs]; exact hj
 rw [Array.getElem?_eq_getElem hz]
 exact h6 i hi j _ (by rw [Array.getElem?_toList,Array.getElem?_eq_getElem hz])
theorem Lrr.done {K:Lkd α}{V:World}{G lo:Nat}{L:List α}(h:Lrr K V G L.length L) (hlo:lo≤G) {mk:Nat}(hm:mk < K.n) (hl:L.length≤1000000000000):Lrw K (V.setCell ⟨G,L.length * K.n+mk,none⟩ (zI (-771))) lo (some ⟨G,0,none⟩) (L.length+2) L mk:=by
 have hk:Lrr K (V.setCell ⟨G,L.length * K.n+mk,none⟩ (zI (-771))) G L.length L:=h.keep (o:=L.length * K.n+mk) (Nat.le_add_right _ _) [zI (-771)]
 have h1:(L.length+1) * K.n≤(L.length+2) * K.n:=Nat.mul_le_mul_right _ (by omega)
 rw [Nat.succ_mul] at h1
 obtain⟨v,hv⟩:=Option.isSome_iff_exists.1 (h.th (L.length * K.n+mk) (by omega)).1
 exact⟨G,rfl,hlo,hk.lt,rfl,hl,hk.at_,World.cell?_setCell_same _ _ _ hv,fun x hx=>K.low (hk.sub x hx) (by omega)⟩
theorem Lrr.free {K:Lkd α}{V:World}{G:Nat}{m:Nat}{L:List α}(h:Lrr K V G m L) {mk:Nat}(hm:mk < K.n):(∃ v,V.cell? ⟨G,m * K.n+mk,none⟩=some v)∧V.frozen? ⟨G,m * K.n+mk,none⟩=false:=by
 have h1:(m+1) * K.n≤(m+2) * K.n:=Nat.mul_le_mul_right _ (by omega)
 rw [Nat.succ_mul] at h1
 obtain⟨a,b⟩:=h.th (m * K.n+mk) (by omega)
 exact⟨Option.isSome_iff_exists.1 a,b⟩
def LntD (w:World) (lo:Nat) (d:DoM):Prop:=Lnt w lo d.sd∧Lnt w lo d.qt∧Lnt w lo d.pr∧Lnt w lo d.vl∧B8 d.k∧B8 d.o∧I64 d.p∧SzX d.x
def kDo:Lkd DoM:=⟨DoM.vals,36,LntD,DoM.sz,fun h k=>⟨h.1.blk k,h.2.1.blk k,h.2.2.1.blk k,h.2.2.2.1.blk k,h.2.2.2.2⟩,fun h k=>⟨h.1.lo k,h.2.1.lo k,h.2.2.1.lo k,h.2.2.2.1.lo k,h.2.2.2.2⟩⟩
def LntR (w:World) (lo:Nat) (r:RuleM):Prop:=Lnt w lo r.m∧Lrw kDo w lo r.a r.c r.ds 35∧I64 r.p
def kRu:Lkd RuleM:=⟨RuleM.vals,10,LntR,RuleM.sz,fun h k=>⟨h.1.blk k,h.2.1.blk k,h.2.2⟩,fun h k=>⟨h.1.lo k,h.2.1.low k,h.2.2⟩⟩
def LntT (w:World) (lo:Nat) (s:StateM):Prop:=Lrw kRu w lo s.a s.c s.rs 9∧I64 s.p∧SzX s.x
def kSt:Lkd StateM:=⟨StateM.vals,3,LntT,StateM.sz,fun h k=>⟨h.1.blk k,h.2⟩,fun h k=>⟨h.1.low k,h.2⟩⟩
def LntG (w:World) (lo:Nat) (r:RegM):Prop:=Lnt w lo r.m∧B8 r.t∧I64 r.p∧SzX r.x
def kRg:Lkd RegM:=⟨RegM.vals,11,LntG,RegM.sz,fun h k=>⟨h.1.blk k,h.2⟩,fun h k=>⟨h.1.lo k,h.2⟩⟩
def kSl:Lkd SlotM:=⟨SlotM.vals,2,fun _ _ r=>SlotL r,SlotM.sz,fun h _=>h,fun h _=>h⟩
def LntS (w:World) (lo:Nat) (S:StratM):Prop:=Lrw kRg w lo S.ra S.rc S.rs 10∧Lrw kSl w lo S.sa S.sc S.ss 1∧Lrw kSt w lo S.ta S.tc S.ts 2∧SzX S.x
theorem LntS.blk {w w':World}{lo:Nat}{S:StratM}(h:LntS w lo S) (k:∀ b,lo≤b→b < w§→w'.heap[b]? = w.heap[b]?):LntS w' lo S:=⟨h.1.blk k,h.2.1.blk k,h.2.2.1.blk k,h.2.2.2⟩
theorem LntS.on {w w':World}{lo:Nat}{S:StratM}(h:LntS w lo S) (k:Below w§ w w'):LntS w' lo S:=h.blk fun b _ hb=>k.block b hb
theorem Lrw.all {K:Lkd α}{w:World}{lo:Nat}{a:Option Addr}{c:Nat}{L:List α}{mk:Nat}(h:Lrw K w lo a c L mk):∀ x ∈ L,K.P w lo x:=by
 obtain⟨G,h1,h2,h3,h4,h5,h6,h7,h8⟩:=h
 exact h8
theorem LntD.lies {w:World}{lo:Nat}{d:DoM}(h:LntD w lo d):DoL w d:=⟨h.1.lies,h.2.1.lies,h.2.2.1.lies,h.2.2.2.1.lies,h.2.2.2.2⟩
theorem LntR.lies {w:World}{lo:Nat}{r:RuleM}(h:LntR w lo r):RuleL w r:=⟨h.1.lies,h.2.1.sl,fun d hd=>LntD.lies (h.2.1.all d hd),h.2.2⟩
theorem LntT.lies {w:World}{lo:Nat}{s:StateM}(h:LntT w lo s):StateL w s:=⟨h.1.sl,fun r hr=>LntR.lies (h.1.all r hr),h.2⟩
theorem LntS.lies {w:World}{lo:Nat}{S:StratM}(h:LntS w lo S):StratL w S:=⟨h.1.sl,fun r hr=>⟨(h.1.all r hr).1.lies,(h.1.all r hr).2⟩,h.2.1.sl,fun r hr=>h.2.1.all r hr,h.2.2.1.sl,fun s hs=>LntT.lies (h.2.2.1.all s hs),h.2.2.2⟩
mutual
def wt:Nd→Nat
 | .mk h _ _ ks=>1+h.x.size+wts ks
def wts:List Nd→Nat
 | []=>0
 | k :: ks=>wt k+wts ks
end
theorem size_wt:∀ m,size m≤wt m:=by
 refine Nd.ind fun h a c ks ih=>?_
 have:∀ l:List Nd,(∀ k ∈ l,size k≤wt k)→sizes l≤wts l:=by
  intro l
  induction l with
  | nil=>intro _; exact Nat.le_refl _
  | cons k l ihl=>intro hl; simp only [sizes,wts]; have h1:=hl k (by simp); have h2:=ihl fun x hx=>hl x (by simp [hx]); omega
 simp only [size,wt]
 have:=this ks ih
 omega
mutual
def wgE:Nd→Int→Int→Int
 | .mk h _ _ ks,n,d=>if d > 60000 then 1048577 else wgL ks (n+1+(h.x.size:Int)) (d+1)
def wgL:List Nd→Int→Int→Int
 | [],n,_=>n
 | k :: ks,n,d=>if n≤1048576 then wgL ks (wgE k n d) d else n
end
theorem wgE_mk (h:Hd) (a:Option Addr) (c:Nat) (ks:List Nd) (n d:Int):wgE (.mk h a c ks) n d=if d > 60000 then 1048577 else wgL ks (n+1+(h.x.size:Int)) (d+1):=by rw [wgE]
def WB (m:Nd):Prop:=∀ n d:Int,0≤n→0≤wgE m n d∧(wgE m n d≤n+140737488355329∨wgE m n d≤140737489403906)∧(wgE m n d≤1048576→wgE m n d=n+wt m)
theorem wgL_bd:∀ (ks:List Nd),(∀ k ∈ ks,WB k)→∀ n d:Int,0≤n→0≤wgL ks n d∧(wgL ks n d≤n∨wgL ks n d≤140737489403906)∧(wgL ks n d≤1048576→wgL ks n d=n+wts ks):=by
 intro ks
 induction ks with
 | nil=>intro _ n d hn; simp only [wgL,wts]; exact⟨hn,.inl (Int.le_refl _),fun _=>by omega⟩
 | cons k ks ih =>
  intro hk n d hn
  simp only [wgL,wts]
  split
  ·rename_i h
   obtain⟨a1,a2,a3⟩:=hk k (List.mem_cons_self ..) n d hn
   obtain⟨b1,b2,b3⟩:=ih (fun x hx=>hk x (List.mem_cons_of_mem _ hx)) (wgE k n d) d a1
   refine⟨b1,.inr ?_,fun hh=>?_⟩
   ·rcases b2 with b2 | b2
    ·rcases a2 with a2 | a2 <;> omega
    ·exact b2
   ·have e1:=b3 hh
    have e2:=a3 (by omega)
    omega
  ·rename_i h
   exact⟨hn,.inl (Int.le_refl _),fun hh=>absurd hh h⟩
theorem wgE_bd {w:World}:∀ m:Nd,Lies w m→WB m:=by
 refine Nd.ind fun h a c ks ih hl n d hn=>?_
 have hx:=hl.rg.x1
 simp only [Nd.h] at hx
 rw [wgE_mk]
 split
 ·exact⟨by omega,.inr (by omega),fun hh=>absurd hh (by omega)⟩
 ·obtain⟨b1,b2,b3⟩:=wgL_bd ks (fun k hk=>ih k hk (hl.sub k hk)) (n+1+(h.x.size:Int)) (d+1) (by omega)
  refine⟨b1,?_,fun hh=>?_⟩
  ·rcases b2 with b2 | b2
   ·exact .inl (by omega)
   ·exact .inr b2
  ·have:=b3 hh
   simp only [wt]; omega
theorem wgL_stop {ks:List Nd}{z d:Int}(h:¬ z≤1048576):wgL ks z d=z:=by
 cases ks with
 | nil=>simp [wgL]
 | cons k ks=>simp only [wgL,if_neg h]
set_option maxRecDepth 100000 in
set_option maxHeartbeats 4000000 in
theorem weigh_any:∀ (m:Nd) (w:World) (n d:Int),Lies w m→0≤n→n≤4503599627370496→0≤d→d≤60001→Calls zG 38 #[.agg m.vals,zI n,zI d] w fun e w'=>e=.returned (zI (wgE m n d))∧Below w§ w w':=by
 refine Nd.ind fun h a c ks ih w n d hl h1 h2 h3 h4=>?_
 have HI:Hid (∀ k ∈ ks,∀ (w:World) (n d:Int),Lies w k→0≤n→n≤4503599627370496→0≤d→d≤60001→Calls zG 38 #[.agg k.vals,zI n,zI d] w fun e w'=>e=.returned (zI (wgE k n d))∧Below w§ w w'):=ih
 have HL:=hl.hid
 have hx:=hl.rg.x1
 simp only [Nd.h] at hx
 show Calls zG 38 #[.agg #[zU h.k,zU h.o,zU h.t,zI h.n,zU h.f,.string h.x,.slice a ks.length c,zI h.p],zI n,zI d] w _
 have HD:Hid (0≤d∧d≤60001∧0≤n∧n≤4503599627370496∧(h.x.size:Int)≤140737488355328):=⟨h3,h4,h1,h2,by omega⟩
 have g1:-9223372036854775808≤n+1:=by omega
 have g2:n+1≤9223372036854775807:=by omega
 have g3:-9223372036854775808≤n+1+(h.x.size:Int):=by omega
 have g4:n+1+(h.x.size:Int)≤9223372036854775807:=by omega
 have HN0:Hid (NdH (w.alloc (.cells #[zU h.k,zU h.o,zU h.t,zI h.n,zU h.f,.string h.x,.slice a ks.length c,zI h.p] 48)) w§ (.mk h a c ks)):=heap_new w _
 have HW:Hid (¬ d > 60000→wgE (.mk h a c ks) n d=wgL ks (n+1+(h.x.size:Int)) (d+1)):=fun hd=>by rw [wgE_mk,if_neg hd]
 have HW0:Hid (d > 60000→wgE (.mk h a c ks) n d=1048577):=fun hd=>by rw [wgE_mk,if_pos hd]
 clear ih hl hx h1 h2 h3 h4
 by_cases hd:d > 60000
 ·go_enter Tryz.func38,Tryz.ntmps38
  go_wp2_with fail
  go_ret
  exact⟨(congrArg (fun x:Int=>Ending.returned (Value.int .i64 x)) (HW0.out hd)).symm,below_new _ _⟩
 ·have g5:d+1≤9223372036854775807:=by have:=HD.out; omega
  have g6:-9223372036854775808≤d+1:=by have:=HD.out; omega
  go_enter Tryz.func38,Tryz.ntmps38
  go_wp2_with fail
  go_loopw [1,7] (fun v t wr=>∃ (i:Nat) (z:Int),i≤ks.length∧t=zI i∧v=zI z∧Below (w.alloc (.cells #[zU h.k,zU h.o,zU h.t,zI h.n,zU h.f,.string h.x,.slice a ks.length c,zI h.p] 48))§ (w.alloc (.cells #[zU h.k,zU h.o,zU h.t,zI h.n,zU h.f,.string h.x,.slice a ks.length c,zI h.p] 48)) wr∧Hid (0≤z∧z≤4703599627370496∧wgL (ks.drop i) z (d+1)=wgE (.mk h a c ks) n d)) (fun _ t _=>ks.length - (intOf t).toNat)
  case atStart=>exact⟨0,n+1+(h.x.size:Int),by omega,rfl,rfl,Below.refl _ _,by have:=HD.out; omega,by have:=HD.out; omega,by rw [HW.out hd,List.drop_zero]⟩
  case round =>
   obtain⟨i,z,hi,rfl,rfl,hbr,HR⟩:=hrel
   have HBR:Hid (Below w§ w wr):=below2 (below_new _ _) hbr
   have HBr:Hid (Below (w.alloc (.cells #[zU h.k,zU h.o,zU h.t,zI h.n,zU h.f,.string h.x,.slice a ks.length c,zI h.p] 48))§ (w.alloc (.cells #[zU h.k,zU h.o,zU h.t,zI h.n,zU h.f,.string h.x,.slice a ks.length c,zI h.p] 48)) wr):=hbr
   have hN:NdH wr w§ (.mk h a c ks):=HN0.out.on hbr
   have q6:wr.cell? ⟨w§,6,none⟩=some (.slice a ks.length c):=cell_of hN 6
   clear hbr hN
   by_cases hlt:i < ks.length
   ·have hlt':(i:Int) < (ks.length:Int):=by omega
    by_cases hz:z≤1048576
    ·obtain⟨b,o,e1,hat⟩:=(HL.out.on HBR.out).kid i hlt
     have e2:a=some ⟨b,o,none⟩:=e1
     clear e1
     have hk1:NdAt wr b (o+i * 8) ks[i]:=hat
     clear hat
     have cI:=HI.out ks[i] (nth_mem hlt) wr z (d+1) ((HL.out.sub _ (nth_mem hlt)).on HBR.out) (by have h1:=HR.out; have h2:=HD.out; omega) (by omega) (by have:=HD.out; omega) (by omega)
     have HW2:Hid (wgL (ks.drop i) z (d+1)=wgL (ks.drop (i+1)) (wgE ks[i] z (d+1)) (d+1)):=by show _=_; rw [drop_nth hlt]; simp only [wgL,if_pos hz]
     have HBd:Hid (WB ks[i]):=wgE_bd _ (HL.out.sub _ (nth_mem hlt))
     have hmx:(i:Int)+1≤9223372036854775807:=by
      have h1:=HL.out.max
      have h2:=HL.out.cap
      simp only [Nd.ks,Nd.c] at h1 h2
      omega
     obtain⟨k,ek⟩:∃ k,ks[i]=k:=⟨_,rfl⟩
     rw [ek] at hk1 cI HW2 HBd
     subst e2
     obtain⟨y0,y1,y2,y3,y4,y5,y6,y7⟩:=hk1
     have cI:Calls zG 38 #[.agg #[zU k.h.k,zU k.h.o,zU k.h.t,zI k.h.n,zU k.h.f,.string k.h.x,.slice k.a k.ks.length k.c,zI k.h.p],zI z,zI (d+1)] wr fun e w'=>e=.returned (zI (wgE k z (d+1)))∧Below wr§ wr w':=cI
     obtain⟨r,er⟩:∃ r,wgE k z (d+1)=r:=⟨_,rfl⟩
     rw [er] at cI HW2
     have HER:Hid (wgE k z (d+1)=r):=er
     clear ek er
     go_wp2_with fail
     refine cI.mono ?_
     rintro e w5 ⟨rfl,hb5⟩
     have HB5:Hid (Below (w.alloc (.cells #[zU h.k,zU h.o,zU h.t,zI h.n,zU h.f,.string h.x,.slice (some ⟨b,o,none⟩) ks.length c,zI h.p] 48))§ (w.alloc (.cells #[zU h.k,zU h.o,zU h.t,zI h.n,zU h.f,.string h.x,.slice (some ⟨b,o,none⟩) ks.length c,zI h.p] 48)) w5):=below2 HBr.out hb5
     have HX:Hid (0≤r∧r≤4703599627370496∧wgL (ks.drop (i+1)) r (d+1)=wgE (.mk h (some ⟨b,o,none⟩) c ks) n d):=by
      have h1:=HBd.out z (d+1) HR.out.1
      rw [HER.out] at h1
      exact⟨h1.1,by rcases h1.2.1 with h2 | h2 <;> omega,by rw [← HW2.out]; exact HR.out.2.2⟩
     clear hb5 cI y0 y1 y2 y3 y4 y5 y6 y7 q6
     go_wp2_with fail
     exact⟨⟨i+1,r,hlt,rfl,rfl,HB5.out,HX.out⟩,by simp only [intOf]; omega⟩
    ·go_wp2_with fail
     go_ret
     exact⟨congrArg (fun x:Int=>Ending.returned (Value.int .i64 x)) ((wgL_stop (by omega)).symm.trans HR.out.2.2),HBR.out⟩
   ·obtain rfl:i=ks.length:=by omega
    have hnot:¬ (ks.length:Int) < (ks.length:Int):=by omega
    go_wp2_with fail
    go_ret
    exact⟨congrArg (fun x:Int=>Ending.returned (Value.int .i64 x)) (by have h9:=HR.out.2.2; rw [List.drop_length] at h9; simpa [wgL] using h9),HBR.out⟩
def Wgt (m:Nd) (n:Int) (r:Int):Prop:=0≤r∧r≤n+140737489403906∧(r≤1048576→r=n+wt m)
theorem wgt_of {w:World}{m:Nd}(hl:Lies w m) {n:Int}(h1:0≤n):Wgt m n (wgE m n 0):=by
 obtain⟨a1,a2,a3⟩:=wgE_bd m hl n 0 h1
 exact⟨a1,by rcases a2 with a2 | a2 <;> omega,a3⟩
theorem weigh_top (m:Nd) (w:World) (n:Int) (hl:Lies w m) (h1:0≤n) (h2:n≤4503599627370496):Calls zG 38 #[.agg m.vals,zI n,zI 0] w fun e w'=>(∃ r,e=.returned (zI r)∧Wgt m n r)∧Below w§ w w':=by
 refine (weigh_any m w n 0 hl h1 h2 (by omega) (by omega)).mono ?_
 rintro e w' ⟨rfl,hb⟩
 exact⟨⟨_,rfl,wgt_of hl h1⟩,hb⟩
end Go.Proofs.YtoogodlnnijikaaGreatDoor
