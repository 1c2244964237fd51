import Derived.Test.YtfbjofnaghjmeaaGreatDoorA0
import Derived.Test.YtfbjofnaghjmeaaGreatDoorA38
namespace Go.Proofs.YtfbjofnaghjmeaaGreatDoor
set_option maxHeartbeats 8000000
set_option maxRecDepth 100000
namespace Sx
open Go.RowKit
set_option linter.unusedVariables false
theorem rcheck_any (s:Sn) (w:yW):Calls zG 14 #[.agg (snA s)] w fun e w'=>e=.returned (zI (chkN s))∧yD w w':=by
 have hR:=SnAt.new w s 31
 have hB:=below_new w (.cells (snA s) 31)
 unfold snA at *
 obtain⟨W,hW⟩:∃ W,w.alloc (.cells #[zI s.bid,zI s.ask,zI s.last,zI s.vol,zI s.now,zI s.opn] 31)=W:=⟨_,rfl⟩
 rw [hW] at hR hB
 obtain⟨c0,c1,c2,c3,c4,c5⟩:=hR
 go_enter Tryz.func14,Tryz.ntmps14
 go_wp2
 all_goals go_ret
 all_goals refine⟨retI ?_,hB⟩
 all_goals first
  | exact (chk_no (fun m=>by
    have q1:=m.b0; have q2:=m.b1; have q3:=m.a0; have q4:=m.a1; have q5:=m.l0; have q6:=m.l1; have q7:=m.v0; have q8:=m.v1; have q9:=m.n0; have r1:=m.n1; have r2:=m.o0; have r3:=m.o1
    first | omega | (simp_all; done) | (simp_all; omega))).symm
  | exact (chk_ok ⟨by omega,by omega,by omega,by omega,by omega,by omega,by omega,by omega,by omega,by omega,by omega,by omega⟩).symm
end Sx
open Go Go.RowKit
set_option linter.unusedVariables false
set_option linter.unusedSimpArgs false
mutual
def rdB (f:Int):Nd→Bool
 | .mk h _ _ ks=>h.f == f || rdsB f ks
def rdsB (f:Int):List Nd→Bool
 | []=>false
 | k :: ks=>rdB f k || rdsB f ks
end
def rdO (f:Int) (d:DoM):Bool:=rdB f d.sd || (rdB f d.qt || (rdB f d.pr || rdB f d.vl))
def rdD (f:Int):Bool→List DoM→Bool
 | b,[]=>b
 | b,d :: ds=>rdD f (b || rdO f d) ds
def rdR (f:Int):List RuleM→Bool
 | []=>false
 | r :: rs=>rdD f (rdB f r.m) r.ds || rdR f rs
theorem reads_any (f:Int):∀ (m:Nd) (w:yW),Lies w m→Calls zG 50 #[.agg m.vals,zU f] w fun e w'=>e=.returned (.bool (rdB f m))∧yD w w':=by
 refine Nd.ind fun h a c ks ih w hl=>?_
 have b1:=below_new w (.cells (Nd.mk h a c ks).vals 38)
 have n1:=heap_new w (.cells (Nd.mk h a c ks).vals 38)
 obtain⟨k,o,t,n,fl,x,p⟩:=h
 have n1:(w.alloc (.cells (zW k o t n fl x a ks c p) 38)).heap[w§]? = (zC (zW k o t n fl x a ks c p) 38):=n1
 have b1:yD w (w.alloc (.cells (zW k o t n fl x a ks c p) 38)):=b1
 obtain⟨W,eW⟩:∃ W,w.alloc (.cells (zW k o t n fl x a ks c p) 38)=W:=⟨_,rfl⟩
 have EW:Hid (w.alloc (.cells (zW k o t n fl x a ks c p) 38)=W):=eW
 rw [eW] at n1 b1
 obtain⟨g,eg⟩:∃ g,w§=g:=⟨_,rfl⟩
 have HG:Hid (w§=g):=eg
 rw [eg] at n1
 have HB:Hid (yD w W):=b1
 have HL:Hid (Lies w (.mk ⟨k,o,t,n,fl,x,p⟩ a c ks)):=hl
 have z4:W.cell? g¢4=some (zU fl):=cell_of n1 4
 have z6:W.cell? g¢6=some (.slice a ks.length c):=cell_of n1 6
 have hmax:ks.length≤9223372036854775807:=by have h1:=hl.cap; have h2:=hl.max; simp only [Nd.ks,Nd.c] at h1 h2; omega
 have HMX:Hid (ks.length≤9223372036854775807):=hmax
 have HIH:Hid (∀ k ∈ ks,∀ (w:yW),Lies w k→Calls zG 50 #[.agg k.vals,zU f] w fun e w'=>e=.returned (.bool (rdB f k))∧yD w w'):=ih
 clear n1 b1 eW eg hl hmax ih
 show Calls zG 50 #[.agg (zW k o t n fl x a ks c p),zU f] w _
 obtain⟨Q,eQ⟩:∃ Q,rdB f (.mk ⟨k,o,t,n,fl,x,p⟩ a c ks)=Q:=⟨_,rfl⟩
 rw [eQ]
 have EQ:Hid ((fl == f || rdsB f ks)=Q):=by show _=_; rw [← eQ]; rfl
 clear eQ
 by_cases hf:fl=f
 ·have h1:(fl == f)=true:=by simp [hf]
  have hq:Hid (Q=true):=by show _=_; rw [← EQ.out,h1]; rfl
  clear hf
  go_enter Tryz.func50,Tryz.ntmps50
  go_upto_region 1 with fail
  rw [EW.out,HG.out]
  clear EW
  go_wp2_with fail
  go_ret
  exact⟨by rw [hq.out]; rfl,HB.out⟩
 have h1:(fl == f)=false:=beq_false_of_ne hf
 have HQ:Hid (rdsB f ks=Q):=by show _=_; rw [← EQ.out,h1]; rfl
 clear hf EQ
 go_enter Tryz.func50,Tryz.ntmps50
 go_upto_region 1 with fail
 rw [EW.out,HG.out]
 clear EW
 go_upto_region 3 with fail
 clear z4 h1
 go_wp2_with fail
 have HZ:Hid (W.cell? g¢6=some (.slice a ks.length c)):=z6
 clear z6
 go_loopw [5] (fun t wr=>∃ (i:Nat),i≤ks.length∧t=zI i∧Hid (yD w wr)∧Hid (yD W wr)∧Hid (rdsB f (ks.drop i)=Q)) (fun t _=>ks.length - (intOf t).toNat)
 case atStart=>exact⟨0,by omega,rfl,HB,Below.refl _ _,HQ⟩
 case round =>
  obtain⟨i,hi,rfl,HBR,HBW,HRR⟩:=hrel
  have y1:wr.cell? g¢6=some (.slice a ks.length c):=cell_on HZ.out HBW.out
  by_cases hlt:i < ks.length
  ·have hlt':(i:Int) < (ks.length:Int):=by omega
   have hmx:(i:Int)+1≤9223372036854775807:=by have h1:=HMX.out; omega
   have hll:=HL.out.on HBR.out
   obtain⟨b,o2,ea,hat⟩:=hll.kid i hlt
   have ea:a=some b¢o2:=ea
   have HTK:Hid ((rdB f ks[i] || rdsB f (ks.drop (i+1)))=Q):=by show _=_; rw [← HRR.out,List.drop_eq_getElem_cons hlt]; rfl
   have hlq:=hll.sub ks[i] (List.getElem_mem hlt)
   have hcq:=HIH.out ks[i] (List.getElem_mem hlt) wr hlq
   simp only [Nd.ks] at hat
   obtain⟨q,eq⟩:∃ q,ks[i]=q:=⟨_,rfl⟩
   rw [eq] at hat HTK hcq
   obtain⟨d0,d1,d2,d3,d4,d5,d6,d7⟩:=hat
   replace hcq:Calls zG 50 #[.agg (zV q),zU f] wr fun e w'=>e=.returned (.bool (rdB f q))∧yD wr w':=hcq
   obtain⟨B,eB⟩:∃ B,rdB f q=B:=⟨_,rfl⟩
   rw [eB] at hcq HTK
   rw [ea] at y1
   have h0i:(0:Int)≤(i:Int):=by omega
   clear ea hll hlq eq eB HRR
   go_wp2_with fail
   refine hcq.mono ?_
   rintro e w2 ⟨rfl,hb⟩
   have HB2:Hid (yD w w2):=below2 HBR.out hb
   have HW2:Hid (yD W w2):=below2 HBW.out hb
   clear hb hcq d0 d1 d2 d3 d4 d5 d6 d7 y1
   cases B with
   | true =>
    have hq:Hid (Q=true):=HTK.out.symm
    go_wp2_with fail
    go_ret
    exact⟨by rw [hq.out]; rfl,HB2.out⟩
   | false =>
    have hq:Hid (rdsB f (ks.drop (i+1))=Q):=HTK.out
    go_wp2_with fail
    exact⟨⟨i+1,hlt,rfl,HB2,HW2,hq⟩,by simp only [intOf]; omega⟩
  ·obtain rfl:i=ks.length:=by omega
   have hnot:¬ (ks.length:Int) < (ks.length:Int):=by omega
   have hq:Hid (Q=false):=by show _=_; rw [← HRR.out,List.drop_length]; rfl
   go_wp2_with fail
   go_ret
   exact⟨by rw [hq.out]; rfl,HBR.out⟩
def bentS (s:Sx.Sn) (f n:Int):Sx.Sn:=if f=1 then { s with bid:=n } else if f=2 then { s with ask:=n } else if f=3 then { s with last:=n } else if f=4 then { s with vol:=n } else if f=5 then { s with now:=n } else { s with opn:=n }
theorem bent_1 (s:Sx.Sn) (n:Int) (w:yW):Calls zG 23 #[.agg (Sx.snA s),zU 1,zI n] w fun e w'=>e=.returned (.agg #[zI n,zI s.ask,zI s.last,zI s.vol,zI s.now,zI s.opn])∧yD w w':=by
 have HB:Hid (yD w ((w.alloc (.cells (Sx.snA s) 31)).alloc (.cells (Sx.snA Sx.sn0) 31))):=(two_new w (Sx.snA s) (Sx.snA Sx.sn0) 31 31).2.2
 have n1:=(two_new w (Sx.snA s) (Sx.snA Sx.sn0) 31 31).1
 have n2:=(two_new w (Sx.snA s) (Sx.snA Sx.sn0) 31 31).2.1
 unfold Sx.snA Sx.sn0 at *
 obtain⟨W,eW⟩:∃ W,(w.alloc (.cells #[zI s.bid,zI s.ask,zI s.last,zI s.vol,zI s.now,zI s.opn] 31)).alloc (.cells zh 31)=W:=⟨_,rfl⟩
 have EW:Hid ((w.alloc (.cells #[zI s.bid,zI s.ask,zI s.last,zI s.vol,zI s.now,zI s.opn] 31)).alloc (.cells zh 31)=W):=eW
 rw [eW] at HB n1 n2
 obtain⟨g,eg⟩:∃ g,w§=g:=⟨_,rfl⟩
 have HG:Hid (w§=g):=eg
 rw [eg] at n1 n2
 have HN:Hid (W.heap[g]? = (zC #[zI s.bid,zI s.ask,zI s.last,zI s.vol,zI s.now,zI s.opn] 31)∧W.heap[g+1]? = (zC zh 31)):=⟨n1,n2⟩
 have z0:W.cell? g¢0=some (zI s.bid):=cell_of n1 0
 have f0:W.frozen? g¢0=false:=frozen_of n1 0
 have hm:(W.setCell g¢0 (zI n)).heap[g]? = (zC #[zI n,zI s.ask,zI s.last,zI s.vol,zI s.now,zI s.opn] 31):=heap_set (j:=0) (zI n) n1
 have hm2:(W.setCell g¢0 (zI n)).heap[g+1]? = (zC zh 31):=(set_oth _ (by omega)).trans n2
 have HM:Hid ((W.setCell g¢0 (zI n)).heap[g]? = (zC #[zI n,zI s.ask,zI s.last,zI s.vol,zI s.now,zI s.opn] 31)∧(W.setCell g¢0 (zI n)).heap[g+1]? = (zC zh 31)∧yD w (W.setCell g¢0 (zI n))):=⟨hm,hm2,HB.out.setCell (p:=g¢0) (Nat.le_of_eq eg) _⟩
 clear n1 n2 hm hm2 eW eg
 go_enter Tryz.func23,Tryz.ntmps23
 go_upto_region 1 with fail
 rw [EW.out,HG.out]
 clear EW
 go_upto_region 13 with fail
 generalize W.setCell g¢0 (zI n)=V at HM ⊢
 clear z0 f0
 go_wp2_with (first | (refine wpList_load_row rfl 31 (.tmp 3) rfl g rfl 31 #[zI n,zI s.ask,zI s.last,zI s.vol,zI s.now,zI s.opn] (0,0) _ HM.out.1 Tryz.underlying31 rfl zK ?_) | (refine wpList_store_row rfl 31 (.tmp 6) (.tmp 30) rfl (g+1) #[zI n,zI s.ask,zI s.last,zI s.vol,zI s.now,zI s.opn] rfl rfl 31 _ HM.out.2.1 zK rfl (by simp [Value.oneCell']) ?_))
 refine bodyPost_ret (results_cell_row rfl _ _ (g+1) 31 #[zI n,zI s.ask,zI s.last,zI s.vol,zI s.now,zI s.opn] (0,0) _ rfl (setRow_heap _ _ _ _ _ _ HM.out.2.1) Tryz.underlying31 rfl zK) rfl ⟨rfl,below_row HM.out.2.2 (by rw [HG.out]; omega) _⟩
theorem bent_2 (s:Sx.Sn) (n:Int) (w:yW):Calls zG 23 #[.agg (Sx.snA s),zU 2,zI n] w fun e w'=>e=.returned (.agg #[zI s.bid,zI n,zI s.last,zI s.vol,zI s.now,zI s.opn])∧yD w w':=by
 have HB:Hid (yD w ((w.alloc (.cells (Sx.snA s) 31)).alloc (.cells (Sx.snA Sx.sn0) 31))):=(two_new w (Sx.snA s) (Sx.snA Sx.sn0) 31 31).2.2
 have n1:=(two_new w (Sx.snA s) (Sx.snA Sx.sn0) 31 31).1
 have n2:=(two_new w (Sx.snA s) (Sx.snA Sx.sn0) 31 31).2.1
 unfold Sx.snA Sx.sn0 at *
 obtain⟨W,eW⟩:∃ W,(w.alloc (.cells #[zI s.bid,zI s.ask,zI s.last,zI s.vol,zI s.now,zI s.opn] 31)).alloc (.cells zh 31)=W:=⟨_,rfl⟩
 have EW:Hid ((w.alloc (.cells #[zI s.bid,zI s.ask,zI s.last,zI s.vol,zI s.now,zI s.opn] 31)).alloc (.cells zh 31)=W):=eW
 rw [eW] at HB n1 n2
 obtain⟨g,eg⟩:∃ g,w§=g:=⟨_,rfl⟩
 have HG:Hid (w§=g):=eg
 rw [eg] at n1 n2
 have HN:Hid (W.heap[g]? = (zC #[zI s.bid,zI s.ask,zI s.last,zI s.vol,zI s.now,zI s.opn] 31)∧W.heap[g+1]? = (zC zh 31)):=⟨n1,n2⟩
 have z0:W.cell? g¢1=some (zI s.ask):=cell_of n1 1
 have f0:W.frozen? g¢1=false:=frozen_of n1 1
 have hm:(W.setCell g¢1 (zI n)).heap[g]? = (zC #[zI s.bid,zI n,zI s.last,zI s.vol,zI s.now,zI s.opn] 31):=heap_set (j:=1) (zI n) n1
 have hm2:(W.setCell g¢1 (zI n)).heap[g+1]? = (zC zh 31):=(set_oth _ (by omega)).trans n2
 have HM:Hid ((W.setCell g¢1 (zI n)).heap[g]? = (zC #[zI s.bid,zI n,zI s.last,zI s.vol,zI s.now,zI s.opn] 31)∧(W.setCell g¢1 (zI n)).heap[g+1]? = (zC zh 31)∧yD w (W.setCell g¢1 (zI n))):=⟨hm,hm2,HB.out.setCell (p:=g¢1) (Nat.le_of_eq eg) _⟩
 clear n1 n2 hm hm2 eW eg
 go_enter Tryz.func23,Tryz.ntmps23
 go_upto_region 1 with fail
 rw [EW.out,HG.out]
 clear EW
 go_upto_region 13 with fail
 generalize W.setCell g¢1 (zI n)=V at HM ⊢
 clear z0 f0
 go_wp2_with (first | (refine wpList_load_row rfl 31 (.tmp 3) rfl g rfl 31 #[zI s.bid,zI n,zI s.last,zI s.vol,zI s.now,zI s.opn] (0,0) _ HM.out.1 Tryz.underlying31 rfl zK ?_) | (refine wpList_store_row rfl 31 (.tmp 6) (.tmp 30) rfl (g+1) #[zI s.bid,zI n,zI s.last,zI s.vol,zI s.now,zI s.opn] rfl rfl 31 _ HM.out.2.1 zK rfl (by simp [Value.oneCell']) ?_))
 refine bodyPost_ret (results_cell_row rfl _ _ (g+1) 31 #[zI s.bid,zI n,zI s.last,zI s.vol,zI s.now,zI s.opn] (0,0) _ rfl (setRow_heap _ _ _ _ _ _ HM.out.2.1) Tryz.underlying31 rfl zK) rfl ⟨rfl,below_row HM.out.2.2 (by rw [HG.out]; omega) _⟩
theorem bent_3 (s:Sx.Sn) (n:Int) (w:yW):Calls zG 23 #[.agg (Sx.snA s),zU 3,zI n] w fun e w'=>e=.returned (.agg #[zI s.bid,zI s.ask,zI n,zI s.vol,zI s.now,zI s.opn])∧yD w w':=by
 have HB:Hid (yD w ((w.alloc (.cells (Sx.snA s) 31)).alloc (.cells (Sx.snA Sx.sn0) 31))):=(two_new w (Sx.snA s) (Sx.snA Sx.sn0) 31 31).2.2
 have n1:=(two_new w (Sx.snA s) (Sx.snA Sx.sn0) 31 31).1
 have n2:=(two_new w (Sx.snA s) (Sx.snA Sx.sn0) 31 31).2.1
 unfold Sx.snA Sx.sn0 at *
 obtain⟨W,eW⟩:∃ W,(w.alloc (.cells #[zI s.bid,zI s.ask,zI s.last,zI s.vol,zI s.now,zI s.opn] 31)).alloc (.cells zh 31)=W:=⟨_,rfl⟩
 have EW:Hid ((w.alloc (.cells #[zI s.bid,zI s.ask,zI s.last,zI s.vol,zI s.now,zI s.opn] 31)).alloc (.cells zh 31)=W):=eW
 rw [eW] at HB n1 n2
 obtain⟨g,eg⟩:∃ g,w§=g:=⟨_,rfl⟩
 have HG:Hid (w§=g):=eg
 rw [eg] at n1 n2
 have HN:Hid (W.heap[g]? = (zC #[zI s.bid,zI s.ask,zI s.last,zI s.vol,zI s.now,zI s.opn] 31)∧W.heap[g+1]? = (zC zh 31)):=⟨n1,n2⟩
 have z0:W.cell? g¢2=some (zI s.last):=cell_of n1 2
 have f0:W.frozen? g¢2=false:=frozen_of n1 2
 have hm:(W.setCell g¢2 (zI n)).heap[g]? = (zC #[zI s.bid,zI s.ask,zI n,zI s.vol,zI s.now,zI s.opn] 31):=heap_set (j:=2) (zI n) n1
 have hm2:(W.setCell g¢2 (zI n)).heap[g+1]? = (zC zh 31):=(set_oth _ (by omega)).trans n2
 have HM:Hid ((W.setCell g¢2 (zI n)).heap[g]? = (zC #[zI s.bid,zI s.ask,zI n,zI s.vol,zI s.now,zI s.opn] 31)∧(W.setCell g¢2 (zI n)).heap[g+1]? = (zC zh 31)∧yD w (W.setCell g¢2 (zI n))):=⟨hm,hm2,HB.out.setCell (p:=g¢2) (Nat.le_of_eq eg) _⟩
 clear n1 n2 hm hm2 eW eg
 go_enter Tryz.func23,Tryz.ntmps23
 go_upto_region 1 with fail
 rw [EW.out,HG.out]
 clear EW
 go_upto_region 13 with fail
 generalize W.setCell g¢2 (zI n)=V at HM ⊢
 clear z0 f0
 go_wp2_with (first | (refine wpList_load_row rfl 31 (.tmp 3) rfl g rfl 31 #[zI s.bid,zI s.ask,zI n,zI s.vol,zI s.now,zI s.opn] (0,0) _ HM.out.1 Tryz.underlying31 rfl zK ?_) | (refine wpList_store_row rfl 31 (.tmp 6) (.tmp 30) rfl (g+1) #[zI s.bid,zI s.ask,zI n,zI s.vol,zI s.now,zI s.opn] rfl rfl 31 _ HM.out.2.1 zK rfl (by simp [Value.oneCell']) ?_))
 refine bodyPost_ret (results_cell_row rfl _ _ (g+1) 31 #[zI s.bid,zI s.ask,zI n,zI s.vol,zI s.now,zI s.opn] (0,0) _ rfl (setRow_heap _ _ _ _ _ _ HM.out.2.1) Tryz.underlying31 rfl zK) rfl ⟨rfl,below_row HM.out.2.2 (by rw [HG.out]; omega) _⟩
theorem bent_4 (s:Sx.Sn) (n:Int) (w:yW):Calls zG 23 #[.agg (Sx.snA s),zU 4,zI n] w fun e w'=>e=.returned (.agg #[zI s.bid,zI s.ask,zI s.last,zI n,zI s.now,zI s.opn])∧yD w w':=by
 have HB:Hid (yD w ((w.alloc (.cells (Sx.snA s) 31)).alloc (.cells (Sx.snA Sx.sn0) 31))):=(two_new w (Sx.snA s) (Sx.snA Sx.sn0) 31 31).2.2
 have n1:=(two_new w (Sx.snA s) (Sx.snA Sx.sn0) 31 31).1
 have n2:=(two_new w (Sx.snA s) (Sx.snA Sx.sn0) 31 31).2.1
 unfold Sx.snA Sx.sn0 at *
 obtain⟨W,eW⟩:∃ W,(w.alloc (.cells #[zI s.bid,zI s.ask,zI s.last,zI s.vol,zI s.now,zI s.opn] 31)).alloc (.cells zh 31)=W:=⟨_,rfl⟩
 have EW:Hid ((w.alloc (.cells #[zI s.bid,zI s.ask,zI s.last,zI s.vol,zI s.now,zI s.opn] 31)).alloc (.cells zh 31)=W):=eW
 rw [eW] at HB n1 n2
 obtain⟨g,eg⟩:∃ g,w§=g:=⟨_,rfl⟩
 have HG:Hid (w§=g):=eg
 rw [eg] at n1 n2
 have HN:Hid (W.heap[g]? = (zC #[zI s.bid,zI s.ask,zI s.last,zI s.vol,zI s.now,zI s.opn] 31)∧W.heap[g+1]? = (zC zh 31)):=⟨n1,n2⟩
 have z0:W.cell? g¢3=some (zI s.vol):=cell_of n1 3
 have f0:W.frozen? g¢3=false:=frozen_of n1 3
 have hm:(W.setCell g¢3 (zI n)).heap[g]? = (zC #[zI s.bid,zI s.ask,zI s.last,zI n,zI s.now,zI s.opn] 31):=heap_set (j:=3) (zI n) n1
 have hm2:(W.setCell g¢3 (zI n)).heap[g+1]? = (zC zh 31):=(set_oth _ (by omega)).trans n2
 have HM:Hid ((W.setCell g¢3 (zI n)).heap[g]? = (zC #[zI s.bid,zI s.ask,zI s.last,zI n,zI s.now,zI s.opn] 31)∧(W.setCell g¢3 (zI n)).heap[g+1]? = (zC zh 31)∧yD w (W.setCell g¢3 (zI n))):=⟨hm,hm2,HB.out.setCell (p:=g¢3) (Nat.le_of_eq eg) _⟩
 clear n1 n2 hm hm2 eW eg
 go_enter Tryz.func23,Tryz.ntmps23
 go_upto_region 1 with fail
 rw [EW.out,HG.out]
 clear EW
 go_upto_region 13 with fail
 generalize W.setCell g¢3 (zI n)=V at HM ⊢
 clear z0 f0
 go_wp2_with (first | (refine wpList_load_row rfl 31 (.tmp 3) rfl g rfl 31 #[zI s.bid,zI s.ask,zI s.last,zI n,zI s.now,zI s.opn] (0,0) _ HM.out.1 Tryz.underlying31 rfl zK ?_) | (refine wpList_store_row rfl 31 (.tmp 6) (.tmp 30) rfl (g+1) #[zI s.bid,zI s.ask,zI s.last,zI n,zI s.now,zI s.opn] rfl rfl 31 _ HM.out.2.1 zK rfl (by simp [Value.oneCell']) ?_))
 refine bodyPost_ret (results_cell_row rfl _ _ (g+1) 31 #[zI s.bid,zI s.ask,zI s.last,zI n,zI s.now,zI s.opn] (0,0) _ rfl (setRow_heap _ _ _ _ _ _ HM.out.2.1) Tryz.underlying31 rfl zK) rfl ⟨rfl,below_row HM.out.2.2 (by rw [HG.out]; omega) _⟩
theorem bent_5 (s:Sx.Sn) (n:Int) (w:yW):Calls zG 23 #[.agg (Sx.snA s),zU 5,zI n] w fun e w'=>e=.returned (.agg #[zI s.bid,zI s.ask,zI s.last,zI s.vol,zI n,zI s.opn])∧yD w w':=by
 have HB:Hid (yD w ((w.alloc (.cells (Sx.snA s) 31)).alloc (.cells (Sx.snA Sx.sn0) 31))):=(two_new w (Sx.snA s) (Sx.snA Sx.sn0) 31 31).2.2
 have n1:=(two_new w (Sx.snA s) (Sx.snA Sx.sn0) 31 31).1
 have n2:=(two_new w (Sx.snA s) (Sx.snA Sx.sn0) 31 31).2.1
 unfold Sx.snA Sx.sn0 at *
 obtain⟨W,eW⟩:∃ W,(w.alloc (.cells #[zI s.bid,zI s.ask,zI s.last,zI s.vol,zI s.now,zI s.opn] 31)).alloc (.cells zh 31)=W:=⟨_,rfl⟩
 have EW:Hid ((w.alloc (.cells #[zI s.bid,zI s.ask,zI s.last,zI s.vol,zI s.now,zI s.opn] 31)).alloc (.cells zh 31)=W):=eW
 rw [eW] at HB n1 n2
 obtain⟨g,eg⟩:∃ g,w§=g:=⟨_,rfl⟩
 have HG:Hid (w§=g):=eg
 rw [eg] at n1 n2
 have HN:Hid (W.heap[g]? = (zC #[zI s.bid,zI s.ask,zI s.last,zI s.vol,zI s.now,zI s.opn] 31)∧W.heap[g+1]? = (zC zh 31)):=⟨n1,n2⟩
 have z0:W.cell? g¢4=some (zI s.now):=cell_of n1 4
 have f0:W.frozen? g¢4=false:=frozen_of n1 4
 have hm:(W.setCell g¢4 (zI n)).heap[g]? = (zC #[zI s.bid,zI s.ask,zI s.last,zI s.vol,zI n,zI s.opn] 31):=heap_set (j:=4) (zI n) n1
 have hm2:(W.setCell g¢4 (zI n)).heap[g+1]? = (zC zh 31):=(set_oth _ (by omega)).trans n2
 have HM:Hid ((W.setCell g¢4 (zI n)).heap[g]? = (zC #[zI s.bid,zI s.ask,zI s.last,zI s.vol,zI n,zI s.opn] 31)∧(W.setCell g¢4 (zI n)).heap[g+1]? = (zC zh 31)∧yD w (W.setCell g¢4 (zI n))):=⟨hm,hm2,HB.out.setCell (p:=g¢4) (Nat.le_of_eq eg) _⟩
 clear n1 n2 hm hm2 eW eg
 go_enter Tryz.func23,Tryz.ntmps23
 go_upto_region 1 with fail
 rw [EW.out,HG.out]
 clear EW
 go_upto_region 13 with fail
 generalize W.setCell g¢4 (zI n)=V at HM ⊢
 clear z0 f0
 go_wp2_with (first | (refine wpList_load_row rfl 31 (.tmp 3) rfl g rfl 31 #[zI s.bid,zI s.ask,zI s.last,zI s.vol,zI n,zI s.opn] (0,0) _ HM.out.1 Tryz.underlying31 rfl zK ?_) | (refine wpList_store_row rfl 31 (.tmp 6) (.tmp 30) rfl (g+1) #[zI s.bid,zI s.ask,zI s.last,zI s.vol,zI n,zI s.opn] rfl rfl 31 _ HM.out.2.1 zK rfl (by simp [Value.oneCell']) ?_))
 refine bodyPost_ret (results_cell_row rfl _ _ (g+1) 31 #[zI s.bid,zI s.ask,zI s.last,zI s.vol,zI n,zI s.opn] (0,0) _ rfl (setRow_heap _ _ _ _ _ _ HM.out.2.1) Tryz.underlying31 rfl zK) rfl ⟨rfl,below_row HM.out.2.2 (by rw [HG.out]; omega) _⟩
theorem bent_6 (s:Sx.Sn) (n:Int) (w:yW):Calls zG 23 #[.agg (Sx.snA s),zU 6,zI n] w fun e w'=>e=.returned (.agg #[zI s.bid,zI s.ask,zI s.last,zI s.vol,zI s.now,zI n])∧yD w w':=by
 have HB:Hid (yD w ((w.alloc (.cells (Sx.snA s) 31)).alloc (.cells (Sx.snA Sx.sn0) 31))):=(two_new w (Sx.snA s) (Sx.snA Sx.sn0) 31 31).2.2
 have n1:=(two_new w (Sx.snA s) (Sx.snA Sx.sn0) 31 31).1
 have n2:=(two_new w (Sx.snA s) (Sx.snA Sx.sn0) 31 31).2.1
 unfold Sx.snA Sx.sn0 at *
 obtain⟨W,eW⟩:∃ W,(w.alloc (.cells #[zI s.bid,zI s.ask,zI s.last,zI s.vol,zI s.now,zI s.opn] 31)).alloc (.cells zh 31)=W:=⟨_,rfl⟩
 have EW:Hid ((w.alloc (.cells #[zI s.bid,zI s.ask,zI s.last,zI s.vol,zI s.now,zI s.opn] 31)).alloc (.cells zh 31)=W):=eW
 rw [eW] at HB n1 n2
 obtain⟨g,eg⟩:∃ g,w§=g:=⟨_,rfl⟩
 have HG:Hid (w§=g):=eg
 rw [eg] at n1 n2
 have HN:Hid (W.heap[g]? = (zC #[zI s.bid,zI s.ask,zI s.last,zI s.vol,zI s.now,zI s.opn] 31)∧W.heap[g+1]? = (zC zh 31)):=⟨n1,n2⟩
 have z0:W.cell? g¢5=some (zI s.opn):=cell_of n1 5
 have f0:W.frozen? g¢5=false:=frozen_of n1 5
 have hm:(W.setCell g¢5 (zI n)).heap[g]? = (zC #[zI s.bid,zI s.ask,zI s.last,zI s.vol,zI s.now,zI n] 31):=heap_set (j:=5) (zI n) n1
 have hm2:(W.setCell g¢5 (zI n)).heap[g+1]? = (zC zh 31):=(set_oth _ (by omega)).trans n2
 have HM:Hid ((W.setCell g¢5 (zI n)).heap[g]? = (zC #[zI s.bid,zI s.ask,zI s.last,zI s.vol,zI s.now,zI n] 31)∧(W.setCell g¢5 (zI n)).heap[g+1]? = (zC zh 31)∧yD w (W.setCell g¢5 (zI n))):=⟨hm,hm2,HB.out.setCell (p:=g¢5) (Nat.le_of_eq eg) _⟩
 clear n1 n2 hm hm2 eW eg
 go_enter Tryz.func23,Tryz.ntmps23
 go_upto_region 1 with fail
 rw [EW.out,HG.out]
 clear EW
 go_upto_region 13 with fail
 generalize W.setCell g¢5 (zI n)=V at HM ⊢
 clear z0 f0
 go_wp2_with (first | (refine wpList_load_row rfl 31 (.tmp 3) rfl g rfl 31 #[zI s.bid,zI s.ask,zI s.last,zI s.vol,zI s.now,zI n] (0,0) _ HM.out.1 Tryz.underlying31 rfl zK ?_) | (refine wpList_store_row rfl 31 (.tmp 6) (.tmp 30) rfl (g+1) #[zI s.bid,zI s.ask,zI s.last,zI s.vol,zI s.now,zI n] rfl rfl 31 _ HM.out.2.1 zK rfl (by simp [Value.oneCell']) ?_))
 refine bodyPost_ret (results_cell_row rfl _ _ (g+1) 31 #[zI s.bid,zI s.ask,zI s.last,zI s.vol,zI s.now,zI n] (0,0) _ rfl (setRow_heap _ _ _ _ _ _ HM.out.2.1) Tryz.underlying31 rfl zK) rfl ⟨rfl,below_row HM.out.2.2 (by rw [HG.out]; omega) _⟩
theorem bent_any (s:Sx.Sn) (f n:Int) (h1:1≤f) (h6:f≤6) (w:yW):Calls zG 23 #[.agg (Sx.snA s),zU f,zI n] w fun e w'=>e=.returned (.agg (Sx.snA (bentS s f n)))∧yD w w':=by
 have:f=1∨f=2∨f=3∨f=4∨f=5∨f=6:=by omega
 rcases this with rfl | rfl | rfl | rfl | rfl | rfl
 ·exact bent_1 s n w
 ·exact bent_2 s n w
 ·exact bent_3 s n w
 ·exact bent_4 s n w
 ·exact bent_5 s n w
 ·exact bent_6 s n w
end Go.Proofs.YtfbjofnaghjmeaaGreatDoor
