import Derived.Test.YtoogodlnnijikaaGreatDoorA0
import Derived.Test.YtoogodlnnijikaaGreatDoorA37
import Derived.Test.YtoogodlnnijikaaGreatDoorA40
import Derived.Test.YtoogodlnnijikaaGreatDoorA19
import Derived.Test.YtoogodlnnijikaaGreatDoorA39
namespace Go.Proofs.YtoogodlnnijikaaGreatDoor
set_option maxHeartbeats 8000000
set_option maxRecDepth 100000
open Go.RowKit
set_option linter.unusedVariables false
theorem kndNd:Knd Nd.vals Lies Bk bare 8:=⟨fun x=>rfl,fun P Q x h k=>Bk.mono h k,fun P w w' x k h hb=>h.bk k hb⟩
theorem nd_sl {w:yW}{g:Hd}{a:Option Addr}{c:Nat}{L:List Nd}(hr:Rg g) (h:SlAt w 8 a c (L.map Nd.vals)) (hs:∀ k ∈ L,Lies w k):Lies w (.mk g a c L):=by
 refine .mk g a c L hr (by have:=h.1; rw [List.length_map] at this; exact this) h.2.1 (fun i hi=>?_) hs
 obtain⟨b,o,e,hc⟩:=h.2.2 i (by rw [List.length_map]; exact hi)
 simp only [List.getElem_map] at hc
 exact⟨b,o,e,hc 0 (by omega),hc 1 (by omega),hc 2 (by omega),hc 3 (by omega),hc 4 (by omega),hc 5 (by omega),hc 6 (by omega),hc 7 (by omega)⟩
theorem rg_tn {h:Hd}(hr:Rg h):Rg (tnH h):=by
 unfold tnH
 split
 ·rename_i hh
  exact⟨hr.k0,hr.k1,hr.o0,hr.o1,hr.t0,hr.t1,hr.n0,hr.n1,hr.f0,hr.f1,hr.p0,hr.p1,by show ((Zn:yB) ++ h.x).size≤_; rw [ByteArray.size_append]; have:(Zn:yB).size=1:=rfl; omega⟩
 ·exact hr
def Turned (m:Nd) (w:yW) (e:Ending) (w':yW):Prop:=∃ m',e=.returned (.agg m'.vals)∧Lies w' m'∧bare m'=trB m∧Bk (fun b=>w§≤b∧b < w'§) m'∧yD w w'
theorem tr_map (ks:List Nd):(ks.map trB).map bare=ks.map trB:=by
 rw [List.map_map]
 exact List.map_congr_left fun k _=>bare_trB k
theorem sz_set' (w:yW) (p:Addr) (x:Value):(w.setCell p x)§=w§:=by simp [World.setCell]
theorem turned_any:∀ (m:Nd) (w:yW),Lies w m→size m≤900000000→Calls zG 22 #[.agg m.vals] w (Turned m w):=by
 refine Nd.ind fun h a c ks ih w hl hz=>?_
 have hn:ks.length≤900000000:=by have:=len_sizes ks; simp only [size] at hz; omega
 obtain⟨W0,eW⟩:∃ W,(w.alloc (.cells (Nd.mk h a c ks).vals 48)).alloc (.cells zNo 48)=W:=⟨_,rfl⟩
 have hbW:yD w W0:=by rw [← eW]; exact Ql _ _ _
 have HI:Hid (∀ k ∈ ks,∀ (w:yW),Lies w k→Calls zG 22 #[.agg k.vals] w (Turned k w)):=fun k hk v hv=>ih k hk v hv (Nat.le_trans (size_kid hk) hz)
 have h0:NdH W0 w§ (.mk h a c ks):=by rw [← eW]; exact QI (Qd _ _) (by rw [Qf]; omega)
 have h1:W0.heap[w§+1]? = (zC zNo 48):=by
  rw [← eW,← Qf w (.cells (Nd.mk h a c ks).vals 48)]; exact Qd _ _
 have hL0:=hl.on hbW
 have HRg:Hid (Rg (tnH h)):=rg_tn hl.rg
 have hS0:W0§=w§+2:=by rw [← eW,Qf,Qf]
 have HN:Hid (ks.length≤900000000):=hn
 have q0:W0.cell? w§¢0=some (zU h.k):=Qa h0 0
 have q5:W0.cell? w§¢5=some (.string h.x):=Qa h0 5
 have f5:W0.frozen? w§¢5=false:=Qb h0 5
 have HX:Hid (Rg h):=hl.rg
 have HLw:Hid (Lies w (.mk h a c ks)):=hl
 clear ih hl hz hn
 unfold Nd.vals hdA at eW
 show Calls zG 22 #[.agg (zX h a ks c)] w _
 simp only [Nd.h,Nd.a,Nd.c,Nd.ks] at eW
 by_cases hk:h.k=2
 ·have hk1:(h.k == 2)=true:=by simpa using hk
  by_cases hx:h.x.size < 15
  ·have hx1:(h.x.size:Int) < 15:=by omega
   obtain⟨y,ey⟩:∃ y,(Zn:yB) ++ h.x=y:=⟨_,rfl⟩
   obtain⟨W,eV⟩:∃ W,W0.setCell w§¢5 (.string y)=W:=⟨_,rfl⟩
   have etn:tnH h=⟨h.k,h.o,h.t,h.n,h.f,y,h.p⟩:=by rw [← ey]; exact tn_of hk hx
   have H0:Hid (NdH W w§ (.mk (tnH h) a c ks)):=by show NdH _ _ _; rw [etn,← eV]; exact Qi _ h0
   have H1:Hid (W.heap[w§+1]? = (zC zNo 48)):=by show _=_; rw [← eV]; exact (Below.heap_setCell _ _ _ _ (by simp)).trans h1
   have HBW:Hid (yD w W):=by show Below _ _ _; rw [← eV]; exact hbW.setCell (p:=w§¢5) (Nat.le_refl _) _
   have HL:Hid (∀ k ∈ ks,Lies W k):=fun k hk'=>by
    have hb:yD w W:=HBW.out
    have h2:=HLw.out.sub k hk'
    exact h2.on hb
   have HK:Hid (∀ i (hi:i < ks.length),∃ b o,a=some b¢o∧NdAt W b (o+i * 8) ks[i]):=(HLw.out.on HBW.out).kid
   have HWS:Hid (W§=w§+2):=by show _=_; rw [← eV,sz_set']; exact hS0
   obtain⟨g,eg⟩:∃ g,tnH h=g:=⟨_,rfl⟩
   have HG:Hid (tnH h=g):=eg
   rw [eg] at H0 HRg
   clear eg etn
   clear h0 h1 hbW hL0 hS0
   have HY0:Hid ((Zn:yB) ++ h.x=y):=ey
   clear hk
   go_enter Tryz.func22,Tryz.ntmps22
   go_wp2_with fail
   clear eW q0 q5 f5 eV ey hx hx1 hk1
   go_loopw [3,4] (fun v t wr=>∃ (i:Nat) (L:List Nd),i≤ks.length∧t=zI i∧Hid (Cpl Nd.vals Lies Bk bare 48 8 W wr v (ks.map trB) L i)) (fun _ t _=>ks.length - (intOf t).toNat)
   case atStart=>exact⟨0,[],by omega,rfl,Cpl.nil _ _ _ _ _ _ (Below.refl _ _) _⟩
   case round =>
    obtain⟨i,L,hi,rfl,HT⟩:=hrel
    have hN:NdH wr w§ (.mk g a c ks):=H0.out.on HT.out.r.B
    have q6:wr.cell? w§¢6=some (.slice a ks.length c):=Qa hN 6
    have HNr:=hN.hid
    clear hN
    by_cases hlt:i < ks.length
    ·have hlt':(i:Int) < (ks.length:Int):=by omega
     obtain⟨b,o,e1,hat⟩:=HK.out i hlt
     have hk1:NdAt wr b (o+i * 8) ks[i]:=hat.on HT.out.r.B
     have cI:=HI.out ks[i] (QS hlt) wr ((HL.out ks[i] (QS hlt)).on HT.out.r.B)
     obtain⟨k,ek⟩:∃ k,ks[i]=k:=⟨_,rfl⟩
     rw [ek] at hk1 cI
     rw [e1] at q6
     obtain⟨y0,y1,y2,y3,y4,y5,y6,y7⟩:=hk1
     unfold Nd.vals hdA at cI
     have HEK:Hid (ks[i]=k):=ek
     clear ek e1 hat
     go_wp2_with fail
     refine cI.mono ?_
     rintro e w1 ⟨k',rfl,hk1,hk2,hk3,hb1⟩
     have HB1:Hid (yD wr w1):=hb1
     have HR1:Hid (RA W w1 48 8 u3 (L.map Nd.vals)):=HT.out.r.call hb1
     have HLn:Hid ((L.map Nd.vals).length≤1000000000):=by have h1:=HN.out; have h2:=HT.out.l; show _≤_; rw [List.length_map]; omega
     have HK1:Hid (Lies w1 k'):=hk1
     have HK2:Hid (bare k'=trB k):=hk2
     have HK3:Hid (Bk (fun b=>wr§≤b∧b < w1§) k'):=hk3
     have hmx:(i:Int)+1≤9223372036854775807:=by have:=HN.out; omega
     clear hk1 hk2 hk3 hb1 cI y0 y1 y2 y3 y4 y5 y6 y7 q6
     unfold Nd.vals hdA
     go_wp2_with (at_builtin; refine Kb rfl (.tmp 25) (.tmp 32) 46 48 8 72 _ rfl Tryz.underlying46 Tryz.info48 rfl (by decide) (by decide) (by decide) k'.vals rfl (Ku k') HR1.out rfl rfl HLn.out ?_; intro v1 w2 hr2 hs2 hq2 hz2; have HX:Hid (Cpl Nd.vals Lies Bk bare 48 8 W w2 v1 (ks.map trB) (L ++ [k']) (i+1)):=HT.out.snoc kndNd (by rw [List.length_map]; exact hlt) HB1.out HK1.out (by rw [List.getElem_map,bare_trB,HEK.out]; exact HK2.out) HK3.out hr2 hs2 hq2 hz2; clear hr2 hs2 hq2 hz2)
     exact⟨⟨i+1,L ++ [k'],hlt,rfl,HX⟩,by simp only [intOf]; omega⟩
    ·obtain rfl:i=ks.length:=by omega
     have hnot:¬ (ks.length:Int) < (ks.length:Int):=by omega
     have hb1:yD W wr:=HT.out.r.B
     have HT':Cpl Nd.vals Lies Bk bare 48 8 W wr u3 (ks.map trB) L (ks.map trB).length:=by rw [List.length_map]; exact HT.out
     obtain⟨a',c',rfl,hL1,hL2,hL3,hL4⟩:=HT'.all kndNd (by decide)
     clear HT'
     rw [tr_map] at hL3
     have g0:NdH wr w§ (.mk g a c ks):=HNr.out
     have g1:=(hb1.block (w§+1) (zJ H1.out).1).trans H1.out
     obtain⟨U,eU⟩:∃ U,wr.setCell w§¢6 (.slice a' L.length c')=U:=⟨_,rfl⟩
     have u0:NdH U w§ (.mk g a' c' L):=by rw [← eU]; exact Qi _ g0
     have u1:U.heap[w§+1]? = (zC zNo 48):=by
      rw [← eU]; exact (Below.heap_setCell _ _ _ _ (by simp)).trans g1
     have f6:wr.frozen? w§¢6=false:=Qb g0 6
     have HU1:Hid (U.heap[w§+1]? = (zC zNo 48)):=u1
     have q0x:U.cell? w§¢0=some (zU g.k):=Qa u0 0
     have q1x:U.cell? w§¢1=some (zU g.o):=Qa u0 1
     have q2x:U.cell? w§¢2=some (zU g.t):=Qa u0 2
     have q3x:U.cell? w§¢3=some (zI g.n):=Qa u0 3
     have q4x:U.cell? w§¢4=some (zU g.f):=Qa u0 4
     have q5x:U.cell? w§¢5=some (.string g.x):=Qa u0 5
     have q6x:U.cell? w§¢6=some (.slice a' L.length c'):=Qa u0 6
     have q7x:U.cell? w§¢7=some (zI g.p):=Qa u0 7
     have p0:U.cell? ⟨w§+1,0,none⟩=some (zU 0):=Qa u1 0
     have r0:U.frozen? ⟨w§+1,0,none⟩=false:=Qb u1 0
     have p1:U.cell? ⟨w§+1,1,none⟩=some (zU 0):=Qa u1 1
     have r1:U.frozen? ⟨w§+1,1,none⟩=false:=Qb u1 1
     have p2:U.cell? ⟨w§+1,2,none⟩=some (zU 0):=Qa u1 2
     have r2:U.frozen? ⟨w§+1,2,none⟩=false:=Qb u1 2
     have p3:U.cell? ⟨w§+1,3,none⟩=some (zI 0):=Qa u1 3
     have r3:U.frozen? ⟨w§+1,3,none⟩=false:=Qb u1 3
     have p4:U.cell? ⟨w§+1,4,none⟩=some (zU 0):=Qa u1 4
     have r4:U.frozen? ⟨w§+1,4,none⟩=false:=Qb u1 4
     have p5:U.cell? ⟨w§+1,5,none⟩=some (yQ):=Qa u1 5
     have r5:U.frozen? ⟨w§+1,5,none⟩=false:=Qb u1 5
     have p6:U.cell? ⟨w§+1,6,none⟩=some (.slice none 0 0):=Qa u1 6
     have r6:U.frozen? ⟨w§+1,6,none⟩=false:=Qb u1 6
     have p7:U.cell? ⟨w§+1,7,none⟩=some (zI 0):=Qa u1 7
     have r7:U.frozen? ⟨w§+1,7,none⟩=false:=Qb u1 7
     have HBU:Hid (yD w U):=by
      show Below _ _ _
      rw [← eU]; exact (Qe HBW.out hb1).setCell (p:=w§¢6) (Nat.le_refl _) _
     have hWs:W§=w§+2:=HWS.out
     have HUs:Hid (U§=wr§):=by show _=_; rw [← eU,sz_set']
     have HBk:Hid (Bk (fun b=>W§≤b∧b < wr§) (.mk g a' c' L)):=.mk _ _ _ _ hL2 (fun k hk=>(hL4 k hk).2)
     have HLU:Hid (Lies U (.mk g a' c' L)):=by
      refine (nd_sl HRg.out hL1 (fun k hk=>(hL4 k hk).1)).bk (P:=fun b=>W§≤b∧b < wr§) (fun b _ hp=>?_) HBk.out
      rw [← eU]; exact Below.heap_setCell _ _ _ _ (by show b≠w§; omega)
     have HTB:Hid (bare (.mk g a' c' L)=trB (.mk h a c ks)):=by show _=_; rw [JG,KP,HG.out,hL3]
     have HEU:Hid (wr.setCell w§¢6 (.slice a' L.length c')=U):=eU
     clear hL1 hL2 hL3 hL4 hb1 g0 g1 u0 u1 eU
     obtain⟨Y,eY,hY1,hY2,hY3,hY4⟩:=fin8C HU1.out (zU g.k) (zU g.o) (zU g.t) (zI g.n) (zU g.f) (.string g.x) (.slice a' L.length c') (zI g.p)
     have HY:Hid (Lies Y (.mk g a' c' L)∧Bk (fun b=>w§≤b∧b < Y§) (.mk g a' c' L)∧yD w Y):=by
      refine⟨HLU.out.bk (P:=fun b=>W§≤b∧b < wr§) (fun b _ hp=>hY3 b (by omega)) HBk.out,HBk.out.mono fun b hp=>⟨by omega,by rw [hY2,HUs.out]; exact hp.2⟩,hY4 _ _ HBU.out (by omega)⟩
     have HY1:Hid (Y.heap[w§+1]? = (zC (Nd.mk g a' c' L).vals 48)):=hY1
     have HEY:Hid (_=Y):=eY
     clear eY hY1 hY2 hY3 hY4
     go_upto_region 9 with fail
     rw [HEU.out]
     clear f6 q6
     go_wp2_with fail
     rw [HEY.out]
     exact bodyPost_ret (results_cell_row rfl _ _ (w§+1) 48 (Nd.mk g a' c' L).vals (0,0) _ rfl HY1.out Tryz.underlying48 rfl zK) rfl ⟨.mk g a' c' L,rfl,HY.out.1,HTB.out,HY.out.2.1,HY.out.2.2⟩
  ·have hno:¬ (h.k=2∧h.x.size < 15):=fun e=>hx e.2
   have hx1:¬ (h.x.size:Int) < 15:=by omega
   obtain⟨W,eV⟩:∃ W,W0=W:=⟨_,rfl⟩
   subst eV
   have etn:tnH h=h:=if_neg hno
   have H0:Hid (NdH W0 w§ (.mk (tnH h) a c ks)):=by show NdH _ _ _; rw [etn]; exact h0
   have H1:Hid (W0.heap[w§+1]? = (zC zNo 48)):=h1
   have HBW:Hid (yD w W0):=hbW
   have HL:Hid (∀ k ∈ ks,Lies W0 k):=fun k hk'=>(HLw.out.sub k hk').on hbW
   have HK:Hid (∀ i (hi:i < ks.length),∃ b o,a=some b¢o∧NdAt W0 b (o+i * 8) ks[i]):=(HLw.out.on HBW.out).kid
   have HWS:Hid (W0§=w§+2):=hS0
   obtain⟨g,eg⟩:∃ g,tnH h=g:=⟨_,rfl⟩
   have HG:Hid (tnH h=g):=eg
   rw [eg] at H0 HRg
   clear eg etn
   clear h0 h1 hbW hL0 hS0
   clear hk hno
   go_enter Tryz.func22,Tryz.ntmps22
   go_wp2_with fail
   clear eW q0 q5 f5 hx1 hk1 hx
   go_loopw [3,4] (fun v t wr=>∃ (i:Nat) (L:List Nd),i≤ks.length∧t=zI i∧Hid (Cpl Nd.vals Lies Bk bare 48 8 W0 wr v (ks.map trB) L i)) (fun _ t _=>ks.length - (intOf t).toNat)
   case atStart=>exact⟨0,[],by omega,rfl,Cpl.nil _ _ _ _ _ _ (Below.refl _ _) _⟩
   case round =>
    obtain⟨i,L,hi,rfl,HT⟩:=hrel
    have hN:NdH wr w§ (.mk g a c ks):=H0.out.on HT.out.r.B
    have q6:wr.cell? w§¢6=some (.slice a ks.length c):=Qa hN 6
    have HNr:=hN.hid
    clear hN
    by_cases hlt:i < ks.length
    ·have hlt':(i:Int) < (ks.length:Int):=by omega
     obtain⟨b,o,e1,hat⟩:=HK.out i hlt
     have hk1:NdAt wr b (o+i * 8) ks[i]:=hat.on HT.out.r.B
     have cI:=HI.out ks[i] (QS hlt) wr ((HL.out ks[i] (QS hlt)).on HT.out.r.B)
     obtain⟨k,ek⟩:∃ k,ks[i]=k:=⟨_,rfl⟩
     rw [ek] at hk1 cI
     rw [e1] at q6
     obtain⟨y0,y1,y2,y3,y4,y5,y6,y7⟩:=hk1
     unfold Nd.vals hdA at cI
     have HEK:Hid (ks[i]=k):=ek
     clear ek e1 hat
     go_wp2_with fail
     refine cI.mono ?_
     rintro e w1 ⟨k',rfl,hk1,hk2,hk3,hb1⟩
     have HB1:Hid (yD wr w1):=hb1
     have HR1:Hid (RA W0 w1 48 8 u3 (L.map Nd.vals)):=HT.out.r.call hb1
     have HLn:Hid ((L.map Nd.vals).length≤1000000000):=by have h1:=HN.out; have h2:=HT.out.l; show _≤_; rw [List.length_map]; omega
     have HK1:Hid (Lies w1 k'):=hk1
     have HK2:Hid (bare k'=trB k):=hk2
     have HK3:Hid (Bk (fun b=>wr§≤b∧b < w1§) k'):=hk3
     have hmx:(i:Int)+1≤9223372036854775807:=by have:=HN.out; omega
     clear hk1 hk2 hk3 hb1 cI y0 y1 y2 y3 y4 y5 y6 y7 q6
     unfold Nd.vals hdA
     go_wp2_with (at_builtin; refine Kb rfl (.tmp 25) (.tmp 32) 46 48 8 72 _ rfl Tryz.underlying46 Tryz.info48 rfl (by decide) (by decide) (by decide) k'.vals rfl (Ku k') HR1.out rfl rfl HLn.out ?_; intro v1 w2 hr2 hs2 hq2 hz2; have HX:Hid (Cpl Nd.vals Lies Bk bare 48 8 W0 w2 v1 (ks.map trB) (L ++ [k']) (i+1)):=HT.out.snoc kndNd (by rw [List.length_map]; exact hlt) HB1.out HK1.out (by rw [List.getElem_map,bare_trB,HEK.out]; exact HK2.out) HK3.out hr2 hs2 hq2 hz2; clear hr2 hs2 hq2 hz2)
     exact⟨⟨i+1,L ++ [k'],hlt,rfl,HX⟩,by simp only [intOf]; omega⟩
    ·obtain rfl:i=ks.length:=by omega
     have hnot:¬ (ks.length:Int) < (ks.length:Int):=by omega
     have hb1:yD W0 wr:=HT.out.r.B
     have HT':Cpl Nd.vals Lies Bk bare 48 8 W0 wr u3 (ks.map trB) L (ks.map trB).length:=by rw [List.length_map]; exact HT.out
     obtain⟨a',c',rfl,hL1,hL2,hL3,hL4⟩:=HT'.all kndNd (by decide)
     clear HT'
     rw [tr_map] at hL3
     have g0:NdH wr w§ (.mk g a c ks):=HNr.out
     have g1:=(hb1.block (w§+1) (zJ H1.out).1).trans H1.out
     obtain⟨U,eU⟩:∃ U,wr.setCell w§¢6 (.slice a' L.length c')=U:=⟨_,rfl⟩
     have u0:NdH U w§ (.mk g a' c' L):=by rw [← eU]; exact Qi _ g0
     have u1:U.heap[w§+1]? = (zC zNo 48):=by
      rw [← eU]; exact (Below.heap_setCell _ _ _ _ (by simp)).trans g1
     have f6:wr.frozen? w§¢6=false:=Qb g0 6
     have HU1:Hid (U.heap[w§+1]? = (zC zNo 48)):=u1
     have q0x:U.cell? w§¢0=some (zU g.k):=Qa u0 0
     have q1x:U.cell? w§¢1=some (zU g.o):=Qa u0 1
     have q2x:U.cell? w§¢2=some (zU g.t):=Qa u0 2
     have q3x:U.cell? w§¢3=some (zI g.n):=Qa u0 3
     have q4x:U.cell? w§¢4=some (zU g.f):=Qa u0 4
     have q5x:U.cell? w§¢5=some (.string g.x):=Qa u0 5
     have q6x:U.cell? w§¢6=some (.slice a' L.length c'):=Qa u0 6
     have q7x:U.cell? w§¢7=some (zI g.p):=Qa u0 7
     have p0:U.cell? ⟨w§+1,0,none⟩=some (zU 0):=Qa u1 0
     have r0:U.frozen? ⟨w§+1,0,none⟩=false:=Qb u1 0
     have p1:U.cell? ⟨w§+1,1,none⟩=some (zU 0):=Qa u1 1
     have r1:U.frozen? ⟨w§+1,1,none⟩=false:=Qb u1 1
     have p2:U.cell? ⟨w§+1,2,none⟩=some (zU 0):=Qa u1 2
     have r2:U.frozen? ⟨w§+1,2,none⟩=false:=Qb u1 2
     have p3:U.cell? ⟨w§+1,3,none⟩=some (zI 0):=Qa u1 3
     have r3:U.frozen? ⟨w§+1,3,none⟩=false:=Qb u1 3
     have p4:U.cell? ⟨w§+1,4,none⟩=some (zU 0):=Qa u1 4
     have r4:U.frozen? ⟨w§+1,4,none⟩=false:=Qb u1 4
     have p5:U.cell? ⟨w§+1,5,none⟩=some (yQ):=Qa u1 5
     have r5:U.frozen? ⟨w§+1,5,none⟩=false:=Qb u1 5
     have p6:U.cell? ⟨w§+1,6,none⟩=some (.slice none 0 0):=Qa u1 6
     have r6:U.frozen? ⟨w§+1,6,none⟩=false:=Qb u1 6
     have p7:U.cell? ⟨w§+1,7,none⟩=some (zI 0):=Qa u1 7
     have r7:U.frozen? ⟨w§+1,7,none⟩=false:=Qb u1 7
     have HBU:Hid (yD w U):=by
      show Below _ _ _
      rw [← eU]; exact (Qe HBW.out hb1).setCell (p:=w§¢6) (Nat.le_refl _) _
     have hWs:W0§=w§+2:=HWS.out
     have HUs:Hid (U§=wr§):=by show _=_; rw [← eU,sz_set']
     have HBk:Hid (Bk (fun b=>W0§≤b∧b < wr§) (.mk g a' c' L)):=.mk _ _ _ _ hL2 (fun k hk=>(hL4 k hk).2)
     have HLU:Hid (Lies U (.mk g a' c' L)):=by
      refine (nd_sl HRg.out hL1 (fun k hk=>(hL4 k hk).1)).bk (P:=fun b=>W0§≤b∧b < wr§) (fun b _ hp=>?_) HBk.out
      rw [← eU]; exact Below.heap_setCell _ _ _ _ (by show b≠w§; omega)
     have HTB:Hid (bare (.mk g a' c' L)=trB (.mk h a c ks)):=by show _=_; rw [JG,KP,HG.out,hL3]
     have HEU:Hid (wr.setCell w§¢6 (.slice a' L.length c')=U):=eU
     clear hL1 hL2 hL3 hL4 hb1 g0 g1 u0 u1 eU
     obtain⟨Y,eY,hY1,hY2,hY3,hY4⟩:=fin8C HU1.out (zU g.k) (zU g.o) (zU g.t) (zI g.n) (zU g.f) (.string g.x) (.slice a' L.length c') (zI g.p)
     have HY:Hid (Lies Y (.mk g a' c' L)∧Bk (fun b=>w§≤b∧b < Y§) (.mk g a' c' L)∧yD w Y):=by
      refine⟨HLU.out.bk (P:=fun b=>W0§≤b∧b < wr§) (fun b _ hp=>hY3 b (by omega)) HBk.out,HBk.out.mono fun b hp=>⟨by omega,by rw [hY2,HUs.out]; exact hp.2⟩,hY4 _ _ HBU.out (by omega)⟩
     have HY1:Hid (Y.heap[w§+1]? = (zC (Nd.mk g a' c' L).vals 48)):=hY1
     have HEY:Hid (_=Y):=eY
     clear eY hY1 hY2 hY3 hY4
     go_upto_region 9 with fail
     rw [HEU.out]
     clear f6 q6
     go_wp2_with fail
     rw [HEY.out]
     exact bodyPost_ret (results_cell_row rfl _ _ (w§+1) 48 (Nd.mk g a' c' L).vals (0,0) _ rfl HY1.out Tryz.underlying48 rfl zK) rfl ⟨.mk g a' c' L,rfl,HY.out.1,HTB.out,HY.out.2.1,HY.out.2.2⟩
 ·have hk1:(h.k == 2)=false:=by simpa using hk
  have hno:¬ (h.k=2∧h.x.size < 15):=fun e=>hk e.1
  obtain⟨W,eV⟩:∃ W,W0=W:=⟨_,rfl⟩
  subst eV
  have etn:tnH h=h:=if_neg hno
  have H0:Hid (NdH W0 w§ (.mk (tnH h) a c ks)):=by show NdH _ _ _; rw [etn]; exact h0
  have H1:Hid (W0.heap[w§+1]? = (zC zNo 48)):=h1
  have HBW:Hid (yD w W0):=hbW
  have HL:Hid (∀ k ∈ ks,Lies W0 k):=fun k hk'=>(HLw.out.sub k hk').on hbW
  have HK:Hid (∀ i (hi:i < ks.length),∃ b o,a=some b¢o∧NdAt W0 b (o+i * 8) ks[i]):=(HLw.out.on HBW.out).kid
  have HWS:Hid (W0§=w§+2):=hS0
  obtain⟨g,eg⟩:∃ g,tnH h=g:=⟨_,rfl⟩
  have HG:Hid (tnH h=g):=eg
  rw [eg] at H0 HRg
  clear eg etn
  clear h0 h1 hbW hL0 hS0
  clear hk hno
  go_enter Tryz.func22,Tryz.ntmps22
  go_wp2_with fail
  clear eW q0 q5 f5 hk1
  go_loopw [3,4] (fun v t wr=>∃ (i:Nat) (L:List Nd),i≤ks.length∧t=zI i∧Hid (Cpl Nd.vals Lies Bk bare 48 8 W0 wr v (ks.map trB) L i)) (fun _ t _=>ks.length - (intOf t).toNat)
  case atStart=>exact⟨0,[],by omega,rfl,Cpl.nil _ _ _ _ _ _ (Below.refl _ _) _⟩
  case round =>
   obtain⟨i,L,hi,rfl,HT⟩:=hrel
   have hN:NdH wr w§ (.mk g a c ks):=H0.out.on HT.out.r.B
   have q6:wr.cell? w§¢6=some (.slice a ks.length c):=Qa hN 6
   have HNr:=hN.hid
   clear hN
   by_cases hlt:i < ks.length
   ·have hlt':(i:Int) < (ks.length:Int):=by omega
    obtain⟨b,o,e1,hat⟩:=HK.out i hlt
    have hk1:NdAt wr b (o+i * 8) ks[i]:=hat.on HT.out.r.B
    have cI:=HI.out ks[i] (QS hlt) wr ((HL.out ks[i] (QS hlt)).on HT.out.r.B)
    obtain⟨k,ek⟩:∃ k,ks[i]=k:=⟨_,rfl⟩
    rw [ek] at hk1 cI
    rw [e1] at q6
    obtain⟨y0,y1,y2,y3,y4,y5,y6,y7⟩:=hk1
    unfold Nd.vals hdA at cI
    have HEK:Hid (ks[i]=k):=ek
    clear ek e1 hat
    go_wp2_with fail
    refine cI.mono ?_
    rintro e w1 ⟨k',rfl,hk1,hk2,hk3,hb1⟩
    have HB1:Hid (yD wr w1):=hb1
    have HR1:Hid (RA W0 w1 48 8 u3 (L.map Nd.vals)):=HT.out.r.call hb1
    have HLn:Hid ((L.map Nd.vals).length≤1000000000):=by have h1:=HN.out; have h2:=HT.out.l; show _≤_; rw [List.length_map]; omega
    have HK1:Hid (Lies w1 k'):=hk1
    have HK2:Hid (bare k'=trB k):=hk2
    have HK3:Hid (Bk (fun b=>wr§≤b∧b < w1§) k'):=hk3
    have hmx:(i:Int)+1≤9223372036854775807:=by have:=HN.out; omega
    clear hk1 hk2 hk3 hb1 cI y0 y1 y2 y3 y4 y5 y6 y7 q6
    unfold Nd.vals hdA
    go_wp2_with (at_builtin; refine Kb rfl (.tmp 25) (.tmp 32) 46 48 8 72 _ rfl Tryz.underlying46 Tryz.info48 rfl (by decide) (by decide) (by decide) k'.vals rfl (Ku k') HR1.out rfl rfl HLn.out ?_; intro v1 w2 hr2 hs2 hq2 hz2; have HX:Hid (Cpl Nd.vals Lies Bk bare 48 8 W0 w2 v1 (ks.map trB) (L ++ [k']) (i+1)):=HT.out.snoc kndNd (by rw [List.length_map]; exact hlt) HB1.out HK1.out (by rw [List.getElem_map,bare_trB,HEK.out]; exact HK2.out) HK3.out hr2 hs2 hq2 hz2; clear hr2 hs2 hq2 hz2)
    exact⟨⟨i+1,L ++ [k'],hlt,rfl,HX⟩,by simp only [intOf]; omega⟩
   ·obtain rfl:i=ks.length:=by omega
    have hnot:¬ (ks.length:Int) < (ks.length:Int):=by omega
    have hb1:yD W0 wr:=HT.out.r.B
    have HT':Cpl Nd.vals Lies Bk bare 48 8 W0 wr u3 (ks.map trB) L (ks.map trB).length:=by rw [List.length_map]; exact HT.out
    obtain⟨a',c',rfl,hL1,hL2,hL3,hL4⟩:=HT'.all kndNd (by decide)
    clear HT'
    rw [tr_map] at hL3
    have g0:NdH wr w§ (.mk g a c ks):=HNr.out
    have g1:=(hb1.block (w§+1) (zJ H1.out).1).trans H1.out
    obtain⟨U,eU⟩:∃ U,wr.setCell w§¢6 (.slice a' L.length c')=U:=⟨_,rfl⟩
    have u0:NdH U w§ (.mk g a' c' L):=by rw [← eU]; exact Qi _ g0
    have u1:U.heap[w§+1]? = (zC zNo 48):=by
     rw [← eU]; exact (Below.heap_setCell _ _ _ _ (by simp)).trans g1
    have f6:wr.frozen? w§¢6=false:=Qb g0 6
    have HU1:Hid (U.heap[w§+1]? = (zC zNo 48)):=u1
    have q0x:U.cell? w§¢0=some (zU g.k):=Qa u0 0
    have q1x:U.cell? w§¢1=some (zU g.o):=Qa u0 1
    have q2x:U.cell? w§¢2=some (zU g.t):=Qa u0 2
    have q3x:U.cell? w§¢3=some (zI g.n):=Qa u0 3
    have q4x:U.cell? w§¢4=some (zU g.f):=Qa u0 4
    have q5x:U.cell? w§¢5=some (.string g.x):=Qa u0 5
    have q6x:U.cell? w§¢6=some (.slice a' L.length c'):=Qa u0 6
    have q7x:U.cell? w§¢7=some (zI g.p):=Qa u0 7
    have p0:U.cell? ⟨w§+1,0,none⟩=some (zU 0):=Qa u1 0
    have r0:U.frozen? ⟨w§+1,0,none⟩=false:=Qb u1 0
    have p1:U.cell? ⟨w§+1,1,none⟩=some (zU 0):=Qa u1 1
    have r1:U.frozen? ⟨w§+1,1,none⟩=false:=Qb u1 1
    have p2:U.cell? ⟨w§+1,2,none⟩=some (zU 0):=Qa u1 2
    have r2:U.frozen? ⟨w§+1,2,none⟩=false:=Qb u1 2
    have p3:U.cell? ⟨w§+1,3,none⟩=some (zI 0):=Qa u1 3
    have r3:U.frozen? ⟨w§+1,3,none⟩=false:=Qb u1 3
    have p4:U.cell? ⟨w§+1,4,none⟩=some (zU 0):=Qa u1 4
    have r4:U.frozen? ⟨w§+1,4,none⟩=false:=Qb u1 4
    have p5:U.cell? ⟨w§+1,5,none⟩=some (yQ):=Qa u1 5
    have r5:U.frozen? ⟨w§+1,5,none⟩=false:=Qb u1 5
    have p6:U.cell? ⟨w§+1,6,none⟩=some (.slice none 0 0):=Qa u1 6
    have r6:U.frozen? ⟨w§+1,6,none⟩=false:=Qb u1 6
    have p7:U.cell? ⟨w§+1,7,none⟩=some (zI 0):=Qa u1 7
    have r7:U.frozen? ⟨w§+1,7,none⟩=false:=Qb u1 7
    have HBU:Hid (yD w U):=by
     show Below _ _ _
     rw [← eU]; exact (Qe HBW.out hb1).setCell (p:=w§¢6) (Nat.le_refl _) _
    have hWs:W0§=w§+2:=HWS.out
    have HUs:Hid (U§=wr§):=by show _=_; rw [← eU,sz_set']
    have HBk:Hid (Bk (fun b=>W0§≤b∧b < wr§) (.mk g a' c' L)):=.mk _ _ _ _ hL2 (fun k hk=>(hL4 k hk).2)
    have HLU:Hid (Lies U (.mk g a' c' L)):=by
     refine (nd_sl HRg.out hL1 (fun k hk=>(hL4 k hk).1)).bk (P:=fun b=>W0§≤b∧b < wr§) (fun b _ hp=>?_) HBk.out
     rw [← eU]; exact Below.heap_setCell _ _ _ _ (by show b≠w§; omega)
    have HTB:Hid (bare (.mk g a' c' L)=trB (.mk h a c ks)):=by show _=_; rw [JG,KP,HG.out,hL3]
    have HEU:Hid (wr.setCell w§¢6 (.slice a' L.length c')=U):=eU
    clear hL1 hL2 hL3 hL4 hb1 g0 g1 u0 u1 eU
    obtain⟨Y,eY,hY1,hY2,hY3,hY4⟩:=fin8C HU1.out (zU g.k) (zU g.o) (zU g.t) (zI g.n) (zU g.f) (.string g.x) (.slice a' L.length c') (zI g.p)
    have HY:Hid (Lies Y (.mk g a' c' L)∧Bk (fun b=>w§≤b∧b < Y§) (.mk g a' c' L)∧yD w Y):=by
     refine⟨HLU.out.bk (P:=fun b=>W0§≤b∧b < wr§) (fun b _ hp=>hY3 b (by omega)) HBk.out,HBk.out.mono fun b hp=>⟨by omega,by rw [hY2,HUs.out]; exact hp.2⟩,hY4 _ _ HBU.out (by omega)⟩
    have HY1:Hid (Y.heap[w§+1]? = (zC (Nd.mk g a' c' L).vals 48)):=hY1
    have HEY:Hid (_=Y):=eY
    clear eY hY1 hY2 hY3 hY4
    go_upto_region 9 with fail
    rw [HEU.out]
    clear f6 q6
    go_wp2_with fail
    rw [HEY.out]
    exact bodyPost_ret (results_cell_row rfl _ _ (w§+1) 48 (Nd.mk g a' c' L).vals (0,0) _ rfl HY1.out Tryz.underlying48 rfl zK) rfl ⟨.mk g a' c' L,rfl,HY.out.1,HTB.out,HY.out.2.1,HY.out.2.2⟩
theorem rf_name_any' (s:yB) (hs:s.size≤140737488355329) (w:yW):Calls zG 71 #[.string s] w fun e w'=>e=.returned (.bool (QV s))∧yD w w':=by
 have cW:=rf_word_any s w
 cases hW:isW s
 ·rw [hW] at cW
  by_cases h1:1≤s.size
  ·by_cases h2:s.size≤16
   ·have hr:=QQ s 0 (by omega)
    obtain⟨c,hc⟩:∃ c,s[0]=c:=⟨_,rfl⟩
    rw [hc] at hr
    have h1':¬ (s.size:Int) < 1:=by omega
    have h2':¬ (s.size:Int) > 16:=by omega
    have h3':(0:Int) < (s.size:Int):=by omega
    have h3:0 < s.size:=by omega
    cases hl:letB c
    ·have K:Hid (QV s=false):=by show _=_; unfold QV; rw [hr]; simp [hdB,hl]
     clear hr
     go_enter Tryz.func71,Tryz.ntmps71
     go_wp2_with (first | (go_at_call 108; refine cW.mono ?_; rintro _ v ⟨rfl,bb⟩) | (go_at_call 109; refine (Jd hl _).mono ?_; rintro _ v2 ⟨rfl,e⟩; obtain rfl:=e.symm))
     go_ret
     exact⟨retB K.out.symm,bb⟩
    ·have HK:Hid (QV s=decide (lead goB (rest s 0)=s.size)):=by show _=_; unfold QV; rw [hW]; simp [hr,hdB,hl,h1,h2]
     clear hr
     go_enter Tryz.func71,Tryz.ntmps71
     go_wp2_with (first | (go_at_call 108; refine cW.mono ?_; rintro _ v ⟨rfl,bb⟩) | (go_at_call 109; refine (Jd hl _).mono ?_; rintro _ v2 ⟨rfl,e⟩; obtain rfl:=e.symm))
     go_loop [4] (fun t=>∃ i:Nat,i≤s.size∧t=zI i∧Hid (lead goB (rest s 0)=i+lead goB (rest s i))) (fun t=>s.size - (intOf t).toNat)
     case atStart=>exact⟨0,Nat.zero_le _,rfl,by show _=_; omega⟩
     case round =>
      obtain⟨i,hi,rfl,HR⟩:=hrel
      by_cases hlt:i < s.size
      ·have hlt':(i:Int) < (s.size:Int):=by omega
       have hr:=QQ s i hlt
       obtain⟨d,hd⟩:∃ d,s[i]=d:=⟨_,rfl⟩
       rw [hd] at hr
       cases hg:goB d
       ·have K:Hid (QV s=false):=by
         show _=_
         rw [HK.out,HR.out,hr,lead,if_neg (by rw [hg]; decide)]
         exact decide_eq_false (by omega)
        clear hr HR HK
        go_wp2_with (go_at_call 110; refine (QC hg _).mono ?_; rintro _ v2 ⟨rfl,e⟩; obtain rfl:=e.symm)
        go_ret
        exact⟨retB K.out.symm,bb⟩
       ·have hs2:Hid (lead goB (rest s 0)=(i+1)+lead goB (rest s (i+1))):=by
         show _=_
         rw [HR.out,hr,lead,if_pos hg]; omega
        clear hr HR
        go_wp2_with (go_at_call 110; refine (QC hg _).mono ?_; rintro _ v2 ⟨rfl,e⟩; obtain rfl:=e.symm)
        exact⟨⟨i+1,by omega,by go_num,hs2⟩,by simp only [intOf]; omega⟩
      ·have hie:i=s.size:=by omega
       subst hie
       have K:Hid (QV s=true):=by
        show _=_
        have:rest s s.size = []:=by
         apply List.eq_nil_of_length_eq_zero
         rw [Jj]; omega
        rw [HK.out,HR.out,this]
        exact decide_eq_true rfl
       have hlt':¬ (s.size:Int) < (s.size:Int):=by omega
       clear HR HK
       go_wp2
       go_ret
       exact⟨retB K.out.symm,bb⟩
   ·have K:Hid (QV s=false):=by show _=_; unfold QV; simp [h2]
    have h1':¬ (s.size:Int) < 1:=by omega
    have h2':(s.size:Int) > 16:=by omega
    go_enter Tryz.func71,Tryz.ntmps71
    go_wp2_with (first | (go_at_call 108; refine cW.mono ?_; rintro _ v ⟨rfl,bb⟩))
    go_ret
    exact⟨retB K.out.symm,bb⟩
  ·have K:Hid (QV s=false):=by show _=_; unfold QV; simp [h1]
   have h1':(s.size:Int) < 1:=by omega
   go_enter Tryz.func71,Tryz.ntmps71
   go_wp2_with (first | (go_at_call 108; refine cW.mono ?_; rintro _ v ⟨rfl,bb⟩))
   go_ret
   exact⟨retB K.out.symm,bb⟩
 ·rw [hW] at cW
  have K:Hid (QV s=false):=by show _=_; unfold QV; rw [hW]; rfl
  go_enter Tryz.func71,Tryz.ntmps71
  go_wp2_with (first | (go_at_call 108; refine cW.mono ?_; rintro _ v ⟨rfl,bb⟩))
  go_ret
  exact⟨retB K.out.symm,bb⟩
theorem rf_name_any (s:yB) (hs:s.size≤140737488355328) (w:yW):Calls zG 71 #[.string s] w fun e w'=>e=.returned (.bool (QV s))∧yD w w':=rf_name_any' s (by omega) w
theorem rf_word15_any (s:yB) (hs:s.size≤140737488355328) (w:yW):Calls zG 51 #[.string s] w fun e w'=>e=.returned (.bool (wordB s))∧yD w w':=by
 have c1:=rf_name_any s hs w
 have hz:((Zn:yB) ++ s).size≤140737488355329:=by rw [ByteArray.size_append]; show 1+s.size≤_; omega
 have HZ:Hid (((Zn:yB) ++ s).size≤140737488355329):=hz
 have HW:Hid (wordB s=(!QV s || !QV (Zn ++ s))):=rfl
 obtain⟨A,eA⟩:∃ A,QV s=A:=⟨_,rfl⟩
 obtain⟨y,ey⟩:∃ y,(Zn:yB) ++ s=y:=⟨_,rfl⟩
 obtain⟨B,eB⟩:∃ B,QV y=B:=⟨_,rfl⟩
 rw [eA,ey,eB] at HW
 rw [ey] at HZ
 rw [eA] at c1
 clear hz eA
 go_enter Tryz.func51,Tryz.ntmps51
 go_wp2_with fail
 refine c1.mono ?_
 rintro e w1 ⟨rfl,hb1⟩
 have c2:=rf_name_any' y HZ.out w1
 rw [eB] at c2
 have HB1:Hid (yD w w1):=hb1
 clear c1 hb1 eB
 go_wp2_with fail
 refine c2.mono ?_
 rintro e w2 ⟨rfl,hb2⟩
 have HB2:Hid (yD w w2):=Qe HB1.out hb2
 clear c2 hb2
 cases A <;> cases B
 all_goals
  go_wp2_with fail
  go_ret
  exact⟨by rw [HW.out]; rfl,HB2.out⟩
open Go.Sort
theorem lons_drop {ks:List Nd}{i:Nat}(hi:i < ks.length):lons (ks.drop i)=(lon ks[i] || lons (ks.drop (i+1))):=by rw [KC hi]; rfl
theorem longer_any (S:Qm):∀ (m:Nd) (w:yW),Lies w m→Calls zG 23 #[.agg m.vals,.agg S.vals] w fun e w'=>e=.returned (.bool (lon m))∧yD w w':=by
 refine Nd.ind fun h a c ks ih w hl=>?_
 have e2:=Ql w (.cells (Nd.mk h a c ks).vals 48) (.cells S.vals 27)
 have n1:((w.alloc (.cells (Nd.mk h a c ks).vals 48)).alloc (.cells S.vals 27)).heap[w§]? = (zC (Nd.mk h a c ks).vals 48):=QI (Qd _ _) (by rw [Qf]; omega)
 have n2:((w.alloc (.cells (Nd.mk h a c ks).vals 48)).alloc (.cells S.vals 27)).heap[w§+1]? = (zC S.vals 27):=by rw [← Qf w (.cells (Nd.mk h a c ks).vals 48)]; exact Qd _ _
 obtain⟨V,eV⟩:∃ V,(w.alloc (.cells (Nd.mk h a c ks).vals 48)).alloc (.cells S.vals 27)=V:=⟨_,rfl⟩
 rw [eV] at e2 n1 n2
 have HI:Hid (∀ k ∈ ks,∀ (w:yW),Lies w k→Calls zG 23 #[.agg k.vals,.agg S.vals] w fun e w'=>e=.returned (.bool (lon k))∧yD w w'):=ih
 have HB:Hid (yD w V):=e2
 have HN1:Hid (NdH V w§ (.mk h a c ks)):=n1
 have HN2:Hid (V.heap[w§+1]? = (zC S.vals 27)):=n2
 have HL:Hid (Lies V (.mk h a c ks)):=hl.on e2
 have q0:V.cell? w§¢0=some (zU h.k):=Qa n1 0
 have q5:V.cell? w§¢5=some (.string h.x):=Qa n1 5
 have hsz:h.x.size≤140737488355328:=hl.rg.x1
 have cW:=rf_word15_any h.x hsz V
 have HM:Hid (ks.length≤c∧c≤9223372036854775807):=⟨hl.cap,hl.max⟩
 clear ih hl e2 n1 n2
 have HR:Hid (lon (.mk h a c ks)=if h.k=2 then wordB h.x || decide (15≤h.x.size) else lons ks):=by show _=_; rw [lon]
 obtain⟨r,er⟩:∃ r,lon (.mk h a c ks)=r:=⟨_,rfl⟩
 rw [er] at HR ⊢
 clear er
 obtain⟨B0,eB0⟩:∃ B,wordB h.x=B:=⟨_,rfl⟩
 rw [eB0] at cW HR
 have HEV:Hid ((w.alloc (.cells (Nd.mk h a c ks).vals 48)).alloc (.cells S.vals 27)=V):=eV
 clear eV eB0 hsz
 by_cases hk:h.k=2
 ·have hk1:(h.k == 2)=true:=by simpa using hk
  rw [if_pos hk] at HR
  clear hk
  go_enter Tryz.func23,Tryz.ntmps23
  go_upto_region 1 with fail
  have hE:(w.alloc (.cells (zX h a ks c) 48)).alloc (.cells S.vals 27)=V:=HEV.out
  rw [HEV.out]
  clear hE
  go_wp2_with fail
  refine cW.mono ?_
  rintro e w1 ⟨rfl,hb1⟩
  have HB1:Hid (yD w w1):=Qe HB.out hb1
  have q6:w1.cell? w§¢5=some (.string h.x):=Qa (HN1.out.on hb1) 5
  clear cW hb1 q0 q5
  cases B0 with
  | true =>
   go_wp2_with fail
   go_ret
   exact⟨by rw [HR.out]; rfl,HB1.out⟩
  | false =>
   by_cases hx:15≤h.x.size
   ·have hx1:(15:Int)≤(h.x.size:Int):=by omega
    have HE:Hid (r=true):=by show _=_; rw [HR.out]; simp [hx]
    go_wp2_with fail
    go_ret
    exact⟨by rw [HE.out]; rfl,HB1.out⟩
   ·have hx1:decide ((15:Int)≤(h.x.size:Int))=false:=decide_eq_false (by omega)
    have HE:Hid (r=false):=by show _=_; rw [HR.out]; simp [hx]
    go_wp2_with fail
    go_ret
    exact⟨by rw [HE.out]; rfl,HB1.out⟩
 ·have hk1:(h.k == 2)=false:=by simpa using hk
  rw [if_neg hk] at HR
  clear hk cW q5
  go_enter Tryz.func23,Tryz.ntmps23
  go_upto_region 1 with fail
  rw [HEV.out]
  go_wp2_with fail
  go_loopw [6] (fun t wr=>∃ (i:Nat),i≤ks.length∧t=zI i∧yD V wr∧Hid (r=lons (ks.drop i))) (fun t _=>ks.length - (intOf t).toNat)
  case atStart=>exact⟨0,by omega,rfl,Below.refl _ _,HR.out⟩
  case round =>
   obtain⟨i,hi,rfl,hbr,HQ⟩:=hrel
   have HBR:Hid (yD V wr):=hbr
   clear hbr q0 hk1
   have g1:NdH wr w§ (.mk h a c ks):=HN1.out.on HBR.out
   have q6:wr.cell? w§¢6=some (.slice a ks.length c):=Qa g1 6
   clear g1
   by_cases hlt:i < ks.length
   ·have hlt':(i:Int) < (ks.length:Int):=by omega
    obtain⟨b,o,e1,hat⟩:=(HL.out.on HBR.out).kid i hlt
    have e2:a=some b¢o:=e1
    have hk1:NdAt wr b (o+i * 8) ks[i]:=hat
    have HD:Hid (r=(lon ks[i] || lons (ks.drop (i+1)))):=by show _=_; rw [HQ.out,lons_drop hlt]
    have HIk:Hid (∀ (w:yW),Lies w ks[i]→Calls zG 23 #[.agg ks[i].vals,.agg S.vals] w fun e w'=>e=.returned (.bool (lon ks[i]))∧yD w w'):=HI.out _ (QS hlt)
    have HLk:Hid (Lies wr ks[i]):=(HL.out.sub ks[i] (QS hlt)).on HBR.out
    obtain⟨k,ek⟩:∃ k,ks[i]=k:=⟨_,rfl⟩
    rw [ek] at hk1 HD HIk HLk
    obtain⟨B,eB⟩:∃ B,lon k=B:=⟨_,rfl⟩
    rw [eB] at HD HIk
    rw [e2] at q6
    have hmx:(i:Int)+1≤9223372036854775807:=by have:=HM.out; omega
    obtain⟨y0,y1,y2,y3,y4,y5,y6,y7⟩:=hk1
    have g2:=(HBR.out.block _ (zJ HN2.out).1).trans HN2.out
    have s0:wr.cell? ⟨w§+1,0,none⟩=some (.string S.x):=Qa g2 0
    have s1:wr.cell? ⟨w§+1,1,none⟩=some (.slice S.ra S.rs.length S.rc):=Qa g2 1
    have s2:wr.cell? ⟨w§+1,2,none⟩=some (.slice S.sa S.ss.length S.sc):=Qa g2 2
    have s3:wr.cell? ⟨w§+1,3,none⟩=some (.slice S.ta S.ts.length S.tc):=Qa g2 3
    clear ek e1 e2 hat g2 eB
    go_upto_region 7 with fail
    have cq:∀ dq os,Calls zG 23 #[.agg (zV k),.agg #[.string S.x,.slice S.ra S.rs.length S.rc,.slice S.sa S.ss.length S.sc,.slice S.ta S.ts.length S.tc]] (grow (redrawn wr dq) os) fun e w''=>e=.returned (.bool B)∧∃ p:Regrown,w''=grow (redrawn wr p.d) p.os:=fun dq os=>Calls.regrown_of (HIk.out _ (HLk.out.on (below_regrown wr dq os)))
    have k6:=cell_regrown q6
    have j0:=cell_regrown y0
    have j1:=cell_regrown y1
    have j2:=cell_regrown y2
    have j3:=cell_regrown y3
    have j4:=cell_regrown y4
    have j5:=cell_regrown y5
    have j6:=cell_regrown y6
    have j7:=cell_regrown y7
    have l0:=cell_regrown s0
    have l1:=cell_regrown s1
    have l2:=cell_regrown s2
    have l3:=cell_regrown s3
    refine wp_region_quiet_below zK zK ?_
    repeat (quiet_step (exact cq _ _))
    refine wpQuiet_nil ?_
    intro _ hw'
    obtain⟨⟨dq,osq⟩,hw''⟩:=hw'
    subst hw''
    have HB5:Hid (yD V (grow (redrawn wr dq) osq)):=Qe HBR.out (below_regrown wr dq osq)
    generalize grow (redrawn wr dq) osq=w5 at HB5 ⊢
    clear cq k6 j0 j1 j2 j3 j4 j5 j6 j7 l0 l1 l2 l3 q6 y0 y1 y2 y3 y4 y5 y6 y7 s0 s1 s2 s3
    cases B with
    | true =>
     go_wp2_with fail
     go_ret
     exact⟨by rw [HD.out]; rfl,Qe HB.out HB5.out⟩
    | false =>
     go_wp2_with fail
     exact⟨⟨i+1,hlt,rfl,HB5.out,HD.out⟩,by simp only [intOf]; omega⟩
   ·obtain rfl:i=ks.length:=by omega
    have hnot:¬ (ks.length:Int) < (ks.length:Int):=by omega
    have HE:Hid (r=false):=by show _=_; rw [HQ.out,List.drop_length]; rfl
    go_wp2_with fail
    go_ret
    exact⟨by rw [HE.out]; rfl,Qe HB.out HBR.out⟩
end Go.Proofs.YtoogodlnnijikaaGreatDoor
