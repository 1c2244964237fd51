import Derived.Test.YtfbjofnaghjmeaaGreatDoorA0
import Derived.Test.YtfbjofnaghjmeaaGreatDoorA47
namespace Go.Proofs.YtfbjofnaghjmeaaGreatDoor
set_option maxHeartbeats 16000000
set_option maxRecDepth 100000
open Go Go.RowKit
set_option linter.unusedVariables false
set_option linter.unusedSimpArgs false
theorem names_any (X:StateM) (f:Int) (w:yW) (hl:StateL w X):Calls zG 24 #[.agg X.vals,zU f] w fun e w'=>e=.returned (.bool (rdR f X.rs))∧yD w w':=by
 have b1:=below_new w (.cells X.vals 69)
 have n1:=heap_new w (.cells X.vals 69)
 obtain⟨W,eW⟩:∃ W,w.alloc (.cells X.vals 69)=W:=⟨_,rfl⟩
 have EW:Hid (w.alloc (.cells X.vals 69)=W):=eW
 rw [eW] at n1 b1
 obtain⟨g,eg⟩:∃ g,w§=g:=⟨_,rfl⟩
 have HG:Hid (w§=g):=eg
 rw [eg] at n1
 have HB:Hid (yD w W):=b1
 have HL:Hid (StateL w X):=hl
 have HZ:Hid (W.cell? g¢1=some (.slice X.a X.rs.length X.c)):=cell_of n1 1
 have hmax:X.rs.length≤9223372036854775807:=by have h1:=hl.1.1; have h2:=hl.1.2.1; rw [List.length_map] at h1; omega
 have HMX:Hid (X.rs.length≤9223372036854775807):=hmax
 obtain⟨Q,eQ⟩:∃ Q,rdR f X.rs=Q:=⟨_,rfl⟩
 have HQ:Hid (rdR f X.rs=Q):=eQ
 rw [eQ]
 clear n1 b1 eW eg hl hmax eQ
 go_enter Tryz.func24,Tryz.ntmps24
 go_upto_region 1 with fail
 rw [EW.out,HG.out]
 clear EW
 go_wp2_with fail
 go_loopw [5] (fun t wr=>∃ (i:Nat),i≤X.rs.length∧t=zI i∧Hid (yD w wr)∧Hid (yD W wr)∧Hid (rdR f (X.rs.drop i)=Q)) (fun t _=>X.rs.length - (intOf t).toNat)
 case atStart=>exact⟨0,by omega,rfl,HB,Below.refl _ _,HQ⟩
 case round =>
  obtain⟨i,hi,rfl,HBR,HBW,HRR⟩:=hrel
  have y1:wr.cell? g¢1=some (.slice X.a X.rs.length X.c):=cell_on HZ.out HBW.out
  by_cases hlt:i < X.rs.length
  ·have hlt':(i:Int) < (X.rs.length:Int):=by omega
   have hmx:(i:Int)+1≤9223372036854775807:=by have h1:=HMX.out; omega
   have HMI:Hid ((i:Int)+1≤9223372036854775807):=hmx
   obtain⟨b,o,ea,hat⟩:=(HL.out.1.on (mapz RuleM.sz _) HBR.out).2.2 i (by rw [List.length_map]; exact hlt)
   simp only [List.getElem_map] at hat
   have hrl:=HL.out.2.1 _ (List.getElem_mem hlt)
   have HTK:Hid ((rdD f (rdB f X.rs[i].m) X.rs[i].ds || rdR f (X.rs.drop (i+1)))=Q):=by show _=_; rw [← HRR.out,List.drop_eq_getElem_cons hlt]; rfl
   obtain⟨r,er⟩:∃ r,X.rs[i]=r:=⟨_,rfl⟩
   rw [er] at hat HTK hrl
   have HRL:Hid (RuleL w r):=hrl
   have EA:Hid (X.a=some b¢o):=ea
   have d0:wr.cell? ⟨b,o+i * 10,none⟩=some (zU r.m.h.k):=by have:=hat 0 (by omega); rw [Nat.add_zero] at this; exact this
   have d1:wr.cell? ⟨b,o+i * 10+1,none⟩=some (zU r.m.h.o):=hat 1 (by omega)
   have d2:wr.cell? ⟨b,o+i * 10+2,none⟩=some (zU r.m.h.t):=hat 2 (by omega)
   have d3:wr.cell? ⟨b,o+i * 10+3,none⟩=some (zI r.m.h.n):=hat 3 (by omega)
   have d4:wr.cell? ⟨b,o+i * 10+4,none⟩=some (zU r.m.h.f):=hat 4 (by omega)
   have d5:wr.cell? ⟨b,o+i * 10+5,none⟩=some (.string r.m.h.x):=hat 5 (by omega)
   have d6:wr.cell? ⟨b,o+i * 10+6,none⟩=some (.slice r.m.a r.m.ks.length r.m.c):=hat 6 (by omega)
   have d7:wr.cell? ⟨b,o+i * 10+7,none⟩=some (zI r.m.h.p):=hat 7 (by omega)
   have HD8:Hid (wr.cell? ⟨b,o+i * 10+8,none⟩=some (.slice r.a r.ds.length r.c)):=hat 8 (by omega)
   have hcq:Calls zG 50 #[.agg #[zU r.m.h.k,zU r.m.h.o,zU r.m.h.t,zI r.m.h.n,zU r.m.h.f,.string r.m.h.x,.slice r.m.a r.m.ks.length r.m.c,zI r.m.h.p],zU f] wr fun e w'=>e=.returned (.bool (rdB f r.m))∧yD wr w':=reads_any f r.m wr (hrl.1.on HBR.out)
   obtain⟨B,eB⟩:∃ B,rdB f r.m=B:=⟨_,rfl⟩
   rw [eB] at hcq HTK
   rw [ea] at y1
   have h0i:(0:Int)≤(i:Int):=by omega
   clear hat er hrl eB HRR ea hmx
   go_upto_region 5 with fail
   all_goals refine hcq.mono ?_
   rintro e w2 ⟨rfl,hb⟩
   have HB2:Hid (yD w w2):=below2 HBR.out hb
   have HW2:Hid (yD W w2):=below2 HBW.out hb
   have HD2:Hid (w2.cell? ⟨b,o+i * 10+8,none⟩=some (.slice r.a r.ds.length r.c)):=cell_on HD8.out hb
   clear hb hcq d0 d1 d2 d3 d4 d5 d6 d7 y1 HD8
   go_wp2_with fail
   have hmj:r.ds.length≤9223372036854775807:=by have h1:=HRL.out.2.1.1; have h2:=HRL.out.2.1.2.1; rw [List.length_map] at h1; omega
   have HMJ:Hid (r.ds.length≤9223372036854775807):=hmj
   clear hmj HBR HBW
   go_loopw [6,7] (fun b1 t ws=>∃ (j:Nat) (B1:Bool),j≤r.ds.length∧t=zI j∧b1=.bool B1∧Hid (yD w ws)∧Hid (yD W ws)∧Hid (yD w2 ws)∧Hid ((rdD f B1 (r.ds.drop j) || rdR f (X.rs.drop (i+1)))=Q)) (fun _ t _=>r.ds.length - (intOf t).toNat)
   case atStart=>exact⟨0,B,by omega,rfl,rfl,HB2,HW2,Below.refl _ _,HTK⟩
   case round =>
    obtain⟨j,B1,hj,rfl,rfl,HBS,HWS,HVS,HSS⟩:=hrel
    have y1:wr.cell? g¢1=some (.slice (some b¢o) X.rs.length X.c):=by rw [← EA.out]; exact cell_on HZ.out HWS.out
    have y8:wr.cell? ⟨b,o+i * 10+8,none⟩=some (.slice r.a r.ds.length r.c):=cell_on HD2.out HVS.out
    by_cases hltj:j < r.ds.length
    ·have hltj':(j:Int) < (r.ds.length:Int):=by omega
     have h0j:(0:Int)≤(j:Int):=by omega
     have hmxj:(j:Int)+1≤9223372036854775807:=by have h1:=HMJ.out; omega
     obtain⟨b2,o2,ea2,hat⟩:=(HRL.out.2.1.on (mapz DoM.sz _) HBS.out).2.2 j (by rw [List.length_map]; exact hltj)
     simp only [List.getElem_map] at hat
     have hdl:=HRL.out.2.2.1 _ (List.getElem_mem hltj)
     have HT2:Hid ((rdD f (B1 || rdO f r.ds[j]) (r.ds.drop (j+1)) || rdR f (X.rs.drop (i+1)))=Q):=by show _=_; rw [← HSS.out,List.drop_eq_getElem_cons hltj]; rfl
     obtain⟨d,ed⟩:∃ d,r.ds[j]=d:=⟨_,rfl⟩
     rw [ed] at hat HT2 hdl
     have HDL:Hid (DoL w d):=hdl
     have HRG:Hid (wr.rangeAt b2 (o2+j * 36) d.vals.toList):=fun z v hv=>by
      have hz:z < 36:=(List.getElem?_eq_some_iff.1 hv).1
      rw [hat z hz,← hv]; simp
     have HN:Hid ((wr.alloc (.cells #[zU 0,zU 0,yQ,zU 0,zU 0,zU 0,zI 0,zU 0,yQ,.slice none 0 0,zI 0,zU 0,zU 0,zU 0,zI 0,zU 0,yQ,.slice none 0 0,zI 0,zU 0,zU 0,zU 0,zI 0,zU 0,yQ,.slice none 0 0,zI 0,zU 0,zU 0,zU 0,zI 0,zU 0,yQ,.slice none 0 0,zI 0,zI 0] 121)).heap[wr§]? = (zC #[zU 0,zU 0,yQ,zU 0,zU 0,zU 0,zI 0,zU 0,yQ,.slice none 0 0,zI 0,zU 0,zU 0,zU 0,zI 0,zU 0,yQ,.slice none 0 0,zI 0,zU 0,zU 0,zU 0,zI 0,zU 0,yQ,.slice none 0 0,zI 0,zU 0,zU 0,zU 0,zI 0,zU 0,yQ,.slice none 0 0,zI 0,zI 0] 121)):=heap_new _ _
     have hbx:yD wr ((wr.alloc (.cells #[zU 0,zU 0,yQ,zU 0,zU 0,zU 0,zI 0,zU 0,yQ,.slice none 0 0,zI 0,zU 0,zU 0,zU 0,zI 0,zU 0,yQ,.slice none 0 0,zI 0,zU 0,zU 0,zU 0,zI 0,zU 0,yQ,.slice none 0 0,zI 0,zU 0,zU 0,zU 0,zI 0,zU 0,yQ,.slice none 0 0,zI 0,zI 0] 121)).setRow wr§ d.vals):=below_row (below_new _ _) (Nat.le_refl _) _
     have HBX:Hid (yD w ((wr.alloc (.cells #[zU 0,zU 0,yQ,zU 0,zU 0,zU 0,zI 0,zU 0,yQ,.slice none 0 0,zI 0,zU 0,zU 0,zU 0,zI 0,zU 0,yQ,.slice none 0 0,zI 0,zU 0,zU 0,zU 0,zI 0,zU 0,yQ,.slice none 0 0,zI 0,zU 0,zU 0,zU 0,zI 0,zU 0,yQ,.slice none 0 0,zI 0,zI 0] 121)).setRow wr§ d.vals)∧yD W ((wr.alloc (.cells #[zU 0,zU 0,yQ,zU 0,zU 0,zU 0,zI 0,zU 0,yQ,.slice none 0 0,zI 0,zU 0,zU 0,zU 0,zI 0,zU 0,yQ,.slice none 0 0,zI 0,zU 0,zU 0,zU 0,zI 0,zU 0,yQ,.slice none 0 0,zI 0,zU 0,zU 0,zU 0,zI 0,zU 0,yQ,.slice none 0 0,zI 0,zI 0] 121)).setRow wr§ d.vals)∧yD w2 ((wr.alloc (.cells #[zU 0,zU 0,yQ,zU 0,zU 0,zU 0,zI 0,zU 0,yQ,.slice none 0 0,zI 0,zU 0,zU 0,zU 0,zI 0,zU 0,yQ,.slice none 0 0,zI 0,zU 0,zU 0,zU 0,zI 0,zU 0,yQ,.slice none 0 0,zI 0,zU 0,zU 0,zU 0,zI 0,zU 0,yQ,.slice none 0 0,zI 0,zI 0] 121)).setRow wr§ d.vals)):=⟨below2 HBS.out hbx,below2 HWS.out hbx,below2 HVS.out hbx⟩
     have HNX:Hid (((wr.alloc (.cells #[zU 0,zU 0,yQ,zU 0,zU 0,zU 0,zI 0,zU 0,yQ,.slice none 0 0,zI 0,zU 0,zU 0,zU 0,zI 0,zU 0,yQ,.slice none 0 0,zI 0,zU 0,zU 0,zU 0,zI 0,zU 0,yQ,.slice none 0 0,zI 0,zU 0,zU 0,zU 0,zI 0,zU 0,yQ,.slice none 0 0,zI 0,zI 0] 121)).setRow wr§ d.vals).heap[wr§]? = (zC d.vals 121)):=setRow_heap _ _ _ _ _ _ HN.out
     replace y8:wr.cell? ⟨b,o+i * 10+8,none⟩=some (.slice (some b2¢o2) r.ds.length r.c):=y8.trans (by rw [ea2])
     have HMXJ:Hid ((j:Int)+1≤9223372036854775807):=hmxj
     clear hat ed hdl hbx HSS ea2 HBS HWS HVS hmxj
     go_upto_region 9 with (first | (refine wpList_load_mid rfl 121 (.tmp 42) rfl b2 (o2+j * 36) rfl d.vals.toList _ HRG.out Tryz.underlying121 rfl (by show _=some 36; exact size110') ?_; rw [Array.toArray_toList]) | (refine wpList_store_row rfl 121 (.tmp 8) (.tmp 43) rfl wr§ d.vals rfl rfl 121 #[zU 0,zU 0,yQ,zU 0,zU 0,zU 0,zI 0,zU 0,yQ,.slice none 0 0,zI 0,zU 0,zU 0,zU 0,zI 0,zU 0,yQ,.slice none 0 0,zI 0,zU 0,zU 0,zU 0,zI 0,zU 0,yQ,.slice none 0 0,zI 0,zU 0,zU 0,zU 0,zI 0,zU 0,yQ,.slice none 0 0,zI 0,zI 0] HN.out size110' rfl (all36 ..) ?_))
     generalize hWX:World.setRow _ _ _=WX
     rw [hWX] at HBX HNX
     clear hWX HN HRG y1 y8
     obtain⟨G,eG⟩:∃ G,wr§=G:=⟨_,rfl⟩
     rw [eG] at HNX ⊢
     clear eG
     have hmxj:=HMXJ.out
     have HB0:Hid (yD w WX∧yD W WX∧yD w2 WX):=HBX
     have HN0:Hid (WX.heap[G]? = (zC d.vals 121)):=HNX
     cases B1 with
     | true =>
      have HT3:Hid ((rdD f true (r.ds.drop (j+1)) || rdR f (X.rs.drop (i+1)))=Q):=HT2.out
      go_wp2_with fail
      exact⟨⟨j+1,true,hltj,rfl,rfl,HB0.out.1,HB0.out.2.1,HB0.out.2.2,HT3⟩,by simp only [intOf]; omega⟩
     | false =>
      have c:Calls zG 50 #[.agg #[zU d.sd.h.k,zU d.sd.h.o,zU d.sd.h.t,zI d.sd.h.n,zU d.sd.h.f,.string d.sd.h.x,.slice d.sd.a d.sd.ks.length d.sd.c,zI d.sd.h.p],zU f] WX fun e w'=>e=.returned (.bool (rdB f d.sd))∧yD WX w':=reads_any f d.sd WX ((HDL.out.1).on HB0.out.1)
      have e0:WX.cell? G¢3=some (zU d.sd.h.k):=cell_of HN0.out 3
      have e1:WX.cell? G¢4=some (zU d.sd.h.o):=cell_of HN0.out 4
      have e2:WX.cell? G¢5=some (zU d.sd.h.t):=cell_of HN0.out 5
      have e3:WX.cell? G¢6=some (zI d.sd.h.n):=cell_of HN0.out 6
      have e4:WX.cell? G¢7=some (zU d.sd.h.f):=cell_of HN0.out 7
      have e5:WX.cell? G¢8=some (.string d.sd.h.x):=cell_of HN0.out 8
      have e6:WX.cell? G¢9=some (.slice d.sd.a d.sd.ks.length d.sd.c):=cell_of HN0.out 9
      have e7:WX.cell? G¢10=some (zI d.sd.h.p):=cell_of HN0.out 10
      obtain⟨R,eR⟩:∃ R,rdB f d.sd=R:=⟨_,rfl⟩
      have ER0:Hid (rdB f d.sd=R):=eR
      rw [eR] at c
      clear eR
      go_wp2_with fail
      refine c.mono ?_
      rintro e v1 ⟨rfl,hb⟩
      have HB1:Hid (yD w v1∧yD W v1∧yD w2 v1):=⟨below2 HB0.out.1 hb,below2 HB0.out.2.1 hb,below2 HB0.out.2.2 hb⟩
      have HN1:Hid (v1.heap[G]? = (zC d.vals 121)):=heapOf hb HN0.out
      clear hb c e0 e1 e2 e3 e4 e5 e6 e7
      cases R with
      | true =>
       have HT3:Hid ((rdD f true (r.ds.drop (j+1)) || rdR f (X.rs.drop (i+1)))=Q):=by show _=_; rw [← HT2.out]; unfold rdO; rw [ER0.out]; rfl
       go_wp2_with fail
       exact⟨⟨j+1,true,hltj,rfl,rfl,HB1.out.1,HB1.out.2.1,HB1.out.2.2,HT3⟩,by simp only [intOf]; omega⟩
      | false =>
       have c:Calls zG 50 #[.agg #[zU d.qt.h.k,zU d.qt.h.o,zU d.qt.h.t,zI d.qt.h.n,zU d.qt.h.f,.string d.qt.h.x,.slice d.qt.a d.qt.ks.length d.qt.c,zI d.qt.h.p],zU f] v1 fun e w'=>e=.returned (.bool (rdB f d.qt))∧yD v1 w':=reads_any f d.qt v1 ((HDL.out.2.1).on HB1.out.1)
       have e0:v1.cell? G¢11=some (zU d.qt.h.k):=cell_of HN1.out 11
       have e1:v1.cell? G¢12=some (zU d.qt.h.o):=cell_of HN1.out 12
       have e2:v1.cell? G¢13=some (zU d.qt.h.t):=cell_of HN1.out 13
       have e3:v1.cell? G¢14=some (zI d.qt.h.n):=cell_of HN1.out 14
       have e4:v1.cell? G¢15=some (zU d.qt.h.f):=cell_of HN1.out 15
       have e5:v1.cell? G¢16=some (.string d.qt.h.x):=cell_of HN1.out 16
       have e6:v1.cell? G¢17=some (.slice d.qt.a d.qt.ks.length d.qt.c):=cell_of HN1.out 17
       have e7:v1.cell? G¢18=some (zI d.qt.h.p):=cell_of HN1.out 18
       obtain⟨R,eR⟩:∃ R,rdB f d.qt=R:=⟨_,rfl⟩
       have ER1:Hid (rdB f d.qt=R):=eR
       rw [eR] at c
       clear eR
       go_wp2_with fail
       refine c.mono ?_
       rintro e v2 ⟨rfl,hb⟩
       have HB2:Hid (yD w v2∧yD W v2∧yD w2 v2):=⟨below2 HB1.out.1 hb,below2 HB1.out.2.1 hb,below2 HB1.out.2.2 hb⟩
       have HN2:Hid (v2.heap[G]? = (zC d.vals 121)):=heapOf hb HN1.out
       clear hb c e0 e1 e2 e3 e4 e5 e6 e7
       cases R with
       | true =>
        have HT3:Hid ((rdD f true (r.ds.drop (j+1)) || rdR f (X.rs.drop (i+1)))=Q):=by show _=_; rw [← HT2.out]; unfold rdO; rw [ER0.out,ER1.out]; rfl
        go_wp2_with fail
        exact⟨⟨j+1,true,hltj,rfl,rfl,HB2.out.1,HB2.out.2.1,HB2.out.2.2,HT3⟩,by simp only [intOf]; omega⟩
       | false =>
        have c:Calls zG 50 #[.agg #[zU d.pr.h.k,zU d.pr.h.o,zU d.pr.h.t,zI d.pr.h.n,zU d.pr.h.f,.string d.pr.h.x,.slice d.pr.a d.pr.ks.length d.pr.c,zI d.pr.h.p],zU f] v2 fun e w'=>e=.returned (.bool (rdB f d.pr))∧yD v2 w':=reads_any f d.pr v2 ((HDL.out.2.2.1).on HB2.out.1)
        have e0:v2.cell? G¢19=some (zU d.pr.h.k):=cell_of HN2.out 19
        have e1:v2.cell? G¢20=some (zU d.pr.h.o):=cell_of HN2.out 20
        have e2:v2.cell? G¢21=some (zU d.pr.h.t):=cell_of HN2.out 21
        have e3:v2.cell? G¢22=some (zI d.pr.h.n):=cell_of HN2.out 22
        have e4:v2.cell? G¢23=some (zU d.pr.h.f):=cell_of HN2.out 23
        have e5:v2.cell? G¢24=some (.string d.pr.h.x):=cell_of HN2.out 24
        have e6:v2.cell? G¢25=some (.slice d.pr.a d.pr.ks.length d.pr.c):=cell_of HN2.out 25
        have e7:v2.cell? G¢26=some (zI d.pr.h.p):=cell_of HN2.out 26
        obtain⟨R,eR⟩:∃ R,rdB f d.pr=R:=⟨_,rfl⟩
        have ER2:Hid (rdB f d.pr=R):=eR
        rw [eR] at c
        clear eR
        go_wp2_with fail
        refine c.mono ?_
        rintro e v3 ⟨rfl,hb⟩
        have HB3:Hid (yD w v3∧yD W v3∧yD w2 v3):=⟨below2 HB2.out.1 hb,below2 HB2.out.2.1 hb,below2 HB2.out.2.2 hb⟩
        have HN3:Hid (v3.heap[G]? = (zC d.vals 121)):=heapOf hb HN2.out
        clear hb c e0 e1 e2 e3 e4 e5 e6 e7
        cases R with
        | true =>
         have HT3:Hid ((rdD f true (r.ds.drop (j+1)) || rdR f (X.rs.drop (i+1)))=Q):=by show _=_; rw [← HT2.out]; unfold rdO; rw [ER0.out,ER1.out,ER2.out]; rfl
         go_wp2_with fail
         exact⟨⟨j+1,true,hltj,rfl,rfl,HB3.out.1,HB3.out.2.1,HB3.out.2.2,HT3⟩,by simp only [intOf]; omega⟩
        | false =>
         have c:Calls zG 50 #[.agg #[zU d.vl.h.k,zU d.vl.h.o,zU d.vl.h.t,zI d.vl.h.n,zU d.vl.h.f,.string d.vl.h.x,.slice d.vl.a d.vl.ks.length d.vl.c,zI d.vl.h.p],zU f] v3 fun e w'=>e=.returned (.bool (rdB f d.vl))∧yD v3 w':=reads_any f d.vl v3 ((HDL.out.2.2.2.1).on HB3.out.1)
         have e0:v3.cell? G¢27=some (zU d.vl.h.k):=cell_of HN3.out 27
         have e1:v3.cell? G¢28=some (zU d.vl.h.o):=cell_of HN3.out 28
         have e2:v3.cell? G¢29=some (zU d.vl.h.t):=cell_of HN3.out 29
         have e3:v3.cell? G¢30=some (zI d.vl.h.n):=cell_of HN3.out 30
         have e4:v3.cell? G¢31=some (zU d.vl.h.f):=cell_of HN3.out 31
         have e5:v3.cell? G¢32=some (.string d.vl.h.x):=cell_of HN3.out 32
         have e6:v3.cell? G¢33=some (.slice d.vl.a d.vl.ks.length d.vl.c):=cell_of HN3.out 33
         have e7:v3.cell? G¢34=some (zI d.vl.h.p):=cell_of HN3.out 34
         obtain⟨R,eR⟩:∃ R,rdB f d.vl=R:=⟨_,rfl⟩
         have ER3:Hid (rdB f d.vl=R):=eR
         rw [eR] at c
         clear eR
         go_wp2_with fail
         refine c.mono ?_
         rintro e v4 ⟨rfl,hb⟩
         have HB4:Hid (yD w v4∧yD W v4∧yD w2 v4):=⟨below2 HB3.out.1 hb,below2 HB3.out.2.1 hb,below2 HB3.out.2.2 hb⟩
         have HN4:Hid (v4.heap[G]? = (zC d.vals 121)):=heapOf hb HN3.out
         clear hb c e0 e1 e2 e3 e4 e5 e6 e7
         cases R with
         | true =>
          have HT3:Hid ((rdD f true (r.ds.drop (j+1)) || rdR f (X.rs.drop (i+1)))=Q):=by show _=_; rw [← HT2.out]; unfold rdO; rw [ER0.out,ER1.out,ER2.out,ER3.out]; rfl
          go_wp2_with fail
          exact⟨⟨j+1,true,hltj,rfl,rfl,HB4.out.1,HB4.out.2.1,HB4.out.2.2,HT3⟩,by simp only [intOf]; omega⟩
         | false =>
          have HT3:Hid ((rdD f false (r.ds.drop (j+1)) || rdR f (X.rs.drop (i+1)))=Q):=by show _=_; rw [← HT2.out]; unfold rdO; rw [ER0.out,ER1.out,ER2.out,ER3.out]; rfl
          go_wp2_with fail
          exact⟨⟨j+1,false,hltj,rfl,rfl,HB4.out.1,HB4.out.2.1,HB4.out.2.2,HT3⟩,by simp only [intOf]; omega⟩
    ·obtain rfl:j=r.ds.length:=by omega
     have hnot:¬ (r.ds.length:Int) < (r.ds.length:Int):=by omega
     have HT3:Hid ((B1 || rdR f (X.rs.drop (i+1)))=Q):=by show _=_; rw [← HSS.out,List.drop_length]; rfl
     clear HSS
     have hmx:=HMI.out
     cases B1 with
     | true =>
      have hq:Hid (Q=true):=HT3.out.symm
      go_wp2_with fail
      go_ret
      exact⟨by rw [hq.out]; rfl,HBS.out⟩
     | false =>
      have hq:Hid (rdR f (X.rs.drop (i+1))=Q):=HT3.out
      go_wp2_with fail
      exact⟨⟨i+1,hlt,rfl,HBS,HWS,hq⟩,by simp only [intOf]; omega⟩
  ·obtain rfl:i=X.rs.length:=by omega
   have hnot:¬ (X.rs.length:Int) < (X.rs.length:Int):=by omega
   have hq:Hid (Q=false):=by show _=_; rw [← HRR.out,List.drop_length]; rfl
   go_wp2_with fail
   go_ret
   exact⟨by rw [hq.out]; rfl,HBR.out⟩
end Go.Proofs.YtfbjofnaghjmeaaGreatDoor
