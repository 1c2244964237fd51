import Derived.Test.YtoogodlnnijikaaGreatDoorA0
import Derived.Test.YtoogodlnnijikaaGreatDoorA35
import Derived.Test.YtoogodlnnijikaaGreatDoorA32
namespace Go.Proofs.YtoogodlnnijikaaGreatDoor
set_option maxHeartbeats 16000000
set_option maxRecDepth 100000
open Go.RowKit Go.Maps
set_option linter.unusedVariables false
set_option linter.unusedSimpArgs false
def rusE (L:yB→Option Int) (S2 S3:List yB):List Qr→Option (Int × Int)
 | []=>none
 | r :: rs=>match ruE L S2 S3 r with
  | some e=>some e
  | none=>rusE L S2 S3 rs
def stsE (L:yB→Option Int) (S2 S3:List yB):List Qj→Option (Int × Int)
 | []=>none
 | x :: xs=>match rusE L S2 S3 x.rs with
  | some e=>some e
  | none=>stsE L S2 S3 xs
theorem rusE_none {L:yB→Option Int}{S2 S3:List yB}{r:Qr}{rs:List Qr}(h:ruE L S2 S3 r=none):rusE L S2 S3 (r :: rs)=rusE L S2 S3 rs:=by simp only [rusE,h]
theorem rusE_some {L:yB→Option Int}{S2 S3:List yB}{r:Qr}{rs:List Qr}{e:Int × Int}(h:ruE L S2 S3 r=some e):rusE L S2 S3 (r :: rs)=some e:=by simp only [rusE,h]
theorem stsE_none {L:yB→Option Int}{S2 S3:List yB}{x:Qj}{xs:List Qj}(h:rusE L S2 S3 x.rs=none):stsE L S2 S3 (x :: xs)=stsE L S2 S3 xs:=by simp only [stsE,h]
theorem stsE_some {L:yB→Option Int}{S2 S3:List yB}{x:Qj}{xs:List Qj}{e:Int × Int}(h:rusE L S2 S3 x.rs=some e):stsE L S2 S3 (x :: xs)=some e:=by simp only [stsE,h]
def chkE (S:Qm):Option (Int × Int):=if Jf S=0 then (match decE S with
 | some e=>some e
 | none=>stsE (regL S.rs) (S.ss.map Qw.x) (S.ts.map Qj.x) S.ts) else some (0,Jf S)
theorem tyCheck_any (S:Qm) (w:yW) (hl:QD w S) (hz:StratZ S) (ht:Tab w) (hf:FTab w) (hg:Ety w):Calls zG 11 #[.agg S.vals] w (OutC w (chkE S)):=by
 have hb1:=Qc w (.cells #[.string S.x,.slice S.ra S.rs.length S.rc,.slice S.sa S.ss.length S.sc,.slice S.ta S.ts.length S.tc] 27)
 have hn1:=Qd w (.cells #[.string S.x,.slice S.ra S.rs.length S.rc,.slice S.sa S.ss.length S.sc,.slice S.ta S.ts.length S.tc] 27)
 obtain⟨W1,e1⟩:∃ W,w.alloc (.cells #[.string S.x,.slice S.ra S.rs.length S.rc,.slice S.sa S.ss.length S.sc,.slice S.ta S.ts.length S.tc] 27)=W:=⟨_,rfl⟩
 have E1:Hid (w.alloc (.cells #[.string S.x,.slice S.ra S.rs.length S.rc,.slice S.sa S.ss.length S.sc,.slice S.ta S.ts.length S.tc] 27)=W1):=e1
 rw [e1] at hb1 hn1
 have HB1:Hid (yD w W1):=hb1
 have HN1:Hid (W1.heap[w§]? = (zC #[.string S.x,.slice S.ra S.rs.length S.rc,.slice S.sa S.ss.length S.sc,.slice S.ta S.ts.length S.tc] 27)):=hn1
 have HH:Hid (QD w S∧FTab w∧Ety w):=⟨hl,hf,hg⟩
 have cC:Calls zG 30 #[.agg #[.string S.x,.slice S.ra S.rs.length S.rc,.slice S.sa S.ss.length S.sc,.slice S.ta S.ts.length S.tc]] W1 fun e w'=>e=.returned (zI (Jf S))∧yD W1 w':=check_any S W1 (hl.on hb1) hz (ht.on hb1)
 obtain⟨E,eE⟩:∃ E,Jf S=E:=⟨_,rfl⟩
 have HE:Hid (Jf S=E):=eE
 rw [eE] at cC
 have s0:W1.cell? w§¢0=some (.string S.x):=Qa hn1 0
 have s1:W1.cell? w§¢1=some (.slice S.ra S.rs.length S.rc):=Qa hn1 1
 have s2:W1.cell? w§¢2=some (.slice S.sa S.ss.length S.sc):=Qa hn1 2
 have s3:W1.cell? w§¢3=some (.slice S.ta S.ts.length S.tc):=Qa hn1 3
 clear hb1 hn1 e1 hl hz ht hf hg eE
 show Calls zG 11 #[.agg #[.string S.x,.slice S.ra S.rs.length S.rc,.slice S.sa S.ss.length S.sc,.slice S.ta S.ts.length S.tc]] w _
 go_enter Tryz.func11,Tryz.ntmps11
 go_upto_region 1 with fail
 rw [E1.out]
 clear E1
 go_wp2_with fail
 refine cC.mono ?_
 rintro e w2 ⟨rfl,hb2⟩
 have HB2:Hid (yD w w2):=Qe HB1.out hb2
 have g:=(hb2.block _ (zJ HN1.out).1).trans HN1.out
 have HN2:Hid (w2.heap[w§]? = (zC #[.string S.x,.slice S.ra S.rs.length S.rc,.slice S.sa S.ss.length S.sc,.slice S.ta S.ts.length S.tc] 27)):=g
 clear cC hb2 s0 s1 s2 s3 HB1 HN1
 by_cases h0:E=0
 ·subst h0
  have s0:w2.cell? w§¢0=some (.string S.x):=Qa g 0
  have s1:w2.cell? w§¢1=some (.slice S.ra S.rs.length S.rc):=Qa g 1
  have s2:w2.cell? w§¢2=some (.slice S.sa S.ss.length S.sc):=Qa g 2
  have s3:w2.cell? w§¢3=some (.slice S.ta S.ts.length S.tc):=Qa g 3
  have cD:Calls zG 32 #[.agg #[.string S.x,.slice S.ra S.rs.length S.rc,.slice S.sa S.ss.length S.sc,.slice S.ta S.ts.length S.tc]] w2 (OutK w2 S):=declared_any S w2 (HH.out.1.on HB2.out) (HH.out.2.1.on HB2.out) (strat_ok HE.out (regL S.rs)).1
  have HF:Hid (chkE S=match decE S with
   | some e=>some e
   | none=>stsE (regL S.rs) (S.ss.map Qw.x) (S.ts.map Qj.x) S.ts):=by show _=_; unfold chkE; rw [if_pos HE.out]
  clear g
  go_wp2_with fail
  refine cD.mono ?_
  rintro e w3 (⟨p,no,c,h1,rfl,h2,h3,hb3⟩ | ⟨b,b2,b3,h1,rfl,hk,hb3⟩)
  ·have HR:Hid (chkE S=some (p,no)):=by show _=_; rw [HF.out,h1]
   have h4:=Qc w3 (.cells zm 87)
   have HB3:Hid (yD w (w3.alloc (.cells zm 87))∧Er (w3.alloc (.cells zm 87)) (.iface 118 (zP c)) no p):=⟨Qe HB2.out (Qe hb3 h4),h3.er.on h4⟩
   clear h1 h2 h3 h4 hb3 cD s0 s1 s2 s3
   go_wp2_with fail
   go_ret
   exact .inr ⟨p,no,_,_,HR.out,rfl,HB3.out.2,HB3.out.1⟩
  ·obtain⟨L,eL⟩:∃ L,regL S.rs=L:=⟨_,rfl⟩
   obtain⟨S2,eS2⟩:∃ l,S.ss.map Qw.x=l:=⟨_,rfl⟩
   obtain⟨S3,eS3⟩:∃ l,S.ts.map Qj.x=l:=⟨_,rfl⟩
   have HOK:Hid (∀ x ∈ S.ts,∀ r ∈ x.rs,RuOk L r):=(strat_ok HE.out L).2
   have HR0:Hid (chkE S=stsE L S2 S3 S.ts):=by show _=_; rw [HF.out,h1,eL,eS2,eS3]
   rw [eL,eS2,eS3] at hk
   have h4:=Qc w3 (.cells #[.map (some b),.map (some b2),.map (some b3)] 87)
   have n4:=Qd w3 (.cells #[.map (some b),.map (some b2),.map (some b3)] 87)
   have hb4:=Qe hb3 h4
   have s3':(w3.alloc (.cells #[.map (some b),.map (some b2),.map (some b3)] 87)).cell? w§¢3=some (.slice S.ta S.ts.length S.tc):=Qa ((hb4.block _ (zJ HN2.out).1).trans HN2.out) 3
   have HK4:Hid (Kn (w3.alloc (.cells #[.map (some b),.map (some b2),.map (some b3)] 87)) b b2 b3 L S2 S3):=hk.on h4
   have HB4:Hid (yD w (w3.alloc (.cells #[.map (some b),.map (some b2),.map (some b3)] 87))):=Qe HB2.out hb4
   obtain⟨WK,eWK⟩:∃ W,w3.alloc (.cells #[.map (some b),.map (some b2),.map (some b3)] 87)=W:=⟨_,rfl⟩
   have EWK:Hid (w3.alloc (.cells #[.map (some b),.map (some b2),.map (some b3)] 87)=WK):=eWK
   obtain⟨M4,eM4⟩:∃ m,w3§=m:=⟨_,rfl⟩
   have EM4:Hid (w3§=M4):=eM4
   rw [eWK] at s3' HK4 HB4 n4
   rw [eM4] at n4
   have HN4:Hid (WK.heap[M4]? = (zC #[.map (some b),.map (some b2),.map (some b3)] 87)):=n4
   have HSL:Hid (SlAt w 3 S.ta S.tc (S.ts.map Qj.vals)):=HH.out.1.2.2.2.2.1
   have HST:Hid (∀ x ∈ S.ts,QP w x):=HH.out.1.2.2.2.2.2.1
   obtain⟨R,eR⟩:∃ R,chkE S=R:=⟨_,rfl⟩
   have ER:Hid (chkE S=R):=eR
   rw [eR] at HR0
   obtain⟨ts,ets⟩:∃ ts,S.ts=ts:=⟨_,rfl⟩
   rw [ets] at HOK HR0 HSL HST s3'
   obtain⟨ta,eta⟩:∃ q,S.ta=q:=⟨_,rfl⟩
   rw [eta] at HSL s3'
   clear h1 hk h4 n4 hb4 hb3 cD s0 s1 s2 s3 eWK eM4 eL eS2 eS3 HF HE HN2 eR ets eta
   go_upto_region 5 with fail
   rw [EWK.out,EM4.out]
   clear EWK EM4
   go_wp2_with fail
   go_loopw [28] (fun t wr=>∃ i:Nat,i≤ts.length∧t=zI i∧Hid (yD WK wr)∧Hid (R=stsE L S2 S3 (ts.drop i))) (fun t _=>ts.length - (intOf t).toNat)
   case atStart=>exact⟨0,by omega,rfl,Below.refl _ _,HR0⟩
   case round =>
    obtain⟨i,hi,rfl,HBR,HR⟩:=hrel
    by_cases hlt:i < ts.length
    ·have hlt':(i:Int) < (ts.length:Int):=by omega
     have hmx:(i:Int)+1≤9223372036854775807:=by have h1:=HSL.out.1; have h2:=HSL.out.2.1; rw [List.length_map] at h1; omega
     obtain⟨bb,o,ea,hat⟩:=(HSL.out.on (mapz Qj.sz _) (Qe HB4.out HBR.out)).2.2 i (by rw [List.length_map]; exact hlt)
     simp only [List.getElem_map] at hat
     have HMEM:Hid (ts[i] ∈ ts):=List.getElem_mem hlt
     have HC:Hid (R=stsE L S2 S3 (ts[i] :: ts.drop (i+1))):=by show _=_; rw [HR.out,List.drop_eq_getElem_cons hlt]
     obtain⟨d,ed⟩:∃ d,ts[i]=d:=⟨_,rfl⟩
     rw [ed] at hat HC HMEM
     have HRG:Hid (wr.rangeAt bb (o+i * 3) d.vals.toList):=fun j v hv=>by
      have hj:j < 3:=(List.getElem?_eq_some_iff.1 hv).1
      rw [hat j hj,← hv]; simp
     have HZ:Hid ((wr.alloc (.cells zk 68)).heap[wr§]? = (zC zk 68)):=Qd _ _
     have hbx:yD wr ((wr.alloc (.cells zk 68)).setRow wr§ d.vals):=Qo (Qc _ _) (Nat.le_refl _) _
     have HBX:Hid (yD WK ((wr.alloc (.cells zk 68)).setRow wr§ d.vals)):=Qe HBR.out hbx
     have HNX:Hid (((wr.alloc (.cells zk 68)).setRow wr§ d.vals).heap[wr§]? = (zC d.vals 68)):=setRow_heap _ _ _ _ _ _ HZ.out
     subst ea
     clear hat ed hbx HR HBR
     go_upto_region 10 with (first | (refine wpList_load_mid rfl 68 (.tmp 30) rfl bb (o+i * 3) rfl d.vals.toList _ HRG.out Tryz.underlying68 rfl (by show _=some 3; exact Jm) ?_; rw [Array.toArray_toList]) | (refine wpList_store_row rfl 68 (.tmp 7) (.tmp 31) rfl wr§ d.vals rfl rfl 68 zk HZ.out Jm rfl (all3' d) ?_))
     generalize hWX:World.setRow _ _ _=WX
     rw [hWX] at HBX HNX
     clear hWX HZ HRG
     have x1:WX.cell? wr§¢1=some (.slice d.a d.rs.length d.c):=Qa HNX.out 1
     have HRL:Hid (SlAt w 10 d.a d.c (d.rs.map Qr.vals)):=(HST.out d HMEM.out).1
     have HRS:Hid (∀ r ∈ d.rs,Jk w r∧RuOk L r):=fun r hr=>⟨(HST.out d HMEM.out).2.1 r hr,HOK.out d HMEM.out r hr⟩
     have HC2:Hid (∀ e,rusE L S2 S3 d.rs=some e→R=some e):=fun e he=>HC.out.trans (stsE_some he)
     have HC3:Hid (rusE L S2 S3 d.rs=none→R=stsE L S2 S3 (ts.drop (i+1))):=fun he=>HC.out.trans (stsE_none he)
     obtain⟨rs,ers⟩:∃ rs,d.rs=rs:=⟨_,rfl⟩
     rw [ers] at HRL HRS HC2 HC3 x1
     obtain⟨da,eda⟩:∃ q,d.a=q:=⟨_,rfl⟩
     rw [eda] at HRL x1
     clear ers eda HC HMEM HNX
     generalize wr§=M1 at x1 ⊢
     go_wp2_with fail
     go_loopw [35] (fun t wr=>∃ j:Nat,j≤rs.length∧t=zI j∧Hid (yD WK wr)∧Hid (rusE L S2 S3 rs=rusE L S2 S3 (rs.drop j))) (fun t _=>rs.length - (intOf t).toNat)
     case atStart=>exact⟨0,by omega,rfl,HBX,rfl⟩
     case round =>
      obtain⟨j,hj,rfl,HBQ,HRQ⟩:=hrel
      by_cases hjl:j < rs.length
      ·have hjl':(j:Int) < (rs.length:Int):=by omega
       have hjx:(j:Int)+1≤9223372036854775807:=by have h1:=HRL.out.1; have h2:=HRL.out.2.1; rw [List.length_map] at h1; omega
       obtain⟨b7,o7,ea7,hat7⟩:=(HRL.out.on (mapz Qr.sz _) (Qe HB4.out HBQ.out)).2.2 j (by rw [List.length_map]; exact hjl)
       simp only [List.getElem_map] at hat7
       have HMQ:Hid (rs[j] ∈ rs):=List.getElem_mem hjl
       have HCQ:Hid (rusE L S2 S3 rs=rusE L S2 S3 (rs[j] :: rs.drop (j+1))):=by show _=_; rw [HRQ.out,List.drop_eq_getElem_cons hjl]
       obtain⟨q,eq⟩:∃ q,rs[j]=q:=⟨_,rfl⟩
       rw [eq] at hat7 HCQ HMQ
       have HRG7:Hid (wr.rangeAt b7 (o7+j * 10) q.vals.toList):=fun j v hv=>by
        have hj:j < 10:=(List.getElem?_eq_some_iff.1 hv).1
        rw [hat7 j hj,← hv]; simp
       have HZ7:Hid ((wr.alloc (.cells zd 92)).heap[wr§]? = (zC zd 92)):=Qd _ _
       have hbx7:yD wr ((wr.alloc (.cells zd 92)).setRow wr§ q.vals):=Qo (Qc _ _) (Nat.le_refl _) _
       have HBX7:Hid (yD WK ((wr.alloc (.cells zd 92)).setRow wr§ q.vals)):=Qe HBQ.out hbx7
       have HNX7:Hid (((wr.alloc (.cells zd 92)).setRow wr§ q.vals).heap[wr§]? = (zC q.vals 92)):=setRow_heap _ _ _ _ _ _ HZ7.out
       subst ea7
       clear hat7 eq hbx7 HRQ HBQ
       go_upto_region 13 with (first | (refine wpList_load_mid rfl 92 (.tmp 37) rfl b7 (o7+j * 10) rfl q.vals.toList _ HRG7.out Tryz.underlying92 rfl (by show _=some 10; exact Q7) ?_; rw [Array.toArray_toList]) | (refine wpList_store_row rfl 92 (.tmp 9) (.tmp 38) rfl wr§ q.vals rfl rfl 92 zd HZ7.out Q7 rfl (all10' q) ?_))
       generalize hWQ:World.setRow _ _ _=WQ
       rw [hWQ] at HBX7 HNX7
       clear hWQ HZ7 HRG7
       have hwq:=Qe HB4.out HBX7.out
       have hkq:=(HBX7.out.block _ (zJ HN4.out).1).trans HN4.out
       have k0:WQ.cell? M4¢0=some (.map (some b)):=Qa hkq 0
       have k1:WQ.cell? M4¢1=some (.map (some b2)):=Qa hkq 1
       have k2:WQ.cell? M4¢2=some (.map (some b3)):=Qa hkq 2
       have cC:Calls zG 33 #[.agg #[.map (some b),.map (some b2),.map (some b3)],.agg q.vals] WQ (OutC WQ (ruE L S2 S3 q)):=checkRule_any b b2 b3 L S2 S3 q WQ (HK4.out.on HBX7.out) (HH.out.2.1.on hwq) (HH.out.2.2.on hwq) ((HRS.out q HMQ.out).1.on hwq) (HRS.out q HMQ.out).2
       clear hwq hkq
       go_wp2_with (refine wpList_load_row rfl 92 (.tmp 9) rfl wr§ rfl 92 q.vals (0,0) _ HNX7.out Tryz.underlying92 rfl Q7 ?_)
       refine cC.mono ?_
       rintro e w8 (⟨hn,rfl,hb8⟩ | ⟨p,no,T,v,hn,rfl,her,hb8⟩)
       ·have HB8:Hid (yD WK w8):=Qe HBX7.out hb8
        have HN8:Hid (rusE L S2 S3 rs=rusE L S2 S3 (rs.drop (j+1))):=HCQ.out.trans (rusE_none hn)
        clear cC hb8 hn k0 k1 k2
        go_wp2_with fail
        exact⟨⟨j+1,hjl,rfl,HB8,HN8⟩,by simp only [intOf]; omega⟩
       ·have HB8:Hid (yD w w8∧Er w8 (.iface T v) no p):=⟨Qe HB4.out (Qe HBX7.out hb8),her⟩
        have HD:Hid (R=some (p,no)):=HC2.out _ (HCQ.out.trans (rusE_some hn))
        clear cC hb8 hn her k0 k1 k2
        go_wp2_with fail
        go_ret
        exact .inr ⟨p,no,T,v,ER.out.trans HD.out,rfl,HB8.out.2,HB8.out.1⟩
      ·obtain rfl:j=rs.length:=by omega
       have hnot:¬ (rs.length:Int) < (rs.length:Int):=by omega
       have HN0:Hid (R=stsE L S2 S3 (ts.drop (i+1))):=HC3.out (by rw [HRQ.out,List.drop_length]; rfl)
       clear HRQ
       go_wp2_with fail
       exact⟨⟨i+1,hlt,rfl,HBQ,HN0⟩,by simp only [intOf]; omega⟩
    ·obtain rfl:i=ts.length:=by omega
     have hnot:¬ (ts.length:Int) < (ts.length:Int):=by omega
     have HD:Hid (R=none):=by show _=_; rw [HR.out,List.drop_length]; rfl
     clear HR
     go_wp2_with fail
     go_ret
     exact .inl ⟨ER.out.trans HD.out,rfl,Qe HB4.out HBR.out⟩
 ·have hE:(E == 0)=false:=by simpa using h0
  have HF:Hid (chkE S=some (0,E)):=by show _=_; unfold chkE; rw [HE.out,if_neg h0]
  clear h0 g
  go_wp2_with fail
  refine (JI _ _ _).mono ?_
  rintro e w7 ⟨rfl,hf7,hb7⟩
  have HB7:Hid (yD w w7∧Er w7 (.iface 118 (zP w2§)) E 0):=⟨Qe HB2.out hb7,hf7.er⟩
  clear hb7 hf7
  go_wp2_with fail
  go_ret
  exact .inr ⟨0,E,_,_,HF.out,rfl,HB7.out.2,HB7.out.1⟩
theorem regs_any (r:Qm) (w:yW) (hl:QD w r):Calls zG 42 #[.agg r.vals] w fun e w'=>∃ b,e=.returned (.map (some b))∧w§≤b∧RgM w' b (regL r.rs)∧yD w w':=by
 have hb1:=Qc w (.cells r.vals 27)
 have hn1:=Qd w (.cells r.vals 27)
 have hs1:=Qf w (.cells r.vals 27)
 obtain⟨W1,e1⟩:∃ W,w.alloc (.cells r.vals 27)=W:=⟨_,rfl⟩
 have E1:Hid (w.alloc (.cells r.vals 27)=W1):=e1
 rw [e1] at hb1 hn1 hs1
 have hb2:=Qc W1 (.map #[] 0)
 have hm2:=RgN.made W1
 have hk2:=(hb2.block _ (zJ hn1).1).trans hn1
 have hbw:=Qe hb1 hb2
 rw [hs1] at hm2
 have HS1:Hid (W1§=w§+1):=hs1
 obtain⟨W2,e2⟩:∃ W,W1.alloc (.map #[] 0)=W:=⟨_,rfl⟩
 have E2:Hid (W1.alloc (.map #[] 0)=W2):=e2
 rw [e2] at hm2 hk2 hbw
 have HSL:Hid (SlAt w 11 r.ra r.rc (r.rs.map RegM.vals)):=hl.1
 have HRL:Hid (∀ d ∈ r.rs,RegL w d):=hl.2.1
 have HM2:Hid (RgN W2 (w§+1) 0 (regL [])):=hm2
 have HBW:Hid (yD w W2):=hbw
 obtain⟨ds,eds⟩:∃ ds,r.rs=ds:=⟨_,rfl⟩
 have q1:W2.cell? w§¢1=some (.slice r.ra ds.length r.rc):=by rw [← eds]; exact Qa hk2 1
 rw [eds] at HSL HRL ⊢
 obtain⟨ra,era⟩:∃ q,r.ra=q:=⟨_,rfl⟩
 rw [era] at HSL q1
 clear hb1 hn1 hs1 hb2 hm2 hk2 hbw e1 e2 eds era hl
 have hmk:∀ w:yW,Sem.run Tryz.prog (Instr.makeMap 83 none) w=.ok (.map (some w§)) (w.alloc (.map #[] 0)):=fun w=>by first | rfl | exact run_makeMap _ _ _ | simp [run_makeMap]
 go_enter Tryz.func42,Tryz.ntmps42
 go_upto_region 2 with fail
 try rw [E1.out]
 try rw [HS1.out]
 try rw [E2.out]
 go_wp2_with fail
 clear E1 E2 HS1
 go_loopw [5,6,7,12] (fun t5 t6 t7 t wr=>∃ i:Nat,i≤ds.length∧t=zI i∧yD w wr∧Hid (RgN wr (w§+1) i (regL (ds.take i)))) (fun t5 t6 t7 t _=>ds.length - (intOf t).toNat)
 case atStart=>exact⟨0,by omega,rfl,HBW.out,HM2.out⟩
 case round =>
  obtain⟨i,hi,rfl,hbr,HR⟩:=hrel
  have HBR:Hid (yD w wr):=hbr
  clear hbr
  by_cases hlt:i < ds.length
  ·have hlt':(i:Int) < (ds.length:Int):=by omega
   have hlen:ds.length≤9223372036854775807:=by have h1:=HSL.out.1; have h2:=HSL.out.2.1; rw [List.length_map] at h1; omega
   have hmx:(i:Int)+1≤9223372036854775807:=by omega
   have hn:i < maxLen:=by unfold maxLen; omega
   obtain⟨b,o,ea,hat⟩:=(HSL.out.on (mapz RegM.sz _) HBR.out).2.2 i (by rw [List.length_map]; exact hlt)
   simp only [List.getElem_map] at hat
   have HMEM:Hid (ds[i] ∈ ds):=List.getElem_mem hlt
   have HTK:Hid (ds.take (i+1)=ds.take i ++ [ds[i]]):=by show _=_; simp
   obtain⟨d,ed⟩:∃ d,ds[i]=d:=⟨_,rfl⟩
   rw [ed] at hat HTK HMEM
   have HRG:Hid (wr.rangeAt b (o+i * 11) d.vals.toList):=fun j v hv=>by
    have hj:j < 11:=(List.getElem?_eq_some_iff.1 hv).1
    rw [hat j hj,← hv]; simp
   have HZ:Hid ((wr.alloc (.cells zc 62)).heap[wr§]? = (zC zc 62)):=Qd _ _
   have hbx:yD wr ((wr.alloc (.cells zc 62)).setRow wr§ d.vals):=Qo (Qc _ _) (Nat.le_refl _) _
   have HBX:Hid (yD w ((wr.alloc (.cells zc 62)).setRow wr§ d.vals)):=Qe HBR.out hbx
   have HNX:Hid (((wr.alloc (.cells zc 62)).setRow wr§ d.vals).heap[wr§]? = (zC d.vals 62)):=setRow_heap _ _ _ _ _ _ HZ.out
   have HMX:Hid (RgN ((wr.alloc (.cells zc 62)).setRow wr§ d.vals) (w§+1) i (regL (ds.take i))):=HR.out.on hbx
   obtain⟨A,eA⟩:∃ A,ra=A:=⟨_,rfl⟩
   rw [eA] at ea ⊢
   subst ea
   clear hat ed hbx HR hlen
   go_upto_region 5 with (first | (refine wpList_load_mid rfl 62 (.tmp 14) rfl b (o+i * 11) rfl d.vals.toList _ HRG.out Tryz.underlying62 rfl (by show _=some 11; exact QU) ?_; rw [Array.toArray_toList]) | (refine wpList_store_row rfl 62 (.tmp 5) (.tmp 15) rfl wr§ d.vals rfl rfl 62 zc HZ.out QU rfl (all11 d) ?_))
   generalize hWX:World.setRow _ _ _=WX
   rw [hWX] at HBX HNX HMX
   clear hWX HZ HRG
   have c0:WX.cell? wr§¢0=some (.string d.x):=Qa HNX.out 0
   have c1:WX.cell? wr§¢1=some (zU d.t):=Qa HNX.out 1
   have hrl:=HRL.out d HMEM.out
   have hx:d.x.size≤maxLen:=by have h1:=hrl.2.2.2; unfold SzX at h1; unfold maxLen; omega
   have hwf:(Lit.int .u8 d.t).wf=true:=by have h1:=hrl.2.1; unfold B8 at h1; rw [show (Lit.int .u8 d.t).wf=(decide ((0:Int)≤d.t) && decide (d.t≤255)) from rfl,decide_eq_true h1.1,decide_eq_true h1.2]; rfl
   have hkey:=WideMaps.keyOf_string_mk (P:=Tryz.prog) Tryz.underlying9 hx
   obtain⟨D,hown,hL⟩:=HMX.out
   have hh:=(hL d.x hx).1
   cases eL:regL (ds.take i) d.x with
   | some t =>
    have HM3:Hid (RgN WX (w§+1) (i+1) (regL (ds.take (i+1)))):=by show RgN _ _ _ _; rw [HTK.out]; exact HMX.out.same (by rw [eL]; rfl)
    rw [eL] at hh
    simp only [Option.isSome_some] at hh
    clear hL eL hrl
    go_wp2_with (at_lookup; refine wpList_lookup_own_ok_int _ rfl _ _ 83 rfl 9 44 .u8 law9 Tryz.underlying83 Tryz.underlying44 (zero34 _) (w§+1) i D rfl hown _ _ rfl hkey ?_; intro cc hat hwc)
    exact⟨⟨i+1,hlt,rfl,HBX.out,HM3.out⟩,by simp only [intOf]; omega⟩
   | none =>
    rw [eL] at hh
    simp only [Option.isSome_none] at hh
    have HP:Hid (∀ w1:yW,w1.ownsMap Tryz.prog 9 (plainElem Tryz.prog 44) (w§+1) (i+1) (D.put (.string d.x.data.toList) (.lit (.int .u8 d.t)))→RgN w1 (w§+1) (i+1) (regL (ds.take (i+1)))):=fun w1 h1=>by rw [HTK.out]; exact RgN.put hown hL eL h1
    clear hL eL hrl
    go_wp2_with (first | (at_lookup; refine wpList_lookup_own_ok_int _ rfl _ _ 83 rfl 9 44 .u8 law9 Tryz.underlying83 Tryz.underlying44 (zero34 _) (w§+1) i D rfl hown _ _ rfl hkey ?_; intro cc hat hwc) | (at_mapUpdate; refine wpList_mapUpdate_own _ rfl _ _ _ 83 rfl 9 44 law9 Tryz.underlying83 _ (w§+1) i D rfl hown hn _ _ _ rfl rfl hkey _ [] (plainElem_int Tryz.underlying44 hwf) ?_; intro w1 hown1 hgrow1))
    exact⟨⟨i+1,hlt,rfl,HBX.out.grown hgrow1 HBX.out.size (fun k hk=>by cases hk; omega),HP.out w1 hown1⟩,by simp only [intOf]; omega⟩
  ·obtain rfl:i=ds.length:=by omega
   have hnot:¬ (ds.length:Int) < (ds.length:Int):=by omega
   have HM:Hid (RgM wr (w§+1) (regL ds)):=by have h1:=HR.out; rw [List.take_length] at h1; exact h1.m
   clear HR
   go_wp2_with fail
   go_ret
   exact⟨_,rfl,by omega,HM.out,HBR.out⟩
def ofE (r:Qm) (m:Nd):Except (Int × Int) Int:=if cE m=0 then tyR (regL r.rs) m else .error (0,cE m)
theorem of_any (r:Qm) (m:Nd) (w:yW) (hl:QD w r) (hm:Lies w m) (hz:size m≤1000000000000) (ht:Tab w) (hf:FTab w):Calls zG 16 #[.agg r.vals,.agg m.vals] w (OutT w (ofE r m)):=by
 have hb1:=Qc w (.cells #[.string r.x,.slice r.ra r.rs.length r.rc,.slice r.sa r.ss.length r.sc,.slice r.ta r.ts.length r.tc] 27)
 have hn1:=Qd w (.cells #[.string r.x,.slice r.ra r.rs.length r.rc,.slice r.sa r.ss.length r.sc,.slice r.ta r.ts.length r.tc] 27)
 have hs1:=Qf w (.cells #[.string r.x,.slice r.ra r.rs.length r.rc,.slice r.sa r.ss.length r.sc,.slice r.ta r.ts.length r.tc] 27)
 obtain⟨W1,e1⟩:∃ W,w.alloc (.cells #[.string r.x,.slice r.ra r.rs.length r.rc,.slice r.sa r.ss.length r.sc,.slice r.ta r.ts.length r.tc] 27)=W:=⟨_,rfl⟩
 have E1:Hid (w.alloc (.cells #[.string r.x,.slice r.ra r.rs.length r.rc,.slice r.sa r.ss.length r.sc,.slice r.ta r.ts.length r.tc] 27)=W1):=e1
 rw [e1] at hb1 hn1 hs1
 have hb2:=Qc W1 (.cells (zV m) 48)
 have hn2:=Qd W1 (.cells (zV m) 48)
 have hk2:=(hb2.block _ (zJ hn1).1).trans hn1
 have hbw:=Qe hb1 hb2
 rw [hs1] at hn2
 have HS1:Hid (W1§=w§+1):=hs1
 obtain⟨W2,e2⟩:∃ W,W1.alloc (.cells (zV m) 48)=W:=⟨_,rfl⟩
 have E2:Hid (W1.alloc (.cells (zV m) 48)=W2):=e2
 rw [e2] at hn2 hk2 hbw
 have HB:Hid (yD w W2):=hbw
 have HK:Hid (W2.heap[w§]? = (zC #[.string r.x,.slice r.ra r.rs.length r.rc,.slice r.sa r.ss.length r.sc,.slice r.ta r.ts.length r.tc] 27)):=hk2
 have HN:Hid (W2.heap[w§+1]? = (zC (zV m) 48)):=hn2
 have HH:Hid (QD w r∧Lies w m∧FTab w):=⟨hl,hm,hf⟩
 have cC:Calls zG 40 #[.agg (zV m)] W2 fun e w'=>e=.returned (zI (cE m))∧yD W2 w':=checkExpr_any m W2 (hm.on hbw) hz (ht.on hbw)
 have c0:W2.cell? ⟨w§+1,0,none⟩=some (zU m.h.k):=Qa hn2 0
 have c1:W2.cell? ⟨w§+1,1,none⟩=some (zU m.h.o):=Qa hn2 1
 have c2:W2.cell? ⟨w§+1,2,none⟩=some (zU m.h.t):=Qa hn2 2
 have c3:W2.cell? ⟨w§+1,3,none⟩=some (zI m.h.n):=Qa hn2 3
 have c4:W2.cell? ⟨w§+1,4,none⟩=some (zU m.h.f):=Qa hn2 4
 have c5:W2.cell? ⟨w§+1,5,none⟩=some (.string m.h.x):=Qa hn2 5
 have c6:W2.cell? ⟨w§+1,6,none⟩=some (.slice m.a m.ks.length m.c):=Qa hn2 6
 have c7:W2.cell? ⟨w§+1,7,none⟩=some (zI m.h.p):=Qa hn2 7
 obtain⟨E,eE⟩:∃ E,cE m=E:=⟨_,rfl⟩
 have HE:Hid (cE m=E):=eE
 rw [eE] at cC
 clear hb1 hn1 hs1 hb2 hk2 hn2 hbw hl hm ht hf e1 e2 eE hz
 show Calls zG 16 #[.agg #[.string r.x,.slice r.ra r.rs.length r.rc,.slice r.sa r.ss.length r.sc,.slice r.ta r.ts.length r.tc],.agg (zV m)] w _
 go_enter Tryz.func16,Tryz.ntmps16
 go_upto_region 1 with fail
 rw [E1.out,E2.out]
 try rw [HS1.out]
 clear E1 E2 HS1
 go_wp2_with fail
 refine cC.mono ?_
 rintro e w3 ⟨rfl,hb3⟩
 have HB3:Hid (yD w w3):=Qe HB.out hb3
 have HK3:Hid (w3.heap[w§]? = (zC #[.string r.x,.slice r.ra r.rs.length r.rc,.slice r.sa r.ss.length r.sc,.slice r.ta r.ts.length r.tc] 27)):=(hb3.block _ (zJ HK.out).1).trans HK.out
 have HN3:Hid (w3.heap[w§+1]? = (zC (zV m) 48)):=(hb3.block _ (zJ HN.out).1).trans HN.out
 clear cC hb3 c0 c1 c2 c3 c4 c5 c6 c7 HK HN HB
 by_cases h0:E=0
 ·subst h0
  have HF:Hid (ofE r m=tyR (regL r.rs) m):=if_pos HE.out
  have HO:Hid (OkT m):=okT_cE HE.out
  go_upto_region 4 with fail
  refine wp_region_held_drew (S:=fun v=>yD w3 v) zK ⟨rfl,rfl,rfl,Nat.le_refl _,fun _ _=>rfl⟩ (fun hHeld=>?_)
  refine wpAnyH_take (i:=0) (v:=?_) rfl zK zK zK (fun _ _ _ h=>h) (Or.inl ⟨by rfl,?_⟩) (by assumption) ?_
  rotate_left
  ·(intro v hv; have g:=(hv.block _ (zJ HK3.out).1).trans HK3.out; have t0:=Qa g 0; have t1:=Qa g 1; have t2:=Qa g 2; have t3:=Qa g 3; clear g; go_simp; try (with_reducible rfl))
  try simp [Act.put]
  refine wpAnyH_take (i:=2) (v:=?_) rfl zK zK zK (fun _ _ _ h=>h) (Or.inl ⟨by rfl,?_⟩) (by assumption) ?_
  rotate_left
  ·(intro v hv; have g:=(hv.block _ (zJ HN3.out).1).trans HN3.out; have t0:=Qa g 0; have t1:=Qa g 1; have t2:=Qa g 2; have t3:=Qa g 3; have t4:=Qa g 4; have t5:=Qa g 5; have t6:=Qa g 6; have t7:=Qa g 7; clear g; go_simp; try (with_reducible rfl))
  try simp [Act.put]
  have hb4:yD w3 w3.drew:=⟨rfl,rfl,rfl,Nat.le_refl _,fun _ _=>rfl⟩
  have cR:Calls zG 42 #[.agg #[.string r.x,.slice r.ra r.rs.length r.rc,.slice r.sa r.ss.length r.sc,.slice r.ta r.ts.length r.tc]] w3.drew fun e w'=>∃ b,e=.returned (.map (some b))∧w3.drew§≤b∧RgM w' b (regL r.rs)∧Below w3.drew§ w3.drew w':=regs_any r w3.drew (HH.out.1.on (Qe HB3.out hb4))
  have HB4:Hid (yD w3 w3.drew):=hb4
  clear hb4
  refine wpAnyH_ready (rs:=[1]) zK (by simp) ?_
  refine AllReadyH.cons rfl (fun K hK=>?_) AllReadyH.nil
  go_simp
  refine cR.mono ?_
  rintro e w5 ⟨bm,rfl,hle,hrm,hb5⟩
  have HB5:Hid (yD w3 w5):=Qe HB4.out hb5
  have hbw:=Qe HB3.out HB5.out
  have cT:∀ v,yD w5 v→Calls zG 43 #[.map (some bm),.agg (zV m)] v (OutT v (tyR (regL r.rs) m)):=fun v hv=>typ_any bm (regL r.rs) m v (hrm.on hv) ((HH.out.2.2.on hbw).on hv) ((HH.out.2.1.on hbw).on hv) HO.out
  clear hle hrm hb5 hbw cR
  refine hK.out _ _ HB5.out (fun hHeld=>?_)
  clear hK K
  try simp [Act.put]
  refine wpAnyH_ready (rs:=[3]) zK (by simp) ?_
  refine AllReadyH.cons rfl (fun K hK=>?_) AllReadyH.nil
  go_simp
  refine (cT _ (by first | exact Below.refl _ _ | exact⟨rfl,rfl,rfl,Nat.le_refl _,fun _ _=>rfl⟩)).mono ?_
  rintro e w6 (⟨t,h1,rfl,hb6⟩ | ⟨p,no,b5,h1,rfl,h3,h4,hb6⟩)
  ·have HB6:Hid (yD w w6):=Qe (Qe HB3.out HB5.out) hb6
   have HR:Hid (ofE r m=.ok t):=HF.out.trans h1
   refine hK.out _ _ (Qe HB5.out hb6) (fun hHeld=>?_)
   clear hK K cT h1 hb6
   try simp [Act.put]
   refine wpAnyH_take (i:=4) (v:=?_) rfl zK zK zK (fun _ _ _ h=>h) (Or.inl ⟨by rfl,?_⟩) (by assumption) ?_
   rotate_left
   ·(intro v hv; go_simp; try (with_reducible rfl))
   try simp [Act.put]
   refine wpAnyH_take (i:=5) (v:=?_) rfl zK zK zK (fun _ _ _ h=>h) (Or.inl ⟨by rfl,?_⟩) (by assumption) ?_
   rotate_left
   ·(intro v hv; go_simp; try (with_reducible rfl))
   try simp [Act.put]
   refine wpAnyH_take (i:=6) (v:=?_) rfl zK zK zK (fun _ _ _ h=>h) (Or.inl ⟨by rfl,?_⟩) (by assumption) ?_
   rotate_left
   ·(intro v hv; go_simp; try (with_reducible rfl))
   try simp [Act.put]
   refine wpAnyH_take (i:=7) (v:=?_) rfl zK zK zK (fun _ _ _ h=>h) (Or.inl ⟨by rfl,?_⟩) (by assumption) ?_
   rotate_left
   ·(intro v hv; go_simp; try (with_reducible rfl))
   try simp [Act.put]
   refine wpAnyH_done zK ?_ _
   go_wp2_with fail
   go_ret2
   exact .inl ⟨t,HR.out,rfl,by have h1:=HB6.out; exact⟨h1.os,h1.tape,h1.output,h1.size,h1.block⟩⟩
  ·have HB6:Hid (yD w w6∧FlAt w6 b5 ZY p no∧w§≤b5):=⟨Qe (Qe HB3.out HB5.out) hb6,h4,by have h1:=HB3.out.size; have h2:=HB5.out.size; omega⟩
   have HR:Hid (ofE r m=.error (p,no)):=HF.out.trans h1
   refine hK.out _ _ (Qe HB5.out hb6) (fun hHeld=>?_)
   clear hK K cT h1 h3 h4 hb6
   try simp [Act.put]
   refine wpAnyH_take (i:=4) (v:=?_) rfl zK zK zK (fun _ _ _ h=>h) (Or.inl ⟨by rfl,?_⟩) (by assumption) ?_
   rotate_left
   ·(intro v hv; go_simp; try (with_reducible rfl))
   try simp [Act.put]
   refine wpAnyH_take (i:=5) (v:=?_) rfl zK zK zK (fun _ _ _ h=>h) (Or.inl ⟨by rfl,?_⟩) (by assumption) ?_
   rotate_left
   ·(intro v hv; go_simp; try (with_reducible rfl))
   try simp [Act.put]
   refine wpAnyH_take (i:=6) (v:=?_) rfl zK zK zK (fun _ _ _ h=>h) (Or.inl ⟨by rfl,?_⟩) (by assumption) ?_
   rotate_left
   ·(intro v hv; go_simp; try (with_reducible rfl))
   try simp [Act.put]
   refine wpAnyH_take (i:=7) (v:=?_) rfl zK zK zK (fun _ _ _ h=>h) (Or.inl ⟨by rfl,?_⟩) (by assumption) ?_
   rotate_left
   ·(intro v hv; go_simp; try (with_reducible rfl))
   try simp [Act.put]
   refine wpAnyH_done zK ?_ _
   go_wp2_with fail
   go_ret2
   exact .inr ⟨p,no,b5,HR.out,rfl,HB6.out.2.2,HB6.out.2.1,by have h1:=HB6.out.1; exact⟨h1.os,h1.tape,h1.output,h1.size,h1.block⟩⟩
 ·have h1:(E == 0)=false:=by simpa using h0
  have HF:Hid (ofE r m=.error (0,E)):=by show _=_; unfold ofE; rw [HE.out,if_neg h0]
  clear h0
  go_wp2_with fail
  refine (untyped_any _ _ _).mono ?_
  rintro e w7 ⟨rfl,hf7,hb7⟩
  have HB7:Hid (yD w w7∧FlAt w7 w3§ ZY 0 E∧w§≤w3§):=⟨Qe HB3.out hb7,hf7,HB3.out.size⟩
  clear hb7 hf7
  go_wp2_with fail
  go_ret2
  exact .inr ⟨0,E,w3§,HF.out,rfl,HB7.out.2.2,HB7.out.2.1,HB7.out.1⟩
mutual
def ndT:Tr→Nd
 | .mk h ks=>.mk h none 0 (ndTs ks)
def ndTs:List Tr→List Nd
 | []=>[]
 | k :: ks=>ndT k :: ndTs ks
end
def bare (m:Nd):Nd:=ndT (Qh m)
theorem bares:∀ ks:List Nd,ndTs (KM ks)=ks.map bare
 | []=>rfl
 | k :: ks=>by simp only [KM,ndTs,List.map_cons,bares ks]; rfl
theorem JG (h:Hd) (a:Option Addr) (c:Nat) (ks:List Nd):bare (.mk h a c ks)=.mk h none 0 (ks.map bare):=by
 show ndT (Qh (.mk h a c ks))=_
 rw [Qh,ndT,bares]
theorem bare_h (m:Nd):(bare m).h=m.h:=by cases m; rw [JG]; rfl
theorem bare_ks (m:Nd):(bare m).ks=m.ks.map bare:=by cases m; rw [JG]; rfl
theorem formsB_b:∀ l:List Nd,(∀ k ∈ l,QW (bare k)=QW k)→Q6 (l.map bare)=Q6 l
 | [],_=>rfl
 | k :: l,h=>by simp only [List.map_cons,Q6]; rw [h k (by simp),formsB_b l fun x hx=>h x (by simp [hx])]
theorem formB_b:∀ m,QW (bare m)=QW m:=by
 refine Nd.ind fun h a c ks ih=>?_
 rw [JG]
 simp only [QW,List.length_map]
 rw [formsB_b ks ih]
theorem sizes_b:∀ l:List Nd,(∀ k ∈ l,size (bare k)=size k)→Jx (l.map bare)=Jx l
 | [],_=>rfl
 | k :: l,h=>by simp only [List.map_cons,Jx]; rw [h k (by simp),sizes_b l fun x hx=>h x (by simp [hx])]
theorem size_b:∀ m,size (bare m)=size m:=by
 refine Nd.ind fun h a c ks ih=>?_
 rw [JG]
 simp only [size]
 rw [sizes_b ks ih]
theorem deps_b (h:Hd):∀ (l:List Nd) (i:Nat),(∀ k ∈ l,dep (bare k)=dep k)→deps h i (l.map bare)=deps h i l
 | [],i,_=>rfl
 | k :: l,i,hk=>by simp only [List.map_cons,deps]; rw [hk k (by simp),deps_b h l (i+1) fun x hx=>hk x (by simp [hx]),bare_h]
theorem dep_b:∀ m,dep (bare m)=dep m:=by
 refine Nd.ind fun h a c ks ih=>?_
 rw [JG]
 simp only [dep]
 rw [deps_b h ks 0 ih]
theorem tysR_b (L:yB→Option Int):∀ l:List Nd,(∀ k ∈ l,tyR L (bare k)=tyR L k)→tysR L (l.map bare)=tysR L l
 | [],_=>rfl
 | k :: l,h=>by simp only [List.map_cons,tysR]; rw [h k (by simp),tysR_b L l fun x hx=>h x (by simp [hx])]
theorem tyR_b (L:yB→Option Int):∀ m,tyR L (bare m)=tyR L m:=by
 refine Nd.ind fun h a c ks ih=>?_
 rw [JG]
 simp only [tyR,List.length_map]
 rw [tysR_b L ks ih]
theorem samesB_b:∀ (l js:List Nd),(∀ k ∈ l,∀ n,J7 (bare k) n=J7 k n)→Js (l.map bare) js=Js l js
 | [],_,_=>rfl
 | k :: l,[],_=>rfl
 | k :: l,j :: js,h=>by simp only [List.map_cons,Js]; rw [h k (by simp),samesB_b l js fun x hx=>h x (by simp [hx])]
theorem sameB_b:∀ m n,J7 (bare m) n=J7 m n:=by
 refine Nd.ind fun h a c ks ih n=>?_
 rw [JG]
 simp only [J7,List.length_map]
 rw [samesB_b ks _ ih]
theorem cE_b (m:Nd):cE (bare m)=cE m:=by unfold cE; rw [formB_b,dep_b]
theorem fE_b (m:Nd):fE (bare m)=fE m:=by unfold fE; rw [formB_b]
theorem kid0_b (m:Nd):(kid0 (bare m)).h=(kid0 m).h:=by
 unfold kid0
 rw [bare_ks]
 cases m.ks with
 | nil=>rfl
 | cons k l=>exact bare_h k
def bReg (r:RegM):RegM:=⟨r.x,r.t,bare r.m,r.p⟩
def bDo (d:DoM):DoM:=⟨d.k,d.o,d.x,bare d.sd,bare d.qt,bare d.pr,bare d.vl,d.p⟩
def JH (r:Qr):Qr:=⟨bare r.m,none,0,r.ds.map bDo,r.p⟩
def Q1 (x:Qj):Qj:=⟨x.x,none,0,x.rs.map JH,x.p⟩
def bStr (S:Qm):Qm:=⟨S.x,none,0,S.rs.map bReg,none,0,S.ss,none,0,S.ts.map Q1⟩
def rgOf (r:RegT):RegM:=⟨r.x,r.t,ndT r.m,r.p⟩
def slOf (r:SlotT):Qw:=⟨r.x,r.p⟩
def doOf (d:DoT):DoM:=⟨d.k,d.o,d.x,ndT d.sd,ndT d.qt,ndT d.pr,ndT d.vl,d.p⟩
def ruOf (r:RuleT):Qr:=⟨ndT r.m,none,0,r.ds.map doOf,r.p⟩
def stOfT (x:StateT):Qj:=⟨x.x,none,0,x.rs.map ruOf,x.p⟩
def sT (S:Ko):Qm:=⟨S.x,none,0,S.rs.map rgOf,none,0,S.ss.map slOf,none,0,S.ts.map stOfT⟩
theorem bStr_tr (S:Qm):bStr S=sT S.tr:=by
 unfold bStr sT Qm.tr
 simp only [List.map_map]
 congr 1
 ·exact (List.map_id _).symm
 ·refine List.map_congr_left fun x _=>?_
  show Q1 x=stOfT x.tr
  unfold Q1 stOfT Qj.tr
  simp only [List.map_map]
  congr 1
  refine List.map_congr_left fun r _=>?_
  show JH r=ruOf r.tr
  unfold JH ruOf Qr.tr
  simp only [List.map_map]
  rfl
theorem regL_b (l:List RegM):regL (l.map bReg)=regL l:=by
 funext x
 unfold regL
 induction l with
 | nil=>rfl
 | cons r l ih =>
  simp only [List.map_cons,List.find?_cons]
  show Option.map _ (match decide (r.x=x) with | true=>_ | false=>_)=_
  cases decide (r.x=x) with
  | true=>rfl
  | false=>exact ih
theorem regE_b (r:RegM):regE (bReg r)=regE r:=by
 unfold regE initE bReg
 simp only [fE_b,bare_h,kid0_b]
theorem doE_b (d:DoM):doE (bDo d)=doE d:=by
 unfold doE Ja
 simp only [bDo,ndO,ndN,ndS,ndQ,ndP,ndV,cE_b,sameB_b]
 rfl
theorem ruleE_b (r:Qr):Jz (JH r)=Jz r:=by
 unfold Jz JH
 simp only [cE_b,List.length_map,List.map_map]
 rw [show (doE ∘ bDo)=doE from funext doE_b]
theorem stateE_b (x:Qj):Jg (Q1 x)=Jg x:=by
 unfold Jg Q1
 simp only [List.length_map,List.map_map]
 rw [show (Jz ∘ JH)=Jz from funext ruleE_b]
theorem stratE_b (S:Qm):Jf (bStr S)=Jf S:=by
 unfold Jf bStr
 simp only [List.length_map,List.map_map]
 rw [show (regE ∘ bReg)=regE from funext regE_b,show (Jg ∘ Q1)=Jg from funext stateE_b]
theorem dRegs_b:∀ (rs l:List RegM),JT (l.map bReg) (rs.map bReg)=JT l rs
 | [],_=>rfl
 | r :: rs,l=>by
  simp only [List.map_cons,JT,regL_b]
  have h:=dRegs_b rs (l ++ [r])
  rw [List.map_append] at h
  simp only [bReg,tyR_b] at h ⊢
  rw [← h]
  rfl
theorem decE_b (S:Qm):decE (bStr S)=decE S:=by
 unfold decE
 have h:=dRegs_b S.rs []
 have e:(bStr S).ts.map stN=S.ts.map stN:=by
  unfold bStr
  simp only [List.map_map]
  rfl
 rw [e]
 show (match JT [] (S.rs.map bReg) with | some e=>some e | none=>match dNms [] (S.ss.map slN) with | some e=>some e | none=>dNms [] (S.ts.map stN))=_
 rw [show JT [] (S.rs.map bReg)=JT [] S.rs from h]
 rfl
theorem ptsL_b (L:yB→Option Int) (d:DoM):ptsL L (bDo d)=(ptsL L d).map fun q=>(bare q.1,q.2):=by
 unfold ptsL bDo
 repeat' split
 all_goals simp_all
theorem pcE_b (L:yB→Option Int) (q:Nd × Int):pcE L (bare q.1,q.2)=pcE L q:=by
 unfold pcE
 simp only [tyR_b,bare_h]
theorem psE_b (L:yB→Option Int):∀ l:List (Nd × Int),psE L (l.map fun q=>(bare q.1,q.2))=psE L l
 | []=>rfl
 | q :: l=>by simp only [List.map_cons,psE]; rw [pcE_b,psE_b L l]
theorem dosE_b (L:yB→Option Int) (S2 S3:List yB):∀ (l:List DoM) (en:Bool),dosE L S2 S3 en (l.map bDo)=dosE L S2 S3 en l
 | [],en=>by cases en <;> rfl
 | d :: l,en=>by
  simp only [List.map_cons,dosE]
  rw [ptsL_b,psE_b]
  show (if en then some (d.p,153) else if Q3 L S2 S3 d.k d.x then (match psE L (ptsL L d) with | some e=>some e | none=>dosE L S2 S3 (d.k == 5 || d.k == 6) (l.map bDo)) else some (d.p,151))=_
  rw [dosE_b L S2 S3 l]
  rfl
theorem ruE_b (L:yB→Option Int) (S2 S3:List yB) (r:Qr):ruE L S2 S3 (JH r)=ruE L S2 S3 r:=by
 unfold ruE
 rw [show pcE L ((JH r).m,5)=pcE L (r.m,5) from pcE_b L (r.m,5),show (JH r).ds=r.ds.map bDo from rfl,dosE_b]
theorem rusE_b (L:yB→Option Int) (S2 S3:List yB):∀ l:List Qr,rusE L S2 S3 (l.map JH)=rusE L S2 S3 l
 | []=>rfl
 | r :: l=>by simp only [List.map_cons,rusE]; rw [ruE_b,rusE_b L S2 S3 l]
theorem stsE_b (L:yB→Option Int) (S2 S3:List yB):∀ l:List Qj,stsE L S2 S3 (l.map Q1)=stsE L S2 S3 l
 | []=>rfl
 | x :: l=>by
  simp only [List.map_cons,stsE]
  rw [show (Q1 x).rs=x.rs.map JH from rfl,rusE_b,stsE_b L S2 S3 l]
theorem chkE_b (S:Qm):chkE (bStr S)=chkE S:=by
 unfold chkE
 rw [stratE_b,decE_b,show (bStr S).rs=S.rs.map bReg from rfl,regL_b,show (bStr S).ts=S.ts.map Q1 from rfl,stsE_b,List.map_map,show (Qj.x ∘ Q1)=Qj.x from rfl]
 rfl
def doZB (d:DoM):Bool:=[d.sd,d.qt,d.pr,d.vl].all fun m=>decide (size m≤1000000000000)
def stZB (x:Qj):Bool:=x.rs.all fun r=>decide (size r.m≤1000000000000) && r.ds.all doZB
theorem doZB_b (d:DoM):doZB (bDo d)=doZB d:=by simp only [doZB,bDo,List.all_cons,List.all_nil,size_b]
theorem stZB_b (x:Qj):stZB (Q1 x)=stZB x:=by
 unfold stZB Q1
 simp only [List.all_map]
 congr 1
 funext r
 show (decide (size (bare r.m)≤1000000000000) && (r.ds.map bDo).all doZB)=_
 rw [size_b,List.all_map,show (doZB ∘ bDo)=doZB from funext doZB_b]
def zB (S:Qm):Bool:=S.ts.all stZB
theorem zB_b (S:Qm):zB (bStr S)=zB S:=by
 unfold zB bStr
 simp only [List.all_map]
 rw [show (stZB ∘ Q1)=stZB from funext stZB_b]
theorem zB_z {S:Qm}(h:zB S=true):StratZ S:=by
 simp only [zB,List.all_eq_true] at h
 intro x hx r hr
 have h1:=h x hx
 simp only [stZB,Bool.and_eq_true,List.all_eq_true,decide_eq_true_eq] at h1
 refine⟨(h1 r hr).1,fun d hd=>?_⟩
 have h2:=(h1 r hr).2 d hd
 simp only [doZB,List.all_cons,List.all_nil,Bool.and_true,Bool.and_eq_true,decide_eq_true_eq] at h2
 exact h2
theorem ofE_b (S:Qm) (m:Nd):ofE (bStr S) (bare m)=ofE S m:=by
 unfold ofE
 rw [cE_b,tyR_b,show (bStr S).rs=S.rs.map bReg from rfl,regL_b]
end Go.Proofs.YtoogodlnnijikaaGreatDoor
