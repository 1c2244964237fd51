import Derived.Test.YtfbjofnaghjmeaaGreatDoorA25
import Derived.Test.YtfbjofnaghjmeaaGreatDoorA27
namespace Go.Proofs.YtfbjofnaghjmeaaGreatDoor
open Go.Proofs.Tryz
set_option maxRecDepth 100000
set_option maxHeartbeats 4000000
open Go.RowKit Go.Maps
set_option linter.unusedVariables false
set_option linter.unusedSimpArgs false
def pcE (L:yB→Option Int) (q:Nd × Int):Option (Int × Int):=match tyR L q.1 with
 | .error e=>some e
 | .ok t=>if t=q.2 then none else some (q.1.h.p,152)
def OutC (w:yW) (r:Option (Int × Int)) (e:Ending) (w':yW):Prop :=
 (r=none∧e=.returned .nilIface∧yD w w')∨(∃ p no T v,r=some (p,no)∧e=.returned (.iface T v)∧Er w' (.iface T v) no p∧yD w w')
theorem XO (b b2 b3:Nat) (L:yB→Option Int) (q:Nd × Int) (w:yW) (hk:RgM w b L) (hf:FTab w) (hl:Lies w q.1) (ho:OkT q.1) (hg:Ety w) :
  Calls zG 148 #[.agg #[.map (some b),.map (some b2),.map (some b3)],.agg (ptV q)] w (OutC w (pcE L q)):=by
 have hb1:=Qb w (.cells #[.map (some b),.map (some b2),.map (some b3)] 172)
 have hn1:=Qc w (.cells #[.map (some b),.map (some b2),.map (some b3)] 172)
 have hs1:=Qe w (.cells #[.map (some b),.map (some b2),.map (some b3)] 172)
 obtain⟨W1,e1⟩:∃ W,w.alloc (.cells #[.map (some b),.map (some b2),.map (some b3)] 172)=W:=jV
 have E1:=zH e1
 rw [e1] at hb1 hn1 hs1
 have hb2:=Qb W1 (.cells #[zU q.1.h.k,zU q.1.h.o,zU q.1.h.t,zI q.1.h.n,zU q.1.h.f,.string q.1.h.x,.slice q.1.a q.1.ks.length q.1.c,zI q.1.h.p,zU q.2] 213)
 have hn2:=Qc W1 (.cells #[zU q.1.h.k,zU q.1.h.o,zU q.1.h.t,zI q.1.h.n,zU q.1.h.f,.string q.1.h.x,.slice q.1.a q.1.ks.length q.1.c,zI q.1.h.p,zU q.2] 213)
 have hk2:=(hb2.block _ (zJ hn1).1).trans hn1
 have hbw:=Qd hb1 hb2
 rw [hs1] at hn2
 have HS1:=zH hs1
 obtain⟨W2,e2⟩:∃ W,W1.alloc (.cells #[zU q.1.h.k,zU q.1.h.o,zU q.1.h.t,zI q.1.h.n,zU q.1.h.f,.string q.1.h.x,.slice q.1.a q.1.ks.length q.1.c,zI q.1.h.p,zU q.2] 213)=W:=jV
 have E2:=zH e2
 rw [e2] at hn2 hk2 hbw
 have HB:=zH hbw
 have HN:Hid (W2.heap[w§+1]? = (zC #[zU q.1.h.k,zU q.1.h.o,zU q.1.h.t,zI q.1.h.n,zU q.1.h.f,.string q.1.h.x,.slice q.1.a q.1.ks.length q.1.c,zI q.1.h.p,zU q.2] 213)∧Ety W2):=⟨hn2,hg.on hbw⟩
 have k0:zQ W2 w§¢0 (.map (some b)):=Qa hk2 0
 obtain⟨c0,c1,c2,c3,c4,c5,c6,c7,c8⟩:=cl9 hn2
 have cT:Calls zG 63 #[.map (some b),.agg #[zU q.1.h.k,zU q.1.h.o,zU q.1.h.t,zI q.1.h.n,zU q.1.h.f,.string q.1.h.x,.slice q.1.a q.1.ks.length q.1.c,zI q.1.h.p]] W2 (OutT W2 (tyR L q.1)):=Hg b L q.1 W2 (hk.on hbw) (hf.on hbw) (hl.on hbw) ho
 clear hb1 hn1 hs1 hb2 hk2 hn2 hbw hk e1 e2 hf hl ho hg
 show Calls zG 148 #[.agg #[.map (some b),.map (some b2),.map (some b3)],.agg #[zU q.1.h.k,zU q.1.h.o,zU q.1.h.t,zI q.1.h.n,zU q.1.h.f,.string q.1.h.x,.slice q.1.a q.1.ks.length q.1.c,zI q.1.h.p,zU q.2]] w _
 go_enter func148,ntmps148
 go_upto_region 1 with fail
 rw [E1.out,E2.out]
 try rw [HS1.out]
 clear E1 E2 HS1
 go_wp2_with fail
 refine cT.mono ?_
 rintro e w3 (⟨t,h1,rfl,hb3⟩ | ⟨p,no,b5,h1,rfl,h3,h4,hb3⟩)
 ·have HB3:Hid (yD w w3):=Qd HB.out hb3
  have g:=(hb3.block _ (zJ HN.out.1).1).trans HN.out.1
  have a7:zQ w3 ⟨w§+1,7,none⟩ (zI q.1.h.p):=Qa g 7
  have a8:zQ w3 ⟨w§+1,8,none⟩ (zU q.2):=Qa g 8
  clear g cT hb3 k0 c0 c1 c2 c3 c4 c5 c6 c7 c8
  cases ht:(t == q.2) with
  | true =>
   have HR:Hid (pcE L q=none):=by show _=_;unfold pcE;rw [h1];exact if_pos (by simpa using ht)
   clear h1
   go_wp2
   go_ret
   exact .inl ⟨HR.out,rfl,HB3.out⟩
  | false =>
   have HR:Hid (pcE L q=some (q.1.h.p,152)):=by show _=_;unfold pcE;rw [h1];exact if_neg (by simpa using ht)
   clear h1
   go_wp2_with fail
   refine (JN _ _ _).mono ?_
   rintro e w4 ⟨rfl,hf4,hb4⟩
   have HB4:Hid (yD w w4∧Er w4 (.iface 184 (zP w3§)) 152 q.1.h.p):=⟨Qd HB3.out hb4,hf4.er⟩
   clear hf4 hb4
   go_wp2
   go_ret
   exact .inr ⟨_,_,_,_,HR.out,rfl,HB4.out.2,HB4.out.1⟩
 ·have HB3:Hid (yD w w3):=Qd HB.out hb3
  have HR:Hid (pcE L q=some (p,no)):=by show _=_;unfold pcE;rw [h1]
  have cA:=QaW b5 Zf p no w3 h4 (HN.out.2.on hb3)
  clear h1 h3 h4 hb3 cT k0 c0 c1 c2 c3 c4 c5 c6 c7 c8
  go_wp2_with fail
  refine cA.mono ?_
  rintro e w4 ⟨v,rfl,her,hb4⟩
  obtain⟨T,x,rfl⟩:=her.face
  have HB4:Hid (yD w w4∧Er w4 (.iface T x) no p):=⟨Qd HB3.out hb4,her⟩
  clear her hb4 cA
  go_wp2
  go_ret
  exact .inr ⟨_,_,_,_,HR.out,rfl,HB4.out.2,HB4.out.1⟩
set_option maxHeartbeats 16000000
def psE (L:yB→Option Int):List (Nd × Int)→Option (Int × Int)
 | []=>none
 | q :: qs=>match pcE L q with
  | some e=>some e
  | none=>psE L qs
def dosE (L:yB→Option Int) (S2 S3:List yB):Bool→List DoM→Option (Int × Int)
 | _,[]=>none
 | en,d :: ds=>if en then some (d.p,153) else if QT L S2 S3 d.k d.x then (match psE L (ptsL L d) with
  | some e=>some e
  | none=>dosE L S2 S3 (d.k == 5 || d.k == 6) ds) else some (d.p,151)
theorem QdO {L:yB→Option Int}{q:Nd × Int}{qs:List (Nd × Int)}(h:pcE L q=none):psE L (q :: qs)=psE L qs:=by simp only [psE,h]
theorem QdN {L:yB→Option Int}{q:Nd × Int}{qs:List (Nd × Int)}{e:Int × Int}(h:pcE L q=some e):psE L (q :: qs)=some e:=by simp only [psE,h]
theorem Qe4 (L:yB→Option Int) (S2 S3:List yB) (d:DoM) (ds:List DoM):dosE L S2 S3 true (d :: ds)=some (d.p,153):=by simp [dosE]
theorem Qe3 {L:yB→Option Int}{S2 S3:List yB}{d:DoM}(h:QT L S2 S3 d.k d.x=false) (ds:List DoM):dosE L S2 S3 false (d :: ds)=some (d.p,151):=by simp [dosE,h]
theorem QcB {L:yB→Option Int}{S2 S3:List yB}{d:DoM}{e:Int × Int}(h:QT L S2 S3 d.k d.x=true) (hp:psE L (ptsL L d)=some e) (ds:List DoM):dosE L S2 S3 false (d :: ds)=some e:=by simp [dosE,h,hp]
theorem QcC {L:yB→Option Int}{S2 S3:List yB}{d:DoM}(h:QT L S2 S3 d.k d.x=true) (hp:psE L (ptsL L d)=none) (ds:List DoM):dosE L S2 S3 false (d :: ds)=dosE L S2 S3 (d.k == 5 || d.k == 6) ds:=by simp [dosE,h,hp]
theorem QhT {w:yW}{b o:Nat}{q:Nd × Int}(h:∀ j,j < 9→w.cell? ⟨b,o+j,none⟩=(ptV q)[j]?):w.rangeAt b o (ptV q).toList:=fun j v hv=>by
 have hj:j < 9:=(List.getElem?_eq_some_iff.1 hv).1
 rw [h j hj,← hv];simp
theorem Pq (b b2 b3:Nat) (L:yB→Option Int) (S2 S3:List yB) (a:Option Addr) (c:Nat) (ds:List DoM) (w:yW) (hk:Kn w b b2 b3 L S2 S3) (hf:FTab w) (hg:Ety w) (hs:SlAt w 36 a c (ds.map DoM.vals)) (hd:∀ d ∈ ds,DoL w d∧∀ q ∈ ptsL L d,Lies w q.1∧OkT q.1) :
  Calls zG 149 #[.agg #[.map (some b),.map (some b2),.map (some b3)],.slice a ds.length c] w (OutC w (dosE L S2 S3 false ds)):=by
 have hb1:=Qb w (.cells #[.map (some b),.map (some b2),.map (some b3)] 172)
 have hn1:=Qc w (.cells #[.map (some b),.map (some b2),.map (some b3)] 172)
 obtain⟨W1,e1⟩:∃ W,w.alloc (.cells #[.map (some b),.map (some b2),.map (some b3)] 172)=W:=jV
 have E1:=zH e1
 rw [e1] at hb1 hn1
 have HB1:=zH hb1
 have HK1:=zH hn1
 have HH:Hid (Kn w b b2 b3 L S2 S3∧FTab w∧Ety w):=⟨hk,hf,hg⟩
 have HSL:=zH hs
 have HDS:=zH hd
 obtain⟨R,eR⟩:∃ R,dosE L S2 S3 false ds=R:=jV
 have HR0:=zH eR
 rw [eR]
 clear hb1 hn1 hk hf hg hs hd e1 eR
 go_enter func149,ntmps149
 go_upto_region 1 with fail
 rw [E1.out]
 clear E1
 go_step3
 go_wp2_with fail
 go_step3
 go_wp2_with fail
 go_loopw [5,6,13] (fun f en t wr=>∃ (i:Nat) (E:Bool),i≤ds.length∧t=zI i∧en=.bool E∧f=.nilIface∧Hid (yD w wr)∧Hid (wr.heap[w§]? = (zC #[.map (some b),.map (some b2),.map (some b3)] 172))∧Hid (R=dosE L S2 S3 E (ds.drop i))) (fun _ _ t _=>ds.length - (intOf t).toNat)
 case atStart=>exact⟨0,false,by omega,rfl,rfl,rfl,HB1,HK1,HR0.out.symm⟩
 case round =>
  obtain⟨i,E,hi,rfl,rfl,rfl,HBR,HBO,HR⟩:=hrel
  by_cases hlt:i < ds.length
  ·have hlt':(i:Int) < (ds.length:Int):=by omega
   have hmx:(i:Int)+1≤jX:=by have h1:=HSL.out.1;have h2:=HSL.out.2.1;rw [List.length_map] at h1;omega
   obtain⟨bb,o,ea,hat⟩:=(HSL.out.on (mapz DoM.sz _) HBR.out).2.2 i (by rw [List.length_map];exact hlt)
   simp only [List.getElem_map] at hat
   have HMEM:Hid (ds[i] ∈ ds):=List.getElem_mem hlt
   have HC:Hid (R=dosE L S2 S3 E (ds[i] :: ds.drop (i+1))):=by show _=_;rw [HR.out,List.drop_eq_getElem_cons hlt]
   obtain⟨d,ed⟩:∃ d,ds[i]=d:=jV
   rw [ed] at hat HC HMEM
   have HRG:Hid (wr.rangeAt bb (o+i * 36) d.vals.toList):=fun j v hv=>by
    have hj:j < 36:=(List.getElem?_eq_some_iff.1 hv).1
    rw [hat j hj,← hv];simp
   have HZ:Hid ((zA wr (zE 0) 121).heap[wr§]? = (zC (zE 0) 121)):=Qc _ _
   have hbx:yD wr ((zA wr (zE 0) 121).setRow wr§ d.vals):=Qn (Qb _ _) (Nat.le_refl _) _
   have HBX:=zH (Qd HBR.out hbx)
   have HBK:Hid (((zA wr (zE 0) 121).setRow wr§ d.vals).heap[w§]? = (zC #[.map (some b),.map (some b2),.map (some b3)] 172)):=(hbx.block _ (zJ HBO.out).1).trans HBO.out
   have HNX:Hid (((zA wr (zE 0) 121).setRow wr§ d.vals).heap[wr§]? = (zC d.vals 121)):=setRow_heap _ _ _ _ _ _ HZ.out
   subst ea
   clear hat ed hbx HR HBR HBO
   go_upto_region 6 with (first | (refine wpList_load_mid rfl 121 (.tmp 15) rfl bb (o+i * 36) rfl d.vals.toList _ HRG.out underlying121 rfl (by show _=some 36;exact Qt) ?_;rw [Array.toArray_toList]) | (refine wpList_store_row rfl 121 (.tmp 8) (.tmp 16) rfl wr§ d.vals rfl rfl 121 (zE 0) HZ.out Qt rfl (Xr ..) ?_))
   generalize hWX:World.setRow _ _ _=WX
   rw [hWX] at HBX HNX HBK
   clear hWX HZ HRG
   have HX:Hid (d.x.size≤maxLen):=by have h1:=(HDS.out d HMEM.out).1.2.2.2.2.2.2.2;unfold SzX at h1;show _≤_;unfold maxLen;omega
   cases E with
   | true =>
    have HD:Hid (R=some (d.p,153)):=HC.out.trans (Qe4 ..)
    have c35:zQ WX wr§¢35 (zI d.p):=Qa HNX.out 35
    go_wp2_with fail
    refine (JN _ _ _).mono ?_
    rintro e w9 ⟨rfl,hf9,hb9⟩
    have HB9:Hid (yD w w9∧Er w9 (.iface 184 (zP WX§)) 153 d.p):=⟨Qd HBX.out hb9,hf9.er⟩
    clear hf9 hb9
    go_wp2
    go_ret
    exact .inr ⟨_,_,_,_,HD.out,rfl,HB9.out.2,HB9.out.1⟩
   | false =>
    obtain⟨k0,k1,k2⟩:=cl3 HBK.out
    have cS:Calls zG 183 #[.agg #[.map (some b),.map (some b2),.map (some b3)],.agg d.vals] WX fun e w'=>e=.returned (.bool (QT L S2 S3 d.k d.x))∧yD WX w':=FP b b2 b3 L S2 S3 d WX (HH.out.1.on HBX.out) HX.out
    go_wp2_with (refine wpList_load_row rfl 121 (.tmp 8) rfl wr§ rfl 121 d.vals (0,0) _ HNX.out underlying121 rfl Qt ?_)
    refine cS.mono ?_
    rintro e w5 ⟨rfl,hb5⟩
    have HB5:=zH (Qd HBX.out hb5)
    have HK5:Hid (w5.heap[w§]? = (zC #[.map (some b),.map (some b2),.map (some b3)] 172)):=(hb5.block _ (zJ HBK.out).1).trans HBK.out
    have HN5:Hid (w5.heap[wr§]? = (zC d.vals 121)):=(hb5.block _ (zJ HNX.out).1).trans HNX.out
    clear cS hb5 k0 k1 k2 HBX HBK HNX
    cases hst:QT L S2 S3 d.k d.x with
    | false =>
     have HD:Hid (R=some (d.p,151)):=HC.out.trans (Qe3 hst _)
     have c35:zQ w5 wr§¢35 (zI d.p):=Qa HN5.out 35
     clear hst
     go_wp2_with fail
     refine (JN _ _ _).mono ?_
     rintro e w9 ⟨rfl,hf9,hb9⟩
     have HB9:Hid (yD w w9∧Er w9 (.iface 184 (zP w5§)) 151 d.p):=⟨Qd HB5.out hb9,hf9.er⟩
     clear hf9 hb9
     go_wp2
     go_ret
     exact .inr ⟨_,_,_,_,HD.out,rfl,HB9.out.2,HB9.out.1⟩
    | true =>
     obtain⟨k0,k1,k2⟩:=cl3 HK5.out
     have cP:Calls zG 184 #[.agg #[.map (some b),.map (some b2),.map (some b3)],.agg d.vals] w5 fun e w'=>∃ a c,e=.returned (.slice a (ptsL L d).length c)∧SlAt w' 9 a c ((ptsL L d).map ptV)∧yD w5 w':=Qcb b b2 b3 L d w5 (HH.out.1.on HB5.out).r HX.out
     have HST:=zH hst
     clear hst
     go_wp2_with (refine wpList_load_row rfl 121 (.tmp 8) rfl wr§ rfl 121 d.vals (0,0) _ HN5.out underlying121 rfl Qt ?_)
     refine cP.mono ?_
     rintro e w6 ⟨pa,pc,rfl,hsl,hb6⟩
     obtain⟨ps,eps⟩:∃ ps,ptsL L d=ps:=jV
     have HPS:Hid (ptsL L d=ps):=eps
     have HQ:Hid (∀ q ∈ ps,Lies w q.1∧OkT q.1):=by show ∀ q ∈ ps,_;rw [← eps];exact (HDS.out d HMEM.out).2
     rw [eps] at hsl ⊢
     have HSP:=zH hsl
     have HB6:=zH (Qd HB5.out hb6)
     have HK6:Hid (w6.heap[w§]? = (zC #[.map (some b),.map (some b2),.map (some b3)] 172)):=(hb6.block _ (zJ HK5.out).1).trans HK5.out
     have HN6:Hid (w6.heap[wr§]? = (zC d.vals 121)):=(hb6.block _ (zJ HN5.out).1).trans HN5.out
     clear cP hb6 hsl k0 k1 k2 HB5 HK5 HN5 eps
     generalize wr§=M1 at HN6 ⊢
     go_wp2_with fail
     go_loopw [5,34] (fun f t wr=>∃ j:Nat,j≤ps.length∧t=zI j∧f=.nilIface∧Hid (yD w6 wr)∧Hid (psE L ps=psE L (ps.drop j))) (fun _ t _=>ps.length - (intOf t).toNat)
     case atStart=>exact⟨0,by omega,rfl,rfl,Below.refl _ _,rfl⟩
     case round =>
      obtain⟨j,hj,rfl,rfl,HBQ,HRQ⟩:=hrel
      by_cases hjl:j < ps.length
      ·have hjl':(j:Int) < (ps.length:Int):=by omega
       have hjx:(j:Int)+1≤jX:=by have h1:=HSP.out.1;have h2:=HSP.out.2.1;rw [List.length_map] at h1;omega
       obtain⟨b7,o7,ea7,hat7⟩:=(HSP.out.on (mapz KS _) HBQ.out).2.2 j (by rw [List.length_map];exact hjl)
       simp only [List.getElem_map] at hat7
       have HMQ:Hid (ps[j] ∈ ps):=List.getElem_mem hjl
       have HCQ:Hid (psE L ps=psE L (ps[j] :: ps.drop (j+1))):=by show _=_;rw [HRQ.out,List.drop_eq_getElem_cons hjl]
       obtain⟨q,eq⟩:∃ q,ps[j]=q:=jV
       rw [eq] at hat7 HCQ HMQ
       have HRG7:=zH (QhT hat7)
       have HZ7:Hid ((zA wr zr 213).heap[wr§]? = (zC zr 213)):=Qc _ _
       have hbx7:yD wr ((zA wr zr 213).setRow wr§ (ptV q)):=Qn (Qb _ _) (Nat.le_refl _) _
       have HBX7:=zH (Qd HBQ.out hbx7)
       have HNX7:Hid (((zA wr zr 213).setRow wr§ (ptV q)).heap[wr§]? = (zC (ptV q) 213)):=setRow_heap _ _ _ _ _ _ HZ7.out
       subst ea7
       clear hat7 eq hbx7 HRQ HBQ
       go_upto_region 13 with (first | (refine wpList_load_mid rfl 213 (.tmp 36) rfl b7 (o7+j * 9) rfl (ptV q).toList _ HRG7.out underlying213 rfl (by show _=some 9;exact JL) ?_;rw [Array.toArray_toList]) | (refine wpList_store_row rfl 213 (.tmp 10) (.tmp 37) rfl wr§ (ptV q) rfl rfl 213 zr HZ7.out JL rfl (all9 _) ?_))
       generalize hWQ:World.setRow _ _ _=WQ
       rw [hWQ] at HBX7 HNX7
       clear hWQ HZ7 HRG7
       have hwr:=Qd HB6.out HBX7.out
       have hkq:=(HBX7.out.block _ (zJ HK6.out).1).trans HK6.out
       obtain⟨k0,k1,k2⟩:=cl3 hkq
       have cC:Calls zG 148 #[.agg #[.map (some b),.map (some b2),.map (some b3)],.agg (ptV q)] WQ (OutC WQ (pcE L q)):=XO b b2 b3 L q WQ (HH.out.1.on hwr).r (HH.out.2.1.on hwr) ((HQ.out q HMQ.out).1.on hwr) (HQ.out q HMQ.out).2 (HH.out.2.2.on hwr)
       clear hwr hkq
       go_wp2_with (refine wpList_load_row rfl 213 (.tmp 10) rfl wr§ rfl 213 (ptV q) (0,0) _ HNX7.out underlying213 rfl JL ?_)
       refine cC.mono ?_
       rintro e w8 (⟨hn,rfl,hb8⟩ | ⟨p,no,T,v,hn,rfl,her,hb8⟩)
       ·have HB8:Hid (yD w6 w8):=Qd HBX7.out hb8
        have HN8:=zH (HCQ.out.trans (QdO hn))
        clear cC hb8 hn k0 k1 k2
        go_wp2_with fail
        exact⟨⟨j+1,hjl,rfl,rfl,HB8,HN8⟩,by simp only [intOf];omega⟩
       ·have HB8:Hid (yD w w8∧Er w8 (.iface T v) no p):=⟨Qd HB6.out (Qd HBX7.out hb8),her⟩
        have HD:Hid (R=some (p,no)):=HC.out.trans (QcB HST.out (by rw [HPS.out];exact HCQ.out.trans (QdN hn)) _)
        clear cC hb8 hn her k0 k1 k2
        go_wp2
        go_ret
        exact .inr ⟨p,no,T,v,HD.out,rfl,HB8.out.2,HB8.out.1⟩
      ·obtain rfl:j=ps.length:=by omega
       have hnot:¬ (ps.length:Int) < (ps.length:Int):=by omega
       have HN0:Hid (R=dosE L S2 S3 (d.k == 5 || d.k == 6) (ds.drop (i+1))):=HC.out.trans (QcC HST.out (by rw [HPS.out,HRQ.out,List.drop_length];rfl) _)
       have HBW:=zH (Qd HB6.out HBQ.out)
       have HKW:Hid (wr.heap[w§]? = (zC #[.map (some b),.map (some b2),.map (some b3)] 172)):=(HBQ.out.block _ (zJ HK6.out).1).trans HK6.out
       have c0:zQ wr M1¢0 (zU d.k):=Qa ((HBQ.out.block _ (zJ HN6.out).1).trans HN6.out) 0
       clear HRQ HBQ
       cases h5:(d.k == 5) with
       | true =>
        rw [h5] at HN0
        go_wp2_with fail
        exact⟨⟨i+1,true,hlt,rfl,rfl,rfl,HBW,HKW,HN0⟩,by simp only [intOf];omega⟩
       | false =>
        cases h6:(d.k == 6) with
        | true =>
         rw [h5,h6] at HN0
         go_wp2_with fail
         exact⟨⟨i+1,true,hlt,rfl,rfl,rfl,HBW,HKW,HN0⟩,by simp only [intOf];omega⟩
        | false =>
         rw [h5,h6] at HN0
         go_wp2_with fail
         exact⟨⟨i+1,false,hlt,rfl,rfl,rfl,HBW,HKW,HN0⟩,by simp only [intOf];omega⟩
  ·obtain rfl:i=ds.length:=by omega
   have hnot:¬ (ds.length:Int) < (ds.length:Int):=by omega
   have HD:Hid (R=none):=by show _=_;rw [HR.out,List.drop_length];cases E <;> rfl
   clear HR
   go_wp2
   go_ret
   exact .inl ⟨HD.out,rfl,HBR.out⟩
def ruE (L:yB→Option Int) (S2 S3:List yB) (r:Qy):Option (Int × Int):=match pcE L (r.m,5) with
 | some e=>some e
 | none=>dosE L S2 S3 false r.ds
theorem Hq {L:yB→Option Int}{d:DoM}{q:Nd × Int}(h:q ∈ ptsL L d):(q.1=d.sd∧ndS d=true)∨(q.1=d.qt∧ndQ d=true)∨(q.1=d.pr∧ndP d=true)∨(q.1=d.vl∧ndV d=true):=by
 unfold ptsL at h
 by_cases h1:d.k=1
 ·have e1:(d.k == 1)=true:=by simpa using h1
  rw [e1,if_pos rfl] at h
  by_cases h2:d.o=2
  ·have e2:(d.o == 2)=true:=by simpa using h2
   rw [e2,if_pos rfl] at h
   simp only [List.mem_cons,List.not_mem_nil,or_false] at h
   rcases h with rfl | rfl
   ·exact .inl ⟨rfl,by simp [ndS,h1]⟩
   ·exact .inr (.inl ⟨rfl,by simp [ndQ,h1]⟩)
  ·have e2:(d.o == 2)=false:=by simpa using h2
   rw [e2,if_neg (by decide)] at h
   simp only [List.mem_cons,List.not_mem_nil,or_false] at h
   rcases h with rfl | rfl | rfl
   ·exact .inl ⟨rfl,by simp [ndS,h1]⟩
   ·exact .inr (.inl ⟨rfl,by simp [ndQ,h1]⟩)
   ·exact .inr (.inr (.inl ⟨rfl,by simp [ndP,h1,h2]⟩))
 ·have e1:(d.k == 1)=false:=by simpa using h1
  rw [e1,if_neg (by decide)] at h
  by_cases h2:d.k=2
  ·have e2:(d.k == 2)=true:=by simpa using h2
   rw [e2,if_pos rfl] at h
   simp only [List.mem_cons,List.not_mem_nil,or_false] at h
   rcases h with rfl | rfl
   ·exact .inr (.inl ⟨rfl,by simp [ndQ,h2]⟩)
   ·exact .inr (.inr (.inl ⟨rfl,by simp [ndP,h2]⟩))
  ·have e2:(d.k == 2)=false:=by simpa using h2
   rw [e2,if_neg (by decide)] at h
   by_cases h4:d.k=4
   ·have e4:(d.k == 4)=true:=by simpa using h4
    rw [e4,if_pos rfl] at h
    simp only [List.mem_cons,List.not_mem_nil,or_false] at h
    subst h
    exact .inr (.inr (.inr ⟨rfl,by simp [ndV,h4]⟩))
   ·have e4:(d.k == 4)=false:=by simpa using h4
    rw [e4,if_neg (by decide)] at h
    cases h
theorem QdL {L:yB→Option Int}{d:DoM}{w:yW}(h:DoL w d):∀ q ∈ ptsL L d,Lies w q.1:=fun q hq=>by
 rcases Hq hq with ⟨e,_⟩ | ⟨e,_⟩ | ⟨e,_⟩ | ⟨e,_⟩ <;> rw [e]
 ·exact h.1
 ·exact h.2.1
 ·exact h.2.2.1
 ·exact h.2.2.2.1
theorem fs_0 {a b:Int}(h:fs a b=0):a=0∧b=0:=by
 unfold fs at h
 split at h
 ·exact⟨by assumption,h⟩
 ·exact absurd h (by assumption)
theorem XN:∀ (l:List Int),fsL l=0→∀ x ∈ l,x=0
 | [],_=>fun x hx=>by cases hx
 | y :: l,h=>fun x hx=>by
  have h':fs y (fsL l)=0:=h
  rcases List.mem_cons.1 hx with e | e
  ·rw [e];exact (fs_0 h').1
  ·exact XN l (fs_0 h').2 x e
theorem UT {m:Nd}{is:Bool}(h:Q8 m is=0) (hi:is=true):OkT m:=by
 unfold Q8 at h
 rw [if_pos hi] at h
 exact Qar h
theorem do_ok {L:yB→Option Int}{d:DoM}(h:doE d=0):∀ q ∈ ptsL L d,OkT q.1:=fun q hq=>by
 unfold doE at h
 have h3:=(fs_0 (fs_0 (fs_0 h).2).2).2
 have a1:=fs_0 h3
 have a2:=fs_0 a1.2
 have a3:=fs_0 a2.2
 rcases Hq hq with ⟨e,i⟩ | ⟨e,i⟩ | ⟨e,i⟩ | ⟨e,i⟩ <;> rw [e]
 ·exact UT a1.1 i
 ·exact UT a2.1 i
 ·exact UT a3.1 i
 ·exact UT a3.2 i
def RuOk (L:yB→Option Int) (r:Qy):Prop:=OkT r.m∧∀ d ∈ r.ds,∀ q ∈ ptsL L d,OkT q.1
theorem QfO {r:Qy}(h:JH r=0) (L:yB→Option Int):RuOk L r:=by
 unfold JH at h
 have h1:=fs_0 h
 have h2:=fs_0 h1.2
 exact⟨Qar h1.1,fun d hd=>do_ok (XN _ h2.2 _ (List.mem_map.2 ⟨d,hd,rfl⟩))⟩
theorem Qdf {x:Qq}(h:Jg x=0) (L:yB→Option Int):∀ r ∈ x.rs,RuOk L r:=fun r hr=>by
 unfold Jg at h
 exact QfO (XN _ (fs_0 (fs_0 h).2).2 _ (List.mem_map.2 ⟨r,hr,rfl⟩)) L
theorem fE_ok {m:Nd}(h:fE m=0):OkT m:=by
 apply P7
 unfold fE at h
 cases e:Qw m with
 | true=>rfl
 | false=>rw [e] at h;simp at h
theorem QhO {r:RegM}(h:regE r=0):OkT r.m:=by
 unfold regE K7 at h
 exact fE_ok (fs_0 (fs_0 (fs_0 h).2).2).1
theorem PH {S:Qg}(h:QR S=0) (L:yB→Option Int):(∀ d ∈ S.rs,OkT d.m)∧∀ x ∈ S.ts,∀ r ∈ x.rs,RuOk L r:=by
 unfold QR at h
 have h1:=fs_0 (fs_0 (fs_0 h).2).2
 have h2:=(fs_0 (fs_0 (fs_0 h1.2).2).2).2
 exact⟨fun d hd=>QhO (XN _ h1.1 _ (List.mem_map.2 ⟨d,hd,rfl⟩)),fun x hx=>Qdf (XN _ h2 _ (List.mem_map.2 ⟨x,hx,rfl⟩)) L⟩
theorem VG (b b2 b3:Nat) (L:yB→Option Int) (S2 S3:List yB) (r:Qy) (w:yW) (hk:Kn w b b2 b3 L S2 S3) (hf:FTab w) (hg:Ety w) (hl:J5 w r) (ho:RuOk L r) :
  Calls zG 91 #[.agg #[.map (some b),.map (some b2),.map (some b3)],.agg r.vals] w (OutC w (ruE L S2 S3 r)):=by
 have hb1:=Qb w (.cells #[.map (some b),.map (some b2),.map (some b3)] 172)
 have hn1:=Qc w (.cells #[.map (some b),.map (some b2),.map (some b3)] 172)
 have hs1:=Qe w (.cells #[.map (some b),.map (some b2),.map (some b3)] 172)
 obtain⟨W1,e1⟩:∃ W,w.alloc (.cells #[.map (some b),.map (some b2),.map (some b3)] 172)=W:=jV
 have E1:=zH e1
 rw [e1] at hb1 hn1 hs1
 have hb2:=Qb W1 (.cells r.vals 100)
 have hn2:=Qc W1 (.cells r.vals 100)
 have hk2:=(hb2.block _ (zJ hn1).1).trans hn1
 have hbw:=Qd hb1 hb2
 rw [hs1] at hn2
 have HS1:=zH hs1
 obtain⟨W2,e2⟩:∃ W,W1.alloc (.cells r.vals 100)=W:=jV
 have E2:=zH e2
 rw [e2] at hn2 hk2 hbw
 have HB:=zH hbw
 have HN:Hid (W2.heap[w§+1]? = (zC r.vals 100)∧W2.heap[w§]? = (zC #[.map (some b),.map (some b2),.map (some b3)] 172)):=⟨hn2,hk2⟩
 obtain⟨k0,k1,k2⟩:=cl3 hk2
 have c0:zQ W2 ⟨w§+1,0,none⟩ (zU r.m.h.k):=Qa hn2 0
 have c1:zQ W2 ⟨w§+1,1,none⟩ (zU r.m.h.o):=Qa hn2 1
 have c2:zQ W2 ⟨w§+1,2,none⟩ (zU r.m.h.t):=Qa hn2 2
 have c3:zQ W2 ⟨w§+1,3,none⟩ (zI r.m.h.n):=Qa hn2 3
 have c4:zQ W2 ⟨w§+1,4,none⟩ (zU r.m.h.f):=Qa hn2 4
 have c5:zQ W2 ⟨w§+1,5,none⟩ (.string r.m.h.x):=Qa hn2 5
 have c6:zQ W2 ⟨w§+1,6,none⟩ (.slice r.m.a r.m.ks.length r.m.c):=Qa hn2 6
 have c7:zQ W2 ⟨w§+1,7,none⟩ (zI r.m.h.p):=Qa hn2 7
 have cP:Calls zG 148 #[.agg #[.map (some b),.map (some b2),.map (some b3)],.agg #[zU r.m.h.k,zU r.m.h.o,zU r.m.h.t,zI r.m.h.n,zU r.m.h.f,.string r.m.h.x,.slice r.m.a r.m.ks.length r.m.c,zI r.m.h.p,zU 5]] W2 (OutC W2 (pcE L (r.m,5))):=XO b b2 b3 L (r.m,5) W2 (hk.on hbw).r (hf.on hbw) (hl.1.on hbw) ho.1 (hg.on hbw)
 have HH:Hid (Kn w b b2 b3 L S2 S3∧FTab w∧Ety w∧J5 w r∧RuOk L r):=⟨hk,hf,hg,hl,ho⟩
 clear hb1 hn1 hs1 hb2 hk2 hn2 hbw hk e1 e2 hf hl ho hg
 go_enter func91,ntmps91
 go_upto_region 1 with fail
 rw [E1.out,E2.out]
 try rw [HS1.out]
 clear E1 E2 HS1
 go_wp2_with fail
 refine cP.mono ?_
 rintro e w3 (⟨h1,rfl,hb3⟩ | ⟨p,no,T,v,h1,rfl,her,hb3⟩)
 ·have HB3:Hid (yD w w3):=Qd HB.out hb3
  have g1:=(hb3.block _ (zJ HN.out.1).1).trans HN.out.1
  have g2:=(hb3.block _ (zJ HN.out.2).1).trans HN.out.2
  obtain⟨m0,m1,m2⟩:=cl3 g2
  have a8:zQ w3 ⟨w§+1,8,none⟩ (.slice r.a r.ds.length r.c):=Qa g1 8
  have cD:Calls zG 149 #[.agg #[.map (some b),.map (some b2),.map (some b3)],.slice r.a r.ds.length r.c] w3 (OutC w3 (dosE L S2 S3 false r.ds)):=Pq b b2 b3 L S2 S3 r.a r.c r.ds w3 (HH.out.1.on HB3.out) (HH.out.2.1.on HB3.out) (HH.out.2.2.1.on HB3.out) (HH.out.2.2.2.1.on HB3.out).2.1 (fun d hd=>⟨(HH.out.2.2.2.1.on HB3.out).2.2.1 d hd,fun q hq=>⟨QdL ((HH.out.2.2.2.1.on HB3.out).2.2.1 d hd) q hq,HH.out.2.2.2.2.2 d hd q hq⟩⟩)
  have HR:Hid (ruE L S2 S3 r=dosE L S2 S3 false r.ds):=by show _=_;unfold ruE;rw [h1]
  clear g1 g2 h1 hb3 cP k0 k1 k2 c0 c1 c2 c3 c4 c5 c6 c7
  go_wp2_with fail
  refine cD.mono ?_
  rintro e w4 (⟨h1,rfl,hb4⟩ | ⟨p,no,T,v,h1,rfl,her,hb4⟩)
  ·have HB4:Hid (yD w w4):=Qd HB3.out hb4
   have HR2:Hid (ruE L S2 S3 r=none):=HR.out.trans h1
   clear h1 hb4 cD
   go_wp2
   go_ret
   exact .inl ⟨HR2.out,rfl,HB4.out⟩
  ·have HB4:Hid (yD w w4∧Er w4 (.iface T v) no p):=⟨Qd HB3.out hb4,her⟩
   have HR2:=zH (HR.out.trans h1)
   clear h1 hb4 her cD
   go_wp2
   go_ret
   exact .inr ⟨p,no,T,v,HR2.out,rfl,HB4.out.2,HB4.out.1⟩
 ·have HB3:Hid (yD w w3∧Er w3 (.iface T v) no p):=⟨Qd HB.out hb3,her⟩
  have HR:Hid (ruE L S2 S3 r=some (p,no)):=by show _=_;unfold ruE;rw [h1]
  clear h1 hb3 her cP k0 k1 k2 c0 c1 c2 c3 c4 c5 c6 c7
  go_wp2
  go_ret
  exact .inr ⟨p,no,T,v,HR.out,rfl,HB3.out.2,HB3.out.1⟩
def rusE (L:yB→Option Int) (S2 S3:List yB):List Qy→Option (Int × Int)
 | []=>none
 | r :: rs=>match ruE L S2 S3 r with
  | some e=>some e
  | none=>rusE L S2 S3 rs
def stsE (L:yB→Option Int) (S2 S3:List yB):List Qq→Option (Int × Int)
 | []=>none
 | x :: xs=>match rusE L S2 S3 x.rs with
  | some e=>some e
  | none=>stsE L S2 S3 xs
theorem UA {L:yB→Option Int}{S2 S3:List yB}{r:Qy}{rs:List Qy}(h:ruE L S2 S3 r=none):rusE L S2 S3 (r :: rs)=rusE L S2 S3 rs:=by simp only [rusE,h]
theorem Uz {L:yB→Option Int}{S2 S3:List yB}{r:Qy}{rs:List Qy}{e:Int × Int}(h:ruE L S2 S3 r=some e):rusE L S2 S3 (r :: rs)=some e:=by simp only [rusE,h]
theorem Uy {L:yB→Option Int}{S2 S3:List yB}{x:Qq}{xs:List Qq}(h:rusE L S2 S3 x.rs=none):stsE L S2 S3 (x :: xs)=stsE L S2 S3 xs:=by simp only [stsE,h]
theorem Ux {L:yB→Option Int}{S2 S3:List yB}{x:Qq}{xs:List Qq}{e:Int × Int}(h:rusE L S2 S3 x.rs=some e):stsE L S2 S3 (x :: xs)=some e:=by simp only [stsE,h]
def chkE (S:Qg):Option (Int × Int):=if QR S=0 then (match decE S with
 | some e=>some e
 | none=>stsE (regL S.rs) (S.ss.map Qx.x) (S.ts.map Qq.x) S.ts) else some (0,QR S)
theorem UI (S:Qg) (w:yW) (hl:Qr w S) (hz:Q2 S) (ht:Tab w) (hf:FTab w) (hg:Ety w):Calls zG 52 #[.agg S.vals] w (OutC w (chkE S)):=by
 have hb1:=Qb w (.cells #[.string S.x,.slice S.ra S.rs.length S.rc,.slice S.sa S.ss.length S.sc,.slice S.ta S.ts.length S.tc] 26)
 have hn1:=Qc w (.cells #[.string S.x,.slice S.ra S.rs.length S.rc,.slice S.sa S.ss.length S.sc,.slice S.ta S.ts.length S.tc] 26)
 obtain⟨W1,e1⟩:∃ W,w.alloc (.cells #[.string S.x,.slice S.ra S.rs.length S.rc,.slice S.sa S.ss.length S.sc,.slice S.ta S.ts.length S.tc] 26)=W:=jV
 have E1:=zH e1
 rw [e1] at hb1 hn1
 have HB1:=zH hb1
 have HN1:=zH hn1
 have HH:Hid (Qr w S∧FTab w∧Ety w):=⟨hl,hf,hg⟩
 have cC:Calls zG 88 #[.agg #[.string S.x,.slice S.ra S.rs.length S.rc,.slice S.sa S.ss.length S.sc,.slice S.ta S.ts.length S.tc]] W1 fun e w'=>e=.returned (zI (QR S))∧yD W1 w':=check_any S W1 (hl.on hb1) hz (ht.on hb1)
 obtain⟨E,eE⟩:∃ E,QR S=E:=jV
 have HE:Hid (QR S=E):=eE
 rw [eE] at cC
 obtain⟨s0,s1,s2,s3⟩:=cl4 hn1
 clear hb1 hn1 e1 hl hz ht hf hg eE
 show Calls zG 52 #[.agg #[.string S.x,.slice S.ra S.rs.length S.rc,.slice S.sa S.ss.length S.sc,.slice S.ta S.ts.length S.tc]] w _
 go_enter func52,ntmps52
 go_upto_region 1 with fail
 rw [E1.out]
 clear E1
 go_wp2_with fail
 refine cC.mono ?_
 rintro e w2 ⟨rfl,hb2⟩
 have HB2:=zH (Qd HB1.out hb2)
 have g:=(hb2.block _ (zJ HN1.out).1).trans HN1.out
 have HN2:=zH g
 clear cC hb2 s0 s1 s2 s3 HB1 HN1
 by_cases h0:E=0
 ·subst h0
  obtain⟨s0,s1,s2,s3⟩:=cl4 g
  have cD:Calls zG 90 #[.agg #[.string S.x,.slice S.ra S.rs.length S.rc,.slice S.sa S.ss.length S.sc,.slice S.ta S.ts.length S.tc]] w2 (OutK w2 S):=Pp S w2 (HH.out.1.on HB2.out) (HH.out.2.1.on HB2.out) (PH HE.out (regL S.rs)).1
  have HF:Hid (chkE S=match decE S with
   | some e=>some e
   | none=>stsE (regL S.rs) (S.ss.map Qx.x) (S.ts.map Qq.x) S.ts):=by show _=_;unfold chkE;rw [if_pos HE.out]
  clear g
  go_wp2_with fail
  refine cD.mono ?_
  rintro e w3 (⟨p,no,c,h1,rfl,h2,h3,hb3⟩ | ⟨b,b2,b3,h1,rfl,hk,hb3⟩)
  ·have HR:Hid (chkE S=some (p,no)):=by show _=_;rw [HF.out,h1]
   have h4:=Qb w3 (.cells zn 172)
   have HB3:Hid (yD w (zA w3 zn 172)∧Er (zA w3 zn 172) (.iface 184 (zP c)) no p):=⟨Qd HB2.out (Qd hb3 h4),h3.er.on h4⟩
   clear h1 h2 h3 h4 hb3 cD s0 s1 s2 s3
   go_wp2
   go_ret
   exact .inr ⟨p,no,_,_,HR.out,rfl,HB3.out.2,HB3.out.1⟩
  ·obtain⟨L,eL⟩:∃ L,regL S.rs=L:=jV
   obtain⟨S2,eS2⟩:∃ l,S.ss.map Qx.x=l:=jV
   obtain⟨S3,eS3⟩:∃ l,S.ts.map Qq.x=l:=jV
   have HOK:=zH ((PH HE.out L).2)
   have HR0:Hid (chkE S=stsE L S2 S3 S.ts):=by show _=_;rw [HF.out,h1,eL,eS2,eS3]
   rw [eL,eS2,eS3] at hk
   have h4:=Qb w3 (.cells #[.map (some b),.map (some b2),.map (some b3)] 172)
   have n4:=Qc w3 (.cells #[.map (some b),.map (some b2),.map (some b3)] 172)
   have hb4:=Qd hb3 h4
   have s3':(zA w3 #[.map (some b),.map (some b2),.map (some b3)] 172).cell? w§¢3=some (.slice S.ta S.ts.length S.tc):=Qa ((hb4.block _ (zJ HN2.out).1).trans HN2.out) 3
   have HK4:=zH (hk.on h4)
   have HB4:=zH (Qd HB2.out hb4)
   obtain⟨WK,eWK⟩:∃ W,w3.alloc (.cells #[.map (some b),.map (some b2),.map (some b3)] 172)=W:=jV
   have EWK:=zH eWK
   obtain⟨M4,eM4⟩:∃ m,w3§=m:=jV
   have EM4:Hid (w3§=M4):=eM4
   rw [eWK] at s3' HK4 HB4 n4
   rw [eM4] at n4
   have HN4:=zH n4
   have HSL:=zH HH.out.1.2.2.2.2.1
   have HST:=zH HH.out.1.2.2.2.2.2.1
   obtain⟨R,eR⟩:∃ R,chkE S=R:=jV
   have ER:Hid (chkE S=R):=eR
   rw [eR] at HR0
   obtain⟨ts,ets⟩:∃ ts,S.ts=ts:=jV
   rw [ets] at HOK HR0 HSL HST s3'
   obtain⟨ta,eta⟩:∃ q,S.ta=q:=jV
   rw [eta] at HSL s3'
   clear h1 hk h4 n4 hb4 hb3 cD s0 s1 s2 s3 eWK eM4 eL eS2 eS3 HF HE HN2 eR ets eta
   go_upto_region 5 with fail
   rw [EWK.out,EM4.out]
   clear EWK EM4
   go_wp2_with fail
   go_loopw [28] (fun t wr=>∃ i:Nat,i≤ts.length∧t=zI i∧Hid (yD WK wr)∧Hid (R=stsE L S2 S3 (ts.drop i))) (fun t _=>ts.length - (intOf t).toNat)
   case atStart=>exact⟨0,by omega,rfl,Below.refl _ _,HR0⟩
   case round =>
    obtain⟨i,hi,rfl,HBR,HR⟩:=hrel
    by_cases hlt:i < ts.length
    ·have hlt':(i:Int) < (ts.length:Int):=by omega
     have hmx:(i:Int)+1≤jX:=by have h1:=HSL.out.1;have h2:=HSL.out.2.1;rw [List.length_map] at h1;omega
     obtain⟨bb,o,ea,hat⟩:=(HSL.out.on (mapz Qq.sz _) (Qd HB4.out HBR.out)).2.2 i (by rw [List.length_map];exact hlt)
     simp only [List.getElem_map] at hat
     have HMEM:Hid (ts[i] ∈ ts):=List.getElem_mem hlt
     have HC:Hid (R=stsE L S2 S3 (ts[i] :: ts.drop (i+1))):=by show _=_;rw [HR.out,List.drop_eq_getElem_cons hlt]
     obtain⟨d,ed⟩:∃ d,ts[i]=d:=jV
     rw [ed] at hat HC HMEM
     have HRG:Hid (wr.rangeAt bb (o+i * 3) d.vals.toList):=fun j v hv=>by
      have hj:j < 3:=(List.getElem?_eq_some_iff.1 hv).1
      rw [hat j hj,← hv];simp
     have HZ:Hid ((zA wr zm 69).heap[wr§]? = (zC zm 69)):=Qc _ _
     have hbx:yD wr ((zA wr zm 69).setRow wr§ d.vals):=Qn (Qb _ _) (Nat.le_refl _) _
     have HBX:=zH (Qd HBR.out hbx)
     have HNX:Hid (((zA wr zm 69).setRow wr§ d.vals).heap[wr§]? = (zC d.vals 69)):=setRow_heap _ _ _ _ _ _ HZ.out
     subst ea
     clear hat ed hbx HR HBR
     go_upto_region 10 with (first | (refine wpList_load_mid rfl 69 (.tmp 30) rfl bb (o+i * 3) rfl d.vals.toList _ HRG.out underlying69 rfl (by show _=some 3;exact Je) ?_;rw [Array.toArray_toList]) | (refine wpList_store_row rfl 69 (.tmp 7) (.tmp 31) rfl wr§ d.vals rfl rfl 69 zm HZ.out Je rfl (Hc d) ?_))
     generalize hWX:World.setRow _ _ _=WX
     rw [hWX] at HBX HNX
     clear hWX HZ HRG
     have x1:zQ WX wr§¢1 (.slice d.a d.rs.length d.c):=Qa HNX.out 1
     have HRL:=zH ((HST.out d HMEM.out).1)
     have HRS:Hid (∀ r ∈ d.rs,J5 w r∧RuOk L r):=fun r hr=>⟨(HST.out d HMEM.out).2.1 r hr,HOK.out d HMEM.out r hr⟩
     have HC2:Hid (∀ e,rusE L S2 S3 d.rs=some e→R=some e):=fun e he=>HC.out.trans (Ux he)
     have HC3:Hid (rusE L S2 S3 d.rs=none→R=stsE L S2 S3 (ts.drop (i+1))):=fun he=>HC.out.trans (Uy he)
     obtain⟨rs,ers⟩:∃ rs,d.rs=rs:=jV
     rw [ers] at HRL HRS HC2 HC3 x1
     obtain⟨da,eda⟩:∃ q,d.a=q:=jV
     rw [eda] at HRL x1
     clear ers eda HC HMEM HNX
     generalize wr§=M1 at x1 ⊢
     go_wp2_with fail
     go_loopw [35] (fun t wr=>∃ j:Nat,j≤rs.length∧t=zI j∧Hid (yD WK wr)∧Hid (rusE L S2 S3 rs=rusE L S2 S3 (rs.drop j))) (fun t _=>rs.length - (intOf t).toNat)
     case atStart=>exact⟨0,by omega,rfl,HBX,rfl⟩
     case round =>
      obtain⟨j,hj,rfl,HBQ,HRQ⟩:=hrel
      by_cases hjl:j < rs.length
      ·have hjl':(j:Int) < (rs.length:Int):=by omega
       have hjx:(j:Int)+1≤jX:=by have h1:=HRL.out.1;have h2:=HRL.out.2.1;rw [List.length_map] at h1;omega
       obtain⟨b7,o7,ea7,hat7⟩:=(HRL.out.on (mapz Qy.sz _) (Qd HB4.out HBQ.out)).2.2 j (by rw [List.length_map];exact hjl)
       simp only [List.getElem_map] at hat7
       have HMQ:Hid (rs[j] ∈ rs):=List.getElem_mem hjl
       have HCQ:Hid (rusE L S2 S3 rs=rusE L S2 S3 (rs[j] :: rs.drop (j+1))):=by show _=_;rw [HRQ.out,List.drop_eq_getElem_cons hjl]
       obtain⟨q,eq⟩:∃ q,rs[j]=q:=jV
       rw [eq] at hat7 HCQ HMQ
       have HRG7:Hid (wr.rangeAt b7 (o7+j * 10) q.vals.toList):=fun j v hv=>by
        have hj:j < 10:=(List.getElem?_eq_some_iff.1 hv).1
        rw [hat7 j hj,← hv];simp
       have HZ7:Hid ((zA wr zh 100).heap[wr§]? = (zC zh 100)):=Qc _ _
       have hbx7:yD wr ((zA wr zh 100).setRow wr§ q.vals):=Qn (Qb _ _) (Nat.le_refl _) _
       have HBX7:=zH (Qd HBQ.out hbx7)
       have HNX7:Hid (((zA wr zh 100).setRow wr§ q.vals).heap[wr§]? = (zC q.vals 100)):=setRow_heap _ _ _ _ _ _ HZ7.out
       subst ea7
       clear hat7 eq hbx7 HRQ HBQ
       go_upto_region 13 with (first | (refine wpList_load_mid rfl 100 (.tmp 37) rfl b7 (o7+j * 10) rfl q.vals.toList _ HRG7.out underlying100 rfl (by show _=some 10;exact Q7) ?_;rw [Array.toArray_toList]) | (refine wpList_store_row rfl 100 (.tmp 9) (.tmp 38) rfl wr§ q.vals rfl rfl 100 zh HZ7.out Q7 rfl (Vz q) ?_))
       generalize hWQ:World.setRow _ _ _=WQ
       rw [hWQ] at HBX7 HNX7
       clear hWQ HZ7 HRG7
       have hwq:=Qd HB4.out HBX7.out
       have hkq:=(HBX7.out.block _ (zJ HN4.out).1).trans HN4.out
       obtain⟨k0,k1,k2⟩:=cl3 hkq
       have cC:Calls zG 91 #[.agg #[.map (some b),.map (some b2),.map (some b3)],.agg q.vals] WQ (OutC WQ (ruE L S2 S3 q)):=VG b b2 b3 L S2 S3 q WQ (HK4.out.on HBX7.out) (HH.out.2.1.on hwq) (HH.out.2.2.on hwq) ((HRS.out q HMQ.out).1.on hwq) (HRS.out q HMQ.out).2
       clear hwq hkq
       go_wp2_with (refine wpList_load_row rfl 100 (.tmp 9) rfl wr§ rfl 100 q.vals (0,0) _ HNX7.out underlying100 rfl Q7 ?_)
       refine cC.mono ?_
       rintro e w8 (⟨hn,rfl,hb8⟩ | ⟨p,no,T,v,hn,rfl,her,hb8⟩)
       ·have HB8:Hid (yD WK w8):=Qd HBX7.out hb8
        have HN8:=zH (HCQ.out.trans (UA hn))
        clear cC hb8 hn k0 k1 k2
        go_wp2_with fail
        exact⟨⟨j+1,hjl,rfl,HB8,HN8⟩,by simp only [intOf];omega⟩
       ·have HB8:Hid (yD w w8∧Er w8 (.iface T v) no p):=⟨Qd HB4.out (Qd HBX7.out hb8),her⟩
        have HD:Hid (R=some (p,no)):=HC2.out _ (HCQ.out.trans (Uz hn))
        clear cC hb8 hn her k0 k1 k2
        go_wp2
        go_ret
        exact .inr ⟨p,no,T,v,ER.out.trans HD.out,rfl,HB8.out.2,HB8.out.1⟩
      ·obtain rfl:j=rs.length:=by omega
       have hnot:¬ (rs.length:Int) < (rs.length:Int):=by omega
       have HN0:=zH (HC3.out (by rw [HRQ.out,List.drop_length];rfl))
       clear HRQ
       go_wp2_with fail
       exact⟨⟨i+1,hlt,rfl,HBQ,HN0⟩,by simp only [intOf];omega⟩
    ·obtain rfl:i=ts.length:=by omega
     have hnot:¬ (ts.length:Int) < (ts.length:Int):=by omega
     have HD:Hid (R=none):=by show _=_;rw [HR.out,List.drop_length];rfl
     clear HR
     go_wp2
     go_ret
     exact .inl ⟨ER.out.trans HD.out,rfl,Qd HB4.out HBR.out⟩
 ·have hE:(E == 0)=false:=by simpa using h0
  have HF:Hid (chkE S=some (0,E)):=by show _=_;unfold chkE;rw [HE.out,if_neg h0]
  clear h0 g
  go_wp2_with fail
  refine (JN _ _ _).mono ?_
  rintro e w7 ⟨rfl,hf7,hb7⟩
  have HB7:Hid (yD w w7∧Er w7 (.iface 184 (zP w2§)) E 0):=⟨Qd HB2.out hb7,hf7.er⟩
  clear hb7 hf7
  go_wp2
  go_ret
  exact .inr ⟨0,E,_,_,HF.out,rfl,HB7.out.2,HB7.out.1⟩
end Go.Proofs.YtfbjofnaghjmeaaGreatDoor
