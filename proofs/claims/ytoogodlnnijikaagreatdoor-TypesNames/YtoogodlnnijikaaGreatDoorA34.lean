import Derived.Test.YtoogodlnnijikaaGreatDoorA0
import Derived.Test.YtoogodlnnijikaaGreatDoorA33
import Derived.WalkMore
import Derived.Test.YtoogodlnnijikaaGreatDoorA32
namespace Go.Proofs.YtoogodlnnijikaaGreatDoor
set_option maxHeartbeats 16000000
set_option maxRecDepth 100000
open Go.RowKit Go.Maps
set_option linter.unusedVariables false
set_option linter.unusedSimpArgs false
def psE (L:yB→Option Int):List (Nd × Int)→Option (Int × Int)
 | []=>none
 | q :: qs=>match pcE L q with
  | some e=>some e
  | none=>psE L qs
def dosE (L:yB→Option Int) (S2 S3:List yB):Bool→List DoM→Option (Int × Int)
 | _,[]=>none
 | en,d :: ds=>if en then some (d.p,153) else if Q3 L S2 S3 d.k d.x then (match psE L (ptsL L d) with
  | some e=>some e
  | none=>dosE L S2 S3 (d.k == 5 || d.k == 6) ds) else some (d.p,151)
theorem psE_none {L:yB→Option Int}{q:Nd × Int}{qs:List (Nd × Int)}(h:pcE L q=none):psE L (q :: qs)=psE L qs:=by simp only [psE,h]
theorem psE_some {L:yB→Option Int}{q:Nd × Int}{qs:List (Nd × Int)}{e:Int × Int}(h:pcE L q=some e):psE L (q :: qs)=some e:=by simp only [psE,h]
theorem dosE_end (L:yB→Option Int) (S2 S3:List yB) (d:DoM) (ds:List DoM):dosE L S2 S3 true (d :: ds)=some (d.p,153):=by simp [dosE]
theorem dosE_not {L:yB→Option Int}{S2 S3:List yB}{d:DoM}(h:Q3 L S2 S3 d.k d.x=false) (ds:List DoM):dosE L S2 S3 false (d :: ds)=some (d.p,151):=by simp [dosE,h]
theorem dosE_some {L:yB→Option Int}{S2 S3:List yB}{d:DoM}{e:Int × Int}(h:Q3 L S2 S3 d.k d.x=true) (hp:psE L (ptsL L d)=some e) (ds:List DoM):dosE L S2 S3 false (d :: ds)=some e:=by simp [dosE,h,hp]
theorem dosE_next {L:yB→Option Int}{S2 S3:List yB}{d:DoM}(h:Q3 L S2 S3 d.k d.x=true) (hp:psE L (ptsL L d)=none) (ds:List DoM):dosE L S2 S3 false (d :: ds)=dosE L S2 S3 (d.k == 5 || d.k == 6) ds:=by simp [dosE,h,hp]
theorem pt_rng {w:yW}{b o:Nat}{q:Nd × Int}(h:∀ j,j < 9→w.cell? ⟨b,o+j,none⟩=(ptV q)[j]?):w.rangeAt b o (ptV q).toList:=fun j v hv=>by
 have hj:j < 9:=(List.getElem?_eq_some_iff.1 hv).1
 rw [h j hj,← hv]; simp
theorem checkDos_any (b b2 b3:Nat) (L:yB→Option Int) (S2 S3:List yB) (a:Option Addr) (c:Nat) (ds:List DoM) (w:yW) (hk:Kn w b b2 b3 L S2 S3) (hf:FTab w) (hg:Ety w) (hs:SlAt w 36 a c (ds.map DoM.vals)) (hd:∀ d ∈ ds,DoL w d∧∀ q ∈ ptsL L d,Lies w q.1∧OkT q.1) :
  Calls zG 70 #[.agg #[.map (some b),.map (some b2),.map (some b3)],.slice a ds.length c] w (OutC w (dosE L S2 S3 false ds)):=by
 have hb1:=Qc w (.cells #[.map (some b),.map (some b2),.map (some b3)] 87)
 have hn1:=Qd w (.cells #[.map (some b),.map (some b2),.map (some b3)] 87)
 obtain⟨W1,e1⟩:∃ W,w.alloc (.cells #[.map (some b),.map (some b2),.map (some b3)] 87)=W:=⟨_,rfl⟩
 have E1:Hid (w.alloc (.cells #[.map (some b),.map (some b2),.map (some b3)] 87)=W1):=e1
 rw [e1] at hb1 hn1
 have HB1:Hid (yD w W1):=hb1
 have HK1:Hid (W1.heap[w§]? = (zC #[.map (some b),.map (some b2),.map (some b3)] 87)):=hn1
 have HH:Hid (Kn w b b2 b3 L S2 S3∧FTab w∧Ety w):=⟨hk,hf,hg⟩
 have HSL:Hid (SlAt w 36 a c (ds.map DoM.vals)):=hs
 have HDS:Hid (∀ d ∈ ds,DoL w d∧∀ q ∈ ptsL L d,Lies w q.1∧OkT q.1):=hd
 obtain⟨R,eR⟩:∃ R,dosE L S2 S3 false ds=R:=⟨_,rfl⟩
 have HR0:Hid (dosE L S2 S3 false ds=R):=eR
 rw [eR]
 clear hb1 hn1 hk hf hg hs hd e1 eR
 go_enter Tryz.func70,Tryz.ntmps70
 go_upto_region 1 with fail
 rw [E1.out]
 clear E1
 go_step3
 go_wp2_with fail
 go_step3
 go_wp2_with fail
 go_loopw [5,6,13] (fun f en t wr=>∃ (i:Nat) (E:Bool),i≤ds.length∧t=zI i∧en=.bool E∧f=.nilIface∧Hid (yD w wr)∧Hid (wr.heap[w§]? = (zC #[.map (some b),.map (some b2),.map (some b3)] 87))∧Hid (R=dosE L S2 S3 E (ds.drop i))) (fun _ _ t _=>ds.length - (intOf t).toNat)
 case atStart=>exact⟨0,false,by omega,rfl,rfl,rfl,HB1,HK1,HR0.out.symm⟩
 case round =>
  obtain⟨i,E,hi,rfl,rfl,rfl,HBR,HBO,HR⟩:=hrel
  by_cases hlt:i < ds.length
  ·have hlt':(i:Int) < (ds.length:Int):=by omega
   have hmx:(i:Int)+1≤9223372036854775807:=by have h1:=HSL.out.1; have h2:=HSL.out.2.1; rw [List.length_map] at h1; omega
   obtain⟨bb,o,ea,hat⟩:=(HSL.out.on (mapz DoM.sz _) HBR.out).2.2 i (by rw [List.length_map]; exact hlt)
   simp only [List.getElem_map] at hat
   have HMEM:Hid (ds[i] ∈ ds):=List.getElem_mem hlt
   have HC:Hid (R=dosE L S2 S3 E (ds[i] :: ds.drop (i+1))):=by show _=_; rw [HR.out,List.drop_eq_getElem_cons hlt]
   obtain⟨d,ed⟩:∃ d,ds[i]=d:=⟨_,rfl⟩
   rw [ed] at hat HC HMEM
   have HRG:Hid (wr.rangeAt bb (o+i * 36) d.vals.toList):=fun j v hv=>by
    have hj:j < 36:=(List.getElem?_eq_some_iff.1 hv).1
    rw [hat j hj,← hv]; simp
   have HZ:Hid ((wr.alloc (.cells #[zU 0,zU 0,yQ,zU 0,zU 0,zU 0,zI 0,zU 0,yQ,.slice none 0 0,zI 0,zU 0,zU 0,zU 0,zI 0,zU 0,yQ,.slice none 0 0,zI 0,zU 0,zU 0,zU 0,zI 0,zU 0,yQ,.slice none 0 0,zI 0,zU 0,zU 0,zU 0,zI 0,zU 0,yQ,.slice none 0 0,zI 0,zI 0] 105)).heap[wr§]? = (zC #[zU 0,zU 0,yQ,zU 0,zU 0,zU 0,zI 0,zU 0,yQ,.slice none 0 0,zI 0,zU 0,zU 0,zU 0,zI 0,zU 0,yQ,.slice none 0 0,zI 0,zU 0,zU 0,zU 0,zI 0,zU 0,yQ,.slice none 0 0,zI 0,zU 0,zU 0,zU 0,zI 0,zU 0,yQ,.slice none 0 0,zI 0,zI 0] 105)):=Qd _ _
   have hbx:yD wr ((wr.alloc (.cells #[zU 0,zU 0,yQ,zU 0,zU 0,zU 0,zI 0,zU 0,yQ,.slice none 0 0,zI 0,zU 0,zU 0,zU 0,zI 0,zU 0,yQ,.slice none 0 0,zI 0,zU 0,zU 0,zU 0,zI 0,zU 0,yQ,.slice none 0 0,zI 0,zU 0,zU 0,zU 0,zI 0,zU 0,yQ,.slice none 0 0,zI 0,zI 0] 105)).setRow wr§ d.vals):=Qo (Qc _ _) (Nat.le_refl _) _
   have HBX:Hid (yD w ((wr.alloc (.cells #[zU 0,zU 0,yQ,zU 0,zU 0,zU 0,zI 0,zU 0,yQ,.slice none 0 0,zI 0,zU 0,zU 0,zU 0,zI 0,zU 0,yQ,.slice none 0 0,zI 0,zU 0,zU 0,zU 0,zI 0,zU 0,yQ,.slice none 0 0,zI 0,zU 0,zU 0,zU 0,zI 0,zU 0,yQ,.slice none 0 0,zI 0,zI 0] 105)).setRow wr§ d.vals)):=Qe HBR.out hbx
   have HBK:Hid (((wr.alloc (.cells #[zU 0,zU 0,yQ,zU 0,zU 0,zU 0,zI 0,zU 0,yQ,.slice none 0 0,zI 0,zU 0,zU 0,zU 0,zI 0,zU 0,yQ,.slice none 0 0,zI 0,zU 0,zU 0,zU 0,zI 0,zU 0,yQ,.slice none 0 0,zI 0,zU 0,zU 0,zU 0,zI 0,zU 0,yQ,.slice none 0 0,zI 0,zI 0] 105)).setRow wr§ d.vals).heap[w§]? = (zC #[.map (some b),.map (some b2),.map (some b3)] 87)):=(hbx.block _ (zJ HBO.out).1).trans HBO.out
   have HNX:Hid (((wr.alloc (.cells #[zU 0,zU 0,yQ,zU 0,zU 0,zU 0,zI 0,zU 0,yQ,.slice none 0 0,zI 0,zU 0,zU 0,zU 0,zI 0,zU 0,yQ,.slice none 0 0,zI 0,zU 0,zU 0,zU 0,zI 0,zU 0,yQ,.slice none 0 0,zI 0,zU 0,zU 0,zU 0,zI 0,zU 0,yQ,.slice none 0 0,zI 0,zI 0] 105)).setRow wr§ d.vals).heap[wr§]? = (zC d.vals 105)):=setRow_heap _ _ _ _ _ _ HZ.out
   subst ea
   clear hat ed hbx HR HBR HBO
   go_upto_region 6 with (first | (refine wpList_load_mid rfl 105 (.tmp 15) rfl bb (o+i * 36) rfl d.vals.toList _ HRG.out Tryz.underlying105 rfl (by show _=some 36; exact Qk) ?_; rw [Array.toArray_toList]) | (refine wpList_store_row rfl 105 (.tmp 8) (.tmp 16) rfl wr§ d.vals rfl rfl 105 #[zU 0,zU 0,yQ,zU 0,zU 0,zU 0,zI 0,zU 0,yQ,.slice none 0 0,zI 0,zU 0,zU 0,zU 0,zI 0,zU 0,yQ,.slice none 0 0,zI 0,zU 0,zU 0,zU 0,zI 0,zU 0,yQ,.slice none 0 0,zI 0,zU 0,zU 0,zU 0,zI 0,zU 0,yQ,.slice none 0 0,zI 0,zI 0] HZ.out Qk rfl (JY ..) ?_))
   generalize hWX:World.setRow _ _ _=WX
   rw [hWX] at HBX HNX HBK
   clear hWX HZ HRG
   have HX:Hid (d.x.size≤maxLen):=by have h1:=(HDS.out d HMEM.out).1.2.2.2.2.2.2.2; unfold SzX at h1; show _≤_; unfold maxLen; omega
   cases E with
   | true =>
    have HD:Hid (R=some (d.p,153)):=HC.out.trans (dosE_end ..)
    have c35:WX.cell? wr§¢35=some (zI d.p):=Qa HNX.out 35
    go_wp2_with fail
    refine (JI _ _ _).mono ?_
    rintro e w9 ⟨rfl,hf9,hb9⟩
    have HB9:Hid (yD w w9∧Er w9 (.iface 118 (zP WX§)) 153 d.p):=⟨Qe HBX.out hb9,hf9.er⟩
    clear hf9 hb9
    go_wp2_with fail
    go_ret
    exact .inr ⟨_,_,_,_,HD.out,rfl,HB9.out.2,HB9.out.1⟩
   | false =>
    have k0:WX.cell? w§¢0=some (.map (some b)):=Qa HBK.out 0
    have k1:WX.cell? w§¢1=some (.map (some b2)):=Qa HBK.out 1
    have k2:WX.cell? w§¢2=some (.map (some b3)):=Qa HBK.out 2
    have cS:Calls zG 106 #[.agg #[.map (some b),.map (some b2),.map (some b3)],.agg d.vals] WX fun e w'=>e=.returned (.bool (Q3 L S2 S3 d.k d.x))∧yD WX w':=stands_any b b2 b3 L S2 S3 d WX (HH.out.1.on HBX.out) HX.out
    go_wp2_with (refine wpList_load_row rfl 105 (.tmp 8) rfl wr§ rfl 105 d.vals (0,0) _ HNX.out Tryz.underlying105 rfl Qk ?_)
    refine cS.mono ?_
    rintro e w5 ⟨rfl,hb5⟩
    have HB5:Hid (yD w w5):=Qe HBX.out hb5
    have HK5:Hid (w5.heap[w§]? = (zC #[.map (some b),.map (some b2),.map (some b3)] 87)):=(hb5.block _ (zJ HBK.out).1).trans HBK.out
    have HN5:Hid (w5.heap[wr§]? = (zC d.vals 105)):=(hb5.block _ (zJ HNX.out).1).trans HNX.out
    clear cS hb5 k0 k1 k2 HBX HBK HNX
    cases hst:Q3 L S2 S3 d.k d.x with
    | false =>
     have HD:Hid (R=some (d.p,151)):=HC.out.trans (dosE_not hst _)
     have c35:w5.cell? wr§¢35=some (zI d.p):=Qa HN5.out 35
     clear hst
     go_wp2_with fail
     refine (JI _ _ _).mono ?_
     rintro e w9 ⟨rfl,hf9,hb9⟩
     have HB9:Hid (yD w w9∧Er w9 (.iface 118 (zP w5§)) 151 d.p):=⟨Qe HB5.out hb9,hf9.er⟩
     clear hf9 hb9
     go_wp2_with fail
     go_ret
     exact .inr ⟨_,_,_,_,HD.out,rfl,HB9.out.2,HB9.out.1⟩
    | true =>
     have k0:w5.cell? w§¢0=some (.map (some b)):=Qa HK5.out 0
     have k1:w5.cell? w§¢1=some (.map (some b2)):=Qa HK5.out 1
     have k2:w5.cell? w§¢2=some (.map (some b3)):=Qa HK5.out 2
     have cP:Calls zG 107 #[.agg #[.map (some b),.map (some b2),.map (some b3)],.agg d.vals] w5 fun e w'=>∃ a c,e=.returned (.slice a (ptsL L d).length c)∧SlAt w' 9 a c ((ptsL L d).map ptV)∧yD w5 w':=parts_any b b2 b3 L d w5 (HH.out.1.on HB5.out).r HX.out
     have HST:Hid (Q3 L S2 S3 d.k d.x=true):=hst
     clear hst
     go_wp2_with (refine wpList_load_row rfl 105 (.tmp 8) rfl wr§ rfl 105 d.vals (0,0) _ HN5.out Tryz.underlying105 rfl Qk ?_)
     refine cP.mono ?_
     rintro e w6 ⟨pa,pc,rfl,hsl,hb6⟩
     obtain⟨ps,eps⟩:∃ ps,ptsL L d=ps:=⟨_,rfl⟩
     have HPS:Hid (ptsL L d=ps):=eps
     have HQ:Hid (∀ q ∈ ps,Lies w q.1∧OkT q.1):=by show ∀ q ∈ ps,_; rw [← eps]; exact (HDS.out d HMEM.out).2
     rw [eps] at hsl ⊢
     have HSP:Hid (SlAt w6 9 pa pc (ps.map ptV)):=hsl
     have HB6:Hid (yD w w6):=Qe HB5.out hb6
     have HK6:Hid (w6.heap[w§]? = (zC #[.map (some b),.map (some b2),.map (some b3)] 87)):=(hb6.block _ (zJ HK5.out).1).trans HK5.out
     have HN6:Hid (w6.heap[wr§]? = (zC d.vals 105)):=(hb6.block _ (zJ HN5.out).1).trans HN5.out
     clear cP hb6 hsl k0 k1 k2 HB5 HK5 HN5 eps
     generalize wr§=M1 at HN6 ⊢
     go_wp2_with fail
     go_loopw [5,34] (fun f t wr=>∃ j:Nat,j≤ps.length∧t=zI j∧f=.nilIface∧Hid (yD w6 wr)∧Hid (psE L ps=psE L (ps.drop j))) (fun _ t _=>ps.length - (intOf t).toNat)
     case atStart=>exact⟨0,by omega,rfl,rfl,Below.refl _ _,rfl⟩
     case round =>
      obtain⟨j,hj,rfl,rfl,HBQ,HRQ⟩:=hrel
      by_cases hjl:j < ps.length
      ·have hjl':(j:Int) < (ps.length:Int):=by omega
       have hjx:(j:Int)+1≤9223372036854775807:=by have h1:=HSP.out.1; have h2:=HSP.out.2.1; rw [List.length_map] at h1; omega
       obtain⟨b7,o7,ea7,hat7⟩:=(HSP.out.on (mapz KX _) HBQ.out).2.2 j (by rw [List.length_map]; exact hjl)
       simp only [List.getElem_map] at hat7
       have HMQ:Hid (ps[j] ∈ ps):=List.getElem_mem hjl
       have HCQ:Hid (psE L ps=psE L (ps[j] :: ps.drop (j+1))):=by show _=_; rw [HRQ.out,List.drop_eq_getElem_cons hjl]
       obtain⟨q,eq⟩:∃ q,ps[j]=q:=⟨_,rfl⟩
       rw [eq] at hat7 HCQ HMQ
       have HRG7:Hid (wr.rangeAt b7 (o7+j * 9) (ptV q).toList):=pt_rng hat7
       have HZ7:Hid ((wr.alloc (.cells zq 128)).heap[wr§]? = (zC zq 128)):=Qd _ _
       have hbx7:yD wr ((wr.alloc (.cells zq 128)).setRow wr§ (ptV q)):=Qo (Qc _ _) (Nat.le_refl _) _
       have HBX7:Hid (yD w6 ((wr.alloc (.cells zq 128)).setRow wr§ (ptV q))):=Qe HBQ.out hbx7
       have HNX7:Hid (((wr.alloc (.cells zq 128)).setRow wr§ (ptV q)).heap[wr§]? = (zC (ptV q) 128)):=setRow_heap _ _ _ _ _ _ HZ7.out
       subst ea7
       clear hat7 eq hbx7 HRQ HBQ
       go_upto_region 13 with (first | (refine wpList_load_mid rfl 128 (.tmp 36) rfl b7 (o7+j * 9) rfl (ptV q).toList _ HRG7.out Tryz.underlying128 rfl (by show _=some 9; exact Jy) ?_; rw [Array.toArray_toList]) | (refine wpList_store_row rfl 128 (.tmp 10) (.tmp 37) rfl wr§ (ptV q) rfl rfl 128 zq HZ7.out Jy rfl (all9 _) ?_))
       generalize hWQ:World.setRow _ _ _=WQ
       rw [hWQ] at HBX7 HNX7
       clear hWQ HZ7 HRG7
       have hwr:=Qe HB6.out HBX7.out
       have hkq:=(HBX7.out.block _ (zJ HK6.out).1).trans HK6.out
       have k0:WQ.cell? w§¢0=some (.map (some b)):=Qa hkq 0
       have k1:WQ.cell? w§¢1=some (.map (some b2)):=Qa hkq 1
       have k2:WQ.cell? w§¢2=some (.map (some b3)):=Qa hkq 2
       have cC:Calls zG 69 #[.agg #[.map (some b),.map (some b2),.map (some b3)],.agg (ptV q)] WQ (OutC WQ (pcE L q)):=checkPart_any b b2 b3 L q WQ (HH.out.1.on hwr).r (HH.out.2.1.on hwr) ((HQ.out q HMQ.out).1.on hwr) (HQ.out q HMQ.out).2 (HH.out.2.2.on hwr)
       clear hwr hkq
       go_wp2_with (refine wpList_load_row rfl 128 (.tmp 10) rfl wr§ rfl 128 (ptV q) (0,0) _ HNX7.out Tryz.underlying128 rfl Jy ?_)
       refine cC.mono ?_
       rintro e w8 (⟨hn,rfl,hb8⟩ | ⟨p,no,T,v,hn,rfl,her,hb8⟩)
       ·have HB8:Hid (yD w6 w8):=Qe HBX7.out hb8
        have HN8:Hid (psE L ps=psE L (ps.drop (j+1))):=HCQ.out.trans (psE_none hn)
        clear cC hb8 hn k0 k1 k2
        go_wp2_with fail
        exact⟨⟨j+1,hjl,rfl,rfl,HB8,HN8⟩,by simp only [intOf]; omega⟩
       ·have HB8:Hid (yD w w8∧Er w8 (.iface T v) no p):=⟨Qe HB6.out (Qe HBX7.out hb8),her⟩
        have HD:Hid (R=some (p,no)):=HC.out.trans (dosE_some HST.out (by rw [HPS.out]; exact HCQ.out.trans (psE_some hn)) _)
        clear cC hb8 hn her k0 k1 k2
        go_wp2_with fail
        go_ret
        exact .inr ⟨p,no,T,v,HD.out,rfl,HB8.out.2,HB8.out.1⟩
      ·obtain rfl:j=ps.length:=by omega
       have hnot:¬ (ps.length:Int) < (ps.length:Int):=by omega
       have HN0:Hid (R=dosE L S2 S3 (d.k == 5 || d.k == 6) (ds.drop (i+1))):=HC.out.trans (dosE_next HST.out (by rw [HPS.out,HRQ.out,List.drop_length]; rfl) _)
       have HBW:Hid (yD w wr):=Qe HB6.out HBQ.out
       have HKW:Hid (wr.heap[w§]? = (zC #[.map (some b),.map (some b2),.map (some b3)] 87)):=(HBQ.out.block _ (zJ HK6.out).1).trans HK6.out
       have c0:wr.cell? M1¢0=some (zU d.k):=Qa ((HBQ.out.block _ (zJ HN6.out).1).trans HN6.out) 0
       clear HRQ HBQ
       cases h5:(d.k == 5) with
       | true =>
        rw [h5] at HN0
        go_wp2_with fail
        exact⟨⟨i+1,true,hlt,rfl,rfl,rfl,HBW,HKW,HN0⟩,by simp only [intOf]; omega⟩
       | false =>
        cases h6:(d.k == 6) with
        | true =>
         rw [h5,h6] at HN0
         go_wp2_with fail
         exact⟨⟨i+1,true,hlt,rfl,rfl,rfl,HBW,HKW,HN0⟩,by simp only [intOf]; omega⟩
        | false =>
         rw [h5,h6] at HN0
         go_wp2_with fail
         exact⟨⟨i+1,false,hlt,rfl,rfl,rfl,HBW,HKW,HN0⟩,by simp only [intOf]; omega⟩
  ·obtain rfl:i=ds.length:=by omega
   have hnot:¬ (ds.length:Int) < (ds.length:Int):=by omega
   have HD:Hid (R=none):=by show _=_; rw [HR.out,List.drop_length]; cases E <;> rfl
   clear HR
   go_wp2_with fail
   go_ret
   exact .inl ⟨HD.out,rfl,HBR.out⟩
theorem RgN.mv {w w':yW}{b n:Nat}{L:yB→Option Int}{F:Nat→Prop}(h:RgN w b n L) (k:Mv w w' F) (hF:¬ F b):RgN w' b n L:=by
 obtain⟨D,ho,hL⟩:=h
 have hlt:=ho.lt
 obtain⟨es,clock,hb,F,hs,hD⟩:=ho
 exact⟨D,⟨es,clock,(k.block b hlt hF).trans hb,F,hs,hD⟩,hL⟩
theorem NmN.mv {w w':yW}{b n:Nat}{S:List yB}{F:Nat→Prop}(h:NmN w b n S) (k:Mv w w' F) (hF:¬ F b):NmN w' b n S:=by
 obtain⟨D,ho,hL⟩:=h
 have hlt:=ho.lt
 obtain⟨es,clock,hb,F,hs,hD⟩:=ho
 exact⟨D,⟨es,clock,(k.block b hlt hF).trans hb,F,hs,hD⟩,hL⟩
def JT (l:List RegM):List RegM→Option (Int × Int)
 | []=>none
 | r :: rs=>if (regL l r.x).isSome then some (r.p,150) else if tyV (tyR (regL l) r.m)=r.t then JT (l ++ [r]) rs else some (r.p,152)
def dNms (S:List yB):List (yB × Int)→Option (Int × Int)
 | []=>none
 | x :: xs=>if inS S x.1 then some (x.2,150) else dNms (S ++ [x.1]) xs
structure Dec (w wr:yW) (r:Qm) (n1 n2 n3:Nat) (l:List RegM) (S2 S3:List yB):Prop where
 bel:yD w wr
 box:wr.heap[w§]? = (zC r.vals 27)
 res:wr.heap[w§+1]? = (zC zm 87)
 kn:wr.heap[w§+5]? = (zC #[.map (some (w§+2)),.map (some (w§+3)),.map (some (w§+4))] 87)
 m1:RgN wr (w§+2) n1 (regL l)
 m2:NmN wr (w§+3) n2 S2
 m3:NmN wr (w§+4) n3 S3
theorem Dec.on {w wr w':yW}{r:Qm}{n1 n2 n3:Nat}{l:List RegM}{S2 S3:List yB}(h:Dec w wr r n1 n2 n3 l S2 S3) (k:yD wr w'):Dec w w' r n1 n2 n3 l S2 S3 :=
 ⟨Qe h.bel k,(k.block _ (zJ h.box).1).trans h.box,(k.block _ (zJ h.res).1).trans h.res,(k.block _ (zJ h.kn).1).trans h.kn,h.m1.on k,h.m2.on k,h.m3.on k⟩
theorem bel_mv {w wr w':yW}{c:Nat}(h:yD w wr) (k:Mv wr w' (fun j=>j=c)) (hc:w§≤c):yD w w' :=
 ⟨k.os.trans h.os,k.tape.trans h.tape,k.output.trans h.output,Nat.le_trans h.size k.size,fun j hj=>(k.block j (Nat.lt_of_lt_of_le hj h.size) (by omega)).trans (h.block j hj)⟩
theorem Dec.r {w wr w':yW}{r:Qm}{n1 n2 n3:Nat}{l l':List RegM}{S2 S3:List yB}(h:Dec w wr r n1 n2 n3 l S2 S3) (k:Mv wr w' (fun j=>j=w§+2)) (hm:RgN w' (w§+2) (n1+1) (regL l')):Dec w w' r (n1+1) n2 n3 l' S2 S3 :=
 ⟨bel_mv h.bel k (by omega),(k.block _ (zJ h.box).1 (by omega)).trans h.box,(k.block _ (zJ h.res).1 (by omega)).trans h.res,(k.block _ (zJ h.kn).1 (by omega)).trans h.kn,hm,h.m2.mv k (by omega),h.m3.mv k (by omega)⟩
theorem Dec.s {w wr w':yW}{r:Qm}{n1 n2 n3:Nat}{l:List RegM}{S2 S3 S':List yB}(h:Dec w wr r n1 n2 n3 l S2 S3) (k:Mv wr w' (fun j=>j=w§+3)) (hm:NmN w' (w§+3) (n2+1) S'):Dec w w' r n1 (n2+1) n3 l S' S3 :=
 ⟨bel_mv h.bel k (by omega),(k.block _ (zJ h.box).1 (by omega)).trans h.box,(k.block _ (zJ h.res).1 (by omega)).trans h.res,(k.block _ (zJ h.kn).1 (by omega)).trans h.kn,h.m1.mv k (by omega),hm,h.m3.mv k (by omega)⟩
theorem Dec.t {w wr w':yW}{r:Qm}{n1 n2 n3:Nat}{l:List RegM}{S2 S3 S':List yB}(h:Dec w wr r n1 n2 n3 l S2 S3) (k:Mv wr w' (fun j=>j=w§+4)) (hm:NmN w' (w§+4) (n3+1) S'):Dec w w' r n1 n2 (n3+1) l S2 S' :=
 ⟨bel_mv h.bel k (by omega),(k.block _ (zJ h.box).1 (by omega)).trans h.box,(k.block _ (zJ h.res).1 (by omega)).trans h.res,(k.block _ (zJ h.kn).1 (by omega)).trans h.kn,h.m1.mv k (by omega),h.m2.mv k (by omega),hm⟩
theorem Ke:(Tryz.prog.info? 87).map (·.size)=some 3:=by kernel_rfl
def slN (d:Qw):yB × Int:=(d.x,d.p)
def stN (d:Qj):yB × Int:=(d.x,d.p)
def decE (S:Qm):Option (Int × Int):=match JT [] S.rs with
 | some e=>some e
 | none=>match dNms [] (S.ss.map slN) with
  | some e=>some e
  | none=>dNms [] (S.ts.map stN)
def OutK (w:yW) (S:Qm) (e:Ending) (w':yW):Prop :=
 (∃ p no c,decE S=some (p,no)∧e=.returned (.tuple #[.agg zm,.iface 118 (zP c)])∧w§≤c∧FlAt w' c ZH p no∧yD w w') ∨
 (∃ b b2 b3,decE S=none∧e=.returned (.tuple #[.agg #[.map (some b),.map (some b2),.map (some b3)],.nilIface])∧Kn w' b b2 b3 (regL S.rs) (S.ss.map Qw.x) (S.ts.map Qj.x)∧yD w w')
end Go.Proofs.YtoogodlnnijikaaGreatDoor
