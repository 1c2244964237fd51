import Derived.Test.YtfbjofnaghjmeaaGreatDoorA0
import Derived.Test.YtfbjofnaghjmeaaGreatDoorA24
import Derived.WalkMore
namespace Go.Proofs.YtfbjofnaghjmeaaGreatDoor
set_option maxHeartbeats 16000000
set_option maxRecDepth 100000
open Go.RowKit Go.Maps
set_option linter.unusedVariables false
set_option linter.unusedSimpArgs false
def psE (L:yB→Option Int):List (Nd × Int)→Option (Int × Int)
 | []=>none
 | q :: qs=>match pcE L q with
  | some e=>some e
  | none=>psE L qs
def dosE (L:yB→Option Int) (S2 S3:List yB):Bool→List DoM→Option (Int × Int)
 | _,[]=>none
 | en,d :: ds=>if en then some (d.p,153) else if standB L S2 S3 d.k d.x then (match psE L (ptsL L d) with
  | some e=>some e
  | none=>dosE L S2 S3 (d.k == 5 || d.k == 6) ds) else some (d.p,151)
theorem psE_none {L:yB→Option Int}{q:Nd × Int}{qs:List (Nd × Int)}(h:pcE L q=none):psE L (q :: qs)=psE L qs:=by simp only [psE,h]
theorem psE_some {L:yB→Option Int}{q:Nd × Int}{qs:List (Nd × Int)}{e:Int × Int}(h:pcE L q=some e):psE L (q :: qs)=some e:=by simp only [psE,h]
theorem dosE_end (L:yB→Option Int) (S2 S3:List yB) (d:DoM) (ds:List DoM):dosE L S2 S3 true (d :: ds)=some (d.p,153):=by simp [dosE]
theorem dosE_not {L:yB→Option Int}{S2 S3:List yB}{d:DoM}(h:standB L S2 S3 d.k d.x=false) (ds:List DoM):dosE L S2 S3 false (d :: ds)=some (d.p,151):=by simp [dosE,h]
theorem dosE_some {L:yB→Option Int}{S2 S3:List yB}{d:DoM}{e:Int × Int}(h:standB L S2 S3 d.k d.x=true) (hp:psE L (ptsL L d)=some e) (ds:List DoM):dosE L S2 S3 false (d :: ds)=some e:=by simp [dosE,h,hp]
theorem dosE_next {L:yB→Option Int}{S2 S3:List yB}{d:DoM}(h:standB L S2 S3 d.k d.x=true) (hp:psE L (ptsL L d)=none) (ds:List DoM):dosE L S2 S3 false (d :: ds)=dosE L S2 S3 (d.k == 5 || d.k == 6) ds:=by simp [dosE,h,hp]
theorem pt_rng {w:yW}{b o:Nat}{q:Nd × Int}(h:∀ j,j < 9→w.cell? ⟨b,o+j,none⟩=(ptV q)[j]?):w.rangeAt b o (ptV q).toList:=fun j v hv=>by
 have hj:j < 9:=(List.getElem?_eq_some_iff.1 hv).1
 rw [h j hj,← hv]; simp
theorem checkDos_any (b b2 b3:Nat) (L:yB→Option Int) (S2 S3:List yB) (a:Option Addr) (c:Nat) (ds:List DoM) (w:yW) (hk:Kn w b b2 b3 L S2 S3) (hf:FTab w) (hg:Ety w) (hs:SlAt w 36 a c (ds.map DoM.vals)) (hd:∀ d ∈ ds,DoL w d∧∀ q ∈ ptsL L d,Lies w q.1∧OkT q.1) :
  Calls zG 149 #[.agg #[.map (some b),.map (some b2),.map (some b3)],.slice a ds.length c] w (OutC w (dosE L S2 S3 false ds)):=by
 have hb1:=below_new w (.cells #[.map (some b),.map (some b2),.map (some b3)] 172)
 have hn1:=heap_new w (.cells #[.map (some b),.map (some b2),.map (some b3)] 172)
 obtain⟨W1,e1⟩:∃ W,w.alloc (.cells #[.map (some b),.map (some b2),.map (some b3)] 172)=W:=⟨_,rfl⟩
 have E1:Hid (w.alloc (.cells #[.map (some b),.map (some b2),.map (some b3)] 172)=W1):=e1
 rw [e1] at hb1 hn1
 have HB1:Hid (yD w W1):=hb1
 have HK1:Hid (W1.heap[w§]? = (zC #[.map (some b),.map (some b2),.map (some b3)] 172)):=hn1
 have HH:Hid (Kn w b b2 b3 L S2 S3∧FTab w∧Ety w):=⟨hk,hf,hg⟩
 have HSL:Hid (SlAt w 36 a c (ds.map DoM.vals)):=hs
 have HDS:Hid (∀ d ∈ ds,DoL w d∧∀ q ∈ ptsL L d,Lies w q.1∧OkT q.1):=hd
 obtain⟨R,eR⟩:∃ R,dosE L S2 S3 false ds=R:=⟨_,rfl⟩
 have HR0:Hid (dosE L S2 S3 false ds=R):=eR
 rw [eR]
 clear hb1 hn1 hk hf hg hs hd e1 eR
 go_enter Tryz.func149,Tryz.ntmps149
 go_upto_region 1 with fail
 rw [E1.out]
 clear E1
 go_step3
 go_wp2_with fail
 go_step3
 go_wp2_with fail
 go_loopw [5,6,13] (fun f en t wr=>∃ (i:Nat) (E:Bool),i≤ds.length∧t=zI i∧en=.bool E∧f=.nilIface∧Hid (yD w wr)∧Hid (wr.heap[w§]? = (zC #[.map (some b),.map (some b2),.map (some b3)] 172))∧Hid (R=dosE L S2 S3 E (ds.drop i))) (fun _ _ t _=>ds.length - (intOf t).toNat)
 case atStart=>exact⟨0,false,by omega,rfl,rfl,rfl,HB1,HK1,HR0.out.symm⟩
 case round =>
  obtain⟨i,E,hi,rfl,rfl,rfl,HBR,HBO,HR⟩:=hrel
  by_cases hlt:i < ds.length
  ·have hlt':(i:Int) < (ds.length:Int):=by omega
   have hmx:(i:Int)+1≤9223372036854775807:=by have h1:=HSL.out.1; have h2:=HSL.out.2.1; rw [List.length_map] at h1; omega
   obtain⟨bb,o,ea,hat⟩:=(HSL.out.on (mapz DoM.sz _) HBR.out).2.2 i (by rw [List.length_map]; exact hlt)
   simp only [List.getElem_map] at hat
   have HMEM:Hid (ds[i] ∈ ds):=List.getElem_mem hlt
   have HC:Hid (R=dosE L S2 S3 E (ds[i] :: ds.drop (i+1))):=by show _=_; rw [HR.out,List.drop_eq_getElem_cons hlt]
   obtain⟨d,ed⟩:∃ d,ds[i]=d:=⟨_,rfl⟩
   rw [ed] at hat HC HMEM
   have HRG:Hid (wr.rangeAt bb (o+i * 36) d.vals.toList):=fun j v hv=>by
    have hj:j < 36:=(List.getElem?_eq_some_iff.1 hv).1
    rw [hat j hj,← hv]; simp
   have HZ:Hid ((wr.alloc (.cells #[zU 0,zU 0,yQ,zU 0,zU 0,zU 0,zI 0,zU 0,yQ,.slice none 0 0,zI 0,zU 0,zU 0,zU 0,zI 0,zU 0,yQ,.slice none 0 0,zI 0,zU 0,zU 0,zU 0,zI 0,zU 0,yQ,.slice none 0 0,zI 0,zU 0,zU 0,zU 0,zI 0,zU 0,yQ,.slice none 0 0,zI 0,zI 0] 121)).heap[wr§]? = (zC #[zU 0,zU 0,yQ,zU 0,zU 0,zU 0,zI 0,zU 0,yQ,.slice none 0 0,zI 0,zU 0,zU 0,zU 0,zI 0,zU 0,yQ,.slice none 0 0,zI 0,zU 0,zU 0,zU 0,zI 0,zU 0,yQ,.slice none 0 0,zI 0,zU 0,zU 0,zU 0,zI 0,zU 0,yQ,.slice none 0 0,zI 0,zI 0] 121)):=heap_new _ _
   have hbx:yD wr ((wr.alloc (.cells #[zU 0,zU 0,yQ,zU 0,zU 0,zU 0,zI 0,zU 0,yQ,.slice none 0 0,zI 0,zU 0,zU 0,zU 0,zI 0,zU 0,yQ,.slice none 0 0,zI 0,zU 0,zU 0,zU 0,zI 0,zU 0,yQ,.slice none 0 0,zI 0,zU 0,zU 0,zU 0,zI 0,zU 0,yQ,.slice none 0 0,zI 0,zI 0] 121)).setRow wr§ d.vals):=below_row (below_new _ _) (Nat.le_refl _) _
   have HBX:Hid (yD w ((wr.alloc (.cells #[zU 0,zU 0,yQ,zU 0,zU 0,zU 0,zI 0,zU 0,yQ,.slice none 0 0,zI 0,zU 0,zU 0,zU 0,zI 0,zU 0,yQ,.slice none 0 0,zI 0,zU 0,zU 0,zU 0,zI 0,zU 0,yQ,.slice none 0 0,zI 0,zU 0,zU 0,zU 0,zI 0,zU 0,yQ,.slice none 0 0,zI 0,zI 0] 121)).setRow wr§ d.vals)):=below2 HBR.out hbx
   have HBK:Hid (((wr.alloc (.cells #[zU 0,zU 0,yQ,zU 0,zU 0,zU 0,zI 0,zU 0,yQ,.slice none 0 0,zI 0,zU 0,zU 0,zU 0,zI 0,zU 0,yQ,.slice none 0 0,zI 0,zU 0,zU 0,zU 0,zI 0,zU 0,yQ,.slice none 0 0,zI 0,zU 0,zU 0,zU 0,zI 0,zU 0,yQ,.slice none 0 0,zI 0,zI 0] 121)).setRow wr§ d.vals).heap[w§]? = (zC #[.map (some b),.map (some b2),.map (some b3)] 172)):=(hbx.block _ (zJ HBO.out).1).trans HBO.out
   have HNX:Hid (((wr.alloc (.cells #[zU 0,zU 0,yQ,zU 0,zU 0,zU 0,zI 0,zU 0,yQ,.slice none 0 0,zI 0,zU 0,zU 0,zU 0,zI 0,zU 0,yQ,.slice none 0 0,zI 0,zU 0,zU 0,zU 0,zI 0,zU 0,yQ,.slice none 0 0,zI 0,zU 0,zU 0,zU 0,zI 0,zU 0,yQ,.slice none 0 0,zI 0,zI 0] 121)).setRow wr§ d.vals).heap[wr§]? = (zC d.vals 121)):=setRow_heap _ _ _ _ _ _ HZ.out
   subst ea
   clear hat ed hbx HR HBR HBO
   go_upto_region 6 with (first | (refine wpList_load_mid rfl 121 (.tmp 15) rfl bb (o+i * 36) rfl d.vals.toList _ HRG.out Tryz.underlying121 rfl (by show _=some 36; exact size110') ?_; rw [Array.toArray_toList]) | (refine wpList_store_row rfl 121 (.tmp 8) (.tmp 16) rfl wr§ d.vals rfl rfl 121 #[zU 0,zU 0,yQ,zU 0,zU 0,zU 0,zI 0,zU 0,yQ,.slice none 0 0,zI 0,zU 0,zU 0,zU 0,zI 0,zU 0,yQ,.slice none 0 0,zI 0,zU 0,zU 0,zU 0,zI 0,zU 0,yQ,.slice none 0 0,zI 0,zU 0,zU 0,zU 0,zI 0,zU 0,yQ,.slice none 0 0,zI 0,zI 0] HZ.out size110' rfl (all36 ..) ?_))
   generalize hWX:World.setRow _ _ _=WX
   rw [hWX] at HBX HNX HBK
   clear hWX HZ HRG
   have HX:Hid (d.x.size≤maxLen):=by have h1:=(HDS.out d HMEM.out).1.2.2.2.2.2.2.2; unfold SzX at h1; show _≤_; unfold maxLen; omega
   cases E with
   | true =>
    have HD:Hid (R=some (d.p,153)):=HC.out.trans (dosE_end ..)
    have c35:WX.cell? wr§¢35=some (zI d.p):=cell_of HNX.out 35
    go_wp2_with fail
    refine (wrong_any _ _ _).mono ?_
    rintro e w9 ⟨rfl,hf9,hb9⟩
    have HB9:Hid (yD w w9∧Er w9 (.iface 184 (zP WX§)) 153 d.p):=⟨below2 HBX.out hb9,hf9.er⟩
    clear hf9 hb9
    go_wp2_with fail
    go_ret
    exact .inr ⟨_,_,_,_,HD.out,rfl,HB9.out.2,HB9.out.1⟩
   | false =>
    have k0:WX.cell? w§¢0=some (.map (some b)):=cell_of HBK.out 0
    have k1:WX.cell? w§¢1=some (.map (some b2)):=cell_of HBK.out 1
    have k2:WX.cell? w§¢2=some (.map (some b3)):=cell_of HBK.out 2
    have cS:Calls zG 183 #[.agg #[.map (some b),.map (some b2),.map (some b3)],.agg d.vals] WX fun e w'=>e=.returned (.bool (standB L S2 S3 d.k d.x))∧yD WX w':=stands_any b b2 b3 L S2 S3 d WX (HH.out.1.on HBX.out) HX.out
    go_wp2_with (refine wpList_load_row rfl 121 (.tmp 8) rfl wr§ rfl 121 d.vals (0,0) _ HNX.out Tryz.underlying121 rfl size110' ?_)
    refine cS.mono ?_
    rintro e w5 ⟨rfl,hb5⟩
    have HB5:Hid (yD w w5):=below2 HBX.out hb5
    have HK5:Hid (w5.heap[w§]? = (zC #[.map (some b),.map (some b2),.map (some b3)] 172)):=(hb5.block _ (zJ HBK.out).1).trans HBK.out
    have HN5:Hid (w5.heap[wr§]? = (zC d.vals 121)):=(hb5.block _ (zJ HNX.out).1).trans HNX.out
    clear cS hb5 k0 k1 k2 HBX HBK HNX
    cases hst:standB L S2 S3 d.k d.x with
    | false =>
     have HD:Hid (R=some (d.p,151)):=HC.out.trans (dosE_not hst _)
     have c35:w5.cell? wr§¢35=some (zI d.p):=cell_of HN5.out 35
     clear hst
     go_wp2_with fail
     refine (wrong_any _ _ _).mono ?_
     rintro e w9 ⟨rfl,hf9,hb9⟩
     have HB9:Hid (yD w w9∧Er w9 (.iface 184 (zP w5§)) 151 d.p):=⟨below2 HB5.out hb9,hf9.er⟩
     clear hf9 hb9
     go_wp2_with fail
     go_ret
     exact .inr ⟨_,_,_,_,HD.out,rfl,HB9.out.2,HB9.out.1⟩
    | true =>
     have k0:w5.cell? w§¢0=some (.map (some b)):=cell_of HK5.out 0
     have k1:w5.cell? w§¢1=some (.map (some b2)):=cell_of HK5.out 1
     have k2:w5.cell? w§¢2=some (.map (some b3)):=cell_of HK5.out 2
     have cP:Calls zG 184 #[.agg #[.map (some b),.map (some b2),.map (some b3)],.agg d.vals] w5 fun e w'=>∃ a c,e=.returned (.slice a (ptsL L d).length c)∧SlAt w' 9 a c ((ptsL L d).map ptV)∧yD w5 w':=parts_any b b2 b3 L d w5 (HH.out.1.on HB5.out).r HX.out
     have HST:Hid (standB L S2 S3 d.k d.x=true):=hst
     clear hst
     go_wp2_with (refine wpList_load_row rfl 121 (.tmp 8) rfl wr§ rfl 121 d.vals (0,0) _ HN5.out Tryz.underlying121 rfl size110' ?_)
     refine cP.mono ?_
     rintro e w6 ⟨pa,pc,rfl,hsl,hb6⟩
     obtain⟨ps,eps⟩:∃ ps,ptsL L d=ps:=⟨_,rfl⟩
     have HPS:Hid (ptsL L d=ps):=eps
     have HQ:Hid (∀ q ∈ ps,Lies w q.1∧OkT q.1):=by show ∀ q ∈ ps,_; rw [← eps]; exact (HDS.out d HMEM.out).2
     rw [eps] at hsl ⊢
     have HSP:Hid (SlAt w6 9 pa pc (ps.map ptV)):=hsl
     have HB6:Hid (yD w w6):=below2 HB5.out hb6
     have HK6:Hid (w6.heap[w§]? = (zC #[.map (some b),.map (some b2),.map (some b3)] 172)):=(hb6.block _ (zJ HK5.out).1).trans HK5.out
     have HN6:Hid (w6.heap[wr§]? = (zC d.vals 121)):=(hb6.block _ (zJ HN5.out).1).trans HN5.out
     clear cP hb6 hsl k0 k1 k2 HB5 HK5 HN5 eps
     generalize wr§=M1 at HN6 ⊢
     go_wp2_with fail
     go_loopw [5,34] (fun f t wr=>∃ j:Nat,j≤ps.length∧t=zI j∧f=.nilIface∧Hid (yD w6 wr)∧Hid (psE L ps=psE L (ps.drop j))) (fun _ t _=>ps.length - (intOf t).toNat)
     case atStart=>exact⟨0,by omega,rfl,rfl,Below.refl _ _,rfl⟩
     case round =>
      obtain⟨j,hj,rfl,rfl,HBQ,HRQ⟩:=hrel
      by_cases hjl:j < ps.length
      ·have hjl':(j:Int) < (ps.length:Int):=by omega
       have hjx:(j:Int)+1≤9223372036854775807:=by have h1:=HSP.out.1; have h2:=HSP.out.2.1; rw [List.length_map] at h1; omega
       obtain⟨b7,o7,ea7,hat7⟩:=(HSP.out.on (mapz ptV_sz _) HBQ.out).2.2 j (by rw [List.length_map]; exact hjl)
       simp only [List.getElem_map] at hat7
       have HMQ:Hid (ps[j] ∈ ps):=List.getElem_mem hjl
       have HCQ:Hid (psE L ps=psE L (ps[j] :: ps.drop (j+1))):=by show _=_; rw [HRQ.out,List.drop_eq_getElem_cons hjl]
       obtain⟨q,eq⟩:∃ q,ps[j]=q:=⟨_,rfl⟩
       rw [eq] at hat7 HCQ HMQ
       have HRG7:Hid (wr.rangeAt b7 (o7+j * 9) (ptV q).toList):=pt_rng hat7
       have HZ7:Hid ((wr.alloc (.cells zm 213)).heap[wr§]? = (zC zm 213)):=heap_new _ _
       have hbx7:yD wr ((wr.alloc (.cells zm 213)).setRow wr§ (ptV q)):=below_row (below_new _ _) (Nat.le_refl _) _
       have HBX7:Hid (yD w6 ((wr.alloc (.cells zm 213)).setRow wr§ (ptV q))):=below2 HBQ.out hbx7
       have HNX7:Hid (((wr.alloc (.cells zm 213)).setRow wr§ (ptV q)).heap[wr§]? = (zC (ptV q) 213)):=setRow_heap _ _ _ _ _ _ HZ7.out
       subst ea7
       clear hat7 eq hbx7 HRQ HBQ
       go_upto_region 13 with (first | (refine wpList_load_mid rfl 213 (.tmp 36) rfl b7 (o7+j * 9) rfl (ptV q).toList _ HRG7.out Tryz.underlying213 rfl (by show _=some 9; exact size263) ?_; rw [Array.toArray_toList]) | (refine wpList_store_row rfl 213 (.tmp 10) (.tmp 37) rfl wr§ (ptV q) rfl rfl 213 zm HZ7.out size263 rfl (all9 _) ?_))
       generalize hWQ:World.setRow _ _ _=WQ
       rw [hWQ] at HBX7 HNX7
       clear hWQ HZ7 HRG7
       have hwr:=below2 HB6.out HBX7.out
       have hkq:=(HBX7.out.block _ (zJ HK6.out).1).trans HK6.out
       have k0:WQ.cell? w§¢0=some (.map (some b)):=cell_of hkq 0
       have k1:WQ.cell? w§¢1=some (.map (some b2)):=cell_of hkq 1
       have k2:WQ.cell? w§¢2=some (.map (some b3)):=cell_of hkq 2
       have cC:Calls zG 148 #[.agg #[.map (some b),.map (some b2),.map (some b3)],.agg (ptV q)] WQ (OutC WQ (pcE L q)):=checkPart_any b b2 b3 L q WQ (HH.out.1.on hwr).r (HH.out.2.1.on hwr) ((HQ.out q HMQ.out).1.on hwr) (HQ.out q HMQ.out).2 (HH.out.2.2.on hwr)
       clear hwr hkq
       go_wp2_with (refine wpList_load_row rfl 213 (.tmp 10) rfl wr§ rfl 213 (ptV q) (0,0) _ HNX7.out Tryz.underlying213 rfl size263 ?_)
       refine cC.mono ?_
       rintro e w8 (⟨hn,rfl,hb8⟩ | ⟨p,no,T,v,hn,rfl,her,hb8⟩)
       ·have HB8:Hid (yD w6 w8):=below2 HBX7.out hb8
        have HN8:Hid (psE L ps=psE L (ps.drop (j+1))):=HCQ.out.trans (psE_none hn)
        clear cC hb8 hn k0 k1 k2
        go_wp2_with fail
        exact⟨⟨j+1,hjl,rfl,rfl,HB8,HN8⟩,by simp only [intOf]; omega⟩
       ·have HB8:Hid (yD w w8∧Er w8 (.iface T v) no p):=⟨below2 HB6.out (below2 HBX7.out hb8),her⟩
        have HD:Hid (R=some (p,no)):=HC.out.trans (dosE_some HST.out (by rw [HPS.out]; exact HCQ.out.trans (psE_some hn)) _)
        clear cC hb8 hn her k0 k1 k2
        go_wp2_with fail
        go_ret
        exact .inr ⟨p,no,T,v,HD.out,rfl,HB8.out.2,HB8.out.1⟩
      ·obtain rfl:j=ps.length:=by omega
       have hnot:¬ (ps.length:Int) < (ps.length:Int):=by omega
       have HN0:Hid (R=dosE L S2 S3 (d.k == 5 || d.k == 6) (ds.drop (i+1))):=HC.out.trans (dosE_next HST.out (by rw [HPS.out,HRQ.out,List.drop_length]; rfl) _)
       have HBW:Hid (yD w wr):=below2 HB6.out HBQ.out
       have HKW:Hid (wr.heap[w§]? = (zC #[.map (some b),.map (some b2),.map (some b3)] 172)):=(HBQ.out.block _ (zJ HK6.out).1).trans HK6.out
       have c0:wr.cell? M1¢0=some (zU d.k):=cell_of ((HBQ.out.block _ (zJ HN6.out).1).trans HN6.out) 0
       clear HRQ HBQ
       cases h5:(d.k == 5) with
       | true =>
        rw [h5] at HN0
        go_wp2_with fail
        exact⟨⟨i+1,true,hlt,rfl,rfl,rfl,HBW,HKW,HN0⟩,by simp only [intOf]; omega⟩
       | false =>
        cases h6:(d.k == 6) with
        | true =>
         rw [h5,h6] at HN0
         go_wp2_with fail
         exact⟨⟨i+1,true,hlt,rfl,rfl,rfl,HBW,HKW,HN0⟩,by simp only [intOf]; omega⟩
        | false =>
         rw [h5,h6] at HN0
         go_wp2_with fail
         exact⟨⟨i+1,false,hlt,rfl,rfl,rfl,HBW,HKW,HN0⟩,by simp only [intOf]; omega⟩
  ·obtain rfl:i=ds.length:=by omega
   have hnot:¬ (ds.length:Int) < (ds.length:Int):=by omega
   have HD:Hid (R=none):=by show _=_; rw [HR.out,List.drop_length]; cases E <;> rfl
   clear HR
   go_wp2_with fail
   go_ret
   exact .inl ⟨HD.out,rfl,HBR.out⟩
theorem RgN.mv {w w':yW}{b n:Nat}{L:yB→Option Int}{F:Nat→Prop}(h:RgN w b n L) (k:Mv w w' F) (hF:¬ F b):RgN w' b n L:=by
 obtain⟨D,ho,hL⟩:=h
 have hlt:=ho.lt
 obtain⟨es,clock,hb,F,hs,hD⟩:=ho
 exact⟨D,⟨es,clock,(k.block b hlt hF).trans hb,F,hs,hD⟩,hL⟩
theorem NmN.mv {w w':yW}{b n:Nat}{S:List yB}{F:Nat→Prop}(h:NmN w b n S) (k:Mv w w' F) (hF:¬ F b):NmN w' b n S:=by
 obtain⟨D,ho,hL⟩:=h
 have hlt:=ho.lt
 obtain⟨es,clock,hb,F,hs,hD⟩:=ho
 exact⟨D,⟨es,clock,(k.block b hlt hF).trans hb,F,hs,hD⟩,hL⟩
def dRegs (l:List RegM):List RegM→Option (Int × Int)
 | []=>none
 | r :: rs=>if (regL l r.x).isSome then some (r.p,150) else if tyV (tyR (regL l) r.m)=r.t then dRegs (l ++ [r]) rs else some (r.p,152)
def dNms (S:List yB):List (yB × Int)→Option (Int × Int)
 | []=>none
 | x :: xs=>if inS S x.1 then some (x.2,150) else dNms (S ++ [x.1]) xs
structure Dec (w wr:yW) (r:StratM) (n1 n2 n3:Nat) (l:List RegM) (S2 S3:List yB):Prop where
 bel:yD w wr
 box:wr.heap[w§]? = (zC r.vals 26)
 res:wr.heap[w§+1]? = (zC zl 172)
 kn:wr.heap[w§+5]? = (zC #[.map (some (w§+2)),.map (some (w§+3)),.map (some (w§+4))] 172)
 m1:RgN wr (w§+2) n1 (regL l)
 m2:NmN wr (w§+3) n2 S2
 m3:NmN wr (w§+4) n3 S3
theorem Dec.on {w wr w':yW}{r:StratM}{n1 n2 n3:Nat}{l:List RegM}{S2 S3:List yB}(h:Dec w wr r n1 n2 n3 l S2 S3) (k:yD wr w'):Dec w w' r n1 n2 n3 l S2 S3 :=
 ⟨below2 h.bel k,(k.block _ (zJ h.box).1).trans h.box,(k.block _ (zJ h.res).1).trans h.res,(k.block _ (zJ h.kn).1).trans h.kn,h.m1.on k,h.m2.on k,h.m3.on k⟩
theorem bel_mv {w wr w':yW}{c:Nat}(h:yD w wr) (k:Mv wr w' (fun j=>j=c)) (hc:w§≤c):yD w w' :=
 ⟨k.os.trans h.os,k.tape.trans h.tape,k.output.trans h.output,Nat.le_trans h.size k.size,fun j hj=>(k.block j (Nat.lt_of_lt_of_le hj h.size) (by omega)).trans (h.block j hj)⟩
theorem Dec.r {w wr w':yW}{r:StratM}{n1 n2 n3:Nat}{l l':List RegM}{S2 S3:List yB}(h:Dec w wr r n1 n2 n3 l S2 S3) (k:Mv wr w' (fun j=>j=w§+2)) (hm:RgN w' (w§+2) (n1+1) (regL l')):Dec w w' r (n1+1) n2 n3 l' S2 S3 :=
 ⟨bel_mv h.bel k (by omega),(k.block _ (zJ h.box).1 (by omega)).trans h.box,(k.block _ (zJ h.res).1 (by omega)).trans h.res,(k.block _ (zJ h.kn).1 (by omega)).trans h.kn,hm,h.m2.mv k (by omega),h.m3.mv k (by omega)⟩
theorem Dec.s {w wr w':yW}{r:StratM}{n1 n2 n3:Nat}{l:List RegM}{S2 S3 S':List yB}(h:Dec w wr r n1 n2 n3 l S2 S3) (k:Mv wr w' (fun j=>j=w§+3)) (hm:NmN w' (w§+3) (n2+1) S'):Dec w w' r n1 (n2+1) n3 l S' S3 :=
 ⟨bel_mv h.bel k (by omega),(k.block _ (zJ h.box).1 (by omega)).trans h.box,(k.block _ (zJ h.res).1 (by omega)).trans h.res,(k.block _ (zJ h.kn).1 (by omega)).trans h.kn,h.m1.mv k (by omega),hm,h.m3.mv k (by omega)⟩
theorem Dec.t {w wr w':yW}{r:StratM}{n1 n2 n3:Nat}{l:List RegM}{S2 S3 S':List yB}(h:Dec w wr r n1 n2 n3 l S2 S3) (k:Mv wr w' (fun j=>j=w§+4)) (hm:NmN w' (w§+4) (n3+1) S'):Dec w w' r n1 n2 (n3+1) l S2 S' :=
 ⟨bel_mv h.bel k (by omega),(k.block _ (zJ h.box).1 (by omega)).trans h.box,(k.block _ (zJ h.res).1 (by omega)).trans h.res,(k.block _ (zJ h.kn).1 (by omega)).trans h.kn,h.m1.mv k (by omega),h.m2.mv k (by omega),hm⟩
theorem size183:(Tryz.prog.info? 172).map (·.size)=some 3:=by kernel_rfl
def slN (d:SlotM):yB × Int:=(d.x,d.p)
def stN (d:StateM):yB × Int:=(d.x,d.p)
def decE (S:StratM):Option (Int × Int):=match dRegs [] S.rs with
 | some e=>some e
 | none=>match dNms [] (S.ss.map slN) with
  | some e=>some e
  | none=>dNms [] (S.ts.map stN)
def OutK (w:yW) (S:StratM) (e:Ending) (w':yW):Prop :=
 (∃ p no c,decE S=some (p,no)∧e=.returned (.tuple #[.agg zl,.iface 184 (zP c)])∧w§≤c∧FlAt w' c Z6 p no∧yD w w') ∨
 (∃ b b2 b3,decE S=none∧e=.returned (.tuple #[.agg #[.map (some b),.map (some b2),.map (some b3)],.nilIface])∧Kn w' b b2 b3 (regL S.rs) (S.ss.map SlotM.x) (S.ts.map StateM.x)∧yD w w')
theorem Dec.start (w:yW) (r:StratM):Dec w ((((((w.alloc (.cells r.vals 26)).alloc (.cells zl 172)).alloc (.map #[] 0)).alloc (.map #[] 0)).alloc (.map #[] 0)).alloc (.cells #[.map (some (w§+2)),.map (some (w§+3)),.map (some (w§+4))] 172)) r 0 0 0 [] [] []:=by
 have b1:=below_new w (.cells r.vals 26)
 have n1:=heap_new w (.cells r.vals 26)
 have s1:=size_alloc w (.cells r.vals 26)
 obtain⟨W1,e1⟩:∃ W,w.alloc (.cells r.vals 26)=W:=⟨_,rfl⟩
 rw [e1] at b1 n1 s1 ⊢
 have b2:=below_new W1 (.cells zl 172)
 have n2:=heap_new W1 (.cells zl 172)
 have s2:=size_alloc W1 (.cells zl 172)
 obtain⟨W2,e2⟩:∃ W,W1.alloc (.cells zl 172)=W:=⟨_,rfl⟩
 rw [e2] at b2 n2 s2 ⊢
 have b3:=below_new W2 (.map #[] 0)
 have n3:=RgN.made W2
 have s3:=size_alloc W2 (.map #[] 0)
 obtain⟨W3,e3⟩:∃ W,W2.alloc (.map #[] 0)=W:=⟨_,rfl⟩
 rw [e3] at b3 n3 s3 ⊢
 have b4:=below_new W3 (.map #[] 0)
 have n4:=NmN.made W3
 have s4:=size_alloc W3 (.map #[] 0)
 obtain⟨W4,e4⟩:∃ W,W3.alloc (.map #[] 0)=W:=⟨_,rfl⟩
 rw [e4] at b4 n4 s4 ⊢
 have b5:=below_new W4 (.map #[] 0)
 have n5:=NmN.made W4
 have s5:=size_alloc W4 (.map #[] 0)
 obtain⟨W5,e5⟩:∃ W,W4.alloc (.map #[] 0)=W:=⟨_,rfl⟩
 rw [e5] at b5 n5 s5 ⊢
 have b6:=below_new W5 (.cells #[.map (some (w§+2)),.map (some (w§+3)),.map (some (w§+4))] 172)
 have n6:=heap_new W5 (.cells #[.map (some (w§+2)),.map (some (w§+3)),.map (some (w§+4))] 172)
 obtain⟨W6,e6⟩:∃ W,W5.alloc (.cells #[.map (some (w§+2)),.map (some (w§+3)),.map (some (w§+4))] 172)=W:=⟨_,rfl⟩
 rw [e6] at b6 n6 ⊢
 have q56:=b6
 have q46:=below2 b5 q56
 have q36:=below2 b4 q46
 have q26:=below2 b3 q36
 have q16:=below2 b2 q26
 rw [show W5§=w§+5 by omega] at n6
 rw [show W4§=w§+4 by omega] at n5
 rw [show W3§=w§+3 by omega] at n4
 rw [show W2§=w§+2 by omega] at n3
 rw [show W1§=w§+1 by omega] at n2
 exact⟨below2 b1 q16,(q16.block _ (zJ n1).1).trans n1,(q26.block _ (zJ n2).1).trans n2,n6,n3.on q36,n4.on q46,n5.on q56⟩
theorem dNms_yes {S:List yB}{x:yB × Int}{xs:List (yB × Int)}(h:inS S x.1=true):dNms S (x :: xs)=some (x.2,150):=by simp [dNms,h]
theorem dNms_no {S:List yB}{x:yB × Int}{xs:List (yB × Int)}(h:inS S x.1=false):dNms S (x :: xs)=dNms (S ++ [x.1]) xs:=by simp [dNms,h]
theorem mv_row (V:yW) (R:Nat) (cs:Array Value):Mv V (V.setRow R cs) (fun k=>k=R):=by
 exact⟨rfl,rfl,rfl,by unfold World.setRow; simp,fun k _ hk=>setRow_oth V R cs hk⟩
theorem declared_any (r:StratM) (w:yW) (hl:StratL w r) (ht:FTab w) (ho:∀ d ∈ r.rs,OkT d.m):Calls zG 90 #[.agg r.vals] w (OutK w r):=by
 have hmk:∀ (t:TypeId) (w:yW),Sem.run Tryz.prog (Instr.makeMap t none) w=.ok (.map (some w§)) (w.alloc (.map #[] 0)):=fun t w=>rfl
 have hD:=Dec.start w r
 obtain⟨W,eW⟩:∃ W,((((((w.alloc (.cells r.vals 26)).alloc (.cells zl 172)).alloc (.map #[] 0)).alloc (.map #[] 0)).alloc (.map #[] 0)).alloc (.cells #[.map (some (w§+2)),.map (some (w§+3)),.map (some (w§+4))] 172))=W:=⟨_,rfl⟩
 have HW:Hid (((((((w.alloc (.cells r.vals 26)).alloc (.cells zl 172)).alloc (.map #[] 0)).alloc (.map #[] 0)).alloc (.map #[] 0)).alloc (.cells #[.map (some (w§+2)),.map (some (w§+3)),.map (some (w§+4))] 172))=W):=eW
 rw [eW] at hD
 have HD0:Hid (Dec w W r 0 0 0 [] [] []):=hD
 have HH:Hid (StratL w r∧FTab w∧∀ d ∈ r.rs,OkT d.m):=⟨hl,ht,ho⟩
 clear hD eW hl ht ho
 go_enter Tryz.func90,Tryz.ntmps90
 go_upto_region 2 with fail
 rw [show w§+1+1=w§+2 from rfl,show w§+2+1=w§+3 from rfl,show w§+3+1=w§+4 from rfl,show w§+4+1=w§+5 from rfl,HW.out]
 clear HW
 have HDQ:Hid (Dec w W r 0 0 0 [] [] []):=HD0.out
 obtain⟨ds,eds⟩:∃ l,r.rs=l:=⟨_,rfl⟩
 have HEds:Hid (r.rs=ds):=eds
 have HSL1:Hid (SlAt w 11 r.ra r.rc (ds.map RegM.vals)):=by have h1:=HH.out.1.1; rw [eds] at h1; exact h1
 obtain⟨ra1,era1⟩:∃ q,r.ra=q:=⟨_,rfl⟩
 have q1:W.cell? w§¢1=some (.slice ra1 ds.length r.rc):=by rw [← eds,← era1]; exact cell_of HDQ.out.box 1
 rw [era1] at HSL1
 clear eds era1
 go_wp2_with fail
 go_loopw [6,7,21] (fun t6 t7 t wr=>∃ i:Nat,i≤ds.length∧t=zI i∧Hid (Dec w wr r i 0 0 (ds.take i) [] [])∧Hid (dRegs [] ds=dRegs (ds.take i) (ds.drop i))) (fun t6 t7 t _=>ds.length - (intOf t).toNat)
 case atStart=>exact⟨0,by omega,rfl,HDQ.out,rfl⟩
 case round =>
  obtain⟨i,hi,rfl,HDR,HR⟩:=hrel
  by_cases hlt:i < ds.length
  ·have hlt':(i:Int) < (ds.length:Int):=by omega
   have hlen:ds.length≤9223372036854775807:=by have h1:=HSL1.out.1; have h2:=HSL1.out.2.1; rw [List.length_map] at h1; omega
   have hmx:(i:Int)+1≤9223372036854775807:=by omega
   have hn:i < maxLen:=by unfold maxLen; omega
   obtain⟨b,o,ea,hat⟩:=(HSL1.out.on (mapz RegM.sz _) HDR.out.bel).2.2 i (by rw [List.length_map]; exact hlt)
   simp only [List.getElem_map] at hat
   have HMEM:Hid (ds[i] ∈ ds):=List.getElem_mem hlt
   have HTK:Hid (ds.take (i+1)=ds.take i ++ [ds[i]]∧ds.drop i=ds[i] :: ds.drop (i+1)):=⟨by simp,List.drop_eq_getElem_cons hlt⟩
   obtain⟨d,ed⟩:∃ d,ds[i]=d:=⟨_,rfl⟩
   rw [ed] at hat HTK HMEM
   have HRG:Hid (wr.rangeAt b (o+i * 11) d.vals.toList):=fun j v hv=>by
    have hj:j < 11:=(List.getElem?_eq_some_iff.1 hv).1
    rw [hat j hj,← hv]; simp
   have HZ:Hid ((wr.alloc (.cells ze 102)).heap[wr§]? = (zC ze 102)):=heap_new _ _
   have hbx:yD wr ((wr.alloc (.cells ze 102)).setRow wr§ d.vals):=below_row (below_new _ _) (Nat.le_refl _) _
   have HNX:Hid (((wr.alloc (.cells ze 102)).setRow wr§ d.vals).heap[wr§]? = (zC d.vals 102)):=setRow_heap _ _ _ _ _ _ HZ.out
   have HDX:=HDR.out.on hbx
   obtain⟨A,eA⟩:∃ A,ra1=A:=⟨_,rfl⟩
   rw [eA] at ea ⊢
   subst ea
   clear hat ed hbx HDR hlen
   go_upto_region 5 with (first | (refine wpList_load_mid rfl 102 (.tmp 23) rfl b (o+i * 11) rfl d.vals.toList _ HRG.out Tryz.underlying102 rfl (by show _=some 11; exact size100') ?_; rw [Array.toArray_toList]) | (refine wpList_store_row rfl 102 (.tmp 6) (.tmp 24) rfl wr§ d.vals rfl rfl 102 ze HZ.out size100' rfl (all11 d) ?_))
   generalize hWX:World.setRow _ _ _=WX
   rw [hWX] at HNX HDX
   clear hWX HZ HRG
   have HDX:Hid (Dec _ _ _ _ _ _ _ _ _):=HDX
   have k0:WX.cell? ⟨w§+5,0,none⟩=some (.map (some (w§+2))):=cell_of HDX.out.kn 0
   have k1:WX.cell? ⟨w§+5,1,none⟩=some (.map (some (w§+3))):=cell_of HDX.out.kn 1
   have k2:WX.cell? ⟨w§+5,2,none⟩=some (.map (some (w§+4))):=cell_of HDX.out.kn 2
   have HSZ:Hid (w§+5 < WX§):=(zJ HDX.out.kn).1
   have cA:=addReg_any (w§+2) (w§+3) (w§+4) i (ds.take i) d WX HDX.out.m1 (HH.out.2.1.on HDX.out.bel) ((HH.out.1.2.1 d (by rw [HEds.out]; exact HMEM.out)).on HDX.out.bel) (HH.out.2.2 d (by rw [HEds.out]; exact HMEM.out)) hn
   go_wp2_with (refine wpList_load_row rfl 102 (.tmp 6) rfl wr§ rfl 102 d.vals (0,0) _ HNX.out Tryz.underlying102 rfl size100' ?_)
   refine cA.mono ?_
   rintro e w5 (⟨c,no,rfl,hle,hfl,hb5,hcase⟩ | ⟨rfl,h1,h2,hm5,hmv⟩)
   ·have HD5:=(HDX.out.on hb5)
    have HD5:Hid (Dec _ _ _ _ _ _ _ _ _):=HD5
    have HC:Hid (FlAt w5 c Z6 d.p no∧w§+5 < c):=⟨hfl,by have:=HSZ.out; omega⟩
    have HEE:Hid (decE r=some (d.p,no)):=by
     have h1:dRegs [] ds=some (d.p,no):=by
      rw [HR.out,HTK.out.2]
      rcases hcase with ⟨h1,rfl⟩ | ⟨h1,h2,rfl⟩
      ·simp [dRegs,h1]
      ·simp [dRegs,h1,h2]
     show decE r=_
     unfold decE
     rw [HEds.out,h1]
    clear cA hle hfl hb5 hcase k0 k1 k2
    go_wp2_with (refine wpList_store_row rfl 172 (.tmp 2) (.tmp 30) rfl (w§+1) zl rfl rfl 172 zl HD5.out.res size183 rfl (by simp [Value.oneCell']) ?_)
    exact bodyPost_ret (results_two (p:=2) (u:=3) (ty:=172) rfl _ _ (w§+1) 172 zl (0,0) _ rfl (setRow_heap _ _ _ _ _ _ HD5.out.res) Tryz.underlying172 rfl size183) rfl (.inl ⟨d.p,no,c,HEE.out,rfl,by have:=HC.out.2; omega,(setRow_oth _ _ _ (by have:=HC.out.2; omega)).trans HC.out.1,below_row HD5.out.bel (Nat.le_succ _) _⟩)
   ·have HD5:Hid (Dec w w5 r (i+1) 0 0 (ds.take (i+1)) [] []):=by have h5:=HDX.out.r hmv hm5; rw [← HTK.out.1] at h5; exact h5
    have HR5:Hid (dRegs [] ds=dRegs (ds.take (i+1)) (ds.drop (i+1))):=by show _=_; rw [HR.out,HTK.out.2,HTK.out.1]; simp [dRegs,h1,h2]
    clear cA h1 h2 hm5 hmv k0 k1 k2
    go_wp2_with fail
    exact⟨⟨i+1,hlt,rfl,HD5.out,HR5.out⟩,by simp only [intOf]; omega⟩
  ·obtain rfl:i=ds.length:=by omega
   have hnot:¬ (ds.length:Int) < (ds.length:Int):=by omega
   have HN1:Hid (dRegs [] ds=none):=by show _=_; rw [HR.out,List.drop_length]; rfl
   have HDQ2:Hid (Dec w wr r ds.length 0 0 ds [] []):=by have h1:=HDR.out; rw [List.take_length] at h1; exact h1
   clear HDR HR HDQ
   have HDQ:=HDQ2
   clear HDQ2
   obtain⟨es,ees⟩:∃ l,r.ss=l:=⟨_,rfl⟩
   have HEes:Hid (r.ss=es):=ees
   have HSL2:Hid (SlAt w 2 r.sa r.sc (es.map SlotM.vals)):=by have h1:=HH.out.1.2.2.1; rw [ees] at h1; exact h1
   obtain⟨ra2,era2⟩:∃ q,r.sa=q:=⟨_,rfl⟩
   have q2:wr.cell? w§¢2=some (.slice ra2 es.length r.sc):=by rw [← ees,← era2]; exact cell_of HDQ.out.box 2
   rw [era2] at HSL2
   clear ees era2
   go_wp2_with fail
   go_loopw [9,10,36] (fun t9 t10 t wr=>∃ i:Nat,i≤es.length∧t=zI i∧Hid (Dec w wr r ds.length i 0 ds ((es.take i).map SlotM.x) [])∧Hid (dNms [] (es.map slN)=dNms ((es.take i).map SlotM.x) ((es.drop i).map slN))) (fun t9 t10 t _=>es.length - (intOf t).toNat)
   case atStart=>exact⟨0,by omega,rfl,HDQ.out,rfl⟩
   case round =>
    obtain⟨i,hi,rfl,HDR,HR⟩:=hrel
    by_cases hlt:i < es.length
    ·have hlt':(i:Int) < (es.length:Int):=by omega
     have hlen:es.length≤9223372036854775807:=by have h1:=HSL2.out.1; have h2:=HSL2.out.2.1; rw [List.length_map] at h1; omega
     have hmx:(i:Int)+1≤9223372036854775807:=by omega
     have hn:i < maxLen:=by unfold maxLen; omega
     obtain⟨b,o,ea,hat⟩:=(HSL2.out.on (mapz SlotM.sz _) HDR.out.bel).2.2 i (by rw [List.length_map]; exact hlt)
     simp only [List.getElem_map] at hat
     have HMEM:Hid (es[i] ∈ es):=List.getElem_mem hlt
     have HTK:Hid (es.take (i+1)=es.take i ++ [es[i]]∧es.drop i=es[i] :: es.drop (i+1)):=⟨by simp,List.drop_eq_getElem_cons hlt⟩
     obtain⟨d,ed⟩:∃ d,es[i]=d:=⟨_,rfl⟩
     rw [ed] at hat HTK HMEM
     have HRG:Hid (wr.rangeAt b (o+i * 2) d.vals.toList):=fun j v hv=>by
      have hj:j < 2:=(List.getElem?_eq_some_iff.1 hv).1
      rw [hat j hj,← hv]; simp
     have HZ:Hid ((wr.alloc (.cells zw 129)).heap[wr§]? = (zC zw 129)):=heap_new _ _
     have hbx:yD wr ((wr.alloc (.cells zw 129)).setRow wr§ d.vals):=below_row (below_new _ _) (Nat.le_refl _) _
     have HNX:Hid (((wr.alloc (.cells zw 129)).setRow wr§ d.vals).heap[wr§]? = (zC d.vals 129)):=setRow_heap _ _ _ _ _ _ HZ.out
     have HDX:=HDR.out.on hbx
     obtain⟨A,eA⟩:∃ A,ra2=A:=⟨_,rfl⟩
     rw [eA] at ea ⊢
     subst ea
     clear hat ed hbx HDR hlen
     go_upto_region 12 with (first | (refine wpList_load_mid rfl 129 (.tmp 38) rfl b (o+i * 2) rfl d.vals.toList _ HRG.out Tryz.underlying129 rfl (by show _=some 2; exact size102') ?_; rw [Array.toArray_toList]) | (refine wpList_store_row rfl 129 (.tmp 9) (.tmp 39) rfl wr§ d.vals rfl rfl 129 zw HZ.out size102' rfl (all2 d) ?_))
     generalize hWX:World.setRow _ _ _=WX
     rw [hWX] at HNX HDX
     clear hWX HZ HRG
     have HDX:Hid (Dec _ _ _ _ _ _ _ _ _):=HDX
     have k0:WX.cell? ⟨w§+5,0,none⟩=some (.map (some (w§+2))):=cell_of HDX.out.kn 0
     have k1:WX.cell? ⟨w§+5,1,none⟩=some (.map (some (w§+3))):=cell_of HDX.out.kn 1
     have k2:WX.cell? ⟨w§+5,2,none⟩=some (.map (some (w§+4))):=cell_of HDX.out.kn 2
     have HSZ:Hid (w§+5 < WX§):=(zJ HDX.out.kn).1
     have hx:d.x.size≤maxLen:=by have h1:=(HH.out.1.2.2.2.1 d (by rw [HEes.out]; exact HMEM.out)).2; unfold SzX at h1; unfold maxLen; omega
     have x0:WX.cell? wr§¢0=some (.string d.x):=cell_of HNX.out 0
     have x1:WX.cell? wr§¢1=some (zI d.p):=cell_of HNX.out 1
     have cA:=add_any d.p HDX.out.m2 hx hn
     go_wp2_with fail
     refine cA.mono ?_
     rintro e w5 (⟨hin,c,rfl,hle,hfl,hb5⟩ | ⟨hin,rfl,hm5,hmv⟩)
     ·have HD5:=(HDX.out.on hb5)
      have HD5:Hid (Dec _ _ _ _ _ _ _ _ _):=HD5
      have HC:Hid (FlAt w5 c Z6 d.p 150∧w§+5 < c):=⟨hfl,by have:=HSZ.out; omega⟩
      have HEE:Hid (decE r=some (d.p,150)):=by
       have h1:dNms [] (es.map slN)=some (d.p,150):=by
        rw [HR.out,HTK.out.2]
        exact dNms_yes (x:=slN d) hin
       show decE r=_
       unfold decE
       rw [HEds.out,HN1.out,HEes.out,h1]
      clear cA hle hfl hb5 hin k0 k1 k2 x0 x1
      go_wp2_with (refine wpList_store_row rfl 172 (.tmp 2) (.tmp 49) rfl (w§+1) zl rfl rfl 172 zl HD5.out.res size183 rfl (by simp [Value.oneCell']) ?_)
      exact bodyPost_ret (results_two (p:=2) (u:=3) (ty:=172) rfl _ _ (w§+1) 172 zl (0,0) _ rfl (setRow_heap _ _ _ _ _ _ HD5.out.res) Tryz.underlying172 rfl size183) rfl (.inl ⟨d.p,150,c,HEE.out,rfl,by have:=HC.out.2; omega,(setRow_oth _ _ _ (by have:=HC.out.2; omega)).trans HC.out.1,below_row HD5.out.bel (Nat.le_succ _) _⟩)
     ·have HD5:Hid (Dec w w5 r ds.length (i+1) 0 ds ((es.take (i+1)).map SlotM.x) []):=by have h5:=HDX.out.s hmv hm5; rw [show (es.take i).map SlotM.x ++ [d.x]=(es.take (i+1)).map SlotM.x by rw [HTK.out.1]; simp] at h5; exact h5
      have HR5:Hid (dNms [] (es.map slN)=dNms ((es.take (i+1)).map SlotM.x) ((es.drop (i+1)).map slN)):=by show _=_; rw [HR.out,HTK.out.2,HTK.out.1,List.map_append]; exact dNms_no (x:=slN d) hin
      clear cA hin hm5 hmv k0 k1 k2 x0 x1
      go_wp2_with fail
      exact⟨⟨i+1,hlt,rfl,HD5.out,HR5.out⟩,by simp only [intOf]; omega⟩
    ·obtain rfl:i=es.length:=by omega
     have hnot:¬ (es.length:Int) < (es.length:Int):=by omega
     have HN2:Hid (dNms [] (es.map slN)=none):=by show _=_; rw [HR.out,List.drop_length]; rfl
     have HDQ2:Hid (Dec w wr r ds.length es.length 0 ds (es.map SlotM.x) []):=by have h1:=HDR.out; rw [List.take_length] at h1; exact h1
     clear HDR HR HDQ
     have HDQ:=HDQ2
     clear HDQ2
     obtain⟨fs,efs⟩:∃ l,r.ts=l:=⟨_,rfl⟩
     have HEfs:Hid (r.ts=fs):=efs
     have HSL3:Hid (SlAt w 3 r.ta r.tc (fs.map StateM.vals)):=by have h1:=HH.out.1.2.2.2.2.1; rw [efs] at h1; exact h1
     obtain⟨ra3,era3⟩:∃ q,r.ta=q:=⟨_,rfl⟩
     have q3:wr.cell? w§¢3=some (.slice ra3 fs.length r.tc):=by rw [← efs,← era3]; exact cell_of HDQ.out.box 3
     rw [era3] at HSL3
     clear efs era3
     go_wp2_with fail
     go_loopw [12,13,55] (fun t12 t13 t wr=>∃ i:Nat,i≤fs.length∧t=zI i∧Hid (Dec w wr r ds.length es.length i ds (es.map SlotM.x) ((fs.take i).map StateM.x))∧Hid (dNms [] (fs.map stN)=dNms ((fs.take i).map StateM.x) ((fs.drop i).map stN))) (fun t12 t13 t _=>fs.length - (intOf t).toNat)
     case atStart=>exact⟨0,by omega,rfl,HDQ.out,rfl⟩
     case round =>
      obtain⟨i,hi,rfl,HDR,HR⟩:=hrel
      by_cases hlt:i < fs.length
      ·have hlt':(i:Int) < (fs.length:Int):=by omega
       have hlen:fs.length≤9223372036854775807:=by have h1:=HSL3.out.1; have h2:=HSL3.out.2.1; rw [List.length_map] at h1; omega
       have hmx:(i:Int)+1≤9223372036854775807:=by omega
       have hn:i < maxLen:=by unfold maxLen; omega
       obtain⟨b,o,ea,hat⟩:=(HSL3.out.on (mapz StateM.sz _) HDR.out.bel).2.2 i (by rw [List.length_map]; exact hlt)
       simp only [List.getElem_map] at hat
       have HMEM:Hid (fs[i] ∈ fs):=List.getElem_mem hlt
       have HTK:Hid (fs.take (i+1)=fs.take i ++ [fs[i]]∧fs.drop i=fs[i] :: fs.drop (i+1)):=⟨by simp,List.drop_eq_getElem_cons hlt⟩
       obtain⟨d,ed⟩:∃ d,fs[i]=d:=⟨_,rfl⟩
       rw [ed] at hat HTK HMEM
       have HRG:Hid (wr.rangeAt b (o+i * 3) d.vals.toList):=fun j v hv=>by
        have hj:j < 3:=(List.getElem?_eq_some_iff.1 hv).1
        rw [hat j hj,← hv]; simp
       have HZ:Hid ((wr.alloc (.cells zk 69)).heap[wr§]? = (zC zk 69)):=heap_new _ _
       have hbx:yD wr ((wr.alloc (.cells zk 69)).setRow wr§ d.vals):=below_row (below_new _ _) (Nat.le_refl _) _
       have HNX:Hid (((wr.alloc (.cells zk 69)).setRow wr§ d.vals).heap[wr§]? = (zC d.vals 69)):=setRow_heap _ _ _ _ _ _ HZ.out
       have HDX:=HDR.out.on hbx
       obtain⟨A,eA⟩:∃ A,ra3=A:=⟨_,rfl⟩
       rw [eA] at ea ⊢
       subst ea
       clear hat ed hbx HDR hlen
       go_upto_region 19 with (first | (refine wpList_load_mid rfl 69 (.tmp 57) rfl b (o+i * 3) rfl d.vals.toList _ HRG.out Tryz.underlying69 rfl (by show _=some 3; exact size87') ?_; rw [Array.toArray_toList]) | (refine wpList_store_row rfl 69 (.tmp 12) (.tmp 58) rfl wr§ d.vals rfl rfl 69 zk HZ.out size87' rfl (all3' d) ?_))
       generalize hWX:World.setRow _ _ _=WX
       rw [hWX] at HNX HDX
       clear hWX HZ HRG
       have HDX:Hid (Dec _ _ _ _ _ _ _ _ _):=HDX
       have k0:WX.cell? ⟨w§+5,0,none⟩=some (.map (some (w§+2))):=cell_of HDX.out.kn 0
       have k1:WX.cell? ⟨w§+5,1,none⟩=some (.map (some (w§+3))):=cell_of HDX.out.kn 1
       have k2:WX.cell? ⟨w§+5,2,none⟩=some (.map (some (w§+4))):=cell_of HDX.out.kn 2
       have HSZ:Hid (w§+5 < WX§):=(zJ HDX.out.kn).1
       have hx:d.x.size≤maxLen:=by have h1:=(HH.out.1.2.2.2.2.2.1 d (by rw [HEfs.out]; exact HMEM.out)).2.2.2; unfold SzX at h1; unfold maxLen; omega
       have x0:WX.cell? wr§¢0=some (.string d.x):=cell_of HNX.out 0
       have x1:WX.cell? wr§¢2=some (zI d.p):=cell_of HNX.out 2
       have cA:=add_any d.p HDX.out.m3 hx hn
       go_wp2_with fail
       refine cA.mono ?_
       rintro e w5 (⟨hin,c,rfl,hle,hfl,hb5⟩ | ⟨hin,rfl,hm5,hmv⟩)
       ·have HD5:=(HDX.out.on hb5)
        have HD5:Hid (Dec _ _ _ _ _ _ _ _ _):=HD5
        have HC:Hid (FlAt w5 c Z6 d.p 150∧w§+5 < c):=⟨hfl,by have:=HSZ.out; omega⟩
        have HEE:Hid (decE r=some (d.p,150)):=by
         have h1:dNms [] (fs.map stN)=some (d.p,150):=by
          rw [HR.out,HTK.out.2]
          exact dNms_yes (x:=stN d) hin
         show decE r=_
         unfold decE
         rw [HEds.out,HN1.out,HEes.out,HN2.out,HEfs.out,h1]
        clear cA hle hfl hb5 hin k0 k1 k2 x0 x1
        go_wp2_with (refine wpList_store_row rfl 172 (.tmp 2) (.tmp 68) rfl (w§+1) zl rfl rfl 172 zl HD5.out.res size183 rfl (by simp [Value.oneCell']) ?_)
        exact bodyPost_ret (results_two (p:=2) (u:=3) (ty:=172) rfl _ _ (w§+1) 172 zl (0,0) _ rfl (setRow_heap _ _ _ _ _ _ HD5.out.res) Tryz.underlying172 rfl size183) rfl (.inl ⟨d.p,150,c,HEE.out,rfl,by have:=HC.out.2; omega,(setRow_oth _ _ _ (by have:=HC.out.2; omega)).trans HC.out.1,below_row HD5.out.bel (Nat.le_succ _) _⟩)
       ·have HD5:Hid (Dec w w5 r ds.length es.length (i+1) ds (es.map SlotM.x) ((fs.take (i+1)).map StateM.x)):=by have h5:=HDX.out.t hmv hm5; rw [show (fs.take i).map StateM.x ++ [d.x]=(fs.take (i+1)).map StateM.x by rw [HTK.out.1]; simp] at h5; exact h5
        have HR5:Hid (dNms [] (fs.map stN)=dNms ((fs.take (i+1)).map StateM.x) ((fs.drop (i+1)).map stN)):=by show _=_; rw [HR.out,HTK.out.2,HTK.out.1,List.map_append]; exact dNms_no (x:=stN d) hin
        clear cA hin hm5 hmv k0 k1 k2 x0 x1
        go_wp2_with fail
        exact⟨⟨i+1,hlt,rfl,HD5.out,HR5.out⟩,by simp only [intOf]; omega⟩
      ·obtain rfl:i=fs.length:=by omega
       have hnot:¬ (fs.length:Int) < (fs.length:Int):=by omega
       have HN3:Hid (dNms [] (fs.map stN)=none):=by show _=_; rw [HR.out,List.drop_length]; rfl
       have HDF:Hid (Dec w wr r ds.length es.length fs.length ds (es.map SlotM.x) (fs.map StateM.x)):=by have h1:=HDR.out; rw [List.take_length] at h1; exact h1
       clear HDR HR HDQ
       have k0:wr.cell? ⟨w§+5,0,none⟩=some (.map (some (w§+2))):=cell_of HDF.out.kn 0
       have k1:wr.cell? ⟨w§+5,1,none⟩=some (.map (some (w§+3))):=cell_of HDF.out.kn 1
       have k2:wr.cell? ⟨w§+5,2,none⟩=some (.map (some (w§+4))):=cell_of HDF.out.kn 2
       have HNN:Hid (decE r=none):=by show decE r=none; unfold decE; rw [HEds.out,HN1.out,HEes.out,HN2.out,HEfs.out,HN3.out]
       have HKN:Hid (Kn (wr.setRow (w§+1) #[.map (some (w§+2)),.map (some (w§+3)),.map (some (w§+4))]) (w§+2) (w§+3) (w§+4) (regL r.rs) (r.ss.map SlotM.x) (r.ts.map StateM.x)):=by
        rw [HEds.out,HEes.out,HEfs.out]
        exact⟨(HDF.out.m1.mv (mv_row _ _ _) (by omega)).m,⟨_,HDF.out.m2.mv (mv_row _ _ _) (by omega)⟩,⟨_,HDF.out.m3.mv (mv_row _ _ _) (by omega)⟩⟩
       go_wp2_with (refine wpList_store_row rfl 172 (.tmp 2) (.tmp 71) rfl (w§+1) #[.map (some (w§+2)),.map (some (w§+3)),.map (some (w§+4))] rfl rfl 172 zl HDF.out.res size183 rfl (by simp [Value.oneCell']) ?_)
       exact bodyPost_ret (results_two (p:=2) (u:=3) (ty:=172) rfl _ _ (w§+1) 172 #[.map (some (w§+2)),.map (some (w§+3)),.map (some (w§+4))] (0,0) _ rfl (setRow_heap _ _ _ _ _ _ HDF.out.res) Tryz.underlying172 rfl size183) rfl (.inr ⟨_,_,_,HNN.out,rfl,HKN.out,below_row HDF.out.bel (Nat.le_succ _) _⟩)
end Go.Proofs.YtfbjofnaghjmeaaGreatDoor
