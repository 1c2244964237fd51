import Derived.Test.YteedmmljahgpjaaGreatDoorA0
import Derived.Test.YteedmmljahgpjaaGreatDoorA6
import Derived.Deep.RegionLaw
namespace Go.Proofs.YteedmmljahgpjaaGreatDoor
set_option maxRecDepth 100000
set_option maxHeartbeats 4000000
open Go.RowKit
set_option linter.unusedVariables false
set_option linter.unusedSimpArgs false
def lenL (l:List Sp):Int:=(l.map Sp.len).sum
def QS:List RowM→Int
 | []=>0
 | r :: l=>lenL (hasL r)+QS l
def actI (r:RowM):Int:=if r.k == 1 then 1 else if r.k == 2 then 1 else if r.k == 3 then 1 else 0
def Js:List RowM→Int
 | []=>0
 | r :: l=>actI r+Js l
def mxN (x y:Int):Int:=if y > x then y else x
def bndL:Int × Int × Int→List GdM→Int × Int × Int
 | q,[]=>q
 | q,g :: l=>bndL (q.1+g.wh.len,mxN q.2.1 (QS g.rs),mxN q.2.2 (Js g.rs)) l
def Ki (gs:List GdM):Int × Int:=((bndL (0,0,0) gs).1+(bndL (0,0,0) gs).2.1,(bndL (0,0,0) gs).2.2)
def bndT:Int × Int→List StM→Int × Int
 | q,[]=>q
 | q,s :: l=>bndT (mxN q.1 (Ki s.gs).1,mxN q.2 (Ki s.gs).2) l
def boundN (t:TbM):Int × Int:=if Qp t == 0 then bndT (0,0) t.ts else (0,0)
def LenW (x:Sp):Prop:=0≤x.len∧x.len≤4096
theorem actsN_le:∀ l,0≤Js l∧Js l≤l.length
 | []=>by simp [Js]
 | r :: l=>by
  have:=actsN_le l
  simp only [Js,actI,List.length_cons]
  repeat' split
  all_goals omega
theorem lenL_cons (x:Sp) (l:List Sp):lenL (x :: l)=x.len+lenL l:=by simp [lenL]
theorem lenL_le:∀ l:List Sp,(∀ x ∈ l,LenW x)→0≤lenL l∧lenL l≤4096 * l.length
 | [],_=>by simp [lenL]
 | x :: l,h=>by
  have h1:=lenL_le l (fun y hy=>h y (List.mem_cons_of_mem _ hy))
  have h2:=h x (List.mem_cons_self ..)
  unfold LenW at h2
  have e:lenL (x :: l)=x.len+lenL l:=by simp [lenL]
  rw [e,List.length_cons]
  omega
theorem stepsN_le:∀ l:List RowM,(∀ r ∈ l,∀ x ∈ hasL r,LenW x)→0≤QS l∧QS l≤16384 * l.length
 | [],_=>by simp [QS]
 | r :: l,h=>by
  have h1:=stepsN_le l (fun y hy=>h y (List.mem_cons_of_mem _ hy))
  have h2:=lenL_le _ (h r (List.mem_cons_self ..))
  have h3:=Kg r 4 (by omega)
  have h4:(hasL r).length≤4:=h3
  simp only [QS,List.length_cons]
  omega
theorem steps_any (rs:List RowM) (a:Option Addr) (c:Nat) (w:World) (hk:SlAt w 11 a c (rs.map RowM.vals)) (hw:∀ r ∈ rs,∀ x ∈ hasL r,LenW x) (h8:rs.length≤8):Calls zG 72 #[.slice a rs.length c] w fun e w'=>e=.returned (zI (QS rs))∧Below w§ w w':=by
 have HSL:=zH hk
 have HLW:=zH hw
 obtain⟨S,eS⟩:∃ S,QS rs=S:=⟨_,rfl⟩
 rw [eS]
 have HS:Hid (S=0+QS (rs.drop 0)):=by show _=_; rw [← eS,Int.zero_add]; rfl
 clear hk hw eS
 go_enter Tryz.func72,Tryz.ntmps72
 go_wp2_with fail
 go_loopw [3,10] (fun f q wr=>∃ (i:Nat) (n:Int),i≤rs.length∧q=zI i∧f=zI n∧(0≤n∧n≤16384 * i)∧Hid (Below w§ w wr)∧Hid (S=n+QS (rs.drop i))) (fun _ q _=>rs.length - (intOf q).toNat)
 case atStart=>exact⟨0,0,by omega,rfl,rfl,by omega,Below.refl _ _,HS⟩
 case round =>
  obtain⟨i,n,hi,rfl,rfl,hn,HBR,HRR⟩:=hrel
  by_cases hlt:i < rs.length
  ·have hlt':(i:Int) < (rs.length:Int):=by omega
   have hmx:(i:Int)+1≤9223372036854775807:=by have h1:=HSL.out.1; have h2:=HSL.out.2.1; rw [List.length_map] at h1; omega
   obtain⟨bb,o,ea,hat⟩:=(HSL.out.on (mapz RowM.sz _) HBR.out).2.2 i (by rw [List.length_map]; exact hlt)
   simp only [List.getElem_map] at hat
   have HMEM:Hid (rs[i] ∈ rs):=List.getElem_mem hlt
   have HD:Hid (S=n+(lenL (hasL rs[i])+QS (rs.drop (i+1)))):=by show _=_; rw [HRR.out,List.drop_eq_getElem_cons hlt]; rfl
   obtain⟨d,ed⟩:∃ d,rs[i]=d:=⟨_,rfl⟩
   rw [ed] at hat HMEM HD
   have HRG:Hid (wr.rangeAt bb (o+i * 11) d.vals.toList):=fun j v hv=>by
    have hj:j < 11:=(List.getElem?_eq_some_iff.1 hv).1
    rw [hat j hj,← hv]; simp
   have HZ:Hid ((wr.alloc (.cells zA1 85)).heap[wr§]? = some (.cells zA1 85 (0,0))):=Hn _ _
   have HWX:Hid (Below wr§ wr ((wr.alloc (.cells zA1 85)).setRow wr§ d.vals)):=Qc (Bn _ _) (Nat.le_refl _) _
   have HNX:Hid (((wr.alloc (.cells zA1 85)).setRow wr§ d.vals).heap[wr§]? = some (.cells d.vals 85 (0,0))):=setRow_heap _ _ _ _ _ _ HZ.out
   subst ea
   clear hat ed
   go_upto_region 5 with (first | (refine wpList_load_mid rfl 85 (.tmp 12) rfl bb (o+i * 11) rfl d.vals.toList _ HRG.out Tryz.underlying85 rfl (by show _=some 11; exact Qi) ?_; rw [Array.toArray_toList]) | (refine wpList_store_row rfl 85 (.tmp 5) (.tmp 13) rfl wr§ d.vals rfl rfl 85 zA1 HZ.out Qi rfl (QQ d) ?_))
   generalize World.setRow _ _ _=WX at HWX HNX ⊢
   clear HZ HRG
   have HBX:=zH (Qa HBR.out HWX.out)
   have HGD:Hid (∀ y ∈ hasL d,LenW y):=HLW.out d HMEM.out
   have cH:=has_any d WX
   have hl4:=Kg d 4 (by omega)
   obtain⟨sp,esp⟩:∃ q,hasL d=q:=⟨_,rfl⟩
   rw [esp] at cH HGD HD
   have hsp4:sp.length≤4:=by rw [← esp]; exact hl4
   have HR0:Hid (S=n+lenL (sp.drop 0)+QS (rs.drop (i+1))):=by show _=_; rw [HD.out,List.drop_zero]; omega
   clear HRR HBR HMEM esp hl4 HD
   go_wp2_with (refine wpList_load_row rfl 85 (.tmp 5) rfl wr§ rfl 85 d.vals (0,0) _ HNX.out Tryz.underlying85 rfl Qi ?_)
   refine cH.mono ?_
   rintro e w7 ⟨ua,uc,rfl,hU,hnil,hfr,hb7⟩
   have HU:=zH hU
   have HB7:=zH (Qa HBX.out hb7)
   clear cH hU hnil hfr hb7 HBX HWX HNX
   go_wp2_with fail
   go_loopw [3,17] (fun f q wr=>∃ (j:Nat) (n2:Int),j≤sp.length∧q=zI j∧f=zI n2∧(0≤n2∧n2≤16384 * i+4096 * j)∧Hid (Below w7§ w7 wr)∧Hid (S=n2+lenL (sp.drop j)+QS (rs.drop (i+1)))) (fun _ q _=>sp.length - (intOf q).toNat)
   case atStart=>exact⟨0,n,by omega,rfl,rfl,by omega,Below.refl _ _,HR0⟩
   case round =>
    obtain⟨j,n2,hj,rfl,rfl,hn2,HB2,HR2⟩:=hrel
    by_cases hltj:j < sp.length
    ·have HU2:Hid (SlAt wr 2 ua uc (sp.map Sp.vals)):=HU.out.on (mapz Sp.sz _) HB2.out
     have hltj':(j:Int) < (sp.length:Int):=by omega
     have hmxj:(j:Int)+1≤9223372036854775807:=by have h1:=HU2.out.1; have h2:=HU2.out.2.1; rw [List.length_map] at h1; omega
     obtain⟨b2,o2,ea,hat⟩:=(HU2.out.on (mapz Sp.sz _) (Below.refl _ _)).2.2 j (by rw [List.length_map]; exact hltj)
     simp only [List.getElem_map] at hat
     have HMEM:Hid (sp[j] ∈ sp):=List.getElem_mem hltj
     have HD2:Hid (S=n2+(sp[j].len+lenL (sp.drop (j+1)))+QS (rs.drop (i+1))):=by show _=_; rw [HR2.out,List.drop_eq_getElem_cons hltj,lenL_cons]
     obtain⟨y,ed⟩:∃ y,sp[j]=y:=⟨_,rfl⟩
     rw [ed] at hat HMEM HD2
     have HRG:Hid (wr.rangeAt b2 (o2+j * 2) y.vals.toList):=fun j9 v hv=>by
      have hj9:j9 < 2:=(List.getElem?_eq_some_iff.1 hv).1
      rw [hat j9 hj9,← hv]; simp
     have HZ:Hid ((wr.alloc (.cells #[zI 0,zI 0] 65)).heap[wr§]? = some (.cells #[zI 0,zI 0] 65 (0,0))):=Hn _ _
     have HWX:Hid (Below wr§ wr ((wr.alloc (.cells #[zI 0,zI 0] 65)).setRow wr§ y.vals)):=Qc (Bn _ _) (Nat.le_refl _) _
     have HNX:Hid (((wr.alloc (.cells #[zI 0,zI 0] 65)).setRow wr§ y.vals).heap[wr§]? = some (.cells y.vals 65 (0,0))):=setRow_heap _ _ _ _ _ _ HZ.out
     subst ea
     clear hat ed
     go_upto_region 8 with (first | (refine wpList_load_mid rfl 65 (.tmp 19) rfl b2 (o2+j * 2) rfl y.vals.toList _ HRG.out Tryz.underlying65 rfl (by show _=some 2; exact Qt) ?_; rw [Array.toArray_toList]) | (refine wpList_store_row rfl 65 (.tmp 7) (.tmp 20) rfl wr§ y.vals rfl rfl 65 #[zI 0,zI 0] HZ.out Qt rfl (JF y) ?_))
     generalize World.setRow _ _ _=WX at HWX HNX ⊢
     clear HZ HRG
     have HBX:=zH (Qa HB2.out HWX.out)
     obtain⟨hy0,hy1⟩:=HGD.out y HMEM.out
     have cL:=Kf y ⟨by omega,by omega⟩ WX
     have HD3:Hid (S=(n2+y.len)+lenL (sp.drop (j+1))+QS (rs.drop (i+1))):=by show _=_; rw [HD2.out]; omega
     obtain⟨YL,eYL⟩:∃ q,y.len=q:=⟨_,rfl⟩
     rw [eYL] at cL HD3 hy0 hy1
     clear HR2 HD2 HMEM HB2 eYL
     go_wp2_with (refine wpList_load_row rfl 65 (.tmp 7) rfl wr§ rfl 65 y.vals (0,0) _ HNX.out Tryz.underlying65 rfl Qt ?_)
     refine cL.mono ?_
     rintro e w8 ⟨rfl,hb8⟩
     have HB8:=zH (Qa HBX.out hb8)
     clear cL hb8 HNX HWX HBX
     go_wp2_with fail
     exact⟨⟨j+1,n2+YL,hltj,rfl,rfl,by omega,HB8,HD3⟩,by simp only [intOf]; omega⟩
    ·obtain rfl:j=sp.length:=by omega
     have hnot:¬ (sp.length:Int) < (sp.length:Int):=by omega
     have HE3:Hid (S=n2+QS (rs.drop (i+1))):=by show _=_; rw [HR2.out,List.drop_length]; simp [lenL]
     have HB9:=zH (Qa HB7.out HB2.out)
     go_wp2_with fail
     exact⟨⟨i+1,n2,hlt,rfl,rfl,by omega,HB9,HE3⟩,by simp only [intOf]; omega⟩
  ·obtain rfl:i=rs.length:=by omega
   have hnot:¬ (rs.length:Int) < (rs.length:Int):=by omega
   have HE3:Hid (S=n):=by show _=_; rw [HRR.out,List.drop_length]; simp [QS]
   go_wp2_with fail
   go_ret
   exact⟨by rw [HE3.out]; rfl,HBR.out⟩
theorem actions_any (rs:List RowM) (a:Option Addr) (c:Nat) (w:World) (hk:SlAt w 11 a c (rs.map RowM.vals)) (h8:rs.length≤8):Calls zG 73 #[.slice a rs.length c] w fun e w'=>e=.returned (zI (Js rs))∧Below w§ w w':=by
 have HSL:=zH hk
 obtain⟨S,eS⟩:∃ S,Js rs=S:=⟨_,rfl⟩
 rw [eS]
 have HS:Hid (S=0+Js (rs.drop 0)):=by show _=_; rw [← eS,Int.zero_add]; rfl
 clear hk eS
 go_enter Tryz.func73,Tryz.ntmps73
 go_wp2_with fail
 go_loopw [3,8] (fun f q wr=>∃ (i:Nat) (n:Int),i≤rs.length∧q=zI i∧f=zI n∧(0≤n∧n≤i)∧Hid (Below w§ w wr)∧Hid (S=n+Js (rs.drop i))) (fun _ q _=>rs.length - (intOf q).toNat)
 case atStart=>exact⟨0,0,by omega,rfl,rfl,by omega,Below.refl _ _,HS⟩
 case round =>
  obtain⟨i,n,hi,rfl,rfl,hn,HBR,HRR⟩:=hrel
  by_cases hlt:i < rs.length
  ·have hlt':(i:Int) < (rs.length:Int):=by omega
   have hmx:(i:Int)+1≤9223372036854775807:=by have h1:=HSL.out.1; have h2:=HSL.out.2.1; rw [List.length_map] at h1; omega
   obtain⟨bb,o,ea,hat⟩:=(HSL.out.on (mapz RowM.sz _) HBR.out).2.2 i (by rw [List.length_map]; exact hlt)
   simp only [List.getElem_map] at hat
   have HMEM:Hid (rs[i] ∈ rs):=List.getElem_mem hlt
   have HD:Hid (S=n+(actI rs[i] + Js (rs.drop (i+1)))):=by show _=_; rw [HRR.out,List.drop_eq_getElem_cons hlt]; rfl
   obtain⟨d,ed⟩:∃ d,rs[i]=d:=⟨_,rfl⟩
   rw [ed] at hat HMEM HD
   have HRG:Hid (wr.rangeAt bb (o+i * 11) d.vals.toList):=fun j v hv=>by
    have hj:j < 11:=(List.getElem?_eq_some_iff.1 hv).1
    rw [hat j hj,← hv]; simp
   have HZ:Hid ((wr.alloc (.cells zA1 85)).heap[wr§]? = some (.cells zA1 85 (0,0))):=Hn _ _
   have HWX:Hid (Below wr§ wr ((wr.alloc (.cells zA1 85)).setRow wr§ d.vals)):=Qc (Bn _ _) (Nat.le_refl _) _
   have HNX:Hid (((wr.alloc (.cells zA1 85)).setRow wr§ d.vals).heap[wr§]? = some (.cells d.vals 85 (0,0))):=setRow_heap _ _ _ _ _ _ HZ.out
   subst ea
   clear hat ed
   go_upto_region 5 with (first | (refine wpList_load_mid rfl 85 (.tmp 10) rfl bb (o+i * 11) rfl d.vals.toList _ HRG.out Tryz.underlying85 rfl (by show _=some 11; exact Qi) ?_; rw [Array.toArray_toList]) | (refine wpList_store_row rfl 85 (.tmp 5) (.tmp 11) rfl wr§ d.vals rfl rfl 85 zA1 HZ.out Qi rfl (QQ d) ?_))
   generalize World.setRow _ _ _=WX at HWX HNX ⊢
   clear HZ HRG
   have HBX:=zH (Qa HBR.out HWX.out)
   have x0:WX.cell? ⟨wr§,0,none⟩=some (zU d.k):=Co HNX.out 0
   clear HRR HBR HMEM HWX HNX
   cases h1:(d.k == 1) with
   | true =>
    have HE:Hid (S=(n+1)+Js (rs.drop (i+1))):=by have h:=HD.out; unfold actI at h; simp only [h1,reduceIte,Bool.false_eq_true,if_false,if_true] at h; show _=_; omega
    clear HD
    go_wp2_with fail
    exact⟨⟨i+1,n+1,hlt,rfl,by first | rfl | simp,by omega,HBX,HE⟩,by simp only [intOf]; omega⟩
   | false =>
    cases h2:(d.k == 2) with
    | true =>
     have HE:Hid (S=(n+1)+Js (rs.drop (i+1))):=by have h:=HD.out; unfold actI at h; simp only [h1,h2,reduceIte,Bool.false_eq_true,if_false,if_true] at h; show _=_; omega
     clear HD
     go_wp2_with fail
     exact⟨⟨i+1,n+1,hlt,rfl,by first | rfl | simp,by omega,HBX,HE⟩,by simp only [intOf]; omega⟩
    | false =>
     cases h3:(d.k == 3) with
     | true =>
      have HE:Hid (S=(n+1)+Js (rs.drop (i+1))):=by have h:=HD.out; unfold actI at h; simp only [h1,h2,h3,reduceIte,Bool.false_eq_true,if_false,if_true] at h; show _=_; omega
      clear HD
      go_wp2_with fail
      exact⟨⟨i+1,n+1,hlt,rfl,by first | rfl | simp,by omega,HBX,HE⟩,by simp only [intOf]; omega⟩
     | false =>
      have HE:Hid (S=(n+0)+Js (rs.drop (i+1))):=by have h:=HD.out; unfold actI at h; simp only [h1,h2,h3,reduceIte,Bool.false_eq_true,if_false,if_true] at h; show _=_; omega
      clear HD
      go_wp2_with fail
      exact⟨⟨i+1,n+0,hlt,rfl,by first | rfl | simp,by omega,HBX,HE⟩,by simp only [intOf]; omega⟩
  ·obtain rfl:i=rs.length:=by omega
   have hnot:¬ (rs.length:Int) < (rs.length:Int):=by omega
   have HE3:Hid (S=n):=by show _=_; rw [HRR.out,List.drop_length]; simp [Js]
   go_wp2_with fail
   go_ret
   exact⟨by rw [HE3.out]; rfl,HBR.out⟩
theorem JG:(Tryz.prog.info? 34).map (·.size)=some 2:=by kernel_rfl
def coV (q:Int × Int):Array Value:=#[zI q.1,zI q.2]
theorem coV_all (q:Int × Int):(coV q).all (·.oneCell')=true:=by simp [coV,Value.oneCell']
def GdB (g:GdM):Prop:=LenW g.wh∧g.rs.length≤8∧∀ r ∈ g.rs,∀ x ∈ hasL r,LenW x
theorem boundOf_any (gs:List GdM) (a:Option Addr) (c:Nat) (w:World) (hk:SlAt w 5 a c (gs.map GdM.vals)) (hl:∀ g ∈ gs,GdL w g) (hB:∀ g ∈ gs,GdB g) (h12:gs.length≤12):Calls zG 32 #[.slice a gs.length c] w fun e w'=>e=.returned (.agg (coV (Ki gs)))∧Below w§ w w':=by
 have hb1:=Bn w (.cells #[zI 0,zI 0] 34)
 have hn1:=Hn w (.cells #[zI 0,zI 0] 34)
 obtain⟨W1,e1⟩:∃ W,w.alloc (.cells #[zI 0,zI 0] 34)=W:=⟨_,rfl⟩
 have E1:=zH e1
 rw [e1] at hb1 hn1
 have HB1:=zH hb1
 have HN1:=zH hn1
 have HSG:=zH hk
 have HGI:Hid (∀ g ∈ gs,GdL w g):=hl
 have HGB:Hid (∀ g ∈ gs,GdB g):=hB
 obtain⟨S,eS⟩:∃ S,bndL (0,0,0) gs=S:=⟨_,rfl⟩
 have HS:Hid (S=bndL (0,0,0) (gs.drop 0)):=by show _=_; rw [← eS]; rfl
 have HF:Hid (Ki gs=(S.1+S.2.1,S.2.2)):=by show _=_; unfold Ki; rw [eS]
 have hm:=run_max
 clear hb1 hn1 e1 hk hl hB eS
 go_enter Tryz.func32,Tryz.ntmps32
 go_upto_region 1 with fail
 rw [E1.out]
 clear E1
 go_wp2_with fail
 go_loopw [3,4,5,10] (fun f3 f4 f5 q wr=>∃ (i:Nat) (n1 n2 n3:Int),i≤gs.length∧q=zI i∧f3=zI n1∧f4=zI n2∧f5=zI n3∧(0≤n1∧n1≤4096 * i)∧(0≤n2∧n2≤131072)∧(0≤n3∧n3≤8)∧Hid (Below w§ w wr)∧Hid (wr.heap[w§]? = some (.cells #[zI 0,zI 0] 34 (0,0)))∧Hid (S=bndL (n1,n2,n3) (gs.drop i))) (fun _ _ _ q _=>gs.length - (intOf q).toNat)
 case atStart=>exact⟨0,0,0,0,by omega,rfl,rfl,rfl,rfl,by omega,by omega,by omega,HB1,HN1,HS⟩
 case round =>
  obtain⟨i,n1,n2,n3,hi,rfl,rfl,rfl,rfl,h1,h2,h3,HBR,HNR,HRR⟩:=hrel
  by_cases hlt:i < gs.length
  ·have hlt':(i:Int) < (gs.length:Int):=by omega
   have hmx:(i:Int)+1≤9223372036854775807:=by have h1:=HSG.out.1; have h2:=HSG.out.2.1; rw [List.length_map] at h1; omega
   obtain⟨bb,o,ea,hat⟩:=(HSG.out.on (mapz GdM.sz _) HBR.out).2.2 i (by rw [List.length_map]; exact hlt)
   simp only [List.getElem_map] at hat
   have HMEM:Hid (gs[i] ∈ gs):=List.getElem_mem hlt
   have HD:Hid (S=bndL (n1+gs[i].wh.len,mxN n2 (QS gs[i].rs),mxN n3 (Js gs[i].rs)) (gs.drop (i+1))):=by show _=_; rw [HRR.out,List.drop_eq_getElem_cons hlt]; rfl
   obtain⟨d,ed⟩:∃ d,gs[i]=d:=⟨_,rfl⟩
   rw [ed] at hat HMEM HD
   have HRG:Hid (wr.rangeAt bb (o+i * 5) d.vals.toList):=fun j v hv=>by
    have hj:j < 5:=(List.getElem?_eq_some_iff.1 hv).1
    rw [hat j hj,← hv]; simp
   have HZ:Hid ((wr.alloc (.cells zA4 68)).heap[wr§]? = some (.cells zA4 68 (0,0))):=Hn _ _
   have HWX:Hid (Below wr§ wr ((wr.alloc (.cells zA4 68)).setRow wr§ d.vals)):=Qc (Bn _ _) (Nat.le_refl _) _
   have HNX:Hid (((wr.alloc (.cells zA4 68)).setRow wr§ d.vals).heap[wr§]? = some (.cells d.vals 68 (0,0))):=setRow_heap _ _ _ _ _ _ HZ.out
   subst ea
   clear hat ed
   go_upto_region 5 with (first | (refine wpList_load_mid rfl 68 (.tmp 12) rfl bb (o+i * 5) rfl d.vals.toList _ HRG.out Tryz.underlying68 rfl (by show _=some 5; exact QD) ?_; rw [Array.toArray_toList]) | (refine wpList_store_row rfl 68 (.tmp 7) (.tmp 13) rfl wr§ d.vals rfl rfl 68 zA4 HZ.out QD rfl (allGd d) ?_))
   generalize World.setRow _ _ _=WX at HWX HNX ⊢
   clear HZ HRG
   have HBX:=zH (Qa HBR.out HWX.out)
   have HZX:Hid (WX.heap[w§]? = some (.cells #[zI 0,zI 0] 34 (0,0))):=(HWX.out.block _ (Array.getElem?_eq_some_iff.1 HNR.out).1).trans HNR.out
   have HGL:Hid (GdL w d):=HGI.out d HMEM.out
   obtain⟨hgw,hg8,hgr⟩:=HGB.out d HMEM.out
   have HGR:=zH hgr
   have hsb:=stepsN_le d.rs hgr
   have hab:=actsN_le d.rs
   have x0:WX.cell? ⟨wr§,0,none⟩=some (zI d.wh.f):=Co HNX.out 0
   have x1:WX.cell? ⟨wr§,1,none⟩=some (zI d.wh.t):=Co HNX.out 1
   have cL:=Kf d.wh ⟨by have:=hgw.1; omega,by have:=hgw.2; omega⟩ WX
   unfold Sp.vals at cL
   obtain⟨hw0,hw1⟩:=hgw
   obtain⟨YL,eYL⟩:∃ q,d.wh.len=q:=⟨_,rfl⟩
   rw [eYL] at cL HD hw0 hw1
   obtain⟨SN,eSN⟩:∃ q,QS d.rs=q:=⟨_,rfl⟩
   obtain⟨AN,eAN⟩:∃ q,Js d.rs=q:=⟨_,rfl⟩
   rw [eSN,eAN] at HD
   rw [eSN] at hsb
   rw [eAN] at hab
   have HSN:Hid (QS d.rs=SN):=eSN
   have HAN:Hid (Js d.rs=AN):=eAN
   have hsum:n1+YL≤9223372036854775807∧-9223372036854775808≤n1+YL:=by omega
   obtain⟨hsu1,hsu2⟩:=hsum
   have HBD:Hid ((0≤n1∧n1≤4096 * i)∧(0≤n2∧n2≤131072)∧(0≤n3∧n3≤8)∧(0≤YL∧YL≤4096)∧(0≤SN∧SN≤131072)∧(0≤AN∧AN≤8)):=⟨h1,h2,h3,⟨hw0,hw1⟩,by omega,by omega⟩
   clear HRR HBR HMEM eYL eSN eAN HNR hgr h1 h2 h3 hw0 hw1 hsb hab
   go_wp2_with fail
   refine cL.mono ?_
   rintro e w7 ⟨rfl,hb7⟩
   have HB7:=zH (Qa HBX.out hb7)
   have HZ7:Hid (w7.heap[w§]? = some (.cells #[zI 0,zI 0] 34 (0,0))):=(hb7.block _ (Array.getElem?_eq_some_iff.1 HZX.out).1).trans HZX.out
   have HN7:Hid (w7.heap[wr§]? = some (.cells d.vals 68 (0,0))):=(hb7.block _ (Array.getElem?_eq_some_iff.1 HNX.out).1).trans HNX.out
   have y4:w7.cell? ⟨wr§,4,none⟩=some (.slice d.a d.rs.length d.c):=Co HN7.out 4
   have cS:=steps_any d.rs d.a d.c w7 (HGL.out.2.2.2.1.on (mapz RowM.sz _) HB7.out) HGR.out hg8
   rw [HSN.out] at cS
   clear cL hb7 HBX HZX HNX HWX x0 x1
   go_wp2_with fail
   refine cS.mono ?_
   rintro e w8 ⟨rfl,hb8⟩
   have HB8:=zH (Qa HB7.out hb8)
   have HZ8:Hid (w8.heap[w§]? = some (.cells #[zI 0,zI 0] 34 (0,0))):=(hb8.block _ (Array.getElem?_eq_some_iff.1 HZ7.out).1).trans HZ7.out
   have HN8:Hid (w8.heap[wr§]? = some (.cells d.vals 68 (0,0))):=(hb8.block _ (Array.getElem?_eq_some_iff.1 HN7.out).1).trans HN7.out
   have z4:w8.cell? ⟨wr§,4,none⟩=some (.slice d.a d.rs.length d.c):=Co HN8.out 4
   have cA:=actions_any d.rs d.a d.c w8 (HGL.out.2.2.2.1.on (mapz RowM.sz _) HB8.out) hg8
   rw [HAN.out] at cA
   clear cS hb8 HB7 HZ7 HN7 y4
   go_upto_region 7 with fail
   obtain⟨M2,eM2⟩:∃ q,mxN n2 SN=q:=⟨_,rfl⟩
   have HM2:Hid (mxN n2 SN=M2):=eM2
   unfold mxN at eM2
   rw [eM2]
   clear eM2
   go_wp2_with fail
   refine cA.mono ?_
   rintro e w9 ⟨rfl,hb9⟩
   have HB9:=zH (Qa HB8.out hb9)
   have HZ9:Hid (w9.heap[w§]? = some (.cells #[zI 0,zI 0] 34 (0,0))):=(hb9.block _ (Array.getElem?_eq_some_iff.1 HZ8.out).1).trans HZ8.out
   clear cA hb9 HB8 HZ8 HN8 z4
   go_wp2_with fail
   exact⟨⟨i+1,n1+YL,mxN n2 SN,mxN n3 AN,hlt,rfl,rfl,by rw [HM2.out],rfl,by have:=HBD.out; omega,by have:=HBD.out; unfold mxN; split <;> omega,by have:=HBD.out; unfold mxN; split <;> omega,HB9,HZ9,HD⟩,by simp only [intOf]; omega⟩
  ·obtain rfl:i=gs.length:=by omega
   have hnot:¬ (gs.length:Int) < (gs.length:Int):=by omega
   have HE3:Hid (Ki gs=(n1+n2,n3)):=by show _=_; rw [HF.out,HRR.out,List.drop_length]; rfl
   have HBS:Hid (Below w§ w (wr.setRow w§ (coV (n1+n2,n3)))):=Qc HBR.out (Nat.le_refl _) _
   have HNS:Hid ((wr.setRow w§ (coV (n1+n2,n3))).heap[w§]? = some (.cells (coV (n1+n2,n3)) 34 (0,0))):=setRow_heap _ _ _ _ _ _ HNR.out
   go_wp2_with (refine wpList_store_row rfl 34 (.tmp 2) (.tmp 34) rfl w§ (coV (n1+n2,n3)) rfl rfl 34 #[zI 0,zI 0] HNR.out JG rfl (coV_all _) ?_)
   exact bodyPost_ret (results_cell_row rfl _ _ w§ 34 (coV (n1+n2,n3)) (0,0) _ rfl HNS.out Tryz.underlying34 rfl JG) rfl ⟨by rw [HE3.out],HBS.out⟩
theorem gdsN_r (sl:Int) (nr ns:Nat):∀ (l:List GdM) (p q:Int),gdsN sl nr ns p l=some q→∀ g ∈ l,g.rs.length≤8
 | [],p,q,h=>fun x hx=>by simp at hx
 | y :: l,p,q,h=>by
  unfold gdsN at h
  obtain⟨r,hr,h⟩:=Option.bind_eq_some_iff.1 h
  unfold gdN at hr
  split at hr
  ·rename_i hb
   intro g hg
   rcases List.mem_cons.1 hg with rfl | hg
   ·exact rowsB8 hb
   ·exact gdsN_r sl nr ns l r q h g hg
  ·cases hr
theorem stsN_r (sl:Int) (nr ns:Nat):∀ (l:List StM) (p q:Int),stsN sl nr ns p l=some q→∀ s ∈ l,s.gs.length≤12∧∀ g ∈ s.gs,g.rs.length≤8
 | [],p,q,h=>fun x hx=>by simp at hx
 | y :: l,p,q,h=>by
  unfold stsN at h
  split at h
  ·cases h
  ·rename_i hc
   obtain⟨r,hr,h⟩:=Option.bind_eq_some_iff.1 h
   intro s hs
   rcases List.mem_cons.1 hs with rfl | hs
   ·exact⟨by omega,gdsN_r sl nr ns _ p r hr⟩
   ·exact stsN_r sl nr ns l r q h s hs
theorem form_b {t:TbM}(h:QG t=true):∀ s ∈ t.ts,s.gs.length≤12∧∀ g ∈ s.gs,GdB g:=by
 obtain⟨⟨_,_,hd⟩,hw⟩:=form_w h
 unfold QG at h
 rw [Bool.and_eq_true,Bool.and_eq_true] at h
 obtain⟨_,h3⟩:=h
 unfold endB at h3
 split at h3
 ·rename_i q hq
  intro s hs
  obtain⟨h1,h2⟩:=stsN_r _ _ _ _ 0 q hq s hs
  refine⟨h1,fun g hg=>?_⟩
  have hg':=hw s hs g hg
  have hl:∀ x ∈ gSp g,LenW x:=fun x hx=>by
   have:=hg' x hx
   unfold SpW at this
   unfold LenW Sp.len
   omega
  exact⟨hl _ (List.mem_cons_self ..),h2 g hg,fun r hr x hx=>hl x (List.mem_cons_of_mem _ (List.mem_flatten.2 ⟨hasL r,List.mem_map.2 ⟨r,hr,rfl⟩,hx⟩))⟩
 ·cases h3
theorem check_form {t:TbM}(h:(Qp t == 0)=true):QG t=true:=by
 unfold Qp at h
 split at h
 ·assumption
 ·simp at h
theorem bound_any (t:TbM) (w:World) (hl:TbL w t) (htb:Tab w):Calls zG 14 #[.agg t.vals] w fun e w'=>e=.returned (.tuple #[.agg (coV (boundN t)),zI (Qp t)])∧Below w§ w w':=by
 have hb1:=Bn w (.cells t.vals 26)
 have hn1:=Hn w (.cells t.vals 26)
 have hs1:=Sa w (.cells t.vals 26)
 obtain⟨W1,e1⟩:∃ W,w.alloc (.cells t.vals 26)=W:=⟨_,rfl⟩
 have E1:=zH e1
 rw [e1] at hb1 hn1 hs1
 have hb2:=Bn W1 (.cells #[zI 0,zI 0] 34)
 have hn2:=Hn W1 (.cells #[zI 0,zI 0] 34)
 obtain⟨W2,e2⟩:∃ W,W1.alloc (.cells #[zI 0,zI 0] 34)=W:=⟨_,rfl⟩
 have E2:=zH e2
 rw [e2] at hb2 hn2
 rw [hs1] at hn2
 have HT2:Hid (W2.heap[w§]? = some (.cells t.vals 26 (0,0))):=(hb2.block _ (by omega)).trans hn1
 have HB2:=zH (Qa hb1 hb2)
 obtain⟨g2,e3⟩:∃ g,w§+1=g:=⟨_,rfl⟩
 rw [e3] at hn2
 have HN2:=zH hn2
 have HG2:Hid (w§+1=g2):=e3
 have hg2:w§≤g2:=by omega
 have HTL:Hid (TbL w t):=hl
 have cC:=Q5 t W2 (hl.on HB2.out) (htb.on HB2.out)
 unfold boundN
 clear hb1 hn1 hs1 e1 hb2 hn2 e2 e3 hl htb
 cases hz:(Qp t == 0) with
 | false =>
  have hq:(Qp t != 0)=true:=by simp [bne,hz]
  rw [if_neg (by simp)]
  obtain⟨E,eE⟩:∃ q,Qp t=q:=⟨_,rfl⟩
  rw [eE] at cC hq hz ⊢
  clear eE
  go_enter Tryz.func14,Tryz.ntmps14
  go_upto_region 1 with fail
  rw [E1.out,E2.out,HG2.out]
  clear E1 E2
  go_wp2_with (refine wpList_load_row rfl 26 (.tmp 1) rfl w§ rfl 26 t.vals (0,0) _ HT2.out Tryz.underlying26 rfl Qe ?_)
  refine cC.mono ?_
  rintro e w3 ⟨rfl,hb3⟩
  have HB3:=zH (Qa HB2.out hb3)
  have HN3:Hid (w3.heap[g2]? = some (.cells #[zI 0,zI 0] 34 (0,0))):=(hb3.block _ (Array.getElem?_eq_some_iff.1 HN2.out).1).trans HN2.out
  have HBS:Hid (Below w§ w (w3.setRow g2 (coV (0,0)))):=Qc HB3.out hg2 _
  have HNS:Hid ((w3.setRow g2 (coV (0,0))).heap[g2]? = some (.cells (coV (0,0)) 34 (0,0))):=setRow_heap _ _ _ _ _ _ HN3.out
  clear cC hb3
  go_wp2_with (refine wpList_store_row rfl 34 (.tmp 2) (.tmp 13) rfl g2 (coV (0,0)) rfl rfl 34 #[zI 0,zI 0] HN3.out JG rfl (coV_all _) ?_)
  exact bodyPost_ret (Rt2 rfl _ _ g2 34 (coV (0,0)) (0,0) _ rfl HNS.out Tryz.underlying34 rfl JG) rfl ⟨rfl,HBS.out⟩
 | true =>
  have hq:(Qp t != 0)=false:=by simp [bne,hz]
  have HFB:=zH (form_b (check_form hz))
  rw [if_pos rfl]
  have hE:Qp t=0:=by simpa using hz
  rw [hE] at cC ⊢
  obtain⟨S,eS⟩:∃ S,bndT (0,0) t.ts=S:=⟨_,rfl⟩
  have HS:Hid (S=bndT (0,0) (t.ts.drop 0)):=by show _=_; rw [← eS]; rfl
  rw [eS]
  clear hE hz hq eS
  have hm:=run_max
  go_enter Tryz.func14,Tryz.ntmps14
  go_upto_region 1 with fail
  rw [E1.out,E2.out,HG2.out]
  clear E1 E2
  go_wp2_with (refine wpList_load_row rfl 26 (.tmp 1) rfl w§ rfl 26 t.vals (0,0) _ HT2.out Tryz.underlying26 rfl Qe ?_)
  refine cC.mono ?_
  rintro e w3 ⟨rfl,hb3⟩
  have hB3:=Qa HB2.out hb3
  have hN3:=(hb3.block _ (Array.getElem?_eq_some_iff.1 HN2.out).1).trans HN2.out
  have hT3:=(hb3.block _ (Array.getElem?_eq_some_iff.1 HT2.out).1).trans HT2.out
  have hb4:=Bn w3 (.cells #[zI 0,zI 0] 34)
  have HB4:=zH (Qa hB3 hb4)
  have HN4:Hid ((w3.alloc (.cells #[zI 0,zI 0] 34)).heap[g2]? = some (.cells #[zI 0,zI 0] 34 (0,0))):=(hb4.block _ (Array.getElem?_eq_some_iff.1 hN3).1).trans hN3
  have HT4:Hid ((w3.alloc (.cells #[zI 0,zI 0] 34)).heap[w§]? = some (.cells t.vals 26 (0,0))):=(hb4.block _ (Array.getElem?_eq_some_iff.1 hT3).1).trans hT3
  have hM4:(w3.alloc (.cells #[zI 0,zI 0] 34)).heap[w3§]? = some (.cells (coV (0,0)) 34 (0,0)):=Hn _ _
  obtain⟨g5,e5⟩:∃ q,w3§=q:=⟨_,rfl⟩
  have HG5:Hid (w3§=g5):=e5
  rw [e5] at hM4
  have HM4:=zH hM4
  have hge:w§≤g5∧g5≠g2∧g5≠w§:=by
   have h1:=(Array.getElem?_eq_some_iff.1 hN3).1
   have h2:=(Array.getElem?_eq_some_iff.1 hT3).1
   omega
  have HGE:=zH hge
  clear cC hb3 hB3 hN3 hT3 hb4 hM4 e5 hge
  go_upto_region 5 with fail
  try rw [HG5.out]
  generalize w3.alloc (.cells #[zI 0,zI 0] 34)=U at HB4 HN4 HT4 HM4 ⊢
  clear HG5
  have c5:U.cell? ⟨w§,5,none⟩=some (.slice t.ta t.ts.length t.tc):=Co HT4.out 5
  have HTT:=zH HTL.out.T
  obtain⟨ta,eta⟩:∃ q,t.ta=q:=⟨_,rfl⟩
  rw [eta] at c5 HTT
  clear eta
  go_wp2_with fail
  go_loopw [18] (fun q wr=>∃ (i:Nat) (m:Int × Int),i≤t.ts.length∧q=zI i∧Hid (Below w§ w wr)∧Hid (wr.heap[g2]? = some (.cells #[zI 0,zI 0] 34 (0,0)))∧Hid (wr.heap[g5]? = some (.cells (coV m) 34 (0,0)))∧Hid (S=bndT m (t.ts.drop i))) (fun q _=>t.ts.length - (intOf q).toNat)
  case atStart=>exact⟨0,(0,0),by omega,rfl,HB4,HN4,HM4,HS⟩
  case round =>
   obtain⟨i,m,hi,rfl,HBR,HNR,HMR,HRR⟩:=hrel
   by_cases hlt:i < t.ts.length
   ·have hlt':(i:Int) < (t.ts.length:Int):=by omega
    have hmx:(i:Int)+1≤9223372036854775807:=by have h1:=HTT.out.1; have h2:=HTT.out.2.1; rw [List.length_map] at h1; omega
    obtain⟨bb,o,ea,hat⟩:=(HTT.out.on (mapz StM.sz _) HBR.out).2.2 i (by rw [List.length_map]; exact hlt)
    simp only [List.getElem_map] at hat
    have hsl:=HTL.out.Ti t.ts[i] (List.getElem_mem hlt)
    have hfb:=HFB.out t.ts[i] (List.getElem_mem hlt)
    have HD:Hid (S=bndT (mxN m.1 (Ki t.ts[i].gs).1,mxN m.2 (Ki t.ts[i].gs).2) (t.ts.drop (i+1))):=by show _=_; rw [HRR.out,List.drop_eq_getElem_cons hlt]; rfl
    obtain⟨s,es⟩:∃ s,t.ts[i]=s:=⟨_,rfl⟩
    rw [es] at hat hsl HD hfb
    have hcc:=hat 0 (by omega)
    have cs:wr.cell? ⟨bb,o+i,none⟩=some (.slice s.a s.gs.length s.c):=by rw [Nat.mul_one,Nat.add_zero] at hcc; exact hcc
    have cB:=boundOf_any s.gs s.a s.c wr (hsl.1.on (mapz GdM.sz _) HBR.out) (fun g hg=>(hsl.2 g hg).on HBR.out) hfb.2 hfb.1
    obtain⟨Q,eQ⟩:∃ q,Ki s.gs=q:=⟨_,rfl⟩
    rw [eQ] at cB HD
    subst ea
    clear hat es hcc hsl HRR hfb eQ
    go_wp2_with fail
    refine cB.mono ?_
    rintro e w6 ⟨rfl,hb6⟩
    have hB6:=Qa HBR.out hb6
    have hN6:=(hb6.block _ (Array.getElem?_eq_some_iff.1 HNR.out).1).trans HNR.out
    have hM6:=(hb6.block _ (Array.getElem?_eq_some_iff.1 HMR.out).1).trans HMR.out
    have HZ:Hid ((w6.alloc (.cells #[zI 0,zI 0] 34)).heap[w6§]? = some (.cells #[zI 0,zI 0] 34 (0,0))):=Hn _ _
    have hWX:Below w6§ w6 ((w6.alloc (.cells #[zI 0,zI 0] 34)).setRow w6§ (coV Q)):=Qc (Bn _ _) (Nat.le_refl _) _
    have HNX:Hid (((w6.alloc (.cells #[zI 0,zI 0] 34)).setRow w6§ (coV Q)).heap[w6§]? = some (.cells (coV Q) 34 (0,0))):=setRow_heap _ _ _ _ _ _ HZ.out
    have HB7:=zH (Qa hB6 hWX)
    have HN7:Hid (((w6.alloc (.cells #[zI 0,zI 0] 34)).setRow w6§ (coV Q)).heap[g2]? = some (.cells #[zI 0,zI 0] 34 (0,0))):=(hWX.block _ (Array.getElem?_eq_some_iff.1 hN6).1).trans hN6
    have HM7:Hid (((w6.alloc (.cells #[zI 0,zI 0] 34)).setRow w6§ (coV Q)).heap[g5]? = some (.cells (coV m) 34 (0,0))):=(hWX.block _ (Array.getElem?_eq_some_iff.1 hM6).1).trans hM6
    have hlt8:g5 < w6§:=(Array.getElem?_eq_some_iff.1 hM6).1
    clear cB hb6 hB6 hN6 hM6 hWX HBR HNR HMR cs
    go_upto_region 9 with (refine wpList_store_row rfl 34 (.tmp 8) (.tmp 23) rfl w6§ (coV Q) rfl rfl 34 #[zI 0,zI 0] HZ.out JG rfl (coV_all _) ?_)
    obtain⟨g8,e8⟩:∃ q,w6§=q:=⟨_,rfl⟩
    rw [e8] at HNX HB7 HN7 HM7 hlt8 ⊢
    generalize World.setRow _ _ _=W7 at HNX HB7 HN7 HM7 ⊢
    clear HZ e8
    have m0:W7.cell? ⟨g5,0,none⟩=some (zI m.1):=Co HM7.out 0
    have q0:W7.cell? ⟨g8,0,none⟩=some (zI Q.1):=Co HNX.out 0
    have f0:=Fo HM7.out 0
    obtain⟨X1,eX1⟩:∃ q,mxN m.1 Q.1=q:=⟨_,rfl⟩
    obtain⟨X2,eX2⟩:∃ q,mxN m.2 Q.2=q:=⟨_,rfl⟩
    rw [eX1,eX2] at HD
    have HX:Hid (mxN m.1 Q.1=X1∧mxN m.2 Q.2=X2):=⟨eX1,eX2⟩
    have hP:=Hs0 (j:=0) (zI X1) HM7.out
    have HP:=zH hP
    have HQ:Hid ((W7.setCell ⟨g5,0,none⟩ (zI X1)).heap[g8]? = some (.cells (coV Q) 34 (0,0))):=(heap_setCell_other _ _ _ _ (by show g8≠g5; omega)).trans HNX.out
    have HN8:Hid ((W7.setCell ⟨g5,0,none⟩ (zI X1)).heap[g2]? = some (.cells #[zI 0,zI 0] 34 (0,0))):=(heap_setCell_other _ _ _ _ (by show g2≠g5; have:=HGE.out; omega)).trans HN7.out
    have HB8:Hid (Below w§ w (W7.setCell ⟨g5,0,none⟩ (zI X1))):=HB7.out.setCell (by show w§≤g5; have:=HGE.out; omega) _
    unfold mxN at eX1
    clear eX2 hP HNX HN7 HM7 HB7
    go_upto_region 10 with fail
    try rw [eX1]
    generalize W7.setCell ⟨g5,0,none⟩ (zI X1)=W8 at HP HQ HN8 HB8 ⊢
    clear eX1 m0 q0 f0
    have m1:W8.cell? ⟨g5,1,none⟩=some (zI m.2):=Co HP.out 1
    have q1:W8.cell? ⟨g8,1,none⟩=some (zI Q.2):=Co HQ.out 1
    have f1:=Fo HP.out 1
    have hP:=Hs0 (j:=1) (zI X2) HP.out
    have HP9:=zH hP
    have HN9:Hid ((W8.setCell ⟨g5,1,none⟩ (zI X2)).heap[g2]? = some (.cells #[zI 0,zI 0] 34 (0,0))):=(heap_setCell_other _ _ _ _ (by show g2≠g5; have:=HGE.out; omega)).trans HN8.out
    have HB9:Hid (Below w§ w (W8.setCell ⟨g5,1,none⟩ (zI X2))):=HB8.out.setCell (by show w§≤g5; have:=HGE.out; omega) _
    have eX2:=HX.out.2
    unfold mxN at eX2
    clear hP HP HQ HN8 HB8 HX
    go_upto_region 11 with fail
    try rw [eX2]
    generalize W8.setCell ⟨g5,1,none⟩ (zI X2)=W9 at HP9 HN9 HB9 ⊢
    clear eX2 m1 q1 f1
    go_wp2_with fail
    exact⟨⟨i+1,(X1,X2),hlt,rfl,HB9,HN9,HP9,HD⟩,by simp only [intOf]; omega⟩
   ·obtain rfl:i=t.ts.length:=by omega
    have hnot:¬ (t.ts.length:Int) < (t.ts.length:Int):=by omega
    have HE3:Hid (S=m):=by show _=_; rw [HRR.out,List.drop_length]; rfl
    have HBS:Hid (Below w§ w (wr.setRow g2 (coV m))):=Qc HBR.out hg2 _
    have HNS:Hid ((wr.setRow g2 (coV m)).heap[g2]? = some (.cells (coV m) 34 (0,0))):=setRow_heap _ _ _ _ _ _ HNR.out
    go_wp2_with (first | (refine wpList_load_row rfl 34 (.tmp 5) rfl g5 rfl 34 (coV m) (0,0) _ HMR.out Tryz.underlying34 rfl JG ?_) | (refine wpList_store_row rfl 34 (.tmp 2) (.tmp 37) rfl g2 (coV m) rfl rfl 34 #[zI 0,zI 0] HNR.out JG rfl (coV_all _) ?_))
    exact bodyPost_ret (Rt2 rfl _ _ g2 34 (coV m) (0,0) _ rfl HNS.out Tryz.underlying34 rfl JG) rfl ⟨by rw [HE3.out]; rfl,HBS.out⟩
def Jf (n:Int):Array Value:=#[.int .u64 n]
theorem J0 (n:Int):(Jf n).all (·.oneCell')=true:=by simp [Jf,Value.oneCell']
theorem inf104:(Tryz.prog.info? 104).map (fun i=>(i.zero,i.size,i.bytes))=some (some (.int .u64 0),1,8):=by kernel_rfl
theorem OwnK.put {w V:World}{b t:Nat}{x:Value}{bs:List (Nat × Nat × Array Value)}{e sz:Nat}{v:Value}{vs:List (Array Value)}(h:OwnK w V ((b,t,#[x]) :: bs) e sz v vs) (hN:∀ p ∈ bs,p.1≠b) (u:Value):OwnK w (V.setCell ⟨b,0,none⟩ u) ((b,t,#[u]) :: bs) e sz v vs:=by
 obtain⟨q1,q2,q3⟩:=h.K _ (List.mem_cons_self ..)
 refine⟨owns_blk' h.R fun g hg=>heap_setCell_other _ _ _ _ (fun e=>q3 (by rw [hg,e])),h.Z,h.B.setCell q2 _,fun p hp=>?_⟩
 rcases List.mem_cons.1 hp with rfl | hp
 ·exact⟨Hs0 u q1,q2,q3⟩
 ·obtain⟨r1,r2,r3⟩:=h.K p (List.mem_cons_of_mem _ hp)
  exact⟨(heap_setCell_other _ _ _ _ (hN p hp)).trans r1,r2,r3⟩
structure Wr (w0 V:World) (b:Nat) (bs:List (Nat × Nat × Array Value)) (zs:List Int):Prop where
 H:∃ v,OwnK w0 V ((b,136,#[v]) :: bs) 104 1 v (zs.map Jf)
 N:∀ p ∈ bs,p.1≠b
theorem Wr.below {w0 V:World}{b:Nat}{bs:List (Nat × Nat × Array Value)}{zs:List Int}(h:Wr w0 V b bs zs):Below w0§ w0 V:=by obtain⟨v,h⟩:=h.H; exact h.B
theorem Wr.on {w0 V V':World}{b:Nat}{bs:List (Nat × Nat × Array Value)}{zs:List Int}(h:Wr w0 V b bs zs) (k:Below V§ V V'):Wr w0 V' b bs zs:=by
 obtain⟨v,h1⟩:=h.H
 exact⟨⟨v,h1.on k⟩,h.N⟩
theorem Wr.blt {w0 V:World}{b:Nat}{bs:List (Nat × Nat × Array Value)}{zs:List Int}(h:Wr w0 V b bs zs):b < V§:=by
 obtain⟨v,h1⟩:=h.H
 exact (Array.getElem?_eq_some_iff.1 h1.box).1
theorem Wr.add {w0 V V':World}{b:Nat}{bs:List (Nat × Nat × Array Value)}{zs:List Int}(h:Wr w0 V b bs zs) (k:Below V§ V V') (g t:Nat) (cs:Array Value) (hg:V§≤g) (hh:V'.heap[g]? = some (.cells cs t (0,0))):Wr w0 V' b ((g,t,cs) :: bs) zs:=by
 have hb:=h.blt
 obtain⟨v,h1⟩:=h.H
 have h2:=h1.on k
 refine⟨⟨v,h2.R,h2.Z,h2.B,fun p hp=>?_⟩,fun p hp=>?_⟩
 ·rcases List.mem_cons.1 hp with rfl | hp
  ·exact h2.K _ (List.mem_cons_self ..)
  ·rcases List.mem_cons.1 hp with rfl | hp
   ·exact⟨hh,by have:=h1.B.size; show w0§≤g; omega,fun e=>by have:=(h1.lt _ e).2; simp only at this; omega⟩
   ·exact h2.K p (List.mem_cons_of_mem _ hp)
 ·rcases List.mem_cons.1 hp with rfl | hp
  ·show g≠b; omega
  ·exact h.N p hp
theorem Wr.less {w0 V:World}{b:Nat}{q:Nat × Nat × Array Value}{bs:List (Nat × Nat × Array Value)}{zs:List Int}(h:Wr w0 V b (q :: bs) zs):Wr w0 V b bs zs:=by
 obtain⟨v,h1⟩:=h.H
 refine⟨⟨v,h1.R,h1.Z,h1.B,fun p hp=>?_⟩,fun p hp=>h.N p (List.mem_cons_of_mem _ hp)⟩
 rcases List.mem_cons.1 hp with rfl | hp
 ·exact h1.K _ (List.mem_cons_self ..)
 ·exact h1.K p (List.mem_cons_of_mem _ (List.mem_cons_of_mem _ hp))
theorem Wr.box {w0 V:World}{b:Nat}{q:Nat × Nat × Array Value}{bs:List (Nat × Nat × Array Value)}{zs:List Int}(h:Wr w0 V b (q :: bs) zs):V.heap[q.1]? = some (.cells q.2.2 q.2.1 (0,0)):=by
 obtain⟨v,h1⟩:=h.H
 exact (h1.K q (List.mem_cons_of_mem _ (List.mem_cons_self ..))).1
theorem Wr.at {w0 V:World}{b:Nat}{bs:List (Nat × Nat × Array Value)}{zs:List Int}(h:Wr w0 V b bs zs) {q:Nat × Nat × Array Value}(hq:q ∈ bs):V.heap[q.1]? = some (.cells q.2.2 q.2.1 (0,0)):=by
 obtain⟨v,h1⟩:=h.H
 exact (h1.K q (List.mem_cons_of_mem _ hq)).1
def iA (ns:List Int):Array Value:=(ns.map (Value.int .i64)).toArray
theorem iA_at {V:World}{G:Nat}{ns:List Int}(h:V.heap[G]? = some (.cells (iA ns) 3 (0,0))) (i:Nat) (hi:i < ns.length):V.cell? ⟨G,i,none⟩=some (zI ns[i]):=by
 rw [Co h]
 simp [iA,hi]
theorem Qq {w:World}{ops:Array Oper}{rest:List Oper}{o:Oper}{a:Act}{Q:Exit→Act→World→Prop}(hgd:o.guard=none) (t e:TypeId) (x:Operand) (ho:o.op=.buildSlice t 1 #[(0,x)])
  (cs:Array Value) (u:Value) (hx:a.eval x=u) (hc:u.cells=cs) (n:Nat) (z:Value) (ht:Tryz.prog.underlying t=some (.slice e)) (by_:Nat) (hi:(Tryz.prog.info? e).map (fun i=>(i.zero,i.size,i.bytes))=some (some z,n,by_)) (hz:z.cells.size=n) (hn:cs.size=n) (h0:0 < n) (h1:n≤1000)
  (h:wpList Tryz.prog ops Q rest (a.put o.dst (.slice (some ⟨w§,0,none⟩) 1 1)) (w.alloc (.cells cs e))):wpList Tryz.prog ops Q (o :: rest) a w:=by
 refine wpList_plain hgd fun Kk hK=>?_
 obtain⟨i0,hi0,hz0,hz1,hz2⟩:=info_parts hi
 have hu:=run_underlying ht w
 have hf:Instr.fill (fun i=>some (i * n,n)) ((Array.range (1 * n)).map (z.cells[· % z.cells.size]!)) [(0,u)]=some cs:=by
  obtain⟨A,hA⟩:∃ A,(Array.range (1 * n)).map (z.cells[· % z.cells.size]!)=A:=⟨_,rfl⟩
  have hAs:A.size=n:=by rw [← hA]; simp
  rw [hA]
  have e3:Instr.fill (fun i=>some (i * n,n)) A [(0,u)]=if (decide (cs.size≠n) || decide (0 * n+cs.size > A.size))=true then none else some (cs.zipIdx.foldl (fun (x:Array Value) (q:Value × Nat)=>x.setIfInBounds (0 * n+q.2) q.1) A):=by rw [← hc]; rfl
  rw [e3,if_neg (by simp; omega)]
  exact congrArg some (fold_all n cs _ (by omega))
 have hr:(Instr.buildSlice t 1 #[(0,u)]).run Tryz.prog w=.ok (.slice (some ⟨w§,0,none⟩) 1 1) (w.alloc (.cells cs e)):=by
  have e1:¬ n > 16777216:=by omega
  have e2:¬ n=0:=by omega
  rw [show (1 * n)=n from Nat.one_mul n] at hf
  simp [Instr.buildSlice,Sem.run_bind,hu,sizeOf,zeroValue,typeInfo,hi0,hz0,hz1,e1,e2,hf,newRow,newObj]
  rfl
 unfold Oper.wp execOp
 simp only [ho,List.map_toArray,List.map_cons,List.map_nil,hx,Sem.run_bind,hr,Result.andThen_ok]
 exact hK _ _ h
theorem Jy (b G:Nat) (ns zs:List Int) (bs:List (Nat × Nat × Array Value)) (w:World) (w0:World) (h:Wr w0 w b ((G,3,iA ns) :: bs) zs) (hns:∀ n ∈ ns,0≤n∧n≤9223372036854775807) (hz:zs.length+ns.length≤1000000):Calls zG 77 #[zP b,.slice (some ⟨G,0,none⟩) ns.length ns.length] w fun e w'=>e=.returned (.tuple #[])∧Wr w0 w' b ((G,3,iA ns) :: bs) (zs ++ ns):=by
 have HW:Hid (Wr w0 w b ((G,3,iA ns) :: bs) (zs ++ ns.take 0)):=by show Wr _ _ _ _ _; rw [List.take_zero,List.append_nil]; exact h
 have HNS:=zH hns
 have HLZ:=zH hz
 have hnl:(ns.length:Int)≤1000000:=by omega
 clear h hns hz
 go_enter Tryz.func77,Tryz.ntmps77
 go_wp2_with fail
 go_loopw [8] (fun q wr=>∃ (i:Nat),i≤ns.length∧q=zI i∧Hid (Wr w0 wr b ((G,3,iA ns) :: bs) (zs ++ ns.take i))) (fun q _=>ns.length - (intOf q).toNat)
 case atStart=>exact⟨0,by omega,rfl,HW⟩
 case round =>
  obtain⟨i,hi,rfl,HWR⟩:=hrel
  by_cases hlt:i < ns.length
  ·have hlt':(i:Int) < (ns.length:Int):=by omega
   have hmx:(i:Int)+1≤9223372036854775807:=by omega
   have ci:=iA_at HWR.out.box i hlt
   obtain⟨hn0,hn1⟩:=HNS.out ns[i] (List.getElem_mem hlt)
   have HTK:=zH (List.take_succ_eq_append_getElem hlt)
   obtain⟨n,en⟩:∃ n,ns[i]=n:=⟨_,rfl⟩
   rw [en] at ci hn0 hn1 HTK
   have hmod:n % 18446744073709551616=n:=by omega
   obtain⟨v,hO⟩:=HWR.out.H
   have HO:=zH hO
   have HNN:=zH HWR.out.N
   have cb:wr.cell? ⟨b,0,none⟩=some v:=Co hO.box 0
   have HLL:Hid (((zs ++ ns.take i).map Jf).length≤1000000):=by show _≤_; rw [List.length_map,List.length_append,List.length_take]; have:=HLZ.out; omega
   clear en hO HWR
   go_wp2_with (first | (refine Qq rfl 134 104 (.tmp 18) rfl (Jf n) (.int .u64 n) rfl rfl 1 _ Tryz.underlying134 8 inf104 rfl rfl (by decide) (by decide) ?_) | (refine Je HO.out 134 (Jf n) rfl (J0 n) _ 8 Tryz.underlying134 inf104 rfl (by decide) HLL.out (by decide) rfl (.tmp 16) (.tmp 19) rfl rfl rfl ?_; intro g cap w8 HO8; have xb:=Co HO8.box 0; have fb:=Fo HO8.box 0))
   refine⟨⟨i+1,hlt,rfl,?_⟩,by simp only [intOf]; omega⟩
   have hLe:((zs ++ ns.take i).map Jf).length=zs.length+i:=by rw [List.length_map,List.length_append,List.length_take]; omega
   rw [hLe] at HO8
   have hq:=HO8.put HNN.out (.slice (some ⟨g,0,none⟩) (zs.length+i+1) cap)
   refine⟨⟨.slice (some ⟨g,0,none⟩) (zs.length+i+1) cap,?_⟩,HNN.out⟩
   rw [HTK.out,← List.append_assoc,List.map_append]
   exact hq
  ·obtain rfl:i=ns.length:=by omega
   have hnot:¬ (ns.length:Int) < (ns.length:Int):=by omega
   have HE:Hid (Wr w0 wr b ((G,3,iA ns) :: bs) (zs ++ ns)):=by have:=HWR.out; rw [List.take_length] at this; exact this
   go_wp2_with fail
   go_end0
   exact⟨rfl,HE.out⟩
theorem step_one {w V:World}{bs:List (Nat × Nat × Array Value)}{e sz:Nat}{v:Value}{vs:List (Array Value)}(hL:OwnK w V bs e sz v vs) (t:TypeId) (cs:Array Value) (hcs:cs.size=sz) (h1:cs.all (·.oneCell')=true)
  (z:Value) (by_:Nat) (ht:Tryz.prog.underlying t=some (.slice e)) (hi:(Tryz.prog.info? e).map (fun i=>(i.zero,i.size,i.bytes))=some (some z,sz,by_)) (hz:z.cells.size=sz) (h0:0 < sz) (hn:vs.length≤1000000) (hby:by_≤1000)
  {ops:Array Oper}{o:Oper}{a:Act}{K:Act→World→Prop}{Q:Exit→Act→World→Prop}{E:Prop}(hgd:o.guard=none) (d x:Operand)
  (ho:o.op=.call { callee:=.builtin .append,args:=#[d,x],argTypes:=#[t,t] }) (hs:a.eval d=v) (hx:a.eval x=.slice (some ⟨V§,0,none⟩) 1 1)
  (h:∀ g cap w',OwnK w w' bs e sz (.slice (some ⟨g,0,none⟩) (vs.length+1) cap) (vs ++ [cs])→K (a.put o.dst (.slice (some ⟨g,0,none⟩) (vs.length+1) cap)) w') :
  if Region.wanted o (yielded ops a.tmps)=true then Oper.wp Tryz.prog o a (V.alloc (.cells cs e)) K Q else E:=by
 obtain⟨i0,hi0,hz0,hz1,hz2⟩:=info_parts hi
 have hsz:=Sa V (.cells cs e)
 have hA:OwnK w (V.alloc (.cells cs e)) bs e sz v vs:=hL.on (Bn _ _)
 have hwV:=hL.B.size
 have hby2:(vs.length+1) * by_≤140737488355328:=by
  have:(vs.length+1) * by_≤1000001 * 1000:=Nat.mul_le_mul (by omega) hby
  omega
 refine step_append_lies _ hgd d x t ho w§ e i0 z sz by_ ht hi0 hz0 hz1 hz2 hz h0 v vs.length _ hs hA.R ⟨V§,0,none⟩ 1 1 cs.toList hx (by simp; exact hcs) (World.news_of_block (Hn V _)) (fun u hu=>(Array.all_eq_true_iff_forall_mem.1 h1) u (by simpa using hu)) (by decide) (by unfold maxLen; omega) hby2 (by omega) _ rfl ?_
 intro g cap w' h2 h3 h4 h5
 refine h g cap w' ⟨?_,?_,?_,?_⟩
 ·rw [List.length_append,List.length_singleton,List.map_append,List.flatten_append]
  simpa using h2
 ·intro y hy
  rcases List.mem_append.1 hy with hy | hy
  ·exact hL.Z y hy
  ·rw [List.mem_singleton.1 hy]; exact hcs
 ·exact hA.B.grown h3 (by omega) fun k hk=>(hA.lt k hk).1
 ·intro p hp
  obtain⟨q1,q2,q3⟩:=hA.K p hp
  have hl:=(Array.getElem?_eq_some_iff.1 q1).1
  refine⟨(h3.block _ hl (fun e=>q3 e.symm)).trans q1,q2,fun e=>?_⟩
  have hg:g=p.1:=by simpa [Value.ownBlock] using e
  rcases h4 with h4 | h4
  ·exact q3 (by rw [h4,hg])
  ·omega
theorem Arc {P:Program}{md:Region.Mode}{ops:Array Oper}{Q:Exit→Act→World→Prop}{fuel:Nat}{listed:Array Bool}{a:Act}{w:World}{i:Nat}{o:Oper}{rs:List Nat}(ho:ops[i]? = some o)
  (h:∀ K':Act→World→Prop,Shut (∀ a w,wpAny P md ops Q fuel (listed.setIfInBounds i true) a w→K' a w)→if Region.wanted o (yielded ops a.tmps)=true then Oper.wp P o a w K' Q else K' (a.put o.dst undef) w)
  (hs:AllReady P md ops Q fuel listed a w rs):AllReady P md ops Q fuel listed a w (i :: rs):=AllReady.cons ho (fun K hK=>h K hK) hs
def sgZ (l:List Int):List Int:=(l.length:Int) :: l.map W.zigN
theorem inf3:(Tryz.prog.info? 3).map (fun i=>(i.zero,i.size,i.bytes))=some (some (zI 0),1,8):=by kernel_rfl
theorem wsigned_any (b:Nat) (l zs:List Int) (a:Option Addr) (c:Nat) (bs:List (Nat × Nat × Array Value)) (w:World) (w0:World) (h:Wr w0 w b bs zs) (hk:SlAt w0 1 a c (l.map QF)) (hi:∀ n ∈ l,I64 n) (hz:zs.length+l.length+1≤1000000):Calls zG 76 #[zP b,.slice a l.length c] w fun e w'=>e=.returned (.tuple #[])∧Wr w0 w' b bs (zs ++ sgZ l):=by
 have HSL:=zH hk
 have HLI:Hid (∀ n ∈ l,I64 n):=hi
 have HLZ:=zH hz
 have hlm:(l.length:Int)≤1000000:=by omega
 have HW1:Hid (Wr w0 (w.alloc (.cells (iA [(l.length:Int)]) 3)) b ((w§,3,iA [(l.length:Int)]) :: bs) zs):=h.add (Bn _ _) _ _ _ (Nat.le_refl _) (Hn _ _)
 have cP:=Jy b w§ [(l.length:Int)] zs bs (w.alloc (.cells (iA [(l.length:Int)]) 3)) w0 HW1.out (by intro n hn; rw [List.mem_singleton] at hn; omega) (by simp only [List.length_singleton]; omega)
 clear h hk hi hz HW1
 go_enter Tryz.func76,Tryz.ntmps76
 go_wp2_with (refine Qq rfl 192 3 (.tmp 8) rfl (iA [(l.length:Int)]) (zI (l.length:Int)) rfl rfl 1 _ Tryz.underlying192 8 inf3 rfl rfl (by decide) (by decide) ?_)
 refine cP.mono ?_
 rintro e w2 ⟨rfl,hw2⟩
 have HW2:=zH hw2.less
 clear cP hw2
 go_wp2_with fail
 go_loopw [13] (fun q wr=>∃ (i:Nat),i≤l.length∧q=zI i∧Hid (Wr w0 wr b bs (zs ++ ((l.length:Int) :: (l.take i).map W.zigN)))) (fun q _=>l.length - (intOf q).toNat)
 case atStart=>exact⟨0,by omega,rfl,HW2⟩
 case round =>
  obtain⟨i,hi,rfl,HWR⟩:=hrel
  by_cases hlt:i < l.length
  ·have hlt':(i:Int) < (l.length:Int):=by omega
   have hmx:(i:Int)+1≤9223372036854775807:=by omega
   obtain⟨bb,o,ea,hat⟩:=(HSL.out.on (mapz Q9 _) HWR.out.below).2.2 i (by rw [List.length_map]; exact hlt)
   simp only [List.getElem_map] at hat
   have hni:=HLI.out l[i] (List.getElem_mem hlt)
   have HTK:Hid (((l.length:Int) :: (l.take (i+1)).map W.zigN)=((l.length:Int) :: (l.take i).map W.zigN) ++ [W.zigN l[i]]):=by show _=_; rw [List.take_succ_eq_append_getElem hlt,List.map_append]; rfl
   obtain⟨n,en⟩:∃ n,l[i]=n:=⟨_,rfl⟩
   rw [en] at hat hni HTK
   have ci:wr.cell? ⟨bb,o+i,none⟩=some (zI n):=by have:=hat 0 (by omega); rw [Nat.mul_one,Nat.add_zero] at this; exact this
   have hZG:=fun w=>W.zig_any n hni.1 hni.2 w
   obtain⟨z,ez⟩:∃ z,W.zigN n=z:=⟨_,rfl⟩
   rw [ez] at hZG HTK
   have HZG:=zH hZG
   obtain⟨v,hO⟩:=HWR.out.H
   have HO:Hid (OwnK w0 wr.drew ((b,136,#[v]) :: bs) 104 1 v ((zs ++ ((l.length:Int) :: (l.take i).map W.zigN)).map Jf)):=hO.on ⟨rfl,rfl,rfl,Nat.le_refl _,fun _ _=>rfl⟩
   have HNN:Hid (∀ p ∈ bs,p.1≠b):=HWR.out.N
   have cb:wr.cell? ⟨b,0,none⟩=some v:=Co hO.box 0
   have cbd:wr.drew.cell? ⟨b,0,none⟩=some v:=Co HO.out.box 0
   have cba:(wr.drew.alloc (.cells (Jf z) 104)).cell? ⟨b,0,none⟩=some v:=Co ((HO.out.on (Bn _ _)).box) 0
   have cbb:(wr.drew.alloc (.cells #[.int .u64 z] 104)).cell? ⟨b,0,none⟩=some v:=cba
   have cbc:(wr.alloc (.cells #[.int .u64 z] 104)).cell? ⟨b,0,none⟩=some v:=cba
   have HLL:Hid (((zs ++ ((l.length:Int) :: (l.take i).map W.zigN)).map Jf).length≤1000000):=by show _≤_; rw [List.length_map,List.length_append]; simp only [List.length_cons,List.length_map,List.length_take]; have:=HLZ.out; omega
   subst ea
   clear en ez hO HWR hat hni hZG
   go_upto_region 4 with fail
   refine wp_region_any zK ?_
   change wpAny _ _ _ _ _ _ _ wr.drew
   refine wpAny_take (i:=0) (v:=?_) rfl zK zK zK (fun _ _ _ h=>h) (Or.inl ⟨by rfl,?_⟩) ?_
   rotate_left
   ·(intro v; go_simp; try (with_reducible rfl))
   try simp [Act.put]
   refine wpAny_take (i:=1) (v:=?_) rfl zK zK zK (fun _ _ _ h=>h) (Or.inl ⟨by rfl,?_⟩) ?_
   rotate_left
   ·(intro v; go_simp; try (with_reducible rfl))
   try simp [Act.put]
   refine wpAny_take (i:=2) (v:=?_) rfl zK zK zK (fun _ _ _ h=>h) (Or.inl ⟨by rfl,?_⟩) ?_
   rotate_left
   ·(intro v; go_simp; try (with_reducible rfl))
   try simp [Act.put]
   refine wpAny_take (i:=3) (v:=?_) rfl zK zK zK (fun _ _ _ h=>h) (Or.inl ⟨by rfl,?_⟩) ?_
   rotate_left
   ·(intro v; go_simp; try (with_reducible rfl))
   try simp [Act.put]
   refine wpAny_take (i:=5) (v:=?_) rfl zK zK zK (fun _ _ _ h=>h) (Or.inl ⟨by rfl,?_⟩) ?_
   rotate_left
   ·(intro v; go_simp; try (with_reducible rfl))
   try simp [Act.put]
   refine wpAny_ready (rs:=[4,6]) zK (by simp) (Arc rfl (fun K hK=>?_) (Arc rfl (fun K hK=>?_) AllReady.nil))
   ·go_simp
    refine hK.out _ _ ?_
    clear hK K
    try simp [Act.put]
    refine wpAny_ready (rs:=[6]) zK (by simp) (Arc rfl (fun K hK=>?_) AllReady.nil)
    go_simp
    go_at_call 106
    refine (HZG.out _).mono ?_
    rintro e w1 ⟨rfl,rfl⟩
    refine hK.out _ _ ?_
    clear hK K
    try simp [Act.put]
    refine wpAny_ready (rs:=[7]) zK (by simp) (Arc rfl (fun K hK=>?_) AllReady.nil)
    go_simp
    refine hK.out _ _ ?_
    clear hK K
    try simp [Act.put]
    refine wpAny_ready (rs:=[8]) zK (by simp) (Arc rfl (fun K hK=>?_) AllReady.nil)
    refine step_one HO.out 134 (Jf z) rfl (J0 z) _ 8 Tryz.underlying134 inf104 rfl (by decide) HLL.out (by decide) rfl (.tmp 21) (.tmp 24) rfl (by simp [Act.eval]) (by simp [Act.eval]) ?_
    intro g cap w8 HO8
    have xb:=Co HO8.box 0
    have fb:=Fo HO8.box 0
    refine hK.out _ _ ?_
    clear hK K
    try simp [Act.put]
    refine wpAny_take (i:=9) (v:=?_) rfl zK zK zK (fun _ _ _ h=>h) (Or.inl ⟨by rfl,?_⟩) ?_
    rotate_left
    ·(intro v; go_simp; try (with_reducible rfl))
    try simp [Act.put]
    refine wpAny_take (i:=10) (v:=?_) rfl zK zK zK (fun _ _ _ h=>h) (Or.inl ⟨by rfl,?_⟩) ?_
    rotate_left
    ·(intro v; go_simp; try (with_reducible rfl))
    try simp [Act.put]
    refine wpAny_ready (rs:=[11]) zK (by simp) (Arc rfl (fun K hK=>?_) AllReady.nil)
    go_simp
    refine hK.out _ _ ?_
    clear hK K
    try simp [Act.put]
    refine wpAny_done zK ?_ _
    have hLe:((zs ++ ((l.length:Int) :: (l.take i).map W.zigN)).map Jf).length=zs.length+(i+1):=by rw [List.length_map,List.length_append]; rw [List.length_cons,List.length_map,List.length_take]; omega
    rw [hLe] at HO8
    try rw [hLe]
    have hq:=HO8.put HNN.out (.slice (some ⟨g,0,none⟩) (zs.length+(i+1)+1) cap)
    have HQ:Hid (Wr w0 (w8.setCell ⟨b,0,none⟩ (.slice (some ⟨g,0,none⟩) (zs.length+(i+1)+1) cap)) b bs (zs ++ ((l.length:Int) :: (l.take (i+1)).map W.zigN))):=by
     refine⟨⟨.slice (some ⟨g,0,none⟩) (zs.length+(i+1)+1) cap,?_⟩,HNN.out⟩
     rw [HTK.out,← List.append_assoc,List.map_append]
     exact hq
    generalize w8.setCell ⟨b,0,none⟩ (.slice (some ⟨g,0,none⟩) (zs.length+(i+1)+1) cap)=W9 at HQ ⊢
    clear hq HO8 hLe xb fb
    go_wp2_with fail
    exact⟨⟨i+1,hlt,rfl,HQ⟩,by simp only [intOf]; omega⟩
   ·go_simp
    go_at_call 106
    refine (HZG.out _).mono ?_
    rintro e w1 ⟨rfl,rfl⟩
    refine hK.out _ _ ?_
    clear hK K
    try simp [Act.put]
    refine wpAny_ready (rs:=[4,7]) zK (by simp) (Arc rfl (fun K hK=>?_) (Arc rfl (fun K hK=>?_) AllReady.nil))
    ·go_simp
     refine hK.out _ _ ?_
     clear hK K
     try simp [Act.put]
     refine wpAny_ready (rs:=[7]) zK (by simp) (Arc rfl (fun K hK=>?_) AllReady.nil)
     go_simp
     refine hK.out _ _ ?_
     clear hK K
     try simp [Act.put]
     refine wpAny_ready (rs:=[8]) zK (by simp) (Arc rfl (fun K hK=>?_) AllReady.nil)
     refine step_one HO.out 134 (Jf z) rfl (J0 z) _ 8 Tryz.underlying134 inf104 rfl (by decide) HLL.out (by decide) rfl (.tmp 21) (.tmp 24) rfl (by simp [Act.eval]) (by simp [Act.eval]) ?_
     intro g cap w8 HO8
     have xb:=Co HO8.box 0
     have fb:=Fo HO8.box 0
     refine hK.out _ _ ?_
     clear hK K
     try simp [Act.put]
     refine wpAny_take (i:=9) (v:=?_) rfl zK zK zK (fun _ _ _ h=>h) (Or.inl ⟨by rfl,?_⟩) ?_
     rotate_left
     ·(intro v; go_simp; try (with_reducible rfl))
     try simp [Act.put]
     refine wpAny_take (i:=10) (v:=?_) rfl zK zK zK (fun _ _ _ h=>h) (Or.inl ⟨by rfl,?_⟩) ?_
     rotate_left
     ·(intro v; go_simp; try (with_reducible rfl))
     try simp [Act.put]
     refine wpAny_ready (rs:=[11]) zK (by simp) (Arc rfl (fun K hK=>?_) AllReady.nil)
     go_simp
     refine hK.out _ _ ?_
     clear hK K
     try simp [Act.put]
     refine wpAny_done zK ?_ _
     have hLe:((zs ++ ((l.length:Int) :: (l.take i).map W.zigN)).map Jf).length=zs.length+(i+1):=by rw [List.length_map,List.length_append]; rw [List.length_cons,List.length_map,List.length_take]; omega
     rw [hLe] at HO8
     try rw [hLe]
     have hq:=HO8.put HNN.out (.slice (some ⟨g,0,none⟩) (zs.length+(i+1)+1) cap)
     have HQ:Hid (Wr w0 (w8.setCell ⟨b,0,none⟩ (.slice (some ⟨g,0,none⟩) (zs.length+(i+1)+1) cap)) b bs (zs ++ ((l.length:Int) :: (l.take (i+1)).map W.zigN))):=by
      refine⟨⟨.slice (some ⟨g,0,none⟩) (zs.length+(i+1)+1) cap,?_⟩,HNN.out⟩
      rw [HTK.out,← List.append_assoc,List.map_append]
      exact hq
     generalize w8.setCell ⟨b,0,none⟩ (.slice (some ⟨g,0,none⟩) (zs.length+(i+1)+1) cap)=W9 at HQ ⊢
     clear hq HO8 hLe xb fb
     go_wp2_with fail
     exact⟨⟨i+1,hlt,rfl,HQ⟩,by simp only [intOf]; omega⟩
    ·go_simp
     refine hK.out _ _ ?_
     clear hK K
     try simp [Act.put]
     refine wpAny_ready (rs:=[4]) zK (by simp) (Arc rfl (fun K hK=>?_) AllReady.nil)
     go_simp
     refine hK.out _ _ ?_
     clear hK K
     try simp [Act.put]
     refine wpAny_ready (rs:=[8]) zK (by simp) (Arc rfl (fun K hK=>?_) AllReady.nil)
     refine step_one HO.out 134 (Jf z) rfl (J0 z) _ 8 Tryz.underlying134 inf104 rfl (by decide) HLL.out (by decide) rfl (.tmp 21) (.tmp 24) rfl (by simp [Act.eval]) (by simp [Act.eval]) ?_
     intro g cap w8 HO8
     have xb:=Co HO8.box 0
     have fb:=Fo HO8.box 0
     refine hK.out _ _ ?_
     clear hK K
     try simp [Act.put]
     refine wpAny_take (i:=9) (v:=?_) rfl zK zK zK (fun _ _ _ h=>h) (Or.inl ⟨by rfl,?_⟩) ?_
     rotate_left
     ·(intro v; go_simp; try (with_reducible rfl))
     try simp [Act.put]
     refine wpAny_take (i:=10) (v:=?_) rfl zK zK zK (fun _ _ _ h=>h) (Or.inl ⟨by rfl,?_⟩) ?_
     rotate_left
     ·(intro v; go_simp; try (with_reducible rfl))
     try simp [Act.put]
     refine wpAny_ready (rs:=[11]) zK (by simp) (Arc rfl (fun K hK=>?_) AllReady.nil)
     go_simp
     refine hK.out _ _ ?_
     clear hK K
     try simp [Act.put]
     refine wpAny_done zK ?_ _
     have hLe:((zs ++ ((l.length:Int) :: (l.take i).map W.zigN)).map Jf).length=zs.length+(i+1):=by rw [List.length_map,List.length_append]; rw [List.length_cons,List.length_map,List.length_take]; omega
     rw [hLe] at HO8
     try rw [hLe]
     have hq:=HO8.put HNN.out (.slice (some ⟨g,0,none⟩) (zs.length+(i+1)+1) cap)
     have HQ:Hid (Wr w0 (w8.setCell ⟨b,0,none⟩ (.slice (some ⟨g,0,none⟩) (zs.length+(i+1)+1) cap)) b bs (zs ++ ((l.length:Int) :: (l.take (i+1)).map W.zigN))):=by
      refine⟨⟨.slice (some ⟨g,0,none⟩) (zs.length+(i+1)+1) cap,?_⟩,HNN.out⟩
      rw [HTK.out,← List.append_assoc,List.map_append]
      exact hq
     generalize w8.setCell ⟨b,0,none⟩ (.slice (some ⟨g,0,none⟩) (zs.length+(i+1)+1) cap)=W9 at HQ ⊢
     clear hq HO8 hLe xb fb
     go_wp2_with fail
     exact⟨⟨i+1,hlt,rfl,HQ⟩,by simp only [intOf]; omega⟩
  ·obtain rfl:i=l.length:=by omega
   have hnot:¬ (l.length:Int) < (l.length:Int):=by omega
   have HE:Hid (Wr w0 wr b bs (zs ++ sgZ l)):=by have:=HWR.out; rw [List.take_length] at this; exact this
   go_wp2_with fail
   go_end0
   exact⟨rfl,HE.out⟩
end Go.Proofs.YteedmmljahgpjaaGreatDoor
