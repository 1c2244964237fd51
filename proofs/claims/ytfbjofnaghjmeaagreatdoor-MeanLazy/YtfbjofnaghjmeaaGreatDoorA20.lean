import Derived.Test.YtfbjofnaghjmeaaGreatDoorA19
namespace Go.Proofs.YtfbjofnaghjmeaaGreatDoor
open Go.Proofs.Tryz
set_option maxRecDepth 100000
set_option maxHeartbeats 8000000
open Go.RowKit
set_option linter.unusedVariables false
def JH (r:Qy):Int:=fs (cE r.m) (fs (cntE r.ds.length 1 8) (fsL (r.ds.map doE)))
def VA (r:Qy):Prop:=size r.m≤1000000000000∧∀ d ∈ r.ds,DoZ d
def Jg (r:Qq):Int:=fs (namE r.x) (fs (cntE r.rs.length 0 12) (fsL (r.rs.map JH)))
def XW (r:Qq):Prop:=∀ d ∈ r.rs,VA d
theorem F5 (r:Qy):∀ j,j < 8→r.vals[0+j]? = r.m.vals.toList[j]?:=fun j hj=>by
 match j,hj with
 | 0,_=>rfl
 | 1,_=>rfl
 | 2,_=>rfl
 | 3,_=>rfl
 | 4,_=>rfl
 | 5,_=>rfl
 | 6,_=>rfl
 | 7,_=>rfl
theorem F6 (r:Qy) (w:yW) (hl:J5 w r) (hz:VA r) (ht:Tab w):QI 208 #[.agg r.vals] w (JH r):=by
 have hb0:=Qb w (.cells r.vals 100)
 have hn0:=Qc w (.cells r.vals 100)
 have HH:Hid (J5 w r∧Tab w∧VA r):=⟨hl,ht,hz⟩
 have HN0:=zH hn0
 have HB0:=zH hb0
 obtain⟨E,eE⟩:∃ E,JH r=E:=jV
 have HE:Hid (JH r=E):=eE
 rw [eE]
 unfold JH at HE
 clear eE
 have c1:=(KU r.m (zA w r.vals 100) (hl.1.on hb0) hz.1 (ht.on hb0)).two
 clear hl ht hz hb0 hn0
 unfold QI
 rcases c1 with ⟨h1,c1⟩ | ⟨h1,c1⟩
 ·go_enter func208,ntmps208
  go_wp2_with (refine wpList_load_mid rfl 38 (.tmp 4) rfl w§ 0 rfl r.m.vals.toList _ (QE HN0.out 0 r.m (F5 r)) underlying38 rfl (QD r.m) ?_;rw [QQ])
  refine c1.mono ?_
  rintro e w1 ⟨rfl,hb⟩
  have HB1:=zH (Qd HB0.out hb)
  have hn1:=(hb.block _ (zJ HN0.out).1).trans HN0.out
  have HN1:=zH hn1
  obtain⟨n,en⟩:∃ n,r.ds.length=n:=jV
  have q8:zQ w1 w§¢8 (.slice r.a n r.c):=by rw [← en];exact Qa hn1 8
  have HNL:Hid (r.ds.length=n):=en
  have c2:=(KJ n 1 8 w1).two
  rw [en] at HE
  clear c1 hb hn1 HN0 HB0 en
  rcases c2 with ⟨h2,c2⟩ | ⟨h2,c2⟩
  ·go_wp2_with fail
   refine c2.mono ?_
   rintro e w2 ⟨rfl,hb⟩
   have HBS:=zH (Qd HB1.out hb)
   have hn2:=(hb.block _ (zJ HN1.out).1).trans HN1.out
   have q9:zQ w2 w§¢8 (.slice r.a n r.c):=by rw [← HNL.out];exact Qa hn2 8
   have HSL:=zH HH.out.1.2.1
   obtain⟨ds,eds⟩:∃ ds,r.ds=ds:=jV
   have HDS:Hid (∀ d ∈ ds,DoL w d∧DoZ d):=fun d hd=>by rw [← eds] at hd;exact⟨HH.out.1.2.2.1 d hd,HH.out.2.2.2 d hd⟩
   rw [eds] at HSL HNL HE
   obtain⟨ra,era⟩:∃ q,r.a=q:=jV
   rw [era] at HSL q8 q9
   clear c2 hb hn2 q8 HN1 HB1 eds era
   go_wp2_with fail
   obtain rfl:=HNL.out
   go_loopw [14] (fun t wr=>∃ i:Nat,i≤ds.length∧t=zI i∧yD w wr∧Hid (fsL (ds.map doE)=fsL ((ds.drop i).map doE))) (fun t _=>ds.length - (intOf t).toNat)
   case atStart=>exact⟨0,by omega,rfl,HBS.out,rfl⟩
   case round =>
    obtain⟨i,hi,rfl,hbr,HR⟩:=hrel
    have HBR:=zH hbr
    clear hbr
    by_cases hlt:i < ds.length
    ·have hlt':(i:Int) < (ds.length:Int):=by omega
     have hmx:(i:Int)+1≤jX:=by have h1:=HSL.out.1;have h2:=HSL.out.2.1;rw [List.length_map] at h1;omega
     obtain⟨b,o,ea,hat⟩:=(HSL.out.on (mapz DoM.sz _) HBR.out).2.2 i (by rw [List.length_map];exact hlt)
     simp only [List.getElem_map] at hat
     have HMEM:Hid (ds[i] ∈ ds):=List.getElem_mem hlt
     have HD:Hid (fsL (ds.map doE)=fs (doE ds[i]) (fsL ((ds.drop (i+1)).map doE))):=by show _=_;rw [HR.out,List.drop_eq_getElem_cons hlt];rfl
     obtain⟨d,ed⟩:∃ d,ds[i]=d:=jV
     rw [ed] at hat HD HMEM
     have HRG:Hid (wr.rangeAt b (o+i * 36) d.vals.toList):=fun j v hv=>by
      have hj:j < 36:=(List.getElem?_eq_some_iff.1 hv).1
      rw [hat j hj,← hv];simp
     have HZ:Hid ((zA wr (zE 0) 121).heap[wr§]? = (zC (zE 0) 121)):=Qc _ _
     have hbx:yD wr ((zA wr (zE 0) 121).setRow wr§ d.vals):=Qn (Qb _ _) (Nat.le_refl _) _
     have HBX:=zH (Qd HBR.out hbx)
     have HNX:Hid (((zA wr (zE 0) 121).setRow wr§ d.vals).heap[wr§]? = (zC d.vals 121)):=setRow_heap _ _ _ _ _ _ HZ.out
     obtain⟨A,eA⟩:∃ A,ra=A:=jV
     rw [eA] at ea ⊢
     subst ea
     clear hat ed hbx HR
     go_upto_region 6 with (first | (refine wpList_load_mid rfl 121 (.tmp 16) rfl b (o+i * 36) rfl d.vals.toList _ HRG.out underlying121 rfl (by show _=some 36;exact Qt) ?_;rw [Array.toArray_toList]) | (refine wpList_store_row rfl 121 (.tmp 3) (.tmp 17) rfl wr§ d.vals rfl rfl 121 (zE 0) HZ.out Qt rfl (Xr ..) ?_))
     generalize hWX:World.setRow _ _ _=WX
     rw [hWX] at HBX HNX
     clear hWX HZ HRG
     have cD:=(Qe8 d WX ((HDS.out d HMEM.out).1.on HBX.out) (HDS.out d HMEM.out).2 (HH.out.2.1.on HBX.out)).two
     rcases cD with ⟨hd0,cD⟩ | ⟨hd0,cD⟩
     ·go_wp2_with (refine wpList_load_row rfl 121 (.tmp 3) rfl wr§ rfl 121 d.vals (0,0) _ HNX.out underlying121 rfl Qt ?_)
      refine cD.mono ?_
      rintro e w5 ⟨rfl,hb5⟩
      have HB5:=zH (Qd HBX.out hb5)
      clear cD hb5
      go_wp2_with fail
      exact⟨⟨i+1,hlt,rfl,HB5.out,by show _=_;rw [HD.out,fs_z hd0]⟩,by simp only [intOf];omega⟩
     ·go_wp2_with (refine wpList_load_row rfl 121 (.tmp 3) rfl wr§ rfl 121 d.vals (0,0) _ HNX.out underlying121 rfl Qt ?_)
      refine cD.mono ?_
      rintro e w5 ⟨rfl,hb5⟩
      have hE:E=doE d:=by rw [← HE.out,V0 h1 h2,HD.out,fs_n hd0]
      exact⟨rfl,.inr ⟨by rw [hE];exact hd0,by rw [hE]⟩,Qd HBX.out hb5⟩
    ·obtain rfl:i=ds.length:=by omega
     have hnot:¬ (ds.length:Int) < (ds.length:Int):=by omega
     have HZERO:Hid (fsL (ds.map doE)=0):=by show _=_;rw [HR.out,List.drop_length];rfl
     clear HR
     go_wp2_with fail
     go_end0
     exact⟨.inl ⟨by rw [← HE.out,V0 h1 h2];exact HZERO.out,rfl⟩,HBR.out⟩
  ·go_wp2_with fail
   refine c2.mono ?_
   rintro e w2 ⟨rfl,hb⟩
   have hE:E=cntE n 1 8:=by rw [← HE.out,QeL h1 h2]
   exact⟨rfl,.inr ⟨by rw [hE];exact h2,by rw [hE]⟩,Qd HB1.out hb⟩
 ·go_enter func208,ntmps208
  go_wp2_with (refine wpList_load_mid rfl 38 (.tmp 4) rfl w§ 0 rfl r.m.vals.toList _ (QE HN0.out 0 r.m (F5 r)) underlying38 rfl (QD r.m) ?_;rw [QQ])
  refine c1.mono ?_
  rintro e w1 ⟨rfl,hb⟩
  have hE:E=cE r.m:=by rw [← HE.out,fs_n h1]
  exact⟨rfl,.inr ⟨by rw [hE];exact h1,by rw [hE]⟩,Qd HB0.out hb⟩
def slE (d:Qx):Int:=namE d.x
def Q2 (S:Qg):Prop:=∀ d ∈ S.ts,XW d
def QR (S:Qg):Int:=fs (namE S.x) (fs (cntE S.rs.length 0 12) (fs (fsL (S.rs.map regE)) (fs (cntE S.ss.length 0 4) (fs (fsL (S.ss.map slE)) (fs (cntE S.ts.length 1 12) (fsL (S.ts.map Jg)))))))
theorem PL (r:Qq) (w:yW) (hl:JX w r) (hz:XW r) (ht:Tab w):QI 180 #[.agg r.vals] w (Jg r):=by
 have hb0:=Qb w (.cells r.vals 69)
 have hn0:=Qc w (.cells r.vals 69)
 have HH:Hid (JX w r∧Tab w∧XW r):=⟨hl,ht,hz⟩
 have HN0:=zH hn0
 have HB0:=zH hb0
 obtain⟨E,eE⟩:∃ E,Jg r=E:=jV
 have HE:Hid (Jg r=E):=eE
 rw [eE]
 unfold Jg at HE
 clear eE
 have q0:(zA w r.vals 69).cell? w§¢0=some (.string r.x):=Qa hn0 0
 have c1:=(Ky (x:=r.x) hl.2.2.2 (ht.on hb0)).two
 clear hl ht hz hb0 hn0
 unfold QI
 rcases c1 with ⟨h1,c1⟩ | ⟨h1,c1⟩
 ·go_enter func180,ntmps180
  go_wp2_with fail
  refine c1.mono ?_
  rintro e w1 ⟨rfl,hb⟩
  have HB1:=zH (Qd HB0.out hb)
  have hn1:=(hb.block _ (zJ HN0.out).1).trans HN0.out
  have HN1:=zH hn1
  obtain⟨n,en⟩:∃ n,r.rs.length=n:=jV
  have q8:zQ w1 w§¢1 (.slice r.a n r.c):=by rw [← en];exact Qa hn1 1
  have HNL:Hid (r.rs.length=n):=en
  have c2:=(KJ n 0 12 w1).two
  rw [en] at HE
  clear c1 hb hn1 HN0 HB0 en q0
  rcases c2 with ⟨h2,c2⟩ | ⟨h2,c2⟩
  ·go_wp2_with fail
   refine c2.mono ?_
   rintro e w2 ⟨rfl,hb⟩
   have HBS:=zH (Qd HB1.out hb)
   have hn2:=(hb.block _ (zJ HN1.out).1).trans HN1.out
   have q9:zQ w2 w§¢1 (.slice r.a n r.c):=by rw [← HNL.out];exact Qa hn2 1
   have HSL:=zH HH.out.1.1
   obtain⟨ds,eds⟩:∃ ds,r.rs=ds:=jV
   have HDS:Hid (∀ d ∈ ds,J5 w d∧VA d):=fun d hd=>by rw [← eds] at hd;exact⟨HH.out.1.2.1 d hd,HH.out.2.2 d hd⟩
   rw [eds] at HSL HNL HE
   obtain⟨ra,era⟩:∃ q,r.a=q:=jV
   rw [era] at HSL q8 q9
   clear c2 hb hn2 q8 HN1 HB1 eds era
   go_wp2_with fail
   obtain rfl:=HNL.out
   go_loopw [14] (fun t wr=>∃ i:Nat,i≤ds.length∧t=zI i∧yD w wr∧Hid (fsL (ds.map JH)=fsL ((ds.drop i).map JH))) (fun t _=>ds.length - (intOf t).toNat)
   case atStart=>exact⟨0,by omega,rfl,HBS.out,rfl⟩
   case round =>
    obtain⟨i,hi,rfl,hbr,HR⟩:=hrel
    have HBR:=zH hbr
    clear hbr
    by_cases hlt:i < ds.length
    ·have hlt':(i:Int) < (ds.length:Int):=by omega
     have hmx:(i:Int)+1≤jX:=by have h1:=HSL.out.1;have h2:=HSL.out.2.1;rw [List.length_map] at h1;omega
     obtain⟨b,o,ea,hat⟩:=(HSL.out.on (mapz Qy.sz _) HBR.out).2.2 i (by rw [List.length_map];exact hlt)
     simp only [List.getElem_map] at hat
     have HMEM:Hid (ds[i] ∈ ds):=List.getElem_mem hlt
     have HD:Hid (fsL (ds.map JH)=fs (JH ds[i]) (fsL ((ds.drop (i+1)).map JH))):=by show _=_;rw [HR.out,List.drop_eq_getElem_cons hlt];rfl
     obtain⟨d,ed⟩:∃ d,ds[i]=d:=jV
     rw [ed] at hat HD HMEM
     have HRG:Hid (wr.rangeAt b (o+i * 10) d.vals.toList):=fun j v hv=>by
      have hj:j < 10:=(List.getElem?_eq_some_iff.1 hv).1
      rw [hat j hj,← hv];simp
     have HZ:Hid ((zA wr zh 100).heap[wr§]? = (zC zh 100)):=Qc _ _
     have hbx:yD wr ((zA wr zh 100).setRow wr§ d.vals):=Qn (Qb _ _) (Nat.le_refl _) _
     have HBX:=zH (Qd HBR.out hbx)
     have HNX:Hid (((zA wr zh 100).setRow wr§ d.vals).heap[wr§]? = (zC d.vals 100)):=setRow_heap _ _ _ _ _ _ HZ.out
     obtain⟨A,eA⟩:∃ A,ra=A:=jV
     rw [eA] at ea ⊢
     subst ea
     clear hat ed hbx HR
     go_upto_region 6 with (first | (refine wpList_load_mid rfl 100 (.tmp 16) rfl b (o+i * 10) rfl d.vals.toList _ HRG.out underlying100 rfl (by show _=some 10;exact Q7) ?_;rw [Array.toArray_toList]) | (refine wpList_store_row rfl 100 (.tmp 3) (.tmp 17) rfl wr§ d.vals rfl rfl 100 zh HZ.out Q7 rfl (Vz d) ?_))
     generalize hWX:World.setRow _ _ _=WX
     rw [hWX] at HBX HNX
     clear hWX HZ HRG
     have cD:=(F6 d WX ((HDS.out d HMEM.out).1.on HBX.out) (HDS.out d HMEM.out).2 (HH.out.2.1.on HBX.out)).two
     rcases cD with ⟨hd0,cD⟩ | ⟨hd0,cD⟩
     ·go_wp2_with (refine wpList_load_row rfl 100 (.tmp 3) rfl wr§ rfl 100 d.vals (0,0) _ HNX.out underlying100 rfl Q7 ?_)
      refine cD.mono ?_
      rintro e w5 ⟨rfl,hb5⟩
      have HB5:=zH (Qd HBX.out hb5)
      clear cD hb5
      go_wp2_with fail
      exact⟨⟨i+1,hlt,rfl,HB5.out,by show _=_;rw [HD.out,fs_z hd0]⟩,by simp only [intOf];omega⟩
     ·go_wp2_with (refine wpList_load_row rfl 100 (.tmp 3) rfl wr§ rfl 100 d.vals (0,0) _ HNX.out underlying100 rfl Q7 ?_)
      refine cD.mono ?_
      rintro e w5 ⟨rfl,hb5⟩
      have hE:E=JH d:=by rw [← HE.out,V0 h1 h2,HD.out,fs_n hd0]
      exact⟨rfl,.inr ⟨by rw [hE];exact hd0,by rw [hE]⟩,Qd HBX.out hb5⟩
    ·obtain rfl:i=ds.length:=by omega
     have hnot:¬ (ds.length:Int) < (ds.length:Int):=by omega
     have HZERO:Hid (fsL (ds.map JH)=0):=by show _=_;rw [HR.out,List.drop_length];rfl
     clear HR
     go_wp2_with fail
     go_end0
     exact⟨.inl ⟨by rw [← HE.out,V0 h1 h2];exact HZERO.out,rfl⟩,HBR.out⟩
  ·go_wp2_with fail
   refine c2.mono ?_
   rintro e w2 ⟨rfl,hb⟩
   have hE:E=cntE n 0 12:=by rw [← HE.out,QeL h1 h2]
   exact⟨rfl,.inr ⟨by rw [hE];exact h2,by rw [hE]⟩,Qd HB1.out hb⟩
 ·go_enter func180,ntmps180
  go_wp2_with fail
  refine c1.mono ?_
  rintro e w1 ⟨rfl,hb⟩
  have hE:E=namE r.x:=by rw [← HE.out,fs_n h1]
  exact⟨rfl,.inr ⟨by rw [hE];exact h1,by rw [hE]⟩,Qd HB0.out hb⟩
theorem PI (r:Qg) (w:yW) (hl:Qr w r) (hz:Q2 r) (ht:Tab w):QI 145 #[.agg r.vals] w (QR r):=by
 have hb0:=Qb w (.cells r.vals 26)
 have hn0:=Qc w (.cells r.vals 26)
 have HH:Hid (Qr w r∧Tab w∧Q2 r):=⟨hl,ht,hz⟩
 have HN0:=zH hn0
 have HB0:=zH hb0
 obtain⟨E,eE⟩:∃ E,QR r=E:=jV
 have HE:Hid (QR r=E):=eE
 rw [eE]
 unfold QR at HE
 clear eE
 have q0:(zA w r.vals 26).cell? w§¢0=some (.string r.x):=Qa hn0 0
 have c1:=(Ky (x:=r.x) hl.2.2.2.2.2.2 (ht.on hb0)).two
 obtain⟨V,eV⟩:∃ V,w.alloc (.cells r.vals 26)=V:=jV
 have HV:=zH eV
 have BOX:Hid (∀ u,yD V u→u.heap[w§]? = (zC r.vals 26)):=fun u hu=>by rw [← eV] at hu;exact (hu.block _ (zJ hn0).1).trans hn0
 have HBV:Hid (yD w V):=by show yD w V;rw [← eV];exact hb0
 have HHV:Hid (Qr V r):=hl.on HBV.out
 have HTV:Hid (Tab V):=ht.on HBV.out
 clear hl ht hz hb0 hn0 eV
 unfold QI
 rcases c1 with ⟨h1,c1⟩ | ⟨h1,c1⟩
 ·go_enter func145,ntmps145
  go_wp2_with fail
  refine c1.mono ?_
  rintro e w1 ⟨rfl,hb⟩
  rw [HV.out] at hb
  have HB1:=zH hb
  clear c1 hb q0 HN0 HB0 HV
  obtain⟨n2,en2⟩:∃ n,r.rs.length=n:=jV
  have q2:zQ w1 w§¢1 (.slice r.ra n2 r.rc):=by rw [← en2];exact Qa (BOX.out _ HB1.out) 1
  have HNL2:Hid (r.rs.length=n2):=en2
  have c2:=(KJ n2 0 12 w1).two
  rw [en2] at HE
  clear en2
  rcases c2 with ⟨h2,c2⟩ | ⟨h2,c2⟩
  ·go_wp2_with fail
   refine c2.mono ?_
   rintro e v2 ⟨rfl,hb⟩
   have HBS2:=zH (Qd HB1.out hb)
   have p2:zQ v2 w§¢1 (.slice r.ra n2 r.rc):=by rw [← HNL2.out];exact Qa (BOX.out _ HBS2.out) 1
   have HSL2:=zH HHV.out.1
   obtain⟨ds2,eds⟩:∃ ds,r.rs=ds:=jV
   have HDS2:Hid (∀ d ∈ ds2,RegL V d):=fun d hd=>by rw [← eds] at hd;exact HHV.out.2.1 d hd
   rw [eds] at HSL2 HNL2 HE
   obtain⟨ra2,era⟩:∃ q,r.ra=q:=jV
   rw [era] at HSL2 q2 p2
   clear c2 hb q2 HB1 eds era
   go_wp2_with fail
   obtain rfl:=HNL2.out
   clear HNL2
   go_loopw [18] (fun t wr=>∃ i:Nat,i≤ds2.length∧t=zI i∧yD V wr∧Hid (fsL (ds2.map regE)=fsL ((ds2.drop i).map regE))) (fun t _=>ds2.length - (intOf t).toNat)
   case atStart=>exact⟨0,by omega,rfl,HBS2.out,rfl⟩
   case round =>
    obtain⟨i,hi,rfl,hbr,HR⟩:=hrel
    have HBR:=zH hbr
    clear hbr
    by_cases hlt:i < ds2.length
    ·have hlt':(i:Int) < (ds2.length:Int):=by omega
     have hmx:(i:Int)+1≤jX:=by have h1:=HSL2.out.1;have h2:=HSL2.out.2.1;rw [List.length_map] at h1;omega
     obtain⟨b,o,ea,hat⟩:=(HSL2.out.on (mapz RegM.sz _) HBR.out).2.2 i (by rw [List.length_map];exact hlt)
     simp only [List.getElem_map] at hat
     have HMEM:Hid (ds2[i] ∈ ds2):=List.getElem_mem hlt
     have HD:Hid (fsL (ds2.map regE)=fs (regE ds2[i]) (fsL ((ds2.drop (i+1)).map regE))):=by show _=_;rw [HR.out,List.drop_eq_getElem_cons hlt];rfl
     obtain⟨d,ed⟩:∃ d,ds2[i]=d:=jV
     rw [ed] at hat HD HMEM
     have HRG:Hid (wr.rangeAt b (o+i * 11) d.vals.toList):=fun j v hv=>by
      have hj:j < 11:=(List.getElem?_eq_some_iff.1 hv).1
      rw [hat j hj,← hv];simp
     have HZ:Hid ((zA wr ze 102).heap[wr§]? = (zC ze 102)):=Qc _ _
     have hbx:yD wr ((zA wr ze 102).setRow wr§ d.vals):=Qn (Qb _ _) (Nat.le_refl _) _
     have HBX:=zH (Qd HBR.out hbx)
     have HNX:Hid (((zA wr ze 102).setRow wr§ d.vals).heap[wr§]? = (zC d.vals 102)):=setRow_heap _ _ _ _ _ _ HZ.out
     obtain⟨A,eA⟩:∃ A,ra2=A:=jV
     rw [eA] at ea ⊢
     subst ea
     clear hat ed hbx HR
     go_upto_region 6 with (first | (refine wpList_load_mid rfl 102 (.tmp 20) rfl b (o+i * 11) rfl d.vals.toList _ HRG.out underlying102 rfl (by show _=some 11;exact QO) ?_;rw [Array.toArray_toList]) | (refine wpList_store_row rfl 102 (.tmp 3) (.tmp 21) rfl wr§ d.vals rfl rfl 102 ze HZ.out QO rfl (Uq d) ?_))
     generalize hWX:World.setRow _ _ _=WX
     rw [hWX] at HBX HNX
     clear hWX HZ HRG
     have cD:=(Qb6 d WX ((HDS2.out d HMEM.out).on HBX.out) (HTV.out.on HBX.out)).two
     rcases cD with ⟨hd0,cD⟩ | ⟨hd0,cD⟩
     ·go_wp2_with (refine wpList_load_row rfl 102 (.tmp 3) rfl wr§ rfl 102 d.vals (0,0) _ HNX.out underlying102 rfl QO ?_)
      refine cD.mono ?_
      rintro e w5 ⟨rfl,hb5⟩
      have HB5:=zH (Qd HBX.out hb5)
      clear cD hb5
      go_wp2_with fail
      exact⟨⟨i+1,hlt,rfl,HB5.out,by show _=_;rw [HD.out,fs_z hd0]⟩,by simp only [intOf];omega⟩
     ·go_wp2_with (refine wpList_load_row rfl 102 (.tmp 3) rfl wr§ rfl 102 d.vals (0,0) _ HNX.out underlying102 rfl QO ?_)
      refine cD.mono ?_
      rintro e w5 ⟨rfl,hb5⟩
      have hE:E=regE d:=by rw [← HE.out,fs_z h1,fs_z h2,fs_n (by rw [HD.out,fs_n hd0];exact hd0),HD.out,fs_n hd0]
      exact⟨rfl,.inr ⟨by rw [hE];exact hd0,by rw [hE]⟩,Qd HBV.out (Qd HBX.out hb5)⟩
    ·obtain rfl:i=ds2.length:=by omega
     have hnot:¬ (ds2.length:Int) < (ds2.length:Int):=by omega
     have HZERO:Hid (fsL (ds2.map regE)=0):=by show _=_;rw [HR.out,List.drop_length];rfl
     clear HR
     have h3:=HZERO.out
     clear HZERO HSL2 HDS2 HBS2 p2
     have HBQ2:=zH HBR.out
     clear HBR
     obtain⟨n4,en4⟩:∃ n,r.ss.length=n:=jV
     have q4:zQ wr w§¢2 (.slice r.sa n4 r.sc):=by rw [← en4];exact Qa (BOX.out _ HBQ2.out) 2
     have HNL4:Hid (r.ss.length=n4):=en4
     have c4:=(KJ n4 0 4 wr).two
     rw [en4] at HE
     clear en4
     rcases c4 with ⟨h4,c4⟩ | ⟨h4,c4⟩
     ·go_wp2_with fail
      refine c4.mono ?_
      rintro e v4 ⟨rfl,hb⟩
      have HBS4:=zH (Qd HBQ2.out hb)
      have p4:zQ v4 w§¢2 (.slice r.sa n4 r.sc):=by rw [← HNL4.out];exact Qa (BOX.out _ HBS4.out) 2
      have HSL4:=zH HHV.out.2.2.1
      obtain⟨ds4,eds⟩:∃ ds,r.ss=ds:=jV
      have HDS4:Hid (∀ d ∈ ds4,UN d):=fun d hd=>by rw [← eds] at hd;exact HHV.out.2.2.2.1 d hd
      rw [eds] at HSL4 HNL4 HE
      obtain⟨ra4,era⟩:∃ q,r.sa=q:=jV
      rw [era] at HSL4 q4 p4
      clear c4 hb q4 HBQ2 eds era
      go_wp2_with fail
      obtain rfl:=HNL4.out
      clear HNL4
      go_loopw [32] (fun t wr=>∃ i:Nat,i≤ds4.length∧t=zI i∧yD V wr∧Hid (fsL (ds4.map slE)=fsL ((ds4.drop i).map slE))) (fun t _=>ds4.length - (intOf t).toNat)
      case atStart=>exact⟨0,by omega,rfl,HBS4.out,rfl⟩
      case round =>
       obtain⟨i,hi,rfl,hbr,HR⟩:=hrel
       have HBR:=zH hbr
       clear hbr
       by_cases hlt:i < ds4.length
       ·have hlt':(i:Int) < (ds4.length:Int):=by omega
        have hmx:(i:Int)+1≤jX:=by have h1:=HSL4.out.1;have h2:=HSL4.out.2.1;rw [List.length_map] at h1;omega
        obtain⟨b,o,ea,hat⟩:=(HSL4.out.on (mapz Qx.sz _) HBR.out).2.2 i (by rw [List.length_map];exact hlt)
        simp only [List.getElem_map] at hat
        have HMEM:Hid (ds4[i] ∈ ds4):=List.getElem_mem hlt
        have HD:Hid (fsL (ds4.map slE)=fs (slE ds4[i]) (fsL ((ds4.drop (i+1)).map slE))):=by show _=_;rw [HR.out,List.drop_eq_getElem_cons hlt];rfl
        obtain⟨d,ed⟩:∃ d,ds4[i]=d:=jV
        rw [ed] at hat HD HMEM
        have HRG:Hid (wr.rangeAt b (o+i * 2) d.vals.toList):=fun j v hv=>by
         have hj:j < 2:=(List.getElem?_eq_some_iff.1 hv).1
         rw [hat j hj,← hv];simp
        have HZ:Hid ((zA wr zx 129).heap[wr§]? = (zC zx 129)):=Qc _ _
        have hbx:yD wr ((zA wr zx 129).setRow wr§ d.vals):=Qn (Qb _ _) (Nat.le_refl _) _
        have HBX:=zH (Qd HBR.out hbx)
        have HNX:Hid (((zA wr zx 129).setRow wr§ d.vals).heap[wr§]? = (zC d.vals 129)):=setRow_heap _ _ _ _ _ _ HZ.out
        obtain⟨A,eA⟩:∃ A,ra4=A:=jV
        rw [eA] at ea ⊢
        subst ea
        clear hat ed hbx HR
        go_upto_region 12 with (first | (refine wpList_load_mid rfl 129 (.tmp 34) rfl b (o+i * 2) rfl d.vals.toList _ HRG.out underlying129 rfl (by show _=some 2;exact J1) ?_;rw [Array.toArray_toList]) | (refine wpList_store_row rfl 129 (.tmp 5) (.tmp 35) rfl wr§ d.vals rfl rfl 129 zx HZ.out J1 rfl (all2 d) ?_))
        generalize hWX:World.setRow _ _ _=WX
        rw [hWX] at HBX HNX
        clear hWX HZ HRG
        have qs:zQ WX wr§¢0 (.string d.x):=Qa HNX.out 0
        have cD:=(show QI 177 #[.string d.x] WX (slE d) from Ky (HDS4.out d HMEM.out).2 (HTV.out.on HBX.out)).two
        rcases cD with ⟨hd0,cD⟩ | ⟨hd0,cD⟩
        ·go_wp2_with fail
         refine cD.mono ?_
         rintro e w5 ⟨rfl,hb5⟩
         have HB5:=zH (Qd HBX.out hb5)
         clear cD hb5
         go_wp2_with fail
         exact⟨⟨i+1,hlt,rfl,HB5.out,by show _=_;rw [HD.out,fs_z hd0]⟩,by simp only [intOf];omega⟩
        ·go_wp2_with fail
         refine cD.mono ?_
         rintro e w5 ⟨rfl,hb5⟩
         have hE:E=slE d:=by rw [← HE.out,fs_z h1,fs_z h2,fs_z h3,fs_z h4,fs_n (by rw [HD.out,fs_n hd0];exact hd0),HD.out,fs_n hd0]
         exact⟨rfl,.inr ⟨by rw [hE];exact hd0,by rw [hE]⟩,Qd HBV.out (Qd HBX.out hb5)⟩
       ·obtain rfl:i=ds4.length:=by omega
        have hnot:¬ (ds4.length:Int) < (ds4.length:Int):=by omega
        have HZERO:Hid (fsL (ds4.map slE)=0):=by show _=_;rw [HR.out,List.drop_length];rfl
        clear HR
        have h5:=HZERO.out
        clear HZERO HSL4 HDS4 HBS4 p4
        have HBQ4:=zH HBR.out
        clear HBR
        obtain⟨n6,en6⟩:∃ n,r.ts.length=n:=jV
        have q6:zQ wr w§¢3 (.slice r.ta n6 r.tc):=by rw [← en6];exact Qa (BOX.out _ HBQ4.out) 3
        have HNL6:Hid (r.ts.length=n6):=en6
        have c6:=(KJ n6 1 12 wr).two
        rw [en6] at HE
        clear en6
        rcases c6 with ⟨h6,c6⟩ | ⟨h6,c6⟩
        ·go_wp2_with fail
         refine c6.mono ?_
         rintro e v6 ⟨rfl,hb⟩
         have HBS6:=zH (Qd HBQ4.out hb)
         have p6:zQ v6 w§¢3 (.slice r.ta n6 r.tc):=by rw [← HNL6.out];exact Qa (BOX.out _ HBS6.out) 3
         have HSL6:=zH HHV.out.2.2.2.2.1
         obtain⟨ds6,eds⟩:∃ ds,r.ts=ds:=jV
         have HDS6:Hid (∀ d ∈ ds6,JX V d∧XW d):=fun d hd=>by rw [← eds] at hd;exact⟨HHV.out.2.2.2.2.2.1 d hd,HH.out.2.2 d hd⟩
         rw [eds] at HSL6 HNL6 HE
         obtain⟨ra6,era⟩:∃ q,r.ta=q:=jV
         rw [era] at HSL6 q6 p6
         clear c6 hb q6 HBQ4 eds era
         go_wp2_with fail
         obtain rfl:=HNL6.out
         clear HNL6
         go_loopw [47] (fun t wr=>∃ i:Nat,i≤ds6.length∧t=zI i∧yD V wr∧Hid (fsL (ds6.map Jg)=fsL ((ds6.drop i).map Jg))) (fun t _=>ds6.length - (intOf t).toNat)
         case atStart=>exact⟨0,by omega,rfl,HBS6.out,rfl⟩
         case round =>
          obtain⟨i,hi,rfl,hbr,HR⟩:=hrel
          have HBR:=zH hbr
          clear hbr
          by_cases hlt:i < ds6.length
          ·have hlt':(i:Int) < (ds6.length:Int):=by omega
           have hmx:(i:Int)+1≤jX:=by have h1:=HSL6.out.1;have h2:=HSL6.out.2.1;rw [List.length_map] at h1;omega
           obtain⟨b,o,ea,hat⟩:=(HSL6.out.on (mapz Qq.sz _) HBR.out).2.2 i (by rw [List.length_map];exact hlt)
           simp only [List.getElem_map] at hat
           have HMEM:Hid (ds6[i] ∈ ds6):=List.getElem_mem hlt
           have HD:Hid (fsL (ds6.map Jg)=fs (Jg ds6[i]) (fsL ((ds6.drop (i+1)).map Jg))):=by show _=_;rw [HR.out,List.drop_eq_getElem_cons hlt];rfl
           obtain⟨d,ed⟩:∃ d,ds6[i]=d:=jV
           rw [ed] at hat HD HMEM
           have HRG:Hid (wr.rangeAt b (o+i * 3) d.vals.toList):=fun j v hv=>by
            have hj:j < 3:=(List.getElem?_eq_some_iff.1 hv).1
            rw [hat j hj,← hv];simp
           have HZ:Hid ((zA wr zm 69).heap[wr§]? = (zC zm 69)):=Qc _ _
           have hbx:yD wr ((zA wr zm 69).setRow wr§ d.vals):=Qn (Qb _ _) (Nat.le_refl _) _
           have HBX:=zH (Qd HBR.out hbx)
           have HNX:Hid (((zA wr zm 69).setRow wr§ d.vals).heap[wr§]? = (zC d.vals 69)):=setRow_heap _ _ _ _ _ _ HZ.out
           obtain⟨A,eA⟩:∃ A,ra6=A:=jV
           rw [eA] at ea ⊢
           subst ea
           clear hat ed hbx HR
           go_upto_region 18 with (first | (refine wpList_load_mid rfl 69 (.tmp 49) rfl b (o+i * 3) rfl d.vals.toList _ HRG.out underlying69 rfl (by show _=some 3;exact Je) ?_;rw [Array.toArray_toList]) | (refine wpList_store_row rfl 69 (.tmp 7) (.tmp 50) rfl wr§ d.vals rfl rfl 69 zm HZ.out Je rfl (Hc d) ?_))
           generalize hWX:World.setRow _ _ _=WX
           rw [hWX] at HBX HNX
           clear hWX HZ HRG
           have cD:=(PL d WX ((HDS6.out d HMEM.out).1.on HBX.out) (HDS6.out d HMEM.out).2 (HTV.out.on HBX.out)).two
           rcases cD with ⟨hd0,cD⟩ | ⟨hd0,cD⟩
           ·go_wp2_with (refine wpList_load_row rfl 69 (.tmp 7) rfl wr§ rfl 69 d.vals (0,0) _ HNX.out underlying69 rfl Je ?_)
            refine cD.mono ?_
            rintro e w5 ⟨rfl,hb5⟩
            have HB5:=zH (Qd HBX.out hb5)
            clear cD hb5
            go_wp2_with fail
            exact⟨⟨i+1,hlt,rfl,HB5.out,by show _=_;rw [HD.out,fs_z hd0]⟩,by simp only [intOf];omega⟩
           ·go_wp2_with (refine wpList_load_row rfl 69 (.tmp 7) rfl wr§ rfl 69 d.vals (0,0) _ HNX.out underlying69 rfl Je ?_)
            refine cD.mono ?_
            rintro e w5 ⟨rfl,hb5⟩
            have hE:E=Jg d:=by rw [← HE.out,fs_z h1,fs_z h2,fs_z h3,fs_z h4,fs_z h5,fs_z h6,HD.out,fs_n hd0]
            exact⟨rfl,.inr ⟨by rw [hE];exact hd0,by rw [hE]⟩,Qd HBV.out (Qd HBX.out hb5)⟩
          ·obtain rfl:i=ds6.length:=by omega
           have hnot:¬ (ds6.length:Int) < (ds6.length:Int):=by omega
           have HZERO:Hid (fsL (ds6.map Jg)=0):=by show _=_;rw [HR.out,List.drop_length];rfl
           clear HR
           have h7:=HZERO.out
           clear HZERO HSL6 HDS6 HBS6 p6
           have HBQ6:=zH HBR.out
           clear HBR
           go_wp2_with fail
           go_end0
           exact⟨.inl ⟨by rw [← HE.out,fs_z h1,fs_z h2,fs_z h3,fs_z h4,fs_z h5,fs_z h6];exact h7,rfl⟩,Qd HBV.out HBQ6.out⟩
        ·go_wp2_with fail
         refine c6.mono ?_
         rintro e wf ⟨rfl,hb⟩
         have hE:E=cntE n6 1 12:=by rw [← HE.out,fs_z h1,fs_z h2,fs_z h3,fs_z h4,fs_z h5,fs_n h6]
         exact⟨rfl,.inr ⟨by rw [hE];exact h6,by rw [hE]⟩,Qd HBV.out (Qd HBQ4.out hb)⟩
     ·go_wp2_with fail
      refine c4.mono ?_
      rintro e wf ⟨rfl,hb⟩
      have hE:E=cntE n4 0 4:=by rw [← HE.out,fs_z h1,fs_z h2,fs_z h3,fs_n h4]
      exact⟨rfl,.inr ⟨by rw [hE];exact h4,by rw [hE]⟩,Qd HBV.out (Qd HBQ2.out hb)⟩
  ·go_wp2_with fail
   refine c2.mono ?_
   rintro e wf ⟨rfl,hb⟩
   have hE:E=cntE n2 0 12:=by rw [← HE.out,fs_z h1,fs_n h2]
   exact⟨rfl,.inr ⟨by rw [hE];exact h2,by rw [hE]⟩,Qd HBV.out (Qd HB1.out hb)⟩
 ·go_enter func145,ntmps145
  go_wp2_with fail
  refine c1.mono ?_
  rintro e w1 ⟨rfl,hb⟩
  have hE:E=namE r.x:=by rw [← HE.out,fs_n h1]
  exact⟨rfl,.inr ⟨by rw [hE];exact h1,by rw [hE]⟩,Qd HB0.out hb⟩
end Go.Proofs.YtfbjofnaghjmeaaGreatDoor
