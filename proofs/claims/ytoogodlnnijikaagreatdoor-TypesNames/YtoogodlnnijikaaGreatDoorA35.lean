import Derived.Test.YtoogodlnnijikaaGreatDoorA0
import Derived.Test.YtoogodlnnijikaaGreatDoorA34
namespace Go.Proofs.YtoogodlnnijikaaGreatDoor
set_option maxHeartbeats 16000000
set_option maxRecDepth 100000
open Go.RowKit Go.Maps
set_option linter.unusedVariables false
set_option linter.unusedSimpArgs false
theorem Dec.start (w:yW) (r:Qm):Dec w ((((((w.alloc (.cells r.vals 27)).alloc (.cells zm 87)).alloc (.map #[] 0)).alloc (.map #[] 0)).alloc (.map #[] 0)).alloc (.cells #[.map (some (w§+2)),.map (some (w§+3)),.map (some (w§+4))] 87)) r 0 0 0 [] [] []:=by
 have b1:=Qc w (.cells r.vals 27)
 have n1:=Qd w (.cells r.vals 27)
 have s1:=Qf w (.cells r.vals 27)
 obtain⟨W1,e1⟩:∃ W,w.alloc (.cells r.vals 27)=W:=⟨_,rfl⟩
 rw [e1] at b1 n1 s1 ⊢
 have b2:=Qc W1 (.cells zm 87)
 have n2:=Qd W1 (.cells zm 87)
 have s2:=Qf W1 (.cells zm 87)
 obtain⟨W2,e2⟩:∃ W,W1.alloc (.cells zm 87)=W:=⟨_,rfl⟩
 rw [e2] at b2 n2 s2 ⊢
 have b3:=Qc W2 (.map #[] 0)
 have n3:=RgN.made W2
 have s3:=Qf W2 (.map #[] 0)
 obtain⟨W3,e3⟩:∃ W,W2.alloc (.map #[] 0)=W:=⟨_,rfl⟩
 rw [e3] at b3 n3 s3 ⊢
 have b4:=Qc W3 (.map #[] 0)
 have n4:=NmN.made W3
 have s4:=Qf W3 (.map #[] 0)
 obtain⟨W4,e4⟩:∃ W,W3.alloc (.map #[] 0)=W:=⟨_,rfl⟩
 rw [e4] at b4 n4 s4 ⊢
 have b5:=Qc W4 (.map #[] 0)
 have n5:=NmN.made W4
 have s5:=Qf W4 (.map #[] 0)
 obtain⟨W5,e5⟩:∃ W,W4.alloc (.map #[] 0)=W:=⟨_,rfl⟩
 rw [e5] at b5 n5 s5 ⊢
 have b6:=Qc W5 (.cells #[.map (some (w§+2)),.map (some (w§+3)),.map (some (w§+4))] 87)
 have n6:=Qd W5 (.cells #[.map (some (w§+2)),.map (some (w§+3)),.map (some (w§+4))] 87)
 obtain⟨W6,e6⟩:∃ W,W5.alloc (.cells #[.map (some (w§+2)),.map (some (w§+3)),.map (some (w§+4))] 87)=W:=⟨_,rfl⟩
 rw [e6] at b6 n6 ⊢
 have q56:=b6
 have q46:=Qe b5 q56
 have q36:=Qe b4 q46
 have q26:=Qe b3 q36
 have q16:=Qe b2 q26
 rw [show W5§=w§+5 by omega] at n6
 rw [show W4§=w§+4 by omega] at n5
 rw [show W3§=w§+3 by omega] at n4
 rw [show W2§=w§+2 by omega] at n3
 rw [show W1§=w§+1 by omega] at n2
 exact⟨Qe b1 q16,(q16.block _ (zJ n1).1).trans n1,(q26.block _ (zJ n2).1).trans n2,n6,n3.on q36,n4.on q46,n5.on q56⟩
theorem dNms_yes {S:List yB}{x:yB × Int}{xs:List (yB × Int)}(h:inS S x.1=true):dNms S (x :: xs)=some (x.2,150):=by simp [dNms,h]
theorem dNms_no {S:List yB}{x:yB × Int}{xs:List (yB × Int)}(h:inS S x.1=false):dNms S (x :: xs)=dNms (S ++ [x.1]) xs:=by simp [dNms,h]
theorem mv_row (V:yW) (R:Nat) (cs:Array Value):Mv V (V.setRow R cs) (fun k=>k=R):=by
 exact⟨rfl,rfl,rfl,by unfold World.setRow; simp,fun k _ hk=>QM V R cs hk⟩
theorem declared_any (r:Qm) (w:yW) (hl:QD w r) (ht:FTab w) (ho:∀ d ∈ r.rs,OkT d.m):Calls zG 32 #[.agg r.vals] w (OutK w r):=by
 have hmk:∀ (t:TypeId) (w:yW),Sem.run Tryz.prog (Instr.makeMap t none) w=.ok (.map (some w§)) (w.alloc (.map #[] 0)):=fun t w=>rfl
 have hD:=Dec.start w r
 obtain⟨W,eW⟩:∃ W,((((((w.alloc (.cells r.vals 27)).alloc (.cells zm 87)).alloc (.map #[] 0)).alloc (.map #[] 0)).alloc (.map #[] 0)).alloc (.cells #[.map (some (w§+2)),.map (some (w§+3)),.map (some (w§+4))] 87))=W:=⟨_,rfl⟩
 have HW:Hid (((((((w.alloc (.cells r.vals 27)).alloc (.cells zm 87)).alloc (.map #[] 0)).alloc (.map #[] 0)).alloc (.map #[] 0)).alloc (.cells #[.map (some (w§+2)),.map (some (w§+3)),.map (some (w§+4))] 87))=W):=eW
 rw [eW] at hD
 have HD0:Hid (Dec w W r 0 0 0 [] [] []):=hD
 have HH:Hid (QD w r∧FTab w∧∀ d ∈ r.rs,OkT d.m):=⟨hl,ht,ho⟩
 clear hD eW hl ht ho
 go_enter Tryz.func32,Tryz.ntmps32
 go_upto_region 2 with fail
 rw [show w§+1+1=w§+2 from rfl,show w§+2+1=w§+3 from rfl,show w§+3+1=w§+4 from rfl,show w§+4+1=w§+5 from rfl,HW.out]
 clear HW
 have HDQ:Hid (Dec w W r 0 0 0 [] [] []):=HD0.out
 obtain⟨ds,eds⟩:∃ l,r.rs=l:=⟨_,rfl⟩
 have HEds:Hid (r.rs=ds):=eds
 have HSL1:Hid (SlAt w 11 r.ra r.rc (ds.map RegM.vals)):=by have h1:=HH.out.1.1; rw [eds] at h1; exact h1
 obtain⟨ra1,era1⟩:∃ q,r.ra=q:=⟨_,rfl⟩
 have q1:W.cell? w§¢1=some (.slice ra1 ds.length r.rc):=by rw [← eds,← era1]; exact Qa HDQ.out.box 1
 rw [era1] at HSL1
 clear eds era1
 go_wp2_with fail
 go_loopw [6,7,21] (fun t6 t7 t wr=>∃ i:Nat,i≤ds.length∧t=zI i∧Hid (Dec w wr r i 0 0 (ds.take i) [] [])∧Hid (JT [] ds=JT (ds.take i) (ds.drop i))) (fun t6 t7 t _=>ds.length - (intOf t).toNat)
 case atStart=>exact⟨0,by omega,rfl,HDQ.out,rfl⟩
 case round =>
  obtain⟨i,hi,rfl,HDR,HR⟩:=hrel
  by_cases hlt:i < ds.length
  ·have hlt':(i:Int) < (ds.length:Int):=by omega
   have hlen:ds.length≤9223372036854775807:=by have h1:=HSL1.out.1; have h2:=HSL1.out.2.1; rw [List.length_map] at h1; omega
   have hmx:(i:Int)+1≤9223372036854775807:=by omega
   have hn:i < maxLen:=by unfold maxLen; omega
   obtain⟨b,o,ea,hat⟩:=(HSL1.out.on (mapz RegM.sz _) HDR.out.bel).2.2 i (by rw [List.length_map]; exact hlt)
   simp only [List.getElem_map] at hat
   have HMEM:Hid (ds[i] ∈ ds):=List.getElem_mem hlt
   have HTK:Hid (ds.take (i+1)=ds.take i ++ [ds[i]]∧ds.drop i=ds[i] :: ds.drop (i+1)):=⟨by simp,List.drop_eq_getElem_cons hlt⟩
   obtain⟨d,ed⟩:∃ d,ds[i]=d:=⟨_,rfl⟩
   rw [ed] at hat HTK HMEM
   have HRG:Hid (wr.rangeAt b (o+i * 11) d.vals.toList):=fun j v hv=>by
    have hj:j < 11:=(List.getElem?_eq_some_iff.1 hv).1
    rw [hat j hj,← hv]; simp
   have HZ:Hid ((wr.alloc (.cells zc 62)).heap[wr§]? = (zC zc 62)):=Qd _ _
   have hbx:yD wr ((wr.alloc (.cells zc 62)).setRow wr§ d.vals):=Qo (Qc _ _) (Nat.le_refl _) _
   have HNX:Hid (((wr.alloc (.cells zc 62)).setRow wr§ d.vals).heap[wr§]? = (zC d.vals 62)):=setRow_heap _ _ _ _ _ _ HZ.out
   have HDX:=HDR.out.on hbx
   obtain⟨A,eA⟩:∃ A,ra1=A:=⟨_,rfl⟩
   rw [eA] at ea ⊢
   subst ea
   clear hat ed hbx HDR hlen
   go_upto_region 5 with (first | (refine wpList_load_mid rfl 62 (.tmp 23) rfl b (o+i * 11) rfl d.vals.toList _ HRG.out Tryz.underlying62 rfl (by show _=some 11; exact QU) ?_; rw [Array.toArray_toList]) | (refine wpList_store_row rfl 62 (.tmp 6) (.tmp 24) rfl wr§ d.vals rfl rfl 62 zc HZ.out QU rfl (all11 d) ?_))
   generalize hWX:World.setRow _ _ _=WX
   rw [hWX] at HNX HDX
   clear hWX HZ HRG
   have HDX:Hid (Dec _ _ _ _ _ _ _ _ _):=HDX
   have k0:WX.cell? ⟨w§+5,0,none⟩=some (.map (some (w§+2))):=Qa HDX.out.kn 0
   have k1:WX.cell? ⟨w§+5,1,none⟩=some (.map (some (w§+3))):=Qa HDX.out.kn 1
   have k2:WX.cell? ⟨w§+5,2,none⟩=some (.map (some (w§+4))):=Qa HDX.out.kn 2
   have HSZ:Hid (w§+5 < WX§):=(zJ HDX.out.kn).1
   have cA:=addReg_any (w§+2) (w§+3) (w§+4) i (ds.take i) d WX HDX.out.m1 (HH.out.2.1.on HDX.out.bel) ((HH.out.1.2.1 d (by rw [HEds.out]; exact HMEM.out)).on HDX.out.bel) (HH.out.2.2 d (by rw [HEds.out]; exact HMEM.out)) hn
   go_wp2_with (refine wpList_load_row rfl 62 (.tmp 6) rfl wr§ rfl 62 d.vals (0,0) _ HNX.out Tryz.underlying62 rfl QU ?_)
   refine cA.mono ?_
   rintro e w5 (⟨c,no,rfl,hle,hfl,hb5,hcase⟩ | ⟨rfl,h1,h2,hm5,hmv⟩)
   ·have HD5:=(HDX.out.on hb5)
    have HD5:Hid (Dec _ _ _ _ _ _ _ _ _):=HD5
    have HC:Hid (FlAt w5 c ZH d.p no∧w§+5 < c):=⟨hfl,by have:=HSZ.out; omega⟩
    have HEE:Hid (decE r=some (d.p,no)):=by
     have h1:JT [] ds=some (d.p,no):=by
      rw [HR.out,HTK.out.2]
      rcases hcase with ⟨h1,rfl⟩ | ⟨h1,h2,rfl⟩
      ·simp [JT,h1]
      ·simp [JT,h1,h2]
     show decE r=_
     unfold decE
     rw [HEds.out,h1]
    clear cA hle hfl hb5 hcase k0 k1 k2
    go_wp2_with (refine wpList_store_row rfl 87 (.tmp 2) (.tmp 30) rfl (w§+1) zm rfl rfl 87 zm HD5.out.res Ke rfl (by simp [Value.oneCell']) ?_)
    exact bodyPost_ret (Qg (p:=2) (u:=3) (ty:=87) rfl _ _ (w§+1) 87 zm (0,0) _ rfl (setRow_heap _ _ _ _ _ _ HD5.out.res) Tryz.underlying87 rfl Ke) rfl (.inl ⟨d.p,no,c,HEE.out,rfl,by have:=HC.out.2; omega,(QM _ _ _ (by have:=HC.out.2; omega)).trans HC.out.1,Qo HD5.out.bel (Nat.le_succ _) _⟩)
   ·have HD5:Hid (Dec w w5 r (i+1) 0 0 (ds.take (i+1)) [] []):=by have h5:=HDX.out.r hmv hm5; rw [← HTK.out.1] at h5; exact h5
    have HR5:Hid (JT [] ds=JT (ds.take (i+1)) (ds.drop (i+1))):=by show _=_; rw [HR.out,HTK.out.2,HTK.out.1]; simp [JT,h1,h2]
    clear cA h1 h2 hm5 hmv k0 k1 k2
    go_wp2_with fail
    exact⟨⟨i+1,hlt,rfl,HD5.out,HR5.out⟩,by simp only [intOf]; omega⟩
  ·obtain rfl:i=ds.length:=by omega
   have hnot:¬ (ds.length:Int) < (ds.length:Int):=by omega
   have HN1:Hid (JT [] ds=none):=by show _=_; rw [HR.out,List.drop_length]; rfl
   have HDQ2:Hid (Dec w wr r ds.length 0 0 ds [] []):=by have h1:=HDR.out; rw [List.take_length] at h1; exact h1
   clear HDR HR HDQ
   have HDQ:=HDQ2
   clear HDQ2
   obtain⟨es,ees⟩:∃ l,r.ss=l:=⟨_,rfl⟩
   have HEes:Hid (r.ss=es):=ees
   have HSL2:Hid (SlAt w 2 r.sa r.sc (es.map Qw.vals)):=by have h1:=HH.out.1.2.2.1; rw [ees] at h1; exact h1
   obtain⟨ra2,era2⟩:∃ q,r.sa=q:=⟨_,rfl⟩
   have q2:wr.cell? w§¢2=some (.slice ra2 es.length r.sc):=by rw [← ees,← era2]; exact Qa HDQ.out.box 2
   rw [era2] at HSL2
   clear ees era2
   go_wp2_with fail
   go_loopw [9,10,36] (fun t9 t10 t wr=>∃ i:Nat,i≤es.length∧t=zI i∧Hid (Dec w wr r ds.length i 0 ds ((es.take i).map Qw.x) [])∧Hid (dNms [] (es.map slN)=dNms ((es.take i).map Qw.x) ((es.drop i).map slN))) (fun t9 t10 t _=>es.length - (intOf t).toNat)
   case atStart=>exact⟨0,by omega,rfl,HDQ.out,rfl⟩
   case round =>
    obtain⟨i,hi,rfl,HDR,HR⟩:=hrel
    by_cases hlt:i < es.length
    ·have hlt':(i:Int) < (es.length:Int):=by omega
     have hlen:es.length≤9223372036854775807:=by have h1:=HSL2.out.1; have h2:=HSL2.out.2.1; rw [List.length_map] at h1; omega
     have hmx:(i:Int)+1≤9223372036854775807:=by omega
     have hn:i < maxLen:=by unfold maxLen; omega
     obtain⟨b,o,ea,hat⟩:=(HSL2.out.on (mapz Qw.sz _) HDR.out.bel).2.2 i (by rw [List.length_map]; exact hlt)
     simp only [List.getElem_map] at hat
     have HMEM:Hid (es[i] ∈ es):=List.getElem_mem hlt
     have HTK:Hid (es.take (i+1)=es.take i ++ [es[i]]∧es.drop i=es[i] :: es.drop (i+1)):=⟨by simp,List.drop_eq_getElem_cons hlt⟩
     obtain⟨d,ed⟩:∃ d,es[i]=d:=⟨_,rfl⟩
     rw [ed] at hat HTK HMEM
     have HRG:Hid (wr.rangeAt b (o+i * 2) d.vals.toList):=fun j v hv=>by
      have hj:j < 2:=(List.getElem?_eq_some_iff.1 hv).1
      rw [hat j hj,← hv]; simp
     have HZ:Hid ((wr.alloc (.cells #[yQ,zI 0] 65)).heap[wr§]? = (zC #[yQ,zI 0] 65)):=Qd _ _
     have hbx:yD wr ((wr.alloc (.cells #[yQ,zI 0] 65)).setRow wr§ d.vals):=Qo (Qc _ _) (Nat.le_refl _) _
     have HNX:Hid (((wr.alloc (.cells #[yQ,zI 0] 65)).setRow wr§ d.vals).heap[wr§]? = (zC d.vals 65)):=setRow_heap _ _ _ _ _ _ HZ.out
     have HDX:=HDR.out.on hbx
     obtain⟨A,eA⟩:∃ A,ra2=A:=⟨_,rfl⟩
     rw [eA] at ea ⊢
     subst ea
     clear hat ed hbx HDR hlen
     go_upto_region 12 with (first | (refine wpList_load_mid rfl 65 (.tmp 38) rfl b (o+i * 2) rfl d.vals.toList _ HRG.out Tryz.underlying65 rfl (by show _=some 2; exact size102') ?_; rw [Array.toArray_toList]) | (refine wpList_store_row rfl 65 (.tmp 9) (.tmp 39) rfl wr§ d.vals rfl rfl 65 #[yQ,zI 0] HZ.out size102' rfl (all2 d) ?_))
     generalize hWX:World.setRow _ _ _=WX
     rw [hWX] at HNX HDX
     clear hWX HZ HRG
     have HDX:Hid (Dec _ _ _ _ _ _ _ _ _):=HDX
     have k0:WX.cell? ⟨w§+5,0,none⟩=some (.map (some (w§+2))):=Qa HDX.out.kn 0
     have k1:WX.cell? ⟨w§+5,1,none⟩=some (.map (some (w§+3))):=Qa HDX.out.kn 1
     have k2:WX.cell? ⟨w§+5,2,none⟩=some (.map (some (w§+4))):=Qa HDX.out.kn 2
     have HSZ:Hid (w§+5 < WX§):=(zJ HDX.out.kn).1
     have hx:d.x.size≤maxLen:=by have h1:=(HH.out.1.2.2.2.1 d (by rw [HEes.out]; exact HMEM.out)).2; unfold SzX at h1; unfold maxLen; omega
     have x0:WX.cell? wr§¢0=some (.string d.x):=Qa HNX.out 0
     have x1:WX.cell? wr§¢1=some (zI d.p):=Qa HNX.out 1
     have cA:=add_any d.p HDX.out.m2 hx hn
     go_wp2_with fail
     refine cA.mono ?_
     rintro e w5 (⟨hin,c,rfl,hle,hfl,hb5⟩ | ⟨hin,rfl,hm5,hmv⟩)
     ·have HD5:=(HDX.out.on hb5)
      have HD5:Hid (Dec _ _ _ _ _ _ _ _ _):=HD5
      have HC:Hid (FlAt w5 c ZH d.p 150∧w§+5 < c):=⟨hfl,by have:=HSZ.out; omega⟩
      have HEE:Hid (decE r=some (d.p,150)):=by
       have h1:dNms [] (es.map slN)=some (d.p,150):=by
        rw [HR.out,HTK.out.2]
        exact dNms_yes (x:=slN d) hin
       show decE r=_
       unfold decE
       rw [HEds.out,HN1.out,HEes.out,h1]
      clear cA hle hfl hb5 hin k0 k1 k2 x0 x1
      go_wp2_with (refine wpList_store_row rfl 87 (.tmp 2) (.tmp 49) rfl (w§+1) zm rfl rfl 87 zm HD5.out.res Ke rfl (by simp [Value.oneCell']) ?_)
      exact bodyPost_ret (Qg (p:=2) (u:=3) (ty:=87) rfl _ _ (w§+1) 87 zm (0,0) _ rfl (setRow_heap _ _ _ _ _ _ HD5.out.res) Tryz.underlying87 rfl Ke) rfl (.inl ⟨d.p,150,c,HEE.out,rfl,by have:=HC.out.2; omega,(QM _ _ _ (by have:=HC.out.2; omega)).trans HC.out.1,Qo HD5.out.bel (Nat.le_succ _) _⟩)
     ·have HD5:Hid (Dec w w5 r ds.length (i+1) 0 ds ((es.take (i+1)).map Qw.x) []):=by have h5:=HDX.out.s hmv hm5; rw [show (es.take i).map Qw.x ++ [d.x]=(es.take (i+1)).map Qw.x by rw [HTK.out.1]; simp] at h5; exact h5
      have HR5:Hid (dNms [] (es.map slN)=dNms ((es.take (i+1)).map Qw.x) ((es.drop (i+1)).map slN)):=by show _=_; rw [HR.out,HTK.out.2,HTK.out.1,List.map_append]; exact dNms_no (x:=slN d) hin
      clear cA hin hm5 hmv k0 k1 k2 x0 x1
      go_wp2_with fail
      exact⟨⟨i+1,hlt,rfl,HD5.out,HR5.out⟩,by simp only [intOf]; omega⟩
    ·obtain rfl:i=es.length:=by omega
     have hnot:¬ (es.length:Int) < (es.length:Int):=by omega
     have HN2:Hid (dNms [] (es.map slN)=none):=by show _=_; rw [HR.out,List.drop_length]; rfl
     have HDQ2:Hid (Dec w wr r ds.length es.length 0 ds (es.map Qw.x) []):=by have h1:=HDR.out; rw [List.take_length] at h1; exact h1
     clear HDR HR HDQ
     have HDQ:=HDQ2
     clear HDQ2
     obtain⟨fs,efs⟩:∃ l,r.ts=l:=⟨_,rfl⟩
     have HEfs:Hid (r.ts=fs):=efs
     have HSL3:Hid (SlAt w 3 r.ta r.tc (fs.map Qj.vals)):=by have h1:=HH.out.1.2.2.2.2.1; rw [efs] at h1; exact h1
     obtain⟨ra3,era3⟩:∃ q,r.ta=q:=⟨_,rfl⟩
     have q3:wr.cell? w§¢3=some (.slice ra3 fs.length r.tc):=by rw [← efs,← era3]; exact Qa HDQ.out.box 3
     rw [era3] at HSL3
     clear efs era3
     go_wp2_with fail
     go_loopw [12,13,55] (fun t12 t13 t wr=>∃ i:Nat,i≤fs.length∧t=zI i∧Hid (Dec w wr r ds.length es.length i ds (es.map Qw.x) ((fs.take i).map Qj.x))∧Hid (dNms [] (fs.map stN)=dNms ((fs.take i).map Qj.x) ((fs.drop i).map stN))) (fun t12 t13 t _=>fs.length - (intOf t).toNat)
     case atStart=>exact⟨0,by omega,rfl,HDQ.out,rfl⟩
     case round =>
      obtain⟨i,hi,rfl,HDR,HR⟩:=hrel
      by_cases hlt:i < fs.length
      ·have hlt':(i:Int) < (fs.length:Int):=by omega
       have hlen:fs.length≤9223372036854775807:=by have h1:=HSL3.out.1; have h2:=HSL3.out.2.1; rw [List.length_map] at h1; omega
       have hmx:(i:Int)+1≤9223372036854775807:=by omega
       have hn:i < maxLen:=by unfold maxLen; omega
       obtain⟨b,o,ea,hat⟩:=(HSL3.out.on (mapz Qj.sz _) HDR.out.bel).2.2 i (by rw [List.length_map]; exact hlt)
       simp only [List.getElem_map] at hat
       have HMEM:Hid (fs[i] ∈ fs):=List.getElem_mem hlt
       have HTK:Hid (fs.take (i+1)=fs.take i ++ [fs[i]]∧fs.drop i=fs[i] :: fs.drop (i+1)):=⟨by simp,List.drop_eq_getElem_cons hlt⟩
       obtain⟨d,ed⟩:∃ d,fs[i]=d:=⟨_,rfl⟩
       rw [ed] at hat HTK HMEM
       have HRG:Hid (wr.rangeAt b (o+i * 3) d.vals.toList):=fun j v hv=>by
        have hj:j < 3:=(List.getElem?_eq_some_iff.1 hv).1
        rw [hat j hj,← hv]; simp
       have HZ:Hid ((wr.alloc (.cells zk 68)).heap[wr§]? = (zC zk 68)):=Qd _ _
       have hbx:yD wr ((wr.alloc (.cells zk 68)).setRow wr§ d.vals):=Qo (Qc _ _) (Nat.le_refl _) _
       have HNX:Hid (((wr.alloc (.cells zk 68)).setRow wr§ d.vals).heap[wr§]? = (zC d.vals 68)):=setRow_heap _ _ _ _ _ _ HZ.out
       have HDX:=HDR.out.on hbx
       obtain⟨A,eA⟩:∃ A,ra3=A:=⟨_,rfl⟩
       rw [eA] at ea ⊢
       subst ea
       clear hat ed hbx HDR hlen
       go_upto_region 19 with (first | (refine wpList_load_mid rfl 68 (.tmp 57) rfl b (o+i * 3) rfl d.vals.toList _ HRG.out Tryz.underlying68 rfl (by show _=some 3; exact Jm) ?_; rw [Array.toArray_toList]) | (refine wpList_store_row rfl 68 (.tmp 12) (.tmp 58) rfl wr§ d.vals rfl rfl 68 zk HZ.out Jm rfl (all3' d) ?_))
       generalize hWX:World.setRow _ _ _=WX
       rw [hWX] at HNX HDX
       clear hWX HZ HRG
       have HDX:Hid (Dec _ _ _ _ _ _ _ _ _):=HDX
       have k0:WX.cell? ⟨w§+5,0,none⟩=some (.map (some (w§+2))):=Qa HDX.out.kn 0
       have k1:WX.cell? ⟨w§+5,1,none⟩=some (.map (some (w§+3))):=Qa HDX.out.kn 1
       have k2:WX.cell? ⟨w§+5,2,none⟩=some (.map (some (w§+4))):=Qa HDX.out.kn 2
       have HSZ:Hid (w§+5 < WX§):=(zJ HDX.out.kn).1
       have hx:d.x.size≤maxLen:=by have h1:=(HH.out.1.2.2.2.2.2.1 d (by rw [HEfs.out]; exact HMEM.out)).2.2.2; unfold SzX at h1; unfold maxLen; omega
       have x0:WX.cell? wr§¢0=some (.string d.x):=Qa HNX.out 0
       have x1:WX.cell? wr§¢2=some (zI d.p):=Qa HNX.out 2
       have cA:=add_any d.p HDX.out.m3 hx hn
       go_wp2_with fail
       refine cA.mono ?_
       rintro e w5 (⟨hin,c,rfl,hle,hfl,hb5⟩ | ⟨hin,rfl,hm5,hmv⟩)
       ·have HD5:=(HDX.out.on hb5)
        have HD5:Hid (Dec _ _ _ _ _ _ _ _ _):=HD5
        have HC:Hid (FlAt w5 c ZH d.p 150∧w§+5 < c):=⟨hfl,by have:=HSZ.out; omega⟩
        have HEE:Hid (decE r=some (d.p,150)):=by
         have h1:dNms [] (fs.map stN)=some (d.p,150):=by
          rw [HR.out,HTK.out.2]
          exact dNms_yes (x:=stN d) hin
         show decE r=_
         unfold decE
         rw [HEds.out,HN1.out,HEes.out,HN2.out,HEfs.out,h1]
        clear cA hle hfl hb5 hin k0 k1 k2 x0 x1
        go_wp2_with (refine wpList_store_row rfl 87 (.tmp 2) (.tmp 68) rfl (w§+1) zm rfl rfl 87 zm HD5.out.res Ke rfl (by simp [Value.oneCell']) ?_)
        exact bodyPost_ret (Qg (p:=2) (u:=3) (ty:=87) rfl _ _ (w§+1) 87 zm (0,0) _ rfl (setRow_heap _ _ _ _ _ _ HD5.out.res) Tryz.underlying87 rfl Ke) rfl (.inl ⟨d.p,150,c,HEE.out,rfl,by have:=HC.out.2; omega,(QM _ _ _ (by have:=HC.out.2; omega)).trans HC.out.1,Qo HD5.out.bel (Nat.le_succ _) _⟩)
       ·have HD5:Hid (Dec w w5 r ds.length es.length (i+1) ds (es.map Qw.x) ((fs.take (i+1)).map Qj.x)):=by have h5:=HDX.out.t hmv hm5; rw [show (fs.take i).map Qj.x ++ [d.x]=(fs.take (i+1)).map Qj.x by rw [HTK.out.1]; simp] at h5; exact h5
        have HR5:Hid (dNms [] (fs.map stN)=dNms ((fs.take (i+1)).map Qj.x) ((fs.drop (i+1)).map stN)):=by show _=_; rw [HR.out,HTK.out.2,HTK.out.1,List.map_append]; exact dNms_no (x:=stN d) hin
        clear cA hin hm5 hmv k0 k1 k2 x0 x1
        go_wp2_with fail
        exact⟨⟨i+1,hlt,rfl,HD5.out,HR5.out⟩,by simp only [intOf]; omega⟩
      ·obtain rfl:i=fs.length:=by omega
       have hnot:¬ (fs.length:Int) < (fs.length:Int):=by omega
       have HN3:Hid (dNms [] (fs.map stN)=none):=by show _=_; rw [HR.out,List.drop_length]; rfl
       have HDF:Hid (Dec w wr r ds.length es.length fs.length ds (es.map Qw.x) (fs.map Qj.x)):=by have h1:=HDR.out; rw [List.take_length] at h1; exact h1
       clear HDR HR HDQ
       have k0:wr.cell? ⟨w§+5,0,none⟩=some (.map (some (w§+2))):=Qa HDF.out.kn 0
       have k1:wr.cell? ⟨w§+5,1,none⟩=some (.map (some (w§+3))):=Qa HDF.out.kn 1
       have k2:wr.cell? ⟨w§+5,2,none⟩=some (.map (some (w§+4))):=Qa HDF.out.kn 2
       have HNN:Hid (decE r=none):=by show decE r=none; unfold decE; rw [HEds.out,HN1.out,HEes.out,HN2.out,HEfs.out,HN3.out]
       have HKN:Hid (Kn (wr.setRow (w§+1) #[.map (some (w§+2)),.map (some (w§+3)),.map (some (w§+4))]) (w§+2) (w§+3) (w§+4) (regL r.rs) (r.ss.map Qw.x) (r.ts.map Qj.x)):=by
        rw [HEds.out,HEes.out,HEfs.out]
        exact⟨(HDF.out.m1.mv (mv_row _ _ _) (by omega)).m,⟨_,HDF.out.m2.mv (mv_row _ _ _) (by omega)⟩,⟨_,HDF.out.m3.mv (mv_row _ _ _) (by omega)⟩⟩
       go_wp2_with (refine wpList_store_row rfl 87 (.tmp 2) (.tmp 71) rfl (w§+1) #[.map (some (w§+2)),.map (some (w§+3)),.map (some (w§+4))] rfl rfl 87 zm HDF.out.res Ke rfl (by simp [Value.oneCell']) ?_)
       exact bodyPost_ret (Qg (p:=2) (u:=3) (ty:=87) rfl _ _ (w§+1) 87 #[.map (some (w§+2)),.map (some (w§+3)),.map (some (w§+4))] (0,0) _ rfl (setRow_heap _ _ _ _ _ _ HDF.out.res) Tryz.underlying87 rfl Ke) rfl (.inr ⟨_,_,_,HNN.out,rfl,HKN.out,Qo HDF.out.bel (Nat.le_succ _) _⟩)
theorem fit_len {h:Hd}{l:Nat}(e:fitB h l=true):l≤3:=by
 unfold fitB at e
 repeat' split at e
 all_goals (simp at e; try omega)
theorem fit_fld {h:Hd}{l:Nat}(e:fitB h l=true) (hk:h.k=3):0≤h.f∧h.f < 7:=by
 unfold fitB at e
 simp [hk] at e
 omega
theorem formsB_mem:∀ (l:List Nd),Q6 l=true→∀ k ∈ l,QW k=true:=by
 intro l
 induction l with
 | nil=>intro _ k hk; cases hk
 | cons x l ih =>
  intro h k hk
  simp only [Q6,Bool.and_eq_true] at h
  rcases List.mem_cons.1 hk with e | e
  ·rw [e]; exact h.1
  ·exact ih h.2 k e
theorem okT_form:∀ (m:Nd),QW m=true→OkT m:=by
 refine Nd.ind fun h a c ks ih hf=>?_
 simp only [QW,oneH,Bool.and_eq_true] at hf
 exact .mk h a c ks (fit_len hf.1.2) (fit_fld hf.1.2) (fun k hk=>ih k hk (formsB_mem ks hf.2 k hk))
theorem okT_cE {m:Nd}(h:cE m=0):OkT m:=by
 apply okT_form
 unfold cE at h
 cases e:QW m with
 | true=>rfl
 | false=>rw [e] at h; simp at h
def ruE (L:yB→Option Int) (S2 S3:List yB) (r:Qr):Option (Int × Int):=match pcE L (r.m,5) with
 | some e=>some e
 | none=>dosE L S2 S3 false r.ds
theorem pts_mem {L:yB→Option Int}{d:DoM}{q:Nd × Int}(h:q ∈ ptsL L d):(q.1=d.sd∧ndS d=true)∨(q.1=d.qt∧ndQ d=true)∨(q.1=d.pr∧ndP d=true)∨(q.1=d.vl∧ndV d=true):=by
 unfold ptsL at h
 by_cases h1:d.k=1
 ·have e1:(d.k == 1)=true:=by simpa using h1
  rw [e1,if_pos rfl] at h
  by_cases h2:d.o=2
  ·have e2:(d.o == 2)=true:=by simpa using h2
   rw [e2,if_pos rfl] at h
   simp only [List.mem_cons,List.not_mem_nil,or_false] at h
   rcases h with rfl | rfl
   ·exact .inl ⟨rfl,by simp [ndS,h1]⟩
   ·exact .inr (.inl ⟨rfl,by simp [ndQ,h1]⟩)
  ·have e2:(d.o == 2)=false:=by simpa using h2
   rw [e2,if_neg (by decide)] at h
   simp only [List.mem_cons,List.not_mem_nil,or_false] at h
   rcases h with rfl | rfl | rfl
   ·exact .inl ⟨rfl,by simp [ndS,h1]⟩
   ·exact .inr (.inl ⟨rfl,by simp [ndQ,h1]⟩)
   ·exact .inr (.inr (.inl ⟨rfl,by simp [ndP,h1,h2]⟩))
 ·have e1:(d.k == 1)=false:=by simpa using h1
  rw [e1,if_neg (by decide)] at h
  by_cases h2:d.k=2
  ·have e2:(d.k == 2)=true:=by simpa using h2
   rw [e2,if_pos rfl] at h
   simp only [List.mem_cons,List.not_mem_nil,or_false] at h
   rcases h with rfl | rfl
   ·exact .inr (.inl ⟨rfl,by simp [ndQ,h2]⟩)
   ·exact .inr (.inr (.inl ⟨rfl,by simp [ndP,h2]⟩))
  ·have e2:(d.k == 2)=false:=by simpa using h2
   rw [e2,if_neg (by decide)] at h
   by_cases h4:d.k=4
   ·have e4:(d.k == 4)=true:=by simpa using h4
    rw [e4,if_pos rfl] at h
    simp only [List.mem_cons,List.not_mem_nil,or_false] at h
    subst h
    exact .inr (.inr (.inr ⟨rfl,by simp [ndV,h4]⟩))
   ·have e4:(d.k == 4)=false:=by simpa using h4
    rw [e4,if_neg (by decide)] at h
    cases h
theorem pts_lies {L:yB→Option Int}{d:DoM}{w:yW}(h:DoL w d):∀ q ∈ ptsL L d,Lies w q.1:=fun q hq=>by
 rcases pts_mem hq with ⟨e,_⟩ | ⟨e,_⟩ | ⟨e,_⟩ | ⟨e,_⟩ <;> rw [e]
 ·exact h.1
 ·exact h.2.1
 ·exact h.2.2.1
 ·exact h.2.2.2.1
theorem fs_0 {a b:Int}(h:fs a b=0):a=0∧b=0:=by
 unfold fs at h
 split at h
 ·exact⟨by assumption,h⟩
 ·exact absurd h (by assumption)
theorem fsL_0:∀ (l:List Int),fsL l=0→∀ x ∈ l,x=0
 | [],_=>fun x hx=>by cases hx
 | y :: l,h=>fun x hx=>by
  have h':fs y (fsL l)=0:=h
  rcases List.mem_cons.1 hx with e | e
  ·rw [e]; exact (fs_0 h').1
  ·exact fsL_0 l (fs_0 h').2 x e
theorem part_ok {m:Nd}{is:Bool}(h:Ja m is=0) (hi:is=true):OkT m:=by
 unfold Ja at h
 rw [if_pos hi] at h
 exact okT_cE h
theorem do_ok {L:yB→Option Int}{d:DoM}(h:doE d=0):∀ q ∈ ptsL L d,OkT q.1:=fun q hq=>by
 unfold doE at h
 have h3:=(fs_0 (fs_0 (fs_0 h).2).2).2
 have a1:=fs_0 h3
 have a2:=fs_0 a1.2
 have a3:=fs_0 a2.2
 rcases pts_mem hq with ⟨e,i⟩ | ⟨e,i⟩ | ⟨e,i⟩ | ⟨e,i⟩ <;> rw [e]
 ·exact part_ok a1.1 i
 ·exact part_ok a2.1 i
 ·exact part_ok a3.1 i
 ·exact part_ok a3.2 i
def RuOk (L:yB→Option Int) (r:Qr):Prop:=OkT r.m∧∀ d ∈ r.ds,∀ q ∈ ptsL L d,OkT q.1
theorem rule_ok {r:Qr}(h:Jz r=0) (L:yB→Option Int):RuOk L r:=by
 unfold Jz at h
 have h1:=fs_0 h
 have h2:=fs_0 h1.2
 exact⟨okT_cE h1.1,fun d hd=>do_ok (fsL_0 _ h2.2 _ (List.mem_map.2 ⟨d,hd,rfl⟩))⟩
theorem state_ok {x:Qj}(h:Jg x=0) (L:yB→Option Int):∀ r ∈ x.rs,RuOk L r:=fun r hr=>by
 unfold Jg at h
 exact rule_ok (fsL_0 _ (fs_0 (fs_0 h).2).2 _ (List.mem_map.2 ⟨r,hr,rfl⟩)) L
theorem fE_ok {m:Nd}(h:fE m=0):OkT m:=by
 apply okT_form
 unfold fE at h
 cases e:QW m with
 | true=>rfl
 | false=>rw [e] at h; simp at h
theorem reg_ok {r:RegM}(h:regE r=0):OkT r.m:=by
 unfold regE initE at h
 exact fE_ok (fs_0 (fs_0 (fs_0 h).2).2).1
theorem strat_ok {S:Qm}(h:Jf S=0) (L:yB→Option Int):(∀ d ∈ S.rs,OkT d.m)∧∀ x ∈ S.ts,∀ r ∈ x.rs,RuOk L r:=by
 unfold Jf at h
 have h1:=fs_0 (fs_0 (fs_0 h).2).2
 have h2:=(fs_0 (fs_0 (fs_0 h1.2).2).2).2
 exact⟨fun d hd=>reg_ok (fsL_0 _ h1.1 _ (List.mem_map.2 ⟨d,hd,rfl⟩)),fun x hx=>state_ok (fsL_0 _ h2 _ (List.mem_map.2 ⟨x,hx,rfl⟩)) L⟩
theorem checkRule_any (b b2 b3:Nat) (L:yB→Option Int) (S2 S3:List yB) (r:Qr) (w:yW) (hk:Kn w b b2 b3 L S2 S3) (hf:FTab w) (hg:Ety w) (hl:Jk w r) (ho:RuOk L r) :
  Calls zG 33 #[.agg #[.map (some b),.map (some b2),.map (some b3)],.agg r.vals] w (OutC w (ruE L S2 S3 r)):=by
 have hb1:=Qc w (.cells #[.map (some b),.map (some b2),.map (some b3)] 87)
 have hn1:=Qd w (.cells #[.map (some b),.map (some b2),.map (some b3)] 87)
 have hs1:=Qf w (.cells #[.map (some b),.map (some b2),.map (some b3)] 87)
 obtain⟨W1,e1⟩:∃ W,w.alloc (.cells #[.map (some b),.map (some b2),.map (some b3)] 87)=W:=⟨_,rfl⟩
 have E1:Hid (w.alloc (.cells #[.map (some b),.map (some b2),.map (some b3)] 87)=W1):=e1
 rw [e1] at hb1 hn1 hs1
 have hb2:=Qc W1 (.cells r.vals 92)
 have hn2:=Qd W1 (.cells r.vals 92)
 have hk2:=(hb2.block _ (zJ hn1).1).trans hn1
 have hbw:=Qe hb1 hb2
 rw [hs1] at hn2
 have HS1:Hid (W1§=w§+1):=hs1
 obtain⟨W2,e2⟩:∃ W,W1.alloc (.cells r.vals 92)=W:=⟨_,rfl⟩
 have E2:Hid (W1.alloc (.cells r.vals 92)=W2):=e2
 rw [e2] at hn2 hk2 hbw
 have HB:Hid (yD w W2):=hbw
 have HN:Hid (W2.heap[w§+1]? = (zC r.vals 92)∧W2.heap[w§]? = (zC #[.map (some b),.map (some b2),.map (some b3)] 87)):=⟨hn2,hk2⟩
 have k0:W2.cell? w§¢0=some (.map (some b)):=Qa hk2 0
 have k1:W2.cell? w§¢1=some (.map (some b2)):=Qa hk2 1
 have k2:W2.cell? w§¢2=some (.map (some b3)):=Qa hk2 2
 have c0:W2.cell? ⟨w§+1,0,none⟩=some (zU r.m.h.k):=Qa hn2 0
 have c1:W2.cell? ⟨w§+1,1,none⟩=some (zU r.m.h.o):=Qa hn2 1
 have c2:W2.cell? ⟨w§+1,2,none⟩=some (zU r.m.h.t):=Qa hn2 2
 have c3:W2.cell? ⟨w§+1,3,none⟩=some (zI r.m.h.n):=Qa hn2 3
 have c4:W2.cell? ⟨w§+1,4,none⟩=some (zU r.m.h.f):=Qa hn2 4
 have c5:W2.cell? ⟨w§+1,5,none⟩=some (.string r.m.h.x):=Qa hn2 5
 have c6:W2.cell? ⟨w§+1,6,none⟩=some (.slice r.m.a r.m.ks.length r.m.c):=Qa hn2 6
 have c7:W2.cell? ⟨w§+1,7,none⟩=some (zI r.m.h.p):=Qa hn2 7
 have cP:Calls zG 69 #[.agg #[.map (some b),.map (some b2),.map (some b3)],.agg #[zU r.m.h.k,zU r.m.h.o,zU r.m.h.t,zI r.m.h.n,zU r.m.h.f,.string r.m.h.x,.slice r.m.a r.m.ks.length r.m.c,zI r.m.h.p,zU 5]] W2 (OutC W2 (pcE L (r.m,5))):=checkPart_any b b2 b3 L (r.m,5) W2 (hk.on hbw).r (hf.on hbw) (hl.1.on hbw) ho.1 (hg.on hbw)
 have HH:Hid (Kn w b b2 b3 L S2 S3∧FTab w∧Ety w∧Jk w r∧RuOk L r):=⟨hk,hf,hg,hl,ho⟩
 clear hb1 hn1 hs1 hb2 hk2 hn2 hbw hk e1 e2 hf hl ho hg
 go_enter Tryz.func33,Tryz.ntmps33
 go_upto_region 1 with fail
 rw [E1.out,E2.out]
 try rw [HS1.out]
 clear E1 E2 HS1
 go_wp2_with fail
 refine cP.mono ?_
 rintro e w3 (⟨h1,rfl,hb3⟩ | ⟨p,no,T,v,h1,rfl,her,hb3⟩)
 ·have HB3:Hid (yD w w3):=Qe HB.out hb3
  have g1:=(hb3.block _ (zJ HN.out.1).1).trans HN.out.1
  have g2:=(hb3.block _ (zJ HN.out.2).1).trans HN.out.2
  have m0:w3.cell? w§¢0=some (.map (some b)):=Qa g2 0
  have m1:w3.cell? w§¢1=some (.map (some b2)):=Qa g2 1
  have m2:w3.cell? w§¢2=some (.map (some b3)):=Qa g2 2
  have a8:w3.cell? ⟨w§+1,8,none⟩=some (.slice r.a r.ds.length r.c):=Qa g1 8
  have cD:Calls zG 70 #[.agg #[.map (some b),.map (some b2),.map (some b3)],.slice r.a r.ds.length r.c] w3 (OutC w3 (dosE L S2 S3 false r.ds)):=checkDos_any b b2 b3 L S2 S3 r.a r.c r.ds w3 (HH.out.1.on HB3.out) (HH.out.2.1.on HB3.out) (HH.out.2.2.1.on HB3.out) (HH.out.2.2.2.1.on HB3.out).2.1 (fun d hd=>⟨(HH.out.2.2.2.1.on HB3.out).2.2.1 d hd,fun q hq=>⟨pts_lies ((HH.out.2.2.2.1.on HB3.out).2.2.1 d hd) q hq,HH.out.2.2.2.2.2 d hd q hq⟩⟩)
  have HR:Hid (ruE L S2 S3 r=dosE L S2 S3 false r.ds):=by show _=_; unfold ruE; rw [h1]
  clear g1 g2 h1 hb3 cP k0 k1 k2 c0 c1 c2 c3 c4 c5 c6 c7
  go_wp2_with fail
  refine cD.mono ?_
  rintro e w4 (⟨h1,rfl,hb4⟩ | ⟨p,no,T,v,h1,rfl,her,hb4⟩)
  ·have HB4:Hid (yD w w4):=Qe HB3.out hb4
   have HR2:Hid (ruE L S2 S3 r=none):=HR.out.trans h1
   clear h1 hb4 cD
   go_wp2_with fail
   go_ret
   exact .inl ⟨HR2.out,rfl,HB4.out⟩
  ·have HB4:Hid (yD w w4∧Er w4 (.iface T v) no p):=⟨Qe HB3.out hb4,her⟩
   have HR2:Hid (ruE L S2 S3 r=some (p,no)):=HR.out.trans h1
   clear h1 hb4 her cD
   go_wp2_with fail
   go_ret
   exact .inr ⟨p,no,T,v,HR2.out,rfl,HB4.out.2,HB4.out.1⟩
 ·have HB3:Hid (yD w w3∧Er w3 (.iface T v) no p):=⟨Qe HB.out hb3,her⟩
  have HR:Hid (ruE L S2 S3 r=some (p,no)):=by show _=_; unfold ruE; rw [h1]
  clear h1 hb3 her cP k0 k1 k2 c0 c1 c2 c3 c4 c5 c6 c7
  go_wp2_with fail
  go_ret
  exact .inr ⟨p,no,T,v,HR.out,rfl,HB3.out.2,HB3.out.1⟩
end Go.Proofs.YtoogodlnnijikaaGreatDoor
