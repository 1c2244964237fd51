import Derived.Test.YtfbjofnaghjmeaaGreatDoorA0
import Derived.Test.YtfbjofnaghjmeaaGreatDoorA19
namespace Go.Proofs.YtfbjofnaghjmeaaGreatDoor
set_option maxHeartbeats 8000000
set_option maxRecDepth 100000
open Go.RowKit
set_option linter.unusedVariables false
def ruleE (r:RuleM):Int:=fs (cE r.m) (fs (cntE r.ds.length 1 8) (fsL (r.ds.map doE)))
def RuleZ (r:RuleM):Prop:=size r.m≤1000000000000∧∀ d ∈ r.ds,DoZ d
def stateE (r:StateM):Int:=fs (namE r.x) (fs (cntE r.rs.length 0 12) (fsL (r.rs.map ruleE)))
def StateZ (r:StateM):Prop:=∀ d ∈ r.rs,RuleZ d
theorem rule_m (r:RuleM):∀ j,j < 8→r.vals[0+j]? = r.m.vals.toList[j]?:=fun j hj=>by
 match j,hj with
 | 0,_=>rfl
 | 1,_=>rfl
 | 2,_=>rfl
 | 3,_=>rfl
 | 4,_=>rfl
 | 5,_=>rfl
 | 6,_=>rfl
 | 7,_=>rfl
theorem rule_gives (r:RuleM) (w:yW) (hl:RuleL w r) (hz:RuleZ r) (ht:Tab w):Gives 208 #[.agg r.vals] w (ruleE r):=by
 have hb0:=below_new w (.cells r.vals 100)
 have hn0:=heap_new w (.cells r.vals 100)
 have HH:Hid (RuleL w r∧Tab w∧RuleZ r):=⟨hl,ht,hz⟩
 have HN0:Hid ((w.alloc (.cells r.vals 100)).heap[w§]? = (zC r.vals 100)):=hn0
 have HB0:Hid (yD w (w.alloc (.cells r.vals 100))):=hb0
 obtain⟨E,eE⟩:∃ E,ruleE r=E:=⟨_,rfl⟩
 have HE:Hid (ruleE r=E):=eE
 rw [eE]
 unfold ruleE at HE
 clear eE
 have c1:=(needExpr_any r.m (w.alloc (.cells r.vals 100)) (hl.1.on hb0) hz.1 (ht.on hb0)).two
 clear hl ht hz hb0 hn0
 unfold Gives
 rcases c1 with ⟨h1,c1⟩ | ⟨h1,c1⟩
 ·go_enter Tryz.func208,Tryz.ntmps208
  go_wp2_with (refine wpList_load_mid rfl 38 (.tmp 4) rfl w§ 0 rfl r.m.vals.toList _ (nd_rng HN0.out 0 r.m (rule_m r)) Tryz.underlying38 rfl (size38 r.m) ?_; rw [toArr])
  refine c1.mono ?_
  rintro e w1 ⟨rfl,hb⟩
  have HB1:Hid (yD w w1):=below2 HB0.out hb
  have hn1:=(hb.block _ (zJ HN0.out).1).trans HN0.out
  have HN1:Hid (w1.heap[w§]? = (zC r.vals 100)):=hn1
  obtain⟨n,en⟩:∃ n,r.ds.length=n:=⟨_,rfl⟩
  have q8:w1.cell? w§¢8=some (.slice r.a n r.c):=by rw [← en]; exact cell_of hn1 8
  have HNL:Hid (r.ds.length=n):=en
  have c2:=(cnt_gives n 1 8 w1).two
  rw [en] at HE
  clear c1 hb hn1 HN0 HB0 en
  rcases c2 with ⟨h2,c2⟩ | ⟨h2,c2⟩
  ·go_wp2_with fail
   refine c2.mono ?_
   rintro e w2 ⟨rfl,hb⟩
   have HBS:Hid (yD w w2):=below2 HB1.out hb
   have hn2:=(hb.block _ (zJ HN1.out).1).trans HN1.out
   have q9:w2.cell? w§¢8=some (.slice r.a n r.c):=by rw [← HNL.out]; exact cell_of hn2 8
   have HSL:Hid (SlAt w 36 r.a r.c (r.ds.map DoM.vals)):=HH.out.1.2.1
   obtain⟨ds,eds⟩:∃ ds,r.ds=ds:=⟨_,rfl⟩
   have HDS:Hid (∀ d ∈ ds,DoL w d∧DoZ d):=fun d hd=>by rw [← eds] at hd; exact⟨HH.out.1.2.2.1 d hd,HH.out.2.2.2 d hd⟩
   rw [eds] at HSL HNL HE
   obtain⟨ra,era⟩:∃ q,r.a=q:=⟨_,rfl⟩
   rw [era] at HSL q8 q9
   clear c2 hb hn2 q8 HN1 HB1 eds era
   go_wp2_with fail
   obtain rfl:=HNL.out
   go_loopw [14] (fun t wr=>∃ i:Nat,i≤ds.length∧t=zI i∧yD w wr∧Hid (fsL (ds.map doE)=fsL ((ds.drop i).map doE))) (fun t _=>ds.length - (intOf t).toNat)
   case atStart=>exact⟨0,by omega,rfl,HBS.out,rfl⟩
   case round =>
    obtain⟨i,hi,rfl,hbr,HR⟩:=hrel
    have HBR:Hid (yD w wr):=hbr
    clear hbr
    by_cases hlt:i < ds.length
    ·have hlt':(i:Int) < (ds.length:Int):=by omega
     have hmx:(i:Int)+1≤9223372036854775807:=by have h1:=HSL.out.1; have h2:=HSL.out.2.1; rw [List.length_map] at h1; omega
     obtain⟨b,o,ea,hat⟩:=(HSL.out.on (mapz DoM.sz _) HBR.out).2.2 i (by rw [List.length_map]; exact hlt)
     simp only [List.getElem_map] at hat
     have HMEM:Hid (ds[i] ∈ ds):=List.getElem_mem hlt
     have HD:Hid (fsL (ds.map doE)=fs (doE ds[i]) (fsL ((ds.drop (i+1)).map doE))):=by show _=_; rw [HR.out,List.drop_eq_getElem_cons hlt]; rfl
     obtain⟨d,ed⟩:∃ d,ds[i]=d:=⟨_,rfl⟩
     rw [ed] at hat HD HMEM
     have HRG:Hid (wr.rangeAt b (o+i * 36) d.vals.toList):=fun j v hv=>by
      have hj:j < 36:=(List.getElem?_eq_some_iff.1 hv).1
      rw [hat j hj,← hv]; simp
     have HZ:Hid ((wr.alloc (.cells #[zU 0,zU 0,yQ,zU 0,zU 0,zU 0,zI 0,zU 0,yQ,.slice none 0 0,zI 0,zU 0,zU 0,zU 0,zI 0,zU 0,yQ,.slice none 0 0,zI 0,zU 0,zU 0,zU 0,zI 0,zU 0,yQ,.slice none 0 0,zI 0,zU 0,zU 0,zU 0,zI 0,zU 0,yQ,.slice none 0 0,zI 0,zI 0] 121)).heap[wr§]? = (zC #[zU 0,zU 0,yQ,zU 0,zU 0,zU 0,zI 0,zU 0,yQ,.slice none 0 0,zI 0,zU 0,zU 0,zU 0,zI 0,zU 0,yQ,.slice none 0 0,zI 0,zU 0,zU 0,zU 0,zI 0,zU 0,yQ,.slice none 0 0,zI 0,zU 0,zU 0,zU 0,zI 0,zU 0,yQ,.slice none 0 0,zI 0,zI 0] 121)):=heap_new _ _
     have hbx:yD wr ((wr.alloc (.cells #[zU 0,zU 0,yQ,zU 0,zU 0,zU 0,zI 0,zU 0,yQ,.slice none 0 0,zI 0,zU 0,zU 0,zU 0,zI 0,zU 0,yQ,.slice none 0 0,zI 0,zU 0,zU 0,zU 0,zI 0,zU 0,yQ,.slice none 0 0,zI 0,zU 0,zU 0,zU 0,zI 0,zU 0,yQ,.slice none 0 0,zI 0,zI 0] 121)).setRow wr§ d.vals):=below_row (below_new _ _) (Nat.le_refl _) _
     have HBX:Hid (yD w ((wr.alloc (.cells #[zU 0,zU 0,yQ,zU 0,zU 0,zU 0,zI 0,zU 0,yQ,.slice none 0 0,zI 0,zU 0,zU 0,zU 0,zI 0,zU 0,yQ,.slice none 0 0,zI 0,zU 0,zU 0,zU 0,zI 0,zU 0,yQ,.slice none 0 0,zI 0,zU 0,zU 0,zU 0,zI 0,zU 0,yQ,.slice none 0 0,zI 0,zI 0] 121)).setRow wr§ d.vals)):=below2 HBR.out hbx
     have HNX:Hid (((wr.alloc (.cells #[zU 0,zU 0,yQ,zU 0,zU 0,zU 0,zI 0,zU 0,yQ,.slice none 0 0,zI 0,zU 0,zU 0,zU 0,zI 0,zU 0,yQ,.slice none 0 0,zI 0,zU 0,zU 0,zU 0,zI 0,zU 0,yQ,.slice none 0 0,zI 0,zU 0,zU 0,zU 0,zI 0,zU 0,yQ,.slice none 0 0,zI 0,zI 0] 121)).setRow wr§ d.vals).heap[wr§]? = (zC d.vals 121)):=setRow_heap _ _ _ _ _ _ HZ.out
     obtain⟨A,eA⟩:∃ A,ra=A:=⟨_,rfl⟩
     rw [eA] at ea ⊢
     subst ea
     clear hat ed hbx HR
     go_upto_region 6 with (first | (refine wpList_load_mid rfl 121 (.tmp 16) rfl b (o+i * 36) rfl d.vals.toList _ HRG.out Tryz.underlying121 rfl (by show _=some 36; exact size110') ?_; rw [Array.toArray_toList]) | (refine wpList_store_row rfl 121 (.tmp 3) (.tmp 17) rfl wr§ d.vals rfl rfl 121 #[zU 0,zU 0,yQ,zU 0,zU 0,zU 0,zI 0,zU 0,yQ,.slice none 0 0,zI 0,zU 0,zU 0,zU 0,zI 0,zU 0,yQ,.slice none 0 0,zI 0,zU 0,zU 0,zU 0,zI 0,zU 0,yQ,.slice none 0 0,zI 0,zU 0,zU 0,zU 0,zI 0,zU 0,yQ,.slice none 0 0,zI 0,zI 0] HZ.out size110' rfl (all36 ..) ?_))
     generalize hWX:World.setRow _ _ _=WX
     rw [hWX] at HBX HNX
     clear hWX HZ HRG
     have cD:=(do_gives d WX ((HDS.out d HMEM.out).1.on HBX.out) (HDS.out d HMEM.out).2 (HH.out.2.1.on HBX.out)).two
     rcases cD with ⟨hd0,cD⟩ | ⟨hd0,cD⟩
     ·go_wp2_with (refine wpList_load_row rfl 121 (.tmp 3) rfl wr§ rfl 121 d.vals (0,0) _ HNX.out Tryz.underlying121 rfl size110' ?_)
      refine cD.mono ?_
      rintro e w5 ⟨rfl,hb5⟩
      have HB5:Hid (yD w w5):=below2 HBX.out hb5
      clear cD hb5
      go_wp2_with fail
      exact⟨⟨i+1,hlt,rfl,HB5.out,by show _=_; rw [HD.out,fs_z hd0]⟩,by simp only [intOf]; omega⟩
     ·go_wp2_with (refine wpList_load_row rfl 121 (.tmp 3) rfl wr§ rfl 121 d.vals (0,0) _ HNX.out Tryz.underlying121 rfl size110' ?_)
      refine cD.mono ?_
      rintro e w5 ⟨rfl,hb5⟩
      have hE:E=doE d:=by rw [← HE.out,fs3_z h1 h2,HD.out,fs_n hd0]
      exact⟨rfl,.inr ⟨by rw [hE]; exact hd0,by rw [hE]⟩,below2 HBX.out hb5⟩
    ·obtain rfl:i=ds.length:=by omega
     have hnot:¬ (ds.length:Int) < (ds.length:Int):=by omega
     have HZERO:Hid (fsL (ds.map doE)=0):=by show _=_; rw [HR.out,List.drop_length]; rfl
     clear HR
     go_wp2_with fail
     go_end0
     exact⟨.inl ⟨by rw [← HE.out,fs3_z h1 h2]; exact HZERO.out,rfl⟩,HBR.out⟩
  ·go_wp2_with fail
   refine c2.mono ?_
   rintro e w2 ⟨rfl,hb⟩
   have hE:E=cntE n 1 8:=by rw [← HE.out,fs3_n h1 h2]
   exact⟨rfl,.inr ⟨by rw [hE]; exact h2,by rw [hE]⟩,below2 HB1.out hb⟩
 ·go_enter Tryz.func208,Tryz.ntmps208
  go_wp2_with (refine wpList_load_mid rfl 38 (.tmp 4) rfl w§ 0 rfl r.m.vals.toList _ (nd_rng HN0.out 0 r.m (rule_m r)) Tryz.underlying38 rfl (size38 r.m) ?_; rw [toArr])
  refine c1.mono ?_
  rintro e w1 ⟨rfl,hb⟩
  have hE:E=cE r.m:=by rw [← HE.out,fs_n h1]
  exact⟨rfl,.inr ⟨by rw [hE]; exact h1,by rw [hE]⟩,below2 HB0.out hb⟩
def slE (d:SlotM):Int:=namE d.x
def StratZ (S:StratM):Prop:=∀ d ∈ S.ts,StateZ d
def stratE (S:StratM):Int:=fs (namE S.x) (fs (cntE S.rs.length 0 12) (fs (fsL (S.rs.map regE)) (fs (cntE S.ss.length 0 4) (fs (fsL (S.ss.map slE)) (fs (cntE S.ts.length 1 12) (fsL (S.ts.map stateE)))))))
theorem state_gives (r:StateM) (w:yW) (hl:StateL w r) (hz:StateZ r) (ht:Tab w):Gives 180 #[.agg r.vals] w (stateE r):=by
 have hb0:=below_new w (.cells r.vals 69)
 have hn0:=heap_new w (.cells r.vals 69)
 have HH:Hid (StateL w r∧Tab w∧StateZ r):=⟨hl,ht,hz⟩
 have HN0:Hid ((w.alloc (.cells r.vals 69)).heap[w§]? = (zC r.vals 69)):=hn0
 have HB0:Hid (yD w (w.alloc (.cells r.vals 69))):=hb0
 obtain⟨E,eE⟩:∃ E,stateE r=E:=⟨_,rfl⟩
 have HE:Hid (stateE r=E):=eE
 rw [eE]
 unfold stateE at HE
 clear eE
 have q0:(w.alloc (.cells r.vals 69)).cell? w§¢0=some (.string r.x):=cell_of hn0 0
 have c1:=(nm_gives (x:=r.x) hl.2.2.2 (ht.on hb0)).two
 clear hl ht hz hb0 hn0
 unfold Gives
 rcases c1 with ⟨h1,c1⟩ | ⟨h1,c1⟩
 ·go_enter Tryz.func180,Tryz.ntmps180
  go_wp2_with fail
  refine c1.mono ?_
  rintro e w1 ⟨rfl,hb⟩
  have HB1:Hid (yD w w1):=below2 HB0.out hb
  have hn1:=(hb.block _ (zJ HN0.out).1).trans HN0.out
  have HN1:Hid (w1.heap[w§]? = (zC r.vals 69)):=hn1
  obtain⟨n,en⟩:∃ n,r.rs.length=n:=⟨_,rfl⟩
  have q8:w1.cell? w§¢1=some (.slice r.a n r.c):=by rw [← en]; exact cell_of hn1 1
  have HNL:Hid (r.rs.length=n):=en
  have c2:=(cnt_gives n 0 12 w1).two
  rw [en] at HE
  clear c1 hb hn1 HN0 HB0 en q0
  rcases c2 with ⟨h2,c2⟩ | ⟨h2,c2⟩
  ·go_wp2_with fail
   refine c2.mono ?_
   rintro e w2 ⟨rfl,hb⟩
   have HBS:Hid (yD w w2):=below2 HB1.out hb
   have hn2:=(hb.block _ (zJ HN1.out).1).trans HN1.out
   have q9:w2.cell? w§¢1=some (.slice r.a n r.c):=by rw [← HNL.out]; exact cell_of hn2 1
   have HSL:Hid (SlAt w 10 r.a r.c (r.rs.map RuleM.vals)):=HH.out.1.1
   obtain⟨ds,eds⟩:∃ ds,r.rs=ds:=⟨_,rfl⟩
   have HDS:Hid (∀ d ∈ ds,RuleL w d∧RuleZ d):=fun d hd=>by rw [← eds] at hd; exact⟨HH.out.1.2.1 d hd,HH.out.2.2 d hd⟩
   rw [eds] at HSL HNL HE
   obtain⟨ra,era⟩:∃ q,r.a=q:=⟨_,rfl⟩
   rw [era] at HSL q8 q9
   clear c2 hb hn2 q8 HN1 HB1 eds era
   go_wp2_with fail
   obtain rfl:=HNL.out
   go_loopw [14] (fun t wr=>∃ i:Nat,i≤ds.length∧t=zI i∧yD w wr∧Hid (fsL (ds.map ruleE)=fsL ((ds.drop i).map ruleE))) (fun t _=>ds.length - (intOf t).toNat)
   case atStart=>exact⟨0,by omega,rfl,HBS.out,rfl⟩
   case round =>
    obtain⟨i,hi,rfl,hbr,HR⟩:=hrel
    have HBR:Hid (yD w wr):=hbr
    clear hbr
    by_cases hlt:i < ds.length
    ·have hlt':(i:Int) < (ds.length:Int):=by omega
     have hmx:(i:Int)+1≤9223372036854775807:=by have h1:=HSL.out.1; have h2:=HSL.out.2.1; rw [List.length_map] at h1; omega
     obtain⟨b,o,ea,hat⟩:=(HSL.out.on (mapz RuleM.sz _) HBR.out).2.2 i (by rw [List.length_map]; exact hlt)
     simp only [List.getElem_map] at hat
     have HMEM:Hid (ds[i] ∈ ds):=List.getElem_mem hlt
     have HD:Hid (fsL (ds.map ruleE)=fs (ruleE ds[i]) (fsL ((ds.drop (i+1)).map ruleE))):=by show _=_; rw [HR.out,List.drop_eq_getElem_cons hlt]; rfl
     obtain⟨d,ed⟩:∃ d,ds[i]=d:=⟨_,rfl⟩
     rw [ed] at hat HD HMEM
     have HRG:Hid (wr.rangeAt b (o+i * 10) d.vals.toList):=fun j v hv=>by
      have hj:j < 10:=(List.getElem?_eq_some_iff.1 hv).1
      rw [hat j hj,← hv]; simp
     have HZ:Hid ((wr.alloc (.cells zg 100)).heap[wr§]? = (zC zg 100)):=heap_new _ _
     have hbx:yD wr ((wr.alloc (.cells zg 100)).setRow wr§ d.vals):=below_row (below_new _ _) (Nat.le_refl _) _
     have HBX:Hid (yD w ((wr.alloc (.cells zg 100)).setRow wr§ d.vals)):=below2 HBR.out hbx
     have HNX:Hid (((wr.alloc (.cells zg 100)).setRow wr§ d.vals).heap[wr§]? = (zC d.vals 100)):=setRow_heap _ _ _ _ _ _ HZ.out
     obtain⟨A,eA⟩:∃ A,ra=A:=⟨_,rfl⟩
     rw [eA] at ea ⊢
     subst ea
     clear hat ed hbx HR
     go_upto_region 6 with (first | (refine wpList_load_mid rfl 100 (.tmp 16) rfl b (o+i * 10) rfl d.vals.toList _ HRG.out Tryz.underlying100 rfl (by show _=some 10; exact size106') ?_; rw [Array.toArray_toList]) | (refine wpList_store_row rfl 100 (.tmp 3) (.tmp 17) rfl wr§ d.vals rfl rfl 100 zg HZ.out size106' rfl (all10' d) ?_))
     generalize hWX:World.setRow _ _ _=WX
     rw [hWX] at HBX HNX
     clear hWX HZ HRG
     have cD:=(rule_gives d WX ((HDS.out d HMEM.out).1.on HBX.out) (HDS.out d HMEM.out).2 (HH.out.2.1.on HBX.out)).two
     rcases cD with ⟨hd0,cD⟩ | ⟨hd0,cD⟩
     ·go_wp2_with (refine wpList_load_row rfl 100 (.tmp 3) rfl wr§ rfl 100 d.vals (0,0) _ HNX.out Tryz.underlying100 rfl size106' ?_)
      refine cD.mono ?_
      rintro e w5 ⟨rfl,hb5⟩
      have HB5:Hid (yD w w5):=below2 HBX.out hb5
      clear cD hb5
      go_wp2_with fail
      exact⟨⟨i+1,hlt,rfl,HB5.out,by show _=_; rw [HD.out,fs_z hd0]⟩,by simp only [intOf]; omega⟩
     ·go_wp2_with (refine wpList_load_row rfl 100 (.tmp 3) rfl wr§ rfl 100 d.vals (0,0) _ HNX.out Tryz.underlying100 rfl size106' ?_)
      refine cD.mono ?_
      rintro e w5 ⟨rfl,hb5⟩
      have hE:E=ruleE d:=by rw [← HE.out,fs3_z h1 h2,HD.out,fs_n hd0]
      exact⟨rfl,.inr ⟨by rw [hE]; exact hd0,by rw [hE]⟩,below2 HBX.out hb5⟩
    ·obtain rfl:i=ds.length:=by omega
     have hnot:¬ (ds.length:Int) < (ds.length:Int):=by omega
     have HZERO:Hid (fsL (ds.map ruleE)=0):=by show _=_; rw [HR.out,List.drop_length]; rfl
     clear HR
     go_wp2_with fail
     go_end0
     exact⟨.inl ⟨by rw [← HE.out,fs3_z h1 h2]; exact HZERO.out,rfl⟩,HBR.out⟩
  ·go_wp2_with fail
   refine c2.mono ?_
   rintro e w2 ⟨rfl,hb⟩
   have hE:E=cntE n 0 12:=by rw [← HE.out,fs3_n h1 h2]
   exact⟨rfl,.inr ⟨by rw [hE]; exact h2,by rw [hE]⟩,below2 HB1.out hb⟩
 ·go_enter Tryz.func180,Tryz.ntmps180
  go_wp2_with fail
  refine c1.mono ?_
  rintro e w1 ⟨rfl,hb⟩
  have hE:E=namE r.x:=by rw [← HE.out,fs_n h1]
  exact⟨rfl,.inr ⟨by rw [hE]; exact h1,by rw [hE]⟩,below2 HB0.out hb⟩
theorem strat_gives (r:StratM) (w:yW) (hl:StratL w r) (hz:StratZ r) (ht:Tab w):Gives 145 #[.agg r.vals] w (stratE r):=by
 have hb0:=below_new w (.cells r.vals 26)
 have hn0:=heap_new w (.cells r.vals 26)
 have HH:Hid (StratL w r∧Tab w∧StratZ r):=⟨hl,ht,hz⟩
 have HN0:Hid ((w.alloc (.cells r.vals 26)).heap[w§]? = (zC r.vals 26)):=hn0
 have HB0:Hid (yD w (w.alloc (.cells r.vals 26))):=hb0
 obtain⟨E,eE⟩:∃ E,stratE r=E:=⟨_,rfl⟩
 have HE:Hid (stratE r=E):=eE
 rw [eE]
 unfold stratE at HE
 clear eE
 have q0:(w.alloc (.cells r.vals 26)).cell? w§¢0=some (.string r.x):=cell_of hn0 0
 have c1:=(nm_gives (x:=r.x) hl.2.2.2.2.2.2 (ht.on hb0)).two
 obtain⟨V,eV⟩:∃ V,w.alloc (.cells r.vals 26)=V:=⟨_,rfl⟩
 have HV:Hid (w.alloc (.cells r.vals 26)=V):=eV
 have BOX:Hid (∀ u,yD V u→u.heap[w§]? = (zC r.vals 26)):=fun u hu=>by rw [← eV] at hu; exact (hu.block _ (zJ hn0).1).trans hn0
 have HBV:Hid (yD w V):=by show yD w V; rw [← eV]; exact hb0
 have HHV:Hid (StratL V r):=hl.on HBV.out
 have HTV:Hid (Tab V):=ht.on HBV.out
 clear hl ht hz hb0 hn0 eV
 unfold Gives
 rcases c1 with ⟨h1,c1⟩ | ⟨h1,c1⟩
 ·go_enter Tryz.func145,Tryz.ntmps145
  go_wp2_with fail
  refine c1.mono ?_
  rintro e w1 ⟨rfl,hb⟩
  rw [HV.out] at hb
  have HB1:Hid (yD V w1):=hb
  clear c1 hb q0 HN0 HB0 HV
  obtain⟨n2,en2⟩:∃ n,r.rs.length=n:=⟨_,rfl⟩
  have q2:w1.cell? w§¢1=some (.slice r.ra n2 r.rc):=by rw [← en2]; exact cell_of (BOX.out _ HB1.out) 1
  have HNL2:Hid (r.rs.length=n2):=en2
  have c2:=(cnt_gives n2 0 12 w1).two
  rw [en2] at HE
  clear en2
  rcases c2 with ⟨h2,c2⟩ | ⟨h2,c2⟩
  ·go_wp2_with fail
   refine c2.mono ?_
   rintro e v2 ⟨rfl,hb⟩
   have HBS2:Hid (yD V v2):=below2 HB1.out hb
   have p2:v2.cell? w§¢1=some (.slice r.ra n2 r.rc):=by rw [← HNL2.out]; exact cell_of (BOX.out _ HBS2.out) 1
   have HSL2:Hid (SlAt V 11 r.ra r.rc (r.rs.map RegM.vals)):=HHV.out.1
   obtain⟨ds2,eds⟩:∃ ds,r.rs=ds:=⟨_,rfl⟩
   have HDS2:Hid (∀ d ∈ ds2,RegL V d):=fun d hd=>by rw [← eds] at hd; exact HHV.out.2.1 d hd
   rw [eds] at HSL2 HNL2 HE
   obtain⟨ra2,era⟩:∃ q,r.ra=q:=⟨_,rfl⟩
   rw [era] at HSL2 q2 p2
   clear c2 hb q2 HB1 eds era
   go_wp2_with fail
   obtain rfl:=HNL2.out
   clear HNL2
   go_loopw [18] (fun t wr=>∃ i:Nat,i≤ds2.length∧t=zI i∧yD V wr∧Hid (fsL (ds2.map regE)=fsL ((ds2.drop i).map regE))) (fun t _=>ds2.length - (intOf t).toNat)
   case atStart=>exact⟨0,by omega,rfl,HBS2.out,rfl⟩
   case round =>
    obtain⟨i,hi,rfl,hbr,HR⟩:=hrel
    have HBR:Hid (yD V wr):=hbr
    clear hbr
    by_cases hlt:i < ds2.length
    ·have hlt':(i:Int) < (ds2.length:Int):=by omega
     have hmx:(i:Int)+1≤9223372036854775807:=by have h1:=HSL2.out.1; have h2:=HSL2.out.2.1; rw [List.length_map] at h1; omega
     obtain⟨b,o,ea,hat⟩:=(HSL2.out.on (mapz RegM.sz _) HBR.out).2.2 i (by rw [List.length_map]; exact hlt)
     simp only [List.getElem_map] at hat
     have HMEM:Hid (ds2[i] ∈ ds2):=List.getElem_mem hlt
     have HD:Hid (fsL (ds2.map regE)=fs (regE ds2[i]) (fsL ((ds2.drop (i+1)).map regE))):=by show _=_; rw [HR.out,List.drop_eq_getElem_cons hlt]; rfl
     obtain⟨d,ed⟩:∃ d,ds2[i]=d:=⟨_,rfl⟩
     rw [ed] at hat HD HMEM
     have HRG:Hid (wr.rangeAt b (o+i * 11) d.vals.toList):=fun j v hv=>by
      have hj:j < 11:=(List.getElem?_eq_some_iff.1 hv).1
      rw [hat j hj,← hv]; simp
     have HZ:Hid ((wr.alloc (.cells ze 102)).heap[wr§]? = (zC ze 102)):=heap_new _ _
     have hbx:yD wr ((wr.alloc (.cells ze 102)).setRow wr§ d.vals):=below_row (below_new _ _) (Nat.le_refl _) _
     have HBX:Hid (yD V ((wr.alloc (.cells ze 102)).setRow wr§ d.vals)):=below2 HBR.out hbx
     have HNX:Hid (((wr.alloc (.cells ze 102)).setRow wr§ d.vals).heap[wr§]? = (zC d.vals 102)):=setRow_heap _ _ _ _ _ _ HZ.out
     obtain⟨A,eA⟩:∃ A,ra2=A:=⟨_,rfl⟩
     rw [eA] at ea ⊢
     subst ea
     clear hat ed hbx HR
     go_upto_region 6 with (first | (refine wpList_load_mid rfl 102 (.tmp 20) rfl b (o+i * 11) rfl d.vals.toList _ HRG.out Tryz.underlying102 rfl (by show _=some 11; exact size100') ?_; rw [Array.toArray_toList]) | (refine wpList_store_row rfl 102 (.tmp 3) (.tmp 21) rfl wr§ d.vals rfl rfl 102 ze HZ.out size100' rfl (all11 d) ?_))
     generalize hWX:World.setRow _ _ _=WX
     rw [hWX] at HBX HNX
     clear hWX HZ HRG
     have cD:=(reg_gives d WX ((HDS2.out d HMEM.out).on HBX.out) (HTV.out.on HBX.out)).two
     rcases cD with ⟨hd0,cD⟩ | ⟨hd0,cD⟩
     ·go_wp2_with (refine wpList_load_row rfl 102 (.tmp 3) rfl wr§ rfl 102 d.vals (0,0) _ HNX.out Tryz.underlying102 rfl size100' ?_)
      refine cD.mono ?_
      rintro e w5 ⟨rfl,hb5⟩
      have HB5:Hid (yD V w5):=below2 HBX.out hb5
      clear cD hb5
      go_wp2_with fail
      exact⟨⟨i+1,hlt,rfl,HB5.out,by show _=_; rw [HD.out,fs_z hd0]⟩,by simp only [intOf]; omega⟩
     ·go_wp2_with (refine wpList_load_row rfl 102 (.tmp 3) rfl wr§ rfl 102 d.vals (0,0) _ HNX.out Tryz.underlying102 rfl size100' ?_)
      refine cD.mono ?_
      rintro e w5 ⟨rfl,hb5⟩
      have hE:E=regE d:=by rw [← HE.out,fs_z h1,fs_z h2,fs_n (by rw [HD.out,fs_n hd0]; exact hd0),HD.out,fs_n hd0]
      exact⟨rfl,.inr ⟨by rw [hE]; exact hd0,by rw [hE]⟩,below2 HBV.out (below2 HBX.out hb5)⟩
    ·obtain rfl:i=ds2.length:=by omega
     have hnot:¬ (ds2.length:Int) < (ds2.length:Int):=by omega
     have HZERO:Hid (fsL (ds2.map regE)=0):=by show _=_; rw [HR.out,List.drop_length]; rfl
     clear HR
     have h3:=HZERO.out
     clear HZERO HSL2 HDS2 HBS2 p2
     have HBQ2:Hid (yD V wr):=HBR.out
     clear HBR
     obtain⟨n4,en4⟩:∃ n,r.ss.length=n:=⟨_,rfl⟩
     have q4:wr.cell? w§¢2=some (.slice r.sa n4 r.sc):=by rw [← en4]; exact cell_of (BOX.out _ HBQ2.out) 2
     have HNL4:Hid (r.ss.length=n4):=en4
     have c4:=(cnt_gives n4 0 4 wr).two
     rw [en4] at HE
     clear en4
     rcases c4 with ⟨h4,c4⟩ | ⟨h4,c4⟩
     ·go_wp2_with fail
      refine c4.mono ?_
      rintro e v4 ⟨rfl,hb⟩
      have HBS4:Hid (yD V v4):=below2 HBQ2.out hb
      have p4:v4.cell? w§¢2=some (.slice r.sa n4 r.sc):=by rw [← HNL4.out]; exact cell_of (BOX.out _ HBS4.out) 2
      have HSL4:Hid (SlAt V 2 r.sa r.sc (r.ss.map SlotM.vals)):=HHV.out.2.2.1
      obtain⟨ds4,eds⟩:∃ ds,r.ss=ds:=⟨_,rfl⟩
      have HDS4:Hid (∀ d ∈ ds4,SlotL d):=fun d hd=>by rw [← eds] at hd; exact HHV.out.2.2.2.1 d hd
      rw [eds] at HSL4 HNL4 HE
      obtain⟨ra4,era⟩:∃ q,r.sa=q:=⟨_,rfl⟩
      rw [era] at HSL4 q4 p4
      clear c4 hb q4 HBQ2 eds era
      go_wp2_with fail
      obtain rfl:=HNL4.out
      clear HNL4
      go_loopw [32] (fun t wr=>∃ i:Nat,i≤ds4.length∧t=zI i∧yD V wr∧Hid (fsL (ds4.map slE)=fsL ((ds4.drop i).map slE))) (fun t _=>ds4.length - (intOf t).toNat)
      case atStart=>exact⟨0,by omega,rfl,HBS4.out,rfl⟩
      case round =>
       obtain⟨i,hi,rfl,hbr,HR⟩:=hrel
       have HBR:Hid (yD V wr):=hbr
       clear hbr
       by_cases hlt:i < ds4.length
       ·have hlt':(i:Int) < (ds4.length:Int):=by omega
        have hmx:(i:Int)+1≤9223372036854775807:=by have h1:=HSL4.out.1; have h2:=HSL4.out.2.1; rw [List.length_map] at h1; omega
        obtain⟨b,o,ea,hat⟩:=(HSL4.out.on (mapz SlotM.sz _) HBR.out).2.2 i (by rw [List.length_map]; exact hlt)
        simp only [List.getElem_map] at hat
        have HMEM:Hid (ds4[i] ∈ ds4):=List.getElem_mem hlt
        have HD:Hid (fsL (ds4.map slE)=fs (slE ds4[i]) (fsL ((ds4.drop (i+1)).map slE))):=by show _=_; rw [HR.out,List.drop_eq_getElem_cons hlt]; rfl
        obtain⟨d,ed⟩:∃ d,ds4[i]=d:=⟨_,rfl⟩
        rw [ed] at hat HD HMEM
        have HRG:Hid (wr.rangeAt b (o+i * 2) d.vals.toList):=fun j v hv=>by
         have hj:j < 2:=(List.getElem?_eq_some_iff.1 hv).1
         rw [hat j hj,← hv]; simp
        have HZ:Hid ((wr.alloc (.cells zw 129)).heap[wr§]? = (zC zw 129)):=heap_new _ _
        have hbx:yD wr ((wr.alloc (.cells zw 129)).setRow wr§ d.vals):=below_row (below_new _ _) (Nat.le_refl _) _
        have HBX:Hid (yD V ((wr.alloc (.cells zw 129)).setRow wr§ d.vals)):=below2 HBR.out hbx
        have HNX:Hid (((wr.alloc (.cells zw 129)).setRow wr§ d.vals).heap[wr§]? = (zC d.vals 129)):=setRow_heap _ _ _ _ _ _ HZ.out
        obtain⟨A,eA⟩:∃ A,ra4=A:=⟨_,rfl⟩
        rw [eA] at ea ⊢
        subst ea
        clear hat ed hbx HR
        go_upto_region 12 with (first | (refine wpList_load_mid rfl 129 (.tmp 34) rfl b (o+i * 2) rfl d.vals.toList _ HRG.out Tryz.underlying129 rfl (by show _=some 2; exact size102') ?_; rw [Array.toArray_toList]) | (refine wpList_store_row rfl 129 (.tmp 5) (.tmp 35) rfl wr§ d.vals rfl rfl 129 zw HZ.out size102' rfl (all2 d) ?_))
        generalize hWX:World.setRow _ _ _=WX
        rw [hWX] at HBX HNX
        clear hWX HZ HRG
        have qs:WX.cell? wr§¢0=some (.string d.x):=cell_of HNX.out 0
        have cD:=(show Gives 177 #[.string d.x] WX (slE d) from nm_gives (HDS4.out d HMEM.out).2 (HTV.out.on HBX.out)).two
        rcases cD with ⟨hd0,cD⟩ | ⟨hd0,cD⟩
        ·go_wp2_with fail
         refine cD.mono ?_
         rintro e w5 ⟨rfl,hb5⟩
         have HB5:Hid (yD V w5):=below2 HBX.out hb5
         clear cD hb5
         go_wp2_with fail
         exact⟨⟨i+1,hlt,rfl,HB5.out,by show _=_; rw [HD.out,fs_z hd0]⟩,by simp only [intOf]; omega⟩
        ·go_wp2_with fail
         refine cD.mono ?_
         rintro e w5 ⟨rfl,hb5⟩
         have hE:E=slE d:=by rw [← HE.out,fs_z h1,fs_z h2,fs_z h3,fs_z h4,fs_n (by rw [HD.out,fs_n hd0]; exact hd0),HD.out,fs_n hd0]
         exact⟨rfl,.inr ⟨by rw [hE]; exact hd0,by rw [hE]⟩,below2 HBV.out (below2 HBX.out hb5)⟩
       ·obtain rfl:i=ds4.length:=by omega
        have hnot:¬ (ds4.length:Int) < (ds4.length:Int):=by omega
        have HZERO:Hid (fsL (ds4.map slE)=0):=by show _=_; rw [HR.out,List.drop_length]; rfl
        clear HR
        have h5:=HZERO.out
        clear HZERO HSL4 HDS4 HBS4 p4
        have HBQ4:Hid (yD V wr):=HBR.out
        clear HBR
        obtain⟨n6,en6⟩:∃ n,r.ts.length=n:=⟨_,rfl⟩
        have q6:wr.cell? w§¢3=some (.slice r.ta n6 r.tc):=by rw [← en6]; exact cell_of (BOX.out _ HBQ4.out) 3
        have HNL6:Hid (r.ts.length=n6):=en6
        have c6:=(cnt_gives n6 1 12 wr).two
        rw [en6] at HE
        clear en6
        rcases c6 with ⟨h6,c6⟩ | ⟨h6,c6⟩
        ·go_wp2_with fail
         refine c6.mono ?_
         rintro e v6 ⟨rfl,hb⟩
         have HBS6:Hid (yD V v6):=below2 HBQ4.out hb
         have p6:v6.cell? w§¢3=some (.slice r.ta n6 r.tc):=by rw [← HNL6.out]; exact cell_of (BOX.out _ HBS6.out) 3
         have HSL6:Hid (SlAt V 3 r.ta r.tc (r.ts.map StateM.vals)):=HHV.out.2.2.2.2.1
         obtain⟨ds6,eds⟩:∃ ds,r.ts=ds:=⟨_,rfl⟩
         have HDS6:Hid (∀ d ∈ ds6,StateL V d∧StateZ d):=fun d hd=>by rw [← eds] at hd; exact⟨HHV.out.2.2.2.2.2.1 d hd,HH.out.2.2 d hd⟩
         rw [eds] at HSL6 HNL6 HE
         obtain⟨ra6,era⟩:∃ q,r.ta=q:=⟨_,rfl⟩
         rw [era] at HSL6 q6 p6
         clear c6 hb q6 HBQ4 eds era
         go_wp2_with fail
         obtain rfl:=HNL6.out
         clear HNL6
         go_loopw [47] (fun t wr=>∃ i:Nat,i≤ds6.length∧t=zI i∧yD V wr∧Hid (fsL (ds6.map stateE)=fsL ((ds6.drop i).map stateE))) (fun t _=>ds6.length - (intOf t).toNat)
         case atStart=>exact⟨0,by omega,rfl,HBS6.out,rfl⟩
         case round =>
          obtain⟨i,hi,rfl,hbr,HR⟩:=hrel
          have HBR:Hid (yD V wr):=hbr
          clear hbr
          by_cases hlt:i < ds6.length
          ·have hlt':(i:Int) < (ds6.length:Int):=by omega
           have hmx:(i:Int)+1≤9223372036854775807:=by have h1:=HSL6.out.1; have h2:=HSL6.out.2.1; rw [List.length_map] at h1; omega
           obtain⟨b,o,ea,hat⟩:=(HSL6.out.on (mapz StateM.sz _) HBR.out).2.2 i (by rw [List.length_map]; exact hlt)
           simp only [List.getElem_map] at hat
           have HMEM:Hid (ds6[i] ∈ ds6):=List.getElem_mem hlt
           have HD:Hid (fsL (ds6.map stateE)=fs (stateE ds6[i]) (fsL ((ds6.drop (i+1)).map stateE))):=by show _=_; rw [HR.out,List.drop_eq_getElem_cons hlt]; rfl
           obtain⟨d,ed⟩:∃ d,ds6[i]=d:=⟨_,rfl⟩
           rw [ed] at hat HD HMEM
           have HRG:Hid (wr.rangeAt b (o+i * 3) d.vals.toList):=fun j v hv=>by
            have hj:j < 3:=(List.getElem?_eq_some_iff.1 hv).1
            rw [hat j hj,← hv]; simp
           have HZ:Hid ((wr.alloc (.cells zk 69)).heap[wr§]? = (zC zk 69)):=heap_new _ _
           have hbx:yD wr ((wr.alloc (.cells zk 69)).setRow wr§ d.vals):=below_row (below_new _ _) (Nat.le_refl _) _
           have HBX:Hid (yD V ((wr.alloc (.cells zk 69)).setRow wr§ d.vals)):=below2 HBR.out hbx
           have HNX:Hid (((wr.alloc (.cells zk 69)).setRow wr§ d.vals).heap[wr§]? = (zC d.vals 69)):=setRow_heap _ _ _ _ _ _ HZ.out
           obtain⟨A,eA⟩:∃ A,ra6=A:=⟨_,rfl⟩
           rw [eA] at ea ⊢
           subst ea
           clear hat ed hbx HR
           go_upto_region 18 with (first | (refine wpList_load_mid rfl 69 (.tmp 49) rfl b (o+i * 3) rfl d.vals.toList _ HRG.out Tryz.underlying69 rfl (by show _=some 3; exact size87') ?_; rw [Array.toArray_toList]) | (refine wpList_store_row rfl 69 (.tmp 7) (.tmp 50) rfl wr§ d.vals rfl rfl 69 zk HZ.out size87' rfl (all3' d) ?_))
           generalize hWX:World.setRow _ _ _=WX
           rw [hWX] at HBX HNX
           clear hWX HZ HRG
           have cD:=(state_gives d WX ((HDS6.out d HMEM.out).1.on HBX.out) (HDS6.out d HMEM.out).2 (HTV.out.on HBX.out)).two
           rcases cD with ⟨hd0,cD⟩ | ⟨hd0,cD⟩
           ·go_wp2_with (refine wpList_load_row rfl 69 (.tmp 7) rfl wr§ rfl 69 d.vals (0,0) _ HNX.out Tryz.underlying69 rfl size87' ?_)
            refine cD.mono ?_
            rintro e w5 ⟨rfl,hb5⟩
            have HB5:Hid (yD V w5):=below2 HBX.out hb5
            clear cD hb5
            go_wp2_with fail
            exact⟨⟨i+1,hlt,rfl,HB5.out,by show _=_; rw [HD.out,fs_z hd0]⟩,by simp only [intOf]; omega⟩
           ·go_wp2_with (refine wpList_load_row rfl 69 (.tmp 7) rfl wr§ rfl 69 d.vals (0,0) _ HNX.out Tryz.underlying69 rfl size87' ?_)
            refine cD.mono ?_
            rintro e w5 ⟨rfl,hb5⟩
            have hE:E=stateE d:=by rw [← HE.out,fs_z h1,fs_z h2,fs_z h3,fs_z h4,fs_z h5,fs_z h6,HD.out,fs_n hd0]
            exact⟨rfl,.inr ⟨by rw [hE]; exact hd0,by rw [hE]⟩,below2 HBV.out (below2 HBX.out hb5)⟩
          ·obtain rfl:i=ds6.length:=by omega
           have hnot:¬ (ds6.length:Int) < (ds6.length:Int):=by omega
           have HZERO:Hid (fsL (ds6.map stateE)=0):=by show _=_; rw [HR.out,List.drop_length]; rfl
           clear HR
           have h7:=HZERO.out
           clear HZERO HSL6 HDS6 HBS6 p6
           have HBQ6:Hid (yD V wr):=HBR.out
           clear HBR
           go_wp2_with fail
           go_end0
           exact⟨.inl ⟨by rw [← HE.out,fs_z h1,fs_z h2,fs_z h3,fs_z h4,fs_z h5,fs_z h6]; exact h7,rfl⟩,below2 HBV.out HBQ6.out⟩
        ·go_wp2_with fail
         refine c6.mono ?_
         rintro e wf ⟨rfl,hb⟩
         have hE:E=cntE n6 1 12:=by rw [← HE.out,fs_z h1,fs_z h2,fs_z h3,fs_z h4,fs_z h5,fs_n h6]
         exact⟨rfl,.inr ⟨by rw [hE]; exact h6,by rw [hE]⟩,below2 HBV.out (below2 HBQ4.out hb)⟩
     ·go_wp2_with fail
      refine c4.mono ?_
      rintro e wf ⟨rfl,hb⟩
      have hE:E=cntE n4 0 4:=by rw [← HE.out,fs_z h1,fs_z h2,fs_z h3,fs_n h4]
      exact⟨rfl,.inr ⟨by rw [hE]; exact h4,by rw [hE]⟩,below2 HBV.out (below2 HBQ2.out hb)⟩
  ·go_wp2_with fail
   refine c2.mono ?_
   rintro e wf ⟨rfl,hb⟩
   have hE:E=cntE n2 0 12:=by rw [← HE.out,fs_z h1,fs_n h2]
   exact⟨rfl,.inr ⟨by rw [hE]; exact h2,by rw [hE]⟩,below2 HBV.out (below2 HB1.out hb)⟩
 ·go_enter Tryz.func145,Tryz.ntmps145
  go_wp2_with fail
  refine c1.mono ?_
  rintro e w1 ⟨rfl,hb⟩
  have hE:E=namE r.x:=by rw [← HE.out,fs_n h1]
  exact⟨rfl,.inr ⟨by rw [hE]; exact h1,by rw [hE]⟩,below2 HB0.out hb⟩
theorem enter141 (args:Array Value) (v:yW):Sem.run Tryz.prog (callFunc 144 args) v=.ok (.enter 144 args) v:=by kernel_rfl
theorem look141 (r:StratM) (b:Nat) (w:yW) (hn:w.heap[b]? = (zC r.vals 26)) (hl:StratL w r) (hz:StratZ r) (ht:Tab w):Gives 144 #[zP b] w (stratE r):=by
 have HN:Hid (w.heap[b]? = (zC r.vals 26)):=hn
 have c:=(strat_gives r w hl hz ht).two
 clear hl ht hn hz
 unfold Gives
 rcases c with ⟨h,c⟩ | ⟨h,c⟩
 ·have HE:Hid (stratE r=0):=h
  clear h
  go_enter Tryz.func144,Tryz.ntmps144
  go_wp2_with (refine wpList_load_row rfl 26 (.tmp 0) rfl b rfl 26 r.vals (0,0) _ HN.out Tryz.underlying26 rfl size43' ?_)
  refine c.mono ?_
  rintro e w1 ⟨rfl,hb⟩
  go_wp2_with fail
  go_end0
  exact⟨.inl ⟨HE.out,rfl⟩,hb⟩
 ·have HE:Hid (¬ stratE r=0):=h
  clear h
  go_enter Tryz.func144,Tryz.ntmps144
  go_wp2_with (refine wpList_load_row rfl 26 (.tmp 0) rfl b rfl 26 r.vals (0,0) _ HN.out Tryz.underlying26 rfl size43' ?_)
  refine c.mono ?_
  rintro e w1 ⟨rfl,hb⟩
  exact⟨rfl,.inr ⟨HE.out,rfl⟩,hb⟩
theorem check_any (r:StratM) (w:yW) (hl:StratL w r) (hz:StratZ r) (ht:Tab w):Calls zG 88 #[.agg r.vals] w fun e w'=>e=.returned (zI (stratE r))∧yD w w':=by
 have hmf:∀ (fn:Fn) (first cap:Array Value) (w:yW),(Instr.makeFunc fn first cap).run Tryz.prog w=.ok (.func fn first cap) w:=fun _ _ _ _=>rfl
 have hb0:=below_new w (.cells r.vals 26)
 have hn0:=heap_new w (.cells r.vals 26)
 have c:=found_any 144 enter141 #[zP w§] (stratE r) (w.alloc (.cells r.vals 26)) (fun v hv=>look141 r w§ v ((hv.block _ (zJ hn0).1).trans hn0) ((hl.on hb0).on hv) hz ((ht.on hb0).on hv))
 clear hl hz ht hb0 hn0
 go_enter Tryz.func88,Tryz.ntmps88
 go_wp2_with fail
 refine c.mono ?_
 rintro e w1 ⟨rfl,hb⟩
 go_wp2_with fail
 go_ret
 exact⟨rfl,(below_new _ _).trans (hb.mono (by simp))⟩
end Go.Proofs.YtfbjofnaghjmeaaGreatDoor
