import Derived.Test.YteedmmljahgpjaaGreatDoorA0
import Derived.Test.YteedmmljahgpjaaGreatDoorA7
import Derived.Deep.RegionHeld
import Derived.Test.YteedmmljahgpjaaGreatDoorA3
import Derived.Deep.RegionWith
namespace Go.Proofs.YteedmmljahgpjaaGreatDoor
set_option maxRecDepth 100000
set_option maxHeartbeats 4000000
open Go.RowKit
set_option linter.unusedVariables false
set_option linter.unusedSimpArgs false
def rowZ (r:RowM):List Int:=[r.k,r.o,r.i] ++ (hasL r).map Sp.len
def gdZ (g:GdM):List Int:=[g.wh.len,(g.rs.length:Int)] ++ (g.rs.map rowZ).flatten
theorem Wr.drop {w0 V:World}{b:Nat}{zs:List Int}:∀ {bq bs:List (Nat × Nat × Array Value)},Wr w0 V b (bq ++ bs) zs→Wr w0 V b bs zs
 | [],_,h=>h
 | _ :: bq,_,h=>Wr.drop (bq:=bq) h.less
theorem rowZ_le (r:RowM):(rowZ r).length≤7:=by
 have h:=Kg r 4 (by omega)
 have h2:(hasL r).length≤4:=h
 unfold rowZ
 rw [List.length_append,List.length_map]
 simp only [List.length_cons,List.length_nil]
 omega
theorem rowsZ_le:∀ l:List RowM,((l.map rowZ).flatten).length≤7 * l.length
 | []=>by simp
 | r :: l=>by
  have:=rowZ_le r
  have:=rowsZ_le l
  simp only [List.map_cons,List.flatten_cons,List.length_append,List.length_cons]
  omega
theorem wguard_any (b:Nat) (g:GdM) (zs:List Int) (bs:List (Nat × Nat × Array Value)) (w:World) (w0:World) (h:Wr w0 w b bs zs) (hg:GdL w0 g) (hb:GdB g) (hi:∀ r ∈ g.rs,0≤r.i) (hz:zs.length+1000≤1000000):Calls zG 78 #[zP b,.agg g.vals] w fun e w'=>e=.returned (.tuple #[])∧Wr w0 w' b bs (zs ++ gdZ g):=by
 have hb1:=Bn w (.cells g.vals 68)
 have hn1:=Hn w (.cells g.vals 68)
 obtain⟨W1,e1⟩:∃ W,w.alloc (.cells g.vals 68)=W:=⟨_,rfl⟩
 have E1:Hid (w.alloc (.cells g.vals 68)=W1):=e1
 rw [e1] at hb1 hn1
 have HB1:Hid (Below w§ w W1):=hb1
 have HN1:Hid (W1.heap[w§]? = some (.cells g.vals 68 (0,0))):=hn1
 have HS1:Hid (W1§=w§+1):=by show _=_; rw [← e1]; exact Sa _ _
 clear hb1 e1 hn1
 have HSL:Hid (SlAt w0 11 g.a g.c (g.rs.map RowM.vals)):=hg.2.2.2.1
 have HRI:Hid (∀ r ∈ g.rs,RowI r∧0≤r.i∧∀ x ∈ hasL r,LenW x):=fun r hr=>⟨hg.2.2.2.2 r hr,hi r hr,hb.2.2 r hr⟩
 have HW1:Hid (Wr w0 W1 b ((w§,68,g.vals) :: bs) zs):=h.add HB1.out _ _ _ (Nat.le_refl _) HN1.out
 have HLZ:Hid (zs.length+1000≤1000000):=hz
 obtain⟨hl0,hl1⟩:=hb.1
 have h8:=hb.2.1
 have HFA:Hid (∀ v:World,v.heap[w§]? = some (.cells g.vals 68 (0,0))→v.cell? ⟨w§,0,none⟩=some (zI g.wh.f)∧v.cell? ⟨w§,1,none⟩=some (zI g.wh.t)∧v.cell? ⟨w§,4,none⟩=some (.slice g.a g.rs.length g.c)):=fun v hv=>⟨Co hv 0,Co hv 1,Co hv 4⟩
 have cL:=Kf g.wh ⟨by omega,by omega⟩ W1.drew
 unfold Sp.vals at cL
 obtain⟨GZ,eGZ⟩:∃ q,gdZ g=q:=⟨_,rfl⟩
 have HGZ:Hid (GZ = [g.wh.len,(g.rs.length:Int)] ++ (g.rs.map rowZ).flatten):=eGZ.symm
 rw [eGZ]
 obtain⟨WL,eWL⟩:∃ q,g.wh.len=q:=⟨_,rfl⟩
 rw [eWL] at cL HGZ hl0 hl1
 clear hg hi hb h hz eGZ eWL
 go_enter Tryz.func78,Tryz.ntmps78
 go_upto_region 1 with fail
 rw [E1.out]
 clear E1
 refine wp_region_held_drew (S:=fun v=>v.heap[w§]? = some (.cells g.vals 68 (0,0))) zK HN1.out (fun hHeld=>?_)
 refine wpAnyH_take (i:=0) (v:=?_) rfl zK zK zK (fun _ _ _ h=>h) (Or.inl ⟨by rfl,?_⟩) (by assumption) ?_
 rotate_left
 ·(intro v hv; go_simp; try (with_reducible rfl))
 try simp [Act.put]
 refine wpAnyH_take (i:=1) (v:=?_) rfl zK zK zK (fun _ _ _ h=>h) (Or.inl ⟨by rfl,?_⟩) (by assumption) ?_
 rotate_left
 ·(intro v hv; go_simp; try (with_reducible rfl))
 try simp [Act.put]
 refine wpAnyH_take (i:=2) (v:=?_) rfl zK zK zK (fun _ _ _ h=>h) (Or.inl ⟨by rfl,?_⟩) (by assumption) ?_
 rotate_left
 ·(intro v hv; obtain⟨a0,a1,a4⟩:=HFA.out v hv; go_simp; try (with_reducible rfl))
 try simp [Act.put]
 refine wpAnyH_take (i:=4) (v:=?_) rfl zK zK zK (fun _ _ _ h=>h) (Or.inl ⟨by rfl,?_⟩) (by assumption) ?_
 rotate_left
 ·(intro v hv; go_simp; try (with_reducible rfl))
 try simp [Act.put]
 refine wpAnyH_take (i:=5) (v:=?_) rfl zK zK zK (fun _ _ _ h=>h) (Or.inl ⟨by rfl,?_⟩) (by assumption) ?_
 rotate_left
 ·(intro v hv; obtain⟨a0,a1,a4⟩:=HFA.out v hv; go_simp; try (with_reducible rfl))
 try simp [Act.put]
 refine wpAnyH_take (i:=6) (v:=?_) rfl zK zK zK (fun _ _ _ h=>h) (Or.inl ⟨by rfl,?_⟩) (by assumption) ?_
 rotate_left
 ·(intro v hv; go_simp; try (with_reducible rfl))
 try simp [Act.put]
 refine wpAnyH_ready (rs:=[3]) zK (by simp) ?_
 refine AllReadyH.cons rfl (fun K hK=>?_) AllReadyH.nil
 go_simp
 refine cL.mono ?_
 rintro e w3 ⟨rfl,hb3⟩
 have hb3':Below W1§ W1 w3:=⟨hb3.os,hb3.tape,hb3.output,hb3.size,hb3.block⟩
 have hW3:=HW1.out.on hb3'
 refine hK.out _ _ hW3.box (fun hHeld=>?_)
 clear hK K cL hb3
 try simp [Act.put]
 have HW4:Hid (Wr w0 (w3.alloc (.cells (iA [WL,(g.rs.length:Int)]) 3)) b ((w3§,3,iA [WL,(g.rs.length:Int)]) :: (w§,68,g.vals) :: bs) zs):=hW3.add (Bn _ _) _ _ _ (Nat.le_refl _) (Hn _ _)
 have cP:=Jy b w3§ [WL,(g.rs.length:Int)] zs ((w§,68,g.vals) :: bs) (w3.alloc (.cells (iA [WL,(g.rs.length:Int)]) 3)) w0 HW4.out (by intro n hn; simp only [List.mem_cons,List.not_mem_nil,or_false] at hn; omega) (by simp only [List.length_cons,List.length_nil]; have:=HLZ.out; omega)
 refine wpAnyH_ready (rs:=[7]) zK (by simp) ?_
 refine AllReadyH.cons rfl (fun K hK=>?_) AllReadyH.nil
 go_simp
 refine hK.out _ _ HW4.out.less.box (fun hHeld=>?_)
 clear hK K
 try simp [Act.put]
 refine wpAnyH_ready (rs:=[8]) zK (by simp) ?_
 refine AllReadyH.cons rfl (fun K hK=>?_) AllReadyH.nil
 go_simp
 refine cP.mono ?_
 rintro e w5 ⟨rfl,hw5⟩
 refine hK.out _ _ hw5.less.box (fun hHeld=>?_)
 clear hK K cP
 try simp [Act.put]
 refine wpAnyH_done zK ?_ _
 have HW5:Hid (Wr w0 w5 b bs (zs ++ [WL,(g.rs.length:Int)] ++ ((g.rs.take 0).map rowZ).flatten)):=by show Wr _ _ _ _ _; have:=hw5.less.less; simpa using this
 have d4:=(HFA.out w5 hw5.less.box).2.2
 obtain⟨rs,ers⟩:∃ q,g.rs=q:=⟨_,rfl⟩
 obtain⟨ra,era⟩:∃ q,g.a=q:=⟨_,rfl⟩
 rw [ers,era] at HSL d4
 rw [ers] at HW5 HRI HGZ h8
 obtain⟨Z0,eZ0⟩:∃ q,zs ++ [WL,(rs.length:Int)]=q:=⟨_,rfl⟩
 have HZ0:Hid (zs ++ GZ=Z0 ++ (rs.map rowZ).flatten∧Z0.length+900≤1000000):=⟨by rw [HGZ.out,← eZ0,List.append_assoc],by rw [← eZ0,List.length_append]; simp only [List.length_cons,List.length_nil]; have:=HLZ.out; omega⟩
 rw [eZ0] at HW5
 clear hw5 HW4 hW3 hb3' HW1 HFA HB1 HN1 HS1 eZ0 ers era hHeld
 go_wp2_with fail
 go_loopw [20] (fun q wr=>∃ (i:Nat),i≤rs.length∧q=zI i∧Hid (Wr w0 wr b bs (Z0 ++ ((rs.take i).map rowZ).flatten))) (fun q _=>rs.length - (intOf q).toNat)
 case atStart=>exact⟨0,by omega,rfl,HW5⟩
 case round =>
  obtain⟨i,hi,rfl,HWR⟩:=hrel
  by_cases hlt:i < rs.length
  ·have hlt':(i:Int) < (rs.length:Int):=by omega
   have hmx:(i:Int)+1≤9223372036854775807:=by have h1:=HSL.out.1; have h2:=HSL.out.2.1; rw [List.length_map] at h1; omega
   obtain⟨bb,o,ea,hat⟩:=(HSL.out.on (mapz RowM.sz _) HWR.out.below).2.2 i (by rw [List.length_map]; exact hlt)
   simp only [List.getElem_map] at hat
   have HMEM:Hid (rs[i] ∈ rs):=List.getElem_mem hlt
   have HD:Hid (((rs.take (i+1)).map rowZ).flatten=((rs.take i).map rowZ).flatten ++ rowZ rs[i]):=by show _=_; rw [List.take_succ_eq_append_getElem hlt,List.map_append,List.flatten_append,List.map_singleton,List.flatten_singleton]
   obtain⟨d,ed⟩:∃ d,rs[i]=d:=⟨_,rfl⟩
   rw [ed] at hat HMEM HD
   have HRG:Hid (wr.rangeAt bb (o+i * 11) d.vals.toList):=fun j v hv=>by
    have hj:j < 11:=(List.getElem?_eq_some_iff.1 hv).1
    rw [hat j hj,← hv]; simp
   have HZ:Hid ((wr.alloc (.cells zA1 85)).heap[wr§]? = some (.cells zA1 85 (0,0))):=Hn _ _
   have HWX:Hid (Below wr§ wr ((wr.alloc (.cells zA1 85)).setRow wr§ d.vals)):=Qc (Bn _ _) (Nat.le_refl _) _
   have HNX:Hid (((wr.alloc (.cells zA1 85)).setRow wr§ d.vals).heap[wr§]? = some (.cells d.vals 85 (0,0))):=setRow_heap _ _ _ _ _ _ HZ.out
   subst ea
   clear hat ed
   go_upto_region 5 with (first | (refine wpList_load_mid rfl 85 (.tmp 22) rfl bb (o+i * 11) rfl d.vals.toList _ HRG.out Tryz.underlying85 rfl (by show _=some 11; exact Qi) ?_; rw [Array.toArray_toList]) | (refine wpList_store_row rfl 85 (.tmp 5) (.tmp 23) rfl wr§ d.vals rfl rfl 85 zA1 HZ.out Qi rfl (QQ d) ?_))
   generalize World.setRow _ _ _=WX at HWX HNX ⊢
   clear HZ HRG
   have HWX2:Hid (Wr w0 WX b ((wr§,85,d.vals) :: bs) (Z0 ++ ((rs.take i).map rowZ).flatten)):=HWR.out.add HWX.out _ _ _ (Nat.le_refl _) HNX.out
   obtain⟨hri,hii,hlw⟩:=HRI.out d HMEM.out
   have HLW:Hid (∀ x ∈ hasL d,LenW x):=hlw
   obtain⟨⟨hk0,hk1⟩,⟨ho0,ho1⟩,⟨_,hi1⟩,_⟩:=hri
   have hll:=rowsZ_le (rs.take i)
   rw [List.length_take] at hll
   obtain⟨Z1,eZ1⟩:∃ q,Z0 ++ ((rs.take i).map rowZ).flatten=q:=⟨_,rfl⟩
   have HZ1:Hid (Z0 ++ ((rs.take (i+1)).map rowZ).flatten=Z1 ++ ([d.k,d.o,d.i] ++ (hasL d).map Sp.len)∧Z1.length+100≤1000000):=⟨by rw [HD.out,← List.append_assoc,eZ1]; rfl,by rw [← eZ1,List.length_append]; have:=HZ0.out.2; omega⟩
   rw [eZ1] at HWX2
   have x0:WX.cell? ⟨wr§,0,none⟩=some (zU d.k):=Co HNX.out 0
   have x1:WX.cell? ⟨wr§,1,none⟩=some (zU d.o):=Co HNX.out 1
   have x2:WX.cell? ⟨wr§,2,none⟩=some (zI d.i):=Co HNX.out 2
   have HW4:Hid (Wr w0 (WX.alloc (.cells (iA [d.k,d.o,d.i]) 3)) b ((WX§,3,iA [d.k,d.o,d.i]) :: (wr§,85,d.vals) :: bs) Z1):=HWX2.out.add (Bn _ _) _ _ _ (Nat.le_refl _) (Hn _ _)
   have cP:=Jy b WX§ [d.k,d.o,d.i] Z1 ((wr§,85,d.vals) :: bs) (WX.alloc (.cells (iA [d.k,d.o,d.i]) 3)) w0 HW4.out (by intro n hn; simp only [List.mem_cons,List.not_mem_nil,or_false] at hn; omega) (by simp only [List.length_cons,List.length_nil]; have:=HZ1.out.2; omega)
   clear HWR HMEM HNX HWX hlw eZ1 hll HW4 HD
   go_wp2_with fail
   refine cP.mono ?_
   rintro e w5 ⟨rfl,hw5⟩
   have HW6:Hid (Wr w0 w5 b ((wr§,85,d.vals) :: bs) (Z1 ++ [d.k,d.o,d.i])):=hw5.less
   have HN6:Hid (w5.heap[wr§]? = some (.cells d.vals 85 (0,0))):=HW6.out.box
   have cH:=has_any d w5
   have hl4:=Kg d 4 (by omega)
   obtain⟨sp,esp⟩:∃ q,hasL d=q:=⟨_,rfl⟩
   rw [esp] at cH HLW HZ1
   have hsp4:sp.length≤4:=by rw [← esp]; exact hl4
   clear cP hw5 x0 x1 x2 HWX2 esp hl4
   go_wp2_with (refine wpList_load_row rfl 85 (.tmp 5) rfl wr§ rfl 85 d.vals (0,0) _ HN6.out Tryz.underlying85 rfl Qi ?_)
   refine cH.mono ?_
   rintro e w7 ⟨ua,uc,rfl,hU,hnil,hfr,hb7⟩
   have HU:Hid (SlAt w7 2 ua uc (sp.map Sp.vals)):=hU
   obtain⟨bq,hbq,hkeep⟩:∃ bq:List (Nat × Nat × Array Value),Wr w0 w7 b (bq ++ bs) (Z1 ++ [d.k,d.o,d.i] ++ (sp.take 0).map Sp.len)∧∀ V:World,∀ zs',Wr w0 V b (bq ++ bs) zs'→SlAt V 2 ua uc (sp.map Sp.vals):=by
    have hw7:=HW6.out.less.on hb7
    cases hua:ua with
    | none =>
     refine⟨[],by simpa using hw7,fun V zs' _=>?_⟩
     rw [hua] at hU
     exact hU.blk fun b o e=>by cases e
    | some ad =>
     obtain⟨ab,ao,az⟩:=ad
     cases az with
     | some z0 =>
      refine⟨[],by simpa using hw7,fun V zs' _=>?_⟩
      rw [hua] at hU
      exact hU.blk fun b o e=>by cases e
     | none =>
      obtain⟨h1,cur,h2⟩:=hfr ab ao hua
      refine⟨[(ab,65,cur)],?_,fun V zs' hV=>?_⟩
      ·have:=HW6.out.less.add hb7 ab 65 cur h1 h2
       simpa using this
      ·rw [hua] at hU
       refine hU.blk fun b o e=>?_
       have hab:ab=b:=by injection e with e; injection e
       subst hab
       rw [h2]
       exact hV.box
   have HKP:Hid (∀ V:World,∀ zs',Wr w0 V b (bq ++ bs) zs'→SlAt V 2 ua uc (sp.map Sp.vals)):=hkeep
   have HWQ:Hid (Wr w0 w7 b (bq ++ bs) (Z1 ++ [d.k,d.o,d.i] ++ (sp.take 0).map Sp.len)):=hbq
   clear cH hU hnil hfr hb7 hbq hkeep HW6 HN6
   go_wp2_with fail
   go_loopw [38] (fun q wr=>∃ (j:Nat),j≤sp.length∧q=zI j∧Hid (Wr w0 wr b (bq ++ bs) (Z1 ++ [d.k,d.o,d.i] ++ (sp.take j).map Sp.len))) (fun q _=>sp.length - (intOf q).toNat)
   case atStart=>exact⟨0,by omega,rfl,HWQ⟩
   case round =>
    obtain⟨j,hj,rfl,HW2⟩:=hrel
    by_cases hltj:j < sp.length
    ·have HU2:Hid (SlAt wr 2 ua uc (sp.map Sp.vals)):=HKP.out wr _ HW2.out
     have hltj':(j:Int) < (sp.length:Int):=by omega
     have hmxj:(j:Int)+1≤9223372036854775807:=by have h1:=HU2.out.1; have h2:=HU2.out.2.1; rw [List.length_map] at h1; omega
     obtain⟨b2,o2,ea,hat⟩:=(HU2.out.on (mapz Sp.sz _) (Below.refl _ _)).2.2 j (by rw [List.length_map]; exact hltj)
     simp only [List.getElem_map] at hat
     have HMEM:Hid (sp[j] ∈ sp):=List.getElem_mem hltj
     have HD2:Hid ((sp.take (j+1)).map Sp.len=(sp.take j).map Sp.len ++ [sp[j].len]):=by show _=_; rw [List.take_succ_eq_append_getElem hltj,List.map_append]; rfl
     obtain⟨y,ed⟩:∃ y,sp[j]=y:=⟨_,rfl⟩
     rw [ed] at hat HMEM HD2
     have HRG:Hid (wr.rangeAt b2 (o2+j * 2) y.vals.toList):=fun j9 v hv=>by
      have hj9:j9 < 2:=(List.getElem?_eq_some_iff.1 hv).1
      rw [hat j9 hj9,← hv]; simp
     have HZ:Hid ((wr.alloc (.cells #[zI 0,zI 0] 65)).heap[wr§]? = some (.cells #[zI 0,zI 0] 65 (0,0))):=Hn _ _
     have HWX:Hid (Below wr§ wr ((wr.alloc (.cells #[zI 0,zI 0] 65)).setRow wr§ y.vals)):=Qc (Bn _ _) (Nat.le_refl _) _
     have HNX:Hid (((wr.alloc (.cells #[zI 0,zI 0] 65)).setRow wr§ y.vals).heap[wr§]? = some (.cells y.vals 65 (0,0))):=setRow_heap _ _ _ _ _ _ HZ.out
     subst ea
     clear hat ed
     go_upto_region 9 with (first | (refine wpList_load_mid rfl 65 (.tmp 40) rfl b2 (o2+j * 2) rfl y.vals.toList _ HRG.out Tryz.underlying65 rfl (by show _=some 2; exact Qt) ?_; rw [Array.toArray_toList]) | (refine wpList_store_row rfl 65 (.tmp 7) (.tmp 41) rfl wr§ y.vals rfl rfl 65 #[zI 0,zI 0] HZ.out Qt rfl (JF y) ?_))
     generalize World.setRow _ _ _=WX at HWX HNX ⊢
     clear HZ HRG
     have HWX2:Hid (Wr w0 WX b (bq ++ bs) (Z1 ++ [d.k,d.o,d.i] ++ (sp.take j).map Sp.len)):=HW2.out.on HWX.out
     obtain⟨hy0,hy1⟩:=HLW.out y HMEM.out
     have cL:=Kf y ⟨by omega,by omega⟩ WX
     obtain⟨YL,eYL⟩:∃ q,y.len=q:=⟨_,rfl⟩
     rw [eYL] at cL HD2 hy0 hy1
     clear HW2 HMEM eYL
     go_wp2_with (refine wpList_load_row rfl 65 (.tmp 7) rfl wr§ rfl 65 y.vals (0,0) _ HNX.out Tryz.underlying65 rfl Qt ?_)
     refine cL.mono ?_
     rintro e w8 ⟨rfl,hb8⟩
     have HW8:Hid (Wr w0 w8 b (bq ++ bs) (Z1 ++ [d.k,d.o,d.i] ++ (sp.take j).map Sp.len)):=HWX2.out.on hb8
     have HW9:Hid (Wr w0 (w8.alloc (.cells (iA [YL]) 3)) b ((w8§,3,iA [YL]) :: (bq ++ bs)) (Z1 ++ [d.k,d.o,d.i] ++ (sp.take j).map Sp.len)):=HW8.out.add (Bn _ _) _ _ _ (Nat.le_refl _) (Hn _ _)
     have cP:=Jy b w8§ [YL] (Z1 ++ [d.k,d.o,d.i] ++ (sp.take j).map Sp.len) (bq ++ bs) (w8.alloc (.cells (iA [YL]) 3)) w0 HW9.out (by intro n hn; rw [List.mem_singleton] at hn; omega) (by simp only [List.length_append,List.length_map,List.length_take,List.length_cons,List.length_nil]; have:=HZ1.out.2; omega)
     clear cL hb8 HNX HWX HWX2 HW9
     go_wp2_with (refine Qq rfl 192 3 (.tmp 44) rfl (iA [YL]) (zI YL) rfl rfl 1 _ Tryz.underlying192 8 inf3 rfl rfl (by decide) (by decide) ?_)
     refine cP.mono ?_
     rintro e w9 ⟨rfl,hw9⟩
     have HWZ:Hid (Wr w0 w9 b (bq ++ bs) (Z1 ++ [d.k,d.o,d.i] ++ (sp.take (j+1)).map Sp.len)):=by have:=hw9.less; show Wr _ _ _ _ _; rw [HD2.out,← List.append_assoc]; exact this
     clear cP hw9 HW8
     go_wp2_with fail
     exact⟨⟨j+1,hltj,rfl,HWZ⟩,by simp only [intOf]; omega⟩
    ·obtain rfl:j=sp.length:=by omega
     have hnot:¬ (sp.length:Int) < (sp.length:Int):=by omega
     have HWZ:Hid (Wr w0 wr b bs (Z0 ++ ((rs.take (i+1)).map rowZ).flatten)):=by
      have hh:=HW2.out
      rw [List.take_length,List.append_assoc,← HZ1.out.1] at hh
      exact hh.drop
     go_wp2_with fail
     exact⟨⟨i+1,hlt,rfl,HWZ⟩,by simp only [intOf]; omega⟩
  ·obtain rfl:i=rs.length:=by omega
   have hnot:¬ (rs.length:Int) < (rs.length:Int):=by omega
   have HE:Hid (Wr w0 wr b bs (zs ++ GZ)):=by have:=HWR.out; rw [List.take_length,← HZ0.out.1] at this; exact this
   go_wp2_with fail
   go_end0
   exact⟨rfl,HE.out⟩
namespace W
theorem conv4 (x0 x1 x2 x3:Int) (c0 c1 c2 c3:UInt8) (h0:x0=c0.toNat) (h1:x1=c1.toNat) (h2:x2=c2.toNat) (h3:x3=c3.toNat) (t:TypeId) (w:World) :
  (convert 200 9 (.slice (some ⟨w§,0,none⟩) 4 4)).run Tryz.prog (w.alloc (.cells #[zU x0,zU x1,zU x2,zU x3] t))=.ok (.string ⟨#[c0,c1,c2,c3]⟩) (w.alloc (.cells #[zU x0,zU x1,zU x2,zU x3] t)):=by
 have:=run_convert_bytes_back (P:=Tryz.prog) (w.alloc (.cells #[zU x0,zU x1,zU x2,zU x3] t)) 200 9 5 ⟨w§,0,none⟩ 4 [c0,c1,c2,c3] Tryz.underlying200 Tryz.underlying5 Tryz.underlying9 (fun j hj=>by
  rw [Addr.add_lit,Nat.zero_add,World.cell?_alloc_mark,h0,h1,h2,h3]
  match j,hj with
  | 0,_=>rfl
  | 1,_=>rfl
  | 2,_=>rfl
  | 3,_=>rfl)
 exact this
theorem conv_le4 (C:Nat) (D:Int) (hC:C < 4294967296) (hD:D=(C:Int)) (t:TypeId) (w:World) :
  (convert 200 9 (.slice (some ⟨w§,0,none⟩) 4 4)).run Tryz.prog (w.alloc (.cells #[zU (D % 256),zU (D / 256 % 256),zU (D / 65536 % 256),zU (D / 16777216)] t)) =
   .ok (.string (bytes (le4 C))) (w.alloc (.cells #[zU (D % 256),zU (D / 256 % 256),zU (D / 65536 % 256),zU (D / 16777216)] t)) :=
 conv4 _ _ _ _ (UInt8.ofNat (C % 256)) (UInt8.ofNat (C / 256 % 256)) (UInt8.ofNat (C / 65536 % 256)) (UInt8.ofNat (C / 16777216 % 256))
  (by rw [Q8 (by omega)]; omega) (by rw [Q8 (by omega)]; omega) (by rw [Q8 (by omega)]; omega) (by rw [Q8 (by omega)]; omega) t w
theorem Q5 (s:ByteArray) (hs:s.size≤140737488355328) (w:World) :
  Calls zG 75 #[.string s] w fun e w'=>e=.returned (.string (bytes (le4 (sumL s.data.toList))))∧Below w§ w w':=by
 obtain⟨C,eC⟩:∃ C,C=sumL s.data.toList:=⟨_,rfl⟩
 have hC:C < 4294967296:=by rw [eC]; exact sumL_lt _
 have cS:=fun w=>sum_any s hs w
 rw [← eC] at cS ⊢
 obtain⟨D,eD⟩:∃ D:Int,D=(C:Int):=⟨_,rfl⟩
 have hD0:0≤D:=by omega
 have hD1:D < 4294967296:=by omega
 rw [← eD] at cS
 have hconv:=conv_le4 C D hC eD 197 w
 obtain⟨T,eT⟩:∃ T,T=bytes (le4 C):=⟨_,rfl⟩
 rw [← eT] at hconv ⊢
 clear eC eD eT hC
 go_enter Tryz.func75,Tryz.ntmps75
 go_wp2_with (go_at_call 105; refine (cS _).mono ?_; rintro e w1 ⟨rfl,rfl⟩)
 refine wp_loop_rounds 5 ?_
 rw [rounds_succ]
 go_wp2_with fail
 rw [rounds_succ]
 go_wp2_with fail
 rw [rounds_succ]
 go_wp2_with fail
 rw [rounds_succ]
 go_wp2_with fail
 rw [rounds_succ]
 go_wp2_with fail
 go_ret
 exact⟨rfl,(Below.refl _ _).alloc (Nat.le_refl _) _⟩
theorem tail_any (s:ByteArray) (hs:s.size≤140737488355328) (w:World) :
  Calls zG 83 #[.string s] w fun e w'=>e=.returned (.string (bytes (le4 (sumL s.data.toList))))∧Below w§ w w':=by
 obtain⟨C,eC⟩:∃ C,C=sumL s.data.toList:=⟨_,rfl⟩
 have hC:C < 4294967296:=by rw [eC]; exact sumL_lt _
 have cS:=fun w=>rsum_any s hs w
 rw [← eC] at cS ⊢
 obtain⟨D,eD⟩:∃ D:Int,D=(C:Int):=⟨_,rfl⟩
 have hD0:0≤D:=by omega
 have hD1:D < 4294967296:=by omega
 rw [← eD] at cS
 have hconv:=conv_le4 C D hC eD 5 w
 obtain⟨T,eT⟩:∃ T,T=bytes (le4 C):=⟨_,rfl⟩
 rw [← eT] at hconv ⊢
 clear eC eD eT hC
 go_enter Tryz.func83,Tryz.ntmps83
 go_wp2_with (go_at_call 107; refine (cS _).mono ?_; rintro e w1 ⟨rfl,rfl⟩)
 go_ret
 exact⟨rfl,(Below.refl _ _).alloc (Nat.le_refl _) _⟩
theorem Qa {w w1 w2:World}(h1:Below w§ w w1) (h2:Below w1§ w1 w2):Below w§ w w2:=h1.trans (h2.mono h1.size)
theorem Qz {w w1:World}(h1:Below w§ w w1) (n:Nat):Below w§ w (w1.drewN n):=h1.trans ⟨rfl,rfl,rfl,Nat.le_refl _,fun _ _=>rfl⟩
theorem ret2s {a b:ByteArray}{c d:Int}(h:a=b) (h':c=d):Ending.returned (.tuple #[.string a,zI c])=.returned (.tuple #[.string b,zI d]):=by rw [h,h']
def frE (s:List UInt8):Nat:=if 65536 < s.length then 31 else 0
def frS (s:List UInt8):List UInt8:=if 65536 < s.length then [] else frameL s
theorem text1_size (l:List UInt8) (h:l.length≤549755813888):(text1 l).length≤l.length+10:=by
 unfold text1
 rw [List.length_append]
 have:=put1_ten (n:=l.length) (by omega)
 omega
theorem frame_any (s:ByteArray) (w:World) :
  Calls zG 33 #[.string s] w fun e w'=>e=.returned (.tuple #[.string (bytes (frS s.data.toList)),zI (frE s.data.toList:Nat)])∧Below w§ w w':=by
 have hl:=len_of s
 by_cases hb:65536 < s.size
 ·have hb':(65536:Int) < (s.size:Int):=by omega
  have e1:frS s.data.toList = []:=by unfold frS; rw [if_pos (by omega)]
  have e2:frE s.data.toList=31:=by unfold frE; rw [if_pos (by omega)]
  rw [e1,e2]
  go_enter Tryz.func33,Tryz.ntmps33
  go_wp2_with fail
  go_ret2
  exact⟨rfl,Below.refl _ _⟩
 ·have hb':¬ (65536:Int) < (s.size:Int):=by omega
  have e2:frE s.data.toList=0:=by unfold frE; rw [if_neg (by omega)]
  have c1:=fun w=>putText_any ⟨#[]⟩ s (by decide) (by omega) w
  have c2:=fun w=>Q5 s (by omega) w
  obtain⟨P,eP⟩:∃ P,P=bytes (([]:List UInt8) ++ text1 s.data.toList):=⟨_,rfl⟩
  obtain⟨K,eK⟩:∃ K,K=bytes (le4 (sumL s.data.toList)):=⟨_,rfl⟩
  have hPs:P.size≤65546:=by
   rw [eP,bytes_size,List.nil_append]
   have:=text1_size s.data.toList (by omega)
   omega
  have hKs:K.size=4:=by rw [eK]; rfl
  have HR:Hid (P ++ K=bytes (frS s.data.toList)):=by
   show _=_
   unfold frS
   rw [if_neg (by omega),eP,eK,bytes_app,List.nil_append]
   rfl
  rw [← eK] at c2
  have c1':∀ w,Calls zG 74 #[.string ⟨#[]⟩,.string s] w fun e w'=>e=.returned (.string P)∧Below w§ w w':=fun w=>by rw [eP]; exact c1 w
  clear c1 eP eK
  rw [e2]
  go_enter Tryz.func33,Tryz.ntmps33
  go_wp2_with (first | (go_at_call 74; refine (c1' _).mono ?_; rintro e w1 ⟨rfl,hb1⟩) | (go_at_call 75; refine (c2 _).mono ?_; rintro e w2 ⟨rfl,hb2⟩))
  go_ret2
  exact⟨ret2s HR.out rfl,Qa hb1 hb2⟩
end W
namespace W
theorem ret3s {a b:ByteArray}{c d e f:Int}(h1:a=b) (h2:c=d) (h3:e=f):Ending.returned (.tuple #[.string a,zI c,zI e])=.returned (.tuple #[.string b,zI d,zI f]):=by rw [h1,h2,h3]
theorem str_ne {a b:ByteArray}(h:¬ a=b):(a.toList == b.toList)=false:=by
 rw [ByteArray.toList_eq,ByteArray.toList_eq]
 exact beq_false_of_ne (fun h'=>h (ba_ext h'))
theorem below_dw {w w':World}(h:Below w.drew§ w.drew w'):Below w§ w w':=((Below.refl _ w).drew).trans h
theorem QI:bytes ([]:List UInt8)=⟨#[]⟩:=rfl
theorem takeText_any (s:ByteArray) (a:Int) (hs:s.size≤1099511627776) (w:World) :
  Calls zG 108 #[.string s,zI a] w fun r w'=>r=.returned (.tuple #[.string (bytes (textS s.data.toList a)),zI (textP s.data.toList a),zI (textE s.data.toList a:Nat)])∧w'=w:=by
 have cT:=fun w=>take_any s a hs w
 have hl:=len_of s
 by_cases hE:takeE s.data.toList a=0
 ·obtain⟨g1,g2,g3,g4,_,_⟩:=take_one hE
  rw [hE] at cT
  obtain⟨n,en⟩:∃ n:Int,n=(takeN s.data.toList a:Nat):=⟨_,rfl⟩
  obtain⟨p,ep⟩:∃ p:Int,p=takeP s.data.toList a:=⟨_,rfl⟩
  rw [← en,← ep] at cT
  have hn0:0≤n:=by omega
  have hn1:n≤18446744073709551615:=by omega
  have hp0:0≤p:=by omega
  have hp1:p≤(s.size:Int):=by omega
  by_cases hL:65536 < n
  ·have hT:textE s.data.toList a=31:=textE_long hE (by omega)
   rw [Jz (by rw [hT]; decide),JA (by rw [hT]; decide),hT,QI]
   clear en ep hE g1 g2 g3 g4 hT
   go_enter Tryz.func108,Tryz.ntmps108
   go_wp2_with (go_at_call 132; refine (cT _).mono ?_; rintro e w1 ⟨rfl,rfl⟩)
   go_ret3
   exact⟨rfl,rfl⟩
  ·have hL':n≤65536:=by omega
   by_cases hS:(s.size:Int) < p+n
   ·have hT:textE s.data.toList a=30:=textE_short hE (by omega) (by omega)
    rw [Jz (by rw [hT]; decide),JA (by rw [hT]; decide),hT,QI]
    have hS2:(s.size:Int) - p < n:=by omega
    clear en ep hE g1 g2 g3 g4 hT
    go_enter Tryz.func108,Tryz.ntmps108
    go_wp2_with (go_at_call 132; refine (cT _).mono ?_; rintro e w1 ⟨rfl,rfl⟩)
    go_ret3
    exact⟨rfl,rfl⟩
   ·have hT:textE s.data.toList a=0:=textE_ok hE (by omega) (by omega)
    obtain⟨P,eP⟩:∃ P:Nat,p=(P:Int):=⟨p.toNat,by omega⟩
    obtain⟨Q,eQ⟩:∃ Q:Nat,(P:Int)+n=(Q:Int):=⟨(p+n).toNat,by omega⟩
    have hPQ:P≤Q:=by omega
    have hQs:Q≤s.size:=by omega
    have hS2:¬ (s.size:Int) - (P:Int) < n:=by omega
    have HR:Hid (s.extract P Q=bytes (textS s.data.toList a)):=by
     show _=_
     rw [textS_ok hT,← Jm s,bytes_ext,bytes_list,← ep,eP]
     congr 2
     omega
    have HP:Hid (textP s.data.toList a=(Q:Int)):=by show _=_; rw [textP_ok hT,← ep,← en,← eQ,eP]
    rw [hT]
    rw [eP] at cT
    clear en ep hE g1 g2 g3 g4 hT hp0 hp1 hS eP
    go_enter Tryz.func108,Tryz.ntmps108
    go_wp2_with (go_at_call 132; refine (cT _).mono ?_; rintro e w1 ⟨rfl,rfl⟩)
    go_ret3
    exact⟨ret3s (by rw [← HR.out]) HP.out.symm rfl,rfl⟩
 ·have hT:=textE_take hE
  have hT0:textE s.data.toList a≠0:=by rw [hT]; exact hE
  rw [Jz hT0,JA hT0,hT,QI]
  rw [takeN_no hE,JJ hE] at cT
  obtain⟨e,ee⟩:∃ e:Int,e=(takeE s.data.toList a:Nat):=⟨_,rfl⟩
  rw [← ee] at cT ⊢
  have he:¬ e=0:=by omega
  clear ee hT hT0 hE
  go_enter Tryz.func108,Tryz.ntmps108
  go_wp2_with (go_at_call 132; refine (cT _).mono ?_; rintro e w1 ⟨rfl,rfl⟩)
  go_ret3
  exact⟨rfl,rfl⟩
theorem rtakeText_any (s:ByteArray) (a:Int) (hs:s.size≤1099511627776) (w:World) :
  Calls zG 44 #[.string s,zI a] w fun r w'=>r=.returned (.tuple #[.string (bytes (textS s.data.toList a)),zI (textP s.data.toList a),zI (textE s.data.toList a:Nat)])∧w'=w:=by
 have cT:=fun w=>rtake_any s a hs w
 have hl:=len_of s
 by_cases hE:takeE s.data.toList a=0
 ·obtain⟨g1,g2,g3,g4,_,_⟩:=take_one hE
  rw [hE] at cT
  obtain⟨n,en⟩:∃ n:Int,n=(takeN s.data.toList a:Nat):=⟨_,rfl⟩
  obtain⟨p,ep⟩:∃ p:Int,p=takeP s.data.toList a:=⟨_,rfl⟩
  rw [← en,← ep] at cT
  have hn0:0≤n:=by omega
  have hn1:n≤18446744073709551615:=by omega
  have hp0:0≤p:=by omega
  have hp1:p≤(s.size:Int):=by omega
  by_cases hL:65536 < n
  ·have hT:textE s.data.toList a=31:=textE_long hE (by omega)
   rw [Jz (by rw [hT]; decide),JA (by rw [hT]; decide),hT,QI]
   clear en ep hE g1 g2 g3 g4 hT
   go_enter Tryz.func44,Tryz.ntmps44
   go_wp2_with (go_at_call 86; refine (cT _).mono ?_; rintro e w1 ⟨rfl,rfl⟩)
   go_ret3
   exact⟨rfl,rfl⟩
  ·have hL':n≤65536:=by omega
   by_cases hS:(s.size:Int) < p+n
   ·have hT:textE s.data.toList a=30:=textE_short hE (by omega) (by omega)
    rw [Jz (by rw [hT]; decide),JA (by rw [hT]; decide),hT,QI]
    have hS2:(s.size:Int) - p < n:=by omega
    clear en ep hE g1 g2 g3 g4 hT
    go_enter Tryz.func44,Tryz.ntmps44
    go_wp2_with (go_at_call 86; refine (cT _).mono ?_; rintro e w1 ⟨rfl,rfl⟩)
    go_ret3
    exact⟨rfl,rfl⟩
   ·have hT:textE s.data.toList a=0:=textE_ok hE (by omega) (by omega)
    obtain⟨P,eP⟩:∃ P:Nat,p=(P:Int):=⟨p.toNat,by omega⟩
    obtain⟨Q,eQ⟩:∃ Q:Nat,(P:Int)+n=(Q:Int):=⟨(p+n).toNat,by omega⟩
    have hPQ:P≤Q:=by omega
    have hQs:Q≤s.size:=by omega
    have hS2:¬ (s.size:Int) - (P:Int) < n:=by omega
    have HR:Hid (s.extract P Q=bytes (textS s.data.toList a)):=by
     show _=_
     rw [textS_ok hT,← Jm s,bytes_ext,bytes_list,← ep,eP]
     congr 2
     omega
    have HP:Hid (textP s.data.toList a=(Q:Int)):=by show _=_; rw [textP_ok hT,← ep,← en,← eQ,eP]
    rw [hT]
    rw [eP] at cT
    clear en ep hE g1 g2 g3 g4 hT hp0 hp1 hS eP
    go_enter Tryz.func44,Tryz.ntmps44
    go_wp2_with (go_at_call 86; refine (cT _).mono ?_; rintro e w1 ⟨rfl,rfl⟩)
    go_ret3
    exact⟨ret3s (by rw [← HR.out]) HP.out.symm rfl,rfl⟩
 ·have hT:=textE_take hE
  have hT0:textE s.data.toList a≠0:=by rw [hT]; exact hE
  rw [Jz hT0,JA hT0,hT,QI]
  rw [takeN_no hE,JJ hE] at cT
  obtain⟨e,ee⟩:∃ e:Int,e=(takeE s.data.toList a:Nat):=⟨_,rfl⟩
  rw [← ee] at cT ⊢
  have he:¬ e=0:=by omega
  clear ee hT hT0 hE
  go_enter Tryz.func44,Tryz.ntmps44
  go_wp2_with (go_at_call 86; refine (cT _).mono ?_; rintro e w1 ⟨rfl,rfl⟩)
  go_ret3
  exact⟨rfl,rfl⟩
theorem unframe_any (s:ByteArray) (a:Int) (hs:s.size≤1099511627776) (w:World) :
  Calls zG 84 #[.string s,zI a] w fun r w'=>r=.returned (.tuple #[.string (bytes (unS s.data.toList a)),zI (unP s.data.toList a),zI (unE s.data.toList a:Nat)])∧Below w§ w w':=by
 have cT:=fun w=>takeText_any s a hs w
 have hl:=len_of s
 by_cases hE:textE s.data.toList a=0
 ·obtain⟨g1,g2,g3,g4,_⟩:=text_one hE
  rw [hE] at cT
  obtain⟨T,eT⟩:∃ T,T=bytes (textS s.data.toList a):=⟨_,rfl⟩
  obtain⟨p,ep⟩:∃ p:Int,p=textP s.data.toList a:=⟨_,rfl⟩
  have hTl:T.data.toList=textS s.data.toList a:=by rw [eT,bytes_list]
  have hTs:T.size≤65536:=by rw [eT,bytes_size]; exact g4
  rw [← eT,← ep] at cT
  obtain⟨P,eP⟩:∃ P:Nat,p=(P:Int):=⟨p.toNat,by omega⟩
  rw [eP] at cT
  have hp1:P≤s.size:=by omega
  by_cases hS:(s.size:Int) - (P:Int) < 4
  ·have hU:unE s.data.toList a=30:=unE_short hE (by omega)
   rw [unS_no (by rw [hU]; decide),unP_no (by rw [hU]; decide),hU,QI]
   clear eT ep hE g1 g2 g3 g4 hU hTl eP
   go_enter Tryz.func84,Tryz.ntmps84
   go_wp2_with (go_at_call 108; refine (cT _).mono ?_; rintro e w1 ⟨rfl,rfl⟩)
   go_ret3
   exact⟨rfl,Below.refl _ _⟩
  ·have hS':¬ (s.size:Int) - (P:Int) < 4:=hS
   obtain⟨Q,eQ⟩:∃ Q:Nat,(P:Int)+4=(Q:Int):=⟨P+4,by omega⟩
   have hPQ:P≤Q:=by omega
   have hS1:Q≤s.size:=by omega
   have hwQ:IntKind.i64.wrap (Q:Int)=(Q:Int):=by rw [IntKind.wrap_i64]; omega
   have cC:=fun w=>Q5 T (by omega) w
   obtain⟨K,eK⟩:∃ K,K=bytes (le4 (sumL T.data.toList)):=⟨_,rfl⟩
   rw [← eK] at cC
   obtain⟨X,eX⟩:∃ X,s.extract P Q=X:=⟨_,rfl⟩
   have hXl:X.data.toList=(s.data.toList.drop (textP s.data.toList a).toNat).take 4:=by
    rw [← eX,← Jm s,bytes_ext,bytes_list,bytes_list,← ep,eP]
    congr 1
    omega
   by_cases hX:X=K
   ·have hU:unE s.data.toList a=0:=unE_ok hE (by omega) (by rw [← hXl,hX,eK,bytes_list,hTl])
    have HP:Hid (unP s.data.toList a=(Q:Int)):=by show _=_; rw [unP_ok hU,← ep,eP,eQ]
    rw [unS_ok hU,hU,← eT]
    clear eT ep hE g1 g2 g3 g4 hU hTl eK hXl eP
    subst hX
    go_enter Tryz.func84,Tryz.ntmps84
    go_wp2_with (go_at_call 108; refine (cT _).mono ?_; rintro e w1 ⟨rfl,rfl⟩)
    go_region_with (go_at_call 75; refine (cC _).mono ?_; rintro e w2 ⟨rfl,hb2⟩)
    all_goals
     go_wp2_with fail
     go_ret3
    all_goals exact⟨ret3s rfl HP.out.symm rfl,below_dw hb2⟩
   ·have hU:unE s.data.toList a=32:=unE_sum hE (by omega) (by rw [← hXl,← hTl]; intro h; exact hX (ba_ext (by rw [h,eK,bytes_list])))
    rw [unS_no (by rw [hU]; decide),unP_no (by rw [hU]; decide),hU,QI]
    have hne:(X.toList == K.toList)=false:=str_ne hX
    clear eT ep hE g1 g2 g3 g4 hU hTl eK hXl eP
    go_enter Tryz.func84,Tryz.ntmps84
    go_wp2_with (go_at_call 108; refine (cT _).mono ?_; rintro e w1 ⟨rfl,rfl⟩)
    go_region_with (go_at_call 75; refine (cC _).mono ?_; rintro e w2 ⟨rfl,hb2⟩)
    all_goals
     go_wp2_with fail
     go_ret3
    all_goals exact⟨rfl,below_dw hb2⟩
 ·have hT:=unE_text hE
  have hT0:unE s.data.toList a≠0:=by rw [hT]; exact hE
  rw [unS_no hT0,unP_no hT0,hT,QI]
  rw [Jz hE,JA hE,QI] at cT
  obtain⟨e,ee⟩:∃ e:Int,e=(textE s.data.toList a:Nat):=⟨_,rfl⟩
  rw [← ee] at cT ⊢
  have he:¬ e=0:=by omega
  clear ee hT hT0 hE
  go_enter Tryz.func84,Tryz.ntmps84
  go_wp2_with (go_at_call 108; refine (cT _).mono ?_; rintro e w1 ⟨rfl,rfl⟩)
  go_ret3
  exact⟨rfl,Below.refl _ _⟩
theorem runframe_any (s:ByteArray) (a:Int) (hs:s.size≤1099511627776) (w:World) :
  Calls zG 43 #[.string s,zI a] w fun r w'=>r=.returned (.tuple #[.string (bytes (unS s.data.toList a)),zI (unP s.data.toList a),zI (unE s.data.toList a:Nat)])∧Below w§ w w':=by
 have cT:=fun w=>rtakeText_any s a hs w
 have hl:=len_of s
 by_cases hE:textE s.data.toList a=0
 ·obtain⟨g1,g2,g3,g4,_⟩:=text_one hE
  rw [hE] at cT
  obtain⟨T,eT⟩:∃ T,T=bytes (textS s.data.toList a):=⟨_,rfl⟩
  obtain⟨p,ep⟩:∃ p:Int,p=textP s.data.toList a:=⟨_,rfl⟩
  have hTl:T.data.toList=textS s.data.toList a:=by rw [eT,bytes_list]
  have hTs:T.size≤65536:=by rw [eT,bytes_size]; exact g4
  rw [← eT,← ep] at cT
  obtain⟨P,eP⟩:∃ P:Nat,p=(P:Int):=⟨p.toNat,by omega⟩
  rw [eP] at cT
  have hp1:P≤s.size:=by omega
  by_cases hS:(s.size:Int) - (P:Int) < 4
  ·have hU:unE s.data.toList a=30:=unE_short hE (by omega)
   rw [unS_no (by rw [hU]; decide),unP_no (by rw [hU]; decide),hU,QI]
   clear eT ep hE g1 g2 g3 g4 hU hTl eP
   go_enter Tryz.func43,Tryz.ntmps43
   go_wp2_with (go_at_call 44; refine (cT _).mono ?_; rintro e w1 ⟨rfl,rfl⟩)
   go_ret3
   exact⟨rfl,Below.refl _ _⟩
  ·have hS':¬ (s.size:Int) - (P:Int) < 4:=hS
   obtain⟨Q,eQ⟩:∃ Q:Nat,(P:Int)+4=(Q:Int):=⟨P+4,by omega⟩
   have hPQ:P≤Q:=by omega
   have hS1:Q≤s.size:=by omega
   have hwQ:IntKind.i64.wrap (Q:Int)=(Q:Int):=by rw [IntKind.wrap_i64]; omega
   have cC:=fun w=>tail_any T (by omega) w
   obtain⟨K,eK⟩:∃ K,K=bytes (le4 (sumL T.data.toList)):=⟨_,rfl⟩
   rw [← eK] at cC
   obtain⟨X,eX⟩:∃ X,s.extract P Q=X:=⟨_,rfl⟩
   have hXl:X.data.toList=(s.data.toList.drop (textP s.data.toList a).toNat).take 4:=by
    rw [← eX,← Jm s,bytes_ext,bytes_list,bytes_list,← ep,eP]
    congr 1
    omega
   by_cases hX:X=K
   ·have hU:unE s.data.toList a=0:=unE_ok hE (by omega) (by rw [← hXl,hX,eK,bytes_list,hTl])
    have HP:Hid (unP s.data.toList a=(Q:Int)):=by show _=_; rw [unP_ok hU,← ep,eP,eQ]
    rw [unS_ok hU,hU,← eT]
    clear eT ep hE g1 g2 g3 g4 hU hTl eK hXl eP
    subst hX
    go_enter Tryz.func43,Tryz.ntmps43
    go_wp2_with (go_at_call 44; refine (cT _).mono ?_; rintro e w1 ⟨rfl,rfl⟩)
    go_region_with (go_at_call 83; refine (cC _).mono ?_; rintro e w2 ⟨rfl,hb2⟩)
    all_goals
     go_wp2_with fail
     go_ret3
    all_goals exact⟨ret3s rfl HP.out.symm rfl,below_dw hb2⟩
   ·have hU:unE s.data.toList a=32:=unE_sum hE (by omega) (by rw [← hXl,← hTl]; intro h; exact hX (ba_ext (by rw [h,eK,bytes_list])))
    rw [unS_no (by rw [hU]; decide),unP_no (by rw [hU]; decide),hU,QI]
    have hne:(X.toList == K.toList)=false:=str_ne hX
    clear eT ep hE g1 g2 g3 g4 hU hTl eK hXl eP
    go_enter Tryz.func43,Tryz.ntmps43
    go_wp2_with (go_at_call 44; refine (cT _).mono ?_; rintro e w1 ⟨rfl,rfl⟩)
    go_region_with (go_at_call 83; refine (cC _).mono ?_; rintro e w2 ⟨rfl,hb2⟩)
    all_goals
     go_wp2_with fail
     go_ret3
    all_goals exact⟨rfl,below_dw hb2⟩
 ·have hT:=unE_text hE
  have hT0:unE s.data.toList a≠0:=by rw [hT]; exact hE
  rw [unS_no hT0,unP_no hT0,hT,QI]
  rw [Jz hE,JA hE,QI] at cT
  obtain⟨e,ee⟩:∃ e:Int,e=(textE s.data.toList a:Nat):=⟨_,rfl⟩
  rw [← ee] at cT ⊢
  have he:¬ e=0:=by omega
  clear ee hT hT0 hE
  go_enter Tryz.func43,Tryz.ntmps43
  go_wp2_with (go_at_call 44; refine (cT _).mono ?_; rintro e w1 ⟨rfl,rfl⟩)
  go_ret3
  exact⟨rfl,Below.refl _ _⟩
end W
end Go.Proofs.YteedmmljahgpjaaGreatDoor
