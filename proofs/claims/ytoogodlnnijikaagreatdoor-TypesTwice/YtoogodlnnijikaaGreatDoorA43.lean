import Derived.Test.YtoogodlnnijikaaGreatDoorA0
import Derived.Test.YtoogodlnnijikaaGreatDoorA42
namespace Go.Proofs.YtoogodlnnijikaaGreatDoor
set_option maxHeartbeats 16000000
set_option maxRecDepth 100000
open Go.RowKit
set_option linter.unusedVariables false
set_option linter.unusedSimpArgs false
theorem twice15 (S:StratM) (x y:Int) (w:yW) (hl:StratL w S) (ht:Tab w) (hf:FTab w) (hg:Ety w) :
  Calls zG 7 #[.agg S.vals,zI x,zI y] w fun e w'=>e=.returned (.bool true)∧yD w w':=by
 have HH:Hid (StratL w S∧Tab w∧FTab w∧Ety w):=⟨hl,ht,hf,hg⟩
 have hb0:=below_new w (.cells S.vals 27)
 have hn0:=heap_new w (.cells S.vals 27)
 obtain⟨V,eV⟩:∃ V,w.alloc (.cells S.vals 27)=V:=⟨_,rfl⟩
 rw [eV] at hb0 hn0
 have EV:Hid (w.alloc (.cells S.vals 27)=V):=eV
 have HB0:Hid (yD w V):=hb0
 have HN0:Hid (V.heap[w§]? = (zC S.vals 27)):=hn0
 have c1:=awake_any V (ht.on hb0) (hf.on hb0) (hg.on hb0)
 clear hl ht hf hg hb0 hn0 eV
 go_enter Tryz.func7,Tryz.ntmps7
 go_upto_region 1 with fail
 rw [EV.out]
 go_wp2_with fail
 refine c1.mono ?_
 rintro e w1 ⟨rfl,hb⟩
 have HB1:Hid (yD w w1):=below2 HB0.out hb
 have HN1:Hid (w1.heap[w§]? = (zC S.vals 27)):=(hb.block _ (zJ HN0.out).1).trans HN0.out
 have c2:Calls zG 13 #[.agg S.vals,.agg zNo] w1 _:=far_any S nd0T w1 (HH.out.1.on HB1.out) (lies0T _)
 clear c1 hb HN0 HB0 EV
 go_wp2_with (refine wpList_load_row rfl 27 (.tmp 3) rfl w§ rfl 27 S.vals (0,0) _ HN1.out Tryz.underlying27 rfl size27s ?_)
 refine c2.mono ?_
 rintro e w2 ⟨⟨f,rfl,hf⟩,hb⟩
 have HB2:Hid (yD w w2):=below2 HB1.out hb
 have HN2:Hid (w2.heap[w§]? = (zC S.vals 27)):=(hb.block _ (zJ HN1.out).1).trans HN1.out
 clear c2 hb HN1 HB1
 cases f with
 | true =>
  clear hf
  go_wp2_with fail
  go_ret
  exact⟨rfl,HB2.out⟩
 | false =>
  have HY:Hid (StratY S):=(hf rfl).1
  clear hf
  by_cases hx0:x < 0
  ·go_wp2_with fail
   go_ret
   exact⟨rfl,HB2.out⟩
  ·have c3:=tyCheck_any S w2 (HH.out.1.on HB2.out) (yz HY.out) (HH.out.2.1.on HB2.out) (HH.out.2.2.1.on HB2.out) (HH.out.2.2.2.on HB2.out)
   go_wp2_with (refine wpList_load_row rfl 27 (.tmp 3) rfl w§ rfl 27 S.vals (0,0) _ HN2.out Tryz.underlying27 rfl size27s ?_)
   refine c3.mono ?_
   rintro e w3 (⟨hc,rfl,hb⟩ | ⟨p,no,TT,vv,hc,rfl,he,hb⟩)
   ·have HB3:Hid (yD w w3):=below2 HB2.out hb
    have HN3:Hid (w3.heap[w§]? = (zC S.vals 27)):=(hb.block _ (zJ HN2.out).1).trans HN2.out
    have HC:Hid (chkE S=none):=hc
    have c4:=copyStrat_any S w3 (HH.out.1.on HB3.out) (z9_of hc HY.out)
    clear c3 hb HN2 HB2 hc
    go_upto_region 8 with fail
    go_wp2_with (refine wpList_load_row rfl 27 (.tmp 3) rfl w§ rfl 27 S.vals (0,0) _ HN3.out Tryz.underlying27 rfl size27s ?_)
    refine c4.mono ?_
    rintro e w4 ⟨R,T,v1,v2,v3,rfl,⟨h1,h2,hF⟩,hb⟩
    have HZ:Hid ((w4.alloc (.cells Z4 27)).heap[w4§]? = (zC Z4 27)):=heap_new _ _
    have HA:Hid ((#[.string S.x,v1,v2,v3]:Array Value).all (·.oneCell')=true):=cpf_all hF
    have HTB:Hid (Tb w S R T v1 v2 v3 h1 h2 w4§ w3 w4 ((w4.alloc (.cells Z4 27)).setRow w4§ #[.string S.x,v1,v2,v3])):=by
     have hk:yD w4 ((w4.alloc (.cells Z4 27)).setRow w4§ #[.string S.x,v1,v2,v3]):=below_row (below_new _ _) (Nat.le_refl _) _
     have h4:=(hb.block _ (zJ HN3.out).1).trans HN3.out
     exact⟨HB3.out,HH.out.1.on HB3.out,hF,hb,hk,Nat.le_refl _,(hk.block _ (zJ h4).1).trans h4,setRow_heap _ _ _ _ _ _ HZ.out,HH.out.2.1,HH.out.2.2.1,HH.out.2.2.2,HC.out,yz HY.out⟩
    have H3N:Hid (w3.heap[w§]? = (zC S.vals 27)):=HN3.out
    clear c4 hF hb
    go_upto_region 9 with (refine wpList_store_row rfl 27 (.tmp 10) (.tmp 32) rfl w4§ #[.string S.x,v1,v2,v3] rfl rfl 27 Z4 HZ.out size27s rfl HA.out ?_)
    have HTB':=HTB.out
    unfold Z4 at HTB'
    clear HTB HZ HA HN3 HB3 HY
    generalize World.setRow _ _ _=u at HTB' ⊢
    have HTB:Hid (Tb w S R T v1 v2 v3 h1 h2 w4§ w3 w4 u):=HTB'
    clear HTB'
    obtain⟨N,eN⟩:∃ N,w4§=N:=⟨_,rfl⟩
    rw [eN] at HTB ⊢
    clear eN
    have q1:u.cell? w§¢1=some (.slice S.ra S.rs.length S.rc):=cell_of HTB.out.s 1
    have q2:u.cell? w§¢2=some (.slice S.sa S.ss.length S.sc):=cell_of HTB.out.s 2
    have q3:u.cell? w§¢3=some (.slice S.ta S.ts.length S.tc):=cell_of HTB.out.s 3
    have hW:(y.tmod 3=0∧0 < S.rs.length)∨(¬ y.tmod 3=0∧y.tmod 3=1∧0 < S.ss.length)∨((y.tmod 3=0∧¬ 0 < S.rs.length)∨(¬ y.tmod 3=0∧y.tmod 3=1∧¬ 0 < S.ss.length)∨(¬ y.tmod 3=0∧¬ y.tmod 3=1)):=by omega
    rcases hW with ⟨y0,p0⟩ | ⟨y0,y1,p0⟩ | hW
    ·obtain⟨i,hmod,hi⟩:=tmod_lt (x:=x) (n:=S.rs.length) (by omega) (by omega)
     have hne:¬ ((S.rs.length:Int)=0):=by omega
     have hi':(i:Int) < (S.rs.length:Int):=by omega
     have hnil:¬ S.rs = []:=List.ne_nil_of_length_pos (by omega)
     obtain⟨b,o,ea,hat⟩:=HTB.out.l.1.2.2 i (by rw [List.length_map]; exact hi)
     simp only [List.getElem_map] at hat
     have HMEM:Hid (S.rs[i] ∈ S.rs):=List.getElem_mem hi
     obtain⟨r,er⟩:∃ r,S.rs[i]=r:=⟨_,rfl⟩
     rw [er] at hat HMEM
     have HRG:Hid (w3.rangeAt b (o+i * 11) r.vals.toList):=fun j v hv=>by
      have hj:j < 11:=(List.getElem?_eq_some_iff.1 hv).1
      rw [hat j hj,← hv]; simp
     have HQ:Hid (S.vals[1]? = some (.slice (some b¢o) S.rs.length S.rc)):=by show _=_; rw [← ea]; rfl
     clear hat er ea
     have HSS:Hid (∀ u,Tb w S R T v1 v2 v3 h1 h2 N w3 w4 u→(u.heap[w§]? = (zC S.vals 27)∧u.heap[N]? = (zC #[.string S.x,v1,v2,v3] 27)∧u.rangeAt b (o+i * 11) r.vals.toList)):=fun u h=>⟨h.s,h.x,rng_on HRG.out (below2 h.b4 h.k)⟩
     have HTD:Hid (Tb w S R T v1 v2 v3 h1 h2 N w3 w4 u.drew):=HTB.out.drew
     go_upto_region 10 with fail
     clear q1 q2 q3
     refine (?_:∀ Q',Hid (Q'=_)→Code.wp _ _ Q' _ _) _ rfl
     intro Q' HQ'
     have HPn:Hid (∀ p (d:Nat) v a w,Q' (.panic p) (Act.put a (some d) v) w→Q' (.panic p) a w):=by rw [HQ'.out]; exact fun _ _ _ _ _ h=>h
     refine wp_region_T (t:=14) (S:=fun u=>u.heap[w§]? = (zC S.vals 27)∧u.heap[N]? = (zC #[.string S.x,v1,v2,v3] 27)∧u.rangeAt b (o+i * 11) r.vals.toList) zK (HSS.out _ HTD.out) (fun hHeld=>?_)
     refine wpAnyT_take (i:=0) (v:=?_) rfl zK zK zK zK (fun c a w h=>HPn.out c _ _ a w h) (Or.inl ⟨by rfl,?_⟩) (by assumption) ?_
     rotate_left
     ·(intro v hv; go_simp; try (with_reducible rfl))
     try simp [Act.put]
     refine wpAnyT_take (i:=1) (v:=?_) rfl zK zK zK zK (fun c a w h=>HPn.out c _ _ a w h) (Or.inl ⟨by rfl,?_⟩) (by assumption) ?_
     rotate_left
     ·(intro v hv; have t3:v.cell? N¢1=some v1:=cell_of hv.2.1 1; clear hv; go_simp; try (with_reducible rfl))
     try simp [Act.put]
     refine wpAnyT_take (i:=2) (v:=?_) rfl zK zK zK zK (fun c a w h=>HPn.out c _ _ a w h) (Or.inl ⟨by rfl,?_⟩) (by assumption) ?_
     rotate_left
     ·(intro v hv; go_simp; try (with_reducible rfl))
     try simp [Act.put]
     refine wpAnyT_take (i:=3) (v:=?_) rfl zK zK zK zK (fun c a w h=>HPn.out c _ _ a w h) (Or.inl ⟨by rfl,?_⟩) (by assumption) ?_
     rotate_left
     ·(intro v hv; have t3:v.cell? w§¢1=some (.slice (some b¢o) S.rs.length S.rc):=(cell_of hv.1 1).trans HQ.out; clear hv; go_simp; try (with_reducible rfl))
     try simp [Act.put]
     refine wpAnyT_take (i:=4) (v:=?_) rfl zK zK zK zK (fun c a w h=>HPn.out c _ _ a w h) (Or.inl ⟨by rfl,?_⟩) (by assumption) ?_
     rotate_left
     ·(intro v hv; go_simp; try (with_reducible rfl))
     try simp [Act.put]
     refine wpAnyT_take (i:=5) (v:=?_) rfl zK zK zK zK (fun c a w h=>HPn.out c _ _ a w h) (Or.inl ⟨by rfl,?_⟩) (by assumption) ?_
     rotate_left
     ·(intro v hv; go_simp; try (with_reducible rfl))
     try simp [Act.put]
     refine wpAnyT_take (i:=6) (v:=?_) rfl zK zK zK zK (fun c a w h=>HPn.out c _ _ a w h) (Or.inl ⟨by rfl,?_⟩) (by assumption) ?_
     rotate_left
     ·(intro v hv; have t3:v.cell? w§¢1=some (.slice (some b¢o) S.rs.length S.rc):=(cell_of hv.1 1).trans HQ.out; clear hv; go_simp; try (with_reducible rfl))
     try simp [Act.put]
     refine wpAnyT_take (i:=7) (v:=?_) rfl zK zK zK zK (fun c a w h=>HPn.out c _ _ a w h) (Or.inl ⟨by rfl,?_⟩) (by assumption) ?_
     rotate_left
     ·(intro v hv; go_simp; try (with_reducible rfl))
     try simp [Act.put]
     refine wpAnyT_take (i:=8) (v:=?_) rfl zK zK zK zK (fun c a w h=>HPn.out c _ _ a w h) (Or.inl ⟨by rfl,?_⟩) (by assumption) ?_
     rotate_left
     ·(intro v hv; go_simp; try (with_reducible rfl))
     try simp [Act.put]
     refine wpAnyT_take (i:=9) (v:=?_) rfl zK zK zK zK (fun c a w h=>HPn.out c _ _ a w h) (Or.inl ⟨by rfl,?_⟩) (by assumption) ?_
     rotate_left
     ·(intro v hv; go_simp; try (with_reducible rfl))
     try simp [Act.put]
     refine wpAnyT_take (i:=10) (v:=?_) rfl zK zK zK zK (fun c a w h=>HPn.out c _ _ a w h) (Or.inl ⟨by rfl,?_⟩) (by assumption) ?_
     rotate_left
     ·(intro v hv; have z0:v.cell? ⟨b,o+i * 11,none⟩=some (.string r.x):=hv.2.2 0 _ rfl; have z1:v.cell? ⟨b,o+i * 11+1,none⟩=some (zU r.t):=hv.2.2 1 _ rfl; have z2:v.cell? ⟨b,o+i * 11+2,none⟩=some (zU r.m.h.k):=hv.2.2 2 _ rfl; have z3:v.cell? ⟨b,o+i * 11+3,none⟩=some (zU r.m.h.o):=hv.2.2 3 _ rfl; have z4:v.cell? ⟨b,o+i * 11+4,none⟩=some (zU r.m.h.t):=hv.2.2 4 _ rfl; have z5:v.cell? ⟨b,o+i * 11+5,none⟩=some (zI r.m.h.n):=hv.2.2 5 _ rfl; have z6:v.cell? ⟨b,o+i * 11+6,none⟩=some (zU r.m.h.f):=hv.2.2 6 _ rfl; have z7:v.cell? ⟨b,o+i * 11+7,none⟩=some (.string r.m.h.x):=hv.2.2 7 _ rfl; have z8:v.cell? ⟨b,o+i * 11+8,none⟩=some (.slice r.m.a r.m.ks.length r.m.c):=hv.2.2 8 _ rfl; have z9:v.cell? ⟨b,o+i * 11+9,none⟩=some (zI r.m.h.p):=hv.2.2 9 _ rfl; have z10:v.cell? ⟨b,o+i * 11+10,none⟩=some (zI r.p):=hv.2.2 10 _ rfl; clear hv; go_simp; try (with_reducible rfl))
     try simp [Act.put]
     refine wpAnyT_one (i:=11) zK rfl (fun K hK=>?_)
     go_simp
     refine hK.out _ _ (fun _=>HSS.out _ (HTD.out.on (below_new _ _))) ?_
     clear hK K
     try simp [Act.put]
     refine wpAnyT_one (i:=12) zK rfl (fun K hK=>?_)
     have HRR:Hid (RA w3 u.drew 62 11 v1 (R.map RegM.vals)):=HTD.out.ra1.1
     have HLn:Hid ((R.map RegM.vals).length≤1000000000):=by have h1:=cnt_zero (fine_iff.1 (chk_none HTB.out.c).1).rc; have h2:=congrArg List.length HTB.out.f.p.rb; rw [List.length_map,List.length_map] at h2; show _≤_; rw [List.length_map]; omega
     refine step_arr rfl (.tmp 44) (.tmp 54) 23 62 11 104 _ rfl Tryz.underlying23 inf100 rfl (by decide) (by decide) (by decide) r.vals rfl (one11 _) HRR.out rfl rfl HLn.out ?_
     intro v' w5 hr2 hs2 hq2 hz2
     obtain⟨ao,n',c',rfl⟩:=hr2.sl3
     obtain⟨g1,g2,g3⟩:=HTD.out.put (j:=1) HTD.out.ra1.2 hr2 hs2 hq2 hz2 (.slice ao n' c')
     have HW:Hid (TwL (w5.setCell N¢1 (.slice ao n' c')) #[.string S.x,.slice ao n' c',v2,v3]∧yD w3 (w5.setCell N¢1 (.slice ao n' c'))∧(w5.setCell N¢1 (.slice ao n' c')).heap[N]? = (zC #[.string S.x,.slice ao n' c',v2,v3] 27)):=⟨add_reg HTD.out.f HTD.out.l HTD.out.z HTD.out.c HMEM.out g1 g2,g1.B,heap_set _ g3⟩
     have H5:Hid ((w5.heap[w§]? = (zC S.vals 27)∧w5.heap[N]? = (zC #[.string S.x,v1,v2,v3] 27)∧w5.rangeAt b (o+i * 11) r.vals.toList)):=by
      have hs:=HTD.out.s
      refine⟨(hq2 _ (zJ hs).1 (fun e=>by have h1:=(HTD.out.ra1.1).nb _ e; have h2:=HTD.out.b.size; have h3:=(zJ H3N.out).1; omega)).trans hs,g3,rng_on HRG.out hr2.B⟩
     have x3:w5.cell? N¢1=some v1:=cell_of g3 1
     have f3:w5.frozen? N¢1=false:=frozen_of g3 1
     clear g1 g2 g3 hr2 hs2 hq2 hz2
     refine hK.out _ _ (fun _=>H5.out) ?_
     clear hK K hHeld
     have hHeld:=H5.out
     try simp [Act.put]
     refine wpAnyT_take (i:=13) (v:=?_) rfl zK zK zK zK (fun c a w h=>HPn.out c _ _ a w h) (Or.inl ⟨by rfl,?_⟩) (by assumption) ?_
     rotate_left
     ·(intro v hv; go_simp; try (with_reducible rfl))
     try simp [Act.put]
     clear hHeld
     refine wpAnyT_one (i:=14) zK rfl (fun K hK=>?_)
     go_simp
     refine hK.out _ _ (fun h=>absurd rfl h) ?_
     clear hK K x3 f3
     try simp [Act.put]
     refine wpAnyT_done zK ?_ _
     rw [HQ'.out]
     clear HQ' HPn Q' H5 HSS HRG HQ
     generalize World.setCell _ _ _=w6 at HW ⊢
     obtain⟨S2,eS,hl2,hz2,p,no,hch,hno⟩:=HW.out.1
     have HX6:Hid (w6.heap[N]? = (zC S2.vals 27)):=by show _=_; rw [← eS]; exact HW.out.2.2
     have HB6:Hid (yD w w6):=below2 HTB.out.b HW.out.2.1
     have c5:=tyCheck_any S2 w6 hl2 hz2 (HTB.out.t.on HB6.out) (HTB.out.t2.on HB6.out) (HTB.out.t3.on HB6.out)
     have HCH:Hid (chkE S2=some (p,no)∧(no=150∨no=121)):=⟨hch,hno⟩
     clear hl2 hz2 hch hno eS
     go_wp2_with (refine wpList_load_row rfl 27 (.tmp 10) rfl N rfl 27 S2.vals (0,0) _ HX6.out Tryz.underlying27 rfl size27s ?_)
     refine c5.mono ?_
     rintro e w7 (⟨hc,rfl,hb⟩ | ⟨p',no',TT,vv,hc,rfl,he,hb⟩)
     ·rw [HCH.out.1] at hc; cases hc
     ·have HB7:Hid (yD w w7):=below2 HB6.out hb
      have hno:no'=150∨no'=121:=by
       have h:=HCH.out
       rw [h.1] at hc
       simp only [Option.some.injEq,Prod.mk.injEq] at hc
       obtain⟨rfl,rfl⟩:=hc
       exact h.2
      have c6:=pwrong_any he (HTB.out.t3.on HB7.out)
      clear c5 he hb hc HCH HX6
      go_wp2_with fail
      refine c6.mono ?_
      rintro e w8 ⟨rfl,hb⟩
      have HB8:Hid (yD w w8):=below2 HB7.out hb
      clear c6 hb
      rcases hno with rfl | rfl
      ·go_wp2_with fail
       go_ret
       exact⟨rfl,HB8.out⟩
      ·go_wp2_with fail
       go_ret
       exact⟨rfl,HB8.out⟩
    ·obtain⟨i,hmod,hi⟩:=tmod_lt (x:=x) (n:=S.ss.length) (by omega) (by omega)
     have hne:¬ ((S.ss.length:Int)=0):=by omega
     have hi':(i:Int) < (S.ss.length:Int):=by omega
     have hnil:¬ S.ss = []:=List.ne_nil_of_length_pos (by omega)
     obtain⟨b,o,ea,hat⟩:=HTB.out.l.2.2.1.2.2 i (by rw [List.length_map]; exact hi)
     simp only [List.getElem_map] at hat
     have HMEM:Hid (S.ss[i] ∈ S.ss):=List.getElem_mem hi
     obtain⟨r,er⟩:∃ r,S.ss[i]=r:=⟨_,rfl⟩
     rw [er] at hat HMEM
     have HRG:Hid (w3.rangeAt b (o+i * 2) r.vals.toList):=fun j v hv=>by
      have hj:j < 2:=(List.getElem?_eq_some_iff.1 hv).1
      rw [hat j hj,← hv]; simp
     have HQ:Hid (S.vals[2]? = some (.slice (some b¢o) S.ss.length S.sc)):=by show _=_; rw [← ea]; rfl
     clear hat er ea
     have HSS:Hid (∀ u,Tb w S R T v1 v2 v3 h1 h2 N w3 w4 u→(u.heap[w§]? = (zC S.vals 27)∧u.heap[N]? = (zC #[.string S.x,v1,v2,v3] 27)∧u.rangeAt b (o+i * 2) r.vals.toList)):=fun u h=>⟨h.s,h.x,rng_on HRG.out (below2 h.b4 h.k)⟩
     have HTD:Hid (Tb w S R T v1 v2 v3 h1 h2 N w3 w4 u.drew):=HTB.out.drew
     go_upto_region 12 with fail
     clear q1 q2 q3
     refine (?_:∀ Q',Hid (Q'=_)→Code.wp _ _ Q' _ _) _ rfl
     intro Q' HQ'
     have HPn:Hid (∀ p (d:Nat) v a w,Q' (.panic p) (Act.put a (some d) v) w→Q' (.panic p) a w):=by rw [HQ'.out]; exact fun _ _ _ _ _ h=>h
     refine wp_region_T (t:=14) (S:=fun u=>u.heap[w§]? = (zC S.vals 27)∧u.heap[N]? = (zC #[.string S.x,v1,v2,v3] 27)∧u.rangeAt b (o+i * 2) r.vals.toList) zK (HSS.out _ HTD.out) (fun hHeld=>?_)
     refine wpAnyT_take (i:=0) (v:=?_) rfl zK zK zK zK (fun c a w h=>HPn.out c _ _ a w h) (Or.inl ⟨by rfl,?_⟩) (by assumption) ?_
     rotate_left
     ·(intro v hv; go_simp; try (with_reducible rfl))
     try simp [Act.put]
     refine wpAnyT_take (i:=1) (v:=?_) rfl zK zK zK zK (fun c a w h=>HPn.out c _ _ a w h) (Or.inl ⟨by rfl,?_⟩) (by assumption) ?_
     rotate_left
     ·(intro v hv; have t3:v.cell? N¢2=some v2:=cell_of hv.2.1 2; clear hv; go_simp; try (with_reducible rfl))
     try simp [Act.put]
     refine wpAnyT_take (i:=2) (v:=?_) rfl zK zK zK zK (fun c a w h=>HPn.out c _ _ a w h) (Or.inl ⟨by rfl,?_⟩) (by assumption) ?_
     rotate_left
     ·(intro v hv; go_simp; try (with_reducible rfl))
     try simp [Act.put]
     refine wpAnyT_take (i:=3) (v:=?_) rfl zK zK zK zK (fun c a w h=>HPn.out c _ _ a w h) (Or.inl ⟨by rfl,?_⟩) (by assumption) ?_
     rotate_left
     ·(intro v hv; have t3:v.cell? w§¢2=some (.slice (some b¢o) S.ss.length S.sc):=(cell_of hv.1 2).trans HQ.out; clear hv; go_simp; try (with_reducible rfl))
     try simp [Act.put]
     refine wpAnyT_take (i:=4) (v:=?_) rfl zK zK zK zK (fun c a w h=>HPn.out c _ _ a w h) (Or.inl ⟨by rfl,?_⟩) (by assumption) ?_
     rotate_left
     ·(intro v hv; go_simp; try (with_reducible rfl))
     try simp [Act.put]
     refine wpAnyT_take (i:=5) (v:=?_) rfl zK zK zK zK (fun c a w h=>HPn.out c _ _ a w h) (Or.inl ⟨by rfl,?_⟩) (by assumption) ?_
     rotate_left
     ·(intro v hv; go_simp; try (with_reducible rfl))
     try simp [Act.put]
     refine wpAnyT_take (i:=6) (v:=?_) rfl zK zK zK zK (fun c a w h=>HPn.out c _ _ a w h) (Or.inl ⟨by rfl,?_⟩) (by assumption) ?_
     rotate_left
     ·(intro v hv; have t3:v.cell? w§¢2=some (.slice (some b¢o) S.ss.length S.sc):=(cell_of hv.1 2).trans HQ.out; clear hv; go_simp; try (with_reducible rfl))
     try simp [Act.put]
     refine wpAnyT_take (i:=7) (v:=?_) rfl zK zK zK zK (fun c a w h=>HPn.out c _ _ a w h) (Or.inl ⟨by rfl,?_⟩) (by assumption) ?_
     rotate_left
     ·(intro v hv; go_simp; try (with_reducible rfl))
     try simp [Act.put]
     refine wpAnyT_take (i:=8) (v:=?_) rfl zK zK zK zK (fun c a w h=>HPn.out c _ _ a w h) (Or.inl ⟨by rfl,?_⟩) (by assumption) ?_
     rotate_left
     ·(intro v hv; go_simp; try (with_reducible rfl))
     try simp [Act.put]
     refine wpAnyT_take (i:=9) (v:=?_) rfl zK zK zK zK (fun c a w h=>HPn.out c _ _ a w h) (Or.inl ⟨by rfl,?_⟩) (by assumption) ?_
     rotate_left
     ·(intro v hv; go_simp; try (with_reducible rfl))
     try simp [Act.put]
     refine wpAnyT_take (i:=10) (v:=?_) rfl zK zK zK zK (fun c a w h=>HPn.out c _ _ a w h) (Or.inl ⟨by rfl,?_⟩) (by assumption) ?_
     rotate_left
     ·(intro v hv; have z0:v.cell? ⟨b,o+i * 2,none⟩=some (.string r.x):=hv.2.2 0 _ rfl; have z1:v.cell? ⟨b,o+i * 2+1,none⟩=some (zI r.p):=hv.2.2 1 _ rfl; clear hv; go_simp; try (with_reducible rfl))
     try simp [Act.put]
     refine wpAnyT_one (i:=11) zK rfl (fun K hK=>?_)
     go_simp
     refine hK.out _ _ (fun _=>HSS.out _ (HTD.out.on (below_new _ _))) ?_
     clear hK K
     try simp [Act.put]
     refine wpAnyT_one (i:=12) zK rfl (fun K hK=>?_)
     have HRR:Hid (RA w3 u.drew 65 2 v2 (S.ss.map SlotM.vals)):=HTD.out.ra2.1
     have HLn:Hid ((S.ss.map SlotM.vals).length≤1000000000):=by have h1:=cnt_zero (fine_iff.1 (chk_none HTB.out.c).1).sc; show _≤_; rw [List.length_map]; omega
     refine step_arr rfl (.tmp 68) (.tmp 78) 24 65 2 24 _ rfl Tryz.underlying24 inf102 rfl (by decide) (by decide) (by decide) r.vals rfl (one2 _) HRR.out rfl rfl HLn.out ?_
     intro v' w5 hr2 hs2 hq2 hz2
     obtain⟨ao,n',c',rfl⟩:=hr2.sl3
     obtain⟨g1,g2,g3⟩:=HTD.out.put (j:=2) HTD.out.ra2.2 hr2 hs2 hq2 hz2 (.slice ao n' c')
     have HW:Hid (TwL (w5.setCell N¢2 (.slice ao n' c')) #[.string S.x,v1,.slice ao n' c',v3]∧yD w3 (w5.setCell N¢2 (.slice ao n' c'))∧(w5.setCell N¢2 (.slice ao n' c')).heap[N]? = (zC #[.string S.x,v1,.slice ao n' c',v3] 27)):=⟨add_slot HTD.out.f HTD.out.l HTD.out.z HTD.out.c HMEM.out g1 g2,g1.B,heap_set _ g3⟩
     have H5:Hid ((w5.heap[w§]? = (zC S.vals 27)∧w5.heap[N]? = (zC #[.string S.x,v1,v2,v3] 27)∧w5.rangeAt b (o+i * 2) r.vals.toList)):=by
      have hs:=HTD.out.s
      refine⟨(hq2 _ (zJ hs).1 (fun e=>by have h1:=(HTD.out.ra2.1).nb _ e; have h2:=HTD.out.b.size; have h3:=(zJ H3N.out).1; omega)).trans hs,g3,rng_on HRG.out hr2.B⟩
     have x3:w5.cell? N¢2=some v2:=cell_of g3 2
     have f3:w5.frozen? N¢2=false:=frozen_of g3 2
     clear g1 g2 g3 hr2 hs2 hq2 hz2
     refine hK.out _ _ (fun _=>H5.out) ?_
     clear hK K hHeld
     have hHeld:=H5.out
     try simp [Act.put]
     refine wpAnyT_take (i:=13) (v:=?_) rfl zK zK zK zK (fun c a w h=>HPn.out c _ _ a w h) (Or.inl ⟨by rfl,?_⟩) (by assumption) ?_
     rotate_left
     ·(intro v hv; go_simp; try (with_reducible rfl))
     try simp [Act.put]
     clear hHeld
     refine wpAnyT_one (i:=14) zK rfl (fun K hK=>?_)
     go_simp
     refine hK.out _ _ (fun h=>absurd rfl h) ?_
     clear hK K x3 f3
     try simp [Act.put]
     refine wpAnyT_done zK ?_ _
     rw [HQ'.out]
     clear HQ' HPn Q' H5 HSS HRG HQ
     generalize World.setCell _ _ _=w6 at HW ⊢
     obtain⟨S2,eS,hl2,hz2,p,no,hch,hno⟩:=HW.out.1
     have HX6:Hid (w6.heap[N]? = (zC S2.vals 27)):=by show _=_; rw [← eS]; exact HW.out.2.2
     have HB6:Hid (yD w w6):=below2 HTB.out.b HW.out.2.1
     have c5:=tyCheck_any S2 w6 hl2 hz2 (HTB.out.t.on HB6.out) (HTB.out.t2.on HB6.out) (HTB.out.t3.on HB6.out)
     have HCH:Hid (chkE S2=some (p,no)∧(no=150∨no=121)):=⟨hch,hno⟩
     clear hl2 hz2 hch hno eS
     go_wp2_with (refine wpList_load_row rfl 27 (.tmp 10) rfl N rfl 27 S2.vals (0,0) _ HX6.out Tryz.underlying27 rfl size27s ?_)
     refine c5.mono ?_
     rintro e w7 (⟨hc,rfl,hb⟩ | ⟨p',no',TT,vv,hc,rfl,he,hb⟩)
     ·rw [HCH.out.1] at hc; cases hc
     ·have HB7:Hid (yD w w7):=below2 HB6.out hb
      have hno:no'=150∨no'=121:=by
       have h:=HCH.out
       rw [h.1] at hc
       simp only [Option.some.injEq,Prod.mk.injEq] at hc
       obtain⟨rfl,rfl⟩:=hc
       exact h.2
      have c6:=pwrong_any he (HTB.out.t3.on HB7.out)
      clear c5 he hb hc HCH HX6
      go_wp2_with fail
      refine c6.mono ?_
      rintro e w8 ⟨rfl,hb⟩
      have HB8:Hid (yD w w8):=below2 HB7.out hb
      clear c6 hb
      rcases hno with rfl | rfl
      ·go_wp2_with fail
       go_ret
       exact⟨rfl,HB8.out⟩
      ·go_wp2_with fail
       go_ret
       exact⟨rfl,HB8.out⟩
    ·have p0:0 < S.ts.length:=by have:=cnt_zero (fine_iff.1 (chk_none HTB.out.c).1).tc; omega
     obtain⟨i,hmod,hi⟩:=tmod_lt (x:=x) (n:=S.ts.length) (by omega) (by omega)
     have hne:¬ ((S.ts.length:Int)=0):=by omega
     have hi':(i:Int) < (S.ts.length:Int):=by omega
     have hnil:¬ S.ts = []:=List.ne_nil_of_length_pos (by omega)
     obtain⟨b,o,ea,hat⟩:=HTB.out.l.2.2.2.2.1.2.2 i (by rw [List.length_map]; exact hi)
     simp only [List.getElem_map] at hat
     have HMEM:Hid (S.ts[i] ∈ S.ts):=List.getElem_mem hi
     obtain⟨r,er⟩:∃ r,S.ts[i]=r:=⟨_,rfl⟩
     rw [er] at hat HMEM
     have HRG:Hid (w3.rangeAt b (o+i * 3) r.vals.toList):=fun j v hv=>by
      have hj:j < 3:=(List.getElem?_eq_some_iff.1 hv).1
      rw [hat j hj,← hv]; simp
     have HQ:Hid (S.vals[3]? = some (.slice (some b¢o) S.ts.length S.tc)):=by show _=_; rw [← ea]; rfl
     clear hat er ea
     have HSS:Hid (∀ u,Tb w S R T v1 v2 v3 h1 h2 N w3 w4 u→(u.heap[w§]? = (zC S.vals 27)∧u.heap[N]? = (zC #[.string S.x,v1,v2,v3] 27)∧u.rangeAt b (o+i * 3) r.vals.toList)):=fun u h=>⟨h.s,h.x,rng_on HRG.out (below2 h.b4 h.k)⟩
     have HTD:Hid (Tb w S R T v1 v2 v3 h1 h2 N w3 w4 u.drew):=HTB.out.drew
     rcases hW with ⟨y0,r0⟩ | ⟨y0,y1,r0⟩ | ⟨y0,y1⟩
     all_goals
      go_upto_region 14 with fail
      clear q1 q2 q3
      refine (?_:∀ Q',Hid (Q'=_)→Code.wp _ _ Q' _ _) _ rfl
      intro Q' HQ'
      have HPn:Hid (∀ p (d:Nat) v a w,Q' (.panic p) (Act.put a (some d) v) w→Q' (.panic p) a w):=by rw [HQ'.out]; exact fun _ _ _ _ _ h=>h
      refine wp_region_T (t:=14) (S:=fun u=>u.heap[w§]? = (zC S.vals 27)∧u.heap[N]? = (zC #[.string S.x,v1,v2,v3] 27)∧u.rangeAt b (o+i * 3) r.vals.toList) zK (HSS.out _ HTD.out) (fun hHeld=>?_)
      refine wpAnyT_take (i:=0) (v:=?_) rfl zK zK zK zK (fun c a w h=>HPn.out c _ _ a w h) (Or.inl ⟨by rfl,?_⟩) (by assumption) ?_
      rotate_left
      ·(intro v hv; go_simp; try (with_reducible rfl))
      try simp [Act.put]
      refine wpAnyT_take (i:=1) (v:=?_) rfl zK zK zK zK (fun c a w h=>HPn.out c _ _ a w h) (Or.inl ⟨by rfl,?_⟩) (by assumption) ?_
      rotate_left
      ·(intro v hv; have t3:v.cell? N¢3=some v3:=cell_of hv.2.1 3; clear hv; go_simp; try (with_reducible rfl))
      try simp [Act.put]
      refine wpAnyT_take (i:=2) (v:=?_) rfl zK zK zK zK (fun c a w h=>HPn.out c _ _ a w h) (Or.inl ⟨by rfl,?_⟩) (by assumption) ?_
      rotate_left
      ·(intro v hv; go_simp; try (with_reducible rfl))
      try simp [Act.put]
      refine wpAnyT_take (i:=3) (v:=?_) rfl zK zK zK zK (fun c a w h=>HPn.out c _ _ a w h) (Or.inl ⟨by rfl,?_⟩) (by assumption) ?_
      rotate_left
      ·(intro v hv; have t3:v.cell? w§¢3=some (.slice (some b¢o) S.ts.length S.tc):=(cell_of hv.1 3).trans HQ.out; clear hv; go_simp; try (with_reducible rfl))
      try simp [Act.put]
      refine wpAnyT_take (i:=4) (v:=?_) rfl zK zK zK zK (fun c a w h=>HPn.out c _ _ a w h) (Or.inl ⟨by rfl,?_⟩) (by assumption) ?_
      rotate_left
      ·(intro v hv; go_simp; try (with_reducible rfl))
      try simp [Act.put]
      refine wpAnyT_take (i:=5) (v:=?_) rfl zK zK zK zK (fun c a w h=>HPn.out c _ _ a w h) (Or.inl ⟨by rfl,?_⟩) (by assumption) ?_
      rotate_left
      ·(intro v hv; go_simp; try (with_reducible rfl))
      try simp [Act.put]
      refine wpAnyT_take (i:=6) (v:=?_) rfl zK zK zK zK (fun c a w h=>HPn.out c _ _ a w h) (Or.inl ⟨by rfl,?_⟩) (by assumption) ?_
      rotate_left
      ·(intro v hv; have t3:v.cell? w§¢3=some (.slice (some b¢o) S.ts.length S.tc):=(cell_of hv.1 3).trans HQ.out; clear hv; go_simp; try (with_reducible rfl))
      try simp [Act.put]
      refine wpAnyT_take (i:=7) (v:=?_) rfl zK zK zK zK (fun c a w h=>HPn.out c _ _ a w h) (Or.inl ⟨by rfl,?_⟩) (by assumption) ?_
      rotate_left
      ·(intro v hv; go_simp; try (with_reducible rfl))
      try simp [Act.put]
      refine wpAnyT_take (i:=8) (v:=?_) rfl zK zK zK zK (fun c a w h=>HPn.out c _ _ a w h) (Or.inl ⟨by rfl,?_⟩) (by assumption) ?_
      rotate_left
      ·(intro v hv; go_simp; try (with_reducible rfl))
      try simp [Act.put]
      refine wpAnyT_take (i:=9) (v:=?_) rfl zK zK zK zK (fun c a w h=>HPn.out c _ _ a w h) (Or.inl ⟨by rfl,?_⟩) (by assumption) ?_
      rotate_left
      ·(intro v hv; go_simp; try (with_reducible rfl))
      try simp [Act.put]
      refine wpAnyT_take (i:=10) (v:=?_) rfl zK zK zK zK (fun c a w h=>HPn.out c _ _ a w h) (Or.inl ⟨by rfl,?_⟩) (by assumption) ?_
      rotate_left
      ·(intro v hv; have z0:v.cell? ⟨b,o+i * 3,none⟩=some (.string r.x):=hv.2.2 0 _ rfl; have z1:v.cell? ⟨b,o+i * 3+1,none⟩=some (.slice r.a r.rs.length r.c):=hv.2.2 1 _ rfl; have z2:v.cell? ⟨b,o+i * 3+2,none⟩=some (zI r.p):=hv.2.2 2 _ rfl; clear hv; go_simp; try (with_reducible rfl))
      try simp [Act.put]
      refine wpAnyT_one (i:=11) zK rfl (fun K hK=>?_)
      go_simp
      refine hK.out _ _ (fun _=>HSS.out _ (HTD.out.on (below_new _ _))) ?_
      clear hK K
      try simp [Act.put]
      refine wpAnyT_one (i:=12) zK rfl (fun K hK=>?_)
      have HRR:Hid (RA w3 u.drew 68 3 v3 (T.map StateM.vals)):=HTD.out.ra3.1
      have HLn:Hid ((T.map StateM.vals).length≤1000000000):=by have h1:=cnt_zero (fine_iff.1 (chk_none HTB.out.c).1).tc; have h2:=congrArg List.length HTB.out.f.tb; rw [List.length_map,List.length_map] at h2; show _≤_; rw [List.length_map]; omega
      refine step_arr rfl (.tmp 87) (.tmp 97) 25 68 3 48 _ rfl Tryz.underlying25 infSt rfl (by decide) (by decide) (by decide) r.vals rfl (one3 _) HRR.out rfl rfl HLn.out ?_
      intro v' w5 hr2 hs2 hq2 hz2
      obtain⟨ao,n',c',rfl⟩:=hr2.sl3
      obtain⟨g1,g2,g3⟩:=HTD.out.put (j:=3) HTD.out.ra3.2 hr2 hs2 hq2 hz2 (.slice ao n' c')
      have HW:Hid (TwL (w5.setCell N¢3 (.slice ao n' c')) #[.string S.x,v1,v2,.slice ao n' c']∧yD w3 (w5.setCell N¢3 (.slice ao n' c'))∧(w5.setCell N¢3 (.slice ao n' c')).heap[N]? = (zC #[.string S.x,v1,v2,.slice ao n' c'] 27)):=⟨add_state HTD.out.f HTD.out.l HTD.out.z HTD.out.c HMEM.out g1 g2,g1.B,heap_set _ g3⟩
      have H5:Hid ((w5.heap[w§]? = (zC S.vals 27)∧w5.heap[N]? = (zC #[.string S.x,v1,v2,v3] 27)∧w5.rangeAt b (o+i * 3) r.vals.toList)):=by
       have hs:=HTD.out.s
       refine⟨(hq2 _ (zJ hs).1 (fun e=>by have h1:=(HTD.out.ra3.1).nb _ e; have h2:=HTD.out.b.size; have h3:=(zJ H3N.out).1; omega)).trans hs,g3,rng_on HRG.out hr2.B⟩
      have x3:w5.cell? N¢3=some v3:=cell_of g3 3
      have f3:w5.frozen? N¢3=false:=frozen_of g3 3
      clear g1 g2 g3 hr2 hs2 hq2 hz2
      refine hK.out _ _ (fun _=>H5.out) ?_
      clear hK K hHeld
      have hHeld:=H5.out
      try simp [Act.put]
      refine wpAnyT_take (i:=13) (v:=?_) rfl zK zK zK zK (fun c a w h=>HPn.out c _ _ a w h) (Or.inl ⟨by rfl,?_⟩) (by assumption) ?_
      rotate_left
      ·(intro v hv; go_simp; try (with_reducible rfl))
      try simp [Act.put]
      clear hHeld
      refine wpAnyT_one (i:=14) zK rfl (fun K hK=>?_)
      go_simp
      refine hK.out _ _ (fun h=>absurd rfl h) ?_
      clear hK K x3 f3
      try simp [Act.put]
      refine wpAnyT_done zK ?_ _
      rw [HQ'.out]
      clear HQ' HPn Q' H5 HSS HRG HQ
      generalize World.setCell _ _ _=w6 at HW ⊢
      obtain⟨S2,eS,hl2,hz2,p,no,hch,hno⟩:=HW.out.1
      have HX6:Hid (w6.heap[N]? = (zC S2.vals 27)):=by show _=_; rw [← eS]; exact HW.out.2.2
      have HB6:Hid (yD w w6):=below2 HTB.out.b HW.out.2.1
      have c5:=tyCheck_any S2 w6 hl2 hz2 (HTB.out.t.on HB6.out) (HTB.out.t2.on HB6.out) (HTB.out.t3.on HB6.out)
      have HCH:Hid (chkE S2=some (p,no)∧(no=150∨no=121)):=⟨hch,hno⟩
      clear hl2 hz2 hch hno eS
      go_wp2_with (refine wpList_load_row rfl 27 (.tmp 10) rfl N rfl 27 S2.vals (0,0) _ HX6.out Tryz.underlying27 rfl size27s ?_)
      refine c5.mono ?_
      rintro e w7 (⟨hc,rfl,hb⟩ | ⟨p',no',TT,vv,hc,rfl,he,hb⟩)
      ·rw [HCH.out.1] at hc; cases hc
      ·have HB7:Hid (yD w w7):=below2 HB6.out hb
       have hno:no'=150∨no'=121:=by
        have h:=HCH.out
        rw [h.1] at hc
        simp only [Option.some.injEq,Prod.mk.injEq] at hc
        obtain⟨rfl,rfl⟩:=hc
        exact h.2
       have c6:=pwrong_any he (HTB.out.t3.on HB7.out)
       clear c5 he hb hc HCH HX6
       go_wp2_with fail
       refine c6.mono ?_
       rintro e w8 ⟨rfl,hb⟩
       have HB8:Hid (yD w w8):=below2 HB7.out hb
       clear c6 hb
       rcases hno with rfl | rfl
       ·go_wp2_with fail
        go_ret
        exact⟨rfl,HB8.out⟩
       ·go_wp2_with fail
        go_ret
        exact⟨rfl,HB8.out⟩
   ·have HB3:Hid (yD w w3):=below2 HB2.out hb
    clear c3 hb he hc HN2 HB2
    go_wp2_with fail
    go_ret
    exact⟨rfl,HB3.out⟩
end Go.Proofs.YtoogodlnnijikaaGreatDoor
