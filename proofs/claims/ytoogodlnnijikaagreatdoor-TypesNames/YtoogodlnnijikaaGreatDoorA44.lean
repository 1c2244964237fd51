import Derived.Test.YtoogodlnnijikaaGreatDoorA0
import Derived.Test.YtoogodlnnijikaaGreatDoorA43
import Derived.Test.YtoogodlnnijikaaGreatDoorA42
namespace Go.Proofs.YtoogodlnnijikaaGreatDoor
set_option maxHeartbeats 16000000
set_option maxRecDepth 100000
open Go.RowKit
set_option linter.unusedVariables false
set_option linter.unusedSimpArgs false
abbrev Z4n:Array Value:=ze
theorem cpf_allN {w:yW}{S:Qm}{R:List RegM}{T:List Qj}{v1 v2 v3:Value}{h1 h2:Nat}{W:yW}(f:CpF w S R T v1 v2 v3 h1 h2 W):(#[.string S.x,v1,v2,v3]:Array Value).all (·.oneCell')=true:=by
 obtain⟨a1,c1,e1,-⟩:=f.p.r.form
 obtain⟨a2,c2,e2,-⟩:=f.p.s.form
 obtain⟨a3,c3,e3,-⟩:=f.t.form
 rw [e1,e2,e3]
 simp [Value.oneCell']
theorem sizes_tr:∀ ks:List Nd,(∀ k ∈ ks,size (trB k)=size k)→Jx (ks.map trB)=Jx ks
 | [],_=>rfl
 | k :: ks,h=>by simp only [List.map_cons,Jx]; rw [h k (by simp),sizes_tr ks fun x hx=>h x (by simp [hx])]
theorem size_trB:∀ m,size (trB m)=size m:=by
 refine Nd.ind fun h a c ks ih=>?_
 rw [KP]
 simp only [size]
 rw [sizes_tr ks ih]
theorem names15 (S:Qm) (m:Nd) (w:yW) (hl:QD w S) (hm:Lies w m) (ht:Tab w) (hf:FTab w) (hg:Ety w) :
  Calls zG 6 #[.agg S.vals,.agg m.vals] w fun e w'=>e=.returned (.bool true)∧yD w w':=by
 have HH:Hid (QD w S∧Lies w m∧Tab w∧FTab w∧Ety w):=⟨hl,hm,ht,hf,hg⟩
 have e2:=Ql w (.cells S.vals 27) (.cells m.vals 48)
 have n1:((w.alloc (.cells S.vals 27)).alloc (.cells m.vals 48)).heap[w§]? = (zC S.vals 27):=QI (Qd _ _) (by rw [Qf]; omega)
 have n2:((w.alloc (.cells S.vals 27)).alloc (.cells m.vals 48)).heap[w§+1]? = (zC m.vals 48):=by rw [← Qf w (.cells S.vals 27)]; exact Qd _ _
 obtain⟨V,eV⟩:∃ V,(w.alloc (.cells S.vals 27)).alloc (.cells m.vals 48)=V:=⟨_,rfl⟩
 rw [eV] at e2 n1 n2
 have HV:Hid ((w.alloc (.cells S.vals 27)).alloc (.cells m.vals 48)=V):=eV
 have HB0:Hid (yD w V):=e2
 have HN0:Hid (V.heap[w§]? = (zC S.vals 27)):=n1
 have HM0:Hid (V.heap[w§+1]? = (zC m.vals 48)):=n2
 have c1:=awake_any V (ht.on e2) (hf.on e2) (hg.on e2)
 clear hl hm ht hf hg e2 n1 n2 eV
 go_enter Tryz.func6,Tryz.ntmps6
 go_upto_region 1 with fail
 rw [HV.out]
 go_wp2_with fail
 refine c1.mono ?_
 rintro e w1 ⟨rfl,hb⟩
 have HB1:Hid (yD w w1):=Qe HB0.out hb
 have HN1:Hid (w1.heap[w§]? = (zC S.vals 27)):=(hb.block _ (zJ HN0.out).1).trans HN0.out
 have HM1:Hid (w1.heap[w§+1]? = (zC m.vals 48)):=(hb.block _ (zJ HM0.out).1).trans HM0.out
 have c2:=far_any S m w1 (HH.out.1.on HB1.out) (HH.out.2.1.on HB1.out)
 clear c1 hb HN0 HM0 HB0 HV
 go_wp2_with (first | (refine wpList_load_row rfl 27 (.tmp 2) rfl w§ rfl 27 S.vals (0,0) _ HN1.out Tryz.underlying27 rfl Kd ?_) | (refine wpList_load_row rfl 48 (.tmp 3) rfl (w§+1) rfl 48 m.vals (0,0) _ HM1.out Tryz.underlying48 rfl sizeN ?_))
 refine c2.mono ?_
 rintro e w3 ⟨⟨f,rfl,hf⟩,hb⟩
 have HB3:Hid (yD w w3):=Qe HB1.out hb
 have HN3:Hid (w3.heap[w§]? = (zC S.vals 27)):=(hb.block _ (zJ HN1.out).1).trans HN1.out
 have HM3:Hid (w3.heap[w§+1]? = (zC m.vals 48)):=(hb.block _ (zJ HM1.out).1).trans HM1.out
 clear c2 hb HN1 HM1 HB1
 cases f with
 | true =>
  clear hf
  go_wp2_with fail
  go_ret
  exact⟨rfl,HB3.out⟩
 | false =>
  have HY:Hid (StratZ9 S∧size m≤1048576):=⟨x9_of (hf rfl).1,(hf rfl).2⟩
  clear hf
  have c4:=copyStrat_any S w3 (HH.out.1.on HB3.out) HY.out.1
  go_upto_region 5 with fail
  go_wp2_with (refine wpList_load_row rfl 27 (.tmp 2) rfl w§ rfl 27 S.vals (0,0) _ HN3.out Tryz.underlying27 rfl Kd ?_)
  refine c4.mono ?_
  rintro e w4 ⟨R,T,v1,v2,v3,rfl,⟨h1,h2,hF⟩,hb⟩
  have HZ:Hid ((w4.alloc (.cells Z4n 27)).heap[w4§]? = (zC Z4n 27)):=Qd _ _
  have HA:Hid ((#[.string S.x,v1,v2,v3]:Array Value).all (·.oneCell')=true):=cpf_allN hF
  have HTB:Hid (Nq w S m R T v1 v2 v3 h1 h2 w4§ w3 w4 0 ((w4.alloc (.cells Z4n 27)).setRow w4§ #[.string S.x,v1,v2,v3])):=by
   have hk:yD w4 ((w4.alloc (.cells Z4n 27)).setRow w4§ #[.string S.x,v1,v2,v3]):=Qo (Qc _ _) (Nat.le_refl _) _
   have h4:=(hb.block _ (zJ HN3.out).1).trans HN3.out
   have h5:=(hb.block _ (zJ HM3.out).1).trans HM3.out
   refine⟨HB3.out,hF,hb,Qe hb hk,Nat.le_refl _,by have:=(zJ HM3.out).1; omega,fun b h9 _=>hk.block b h9,?_,(hk.block _ (zJ h4).1).trans h4,(hk.block _ (zJ h5).1).trans h5,setRow_heap _ _ _ _ _ _ HZ.out⟩
   rw [zL_zero]
   exact hF.p.r.of_block (fun q hq=>hk.block q (hF.p.r.lt q hq))
  clear c4 hF hb
  go_upto_region 6 with (refine wpList_store_row rfl 27 (.tmp 7) (.tmp 31) rfl w4§ #[.string S.x,v1,v2,v3] rfl rfl 27 Z4n HZ.out Kd rfl HA.out ?_)
  have HTB':=HTB.out
  unfold Z4n at HTB'
  clear HTB HZ HA HN3 HM3
  generalize World.setRow _ _ _=u at HTB' ⊢
  have HTB0:Hid (Nq w S m R T v1 v2 v3 h1 h2 w4§ w3 w4 0 u):=HTB'
  clear HTB'
  obtain⟨N,eN⟩:∃ N,w4§=N:=⟨_,rfl⟩
  rw [eN] at HTB0 ⊢
  clear eN
  obtain⟨ao,cap,e1,hfo,-⟩:=HTB0.out.r.form
  subst e1
  have HFO:Hid (0 < R.length→∃ g,ao=some g¢0):=hfo
  have HLn:Hid (R.length≤900000000):=by have h1:=HTB0.out.len; have h2:=HY.out.1.1; show _≤_; omega
  clear hfo
  go_wp2_with fail
  go_loopw [8] (fun t wr=>∃ (i:Nat),i≤R.length∧t=zI i∧Hid (Nq w S m R T (.slice ao R.length cap) v2 v3 h1 h2 N w3 w4 i wr)) (fun t _=>R.length - (intOf t).toNat)
  case atStart=>exact⟨0,by omega,rfl,HTB0.out⟩
  case round =>
   obtain⟨i,hi,rfl,HT⟩:=hrel
   have x1:wr.cell? N¢1=some (.slice ao R.length cap):=Qa HT.out.x 1
   by_cases hlt:i < R.length
   ·have hlt':(i:Int) < (R.length:Int):=by omega
    have hmx:(i:Int)+1≤9223372036854775807:=by have:=HLn.out; omega
    obtain⟨g,eg⟩:=HFO.out (by omega)
    obtain⟨o,eo⟩:∃ o,(0:Nat)=o:=⟨_,rfl⟩
    have HT2:Hid (Nq w S m R T (.slice (some g¢0) R.length cap) v2 v3 h1 h2 N w3 w4 i wr):=by rw [← eg]; exact HT.out
    have HBK:Hid (∀ z,Nq w S m R T (.slice (some g¢0) R.length cap) v2 v3 h1 h2 N w3 w4 (i+1) z→Nq w S m R T (.slice ao R.length cap) v2 v3 h1 h2 N w3 w4 (i+1) z):=fun z hz=>by rw [eg]; exact hz
    have HSK:Hid (¬ R[i].x.size < 15→Nq w S m R T (.slice ao R.length cap) v2 v3 h1 h2 N w3 w4 (i+1) wr):=fun hx=>HT.out.skip hlt hx
    have y0:wr.cell? ⟨g,o+i * 11,none⟩=some (.string R[i].x):=by
     rw [← eo,Nat.zero_add]
     have:=Row.cell HT2.out.r (j:=i * 11) (by omega)
     rw [this,arF_z0 hlt]
    have HST:Hid (R[i].x.size < 15→Nq w S m R T (.slice (some g¢0) R.length cap) v2 v3 h1 h2 N w3 w4 (i+1) (wr.setCell ⟨g,o+i * 11,none⟩ (.string (Zn ++ R[i].x))).drew):=fun hx=>by
     rw [← eo,Nat.zero_add]; exact HT2.out.drew.set hlt hx
    have HF3:Hid (wr.drew.frozen? ⟨g,o+i * 11,none⟩=false):=by
     show _=_
     rw [← eo,Nat.zero_add]; exact Row.frozen HT2.out.drew.r (i * 11)
    obtain⟨r,er⟩:∃ r,R[i].x=r:=⟨_,rfl⟩
    have x1':wr.cell? N¢1=some (.slice (some g¢o) R.length cap):=by rw [x1,eg,← eo]
    rw [er] at y0 HST HSK
    clear x1 er eo eg
    by_cases hx:r.size < 15
    ·have hx1:(r.size:Int) < 15:=by omega
     have HW:Hid (Nq w S m R T (.slice ao R.length cap) v2 v3 h1 h2 N w3 w4 (i+1) (wr.setCell ⟨g,o+i * 11,none⟩ (.string (Zn ++ r))).drew):=HBK.out _ (HST.out hx)
     clear HBK HST HSK hx HT HT2
     go_upto_region 10 with fail
     have HSS:Hid ((wr.drew).cell? N¢1=some (.slice (some g¢o) R.length cap)∧(wr.drew).cell? ⟨g,o+i * 11,none⟩=some (.string r)):=⟨x1',y0⟩
     refine (?_:∀ Q',Hid (Q'=_)→Code.wp _ _ Q' _ _) _ rfl
     intro Q' HQ'
     have HPn:Hid (∀ p (d:Nat) v a w,Q' (.panic p) (Act.put a (some d) v) w→Q' (.panic p) a w):=by rw [HQ'.out]; exact fun _ _ _ _ _ h=>h
     refine wp_region_T (t:=12) (S:=fun u=>u.cell? N¢1=some (.slice (some g¢o) R.length cap)∧u.cell? ⟨g,o+i * 11,none⟩=some (.string r)) zK HSS.out (fun hHeld=>?_)
     refine Qz (i:=0) (v:=?_) rfl zK zK zK zK (fun c a w h=>HPn.out c _ _ a w h) (Or.inl ⟨by rfl,?_⟩) (by assumption) ?_
     rotate_left
     ·(intro v hv; go_simp; try (with_reducible rfl))
     try simp [Act.put]
     refine Qz (i:=1) (v:=?_) rfl zK zK zK zK (fun c a w h=>HPn.out c _ _ a w h) (Or.inl ⟨by rfl,?_⟩) (by assumption) ?_
     rotate_left
     ·(intro v hv; obtain⟨t1,t2⟩:=hv; go_simp; try (with_reducible rfl))
     try simp [Act.put]
     refine Qz (i:=2) (v:=?_) rfl zK zK zK zK (fun c a w h=>HPn.out c _ _ a w h) (Or.inl ⟨by rfl,?_⟩) (by assumption) ?_
     rotate_left
     ·(intro v hv; go_simp; try (with_reducible rfl))
     try simp [Act.put]
     refine Qz (i:=3) (v:=?_) rfl zK zK zK zK (fun c a w h=>HPn.out c _ _ a w h) (Or.inl ⟨by rfl,?_⟩) (by assumption) ?_
     rotate_left
     ·(intro v hv; go_simp; try (with_reducible rfl))
     try simp [Act.put]
     refine Qz (i:=4) (v:=?_) rfl zK zK zK zK (fun c a w h=>HPn.out c _ _ a w h) (Or.inl ⟨by rfl,?_⟩) (by assumption) ?_
     rotate_left
     ·(intro v hv; obtain⟨t1,t2⟩:=hv; go_simp; try (with_reducible rfl))
     try simp [Act.put]
     refine Qz (i:=5) (v:=?_) rfl zK zK zK zK (fun c a w h=>HPn.out c _ _ a w h) (Or.inl ⟨by rfl,?_⟩) (by assumption) ?_
     rotate_left
     ·(intro v hv; go_simp; try (with_reducible rfl))
     try simp [Act.put]
     refine Qz (i:=6) (v:=?_) rfl zK zK zK zK (fun c a w h=>HPn.out c _ _ a w h) (Or.inl ⟨by rfl,?_⟩) (by assumption) ?_
     rotate_left
     ·(intro v hv; go_simp; try (with_reducible rfl))
     try simp [Act.put]
     refine Qz (i:=7) (v:=?_) rfl zK zK zK zK (fun c a w h=>HPn.out c _ _ a w h) (Or.inl ⟨by rfl,?_⟩) (by assumption) ?_
     rotate_left
     ·(intro v hv; go_simp; try (with_reducible rfl))
     try simp [Act.put]
     refine Qz (i:=8) (v:=?_) rfl zK zK zK zK (fun c a w h=>HPn.out c _ _ a w h) (Or.inl ⟨by rfl,?_⟩) (by assumption) ?_
     rotate_left
     ·(intro v hv; obtain⟨t1,t2⟩:=hv; go_simp; try (with_reducible rfl))
     try simp [Act.put]
     refine Qz (i:=9) (v:=?_) rfl zK zK zK zK (fun c a w h=>HPn.out c _ _ a w h) (Or.inl ⟨by rfl,?_⟩) (by assumption) ?_
     rotate_left
     ·(intro v hv; go_simp; rw [if_neg (by omega)])
     try simp [Act.put]
     refine JJ (i:=10) zK rfl (fun K hK=>?_)
     go_simp
     refine hK.out _ _ (fun _=>HSS.out) ?_
     clear hK K
     try simp [Act.put]
     refine Qz (i:=11) (v:=?_) rfl zK zK zK zK (fun c a w h=>HPn.out c _ _ a w h) (Or.inl ⟨by rfl,?_⟩) (by assumption) ?_
     rotate_left
     ·(intro v hv; go_simp; try (with_reducible rfl))
     try simp [Act.put]
     have x3:wr.drew.cell? ⟨g,o+i * 11,none⟩=some (.string r):=HSS.out.2
     have f3:=HF3.out
     clear hHeld
     refine JJ (i:=12) zK rfl (fun K hK=>?_)
     go_simp
     refine hK.out _ _ (fun h=>absurd rfl h) ?_
     clear hK K x3 f3
     try simp [Act.put]
     refine wpAnyT_done zK ?_ _
     rw [HQ'.out]
     clear HQ' HPn Q' HSS HF3
     generalize World.drew _=w6 at HW ⊢
     go_wp2_with fail
     exact⟨⟨i+1,hlt,rfl,HW.out⟩,by simp only [intOf]; omega⟩
    ·have hx1:¬ (r.size:Int) < 15:=by omega
     have HW:=HSK.out hx
     have HW2:Hid (Nq w S m R T (.slice ao R.length cap) v2 v3 h1 h2 N w3 w4 (i+1) wr):=HW
     clear HW HBK HST HSK hx HT HT2
     go_wp2_with fail
     exact⟨⟨i+1,hlt,rfl,HW2.out⟩,by simp only [intOf]; omega⟩
   ·obtain rfl:i=R.length:=by omega
    have hnot:¬ (R.length:Int) < (R.length:Int):=by omega
    go_wp2_with fail
    clear x1 hnot hlt hi
    go_loopw [9] (fun t wr=>∃ (j:Nat),j≤S.rs.length∧t=zI j∧Hid (Nq w S m R T (.slice ao R.length cap) v2 v3 h1 h2 N w3 w4 R.length wr)∧Hid (∀ r ∈ S.rs.take j,r.x.size < 15)) (fun t _=>S.rs.length - (intOf t).toNat)
    case atStart=>exact⟨0,by omega,rfl,HT.out,fun r hr=>by simp at hr⟩
    case round =>
     obtain⟨j,hj,rfl,HU,HX⟩:=hrel
     clear HT HTB0
     have x1:wr.cell? w§¢1=some (.slice S.ra S.rs.length S.rc):=Qa HU.out.s 1
     by_cases hlt:j < S.rs.length
     ·have hlt':(j:Int) < (S.rs.length:Int):=by omega
      have hmx:(j:Int)+1≤9223372036854775807:=by have h1:=HY.out.1.1; omega
      obtain⟨b,o,ea,hat⟩:=(HH.out.1.on HU.out.wu).1.2.2 j (by rw [List.length_map]; exact hlt)
      simp only [List.getElem_map] at hat
      have y0:wr.cell? ⟨b,o+j * 11,none⟩=some (.string S.rs[j].x):=hat 0 (by omega)
      have HSN:Hid (S.rs[j].x.size < 15→∀ r ∈ S.rs.take (j+1),r.x.size < 15):=fun h=>Kp hlt HX.out h
      obtain⟨r,er⟩:∃ r,S.rs[j].x=r:=⟨_,rfl⟩
      rw [er] at y0 HSN
      rw [ea] at x1
      clear er ea hat
      by_cases hx:r.size < 15
      ·have hx1:¬ (15:Int)≤(r.size:Int):=by omega
       have HX2:Hid (∀ r ∈ S.rs.take (j+1),r.x.size < 15):=HSN.out hx
       clear HSN hx
       go_wp2_with fail
       exact⟨⟨j+1,hlt,rfl,HU.out,HX2.out⟩,by simp only [intOf]; omega⟩
      ·have hx1:(15:Int)≤(r.size:Int):=by omega
       clear hx
       go_wp2_with fail
       go_ret
       exact⟨rfl,HU.out.wu⟩
     ·obtain rfl:j=S.rs.length:=by omega
      have hnot:¬ (S.rs.length:Int) < (S.rs.length:Int):=by omega
      have HXA:Hid (∀ r ∈ S.rs,r.x.size < 15):=by have h:=HX.out; rw [List.take_length] at h; exact h
      have HMr:Hid (wr.heap[w§+1]? = (zC m.vals 48)):=HU.out.m
      have c5:=turned_any m wr (HH.out.2.1.on HU.out.wu) (Nat.le_trans HY.out.2 (by decide))
      go_upto_region 16 with fail
      clear x1 hnot hlt hj HX
      go_wp2_with (refine wpList_load_row rfl 48 (.tmp 3) rfl (w§+1) rfl 48 m.vals (0,0) _ HMr.out Tryz.underlying48 rfl sizeN ?_)
      refine c5.mono ?_
      rintro e w5 ⟨m2,rfl,hl5,hb5,hk5,hw5⟩
      have hw6:=Qc w5 (.cells (zV m2) 48)
      have hn6:=Qd w5 (.cells (zV m2) 48)
      obtain⟨w6,e6⟩:∃ W,w5.alloc (.cells (zV m2) 48)=W:=⟨_,rfl⟩
      have E6:Hid (w5.alloc (.cells (zV m2) 48)=w6):=e6
      rw [e6] at hw6 hn6
      have HU6:Hid (Nq w S m R T (.slice ao R.length cap) v2 v3 h1 h2 N w3 w4 R.length w6):=(HU.out.on hw5).on hw6
      have HN6:Hid (w6.heap[w5§]? = (zC m2.vals 48)):=hn6
      have HL6:Hid (Lies w6 m2∧bare m2=trB m):=⟨hl5.on hw6,hb5⟩
      have HMs:Hid (w6.heap[w§+1]? = (zC m.vals 48)):=HU6.out.m
      have HSs:Hid (w6.heap[w§]? = (zC S.vals 27)):=HU6.out.s
      have c6:=longer_any S m w6 (HH.out.2.1.on HU6.out.wu)
      clear c5 hl5 hb5 hk5 hw5 hw6 hn6 e6 HMr HU
      obtain⟨B,eB⟩:∃ B,lon m=B:=⟨_,rfl⟩
      rw [eB] at c6
      have HB:Hid (lon m=B):=eB
      clear eB
      unfold Nd.vals hdA
      go_upto_region 17 with fail
      rw [E6.out]
      clear E6
      obtain⟨N6,eN6⟩:∃ N6,w5§=N6:=⟨_,rfl⟩
      rw [eN6] at HN6 ⊢
      clear eN6
      go_wp2_with (first | (refine wpList_load_row rfl 27 (.tmp 2) rfl w§ rfl 27 S.vals (0,0) _ HSs.out Tryz.underlying27 rfl Kd ?_) | (refine wpList_load_row rfl 48 (.tmp 3) rfl (w§+1) rfl 48 m.vals (0,0) _ HMs.out Tryz.underlying48 rfl sizeN ?_))
      refine c6.mono ?_
      rintro e w7 ⟨rfl,hw7⟩
      have HU7:Hid (Nq w S m R T (.slice ao R.length cap) v2 v3 h1 h2 N w3 w4 R.length w7):=HU6.out.on hw7
      have HN7:Hid (w7.heap[N6]? = (zC m2.vals 48)):=(hw7.block _ (zJ HN6.out).1).trans HN6.out
      have HL7:Hid (Lies w7 m2∧bare m2=trB m):=⟨HL6.out.1.on hw7,HL6.out.2⟩
      clear c6 hw7 HU6 HN6 HL6 HMs HSs
      cases B with
      | true =>
       go_wp2_with fail
       go_ret
       exact⟨rfl,HU7.out.wu⟩
      | false =>
       have hb7:=HU7.out.wu
       have HMs:Hid (w7.heap[w§+1]? = (zC m.vals 48)):=HU7.out.m
       have HSs:Hid (w7.heap[w§]? = (zC S.vals 27)):=HU7.out.s
       have c7:=of_any S m w7 (HH.out.1.on hb7) (HH.out.2.1.on hb7) (Nat.le_trans HY.out.2 (by decide)) (HH.out.2.2.1.on hb7) (HH.out.2.2.2.1.on hb7)
       obtain⟨S2,eS2,hS2,hr2⟩:=HU7.out.strat (HH.out.1.on HB3.out)
       have HS2:Hid (QD w7 S2):=hS2
       have HE2:Hid (#[.string S.x,.slice ao R.length cap,v2,v3]=S2.vals):=eS2
       have HOF:Hid (ofE S2 m2=ofE S m):=of_names hr2 HU7.out.f.p.rb HXA.out HL7.out.2 HB.out
       have HZ2:Hid (size m2≤1000000000000):=by
        show _≤_
        rw [← size_b,HL7.out.2,size_trB]
        exact Nat.le_trans HY.out.2 (by decide)
       obtain⟨E,eE⟩:∃ E,ofE S m=E:=⟨_,rfl⟩
       rw [eE] at c7 HOF
       clear eE hb7 hS2 eS2 hr2
       go_upto_region 20 with fail
       go_wp2_with (first | (refine wpList_load_row rfl 27 (.tmp 2) rfl w§ rfl 27 S.vals (0,0) _ HSs.out Tryz.underlying27 rfl Kd ?_) | (refine wpList_load_row rfl 48 (.tmp 3) rfl (w§+1) rfl 48 m.vals (0,0) _ HMs.out Tryz.underlying48 rfl sizeN ?_))
       refine c7.mono ?_
       rintro e w8 hOT
       have hw8:yD w7 w8:=by rcases hOT with ⟨_,_,_,h⟩ | ⟨_,_,_,_,_,_,_,h⟩ <;> exact h
       have HU8:Hid (Nq w S m R T (.slice ao R.length cap) v2 v3 h1 h2 N w3 w4 R.length w8):=HU7.out.on hw8
       have HN8:Hid (w8.heap[N6]? = (zC m2.vals 48)):=(hw8.block _ (zJ HN7.out).1).trans HN7.out
       have HX8:Hid (w8.heap[N]? = (zC S2.vals 27)):=by show _=_; rw [← HE2.out]; exact HU8.out.x
       have hb8:=HU8.out.wu
       have c8:=of_any S2 m2 w8 (HS2.out.on hw8) (HL7.out.1.on hw8) HZ2.out (HH.out.2.2.1.on hb8) (HH.out.2.2.2.1.on hb8)
       rw [HOF.out] at c8
       clear c7 hb8 HU7 HN7 HMs HSs
       rcases hOT with ⟨tt,h1',rfl,-⟩ | ⟨p,no,b5,h1',rfl,h3',h4',-⟩
       ·subst h1'
        clear hw8
        go_wp2_with (first | (refine wpList_load_row rfl 27 (.tmp 7) rfl N rfl 27 S2.vals (0,0) _ HX8.out Tryz.underlying27 rfl Kd ?_) | (refine wpList_load_row rfl 48 (.tmp 10) rfl (N6) rfl 48 m2.vals (0,0) _ HN8.out Tryz.underlying48 rfl sizeN ?_))
        refine c8.mono ?_
        rintro e w9 (⟨t2,h2',rfl,hw9⟩ | ⟨p,no,b5,h2',rfl,h3',h4',hw9⟩)
        ·cases h2'
         have HB9:Hid (yD w w9):=Qe HU8.out.wu hw9
         have cN:=fun v=>pwrong_nil v
         clear c8 hw9
         go_wp2_with (go_at_call 10; refine (cN _).mono ?_; rintro _ v ⟨rfl,q⟩; obtain rfl:=q.symm)
         go_ret
         exact⟨rfl,HB9.out⟩
        ·cases h2'
       ·subst h1'
        have HE8:Hid (Er w8 (.iface 118 (zP b5)) no p):=h4'.er
        clear hw8 h3' h4'
        go_wp2_with (first | (refine wpList_load_row rfl 27 (.tmp 7) rfl N rfl 27 S2.vals (0,0) _ HX8.out Tryz.underlying27 rfl Kd ?_) | (refine wpList_load_row rfl 48 (.tmp 10) rfl (N6) rfl 48 m2.vals (0,0) _ HN8.out Tryz.underlying48 rfl sizeN ?_))
        refine c8.mono ?_
        rintro e w9 (⟨t2,h2',rfl,hw9⟩ | ⟨p',no',b6,h2',rfl,h3',h4',hw9⟩)
        ·cases h2'
        ·cases h2'
         have HB9:Hid (yD w w9):=Qe HU8.out.wu hw9
         have HE9:Hid (Er w9 (.iface 118 (zP b6)) no p):=h4'.er
         have c9:=KW (HE8.out.on hw9) (HH.out.2.2.2.2.on HB9.out)
         clear c8 hw9 h3' h4' HU8 HN8 HX8 HE8
         go_wp2_with fail
         refine c9.mono ?_
         rintro e w10 ⟨rfl,hb⟩
         have HB10:Hid (yD w w10):=Qe HB9.out hb
         have c10:=KW (HE9.out.on hb) (HH.out.2.2.2.2.on HB10.out)
         clear c9 hb HE9 HB9
         go_wp2_with fail
         refine c10.mono ?_
         rintro e w11 ⟨rfl,hb⟩
         have HB11:Hid (yD w w11):=Qe HB10.out hb
         clear c10 hb
         go_wp2_with fail
         go_ret
         exact⟨rfl,HB11.out⟩
end Go.Proofs.YtoogodlnnijikaaGreatDoor
