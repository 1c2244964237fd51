import Derived.Test.YtfbjofnaghjmeaaGreatDoorA14
import Derived.Deep.MidRow
namespace Go.Proofs.YtfbjofnaghjmeaaGreatDoor
open Go.Proofs.Tryz
set_option maxRecDepth 100000
set_option maxHeartbeats 4000000
open Go.RowKit
set_option linter.unusedVariables false
theorem Qo {α β:Type}{x:Option α}{f:α→Option β}{y:β}(h:x.bind f=some y):∃ a,x=some a∧f a=some y:=by
 cases x with
 | none=>cases h
 | some a=>exact⟨a,rfl,h⟩
theorem XA {L:List yB}{ts:List Tk}(h:pNo L ts=true):∃ t us,ts=t :: us∧fnd t.x L 0 = -1:=by
 cases ts with
 | nil=>cases h
 | cons t us=>exact⟨t,us,rfl,by simpa [pNo] using h⟩
theorem Ua {U:yW}{m k:Nd}{h:Hd}{G:Nat}(hr:Rg h) (hm:Lies U m) (hk:Lies U k) (hG:U.heap[G]? = (zC (m.vals ++ k.vals) 38)):Lies U (.mk h (some G¢0) 2 [m,k]):=by
 obtain⟨⟨k2,o2,ty2,n2,f2,x2,p2⟩,am2,cm2,ks2⟩:=m
 obtain⟨⟨k3,o3,ty3,n3,f3,x3,p3⟩,am3,cm3,ks3⟩:=k
 refine .mk _ _ _ _ hr (by simp) (by simp) (fun i hi=>⟨G,0,rfl,?_⟩) (fun q hq=>?_)
 ·match i,hi with
  | 0,_=>exact⟨Qa hG 0,Qa hG 1,Qa hG 2,Qa hG 3,Qa hG 4,Qa hG 5,Qa hG 6,Qa hG 7⟩
  | 1,_=>exact⟨Qa hG 8,Qa hG 9,Qa hG 10,Qa hG 11,Qa hG 12,Qa hG 13,Qa hG 14,Qa hG 15⟩
 ·rcases List.mem_cons.1 hq with e | e
  ·rw [e];exact hm
  ·rw [List.mem_singleton.1 e];exact hk
theorem Qa6 (o at':Int) (m k:Nd) (w:yW) :
  Calls zG 225 #[zU o,zI at',.agg m.vals,.agg k.vals] w fun e w'=>∃ G,e=.returned (.agg (Nd.mk ⟨6,o,0,0,0,gE,at'⟩ (some G¢0) 2 [m,k]).vals)∧yD w w'∧w§≤G∧G < w'§∧w'.heap[G]? = (zC (m.vals ++ k.vals) 38):=by
 have b1:=Qb w (.cells m.vals 38)
 have b2:=Qb (zA w m.vals 38) (.cells k.vals 38)
 have b3:=Qb ((zA w m.vals 38).alloc (.cells k.vals 38)) (.cells zd 38)
 have n1:=Qc w (.cells m.vals 38)
 have n2:=Qc (zA w m.vals 38) (.cells k.vals 38)
 have n3:=Qc ((zA w m.vals 38).alloc (.cells k.vals 38)) (.cells zd 38)
 have sz:(((zA w m.vals 38).alloc (.cells k.vals 38)).alloc (.cells zd 38))§=w§+3:=by simp only [Qe]
 have n1:=((Qd b2 b3).block _ (by rw [Qe];omega)).trans n1
 have n2:=(b3.block _ (by simp only [Qe];omega)).trans n2
 simp only [Qe] at n2 n3
 have HB:=zH (Qd (Qd b1 b2) b3)
 clear b1 b2 b3
 go_enter func225,ntmps225
 go_upto_region 1 with fail
 generalize ((zA w m.vals 38).alloc (.cells k.vals 38)).alloc _=V at HB n1 n2 n3 sz ⊢
 have H1:=zH n1
 have H2:=zH n2
 have bU:=Qb V (.cells (m.vals ++ k.vals) 38)
 have hU:=Qc V (.cells (m.vals ++ k.vals) 38)
 have hR:=(bU.block (w§+2) zY).trans n3
 have hs:=Qe V (.cells (m.vals ++ k.vals) 38)
 rw [sz] at hU hs
 have HW:Hid (yD w (zA V (m.vals ++ k.vals) 38)∧(zA V (m.vals ++ k.vals) 38).heap[w§+3]? = (zC (m.vals ++ k.vals) 38)∧(zA V (m.vals ++ k.vals) 38).heap[w§+2]? = (zC zd 38)∧(zA V (m.vals ++ k.vals) 38)§=w§+4):=⟨Qd HB.out bU,hU,hR,hs⟩
 have HZ:=zH sz
 clear n1 n2 n3 sz HB bU hU hR hs
 go_wp2_with (first | (refine wpList_load_row rfl 38 (.tmp 6) rfl w§ rfl 38 m.vals (0,0) _ H1.out underlying38 rfl Qj ?_) | (refine wpList_load_row rfl 38 (.tmp 7) rfl (w§+1) rfl 38 k.vals (0,0) _ H2.out underlying38 rfl Qj ?_) | (refine JY rfl 36 38 (.tmp 10) (.tmp 11) rfl m.vals k.vals rfl rfl 8 _ zK 72 Fk rfl rfl rfl zY zY ?_;rw [HZ.out]) | (refine wpList_store_row rfl 38 (.tmp 8) (.tmp 14) rfl (w§+2) #[zU 6,zU o,zU 0,zI 0,zU 0,yQ,.slice (some ⟨w§+3,0,none⟩) 2 2,zI at'] rfl rfl 38 _ HW.out.2.2.1 Qj rfl (by simp [Value.oneCell']) ?_))
 refine bodyPost_ret (results_cell_row rfl _ _ (w§+2) 38 #[zU 6,zU o,zU 0,zI 0,zU 0,yQ,.slice (some ⟨w§+3,0,none⟩) 2 2,zI at'] (0,0) _ rfl (setRow_heap _ _ _ _ _ _ HW.out.2.2.1) underlying38 rfl Qj) rfl ⟨w§+3,rfl,Qn HW.out.1 zY _,by omega,?_,(QV _ _ _ zY).trans HW.out.2.1⟩
 have:=HW.out.2.2.2
 unfold World.setRow
 simp only [Array.size_modify]
 omega
theorem Pl (y:yB):∀ (L:List yB) (k:Nat),-1≤fnd y L k:=by
 intro L
 induction L with
 | nil=>intro k;exact Int.le_refl _
 | cons x xs ih =>
  intro k
  rw [fnd]
  by_cases e:y=x
  ·rw [if_pos e];omega
  ·rw [if_neg e];exact ih _
theorem QeS (y:yB) (L:List yB) (k:Nat):-1≤fnd y L k∧fnd y L k < k+L.length:=⟨Pl y L k,Xn y L k⟩
theorem Qgs (y:yB):∀ (L:List yB) (k:Nat),0≤fnd y L k→y ∈ L:=by
 intro L
 induction L with
 | nil=>intro k h;exact absurd h (by simp [fnd])
 | cons x xs ih =>
  intro k h
  rw [fnd] at h
  by_cases e:y=x
  ·subst e;simp
  ·rw [if_neg e] at h
   exact List.mem_cons_of_mem _ (ih _ h)
theorem Qbz {y:yB}{L M:List yB}(h:0≤fnd y L 0) (hM:L.all (fun x=>fnd x M 0 == -1)=true):fnd y M 0 = -1:=by
 have:=List.all_eq_true.1 hM y (Qgs y L 0 h)
 simpa using this
theorem Qd7 {w:yW}{b:Nat}{K:PK}{t:Tk}{ts ts':List Tk}{r:Tr}(d:Int) (hK:KG K) (h:Lv w b K (t :: ts)) (hk:t.k=1) {v:Int}(hv:fnd t.x LT 0=v) (h0:0≤v)
  (cC:∀ w',Lv w' b K (t :: ts)→Calls zG 255 #[zP b,.agg #[zU 9,zU 0,zU (1+v),zI 0,zU 0,yQ,zO,zI t.p],zI 1,zI d] w' (OutE b K w' r ts')) :
  Calls zG 254 #[zP b,zI d] w (OutE b K w r ts'):=by
 have hf:0≤fnd t.x LT 0:=by rw [hv];exact h0
 have h6:v < 4:=by rw [← hv];exact Xn t.x LT 0
 have HV:Hid (fnd t.x LF 0 = -1∧fnd t.x LA 0 = -1∧fnd t.x LT 0=v):=⟨Qbz hf (by decide +kernel),Qbz hf (by decide +kernel),hv⟩
 have HR:=zH cC
 have HK:Hid (KG K):=hK
 have HG0:=((HX.new h 0 0).push zd 38).hid
 obtain⟨W0,eW0⟩:∃ W,w.alloc (.cells zd 38)=W:=jV
 rw [eW0] at HG0
 have cL:=XR HG0.out.S hk (J2 (l:=#[116,114,117,101]) (Xm hf (by decide +kernel))) (J2 (l:=#[102,97,108,115,101]) (Xm hf (by decide +kernel))) (J2 (l:=#[98,117,121]) (Xm hf (by decide +kernel))) (J2 (l:=#[115,101,108,108]) (Xm hf (by decide +kernel)))
 clear h hK hf hv cC
 go_enter func254,ntmps254
 go_wp2_with fail
 try rw [eW0]
 refine cL.mono ?_
 rintro e w1 ⟨rfl,hb⟩
 have HG1:=((HG0.out.on hb).push zd 38).hid
 have cN:=QM HG1.out.S
 unfold tkA at cN
 rw [hk] at cN
 clear hk
 clear cL hb HG0 eW0
 go_wp2_with fail
 refine cN.mono ?_
 rintro e w2 ⟨rfl,hb⟩
 have HG2:=((HG1.out.on hb).push #[zU 1,.string t.x,zU t.ty,zI t.n,zI t.p] 233).hid
 clear cN hb HG1
 go_upto_region 5 with fail
 generalize w2.alloc _=W2 at HG2 ⊢
 generalize w2§=Q at HG2 ⊢
 have k0:=Qa HG2.out.b0 0
 have k1:=Qa HG2.out.b0 1
 have k4:=Qa HG2.out.b0 4
 simp only [List.getElem?_toArray,List.getElem?_cons_zero,List.getElem?_cons_succ] at k0 k1 k4
 have cA:=Jy HG2.out.S HK.out LF (n:=6) rfl (by decide) (by decide +kernel)
 rw [HV.out.1] at cA
 simp only [LF,List.map] at cA
 go_upto_region 8 with fail
 clear k0 k1 k4
 go_wp2_with fail
 refine cA.mono ?_
 rintro e w3 ⟨rfl,hb⟩
 have HG3:=(HG2.out.on hb).hid
 clear cA hb HG2
 have cA:=Jy HG3.out.S HK.out LA (n:=3) rfl (by decide) (by decide +kernel)
 rw [HV.out.2.1] at cA
 simp only [LA,List.map] at cA
 go_wp2_with fail
 refine cA.mono ?_
 rintro e w4 ⟨rfl,hb⟩
 have HG4:=(HG3.out.on hb).hid
 clear cA hb HG3
 have cA:=Jy HG4.out.S HK.out LT (n:=4) rfl (by decide) (by decide +kernel)
 rw [HV.out.2.2] at cA
 simp only [LT,List.map] at cA
 go_wp2_with fail
 refine cA.mono ?_
 rintro e w5 ⟨rfl,hb⟩
 have HG5:=(HG4.out.on hb).hid
 clear cA hb HG4
 have cR:=HR.out _ HG5.out.S
 have k4:=Qa HG5.out.b0 4
 simp only [List.getElem?_toArray,List.getElem?_cons_zero,List.getElem?_cons_succ] at k4
 go_wp2_with fail
 refine cR.mono ?_
 rintro e w6 ⟨m,rfl,htr,hdp,hs,hm⟩
 have HT:Hid (Qs m=r):=htr
 have HG6:=(HG5.out.add hm hs hdp).hid
 have HF:=(HX.rowA (pre:=[_,_]) HG6.out m.vals).hid
 clear cR htr hdp hs hm HG5 k4
 go_wp2_with (refine wpList_store_row rfl 38 (.tmp 4) (.tmp 82) rfl w§ m.vals rfl rfl 38 _ HG6.out.b2 Qj rfl (all8 m) ?_)
 exact bodyPost_ret (results_cell_row rfl _ _ w§ 38 m.vals (0,0) _ rfl HF.out.b2 underlying38 rfl Qj) rfl (Kp HF.out HT.out fun U hU=>hU.2)
theorem Qhb {w:yW}{b:Nat}{K:PK}{ts ts':List Tk}{r:Tr}(d:Int) (hK:KG K) (h:Lv w b K ts) (hp:pOne ts=some (r,ts')) :
  Calls zG 254 #[zP b,zI d] w (OutE b K w r ts'):=by
 cases ts with
 | nil=>cases hp
 | cons t ts =>
  simp only [pOne] at hp
  by_cases h2:t.k=2
  ·rw [if_pos h2] at hp
   cases hp
   exact Qd3 d hK h h2
  rw [if_neg h2] at hp
  by_cases h1:t.k=1∧0≤fnd t.x LF 0
  ·rw [if_pos h1] at hp
   cases hp
   exact Qcg d hK h h1.1 rfl h1.2
  rw [if_neg h1] at hp
  by_cases h3:t.k=1∧t.x=Zl
  ·rw [if_pos h3] at hp
   cases ts with
   | nil=>cases hp
   | cons u us =>
    simp only at hp
    by_cases h4:0≤fnd u.x LH 0
    ·rw [if_pos h4] at hp
     cases hp
     exact Qd2 d hK h h3.1 (by rw [h3.2];decide +kernel) (by rw [h3.2];decide +kernel) (by rw [h3.2];decide +kernel) (by rw [h3.2];decide +kernel) (by rw [h3.2];decide +kernel) fun v hv=>has_y d hK hv h3.2 rfl h4
    ·rw [if_neg h4] at hp;cases hp
  ·rw [if_neg h3] at hp
   exact Qf5 d hK h hp
theorem one_c {w:yW}{b:Nat}{K:PK}{ex:List Tk→Option (Tr × List Tk)}{ts ts':List Tk}{r:Tr}(d:Nat) (hd:d < 24) (cE:∀ (w:yW) (ts ts':List Tk) (r:Tr),Lv w b K ts→ex ts=some (r,ts')→Calls zG 203 #[zP b,zI ((d:Int)+1)] w (OutE b K w r ts')) (hK:KG K) (h:Lv w b K ts) (hp:QdX ex ts=some (r,ts')) :
  Calls zG 254 #[zP b,zI d] w (OutE b K w r ts'):=by
 cases ts with
 | nil=>cases hp
 | cons t ts =>
  simp only [QdX] at hp
  by_cases h1:t.k=1∧0≤fnd t.x LT 0
  ·rw [if_pos h1] at hp
   cases ts with
   | nil=>cases hp
   | cons u us =>
    simp only at hp
    by_cases h2:u.x=⟨#[40]⟩
    ·rw [if_pos h2] at hp
     obtain⟨⟨a,a2⟩,ha,hp⟩:=Qo hp
     cases a2 with
     | nil=>cases hp
     | cons v vs =>
      simp only at hp
      by_cases h3:v.x=⟨#[41]⟩
      ·rw [if_pos h3] at hp
       cases hp
       have hr:=(h.ok hK.k).r
       have h4:=Xn t.x LT 0
       refine Qd7 d hK h h1.1 rfl h1.2 fun w' hw=>call_y _ _ d hd hK hw ?_ h2 h3 fun w'' hw2=>cE _ _ _ _ hw2 ha
       have:=hr.p0;have:=hr.p1;have:=h1.2
       simp only [LT,List.length_cons,List.length_nil] at h4
       have h5:0≤fnd t.x LT 0:=h1.2
       have h6:fnd t.x LT 0 < 4:=h4
       constructor <;> first | assumption | omega | (simp only;omega) | (show gE.size≤140737488355328;decide)
      ·rw [if_neg h3] at hp;cases hp
    ·rw [if_neg h2] at hp;cases hp
  ·rw [if_neg h1] at hp
   exact Qhb d hK h hp
theorem un_y {w:yW}{b:Nat}{K:PK}{one:List Tk→Option (Tr × List Tk)}{ts ts':List Tk}{r:Tr}(d:Int) (cO:∀ (w:yW) (ts ts':List Tk) (r:Tr),Lv w b K ts→one ts=some (r,ts')→Calls zG 254 #[zP b,zI d] w (OutE b K w r ts')) (hK:KG K) (h:Lv w b K ts) (hp:pUn one ts=some (r,ts')) :
  Calls zG 253 #[zP b,zI d] w (OutE b K w r ts'):=by
 unfold pUn at hp
 by_cases hn:pNo LU ts=true
 ·rw [if_pos hn] at hp
  obtain⟨t,us,rfl,hv⟩:=XA hn
  have HK:Hid (KG K):=hK
  have HG0:=((HX.new h 0 0).push zd 38).hid
  obtain⟨W0,eW0⟩:∃ W,w.alloc (.cells zd 38)=W:=jV
  rw [eW0] at HG0
  have HO:Hid (∀ v,Lv v b K (t :: us)→Calls zG 254 #[zP b,zI d] v (OutE b K v r ts')):=fun v hv=>cO _ _ _ _ hv hp
  have cA:=Jy HG0.out.S hK LU (n:=2) rfl (by decide) (by decide +kernel)
  rw [hv] at cA
  simp only [LU,List.map] at cA
  clear h hp hK hn hv cO
  go_enter func253,ntmps253
  go_wp2_with fail
  try rw [eW0]
  refine cA.mono ?_
  rintro e w1 ⟨rfl,hb⟩
  have HG1:=(HG0.out.on hb).hid
  have cO:=HO.out _ HG1.out.S
  clear cA hb HG0 eW0
  go_wp2_with fail
  refine cO.mono ?_
  rintro e w2 ⟨m,rfl,htr,hdp,hs,hm⟩
  have HG2:=(HG1.out.add hm hs hdp).hid
  have HR:Hid (Qs m=r):=htr
  have HF:=(HX.rowA (pre:=[]) HG2.out m.vals).hid
  clear cO htr hdp hs hm HG1
  go_wp2_with (refine wpList_store_row rfl 38 (.tmp 4) (.tmp 16) rfl w§ m.vals rfl rfl 38 _ HG2.out.b0 Qj rfl (all8 m) ?_)
  exact bodyPost_ret (results_cell_row rfl _ _ w§ 38 m.vals (0,0) _ rfl HF.out.b0 underlying38 rfl Qj) rfl (Kp HF.out HR.out fun U hU=>hU.2)
 ·rw [if_neg hn] at hp;cases hp
theorem pro_y {w:yW}{b:Nat}{K:PK}{ts ts':List Tk}{r:Tr}(d:Int) {part:List Tk→Option (Tr × List Tk)}(cP:∀ (w:yW) (ts ts':List Tk) (r:Tr),Lv w b K ts→part ts=some (r,ts')→Calls zG 253 #[zP b,zI d] w (OutE b K w r ts')) (hK:KG K) (h:Lv w b K ts) (hp:pRow LP 8 part ts=some (r,ts')) :
  Calls zG 251 #[zP b,zI d] w (OutE b K w r ts'):=by
 obtain⟨⟨a,a2⟩,ha,hp⟩:=Qo hp
 obtain⟨t,us,rfl⟩:∃ t us,a2=t :: us:=by
  cases a2 with
  | nil=>cases hp
  | cons t us=>exact⟨t,us,rfl⟩
 have HP:=zH cP
 have HK:Hid (KG K):=hK
 have HG0:=((HX.new h 0 0).push zd 38).hid
 obtain⟨W0,eW0⟩:∃ W,w.alloc (.cells zd 38)=W:=jV
 rw [eW0] at HG0
 have cP:=cP _ _ _ _ HG0.out.S ha
 have HQ:=zH hp
 clear ha
 clear h hp hK
 go_enter func251,ntmps251
 go_wp2_with fail
 try rw [eW0]
 refine cP.mono ?_
 rintro e w1 ⟨m,rfl,htr,hdp,hs,hm⟩
 have HR:Hid (Qs m=a):=htr
 have HG1:=(HX.rowA (pre:=[]) ((HG0.out.add hm hs hdp).push zd 38) m.vals).hid
 have HZ:Hid ((zA w1 zd 38).heap[w1§]? = (zC zd 38)):=Qc _ _
 clear cP htr hdp hs hm HG0 eW0
 go_upto_region 2 with (refine wpList_store_row rfl 38 (.tmp 5) (.tmp 11) rfl w1§ m.vals rfl rfl 38 zd HZ.out Qj rfl (all8 m) ?_)
 generalize hW:World.setRow _ _ _=W1
 rw [hW] at HG1
 generalize w1§=N at HG1 ⊢
 clear HZ hW
 have cI:=Jy HG1.out.S HK.out LP (n:=3) rfl (by decide) (by decide +kernel)
 have hq:=HQ.out
 rw [show pNo LP (t :: us)=(fnd t.x LP 0 == -1) from rfl] at hq
 have hlt:=Xn t.x LP 0
 have hge:=Pl t.x LP 0
 obtain⟨v,hv⟩:∃ v,fnd t.x LP 0=v:=jV
 rw [hv] at cI hq hlt hge
 simp only [LP,List.length_cons,List.length_nil] at hlt
 simp only [LP,List.map] at cI
 refine wp_loop_rounds 2 ?_
 rw [rounds_succ]
 by_cases hn:v = -1
 ·subst hn
  simp only [beq_self_eq_true,if_true,Option.some.injEq,Prod.mk.injEq] at hq
  obtain⟨rfl,rfl⟩:=hq
  clear HP HQ hv hlt hge
  go_wp2_with fail
  refine cI.mono ?_
  rintro e w2 ⟨rfl,hb⟩
  have HG2:=(HG1.out.on hb).hid
  clear cI hb HG1
  have HF:=(HX.rowA (pre:=[_]) HG2.out m.vals).hid
  go_wp2_with (first | (refine wpList_load_row rfl 38 (.tmp 5) rfl N rfl 38 m.vals (0,0) _ HG2.out.b0 underlying38 rfl Qj ?_) | (refine wpList_store_row rfl 38 (.tmp 4) (.tmp 17) rfl w§ m.vals rfl rfl 38 _ HG2.out.b1 Qj rfl (all8 _) ?_))
  exact bodyPost_ret (results_cell_row rfl _ _ w§ 38 m.vals (0,0) _ rfl HF.out.b1 underlying38 rfl Qj) rfl (Kp HF.out HR.out fun U hU=>hU.2)
 ·have hb:(v == -1)=false:=by simpa using hn
  simp only [hb,Bool.false_eq_true,if_false] at hq
  obtain⟨q,hq1,hq2⟩:=Qo hq
  obtain⟨rfl,rfl,t2,us2,h2,hv2⟩:Tr.mk ⟨6,8+v,0,0,0,gE,t.p⟩ [a,q.1]=r∧q.2=ts'∧∃ t us,q.2=t :: us∧fnd t.x LP 0 = -1:=by
   by_cases hn:pNo LP q.2=true
   ·rw [if_pos hn] at hq2;cases hq2;exact⟨rfl,rfl,XA hn⟩
   ·rw [if_neg hn] at hq2;cases hq2
  have HQ2:Hid (part us=some (q.1,t2 :: us2)∧fnd t2.x LP 0 = -1):=⟨by rw [hq1,← h2],hv2⟩
  rw [h2]
  have hv0:¬ v < 0:=by omega
  have hv3:decide (v < 0)=false:=decide_eq_false hv0
  have hv5:0≤v:=by omega
  have hv6:v < 3:=by omega
  clear HQ hv hlt hge hb hq hq1 hq2 h2 hv2 hn
  go_wp2_with fail
  refine cI.mono ?_
  rintro e w2 ⟨rfl,hb⟩
  have HG2:=(HG1.out.on hb).hid
  have cN:=QM HG2.out.S
  have hf:=fun v=>Q6 t v
  have HT:Hid (RgT t):=(HG2.out.S.ok HK.out.k).r
  clear cI hb HG1
  go_wp2_with fail
  refine cN.mono ?_
  rintro e w3 ⟨rfl,hb⟩
  have HG3:=(HG2.out.on hb).hid
  obtain⟨i,c3,f3,hmx,hL,hM,_,_⟩:=HG3.out.S.at'
  have HG4:=(HG3.out.mv hM hL).hid
  have cQ:=HP.out _ _ _ _ HG4.out.S HQ2.out.1
  clear cN hb HG2 HG3 hL hM
  go_upto_region 7 with fail
  generalize eV:w3.setCell b¢3 _=V at HG4 cQ ⊢
  clear eV c3 f3 hmx
  go_wp2_with fail
  refine cQ.mono ?_
  rintro e w5 ⟨k,rfl,htr,hdp,hs,hm⟩
  have HR2:Hid (Qs k=q.1):=htr
  have HG5:=(HX.rowA (pre:=[]) ((HG4.out.add hm hs hdp).push zd 38) k.vals).hid
  have HZ:Hid ((zA w5 zd 38).heap[w5§]? = (zC zd 38)):=Qc _ _
  clear cQ htr hdp hs hm HG4
  go_upto_region 8 with (refine wpList_store_row rfl 38 (.tmp 8) (.tmp 30) rfl w5§ k.vals rfl rfl 38 zd HZ.out Qj rfl (all8 k) ?_)
  generalize hW:World.setRow _ _ _=W5
  rw [hW] at HG5
  generalize w5§=N2 at HG5 ⊢
  clear HZ hW
  have c8:=Qa6 (8+v) t.p m k W5
  go_wp2_with (first | (refine wpList_load_row rfl 38 (.tmp 5) rfl N rfl 38 m.vals (0,0) _ HG5.out.b1 underlying38 rfl Qj ?_) | (refine wpList_load_row rfl 38 (.tmp 8) rfl N2 rfl 38 k.vals (0,0) _ HG5.out.b0 underlying38 rfl Qj ?_))
  refine c8.mono ?_
  rintro e w7 ⟨G,rfl,hb,hG1,hG2,hG3⟩
  have HG7:=((HG5.out.add (Mv.ofBelow hb) (HG5.out.S.on hb) (G:=fun U=>U.heap[G]? = (zC (m.vals ++ k.vals) 38)) fun U hU=>(hU G hG1 hG2).trans hG3).pop).hid
  have HG8:=(HX.rowA (pre:=[]) HG7.out (Nd.mk ⟨6,8+v,0,0,0,gE,t.p⟩ (some G¢0) 2 [m,k]).vals).hid
  clear c8 hb hG1 hG2 hG3 HG5
  have HRR:Hid (Rg ⟨6,8+v,0,0,0,gE,t.p⟩):=by
   have hr:=HT.out
   have:=hr.p0;have:=hr.p1
   constructor <;> first | assumption | omega | (simp only;omega) | (show gE.size≤140737488355328;decide)
  clear hv0 hv3 hv5 hv6
  go_wp2_with (refine wpList_store_row rfl 38 (.tmp 5) (.tmp 37) rfl N (Nd.mk ⟨6,8+v,0,0,0,gE,t.p⟩ (some G¢0) 2 [m,k]).vals rfl rfl 38 _ HG7.out.b0 Qj rfl (all8 _) ?_)
  generalize hW:World.setRow _ _ _=W8
  rw [hW] at HG8
  clear hW HG7
  have cI:=Jy HG8.out.S HK.out LP (n:=3) rfl (by decide) (by decide +kernel)
  rw [HQ2.out.2] at cI
  simp only [LP,List.map] at cI
  rw [rounds_succ]
  go_wp2_with fail
  refine cI.mono ?_
  rintro e w9 ⟨rfl,hb⟩
  have HG9:=(HG8.out.on hb).hid
  clear cI hb HG8
  generalize eB:Nd.mk ⟨6,8+v,0,0,0,gE,t.p⟩ (some G¢0) 2 [m,k]=B at HG9 ⊢
  have HB:Hid (Qs B=Tr.mk ⟨6,8+v,0,0,0,gE,t.p⟩ [a,q.1]∧∀ U,(((True∧Lies U m)∧Lies U k)∧U.heap[G]? = (zC (m.vals ++ k.vals) 38))→Lies U B):=by
   rw [← eB]
   refine⟨?_,fun U hU=>Ua HRR.out hU.1.1.2 hU.1.2 hU.2⟩
   show Tr.mk _ [Qs m,Qs k]=_
   rw [HR.out,HR2.out]
  clear eB
  have HF:=(HX.rowA (pre:=[_]) HG9.out B.vals).hid
  go_wp2_with (first | (refine wpList_load_row rfl 38 (.tmp 5) rfl N rfl 38 B.vals (0,0) _ HG9.out.b0 underlying38 rfl Qj ?_) | (refine wpList_store_row rfl 38 (.tmp 4) (.tmp 17) rfl w§ B.vals rfl rfl 38 _ HG9.out.b1 Qj rfl (all8 _) ?_))
  exact bodyPost_ret (results_cell_row rfl _ _ w§ 38 B.vals (0,0) _ rfl HF.out.b1 underlying38 rfl Qj) rfl (Kp HF.out HB.out.1 HB.out.2)
theorem sum_y {w:yW}{b:Nat}{K:PK}{ts ts':List Tk}{r:Tr}(d:Int) {part:List Tk→Option (Tr × List Tk)}(cP:∀ (w:yW) (ts ts':List Tk) (r:Tr),Lv w b K ts→part ts=some (r,ts')→Calls zG 251 #[zP b,zI d] w (OutE b K w r ts')) (hK:KG K) (h:Lv w b K ts) (hp:pRow LS 6 part ts=some (r,ts')) :
  Calls zG 248 #[zP b,zI d] w (OutE b K w r ts'):=by
 obtain⟨⟨a,a2⟩,ha,hp⟩:=Qo hp
 obtain⟨t,us,rfl⟩:∃ t us,a2=t :: us:=by
  cases a2 with
  | nil=>cases hp
  | cons t us=>exact⟨t,us,rfl⟩
 have HP:=zH cP
 have HK:Hid (KG K):=hK
 have HG0:=((HX.new h 0 0).push zd 38).hid
 obtain⟨W0,eW0⟩:∃ W,w.alloc (.cells zd 38)=W:=jV
 rw [eW0] at HG0
 have cP:=cP _ _ _ _ HG0.out.S ha
 have HQ:=zH hp
 clear ha
 clear h hp hK
 go_enter func248,ntmps248
 go_wp2_with fail
 try rw [eW0]
 refine cP.mono ?_
 rintro e w1 ⟨m,rfl,htr,hdp,hs,hm⟩
 have HR:Hid (Qs m=a):=htr
 have HG1:=(HX.rowA (pre:=[]) ((HG0.out.add hm hs hdp).push zd 38) m.vals).hid
 have HZ:Hid ((zA w1 zd 38).heap[w1§]? = (zC zd 38)):=Qc _ _
 clear cP htr hdp hs hm HG0 eW0
 go_upto_region 2 with (refine wpList_store_row rfl 38 (.tmp 5) (.tmp 11) rfl w1§ m.vals rfl rfl 38 zd HZ.out Qj rfl (all8 m) ?_)
 generalize hW:World.setRow _ _ _=W1
 rw [hW] at HG1
 generalize w1§=N at HG1 ⊢
 clear HZ hW
 have cI:=Jy HG1.out.S HK.out LS (n:=2) rfl (by decide) (by decide +kernel)
 have hq:=HQ.out
 rw [show pNo LS (t :: us)=(fnd t.x LS 0 == -1) from rfl] at hq
 have hlt:=Xn t.x LS 0
 have hge:=Pl t.x LS 0
 obtain⟨v,hv⟩:∃ v,fnd t.x LS 0=v:=jV
 rw [hv] at cI hq hlt hge
 simp only [LS,List.length_cons,List.length_nil] at hlt
 simp only [LS,List.map] at cI
 refine wp_loop_rounds 2 ?_
 rw [rounds_succ]
 by_cases hn:v = -1
 ·subst hn
  simp only [beq_self_eq_true,if_true,Option.some.injEq,Prod.mk.injEq] at hq
  obtain⟨rfl,rfl⟩:=hq
  clear HP HQ hv hlt hge
  go_wp2_with fail
  refine cI.mono ?_
  rintro e w2 ⟨rfl,hb⟩
  have HG2:=(HG1.out.on hb).hid
  clear cI hb HG1
  have HF:=(HX.rowA (pre:=[_]) HG2.out m.vals).hid
  go_wp2_with (first | (refine wpList_load_row rfl 38 (.tmp 5) rfl N rfl 38 m.vals (0,0) _ HG2.out.b0 underlying38 rfl Qj ?_) | (refine wpList_store_row rfl 38 (.tmp 4) (.tmp 17) rfl w§ m.vals rfl rfl 38 _ HG2.out.b1 Qj rfl (all8 _) ?_))
  exact bodyPost_ret (results_cell_row rfl _ _ w§ 38 m.vals (0,0) _ rfl HF.out.b1 underlying38 rfl Qj) rfl (Kp HF.out HR.out fun U hU=>hU.2)
 ·have hb:(v == -1)=false:=by simpa using hn
  simp only [hb,Bool.false_eq_true,if_false] at hq
  obtain⟨q,hq1,hq2⟩:=Qo hq
  obtain⟨rfl,rfl,t2,us2,h2,hv2⟩:Tr.mk ⟨6,6+v,0,0,0,gE,t.p⟩ [a,q.1]=r∧q.2=ts'∧∃ t us,q.2=t :: us∧fnd t.x LS 0 = -1:=by
   by_cases hn:pNo LS q.2=true
   ·rw [if_pos hn] at hq2;cases hq2;exact⟨rfl,rfl,XA hn⟩
   ·rw [if_neg hn] at hq2;cases hq2
  have HQ2:Hid (part us=some (q.1,t2 :: us2)∧fnd t2.x LS 0 = -1):=⟨by rw [hq1,← h2],hv2⟩
  rw [h2]
  have hv0:¬ v < 0:=by omega
  have hv3:decide (v < 0)=false:=decide_eq_false hv0
  have hv5:0≤v:=by omega
  have hv6:v < 2:=by omega
  clear HQ hv hlt hge hb hq hq1 hq2 h2 hv2 hn
  go_wp2_with fail
  refine cI.mono ?_
  rintro e w2 ⟨rfl,hb⟩
  have HG2:=(HG1.out.on hb).hid
  have cN:=QM HG2.out.S
  have hf:=fun v=>Q6 t v
  have HT:Hid (RgT t):=(HG2.out.S.ok HK.out.k).r
  clear cI hb HG1
  go_wp2_with fail
  refine cN.mono ?_
  rintro e w3 ⟨rfl,hb⟩
  have HG3:=(HG2.out.on hb).hid
  obtain⟨i,c3,f3,hmx,hL,hM,_,_⟩:=HG3.out.S.at'
  have HG4:=(HG3.out.mv hM hL).hid
  have cQ:=HP.out _ _ _ _ HG4.out.S HQ2.out.1
  clear cN hb HG2 HG3 hL hM
  go_upto_region 7 with fail
  generalize eV:w3.setCell b¢3 _=V at HG4 cQ ⊢
  clear eV c3 f3 hmx
  go_wp2_with fail
  refine cQ.mono ?_
  rintro e w5 ⟨k,rfl,htr,hdp,hs,hm⟩
  have HR2:Hid (Qs k=q.1):=htr
  have HG5:=(HX.rowA (pre:=[]) ((HG4.out.add hm hs hdp).push zd 38) k.vals).hid
  have HZ:Hid ((zA w5 zd 38).heap[w5§]? = (zC zd 38)):=Qc _ _
  clear cQ htr hdp hs hm HG4
  go_upto_region 8 with (refine wpList_store_row rfl 38 (.tmp 8) (.tmp 30) rfl w5§ k.vals rfl rfl 38 zd HZ.out Qj rfl (all8 k) ?_)
  generalize hW:World.setRow _ _ _=W5
  rw [hW] at HG5
  generalize w5§=N2 at HG5 ⊢
  clear HZ hW
  have c8:=Qa6 (6+v) t.p m k W5
  go_wp2_with (first | (refine wpList_load_row rfl 38 (.tmp 5) rfl N rfl 38 m.vals (0,0) _ HG5.out.b1 underlying38 rfl Qj ?_) | (refine wpList_load_row rfl 38 (.tmp 8) rfl N2 rfl 38 k.vals (0,0) _ HG5.out.b0 underlying38 rfl Qj ?_))
  refine c8.mono ?_
  rintro e w7 ⟨G,rfl,hb,hG1,hG2,hG3⟩
  have HG7:=((HG5.out.add (Mv.ofBelow hb) (HG5.out.S.on hb) (G:=fun U=>U.heap[G]? = (zC (m.vals ++ k.vals) 38)) fun U hU=>(hU G hG1 hG2).trans hG3).pop).hid
  have HG8:=(HX.rowA (pre:=[]) HG7.out (Nd.mk ⟨6,6+v,0,0,0,gE,t.p⟩ (some G¢0) 2 [m,k]).vals).hid
  clear c8 hb hG1 hG2 hG3 HG5
  have HRR:Hid (Rg ⟨6,6+v,0,0,0,gE,t.p⟩):=by
   have hr:=HT.out
   have:=hr.p0;have:=hr.p1
   constructor <;> first | assumption | omega | (simp only;omega) | (show gE.size≤140737488355328;decide)
  clear hv0 hv3 hv5 hv6
  go_wp2_with (refine wpList_store_row rfl 38 (.tmp 5) (.tmp 37) rfl N (Nd.mk ⟨6,6+v,0,0,0,gE,t.p⟩ (some G¢0) 2 [m,k]).vals rfl rfl 38 _ HG7.out.b0 Qj rfl (all8 _) ?_)
  generalize hW:World.setRow _ _ _=W8
  rw [hW] at HG8
  clear hW HG7
  have cI:=Jy HG8.out.S HK.out LS (n:=2) rfl (by decide) (by decide +kernel)
  rw [HQ2.out.2] at cI
  simp only [LS,List.map] at cI
  rw [rounds_succ]
  go_wp2_with fail
  refine cI.mono ?_
  rintro e w9 ⟨rfl,hb⟩
  have HG9:=(HG8.out.on hb).hid
  clear cI hb HG8
  generalize eB:Nd.mk ⟨6,6+v,0,0,0,gE,t.p⟩ (some G¢0) 2 [m,k]=B at HG9 ⊢
  have HB:Hid (Qs B=Tr.mk ⟨6,6+v,0,0,0,gE,t.p⟩ [a,q.1]∧∀ U,(((True∧Lies U m)∧Lies U k)∧U.heap[G]? = (zC (m.vals ++ k.vals) 38))→Lies U B):=by
   rw [← eB]
   refine⟨?_,fun U hU=>Ua HRR.out hU.1.1.2 hU.1.2 hU.2⟩
   show Tr.mk _ [Qs m,Qs k]=_
   rw [HR.out,HR2.out]
  clear eB
  have HF:=(HX.rowA (pre:=[_]) HG9.out B.vals).hid
  go_wp2_with (first | (refine wpList_load_row rfl 38 (.tmp 5) rfl N rfl 38 B.vals (0,0) _ HG9.out.b0 underlying38 rfl Qj ?_) | (refine wpList_store_row rfl 38 (.tmp 4) (.tmp 17) rfl w§ B.vals rfl rfl 38 _ HG9.out.b1 Qj rfl (all8 _) ?_))
  exact bodyPost_ret (results_cell_row rfl _ _ w§ 38 B.vals (0,0) _ rfl HF.out.b1 underlying38 rfl Qj) rfl (Kp HF.out HB.out.1 HB.out.2)
theorem no1 {y x:yB}(h:fnd y [x] 0 = -1):¬ y=x:=fun e=>by rw [fnd,if_pos e] at h;cases h
theorem cmp_y {w:yW}{b:Nat}{K:PK}{ts ts':List Tk}{r:Tr}(d:Int) {part:List Tk→Option (Tr × List Tk)}(cP:∀ (w:yW) (ts ts':List Tk) (r:Tr),Lv w b K ts→part ts=some (r,ts')→Calls zG 248 #[zP b,zI d] w (OutE b K w r ts')) (hK:KG K) (h:Lv w b K ts) (hp:pCmp LC 11 part ts=some (r,ts')) :
  Calls zG 236 #[zP b,zI d] w (OutE b K w r ts'):=by
 obtain⟨⟨a,a2⟩,ha,hp⟩:=Qo hp
 obtain⟨t,us,rfl⟩:∃ t us,a2=t :: us:=by
  cases a2 with
  | nil=>cases hp
  | cons t us=>exact⟨t,us,rfl⟩
 have HP:=zH cP
 have HK:Hid (KG K):=hK
 have HG0:=((HX.new h 0 0).push zd 38).hid
 obtain⟨W0,eW0⟩:∃ W,w.alloc (.cells zd 38)=W:=jV
 rw [eW0] at HG0
 have cP:=cP _ _ _ _ HG0.out.S ha
 have HQ:=zH hp
 clear ha
 clear h hp hK
 go_enter func236,ntmps236
 go_wp2_with fail
 try rw [eW0]
 refine cP.mono ?_
 rintro e w1 ⟨m,rfl,htr,hdp,hs,hm⟩
 have HR:Hid (Qs m=a):=htr
 have HG1:=(HX.rowA (pre:=[]) ((HG0.out.add hm hs hdp).push zd 38) m.vals).hid
 have HZ:Hid ((zA w1 zd 38).heap[w1§]? = (zC zd 38)):=Qc _ _
 clear cP htr hdp hs hm HG0 eW0
 go_upto_region 2 with (refine wpList_store_row rfl 38 (.tmp 5) (.tmp 11) rfl w1§ m.vals rfl rfl 38 zd HZ.out Qj rfl (all8 m) ?_)
 generalize hW:World.setRow _ _ _=W1
 rw [hW] at HG1
 generalize w1§=N at HG1 ⊢
 clear HZ hW
 have cI:=Jy HG1.out.S HK.out LC (n:=6) rfl (by decide) (by decide +kernel)
 have hq:=HQ.out
 rw [show pNo LC (t :: us)=(fnd t.x LC 0 == -1) from rfl] at hq
 have hlt:=Xn t.x LC 0
 have hge:=Pl t.x LC 0
 obtain⟨v,hv⟩:∃ v,fnd t.x LC 0=v:=jV
 rw [hv] at cI hq hlt hge
 simp only [LC,List.length_cons,List.length_nil] at hlt
 simp only [LC,List.map] at cI
 by_cases hn:v = -1
 ·subst hn
  simp only [beq_self_eq_true,if_true,Option.some.injEq,Prod.mk.injEq] at hq
  obtain⟨rfl,rfl⟩:=hq
  clear HP HQ hv hlt hge
  go_wp2_with fail
  refine cI.mono ?_
  rintro e w2 ⟨rfl,hb⟩
  have HG2:=(HG1.out.on hb).hid
  clear cI hb HG1
  have HF:=(HX.rowA (pre:=[_]) HG2.out m.vals).hid
  go_wp2_with (first | (refine wpList_load_row rfl 38 (.tmp 5) rfl N rfl 38 m.vals (0,0) _ HG2.out.b0 underlying38 rfl Qj ?_) | (refine wpList_store_row rfl 38 (.tmp 4) (.tmp 17) rfl w§ m.vals rfl rfl 38 _ HG2.out.b1 Qj rfl (all8 _) ?_))
  exact bodyPost_ret (results_cell_row rfl _ _ w§ 38 m.vals (0,0) _ rfl HF.out.b1 underlying38 rfl Qj) rfl (Kp HF.out HR.out fun U hU=>hU.2)
 ·have hb:(v == -1)=false:=by simpa using hn
  simp only [hb,Bool.false_eq_true,if_false] at hq
  obtain⟨⟨q,q2⟩,hq1,hq2⟩:=Qo hq
  simp only [Option.some.injEq,Prod.mk.injEq] at hq2
  obtain⟨rfl,rfl⟩:=hq2
  have HQ2:=zH hq1
  have hv0:¬ v < 0:=by omega
  have hv3:decide (v < 0)=false:=decide_eq_false hv0
  have hv5:0≤v:=by omega
  have hv6:v < 6:=by omega
  clear HQ hv hlt hge hb hq hq1 hn
  go_wp2_with fail
  refine cI.mono ?_
  rintro e w2 ⟨rfl,hb⟩
  have HG2:=(HG1.out.on hb).hid
  have cN:=QM HG2.out.S
  have hf:=fun v=>Q6 t v
  have HT:Hid (RgT t):=(HG2.out.S.ok HK.out.k).r
  clear cI hb HG1
  go_wp2_with fail
  refine cN.mono ?_
  rintro e w3 ⟨rfl,hb⟩
  have HG3:=(HG2.out.on hb).hid
  obtain⟨i,c3,f3,hmx,hL,hM,_,_⟩:=HG3.out.S.at'
  have HG4:=(HG3.out.mv hM hL).hid
  have cQ:=HP.out _ _ _ _ HG4.out.S HQ2.out
  clear cN hb HG2 HG3 hL hM
  go_upto_region 7 with fail
  generalize eV:w3.setCell b¢3 _=V at HG4 cQ ⊢
  clear eV c3 f3 hmx
  go_wp2_with fail
  refine cQ.mono ?_
  rintro e w5 ⟨k,rfl,htr,hdp,hs,hm⟩
  have HR2:Hid (Qs k=q):=htr
  have HG5:=(HX.rowA (pre:=[]) ((HG4.out.add hm hs hdp).push zd 38) k.vals).hid
  have HZ:Hid ((zA w5 zd 38).heap[w5§]? = (zC zd 38)):=Qc _ _
  clear cQ htr hdp hs hm HG4
  go_upto_region 8 with (refine wpList_store_row rfl 38 (.tmp 8) (.tmp 30) rfl w5§ k.vals rfl rfl 38 zd HZ.out Qj rfl (all8 k) ?_)
  generalize hW:World.setRow _ _ _=W5
  rw [hW] at HG5
  generalize w5§=N2 at HG5 ⊢
  clear HZ hW
  have c8:=Qa6 (11+v) t.p m k W5
  go_wp2_with (first | (refine wpList_load_row rfl 38 (.tmp 5) rfl N rfl 38 m.vals (0,0) _ HG5.out.b1 underlying38 rfl Qj ?_) | (refine wpList_load_row rfl 38 (.tmp 8) rfl N2 rfl 38 k.vals (0,0) _ HG5.out.b0 underlying38 rfl Qj ?_))
  refine c8.mono ?_
  rintro e w7 ⟨G,rfl,hb,hG1,hG2,hG3⟩
  have HG7:=(HG5.out.add (Mv.ofBelow hb) (HG5.out.S.on hb) (G:=fun U=>U.heap[G]? = (zC (m.vals ++ k.vals) 38)) fun U hU=>(hU G hG1 hG2).trans hG3).hid
  have HRR:Hid (Rg ⟨6,11+v,0,0,0,gE,t.p⟩):=by
   have hr:=HT.out
   have:=hr.p0;have:=hr.p1
   constructor <;> first | assumption | omega | (simp only;omega) | (show gE.size≤140737488355328;decide)
  have HF:=(HX.rowA (pre:=[_,_]) HG7.out (Nd.mk ⟨6,11+v,0,0,0,gE,t.p⟩ (some G¢0) 2 [m,k]).vals).hid
  clear c8 hb hG1 hG2 hG3 HG5 hv0 hv3 hv5 hv6
  go_wp2_with (refine wpList_store_row rfl 38 (.tmp 4) (.tmp 37) rfl w§ (Nd.mk ⟨6,11+v,0,0,0,gE,t.p⟩ (some G¢0) 2 [m,k]).vals rfl rfl 38 _ HG7.out.b2 Qj rfl (all8 _) ?_)
  refine bodyPost_ret (results_cell_row rfl _ _ w§ 38 (Nd.mk ⟨6,11+v,0,0,0,gE,t.p⟩ (some G¢0) 2 [m,k]).vals (0,0) _ rfl HF.out.b2 underlying38 rfl Qj) rfl (Kp HF.out ?_ fun U hU=>Ua HRR.out hU.1.1.2 hU.1.2 hU.2)
  show Tr.mk _ [Qs m,Qs k]=_
  rw [HR.out,HR2.out]
theorem and_y {w:yW}{b:Nat}{K:PK}{ts ts':List Tk}{r:Tr}(d:Int) {part:List Tk→Option (Tr × List Tk)}(cP:∀ (w:yW) (ts ts':List Tk) (r:Tr),Lv w b K ts→part ts=some (r,ts')→Calls zG 236 #[zP b,zI d] w (OutE b K w r ts')) (hK:KG K) (h:Lv w b K ts) (hp:pRow [Z7] 17 part ts=some (r,ts')) :
  Calls zG 224 #[zP b,zI d] w (OutE b K w r ts'):=by
 obtain⟨⟨a,a2⟩,ha,hp⟩:=Qo hp
 obtain⟨t,us,rfl⟩:∃ t us,a2=t :: us:=by
  cases a2 with
  | nil=>cases hp
  | cons t us=>exact⟨t,us,rfl⟩
 have HP:=zH cP
 have HK:Hid (KG K):=hK
 have HG0:=((HX.new h 0 0).push zd 38).hid
 obtain⟨W0,eW0⟩:∃ W,w.alloc (.cells zd 38)=W:=jV
 rw [eW0] at HG0
 have cP:=cP _ _ _ _ HG0.out.S ha
 have HQ:=zH hp
 clear ha
 clear h hp hK
 go_enter func224,ntmps224
 go_wp2_with fail
 try rw [eW0]
 refine cP.mono ?_
 rintro e w1 ⟨m,rfl,htr,hdp,hs,hm⟩
 have HR:Hid (Qs m=a):=htr
 have HG1:=(HX.rowA (pre:=[]) ((HG0.out.add hm hs hdp).push zd 38) m.vals).hid
 have HZ:Hid ((zA w1 zd 38).heap[w1§]? = (zC zd 38)):=Qc _ _
 clear cP htr hdp hs hm HG0 eW0
 go_upto_region 2 with (refine wpList_store_row rfl 38 (.tmp 5) (.tmp 11) rfl w1§ m.vals rfl rfl 38 zd HZ.out Qj rfl (all8 m) ?_)
 generalize hW:World.setRow _ _ _=W1
 rw [hW] at HG1
 generalize w1§=N at HG1 ⊢
 clear HZ hW
 have cI:=Kr HG1.out.S Z7 (Uc (HG1.out.S.gd HK.out) (by decide +kernel))
 have hq:=HQ.out
 refine wp_loop_rounds 2 ?_
 rw [rounds_succ]
 by_cases hn:t.x=Z7
 rotate_left
 ·have hno:pNo [Z7] (t :: us)=true:=by simp [pNo,fnd,hn]
  rw [if_pos hno] at hq
  simp only [Option.some.injEq,Prod.mk.injEq] at hq
  obtain⟨rfl,rfl⟩:=hq
  rw [decide_eq_false hn] at cI
  clear HP HQ hno hn
  go_wp2_with fail
  refine cI.mono ?_
  rintro e w2 ⟨rfl,hb⟩
  have HG2:=(HG1.out.on hb).hid
  clear cI hb HG1
  have HF:=(HX.rowA (pre:=[_]) HG2.out m.vals).hid
  go_wp2_with (first | (refine wpList_load_row rfl 38 (.tmp 5) rfl N rfl 38 m.vals (0,0) _ HG2.out.b0 underlying38 rfl Qj ?_) | (refine wpList_store_row rfl 38 (.tmp 4) (.tmp 16) rfl w§ m.vals rfl rfl 38 _ HG2.out.b1 Qj rfl (all8 _) ?_))
  exact bodyPost_ret (results_cell_row rfl _ _ w§ 38 m.vals (0,0) _ rfl HF.out.b1 underlying38 rfl Qj) rfl (Kp HF.out HR.out fun U hU=>hU.2)
 ·have hno:¬ pNo [Z7] (t :: us)=true:=by simp [pNo,fnd,hn]
  have hz:fnd t.x [Z7] 0=0:=by simp [fnd,hn]
  rw [if_neg hno,hz] at hq
  obtain⟨q,hq1,hq2⟩:=Qo hq
  obtain⟨rfl,rfl,t2,us2,h2,hv2⟩:Tr.mk ⟨6,17+0,0,0,0,gE,t.p⟩ [a,q.1]=r∧q.2=ts'∧∃ t us,q.2=t :: us∧fnd t.x [Z7] 0 = -1:=by
   by_cases hn:pNo [Z7] q.2=true
   ·rw [if_pos hn] at hq2;cases hq2;exact⟨rfl,rfl,XA hn⟩
   ·rw [if_neg hn] at hq2;cases hq2
  rw [decide_eq_true hn] at cI
  have HQ2:Hid (part us=some (q.1,t2 :: us2)∧fnd t2.x [Z7] 0 = -1):=⟨by rw [hq1,← h2],hv2⟩
  rw [h2]
  clear HQ hno hz hq hq1 hq2 h2 hv2 hn
  go_wp2_with fail
  refine cI.mono ?_
  rintro e w2 ⟨rfl,hb⟩
  have HG2:=(HG1.out.on hb).hid
  have cN:=QM HG2.out.S
  have hf:=fun v=>Q6 t v
  have HT:Hid (RgT t):=(HG2.out.S.ok HK.out.k).r
  clear cI hb HG1
  go_wp2_with fail
  refine cN.mono ?_
  rintro e w3 ⟨rfl,hb⟩
  have HG3:=(HG2.out.on hb).hid
  obtain⟨i,c3,f3,hmx,hL,hM,_,_⟩:=HG3.out.S.at'
  have HG4:=(HG3.out.mv hM hL).hid
  have cQ:=HP.out _ _ _ _ HG4.out.S HQ2.out.1
  clear cN hb HG2 HG3 hL hM
  go_upto_region 7 with fail
  generalize eV:w3.setCell b¢3 _=V at HG4 cQ ⊢
  clear eV c3 f3 hmx
  go_wp2_with fail
  refine cQ.mono ?_
  rintro e w5 ⟨k,rfl,htr,hdp,hs,hm⟩
  have HR2:Hid (Qs k=q.1):=htr
  have HG5:=(HX.rowA (pre:=[]) ((HG4.out.add hm hs hdp).push zd 38) k.vals).hid
  have HZ:Hid ((zA w5 zd 38).heap[w5§]? = (zC zd 38)):=Qc _ _
  clear cQ htr hdp hs hm HG4
  go_upto_region 8 with (refine wpList_store_row rfl 38 (.tmp 8) (.tmp 29) rfl w5§ k.vals rfl rfl 38 zd HZ.out Qj rfl (all8 k) ?_)
  generalize hW:World.setRow _ _ _=W5
  rw [hW] at HG5
  generalize w5§=N2 at HG5 ⊢
  clear HZ hW
  have c8:=Qa6 (17) t.p m k W5
  go_wp2_with (first | (refine wpList_load_row rfl 38 (.tmp 5) rfl N rfl 38 m.vals (0,0) _ HG5.out.b1 underlying38 rfl Qj ?_) | (refine wpList_load_row rfl 38 (.tmp 8) rfl N2 rfl 38 k.vals (0,0) _ HG5.out.b0 underlying38 rfl Qj ?_))
  refine c8.mono ?_
  rintro e w7 ⟨G,rfl,hb,hG1,hG2,hG3⟩
  have HG7:=((HG5.out.add (Mv.ofBelow hb) (HG5.out.S.on hb) (G:=fun U=>U.heap[G]? = (zC (m.vals ++ k.vals) 38)) fun U hU=>(hU G hG1 hG2).trans hG3).pop).hid
  have HG8:=(HX.rowA (pre:=[]) HG7.out (Nd.mk ⟨6,17,0,0,0,gE,t.p⟩ (some G¢0) 2 [m,k]).vals).hid
  clear c8 hb hG1 hG2 hG3 HG5
  have HRR:Hid (Rg ⟨6,17,0,0,0,gE,t.p⟩):=by
   have hr:=HT.out
   have:=hr.p0;have:=hr.p1
   constructor <;> first | assumption | omega | (simp only;omega) | (show gE.size≤140737488355328;decide)
  go_wp2_with (refine wpList_store_row rfl 38 (.tmp 5) (.tmp 33) rfl N (Nd.mk ⟨6,17,0,0,0,gE,t.p⟩ (some G¢0) 2 [m,k]).vals rfl rfl 38 _ HG7.out.b0 Qj rfl (all8 _) ?_)
  generalize hW:World.setRow _ _ _=W8
  rw [hW] at HG8
  clear hW HG7
  have cI:=Kr HG8.out.S Z7 (Uc (HG8.out.S.gd HK.out) (by decide +kernel))
  rw [decide_eq_false (no1 HQ2.out.2)] at cI
  rw [rounds_succ]
  go_wp2_with fail
  refine cI.mono ?_
  rintro e w9 ⟨rfl,hb⟩
  have HG9:=(HG8.out.on hb).hid
  clear cI hb HG8
  generalize eB:Nd.mk ⟨6,17,0,0,0,gE,t.p⟩ (some G¢0) 2 [m,k]=B at HG9 ⊢
  have HB:Hid (Qs B=Tr.mk ⟨6,17,0,0,0,gE,t.p⟩ [a,q.1]∧∀ U,(((True∧Lies U m)∧Lies U k)∧U.heap[G]? = (zC (m.vals ++ k.vals) 38))→Lies U B):=by
   rw [← eB]
   refine⟨?_,fun U hU=>Ua HRR.out hU.1.1.2 hU.1.2 hU.2⟩
   show Tr.mk _ [Qs m,Qs k]=_
   rw [HR.out,HR2.out]
  clear eB
  have HF:=(HX.rowA (pre:=[_]) HG9.out B.vals).hid
  go_wp2_with (first | (refine wpList_load_row rfl 38 (.tmp 5) rfl N rfl 38 B.vals (0,0) _ HG9.out.b0 underlying38 rfl Qj ?_) | (refine wpList_store_row rfl 38 (.tmp 4) (.tmp 16) rfl w§ B.vals rfl rfl 38 _ HG9.out.b1 Qj rfl (all8 _) ?_))
  exact bodyPost_ret (results_cell_row rfl _ _ w§ 38 B.vals (0,0) _ rfl HF.out.b1 underlying38 rfl Qj) rfl (Kp HF.out HB.out.1 HB.out.2)
theorem or_y {w:yW}{b:Nat}{K:PK}{ts ts':List Tk}{r:Tr}(d:Int) {part:List Tk→Option (Tr × List Tk)}(cP:∀ (w:yW) (ts ts':List Tk) (r:Tr),Lv w b K ts→part ts=some (r,ts')→Calls zG 224 #[zP b,zI d] w (OutE b K w r ts')) (hK:KG K) (h:Lv w b K ts) (hp:Qbi [Zk] part ts=some (r,ts')) :
  Calls zG 218 #[zP b,zI d] w (OutE b K w r ts'):=by
 obtain⟨a,ha,hp⟩:=Qo hp
 obtain⟨rfl,rfl,t,us,hts,hv⟩:a.1=r∧a.2=ts'∧∃ t us,a.2=t :: us∧fnd t.x [Zk] 0 = -1:=by
  by_cases hn:pNo [Zk] a.2=true
  ·rw [if_pos hn] at hp;cases hp;exact⟨rfl,rfl,XA hn⟩
  ·rw [if_neg hn] at hp;cases hp
 rw [hts]
 have HK:Hid (KG K):=hK
 have HG0:=((HX.new h 0 0).push zd 38).hid
 obtain⟨W0,eW0⟩:∃ W,w.alloc (.cells zd 38)=W:=jV
 rw [eW0] at HG0
 have cP:=cP _ _ _ _ HG0.out.S ha
 rw [hts] at cP
 have HV:=zH hv
 clear ha hts hv
 clear h hp hK
 go_enter func218,ntmps218
 go_wp2_with fail
 try rw [eW0]
 refine cP.mono ?_
 rintro e w1 ⟨m,rfl,htr,hdp,hs,hm⟩
 have HR:Hid (Qs m=a.1):=htr
 have HG1:=(HX.rowA (pre:=[]) ((HG0.out.add hm hs hdp).push zd 38) m.vals).hid
 have HZ:Hid ((zA w1 zd 38).heap[w1§]? = (zC zd 38)):=Qc _ _
 clear cP htr hdp hs hm HG0 eW0
 go_upto_region 2 with (refine wpList_store_row rfl 38 (.tmp 5) (.tmp 11) rfl w1§ m.vals rfl rfl 38 zd HZ.out Qj rfl (all8 m) ?_)
 generalize hW:World.setRow _ _ _=W1
 rw [hW] at HG1
 generalize w1§=N at HG1 ⊢
 clear HZ hW
 have cI:=Kr HG1.out.S Zk (Uc (HG1.out.S.gd HK.out) (by decide +kernel))
 rw [decide_eq_false (no1 HV.out)] at cI
 refine wp_loop_rounds 1 ?_
 rw [rounds_succ]
 go_wp2_with fail
 refine cI.mono ?_
 rintro e w2 ⟨rfl,hb⟩
 have HG2:=(HG1.out.on hb).hid
 clear cI hb HG1 HV
 have HF:=(HX.rowA (pre:=[_]) HG2.out m.vals).hid
 go_wp2_with (first | (refine wpList_load_row rfl 38 (.tmp 5) rfl N rfl 38 m.vals (0,0) _ HG2.out.b0 underlying38 rfl Qj ?_) | (refine wpList_store_row rfl 38 (.tmp 4) (.tmp 16) rfl w§ m.vals rfl rfl 38 _ HG2.out.b1 Qj rfl (all8 _) ?_))
 exact bodyPost_ret (results_cell_row rfl _ _ w§ 38 m.vals (0,0) _ rfl HF.out.b1 underlying38 rfl Qj) rfl (Kp HF.out HR.out fun U hU=>hU.2)
theorem cond_y {w:yW}{b:Nat}{K:PK}{ts ts':List Tk}{r:Tr}(d:Int) {part:List Tk→Option (Tr × List Tk)}(cP:∀ (w:yW) (ts ts':List Tk) (r:Tr),Lv w b K ts→part ts=some (r,ts')→Calls zG 218 #[zP b,zI d] w (OutE b K w r ts')) (hK:KG K) (h:Lv w b K ts) (hp:Qbi [⟨#[63]⟩] part ts=some (r,ts')) :
  Calls zG 203 #[zP b,zI d] w (OutE b K w r ts'):=by
 obtain⟨a,ha,hp⟩:=Qo hp
 obtain⟨rfl,rfl,t,us,hts,hv⟩:a.1=r∧a.2=ts'∧∃ t us,a.2=t :: us∧fnd t.x [⟨#[63]⟩] 0 = -1:=by
  by_cases hn:pNo [⟨#[63]⟩] a.2=true
  ·rw [if_pos hn] at hp;cases hp;exact⟨rfl,rfl,XA hn⟩
  ·rw [if_neg hn] at hp;cases hp
 rw [hts]
 have HK:Hid (KG K):=hK
 have HG0:=((HX.new h 0 0).push zd 38).hid
 obtain⟨W0,eW0⟩:∃ W,w.alloc (.cells zd 38)=W:=jV
 rw [eW0] at HG0
 have cP:=cP _ _ _ _ HG0.out.S ha
 rw [hts] at cP
 have HV:=zH hv
 clear ha hts hv
 clear h hp hK
 go_enter func203,ntmps203
 go_wp2_with fail
 try rw [eW0]
 refine cP.mono ?_
 rintro e w1 ⟨m,rfl,htr,hdp,hs,hm⟩
 have HR:Hid (Qs m=a.1):=htr
 have HG1:=(HX.rowA (pre:=[]) ((HG0.out.add hm hs hdp).push zd 38) m.vals).hid
 have HZ:Hid ((zA w1 zd 38).heap[w1§]? = (zC zd 38)):=Qc _ _
 clear cP htr hdp hs hm HG0 eW0
 go_upto_region 2 with (refine wpList_store_row rfl 38 (.tmp 5) (.tmp 13) rfl w1§ m.vals rfl rfl 38 zd HZ.out Qj rfl (all8 m) ?_)
 generalize hW:World.setRow _ _ _=W1
 rw [hW] at HG1
 generalize w1§=N at HG1 ⊢
 clear HZ hW
 have cI:=Kr HG1.out.S ⟨#[63]⟩ (Uc (HG1.out.S.gd HK.out) (by decide +kernel))
 rw [decide_eq_false (no1 HV.out)] at cI
 go_wp2_with fail
 refine cI.mono ?_
 rintro e w2 ⟨rfl,hb⟩
 have HG2:=(HG1.out.on hb).hid
 clear cI hb HG1 HV
 have HF:=(HX.rowA (pre:=[_]) HG2.out m.vals).hid
 go_wp2_with (first | (refine wpList_load_row rfl 38 (.tmp 5) rfl N rfl 38 m.vals (0,0) _ HG2.out.b0 underlying38 rfl Qj ?_) | (refine wpList_store_row rfl 38 (.tmp 4) (.tmp 18) rfl w§ m.vals rfl rfl 38 _ HG2.out.b1 Qj rfl (all8 _) ?_))
 exact bodyPost_ret (results_cell_row rfl _ _ w§ 38 m.vals (0,0) _ rfl HF.out.b1 underlying38 rfl Qj) rfl (Kp HF.out HR.out fun U hU=>hU.2)
theorem Qhe {w:yW}{b:Nat}{K:PK}{one:List Tk→Option (Tr × List Tk)}{ts ts':List Tk}{r:Tr}(d:Int) (cO:∀ (w:yW) (ts ts':List Tk) (r:Tr),Lv w b K ts→one ts=some (r,ts')→Calls zG 254 #[zP b,zI d] w (OutE b K w r ts')) (hK:KG K) (h:Lv w b K ts) (hp:pLvl one ts=some (r,ts')) :
  Calls zG 203 #[zP b,zI d] w (OutE b K w r ts') :=
 cond_y d (fun _ _ _ _ h hp=>or_y d (fun _ _ _ _ h hp=>and_y d (fun _ _ _ _ h hp=>cmp_y d (fun _ _ _ _ h hp=>sum_y d (fun _ _ _ _ h hp=>pro_y d (fun _ _ _ _ h hp=>un_y d cO hK h hp) hK h hp) hK h hp) hK h hp) hK h hp) hK h hp) hK h hp
theorem ex_y {w:yW}{b:Nat}{K:PK}{ts ts':List Tk}{r:Tr}(hK:KG K) (h:Lv w b K ts) (hp:pEx ts=some (r,ts')) :
  Calls zG 203 #[zP b,zI 0] w (OutE b K w r ts') :=
 Qhe ((0:Nat):Int) (fun _ _ _ _ h hp=>one_c 0 (by decide) (fun _ _ _ _ h hp=>Qhe _ (fun _ _ _ _ h hp=>Qhb _ hK h hp) hK h hp) hK h hp) hK h hp
theorem Jr {w:yW}{b:Nat}{K:PK}{t:Tk}{ts:List Tk}(hK:KG K) (h:Lv w b K (t :: ts)) (x:yB) (hx:(lx x.data.toList).map (·.1)=some 1∨(lx x.data.toList).map (·.1)=some 4) (ht:t.x=x) :
  Calls zG 135 #[zP b,.string x] w fun e w'=>e=.returned (zI t.p)∧Lv w' b K ts∧Mv w w' (fun k=>k=b):=by
 refine (VL h x (Uc (h.gd hK) hx)).mono ?_
 rintro e w' ⟨⟨p,rfl,h1⟩,h2,h3⟩
 rw [if_pos ht] at h2
 rw [h1 ht]
 exact⟨rfl,h2,h3⟩
theorem is_l {w:yW}{b:Nat}{K:PK}{t:Tk}{ts:List Tk}(hK:KG K) (h:Lv w b K (t :: ts)) (x:yB) (hx:(lx x.data.toList).map (·.1)=some 1∨(lx x.data.toList).map (·.1)=some 4) {i:Bool}(hi:pIs x (t :: ts)=i) :
  Calls zG 137 #[zP b,.string x] w fun e w'=>e=.returned (.bool i)∧yD w w':=by
 subst hi
 exact Kr h x (Uc (h.gd hK) hx)
theorem Xk {w:yW}{b:Nat}{K:PK}{t:Tk}{ts:List Tk}(h:Lv w b K (t :: ts)) (hk:t.k=2) :
  Calls zG 136 #[zP b] w fun e w'=>e=.returned (.string t.x)∧Lv w' b K ts∧Mv w w' (fun k=>k=b):=by
 have cN:=QM h
 have HH:=h.hid
 unfold tkA at cN
 rw [hk] at cN
 clear h hk
 go_enter func136,ntmps136
 go_wp2_with fail
 refine cN.mono ?_
 rintro e w1 ⟨rfl,hb⟩
 have HB:Hid (yD w (zA w1 #[zU 2,.string t.x,zU t.ty,zI t.n,zI t.p] 233)):=Qd hb (Qb _ _)
 have hN:=Qc w1 (.cells #[zU 2,.string t.x,zU t.ty,zI t.n,zI t.p] 233)
 obtain⟨i,c3,f3,hmx,hL,hM,ho,_⟩:=(HH.out.on HB.out).at'
 have hbl:=HH.out.lt
 have hsz:=hb.size
 have k1:((zA w1 #[zU 2,.string t.x,zU t.ty,zI t.n,zI t.p] 233).setCell b¢3 (zI ((i:Int)+1))).cell? w1§¢1=some (.string t.x):=Qa ((ho w1§ zY).trans hN) 1
 obtain⟨W,eW⟩:∃ W,w1.alloc (.cells #[zU 2,.string t.x,zU t.ty,zI t.n,zI t.p] 233)=W:=jV
 have k0:zQ W w1§¢0 (zU 2):=by rw [← eW];exact Qa hN 0
 rw [eW] at HB c3 f3 hL hM k1
 have HL:=hL.hid
 have HM:=zH hM
 clear cN hb hN hL hM ho hbl hsz
 obtain⟨Y,eY⟩:∃ Y,W.setCell b¢3 (zI ((i:Int)+1))=Y:=jV
 rw [eY] at HL HM k1
 go_wp2_with fail
 try rw [eW]
 go_wp2
 go_ret
 first | exact⟨rfl,HL.out,(Mv.ofBelow HB.out).trans HM.out (fun k e=>.inl e)⟩ | (rw [eY];exact⟨rfl,HL.out,(Mv.ofBelow HB.out).trans HM.out (fun k e=>.inl e)⟩)
theorem Vo {w:yW}{b:Nat}{K:PK}{t:Tk}{ts:List Tk}{r:Tr}{u:Tk}{us:List Tk}(hK:KG K) (h:Lv w b K (t :: ts)) (hp:pEx (t :: ts)=some (r,u :: us)) :
  Calls zG 203 #[zP b,zI 0] w (OutE b K w r (u :: us)):=ex_y hK h hp
theorem HX.cellA {w:yW}{b:Nat}{K:PK}{V:yW}{pre post:List (Nat × Nat × Array Value)}{N:Nat}{e sz:Nat}{v:Value}{vs:List (Array Value)}{F:yW→Prop}{ts:List Tk}{T:Nat}{cs:Array Value}(h:HX w b K V (pre ++ (N,T,cs) :: post) e sz v vs F ts) (i:Nat) (hi:i < cs.size):∃ u,V.cell? N¢i=some u∧zS V N¢i:=by
 have hb:=(h.B (N,T,cs) (by simp)).1
 refine⟨cs[i],?_,Qf hb i⟩
 rw [Qa hb i,Array.getElem?_eq_getElem hi]
def nd00:Nd:=.mk ⟨0,0,0,0,0,gE,0⟩ none 0 []
theorem QgB (k o:Int) (x:yB) (s q r u m:Nd) (p:Int):set8 (doA k o x s q r u p) 3 m=doA k o x m q r u p:=by kernel_rfl
theorem HX.doSd {w:yW}{b:Nat}{K:PK}{V:yW}{post:List (Nat × Nat × Array Value)}{N:Nat}{e sz:Nat}{v:Value}{vs:List (Array Value)}{F:yW→Prop}{ts:List Tk}{k o:Int}{x:yB}{s q r u:Nd}{p:Int}(h:HX w b K V ((N,121,doA k o x s q r u p) :: post) e sz v vs F ts) (m:Nd):HX w b K ((((((((V.setCell N¢3 (zU m.h.k)).setCell N¢4 (zU m.h.o)).setCell N¢5 (zU m.h.t)).setCell N¢6 (zI m.h.n)).setCell N¢7 (zU m.h.f)).setCell N¢8 (.string m.h.x)).setCell N¢9 (.slice m.a m.ks.length m.c)).setCell N¢10 (zI m.h.p)) ((N,121,doA k o x m q r u p) :: post) e sz v vs F ts:=by
 have h':=HX.nodeA (pre:=[]) h 3 m
 rw [QgB] at h'
 exact h'
theorem QgC (k o:Int) (x:yB) (s q r u m:Nd) (p:Int):set8 (doA k o x s q r u p) 11 m=doA k o x s m r u p:=by kernel_rfl
theorem HX.doQt {w:yW}{b:Nat}{K:PK}{V:yW}{post:List (Nat × Nat × Array Value)}{N:Nat}{e sz:Nat}{v:Value}{vs:List (Array Value)}{F:yW→Prop}{ts:List Tk}{k o:Int}{x:yB}{s q r u:Nd}{p:Int}(h:HX w b K V ((N,121,doA k o x s q r u p) :: post) e sz v vs F ts) (m:Nd):HX w b K ((((((((V.setCell N¢11 (zU m.h.k)).setCell N¢12 (zU m.h.o)).setCell N¢13 (zU m.h.t)).setCell N¢14 (zI m.h.n)).setCell N¢15 (zU m.h.f)).setCell N¢16 (.string m.h.x)).setCell N¢17 (.slice m.a m.ks.length m.c)).setCell N¢18 (zI m.h.p)) ((N,121,doA k o x s m r u p) :: post) e sz v vs F ts:=by
 have h':=HX.nodeA (pre:=[]) h 11 m
 rw [QgC] at h'
 exact h'
theorem QgD (k o:Int) (x:yB) (s q r u m:Nd) (p:Int):set8 (doA k o x s q r u p) 19 m=doA k o x s q m u p:=by kernel_rfl
theorem HX.doPr {w:yW}{b:Nat}{K:PK}{V:yW}{post:List (Nat × Nat × Array Value)}{N:Nat}{e sz:Nat}{v:Value}{vs:List (Array Value)}{F:yW→Prop}{ts:List Tk}{k o:Int}{x:yB}{s q r u:Nd}{p:Int}(h:HX w b K V ((N,121,doA k o x s q r u p) :: post) e sz v vs F ts) (m:Nd):HX w b K ((((((((V.setCell N¢19 (zU m.h.k)).setCell N¢20 (zU m.h.o)).setCell N¢21 (zU m.h.t)).setCell N¢22 (zI m.h.n)).setCell N¢23 (zU m.h.f)).setCell N¢24 (.string m.h.x)).setCell N¢25 (.slice m.a m.ks.length m.c)).setCell N¢26 (zI m.h.p)) ((N,121,doA k o x s q m u p) :: post) e sz v vs F ts:=by
 have h':=HX.nodeA (pre:=[]) h 19 m
 rw [QgD] at h'
 exact h'
theorem QgA (k o:Int) (x:yB) (s q r u m:Nd) (p:Int):set8 (doA k o x s q r u p) 27 m=doA k o x s q r m p:=by kernel_rfl
theorem HX.doVl {w:yW}{b:Nat}{K:PK}{V:yW}{post:List (Nat × Nat × Array Value)}{N:Nat}{e sz:Nat}{v:Value}{vs:List (Array Value)}{F:yW→Prop}{ts:List Tk}{k o:Int}{x:yB}{s q r u:Nd}{p:Int}(h:HX w b K V ((N,121,doA k o x s q r u p) :: post) e sz v vs F ts) (m:Nd):HX w b K ((((((((V.setCell N¢27 (zU m.h.k)).setCell N¢28 (zU m.h.o)).setCell N¢29 (zU m.h.t)).setCell N¢30 (zI m.h.n)).setCell N¢31 (zU m.h.f)).setCell N¢32 (.string m.h.x)).setCell N¢33 (.slice m.a m.ks.length m.c)).setCell N¢34 (zI m.h.p)) ((N,121,doA k o x s q r m p) :: post) e sz v vs F ts:=by
 have h':=HX.nodeA (pre:=[]) h 27 m
 rw [QgA] at h'
 exact h'
theorem HX.doO {w:yW}{b:Nat}{K:PK}{V:yW}{post:List (Nat × Nat × Array Value)}{N:Nat}{e sz:Nat}{v:Value}{vs:List (Array Value)}{F:yW→Prop}{ts:List Tk}{k o:Int}{x:yB}{s q r u:Nd}{p:Int}(h:HX w b K V ((N,121,doA k o x s q r u p) :: post) e sz v vs F ts) (o':Int):HX w b K (V.setCell N¢1 (zU o')) ((N,121,doA k o' x s q r u p) :: post) e sz v vs F ts:=HX.setA (pre:=[]) h 1 (zU o')
theorem HX.doX {w:yW}{b:Nat}{K:PK}{V:yW}{post:List (Nat × Nat × Array Value)}{N:Nat}{e sz:Nat}{v:Value}{vs:List (Array Value)}{F:yW→Prop}{ts:List Tk}{k o:Int}{x:yB}{s q r u:Nd}{p:Int}(h:HX w b K V ((N,121,doA k o x s q r u p) :: post) e sz v vs F ts) (x':yB):HX w b K (V.setCell N¢2 (.string x')) ((N,121,doA k o x' s q r u p) :: post) e sz v vs F ts:=HX.setA (pre:=[]) h 2 (.string x')
theorem Xr (k o:Int) (x:yB) (s q r u:Nd) (p:Int):(doA k o x s q r u p).all (·.oneCell')=true:=by
 simp [doA,Value.oneCell']
theorem UG (k o:Int) (x:yB) (s q r u:Nd) (p:Int):(doA k o x s q r u p).size=36:=rfl
theorem J8 (V:yW) (N o:Nat) (m:Nd):V.setCells N o m.vals.toList=((((((((V.setCell N¢o (zU m.h.k)).setCell ⟨N,o+1,none⟩ (zU m.h.o)).setCell ⟨N,o+2,none⟩ (zU m.h.t)).setCell ⟨N,o+3,none⟩ (zI m.h.n)).setCell ⟨N,o+4,none⟩ (zU m.h.f)).setCell ⟨N,o+5,none⟩ (.string m.h.x)).setCell ⟨N,o+6,none⟩ (.slice m.a m.ks.length m.c)).setCell ⟨N,o+7,none⟩ (zI m.h.p)):=rfl
theorem QL {x:yB}{ts:List Tk}{q:Int × List Tk}(h:JB x ts=some q):∃ t,ts=t :: q.2∧t.x=x∧q.1=t.p:=by
 cases ts with
 | nil=>cases h
 | cons t ts =>
  simp only [JB] at h
  by_cases e:t.x=x
  ·rw [if_pos e] at h;cases h;exact⟨t,rfl,e,rfl⟩
  ·rw [if_neg e] at h;cases h
theorem JJ {ts:List Tk}{q:yB × List Tk}(h:XK ts=some q):∃ t,ts=t :: q.2∧t.k=2∧q.1=t.x:=by
 cases ts with
 | nil=>cases h
 | cons t ts =>
  simp only [XK] at h
  by_cases e:t.k=2
  ·rw [if_pos e] at h;cases h;exact⟨t,rfl,e,rfl⟩
  ·rw [if_neg e] at h;cases h
theorem P4 {L:List yB}{ts:List Tk}{q:Int × List Tk}(h:pAny L ts=some q):∃ t,ts=t :: q.2∧0≤q.1∧fnd t.x L 0=q.1:=by
 cases ts with
 | nil=>cases h
 | cons t ts =>
  simp only [pAny] at h
  by_cases e:0≤fnd t.x L 0
  ·rw [if_pos e] at h;cases h;exact⟨t,rfl,e,rfl⟩
  ·rw [if_neg e] at h;cases h
theorem QdW {ts:List Tk}{r:RegT}{ts':List Tk}(h:pReg ts=some (r,ts')):∃ t1 t2 t3 t4 us v,∃ q:Tr × List Tk,ts=t1 :: t2 :: t3 :: t4 :: us∧t1.x=Zb∧t2.k=2∧0≤v∧fnd t3.x zy 0=v∧t4.x=Zh∧QdY us=some q∧(∃ t6,q.2=t6 :: ts'∧t6.x=Z9)∧r=⟨t2.x,1+v,q.1,t1.p⟩:=by
 unfold pReg at h
 obtain⟨a,h1,h⟩:=Qo h
 obtain⟨b,h2,h⟩:=Qo h
 obtain⟨c,h3,h⟩:=Qo h
 obtain⟨d,h4,h⟩:=Qo h
 obtain⟨e,h5,h⟩:=Qo h
 obtain⟨f,h6,h⟩:=Qo h
 cases h
 obtain⟨t1,rfl,k1,k1'⟩:=QL h1
 obtain⟨t2,g2,k2,k2'⟩:=JJ h2
 obtain⟨t3,g3,k3,k3'⟩:=P4 h3
 obtain⟨t4,g4,k4,_⟩:=QL h4
 obtain⟨t6,g6,k6,_⟩:=QL h6
 exact⟨t1,t2,t3,t4,d.2,c.1,e,by rw [g2,g3,g4],k1,k2,k3,k3',k4,h5,⟨t6,g6,k6⟩,by rw [k1',k2']⟩
theorem Qb8 (x:yB) (t p:Int):#[.string x,zU t,zU 0,zU 0,zU 0,zI 0,zU 0,yQ,zO,zI 0,zI p]=RegM.vals ⟨x,t,nd00,p⟩:=rfl
theorem QhK (x x':yB) (t p:Int) (m:Nd):(RegM.vals ⟨x,t,m,p⟩).setIfInBounds 0 (.string x')=RegM.vals ⟨x',t,m,p⟩:=by kernel_rfl
theorem QhL (x:yB) (t t' p:Int) (m:Nd):(RegM.vals ⟨x,t,m,p⟩).setIfInBounds 1 (zU t')=RegM.vals ⟨x,t',m,p⟩:=by kernel_rfl
theorem QhM (x:yB) (t p:Int) (m m':Nd):set8 (RegM.vals ⟨x,t,m,p⟩) 2 m'=RegM.vals ⟨x,t,m',p⟩:=by kernel_rfl
theorem HX.rgX {w:yW}{b:Nat}{K:PK}{V:yW}{pre post:List (Nat × Nat × Array Value)}{N:Nat}{e sz:Nat}{v:Value}{vs:List (Array Value)}{F:yW→Prop}{ts:List Tk}{x:yB}{t p:Int}{m:Nd}(h:HX w b K V (pre ++ (N,102,RegM.vals ⟨x,t,m,p⟩) :: post) e sz v vs F ts) (x':yB):HX w b K (V.setCell N¢0 (.string x')) (pre ++ (N,102,RegM.vals ⟨x',t,m,p⟩) :: post) e sz v vs F ts:=by
 have h':=h.setA 0 (.string x')
 rwa [QhK] at h'
theorem HX.rgT {w:yW}{b:Nat}{K:PK}{V:yW}{pre post:List (Nat × Nat × Array Value)}{N:Nat}{e sz:Nat}{v:Value}{vs:List (Array Value)}{F:yW→Prop}{ts:List Tk}{x:yB}{t p:Int}{m:Nd}(h:HX w b K V (pre ++ (N,102,RegM.vals ⟨x,t,m,p⟩) :: post) e sz v vs F ts) (t':Int):HX w b K (V.setCell N¢1 (zU t')) (pre ++ (N,102,RegM.vals ⟨x,t',m,p⟩) :: post) e sz v vs F ts:=by
 have h':=h.setA 1 (zU t')
 rwa [QhL] at h'
theorem HX.rgM {w:yW}{b:Nat}{K:PK}{V:yW}{pre post:List (Nat × Nat × Array Value)}{N:Nat}{e sz:Nat}{v:Value}{vs:List (Array Value)}{F:yW→Prop}{ts:List Tk}{x:yB}{t p:Int}{m:Nd}(h:HX w b K V (pre ++ (N,102,RegM.vals ⟨x,t,m,p⟩) :: post) e sz v vs F ts) (m':Nd):HX w b K ((((((((V.setCell N¢2 (zU m'.h.k)).setCell N¢3 (zU m'.h.o)).setCell N¢4 (zU m'.h.t)).setCell N¢5 (zI m'.h.n)).setCell N¢6 (zU m'.h.f)).setCell N¢7 (.string m'.h.x)).setCell N¢8 (.slice m'.a m'.ks.length m'.c)).setCell N¢9 (zI m'.h.p)) (pre ++ (N,102,RegM.vals ⟨x,t,m',p⟩) :: post) e sz v vs F ts:=by
 have h':=h.nodeA 2 m'
 rwa [QhM] at h'
theorem HX.rgC {w:yW}{b:Nat}{K:PK}{V:yW}{pre post:List (Nat × Nat × Array Value)}{N:Nat}{e sz:Nat}{v:Value}{vs:List (Array Value)}{F:yW→Prop}{ts:List Tk}{r:RegM}(h:HX w b K V (pre ++ (N,102,r.vals) :: post) e sz v vs F ts) (i:Nat) (hi:i < 11):∃ u,V.cell? N¢i=some u∧zS V N¢i:=h.cellA i hi
theorem QO:(Tryz.prog.info? 102).map (·.size)=some 11:=by kernel_rfl
theorem Uq (r:RegM):r.vals.all (·.oneCell')=true:=by simp [RegM.vals,Value.oneCell']
theorem reg_l {w:yW}{b:Nat}{K:PK}{ts ts':List Tk}{r:RegT}(hK:KG K) (h:Lv w b K ts) (hp:pReg ts=some (r,ts')):Calls zG 139 #[zP b] w (OutL RegM.vals RegM.tr RegL b K w r ts'):=by
 obtain⟨t1,t2,t3,t4,us,v,q,rfl,k1,k2,hv0,hv,k4,hq,⟨t6,hq2,k6⟩,rfl⟩:=QdW hp
 have HK:Hid (KG K):=hK
 have HT1:Hid (RgT t1):=(h.ok hK.k).r
 have hrg:=QeS t3.x zy 0
 rw [hv] at hrg
 simp only [List.length_cons,List.length_nil] at hrg
 have hv6:v < 6:=by omega
 have HG0:=((HX.new h 0 0).push ze 102).hid
 clear h hK hp hrg
 obtain⟨W0,eW0⟩:∃ W,w.alloc (.cells ze 102)=W:=jV
 rw [eW0] at HG0
 have cT:=Jr HK.out HG0.out.S Zb (by decide +kernel) k1
 clear k1
 go_enter func139,ntmps139
 go_wp2_with fail
 try rw [eW0]
 refine cT.mono ?_
 rintro e w1 ⟨rfl,hs,hm⟩
 have HG1:=((HG0.out.mv hm hs).push #[yQ,zU 0,zU 0,zU 0,zU 0,zI 0,zU 0,yQ,zO,zI 0,zI t1.p] 102).hid
 clear cT hs hm HG0 eW0
 go_upto_region 2 with fail
 obtain⟨N3,eN3⟩:∃ q,w1§=q:=jV
 obtain⟨W1,eW1⟩:∃ W,w1.alloc (.cells #[yQ,zU 0,zU 0,zU 0,zU 0,zI 0,zU 0,yQ,zO,zI 0,zI t1.p] 102)=W:=jV
 rw [eW1,eN3,Qb8] at HG1
 rw [eW1,eN3]
 clear eW1 eN3
 have cN:=Xk HG1.out.S k2
 have HT2:Hid (RgT t2):=(HG1.out.S.ok HK.out.k).r
 clear k2
 go_wp2_with fail
 refine cN.mono ?_
 rintro e w2 ⟨rfl,hs,hm⟩
 have HG2:=(HG1.out.mv hm hs).hid
 obtain⟨v0,c0,f0⟩:=HX.rgC (pre:=[]) HG2.out 0 zY
 have HG3:=zH (HX.rgX (pre:=[]) HG2.out t2.x)
 clear cN hs hm HG1
 go_upto_region 3 with fail
 obtain⟨W3,eW3⟩:∃ W,w2.setCell N3¢0 (.string t2.x)=W:=jV
 rw [eW3] at HG3 ⊢
 clear eW3 HG2 c0 f0
 have cA:=Jy HG3.out.S HK.out zy (n:=6) rfl (by decide) (by decide +kernel)
 simp only [List.map] at cA
 rw [hv] at cA
 have hv2:decide (v < 0)=false:=decide_eq_false zY
 clear hv
 go_wp2_with fail
 refine cA.mono ?_
 rintro e w4 ⟨rfl,hb4⟩
 have HG4:=(HG3.out.on hb4).hid
 obtain⟨i,c3,f3,hmx,hL,hM,_,_⟩:=HG4.out.S.at'
 obtain⟨V,eV⟩:∃ V,w4.setCell b¢3 (zI ((i:Int)+1))=V:=jV
 rw [eV] at hL hM
 have HG5:=(HG4.out.mv hM hL).hid
 obtain⟨v1,c1,f1⟩:=HX.rgC (pre:=[]) HG5.out 1 zY
 have HG6:=zH (HX.rgT (pre:=[]) HG5.out (1+v))
 clear cA hb4 HG3 hL hM HG4
 go_upto_region 8 with fail
 try rw [eV]
 clear eV c3 f3 hmx
 go_upto_region 9 with fail
 obtain⟨W6,eW6⟩:∃ W,V.setCell N3¢1 (zU (1+v))=W:=jV
 rw [eW6] at HG6 ⊢
 clear eW6 c1 f1 HG5
 have cT:=Jr HK.out HG6.out.S Zh (by decide +kernel) k4
 clear k4
 go_wp2_with fail
 refine cT.mono ?_
 rintro e w7 ⟨rfl,hs,hm⟩
 have HG7:=(HG6.out.mv hm hs).hid
 have HV:Hid (0≤v∧v < 6):=⟨hv0,hv6⟩
 clear cT hs hm HG6 hv0 hv6
 have HK6:Hid (t6.x=Z9):=k6
 clear k6
 unfold QdY at hq
 by_cases hmi:pIs Zi us=true
 ·rw [if_pos hmi] at hq;cases hq
 rw [if_neg hmi] at hq
 obtain⟨q1,q2⟩:=q
 obtain⟨u,us,rfl⟩:∃ u r,us=u :: r:=by
  cases us with
  | nil=>cases hq
  | cons u r=>exact⟨u,r,rfl⟩
 simp only at hq2 ⊢
 subst hq2
 have hmi2:pIs Zi (u :: us)=false:=by simpa using hmi
 have cN:=QM HG7.out.S
 have hf:=fun v=>Q6 u v
 have HL:=zH hq
 clear hq hmi
 go_wp2_with fail
 refine cN.mono ?_
 rintro e w8 ⟨rfl,hb8⟩
 have HG8:=(HG7.out.on hb8).hid
 have cI:=is_l HK.out HG8.out.S Zi (by decide +kernel) hmi2
 clear cN hb8 HG7 hmi2
 go_wp2_with fail
 refine cI.mono ?_
 rintro e w9 ⟨rfl,hb9⟩
 have HG9:=(HG8.out.on hb9).hid
 have cL:=Qhf HK.out HG9.out.S HL.out
 clear cI hb9 HG8 HL hf
 go_wp2_with fail
 refine cL.mono ?_
 rintro e w10 ⟨m,rfl,htr,hl,hs,hm⟩
 have HTR:Hid (Qs m=q1∧∀ U,Lies U m):=⟨htr,hl⟩
 have HGa:=(HX.rowA (pre:=[]) ((HG9.out.mv hm hs).push zd 38) m.vals).hid
 have HZ:Hid ((zA w10 zd 38).heap[w10§]? = (zC zd 38)):=Qc _ _
 clear cL hs hm htr hl HG9
 go_upto_region 18 with (refine wpList_store_row rfl 38 (.tmp 7) (.tmp 59) rfl w10§ m.vals rfl rfl 38 zd HZ.out Qj rfl (all8 m) ?_)
 generalize hW:World.setRow _ _ _=W
 rw [hW] at HGa
 generalize w10§=Q at HGa ⊢
 clear HZ hW
 have HH1:=(HX.rgM (pre:=[_]) HGa.out m).hid
 rw [← J8] at HH1
 go_upto_region 21 with (first | (refine wpList_load_row rfl 38 (.tmp 7) rfl Q rfl 38 m.vals (0,0) _ HGa.out.b0 underlying38 rfl Qj ?_) | (refine wpList_store_mid rfl 38 (.tmp 66) (.tmp 65) rfl N3 2 m.vals rfl rfl (fun j hj=>by obtain⟨u,h1,h2⟩:=HX.rgC (pre:=[_]) HGa.out (2+j) (by have:j < 8:=hj;omega);exact⟨by rw [h1];rfl,h2⟩) Qj (all8 m) ?_))
 generalize World.setCells _ _ _ _=Y1 at HH1 ⊢
 have cT:=Jr HK.out HH1.out.S Z9 (by decide +kernel) HK6.out
 clear HGa
 go_wp2_with fail
 refine cT.mono ?_
 rintro e w12 ⟨rfl,hs,hm⟩
 have HG12:=((HH1.out.mv hm hs).pop).hid
 clear cT hs hm HH1
 have HF:=(HX.rowA (pre:=[_]) HG12.out (RegM.vals ⟨t2.x,(1+v),m,t1.p⟩)).hid
 go_wp2_with (first | (refine wpList_load_row rfl 102 (.tmp 3) rfl N3 rfl 102 (RegM.vals ⟨t2.x,(1+v),m,t1.p⟩) (0,0) _ HG12.out.b0 underlying102 rfl QO ?_) | (refine wpList_store_row rfl 102 (.tmp 2) (.tmp 75) rfl w§ (RegM.vals ⟨t2.x,(1+v),m,t1.p⟩) rfl rfl 102 ze HG12.out.b1 QO rfl (Uq _) ?_))
 refine bodyPost_ret (results_cell_row rfl _ _ w§ 102 (RegM.vals ⟨t2.x,(1+v),m,t1.p⟩) (0,0) _ rfl HF.out.b1 underlying102 rfl QO) rfl ⟨⟨t2.x,1+v,m,t1.p⟩,rfl,?_,HF.out.fin.1.imp fun U hU=>⟨HTR.out.2 U,?_,⟨HT1.out.p0,HT1.out.p1⟩,HT2.out.x1⟩,HF.out.S,HF.out.M⟩
 ·show RegT.mk t2.x (1+v) (Qs m) t1.p=_
  rw [HTR.out.1]
 ·have:=HV.out
  exact⟨by show 0≤1+v;omega,by show 1+v≤255;omega⟩
end Go.Proofs.YtfbjofnaghjmeaaGreatDoor
