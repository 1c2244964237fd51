import Derived.Test.YtfbjofnaghjmeaaGreatDoorA0
import Derived.Test.YtfbjofnaghjmeaaGreatDoorA12
namespace Go.Proofs.YtfbjofnaghjmeaaGreatDoor
set_option maxHeartbeats 4000000
set_option maxRecDepth 100000
open Go.RowKit
set_option linter.unusedVariables false
theorem opt_bind {α β:Type}{x:Option α}{f:α→Option β}{y:β}(h:x.bind f=some y):∃ a,x=some a∧f a=some y:=by
 cases x with
 | none=>cases h
 | some a=>exact⟨a,rfl,h⟩
theorem pNo_inv {L:List yB}{ts:List Tk}(h:pNo L ts=true):∃ t us,ts=t :: us∧fnd t.x L 0 = -1:=by
 cases ts with
 | nil=>cases h
 | cons t us=>exact⟨t,us,rfl,by simpa [pNo] using h⟩
theorem lies_two {U:yW}{m k:Nd}{h:Hd}{G:Nat}(hr:Rg h) (hm:Lies U m) (hk:Lies U k) (hG:U.heap[G]? = (zC (m.vals ++ k.vals) 38)):Lies U (.mk h (some G¢0) 2 [m,k]):=by
 obtain⟨⟨k2,o2,ty2,n2,f2,x2,p2⟩,am2,cm2,ks2⟩:=m
 obtain⟨⟨k3,o3,ty3,n3,f3,x3,p3⟩,am3,cm3,ks3⟩:=k
 refine .mk _ _ _ _ hr (by simp) (by simp) (fun i hi=>⟨G,0,rfl,?_⟩) (fun q hq=>?_)
 ·match i,hi with
  | 0,_=>exact⟨cell_of hG 0,cell_of hG 1,cell_of hG 2,cell_of hG 3,cell_of hG 4,cell_of hG 5,cell_of hG 6,cell_of hG 7⟩
  | 1,_=>exact⟨cell_of hG 8,cell_of hG 9,cell_of hG 10,cell_of hG 11,cell_of hG 12,cell_of hG 13,cell_of hG 14,cell_of hG 15⟩
 ·rcases List.mem_cons.1 hq with e | e
  ·rw [e]; exact hm
  ·rw [List.mem_singleton.1 e]; exact hk
theorem two_y (o at':Int) (m k:Nd) (w:yW) :
  Calls zG 225 #[zU o,zI at',.agg m.vals,.agg k.vals] w fun e w'=>∃ G,e=.returned (.agg (Nd.mk ⟨6,o,0,0,0,gE,at'⟩ (some G¢0) 2 [m,k]).vals)∧yD w w'∧w§≤G∧G < w'§∧w'.heap[G]? = (zC (m.vals ++ k.vals) 38):=by
 have b1:=below_new w (.cells m.vals 38)
 have b2:=below_new (w.alloc (.cells m.vals 38)) (.cells k.vals 38)
 have b3:=below_new ((w.alloc (.cells m.vals 38)).alloc (.cells k.vals 38)) (.cells zNo 38)
 have n1:=heap_new w (.cells m.vals 38)
 have n2:=heap_new (w.alloc (.cells m.vals 38)) (.cells k.vals 38)
 have n3:=heap_new ((w.alloc (.cells m.vals 38)).alloc (.cells k.vals 38)) (.cells zNo 38)
 have sz:(((w.alloc (.cells m.vals 38)).alloc (.cells k.vals 38)).alloc (.cells zNo 38))§=w§+3:=by simp only [size_alloc]
 have n1:=((below2 b2 b3).block _ (by rw [size_alloc]; omega)).trans n1
 have n2:=(b3.block _ (by simp only [size_alloc]; omega)).trans n2
 simp only [size_alloc] at n2 n3
 have HB:Hid (yD w _):=below2 (below2 b1 b2) b3
 clear b1 b2 b3
 go_enter Tryz.func225,Tryz.ntmps225
 go_upto_region 1 with fail
 generalize ((w.alloc (.cells m.vals 38)).alloc (.cells k.vals 38)).alloc _=V at HB n1 n2 n3 sz ⊢
 have H1:Hid (V.heap[w§]? = (zC m.vals 38)):=n1
 have H2:Hid (V.heap[w§+1]? = (zC k.vals 38)):=n2
 have bU:=below_new V (.cells (m.vals ++ k.vals) 38)
 have hU:=heap_new V (.cells (m.vals ++ k.vals) 38)
 have hR:=(bU.block (w§+2) (by omega)).trans n3
 have hs:=size_alloc V (.cells (m.vals ++ k.vals) 38)
 rw [sz] at hU hs
 have HW:Hid (yD w (V.alloc (.cells (m.vals ++ k.vals) 38))∧(V.alloc (.cells (m.vals ++ k.vals) 38)).heap[w§+3]? = (zC (m.vals ++ k.vals) 38)∧(V.alloc (.cells (m.vals ++ k.vals) 38)).heap[w§+2]? = (zC zNo 38)∧(V.alloc (.cells (m.vals ++ k.vals) 38))§=w§+4):=⟨below2 HB.out bU,hU,hR,hs⟩
 have HZ:Hid (V§=w§+3):=sz
 clear n1 n2 n3 sz HB bU hU hR hs
 go_wp2_with (first | (refine wpList_load_row rfl 38 (.tmp 6) rfl w§ rfl 38 m.vals (0,0) _ H1.out Tryz.underlying38 rfl size64' ?_) | (refine wpList_load_row rfl 38 (.tmp 7) rfl (w§+1) rfl 38 k.vals (0,0) _ H2.out Tryz.underlying38 rfl size64' ?_) | (refine wpList_slice2 rfl 36 38 (.tmp 10) (.tmp 11) rfl m.vals k.vals rfl rfl 8 _ zK 72 inf48 rfl rfl rfl (by omega) (by omega) ?_; rw [HZ.out]) | (refine wpList_store_row rfl 38 (.tmp 8) (.tmp 14) rfl (w§+2) #[zU 6,zU o,zU 0,zI 0,zU 0,yQ,.slice (some ⟨w§+3,0,none⟩) 2 2,zI at'] rfl rfl 38 _ HW.out.2.2.1 size64' rfl (by simp [Value.oneCell']) ?_))
 refine bodyPost_ret (results_cell_row rfl _ _ (w§+2) 38 #[zU 6,zU o,zU 0,zI 0,zU 0,yQ,.slice (some ⟨w§+3,0,none⟩) 2 2,zI at'] (0,0) _ rfl (setRow_heap _ _ _ _ _ _ HW.out.2.2.1) Tryz.underlying38 rfl size64') rfl ⟨w§+3,rfl,below_row HW.out.1 (by omega) _,by omega,?_,(setRow_oth _ _ _ (by omega)).trans HW.out.2.1⟩
 have:=HW.out.2.2.2
 unfold World.setRow
 simp only [Array.size_modify]
 omega
theorem fnd_ge (y:yB):∀ (L:List yB) (k:Nat),-1≤fnd y L k:=by
 intro L
 induction L with
 | nil=>intro k; exact Int.le_refl _
 | cons x xs ih =>
  intro k
  rw [fnd]
  by_cases e:y=x
  ·rw [if_pos e]; omega
  ·rw [if_neg e]; exact ih _
theorem fnd_rg (y:yB) (L:List yB) (k:Nat):-1≤fnd y L k∧fnd y L k < k+L.length:=⟨fnd_ge y L k,fnd_lt y L k⟩
theorem fnd_mem (y:yB):∀ (L:List yB) (k:Nat),0≤fnd y L k→y ∈ L:=by
 intro L
 induction L with
 | nil=>intro k h; exact absurd h (by simp [fnd])
 | cons x xs ih =>
  intro k h
  rw [fnd] at h
  by_cases e:y=x
  ·subst e; simp
  ·rw [if_neg e] at h
   exact List.mem_cons_of_mem _ (ih _ h)
theorem fnd_dis {y:yB}{L M:List yB}(h:0≤fnd y L 0) (hM:L.all (fun x=>fnd x M 0 == -1)=true):fnd y M 0 = -1:=by
 have:=List.all_eq_true.1 hM y (fnd_mem y L 0 h)
 simpa using this
theorem one_conv {w:yW}{b:Nat}{K:PK}{t:Tk}{ts ts':List Tk}{r:Tr}(d:Int) (hK:KG K) (h:Lv w b K (t :: ts)) (hk:t.k=1) {v:Int}(hv:fnd t.x LT 0=v) (h0:0≤v)
  (cC:∀ w',Lv w' b K (t :: ts)→Calls zG 255 #[zP b,.agg #[zU 9,zU 0,zU (1+v),zI 0,zU 0,yQ,.slice none 0 0,zI t.p],zI 1,zI d] w' (OutE b K w' r ts')) :
  Calls zG 254 #[zP b,zI d] w (OutE b K w r ts'):=by
 have hf:0≤fnd t.x LT 0:=by rw [hv]; exact h0
 have h6:v < 4:=by rw [← hv]; exact fnd_lt t.x LT 0
 have HV:Hid (fnd t.x LF 0 = -1∧fnd t.x LA 0 = -1∧fnd t.x LT 0=v):=⟨fnd_dis hf (by decide +kernel),fnd_dis hf (by decide +kernel),hv⟩
 have HR:Hid (∀ w',Lv w' b K (t :: ts)→Calls zG 255 #[zP b,.agg #[zU 9,zU 0,zU (1+v),zI 0,zU 0,yQ,.slice none 0 0,zI t.p],zI 1,zI d] w' (OutE b K w' r ts')):=cC
 have HK:Hid (KG K):=hK
 have HG0:=((HX.new h 0 0).push zNo 38).hid
 obtain⟨W0,eW0⟩:∃ W,w.alloc (.cells zNo 38)=W:=⟨_,rfl⟩
 rw [eW0] at HG0
 have cL:=nolit_word HG0.out.S hk (str_nl (l:=#[116,114,117,101]) (fnd_ne hf (by decide +kernel))) (str_nl (l:=#[102,97,108,115,101]) (fnd_ne hf (by decide +kernel))) (str_nl (l:=#[98,117,121]) (fnd_ne hf (by decide +kernel))) (str_nl (l:=#[115,101,108,108]) (fnd_ne hf (by decide +kernel)))
 clear h hK hf hv cC
 go_enter Tryz.func254,Tryz.ntmps254
 go_wp2_with fail
 try rw [eW0]
 refine cL.mono ?_
 rintro e w1 ⟨rfl,hb⟩
 have HG1:=((HG0.out.on hb).push zNo 38).hid
 have cN:=live_now HG1.out.S
 unfold tkA at cN
 rw [hk] at cN
 clear hk
 clear cL hb HG0 eW0
 go_wp2_with fail
 refine cN.mono ?_
 rintro e w2 ⟨rfl,hb⟩
 have HG2:=((HG1.out.on hb).push #[zU 1,.string t.x,zU t.ty,zI t.n,zI t.p] 233).hid
 clear cN hb HG1
 go_upto_region 5 with fail
 generalize w2.alloc _=W2 at HG2 ⊢
 generalize w2§=Q at HG2 ⊢
 have k0:=cell_of HG2.out.b0 0
 have k1:=cell_of HG2.out.b0 1
 have k4:=cell_of HG2.out.b0 4
 simp only [List.getElem?_toArray,List.getElem?_cons_zero,List.getElem?_cons_succ] at k0 k1 k4
 have cA:=any_y HG2.out.S HK.out LF (n:=6) rfl (by decide) (by decide +kernel)
 rw [HV.out.1] at cA
 simp only [LF,List.map] at cA
 go_upto_region 8 with fail
 clear k0 k1 k4
 go_wp2_with fail
 refine cA.mono ?_
 rintro e w3 ⟨rfl,hb⟩
 have HG3:=(HG2.out.on hb).hid
 clear cA hb HG2
 have cA:=any_y HG3.out.S HK.out LA (n:=3) rfl (by decide) (by decide +kernel)
 rw [HV.out.2.1] at cA
 simp only [LA,List.map] at cA
 go_wp2_with fail
 refine cA.mono ?_
 rintro e w4 ⟨rfl,hb⟩
 have HG4:=(HG3.out.on hb).hid
 clear cA hb HG3
 have cA:=any_y HG4.out.S HK.out LT (n:=4) rfl (by decide) (by decide +kernel)
 rw [HV.out.2.2] at cA
 simp only [LT,List.map] at cA
 go_wp2_with fail
 refine cA.mono ?_
 rintro e w5 ⟨rfl,hb⟩
 have HG5:=(HG4.out.on hb).hid
 clear cA hb HG4
 have cR:=HR.out _ HG5.out.S
 have k4:=cell_of HG5.out.b0 4
 simp only [List.getElem?_toArray,List.getElem?_cons_zero,List.getElem?_cons_succ] at k4
 go_wp2_with fail
 refine cR.mono ?_
 rintro e w6 ⟨m,rfl,htr,hdp,hs,hm⟩
 have HT:Hid (treeOf m=r):=htr
 have HG6:=(HG5.out.add hm hs hdp).hid
 have HF:=(HX.rowA (pre:=[_,_]) HG6.out m.vals).hid
 clear cR htr hdp hs hm HG5 k4
 go_wp2_with (refine wpList_store_row rfl 38 (.tmp 4) (.tmp 82) rfl w§ m.vals rfl rfl 38 _ HG6.out.b2 size64' rfl (all8 m) ?_)
 exact bodyPost_ret (results_cell_row rfl _ _ w§ 38 m.vals (0,0) _ rfl HF.out.b2 Tryz.underlying38 rfl size64') rfl (out_y HF.out HT.out fun U hU=>hU.2)
theorem one_y {w:yW}{b:Nat}{K:PK}{ts ts':List Tk}{r:Tr}(d:Int) (hK:KG K) (h:Lv w b K ts) (hp:pOne ts=some (r,ts')) :
  Calls zG 254 #[zP b,zI d] w (OutE b K w r ts'):=by
 cases ts with
 | nil=>cases hp
 | cons t ts =>
  simp only [pOne] at hp
  by_cases h2:t.k=2
  ·rw [if_pos h2] at hp
   cases hp
   exact one_name d hK h h2
  rw [if_neg h2] at hp
  by_cases h1:t.k=1∧0≤fnd t.x LF 0
  ·rw [if_pos h1] at hp
   cases hp
   exact one_field d hK h h1.1 rfl h1.2
  rw [if_neg h1] at hp
  by_cases h3:t.k=1∧t.x=Zm
  ·rw [if_pos h3] at hp
   cases ts with
   | nil=>cases hp
   | cons u us =>
    simp only at hp
    by_cases h4:0≤fnd u.x LH 0
    ·rw [if_pos h4] at hp
     cases hp
     exact one_rest d hK h h3.1 (by rw [h3.2]; decide +kernel) (by rw [h3.2]; decide +kernel) (by rw [h3.2]; decide +kernel) (by rw [h3.2]; decide +kernel) (by rw [h3.2]; decide +kernel) fun v hv=>has_y d hK hv h3.2 rfl h4
    ·rw [if_neg h4] at hp; cases hp
  ·rw [if_neg h3] at hp
   exact one_lit d hK h hp
theorem one_c {w:yW}{b:Nat}{K:PK}{ex:List Tk→Option (Tr × List Tk)}{ts ts':List Tk}{r:Tr}(d:Nat) (hd:d < 24) (cE:∀ (w:yW) (ts ts':List Tk) (r:Tr),Lv w b K ts→ex ts=some (r,ts')→Calls zG 203 #[zP b,zI ((d:Int)+1)] w (OutE b K w r ts')) (hK:KG K) (h:Lv w b K ts) (hp:pOneC ex ts=some (r,ts')) :
  Calls zG 254 #[zP b,zI d] w (OutE b K w r ts'):=by
 cases ts with
 | nil=>cases hp
 | cons t ts =>
  simp only [pOneC] at hp
  by_cases h1:t.k=1∧0≤fnd t.x LT 0
  ·rw [if_pos h1] at hp
   cases ts with
   | nil=>cases hp
   | cons u us =>
    simp only at hp
    by_cases h2:u.x=⟨#[40]⟩
    ·rw [if_pos h2] at hp
     obtain⟨⟨a,a2⟩,ha,hp⟩:=opt_bind hp
     cases a2 with
     | nil=>cases hp
     | cons v vs =>
      simp only at hp
      by_cases h3:v.x=⟨#[41]⟩
      ·rw [if_pos h3] at hp
       cases hp
       have hr:=(h.ok hK.k).r
       have h4:=fnd_lt t.x LT 0
       refine one_conv d hK h h1.1 rfl h1.2 fun w' hw=>call_y _ _ d hd hK hw ?_ h2 h3 fun w'' hw2=>cE _ _ _ _ hw2 ha
       have:=hr.p0; have:=hr.p1; have:=h1.2
       simp only [LT,List.length_cons,List.length_nil] at h4
       have h5:0≤fnd t.x LT 0:=h1.2
       have h6:fnd t.x LT 0 < 4:=h4
       constructor <;> first | assumption | omega | (simp only; omega) | (show gE.size≤140737488355328; decide)
      ·rw [if_neg h3] at hp; cases hp
    ·rw [if_neg h2] at hp; cases hp
  ·rw [if_neg h1] at hp
   exact one_y d hK h hp
theorem un_y {w:yW}{b:Nat}{K:PK}{one:List Tk→Option (Tr × List Tk)}{ts ts':List Tk}{r:Tr}(d:Int) (cO:∀ (w:yW) (ts ts':List Tk) (r:Tr),Lv w b K ts→one ts=some (r,ts')→Calls zG 254 #[zP b,zI d] w (OutE b K w r ts')) (hK:KG K) (h:Lv w b K ts) (hp:pUn one ts=some (r,ts')) :
  Calls zG 253 #[zP b,zI d] w (OutE b K w r ts'):=by
 unfold pUn at hp
 by_cases hn:pNo LU ts=true
 ·rw [if_pos hn] at hp
  obtain⟨t,us,rfl,hv⟩:=pNo_inv hn
  have HK:Hid (KG K):=hK
  have HG0:=((HX.new h 0 0).push zNo 38).hid
  obtain⟨W0,eW0⟩:∃ W,w.alloc (.cells zNo 38)=W:=⟨_,rfl⟩
  rw [eW0] at HG0
  have HO:Hid (∀ v,Lv v b K (t :: us)→Calls zG 254 #[zP b,zI d] v (OutE b K v r ts')):=fun v hv=>cO _ _ _ _ hv hp
  have cA:=any_y HG0.out.S hK LU (n:=2) rfl (by decide) (by decide +kernel)
  rw [hv] at cA
  simp only [LU,List.map] at cA
  clear h hp hK hn hv cO
  go_enter Tryz.func253,Tryz.ntmps253
  go_wp2_with fail
  try rw [eW0]
  refine cA.mono ?_
  rintro e w1 ⟨rfl,hb⟩
  have HG1:=(HG0.out.on hb).hid
  have cO:=HO.out _ HG1.out.S
  clear cA hb HG0 eW0
  go_wp2_with fail
  refine cO.mono ?_
  rintro e w2 ⟨m,rfl,htr,hdp,hs,hm⟩
  have HG2:=(HG1.out.add hm hs hdp).hid
  have HR:Hid (treeOf m=r):=htr
  have HF:=(HX.rowA (pre:=[]) HG2.out m.vals).hid
  clear cO htr hdp hs hm HG1
  go_wp2_with (refine wpList_store_row rfl 38 (.tmp 4) (.tmp 16) rfl w§ m.vals rfl rfl 38 _ HG2.out.b0 size64' rfl (all8 m) ?_)
  exact bodyPost_ret (results_cell_row rfl _ _ w§ 38 m.vals (0,0) _ rfl HF.out.b0 Tryz.underlying38 rfl size64') rfl (out_y HF.out HR.out fun U hU=>hU.2)
 ·rw [if_neg hn] at hp; cases hp
theorem pro_y {w:yW}{b:Nat}{K:PK}{ts ts':List Tk}{r:Tr}(d:Int) {part:List Tk→Option (Tr × List Tk)}(cP:∀ (w:yW) (ts ts':List Tk) (r:Tr),Lv w b K ts→part ts=some (r,ts')→Calls zG 253 #[zP b,zI d] w (OutE b K w r ts')) (hK:KG K) (h:Lv w b K ts) (hp:pRow LP 8 part ts=some (r,ts')) :
  Calls zG 251 #[zP b,zI d] w (OutE b K w r ts'):=by
 obtain⟨⟨a,a2⟩,ha,hp⟩:=opt_bind hp
 obtain⟨t,us,rfl⟩:∃ t us,a2=t :: us:=by
  cases a2 with
  | nil=>cases hp
  | cons t us=>exact⟨t,us,rfl⟩
 have HP:Hid (∀ (w:yW) (ts ts':List Tk) (r:Tr),Lv w b K ts→part ts=some (r,ts')→Calls zG 253 #[zP b,zI d] w (OutE b K w r ts')):=cP
 have HK:Hid (KG K):=hK
 have HG0:=((HX.new h 0 0).push zNo 38).hid
 obtain⟨W0,eW0⟩:∃ W,w.alloc (.cells zNo 38)=W:=⟨_,rfl⟩
 rw [eW0] at HG0
 have cP:=cP _ _ _ _ HG0.out.S ha
 have HQ:Hid ((if pNo LP (t :: us) then some (a,t :: us) else (part us).bind fun d=>if pNo LP d.2 then some (Tr.mk ⟨6,8+fnd t.x LP 0,0,0,0,gE,t.p⟩ [a,d.1],d.2) else none)=some (r,ts')):=hp
 clear ha
 clear h hp hK
 go_enter Tryz.func251,Tryz.ntmps251
 go_wp2_with fail
 try rw [eW0]
 refine cP.mono ?_
 rintro e w1 ⟨m,rfl,htr,hdp,hs,hm⟩
 have HR:Hid (treeOf m=a):=htr
 have HG1:=(HX.rowA (pre:=[]) ((HG0.out.add hm hs hdp).push zNo 38) m.vals).hid
 have HZ:Hid ((w1.alloc (.cells zNo 38)).heap[w1§]? = (zC zNo 38)):=heap_new _ _
 clear cP htr hdp hs hm HG0 eW0
 go_upto_region 2 with (refine wpList_store_row rfl 38 (.tmp 5) (.tmp 11) rfl w1§ m.vals rfl rfl 38 zNo HZ.out size64' rfl (all8 m) ?_)
 generalize hW:World.setRow _ _ _=W1
 rw [hW] at HG1
 generalize w1§=N at HG1 ⊢
 clear HZ hW
 have cI:=any_y HG1.out.S HK.out LP (n:=3) rfl (by decide) (by decide +kernel)
 have hq:=HQ.out
 rw [show pNo LP (t :: us)=(fnd t.x LP 0 == -1) from rfl] at hq
 have hlt:=fnd_lt t.x LP 0
 have hge:=fnd_ge t.x LP 0
 obtain⟨v,hv⟩:∃ v,fnd t.x LP 0=v:=⟨_,rfl⟩
 rw [hv] at cI hq hlt hge
 simp only [LP,List.length_cons,List.length_nil] at hlt
 simp only [LP,List.map] at cI
 refine wp_loop_rounds 2 ?_
 rw [rounds_succ]
 by_cases hn:v = -1
 ·subst hn
  simp only [beq_self_eq_true,if_true,Option.some.injEq,Prod.mk.injEq] at hq
  obtain⟨rfl,rfl⟩:=hq
  clear HP HQ hv hlt hge
  go_wp2_with fail
  refine cI.mono ?_
  rintro e w2 ⟨rfl,hb⟩
  have HG2:=(HG1.out.on hb).hid
  clear cI hb HG1
  have HF:=(HX.rowA (pre:=[_]) HG2.out m.vals).hid
  go_wp2_with (first | (refine wpList_load_row rfl 38 (.tmp 5) rfl N rfl 38 m.vals (0,0) _ HG2.out.b0 Tryz.underlying38 rfl size64' ?_) | (refine wpList_store_row rfl 38 (.tmp 4) (.tmp 17) rfl w§ m.vals rfl rfl 38 _ HG2.out.b1 size64' rfl (all8 _) ?_))
  exact bodyPost_ret (results_cell_row rfl _ _ w§ 38 m.vals (0,0) _ rfl HF.out.b1 Tryz.underlying38 rfl size64') rfl (out_y HF.out HR.out fun U hU=>hU.2)
 ·have hb:(v == -1)=false:=by simpa using hn
  simp only [hb,Bool.false_eq_true,if_false] at hq
  obtain⟨q,hq1,hq2⟩:=opt_bind hq
  obtain⟨rfl,rfl,t2,us2,h2,hv2⟩:Tr.mk ⟨6,8+v,0,0,0,gE,t.p⟩ [a,q.1]=r∧q.2=ts'∧∃ t us,q.2=t :: us∧fnd t.x LP 0 = -1:=by
   by_cases hn:pNo LP q.2=true
   ·rw [if_pos hn] at hq2; cases hq2; exact⟨rfl,rfl,pNo_inv hn⟩
   ·rw [if_neg hn] at hq2; cases hq2
  have HQ2:Hid (part us=some (q.1,t2 :: us2)∧fnd t2.x LP 0 = -1):=⟨by rw [hq1,← h2],hv2⟩
  rw [h2]
  have hv0:¬ v < 0:=by omega
  have hv3:decide (v < 0)=false:=decide_eq_false hv0
  have hv5:0≤v:=by omega
  have hv6:v < 3:=by omega
  clear HQ hv hlt hge hb hq hq1 hq2 h2 hv2 hn
  go_wp2_with fail
  refine cI.mono ?_
  rintro e w2 ⟨rfl,hb⟩
  have HG2:=(HG1.out.on hb).hid
  have cN:=live_now HG2.out.S
  have hf:=fun v=>field82_4 t v
  have HT:Hid (RgT t):=(HG2.out.S.ok HK.out.k).r
  clear cI hb HG1
  go_wp2_with fail
  refine cN.mono ?_
  rintro e w3 ⟨rfl,hb⟩
  have HG3:=(HG2.out.on hb).hid
  obtain⟨i,c3,f3,hmx,hL,hM,_,_⟩:=HG3.out.S.at'
  have HG4:=(HG3.out.mv hM hL).hid
  have cQ:=HP.out _ _ _ _ HG4.out.S HQ2.out.1
  clear cN hb HG2 HG3 hL hM
  go_upto_region 7 with fail
  generalize eV:w3.setCell b¢3 _=V at HG4 cQ ⊢
  clear eV c3 f3 hmx
  go_wp2_with fail
  refine cQ.mono ?_
  rintro e w5 ⟨k,rfl,htr,hdp,hs,hm⟩
  have HR2:Hid (treeOf k=q.1):=htr
  have HG5:=(HX.rowA (pre:=[]) ((HG4.out.add hm hs hdp).push zNo 38) k.vals).hid
  have HZ:Hid ((w5.alloc (.cells zNo 38)).heap[w5§]? = (zC zNo 38)):=heap_new _ _
  clear cQ htr hdp hs hm HG4
  go_upto_region 8 with (refine wpList_store_row rfl 38 (.tmp 8) (.tmp 30) rfl w5§ k.vals rfl rfl 38 zNo HZ.out size64' rfl (all8 k) ?_)
  generalize hW:World.setRow _ _ _=W5
  rw [hW] at HG5
  generalize w5§=N2 at HG5 ⊢
  clear HZ hW
  have c8:=two_y (8+v) t.p m k W5
  go_wp2_with (first | (refine wpList_load_row rfl 38 (.tmp 5) rfl N rfl 38 m.vals (0,0) _ HG5.out.b1 Tryz.underlying38 rfl size64' ?_) | (refine wpList_load_row rfl 38 (.tmp 8) rfl N2 rfl 38 k.vals (0,0) _ HG5.out.b0 Tryz.underlying38 rfl size64' ?_))
  refine c8.mono ?_
  rintro e w7 ⟨G,rfl,hb,hG1,hG2,hG3⟩
  have HG7:=((HG5.out.add (Mv.ofBelow hb) (HG5.out.S.on hb) (G:=fun U=>U.heap[G]? = (zC (m.vals ++ k.vals) 38)) fun U hU=>(hU G hG1 hG2).trans hG3).pop).hid
  have HG8:=(HX.rowA (pre:=[]) HG7.out (Nd.mk ⟨6,8+v,0,0,0,gE,t.p⟩ (some G¢0) 2 [m,k]).vals).hid
  clear c8 hb hG1 hG2 hG3 HG5
  have HRR:Hid (Rg ⟨6,8+v,0,0,0,gE,t.p⟩):=by
   have hr:=HT.out
   have:=hr.p0; have:=hr.p1
   constructor <;> first | assumption | omega | (simp only; omega) | (show gE.size≤140737488355328; decide)
  clear hv0 hv3 hv5 hv6
  go_wp2_with (refine wpList_store_row rfl 38 (.tmp 5) (.tmp 37) rfl N (Nd.mk ⟨6,8+v,0,0,0,gE,t.p⟩ (some G¢0) 2 [m,k]).vals rfl rfl 38 _ HG7.out.b0 size64' rfl (all8 _) ?_)
  generalize hW:World.setRow _ _ _=W8
  rw [hW] at HG8
  clear hW HG7
  have cI:=any_y HG8.out.S HK.out LP (n:=3) rfl (by decide) (by decide +kernel)
  rw [HQ2.out.2] at cI
  simp only [LP,List.map] at cI
  rw [rounds_succ]
  go_wp2_with fail
  refine cI.mono ?_
  rintro e w9 ⟨rfl,hb⟩
  have HG9:=(HG8.out.on hb).hid
  clear cI hb HG8
  generalize eB:Nd.mk ⟨6,8+v,0,0,0,gE,t.p⟩ (some G¢0) 2 [m,k]=B at HG9 ⊢
  have HB:Hid (treeOf B=Tr.mk ⟨6,8+v,0,0,0,gE,t.p⟩ [a,q.1]∧∀ U,(((True∧Lies U m)∧Lies U k)∧U.heap[G]? = (zC (m.vals ++ k.vals) 38))→Lies U B):=by
   rw [← eB]
   refine⟨?_,fun U hU=>lies_two HRR.out hU.1.1.2 hU.1.2 hU.2⟩
   show Tr.mk _ [treeOf m,treeOf k]=_
   rw [HR.out,HR2.out]
  clear eB
  have HF:=(HX.rowA (pre:=[_]) HG9.out B.vals).hid
  go_wp2_with (first | (refine wpList_load_row rfl 38 (.tmp 5) rfl N rfl 38 B.vals (0,0) _ HG9.out.b0 Tryz.underlying38 rfl size64' ?_) | (refine wpList_store_row rfl 38 (.tmp 4) (.tmp 17) rfl w§ B.vals rfl rfl 38 _ HG9.out.b1 size64' rfl (all8 _) ?_))
  exact bodyPost_ret (results_cell_row rfl _ _ w§ 38 B.vals (0,0) _ rfl HF.out.b1 Tryz.underlying38 rfl size64') rfl (out_y HF.out HB.out.1 HB.out.2)
theorem sum_y {w:yW}{b:Nat}{K:PK}{ts ts':List Tk}{r:Tr}(d:Int) {part:List Tk→Option (Tr × List Tk)}(cP:∀ (w:yW) (ts ts':List Tk) (r:Tr),Lv w b K ts→part ts=some (r,ts')→Calls zG 251 #[zP b,zI d] w (OutE b K w r ts')) (hK:KG K) (h:Lv w b K ts) (hp:pRow LS 6 part ts=some (r,ts')) :
  Calls zG 248 #[zP b,zI d] w (OutE b K w r ts'):=by
 obtain⟨⟨a,a2⟩,ha,hp⟩:=opt_bind hp
 obtain⟨t,us,rfl⟩:∃ t us,a2=t :: us:=by
  cases a2 with
  | nil=>cases hp
  | cons t us=>exact⟨t,us,rfl⟩
 have HP:Hid (∀ (w:yW) (ts ts':List Tk) (r:Tr),Lv w b K ts→part ts=some (r,ts')→Calls zG 251 #[zP b,zI d] w (OutE b K w r ts')):=cP
 have HK:Hid (KG K):=hK
 have HG0:=((HX.new h 0 0).push zNo 38).hid
 obtain⟨W0,eW0⟩:∃ W,w.alloc (.cells zNo 38)=W:=⟨_,rfl⟩
 rw [eW0] at HG0
 have cP:=cP _ _ _ _ HG0.out.S ha
 have HQ:Hid ((if pNo LS (t :: us) then some (a,t :: us) else (part us).bind fun d=>if pNo LS d.2 then some (Tr.mk ⟨6,6+fnd t.x LS 0,0,0,0,gE,t.p⟩ [a,d.1],d.2) else none)=some (r,ts')):=hp
 clear ha
 clear h hp hK
 go_enter Tryz.func248,Tryz.ntmps248
 go_wp2_with fail
 try rw [eW0]
 refine cP.mono ?_
 rintro e w1 ⟨m,rfl,htr,hdp,hs,hm⟩
 have HR:Hid (treeOf m=a):=htr
 have HG1:=(HX.rowA (pre:=[]) ((HG0.out.add hm hs hdp).push zNo 38) m.vals).hid
 have HZ:Hid ((w1.alloc (.cells zNo 38)).heap[w1§]? = (zC zNo 38)):=heap_new _ _
 clear cP htr hdp hs hm HG0 eW0
 go_upto_region 2 with (refine wpList_store_row rfl 38 (.tmp 5) (.tmp 11) rfl w1§ m.vals rfl rfl 38 zNo HZ.out size64' rfl (all8 m) ?_)
 generalize hW:World.setRow _ _ _=W1
 rw [hW] at HG1
 generalize w1§=N at HG1 ⊢
 clear HZ hW
 have cI:=any_y HG1.out.S HK.out LS (n:=2) rfl (by decide) (by decide +kernel)
 have hq:=HQ.out
 rw [show pNo LS (t :: us)=(fnd t.x LS 0 == -1) from rfl] at hq
 have hlt:=fnd_lt t.x LS 0
 have hge:=fnd_ge t.x LS 0
 obtain⟨v,hv⟩:∃ v,fnd t.x LS 0=v:=⟨_,rfl⟩
 rw [hv] at cI hq hlt hge
 simp only [LS,List.length_cons,List.length_nil] at hlt
 simp only [LS,List.map] at cI
 refine wp_loop_rounds 2 ?_
 rw [rounds_succ]
 by_cases hn:v = -1
 ·subst hn
  simp only [beq_self_eq_true,if_true,Option.some.injEq,Prod.mk.injEq] at hq
  obtain⟨rfl,rfl⟩:=hq
  clear HP HQ hv hlt hge
  go_wp2_with fail
  refine cI.mono ?_
  rintro e w2 ⟨rfl,hb⟩
  have HG2:=(HG1.out.on hb).hid
  clear cI hb HG1
  have HF:=(HX.rowA (pre:=[_]) HG2.out m.vals).hid
  go_wp2_with (first | (refine wpList_load_row rfl 38 (.tmp 5) rfl N rfl 38 m.vals (0,0) _ HG2.out.b0 Tryz.underlying38 rfl size64' ?_) | (refine wpList_store_row rfl 38 (.tmp 4) (.tmp 17) rfl w§ m.vals rfl rfl 38 _ HG2.out.b1 size64' rfl (all8 _) ?_))
  exact bodyPost_ret (results_cell_row rfl _ _ w§ 38 m.vals (0,0) _ rfl HF.out.b1 Tryz.underlying38 rfl size64') rfl (out_y HF.out HR.out fun U hU=>hU.2)
 ·have hb:(v == -1)=false:=by simpa using hn
  simp only [hb,Bool.false_eq_true,if_false] at hq
  obtain⟨q,hq1,hq2⟩:=opt_bind hq
  obtain⟨rfl,rfl,t2,us2,h2,hv2⟩:Tr.mk ⟨6,6+v,0,0,0,gE,t.p⟩ [a,q.1]=r∧q.2=ts'∧∃ t us,q.2=t :: us∧fnd t.x LS 0 = -1:=by
   by_cases hn:pNo LS q.2=true
   ·rw [if_pos hn] at hq2; cases hq2; exact⟨rfl,rfl,pNo_inv hn⟩
   ·rw [if_neg hn] at hq2; cases hq2
  have HQ2:Hid (part us=some (q.1,t2 :: us2)∧fnd t2.x LS 0 = -1):=⟨by rw [hq1,← h2],hv2⟩
  rw [h2]
  have hv0:¬ v < 0:=by omega
  have hv3:decide (v < 0)=false:=decide_eq_false hv0
  have hv5:0≤v:=by omega
  have hv6:v < 2:=by omega
  clear HQ hv hlt hge hb hq hq1 hq2 h2 hv2 hn
  go_wp2_with fail
  refine cI.mono ?_
  rintro e w2 ⟨rfl,hb⟩
  have HG2:=(HG1.out.on hb).hid
  have cN:=live_now HG2.out.S
  have hf:=fun v=>field82_4 t v
  have HT:Hid (RgT t):=(HG2.out.S.ok HK.out.k).r
  clear cI hb HG1
  go_wp2_with fail
  refine cN.mono ?_
  rintro e w3 ⟨rfl,hb⟩
  have HG3:=(HG2.out.on hb).hid
  obtain⟨i,c3,f3,hmx,hL,hM,_,_⟩:=HG3.out.S.at'
  have HG4:=(HG3.out.mv hM hL).hid
  have cQ:=HP.out _ _ _ _ HG4.out.S HQ2.out.1
  clear cN hb HG2 HG3 hL hM
  go_upto_region 7 with fail
  generalize eV:w3.setCell b¢3 _=V at HG4 cQ ⊢
  clear eV c3 f3 hmx
  go_wp2_with fail
  refine cQ.mono ?_
  rintro e w5 ⟨k,rfl,htr,hdp,hs,hm⟩
  have HR2:Hid (treeOf k=q.1):=htr
  have HG5:=(HX.rowA (pre:=[]) ((HG4.out.add hm hs hdp).push zNo 38) k.vals).hid
  have HZ:Hid ((w5.alloc (.cells zNo 38)).heap[w5§]? = (zC zNo 38)):=heap_new _ _
  clear cQ htr hdp hs hm HG4
  go_upto_region 8 with (refine wpList_store_row rfl 38 (.tmp 8) (.tmp 30) rfl w5§ k.vals rfl rfl 38 zNo HZ.out size64' rfl (all8 k) ?_)
  generalize hW:World.setRow _ _ _=W5
  rw [hW] at HG5
  generalize w5§=N2 at HG5 ⊢
  clear HZ hW
  have c8:=two_y (6+v) t.p m k W5
  go_wp2_with (first | (refine wpList_load_row rfl 38 (.tmp 5) rfl N rfl 38 m.vals (0,0) _ HG5.out.b1 Tryz.underlying38 rfl size64' ?_) | (refine wpList_load_row rfl 38 (.tmp 8) rfl N2 rfl 38 k.vals (0,0) _ HG5.out.b0 Tryz.underlying38 rfl size64' ?_))
  refine c8.mono ?_
  rintro e w7 ⟨G,rfl,hb,hG1,hG2,hG3⟩
  have HG7:=((HG5.out.add (Mv.ofBelow hb) (HG5.out.S.on hb) (G:=fun U=>U.heap[G]? = (zC (m.vals ++ k.vals) 38)) fun U hU=>(hU G hG1 hG2).trans hG3).pop).hid
  have HG8:=(HX.rowA (pre:=[]) HG7.out (Nd.mk ⟨6,6+v,0,0,0,gE,t.p⟩ (some G¢0) 2 [m,k]).vals).hid
  clear c8 hb hG1 hG2 hG3 HG5
  have HRR:Hid (Rg ⟨6,6+v,0,0,0,gE,t.p⟩):=by
   have hr:=HT.out
   have:=hr.p0; have:=hr.p1
   constructor <;> first | assumption | omega | (simp only; omega) | (show gE.size≤140737488355328; decide)
  clear hv0 hv3 hv5 hv6
  go_wp2_with (refine wpList_store_row rfl 38 (.tmp 5) (.tmp 37) rfl N (Nd.mk ⟨6,6+v,0,0,0,gE,t.p⟩ (some G¢0) 2 [m,k]).vals rfl rfl 38 _ HG7.out.b0 size64' rfl (all8 _) ?_)
  generalize hW:World.setRow _ _ _=W8
  rw [hW] at HG8
  clear hW HG7
  have cI:=any_y HG8.out.S HK.out LS (n:=2) rfl (by decide) (by decide +kernel)
  rw [HQ2.out.2] at cI
  simp only [LS,List.map] at cI
  rw [rounds_succ]
  go_wp2_with fail
  refine cI.mono ?_
  rintro e w9 ⟨rfl,hb⟩
  have HG9:=(HG8.out.on hb).hid
  clear cI hb HG8
  generalize eB:Nd.mk ⟨6,6+v,0,0,0,gE,t.p⟩ (some G¢0) 2 [m,k]=B at HG9 ⊢
  have HB:Hid (treeOf B=Tr.mk ⟨6,6+v,0,0,0,gE,t.p⟩ [a,q.1]∧∀ U,(((True∧Lies U m)∧Lies U k)∧U.heap[G]? = (zC (m.vals ++ k.vals) 38))→Lies U B):=by
   rw [← eB]
   refine⟨?_,fun U hU=>lies_two HRR.out hU.1.1.2 hU.1.2 hU.2⟩
   show Tr.mk _ [treeOf m,treeOf k]=_
   rw [HR.out,HR2.out]
  clear eB
  have HF:=(HX.rowA (pre:=[_]) HG9.out B.vals).hid
  go_wp2_with (first | (refine wpList_load_row rfl 38 (.tmp 5) rfl N rfl 38 B.vals (0,0) _ HG9.out.b0 Tryz.underlying38 rfl size64' ?_) | (refine wpList_store_row rfl 38 (.tmp 4) (.tmp 17) rfl w§ B.vals rfl rfl 38 _ HG9.out.b1 size64' rfl (all8 _) ?_))
  exact bodyPost_ret (results_cell_row rfl _ _ w§ 38 B.vals (0,0) _ rfl HF.out.b1 Tryz.underlying38 rfl size64') rfl (out_y HF.out HB.out.1 HB.out.2)
theorem no1 {y x:yB}(h:fnd y [x] 0 = -1):¬ y=x:=fun e=>by rw [fnd,if_pos e] at h; cases h
theorem cmp_y {w:yW}{b:Nat}{K:PK}{ts ts':List Tk}{r:Tr}(d:Int) {part:List Tk→Option (Tr × List Tk)}(cP:∀ (w:yW) (ts ts':List Tk) (r:Tr),Lv w b K ts→part ts=some (r,ts')→Calls zG 248 #[zP b,zI d] w (OutE b K w r ts')) (hK:KG K) (h:Lv w b K ts) (hp:pCmp LC 11 part ts=some (r,ts')) :
  Calls zG 236 #[zP b,zI d] w (OutE b K w r ts'):=by
 obtain⟨⟨a,a2⟩,ha,hp⟩:=opt_bind hp
 obtain⟨t,us,rfl⟩:∃ t us,a2=t :: us:=by
  cases a2 with
  | nil=>cases hp
  | cons t us=>exact⟨t,us,rfl⟩
 have HP:Hid (∀ (w:yW) (ts ts':List Tk) (r:Tr),Lv w b K ts→part ts=some (r,ts')→Calls zG 248 #[zP b,zI d] w (OutE b K w r ts')):=cP
 have HK:Hid (KG K):=hK
 have HG0:=((HX.new h 0 0).push zNo 38).hid
 obtain⟨W0,eW0⟩:∃ W,w.alloc (.cells zNo 38)=W:=⟨_,rfl⟩
 rw [eW0] at HG0
 have cP:=cP _ _ _ _ HG0.out.S ha
 have HQ:Hid ((if pNo LC (t :: us) then some (a,t :: us) else (part us).bind fun d=>some (Tr.mk ⟨6,11+fnd t.x LC 0,0,0,0,gE,t.p⟩ [a,d.1],d.2))=some (r,ts')):=hp
 clear ha
 clear h hp hK
 go_enter Tryz.func236,Tryz.ntmps236
 go_wp2_with fail
 try rw [eW0]
 refine cP.mono ?_
 rintro e w1 ⟨m,rfl,htr,hdp,hs,hm⟩
 have HR:Hid (treeOf m=a):=htr
 have HG1:=(HX.rowA (pre:=[]) ((HG0.out.add hm hs hdp).push zNo 38) m.vals).hid
 have HZ:Hid ((w1.alloc (.cells zNo 38)).heap[w1§]? = (zC zNo 38)):=heap_new _ _
 clear cP htr hdp hs hm HG0 eW0
 go_upto_region 2 with (refine wpList_store_row rfl 38 (.tmp 5) (.tmp 11) rfl w1§ m.vals rfl rfl 38 zNo HZ.out size64' rfl (all8 m) ?_)
 generalize hW:World.setRow _ _ _=W1
 rw [hW] at HG1
 generalize w1§=N at HG1 ⊢
 clear HZ hW
 have cI:=any_y HG1.out.S HK.out LC (n:=6) rfl (by decide) (by decide +kernel)
 have hq:=HQ.out
 rw [show pNo LC (t :: us)=(fnd t.x LC 0 == -1) from rfl] at hq
 have hlt:=fnd_lt t.x LC 0
 have hge:=fnd_ge t.x LC 0
 obtain⟨v,hv⟩:∃ v,fnd t.x LC 0=v:=⟨_,rfl⟩
 rw [hv] at cI hq hlt hge
 simp only [LC,List.length_cons,List.length_nil] at hlt
 simp only [LC,List.map] at cI
 by_cases hn:v = -1
 ·subst hn
  simp only [beq_self_eq_true,if_true,Option.some.injEq,Prod.mk.injEq] at hq
  obtain⟨rfl,rfl⟩:=hq
  clear HP HQ hv hlt hge
  go_wp2_with fail
  refine cI.mono ?_
  rintro e w2 ⟨rfl,hb⟩
  have HG2:=(HG1.out.on hb).hid
  clear cI hb HG1
  have HF:=(HX.rowA (pre:=[_]) HG2.out m.vals).hid
  go_wp2_with (first | (refine wpList_load_row rfl 38 (.tmp 5) rfl N rfl 38 m.vals (0,0) _ HG2.out.b0 Tryz.underlying38 rfl size64' ?_) | (refine wpList_store_row rfl 38 (.tmp 4) (.tmp 17) rfl w§ m.vals rfl rfl 38 _ HG2.out.b1 size64' rfl (all8 _) ?_))
  exact bodyPost_ret (results_cell_row rfl _ _ w§ 38 m.vals (0,0) _ rfl HF.out.b1 Tryz.underlying38 rfl size64') rfl (out_y HF.out HR.out fun U hU=>hU.2)
 ·have hb:(v == -1)=false:=by simpa using hn
  simp only [hb,Bool.false_eq_true,if_false] at hq
  obtain⟨⟨q,q2⟩,hq1,hq2⟩:=opt_bind hq
  simp only [Option.some.injEq,Prod.mk.injEq] at hq2
  obtain⟨rfl,rfl⟩:=hq2
  have HQ2:Hid (part us=some (q,q2)):=hq1
  have hv0:¬ v < 0:=by omega
  have hv3:decide (v < 0)=false:=decide_eq_false hv0
  have hv5:0≤v:=by omega
  have hv6:v < 6:=by omega
  clear HQ hv hlt hge hb hq hq1 hn
  go_wp2_with fail
  refine cI.mono ?_
  rintro e w2 ⟨rfl,hb⟩
  have HG2:=(HG1.out.on hb).hid
  have cN:=live_now HG2.out.S
  have hf:=fun v=>field82_4 t v
  have HT:Hid (RgT t):=(HG2.out.S.ok HK.out.k).r
  clear cI hb HG1
  go_wp2_with fail
  refine cN.mono ?_
  rintro e w3 ⟨rfl,hb⟩
  have HG3:=(HG2.out.on hb).hid
  obtain⟨i,c3,f3,hmx,hL,hM,_,_⟩:=HG3.out.S.at'
  have HG4:=(HG3.out.mv hM hL).hid
  have cQ:=HP.out _ _ _ _ HG4.out.S HQ2.out
  clear cN hb HG2 HG3 hL hM
  go_upto_region 7 with fail
  generalize eV:w3.setCell b¢3 _=V at HG4 cQ ⊢
  clear eV c3 f3 hmx
  go_wp2_with fail
  refine cQ.mono ?_
  rintro e w5 ⟨k,rfl,htr,hdp,hs,hm⟩
  have HR2:Hid (treeOf k=q):=htr
  have HG5:=(HX.rowA (pre:=[]) ((HG4.out.add hm hs hdp).push zNo 38) k.vals).hid
  have HZ:Hid ((w5.alloc (.cells zNo 38)).heap[w5§]? = (zC zNo 38)):=heap_new _ _
  clear cQ htr hdp hs hm HG4
  go_upto_region 8 with (refine wpList_store_row rfl 38 (.tmp 8) (.tmp 30) rfl w5§ k.vals rfl rfl 38 zNo HZ.out size64' rfl (all8 k) ?_)
  generalize hW:World.setRow _ _ _=W5
  rw [hW] at HG5
  generalize w5§=N2 at HG5 ⊢
  clear HZ hW
  have c8:=two_y (11+v) t.p m k W5
  go_wp2_with (first | (refine wpList_load_row rfl 38 (.tmp 5) rfl N rfl 38 m.vals (0,0) _ HG5.out.b1 Tryz.underlying38 rfl size64' ?_) | (refine wpList_load_row rfl 38 (.tmp 8) rfl N2 rfl 38 k.vals (0,0) _ HG5.out.b0 Tryz.underlying38 rfl size64' ?_))
  refine c8.mono ?_
  rintro e w7 ⟨G,rfl,hb,hG1,hG2,hG3⟩
  have HG7:=(HG5.out.add (Mv.ofBelow hb) (HG5.out.S.on hb) (G:=fun U=>U.heap[G]? = (zC (m.vals ++ k.vals) 38)) fun U hU=>(hU G hG1 hG2).trans hG3).hid
  have HRR:Hid (Rg ⟨6,11+v,0,0,0,gE,t.p⟩):=by
   have hr:=HT.out
   have:=hr.p0; have:=hr.p1
   constructor <;> first | assumption | omega | (simp only; omega) | (show gE.size≤140737488355328; decide)
  have HF:=(HX.rowA (pre:=[_,_]) HG7.out (Nd.mk ⟨6,11+v,0,0,0,gE,t.p⟩ (some G¢0) 2 [m,k]).vals).hid
  clear c8 hb hG1 hG2 hG3 HG5 hv0 hv3 hv5 hv6
  go_wp2_with (refine wpList_store_row rfl 38 (.tmp 4) (.tmp 37) rfl w§ (Nd.mk ⟨6,11+v,0,0,0,gE,t.p⟩ (some G¢0) 2 [m,k]).vals rfl rfl 38 _ HG7.out.b2 size64' rfl (all8 _) ?_)
  refine bodyPost_ret (results_cell_row rfl _ _ w§ 38 (Nd.mk ⟨6,11+v,0,0,0,gE,t.p⟩ (some G¢0) 2 [m,k]).vals (0,0) _ rfl HF.out.b2 Tryz.underlying38 rfl size64') rfl (out_y HF.out ?_ fun U hU=>lies_two HRR.out hU.1.1.2 hU.1.2 hU.2)
  show Tr.mk _ [treeOf m,treeOf k]=_
  rw [HR.out,HR2.out]
theorem and_y {w:yW}{b:Nat}{K:PK}{ts ts':List Tk}{r:Tr}(d:Int) {part:List Tk→Option (Tr × List Tk)}(cP:∀ (w:yW) (ts ts':List Tk) (r:Tr),Lv w b K ts→part ts=some (r,ts')→Calls zG 236 #[zP b,zI d] w (OutE b K w r ts')) (hK:KG K) (h:Lv w b K ts) (hp:pRow [Z7] 17 part ts=some (r,ts')) :
  Calls zG 224 #[zP b,zI d] w (OutE b K w r ts'):=by
 obtain⟨⟨a,a2⟩,ha,hp⟩:=opt_bind hp
 obtain⟨t,us,rfl⟩:∃ t us,a2=t :: us:=by
  cases a2 with
  | nil=>cases hp
  | cons t us=>exact⟨t,us,rfl⟩
 have HP:Hid (∀ (w:yW) (ts ts':List Tk) (r:Tr),Lv w b K ts→part ts=some (r,ts')→Calls zG 236 #[zP b,zI d] w (OutE b K w r ts')):=cP
 have HK:Hid (KG K):=hK
 have HG0:=((HX.new h 0 0).push zNo 38).hid
 obtain⟨W0,eW0⟩:∃ W,w.alloc (.cells zNo 38)=W:=⟨_,rfl⟩
 rw [eW0] at HG0
 have cP:=cP _ _ _ _ HG0.out.S ha
 have HQ:Hid ((if pNo [Z7] (t :: us) then some (a,t :: us) else (part us).bind fun d=>if pNo [Z7] d.2 then some (Tr.mk ⟨6,17+fnd t.x [Z7] 0,0,0,0,gE,t.p⟩ [a,d.1],d.2) else none)=some (r,ts')):=hp
 clear ha
 clear h hp hK
 go_enter Tryz.func224,Tryz.ntmps224
 go_wp2_with fail
 try rw [eW0]
 refine cP.mono ?_
 rintro e w1 ⟨m,rfl,htr,hdp,hs,hm⟩
 have HR:Hid (treeOf m=a):=htr
 have HG1:=(HX.rowA (pre:=[]) ((HG0.out.add hm hs hdp).push zNo 38) m.vals).hid
 have HZ:Hid ((w1.alloc (.cells zNo 38)).heap[w1§]? = (zC zNo 38)):=heap_new _ _
 clear cP htr hdp hs hm HG0 eW0
 go_upto_region 2 with (refine wpList_store_row rfl 38 (.tmp 5) (.tmp 11) rfl w1§ m.vals rfl rfl 38 zNo HZ.out size64' rfl (all8 m) ?_)
 generalize hW:World.setRow _ _ _=W1
 rw [hW] at HG1
 generalize w1§=N at HG1 ⊢
 clear HZ hW
 have cI:=is_live HG1.out.S Z7 (kw_gd (HG1.out.S.gd HK.out) (by decide +kernel))
 have hq:=HQ.out
 refine wp_loop_rounds 2 ?_
 rw [rounds_succ]
 by_cases hn:t.x=Z7
 rotate_left
 ·have hno:pNo [Z7] (t :: us)=true:=by simp [pNo,fnd,hn]
  rw [if_pos hno] at hq
  simp only [Option.some.injEq,Prod.mk.injEq] at hq
  obtain⟨rfl,rfl⟩:=hq
  rw [decide_eq_false hn] at cI
  clear HP HQ hno hn
  go_wp2_with fail
  refine cI.mono ?_
  rintro e w2 ⟨rfl,hb⟩
  have HG2:=(HG1.out.on hb).hid
  clear cI hb HG1
  have HF:=(HX.rowA (pre:=[_]) HG2.out m.vals).hid
  go_wp2_with (first | (refine wpList_load_row rfl 38 (.tmp 5) rfl N rfl 38 m.vals (0,0) _ HG2.out.b0 Tryz.underlying38 rfl size64' ?_) | (refine wpList_store_row rfl 38 (.tmp 4) (.tmp 16) rfl w§ m.vals rfl rfl 38 _ HG2.out.b1 size64' rfl (all8 _) ?_))
  exact bodyPost_ret (results_cell_row rfl _ _ w§ 38 m.vals (0,0) _ rfl HF.out.b1 Tryz.underlying38 rfl size64') rfl (out_y HF.out HR.out fun U hU=>hU.2)
 ·have hno:¬ pNo [Z7] (t :: us)=true:=by simp [pNo,fnd,hn]
  have hz:fnd t.x [Z7] 0=0:=by simp [fnd,hn]
  rw [if_neg hno,hz] at hq
  obtain⟨q,hq1,hq2⟩:=opt_bind hq
  obtain⟨rfl,rfl,t2,us2,h2,hv2⟩:Tr.mk ⟨6,17+0,0,0,0,gE,t.p⟩ [a,q.1]=r∧q.2=ts'∧∃ t us,q.2=t :: us∧fnd t.x [Z7] 0 = -1:=by
   by_cases hn:pNo [Z7] q.2=true
   ·rw [if_pos hn] at hq2; cases hq2; exact⟨rfl,rfl,pNo_inv hn⟩
   ·rw [if_neg hn] at hq2; cases hq2
  rw [decide_eq_true hn] at cI
  have HQ2:Hid (part us=some (q.1,t2 :: us2)∧fnd t2.x [Z7] 0 = -1):=⟨by rw [hq1,← h2],hv2⟩
  rw [h2]
  clear HQ hno hz hq hq1 hq2 h2 hv2 hn
  go_wp2_with fail
  refine cI.mono ?_
  rintro e w2 ⟨rfl,hb⟩
  have HG2:=(HG1.out.on hb).hid
  have cN:=live_now HG2.out.S
  have hf:=fun v=>field82_4 t v
  have HT:Hid (RgT t):=(HG2.out.S.ok HK.out.k).r
  clear cI hb HG1
  go_wp2_with fail
  refine cN.mono ?_
  rintro e w3 ⟨rfl,hb⟩
  have HG3:=(HG2.out.on hb).hid
  obtain⟨i,c3,f3,hmx,hL,hM,_,_⟩:=HG3.out.S.at'
  have HG4:=(HG3.out.mv hM hL).hid
  have cQ:=HP.out _ _ _ _ HG4.out.S HQ2.out.1
  clear cN hb HG2 HG3 hL hM
  go_upto_region 7 with fail
  generalize eV:w3.setCell b¢3 _=V at HG4 cQ ⊢
  clear eV c3 f3 hmx
  go_wp2_with fail
  refine cQ.mono ?_
  rintro e w5 ⟨k,rfl,htr,hdp,hs,hm⟩
  have HR2:Hid (treeOf k=q.1):=htr
  have HG5:=(HX.rowA (pre:=[]) ((HG4.out.add hm hs hdp).push zNo 38) k.vals).hid
  have HZ:Hid ((w5.alloc (.cells zNo 38)).heap[w5§]? = (zC zNo 38)):=heap_new _ _
  clear cQ htr hdp hs hm HG4
  go_upto_region 8 with (refine wpList_store_row rfl 38 (.tmp 8) (.tmp 29) rfl w5§ k.vals rfl rfl 38 zNo HZ.out size64' rfl (all8 k) ?_)
  generalize hW:World.setRow _ _ _=W5
  rw [hW] at HG5
  generalize w5§=N2 at HG5 ⊢
  clear HZ hW
  have c8:=two_y (17) t.p m k W5
  go_wp2_with (first | (refine wpList_load_row rfl 38 (.tmp 5) rfl N rfl 38 m.vals (0,0) _ HG5.out.b1 Tryz.underlying38 rfl size64' ?_) | (refine wpList_load_row rfl 38 (.tmp 8) rfl N2 rfl 38 k.vals (0,0) _ HG5.out.b0 Tryz.underlying38 rfl size64' ?_))
  refine c8.mono ?_
  rintro e w7 ⟨G,rfl,hb,hG1,hG2,hG3⟩
  have HG7:=((HG5.out.add (Mv.ofBelow hb) (HG5.out.S.on hb) (G:=fun U=>U.heap[G]? = (zC (m.vals ++ k.vals) 38)) fun U hU=>(hU G hG1 hG2).trans hG3).pop).hid
  have HG8:=(HX.rowA (pre:=[]) HG7.out (Nd.mk ⟨6,17,0,0,0,gE,t.p⟩ (some G¢0) 2 [m,k]).vals).hid
  clear c8 hb hG1 hG2 hG3 HG5
  have HRR:Hid (Rg ⟨6,17,0,0,0,gE,t.p⟩):=by
   have hr:=HT.out
   have:=hr.p0; have:=hr.p1
   constructor <;> first | assumption | omega | (simp only; omega) | (show gE.size≤140737488355328; decide)
  go_wp2_with (refine wpList_store_row rfl 38 (.tmp 5) (.tmp 33) rfl N (Nd.mk ⟨6,17,0,0,0,gE,t.p⟩ (some G¢0) 2 [m,k]).vals rfl rfl 38 _ HG7.out.b0 size64' rfl (all8 _) ?_)
  generalize hW:World.setRow _ _ _=W8
  rw [hW] at HG8
  clear hW HG7
  have cI:=is_live HG8.out.S Z7 (kw_gd (HG8.out.S.gd HK.out) (by decide +kernel))
  rw [decide_eq_false (no1 HQ2.out.2)] at cI
  rw [rounds_succ]
  go_wp2_with fail
  refine cI.mono ?_
  rintro e w9 ⟨rfl,hb⟩
  have HG9:=(HG8.out.on hb).hid
  clear cI hb HG8
  generalize eB:Nd.mk ⟨6,17,0,0,0,gE,t.p⟩ (some G¢0) 2 [m,k]=B at HG9 ⊢
  have HB:Hid (treeOf B=Tr.mk ⟨6,17,0,0,0,gE,t.p⟩ [a,q.1]∧∀ U,(((True∧Lies U m)∧Lies U k)∧U.heap[G]? = (zC (m.vals ++ k.vals) 38))→Lies U B):=by
   rw [← eB]
   refine⟨?_,fun U hU=>lies_two HRR.out hU.1.1.2 hU.1.2 hU.2⟩
   show Tr.mk _ [treeOf m,treeOf k]=_
   rw [HR.out,HR2.out]
  clear eB
  have HF:=(HX.rowA (pre:=[_]) HG9.out B.vals).hid
  go_wp2_with (first | (refine wpList_load_row rfl 38 (.tmp 5) rfl N rfl 38 B.vals (0,0) _ HG9.out.b0 Tryz.underlying38 rfl size64' ?_) | (refine wpList_store_row rfl 38 (.tmp 4) (.tmp 16) rfl w§ B.vals rfl rfl 38 _ HG9.out.b1 size64' rfl (all8 _) ?_))
  exact bodyPost_ret (results_cell_row rfl _ _ w§ 38 B.vals (0,0) _ rfl HF.out.b1 Tryz.underlying38 rfl size64') rfl (out_y HF.out HB.out.1 HB.out.2)
theorem or_y {w:yW}{b:Nat}{K:PK}{ts ts':List Tk}{r:Tr}(d:Int) {part:List Tk→Option (Tr × List Tk)}(cP:∀ (w:yW) (ts ts':List Tk) (r:Tr),Lv w b K ts→part ts=some (r,ts')→Calls zG 224 #[zP b,zI d] w (OutE b K w r ts')) (hK:KG K) (h:Lv w b K ts) (hp:pNone [Zf] part ts=some (r,ts')) :
  Calls zG 218 #[zP b,zI d] w (OutE b K w r ts'):=by
 obtain⟨a,ha,hp⟩:=opt_bind hp
 obtain⟨rfl,rfl,t,us,hts,hv⟩:a.1=r∧a.2=ts'∧∃ t us,a.2=t :: us∧fnd t.x [Zf] 0 = -1:=by
  by_cases hn:pNo [Zf] a.2=true
  ·rw [if_pos hn] at hp; cases hp; exact⟨rfl,rfl,pNo_inv hn⟩
  ·rw [if_neg hn] at hp; cases hp
 rw [hts]
 have HK:Hid (KG K):=hK
 have HG0:=((HX.new h 0 0).push zNo 38).hid
 obtain⟨W0,eW0⟩:∃ W,w.alloc (.cells zNo 38)=W:=⟨_,rfl⟩
 rw [eW0] at HG0
 have cP:=cP _ _ _ _ HG0.out.S ha
 rw [hts] at cP
 have HV:Hid (fnd t.x [Zf] 0 = -1):=hv
 clear ha hts hv
 clear h hp hK
 go_enter Tryz.func218,Tryz.ntmps218
 go_wp2_with fail
 try rw [eW0]
 refine cP.mono ?_
 rintro e w1 ⟨m,rfl,htr,hdp,hs,hm⟩
 have HR:Hid (treeOf m=a.1):=htr
 have HG1:=(HX.rowA (pre:=[]) ((HG0.out.add hm hs hdp).push zNo 38) m.vals).hid
 have HZ:Hid ((w1.alloc (.cells zNo 38)).heap[w1§]? = (zC zNo 38)):=heap_new _ _
 clear cP htr hdp hs hm HG0 eW0
 go_upto_region 2 with (refine wpList_store_row rfl 38 (.tmp 5) (.tmp 11) rfl w1§ m.vals rfl rfl 38 zNo HZ.out size64' rfl (all8 m) ?_)
 generalize hW:World.setRow _ _ _=W1
 rw [hW] at HG1
 generalize w1§=N at HG1 ⊢
 clear HZ hW
 have cI:=is_live HG1.out.S Zf (kw_gd (HG1.out.S.gd HK.out) (by decide +kernel))
 rw [decide_eq_false (no1 HV.out)] at cI
 refine wp_loop_rounds 1 ?_
 rw [rounds_succ]
 go_wp2_with fail
 refine cI.mono ?_
 rintro e w2 ⟨rfl,hb⟩
 have HG2:=(HG1.out.on hb).hid
 clear cI hb HG1 HV
 have HF:=(HX.rowA (pre:=[_]) HG2.out m.vals).hid
 go_wp2_with (first | (refine wpList_load_row rfl 38 (.tmp 5) rfl N rfl 38 m.vals (0,0) _ HG2.out.b0 Tryz.underlying38 rfl size64' ?_) | (refine wpList_store_row rfl 38 (.tmp 4) (.tmp 16) rfl w§ m.vals rfl rfl 38 _ HG2.out.b1 size64' rfl (all8 _) ?_))
 exact bodyPost_ret (results_cell_row rfl _ _ w§ 38 m.vals (0,0) _ rfl HF.out.b1 Tryz.underlying38 rfl size64') rfl (out_y HF.out HR.out fun U hU=>hU.2)
theorem cond_y {w:yW}{b:Nat}{K:PK}{ts ts':List Tk}{r:Tr}(d:Int) {part:List Tk→Option (Tr × List Tk)}(cP:∀ (w:yW) (ts ts':List Tk) (r:Tr),Lv w b K ts→part ts=some (r,ts')→Calls zG 218 #[zP b,zI d] w (OutE b K w r ts')) (hK:KG K) (h:Lv w b K ts) (hp:pNone [Zh] part ts=some (r,ts')) :
  Calls zG 203 #[zP b,zI d] w (OutE b K w r ts'):=by
 obtain⟨a,ha,hp⟩:=opt_bind hp
 obtain⟨rfl,rfl,t,us,hts,hv⟩:a.1=r∧a.2=ts'∧∃ t us,a.2=t :: us∧fnd t.x [Zh] 0 = -1:=by
  by_cases hn:pNo [Zh] a.2=true
  ·rw [if_pos hn] at hp; cases hp; exact⟨rfl,rfl,pNo_inv hn⟩
  ·rw [if_neg hn] at hp; cases hp
 rw [hts]
 have HK:Hid (KG K):=hK
 have HG0:=((HX.new h 0 0).push zNo 38).hid
 obtain⟨W0,eW0⟩:∃ W,w.alloc (.cells zNo 38)=W:=⟨_,rfl⟩
 rw [eW0] at HG0
 have cP:=cP _ _ _ _ HG0.out.S ha
 rw [hts] at cP
 have HV:Hid (fnd t.x [Zh] 0 = -1):=hv
 clear ha hts hv
 clear h hp hK
 go_enter Tryz.func203,Tryz.ntmps203
 go_wp2_with fail
 try rw [eW0]
 refine cP.mono ?_
 rintro e w1 ⟨m,rfl,htr,hdp,hs,hm⟩
 have HR:Hid (treeOf m=a.1):=htr
 have HG1:=(HX.rowA (pre:=[]) ((HG0.out.add hm hs hdp).push zNo 38) m.vals).hid
 have HZ:Hid ((w1.alloc (.cells zNo 38)).heap[w1§]? = (zC zNo 38)):=heap_new _ _
 clear cP htr hdp hs hm HG0 eW0
 go_upto_region 2 with (refine wpList_store_row rfl 38 (.tmp 5) (.tmp 13) rfl w1§ m.vals rfl rfl 38 zNo HZ.out size64' rfl (all8 m) ?_)
 generalize hW:World.setRow _ _ _=W1
 rw [hW] at HG1
 generalize w1§=N at HG1 ⊢
 clear HZ hW
 have cI:=is_live HG1.out.S Zh (kw_gd (HG1.out.S.gd HK.out) (by decide +kernel))
 rw [decide_eq_false (no1 HV.out)] at cI
 go_wp2_with fail
 refine cI.mono ?_
 rintro e w2 ⟨rfl,hb⟩
 have HG2:=(HG1.out.on hb).hid
 clear cI hb HG1 HV
 have HF:=(HX.rowA (pre:=[_]) HG2.out m.vals).hid
 go_wp2_with (first | (refine wpList_load_row rfl 38 (.tmp 5) rfl N rfl 38 m.vals (0,0) _ HG2.out.b0 Tryz.underlying38 rfl size64' ?_) | (refine wpList_store_row rfl 38 (.tmp 4) (.tmp 18) rfl w§ m.vals rfl rfl 38 _ HG2.out.b1 size64' rfl (all8 _) ?_))
 exact bodyPost_ret (results_cell_row rfl _ _ w§ 38 m.vals (0,0) _ rfl HF.out.b1 Tryz.underlying38 rfl size64') rfl (out_y HF.out HR.out fun U hU=>hU.2)
theorem lvl_y {w:yW}{b:Nat}{K:PK}{one:List Tk→Option (Tr × List Tk)}{ts ts':List Tk}{r:Tr}(d:Int) (cO:∀ (w:yW) (ts ts':List Tk) (r:Tr),Lv w b K ts→one ts=some (r,ts')→Calls zG 254 #[zP b,zI d] w (OutE b K w r ts')) (hK:KG K) (h:Lv w b K ts) (hp:pLvl one ts=some (r,ts')) :
  Calls zG 203 #[zP b,zI d] w (OutE b K w r ts') :=
 cond_y d (fun _ _ _ _ h hp=>or_y d (fun _ _ _ _ h hp=>and_y d (fun _ _ _ _ h hp=>cmp_y d (fun _ _ _ _ h hp=>sum_y d (fun _ _ _ _ h hp=>pro_y d (fun _ _ _ _ h hp=>un_y d cO hK h hp) hK h hp) hK h hp) hK h hp) hK h hp) hK h hp) hK h hp
theorem ex_y {w:yW}{b:Nat}{K:PK}{ts ts':List Tk}{r:Tr}(hK:KG K) (h:Lv w b K ts) (hp:pEx ts=some (r,ts')) :
  Calls zG 203 #[zP b,zI 0] w (OutE b K w r ts') :=
 lvl_y ((0:Nat):Int) (fun _ _ _ _ h hp=>one_c 0 (by decide) (fun _ _ _ _ h hp=>lvl_y _ (fun _ _ _ _ h hp=>one_y _ hK h hp) hK h hp) hK h hp) hK h hp
end Go.Proofs.YtfbjofnaghjmeaaGreatDoor
