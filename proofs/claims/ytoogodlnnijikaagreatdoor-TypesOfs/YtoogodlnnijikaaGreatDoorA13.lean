import Derived.Test.YtoogodlnnijikaaGreatDoorA0
import Derived.Test.YtoogodlnnijikaaGreatDoorA12
namespace Go.Proofs.YtoogodlnnijikaaGreatDoor
open Go.RowKit
set_option linter.unusedVariables false
theorem opt_bind {α β:Type}{x:Option α}{f:α→Option β}{y:β}(h:x.bind f=some y):∃ a,x=some a∧f a=some y:=by
 cases x with
 | none=>cases h
 | some a=>exact⟨a,rfl,h⟩
theorem inf48:(Tryz.prog.info? 48).map (fun i=>(i.zero,i.size,i.bytes))=some (some (.agg zNo),8,72):=by kernel_rfl
theorem out_y {w:World}{b:Nat}{K:PK}{V:World}{bs:List (Nat × Nat × Array Value)}{e sz:Nat}{v:Value}{vs:List (Array Value)}{F:World→Prop}{ts:List Tk}{m:Nd}{r:Tr}(h:HX w b K V bs e sz v vs F ts) (hr:treeOf m=r) (hF:∀ U,F U→Lies U m):OutE b K w r ts (.returned (.agg m.vals)) V :=
 ⟨m,rfl,hr,h.fin.1.imp hF,h.S,h.M⟩
theorem pNo_inv {L:List ByteArray}{ts:List Tk}(h:pNo L ts=true):∃ t us,ts=t :: us∧fnd t.x L 0 = -1:=by
 cases ts with
 | nil=>cases h
 | cons t us=>exact⟨t,us,rfl,by simpa [pNo] using h⟩
theorem lies_two {U:World}{m k:Nd}{h:Hd}{G:Nat}(hr:Rg h) (hm:Lies U m) (hk:Lies U k) (hG:U.heap[G]? = some (.cells (m.vals ++ k.vals) 48 (0,0))):Lies U (.mk h (some ⟨G,0,none⟩) 2 [m,k]):=by
 obtain⟨⟨k2,o2,ty2,n2,f2,x2,p2⟩,am2,cm2,ks2⟩:=m
 obtain⟨⟨k3,o3,ty3,n3,f3,x3,p3⟩,am3,cm3,ks3⟩:=k
 refine .mk _ _ _ _ hr (by simp) (by simp) (fun i hi=>⟨G,0,rfl,?_⟩) (fun q hq=>?_)
 ·match i,hi with
  | 0,_=>exact⟨cell_of hG 0,cell_of hG 1,cell_of hG 2,cell_of hG 3,cell_of hG 4,cell_of hG 5,cell_of hG 6,cell_of hG 7⟩
  | 1,_=>exact⟨cell_of hG 8,cell_of hG 9,cell_of hG 10,cell_of hG 11,cell_of hG 12,cell_of hG 13,cell_of hG 14,cell_of hG 15⟩
 ·rcases List.mem_cons.1 hq with e | e
  ·rw [e]; exact hm
  ·rw [List.mem_singleton.1 e]; exact hk
set_option maxRecDepth 100000 in
set_option maxHeartbeats 4000000 in
theorem two_y (o at':Int) (m k:Nd) (w:World) :
  Calls zG 126 #[zU o,zI at',.agg m.vals,.agg k.vals] w fun e w'=>∃ G,e=.returned (.agg (Nd.mk ⟨6,o,0,0,0,gE,at'⟩ (some ⟨G,0,none⟩) 2 [m,k]).vals)∧Below w§ w w'∧w§≤G∧G < w'§∧w'.heap[G]? = some (.cells (m.vals ++ k.vals) 48 (0,0)):=by
 have b1:=below_new w (.cells m.vals 48)
 have b2:=below_new (w.alloc (.cells m.vals 48)) (.cells k.vals 48)
 have b3:=below_new ((w.alloc (.cells m.vals 48)).alloc (.cells k.vals 48)) (.cells zNo 48)
 have n1:=heap_new w (.cells m.vals 48)
 have n2:=heap_new (w.alloc (.cells m.vals 48)) (.cells k.vals 48)
 have n3:=heap_new ((w.alloc (.cells m.vals 48)).alloc (.cells k.vals 48)) (.cells zNo 48)
 have sz:(((w.alloc (.cells m.vals 48)).alloc (.cells k.vals 48)).alloc (.cells zNo 48))§=w§+3:=by simp only [size_alloc]
 have n1:=((below2 b2 b3).block _ (by rw [size_alloc]; omega)).trans n1
 have n2:=(b3.block _ (by simp only [size_alloc]; omega)).trans n2
 simp only [size_alloc] at n2 n3
 have HB:Hid (Below w§ w _):=below2 (below2 b1 b2) b3
 clear b1 b2 b3
 go_enter Tryz.func126,Tryz.ntmps126
 go_upto_region 1 with fail
 generalize ((w.alloc (.cells m.vals 48)).alloc (.cells k.vals 48)).alloc _=V at HB n1 n2 n3 sz ⊢
 have H1:Hid (V.heap[w§]? = some (.cells m.vals 48 (0,0))):=n1
 have H2:Hid (V.heap[w§+1]? = some (.cells k.vals 48 (0,0))):=n2
 have bU:=below_new V (.cells (m.vals ++ k.vals) 48)
 have hU:=heap_new V (.cells (m.vals ++ k.vals) 48)
 have hR:=(bU.block (w§+2) (by omega)).trans n3
 have hs:=size_alloc V (.cells (m.vals ++ k.vals) 48)
 rw [sz] at hU hs
 have HW:Hid (Below w§ w (V.alloc (.cells (m.vals ++ k.vals) 48))∧(V.alloc (.cells (m.vals ++ k.vals) 48)).heap[w§+3]? = some (.cells (m.vals ++ k.vals) 48 (0,0))∧(V.alloc (.cells (m.vals ++ k.vals) 48)).heap[w§+2]? = some (.cells zNo 48 (0,0))∧(V.alloc (.cells (m.vals ++ k.vals) 48))§=w§+4):=⟨below2 HB.out bU,hU,hR,hs⟩
 have HZ:Hid (V§=w§+3):=sz
 clear n1 n2 n3 sz HB bU hU hR hs
 go_wp2_with (first | (refine wpList_load_row rfl 48 (.tmp 6) rfl w§ rfl 48 m.vals (0,0) _ H1.out Tryz.underlying48 rfl size64' ?_) | (refine wpList_load_row rfl 48 (.tmp 7) rfl (w§+1) rfl 48 k.vals (0,0) _ H2.out Tryz.underlying48 rfl size64' ?_) | (refine wpList_slice2 rfl 46 48 (.tmp 10) (.tmp 11) rfl m.vals k.vals rfl rfl 8 _ zK 72 inf48 rfl rfl rfl (by omega) (by omega) ?_; rw [HZ.out]) | (refine wpList_store_row rfl 48 (.tmp 8) (.tmp 14) rfl (w§+2) #[zU 6,zU o,zU 0,zI 0,zU 0,.string ⟨#[]⟩,.slice (some ⟨w§+3,0,none⟩) 2 2,zI at'] rfl rfl 48 _ HW.out.2.2.1 size64' rfl (by simp [Value.oneCell']) ?_))
 refine bodyPost_ret (results_cell_row rfl _ _ (w§+2) 48 #[zU 6,zU o,zU 0,zI 0,zU 0,.string ⟨#[]⟩,.slice (some ⟨w§+3,0,none⟩) 2 2,zI at'] (0,0) _ rfl (setRow_heap _ _ _ _ _ _ HW.out.2.2.1) Tryz.underlying48 rfl size64') rfl ⟨w§+3,rfl,below_row HW.out.1 (by omega) _,by omega,?_,(setRow_oth _ _ _ (by omega)).trans HW.out.2.1⟩
 have:=HW.out.2.2.2
 unfold World.setRow
 simp only [Array.size_modify]
 omega
set_option maxRecDepth 100000 in
set_option maxHeartbeats 4000000 in
theorem un_y {w:World}{b:Nat}{K:PK}{ts ts':List Tk}{r:Tr}(d:Int) (hK:KG K) (h:Lv w b K ts) (hp:pUn ts=some (r,ts')) :
  Calls zG 192 #[zP b,zI d] w (OutE b K w r ts'):=by
 unfold pUn at hp
 by_cases hn:pNo LU ts=true
 ·rw [if_pos hn] at hp
  obtain⟨t,us,rfl,hv⟩:=pNo_inv hn
  have HK:Hid (KG K):=hK
  have HG0:=((HX.new h 0 0).push zNo 48).hid
  obtain⟨W0,eW0⟩:∃ W,w.alloc (.cells zNo 48)=W:=⟨_,rfl⟩
  rw [eW0] at HG0
  have HP:Hid (pOne (t :: us)=some (r,ts')):=hp
  have cA:=any_y HG0.out.S hK LU (n:=2) rfl (by decide) (by decide +kernel)
  rw [hv] at cA
  simp only [LU,List.map] at cA
  clear h hp hK hn hv
  go_enter Tryz.func192,Tryz.ntmps192
  go_wp2_with fail
  try rw [eW0]
  refine cA.mono ?_
  rintro e w1 ⟨rfl,hb⟩
  have HG1:=(HG0.out.on hb).hid
  have cO:=one_y d HK.out HG1.out.S HP.out
  clear cA hb HG0 eW0
  go_wp2_with fail
  refine cO.mono ?_
  rintro e w2 ⟨m,rfl,htr,hdp,hs,hm⟩
  have HG2:=(HG1.out.add hm hs hdp).hid
  have HR:Hid (treeOf m=r):=htr
  have HF:=(HX.rowA (pre:=[]) HG2.out m.vals).hid
  clear cO htr hdp hs hm HG1
  go_wp2_with (refine wpList_store_row rfl 48 (.tmp 4) (.tmp 16) rfl w§ m.vals rfl rfl 48 _ HG2.out.b0 size64' rfl (all8 m) ?_)
  exact bodyPost_ret (results_cell_row rfl _ _ w§ 48 m.vals (0,0) _ rfl HF.out.b0 Tryz.underlying48 rfl size64') rfl (out_y HF.out HR.out fun U hU=>hU.2)
 ·rw [if_neg hn] at hp; cases hp
theorem fnd_ge (y:ByteArray):∀ (L:List ByteArray) (k:Nat),-1≤fnd y L k:=by
 intro L
 induction L with
 | nil=>intro k; exact Int.le_refl _
 | cons x xs ih =>
  intro k
  rw [fnd]
  by_cases e:y=x
  ·rw [if_pos e]; omega
  ·rw [if_neg e]; exact ih _
theorem fnd_rg (y:ByteArray) (L:List ByteArray) (k:Nat):-1≤fnd y L k∧fnd y L k < k+L.length:=⟨fnd_ge y L k,fnd_lt y L k⟩
set_option maxRecDepth 100000 in
set_option maxHeartbeats 4000000 in
theorem pro_y {w:World}{b:Nat}{K:PK}{ts ts':List Tk}{r:Tr}(d:Int) {part:List Tk→Option (Tr × List Tk)}(cP:∀ (w:World) (ts ts':List Tk) (r:Tr),Lv w b K ts→part ts=some (r,ts')→Calls zG 192 #[zP b,zI d] w (OutE b K w r ts')) (hK:KG K) (h:Lv w b K ts) (hp:pRow LP 8 part ts=some (r,ts')) :
  Calls zG 180 #[zP b,zI d] w (OutE b K w r ts'):=by
 obtain⟨⟨a,a2⟩,ha,hp⟩:=opt_bind hp
 obtain⟨t,us,rfl⟩:∃ t us,a2=t :: us:=by
  cases a2 with
  | nil=>cases hp
  | cons t us=>exact⟨t,us,rfl⟩
 have HP:Hid (∀ (w:World) (ts ts':List Tk) (r:Tr),Lv w b K ts→part ts=some (r,ts')→Calls zG 192 #[zP b,zI d] w (OutE b K w r ts')):=cP
 have HK:Hid (KG K):=hK
 have HG0:=((HX.new h 0 0).push zNo 48).hid
 obtain⟨W0,eW0⟩:∃ W,w.alloc (.cells zNo 48)=W:=⟨_,rfl⟩
 rw [eW0] at HG0
 have cP:=cP _ _ _ _ HG0.out.S ha
 have HQ:Hid ((if pNo LP (t :: us) then some (a,t :: us) else (part us).bind fun d=>if pNo LP d.2 then some (Tr.mk ⟨6,8+fnd t.x LP 0,0,0,0,gE,t.p⟩ [a,d.1],d.2) else none)=some (r,ts')):=hp
 clear ha
 clear h hp hK
 go_enter Tryz.func180,Tryz.ntmps180
 go_wp2_with fail
 try rw [eW0]
 refine cP.mono ?_
 rintro e w1 ⟨m,rfl,htr,hdp,hs,hm⟩
 have HR:Hid (treeOf m=a):=htr
 have HG1:=(HX.rowA (pre:=[]) ((HG0.out.add hm hs hdp).push zNo 48) m.vals).hid
 have HZ:Hid ((w1.alloc (.cells zNo 48)).heap[w1§]? = some (.cells zNo 48 (0,0))):=heap_new _ _
 clear cP htr hdp hs hm HG0 eW0
 go_upto_region 2 with (refine wpList_store_row rfl 48 (.tmp 5) (.tmp 11) rfl w1§ m.vals rfl rfl 48 zNo HZ.out size64' rfl (all8 m) ?_)
 generalize hW:World.setRow _ _ _=W1
 rw [hW] at HG1
 generalize w1§=N at HG1 ⊢
 clear HZ hW
 have cI:=any_y HG1.out.S HK.out LP (n:=3) rfl (by decide) (by decide +kernel)
 have hq:=HQ.out
 rw [show pNo LP (t :: us)=(fnd t.x LP 0 == -1) from rfl] at hq
 have hlt:=fnd_lt t.x LP 0
 have hge:=fnd_ge t.x LP 0
 obtain⟨v,hv⟩:∃ v,fnd t.x LP 0=v:=⟨_,rfl⟩
 rw [hv] at cI hq hlt hge
 simp only [LP,List.length_cons,List.length_nil] at hlt
 simp only [LP,List.map] at cI
 refine wp_loop_rounds 2 ?_
 rw [rounds_succ]
 by_cases hn:v = -1
 ·subst hn
  simp only [beq_self_eq_true,if_true,Option.some.injEq,Prod.mk.injEq] at hq
  obtain⟨rfl,rfl⟩:=hq
  clear HP HQ hv hlt hge
  go_wp2_with fail
  refine cI.mono ?_
  rintro e w2 ⟨rfl,hb⟩
  have HG2:=(HG1.out.on hb).hid
  clear cI hb HG1
  have HF:=(HX.rowA (pre:=[_]) HG2.out m.vals).hid
  go_wp2_with (first | (refine wpList_load_row rfl 48 (.tmp 5) rfl N rfl 48 m.vals (0,0) _ HG2.out.b0 Tryz.underlying48 rfl size64' ?_) | (refine wpList_store_row rfl 48 (.tmp 4) (.tmp 17) rfl w§ m.vals rfl rfl 48 _ HG2.out.b1 size64' rfl (all8 _) ?_))
  exact bodyPost_ret (results_cell_row rfl _ _ w§ 48 m.vals (0,0) _ rfl HF.out.b1 Tryz.underlying48 rfl size64') rfl (out_y HF.out HR.out fun U hU=>hU.2)
 ·have hb:(v == -1)=false:=by simpa using hn
  simp only [hb,Bool.false_eq_true,if_false] at hq
  obtain⟨q,hq1,hq2⟩:=opt_bind hq
  obtain⟨rfl,rfl,t2,us2,h2,hv2⟩:Tr.mk ⟨6,8+v,0,0,0,gE,t.p⟩ [a,q.1]=r∧q.2=ts'∧∃ t us,q.2=t :: us∧fnd t.x LP 0 = -1:=by
   by_cases hn:pNo LP q.2=true
   ·rw [if_pos hn] at hq2; cases hq2; exact⟨rfl,rfl,pNo_inv hn⟩
   ·rw [if_neg hn] at hq2; cases hq2
  have HQ2:Hid (part us=some (q.1,t2 :: us2)∧fnd t2.x LP 0 = -1):=⟨by rw [hq1,← h2],hv2⟩
  rw [h2]
  have hv0:¬ v < 0:=by omega
  have hv3:decide (v < 0)=false:=decide_eq_false hv0
  have hv5:0≤v:=by omega
  have hv6:v < 3:=by omega
  clear HQ hv hlt hge hb hq hq1 hq2 h2 hv2 hn
  go_wp2_with fail
  refine cI.mono ?_
  rintro e w2 ⟨rfl,hb⟩
  have HG2:=(HG1.out.on hb).hid
  have cN:=live_now HG2.out.S
  have hf:=fun v=>field82_4 t v
  have HT:Hid (RgT t):=(HG2.out.S.ok HK.out.k).r
  clear cI hb HG1
  go_wp2_with fail
  refine cN.mono ?_
  rintro e w3 ⟨rfl,hb⟩
  have HG3:=(HG2.out.on hb).hid
  obtain⟨i,c3,f3,hmx,hL,hM,_,_⟩:=HG3.out.S.at'
  have HG4:=(HG3.out.mv hM hL).hid
  have cQ:=HP.out _ _ _ _ HG4.out.S HQ2.out.1
  clear cN hb HG2 HG3 hL hM
  go_upto_region 7 with fail
  generalize eV:w3.setCell ⟨b,3,none⟩ _=V at HG4 cQ ⊢
  clear eV c3 f3 hmx
  go_wp2_with fail
  refine cQ.mono ?_
  rintro e w5 ⟨k,rfl,htr,hdp,hs,hm⟩
  have HR2:Hid (treeOf k=q.1):=htr
  have HG5:=(HX.rowA (pre:=[]) ((HG4.out.add hm hs hdp).push zNo 48) k.vals).hid
  have HZ:Hid ((w5.alloc (.cells zNo 48)).heap[w5§]? = some (.cells zNo 48 (0,0))):=heap_new _ _
  clear cQ htr hdp hs hm HG4
  go_upto_region 8 with (refine wpList_store_row rfl 48 (.tmp 8) (.tmp 30) rfl w5§ k.vals rfl rfl 48 zNo HZ.out size64' rfl (all8 k) ?_)
  generalize hW:World.setRow _ _ _=W5
  rw [hW] at HG5
  generalize w5§=N2 at HG5 ⊢
  clear HZ hW
  have c8:=two_y (8+v) t.p m k W5
  go_wp2_with (first | (refine wpList_load_row rfl 48 (.tmp 5) rfl N rfl 48 m.vals (0,0) _ HG5.out.b1 Tryz.underlying48 rfl size64' ?_) | (refine wpList_load_row rfl 48 (.tmp 8) rfl N2 rfl 48 k.vals (0,0) _ HG5.out.b0 Tryz.underlying48 rfl size64' ?_))
  refine c8.mono ?_
  rintro e w7 ⟨G,rfl,hb,hG1,hG2,hG3⟩
  have HG7:=((HG5.out.add (Mv.ofBelow hb) (HG5.out.S.on hb) (G:=fun U=>U.heap[G]? = some (.cells (m.vals ++ k.vals) 48 (0,0))) fun U hU=>(hU G hG1 hG2).trans hG3).pop).hid
  have HG8:=(HX.rowA (pre:=[]) HG7.out (Nd.mk ⟨6,8+v,0,0,0,gE,t.p⟩ (some ⟨G,0,none⟩) 2 [m,k]).vals).hid
  clear c8 hb hG1 hG2 hG3 HG5
  have HRR:Hid (Rg ⟨6,8+v,0,0,0,gE,t.p⟩):=by
   have hr:=HT.out
   have:=hr.p0; have:=hr.p1
   constructor <;> first | assumption | omega | (simp only; omega) | (show gE.size≤140737488355328; decide)
  clear hv0 hv3 hv5 hv6
  go_wp2_with (refine wpList_store_row rfl 48 (.tmp 5) (.tmp 37) rfl N (Nd.mk ⟨6,8+v,0,0,0,gE,t.p⟩ (some ⟨G,0,none⟩) 2 [m,k]).vals rfl rfl 48 _ HG7.out.b0 size64' rfl (all8 _) ?_)
  generalize hW:World.setRow _ _ _=W8
  rw [hW] at HG8
  clear hW HG7
  have cI:=any_y HG8.out.S HK.out LP (n:=3) rfl (by decide) (by decide +kernel)
  rw [HQ2.out.2] at cI
  simp only [LP,List.map] at cI
  rw [rounds_succ]
  go_wp2_with fail
  refine cI.mono ?_
  rintro e w9 ⟨rfl,hb⟩
  have HG9:=(HG8.out.on hb).hid
  clear cI hb HG8
  generalize eB:Nd.mk ⟨6,8+v,0,0,0,gE,t.p⟩ (some ⟨G,0,none⟩) 2 [m,k]=B at HG9 ⊢
  have HB:Hid (treeOf B=Tr.mk ⟨6,8+v,0,0,0,gE,t.p⟩ [a,q.1]∧∀ U,(((True∧Lies U m)∧Lies U k)∧U.heap[G]? = some (.cells (m.vals ++ k.vals) 48 (0,0)))→Lies U B):=by
   rw [← eB]
   refine⟨?_,fun U hU=>lies_two HRR.out hU.1.1.2 hU.1.2 hU.2⟩
   show Tr.mk _ [treeOf m,treeOf k]=_
   rw [HR.out,HR2.out]
  clear eB
  have HF:=(HX.rowA (pre:=[_]) HG9.out B.vals).hid
  go_wp2_with (first | (refine wpList_load_row rfl 48 (.tmp 5) rfl N rfl 48 B.vals (0,0) _ HG9.out.b0 Tryz.underlying48 rfl size64' ?_) | (refine wpList_store_row rfl 48 (.tmp 4) (.tmp 17) rfl w§ B.vals rfl rfl 48 _ HG9.out.b1 size64' rfl (all8 _) ?_))
  exact bodyPost_ret (results_cell_row rfl _ _ w§ 48 B.vals (0,0) _ rfl HF.out.b1 Tryz.underlying48 rfl size64') rfl (out_y HF.out HB.out.1 HB.out.2)
set_option maxRecDepth 100000 in
set_option maxHeartbeats 4000000 in
theorem sum_y {w:World}{b:Nat}{K:PK}{ts ts':List Tk}{r:Tr}(d:Int) {part:List Tk→Option (Tr × List Tk)}(cP:∀ (w:World) (ts ts':List Tk) (r:Tr),Lv w b K ts→part ts=some (r,ts')→Calls zG 180 #[zP b,zI d] w (OutE b K w r ts')) (hK:KG K) (h:Lv w b K ts) (hp:pRow LS 6 part ts=some (r,ts')) :
  Calls zG 167 #[zP b,zI d] w (OutE b K w r ts'):=by
 obtain⟨⟨a,a2⟩,ha,hp⟩:=opt_bind hp
 obtain⟨t,us,rfl⟩:∃ t us,a2=t :: us:=by
  cases a2 with
  | nil=>cases hp
  | cons t us=>exact⟨t,us,rfl⟩
 have HP:Hid (∀ (w:World) (ts ts':List Tk) (r:Tr),Lv w b K ts→part ts=some (r,ts')→Calls zG 180 #[zP b,zI d] w (OutE b K w r ts')):=cP
 have HK:Hid (KG K):=hK
 have HG0:=((HX.new h 0 0).push zNo 48).hid
 obtain⟨W0,eW0⟩:∃ W,w.alloc (.cells zNo 48)=W:=⟨_,rfl⟩
 rw [eW0] at HG0
 have cP:=cP _ _ _ _ HG0.out.S ha
 have HQ:Hid ((if pNo LS (t :: us) then some (a,t :: us) else (part us).bind fun d=>if pNo LS d.2 then some (Tr.mk ⟨6,6+fnd t.x LS 0,0,0,0,gE,t.p⟩ [a,d.1],d.2) else none)=some (r,ts')):=hp
 clear ha
 clear h hp hK
 go_enter Tryz.func167,Tryz.ntmps167
 go_wp2_with fail
 try rw [eW0]
 refine cP.mono ?_
 rintro e w1 ⟨m,rfl,htr,hdp,hs,hm⟩
 have HR:Hid (treeOf m=a):=htr
 have HG1:=(HX.rowA (pre:=[]) ((HG0.out.add hm hs hdp).push zNo 48) m.vals).hid
 have HZ:Hid ((w1.alloc (.cells zNo 48)).heap[w1§]? = some (.cells zNo 48 (0,0))):=heap_new _ _
 clear cP htr hdp hs hm HG0 eW0
 go_upto_region 2 with (refine wpList_store_row rfl 48 (.tmp 5) (.tmp 11) rfl w1§ m.vals rfl rfl 48 zNo HZ.out size64' rfl (all8 m) ?_)
 generalize hW:World.setRow _ _ _=W1
 rw [hW] at HG1
 generalize w1§=N at HG1 ⊢
 clear HZ hW
 have cI:=any_y HG1.out.S HK.out LS (n:=2) rfl (by decide) (by decide +kernel)
 have hq:=HQ.out
 rw [show pNo LS (t :: us)=(fnd t.x LS 0 == -1) from rfl] at hq
 have hlt:=fnd_lt t.x LS 0
 have hge:=fnd_ge t.x LS 0
 obtain⟨v,hv⟩:∃ v,fnd t.x LS 0=v:=⟨_,rfl⟩
 rw [hv] at cI hq hlt hge
 simp only [LS,List.length_cons,List.length_nil] at hlt
 simp only [LS,List.map] at cI
 refine wp_loop_rounds 2 ?_
 rw [rounds_succ]
 by_cases hn:v = -1
 ·subst hn
  simp only [beq_self_eq_true,if_true,Option.some.injEq,Prod.mk.injEq] at hq
  obtain⟨rfl,rfl⟩:=hq
  clear HP HQ hv hlt hge
  go_wp2_with fail
  refine cI.mono ?_
  rintro e w2 ⟨rfl,hb⟩
  have HG2:=(HG1.out.on hb).hid
  clear cI hb HG1
  have HF:=(HX.rowA (pre:=[_]) HG2.out m.vals).hid
  go_wp2_with (first | (refine wpList_load_row rfl 48 (.tmp 5) rfl N rfl 48 m.vals (0,0) _ HG2.out.b0 Tryz.underlying48 rfl size64' ?_) | (refine wpList_store_row rfl 48 (.tmp 4) (.tmp 17) rfl w§ m.vals rfl rfl 48 _ HG2.out.b1 size64' rfl (all8 _) ?_))
  exact bodyPost_ret (results_cell_row rfl _ _ w§ 48 m.vals (0,0) _ rfl HF.out.b1 Tryz.underlying48 rfl size64') rfl (out_y HF.out HR.out fun U hU=>hU.2)
 ·have hb:(v == -1)=false:=by simpa using hn
  simp only [hb,Bool.false_eq_true,if_false] at hq
  obtain⟨q,hq1,hq2⟩:=opt_bind hq
  obtain⟨rfl,rfl,t2,us2,h2,hv2⟩:Tr.mk ⟨6,6+v,0,0,0,gE,t.p⟩ [a,q.1]=r∧q.2=ts'∧∃ t us,q.2=t :: us∧fnd t.x LS 0 = -1:=by
   by_cases hn:pNo LS q.2=true
   ·rw [if_pos hn] at hq2; cases hq2; exact⟨rfl,rfl,pNo_inv hn⟩
   ·rw [if_neg hn] at hq2; cases hq2
  have HQ2:Hid (part us=some (q.1,t2 :: us2)∧fnd t2.x LS 0 = -1):=⟨by rw [hq1,← h2],hv2⟩
  rw [h2]
  have hv0:¬ v < 0:=by omega
  have hv3:decide (v < 0)=false:=decide_eq_false hv0
  have hv5:0≤v:=by omega
  have hv6:v < 2:=by omega
  clear HQ hv hlt hge hb hq hq1 hq2 h2 hv2 hn
  go_wp2_with fail
  refine cI.mono ?_
  rintro e w2 ⟨rfl,hb⟩
  have HG2:=(HG1.out.on hb).hid
  have cN:=live_now HG2.out.S
  have hf:=fun v=>field82_4 t v
  have HT:Hid (RgT t):=(HG2.out.S.ok HK.out.k).r
  clear cI hb HG1
  go_wp2_with fail
  refine cN.mono ?_
  rintro e w3 ⟨rfl,hb⟩
  have HG3:=(HG2.out.on hb).hid
  obtain⟨i,c3,f3,hmx,hL,hM,_,_⟩:=HG3.out.S.at'
  have HG4:=(HG3.out.mv hM hL).hid
  have cQ:=HP.out _ _ _ _ HG4.out.S HQ2.out.1
  clear cN hb HG2 HG3 hL hM
  go_upto_region 7 with fail
  generalize eV:w3.setCell ⟨b,3,none⟩ _=V at HG4 cQ ⊢
  clear eV c3 f3 hmx
  go_wp2_with fail
  refine cQ.mono ?_
  rintro e w5 ⟨k,rfl,htr,hdp,hs,hm⟩
  have HR2:Hid (treeOf k=q.1):=htr
  have HG5:=(HX.rowA (pre:=[]) ((HG4.out.add hm hs hdp).push zNo 48) k.vals).hid
  have HZ:Hid ((w5.alloc (.cells zNo 48)).heap[w5§]? = some (.cells zNo 48 (0,0))):=heap_new _ _
  clear cQ htr hdp hs hm HG4
  go_upto_region 8 with (refine wpList_store_row rfl 48 (.tmp 8) (.tmp 30) rfl w5§ k.vals rfl rfl 48 zNo HZ.out size64' rfl (all8 k) ?_)
  generalize hW:World.setRow _ _ _=W5
  rw [hW] at HG5
  generalize w5§=N2 at HG5 ⊢
  clear HZ hW
  have c8:=two_y (6+v) t.p m k W5
  go_wp2_with (first | (refine wpList_load_row rfl 48 (.tmp 5) rfl N rfl 48 m.vals (0,0) _ HG5.out.b1 Tryz.underlying48 rfl size64' ?_) | (refine wpList_load_row rfl 48 (.tmp 8) rfl N2 rfl 48 k.vals (0,0) _ HG5.out.b0 Tryz.underlying48 rfl size64' ?_))
  refine c8.mono ?_
  rintro e w7 ⟨G,rfl,hb,hG1,hG2,hG3⟩
  have HG7:=((HG5.out.add (Mv.ofBelow hb) (HG5.out.S.on hb) (G:=fun U=>U.heap[G]? = some (.cells (m.vals ++ k.vals) 48 (0,0))) fun U hU=>(hU G hG1 hG2).trans hG3).pop).hid
  have HG8:=(HX.rowA (pre:=[]) HG7.out (Nd.mk ⟨6,6+v,0,0,0,gE,t.p⟩ (some ⟨G,0,none⟩) 2 [m,k]).vals).hid
  clear c8 hb hG1 hG2 hG3 HG5
  have HRR:Hid (Rg ⟨6,6+v,0,0,0,gE,t.p⟩):=by
   have hr:=HT.out
   have:=hr.p0; have:=hr.p1
   constructor <;> first | assumption | omega | (simp only; omega) | (show gE.size≤140737488355328; decide)
  clear hv0 hv3 hv5 hv6
  go_wp2_with (refine wpList_store_row rfl 48 (.tmp 5) (.tmp 37) rfl N (Nd.mk ⟨6,6+v,0,0,0,gE,t.p⟩ (some ⟨G,0,none⟩) 2 [m,k]).vals rfl rfl 48 _ HG7.out.b0 size64' rfl (all8 _) ?_)
  generalize hW:World.setRow _ _ _=W8
  rw [hW] at HG8
  clear hW HG7
  have cI:=any_y HG8.out.S HK.out LS (n:=2) rfl (by decide) (by decide +kernel)
  rw [HQ2.out.2] at cI
  simp only [LS,List.map] at cI
  rw [rounds_succ]
  go_wp2_with fail
  refine cI.mono ?_
  rintro e w9 ⟨rfl,hb⟩
  have HG9:=(HG8.out.on hb).hid
  clear cI hb HG8
  generalize eB:Nd.mk ⟨6,6+v,0,0,0,gE,t.p⟩ (some ⟨G,0,none⟩) 2 [m,k]=B at HG9 ⊢
  have HB:Hid (treeOf B=Tr.mk ⟨6,6+v,0,0,0,gE,t.p⟩ [a,q.1]∧∀ U,(((True∧Lies U m)∧Lies U k)∧U.heap[G]? = some (.cells (m.vals ++ k.vals) 48 (0,0)))→Lies U B):=by
   rw [← eB]
   refine⟨?_,fun U hU=>lies_two HRR.out hU.1.1.2 hU.1.2 hU.2⟩
   show Tr.mk _ [treeOf m,treeOf k]=_
   rw [HR.out,HR2.out]
  clear eB
  have HF:=(HX.rowA (pre:=[_]) HG9.out B.vals).hid
  go_wp2_with (first | (refine wpList_load_row rfl 48 (.tmp 5) rfl N rfl 48 B.vals (0,0) _ HG9.out.b0 Tryz.underlying48 rfl size64' ?_) | (refine wpList_store_row rfl 48 (.tmp 4) (.tmp 17) rfl w§ B.vals rfl rfl 48 _ HG9.out.b1 size64' rfl (all8 _) ?_))
  exact bodyPost_ret (results_cell_row rfl _ _ w§ 48 B.vals (0,0) _ rfl HF.out.b1 Tryz.underlying48 rfl size64') rfl (out_y HF.out HB.out.1 HB.out.2)
theorem no1 {y x:ByteArray}(h:fnd y [x] 0 = -1):¬ y=x:=fun e=>by rw [fnd,if_pos e] at h; cases h
set_option maxRecDepth 100000 in
set_option maxHeartbeats 4000000 in
theorem or_y {w:World}{b:Nat}{K:PK}{ts ts':List Tk}{r:Tr}(d:Int) {part:List Tk→Option (Tr × List Tk)}(cP:∀ (w:World) (ts ts':List Tk) (r:Tr),Lv w b K ts→part ts=some (r,ts')→Calls zG 125 #[zP b,zI d] w (OutE b K w r ts')) (hK:KG K) (h:Lv w b K ts) (hp:pNone [Zd] part ts=some (r,ts')) :
  Calls zG 88 #[zP b,zI d] w (OutE b K w r ts'):=by
 obtain⟨a,ha,hp⟩:=opt_bind hp
 obtain⟨rfl,rfl,t,us,hts,hv⟩:a.1=r∧a.2=ts'∧∃ t us,a.2=t :: us∧fnd t.x [Zd] 0 = -1:=by
  by_cases hn:pNo [Zd] a.2=true
  ·rw [if_pos hn] at hp; cases hp; exact⟨rfl,rfl,pNo_inv hn⟩
  ·rw [if_neg hn] at hp; cases hp
 rw [hts]
 have HK:Hid (KG K):=hK
 have HG0:=((HX.new h 0 0).push zNo 48).hid
 obtain⟨W0,eW0⟩:∃ W,w.alloc (.cells zNo 48)=W:=⟨_,rfl⟩
 rw [eW0] at HG0
 have cP:=cP _ _ _ _ HG0.out.S ha
 rw [hts] at cP
 have HV:Hid (fnd t.x [Zd] 0 = -1):=hv
 clear ha hts hv
 clear h hp hK
 go_enter Tryz.func88,Tryz.ntmps88
 go_wp2_with fail
 try rw [eW0]
 refine cP.mono ?_
 rintro e w1 ⟨m,rfl,htr,hdp,hs,hm⟩
 have HR:Hid (treeOf m=a.1):=htr
 have HG1:=(HX.rowA (pre:=[]) ((HG0.out.add hm hs hdp).push zNo 48) m.vals).hid
 have HZ:Hid ((w1.alloc (.cells zNo 48)).heap[w1§]? = some (.cells zNo 48 (0,0))):=heap_new _ _
 clear cP htr hdp hs hm HG0 eW0
 go_upto_region 2 with (refine wpList_store_row rfl 48 (.tmp 5) (.tmp 11) rfl w1§ m.vals rfl rfl 48 zNo HZ.out size64' rfl (all8 m) ?_)
 generalize hW:World.setRow _ _ _=W1
 rw [hW] at HG1
 generalize w1§=N at HG1 ⊢
 clear HZ hW
 have cI:=is_live HG1.out.S Zd (kw_gd (HG1.out.S.gd HK.out) (by decide +kernel))
 rw [decide_eq_false (no1 HV.out)] at cI
 refine wp_loop_rounds 1 ?_
 rw [rounds_succ]
 go_wp2_with fail
 refine cI.mono ?_
 rintro e w2 ⟨rfl,hb⟩
 have HG2:=(HG1.out.on hb).hid
 clear cI hb HG1 HV
 have HF:=(HX.rowA (pre:=[_]) HG2.out m.vals).hid
 go_wp2_with (first | (refine wpList_load_row rfl 48 (.tmp 5) rfl N rfl 48 m.vals (0,0) _ HG2.out.b0 Tryz.underlying48 rfl size64' ?_) | (refine wpList_store_row rfl 48 (.tmp 4) (.tmp 16) rfl w§ m.vals rfl rfl 48 _ HG2.out.b1 size64' rfl (all8 _) ?_))
 exact bodyPost_ret (results_cell_row rfl _ _ w§ 48 m.vals (0,0) _ rfl HF.out.b1 Tryz.underlying48 rfl size64') rfl (out_y HF.out HR.out fun U hU=>hU.2)
set_option maxRecDepth 100000 in
set_option maxHeartbeats 4000000 in
theorem and_y {w:World}{b:Nat}{K:PK}{ts ts':List Tk}{r:Tr}(d:Int) {part:List Tk→Option (Tr × List Tk)}(cP:∀ (w:World) (ts ts':List Tk) (r:Tr),Lv w b K ts→part ts=some (r,ts')→Calls zG 156 #[zP b,zI d] w (OutE b K w r ts')) (hK:KG K) (h:Lv w b K ts) (hp:pNone [Zc] part ts=some (r,ts')) :
  Calls zG 125 #[zP b,zI d] w (OutE b K w r ts'):=by
 obtain⟨a,ha,hp⟩:=opt_bind hp
 obtain⟨rfl,rfl,t,us,hts,hv⟩:a.1=r∧a.2=ts'∧∃ t us,a.2=t :: us∧fnd t.x [Zc] 0 = -1:=by
  by_cases hn:pNo [Zc] a.2=true
  ·rw [if_pos hn] at hp; cases hp; exact⟨rfl,rfl,pNo_inv hn⟩
  ·rw [if_neg hn] at hp; cases hp
 rw [hts]
 have HK:Hid (KG K):=hK
 have HG0:=((HX.new h 0 0).push zNo 48).hid
 obtain⟨W0,eW0⟩:∃ W,w.alloc (.cells zNo 48)=W:=⟨_,rfl⟩
 rw [eW0] at HG0
 have cP:=cP _ _ _ _ HG0.out.S ha
 rw [hts] at cP
 have HV:Hid (fnd t.x [Zc] 0 = -1):=hv
 clear ha hts hv
 clear h hp hK
 go_enter Tryz.func125,Tryz.ntmps125
 go_wp2_with fail
 try rw [eW0]
 refine cP.mono ?_
 rintro e w1 ⟨m,rfl,htr,hdp,hs,hm⟩
 have HR:Hid (treeOf m=a.1):=htr
 have HG1:=(HX.rowA (pre:=[]) ((HG0.out.add hm hs hdp).push zNo 48) m.vals).hid
 have HZ:Hid ((w1.alloc (.cells zNo 48)).heap[w1§]? = some (.cells zNo 48 (0,0))):=heap_new _ _
 clear cP htr hdp hs hm HG0 eW0
 go_upto_region 2 with (refine wpList_store_row rfl 48 (.tmp 5) (.tmp 11) rfl w1§ m.vals rfl rfl 48 zNo HZ.out size64' rfl (all8 m) ?_)
 generalize hW:World.setRow _ _ _=W1
 rw [hW] at HG1
 generalize w1§=N at HG1 ⊢
 clear HZ hW
 have cI:=is_live HG1.out.S Zc (kw_gd (HG1.out.S.gd HK.out) (by decide +kernel))
 rw [decide_eq_false (no1 HV.out)] at cI
 refine wp_loop_rounds 1 ?_
 rw [rounds_succ]
 go_wp2_with fail
 refine cI.mono ?_
 rintro e w2 ⟨rfl,hb⟩
 have HG2:=(HG1.out.on hb).hid
 clear cI hb HG1 HV
 have HF:=(HX.rowA (pre:=[_]) HG2.out m.vals).hid
 go_wp2_with (first | (refine wpList_load_row rfl 48 (.tmp 5) rfl N rfl 48 m.vals (0,0) _ HG2.out.b0 Tryz.underlying48 rfl size64' ?_) | (refine wpList_store_row rfl 48 (.tmp 4) (.tmp 16) rfl w§ m.vals rfl rfl 48 _ HG2.out.b1 size64' rfl (all8 _) ?_))
 exact bodyPost_ret (results_cell_row rfl _ _ w§ 48 m.vals (0,0) _ rfl HF.out.b1 Tryz.underlying48 rfl size64') rfl (out_y HF.out HR.out fun U hU=>hU.2)
set_option maxRecDepth 100000 in
set_option maxHeartbeats 4000000 in
theorem cmp_y {w:World}{b:Nat}{K:PK}{ts ts':List Tk}{r:Tr}(d:Int) {part:List Tk→Option (Tr × List Tk)}(cP:∀ (w:World) (ts ts':List Tk) (r:Tr),Lv w b K ts→part ts=some (r,ts')→Calls zG 167 #[zP b,zI d] w (OutE b K w r ts')) (hK:KG K) (h:Lv w b K ts) (hp:pNone LC part ts=some (r,ts')) :
  Calls zG 156 #[zP b,zI d] w (OutE b K w r ts'):=by
 obtain⟨a,ha,hp⟩:=opt_bind hp
 obtain⟨rfl,rfl,t,us,hts,hv⟩:a.1=r∧a.2=ts'∧∃ t us,a.2=t :: us∧fnd t.x LC 0 = -1:=by
  by_cases hn:pNo LC a.2=true
  ·rw [if_pos hn] at hp; cases hp; exact⟨rfl,rfl,pNo_inv hn⟩
  ·rw [if_neg hn] at hp; cases hp
 rw [hts]
 have HK:Hid (KG K):=hK
 have HG0:=((HX.new h 0 0).push zNo 48).hid
 obtain⟨W0,eW0⟩:∃ W,w.alloc (.cells zNo 48)=W:=⟨_,rfl⟩
 rw [eW0] at HG0
 have cP:=cP _ _ _ _ HG0.out.S ha
 rw [hts] at cP
 have HV:Hid (fnd t.x LC 0 = -1):=hv
 clear ha hts hv
 clear h hp hK
 go_enter Tryz.func156,Tryz.ntmps156
 go_wp2_with fail
 try rw [eW0]
 refine cP.mono ?_
 rintro e w1 ⟨m,rfl,htr,hdp,hs,hm⟩
 have HR:Hid (treeOf m=a.1):=htr
 have HG1:=(HX.rowA (pre:=[]) ((HG0.out.add hm hs hdp).push zNo 48) m.vals).hid
 have HZ:Hid ((w1.alloc (.cells zNo 48)).heap[w1§]? = some (.cells zNo 48 (0,0))):=heap_new _ _
 clear cP htr hdp hs hm HG0 eW0
 go_upto_region 2 with (refine wpList_store_row rfl 48 (.tmp 5) (.tmp 11) rfl w1§ m.vals rfl rfl 48 zNo HZ.out size64' rfl (all8 m) ?_)
 generalize hW:World.setRow _ _ _=W1
 rw [hW] at HG1
 generalize w1§=N at HG1 ⊢
 clear HZ hW
 have cI:=any_y HG1.out.S HK.out LC (n:=6) rfl (by decide) (by decide +kernel)
 rw [HV.out] at cI
 simp only [LC,List.map] at cI
 go_wp2_with fail
 refine cI.mono ?_
 rintro e w2 ⟨rfl,hb⟩
 have HG2:=(HG1.out.on hb).hid
 clear cI hb HG1 HV
 have HF:=(HX.rowA (pre:=[_]) HG2.out m.vals).hid
 go_wp2_with (first | (refine wpList_load_row rfl 48 (.tmp 5) rfl N rfl 48 m.vals (0,0) _ HG2.out.b0 Tryz.underlying48 rfl size64' ?_) | (refine wpList_store_row rfl 48 (.tmp 4) (.tmp 17) rfl w§ m.vals rfl rfl 48 _ HG2.out.b1 size64' rfl (all8 _) ?_))
 exact bodyPost_ret (results_cell_row rfl _ _ w§ 48 m.vals (0,0) _ rfl HF.out.b1 Tryz.underlying48 rfl size64') rfl (out_y HF.out HR.out fun U hU=>hU.2)
set_option maxRecDepth 100000 in
set_option maxHeartbeats 4000000 in
theorem cond_y {w:World}{b:Nat}{K:PK}{ts ts':List Tk}{r:Tr}(d:Int) {part:List Tk→Option (Tr × List Tk)}(cP:∀ (w:World) (ts ts':List Tk) (r:Tr),Lv w b K ts→part ts=some (r,ts')→Calls zG 88 #[zP b,zI d] w (OutE b K w r ts')) (hK:KG K) (h:Lv w b K ts) (hp:pNone [Zf] part ts=some (r,ts')) :
  Calls zG 52 #[zP b,zI d] w (OutE b K w r ts'):=by
 obtain⟨a,ha,hp⟩:=opt_bind hp
 obtain⟨rfl,rfl,t,us,hts,hv⟩:a.1=r∧a.2=ts'∧∃ t us,a.2=t :: us∧fnd t.x [Zf] 0 = -1:=by
  by_cases hn:pNo [Zf] a.2=true
  ·rw [if_pos hn] at hp; cases hp; exact⟨rfl,rfl,pNo_inv hn⟩
  ·rw [if_neg hn] at hp; cases hp
 rw [hts]
 have HK:Hid (KG K):=hK
 have HG0:=((HX.new h 0 0).push zNo 48).hid
 obtain⟨W0,eW0⟩:∃ W,w.alloc (.cells zNo 48)=W:=⟨_,rfl⟩
 rw [eW0] at HG0
 have cP:=cP _ _ _ _ HG0.out.S ha
 rw [hts] at cP
 have HV:Hid (fnd t.x [Zf] 0 = -1):=hv
 clear ha hts hv
 clear h hp hK
 go_enter Tryz.func52,Tryz.ntmps52
 go_wp2_with fail
 try rw [eW0]
 refine cP.mono ?_
 rintro e w1 ⟨m,rfl,htr,hdp,hs,hm⟩
 have HR:Hid (treeOf m=a.1):=htr
 have HG1:=(HX.rowA (pre:=[]) ((HG0.out.add hm hs hdp).push zNo 48) m.vals).hid
 have HZ:Hid ((w1.alloc (.cells zNo 48)).heap[w1§]? = some (.cells zNo 48 (0,0))):=heap_new _ _
 clear cP htr hdp hs hm HG0 eW0
 go_upto_region 2 with (refine wpList_store_row rfl 48 (.tmp 5) (.tmp 13) rfl w1§ m.vals rfl rfl 48 zNo HZ.out size64' rfl (all8 m) ?_)
 generalize hW:World.setRow _ _ _=W1
 rw [hW] at HG1
 generalize w1§=N at HG1 ⊢
 clear HZ hW
 have cI:=is_live HG1.out.S Zf (kw_gd (HG1.out.S.gd HK.out) (by decide +kernel))
 rw [decide_eq_false (no1 HV.out)] at cI
 go_wp2_with fail
 refine cI.mono ?_
 rintro e w2 ⟨rfl,hb⟩
 have HG2:=(HG1.out.on hb).hid
 clear cI hb HG1 HV
 have HF:=(HX.rowA (pre:=[_]) HG2.out m.vals).hid
 go_wp2_with (first | (refine wpList_load_row rfl 48 (.tmp 5) rfl N rfl 48 m.vals (0,0) _ HG2.out.b0 Tryz.underlying48 rfl size64' ?_) | (refine wpList_store_row rfl 48 (.tmp 4) (.tmp 18) rfl w§ m.vals rfl rfl 48 _ HG2.out.b1 size64' rfl (all8 _) ?_))
 exact bodyPost_ret (results_cell_row rfl _ _ w§ 48 m.vals (0,0) _ rfl HF.out.b1 Tryz.underlying48 rfl size64') rfl (out_y HF.out HR.out fun U hU=>hU.2)
theorem ex_y {w:World}{b:Nat}{K:PK}{ts ts':List Tk}{r:Tr}(d:Int) (hK:KG K) (h:Lv w b K ts) (hp:pEx ts=some (r,ts')) :
  Calls zG 52 #[zP b,zI d] w (OutE b K w r ts') :=
 cond_y d (fun _ _ _ _ h hp=>or_y d (fun _ _ _ _ h hp=>and_y d (fun _ _ _ _ h hp=>cmp_y d (fun _ _ _ _ h hp=>sum_y d (fun _ _ _ _ h hp=>pro_y d (fun _ _ _ _ h hp=>un_y d hK h hp) hK h hp) hK h hp) hK h hp) hK h hp) hK h hp) hK h hp
theorem take_l {w:World}{b:Nat}{K:PK}{t:Tk}{ts:List Tk}(hK:KG K) (h:Lv w b K (t :: ts)) (x:ByteArray) (hx:(lx x.data.toList).map (·.1)=some 1∨(lx x.data.toList).map (·.1)=some 4) (ht:t.x=x) :
  Calls zG 55 #[zP b,.string x] w fun e w'=>e=.returned (zI t.p)∧Lv w' b K ts∧Mv w w' (fun k=>k=b):=by
 refine (take_live h x (kw_gd (h.gd hK) hx)).mono ?_
 rintro e w' ⟨⟨p,rfl,h1⟩,h2,h3⟩
 rw [if_pos ht] at h2
 rw [h1 ht]
 exact⟨rfl,h2,h3⟩
theorem is_l {w:World}{b:Nat}{K:PK}{t:Tk}{ts:List Tk}(hK:KG K) (h:Lv w b K (t :: ts)) (x:ByteArray) (hx:(lx x.data.toList).map (·.1)=some 1∨(lx x.data.toList).map (·.1)=some 4) {i:Bool}(hi:pIs x (t :: ts)=i) :
  Calls zG 57 #[zP b,.string x] w fun e w'=>e=.returned (.bool i)∧Below w§ w w':=by
 subst hi
 exact is_live h x (kw_gd (h.gd hK) hx)
set_option maxRecDepth 100000 in
theorem name_l {w:World}{b:Nat}{K:PK}{t:Tk}{ts:List Tk}(h:Lv w b K (t :: ts)) (hk:t.k=2) :
  Calls zG 56 #[zP b] w fun e w'=>e=.returned (.string t.x)∧Lv w' b K ts∧Mv w w' (fun k=>k=b):=by
 have cN:=live_now h
 have HH:=h.hid
 unfold tkA at cN
 rw [hk] at cN
 clear h hk
 go_enter Tryz.func56,Tryz.ntmps56
 go_wp2_with fail
 refine cN.mono ?_
 rintro e w1 ⟨rfl,hb⟩
 have HB:Hid (Below w§ w (w1.alloc (.cells #[zU 2,.string t.x,zU t.ty,zI t.n,zI t.p] 148))):=below2 hb (below_new _ _)
 have hN:=heap_new w1 (.cells #[zU 2,.string t.x,zU t.ty,zI t.n,zI t.p] 148)
 obtain⟨i,c3,f3,hmx,hL,hM,ho,_⟩:=(HH.out.on HB.out).at'
 have hbl:=HH.out.lt
 have hsz:=hb.size
 have k1:((w1.alloc (.cells #[zU 2,.string t.x,zU t.ty,zI t.n,zI t.p] 148)).setCell ⟨b,3,none⟩ (zI ((i:Int)+1))).cell? ⟨w1§,1,none⟩=some (.string t.x):=cell_of ((ho w1§ (by omega)).trans hN) 1
 obtain⟨W,eW⟩:∃ W,w1.alloc (.cells #[zU 2,.string t.x,zU t.ty,zI t.n,zI t.p] 148)=W:=⟨_,rfl⟩
 have k0:W.cell? ⟨w1§,0,none⟩=some (zU 2):=by rw [← eW]; exact cell_of hN 0
 rw [eW] at HB c3 f3 hL hM k1
 have HL:=hL.hid
 have HM:Hid (Mv W _ (fun k=>k=b)):=hM
 clear cN hb hN hL hM ho hbl hsz
 obtain⟨Y,eY⟩:∃ Y,W.setCell ⟨b,3,none⟩ (zI ((i:Int)+1))=Y:=⟨_,rfl⟩
 rw [eY] at HL HM k1
 go_wp2_with fail
 try rw [eW]
 go_wp2_with fail
 go_ret
 first | exact⟨rfl,HL.out,(Mv.ofBelow HB.out).trans HM.out (fun k e=>.inl e)⟩ | (rw [eY]; exact⟨rfl,HL.out,(Mv.ofBelow HB.out).trans HM.out (fun k e=>.inl e)⟩)
theorem expr_l {w:World}{b:Nat}{K:PK}{t:Tk}{ts:List Tk}{r:Tr}{u:Tk}{us:List Tk}(hK:KG K) (h:Lv w b K (t :: ts)) (hp:pEx (t :: ts)=some (r,u :: us)) :
  Calls zG 52 #[zP b,zI 0] w (OutE b K w r (u :: us)):=ex_y 0 hK h hp
theorem HX.cellA {w:World}{b:Nat}{K:PK}{V:World}{pre post:List (Nat × Nat × Array Value)}{N:Nat}{e sz:Nat}{v:Value}{vs:List (Array Value)}{F:World→Prop}{ts:List Tk}{T:Nat}{cs:Array Value}(h:HX w b K V (pre ++ (N,T,cs) :: post) e sz v vs F ts) (i:Nat) (hi:i < cs.size):∃ u,V.cell? ⟨N,i,none⟩=some u∧V.frozen? ⟨N,i,none⟩=false:=by
 have hb:=(h.B (N,T,cs) (by simp)).1
 refine⟨cs[i],?_,frozen_of hb i⟩
 rw [cell_of hb i,Array.getElem?_eq_getElem hi]
def nd00:Nd:=.mk ⟨0,0,0,0,0,gE,0⟩ none 0 []
theorem doSd_eq (k o:Int) (x:ByteArray) (s q r u m:Nd) (p:Int):set8 (doA k o x s q r u p) 3 m=doA k o x m q r u p:=by kernel_rfl
theorem doQt_eq (k o:Int) (x:ByteArray) (s q r u m:Nd) (p:Int):set8 (doA k o x s q r u p) 11 m=doA k o x s m r u p:=by kernel_rfl
theorem doPr_eq (k o:Int) (x:ByteArray) (s q r u m:Nd) (p:Int):set8 (doA k o x s q r u p) 19 m=doA k o x s q m u p:=by kernel_rfl
theorem doVl_eq (k o:Int) (x:ByteArray) (s q r u m:Nd) (p:Int):set8 (doA k o x s q r u p) 27 m=doA k o x s q r m p:=by kernel_rfl
theorem HX.doX {w:World}{b:Nat}{K:PK}{V:World}{post:List (Nat × Nat × Array Value)}{N:Nat}{e sz:Nat}{v:Value}{vs:List (Array Value)}{F:World→Prop}{ts:List Tk}{k o:Int}{x:ByteArray}{s q r u:Nd}{p:Int}(h:HX w b K V ((N,105,doA k o x s q r u p) :: post) e sz v vs F ts) (x':ByteArray):HX w b K (V.setCell ⟨N,2,none⟩ (.string x')) ((N,105,doA k o x' s q r u p) :: post) e sz v vs F ts:=HX.setA (pre:=[]) h 2 (.string x')
theorem all36 (k o:Int) (x:ByteArray) (s q r u:Nd) (p:Int):(doA k o x s q r u p).all (·.oneCell')=true:=by
 simp [doA,Value.oneCell']
theorem doA_sz (k o:Int) (x:ByteArray) (s q r u:Nd) (p:Int):(doA k o x s q r u p).size=36:=rfl
theorem cells8_eq (V:World) (N o:Nat) (m:Nd):V.setCells N o m.vals.toList=((((((((V.setCell ⟨N,o,none⟩ (zU m.h.k)).setCell ⟨N,o+1,none⟩ (zU m.h.o)).setCell ⟨N,o+2,none⟩ (zU m.h.t)).setCell ⟨N,o+3,none⟩ (zI m.h.n)).setCell ⟨N,o+4,none⟩ (zU m.h.f)).setCell ⟨N,o+5,none⟩ (.string m.h.x)).setCell ⟨N,o+6,none⟩ (.slice m.a m.ks.length m.c)).setCell ⟨N,o+7,none⟩ (zI m.h.p)):=rfl
end Go.Proofs.YtoogodlnnijikaaGreatDoor
