import Derived.Test.YtoogodlnnijikaaGreatDoorA0
import Derived.Test.YtoogodlnnijikaaGreatDoorA14
import Derived.Test.YtoogodlnnijikaaGreatDoorA12
namespace Go.Proofs.YtoogodlnnijikaaGreatDoor
open Go.RowKit
set_option linter.unusedVariables false
def stA (x:ByteArray) (a:Option Addr) (n c:Nat) (p:Int):Array Value:=#[.string x,.slice a n c,zI p]
theorem stA_vals (r:StateM):r.vals=stA r.x r.a r.rs.length r.c r.p:=rfl
theorem stZ_eq (p:Int):#[.string ⟨#[]⟩,.slice none 0 0,zI p]=stA ⟨#[]⟩ none 0 0 p:=rfl
theorem stX_eq (x x':ByteArray) (a:Option Addr) (n c:Nat) (p:Int):(stA x a n c p).setIfInBounds 0 (.string x')=stA x' a n c p:=by kernel_rfl
theorem stS_eq (x:ByteArray) (a a':Option Addr) (n n' c c':Nat) (p:Int):(stA x a n c p).setIfInBounds 1 (.slice a' n' c')=stA x a' n' c' p:=by kernel_rfl
theorem HX.stX {w:World}{b:Nat}{K:PK}{V:World}{post:List (Nat × Nat × Array Value)}{N:Nat}{e sz:Nat}{v:Value}{vs:List (Array Value)}{F:World→Prop}{ts:List Tk}{x:ByteArray}{a:Option Addr}{n c:Nat}{p:Int}(h:HX w b K V ((N,68,stA x a n c p) :: post) e sz v vs F ts) (x':ByteArray):HX w b K (V.setCell ⟨N,0,none⟩ (.string x')) ((N,68,stA x' a n c p) :: post) e sz v vs F ts:=by
 have h':=HX.setA (pre:=[]) h 0 (.string x')
 rw [stX_eq] at h'
 exact h'
theorem HX.stS {w:World}{b:Nat}{K:PK}{V:World}{post:List (Nat × Nat × Array Value)}{N:Nat}{e sz:Nat}{v:Value}{vs:List (Array Value)}{F:World→Prop}{ts:List Tk}{x:ByteArray}{a:Option Addr}{n c:Nat}{p:Int}(h:HX w b K V ((N,68,stA x a n c p) :: post) e sz v vs F ts) (a':Option Addr) (n' c':Nat):HX w b K (V.setCell ⟨N,1,none⟩ (.slice a' n' c')) ((N,68,stA x a' n' c' p) :: post) e sz v vs F ts:=by
 have h':=HX.setA (pre:=[]) h 1 (.slice a' n' c')
 rw [stS_eq] at h'
 exact h'
theorem HX.stCl {w:World}{b:Nat}{K:PK}{V:World}{post:List (Nat × Nat × Array Value)}{N:Nat}{e sz:Nat}{v:Value}{vs:List (Array Value)}{F:World→Prop}{ts:List Tk}{x:ByteArray}{a:Option Addr}{n c:Nat}{p:Int}(h:HX w b K V ((N,68,stA x a n c p) :: post) e sz v vs F ts):Cl V N 1 (.slice a n c):=⟨_,_,(h.B _ List.mem_cons_self).1,rfl⟩
theorem size87':(Tryz.prog.info? 68).map (·.size)=some 3:=by kernel_rfl
theorem all3 (x:ByteArray) (a:Option Addr) (n c:Nat) (p:Int):(stA x a n c p).all (·.oneCell')=true:=by simp [stA,Value.oneCell']
theorem all10' (r:RuleM):r.vals.all (·.oneCell')=true:=by simp [RuleM.vals,Value.oneCell']
theorem pMany_inv {α:Type}{x:ByteArray}{part:List Tk→Option (α × List Tk)}{k:Nat}{ts:List Tk}{rest:List α}{ts':List Tk}(h:pMany x part k ts=some (rest,ts')):(pIs x ts=false∧rest = []∧ts=ts')∨(pIs x ts=true∧∃ k' a ts1 rest',k=k'+1∧part ts=some (a,ts1)∧pMany x part k' ts1=some (rest',ts')∧rest=a :: rest'):=by
 cases k with
 | zero =>
  unfold pMany at h
  by_cases hi:pIs x ts=true
  ·rw [if_pos hi] at h; cases h
  ·rw [if_neg hi] at h
   cases h
   exact .inl ⟨by simpa using hi,rfl,rfl⟩
 | succ k =>
  unfold pMany at h
  by_cases hi:pIs x ts=true
  ·rw [if_pos hi] at h
   obtain⟨q,h1,h2⟩:=opt_bind h
   obtain⟨r,h3,h4⟩:=opt_bind h2
   cases h4
   exact .inr ⟨hi,k,q.1,q.2,r.1,rfl,h1,h3,rfl⟩
  ·rw [if_neg hi] at h
   cases h
   exact .inl ⟨by simpa using hi,rfl,rfl⟩
theorem pIs_cons {x:ByteArray}{ts:List Tk}(h:pIs x ts=true):∃ t us,ts=t :: us:=by
 cases ts with
 | nil=>cases h
 | cons t us=>exact⟨t,us,rfl⟩
theorem pState_inv {ts:List Tk}{r:StateT}{ts':List Tk}(h:pState ts=some (r,ts')):∃ t1 t2 t3 us rs te,ts=t1 :: t2 :: t3 :: us∧t1.x=Z8∧t2.k=2∧t3.x=Ze∧pMany Z9 pRule 12 us=some (rs,te :: ts')∧te.x=Za∧r=⟨t2.x,rs,t1.p⟩:=by
 unfold pState at h
 obtain⟨a,h1,h⟩:=opt_bind h
 obtain⟨b,h2,h⟩:=opt_bind h
 obtain⟨c,h3,h⟩:=opt_bind h
 obtain⟨d,h4,h⟩:=opt_bind h
 obtain⟨f,h5,h⟩:=opt_bind h
 cases h
 obtain⟨t1,rfl,k1,k1'⟩:=pTake_inv h1
 obtain⟨t2,g2,k2,k2'⟩:=pName_inv h2
 obtain⟨t3,g3,k3,_⟩:=pTake_inv h3
 obtain⟨te,g5,k5,_⟩:=pTake_inv h5
 exact⟨t1,t2,t3,c.2,d.1,te,by rw [g2,g3],k1,k2,k3,by rw [h4,← g5],k5,by rw [k1',k2']⟩
def STI (w:World) (b:Nat) (K:PK) (N3:Nat) (x:ByteArray) (p:Int) (te:Tk) (ts':List Tk) (al:List RuleT) (wr:World):Prop :=
 ∃ (ds:List RuleM) (a:Option Addr) (n c:Nat) (ts2:List Tk) (rest:List RuleT),ds.length=n∧n≤12∧HX w b K wr [(N3,68,stA x a n c p),(w§,68,stA ⟨#[]⟩ none 0 0 0)] 92 10 (.slice a n c) (ds.map RuleM.vals) (fun U=>∀ d ∈ ds,RuleL U d) ts2∧pMany Z9 pRule (12 - n) ts2=some (rest,te :: ts')∧ds.map RuleM.tr ++ rest=al
set_option maxRecDepth 100000 in
set_option maxHeartbeats 8000000 in
theorem state_l {w:World}{b:Nat}{K:PK}{ts:List Tk}{r:StateT}{ts':List Tk}(hK:KG K) (h:Lv w b K ts) (hp:pState ts=some (r,ts')):Calls zG 61 #[zP b] w (OutL StateM.vals StateM.tr StateL b K w r ts'):=by
 obtain⟨t1,t2,t3,us,al,te,rfl,k1,k2,k3,hds,kte,rfl⟩:=pState_inv hp
 have HK:Hid (KG K):=hK
 have HT1:Hid (RgT t1):=(h.ok hK.k).r
 have HDS:Hid (pMany Z9 pRule 12 us=some (al,te :: ts')):=hds
 have HTE:Hid (te.x=Za):=kte
 have HG0:=((HX.new h 92 10).push #[.string ⟨#[]⟩,.slice none 0 0,zI 0] 68).hid
 clear h hK hp hds kte
 obtain⟨W0,eW0⟩:∃ W,w.alloc (.cells #[.string ⟨#[]⟩,.slice none 0 0,zI 0] 68)=W:=⟨_,rfl⟩
 rw [eW0,stZ_eq] at HG0
 have cT:=take_l HK.out HG0.out.S Z8 (by decide +kernel) k1
 clear k1
 go_enter Tryz.func61,Tryz.ntmps61
 go_wp2_with fail
 try rw [eW0]
 refine cT.mono ?_
 rintro e w1 ⟨rfl,hs,hm⟩
 have HG1:=((HG0.out.mv hm hs).push #[.string ⟨#[]⟩,.slice none 0 0,zI t1.p] 68).hid
 clear cT hs hm HG0 eW0
 go_upto_region 2 with fail
 obtain⟨N3,eN3⟩:∃ q,w1§=q:=⟨_,rfl⟩
 obtain⟨W1,eW1⟩:∃ W,w1.alloc (.cells #[.string ⟨#[]⟩,.slice none 0 0,zI t1.p] 68)=W:=⟨_,rfl⟩
 rw [eW1,eN3,stZ_eq] at HG1
 rw [eW1,eN3]
 clear eW1 eN3
 generalize Value.agg #[.string ⟨#[]⟩,.slice none 0 0,zI t1.p]=D0
 have HT2:Hid (RgT t2):=(HG1.out.S.ok HK.out.k).r
 have cN:=name_l HG1.out.S k2
 clear k2
 go_wp2_with fail
 refine cN.mono ?_
 rintro e wn ⟨rfl,hs,hm⟩
 have HN1:=(HG1.out.mv hm hs).hid
 obtain⟨v1,c1,f1⟩:=HX.cellA (pre:=[]) HN1.out 0 (by show 0 < 3; omega)
 have HN2:=(HN1.out.stX t2.x).hid
 clear cN hs hm HG1
 go_upto_region 3 with fail
 generalize hY:World.setCell _ _ _=Yx
 rw [hY] at HN2
 clear hY c1 f1 HN1
 have cT:=take_l HK.out HN2.out.S Ze (by decide +kernel) k3
 go_wp2_with fail
 refine cT.mono ?_
 rintro e w2 ⟨rfl,hs,hm⟩
 have HG2:=(HN2.out.mv hm hs).hid
 clear cT hs hm HN2 k3
 have HI0:Hid (STI w b K N3 t2.x t1.p te ts' al w2):=⟨[],none,0,0,us,al,rfl,by omega,HG2.out.imp fun U hU=>(fun d hd=>by simp at hd),HDS.out,rfl⟩
 clear HG2 HDS
 go_wp2_with fail
 go_loopw [4,5,6] (fun _ _ _ wr=>Hid (STI w b K N3 t2.x t1.p te ts' al wr)) (fun _ _ _ wr=>12 - clen N3 1 wr)
 case atStart=>exact HI0
 case round =>
  obtain⟨ds,a,n,c,ts2,rest,hn,hn7,hx,hpd,hal⟩:=hrel.out
  have HL:=hx.hid
  have HNN:Hid (ds.length=n):=hn
  have HAL:Hid (ds.map RuleM.tr ++ rest=al):=hal
  have HMS:Hid (clen N3 1 wr=n):=hx.stCl.clen
  rcases pMany_inv hpd with ⟨hi,hre,e2⟩ | ⟨hi,k',dt,ts1,rest',hk',hpo,hpd',hre⟩
  ·have HRE:Hid (ds.map RuleM.tr=al):=by show _=_; rw [← hal,hre,List.append_nil]
   subst e2
   have cI:=is_l HK.out hx.S Z9 (by decide +kernel) hi
   clear hx hrel hpd hal hn HI0 hi hre HAL
   go_wp2_with fail
   refine cI.mono ?_
   rintro e z1 ⟨rfl,hb⟩
   have HL9:=(HL.out.on hb).hid
   have cT:=take_l HK.out HL9.out.S Za (by decide +kernel) HTE.out
   clear cI hb HL
   go_wp2_with fail
   refine cT.mono ?_
   rintro e z9 ⟨rfl,hs,hm⟩
   have HL10:=(HL9.out.mv hm hs).hid
   clear cT hs hm HL9
   obtain⟨a9,c9,e9,HE⟩:=HL10.out.retire 0 0
   injection e9 with e91 e92 e93
   subst e91 e93
   have HC:Hid (z9.heap[N3]? = some (.cells (stA t2.x a n c t1.p) 68 (0,0))):=(HE.B _ List.mem_cons_self).1
   have HO:Hid (z9.heap[w§]? = some (.cells (stA ⟨#[]⟩ none 0 0 0) 68 (0,0))):=(HE.B _ (List.mem_cons_of_mem _ List.mem_cons_self)).1
   have HF:=(HX.rowA (pre:=[_]) HE (stA t2.x a n c t1.p)).hid
   have HR:Hid ((z9.setRow w§ (stA t2.x a n c t1.p)).heap[w§]? = some (.cells (stA t2.x a n c t1.p) 68 (0,0))):=(HF.out.B _ (List.mem_cons_of_mem _ List.mem_cons_self)).1
   clear HE HL10
   go_wp2_with (first | (refine wpList_load_row rfl 68 (.tmp 3) rfl N3 rfl 68 (stA t2.x a n c t1.p) (0,0) _ HC.out Tryz.underlying68 rfl size87' ?_) | (refine wpList_store_row rfl 68 (.tmp 2) (.tmp 36) rfl w§ (stA t2.x a n c t1.p) rfl rfl 68 _ HO.out size87' rfl (all3 ..) ?_))
   have hval:StateM.vals ⟨t2.x,a,c,ds,t1.p⟩=stA t2.x a n c t1.p:=by rw [stA_vals]; show stA t2.x _ ds.length _ _=_; rw [HNN.out]
   refine bodyPost_ret (results_cell_row rfl _ _ w§ 68 (stA t2.x a n c t1.p) (0,0) _ rfl HR.out Tryz.underlying68 rfl size87') rfl ⟨⟨t2.x,a,c,ds,t1.p⟩,by rw [hval],?_,HF.out.fin.1.imp fun U hU=>⟨hU.2,hU.1,⟨HT1.out.p0,HT1.out.p1⟩,HT2.out.x1⟩,HF.out.S,HF.out.M⟩
   show StateT.mk t2.x (ds.map RuleM.tr) t1.p=_
   rw [HRE.out]
  ·obtain⟨u,us2,rfl⟩:=pIs_cons hi
   have cI:=is_l HK.out hx.S Z9 (by decide +kernel) hi
   have HPO:Hid (pRule (u :: us2)=some (dt,ts1)∧pMany Z9 pRule k' ts1=some (rest',te :: ts')∧rest=dt :: rest'):=⟨hpo,hpd',hre⟩
   have k8:=hx.stCl.cell
   clear hx hrel hpd hal hn HI0 hi hre hpo hpd'
   go_wp2_with fail
   refine cI.mono ?_
   rintro e z1 ⟨rfl,hb⟩
   have HL9:=(HL.out.on hb).hid
   clear k8
   have k8:=HL9.out.stCl.cell
   have cM:=many_ok HL9.out.S n 12 (by omega) (by omega)
   clear cI hb HL
   go_wp2_with fail
   refine cM.mono ?_
   rintro e z2 ⟨rfl,e2⟩
   obtain rfl:=e2.symm
   clear cM e2 k8
   have cD:=rule_l HK.out HL9.out.S HPO.out.1
   go_wp2_with fail
   refine cD.mono ?_
   rintro e w3 ⟨dm,rfl,htr,hdp,hs,hm⟩
   have HDT:Hid (dm.tr=dt):=htr
   have HLp:=((HL9.out.add hm hs hdp).push #[zU 0,zU 0,zU 0,zI 0,zU 0,.string ⟨#[]⟩,.slice none 0 0,zI 0,.slice none 0 0,zI 0] 92).hid
   have HL4:=(HX.rowA (pre:=[]) HLp.out dm.vals).hid
   have HZ:Hid ((w3.alloc (.cells #[zU 0,zU 0,zU 0,zI 0,zU 0,.string ⟨#[]⟩,.slice none 0 0,zI 0,.slice none 0 0,zI 0] 92)).heap[w3§]? = some (.cells #[zU 0,zU 0,zU 0,zI 0,zU 0,.string ⟨#[]⟩,.slice none 0 0,zI 0,.slice none 0 0,zI 0] 92 (0,0))):=heap_new _ _
   clear cD hs hm htr hdp HL9 HLp
   go_upto_region 9 with (refine wpList_store_row rfl 92 (.tmp 6) (.tmp 27) rfl w3§ dm.vals rfl rfl 92 #[zU 0,zU 0,zU 0,zI 0,zU 0,.string ⟨#[]⟩,.slice none 0 0,zI 0,.slice none 0 0,zI 0] HZ.out size106' rfl (all10' dm) ?_)
   generalize hW4:World.setRow _ _ _=W4
   rw [hW4] at HL4
   obtain⟨N4,eN4⟩:∃ q,w3§=q:=⟨_,rfl⟩
   rw [eN4] at HL4 ⊢
   clear eN4 HZ hW4
   have HN4:Hid (W4.heap[N4]? = some (.cells dm.vals 92 (0,0))):=(HL4.out.B _ List.mem_cons_self).1
   have k8:W4.cell? ⟨N3,1,none⟩=some (.slice a n c):=cell_of (HL4.out.B _ (List.mem_cons_of_mem _ List.mem_cons_self)).1 1
   go_wp2_with (first | (refine wpList_load_row rfl 92 (.tmp 6) rfl N4 rfl 92 dm.vals (0,0) _ HN4.out Tryz.underlying92 rfl size106' ?_) | (refine wpList_slice1 rfl 66 92 (.tmp 30) rfl dm.vals rfl 10 _ Tryz.underlying66 104 inf106 rfl rfl (by decide) (by decide) ?_) | (at_builtin; refine app_h HL4.out 66 dm.vals rfl (all10' dm) _ 104 Tryz.underlying66 inf106 rfl (by decide) (by rw [List.length_map,HNN.out]; omega) (by decide) rfl (.tmp 29) (.tmp 31) rfl rfl rfl ?_; intro g7 cap7 w7 hl7; rw [List.length_map,HNN.out] at hl7 ⊢; have HL7:=hl7.pop.hid; obtain⟨av8,ac8,af8⟩:=HX.cellA (pre:=[]) HL7.out 1 (by show 1 < 3; omega); clear hl7))
   have HL8:=(HL7.out.stS (some ⟨g7,0,none⟩) (n+1) cap7).hid
   have HX8:Hid (HX w b K (w7.setCell ⟨N3,1,none⟩ (.slice (some ⟨g7,0,none⟩) (n+1) cap7)) [(N3,68,stA t2.x (some ⟨g7,0,none⟩) (n+1) cap7 t1.p),(w§,68,stA ⟨#[]⟩ none 0 0 0)] 92 10 (.slice (some ⟨g7,0,none⟩) (n+1) cap7) ((ds ++ [dm]).map RuleM.vals) (fun U=>∀ d ∈ ds ++ [dm],RuleL U d) ts1):=by
    rw [List.map_append]
    refine HL8.out.imp fun U hU d hd=>?_
    rcases List.mem_append.1 hd with hd | hd
    ·exact hU.1 d hd
    ·rw [List.mem_singleton.1 hd]; exact hU.2
   refine⟨?_,?_⟩
   ·exact⟨ds ++ [dm],_,n+1,cap7,ts1,rest',by rw [List.length_append,HNN.out]; rfl,by omega,HX8.out,by rw [show 12 - (n+1)=k' by omega]; exact HPO.out.2.1,by rw [← HAL.out,HPO.out.2.2,List.map_append,List.map_singleton,HDT.out]; simp⟩
   ·rw [HMS.out,HX8.out.stCl.clen]; omega
theorem pSlot_inv {ts:List Tk}{r:SlotT}{ts':List Tk}(h:pSlot ts=some (r,ts')):∃ t1 t2 t3,ts=t1 :: t2 :: t3 :: ts'∧t1.x=Z6∧t2.k=2∧t3.x=Z5∧r=⟨t2.x,t1.p⟩:=by
 unfold pSlot at h
 obtain⟨a,h1,h⟩:=opt_bind h
 obtain⟨b,h2,h⟩:=opt_bind h
 obtain⟨c,h3,h⟩:=opt_bind h
 cases h
 obtain⟨t1,rfl,k1,k1'⟩:=pTake_inv h1
 obtain⟨t2,g2,k2,k2'⟩:=pName_inv h2
 obtain⟨t3,g3,k3,_⟩:=pTake_inv h3
 exact⟨t1,t2,t3,by rw [g2,g3],k1,k2,k3,by rw [k1',k2']⟩
theorem all2 (r:SlotM):r.vals.all (·.oneCell')=true:=by simp [SlotM.vals,Value.oneCell']
theorem size102':(Tryz.prog.info? 65).map (·.size)=some 2:=by kernel_rfl
theorem slX_eq (x x':ByteArray) (p:Int):(#[.string x,zI p]:Array Value).setIfInBounds 0 (.string x')=SlotM.vals ⟨x',p⟩:=by kernel_rfl
def SLI (w:World) (b:Nat) (K:PK) (te:Tk) (ts':List Tk) (al:List SlotT) (t:Value) (wr:World):Prop :=
 ∃ (ds:List SlotM) (a:Option Addr) (n c:Nat) (ts2:List Tk) (rest:List SlotT),t=.slice a n c∧ds.length=n∧n≤4∧HX w b K wr [] 65 2 (.slice a n c) (ds.map SlotM.vals) (fun _=>True) ts2∧(∀ d ∈ ds,SlotL d)∧pMany Z6 pSlot (4 - n) ts2=some (rest,te :: ts')∧ds.map SlotM.tr ++ rest=al
set_option maxRecDepth 100000 in
set_option maxHeartbeats 8000000 in
theorem slots_l {w:World}{b:Nat}{K:PK}{ts:List Tk}{al:List SlotT}{te:Tk}{ts':List Tk}(hK:KG K) (h:Lv w b K ts) (hp:pMany Z6 pSlot 4 ts=some (al,te :: ts')):Calls zG 60 #[zP b] w fun e w'=>∃ (ds:List SlotM) (a:Option Addr) (c:Nat),e=.returned (.slice a ds.length c)∧ds.map SlotM.tr=al∧(∀ d ∈ ds,SlotL d)∧Dp w w' (fun U=>SlAt U 2 a c (ds.map SlotM.vals))∧Lv w' b K (te :: ts')∧Mv w w' (fun k=>k=b):=by
 have HK:Hid (KG K):=hK
 have HI0:Hid (SLI w b K te ts' al (.slice none 0 0) w):=⟨[],none,0,0,ts,al,rfl,rfl,by omega,HX.new h 65 2,(fun d hd=>by simp at hd),hp,rfl⟩
 clear h hK hp
 go_enter Tryz.func60,Tryz.ntmps60
 go_wp2_with fail
 go_loopw [3,4,5,6] (fun t _ _ _ wr=>Hid (SLI w b K te ts' al t wr)) (fun t _ _ _ _=>4 - slen t)
 case atStart=>exact HI0
 case round =>
  obtain⟨ds,a,n,c,ts2,rest,rfl,hn,hn7,hx,hsl,hpd,hal⟩:=hrel.out
  have HL:=hx.hid
  have HNN:Hid (ds.length=n):=hn
  have HAL:Hid (ds.map SlotM.tr ++ rest=al):=hal
  have HSL:Hid (∀ d ∈ ds,SlotL d):=hsl
  rcases pMany_inv hpd with ⟨hi,hre,e2⟩ | ⟨hi,k',dt,ts1,rest',hk',hpo,hpd',hre⟩
  ·have HRE:Hid (ds.map SlotM.tr=al):=by show _=_; rw [← hal,hre,List.append_nil]
   subst e2
   have cI:=is_l HK.out hx.S Z6 (by decide +kernel) hi
   clear hx hrel hpd hal hn HI0 hi hre HAL hsl
   go_wp2_with fail
   refine cI.mono ?_
   rintro e z1 ⟨rfl,hb⟩
   have HL9:=(HL.out.on hb).hid
   clear cI hb HL
   go_wp2_with fail
   go_ret
   obtain⟨a9,c9,e9,HE⟩:=HL9.out.retire 0 0
   injection e9 with e91 e92 e93
   subst e91 e93
   exact⟨ds,a,c,by rw [HNN.out]; rfl,HRE.out,HSL.out,HE.fin.1.imp fun U hU=>hU.2,HE.S,HE.M⟩
  ·obtain⟨t1,t2,t3,rfl,k1,k2,k3,hdt⟩:=pSlot_inv hpo
   have cI:=is_l HK.out hx.S Z6 (by decide +kernel) hi
   have HPO:Hid (pMany Z6 pSlot k' ts1=some (rest',te :: ts')∧rest=dt :: rest'∧dt=⟨t2.x,t1.p⟩):=⟨hpd',hre,hdt⟩
   clear hx hrel hpd hal hn HI0 hi hre hpo hpd' hsl hdt
   go_wp2_with fail
   refine cI.mono ?_
   rintro e z1 ⟨rfl,hb⟩
   have HL9:=(HL.out.on hb).hid
   have cM:=many_ok HL9.out.S n 4 (by omega) (by omega)
   clear cI hb HL
   go_wp2_with fail
   refine cM.mono ?_
   rintro e z2 ⟨rfl,e2⟩
   obtain rfl:=e2.symm
   clear cM e2
   have HT1:Hid (RgT t1):=(HL9.out.S.ok HK.out.k).r
   have cT:=take_l HK.out HL9.out.S Z6 (by decide +kernel) k1
   clear k1
   go_wp2_with fail
   refine cT.mono ?_
   rintro e w1 ⟨rfl,hs,hm⟩
   have HG1:=((HL9.out.mv hm hs).push #[.string ⟨#[]⟩,zI t1.p] 65).hid
   clear cT hs hm HL9
   go_upto_region 9 with fail
   obtain⟨N3,eN3⟩:∃ q,w1§=q:=⟨_,rfl⟩
   obtain⟨W1,eW1⟩:∃ W,w1.alloc (.cells #[.string ⟨#[]⟩,zI t1.p] 65)=W:=⟨_,rfl⟩
   rw [eW1,eN3] at HG1
   rw [eW1,eN3]
   clear eW1 eN3
   have HT2:Hid (RgT t2):=(HG1.out.S.ok HK.out.k).r
   have cN:=name_l HG1.out.S k2
   clear k2
   go_wp2_with fail
   refine cN.mono ?_
   rintro e wn ⟨rfl,hs,hm⟩
   have HN1:=(HG1.out.mv hm hs).hid
   obtain⟨v1,c1,f1⟩:=HX.cellA (pre:=[]) HN1.out 0 (by show 0 < 2; omega)
   have HN2:=(HX.setA (pre:=[]) HN1.out 0 (.string t2.x)).hid
   rw [slX_eq] at HN2
   clear cN hs hm HG1
   go_upto_region 10 with fail
   generalize hY:World.setCell _ _ _=Yx
   rw [hY] at HN2
   clear hY c1 f1 HN1
   have cT:=take_l HK.out HN2.out.S Z5 (by decide +kernel) k3
   go_wp2_with fail
   refine cT.mono ?_
   rintro e w2 ⟨rfl,hs,hm⟩
   have HG2:=(HN2.out.mv hm hs).hid
   clear cT hs hm HN2 k3
   have HN4:Hid (w2.heap[N3]? = some (.cells (SlotM.vals ⟨t2.x,t1.p⟩) 65 (0,0))):=(HG2.out.B _ List.mem_cons_self).1
   go_wp2_with (first | (refine wpList_load_row rfl 65 (.tmp 6) rfl N3 rfl 65 (SlotM.vals ⟨t2.x,t1.p⟩) (0,0) _ HN4.out Tryz.underlying65 rfl size102' ?_) | (refine wpList_slice1 rfl 24 65 (.tmp 28) rfl (SlotM.vals ⟨t2.x,t1.p⟩) rfl 2 _ Tryz.underlying24 24 inf102 rfl rfl (by decide) (by decide) ?_) | (at_builtin; refine app_h HG2.out 24 (SlotM.vals ⟨t2.x,t1.p⟩) rfl (all2 _) _ 24 Tryz.underlying24 inf102 rfl (by decide) (by rw [List.length_map,HNN.out]; omega) (by decide) rfl (.tmp 27) (.tmp 29) rfl rfl rfl ?_; intro g7 cap7 w7 hl7; rw [List.length_map,HNN.out] at hl7 ⊢; have HL7:=hl7.pop.hid; clear hl7))
   have HX8:Hid (HX w b K w7 [] 65 2 (.slice (some ⟨g7,0,none⟩) (n+1) cap7) ((ds ++ [(⟨t2.x,t1.p⟩:SlotM)]).map SlotM.vals) (fun _=>True) ts1):=by
    rw [List.map_append]
    exact HL7.out
   refine⟨?_,?_⟩
   ·refine⟨ds ++ [(⟨t2.x,t1.p⟩:SlotM)],_,n+1,cap7,ts1,rest',rfl,by rw [List.length_append,HNN.out]; rfl,by omega,HX8.out,fun d hd=>?_,by rw [show 4 - (n+1)=k' by omega]; exact HPO.out.1,by rw [← HAL.out,HPO.out.2.1,HPO.out.2.2,List.map_append,List.map_singleton]; simp [SlotM.tr]⟩
    rcases List.mem_append.1 hd with hd | hd
    ·exact HSL.out d hd
    ·rw [List.mem_singleton.1 hd]; exact⟨⟨HT1.out.p0,HT1.out.p1⟩,HT2.out.x1⟩
   ·simp only [slen]; omega
def sgA (x:ByteArray) (ra:Option Addr) (rn rc:Nat) (sa:Option Addr) (sn sc:Nat) (ta:Option Addr) (tn tc:Nat):Array Value:=#[.string x,.slice ra rn rc,.slice sa sn sc,.slice ta tn tc]
theorem sgZ_eq:#[.string ⟨#[]⟩,.slice none 0 0,.slice none 0 0,.slice none 0 0]=sgA ⟨#[]⟩ none 0 0 none 0 0 none 0 0:=rfl
theorem sgX_eq (x:ByteArray) (ra sa ta:Option Addr) (rn rc sn sc tn tc:Nat) (x':ByteArray):(sgA x ra rn rc sa sn sc ta tn tc).setIfInBounds 0 (.string x')=sgA x' ra rn rc sa sn sc ta tn tc:=by kernel_rfl
theorem HX.sgX {w:World}{b:Nat}{K:PK}{V:World}{post:List (Nat × Nat × Array Value)}{N:Nat}{e sz:Nat}{v:Value}{vs:List (Array Value)}{F:World→Prop}{ts:List Tk}{x:ByteArray}{ra sa ta:Option Addr}{rn rc sn sc tn tc:Nat}(h:HX w b K V ((N,27,sgA x ra rn rc sa sn sc ta tn tc) :: post) e sz v vs F ts) (x':ByteArray):HX w b K (V.setCell ⟨N,0,none⟩ (.string x')) ((N,27,sgA x' ra rn rc sa sn sc ta tn tc) :: post) e sz v vs F ts:=by
 have h':=HX.setA (pre:=[]) h 0 (.string x')
 rw [sgX_eq] at h'
 exact h'
theorem sgR_eq (x:ByteArray) (ra sa ta:Option Addr) (rn rc sn sc tn tc:Nat) (a:Option Addr) (n c:Nat):(sgA x ra rn rc sa sn sc ta tn tc).setIfInBounds 1 (.slice a n c)=sgA x a n c sa sn sc ta tn tc:=by kernel_rfl
theorem HX.sgR {w:World}{b:Nat}{K:PK}{V:World}{post:List (Nat × Nat × Array Value)}{N:Nat}{e sz:Nat}{v:Value}{vs:List (Array Value)}{F:World→Prop}{ts:List Tk}{x:ByteArray}{ra sa ta:Option Addr}{rn rc sn sc tn tc:Nat}(h:HX w b K V ((N,27,sgA x ra rn rc sa sn sc ta tn tc) :: post) e sz v vs F ts) (a:Option Addr) (n c:Nat):HX w b K (V.setCell ⟨N,1,none⟩ (.slice a n c)) ((N,27,sgA x a n c sa sn sc ta tn tc) :: post) e sz v vs F ts:=by
 have h':=HX.setA (pre:=[]) h 1 (.slice a n c)
 rw [sgR_eq] at h'
 exact h'
theorem sgS_eq (x:ByteArray) (ra sa ta:Option Addr) (rn rc sn sc tn tc:Nat) (a:Option Addr) (n c:Nat):(sgA x ra rn rc sa sn sc ta tn tc).setIfInBounds 2 (.slice a n c)=sgA x ra rn rc a n c ta tn tc:=by kernel_rfl
theorem HX.sgS {w:World}{b:Nat}{K:PK}{V:World}{post:List (Nat × Nat × Array Value)}{N:Nat}{e sz:Nat}{v:Value}{vs:List (Array Value)}{F:World→Prop}{ts:List Tk}{x:ByteArray}{ra sa ta:Option Addr}{rn rc sn sc tn tc:Nat}(h:HX w b K V ((N,27,sgA x ra rn rc sa sn sc ta tn tc) :: post) e sz v vs F ts) (a:Option Addr) (n c:Nat):HX w b K (V.setCell ⟨N,2,none⟩ (.slice a n c)) ((N,27,sgA x ra rn rc a n c ta tn tc) :: post) e sz v vs F ts:=by
 have h':=HX.setA (pre:=[]) h 2 (.slice a n c)
 rw [sgS_eq] at h'
 exact h'
theorem sgT_eq (x:ByteArray) (ra sa ta:Option Addr) (rn rc sn sc tn tc:Nat) (a:Option Addr) (n c:Nat):(sgA x ra rn rc sa sn sc ta tn tc).setIfInBounds 3 (.slice a n c)=sgA x ra rn rc sa sn sc a n c:=by kernel_rfl
theorem HX.sgT {w:World}{b:Nat}{K:PK}{V:World}{post:List (Nat × Nat × Array Value)}{N:Nat}{e sz:Nat}{v:Value}{vs:List (Array Value)}{F:World→Prop}{ts:List Tk}{x:ByteArray}{ra sa ta:Option Addr}{rn rc sn sc tn tc:Nat}(h:HX w b K V ((N,27,sgA x ra rn rc sa sn sc ta tn tc) :: post) e sz v vs F ts) (a:Option Addr) (n c:Nat):HX w b K (V.setCell ⟨N,3,none⟩ (.slice a n c)) ((N,27,sgA x ra rn rc sa sn sc a n c) :: post) e sz v vs F ts:=by
 have h':=HX.setA (pre:=[]) h 3 (.slice a n c)
 rw [sgT_eq] at h'
 exact h'
theorem HX.sgC {w:World}{b:Nat}{K:PK}{V:World}{post:List (Nat × Nat × Array Value)}{N:Nat}{e sz:Nat}{v:Value}{vs:List (Array Value)}{F:World→Prop}{ts:List Tk}{x:ByteArray}{ra sa ta:Option Addr}{rn rc sn sc tn tc:Nat}(h:HX w b K V ((N,27,sgA x ra rn rc sa sn sc ta tn tc) :: post) e sz v vs F ts) (i:Nat) (hi:i < 4):∃ u,V.cell? ⟨N,i,none⟩=some u∧V.frozen? ⟨N,i,none⟩=false:=HX.cellA (pre:=[]) h i hi
theorem HX.sgCl1 {w:World}{b:Nat}{K:PK}{V:World}{post:List (Nat × Nat × Array Value)}{N:Nat}{e sz:Nat}{v:Value}{vs:List (Array Value)}{F:World→Prop}{ts:List Tk}{x:ByteArray}{ra sa ta:Option Addr}{rn rc sn sc tn tc:Nat}(h:HX w b K V ((N,27,sgA x ra rn rc sa sn sc ta tn tc) :: post) e sz v vs F ts):Cl V N 1 (.slice ra rn rc):=⟨_,_,(h.B _ List.mem_cons_self).1,rfl⟩
theorem HX.sgCl3 {w:World}{b:Nat}{K:PK}{V:World}{post:List (Nat × Nat × Array Value)}{N:Nat}{e sz:Nat}{v:Value}{vs:List (Array Value)}{F:World→Prop}{ts:List Tk}{x:ByteArray}{ra sa ta:Option Addr}{rn rc sn sc tn tc:Nat}(h:HX w b K V ((N,27,sgA x ra rn rc sa sn sc ta tn tc) :: post) e sz v vs F ts):Cl V N 3 (.slice ta tn tc):=⟨_,_,(h.B _ List.mem_cons_self).1,rfl⟩
theorem size43':(Tryz.prog.info? 27).map (·.size)=some 4:=by kernel_rfl
theorem all4 (x:ByteArray) (ra sa ta:Option Addr) (rn rc sn sc tn tc:Nat):(sgA x ra rn rc sa sn sc ta tn tc).all (·.oneCell')=true:=by simp [sgA,Value.oneCell']
theorem all3' (r:StateM):r.vals.all (·.oneCell')=true:=by simp [StateM.vals,Value.oneCell']
theorem pBody_inv {ts:List Tk}{S:StratT}{ts':List Tk}(h:pBody ts=some (S,ts')):∃ t1 t2 t3 us rs us2 ss us3 sts tg,ts=t1 :: t2 :: t3 :: us∧t1.x=Zu∧t2.k=2∧t3.x=Ze∧pMany Z7 pReg 12 us=some (rs,us2)∧pMany Z6 pSlot 4 us2=some (ss,us3)∧pMany Z8 pState 12 us3=some (sts,tg :: ts')∧tg.x=Za∧sts.length≠0∧S=⟨t2.x,rs,ss,sts⟩:=by
 unfold pBody at h
 obtain⟨a,h1,h⟩:=opt_bind h
 obtain⟨b,h2,h⟩:=opt_bind h
 obtain⟨c,h3,h⟩:=opt_bind h
 obtain⟨d,h4,h⟩:=opt_bind h
 obtain⟨f,h5,h⟩:=opt_bind h
 obtain⟨g,h6,h⟩:=opt_bind h
 obtain⟨k,h7,h⟩:=opt_bind h
 by_cases hl:g.1.length=0
 ·rw [if_pos hl] at h; cases h
 rw [if_neg hl] at h
 cases h
 obtain⟨t1,rfl,k1,_⟩:=pTake_inv h1
 obtain⟨t2,g2,k2,k2'⟩:=pName_inv h2
 obtain⟨t3,g3,k3,_⟩:=pTake_inv h3
 obtain⟨tg,g7,k7,_⟩:=pTake_inv h7
 exact⟨t1,t2,t3,c.2,d.1,d.2,f.1,f.2,g.1,tg,by rw [g2,g3],k1,k2,k3,h4,h5,by rw [h6,← g7],k7,hl,by rw [k2']⟩
theorem pMany_cons {α:Type}{x:ByteArray}{part:List Tk→Option (α × List Tk)}{k:Nat}{ts:List Tk}{rest:List α}{t:Tk}{ts':List Tk}(h:pMany x part k ts=some (rest,t :: ts')):∃ u us,ts=u :: us:=by
 rcases pMany_inv h with ⟨_,_,e⟩ | ⟨e,_⟩
 ·exact⟨t,ts',e⟩
 ·exact pIs_cons e
def RGI (w:World) (b:Nat) (K:PK) (N3:Nat) (x:ByteArray) (us2:List Tk) (al:List RegT) (wr:World):Prop :=
 ∃ (ds:List RegM) (a:Option Addr) (n c:Nat) (ts2:List Tk) (rest:List RegT),ds.length=n∧n≤12∧HX w b K wr [(N3,27,sgA x a n c none 0 0 none 0 0),(w§,27,sgA ⟨#[]⟩ none 0 0 none 0 0 none 0 0)] 62 11 (.slice a n c) (ds.map RegM.vals) (fun U=>∀ d ∈ ds,RegL U d) ts2∧pMany Z7 pReg (12 - n) ts2=some (rest,us2)∧ds.map RegM.tr ++ rest=al
def SSI (w:World) (b:Nat) (K:PK) (N3:Nat) (x:ByteArray) (ra:Option Addr) (rn rc:Nat) (sa:Option Addr) (sn sc:Nat) (F:World→Prop) (tg:Tk) (ts':List Tk) (al:List StateT) (wr:World):Prop :=
 ∃ (ds:List StateM) (a:Option Addr) (n c:Nat) (ts2:List Tk) (rest:List StateT),ds.length=n∧n≤12∧HX w b K wr [(N3,27,sgA x ra rn rc sa sn sc a n c),(w§,27,sgA ⟨#[]⟩ none 0 0 none 0 0 none 0 0)] 68 3 (.slice a n c) (ds.map StateM.vals) (fun U=>F U∧∀ d ∈ ds,StateL U d) ts2∧pMany Z8 pState (12 - n) ts2=some (rest,tg :: ts')∧ds.map StateM.tr ++ rest=al
set_option maxRecDepth 100000 in
set_option maxHeartbeats 16000000 in
theorem whole_l {w:World}{b:Nat}{K:PK}{ts:List Tk}{S:StratT}{te:Tk}{ts'':List Tk}(hK:KG K) (h:Lv w b K ts) (hp:pBody ts=some (S,te :: ts'')) (hte:te.k=0):Calls zG 26 #[zP b] w (OutL StratM.vals StratM.tr StratL b K w S (te :: ts'')):=by
 obtain⟨t1,t2,t3,us,rs,us2,ss,us3,sts,tg,rfl,k1,k2,k3,hrs,hss,hst,ktg,hne,rfl⟩:=pBody_inv hp
 obtain⟨u3,us3',rfl⟩:=pMany_cons hst
 obtain⟨u2,us2',rfl⟩:=pMany_cons hss
 obtain⟨ts',ets⟩:∃ q,te :: ts''=q:=⟨_,rfl⟩
 have HTE:Hid (te :: ts''=ts'∧te.k=0):=⟨ets,hte⟩
 rw [ets] at hst
 have HK:Hid (KG K):=hK
 have HRS:Hid (pMany Z7 pReg 12 us=some (rs,u2 :: us2')):=hrs
 have HSS:Hid (pMany Z6 pSlot 4 (u2 :: us2')=some (ss,u3 :: us3')):=hss
 have HST:Hid (pMany Z8 pState 12 (u3 :: us3')=some (sts,tg :: ts')):=hst
 have HTG:Hid (tg.x=Za∧sts.length≠0):=⟨ktg,hne⟩
 have hg0:=((HX.new h 62 11).push #[.string ⟨#[]⟩,.slice none 0 0,.slice none 0 0,.slice none 0 0] 27).push #[.string ⟨#[]⟩,.slice none 0 0,.slice none 0 0,.slice none 0 0] 27
 rw [size_alloc,sgZ_eq] at hg0
 have HG0:=hg0.hid
 clear h hK hp hrs hss hst ktg hne hg0 ets hte
 obtain⟨W0,eW0⟩:∃ W,(w.alloc (.cells #[.string ⟨#[]⟩,.slice none 0 0,.slice none 0 0,.slice none 0 0] 27)).alloc (.cells #[.string ⟨#[]⟩,.slice none 0 0,.slice none 0 0,.slice none 0 0] 27)=W:=⟨_,rfl⟩
 rw [← sgZ_eq,eW0,sgZ_eq] at HG0
 have HEW:Hid ((w.alloc (.cells #[.string ⟨#[]⟩,.slice none 0 0,.slice none 0 0,.slice none 0 0] 27)).alloc (.cells #[.string ⟨#[]⟩,.slice none 0 0,.slice none 0 0,.slice none 0 0] 27)=W0):=eW0
 have cT:=take_l HK.out HG0.out.S Zu (by decide +kernel) k1
 clear k1 eW0
 go_enter Tryz.func26,Tryz.ntmps26
 go_wp2_with fail
 try rw [HEW.out]
 clear HEW
 refine cT.mono ?_
 rintro e w1 ⟨rfl,hs,hm⟩
 have HG1:=(HG0.out.mv hm hs).hid
 clear cT hs hm HG0
 generalize Value.agg #[.string ⟨#[]⟩,.slice none 0 0,.slice none 0 0,.slice none 0 0]=D0
 obtain⟨N3,eN3⟩:∃ q,w§+1=q:=⟨_,rfl⟩
 rw [eN3] at HG1
 have HT2:Hid (RgT t2):=(HG1.out.S.ok HK.out.k).r
 have cN:=name_l HG1.out.S k2
 clear k2
 go_wp2_with fail
 try rw [eN3]
 clear eN3
 refine cN.mono ?_
 rintro e wn ⟨rfl,hs,hm⟩
 have HN1:=(HG1.out.mv hm hs).hid
 obtain⟨v1,c1,f1⟩:=HX.sgC HN1.out 0 (by omega)
 have HN2:=(HN1.out.sgX t2.x).hid
 clear cN hs hm HG1
 go_upto_region 4 with fail
 generalize hY:World.setCell _ _ _=Yx
 rw [hY] at HN2
 clear hY c1 f1 HN1
 have cT:=take_l HK.out HN2.out.S Ze (by decide +kernel) k3
 go_wp2_with fail
 refine cT.mono ?_
 rintro e w2 ⟨rfl,hs,hm⟩
 have HG2:=(HN2.out.mv hm hs).hid
 clear cT hs hm HN2 k3
 have HI0:Hid (RGI w b K N3 t2.x (u2 :: us2') rs w2):=⟨[],none,0,0,us,rs,rfl,by omega,HG2.out.imp fun U hU=>(fun d hd=>by simp at hd),HRS.out,rfl⟩
 clear HG2 HRS
 go_wp2_with fail
 go_loopw [4,5,6] (fun _ _ _ wr=>Hid (RGI w b K N3 t2.x (u2 :: us2') rs wr)) (fun _ _ _ wr=>12 - clen N3 1 wr)
 case atStart=>exact HI0
 case round =>
  obtain⟨ds,a,n,c,ts2,rest,hn,hn7,hx,hpd,hal⟩:=hrel.out
  have HL:=hx.hid
  have HNN:Hid (ds.length=n):=hn
  have HAL:Hid (ds.map RegM.tr ++ rest=rs):=hal
  have HMS:Hid (clen N3 1 wr=n):=hx.sgCl1.clen
  rcases pMany_inv hpd with ⟨hi,hre,e2⟩ | ⟨hi,k',dt,ts1,rest',hk',hpo,hpd',hre⟩
  ·have HRE:Hid (ds.map RegM.tr=rs):=by show _=_; rw [← hal,hre,List.append_nil]
   subst e2
   have cI:=is_l HK.out hx.S Z7 (by decide +kernel) hi
   clear hx hrel hpd hal hn HI0 hi hre HAL HMS
   go_wp2_with fail
   refine cI.mono ?_
   rintro e z1 ⟨rfl,hb⟩
   obtain⟨a9,c9,e9,hE⟩:=(HL.out.on hb).retire 68 3
   injection e9 with e91 e92 e93
   subst e91 e93
   have HE:=hE.hid
   clear cI hb HL hE e92
   have cS:=slots_l HK.out HE.out.S HSS.out
   go_wp2_with fail
   refine cS.mono ?_
   rintro e w4 ⟨ss1,sa,sc,rfl,hs1,hs2,hdp,hs,hm⟩
   have HSQ:Hid (ss1.map SlotM.tr=ss∧∀ d ∈ ss1,SlotL d):=⟨hs1,hs2⟩
   have HM4:=(HE.out.add hm hs hdp).hid
   obtain⟨v1,c1,f1⟩:=HX.sgC HM4.out 2 (by omega)
   have HM5:=(HM4.out.sgS sa ss1.length sc).hid
   clear cS hs1 hs2 hdp hs hm HE HSS
   go_upto_region 12 with fail
   generalize hY:World.setCell _ _ _=Ys
   rw [hY] at HM5
   clear hY c1 f1 HM4
   obtain⟨rs1,ers1⟩:∃ q,ds=q:=⟨_,rfl⟩
   rw [ers1] at HNN HM5 HRE
   obtain⟨ra,era⟩:∃ q,a=q:=⟨_,rfl⟩
   rw [era] at HM5
   obtain⟨rc,erc⟩:∃ q,c=q:=⟨_,rfl⟩
   rw [erc,← HNN.out] at HM5
   clear ers1 era erc
   obtain⟨FS,eFS⟩:∃ FS:World→Prop,(fun U=>((∀ d ∈ rs1,RegL U d)∧SlAt U 11 ra rc (rs1.map RegM.vals))∧SlAt U 2 sa sc (ss1.map SlotM.vals))=FS:=⟨_,rfl⟩
   rw [eFS] at HM5
   have HFS:Hid (∀ U,FS U→((∀ d ∈ rs1,RegL U d)∧SlAt U 11 ra rc (rs1.map RegM.vals))∧SlAt U 2 sa sc (ss1.map SlotM.vals)):=fun U hU=>by rw [← eFS] at hU; exact hU
   clear eFS HNN hn7
   have HI0:Hid (SSI w b K N3 t2.x ra rs1.length rc sa ss1.length sc FS tg ts' sts Ys):=⟨[],none,0,0,_,sts,rfl,by omega,HM5.out.imp fun U hU=>⟨hU,(fun d hd=>by simp at hd)⟩,HST.out,rfl⟩
   clear HM5 HST
   go_wp2_with fail
   go_loopw [7,8,9] (fun _ _ _ wr=>Hid (SSI w b K N3 t2.x ra rs1.length rc sa ss1.length sc FS tg ts' sts wr)) (fun _ _ _ wr=>12 - clen N3 3 wr)
   case atStart=>exact HI0
   case round =>
    obtain⟨ds,a,n,c,ts2,rest,hn,hn7,hx,hpd,hal⟩:=hrel.out
    have HL:=hx.hid
    have HNN:Hid (ds.length=n):=hn
    have HAL:Hid (ds.map StateM.tr ++ rest=sts):=hal
    have HMS:Hid (clen N3 3 wr=n):=hx.sgCl3.clen
    rcases pMany_inv hpd with ⟨hi,hre,e2⟩ | ⟨hi,k',dt,ts1,rest',hk',hpo,hpd',hre⟩
    ·have HRE2:Hid (ds.map StateM.tr=sts):=by show _=_; rw [← hal,hre,List.append_nil]
     subst e2
     have hn0:n≠0:=fun e=>HTG.out.2 (by rw [← HRE2.out,List.length_map,hn,e])
     have hn0':((n:Int) == 0)=false:=by simpa using hn0
     have cI:=is_l HK.out hx.S Z8 (by decide +kernel) hi
     clear hx hrel hpd hal hn HI0 hi hre HAL HMS
     go_wp2_with fail
     refine cI.mono ?_
     rintro e z1 ⟨rfl,hb⟩
     have HL9:=(HL.out.on hb).hid
     have k8:=HL9.out.sgCl3.cell
     have cT:=take_l HK.out HL9.out.S Za (by decide +kernel) HTG.out.1
     clear cI hb HL
     go_wp2_with fail
     refine cT.mono ?_
     rintro e z8 ⟨rfl,hs,hm⟩
     have HL10:=(HL9.out.mv hm hs).hid
     clear cT hs hm HL9 k8 hn0 hn0'
     have hS10:=HL10.out.S
     rw [← HTE.out.1] at hS10
     have cE:=end_y hS10 HTE.out.2
     clear hS10
     go_wp2_with fail
     refine cE.mono ?_
     rintro e z9 ⟨rfl,hs,hm⟩
     obtain⟨a9,c9,e9,hE⟩:=(HL10.out.mv hm hs).retire 0 0
     injection e9 with e91 e92 e93
     subst e91 e93
     have HC:Hid (z9.heap[N3]? = some (.cells (sgA t2.x ra rs1.length rc sa ss1.length sc a n c) 27 (0,0))):=(hE.B _ List.mem_cons_self).1
     have HO:Hid (z9.heap[w§]? = some (.cells (sgA ⟨#[]⟩ none 0 0 none 0 0 none 0 0) 27 (0,0))):=(hE.B _ (List.mem_cons_of_mem _ List.mem_cons_self)).1
     have HF:=(HX.rowA (pre:=[_]) hE (sgA t2.x ra rs1.length rc sa ss1.length sc a n c)).hid
     have HR:Hid ((z9.setRow w§ (sgA t2.x ra rs1.length rc sa ss1.length sc a n c)).heap[w§]? = some (.cells (sgA t2.x ra rs1.length rc sa ss1.length sc a n c) 27 (0,0))):=(HF.out.B _ (List.mem_cons_of_mem _ List.mem_cons_self)).1
     clear cE hs hm hE HL10 e92
     go_wp2_with (first | (refine wpList_load_row rfl 27 (.tmp 3) rfl N3 rfl 27 (sgA t2.x ra rs1.length rc sa ss1.length sc a n c) (0,0) _ HC.out Tryz.underlying27 rfl size43' ?_) | (refine wpList_store_row rfl 27 (.tmp 2) (.tmp 69) rfl w§ (sgA t2.x ra rs1.length rc sa ss1.length sc a n c) rfl rfl 27 _ HO.out size43' rfl (all4 ..) ?_))
     have hval:StratM.vals ⟨t2.x,ra,rc,rs1,sa,sc,ss1,a,c,ds⟩=(sgA t2.x ra rs1.length rc sa ss1.length sc a n c):=by
      show sgA t2.x ra rs1.length rc sa ss1.length sc a ds.length c=_
      rw [HNN.out]
     refine bodyPost_ret (results_cell_row rfl _ _ w§ 27 (sgA t2.x ra rs1.length rc sa ss1.length sc a n c) (0,0) _ rfl HR.out Tryz.underlying27 rfl size43') rfl ⟨⟨t2.x,ra,rc,rs1,sa,sc,ss1,a,c,ds⟩,by rw [hval],?_,HF.out.fin.1.imp fun U hU=>?_,HF.out.S,HF.out.M⟩
     ·show StratT.mk t2.x (rs1.map RegM.tr) (ss1.map SlotM.tr) (ds.map StateM.tr)=_
      rw [HRE.out,HSQ.out.1,HRE2.out]
     ·obtain⟨⟨g1,g2⟩,g3⟩:=HFS.out U hU.1.1
      exact⟨g2,g1,g3,HSQ.out.2,hU.2,hU.1.2,HT2.out.x1⟩
    ·obtain⟨u,us9,rfl⟩:=pIs_cons hi
     have cI:=is_l HK.out hx.S Z8 (by decide +kernel) hi
     have HPO:Hid (pState (u :: us9)=some (dt,ts1)∧pMany Z8 pState k' ts1=some (rest',tg :: ts')∧rest=dt :: rest'):=⟨hpo,hpd',hre⟩
     clear hx hrel hpd hal hn HI0 hi hre hpo hpd'
     go_wp2_with fail
     refine cI.mono ?_
     rintro e z1 ⟨rfl,hb⟩
     have HL9:=(HL.out.on hb).hid
     have k8:=HL9.out.sgCl3.cell
     have cM:=many_ok HL9.out.S n 12 (by omega) (by omega)
     clear cI hb HL
     go_wp2_with fail
     refine cM.mono ?_
     rintro e z2 ⟨rfl,e2⟩
     obtain rfl:=e2.symm
     clear cM e2 k8
     have cD:=state_l HK.out HL9.out.S HPO.out.1
     go_wp2_with fail
     refine cD.mono ?_
     rintro e w3 ⟨dm,rfl,htr,hdp,hs,hm⟩
     have HDT:Hid (dm.tr=dt):=htr
     have HLp:=((HL9.out.add hm hs hdp).push #[.string ⟨#[]⟩,.slice none 0 0,zI 0] 68).hid
     have HL4:=(HX.rowA (pre:=[]) HLp.out dm.vals).hid
     have HZ:Hid ((w3.alloc (.cells #[.string ⟨#[]⟩,.slice none 0 0,zI 0] 68)).heap[w3§]? = some (.cells #[.string ⟨#[]⟩,.slice none 0 0,zI 0] 68 (0,0))):=heap_new _ _
     clear cD hs hm htr hdp HL9 HLp
     go_upto_region 17 with (refine wpList_store_row rfl 68 (.tmp 9) (.tmp 52) rfl w3§ dm.vals rfl rfl 68 #[.string ⟨#[]⟩,.slice none 0 0,zI 0] HZ.out size87' rfl (all3' dm) ?_)
     generalize hW4:World.setRow _ _ _=W4
     rw [hW4] at HL4
     obtain⟨N4,eN4⟩:∃ q,w3§=q:=⟨_,rfl⟩
     rw [eN4] at HL4 ⊢
     clear eN4 HZ hW4
     have HN4:Hid (W4.heap[N4]? = some (.cells dm.vals 68 (0,0))):=(HL4.out.B _ List.mem_cons_self).1
     have k8:W4.cell? ⟨N3,3,none⟩=some (.slice a n c):=cell_of (HL4.out.B _ (List.mem_cons_of_mem _ List.mem_cons_self)).1 3
     go_wp2_with (first | (refine wpList_load_row rfl 68 (.tmp 9) rfl N4 rfl 68 dm.vals (0,0) _ HN4.out Tryz.underlying68 rfl size87' ?_) | (refine wpList_slice1 rfl 25 68 (.tmp 55) rfl dm.vals rfl 3 _ Tryz.underlying25 48 inf87 rfl rfl (by decide) (by decide) ?_) | (at_builtin; refine app_h HL4.out 25 dm.vals rfl (all3' dm) _ 48 Tryz.underlying25 inf87 rfl (by decide) (by rw [List.length_map,HNN.out]; omega) (by decide) rfl (.tmp 54) (.tmp 56) rfl rfl rfl ?_; intro g7 cap7 w7 hl7; rw [List.length_map,HNN.out] at hl7 ⊢; have HL7:=hl7.pop.hid; obtain⟨av8,ac8,af8⟩:=HX.sgC HL7.out 3 (by omega); clear hl7))
     have HL8:=(HL7.out.sgT (some ⟨g7,0,none⟩) (n+1) cap7).hid
     have HX8:Hid (HX w b K (w7.setCell ⟨N3,3,none⟩ (.slice (some ⟨g7,0,none⟩) (n+1) cap7)) [(N3,27,sgA t2.x ra rs1.length rc sa ss1.length sc (some ⟨g7,0,none⟩) (n+1) cap7),(w§,27,sgA ⟨#[]⟩ none 0 0 none 0 0 none 0 0)] 68 3 (.slice (some ⟨g7,0,none⟩) (n+1) cap7) ((ds ++ [dm]).map StateM.vals) (fun U=>FS U∧∀ d ∈ ds ++ [dm],StateL U d) ts1):=by
      rw [List.map_append]
      refine HL8.out.imp fun U hU=>⟨hU.1.1,(fun d hd=>?_)⟩
      rcases List.mem_append.1 hd with hd | hd
      ·exact hU.1.2 d hd
      ·rw [List.mem_singleton.1 hd]; exact hU.2
     refine⟨?_,?_⟩
     ·exact⟨ds ++ [dm],_,n+1,cap7,ts1,rest',by rw [List.length_append,HNN.out]; rfl,by omega,HX8.out,by rw [show 12 - (n+1)=k' by omega]; exact HPO.out.2.1,by rw [← HAL.out,HPO.out.2.2,List.map_append,List.map_singleton,HDT.out]; simp⟩
     ·rw [HMS.out,HX8.out.sgCl3.clen]; omega
  ·obtain⟨u,us9,rfl⟩:=pIs_cons hi
   have cI:=is_l HK.out hx.S Z7 (by decide +kernel) hi
   have HPO:Hid (pReg (u :: us9)=some (dt,ts1)∧pMany Z7 pReg k' ts1=some (rest',u2 :: us2')∧rest=dt :: rest'):=⟨hpo,hpd',hre⟩
   clear hx hrel hpd hal hn HI0 hi hre hpo hpd'
   go_wp2_with fail
   refine cI.mono ?_
   rintro e z1 ⟨rfl,hb⟩
   have HL9:=(HL.out.on hb).hid
   have k8:=HL9.out.sgCl1.cell
   have cM:=many_ok HL9.out.S n 12 (by omega) (by omega)
   clear cI hb HL
   go_wp2_with fail
   refine cM.mono ?_
   rintro e z2 ⟨rfl,e2⟩
   obtain rfl:=e2.symm
   clear cM e2 k8
   have cD:=reg_l HK.out HL9.out.S HPO.out.1
   go_wp2_with fail
   refine cD.mono ?_
   rintro e w3 ⟨dm,rfl,htr,hdp,hs,hm⟩
   have HDT:Hid (dm.tr=dt):=htr
   have HLp:=((HL9.out.add hm hs hdp).push #[.string ⟨#[]⟩,zU 0,zU 0,zU 0,zU 0,zI 0,zU 0,.string ⟨#[]⟩,.slice none 0 0,zI 0,zI 0] 62).hid
   have HL4:=(HX.rowA (pre:=[]) HLp.out dm.vals).hid
   have HZ:Hid ((w3.alloc (.cells #[.string ⟨#[]⟩,zU 0,zU 0,zU 0,zU 0,zI 0,zU 0,.string ⟨#[]⟩,.slice none 0 0,zI 0,zI 0] 62)).heap[w3§]? = some (.cells #[.string ⟨#[]⟩,zU 0,zU 0,zU 0,zU 0,zI 0,zU 0,.string ⟨#[]⟩,.slice none 0 0,zI 0,zI 0] 62 (0,0))):=heap_new _ _
   clear cD hs hm htr hdp HL9 HLp
   go_upto_region 10 with (refine wpList_store_row rfl 62 (.tmp 6) (.tmp 30) rfl w3§ dm.vals rfl rfl 62 #[.string ⟨#[]⟩,zU 0,zU 0,zU 0,zU 0,zI 0,zU 0,.string ⟨#[]⟩,.slice none 0 0,zI 0,zI 0] HZ.out size100' rfl (all11 dm) ?_)
   generalize hW4:World.setRow _ _ _=W4
   rw [hW4] at HL4
   obtain⟨N4,eN4⟩:∃ q,w3§=q:=⟨_,rfl⟩
   rw [eN4] at HL4 ⊢
   clear eN4 HZ hW4
   have HN4:Hid (W4.heap[N4]? = some (.cells dm.vals 62 (0,0))):=(HL4.out.B _ List.mem_cons_self).1
   have k8:W4.cell? ⟨N3,1,none⟩=some (.slice a n c):=cell_of (HL4.out.B _ (List.mem_cons_of_mem _ List.mem_cons_self)).1 1
   go_wp2_with (first | (refine wpList_load_row rfl 62 (.tmp 6) rfl N4 rfl 62 dm.vals (0,0) _ HN4.out Tryz.underlying62 rfl size100' ?_) | (refine wpList_slice1 rfl 23 62 (.tmp 33) rfl dm.vals rfl 11 _ Tryz.underlying23 104 inf100 rfl rfl (by decide) (by decide) ?_) | (at_builtin; refine app_h HL4.out 23 dm.vals rfl (all11 dm) _ 104 Tryz.underlying23 inf100 rfl (by decide) (by rw [List.length_map,HNN.out]; omega) (by decide) rfl (.tmp 32) (.tmp 34) rfl rfl rfl ?_; intro g7 cap7 w7 hl7; rw [List.length_map,HNN.out] at hl7 ⊢; have HL7:=hl7.pop.hid; obtain⟨av8,ac8,af8⟩:=HX.sgC HL7.out 1 (by omega); clear hl7))
   have HL8:=(HL7.out.sgR (some ⟨g7,0,none⟩) (n+1) cap7).hid
   have HX8:Hid (HX w b K (w7.setCell ⟨N3,1,none⟩ (.slice (some ⟨g7,0,none⟩) (n+1) cap7)) [(N3,27,sgA t2.x (some ⟨g7,0,none⟩) (n+1) cap7 none 0 0 none 0 0),(w§,27,sgA ⟨#[]⟩ none 0 0 none 0 0 none 0 0)] 62 11 (.slice (some ⟨g7,0,none⟩) (n+1) cap7) ((ds ++ [dm]).map RegM.vals) (fun U=>∀ d ∈ ds ++ [dm],RegL U d) ts1):=by
    rw [List.map_append]
    refine HL8.out.imp fun U hU=>(fun d hd=>?_)
    rcases List.mem_append.1 hd with hd | hd
    ·exact hU.1 d hd
    ·rw [List.mem_singleton.1 hd]; exact hU.2
   refine⟨?_,?_⟩
   ·exact⟨ds ++ [dm],_,n+1,cap7,ts1,rest',by rw [List.length_append,HNN.out]; rfl,by omega,HX8.out,by rw [show 12 - (n+1)=k' by omega]; exact HPO.out.2.1,by rw [← HAL.out,HPO.out.2.2,List.map_append,List.map_singleton,HDT.out]; simp⟩
   ·rw [HMS.out,HX8.out.sgCl1.clen]; omega
end Go.Proofs.YtoogodlnnijikaaGreatDoor
