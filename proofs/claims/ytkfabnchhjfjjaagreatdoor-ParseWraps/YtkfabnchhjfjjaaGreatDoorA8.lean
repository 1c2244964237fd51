import Derived.Test.YtkfabnchhjfjjaaGreatDoorA0
import Derived.Test.YtkfabnchhjfjjaaGreatDoorA7
import Derived.Test.YtkfabnchhjfjjaaGreatDoorA4
namespace Go.Proofs.YtkfabnchhjfjjaaGreatDoor
set_option maxRecDepth 100000
set_option maxHeartbeats 8000000
open Go.RowKit
set_option linter.unusedVariables false
theorem BX.ret {w:World}{b G:Nat}{fa:Int}{fe:Value}{d:Nat}{W:World}{k2 o2 ty2 n2 f2 p2:Int}{x2:ByteArray}{am2:Option Addr}{cm2:Nat}{ks2:List Nd}{bs:List (Nat × Nd)}{ts:List Tk}(h:BX w b G fa fe d W bs ts) (hb:b < w§) (hg:G < w§) (hl:Lies W (.mk ⟨k2,o2,ty2,n2,f2,x2,p2⟩ am2 cm2 ks2)) (hk:Bkn (fun k=>w§ < k∧k < W§) (.mk ⟨k2,o2,ty2,n2,f2,x2,p2⟩ am2 cm2 ks2)) :
  W.heap[w§]? = some (.cells zA7 64 (0,0))∧∃ Y,((((((((W.setCell ⟨w§,0,none⟩ (zU k2)).setCell ⟨w§,1,none⟩ (zU o2)).setCell ⟨w§,2,none⟩ (zU ty2)).setCell ⟨w§,3,none⟩ (zI n2)).setCell ⟨w§,4,none⟩ (zU f2)).setCell ⟨w§,5,none⟩ (.string x2)).setCell ⟨w§,6,none⟩ (.slice am2 ks2.length cm2)).setCell ⟨w§,7,none⟩ (zI p2))=Y∧Y.heap[w§]? = some (.cells (Nd.mk ⟨k2,o2,ty2,n2,f2,x2,p2⟩ am2 cm2 ks2).vals 64 (0,0))∧Lies Y (.mk ⟨k2,o2,ty2,n2,f2,x2,p2⟩ am2 cm2 ks2)∧Bkn (fun k=>w§≤k∧k < Y§) (.mk ⟨k2,o2,ty2,n2,f2,x2,p2⟩ am2 cm2 ks2)∧(∃ a c,Rdr Y b G ts fa fe d a c)∧Mv w Y (fun k=>k=b):=by
 obtain⟨Y,eY,hY1,hY2,hY3,hY4⟩:=fin8 h.Z (zU k2) (zU o2) (zU ty2) (zI n2) (zU f2) (.string x2) (.slice am2 ks2.length cm2) (zI p2)
 refine⟨h.Z,Y,eY,hY1,hl.bkn hk fun j hj=>hY3 j (by omega),hk.mono fun j hj=>by omega,?_,hY4 _ _ h.M (Nat.le_refl _)⟩
 obtain⟨a,c,hr⟩:=h.R
 exact⟨a,c,hr.blk (hY3 _ (by omega)) (hY3 _ (by omega)) (by omega)⟩
theorem gHas_sub (ts:List Tk):∀ t q,gHas ts=.ok (t,q)→∀ x ∈ q,x ∈ ts:=by
 intro t q h x hx
 unfold gHas at h
 obtain⟨⟨_,r1⟩,h1,h2⟩:=bind_ok h
 obtain⟨_,h3,h4⟩:=bind_ok h2
 obtain⟨_,h5,h6⟩:=bind_ok h4
 obtain⟨⟨_,r2⟩,h7,h8⟩:=bind_ok h6
 cases h8
 exact gStep_sub h1 _ (gStep_sub h7 _ hx)
theorem one_has (ex:List Tk→Except Ft (Tr × List Tk)) (hS:Subs ex) {w:World}{b G:Nat}{t:Tk}{ts:List Tk}{fa:Int}{fe:Value}{d:Nat}{a:Option Addr}{c:Nat}(h:Rdr w b G (t :: ts) fa fe d a c) (hT:∀ x ∈ t :: ts,RgT x) (hd:d < 1000) (e1:(t.x.toList == [40])=false) (e2:(t.x.toList == [104,97,115])=true)
  (cE:d < 24→∀ v ts a c,Rdr v b G ts fa fe (d+1) a c→(∀ t ∈ ts,RgT t)→Calls zG 46 #[zP b] v (OutN b G fa fe (d+1) v (ex ts))) :
  Calls zG 184 #[zP b] w (OutN b G fa fe d w (gHas (t :: ts))):=by
 have hb0:=Bn w (.cells zA7 64)
 have h0:=h.on hb0
 have HBL:Hid (b < w§):=h.lt
 have HGL:Hid (G < w§):=h.gl
 have HTT:Hid (∀ x ∈ t :: ts,RgT x):=hT
 have X0:BX w b G fa fe d (w.alloc (.cells zA7 64)) [] (t :: ts):=⟨Mv.ofBelow hb0,Hn _ _,fun p hp=>by simp at hp,⟨a,c,h0⟩,hT⟩
 have X0:=X0.hid
 have cL:=look_ok h0
 clear h hb0 h0 hT
 obtain⟨O,eO⟩:∃ O,gHas (t :: ts)=O:=⟨_,rfl⟩
 have HSR:Hid (∀ t' q,O=.ok (t',q)→∀ x ∈ q,x ∈ t :: ts):=fun t' q e=>gHas_sub (t :: ts) t' q (eO.trans e)
 have cC:∀ v a c,Rdr v b G (t :: ts) fa fe d a c→Calls zG 187 #[zP b] v (OutN b G fa fe d v O):=fun v a c h=>by rw [← eO]; exact has_any h HTT.out
 rw [eO]
 clear eO
 cases O with
 | error f =>
  go_enter Tryz.func184,Tryz.ntmps184
  go_wp2_with fail
  refine cL.mono ?_
  rintro e w1 ⟨rfl,hb1⟩
  have X1:=(X0.out.on HBL.out hb1).on HBL.out (Bn w1 (.cells (zT t) 82))
  have HK1:Hid ((w1.alloc (.cells (zT t) 82)).heap[w1§]? = some (.cells (zT t) 82 (0,0))):=Hn _ _
  obtain⟨Tb,eTb⟩:∃ T,w1§=T:=⟨_,rfl⟩
  obtain⟨V1,eV1⟩:∃ V,w1.alloc (.cells (zT t) 82)=V:=⟨_,rfl⟩
  have HV1:=zH eV1
  have HTb:Hid (w§ < Tb):=by rw [← eTb]; exact Nat.lt_of_lt_of_le (Array.getElem?_eq_some_iff.1 X0.out.Z).1 hb1.size
  rw [eV1] at X1 HK1
  rw [eTb] at HK1
  have X1:=X1.hid
  obtain⟨t0,t1,t2,t3,t4⟩:=cl5 HK1.out
  have cx1:(w1.alloc (.cells (zT t) 82)).cell? ⟨Tb,1,none⟩=some (.string t.x):=by rw [eV1]; exact t1
  clear cL hb1 X0 eV1
  unfold tkA
  go_wp2_with fail
  try rw [HV1.out]
  clear HV1 cx1
  obtain⟨a9,c9,h9⟩:=X1.out.R
  refine (cC V1 a9 c9 h9).mono ?_
  rintro e w2 ⟨rfl,hm⟩
  exact⟨rfl,rfl,X1.out.M.trans hm (fun k e=>.inl e)⟩
 | ok O =>
  obtain⟨t3x,ts3⟩:=O
  go_enter Tryz.func184,Tryz.ntmps184
  go_wp2_with fail
  refine cL.mono ?_
  rintro e w1 ⟨rfl,hb1⟩
  have X1:=(X0.out.on HBL.out hb1).on HBL.out (Bn w1 (.cells (zT t) 82))
  have HK1:Hid ((w1.alloc (.cells (zT t) 82)).heap[w1§]? = some (.cells (zT t) 82 (0,0))):=Hn _ _
  obtain⟨Tb,eTb⟩:∃ T,w1§=T:=⟨_,rfl⟩
  obtain⟨V1,eV1⟩:∃ V,w1.alloc (.cells (zT t) 82)=V:=⟨_,rfl⟩
  have HV1:=zH eV1
  have HTb:Hid (w§ < Tb):=by rw [← eTb]; exact Nat.lt_of_lt_of_le (Array.getElem?_eq_some_iff.1 X0.out.Z).1 hb1.size
  rw [eV1] at X1 HK1
  rw [eTb] at HK1
  have X1:=X1.hid
  obtain⟨t0,t1,t2,t3,t4⟩:=cl5 HK1.out
  have cx1:(w1.alloc (.cells (zT t) 82)).cell? ⟨Tb,1,none⟩=some (.string t.x):=by rw [eV1]; exact t1
  clear cL hb1 X0 eV1
  unfold tkA
  go_wp2_with fail
  try rw [HV1.out]
  clear HV1 cx1
  obtain⟨a9,c9,h9⟩:=X1.out.R
  refine (cC V1 a9 c9 h9).mono ?_
  rintro e w2 ⟨⟨m,rfl,rfl,hl,hk⟩,hr,hm⟩
  obtain⟨⟨k2,o2,ty2,n2,f2,x2,p2⟩,am2,cm2,ks2⟩:=m
  have hsz:=(Array.getElem?_eq_some_iff.1 X1.out.Z).1
  have XR:=(X1.out.mv HBL.out hm hr (HSR.out _ _ rfl)).hid
  have hk:Bkn (fun k=>w§ < k∧k < w2§) (.mk ⟨k2,o2,ty2,n2,f2,x2,p2⟩ am2 cm2 ks2):=hk.mono fun j hj=>⟨by omega,hj.2⟩
  clear hm hr hsz h9 t0 t1 t2 t3 t4 cC
  obtain⟨hZ,Y,eY,hY1,hY2,hY3,hY4,hY5⟩:=XR.out.ret HBL.out HGL.out hl hk
  obtain⟨z0,z1,z2,z3,z4,z5,z6,z7⟩:=cl8 hZ
  obtain⟨q0,q1,q2,q3,q4,q5,q6,q7⟩:=fz8 hZ
  have HEY:Hid (_=Y):=eY
  have HY1:Hid (_):=hY1
  have HYY:Hid (_):=(⟨hY2,hY3,hY4,hY5⟩:_∧_∧_∧_)
  clear eY hY1 hY2 hY3 hY4 hY5 hZ hl hk
  simp only [Nd.vals,Nd.h,Nd.a,Nd.c,Nd.ks,hdA]
  go_wp2_with fail
  rw [HEY.out]
  exact bodyPost_ret (results_cell_row rfl _ _ w§ 64 (Nd.mk ⟨k2,o2,ty2,n2,f2,x2,p2⟩ am2 cm2 ks2).vals (0,0) _ rfl HY1.out Tryz.underlying64 rfl zK) rfl ⟨⟨_,rfl,rfl,HYY.out.1,HYY.out.2.1⟩,HYY.out.2.2.1,HYY.out.2.2.2⟩
theorem gCallM_sub {ex:List Tk→Except Ft (Tr × List Tk)}(he:Subs ex) (q p:Int) (ts:List Tk):∀ t r,gCallM ex q p ts=.ok (t,r)→∀ x ∈ r,x ∈ ts:=by
 intro t r h x hx
 unfold gCallM at h
 cases h1:gTake (gB [40]) ts with
 | error e=>rw [h1] at h; cases h
 | ok q1 =>
  rw [h1] at h
  simp only at h
  by_cases hq:q=3
  ·rw [if_pos hq] at h
   cases h2:gIn (ex q1.2) with
   | error e=>rw [h2] at h; cases h
   | ok q2 =>
    rw [h2] at h
    simp only at h
    cases h
    exact gTake_sub h1 _ (gIn_sub (fun t q e=>he q1.2 t q e) q2.1 q2.2 h2 x hx)
  ·rw [if_neg hq] at h
   cases h2:ex q1.2 with
   | error e=>rw [h2] at h; cases h
   | ok q2 =>
    rw [h2] at h
    simp only at h
    cases h3:gTake (gB [44]) q2.2 with
    | error e=>rw [h3] at h; cases h
    | ok q3 =>
     rw [h3] at h
     simp only at h
     cases h4:gIn (ex q3.2) with
     | error e=>rw [h4] at h; cases h
     | ok q4 =>
      rw [h4] at h
      simp only at h
      cases h
      exact gTake_sub h1 _ (he _ _ _ h2 _ (gTake_sub h3 _ (gIn_sub (fun t q e=>he q3.2 t q e) q4.1 q4.2 h4 x hx)))
theorem gCall_sub {ex:List Tk→Except Ft (Tr × List Tk)}(he:Subs ex) (d:Nat) (ts:List Tk):∀ t r,gCall ex d ts=.ok (t,r)→∀ x ∈ r,x ∈ ts:=by
 intro t r h x hx
 unfold gCall at h
 cases h1:gOpn d ts with
 | error e=>rw [h1] at h; cases h
 | ok q1 =>
  rw [h1] at h
  exact gOpn_sub h1 _ (gCallM_sub he _ _ _ t r h x hx)
theorem gConv_sub {ex:List Tk→Except Ft (Tr × List Tk)}(he:Subs ex) (d:Nat) (ts:List Tk):∀ t r,gConv ex d ts=.ok (t,r)→∀ x ∈ r,x ∈ ts:=by
 intro t r h x hx
 unfold gConv at h
 cases h1:gOpn d ts with
 | error e=>rw [h1] at h; cases h
 | ok q1 =>
  rw [h1] at h
  simp only at h
  cases h2:gTake (gB [40]) q1.2 with
  | error e=>rw [h2] at h; cases h
  | ok q2 =>
   rw [h2] at h
   simp only at h
   cases h3:gIn (ex q2.2) with
   | error e=>rw [h3] at h; cases h
   | ok q3 =>
    rw [h3] at h
    simp only at h
    cases h
    exact gOpn_sub h1 _ (gTake_sub h2 _ (gIn_sub (fun t q e=>he q2.2 t q e) q3.1 q3.2 h3 x hx))
theorem one_call (ex:List Tk→Except Ft (Tr × List Tk)) (hS:Subs ex) {w:World}{b G:Nat}{t:Tk}{ts:List Tk}{fa:Int}{fe:Value}{d:Nat}{a:Option Addr}{c:Nat}(h:Rdr w b G (t :: ts) fa fe d a c) (hT:∀ x ∈ t :: ts,RgT x) (hd:d < 1000) (e1:(t.x.toList == [40])=false) (e2:(t.x.toList == [104,97,115])=false) (e3:callX t.x≠0)
  (cE:d < 24→∀ v ts a c,Rdr v b G ts fa fe (d+1) a c→(∀ t ∈ ts,RgT t)→Calls zG 46 #[zP b] v (OutN b G fa fe (d+1) v (ex ts))) :
  Calls zG 184 #[zP b] w (OutN b G fa fe d w (gCall ex d (t :: ts))):=by
 have hb0:=Bn w (.cells zA7 64)
 have h0:=h.on hb0
 have HBL:Hid (b < w§):=h.lt
 have HGL:Hid (G < w§):=h.gl
 have HTT:Hid (∀ x ∈ t :: ts,RgT x):=hT
 have X0:BX w b G fa fe d (w.alloc (.cells zA7 64)) [] (t :: ts):=⟨Mv.ofBelow hb0,Hn _ _,fun p hp=>by simp at hp,⟨a,c,h0⟩,hT⟩
 have X0:=X0.hid
 have cL:=look_ok h0
 clear h hb0 h0 hT
 have n3:(callX t.x != 0)=true:=bne_iff_ne.2 e3
 obtain⟨O,eO⟩:∃ O,gCall ex d (t :: ts)=O:=⟨_,rfl⟩
 have HSR:Hid (∀ t' q,O=.ok (t',q)→∀ x ∈ q,x ∈ t :: ts):=fun t' q e=>gCall_sub hS d (t :: ts) t' q (eO.trans e)
 have cC:∀ v a c,Rdr v b G (t :: ts) fa fe d a c→Calls zG 189 #[zP b] v (OutN b G fa fe d v O):=fun v a c h=>by rw [← eO]; exact call_any ex hS h HTT.out hd cE
 rw [eO]
 clear eO
 cases O with
 | error f =>
  go_enter Tryz.func184,Tryz.ntmps184
  go_wp2_with fail
  refine cL.mono ?_
  rintro e w1 ⟨rfl,hb1⟩
  have X1:=(X0.out.on HBL.out hb1).on HBL.out (Bn w1 (.cells (zT t) 82))
  have HK1:Hid ((w1.alloc (.cells (zT t) 82)).heap[w1§]? = some (.cells (zT t) 82 (0,0))):=Hn _ _
  obtain⟨Tb,eTb⟩:∃ T,w1§=T:=⟨_,rfl⟩
  obtain⟨V1,eV1⟩:∃ V,w1.alloc (.cells (zT t) 82)=V:=⟨_,rfl⟩
  have HV1:=zH eV1
  have HTb:Hid (w§ < Tb):=by rw [← eTb]; exact Nat.lt_of_lt_of_le (Array.getElem?_eq_some_iff.1 X0.out.Z).1 hb1.size
  rw [eV1] at X1 HK1
  rw [eTb] at HK1
  have X1:=X1.hid
  obtain⟨t0,t1,t2,t3,t4⟩:=cl5 HK1.out
  have cx1:(w1.alloc (.cells (zT t) 82)).cell? ⟨Tb,1,none⟩=some (.string t.x):=by rw [eV1]; exact t1
  clear cL hb1 X0 eV1
  unfold tkA
  go_wp2_with fail
  try rw [HV1.out]
  clear HV1 cx1
  refine (callOf_any t _).mono ?_
  rintro e V2 ⟨rfl,hb2⟩
  have X2:=(X1.out.on HBL.out hb2).hid
  have HK2:Hid (V2.heap[Tb]? = some (.cells (zT t) 82 (0,0))):=(hb2.block _ (Array.getElem?_eq_some_iff.1 HK1.out).1).trans HK1.out
  clear t0 t1 t2 t3 t4 hb2
  obtain⟨t0,t1,t2,t3,t4⟩:=cl5 HK2.out
  go_wp2_with fail
  obtain⟨a9,c9,h9⟩:=X2.out.R
  refine (cC V2 a9 c9 h9).mono ?_
  rintro e w2 ⟨rfl,hm⟩
  exact⟨rfl,rfl,X2.out.M.trans hm (fun k e=>.inl e)⟩
 | ok O =>
  obtain⟨t3x,ts3⟩:=O
  go_enter Tryz.func184,Tryz.ntmps184
  go_wp2_with fail
  refine cL.mono ?_
  rintro e w1 ⟨rfl,hb1⟩
  have X1:=(X0.out.on HBL.out hb1).on HBL.out (Bn w1 (.cells (zT t) 82))
  have HK1:Hid ((w1.alloc (.cells (zT t) 82)).heap[w1§]? = some (.cells (zT t) 82 (0,0))):=Hn _ _
  obtain⟨Tb,eTb⟩:∃ T,w1§=T:=⟨_,rfl⟩
  obtain⟨V1,eV1⟩:∃ V,w1.alloc (.cells (zT t) 82)=V:=⟨_,rfl⟩
  have HV1:=zH eV1
  have HTb:Hid (w§ < Tb):=by rw [← eTb]; exact Nat.lt_of_lt_of_le (Array.getElem?_eq_some_iff.1 X0.out.Z).1 hb1.size
  rw [eV1] at X1 HK1
  rw [eTb] at HK1
  have X1:=X1.hid
  obtain⟨t0,t1,t2,t3,t4⟩:=cl5 HK1.out
  have cx1:(w1.alloc (.cells (zT t) 82)).cell? ⟨Tb,1,none⟩=some (.string t.x):=by rw [eV1]; exact t1
  clear cL hb1 X0 eV1
  unfold tkA
  go_wp2_with fail
  try rw [HV1.out]
  clear HV1 cx1
  refine (callOf_any t _).mono ?_
  rintro e V2 ⟨rfl,hb2⟩
  have X2:=(X1.out.on HBL.out hb2).hid
  have HK2:Hid (V2.heap[Tb]? = some (.cells (zT t) 82 (0,0))):=(hb2.block _ (Array.getElem?_eq_some_iff.1 HK1.out).1).trans HK1.out
  clear t0 t1 t2 t3 t4 hb2
  obtain⟨t0,t1,t2,t3,t4⟩:=cl5 HK2.out
  go_wp2_with fail
  obtain⟨a9,c9,h9⟩:=X2.out.R
  refine (cC V2 a9 c9 h9).mono ?_
  rintro e w2 ⟨⟨m,rfl,rfl,hl,hk⟩,hr,hm⟩
  obtain⟨⟨k2,o2,ty2,n2,f2,x2,p2⟩,am2,cm2,ks2⟩:=m
  have hsz:=(Array.getElem?_eq_some_iff.1 X2.out.Z).1
  have XR:=(X2.out.mv HBL.out hm hr (HSR.out _ _ rfl)).hid
  have hk:Bkn (fun k=>w§ < k∧k < w2§) (.mk ⟨k2,o2,ty2,n2,f2,x2,p2⟩ am2 cm2 ks2):=hk.mono fun j hj=>⟨by omega,hj.2⟩
  clear hm hr hsz h9 t0 t1 t2 t3 t4 cC
  obtain⟨hZ,Y,eY,hY1,hY2,hY3,hY4,hY5⟩:=XR.out.ret HBL.out HGL.out hl hk
  obtain⟨z0,z1,z2,z3,z4,z5,z6,z7⟩:=cl8 hZ
  obtain⟨q0,q1,q2,q3,q4,q5,q6,q7⟩:=fz8 hZ
  have HEY:Hid (_=Y):=eY
  have HY1:Hid (_):=hY1
  have HYY:Hid (_):=(⟨hY2,hY3,hY4,hY5⟩:_∧_∧_∧_)
  clear eY hY1 hY2 hY3 hY4 hY5 hZ hl hk
  simp only [Nd.vals,Nd.h,Nd.a,Nd.c,Nd.ks,hdA]
  go_wp2_with fail
  rw [HEY.out]
  exact bodyPost_ret (results_cell_row rfl _ _ w§ 64 (Nd.mk ⟨k2,o2,ty2,n2,f2,x2,p2⟩ am2 cm2 ks2).vals (0,0) _ rfl HY1.out Tryz.underlying64 rfl zK) rfl ⟨⟨_,rfl,rfl,HYY.out.1,HYY.out.2.1⟩,HYY.out.2.2.1,HYY.out.2.2.2⟩
theorem one_conv (ex:List Tk→Except Ft (Tr × List Tk)) (hS:Subs ex) {w:World}{b G:Nat}{t:Tk}{ts:List Tk}{fa:Int}{fe:Value}{d:Nat}{a:Option Addr}{c:Nat}(h:Rdr w b G (t :: ts) fa fe d a c) (hT:∀ x ∈ t :: ts,RgT x) (hd:d < 1000) (e1:(t.x.toList == [40])=false) (e2:(t.x.toList == [104,97,115])=false) (e3:callX t.x=0) (e4:1≤tyX t.x∧tyX t.x≤4)
  (cE:d < 24→∀ v ts a c,Rdr v b G ts fa fe (d+1) a c→(∀ t ∈ ts,RgT t)→Calls zG 46 #[zP b] v (OutN b G fa fe (d+1) v (ex ts))) :
  Calls zG 184 #[zP b] w (OutN b G fa fe d w (gConv ex d (t :: ts))):=by
 have hb0:=Bn w (.cells zA7 64)
 have h0:=h.on hb0
 have HBL:Hid (b < w§):=h.lt
 have HGL:Hid (G < w§):=h.gl
 have HTT:Hid (∀ x ∈ t :: ts,RgT x):=hT
 have X0:BX w b G fa fe d (w.alloc (.cells zA7 64)) [] (t :: ts):=⟨Mv.ofBelow hb0,Hn _ _,fun p hp=>by simp at hp,⟨a,c,h0⟩,hT⟩
 have X0:=X0.hid
 have cL:=look_ok h0
 clear h hb0 h0 hT
 have n3:(callX t.x != 0)=false:=by rw [e3]; rfl
 have n4:decide (1≤tyX t.x∧tyX t.x≤4)=true:=decide_eq_true e4
 obtain⟨O,eO⟩:∃ O,gConv ex d (t :: ts)=O:=⟨_,rfl⟩
 have HSR:Hid (∀ t' q,O=.ok (t',q)→∀ x ∈ q,x ∈ t :: ts):=fun t' q e=>gConv_sub hS d (t :: ts) t' q (eO.trans e)
 have cC:∀ v a c,Rdr v b G (t :: ts) fa fe d a c→Calls zG 191 #[zP b] v (OutN b G fa fe d v O):=fun v a c h=>by rw [← eO]; exact conv_any ex hS h HTT.out hd cE
 rw [eO]
 clear eO
 cases O with
 | error f =>
  go_enter Tryz.func184,Tryz.ntmps184
  go_wp2_with fail
  refine cL.mono ?_
  rintro e w1 ⟨rfl,hb1⟩
  have X1:=(X0.out.on HBL.out hb1).on HBL.out (Bn w1 (.cells (zT t) 82))
  have HK1:Hid ((w1.alloc (.cells (zT t) 82)).heap[w1§]? = some (.cells (zT t) 82 (0,0))):=Hn _ _
  obtain⟨Tb,eTb⟩:∃ T,w1§=T:=⟨_,rfl⟩
  obtain⟨V1,eV1⟩:∃ V,w1.alloc (.cells (zT t) 82)=V:=⟨_,rfl⟩
  have HV1:=zH eV1
  have HTb:Hid (w§ < Tb):=by rw [← eTb]; exact Nat.lt_of_lt_of_le (Array.getElem?_eq_some_iff.1 X0.out.Z).1 hb1.size
  rw [eV1] at X1 HK1
  rw [eTb] at HK1
  have X1:=X1.hid
  obtain⟨t0,t1,t2,t3,t4⟩:=cl5 HK1.out
  have cx1:(w1.alloc (.cells (zT t) 82)).cell? ⟨Tb,1,none⟩=some (.string t.x):=by rw [eV1]; exact t1
  clear cL hb1 X0 eV1
  unfold tkA
  go_wp2_with fail
  try rw [HV1.out]
  clear HV1 cx1
  refine (callOf_any t _).mono ?_
  rintro e V2 ⟨rfl,hb2⟩
  have X2:=(X1.out.on HBL.out hb2).hid
  have HK2:Hid (V2.heap[Tb]? = some (.cells (zT t) 82 (0,0))):=(hb2.block _ (Array.getElem?_eq_some_iff.1 HK1.out).1).trans HK1.out
  clear t0 t1 t2 t3 t4 hb2
  obtain⟨t0,t1,t2,t3,t4⟩:=cl5 HK2.out
  go_wp2_with fail
  refine (typeOf_any t _).mono ?_
  rintro e V3 ⟨rfl,hb3⟩
  have X3:=(X2.out.on HBL.out hb3).hid
  have HK3:Hid (V3.heap[Tb]? = some (.cells (zT t) 82 (0,0))):=(hb3.block _ (Array.getElem?_eq_some_iff.1 HK2.out).1).trans HK2.out
  clear t0 t1 t2 t3 t4 hb3
  obtain⟨t0,t1,t2,t3,t4⟩:=cl5 HK3.out
  go_wp2_with fail
  refine (number_any (tyX t.x) _).mono ?_
  rintro e V9 ⟨rfl,hV9⟩
  rw [hV9]
  clear hV9
  go_wp2_with fail
  obtain⟨a9,c9,h9⟩:=X3.out.R
  refine (cC V3 a9 c9 h9).mono ?_
  rintro e w2 ⟨rfl,hm⟩
  exact⟨rfl,rfl,X3.out.M.trans hm (fun k e=>.inl e)⟩
 | ok O =>
  obtain⟨t3x,ts3⟩:=O
  go_enter Tryz.func184,Tryz.ntmps184
  go_wp2_with fail
  refine cL.mono ?_
  rintro e w1 ⟨rfl,hb1⟩
  have X1:=(X0.out.on HBL.out hb1).on HBL.out (Bn w1 (.cells (zT t) 82))
  have HK1:Hid ((w1.alloc (.cells (zT t) 82)).heap[w1§]? = some (.cells (zT t) 82 (0,0))):=Hn _ _
  obtain⟨Tb,eTb⟩:∃ T,w1§=T:=⟨_,rfl⟩
  obtain⟨V1,eV1⟩:∃ V,w1.alloc (.cells (zT t) 82)=V:=⟨_,rfl⟩
  have HV1:=zH eV1
  have HTb:Hid (w§ < Tb):=by rw [← eTb]; exact Nat.lt_of_lt_of_le (Array.getElem?_eq_some_iff.1 X0.out.Z).1 hb1.size
  rw [eV1] at X1 HK1
  rw [eTb] at HK1
  have X1:=X1.hid
  obtain⟨t0,t1,t2,t3,t4⟩:=cl5 HK1.out
  have cx1:(w1.alloc (.cells (zT t) 82)).cell? ⟨Tb,1,none⟩=some (.string t.x):=by rw [eV1]; exact t1
  clear cL hb1 X0 eV1
  unfold tkA
  go_wp2_with fail
  try rw [HV1.out]
  clear HV1 cx1
  refine (callOf_any t _).mono ?_
  rintro e V2 ⟨rfl,hb2⟩
  have X2:=(X1.out.on HBL.out hb2).hid
  have HK2:Hid (V2.heap[Tb]? = some (.cells (zT t) 82 (0,0))):=(hb2.block _ (Array.getElem?_eq_some_iff.1 HK1.out).1).trans HK1.out
  clear t0 t1 t2 t3 t4 hb2
  obtain⟨t0,t1,t2,t3,t4⟩:=cl5 HK2.out
  go_wp2_with fail
  refine (typeOf_any t _).mono ?_
  rintro e V3 ⟨rfl,hb3⟩
  have X3:=(X2.out.on HBL.out hb3).hid
  have HK3:Hid (V3.heap[Tb]? = some (.cells (zT t) 82 (0,0))):=(hb3.block _ (Array.getElem?_eq_some_iff.1 HK2.out).1).trans HK2.out
  clear t0 t1 t2 t3 t4 hb3
  obtain⟨t0,t1,t2,t3,t4⟩:=cl5 HK3.out
  go_wp2_with fail
  refine (number_any (tyX t.x) _).mono ?_
  rintro e V9 ⟨rfl,hV9⟩
  rw [hV9]
  clear hV9
  go_wp2_with fail
  obtain⟨a9,c9,h9⟩:=X3.out.R
  refine (cC V3 a9 c9 h9).mono ?_
  rintro e w2 ⟨⟨m,rfl,rfl,hl,hk⟩,hr,hm⟩
  obtain⟨⟨k2,o2,ty2,n2,f2,x2,p2⟩,am2,cm2,ks2⟩:=m
  have hsz:=(Array.getElem?_eq_some_iff.1 X3.out.Z).1
  have XR:=(X3.out.mv HBL.out hm hr (HSR.out _ _ rfl)).hid
  have hk:Bkn (fun k=>w§ < k∧k < w2§) (.mk ⟨k2,o2,ty2,n2,f2,x2,p2⟩ am2 cm2 ks2):=hk.mono fun j hj=>⟨by omega,hj.2⟩
  clear hm hr hsz h9 t0 t1 t2 t3 t4 cC
  obtain⟨hZ,Y,eY,hY1,hY2,hY3,hY4,hY5⟩:=XR.out.ret HBL.out HGL.out hl hk
  obtain⟨z0,z1,z2,z3,z4,z5,z6,z7⟩:=cl8 hZ
  obtain⟨q0,q1,q2,q3,q4,q5,q6,q7⟩:=fz8 hZ
  have HEY:Hid (_=Y):=eY
  have HY1:Hid (_):=hY1
  have HYY:Hid (_):=(⟨hY2,hY3,hY4,hY5⟩:_∧_∧_∧_)
  clear eY hY1 hY2 hY3 hY4 hY5 hZ hl hk
  simp only [Nd.vals,Nd.h,Nd.a,Nd.c,Nd.ks,hdA]
  go_wp2_with fail
  rw [HEY.out]
  exact bodyPost_ret (results_cell_row rfl _ _ w§ 64 (Nd.mk ⟨k2,o2,ty2,n2,f2,x2,p2⟩ am2 cm2 ks2).vals (0,0) _ rfl HY1.out Tryz.underlying64 rfl zK) rfl ⟨⟨_,rfl,rfl,HYY.out.1,HYY.out.2.1⟩,HYY.out.2.2.1,HYY.out.2.2.2⟩
theorem one_lit (ex:List Tk→Except Ft (Tr × List Tk)) (hS:Subs ex) {w:World}{b G:Nat}{t:Tk}{ts:List Tk}{fa:Int}{fe:Value}{d:Nat}{a:Option Addr}{c:Nat}(h:Rdr w b G (t :: ts) fa fe d a c) (hT:∀ x ∈ t :: ts,RgT x) (hd:d < 1000) (e1:(t.x.toList == [40])=false) (e2:(t.x.toList == [104,97,115])=false) (e3:callX t.x=0) (e4:¬ (1≤tyX t.x∧tyX t.x≤4)) (e5:fieldX t.x=0) (e6:t.k≠2)
  (cE:d < 24→∀ v ts a c,Rdr v b G ts fa fe (d+1) a c→(∀ t ∈ ts,RgT t)→Calls zG 46 #[zP b] v (OutN b G fa fe (d+1) v (ex ts))) :
  Calls zG 184 #[zP b] w (OutN b G fa fe d w (gLit (t :: ts))):=by
 have hb0:=Bn w (.cells zA7 64)
 have h0:=h.on hb0
 have HBL:Hid (b < w§):=h.lt
 have HGL:Hid (G < w§):=h.gl
 have HTT:Hid (∀ x ∈ t :: ts,RgT x):=hT
 have X0:BX w b G fa fe d (w.alloc (.cells zA7 64)) [] (t :: ts):=⟨Mv.ofBelow hb0,Hn _ _,fun p hp=>by simp at hp,⟨a,c,h0⟩,hT⟩
 have X0:=X0.hid
 have cL:=look_ok h0
 clear h hb0 h0 hT
 have n3:(callX t.x != 0)=false:=by rw [e3]; rfl
 have n4:decide (1≤tyX t.x∧tyX t.x≤4)=false:=decide_eq_false e4
 have n5:(fieldX t.x != 0)=false:=by rw [e5]; rfl
 have n6:(t.k == 2)=false:=beq_false_of_ne e6
 obtain⟨O,eO⟩:∃ O,gLit (t :: ts)=O:=⟨_,rfl⟩
 have HSR:Hid (∀ t' q,O=.ok (t',q)→∀ x ∈ q,x ∈ t :: ts):=fun t' q e=>gLit_sub (t :: ts) t' q (eO.trans e)
 have cC:∀ v a c,Rdr v b G (t :: ts) fa fe d a c→Calls zG 130 #[zP b] v (OutN b G fa fe d v O):=fun v a c h=>by rw [← eO]; exact lit_ok h (HTT.out t (by simp))
 rw [eO]
 clear eO
 cases O with
 | error f =>
  go_enter Tryz.func184,Tryz.ntmps184
  go_wp2_with fail
  refine cL.mono ?_
  rintro e w1 ⟨rfl,hb1⟩
  have X1:=(X0.out.on HBL.out hb1).on HBL.out (Bn w1 (.cells (zT t) 82))
  have HK1:Hid ((w1.alloc (.cells (zT t) 82)).heap[w1§]? = some (.cells (zT t) 82 (0,0))):=Hn _ _
  obtain⟨Tb,eTb⟩:∃ T,w1§=T:=⟨_,rfl⟩
  obtain⟨V1,eV1⟩:∃ V,w1.alloc (.cells (zT t) 82)=V:=⟨_,rfl⟩
  have HV1:=zH eV1
  have HTb:Hid (w§ < Tb):=by rw [← eTb]; exact Nat.lt_of_lt_of_le (Array.getElem?_eq_some_iff.1 X0.out.Z).1 hb1.size
  rw [eV1] at X1 HK1
  rw [eTb] at HK1
  have X1:=X1.hid
  obtain⟨t0,t1,t2,t3,t4⟩:=cl5 HK1.out
  have cx1:(w1.alloc (.cells (zT t) 82)).cell? ⟨Tb,1,none⟩=some (.string t.x):=by rw [eV1]; exact t1
  clear cL hb1 X0 eV1
  unfold tkA
  go_wp2_with fail
  try rw [HV1.out]
  clear HV1 cx1
  refine (callOf_any t _).mono ?_
  rintro e V2 ⟨rfl,hb2⟩
  have X2:=(X1.out.on HBL.out hb2).hid
  have HK2:Hid (V2.heap[Tb]? = some (.cells (zT t) 82 (0,0))):=(hb2.block _ (Array.getElem?_eq_some_iff.1 HK1.out).1).trans HK1.out
  clear t0 t1 t2 t3 t4 hb2
  obtain⟨t0,t1,t2,t3,t4⟩:=cl5 HK2.out
  go_wp2_with fail
  refine (typeOf_any t _).mono ?_
  rintro e V3 ⟨rfl,hb3⟩
  have X3:=(X2.out.on HBL.out hb3).hid
  have HK3:Hid (V3.heap[Tb]? = some (.cells (zT t) 82 (0,0))):=(hb3.block _ (Array.getElem?_eq_some_iff.1 HK2.out).1).trans HK2.out
  clear t0 t1 t2 t3 t4 hb3
  obtain⟨t0,t1,t2,t3,t4⟩:=cl5 HK3.out
  go_wp2_with fail
  refine (number_any (tyX t.x) _).mono ?_
  rintro e V9 ⟨rfl,hV9⟩
  rw [hV9]
  clear hV9
  go_wp2_with fail
  refine (fieldOf_any t _).mono ?_
  rintro e V4 ⟨rfl,hb4⟩
  have X4:=(X3.out.on HBL.out hb4).hid
  have HK4:Hid (V4.heap[Tb]? = some (.cells (zT t) 82 (0,0))):=(hb4.block _ (Array.getElem?_eq_some_iff.1 HK3.out).1).trans HK3.out
  clear t0 t1 t2 t3 t4 hb4
  obtain⟨t0,t1,t2,t3,t4⟩:=cl5 HK4.out
  go_wp2_with fail
  obtain⟨a9,c9,h9⟩:=X4.out.R
  refine (cC V4 a9 c9 h9).mono ?_
  rintro e w2 ⟨rfl,hm⟩
  exact⟨rfl,rfl,X4.out.M.trans hm (fun k e=>.inl e)⟩
 | ok O =>
  obtain⟨t3x,ts3⟩:=O
  go_enter Tryz.func184,Tryz.ntmps184
  go_wp2_with fail
  refine cL.mono ?_
  rintro e w1 ⟨rfl,hb1⟩
  have X1:=(X0.out.on HBL.out hb1).on HBL.out (Bn w1 (.cells (zT t) 82))
  have HK1:Hid ((w1.alloc (.cells (zT t) 82)).heap[w1§]? = some (.cells (zT t) 82 (0,0))):=Hn _ _
  obtain⟨Tb,eTb⟩:∃ T,w1§=T:=⟨_,rfl⟩
  obtain⟨V1,eV1⟩:∃ V,w1.alloc (.cells (zT t) 82)=V:=⟨_,rfl⟩
  have HV1:=zH eV1
  have HTb:Hid (w§ < Tb):=by rw [← eTb]; exact Nat.lt_of_lt_of_le (Array.getElem?_eq_some_iff.1 X0.out.Z).1 hb1.size
  rw [eV1] at X1 HK1
  rw [eTb] at HK1
  have X1:=X1.hid
  obtain⟨t0,t1,t2,t3,t4⟩:=cl5 HK1.out
  have cx1:(w1.alloc (.cells (zT t) 82)).cell? ⟨Tb,1,none⟩=some (.string t.x):=by rw [eV1]; exact t1
  clear cL hb1 X0 eV1
  unfold tkA
  go_wp2_with fail
  try rw [HV1.out]
  clear HV1 cx1
  refine (callOf_any t _).mono ?_
  rintro e V2 ⟨rfl,hb2⟩
  have X2:=(X1.out.on HBL.out hb2).hid
  have HK2:Hid (V2.heap[Tb]? = some (.cells (zT t) 82 (0,0))):=(hb2.block _ (Array.getElem?_eq_some_iff.1 HK1.out).1).trans HK1.out
  clear t0 t1 t2 t3 t4 hb2
  obtain⟨t0,t1,t2,t3,t4⟩:=cl5 HK2.out
  go_wp2_with fail
  refine (typeOf_any t _).mono ?_
  rintro e V3 ⟨rfl,hb3⟩
  have X3:=(X2.out.on HBL.out hb3).hid
  have HK3:Hid (V3.heap[Tb]? = some (.cells (zT t) 82 (0,0))):=(hb3.block _ (Array.getElem?_eq_some_iff.1 HK2.out).1).trans HK2.out
  clear t0 t1 t2 t3 t4 hb3
  obtain⟨t0,t1,t2,t3,t4⟩:=cl5 HK3.out
  go_wp2_with fail
  refine (number_any (tyX t.x) _).mono ?_
  rintro e V9 ⟨rfl,hV9⟩
  rw [hV9]
  clear hV9
  go_wp2_with fail
  refine (fieldOf_any t _).mono ?_
  rintro e V4 ⟨rfl,hb4⟩
  have X4:=(X3.out.on HBL.out hb4).hid
  have HK4:Hid (V4.heap[Tb]? = some (.cells (zT t) 82 (0,0))):=(hb4.block _ (Array.getElem?_eq_some_iff.1 HK3.out).1).trans HK3.out
  clear t0 t1 t2 t3 t4 hb4
  obtain⟨t0,t1,t2,t3,t4⟩:=cl5 HK4.out
  go_wp2_with fail
  obtain⟨a9,c9,h9⟩:=X4.out.R
  refine (cC V4 a9 c9 h9).mono ?_
  rintro e w2 ⟨⟨m,rfl,rfl,hl,hk⟩,hr,hm⟩
  obtain⟨⟨k2,o2,ty2,n2,f2,x2,p2⟩,am2,cm2,ks2⟩:=m
  have hsz:=(Array.getElem?_eq_some_iff.1 X4.out.Z).1
  have XR:=(X4.out.mv HBL.out hm hr (HSR.out _ _ rfl)).hid
  have hk:Bkn (fun k=>w§ < k∧k < w2§) (.mk ⟨k2,o2,ty2,n2,f2,x2,p2⟩ am2 cm2 ks2):=hk.mono fun j hj=>⟨by omega,hj.2⟩
  clear hm hr hsz h9 t0 t1 t2 t3 t4 cC
  obtain⟨hZ,Y,eY,hY1,hY2,hY3,hY4,hY5⟩:=XR.out.ret HBL.out HGL.out hl hk
  obtain⟨z0,z1,z2,z3,z4,z5,z6,z7⟩:=cl8 hZ
  obtain⟨q0,q1,q2,q3,q4,q5,q6,q7⟩:=fz8 hZ
  have HEY:Hid (_=Y):=eY
  have HY1:Hid (_):=hY1
  have HYY:Hid (_):=(⟨hY2,hY3,hY4,hY5⟩:_∧_∧_∧_)
  clear eY hY1 hY2 hY3 hY4 hY5 hZ hl hk
  simp only [Nd.vals,Nd.h,Nd.a,Nd.c,Nd.ks,hdA]
  go_wp2_with fail
  rw [HEY.out]
  exact bodyPost_ret (results_cell_row rfl _ _ w§ 64 (Nd.mk ⟨k2,o2,ty2,n2,f2,x2,p2⟩ am2 cm2 ks2).vals (0,0) _ rfl HY1.out Tryz.underlying64 rfl zK) rfl ⟨⟨_,rfl,rfl,HYY.out.1,HYY.out.2.1⟩,HYY.out.2.2.1,HYY.out.2.2.2⟩
def gBrk (ex:List Tk→Except Ft (Tr × List Tk)) (d:Nat) (ts:List Tk):Except Ft (Tr × List Tk) :=
 match gOpn d ts with
 | .error e=>.error e
 | .ok q=>gIn (ex q.2)
theorem rg_field {t:Tk}(h:RgT t):Rg ⟨3,0,0,0,fieldX t.x,gE,t.p⟩:=by
 have:=h.p0; have:=h.p1; have:=fieldX_rg t.x
 constructor <;> first | omega | (show (0:Nat)≤_; omega) | (simp only; omega) | simp
theorem rg_name {t:Tk}(h:RgT t):Rg ⟨2,0,0,0,0,t.x,t.p⟩:=by
 have:=h.p0; have:=h.p1; have:=h.x1
 constructor <;> first | omega | (show (0:Nat)≤_; omega) | (simp only; omega) | simp
theorem one_brk (ex:List Tk→Except Ft (Tr × List Tk)) (hS:Subs ex) {w:World}{b G:Nat}{t:Tk}{ts:List Tk}{fa:Int}{fe:Value}{d:Nat}{a:Option Addr}{c:Nat}(h:Rdr w b G (t :: ts) fa fe d a c) (hT:∀ x ∈ t :: ts,RgT x) (hd:d < 1000) (e1:(t.x.toList == [40])=true)
  (cE:d < 24→∀ v ts a c,Rdr v b G ts fa fe (d+1) a c→(∀ t ∈ ts,RgT t)→Calls zG 46 #[zP b] v (OutN b G fa fe (d+1) v (ex ts))) :
  Calls zG 184 #[zP b] w (OutN b G fa fe d w (gBrk ex d (t :: ts))):=by
 have hb0:=Bn w (.cells zA7 64)
 have h0:=h.on hb0
 have HBL:Hid (b < w§):=h.lt
 have HGL:Hid (G < w§):=h.gl
 have HTT:Hid (∀ x ∈ t :: ts,RgT x):=hT
 have X0:BX w b G fa fe d (w.alloc (.cells zA7 64)) [] (t :: ts):=⟨Mv.ofBelow hb0,Hn _ _,fun p hp=>by simp at hp,⟨a,c,h0⟩,hT⟩
 have X0:=X0.hid
 have cL:=look_ok h0
 clear h hb0 h0 hT
 obtain⟨P,eO⟩:∃ P,gOpn d (t :: ts)=P:=⟨_,rfl⟩
 have HEO:Hid (gOpn d (t :: ts)=P):=eO
 unfold gBrk
 rw [eO]
 clear eO
 cases P with
 | error f =>
  go_enter Tryz.func184,Tryz.ntmps184
  go_wp2_with fail
  refine cL.mono ?_
  rintro e w1 ⟨rfl,hb1⟩
  have X1:=(X0.out.on HBL.out hb1).on HBL.out (Bn w1 (.cells (zT t) 82))
  have HK1:Hid ((w1.alloc (.cells (zT t) 82)).heap[w1§]? = some (.cells (zT t) 82 (0,0))):=Hn _ _
  obtain⟨Tb,eTb⟩:∃ T,w1§=T:=⟨_,rfl⟩
  obtain⟨V1,eV1⟩:∃ V,w1.alloc (.cells (zT t) 82)=V:=⟨_,rfl⟩
  have HV1:=zH eV1
  have HTb:Hid (w§ < Tb):=by rw [← eTb]; exact Nat.lt_of_lt_of_le (Array.getElem?_eq_some_iff.1 X0.out.Z).1 hb1.size
  rw [eV1] at X1 HK1
  rw [eTb] at HK1
  have X1:=X1.hid
  obtain⟨t0,t1,t2,t3,t4⟩:=cl5 HK1.out
  have cx1:(w1.alloc (.cells (zT t) 82)).cell? ⟨Tb,1,none⟩=some (.string t.x):=by rw [eV1]; exact t1
  clear cL hb1 X0 eV1
  unfold tkA
  go_wp2_with fail
  try rw [HV1.out]
  clear HV1 cx1
  obtain⟨a9,c9,h9⟩:=X1.out.R
  have cP:=open_any h9
  rw [HEO.out] at cP
  refine cP.mono ?_
  rintro e w2 ⟨rfl,hm⟩
  exact⟨rfl,rfl,X1.out.M.trans hm (fun k e=>.inl e)⟩
 | ok P =>
  obtain⟨u,r⟩:=P
  have HSB:Hid (∀ x ∈ r,x ∈ t :: ts):=gOpn_sub HEO.out
  replace cE:=cE (gOpn_lt HEO.out)
  simp only
  have hgi:∀ t q,gIn (ex r)=.ok (t,q)→∀ x ∈ q,x ∈ r:=gIn_sub (fun t q e=>hS r t q e)
  obtain⟨O,eO⟩:∃ O,gIn (ex r)=O:=⟨_,rfl⟩
  have HEI:Hid (gIn (ex r)=O):=eO
  rw [eO] at hgi ⊢
  have HSR:=zH hgi
  clear eO hgi
  cases O with
  | error f =>
   go_enter Tryz.func184,Tryz.ntmps184
   go_wp2_with fail
   refine cL.mono ?_
   rintro e w1 ⟨rfl,hb1⟩
   have X1:=(X0.out.on HBL.out hb1).on HBL.out (Bn w1 (.cells (zT t) 82))
   have HK1:Hid ((w1.alloc (.cells (zT t) 82)).heap[w1§]? = some (.cells (zT t) 82 (0,0))):=Hn _ _
   obtain⟨Tb,eTb⟩:∃ T,w1§=T:=⟨_,rfl⟩
   obtain⟨V1,eV1⟩:∃ V,w1.alloc (.cells (zT t) 82)=V:=⟨_,rfl⟩
   have HV1:=zH eV1
   have HTb:Hid (w§ < Tb):=by rw [← eTb]; exact Nat.lt_of_lt_of_le (Array.getElem?_eq_some_iff.1 X0.out.Z).1 hb1.size
   rw [eV1] at X1 HK1
   rw [eTb] at HK1
   have X1:=X1.hid
   obtain⟨t0,t1,t2,t3,t4⟩:=cl5 HK1.out
   have cx1:(w1.alloc (.cells (zT t) 82)).cell? ⟨Tb,1,none⟩=some (.string t.x):=by rw [eV1]; exact t1
   clear cL hb1 X0 eV1
   unfold tkA
   go_wp2_with fail
   try rw [HV1.out]
   clear HV1 cx1
   obtain⟨a9,c9,h9⟩:=X1.out.R
   have cP:=open_any h9
   rw [HEO.out] at cP
   refine cP.mono ?_
   rintro e w2 ⟨rfl,hr2,hm2⟩
   have X2:=(X1.out.mv HBL.out hm2 hr2 HSB.out).hid
   clear cP hm2 hr2 h9
   go_wp2_with fail
   obtain⟨a9,c9,h9⟩:=X2.out.R
   have cI:=inBr_any h9 hd (ex r) (fun v a c h'=>cE v r a c h' X2.out.T)
   rw [HEI.out] at cI
   refine cI.mono ?_
   rintro e w3 ⟨rfl,hm⟩
   exact⟨rfl,rfl,X2.out.M.trans hm (fun k e=>.inl e)⟩
  | ok O =>
   obtain⟨t3x,ts3⟩:=O
   go_enter Tryz.func184,Tryz.ntmps184
   go_wp2_with fail
   refine cL.mono ?_
   rintro e w1 ⟨rfl,hb1⟩
   have X1:=(X0.out.on HBL.out hb1).on HBL.out (Bn w1 (.cells (zT t) 82))
   have HK1:Hid ((w1.alloc (.cells (zT t) 82)).heap[w1§]? = some (.cells (zT t) 82 (0,0))):=Hn _ _
   obtain⟨Tb,eTb⟩:∃ T,w1§=T:=⟨_,rfl⟩
   obtain⟨V1,eV1⟩:∃ V,w1.alloc (.cells (zT t) 82)=V:=⟨_,rfl⟩
   have HV1:=zH eV1
   have HTb:Hid (w§ < Tb):=by rw [← eTb]; exact Nat.lt_of_lt_of_le (Array.getElem?_eq_some_iff.1 X0.out.Z).1 hb1.size
   rw [eV1] at X1 HK1
   rw [eTb] at HK1
   have X1:=X1.hid
   obtain⟨t0,t1,t2,t3,t4⟩:=cl5 HK1.out
   have cx1:(w1.alloc (.cells (zT t) 82)).cell? ⟨Tb,1,none⟩=some (.string t.x):=by rw [eV1]; exact t1
   clear cL hb1 X0 eV1
   unfold tkA
   go_wp2_with fail
   try rw [HV1.out]
   clear HV1 cx1
   obtain⟨a9,c9,h9⟩:=X1.out.R
   have cP:=open_any h9
   rw [HEO.out] at cP
   refine cP.mono ?_
   rintro e w2 ⟨rfl,hr2,hm2⟩
   have X2:=(X1.out.mv HBL.out hm2 hr2 HSB.out).hid
   clear cP hm2 hr2 h9
   go_wp2_with fail
   obtain⟨a9,c9,h9⟩:=X2.out.R
   have cI:=inBr_any h9 hd (ex r) (fun v a c h'=>cE v r a c h' X2.out.T)
   rw [HEI.out] at cI
   refine cI.mono ?_
   rintro e w3 ⟨⟨m,rfl,rfl,hl,hk⟩,hr,hm⟩
   obtain⟨⟨k2,o2,ty2,n2,f2,x2,p2⟩,am2,cm2,ks2⟩:=m
   have hsz:=(Array.getElem?_eq_some_iff.1 X2.out.Z).1
   have XR:=(X2.out.mv HBL.out hm hr (HSR.out _ _ rfl)).hid
   have hk:Bkn (fun k=>w§ < k∧k < w3§) (.mk ⟨k2,o2,ty2,n2,f2,x2,p2⟩ am2 cm2 ks2):=hk.mono fun j hj=>⟨by omega,hj.2⟩
   clear hm hr hsz h9 cI t0 t1 t2 t3 t4 HEI HSR
   obtain⟨hZ,Y,eY,hY1,hY2,hY3,hY4,hY5⟩:=XR.out.ret HBL.out HGL.out hl hk
   obtain⟨z0,z1,z2,z3,z4,z5,z6,z7⟩:=cl8 hZ
   obtain⟨q0,q1,q2,q3,q4,q5,q6,q7⟩:=fz8 hZ
   have HEY:Hid (_=Y):=eY
   have HY1:Hid (_):=hY1
   have HYY:Hid (_):=(⟨hY2,hY3,hY4,hY5⟩:_∧_∧_∧_)
   clear eY hY1 hY2 hY3 hY4 hY5 hZ hl hk
   simp only [Nd.vals,Nd.h,Nd.a,Nd.c,Nd.ks,hdA]
   go_wp2_with fail
   rw [HEY.out]
   exact bodyPost_ret (results_cell_row rfl _ _ w§ 64 (Nd.mk ⟨k2,o2,ty2,n2,f2,x2,p2⟩ am2 cm2 ks2).vals (0,0) _ rfl HY1.out Tryz.underlying64 rfl zK) rfl ⟨⟨_,rfl,rfl,HYY.out.1,HYY.out.2.1⟩,HYY.out.2.2.1,HYY.out.2.2.2⟩
theorem one_field (ex:List Tk→Except Ft (Tr × List Tk)) (hS:Subs ex) {w:World}{b G:Nat}{t:Tk}{ts:List Tk}{fa:Int}{fe:Value}{d:Nat}{a:Option Addr}{c:Nat}(h:Rdr w b G (t :: ts) fa fe d a c) (hT:∀ x ∈ t :: ts,RgT x) (hd:d < 1000) (e1:(t.x.toList == [40])=false) (e2:(t.x.toList == [104,97,115])=false) (e3:callX t.x=0) (e4:¬ (1≤tyX t.x∧tyX t.x≤4)) (e5:fieldX t.x≠0)
  (cE:d < 24→∀ v ts a c,Rdr v b G ts fa fe (d+1) a c→(∀ t ∈ ts,RgT t)→Calls zG 46 #[zP b] v (OutN b G fa fe (d+1) v (ex ts))) :
  Calls zG 184 #[zP b] w (OutN b G fa fe d w (.ok (.mk ⟨3,0,0,0,fieldX t.x,gE,t.p⟩ [],ts))):=by
 have hb0:=Bn w (.cells zA7 64)
 have h0:=h.on hb0
 have HBL:Hid (b < w§):=h.lt
 have HGL:Hid (G < w§):=h.gl
 have HTT:Hid (∀ x ∈ t :: ts,RgT x):=hT
 have X0:BX w b G fa fe d (w.alloc (.cells zA7 64)) [] (t :: ts):=⟨Mv.ofBelow hb0,Hn _ _,fun p hp=>by simp at hp,⟨a,c,h0⟩,hT⟩
 have X0:=X0.hid
 have cL:=look_ok h0
 clear h hb0 h0 hT
 have n3:(callX t.x != 0)=false:=by rw [e3]; rfl
 have n4:decide (1≤tyX t.x∧tyX t.x≤4)=false:=decide_eq_false e4
 have n5:(fieldX t.x != 0)=true:=bne_iff_ne.2 e5
 go_enter Tryz.func184,Tryz.ntmps184
 go_wp2_with fail
 refine cL.mono ?_
 rintro e w1 ⟨rfl,hb1⟩
 have X1:=(X0.out.on HBL.out hb1).on HBL.out (Bn w1 (.cells (zT t) 82))
 have HK1:Hid ((w1.alloc (.cells (zT t) 82)).heap[w1§]? = some (.cells (zT t) 82 (0,0))):=Hn _ _
 obtain⟨Tb,eTb⟩:∃ T,w1§=T:=⟨_,rfl⟩
 obtain⟨V1,eV1⟩:∃ V,w1.alloc (.cells (zT t) 82)=V:=⟨_,rfl⟩
 have HV1:Hid (w1.alloc (.cells (zT t) 82)=V1):=eV1
 have HTb:Hid (w§ < Tb):=by rw [← eTb]; exact Nat.lt_of_lt_of_le (Array.getElem?_eq_some_iff.1 X0.out.Z).1 hb1.size
 rw [eV1] at X1 HK1
 rw [eTb] at HK1
 have X1:=X1.hid
 obtain⟨t0,t1,t2,t3,t4⟩:=cl5 HK1.out
 have cx1:(w1.alloc (.cells (zT t) 82)).cell? ⟨Tb,1,none⟩=some (.string t.x):=by rw [eV1]; exact t1
 clear cL hb1 X0 eV1
 unfold tkA
 go_wp2_with fail
 try rw [HV1.out]
 clear HV1 cx1
 refine (callOf_any t _).mono ?_
 rintro e V2 ⟨rfl,hb2⟩
 have X2:=(X1.out.on HBL.out hb2).hid
 have HK2:Hid (V2.heap[Tb]? = some (.cells (zT t) 82 (0,0))):=(hb2.block _ (Array.getElem?_eq_some_iff.1 HK1.out).1).trans HK1.out
 clear t0 t1 t2 t3 t4 hb2
 obtain⟨t0,t1,t2,t3,t4⟩:=cl5 HK2.out
 go_wp2_with fail
 refine (typeOf_any t _).mono ?_
 rintro e V3 ⟨rfl,hb3⟩
 have X3:=(X2.out.on HBL.out hb3).hid
 have HK3:Hid (V3.heap[Tb]? = some (.cells (zT t) 82 (0,0))):=(hb3.block _ (Array.getElem?_eq_some_iff.1 HK2.out).1).trans HK2.out
 clear t0 t1 t2 t3 t4 hb3
 obtain⟨t0,t1,t2,t3,t4⟩:=cl5 HK3.out
 go_wp2_with fail
 refine (number_any (tyX t.x) _).mono ?_
 rintro e V9 ⟨rfl,hV9⟩
 rw [hV9]
 clear hV9
 go_wp2_with fail
 refine (fieldOf_any t _).mono ?_
 rintro e V4 ⟨rfl,hb4⟩
 have X4:=(X3.out.on HBL.out hb4).hid
 have HK4:Hid (V4.heap[Tb]? = some (.cells (zT t) 82 (0,0))):=(hb4.block _ (Array.getElem?_eq_some_iff.1 HK3.out).1).trans HK3.out
 clear t0 t1 t2 t3 t4 hb4
 obtain⟨t0,t1,t2,t3,t4⟩:=cl5 HK4.out
 go_wp2_with fail
 obtain⟨a9,c9,h9⟩:=X4.out.R
 refine (step_ok h9).mono ?_
 rintro e w2 ⟨rfl,hr2,hm2⟩
 have XS:=(X4.out.mv HBL.out hm2 hr2 (fun x hx=>List.mem_cons_of_mem _ hx)).hid
 have HKS:Hid (w2.heap[Tb]? = some (.cells (zT t) 82 (0,0))):=(hm2.block _ (Array.getElem?_eq_some_iff.1 HK4.out).1 (by have:=HBL.out; have:=HTb.out; omega)).trans HK4.out
 clear hm2 hr2 h9 t0 t1 t2 t3 t4
 have HKP:Hid (∀ v,MR w2 w§ v→v.cell? ⟨Tb,0,none⟩=some (zU t.k)∧v.cell? ⟨Tb,1,none⟩=some (.string t.x)∧v.cell? ⟨Tb,2,none⟩=some (zU t.ty)∧v.cell? ⟨Tb,3,none⟩=some (zI t.n)∧v.cell? ⟨Tb,4,none⟩=some (zI t.p)∧MR w2 w§ v):=fun v hv=>by
  have e1:=(hv.block _ (Array.getElem?_eq_some_iff.1 HKS.out).1 (by have:=HTb.out; omega)).trans HKS.out
  exact⟨Co e1 0,Co e1 1,Co e1 2,Co e1 3,Co e1 4,hv⟩
 have cY:∀ v,Calls zG 192 #[.agg (zT t)] v fun e w'=>e=.returned (zU (fieldX t.x))∧Below v§ v w':=fun v=>fieldOf_any t v
 go_upto_region 13 with fail
 refine wp_region_held_drew (S:=fun v=>MR w2 w§ v) zK (MR.drew2 (MR.refl _ _)) (fun hHeld=>?_)
 refine wpAnyH_take (i:=0) (v:=?_) rfl zK zK zK (fun _ _ _ h=>h) (Or.inl ⟨by rfl,?_⟩) (by assumption) ?_
 rotate_left
 ·(intro v hv; obtain⟨t0,t1,t2,t3,t4,_⟩:=HKP.out v hv; go_simp; try (with_reducible rfl))
 try simp [Act.put]
 refine wpAnyH_take (i:=2) (v:=?_) rfl zK zK zK (fun _ _ _ h=>h) (Or.inl ⟨by rfl,?_⟩) (by assumption) ?_
 rotate_left
 ·(intro v hv; obtain⟨t0,t1,t2,t3,t4,_⟩:=HKP.out v hv; go_simp; try (with_reducible rfl))
 try simp [Act.put]
 refine wpAnyH_take (i:=3) (v:=?_) rfl zK zK zK (fun _ _ _ h=>h) (Or.inl ⟨by rfl,?_⟩) (by assumption) ?_
 rotate_left
 ·(intro v hv; obtain⟨t0,t1,t2,t3,t4,_⟩:=HKP.out v hv; go_simp; try (with_reducible rfl))
 try simp [Act.put]
 refine wpAnyH_ready (rs:=[1]) zK (by simp) ?_
 refine AllReadyH.cons rfl (fun K hK=>?_) AllReadyH.nil
 go_simp
 go_at_call 192
 refine (cY _).mono ?_
 rintro e w6 ⟨rfl,hb6⟩
 have hg6:GB w2 w6:=GB.call (GB.drew2 (GB.refl _)) hb6
 have hm6:MR w2 w§ w6:=Mv.ofBelow hg6
 have X6:=(XS.out.on HBL.out hg6).hid
 refine hK.out _ _ hm6 (fun hHeld6=>?_)
 clear hK K
 try simp [Act.put]
 refine wpAnyH_take (i:=4) (v:=?_) rfl zK zK zK (fun _ _ _ h=>h) (Or.inl ⟨by rfl,?_⟩) (by assumption) ?_
 rotate_left
 ·(intro v hv; go_simp; try (with_reducible rfl))
 try simp [Act.put]
 obtain⟨hZ,Y,eY,hY1,hY2,hY3,hY4,hY5⟩:=X6.out.ret (k2:=3) (o2:=0) (ty2:=0) (n2:=0) (f2:=(fieldX t.x)) (x2:=gE) (p2:=t.p) (am2:=none) (cm2:=0) (ks2:=[]) HBL.out HGL.out (lies0 _ (rg_field (HTT.out t (by simp)))) (bkn0 _ _)
 obtain⟨z0,z1,z2,z3,z4,z5,z6,z7⟩:=cl8 hZ
 obtain⟨q0,q1,q2,q3,q4,q5,q6,q7⟩:=fz8 hZ
 have HEY:Hid (((((((((w6.setCell ⟨w§,0,none⟩ (zU 3)).setCell ⟨w§,1,none⟩ (zU 0)).setCell ⟨w§,2,none⟩ (zU 0)).setCell ⟨w§,3,none⟩ (zI 0)).setCell ⟨w§,4,none⟩ (zU (fieldX t.x))).setCell ⟨w§,5,none⟩ (.string ⟨#[]⟩)).setCell ⟨w§,6,none⟩ (.slice none 0 0)).setCell ⟨w§,7,none⟩ (zI t.p))=Y):=eY
 have HY1:Hid (Y.heap[w§]? = some (.cells (Nd.mk ⟨3,0,0,0,(fieldX t.x),gE,t.p⟩ none 0 []).vals 64 (0,0))):=hY1
 have HYY:Hid (_):=(⟨hY2,hY3,hY4,hY5⟩:_∧_∧_∧_)
 clear eY hY1 hY2 hY3 hY4 hY5
 refine wpAnyH_ready (rs:=[5]) zK (by simp) ?_
 refine AllReadyH.cons rfl (fun K hK=>?_) AllReadyH.nil
 go_simp
 refine hK.out _ _ (by (repeat (first | with_reducible assumption | with_reducible apply MR.set))) (fun hHeld7=>?_)
 clear hK K
 refine wpAnyH_done zK ?_ _
 rw [HEY.out]
 go_wp2_with fail
 exact bodyPost_ret (results_cell_row rfl _ _ w§ 64 (Nd.mk ⟨3,0,0,0,(fieldX t.x),gE,t.p⟩ none 0 []).vals (0,0) _ rfl HY1.out Tryz.underlying64 rfl zK) rfl ⟨⟨_,rfl,rfl,HYY.out.1,HYY.out.2.1⟩,HYY.out.2.2.1,HYY.out.2.2.2⟩
theorem one_name (ex:List Tk→Except Ft (Tr × List Tk)) (hS:Subs ex) {w:World}{b G:Nat}{t:Tk}{ts:List Tk}{fa:Int}{fe:Value}{d:Nat}{a:Option Addr}{c:Nat}(h:Rdr w b G (t :: ts) fa fe d a c) (hT:∀ x ∈ t :: ts,RgT x) (hd:d < 1000) (e1:(t.x.toList == [40])=false) (e2:(t.x.toList == [104,97,115])=false) (e3:callX t.x=0) (e4:¬ (1≤tyX t.x∧tyX t.x≤4)) (e5:fieldX t.x=0) (e6:t.k=2)
  (cE:d < 24→∀ v ts a c,Rdr v b G ts fa fe (d+1) a c→(∀ t ∈ ts,RgT t)→Calls zG 46 #[zP b] v (OutN b G fa fe (d+1) v (ex ts))) :
  Calls zG 184 #[zP b] w (OutN b G fa fe d w (.ok (.mk ⟨2,0,0,0,0,t.x,t.p⟩ [],ts))):=by
 have hb0:=Bn w (.cells zA7 64)
 have h0:=h.on hb0
 have HBL:Hid (b < w§):=h.lt
 have HGL:Hid (G < w§):=h.gl
 have HTT:Hid (∀ x ∈ t :: ts,RgT x):=hT
 have X0:BX w b G fa fe d (w.alloc (.cells zA7 64)) [] (t :: ts):=⟨Mv.ofBelow hb0,Hn _ _,fun p hp=>by simp at hp,⟨a,c,h0⟩,hT⟩
 have X0:=X0.hid
 have cL:=look_ok h0
 clear h hb0 h0 hT
 have n3:(callX t.x != 0)=false:=by rw [e3]; rfl
 have n4:decide (1≤tyX t.x∧tyX t.x≤4)=false:=decide_eq_false e4
 have n5:(fieldX t.x != 0)=false:=by rw [e5]; rfl
 have n6:(t.k == 2)=true:=by rw [e6]; rfl
 clear e6
 go_enter Tryz.func184,Tryz.ntmps184
 go_wp2_with fail
 refine cL.mono ?_
 rintro e w1 ⟨rfl,hb1⟩
 have X1:=(X0.out.on HBL.out hb1).on HBL.out (Bn w1 (.cells (zT t) 82))
 have HK1:Hid ((w1.alloc (.cells (zT t) 82)).heap[w1§]? = some (.cells (zT t) 82 (0,0))):=Hn _ _
 obtain⟨Tb,eTb⟩:∃ T,w1§=T:=⟨_,rfl⟩
 obtain⟨V1,eV1⟩:∃ V,w1.alloc (.cells (zT t) 82)=V:=⟨_,rfl⟩
 have HV1:Hid (w1.alloc (.cells (zT t) 82)=V1):=eV1
 have HTb:Hid (w§ < Tb):=by rw [← eTb]; exact Nat.lt_of_lt_of_le (Array.getElem?_eq_some_iff.1 X0.out.Z).1 hb1.size
 rw [eV1] at X1 HK1
 rw [eTb] at HK1
 have X1:=X1.hid
 obtain⟨t0,t1,t2,t3,t4⟩:=cl5 HK1.out
 have cx1:(w1.alloc (.cells (zT t) 82)).cell? ⟨Tb,1,none⟩=some (.string t.x):=by rw [eV1]; exact t1
 clear cL hb1 X0 eV1
 unfold tkA
 go_wp2_with fail
 try rw [HV1.out]
 clear HV1 cx1
 refine (callOf_any t _).mono ?_
 rintro e V2 ⟨rfl,hb2⟩
 have X2:=(X1.out.on HBL.out hb2).hid
 have HK2:Hid (V2.heap[Tb]? = some (.cells (zT t) 82 (0,0))):=(hb2.block _ (Array.getElem?_eq_some_iff.1 HK1.out).1).trans HK1.out
 clear t0 t1 t2 t3 t4 hb2
 obtain⟨t0,t1,t2,t3,t4⟩:=cl5 HK2.out
 go_wp2_with fail
 refine (typeOf_any t _).mono ?_
 rintro e V3 ⟨rfl,hb3⟩
 have X3:=(X2.out.on HBL.out hb3).hid
 have HK3:Hid (V3.heap[Tb]? = some (.cells (zT t) 82 (0,0))):=(hb3.block _ (Array.getElem?_eq_some_iff.1 HK2.out).1).trans HK2.out
 clear t0 t1 t2 t3 t4 hb3
 obtain⟨t0,t1,t2,t3,t4⟩:=cl5 HK3.out
 go_wp2_with fail
 refine (number_any (tyX t.x) _).mono ?_
 rintro e V9 ⟨rfl,hV9⟩
 rw [hV9]
 clear hV9
 go_wp2_with fail
 refine (fieldOf_any t _).mono ?_
 rintro e V4 ⟨rfl,hb4⟩
 have X4:=(X3.out.on HBL.out hb4).hid
 have HK4:Hid (V4.heap[Tb]? = some (.cells (zT t) 82 (0,0))):=(hb4.block _ (Array.getElem?_eq_some_iff.1 HK3.out).1).trans HK3.out
 clear t0 t1 t2 t3 t4 hb4
 obtain⟨t0,t1,t2,t3,t4⟩:=cl5 HK4.out
 go_wp2_with fail
 obtain⟨a9,c9,h9⟩:=X4.out.R
 refine (step_ok h9).mono ?_
 rintro e w2 ⟨rfl,hr2,hm2⟩
 have XS:=(X4.out.mv HBL.out hm2 hr2 (fun x hx=>List.mem_cons_of_mem _ hx)).hid
 have HKS:Hid (w2.heap[Tb]? = some (.cells (zT t) 82 (0,0))):=(hm2.block _ (Array.getElem?_eq_some_iff.1 HK4.out).1 (by have:=HBL.out; have:=HTb.out; omega)).trans HK4.out
 clear hm2 hr2 h9 t0 t1 t2 t3 t4
 obtain⟨t0,t1,t2,t3,t4⟩:=cl5 HKS.out
 obtain⟨hZ,Y,eY,hY1,hY2,hY3,hY4,hY5⟩:=XS.out.ret (k2:=2) (o2:=0) (ty2:=0) (n2:=0) (f2:=0) (x2:=t.x) (p2:=t.p) (am2:=none) (cm2:=0) (ks2:=[]) HBL.out HGL.out (lies0 _ (rg_name (HTT.out t (by simp)))) (bkn0 _ _)
 obtain⟨z0,z1,z2,z3,z4,z5,z6,z7⟩:=cl8 hZ
 obtain⟨q0,q1,q2,q3,q4,q5,q6,q7⟩:=fz8 hZ
 have HEY:Hid (((((((((w2.setCell ⟨w§,0,none⟩ (zU 2)).setCell ⟨w§,1,none⟩ (zU 0)).setCell ⟨w§,2,none⟩ (zU 0)).setCell ⟨w§,3,none⟩ (zI 0)).setCell ⟨w§,4,none⟩ (zU 0)).setCell ⟨w§,5,none⟩ (.string t.x)).setCell ⟨w§,6,none⟩ (.slice none 0 0)).setCell ⟨w§,7,none⟩ (zI t.p))=Y):=eY
 have HY1:Hid (Y.heap[w§]? = some (.cells (Nd.mk ⟨2,0,0,0,0,t.x,t.p⟩ none 0 []).vals 64 (0,0))):=hY1
 have HYY:Hid (_):=(⟨hY2,hY3,hY4,hY5⟩:_∧_∧_∧_)
 clear eY hY1 hY2 hY3 hY4 hY5
 go_wp2_with fail
 rw [HEY.out]
 exact bodyPost_ret (results_cell_row rfl _ _ w§ 64 (Nd.mk ⟨2,0,0,0,0,t.x,t.p⟩ none 0 []).vals (0,0) _ rfl HY1.out Tryz.underlying64 rfl zK) rfl ⟨⟨_,rfl,rfl,HYY.out.1,HYY.out.2.1⟩,HYY.out.2.2.1,HYY.out.2.2.2⟩
theorem gOne_s (ex:List Tk→Except Ft (Tr × List Tk)) (d:Nat) (t:Tk) (ts:List Tk):gOne ex d (t :: ts) =
  if (t.x.toList == [40])=true then gBrk ex d (t :: ts)
  else if (t.x.toList == [104,97,115])=true then gHas (t :: ts)
  else if callX t.x≠0 then gCall ex d (t :: ts)
  else if 1≤tyX t.x∧tyX t.x≤4 then gConv ex d (t :: ts)
  else if fieldX t.x≠0 then .ok (.mk ⟨3,0,0,0,fieldX t.x,gE,t.p⟩ [],ts)
  else if t.k=2 then .ok (.mk ⟨2,0,0,0,0,t.x,t.p⟩ [],ts)
  else gLit (t :: ts):=by
 have hh:∀ (e:Ft),(Except.error e:Except Ft (Tr × List Tk))=.error e:=fun _=>rfl
 unfold gOne
 simp only [gLook,bind,Except.bind,eqX]
 by_cases h1:(t.x.toList == [40])=true
 ·simp only [h1,if_true]
  unfold gBrk gIn
  cases gOpn d (t :: ts) with
  | error e=>rfl
  | ok q =>
   simp only [bind,Except.bind]
 simp only [h1]
 by_cases h2:(t.x.toList == [104,97,115])=true
 ·simp only [h2,if_true]
  unfold gHas
  simp only [bind,Except.bind]
  rfl
 simp only [h2]
 by_cases h3:callX t.x≠0
 ·rw [if_pos h3]
  simp only [Bool.false_eq_true,if_false]
  rw [if_pos h3]
  unfold gCall gCallM gIn
  cases h4:gOpn d (t :: ts) with
  | error e=>rfl
  | ok q =>
   obtain⟨u,r⟩:=q
   obtain⟨rfl,rfl⟩:t=u∧ts=r:=by have:=gOpn_mem h4; cases this; exact⟨rfl,rfl⟩
   simp only
   cases gTake (gB [40]) ts with
   | error e=>rfl
   | ok q =>
    simp only
    by_cases h5:callX t.x=3
    ·simp only [h5,if_true,bind,Except.bind]
     cases ex q.2 with
     | error e=>rfl
     | ok q =>
      simp only
      cases gTake (gB [41]) q.2 with
      | error e=>rfl
      | ok q=>rfl
    ·simp only [if_neg h5,bind,Except.bind]
     cases ex q.2 with
     | error e=>rfl
     | ok q =>
      simp only
      cases gTake (gB [44]) q.2 with
      | error e=>rfl
      | ok q =>
       simp only
       cases ex q.2 with
       | error e=>rfl
       | ok q =>
        simp only
        cases gTake (gB [41]) q.2 with
        | error e=>rfl
        | ok q=>rfl
 simp only [Bool.false_eq_true,if_false,if_neg h3]
 by_cases h4:1≤tyX t.x∧tyX t.x≤4
 ·rw [if_pos h4,if_pos h4]
  unfold gConv gIn
  cases h5:gOpn d (t :: ts) with
  | error e=>rfl
  | ok q =>
   obtain⟨u,r⟩:=q
   obtain⟨rfl,rfl⟩:t=u∧ts=r:=by have:=gOpn_mem h5; cases this; exact⟨rfl,rfl⟩
   simp only
   cases gTake (gB [40]) ts with
   | error e=>rfl
   | ok q =>
    simp only [bind,Except.bind]
    cases ex q.2 with
    | error e=>rfl
    | ok q =>
     simp only
     cases gTake (gB [41]) q.2 with
     | error e=>rfl
     | ok q=>rfl
 rw [if_neg h4,if_neg h4]
 by_cases h5:fieldX t.x≠0
 ·rw [if_pos h5,if_pos h5]; rfl
 rw [if_neg h5,if_neg h5]
 by_cases h6:t.k=2
 ·rw [if_pos h6,if_pos h6]; rfl
 rw [if_neg h6,if_neg h6]
theorem one_any (ex:List Tk→Except Ft (Tr × List Tk)) (hS:Subs ex) {w:World}{b G:Nat}{ts:List Tk}{fa:Int}{fe:Value}{d:Nat}{a:Option Addr}{c:Nat}(h:Rdr w b G ts fa fe d a c) (hT:∀ x ∈ ts,RgT x) (hd:d < 1000)
  (cE:d < 24→∀ v ts a c,Rdr v b G ts fa fe (d+1) a c→(∀ t ∈ ts,RgT t)→Calls zG 46 #[zP b] v (OutN b G fa fe (d+1) v (ex ts))) :
  Calls zG 184 #[zP b] w (OutN b G fa fe d w (gOne ex d ts)):=by
 cases ts with
 | nil =>
  have hb0:=Bn w (.cells zA7 64)
  have cL:=look_no (h.on hb0)
  have HB0:=zH hb0
  have eG:gOne ex d []=.error .lex:=by simp [gOne,gLook,bind,Except.bind]
  rw [eG]
  clear cE h hb0 eG
  go_enter Tryz.func184,Tryz.ntmps184
  go_wp2_with fail
  refine cL.mono ?_
  rintro e w1 ⟨rfl,hb⟩
  exact⟨rfl,rfl,Mv.ofBelow (B2 HB0.out hb)⟩
 | cons t ts =>
  rw [gOne_s]
  by_cases h1:(t.x.toList == [40])=true
  ·rw [if_pos h1]; exact one_brk ex hS h hT hd h1 cE
  rw [if_neg h1]
  have h1:(t.x.toList == [40])=false:=by simpa using h1
  by_cases h2:(t.x.toList == [104,97,115])=true
  ·rw [if_pos h2]; exact one_has ex hS h hT hd h1 h2 cE
  rw [if_neg h2]
  have h2:(t.x.toList == [104,97,115])=false:=by simpa using h2
  by_cases h3:callX t.x≠0
  ·rw [if_pos h3]; exact one_call ex hS h hT hd h1 h2 h3 cE
  rw [if_neg h3]
  have h3:callX t.x=0:=Classical.not_not.1 h3
  by_cases h4:1≤tyX t.x∧tyX t.x≤4
  ·rw [if_pos h4]; exact one_conv ex hS h hT hd h1 h2 h3 h4 cE
  rw [if_neg h4]
  by_cases h5:fieldX t.x≠0
  ·rw [if_pos h5]; exact one_field ex hS h hT hd h1 h2 h3 h4 h5 cE
  rw [if_neg h5]
  have h5:fieldX t.x=0:=Classical.not_not.1 h5
  by_cases h6:t.k=2
  ·rw [if_pos h6]; exact one_name ex hS h hT hd h1 h2 h3 h4 h5 h6 cE
  rw [if_neg h6]
  exact one_lit ex hS h hT hd h1 h2 h3 h4 h5 h6 cE
theorem ex_all (b G:Nat) (fa:Int) (fe:Value):∀ (f d:Nat),25≤f+d→d < 1000 →
  (∀ v ts a c,Rdr v b G ts fa fe d a c→(∀ t ∈ ts,RgT t)→Calls zG 180 #[zP b] v (OutN b G fa fe d v (unF (f+1) d ts))) ∧
  (∀ v ts a c,Rdr v b G ts fa fe d a c→(∀ t ∈ ts,RgT t)→Calls zG 46 #[zP b] v (OutN b G fa fe d v (exF (f+1) d ts))):=by
 intro f
 induction f with
 | zero =>
  intro d h1 h2
  have s:=exF_sub 0 (d+1)
  exact ex_step (exF 0 (d+1)) (unF 0 (d+1)) s.1 s.2 h2 (fun v ts a c h hT=>one_any _ s.1 h hT h2 (fun h24=>by omega)) (fun h24=>by omega) (fun h24=>by omega)
 | succ f ih =>
  intro d h1 h2
  have s:=exF_sub (f+1) (d+1)
  have cE:d < 24→∀ v ts a c,Rdr v b G ts fa fe (d+1) a c→(∀ t ∈ ts,RgT t)→Calls zG 46 #[zP b] v (OutN b G fa fe (d+1) v (exF (f+1) (d+1) ts)):=fun h24=>(ih (d+1) (by omega) (by omega)).2
  have cU:d < 24→∀ v ts a c,Rdr v b G ts fa fe (d+1) a c→(∀ t ∈ ts,RgT t)→Calls zG 180 #[zP b] v (OutN b G fa fe (d+1) v (unF (f+1) (d+1) ts)):=fun h24=>(ih (d+1) (by omega) (by omega)).1
  exact ex_step (exF (f+1) (d+1)) (unF (f+1) (d+1)) s.1 s.2 h2 (fun v ts a c h hT=>one_any _ s.1 h hT h2 cE) cU cE
theorem exprT_any {w:World}{b G:Nat}{ts:List Tk}{fa:Int}{fe:Value}{a:Option Addr}{c:Nat}(h:Rdr w b G ts fa fe 0 a c) (hT:∀ t ∈ ts,RgT t):Calls zG 46 #[zP b] w (OutN b G fa fe 0 w (exprT ts)) :=
 (ex_all b G fa fe 25 0 (by omega) (by omega)).2 w ts a c h hT
def rdT (s:ByteArray):List Tk:=if tksE s=0 then tksL s else allL s
def FeAt (w:World) (s:ByteArray) (fa:Int) (fe:Value):Prop :=
 (tksE s=0→fa=0∧fe=.nilIface) ∧
 (tksE s≠0→fa=tksB s∧∃ F,fe=.iface 74 (zP F)∧w.heap[F]? = some (.cells #[.string Z06,zI (tksB s),.iface 48 (zI (tksE s))] 76 (0,0)))
theorem FeAt.on {w w':World}{s:ByteArray}{fa:Int}{fe:Value}(h:FeAt w s fa fe) (k:∀ b,b < w§→(∀ F,fe=.iface 74 (zP F)→b=F→w'.heap[b]? = w.heap[b]?)):FeAt w' s fa fe :=
 ⟨h.1,fun e=>⟨(h.2 e).1,by
  obtain⟨F,h1,h2⟩:=(h.2 e).2
  exact⟨F,h1,(k F (Array.getElem?_eq_some_iff.1 h2).1 F h1 rfl).trans h2⟩⟩⟩
theorem tkF_c (A:Nat→Tk) (i:Nat):tkF A (i * 5)=zU (A i).k∧tkF A (i * 5+1)=.string (A i).x∧tkF A (i * 5+2)=zU (A i).ty∧tkF A (i * 5+3)=zI (A i).n∧tkF A (i * 5+4)=zI (A i).p:=by
 unfold tkF
 rw [show i * 5 / 5=i by omega,show i * 5 % 5=0 by omega,show (i * 5+1) / 5=i by omega,show (i * 5+1) % 5=1 by omega,show (i * 5+2) / 5=i by omega,show (i * 5+2) % 5=2 by omega,show (i * 5+3) / 5=i by omega,show (i * 5+3) % 5=3 by omega,show (i * 5+4) / 5=i by omega,show (i * 5+4) % 5=4 by omega]
 exact⟨rfl,rfl,rfl,rfl,rfl⟩
theorem lsF_nth {L:List Tk}{i:Nat}(h:i < L.length):lsF L i=L[i]:=by
 unfold lsF
 rw [List.getD_eq_getElem?_getD,List.getElem?_eq_getElem h]; rfl
theorem rl_rdr {w Y:World}{v:Value}{L:List Tk}{b:Nat}{fa:Int}{fe:Value}(h:RL w Y v L) (hv:∀ k,v.ownBlock=some k→k≠b) (hb0:0 < b) (hl:L.length≤9223372036854775807) (hb:Y.heap[b]? = some (.cells #[v,zI fa,fe,zI 0] 207 (0,0))) :
  ∃ G a c,Rdr Y b G L fa fe 0 a c∧(G=0∨w§≤G):=by
 have hbl:=(Array.getElem?_eq_some_iff.1 hb).1
 have hrow:=h.row
 rcases h.row.2 with ⟨rfl,e⟩ | ⟨g,cap,cur,rfl,_,_,hc1,hc2,_⟩
 ·have e':L = []:=List.length_eq_zero_iff.1 e
  subst e'
  exact⟨0,none,0,⟨hb,by simp,by simp,by simp,by omega,by omega,fun i hi=>by simp at hi⟩,.inl rfl⟩
 ·have hg:(Value.slice (some ⟨g,0,none⟩) L.length cap).ownBlock=some g:=rfl
  refine⟨g,some ⟨g,0,none⟩,cap,⟨hb,hc1,hc2,by simp,hv g hg,hrow.lt g hg,fun i hi=>⟨0,rfl,?_⟩⟩,.inr (h.nb g hg)⟩
  obtain⟨e0,e1,e2,e3,e4⟩:=tkF_c (lsF L) i
  rw [lsF_nth hi] at e0 e1 e2 e3 e4
  rw [Nat.zero_add]
  exact⟨by rw [Row.cell hrow (by omega),e0],by rw [Row.cell hrow (by omega),e1],by rw [Row.cell hrow (by omega),e2],by rw [Row.cell hrow (by omega),e3],by rw [Row.cell hrow (by omega),e4]⟩
theorem tksL_len (s:ByteArray):(tksL s).length≤4098:=by
 by_cases h:tksE s=0
 ·have:=(tks_len h).2.1; omega
 ·unfold tksL; rw [if_neg h]; simp
theorem allL_len2 (s:ByteArray):(allL s).length≤4096:=by
 by_cases h:s.size > 4096
 ·unfold allL; rw [if_pos h]; simp
 ·have:=allL_len s; omega
theorem new_any (s:ByteArray) (hs:s.size≤4194304) (w:World) (ht:Tab w) :
  Calls zG 62 #[.string s] w fun e w'=>∃ b G a c fa fe,e=.returned (zP b)∧Rdr w' b G (rdT s) fa fe 0 a c∧(G=0∨w§≤G)∧w§≤b∧FeAt w' s fa fe∧(∀ F,fe=.iface 74 (zP F)→F≠b)∧Below w§ w w':=by
 have cT:=tokensp_any s w ht
 have hpos:=ht.pos
 by_cases h0:tksE s=0
 ·have HF:Hid (∀ w',FeAt w' s 0 .nilIface):=fun w'=>⟨fun _=>⟨rfl,rfl⟩,fun e=>absurd h0 e⟩
  have HR:Hid (rdT s=tksL s):=by show _=_; unfold rdT; rw [if_pos h0]
  have HLn:Hid ((tksL s).length≤9223372036854775807):=by have:=tksL_len s; show _≤_; omega
  rw [h0] at cT
  clear h0
  go_enter Tryz.func62,Tryz.ntmps62
  go_wp2_with fail
  refine cT.mono ?_
  rintro e w1 ⟨v,rfl,hr⟩
  obtain⟨ao,cap,rfl⟩:=hr.sl
  have HRL:=hr.hid
  clear cT hr
  go_wp2_with fail
  go_ret
  have hbn:=Bn w1 (.cells #[.slice ao (tksL s).length cap,zI 0,.nilIface,zI 0] 207)
  have h1:w§≤w1§:=HRL.out.B.size
  obtain⟨G,a,c,h2,h3⟩:=rl_rdr (HRL.out.call hbn) (b:=w1§) (fun k hk e=>by have:=HRL.out.row.lt k hk; omega) (by omega) HLn.out (Hn _ _)
  exact⟨_,G,a,c,0,.nilIface,rfl,by rw [HR.out]; exact h2,h3,h1,HF.out _,(fun F e=>by cases e),B2 HRL.out.B hbn⟩
 ·have HF:Hid (∀ w' F,w'.heap[F]? = some (.cells #[.string Z06,zI (tksB s),.iface 48 (zI (tksE s))] 76 (0,0))→FeAt w' s (tksB s) (.iface 74 (zP F))):=fun w' F h=>⟨fun e=>absurd e h0,fun _=>⟨rfl,F,rfl,h⟩⟩
  have HR:Hid (rdT s=allL s):=by show _=_; unfold rdT; rw [if_neg h0]
  have HLn:Hid ((allL s).length≤9223372036854775807):=by have:=allL_len2 s; show _≤_; omega
  have hne:(tksE s == 0)=false:=beq_false_of_ne h0
  have cA:=fun v=>all_any s v
  obtain⟨E,eE⟩:∃ E,tksE s=E:=⟨_,rfl⟩
  obtain⟨B,eB⟩:∃ B,tksB s=B:=⟨_,rfl⟩
  rw [eE] at cT hne HF
  rw [eB] at cT HF
  clear h0 eE eB
  go_enter Tryz.func62,Tryz.ntmps62
  go_wp2_with fail
  refine cT.mono ?_
  rintro e w1 ⟨v,rfl,hr⟩
  obtain⟨ao,cap,rfl⟩:=hr.sl
  have HB1:=hd hr.B
  clear cT hr
  go_wp2_with fail
  refine (cA _).mono ?_
  rintro e w2 ⟨rfl,e2⟩
  have hb2:Below w1§ w1 w2:=by rw [e2]; exact Bn _ _
  have hx2:Boxed w2 w1§ 9 (.string s):=by rw [e2]; exact Boxed.new w1 9 _
  have HB2:=hd (B2 HB1.out hb2)
  have cC:=collect_any s hs w1§ w2 (ht.on HB2.out) hx2
  clear e2 hb2 hx2 cA
  go_wp2_with fail
  refine cC.mono ?_
  rintro e w3 ⟨v3,rfl,hr3⟩
  obtain⟨ao3,cap3,rfl⟩:=hr3.sl
  have HR3:=hr3.hid
  have HB3:=hd (B2 HB2.out hr3.B)
  clear cC hr3
  obtain⟨V4,eV4⟩:∃ V,w3.alloc (.cells #[.string Z06,zI B,.iface 48 (zI E)] 76)=V:=⟨_,rfl⟩
  have b4:Below w3§ w3 V4:=by rw [← eV4]; exact Bn _ _
  have HF4:Hid (V4.heap[w3§]? = some (.cells #[.string Z06,zI B,.iface 48 (zI E)] 76 (0,0))):=by rw [← eV4]; exact Hn _ _
  have s4:Hid (V4§=w3§+1):=by rw [← eV4]; exact Sa _ _
  have HR4:=(HR3.out.call b4).hid
  have HB4:=hd (B2 HB3.out b4)
  have HEV:=hd eV4
  clear eV4 b4
  go_wp2_with fail
  go_ret
  have hbn:=Bn V4 (.cells #[.slice ao3 (allL s).length cap3,zI B,.iface 74 (zP w3§),zI 0] 207)
  have h1:=HB4.out.size
  have h2s:=s4.out
  obtain⟨G,a,c,h2,h3⟩:=rl_rdr (HR4.out.call hbn) (b:=V4§) (fun k hk e=>by have:=HR4.out.row.lt k hk; omega) (by omega) HLn.out (Hn _ _)
  refine⟨V4§,G,a,c,B,_,?_,by rw [HR.out]; first | exact h2 | (rw [HEV.out]; exact h2),?_,h1,?_,?_,?_⟩
  ·first | rfl | (rw [← HEV.out]; simp)
  ·rcases h3 with h3 | h3
   ·exact .inl h3
   ·exact .inr (Nat.le_trans HB2.out.size h3)
  ·refine HF.out _ _ ?_
   rw [HEV.out]
   exact (hbn.block _ (by omega)).trans HF4.out
  ·intro F e; cases e; omega
  ·rw [HEV.out]; exact B2 HB4.out hbn
end Go.Proofs.YtkfabnchhjfjjaaGreatDoor
