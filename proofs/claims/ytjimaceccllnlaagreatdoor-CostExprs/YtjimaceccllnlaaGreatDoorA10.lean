import Derived.Test.YtjimaceccllnlaaGreatDoorA0
import Derived.Test.YtjimaceccllnlaaGreatDoorA9
namespace Go.Proofs.YtjimaceccllnlaaGreatDoor
set_option maxRecDepth 100000
set_option maxHeartbeats 4000000
open Go.RowKit
set_option linter.unusedVariables false
theorem gTake_s (x:ByteArray) (t:Tk) (ts:List Tk):gTake x (t :: ts)=if t.x=x then .ok (t,ts) else .error (.tok 130 t.p):=by
 by_cases e:t.x=x
 ·simp [gTake,gIs,gLook,gNeed,gStep,bind,Except.bind,Except.map,e]
 ·simp [gTake,gIs,gLook,gNeed,bind,Except.bind,Except.map,e]
theorem take_err {x:ByteArray}{ts:List Tk}{f:Ft}(h:gTake x ts=.error f):dTake x (nf ts)=.error f:=by
 cases ts with
 | nil=>cases h; rfl
 | cons t ts =>
  rw [gTake_s] at h
  simp only [nf,dTake]
  by_cases e:t.x=x
  ·rw [if_pos e] at h; cases h
  ·rw [if_neg e] at h ⊢; cases h; rfl
theorem take_ok {x:ByteArray}{ts:List Tk}{q:Tk × List Tk}(h:gTake x ts=.ok q):dTake x (nf ts)=nf q.2:=by
 cases ts with
 | nil=>cases h
 | cons t ts =>
  rw [gTake_s] at h
  simp only [nf,dTake]
  by_cases e:t.x=x
  ·rw [if_pos e] at h ⊢; cases h; rfl
  ·rw [if_neg e] at h; cases h
def gC1 (ex:List Tk→Except Ft (Tr × List Tk)) (h:Hd) (ts:List Tk):Except Ft (Tr × List Tk):=do
 let (_,r) ← gTake Zi ts
 let (k,r) ← ex r
 let (_,r) ← gTake Zt r
 .ok (.mk h [k],r)
def gC2 (ex:List Tk→Except Ft (Tr × List Tk)) (h:Hd) (ts:List Tk):Except Ft (Tr × List Tk):=do
 let (_,r) ← gTake Zi ts
 let (j,r) ← ex r
 let (_,r) ← gTake Zn r
 let (k,r) ← ex r
 let (_,r) ← gTake Zt r
 .ok (.mk h [j,k],r)
theorem gC1_st (ex:List Tk→Except Ft (Tr × List Tk)) (hE:ex []=.error .lex) (h:Hd) (ts:List Tk) {k:Tr}(hk:∀ q,rd ex (dTake Zi (nf ts))=.ok q→k=q.1) :
  stOf (gC1 ex h ts)=dTake Zt (stOf (rd ex (dTake Zi (nf ts))))∧∀ q,gC1 ex h ts=.ok q→Tr.mk h [k]=q.1:=by
 unfold gC1
 cases h1:gTake Zi ts with
 | error f=>rw [take_err h1]; exact⟨rfl,fun q e=>by cases e⟩
 | ok q1 =>
  rw [take_ok h1,rd_nf hE] at *
  cases h2:ex q1.2 with
  | error f=>simp only [bind,Except.bind,h2]; exact⟨rfl,fun q e=>by cases e⟩
  | ok q2 =>
   have e:=hk q2 h2
   subst e
   simp only [bind,Except.bind,h2]
   have e4:stOf (Except.ok q2:Except Ft (Tr × List Tk))=nf q2.2:=rfl
   rw [e4]
   cases h3:gTake Zt q2.2 with
   | error f=>rw [take_err h3]; exact⟨rfl,fun q e=>by cases e⟩
   | ok q3=>rw [take_ok h3]; exact⟨rfl,fun q e=>by cases e; rfl⟩
theorem gC2_st (ex:List Tk→Except Ft (Tr × List Tk)) (hE:ex []=.error .lex) (h:Hd) (ts:List Tk) {j k:Tr}(hj:∀ q,rd ex (dTake Zi (nf ts))=.ok q→j=q.1) (hk:∀ q,rd ex (dTake Zn (stOf (rd ex (dTake Zi (nf ts)))))=.ok q→k=q.1) :
  stOf (gC2 ex h ts)=dTake Zt (stOf (rd ex (dTake Zn (stOf (rd ex (dTake Zi (nf ts)))))))∧∀ q,gC2 ex h ts=.ok q→Tr.mk h [j,k]=q.1:=by
 unfold gC2
 cases h1:gTake Zi ts with
 | error f=>rw [take_err h1]; exact⟨rfl,fun q e=>by cases e⟩
 | ok q1 =>
  rw [take_ok h1,rd_nf hE] at *
  cases h2:ex q1.2 with
  | error f=>simp only [bind,Except.bind,h2]; exact⟨rfl,fun q e=>by cases e⟩
  | ok q2 =>
   have e:=hj q2 h2
   subst e
   rw [h2] at hk
   simp only [bind,Except.bind,h2]
   have e4:stOf (Except.ok q2:Except Ft (Tr × List Tk))=nf q2.2:=rfl
   rw [e4] at hk ⊢
   cases h3:gTake Zn q2.2 with
   | error f=>rw [take_err h3]; exact⟨rfl,fun q e=>by cases e⟩
   | ok q3 =>
    rw [take_ok h3,rd_nf hE] at *
    cases h5:ex q3.2 with
    | error f=>simp only [h5]; exact⟨rfl,fun q e=>by cases e⟩
    | ok q5 =>
     have e:=hk q5 h5
     subst e
     simp only [h5]
     have e6:stOf (Except.ok q5:Except Ft (Tr × List Tk))=nf q5.2:=rfl
     rw [e6]
     cases h6:gTake Zt q5.2 with
     | error f=>rw [take_err h6]; exact⟨rfl,fun q e=>by cases e⟩
     | ok q7=>rw [take_ok h6]; exact⟨rfl,fun q e=>by cases e; rfl⟩
theorem QX.new2 {w:World}{b:Nat}{K:PK}{s:St}(x:Sp w b K s) (h:Hd):QX w b K (w§+1) ((w.alloc (.cells zNd h none 0 0 28)).alloc (.cells zA9 28)) w§ (.slice none 0 0) [] h s:=by
 have hb:=Bn w (.cells zNd h none 0 0 28)
 have hs:=Sa w (.cells zNd h none 0 0 28)
 have hn:=Hn w (.cells zNd h none 0 0 28)
 obtain⟨V,eV⟩:∃ V,w.alloc (.cells zNd h none 0 0 28)=V:=⟨_,rfl⟩
 rw [eV] at hb hs hn ⊢
 have hb2:=Bn V (.cells zA9 28)
 have hn2:=Hn V (.cells zA9 28)
 rw [hs] at hn2
 exact⟨⟨Mv.ofBelow (below2 hb hb2),hn2,(x.on hb).on hb2,x.lw,by omega⟩,(hb2.block _ (by omega)).trans hn,Nat.le_refl _,by omega,Row.nil _ _ _ _,fun k h=>by simp [Value.ownBlock] at h,fun m hm=>by simp at hm⟩
theorem call1_d (ex:List Tk→Except Ft (Tr × List Tk)) (hE:ex []=.error .lex) {K:PK}(hK:KOk K) {b:Nat}{d:Nat}(hd:d≤24) (cE:d < 24→∀ (w:World) (st:St),Sp w b K st→Calls zG 54 #[zP b,zI ((d:Int)+1)] w (OutD b K w (rd ex st))) {w:World}{t:Tk}{ts:List Tk}(h:Lv w b K (t :: ts)) {k o ty:Int}(hr:Rg ⟨k,o,ty,0,0,gE,t.p⟩) :
  Calls zG 217 #[.pointer (some ⟨b, 0, none⟩), .agg #[zU k, zU o, zU ty, zI 0, zU 0, .string ⟨#[]⟩, .slice none 0 0, zI t.p], zI 1, zI d] w (OutD b K w (if d < 24 then gC1 ex ⟨k, o, ty, 0, 0, gE, t.p⟩ ts else .error (.tok 132 t.p))) := by
 have HQ0:=(QX.new2 (show Sp w b K (.ok (t :: ts)) from ⟨by simp,h⟩) ⟨k,o,ty,0,0,gE,t.p⟩).hid
 unfold gE at HQ0
 dsimp only at HQ0
 have HE:Hid (ex []=.error .lex):=hE
 have HK:Hid (KOk K):=hK
 have HX:=zH cE
 have HRG:=zH hr
 obtain⟨W0,eW0⟩:∃ W,(w.alloc (.cells #[zU k,zU o,zU ty,zI 0,zU 0,.string ⟨#[]⟩,.slice none 0 0,zI t.p] 28)).alloc (.cells zA9 28)=W:=⟨_,rfl⟩
 rw [eW0] at HQ0
 clear h hE hK cE hr
 by_cases hdd:d < 24
 rotate_left
 ·rw [if_neg hdd]
  have cD:=deeper_no HQ0.out.X.S.2 d hdd (by omega)
  clear hdd
  go_enter Tryz.func217,Tryz.ntmps217
  go_wp2_with fail
  try rw [eW0]
  refine cD.mono ?_
  rintro e w3 ⟨rfl,hs,hm⟩
  have HZ3:=(HQ0.out.X.mv (s':=.error (.tok 132 t.p)) hm hs).hid
  clear cD hs hm HQ0
  obtain⟨z0,z1,z2,z3,z4,z5,z6,z7⟩:=cl8 HZ3.out.Z
  obtain⟨q0,q1,q2,q3,q4,q5,q6,q7⟩:=fz8 HZ3.out.Z
  obtain⟨Y,eY,hY1,hY2,hY3,hY4,hY5⟩:=HZ3.out.finz
  have HEY:Hid (_=Y):=eY
  have HY1:=zH hY1
  have HYY:Hid (Lies Y nd0∧Bkn (fun k=>w§≤k∧k < Y§) nd0∧Sp Y b K (.error (.tok 132 t.p))∧Mv w Y (fun k=>k=b)):=⟨hY2,hY3,hY4,hY5⟩
  clear eY hY1 hY2 hY3 hY4 hY5
  go_wp2_with fail
  rw [HEY.out]
  refine bodyPost_ret (results_cell_row rfl _ _ (w§+1) 28 nd0.vals (0,0) _ rfl HY1.out Tryz.underlying28 rfl zK) rfl ⟨_,rfl,HYY.out.1,HYY.out.2.1,?_,HYY.out.2.2.2,?_⟩
  ·exact HYY.out.2.2.1
  ·exact fun q e=>by cases e
 rw [if_pos hdd]
 have cD:=deeper_ok HQ0.out.X.S.2 d hdd
 have hmd:(d:Int)+1≤9223372036854775807:=by omega
 have HX1:=zH (HX.out hdd)
 obtain⟨r0,er0⟩:∃ r,gC1 ex ⟨k,o,ty,0,0,gE,t.p⟩ ts=r:=⟨_,rfl⟩
 have HR0:=zH er0
 rw [er0]
 clear HX hdd er0
 go_enter Tryz.func217,Tryz.ntmps217
 go_wp2_with fail
 try rw [eW0]
 refine cD.mono ?_
 rintro e w1 ⟨rfl,e9⟩
 obtain rfl:=e9.symm
 clear cD e9
 obtain⟨i,c3,f3,hmx,hL,hM,_,_⟩:=HQ0.out.X.S.2.at'
 obtain⟨V,eV⟩:∃ V,W0.setCell ⟨b,3,none⟩ (zI ((i:Int)+1))=V:=⟨_,rfl⟩
 rw [eV] at hL hM
 have HQ1:=(HQ0.out.mv hM hL.sp).hid
 have cT:=take_s HK.out HQ1.out.X.S Zi (.inr (by simp [kwM])) (by decide)
 clear hL hM HQ0
 go_wp2_with fail
 try rw [eV]
 clear eV c3 f3 hmx
 refine cT.mono ?_
 rintro e w2 ⟨⟨pp,rfl⟩,hs,hm⟩
 have HQA:=(HQ1.out.mv hm hs).hid
 clear cT hs hm HQ1
 go_wp2_with fail
 refine wp_loop_rounds 2 ?_
 rw [rounds_succ]
 have cQ:=HX1.out w2 (dTake Zi (nf ts)) HQA.out.X.S
 go_wp2_with fail
 refine cQ.mono ?_
 rintro e u0 ⟨⟨⟨k3,o3,ty3,n3,f3,x3,p3⟩,am3,cm3,ks3⟩,rfl,hl,hk,hs,hm,ht⟩
 simp only [Nd.vals,Nd.h,Nd.a,Nd.c,Nd.ks,hdA]
 have HQB0:=(HQA.out.mv hm hs).hid
 have HT0:=zH ht
 have hNV:w§ < w2§:=(Array.getElem?_eq_some_iff.1 HQA.out.N).1
 have hRV:w§+1 < w2§:=(Array.getElem?_eq_some_iff.1 HQA.out.X.Z).1
 have hb6:=Bn u0 (.cells (zN k3 o3 ty3 n3 f3 x3 am3 ks3 cm3 p3) 28)
 have hX:=Hn u0 (.cells (zN k3 o3 ty3 n3 f3 x3 am3 ks3 cm3 p3) 28)
 have hs6:=Sa u0 (.cells (zN k3 o3 ty3 n3 f3 x3 am3 ks3 cm3 p3) 28)
 have HQC0:=(HQB0.out.on hb6).hid
 have HL0:=(hl.on hb6).hid
 obtain⟨X0,eX0⟩:∃ W,u0.alloc (.cells (zN k3 o3 ty3 n3 f3 x3 am3 ks3 cm3 p3) 28)=W:=⟨_,rfl⟩
 rw [eX0] at hX hs6 HQC0 HL0
 have HK0:Hid (Bkn (fun k=>w§≤k∧k < X0§∧k≠w§∧k≠w§+1∧(Value.slice none 0 0).ownBlock≠some k) (Nd.mk ⟨k3,o3,ty3,n3,f3,x3,p3⟩ am3 cm3 ks3)):=hk.mono fun j hj=>⟨by omega,by omega,by omega,by omega,by simp [Value.ownBlock]⟩
 obtain⟨x0',x1',x2',x3',x4',x5',x6',x7'⟩:=cl8 hX
 have c6:X0.cell? ⟨w§,6,none⟩=some (.slice none 0 0):=Co HQC0.out.N 6
 clear cQ hl hk hs hm ht hNV hRV hX hs6 hb6 HQA HQB0
 go_upto_region 12 with fail
 try rw [eX0]
 clear eX0
 go_upto_region 8 with (at_builtin; refine list_rowN rfl (.tmp 41) (.tmp 43) rfl (Nd.mk ⟨k3,o3,ty3,n3,f3,x3,p3⟩ am3 cm3 ks3) HQC0.out.row rfl rfl (by show 0≤1000000000; omega) 1 rfl ?_; intro g0 cap0 y0 hr8 h83 h84; obtain⟨e8,q8⟩:=HQC0.out.appN (n:=1) (M:=[(Nd.mk ⟨k3,o3,ty3,n3,f3,x3,p3⟩ am3 cm3 ks3)]) rfl rfl HL0.out HK0.out hr8 h83 h84; have HQD0:=q8.hid; have g6:y0.cell? ⟨w§,6,none⟩=some (.slice none 0 0):=Co (e8.trans HQC0.out.N) 6; have k6:y0.frozen? ⟨w§,6,none⟩=false:=Fo (e8.trans HQC0.out.N) 6; clear e8 q8 hr8 h83 h84)
 obtain⟨Z0,eZ0⟩:∃ W,y0.setCell ⟨w§,6,none⟩ (.slice (some ⟨g0,0,none⟩) 1 cap0)=W:=⟨_,rfl⟩
 rw [eZ0] at HQD0 ⊢
 clear eZ0 g6 k6 c6 x0' x1' x2' x3' x4' x5' x6' x7' HQC0 HL0 HK0
 go_wp2_with fail
 rw [rounds_succ]
 have cT:=take_s HK.out HQD0.out.X.S Zt (.inr (by simp [kwM])) (by decide)
 go_wp2_with fail
 refine cT.mono ?_
 rintro e w9 ⟨⟨pp9,rfl⟩,hs,hm⟩
 have HQ9:=(HQD0.out.mv hm hs).hid
 clear cT hs hm HQD0
 have y0:w9.cell? ⟨w§,0,none⟩=some (zU k):=Co HQ9.out.N 0
 have z0:w9.cell? ⟨(w§+1),0,none⟩=some (zU 0):=Co HQ9.out.X.Z 0
 have q0:=Fo HQ9.out.X.Z 0
 have y1:w9.cell? ⟨w§,1,none⟩=some (zU o):=Co HQ9.out.N 1
 have z1:w9.cell? ⟨(w§+1),1,none⟩=some (zU 0):=Co HQ9.out.X.Z 1
 have q1:=Fo HQ9.out.X.Z 1
 have y2:w9.cell? ⟨w§,2,none⟩=some (zU ty):=Co HQ9.out.N 2
 have z2:w9.cell? ⟨(w§+1),2,none⟩=some (zU 0):=Co HQ9.out.X.Z 2
 have q2:=Fo HQ9.out.X.Z 2
 have y3:w9.cell? ⟨w§,3,none⟩=some (zI 0):=Co HQ9.out.N 3
 have z3:w9.cell? ⟨(w§+1),3,none⟩=some (zI 0):=Co HQ9.out.X.Z 3
 have q3:=Fo HQ9.out.X.Z 3
 have y4:w9.cell? ⟨w§,4,none⟩=some (zU 0):=Co HQ9.out.N 4
 have z4:w9.cell? ⟨(w§+1),4,none⟩=some (zU 0):=Co HQ9.out.X.Z 4
 have q4:=Fo HQ9.out.X.Z 4
 have y5:w9.cell? ⟨w§,5,none⟩=some (.string ⟨#[]⟩):=Co HQ9.out.N 5
 have z5:w9.cell? ⟨(w§+1),5,none⟩=some (.string ⟨#[]⟩):=Co HQ9.out.X.Z 5
 have q5:=Fo HQ9.out.X.Z 5
 have y6:w9.cell? ⟨w§,6,none⟩=some (.slice (some ⟨g0,0,none⟩) 1 cap0):=Co HQ9.out.N 6
 have z6:w9.cell? ⟨(w§+1),6,none⟩=some (.slice none 0 0):=Co HQ9.out.X.Z 6
 have q6:=Fo HQ9.out.X.Z 6
 have y7:w9.cell? ⟨w§,7,none⟩=some (zI t.p):=Co HQ9.out.N 7
 have z7:w9.cell? ⟨(w§+1),7,none⟩=some (zI 0):=Co HQ9.out.X.Z 7
 have q7:=Fo HQ9.out.X.Z 7
 obtain⟨Y,eY,hY1,hY2,hY3,hY4,hY5⟩:=HQ9.out.fin rfl HRG.out
 have HEY:=zH eY
 have HY1:=zH hY1
 have HYY:Hid (Lies Y (Nd.mk ⟨k,o,ty,0,0,gE,t.p⟩ (some ⟨g0,0,none⟩) cap0 [(Nd.mk ⟨k3,o3,ty3,n3,f3,x3,p3⟩ am3 cm3 ks3)])∧Bkn (fun k=>w§≤k∧k < Y§) (Nd.mk ⟨k,o,ty,0,0,gE,t.p⟩ (some ⟨g0,0,none⟩) cap0 [(Nd.mk ⟨k3,o3,ty3,n3,f3,x3,p3⟩ am3 cm3 ks3)])∧Sp Y b K (dTake Zt (stOf (rd ex (dTake Zi (nf ts)))))∧Mv w Y (fun k=>k=b)):=⟨hY2,hY3,hY4,hY5⟩
 clear eY hY1 hY2 hY3 hY4 hY5
 go_wp2_with fail
 rw [HEY.out]
 refine bodyPost_ret (results_cell_row rfl _ _ (w§+1) 28 (Nd.mk ⟨k,o,ty,0,0,gE,t.p⟩ (some ⟨g0,0,none⟩) cap0 [(Nd.mk ⟨k3,o3,ty3,n3,f3,x3,p3⟩ am3 cm3 ks3)]).vals (0,0) _ rfl HY1.out Tryz.underlying28 rfl zK) rfl ⟨_,rfl,HYY.out.1,HYY.out.2.1,?_,HYY.out.2.2.2,?_⟩
 ·rw [← HR0.out,(gC1_st ex HE.out ⟨k,o,ty,0,0,gE,t.p⟩ ts HT0.out).1]
  exact HYY.out.2.2.1
 ·rw [← HR0.out]
  exact (gC1_st ex HE.out ⟨k,o,ty,0,0,gE,t.p⟩ ts HT0.out).2
theorem call2_d (ex:List Tk→Except Ft (Tr × List Tk)) (hE:ex []=.error .lex) {K:PK}(hK:KOk K) {b:Nat}{d:Nat}(hd:d≤24) (cE:d < 24→∀ (w:World) (st:St),Sp w b K st→Calls zG 54 #[zP b,zI ((d:Int)+1)] w (OutD b K w (rd ex st))) {w:World}{t:Tk}{ts:List Tk}(h:Lv w b K (t :: ts)) {k o ty:Int}(hr:Rg ⟨k,o,ty,0,0,gE,t.p⟩) :
  Calls zG 217 #[.pointer (some ⟨b, 0, none⟩), .agg #[zU k, zU o, zU ty, zI 0, zU 0, .string ⟨#[]⟩, .slice none 0 0, zI t.p], zI 2, zI d] w (OutD b K w (if d < 24 then gC2 ex ⟨k, o, ty, 0, 0, gE, t.p⟩ ts else .error (.tok 132 t.p))) := by
 have HQ0:=(QX.new2 (show Sp w b K (.ok (t :: ts)) from ⟨by simp,h⟩) ⟨k,o,ty,0,0,gE,t.p⟩).hid
 unfold gE at HQ0
 dsimp only at HQ0
 have HE:Hid (ex []=.error .lex):=hE
 have HK:Hid (KOk K):=hK
 have HX:Hid (d < 24→∀ (w:World) (st:St),Sp w b K st→Calls zG 54 #[zP b,zI ((d:Int)+1)] w (OutD b K w (rd ex st))):=cE
 have HRG:Hid (Rg ⟨k,o,ty,0,0,gE,t.p⟩):=hr
 obtain⟨W0,eW0⟩:∃ W,(w.alloc (.cells #[zU k,zU o,zU ty,zI 0,zU 0,.string ⟨#[]⟩,.slice none 0 0,zI t.p] 28)).alloc (.cells zA9 28)=W:=⟨_,rfl⟩
 rw [eW0] at HQ0
 clear h hE hK cE hr
 by_cases hdd:d < 24
 rotate_left
 ·rw [if_neg hdd]
  have cD:=deeper_no HQ0.out.X.S.2 d hdd (by omega)
  clear hdd
  go_enter Tryz.func217,Tryz.ntmps217
  go_wp2_with fail
  try rw [eW0]
  refine cD.mono ?_
  rintro e w3 ⟨rfl,hs,hm⟩
  have HZ3:=(HQ0.out.X.mv (s':=.error (.tok 132 t.p)) hm hs).hid
  clear cD hs hm HQ0
  obtain⟨z0,z1,z2,z3,z4,z5,z6,z7⟩:=cl8 HZ3.out.Z
  obtain⟨q0,q1,q2,q3,q4,q5,q6,q7⟩:=fz8 HZ3.out.Z
  obtain⟨Y,eY,hY1,hY2,hY3,hY4,hY5⟩:=HZ3.out.finz
  have HEY:Hid (_=Y):=eY
  have HY1:Hid (Y.heap[(w§+1)]? = some (.cells nd0.vals 28 (0,0))):=hY1
  have HYY:Hid (Lies Y nd0∧Bkn (fun k=>w§≤k∧k < Y§) nd0∧Sp Y b K (.error (.tok 132 t.p))∧Mv w Y (fun k=>k=b)):=⟨hY2,hY3,hY4,hY5⟩
  clear eY hY1 hY2 hY3 hY4 hY5
  go_wp2_with fail
  rw [HEY.out]
  refine bodyPost_ret (results_cell_row rfl _ _ (w§+1) 28 nd0.vals (0,0) _ rfl HY1.out Tryz.underlying28 rfl zK) rfl ⟨_,rfl,HYY.out.1,HYY.out.2.1,?_,HYY.out.2.2.2,?_⟩
  ·exact HYY.out.2.2.1
  ·exact fun q e=>by cases e
 rw [if_pos hdd]
 have cD:=deeper_ok HQ0.out.X.S.2 d hdd
 have hmd:(d:Int)+1≤9223372036854775807:=by omega
 have HX1:Hid (∀ (w:World) (st:St),Sp w b K st→Calls zG 54 #[zP b,zI ((d:Int)+1)] w (OutD b K w (rd ex st))):=HX.out hdd
 obtain⟨r0,er0⟩:∃ r,gC2 ex ⟨k,o,ty,0,0,gE,t.p⟩ ts=r:=⟨_,rfl⟩
 have HR0:Hid (gC2 ex ⟨k,o,ty,0,0,gE,t.p⟩ ts=r0):=er0
 rw [er0]
 clear HX hdd er0
 go_enter Tryz.func217,Tryz.ntmps217
 go_wp2_with fail
 try rw [eW0]
 refine cD.mono ?_
 rintro e w1 ⟨rfl,e9⟩
 obtain rfl:=e9.symm
 clear cD e9
 obtain⟨i,c3,f3,hmx,hL,hM,_,_⟩:=HQ0.out.X.S.2.at'
 obtain⟨V,eV⟩:∃ V,W0.setCell ⟨b,3,none⟩ (zI ((i:Int)+1))=V:=⟨_,rfl⟩
 rw [eV] at hL hM
 have HQ1:=(HQ0.out.mv hM hL.sp).hid
 have cT:=take_s HK.out HQ1.out.X.S Zi (.inr (by simp [kwM])) (by decide)
 clear hL hM HQ0
 go_wp2_with fail
 try rw [eV]
 clear eV c3 f3 hmx
 refine cT.mono ?_
 rintro e w2 ⟨⟨pp,rfl⟩,hs,hm⟩
 have HQA:=(HQ1.out.mv hm hs).hid
 clear cT hs hm HQ1
 go_wp2_with fail
 refine wp_loop_rounds 3 ?_
 rw [rounds_succ]
 have cQ:=HX1.out w2 (dTake Zi (nf ts)) HQA.out.X.S
 go_wp2_with fail
 refine cQ.mono ?_
 rintro e u0 ⟨⟨⟨k3,o3,ty3,n3,f3,x3,p3⟩,am3,cm3,ks3⟩,rfl,hl,hk,hs,hm,ht⟩
 simp only [Nd.vals,Nd.h,Nd.a,Nd.c,Nd.ks,hdA]
 have HQB0:=(HQA.out.mv hm hs).hid
 have HT0:Hid (∀ q,rd ex (dTake Zi (nf ts))=.ok q→treeOf (Nd.mk ⟨k3,o3,ty3,n3,f3,x3,p3⟩ am3 cm3 ks3)=q.1):=ht
 have hNV:w§ < w2§:=(Array.getElem?_eq_some_iff.1 HQA.out.N).1
 have hRV:w§+1 < w2§:=(Array.getElem?_eq_some_iff.1 HQA.out.X.Z).1
 have hb6:=Bn u0 (.cells (zN k3 o3 ty3 n3 f3 x3 am3 ks3 cm3 p3) 28)
 have hX:=Hn u0 (.cells (zN k3 o3 ty3 n3 f3 x3 am3 ks3 cm3 p3) 28)
 have hs6:=Sa u0 (.cells (zN k3 o3 ty3 n3 f3 x3 am3 ks3 cm3 p3) 28)
 have HQC0:=(HQB0.out.on hb6).hid
 have HL0:=(hl.on hb6).hid
 obtain⟨X0,eX0⟩:∃ W,u0.alloc (.cells (zN k3 o3 ty3 n3 f3 x3 am3 ks3 cm3 p3) 28)=W:=⟨_,rfl⟩
 rw [eX0] at hX hs6 HQC0 HL0
 have HK0:Hid (Bkn (fun k=>w§≤k∧k < X0§∧k≠w§∧k≠w§+1∧(Value.slice none 0 0).ownBlock≠some k) (Nd.mk ⟨k3,o3,ty3,n3,f3,x3,p3⟩ am3 cm3 ks3)):=hk.mono fun j hj=>⟨by omega,by omega,by omega,by omega,by simp [Value.ownBlock]⟩
 obtain⟨x0',x1',x2',x3',x4',x5',x6',x7'⟩:=cl8 hX
 have c6:X0.cell? ⟨w§,6,none⟩=some (.slice none 0 0):=Co HQC0.out.N 6
 clear cQ hl hk hs hm ht hNV hRV hX hs6 hb6 HQA HQB0
 go_upto_region 12 with fail
 try rw [eX0]
 clear eX0
 go_upto_region 8 with (at_builtin; refine list_rowN rfl (.tmp 41) (.tmp 43) rfl (Nd.mk ⟨k3,o3,ty3,n3,f3,x3,p3⟩ am3 cm3 ks3) HQC0.out.row rfl rfl (by show 0≤1000000000; omega) 1 rfl ?_; intro g0 cap0 y0 hr8 h83 h84; obtain⟨e8,q8⟩:=HQC0.out.appN (n:=1) (M:=[(Nd.mk ⟨k3,o3,ty3,n3,f3,x3,p3⟩ am3 cm3 ks3)]) rfl rfl HL0.out HK0.out hr8 h83 h84; have HQD0:=q8.hid; have g6:y0.cell? ⟨w§,6,none⟩=some (.slice none 0 0):=Co (e8.trans HQC0.out.N) 6; have k6:y0.frozen? ⟨w§,6,none⟩=false:=Fo (e8.trans HQC0.out.N) 6; clear e8 q8 hr8 h83 h84)
 obtain⟨Z0,eZ0⟩:∃ W,y0.setCell ⟨w§,6,none⟩ (.slice (some ⟨g0,0,none⟩) 1 cap0)=W:=⟨_,rfl⟩
 rw [eZ0] at HQD0 ⊢
 clear eZ0 g6 k6 c6 x0' x1' x2' x3' x4' x5' x6' x7' HQC0 HL0 HK0
 go_wp2_with fail
 rw [rounds_succ]
 have cT:=take_s HK.out HQD0.out.X.S Zn (.inr (by simp [kwM])) (by decide)
 go_wp2_with fail
 refine cT.mono ?_
 rintro e w21 ⟨⟨pp1,rfl⟩,hs,hm⟩
 have HQT1:=(HQD0.out.mv hm hs).hid
 clear cT hs hm HQD0
 have cQ:=HX1.out w21 (dTake Zn (stOf (rd ex (dTake Zi (nf ts))))) HQT1.out.X.S
 go_wp2_with fail
 refine cQ.mono ?_
 rintro e u1 ⟨⟨⟨k4,o4,ty4,n4,f4,x4,p4⟩,am4,cm4,ks4⟩,rfl,hl,hk,hs,hm,ht⟩
 simp only [Nd.vals,Nd.h,Nd.a,Nd.c,Nd.ks,hdA]
 have HQB1:=(HQT1.out.mv hm hs).hid
 have HT1:Hid (∀ q,rd ex (dTake Zn (stOf (rd ex (dTake Zi (nf ts)))))=.ok q→treeOf (Nd.mk ⟨k4,o4,ty4,n4,f4,x4,p4⟩ am4 cm4 ks4)=q.1):=ht
 have hNV:w§ < w21§:=(Array.getElem?_eq_some_iff.1 HQT1.out.N).1
 have hRV:w§+1 < w21§:=(Array.getElem?_eq_some_iff.1 HQT1.out.X.Z).1
 have hb6:=Bn u1 (.cells (zN k4 o4 ty4 n4 f4 x4 am4 ks4 cm4 p4) 28)
 have hX:=Hn u1 (.cells (zN k4 o4 ty4 n4 f4 x4 am4 ks4 cm4 p4) 28)
 have hs6:=Sa u1 (.cells (zN k4 o4 ty4 n4 f4 x4 am4 ks4 cm4 p4) 28)
 have HQC1:=(HQB1.out.on hb6).hid
 have HL1:=(hl.on hb6).hid
 obtain⟨X1,eX1⟩:∃ W,u1.alloc (.cells (zN k4 o4 ty4 n4 f4 x4 am4 ks4 cm4 p4) 28)=W:=⟨_,rfl⟩
 rw [eX1] at hX hs6 HQC1 HL1
 have hgl:g0 < w21§:=HQT1.out.row.lt g0 rfl
 have HK1:Hid (Bkn (fun k=>w§≤k∧k < X1§∧k≠w§∧k≠w§+1∧(Value.slice (some ⟨g0,0,none⟩) 1 cap0).ownBlock≠some k) (Nd.mk ⟨k4,o4,ty4,n4,f4,x4,p4⟩ am4 cm4 ks4)):=hk.mono fun j hj=>⟨by omega,by omega,by omega,by omega,by simp [Value.ownBlock]; omega⟩
 obtain⟨x0',x1',x2',x3',x4',x5',x6',x7'⟩:=cl8 hX
 have c6:X1.cell? ⟨w§,6,none⟩=some (.slice (some ⟨g0,0,none⟩) 1 cap0):=Co HQC1.out.N 6
 clear cQ hl hk hs hm ht hNV hRV hX hs6 hb6 HQT1 HQB1 hgl
 go_upto_region 12 with fail
 try rw [eX1]
 clear eX1
 go_upto_region 8 with (at_builtin; refine list_rowN rfl (.tmp 41) (.tmp 43) rfl (Nd.mk ⟨k4,o4,ty4,n4,f4,x4,p4⟩ am4 cm4 ks4) HQC1.out.row rfl rfl (by show 1≤1000000000; omega) 2 rfl ?_; intro g1 cap1 y1 hr8 h83 h84; obtain⟨e8,q8⟩:=HQC1.out.appN (n:=2) (M:=[(Nd.mk ⟨k3,o3,ty3,n3,f3,x3,p3⟩ am3 cm3 ks3),(Nd.mk ⟨k4,o4,ty4,n4,f4,x4,p4⟩ am4 cm4 ks4)]) rfl rfl HL1.out HK1.out hr8 h83 h84; have HQD1:=q8.hid; have g6:y1.cell? ⟨w§,6,none⟩=some (.slice (some ⟨g0,0,none⟩) 1 cap0):=Co (e8.trans HQC1.out.N) 6; have k6:y1.frozen? ⟨w§,6,none⟩=false:=Fo (e8.trans HQC1.out.N) 6; clear e8 q8 hr8 h83 h84)
 obtain⟨Z1,eZ1⟩:∃ W,y1.setCell ⟨w§,6,none⟩ (.slice (some ⟨g1,0,none⟩) 2 cap1)=W:=⟨_,rfl⟩
 rw [eZ1] at HQD1 ⊢
 clear eZ1 g6 k6 c6 x0' x1' x2' x3' x4' x5' x6' x7' HQC1 HL1 HK1
 go_wp2_with fail
 rw [rounds_succ]
 have cT:=take_s HK.out HQD1.out.X.S Zt (.inr (by simp [kwM])) (by decide)
 go_wp2_with fail
 refine cT.mono ?_
 rintro e w9 ⟨⟨pp9,rfl⟩,hs,hm⟩
 have HQ9:=(HQD1.out.mv hm hs).hid
 clear cT hs hm HQD1
 have y0:w9.cell? ⟨w§,0,none⟩=some (zU k):=Co HQ9.out.N 0
 have z0:w9.cell? ⟨(w§+1),0,none⟩=some (zU 0):=Co HQ9.out.X.Z 0
 have q0:=Fo HQ9.out.X.Z 0
 have y1:w9.cell? ⟨w§,1,none⟩=some (zU o):=Co HQ9.out.N 1
 have z1:w9.cell? ⟨(w§+1),1,none⟩=some (zU 0):=Co HQ9.out.X.Z 1
 have q1:=Fo HQ9.out.X.Z 1
 have y2:w9.cell? ⟨w§,2,none⟩=some (zU ty):=Co HQ9.out.N 2
 have z2:w9.cell? ⟨(w§+1),2,none⟩=some (zU 0):=Co HQ9.out.X.Z 2
 have q2:=Fo HQ9.out.X.Z 2
 have y3:w9.cell? ⟨w§,3,none⟩=some (zI 0):=Co HQ9.out.N 3
 have z3:w9.cell? ⟨(w§+1),3,none⟩=some (zI 0):=Co HQ9.out.X.Z 3
 have q3:=Fo HQ9.out.X.Z 3
 have y4:w9.cell? ⟨w§,4,none⟩=some (zU 0):=Co HQ9.out.N 4
 have z4:w9.cell? ⟨(w§+1),4,none⟩=some (zU 0):=Co HQ9.out.X.Z 4
 have q4:=Fo HQ9.out.X.Z 4
 have y5:w9.cell? ⟨w§,5,none⟩=some (.string ⟨#[]⟩):=Co HQ9.out.N 5
 have z5:w9.cell? ⟨(w§+1),5,none⟩=some (.string ⟨#[]⟩):=Co HQ9.out.X.Z 5
 have q5:=Fo HQ9.out.X.Z 5
 have y6:w9.cell? ⟨w§,6,none⟩=some (.slice (some ⟨g1,0,none⟩) 2 cap1):=Co HQ9.out.N 6
 have z6:w9.cell? ⟨(w§+1),6,none⟩=some (.slice none 0 0):=Co HQ9.out.X.Z 6
 have q6:=Fo HQ9.out.X.Z 6
 have y7:w9.cell? ⟨w§,7,none⟩=some (zI t.p):=Co HQ9.out.N 7
 have z7:w9.cell? ⟨(w§+1),7,none⟩=some (zI 0):=Co HQ9.out.X.Z 7
 have q7:=Fo HQ9.out.X.Z 7
 obtain⟨Y,eY,hY1,hY2,hY3,hY4,hY5⟩:=HQ9.out.fin rfl HRG.out
 have HEY:Hid (((((((((w9.setCell ⟨(w§+1),0,none⟩ (zU k)).setCell ⟨(w§+1),1,none⟩ (zU o)).setCell ⟨(w§+1),2,none⟩ (zU ty)).setCell ⟨(w§+1),3,none⟩ (zI 0)).setCell ⟨(w§+1),4,none⟩ (zU 0)).setCell ⟨(w§+1),5,none⟩ (.string ⟨#[]⟩)).setCell ⟨(w§+1),6,none⟩ (.slice (some ⟨g1,0,none⟩) 2 cap1)).setCell ⟨(w§+1),7,none⟩ (zI t.p))=Y):=eY
 have HY1:Hid (Y.heap[(w§+1)]? = some (.cells (Nd.mk ⟨k,o,ty,0,0,gE,t.p⟩ (some ⟨g1,0,none⟩) cap1 [(Nd.mk ⟨k3,o3,ty3,n3,f3,x3,p3⟩ am3 cm3 ks3),(Nd.mk ⟨k4,o4,ty4,n4,f4,x4,p4⟩ am4 cm4 ks4)]).vals 28 (0,0))):=hY1
 have HYY:Hid (Lies Y (Nd.mk ⟨k,o,ty,0,0,gE,t.p⟩ (some ⟨g1,0,none⟩) cap1 [(Nd.mk ⟨k3,o3,ty3,n3,f3,x3,p3⟩ am3 cm3 ks3),(Nd.mk ⟨k4,o4,ty4,n4,f4,x4,p4⟩ am4 cm4 ks4)])∧Bkn (fun k=>w§≤k∧k < Y§) (Nd.mk ⟨k,o,ty,0,0,gE,t.p⟩ (some ⟨g1,0,none⟩) cap1 [(Nd.mk ⟨k3,o3,ty3,n3,f3,x3,p3⟩ am3 cm3 ks3),(Nd.mk ⟨k4,o4,ty4,n4,f4,x4,p4⟩ am4 cm4 ks4)])∧Sp Y b K (dTake Zt (stOf (rd ex (dTake Zn (stOf (rd ex (dTake Zi (nf ts))))))))∧Mv w Y (fun k=>k=b)):=⟨hY2,hY3,hY4,hY5⟩
 clear eY hY1 hY2 hY3 hY4 hY5
 go_wp2_with fail
 rw [HEY.out]
 refine bodyPost_ret (results_cell_row rfl _ _ (w§+1) 28 (Nd.mk ⟨k,o,ty,0,0,gE,t.p⟩ (some ⟨g1,0,none⟩) cap1 [(Nd.mk ⟨k3,o3,ty3,n3,f3,x3,p3⟩ am3 cm3 ks3),(Nd.mk ⟨k4,o4,ty4,n4,f4,x4,p4⟩ am4 cm4 ks4)]).vals (0,0) _ rfl HY1.out Tryz.underlying28 rfl zK) rfl ⟨_,rfl,HYY.out.1,HYY.out.2.1,?_,HYY.out.2.2.2,?_⟩
 ·rw [← HR0.out,(gC2_st ex HE.out ⟨k,o,ty,0,0,gE,t.p⟩ ts HT0.out HT1.out).1]
  exact HYY.out.2.2.1
 ·rw [← HR0.out]
  exact (gC2_st ex HE.out ⟨k,o,ty,0,0,gE,t.p⟩ ts HT0.out HT1.out).2
theorem has_op (y:ByteArray):(fnd y [Z3,Z2,Z4] 0 = -1∧¬ (1≤fieldX y∧fieldX y≤3))∨(0≤fnd y [Z3,Z2,Z4] 0∧fnd y [Z3,Z2,Z4] 0 < 3∧fieldX y=fnd y [Z3,Z2,Z4] 0+1):=by
 by_cases e0:y=Z3
 ·subst e0; exact .inr (by decide +kernel)
 by_cases e1:y=Z2
 ·subst e1; exact .inr (by decide +kernel)
 by_cases e2:y=Z4
 ·subst e2; exact .inr (by decide +kernel)
 left
 have q0:(eqX y [98,105,100]=true)=(y=Z3):=eqX_iff y #[98,105,100]
 have q1:(eqX y [97,115,107]=true)=(y=Z2):=eqX_iff y #[97,115,107]
 have q2:(eqX y [108,97,115,116]=true)=(y=Z4):=eqX_iff y #[108,97,115,116]
 refine⟨by simp only [fnd,if_neg e0,if_neg e1,if_neg e2],?_⟩
 unfold fieldX
 rw [if_neg (by rw [q0]; exact e0),if_neg (by rw [q1]; exact e1),if_neg (by rw [q2]; exact e2)]
 split
 ·omega
 split
 ·omega
 split
 ·omega
 omega
def gHasD (p:Int):List Tk→Except Ft (Tr × List Tk)
 | []=>.error .lex
 | y :: r=>if 1≤fieldX y.x∧fieldX y.x≤3 then .ok (.mk ⟨4,0,0,0,fieldX y.x,gE,p⟩ [],r) else .error (.tok 130 y.p)
def gBr (ex:List Tk→Except Ft (Tr × List Tk)) (ts:List Tk):Except Ft (Tr × List Tk):=do
 let (n,r) ← ex ts
 let (_,r) ← gTake Zt r
 .ok (n,r)
theorem gBr_st (ex:List Tk→Except Ft (Tr × List Tk)) (ts:List Tk) {k:Tr}(hk:∀ q,ex ts=.ok q→k=q.1) :
  stOf (gBr ex ts)=dTake Zt (stOf (ex ts))∧∀ q,gBr ex ts=.ok q→k=q.1:=by
 unfold gBr
 cases h2:ex ts with
 | error f=>exact⟨rfl,fun q e=>by cases e⟩
 | ok q2 =>
  have e:=hk q2 h2
  subst e
  simp only [bind,Except.bind]
  have e4:stOf (Except.ok q2:Except Ft (Tr × List Tk))=nf q2.2:=rfl
  rw [e4]
  cases h3:gTake Zt q2.2 with
  | error f=>rw [take_err h3]; exact⟨rfl,fun q e=>by cases e⟩
  | ok q3=>rw [take_ok h3]; exact⟨rfl,fun q e=>by cases e; rfl⟩
theorem field82_40 (v:World):(Instr.field 143 (.agg (tkA tk0)) 4).run Tryz.prog v=.ok (zI 0) v:=field82_4 tk0 v
theorem rest_dead {K:PK}{b:Nat}{d:Int}{w:World}{f:Ft}(h:Dd w b K f) :
  Calls zG 218 #[zP b,zI d] w (OutD b K w (.error f)):=by
 have HZ:=(RZ.new (show Sp w b K (.error f) from h)).hid
 clear h
 obtain⟨W0,eW0⟩:∃ W,w.alloc (.cells zA9 28)=W:=⟨_,rfl⟩
 rw [eW0] at HZ
 have cN:=dead_now HZ.out.S
 have hf:=field82_40
 go_enter Tryz.func218,Tryz.ntmps218
 go_wp2_with fail
 try rw [eW0]
 refine cN.mono ?_
 rintro e w1 ⟨rfl,hb1⟩
 have HZ1:=(HZ.out.on hb1).hid
 have cI:=is_dead HZ1.out.S ZC (by decide)
 clear cN hb1 HZ
 go_wp2_with fail
 refine cI.mono ?_
 rintro e w2 ⟨rfl,hb2⟩
 have HZ2:=(HZ1.out.on hb2).hid
 have cJ:=is_dead HZ2.out.S Zi (by decide)
 clear cI hb2 HZ1
 go_wp2_with fail
 refine cJ.mono ?_
 rintro e w3 ⟨rfl,hb3⟩
 have HZ3:=(HZ2.out.on hb3).hid
 have cW:=wrong_dead HZ3.out.S 130
 clear cJ hb3 HZ2
 go_wp2_with fail
 refine cW.mono ?_
 rintro e w4 ⟨rfl,hs,hm⟩
 have HZ4:=(HZ3.out.mv (s':=.error f) hm hs).hid
 clear cW hs hm HZ3
 obtain⟨z0,z1,z2,z3,z4,z5,z6,z7⟩:=cl8 HZ4.out.Z
 obtain⟨q0,q1,q2,q3,q4,q5,q6,q7⟩:=fz8 HZ4.out.Z
 obtain⟨Y,eY,hY1,hY2,hY3,hY4,hY5⟩:=HZ4.out.finz
 have HEY:Hid (_=Y):=eY
 have HY1:=zH hY1
 have HYY:Hid (Lies Y nd0∧Bkn (fun k=>w§≤k∧k < Y§) nd0∧Sp Y b K (.error f)∧Mv w Y (fun k=>k=b)):=⟨hY2,hY3,hY4,hY5⟩
 clear eY hY1 hY2 hY3 hY4 hY5
 go_wp2_with fail
 rw [HEY.out]
 refine bodyPost_ret (results_cell_row rfl _ _ w§ 28 nd0.vals (0,0) _ rfl HY1.out Tryz.underlying28 rfl zK) rfl ⟨_,rfl,HYY.out.1,HYY.out.2.1,?_,HYY.out.2.2.2,?_⟩
 ·exact HYY.out.2.2.1
 ·exact fun q e=>by cases e
theorem rest_no {K:PK}(hK:KOk K) {b:Nat}{d:Int}{w:World}{t:Tk}{ts:List Tk}(h:Lv w b K (t :: ts)) (h1:¬ t.x=ZC) (h2:¬ t.x=Zi) :
  Calls zG 218 #[zP b,zI d] w (OutD b K w (.error (.tok 130 t.p))):=by
 have HZ:=(RZ.new (show Sp w b K (.ok (t :: ts)) from ⟨by simp,h⟩)).hid
 have HK:Hid (KOk K):=hK
 clear h hK
 obtain⟨W0,eW0⟩:∃ W,w.alloc (.cells zA9 28)=W:=⟨_,rfl⟩
 rw [eW0] at HZ
 have cN:=live_now HZ.out.S.2
 have hf:=fun v=>field82_4 t v
 have HAS:=zH h1
 have HBR:Hid (¬ t.x=Zi):=h2
 clear h1 h2
 go_enter Tryz.func218,Tryz.ntmps218
 go_wp2_with fail
 try rw [eW0]
 refine cN.mono ?_
 rintro e w1 ⟨rfl,hb1⟩
 have HZ1:=(HZ.out.on hb1).hid
 have cI:=is_live HZ1.out.S.2 ZC ((HZ1.out.S.2.ok HK.out).kw (.inl (by simp [kwW])))
 rw [decide_eq_false HAS.out] at cI
 clear cN hb1 HZ
 go_wp2_with fail
 refine cI.mono ?_
 rintro e w2 ⟨rfl,hb2⟩
 have HZ2:=(HZ1.out.on hb2).hid
 clear cI hb2 HZ1
 have cJ:=is_live HZ2.out.S.2 Zi ((HZ2.out.S.2.ok HK.out).kw (.inr (by simp [kwM])))
 rw [decide_eq_false HBR.out] at cJ
 go_wp2_with fail
 refine cJ.mono ?_
 rintro e w3 ⟨rfl,hb3⟩
 have HZ3:=(HZ2.out.on hb3).hid
 clear cJ hb3 HZ2
 have cW:=wrong_live HZ3.out.S.2 130 (by decide)
 go_wp2_with fail
 refine cW.mono ?_
 rintro e w4 ⟨rfl,hs,hm⟩
 have HZ4:=(HZ3.out.mv (s':=.error (.tok 130 t.p)) hm hs).hid
 clear cW hs hm HZ3
 obtain⟨z0,z1,z2,z3,z4,z5,z6,z7⟩:=cl8 HZ4.out.Z
 obtain⟨q0,q1,q2,q3,q4,q5,q6,q7⟩:=fz8 HZ4.out.Z
 obtain⟨Y,eY,hY1,hY2,hY3,hY4,hY5⟩:=HZ4.out.finz
 have HEY:Hid (_=Y):=eY
 have HY1:=zH hY1
 have HYY:Hid (Lies Y nd0∧Bkn (fun k=>w§≤k∧k < Y§) nd0∧Sp Y b K (.error (.tok 130 t.p))∧Mv w Y (fun k=>k=b)):=⟨hY2,hY3,hY4,hY5⟩
 clear eY hY1 hY2 hY3 hY4 hY5
 go_wp2_with fail
 rw [HEY.out]
 refine bodyPost_ret (results_cell_row rfl _ _ w§ 28 nd0.vals (0,0) _ rfl HY1.out Tryz.underlying28 rfl zK) rfl ⟨_,rfl,HYY.out.1,HYY.out.2.1,?_,HYY.out.2.2.2,?_⟩
 ·exact HYY.out.2.2.1
 ·exact fun q e=>by cases e
theorem rest_brk (ex:List Tk→Except Ft (Tr × List Tk)) (hE:ex []=.error .lex) {K:PK}(hK:KOk K) {b:Nat}{d:Nat}(hd:d≤24) (cE:d < 24→∀ (w:World) (st:St),Sp w b K st→Calls zG 54 #[zP b,zI ((d:Int)+1)] w (OutD b K w (rd ex st))) {w:World}{t:Tk}{ts:List Tk}(h:Lv w b K (t :: ts)) (h2:t.x=Zi) :
  Calls zG 218 #[zP b,zI d] w (OutD b K w (if d < 24 then gBr ex ts else .error (.tok 132 t.p))):=by
 have HZ:=(RZ.new (show Sp w b K (.ok (t :: ts)) from ⟨by simp,h⟩)).hid
 have HK:Hid (KOk K):=hK
 clear h hK
 obtain⟨W0,eW0⟩:∃ W,w.alloc (.cells zA9 28)=W:=⟨_,rfl⟩
 rw [eW0] at HZ
 have cN:=live_now HZ.out.S.2
 have hf:=fun v=>field82_4 t v
 have HE:Hid (ex []=.error .lex):=hE
 have HX:Hid (d < 24→∀ (w:World) (st:St),Sp w b K st→Calls zG 54 #[zP b,zI ((d:Int)+1)] w (OutD b K w (rd ex st))):=cE
 have HAS:Hid (¬ t.x=ZC):=by show ¬ _; rw [h2]; decide
 have HBR:Hid (t.x=Zi):=h2
 clear h2 hE cE
 by_cases hdd:d < 24
 rotate_left
 ·rw [if_neg hdd]
  have HD0:Hid (∀ v,Lv v b K (t :: ts)→Calls zG 87 #[zP b,zI d] v fun e w'=>e=.returned (.bool false)∧Dd w' b K (.tok 132 t.p)∧Mv v w' (fun k=>k=b)):=fun v h=>deeper_no h d hdd (by omega)
  clear hdd
  go_enter Tryz.func218,Tryz.ntmps218
  go_wp2_with fail
  try rw [eW0]
  refine cN.mono ?_
  rintro e w1 ⟨rfl,hb1⟩
  have HZ1:=(HZ.out.on hb1).hid
  have cI:=is_live HZ1.out.S.2 ZC ((HZ1.out.S.2.ok HK.out).kw (.inl (by simp [kwW])))
  rw [decide_eq_false HAS.out] at cI
  clear cN hb1 HZ
  go_wp2_with fail
  refine cI.mono ?_
  rintro e w2 ⟨rfl,hb2⟩
  have HZ2:=(HZ1.out.on hb2).hid
  clear cI hb2 HZ1
  have cJ:=is_live HZ2.out.S.2 Zi ((HZ2.out.S.2.ok HK.out).kw (.inr (by simp [kwM])))
  rw [decide_eq_true HBR.out] at cJ
  go_wp2_with fail
  refine cJ.mono ?_
  rintro e w3 ⟨rfl,hb3⟩
  have HZ3:=(HZ2.out.on hb3).hid
  clear cJ hb3 HZ2
  have cD:=HD0.out w3 HZ3.out.S.2
  go_wp2_with fail
  refine cD.mono ?_
  rintro e w4 ⟨rfl,hs,hm⟩
  have HZ4:=(HZ3.out.mv (s':=.error (.tok 132 t.p)) hm hs).hid
  clear cD hs hm HZ3
  obtain⟨z0,z1,z2,z3,z4,z5,z6,z7⟩:=cl8 HZ4.out.Z
  obtain⟨q0,q1,q2,q3,q4,q5,q6,q7⟩:=fz8 HZ4.out.Z
  obtain⟨Y,eY,hY1,hY2,hY3,hY4,hY5⟩:=HZ4.out.finz
  have HEY:Hid (_=Y):=eY
  have HY1:Hid (Y.heap[w§]? = some (.cells nd0.vals 28 (0,0))):=hY1
  have HYY:Hid (Lies Y nd0∧Bkn (fun k=>w§≤k∧k < Y§) nd0∧Sp Y b K (.error (.tok 132 t.p))∧Mv w Y (fun k=>k=b)):=⟨hY2,hY3,hY4,hY5⟩
  clear eY hY1 hY2 hY3 hY4 hY5
  go_wp2_with fail
  rw [HEY.out]
  refine bodyPost_ret (results_cell_row rfl _ _ w§ 28 nd0.vals (0,0) _ rfl HY1.out Tryz.underlying28 rfl zK) rfl ⟨_,rfl,HYY.out.1,HYY.out.2.1,?_,HYY.out.2.2.2,?_⟩
  ·exact HYY.out.2.2.1
  ·exact fun q e=>by cases e
 rw [if_pos hdd]
 have HD0:Hid (∀ v,Lv v b K (t :: ts)→Calls zG 87 #[zP b,zI d] v fun e w'=>e=.returned (.bool true)∧w'=v):=fun v h=>deeper_ok h d hdd
 have hmd:(d:Int)+1≤9223372036854775807:=by omega
 have HX1:Hid (∀ (w:World) (st:St),Sp w b K st→Calls zG 54 #[zP b,zI ((d:Int)+1)] w (OutD b K w (rd ex st))):=HX.out hdd
 obtain⟨r0,er0⟩:∃ r,gBr ex ts=r:=⟨_,rfl⟩
 have HR0:Hid (gBr ex ts=r0):=er0
 rw [er0]
 clear HX hdd er0
 go_enter Tryz.func218,Tryz.ntmps218
 go_wp2_with fail
 try rw [eW0]
 refine cN.mono ?_
 rintro e w1 ⟨rfl,hb1⟩
 have HZ1:=(HZ.out.on hb1).hid
 have cI:=is_live HZ1.out.S.2 ZC ((HZ1.out.S.2.ok HK.out).kw (.inl (by simp [kwW])))
 rw [decide_eq_false HAS.out] at cI
 clear cN hb1 HZ
 go_wp2_with fail
 refine cI.mono ?_
 rintro e w2 ⟨rfl,hb2⟩
 have HZ2:=(HZ1.out.on hb2).hid
 clear cI hb2 HZ1
 have cJ:=is_live HZ2.out.S.2 Zi ((HZ2.out.S.2.ok HK.out).kw (.inr (by simp [kwM])))
 rw [decide_eq_true HBR.out] at cJ
 go_wp2_with fail
 refine cJ.mono ?_
 rintro e w3 ⟨rfl,hb3⟩
 have HZ3:=(HZ2.out.on hb3).hid
 clear cJ hb3 HZ2
 have cD:=HD0.out w3 HZ3.out.S.2
 go_wp2_with fail
 refine cD.mono ?_
 rintro e w3' ⟨rfl,e9⟩
 obtain rfl:=e9.symm
 clear cD e9
 obtain⟨i,c3,f3,hmx,hL,hM,_,_⟩:=HZ3.out.S.2.at'
 obtain⟨V,eV⟩:∃ V,w3.setCell ⟨b,3,none⟩ (zI ((i:Int)+1))=V:=⟨_,rfl⟩
 rw [eV] at hL hM
 have HZ4:=(HZ3.out.mv hM hL.sp).hid
 have cQ:=HX1.out V (nf ts) hL.sp
 rw [rd_nf HE.out] at cQ
 clear hL hM HZ3
 go_wp2_with fail
 try rw [eV]
 clear eV c3 f3 hmx
 refine cQ.mono ?_
 rintro e w5 ⟨⟨⟨k3,o3,ty3,n3,f3,x3,p3⟩,am3,cm3,ks3⟩,rfl,hl,hk,hs,hm,ht⟩
 simp only [Nd.vals,Nd.h,Nd.a,Nd.c,Nd.ks,hdA]
 have HT:Hid (∀ q,ex ts=.ok q→treeOf (Nd.mk ⟨k3,o3,ty3,n3,f3,x3,p3⟩ am3 cm3 ks3)=q.1):=ht
 have hRV:w§ < V§:=(Array.getElem?_eq_some_iff.1 HZ4.out.Z).1
 have hb6:=Bn w5 (.cells (zN k3 o3 ty3 n3 f3 x3 am3 ks3 cm3 p3) 28)
 have hX:=Hn w5 (.cells (zN k3 o3 ty3 n3 f3 x3 am3 ks3 cm3 p3) 28)
 have HZ6:=((HZ4.out.mv hm hs).on hb6).hid
 have HL6:=(hl.on hb6).hid
 have HK6:Hid (Bkn (fun k=>w§ < k∧k < w5§) (Nd.mk ⟨k3,o3,ty3,n3,f3,x3,p3⟩ am3 cm3 ks3)):=hk.mono fun j hj=>by omega
 obtain⟨W6,eW6⟩:∃ W,w5.alloc (.cells (zN k3 o3 ty3 n3 f3 x3 am3 ks3 cm3 p3) 28)=W:=⟨_,rfl⟩
 rw [eW6] at hX HZ6 HL6 hb6
 have HX6:Hid (W6.heap[w5§]? = some (.cells (zN k3 o3 ty3 n3 f3 x3 am3 ks3 cm3 p3) 28 (0,0))):=hX
 have HB6:Hid (w5§≤W6§):=hb6.size
 have HW5:Hid (w§ < w5§):=by have:=hm.size; show _ < _; omega
 have cT:=take_s HK.out HZ6.out.S Zt (.inr (by simp [kwM])) (by decide)
 clear cQ hl hk hs hm ht hRV hX hb6 HZ4
 go_wp2_with fail
 try rw [eW6]
 clear eW6
 refine cT.mono ?_
 rintro e w7 ⟨⟨pp,rfl⟩,hs,hm⟩
 have HZ7:=(HZ6.out.mv hm hs).hid
 have hbw:=HZ6.out.W.1
 have hlw:=HZ6.out.M.size
 have h56:w5§ < W6§:=(Array.getElem?_eq_some_iff.1 HX6.out).1
 have HL7 : Hid (Lies w7 (Nd.mk ⟨k3, o3, ty3, n3, f3, x3, p3⟩ am3 cm3 ks3)) := HL6.out.bkn HK6.out fun j hj => hm.block j (by omega) (by omega)
 have hX7:w7.heap[w5§]? = some (.cells (zN k3 o3 ty3 n3 f3 x3 am3 ks3 cm3 p3) 28 (0,0)):=(hm.block _ h56 (by have:=HW5.out; omega)).trans HX6.out
 have HK7:Hid (Bkn (fun k=>w§≤k∧k < w7§∧k≠w§) (Nd.mk ⟨k3,o3,ty3,n3,f3,x3,p3⟩ am3 cm3 ks3)):=HK6.out.mono fun j hj=>by have:=hm.size; have:=HB6.out; omega
 clear cT hs hm HZ6
 obtain⟨x0',x1',x2',x3',x4',x5',x6',x7'⟩:=cl8 hX7
 clear hX7 h56 hlw hbw
 obtain⟨z0,z1,z2,z3,z4,z5,z6,z7⟩:=cl8 HZ7.out.Z
 obtain⟨q0,q1,q2,q3,q4,q5,q6,q7⟩:=fz8 HZ7.out.Z
 obtain ⟨Y, eY, hY1, hY2, hY3, hY4, hY5⟩ := HZ7.out.fin HL7.out HK7.out
 have HEY:Hid (_=Y):=eY
 have HY1:Hid (Y.heap[w§]? = some (.cells (Nd.mk ⟨k3,o3,ty3,n3,f3,x3,p3⟩ am3 cm3 ks3).vals 28 (0,0))):=hY1
 have HYY:Hid (Lies Y (Nd.mk ⟨k3,o3,ty3,n3,f3,x3,p3⟩ am3 cm3 ks3)∧Bkn (fun k=>w§≤k∧k < Y§) (Nd.mk ⟨k3,o3,ty3,n3,f3,x3,p3⟩ am3 cm3 ks3)∧Sp Y b K (dTake Zt (stOf (ex ts)))∧Mv w Y (fun k=>k=b)):=⟨hY2,hY3,hY4,hY5⟩
 clear eY hY1 hY2 hY3 hY4 hY5
 go_wp2_with fail
 rw [HEY.out]
 refine bodyPost_ret (results_cell_row rfl _ _ w§ 28 (Nd.mk ⟨k3,o3,ty3,n3,f3,x3,p3⟩ am3 cm3 ks3).vals (0,0) _ rfl HY1.out Tryz.underlying28 rfl zK) rfl ⟨_,rfl,HYY.out.1,HYY.out.2.1,?_,HYY.out.2.2.2,?_⟩
 ·rw [← HR0.out,(gBr_st ex ts HT.out).1]
  exact HYY.out.2.2.1
 ·rw [← HR0.out]
  exact (gBr_st ex ts HT.out).2
theorem rest_has {K:PK}(hK:KOk K) {b:Nat}{d:Int}{w:World}{t:Tk}{ts:List Tk}(h:Lv w b K (t :: ts)) (h1:t.x=ZC) :
  Calls zG 218 #[zP b,zI d] w (OutD b K w (gHasD t.p ts)):=by
 have HZ:=(RZ.new (show Sp w b K (.ok (t :: ts)) from ⟨by simp,h⟩)).hid
 have HK:Hid (KOk K):=hK
 clear h hK
 obtain⟨W0,eW0⟩:∃ W,w.alloc (.cells zA9 28)=W:=⟨_,rfl⟩
 rw [eW0] at HZ
 have cN:=live_now HZ.out.S.2
 have hf:=fun v=>field82_4 t v
 have HAS:Hid (t.x=ZC):=h1
 have HRT:Hid (RgT t):=(HZ.out.S.2.ok HK.out).r
 clear h1
 go_enter Tryz.func218,Tryz.ntmps218
 go_wp2_with fail
 try rw [eW0]
 refine cN.mono ?_
 rintro e w1 ⟨rfl,hb1⟩
 have HZ1:=(HZ.out.on hb1).hid
 have cI:=is_live HZ1.out.S.2 ZC ((HZ1.out.S.2.ok HK.out).kw (.inl (by simp [kwW])))
 rw [decide_eq_true HAS.out] at cI
 clear cN hb1 HZ
 go_wp2_with fail
 refine cI.mono ?_
 rintro e w2 ⟨rfl,hb2⟩
 have HZ2:=(HZ1.out.on hb2).hid
 clear cI hb2 HZ1
 obtain⟨i,c3,f3,hmx,hL,hM,_,_⟩:=HZ2.out.S.2.at'
 obtain⟨V,eV⟩:∃ V,w2.setCell ⟨b,3,none⟩ (zI ((i:Int)+1))=V:=⟨_,rfl⟩
 rw [eV] at hL hM
 have HZ3:=(HZ2.out.mv hM hL.sp).hid
 clear hL hM HZ2
 cases ts with
 | nil =>
  have HDD:Hid (Dd V b K .lex):=HZ3.out.S
  have HW:Hid (Below V§ V (V.alloc (.cells #[.string Z3,.string Z2,.string Z4] 9))):=Bn _ _
  have hSL:SLs (V.alloc (.cells #[.string Z3,.string Z2,.string Z4] 9)) V§ [Z3,Z2,Z4]:=fun j hj=>by
   have hh:=Hn V (.cells #[.string Z3,.string Z2,.string Z4] 9)
   match j,hj with
   | 0,_=>exact Co hh 0
   | 1,_=>exact Co hh 1
   | 2,_=>exact Co hh 2
  have cA:=any_deadN (Dd.on HDD.out HW.out) (n:=3) (c:=3) hSL rfl (by omega) (by intro x hx; simp only [List.mem_cons,List.not_mem_nil,or_false] at hx; rcases hx with rfl | rfl | rfl <;> decide)
  clear hSL
  go_wp2_with fail
  try rw [eV]
  clear eV c3 f3 hmx
  refine cA.mono ?_
  rintro e w4 ⟨rfl,hb4⟩
  have HZ4:=((HZ3.out.on HW.out).on hb4).hid
  have HD4:Hid (Dd w4 b K .lex):=HZ4.out.S
  have cW:=wrong_dead HD4.out 130
  clear cA hb4 HW HZ3 HDD
  go_wp2_with fail
  refine cW.mono ?_
  rintro e w5 ⟨rfl,hs,hm⟩
  have HZ5:=(HZ4.out.mv (s':=.error .lex) hm hs).hid
  clear cW hs hm HZ4 HD4
  obtain⟨z0,z1,z2,z3,z4,z5,z6,z7⟩:=cl8 HZ5.out.Z
  obtain⟨q0,q1,q2,q3,q4,q5,q6,q7⟩:=fz8 HZ5.out.Z
  obtain⟨Y,eY,hY1,hY2,hY3,hY4,hY5⟩:=HZ5.out.finz
  have HEY:Hid (_=Y):=eY
  have HY1:Hid (Y.heap[w§]? = some (.cells nd0.vals 28 (0,0))):=hY1
  have HYY:Hid (Lies Y nd0∧Bkn (fun k=>w§≤k∧k < Y§) nd0∧Sp Y b K (.error .lex)∧Mv w Y (fun k=>k=b)):=⟨hY2,hY3,hY4,hY5⟩
  clear eY hY1 hY2 hY3 hY4 hY5
  go_wp2_with fail
  rw [HEY.out]
  refine bodyPost_ret (results_cell_row rfl _ _ w§ 28 nd0.vals (0,0) _ rfl HY1.out Tryz.underlying28 rfl zK) rfl ⟨_,rfl,HYY.out.1,HYY.out.2.1,?_,HYY.out.2.2.2,?_⟩
  ·exact HYY.out.2.2.1
  ·exact fun q e=>by cases e
 | cons y ts =>
  have HLV:Hid (Lv V b K (y :: ts)):=HZ3.out.S.2
  have HW:Hid (Below V§ V (V.alloc (.cells #[.string Z3,.string Z2,.string Z4] 9))):=Bn _ _
  have hSL:SLs (V.alloc (.cells #[.string Z3,.string Z2,.string Z4] 9)) V§ [Z3,Z2,Z4]:=fun j hj=>by
   have hh:=Hn V (.cells #[.string Z3,.string Z2,.string Z4] 9)
   match j,hj with
   | 0,_=>exact Co hh 0
   | 1,_=>exact Co hh 1
   | 2,_=>exact Co hh 2
  have cA:=any_liveN ((HLV.out).on HW.out) (n:=3) (c:=3) hSL rfl (by omega) (fun x hx=>((HLV.out).ok HK.out).kw (.inl (by simp only [List.mem_cons,List.not_mem_nil,or_false] at hx; rcases hx with rfl | rfl | rfl <;> simp [kwW])))
  clear hSL
  have hop:=has_op y.x
  obtain⟨v,ev⟩:∃ v,fnd y.x [Z3,Z2,Z4] 0=v:=⟨_,rfl⟩
  rw [ev] at cA hop
  clear ev
  rcases hop with ⟨rfl,hno⟩ | ⟨hv0,hv3,hfv⟩
  ·have HG:Hid (gHasD t.p (y :: ts)=.error (.tok 130 y.p)):=if_neg hno
   clear hno
   go_wp2_with fail
   try rw [eV]
   clear eV c3 f3 hmx
   refine cA.mono ?_
   rintro e w4 ⟨rfl,hb4⟩
   have HZ4:=((HZ3.out.on HW.out).on hb4).hid
   have cW:=wrong_live HZ4.out.S.2 130 (by decide)
   clear cA hb4 HW HZ3
   go_wp2_with fail
   refine cW.mono ?_
   rintro e w5 ⟨rfl,hs,hm⟩
   have HZ5:=(HZ4.out.mv (s':=.error (.tok 130 y.p)) hm hs).hid
   clear cW hs hm HZ4
   obtain⟨z0,z1,z2,z3,z4,z5,z6,z7⟩:=cl8 HZ5.out.Z
   obtain⟨q0,q1,q2,q3,q4,q5,q6,q7⟩:=fz8 HZ5.out.Z
   obtain⟨Y,eY,hY1,hY2,hY3,hY4,hY5⟩:=HZ5.out.finz
   have HEY:Hid (_=Y):=eY
   have HY1:Hid (Y.heap[w§]? = some (.cells nd0.vals 28 (0,0))):=hY1
   have HYY:Hid (Lies Y nd0∧Bkn (fun k=>w§≤k∧k < Y§) nd0∧Sp Y b K (.error (.tok 130 y.p))∧Mv w Y (fun k=>k=b)):=⟨hY2,hY3,hY4,hY5⟩
   clear eY hY1 hY2 hY3 hY4 hY5
   go_wp2_with fail
   rw [HEY.out]
   refine bodyPost_ret (results_cell_row rfl _ _ w§ 28 nd0.vals (0,0) _ rfl HY1.out Tryz.underlying28 rfl zK) rfl ⟨_,rfl,HYY.out.1,HYY.out.2.1,?_,HYY.out.2.2.2,?_⟩
   ·rw [HG.out]; exact HYY.out.2.2.1
   ·rw [HG.out]; exact fun q e=>by cases e
  ·have HG:Hid (gHasD t.p (y :: ts)=.ok (.mk ⟨4,0,0,0,v+1,gE,t.p⟩ [],ts)):=by
    show (if _ then _ else _)=_
    rw [if_pos (by rw [hfv]; omega),hfv]
   have hv4:decide (v < 0)=false:=decide_eq_false (by omega)
   clear hfv
   go_wp2_with fail
   try rw [eV]
   clear eV c3 f3 hmx
   refine cA.mono ?_
   rintro e w4 ⟨rfl,hb4⟩
   have HZ4:=((HZ3.out.on HW.out).on hb4).hid
   obtain⟨i2,c3,f3,hmx,hL,hM,_,_⟩:=HZ4.out.S.2.at'
   obtain⟨U,eU⟩:∃ V,w4.setCell ⟨b,3,none⟩ (zI ((i2:Int)+1))=V:=⟨_,rfl⟩
   rw [eU] at hL hM
   have HZ5:=(HZ4.out.mv hM hL.sp).hid
   clear cA hb4 HW HZ3 hL hM HZ4
   go_upto_region 10 with fail
   try rw [eU]
   clear eU c3 f3 hmx
   have HRW:Hid (Rg ⟨4,0,0,0,v+1,gE,t.p⟩):=by
    have:=HRT.out.p0
    have:=HRT.out.p1
    show Rg _
    constructor <;> first | omega | (show (0:Nat)≤_; omega) | (simp only; omega) | simp
   obtain⟨z0,z1,z2,z3,z4,z5,z6,z7⟩:=cl8 HZ5.out.Z
   obtain⟨q0,q1,q2,q3,q4,q5,q6,q7⟩:=fz8 HZ5.out.Z
   obtain⟨Y,eY,hY1,hY2,hY3,hY4,hY5⟩:=HZ5.out.fin (lies0 U HRW.out) (bkn0 _ _)
   have HEY:Hid (((((((((U.setCell ⟨w§,0,none⟩ (zU 4)).setCell ⟨w§,1,none⟩ (zU 0)).setCell ⟨w§,2,none⟩ (zU 0)).setCell ⟨w§,3,none⟩ (zI 0)).setCell ⟨w§,4,none⟩ (zU (v+1))).setCell ⟨w§,5,none⟩ (.string ⟨#[]⟩)).setCell ⟨w§,6,none⟩ (.slice none 0 0)).setCell ⟨w§,7,none⟩ (zI t.p))=Y):=eY
   have HY1:Hid (Y.heap[w§]? = some (.cells (Nd.mk ⟨4,0,0,0,v+1,gE,t.p⟩ none 0 []).vals 28 (0,0))):=hY1
   have HYY:Hid (Lies Y (Nd.mk ⟨4,0,0,0,v+1,gE,t.p⟩ none 0 [])∧Bkn (fun k=>w§≤k∧k < Y§) (Nd.mk ⟨4,0,0,0,v+1,gE,t.p⟩ none 0 [])∧Sp Y b K (nf ts)∧Mv w Y (fun k=>k=b)):=⟨hY2,hY3,hY4,hY5⟩
   clear eY hY1 hY2 hY3 hY4 hY5
   go_wp2_with fail
   rw [HEY.out]
   refine bodyPost_ret (results_cell_row rfl _ _ w§ 28 (Nd.mk ⟨4,0,0,0,v+1,gE,t.p⟩ none 0 []).vals (0,0) _ rfl HY1.out Tryz.underlying28 rfl zK) rfl ⟨_,rfl,HYY.out.1,HYY.out.2.1,?_,HYY.out.2.2.2,?_⟩
   ·rw [HG.out]; exact HYY.out.2.2.1
   ·rw [HG.out]; exact fun q e=>by cases e; rfl
end Go.Proofs.YtjimaceccllnlaaGreatDoor
