import Derived.Test.YtoogodlnnijikaaGreatDoorA0
import Derived.Test.YtoogodlnnijikaaGreatDoorA14
namespace Go.Proofs.YtoogodlnnijikaaGreatDoor
set_option maxHeartbeats 4000000
set_option maxRecDepth 100000
open Go.RowKit
set_option linter.unusedVariables false
theorem gTake_s (x:yB) (t:Tk) (ts:List Tk):Q5 x (t :: ts)=if t.x=x then .ok (t,ts) else .error (.tok 130 t.p):=by
 by_cases e:t.x=x
 ·simp [Q5,gIs,Jc,JD,JW,bind,Except.bind,Except.map,e]
 ·simp [Q5,gIs,Jc,JD,bind,Except.bind,Except.map,e]
theorem J5 {x:yB}{ts:List Tk}{f:Ft}(h:Q5 x ts=.error f):QY x (nf ts)=.error f:=by
 cases ts with
 | nil=>cases h; rfl
 | cons t ts =>
  rw [gTake_s] at h
  simp only [nf,QY]
  by_cases e:t.x=x
  ·rw [if_pos e] at h; cases h
  ·rw [if_neg e] at h ⊢; cases h; rfl
theorem KQ {x:yB}{ts:List Tk}{q:Tk × List Tk}(h:Q5 x ts=.ok q):QY x (nf ts)=nf q.2:=by
 cases ts with
 | nil=>cases h
 | cons t ts =>
  rw [gTake_s] at h
  simp only [nf,QY]
  by_cases e:t.x=x
  ·rw [if_pos e] at h ⊢; cases h; rfl
  ·rw [if_neg e] at h; cases h
def gC1 (ex:List Tk→Except Ft (Tr × List Tk)) (h:Hd) (ts:List Tk):Except Ft (Tr × List Tk):=do
 let (_,r) ← Q5 Zo ts
 let (k,r) ← ex r
 let (_,r) ← Q5 Zv r
 .ok (.mk h [k],r)
def gC2 (ex:List Tk→Except Ft (Tr × List Tk)) (h:Hd) (ts:List Tk):Except Ft (Tr × List Tk):=do
 let (_,r) ← Q5 Zo ts
 let (j,r) ← ex r
 let (_,r) ← Q5 Zq r
 let (k,r) ← ex r
 let (_,r) ← Q5 Zv r
 .ok (.mk h [j,k],r)
theorem gC1_st (ex:List Tk→Except Ft (Tr × List Tk)) (hE:ex []=.error .lex) (h:Hd) (ts:List Tk) {k:Tr}(hk:∀ q,rd ex (QY Zo (nf ts))=.ok q→k=q.1) :
  stOf (gC1 ex h ts)=QY Zv (stOf (rd ex (QY Zo (nf ts))))∧∀ q,gC1 ex h ts=.ok q→Tr.mk h [k]=q.1:=by
 unfold gC1
 cases h1:Q5 Zo ts with
 | error f=>rw [J5 h1]; exact⟨rfl,fun q e=>by cases e⟩
 | ok q1 =>
  rw [KQ h1,Kq hE] at *
  cases h2:ex q1.2 with
  | error f=>simp only [bind,Except.bind,h2]; exact⟨rfl,fun q e=>by cases e⟩
  | ok q2 =>
   have e:=hk q2 h2
   subst e
   simp only [bind,Except.bind,h2]
   have e4:stOf (Except.ok q2:Except Ft (Tr × List Tk))=nf q2.2:=rfl
   rw [e4]
   cases h3:Q5 Zv q2.2 with
   | error f=>rw [J5 h3]; exact⟨rfl,fun q e=>by cases e⟩
   | ok q3=>rw [KQ h3]; exact⟨rfl,fun q e=>by cases e; rfl⟩
theorem gC2_st (ex:List Tk→Except Ft (Tr × List Tk)) (hE:ex []=.error .lex) (h:Hd) (ts:List Tk) {j k:Tr}(hj:∀ q,rd ex (QY Zo (nf ts))=.ok q→j=q.1) (hk:∀ q,rd ex (QY Zq (stOf (rd ex (QY Zo (nf ts)))))=.ok q→k=q.1) :
  stOf (gC2 ex h ts)=QY Zv (stOf (rd ex (QY Zq (stOf (rd ex (QY Zo (nf ts)))))))∧∀ q,gC2 ex h ts=.ok q→Tr.mk h [j,k]=q.1:=by
 unfold gC2
 cases h1:Q5 Zo ts with
 | error f=>rw [J5 h1]; exact⟨rfl,fun q e=>by cases e⟩
 | ok q1 =>
  rw [KQ h1,Kq hE] at *
  cases h2:ex q1.2 with
  | error f=>simp only [bind,Except.bind,h2]; exact⟨rfl,fun q e=>by cases e⟩
  | ok q2 =>
   have e:=hj q2 h2
   subst e
   rw [h2] at hk
   simp only [bind,Except.bind,h2]
   have e4:stOf (Except.ok q2:Except Ft (Tr × List Tk))=nf q2.2:=rfl
   rw [e4] at hk ⊢
   cases h3:Q5 Zq q2.2 with
   | error f=>rw [J5 h3]; exact⟨rfl,fun q e=>by cases e⟩
   | ok q3 =>
    rw [KQ h3,Kq hE] at *
    cases h5:ex q3.2 with
    | error f=>simp only [h5]; exact⟨rfl,fun q e=>by cases e⟩
    | ok q5 =>
     have e:=hk q5 h5
     subst e
     simp only [h5]
     have e6:stOf (Except.ok q5:Except Ft (Tr × List Tk))=nf q5.2:=rfl
     rw [e6]
     cases h6:Q5 Zv q5.2 with
     | error f=>rw [J5 h6]; exact⟨rfl,fun q e=>by cases e⟩
     | ok q7=>rw [KQ h6]; exact⟨rfl,fun q e=>by cases e; rfl⟩
theorem QX.new2 {w:yW}{b:Nat}{K:PK}{s:St}(x:Sp w b K s) (h:Hd):QX w b K (w§+1) ((w.alloc (.cells #[zU h.k,zU h.o,zU h.t,zI h.n,zU h.f,.string h.x,.slice none 0 0,zI h.p] 48)).alloc (.cells zNo 48)) w§ (.slice none 0 0) [] h s:=by
 have hb:=Qc w (.cells #[zU h.k,zU h.o,zU h.t,zI h.n,zU h.f,.string h.x,.slice none 0 0,zI h.p] 48)
 have hs:=Qf w (.cells #[zU h.k,zU h.o,zU h.t,zI h.n,zU h.f,.string h.x,.slice none 0 0,zI h.p] 48)
 have hn:=Qd w (.cells #[zU h.k,zU h.o,zU h.t,zI h.n,zU h.f,.string h.x,.slice none 0 0,zI h.p] 48)
 obtain⟨V,eV⟩:∃ V,w.alloc (.cells #[zU h.k,zU h.o,zU h.t,zI h.n,zU h.f,.string h.x,.slice none 0 0,zI h.p] 48)=V:=⟨_,rfl⟩
 rw [eV] at hb hs hn ⊢
 have hb2:=Qc V (.cells zNo 48)
 have hn2:=Qd V (.cells zNo 48)
 rw [hs] at hn2
 exact⟨⟨Mv.ofBelow (Qe hb hb2),hn2,(x.on hb).on hb2,x.lw,by omega⟩,(hb2.block _ (by omega)).trans hn,Nat.le_refl _,by omega,Row.nil _ _ _ _,fun k h=>by simp [Value.ownBlock] at h,fun m hm=>by simp at hm⟩
theorem call1_d (ex:List Tk→Except Ft (Tr × List Tk)) (hE:ex []=.error .lex) {K:PK}(hK:KOk K) {b:Nat}{d:Nat}(hd:d≤24) (cE:d < 24→∀ (w:yW) (st:St),Sp w b K st→Calls zG 52 #[zP b,zI ((d:Int)+1)] w (OutD b K w (rd ex st))) {w:yW}{t:Tk}{ts:List Tk}(h:Lv w b K (t :: ts)) {k o ty:Int}(hr:Rg ⟨k,o,ty,0,0,gE,t.p⟩) :
  Calls zG 197 #[zP b,.agg #[zU k,zU o,zU ty,zI 0,zU 0,yQ,.slice none 0 0,zI t.p],zI 1,zI d] w (OutD b K w (if d < 24 then gC1 ex ⟨k,o,ty,0,0,gE,t.p⟩ ts else .error (.tok 132 t.p))):=by
 have HQ0:=(QX.new2 (show Sp w b K (.ok (t :: ts)) from ⟨by simp,h⟩) ⟨k,o,ty,0,0,gE,t.p⟩).hid
 unfold gE at HQ0
 dsimp only at HQ0
 have HE:Hid (ex []=.error .lex):=hE
 have HK:Hid (KOk K):=hK
 have HX:Hid (d < 24→∀ (w:yW) (st:St),Sp w b K st→Calls zG 52 #[zP b,zI ((d:Int)+1)] w (OutD b K w (rd ex st))):=cE
 have HRG:Hid (Rg ⟨k,o,ty,0,0,gE,t.p⟩):=hr
 obtain⟨W0,eW0⟩:∃ W,(w.alloc (.cells #[zU k,zU o,zU ty,zI 0,zU 0,yQ,.slice none 0 0,zI t.p] 48)).alloc (.cells zNo 48)=W:=⟨_,rfl⟩
 rw [eW0] at HQ0
 clear h hE hK cE hr
 by_cases hdd:d < 24
 rotate_left
 ·rw [if_neg hdd]
  have cD:=KH HQ0.out.X.S.2 d hdd (by omega)
  clear hdd
  go_enter Tryz.func197,Tryz.ntmps197
  go_wp2_with fail
  try rw [eW0]
  refine cD.mono ?_
  rintro e w3 ⟨rfl,hs,hm⟩
  have HZ3:=(HQ0.out.X.mv (s':=.error (.tok 132 t.p)) hm hs).hid
  clear cD hs hm HQ0
  have z0:w3.cell? ⟨(w§+1),0,none⟩=some (zU 0):=Qa HZ3.out.Z 0
  have q0:w3.frozen? ⟨(w§+1),0,none⟩=false:=Qb HZ3.out.Z 0
  have z1:w3.cell? ⟨(w§+1),1,none⟩=some (zU 0):=Qa HZ3.out.Z 1
  have q1:w3.frozen? ⟨(w§+1),1,none⟩=false:=Qb HZ3.out.Z 1
  have z2:w3.cell? ⟨(w§+1),2,none⟩=some (zU 0):=Qa HZ3.out.Z 2
  have q2:w3.frozen? ⟨(w§+1),2,none⟩=false:=Qb HZ3.out.Z 2
  have z3:w3.cell? ⟨(w§+1),3,none⟩=some (zI 0):=Qa HZ3.out.Z 3
  have q3:w3.frozen? ⟨(w§+1),3,none⟩=false:=Qb HZ3.out.Z 3
  have z4:w3.cell? ⟨(w§+1),4,none⟩=some (zU 0):=Qa HZ3.out.Z 4
  have q4:w3.frozen? ⟨(w§+1),4,none⟩=false:=Qb HZ3.out.Z 4
  have z5:w3.cell? ⟨(w§+1),5,none⟩=some (yQ):=Qa HZ3.out.Z 5
  have q5:w3.frozen? ⟨(w§+1),5,none⟩=false:=Qb HZ3.out.Z 5
  have z6:w3.cell? ⟨(w§+1),6,none⟩=some (.slice none 0 0):=Qa HZ3.out.Z 6
  have q6:w3.frozen? ⟨(w§+1),6,none⟩=false:=Qb HZ3.out.Z 6
  have z7:w3.cell? ⟨(w§+1),7,none⟩=some (zI 0):=Qa HZ3.out.Z 7
  have q7:w3.frozen? ⟨(w§+1),7,none⟩=false:=Qb HZ3.out.Z 7
  obtain⟨Y,eY,hY1,hY2,hY3,hY4,hY5⟩:=HZ3.out.finz
  have HEY:Hid (_=Y):=eY
  have HY1:Hid (Y.heap[(w§+1)]? = (zC nd0.vals 48)):=hY1
  have HYY:Hid (Lies Y nd0∧Bkn (fun k=>w§≤k∧k < Y§) nd0∧Sp Y b K (.error (.tok 132 t.p))∧Mv w Y (fun k=>k=b)):=⟨hY2,hY3,hY4,hY5⟩
  clear eY hY1 hY2 hY3 hY4 hY5
  go_wp2_with fail
  rw [HEY.out]
  refine bodyPost_ret (results_cell_row rfl _ _ (w§+1) 48 nd0.vals (0,0) _ rfl HY1.out Tryz.underlying48 rfl zK) rfl ⟨_,rfl,HYY.out.1,HYY.out.2.1,?_,HYY.out.2.2.2,?_⟩
  ·exact HYY.out.2.2.1
  ·exact fun q e=>by cases e
 rw [if_pos hdd]
 have cD:=KD HQ0.out.X.S.2 d hdd
 have hmd:(d:Int)+1≤9223372036854775807:=by omega
 have HX1:Hid (∀ (w:yW) (st:St),Sp w b K st→Calls zG 52 #[zP b,zI ((d:Int)+1)] w (OutD b K w (rd ex st))):=HX.out hdd
 obtain⟨r0,er0⟩:∃ r,gC1 ex ⟨k,o,ty,0,0,gE,t.p⟩ ts=r:=⟨_,rfl⟩
 have HR0:Hid (gC1 ex ⟨k,o,ty,0,0,gE,t.p⟩ ts=r0):=er0
 rw [er0]
 clear HX hdd er0
 go_enter Tryz.func197,Tryz.ntmps197
 go_wp2_with fail
 try rw [eW0]
 refine cD.mono ?_
 rintro e w1 ⟨rfl,e9⟩
 obtain rfl:=e9.symm
 clear cD e9
 obtain⟨i,c3,f3,hmx,hL,hM,_,_⟩:=HQ0.out.X.S.2.at'
 obtain⟨V,eV⟩:∃ V,W0.setCell b¢3 (zI ((i:Int)+1))=V:=⟨_,rfl⟩
 rw [eV] at hL hM
 have HQ1:=(HQ0.out.mv hM hL.sp).hid
 have cT:=take_s HK.out HQ1.out.X.S Zo (.inr (by simp [kwM])) (by decide)
 clear hL hM HQ0
 go_wp2_with fail
 try rw [eV]
 clear eV c3 f3 hmx
 refine cT.mono ?_
 rintro e w2 ⟨⟨pp,rfl⟩,hs,hm⟩
 have HQA:=(HQ1.out.mv hm hs).hid
 clear cT hs hm HQ1
 go_wp2_with fail
 refine wp_loop_rounds 2 ?_
 rw [rounds_succ]
 have cQ:=HX1.out w2 (QY Zo (nf ts)) HQA.out.X.S
 go_wp2_with fail
 refine cQ.mono ?_
 rintro e u0 ⟨⟨⟨k3,o3,ty3,n3,f3,x3,p3⟩,am3,cm3,ks3⟩,rfl,hl,hk,hs,hm,ht⟩
 simp only [Nd.vals,Nd.h,Nd.a,Nd.c,Nd.ks,hdA]
 have HQB0:=(HQA.out.mv hm hs).hid
 have HT0:Hid (∀ q,rd ex (QY Zo (nf ts))=.ok q→Qh (Nd.mk ⟨k3,o3,ty3,n3,f3,x3,p3⟩ am3 cm3 ks3)=q.1):=ht
 have hNV:w§ < w2§:=(zJ HQA.out.N).1
 have hRV:w§+1 < w2§:=(zJ HQA.out.X.Z).1
 have hb6:=Qc u0 (.cells (zW k3 o3 ty3 n3 f3 x3 am3 ks3 cm3 p3) 48)
 have hX:=Qd u0 (.cells (zW k3 o3 ty3 n3 f3 x3 am3 ks3 cm3 p3) 48)
 have hs6:=Qf u0 (.cells (zW k3 o3 ty3 n3 f3 x3 am3 ks3 cm3 p3) 48)
 have HQC0:=(HQB0.out.on hb6).hid
 have HL0:=(hl.on hb6).hid
 obtain⟨X0,eX0⟩:∃ W,u0.alloc (.cells (zW k3 o3 ty3 n3 f3 x3 am3 ks3 cm3 p3) 48)=W:=⟨_,rfl⟩
 rw [eX0] at hX hs6 HQC0 HL0
 have HK0:Hid (Bkn (fun k=>w§≤k∧k < X0§∧k≠w§∧k≠w§+1∧(Value.slice none 0 0).ownBlock≠some k) (Nd.mk ⟨k3,o3,ty3,n3,f3,x3,p3⟩ am3 cm3 ks3)):=hk.mono fun j hj=>⟨by omega,by omega,by omega,by omega,by simp [Value.ownBlock]⟩
 have x0':X0.cell? u0§¢0=some (zU k3):=Qa hX 0
 have x1':X0.cell? u0§¢1=some (zU o3):=Qa hX 1
 have x2':X0.cell? u0§¢2=some (zU ty3):=Qa hX 2
 have x3':X0.cell? u0§¢3=some (zI n3):=Qa hX 3
 have x4':X0.cell? u0§¢4=some (zU f3):=Qa hX 4
 have x5':X0.cell? u0§¢5=some (.string x3):=Qa hX 5
 have x6':X0.cell? u0§¢6=some (.slice am3 ks3.length cm3):=Qa hX 6
 have x7':X0.cell? u0§¢7=some (zI p3):=Qa hX 7
 have c6:X0.cell? w§¢6=some (.slice none 0 0):=Qa HQC0.out.N 6
 clear cQ hl hk hs hm ht hNV hRV hX hs6 hb6 HQA HQB0
 go_upto_region 12 with fail
 try rw [eX0]
 clear eX0
 go_upto_region 8 with (at_builtin; refine list_rowN rfl (.tmp 41) (.tmp 43) rfl (Nd.mk ⟨k3,o3,ty3,n3,f3,x3,p3⟩ am3 cm3 ks3) HQC0.out.row rfl rfl (by show 0≤1000000000; omega) 1 rfl ?_; intro g0 cap0 y0 hr8 h83 h84; obtain⟨e8,q8⟩:=HQC0.out.appN (n:=1) (M:=[(Nd.mk ⟨k3,o3,ty3,n3,f3,x3,p3⟩ am3 cm3 ks3)]) rfl rfl HL0.out HK0.out hr8 h83 h84; have HQD0:=q8.hid; have g6:y0.cell? w§¢6=some (.slice none 0 0):=Qa (e8.trans HQC0.out.N) 6; have k6:y0.frozen? w§¢6=false:=Qb (e8.trans HQC0.out.N) 6; clear e8 q8 hr8 h83 h84)
 obtain⟨Z0,eZ0⟩:∃ W,y0.setCell w§¢6 (.slice (some g0¢0) 1 cap0)=W:=⟨_,rfl⟩
 rw [eZ0] at HQD0 ⊢
 clear eZ0 g6 k6 c6 x0' x1' x2' x3' x4' x5' x6' x7' HQC0 HL0 HK0
 go_wp2_with fail
 rw [rounds_succ]
 have cT:=take_s HK.out HQD0.out.X.S Zv (.inr (by simp [kwM])) (by decide)
 go_wp2_with fail
 refine cT.mono ?_
 rintro e w9 ⟨⟨pp9,rfl⟩,hs,hm⟩
 have HQ9:=(HQD0.out.mv hm hs).hid
 clear cT hs hm HQD0
 have y0:w9.cell? w§¢0=some (zU k):=Qa HQ9.out.N 0
 have z0:w9.cell? ⟨(w§+1),0,none⟩=some (zU 0):=Qa HQ9.out.X.Z 0
 have q0:w9.frozen? ⟨(w§+1),0,none⟩=false:=Qb HQ9.out.X.Z 0
 have y1:w9.cell? w§¢1=some (zU o):=Qa HQ9.out.N 1
 have z1:w9.cell? ⟨(w§+1),1,none⟩=some (zU 0):=Qa HQ9.out.X.Z 1
 have q1:w9.frozen? ⟨(w§+1),1,none⟩=false:=Qb HQ9.out.X.Z 1
 have y2:w9.cell? w§¢2=some (zU ty):=Qa HQ9.out.N 2
 have z2:w9.cell? ⟨(w§+1),2,none⟩=some (zU 0):=Qa HQ9.out.X.Z 2
 have q2:w9.frozen? ⟨(w§+1),2,none⟩=false:=Qb HQ9.out.X.Z 2
 have y3:w9.cell? w§¢3=some (zI 0):=Qa HQ9.out.N 3
 have z3:w9.cell? ⟨(w§+1),3,none⟩=some (zI 0):=Qa HQ9.out.X.Z 3
 have q3:w9.frozen? ⟨(w§+1),3,none⟩=false:=Qb HQ9.out.X.Z 3
 have y4:w9.cell? w§¢4=some (zU 0):=Qa HQ9.out.N 4
 have z4:w9.cell? ⟨(w§+1),4,none⟩=some (zU 0):=Qa HQ9.out.X.Z 4
 have q4:w9.frozen? ⟨(w§+1),4,none⟩=false:=Qb HQ9.out.X.Z 4
 have y5:w9.cell? w§¢5=some (yQ):=Qa HQ9.out.N 5
 have z5:w9.cell? ⟨(w§+1),5,none⟩=some (yQ):=Qa HQ9.out.X.Z 5
 have q5:w9.frozen? ⟨(w§+1),5,none⟩=false:=Qb HQ9.out.X.Z 5
 have y6:w9.cell? w§¢6=some (.slice (some g0¢0) 1 cap0):=Qa HQ9.out.N 6
 have z6:w9.cell? ⟨(w§+1),6,none⟩=some (.slice none 0 0):=Qa HQ9.out.X.Z 6
 have q6:w9.frozen? ⟨(w§+1),6,none⟩=false:=Qb HQ9.out.X.Z 6
 have y7:w9.cell? w§¢7=some (zI t.p):=Qa HQ9.out.N 7
 have z7:w9.cell? ⟨(w§+1),7,none⟩=some (zI 0):=Qa HQ9.out.X.Z 7
 have q7:w9.frozen? ⟨(w§+1),7,none⟩=false:=Qb HQ9.out.X.Z 7
 obtain⟨Y,eY,hY1,hY2,hY3,hY4,hY5⟩:=HQ9.out.fin rfl HRG.out
 have HEY:Hid (((((((((w9.setCell ⟨(w§+1),0,none⟩ (zU k)).setCell ⟨(w§+1),1,none⟩ (zU o)).setCell ⟨(w§+1),2,none⟩ (zU ty)).setCell ⟨(w§+1),3,none⟩ (zI 0)).setCell ⟨(w§+1),4,none⟩ (zU 0)).setCell ⟨(w§+1),5,none⟩ (yQ)).setCell ⟨(w§+1),6,none⟩ (.slice (some g0¢0) 1 cap0)).setCell ⟨(w§+1),7,none⟩ (zI t.p))=Y):=eY
 have HY1:Hid (Y.heap[(w§+1)]? = (zC (Nd.mk ⟨k,o,ty,0,0,gE,t.p⟩ (some g0¢0) cap0 [(Nd.mk ⟨k3,o3,ty3,n3,f3,x3,p3⟩ am3 cm3 ks3)]).vals 48)):=hY1
 have HYY:Hid (Lies Y (Nd.mk ⟨k,o,ty,0,0,gE,t.p⟩ (some g0¢0) cap0 [(Nd.mk ⟨k3,o3,ty3,n3,f3,x3,p3⟩ am3 cm3 ks3)])∧Bkn (fun k=>w§≤k∧k < Y§) (Nd.mk ⟨k,o,ty,0,0,gE,t.p⟩ (some g0¢0) cap0 [(Nd.mk ⟨k3,o3,ty3,n3,f3,x3,p3⟩ am3 cm3 ks3)])∧Sp Y b K (QY Zv (stOf (rd ex (QY Zo (nf ts)))))∧Mv w Y (fun k=>k=b)):=⟨hY2,hY3,hY4,hY5⟩
 clear eY hY1 hY2 hY3 hY4 hY5
 go_wp2_with fail
 rw [HEY.out]
 refine bodyPost_ret (results_cell_row rfl _ _ (w§+1) 48 (Nd.mk ⟨k,o,ty,0,0,gE,t.p⟩ (some g0¢0) cap0 [(Nd.mk ⟨k3,o3,ty3,n3,f3,x3,p3⟩ am3 cm3 ks3)]).vals (0,0) _ rfl HY1.out Tryz.underlying48 rfl zK) rfl ⟨_,rfl,HYY.out.1,HYY.out.2.1,?_,HYY.out.2.2.2,?_⟩
 ·rw [← HR0.out,(gC1_st ex HE.out ⟨k,o,ty,0,0,gE,t.p⟩ ts HT0.out).1]
  exact HYY.out.2.2.1
 ·rw [← HR0.out]
  exact (gC1_st ex HE.out ⟨k,o,ty,0,0,gE,t.p⟩ ts HT0.out).2
theorem call2_d (ex:List Tk→Except Ft (Tr × List Tk)) (hE:ex []=.error .lex) {K:PK}(hK:KOk K) {b:Nat}{d:Nat}(hd:d≤24) (cE:d < 24→∀ (w:yW) (st:St),Sp w b K st→Calls zG 52 #[zP b,zI ((d:Int)+1)] w (OutD b K w (rd ex st))) {w:yW}{t:Tk}{ts:List Tk}(h:Lv w b K (t :: ts)) {k o ty:Int}(hr:Rg ⟨k,o,ty,0,0,gE,t.p⟩) :
  Calls zG 197 #[zP b,.agg #[zU k,zU o,zU ty,zI 0,zU 0,yQ,.slice none 0 0,zI t.p],zI 2,zI d] w (OutD b K w (if d < 24 then gC2 ex ⟨k,o,ty,0,0,gE,t.p⟩ ts else .error (.tok 132 t.p))):=by
 have HQ0:=(QX.new2 (show Sp w b K (.ok (t :: ts)) from ⟨by simp,h⟩) ⟨k,o,ty,0,0,gE,t.p⟩).hid
 unfold gE at HQ0
 dsimp only at HQ0
 have HE:Hid (ex []=.error .lex):=hE
 have HK:Hid (KOk K):=hK
 have HX:Hid (d < 24→∀ (w:yW) (st:St),Sp w b K st→Calls zG 52 #[zP b,zI ((d:Int)+1)] w (OutD b K w (rd ex st))):=cE
 have HRG:Hid (Rg ⟨k,o,ty,0,0,gE,t.p⟩):=hr
 obtain⟨W0,eW0⟩:∃ W,(w.alloc (.cells #[zU k,zU o,zU ty,zI 0,zU 0,yQ,.slice none 0 0,zI t.p] 48)).alloc (.cells zNo 48)=W:=⟨_,rfl⟩
 rw [eW0] at HQ0
 clear h hE hK cE hr
 by_cases hdd:d < 24
 rotate_left
 ·rw [if_neg hdd]
  have cD:=KH HQ0.out.X.S.2 d hdd (by omega)
  clear hdd
  go_enter Tryz.func197,Tryz.ntmps197
  go_wp2_with fail
  try rw [eW0]
  refine cD.mono ?_
  rintro e w3 ⟨rfl,hs,hm⟩
  have HZ3:=(HQ0.out.X.mv (s':=.error (.tok 132 t.p)) hm hs).hid
  clear cD hs hm HQ0
  have z0:w3.cell? ⟨(w§+1),0,none⟩=some (zU 0):=Qa HZ3.out.Z 0
  have q0:w3.frozen? ⟨(w§+1),0,none⟩=false:=Qb HZ3.out.Z 0
  have z1:w3.cell? ⟨(w§+1),1,none⟩=some (zU 0):=Qa HZ3.out.Z 1
  have q1:w3.frozen? ⟨(w§+1),1,none⟩=false:=Qb HZ3.out.Z 1
  have z2:w3.cell? ⟨(w§+1),2,none⟩=some (zU 0):=Qa HZ3.out.Z 2
  have q2:w3.frozen? ⟨(w§+1),2,none⟩=false:=Qb HZ3.out.Z 2
  have z3:w3.cell? ⟨(w§+1),3,none⟩=some (zI 0):=Qa HZ3.out.Z 3
  have q3:w3.frozen? ⟨(w§+1),3,none⟩=false:=Qb HZ3.out.Z 3
  have z4:w3.cell? ⟨(w§+1),4,none⟩=some (zU 0):=Qa HZ3.out.Z 4
  have q4:w3.frozen? ⟨(w§+1),4,none⟩=false:=Qb HZ3.out.Z 4
  have z5:w3.cell? ⟨(w§+1),5,none⟩=some (yQ):=Qa HZ3.out.Z 5
  have q5:w3.frozen? ⟨(w§+1),5,none⟩=false:=Qb HZ3.out.Z 5
  have z6:w3.cell? ⟨(w§+1),6,none⟩=some (.slice none 0 0):=Qa HZ3.out.Z 6
  have q6:w3.frozen? ⟨(w§+1),6,none⟩=false:=Qb HZ3.out.Z 6
  have z7:w3.cell? ⟨(w§+1),7,none⟩=some (zI 0):=Qa HZ3.out.Z 7
  have q7:w3.frozen? ⟨(w§+1),7,none⟩=false:=Qb HZ3.out.Z 7
  obtain⟨Y,eY,hY1,hY2,hY3,hY4,hY5⟩:=HZ3.out.finz
  have HEY:Hid (_=Y):=eY
  have HY1:Hid (Y.heap[(w§+1)]? = (zC nd0.vals 48)):=hY1
  have HYY:Hid (Lies Y nd0∧Bkn (fun k=>w§≤k∧k < Y§) nd0∧Sp Y b K (.error (.tok 132 t.p))∧Mv w Y (fun k=>k=b)):=⟨hY2,hY3,hY4,hY5⟩
  clear eY hY1 hY2 hY3 hY4 hY5
  go_wp2_with fail
  rw [HEY.out]
  refine bodyPost_ret (results_cell_row rfl _ _ (w§+1) 48 nd0.vals (0,0) _ rfl HY1.out Tryz.underlying48 rfl zK) rfl ⟨_,rfl,HYY.out.1,HYY.out.2.1,?_,HYY.out.2.2.2,?_⟩
  ·exact HYY.out.2.2.1
  ·exact fun q e=>by cases e
 rw [if_pos hdd]
 have cD:=KD HQ0.out.X.S.2 d hdd
 have hmd:(d:Int)+1≤9223372036854775807:=by omega
 have HX1:Hid (∀ (w:yW) (st:St),Sp w b K st→Calls zG 52 #[zP b,zI ((d:Int)+1)] w (OutD b K w (rd ex st))):=HX.out hdd
 obtain⟨r0,er0⟩:∃ r,gC2 ex ⟨k,o,ty,0,0,gE,t.p⟩ ts=r:=⟨_,rfl⟩
 have HR0:Hid (gC2 ex ⟨k,o,ty,0,0,gE,t.p⟩ ts=r0):=er0
 rw [er0]
 clear HX hdd er0
 go_enter Tryz.func197,Tryz.ntmps197
 go_wp2_with fail
 try rw [eW0]
 refine cD.mono ?_
 rintro e w1 ⟨rfl,e9⟩
 obtain rfl:=e9.symm
 clear cD e9
 obtain⟨i,c3,f3,hmx,hL,hM,_,_⟩:=HQ0.out.X.S.2.at'
 obtain⟨V,eV⟩:∃ V,W0.setCell b¢3 (zI ((i:Int)+1))=V:=⟨_,rfl⟩
 rw [eV] at hL hM
 have HQ1:=(HQ0.out.mv hM hL.sp).hid
 have cT:=take_s HK.out HQ1.out.X.S Zo (.inr (by simp [kwM])) (by decide)
 clear hL hM HQ0
 go_wp2_with fail
 try rw [eV]
 clear eV c3 f3 hmx
 refine cT.mono ?_
 rintro e w2 ⟨⟨pp,rfl⟩,hs,hm⟩
 have HQA:=(HQ1.out.mv hm hs).hid
 clear cT hs hm HQ1
 go_wp2_with fail
 refine wp_loop_rounds 3 ?_
 rw [rounds_succ]
 have cQ:=HX1.out w2 (QY Zo (nf ts)) HQA.out.X.S
 go_wp2_with fail
 refine cQ.mono ?_
 rintro e u0 ⟨⟨⟨k3,o3,ty3,n3,f3,x3,p3⟩,am3,cm3,ks3⟩,rfl,hl,hk,hs,hm,ht⟩
 simp only [Nd.vals,Nd.h,Nd.a,Nd.c,Nd.ks,hdA]
 have HQB0:=(HQA.out.mv hm hs).hid
 have HT0:Hid (∀ q,rd ex (QY Zo (nf ts))=.ok q→Qh (Nd.mk ⟨k3,o3,ty3,n3,f3,x3,p3⟩ am3 cm3 ks3)=q.1):=ht
 have hNV:w§ < w2§:=(zJ HQA.out.N).1
 have hRV:w§+1 < w2§:=(zJ HQA.out.X.Z).1
 have hb6:=Qc u0 (.cells (zW k3 o3 ty3 n3 f3 x3 am3 ks3 cm3 p3) 48)
 have hX:=Qd u0 (.cells (zW k3 o3 ty3 n3 f3 x3 am3 ks3 cm3 p3) 48)
 have hs6:=Qf u0 (.cells (zW k3 o3 ty3 n3 f3 x3 am3 ks3 cm3 p3) 48)
 have HQC0:=(HQB0.out.on hb6).hid
 have HL0:=(hl.on hb6).hid
 obtain⟨X0,eX0⟩:∃ W,u0.alloc (.cells (zW k3 o3 ty3 n3 f3 x3 am3 ks3 cm3 p3) 48)=W:=⟨_,rfl⟩
 rw [eX0] at hX hs6 HQC0 HL0
 have HK0:Hid (Bkn (fun k=>w§≤k∧k < X0§∧k≠w§∧k≠w§+1∧(Value.slice none 0 0).ownBlock≠some k) (Nd.mk ⟨k3,o3,ty3,n3,f3,x3,p3⟩ am3 cm3 ks3)):=hk.mono fun j hj=>⟨by omega,by omega,by omega,by omega,by simp [Value.ownBlock]⟩
 have x0':X0.cell? u0§¢0=some (zU k3):=Qa hX 0
 have x1':X0.cell? u0§¢1=some (zU o3):=Qa hX 1
 have x2':X0.cell? u0§¢2=some (zU ty3):=Qa hX 2
 have x3':X0.cell? u0§¢3=some (zI n3):=Qa hX 3
 have x4':X0.cell? u0§¢4=some (zU f3):=Qa hX 4
 have x5':X0.cell? u0§¢5=some (.string x3):=Qa hX 5
 have x6':X0.cell? u0§¢6=some (.slice am3 ks3.length cm3):=Qa hX 6
 have x7':X0.cell? u0§¢7=some (zI p3):=Qa hX 7
 have c6:X0.cell? w§¢6=some (.slice none 0 0):=Qa HQC0.out.N 6
 clear cQ hl hk hs hm ht hNV hRV hX hs6 hb6 HQA HQB0
 go_upto_region 12 with fail
 try rw [eX0]
 clear eX0
 go_upto_region 8 with (at_builtin; refine list_rowN rfl (.tmp 41) (.tmp 43) rfl (Nd.mk ⟨k3,o3,ty3,n3,f3,x3,p3⟩ am3 cm3 ks3) HQC0.out.row rfl rfl (by show 0≤1000000000; omega) 1 rfl ?_; intro g0 cap0 y0 hr8 h83 h84; obtain⟨e8,q8⟩:=HQC0.out.appN (n:=1) (M:=[(Nd.mk ⟨k3,o3,ty3,n3,f3,x3,p3⟩ am3 cm3 ks3)]) rfl rfl HL0.out HK0.out hr8 h83 h84; have HQD0:=q8.hid; have g6:y0.cell? w§¢6=some (.slice none 0 0):=Qa (e8.trans HQC0.out.N) 6; have k6:y0.frozen? w§¢6=false:=Qb (e8.trans HQC0.out.N) 6; clear e8 q8 hr8 h83 h84)
 obtain⟨Z0,eZ0⟩:∃ W,y0.setCell w§¢6 (.slice (some g0¢0) 1 cap0)=W:=⟨_,rfl⟩
 rw [eZ0] at HQD0 ⊢
 clear eZ0 g6 k6 c6 x0' x1' x2' x3' x4' x5' x6' x7' HQC0 HL0 HK0
 go_wp2_with fail
 rw [rounds_succ]
 have cT:=take_s HK.out HQD0.out.X.S Zq (.inr (by simp [kwM])) (by decide)
 go_wp2_with fail
 refine cT.mono ?_
 rintro e w21 ⟨⟨pp1,rfl⟩,hs,hm⟩
 have HQT1:=(HQD0.out.mv hm hs).hid
 clear cT hs hm HQD0
 have cQ:=HX1.out w21 (QY Zq (stOf (rd ex (QY Zo (nf ts))))) HQT1.out.X.S
 go_wp2_with fail
 refine cQ.mono ?_
 rintro e u1 ⟨⟨⟨k4,o4,ty4,n4,f4,x4,p4⟩,am4,cm4,ks4⟩,rfl,hl,hk,hs,hm,ht⟩
 simp only [Nd.vals,Nd.h,Nd.a,Nd.c,Nd.ks,hdA]
 have HQB1:=(HQT1.out.mv hm hs).hid
 have HT1:Hid (∀ q,rd ex (QY Zq (stOf (rd ex (QY Zo (nf ts)))))=.ok q→Qh (Nd.mk ⟨k4,o4,ty4,n4,f4,x4,p4⟩ am4 cm4 ks4)=q.1):=ht
 have hNV:w§ < w21§:=(zJ HQT1.out.N).1
 have hRV:w§+1 < w21§:=(zJ HQT1.out.X.Z).1
 have hb6:=Qc u1 (.cells (zW k4 o4 ty4 n4 f4 x4 am4 ks4 cm4 p4) 48)
 have hX:=Qd u1 (.cells (zW k4 o4 ty4 n4 f4 x4 am4 ks4 cm4 p4) 48)
 have hs6:=Qf u1 (.cells (zW k4 o4 ty4 n4 f4 x4 am4 ks4 cm4 p4) 48)
 have HQC1:=(HQB1.out.on hb6).hid
 have HL1:=(hl.on hb6).hid
 obtain⟨X1,eX1⟩:∃ W,u1.alloc (.cells (zW k4 o4 ty4 n4 f4 x4 am4 ks4 cm4 p4) 48)=W:=⟨_,rfl⟩
 rw [eX1] at hX hs6 HQC1 HL1
 have hgl:g0 < w21§:=HQT1.out.row.lt g0 rfl
 have HK1:Hid (Bkn (fun k=>w§≤k∧k < X1§∧k≠w§∧k≠w§+1∧(Value.slice (some g0¢0) 1 cap0).ownBlock≠some k) (Nd.mk ⟨k4,o4,ty4,n4,f4,x4,p4⟩ am4 cm4 ks4)):=hk.mono fun j hj=>⟨by omega,by omega,by omega,by omega,by simp [Value.ownBlock]; omega⟩
 have x0':X1.cell? u1§¢0=some (zU k4):=Qa hX 0
 have x1':X1.cell? u1§¢1=some (zU o4):=Qa hX 1
 have x2':X1.cell? u1§¢2=some (zU ty4):=Qa hX 2
 have x3':X1.cell? u1§¢3=some (zI n4):=Qa hX 3
 have x4':X1.cell? u1§¢4=some (zU f4):=Qa hX 4
 have x5':X1.cell? u1§¢5=some (.string x4):=Qa hX 5
 have x6':X1.cell? u1§¢6=some (.slice am4 ks4.length cm4):=Qa hX 6
 have x7':X1.cell? u1§¢7=some (zI p4):=Qa hX 7
 have c6:X1.cell? w§¢6=some (.slice (some g0¢0) 1 cap0):=Qa HQC1.out.N 6
 clear cQ hl hk hs hm ht hNV hRV hX hs6 hb6 HQT1 HQB1 hgl
 go_upto_region 12 with fail
 try rw [eX1]
 clear eX1
 go_upto_region 8 with (at_builtin; refine list_rowN rfl (.tmp 41) (.tmp 43) rfl (Nd.mk ⟨k4,o4,ty4,n4,f4,x4,p4⟩ am4 cm4 ks4) HQC1.out.row rfl rfl (by show 1≤1000000000; omega) 2 rfl ?_; intro g1 cap1 y1 hr8 h83 h84; obtain⟨e8,q8⟩:=HQC1.out.appN (n:=2) (M:=[(Nd.mk ⟨k3,o3,ty3,n3,f3,x3,p3⟩ am3 cm3 ks3),(Nd.mk ⟨k4,o4,ty4,n4,f4,x4,p4⟩ am4 cm4 ks4)]) rfl rfl HL1.out HK1.out hr8 h83 h84; have HQD1:=q8.hid; have g6:y1.cell? w§¢6=some (.slice (some g0¢0) 1 cap0):=Qa (e8.trans HQC1.out.N) 6; have k6:y1.frozen? w§¢6=false:=Qb (e8.trans HQC1.out.N) 6; clear e8 q8 hr8 h83 h84)
 obtain⟨Z1,eZ1⟩:∃ W,y1.setCell w§¢6 (.slice (some g1¢0) 2 cap1)=W:=⟨_,rfl⟩
 rw [eZ1] at HQD1 ⊢
 clear eZ1 g6 k6 c6 x0' x1' x2' x3' x4' x5' x6' x7' HQC1 HL1 HK1
 go_wp2_with fail
 rw [rounds_succ]
 have cT:=take_s HK.out HQD1.out.X.S Zv (.inr (by simp [kwM])) (by decide)
 go_wp2_with fail
 refine cT.mono ?_
 rintro e w9 ⟨⟨pp9,rfl⟩,hs,hm⟩
 have HQ9:=(HQD1.out.mv hm hs).hid
 clear cT hs hm HQD1
 have y0:w9.cell? w§¢0=some (zU k):=Qa HQ9.out.N 0
 have z0:w9.cell? ⟨(w§+1),0,none⟩=some (zU 0):=Qa HQ9.out.X.Z 0
 have q0:w9.frozen? ⟨(w§+1),0,none⟩=false:=Qb HQ9.out.X.Z 0
 have y1:w9.cell? w§¢1=some (zU o):=Qa HQ9.out.N 1
 have z1:w9.cell? ⟨(w§+1),1,none⟩=some (zU 0):=Qa HQ9.out.X.Z 1
 have q1:w9.frozen? ⟨(w§+1),1,none⟩=false:=Qb HQ9.out.X.Z 1
 have y2:w9.cell? w§¢2=some (zU ty):=Qa HQ9.out.N 2
 have z2:w9.cell? ⟨(w§+1),2,none⟩=some (zU 0):=Qa HQ9.out.X.Z 2
 have q2:w9.frozen? ⟨(w§+1),2,none⟩=false:=Qb HQ9.out.X.Z 2
 have y3:w9.cell? w§¢3=some (zI 0):=Qa HQ9.out.N 3
 have z3:w9.cell? ⟨(w§+1),3,none⟩=some (zI 0):=Qa HQ9.out.X.Z 3
 have q3:w9.frozen? ⟨(w§+1),3,none⟩=false:=Qb HQ9.out.X.Z 3
 have y4:w9.cell? w§¢4=some (zU 0):=Qa HQ9.out.N 4
 have z4:w9.cell? ⟨(w§+1),4,none⟩=some (zU 0):=Qa HQ9.out.X.Z 4
 have q4:w9.frozen? ⟨(w§+1),4,none⟩=false:=Qb HQ9.out.X.Z 4
 have y5:w9.cell? w§¢5=some (yQ):=Qa HQ9.out.N 5
 have z5:w9.cell? ⟨(w§+1),5,none⟩=some (yQ):=Qa HQ9.out.X.Z 5
 have q5:w9.frozen? ⟨(w§+1),5,none⟩=false:=Qb HQ9.out.X.Z 5
 have y6:w9.cell? w§¢6=some (.slice (some g1¢0) 2 cap1):=Qa HQ9.out.N 6
 have z6:w9.cell? ⟨(w§+1),6,none⟩=some (.slice none 0 0):=Qa HQ9.out.X.Z 6
 have q6:w9.frozen? ⟨(w§+1),6,none⟩=false:=Qb HQ9.out.X.Z 6
 have y7:w9.cell? w§¢7=some (zI t.p):=Qa HQ9.out.N 7
 have z7:w9.cell? ⟨(w§+1),7,none⟩=some (zI 0):=Qa HQ9.out.X.Z 7
 have q7:w9.frozen? ⟨(w§+1),7,none⟩=false:=Qb HQ9.out.X.Z 7
 obtain⟨Y,eY,hY1,hY2,hY3,hY4,hY5⟩:=HQ9.out.fin rfl HRG.out
 have HEY:Hid (((((((((w9.setCell ⟨(w§+1),0,none⟩ (zU k)).setCell ⟨(w§+1),1,none⟩ (zU o)).setCell ⟨(w§+1),2,none⟩ (zU ty)).setCell ⟨(w§+1),3,none⟩ (zI 0)).setCell ⟨(w§+1),4,none⟩ (zU 0)).setCell ⟨(w§+1),5,none⟩ (yQ)).setCell ⟨(w§+1),6,none⟩ (.slice (some g1¢0) 2 cap1)).setCell ⟨(w§+1),7,none⟩ (zI t.p))=Y):=eY
 have HY1:Hid (Y.heap[(w§+1)]? = (zC (Nd.mk ⟨k,o,ty,0,0,gE,t.p⟩ (some g1¢0) cap1 [(Nd.mk ⟨k3,o3,ty3,n3,f3,x3,p3⟩ am3 cm3 ks3),(Nd.mk ⟨k4,o4,ty4,n4,f4,x4,p4⟩ am4 cm4 ks4)]).vals 48)):=hY1
 have HYY:Hid (Lies Y (Nd.mk ⟨k,o,ty,0,0,gE,t.p⟩ (some g1¢0) cap1 [(Nd.mk ⟨k3,o3,ty3,n3,f3,x3,p3⟩ am3 cm3 ks3),(Nd.mk ⟨k4,o4,ty4,n4,f4,x4,p4⟩ am4 cm4 ks4)])∧Bkn (fun k=>w§≤k∧k < Y§) (Nd.mk ⟨k,o,ty,0,0,gE,t.p⟩ (some g1¢0) cap1 [(Nd.mk ⟨k3,o3,ty3,n3,f3,x3,p3⟩ am3 cm3 ks3),(Nd.mk ⟨k4,o4,ty4,n4,f4,x4,p4⟩ am4 cm4 ks4)])∧Sp Y b K (QY Zv (stOf (rd ex (QY Zq (stOf (rd ex (QY Zo (nf ts))))))))∧Mv w Y (fun k=>k=b)):=⟨hY2,hY3,hY4,hY5⟩
 clear eY hY1 hY2 hY3 hY4 hY5
 go_wp2_with fail
 rw [HEY.out]
 refine bodyPost_ret (results_cell_row rfl _ _ (w§+1) 48 (Nd.mk ⟨k,o,ty,0,0,gE,t.p⟩ (some g1¢0) cap1 [(Nd.mk ⟨k3,o3,ty3,n3,f3,x3,p3⟩ am3 cm3 ks3),(Nd.mk ⟨k4,o4,ty4,n4,f4,x4,p4⟩ am4 cm4 ks4)]).vals (0,0) _ rfl HY1.out Tryz.underlying48 rfl zK) rfl ⟨_,rfl,HYY.out.1,HYY.out.2.1,?_,HYY.out.2.2.2,?_⟩
 ·rw [← HR0.out,(gC2_st ex HE.out ⟨k,o,ty,0,0,gE,t.p⟩ ts HT0.out HT1.out).1]
  exact HYY.out.2.2.1
 ·rw [← HR0.out]
  exact (gC2_st ex HE.out ⟨k,o,ty,0,0,gE,t.p⟩ ts HT0.out HT1.out).2
end Go.Proofs.YtoogodlnnijikaaGreatDoor
