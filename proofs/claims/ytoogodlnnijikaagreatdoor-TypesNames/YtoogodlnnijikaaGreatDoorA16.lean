import Derived.Test.YtoogodlnnijikaaGreatDoorA0
import Derived.Test.YtoogodlnnijikaaGreatDoorA15
namespace Go.Proofs.YtoogodlnnijikaaGreatDoor
set_option maxHeartbeats 4000000
set_option maxRecDepth 100000
open Go.RowKit
set_option linter.unusedVariables false
theorem has_op (y:yB):(fnd y [Z3,Z2,Z5] 0 = -1∧¬ (1≤Q0 y∧Q0 y≤3))∨(0≤fnd y [Z3,Z2,Z5] 0∧fnd y [Z3,Z2,Z5] 0 < 3∧Q0 y=fnd y [Z3,Z2,Z5] 0+1):=by
 by_cases e0:y=Z3
 ·subst e0; exact .inr (by decide +kernel)
 by_cases e1:y=Z2
 ·subst e1; exact .inr (by decide +kernel)
 by_cases e2:y=Z5
 ·subst e2; exact .inr (by decide +kernel)
 left
 have q0:(eqX y [98,105,100]=true)=(y=Z3):=QE y #[98,105,100]
 have q1:(eqX y [97,115,107]=true)=(y=Z2):=QE y #[97,115,107]
 have q2:(eqX y [108,97,115,116]=true)=(y=Z5):=QE y #[108,97,115,116]
 refine⟨by simp only [fnd,if_neg e0,if_neg e1,if_neg e2],?_⟩
 unfold Q0
 rw [if_neg (by rw [q0]; exact e0),if_neg (by rw [q1]; exact e1),if_neg (by rw [q2]; exact e2)]
 split
 ·omega
 split
 ·omega
 split
 ·omega
 omega
def gHasD (p:Int):List Tk→Except Ft (Tr × List Tk)
 | []=>.error .lex
 | y :: r=>if 1≤Q0 y.x∧Q0 y.x≤3 then .ok (.mk ⟨4,0,0,0,Q0 y.x,gE,p⟩ [],r) else .error (.tok 130 y.p)
def gBr (ex:List Tk→Except Ft (Tr × List Tk)) (ts:List Tk):Except Ft (Tr × List Tk):=do
 let (n,r) ← ex ts
 let (_,r) ← Q5 Zv r
 .ok (n,r)
theorem gBr_st (ex:List Tk→Except Ft (Tr × List Tk)) (ts:List Tk) {k:Tr}(hk:∀ q,ex ts=.ok q→k=q.1) :
  stOf (gBr ex ts)=QY Zv (stOf (ex ts))∧∀ q,gBr ex ts=.ok q→k=q.1:=by
 unfold gBr
 cases h2:ex ts with
 | error f=>exact⟨rfl,fun q e=>by cases e⟩
 | ok q2 =>
  have e:=hk q2 h2
  subst e
  simp only [bind,Except.bind]
  have e4:stOf (Except.ok q2:Except Ft (Tr × List Tk))=nf q2.2:=rfl
  rw [e4]
  cases h3:Q5 Zv q2.2 with
  | error f=>rw [J5 h3]; exact⟨rfl,fun q e=>by cases e⟩
  | ok q3=>rw [KQ h3]; exact⟨rfl,fun q e=>by cases e; rfl⟩
theorem field82_40 (v:yW):(Instr.field 148 (.agg (tkA tk0)) 4).run Tryz.prog v=.ok (zI 0) v:=QF tk0 v
theorem rest_dead {K:PK}{b:Nat}{d:Int}{w:yW}{f:Ft}(h:Dd w b K f) :
  Calls zG 198 #[zP b,zI d] w (OutD b K w (.error f)):=by
 have HZ:=(RZ.new (show Sp w b K (.error f) from h)).hid
 clear h
 obtain⟨W0,eW0⟩:∃ W,w.alloc (.cells zNo 48)=W:=⟨_,rfl⟩
 rw [eW0] at HZ
 have cN:=dead_now HZ.out.S
 have hf:=field82_40
 go_enter Tryz.func198,Tryz.ntmps198
 go_wp2_with fail
 try rw [eW0]
 refine cN.mono ?_
 rintro e w1 ⟨rfl,hb1⟩
 have HZ1:=(HZ.out.on hb1).hid
 have cI:=is_dead HZ1.out.S ZP (by decide)
 clear cN hb1 HZ
 go_wp2_with fail
 refine cI.mono ?_
 rintro e w2 ⟨rfl,hb2⟩
 have HZ2:=(HZ1.out.on hb2).hid
 have cJ:=is_dead HZ2.out.S Zo (by decide)
 clear cI hb2 HZ1
 go_wp2_with fail
 refine cJ.mono ?_
 rintro e w3 ⟨rfl,hb3⟩
 have HZ3:=(HZ2.out.on hb3).hid
 have cW:=wrong_dead HZ3.out.S 130
 clear cJ hb3 HZ2
 go_wp2_with fail
 refine cW.mono ?_
 rintro e w4 ⟨rfl,hs,hm⟩
 have HZ4:=(HZ3.out.mv (s':=.error f) hm hs).hid
 clear cW hs hm HZ3
 have z0:w4.cell? w§¢0=some (zU 0):=Qa HZ4.out.Z 0
 have q0:w4.frozen? w§¢0=false:=Qb HZ4.out.Z 0
 have z1:w4.cell? w§¢1=some (zU 0):=Qa HZ4.out.Z 1
 have q1:w4.frozen? w§¢1=false:=Qb HZ4.out.Z 1
 have z2:w4.cell? w§¢2=some (zU 0):=Qa HZ4.out.Z 2
 have q2:w4.frozen? w§¢2=false:=Qb HZ4.out.Z 2
 have z3:w4.cell? w§¢3=some (zI 0):=Qa HZ4.out.Z 3
 have q3:w4.frozen? w§¢3=false:=Qb HZ4.out.Z 3
 have z4:w4.cell? w§¢4=some (zU 0):=Qa HZ4.out.Z 4
 have q4:w4.frozen? w§¢4=false:=Qb HZ4.out.Z 4
 have z5:w4.cell? w§¢5=some (yQ):=Qa HZ4.out.Z 5
 have q5:w4.frozen? w§¢5=false:=Qb HZ4.out.Z 5
 have z6:w4.cell? w§¢6=some (.slice none 0 0):=Qa HZ4.out.Z 6
 have q6:w4.frozen? w§¢6=false:=Qb HZ4.out.Z 6
 have z7:w4.cell? w§¢7=some (zI 0):=Qa HZ4.out.Z 7
 have q7:w4.frozen? w§¢7=false:=Qb HZ4.out.Z 7
 obtain⟨Y,eY,hY1,hY2,hY3,hY4,hY5⟩:=HZ4.out.finz
 have HEY:Hid (_=Y):=eY
 have HY1:Hid (Y.heap[w§]? = (zC nd0.vals 48)):=hY1
 have HYY:Hid (Lies Y nd0∧Bkn (fun k=>w§≤k∧k < Y§) nd0∧Sp Y b K (.error f)∧Mv w Y (fun k=>k=b)):=⟨hY2,hY3,hY4,hY5⟩
 clear eY hY1 hY2 hY3 hY4 hY5
 go_wp2_with fail
 rw [HEY.out]
 refine bodyPost_ret (results_cell_row rfl _ _ w§ 48 nd0.vals (0,0) _ rfl HY1.out Tryz.underlying48 rfl zK) rfl ⟨_,rfl,HYY.out.1,HYY.out.2.1,?_,HYY.out.2.2.2,?_⟩
 ·exact HYY.out.2.2.1
 ·exact fun q e=>by cases e
theorem rest_no {K:PK}(hK:KOk K) {b:Nat}{d:Int}{w:yW}{t:Tk}{ts:List Tk}(h:Lv w b K (t :: ts)) (h1:¬ t.x=ZP) (h2:¬ t.x=Zo) :
  Calls zG 198 #[zP b,zI d] w (OutD b K w (.error (.tok 130 t.p))):=by
 have HZ:=(RZ.new (show Sp w b K (.ok (t :: ts)) from ⟨by simp,h⟩)).hid
 have HK:Hid (KOk K):=hK
 clear h hK
 obtain⟨W0,eW0⟩:∃ W,w.alloc (.cells zNo 48)=W:=⟨_,rfl⟩
 rw [eW0] at HZ
 have cN:=Qt HZ.out.S.2
 have hf:=fun v=>QF t v
 have HAS:Hid (¬ t.x=ZP):=h1
 have HBR:Hid (¬ t.x=Zo):=h2
 clear h1 h2
 go_enter Tryz.func198,Tryz.ntmps198
 go_wp2_with fail
 try rw [eW0]
 refine cN.mono ?_
 rintro e w1 ⟨rfl,hb1⟩
 have HZ1:=(HZ.out.on hb1).hid
 have cI:=Jo HZ1.out.S.2 ZP ((HZ1.out.S.2.ok HK.out).kw (.inl (by simp [kwW])))
 rw [decide_eq_false HAS.out] at cI
 clear cN hb1 HZ
 go_wp2_with fail
 refine cI.mono ?_
 rintro e w2 ⟨rfl,hb2⟩
 have HZ2:=(HZ1.out.on hb2).hid
 clear cI hb2 HZ1
 have cJ:=Jo HZ2.out.S.2 Zo ((HZ2.out.S.2.ok HK.out).kw (.inr (by simp [kwM])))
 rw [decide_eq_false HBR.out] at cJ
 go_wp2_with fail
 refine cJ.mono ?_
 rintro e w3 ⟨rfl,hb3⟩
 have HZ3:=(HZ2.out.on hb3).hid
 clear cJ hb3 HZ2
 have cW:=J4 HZ3.out.S.2 130 (by decide)
 go_wp2_with fail
 refine cW.mono ?_
 rintro e w4 ⟨rfl,hs,hm⟩
 have HZ4:=(HZ3.out.mv (s':=.error (.tok 130 t.p)) hm hs).hid
 clear cW hs hm HZ3
 have z0:w4.cell? w§¢0=some (zU 0):=Qa HZ4.out.Z 0
 have q0:w4.frozen? w§¢0=false:=Qb HZ4.out.Z 0
 have z1:w4.cell? w§¢1=some (zU 0):=Qa HZ4.out.Z 1
 have q1:w4.frozen? w§¢1=false:=Qb HZ4.out.Z 1
 have z2:w4.cell? w§¢2=some (zU 0):=Qa HZ4.out.Z 2
 have q2:w4.frozen? w§¢2=false:=Qb HZ4.out.Z 2
 have z3:w4.cell? w§¢3=some (zI 0):=Qa HZ4.out.Z 3
 have q3:w4.frozen? w§¢3=false:=Qb HZ4.out.Z 3
 have z4:w4.cell? w§¢4=some (zU 0):=Qa HZ4.out.Z 4
 have q4:w4.frozen? w§¢4=false:=Qb HZ4.out.Z 4
 have z5:w4.cell? w§¢5=some (yQ):=Qa HZ4.out.Z 5
 have q5:w4.frozen? w§¢5=false:=Qb HZ4.out.Z 5
 have z6:w4.cell? w§¢6=some (.slice none 0 0):=Qa HZ4.out.Z 6
 have q6:w4.frozen? w§¢6=false:=Qb HZ4.out.Z 6
 have z7:w4.cell? w§¢7=some (zI 0):=Qa HZ4.out.Z 7
 have q7:w4.frozen? w§¢7=false:=Qb HZ4.out.Z 7
 obtain⟨Y,eY,hY1,hY2,hY3,hY4,hY5⟩:=HZ4.out.finz
 have HEY:Hid (_=Y):=eY
 have HY1:Hid (Y.heap[w§]? = (zC nd0.vals 48)):=hY1
 have HYY:Hid (Lies Y nd0∧Bkn (fun k=>w§≤k∧k < Y§) nd0∧Sp Y b K (.error (.tok 130 t.p))∧Mv w Y (fun k=>k=b)):=⟨hY2,hY3,hY4,hY5⟩
 clear eY hY1 hY2 hY3 hY4 hY5
 go_wp2_with fail
 rw [HEY.out]
 refine bodyPost_ret (results_cell_row rfl _ _ w§ 48 nd0.vals (0,0) _ rfl HY1.out Tryz.underlying48 rfl zK) rfl ⟨_,rfl,HYY.out.1,HYY.out.2.1,?_,HYY.out.2.2.2,?_⟩
 ·exact HYY.out.2.2.1
 ·exact fun q e=>by cases e
theorem rest_brk (ex:List Tk→Except Ft (Tr × List Tk)) (hE:ex []=.error .lex) {K:PK}(hK:KOk K) {b:Nat}{d:Nat}(hd:d≤24) (cE:d < 24→∀ (w:yW) (st:St),Sp w b K st→Calls zG 52 #[zP b,zI ((d:Int)+1)] w (OutD b K w (rd ex st))) {w:yW}{t:Tk}{ts:List Tk}(h:Lv w b K (t :: ts)) (h2:t.x=Zo) :
  Calls zG 198 #[zP b,zI d] w (OutD b K w (if d < 24 then gBr ex ts else .error (.tok 132 t.p))):=by
 have HZ:=(RZ.new (show Sp w b K (.ok (t :: ts)) from ⟨by simp,h⟩)).hid
 have HK:Hid (KOk K):=hK
 clear h hK
 obtain⟨W0,eW0⟩:∃ W,w.alloc (.cells zNo 48)=W:=⟨_,rfl⟩
 rw [eW0] at HZ
 have cN:=Qt HZ.out.S.2
 have hf:=fun v=>QF t v
 have HE:Hid (ex []=.error .lex):=hE
 have HX:Hid (d < 24→∀ (w:yW) (st:St),Sp w b K st→Calls zG 52 #[zP b,zI ((d:Int)+1)] w (OutD b K w (rd ex st))):=cE
 have HAS:Hid (¬ t.x=ZP):=by show ¬ _; rw [h2]; decide
 have HBR:Hid (t.x=Zo):=h2
 clear h2 hE cE
 by_cases hdd:d < 24
 rotate_left
 ·rw [if_neg hdd]
  have HD0:Hid (∀ v,Lv v b K (t :: ts)→Calls zG 89 #[zP b,zI d] v fun e w'=>e=.returned (.bool false)∧Dd w' b K (.tok 132 t.p)∧Mv v w' (fun k=>k=b)):=fun v h=>KH h d hdd (by omega)
  clear hdd
  go_enter Tryz.func198,Tryz.ntmps198
  go_wp2_with fail
  try rw [eW0]
  refine cN.mono ?_
  rintro e w1 ⟨rfl,hb1⟩
  have HZ1:=(HZ.out.on hb1).hid
  have cI:=Jo HZ1.out.S.2 ZP ((HZ1.out.S.2.ok HK.out).kw (.inl (by simp [kwW])))
  rw [decide_eq_false HAS.out] at cI
  clear cN hb1 HZ
  go_wp2_with fail
  refine cI.mono ?_
  rintro e w2 ⟨rfl,hb2⟩
  have HZ2:=(HZ1.out.on hb2).hid
  clear cI hb2 HZ1
  have cJ:=Jo HZ2.out.S.2 Zo ((HZ2.out.S.2.ok HK.out).kw (.inr (by simp [kwM])))
  rw [decide_eq_true HBR.out] at cJ
  go_wp2_with fail
  refine cJ.mono ?_
  rintro e w3 ⟨rfl,hb3⟩
  have HZ3:=(HZ2.out.on hb3).hid
  clear cJ hb3 HZ2
  have cD:=HD0.out w3 HZ3.out.S.2
  go_wp2_with fail
  refine cD.mono ?_
  rintro e w4 ⟨rfl,hs,hm⟩
  have HZ4:=(HZ3.out.mv (s':=.error (.tok 132 t.p)) hm hs).hid
  clear cD hs hm HZ3
  have z0:w4.cell? w§¢0=some (zU 0):=Qa HZ4.out.Z 0
  have q0:w4.frozen? w§¢0=false:=Qb HZ4.out.Z 0
  have z1:w4.cell? w§¢1=some (zU 0):=Qa HZ4.out.Z 1
  have q1:w4.frozen? w§¢1=false:=Qb HZ4.out.Z 1
  have z2:w4.cell? w§¢2=some (zU 0):=Qa HZ4.out.Z 2
  have q2:w4.frozen? w§¢2=false:=Qb HZ4.out.Z 2
  have z3:w4.cell? w§¢3=some (zI 0):=Qa HZ4.out.Z 3
  have q3:w4.frozen? w§¢3=false:=Qb HZ4.out.Z 3
  have z4:w4.cell? w§¢4=some (zU 0):=Qa HZ4.out.Z 4
  have q4:w4.frozen? w§¢4=false:=Qb HZ4.out.Z 4
  have z5:w4.cell? w§¢5=some (yQ):=Qa HZ4.out.Z 5
  have q5:w4.frozen? w§¢5=false:=Qb HZ4.out.Z 5
  have z6:w4.cell? w§¢6=some (.slice none 0 0):=Qa HZ4.out.Z 6
  have q6:w4.frozen? w§¢6=false:=Qb HZ4.out.Z 6
  have z7:w4.cell? w§¢7=some (zI 0):=Qa HZ4.out.Z 7
  have q7:w4.frozen? w§¢7=false:=Qb HZ4.out.Z 7
  obtain⟨Y,eY,hY1,hY2,hY3,hY4,hY5⟩:=HZ4.out.finz
  have HEY:Hid (_=Y):=eY
  have HY1:Hid (Y.heap[w§]? = (zC nd0.vals 48)):=hY1
  have HYY:Hid (Lies Y nd0∧Bkn (fun k=>w§≤k∧k < Y§) nd0∧Sp Y b K (.error (.tok 132 t.p))∧Mv w Y (fun k=>k=b)):=⟨hY2,hY3,hY4,hY5⟩
  clear eY hY1 hY2 hY3 hY4 hY5
  go_wp2_with fail
  rw [HEY.out]
  refine bodyPost_ret (results_cell_row rfl _ _ w§ 48 nd0.vals (0,0) _ rfl HY1.out Tryz.underlying48 rfl zK) rfl ⟨_,rfl,HYY.out.1,HYY.out.2.1,?_,HYY.out.2.2.2,?_⟩
  ·exact HYY.out.2.2.1
  ·exact fun q e=>by cases e
 rw [if_pos hdd]
 have HD0:Hid (∀ v,Lv v b K (t :: ts)→Calls zG 89 #[zP b,zI d] v fun e w'=>e=.returned (.bool true)∧w'=v):=fun v h=>KD h d hdd
 have hmd:(d:Int)+1≤9223372036854775807:=by omega
 have HX1:Hid (∀ (w:yW) (st:St),Sp w b K st→Calls zG 52 #[zP b,zI ((d:Int)+1)] w (OutD b K w (rd ex st))):=HX.out hdd
 obtain⟨r0,er0⟩:∃ r,gBr ex ts=r:=⟨_,rfl⟩
 have HR0:Hid (gBr ex ts=r0):=er0
 rw [er0]
 clear HX hdd er0
 go_enter Tryz.func198,Tryz.ntmps198
 go_wp2_with fail
 try rw [eW0]
 refine cN.mono ?_
 rintro e w1 ⟨rfl,hb1⟩
 have HZ1:=(HZ.out.on hb1).hid
 have cI:=Jo HZ1.out.S.2 ZP ((HZ1.out.S.2.ok HK.out).kw (.inl (by simp [kwW])))
 rw [decide_eq_false HAS.out] at cI
 clear cN hb1 HZ
 go_wp2_with fail
 refine cI.mono ?_
 rintro e w2 ⟨rfl,hb2⟩
 have HZ2:=(HZ1.out.on hb2).hid
 clear cI hb2 HZ1
 have cJ:=Jo HZ2.out.S.2 Zo ((HZ2.out.S.2.ok HK.out).kw (.inr (by simp [kwM])))
 rw [decide_eq_true HBR.out] at cJ
 go_wp2_with fail
 refine cJ.mono ?_
 rintro e w3 ⟨rfl,hb3⟩
 have HZ3:=(HZ2.out.on hb3).hid
 clear cJ hb3 HZ2
 have cD:=HD0.out w3 HZ3.out.S.2
 go_wp2_with fail
 refine cD.mono ?_
 rintro e w3' ⟨rfl,e9⟩
 obtain rfl:=e9.symm
 clear cD e9
 obtain⟨i,c3,f3,hmx,hL,hM,_,_⟩:=HZ3.out.S.2.at'
 obtain⟨V,eV⟩:∃ V,w3.setCell b¢3 (zI ((i:Int)+1))=V:=⟨_,rfl⟩
 rw [eV] at hL hM
 have HZ4:=(HZ3.out.mv hM hL.sp).hid
 have cQ:=HX1.out V (nf ts) hL.sp
 rw [Kq HE.out] at cQ
 clear hL hM HZ3
 go_wp2_with fail
 try rw [eV]
 clear eV c3 f3 hmx
 refine cQ.mono ?_
 rintro e w5 ⟨⟨⟨k3,o3,ty3,n3,f3,x3,p3⟩,am3,cm3,ks3⟩,rfl,hl,hk,hs,hm,ht⟩
 simp only [Nd.vals,Nd.h,Nd.a,Nd.c,Nd.ks,hdA]
 have HT:Hid (∀ q,ex ts=.ok q→Qh (Nd.mk ⟨k3,o3,ty3,n3,f3,x3,p3⟩ am3 cm3 ks3)=q.1):=ht
 have hRV:w§ < V§:=(zJ HZ4.out.Z).1
 have hb6:=Qc w5 (.cells (zW k3 o3 ty3 n3 f3 x3 am3 ks3 cm3 p3) 48)
 have hX:=Qd w5 (.cells (zW k3 o3 ty3 n3 f3 x3 am3 ks3 cm3 p3) 48)
 have HZ6:=((HZ4.out.mv hm hs).on hb6).hid
 have HL6:=(hl.on hb6).hid
 have HK6:Hid (Bkn (fun k=>w§ < k∧k < w5§) (Nd.mk ⟨k3,o3,ty3,n3,f3,x3,p3⟩ am3 cm3 ks3)):=hk.mono fun j hj=>by omega
 obtain⟨W6,eW6⟩:∃ W,w5.alloc (.cells (zW k3 o3 ty3 n3 f3 x3 am3 ks3 cm3 p3) 48)=W:=⟨_,rfl⟩
 rw [eW6] at hX HZ6 HL6 hb6
 have HX6:Hid (W6.heap[w5§]? = (zC (zW k3 o3 ty3 n3 f3 x3 am3 ks3 cm3 p3) 48)):=hX
 have HB6:Hid (w5§≤W6§):=hb6.size
 have HW5:Hid (w§ < w5§):=by have:=hm.size; show _ < _; omega
 have cT:=take_s HK.out HZ6.out.S Zv (.inr (by simp [kwM])) (by decide)
 clear cQ hl hk hs hm ht hRV hX hb6 HZ4
 go_wp2_with fail
 try rw [eW6]
 clear eW6
 refine cT.mono ?_
 rintro e w7 ⟨⟨pp,rfl⟩,hs,hm⟩
 have HZ7:=(HZ6.out.mv hm hs).hid
 have hbw:=HZ6.out.W.1
 have hlw:=HZ6.out.M.size
 have h56:w5§ < W6§:=(zJ HX6.out).1
 have HL7:Hid (Lies w7 (Nd.mk ⟨k3,o3,ty3,n3,f3,x3,p3⟩ am3 cm3 ks3)):=HL6.out.bkn HK6.out fun j hj=>hm.block j (by omega) (by omega)
 have hX7:w7.heap[w5§]? = (zC (zW k3 o3 ty3 n3 f3 x3 am3 ks3 cm3 p3) 48):=(hm.block _ h56 (by have:=HW5.out; omega)).trans HX6.out
 have HK7:Hid (Bkn (fun k=>w§≤k∧k < w7§∧k≠w§) (Nd.mk ⟨k3,o3,ty3,n3,f3,x3,p3⟩ am3 cm3 ks3)):=HK6.out.mono fun j hj=>by have:=hm.size; have:=HB6.out; omega
 clear cT hs hm HZ6
 have x0':w7.cell? w5§¢0=some (zU k3):=Qa hX7 0
 have x1':w7.cell? w5§¢1=some (zU o3):=Qa hX7 1
 have x2':w7.cell? w5§¢2=some (zU ty3):=Qa hX7 2
 have x3':w7.cell? w5§¢3=some (zI n3):=Qa hX7 3
 have x4':w7.cell? w5§¢4=some (zU f3):=Qa hX7 4
 have x5':w7.cell? w5§¢5=some (.string x3):=Qa hX7 5
 have x6':w7.cell? w5§¢6=some (.slice am3 ks3.length cm3):=Qa hX7 6
 have x7':w7.cell? w5§¢7=some (zI p3):=Qa hX7 7
 clear hX7 h56 hlw hbw
 have z0:w7.cell? w§¢0=some (zU 0):=Qa HZ7.out.Z 0
 have q0:w7.frozen? w§¢0=false:=Qb HZ7.out.Z 0
 have z1:w7.cell? w§¢1=some (zU 0):=Qa HZ7.out.Z 1
 have q1:w7.frozen? w§¢1=false:=Qb HZ7.out.Z 1
 have z2:w7.cell? w§¢2=some (zU 0):=Qa HZ7.out.Z 2
 have q2:w7.frozen? w§¢2=false:=Qb HZ7.out.Z 2
 have z3:w7.cell? w§¢3=some (zI 0):=Qa HZ7.out.Z 3
 have q3:w7.frozen? w§¢3=false:=Qb HZ7.out.Z 3
 have z4:w7.cell? w§¢4=some (zU 0):=Qa HZ7.out.Z 4
 have q4:w7.frozen? w§¢4=false:=Qb HZ7.out.Z 4
 have z5:w7.cell? w§¢5=some (yQ):=Qa HZ7.out.Z 5
 have q5:w7.frozen? w§¢5=false:=Qb HZ7.out.Z 5
 have z6:w7.cell? w§¢6=some (.slice none 0 0):=Qa HZ7.out.Z 6
 have q6:w7.frozen? w§¢6=false:=Qb HZ7.out.Z 6
 have z7:w7.cell? w§¢7=some (zI 0):=Qa HZ7.out.Z 7
 have q7:w7.frozen? w§¢7=false:=Qb HZ7.out.Z 7
 obtain⟨Y,eY,hY1,hY2,hY3,hY4,hY5⟩:=HZ7.out.fin HL7.out HK7.out
 have HEY:Hid (_=Y):=eY
 have HY1:Hid (Y.heap[w§]? = (zC (Nd.mk ⟨k3,o3,ty3,n3,f3,x3,p3⟩ am3 cm3 ks3).vals 48)):=hY1
 have HYY:Hid (Lies Y (Nd.mk ⟨k3,o3,ty3,n3,f3,x3,p3⟩ am3 cm3 ks3)∧Bkn (fun k=>w§≤k∧k < Y§) (Nd.mk ⟨k3,o3,ty3,n3,f3,x3,p3⟩ am3 cm3 ks3)∧Sp Y b K (QY Zv (stOf (ex ts)))∧Mv w Y (fun k=>k=b)):=⟨hY2,hY3,hY4,hY5⟩
 clear eY hY1 hY2 hY3 hY4 hY5
 go_wp2_with fail
 rw [HEY.out]
 refine bodyPost_ret (results_cell_row rfl _ _ w§ 48 (Nd.mk ⟨k3,o3,ty3,n3,f3,x3,p3⟩ am3 cm3 ks3).vals (0,0) _ rfl HY1.out Tryz.underlying48 rfl zK) rfl ⟨_,rfl,HYY.out.1,HYY.out.2.1,?_,HYY.out.2.2.2,?_⟩
 ·rw [← HR0.out,(gBr_st ex ts HT.out).1]
  exact HYY.out.2.2.1
 ·rw [← HR0.out]
  exact (gBr_st ex ts HT.out).2
theorem rest_has {K:PK}(hK:KOk K) {b:Nat}{d:Int}{w:yW}{t:Tk}{ts:List Tk}(h:Lv w b K (t :: ts)) (h1:t.x=ZP) :
  Calls zG 198 #[zP b,zI d] w (OutD b K w (gHasD t.p ts)):=by
 have HZ:=(RZ.new (show Sp w b K (.ok (t :: ts)) from ⟨by simp,h⟩)).hid
 have HK:Hid (KOk K):=hK
 clear h hK
 obtain⟨W0,eW0⟩:∃ W,w.alloc (.cells zNo 48)=W:=⟨_,rfl⟩
 rw [eW0] at HZ
 have cN:=Qt HZ.out.S.2
 have hf:=fun v=>QF t v
 have HAS:Hid (t.x=ZP):=h1
 have HRT:Hid (RgT t):=(HZ.out.S.2.ok HK.out).r
 clear h1
 go_enter Tryz.func198,Tryz.ntmps198
 go_wp2_with fail
 try rw [eW0]
 refine cN.mono ?_
 rintro e w1 ⟨rfl,hb1⟩
 have HZ1:=(HZ.out.on hb1).hid
 have cI:=Jo HZ1.out.S.2 ZP ((HZ1.out.S.2.ok HK.out).kw (.inl (by simp [kwW])))
 rw [decide_eq_true HAS.out] at cI
 clear cN hb1 HZ
 go_wp2_with fail
 refine cI.mono ?_
 rintro e w2 ⟨rfl,hb2⟩
 have HZ2:=(HZ1.out.on hb2).hid
 clear cI hb2 HZ1
 obtain⟨i,c3,f3,hmx,hL,hM,_,_⟩:=HZ2.out.S.2.at'
 obtain⟨V,eV⟩:∃ V,w2.setCell b¢3 (zI ((i:Int)+1))=V:=⟨_,rfl⟩
 rw [eV] at hL hM
 have HZ3:=(HZ2.out.mv hM hL.sp).hid
 clear hL hM HZ2
 cases ts with
 | nil =>
  have HDD:Hid (Dd V b K .lex):=HZ3.out.S
  have HW:Hid (yD V (V.alloc (.cells y9 9))):=Qc _ _
  have hSL:SLs (V.alloc (.cells y9 9)) V§ [Z3,Z2,Z5]:=fun j hj=>by
   have hh:=Qd V (.cells y9 9)
   match j,hj with
   | 0,_=>exact Qa hh 0
   | 1,_=>exact Qa hh 1
   | 2,_=>exact Qa hh 2
  have cA:=Jw (Dd.on HDD.out HW.out) (n:=3) (c:=3) hSL rfl (by omega) (by intro x hx; simp only [List.mem_cons,List.not_mem_nil,or_false] at hx; rcases hx with rfl | rfl | rfl <;> decide)
  clear hSL
  go_wp2_with fail
  try rw [eV]
  clear eV c3 f3 hmx
  refine cA.mono ?_
  rintro e w4 ⟨rfl,hb4⟩
  have HZ4:=((HZ3.out.on HW.out).on hb4).hid
  have HD4:Hid (Dd w4 b K .lex):=HZ4.out.S
  have cW:=wrong_dead HD4.out 130
  clear cA hb4 HW HZ3 HDD
  go_wp2_with fail
  refine cW.mono ?_
  rintro e w5 ⟨rfl,hs,hm⟩
  have HZ5:=(HZ4.out.mv (s':=.error .lex) hm hs).hid
  clear cW hs hm HZ4 HD4
  have z0:w5.cell? w§¢0=some (zU 0):=Qa HZ5.out.Z 0
  have q0:w5.frozen? w§¢0=false:=Qb HZ5.out.Z 0
  have z1:w5.cell? w§¢1=some (zU 0):=Qa HZ5.out.Z 1
  have q1:w5.frozen? w§¢1=false:=Qb HZ5.out.Z 1
  have z2:w5.cell? w§¢2=some (zU 0):=Qa HZ5.out.Z 2
  have q2:w5.frozen? w§¢2=false:=Qb HZ5.out.Z 2
  have z3:w5.cell? w§¢3=some (zI 0):=Qa HZ5.out.Z 3
  have q3:w5.frozen? w§¢3=false:=Qb HZ5.out.Z 3
  have z4:w5.cell? w§¢4=some (zU 0):=Qa HZ5.out.Z 4
  have q4:w5.frozen? w§¢4=false:=Qb HZ5.out.Z 4
  have z5:w5.cell? w§¢5=some (yQ):=Qa HZ5.out.Z 5
  have q5:w5.frozen? w§¢5=false:=Qb HZ5.out.Z 5
  have z6:w5.cell? w§¢6=some (.slice none 0 0):=Qa HZ5.out.Z 6
  have q6:w5.frozen? w§¢6=false:=Qb HZ5.out.Z 6
  have z7:w5.cell? w§¢7=some (zI 0):=Qa HZ5.out.Z 7
  have q7:w5.frozen? w§¢7=false:=Qb HZ5.out.Z 7
  obtain⟨Y,eY,hY1,hY2,hY3,hY4,hY5⟩:=HZ5.out.finz
  have HEY:Hid (_=Y):=eY
  have HY1:Hid (Y.heap[w§]? = (zC nd0.vals 48)):=hY1
  have HYY:Hid (Lies Y nd0∧Bkn (fun k=>w§≤k∧k < Y§) nd0∧Sp Y b K (.error .lex)∧Mv w Y (fun k=>k=b)):=⟨hY2,hY3,hY4,hY5⟩
  clear eY hY1 hY2 hY3 hY4 hY5
  go_wp2_with fail
  rw [HEY.out]
  refine bodyPost_ret (results_cell_row rfl _ _ w§ 48 nd0.vals (0,0) _ rfl HY1.out Tryz.underlying48 rfl zK) rfl ⟨_,rfl,HYY.out.1,HYY.out.2.1,?_,HYY.out.2.2.2,?_⟩
  ·exact HYY.out.2.2.1
  ·exact fun q e=>by cases e
 | cons y ts =>
  have HLV:Hid (Lv V b K (y :: ts)):=HZ3.out.S.2
  have HW:Hid (yD V (V.alloc (.cells y9 9))):=Qc _ _
  have hSL:SLs (V.alloc (.cells y9 9)) V§ [Z3,Z2,Z5]:=fun j hj=>by
   have hh:=Qd V (.cells y9 9)
   match j,hj with
   | 0,_=>exact Qa hh 0
   | 1,_=>exact Qa hh 1
   | 2,_=>exact Qa hh 2
  have cA:=Qv ((HLV.out).on HW.out) (n:=3) (c:=3) hSL rfl (by omega) (fun x hx=>((HLV.out).ok HK.out).kw (.inl (by simp only [List.mem_cons,List.not_mem_nil,or_false] at hx; rcases hx with rfl | rfl | rfl <;> simp [kwW])))
  clear hSL
  have hop:=has_op y.x
  obtain⟨v,ev⟩:∃ v,fnd y.x [Z3,Z2,Z5] 0=v:=⟨_,rfl⟩
  rw [ev] at cA hop
  clear ev
  rcases hop with ⟨rfl,hno⟩ | ⟨hv0,hv3,hfv⟩
  ·have HG:Hid (gHasD t.p (y :: ts)=.error (.tok 130 y.p)):=if_neg hno
   clear hno
   go_wp2_with fail
   try rw [eV]
   clear eV c3 f3 hmx
   refine cA.mono ?_
   rintro e w4 ⟨rfl,hb4⟩
   have HZ4:=((HZ3.out.on HW.out).on hb4).hid
   have cW:=J4 HZ4.out.S.2 130 (by decide)
   clear cA hb4 HW HZ3
   go_wp2_with fail
   refine cW.mono ?_
   rintro e w5 ⟨rfl,hs,hm⟩
   have HZ5:=(HZ4.out.mv (s':=.error (.tok 130 y.p)) hm hs).hid
   clear cW hs hm HZ4
   have z0:w5.cell? w§¢0=some (zU 0):=Qa HZ5.out.Z 0
   have q0:w5.frozen? w§¢0=false:=Qb HZ5.out.Z 0
   have z1:w5.cell? w§¢1=some (zU 0):=Qa HZ5.out.Z 1
   have q1:w5.frozen? w§¢1=false:=Qb HZ5.out.Z 1
   have z2:w5.cell? w§¢2=some (zU 0):=Qa HZ5.out.Z 2
   have q2:w5.frozen? w§¢2=false:=Qb HZ5.out.Z 2
   have z3:w5.cell? w§¢3=some (zI 0):=Qa HZ5.out.Z 3
   have q3:w5.frozen? w§¢3=false:=Qb HZ5.out.Z 3
   have z4:w5.cell? w§¢4=some (zU 0):=Qa HZ5.out.Z 4
   have q4:w5.frozen? w§¢4=false:=Qb HZ5.out.Z 4
   have z5:w5.cell? w§¢5=some (yQ):=Qa HZ5.out.Z 5
   have q5:w5.frozen? w§¢5=false:=Qb HZ5.out.Z 5
   have z6:w5.cell? w§¢6=some (.slice none 0 0):=Qa HZ5.out.Z 6
   have q6:w5.frozen? w§¢6=false:=Qb HZ5.out.Z 6
   have z7:w5.cell? w§¢7=some (zI 0):=Qa HZ5.out.Z 7
   have q7:w5.frozen? w§¢7=false:=Qb HZ5.out.Z 7
   obtain⟨Y,eY,hY1,hY2,hY3,hY4,hY5⟩:=HZ5.out.finz
   have HEY:Hid (_=Y):=eY
   have HY1:Hid (Y.heap[w§]? = (zC nd0.vals 48)):=hY1
   have HYY:Hid (Lies Y nd0∧Bkn (fun k=>w§≤k∧k < Y§) nd0∧Sp Y b K (.error (.tok 130 y.p))∧Mv w Y (fun k=>k=b)):=⟨hY2,hY3,hY4,hY5⟩
   clear eY hY1 hY2 hY3 hY4 hY5
   go_wp2_with fail
   rw [HEY.out]
   refine bodyPost_ret (results_cell_row rfl _ _ w§ 48 nd0.vals (0,0) _ rfl HY1.out Tryz.underlying48 rfl zK) rfl ⟨_,rfl,HYY.out.1,HYY.out.2.1,?_,HYY.out.2.2.2,?_⟩
   ·rw [HG.out]; exact HYY.out.2.2.1
   ·rw [HG.out]; exact fun q e=>by cases e
  ·have HG:Hid (gHasD t.p (y :: ts)=.ok (.mk ⟨4,0,0,0,v+1,gE,t.p⟩ [],ts)):=by
    show (if _ then _ else _)=_
    rw [if_pos (by rw [hfv]; omega),hfv]
   have hv4:decide (v < 0)=false:=decide_eq_false (by omega)
   clear hfv
   go_wp2_with fail
   try rw [eV]
   clear eV c3 f3 hmx
   refine cA.mono ?_
   rintro e w4 ⟨rfl,hb4⟩
   have HZ4:=((HZ3.out.on HW.out).on hb4).hid
   obtain⟨i2,c3,f3,hmx,hL,hM,_,_⟩:=HZ4.out.S.2.at'
   obtain⟨U,eU⟩:∃ V,w4.setCell b¢3 (zI ((i2:Int)+1))=V:=⟨_,rfl⟩
   rw [eU] at hL hM
   have HZ5:=(HZ4.out.mv hM hL.sp).hid
   clear cA hb4 HW HZ3 hL hM HZ4
   go_upto_region 10 with fail
   try rw [eU]
   clear eU c3 f3 hmx
   have HRW:Hid (Rg ⟨4,0,0,0,v+1,gE,t.p⟩):=by
    have:=HRT.out.p0
    have:=HRT.out.p1
    show Rg _
    constructor <;> first | omega | (show (0:Nat)≤_; omega) | (simp only; omega) | simp
   have z0:U.cell? w§¢0=some (zU 0):=Qa HZ5.out.Z 0
   have q0:U.frozen? w§¢0=false:=Qb HZ5.out.Z 0
   have z1:U.cell? w§¢1=some (zU 0):=Qa HZ5.out.Z 1
   have q1:U.frozen? w§¢1=false:=Qb HZ5.out.Z 1
   have z2:U.cell? w§¢2=some (zU 0):=Qa HZ5.out.Z 2
   have q2:U.frozen? w§¢2=false:=Qb HZ5.out.Z 2
   have z3:U.cell? w§¢3=some (zI 0):=Qa HZ5.out.Z 3
   have q3:U.frozen? w§¢3=false:=Qb HZ5.out.Z 3
   have z4:U.cell? w§¢4=some (zU 0):=Qa HZ5.out.Z 4
   have q4:U.frozen? w§¢4=false:=Qb HZ5.out.Z 4
   have z5:U.cell? w§¢5=some (yQ):=Qa HZ5.out.Z 5
   have q5:U.frozen? w§¢5=false:=Qb HZ5.out.Z 5
   have z6:U.cell? w§¢6=some (.slice none 0 0):=Qa HZ5.out.Z 6
   have q6:U.frozen? w§¢6=false:=Qb HZ5.out.Z 6
   have z7:U.cell? w§¢7=some (zI 0):=Qa HZ5.out.Z 7
   have q7:U.frozen? w§¢7=false:=Qb HZ5.out.Z 7
   obtain⟨Y,eY,hY1,hY2,hY3,hY4,hY5⟩:=HZ5.out.fin (lies0 U HRW.out) (bkn0 _ _)
   have HEY:Hid (((((((((U.setCell w§¢0 (zU 4)).setCell w§¢1 (zU 0)).setCell w§¢2 (zU 0)).setCell w§¢3 (zI 0)).setCell w§¢4 (zU (v+1))).setCell w§¢5 (yQ)).setCell w§¢6 (.slice none 0 0)).setCell w§¢7 (zI t.p))=Y):=eY
   have HY1:Hid (Y.heap[w§]? = (zC (Nd.mk ⟨4,0,0,0,v+1,gE,t.p⟩ none 0 []).vals 48)):=hY1
   have HYY:Hid (Lies Y (Nd.mk ⟨4,0,0,0,v+1,gE,t.p⟩ none 0 [])∧Bkn (fun k=>w§≤k∧k < Y§) (Nd.mk ⟨4,0,0,0,v+1,gE,t.p⟩ none 0 [])∧Sp Y b K (nf ts)∧Mv w Y (fun k=>k=b)):=⟨hY2,hY3,hY4,hY5⟩
   clear eY hY1 hY2 hY3 hY4 hY5
   go_wp2_with fail
   rw [HEY.out]
   refine bodyPost_ret (results_cell_row rfl _ _ w§ 48 (Nd.mk ⟨4,0,0,0,v+1,gE,t.p⟩ none 0 []).vals (0,0) _ rfl HY1.out Tryz.underlying48 rfl zK) rfl ⟨_,rfl,HYY.out.1,HYY.out.2.1,?_,HYY.out.2.2.2,?_⟩
   ·rw [HG.out]; exact HYY.out.2.2.1
   ·rw [HG.out]; exact fun q e=>by cases e; rfl
end Go.Proofs.YtoogodlnnijikaaGreatDoor
