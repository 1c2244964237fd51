import Derived.Test.YtoogodlnnijikaaGreatDoorA0
import Derived.Test.YtoogodlnnijikaaGreatDoorA12
import Derived.Test.YtoogodlnnijikaaGreatDoorA2
namespace Go.Proofs.YtoogodlnnijikaaGreatDoor
set_option maxHeartbeats 4000000
set_option maxRecDepth 100000
open Go.RowKit
set_option linter.unusedVariables false
theorem RS.finN {w:yW}{b:Nat}{K:PK}{N:Nat}{W:yW}{m:Nd}{k2 o2 ty2 n2 f2 p2:Int}{x2:yB}{am2:Option Addr}{cm2:Nat}{ks2:List Nd}{s:St}(h:RS w b K N W m s) (hl:Lies W (Nd.mk ⟨k2,o2,ty2,n2,f2,x2,p2⟩ am2 cm2 ks2)) (hk:Bkn (fun k=>w§ < k∧k < W§) (Nd.mk ⟨k2,o2,ty2,n2,f2,x2,p2⟩ am2 cm2 ks2)) :
  ∃ Y,((((((((W.setCell w§¢0 (zU k2)).setCell w§¢1 (zU o2)).setCell w§¢2 (zU ty2)).setCell w§¢3 (zI n2)).setCell w§¢4 (zU f2)).setCell w§¢5 (.string x2)).setCell w§¢6 (.slice am2 ks2.length cm2)).setCell w§¢7 (zI p2))=Y∧Y.heap[w§]? = (zC (Nd.mk ⟨k2,o2,ty2,n2,f2,x2,p2⟩ am2 cm2 ks2).vals 48)∧Lies Y (Nd.mk ⟨k2,o2,ty2,n2,f2,x2,p2⟩ am2 cm2 ks2)∧Bkn (fun k=>w§≤k∧k < Y§) (Nd.mk ⟨k2,o2,ty2,n2,f2,x2,p2⟩ am2 cm2 ks2)∧Sp Y b K s∧Mv w Y (fun k=>k=b):=by
 obtain⟨Y,eY,hY1,hY2,hY3,hY4⟩:=fin8 h.Z (zU k2) (zU o2) (zU ty2) (zI n2) (zU f2) (.string x2) (.slice am2 ks2.length cm2) (zI p2)
 exact⟨Y,eY,hY1,hl.bkn hk fun j hj=>hY3 j (by omega),hk.mono fun j hj=>by omega,h.S.off h.W (fun k hk=>hY3 k (by omega)),hY4 _ _ h.M (Nat.le_refl _)⟩
def CInv (part:List Tk→Except Ft (Tr × List Tk)) (r0:Except Ft (Tr × List Tk)) (m:Tr):St→Prop
 | .ok ts=>JX cmpX part 1 m ts=r0
 | .error f=>r0=.error f
theorem CInv.start {part:List Tk→Except Ft (Tr × List Tk)}{st:St}{m:Tr}(hm:∀ q,rd part st=.ok q→m=q.1):CInv part (rd (gRow cmpX part 1) st) m (stOf (rd part st)):=by
 cases st with
 | error f=>rfl
 | ok ts =>
  simp only [rd] at hm ⊢
  cases hr:part ts with
  | error f =>
   simp only [stOf,gRow_err hr]
   rfl
  | ok q =>
   have e:=hm q hr
   subst e
   obtain⟨q1,q2⟩:=q
   rw [gRow_ok hr]
   cases q2 with
   | nil=>simp only [stOf,nf,CInv,JX,Jc,bind,Except.bind]
   | cons t r=>rfl
theorem CInv.done {part:List Tk→Except Ft (Tr × List Tk)}{r0:Except Ft (Tr × List Tk)}{m:Tr}{t:Tk}{ts:List Tk}(h:CInv part r0 m (.ok (t :: ts))) (ho:cmpX t.x=0):r0=.ok (m,t :: ts):=by
 have h:JX cmpX part (0+1) m (t :: ts)=r0:=h
 rw [gRowR_s,if_pos ho] at h
 exact h.symm
theorem CInv.next {part:List Tk→Except Ft (Tr × List Tk)}{r0:Except Ft (Tr × List Tk)}{m:Tr}{t:Tk}{ts:List Tk}(h:CInv part r0 m (.ok (t :: ts))) (ho:cmpX t.x≠0):r0=match part ts with | .error e=>.error e | .ok q=>.ok (.mk ⟨6,cmpX t.x,0,0,0,gE,t.p⟩ [m,q.1],q.2):=by
 have h:JX cmpX part (0+1) m (t :: ts)=r0:=h
 rw [gRowR_s,if_neg ho] at h
 rw [← h]
 cases part ts with
 | error f=>rfl
 | ok q=>rfl
theorem compare_d (part:List Tk→Except Ft (Tr × List Tk)) (hS:Shr part) (hE:part []=.error .lex) {K:PK}(hK:KOk K) {b:Nat}{d:Int}(cP:∀ (w:yW) (st:St),Sp w b K st→Calls zG 167 #[zP b,zI d] w (OutD b K w (rd part st))) {w:yW}{st:St}(h:Sp w b K st) :
  Calls zG 156 #[zP b,zI d] w (OutD b K w (rd (gRow cmpX part 1) st)):=by
 have hb0:=Qc w (.cells zNo 48)
 have cC:=cP _ _ (h.on hb0)
 have HLW:Hid (Lw w§ b K):=h.lw
 have HLN:Hid (∀ ts,st=.ok ts→ts.length≤4097):=fun ts e=>by
  subst e
  have:=h.2.len
  have:=hK.n
  omega
 have HS:Hid (Shr part):=hS
 have HE:Hid (part []=.error .lex):=hE
 have HK:Hid (KOk K):=hK
 have HP:Hid (∀ (w:yW) (st:St),Sp w b K st→Calls zG 167 #[zP b,zI d] w (OutD b K w (rd part st))):=cP
 obtain⟨r0,er0⟩:∃ r,rd (gRow cmpX part 1) st=r:=⟨_,rfl⟩
 have HR0:Hid (rd (gRow cmpX part 1) st=r0):=er0
 rw [er0]
 clear h hb0 hS hE hK cP er0
 go_enter Tryz.func156,Tryz.ntmps156
 go_wp2_with fail
 refine cC.mono ?_
 rintro e w1 ⟨m,rfl,hl,hk,hs,hm,ht⟩
 have HI2:=(RS.start HLW.out hl hk hs hm).hid
 have HV2:Hid (CInv part r0 (Qh m) (stOf (rd part st))):=by rw [← HR0.out]; exact CInv.start ht
 clear cC hl hk hs hm ht HR0 HLN
 obtain⟨N,eN⟩:∃ N,w1§=N:=⟨_,rfl⟩
 rw [eN] at HI2
 obtain⟨s0,es0⟩:∃ s0,stOf (rd part st)=s0:=⟨_,rfl⟩
 rw [es0] at HI2 HV2
 clear es0
 obtain⟨⟨k2,o2,ty2,n2,f2,x2,p2⟩,am2,cm2,ks2⟩:=m
 simp only [Nd.vals,Nd.h,Nd.a,Nd.c,Nd.ks,hdA] at HI2 ⊢
 obtain⟨W1,eW1⟩:∃ W,w1.alloc (.cells (zW k2 o2 ty2 n2 f2 x2 am2 ks2 cm2 p2) 48)=W:=⟨_,rfl⟩
 rw [eW1] at HI2
 cases s0 with
 | error f =>
  have HW:Hid (yD W1 (W1.alloc (.cells zv 9))):=Qc _ _
  have hSL:SLs (W1.alloc (.cells zv 9)) W1§ yd:=fun j hj=>by
   have hh:=Qd W1 (.cells zv 9)
   match j,hj with
   | 0,_=>exact Qa hh 0
   | 1,_=>exact Qa hh 1
   | 2,_=>exact Qa hh 2
   | 3,_=>exact Qa hh 3
   | 4,_=>exact Qa hh 4
   | 5,_=>exact Qa hh 5
  have cA:=Jw (Dd.on HI2.out.S HW.out) (n:=6) (c:=6) hSL rfl (by omega) (by intro x hx; simp only [List.mem_cons,List.not_mem_nil,or_false] at hx; rcases hx with rfl | rfl | rfl | rfl | rfl | rfl <;> decide)
  clear hSL
  go_wp2_with fail
  try rw [eW1]
  refine cA.mono ?_
  rintro e w2 ⟨rfl,hb2⟩
  have HI3:=((HI2.out.on HW.out).on hb2).hid
  clear cA hb2 HW HI2
  have y0:w2.cell? N¢0=some (zU k2):=Qa HI3.out.B 0
  have z0:w2.cell? w§¢0=some (zU 0):=Qa HI3.out.Z 0
  have q0:w2.frozen? w§¢0=false:=Qb HI3.out.Z 0
  have y1:w2.cell? N¢1=some (zU o2):=Qa HI3.out.B 1
  have z1:w2.cell? w§¢1=some (zU 0):=Qa HI3.out.Z 1
  have q1:w2.frozen? w§¢1=false:=Qb HI3.out.Z 1
  have y2:w2.cell? N¢2=some (zU ty2):=Qa HI3.out.B 2
  have z2:w2.cell? w§¢2=some (zU 0):=Qa HI3.out.Z 2
  have q2:w2.frozen? w§¢2=false:=Qb HI3.out.Z 2
  have y3:w2.cell? N¢3=some (zI n2):=Qa HI3.out.B 3
  have z3:w2.cell? w§¢3=some (zI 0):=Qa HI3.out.Z 3
  have q3:w2.frozen? w§¢3=false:=Qb HI3.out.Z 3
  have y4:w2.cell? N¢4=some (zU f2):=Qa HI3.out.B 4
  have z4:w2.cell? w§¢4=some (zU 0):=Qa HI3.out.Z 4
  have q4:w2.frozen? w§¢4=false:=Qb HI3.out.Z 4
  have y5:w2.cell? N¢5=some (.string x2):=Qa HI3.out.B 5
  have z5:w2.cell? w§¢5=some (yQ):=Qa HI3.out.Z 5
  have q5:w2.frozen? w§¢5=false:=Qb HI3.out.Z 5
  have y6:w2.cell? N¢6=some (.slice am2 ks2.length cm2):=Qa HI3.out.B 6
  have z6:w2.cell? w§¢6=some (.slice none 0 0):=Qa HI3.out.Z 6
  have q6:w2.frozen? w§¢6=false:=Qb HI3.out.Z 6
  have y7:w2.cell? N¢7=some (zI p2):=Qa HI3.out.B 7
  have z7:w2.cell? w§¢7=some (zI 0):=Qa HI3.out.Z 7
  have q7:w2.frozen? w§¢7=false:=Qb HI3.out.Z 7
  obtain⟨Y,eY,hY1,hY2,hY3,hY4,hY5⟩:=HI3.out.fin
  have HEY:Hid (_=Y):=eY
  have HY1:Hid (Y.heap[w§]? = (zC (Nd.mk ⟨k2,o2,ty2,n2,f2,x2,p2⟩ am2 cm2 ks2).vals 48)):=hY1
  have HYY:Hid (Lies Y (Nd.mk ⟨k2,o2,ty2,n2,f2,x2,p2⟩ am2 cm2 ks2)∧Bkn (fun k=>w§≤k∧k < Y§) (Nd.mk ⟨k2,o2,ty2,n2,f2,x2,p2⟩ am2 cm2 ks2)∧Sp Y b K (.error f)∧Mv w Y (fun k=>k=b)):=⟨hY2,hY3,hY4,hY5⟩
  clear eY hY1 hY2 hY3 hY4 hY5
  go_wp2_with fail
  rw [HEY.out]
  refine bodyPost_ret (results_cell_row rfl _ _ w§ 48 (Nd.mk ⟨k2,o2,ty2,n2,f2,x2,p2⟩ am2 cm2 ks2).vals (0,0) _ rfl HY1.out Tryz.underlying48 rfl zK) rfl ⟨_,rfl,HYY.out.1,HYY.out.2.1,?_,HYY.out.2.2.2,?_⟩
  ·rw [HV2.out]; exact HYY.out.2.2.1
  ·rw [HV2.out]; exact fun q e=>by cases e
 | ok ts =>
  obtain⟨hne,hlv⟩:=HI2.out.S
  match ts,hne with
  | t :: ts,_ =>
  have HLV:=Lv.hid hlv
  clear hlv hne
  have HW:Hid (yD W1 (W1.alloc (.cells zv 9))):=Qc _ _
  have hSL:SLs (W1.alloc (.cells zv 9)) W1§ yd:=fun j hj=>by
   have hh:=Qd W1 (.cells zv 9)
   match j,hj with
   | 0,_=>exact Qa hh 0
   | 1,_=>exact Qa hh 1
   | 2,_=>exact Qa hh 2
   | 3,_=>exact Qa hh 3
   | 4,_=>exact Qa hh 4
   | 5,_=>exact Qa hh 5
  have cA:=Qv (HLV.out.on HW.out) (n:=6) (c:=6) hSL rfl (by omega) (fun x hx=>(HLV.out.ok HK.out).kw (.inr (by simp only [List.mem_cons,List.not_mem_nil,or_false] at hx; rcases hx with rfl | rfl | rfl | rfl | rfl | rfl <;> simp [kwM])))
  have hop:=cmpX_op t.x
  have hrg:=Jt t.x yd 0
  obtain⟨v,ev⟩:∃ v,fnd t.x yd 0=v:=⟨_,rfl⟩
  rw [ev] at cA hrg
  unfold opF at hop
  rw [ev] at hop
  have hv1:-1≤v:=hrg.1
  have hv2:v < 6:=hrg.2
  clear hSL ev hrg
  by_cases hv:v = -1
  ·subst hv
   have HOP:Hid (cmpX t.x=0):=hop
   clear hop hv1 hv2
   go_wp2_with fail
   try rw [eW1]
   refine cA.mono ?_
   rintro e w2 ⟨rfl,hb2⟩
   have HI3:=((HI2.out.on HW.out).on hb2).hid
   clear cA hb2 HW HI2
   have y0:w2.cell? N¢0=some (zU k2):=Qa HI3.out.B 0
   have z0:w2.cell? w§¢0=some (zU 0):=Qa HI3.out.Z 0
   have q0:w2.frozen? w§¢0=false:=Qb HI3.out.Z 0
   have y1:w2.cell? N¢1=some (zU o2):=Qa HI3.out.B 1
   have z1:w2.cell? w§¢1=some (zU 0):=Qa HI3.out.Z 1
   have q1:w2.frozen? w§¢1=false:=Qb HI3.out.Z 1
   have y2:w2.cell? N¢2=some (zU ty2):=Qa HI3.out.B 2
   have z2:w2.cell? w§¢2=some (zU 0):=Qa HI3.out.Z 2
   have q2:w2.frozen? w§¢2=false:=Qb HI3.out.Z 2
   have y3:w2.cell? N¢3=some (zI n2):=Qa HI3.out.B 3
   have z3:w2.cell? w§¢3=some (zI 0):=Qa HI3.out.Z 3
   have q3:w2.frozen? w§¢3=false:=Qb HI3.out.Z 3
   have y4:w2.cell? N¢4=some (zU f2):=Qa HI3.out.B 4
   have z4:w2.cell? w§¢4=some (zU 0):=Qa HI3.out.Z 4
   have q4:w2.frozen? w§¢4=false:=Qb HI3.out.Z 4
   have y5:w2.cell? N¢5=some (.string x2):=Qa HI3.out.B 5
   have z5:w2.cell? w§¢5=some (yQ):=Qa HI3.out.Z 5
   have q5:w2.frozen? w§¢5=false:=Qb HI3.out.Z 5
   have y6:w2.cell? N¢6=some (.slice am2 ks2.length cm2):=Qa HI3.out.B 6
   have z6:w2.cell? w§¢6=some (.slice none 0 0):=Qa HI3.out.Z 6
   have q6:w2.frozen? w§¢6=false:=Qb HI3.out.Z 6
   have y7:w2.cell? N¢7=some (zI p2):=Qa HI3.out.B 7
   have z7:w2.cell? w§¢7=some (zI 0):=Qa HI3.out.Z 7
   have q7:w2.frozen? w§¢7=false:=Qb HI3.out.Z 7
   obtain⟨Y,eY,hY1,hY2,hY3,hY4,hY5⟩:=HI3.out.fin
   have HEY:Hid (_=Y):=eY
   have HY1:Hid (Y.heap[w§]? = (zC (Nd.mk ⟨k2,o2,ty2,n2,f2,x2,p2⟩ am2 cm2 ks2).vals 48)):=hY1
   have HYY:Hid (Lies Y (Nd.mk ⟨k2,o2,ty2,n2,f2,x2,p2⟩ am2 cm2 ks2)∧Bkn (fun k=>w§≤k∧k < Y§) (Nd.mk ⟨k2,o2,ty2,n2,f2,x2,p2⟩ am2 cm2 ks2)∧Sp Y b K (.ok (t :: ts))∧Mv w Y (fun k=>k=b)):=⟨hY2,hY3,hY4,hY5⟩
   clear eY hY1 hY2 hY3 hY4 hY5
   go_wp2_with fail
   rw [HEY.out]
   refine bodyPost_ret (results_cell_row rfl _ _ w§ 48 (Nd.mk ⟨k2,o2,ty2,n2,f2,x2,p2⟩ am2 cm2 ks2).vals (0,0) _ rfl HY1.out Tryz.underlying48 rfl zK) rfl ⟨_,rfl,HYY.out.1,HYY.out.2.1,?_,HYY.out.2.2.2,?_⟩
   ·rw [HV2.out.done HOP.out]; exact HYY.out.2.2.1
   ·rw [HV2.out.done HOP.out]; exact fun q e=>by cases e; rfl
  have hv0:¬ v < 0:=by omega
  have hv3:decide (v < 0)=false:=decide_eq_false hv0
  rw [if_neg hv0] at hop
  have HOP:Hid (cmpX t.x=11+v):=hop
  have hv5:0≤v:=by omega
  clear hop hv hv1
  go_wp2_with fail
  try rw [eW1]
  refine cA.mono ?_
  rintro e w2 ⟨rfl,hb2⟩
  have HI3:=((HI2.out.on HW.out).on hb2).hid
  have HLV3:=((HLV.out.on HW.out).on hb2).hid
  clear cA hb2 HW
  have cN:=Qt HLV3.out
  have hf:=fun v=>QF t v
  go_wp2_with fail
  refine cN.mono ?_
  rintro e w3 ⟨rfl,hb3⟩
  have HI4:=(HI3.out.on hb3).hid
  obtain⟨i,c3,f3,hmx,hL,hM,_,_⟩:=(HLV3.out.on hb3).at'
  obtain⟨V,eV⟩:∃ V,w3.setCell b¢3 (zI ((i:Int)+1))=V:=⟨_,rfl⟩
  rw [eV] at hL hM
  have HI5:=(HI4.out.mv hM hL.sp).hid
  have cQ:=HP.out V (nf ts) hL.sp
  rw [Kq HE.out] at cQ
  clear cN hb3 HI3 HI4 hL hM
  go_wp2_with fail
  try rw [eV]
  clear eV c3 f3 hmx
  refine cQ.mono ?_
  rintro e w5 ⟨⟨⟨k3,o3,ty3,n3,f3,x3,p3⟩,am3,cm3,ks3⟩,rfl,hl,hk,hs,hm,ht⟩
  have HI6:=(HI5.out.mv hm hs).hid
  have HT:Hid (∀ q,part ts=.ok q→Qh (Nd.mk ⟨k3,o3,ty3,n3,f3,x3,p3⟩ am3 cm3 ks3)=q.1):=ht
  have hVs:=HI5.out.M.size
  have HL3:=hl.hid
  have hNV:N < V§:=(zJ HI5.out.B).1
  have HK3:Hid (Bkn (fun k=>w§ < k∧k < w5§∧k≠N) (Nd.mk ⟨k3,o3,ty3,n3,f3,x3,p3⟩ am3 cm3 ks3)):=hk.mono fun q hq=>by have:=HI5.out.n; omega
  clear cQ hl hk hs hm ht hVs HI5
  simp only [Nd.vals,Nd.h,Nd.a,Nd.c,Nd.ks,hdA]
  have hb6:=Qc w5 (.cells (zW k3 o3 ty3 n3 f3 x3 am3 ks3 cm3 p3) 48)
  have hX:=Qd w5 (.cells (zW k3 o3 ty3 n3 f3 x3 am3 ks3 cm3 p3) 48)
  have HI7:=(HI6.out.on hb6).hid
  have HL7:=(HL3.out.on hb6).hid
  have hs6:=Qf w5 (.cells (zW k3 o3 ty3 n3 f3 x3 am3 ks3 cm3 p3) 48)
  obtain⟨W,eW⟩:∃ W,w5.alloc (.cells (zW k3 o3 ty3 n3 f3 x3 am3 ks3 cm3 p3) 48)=W:=⟨_,rfl⟩
  rw [eW] at hX HI7 HL7 hs6 hb6
  have c8:=two_any (11+v) t.p (Nd.mk ⟨k2,o2,ty2,n2,f2,x2,p2⟩ am2 cm2 ks2) (Nd.mk ⟨k3,o3,ty3,n3,f3,x3,p3⟩ am3 cm3 ks3) (P:=fun k=>w§ < k∧k < W§∧k≠N) HI7.out.L HL7.out HI7.out.J (HK3.out.mono fun q hq=>by omega) (fun q hq=>hq.2.1) (HLV.out.rg HK.out (by omega) (by omega))
  simp only [Nd.vals,Nd.h,Nd.a,Nd.c,Nd.ks,hdA] at c8
  have y0:W.cell? N¢0=some (zU k2):=Qa HI7.out.B 0
  have x0':W.cell? w5§¢0=some (zU k3):=Qa hX 0
  have y1:W.cell? N¢1=some (zU o2):=Qa HI7.out.B 1
  have x1':W.cell? w5§¢1=some (zU o3):=Qa hX 1
  have y2:W.cell? N¢2=some (zU ty2):=Qa HI7.out.B 2
  have x2':W.cell? w5§¢2=some (zU ty3):=Qa hX 2
  have y3:W.cell? N¢3=some (zI n2):=Qa HI7.out.B 3
  have x3':W.cell? w5§¢3=some (zI n3):=Qa hX 3
  have y4:W.cell? N¢4=some (zU f2):=Qa HI7.out.B 4
  have x4':W.cell? w5§¢4=some (zU f3):=Qa hX 4
  have y5:W.cell? N¢5=some (.string x2):=Qa HI7.out.B 5
  have x5':W.cell? w5§¢5=some (.string x3):=Qa hX 5
  have y6:W.cell? N¢6=some (.slice am2 ks2.length cm2):=Qa HI7.out.B 6
  have x6':W.cell? w5§¢6=some (.slice am3 ks3.length cm3):=Qa hX 6
  have y7:W.cell? N¢7=some (zI p2):=Qa HI7.out.B 7
  have x7':W.cell? w5§¢7=some (zI p3):=Qa hX 7
  have HSZ:Hid (W§=w5§+1):=hs6
  have HNW:Hid (N < W§):=(zJ HI7.out.B).1
  clear hX hs6 hb6 HL3 HL7 HI6
  go_wp2_with fail
  try rw [eW]
  clear eW
  refine c8.mono ?_
  rintro e w7 ⟨⟨⟨k4,o4,ty4,n4,f4,x4,p4⟩,am4,cm4,ks4⟩,rfl,et,hl8,hk8,hb8⟩
  try dsimp only
  have HI8:=(HI7.out.on hb8).hid
  have HET:Hid (Qh (Nd.mk ⟨k4,o4,ty4,n4,f4,x4,p4⟩ am4 cm4 ks4)=.mk ⟨6,(11+v),0,0,0,gE,t.p⟩ [Qh (Nd.mk ⟨k2,o2,ty2,n2,f2,x2,p2⟩ am2 cm2 ks2),Qh (Nd.mk ⟨k3,o3,ty3,n3,f3,x3,p3⟩ am3 cm3 ks3)]):=et
  have HNW8:Hid (Bkn (fun k=>w§ < k∧k < w7§) (Nd.mk ⟨k4,o4,ty4,n4,f4,x4,p4⟩ am4 cm4 ks4)):=hk8.mono fun q hq=>by have:=HNW.out; have:=HI8.out.n; have:=hb8.size; omega
  have HL8:=hl8.hid
  clear c8 et hl8 hk8 hb8 HI7 y0 x0' y1 x1' y2 x2' y3 x3' y4 x4' y5 x5' y6 x6' y7 x7'
  have z0:w7.cell? w§¢0=some (zU 0):=Qa HI8.out.Z 0
  have q0:w7.frozen? w§¢0=false:=Qb HI8.out.Z 0
  have z1:w7.cell? w§¢1=some (zU 0):=Qa HI8.out.Z 1
  have q1:w7.frozen? w§¢1=false:=Qb HI8.out.Z 1
  have z2:w7.cell? w§¢2=some (zU 0):=Qa HI8.out.Z 2
  have q2:w7.frozen? w§¢2=false:=Qb HI8.out.Z 2
  have z3:w7.cell? w§¢3=some (zI 0):=Qa HI8.out.Z 3
  have q3:w7.frozen? w§¢3=false:=Qb HI8.out.Z 3
  have z4:w7.cell? w§¢4=some (zU 0):=Qa HI8.out.Z 4
  have q4:w7.frozen? w§¢4=false:=Qb HI8.out.Z 4
  have z5:w7.cell? w§¢5=some (yQ):=Qa HI8.out.Z 5
  have q5:w7.frozen? w§¢5=false:=Qb HI8.out.Z 5
  have z6:w7.cell? w§¢6=some (.slice none 0 0):=Qa HI8.out.Z 6
  have q6:w7.frozen? w§¢6=false:=Qb HI8.out.Z 6
  have z7:w7.cell? w§¢7=some (zI 0):=Qa HI8.out.Z 7
  have q7:w7.frozen? w§¢7=false:=Qb HI8.out.Z 7
  obtain⟨Y,eY,hY1,hY2,hY3,hY4,hY5⟩:=HI8.out.finN HL8.out HNW8.out
  have HEY:Hid (_=Y):=eY
  have HY1:Hid (Y.heap[w§]? = (zC (Nd.mk ⟨k4,o4,ty4,n4,f4,x4,p4⟩ am4 cm4 ks4).vals 48)):=hY1
  have HYY:Hid (Lies Y (Nd.mk ⟨k4,o4,ty4,n4,f4,x4,p4⟩ am4 cm4 ks4)∧Bkn (fun k=>w§≤k∧k < Y§) (Nd.mk ⟨k4,o4,ty4,n4,f4,x4,p4⟩ am4 cm4 ks4)∧Sp Y b K (stOf (part ts))∧Mv w Y (fun k=>k=b)):=⟨hY2,hY3,hY4,hY5⟩
  clear eY hY1 hY2 hY3 hY4 hY5
  go_wp2_with fail
  rw [HEY.out]
  refine bodyPost_ret (results_cell_row rfl _ _ w§ 48 (Nd.mk ⟨k4,o4,ty4,n4,f4,x4,p4⟩ am4 cm4 ks4).vals (0,0) _ rfl HY1.out Tryz.underlying48 rfl zK) rfl ⟨_,rfl,HYY.out.1,HYY.out.2.1,?_,HYY.out.2.2.2,?_⟩
  ·rw [HV2.out.next (by rw [HOP.out]; omega)]
   have h1:=HYY.out.2.2.1
   cases hr:part ts with
   | error f=>rw [hr] at h1; exact h1
   | ok q=>rw [hr] at h1; exact h1
  ·rw [HV2.out.next (by rw [HOP.out]; omega)]
   have h1:=HT.out
   intro q e
   cases hr:part ts with
   | error f=>rw [hr] at e; cases e
   | ok q' =>
    rw [hr] at e
    cases e
    rw [HET.out,HOP.out,h1 q' hr]
def QY (x:yB):St→St
 | .ok []=>.error .lex
 | .ok (t :: ts)=>if t.x=x then nf ts else .error (.tok 130 t.p)
 | .error f=>.error f
def dIs (x:yB):St→Bool
 | .ok (t :: _)=>decide (t.x=x)
 | _=>false
theorem take_s {w:yW}{b:Nat}{K:PK}{s:St}(hK:KOk K) (h:Sp w b K s) (x:yB) (hx:x ∈ kwW∨x ∈ kwM) (hx':x≠⟨#[]⟩) :
  Calls zG 55 #[zP b,.string x] w fun e w'=>(∃ p,e=.returned (zI p))∧Sp w' b K (QY x s)∧Mv w w' (fun k=>k=b):=by
 cases s with
 | error f=>exact take_dead h x hx'
 | ok ts =>
  obtain⟨hne,hl⟩:=h
  cases ts with
  | nil=>exact absurd rfl hne
  | cons t ts =>
   refine (take_live hl x ((hl.ok hK).kw hx)).mono ?_
   rintro e w' ⟨⟨p,e1,_⟩,h2,h3⟩
   refine⟨⟨p,e1⟩,?_,h3⟩
   simp only [QY]
   by_cases he:t.x=x
   ·rw [if_pos he] at h2 ⊢
    exact h2.sp
   ·rw [if_neg he] at h2 ⊢
    exact h2
theorem is_s {w:yW}{b:Nat}{K:PK}{s:St}(hK:KOk K) (h:Sp w b K s) (x:yB) (hx:x ∈ kwW∨x ∈ kwM) (hx':x≠⟨#[]⟩) :
  Calls zG 57 #[zP b,.string x] w fun e w'=>e=.returned (.bool (dIs x s))∧yD w w':=by
 cases s with
 | error f=>exact is_dead h x hx'
 | ok ts =>
  obtain⟨hne,hl⟩:=h
  cases ts with
  | nil=>exact absurd rfl hne
  | cons t ts=>exact Jo hl x ((hl.ok hK).kw hx)
theorem list_row {w0:yW}{ops:Array Oper}{rest:List Oper}{o:Oper}{a:Act}{Q:Exit→Act→yW→Prop}(hgd:o.guard=none) (d x:Operand)
  (ho:o.op=.call { callee:=.builtin .append,args:=#[d,x],argTypes:=#[46,46] }) (y:Nd) {v:Value}{L:List Nd}(hR:RowN w0 v L) (hs:a.eval d=v) (hx:a.eval x=.slice (some w0§¢0) 1 1) (hlen:L.length≤1000000000)
  (h:∀ g cap w',RowN w' (.slice (some g¢0) (L.length+1) cap) (L ++ [y])→(w0.alloc (.cells y.vals 48)).grownBy w' v.ownBlock→(v.ownBlock=some g∨w0§ < g)→wpList Tryz.prog ops Q rest (a.put o.dst (.slice (some g¢0) (L.length+1) cap)) w') :
  wpList Tryz.prog ops Q (o :: rest) a (w0.alloc (.cells y.vals 48)):=by
 obtain⟨i0,hi,hz0,hz1,hz2⟩:=info_parts Tryz.info48
 refine wpList_append_lies _ hgd d x 46 ho 0 48 i0 _ 8 72 Tryz.underlying46 hi hz0 hz1 hz2 rfl (by decide) v L.length _ hs (hR.alloc _) w0§¢0 1 1 (y.vals).toList hx rfl (newsn_core w0 y) (Ku y) (by decide) (by unfold maxLen; omega) (by omega) (Nat.zero_le _) _ rfl ?_
 intro g cap w' h2 h3 h4 h5
 refine h g cap w' (RowN.snoc h2) h3 ?_
 rcases h4 with h4 | h4
 ·exact .inl h4
 ·exact .inr (by rw [h4,Qf]; omega)
structure RZ (w:yW) (b:Nat) (K:PK) (R:Nat) (V:yW) (s:St):Prop where
 M:Mv w V (fun k=>k=b)
 Z:V.heap[R]? = (zC zNo 48)
 S:Sp V b K s
 W:Lw w§ b K
 r:w§≤R
theorem RZ.hid {w:yW}{b:Nat}{K:PK}{R:Nat}{V:yW}{s:St}(h:RZ w b K R V s):Hid (RZ w b K R V s):=h
theorem RZ.mv {w:yW}{b:Nat}{K:PK}{R:Nat}{V V':yW}{s s':St}(h:RZ w b K R V s) (hm:Mv V V' (fun k=>k=b)) (hs:Sp V' b K s'):RZ w b K R V' s':=by
 have hb:=h.W.1
 have hr:=h.r
 exact⟨h.M.trans hm (fun _ e=>.inl e),(hm.block _ (zJ h.Z).1 (by omega)).trans h.Z,hs,h.W,h.r⟩
theorem RZ.on {w:yW}{b:Nat}{K:PK}{R:Nat}{V V':yW}{s:St}(h:RZ w b K R V s) (k:yD V V'):RZ w b K R V' s:=h.mv (Mv.ofBelow k) (h.S.on k)
theorem RZ.new {w:yW}{b:Nat}{K:PK}{s:St}(h:Sp w b K s):RZ w b K w§ (w.alloc (.cells zNo 48)) s:=by
 have hb:=Qc w (.cells zNo 48)
 exact⟨Mv.ofBelow hb,Qd _ _,h.on hb,h.lw,Nat.le_refl _⟩
theorem RZ.fin {w:yW}{b:Nat}{K:PK}{R:Nat}{W:yW}{k2 o2 ty2 n2 f2 p2:Int}{x2:yB}{am2:Option Addr}{cm2:Nat}{ks2:List Nd}{s:St}(h:RZ w b K R W s) (hl:Lies W (Nd.mk ⟨k2,o2,ty2,n2,f2,x2,p2⟩ am2 cm2 ks2)) (hk:Bkn (fun k=>w§≤k∧k < W§∧k≠R) (Nd.mk ⟨k2,o2,ty2,n2,f2,x2,p2⟩ am2 cm2 ks2)) :
  ∃ Y,((((((((W.setCell R¢0 (zU k2)).setCell R¢1 (zU o2)).setCell R¢2 (zU ty2)).setCell R¢3 (zI n2)).setCell R¢4 (zU f2)).setCell R¢5 (.string x2)).setCell R¢6 (.slice am2 ks2.length cm2)).setCell R¢7 (zI p2))=Y∧Y.heap[R]? = (zC (Nd.mk ⟨k2,o2,ty2,n2,f2,x2,p2⟩ am2 cm2 ks2).vals 48)∧Lies Y (Nd.mk ⟨k2,o2,ty2,n2,f2,x2,p2⟩ am2 cm2 ks2)∧Bkn (fun k=>w§≤k∧k < Y§) (Nd.mk ⟨k2,o2,ty2,n2,f2,x2,p2⟩ am2 cm2 ks2)∧Sp Y b K s∧Mv w Y (fun k=>k=b):=by
 obtain⟨Y,eY,hY1,hY2,hY3,hY4⟩:=fin8 h.Z (zU k2) (zU o2) (zU ty2) (zI n2) (zU f2) (.string x2) (.slice am2 ks2.length cm2) (zI p2)
 have hr:=h.r
 exact⟨Y,eY,hY1,hl.bkn hk fun j hj=>hY3 j (by omega),hk.mono fun j hj=>by omega,h.S.off h.W (fun k hk=>hY3 k (by omega)),hY4 _ _ h.M h.r⟩
structure QX (w:yW) (b:Nat) (K:PK) (R:Nat) (V:yW) (Nb:Nat) (v:Value) (L:List Nd) (h:Hd) (s:St):Prop where
 X:RZ w b K R V s
 N:V.heap[Nb]? = (zC #[zU h.k,zU h.o,zU h.t,zI h.n,zU h.f,.string h.x,v,zI h.p] 48)
 nb:w§≤Nb
 rn:R≠Nb
 row:RowN V v L
 vb:∀ k,v.ownBlock=some k→w§≤k∧k≠Nb∧k≠R
 ls:∀ m ∈ L,Lies V m∧Bkn (fun k=>w§≤k∧k < V§∧k≠Nb∧k≠R∧v.ownBlock≠some k) m
theorem QX.hid {w:yW}{b:Nat}{K:PK}{R:Nat}{V:yW}{Nb:Nat}{v:Value}{L:List Nd}{h:Hd}{s:St}(q:QX w b K R V Nb v L h s):Hid (QX w b K R V Nb v L h s):=q
theorem QX.mv {w:yW}{b:Nat}{K:PK}{R:Nat}{V:yW}{Nb:Nat}{v:Value}{L:List Nd}{h:Hd}{s:St}{V':yW}{s':St}(q:QX w b K R V Nb v L h s) (hm:Mv V V' (fun k=>k=b)) (hs:Sp V' b K s'):QX w b K R V' Nb v L h s':=by
 have hz:=hm.size
 have hb:=q.X.W.1
 have h1:=q.nb
 refine⟨q.X.mv hm hs,(hm.block _ (zJ q.N).1 (by omega)).trans q.N,q.nb,q.rn,q.row.of_block (fun k hk=>hm.block k (q.row.lt k hk) (by have:=(q.vb k hk).1; omega)),q.vb,fun m hm'=>?_⟩
 obtain⟨l1,l2⟩:=q.ls m hm'
 exact⟨l1.bkn l2 fun j hj=>hm.block j hj.2.1 (by omega),l2.mono fun j hj=>⟨hj.1,by omega,hj.2.2⟩⟩
theorem QX.on {w:yW}{b:Nat}{K:PK}{R:Nat}{V:yW}{Nb:Nat}{v:Value}{L:List Nd}{h:Hd}{s:St}{V':yW}(q:QX w b K R V Nb v L h s) (k:yD V V'):QX w b K R V' Nb v L h s:=q.mv (Mv.ofBelow k) (q.X.S.on k)
theorem QX.app {w:yW}{b:Nat}{K:PK}{R:Nat}{V:yW}{Nb:Nat}{v:Value}{L:List Nd}{h:Hd}{s:St}{w':yW}{y:Nd}{g cap:Nat}(q:QX w b K R V Nb v L h s) (hl:Lies V y) (hk:Bkn (fun k=>w§≤k∧k < V§∧k≠Nb∧k≠R∧v.ownBlock≠some k) y)
  (hr:RowN w' (.slice (some g¢0) (L.length+1) cap) (L ++ [y])) (h3:(V.alloc (.cells y.vals 48)).grownBy w' v.ownBlock) (h4:v.ownBlock=some g∨V§ < g) :
  w'.heap[Nb]? = V.heap[Nb]?∧QX w b K R (w'.setCell Nb¢6 (.slice (some g¢0) (L.length+1) cap)) Nb (.slice (some g¢0) (L.length+1) cap) (L ++ [y]) h s:=by
 have hs0:=Qf V (.cells y.vals 48)
 have hs:=h3.size
 have hN:=(zJ q.N).1
 have hZ:=(zJ q.X.Z).1
 have hb:=q.X.W.1
 have h1:=q.nb
 have h2:=q.rn
 have hr0:=q.X.r
 have old:∀ k,k < V§→v.ownBlock≠some k→w'.heap[k]? = V.heap[k]?:=fun k hk hne=>(h3.block k (by omega) (fun e=>hne e.symm)).trans (Below.heap_alloc _ _ _ hk)
 have oldS:∀ k,k < V§→v.ownBlock≠some k→k≠Nb→(w'.setCell Nb¢6 (.slice (some g¢0) (L.length+1) cap)).heap[k]? = V.heap[k]?:=fun k hk hne hn=>(Below.heap_setCell _ _ _ _ hn).trans (old k hk hne)
 have hvN:v.ownBlock≠some Nb:=fun e=>(q.vb _ e).2.1 rfl
 have hvR:v.ownBlock≠some R:=fun e=>(q.vb _ e).2.2 rfl
 have hgN:g≠Nb:=by
  rcases h4 with h4 | h4
  ·exact fun e=>hvN (by rw [← e]; exact h4)
  ·omega
 have hgR:g≠R:=by
  rcases h4 with h4 | h4
  ·exact fun e=>hvR (by rw [← e]; exact h4)
  ·omega
 have hgw:w§≤g:=by
  rcases h4 with h4 | h4
  ·exact (q.vb _ h4).1
  ·have:=q.X.M.size; omega
 have vlow:∀ k,k < w§→v.ownBlock≠some k:=fun k hk e=>by have:=(q.vb _ e).1; omega
 have hVw:=q.X.M.size
 refine⟨old _ hN hvN,⟨⟨?_,?_,?_,q.X.W,q.X.r⟩,?_,q.nb,q.rn,?_,?_,?_⟩⟩
 ·have m1:Mv w w' (fun k=>k=b):=(q.X.M.trans (Mv.ofBelow (F:=fun k=>k=b) (Qc V (.cells y.vals 48))) (fun _ e=>.inl e)).grown h3 (fun k e=>.inr (q.vb _ e).1)
  exact m1.setCell (a:=Nb¢6) (.inr (by show w§≤Nb; omega)) _
 ·exact (oldS _ hZ hvR h2).trans q.X.Z
 ·exact q.X.S.off q.X.W (fun k hk=>oldS k (by omega) (vlow k hk) (by omega))
 ·exact Qi (j:=6) _ ((old _ hN hvN).trans q.N)
 ·exact hr.of_block (fun k hk=>Below.heap_setCell _ _ _ _ (by simp [Value.ownBlock] at hk; show k≠Nb; omega))
 ·intro k hk
  simp [Value.ownBlock] at hk
  subst hk
  exact⟨hgw,hgN,hgR⟩
 ·intro m hm
  have hsz:(w'.setCell Nb¢6 (.slice (some g¢0) (L.length+1) cap))§=w'§:=by simp [World.setCell]
  have key:∀ m,Lies V m→Bkn (fun k=>w§≤k∧k < V§∧k≠Nb∧k≠R∧v.ownBlock≠some k) m→Lies (w'.setCell Nb¢6 (.slice (some g¢0) (L.length+1) cap)) m∧Bkn (fun k=>w§≤k∧k < (w'.setCell Nb¢6 (.slice (some g¢0) (L.length+1) cap))§∧k≠Nb∧k≠R∧(Value.slice (some g¢0) (L.length+1) cap).ownBlock≠some k) m:=fun m l1 l2 =>
   ⟨l1.bkn l2 fun j hj=>oldS j hj.2.1 hj.2.2.2.2 hj.2.2.1,l2.mono fun j hj=>⟨hj.1,by rw [hsz]; omega,hj.2.2.1,hj.2.2.2.1,fun e=>by
    simp [Value.ownBlock] at e
    rcases h4 with h4 | h4
    ·exact hj.2.2.2.2 (by rw [h4,e])
    ·omega⟩⟩
  rcases List.mem_append.1 hm with hm | hm
  ·exact key m (q.ls m hm).1 (q.ls m hm).2
  ·obtain rfl:=List.mem_singleton.1 hm
   exact key m hl hk
theorem QX.fin {w:yW}{b:Nat}{K:PK}{R:Nat}{W:yW}{Nb g n cap:Nat}{L:List Nd}{h:Hd}{s:St}(q:QX w b K R W Nb (.slice (some g¢0) n cap) L h s) (hn:n=L.length) (hq:Rg h) :
  ∃ Y,((((((((W.setCell R¢0 (zU h.k)).setCell R¢1 (zU h.o)).setCell R¢2 (zU h.t)).setCell R¢3 (zI h.n)).setCell R¢4 (zU h.f)).setCell R¢5 (.string h.x)).setCell R¢6 (.slice (some g¢0) n cap)).setCell R¢7 (zI h.p))=Y∧Y.heap[R]? = (zC (Nd.mk h (some g¢0) cap L).vals 48)∧Lies Y (.mk h (some g¢0) cap L)∧Bkn (fun k=>w§≤k∧k < Y§) (.mk h (some g¢0) cap L)∧Sp Y b K s∧Mv w Y (fun k=>k=b):=by
 obtain⟨Y,eY,hY1,hY2,hY3,hY4⟩:=fin8 q.X.Z (zU h.k) (zU h.o) (zU h.t) (zI h.n) (zU h.f) (.string h.x) (.slice (some g¢0) n cap) (zI h.p)
 obtain⟨g',cap',e',hc1,hc2,hrow⟩:∃ g' cap',Value.slice (some g¢0) n cap=.slice (some g'¢0) L.length cap'∧L.length≤cap'∧cap'≤9223372036854775807∧∀ j,j < L.length→NdAt W g' (0+j * 8) (ldF L j):=q.row.lies.resolve_left (fun e=>by cases e.1)
 cases e'
 have hgw:=q.vb g rfl
 have hgl:g < W§:=q.row.lt g rfl
 have hr0:=q.X.r
 refine⟨Y,eY,hY1,?_,?_,q.X.S.off q.X.W (fun k hk=>hY3 k (by omega)),hY4 _ _ q.X.M q.X.r⟩
 ·refine .mk _ _ _ _ hq hc1 hc2 (fun i hi=>⟨g,0,rfl,?_⟩) (fun m hm=>(q.ls m hm).1.bkn (q.ls m hm).2 fun j hj=>hY3 j (by omega))
  have:=hrow i hi
  rw [ldF_get hi] at this
  exact this.blk (hY3 g (by omega))
 ·refine .mk _ _ _ _ (fun b' o e=>?_) (fun m hm=>(q.ls m hm).2.mono fun j hj=>⟨by omega,by omega⟩)
  injection e with e; injection e with e; omega
end Go.Proofs.YtoogodlnnijikaaGreatDoor
