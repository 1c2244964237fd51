import Derived.Test.YtoogodlnnijikaaGreatDoorA0
import Derived.Test.YtoogodlnnijikaaGreatDoorA16
namespace Go.Proofs.YtoogodlnnijikaaGreatDoor
set_option maxHeartbeats 4000000
set_option maxRecDepth 100000
open Go.RowKit
set_option linter.unusedVariables false
theorem ty_op (y:yB):(fnd y zz 0 = -1∧¬ (1≤tyX y∧tyX y≤4))∨(0≤fnd y zz 0∧fnd y zz 0 < 4∧tyX y=1+fnd y zz 0):=by
 by_cases e0:y=Zi
 ·subst e0; exact .inr (by decide +kernel)
 by_cases e1:y=Zk
 ·subst e1; exact .inr (by decide +kernel)
 by_cases e2:y=Zj
 ·subst e2; exact .inr (by decide +kernel)
 by_cases e3:y=Zl
 ·subst e3; exact .inr (by decide +kernel)
 left
 have q0:(eqX y [105,110,116]=true)=(y=Zi):=QE y #[105,110,116]
 have q1:(eqX y [113,116,121]=true)=(y=Zk):=QE y #[113,116,121]
 have q2:(eqX y [112,114,105,99,101]=true)=(y=Zj):=QE y #[112,114,105,99,101]
 have q3:(eqX y [116,105,109,101]=true)=(y=Zl):=QE y #[116,105,109,101]
 refine⟨by simp only [fnd,if_neg e0,if_neg e1,if_neg e2,if_neg e3],?_⟩
 unfold tyX
 rw [if_neg (by rw [q0]; exact e0),if_neg (by rw [q1]; exact e1),if_neg (by rw [q2]; exact e2),if_neg (by rw [q3]; exact e3)]
 split
 ·omega
 split
 ·omega
 omega
theorem d1_lit {K:PK}(hK:KOk K) {b:Nat}{d:Nat}{w:yW}{t:Tk}{ts:List Tk}(h:Lv w b K (t :: ts)) (hv:(valT t).1≠0) :
  Calls zG 195 #[zP b,zI d] w (OutD b K w (.ok (Qh (litN t),ts))):=by
 have HZ:=(RZ.new (show Sp w b K (.ok (t :: ts)) from ⟨by simp,h⟩)).hid
 have HK:Hid (KOk K):=hK
 have HTK:Hid (TkOk t):=h.ok hK
 clear hK
 clear h
 obtain⟨W0,eW0⟩:∃ W,w.alloc (.cells zNo 48)=W:=⟨_,rfl⟩
 rw [eW0] at HZ
 have HVT:Hid ((valT t).1≠0):=hv
 have HRV:Hid (Rg ⟨1,0,(valT t).1,(valT t).2,0,gE,t.p⟩):=HTK.out.r.val
 have cL:=literal_ok HZ.out.S.2 HTK.out HVT.out
 obtain⟨y,ey⟩:∃ y,(valT t).1=y:=⟨_,rfl⟩
 obtain⟨n,en⟩:∃ y,(valT t).2=y:=⟨_,rfl⟩
 unfold litN at cL ⊢
 rw [ey,en] at cL HRV ⊢
 clear hv ey en HVT
 simp only [Nd.vals,Nd.h,Nd.a,Nd.c,Nd.ks,hdA,gE,List.length_nil] at cL
 go_enter Tryz.func195,Tryz.ntmps195
 go_wp2_with fail
 try rw [eW0]
 refine cL.mono ?_
 rintro e w1 ⟨rfl,hlv,hm⟩
 have HZ1:=(HZ.out.mv hm hlv.sp).hid
 have HB:Hid (yD w1 (w1.alloc (.cells #[zU 1,zU 0,zU y,zI n,zU 0,yQ,.slice none 0 0,zI t.p] 48))):=Qc _ _
 have hN:=Qd w1 (.cells #[zU 1,zU 0,zU y,zI n,zU 0,yQ,.slice none 0 0,zI t.p] 48)
 have HZ2:=(HZ1.out.on HB.out).hid
 obtain⟨W1,eW1⟩:∃ W,w1.alloc (.cells #[zU 1,zU 0,zU y,zI n,zU 0,yQ,.slice none 0 0,zI t.p] 48)=W:=⟨_,rfl⟩
 rw [eW1] at HZ2 hN
 have x0':W1.cell? w1§¢0=some (zU 1):=Qa hN 0
 have x1':W1.cell? w1§¢1=some (zU 0):=Qa hN 1
 have x2':W1.cell? w1§¢2=some (zU y):=Qa hN 2
 have x3':W1.cell? w1§¢3=some (zI n):=Qa hN 3
 have x4':W1.cell? w1§¢4=some (zU 0):=Qa hN 4
 have x5':W1.cell? w1§¢5=some (yQ):=Qa hN 5
 have x6':W1.cell? w1§¢6=some (.slice none 0 0):=Qa hN 6
 have x7':W1.cell? w1§¢7=some (zI t.p):=Qa hN 7
 clear cL hlv hm HZ HZ1 HB hN
 go_upto_region 3 with fail
 try rw [eW1]
 clear eW1
 have z0:W1.cell? w§¢0=some (zU 0):=Qa HZ2.out.Z 0
 have q0:W1.frozen? w§¢0=false:=Qb HZ2.out.Z 0
 have z1:W1.cell? w§¢1=some (zU 0):=Qa HZ2.out.Z 1
 have q1:W1.frozen? w§¢1=false:=Qb HZ2.out.Z 1
 have z2:W1.cell? w§¢2=some (zU 0):=Qa HZ2.out.Z 2
 have q2:W1.frozen? w§¢2=false:=Qb HZ2.out.Z 2
 have z3:W1.cell? w§¢3=some (zI 0):=Qa HZ2.out.Z 3
 have q3:W1.frozen? w§¢3=false:=Qb HZ2.out.Z 3
 have z4:W1.cell? w§¢4=some (zU 0):=Qa HZ2.out.Z 4
 have q4:W1.frozen? w§¢4=false:=Qb HZ2.out.Z 4
 have z5:W1.cell? w§¢5=some (yQ):=Qa HZ2.out.Z 5
 have q5:W1.frozen? w§¢5=false:=Qb HZ2.out.Z 5
 have z6:W1.cell? w§¢6=some (.slice none 0 0):=Qa HZ2.out.Z 6
 have q6:W1.frozen? w§¢6=false:=Qb HZ2.out.Z 6
 have z7:W1.cell? w§¢7=some (zI 0):=Qa HZ2.out.Z 7
 have q7:W1.frozen? w§¢7=false:=Qb HZ2.out.Z 7
 obtain⟨Y,eY,hY1,hY2,hY3,hY4,hY5⟩:=HZ2.out.fin (lies0 W1 HRV.out) (bkn0 _ _)
 have HEY:Hid (((((((((W1.setCell w§¢0 (zU 1)).setCell w§¢1 (zU 0)).setCell w§¢2 (zU y)).setCell w§¢3 (zI n)).setCell w§¢4 (zU 0)).setCell w§¢5 (yQ)).setCell w§¢6 (.slice none 0 0)).setCell w§¢7 (zI t.p))=Y):=eY
 have HY1:Hid (Y.heap[w§]? = (zC (Nd.mk ⟨1,0,y,n,0,gE,t.p⟩ none 0 []).vals 48)):=hY1
 have HYY:Hid (Lies Y (Nd.mk ⟨1,0,y,n,0,gE,t.p⟩ none 0 [])∧Bkn (fun k=>w§≤k∧k < Y§) (Nd.mk ⟨1,0,y,n,0,gE,t.p⟩ none 0 [])∧Sp Y b K (nf ts)∧Mv w Y (fun k=>k=b)):=⟨hY2,hY3,hY4,hY5⟩
 clear eY hY1 hY2 hY3 hY4 hY5
 go_wp2_with fail
 rw [HEY.out]
 refine bodyPost_ret (results_cell_row rfl _ _ w§ 48 (Nd.mk ⟨1,0,y,n,0,gE,t.p⟩ none 0 []).vals (0,0) _ rfl HY1.out Tryz.underlying48 rfl zK) rfl ⟨_,rfl,HYY.out.1,HYY.out.2.1,?_,HYY.out.2.2.2,?_⟩
 ·exact HYY.out.2.2.1
 ·exact fun q e=>by cases e; rfl
theorem d1_name {K:PK}(hK:KOk K) {b:Nat}{d:Nat}{w:yW}{t:Tk}{ts:List Tk}(h:Lv w b K (t :: ts)) (hv:(valT t).1=0) (hk:t.k=2) :
  Calls zG 195 #[zP b,zI d] w (OutD b K w (.ok (.mk ⟨2,0,0,0,0,t.x,t.p⟩ [],ts))):=by
 have HZ:=(RZ.new (show Sp w b K (.ok (t :: ts)) from ⟨by simp,h⟩)).hid
 have HK:Hid (KOk K):=hK
 have HTK:Hid (TkOk t):=h.ok hK
 clear hK
 clear h
 obtain⟨W0,eW0⟩:∃ W,w.alloc (.cells zNo 48)=W:=⟨_,rfl⟩
 rw [eW0] at HZ
 have HVT:Hid ((valT t).1=0):=hv
 have HKT:Hid (t.k=2):=hk
 clear hv hk
 have cL:=JO HZ.out.S.2 HTK.out HVT.out
 unfold nul8 at cL
 go_enter Tryz.func195,Tryz.ntmps195
 go_wp2_with fail
 try rw [eW0]
 refine cL.mono ?_
 rintro e w1 ⟨rfl,hb1⟩
 have HZ2:=((HZ.out.on hb1).on (Qc w1 (.cells zNo 48))).hid
 have cN:=Qt HZ2.out.S.2
 unfold tkA at cN
 clear cL hb1 HZ
 go_wp2_with fail
 refine cN.mono ?_
 rintro e w2 ⟨rfl,hb2⟩
 have HZ3:=((HZ2.out.on hb2).on (Qc w2 (.cells #[zU t.k,.string t.x,zU t.ty,zI t.n,zI t.p] 148))).hid
 have hT3:=Qd w2 (.cells #[zU t.k,.string t.x,zU t.ty,zI t.n,zI t.p] 148)
 have hQ:w§ < w2§:=(zJ (HZ2.out.on hb2).Z).1
 obtain⟨Q,eQ⟩:∃ q,w2§=q:=⟨_,rfl⟩
 go_upto_region 5 with fail
 try rw [eQ]
 obtain⟨W3,eW3⟩:∃ W,w2.alloc (.cells #[zU t.k,.string t.x,zU t.ty,zI t.n,zI t.p] 148)=W:=⟨_,rfl⟩
 rw [eW3] at HZ3 hT3 ⊢
 rw [eQ] at hT3 hQ
 have HQ:Hid (w§ < Q):=hQ
 have HT3:Hid (W3.heap[Q]? = (zC #[zU t.k,.string t.x,zU t.ty,zI t.n,zI t.p] 148)):=hT3
 have k0:W3.cell? Q¢0=some (zU t.k):=Qa hT3 0
 clear cN hb2 HZ2 hT3 eW3 eQ hQ
 rw [HKT.out] at k0
 have k1:W3.cell? Q¢1=some (.string t.x):=Qa HT3.out 1
 have k4:W3.cell? Q¢4=some (zI t.p):=Qa HT3.out 4
 obtain⟨i,c3,f3,hmx,hL,hM,ho,_⟩:=HZ3.out.S.2.at'
 obtain⟨V,eV⟩:∃ V,W3.setCell b¢3 (zI ((i:Int)+1))=V:=⟨_,rfl⟩
 rw [eV] at hL hM ho
 have HZ4:=(HZ3.out.mv hM hL.sp).hid
 have hbw:=HZ3.out.W.1
 have hT4:V.heap[Q]? = (zC #[zU t.k,.string t.x,zU t.ty,zI t.n,zI t.p] 148):=(ho Q (by have:=HQ.out; omega)).trans HT3.out
 have HRV:Hid (Rg ⟨2,0,0,0,0,t.x,t.p⟩):=by
  have:=HTK.out.r.p0
  have:=HTK.out.r.p1
  have:=HTK.out.r.x1
  show Rg _
  constructor <;> first | omega | (simp only; omega) | simp
 go_upto_region 7 with fail
 try rw [eV]
 clear eV c3 f3 hmx hL hM ho k0 k1 k4 HZ3
 have k1:V.cell? Q¢1=some (.string t.x):=Qa hT4 1
 have k4:V.cell? Q¢4=some (zI t.p):=Qa hT4 4
 clear hT4
 have z0:V.cell? w§¢0=some (zU 0):=Qa HZ4.out.Z 0
 have q0:V.frozen? w§¢0=false:=Qb HZ4.out.Z 0
 have z1:V.cell? w§¢1=some (zU 0):=Qa HZ4.out.Z 1
 have q1:V.frozen? w§¢1=false:=Qb HZ4.out.Z 1
 have z2:V.cell? w§¢2=some (zU 0):=Qa HZ4.out.Z 2
 have q2:V.frozen? w§¢2=false:=Qb HZ4.out.Z 2
 have z3:V.cell? w§¢3=some (zI 0):=Qa HZ4.out.Z 3
 have q3:V.frozen? w§¢3=false:=Qb HZ4.out.Z 3
 have z4:V.cell? w§¢4=some (zU 0):=Qa HZ4.out.Z 4
 have q4:V.frozen? w§¢4=false:=Qb HZ4.out.Z 4
 have z5:V.cell? w§¢5=some (yQ):=Qa HZ4.out.Z 5
 have q5:V.frozen? w§¢5=false:=Qb HZ4.out.Z 5
 have z6:V.cell? w§¢6=some (.slice none 0 0):=Qa HZ4.out.Z 6
 have q6:V.frozen? w§¢6=false:=Qb HZ4.out.Z 6
 have z7:V.cell? w§¢7=some (zI 0):=Qa HZ4.out.Z 7
 have q7:V.frozen? w§¢7=false:=Qb HZ4.out.Z 7
 obtain⟨Y,eY,hY1,hY2,hY3,hY4,hY5⟩:=HZ4.out.fin (lies0 V HRV.out) (bkn0 _ _)
 have HEY:Hid (((((((((V.setCell w§¢0 (zU 2)).setCell w§¢1 (zU 0)).setCell w§¢2 (zU 0)).setCell w§¢3 (zI 0)).setCell w§¢4 (zU 0)).setCell w§¢5 (.string t.x)).setCell w§¢6 (.slice none 0 0)).setCell w§¢7 (zI t.p))=Y):=eY
 have HY1:Hid (Y.heap[w§]? = (zC (Nd.mk ⟨2,0,0,0,0,t.x,t.p⟩ none 0 []).vals 48)):=hY1
 have HYY:Hid (Lies Y (Nd.mk ⟨2,0,0,0,0,t.x,t.p⟩ none 0 [])∧Bkn (fun k=>w§≤k∧k < Y§) (Nd.mk ⟨2,0,0,0,0,t.x,t.p⟩ none 0 [])∧Sp Y b K (nf ts)∧Mv w Y (fun k=>k=b)):=⟨hY2,hY3,hY4,hY5⟩
 clear eY hY1 hY2 hY3 hY4 hY5
 go_wp2_with fail
 rw [HEY.out]
 refine bodyPost_ret (results_cell_row rfl _ _ w§ 48 (Nd.mk ⟨2,0,0,0,0,t.x,t.p⟩ none 0 []).vals (0,0) _ rfl HY1.out Tryz.underlying48 rfl zK) rfl ⟨_,rfl,HYY.out.1,HYY.out.2.1,?_,HYY.out.2.2.2,?_⟩
 ·exact HYY.out.2.2.1
 ·exact fun q e=>by cases e; rfl
theorem d1_field {K:PK}(hK:KOk K) {b:Nat}{d:Nat}{w:yW}{t:Tk}{ts:List Tk}(h:Lv w b K (t :: ts)) (hv:(valT t).1=0) (hk:¬ t.k=2) {v:Int}(ev:fnd t.x zn 0=v) (h0:0≤v) :
  Calls zG 195 #[zP b,zI d] w (OutD b K w (.ok (.mk ⟨3,0,0,0,v+1,gE,t.p⟩ [],ts))):=by
 have HZ:=(RZ.new (show Sp w b K (.ok (t :: ts)) from ⟨by simp,h⟩)).hid
 have HK:Hid (KOk K):=hK
 have HTK:Hid (TkOk t):=h.ok hK
 clear hK
 clear h
 obtain⟨W0,eW0⟩:∃ W,w.alloc (.cells zNo 48)=W:=⟨_,rfl⟩
 rw [eW0] at HZ
 have HVT:Hid ((valT t).1=0):=hv
 have EV:Hid (fnd t.x zn 0=v):=ev
 have hv6:v < 6:=by have:=(Jt t.x zn 0).2; rw [ev] at this; exact this
 have hv7:decide (0≤v)=true:=decide_eq_true h0
 clear ev
 have HKT:Hid (¬ t.k=2):=hk
 have hkn:¬ t.k=2:=hk
 clear hv hk
 have cL:=JO HZ.out.S.2 HTK.out HVT.out
 unfold nul8 at cL
 go_enter Tryz.func195,Tryz.ntmps195
 go_wp2_with fail
 try rw [eW0]
 refine cL.mono ?_
 rintro e w1 ⟨rfl,hb1⟩
 have HZ2:=((HZ.out.on hb1).on (Qc w1 (.cells zNo 48))).hid
 have cN:=Qt HZ2.out.S.2
 unfold tkA at cN
 clear cL hb1 HZ
 go_wp2_with fail
 refine cN.mono ?_
 rintro e w2 ⟨rfl,hb2⟩
 have HZ3:=((HZ2.out.on hb2).on (Qc w2 (.cells #[zU t.k,.string t.x,zU t.ty,zI t.n,zI t.p] 148))).hid
 have hT3:=Qd w2 (.cells #[zU t.k,.string t.x,zU t.ty,zI t.n,zI t.p] 148)
 have hQ:w§ < w2§:=(zJ (HZ2.out.on hb2).Z).1
 obtain⟨Q,eQ⟩:∃ q,w2§=q:=⟨_,rfl⟩
 go_upto_region 5 with fail
 try rw [eQ]
 obtain⟨W3,eW3⟩:∃ W,w2.alloc (.cells #[zU t.k,.string t.x,zU t.ty,zI t.n,zI t.p] 148)=W:=⟨_,rfl⟩
 rw [eW3] at HZ3 hT3 ⊢
 rw [eQ] at hT3 hQ
 have HQ:Hid (w§ < Q):=hQ
 have HT3:Hid (W3.heap[Q]? = (zC #[zU t.k,.string t.x,zU t.ty,zI t.n,zI t.p] 148)):=hT3
 have k0:W3.cell? Q¢0=some (zU t.k):=Qa hT3 0
 clear cN hb2 HZ2 hT3 eW3 eQ hQ
 have HW1:Hid (yD W3 (W3.alloc (.cells zg 9))):=Qc _ _
 have hSL:SLs (W3.alloc (.cells zg 9)) W3§ zn:=fun j hj=>by
  have hh:=Qd W3 (.cells zg 9)
  match j,hj with
  | 0,_=>exact Qa hh 0
  | 1,_=>exact Qa hh 1
  | 2,_=>exact Qa hh 2
  | 3,_=>exact Qa hh 3
  | 4,_=>exact Qa hh 4
  | 5,_=>exact Qa hh 5
 have cA:=Qv ((HZ3.out.S.2).on HW1.out) (n:=6) (c:=6) hSL rfl (by omega) (fun x hx=>((HZ3.out.S.2).ok HK.out).kw (.inl (by simp only [List.mem_cons,List.not_mem_nil,or_false] at hx; rcases hx with rfl | rfl | rfl | rfl | rfl | rfl <;> simp [kwW])))
 clear hSL
 rw [EV.out] at cA
 go_wp2_with fail
 refine cA.mono ?_
 rintro e a1 ⟨rfl,hb⟩
 have HZa1:=((HZ3.out.on HW1.out).on hb).hid
 have HTa1:Hid (a1.heap[Q]? = (zC #[zU t.k,.string t.x,zU t.ty,zI t.n,zI t.p] 148)):=(((Qe HW1.out hb)).block _ (zJ HT3.out).1).trans HT3.out
 have k4:a1.cell? Q¢4=some (zI t.p):=Qa HTa1.out 4
 clear cA hb HW1 HZ3 HT3
 obtain⟨i,c3,f3,hmx,hL,hM,ho,_⟩:=HZa1.out.S.2.at'
 obtain⟨V,eV⟩:∃ V,a1.setCell b¢3 (zI ((i:Int)+1))=V:=⟨_,rfl⟩
 rw [eV] at hL hM ho
 have HZ4:=(HZa1.out.mv hM hL.sp).hid
 have hbw:=HZa1.out.W.1
 have hT4:V.heap[Q]? = (zC #[zU t.k,.string t.x,zU t.ty,zI t.n,zI t.p] 148):=(ho Q (by have:=HQ.out; omega)).trans HTa1.out
 have HRV:Hid (Rg ⟨3,0,0,0,v+1,gE,t.p⟩):=by
  have:=HTK.out.r.p0
  have:=HTK.out.r.p1
  show Rg _
  constructor <;> first | omega | (show (0:Nat)≤_; omega) | (simp only; omega) | simp
 go_upto_region 11 with fail
 try rw [eV]
 clear eV c3 f3 hmx hL hM ho k4 HZa1 k0
 have k4:V.cell? Q¢4=some (zI t.p):=Qa hT4 4
 clear hT4
 have z0:V.cell? w§¢0=some (zU 0):=Qa HZ4.out.Z 0
 have q0:V.frozen? w§¢0=false:=Qb HZ4.out.Z 0
 have z1:V.cell? w§¢1=some (zU 0):=Qa HZ4.out.Z 1
 have q1:V.frozen? w§¢1=false:=Qb HZ4.out.Z 1
 have z2:V.cell? w§¢2=some (zU 0):=Qa HZ4.out.Z 2
 have q2:V.frozen? w§¢2=false:=Qb HZ4.out.Z 2
 have z3:V.cell? w§¢3=some (zI 0):=Qa HZ4.out.Z 3
 have q3:V.frozen? w§¢3=false:=Qb HZ4.out.Z 3
 have z4:V.cell? w§¢4=some (zU 0):=Qa HZ4.out.Z 4
 have q4:V.frozen? w§¢4=false:=Qb HZ4.out.Z 4
 have z5:V.cell? w§¢5=some (yQ):=Qa HZ4.out.Z 5
 have q5:V.frozen? w§¢5=false:=Qb HZ4.out.Z 5
 have z6:V.cell? w§¢6=some (.slice none 0 0):=Qa HZ4.out.Z 6
 have q6:V.frozen? w§¢6=false:=Qb HZ4.out.Z 6
 have z7:V.cell? w§¢7=some (zI 0):=Qa HZ4.out.Z 7
 have q7:V.frozen? w§¢7=false:=Qb HZ4.out.Z 7
 obtain⟨Y,eY,hY1,hY2,hY3,hY4,hY5⟩:=HZ4.out.fin (lies0 V HRV.out) (bkn0 _ _)
 have HEY:Hid (((((((((V.setCell w§¢0 (zU 3)).setCell w§¢1 (zU 0)).setCell w§¢2 (zU 0)).setCell w§¢3 (zI 0)).setCell w§¢4 (zU (v+1))).setCell w§¢5 (yQ)).setCell w§¢6 (.slice none 0 0)).setCell w§¢7 (zI t.p))=Y):=eY
 have HY1:Hid (Y.heap[w§]? = (zC (Nd.mk ⟨3,0,0,0,v+1,gE,t.p⟩ none 0 []).vals 48)):=hY1
 have HYY:Hid (Lies Y (Nd.mk ⟨3,0,0,0,v+1,gE,t.p⟩ none 0 [])∧Bkn (fun k=>w§≤k∧k < Y§) (Nd.mk ⟨3,0,0,0,v+1,gE,t.p⟩ none 0 [])∧Sp Y b K (nf ts)∧Mv w Y (fun k=>k=b)):=⟨hY2,hY3,hY4,hY5⟩
 clear eY hY1 hY2 hY3 hY4 hY5
 go_wp2_with fail
 rw [HEY.out]
 refine bodyPost_ret (results_cell_row rfl _ _ w§ 48 (Nd.mk ⟨3,0,0,0,v+1,gE,t.p⟩ none 0 []).vals (0,0) _ rfl HY1.out Tryz.underlying48 rfl zK) rfl ⟨_,rfl,HYY.out.1,HYY.out.2.1,?_,HYY.out.2.2.2,?_⟩
 ·exact HYY.out.2.2.1
 ·exact fun q e=>by cases e; rfl
theorem one_abs (ex:List Tk→Except Ft (Tr × List Tk)) (hE:ex []=.error .lex) {K:PK}(hK:KOk K) {b:Nat}{d:Nat}{w:yW}{t:Tk}{ts:List Tk}(h:Lv w b K (t :: ts)) (hd:d≤24) (cE:d < 24→∀ (w:yW) (st:St),Sp w b K st→Calls zG 52 #[zP b,zI ((d:Int)+1)] w (OutD b K w (rd ex st))) (hv:(valT t).1=0) (hk:¬ t.k=2) (nf6:fnd t.x zn 0 = -1) (ev:fnd t.x zy 0=0) :
  Calls zG 195 #[zP b,zI d] w (OutD b K w (if d < 24 then gC1 ex ⟨8,3,0,0,0,gE,t.p⟩ ts else .error (.tok 132 t.p))):=by
 have HZ:=(RZ.new (show Sp w b K (.ok (t :: ts)) from ⟨by simp,h⟩)).hid
 have HK:Hid (KOk K):=hK
 have HTK:Hid (TkOk t):=h.ok hK
 clear hK
 clear h
 obtain⟨W0,eW0⟩:∃ W,w.alloc (.cells zNo 48)=W:=⟨_,rfl⟩
 rw [eW0] at HZ
 have HVT:Hid ((valT t).1=0):=hv
 have HKT:Hid (¬ t.k=2):=hk
 have hkn:¬ t.k=2:=hk
 clear hv hk
 have HE:Hid (ex []=.error .lex):=hE
 have HX:Hid (d < 24→∀ (w:yW) (st:St),Sp w b K st→Calls zG 52 #[zP b,zI ((d:Int)+1)] w (OutD b K w (rd ex st))):=cE
 clear hE cE
 have NF:Hid (fnd t.x zn 0 = -1):=nf6
 clear nf6
 have EV:Hid (fnd t.x zy 0=0):=ev
 clear ev
 have HRV:Hid (Rg ⟨8,3,0,0,0,gE,t.p⟩):=by
  have:=HTK.out.r.p0
  have:=HTK.out.r.p1
  show Rg _
  constructor <;> first | omega | (show (0:Nat)≤_; omega) | (simp only; omega) | simp
 obtain⟨r0,er0⟩:∃ r,(if d < 24 then gC1 ex ⟨8,3,0,0,0,gE,t.p⟩ ts else .error (.tok 132 t.p))=r:=⟨_,rfl⟩
 have HR0:Hid ((if d < 24 then gC1 ex ⟨8,3,0,0,0,gE,t.p⟩ ts else .error (.tok 132 t.p))=r0):=er0
 rw [er0]
 clear er0
 have cL:=JO HZ.out.S.2 HTK.out HVT.out
 unfold nul8 at cL
 go_enter Tryz.func195,Tryz.ntmps195
 go_wp2_with fail
 try rw [eW0]
 refine cL.mono ?_
 rintro e w1 ⟨rfl,hb1⟩
 have HZ2:=((HZ.out.on hb1).on (Qc w1 (.cells zNo 48))).hid
 have cN:=Qt HZ2.out.S.2
 unfold tkA at cN
 clear cL hb1 HZ
 go_wp2_with fail
 refine cN.mono ?_
 rintro e w2 ⟨rfl,hb2⟩
 have HZ3:=((HZ2.out.on hb2).on (Qc w2 (.cells #[zU t.k,.string t.x,zU t.ty,zI t.n,zI t.p] 148))).hid
 have hT3:=Qd w2 (.cells #[zU t.k,.string t.x,zU t.ty,zI t.n,zI t.p] 148)
 have hQ:w§ < w2§:=(zJ (HZ2.out.on hb2).Z).1
 obtain⟨Q,eQ⟩:∃ q,w2§=q:=⟨_,rfl⟩
 go_upto_region 5 with fail
 try rw [eQ]
 obtain⟨W3,eW3⟩:∃ W,w2.alloc (.cells #[zU t.k,.string t.x,zU t.ty,zI t.n,zI t.p] 148)=W:=⟨_,rfl⟩
 rw [eW3] at HZ3 hT3 ⊢
 rw [eQ] at hT3 hQ
 have HQ:Hid (w§ < Q):=hQ
 have HT3:Hid (W3.heap[Q]? = (zC #[zU t.k,.string t.x,zU t.ty,zI t.n,zI t.p] 148)):=hT3
 have k0:W3.cell? Q¢0=some (zU t.k):=Qa hT3 0
 clear cN hb2 HZ2 hT3 eW3 eQ hQ
 have HW1:Hid (yD W3 (W3.alloc (.cells zg 9))):=Qc _ _
 have hSL:SLs (W3.alloc (.cells zg 9)) W3§ zn:=fun j hj=>by
  have hh:=Qd W3 (.cells zg 9)
  match j,hj with
  | 0,_=>exact Qa hh 0
  | 1,_=>exact Qa hh 1
  | 2,_=>exact Qa hh 2
  | 3,_=>exact Qa hh 3
  | 4,_=>exact Qa hh 4
  | 5,_=>exact Qa hh 5
 have cA:=Qv ((HZ3.out.S.2).on HW1.out) (n:=6) (c:=6) hSL rfl (by omega) (fun x hx=>((HZ3.out.S.2).ok HK.out).kw (.inl (by simp only [List.mem_cons,List.not_mem_nil,or_false] at hx; rcases hx with rfl | rfl | rfl | rfl | rfl | rfl <;> simp [kwW])))
 clear hSL
 have ef:fnd t.x zn 0 = -1:=NF.out
 rw [ef] at cA
 clear ef
 go_wp2_with fail
 refine cA.mono ?_
 rintro e a1 ⟨rfl,hb⟩
 have HZa1:=((HZ3.out.on HW1.out).on hb).hid
 have HTa1:Hid (a1.heap[Q]? = (zC #[zU t.k,.string t.x,zU t.ty,zI t.n,zI t.p] 148)):=(((Qe HW1.out hb)).block _ (zJ HT3.out).1).trans HT3.out
 clear cA hb HW1 HZ3 HT3
 have HW2:Hid (yD a1 (a1.alloc (.cells zo 9))):=Qc _ _
 have hSL:SLs (a1.alloc (.cells zo 9)) a1§ zy:=fun j hj=>by
  have hh:=Qd a1 (.cells zo 9)
  match j,hj with
  | 0,_=>exact Qa hh 0
  | 1,_=>exact Qa hh 1
  | 2,_=>exact Qa hh 2
 have cA:=Qv ((HZa1.out.S.2).on HW2.out) (n:=3) (c:=3) hSL rfl (by omega) (fun x hx=>((HZa1.out.S.2).ok HK.out).kw (.inl (by simp only [List.mem_cons,List.not_mem_nil,or_false] at hx; rcases hx with rfl | rfl | rfl <;> simp [kwW])))
 clear hSL
 rw [EV.out] at cA
 go_wp2_with fail
 refine cA.mono ?_
 rintro e a2 ⟨rfl,hb⟩
 have HZa2:=((HZa1.out.on HW2.out).on hb).hid
 have HTa2:Hid (a2.heap[Q]? = (zC #[zU t.k,.string t.x,zU t.ty,zI t.n,zI t.p] 148)):=(((Qe HW2.out hb)).block _ (zJ HTa1.out).1).trans HTa1.out
 have k4:a2.cell? Q¢4=some (zI t.p):=Qa HTa2.out 4
 clear cA hb HW2 HZa1 HTa1
 have cC:=call1_d ex HE.out HK.out hd HX.out HZa2.out.S.2 HRV.out
 rw [HR0.out] at cC
 go_wp2_with fail
 refine cC.mono ?_
 rintro e w9 ⟨⟨⟨k2,o2,ty2,n2,f2,x2,p2⟩,am2,cm2,ks2⟩,rfl,hl,hk,hs,hm,ht⟩
 simp only [Nd.vals,Nd.h,Nd.a,Nd.c,Nd.ks,hdA]
 have HZ9:=(HZa2.out.mv hm hs).hid
 have HL9:=hl.hid
 have hRs:w§ < a2§:=(zJ HZa2.out.Z).1
 have HKK:Hid (Bkn (fun k=>w§≤k∧k < w9§∧k≠w§) (Nd.mk ⟨k2,o2,ty2,n2,f2,x2,p2⟩ am2 cm2 ks2)):=hk.mono fun j hj=>by omega
 have HTT:Hid (∀ q,r0=.ok q→Qh (Nd.mk ⟨k2,o2,ty2,n2,f2,x2,p2⟩ am2 cm2 ks2)=q.1):=ht
 clear cC hl hk hs hm ht
 have z0:w9.cell? w§¢0=some (zU 0):=Qa HZ9.out.Z 0
 have q0:w9.frozen? w§¢0=false:=Qb HZ9.out.Z 0
 have z1:w9.cell? w§¢1=some (zU 0):=Qa HZ9.out.Z 1
 have q1:w9.frozen? w§¢1=false:=Qb HZ9.out.Z 1
 have z2:w9.cell? w§¢2=some (zU 0):=Qa HZ9.out.Z 2
 have q2:w9.frozen? w§¢2=false:=Qb HZ9.out.Z 2
 have z3:w9.cell? w§¢3=some (zI 0):=Qa HZ9.out.Z 3
 have q3:w9.frozen? w§¢3=false:=Qb HZ9.out.Z 3
 have z4:w9.cell? w§¢4=some (zU 0):=Qa HZ9.out.Z 4
 have q4:w9.frozen? w§¢4=false:=Qb HZ9.out.Z 4
 have z5:w9.cell? w§¢5=some (yQ):=Qa HZ9.out.Z 5
 have q5:w9.frozen? w§¢5=false:=Qb HZ9.out.Z 5
 have z6:w9.cell? w§¢6=some (.slice none 0 0):=Qa HZ9.out.Z 6
 have q6:w9.frozen? w§¢6=false:=Qb HZ9.out.Z 6
 have z7:w9.cell? w§¢7=some (zI 0):=Qa HZ9.out.Z 7
 have q7:w9.frozen? w§¢7=false:=Qb HZ9.out.Z 7
 obtain⟨Y,eY,hY1,hY2,hY3,hY4,hY5⟩:=HZ9.out.fin HL9.out HKK.out
 have HEY:Hid (_=Y):=eY
 have HY1:Hid (Y.heap[w§]? = (zC (Nd.mk ⟨k2,o2,ty2,n2,f2,x2,p2⟩ am2 cm2 ks2).vals 48)):=hY1
 have HYY:Hid (Lies Y (Nd.mk ⟨k2,o2,ty2,n2,f2,x2,p2⟩ am2 cm2 ks2)∧Bkn (fun k=>w§≤k∧k < Y§) (Nd.mk ⟨k2,o2,ty2,n2,f2,x2,p2⟩ am2 cm2 ks2)∧Sp Y b K (stOf (r0))∧Mv w Y (fun k=>k=b)):=⟨hY2,hY3,hY4,hY5⟩
 clear eY hY1 hY2 hY3 hY4 hY5
 go_wp2_with fail
 rw [HEY.out]
 refine bodyPost_ret (results_cell_row rfl _ _ w§ 48 (Nd.mk ⟨k2,o2,ty2,n2,f2,x2,p2⟩ am2 cm2 ks2).vals (0,0) _ rfl HY1.out Tryz.underlying48 rfl zK) rfl ⟨_,rfl,HYY.out.1,HYY.out.2.1,?_,HYY.out.2.2.2,?_⟩
 ·exact HYY.out.2.2.1
 ·exact HTT.out
theorem one_minmax (ex:List Tk→Except Ft (Tr × List Tk)) (hE:ex []=.error .lex) {K:PK}(hK:KOk K) {b:Nat}{d:Nat}{w:yW}{t:Tk}{ts:List Tk}(h:Lv w b K (t :: ts)) (hd:d≤24) (cE:d < 24→∀ (w:yW) (st:St),Sp w b K st→Calls zG 52 #[zP b,zI ((d:Int)+1)] w (OutD b K w (rd ex st))) (hv:(valT t).1=0) (hk:¬ t.k=2) (nf6:fnd t.x zn 0 = -1) {v:Int}(ev:fnd t.x zy 0=v) (h0:0 < v) :
  Calls zG 195 #[zP b,zI d] w (OutD b K w (if d < 24 then gC2 ex ⟨8,(3+v),0,0,0,gE,t.p⟩ ts else .error (.tok 132 t.p))):=by
 have HZ:=(RZ.new (show Sp w b K (.ok (t :: ts)) from ⟨by simp,h⟩)).hid
 have HK:Hid (KOk K):=hK
 have HTK:Hid (TkOk t):=h.ok hK
 clear hK
 clear h
 obtain⟨W0,eW0⟩:∃ W,w.alloc (.cells zNo 48)=W:=⟨_,rfl⟩
 rw [eW0] at HZ
 have HVT:Hid ((valT t).1=0):=hv
 have HKT:Hid (¬ t.k=2):=hk
 have hkn:¬ t.k=2:=hk
 clear hv hk
 have HE:Hid (ex []=.error .lex):=hE
 have HX:Hid (d < 24→∀ (w:yW) (st:St),Sp w b K st→Calls zG 52 #[zP b,zI ((d:Int)+1)] w (OutD b K w (rd ex st))):=cE
 clear hE cE
 have NF:Hid (fnd t.x zn 0 = -1):=nf6
 clear nf6
 have EV:Hid (fnd t.x zy 0=v):=ev
 clear ev
 have hv6:v < 3:=by have:=(Jt t.x zy 0).2; rw [EV.out] at this; exact this
 have hv7:decide (0≤v)=true:=decide_eq_true (by omega)
 have hv8:¬ v=0:=by omega
 have hv9:0≤v:=by omega
 clear h0
 have HRV:Hid (Rg ⟨8,(3+v),0,0,0,gE,t.p⟩):=by
  have:=HTK.out.r.p0
  have:=HTK.out.r.p1
  show Rg _
  constructor <;> first | omega | (show (0:Nat)≤_; omega) | (simp only; omega) | simp
 obtain⟨r0,er0⟩:∃ r,(if d < 24 then gC2 ex ⟨8,(3+v),0,0,0,gE,t.p⟩ ts else .error (.tok 132 t.p))=r:=⟨_,rfl⟩
 have HR0:Hid ((if d < 24 then gC2 ex ⟨8,(3+v),0,0,0,gE,t.p⟩ ts else .error (.tok 132 t.p))=r0):=er0
 rw [er0]
 clear er0
 have cL:=JO HZ.out.S.2 HTK.out HVT.out
 unfold nul8 at cL
 go_enter Tryz.func195,Tryz.ntmps195
 go_wp2_with fail
 try rw [eW0]
 refine cL.mono ?_
 rintro e w1 ⟨rfl,hb1⟩
 have HZ2:=((HZ.out.on hb1).on (Qc w1 (.cells zNo 48))).hid
 have cN:=Qt HZ2.out.S.2
 unfold tkA at cN
 clear cL hb1 HZ
 go_wp2_with fail
 refine cN.mono ?_
 rintro e w2 ⟨rfl,hb2⟩
 have HZ3:=((HZ2.out.on hb2).on (Qc w2 (.cells #[zU t.k,.string t.x,zU t.ty,zI t.n,zI t.p] 148))).hid
 have hT3:=Qd w2 (.cells #[zU t.k,.string t.x,zU t.ty,zI t.n,zI t.p] 148)
 have hQ:w§ < w2§:=(zJ (HZ2.out.on hb2).Z).1
 obtain⟨Q,eQ⟩:∃ q,w2§=q:=⟨_,rfl⟩
 go_upto_region 5 with fail
 try rw [eQ]
 obtain⟨W3,eW3⟩:∃ W,w2.alloc (.cells #[zU t.k,.string t.x,zU t.ty,zI t.n,zI t.p] 148)=W:=⟨_,rfl⟩
 rw [eW3] at HZ3 hT3 ⊢
 rw [eQ] at hT3 hQ
 have HQ:Hid (w§ < Q):=hQ
 have HT3:Hid (W3.heap[Q]? = (zC #[zU t.k,.string t.x,zU t.ty,zI t.n,zI t.p] 148)):=hT3
 have k0:W3.cell? Q¢0=some (zU t.k):=Qa hT3 0
 clear cN hb2 HZ2 hT3 eW3 eQ hQ
 have HW1:Hid (yD W3 (W3.alloc (.cells zg 9))):=Qc _ _
 have hSL:SLs (W3.alloc (.cells zg 9)) W3§ zn:=fun j hj=>by
  have hh:=Qd W3 (.cells zg 9)
  match j,hj with
  | 0,_=>exact Qa hh 0
  | 1,_=>exact Qa hh 1
  | 2,_=>exact Qa hh 2
  | 3,_=>exact Qa hh 3
  | 4,_=>exact Qa hh 4
  | 5,_=>exact Qa hh 5
 have cA:=Qv ((HZ3.out.S.2).on HW1.out) (n:=6) (c:=6) hSL rfl (by omega) (fun x hx=>((HZ3.out.S.2).ok HK.out).kw (.inl (by simp only [List.mem_cons,List.not_mem_nil,or_false] at hx; rcases hx with rfl | rfl | rfl | rfl | rfl | rfl <;> simp [kwW])))
 clear hSL
 have ef:fnd t.x zn 0 = -1:=NF.out
 rw [ef] at cA
 clear ef
 go_wp2_with fail
 refine cA.mono ?_
 rintro e a1 ⟨rfl,hb⟩
 have HZa1:=((HZ3.out.on HW1.out).on hb).hid
 have HTa1:Hid (a1.heap[Q]? = (zC #[zU t.k,.string t.x,zU t.ty,zI t.n,zI t.p] 148)):=(((Qe HW1.out hb)).block _ (zJ HT3.out).1).trans HT3.out
 clear cA hb HW1 HZ3 HT3
 have HW2:Hid (yD a1 (a1.alloc (.cells zo 9))):=Qc _ _
 have hSL:SLs (a1.alloc (.cells zo 9)) a1§ zy:=fun j hj=>by
  have hh:=Qd a1 (.cells zo 9)
  match j,hj with
  | 0,_=>exact Qa hh 0
  | 1,_=>exact Qa hh 1
  | 2,_=>exact Qa hh 2
 have cA:=Qv ((HZa1.out.S.2).on HW2.out) (n:=3) (c:=3) hSL rfl (by omega) (fun x hx=>((HZa1.out.S.2).ok HK.out).kw (.inl (by simp only [List.mem_cons,List.not_mem_nil,or_false] at hx; rcases hx with rfl | rfl | rfl <;> simp [kwW])))
 clear hSL
 rw [EV.out] at cA
 go_wp2_with fail
 refine cA.mono ?_
 rintro e a2 ⟨rfl,hb⟩
 have HZa2:=((HZa1.out.on HW2.out).on hb).hid
 have HTa2:Hid (a2.heap[Q]? = (zC #[zU t.k,.string t.x,zU t.ty,zI t.n,zI t.p] 148)):=(((Qe HW2.out hb)).block _ (zJ HTa1.out).1).trans HTa1.out
 have k4:a2.cell? Q¢4=some (zI t.p):=Qa HTa2.out 4
 clear cA hb HW2 HZa1 HTa1
 have cC:=call2_d ex HE.out HK.out hd HX.out HZa2.out.S.2 HRV.out
 rw [HR0.out] at cC
 go_wp2_with fail
 refine cC.mono ?_
 rintro e w9 ⟨⟨⟨k2,o2,ty2,n2,f2,x2,p2⟩,am2,cm2,ks2⟩,rfl,hl,hk,hs,hm,ht⟩
 simp only [Nd.vals,Nd.h,Nd.a,Nd.c,Nd.ks,hdA]
 have HZ9:=(HZa2.out.mv hm hs).hid
 have HL9:=hl.hid
 have hRs:w§ < a2§:=(zJ HZa2.out.Z).1
 have HKK:Hid (Bkn (fun k=>w§≤k∧k < w9§∧k≠w§) (Nd.mk ⟨k2,o2,ty2,n2,f2,x2,p2⟩ am2 cm2 ks2)):=hk.mono fun j hj=>by omega
 have HTT:Hid (∀ q,r0=.ok q→Qh (Nd.mk ⟨k2,o2,ty2,n2,f2,x2,p2⟩ am2 cm2 ks2)=q.1):=ht
 clear cC hl hk hs hm ht
 have z0:w9.cell? w§¢0=some (zU 0):=Qa HZ9.out.Z 0
 have q0:w9.frozen? w§¢0=false:=Qb HZ9.out.Z 0
 have z1:w9.cell? w§¢1=some (zU 0):=Qa HZ9.out.Z 1
 have q1:w9.frozen? w§¢1=false:=Qb HZ9.out.Z 1
 have z2:w9.cell? w§¢2=some (zU 0):=Qa HZ9.out.Z 2
 have q2:w9.frozen? w§¢2=false:=Qb HZ9.out.Z 2
 have z3:w9.cell? w§¢3=some (zI 0):=Qa HZ9.out.Z 3
 have q3:w9.frozen? w§¢3=false:=Qb HZ9.out.Z 3
 have z4:w9.cell? w§¢4=some (zU 0):=Qa HZ9.out.Z 4
 have q4:w9.frozen? w§¢4=false:=Qb HZ9.out.Z 4
 have z5:w9.cell? w§¢5=some (yQ):=Qa HZ9.out.Z 5
 have q5:w9.frozen? w§¢5=false:=Qb HZ9.out.Z 5
 have z6:w9.cell? w§¢6=some (.slice none 0 0):=Qa HZ9.out.Z 6
 have q6:w9.frozen? w§¢6=false:=Qb HZ9.out.Z 6
 have z7:w9.cell? w§¢7=some (zI 0):=Qa HZ9.out.Z 7
 have q7:w9.frozen? w§¢7=false:=Qb HZ9.out.Z 7
 obtain⟨Y,eY,hY1,hY2,hY3,hY4,hY5⟩:=HZ9.out.fin HL9.out HKK.out
 have HEY:Hid (_=Y):=eY
 have HY1:Hid (Y.heap[w§]? = (zC (Nd.mk ⟨k2,o2,ty2,n2,f2,x2,p2⟩ am2 cm2 ks2).vals 48)):=hY1
 have HYY:Hid (Lies Y (Nd.mk ⟨k2,o2,ty2,n2,f2,x2,p2⟩ am2 cm2 ks2)∧Bkn (fun k=>w§≤k∧k < Y§) (Nd.mk ⟨k2,o2,ty2,n2,f2,x2,p2⟩ am2 cm2 ks2)∧Sp Y b K (stOf (r0))∧Mv w Y (fun k=>k=b)):=⟨hY2,hY3,hY4,hY5⟩
 clear eY hY1 hY2 hY3 hY4 hY5
 go_wp2_with fail
 rw [HEY.out]
 refine bodyPost_ret (results_cell_row rfl _ _ w§ 48 (Nd.mk ⟨k2,o2,ty2,n2,f2,x2,p2⟩ am2 cm2 ks2).vals (0,0) _ rfl HY1.out Tryz.underlying48 rfl zK) rfl ⟨_,rfl,HYY.out.1,HYY.out.2.1,?_,HYY.out.2.2.2,?_⟩
 ·exact HYY.out.2.2.1
 ·exact HTT.out
theorem d1_conv (ex:List Tk→Except Ft (Tr × List Tk)) (hE:ex []=.error .lex) {K:PK}(hK:KOk K) {b:Nat}{d:Nat}{w:yW}{t:Tk}{ts:List Tk}(h:Lv w b K (t :: ts)) (hd:d≤24) (cE:d < 24→∀ (w:yW) (st:St),Sp w b K st→Calls zG 52 #[zP b,zI ((d:Int)+1)] w (OutD b K w (rd ex st))) (hv:(valT t).1=0) (hk:¬ t.k=2) (nf6:fnd t.x zn 0 = -1) (nc3:fnd t.x zy 0 = -1) {v:Int}(ev:fnd t.x zz 0=v) (h0:0≤v) :
  Calls zG 195 #[zP b,zI d] w (OutD b K w (if d < 24 then gC1 ex ⟨9,0,1+v,0,0,gE,t.p⟩ ts else .error (.tok 132 t.p))):=by
 have HZ:=(RZ.new (show Sp w b K (.ok (t :: ts)) from ⟨by simp,h⟩)).hid
 have HK:Hid (KOk K):=hK
 have HTK:Hid (TkOk t):=h.ok hK
 clear hK
 clear h
 obtain⟨W0,eW0⟩:∃ W,w.alloc (.cells zNo 48)=W:=⟨_,rfl⟩
 rw [eW0] at HZ
 have HVT:Hid ((valT t).1=0):=hv
 have HKT:Hid (¬ t.k=2):=hk
 have hkn:¬ t.k=2:=hk
 clear hv hk
 have HE:Hid (ex []=.error .lex):=hE
 have HX:Hid (d < 24→∀ (w:yW) (st:St),Sp w b K st→Calls zG 52 #[zP b,zI ((d:Int)+1)] w (OutD b K w (rd ex st))):=cE
 clear hE cE
 have NF:Hid (fnd t.x zn 0 = -1):=nf6
 clear nf6
 have NCL:Hid (fnd t.x zy 0 = -1):=nc3
 clear nc3
 have EV:Hid (fnd t.x zz 0=v):=ev
 clear ev
 have hv6:v < 4:=by have:=(Jt t.x zz 0).2; rw [EV.out] at this; exact this
 have hv7:decide (0≤v)=true:=decide_eq_true (by omega)
 have HRV:Hid (Rg ⟨9,0,1+v,0,0,gE,t.p⟩):=by
  have:=HTK.out.r.p0
  have:=HTK.out.r.p1
  show Rg _
  constructor <;> first | omega | (show (0:Nat)≤_; omega) | (simp only; omega) | simp
 obtain⟨r0,er0⟩:∃ r,(if d < 24 then gC1 ex ⟨9,0,1+v,0,0,gE,t.p⟩ ts else .error (.tok 132 t.p))=r:=⟨_,rfl⟩
 have HR0:Hid ((if d < 24 then gC1 ex ⟨9,0,1+v,0,0,gE,t.p⟩ ts else .error (.tok 132 t.p))=r0):=er0
 rw [er0]
 clear er0
 have cL:=JO HZ.out.S.2 HTK.out HVT.out
 unfold nul8 at cL
 go_enter Tryz.func195,Tryz.ntmps195
 go_wp2_with fail
 try rw [eW0]
 refine cL.mono ?_
 rintro e w1 ⟨rfl,hb1⟩
 have HZ2:=((HZ.out.on hb1).on (Qc w1 (.cells zNo 48))).hid
 have cN:=Qt HZ2.out.S.2
 unfold tkA at cN
 clear cL hb1 HZ
 go_wp2_with fail
 refine cN.mono ?_
 rintro e w2 ⟨rfl,hb2⟩
 have HZ3:=((HZ2.out.on hb2).on (Qc w2 (.cells #[zU t.k,.string t.x,zU t.ty,zI t.n,zI t.p] 148))).hid
 have hT3:=Qd w2 (.cells #[zU t.k,.string t.x,zU t.ty,zI t.n,zI t.p] 148)
 have hQ:w§ < w2§:=(zJ (HZ2.out.on hb2).Z).1
 obtain⟨Q,eQ⟩:∃ q,w2§=q:=⟨_,rfl⟩
 go_upto_region 5 with fail
 try rw [eQ]
 obtain⟨W3,eW3⟩:∃ W,w2.alloc (.cells #[zU t.k,.string t.x,zU t.ty,zI t.n,zI t.p] 148)=W:=⟨_,rfl⟩
 rw [eW3] at HZ3 hT3 ⊢
 rw [eQ] at hT3 hQ
 have HQ:Hid (w§ < Q):=hQ
 have HT3:Hid (W3.heap[Q]? = (zC #[zU t.k,.string t.x,zU t.ty,zI t.n,zI t.p] 148)):=hT3
 have k0:W3.cell? Q¢0=some (zU t.k):=Qa hT3 0
 clear cN hb2 HZ2 hT3 eW3 eQ hQ
 have HW1:Hid (yD W3 (W3.alloc (.cells zg 9))):=Qc _ _
 have hSL:SLs (W3.alloc (.cells zg 9)) W3§ zn:=fun j hj=>by
  have hh:=Qd W3 (.cells zg 9)
  match j,hj with
  | 0,_=>exact Qa hh 0
  | 1,_=>exact Qa hh 1
  | 2,_=>exact Qa hh 2
  | 3,_=>exact Qa hh 3
  | 4,_=>exact Qa hh 4
  | 5,_=>exact Qa hh 5
 have cA:=Qv ((HZ3.out.S.2).on HW1.out) (n:=6) (c:=6) hSL rfl (by omega) (fun x hx=>((HZ3.out.S.2).ok HK.out).kw (.inl (by simp only [List.mem_cons,List.not_mem_nil,or_false] at hx; rcases hx with rfl | rfl | rfl | rfl | rfl | rfl <;> simp [kwW])))
 clear hSL
 have ef:fnd t.x zn 0 = -1:=NF.out
 rw [ef] at cA
 clear ef
 go_wp2_with fail
 refine cA.mono ?_
 rintro e a1 ⟨rfl,hb⟩
 have HZa1:=((HZ3.out.on HW1.out).on hb).hid
 have HTa1:Hid (a1.heap[Q]? = (zC #[zU t.k,.string t.x,zU t.ty,zI t.n,zI t.p] 148)):=(((Qe HW1.out hb)).block _ (zJ HT3.out).1).trans HT3.out
 clear cA hb HW1 HZ3 HT3
 have HW2:Hid (yD a1 (a1.alloc (.cells zo 9))):=Qc _ _
 have hSL:SLs (a1.alloc (.cells zo 9)) a1§ zy:=fun j hj=>by
  have hh:=Qd a1 (.cells zo 9)
  match j,hj with
  | 0,_=>exact Qa hh 0
  | 1,_=>exact Qa hh 1
  | 2,_=>exact Qa hh 2
 have cA:=Qv ((HZa1.out.S.2).on HW2.out) (n:=3) (c:=3) hSL rfl (by omega) (fun x hx=>((HZa1.out.S.2).ok HK.out).kw (.inl (by simp only [List.mem_cons,List.not_mem_nil,or_false] at hx; rcases hx with rfl | rfl | rfl <;> simp [kwW])))
 clear hSL
 have ef:fnd t.x zy 0 = -1:=NCL.out
 rw [ef] at cA
 clear ef
 go_wp2_with fail
 refine cA.mono ?_
 rintro e a2 ⟨rfl,hb⟩
 have HZa2:=((HZa1.out.on HW2.out).on hb).hid
 have HTa2:Hid (a2.heap[Q]? = (zC #[zU t.k,.string t.x,zU t.ty,zI t.n,zI t.p] 148)):=(((Qe HW2.out hb)).block _ (zJ HTa1.out).1).trans HTa1.out
 clear cA hb HW2 HZa1 HTa1
 have HW3:Hid (yD a2 (a2.alloc (.cells zu 9))):=Qc _ _
 have hSL:SLs (a2.alloc (.cells zu 9)) a2§ zz:=fun j hj=>by
  have hh:=Qd a2 (.cells zu 9)
  match j,hj with
  | 0,_=>exact Qa hh 0
  | 1,_=>exact Qa hh 1
  | 2,_=>exact Qa hh 2
  | 3,_=>exact Qa hh 3
 have cA:=Qv ((HZa2.out.S.2).on HW3.out) (n:=4) (c:=4) hSL rfl (by omega) (fun x hx=>((HZa2.out.S.2).ok HK.out).kw (.inl (by simp only [List.mem_cons,List.not_mem_nil,or_false] at hx; rcases hx with rfl | rfl | rfl | rfl <;> simp [kwW])))
 clear hSL
 rw [EV.out] at cA
 go_wp2_with fail
 refine cA.mono ?_
 rintro e a3 ⟨rfl,hb⟩
 have HZa3:=((HZa2.out.on HW3.out).on hb).hid
 have HTa3:Hid (a3.heap[Q]? = (zC #[zU t.k,.string t.x,zU t.ty,zI t.n,zI t.p] 148)):=(((Qe HW3.out hb)).block _ (zJ HTa2.out).1).trans HTa2.out
 have k4:a3.cell? Q¢4=some (zI t.p):=Qa HTa3.out 4
 clear cA hb HW3 HZa2 HTa2
 have cC:=call1_d ex HE.out HK.out hd HX.out HZa3.out.S.2 HRV.out
 rw [HR0.out] at cC
 go_wp2_with fail
 refine cC.mono ?_
 rintro e w9 ⟨⟨⟨k2,o2,ty2,n2,f2,x2,p2⟩,am2,cm2,ks2⟩,rfl,hl,hk,hs,hm,ht⟩
 simp only [Nd.vals,Nd.h,Nd.a,Nd.c,Nd.ks,hdA]
 have HZ9:=(HZa3.out.mv hm hs).hid
 have HL9:=hl.hid
 have hRs:w§ < a3§:=(zJ HZa3.out.Z).1
 have HKK:Hid (Bkn (fun k=>w§≤k∧k < w9§∧k≠w§) (Nd.mk ⟨k2,o2,ty2,n2,f2,x2,p2⟩ am2 cm2 ks2)):=hk.mono fun j hj=>by omega
 have HTT:Hid (∀ q,r0=.ok q→Qh (Nd.mk ⟨k2,o2,ty2,n2,f2,x2,p2⟩ am2 cm2 ks2)=q.1):=ht
 clear cC hl hk hs hm ht
 have z0:w9.cell? w§¢0=some (zU 0):=Qa HZ9.out.Z 0
 have q0:w9.frozen? w§¢0=false:=Qb HZ9.out.Z 0
 have z1:w9.cell? w§¢1=some (zU 0):=Qa HZ9.out.Z 1
 have q1:w9.frozen? w§¢1=false:=Qb HZ9.out.Z 1
 have z2:w9.cell? w§¢2=some (zU 0):=Qa HZ9.out.Z 2
 have q2:w9.frozen? w§¢2=false:=Qb HZ9.out.Z 2
 have z3:w9.cell? w§¢3=some (zI 0):=Qa HZ9.out.Z 3
 have q3:w9.frozen? w§¢3=false:=Qb HZ9.out.Z 3
 have z4:w9.cell? w§¢4=some (zU 0):=Qa HZ9.out.Z 4
 have q4:w9.frozen? w§¢4=false:=Qb HZ9.out.Z 4
 have z5:w9.cell? w§¢5=some (yQ):=Qa HZ9.out.Z 5
 have q5:w9.frozen? w§¢5=false:=Qb HZ9.out.Z 5
 have z6:w9.cell? w§¢6=some (.slice none 0 0):=Qa HZ9.out.Z 6
 have q6:w9.frozen? w§¢6=false:=Qb HZ9.out.Z 6
 have z7:w9.cell? w§¢7=some (zI 0):=Qa HZ9.out.Z 7
 have q7:w9.frozen? w§¢7=false:=Qb HZ9.out.Z 7
 obtain⟨Y,eY,hY1,hY2,hY3,hY4,hY5⟩:=HZ9.out.fin HL9.out HKK.out
 have HEY:Hid (_=Y):=eY
 have HY1:Hid (Y.heap[w§]? = (zC (Nd.mk ⟨k2,o2,ty2,n2,f2,x2,p2⟩ am2 cm2 ks2).vals 48)):=hY1
 have HYY:Hid (Lies Y (Nd.mk ⟨k2,o2,ty2,n2,f2,x2,p2⟩ am2 cm2 ks2)∧Bkn (fun k=>w§≤k∧k < Y§) (Nd.mk ⟨k2,o2,ty2,n2,f2,x2,p2⟩ am2 cm2 ks2)∧Sp Y b K (stOf (r0))∧Mv w Y (fun k=>k=b)):=⟨hY2,hY3,hY4,hY5⟩
 clear eY hY1 hY2 hY3 hY4 hY5
 go_wp2_with fail
 rw [HEY.out]
 refine bodyPost_ret (results_cell_row rfl _ _ w§ 48 (Nd.mk ⟨k2,o2,ty2,n2,f2,x2,p2⟩ am2 cm2 ks2).vals (0,0) _ rfl HY1.out Tryz.underlying48 rfl zK) rfl ⟨_,rfl,HYY.out.1,HYY.out.2.1,?_,HYY.out.2.2.2,?_⟩
 ·exact HYY.out.2.2.1
 ·exact HTT.out
theorem one_rest {K:PK}(hK:KOk K) {b:Nat}{d:Nat}{w:yW}{t:Tk}{ts:List Tk}(h:Lv w b K (t :: ts)) (hv:(valT t).1=0) (hk:¬ t.k=2) (nf6:fnd t.x zn 0 = -1) (nc3:fnd t.x zy 0 = -1) (nt4:fnd t.x zz 0 = -1) (r0:Except Ft (Tr × List Tk)) (cR:∀ v,Lv v b K (t :: ts)→Calls zG 198 #[zP b,zI d] v (OutD b K v r0)) :
  Calls zG 195 #[zP b,zI d] w (OutD b K w r0):=by
 have HZ:=(RZ.new (show Sp w b K (.ok (t :: ts)) from ⟨by simp,h⟩)).hid
 have HK:Hid (KOk K):=hK
 have HTK:Hid (TkOk t):=h.ok hK
 clear hK
 clear h
 obtain⟨W0,eW0⟩:∃ W,w.alloc (.cells zNo 48)=W:=⟨_,rfl⟩
 rw [eW0] at HZ
 have HVT:Hid ((valT t).1=0):=hv
 have HKT:Hid (¬ t.k=2):=hk
 have hkn:¬ t.k=2:=hk
 clear hv hk
 have NF:Hid (fnd t.x zn 0 = -1):=nf6
 clear nf6
 have NCL:Hid (fnd t.x zy 0 = -1):=nc3
 clear nc3
 have NT:Hid (fnd t.x zz 0 = -1):=nt4
 have HCR:Hid (∀ v,Lv v b K (t :: ts)→Calls zG 198 #[zP b,zI d] v (OutD b K v r0)):=cR
 clear nt4 cR
 have cL:=JO HZ.out.S.2 HTK.out HVT.out
 unfold nul8 at cL
 go_enter Tryz.func195,Tryz.ntmps195
 go_wp2_with fail
 try rw [eW0]
 refine cL.mono ?_
 rintro e w1 ⟨rfl,hb1⟩
 have HZ2:=((HZ.out.on hb1).on (Qc w1 (.cells zNo 48))).hid
 have cN:=Qt HZ2.out.S.2
 unfold tkA at cN
 clear cL hb1 HZ
 go_wp2_with fail
 refine cN.mono ?_
 rintro e w2 ⟨rfl,hb2⟩
 have HZ3:=((HZ2.out.on hb2).on (Qc w2 (.cells #[zU t.k,.string t.x,zU t.ty,zI t.n,zI t.p] 148))).hid
 have hT3:=Qd w2 (.cells #[zU t.k,.string t.x,zU t.ty,zI t.n,zI t.p] 148)
 have hQ:w§ < w2§:=(zJ (HZ2.out.on hb2).Z).1
 obtain⟨Q,eQ⟩:∃ q,w2§=q:=⟨_,rfl⟩
 go_upto_region 5 with fail
 try rw [eQ]
 obtain⟨W3,eW3⟩:∃ W,w2.alloc (.cells #[zU t.k,.string t.x,zU t.ty,zI t.n,zI t.p] 148)=W:=⟨_,rfl⟩
 rw [eW3] at HZ3 hT3 ⊢
 rw [eQ] at hT3 hQ
 have HQ:Hid (w§ < Q):=hQ
 have HT3:Hid (W3.heap[Q]? = (zC #[zU t.k,.string t.x,zU t.ty,zI t.n,zI t.p] 148)):=hT3
 have k0:W3.cell? Q¢0=some (zU t.k):=Qa hT3 0
 clear cN hb2 HZ2 hT3 eW3 eQ hQ
 have HW1:Hid (yD W3 (W3.alloc (.cells zg 9))):=Qc _ _
 have hSL:SLs (W3.alloc (.cells zg 9)) W3§ zn:=fun j hj=>by
  have hh:=Qd W3 (.cells zg 9)
  match j,hj with
  | 0,_=>exact Qa hh 0
  | 1,_=>exact Qa hh 1
  | 2,_=>exact Qa hh 2
  | 3,_=>exact Qa hh 3
  | 4,_=>exact Qa hh 4
  | 5,_=>exact Qa hh 5
 have cA:=Qv ((HZ3.out.S.2).on HW1.out) (n:=6) (c:=6) hSL rfl (by omega) (fun x hx=>((HZ3.out.S.2).ok HK.out).kw (.inl (by simp only [List.mem_cons,List.not_mem_nil,or_false] at hx; rcases hx with rfl | rfl | rfl | rfl | rfl | rfl <;> simp [kwW])))
 clear hSL
 have ef:fnd t.x zn 0 = -1:=NF.out
 rw [ef] at cA
 clear ef
 go_wp2_with fail
 refine cA.mono ?_
 rintro e a1 ⟨rfl,hb⟩
 have HZa1:=((HZ3.out.on HW1.out).on hb).hid
 have HTa1:Hid (a1.heap[Q]? = (zC #[zU t.k,.string t.x,zU t.ty,zI t.n,zI t.p] 148)):=(((Qe HW1.out hb)).block _ (zJ HT3.out).1).trans HT3.out
 clear cA hb HW1 HZ3 HT3
 have HW2:Hid (yD a1 (a1.alloc (.cells zo 9))):=Qc _ _
 have hSL:SLs (a1.alloc (.cells zo 9)) a1§ zy:=fun j hj=>by
  have hh:=Qd a1 (.cells zo 9)
  match j,hj with
  | 0,_=>exact Qa hh 0
  | 1,_=>exact Qa hh 1
  | 2,_=>exact Qa hh 2
 have cA:=Qv ((HZa1.out.S.2).on HW2.out) (n:=3) (c:=3) hSL rfl (by omega) (fun x hx=>((HZa1.out.S.2).ok HK.out).kw (.inl (by simp only [List.mem_cons,List.not_mem_nil,or_false] at hx; rcases hx with rfl | rfl | rfl <;> simp [kwW])))
 clear hSL
 have ef:fnd t.x zy 0 = -1:=NCL.out
 rw [ef] at cA
 clear ef
 go_wp2_with fail
 refine cA.mono ?_
 rintro e a2 ⟨rfl,hb⟩
 have HZa2:=((HZa1.out.on HW2.out).on hb).hid
 have HTa2:Hid (a2.heap[Q]? = (zC #[zU t.k,.string t.x,zU t.ty,zI t.n,zI t.p] 148)):=(((Qe HW2.out hb)).block _ (zJ HTa1.out).1).trans HTa1.out
 clear cA hb HW2 HZa1 HTa1
 have HW3:Hid (yD a2 (a2.alloc (.cells zu 9))):=Qc _ _
 have hSL:SLs (a2.alloc (.cells zu 9)) a2§ zz:=fun j hj=>by
  have hh:=Qd a2 (.cells zu 9)
  match j,hj with
  | 0,_=>exact Qa hh 0
  | 1,_=>exact Qa hh 1
  | 2,_=>exact Qa hh 2
  | 3,_=>exact Qa hh 3
 have cA:=Qv ((HZa2.out.S.2).on HW3.out) (n:=4) (c:=4) hSL rfl (by omega) (fun x hx=>((HZa2.out.S.2).ok HK.out).kw (.inl (by simp only [List.mem_cons,List.not_mem_nil,or_false] at hx; rcases hx with rfl | rfl | rfl | rfl <;> simp [kwW])))
 clear hSL
 have ef:fnd t.x zz 0 = -1:=NT.out
 rw [ef] at cA
 clear ef
 go_wp2_with fail
 refine cA.mono ?_
 rintro e a3 ⟨rfl,hb⟩
 have HZa3:=((HZa2.out.on HW3.out).on hb).hid
 have HTa3:Hid (a3.heap[Q]? = (zC #[zU t.k,.string t.x,zU t.ty,zI t.n,zI t.p] 148)):=(((Qe HW3.out hb)).block _ (zJ HTa2.out).1).trans HTa2.out
 clear cA hb HW3 HZa2 HTa2
 have cC:=HCR.out a3 HZa3.out.S.2
 go_wp2_with fail
 refine cC.mono ?_
 rintro e w9 ⟨⟨⟨k2,o2,ty2,n2,f2,x2,p2⟩,am2,cm2,ks2⟩,rfl,hl,hk,hs,hm,ht⟩
 simp only [Nd.vals,Nd.h,Nd.a,Nd.c,Nd.ks,hdA]
 have HZ9:=(HZa3.out.mv hm hs).hid
 have HL9:=hl.hid
 have hRs:w§ < a3§:=(zJ HZa3.out.Z).1
 have HKK:Hid (Bkn (fun k=>w§≤k∧k < w9§∧k≠w§) (Nd.mk ⟨k2,o2,ty2,n2,f2,x2,p2⟩ am2 cm2 ks2)):=hk.mono fun j hj=>by omega
 have HTT:Hid (∀ q,r0=.ok q→Qh (Nd.mk ⟨k2,o2,ty2,n2,f2,x2,p2⟩ am2 cm2 ks2)=q.1):=ht
 clear cC hl hk hs hm ht
 have z0:w9.cell? w§¢0=some (zU 0):=Qa HZ9.out.Z 0
 have q0:w9.frozen? w§¢0=false:=Qb HZ9.out.Z 0
 have z1:w9.cell? w§¢1=some (zU 0):=Qa HZ9.out.Z 1
 have q1:w9.frozen? w§¢1=false:=Qb HZ9.out.Z 1
 have z2:w9.cell? w§¢2=some (zU 0):=Qa HZ9.out.Z 2
 have q2:w9.frozen? w§¢2=false:=Qb HZ9.out.Z 2
 have z3:w9.cell? w§¢3=some (zI 0):=Qa HZ9.out.Z 3
 have q3:w9.frozen? w§¢3=false:=Qb HZ9.out.Z 3
 have z4:w9.cell? w§¢4=some (zU 0):=Qa HZ9.out.Z 4
 have q4:w9.frozen? w§¢4=false:=Qb HZ9.out.Z 4
 have z5:w9.cell? w§¢5=some (yQ):=Qa HZ9.out.Z 5
 have q5:w9.frozen? w§¢5=false:=Qb HZ9.out.Z 5
 have z6:w9.cell? w§¢6=some (.slice none 0 0):=Qa HZ9.out.Z 6
 have q6:w9.frozen? w§¢6=false:=Qb HZ9.out.Z 6
 have z7:w9.cell? w§¢7=some (zI 0):=Qa HZ9.out.Z 7
 have q7:w9.frozen? w§¢7=false:=Qb HZ9.out.Z 7
 obtain⟨Y,eY,hY1,hY2,hY3,hY4,hY5⟩:=HZ9.out.fin HL9.out HKK.out
 have HEY:Hid (_=Y):=eY
 have HY1:Hid (Y.heap[w§]? = (zC (Nd.mk ⟨k2,o2,ty2,n2,f2,x2,p2⟩ am2 cm2 ks2).vals 48)):=hY1
 have HYY:Hid (Lies Y (Nd.mk ⟨k2,o2,ty2,n2,f2,x2,p2⟩ am2 cm2 ks2)∧Bkn (fun k=>w§≤k∧k < Y§) (Nd.mk ⟨k2,o2,ty2,n2,f2,x2,p2⟩ am2 cm2 ks2)∧Sp Y b K (stOf (r0))∧Mv w Y (fun k=>k=b)):=⟨hY2,hY3,hY4,hY5⟩
 clear eY hY1 hY2 hY3 hY4 hY5
 go_wp2_with fail
 rw [HEY.out]
 refine bodyPost_ret (results_cell_row rfl _ _ w§ 48 (Nd.mk ⟨k2,o2,ty2,n2,f2,x2,p2⟩ am2 cm2 ks2).vals (0,0) _ rfl HY1.out Tryz.underlying48 rfl zK) rfl ⟨_,rfl,HYY.out.1,HYY.out.2.1,?_,HYY.out.2.2.2,?_⟩
 ·exact HYY.out.2.2.1
 ·exact HTT.out
theorem one_dead {K:PK}{b:Nat}{d:Nat}{w:yW}{f:Ft}(h:Dd w b K f)  :
  Calls zG 195 #[zP b,zI d] w (OutD b K w (.error f)):=by
 have HZ:=(RZ.new (show Sp w b K (.error f) from h)).hid
 clear h
 obtain⟨W0,eW0⟩:∃ W,w.alloc (.cells zNo 48)=W:=⟨_,rfl⟩
 rw [eW0] at HZ
 have cL:=lit_dead HZ.out.S
 skip
 go_enter Tryz.func195,Tryz.ntmps195
 go_wp2_with fail
 try rw [eW0]
 refine cL.mono ?_
 rintro e w1 ⟨rfl,hb1⟩
 have HZ2:=((HZ.out.on hb1).on (Qc w1 (.cells zNo 48))).hid
 have cN:=dead_now HZ2.out.S
 unfold tkA tk0 at cN
 clear cL hb1 HZ
 go_wp2_with fail
 refine cN.mono ?_
 rintro e w2 ⟨rfl,hb2⟩
 have HZ3:=((HZ2.out.on hb2).on (Qc w2 (.cells zl 148))).hid
 have hT3:=Qd w2 (.cells zl 148)
 have hQ:w§ < w2§:=(zJ (HZ2.out.on hb2).Z).1
 obtain⟨Q,eQ⟩:∃ q,w2§=q:=⟨_,rfl⟩
 go_upto_region 5 with fail
 try rw [eQ]
 obtain⟨W3,eW3⟩:∃ W,w2.alloc (.cells zl 148)=W:=⟨_,rfl⟩
 rw [eW3] at HZ3 hT3 ⊢
 rw [eQ] at hT3 hQ
 have HQ:Hid (w§ < Q):=hQ
 have HT3:Hid (W3.heap[Q]? = (zC zl 148)):=hT3
 have k0:W3.cell? Q¢0=some (zU 0):=Qa hT3 0
 clear cN hb2 HZ2 hT3 eW3 eQ hQ
 have HW1:Hid (yD W3 (W3.alloc (.cells zg 9))):=Qc _ _
 have hSL:SLs (W3.alloc (.cells zg 9)) W3§ zn:=fun j hj=>by
  have hh:=Qd W3 (.cells zg 9)
  match j,hj with
  | 0,_=>exact Qa hh 0
  | 1,_=>exact Qa hh 1
  | 2,_=>exact Qa hh 2
  | 3,_=>exact Qa hh 3
  | 4,_=>exact Qa hh 4
  | 5,_=>exact Qa hh 5
 have cA:=Jw (Dd.on HZ3.out.S HW1.out) (n:=6) (c:=6) hSL rfl (by omega) (by intro x hx; simp only [List.mem_cons,List.not_mem_nil,or_false] at hx; rcases hx with rfl | rfl | rfl | rfl | rfl | rfl <;> decide)
 clear hSL
 go_wp2_with fail
 refine cA.mono ?_
 rintro e a1 ⟨rfl,hb⟩
 have HZa1:=((HZ3.out.on HW1.out).on hb).hid
 have HTa1:Hid (a1.heap[Q]? = (zC zl 148)):=(((Qe HW1.out hb)).block _ (zJ HT3.out).1).trans HT3.out
 clear cA hb HW1 HZ3 HT3
 have HW2:Hid (yD a1 (a1.alloc (.cells zo 9))):=Qc _ _
 have hSL:SLs (a1.alloc (.cells zo 9)) a1§ zy:=fun j hj=>by
  have hh:=Qd a1 (.cells zo 9)
  match j,hj with
  | 0,_=>exact Qa hh 0
  | 1,_=>exact Qa hh 1
  | 2,_=>exact Qa hh 2
 have cA:=Jw (Dd.on HZa1.out.S HW2.out) (n:=3) (c:=3) hSL rfl (by omega) (by intro x hx; simp only [List.mem_cons,List.not_mem_nil,or_false] at hx; rcases hx with rfl | rfl | rfl <;> decide)
 clear hSL
 go_wp2_with fail
 refine cA.mono ?_
 rintro e a2 ⟨rfl,hb⟩
 have HZa2:=((HZa1.out.on HW2.out).on hb).hid
 have HTa2:Hid (a2.heap[Q]? = (zC zl 148)):=(((Qe HW2.out hb)).block _ (zJ HTa1.out).1).trans HTa1.out
 clear cA hb HW2 HZa1 HTa1
 have HW3:Hid (yD a2 (a2.alloc (.cells zu 9))):=Qc _ _
 have hSL:SLs (a2.alloc (.cells zu 9)) a2§ zz:=fun j hj=>by
  have hh:=Qd a2 (.cells zu 9)
  match j,hj with
  | 0,_=>exact Qa hh 0
  | 1,_=>exact Qa hh 1
  | 2,_=>exact Qa hh 2
  | 3,_=>exact Qa hh 3
 have cA:=Jw (Dd.on HZa2.out.S HW3.out) (n:=4) (c:=4) hSL rfl (by omega) (by intro x hx; simp only [List.mem_cons,List.not_mem_nil,or_false] at hx; rcases hx with rfl | rfl | rfl | rfl <;> decide)
 clear hSL
 go_wp2_with fail
 refine cA.mono ?_
 rintro e a3 ⟨rfl,hb⟩
 have HZa3:=((HZa2.out.on HW3.out).on hb).hid
 have HTa3:Hid (a3.heap[Q]? = (zC zl 148)):=(((Qe HW3.out hb)).block _ (zJ HTa2.out).1).trans HTa2.out
 clear cA hb HW3 HZa2 HTa2
 have cC:=rest_dead (d:=d) HZa3.out.S
 go_wp2_with fail
 refine cC.mono ?_
 rintro e w9 ⟨⟨⟨k2,o2,ty2,n2,f2,x2,p2⟩,am2,cm2,ks2⟩,rfl,hl,hk,hs,hm,ht⟩
 simp only [Nd.vals,Nd.h,Nd.a,Nd.c,Nd.ks,hdA]
 have HZ9:=(HZa3.out.mv hm hs).hid
 have HL9:=hl.hid
 have hRs:w§ < a3§:=(zJ HZa3.out.Z).1
 have HKK:Hid (Bkn (fun k=>w§≤k∧k < w9§∧k≠w§) (Nd.mk ⟨k2,o2,ty2,n2,f2,x2,p2⟩ am2 cm2 ks2)):=hk.mono fun j hj=>by omega
 have HTT:Hid (∀ q,(.error f:Except Ft (Tr × List Tk))=.ok q→Qh (Nd.mk ⟨k2,o2,ty2,n2,f2,x2,p2⟩ am2 cm2 ks2)=q.1):=ht
 clear cC hl hk hs hm ht
 have z0:w9.cell? w§¢0=some (zU 0):=Qa HZ9.out.Z 0
 have q0:w9.frozen? w§¢0=false:=Qb HZ9.out.Z 0
 have z1:w9.cell? w§¢1=some (zU 0):=Qa HZ9.out.Z 1
 have q1:w9.frozen? w§¢1=false:=Qb HZ9.out.Z 1
 have z2:w9.cell? w§¢2=some (zU 0):=Qa HZ9.out.Z 2
 have q2:w9.frozen? w§¢2=false:=Qb HZ9.out.Z 2
 have z3:w9.cell? w§¢3=some (zI 0):=Qa HZ9.out.Z 3
 have q3:w9.frozen? w§¢3=false:=Qb HZ9.out.Z 3
 have z4:w9.cell? w§¢4=some (zU 0):=Qa HZ9.out.Z 4
 have q4:w9.frozen? w§¢4=false:=Qb HZ9.out.Z 4
 have z5:w9.cell? w§¢5=some (yQ):=Qa HZ9.out.Z 5
 have q5:w9.frozen? w§¢5=false:=Qb HZ9.out.Z 5
 have z6:w9.cell? w§¢6=some (.slice none 0 0):=Qa HZ9.out.Z 6
 have q6:w9.frozen? w§¢6=false:=Qb HZ9.out.Z 6
 have z7:w9.cell? w§¢7=some (zI 0):=Qa HZ9.out.Z 7
 have q7:w9.frozen? w§¢7=false:=Qb HZ9.out.Z 7
 obtain⟨Y,eY,hY1,hY2,hY3,hY4,hY5⟩:=HZ9.out.fin HL9.out HKK.out
 have HEY:Hid (_=Y):=eY
 have HY1:Hid (Y.heap[w§]? = (zC (Nd.mk ⟨k2,o2,ty2,n2,f2,x2,p2⟩ am2 cm2 ks2).vals 48)):=hY1
 have HYY:Hid (Lies Y (Nd.mk ⟨k2,o2,ty2,n2,f2,x2,p2⟩ am2 cm2 ks2)∧Bkn (fun k=>w§≤k∧k < Y§) (Nd.mk ⟨k2,o2,ty2,n2,f2,x2,p2⟩ am2 cm2 ks2)∧Sp Y b K (stOf ((.error f:Except Ft (Tr × List Tk))))∧Mv w Y (fun k=>k=b)):=⟨hY2,hY3,hY4,hY5⟩
 clear eY hY1 hY2 hY3 hY4 hY5
 go_wp2_with fail
 rw [HEY.out]
 refine bodyPost_ret (results_cell_row rfl _ _ w§ 48 (Nd.mk ⟨k2,o2,ty2,n2,f2,x2,p2⟩ am2 cm2 ks2).vals (0,0) _ rfl HY1.out Tryz.underlying48 rfl zK) rfl ⟨_,rfl,HYY.out.1,HYY.out.2.1,?_,HYY.out.2.2.2,?_⟩
 ·exact HYY.out.2.2.1
 ·exact HTT.out
end Go.Proofs.YtoogodlnnijikaaGreatDoor
