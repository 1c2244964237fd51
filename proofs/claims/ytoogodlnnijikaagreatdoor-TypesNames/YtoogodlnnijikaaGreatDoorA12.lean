import Derived.Test.YtoogodlnnijikaaGreatDoorA0
import Derived.Test.YtoogodlnnijikaaGreatDoorA11
namespace Go.Proofs.YtoogodlnnijikaaGreatDoor
set_option maxHeartbeats 4000000
set_option maxRecDepth 100000
open Go.RowKit
set_option linter.unusedVariables false
def RInv (oper:yB→Int) (part:List Tk→Except Ft (Tr × List Tk)) (r0:Except Ft (Tr × List Tk)) (m:Tr):St→Prop
 | .ok ts=>∃ n,ts.length≤n∧JX oper part n m ts=r0
 | .error f=>r0=.error f
theorem RInv.of {oper:yB→Int}{part:List Tk→Except Ft (Tr × List Tk)}{r0:Except Ft (Tr × List Tk)}{m:Tr}{ts:List Tk}{n:Nat}(h:JX oper part n m ts=r0) (hn:ts.length≤n) (h1:1≤n):RInv oper part r0 m (nf ts):=by
 cases ts with
 | nil =>
  obtain⟨n,rfl⟩:∃ k,n=k+1:=⟨n - 1,by omega⟩
  simp only [JX,Jc,bind,Except.bind] at h
  exact h.symm
 | cons t ts=>exact⟨n,hn,h⟩
theorem RInv.start {oper:yB→Int}{part:List Tk→Except Ft (Tr × List Tk)}(hS:Shr part) {st:St}(hl:∀ ts,st=.ok ts→ts.length≤4097) {m:Tr}(hm:∀ q,rd part st=.ok q→m=q.1):RInv oper part (rd (gRow oper part 4096) st) m (stOf (rd part st)):=by
 cases st with
 | error f=>rfl
 | ok ts =>
  have hl:=hl ts rfl
  simp only [rd] at hm ⊢
  cases hr:part ts with
  | error f =>
   simp only [stOf,gRow_err hr]
   rfl
  | ok q =>
   have e:=hm q hr
   subst e
   have:=hS ts q.1 q.2 hr
   refine RInv.of (n:=4096) (by rw [gRow_ok (t:=q.1) (r:=q.2) hr]) (by omega) (by omega)
theorem RInv.done {oper:yB→Int}{part:List Tk→Except Ft (Tr × List Tk)}{r0:Except Ft (Tr × List Tk)}{m:Tr}{t:Tk}{ts:List Tk}(h:RInv oper part r0 m (.ok (t :: ts))) (ho:oper t.x=0):r0=.ok (m,t :: ts):=by
 obtain⟨n,hn,h⟩:=h
 simp only [List.length_cons] at hn
 obtain⟨n,rfl⟩:∃ k,n=k+1:=⟨n - 1,by omega⟩
 rw [gRowR_s,if_pos ho] at h
 exact h.symm
theorem Kq {part:List Tk→Except Ft (Tr × List Tk)}(hE:part []=.error .lex) (ts:List Tk):rd part (nf ts)=part ts:=by
 cases ts with
 | nil=>exact hE.symm
 | cons t ts=>rfl
theorem RInv.next {oper:yB→Int}{part:List Tk→Except Ft (Tr × List Tk)}(hS:Shr part) {r0:Except Ft (Tr × List Tk)}{m k:Tr}{t:Tk}{ts:List Tk}(h:RInv oper part r0 m (.ok (t :: ts))) (ho:oper t.x≠0) (hk:∀ q,part ts=.ok q→k=q.1):RInv oper part r0 (.mk ⟨6,oper t.x,0,0,0,gE,t.p⟩ [m,k]) (stOf (part ts)):=by
 obtain⟨n,hn,h⟩:=h
 simp only [List.length_cons] at hn
 obtain⟨n,rfl⟩:∃ k,n=k+1:=⟨n - 1,by omega⟩
 rw [gRowR_s,if_neg ho] at h
 cases hr:part ts with
 | error f =>
  rw [hr] at h
  exact h.symm
 | ok q =>
  rw [hr] at h
  have e:=hk q hr
  subst e
  have:=hS ts q.1 q.2 hr
  exact RInv.of h (by omega) (by omega)
theorem stOf_len {part:List Tk→Except Ft (Tr × List Tk)}(hS:Shr part) {ts:List Tk}{w:yW}{b:Nat}{K:PK}(h:Sp w b K (stOf (part ts))):msr b K w≤ts.length:=by
 cases hr:part ts with
 | error f =>
  rw [hr] at h
  rw [Sp.msr_le h]
  exact Nat.zero_le _
 | ok q =>
  rw [hr] at h
  have:=hS ts q.1 q.2 hr
  have e:=Sp.msr_le h
  obtain⟨q1,q2⟩:=q
  cases q2 with
  | nil=>simp only [stOf,nf] at e; omega
  | cons t r=>simp only [stOf,nf] at e this; omega
theorem Lv.rg {w:yW}{b:Nat}{K:PK}{t:Tk}{ts:List Tk}(h:Lv w b K (t :: ts)) (hK:KOk K) {o:Int}(h0:0≤o) (h1:o≤255):Rg ⟨6,o,0,0,0,gE,t.p⟩:=by
 have:=(h.ok hK).r
 have:=this.p0
 have:=(h.ok hK).r.p1
 constructor <;> first | omega | (show (0:Nat)≤_; omega) | (simp only; omega) | simp
theorem Jw {w:yW}{b:Nat}{K:PK}{f:Ft}(h:Dd w b K f) {A:Nat}{L:List yB}{n c:Nat}(hL:SLs w A L) (hn:L.length=n) (hm:n≤1000) (hx:∀ x ∈ L,x≠⟨#[]⟩) :
  Calls zG 92 #[zP b,.slice (some A¢0) n c] w fun e w'=>e=.returned (zI (-1))∧yD w w':=by
 subst hn
 exact any_dead h hL hm hx
theorem Qv {w:yW}{b:Nat}{K:PK}{t0:Tk}{ts:List Tk}(h:Lv w b K (t0 :: ts)) {A:Nat}{L:List yB}{n c:Nat}(hL:SLs w A L) (hn:L.length=n) (hm:n≤1000) (hx:∀ x ∈ L,t0.x=x→t0.k=1∨t0.k=4) :
  Calls zG 92 #[zP b,.slice (some A¢0) n c] w fun e w'=>e=.returned (zI (fnd t0.x L 0))∧yD w w':=by
 subst hn
 exact any_live h hL hm hx
theorem product_d (part:List Tk→Except Ft (Tr × List Tk)) (hS:Shr part) (hE:part []=.error .lex) {K:PK}(hK:KOk K) {b:Nat}{d:Int}(cP:∀ (w:yW) (st:St),Sp w b K st→Calls zG 192 #[zP b,zI d] w (OutD b K w (rd part st))) {w:yW}{st:St}(h:Sp w b K st) :
  Calls zG 180 #[zP b,zI d] w (OutD b K w (rd (gRow proX part 4096) st)):=by
 have hb0:=Qc w (.cells zNo 48)
 have cC:=cP _ _ (h.on hb0)
 have HLW:Hid (Lw w§ b K):=h.lw
 have HLN:Hid (∀ ts,st=.ok ts→ts.length≤4097):=fun ts e=>by
  subst e
  have:=h.2.len
  have:=hK.n
  omega
 have HS:Hid (Shr part):=hS
 have HE:Hid (part []=.error .lex):=hE
 have HK:Hid (KOk K):=hK
 have HP:Hid (∀ (w:yW) (st:St),Sp w b K st→Calls zG 192 #[zP b,zI d] w (OutD b K w (rd part st))):=cP
 obtain⟨r0,er0⟩:∃ r,rd (gRow proX part 4096) st=r:=⟨_,rfl⟩
 have HR0:Hid (rd (gRow proX part 4096) st=r0):=er0
 rw [er0]
 clear h hb0 hS hE hK cP er0
 go_enter Tryz.func180,Tryz.ntmps180
 go_wp2_with fail
 refine cC.mono ?_
 rintro e w1 ⟨m,rfl,hl,hk,hs,hm,ht⟩
 have HI:=(RS.start HLW.out hl hk hs hm).hid
 have HV:Hid (RInv proX part r0 (Qh m) (stOf (rd part st))):=by rw [← HR0.out]; exact RInv.start HS.out HLN.out ht
 clear cC hl hk hs hm ht HR0 HLN
 obtain⟨N,eN⟩:∃ N,w1§=N:=⟨_,rfl⟩
 rw [eN] at HI
 obtain⟨s0,es0⟩:∃ s0,stOf (rd part st)=s0:=⟨_,rfl⟩
 rw [es0] at HI HV
 clear es0
 obtain⟨⟨k1,o1,ty1,n1,f1,x1,p1⟩,am1,cm1,ks1⟩:=m
 simp only [Nd.vals,Nd.h,Nd.a,Nd.c,Nd.ks,hdA] at HI ⊢
 go_wp2_with fail
 try rw [eN]
 clear eN
 go_loopw [6,7,8] (fun _ _ _ wr=>∃ m s,Hid (RS w b K N wr m s)∧Hid (RInv proX part r0 (Qh m) s)) (fun _ _ _ wr=>msr b K wr)
 case atStart=>exact⟨_,_,HI,HV⟩
 case round =>
  obtain⟨m,s,HI2,HV2⟩:=hrel
  clear HI HV
  obtain⟨⟨k2,o2,ty2,n2,f2,x2,p2⟩,am2,cm2,ks2⟩:=m
  cases s with
  | error f =>
   have HW:Hid (yD wr (wr.alloc (.cells y8 9))):=Qc _ _
   have hSL:SLs (wr.alloc (.cells y8 9)) wr§ [ZE,ZF,ZG]:=fun j hj=>by
    have hh:=Qd wr (.cells y8 9)
    match j,hj with
    | 0,_=>exact Qa hh 0
    | 1,_=>exact Qa hh 1
    | 2,_=>exact Qa hh 2
   have cA:=Jw (Dd.on HI2.out.S HW.out) (n:=3) (c:=3) hSL rfl (by omega) (by intro x hx; simp only [List.mem_cons,List.not_mem_nil,or_false] at hx; rcases hx with rfl | rfl | rfl <;> decide)
   clear hSL
   go_wp2_with fail
   refine cA.mono ?_
   rintro e w2 ⟨rfl,hb2⟩
   have HI3:=((HI2.out.on HW.out).on hb2).hid
   clear cA hb2 HW HI2
   have y0:w2.cell? N¢0=some (zU k2):=Qa HI3.out.B 0
   have z0:w2.cell? w§¢0=some (zU 0):=Qa HI3.out.Z 0
   have q0:w2.frozen? w§¢0=false:=Qb HI3.out.Z 0
   have y1:w2.cell? N¢1=some (zU o2):=Qa HI3.out.B 1
   have z1:w2.cell? w§¢1=some (zU 0):=Qa HI3.out.Z 1
   have q1:w2.frozen? w§¢1=false:=Qb HI3.out.Z 1
   have y2:w2.cell? N¢2=some (zU ty2):=Qa HI3.out.B 2
   have z2:w2.cell? w§¢2=some (zU 0):=Qa HI3.out.Z 2
   have q2:w2.frozen? w§¢2=false:=Qb HI3.out.Z 2
   have y3:w2.cell? N¢3=some (zI n2):=Qa HI3.out.B 3
   have z3:w2.cell? w§¢3=some (zI 0):=Qa HI3.out.Z 3
   have q3:w2.frozen? w§¢3=false:=Qb HI3.out.Z 3
   have y4:w2.cell? N¢4=some (zU f2):=Qa HI3.out.B 4
   have z4:w2.cell? w§¢4=some (zU 0):=Qa HI3.out.Z 4
   have q4:w2.frozen? w§¢4=false:=Qb HI3.out.Z 4
   have y5:w2.cell? N¢5=some (.string x2):=Qa HI3.out.B 5
   have z5:w2.cell? w§¢5=some (yQ):=Qa HI3.out.Z 5
   have q5:w2.frozen? w§¢5=false:=Qb HI3.out.Z 5
   have y6:w2.cell? N¢6=some (.slice am2 ks2.length cm2):=Qa HI3.out.B 6
   have z6:w2.cell? w§¢6=some (.slice none 0 0):=Qa HI3.out.Z 6
   have q6:w2.frozen? w§¢6=false:=Qb HI3.out.Z 6
   have y7:w2.cell? N¢7=some (zI p2):=Qa HI3.out.B 7
   have z7:w2.cell? w§¢7=some (zI 0):=Qa HI3.out.Z 7
   have q7:w2.frozen? w§¢7=false:=Qb HI3.out.Z 7
   obtain⟨Y,eY,hY1,hY2,hY3,hY4,hY5⟩:=HI3.out.fin
   have HEY:Hid (_=Y):=eY
   have HY1:Hid (Y.heap[w§]? = (zC (Nd.mk ⟨k2,o2,ty2,n2,f2,x2,p2⟩ am2 cm2 ks2).vals 48)):=hY1
   have HYY:Hid (Lies Y (Nd.mk ⟨k2,o2,ty2,n2,f2,x2,p2⟩ am2 cm2 ks2)∧Bkn (fun k=>w§≤k∧k < Y§) (Nd.mk ⟨k2,o2,ty2,n2,f2,x2,p2⟩ am2 cm2 ks2)∧Sp Y b K (.error f)∧Mv w Y (fun k=>k=b)):=⟨hY2,hY3,hY4,hY5⟩
   clear eY hY1 hY2 hY3 hY4 hY5
   go_wp2_with fail
   rw [HEY.out]
   refine bodyPost_ret (results_cell_row rfl _ _ w§ 48 (Nd.mk ⟨k2,o2,ty2,n2,f2,x2,p2⟩ am2 cm2 ks2).vals (0,0) _ rfl HY1.out Tryz.underlying48 rfl zK) rfl ⟨_,rfl,HYY.out.1,HYY.out.2.1,?_,HYY.out.2.2.2,?_⟩
   ·rw [HV2.out]; exact HYY.out.2.2.1
   ·rw [HV2.out]; exact fun q e=>by cases e
  | ok ts =>
   obtain⟨hne,hlv⟩:=HI2.out.S
   match ts,hne with
   | t :: ts,_ =>
   have HLV:=Lv.hid hlv
   clear hlv hne
   have HW:Hid (yD wr (wr.alloc (.cells y8 9))):=Qc _ _
   have hSL:SLs (wr.alloc (.cells y8 9)) wr§ [ZE,ZF,ZG]:=fun j hj=>by
    have hh:=Qd wr (.cells y8 9)
    match j,hj with
    | 0,_=>exact Qa hh 0
    | 1,_=>exact Qa hh 1
    | 2,_=>exact Qa hh 2
   have cA:=Qv (HLV.out.on HW.out) (n:=3) (c:=3) hSL rfl (by omega) (fun x hx=>(HLV.out.ok HK.out).kw (.inr (by simp only [List.mem_cons,List.not_mem_nil,or_false] at hx; rcases hx with rfl | rfl | rfl <;> simp [kwM])))
   have hop:=proX_op t.x
   have hrg:=Jt t.x [ZE,ZF,ZG] 0
   obtain⟨v,ev⟩:∃ v,fnd t.x [ZE,ZF,ZG] 0=v:=⟨_,rfl⟩
   rw [ev] at cA hrg
   unfold opF at hop
   rw [ev] at hop
   have hv1:-1≤v:=hrg.1
   have hv2:v < 3:=hrg.2
   clear hSL ev hrg
   by_cases hv:v = -1
   ·subst hv
    have HOP:Hid (proX t.x=0):=hop
    clear hop hv1 hv2
    go_wp2_with fail
    refine cA.mono ?_
    rintro e w2 ⟨rfl,hb2⟩
    have HI3:=((HI2.out.on HW.out).on hb2).hid
    clear cA hb2 HW HI2
    have y0:w2.cell? N¢0=some (zU k2):=Qa HI3.out.B 0
    have z0:w2.cell? w§¢0=some (zU 0):=Qa HI3.out.Z 0
    have q0:w2.frozen? w§¢0=false:=Qb HI3.out.Z 0
    have y1:w2.cell? N¢1=some (zU o2):=Qa HI3.out.B 1
    have z1:w2.cell? w§¢1=some (zU 0):=Qa HI3.out.Z 1
    have q1:w2.frozen? w§¢1=false:=Qb HI3.out.Z 1
    have y2:w2.cell? N¢2=some (zU ty2):=Qa HI3.out.B 2
    have z2:w2.cell? w§¢2=some (zU 0):=Qa HI3.out.Z 2
    have q2:w2.frozen? w§¢2=false:=Qb HI3.out.Z 2
    have y3:w2.cell? N¢3=some (zI n2):=Qa HI3.out.B 3
    have z3:w2.cell? w§¢3=some (zI 0):=Qa HI3.out.Z 3
    have q3:w2.frozen? w§¢3=false:=Qb HI3.out.Z 3
    have y4:w2.cell? N¢4=some (zU f2):=Qa HI3.out.B 4
    have z4:w2.cell? w§¢4=some (zU 0):=Qa HI3.out.Z 4
    have q4:w2.frozen? w§¢4=false:=Qb HI3.out.Z 4
    have y5:w2.cell? N¢5=some (.string x2):=Qa HI3.out.B 5
    have z5:w2.cell? w§¢5=some (yQ):=Qa HI3.out.Z 5
    have q5:w2.frozen? w§¢5=false:=Qb HI3.out.Z 5
    have y6:w2.cell? N¢6=some (.slice am2 ks2.length cm2):=Qa HI3.out.B 6
    have z6:w2.cell? w§¢6=some (.slice none 0 0):=Qa HI3.out.Z 6
    have q6:w2.frozen? w§¢6=false:=Qb HI3.out.Z 6
    have y7:w2.cell? N¢7=some (zI p2):=Qa HI3.out.B 7
    have z7:w2.cell? w§¢7=some (zI 0):=Qa HI3.out.Z 7
    have q7:w2.frozen? w§¢7=false:=Qb HI3.out.Z 7
    obtain⟨Y,eY,hY1,hY2,hY3,hY4,hY5⟩:=HI3.out.fin
    have HEY:Hid (_=Y):=eY
    have HY1:Hid (Y.heap[w§]? = (zC (Nd.mk ⟨k2,o2,ty2,n2,f2,x2,p2⟩ am2 cm2 ks2).vals 48)):=hY1
    have HYY:Hid (Lies Y (Nd.mk ⟨k2,o2,ty2,n2,f2,x2,p2⟩ am2 cm2 ks2)∧Bkn (fun k=>w§≤k∧k < Y§) (Nd.mk ⟨k2,o2,ty2,n2,f2,x2,p2⟩ am2 cm2 ks2)∧Sp Y b K (.ok (t :: ts))∧Mv w Y (fun k=>k=b)):=⟨hY2,hY3,hY4,hY5⟩
    clear eY hY1 hY2 hY3 hY4 hY5
    go_wp2_with fail
    rw [HEY.out]
    refine bodyPost_ret (results_cell_row rfl _ _ w§ 48 (Nd.mk ⟨k2,o2,ty2,n2,f2,x2,p2⟩ am2 cm2 ks2).vals (0,0) _ rfl HY1.out Tryz.underlying48 rfl zK) rfl ⟨_,rfl,HYY.out.1,HYY.out.2.1,?_,HYY.out.2.2.2,?_⟩
    ·rw [HV2.out.done HOP.out]; exact HYY.out.2.2.1
    ·rw [HV2.out.done HOP.out]; exact fun q e=>by cases e; rfl
   have hv0:¬ v < 0:=by omega
   have hv3:decide (v < 0)=false:=decide_eq_false hv0
   rw [if_neg hv0] at hop
   have HOP:Hid (proX t.x=8+v):=hop
   have hv5:0≤v:=by omega
   clear hop hv hv1
   go_wp2_with fail
   refine cA.mono ?_
   rintro e w2 ⟨rfl,hb2⟩
   have HI3:=((HI2.out.on HW.out).on hb2).hid
   have HLV3:=((HLV.out.on HW.out).on hb2).hid
   clear cA hb2 HW
   have cN:=Qt HLV3.out
   have hf:=fun v=>QF t v
   go_wp2_with fail
   refine cN.mono ?_
   rintro e w3 ⟨rfl,hb3⟩
   have HI4:=(HI3.out.on hb3).hid
   obtain⟨i,c3,f3,hmx,hL,hM,_,_⟩:=(HLV3.out.on hb3).at'
   obtain⟨V,eV⟩:∃ V,w3.setCell b¢3 (zI ((i:Int)+1))=V:=⟨_,rfl⟩
   rw [eV] at hL hM
   have HI5:=(HI4.out.mv hM hL.sp).hid
   have cQ:=HP.out V (nf ts) hL.sp
   rw [Kq HE.out] at cQ
   clear cN hb3 HI3 HI4 hL hM
   go_wp2_with fail
   try rw [eV]
   clear eV c3 f3 hmx
   refine cQ.mono ?_
   rintro e w5 ⟨⟨⟨k3,o3,ty3,n3,f3,x3,p3⟩,am3,cm3,ks3⟩,rfl,hl,hk,hs,hm,ht⟩
   have HI6:=(HI5.out.mv hm hs).hid
   have HT:Hid (∀ q,part ts=.ok q→Qh (Nd.mk ⟨k3,o3,ty3,n3,f3,x3,p3⟩ am3 cm3 ks3)=q.1):=ht
   have hVs:=HI5.out.M.size
   have HL3:=hl.hid
   have hNV:N < V§:=(zJ HI5.out.B).1
   have HK3:Hid (Bkn (fun k=>w§ < k∧k < w5§∧k≠N) (Nd.mk ⟨k3,o3,ty3,n3,f3,x3,p3⟩ am3 cm3 ks3)):=hk.mono fun q hq=>by have:=HI5.out.n; omega
   clear cQ hl hk hs hm ht hVs HI5
   simp only [Nd.vals,Nd.h,Nd.a,Nd.c,Nd.ks,hdA]
   have hb6:=Qc w5 (.cells (zW k3 o3 ty3 n3 f3 x3 am3 ks3 cm3 p3) 48)
   have hX:=Qd w5 (.cells (zW k3 o3 ty3 n3 f3 x3 am3 ks3 cm3 p3) 48)
   have HI7:=(HI6.out.on hb6).hid
   have HL7:=(HL3.out.on hb6).hid
   have hs6:=Qf w5 (.cells (zW k3 o3 ty3 n3 f3 x3 am3 ks3 cm3 p3) 48)
   obtain⟨W,eW⟩:∃ W,w5.alloc (.cells (zW k3 o3 ty3 n3 f3 x3 am3 ks3 cm3 p3) 48)=W:=⟨_,rfl⟩
   rw [eW] at hX HI7 HL7 hs6 hb6
   have c8:=two_any (8+v) t.p (Nd.mk ⟨k2,o2,ty2,n2,f2,x2,p2⟩ am2 cm2 ks2) (Nd.mk ⟨k3,o3,ty3,n3,f3,x3,p3⟩ am3 cm3 ks3) (P:=fun k=>w§ < k∧k < W§∧k≠N) HI7.out.L HL7.out HI7.out.J (HK3.out.mono fun q hq=>by omega) (fun q hq=>hq.2.1) (HLV.out.rg HK.out (by omega) (by omega))
   simp only [Nd.vals,Nd.h,Nd.a,Nd.c,Nd.ks,hdA] at c8
   have y0:W.cell? N¢0=some (zU k2):=Qa HI7.out.B 0
   have x0':W.cell? w5§¢0=some (zU k3):=Qa hX 0
   have y1:W.cell? N¢1=some (zU o2):=Qa HI7.out.B 1
   have x1':W.cell? w5§¢1=some (zU o3):=Qa hX 1
   have y2:W.cell? N¢2=some (zU ty2):=Qa HI7.out.B 2
   have x2':W.cell? w5§¢2=some (zU ty3):=Qa hX 2
   have y3:W.cell? N¢3=some (zI n2):=Qa HI7.out.B 3
   have x3':W.cell? w5§¢3=some (zI n3):=Qa hX 3
   have y4:W.cell? N¢4=some (zU f2):=Qa HI7.out.B 4
   have x4':W.cell? w5§¢4=some (zU f3):=Qa hX 4
   have y5:W.cell? N¢5=some (.string x2):=Qa HI7.out.B 5
   have x5':W.cell? w5§¢5=some (.string x3):=Qa hX 5
   have y6:W.cell? N¢6=some (.slice am2 ks2.length cm2):=Qa HI7.out.B 6
   have x6':W.cell? w5§¢6=some (.slice am3 ks3.length cm3):=Qa hX 6
   have y7:W.cell? N¢7=some (zI p2):=Qa HI7.out.B 7
   have x7':W.cell? w5§¢7=some (zI p3):=Qa hX 7
   have HSZ:Hid (W§=w5§+1):=hs6
   have HNW:Hid (N < W§):=(zJ HI7.out.B).1
   clear hX hs6 hb6 HL3 HL7 HI6
   go_wp2_with fail
   try rw [eW]
   clear eW
   refine c8.mono ?_
   rintro e w7 ⟨⟨⟨k4,o4,ty4,n4,f4,x4,p4⟩,am4,cm4,ks4⟩,rfl,et,hl8,hk8,hb8⟩
   try dsimp only
   have HI8:=(HI7.out.on hb8).hid
   have HET:Hid (Qh (Nd.mk ⟨k4,o4,ty4,n4,f4,x4,p4⟩ am4 cm4 ks4)=.mk ⟨6,(8+v),0,0,0,gE,t.p⟩ [Qh (Nd.mk ⟨k2,o2,ty2,n2,f2,x2,p2⟩ am2 cm2 ks2),Qh (Nd.mk ⟨k3,o3,ty3,n3,f3,x3,p3⟩ am3 cm3 ks3)]):=et
   have HI9:=(HI8.out.put hl8 (hk8.mono fun q hq=>by have:=HNW.out; have:=HI8.out.n; have:=hb8.size; omega)).hid
   clear c8 et hl8 hk8 hb8 HI7 y0 x0' y1 x1' y2 x2' y3 x3' y4 x4' y5 x5' y6 x6' y7 x7'
   have y0:w7.cell? N¢0=some (zU k2):=Qa HI8.out.B 0
   have q0:w7.frozen? N¢0=false:=Qb HI8.out.B 0
   have y1:w7.cell? N¢1=some (zU o2):=Qa HI8.out.B 1
   have q1:w7.frozen? N¢1=false:=Qb HI8.out.B 1
   have y2:w7.cell? N¢2=some (zU ty2):=Qa HI8.out.B 2
   have q2:w7.frozen? N¢2=false:=Qb HI8.out.B 2
   have y3:w7.cell? N¢3=some (zI n2):=Qa HI8.out.B 3
   have q3:w7.frozen? N¢3=false:=Qb HI8.out.B 3
   have y4:w7.cell? N¢4=some (zU f2):=Qa HI8.out.B 4
   have q4:w7.frozen? N¢4=false:=Qb HI8.out.B 4
   have y5:w7.cell? N¢5=some (.string x2):=Qa HI8.out.B 5
   have q5:w7.frozen? N¢5=false:=Qb HI8.out.B 5
   have y6:w7.cell? N¢6=some (.slice am2 ks2.length cm2):=Qa HI8.out.B 6
   have q6:w7.frozen? N¢6=false:=Qb HI8.out.B 6
   have y7:w7.cell? N¢7=some (zI p2):=Qa HI8.out.B 7
   have q7:w7.frozen? N¢7=false:=Qb HI8.out.B 7
   have HV9:Hid (RInv proX part r0 (Qh (Nd.mk ⟨k4,o4,ty4,n4,f4,x4,p4⟩ am4 cm4 ks4)) (stOf (part ts))):=by
    rw [HET.out,← HOP.out]
    exact HV2.out.next HS.out (by rw [HOP.out]; omega) HT.out
   go_wp2_with fail
   exact⟨⟨_,_,HI9,HV9⟩,by
    have e1:=stOf_len HS.out HI9.out.S
    have e2:=HLV.out.msr
    simp only [List.length_cons] at e2
    omega⟩
theorem sum_d (part:List Tk→Except Ft (Tr × List Tk)) (hS:Shr part) (hE:part []=.error .lex) {K:PK}(hK:KOk K) {b:Nat}{d:Int}(cP:∀ (w:yW) (st:St),Sp w b K st→Calls zG 180 #[zP b,zI d] w (OutD b K w (rd part st))) {w:yW}{st:St}(h:Sp w b K st) :
  Calls zG 167 #[zP b,zI d] w (OutD b K w (rd (gRow sumX part 4096) st)):=by
 have hb0:=Qc w (.cells zNo 48)
 have cC:=cP _ _ (h.on hb0)
 have HLW:Hid (Lw w§ b K):=h.lw
 have HLN:Hid (∀ ts,st=.ok ts→ts.length≤4097):=fun ts e=>by
  subst e
  have:=h.2.len
  have:=hK.n
  omega
 have HS:Hid (Shr part):=hS
 have HE:Hid (part []=.error .lex):=hE
 have HK:Hid (KOk K):=hK
 have HP:Hid (∀ (w:yW) (st:St),Sp w b K st→Calls zG 180 #[zP b,zI d] w (OutD b K w (rd part st))):=cP
 obtain⟨r0,er0⟩:∃ r,rd (gRow sumX part 4096) st=r:=⟨_,rfl⟩
 have HR0:Hid (rd (gRow sumX part 4096) st=r0):=er0
 rw [er0]
 clear h hb0 hS hE hK cP er0
 go_enter Tryz.func167,Tryz.ntmps167
 go_wp2_with fail
 refine cC.mono ?_
 rintro e w1 ⟨m,rfl,hl,hk,hs,hm,ht⟩
 have HI:=(RS.start HLW.out hl hk hs hm).hid
 have HV:Hid (RInv sumX part r0 (Qh m) (stOf (rd part st))):=by rw [← HR0.out]; exact RInv.start HS.out HLN.out ht
 clear cC hl hk hs hm ht HR0 HLN
 obtain⟨N,eN⟩:∃ N,w1§=N:=⟨_,rfl⟩
 rw [eN] at HI
 obtain⟨s0,es0⟩:∃ s0,stOf (rd part st)=s0:=⟨_,rfl⟩
 rw [es0] at HI HV
 clear es0
 obtain⟨⟨k1,o1,ty1,n1,f1,x1,p1⟩,am1,cm1,ks1⟩:=m
 simp only [Nd.vals,Nd.h,Nd.a,Nd.c,Nd.ks,hdA] at HI ⊢
 go_wp2_with fail
 try rw [eN]
 clear eN
 go_loopw [6,7,8] (fun _ _ _ wr=>∃ m s,Hid (RS w b K N wr m s)∧Hid (RInv sumX part r0 (Qh m) s)) (fun _ _ _ wr=>msr b K wr)
 case atStart=>exact⟨_,_,HI,HV⟩
 case round =>
  obtain⟨m,s,HI2,HV2⟩:=hrel
  clear HI HV
  obtain⟨⟨k2,o2,ty2,n2,f2,x2,p2⟩,am2,cm2,ks2⟩:=m
  cases s with
  | error f =>
   have HW:Hid (yD wr (wr.alloc (.cells yc 9))):=Qc _ _
   have hSL:SLs (wr.alloc (.cells yc 9)) wr§ [ZD,Zm]:=fun j hj=>by
    have hh:=Qd wr (.cells yc 9)
    match j,hj with
    | 0,_=>exact Qa hh 0
    | 1,_=>exact Qa hh 1
   have cA:=Jw (Dd.on HI2.out.S HW.out) (n:=2) (c:=2) hSL rfl (by omega) (by intro x hx; simp only [List.mem_cons,List.not_mem_nil,or_false] at hx; rcases hx with rfl | rfl <;> decide)
   clear hSL
   go_wp2_with fail
   refine cA.mono ?_
   rintro e w2 ⟨rfl,hb2⟩
   have HI3:=((HI2.out.on HW.out).on hb2).hid
   clear cA hb2 HW HI2
   have y0:w2.cell? N¢0=some (zU k2):=Qa HI3.out.B 0
   have z0:w2.cell? w§¢0=some (zU 0):=Qa HI3.out.Z 0
   have q0:w2.frozen? w§¢0=false:=Qb HI3.out.Z 0
   have y1:w2.cell? N¢1=some (zU o2):=Qa HI3.out.B 1
   have z1:w2.cell? w§¢1=some (zU 0):=Qa HI3.out.Z 1
   have q1:w2.frozen? w§¢1=false:=Qb HI3.out.Z 1
   have y2:w2.cell? N¢2=some (zU ty2):=Qa HI3.out.B 2
   have z2:w2.cell? w§¢2=some (zU 0):=Qa HI3.out.Z 2
   have q2:w2.frozen? w§¢2=false:=Qb HI3.out.Z 2
   have y3:w2.cell? N¢3=some (zI n2):=Qa HI3.out.B 3
   have z3:w2.cell? w§¢3=some (zI 0):=Qa HI3.out.Z 3
   have q3:w2.frozen? w§¢3=false:=Qb HI3.out.Z 3
   have y4:w2.cell? N¢4=some (zU f2):=Qa HI3.out.B 4
   have z4:w2.cell? w§¢4=some (zU 0):=Qa HI3.out.Z 4
   have q4:w2.frozen? w§¢4=false:=Qb HI3.out.Z 4
   have y5:w2.cell? N¢5=some (.string x2):=Qa HI3.out.B 5
   have z5:w2.cell? w§¢5=some (yQ):=Qa HI3.out.Z 5
   have q5:w2.frozen? w§¢5=false:=Qb HI3.out.Z 5
   have y6:w2.cell? N¢6=some (.slice am2 ks2.length cm2):=Qa HI3.out.B 6
   have z6:w2.cell? w§¢6=some (.slice none 0 0):=Qa HI3.out.Z 6
   have q6:w2.frozen? w§¢6=false:=Qb HI3.out.Z 6
   have y7:w2.cell? N¢7=some (zI p2):=Qa HI3.out.B 7
   have z7:w2.cell? w§¢7=some (zI 0):=Qa HI3.out.Z 7
   have q7:w2.frozen? w§¢7=false:=Qb HI3.out.Z 7
   obtain⟨Y,eY,hY1,hY2,hY3,hY4,hY5⟩:=HI3.out.fin
   have HEY:Hid (_=Y):=eY
   have HY1:Hid (Y.heap[w§]? = (zC (Nd.mk ⟨k2,o2,ty2,n2,f2,x2,p2⟩ am2 cm2 ks2).vals 48)):=hY1
   have HYY:Hid (Lies Y (Nd.mk ⟨k2,o2,ty2,n2,f2,x2,p2⟩ am2 cm2 ks2)∧Bkn (fun k=>w§≤k∧k < Y§) (Nd.mk ⟨k2,o2,ty2,n2,f2,x2,p2⟩ am2 cm2 ks2)∧Sp Y b K (.error f)∧Mv w Y (fun k=>k=b)):=⟨hY2,hY3,hY4,hY5⟩
   clear eY hY1 hY2 hY3 hY4 hY5
   go_wp2_with fail
   rw [HEY.out]
   refine bodyPost_ret (results_cell_row rfl _ _ w§ 48 (Nd.mk ⟨k2,o2,ty2,n2,f2,x2,p2⟩ am2 cm2 ks2).vals (0,0) _ rfl HY1.out Tryz.underlying48 rfl zK) rfl ⟨_,rfl,HYY.out.1,HYY.out.2.1,?_,HYY.out.2.2.2,?_⟩
   ·rw [HV2.out]; exact HYY.out.2.2.1
   ·rw [HV2.out]; exact fun q e=>by cases e
  | ok ts =>
   obtain⟨hne,hlv⟩:=HI2.out.S
   match ts,hne with
   | t :: ts,_ =>
   have HLV:=Lv.hid hlv
   clear hlv hne
   have HW:Hid (yD wr (wr.alloc (.cells yc 9))):=Qc _ _
   have hSL:SLs (wr.alloc (.cells yc 9)) wr§ [ZD,Zm]:=fun j hj=>by
    have hh:=Qd wr (.cells yc 9)
    match j,hj with
    | 0,_=>exact Qa hh 0
    | 1,_=>exact Qa hh 1
   have cA:=Qv (HLV.out.on HW.out) (n:=2) (c:=2) hSL rfl (by omega) (fun x hx=>(HLV.out.ok HK.out).kw (.inr (by simp only [List.mem_cons,List.not_mem_nil,or_false] at hx; rcases hx with rfl | rfl <;> simp [kwM])))
   have hop:=sumX_op t.x
   have hrg:=Jt t.x [ZD,Zm] 0
   obtain⟨v,ev⟩:∃ v,fnd t.x [ZD,Zm] 0=v:=⟨_,rfl⟩
   rw [ev] at cA hrg
   unfold opF at hop
   rw [ev] at hop
   have hv1:-1≤v:=hrg.1
   have hv2:v < 2:=hrg.2
   clear hSL ev hrg
   by_cases hv:v = -1
   ·subst hv
    have HOP:Hid (sumX t.x=0):=hop
    clear hop hv1 hv2
    go_wp2_with fail
    refine cA.mono ?_
    rintro e w2 ⟨rfl,hb2⟩
    have HI3:=((HI2.out.on HW.out).on hb2).hid
    clear cA hb2 HW HI2
    have y0:w2.cell? N¢0=some (zU k2):=Qa HI3.out.B 0
    have z0:w2.cell? w§¢0=some (zU 0):=Qa HI3.out.Z 0
    have q0:w2.frozen? w§¢0=false:=Qb HI3.out.Z 0
    have y1:w2.cell? N¢1=some (zU o2):=Qa HI3.out.B 1
    have z1:w2.cell? w§¢1=some (zU 0):=Qa HI3.out.Z 1
    have q1:w2.frozen? w§¢1=false:=Qb HI3.out.Z 1
    have y2:w2.cell? N¢2=some (zU ty2):=Qa HI3.out.B 2
    have z2:w2.cell? w§¢2=some (zU 0):=Qa HI3.out.Z 2
    have q2:w2.frozen? w§¢2=false:=Qb HI3.out.Z 2
    have y3:w2.cell? N¢3=some (zI n2):=Qa HI3.out.B 3
    have z3:w2.cell? w§¢3=some (zI 0):=Qa HI3.out.Z 3
    have q3:w2.frozen? w§¢3=false:=Qb HI3.out.Z 3
    have y4:w2.cell? N¢4=some (zU f2):=Qa HI3.out.B 4
    have z4:w2.cell? w§¢4=some (zU 0):=Qa HI3.out.Z 4
    have q4:w2.frozen? w§¢4=false:=Qb HI3.out.Z 4
    have y5:w2.cell? N¢5=some (.string x2):=Qa HI3.out.B 5
    have z5:w2.cell? w§¢5=some (yQ):=Qa HI3.out.Z 5
    have q5:w2.frozen? w§¢5=false:=Qb HI3.out.Z 5
    have y6:w2.cell? N¢6=some (.slice am2 ks2.length cm2):=Qa HI3.out.B 6
    have z6:w2.cell? w§¢6=some (.slice none 0 0):=Qa HI3.out.Z 6
    have q6:w2.frozen? w§¢6=false:=Qb HI3.out.Z 6
    have y7:w2.cell? N¢7=some (zI p2):=Qa HI3.out.B 7
    have z7:w2.cell? w§¢7=some (zI 0):=Qa HI3.out.Z 7
    have q7:w2.frozen? w§¢7=false:=Qb HI3.out.Z 7
    obtain⟨Y,eY,hY1,hY2,hY3,hY4,hY5⟩:=HI3.out.fin
    have HEY:Hid (_=Y):=eY
    have HY1:Hid (Y.heap[w§]? = (zC (Nd.mk ⟨k2,o2,ty2,n2,f2,x2,p2⟩ am2 cm2 ks2).vals 48)):=hY1
    have HYY:Hid (Lies Y (Nd.mk ⟨k2,o2,ty2,n2,f2,x2,p2⟩ am2 cm2 ks2)∧Bkn (fun k=>w§≤k∧k < Y§) (Nd.mk ⟨k2,o2,ty2,n2,f2,x2,p2⟩ am2 cm2 ks2)∧Sp Y b K (.ok (t :: ts))∧Mv w Y (fun k=>k=b)):=⟨hY2,hY3,hY4,hY5⟩
    clear eY hY1 hY2 hY3 hY4 hY5
    go_wp2_with fail
    rw [HEY.out]
    refine bodyPost_ret (results_cell_row rfl _ _ w§ 48 (Nd.mk ⟨k2,o2,ty2,n2,f2,x2,p2⟩ am2 cm2 ks2).vals (0,0) _ rfl HY1.out Tryz.underlying48 rfl zK) rfl ⟨_,rfl,HYY.out.1,HYY.out.2.1,?_,HYY.out.2.2.2,?_⟩
    ·rw [HV2.out.done HOP.out]; exact HYY.out.2.2.1
    ·rw [HV2.out.done HOP.out]; exact fun q e=>by cases e; rfl
   have hv0:¬ v < 0:=by omega
   have hv3:decide (v < 0)=false:=decide_eq_false hv0
   rw [if_neg hv0] at hop
   have HOP:Hid (sumX t.x=6+v):=hop
   have hv5:0≤v:=by omega
   clear hop hv hv1
   go_wp2_with fail
   refine cA.mono ?_
   rintro e w2 ⟨rfl,hb2⟩
   have HI3:=((HI2.out.on HW.out).on hb2).hid
   have HLV3:=((HLV.out.on HW.out).on hb2).hid
   clear cA hb2 HW
   have cN:=Qt HLV3.out
   have hf:=fun v=>QF t v
   go_wp2_with fail
   refine cN.mono ?_
   rintro e w3 ⟨rfl,hb3⟩
   have HI4:=(HI3.out.on hb3).hid
   obtain⟨i,c3,f3,hmx,hL,hM,_,_⟩:=(HLV3.out.on hb3).at'
   obtain⟨V,eV⟩:∃ V,w3.setCell b¢3 (zI ((i:Int)+1))=V:=⟨_,rfl⟩
   rw [eV] at hL hM
   have HI5:=(HI4.out.mv hM hL.sp).hid
   have cQ:=HP.out V (nf ts) hL.sp
   rw [Kq HE.out] at cQ
   clear cN hb3 HI3 HI4 hL hM
   go_wp2_with fail
   try rw [eV]
   clear eV c3 f3 hmx
   refine cQ.mono ?_
   rintro e w5 ⟨⟨⟨k3,o3,ty3,n3,f3,x3,p3⟩,am3,cm3,ks3⟩,rfl,hl,hk,hs,hm,ht⟩
   have HI6:=(HI5.out.mv hm hs).hid
   have HT:Hid (∀ q,part ts=.ok q→Qh (Nd.mk ⟨k3,o3,ty3,n3,f3,x3,p3⟩ am3 cm3 ks3)=q.1):=ht
   have hVs:=HI5.out.M.size
   have HL3:=hl.hid
   have hNV:N < V§:=(zJ HI5.out.B).1
   have HK3:Hid (Bkn (fun k=>w§ < k∧k < w5§∧k≠N) (Nd.mk ⟨k3,o3,ty3,n3,f3,x3,p3⟩ am3 cm3 ks3)):=hk.mono fun q hq=>by have:=HI5.out.n; omega
   clear cQ hl hk hs hm ht hVs HI5
   simp only [Nd.vals,Nd.h,Nd.a,Nd.c,Nd.ks,hdA]
   have hb6:=Qc w5 (.cells (zW k3 o3 ty3 n3 f3 x3 am3 ks3 cm3 p3) 48)
   have hX:=Qd w5 (.cells (zW k3 o3 ty3 n3 f3 x3 am3 ks3 cm3 p3) 48)
   have HI7:=(HI6.out.on hb6).hid
   have HL7:=(HL3.out.on hb6).hid
   have hs6:=Qf w5 (.cells (zW k3 o3 ty3 n3 f3 x3 am3 ks3 cm3 p3) 48)
   obtain⟨W,eW⟩:∃ W,w5.alloc (.cells (zW k3 o3 ty3 n3 f3 x3 am3 ks3 cm3 p3) 48)=W:=⟨_,rfl⟩
   rw [eW] at hX HI7 HL7 hs6 hb6
   have c8:=two_any (6+v) t.p (Nd.mk ⟨k2,o2,ty2,n2,f2,x2,p2⟩ am2 cm2 ks2) (Nd.mk ⟨k3,o3,ty3,n3,f3,x3,p3⟩ am3 cm3 ks3) (P:=fun k=>w§ < k∧k < W§∧k≠N) HI7.out.L HL7.out HI7.out.J (HK3.out.mono fun q hq=>by omega) (fun q hq=>hq.2.1) (HLV.out.rg HK.out (by omega) (by omega))
   simp only [Nd.vals,Nd.h,Nd.a,Nd.c,Nd.ks,hdA] at c8
   have y0:W.cell? N¢0=some (zU k2):=Qa HI7.out.B 0
   have x0':W.cell? w5§¢0=some (zU k3):=Qa hX 0
   have y1:W.cell? N¢1=some (zU o2):=Qa HI7.out.B 1
   have x1':W.cell? w5§¢1=some (zU o3):=Qa hX 1
   have y2:W.cell? N¢2=some (zU ty2):=Qa HI7.out.B 2
   have x2':W.cell? w5§¢2=some (zU ty3):=Qa hX 2
   have y3:W.cell? N¢3=some (zI n2):=Qa HI7.out.B 3
   have x3':W.cell? w5§¢3=some (zI n3):=Qa hX 3
   have y4:W.cell? N¢4=some (zU f2):=Qa HI7.out.B 4
   have x4':W.cell? w5§¢4=some (zU f3):=Qa hX 4
   have y5:W.cell? N¢5=some (.string x2):=Qa HI7.out.B 5
   have x5':W.cell? w5§¢5=some (.string x3):=Qa hX 5
   have y6:W.cell? N¢6=some (.slice am2 ks2.length cm2):=Qa HI7.out.B 6
   have x6':W.cell? w5§¢6=some (.slice am3 ks3.length cm3):=Qa hX 6
   have y7:W.cell? N¢7=some (zI p2):=Qa HI7.out.B 7
   have x7':W.cell? w5§¢7=some (zI p3):=Qa hX 7
   have HSZ:Hid (W§=w5§+1):=hs6
   have HNW:Hid (N < W§):=(zJ HI7.out.B).1
   clear hX hs6 hb6 HL3 HL7 HI6
   go_wp2_with fail
   try rw [eW]
   clear eW
   refine c8.mono ?_
   rintro e w7 ⟨⟨⟨k4,o4,ty4,n4,f4,x4,p4⟩,am4,cm4,ks4⟩,rfl,et,hl8,hk8,hb8⟩
   try dsimp only
   have HI8:=(HI7.out.on hb8).hid
   have HET:Hid (Qh (Nd.mk ⟨k4,o4,ty4,n4,f4,x4,p4⟩ am4 cm4 ks4)=.mk ⟨6,(6+v),0,0,0,gE,t.p⟩ [Qh (Nd.mk ⟨k2,o2,ty2,n2,f2,x2,p2⟩ am2 cm2 ks2),Qh (Nd.mk ⟨k3,o3,ty3,n3,f3,x3,p3⟩ am3 cm3 ks3)]):=et
   have HI9:=(HI8.out.put hl8 (hk8.mono fun q hq=>by have:=HNW.out; have:=HI8.out.n; have:=hb8.size; omega)).hid
   clear c8 et hl8 hk8 hb8 HI7 y0 x0' y1 x1' y2 x2' y3 x3' y4 x4' y5 x5' y6 x6' y7 x7'
   have y0:w7.cell? N¢0=some (zU k2):=Qa HI8.out.B 0
   have q0:w7.frozen? N¢0=false:=Qb HI8.out.B 0
   have y1:w7.cell? N¢1=some (zU o2):=Qa HI8.out.B 1
   have q1:w7.frozen? N¢1=false:=Qb HI8.out.B 1
   have y2:w7.cell? N¢2=some (zU ty2):=Qa HI8.out.B 2
   have q2:w7.frozen? N¢2=false:=Qb HI8.out.B 2
   have y3:w7.cell? N¢3=some (zI n2):=Qa HI8.out.B 3
   have q3:w7.frozen? N¢3=false:=Qb HI8.out.B 3
   have y4:w7.cell? N¢4=some (zU f2):=Qa HI8.out.B 4
   have q4:w7.frozen? N¢4=false:=Qb HI8.out.B 4
   have y5:w7.cell? N¢5=some (.string x2):=Qa HI8.out.B 5
   have q5:w7.frozen? N¢5=false:=Qb HI8.out.B 5
   have y6:w7.cell? N¢6=some (.slice am2 ks2.length cm2):=Qa HI8.out.B 6
   have q6:w7.frozen? N¢6=false:=Qb HI8.out.B 6
   have y7:w7.cell? N¢7=some (zI p2):=Qa HI8.out.B 7
   have q7:w7.frozen? N¢7=false:=Qb HI8.out.B 7
   have HV9:Hid (RInv sumX part r0 (Qh (Nd.mk ⟨k4,o4,ty4,n4,f4,x4,p4⟩ am4 cm4 ks4)) (stOf (part ts))):=by
    rw [HET.out,← HOP.out]
    exact HV2.out.next HS.out (by rw [HOP.out]; omega) HT.out
   go_wp2_with fail
   exact⟨⟨_,_,HI9,HV9⟩,by
    have e1:=stOf_len HS.out HI9.out.S
    have e2:=HLV.out.msr
    simp only [List.length_cons] at e2
    omega⟩
theorem and_d (part:List Tk→Except Ft (Tr × List Tk)) (hS:Shr part) (hE:part []=.error .lex) {K:PK}(hK:KOk K) {b:Nat}{d:Int}(cP:∀ (w:yW) (st:St),Sp w b K st→Calls zG 156 #[zP b,zI d] w (OutD b K w (rd part st))) {w:yW}{st:St}(h:Sp w b K st) :
  Calls zG 125 #[zP b,zI d] w (OutD b K w (rd (gRow andX part 4096) st)):=by
 have hb0:=Qc w (.cells zNo 48)
 have cC:=cP _ _ (h.on hb0)
 have HLW:Hid (Lw w§ b K):=h.lw
 have HLN:Hid (∀ ts,st=.ok ts→ts.length≤4097):=fun ts e=>by
  subst e
  have:=h.2.len
  have:=hK.n
  omega
 have HS:Hid (Shr part):=hS
 have HE:Hid (part []=.error .lex):=hE
 have HK:Hid (KOk K):=hK
 have HP:Hid (∀ (w:yW) (st:St),Sp w b K st→Calls zG 156 #[zP b,zI d] w (OutD b K w (rd part st))):=cP
 obtain⟨r0,er0⟩:∃ r,rd (gRow andX part 4096) st=r:=⟨_,rfl⟩
 have HR0:Hid (rd (gRow andX part 4096) st=r0):=er0
 rw [er0]
 clear h hb0 hS hE hK cP er0
 go_enter Tryz.func125,Tryz.ntmps125
 go_wp2_with fail
 refine cC.mono ?_
 rintro e w1 ⟨m,rfl,hl,hk,hs,hm,ht⟩
 have HI:=(RS.start HLW.out hl hk hs hm).hid
 have HV:Hid (RInv andX part r0 (Qh m) (stOf (rd part st))):=by rw [← HR0.out]; exact RInv.start HS.out HLN.out ht
 clear cC hl hk hs hm ht HR0 HLN
 obtain⟨N,eN⟩:∃ N,w1§=N:=⟨_,rfl⟩
 rw [eN] at HI
 obtain⟨s0,es0⟩:∃ s0,stOf (rd part st)=s0:=⟨_,rfl⟩
 rw [es0] at HI HV
 clear es0
 obtain⟨⟨k1,o1,ty1,n1,f1,x1,p1⟩,am1,cm1,ks1⟩:=m
 simp only [Nd.vals,Nd.h,Nd.a,Nd.c,Nd.ks,hdA] at HI ⊢
 go_wp2_with fail
 try rw [eN]
 clear eN
 go_loopw [6,7,8] (fun _ _ _ wr=>∃ m s,Hid (RS w b K N wr m s)∧Hid (RInv andX part r0 (Qh m) s)) (fun _ _ _ wr=>msr b K wr)
 case atStart=>exact⟨_,_,HI,HV⟩
 case round =>
  obtain⟨m,s,HI2,HV2⟩:=hrel
  clear HI HV
  obtain⟨⟨k2,o2,ty2,n2,f2,x2,p2⟩,am2,cm2,ks2⟩:=m
  cases s with
  | error f =>
   have cA:=is_dead HI2.out.S Z03 (by decide)
   go_wp2_with fail
   refine cA.mono ?_
   rintro e w2 ⟨rfl,hb2⟩
   have HI3:=(HI2.out.on hb2).hid
   clear cA hb2 HI2
   have y0:w2.cell? N¢0=some (zU k2):=Qa HI3.out.B 0
   have z0:w2.cell? w§¢0=some (zU 0):=Qa HI3.out.Z 0
   have q0:w2.frozen? w§¢0=false:=Qb HI3.out.Z 0
   have y1:w2.cell? N¢1=some (zU o2):=Qa HI3.out.B 1
   have z1:w2.cell? w§¢1=some (zU 0):=Qa HI3.out.Z 1
   have q1:w2.frozen? w§¢1=false:=Qb HI3.out.Z 1
   have y2:w2.cell? N¢2=some (zU ty2):=Qa HI3.out.B 2
   have z2:w2.cell? w§¢2=some (zU 0):=Qa HI3.out.Z 2
   have q2:w2.frozen? w§¢2=false:=Qb HI3.out.Z 2
   have y3:w2.cell? N¢3=some (zI n2):=Qa HI3.out.B 3
   have z3:w2.cell? w§¢3=some (zI 0):=Qa HI3.out.Z 3
   have q3:w2.frozen? w§¢3=false:=Qb HI3.out.Z 3
   have y4:w2.cell? N¢4=some (zU f2):=Qa HI3.out.B 4
   have z4:w2.cell? w§¢4=some (zU 0):=Qa HI3.out.Z 4
   have q4:w2.frozen? w§¢4=false:=Qb HI3.out.Z 4
   have y5:w2.cell? N¢5=some (.string x2):=Qa HI3.out.B 5
   have z5:w2.cell? w§¢5=some (yQ):=Qa HI3.out.Z 5
   have q5:w2.frozen? w§¢5=false:=Qb HI3.out.Z 5
   have y6:w2.cell? N¢6=some (.slice am2 ks2.length cm2):=Qa HI3.out.B 6
   have z6:w2.cell? w§¢6=some (.slice none 0 0):=Qa HI3.out.Z 6
   have q6:w2.frozen? w§¢6=false:=Qb HI3.out.Z 6
   have y7:w2.cell? N¢7=some (zI p2):=Qa HI3.out.B 7
   have z7:w2.cell? w§¢7=some (zI 0):=Qa HI3.out.Z 7
   have q7:w2.frozen? w§¢7=false:=Qb HI3.out.Z 7
   obtain⟨Y,eY,hY1,hY2,hY3,hY4,hY5⟩:=HI3.out.fin
   have HEY:Hid (_=Y):=eY
   have HY1:Hid (Y.heap[w§]? = (zC (Nd.mk ⟨k2,o2,ty2,n2,f2,x2,p2⟩ am2 cm2 ks2).vals 48)):=hY1
   have HYY:Hid (Lies Y (Nd.mk ⟨k2,o2,ty2,n2,f2,x2,p2⟩ am2 cm2 ks2)∧Bkn (fun k=>w§≤k∧k < Y§) (Nd.mk ⟨k2,o2,ty2,n2,f2,x2,p2⟩ am2 cm2 ks2)∧Sp Y b K (.error f)∧Mv w Y (fun k=>k=b)):=⟨hY2,hY3,hY4,hY5⟩
   clear eY hY1 hY2 hY3 hY4 hY5
   go_wp2_with fail
   rw [HEY.out]
   refine bodyPost_ret (results_cell_row rfl _ _ w§ 48 (Nd.mk ⟨k2,o2,ty2,n2,f2,x2,p2⟩ am2 cm2 ks2).vals (0,0) _ rfl HY1.out Tryz.underlying48 rfl zK) rfl ⟨_,rfl,HYY.out.1,HYY.out.2.1,?_,HYY.out.2.2.2,?_⟩
   ·rw [HV2.out]; exact HYY.out.2.2.1
   ·rw [HV2.out]; exact fun q e=>by cases e
  | ok ts =>
   obtain⟨hne,hlv⟩:=HI2.out.S
   match ts,hne with
   | t :: ts,_ =>
   have HLV:=Lv.hid hlv
   clear hlv hne
   have cA:=Jo HLV.out Z03 ((HLV.out.ok HK.out).kw (.inr (by simp [kwM])))
   by_cases hv:t.x=Z03
   rotate_left
   ·rw [decide_eq_false hv] at cA
    have HOP:Hid (andX t.x=0):=if_neg hv
    clear hv
    go_wp2_with fail
    refine cA.mono ?_
    rintro e w2 ⟨rfl,hb2⟩
    have HI3:=(HI2.out.on hb2).hid
    clear cA hb2 HI2
    have y0:w2.cell? N¢0=some (zU k2):=Qa HI3.out.B 0
    have z0:w2.cell? w§¢0=some (zU 0):=Qa HI3.out.Z 0
    have q0:w2.frozen? w§¢0=false:=Qb HI3.out.Z 0
    have y1:w2.cell? N¢1=some (zU o2):=Qa HI3.out.B 1
    have z1:w2.cell? w§¢1=some (zU 0):=Qa HI3.out.Z 1
    have q1:w2.frozen? w§¢1=false:=Qb HI3.out.Z 1
    have y2:w2.cell? N¢2=some (zU ty2):=Qa HI3.out.B 2
    have z2:w2.cell? w§¢2=some (zU 0):=Qa HI3.out.Z 2
    have q2:w2.frozen? w§¢2=false:=Qb HI3.out.Z 2
    have y3:w2.cell? N¢3=some (zI n2):=Qa HI3.out.B 3
    have z3:w2.cell? w§¢3=some (zI 0):=Qa HI3.out.Z 3
    have q3:w2.frozen? w§¢3=false:=Qb HI3.out.Z 3
    have y4:w2.cell? N¢4=some (zU f2):=Qa HI3.out.B 4
    have z4:w2.cell? w§¢4=some (zU 0):=Qa HI3.out.Z 4
    have q4:w2.frozen? w§¢4=false:=Qb HI3.out.Z 4
    have y5:w2.cell? N¢5=some (.string x2):=Qa HI3.out.B 5
    have z5:w2.cell? w§¢5=some (yQ):=Qa HI3.out.Z 5
    have q5:w2.frozen? w§¢5=false:=Qb HI3.out.Z 5
    have y6:w2.cell? N¢6=some (.slice am2 ks2.length cm2):=Qa HI3.out.B 6
    have z6:w2.cell? w§¢6=some (.slice none 0 0):=Qa HI3.out.Z 6
    have q6:w2.frozen? w§¢6=false:=Qb HI3.out.Z 6
    have y7:w2.cell? N¢7=some (zI p2):=Qa HI3.out.B 7
    have z7:w2.cell? w§¢7=some (zI 0):=Qa HI3.out.Z 7
    have q7:w2.frozen? w§¢7=false:=Qb HI3.out.Z 7
    obtain⟨Y,eY,hY1,hY2,hY3,hY4,hY5⟩:=HI3.out.fin
    have HEY:Hid (_=Y):=eY
    have HY1:Hid (Y.heap[w§]? = (zC (Nd.mk ⟨k2,o2,ty2,n2,f2,x2,p2⟩ am2 cm2 ks2).vals 48)):=hY1
    have HYY:Hid (Lies Y (Nd.mk ⟨k2,o2,ty2,n2,f2,x2,p2⟩ am2 cm2 ks2)∧Bkn (fun k=>w§≤k∧k < Y§) (Nd.mk ⟨k2,o2,ty2,n2,f2,x2,p2⟩ am2 cm2 ks2)∧Sp Y b K (.ok (t :: ts))∧Mv w Y (fun k=>k=b)):=⟨hY2,hY3,hY4,hY5⟩
    clear eY hY1 hY2 hY3 hY4 hY5
    go_wp2_with fail
    rw [HEY.out]
    refine bodyPost_ret (results_cell_row rfl _ _ w§ 48 (Nd.mk ⟨k2,o2,ty2,n2,f2,x2,p2⟩ am2 cm2 ks2).vals (0,0) _ rfl HY1.out Tryz.underlying48 rfl zK) rfl ⟨_,rfl,HYY.out.1,HYY.out.2.1,?_,HYY.out.2.2.2,?_⟩
    ·rw [HV2.out.done HOP.out]; exact HYY.out.2.2.1
    ·rw [HV2.out.done HOP.out]; exact fun q e=>by cases e; rfl
   rw [decide_eq_true hv] at cA
   have HOP:Hid (andX t.x=17):=if_pos hv
   clear hv
   go_wp2_with fail
   refine cA.mono ?_
   rintro e w2 ⟨rfl,hb2⟩
   have HI3:=(HI2.out.on hb2).hid
   have HLV3:=(HLV.out.on hb2).hid
   clear cA hb2
   have cN:=Qt HLV3.out
   have hf:=fun v=>QF t v
   go_wp2_with fail
   refine cN.mono ?_
   rintro e w3 ⟨rfl,hb3⟩
   have HI4:=(HI3.out.on hb3).hid
   obtain⟨i,c3,f3,hmx,hL,hM,_,_⟩:=(HLV3.out.on hb3).at'
   obtain⟨V,eV⟩:∃ V,w3.setCell b¢3 (zI ((i:Int)+1))=V:=⟨_,rfl⟩
   rw [eV] at hL hM
   have HI5:=(HI4.out.mv hM hL.sp).hid
   have cQ:=HP.out V (nf ts) hL.sp
   rw [Kq HE.out] at cQ
   clear cN hb3 HI3 HI4 hL hM
   go_wp2_with fail
   try rw [eV]
   clear eV c3 f3 hmx
   refine cQ.mono ?_
   rintro e w5 ⟨⟨⟨k3,o3,ty3,n3,f3,x3,p3⟩,am3,cm3,ks3⟩,rfl,hl,hk,hs,hm,ht⟩
   have HI6:=(HI5.out.mv hm hs).hid
   have HT:Hid (∀ q,part ts=.ok q→Qh (Nd.mk ⟨k3,o3,ty3,n3,f3,x3,p3⟩ am3 cm3 ks3)=q.1):=ht
   have hVs:=HI5.out.M.size
   have HL3:=hl.hid
   have hNV:N < V§:=(zJ HI5.out.B).1
   have HK3:Hid (Bkn (fun k=>w§ < k∧k < w5§∧k≠N) (Nd.mk ⟨k3,o3,ty3,n3,f3,x3,p3⟩ am3 cm3 ks3)):=hk.mono fun q hq=>by have:=HI5.out.n; omega
   clear cQ hl hk hs hm ht hVs HI5
   simp only [Nd.vals,Nd.h,Nd.a,Nd.c,Nd.ks,hdA]
   have hb6:=Qc w5 (.cells (zW k3 o3 ty3 n3 f3 x3 am3 ks3 cm3 p3) 48)
   have hX:=Qd w5 (.cells (zW k3 o3 ty3 n3 f3 x3 am3 ks3 cm3 p3) 48)
   have HI7:=(HI6.out.on hb6).hid
   have HL7:=(HL3.out.on hb6).hid
   have hs6:=Qf w5 (.cells (zW k3 o3 ty3 n3 f3 x3 am3 ks3 cm3 p3) 48)
   obtain⟨W,eW⟩:∃ W,w5.alloc (.cells (zW k3 o3 ty3 n3 f3 x3 am3 ks3 cm3 p3) 48)=W:=⟨_,rfl⟩
   rw [eW] at hX HI7 HL7 hs6 hb6
   have c8:=two_any 17 t.p (Nd.mk ⟨k2,o2,ty2,n2,f2,x2,p2⟩ am2 cm2 ks2) (Nd.mk ⟨k3,o3,ty3,n3,f3,x3,p3⟩ am3 cm3 ks3) (P:=fun k=>w§ < k∧k < W§∧k≠N) HI7.out.L HL7.out HI7.out.J (HK3.out.mono fun q hq=>by omega) (fun q hq=>hq.2.1) (HLV.out.rg HK.out (by omega) (by omega))
   simp only [Nd.vals,Nd.h,Nd.a,Nd.c,Nd.ks,hdA] at c8
   have y0:W.cell? N¢0=some (zU k2):=Qa HI7.out.B 0
   have x0':W.cell? w5§¢0=some (zU k3):=Qa hX 0
   have y1:W.cell? N¢1=some (zU o2):=Qa HI7.out.B 1
   have x1':W.cell? w5§¢1=some (zU o3):=Qa hX 1
   have y2:W.cell? N¢2=some (zU ty2):=Qa HI7.out.B 2
   have x2':W.cell? w5§¢2=some (zU ty3):=Qa hX 2
   have y3:W.cell? N¢3=some (zI n2):=Qa HI7.out.B 3
   have x3':W.cell? w5§¢3=some (zI n3):=Qa hX 3
   have y4:W.cell? N¢4=some (zU f2):=Qa HI7.out.B 4
   have x4':W.cell? w5§¢4=some (zU f3):=Qa hX 4
   have y5:W.cell? N¢5=some (.string x2):=Qa HI7.out.B 5
   have x5':W.cell? w5§¢5=some (.string x3):=Qa hX 5
   have y6:W.cell? N¢6=some (.slice am2 ks2.length cm2):=Qa HI7.out.B 6
   have x6':W.cell? w5§¢6=some (.slice am3 ks3.length cm3):=Qa hX 6
   have y7:W.cell? N¢7=some (zI p2):=Qa HI7.out.B 7
   have x7':W.cell? w5§¢7=some (zI p3):=Qa hX 7
   have HSZ:Hid (W§=w5§+1):=hs6
   have HNW:Hid (N < W§):=(zJ HI7.out.B).1
   clear hX hs6 hb6 HL3 HL7 HI6
   go_wp2_with fail
   try rw [eW]
   clear eW
   refine c8.mono ?_
   rintro e w7 ⟨⟨⟨k4,o4,ty4,n4,f4,x4,p4⟩,am4,cm4,ks4⟩,rfl,et,hl8,hk8,hb8⟩
   try dsimp only
   have HI8:=(HI7.out.on hb8).hid
   have HET:Hid (Qh (Nd.mk ⟨k4,o4,ty4,n4,f4,x4,p4⟩ am4 cm4 ks4)=.mk ⟨6,17,0,0,0,gE,t.p⟩ [Qh (Nd.mk ⟨k2,o2,ty2,n2,f2,x2,p2⟩ am2 cm2 ks2),Qh (Nd.mk ⟨k3,o3,ty3,n3,f3,x3,p3⟩ am3 cm3 ks3)]):=et
   have HI9:=(HI8.out.put hl8 (hk8.mono fun q hq=>by have:=HNW.out; have:=HI8.out.n; have:=hb8.size; omega)).hid
   clear c8 et hl8 hk8 hb8 HI7 y0 x0' y1 x1' y2 x2' y3 x3' y4 x4' y5 x5' y6 x6' y7 x7'
   have y0:w7.cell? N¢0=some (zU k2):=Qa HI8.out.B 0
   have q0:w7.frozen? N¢0=false:=Qb HI8.out.B 0
   have y1:w7.cell? N¢1=some (zU o2):=Qa HI8.out.B 1
   have q1:w7.frozen? N¢1=false:=Qb HI8.out.B 1
   have y2:w7.cell? N¢2=some (zU ty2):=Qa HI8.out.B 2
   have q2:w7.frozen? N¢2=false:=Qb HI8.out.B 2
   have y3:w7.cell? N¢3=some (zI n2):=Qa HI8.out.B 3
   have q3:w7.frozen? N¢3=false:=Qb HI8.out.B 3
   have y4:w7.cell? N¢4=some (zU f2):=Qa HI8.out.B 4
   have q4:w7.frozen? N¢4=false:=Qb HI8.out.B 4
   have y5:w7.cell? N¢5=some (.string x2):=Qa HI8.out.B 5
   have q5:w7.frozen? N¢5=false:=Qb HI8.out.B 5
   have y6:w7.cell? N¢6=some (.slice am2 ks2.length cm2):=Qa HI8.out.B 6
   have q6:w7.frozen? N¢6=false:=Qb HI8.out.B 6
   have y7:w7.cell? N¢7=some (zI p2):=Qa HI8.out.B 7
   have q7:w7.frozen? N¢7=false:=Qb HI8.out.B 7
   have HV9:Hid (RInv andX part r0 (Qh (Nd.mk ⟨k4,o4,ty4,n4,f4,x4,p4⟩ am4 cm4 ks4)) (stOf (part ts))):=by
    rw [HET.out,← HOP.out]
    exact HV2.out.next HS.out (by rw [HOP.out]; omega) HT.out
   go_wp2_with fail
   exact⟨⟨_,_,HI9,HV9⟩,by
    have e1:=stOf_len HS.out HI9.out.S
    have e2:=HLV.out.msr
    simp only [List.length_cons] at e2
    omega⟩
theorem or_d (part:List Tk→Except Ft (Tr × List Tk)) (hS:Shr part) (hE:part []=.error .lex) {K:PK}(hK:KOk K) {b:Nat}{d:Int}(cP:∀ (w:yW) (st:St),Sp w b K st→Calls zG 125 #[zP b,zI d] w (OutD b K w (rd part st))) {w:yW}{st:St}(h:Sp w b K st) :
  Calls zG 88 #[zP b,zI d] w (OutD b K w (rd (gRow orX part 4096) st)):=by
 have hb0:=Qc w (.cells zNo 48)
 have cC:=cP _ _ (h.on hb0)
 have HLW:Hid (Lw w§ b K):=h.lw
 have HLN:Hid (∀ ts,st=.ok ts→ts.length≤4097):=fun ts e=>by
  subst e
  have:=h.2.len
  have:=hK.n
  omega
 have HS:Hid (Shr part):=hS
 have HE:Hid (part []=.error .lex):=hE
 have HK:Hid (KOk K):=hK
 have HP:Hid (∀ (w:yW) (st:St),Sp w b K st→Calls zG 125 #[zP b,zI d] w (OutD b K w (rd part st))):=cP
 obtain⟨r0,er0⟩:∃ r,rd (gRow orX part 4096) st=r:=⟨_,rfl⟩
 have HR0:Hid (rd (gRow orX part 4096) st=r0):=er0
 rw [er0]
 clear h hb0 hS hE hK cP er0
 go_enter Tryz.func88,Tryz.ntmps88
 go_wp2_with fail
 refine cC.mono ?_
 rintro e w1 ⟨m,rfl,hl,hk,hs,hm,ht⟩
 have HI:=(RS.start HLW.out hl hk hs hm).hid
 have HV:Hid (RInv orX part r0 (Qh m) (stOf (rd part st))):=by rw [← HR0.out]; exact RInv.start HS.out HLN.out ht
 clear cC hl hk hs hm ht HR0 HLN
 obtain⟨N,eN⟩:∃ N,w1§=N:=⟨_,rfl⟩
 rw [eN] at HI
 obtain⟨s0,es0⟩:∃ s0,stOf (rd part st)=s0:=⟨_,rfl⟩
 rw [es0] at HI HV
 clear es0
 obtain⟨⟨k1,o1,ty1,n1,f1,x1,p1⟩,am1,cm1,ks1⟩:=m
 simp only [Nd.vals,Nd.h,Nd.a,Nd.c,Nd.ks,hdA] at HI ⊢
 go_wp2_with fail
 try rw [eN]
 clear eN
 go_loopw [6,7,8] (fun _ _ _ wr=>∃ m s,Hid (RS w b K N wr m s)∧Hid (RInv orX part r0 (Qh m) s)) (fun _ _ _ wr=>msr b K wr)
 case atStart=>exact⟨_,_,HI,HV⟩
 case round =>
  obtain⟨m,s,HI2,HV2⟩:=hrel
  clear HI HV
  obtain⟨⟨k2,o2,ty2,n2,f2,x2,p2⟩,am2,cm2,ks2⟩:=m
  cases s with
  | error f =>
   have cA:=is_dead HI2.out.S Z04 (by decide)
   go_wp2_with fail
   refine cA.mono ?_
   rintro e w2 ⟨rfl,hb2⟩
   have HI3:=(HI2.out.on hb2).hid
   clear cA hb2 HI2
   have y0:w2.cell? N¢0=some (zU k2):=Qa HI3.out.B 0
   have z0:w2.cell? w§¢0=some (zU 0):=Qa HI3.out.Z 0
   have q0:w2.frozen? w§¢0=false:=Qb HI3.out.Z 0
   have y1:w2.cell? N¢1=some (zU o2):=Qa HI3.out.B 1
   have z1:w2.cell? w§¢1=some (zU 0):=Qa HI3.out.Z 1
   have q1:w2.frozen? w§¢1=false:=Qb HI3.out.Z 1
   have y2:w2.cell? N¢2=some (zU ty2):=Qa HI3.out.B 2
   have z2:w2.cell? w§¢2=some (zU 0):=Qa HI3.out.Z 2
   have q2:w2.frozen? w§¢2=false:=Qb HI3.out.Z 2
   have y3:w2.cell? N¢3=some (zI n2):=Qa HI3.out.B 3
   have z3:w2.cell? w§¢3=some (zI 0):=Qa HI3.out.Z 3
   have q3:w2.frozen? w§¢3=false:=Qb HI3.out.Z 3
   have y4:w2.cell? N¢4=some (zU f2):=Qa HI3.out.B 4
   have z4:w2.cell? w§¢4=some (zU 0):=Qa HI3.out.Z 4
   have q4:w2.frozen? w§¢4=false:=Qb HI3.out.Z 4
   have y5:w2.cell? N¢5=some (.string x2):=Qa HI3.out.B 5
   have z5:w2.cell? w§¢5=some (yQ):=Qa HI3.out.Z 5
   have q5:w2.frozen? w§¢5=false:=Qb HI3.out.Z 5
   have y6:w2.cell? N¢6=some (.slice am2 ks2.length cm2):=Qa HI3.out.B 6
   have z6:w2.cell? w§¢6=some (.slice none 0 0):=Qa HI3.out.Z 6
   have q6:w2.frozen? w§¢6=false:=Qb HI3.out.Z 6
   have y7:w2.cell? N¢7=some (zI p2):=Qa HI3.out.B 7
   have z7:w2.cell? w§¢7=some (zI 0):=Qa HI3.out.Z 7
   have q7:w2.frozen? w§¢7=false:=Qb HI3.out.Z 7
   obtain⟨Y,eY,hY1,hY2,hY3,hY4,hY5⟩:=HI3.out.fin
   have HEY:Hid (_=Y):=eY
   have HY1:Hid (Y.heap[w§]? = (zC (Nd.mk ⟨k2,o2,ty2,n2,f2,x2,p2⟩ am2 cm2 ks2).vals 48)):=hY1
   have HYY:Hid (Lies Y (Nd.mk ⟨k2,o2,ty2,n2,f2,x2,p2⟩ am2 cm2 ks2)∧Bkn (fun k=>w§≤k∧k < Y§) (Nd.mk ⟨k2,o2,ty2,n2,f2,x2,p2⟩ am2 cm2 ks2)∧Sp Y b K (.error f)∧Mv w Y (fun k=>k=b)):=⟨hY2,hY3,hY4,hY5⟩
   clear eY hY1 hY2 hY3 hY4 hY5
   go_wp2_with fail
   rw [HEY.out]
   refine bodyPost_ret (results_cell_row rfl _ _ w§ 48 (Nd.mk ⟨k2,o2,ty2,n2,f2,x2,p2⟩ am2 cm2 ks2).vals (0,0) _ rfl HY1.out Tryz.underlying48 rfl zK) rfl ⟨_,rfl,HYY.out.1,HYY.out.2.1,?_,HYY.out.2.2.2,?_⟩
   ·rw [HV2.out]; exact HYY.out.2.2.1
   ·rw [HV2.out]; exact fun q e=>by cases e
  | ok ts =>
   obtain⟨hne,hlv⟩:=HI2.out.S
   match ts,hne with
   | t :: ts,_ =>
   have HLV:=Lv.hid hlv
   clear hlv hne
   have cA:=Jo HLV.out Z04 ((HLV.out.ok HK.out).kw (.inr (by simp [kwM])))
   by_cases hv:t.x=Z04
   rotate_left
   ·rw [decide_eq_false hv] at cA
    have HOP:Hid (orX t.x=0):=if_neg hv
    clear hv
    go_wp2_with fail
    refine cA.mono ?_
    rintro e w2 ⟨rfl,hb2⟩
    have HI3:=(HI2.out.on hb2).hid
    clear cA hb2 HI2
    have y0:w2.cell? N¢0=some (zU k2):=Qa HI3.out.B 0
    have z0:w2.cell? w§¢0=some (zU 0):=Qa HI3.out.Z 0
    have q0:w2.frozen? w§¢0=false:=Qb HI3.out.Z 0
    have y1:w2.cell? N¢1=some (zU o2):=Qa HI3.out.B 1
    have z1:w2.cell? w§¢1=some (zU 0):=Qa HI3.out.Z 1
    have q1:w2.frozen? w§¢1=false:=Qb HI3.out.Z 1
    have y2:w2.cell? N¢2=some (zU ty2):=Qa HI3.out.B 2
    have z2:w2.cell? w§¢2=some (zU 0):=Qa HI3.out.Z 2
    have q2:w2.frozen? w§¢2=false:=Qb HI3.out.Z 2
    have y3:w2.cell? N¢3=some (zI n2):=Qa HI3.out.B 3
    have z3:w2.cell? w§¢3=some (zI 0):=Qa HI3.out.Z 3
    have q3:w2.frozen? w§¢3=false:=Qb HI3.out.Z 3
    have y4:w2.cell? N¢4=some (zU f2):=Qa HI3.out.B 4
    have z4:w2.cell? w§¢4=some (zU 0):=Qa HI3.out.Z 4
    have q4:w2.frozen? w§¢4=false:=Qb HI3.out.Z 4
    have y5:w2.cell? N¢5=some (.string x2):=Qa HI3.out.B 5
    have z5:w2.cell? w§¢5=some (yQ):=Qa HI3.out.Z 5
    have q5:w2.frozen? w§¢5=false:=Qb HI3.out.Z 5
    have y6:w2.cell? N¢6=some (.slice am2 ks2.length cm2):=Qa HI3.out.B 6
    have z6:w2.cell? w§¢6=some (.slice none 0 0):=Qa HI3.out.Z 6
    have q6:w2.frozen? w§¢6=false:=Qb HI3.out.Z 6
    have y7:w2.cell? N¢7=some (zI p2):=Qa HI3.out.B 7
    have z7:w2.cell? w§¢7=some (zI 0):=Qa HI3.out.Z 7
    have q7:w2.frozen? w§¢7=false:=Qb HI3.out.Z 7
    obtain⟨Y,eY,hY1,hY2,hY3,hY4,hY5⟩:=HI3.out.fin
    have HEY:Hid (_=Y):=eY
    have HY1:Hid (Y.heap[w§]? = (zC (Nd.mk ⟨k2,o2,ty2,n2,f2,x2,p2⟩ am2 cm2 ks2).vals 48)):=hY1
    have HYY:Hid (Lies Y (Nd.mk ⟨k2,o2,ty2,n2,f2,x2,p2⟩ am2 cm2 ks2)∧Bkn (fun k=>w§≤k∧k < Y§) (Nd.mk ⟨k2,o2,ty2,n2,f2,x2,p2⟩ am2 cm2 ks2)∧Sp Y b K (.ok (t :: ts))∧Mv w Y (fun k=>k=b)):=⟨hY2,hY3,hY4,hY5⟩
    clear eY hY1 hY2 hY3 hY4 hY5
    go_wp2_with fail
    rw [HEY.out]
    refine bodyPost_ret (results_cell_row rfl _ _ w§ 48 (Nd.mk ⟨k2,o2,ty2,n2,f2,x2,p2⟩ am2 cm2 ks2).vals (0,0) _ rfl HY1.out Tryz.underlying48 rfl zK) rfl ⟨_,rfl,HYY.out.1,HYY.out.2.1,?_,HYY.out.2.2.2,?_⟩
    ·rw [HV2.out.done HOP.out]; exact HYY.out.2.2.1
    ·rw [HV2.out.done HOP.out]; exact fun q e=>by cases e; rfl
   rw [decide_eq_true hv] at cA
   have HOP:Hid (orX t.x=18):=if_pos hv
   clear hv
   go_wp2_with fail
   refine cA.mono ?_
   rintro e w2 ⟨rfl,hb2⟩
   have HI3:=(HI2.out.on hb2).hid
   have HLV3:=(HLV.out.on hb2).hid
   clear cA hb2
   have cN:=Qt HLV3.out
   have hf:=fun v=>QF t v
   go_wp2_with fail
   refine cN.mono ?_
   rintro e w3 ⟨rfl,hb3⟩
   have HI4:=(HI3.out.on hb3).hid
   obtain⟨i,c3,f3,hmx,hL,hM,_,_⟩:=(HLV3.out.on hb3).at'
   obtain⟨V,eV⟩:∃ V,w3.setCell b¢3 (zI ((i:Int)+1))=V:=⟨_,rfl⟩
   rw [eV] at hL hM
   have HI5:=(HI4.out.mv hM hL.sp).hid
   have cQ:=HP.out V (nf ts) hL.sp
   rw [Kq HE.out] at cQ
   clear cN hb3 HI3 HI4 hL hM
   go_wp2_with fail
   try rw [eV]
   clear eV c3 f3 hmx
   refine cQ.mono ?_
   rintro e w5 ⟨⟨⟨k3,o3,ty3,n3,f3,x3,p3⟩,am3,cm3,ks3⟩,rfl,hl,hk,hs,hm,ht⟩
   have HI6:=(HI5.out.mv hm hs).hid
   have HT:Hid (∀ q,part ts=.ok q→Qh (Nd.mk ⟨k3,o3,ty3,n3,f3,x3,p3⟩ am3 cm3 ks3)=q.1):=ht
   have hVs:=HI5.out.M.size
   have HL3:=hl.hid
   have hNV:N < V§:=(zJ HI5.out.B).1
   have HK3:Hid (Bkn (fun k=>w§ < k∧k < w5§∧k≠N) (Nd.mk ⟨k3,o3,ty3,n3,f3,x3,p3⟩ am3 cm3 ks3)):=hk.mono fun q hq=>by have:=HI5.out.n; omega
   clear cQ hl hk hs hm ht hVs HI5
   simp only [Nd.vals,Nd.h,Nd.a,Nd.c,Nd.ks,hdA]
   have hb6:=Qc w5 (.cells (zW k3 o3 ty3 n3 f3 x3 am3 ks3 cm3 p3) 48)
   have hX:=Qd w5 (.cells (zW k3 o3 ty3 n3 f3 x3 am3 ks3 cm3 p3) 48)
   have HI7:=(HI6.out.on hb6).hid
   have HL7:=(HL3.out.on hb6).hid
   have hs6:=Qf w5 (.cells (zW k3 o3 ty3 n3 f3 x3 am3 ks3 cm3 p3) 48)
   obtain⟨W,eW⟩:∃ W,w5.alloc (.cells (zW k3 o3 ty3 n3 f3 x3 am3 ks3 cm3 p3) 48)=W:=⟨_,rfl⟩
   rw [eW] at hX HI7 HL7 hs6 hb6
   have c8:=two_any 18 t.p (Nd.mk ⟨k2,o2,ty2,n2,f2,x2,p2⟩ am2 cm2 ks2) (Nd.mk ⟨k3,o3,ty3,n3,f3,x3,p3⟩ am3 cm3 ks3) (P:=fun k=>w§ < k∧k < W§∧k≠N) HI7.out.L HL7.out HI7.out.J (HK3.out.mono fun q hq=>by omega) (fun q hq=>hq.2.1) (HLV.out.rg HK.out (by omega) (by omega))
   simp only [Nd.vals,Nd.h,Nd.a,Nd.c,Nd.ks,hdA] at c8
   have y0:W.cell? N¢0=some (zU k2):=Qa HI7.out.B 0
   have x0':W.cell? w5§¢0=some (zU k3):=Qa hX 0
   have y1:W.cell? N¢1=some (zU o2):=Qa HI7.out.B 1
   have x1':W.cell? w5§¢1=some (zU o3):=Qa hX 1
   have y2:W.cell? N¢2=some (zU ty2):=Qa HI7.out.B 2
   have x2':W.cell? w5§¢2=some (zU ty3):=Qa hX 2
   have y3:W.cell? N¢3=some (zI n2):=Qa HI7.out.B 3
   have x3':W.cell? w5§¢3=some (zI n3):=Qa hX 3
   have y4:W.cell? N¢4=some (zU f2):=Qa HI7.out.B 4
   have x4':W.cell? w5§¢4=some (zU f3):=Qa hX 4
   have y5:W.cell? N¢5=some (.string x2):=Qa HI7.out.B 5
   have x5':W.cell? w5§¢5=some (.string x3):=Qa hX 5
   have y6:W.cell? N¢6=some (.slice am2 ks2.length cm2):=Qa HI7.out.B 6
   have x6':W.cell? w5§¢6=some (.slice am3 ks3.length cm3):=Qa hX 6
   have y7:W.cell? N¢7=some (zI p2):=Qa HI7.out.B 7
   have x7':W.cell? w5§¢7=some (zI p3):=Qa hX 7
   have HSZ:Hid (W§=w5§+1):=hs6
   have HNW:Hid (N < W§):=(zJ HI7.out.B).1
   clear hX hs6 hb6 HL3 HL7 HI6
   go_wp2_with fail
   try rw [eW]
   clear eW
   refine c8.mono ?_
   rintro e w7 ⟨⟨⟨k4,o4,ty4,n4,f4,x4,p4⟩,am4,cm4,ks4⟩,rfl,et,hl8,hk8,hb8⟩
   try dsimp only
   have HI8:=(HI7.out.on hb8).hid
   have HET:Hid (Qh (Nd.mk ⟨k4,o4,ty4,n4,f4,x4,p4⟩ am4 cm4 ks4)=.mk ⟨6,18,0,0,0,gE,t.p⟩ [Qh (Nd.mk ⟨k2,o2,ty2,n2,f2,x2,p2⟩ am2 cm2 ks2),Qh (Nd.mk ⟨k3,o3,ty3,n3,f3,x3,p3⟩ am3 cm3 ks3)]):=et
   have HI9:=(HI8.out.put hl8 (hk8.mono fun q hq=>by have:=HNW.out; have:=HI8.out.n; have:=hb8.size; omega)).hid
   clear c8 et hl8 hk8 hb8 HI7 y0 x0' y1 x1' y2 x2' y3 x3' y4 x4' y5 x5' y6 x6' y7 x7'
   have y0:w7.cell? N¢0=some (zU k2):=Qa HI8.out.B 0
   have q0:w7.frozen? N¢0=false:=Qb HI8.out.B 0
   have y1:w7.cell? N¢1=some (zU o2):=Qa HI8.out.B 1
   have q1:w7.frozen? N¢1=false:=Qb HI8.out.B 1
   have y2:w7.cell? N¢2=some (zU ty2):=Qa HI8.out.B 2
   have q2:w7.frozen? N¢2=false:=Qb HI8.out.B 2
   have y3:w7.cell? N¢3=some (zI n2):=Qa HI8.out.B 3
   have q3:w7.frozen? N¢3=false:=Qb HI8.out.B 3
   have y4:w7.cell? N¢4=some (zU f2):=Qa HI8.out.B 4
   have q4:w7.frozen? N¢4=false:=Qb HI8.out.B 4
   have y5:w7.cell? N¢5=some (.string x2):=Qa HI8.out.B 5
   have q5:w7.frozen? N¢5=false:=Qb HI8.out.B 5
   have y6:w7.cell? N¢6=some (.slice am2 ks2.length cm2):=Qa HI8.out.B 6
   have q6:w7.frozen? N¢6=false:=Qb HI8.out.B 6
   have y7:w7.cell? N¢7=some (zI p2):=Qa HI8.out.B 7
   have q7:w7.frozen? N¢7=false:=Qb HI8.out.B 7
   have HV9:Hid (RInv orX part r0 (Qh (Nd.mk ⟨k4,o4,ty4,n4,f4,x4,p4⟩ am4 cm4 ks4)) (stOf (part ts))):=by
    rw [HET.out,← HOP.out]
    exact HV2.out.next HS.out (by rw [HOP.out]; omega) HT.out
   go_wp2_with fail
   exact⟨⟨_,_,HI9,HV9⟩,by
    have e1:=stOf_len HS.out HI9.out.S
    have e2:=HLV.out.msr
    simp only [List.length_cons] at e2
    omega⟩
end Go.Proofs.YtoogodlnnijikaaGreatDoor
