import Derived.Test.YtoogodlnnijikaaGreatDoorA0
import Derived.Test.YtoogodlnnijikaaGreatDoorA13
import Derived.Test.YtoogodlnnijikaaGreatDoorA2
namespace Go.Proofs.YtoogodlnnijikaaGreatDoor
set_option maxHeartbeats 4000000
set_option maxRecDepth 100000
open Go.RowKit
set_option linter.unusedVariables false
theorem rg0:Rg ⟨0,0,0,0,0,gE,0⟩:=by constructor <;> first | omega | decide
theorem RZ.finz {w:yW}{b:Nat}{K:PK}{R:Nat}{W:yW}{s:St}(h:RZ w b K R W s) :
  ∃ Y,((((((((W.setCell R¢0 (zU 0)).setCell R¢1 (zU 0)).setCell R¢2 (zU 0)).setCell R¢3 (zI 0)).setCell R¢4 (zU 0)).setCell R¢5 (yQ)).setCell R¢6 (.slice none 0 0)).setCell R¢7 (zI 0))=Y∧Y.heap[R]? = (zC nd0.vals 48)∧Lies Y nd0∧Bkn (fun k=>w§≤k∧k < Y§) nd0∧Sp Y b K s∧Mv w Y (fun k=>k=b):=by
 obtain⟨Y,eY,hY1,hY2,hY3,hY4⟩:=fin8 h.Z (zU 0) (zU 0) (zU 0) (zI 0) (zU 0) (yQ) (.slice none 0 0) (zI 0)
 have hr:=h.r
 exact⟨Y,eY,hY1,lies0 _ rg0,bkn0 _ _,h.S.off h.W (fun k hk=>hY3 k (by omega)),hY4 _ _ h.M h.r⟩
theorem QX.new {w:yW}{b:Nat}{K:PK}{R:Nat}{V:yW}{s:St}(x:RZ w b K R V s) (h:Hd):QX w b K R (V.alloc (.cells #[zU h.k,zU h.o,zU h.t,zI h.n,zU h.f,.string h.x,.slice none 0 0,zI h.p] 48)) V§ (.slice none 0 0) [] h s:=by
 have hb:=Qc V (.cells #[zU h.k,zU h.o,zU h.t,zI h.n,zU h.f,.string h.x,.slice none 0 0,zI h.p] 48)
 have hz:=(zJ x.Z).1
 exact⟨x.on hb,Qd _ _,x.M.size,by omega,Row.nil _ _ _ _,fun k h=>by simp [Value.ownBlock] at h,fun m hm=>by simp at hm⟩
theorem list_rowN {w0:yW}{ops:Array Oper}{rest:List Oper}{o:Oper}{a:Act}{Q:Exit→Act→yW→Prop}(hgd:o.guard=none) (d x:Operand)
  (ho:o.op=.call { callee:=.builtin .append,args:=#[d,x],argTypes:=#[46,46] }) (y:Nd) {v:Value}{L:List Nd}(hR:RowN w0 v L) (hs:a.eval d=v) (hx:a.eval x=.slice (some w0§¢0) 1 1) (hlen:L.length≤1000000000) (n:Nat) (hn:L.length+1=n)
  (h:∀ g cap w',RowN w' (.slice (some g¢0) n cap) (L ++ [y])→(w0.alloc (.cells y.vals 48)).grownBy w' v.ownBlock→(v.ownBlock=some g∨w0§ < g)→wpList Tryz.prog ops Q rest (a.put o.dst (.slice (some g¢0) n cap)) w') :
  wpList Tryz.prog ops Q (o :: rest) a (w0.alloc (.cells y.vals 48)):=by
 subst hn
 exact list_row hgd d x ho y hR hs hx hlen h
theorem QX.appN {w:yW}{b:Nat}{K:PK}{R:Nat}{V:yW}{Nb:Nat}{v:Value}{L M:List Nd}{h:Hd}{s:St}{w':yW}{y:Nd}{g cap n:Nat}(hn:L.length+1=n) (hM:L ++ [y]=M) (q:QX w b K R V Nb v L h s) (hl:Lies V y) (hk:Bkn (fun k=>w§≤k∧k < V§∧k≠Nb∧k≠R∧v.ownBlock≠some k) y)
  (hr:RowN w' (.slice (some g¢0) n cap) (L ++ [y])) (h3:(V.alloc (.cells y.vals 48)).grownBy w' v.ownBlock) (h4:v.ownBlock=some g∨V§ < g) :
  w'.heap[Nb]? = V.heap[Nb]?∧QX w b K R (w'.setCell Nb¢6 (.slice (some g¢0) n cap)) Nb (.slice (some g¢0) n cap) M h s:=by
 subst hn hM
 exact q.app hl hk hr h3 h4
theorem gUn_err (ex un:List Tk→Except Ft (Tr × List Tk)) (d:Nat) (t:Tk) (ts:List Tk) (h:unX t.x≠0) (hd:¬ d < 24):gUn ex un d (t :: ts)=.error (.tok 132 t.p):=by
 rw [gUn_s,if_neg h]
 simp [gOpn,JD,Jc,hd,bind,Except.bind]
theorem gUn_ok (ex un:List Tk→Except Ft (Tr × List Tk)) (d:Nat) (t:Tk) (ts:List Tk) (h:unX t.x≠0) (hd:d < 24):gUn ex un d (t :: ts)=match un ts with | .error e=>.error e | .ok q=>.ok (.mk ⟨5,unX t.x,0,0,0,gE,t.p⟩ [q.1],q.2):=by
 rw [gUn_s,if_neg h]
 simp only [gOpn,JD,JW,hd,decide_true,if_true,bind,Except.bind]
 cases un ts <;> rfl
theorem Lv.rgk {w:yW}{b:Nat}{K:PK}{t:Tk}{ts:List Tk}(h:Lv w b K (t :: ts)) (hK:KOk K) {k o y:Int}(k0:0≤k) (k1:k≤255) (h0:0≤o) (h1:o≤255) (y0:0≤y) (y1:y≤255):Rg ⟨k,o,y,0,0,gE,t.p⟩:=by
 have:=(h.ok hK).r
 have:=this.p0
 have:=(h.ok hK).r.p1
 constructor <;> first | omega | (show (0:Nat)≤_; omega) | (simp only; omega) | simp
theorem unary_d (ex un:List Tk→Except Ft (Tr × List Tk)) (hE:un []=.error .lex) {K:PK}(hK:KOk K) {b:Nat}{d:Nat}(hd:d≤24) (cO:∀ (w:yW) (st:St),Sp w b K st→Calls zG 195 #[zP b,zI d] w (OutD b K w (rd (gOne ex d) st)))
  (cU:d < 24→∀ (w:yW) (st:St),Sp w b K st→Calls zG 192 #[zP b,zI ((d:Int)+1)] w (OutD b K w (rd un st))) {w:yW}{st:St}(h:Sp w b K st) :
  Calls zG 192 #[zP b,zI d] w (OutD b K w (rd (gUn ex un d) st)):=by
 have HZ:=(RZ.new h).hid
 have HE:Hid (un []=.error .lex):=hE
 have HK:Hid (KOk K):=hK
 have HO:Hid (∀ (w:yW) (st:St),Sp w b K st→Calls zG 195 #[zP b,zI d] w (OutD b K w (rd (gOne ex d) st))):=cO
 have HU:Hid (d < 24→∀ (w:yW) (st:St),Sp w b K st→Calls zG 192 #[zP b,zI ((d:Int)+1)] w (OutD b K w (rd un st))):=cU
 have hS0:=h
 clear h hE hK cO cU
 obtain⟨W0,eW0⟩:∃ W,w.alloc (.cells zNo 48)=W:=⟨_,rfl⟩
 rw [eW0] at HZ
 cases st with
 | error f =>
  clear hS0
  have HW:Hid (yD W0 (W0.alloc (.cells yb 9))):=Qc _ _
  have hSL:SLs (W0.alloc (.cells yb 9)) W0§ [Zm,ZA]:=fun j hj=>by
   have hh:=Qd W0 (.cells yb 9)
   match j,hj with
   | 0,_=>exact Qa hh 0
   | 1,_=>exact Qa hh 1
  have cA:=Jw (Dd.on HZ.out.S HW.out) (n:=2) (c:=2) hSL rfl (by omega) (by intro x hx; simp only [List.mem_cons,List.not_mem_nil,or_false] at hx; rcases hx with rfl | rfl <;> decide)
  clear hSL
  go_enter Tryz.func192,Tryz.ntmps192
  go_wp2_with fail
  try rw [eW0]
  refine cA.mono ?_
  rintro e w2 ⟨rfl,hb2⟩
  have HZ2:=((HZ.out.on HW.out).on hb2).hid
  have cB:=HO.out w2 (.error f) HZ2.out.S
  clear cA hb2 HW HZ
  go_wp2_with fail
  refine cB.mono ?_
  rintro e w3 ⟨⟨⟨k2,o2,ty2,n2,f2,x2,p2⟩,am2,cm2,ks2⟩,rfl,hl,hk,hs,hm,ht⟩
  simp only [Nd.vals,Nd.h,Nd.a,Nd.c,Nd.ks,hdA]
  have HZ3:=(HZ2.out.mv hm hs).hid
  have HL:=hl.hid
  have hRs:w§ < w2§:=(zJ HZ2.out.Z).1
  have HKK:Hid (Bkn (fun k=>w§≤k∧k < w3§∧k≠w§) (Nd.mk ⟨k2,o2,ty2,n2,f2,x2,p2⟩ am2 cm2 ks2)):=hk.mono fun j hj=>by omega
  have HT:Hid (∀ q,rd (gOne ex d) (.error f)=.ok q→Qh (Nd.mk ⟨k2,o2,ty2,n2,f2,x2,p2⟩ am2 cm2 ks2)=q.1):=ht
  clear cB hl hk hs hm ht
  have z0:w3.cell? w§¢0=some (zU 0):=Qa HZ3.out.Z 0
  have q0:w3.frozen? w§¢0=false:=Qb HZ3.out.Z 0
  have z1:w3.cell? w§¢1=some (zU 0):=Qa HZ3.out.Z 1
  have q1:w3.frozen? w§¢1=false:=Qb HZ3.out.Z 1
  have z2:w3.cell? w§¢2=some (zU 0):=Qa HZ3.out.Z 2
  have q2:w3.frozen? w§¢2=false:=Qb HZ3.out.Z 2
  have z3:w3.cell? w§¢3=some (zI 0):=Qa HZ3.out.Z 3
  have q3:w3.frozen? w§¢3=false:=Qb HZ3.out.Z 3
  have z4:w3.cell? w§¢4=some (zU 0):=Qa HZ3.out.Z 4
  have q4:w3.frozen? w§¢4=false:=Qb HZ3.out.Z 4
  have z5:w3.cell? w§¢5=some (yQ):=Qa HZ3.out.Z 5
  have q5:w3.frozen? w§¢5=false:=Qb HZ3.out.Z 5
  have z6:w3.cell? w§¢6=some (.slice none 0 0):=Qa HZ3.out.Z 6
  have q6:w3.frozen? w§¢6=false:=Qb HZ3.out.Z 6
  have z7:w3.cell? w§¢7=some (zI 0):=Qa HZ3.out.Z 7
  have q7:w3.frozen? w§¢7=false:=Qb HZ3.out.Z 7
  obtain⟨Y,eY,hY1,hY2,hY3,hY4,hY5⟩:=HZ3.out.fin HL.out HKK.out
  have HEY:Hid (_=Y):=eY
  have HY1:Hid (Y.heap[w§]? = (zC (Nd.mk ⟨k2,o2,ty2,n2,f2,x2,p2⟩ am2 cm2 ks2).vals 48)):=hY1
  have HYY:Hid (Lies Y (Nd.mk ⟨k2,o2,ty2,n2,f2,x2,p2⟩ am2 cm2 ks2)∧Bkn (fun k=>w§≤k∧k < Y§) (Nd.mk ⟨k2,o2,ty2,n2,f2,x2,p2⟩ am2 cm2 ks2)∧Sp Y b K (stOf (rd (gOne ex d) (.error f)))∧Mv w Y (fun k=>k=b)):=⟨hY2,hY3,hY4,hY5⟩
  clear eY hY1 hY2 hY3 hY4 hY5
  go_wp2_with fail
  rw [HEY.out]
  refine bodyPost_ret (results_cell_row rfl _ _ w§ 48 (Nd.mk ⟨k2,o2,ty2,n2,f2,x2,p2⟩ am2 cm2 ks2).vals (0,0) _ rfl HY1.out Tryz.underlying48 rfl zK) rfl ⟨_,rfl,HYY.out.1,HYY.out.2.1,?_,HYY.out.2.2.2,?_⟩
  ·exact HYY.out.2.2.1
  ·exact HT.out
 | ok ts =>
  obtain⟨hne,hlv⟩:=hS0
  match ts,hne with
  | t :: ts,_ =>
  have HLV0:=Lv.hid HZ.out.S.2
  clear hlv hne
  have HRG:=HLV0.out
  have HW:Hid (yD W0 (W0.alloc (.cells yb 9))):=Qc _ _
  have hSL:SLs (W0.alloc (.cells yb 9)) W0§ [Zm,ZA]:=fun j hj=>by
   have hh:=Qd W0 (.cells yb 9)
   match j,hj with
   | 0,_=>exact Qa hh 0
   | 1,_=>exact Qa hh 1
  have cA:=Qv ((HLV0.out).on HW.out) (n:=2) (c:=2) hSL rfl (by omega) (fun x hx=>((HLV0.out).ok HK.out).kw (.inr (by simp only [List.mem_cons,List.not_mem_nil,or_false] at hx; rcases hx with rfl | rfl <;> simp [kwM])))
  clear hSL
  have hop:=unX_op t.x
  have hrg:=Jt t.x [Zm,ZA] 0
  obtain⟨v,ev⟩:∃ v,fnd t.x [Zm,ZA] 0=v:=⟨_,rfl⟩
  rw [ev] at cA hrg
  unfold opF at hop
  rw [ev] at hop
  have hv1:-1≤v:=hrg.1
  have hv2:v < 2:=hrg.2
  clear ev hrg
  by_cases hv:v = -1
  ·subst hv
   have HOP:Hid (unX t.x=0):=hop
   have HG:Hid (rd (gUn ex un d) (.ok (t :: ts))=rd (gOne ex d) (.ok (t :: ts))):=by
    show gUn ex un d (t :: ts)=gOne ex d (t :: ts)
    rw [gUn_s,if_pos HOP.out]
   rw [HG.out]
   clear hop hv1 hv2 HG HRG
   go_enter Tryz.func192,Tryz.ntmps192
   go_wp2_with fail
   try rw [eW0]
   refine cA.mono ?_
   rintro e w2 ⟨rfl,hb2⟩
   have HZ2:=((HZ.out.on HW.out).on hb2).hid
   have cB:=HO.out w2 (.ok (t :: ts)) HZ2.out.S
   clear cA hb2 HW HZ
   go_wp2_with fail
   refine cB.mono ?_
   rintro e w3 ⟨⟨⟨k2,o2,ty2,n2,f2,x2,p2⟩,am2,cm2,ks2⟩,rfl,hl,hk,hs,hm,ht⟩
   simp only [Nd.vals,Nd.h,Nd.a,Nd.c,Nd.ks,hdA]
   have HZ3:=(HZ2.out.mv hm hs).hid
   have HL:=hl.hid
   have hRs:w§ < w2§:=(zJ HZ2.out.Z).1
   have HKK:Hid (Bkn (fun k=>w§≤k∧k < w3§∧k≠w§) (Nd.mk ⟨k2,o2,ty2,n2,f2,x2,p2⟩ am2 cm2 ks2)):=hk.mono fun j hj=>by omega
   have HT:Hid (∀ q,rd (gOne ex d) (.ok (t :: ts))=.ok q→Qh (Nd.mk ⟨k2,o2,ty2,n2,f2,x2,p2⟩ am2 cm2 ks2)=q.1):=ht
   clear cB hl hk hs hm ht
   have z0:w3.cell? w§¢0=some (zU 0):=Qa HZ3.out.Z 0
   have q0:w3.frozen? w§¢0=false:=Qb HZ3.out.Z 0
   have z1:w3.cell? w§¢1=some (zU 0):=Qa HZ3.out.Z 1
   have q1:w3.frozen? w§¢1=false:=Qb HZ3.out.Z 1
   have z2:w3.cell? w§¢2=some (zU 0):=Qa HZ3.out.Z 2
   have q2:w3.frozen? w§¢2=false:=Qb HZ3.out.Z 2
   have z3:w3.cell? w§¢3=some (zI 0):=Qa HZ3.out.Z 3
   have q3:w3.frozen? w§¢3=false:=Qb HZ3.out.Z 3
   have z4:w3.cell? w§¢4=some (zU 0):=Qa HZ3.out.Z 4
   have q4:w3.frozen? w§¢4=false:=Qb HZ3.out.Z 4
   have z5:w3.cell? w§¢5=some (yQ):=Qa HZ3.out.Z 5
   have q5:w3.frozen? w§¢5=false:=Qb HZ3.out.Z 5
   have z6:w3.cell? w§¢6=some (.slice none 0 0):=Qa HZ3.out.Z 6
   have q6:w3.frozen? w§¢6=false:=Qb HZ3.out.Z 6
   have z7:w3.cell? w§¢7=some (zI 0):=Qa HZ3.out.Z 7
   have q7:w3.frozen? w§¢7=false:=Qb HZ3.out.Z 7
   obtain⟨Y,eY,hY1,hY2,hY3,hY4,hY5⟩:=HZ3.out.fin HL.out HKK.out
   have HEY:Hid (_=Y):=eY
   have HY1:Hid (Y.heap[w§]? = (zC (Nd.mk ⟨k2,o2,ty2,n2,f2,x2,p2⟩ am2 cm2 ks2).vals 48)):=hY1
   have HYY:Hid (Lies Y (Nd.mk ⟨k2,o2,ty2,n2,f2,x2,p2⟩ am2 cm2 ks2)∧Bkn (fun k=>w§≤k∧k < Y§) (Nd.mk ⟨k2,o2,ty2,n2,f2,x2,p2⟩ am2 cm2 ks2)∧Sp Y b K (stOf (rd (gOne ex d) (.ok (t :: ts))))∧Mv w Y (fun k=>k=b)):=⟨hY2,hY3,hY4,hY5⟩
   clear eY hY1 hY2 hY3 hY4 hY5
   go_wp2_with fail
   rw [HEY.out]
   refine bodyPost_ret (results_cell_row rfl _ _ w§ 48 (Nd.mk ⟨k2,o2,ty2,n2,f2,x2,p2⟩ am2 cm2 ks2).vals (0,0) _ rfl HY1.out Tryz.underlying48 rfl zK) rfl ⟨_,rfl,HYY.out.1,HYY.out.2.1,?_,HYY.out.2.2.2,?_⟩
   ·exact HYY.out.2.2.1
   ·exact HT.out
  have hv0:¬ v < 0:=by omega
  have hv3:decide (v < 0)=false:=decide_eq_false hv0
  rw [if_neg hv0] at hop
  have HOP:Hid (unX t.x=1+v):=hop
  have HNE:Hid (unX t.x≠0):=by show unX t.x≠0; rw [hop]; omega
  have hv5:0≤v:=by omega
  clear hop hv hv1
  by_cases hdd:d < 24
  rotate_left
  ·have HG:Hid (rd (gUn ex un d) (.ok (t :: ts))=.error (.tok 132 t.p)):=gUn_err ex un d t ts HNE.out hdd
   rw [HG.out]
   have cD0:=fun v (h:Lv v b K (t :: ts))=>KH h d hdd (by omega)
   have HD0:Hid (∀ v,Lv v b K (t :: ts)→_):=cD0
   clear HG HRG hdd cD0
   go_enter Tryz.func192,Tryz.ntmps192
   go_wp2_with fail
   try rw [eW0]
   refine cA.mono ?_
   rintro e w2 ⟨rfl,hb2⟩
   have HZ2:=((HZ.out.on HW.out).on hb2).hid
   have cD:=HD0.out w2 HZ2.out.S.2
   clear cA hb2 HW HZ HD0
   go_wp2_with fail
   refine cD.mono ?_
   rintro e w3 ⟨rfl,hs,hm⟩
   have HZ3:=(HZ2.out.mv (s':=.error (.tok 132 t.p)) hm hs).hid
   clear cD hs hm HZ2
   have z0:w3.cell? w§¢0=some (zU 0):=Qa HZ3.out.Z 0
   have q0:w3.frozen? w§¢0=false:=Qb HZ3.out.Z 0
   have z1:w3.cell? w§¢1=some (zU 0):=Qa HZ3.out.Z 1
   have q1:w3.frozen? w§¢1=false:=Qb HZ3.out.Z 1
   have z2:w3.cell? w§¢2=some (zU 0):=Qa HZ3.out.Z 2
   have q2:w3.frozen? w§¢2=false:=Qb HZ3.out.Z 2
   have z3:w3.cell? w§¢3=some (zI 0):=Qa HZ3.out.Z 3
   have q3:w3.frozen? w§¢3=false:=Qb HZ3.out.Z 3
   have z4:w3.cell? w§¢4=some (zU 0):=Qa HZ3.out.Z 4
   have q4:w3.frozen? w§¢4=false:=Qb HZ3.out.Z 4
   have z5:w3.cell? w§¢5=some (yQ):=Qa HZ3.out.Z 5
   have q5:w3.frozen? w§¢5=false:=Qb HZ3.out.Z 5
   have z6:w3.cell? w§¢6=some (.slice none 0 0):=Qa HZ3.out.Z 6
   have q6:w3.frozen? w§¢6=false:=Qb HZ3.out.Z 6
   have z7:w3.cell? w§¢7=some (zI 0):=Qa HZ3.out.Z 7
   have q7:w3.frozen? w§¢7=false:=Qb HZ3.out.Z 7
   obtain⟨Y,eY,hY1,hY2,hY3,hY4,hY5⟩:=HZ3.out.finz
   have HEY:Hid (_=Y):=eY
   have HY1:Hid (Y.heap[w§]? = (zC nd0.vals 48)):=hY1
   have HYY:Hid (Lies Y nd0∧Bkn (fun k=>w§≤k∧k < Y§) nd0∧Sp Y b K (.error (.tok 132 t.p))∧Mv w Y (fun k=>k=b)):=⟨hY2,hY3,hY4,hY5⟩
   clear eY hY1 hY2 hY3 hY4 hY5
   go_wp2_with fail
   rw [HEY.out]
   refine bodyPost_ret (results_cell_row rfl _ _ w§ 48 nd0.vals (0,0) _ rfl HY1.out Tryz.underlying48 rfl zK) rfl ⟨_,rfl,HYY.out.1,HYY.out.2.1,?_,HYY.out.2.2.2,?_⟩
   ·exact HYY.out.2.2.1
   ·exact fun q e=>by cases e
  have HG:=gUn_ok ex un d t ts HNE.out hdd
  obtain⟨r0,er0⟩:∃ r,rd (gUn ex un d) (.ok (t :: ts))=r:=⟨_,rfl⟩
  have HR0:Hid (r0=match un ts with | .error e=>.error e | .ok q=>.ok (.mk ⟨5,unX t.x,0,0,0,gE,t.p⟩ [q.1],q.2)):=by
   show r0=_
   rw [← er0]
   exact HG
  rw [er0]
  have HD0:Hid (∀ v,Lv v b K (t :: ts)→Calls zG 89 #[zP b,zI d] v fun e w'=>e=.returned (.bool true)∧w'=v):=fun v h=>KD h d hdd
  have hmd:(d:Int)+1≤9223372036854775807:=by omega
  have HU1:Hid (∀ (w:yW) (st:St),Sp w b K st→Calls zG 192 #[zP b,zI ((d:Int)+1)] w (OutD b K w (rd un st))):=HU.out hdd
  clear er0 HG HU hdd HO HRG
  go_enter Tryz.func192,Tryz.ntmps192
  go_wp2_with fail
  try rw [eW0]
  refine cA.mono ?_
  rintro e w2 ⟨rfl,hb2⟩
  have HZ2:=((HZ.out.on HW.out).on hb2).hid
  have cD:=HD0.out w2 HZ2.out.S.2
  clear cA hb2 HW HZ HD0
  go_wp2_with fail
  refine cD.mono ?_
  rintro e w2' ⟨rfl,e9⟩
  obtain rfl:=e9.symm
  have cN:=Qt HZ2.out.S.2
  have hf:=fun v=>QF t v
  clear cD e9
  go_wp2_with fail
  refine cN.mono ?_
  rintro e w3 ⟨rfl,hb3⟩
  have HZ3:=(HZ2.out.on hb3).hid
  have HRW:Hid (Rg ⟨5,1+v,0,0,0,gE,t.p⟩):=Lv.rgk HZ3.out.S.2 HK.out (by omega) (by omega) (by omega) (by omega) (by omega) (by omega)
  have HQ3:=(QX.new HZ3.out ⟨5,1+v,0,0,0,gE,t.p⟩).hid
  unfold gE at HQ3
  clear cN hb3 HZ2
  go_upto_region 8 with fail
  try dsimp only at HQ3
  obtain⟨W4,eW4⟩:∃ W,w3.alloc (.cells #[zU 5,zU (1+v),zU 0,zI 0,zU 0,yQ,.slice none 0 0,zI t.p] 48)=W:=⟨_,rfl⟩
  rw [eW4] at HQ3 ⊢
  obtain⟨Nb,eNb⟩:∃ q,w3§=q:=⟨_,rfl⟩
  rw [eNb] at HQ3 ⊢
  clear eW4 eNb HZ3
  obtain⟨i,c3,f3,hmx,hL,hM,_,_⟩:=HQ3.out.X.S.2.at'
  obtain⟨V,eV⟩:∃ V,W4.setCell b¢3 (zI ((i:Int)+1))=V:=⟨_,rfl⟩
  rw [eV] at hL hM
  have HQ4:=(HQ3.out.mv hM hL.sp).hid
  have cQ:=HU1.out V (nf ts) hL.sp
  rw [Kq HE.out] at cQ
  clear hL hM HQ3
  go_wp2_with fail
  try rw [eV]
  clear eV c3 f3 hmx
  refine cQ.mono ?_
  rintro e w5 ⟨⟨⟨k3,o3,ty3,n3,f3,x3,p3⟩,am3,cm3,ks3⟩,rfl,hl,hk,hs,hm,ht⟩
  simp only [Nd.vals,Nd.h,Nd.a,Nd.c,Nd.ks,hdA]
  have HQ5:=(HQ4.out.mv hm hs).hid
  have HT:Hid (∀ q,un ts=.ok q→Qh (Nd.mk ⟨k3,o3,ty3,n3,f3,x3,p3⟩ am3 cm3 ks3)=q.1):=ht
  have hNV:Nb < V§:=(zJ HQ4.out.N).1
  have hRV:w§ < V§:=(zJ HQ4.out.X.Z).1
  have hb6:=Qc w5 (.cells (zW k3 o3 ty3 n3 f3 x3 am3 ks3 cm3 p3) 48)
  have hX:=Qd w5 (.cells (zW k3 o3 ty3 n3 f3 x3 am3 ks3 cm3 p3) 48)
  have hs6:=Qf w5 (.cells (zW k3 o3 ty3 n3 f3 x3 am3 ks3 cm3 p3) 48)
  have HQ6:=(HQ5.out.on hb6).hid
  have HL6:=(hl.on hb6).hid
  obtain⟨W6,eW6⟩:∃ W,w5.alloc (.cells (zW k3 o3 ty3 n3 f3 x3 am3 ks3 cm3 p3) 48)=W:=⟨_,rfl⟩
  rw [eW6] at hX hs6 HQ6 HL6
  have HK6:Hid (Bkn (fun k=>w§≤k∧k < W6§∧k≠Nb∧k≠w§∧(Value.slice none 0 0).ownBlock≠some k) (Nd.mk ⟨k3,o3,ty3,n3,f3,x3,p3⟩ am3 cm3 ks3)):=hk.mono fun j hj=>⟨by omega,by omega,by omega,by omega,by simp [Value.ownBlock]⟩
  have x0':W6.cell? w5§¢0=some (zU k3):=Qa hX 0
  have x1':W6.cell? w5§¢1=some (zU o3):=Qa hX 1
  have x2':W6.cell? w5§¢2=some (zU ty3):=Qa hX 2
  have x3':W6.cell? w5§¢3=some (zI n3):=Qa hX 3
  have x4':W6.cell? w5§¢4=some (zU f3):=Qa hX 4
  have x5':W6.cell? w5§¢5=some (.string x3):=Qa hX 5
  have x6':W6.cell? w5§¢6=some (.slice am3 ks3.length cm3):=Qa hX 6
  have x7':W6.cell? w5§¢7=some (zI p3):=Qa hX 7
  have c6:W6.cell? Nb¢6=some (.slice none 0 0):=Qa HQ6.out.N 6
  clear cQ hl hk hs hm ht hNV hRV hX hs6 hb6 HQ4 HQ5
  go_upto_region 10 with fail
  try rw [eW6]
  clear eW6
  go_upto_region 11 with (at_builtin; refine list_rowN rfl (.tmp 42) (.tmp 44) rfl (Nd.mk ⟨k3,o3,ty3,n3,f3,x3,p3⟩ am3 cm3 ks3) HQ6.out.row rfl rfl (Nat.zero_le _) 1 rfl ?_; intro g cap w8 hr8 h83 h84; obtain⟨e8,q8⟩:=HQ6.out.appN (n:=1) (M:=[(Nd.mk ⟨k3,o3,ty3,n3,f3,x3,p3⟩ am3 cm3 ks3)]) rfl rfl HL6.out HK6.out hr8 h83 h84; have HQ8:=q8.hid; have g6:w8.cell? Nb¢6=some (.slice none 0 0):=Qa (e8.trans HQ6.out.N) 6; have k6:w8.frozen? Nb¢6=false:=Qb (e8.trans HQ6.out.N) 6; clear e8 q8 hr8 h83 h84)
  obtain⟨W9,eW9⟩:∃ W,w8.setCell Nb¢6 (.slice (some g¢0) 1 cap)=W:=⟨_,rfl⟩
  rw [eW9] at HQ8 ⊢
  clear eW9 g6 k6
  have y0:W9.cell? Nb¢0=some (zU 5):=Qa HQ8.out.N 0
  have z0:W9.cell? w§¢0=some (zU 0):=Qa HQ8.out.X.Z 0
  have q0:W9.frozen? w§¢0=false:=Qb HQ8.out.X.Z 0
  have y1:W9.cell? Nb¢1=some (zU (1+v)):=Qa HQ8.out.N 1
  have z1:W9.cell? w§¢1=some (zU 0):=Qa HQ8.out.X.Z 1
  have q1:W9.frozen? w§¢1=false:=Qb HQ8.out.X.Z 1
  have y2:W9.cell? Nb¢2=some (zU 0):=Qa HQ8.out.N 2
  have z2:W9.cell? w§¢2=some (zU 0):=Qa HQ8.out.X.Z 2
  have q2:W9.frozen? w§¢2=false:=Qb HQ8.out.X.Z 2
  have y3:W9.cell? Nb¢3=some (zI 0):=Qa HQ8.out.N 3
  have z3:W9.cell? w§¢3=some (zI 0):=Qa HQ8.out.X.Z 3
  have q3:W9.frozen? w§¢3=false:=Qb HQ8.out.X.Z 3
  have y4:W9.cell? Nb¢4=some (zU 0):=Qa HQ8.out.N 4
  have z4:W9.cell? w§¢4=some (zU 0):=Qa HQ8.out.X.Z 4
  have q4:W9.frozen? w§¢4=false:=Qb HQ8.out.X.Z 4
  have y5:W9.cell? Nb¢5=some (yQ):=Qa HQ8.out.N 5
  have z5:W9.cell? w§¢5=some (yQ):=Qa HQ8.out.X.Z 5
  have q5:W9.frozen? w§¢5=false:=Qb HQ8.out.X.Z 5
  have y6:W9.cell? Nb¢6=some (.slice (some g¢0) 1 cap):=Qa HQ8.out.N 6
  have z6:W9.cell? w§¢6=some (.slice none 0 0):=Qa HQ8.out.X.Z 6
  have q6:W9.frozen? w§¢6=false:=Qb HQ8.out.X.Z 6
  have y7:W9.cell? Nb¢7=some (zI t.p):=Qa HQ8.out.N 7
  have z7:W9.cell? w§¢7=some (zI 0):=Qa HQ8.out.X.Z 7
  have q7:W9.frozen? w§¢7=false:=Qb HQ8.out.X.Z 7
  obtain⟨Y,eY,hY1,hY2,hY3,hY4,hY5⟩:=HQ8.out.fin rfl HRW.out
  have HEY:Hid (((((((((W9.setCell w§¢0 (zU 5)).setCell w§¢1 (zU (1+v))).setCell w§¢2 (zU 0)).setCell w§¢3 (zI 0)).setCell w§¢4 (zU 0)).setCell w§¢5 (yQ)).setCell w§¢6 (.slice (some g¢0) 1 cap)).setCell w§¢7 (zI t.p))=Y):=eY
  have HY1:Hid (Y.heap[w§]? = (zC (Nd.mk ⟨5,1+v,0,0,0,gE,t.p⟩ (some g¢0) cap [(Nd.mk ⟨k3,o3,ty3,n3,f3,x3,p3⟩ am3 cm3 ks3)]).vals 48)):=hY1
  have HYY:Hid (Lies Y (Nd.mk ⟨5,1+v,0,0,0,gE,t.p⟩ (some g¢0) cap [(Nd.mk ⟨k3,o3,ty3,n3,f3,x3,p3⟩ am3 cm3 ks3)])∧Bkn (fun k=>w§≤k∧k < Y§) (Nd.mk ⟨5,1+v,0,0,0,gE,t.p⟩ (some g¢0) cap [(Nd.mk ⟨k3,o3,ty3,n3,f3,x3,p3⟩ am3 cm3 ks3)])∧Sp Y b K (stOf (un ts))∧Mv w Y (fun k=>k=b)):=⟨hY2,hY3,hY4,hY5⟩
  clear eY hY1 hY2 hY3 hY4 hY5
  go_wp2_with fail
  rw [HEY.out]
  refine bodyPost_ret (results_cell_row rfl _ _ w§ 48 (Nd.mk ⟨5,1+v,0,0,0,gE,t.p⟩ (some g¢0) cap [(Nd.mk ⟨k3,o3,ty3,n3,f3,x3,p3⟩ am3 cm3 ks3)]).vals (0,0) _ rfl HY1.out Tryz.underlying48 rfl zK) rfl ⟨_,rfl,HYY.out.1,HYY.out.2.1,?_,HYY.out.2.2.2,?_⟩
  ·rw [HR0.out]
   have h1:=HYY.out.2.2.1
   cases hr:un ts with
   | error f=>rw [hr] at h1; exact h1
   | ok q=>rw [hr] at h1; exact h1
  ·rw [HR0.out]
   have h1:=HT.out
   intro q e
   cases hr:un ts with
   | error f=>rw [hr] at e; cases e
   | ok q' =>
    rw [hr] at e
    cases e
    rw [← h1 q' hr,HOP.out]
    rfl
end Go.Proofs.YtoogodlnnijikaaGreatDoor
