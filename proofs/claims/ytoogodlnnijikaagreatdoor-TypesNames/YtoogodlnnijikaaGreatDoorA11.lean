import Derived.Test.YtoogodlnnijikaaGreatDoorA0
import Derived.Test.YtoogodlnnijikaaGreatDoorA10
import Derived.Test.YtoogodlnnijikaaGreatDoorA2
namespace Go.Proofs.YtoogodlnnijikaaGreatDoor
set_option maxHeartbeats 1000000
set_option maxRecDepth 100000
open Go.RowKit
abbrev St:=Except Ft (List Tk)
def nf:List Tk→St
 | []=>.error .lex
 | t :: ts=>.ok (t :: ts)
def Sp (w:yW) (b:Nat) (K:PK):St→Prop
 | .ok ts=>ts≠[]∧Lv w b K ts
 | .error f=>Dd w b K f
theorem Lv.sp {w:yW}{b:Nat}{K:PK}{ts:List Tk}(h:Lv w b K ts):Sp w b K (nf ts):=by
 cases ts with
 | nil=>exact h.end
 | cons t ts=>exact⟨by simp,h⟩
theorem Sp.hid {w:yW}{b:Nat}{K:PK}{s:St}(h:Sp w b K s):Hid (Sp w b K s):=h
theorem Sp.on {w w':yW}{b:Nat}{K:PK}{s:St}(h:Sp w b K s) (k:yD w w'):Sp w' b K s:=by
 cases s with
 | ok ts=>exact⟨h.1,h.2.on k⟩
 | error f=>exact Dd.on h k
theorem Sp.lw {w:yW}{b:Nat}{K:PK}{s:St}(h:Sp w b K s):Lw w§ b K:=by
 cases s with
 | ok ts=>exact h.2.lw
 | error f=>exact Dd.lw h
theorem Sp.off {w w':yW}{b:Nat}{K:PK}{s:St}(h:Sp w b K s) {B:Nat}(hB:Lw B b K) (o:∀ k,k < B→w'.heap[k]? = w.heap[k]?):Sp w' b K s:=by
 cases s with
 | ok ts=>exact⟨h.1,h.2.off hB o⟩
 | error f=>exact Dd.off h hB o
structure KOk (K:PK):Prop where
 t:∀ t ∈ K.T,TkOk t
 n:K.T.length≤4097
theorem Lv.mem {w:yW}{b:Nat}{K:PK}{ts:List Tk}(h:Lv w b K ts):∀ t ∈ ts,t ∈ K.T:=by
 obtain⟨i,p,u,h1,rfl⟩:=h
 exact fun t ht=>List.mem_of_mem_drop ht
theorem Lv.len {w:yW}{b:Nat}{K:PK}{ts:List Tk}(h:Lv w b K ts):ts.length≤K.T.length:=by
 obtain⟨i,p,u,h1,rfl⟩:=h
 simp
theorem Lv.ok {w:yW}{b:Nat}{K:PK}{t:Tk}{ts:List Tk}(h:Lv w b K (t :: ts)) (hK:KOk K):TkOk t:=hK.t t (h.mem t (by simp))
def msr (b:Nat) (K:PK) (w:yW):Nat :=
 match w.cell? b¢3,w.cell? b¢4 with
 | some i,some e=>if intOf e=0 then K.T.length - (intOf i).toNat else 0
 | _,_=>0
theorem Lv.msr {w:yW}{b:Nat}{K:PK}{ts:List Tk}(h:Lv w b K ts):msr b K w=ts.length:=by
 obtain⟨i,p,u,h1,rfl⟩:=h
 have c3:w.cell? b¢3=some (zI i):=Qa h1.h 3
 have c4:w.cell? b¢4=some (zI 0):=Qa h1.h 4
 simp [Go.Proofs.YtoogodlnnijikaaGreatDoor.msr,c3,c4,intOf]
theorem Dd.msr {w:yW}{b:Nat}{K:PK}{f:Ft}(h:Dd w b K f):msr b K w=0:=by
 cases f with
 | tok no p =>
  obtain⟨i,h1,h2⟩:=h
  have c3:w.cell? b¢3=some (zI i):=Qa h1.h 3
  have c4:w.cell? b¢4=some (zI no):=Qa h1.h 4
  simp [Go.Proofs.YtoogodlnnijikaaGreatDoor.msr,c3,c4,intOf,h2]
 | lex =>
  obtain⟨e,p,t,h1,h2⟩:=h
  have c3:w.cell? b¢3=some (zI K.T.length):=Qa h1.h 3
  have c4:w.cell? b¢4=some (zI e):=Qa h1.h 4
  simp [Go.Proofs.YtoogodlnnijikaaGreatDoor.msr,c3,c4,intOf]
def stOf (r:Except Ft (Tr × List Tk)):St :=
 match r with
 | .ok q=>nf q.2
 | .error f=>.error f
def OutD (b:Nat) (K:PK) (w:yW) (r:Except Ft (Tr × List Tk)) (e:Ending) (w':yW):Prop :=
 ∃ m,e=.returned (.agg m.vals)∧Lies w' m∧Bkn (fun k=>w§≤k∧k < w'§) m∧Sp w' b K (stOf r)∧Mv w w' (fun k=>k=b)∧∀ q,r=.ok q→Qh m=q.1
theorem two_any (o at':Int) (m k:Nd) {P:Nat→Prop}{w:yW}(hl:Lies w m) (hl':Lies w k) (hm:Bkn P m) (hk:Bkn P k) (hP:∀ q,P q→q < w§) (hr:Rg ⟨6,o,0,0,0,gE,at'⟩) :
  Calls zG 126 #[zU o,zI at',.agg m.vals,.agg k.vals] w fun e w'=>∃ n,e=.returned (.agg n.vals)∧Qh n=.mk ⟨6,o,0,0,0,gE,at'⟩ [Qh m,Qh k]∧Lies w' n∧Bkn (fun q=>P q∨(w§≤q∧q < w'§)) n∧yD w w':=by
 obtain⟨⟨k2,o2,ty2,n2,f2,x2,p2⟩,am2,cm2,ks2⟩:=m
 obtain⟨⟨k3,o3,ty3,n3,f3,x3,p3⟩,am3,cm3,ks3⟩:=k
 have HL:=hl.hid
 have HL':=hl'.hid
 have HM:Hid (Bkn P _):=hm
 have HM':Hid (Bkn P _):=hk
 have HP:Hid (∀ q,P q→q < w§):=hP
 have HR:Hid (Rg _):=hr
 clear hl hl' hm hk hP hr
 show Calls zG 126 #[zU o,zI at',.agg (zW k2 o2 ty2 n2 f2 x2 am2 ks2 cm2 p2),.agg (zW k3 o3 ty3 n3 f3 x3 am3 ks3 cm3 p3)] w _
 go_enter Tryz.func126,Tryz.ntmps126
 go_upto_region 1 with fail
 have b1:=Qc w (.cells (zW k2 o2 ty2 n2 f2 x2 am2 ks2 cm2 p2) 48)
 have b2:=Qc (w.alloc (.cells (zW k2 o2 ty2 n2 f2 x2 am2 ks2 cm2 p2) 48)) (.cells (zW k3 o3 ty3 n3 f3 x3 am3 ks3 cm3 p3) 48)
 have b3:=Qc ((w.alloc (.cells (zW k2 o2 ty2 n2 f2 x2 am2 ks2 cm2 p2) 48)).alloc (.cells (zW k3 o3 ty3 n3 f3 x3 am3 ks3 cm3 p3) 48)) (.cells zNo 48)
 have s1:=Qf w (.cells (zW k2 o2 ty2 n2 f2 x2 am2 ks2 cm2 p2) 48)
 have s2:=Qf (w.alloc (.cells (zW k2 o2 ty2 n2 f2 x2 am2 ks2 cm2 p2) 48)) (.cells (zW k3 o3 ty3 n3 f3 x3 am3 ks3 cm3 p3) 48)
 have s3:=Qf ((w.alloc (.cells (zW k2 o2 ty2 n2 f2 x2 am2 ks2 cm2 p2) 48)).alloc (.cells (zW k3 o3 ty3 n3 f3 x3 am3 ks3 cm3 p3) 48)) (.cells zNo 48)
 have n1:=Qd w (.cells (zW k2 o2 ty2 n2 f2 x2 am2 ks2 cm2 p2) 48)
 have n2':=Qd (w.alloc (.cells (zW k2 o2 ty2 n2 f2 x2 am2 ks2 cm2 p2) 48)) (.cells (zW k3 o3 ty3 n3 f3 x3 am3 ks3 cm3 p3) 48)
 have n3':=Qd ((w.alloc (.cells (zW k2 o2 ty2 n2 f2 x2 am2 ks2 cm2 p2) 48)).alloc (.cells (zW k3 o3 ty3 n3 f3 x3 am3 ks3 cm3 p3) 48)) (.cells zNo 48)
 rw [s1] at n2'
 rw [s2,s1] at n3'
 obtain⟨V,eV⟩:∃ V,((w.alloc (.cells (zW k2 o2 ty2 n2 f2 x2 am2 ks2 cm2 p2) 48)).alloc (.cells (zW k3 o3 ty3 n3 f3 x3 am3 ks3 cm3 p3) 48)).alloc (.cells zNo 48)=V:=⟨_,rfl⟩
 have hA:V.heap[w§]? = (zC (zW k2 o2 ty2 n2 f2 x2 am2 ks2 cm2 p2) 48):=by rw [← eV]; exact ((Qe b2 b3).block _ (by rw [s1]; omega)).trans n1
 have hB:V.heap[w§+1]? = (zC (zW k3 o3 ty3 n3 f3 x3 am3 ks3 cm3 p3) 48):=by rw [← eV]; exact (b3.block _ (by rw [s2,s1]; omega)).trans n2'
 have hC:V.heap[w§+2]? = (zC zNo 48):=by rw [← eV]; exact n3'
 have hsV:V§=w§+3:=by rw [← eV,s3,s2,s1]
 have HBV:Hid (yD w V):=by rw [← eV]; exact Qe (Qe b1 b2) b3
 rw [eV]
 clear b1 b2 b3 s1 s2 s3 n1 n2' n3' eV
 have a0:V.cell? w§¢0=some (zU k2):=Qa hA 0
 have b0:V.cell? ⟨w§+1,0,none⟩=some (zU k3):=Qa hB 0
 have z0:V.cell? ⟨w§+2,0,none⟩=some (zU 0):=Qa hC 0
 have q0:V.frozen? ⟨w§+2,0,none⟩=false:=Qb hC 0
 have a1:V.cell? w§¢1=some (zU o2):=Qa hA 1
 have b1:V.cell? ⟨w§+1,1,none⟩=some (zU o3):=Qa hB 1
 have z1:V.cell? ⟨w§+2,1,none⟩=some (zU 0):=Qa hC 1
 have q1:V.frozen? ⟨w§+2,1,none⟩=false:=Qb hC 1
 have a2:V.cell? w§¢2=some (zU ty2):=Qa hA 2
 have b2:V.cell? ⟨w§+1,2,none⟩=some (zU ty3):=Qa hB 2
 have z2:V.cell? ⟨w§+2,2,none⟩=some (zU 0):=Qa hC 2
 have q2:V.frozen? ⟨w§+2,2,none⟩=false:=Qb hC 2
 have a3:V.cell? w§¢3=some (zI n2):=Qa hA 3
 have b3:V.cell? ⟨w§+1,3,none⟩=some (zI n3):=Qa hB 3
 have z3:V.cell? ⟨w§+2,3,none⟩=some (zI 0):=Qa hC 3
 have q3:V.frozen? ⟨w§+2,3,none⟩=false:=Qb hC 3
 have a4:V.cell? w§¢4=some (zU f2):=Qa hA 4
 have b4:V.cell? ⟨w§+1,4,none⟩=some (zU f3):=Qa hB 4
 have z4:V.cell? ⟨w§+2,4,none⟩=some (zU 0):=Qa hC 4
 have q4:V.frozen? ⟨w§+2,4,none⟩=false:=Qb hC 4
 have a5:V.cell? w§¢5=some (.string x2):=Qa hA 5
 have b5:V.cell? ⟨w§+1,5,none⟩=some (.string x3):=Qa hB 5
 have z5:V.cell? ⟨w§+2,5,none⟩=some (yQ):=Qa hC 5
 have q5:V.frozen? ⟨w§+2,5,none⟩=false:=Qb hC 5
 have a6:V.cell? w§¢6=some (.slice am2 ks2.length cm2):=Qa hA 6
 have b6:V.cell? ⟨w§+1,6,none⟩=some (.slice am3 ks3.length cm3):=Qa hB 6
 have z6:V.cell? ⟨w§+2,6,none⟩=some (.slice none 0 0):=Qa hC 6
 have q6:V.frozen? ⟨w§+2,6,none⟩=false:=Qb hC 6
 have a7:V.cell? w§¢7=some (zI p2):=Qa hA 7
 have b7:V.cell? ⟨w§+1,7,none⟩=some (zI p3):=Qa hB 7
 have z7:V.cell? ⟨w§+2,7,none⟩=some (zI 0):=Qa hC 7
 have q7:V.frozen? ⟨w§+2,7,none⟩=false:=Qb hC 7
 have HC:Hid (V.heap[w§+2]? = (zC zNo 48)):=hC
 clear hA hB hC
 obtain⟨Y,eY,hY1,hY2,hY3,hY4⟩:=fin8 HC.out (zU 6) (zU o) (zU 0) (zI 0) (zU 0) (yQ) (.slice (some ⟨w§+3,0,none⟩) 2 2) (zI at')
 have HEY:Hid (_=Y):=eY
 have HY1:Hid (Y.heap[w§+2]? = (zC #[zU 6,zU o,zU 0,zI 0,zU 0,yQ,.slice (some ⟨w§+3,0,none⟩) 2 2,zI at'] 48)):=hY1
 have HY2:Hid (Y§=w§+3):=hY2.trans hsV
 have HYB:Hid (yD w Y):=(hY4 w (fun _=>False) (Mv.ofBelow HBV.out) (by omega)).below (Nat.le_refl _) (fun _ e=>e.elim)
 clear eY hY1 hY2 hY3 hY4
 go_wp2_with fail
 rw [HEY.out]
 have bU:=Qc Y (.cells #[zU k2,zU o2,zU ty2,zI n2,zU f2,.string x2,.slice am2 ks2.length cm2,zI p2,zU k3,zU o3,zU ty3,zI n3,zU f3,.string x3,.slice am3 ks3.length cm3,zI p3] 48)
 have hU:=Qd Y (.cells #[zU k2,zU o2,zU ty2,zI n2,zU f2,.string x2,.slice am2 ks2.length cm2,zI p2,zU k3,zU o3,zU ty3,zI n3,zU f3,.string x3,.slice am3 ks3.length cm3,zI p3] 48)
 have sU:=Qf Y (.cells #[zU k2,zU o2,zU ty2,zI n2,zU f2,.string x2,.slice am2 ks2.length cm2,zI p2,zU k3,zU o3,zU ty3,zI n3,zU f3,.string x3,.slice am3 ks3.length cm3,zI p3] 48)
 rw [HY2.out] at hU sU
 obtain⟨U,eU⟩:∃ U,Y.alloc (.cells #[zU k2,zU o2,zU ty2,zI n2,zU f2,.string x2,.slice am2 ks2.length cm2,zI p2,zU k3,zU o3,zU ty3,zI n3,zU f3,.string x3,.slice am3 ks3.length cm3,zI p3] 48)=U:=⟨_,rfl⟩
 rw [eU] at bU hU sU ⊢
 have hWU:yD w U:=Qe HYB.out bU
 have hR:U.heap[w§+2]? = (zC (Nd.mk ⟨6,o,0,0,0,gE,at'⟩ (some ⟨w§+3,0,none⟩) 2 [.mk ⟨k2,o2,ty2,n2,f2,x2,p2⟩ am2 cm2 ks2,.mk ⟨k3,o3,ty3,n3,f3,x3,p3⟩ am3 cm3 ks3]).vals 48):=(bU.block _ (by have:=HY2.out; omega)).trans HY1.out
 refine bodyPost_ret (results_cell_row rfl _ _ (w§+2) 48 (Nd.mk ⟨6,o,0,0,0,gE,at'⟩ (some ⟨w§+3,0,none⟩) 2 [.mk ⟨k2,o2,ty2,n2,f2,x2,p2⟩ am2 cm2 ks2,.mk ⟨k3,o3,ty3,n3,f3,x3,p3⟩ am3 cm3 ks3]).vals (0,0) _ rfl hR Tryz.underlying48 rfl zK) rfl ⟨_,rfl,rfl,?_,?_,hWU⟩
 ·refine .mk _ _ _ _ HR.out (by simp) (by simp) ?_ ?_
  ·intro i hi
   refine⟨w§+3,0,rfl,?_⟩
   match i,hi with
   | 0,_=>exact⟨Qa hU 0,Qa hU 1,Qa hU 2,Qa hU 3,Qa hU 4,Qa hU 5,Qa hU 6,Qa hU 7⟩
   | 1,_=>exact⟨Qa hU 8,Qa hU 9,Qa hU 10,Qa hU 11,Qa hU 12,Qa hU 13,Qa hU 14,Qa hU 15⟩
  ·intro k hk'
   rcases List.mem_cons.1 hk' with e | e
   ·rw [e]; exact HL.out.on hWU
   ·obtain rfl:=List.mem_singleton.1 e
    exact HL'.out.on hWU
 ·refine .mk _ _ _ _ (fun b' o e=>?_) ?_
  ·injection e with e; injection e with e; exact .inr (by omega)
  ·intro k hk'
   rcases List.mem_cons.1 hk' with e | e
   ·rw [e]; exact HM.out.mono fun q hq=>.inl hq
   ·obtain rfl:=List.mem_singleton.1 e
    exact HM'.out.mono fun q hq=>.inl hq
def Shr (p:List Tk→Except Ft (Tr × List Tk)):Prop:=∀ ts t r,p ts=.ok (t,r)→r.length < ts.length
theorem Ju {ts:List Tk}{q:Tk × List Tk}(h:JW ts=.ok q):q.2.length < ts.length:=by
 cases ts with
 | nil=>cases h
 | cons t ts=>cases h; simp
theorem Jp {y:yB}{ts:List Tk}{q:Tk × List Tk}(h:Q5 y ts=.ok q):q.2.length < ts.length:=by
 unfold Q5 at h
 obtain⟨_,_,h⟩:=Qu h
 obtain⟨_,_,h⟩:=Qu h
 exact Ju h
theorem Ky {d:Nat}{ts:List Tk}{q:Tk × List Tk}(h:gOpn d ts=.ok q):q.2.length < ts.length:=by
 unfold gOpn at h
 obtain⟨_,_,h⟩:=Qu h
 exact Ju h
theorem gLit_shr:Shr gLit:=by
 intro ts t r h
 unfold gLit at h
 obtain⟨_,_,h⟩:=Qu h
 obtain⟨_,_,h⟩:=Qu h
 obtain⟨q,h1,h⟩:=Qu h
 cases h
 exact Ju h1
theorem gRowR_shr (oper:yB→Int) {part:List Tk→Except Ft (Tr × List Tk)}(hp:Shr part):∀ m n ts t r,JX oper part m n ts=.ok (t,r)→r.length≤ts.length:=by
 intro m
 induction m with
 | zero=>intro n ts t r h; cases h; exact Nat.le_refl _
 | succ m ih =>
  intro n ts t r h
  unfold JX at h
  obtain⟨u,_,h⟩:=Qu h
  split at h
  ·cases h; exact Nat.le_refl _
  ·obtain⟨q,h1,h⟩:=Qu h
   obtain⟨q2,h2,h⟩:=Qu h
   have e1:=Ju h1
   have e2:=hp _ _ _ h2
   have e3:=ih _ _ _ _ h
   omega
theorem JB (oper:yB→Int) {part:List Tk→Except Ft (Tr × List Tk)}(hp:Shr part) (m:Nat):Shr (gRow oper part m):=by
 intro ts t r h
 unfold gRow at h
 obtain⟨q,h1,h⟩:=Qu h
 have e1:=hp _ _ _ h1
 have e2:=gRowR_shr oper hp m _ _ _ _ h
 omega
theorem gOne_shr {ex:List Tk→Except Ft (Tr × List Tk)}(he:Shr ex) (d:Nat):Shr (gOne ex d):=by
 intro ts t r h
 unfold gOne at h
 obtain⟨u,_,h⟩:=Qu h
 split at h
 ·obtain⟨q1,h1,h⟩:=Qu h
  obtain⟨q2,h2,h⟩:=Qu h
  obtain⟨q3,h3,h⟩:=Qu h
  cases h
  (have e0:=Ky h1; have e1:=he _ _ _ h2; have e2:=Jp h3; (try dsimp only at *); omega)
 split at h
 ·obtain⟨q1,h1,h⟩:=Qu h
  obtain⟨_,_,h⟩:=Qu h
  obtain⟨_,_,h⟩:=Qu h
  obtain⟨q2,h2,h⟩:=Qu h
  cases h
  (have e0:=Ju h1; have e1:=Ju h2; (try dsimp only at *); omega)
 split at h
 ·obtain⟨q1,h1,h⟩:=Qu h
  obtain⟨⟨u2,r2⟩,h2,h⟩:=Qu h
  simp only at h
  split at h
  ·obtain⟨q3,h3,h⟩:=Qu h
   obtain⟨q4,h4,h⟩:=Qu h
   cases h
   (have e0:=Ky h1; have e1:=Jp h2; have e2:=he _ _ _ h3; have e3:=Jp h4; (try dsimp only at *); omega)
  ·obtain⟨q3,h3,h⟩:=Qu h
   obtain⟨q4,h4,h⟩:=Qu h
   obtain⟨q5,h5,h⟩:=Qu h
   obtain⟨q6,h6,h⟩:=Qu h
   cases h
   (have e0:=Ky h1; have e1:=Jp h2; have e2:=he _ _ _ h3; have e3:=Jp h4; have e4:=he _ _ _ h5; have e5:=Jp h6; (try dsimp only at *); omega)
 split at h
 ·obtain⟨q1,h1,h⟩:=Qu h
  obtain⟨q2,h2,h⟩:=Qu h
  obtain⟨q3,h3,h⟩:=Qu h
  obtain⟨q4,h4,h⟩:=Qu h
  cases h
  (have e0:=Ky h1; have e1:=Jp h2; have e2:=he _ _ _ h3; have e3:=Jp h4; (try dsimp only at *); omega)
 split at h
 ·obtain⟨q1,h1,h⟩:=Qu h
  cases h
  exact Ju h1
 split at h
 ·obtain⟨q1,h1,h⟩:=Qu h
  cases h
  exact Ju h1
 exact gLit_shr _ _ _ h
theorem gUn_shr {ex un:List Tk→Except Ft (Tr × List Tk)}(he:Shr ex) (hu:Shr un) (d:Nat):Shr (gUn ex un d):=by
 intro ts t r h
 unfold gUn at h
 obtain⟨u,_,h⟩:=Qu h
 split at h
 ·exact gOne_shr he d _ _ _ h
 ·obtain⟨q1,h1,h⟩:=Qu h
  obtain⟨q2,h2,h⟩:=Qu h
  cases h
  (have e0:=Ky h1; have e1:=hu _ _ _ h2; (try dsimp only at *); omega)
theorem gEx_shr {ex un:List Tk→Except Ft (Tr × List Tk)}(he:Shr ex) (hu:Shr un) (d:Nat):Shr (gEx ex un d):=by
 intro ts t r h
 unfold gEx at h
 obtain⟨q,h0,h⟩:=Qu h
 have hr:=JB orX (JB andX (JB cmpX (JB sumX (JB proX (gUn_shr he hu d) 4096) 4096) 1) 4096) 4096 _ _ _ h0
 obtain⟨b,_,h⟩:=Qu h
 split at h
 ·cases h; exact hr
 ·obtain⟨q1,h1,h⟩:=Qu h
  obtain⟨q2,h2,h⟩:=Qu h
  obtain⟨q3,h3,h⟩:=Qu h
  obtain⟨q4,h4,h⟩:=Qu h
  cases h
  (have e0:=Ky h1; have e1:=he _ _ _ h2; have e2:=Jp h3; have e3:=he _ _ _ h4; have e9:=hr; (try dsimp only at *); omega)
theorem exF_shr:∀ f d,Shr (exF f d)∧Shr (unF f d):=by
 intro f
 induction f with
 | zero=>intro d; exact⟨fun ts t r h=>(by rw [exF] at h; cases h),fun ts t r h=>(by rw [unF] at h; cases h)⟩
 | succ f ih =>
  intro d
  refine⟨fun ts t r h=>?_,fun ts t r h=>?_⟩
  ·rw [exF] at h; exact gEx_shr (ih (d+1)).1 (ih (d+1)).2 d ts t r h
  ·rw [unF] at h; exact gUn_shr (ih (d+1)).1 (ih (d+1)).2 d ts t r h
theorem QE (x:yB) (a:Array UInt8):(eqX x a.toList=true)=(x=⟨a⟩):=by
 apply propext
 constructor
 ·exact Kz
 ·rintro rfl
  exact eqX_t rfl
def opF (y:yB) (L:List yB) (c:Int):Int:=if fnd y L 0 < 0 then 0 else c+fnd y L 0
theorem proX_op (y:yB):proX y=opF y [ZE,ZF,ZG] 8:=by
 by_cases e0:y=ZE
 ·subst e0; decide +kernel
 by_cases e1:y=ZF
 ·subst e1; decide +kernel
 by_cases e2:y=ZG
 ·subst e2; decide +kernel
 have q0:(eqX y [42]=true)=(y=ZE):=QE y #[42]
 have q1:(eqX y [47]=true)=(y=ZF):=QE y #[47]
 have q2:(eqX y [37]=true)=(y=ZG):=QE y #[37]
 have hf:fnd y [ZE,ZF,ZG] 0 = -1:=by simp only [fnd,if_neg e0,if_neg e1,if_neg e2]
 simp only [proX,opF,hf,q0,if_neg e0,q1,if_neg e1,q2,if_neg e2]
 rfl
theorem sumX_op (y:yB):sumX y=opF y [ZD,Zm] 6:=by
 by_cases e0:y=ZD
 ·subst e0; decide +kernel
 by_cases e1:y=Zm
 ·subst e1; decide +kernel
 have q0:(eqX y [43]=true)=(y=ZD):=QE y #[43]
 have q1:(eqX y [45]=true)=(y=Zm):=QE y #[45]
 have hf:fnd y [ZD,Zm] 0 = -1:=by simp only [fnd,if_neg e0,if_neg e1]
 simp only [sumX,opF,hf,q0,if_neg e0,q1,if_neg e1]
 rfl
theorem cmpX_op (y:yB):cmpX y=opF y yd 11:=by
 by_cases e0:y=Zw
 ·subst e0; decide +kernel
 by_cases e1:y=Zx
 ·subst e1; decide +kernel
 by_cases e2:y=ZB
 ·subst e2; decide +kernel
 by_cases e3:y=Zy
 ·subst e3; decide +kernel
 by_cases e4:y=ZC
 ·subst e4; decide +kernel
 by_cases e5:y=Zz
 ·subst e5; decide +kernel
 have q0:(eqX y [61,61]=true)=(y=Zw):=QE y #[61,61]
 have q1:(eqX y [33,61]=true)=(y=Zx):=QE y #[33,61]
 have q2:(eqX y [60]=true)=(y=ZB):=QE y #[60]
 have q3:(eqX y [60,61]=true)=(y=Zy):=QE y #[60,61]
 have q4:(eqX y [62]=true)=(y=ZC):=QE y #[62]
 have q5:(eqX y [62,61]=true)=(y=Zz):=QE y #[62,61]
 have hf:fnd y yd 0 = -1:=by simp only [fnd,if_neg e0,if_neg e1,if_neg e2,if_neg e3,if_neg e4,if_neg e5]
 simp only [cmpX,opF,hf,q0,if_neg e0,q1,if_neg e1,q2,if_neg e2,q3,if_neg e3,q4,if_neg e4,q5,if_neg e5]
 rfl
theorem unX_op (y:yB):unX y=opF y [Zm,ZA] 1:=by
 by_cases e0:y=Zm
 ·subst e0; decide +kernel
 by_cases e1:y=ZA
 ·subst e1; decide +kernel
 have q0:(eqX y [45]=true)=(y=Zm):=QE y #[45]
 have q1:(eqX y [33]=true)=(y=ZA):=QE y #[33]
 have hf:fnd y [Zm,ZA] 0 = -1:=by simp only [fnd,if_neg e0,if_neg e1]
 simp only [unX,opF,hf,q0,if_neg e0,q1,if_neg e1]
 rfl
theorem fieldX_op (y:yB):Q0 y=opF y zn 1:=by
 by_cases e0:y=Z3
 ·subst e0; decide +kernel
 by_cases e1:y=Z2
 ·subst e1; decide +kernel
 by_cases e2:y=Z5
 ·subst e2; decide +kernel
 by_cases e3:y=Z9
 ·subst e3; decide +kernel
 by_cases e4:y=Z7
 ·subst e4; decide +kernel
 by_cases e5:y=Z8
 ·subst e5; decide +kernel
 have q0:(eqX y [98,105,100]=true)=(y=Z3):=QE y #[98,105,100]
 have q1:(eqX y [97,115,107]=true)=(y=Z2):=QE y #[97,115,107]
 have q2:(eqX y [108,97,115,116]=true)=(y=Z5):=QE y #[108,97,115,116]
 have q3:(eqX y [118,111,108,117,109,101]=true)=(y=Z9):=QE y #[118,111,108,117,109,101]
 have q4:(eqX y [110,111,119]=true)=(y=Z7):=QE y #[110,111,119]
 have q5:(eqX y [111,112,101,110]=true)=(y=Z8):=QE y #[111,112,101,110]
 have hf:fnd y zn 0 = -1:=by simp only [fnd,if_neg e0,if_neg e1,if_neg e2,if_neg e3,if_neg e4,if_neg e5]
 simp only [Q0,opF,hf,q0,if_neg e0,q1,if_neg e1,q2,if_neg e2,q3,if_neg e3,q4,if_neg e4,q5,if_neg e5]
 rfl
theorem callX_op (y:yB):JF y=opF y zy 3:=by
 by_cases e0:y=Za
 ·subst e0; decide +kernel
 by_cases e1:y=Zc
 ·subst e1; decide +kernel
 by_cases e2:y=Zb
 ·subst e2; decide +kernel
 have q0:(eqX y [97,98,115]=true)=(y=Za):=QE y #[97,98,115]
 have q1:(eqX y [109,105,110]=true)=(y=Zc):=QE y #[109,105,110]
 have q2:(eqX y [109,97,120]=true)=(y=Zb):=QE y #[109,97,120]
 have hf:fnd y zy 0 = -1:=by simp only [fnd,if_neg e0,if_neg e1,if_neg e2]
 simp only [JF,opF,hf,q0,if_neg e0,q1,if_neg e1,q2,if_neg e2]
 rfl
theorem Jt (y:yB):∀ (L:List yB) (k:Nat),-1≤fnd y L k∧fnd y L k < (k+L.length:Nat):=by
 intro L
 induction L with
 | nil=>intro k; simp only [fnd]; constructor <;> omega
 | cons x xs ih =>
  intro k
  simp only [fnd]
  have:=ih (k+1)
  split
  ·simp only [List.length_cons]; constructor <;> omega
  ·simp only [List.length_cons]; constructor <;> omega
set_option linter.unusedVariables false
def rd (g:List Tk→Except Ft (Tr × List Tk)):St→Except Ft (Tr × List Tk)
 | .ok ts=>g ts
 | .error f=>.error f
structure RS (w:yW) (b:Nat) (K:PK) (N:Nat) (wr:yW) (m:Nd) (s:St):Prop where
 M:Mv w wr (fun k=>k=b)
 Z:wr.heap[w§]? = (zC zNo 48)
 B:wr.heap[N]? = (zC m.vals 48)
 L:Lies wr m
 J:Bkn (fun k=>w§ < k∧k < wr§∧k≠N) m
 S:Sp wr b K s
 W:Lw w§ b K
 n:w§ < N
theorem RS.hid {w:yW}{b:Nat}{K:PK}{N:Nat}{wr:yW}{m:Nd}{s:St}(h:RS w b K N wr m s):Hid (RS w b K N wr m s):=h
theorem RS.on {w:yW}{b:Nat}{K:PK}{N:Nat}{wr:yW}{m:Nd}{s:St}{w':yW}(h:RS w b K N wr m s) (k:yD wr w'):RS w b K N w' m s :=
 ⟨h.M.trans (Mv.ofBelow k) (fun _ e=>.inl e),(k.block _ (zJ h.Z).1).trans h.Z,(k.block _ (zJ h.B).1).trans h.B,h.L.on k,h.J.mono fun j hj=>⟨hj.1,Nat.lt_of_lt_of_le hj.2.1 k.size,hj.2.2⟩,h.S.on k,h.W,h.n⟩
theorem RS.mv {w:yW}{b:Nat}{K:PK}{N:Nat}{wr:yW}{m:Nd}{s:St}{w':yW}{s':St}(h:RS w b K N wr m s) (hm:Mv wr w' (fun k=>k=b)) (hs:Sp w' b K s'):RS w b K N w' m s':=by
 have hb:=h.W.1
 have hn:=h.n
 refine⟨h.M.trans hm (fun _ e=>.inl e),(hm.block _ (zJ h.Z).1 (by omega)).trans h.Z,(hm.block _ (zJ h.B).1 (by omega)).trans h.B,h.L.bkn h.J fun j hj=>hm.block j hj.2.1 (by omega),h.J.mono fun j hj=>⟨hj.1,Nat.lt_of_lt_of_le hj.2.1 hm.size,hj.2.2⟩,hs,h.W,h.n⟩
theorem RS.fin {w:yW}{b:Nat}{K:PK}{N:Nat}{W:yW}{k2 o2 ty2 n2 f2 p2:Int}{x2:yB}{am2:Option Addr}{cm2:Nat}{ks2:List Nd}{s:St}(h:RS w b K N W (Nd.mk ⟨k2,o2,ty2,n2,f2,x2,p2⟩ am2 cm2 ks2) s) :
  ∃ Y,((((((((W.setCell w§¢0 (zU k2)).setCell w§¢1 (zU o2)).setCell w§¢2 (zU ty2)).setCell w§¢3 (zI n2)).setCell w§¢4 (zU f2)).setCell w§¢5 (.string x2)).setCell w§¢6 (.slice am2 ks2.length cm2)).setCell w§¢7 (zI p2))=Y∧Y.heap[w§]? = (zC (Nd.mk ⟨k2,o2,ty2,n2,f2,x2,p2⟩ am2 cm2 ks2).vals 48)∧Lies Y (Nd.mk ⟨k2,o2,ty2,n2,f2,x2,p2⟩ am2 cm2 ks2)∧Bkn (fun k=>w§≤k∧k < Y§) (Nd.mk ⟨k2,o2,ty2,n2,f2,x2,p2⟩ am2 cm2 ks2)∧Sp Y b K s∧Mv w Y (fun k=>k=b):=by
 obtain⟨Y,eY,hY1,hY2,hY3,hY4⟩:=fin8 h.Z (zU k2) (zU o2) (zU ty2) (zI n2) (zU f2) (.string x2) (.slice am2 ks2.length cm2) (zI p2)
 exact⟨Y,eY,hY1,h.L.bkn h.J fun j hj=>hY3 j (by omega),h.J.mono fun j hj=>by omega,h.S.off h.W (fun k hk=>hY3 k (by omega)),hY4 _ _ h.M (Nat.le_refl _)⟩
theorem RS.put {w:yW}{b:Nat}{K:PK}{N:Nat}{W:yW}{m:Nd}{k2 o2 ty2 n2 f2 p2:Int}{x2:yB}{am2:Option Addr}{cm2:Nat}{ks2:List Nd}{s:St}(h:RS w b K N W m s) (hl:Lies W (Nd.mk ⟨k2,o2,ty2,n2,f2,x2,p2⟩ am2 cm2 ks2)) (hk:Bkn (fun k=>w§ < k∧k < W§∧k≠N) (Nd.mk ⟨k2,o2,ty2,n2,f2,x2,p2⟩ am2 cm2 ks2)) :
  RS w b K N ((((((((W.setCell N¢0 (zU k2)).setCell N¢1 (zU o2)).setCell N¢2 (zU ty2)).setCell N¢3 (zI n2)).setCell N¢4 (zU f2)).setCell N¢5 (.string x2)).setCell N¢6 (.slice am2 ks2.length cm2)).setCell N¢7 (zI p2)) (Nd.mk ⟨k2,o2,ty2,n2,f2,x2,p2⟩ am2 cm2 ks2) s:=by
 obtain⟨Y,eY,hY1,hY2,hY3,hY4⟩:=fin8 h.B (zU k2) (zU o2) (zU ty2) (zI n2) (zU f2) (.string x2) (.slice am2 ks2.length cm2) (zI p2)
 rw [eY]
 have hb:=h.W.1
 have hn:=h.n
 exact⟨hY4 _ _ h.M (by omega),(hY3 _ (by omega)).trans h.Z,hY1,hl.bkn hk fun j hj=>hY3 j hj.2.2,hk.mono fun j hj=>⟨hj.1,by omega,hj.2.2⟩,h.S.off h.W (fun k hk=>hY3 k (by omega)),h.W,h.n⟩
theorem RS.start {w w1:yW}{b:Nat}{K:PK}{m:Nd}{s:St}(hw:Lw w§ b K) (hl:Lies w1 m) (hk:Bkn (fun k=>(w.alloc (.cells zNo 48))§≤k∧k < w1§) m) (hs:Sp w1 b K s) (hm:Mv (w.alloc (.cells zNo 48)) w1 (fun k=>k=b)):RS w b K w1§ (w1.alloc (.cells m.vals 48)) m s:=by
 have hbN:=Qc w1 (.cells m.vals 48)
 have h0:=Qd w (.cells zNo 48)
 have b0:=Qc w (.cells zNo 48)
 have s0:=Qf w (.cells zNo 48)
 have hsz:=hm.size
 have hb:=hw.1
 exact⟨((Mv.ofBelow b0).trans hm (fun k e=>.inl e)).trans (Mv.ofBelow hbN) (fun k e=>.inl e),(hbN.block _ (by omega)).trans ((hm.block _ (by omega) (by omega)).trans h0),Qd _ _,hl.on hbN,hk.mono fun j hj=>⟨by omega,Nat.lt_of_lt_of_le hj.2 hbN.size,by omega⟩,hs.on hbN,hw,by omega⟩
theorem Sp.msr_le {w:yW}{b:Nat}{K:PK}{s:St}(h:Sp w b K s):msr b K w=match s with | .ok ts=>ts.length | .error _=>0:=by
 cases s with
 | ok ts=>exact h.2.msr
 | error f=>exact Dd.msr h
end Go.Proofs.YtoogodlnnijikaaGreatDoor
