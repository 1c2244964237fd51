import Derived.Test.YtkfabnchhjfjjaaGreatDoorA0
import Derived.Test.YtkfabnchhjfjjaaGreatDoorA4
import Derived.Test.YtkfabnchhjfjjaaGreatDoorA3
namespace Go.Proofs.YtkfabnchhjfjjaaGreatDoor
set_option maxRecDepth 100000
set_option maxHeartbeats 4000000
open Go.RowKit
structure RI (w:World) (b G N:Nat) (fa:Int) (fe:Value) (d:Nat) (wr:World) (m:Nd) (ts:List Tk):Prop where
 M:Mv w wr (fun k=>k=b)
 Z:wr.heap[w§]? = some (.cells #[zU 0,zU 0,zU 0,zI 0,zU 0,.string ⟨#[]⟩,.slice none 0 0,zI 0] 64 (0,0))
 B:wr.heap[N]? = some (.cells m.vals 64 (0,0))
 L:Lies wr m
 K:Bkn (fun k=>w§ < k∧k < wr§∧k≠N) m
 R:∃ a c,Rdr wr b G ts fa fe d a c
 T:∀ t ∈ ts,RgT t
theorem RI.on {w:World}{b G N:Nat}{fa:Int}{fe:Value}{d:Nat}{wr w':World}{m:Nd}{ts:List Tk}(h:RI w b G N fa fe d wr m ts) (k:Below wr§ wr w'):RI w b G N fa fe d w' m ts :=
 ⟨h.M.trans (Mv.ofBelow k) (fun _ e=>.inl e),(k.block _ (Array.getElem?_eq_some_iff.1 h.Z).1).trans h.Z,(k.block _ (Array.getElem?_eq_some_iff.1 h.B).1).trans h.B,h.L.on k,h.K.mono fun j hj=>⟨hj.1,Nat.lt_of_lt_of_le hj.2.1 k.size,hj.2.2⟩,by obtain⟨a,c,hr⟩:=h.R; exact⟨a,c,hr.on k⟩,h.T⟩
theorem RI.hid {w:World}{b G N:Nat}{fa:Int}{fe:Value}{d:Nat}{wr:World}{m:Nd}{ts:List Tk}(h:RI w b G N fa fe d wr m ts):Hid (RI w b G N fa fe d wr m ts):=h
theorem RI.fin {w:World}{b G N:Nat}{fa:Int}{fe:Value}{d:Nat}{W:World}{k2 o2 ty2 n2 f2 p2:Int}{x2:ByteArray}{am2:Option Addr}{cm2:Nat}{ks2:List Nd}{ts:List Tk}(h:RI w b G N fa fe d W (.mk ⟨k2,o2,ty2,n2,f2,x2,p2⟩ am2 cm2 ks2) ts) (hb:b < w§) (hg:G < w§) :
  ∃ Y,((((((((W.setCell ⟨w§,0,none⟩ (zU k2)).setCell ⟨w§,1,none⟩ (zU o2)).setCell ⟨w§,2,none⟩ (zU ty2)).setCell ⟨w§,3,none⟩ (zI n2)).setCell ⟨w§,4,none⟩ (zU f2)).setCell ⟨w§,5,none⟩ (.string x2)).setCell ⟨w§,6,none⟩ (.slice am2 ks2.length cm2)).setCell ⟨w§,7,none⟩ (zI p2))=Y∧Y.heap[w§]? = some (.cells (Nd.mk ⟨k2,o2,ty2,n2,f2,x2,p2⟩ am2 cm2 ks2).vals 64 (0,0))∧Lies Y (.mk ⟨k2,o2,ty2,n2,f2,x2,p2⟩ am2 cm2 ks2)∧Bkn (fun k=>w§≤k∧k < Y§) (.mk ⟨k2,o2,ty2,n2,f2,x2,p2⟩ am2 cm2 ks2)∧(∃ a c,Rdr Y b G ts fa fe d a c)∧Mv w Y (fun k=>k=b):=by
 obtain⟨Y,eY,hY1,hY2,hY3,hY4⟩:=fin8 h.Z (zU k2) (zU o2) (zU ty2) (zI n2) (zU f2) (.string x2) (.slice am2 ks2.length cm2) (zI p2)
 refine⟨Y,eY,hY1,h.L.bkn h.K fun j hj=>hY3 j (by omega),h.K.mono fun j hj=>by omega,?_,hY4 _ _ h.M (Nat.le_refl _)⟩
 obtain⟨a,c,hr⟩:=h.R
 exact⟨a,c,hr.blk (hY3 _ (by omega)) (hY3 _ (by omega)) (by omega)⟩
theorem RI.next {w:World}{b G N:Nat}{fa:Int}{fe:Value}{d:Nat}{W:World}{k2 o2 ty2 n2 f2 p2 k3 o3 ty3 n3 f3 p3:Int}{x2 x3:ByteArray}{am2 am3:Option Addr}{cm2 cm3:Nat}{ks2 ks3:List Nd}{ts:List Tk}{q p:Int}(h:RI w b G N fa fe d W (.mk ⟨k2,o2,ty2,n2,f2,x2,p2⟩ am2 cm2 ks2) ts)
  (hb:b < w§) (hg:G < w§) (hN:w§ < N) (hl:Lies W (.mk ⟨k3,o3,ty3,n3,f3,x3,p3⟩ am3 cm3 ks3)) (hk:Bkn (fun k=>w§ < k∧k < W§∧k≠N) (.mk ⟨k3,o3,ty3,n3,f3,x3,p3⟩ am3 cm3 ks3)) (hr:Rg ⟨6,q,0,0,0,gE,p⟩) :
  RI w b G N fa fe d ((((((((((W.setCell ⟨N,0,none⟩ (zU 6)).setCell ⟨N,1,none⟩ (zU q)).setCell ⟨N,2,none⟩ (zU 0)).setCell ⟨N,3,none⟩ (zI 0)).setCell ⟨N,4,none⟩ (zU 0)).setCell ⟨N,5,none⟩ (.string ⟨#[]⟩)).setCell ⟨N,6,none⟩ (.slice (some ⟨W§+1,0,none⟩) 2 2)).setCell ⟨N,7,none⟩ (zI p)).alloc (.cells (zN k3 o3 ty3 n3 f3 x3 am3 ks3 cm3 p3) 64)).alloc (.cells #[zU k2,zU o2,zU ty2,zI n2,zU f2,.string x2,.slice am2 ks2.length cm2,zI p2,zU k3,zU o3,zU ty3,zI n3,zU f3,.string x3,.slice am3 ks3.length cm3,zI p3] 64)) (.mk ⟨6,q,0,0,0,gE,p⟩ (some ⟨W§+1,0,none⟩) 2 [(.mk ⟨k2,o2,ty2,n2,f2,x2,p2⟩ am2 cm2 ks2),(.mk ⟨k3,o3,ty3,n3,f3,x3,p3⟩ am3 cm3 ks3)]) ts:=by
 obtain⟨Y,eY,hY1,hY2,hY3,hY4⟩:=fin8 h.B (zU 6) (zU q) (zU 0) (zI 0) (zU 0) (.string ⟨#[]⟩) (.slice (some ⟨W§+1,0,none⟩) 2 2) (zI p)
 rw [eY]
 clear eY
 have hNW:N < W§:=(Array.getElem?_eq_some_iff.1 h.B).1
 have b1:=Bn Y (.cells (zN k3 o3 ty3 n3 f3 x3 am3 ks3 cm3 p3) 64)
 have s1:(Y.alloc (.cells (zN k3 o3 ty3 n3 f3 x3 am3 ks3 cm3 p3) 64))§=W§+1:=by rw [Sa,hY2]
 obtain⟨U,eU⟩:∃ U,Y.alloc (.cells (zN k3 o3 ty3 n3 f3 x3 am3 ks3 cm3 p3) 64)=U:=⟨_,rfl⟩
 rw [eU] at b1 s1 ⊢
 clear eU
 have b2:=Bn U (.cells #[zU k2,zU o2,zU ty2,zI n2,zU f2,.string x2,.slice am2 ks2.length cm2,zI p2,zU k3,zU o3,zU ty3,zI n3,zU f3,.string x3,.slice am3 ks3.length cm3,zI p3] 64)
 have hB:=Hn U (.cells #[zU k2,zU o2,zU ty2,zI n2,zU f2,.string x2,.slice am2 ks2.length cm2,zI p2,zU k3,zU o3,zU ty3,zI n3,zU f3,.string x3,.slice am3 ks3.length cm3,zI p3] 64)
 rw [s1] at hB
 have s2:(U.alloc (.cells #[zU k2,zU o2,zU ty2,zI n2,zU f2,.string x2,.slice am2 ks2.length cm2,zI p2,zU k3,zU o3,zU ty3,zI n3,zU f3,.string x3,.slice am3 ks3.length cm3,zI p3] 64))§=W§+2:=by rw [Sa,s1]
 obtain⟨Z,eZ⟩:∃ Z,U.alloc (.cells #[zU k2,zU o2,zU ty2,zI n2,zU f2,.string x2,.slice am2 ks2.length cm2,zI p2,zU k3,zU o3,zU ty3,zI n3,zU f3,.string x3,.slice am3 ks3.length cm3,zI p3] 64)=Z:=⟨_,rfl⟩
 rw [eZ] at b2 hB s2 ⊢
 clear eZ
 have hZ:∀ k,k < W§→k≠N→Z.heap[k]? = W.heap[k]?:=fun k h1 h2=>((b2.block k (by omega)).trans (b1.block k (by omega))).trans (hY3 k h2)
 refine⟨((hY4 _ _ h.M (by omega)).trans (Mv.ofBelow b1) (fun _ e=>.inl e)).trans (Mv.ofBelow b2) (fun _ e=>.inl e),(hZ _ (by omega) (by omega)).trans h.Z,((b2.block N (by omega)).trans (b1.block N (by omega))).trans hY1,?_,?_,?_,h.T⟩
 ·refine .mk _ _ _ _ hr (by simp) (by simp) ?_ ?_
  ·intro i hi
   refine⟨W§+1,0,rfl,?_⟩
   match i,hi with
   | 0,_=>exact⟨Co hB 0,Co hB 1,Co hB 2,Co hB 3,Co hB 4,Co hB 5,Co hB 6,Co hB 7⟩
   | 1,_=>exact⟨Co hB 8,Co hB 9,Co hB 10,Co hB 11,Co hB 12,Co hB 13,Co hB 14,Co hB 15⟩
  ·intro k hk'
   rcases List.mem_cons.1 hk' with e | e
   ·rw [e]; exact h.L.bkn h.K fun j hj=>hZ j hj.2.1 hj.2.2
   ·obtain rfl:=List.mem_singleton.1 e
    exact hl.bkn hk fun j hj=>hZ j hj.2.1 hj.2.2
 ·refine .mk _ _ _ _ (fun b' o e=>?_) ?_
  ·injection e with e; injection e with e; omega
  ·intro k hk'
   rcases List.mem_cons.1 hk' with e | e
   ·rw [e]; exact h.K.mono fun j hj=>⟨hj.1,by omega,hj.2.2⟩
   ·obtain rfl:=List.mem_singleton.1 e
    exact hk.mono fun j hj=>⟨hj.1,by omega,hj.2.2⟩
 ·obtain⟨a,c,hr⟩:=h.R
  exact⟨a,c,hr.blk (hZ _ (by omega) (by omega)) (hZ _ (by omega) (by omega)) (by omega)⟩
theorem gRowR_s (oper:ByteArray→Int) (part:List Tk→Except Ft (Tr × List Tk)) (m:Nat) (n:Tr) (t:Tk) (ts:List Tk):gRowR oper part (m+1) n (t :: ts)=if oper t.x=0 then .ok (n,t :: ts) else match part ts with | .error e=>.error e | .ok q=>gRowR oper part m (.mk ⟨6,oper t.x,0,0,0,gE,t.p⟩ [n,q.1]) q.2:=by
 by_cases e:oper t.x=0
 ·simp [gRowR,gLook,bind,Except.bind,e]
 ·simp only [gRowR,gLook,gStep,bind,Except.bind,if_neg e]
  cases part ts with
  | error e=>rfl
  | ok q=>rfl
theorem gRow_err {oper:ByteArray→Int}{part:List Tk→Except Ft (Tr × List Tk)}{most:Nat}{ts:List Tk}{f:Ft}(h:part ts=.error f):gRow oper part most ts=.error f:=by simp only [gRow,bind,Except.bind,h]
theorem gRow_ok {oper:ByteArray→Int}{part:List Tk→Except Ft (Tr × List Tk)}{most:Nat}{ts r:List Tk}{t:Tr}(h:part ts=.ok (t,r)):gRow oper part most ts=gRowR oper part most t r:=by simp only [gRow,bind,Except.bind,h]
theorem row_any (O P:Nat) (hO:∀ args v,Sem.run Tryz.prog (callFunc O args) v=.ok (.enter O args) v) (hP:∀ args v,Sem.run Tryz.prog (callFunc P args) v=.ok (.enter P args) v)
  (oper:ByteArray→Int) (part:List Tk→Except Ft (Tr × List Tk)) (hS:∀ ts t r,part ts=.ok (t,r)→∀ x ∈ r,x ∈ ts) (ho:∀ x,0≤oper x∧oper x≤255)
  {w:World}{b G:Nat}{ts:List Tk}{fa:Int}{fe:Value}{d:Nat}{a:Option Addr}{c:Nat}(h:Rdr w b G ts fa fe d a c) (hT:∀ t ∈ ts,RgT t) (most:Nat) (hm:most≤4096)
  (c1:∀ v t ts a c,Rdr v b G (t :: ts) fa fe d a c→Calls zG O #[zP b] v fun e w'=>e=.returned (zU (oper t.x))∧Below v§ v w')
  (c0:∀ v a c,Rdr v b G [] fa fe d a c→Calls zG O #[zP b] v fun e w'=>e=pan (ftV fa fe .lex)∧Below v§ v w')
  (cP:∀ v ts a c,Rdr v b G ts fa fe d a c→(∀ t ∈ ts,RgT t)→Calls zG P #[zP b] v (OutN b G fa fe d v (part ts))) :
  Calls zG 113 #[.pointer (some ⟨b, 0, none⟩), .func (.func O) #[.pointer (some ⟨b, 0, none⟩)] #[], .func (.func P) #[.pointer (some ⟨b, 0, none⟩)] #[], zI most] w (OutN b G fa fe d w (gRow oper part most ts)) := by
 have hb0:=Bn w (.cells zA7 64)
 have h0:=h.on hb0
 have HBL:Hid (b < w§):=h.lt
 have HGL:Hid (G < w§):=h.gl
 have HK0:Hid ((w.alloc (.cells zA7 64)).heap[w§]? = some (.cells zA7 64 (0,0))):=Hn _ _
 have HM0:Hid (Mv w (w.alloc (.cells #[zU 0,zU 0,zU 0,zI 0,zU 0,.string ⟨#[]⟩,.slice none 0 0,zI 0] 64)) (fun k=>k=b)):=Mv.ofBelow hb0
 have cC:=cP _ _ _ _ h0 hT
 have HS:Hid (∀ ts t r,part ts=.ok (t,r)→∀ x ∈ r,x ∈ ts):=hS
 have HO:Hid (∀ x,0≤oper x∧oper x≤255):=ho
 have HT:Hid (∀ t ∈ ts,RgT t):=hT
 clear h h0 hb0 hS ho hT
 obtain⟨r,er⟩:∃ r,part ts=r:=⟨_,rfl⟩
 rw [er] at cC
 have HER:Hid (part ts=r):=er
 clear er
 cases r with
 | error f =>
  rw [gRow_err HER.out]
  clear c1 c0 cP
  go_enter Tryz.func113,Tryz.ntmps113
  go_wp2_with fail
  refine cC.mono ?_
  rintro e w1 ⟨rfl,hm⟩
  exact⟨rfl,rfl,HM0.out.trans hm (fun k e=>.inl e)⟩
 | ok q =>
  obtain⟨t1,ts1⟩:=q
  obtain⟨X,eX⟩:∃ X,gRowR oper part most t1 ts1=X:=⟨_,rfl⟩
  have HX:Hid (gRowR oper part most t1 ts1=X):=eX
  rw [gRow_ok HER.out,eX]
  clear eX
  go_enter Tryz.func113,Tryz.ntmps113
  go_wp2_with fail
  refine cC.mono ?_
  rintro e w1 ⟨⟨m,rfl,rfl,hl,hk⟩,⟨a',c',hr⟩,hm1⟩
  have HT1:Hid (∀ t ∈ ts1,RgT t):=fun t ht=>HT.out t (HS.out _ _ _ HER.out t ht)
  have hWs:w§ < (w.alloc (.cells zA7 64))§:=(Array.getElem?_eq_some_iff.1 HK0.out).1
  have hsz:=hm1.size
  have HI:Hid (RI w b G w1§ fa fe d (w1.alloc (.cells m.vals 64)) m ts1):=by
   have hbN:=Bn w1 (.cells m.vals 64)
   refine⟨(HM0.out.trans hm1 (fun k e=>.inl e)).trans (Mv.ofBelow hbN) (fun k e=>.inl e),(hbN.block _ (by omega)).trans ((hm1.block _ hWs (fun e=>by have:=HBL.out; omega)).trans HK0.out),Hn _ _,hl.on hbN,hk.mono fun j hj=>⟨by omega,Nat.lt_of_lt_of_le hj.2 hbN.size,by omega⟩,⟨a',c',hr.on hbN⟩,HT1.out⟩
  have HW1:Hid (w§ < w1§):=by show _ < _; omega
  clear cC hr hm1 hl hk hsz hWs HT1 HER
  obtain⟨⟨k,o,ty,n,f,x,p⟩,am,cm,ks⟩:=m
  simp only [Nd.vals,Nd.h,Nd.a,Nd.c,Nd.ks,hdA] at HI ⊢
  go_wp2_with fail
  go_loopw [10,11,12,16] (fun _ _ _ t wr=>∃ (i:Nat) (m:Nd) (ts:List Tk),i≤most∧t=zI i∧Hid (RI w b G w1§ fa fe d wr m ts)∧Hid (gRowR oper part (most - i) (treeOf m) ts=X)) (fun _ _ _ t _=>most - (intOf t).toNat)
  case atStart=>exact⟨0,_,_,by omega,rfl,HI,HX⟩
  case round =>
   obtain⟨i,m,ts2,hi,rfl,HI2,HX2⟩:=hrel
   obtain⟨⟨k2,o2,ty2,n2,f2,x2,p2⟩,am2,cm2,ks2⟩:=m
   by_cases him:i=most
   ·subst him
    have hX3:=HX2.out
    rw [Nat.sub_self] at hX3
    simp only [gRowR] at hX3
    subst hX3
    clear HX HX2 c1 c0 cP HI
    have y0:wr.cell? ⟨w1§,0,none⟩=some (zU k2):=Co HI2.out.B 0
    have z0:wr.cell? ⟨w§,0,none⟩=some (zU 0):=Co HI2.out.Z 0
    have q0:=Fo HI2.out.Z 0
    have y1:wr.cell? ⟨w1§,1,none⟩=some (zU o2):=Co HI2.out.B 1
    have z1:wr.cell? ⟨w§,1,none⟩=some (zU 0):=Co HI2.out.Z 1
    have q1:=Fo HI2.out.Z 1
    have y2:wr.cell? ⟨w1§,2,none⟩=some (zU ty2):=Co HI2.out.B 2
    have z2:wr.cell? ⟨w§,2,none⟩=some (zU 0):=Co HI2.out.Z 2
    have q2:=Fo HI2.out.Z 2
    have y3:wr.cell? ⟨w1§,3,none⟩=some (zI n2):=Co HI2.out.B 3
    have z3:wr.cell? ⟨w§,3,none⟩=some (zI 0):=Co HI2.out.Z 3
    have q3:=Fo HI2.out.Z 3
    have y4:wr.cell? ⟨w1§,4,none⟩=some (zU f2):=Co HI2.out.B 4
    have z4:wr.cell? ⟨w§,4,none⟩=some (zU 0):=Co HI2.out.Z 4
    have q4:=Fo HI2.out.Z 4
    have y5:wr.cell? ⟨w1§,5,none⟩=some (.string x2):=Co HI2.out.B 5
    have z5:wr.cell? ⟨w§,5,none⟩=some (.string ⟨#[]⟩):=Co HI2.out.Z 5
    have q5:=Fo HI2.out.Z 5
    have y6:wr.cell? ⟨w1§,6,none⟩=some (.slice am2 ks2.length cm2):=Co HI2.out.B 6
    have z6:wr.cell? ⟨w§,6,none⟩=some (.slice none 0 0):=Co HI2.out.Z 6
    have q6:=Fo HI2.out.Z 6
    have y7:wr.cell? ⟨w1§,7,none⟩=some (zI p2):=Co HI2.out.B 7
    have z7:wr.cell? ⟨w§,7,none⟩=some (zI 0):=Co HI2.out.Z 7
    have q7:=Fo HI2.out.Z 7
    obtain⟨Y,eY,hY1,hY2,hY3,hY4,hY5⟩:=HI2.out.fin HBL.out HGL.out
    have HEY:Hid (_=Y):=eY
    have HY1:Hid (Y.heap[w§]? = some (.cells (Nd.mk ⟨k2,o2,ty2,n2,f2,x2,p2⟩ am2 cm2 ks2).vals 64 (0,0))):=hY1
    have HYY:Hid (Lies Y (.mk ⟨k2,o2,ty2,n2,f2,x2,p2⟩ am2 cm2 ks2)∧Bkn (fun k=>w§≤k∧k < Y§) (.mk ⟨k2,o2,ty2,n2,f2,x2,p2⟩ am2 cm2 ks2)∧(∃ a c,Rdr Y b G ts2 fa fe d a c)∧Mv w Y (fun k=>k=b)):=⟨hY2,hY3,hY4,hY5⟩
    clear eY hY1 hY2 hY3 hY4 hY5
    go_wp2_with fail
    rw [HEY.out]
    exact bodyPost_ret (results_cell_row rfl _ _ w§ 64 (Nd.mk ⟨k2,o2,ty2,n2,f2,x2,p2⟩ am2 cm2 ks2).vals (0,0) _ rfl HY1.out Tryz.underlying64 rfl zK) rfl ⟨⟨_,rfl,rfl,HYY.out.1,HYY.out.2.1⟩,HYY.out.2.2.1,HYY.out.2.2.2⟩
   have hlt:(i:Int) < most:=by omega
   have hm2:most - i=(most - i - 1)+1:=by omega
   have HM2:Hid (most - i=(most - i - 1)+1):=hm2
   have hX3:=HX2.out
   rw [hm2] at hX3
   clear hm2 HX2
   cases ts2 with
   | nil =>
    simp only [gRowR,gLook,bind,Except.bind] at hX3
    subst hX3
    obtain⟨a5,c5,hr5⟩:=HI2.out.R
    have cO:=c0 wr _ _ hr5
    clear HX c1 c0 cP HI hr5
    go_wp2_with fail
    refine cO.mono ?_
    rintro e w3 ⟨rfl,hb⟩
    exact⟨rfl,rfl,HI2.out.M.trans (Mv.ofBelow hb) (fun k e=>.inl e)⟩
   | cons t ts2 =>
    obtain⟨a5,c5,hr5⟩:=HI2.out.R
    have cO:=c1 wr _ _ _ _ hr5
    have hq:=HO.out t.x
    rw [gRowR_s] at hX3
    obtain⟨q,eq⟩:∃ q,oper t.x=q:=⟨_,rfl⟩
    rw [eq] at hX3 cO hq
    clear eq hr5
    by_cases hq0:q=0
    ·rw [if_pos hq0] at hX3
     subst hX3
     subst hq0
     clear HX c1 c0 cP HI
     go_wp2_with fail
     refine cO.mono ?_
     rintro e w3 ⟨rfl,hb⟩
     have HI3:=(HI2.out.on hb).hid
     clear hb cO
     have y0:w3.cell? ⟨w1§,0,none⟩=some (zU k2):=Co HI3.out.B 0
     have z0:w3.cell? ⟨w§,0,none⟩=some (zU 0):=Co HI3.out.Z 0
     have q0:=Fo HI3.out.Z 0
     have y1:w3.cell? ⟨w1§,1,none⟩=some (zU o2):=Co HI3.out.B 1
     have z1:w3.cell? ⟨w§,1,none⟩=some (zU 0):=Co HI3.out.Z 1
     have q1:=Fo HI3.out.Z 1
     have y2:w3.cell? ⟨w1§,2,none⟩=some (zU ty2):=Co HI3.out.B 2
     have z2:w3.cell? ⟨w§,2,none⟩=some (zU 0):=Co HI3.out.Z 2
     have q2:=Fo HI3.out.Z 2
     have y3:w3.cell? ⟨w1§,3,none⟩=some (zI n2):=Co HI3.out.B 3
     have z3:w3.cell? ⟨w§,3,none⟩=some (zI 0):=Co HI3.out.Z 3
     have q3:=Fo HI3.out.Z 3
     have y4:w3.cell? ⟨w1§,4,none⟩=some (zU f2):=Co HI3.out.B 4
     have z4:w3.cell? ⟨w§,4,none⟩=some (zU 0):=Co HI3.out.Z 4
     have q4:=Fo HI3.out.Z 4
     have y5:w3.cell? ⟨w1§,5,none⟩=some (.string x2):=Co HI3.out.B 5
     have z5:w3.cell? ⟨w§,5,none⟩=some (.string ⟨#[]⟩):=Co HI3.out.Z 5
     have q5:=Fo HI3.out.Z 5
     have y6:w3.cell? ⟨w1§,6,none⟩=some (.slice am2 ks2.length cm2):=Co HI3.out.B 6
     have z6:w3.cell? ⟨w§,6,none⟩=some (.slice none 0 0):=Co HI3.out.Z 6
     have q6:=Fo HI3.out.Z 6
     have y7:w3.cell? ⟨w1§,7,none⟩=some (zI p2):=Co HI3.out.B 7
     have z7:w3.cell? ⟨w§,7,none⟩=some (zI 0):=Co HI3.out.Z 7
     have q7:=Fo HI3.out.Z 7
     obtain⟨Y,eY,hY1,hY2,hY3,hY4,hY5⟩:=HI3.out.fin HBL.out HGL.out
     have HEY:Hid (_=Y):=eY
     have HY1:Hid (Y.heap[w§]? = some (.cells (Nd.mk ⟨k2,o2,ty2,n2,f2,x2,p2⟩ am2 cm2 ks2).vals 64 (0,0))):=hY1
     have HYY:Hid (Lies Y (.mk ⟨k2,o2,ty2,n2,f2,x2,p2⟩ am2 cm2 ks2)∧Bkn (fun k=>w§≤k∧k < Y§) (.mk ⟨k2,o2,ty2,n2,f2,x2,p2⟩ am2 cm2 ks2)∧(∃ a c,Rdr Y b G (t :: ts2) fa fe d a c)∧Mv w Y (fun k=>k=b)):=⟨hY2,hY3,hY4,hY5⟩
     clear eY hY1 hY2 hY3 hY4 hY5
     go_wp2_with fail
     rw [HEY.out]
     exact bodyPost_ret (results_cell_row rfl _ _ w§ 64 (Nd.mk ⟨k2,o2,ty2,n2,f2,x2,p2⟩ am2 cm2 ks2).vals (0,0) _ rfl HY1.out Tryz.underlying64 rfl zK) rfl ⟨⟨_,rfl,rfl,HYY.out.1,HYY.out.2.1⟩,HYY.out.2.2.1,HYY.out.2.2.2⟩
    ·rw [if_neg hq0] at hX3
     have HX3:Hid (_=X):=hX3
     have hq1:decide (q=0)=false:=decide_eq_false hq0
     have hq2:(q == 0)=false:=by simpa using hq0
     have hf4:=fun v=>field82_4 t v
     clear hX3
     go_wp2_with fail
     refine cO.mono ?_
     rintro e w3 ⟨rfl,hb⟩
     have HI3:=(HI2.out.on hb).hid
     obtain⟨a6,c6,hr6⟩:=HI3.out.R
     have cS:=step_ok hr6
     clear hb cO hr6
     go_wp2_with fail
     refine cS.mono ?_
     rintro e w4 ⟨rfl,⟨a7,c7,hr7⟩,hm7⟩
     have HM7:Hid (Mv w3 w4 (fun k=>k=b)):=hm7
     have HR7:=hr7.hid
     have HT7:Hid (∀ t ∈ ts2,RgT t):=fun y hy=>HI3.out.T y (List.mem_cons_of_mem _ hy)
     have cQ:=cP w4 _ _ _ hr7 HT7.out
     obtain⟨r2,er2⟩:∃ r2,part ts2=r2:=⟨_,rfl⟩
     have HR2:Hid (part ts2=r2):=er2
     have hX4:=HX3.out
     rw [er2] at hX4 cQ
     clear cS hm7 hr7 HX3 er2
     cases r2 with
     | error f =>
      simp only at hX4
      subst hX4
      clear HX c1 c0 cP HI
      go_wp2_with fail
      refine cQ.mono ?_
      rintro e w5 ⟨rfl,hm8⟩
      exact⟨rfl,rfl,(HI3.out.M.trans HM7.out (fun k e=>.inl e)).trans hm8 (fun k e=>.inl e)⟩
     | ok q2 =>
      obtain⟨t2,ts4⟩:=q2
      simp only at hX4
      have HX4:Hid (_=X):=hX4
      clear hX4
      go_wp2_with fail
      refine cQ.mono ?_
      rintro e w5 ⟨⟨m3,rfl,rfl,hl,hk⟩,⟨a8,c8,hr8⟩,hm8⟩
      obtain⟨⟨k3,o3,ty3,n3,f3,x3,p3⟩,am3,cm3,ks3⟩:=m3
      have h4N:w4.heap[w1§]? = some (.cells (Nd.mk ⟨k2,o2,ty2,n2,f2,x2,p2⟩ am2 cm2 ks2).vals 64 (0,0)):=(HM7.out.block _ (Array.getElem?_eq_some_iff.1 HI3.out.B).1 (fun e=>by have:=HBL.out; have:=HW1.out; omega)).trans HI3.out.B
      have h5N:w5.heap[w1§]? = some (.cells (Nd.mk ⟨k2,o2,ty2,n2,f2,x2,p2⟩ am2 cm2 ks2).vals 64 (0,0)):=(hm8.block _ (Array.getElem?_eq_some_iff.1 h4N).1 (fun e=>by have:=HBL.out; have:=HW1.out; omega)).trans h4N
      have hN5:w1§ < w5§:=(Array.getElem?_eq_some_iff.1 h5N).1
      obtain⟨y0,y1,y2,y3,y4,y5,y6,y7⟩:=cl8 h5N
      obtain⟨g0,g1,g2,g3,g4,g5,g6,g7⟩:=fz8 h5N
      have hMb:b≠w1§:=by have:=HBL.out; have:=HW1.out; omega
      have h34:=HM7.out.size
      have h45:=hm8.size
      have hst:∀ j,w§≤j→j < w3§→w5.heap[j]? = w3.heap[j]?:=fun j h1 h2=>(hm8.block j (by omega) (by have:=HBL.out; omega)).trans (HM7.out.block j h2 (by have:=HBL.out; omega))
      have hN3:w1§ < w3§:=(Array.getElem?_eq_some_iff.1 HI3.out.B).1
      have HI5:Hid (RI w b G w1§ fa fe d w5 (.mk ⟨k2,o2,ty2,n2,f2,x2,p2⟩ am2 cm2 ks2) ts4):=⟨(HI3.out.M.trans HM7.out (fun _ e=>.inl e)).trans hm8 (fun _ e=>.inl e),(hst _ (Nat.le_refl _) (Array.getElem?_eq_some_iff.1 HI3.out.Z).1).trans HI3.out.Z,h5N,HI3.out.L.bkn HI3.out.K fun j hj=>hst j (by omega) hj.2.1,HI3.out.K.mono fun j hj=>⟨hj.1,by omega,hj.2.2⟩,⟨a8,c8,hr8⟩,fun y hy=>HT7.out y (HS.out _ _ _ HR2.out y hy)⟩
      have HL5:=hl.hid
      have HK5:Hid (Bkn (fun k=>w§ < k∧k < w5§∧k≠w1§) (.mk ⟨k3,o3,ty3,n3,f3,x3,p3⟩ am3 cm3 ks3)):=hk.mono fun j hj=>by have:=HW1.out; omega
      have HG5:Hid (Rg ⟨6,q,0,0,0,gE,t.p⟩):=by
       have hp:=HI3.out.T t (by simp)
       have:=hp.p0; have:=hp.p1; have:=hq.1; have:=hq.2
       constructor <;> first | omega | (show (0:Nat)≤_; omega) | (simp only; omega) | simp
      clear cQ c1 c0 cP HX HI hst h4N h5N hk hl hr8 hm8 hMb h34 h45 hN3
      simp only [Nd.vals,Nd.h,Nd.a,Nd.c,Nd.ks,hdA]
      go_wp2_with fail
      refine⟨⟨i+1,_,ts4,by omega,by push_cast; rfl,(HI5.out.next HBL.out HGL.out HW1.out HL5.out HK5.out HG5.out).hid,?_⟩,by simp only [intOf]; omega⟩
      rw [Nat.sub_add_eq]
      exact HX4
theorem pass8 {w:World}{b G:Nat}{fa:Int}{fe:Value}{d:Nat}{W:World}{k2 o2 ty2 n2 f2 p2:Int}{x2:ByteArray}{am2:Option Addr}{cm2:Nat}{ks2:List Nd}{ts:List Tk}(hm:Mv (w.alloc (.cells zA7 64)) W (fun k=>k=b)) (hl:Lies W (.mk ⟨k2,o2,ty2,n2,f2,x2,p2⟩ am2 cm2 ks2)) (hk:Bkn (fun k=>(w.alloc (.cells zA7 64))§≤k∧k < W§) (.mk ⟨k2,o2,ty2,n2,f2,x2,p2⟩ am2 cm2 ks2)) (hr:∃ a c,Rdr W b G ts fa fe d a c) (hb:b < w§) (hg:G < w§) :
  W.heap[w§]? = some (.cells zA7 64 (0,0))∧∃ Y,((((((((W.setCell ⟨w§,0,none⟩ (zU k2)).setCell ⟨w§,1,none⟩ (zU o2)).setCell ⟨w§,2,none⟩ (zU ty2)).setCell ⟨w§,3,none⟩ (zI n2)).setCell ⟨w§,4,none⟩ (zU f2)).setCell ⟨w§,5,none⟩ (.string x2)).setCell ⟨w§,6,none⟩ (.slice am2 ks2.length cm2)).setCell ⟨w§,7,none⟩ (zI p2))=Y∧Y.heap[w§]? = some (.cells (Nd.mk ⟨k2,o2,ty2,n2,f2,x2,p2⟩ am2 cm2 ks2).vals 64 (0,0))∧Lies Y (.mk ⟨k2,o2,ty2,n2,f2,x2,p2⟩ am2 cm2 ks2)∧Bkn (fun k=>w§≤k∧k < Y§) (.mk ⟨k2,o2,ty2,n2,f2,x2,p2⟩ am2 cm2 ks2)∧(∃ a c,Rdr Y b G ts fa fe d a c)∧Mv w Y (fun k=>k=b):=by
 rw [Sa] at hk
 have hZ:W.heap[w§]? = some (.cells zA7 64 (0,0)):=(hm.block _ (by rw [Sa]; omega) (by omega)).trans (Hn _ _)
 obtain⟨Y,eY,hY1,hY2,hY3,hY4⟩:=fin8 hZ (zU k2) (zU o2) (zU ty2) (zI n2) (zU f2) (.string x2) (.slice am2 ks2.length cm2) (zI p2)
 refine⟨hZ,Y,eY,hY1,hl.bkn hk fun j hj=>hY3 j (by omega),hk.mono fun j hj=>by omega,?_,hY4 _ _ ((Mv.ofBelow (Bn _ _)).trans hm (fun _ e=>.inl e)) (Nat.le_refl _)⟩
 obtain⟨a,c,hr⟩:=hr
 exact⟨a,c,hr.blk (hY3 _ (by omega)) (hY3 _ (by omega)) (by omega)⟩
theorem proX_rg (x:ByteArray):0≤proX x∧proX x≤255:=by
 unfold proX
 repeat' split
 all_goals omega
theorem enter179 (args:Array Value) (v:World):Sem.run Tryz.prog (callFunc 179 args) v=.ok (.enter 179 args) v:=by kernel_rfl
theorem product_any (part:List Tk→Except Ft (Tr × List Tk)) (hS:∀ ts t r,part ts=.ok (t,r)→∀ x ∈ r,x ∈ ts)
  {w:World}{b G:Nat}{ts:List Tk}{fa:Int}{fe:Value}{d:Nat}{a:Option Addr}{c:Nat}(h:Rdr w b G ts fa fe d a c) (hT:∀ t ∈ ts,RgT t)
  (cP:∀ v ts a c,Rdr v b G ts fa fe d a c→(∀ t ∈ ts,RgT t)→Calls zG 180 #[zP b] v (OutN b G fa fe d v (part ts))) :
  Calls zG 173 #[zP b] w (OutN b G fa fe d w (gRow proX part 4096 ts)):=by
 have hmf:∀ (fn:Fn) (first cap:Array Value) (w:World),(Instr.makeFunc fn first cap).run Tryz.prog w=.ok (.func fn first cap) w:=fun _ _ _ _=>rfl
 have cR:=row_any 179 180 enter179 enter180 proX part hS proX_rg (h.on (Bn w (.cells zA7 64))) hT 4096 (by omega) (fun v t ts a c h=>proO_ok h) (fun v a c h=>proO_no h) cP
 have HBL:Hid (b < w§):=h.lt
 have HGL:Hid (G < w§):=h.gl
 obtain⟨X,eX⟩:∃ X,gRow proX part 4096 ts=X:=⟨_,rfl⟩
 rw [eX] at cR ⊢
 rw [show ((4096:Nat):Int)=4096 from rfl] at cR
 clear h cP eX hT hS
 cases X with
 | error f =>
  go_enter Tryz.func173,Tryz.ntmps173
  go_wp2_with fail
  refine cR.mono ?_
  rintro e w1 ⟨rfl,hm⟩
  exact⟨rfl,rfl,(Mv.ofBelow (Bn _ _)).trans hm (fun k e=>.inl e)⟩
 | ok q =>
  obtain⟨t,ts2⟩:=q
  go_enter Tryz.func173,Tryz.ntmps173
  go_wp2_with fail
  refine cR.mono ?_
  rintro e w1 ⟨⟨m,rfl,rfl,hl,hk⟩,hr,hm⟩
  obtain⟨⟨k2,o2,ty2,n2,f2,x2,p2⟩,am2,cm2,ks2⟩:=m
  obtain⟨hZ,Y,eY,hY1,hY2,hY3,hY4,hY5⟩:=pass8 hm hl hk hr HBL.out HGL.out
  obtain⟨z0,z1,z2,z3,z4,z5,z6,z7⟩:=cl8 hZ
  obtain⟨q0,q1,q2,q3,q4,q5,q6,q7⟩:=fz8 hZ
  have HEY:Hid (_=Y):=eY
  have HY1:=hd hY1
  have HYY:Hid (Lies Y (.mk ⟨k2,o2,ty2,n2,f2,x2,p2⟩ am2 cm2 ks2)∧Bkn (fun k=>w§≤k∧k < Y§) (.mk ⟨k2,o2,ty2,n2,f2,x2,p2⟩ am2 cm2 ks2)∧(∃ a c,Rdr Y b G ts2 fa fe d a c)∧Mv w Y (fun k=>k=b)):=⟨hY2,hY3,hY4,hY5⟩
  clear eY hY1 hY2 hY3 hY4 hY5 hZ hm hl hk hr cR
  simp only [Nd.vals,Nd.h,Nd.a,Nd.c,Nd.ks,hdA]
  go_wp2_with fail
  rw [HEY.out]
  exact bodyPost_ret (results_cell_row rfl _ _ w§ 64 (Nd.mk ⟨k2,o2,ty2,n2,f2,x2,p2⟩ am2 cm2 ks2).vals (0,0) _ rfl HY1.out Tryz.underlying64 rfl zK) rfl ⟨⟨_,rfl,rfl,HYY.out.1,HYY.out.2.1⟩,HYY.out.2.2.1,HYY.out.2.2.2⟩
theorem sumX_rg (x:ByteArray):0≤sumX x∧sumX x≤255:=by
 unfold sumX
 repeat' split
 all_goals omega
theorem enter172 (args:Array Value) (v:World):Sem.run Tryz.prog (callFunc 172 args) v=.ok (.enter 172 args) v:=by kernel_rfl
theorem enter173 (args:Array Value) (v:World):Sem.run Tryz.prog (callFunc 173 args) v=.ok (.enter 173 args) v:=by kernel_rfl
theorem sum_any (part:List Tk→Except Ft (Tr × List Tk)) (hS:∀ ts t r,part ts=.ok (t,r)→∀ x ∈ r,x ∈ ts)
  {w:World}{b G:Nat}{ts:List Tk}{fa:Int}{fe:Value}{d:Nat}{a:Option Addr}{c:Nat}(h:Rdr w b G ts fa fe d a c) (hT:∀ t ∈ ts,RgT t)
  (cP:∀ v ts a c,Rdr v b G ts fa fe d a c→(∀ t ∈ ts,RgT t)→Calls zG 173 #[zP b] v (OutN b G fa fe d v (part ts))) :
  Calls zG 155 #[zP b] w (OutN b G fa fe d w (gRow sumX part 4096 ts)):=by
 have hmf:∀ (fn:Fn) (first cap:Array Value) (w:World),(Instr.makeFunc fn first cap).run Tryz.prog w=.ok (.func fn first cap) w:=fun _ _ _ _=>rfl
 have cR:=row_any 172 173 enter172 enter173 sumX part hS sumX_rg (h.on (Bn w (.cells zA7 64))) hT 4096 (by omega) (fun v t ts a c h=>sumO_ok h) (fun v a c h=>sumO_no h) cP
 have HBL:Hid (b < w§):=h.lt
 have HGL:Hid (G < w§):=h.gl
 obtain⟨X,eX⟩:∃ X,gRow sumX part 4096 ts=X:=⟨_,rfl⟩
 rw [eX] at cR ⊢
 rw [show ((4096:Nat):Int)=4096 from rfl] at cR
 clear h cP eX hT hS
 cases X with
 | error f =>
  go_enter Tryz.func155,Tryz.ntmps155
  go_wp2_with fail
  refine cR.mono ?_
  rintro e w1 ⟨rfl,hm⟩
  exact⟨rfl,rfl,(Mv.ofBelow (Bn _ _)).trans hm (fun k e=>.inl e)⟩
 | ok q =>
  obtain⟨t,ts2⟩:=q
  go_enter Tryz.func155,Tryz.ntmps155
  go_wp2_with fail
  refine cR.mono ?_
  rintro e w1 ⟨⟨m,rfl,rfl,hl,hk⟩,hr,hm⟩
  obtain⟨⟨k2,o2,ty2,n2,f2,x2,p2⟩,am2,cm2,ks2⟩:=m
  obtain⟨hZ,Y,eY,hY1,hY2,hY3,hY4,hY5⟩:=pass8 hm hl hk hr HBL.out HGL.out
  obtain⟨z0,z1,z2,z3,z4,z5,z6,z7⟩:=cl8 hZ
  obtain⟨q0,q1,q2,q3,q4,q5,q6,q7⟩:=fz8 hZ
  have HEY:Hid (_=Y):=eY
  have HY1:=hd hY1
  have HYY:Hid (Lies Y (.mk ⟨k2,o2,ty2,n2,f2,x2,p2⟩ am2 cm2 ks2)∧Bkn (fun k=>w§≤k∧k < Y§) (.mk ⟨k2,o2,ty2,n2,f2,x2,p2⟩ am2 cm2 ks2)∧(∃ a c,Rdr Y b G ts2 fa fe d a c)∧Mv w Y (fun k=>k=b)):=⟨hY2,hY3,hY4,hY5⟩
  clear eY hY1 hY2 hY3 hY4 hY5 hZ hm hl hk hr cR
  simp only [Nd.vals,Nd.h,Nd.a,Nd.c,Nd.ks,hdA]
  go_wp2_with fail
  rw [HEY.out]
  exact bodyPost_ret (results_cell_row rfl _ _ w§ 64 (Nd.mk ⟨k2,o2,ty2,n2,f2,x2,p2⟩ am2 cm2 ks2).vals (0,0) _ rfl HY1.out Tryz.underlying64 rfl zK) rfl ⟨⟨_,rfl,rfl,HYY.out.1,HYY.out.2.1⟩,HYY.out.2.2.1,HYY.out.2.2.2⟩
theorem cmpX_rg (x:ByteArray):0≤cmpX x∧cmpX x≤255:=by
 unfold cmpX
 repeat' split
 all_goals omega
theorem enter154 (args:Array Value) (v:World):Sem.run Tryz.prog (callFunc 154 args) v=.ok (.enter 154 args) v:=by kernel_rfl
theorem enter155 (args:Array Value) (v:World):Sem.run Tryz.prog (callFunc 155 args) v=.ok (.enter 155 args) v:=by kernel_rfl
theorem compare_any (part:List Tk→Except Ft (Tr × List Tk)) (hS:∀ ts t r,part ts=.ok (t,r)→∀ x ∈ r,x ∈ ts)
  {w:World}{b G:Nat}{ts:List Tk}{fa:Int}{fe:Value}{d:Nat}{a:Option Addr}{c:Nat}(h:Rdr w b G ts fa fe d a c) (hT:∀ t ∈ ts,RgT t)
  (cP:∀ v ts a c,Rdr v b G ts fa fe d a c→(∀ t ∈ ts,RgT t)→Calls zG 155 #[zP b] v (OutN b G fa fe d v (part ts))) :
  Calls zG 136 #[zP b] w (OutN b G fa fe d w (gRow cmpX part 1 ts)):=by
 have hmf:∀ (fn:Fn) (first cap:Array Value) (w:World),(Instr.makeFunc fn first cap).run Tryz.prog w=.ok (.func fn first cap) w:=fun _ _ _ _=>rfl
 have cR:=row_any 154 155 enter154 enter155 cmpX part hS cmpX_rg (h.on (Bn w (.cells zA7 64))) hT 1 (by omega) (fun v t ts a c h=>cmpO_ok h) (fun v a c h=>cmpO_no h) cP
 have HBL:Hid (b < w§):=h.lt
 have HGL:Hid (G < w§):=h.gl
 obtain⟨X,eX⟩:∃ X,gRow cmpX part 1 ts=X:=⟨_,rfl⟩
 rw [eX] at cR ⊢
 rw [show ((1:Nat):Int)=1 from rfl] at cR
 clear h cP eX hT hS
 cases X with
 | error f =>
  go_enter Tryz.func136,Tryz.ntmps136
  go_wp2_with fail
  refine cR.mono ?_
  rintro e w1 ⟨rfl,hm⟩
  exact⟨rfl,rfl,(Mv.ofBelow (Bn _ _)).trans hm (fun k e=>.inl e)⟩
 | ok q =>
  obtain⟨t,ts2⟩:=q
  go_enter Tryz.func136,Tryz.ntmps136
  go_wp2_with fail
  refine cR.mono ?_
  rintro e w1 ⟨⟨m,rfl,rfl,hl,hk⟩,hr,hm⟩
  obtain⟨⟨k2,o2,ty2,n2,f2,x2,p2⟩,am2,cm2,ks2⟩:=m
  obtain⟨hZ,Y,eY,hY1,hY2,hY3,hY4,hY5⟩:=pass8 hm hl hk hr HBL.out HGL.out
  obtain⟨z0,z1,z2,z3,z4,z5,z6,z7⟩:=cl8 hZ
  obtain⟨q0,q1,q2,q3,q4,q5,q6,q7⟩:=fz8 hZ
  have HEY:Hid (_=Y):=eY
  have HY1:=hd hY1
  have HYY:Hid (Lies Y (.mk ⟨k2,o2,ty2,n2,f2,x2,p2⟩ am2 cm2 ks2)∧Bkn (fun k=>w§≤k∧k < Y§) (.mk ⟨k2,o2,ty2,n2,f2,x2,p2⟩ am2 cm2 ks2)∧(∃ a c,Rdr Y b G ts2 fa fe d a c)∧Mv w Y (fun k=>k=b)):=⟨hY2,hY3,hY4,hY5⟩
  clear eY hY1 hY2 hY3 hY4 hY5 hZ hm hl hk hr cR
  simp only [Nd.vals,Nd.h,Nd.a,Nd.c,Nd.ks,hdA]
  go_wp2_with fail
  rw [HEY.out]
  exact bodyPost_ret (results_cell_row rfl _ _ w§ 64 (Nd.mk ⟨k2,o2,ty2,n2,f2,x2,p2⟩ am2 cm2 ks2).vals (0,0) _ rfl HY1.out Tryz.underlying64 rfl zK) rfl ⟨⟨_,rfl,rfl,HYY.out.1,HYY.out.2.1⟩,HYY.out.2.2.1,HYY.out.2.2.2⟩
theorem andX_rg (x:ByteArray):0≤andX x∧andX x≤255:=by
 unfold andX
 repeat' split
 all_goals omega
theorem enter135 (args:Array Value) (v:World):Sem.run Tryz.prog (callFunc 135 args) v=.ok (.enter 135 args) v:=by kernel_rfl
theorem enter136 (args:Array Value) (v:World):Sem.run Tryz.prog (callFunc 136 args) v=.ok (.enter 136 args) v:=by kernel_rfl
theorem and_any (part:List Tk→Except Ft (Tr × List Tk)) (hS:∀ ts t r,part ts=.ok (t,r)→∀ x ∈ r,x ∈ ts)
  {w:World}{b G:Nat}{ts:List Tk}{fa:Int}{fe:Value}{d:Nat}{a:Option Addr}{c:Nat}(h:Rdr w b G ts fa fe d a c) (hT:∀ t ∈ ts,RgT t)
  (cP:∀ v ts a c,Rdr v b G ts fa fe d a c→(∀ t ∈ ts,RgT t)→Calls zG 136 #[zP b] v (OutN b G fa fe d v (part ts))) :
  Calls zG 115 #[zP b] w (OutN b G fa fe d w (gRow andX part 4096 ts)):=by
 have hmf:∀ (fn:Fn) (first cap:Array Value) (w:World),(Instr.makeFunc fn first cap).run Tryz.prog w=.ok (.func fn first cap) w:=fun _ _ _ _=>rfl
 have cR:=row_any 135 136 enter135 enter136 andX part hS andX_rg (h.on (Bn w (.cells zA7 64))) hT 4096 (by omega) (fun v t ts a c h=>andO_ok h) (fun v a c h=>andO_no h) cP
 have HBL:Hid (b < w§):=h.lt
 have HGL:Hid (G < w§):=h.gl
 obtain⟨X,eX⟩:∃ X,gRow andX part 4096 ts=X:=⟨_,rfl⟩
 rw [eX] at cR ⊢
 rw [show ((4096:Nat):Int)=4096 from rfl] at cR
 clear h cP eX hT hS
 cases X with
 | error f =>
  go_enter Tryz.func115,Tryz.ntmps115
  go_wp2_with fail
  refine cR.mono ?_
  rintro e w1 ⟨rfl,hm⟩
  exact⟨rfl,rfl,(Mv.ofBelow (Bn _ _)).trans hm (fun k e=>.inl e)⟩
 | ok q =>
  obtain⟨t,ts2⟩:=q
  go_enter Tryz.func115,Tryz.ntmps115
  go_wp2_with fail
  refine cR.mono ?_
  rintro e w1 ⟨⟨m,rfl,rfl,hl,hk⟩,hr,hm⟩
  obtain⟨⟨k2,o2,ty2,n2,f2,x2,p2⟩,am2,cm2,ks2⟩:=m
  obtain⟨hZ,Y,eY,hY1,hY2,hY3,hY4,hY5⟩:=pass8 hm hl hk hr HBL.out HGL.out
  obtain⟨z0,z1,z2,z3,z4,z5,z6,z7⟩:=cl8 hZ
  obtain⟨q0,q1,q2,q3,q4,q5,q6,q7⟩:=fz8 hZ
  have HEY:Hid (_=Y):=eY
  have HY1:=hd hY1
  have HYY:Hid (Lies Y (.mk ⟨k2,o2,ty2,n2,f2,x2,p2⟩ am2 cm2 ks2)∧Bkn (fun k=>w§≤k∧k < Y§) (.mk ⟨k2,o2,ty2,n2,f2,x2,p2⟩ am2 cm2 ks2)∧(∃ a c,Rdr Y b G ts2 fa fe d a c)∧Mv w Y (fun k=>k=b)):=⟨hY2,hY3,hY4,hY5⟩
  clear eY hY1 hY2 hY3 hY4 hY5 hZ hm hl hk hr cR
  simp only [Nd.vals,Nd.h,Nd.a,Nd.c,Nd.ks,hdA]
  go_wp2_with fail
  rw [HEY.out]
  exact bodyPost_ret (results_cell_row rfl _ _ w§ 64 (Nd.mk ⟨k2,o2,ty2,n2,f2,x2,p2⟩ am2 cm2 ks2).vals (0,0) _ rfl HY1.out Tryz.underlying64 rfl zK) rfl ⟨⟨_,rfl,rfl,HYY.out.1,HYY.out.2.1⟩,HYY.out.2.2.1,HYY.out.2.2.2⟩
theorem orX_rg (x:ByteArray):0≤orX x∧orX x≤255:=by
 unfold orX
 repeat' split
 all_goals omega
theorem enter114 (args:Array Value) (v:World):Sem.run Tryz.prog (callFunc 114 args) v=.ok (.enter 114 args) v:=by kernel_rfl
theorem enter115 (args:Array Value) (v:World):Sem.run Tryz.prog (callFunc 115 args) v=.ok (.enter 115 args) v:=by kernel_rfl
theorem or_any (part:List Tk→Except Ft (Tr × List Tk)) (hS:∀ ts t r,part ts=.ok (t,r)→∀ x ∈ r,x ∈ ts)
  {w:World}{b G:Nat}{ts:List Tk}{fa:Int}{fe:Value}{d:Nat}{a:Option Addr}{c:Nat}(h:Rdr w b G ts fa fe d a c) (hT:∀ t ∈ ts,RgT t)
  (cP:∀ v ts a c,Rdr v b G ts fa fe d a c→(∀ t ∈ ts,RgT t)→Calls zG 115 #[zP b] v (OutN b G fa fe d v (part ts))) :
  Calls zG 86 #[zP b] w (OutN b G fa fe d w (gRow orX part 4096 ts)):=by
 have hmf:∀ (fn:Fn) (first cap:Array Value) (w:World),(Instr.makeFunc fn first cap).run Tryz.prog w=.ok (.func fn first cap) w:=fun _ _ _ _=>rfl
 have cR:=row_any 114 115 enter114 enter115 orX part hS orX_rg (h.on (Bn w (.cells zA7 64))) hT 4096 (by omega) (fun v t ts a c h=>orO_ok h) (fun v a c h=>orO_no h) cP
 have HBL:Hid (b < w§):=h.lt
 have HGL:Hid (G < w§):=h.gl
 obtain⟨X,eX⟩:∃ X,gRow orX part 4096 ts=X:=⟨_,rfl⟩
 rw [eX] at cR ⊢
 rw [show ((4096:Nat):Int)=4096 from rfl] at cR
 clear h cP eX hT hS
 cases X with
 | error f =>
  go_enter Tryz.func86,Tryz.ntmps86
  go_wp2_with fail
  refine cR.mono ?_
  rintro e w1 ⟨rfl,hm⟩
  exact⟨rfl,rfl,(Mv.ofBelow (Bn _ _)).trans hm (fun k e=>.inl e)⟩
 | ok q =>
  obtain⟨t,ts2⟩:=q
  go_enter Tryz.func86,Tryz.ntmps86
  go_wp2_with fail
  refine cR.mono ?_
  rintro e w1 ⟨⟨m,rfl,rfl,hl,hk⟩,hr,hm⟩
  obtain⟨⟨k2,o2,ty2,n2,f2,x2,p2⟩,am2,cm2,ks2⟩:=m
  obtain⟨hZ,Y,eY,hY1,hY2,hY3,hY4,hY5⟩:=pass8 hm hl hk hr HBL.out HGL.out
  obtain⟨z0,z1,z2,z3,z4,z5,z6,z7⟩:=cl8 hZ
  obtain⟨q0,q1,q2,q3,q4,q5,q6,q7⟩:=fz8 hZ
  have HEY:Hid (_=Y):=eY
  have HY1:=hd hY1
  have HYY:Hid (Lies Y (.mk ⟨k2,o2,ty2,n2,f2,x2,p2⟩ am2 cm2 ks2)∧Bkn (fun k=>w§≤k∧k < Y§) (.mk ⟨k2,o2,ty2,n2,f2,x2,p2⟩ am2 cm2 ks2)∧(∃ a c,Rdr Y b G ts2 fa fe d a c)∧Mv w Y (fun k=>k=b)):=⟨hY2,hY3,hY4,hY5⟩
  clear eY hY1 hY2 hY3 hY4 hY5 hZ hm hl hk hr cR
  simp only [Nd.vals,Nd.h,Nd.a,Nd.c,Nd.ks,hdA]
  go_wp2_with fail
  rw [HEY.out]
  exact bodyPost_ret (results_cell_row rfl _ _ w§ 64 (Nd.mk ⟨k2,o2,ty2,n2,f2,x2,p2⟩ am2 cm2 ks2).vals (0,0) _ rfl HY1.out Tryz.underlying64 rfl zK) rfl ⟨⟨_,rfl,rfl,HYY.out.1,HYY.out.2.1⟩,HYY.out.2.2.1,HYY.out.2.2.2⟩
theorem kid8 {w:World}{b G:Nat}{fa:Int}{fe:Value}{d:Nat}{W:World}{k2 o2 ty2 n2 f2 p2 q p:Int}{x2:ByteArray}{am2:Option Addr}{cm2:Nat}{ks2:List Nd}{ts:List Tk}(hm:Mv w W (fun k=>k=b)) (hZ:W.heap[w§]? = some (.cells zA7 64 (0,0))) (hl:Lies W (.mk ⟨k2,o2,ty2,n2,f2,x2,p2⟩ am2 cm2 ks2)) (hk:Bkn (fun k=>w§ < k∧k < W§) (.mk ⟨k2,o2,ty2,n2,f2,x2,p2⟩ am2 cm2 ks2)) (hr:∃ a c,Rdr W b G ts fa fe d a c) (hb:b < w§) (hg:G < w§) (hq:Rg ⟨5,q,0,0,0,gE,p⟩) :
  ∃ Y,(((((((((W.setCell ⟨w§,0,none⟩ (zU 5)).setCell ⟨w§,1,none⟩ (zU q)).setCell ⟨w§,2,none⟩ (zU 0)).setCell ⟨w§,3,none⟩ (zI 0)).setCell ⟨w§,4,none⟩ (zU 0)).setCell ⟨w§,5,none⟩ (.string ⟨#[]⟩)).setCell ⟨w§,6,none⟩ (.slice (some ⟨W§+1,0,none⟩) 1 1)).setCell ⟨w§,7,none⟩ (zI p)).alloc (.cells (zN k2 o2 ty2 n2 f2 x2 am2 ks2 cm2 p2) 64)).alloc (.cells (zN k2 o2 ty2 n2 f2 x2 am2 ks2 cm2 p2) 64)=Y∧Y.heap[w§]? = some (.cells (Nd.mk ⟨5,q,0,0,0,gE,p⟩ (some ⟨W§+1,0,none⟩) 1 [(.mk ⟨k2,o2,ty2,n2,f2,x2,p2⟩ am2 cm2 ks2)]).vals 64 (0,0))∧Lies Y (.mk ⟨5,q,0,0,0,gE,p⟩ (some ⟨W§+1,0,none⟩) 1 [(.mk ⟨k2,o2,ty2,n2,f2,x2,p2⟩ am2 cm2 ks2)])∧Bkn (fun k=>w§≤k∧k < Y§) (.mk ⟨5,q,0,0,0,gE,p⟩ (some ⟨W§+1,0,none⟩) 1 [(.mk ⟨k2,o2,ty2,n2,f2,x2,p2⟩ am2 cm2 ks2)])∧(∃ a c,Rdr Y b G ts fa fe d a c)∧Mv w Y (fun k=>k=b):=by
 obtain⟨Y,eY,hY1,hY2,hY3,hY4⟩:=fin8 hZ (zU 5) (zU q) (zU 0) (zI 0) (zU 0) (.string ⟨#[]⟩) (.slice (some ⟨W§+1,0,none⟩) 1 1) (zI p)
 rw [eY]
 clear eY
 have hNW:w§ < W§:=(Array.getElem?_eq_some_iff.1 hZ).1
 have b1:=Bn Y (.cells (zN k2 o2 ty2 n2 f2 x2 am2 ks2 cm2 p2) 64)
 have s1:(Y.alloc (.cells (zN k2 o2 ty2 n2 f2 x2 am2 ks2 cm2 p2) 64))§=W§+1:=by rw [Sa,hY2]
 obtain⟨U,eU⟩:∃ U,Y.alloc (.cells (zN k2 o2 ty2 n2 f2 x2 am2 ks2 cm2 p2) 64)=U:=⟨_,rfl⟩
 rw [eU] at b1 s1 ⊢
 clear eU
 have b2:=Bn U (.cells (zN k2 o2 ty2 n2 f2 x2 am2 ks2 cm2 p2) 64)
 have hB:=Hn U (.cells (zN k2 o2 ty2 n2 f2 x2 am2 ks2 cm2 p2) 64)
 rw [s1] at hB
 have s2:(U.alloc (.cells (zN k2 o2 ty2 n2 f2 x2 am2 ks2 cm2 p2) 64))§=W§+2:=by rw [Sa,s1]
 obtain⟨Z,eZ⟩:∃ Z,U.alloc (.cells (zN k2 o2 ty2 n2 f2 x2 am2 ks2 cm2 p2) 64)=Z:=⟨_,rfl⟩
 rw [eZ] at b2 hB s2 ⊢
 clear eZ
 have hZZ:∀ k,k < W§→k≠w§→Z.heap[k]? = W.heap[k]?:=fun k h1 h2=>((b2.block k (by omega)).trans (b1.block k (by omega))).trans (hY3 k h2)
 refine⟨Z,rfl,((b2.block _ (by omega)).trans (b1.block _ (by omega))).trans hY1,?_,?_,?_,((hY4 _ _ hm (by omega)).trans (Mv.ofBelow b1) (fun _ e=>.inl e)).trans (Mv.ofBelow b2) (fun _ e=>.inl e)⟩
 ·refine .mk _ _ _ _ hq (by simp) (by simp) ?_ ?_
  ·intro i hi
   refine⟨W§+1,0,rfl,?_⟩
   match i,hi with
   | 0,_=>exact⟨Co hB 0,Co hB 1,Co hB 2,Co hB 3,Co hB 4,Co hB 5,Co hB 6,Co hB 7⟩
  ·intro k hk'
   obtain rfl:=List.mem_singleton.1 hk'
   exact hl.bkn hk fun j hj=>hZZ j hj.2 (by omega)
 ·refine .mk _ _ _ _ (fun b' o e=>?_) ?_
  ·injection e with e; injection e with e; omega
  ·intro k hk'
   obtain rfl:=List.mem_singleton.1 hk'
   exact hk.mono fun j hj=>⟨by omega,by omega⟩
 ·obtain⟨a,c,hr⟩:=hr
  exact⟨a,c,hr.blk (hZZ _ (by omega) (by omega)) (hZZ _ (by omega) (by omega)) (by omega)⟩
theorem unX_rg (x:ByteArray):0≤unX x∧unX x≤255:=by
 unfold unX
 repeat' split
 all_goals omega
theorem gUn_s (ex un:List Tk→Except Ft (Tr × List Tk)) (d:Nat) (t:Tk) (ts:List Tk):gUn ex un d (t :: ts)=if unX t.x=0 then gOne ex d (t :: ts) else match gOpn d (t :: ts) with | .error e=>.error e | .ok q=>match un q.2 with | .error e=>.error e | .ok q2=>.ok (.mk ⟨5,unX t.x,0,0,0,gE,q.1.p⟩ [q2.1],q2.2):=by
 by_cases e:unX t.x=0
 ·simp [gUn,gLook,bind,Except.bind,e]
 ·simp only [gUn,gLook,bind,Except.bind,if_neg e]
  cases gOpn d (t :: ts) with
  | error e=>rfl
  | ok q =>
   simp only
   cases un q.2 with
   | error e=>rfl
   | ok q=>rfl
theorem gOpn_mem {d:Nat}{ts:List Tk}{u:Tk}{r:List Tk}(h:gOpn d ts=.ok (u,r)):ts=u :: r:=by
 cases ts with
 | nil=>
  by_cases e:d < 24
  ·simp [gOpn,gNeed,gStep,bind,Except.bind,e] at h
  ·simp [gOpn,gNeed,gLook,bind,Except.bind,e] at h
 | cons t ts =>
  by_cases e:d < 24
  ·simp [gOpn,gNeed,gStep,bind,Except.bind,e] at h
   rw [h.1,h.2]
  ·simp [gOpn,gNeed,gLook,bind,Except.bind,e] at h
theorem gOpn_lt {d:Nat}{ts:List Tk}{q:Tk × List Tk}(h:gOpn d ts=.ok q):d < 24:=by
 by_cases e:d < 24
 ·exact e
 ·cases ts <;> simp [gOpn,gNeed,gLook,bind,Except.bind,e] at h
theorem unary_any (ex un:List Tk→Except Ft (Tr × List Tk))
  {w:World}{b G:Nat}{ts:List Tk}{fa:Int}{fe:Value}{d:Nat}{a:Option Addr}{c:Nat}(h:Rdr w b G ts fa fe d a c) (hT:∀ t ∈ ts,RgT t) (hd:d < 1000)
  (cO:∀ v a c,Rdr v b G ts fa fe d a c→Calls zG 184 #[zP b] v (OutN b G fa fe d v (gOne ex d ts)))
  (cU:d < 24→∀ v ts a c,Rdr v b G ts fa fe (d+1) a c→(∀ t ∈ ts,RgT t)→Calls zG 180 #[zP b] v (OutN b G fa fe (d+1) v (un ts))) :
  Calls zG 180 #[zP b] w (OutN b G fa fe d w (gUn ex un d ts)):=by
 have hmf:∀ (fn:Fn) (first cap:Array Value) (w:World),(Instr.makeFunc fn first cap).run Tryz.prog w=.ok (.func fn first cap) w:=fun _ _ _ _=>rfl
 have hb0:=Bn w (.cells zA7 64)
 have h0:=h.on hb0
 have HBL:Hid (b < w§):=h.lt
 have HGL:Hid (G < w§):=h.gl
 have HB0:=zH hb0
 have HZ0:Hid ((w.alloc (.cells zA7 64)).heap[w§]? = some (.cells zA7 64 (0,0))):=Hn _ _
 clear h hb0
 cases ts with
 | nil =>
  have cN:=unO_no h0
  have eG:gUn ex un d []=.error .lex:=by simp [gUn,gLook,bind,Except.bind]
  rw [eG]
  clear cO cU h0 eG
  go_enter Tryz.func180,Tryz.ntmps180
  go_wp2_with fail
  refine cN.mono ?_
  rintro e w1 ⟨rfl,hb⟩
  exact⟨rfl,rfl,Mv.ofBelow (B2 HB0.out hb)⟩
 | cons t ts =>
  have cN:=unO_ok h0
  have HH0:=h0.hid
  rw [gUn_s]
  have hq:=unX_rg t.x
  obtain⟨q,eq⟩:∃ q,unX t.x=q:=⟨_,rfl⟩
  rw [eq] at cN hq ⊢
  clear eq h0
  by_cases hq0:q=0
  ·rw [if_pos hq0]
   subst hq0
   obtain⟨X,eX⟩:∃ X,gOne ex d (t :: ts)=X:=⟨_,rfl⟩
   rw [eX] at cO ⊢
   clear eX cU
   go_enter Tryz.func180,Tryz.ntmps180
   go_wp2_with fail
   refine cN.mono ?_
   rintro e w1 ⟨rfl,hb⟩
   have HB1:=zH hb
   have cR:=cO w1 _ _ (HH0.out.on hb)
   clear cO cN hb
   cases X with
   | error f =>
    go_wp2_with fail
    refine cR.mono ?_
    rintro e w2 ⟨rfl,hm⟩
    exact⟨rfl,rfl,(Mv.ofBelow (B2 HB0.out HB1.out)).trans hm (fun k e=>.inl e)⟩
   | ok q =>
    obtain⟨t2,ts2⟩:=q
    go_wp2_with fail
    refine cR.mono ?_
    rintro e w2 ⟨⟨m,rfl,rfl,hl,hk⟩,hr,hm⟩
    obtain⟨⟨k2,o2,ty2,n2,f2,x2,p2⟩,am2,cm2,ks2⟩:=m
    obtain⟨hZ,Y,eY,hY1,hY2,hY3,hY4,hY5⟩:=pass8 ((Mv.ofBelow HB1.out).trans hm (fun k e=>.inl e)) hl (hk.mono fun j hj=>⟨Nat.le_trans HB1.out.size hj.1,hj.2⟩) hr HBL.out HGL.out
    obtain⟨z0,z1,z2,z3,z4,z5,z6,z7⟩:=cl8 hZ
    obtain⟨q0,q1,q2,q3,q4,q5,q6,q7⟩:=fz8 hZ
    have HEY:Hid (_=Y):=eY
    have HY1:=zH hY1
    have HYY:Hid (Lies Y (.mk ⟨k2,o2,ty2,n2,f2,x2,p2⟩ am2 cm2 ks2)∧Bkn (fun k=>w§≤k∧k < Y§) (.mk ⟨k2,o2,ty2,n2,f2,x2,p2⟩ am2 cm2 ks2)∧(∃ a c,Rdr Y b G ts2 fa fe d a c)∧Mv w Y (fun k=>k=b)):=⟨hY2,hY3,hY4,hY5⟩
    clear eY hY1 hY2 hY3 hY4 hY5 hZ hm hl hk hr cR
    simp only [Nd.vals,Nd.h,Nd.a,Nd.c,Nd.ks,hdA]
    go_wp2_with fail
    rw [HEY.out]
    exact bodyPost_ret (results_cell_row rfl _ _ w§ 64 (Nd.mk ⟨k2,o2,ty2,n2,f2,x2,p2⟩ am2 cm2 ks2).vals (0,0) _ rfl HY1.out Tryz.underlying64 rfl zK) rfl ⟨⟨_,rfl,rfl,HYY.out.1,HYY.out.2.1⟩,HYY.out.2.2.1,HYY.out.2.2.2⟩
  ·rw [if_neg hq0]
   have hq1:decide (q=0)=false:=decide_eq_false hq0
   have hq2:(q == 0)=false:=by simpa using hq0
   obtain⟨X,eX⟩:∃ X,gOpn d (t :: ts)=X:=⟨_,rfl⟩
   have HEX:Hid (gOpn d (t :: ts)=X):=eX
   rw [eX]
   clear eX cO
   cases X with
   | error f =>
    clear cU
    go_enter Tryz.func180,Tryz.ntmps180
    go_wp2_with fail
    refine cN.mono ?_
    rintro e w1 ⟨rfl,hb⟩
    have HB1:=zH (B2 HB0.out hb)
    have cS:=open_any (HH0.out.on hb)
    rw [HEX.out] at cS
    clear cN hb
    go_wp2_with fail
    refine cS.mono ?_
    rintro e w2 ⟨rfl,hm⟩
    exact⟨rfl,rfl,(Mv.ofBelow HB1.out).trans hm (fun k e=>.inl e)⟩
   | ok q3 =>
    obtain⟨u,r⟩:=q3
    have hur:=gOpn_mem HEX.out
    have HTr:Hid (∀ t ∈ r,RgT t):=fun y hy=>hT y (by rw [hur]; exact List.mem_cons_of_mem _ hy)
    have HTu:Hid (RgT u):=hT u (by rw [hur]; simp)
    have HG5:Hid (Rg ⟨5,q,0,0,0,gE,u.p⟩):=by
     have:=HTu.out.p0; have:=HTu.out.p1; have:=hq.1; have:=hq.2
     constructor <;> first | omega | (show (0:Nat)≤_; omega) | (simp only; omega) | simp
    have hf4:=fun v=>field82_4 u v
    obtain⟨X,eX⟩:∃ X,un r=X:=⟨_,rfl⟩
    have HEY:Hid (un r=X):=eX
    simp only
    rw [eX]
    clear eX hur hT
    go_enter Tryz.func180,Tryz.ntmps180
    go_wp2_with fail
    refine cN.mono ?_
    rintro e w1 ⟨rfl,hb⟩
    have HB1:=zH (B2 HB0.out hb)
    have HZ1:Hid (w1.heap[w§]? = some (.cells zA7 64 (0,0))):=(hb.block _ (Array.getElem?_eq_some_iff.1 HZ0.out).1).trans HZ0.out
    have cS:=open_any (HH0.out.on hb)
    rw [HEX.out] at cS
    clear cN hb
    go_wp2_with fail
    refine cS.mono ?_
    rintro e w2 ⟨rfl,⟨a2,c2,hr2⟩,hm2⟩
    have HM2:=zH ((Mv.ofBelow HB1.out).trans hm2 (fun k e=>.inl e))
    have HZ2:Hid (w2.heap[w§]? = some (.cells zA7 64 (0,0))):=(hm2.block _ (Array.getElem?_eq_some_iff.1 HZ1.out).1 (by have:=HBL.out; omega)).trans HZ1.out
    replace cU:=cU (gOpn_lt HEX.out)
    have cW:=within_any 180 enter180 hr2 hd (un r) (fun v a c h=>cU v _ _ _ h HTr.out)
    rw [HEY.out] at cW
    clear cS hm2 hr2 cU HEY HEX
    cases X with
    | error f =>
     go_wp2_with fail
     refine cW.mono ?_
     rintro e w3 ⟨rfl,hm⟩
     exact⟨rfl,rfl,HM2.out.trans hm (fun k e=>.inl e)⟩
    | ok q4 =>
     obtain⟨t3,ts3⟩:=q4
     go_wp2_with fail
     refine cW.mono ?_
     rintro e w3 ⟨⟨m,rfl,rfl,hl,hk⟩,hr,hm⟩
     obtain⟨⟨k2,o2,ty2,n2,f2,x2,p2⟩,am2,cm2,ks2⟩:=m
     have hW2:w§ < w2§:=(Array.getElem?_eq_some_iff.1 HZ2.out).1
     have hZ3:w3.heap[w§]? = some (.cells zA7 64 (0,0)):=(hm.block _ hW2 (by have:=HBL.out; omega)).trans HZ2.out
     have hsz:w§ < w3§:=(Array.getElem?_eq_some_iff.1 hZ3).1
     obtain⟨Y,eY,hY1,hY2,hY3,hY4,hY5⟩:=kid8 (HM2.out.trans hm (fun k e=>.inl e)) hZ3 hl (hk.mono fun j hj=>⟨by omega,hj.2⟩) hr HBL.out HGL.out HG5.out
     obtain⟨z0,z1,z2,z3,z4,z5,z6,z7⟩:=cl8 hZ3
     obtain⟨q0,q1,q2,q3,q4,q5,q6,q7⟩:=fz8 hZ3
     have HEY:Hid (_=Y):=eY
     have HY1:=zH hY1
     have HYY:Hid (Lies Y (.mk ⟨5,q,0,0,0,gE,u.p⟩ (some ⟨w3§+1,0,none⟩) 1 [(.mk ⟨k2,o2,ty2,n2,f2,x2,p2⟩ am2 cm2 ks2)])∧Bkn (fun k=>w§≤k∧k < Y§) (.mk ⟨5,q,0,0,0,gE,u.p⟩ (some ⟨w3§+1,0,none⟩) 1 [(.mk ⟨k2,o2,ty2,n2,f2,x2,p2⟩ am2 cm2 ks2)])∧(∃ a c,Rdr Y b G ts3 fa fe d a c)∧Mv w Y (fun k=>k=b)):=⟨hY2,hY3,hY4,hY5⟩
     clear eY hY1 hY2 hY3 hY4 hY5 hZ3 hm hl hk hr cW hW2
     simp only [Nd.vals,Nd.h,Nd.a,Nd.c,Nd.ks,hdA]
     go_wp2_with fail
     rw [HEY.out]
     exact bodyPost_ret (results_cell_row rfl _ _ w§ 64 (Nd.mk ⟨5,q,0,0,0,gE,u.p⟩ (some ⟨w3§+1,0,none⟩) 1 [(.mk ⟨k2,o2,ty2,n2,f2,x2,p2⟩ am2 cm2 ks2)]).vals (0,0) _ rfl HY1.out Tryz.underlying64 rfl zK) rfl ⟨⟨_,rfl,rfl,HYY.out.1,HYY.out.2.1⟩,HYY.out.2.2.1,HYY.out.2.2.2⟩
theorem bind_ok {α β:Type}{x:Except Ft α}{f:α→Except Ft β}{y:β}(h:(x >>= f)=.ok y):∃ a,x=.ok a∧f a=.ok y:=by
 cases x with
 | error e=>cases h
 | ok a=>exact⟨a,rfl,h⟩
def Subs (p:List Tk→Except Ft (Tr × List Tk)):Prop:=∀ ts t r,p ts=.ok (t,r)→∀ x ∈ r,x ∈ ts
theorem gStep_sub {ts:List Tk}{q:Tk × List Tk}(h:gStep ts=.ok q):∀ x ∈ q.2,x ∈ ts:=by
 cases ts with
 | nil=>cases h
 | cons t ts=>cases h; intro x hx; exact List.mem_cons_of_mem _ hx
theorem gTake_sub {y:ByteArray}{ts:List Tk}{q:Tk × List Tk}(h:gTake y ts=.ok q):∀ x ∈ q.2,x ∈ ts:=by
 unfold gTake at h
 obtain⟨_,_,h⟩:=bind_ok h
 obtain⟨_,_,h⟩:=bind_ok h
 exact gStep_sub h
theorem gOpn_sub {d:Nat}{ts:List Tk}{q:Tk × List Tk}(h:gOpn d ts=.ok q):∀ x ∈ q.2,x ∈ ts:=by
 unfold gOpn at h
 obtain⟨_,_,h⟩:=bind_ok h
 exact gStep_sub h
theorem gLit_sub:Subs gLit:=by
 intro ts t r h
 unfold gLit at h
 obtain⟨_,_,h⟩:=bind_ok h
 obtain⟨_,_,h⟩:=bind_ok h
 obtain⟨q,h1,h⟩:=bind_ok h
 cases h
 exact gStep_sub h1
theorem gRowR_sub (oper:ByteArray→Int) {part:List Tk→Except Ft (Tr × List Tk)}(hp:Subs part):∀ m n,Subs (gRowR oper part m n):=by
 intro m
 induction m with
 | zero=>intro n ts t r h x hx; cases h; exact hx
 | succ m ih =>
  intro n ts t r h
  unfold gRowR at h
  obtain⟨u,_,h⟩:=bind_ok h
  split at h
  ·cases h; exact fun x hx=>hx
  ·obtain⟨q,h1,h⟩:=bind_ok h
   obtain⟨q2,h2,h⟩:=bind_ok h
   exact fun x hx=>gStep_sub h1 x (hp _ _ _ h2 x (ih _ _ _ _ h x hx))
theorem gRow_sub (oper:ByteArray→Int) {part:List Tk→Except Ft (Tr × List Tk)}(hp:Subs part) (m:Nat):Subs (gRow oper part m):=by
 intro ts t r h
 unfold gRow at h
 obtain⟨q,h1,h⟩:=bind_ok h
 exact fun x hx=>hp _ _ _ h1 x (gRowR_sub oper hp m _ _ _ _ h x hx)
theorem gOne_sub {ex:List Tk→Except Ft (Tr × List Tk)}(he:Subs ex) (d:Nat):Subs (gOne ex d):=by
 intro ts t r h
 unfold gOne at h
 obtain⟨u,_,h⟩:=bind_ok h
 split at h
 ·obtain⟨q1,h1,h⟩:=bind_ok h
  obtain⟨q2,h2,h⟩:=bind_ok h
  obtain⟨q3,h3,h⟩:=bind_ok h
  cases h
  exact fun x hx=>gOpn_sub h1 x (he _ _ _ h2 x (gTake_sub h3 x hx))
 split at h
 ·obtain⟨q1,h1,h⟩:=bind_ok h
  obtain⟨_,_,h⟩:=bind_ok h
  obtain⟨_,_,h⟩:=bind_ok h
  obtain⟨q2,h2,h⟩:=bind_ok h
  cases h
  exact fun x hx=>gStep_sub h1 x (gStep_sub h2 x hx)
 split at h
 ·obtain⟨q1,h1,h⟩:=bind_ok h
  obtain⟨⟨u2,r2⟩,h2,h⟩:=bind_ok h
  simp only at h
  split at h
  ·obtain⟨q3,h3,h⟩:=bind_ok h
   obtain⟨q4,h4,h⟩:=bind_ok h
   cases h
   exact fun x hx=>gOpn_sub h1 x (gTake_sub h2 x (he _ _ _ h3 x (gTake_sub h4 x hx)))
  ·obtain⟨q3,h3,h⟩:=bind_ok h
   obtain⟨q4,h4,h⟩:=bind_ok h
   obtain⟨q5,h5,h⟩:=bind_ok h
   obtain⟨q6,h6,h⟩:=bind_ok h
   cases h
   exact fun x hx=>gOpn_sub h1 x (gTake_sub h2 x (he _ _ _ h3 x (gTake_sub h4 x (he _ _ _ h5 x (gTake_sub h6 x hx)))))
 split at h
 ·obtain⟨q1,h1,h⟩:=bind_ok h
  obtain⟨q2,h2,h⟩:=bind_ok h
  obtain⟨q3,h3,h⟩:=bind_ok h
  obtain⟨q4,h4,h⟩:=bind_ok h
  cases h
  exact fun x hx=>gOpn_sub h1 x (gTake_sub h2 x (he _ _ _ h3 x (gTake_sub h4 x hx)))
 split at h
 ·obtain⟨q1,h1,h⟩:=bind_ok h
  cases h
  exact gStep_sub h1
 split at h
 ·obtain⟨q1,h1,h⟩:=bind_ok h
  cases h
  exact gStep_sub h1
 exact gLit_sub _ _ _ h
theorem gUn_sub {ex un:List Tk→Except Ft (Tr × List Tk)}(he:Subs ex) (hu:Subs un) (d:Nat):Subs (gUn ex un d):=by
 intro ts t r h
 unfold gUn at h
 obtain⟨u,_,h⟩:=bind_ok h
 split at h
 ·exact gOne_sub he d _ _ _ h
 ·obtain⟨q1,h1,h⟩:=bind_ok h
  obtain⟨q2,h2,h⟩:=bind_ok h
  cases h
  exact fun x hx=>gOpn_sub h1 x (hu _ _ _ h2 x hx)
theorem gEx_sub {ex un:List Tk→Except Ft (Tr × List Tk)}(he:Subs ex) (hu:Subs un) (d:Nat):Subs (gEx ex un d):=by
 intro ts t r h
 unfold gEx at h
 obtain⟨q,h0,h⟩:=bind_ok h
 have hr:=gRow_sub orX (gRow_sub andX (gRow_sub cmpX (gRow_sub sumX (gRow_sub proX (gUn_sub he hu d) 4096) 4096) 1) 4096) 4096 _ _ _ h0
 obtain⟨b,_,h⟩:=bind_ok h
 split at h
 ·cases h; exact hr
 ·obtain⟨q1,h1,h⟩:=bind_ok h
  obtain⟨q2,h2,h⟩:=bind_ok h
  obtain⟨q3,h3,h⟩:=bind_ok h
  obtain⟨q4,h4,h⟩:=bind_ok h
  cases h
  exact fun x hx=>hr x (gOpn_sub h1 x (he _ _ _ h2 x (gTake_sub h3 x (he _ _ _ h4 x hx))))
theorem exF_sub:∀ f d,Subs (exF f d)∧Subs (unF f d):=by
 intro f
 induction f with
 | zero=>intro d; exact⟨fun ts t r h=>(by rw [exF] at h; cases h),fun ts t r h=>(by rw [unF] at h; cases h)⟩
 | succ f ih =>
  intro d
  refine⟨fun ts t r h=>?_,fun ts t r h=>?_⟩
  ·rw [exF] at h; exact gEx_sub (ih (d+1)).1 (ih (d+1)).2 d ts t r h
  ·rw [unF] at h; exact gUn_sub (ih (d+1)).1 (ih (d+1)).2 d ts t r h
structure BX (w:World) (b G:Nat) (fa:Int) (fe:Value) (d:Nat) (W:World) (bs:List (Nat × Nd)) (ts:List Tk):Prop where
 M:Mv w W (fun k=>k=b)
 Z:W.heap[w§]? = some (.cells #[zU 0,zU 0,zU 0,zI 0,zU 0,.string ⟨#[]⟩,.slice none 0 0,zI 0] 64 (0,0))
 B:∀ p ∈ bs,W.heap[p.1]? = some (.cells p.2.vals 64 (0,0))∧w§ < p.1∧Lies W p.2∧Bkn (fun k=>w§ < k∧k < W§) p.2
 R:∃ a c,Rdr W b G ts fa fe d a c
 T:∀ t ∈ ts,RgT t
theorem BX.hid {w:World}{b G:Nat}{fa:Int}{fe:Value}{d:Nat}{W:World}{bs:List (Nat × Nd)}{ts:List Tk}(h:BX w b G fa fe d W bs ts):Hid (BX w b G fa fe d W bs ts):=h
theorem BX.mv {w:World}{b G:Nat}{fa:Int}{fe:Value}{d:Nat}{W W':World}{bs:List (Nat × Nd)}{ts ts':List Tk}(h:BX w b G fa fe d W bs ts) (hb:b < w§) (hm:Mv W W' (fun k=>k=b)) (hr:∃ a c,Rdr W' b G ts' fa fe d a c) (ht:∀ x ∈ ts',x ∈ ts):BX w b G fa fe d W' bs ts':=by
 have hs:=hm.size
 refine⟨h.M.trans hm (fun _ e=>.inl e),(hm.block _ (Array.getElem?_eq_some_iff.1 h.Z).1 (by omega)).trans h.Z,fun p hp=>?_,hr,fun t h2=>h.T t (ht t h2)⟩
 obtain⟨h1,h2,h3,h4⟩:=h.B p hp
 exact⟨(hm.block _ (Array.getElem?_eq_some_iff.1 h1).1 (by omega)).trans h1,h2,h3.bkn h4 fun j hj=>hm.block j hj.2 (by omega),h4.mono fun j hj=>⟨hj.1,by omega⟩⟩
theorem BX.on {w:World}{b G:Nat}{fa:Int}{fe:Value}{d:Nat}{W W':World}{bs:List (Nat × Nd)}{ts:List Tk}(h:BX w b G fa fe d W bs ts) (hb:b < w§) (k:Below W§ W W'):BX w b G fa fe d W' bs ts:=by
 refine h.mv hb (Mv.ofBelow k) ?_ (fun _ h=>h)
 obtain⟨a,c,hr⟩:=h.R
 exact⟨a,c,hr.on k⟩
theorem BX.push {w:World}{b G:Nat}{fa:Int}{fe:Value}{d:Nat}{W:World}{bs:List (Nat × Nd)}{ts:List Tk}{m:Nd}(h:BX w b G fa fe d W bs ts) (hb:b < w§) (hl:Lies W m) (hk:Bkn (fun k=>w§ < k∧k < W§) m):BX w b G fa fe d (W.alloc (.cells m.vals 64)) ((W§,m) :: bs) ts:=by
 have k:=Bn W (.cells m.vals 64)
 have h':=h.on hb k
 refine⟨h'.M,h'.Z,fun p hp=>?_,h'.R,h'.T⟩
 rcases List.mem_cons.1 hp with e | e
 ·rw [e]
  exact⟨Hn _ _,(Array.getElem?_eq_some_iff.1 h.Z).1,hl.on k,hk.mono fun j hj=>⟨hj.1,Nat.lt_of_lt_of_le hj.2 k.size⟩⟩
 ·exact h'.B p e
theorem BX.fin {w:World}{b G:Nat}{fa:Int}{fe:Value}{d:Nat}{W:World}{k2 o2 ty2 n2 f2 p2:Int}{x2:ByteArray}{am2:Option Addr}{cm2:Nat}{ks2:List Nd}{bs:List (Nat × Nd)}{N:Nat}{ts:List Tk}(h:BX w b G fa fe d W ((N,(.mk ⟨k2,o2,ty2,n2,f2,x2,p2⟩ am2 cm2 ks2)) :: bs) ts) (hb:b < w§) (hg:G < w§) :
  ∃ Y,((((((((W.setCell ⟨w§,0,none⟩ (zU k2)).setCell ⟨w§,1,none⟩ (zU o2)).setCell ⟨w§,2,none⟩ (zU ty2)).setCell ⟨w§,3,none⟩ (zI n2)).setCell ⟨w§,4,none⟩ (zU f2)).setCell ⟨w§,5,none⟩ (.string x2)).setCell ⟨w§,6,none⟩ (.slice am2 ks2.length cm2)).setCell ⟨w§,7,none⟩ (zI p2))=Y∧Y.heap[w§]? = some (.cells (Nd.mk ⟨k2,o2,ty2,n2,f2,x2,p2⟩ am2 cm2 ks2).vals 64 (0,0))∧Lies Y (.mk ⟨k2,o2,ty2,n2,f2,x2,p2⟩ am2 cm2 ks2)∧Bkn (fun k=>w§≤k∧k < Y§) (.mk ⟨k2,o2,ty2,n2,f2,x2,p2⟩ am2 cm2 ks2)∧(∃ a c,Rdr Y b G ts fa fe d a c)∧Mv w Y (fun k=>k=b):=by
 obtain⟨Y,eY,hY1,hY2,hY3,hY4⟩:=fin8 h.Z (zU k2) (zU o2) (zU ty2) (zI n2) (zU f2) (.string x2) (.slice am2 ks2.length cm2) (zI p2)
 obtain⟨_,_,hl,hk⟩:=h.B _ (List.mem_cons_self ..)
 refine⟨Y,eY,hY1,hl.bkn hk fun j hj=>hY3 j (by omega),hk.mono fun j hj=>by omega,?_,hY4 _ _ h.M (Nat.le_refl _)⟩
 obtain⟨a,c,hr⟩:=h.R
 exact⟨a,c,hr.blk (hY3 _ (by omega)) (hY3 _ (by omega)) (by omega)⟩
theorem three8 {w:World}{b G:Nat}{fa:Int}{fe:Value}{d:Nat}{W:World}{k2 o2 ty2 n2 f2 p2:Int}{x2:ByteArray}{am2:Option Addr}{cm2:Nat}{ks2:List Nd}{k3 o3 ty3 n3 f3 p3:Int}{x3:ByteArray}{am3:Option Addr}{cm3:Nat}{ks3:List Nd}{k4 o4 ty4 n4 f4 p4:Int}{x4:ByteArray}{am4:Option Addr}{cm4:Nat}{ks4:List Nd}{p:Int}{ts:List Tk}(hm:Mv w W (fun k=>k=b)) (hZ:W.heap[w§]? = some (.cells zA7 64 (0,0))) (hl2:Lies W (.mk ⟨k2,o2,ty2,n2,f2,x2,p2⟩ am2 cm2 ks2)) (hk2:Bkn (fun k=>w§ < k∧k < W§) (.mk ⟨k2,o2,ty2,n2,f2,x2,p2⟩ am2 cm2 ks2)) (hl3:Lies W (.mk ⟨k3,o3,ty3,n3,f3,x3,p3⟩ am3 cm3 ks3)) (hk3:Bkn (fun k=>w§ < k∧k < W§) (.mk ⟨k3,o3,ty3,n3,f3,x3,p3⟩ am3 cm3 ks3)) (hl4:Lies W (.mk ⟨k4,o4,ty4,n4,f4,x4,p4⟩ am4 cm4 ks4)) (hk4:Bkn (fun k=>w§ < k∧k < W§) (.mk ⟨k4,o4,ty4,n4,f4,x4,p4⟩ am4 cm4 ks4)) (hr:∃ a c,Rdr W b G ts fa fe d a c) (hb:b < w§) (hg:G < w§) (hq:Rg ⟨7,0,0,0,0,gE,p⟩) :
  ∃ Y,(((((((((W.setCell ⟨w§,0,none⟩ (zU 7)).setCell ⟨w§,1,none⟩ (zU 0)).setCell ⟨w§,2,none⟩ (zU 0)).setCell ⟨w§,3,none⟩ (zI 0)).setCell ⟨w§,4,none⟩ (zU 0)).setCell ⟨w§,5,none⟩ (.string ⟨#[]⟩)).setCell ⟨w§,6,none⟩ (.slice (some ⟨W§+1,0,none⟩) 3 3)).setCell ⟨w§,7,none⟩ (zI p)).alloc (.cells (zN k4 o4 ty4 n4 f4 x4 am4 ks4 cm4 p4) 64)).alloc (.cells #[zU k2,zU o2,zU ty2,zI n2,zU f2,.string x2,.slice am2 ks2.length cm2,zI p2,zU k3,zU o3,zU ty3,zI n3,zU f3,.string x3,.slice am3 ks3.length cm3,zI p3,zU k4,zU o4,zU ty4,zI n4,zU f4,.string x4,.slice am4 ks4.length cm4,zI p4] 64)=Y∧Y.heap[w§]? = some (.cells (Nd.mk ⟨7,0,0,0,0,gE,p⟩ (some ⟨W§+1,0,none⟩) 3 [(.mk ⟨k2,o2,ty2,n2,f2,x2,p2⟩ am2 cm2 ks2),(.mk ⟨k3,o3,ty3,n3,f3,x3,p3⟩ am3 cm3 ks3),(.mk ⟨k4,o4,ty4,n4,f4,x4,p4⟩ am4 cm4 ks4)]).vals 64 (0,0))∧Lies Y (.mk ⟨7,0,0,0,0,gE,p⟩ (some ⟨W§+1,0,none⟩) 3 [(.mk ⟨k2,o2,ty2,n2,f2,x2,p2⟩ am2 cm2 ks2),(.mk ⟨k3,o3,ty3,n3,f3,x3,p3⟩ am3 cm3 ks3),(.mk ⟨k4,o4,ty4,n4,f4,x4,p4⟩ am4 cm4 ks4)])∧Bkn (fun k=>w§≤k∧k < Y§) (.mk ⟨7,0,0,0,0,gE,p⟩ (some ⟨W§+1,0,none⟩) 3 [(.mk ⟨k2,o2,ty2,n2,f2,x2,p2⟩ am2 cm2 ks2),(.mk ⟨k3,o3,ty3,n3,f3,x3,p3⟩ am3 cm3 ks3),(.mk ⟨k4,o4,ty4,n4,f4,x4,p4⟩ am4 cm4 ks4)])∧(∃ a c,Rdr Y b G ts fa fe d a c)∧Mv w Y (fun k=>k=b):=by
 obtain⟨Y,eY,hY1,hY2,hY3,hY4⟩:=fin8 hZ (zU 7) (zU 0) (zU 0) (zI 0) (zU 0) (.string ⟨#[]⟩) (.slice (some ⟨W§+1,0,none⟩) 3 3) (zI p)
 rw [eY]
 clear eY
 have hNW:w§ < W§:=(Array.getElem?_eq_some_iff.1 hZ).1
 have b1:=Bn Y (.cells (zN k4 o4 ty4 n4 f4 x4 am4 ks4 cm4 p4) 64)
 have s1:(Y.alloc (.cells (zN k4 o4 ty4 n4 f4 x4 am4 ks4 cm4 p4) 64))§=W§+1:=by rw [Sa,hY2]
 obtain⟨U,eU⟩:∃ U,Y.alloc (.cells (zN k4 o4 ty4 n4 f4 x4 am4 ks4 cm4 p4) 64)=U:=⟨_,rfl⟩
 rw [eU] at b1 s1 ⊢
 clear eU
 have b2:=Bn U (.cells #[zU k2,zU o2,zU ty2,zI n2,zU f2,.string x2,.slice am2 ks2.length cm2,zI p2,zU k3,zU o3,zU ty3,zI n3,zU f3,.string x3,.slice am3 ks3.length cm3,zI p3,zU k4,zU o4,zU ty4,zI n4,zU f4,.string x4,.slice am4 ks4.length cm4,zI p4] 64)
 have hB:=Hn U (.cells #[zU k2,zU o2,zU ty2,zI n2,zU f2,.string x2,.slice am2 ks2.length cm2,zI p2,zU k3,zU o3,zU ty3,zI n3,zU f3,.string x3,.slice am3 ks3.length cm3,zI p3,zU k4,zU o4,zU ty4,zI n4,zU f4,.string x4,.slice am4 ks4.length cm4,zI p4] 64)
 rw [s1] at hB
 have s2:(U.alloc (.cells #[zU k2,zU o2,zU ty2,zI n2,zU f2,.string x2,.slice am2 ks2.length cm2,zI p2,zU k3,zU o3,zU ty3,zI n3,zU f3,.string x3,.slice am3 ks3.length cm3,zI p3,zU k4,zU o4,zU ty4,zI n4,zU f4,.string x4,.slice am4 ks4.length cm4,zI p4] 64))§=W§+2:=by rw [Sa,s1]
 obtain⟨Z,eZ⟩:∃ Z,U.alloc (.cells #[zU k2,zU o2,zU ty2,zI n2,zU f2,.string x2,.slice am2 ks2.length cm2,zI p2,zU k3,zU o3,zU ty3,zI n3,zU f3,.string x3,.slice am3 ks3.length cm3,zI p3,zU k4,zU o4,zU ty4,zI n4,zU f4,.string x4,.slice am4 ks4.length cm4,zI p4] 64)=Z:=⟨_,rfl⟩
 rw [eZ] at b2 hB s2 ⊢
 clear eZ
 have hZZ:∀ k,k < W§→k≠w§→Z.heap[k]? = W.heap[k]?:=fun k h1 h2=>((b2.block k (by omega)).trans (b1.block k (by omega))).trans (hY3 k h2)
 refine⟨Z,rfl,((b2.block _ (by omega)).trans (b1.block _ (by omega))).trans hY1,?_,?_,?_,((hY4 _ _ hm (by omega)).trans (Mv.ofBelow b1) (fun _ e=>.inl e)).trans (Mv.ofBelow b2) (fun _ e=>.inl e)⟩
 ·refine .mk _ _ _ _ hq (by simp) (by simp) ?_ ?_
  ·intro i hi
   refine⟨W§+1,0,rfl,?_⟩
   match i,hi with
   | 0,_=>exact⟨Co hB 0,Co hB 1,Co hB 2,Co hB 3,Co hB 4,Co hB 5,Co hB 6,Co hB 7⟩
   | 1,_=>exact⟨Co hB 8,Co hB 9,Co hB 10,Co hB 11,Co hB 12,Co hB 13,Co hB 14,Co hB 15⟩
   | 2,_=>exact⟨Co hB 16,Co hB 17,Co hB 18,Co hB 19,Co hB 20,Co hB 21,Co hB 22,Co hB 23⟩
  ·intro k hk'
   rcases List.mem_cons.1 hk' with e | e
   ·rw [e]; exact hl2.bkn hk2 fun j hj=>hZZ j hj.2 (by omega)
   rcases List.mem_cons.1 e with e | e
   ·rw [e]; exact hl3.bkn hk3 fun j hj=>hZZ j hj.2 (by omega)
   ·obtain rfl:=List.mem_singleton.1 e
    exact hl4.bkn hk4 fun j hj=>hZZ j hj.2 (by omega)
 ·refine .mk _ _ _ _ (fun b' o e=>?_) ?_
  ·injection e with e; injection e with e; omega
  ·intro k hk'
   rcases List.mem_cons.1 hk' with e | e
   ·rw [e]; exact hk2.mono fun j hj=>⟨by omega,by omega⟩
   rcases List.mem_cons.1 e with e | e
   ·rw [e]; exact hk3.mono fun j hj=>⟨by omega,by omega⟩
   ·obtain rfl:=List.mem_singleton.1 e
    exact hk4.mono fun j hj=>⟨by omega,by omega⟩
 ·obtain⟨a,c,hr⟩:=hr
  exact⟨a,c,hr.blk (hZZ _ (by omega) (by omega)) (hZZ _ (by omega) (by omega)) (by omega)⟩
end Go.Proofs.YtkfabnchhjfjjaaGreatDoor
