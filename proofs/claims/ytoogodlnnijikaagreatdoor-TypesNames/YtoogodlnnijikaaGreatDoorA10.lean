import Derived.Test.YtoogodlnnijikaaGreatDoorA0
import Derived.Test.YtoogodlnnijikaaGreatDoorA9
namespace Go.Proofs.YtoogodlnnijikaaGreatDoor
set_option maxHeartbeats 1000000
set_option maxRecDepth 100000
open Go.RowKit
def kwW:List yB:=[Z3,Z2,Z5,Z9,Z7,Z8,Za,Zc,Zb,Zi,Zk,Zj,Zl,ZP,Zu,ZI,Zt,Zs]
def kwM:List yB:=[Zm,ZA,ZE,ZF,ZG,ZD,Zw,Zx,ZB,Zy,ZC,Zz,Z03,Z04,ZQ,ZX,Zo,Zv,Zq]
structure TkOk (t:Tk):Prop where
 r:RgT t
 w:∀ x ∈ kwW,t.x=x→t.k=1
 m:∀ x ∈ kwM,t.x=x→t.k=4
 n:t.k=3 ↔ t.ty≠0
theorem TkOk.kw {t:Tk}(h:TkOk t) {x:yB}(hx:x ∈ kwW∨x ∈ kwM):t.x=x→t.k=1∨t.k=4:=fun e=>hx.elim (fun i=>.inl (h.w x i e)) (fun i=>.inr (h.m x i e))
theorem eqX_t {x:yB}{l:List UInt8}(h:x.data.toList=l):eqX x l=true:=by
 unfold eqX
 rw [ByteArray.toList_eq,h]
 simp
theorem eqX_f {x:yB}{a:Array UInt8}(h:¬ x=⟨a⟩):eqX x a.toList=false:=by
 unfold eqX
 rw [ByteArray.toList_eq]
 exact beq_false_of_ne (fun h'=>h (ba_ext2 h'))
def Lw (B b:Nat) (K:PK):Prop:=b < B∧∀ j,j < K.T.length→∀ G o,K.a=some G¢o→G < B
theorem Pr.lw {w:yW}{b:Nat}{K:PK}{i:Nat}{e p:Int}{t:Bool}(h:Pr w b K i e p t):Lw w§ b K:=⟨h.lt,fun j hj G o e=>by
 obtain⟨G',o',e',hn,ht⟩:=h.r j hj
 rw [e] at e'
 cases e'
 exact ht.lt⟩
theorem Pr.off {w w':yW}{b:Nat}{K:PK}{i:Nat}{e p:Int}{t:Bool}(h:Pr w b K i e p t) {B:Nat}(hB:Lw B b K) (o:∀ k,k < B→w'.heap[k]? = w.heap[k]?):Pr w' b K i e p t :=
 ⟨(o b hB.1).trans h.h,h.l,h.m,h.z,fun j hj=>by
  obtain⟨G,o',ea,hn,ht⟩:=h.r j hj
  exact⟨G,o',ea,hn,ht.blk (o G (hB.2 j hj G o' ea))⟩⟩
theorem Lv.lw {w:yW}{b:Nat}{K:PK}{ts:List Tk}(h:Lv w b K ts):Lw w§ b K:=by
 obtain⟨i,p,t,h1,h2⟩:=h
 exact h1.lw
theorem Lv.off {w w':yW}{b:Nat}{K:PK}{ts:List Tk}(h:Lv w b K ts) {B:Nat}(hB:Lw B b K) (o:∀ k,k < B→w'.heap[k]? = w.heap[k]?):Lv w' b K ts:=by
 obtain⟨i,p,t,h1,h2⟩:=h
 exact⟨i,p,t,h1.off hB o,h2⟩
theorem Dd.lw {w:yW}{b:Nat}{K:PK}{f:Ft}(h:Dd w b K f):Lw w§ b K:=by
 cases f with
 | tok no p=>obtain⟨i,h1,h2⟩:=h; exact h1.lw
 | lex=>obtain⟨e,p,t,h1,h2⟩:=h; exact h1.lw
theorem Dd.off {w w':yW}{b:Nat}{K:PK}{f:Ft}(h:Dd w b K f) {B:Nat}(hB:Lw B b K) (o:∀ k,k < B→w'.heap[k]? = w.heap[k]?):Dd w' b K f:=by
 cases f with
 | tok no p=>obtain⟨i,h1,h2⟩:=h; exact⟨i,h1.off hB o,h2⟩
 | lex=>obtain⟨e,p,t,h1,h2⟩:=h; exact⟨e,p,t,h1.off hB o,h2⟩
theorem Lw.mono {B B' b:Nat}{K:PK}(h:Lw B b K) (k:B≤B'):Lw B' b K:=⟨Nat.lt_of_lt_of_le h.1 k,fun j hj G o e=>Nat.lt_of_lt_of_le (h.2 j hj G o e) k⟩
def nul8:Array Value:=zNo
def litN (t:Tk):Nd:=.mk ⟨1,0,(valT t).1,(valT t).2,0,gE,t.p⟩ none 0 []
theorem lit_num {w:yW}{b:Nat}{K:PK}{t:Tk}{ts:List Tk}(h:Lv w b K (t :: ts)) (hk:t.k=3) :
  Calls zG 93 #[zP b] w fun e w'=>e=.returned (.tuple #[.agg #[zU 1,zU 0,zU t.ty,zI t.n,zU 0,yQ,.slice none 0 0,zI t.p],.bool true])∧Lv w' b K ts∧Mv w w' (fun k=>k=b):=by
 have hb0:=Qc w (.cells zNo 48)
 have hn0:=Qd w (.cells zNo 48)
 have HB0:Hid (yD w (w.alloc (.cells zNo 48))):=hb0
 have HN0:Hid ((w.alloc (.cells zNo 48)).heap[w§]? = (zC zNo 48)):=hn0
 have HBW:Hid (b < w§):=h.lt
 have HLW:Hid (Lw w§ b K):=h.lw
 have cN:=Qt (h.on hb0)
 have HH:=(h.on hb0).hid
 unfold tkA at cN
 clear h hb0 hn0
 rw [hk] at cN
 clear hk
 go_enter Tryz.func93,Tryz.ntmps93
 go_wp2_with fail
 refine cN.mono ?_
 rintro e w1 ⟨rfl,hb⟩
 have HB1:Hid (yD w w1):=Qe HB0.out hb
 have HH1:=(HH.out.on hb).hid
 have HN1:Hid (w1.heap[w§]? = (zC zNo 48)):=(hb.block _ (by rw [Qf]; omega)).trans HN0.out
 clear cN hb HB0 HH HN0
 go_upto_region 4 with fail
 have e1:=Qc w1 (.cells #[zU 3,.string t.x,zU t.ty,zI t.n,zI t.p] 148)
 have e2:=Qc (w1.alloc (.cells #[zU 3,.string t.x,zU t.ty,zI t.n,zI t.p] 148)) (.cells #[zU 1,zU 0,zU 0,zI 0,zU 0,yQ,.slice none 0 0,zI t.p] 48)
 have s1:=Qf w1 (.cells #[zU 3,.string t.x,zU t.ty,zI t.n,zI t.p] 148)
 have t1:=Qd w1 (.cells #[zU 3,.string t.x,zU t.ty,zI t.n,zI t.p] 148)
 have t2:=Qd (w1.alloc (.cells #[zU 3,.string t.x,zU t.ty,zI t.n,zI t.p] 148)) (.cells #[zU 1,zU 0,zU 0,zI 0,zU 0,yQ,.slice none 0 0,zI t.p] 48)
 rw [s1] at t2
 obtain⟨V,eV⟩:∃ V,(w1.alloc (.cells #[zU 3,.string t.x,zU t.ty,zI t.n,zI t.p] 148)).alloc (.cells #[zU 1,zU 0,zU 0,zI 0,zU 0,yQ,.slice none 0 0,zI t.p] 48)=V:=⟨_,rfl⟩
 have hTV:V.heap[w1§]? = (zC #[zU 3,.string t.x,zU t.ty,zI t.n,zI t.p] 148):=by rw [← eV]; exact (e2.block _ (by rw [s1]; omega)).trans t1
 have hNV:V.heap[w1§+1]? = (zC #[zU 1,zU 0,zU 0,zI 0,zU 0,yQ,.slice none 0 0,zI t.p] 48):=by rw [← eV]; exact t2
 have hBV:yD w1 V:=by rw [← eV]; exact Qe e1 e2
 have hlw:w§ < w1§:=(zJ HN1.out).1
 have HZV:Hid (V.heap[w§]? = (zC zNo 48)):=(hBV.block _ hlw).trans HN1.out
 have HHV:=(HH1.out.on hBV).hid
 have HBV:Hid (yD w V):=Qe HB1.out hBV
 rw [eV]
 clear e1 e2 s1 t1 t2 eV hBV HB1 HH1 HN1
 obtain⟨Q,eQ⟩:∃ Q,w1§=Q:=⟨_,rfl⟩
 rw [eQ] at hTV hNV hlw ⊢
 clear eQ
 have k0:V.cell? Q¢0=some (zU 3):=Qa hTV 0
 have k1:V.cell? Q¢1=some (.string t.x):=Qa hTV 1
 have k2:V.cell? Q¢2=some (zU t.ty):=Qa hTV 2
 have k3:V.cell? Q¢3=some (zI t.n):=Qa hTV 3
 have m2:V.cell? ⟨Q+1,2,none⟩=some (zU 0):=Qa hNV 2
 have f2:V.frozen? ⟨Q+1,2,none⟩=false:=Qb hNV 2
 have m3:V.cell? ⟨Q+1,3,none⟩=some (zI 0):=Qa hNV 3
 have f3:V.frozen? ⟨Q+1,3,none⟩=false:=Qb hNV 3
 go_upto_region 6 with fail
 obtain⟨Y1,eY1⟩:∃ Y,V.setCell ⟨Q+1,2,none⟩ (zU t.ty)=Y:=⟨_,rfl⟩
 have hY1:Y1.heap[Q+1]? = (zC #[zU 1,zU 0,zU t.ty,zI 0,zU 0,yQ,.slice none 0 0,zI t.p] 48):=by rw [← eY1]; exact Qi _ hNV
 have oY1:∀ k,k≠Q+1→Y1.heap[k]? = V.heap[k]?:=fun k hk=>by rw [← eY1]; exact Below.heap_setCell _ _ _ _ hk
 have zY1:Y1§=V§:=by rw [← eY1]; simp [World.setCell]
 have HTY1:Hid (Mv V Y1 (fun k=>k=Q+1)):=by show Mv _ _ _; rw [← eY1]; exact Mv.setCell (F:=fun k=>k=Q+1) (a:=⟨Q+1,2,none⟩) (Mv.refl _ _) (.inl rfl) _
 have hY1t:Y1.heap[Q]? = (zC #[zU 3,.string t.x,zU t.ty,zI t.n,zI t.p] 148):=(oY1 _ (by omega)).trans hTV
 rw [eY1]
 clear eY1 k0 k1 k2 k3 m2 f2 m3 f3 hTV hNV
 have hTV:=hY1t
 clear hY1t
 have HZY1:Hid (Y1.heap[w§]? = (zC zNo 48)):=(oY1 _ (by omega)).trans HZV.out
 have HHY1:Hid (Lv Y1 b K (t :: ts)):=HHV.out.off HLW.out (fun k hk=>oY1 k (by omega))
 have HMY1:Hid (Mv w Y1 (fun k=>k=b)):=(Mv.ofBelow HBV.out:Mv w V (fun k=>k=b)).trans HTY1.out (fun k e=>.inr (by have:=HBW.out; omega))
 have k0:Y1.cell? Q¢0=some (zU 3):=Qa hTV 0
 have k1:Y1.cell? Q¢1=some (.string t.x):=Qa hTV 1
 have k2:Y1.cell? Q¢2=some (zU t.ty):=Qa hTV 2
 have k3:Y1.cell? Q¢3=some (zI t.n):=Qa hTV 3
 have m2:Y1.cell? ⟨Q+1,2,none⟩=some (zU t.ty):=Qa hY1 2
 have f2:Y1.frozen? ⟨Q+1,2,none⟩=false:=Qb hY1 2
 have m3:Y1.cell? ⟨Q+1,3,none⟩=some (zI 0):=Qa hY1 3
 have f3:Y1.frozen? ⟨Q+1,3,none⟩=false:=Qb hY1 3
 go_upto_region 16 with fail
 obtain⟨Y2,eY2⟩:∃ Y,Y1.setCell ⟨Q+1,3,none⟩ (zI t.n)=Y:=⟨_,rfl⟩
 have hY2:Y2.heap[Q+1]? = (zC #[zU 1,zU 0,zU t.ty,zI t.n,zU 0,yQ,.slice none 0 0,zI t.p] 48):=by rw [← eY2]; exact Qi _ hY1
 have oY2:∀ k,k≠Q+1→Y2.heap[k]? = Y1.heap[k]?:=fun k hk=>by rw [← eY2]; exact Below.heap_setCell _ _ _ _ hk
 have zY2:Y2§=Y1§:=by rw [← eY2]; simp [World.setCell]
 have HTY2:Hid (Mv Y1 Y2 (fun k=>k=Q+1)):=by show Mv _ _ _; rw [← eY2]; exact Mv.setCell (F:=fun k=>k=Q+1) (a:=⟨Q+1,3,none⟩) (Mv.refl _ _) (.inl rfl) _
 have hY2t:Y2.heap[Q]? = (zC #[zU 3,.string t.x,zU t.ty,zI t.n,zI t.p] 148):=(oY2 _ (by omega)).trans hTV
 rw [eY2]
 clear eY2 k0 k1 k2 k3 m2 f2 m3 f3 hTV hY1
 have hTV:=hY2t
 clear hY2t
 have HZY2:Hid (Y2.heap[w§]? = (zC zNo 48)):=(oY2 _ (by omega)).trans HZY1.out
 have HHY2:Hid (Lv Y2 b K (t :: ts)):=HHY1.out.off HLW.out (fun k hk=>oY2 k (by omega))
 have HMY2:Hid (Mv w Y2 (fun k=>k=b)):=(HMY1.out:Mv w Y1 (fun k=>k=b)).trans HTY2.out (fun k e=>.inr (by have:=HBW.out; omega))
 have k0:Y2.cell? Q¢0=some (zU 3):=Qa hTV 0
 have k1:Y2.cell? Q¢1=some (.string t.x):=Qa hTV 1
 have k2:Y2.cell? Q¢2=some (zU t.ty):=Qa hTV 2
 have k3:Y2.cell? Q¢3=some (zI t.n):=Qa hTV 3
 have m2:Y2.cell? ⟨Q+1,2,none⟩=some (zU t.ty):=Qa hY2 2
 have f2:Y2.frozen? ⟨Q+1,2,none⟩=false:=Qb hY2 2
 have m3:Y2.cell? ⟨Q+1,3,none⟩=some (zI t.n):=Qa hY2 3
 have f3:Y2.frozen? ⟨Q+1,3,none⟩=false:=Qb hY2 3
 go_upto_region 16 with fail
 clear k0 k1 k2 k3 m2 f2 m3 f3
 obtain⟨i,c3,g3,hmx,hL,hM,ho,hsz⟩:=HHY2.out.at'
 go_upto_region 17 with fail
 obtain⟨Z,eZ⟩:∃ Z,Y2.setCell b¢3 (zI ((i:Int)+1))=Z:=⟨_,rfl⟩
 rw [eZ] at hL hM ho ⊢
 have hbw:=HBW.out
 have hNZ:Z.heap[Q+1]? = (zC #[zU 1,zU 0,zU t.ty,zI t.n,zU 0,yQ,.slice none 0 0,zI t.p] 48):=(ho _ (by omega)).trans hY2
 have HZZ:Hid (Z.heap[w§]? = (zC zNo 48)):=(ho _ (by omega)).trans HZY2.out
 have HLZ:=hL.hid
 have HMZ:Hid (Mv w Z (fun k=>k=b)):=HMY2.out.trans hM (fun k e=>.inl e)
 clear eZ hL hM ho hsz c3 g3 hmx
 have x0:Z.cell? ⟨Q+1,0,none⟩=some (zU 1):=Qa hNZ 0
 have x1:Z.cell? ⟨Q+1,1,none⟩=some (zU 0):=Qa hNZ 1
 have x2:Z.cell? ⟨Q+1,2,none⟩=some (zU t.ty):=Qa hNZ 2
 have x3:Z.cell? ⟨Q+1,3,none⟩=some (zI t.n):=Qa hNZ 3
 have x4:Z.cell? ⟨Q+1,4,none⟩=some (zU 0):=Qa hNZ 4
 have x5:Z.cell? ⟨Q+1,5,none⟩=some (yQ):=Qa hNZ 5
 have x6:Z.cell? ⟨Q+1,6,none⟩=some (.slice none 0 0):=Qa hNZ 6
 have x7:Z.cell? ⟨Q+1,7,none⟩=some (zI t.p):=Qa hNZ 7
 have z0:Z.cell? w§¢0=some (zU 0):=Qa HZZ.out 0
 have q0:Z.frozen? w§¢0=false:=Qb HZZ.out 0
 have z1:Z.cell? w§¢1=some (zU 0):=Qa HZZ.out 1
 have q1:Z.frozen? w§¢1=false:=Qb HZZ.out 1
 have z2:Z.cell? w§¢2=some (zU 0):=Qa HZZ.out 2
 have q2:Z.frozen? w§¢2=false:=Qb HZZ.out 2
 have z3:Z.cell? w§¢3=some (zI 0):=Qa HZZ.out 3
 have q3:Z.frozen? w§¢3=false:=Qb HZZ.out 3
 have z4:Z.cell? w§¢4=some (zU 0):=Qa HZZ.out 4
 have q4:Z.frozen? w§¢4=false:=Qb HZZ.out 4
 have z5:Z.cell? w§¢5=some (yQ):=Qa HZZ.out 5
 have q5:Z.frozen? w§¢5=false:=Qb HZZ.out 5
 have z6:Z.cell? w§¢6=some (.slice none 0 0):=Qa HZZ.out 6
 have q6:Z.frozen? w§¢6=false:=Qb HZZ.out 6
 have z7:Z.cell? w§¢7=some (zI 0):=Qa HZZ.out 7
 have q7:Z.frozen? w§¢7=false:=Qb HZZ.out 7
 obtain⟨Y,eY,hY1,hY2,hY3,hY4⟩:=fin8 HZZ.out (zU 1) (zU 0) (zU t.ty) (zI t.n) (zU 0) (yQ) (.slice none 0 0) (zI t.p)
 have HF:Hid (Lv Y b K ts∧Mv w Y (fun k=>k=b)∧Y.heap[w§]? = (zC #[zU 1,zU 0,zU t.ty,zI t.n,zU 0,yQ,.slice none 0 0,zI t.p] 48)):=by
  refine⟨?_,hY4 w _ HMZ.out (Nat.le_refl _),hY1⟩
  exact HLZ.out.off HLW.out (fun k hk=>hY3 k (by omega))
 have HEY:Hid (_=Y):=eY
 clear hNZ eY hY1 hY2 hY3 hY4
 go_wp2_with fail
 rw [HEY.out]
 exact bodyPost_ret (Qg (p:=2) (u:=3) (ty:=48) rfl _ _ w§ 48 #[zU 1,zU 0,zU t.ty,zI t.n,zU 0,yQ,.slice none 0 0,zI t.p] (0,0) _ rfl HF.out.2.2 Tryz.underlying48 rfl zK) rfl ⟨rfl,HF.out.1,HF.out.2.1⟩
theorem lit_true {w:yW}{b:Nat}{K:PK}{t:Tk}{ts:List Tk}(h:Lv w b K (t :: ts)) (hk:t.k=1) (hx:t.x=Zu) :
  Calls zG 93 #[zP b] w fun e w'=>e=.returned (.tuple #[.agg #[zU 1,zU 0,zU 5,zI 1,zU 0,yQ,.slice none 0 0,zI t.p],.bool true])∧Lv w' b K ts∧Mv w w' (fun k=>k=b):=by
 have hb0:=Qc w (.cells zNo 48)
 have hn0:=Qd w (.cells zNo 48)
 have HB0:Hid (yD w (w.alloc (.cells zNo 48))):=hb0
 have HN0:Hid ((w.alloc (.cells zNo 48)).heap[w§]? = (zC zNo 48)):=hn0
 have HBW:Hid (b < w§):=h.lt
 have HLW:Hid (Lw w§ b K):=h.lw
 have cN:=Qt (h.on hb0)
 have HH:=(h.on hb0).hid
 unfold tkA at cN
 clear h hb0 hn0
 rw [hk,hx] at cN
 clear hk hx
 go_enter Tryz.func93,Tryz.ntmps93
 go_wp2_with fail
 refine cN.mono ?_
 rintro e w1 ⟨rfl,hb⟩
 have HB1:Hid (yD w w1):=Qe HB0.out hb
 have HH1:=(HH.out.on hb).hid
 have HN1:Hid (w1.heap[w§]? = (zC zNo 48)):=(hb.block _ (by rw [Qf]; omega)).trans HN0.out
 clear cN hb HB0 HH HN0
 go_upto_region 4 with fail
 have e1:=Qc w1 (.cells #[zU 1,.string Zu,zU t.ty,zI t.n,zI t.p] 148)
 have e2:=Qc (w1.alloc (.cells #[zU 1,.string Zu,zU t.ty,zI t.n,zI t.p] 148)) (.cells #[zU 1,zU 0,zU 0,zI 0,zU 0,yQ,.slice none 0 0,zI t.p] 48)
 have s1:=Qf w1 (.cells #[zU 1,.string Zu,zU t.ty,zI t.n,zI t.p] 148)
 have t1:=Qd w1 (.cells #[zU 1,.string Zu,zU t.ty,zI t.n,zI t.p] 148)
 have t2:=Qd (w1.alloc (.cells #[zU 1,.string Zu,zU t.ty,zI t.n,zI t.p] 148)) (.cells #[zU 1,zU 0,zU 0,zI 0,zU 0,yQ,.slice none 0 0,zI t.p] 48)
 rw [s1] at t2
 obtain⟨V,eV⟩:∃ V,(w1.alloc (.cells #[zU 1,.string Zu,zU t.ty,zI t.n,zI t.p] 148)).alloc (.cells #[zU 1,zU 0,zU 0,zI 0,zU 0,yQ,.slice none 0 0,zI t.p] 48)=V:=⟨_,rfl⟩
 have hTV:V.heap[w1§]? = (zC #[zU 1,.string Zu,zU t.ty,zI t.n,zI t.p] 148):=by rw [← eV]; exact (e2.block _ (by rw [s1]; omega)).trans t1
 have hNV:V.heap[w1§+1]? = (zC #[zU 1,zU 0,zU 0,zI 0,zU 0,yQ,.slice none 0 0,zI t.p] 48):=by rw [← eV]; exact t2
 have hBV:yD w1 V:=by rw [← eV]; exact Qe e1 e2
 have hlw:w§ < w1§:=(zJ HN1.out).1
 have HZV:Hid (V.heap[w§]? = (zC zNo 48)):=(hBV.block _ hlw).trans HN1.out
 have HHV:=(HH1.out.on hBV).hid
 have HBV:Hid (yD w V):=Qe HB1.out hBV
 rw [eV]
 clear e1 e2 s1 t1 t2 eV hBV HB1 HH1 HN1
 obtain⟨Q,eQ⟩:∃ Q,w1§=Q:=⟨_,rfl⟩
 rw [eQ] at hTV hNV hlw ⊢
 clear eQ
 have k0:V.cell? Q¢0=some (zU 1):=Qa hTV 0
 have k1:V.cell? Q¢1=some (.string Zu):=Qa hTV 1
 have k2:V.cell? Q¢2=some (zU t.ty):=Qa hTV 2
 have k3:V.cell? Q¢3=some (zI t.n):=Qa hTV 3
 have m2:V.cell? ⟨Q+1,2,none⟩=some (zU 0):=Qa hNV 2
 have f2:V.frozen? ⟨Q+1,2,none⟩=false:=Qb hNV 2
 have m3:V.cell? ⟨Q+1,3,none⟩=some (zI 0):=Qa hNV 3
 have f3:V.frozen? ⟨Q+1,3,none⟩=false:=Qb hNV 3
 go_upto_region 9 with fail
 obtain⟨Y1,eY1⟩:∃ Y,V.setCell ⟨Q+1,2,none⟩ (zU 5)=Y:=⟨_,rfl⟩
 have hY1:Y1.heap[Q+1]? = (zC #[zU 1,zU 0,zU 5,zI 0,zU 0,yQ,.slice none 0 0,zI t.p] 48):=by rw [← eY1]; exact Qi _ hNV
 have oY1:∀ k,k≠Q+1→Y1.heap[k]? = V.heap[k]?:=fun k hk=>by rw [← eY1]; exact Below.heap_setCell _ _ _ _ hk
 have zY1:Y1§=V§:=by rw [← eY1]; simp [World.setCell]
 have HTY1:Hid (Mv V Y1 (fun k=>k=Q+1)):=by show Mv _ _ _; rw [← eY1]; exact Mv.setCell (F:=fun k=>k=Q+1) (a:=⟨Q+1,2,none⟩) (Mv.refl _ _) (.inl rfl) _
 have hY1t:Y1.heap[Q]? = (zC #[zU 1,.string Zu,zU t.ty,zI t.n,zI t.p] 148):=(oY1 _ (by omega)).trans hTV
 rw [eY1]
 clear eY1 k0 k1 k2 k3 m2 f2 m3 f3 hTV hNV
 have hTV:=hY1t
 clear hY1t
 have HZY1:Hid (Y1.heap[w§]? = (zC zNo 48)):=(oY1 _ (by omega)).trans HZV.out
 have HHY1:Hid (Lv Y1 b K (t :: ts)):=HHV.out.off HLW.out (fun k hk=>oY1 k (by omega))
 have HMY1:Hid (Mv w Y1 (fun k=>k=b)):=(Mv.ofBelow HBV.out:Mv w V (fun k=>k=b)).trans HTY1.out (fun k e=>.inr (by have:=HBW.out; omega))
 have k0:Y1.cell? Q¢0=some (zU 1):=Qa hTV 0
 have k1:Y1.cell? Q¢1=some (.string Zu):=Qa hTV 1
 have k2:Y1.cell? Q¢2=some (zU t.ty):=Qa hTV 2
 have k3:Y1.cell? Q¢3=some (zI t.n):=Qa hTV 3
 have m2:Y1.cell? ⟨Q+1,2,none⟩=some (zU 5):=Qa hY1 2
 have f2:Y1.frozen? ⟨Q+1,2,none⟩=false:=Qb hY1 2
 have m3:Y1.cell? ⟨Q+1,3,none⟩=some (zI 0):=Qa hY1 3
 have f3:Y1.frozen? ⟨Q+1,3,none⟩=false:=Qb hY1 3
 go_upto_region 16 with fail
 obtain⟨Y2,eY2⟩:∃ Y,Y1.setCell ⟨Q+1,3,none⟩ (zI 1)=Y:=⟨_,rfl⟩
 have hY2:Y2.heap[Q+1]? = (zC #[zU 1,zU 0,zU 5,zI 1,zU 0,yQ,.slice none 0 0,zI t.p] 48):=by rw [← eY2]; exact Qi _ hY1
 have oY2:∀ k,k≠Q+1→Y2.heap[k]? = Y1.heap[k]?:=fun k hk=>by rw [← eY2]; exact Below.heap_setCell _ _ _ _ hk
 have zY2:Y2§=Y1§:=by rw [← eY2]; simp [World.setCell]
 have HTY2:Hid (Mv Y1 Y2 (fun k=>k=Q+1)):=by show Mv _ _ _; rw [← eY2]; exact Mv.setCell (F:=fun k=>k=Q+1) (a:=⟨Q+1,3,none⟩) (Mv.refl _ _) (.inl rfl) _
 have hY2t:Y2.heap[Q]? = (zC #[zU 1,.string Zu,zU t.ty,zI t.n,zI t.p] 148):=(oY2 _ (by omega)).trans hTV
 rw [eY2]
 clear eY2 k0 k1 k2 k3 m2 f2 m3 f3 hTV hY1
 have hTV:=hY2t
 clear hY2t
 have HZY2:Hid (Y2.heap[w§]? = (zC zNo 48)):=(oY2 _ (by omega)).trans HZY1.out
 have HHY2:Hid (Lv Y2 b K (t :: ts)):=HHY1.out.off HLW.out (fun k hk=>oY2 k (by omega))
 have HMY2:Hid (Mv w Y2 (fun k=>k=b)):=(HMY1.out:Mv w Y1 (fun k=>k=b)).trans HTY2.out (fun k e=>.inr (by have:=HBW.out; omega))
 have k0:Y2.cell? Q¢0=some (zU 1):=Qa hTV 0
 have k1:Y2.cell? Q¢1=some (.string Zu):=Qa hTV 1
 have k2:Y2.cell? Q¢2=some (zU t.ty):=Qa hTV 2
 have k3:Y2.cell? Q¢3=some (zI t.n):=Qa hTV 3
 have m2:Y2.cell? ⟨Q+1,2,none⟩=some (zU 5):=Qa hY2 2
 have f2:Y2.frozen? ⟨Q+1,2,none⟩=false:=Qb hY2 2
 have m3:Y2.cell? ⟨Q+1,3,none⟩=some (zI 1):=Qa hY2 3
 have f3:Y2.frozen? ⟨Q+1,3,none⟩=false:=Qb hY2 3
 go_upto_region 16 with fail
 clear k0 k1 k2 k3 m2 f2 m3 f3
 obtain⟨i,c3,g3,hmx,hL,hM,ho,hsz⟩:=HHY2.out.at'
 go_upto_region 17 with fail
 obtain⟨Z,eZ⟩:∃ Z,Y2.setCell b¢3 (zI ((i:Int)+1))=Z:=⟨_,rfl⟩
 rw [eZ] at hL hM ho ⊢
 have hbw:=HBW.out
 have hNZ:Z.heap[Q+1]? = (zC #[zU 1,zU 0,zU 5,zI 1,zU 0,yQ,.slice none 0 0,zI t.p] 48):=(ho _ (by omega)).trans hY2
 have HZZ:Hid (Z.heap[w§]? = (zC zNo 48)):=(ho _ (by omega)).trans HZY2.out
 have HLZ:=hL.hid
 have HMZ:Hid (Mv w Z (fun k=>k=b)):=HMY2.out.trans hM (fun k e=>.inl e)
 clear eZ hL hM ho hsz c3 g3 hmx
 have x0:Z.cell? ⟨Q+1,0,none⟩=some (zU 1):=Qa hNZ 0
 have x1:Z.cell? ⟨Q+1,1,none⟩=some (zU 0):=Qa hNZ 1
 have x2:Z.cell? ⟨Q+1,2,none⟩=some (zU 5):=Qa hNZ 2
 have x3:Z.cell? ⟨Q+1,3,none⟩=some (zI 1):=Qa hNZ 3
 have x4:Z.cell? ⟨Q+1,4,none⟩=some (zU 0):=Qa hNZ 4
 have x5:Z.cell? ⟨Q+1,5,none⟩=some (yQ):=Qa hNZ 5
 have x6:Z.cell? ⟨Q+1,6,none⟩=some (.slice none 0 0):=Qa hNZ 6
 have x7:Z.cell? ⟨Q+1,7,none⟩=some (zI t.p):=Qa hNZ 7
 have z0:Z.cell? w§¢0=some (zU 0):=Qa HZZ.out 0
 have q0:Z.frozen? w§¢0=false:=Qb HZZ.out 0
 have z1:Z.cell? w§¢1=some (zU 0):=Qa HZZ.out 1
 have q1:Z.frozen? w§¢1=false:=Qb HZZ.out 1
 have z2:Z.cell? w§¢2=some (zU 0):=Qa HZZ.out 2
 have q2:Z.frozen? w§¢2=false:=Qb HZZ.out 2
 have z3:Z.cell? w§¢3=some (zI 0):=Qa HZZ.out 3
 have q3:Z.frozen? w§¢3=false:=Qb HZZ.out 3
 have z4:Z.cell? w§¢4=some (zU 0):=Qa HZZ.out 4
 have q4:Z.frozen? w§¢4=false:=Qb HZZ.out 4
 have z5:Z.cell? w§¢5=some (yQ):=Qa HZZ.out 5
 have q5:Z.frozen? w§¢5=false:=Qb HZZ.out 5
 have z6:Z.cell? w§¢6=some (.slice none 0 0):=Qa HZZ.out 6
 have q6:Z.frozen? w§¢6=false:=Qb HZZ.out 6
 have z7:Z.cell? w§¢7=some (zI 0):=Qa HZZ.out 7
 have q7:Z.frozen? w§¢7=false:=Qb HZZ.out 7
 obtain⟨Y,eY,hY1,hY2,hY3,hY4⟩:=fin8 HZZ.out (zU 1) (zU 0) (zU 5) (zI 1) (zU 0) (yQ) (.slice none 0 0) (zI t.p)
 have HF:Hid (Lv Y b K ts∧Mv w Y (fun k=>k=b)∧Y.heap[w§]? = (zC #[zU 1,zU 0,zU 5,zI 1,zU 0,yQ,.slice none 0 0,zI t.p] 48)):=by
  refine⟨?_,hY4 w _ HMZ.out (Nat.le_refl _),hY1⟩
  exact HLZ.out.off HLW.out (fun k hk=>hY3 k (by omega))
 have HEY:Hid (_=Y):=eY
 clear hNZ eY hY1 hY2 hY3 hY4
 go_wp2_with fail
 rw [HEY.out]
 exact bodyPost_ret (Qg (p:=2) (u:=3) (ty:=48) rfl _ _ w§ 48 #[zU 1,zU 0,zU 5,zI 1,zU 0,yQ,.slice none 0 0,zI t.p] (0,0) _ rfl HF.out.2.2 Tryz.underlying48 rfl zK) rfl ⟨rfl,HF.out.1,HF.out.2.1⟩
theorem lit_false {w:yW}{b:Nat}{K:PK}{t:Tk}{ts:List Tk}(h:Lv w b K (t :: ts)) (hk:t.k=1) (hx:t.x=ZI) :
  Calls zG 93 #[zP b] w fun e w'=>e=.returned (.tuple #[.agg #[zU 1,zU 0,zU 5,zI 0,zU 0,yQ,.slice none 0 0,zI t.p],.bool true])∧Lv w' b K ts∧Mv w w' (fun k=>k=b):=by
 have hb0:=Qc w (.cells zNo 48)
 have hn0:=Qd w (.cells zNo 48)
 have HB0:Hid (yD w (w.alloc (.cells zNo 48))):=hb0
 have HN0:Hid ((w.alloc (.cells zNo 48)).heap[w§]? = (zC zNo 48)):=hn0
 have HBW:Hid (b < w§):=h.lt
 have HLW:Hid (Lw w§ b K):=h.lw
 have cN:=Qt (h.on hb0)
 have HH:=(h.on hb0).hid
 unfold tkA at cN
 clear h hb0 hn0
 rw [hk,hx] at cN
 clear hk hx
 go_enter Tryz.func93,Tryz.ntmps93
 go_wp2_with fail
 refine cN.mono ?_
 rintro e w1 ⟨rfl,hb⟩
 have HB1:Hid (yD w w1):=Qe HB0.out hb
 have HH1:=(HH.out.on hb).hid
 have HN1:Hid (w1.heap[w§]? = (zC zNo 48)):=(hb.block _ (by rw [Qf]; omega)).trans HN0.out
 clear cN hb HB0 HH HN0
 go_upto_region 4 with fail
 have e1:=Qc w1 (.cells #[zU 1,.string ZI,zU t.ty,zI t.n,zI t.p] 148)
 have e2:=Qc (w1.alloc (.cells #[zU 1,.string ZI,zU t.ty,zI t.n,zI t.p] 148)) (.cells #[zU 1,zU 0,zU 0,zI 0,zU 0,yQ,.slice none 0 0,zI t.p] 48)
 have s1:=Qf w1 (.cells #[zU 1,.string ZI,zU t.ty,zI t.n,zI t.p] 148)
 have t1:=Qd w1 (.cells #[zU 1,.string ZI,zU t.ty,zI t.n,zI t.p] 148)
 have t2:=Qd (w1.alloc (.cells #[zU 1,.string ZI,zU t.ty,zI t.n,zI t.p] 148)) (.cells #[zU 1,zU 0,zU 0,zI 0,zU 0,yQ,.slice none 0 0,zI t.p] 48)
 rw [s1] at t2
 obtain⟨V,eV⟩:∃ V,(w1.alloc (.cells #[zU 1,.string ZI,zU t.ty,zI t.n,zI t.p] 148)).alloc (.cells #[zU 1,zU 0,zU 0,zI 0,zU 0,yQ,.slice none 0 0,zI t.p] 48)=V:=⟨_,rfl⟩
 have hTV:V.heap[w1§]? = (zC #[zU 1,.string ZI,zU t.ty,zI t.n,zI t.p] 148):=by rw [← eV]; exact (e2.block _ (by rw [s1]; omega)).trans t1
 have hNV:V.heap[w1§+1]? = (zC #[zU 1,zU 0,zU 0,zI 0,zU 0,yQ,.slice none 0 0,zI t.p] 48):=by rw [← eV]; exact t2
 have hBV:yD w1 V:=by rw [← eV]; exact Qe e1 e2
 have hlw:w§ < w1§:=(zJ HN1.out).1
 have HZV:Hid (V.heap[w§]? = (zC zNo 48)):=(hBV.block _ hlw).trans HN1.out
 have HHV:=(HH1.out.on hBV).hid
 have HBV:Hid (yD w V):=Qe HB1.out hBV
 rw [eV]
 clear e1 e2 s1 t1 t2 eV hBV HB1 HH1 HN1
 obtain⟨Q,eQ⟩:∃ Q,w1§=Q:=⟨_,rfl⟩
 rw [eQ] at hTV hNV hlw ⊢
 clear eQ
 have k0:V.cell? Q¢0=some (zU 1):=Qa hTV 0
 have k1:V.cell? Q¢1=some (.string ZI):=Qa hTV 1
 have k2:V.cell? Q¢2=some (zU t.ty):=Qa hTV 2
 have k3:V.cell? Q¢3=some (zI t.n):=Qa hTV 3
 have m2:V.cell? ⟨Q+1,2,none⟩=some (zU 0):=Qa hNV 2
 have f2:V.frozen? ⟨Q+1,2,none⟩=false:=Qb hNV 2
 have m3:V.cell? ⟨Q+1,3,none⟩=some (zI 0):=Qa hNV 3
 have f3:V.frozen? ⟨Q+1,3,none⟩=false:=Qb hNV 3
 go_upto_region 9 with fail
 obtain⟨Y1,eY1⟩:∃ Y,V.setCell ⟨Q+1,2,none⟩ (zU 5)=Y:=⟨_,rfl⟩
 have hY1:Y1.heap[Q+1]? = (zC #[zU 1,zU 0,zU 5,zI 0,zU 0,yQ,.slice none 0 0,zI t.p] 48):=by rw [← eY1]; exact Qi _ hNV
 have oY1:∀ k,k≠Q+1→Y1.heap[k]? = V.heap[k]?:=fun k hk=>by rw [← eY1]; exact Below.heap_setCell _ _ _ _ hk
 have zY1:Y1§=V§:=by rw [← eY1]; simp [World.setCell]
 have HTY1:Hid (Mv V Y1 (fun k=>k=Q+1)):=by show Mv _ _ _; rw [← eY1]; exact Mv.setCell (F:=fun k=>k=Q+1) (a:=⟨Q+1,2,none⟩) (Mv.refl _ _) (.inl rfl) _
 have hY1t:Y1.heap[Q]? = (zC #[zU 1,.string ZI,zU t.ty,zI t.n,zI t.p] 148):=(oY1 _ (by omega)).trans hTV
 rw [eY1]
 clear eY1 k0 k1 k2 k3 m2 f2 m3 f3 hTV hNV
 have hTV:=hY1t
 clear hY1t
 have HZY1:Hid (Y1.heap[w§]? = (zC zNo 48)):=(oY1 _ (by omega)).trans HZV.out
 have HHY1:Hid (Lv Y1 b K (t :: ts)):=HHV.out.off HLW.out (fun k hk=>oY1 k (by omega))
 have HMY1:Hid (Mv w Y1 (fun k=>k=b)):=(Mv.ofBelow HBV.out:Mv w V (fun k=>k=b)).trans HTY1.out (fun k e=>.inr (by have:=HBW.out; omega))
 have k0:Y1.cell? Q¢0=some (zU 1):=Qa hTV 0
 have k1:Y1.cell? Q¢1=some (.string ZI):=Qa hTV 1
 have k2:Y1.cell? Q¢2=some (zU t.ty):=Qa hTV 2
 have k3:Y1.cell? Q¢3=some (zI t.n):=Qa hTV 3
 have m2:Y1.cell? ⟨Q+1,2,none⟩=some (zU 5):=Qa hY1 2
 have f2:Y1.frozen? ⟨Q+1,2,none⟩=false:=Qb hY1 2
 have m3:Y1.cell? ⟨Q+1,3,none⟩=some (zI 0):=Qa hY1 3
 have f3:Y1.frozen? ⟨Q+1,3,none⟩=false:=Qb hY1 3
 go_upto_region 16 with fail
 clear k0 k1 k2 k3 m2 f2 m3 f3
 obtain⟨i,c3,g3,hmx,hL,hM,ho,hsz⟩:=HHY1.out.at'
 go_upto_region 17 with fail
 obtain⟨Z,eZ⟩:∃ Z,Y1.setCell b¢3 (zI ((i:Int)+1))=Z:=⟨_,rfl⟩
 rw [eZ] at hL hM ho ⊢
 have hbw:=HBW.out
 have hNZ:Z.heap[Q+1]? = (zC #[zU 1,zU 0,zU 5,zI 0,zU 0,yQ,.slice none 0 0,zI t.p] 48):=(ho _ (by omega)).trans hY1
 have HZZ:Hid (Z.heap[w§]? = (zC zNo 48)):=(ho _ (by omega)).trans HZY1.out
 have HLZ:=hL.hid
 have HMZ:Hid (Mv w Z (fun k=>k=b)):=HMY1.out.trans hM (fun k e=>.inl e)
 clear eZ hL hM ho hsz c3 g3 hmx
 have x0:Z.cell? ⟨Q+1,0,none⟩=some (zU 1):=Qa hNZ 0
 have x1:Z.cell? ⟨Q+1,1,none⟩=some (zU 0):=Qa hNZ 1
 have x2:Z.cell? ⟨Q+1,2,none⟩=some (zU 5):=Qa hNZ 2
 have x3:Z.cell? ⟨Q+1,3,none⟩=some (zI 0):=Qa hNZ 3
 have x4:Z.cell? ⟨Q+1,4,none⟩=some (zU 0):=Qa hNZ 4
 have x5:Z.cell? ⟨Q+1,5,none⟩=some (yQ):=Qa hNZ 5
 have x6:Z.cell? ⟨Q+1,6,none⟩=some (.slice none 0 0):=Qa hNZ 6
 have x7:Z.cell? ⟨Q+1,7,none⟩=some (zI t.p):=Qa hNZ 7
 have z0:Z.cell? w§¢0=some (zU 0):=Qa HZZ.out 0
 have q0:Z.frozen? w§¢0=false:=Qb HZZ.out 0
 have z1:Z.cell? w§¢1=some (zU 0):=Qa HZZ.out 1
 have q1:Z.frozen? w§¢1=false:=Qb HZZ.out 1
 have z2:Z.cell? w§¢2=some (zU 0):=Qa HZZ.out 2
 have q2:Z.frozen? w§¢2=false:=Qb HZZ.out 2
 have z3:Z.cell? w§¢3=some (zI 0):=Qa HZZ.out 3
 have q3:Z.frozen? w§¢3=false:=Qb HZZ.out 3
 have z4:Z.cell? w§¢4=some (zU 0):=Qa HZZ.out 4
 have q4:Z.frozen? w§¢4=false:=Qb HZZ.out 4
 have z5:Z.cell? w§¢5=some (yQ):=Qa HZZ.out 5
 have q5:Z.frozen? w§¢5=false:=Qb HZZ.out 5
 have z6:Z.cell? w§¢6=some (.slice none 0 0):=Qa HZZ.out 6
 have q6:Z.frozen? w§¢6=false:=Qb HZZ.out 6
 have z7:Z.cell? w§¢7=some (zI 0):=Qa HZZ.out 7
 have q7:Z.frozen? w§¢7=false:=Qb HZZ.out 7
 obtain⟨Y,eY,hY1,hY2,hY3,hY4⟩:=fin8 HZZ.out (zU 1) (zU 0) (zU 5) (zI 0) (zU 0) (yQ) (.slice none 0 0) (zI t.p)
 have HF:Hid (Lv Y b K ts∧Mv w Y (fun k=>k=b)∧Y.heap[w§]? = (zC #[zU 1,zU 0,zU 5,zI 0,zU 0,yQ,.slice none 0 0,zI t.p] 48)):=by
  refine⟨?_,hY4 w _ HMZ.out (Nat.le_refl _),hY1⟩
  exact HLZ.out.off HLW.out (fun k hk=>hY3 k (by omega))
 have HEY:Hid (_=Y):=eY
 clear hNZ eY hY1 hY2 hY3 hY4
 go_wp2_with fail
 rw [HEY.out]
 exact bodyPost_ret (Qg (p:=2) (u:=3) (ty:=48) rfl _ _ w§ 48 #[zU 1,zU 0,zU 5,zI 0,zU 0,yQ,.slice none 0 0,zI t.p] (0,0) _ rfl HF.out.2.2 Tryz.underlying48 rfl zK) rfl ⟨rfl,HF.out.1,HF.out.2.1⟩
theorem lit_buy {w:yW}{b:Nat}{K:PK}{t:Tk}{ts:List Tk}(h:Lv w b K (t :: ts)) (hk:t.k=1) (hx:t.x=Zt) :
  Calls zG 93 #[zP b] w fun e w'=>e=.returned (.tuple #[.agg #[zU 1,zU 0,zU 6,zI 1,zU 0,yQ,.slice none 0 0,zI t.p],.bool true])∧Lv w' b K ts∧Mv w w' (fun k=>k=b):=by
 have hb0:=Qc w (.cells zNo 48)
 have hn0:=Qd w (.cells zNo 48)
 have HB0:Hid (yD w (w.alloc (.cells zNo 48))):=hb0
 have HN0:Hid ((w.alloc (.cells zNo 48)).heap[w§]? = (zC zNo 48)):=hn0
 have HBW:Hid (b < w§):=h.lt
 have HLW:Hid (Lw w§ b K):=h.lw
 have cN:=Qt (h.on hb0)
 have HH:=(h.on hb0).hid
 unfold tkA at cN
 clear h hb0 hn0
 rw [hk,hx] at cN
 clear hk hx
 go_enter Tryz.func93,Tryz.ntmps93
 go_wp2_with fail
 refine cN.mono ?_
 rintro e w1 ⟨rfl,hb⟩
 have HB1:Hid (yD w w1):=Qe HB0.out hb
 have HH1:=(HH.out.on hb).hid
 have HN1:Hid (w1.heap[w§]? = (zC zNo 48)):=(hb.block _ (by rw [Qf]; omega)).trans HN0.out
 clear cN hb HB0 HH HN0
 go_upto_region 4 with fail
 have e1:=Qc w1 (.cells #[zU 1,.string Zt,zU t.ty,zI t.n,zI t.p] 148)
 have e2:=Qc (w1.alloc (.cells #[zU 1,.string Zt,zU t.ty,zI t.n,zI t.p] 148)) (.cells #[zU 1,zU 0,zU 0,zI 0,zU 0,yQ,.slice none 0 0,zI t.p] 48)
 have s1:=Qf w1 (.cells #[zU 1,.string Zt,zU t.ty,zI t.n,zI t.p] 148)
 have t1:=Qd w1 (.cells #[zU 1,.string Zt,zU t.ty,zI t.n,zI t.p] 148)
 have t2:=Qd (w1.alloc (.cells #[zU 1,.string Zt,zU t.ty,zI t.n,zI t.p] 148)) (.cells #[zU 1,zU 0,zU 0,zI 0,zU 0,yQ,.slice none 0 0,zI t.p] 48)
 rw [s1] at t2
 obtain⟨V,eV⟩:∃ V,(w1.alloc (.cells #[zU 1,.string Zt,zU t.ty,zI t.n,zI t.p] 148)).alloc (.cells #[zU 1,zU 0,zU 0,zI 0,zU 0,yQ,.slice none 0 0,zI t.p] 48)=V:=⟨_,rfl⟩
 have hTV:V.heap[w1§]? = (zC #[zU 1,.string Zt,zU t.ty,zI t.n,zI t.p] 148):=by rw [← eV]; exact (e2.block _ (by rw [s1]; omega)).trans t1
 have hNV:V.heap[w1§+1]? = (zC #[zU 1,zU 0,zU 0,zI 0,zU 0,yQ,.slice none 0 0,zI t.p] 48):=by rw [← eV]; exact t2
 have hBV:yD w1 V:=by rw [← eV]; exact Qe e1 e2
 have hlw:w§ < w1§:=(zJ HN1.out).1
 have HZV:Hid (V.heap[w§]? = (zC zNo 48)):=(hBV.block _ hlw).trans HN1.out
 have HHV:=(HH1.out.on hBV).hid
 have HBV:Hid (yD w V):=Qe HB1.out hBV
 rw [eV]
 clear e1 e2 s1 t1 t2 eV hBV HB1 HH1 HN1
 obtain⟨Q,eQ⟩:∃ Q,w1§=Q:=⟨_,rfl⟩
 rw [eQ] at hTV hNV hlw ⊢
 clear eQ
 have k0:V.cell? Q¢0=some (zU 1):=Qa hTV 0
 have k1:V.cell? Q¢1=some (.string Zt):=Qa hTV 1
 have k2:V.cell? Q¢2=some (zU t.ty):=Qa hTV 2
 have k3:V.cell? Q¢3=some (zI t.n):=Qa hTV 3
 have m2:V.cell? ⟨Q+1,2,none⟩=some (zU 0):=Qa hNV 2
 have f2:V.frozen? ⟨Q+1,2,none⟩=false:=Qb hNV 2
 have m3:V.cell? ⟨Q+1,3,none⟩=some (zI 0):=Qa hNV 3
 have f3:V.frozen? ⟨Q+1,3,none⟩=false:=Qb hNV 3
 go_upto_region 13 with fail
 obtain⟨Y1,eY1⟩:∃ Y,V.setCell ⟨Q+1,2,none⟩ (zU 6)=Y:=⟨_,rfl⟩
 have hY1:Y1.heap[Q+1]? = (zC #[zU 1,zU 0,zU 6,zI 0,zU 0,yQ,.slice none 0 0,zI t.p] 48):=by rw [← eY1]; exact Qi _ hNV
 have oY1:∀ k,k≠Q+1→Y1.heap[k]? = V.heap[k]?:=fun k hk=>by rw [← eY1]; exact Below.heap_setCell _ _ _ _ hk
 have zY1:Y1§=V§:=by rw [← eY1]; simp [World.setCell]
 have HTY1:Hid (Mv V Y1 (fun k=>k=Q+1)):=by show Mv _ _ _; rw [← eY1]; exact Mv.setCell (F:=fun k=>k=Q+1) (a:=⟨Q+1,2,none⟩) (Mv.refl _ _) (.inl rfl) _
 have hY1t:Y1.heap[Q]? = (zC #[zU 1,.string Zt,zU t.ty,zI t.n,zI t.p] 148):=(oY1 _ (by omega)).trans hTV
 rw [eY1]
 clear eY1 k0 k1 k2 k3 m2 f2 m3 f3 hTV hNV
 have hTV:=hY1t
 clear hY1t
 have HZY1:Hid (Y1.heap[w§]? = (zC zNo 48)):=(oY1 _ (by omega)).trans HZV.out
 have HHY1:Hid (Lv Y1 b K (t :: ts)):=HHV.out.off HLW.out (fun k hk=>oY1 k (by omega))
 have HMY1:Hid (Mv w Y1 (fun k=>k=b)):=(Mv.ofBelow HBV.out:Mv w V (fun k=>k=b)).trans HTY1.out (fun k e=>.inr (by have:=HBW.out; omega))
 have k0:Y1.cell? Q¢0=some (zU 1):=Qa hTV 0
 have k1:Y1.cell? Q¢1=some (.string Zt):=Qa hTV 1
 have k2:Y1.cell? Q¢2=some (zU t.ty):=Qa hTV 2
 have k3:Y1.cell? Q¢3=some (zI t.n):=Qa hTV 3
 have m2:Y1.cell? ⟨Q+1,2,none⟩=some (zU 6):=Qa hY1 2
 have f2:Y1.frozen? ⟨Q+1,2,none⟩=false:=Qb hY1 2
 have m3:Y1.cell? ⟨Q+1,3,none⟩=some (zI 0):=Qa hY1 3
 have f3:Y1.frozen? ⟨Q+1,3,none⟩=false:=Qb hY1 3
 go_upto_region 14 with fail
 obtain⟨Y2,eY2⟩:∃ Y,Y1.setCell ⟨Q+1,3,none⟩ (zI 1)=Y:=⟨_,rfl⟩
 have hY2:Y2.heap[Q+1]? = (zC #[zU 1,zU 0,zU 6,zI 1,zU 0,yQ,.slice none 0 0,zI t.p] 48):=by rw [← eY2]; exact Qi _ hY1
 have oY2:∀ k,k≠Q+1→Y2.heap[k]? = Y1.heap[k]?:=fun k hk=>by rw [← eY2]; exact Below.heap_setCell _ _ _ _ hk
 have zY2:Y2§=Y1§:=by rw [← eY2]; simp [World.setCell]
 have HTY2:Hid (Mv Y1 Y2 (fun k=>k=Q+1)):=by show Mv _ _ _; rw [← eY2]; exact Mv.setCell (F:=fun k=>k=Q+1) (a:=⟨Q+1,3,none⟩) (Mv.refl _ _) (.inl rfl) _
 have hY2t:Y2.heap[Q]? = (zC #[zU 1,.string Zt,zU t.ty,zI t.n,zI t.p] 148):=(oY2 _ (by omega)).trans hTV
 rw [eY2]
 clear eY2 k0 k1 k2 k3 m2 f2 m3 f3 hTV hY1
 have hTV:=hY2t
 clear hY2t
 have HZY2:Hid (Y2.heap[w§]? = (zC zNo 48)):=(oY2 _ (by omega)).trans HZY1.out
 have HHY2:Hid (Lv Y2 b K (t :: ts)):=HHY1.out.off HLW.out (fun k hk=>oY2 k (by omega))
 have HMY2:Hid (Mv w Y2 (fun k=>k=b)):=(HMY1.out:Mv w Y1 (fun k=>k=b)).trans HTY2.out (fun k e=>.inr (by have:=HBW.out; omega))
 have k0:Y2.cell? Q¢0=some (zU 1):=Qa hTV 0
 have k1:Y2.cell? Q¢1=some (.string Zt):=Qa hTV 1
 have k2:Y2.cell? Q¢2=some (zU t.ty):=Qa hTV 2
 have k3:Y2.cell? Q¢3=some (zI t.n):=Qa hTV 3
 have m2:Y2.cell? ⟨Q+1,2,none⟩=some (zU 6):=Qa hY2 2
 have f2:Y2.frozen? ⟨Q+1,2,none⟩=false:=Qb hY2 2
 have m3:Y2.cell? ⟨Q+1,3,none⟩=some (zI 1):=Qa hY2 3
 have f3:Y2.frozen? ⟨Q+1,3,none⟩=false:=Qb hY2 3
 go_upto_region 16 with fail
 clear k0 k1 k2 k3 m2 f2 m3 f3
 obtain⟨i,c3,g3,hmx,hL,hM,ho,hsz⟩:=HHY2.out.at'
 go_upto_region 17 with fail
 obtain⟨Z,eZ⟩:∃ Z,Y2.setCell b¢3 (zI ((i:Int)+1))=Z:=⟨_,rfl⟩
 rw [eZ] at hL hM ho ⊢
 have hbw:=HBW.out
 have hNZ:Z.heap[Q+1]? = (zC #[zU 1,zU 0,zU 6,zI 1,zU 0,yQ,.slice none 0 0,zI t.p] 48):=(ho _ (by omega)).trans hY2
 have HZZ:Hid (Z.heap[w§]? = (zC zNo 48)):=(ho _ (by omega)).trans HZY2.out
 have HLZ:=hL.hid
 have HMZ:Hid (Mv w Z (fun k=>k=b)):=HMY2.out.trans hM (fun k e=>.inl e)
 clear eZ hL hM ho hsz c3 g3 hmx
 have x0:Z.cell? ⟨Q+1,0,none⟩=some (zU 1):=Qa hNZ 0
 have x1:Z.cell? ⟨Q+1,1,none⟩=some (zU 0):=Qa hNZ 1
 have x2:Z.cell? ⟨Q+1,2,none⟩=some (zU 6):=Qa hNZ 2
 have x3:Z.cell? ⟨Q+1,3,none⟩=some (zI 1):=Qa hNZ 3
 have x4:Z.cell? ⟨Q+1,4,none⟩=some (zU 0):=Qa hNZ 4
 have x5:Z.cell? ⟨Q+1,5,none⟩=some (yQ):=Qa hNZ 5
 have x6:Z.cell? ⟨Q+1,6,none⟩=some (.slice none 0 0):=Qa hNZ 6
 have x7:Z.cell? ⟨Q+1,7,none⟩=some (zI t.p):=Qa hNZ 7
 have z0:Z.cell? w§¢0=some (zU 0):=Qa HZZ.out 0
 have q0:Z.frozen? w§¢0=false:=Qb HZZ.out 0
 have z1:Z.cell? w§¢1=some (zU 0):=Qa HZZ.out 1
 have q1:Z.frozen? w§¢1=false:=Qb HZZ.out 1
 have z2:Z.cell? w§¢2=some (zU 0):=Qa HZZ.out 2
 have q2:Z.frozen? w§¢2=false:=Qb HZZ.out 2
 have z3:Z.cell? w§¢3=some (zI 0):=Qa HZZ.out 3
 have q3:Z.frozen? w§¢3=false:=Qb HZZ.out 3
 have z4:Z.cell? w§¢4=some (zU 0):=Qa HZZ.out 4
 have q4:Z.frozen? w§¢4=false:=Qb HZZ.out 4
 have z5:Z.cell? w§¢5=some (yQ):=Qa HZZ.out 5
 have q5:Z.frozen? w§¢5=false:=Qb HZZ.out 5
 have z6:Z.cell? w§¢6=some (.slice none 0 0):=Qa HZZ.out 6
 have q6:Z.frozen? w§¢6=false:=Qb HZZ.out 6
 have z7:Z.cell? w§¢7=some (zI 0):=Qa HZZ.out 7
 have q7:Z.frozen? w§¢7=false:=Qb HZZ.out 7
 obtain⟨Y,eY,hY1,hY2,hY3,hY4⟩:=fin8 HZZ.out (zU 1) (zU 0) (zU 6) (zI 1) (zU 0) (yQ) (.slice none 0 0) (zI t.p)
 have HF:Hid (Lv Y b K ts∧Mv w Y (fun k=>k=b)∧Y.heap[w§]? = (zC #[zU 1,zU 0,zU 6,zI 1,zU 0,yQ,.slice none 0 0,zI t.p] 48)):=by
  refine⟨?_,hY4 w _ HMZ.out (Nat.le_refl _),hY1⟩
  exact HLZ.out.off HLW.out (fun k hk=>hY3 k (by omega))
 have HEY:Hid (_=Y):=eY
 clear hNZ eY hY1 hY2 hY3 hY4
 go_wp2_with fail
 rw [HEY.out]
 exact bodyPost_ret (Qg (p:=2) (u:=3) (ty:=48) rfl _ _ w§ 48 #[zU 1,zU 0,zU 6,zI 1,zU 0,yQ,.slice none 0 0,zI t.p] (0,0) _ rfl HF.out.2.2 Tryz.underlying48 rfl zK) rfl ⟨rfl,HF.out.1,HF.out.2.1⟩
theorem lit_sell {w:yW}{b:Nat}{K:PK}{t:Tk}{ts:List Tk}(h:Lv w b K (t :: ts)) (hk:t.k=1) (hx:t.x=Zs) :
  Calls zG 93 #[zP b] w fun e w'=>e=.returned (.tuple #[.agg #[zU 1,zU 0,zU 6,zI 2,zU 0,yQ,.slice none 0 0,zI t.p],.bool true])∧Lv w' b K ts∧Mv w w' (fun k=>k=b):=by
 have hb0:=Qc w (.cells zNo 48)
 have hn0:=Qd w (.cells zNo 48)
 have HB0:Hid (yD w (w.alloc (.cells zNo 48))):=hb0
 have HN0:Hid ((w.alloc (.cells zNo 48)).heap[w§]? = (zC zNo 48)):=hn0
 have HBW:Hid (b < w§):=h.lt
 have HLW:Hid (Lw w§ b K):=h.lw
 have cN:=Qt (h.on hb0)
 have HH:=(h.on hb0).hid
 unfold tkA at cN
 clear h hb0 hn0
 rw [hk,hx] at cN
 clear hk hx
 go_enter Tryz.func93,Tryz.ntmps93
 go_wp2_with fail
 refine cN.mono ?_
 rintro e w1 ⟨rfl,hb⟩
 have HB1:Hid (yD w w1):=Qe HB0.out hb
 have HH1:=(HH.out.on hb).hid
 have HN1:Hid (w1.heap[w§]? = (zC zNo 48)):=(hb.block _ (by rw [Qf]; omega)).trans HN0.out
 clear cN hb HB0 HH HN0
 go_upto_region 4 with fail
 have e1:=Qc w1 (.cells #[zU 1,.string Zs,zU t.ty,zI t.n,zI t.p] 148)
 have e2:=Qc (w1.alloc (.cells #[zU 1,.string Zs,zU t.ty,zI t.n,zI t.p] 148)) (.cells #[zU 1,zU 0,zU 0,zI 0,zU 0,yQ,.slice none 0 0,zI t.p] 48)
 have s1:=Qf w1 (.cells #[zU 1,.string Zs,zU t.ty,zI t.n,zI t.p] 148)
 have t1:=Qd w1 (.cells #[zU 1,.string Zs,zU t.ty,zI t.n,zI t.p] 148)
 have t2:=Qd (w1.alloc (.cells #[zU 1,.string Zs,zU t.ty,zI t.n,zI t.p] 148)) (.cells #[zU 1,zU 0,zU 0,zI 0,zU 0,yQ,.slice none 0 0,zI t.p] 48)
 rw [s1] at t2
 obtain⟨V,eV⟩:∃ V,(w1.alloc (.cells #[zU 1,.string Zs,zU t.ty,zI t.n,zI t.p] 148)).alloc (.cells #[zU 1,zU 0,zU 0,zI 0,zU 0,yQ,.slice none 0 0,zI t.p] 48)=V:=⟨_,rfl⟩
 have hTV:V.heap[w1§]? = (zC #[zU 1,.string Zs,zU t.ty,zI t.n,zI t.p] 148):=by rw [← eV]; exact (e2.block _ (by rw [s1]; omega)).trans t1
 have hNV:V.heap[w1§+1]? = (zC #[zU 1,zU 0,zU 0,zI 0,zU 0,yQ,.slice none 0 0,zI t.p] 48):=by rw [← eV]; exact t2
 have hBV:yD w1 V:=by rw [← eV]; exact Qe e1 e2
 have hlw:w§ < w1§:=(zJ HN1.out).1
 have HZV:Hid (V.heap[w§]? = (zC zNo 48)):=(hBV.block _ hlw).trans HN1.out
 have HHV:=(HH1.out.on hBV).hid
 have HBV:Hid (yD w V):=Qe HB1.out hBV
 rw [eV]
 clear e1 e2 s1 t1 t2 eV hBV HB1 HH1 HN1
 obtain⟨Q,eQ⟩:∃ Q,w1§=Q:=⟨_,rfl⟩
 rw [eQ] at hTV hNV hlw ⊢
 clear eQ
 have k0:V.cell? Q¢0=some (zU 1):=Qa hTV 0
 have k1:V.cell? Q¢1=some (.string Zs):=Qa hTV 1
 have k2:V.cell? Q¢2=some (zU t.ty):=Qa hTV 2
 have k3:V.cell? Q¢3=some (zI t.n):=Qa hTV 3
 have m2:V.cell? ⟨Q+1,2,none⟩=some (zU 0):=Qa hNV 2
 have f2:V.frozen? ⟨Q+1,2,none⟩=false:=Qb hNV 2
 have m3:V.cell? ⟨Q+1,3,none⟩=some (zI 0):=Qa hNV 3
 have f3:V.frozen? ⟨Q+1,3,none⟩=false:=Qb hNV 3
 go_upto_region 13 with fail
 obtain⟨Y1,eY1⟩:∃ Y,V.setCell ⟨Q+1,2,none⟩ (zU 6)=Y:=⟨_,rfl⟩
 have hY1:Y1.heap[Q+1]? = (zC #[zU 1,zU 0,zU 6,zI 0,zU 0,yQ,.slice none 0 0,zI t.p] 48):=by rw [← eY1]; exact Qi _ hNV
 have oY1:∀ k,k≠Q+1→Y1.heap[k]? = V.heap[k]?:=fun k hk=>by rw [← eY1]; exact Below.heap_setCell _ _ _ _ hk
 have zY1:Y1§=V§:=by rw [← eY1]; simp [World.setCell]
 have HTY1:Hid (Mv V Y1 (fun k=>k=Q+1)):=by show Mv _ _ _; rw [← eY1]; exact Mv.setCell (F:=fun k=>k=Q+1) (a:=⟨Q+1,2,none⟩) (Mv.refl _ _) (.inl rfl) _
 have hY1t:Y1.heap[Q]? = (zC #[zU 1,.string Zs,zU t.ty,zI t.n,zI t.p] 148):=(oY1 _ (by omega)).trans hTV
 rw [eY1]
 clear eY1 k0 k1 k2 k3 m2 f2 m3 f3 hTV hNV
 have hTV:=hY1t
 clear hY1t
 have HZY1:Hid (Y1.heap[w§]? = (zC zNo 48)):=(oY1 _ (by omega)).trans HZV.out
 have HHY1:Hid (Lv Y1 b K (t :: ts)):=HHV.out.off HLW.out (fun k hk=>oY1 k (by omega))
 have HMY1:Hid (Mv w Y1 (fun k=>k=b)):=(Mv.ofBelow HBV.out:Mv w V (fun k=>k=b)).trans HTY1.out (fun k e=>.inr (by have:=HBW.out; omega))
 have k0:Y1.cell? Q¢0=some (zU 1):=Qa hTV 0
 have k1:Y1.cell? Q¢1=some (.string Zs):=Qa hTV 1
 have k2:Y1.cell? Q¢2=some (zU t.ty):=Qa hTV 2
 have k3:Y1.cell? Q¢3=some (zI t.n):=Qa hTV 3
 have m2:Y1.cell? ⟨Q+1,2,none⟩=some (zU 6):=Qa hY1 2
 have f2:Y1.frozen? ⟨Q+1,2,none⟩=false:=Qb hY1 2
 have m3:Y1.cell? ⟨Q+1,3,none⟩=some (zI 0):=Qa hY1 3
 have f3:Y1.frozen? ⟨Q+1,3,none⟩=false:=Qb hY1 3
 go_upto_region 14 with fail
 obtain⟨Y2,eY2⟩:∃ Y,Y1.setCell ⟨Q+1,3,none⟩ (zI 1)=Y:=⟨_,rfl⟩
 have hY2:Y2.heap[Q+1]? = (zC #[zU 1,zU 0,zU 6,zI 1,zU 0,yQ,.slice none 0 0,zI t.p] 48):=by rw [← eY2]; exact Qi _ hY1
 have oY2:∀ k,k≠Q+1→Y2.heap[k]? = Y1.heap[k]?:=fun k hk=>by rw [← eY2]; exact Below.heap_setCell _ _ _ _ hk
 have zY2:Y2§=Y1§:=by rw [← eY2]; simp [World.setCell]
 have HTY2:Hid (Mv Y1 Y2 (fun k=>k=Q+1)):=by show Mv _ _ _; rw [← eY2]; exact Mv.setCell (F:=fun k=>k=Q+1) (a:=⟨Q+1,3,none⟩) (Mv.refl _ _) (.inl rfl) _
 have hY2t:Y2.heap[Q]? = (zC #[zU 1,.string Zs,zU t.ty,zI t.n,zI t.p] 148):=(oY2 _ (by omega)).trans hTV
 rw [eY2]
 clear eY2 k0 k1 k2 k3 m2 f2 m3 f3 hTV hY1
 have hTV:=hY2t
 clear hY2t
 have HZY2:Hid (Y2.heap[w§]? = (zC zNo 48)):=(oY2 _ (by omega)).trans HZY1.out
 have HHY2:Hid (Lv Y2 b K (t :: ts)):=HHY1.out.off HLW.out (fun k hk=>oY2 k (by omega))
 have HMY2:Hid (Mv w Y2 (fun k=>k=b)):=(HMY1.out:Mv w Y1 (fun k=>k=b)).trans HTY2.out (fun k e=>.inr (by have:=HBW.out; omega))
 have k0:Y2.cell? Q¢0=some (zU 1):=Qa hTV 0
 have k1:Y2.cell? Q¢1=some (.string Zs):=Qa hTV 1
 have k2:Y2.cell? Q¢2=some (zU t.ty):=Qa hTV 2
 have k3:Y2.cell? Q¢3=some (zI t.n):=Qa hTV 3
 have m2:Y2.cell? ⟨Q+1,2,none⟩=some (zU 6):=Qa hY2 2
 have f2:Y2.frozen? ⟨Q+1,2,none⟩=false:=Qb hY2 2
 have m3:Y2.cell? ⟨Q+1,3,none⟩=some (zI 1):=Qa hY2 3
 have f3:Y2.frozen? ⟨Q+1,3,none⟩=false:=Qb hY2 3
 go_upto_region 16 with fail
 obtain⟨Y3,eY3⟩:∃ Y,Y2.setCell ⟨Q+1,3,none⟩ (zI 2)=Y:=⟨_,rfl⟩
 have hY3:Y3.heap[Q+1]? = (zC #[zU 1,zU 0,zU 6,zI 2,zU 0,yQ,.slice none 0 0,zI t.p] 48):=by rw [← eY3]; exact Qi _ hY2
 have oY3:∀ k,k≠Q+1→Y3.heap[k]? = Y2.heap[k]?:=fun k hk=>by rw [← eY3]; exact Below.heap_setCell _ _ _ _ hk
 have zY3:Y3§=Y2§:=by rw [← eY3]; simp [World.setCell]
 have HTY3:Hid (Mv Y2 Y3 (fun k=>k=Q+1)):=by show Mv _ _ _; rw [← eY3]; exact Mv.setCell (F:=fun k=>k=Q+1) (a:=⟨Q+1,3,none⟩) (Mv.refl _ _) (.inl rfl) _
 have hY3t:Y3.heap[Q]? = (zC #[zU 1,.string Zs,zU t.ty,zI t.n,zI t.p] 148):=(oY3 _ (by omega)).trans hTV
 rw [eY3]
 clear eY3 k0 k1 k2 k3 m2 f2 m3 f3 hTV hY2
 have hTV:=hY3t
 clear hY3t
 have HZY3:Hid (Y3.heap[w§]? = (zC zNo 48)):=(oY3 _ (by omega)).trans HZY2.out
 have HHY3:Hid (Lv Y3 b K (t :: ts)):=HHY2.out.off HLW.out (fun k hk=>oY3 k (by omega))
 have HMY3:Hid (Mv w Y3 (fun k=>k=b)):=(HMY2.out:Mv w Y2 (fun k=>k=b)).trans HTY3.out (fun k e=>.inr (by have:=HBW.out; omega))
 have k0:Y3.cell? Q¢0=some (zU 1):=Qa hTV 0
 have k1:Y3.cell? Q¢1=some (.string Zs):=Qa hTV 1
 have k2:Y3.cell? Q¢2=some (zU t.ty):=Qa hTV 2
 have k3:Y3.cell? Q¢3=some (zI t.n):=Qa hTV 3
 have m2:Y3.cell? ⟨Q+1,2,none⟩=some (zU 6):=Qa hY3 2
 have f2:Y3.frozen? ⟨Q+1,2,none⟩=false:=Qb hY3 2
 have m3:Y3.cell? ⟨Q+1,3,none⟩=some (zI 2):=Qa hY3 3
 have f3:Y3.frozen? ⟨Q+1,3,none⟩=false:=Qb hY3 3
 go_upto_region 16 with fail
 clear k0 k1 k2 k3 m2 f2 m3 f3
 obtain⟨i,c3,g3,hmx,hL,hM,ho,hsz⟩:=HHY3.out.at'
 go_upto_region 17 with fail
 obtain⟨Z,eZ⟩:∃ Z,Y3.setCell b¢3 (zI ((i:Int)+1))=Z:=⟨_,rfl⟩
 rw [eZ] at hL hM ho ⊢
 have hbw:=HBW.out
 have hNZ:Z.heap[Q+1]? = (zC #[zU 1,zU 0,zU 6,zI 2,zU 0,yQ,.slice none 0 0,zI t.p] 48):=(ho _ (by omega)).trans hY3
 have HZZ:Hid (Z.heap[w§]? = (zC zNo 48)):=(ho _ (by omega)).trans HZY3.out
 have HLZ:=hL.hid
 have HMZ:Hid (Mv w Z (fun k=>k=b)):=HMY3.out.trans hM (fun k e=>.inl e)
 clear eZ hL hM ho hsz c3 g3 hmx
 have x0:Z.cell? ⟨Q+1,0,none⟩=some (zU 1):=Qa hNZ 0
 have x1:Z.cell? ⟨Q+1,1,none⟩=some (zU 0):=Qa hNZ 1
 have x2:Z.cell? ⟨Q+1,2,none⟩=some (zU 6):=Qa hNZ 2
 have x3:Z.cell? ⟨Q+1,3,none⟩=some (zI 2):=Qa hNZ 3
 have x4:Z.cell? ⟨Q+1,4,none⟩=some (zU 0):=Qa hNZ 4
 have x5:Z.cell? ⟨Q+1,5,none⟩=some (yQ):=Qa hNZ 5
 have x6:Z.cell? ⟨Q+1,6,none⟩=some (.slice none 0 0):=Qa hNZ 6
 have x7:Z.cell? ⟨Q+1,7,none⟩=some (zI t.p):=Qa hNZ 7
 have z0:Z.cell? w§¢0=some (zU 0):=Qa HZZ.out 0
 have q0:Z.frozen? w§¢0=false:=Qb HZZ.out 0
 have z1:Z.cell? w§¢1=some (zU 0):=Qa HZZ.out 1
 have q1:Z.frozen? w§¢1=false:=Qb HZZ.out 1
 have z2:Z.cell? w§¢2=some (zU 0):=Qa HZZ.out 2
 have q2:Z.frozen? w§¢2=false:=Qb HZZ.out 2
 have z3:Z.cell? w§¢3=some (zI 0):=Qa HZZ.out 3
 have q3:Z.frozen? w§¢3=false:=Qb HZZ.out 3
 have z4:Z.cell? w§¢4=some (zU 0):=Qa HZZ.out 4
 have q4:Z.frozen? w§¢4=false:=Qb HZZ.out 4
 have z5:Z.cell? w§¢5=some (yQ):=Qa HZZ.out 5
 have q5:Z.frozen? w§¢5=false:=Qb HZZ.out 5
 have z6:Z.cell? w§¢6=some (.slice none 0 0):=Qa HZZ.out 6
 have q6:Z.frozen? w§¢6=false:=Qb HZZ.out 6
 have z7:Z.cell? w§¢7=some (zI 0):=Qa HZZ.out 7
 have q7:Z.frozen? w§¢7=false:=Qb HZZ.out 7
 obtain⟨Y,eY,hY1,hY2,hY3,hY4⟩:=fin8 HZZ.out (zU 1) (zU 0) (zU 6) (zI 2) (zU 0) (yQ) (.slice none 0 0) (zI t.p)
 have HF:Hid (Lv Y b K ts∧Mv w Y (fun k=>k=b)∧Y.heap[w§]? = (zC #[zU 1,zU 0,zU 6,zI 2,zU 0,yQ,.slice none 0 0,zI t.p] 48)):=by
  refine⟨?_,hY4 w _ HMZ.out (Nat.le_refl _),hY1⟩
  exact HLZ.out.off HLW.out (fun k hk=>hY3 k (by omega))
 have HEY:Hid (_=Y):=eY
 clear hNZ eY hY1 hY2 hY3 hY4
 go_wp2_with fail
 rw [HEY.out]
 exact bodyPost_ret (Qg (p:=2) (u:=3) (ty:=48) rfl _ _ w§ 48 #[zU 1,zU 0,zU 6,zI 2,zU 0,yQ,.slice none 0 0,zI t.p] (0,0) _ rfl HF.out.2.2 Tryz.underlying48 rfl zK) rfl ⟨rfl,HF.out.1,HF.out.2.1⟩
theorem lit_dead {w:yW}{b:Nat}{K:PK}{f:Ft}(h:Dd w b K f) :
  Calls zG 93 #[zP b] w fun e w'=>e=.returned (.tuple #[.agg zNo,.bool false])∧yD w w':=by
 have hb0:=Qc w (.cells zNo 48)
 have hn0:=Qd w (.cells zNo 48)
 have HB0:Hid (yD w (w.alloc (.cells zNo 48))):=hb0
 have HN0:Hid ((w.alloc (.cells zNo 48)).heap[w§]? = (zC zNo 48)):=hn0
 have HBW:Hid (b < w§):=h.lt
 have HLW:Hid (Lw w§ b K):=h.lw
 have cN:=dead_now (h.on hb0)
 have HH:=(h.on hb0).hid
 unfold tkA tk0 at cN
 clear h hb0 hn0
 go_enter Tryz.func93,Tryz.ntmps93
 go_wp2_with fail
 refine cN.mono ?_
 rintro e w1 ⟨rfl,hb⟩
 have HB1:Hid (yD w w1):=Qe HB0.out hb
 have HN1:Hid (w1.heap[w§]? = (zC zNo 48)):=(hb.block _ (by rw [Qf]; omega)).trans HN0.out
 have hlw:w§ < w1§:=(zJ HN1.out).1
 clear cN hb HB0 HH HN0
 go_upto_region 4 with fail
 have e1:=Qc w1 (.cells zl 148)
 have e2:=Qc (w1.alloc (.cells zl 148)) (.cells #[zU 1,zU 0,zU 0,zI 0,zU 0,yQ,.slice none 0 0,zI 0] 48)
 have s1:=Qf w1 (.cells zl 148)
 have t1:=Qd w1 (.cells zl 148)
 obtain⟨V,eV⟩:∃ V,(w1.alloc (.cells zl 148)).alloc (.cells #[zU 1,zU 0,zU 0,zI 0,zU 0,yQ,.slice none 0 0,zI 0] 48)=V:=⟨_,rfl⟩
 have hTV:V.heap[w1§]? = (zC zl 148):=by rw [← eV]; exact (e2.block _ (by rw [s1]; omega)).trans t1
 have hBV:yD w1 V:=by rw [← eV]; exact Qe e1 e2
 have HZV:Hid (V.heap[w§]? = (zC zNo 48)):=(hBV.block _ hlw).trans HN1.out
 have HBV:Hid (yD w V):=Qe HB1.out hBV
 rw [eV]
 clear e1 e2 s1 t1 eV hBV HB1 HN1
 obtain⟨Q,eQ⟩:∃ Q,w1§=Q:=⟨_,rfl⟩
 rw [eQ] at hTV hlw ⊢
 clear eQ
 have k0:V.cell? Q¢0=some (zU 0):=Qa hTV 0
 have k1:V.cell? Q¢1=some (yQ):=Qa hTV 1
 go_upto_region 3 with fail
 clear k0 k1 hTV
 have z0:V.cell? w§¢0=some (zU 0):=Qa HZV.out 0
 have q0:V.frozen? w§¢0=false:=Qb HZV.out 0
 have z1:V.cell? w§¢1=some (zU 0):=Qa HZV.out 1
 have q1:V.frozen? w§¢1=false:=Qb HZV.out 1
 have z2:V.cell? w§¢2=some (zU 0):=Qa HZV.out 2
 have q2:V.frozen? w§¢2=false:=Qb HZV.out 2
 have z3:V.cell? w§¢3=some (zI 0):=Qa HZV.out 3
 have q3:V.frozen? w§¢3=false:=Qb HZV.out 3
 have z4:V.cell? w§¢4=some (zU 0):=Qa HZV.out 4
 have q4:V.frozen? w§¢4=false:=Qb HZV.out 4
 have z5:V.cell? w§¢5=some (yQ):=Qa HZV.out 5
 have q5:V.frozen? w§¢5=false:=Qb HZV.out 5
 have z6:V.cell? w§¢6=some (.slice none 0 0):=Qa HZV.out 6
 have q6:V.frozen? w§¢6=false:=Qb HZV.out 6
 have z7:V.cell? w§¢7=some (zI 0):=Qa HZV.out 7
 have q7:V.frozen? w§¢7=false:=Qb HZV.out 7
 obtain⟨Y,eY,hY1,hY2,hY3,hY4⟩:=fin8 HZV.out (zU 0) (zU 0) (zU 0) (zI 0) (zU 0) (yQ) (.slice none 0 0) (zI 0)
 have HF:Hid (yD w Y∧Y.heap[w§]? = (zC zNo 48)):=⟨(hY4 w (fun _=>False) (Mv.ofBelow HBV.out) (Nat.le_refl _)).below (Nat.le_refl _) (fun _ e=>e.elim),hY1⟩
 have HEY:Hid (_=Y):=eY
 clear eY hY1 hY2 hY3 hY4
 go_wp2_with fail
 rw [HEY.out]
 exact bodyPost_ret (Qg (p:=2) (u:=3) (ty:=48) rfl _ _ w§ 48 zNo (0,0) _ rfl HF.out.2 Tryz.underlying48 rfl zK) rfl ⟨rfl,HF.out.1⟩
theorem lit_none {w:yW}{b:Nat}{K:PK}{t:Tk}{ts:List Tk}(h:Lv w b K (t :: ts)) (hk3:¬ t.k=3) (hk1:¬ t.k=1) :
  Calls zG 93 #[zP b] w fun e w'=>e=.returned (.tuple #[.agg zNo,.bool false])∧yD w w':=by
 have hb0:=Qc w (.cells zNo 48)
 have hn0:=Qd w (.cells zNo 48)
 have HB0:Hid (yD w (w.alloc (.cells zNo 48))):=hb0
 have HN0:Hid ((w.alloc (.cells zNo 48)).heap[w§]? = (zC zNo 48)):=hn0
 have HBW:Hid (b < w§):=h.lt
 have HLW:Hid (Lw w§ b K):=h.lw
 have cN:=Qt (h.on hb0)
 have HH:=(h.on hb0).hid
 unfold tkA at cN
 clear h hb0 hn0
 go_enter Tryz.func93,Tryz.ntmps93
 go_wp2_with fail
 refine cN.mono ?_
 rintro e w1 ⟨rfl,hb⟩
 have HB1:Hid (yD w w1):=Qe HB0.out hb
 have HN1:Hid (w1.heap[w§]? = (zC zNo 48)):=(hb.block _ (by rw [Qf]; omega)).trans HN0.out
 have hlw:w§ < w1§:=(zJ HN1.out).1
 clear cN hb HB0 HH HN0
 go_upto_region 4 with fail
 have e1:=Qc w1 (.cells #[zU t.k,.string t.x,zU t.ty,zI t.n,zI t.p] 148)
 have e2:=Qc (w1.alloc (.cells #[zU t.k,.string t.x,zU t.ty,zI t.n,zI t.p] 148)) (.cells #[zU 1,zU 0,zU 0,zI 0,zU 0,yQ,.slice none 0 0,zI t.p] 48)
 have s1:=Qf w1 (.cells #[zU t.k,.string t.x,zU t.ty,zI t.n,zI t.p] 148)
 have t1:=Qd w1 (.cells #[zU t.k,.string t.x,zU t.ty,zI t.n,zI t.p] 148)
 obtain⟨V,eV⟩:∃ V,(w1.alloc (.cells #[zU t.k,.string t.x,zU t.ty,zI t.n,zI t.p] 148)).alloc (.cells #[zU 1,zU 0,zU 0,zI 0,zU 0,yQ,.slice none 0 0,zI t.p] 48)=V:=⟨_,rfl⟩
 have hTV:V.heap[w1§]? = (zC #[zU t.k,.string t.x,zU t.ty,zI t.n,zI t.p] 148):=by rw [← eV]; exact (e2.block _ (by rw [s1]; omega)).trans t1
 have hBV:yD w1 V:=by rw [← eV]; exact Qe e1 e2
 have HZV:Hid (V.heap[w§]? = (zC zNo 48)):=(hBV.block _ hlw).trans HN1.out
 have HBV:Hid (yD w V):=Qe HB1.out hBV
 rw [eV]
 clear e1 e2 s1 t1 eV hBV HB1 HN1
 obtain⟨Q,eQ⟩:∃ Q,w1§=Q:=⟨_,rfl⟩
 rw [eQ] at hTV hlw ⊢
 clear eQ
 have k0:V.cell? Q¢0=some (zU t.k):=Qa hTV 0
 have k1:V.cell? Q¢1=some (.string t.x):=Qa hTV 1
 go_upto_region 3 with fail
 clear k0 k1 hTV
 have z0:V.cell? w§¢0=some (zU 0):=Qa HZV.out 0
 have q0:V.frozen? w§¢0=false:=Qb HZV.out 0
 have z1:V.cell? w§¢1=some (zU 0):=Qa HZV.out 1
 have q1:V.frozen? w§¢1=false:=Qb HZV.out 1
 have z2:V.cell? w§¢2=some (zU 0):=Qa HZV.out 2
 have q2:V.frozen? w§¢2=false:=Qb HZV.out 2
 have z3:V.cell? w§¢3=some (zI 0):=Qa HZV.out 3
 have q3:V.frozen? w§¢3=false:=Qb HZV.out 3
 have z4:V.cell? w§¢4=some (zU 0):=Qa HZV.out 4
 have q4:V.frozen? w§¢4=false:=Qb HZV.out 4
 have z5:V.cell? w§¢5=some (yQ):=Qa HZV.out 5
 have q5:V.frozen? w§¢5=false:=Qb HZV.out 5
 have z6:V.cell? w§¢6=some (.slice none 0 0):=Qa HZV.out 6
 have q6:V.frozen? w§¢6=false:=Qb HZV.out 6
 have z7:V.cell? w§¢7=some (zI 0):=Qa HZV.out 7
 have q7:V.frozen? w§¢7=false:=Qb HZV.out 7
 obtain⟨Y,eY,hY1,hY2,hY3,hY4⟩:=fin8 HZV.out (zU 0) (zU 0) (zU 0) (zI 0) (zU 0) (yQ) (.slice none 0 0) (zI 0)
 have HF:Hid (yD w Y∧Y.heap[w§]? = (zC zNo 48)):=⟨(hY4 w (fun _=>False) (Mv.ofBelow HBV.out) (Nat.le_refl _)).below (Nat.le_refl _) (fun _ e=>e.elim),hY1⟩
 have HEY:Hid (_=Y):=eY
 clear eY hY1 hY2 hY3 hY4
 go_wp2_with fail
 rw [HEY.out]
 exact bodyPost_ret (Qg (p:=2) (u:=3) (ty:=48) rfl _ _ w§ 48 zNo (0,0) _ rfl HF.out.2 Tryz.underlying48 rfl zK) rfl ⟨rfl,HF.out.1⟩
theorem lit_word {w:yW}{b:Nat}{K:PK}{t:Tk}{ts:List Tk}(h:Lv w b K (t :: ts)) (hk:t.k=1) (s1:(t.x.toList == [116,114,117,101])=false) (s2:(t.x.toList == [102,97,108,115,101])=false) (s3:(t.x.toList == [98,117,121])=false) (s4:(t.x.toList == [115,101,108,108])=false) :
  Calls zG 93 #[zP b] w fun e w'=>e=.returned (.tuple #[.agg zNo,.bool false])∧yD w w':=by
 have hb0:=Qc w (.cells zNo 48)
 have hn0:=Qd w (.cells zNo 48)
 have HB0:Hid (yD w (w.alloc (.cells zNo 48))):=hb0
 have HN0:Hid ((w.alloc (.cells zNo 48)).heap[w§]? = (zC zNo 48)):=hn0
 have HBW:Hid (b < w§):=h.lt
 have HLW:Hid (Lw w§ b K):=h.lw
 have cN:=Qt (h.on hb0)
 have HH:=(h.on hb0).hid
 unfold tkA at cN
 clear h hb0 hn0
 rw [hk] at cN
 clear hk
 go_enter Tryz.func93,Tryz.ntmps93
 go_wp2_with fail
 refine cN.mono ?_
 rintro e w1 ⟨rfl,hb⟩
 have HB1:Hid (yD w w1):=Qe HB0.out hb
 have HN1:Hid (w1.heap[w§]? = (zC zNo 48)):=(hb.block _ (by rw [Qf]; omega)).trans HN0.out
 have hlw:w§ < w1§:=(zJ HN1.out).1
 clear cN hb HB0 HH HN0
 go_upto_region 4 with fail
 have e1:=Qc w1 (.cells #[zU 1,.string t.x,zU t.ty,zI t.n,zI t.p] 148)
 have e2:=Qc (w1.alloc (.cells #[zU 1,.string t.x,zU t.ty,zI t.n,zI t.p] 148)) (.cells #[zU 1,zU 0,zU 0,zI 0,zU 0,yQ,.slice none 0 0,zI t.p] 48)
 have s1:=Qf w1 (.cells #[zU 1,.string t.x,zU t.ty,zI t.n,zI t.p] 148)
 have t1:=Qd w1 (.cells #[zU 1,.string t.x,zU t.ty,zI t.n,zI t.p] 148)
 obtain⟨V,eV⟩:∃ V,(w1.alloc (.cells #[zU 1,.string t.x,zU t.ty,zI t.n,zI t.p] 148)).alloc (.cells #[zU 1,zU 0,zU 0,zI 0,zU 0,yQ,.slice none 0 0,zI t.p] 48)=V:=⟨_,rfl⟩
 have hTV:V.heap[w1§]? = (zC #[zU 1,.string t.x,zU t.ty,zI t.n,zI t.p] 148):=by rw [← eV]; exact (e2.block _ (by rw [s1]; omega)).trans t1
 have hBV:yD w1 V:=by rw [← eV]; exact Qe e1 e2
 have HZV:Hid (V.heap[w§]? = (zC zNo 48)):=(hBV.block _ hlw).trans HN1.out
 have HBV:Hid (yD w V):=Qe HB1.out hBV
 rw [eV]
 clear e1 e2 s1 t1 eV hBV HB1 HN1
 obtain⟨Q,eQ⟩:∃ Q,w1§=Q:=⟨_,rfl⟩
 rw [eQ] at hTV hlw ⊢
 clear eQ
 have k0:V.cell? Q¢0=some (zU 1):=Qa hTV 0
 have k1:V.cell? Q¢1=some (.string t.x):=Qa hTV 1
 go_upto_region 3 with fail
 clear k0 k1 hTV
 have z0:V.cell? w§¢0=some (zU 0):=Qa HZV.out 0
 have q0:V.frozen? w§¢0=false:=Qb HZV.out 0
 have z1:V.cell? w§¢1=some (zU 0):=Qa HZV.out 1
 have q1:V.frozen? w§¢1=false:=Qb HZV.out 1
 have z2:V.cell? w§¢2=some (zU 0):=Qa HZV.out 2
 have q2:V.frozen? w§¢2=false:=Qb HZV.out 2
 have z3:V.cell? w§¢3=some (zI 0):=Qa HZV.out 3
 have q3:V.frozen? w§¢3=false:=Qb HZV.out 3
 have z4:V.cell? w§¢4=some (zU 0):=Qa HZV.out 4
 have q4:V.frozen? w§¢4=false:=Qb HZV.out 4
 have z5:V.cell? w§¢5=some (yQ):=Qa HZV.out 5
 have q5:V.frozen? w§¢5=false:=Qb HZV.out 5
 have z6:V.cell? w§¢6=some (.slice none 0 0):=Qa HZV.out 6
 have q6:V.frozen? w§¢6=false:=Qb HZV.out 6
 have z7:V.cell? w§¢7=some (zI 0):=Qa HZV.out 7
 have q7:V.frozen? w§¢7=false:=Qb HZV.out 7
 obtain⟨Y,eY,hY1,hY2,hY3,hY4⟩:=fin8 HZV.out (zU 0) (zU 0) (zU 0) (zI 0) (zU 0) (yQ) (.slice none 0 0) (zI 0)
 have HF:Hid (yD w Y∧Y.heap[w§]? = (zC zNo 48)):=⟨(hY4 w (fun _=>False) (Mv.ofBelow HBV.out) (Nat.le_refl _)).below (Nat.le_refl _) (fun _ e=>e.elim),hY1⟩
 have HEY:Hid (_=Y):=eY
 clear eY hY1 hY2 hY3 hY4
 go_wp2_with fail
 rw [HEY.out]
 exact bodyPost_ret (Qg (p:=2) (u:=3) (ty:=48) rfl _ _ w§ 48 zNo (0,0) _ rfl HF.out.2 Tryz.underlying48 rfl zK) rfl ⟨rfl,HF.out.1⟩
theorem Kz {x:yB}{a:Array UInt8}(h:eqX x a.toList=true):x=⟨a⟩:=by
 unfold eqX at h
 rw [ByteArray.toList_eq] at h
 exact ba_ext2 (by simpa using h)
theorem literal_ok {w:yW}{b:Nat}{K:PK}{t:Tk}{ts:List Tk}(h:Lv w b K (t :: ts)) (ht:TkOk t) (hv:(valT t).1≠0) :
  Calls zG 93 #[zP b] w fun e w'=>e=.returned (.tuple #[.agg (litN t).vals,.bool true])∧Lv w' b K ts∧Mv w w' (fun k=>k=b):=by
 unfold litN
 by_cases e1:eqX t.x [116,114,117,101]=true
 ·have hx:t.x=Zu:=Kz e1
  have hk:=ht.w _ (by simp [kwW]) hx
  have:=lit_true h hk hx
  simp only [valT,e1,if_true]
  exact this
 by_cases e2:eqX t.x [102,97,108,115,101]=true
 ·have hx:t.x=ZI:=Kz e2
  have hk:=ht.w _ (by simp [kwW]) hx
  have:=lit_false h hk hx
  simp only [valT,e1,e2,if_true]
  exact this
 by_cases e3:eqX t.x [98,117,121]=true
 ·have hx:t.x=Zt:=Kz e3
  have hk:=ht.w _ (by simp [kwW]) hx
  have:=lit_buy h hk hx
  simp only [valT,e1,e2,e3,if_true]
  exact this
 by_cases e4:eqX t.x [115,101,108,108]=true
 ·have hx:t.x=Zs:=Kz e4
  have hk:=ht.w _ (by simp [kwW]) hx
  have:=lit_sell h hk hx
  simp only [valT,e1,e2,e3,e4,if_true]
  exact this
 have ev:valT t=(t.ty,t.n):=by unfold valT; rw [if_neg e1,if_neg e2,if_neg e3,if_neg e4]
 rw [ev] at hv ⊢
 exact lit_num h (ht.n.2 hv)
theorem JO {w:yW}{b:Nat}{K:PK}{t:Tk}{ts:List Tk}(h:Lv w b K (t :: ts)) (ht:TkOk t) (hv:(valT t).1=0) :
  Calls zG 93 #[zP b] w fun e w'=>e=.returned (.tuple #[.agg nul8,.bool false])∧yD w w':=by
 unfold nul8
 unfold valT at hv
 by_cases e1:eqX t.x [116,114,117,101]=true
 ·rw [if_pos e1] at hv; simp at hv
 rw [if_neg e1] at hv
 by_cases e2:eqX t.x [102,97,108,115,101]=true
 ·rw [if_pos e2] at hv; simp at hv
 rw [if_neg e2] at hv
 by_cases e3:eqX t.x [98,117,121]=true
 ·rw [if_pos e3] at hv; simp at hv
 rw [if_neg e3] at hv
 by_cases e4:eqX t.x [115,101,108,108]=true
 ·rw [if_pos e4] at hv; simp at hv
 rw [if_neg e4] at hv
 have h3:¬ t.k=3:=fun e=>ht.n.1 e hv
 by_cases h1:t.k=1
 ·exact lit_word h h1 (by simpa [eqX] using e1) (by simpa [eqX] using e2) (by simpa [eqX] using e3) (by simpa [eqX] using e4)
 ·exact lit_none h h3 h1
end Go.Proofs.YtoogodlnnijikaaGreatDoor
