import Derived.Test.YtoogodlnnijikaaGreatDoorA0
import Derived.Test.YtoogodlnnijikaaGreatDoorA17
namespace Go.Proofs.YtoogodlnnijikaaGreatDoor
set_option maxHeartbeats 4000000
set_option maxRecDepth 100000
open Go.RowKit
set_option linter.unusedVariables false
structure EX (w:yW) (b:Nat) (K:PK) (V:yW) (bs:List (Nat × Nd)) (s:St):Prop where
 X:RZ w b K w§ V s
 B:∀ p ∈ bs,V.heap[p.1]? = (zC p.2.vals 48)∧w§ < p.1∧Lies V p.2∧Bkn (fun k=>w§ < k∧k < V§) p.2
theorem EX.hid {w:yW}{b:Nat}{K:PK}{V:yW}{bs:List (Nat × Nd)}{s:St}(h:EX w b K V bs s):Hid (EX w b K V bs s):=h
theorem EX.mv {w:yW}{b:Nat}{K:PK}{V:yW}{bs:List (Nat × Nd)}{s:St}{V':yW}{s':St}(h:EX w b K V bs s) (hm:Mv V V' (fun k=>k=b)) (hs:Sp V' b K s'):EX w b K V' bs s':=by
 have hb:=h.X.W.1
 have hz:=hm.size
 refine⟨h.X.mv hm hs,fun p hp=>?_⟩
 obtain⟨h1,h2,h3,h4⟩:=h.B p hp
 exact⟨(hm.block _ (zJ h1).1 (by omega)).trans h1,h2,h3.bkn h4 fun j hj=>hm.block j hj.2 (by omega),h4.mono fun j hj=>⟨hj.1,by omega⟩⟩
theorem EX.on {w:yW}{b:Nat}{K:PK}{V:yW}{bs:List (Nat × Nd)}{s:St}{V':yW}(h:EX w b K V bs s) (k:yD V V'):EX w b K V' bs s:=h.mv (Mv.ofBelow k) (h.X.S.on k)
theorem EX.push {w:yW}{b:Nat}{K:PK}{V:yW}{bs:List (Nat × Nd)}{s:St}{m:Nd}(h:EX w b K V bs s) (hl:Lies V m) (hk:Bkn (fun k=>w§ < k∧k < V§) m):EX w b K (V.alloc (.cells m.vals 48)) ((V§,m) :: bs) s:=by
 have k:=Qc V (.cells m.vals 48)
 have h':=h.on k
 refine⟨h'.X,fun p hp=>?_⟩
 rcases List.mem_cons.1 hp with e | e
 ·rw [e]
  exact⟨Qd _ _,(zJ h.X.Z).1,hl.on k,hk.mono fun j hj=>⟨hj.1,Nat.lt_of_lt_of_le hj.2 k.size⟩⟩
 ·exact h'.B p e
theorem EX.three {w:yW}{b:Nat}{K:PK}{W:yW}{s:St}{k2 o2 ty2 n2 f2 p2:Int}{x2:yB}{am2:Option Addr}{cm2:Nat}{ks2:List Nd}{k3 o3 ty3 n3 f3 p3:Int}{x3:yB}{am3:Option Addr}{cm3:Nat}{ks3:List Nd}{k4 o4 ty4 n4 f4 p4:Int}{x4:yB}{am4:Option Addr}{cm4:Nat}{ks4:List Nd}{N2 N3 N4:Nat}{p:Int}(h:EX w b K W [(N4,(Nd.mk ⟨k4,o4,ty4,n4,f4,x4,p4⟩ am4 cm4 ks4)),(N3,(Nd.mk ⟨k3,o3,ty3,n3,f3,x3,p3⟩ am3 cm3 ks3)),(N2,(Nd.mk ⟨k2,o2,ty2,n2,f2,x2,p2⟩ am2 cm2 ks2))] s) (hq:Rg ⟨7,0,0,0,0,gE,p⟩) :
  ∃ Y,((((((((W.setCell w§¢0 (zU 7)).setCell w§¢1 (zU 0)).setCell w§¢2 (zU 0)).setCell w§¢3 (zI 0)).setCell w§¢4 (zU 0)).setCell w§¢5 (yQ)).setCell w§¢6 (.slice (some W§¢0) 3 3)).setCell w§¢7 (zI p)).alloc (.cells #[zU k2,zU o2,zU ty2,zI n2,zU f2,.string x2,.slice am2 ks2.length cm2,zI p2,zU k3,zU o3,zU ty3,zI n3,zU f3,.string x3,.slice am3 ks3.length cm3,zI p3,zU k4,zU o4,zU ty4,zI n4,zU f4,.string x4,.slice am4 ks4.length cm4,zI p4] 48)=Y∧Y.heap[w§]? = (zC (Nd.mk ⟨7,0,0,0,0,gE,p⟩ (some W§¢0) 3 [(Nd.mk ⟨k2,o2,ty2,n2,f2,x2,p2⟩ am2 cm2 ks2),(Nd.mk ⟨k3,o3,ty3,n3,f3,x3,p3⟩ am3 cm3 ks3),(Nd.mk ⟨k4,o4,ty4,n4,f4,x4,p4⟩ am4 cm4 ks4)]).vals 48)∧Lies Y (Nd.mk ⟨7,0,0,0,0,gE,p⟩ (some W§¢0) 3 [(Nd.mk ⟨k2,o2,ty2,n2,f2,x2,p2⟩ am2 cm2 ks2),(Nd.mk ⟨k3,o3,ty3,n3,f3,x3,p3⟩ am3 cm3 ks3),(Nd.mk ⟨k4,o4,ty4,n4,f4,x4,p4⟩ am4 cm4 ks4)])∧Bkn (fun k=>w§≤k∧k < Y§) (Nd.mk ⟨7,0,0,0,0,gE,p⟩ (some W§¢0) 3 [(Nd.mk ⟨k2,o2,ty2,n2,f2,x2,p2⟩ am2 cm2 ks2),(Nd.mk ⟨k3,o3,ty3,n3,f3,x3,p3⟩ am3 cm3 ks3),(Nd.mk ⟨k4,o4,ty4,n4,f4,x4,p4⟩ am4 cm4 ks4)])∧Sp Y b K s∧Mv w Y (fun k=>k=b):=by
 obtain⟨_,_,hl4,hk4⟩:=h.B (N4,(Nd.mk ⟨k4,o4,ty4,n4,f4,x4,p4⟩ am4 cm4 ks4)) (by simp)
 obtain⟨_,_,hl3,hk3⟩:=h.B (N3,(Nd.mk ⟨k3,o3,ty3,n3,f3,x3,p3⟩ am3 cm3 ks3)) (by simp)
 obtain⟨_,_,hl2,hk2⟩:=h.B (N2,(Nd.mk ⟨k2,o2,ty2,n2,f2,x2,p2⟩ am2 cm2 ks2)) (by simp)
 have hZ:=h.X.Z
 have hm:=h.X.M
 obtain⟨Y,eY,hY1,hY2,hY3,hY4⟩:=fin8 hZ (zU 7) (zU 0) (zU 0) (zI 0) (zU 0) (yQ) (.slice (some W§¢0) 3 3) (zI p)
 rw [eY]
 clear eY
 have hNW:w§ < W§:=(zJ hZ).1
 have b2:=Qc Y (.cells #[zU k2,zU o2,zU ty2,zI n2,zU f2,.string x2,.slice am2 ks2.length cm2,zI p2,zU k3,zU o3,zU ty3,zI n3,zU f3,.string x3,.slice am3 ks3.length cm3,zI p3,zU k4,zU o4,zU ty4,zI n4,zU f4,.string x4,.slice am4 ks4.length cm4,zI p4] 48)
 have hB:=Qd Y (.cells #[zU k2,zU o2,zU ty2,zI n2,zU f2,.string x2,.slice am2 ks2.length cm2,zI p2,zU k3,zU o3,zU ty3,zI n3,zU f3,.string x3,.slice am3 ks3.length cm3,zI p3,zU k4,zU o4,zU ty4,zI n4,zU f4,.string x4,.slice am4 ks4.length cm4,zI p4] 48)
 have s2:=Qf Y (.cells #[zU k2,zU o2,zU ty2,zI n2,zU f2,.string x2,.slice am2 ks2.length cm2,zI p2,zU k3,zU o3,zU ty3,zI n3,zU f3,.string x3,.slice am3 ks3.length cm3,zI p3,zU k4,zU o4,zU ty4,zI n4,zU f4,.string x4,.slice am4 ks4.length cm4,zI p4] 48)
 rw [hY2] at hB s2
 obtain⟨Z,eZ⟩:∃ Z,Y.alloc (.cells #[zU k2,zU o2,zU ty2,zI n2,zU f2,.string x2,.slice am2 ks2.length cm2,zI p2,zU k3,zU o3,zU ty3,zI n3,zU f3,.string x3,.slice am3 ks3.length cm3,zI p3,zU k4,zU o4,zU ty4,zI n4,zU f4,.string x4,.slice am4 ks4.length cm4,zI p4] 48)=Z:=⟨_,rfl⟩
 rw [eZ] at b2 hB s2 ⊢
 clear eZ
 have hZZ:∀ k,k < W§→k≠w§→Z.heap[k]? = W.heap[k]?:=fun k h1 h2=>(b2.block k (by omega)).trans (hY3 k h2)
 refine⟨Z,rfl,(b2.block _ (by omega)).trans hY1,?_,?_,?_,(hY4 _ _ hm (by omega)).trans (Mv.ofBelow b2) (fun _ e=>.inl e)⟩
 ·refine .mk _ _ _ _ hq (by simp) (by simp) ?_ ?_
  ·intro i hi
   refine⟨W§,0,rfl,?_⟩
   match i,hi with
   | 0,_=>exact⟨Qa hB 0,Qa hB 1,Qa hB 2,Qa hB 3,Qa hB 4,Qa hB 5,Qa hB 6,Qa hB 7⟩
   | 1,_=>exact⟨Qa hB 8,Qa hB 9,Qa hB 10,Qa hB 11,Qa hB 12,Qa hB 13,Qa hB 14,Qa hB 15⟩
   | 2,_=>exact⟨Qa hB 16,Qa hB 17,Qa hB 18,Qa hB 19,Qa hB 20,Qa hB 21,Qa hB 22,Qa hB 23⟩
  ·intro k hk'
   rcases List.mem_cons.1 hk' with e | e
   ·rw [e]; exact hl2.bkn hk2 fun j hj=>hZZ j hj.2 (by omega)
   rcases List.mem_cons.1 e with e | e
   ·rw [e]; exact hl3.bkn hk3 fun j hj=>hZZ j hj.2 (by omega)
   ·obtain rfl:=List.mem_singleton.1 e
    exact hl4.bkn hk4 fun j hj=>hZZ j hj.2 (by omega)
 ·refine .mk _ _ _ _ (fun b' o e=>?_) ?_
  ·injection e with e; injection e with e; omega
  ·intro k hk'
   rcases List.mem_cons.1 hk' with e | e
   ·rw [e]; exact hk2.mono fun j hj=>⟨by omega,by omega⟩
   rcases List.mem_cons.1 e with e | e
   ·rw [e]; exact hk3.mono fun j hj=>⟨by omega,by omega⟩
   ·obtain rfl:=List.mem_singleton.1 e
    exact hk4.mono fun j hj=>⟨by omega,by omega⟩
 ·exact h.X.S.off h.X.W (fun k hk=>hZZ k (by omega) (by omega))
def gExD (orG ex:List Tk→Except Ft (Tr × List Tk)) (d:Nat) (ts:List Tk):Except Ft (Tr × List Tk):=do
 let (n,r) ← orG ts
 let b ← gIs (gB [63]) r
 if b=false then .ok (n,r) else do
  let (u,r) ← gOpn d r
  let (y,r) ← ex r
  let (_,r) ← Q5 (gB [58]) r
  let (z,r) ← ex r
  .ok (.mk ⟨7,0,0,0,0,gE,u.p⟩ [n,y,z],r)
def gAft (ex:List Tk→Except Ft (Tr × List Tk)) (d:Nat) (n:Tr) (t:Tk) (ts:List Tk):Except Ft (Tr × List Tk) :=
 if t.x=ZQ then (if d < 24 then (do
  let (y,r) ← ex ts
  let (_,r) ← Q5 ZX r
  let (z,r) ← ex r
  .ok (.mk ⟨7,0,0,0,0,gE,t.p⟩ [n,y,z],r)) else .error (.tok 132 t.p)) else .ok (n,t :: ts)
theorem gExD_err {orG ex:List Tk→Except Ft (Tr × List Tk)}{d:Nat}{st:St}{f:Ft}(h:stOf (rd orG st)=.error f):rd (gExD orG ex d) st=.error f:=by
 cases st with
 | error f'=>cases h; rfl
 | ok ts =>
  have h:stOf (orG ts)=.error f:=h
  show gExD orG ex d ts=.error f
  unfold gExD
  cases hr:orG ts with
  | error f'=>rw [hr] at h; cases h; rfl
  | ok q =>
   obtain⟨q1,q2⟩:=q
   rw [hr] at h
   cases q2 with
   | nil=>cases h; rfl
   | cons t r=>cases h
theorem gExD_ok {orG ex:List Tk→Except Ft (Tr × List Tk)}{d:Nat}{st:St}{t:Tk}{ts:List Tk}{n:Tr}(h:stOf (rd orG st)=.ok (t :: ts)) (hn:∀ q,rd orG st=.ok q→n=q.1):rd (gExD orG ex d) st=gAft ex d n t ts:=by
 cases st with
 | error f'=>cases h
 | ok ts0 =>
  have h:stOf (orG ts0)=.ok (t :: ts):=h
  have hn:∀ q,orG ts0=.ok q→n=q.1:=hn
  show gExD orG ex d ts0=_
  unfold gExD
  cases hr:orG ts0 with
  | error f'=>rw [hr] at h; cases h
  | ok q =>
   have e:=hn q hr
   subst e
   obtain⟨q1,q2⟩:=q
   rw [hr] at h
   cases q2 with
   | nil=>cases h
   | cons t' r =>
    cases h
    unfold gAft
    by_cases hx:t.x=ZQ
    ·rw [if_pos hx]
     have hx':t.x=gB [63]:=hx
     by_cases hd:d < 24
     ·rw [if_pos hd]
      simp only [bind,Except.bind,gIs,Jc,Except.map,hx',decide_true,gOpn,JD,hd,JW,if_true]
      rfl
     ·rw [if_neg hd]
      simp [bind,Except.bind,gIs,Jc,Except.map,hx',gOpn,JD,hd]
    ·rw [if_neg hx]
     have hx':¬ t.x=gB [63]:=hx
     simp [bind,Except.bind,gIs,Jc,Except.map,hx']
theorem gAft_st {ex:List Tk→Except Ft (Tr × List Tk)}(hE:ex []=.error .lex) {d:Nat}(hd:d < 24) {n y z:Tr}{t:Tk}{ts:List Tk}(hx:t.x=ZQ) (hy:∀ q,ex ts=.ok q→y=q.1) (hz:∀ q,rd ex (QY ZX (stOf (ex ts)))=.ok q→z=q.1) :
  stOf (gAft ex d n t ts)=stOf (rd ex (QY ZX (stOf (ex ts))))∧∀ q,gAft ex d n t ts=.ok q→Tr.mk ⟨7,0,0,0,0,gE,t.p⟩ [n,y,z]=q.1:=by
 unfold gAft
 rw [if_pos hx,if_pos hd]
 cases h2:ex ts with
 | error f=>exact⟨rfl,fun q e=>by cases e⟩
 | ok q2 =>
  have e:=hy q2 h2
  subst e
  rw [h2] at hz
  simp only [bind,Except.bind]
  have e4:stOf (Except.ok q2:Except Ft (Tr × List Tk))=nf q2.2:=rfl
  rw [e4] at hz ⊢
  cases h3:Q5 ZX q2.2 with
  | error f=>rw [J5 h3]; exact⟨rfl,fun q e=>by cases e⟩
  | ok q3 =>
   rw [KQ h3,Kq hE] at *
   cases h5:ex q3.2 with
   | error f=>simp only [h5]; exact⟨trivial,fun q e=>by cases e⟩
   | ok q5 =>
    have e:=hz q5 h5
    subst e
    simp only [h5]
    exact⟨rfl,fun q e=>by cases e; rfl⟩
theorem expr_d (orG ex:List Tk→Except Ft (Tr × List Tk)) (hE:ex []=.error .lex) {K:PK}(hK:KOk K) {b:Nat}{d:Nat}(hd:d≤24) (cO:∀ (w:yW) (st:St),Sp w b K st→Calls zG 88 #[zP b,zI d] w (OutD b K w (rd orG st)))
  (cE:d < 24→∀ (w:yW) (st:St),Sp w b K st→Calls zG 52 #[zP b,zI ((d:Int)+1)] w (OutD b K w (rd ex st))) {w:yW}{st:St}(h:Sp w b K st) :
  Calls zG 52 #[zP b,zI d] w (OutD b K w (rd (gExD orG ex d) st)):=by
 have HZ:=(RZ.new h).hid
 have HE:Hid (ex []=.error .lex):=hE
 have HK:Hid (KOk K):=hK
 have HX:Hid (d < 24→∀ (w:yW) (st:St),Sp w b K st→Calls zG 52 #[zP b,zI ((d:Int)+1)] w (OutD b K w (rd ex st))):=cE
 have cC:=cO _ _ HZ.out.S
 obtain⟨r0,er0⟩:∃ r,rd (gExD orG ex d) st=r:=⟨_,rfl⟩
 have HR0:Hid (rd (gExD orG ex d) st=r0):=er0
 rw [er0]
 clear h hE hK cE cO er0
 obtain⟨W0,eW0⟩:∃ W,w.alloc (.cells zNo 48)=W:=⟨_,rfl⟩
 rw [eW0] at HZ cC
 go_enter Tryz.func52,Tryz.ntmps52
 go_wp2_with fail
 try rw [eW0]
 refine cC.mono ?_
 rintro e w1 ⟨⟨⟨k2,o2,ty2,n2,f2,x2,p2⟩,am2,cm2,ks2⟩,rfl,hl,hk,hs,hm,ht⟩
 simp only [Nd.vals,Nd.h,Nd.a,Nd.c,Nd.ks,hdA]
 have HT2:Hid (∀ q,rd orG st=.ok q→Qh (Nd.mk ⟨k2,o2,ty2,n2,f2,x2,p2⟩ am2 cm2 ks2)=q.1):=ht
 have hRs:w§ < W0§:=(zJ HZ.out.Z).1
 have HX1:=(EX.push (bs:=[]) ⟨HZ.out.mv hm hs,fun p hp=>by simp at hp⟩ hl (hk.mono fun j hj=>by omega)).hid
 simp only [Nd.vals,Nd.h,Nd.a,Nd.c,Nd.ks,hdA] at HX1
 obtain⟨N2,eN2⟩:∃ q,w1§=q:=⟨_,rfl⟩
 obtain⟨W1,eW1⟩:∃ W,w1.alloc (.cells (zW k2 o2 ty2 n2 f2 x2 am2 ks2 cm2 p2) 48)=W:=⟨_,rfl⟩
 rw [eW1,eN2] at HX1
 clear cC hl hk hs hm ht hRs HZ
 obtain⟨s1,es1⟩:∃ s,stOf (rd orG st)=s:=⟨_,rfl⟩
 have HS1:Hid (stOf (rd orG st)=s1):=es1
 rw [es1] at HX1
 clear es1
 have cI:=is_s HK.out HX1.out.X.S ZQ (.inr (by simp [kwM])) (by decide)
 obtain⟨bb,ebb⟩:∃ q,dIs ZQ s1=q:=⟨_,rfl⟩
 have HBB:Hid (dIs ZQ s1=bb):=ebb
 rw [ebb] at cI
 clear ebb
 cases bb with
 | false =>
  go_wp2_with fail
  try rw [eW1]
  try rw [eN2]
  clear eW1 eN2
  refine cI.mono ?_
  rintro e w2 ⟨rfl,hb2⟩
  have HX2:=(HX1.out.on hb2).hid
  clear cI hb2 HX1
  have HB2:Hid (w2.heap[N2]? = (zC (zW k2 o2 ty2 n2 f2 x2 am2 ks2 cm2 p2) 48)∧w§ < N2∧Lies w2 (Nd.mk ⟨k2,o2,ty2,n2,f2,x2,p2⟩ am2 cm2 ks2)∧Bkn (fun k=>w§ < k∧k < w2§) (Nd.mk ⟨k2,o2,ty2,n2,f2,x2,p2⟩ am2 cm2 ks2)):=HX2.out.B (N2,(Nd.mk ⟨k2,o2,ty2,n2,f2,x2,p2⟩ am2 cm2 ks2)) (by simp)
  have HZ2:=HX2.out.X.hid
  have HK2:Hid (Bkn (fun k=>w§≤k∧k < w2§∧k≠w§) (Nd.mk ⟨k2,o2,ty2,n2,f2,x2,p2⟩ am2 cm2 ks2)):=HB2.out.2.2.2.mono fun j hj=>by omega
  have x0':w2.cell? N2¢0=some (zU k2):=Qa HB2.out.1 0
  have x1':w2.cell? N2¢1=some (zU o2):=Qa HB2.out.1 1
  have x2':w2.cell? N2¢2=some (zU ty2):=Qa HB2.out.1 2
  have x3':w2.cell? N2¢3=some (zI n2):=Qa HB2.out.1 3
  have x4':w2.cell? N2¢4=some (zU f2):=Qa HB2.out.1 4
  have x5':w2.cell? N2¢5=some (.string x2):=Qa HB2.out.1 5
  have x6':w2.cell? N2¢6=some (.slice am2 ks2.length cm2):=Qa HB2.out.1 6
  have x7':w2.cell? N2¢7=some (zI p2):=Qa HB2.out.1 7
  have z0:w2.cell? w§¢0=some (zU 0):=Qa HZ2.out.Z 0
  have q0:w2.frozen? w§¢0=false:=Qb HZ2.out.Z 0
  have z1:w2.cell? w§¢1=some (zU 0):=Qa HZ2.out.Z 1
  have q1:w2.frozen? w§¢1=false:=Qb HZ2.out.Z 1
  have z2:w2.cell? w§¢2=some (zU 0):=Qa HZ2.out.Z 2
  have q2:w2.frozen? w§¢2=false:=Qb HZ2.out.Z 2
  have z3:w2.cell? w§¢3=some (zI 0):=Qa HZ2.out.Z 3
  have q3:w2.frozen? w§¢3=false:=Qb HZ2.out.Z 3
  have z4:w2.cell? w§¢4=some (zU 0):=Qa HZ2.out.Z 4
  have q4:w2.frozen? w§¢4=false:=Qb HZ2.out.Z 4
  have z5:w2.cell? w§¢5=some (yQ):=Qa HZ2.out.Z 5
  have q5:w2.frozen? w§¢5=false:=Qb HZ2.out.Z 5
  have z6:w2.cell? w§¢6=some (.slice none 0 0):=Qa HZ2.out.Z 6
  have q6:w2.frozen? w§¢6=false:=Qb HZ2.out.Z 6
  have z7:w2.cell? w§¢7=some (zI 0):=Qa HZ2.out.Z 7
  have q7:w2.frozen? w§¢7=false:=Qb HZ2.out.Z 7
  obtain⟨Y,eY,hY1,hY2,hY3,hY4,hY5⟩:=HZ2.out.fin HB2.out.2.2.1 HK2.out
  have HEY:Hid (_=Y):=eY
  have HY1:Hid (Y.heap[w§]? = (zC (Nd.mk ⟨k2,o2,ty2,n2,f2,x2,p2⟩ am2 cm2 ks2).vals 48)):=hY1
  have HYY:Hid (Lies Y (Nd.mk ⟨k2,o2,ty2,n2,f2,x2,p2⟩ am2 cm2 ks2)∧Bkn (fun k=>w§≤k∧k < Y§) (Nd.mk ⟨k2,o2,ty2,n2,f2,x2,p2⟩ am2 cm2 ks2)∧Sp Y b K s1∧Mv w Y (fun k=>k=b)):=⟨hY2,hY3,hY4,hY5⟩
  clear eY hY1 hY2 hY3 hY4 hY5
  go_wp2_with fail
  rw [HEY.out]
  refine bodyPost_ret (results_cell_row rfl _ _ w§ 48 (Nd.mk ⟨k2,o2,ty2,n2,f2,x2,p2⟩ am2 cm2 ks2).vals (0,0) _ rfl HY1.out Tryz.underlying48 rfl zK) rfl ⟨_,rfl,HYY.out.1,HYY.out.2.1,?_,HYY.out.2.2.2,?_⟩
  ·rw [← HR0.out]
   have h1:=HYY.out.2.2.1
   cases s1 with
   | error f=>rw [gExD_err HS1.out]; exact h1
   | ok ts =>
    cases ts with
    | nil=>exact absurd rfl h1.1
    | cons t ts =>
     rw [gExD_ok HS1.out HT2.out]
     have hx:¬ t.x=ZQ:=of_decide_eq_false HBB.out
     unfold gAft
     rw [if_neg hx]
     exact h1
  ·rw [← HR0.out]
   have h1:=HYY.out.2.2.1
   cases s1 with
   | error f=>rw [gExD_err HS1.out]; exact fun q e=>by cases e
   | ok ts =>
    cases ts with
    | nil=>exact absurd rfl h1.1
    | cons t ts =>
     rw [gExD_ok HS1.out HT2.out]
     have hx:¬ t.x=ZQ:=of_decide_eq_false HBB.out
     unfold gAft
     rw [if_neg hx]
     exact fun q e=>by cases e; rfl
 | true =>
  obtain⟨t,ts,rfl,hx⟩:∃ t ts,s1=.ok (t :: ts)∧t.x=ZQ:=by
   have h1:=HBB.out
   match s1,h1 with
   | .ok (t :: ts),h1=>exact⟨t,ts,rfl,of_decide_eq_true h1⟩
  have HXX:Hid (t.x=ZQ):=hx
  have HG:Hid (r0=gAft ex d (Qh (Nd.mk ⟨k2,o2,ty2,n2,f2,x2,p2⟩ am2 cm2 ks2)) t ts):=by
   show r0=_
   rw [← HR0.out]
   exact gExD_ok HS1.out HT2.out
  clear hx HS1 HBB HR0
  by_cases hdd:d < 24
  rotate_left
  ·have HG2:Hid (r0=.error (.tok 132 t.p)):=by
    show r0=_
    rw [HG.out]
    unfold gAft
    rw [if_pos HXX.out,if_neg hdd]
   have HD0:Hid (∀ v,Lv v b K (t :: ts)→Calls zG 89 #[zP b,zI d] v fun e w'=>e=.returned (.bool false)∧Dd w' b K (.tok 132 t.p)∧Mv v w' (fun k=>k=b)):=fun v h=>KH h d hdd (by omega)
   clear hdd
   go_wp2_with fail
   try rw [eW1]
   clear eW1 eN2
   refine cI.mono ?_
   rintro e w2 ⟨rfl,hb2⟩
   have HX2:=(HX1.out.on hb2).hid
   have cD:=HD0.out w2 HX2.out.X.S.2
   clear cI hb2 HX1
   go_wp2_with fail
   refine cD.mono ?_
   rintro e w3 ⟨rfl,hs,hm⟩
   have HZ3:=(HX2.out.X.mv (s':=.error (.tok 132 t.p)) hm hs).hid
   clear cD hs hm HX2
   have z0:w3.cell? w§¢0=some (zU 0):=Qa HZ3.out.Z 0
   have q0:w3.frozen? w§¢0=false:=Qb HZ3.out.Z 0
   have z1:w3.cell? w§¢1=some (zU 0):=Qa HZ3.out.Z 1
   have q1:w3.frozen? w§¢1=false:=Qb HZ3.out.Z 1
   have z2:w3.cell? w§¢2=some (zU 0):=Qa HZ3.out.Z 2
   have q2:w3.frozen? w§¢2=false:=Qb HZ3.out.Z 2
   have z3:w3.cell? w§¢3=some (zI 0):=Qa HZ3.out.Z 3
   have q3:w3.frozen? w§¢3=false:=Qb HZ3.out.Z 3
   have z4:w3.cell? w§¢4=some (zU 0):=Qa HZ3.out.Z 4
   have q4:w3.frozen? w§¢4=false:=Qb HZ3.out.Z 4
   have z5:w3.cell? w§¢5=some (yQ):=Qa HZ3.out.Z 5
   have q5:w3.frozen? w§¢5=false:=Qb HZ3.out.Z 5
   have z6:w3.cell? w§¢6=some (.slice none 0 0):=Qa HZ3.out.Z 6
   have q6:w3.frozen? w§¢6=false:=Qb HZ3.out.Z 6
   have z7:w3.cell? w§¢7=some (zI 0):=Qa HZ3.out.Z 7
   have q7:w3.frozen? w§¢7=false:=Qb HZ3.out.Z 7
   obtain⟨Y,eY,hY1,hY2,hY3,hY4,hY5⟩:=HZ3.out.finz
   have HEY:Hid (_=Y):=eY
   have HY1:Hid (Y.heap[w§]? = (zC nd0.vals 48)):=hY1
   have HYY:Hid (Lies Y nd0∧Bkn (fun k=>w§≤k∧k < Y§) nd0∧Sp Y b K (.error (.tok 132 t.p))∧Mv w Y (fun k=>k=b)):=⟨hY2,hY3,hY4,hY5⟩
   clear eY hY1 hY2 hY3 hY4 hY5
   go_wp2_with fail
   rw [HEY.out]
   refine bodyPost_ret (results_cell_row rfl _ _ w§ 48 nd0.vals (0,0) _ rfl HY1.out Tryz.underlying48 rfl zK) rfl ⟨_,rfl,HYY.out.1,HYY.out.2.1,?_,HYY.out.2.2.2,?_⟩
   ·rw [HG2.out]; exact HYY.out.2.2.1
   ·rw [HG2.out]; exact fun q e=>by cases e
  have HD0:Hid (∀ v,Lv v b K (t :: ts)→Calls zG 89 #[zP b,zI d] v fun e w'=>e=.returned (.bool true)∧w'=v):=fun v h=>KD h d hdd
  have hmd:(d:Int)+1≤9223372036854775807:=by omega
  have HXE:Hid (∀ (w:yW) (st:St),Sp w b K st→Calls zG 52 #[zP b,zI ((d:Int)+1)] w (OutD b K w (rd ex st))):=HX.out hdd
  have HDD:Hid (d < 24):=hdd
  have HRG:Hid (Rg ⟨7,0,0,0,0,gE,t.p⟩):=Lv.rgk HX1.out.X.S.2 HK.out (by omega) (by omega) (by omega) (by omega) (by omega) (by omega)
  clear hdd HX
  go_wp2_with fail
  try rw [eW1]
  try rw [eN2]
  clear eW1 eN2
  refine cI.mono ?_
  rintro e w2 ⟨rfl,hb2⟩
  have HX2:=(HX1.out.on hb2).hid
  have cD:=HD0.out w2 HX2.out.X.S.2
  clear cI hb2 HX1 HD0
  go_wp2_with fail
  refine cD.mono ?_
  rintro e w2' ⟨rfl,e9⟩
  obtain rfl:=e9.symm
  have cN:=Qt HX2.out.X.S.2
  have hf:=fun v=>QF t v
  clear cD e9
  go_wp2_with fail
  refine cN.mono ?_
  rintro e w3 ⟨rfl,hb3⟩
  have HX3:=(HX2.out.on hb3).hid
  obtain⟨i,c3,f3,hmx,hL,hM,_,_⟩:=HX3.out.X.S.2.at'
  obtain⟨V,eV⟩:∃ V,w3.setCell b¢3 (zI ((i:Int)+1))=V:=⟨_,rfl⟩
  rw [eV] at hL hM
  have HX4:=(HX3.out.mv hM hL.sp).hid
  have cQ:=HXE.out V (nf ts) hL.sp
  rw [Kq HE.out] at cQ
  clear cN hb3 hL hM HX2 HX3
  go_wp2_with fail
  try rw [eV]
  clear eV c3 f3 hmx
  refine cQ.mono ?_
  rintro e w5 ⟨⟨⟨k3,o3,ty3,n3,f3,x3,p3⟩,am3,cm3,ks3⟩,rfl,hl,hk,hs,hm,ht⟩
  simp only [Nd.vals,Nd.h,Nd.a,Nd.c,Nd.ks,hdA]
  have HT3:Hid (∀ q,ex ts=.ok q→Qh (Nd.mk ⟨k3,o3,ty3,n3,f3,x3,p3⟩ am3 cm3 ks3)=q.1):=ht
  have hRV:w§ < V§:=(zJ HX4.out.X.Z).1
  have HX5:=(EX.push (HX4.out.mv hm hs) hl (hk.mono fun j hj=>by omega)).hid
  simp only [Nd.vals,Nd.h,Nd.a,Nd.c,Nd.ks,hdA] at HX5
  obtain⟨N3,eN3⟩:∃ q,w5§=q:=⟨_,rfl⟩
  obtain⟨W5,eW5⟩:∃ W,w5.alloc (.cells (zW k3 o3 ty3 n3 f3 x3 am3 ks3 cm3 p3) 48)=W:=⟨_,rfl⟩
  rw [eW5,eN3] at HX5
  have cT:=take_s HK.out HX5.out.X.S ZX (.inr (by simp [kwM])) (by decide)
  clear cQ hl hk hs hm ht hRV HX4
  go_wp2_with fail
  try rw [eW5]
  try rw [eN3]
  clear eW5 eN3
  refine cT.mono ?_
  rintro e w6 ⟨⟨pp,rfl⟩,hs,hm⟩
  have HX6:=(HX5.out.mv hm hs).hid
  have cQ:=HXE.out w6 _ HX6.out.X.S
  clear cT hs hm HX5
  go_wp2_with fail
  refine cQ.mono ?_
  rintro e w7 ⟨⟨⟨k4,o4,ty4,n4,f4,x4,p4⟩,am4,cm4,ks4⟩,rfl,hl,hk,hs,hm,ht⟩
  simp only [Nd.vals,Nd.h,Nd.a,Nd.c,Nd.ks,hdA]
  have HT4:Hid (∀ q,rd ex (QY ZX (stOf (ex ts)))=.ok q→Qh (Nd.mk ⟨k4,o4,ty4,n4,f4,x4,p4⟩ am4 cm4 ks4)=q.1):=ht
  have hRV:w§ < w6§:=(zJ HX6.out.X.Z).1
  have HX7:=(EX.push (HX6.out.mv hm hs) hl (hk.mono fun j hj=>by omega)).hid
  simp only [Nd.vals,Nd.h,Nd.a,Nd.c,Nd.ks,hdA] at HX7
  obtain⟨N4,eN4⟩:∃ q,w7§=q:=⟨_,rfl⟩
  obtain⟨W,eW⟩:∃ W,w7.alloc (.cells (zW k4 o4 ty4 n4 f4 x4 am4 ks4 cm4 p4) 48)=W:=⟨_,rfl⟩
  rw [eW,eN4] at HX7
  clear cQ hl hk hs hm ht hRV HX6
  go_upto_region 13 with fail
  try rw [eW]
  try rw [eN4]
  clear eW eN4
  have HB2:Hid (W.heap[N2]? = (zC (zW k2 o2 ty2 n2 f2 x2 am2 ks2 cm2 p2) 48)):=(HX7.out.B (N2,(Nd.mk ⟨k2,o2,ty2,n2,f2,x2,p2⟩ am2 cm2 ks2)) (by simp)).1
  have HB3:Hid (W.heap[N3]? = (zC (zW k3 o3 ty3 n3 f3 x3 am3 ks3 cm3 p3) 48)):=(HX7.out.B (N3,(Nd.mk ⟨k3,o3,ty3,n3,f3,x3,p3⟩ am3 cm3 ks3)) (by simp)).1
  have HB4:Hid (W.heap[N4]? = (zC (zW k4 o4 ty4 n4 f4 x4 am4 ks4 cm4 p4) 48)):=(HX7.out.B (N4,(Nd.mk ⟨k4,o4,ty4,n4,f4,x4,p4⟩ am4 cm4 ks4)) (by simp)).1
  have u0':W.cell? N2¢0=some (zU k2):=Qa HB2.out 0
  have v0':W.cell? N3¢0=some (zU k3):=Qa HB3.out 0
  have x0':W.cell? N4¢0=some (zU k4):=Qa HB4.out 0
  have z0:W.cell? w§¢0=some (zU 0):=Qa HX7.out.X.Z 0
  have q0:W.frozen? w§¢0=false:=Qb HX7.out.X.Z 0
  have u1':W.cell? N2¢1=some (zU o2):=Qa HB2.out 1
  have v1':W.cell? N3¢1=some (zU o3):=Qa HB3.out 1
  have x1':W.cell? N4¢1=some (zU o4):=Qa HB4.out 1
  have z1:W.cell? w§¢1=some (zU 0):=Qa HX7.out.X.Z 1
  have q1:W.frozen? w§¢1=false:=Qb HX7.out.X.Z 1
  have u2':W.cell? N2¢2=some (zU ty2):=Qa HB2.out 2
  have v2':W.cell? N3¢2=some (zU ty3):=Qa HB3.out 2
  have x2':W.cell? N4¢2=some (zU ty4):=Qa HB4.out 2
  have z2:W.cell? w§¢2=some (zU 0):=Qa HX7.out.X.Z 2
  have q2:W.frozen? w§¢2=false:=Qb HX7.out.X.Z 2
  have u3':W.cell? N2¢3=some (zI n2):=Qa HB2.out 3
  have v3':W.cell? N3¢3=some (zI n3):=Qa HB3.out 3
  have x3':W.cell? N4¢3=some (zI n4):=Qa HB4.out 3
  have z3:W.cell? w§¢3=some (zI 0):=Qa HX7.out.X.Z 3
  have q3:W.frozen? w§¢3=false:=Qb HX7.out.X.Z 3
  have u4':W.cell? N2¢4=some (zU f2):=Qa HB2.out 4
  have v4':W.cell? N3¢4=some (zU f3):=Qa HB3.out 4
  have x4':W.cell? N4¢4=some (zU f4):=Qa HB4.out 4
  have z4:W.cell? w§¢4=some (zU 0):=Qa HX7.out.X.Z 4
  have q4:W.frozen? w§¢4=false:=Qb HX7.out.X.Z 4
  have u5':W.cell? N2¢5=some (.string x2):=Qa HB2.out 5
  have v5':W.cell? N3¢5=some (.string x3):=Qa HB3.out 5
  have x5':W.cell? N4¢5=some (.string x4):=Qa HB4.out 5
  have z5:W.cell? w§¢5=some (yQ):=Qa HX7.out.X.Z 5
  have q5:W.frozen? w§¢5=false:=Qb HX7.out.X.Z 5
  have u6':W.cell? N2¢6=some (.slice am2 ks2.length cm2):=Qa HB2.out 6
  have v6':W.cell? N3¢6=some (.slice am3 ks3.length cm3):=Qa HB3.out 6
  have x6':W.cell? N4¢6=some (.slice am4 ks4.length cm4):=Qa HB4.out 6
  have z6:W.cell? w§¢6=some (.slice none 0 0):=Qa HX7.out.X.Z 6
  have q6:W.frozen? w§¢6=false:=Qb HX7.out.X.Z 6
  have u7':W.cell? N2¢7=some (zI p2):=Qa HB2.out 7
  have v7':W.cell? N3¢7=some (zI p3):=Qa HB3.out 7
  have x7':W.cell? N4¢7=some (zI p4):=Qa HB4.out 7
  have z7:W.cell? w§¢7=some (zI 0):=Qa HX7.out.X.Z 7
  have q7:W.frozen? w§¢7=false:=Qb HX7.out.X.Z 7
  obtain⟨Y,eY,hY1,hY2,hY3,hY4,hY5⟩:=HX7.out.three HRG.out
  have HEY:Hid (((((((((W.setCell w§¢0 (zU 7)).setCell w§¢1 (zU 0)).setCell w§¢2 (zU 0)).setCell w§¢3 (zI 0)).setCell w§¢4 (zU 0)).setCell w§¢5 (yQ)).setCell w§¢6 (.slice (some W§¢0) 3 3)).setCell w§¢7 (zI t.p)).alloc (.cells #[zU k2,zU o2,zU ty2,zI n2,zU f2,.string x2,.slice am2 ks2.length cm2,zI p2,zU k3,zU o3,zU ty3,zI n3,zU f3,.string x3,.slice am3 ks3.length cm3,zI p3,zU k4,zU o4,zU ty4,zI n4,zU f4,.string x4,.slice am4 ks4.length cm4,zI p4] 48)=Y):=eY
  have HY1:Hid (Y.heap[w§]? = (zC (Nd.mk ⟨7,0,0,0,0,gE,t.p⟩ (some W§¢0) 3 [(Nd.mk ⟨k2,o2,ty2,n2,f2,x2,p2⟩ am2 cm2 ks2),(Nd.mk ⟨k3,o3,ty3,n3,f3,x3,p3⟩ am3 cm3 ks3),(Nd.mk ⟨k4,o4,ty4,n4,f4,x4,p4⟩ am4 cm4 ks4)]).vals 48)):=hY1
  have HYY:Hid (Lies Y (Nd.mk ⟨7,0,0,0,0,gE,t.p⟩ (some W§¢0) 3 [(Nd.mk ⟨k2,o2,ty2,n2,f2,x2,p2⟩ am2 cm2 ks2),(Nd.mk ⟨k3,o3,ty3,n3,f3,x3,p3⟩ am3 cm3 ks3),(Nd.mk ⟨k4,o4,ty4,n4,f4,x4,p4⟩ am4 cm4 ks4)])∧Bkn (fun k=>w§≤k∧k < Y§) (Nd.mk ⟨7,0,0,0,0,gE,t.p⟩ (some W§¢0) 3 [(Nd.mk ⟨k2,o2,ty2,n2,f2,x2,p2⟩ am2 cm2 ks2),(Nd.mk ⟨k3,o3,ty3,n3,f3,x3,p3⟩ am3 cm3 ks3),(Nd.mk ⟨k4,o4,ty4,n4,f4,x4,p4⟩ am4 cm4 ks4)])∧Sp Y b K (stOf (rd ex (QY ZX (stOf (ex ts)))))∧Mv w Y (fun k=>k=b)):=⟨hY2,hY3,hY4,hY5⟩
  clear eY hY1 hY2 hY3 hY4 hY5
  have hRW:w§ < W§:=(zJ HX7.out.X.Z).1
  go_wp2_with fail
  rw [HEY.out]
  refine bodyPost_ret (results_cell_row rfl _ _ w§ 48 (Nd.mk ⟨7,0,0,0,0,gE,t.p⟩ (some W§¢0) 3 [(Nd.mk ⟨k2,o2,ty2,n2,f2,x2,p2⟩ am2 cm2 ks2),(Nd.mk ⟨k3,o3,ty3,n3,f3,x3,p3⟩ am3 cm3 ks3),(Nd.mk ⟨k4,o4,ty4,n4,f4,x4,p4⟩ am4 cm4 ks4)]).vals (0,0) _ rfl HY1.out Tryz.underlying48 rfl zK) rfl ⟨_,rfl,HYY.out.1,HYY.out.2.1,?_,HYY.out.2.2.2,?_⟩
  ·rw [HG.out,(gAft_st HE.out HDD.out HXX.out HT3.out HT4.out).1]
   exact HYY.out.2.2.1
  ·rw [HG.out]
   exact (gAft_st HE.out HDD.out HXX.out HT3.out HT4.out).2
theorem fnd_mem (y:yB):∀ (L:List yB) (k:Nat),0≤fnd y L k→y ∈ L:=by
 intro L
 induction L with
 | nil=>intro k h; simp [fnd] at h
 | cons x xs ih =>
  intro k h
  simp only [fnd] at h
  by_cases e:y=x
  ·rw [e]; simp
  ·rw [if_neg e] at h
   exact List.mem_cons_of_mem _ (ih _ h)
theorem dis_field {y:yB}(h:y ∈ zn):eqX y [40]=false∧eqX y [104,97,115]=false∧JF y=0∧¬ (1≤tyX y∧tyX y≤4):=by
 simp only [List.mem_cons,List.not_mem_nil,or_false] at h
 rcases h with rfl | rfl | rfl | rfl | rfl | rfl <;> decide +kernel
theorem dis_call {y:yB}(h:y ∈ zy):eqX y [40]=false∧eqX y [104,97,115]=false:=by
 simp only [List.mem_cons,List.not_mem_nil,or_false] at h
 rcases h with rfl | rfl | rfl <;> decide +kernel
theorem dis_conv {y:yB}(h:y ∈ zz):eqX y [40]=false∧eqX y [104,97,115]=false∧JF y=0:=by
 simp only [List.mem_cons,List.not_mem_nil,or_false] at h
 rcases h with rfl | rfl | rfl | rfl <;> decide +kernel
theorem dis_lit {y:yB}(h:y ∈ [Zu,ZI,Zt,Zs]):eqX y [40]=false∧eqX y [104,97,115]=false∧JF y=0∧¬ (1≤tyX y∧tyX y≤4)∧Q0 y=0:=by
 simp only [List.mem_cons,List.not_mem_nil,or_false] at h
 rcases h with rfl | rfl | rfl | rfl <;> decide +kernel
theorem eqX_no {y:yB}{a:Array UInt8}(h:¬ y=⟨a⟩):eqX y a.toList=false:=eqX_f h
theorem dis_other {y:yB}(h:∀ x ∈ kwW,¬ y=x) (h':∀ x ∈ kwM,¬ y=x):eqX y [40]=false∧eqX y [104,97,115]=false∧JF y=0∧¬ (1≤tyX y∧tyX y≤4)∧Q0 y=0:=by
 have hf:fnd y zn 0 = -1:=fnd_none y _ 0 (fun j hj=>by
  match j,hj with
  | 0,_=>exact h _ (by simp [kwW])
  | 1,_=>exact h _ (by simp [kwW])
  | 2,_=>exact h _ (by simp [kwW])
  | 3,_=>exact h _ (by simp [kwW])
  | 4,_=>exact h _ (by simp [kwW])
  | 5,_=>exact h _ (by simp [kwW])
  )
 have hc:fnd y zy 0 = -1:=fnd_none y _ 0 (fun j hj=>by
  match j,hj with
  | 0,_=>exact h _ (by simp [kwW])
  | 1,_=>exact h _ (by simp [kwW])
  | 2,_=>exact h _ (by simp [kwW])
  )
 have ht:fnd y zz 0 = -1:=fnd_none y _ 0 (fun j hj=>by
  match j,hj with
  | 0,_=>exact h _ (by simp [kwW])
  | 1,_=>exact h _ (by simp [kwW])
  | 2,_=>exact h _ (by simp [kwW])
  | 3,_=>exact h _ (by simp [kwW])
  )
 refine⟨eqX_no (h' _ (by simp [kwM])),eqX_no (h _ (by simp [kwW])),?_,?_,?_⟩
 ·rw [callX_op,opF,if_pos (by rw [hc]; decide)]
 ·rcases ty_op y with h1 | h1
  ·exact h1.2
  ·rw [ht] at h1; omega
 ·rw [fieldX_op,opF,if_pos (by rw [hf]; decide)]
theorem gOpn_s (d:Nat) (t:Tk) (ts:List Tk):gOpn d (t :: ts)=if d < 24 then .ok (t,ts) else .error (.tok 132 t.p):=by
 by_cases h:d < 24
 ·simp [gOpn,JD,JW,h,bind,Except.bind]
 ·simp [gOpn,JD,Jc,h,bind,Except.bind]
theorem one_at (ex:List Tk→Except Ft (Tr × List Tk)) (d:Nat) (t:Tk) (ts:List Tk):gOne ex d (t :: ts) =
  (if eqX t.x [40]=true then (if d < 24 then gBr ex ts else .error (.tok 132 t.p))
  else if eqX t.x [104,97,115]=true then gHasD t.p ts
  else if JF t.x≠0 then (if d < 24 then (if JF t.x=3 then gC1 ex ⟨8,JF t.x,0,0,0,gE,t.p⟩ ts else gC2 ex ⟨8,JF t.x,0,0,0,gE,t.p⟩ ts) else .error (.tok 132 t.p))
  else if 1≤tyX t.x∧tyX t.x≤4 then (if d < 24 then gC1 ex ⟨9,0,tyX t.x,0,0,gE,t.p⟩ ts else .error (.tok 132 t.p))
  else if Q0 t.x≠0 then .ok (.mk ⟨3,0,0,0,Q0 t.x,gE,t.p⟩ [],ts)
  else if t.k=2 then .ok (.mk ⟨2,0,0,0,0,t.x,t.p⟩ [],ts)
  else if (valT t).1=0 then .error (.tok 130 t.p) else .ok (.mk ⟨1,0,(valT t).1,(valT t).2,0,gE,t.p⟩ [],ts)):=by
 unfold gOne
 simp only [Jc,bind,Except.bind]
 by_cases h1:eqX t.x [40]=true
 ·rw [if_pos h1,if_pos h1,gOpn_s]
  by_cases hd:d < 24
  ·rw [if_pos hd,if_pos hd]
   rfl
  ·rw [if_neg hd,if_neg hd]
 rw [if_neg h1,if_neg h1]
 by_cases h2:eqX t.x [104,97,115]=true
 ·rw [if_pos h2,if_pos h2]
  cases ts with
  | nil=>rfl
  | cons y r =>
   simp only [JW,gHasD]
   by_cases h3:1≤Q0 y.x∧Q0 y.x≤3
   ·simp [JD,h3]
   ·simp [JD,Jc,h3]
 rw [if_neg h2,if_neg h2]
 by_cases h3:JF t.x≠0
 ·rw [if_pos h3,if_pos h3,gOpn_s]
  by_cases hd:d < 24
  ·rw [if_pos hd,if_pos hd]
   by_cases h4:JF t.x=3
   ·rw [if_pos h4]
    simp only [h4,if_true]
    rfl
   ·rw [if_neg h4]
    simp only [h4,if_false]
    rfl
  ·rw [if_neg hd,if_neg hd]
 rw [if_neg h3,if_neg h3]
 by_cases h4:1≤tyX t.x∧tyX t.x≤4
 ·rw [if_pos h4,if_pos h4,gOpn_s]
  by_cases hd:d < 24
  ·rw [if_pos hd,if_pos hd]
   rfl
  ·rw [if_neg hd,if_neg hd]
 rw [if_neg h4,if_neg h4]
 by_cases h5:Q0 t.x≠0
 ·rw [if_pos h5,if_pos h5]
  rfl
 rw [if_neg h5,if_neg h5]
 by_cases h6:t.k=2
 ·rw [if_pos h6,if_pos h6]
  rfl
 rw [if_neg h6,if_neg h6]
 by_cases h7:(valT t).1=0
 ·simp [gLit,Jc,JD,bind,Except.bind,h7]
 ·simp [gLit,Jc,JD,JW,bind,Except.bind,h7]
theorem one_d (ex:List Tk→Except Ft (Tr × List Tk)) (hE:ex []=.error .lex) {K:PK}(hK:KOk K) {b:Nat}{d:Nat}(hd:d≤24)
  (cE:d < 24→∀ (w:yW) (st:St),Sp w b K st→Calls zG 52 #[zP b,zI ((d:Int)+1)] w (OutD b K w (rd ex st))) (w:yW) (st:St) (h:Sp w b K st) :
  Calls zG 195 #[zP b,zI d] w (OutD b K w (rd (gOne ex d) st)):=by
 cases st with
 | error f=>exact one_dead h
 | ok ts0 =>
  obtain⟨hne,hl⟩:=h
  cases ts0 with
  | nil=>exact absurd rfl hne
  | cons t ts =>
   have ht:=hl.ok hK
   show Calls zG 195 #[zP b,zI d] w (OutD b K w (gOne ex d (t :: ts)))
   by_cases hv:(valT t).1≠0
   ·have key:eqX t.x [40]=false∧eqX t.x [104,97,115]=false∧JF t.x=0∧¬ (1≤tyX t.x∧tyX t.x≤4)∧Q0 t.x=0∧t.k≠2:=by
     by_cases hw:t.x ∈ [Zu,ZI,Zt,Zs]
     ·obtain⟨a1,a2,a3,a4,a5⟩:=dis_lit hw
      refine⟨a1,a2,a3,a4,a5,?_⟩
      have:t.k=1:=ht.w t.x (by simp only [List.mem_cons,List.not_mem_nil,or_false] at hw; rcases hw with e | e | e | e <;> rw [e] <;> simp [kwW]) rfl
      omega
     ·have hv3:valT t=(t.ty,t.n):=by
       simp only [List.mem_cons,List.not_mem_nil,or_false,not_or] at hw
       obtain⟨w1,w2,w3,w4⟩:=hw
       unfold valT
       rw [if_neg (by rw [show eqX t.x [116,114,117,101]=false from eqX_no w1]; decide),if_neg (by rw [show eqX t.x [102,97,108,115,101]=false from eqX_no w2]; decide),if_neg (by rw [show eqX t.x [98,117,121]=false from eqX_no w3]; decide),if_neg (by rw [show eqX t.x [115,101,108,108]=false from eqX_no w4]; decide)]
      rw [hv3] at hv
      have hk:t.k=3:=ht.n.2 hv
      obtain⟨a1,a2,a3,a4,a5⟩:=dis_other (y:=t.x) (fun x hx e=>by have:=ht.w x hx e; omega) (fun x hx e=>by have:=ht.m x hx e; omega)
      exact⟨a1,a2,a3,a4,a5,by omega⟩
    obtain⟨a1,a2,a3,a4,a5,a6⟩:=key
    rw [one_at,if_neg (by rw [a1]; decide),if_neg (by rw [a2]; decide),if_neg (by rw [a3]; decide),if_neg a4,if_neg (by rw [a5]; decide),if_neg a6,if_neg hv]
    exact d1_lit hK hl hv
   have hv:(valT t).1=0:=Classical.not_not.1 hv
   by_cases hk:t.k=2
   ·obtain⟨a1,a2,a3,a4,a5⟩:=dis_other (y:=t.x) (fun x hx e=>by have:=ht.w x hx e; omega) (fun x hx e=>by have:=ht.m x hx e; omega)
    rw [one_at,if_neg (by rw [a1]; decide),if_neg (by rw [a2]; decide),if_neg (by rw [a3]; decide),if_neg a4,if_neg (by rw [a5]; decide),if_pos hk]
    exact d1_name hK hl hv hk
   have r6:=(Jt t.x zn 0).1
   have r3:=(Jt t.x zy 0).1
   have r4:=(Jt t.x zz 0).1
   by_cases h6:0≤fnd t.x zn 0
   ·obtain⟨a1,a2,a3,a4⟩:=dis_field (fnd_mem _ _ _ h6)
    have e6:Q0 t.x=fnd t.x zn 0+1:=by rw [fieldX_op,opF,if_neg (by omega)]; omega
    rw [one_at,if_neg (by rw [a1]; decide),if_neg (by rw [a2]; decide),if_neg (by rw [a3]; decide),if_neg a4,if_pos (by rw [e6]; omega),e6]
    exact d1_field hK hl hv hk rfl h6
   have n6:fnd t.x zn 0 = -1:=by omega
   have f6:Q0 t.x=0:=by rw [fieldX_op,opF,if_pos (by omega)]
   by_cases h3:0≤fnd t.x zy 0
   ·obtain⟨a1,a2⟩:=dis_call (fnd_mem _ _ _ h3)
    have e3:JF t.x=3+fnd t.x zy 0:=by rw [callX_op,opF,if_neg (by omega)]
    rw [one_at,if_neg (by rw [a1]; decide),if_neg (by rw [a2]; decide),if_pos (by rw [e3]; omega)]
    by_cases h0:fnd t.x zy 0=0
    ·rw [e3,h0]
     exact one_abs ex hE hK hl hd cE hv hk n6 h0
    ·rw [e3]
     have:¬ (3+fnd t.x zy 0=3):=by omega
     simp only [this,if_false]
     exact one_minmax ex hE hK hl hd cE hv hk n6 rfl (by omega)
   have n3:fnd t.x zy 0 = -1:=by omega
   have c3:JF t.x=0:=by rw [callX_op,opF,if_pos (by omega)]
   rcases ty_op t.x with ⟨n4,a4⟩ | ⟨h4,_,e4⟩
   rotate_left
   ·obtain⟨a1,a2,a3⟩:=dis_conv (fnd_mem _ _ _ h4)
    have h5:=(Jt t.x zz 0).2
    simp only [List.length_cons,List.length_nil] at h5
    rw [one_at,if_neg (by rw [a1]; decide),if_neg (by rw [a2]; decide),if_neg (by rw [a3]; decide),if_pos (by rw [e4]; omega),e4]
    exact d1_conv ex hE hK hl hd cE hv hk n6 n3 rfl h4
   by_cases hh:t.x=ZP
   ·have a1:eqX t.x [40]=false:=by rw [hh]; decide +kernel
    have a2:eqX t.x [104,97,115]=true:=by rw [hh]; decide +kernel
    rw [one_at,if_neg (by rw [a1]; decide),if_pos a2]
    exact one_rest hK hl hv hk n6 n3 n4 _ (fun v hv=>rest_has hK hv hh)
   by_cases hb:t.x=Zo
   ·have a1:eqX t.x [40]=true:=by rw [hb]; decide +kernel
    rw [one_at,if_pos a1]
    exact one_rest hK hl hv hk n6 n3 n4 _ (fun v hv=>rest_brk ex hE hK hd cE hv hb)
   ·have a1:eqX t.x [40]=false:=eqX_no hb
    have a2:eqX t.x [104,97,115]=false:=eqX_no hh
    rw [one_at,if_neg (by rw [a1]; decide),if_neg (by rw [a2]; decide),if_neg (by rw [c3]; decide),if_neg a4,if_neg (by rw [f6]; decide),if_neg hk,if_pos hv]
    exact one_rest hK hl hv hk n6 n3 n4 _ (fun v hv=>rest_no hK hv hh hb)
theorem JC {oper:yB→Int}{part:List Tk→Except Ft (Tr × List Tk)}(h:part []=.error .lex) (m:Nat):gRow oper part m []=.error .lex:=gRow_err h
theorem exF_nil (f d:Nat):exF f d []=.error .lex∧unF f d []=.error .lex:=by
 cases f with
 | zero=>constructor <;> simp only [exF,unF]
 | succ f =>
  have hu:∀ ex un,gUn ex un d []=.error .lex:=fun ex un=>rfl
  refine⟨?_,by rw [unF]; rfl⟩
  rw [exF]
  unfold gEx
  rw [JC (JC (JC (JC (JC (hu _ _) _) _) _) _)]
  rfl
theorem lvl_d {K:PK}(hK:KOk K) {b:Nat}(f d:Nat) (hd:d≤24)
  (cE:d < 24→∀ (w:yW) (st:St),Sp w b K st→Calls zG 52 #[zP b,zI ((d:Int)+1)] w (OutD b K w (rd (exF f (d+1)) st)))
  (cU:d < 24→∀ (w:yW) (st:St),Sp w b K st→Calls zG 192 #[zP b,zI ((d:Int)+1)] w (OutD b K w (rd (unF f (d+1)) st))) :
  (∀ (w:yW) (st:St),Sp w b K st→Calls zG 52 #[zP b,zI d] w (OutD b K w (rd (exF (f+1) d) st))) ∧
  (∀ (w:yW) (st:St),Sp w b K st→Calls zG 192 #[zP b,zI d] w (OutD b K w (rd (unF (f+1) d) st))):=by
 have hx:=(exF_nil f (d+1)).1
 have hu:=(exF_nil f (d+1)).2
 have u1:∀ (w:yW) (st:St),Sp w b K st→Calls zG 192 #[zP b,zI d] w (OutD b K w (rd (gUn (exF f (d+1)) (unF f (d+1)) d) st)):=fun w st h=>unary_d _ _ hu hK hd (one_d _ hx hK hd cE) cU h
 have s0:Shr (gUn (exF f (d+1)) (unF f (d+1)) d):=gUn_shr (exF_shr f (d+1)).1 (exF_shr f (d+1)).2 d
 have e0:gUn (exF f (d+1)) (unF f (d+1)) d []=.error .lex:=rfl
 have s1:=JB proX s0 4096
 have e1:=JC (oper:=proX) e0 4096
 have s2:=JB sumX s1 4096
 have e2:=JC (oper:=sumX) e1 4096
 have s3:=JB cmpX s2 1
 have e3:=JC (oper:=cmpX) e2 1
 have s4:=JB andX s3 4096
 have e4:=JC (oper:=andX) e3 4096
 have p1:∀ (w:yW) (st:St),Sp w b K st→Calls zG 180 #[zP b,zI d] w (OutD b K w (rd (gRow proX (gUn (exF f (d+1)) (unF f (d+1)) d) 4096) st)):=fun w st h=>product_d _ s0 e0 hK u1 h
 have p2:=fun (w:yW) (st:St) (h:Sp w b K st)=>sum_d _ s1 e1 hK p1 h
 have p3:=fun (w:yW) (st:St) (h:Sp w b K st)=>compare_d _ s2 e2 hK p2 h
 have p4:=fun (w:yW) (st:St) (h:Sp w b K st)=>and_d _ s3 e3 hK p3 h
 have p5:=fun (w:yW) (st:St) (h:Sp w b K st)=>or_d _ s4 e4 hK p4 h
 refine⟨fun w st h=>?_,fun w st h=>?_⟩
 ·have:=expr_d _ _ hx hK hd p5 cE h
  refine this.mono fun e w' he=>?_
  have eq:rd (exF (f+1) d) st=rd (gExD (gRow orX (gRow andX (gRow cmpX (gRow sumX (gRow proX (gUn (exF f (d+1)) (unF f (d+1)) d) 4096) 4096) 1) 4096) 4096) (exF f (d+1)) d) st:=by
   cases st with
   | error f'=>rfl
   | ok ts=>show exF (f+1) d ts=_; rw [exF]; rfl
  rw [eq]
  exact he
 ·have:=u1 w st h
  refine this.mono fun e w' he=>?_
  have eq:rd (unF (f+1) d) st=rd (gUn (exF f (d+1)) (unF f (d+1)) d) st:=by
   cases st with
   | error f'=>rfl
   | ok ts=>show unF (f+1) d ts=_; rw [unF]; rfl
  rw [eq]
  exact he
theorem all_d {K:PK}(hK:KOk K) {b:Nat}:∀ (n d:Nat),d+n=24 →
  (∀ (w:yW) (st:St),Sp w b K st→Calls zG 52 #[zP b,zI d] w (OutD b K w (rd (exF (n+2) d) st))) ∧
  (∀ (w:yW) (st:St),Sp w b K st→Calls zG 192 #[zP b,zI d] w (OutD b K w (rd (unF (n+2) d) st))):=by
 intro n
 induction n with
 | zero =>
  intro d hd
  exact lvl_d hK 1 d (by omega) (fun h=>by omega) (fun h=>by omega)
 | succ n ih =>
  intro d hd
  have:=ih (d+1) (by omega)
  have ec:((d+1:Nat):Int)=(d:Int)+1:=by omega
  rw [ec] at this
  exact lvl_d hK (n+2) d (by omega) (fun _=>this.1) (fun _=>this.2)
theorem expr0_d {K:PK}(hK:KOk K) {b:Nat}(w:yW) (st:St) (h:Sp w b K st):Calls zG 52 #[zP b,zI 0] w (OutD b K w (rd Ka st)):=(all_d hK 24 0 rfl).1 w st h
end Go.Proofs.YtoogodlnnijikaaGreatDoor
