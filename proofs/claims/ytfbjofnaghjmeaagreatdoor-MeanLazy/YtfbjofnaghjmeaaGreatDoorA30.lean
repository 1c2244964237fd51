import Derived.Test.YtfbjofnaghjmeaaGreatDoorA29
namespace Go.Proofs.YtfbjofnaghjmeaaGreatDoor
open Go.Proofs.Tryz
set_option maxRecDepth 100000
set_option maxHeartbeats 4000000
open Go Go.RowKit
set_option linter.unusedVariables false
theorem QaX {B h0:Nat}{x:Cx}{tb rb mb sb gb:Nat}{w:yW}{av:Value}{q:Tm}(h:TnW B h0 x tb rb mb sb gb w av q) (d:DoM) (hx:d.x.size≤maxLen) (hs:d.x.toList.isEmpty=false→(x.S d.x).isSome=true) (hn:q.ac.length≤1000000000) (hl:AmdL w (gOf x.P q.rg) d) :
  Calls zG 129 #[zP tb,.agg d.vals] w (OutA B h0 x tb rb mb sb gb q w (amdR x.S x.s (gOf x.P q.rg) d)):=by
 have HB:=Qb w (.cells d.vals 121)
 have HN:=Qc w (.cells d.vals 121)
 have hsz:=Qe w (.cells d.vals 121)
 have H:=h.hid
 obtain⟨V,eV⟩:∃ V,w.alloc (.cells d.vals 121)=V:=jV
 have EV:=zH eV
 rw [eV] at HB HN hsz
 have HN:=zH HN
 have HBW:=zH HB
 have HSZ:=zH hsz
 have HLN:=zH hn
 have HL_qt:=zH hl.qt
 have HL_pr:=zH hl.pr
 have cS:=UZ (h.on HB) d.x hx hs
 obtain⟨sl,esl⟩:∃ sl,K6 x.S d.x=sl:=jV
 have ESL:Hid (K6 x.S d.x=sl):=esl
 rw [esl] at cS
 have HDA:Hid (yD V (zA V zac 79)):=Qb _ _
 have HZ:Hid ((zA V zac 79).heap[V§]? = (zC zac 79)):=Qc V _
 have KP0:Hid (AcK w d V§ ((zA V zac 79).setRow V§ (acA 2 0 0 0 0 sl)) (acA 2 0 0 0 0 sl)) :=
  ⟨Qn (Qd HBW.out HDA.out) (by rw [HSZ.out];omega) _,(QV _ _ _ (by rw [HSZ.out];omega)).trans (heapOf HDA.out HN.out),setRow_heap _ _ _ _ _ _ HZ.out,by rw [HSZ.out];omega⟩
 have e2:zQ V w§¢2 (.string d.x):=Qa HN.out 2
 clear eV HB hsz h hx hs hn hl esl
 go_enter func129,ntmps129
 go_upto_region 1 with fail
 rw [EV.out]
 go_wp2_with fail
 refine cS.mono ?_
 rintro e w1 ⟨rfl,ew⟩
 obtain rfl:=ew.symm
 clear cS e2
 go_upto_region 2 with (refine wpList_store_row rfl 79 (.tmp 4) (.tmp 9) rfl V§ (acA 2 0 0 0 0 sl) rfl rfl 79 zac HZ.out (FU ..) rfl (Qfp ..) ?_)
 generalize hWX:World.setRow _ _ _=U
 have hWY:(zA V zac 79).setRow V§ (acA 2 0 0 0 0 sl)=U:=hWX
 rw [hWY] at KP0
 have KP:=KP0
 clear hWX hWY KP0 HZ HDA
 obtain⟨M,eM⟩:∃ M,V§=M:=jV
 rw [eM] at KP ⊢
 clear eM
 have cV:Calls zG 37 #[zP tb,.agg #[zU d.qt.h.k,zU d.qt.h.o,zU d.qt.h.t,zI d.qt.h.n,zU d.qt.h.f,.string d.qt.h.x,.slice d.qt.a d.qt.ks.length d.qt.c,zI d.qt.h.p]] U.drew (OutV U.drew (valR x.s (gOf x.P q.rg) d.qt)):=Jx (s:=x.s) (G:=(gOf x.P q.rg)) H.out.fi d.qt U.drew (H.out.on (KP.out.on (Ql U)).b).sv (HL_qt.out.1.on (KP.out.on (Ql U)).b) HL_qt.out.2
 obtain⟨rqt,eqt⟩:∃ r,valR x.s (gOf x.P q.rg) d.qt=r:=jV
 have Eqt:=zH eqt
 rw [eqt] at cV
 clear eqt
 go_upto_region 2 with fail
 refine (?_:∀ Q',Hid (Q'=_)→Code.wp _ _ Q' _ _) _ rfl
 intro Q' HQ'
 have HPn:zHP Q':=by rw [HQ'.out];exact fun _ _ _ _ _ h=>h
 refine QA (t:=7) (S:=fun u=>u.heap[w§]? = (zC d.vals 121)) zK KP.out.n (fun hHeld=>?_)
 refine zTd 0 HPn
 rotate_left
 ·(intro v hv;go_simp;try (with_reducible rfl))
 try simp [Act.put]
 refine zTd 1 HPn
 rotate_left
 ·(intro v hv;go_simp;try (with_reducible rfl))
 try simp [Act.put]
 refine zTd 2 HPn
 rotate_left
 ·(intro v hv;go_simp;try (with_reducible rfl))
 try simp [Act.put]
 refine zTd 3 HPn
 rotate_left
 ·(intro v hv;go_simp;try (with_reducible rfl))
 try simp [Act.put]
 refine zTd 4 HPn
 rotate_left
 ·(intro v hv;have e0:zQ v w§¢11 (zU d.qt.h.k):=Qa hv 11;have e1:zQ v w§¢12 (zU d.qt.h.o):=Qa hv 12;have e2:zQ v w§¢13 (zU d.qt.h.t):=Qa hv 13;have e3:zQ v w§¢14 (zI d.qt.h.n):=Qa hv 14;have e4:zQ v w§¢15 (zU d.qt.h.f):=Qa hv 15;have e5:zQ v w§¢16 (.string d.qt.h.x):=Qa hv 16;have e6:zQ v w§¢17 (.slice d.qt.a d.qt.ks.length d.qt.c):=Qa hv 17;have e7:zQ v w§¢18 (zI d.qt.h.p):=Qa hv 18;clear hv;go_simp;try (with_reducible rfl))
 try simp [Act.put]
 rcases rqt with c | zqt
 ·refine Qh (i:=5) zK rfl (fun K hK=>?_)
  go_simp
  refine cV.mono ?_
  rintro e w1 ⟨rfl,hb⟩
  rw [HQ'.out]
  refine⟨rfl,?_⟩
  rw [show amdR x.S x.s (gOf x.P q.rg) d=.error c by unfold amdR;rw [Eqt.out]]
  exact⟨rfl,((KP.out.on (Ql U)).on hb).b⟩
 refine Qh (i:=5) zK rfl (fun K hK=>?_)
 go_simp
 refine cV.mono ?_
 rintro e w1 ⟨rfl,hb⟩
 have KP1:=((KP.out.on (Ql U)).on hb).hid
 clear hb cV
 unfold endV
 go_simp
 refine hK.out _ _ (fun _=>KP1.out.n) ?_
 clear hK K
 try simp [Act.put]
 refine QJ (i:=6) (v:=?_) rfl zK zK zK zK (fun c a w h=>HPn.out c _ _ a w h) (Or.inl ⟨by rfl,?_⟩) KP1.out.n ?_
 rotate_left
 ·(intro v hv;go_simp;try (with_reducible rfl))
 try simp [Act.put]
 have ca:zQ w1 M¢4 (zI 0):=Qa KP1.out.m 4
 have fa:=Qf KP1.out.m 4
 refine Qh (i:=7) zK rfl (fun K hK=>?_)
 go_simp
 refine hK.out _ _ (fun h=>absurd rfl h) ?_
 clear hK K
 try simp [Act.put]
 refine QB zK ?_ _
 rw [HQ'.out]
 clear HQ' HPn Q'
 have KP2:Hid (AcK w d M (w1.setCell M¢4 (zI zqt)) (acA 2 0 0 0 zqt sl)):=KP1.out.set 4 _
 clear ca fa KP1 KP
 obtain⟨U,eU⟩:∃ U,w1.setCell M¢4 (zI zqt)=U:=jV
 rw [eU] at KP2 ⊢
 clear eU
 have KP:=KP2
 clear KP2
 have cV:Calls zG 37 #[zP tb,.agg #[zU d.pr.h.k,zU d.pr.h.o,zU d.pr.h.t,zI d.pr.h.n,zU d.pr.h.f,.string d.pr.h.x,.slice d.pr.a d.pr.ks.length d.pr.c,zI d.pr.h.p]] U.drew (OutV U.drew (valR x.s (gOf x.P q.rg) d.pr)):=Jx (s:=x.s) (G:=(gOf x.P q.rg)) H.out.fi d.pr U.drew (H.out.on (KP.out.on (Ql U)).b).sv (HL_pr.out.1.on (KP.out.on (Ql U)).b) HL_pr.out.2
 obtain⟨rpr,epr⟩:∃ r,valR x.s (gOf x.P q.rg) d.pr=r:=jV
 have Epr:=zH epr
 rw [epr] at cV
 clear epr
 go_upto_region 3 with fail
 refine (?_:∀ Q',Hid (Q'=_)→Code.wp _ _ Q' _ _) _ rfl
 intro Q' HQ'
 have HPn:zHP Q':=by rw [HQ'.out];exact fun _ _ _ _ _ h=>h
 refine QA (t:=7) (S:=fun u=>u.heap[w§]? = (zC d.vals 121)) zK KP.out.n (fun hHeld=>?_)
 refine zTd 0 HPn
 rotate_left
 ·(intro v hv;go_simp;try (with_reducible rfl))
 try simp [Act.put]
 refine zTd 1 HPn
 rotate_left
 ·(intro v hv;go_simp;try (with_reducible rfl))
 try simp [Act.put]
 refine zTd 2 HPn
 rotate_left
 ·(intro v hv;go_simp;try (with_reducible rfl))
 try simp [Act.put]
 refine zTd 3 HPn
 rotate_left
 ·(intro v hv;go_simp;try (with_reducible rfl))
 try simp [Act.put]
 refine zTd 4 HPn
 rotate_left
 ·(intro v hv;have e0:zQ v w§¢19 (zU d.pr.h.k):=Qa hv 19;have e1:zQ v w§¢20 (zU d.pr.h.o):=Qa hv 20;have e2:zQ v w§¢21 (zU d.pr.h.t):=Qa hv 21;have e3:zQ v w§¢22 (zI d.pr.h.n):=Qa hv 22;have e4:zQ v w§¢23 (zU d.pr.h.f):=Qa hv 23;have e5:zQ v w§¢24 (.string d.pr.h.x):=Qa hv 24;have e6:zQ v w§¢25 (.slice d.pr.a d.pr.ks.length d.pr.c):=Qa hv 25;have e7:zQ v w§¢26 (zI d.pr.h.p):=Qa hv 26;clear hv;go_simp;try (with_reducible rfl))
 try simp [Act.put]
 rcases rpr with c | zpr
 ·refine Qh (i:=5) zK rfl (fun K hK=>?_)
  go_simp
  refine cV.mono ?_
  rintro e w1 ⟨rfl,hb⟩
  rw [HQ'.out]
  refine⟨rfl,?_⟩
  rw [show amdR x.S x.s (gOf x.P q.rg) d=.error c by unfold amdR;rw [Eqt.out];dsimp only;rw [Epr.out]]
  exact⟨rfl,((KP.out.on (Ql U)).on hb).b⟩
 refine Qh (i:=5) zK rfl (fun K hK=>?_)
 go_simp
 refine cV.mono ?_
 rintro e w1 ⟨rfl,hb⟩
 have KP1:=((KP.out.on (Ql U)).on hb).hid
 clear hb cV
 unfold endV
 go_simp
 refine hK.out _ _ (fun _=>KP1.out.n) ?_
 clear hK K
 try simp [Act.put]
 refine QJ (i:=6) (v:=?_) rfl zK zK zK zK (fun c a w h=>HPn.out c _ _ a w h) (Or.inl ⟨by rfl,?_⟩) KP1.out.n ?_
 rotate_left
 ·(intro v hv;go_simp;try (with_reducible rfl))
 try simp [Act.put]
 have ca:zQ w1 M¢3 (zI 0):=Qa KP1.out.m 3
 have fa:=Qf KP1.out.m 3
 refine Qh (i:=7) zK rfl (fun K hK=>?_)
 go_simp
 refine hK.out _ _ (fun h=>absurd rfl h) ?_
 clear hK K
 try simp [Act.put]
 refine QB zK ?_ _
 rw [HQ'.out]
 clear HQ' HPn Q'
 have KP2:Hid (AcK w d M (w1.setCell M¢3 (zI zpr)) (acA 2 0 0 zpr zqt sl)):=KP1.out.set 3 _
 clear ca fa KP1 KP
 obtain⟨U,eU⟩:∃ U,w1.setCell M¢3 (zI zpr)=U:=jV
 rw [eU] at KP2 ⊢
 clear eU
 have KP:=KP2
 clear KP2
 have HE:Hid (amdR x.S x.s (gOf x.P q.rg) d=.ok (acA 2 0 0 zpr zqt sl)):=by show _=_;unfold amdR;rw [Eqt.out];dsimp only;rw [Epr.out];dsimp only;rw [ESL.out]
 have HU:=zH (H.out.on (KP.out.on (Ql U)).b)
 have HRA:=zH HU.out.ra
 have HOB:Hid (av.ownBlock≠some M):=fun e=>by have:=H.out.row.lt _ e;have:=KP.out.l;omega
 have HS:Hid (U.heap[tb]? = (zC (tnA x.s rb q.rg.length mb sb gb av q) 117)∧U.heap[M]? = (zC (acA 2 0 0 zpr zqt sl) 79)):=⟨HU.out.t,KP.out.m⟩
 go_upto_region 4 with fail
 refine (?_:∀ Q',Hid (Q'=_)→Code.wp _ _ Q' _ _) _ rfl
 intro Q' HQ'
 have HPn:zHP Q':=by rw [HQ'.out];exact fun _ _ _ _ _ h=>h
 refine QA (t:=10) (S:=fun u=>u.heap[tb]? = (zC (tnA x.s rb q.rg.length mb sb gb av q) 117)∧u.heap[M]? = (zC (acA 2 0 0 zpr zqt sl) 79)) zK HS.out (fun hHeld=>?_)
 obtain⟨D,eD⟩:∃ D,U.drew=D:=jV
 have HS:Hid (D.heap[tb]? = (zC (tnA x.s rb q.rg.length mb sb gb av q) 117)∧D.heap[M]? = (zC (acA 2 0 0 zpr zqt sl) 79)):=by rw [← eD];exact HS.out
 have HKD:Hid (yD w D):=by rw [← eD];exact (KP.out.on (Ql U)).b
 rw [eD] at HU HRA hHeld ⊢
 clear eD
 refine zTd 0 HPn
 rotate_left
 ·(intro v hv;go_simp;try (with_reducible rfl))
 try simp [Act.put]
 refine zTd 1 HPn
 rotate_left
 ·(intro v hv;go_simp;try (with_reducible rfl))
 try simp [Act.put]
 refine zTd 2 HPn
 rotate_left
 ·(intro v hv;go_simp;try (with_reducible rfl))
 try simp [Act.put]
 refine zTd 3 HPn
 rotate_left
 ·(intro v hv;go_simp;try (with_reducible rfl))
 try simp [Act.put]
 refine zTd 4 HPn
 rotate_left
 ·(intro v hv;have c11:v.cell? tb¢11=some av:=Qa hv.1 11;clear hv;go_simp;try (with_reducible rfl))
 try simp [Act.put]
 refine zTd 5 HPn
 rotate_left
 ·(intro v hv;have e0:zQ v M¢0 (zU 2):=Qa hv.2 0;have e1:zQ v M¢1 (zU 0):=Qa hv.2 1;have e2:zQ v M¢2 (zU 0):=Qa hv.2 2;have e3:zQ v M¢3 (zI zpr):=Qa hv.2 3;have e4:zQ v M¢4 (zI zqt):=Qa hv.2 4;have e5:zQ v M¢5 (zI sl):=Qa hv.2 5;clear hv;go_simp;try (with_reducible rfl))
 try simp [Act.put]
 refine Qh (i:=6) zK rfl (fun K hK=>?_)
 go_simp
 refine hK.out _ _ (fun _=>⟨heapOf (Qb D _) HS.out.1,heapOf (Qb D _) HS.out.2⟩) ?_
 clear hK K
 try simp [Act.put]
 refine Qh (i:=7) zK rfl (fun K hK=>?_)
 refine X0 rfl (.tmp 28) (.tmp 30) 56 79 6 32 _ rfl underlying56 Qbu rfl (by decide) (by decide) (by decide) (acA 2 0 0 zpr zqt sl) rfl (Pu _ _ _ _ _ _) HRA.out rfl rfl HLN.out ?_
 intro v1 w2 hr2 hs2 hq2 hz2
 obtain⟨ao3,n3,c3,rfl⟩:=hr2.sl3
 have HF:=HU.out.app hr2 hs2 hq2
 have HF2:Hid (TnW B h0 x tb rb mb sb gb (w2.setCell tb¢11 (.slice ao3 n3 c3)) (.slice ao3 n3 c3) { q with ac:=q.ac ++ [acA 2 0 0 zpr zqt sl] }∧Below B w (w2.setCell tb¢11 (.slice ao3 n3 c3))):=⟨HF.1,(HKD.out.mono H.out.bs).trans HF.2⟩
 have ht2:w2.heap[tb]? = (zC (tnA x.s rb q.rg.length mb sb gb av q) 117):=(hq2 tb (zJ HU.out.t).1 (fun e=>by have:=HU.out.nb tb e;have:=H.out.th;omega)).trans HU.out.t
 have hn2:w2.heap[M]? = (zC (acA 2 0 0 zpr zqt sl) 79):=(hq2 _ (zJ HS.out.2).1 HOB.out).trans HS.out.2
 have HS2:Hid (w2.heap[tb]? = (zC (tnA x.s rb q.rg.length mb sb gb av q) 117)∧w2.heap[M]? = (zC (acA 2 0 0 zpr zqt sl) 79)):=⟨ht2,hn2⟩
 clear hr2 hs2 hq2 hz2 HF ht2 hn2
 refine hK.out _ _ (fun _=>HS2.out) ?_
 clear hK K
 try simp [Act.put]
 refine Qh (i:=8) zK rfl (fun K hK=>?_)
 go_simp
 refine hK.out _ _ (fun _=>HS2.out) ?_
 clear hK K
 try simp [Act.put]
 refine QJ (i:=9) (v:=?_) rfl zK zK zK zK (fun c a w h=>HPn.out c _ _ a w h) (Or.inl ⟨by rfl,?_⟩) HS2.out ?_
 rotate_left
 ·(intro v hv;go_simp;try (with_reducible rfl))
 try simp [Act.put]
 have c11:w2.cell? tb¢11=some av:=Qa HS2.out.1 11
 have f11:=Qf HS2.out.1 11
 refine Qh (i:=10) zK rfl (fun K hK=>?_)
 go_simp
 refine hK.out _ _ (fun h=>absurd rfl h) ?_
 clear hK K
 try simp [Act.put]
 refine QB zK ?_ _
 rw [HQ'.out]
 clear HQ' HPn Q'
 go_wp2_with fail
 go_end0
 unfold OutA
 rw [HE.out]
 exact⟨rfl,⟨_,HF2.out.1⟩,HF2.out.2⟩
def doN (x:Cx) (q:Tm) (d:DoM):Except Int Tm :=
 if d.k=1 then (match subR x.S x.s (gOf x.P q.rg) d with
  | .error c=>.error c
  | .ok y=>.ok { q with ac:=q.ac ++ [y] })
 else if d.k=2 then (match amdR x.S x.s (gOf x.P q.rg) d with
  | .error c=>.error c
  | .ok y=>.ok { q with ac:=q.ac ++ [y] })
 else if d.k=3 then .ok { q with ac:=q.ac ++ [acA 3 0 0 0 0 (K6 x.S d.x)] }
 else if d.k=4 then (match valR x.s (gOf x.P q.rg) d.vl with
  | .error c=>.error c
  | .ok v=>.ok { q with rg:=q.rg.set ((x.P d.x).getD 0) v })
 else if d.k=5 then .ok { q with st:=((x.T d.x).getD 0:Nat) }
 else .ok { q with su:=2 }
def dosN (x:Cx):Tm→List DoM→Except Int Tm
 | q,[]=>.ok q
 | q,d :: ds=>match doN x q d with
  | .error c=>.error c
  | .ok q'=>dosN x q' ds
def gP (P:yB→Option Nat) (y:yB):Option Int:=(P y).map (fun i=>(i:Int))
structure DoOk (x:Cx) (d:DoM):Prop where
 k1:1≤d.k
 k6:d.k≤6
 sz:d.x.size≤maxLen
 s1:d.k≤3→d.x.toList.isEmpty=false→(x.S d.x).isSome=true
 p1:d.k=1→Res (gP x.P) d.sd∧Res (gP x.P) d.qt∧(d.o≠2→Res (gP x.P) d.pr)
 p2:d.k=2→Res (gP x.P) d.qt∧Res (gP x.P) d.pr
 p4:d.k=4→(x.P d.x).isSome=true∧Res (gP x.P) d.vl
 p5:d.k=5→(x.T d.x).isSome=true
theorem TnW.res {B h0:Nat}{x:Cx}{tb rb mb sb gb:Nat}{w:yW}{av:Value}{q:Tm}(h:TnW B h0 x tb rb mb sb gb w av q) {m:Nd}(r:Res (gP x.P) m):Res (gOf x.P q.rg) m:=r.mono fun y hy=>by
 unfold gP at hy
 unfold gOf
 cases e:x.P y with
 | none=>rw [e] at hy;cases hy
 | some i =>
  have:=h.pi y i e
  show (q.rg[i]?).isSome=true
  simp [this]
def OutQ (B h0:Nat) (x:Cx) (tb rb mb sb gb:Nat) (w:yW) (r:Except Int Tm) (e:Ending) (w':yW):Prop:=match r with
 | .error c=>e=fltE c∧yD w w'
 | .ok q'=>e=.returned (.tuple #[])∧(∃ av',TnW B h0 x tb rb mb sb gb w' av' q')∧Below B w w'
theorem QcG {B h0:Nat}{x:Cx}{tb rb mb sb gb:Nat}{w:yW}{av:Value}{q:Tm}(h:TnW B h0 x tb rb mb sb gb w av q) (d:DoM) (ho:DoOk x d) (hl:DoL w d) (hn:q.ac.length≤1000000000) :
  Calls zG (127+d.k.toNat) #[zP tb,.agg d.vals] w (OutQ B h0 x tb rb mb sb gb w (doN x q d)):=by
 have k1:=ho.k1
 have k6:=ho.k6
 have C:d.k=1∨d.k=2∨d.k=3∨d.k=4∨d.k=5∨d.k=6:=by omega
 rcases C with e | e | e | e | e | e
 ·have p:=ho.p1 e
  have c:=PF h d ho.sz (ho.s1 zY) hn ⟨⟨hl.1,h.res p.1⟩,⟨hl.2.1,h.res p.2.1⟩,fun k=>⟨hl.2.2.1,h.res (p.2.2 k)⟩⟩
  rw [e]
  refine c.mono ?_
  intro e' w' ho'
  unfold doN OutQ
  rw [if_pos e]
  cases er:subR x.S x.s (gOf x.P q.rg) d with
  | error c=>rw [er] at ho';exact ho'
  | ok y=>rw [er] at ho';exact ho'
 ·have p:=ho.p2 e
  have c:=QaX h d ho.sz (ho.s1 zY) hn ⟨⟨hl.2.1,h.res p.1⟩,⟨hl.2.2.1,h.res p.2⟩⟩
  rw [e]
  refine c.mono ?_
  intro e' w' ho'
  unfold doN OutQ
  rw [if_neg zY,if_pos e]
  cases er:amdR x.S x.s (gOf x.P q.rg) d with
  | error c=>rw [er] at ho';exact ho'
  | ok y=>rw [er] at ho';exact ho'
 ·have c:=Fz h d ho.sz (ho.s1 zY) hn
  rw [e]
  refine c.mono ?_
  rintro e' w' ⟨h1,av',h2,h3⟩
  unfold doN OutQ
  rw [if_neg zY,if_neg zY,if_pos e]
  exact⟨h1,⟨av',h2⟩,h3⟩
 ·have p:=ho.p4 e
  obtain⟨i,ei⟩:=Option.isSome_iff_exists.1 p.1
  have c:=Qds h d ho.sz ei hl.2.2.2.1 (h.res p.2)
  rw [e]
  refine c.mono ?_
  intro e' w' ho'
  unfold doN OutQ
  rw [if_neg zY,if_neg zY,if_neg zY,if_pos e,ei]
  cases er:valR x.s (gOf x.P q.rg) d.vl with
  | error c=>rw [er] at ho';exact ho'
  | ok y=>rw [er] at ho';exact⟨ho'.1,⟨av,ho'.2.1⟩,ho'.2.2⟩
 ·obtain⟨i,ei⟩:=Option.isSome_iff_exists.1 (ho.p5 e)
  have c:=Qcu h d ho.sz ei
  rw [e]
  refine c.mono ?_
  rintro e' w' ⟨h1,h2,h3⟩
  unfold doN OutQ
  rw [if_neg zY,if_neg zY,if_neg zY,if_neg zY,if_pos e,ei]
  exact⟨h1,⟨av,h2⟩,h3⟩
 ·have c:=Qct h d
  rw [e]
  refine c.mono ?_
  rintro e' w' ⟨h1,h2,h3⟩
  unfold doN OutQ
  rw [if_neg zY,if_neg zY,if_neg zY,if_neg zY,if_neg zY]
  exact⟨h1,⟨av,h2⟩,h3⟩
theorem TnW.more {B h0:Nat}{x:Cx}{tb rb mb sb gb:Nat}{w:yW}{q:Tm}(h:TnW B h0 x tb rb mb sb gb w (zO) q) (hq:q.ac = []) (l:List (Nat × Obj)) (hl:∀ p ∈ l,w.heap[p.1]? = some p.2∧p.1≠tb∧p.1≠rb) :
  TnW B w§ { x with K:=l ++ x.K } tb rb mb sb gb w (zO) q :=
 { h with
  nb:=fun k hk=>by simp [Value.ownBlock] at hk
  th:=Nat.lt_of_lt_of_le h.th h.hw
  rh:=Nat.lt_of_lt_of_le h.rh h.hw
  mh:=Nat.lt_of_lt_of_le h.mh h.hw
  sh:=Nat.lt_of_lt_of_le h.sh h.hw
  gh:=Nat.lt_of_lt_of_le h.gh h.hw
  hw:=Nat.le_refl _
  kp:=fun p hp=>by
   rcases List.mem_append.1 hp with h1 | h1
   ·exact⟨(hl p h1).1,(zJ (hl p h1).1).1,(hl p h1).2⟩
   ·exact⟨(h.kp p h1).1,Nat.lt_of_lt_of_le (h.kp p h1).2.1 h.hw,(h.kp p h1).2.2⟩ }
theorem TnW.less {B h0:Nat}{x:Cx}{tb rb mb sb gb:Nat}{w:yW}{av:Value}{q:Tm}(h:TnW B h0 x tb rb mb sb gb w av q) {K:List (Nat × Obj)}(hK:∀ p ∈ K,p ∈ x.K):TnW B h0 { x with K:=K } tb rb mb sb gb w av q :=
 { h with kp:=fun p hp=>h.kp p (hK p hp) }
theorem doN_K (x:Cx) (K:List (Nat × Obj)) (q:Tm) (d:DoM):doN { x with K:=K } q d=doN x q d:=rfl
theorem QaQ (x:Cx) (K:List (Nat × Obj)):∀ (ds:List DoM) (q:Tm),dosN { x with K:=K } q ds=dosN x q ds
 | [],q=>rfl
 | d :: ds,q=>by
  unfold dosN
  rw [doN_K]
  cases doN x q d with
  | error c=>rfl
  | ok q'=>exact QaQ x K ds q'
theorem QgF {x:Cx}{q q':Tm}{d:DoM}(h:doN x q d=.ok q'):q'.ac.length≤q.ac.length+1:=by
 unfold doN at h
 split at h
 ·split at h
  ·cases h
  ·cases h;simp
 split at h
 ·split at h
  ·cases h
  ·cases h;simp
 split at h
 ·cases h;simp
 split at h
 ·split at h
  ·cases h
  ·cases h;simp
 split at h
 ·cases h;simp
 ·cases h;simp
set_option maxHeartbeats 16000000
set_option linter.unusedSimpArgs false
theorem Us {P:Program}{ops:Array Oper}{S:yW→Prop}{op:Oper}{a:Act}(hw:Region.wanted op (yielded ops a.tmps)=true) (ty:TypeId) (x:Operand) (ho:op.op=.load ty x)
  (g:Nat) (hx:a.eval x=zP g) (t:TypeId) (cs:Array Value) (fr:Nat × Nat) (d:TypeDesc) (hS:∀ w,S w→w.heap[g]? = some (.cells cs t fr))
  (hu:P.underlying ty=some d) (hd:(match d with | .struct _ | .array _ _=>true | _=>false)=true) (hi:(P.info? ty).map (·.size)=some cs.size):YieldsIf P ops S op (.agg cs) a :=
 .inl ⟨hw,fun w hw'=>by
  unfold execOp
  simp only [ho,hx,Instr.loadAt,Instr.sureAddr,Sem.run_bind,Sem.run_pure,Result.andThen_ok,run_loadVar_row w g t ty cs fr d (hS w hw') hu hd hi]⟩
def tabB:Array Value:=#[.nilFunc,fnV 128,fnV 129,fnV 130,fnV 131,fnV 132,fnV 133]
def parB:Array (Nat × Operand):=#[(1,Operand.func 128),(2,Operand.func 129),(3,Operand.func 130),(4,Operand.func 131),(5,Operand.func 132),(6,Operand.func 133)]
def parW:List (Nat × Value):=[(1,fnV 128),(2,fnV 129),(3,fnV 130),(4,fnV 131),(5,fnV 132),(6,fnV 133)]
theorem FA:Tryz.prog.built 198 parW=some tabB:=by kernel_rfl
theorem VQ (a:Act):(parB.map fun (i,x)=>(i,a.eval x)).toList=parW:=by
 simp [parB,parW,fnV,go_sem]
theorem Pw {w:yW}{ops:Array Oper}{rest:List Oper}{o:Oper}{a:Act}{Q:Exit→Act→yW→Prop}(hgd:o.guard=none) (ho:o.op=.build 198 parB)
  (h:wpList zG ops Q rest (a.put o.dst (.agg tabB)) w):wpList zG ops Q (o :: rest) a w:=by
 refine wpList_build hgd 198 parB ho ?_ ?_
 ·rw [VQ,FA];rfl
 ·rw [VQ,FA];exact h
theorem QfD (o:Nat) (h1:1≤o) (h2:o≤6):tabB[o]? = some (fnV (127+o)):=by
 have:o=1∨o=2∨o=3∨o=4∨o=5∨o=6:=by omega
 rcases this with rfl | rfl | rfl | rfl | rfl | rfl <;> rfl
def zerB:Array Value:=#[.nilFunc,.nilFunc,.nilFunc,.nilFunc,.nilFunc,.nilFunc,.nilFunc]
theorem QfL:(Tryz.prog.info? 198).map (·.size)=some tabB.size:=by kernel_rfl
theorem all198:tabB.all (·.oneCell')=true:=by kernel_rfl
theorem QeY (o:Nat) (h1:1≤o) (h2:o≤6) (args:Array Value) (v:yW):Sem.run zG (callFunc (127+o) args) v=.ok (.enter (127+o) args) v:=by
 have:o=1∨o=2∨o=3∨o=4∨o=5∨o=6:=by omega
 rcases this with rfl | rfl | rfl | rfl | rfl | rfl <;> (show _=_;kernel_rfl)
def Qho (B:Nat) (x:Cx) (tb rb mb sb gb:Nat) (w:yW) (r:Except Int Tm) (e:Ending) (w':yW):Prop:=match r with
 | .error c=>e=fltE c∧Below B w w'∧∀ p ∈ x.K,w'.heap[p.1]? = some p.2
 | .ok q'=>e=.returned (.tuple #[])∧(∃ h1 av',TnW B h1 x tb rb mb sb gb w' av' q')∧Below B w w'
theorem Vq {x:Cx}{q:Tm}{d:DoM}{ds:List DoM}{c:Int}(h:doN x q d=.error c):dosN x q (d :: ds)=.error c:=by simp only [dosN,h]
theorem Po {x:Cx}{q q':Tm}{d:DoM}{ds:List DoM}(h:doN x q d=.ok q'):dosN x q (d :: ds)=dosN x q' ds:=by simp only [dosN,h]
theorem QcD {h0:Nat}{x:Cx}{tb rb mb sb gb:Nat}{w0 w:yW}{q:Tm}(a:Option Addr) (c:Nat) (ds:List DoM) (h:TnW w0§ h0 x tb rb mb sb gb w (zO) q) (hq:q.ac = []) (hB:yD w0 w) (hs:SlAt w0 36 a c (ds.map DoM.vals)) (hd:∀ d ∈ ds,DoL w0 d∧DoOk x d) (hn:ds.length≤1000000) :
  Calls zG 84 #[zP tb,.slice a ds.length c] w (Qho w0§ x tb rb mb sb gb w (dosN x q ds)):=by
 have hb1:yD w ((zA w zerB 198).setRow w§ tabB):=Qn (Qb _ _) (Nat.le_refl _) _
 have HZ:Hid ((zA w zerB 198).heap[w§]? = (zC zerB 198)):=Qc _ _
 have hn1:((zA w zerB 198).setRow w§ tabB).heap[w§]? = (zC tabB 198):=setRow_heap _ _ _ _ _ _ HZ.out
 have hth:tb < w§:=Nat.lt_of_lt_of_le h.th h.hw
 have hrh:rb < w§:=Nat.lt_of_lt_of_le h.rh h.hw
 obtain⟨y,hy⟩:∃ y:Cx,y = { x with K:=[(w§,Obj.cells tabB 198 (0,0))] ++ x.K }:=jV
 have h1:=(h.on hb1).more hq [(w§,Obj.cells tabB 198 (0,0))] (fun p hp=>by
  obtain rfl:=List.mem_singleton.1 hp
  exact⟨hn1,by show w§≠tb;omega,by show w§≠rb;omega⟩)
 rw [← hy] at h1
 have HY:Hid (∀ h1 w' av' q',TnW w0§ h1 y tb rb mb sb gb w' av' q'→TnW w0§ h1 x tb rb mb sb gb w' av' q'):=by
  subst hy
  exact fun h1 w' av' q' k=>k.less (K:=x.K) (fun p hp=>List.mem_append_right _ hp)
 have HKT:Hid ((w§,Obj.cells tabB 198 (0,0)) ∈ y.K∧∀ p ∈ x.K,p ∈ y.K):=by
  subst hy
  exact⟨List.mem_append_left _ (List.mem_singleton.2 rfl),fun p hp=>List.mem_append_right _ hp⟩
 have HD:Hid (∀ d ∈ ds,DoL w0 d∧DoOk y d):=by
  subst hy
  exact fun d hm=>⟨(hd d hm).1,⟨(hd d hm).2.1,(hd d hm).2.2,(hd d hm).2.3,(hd d hm).2.4,(hd d hm).2.5,(hd d hm).2.6,(hd d hm).2.7,(hd d hm).2.8⟩⟩
 have hR:dosN y q ds=dosN x q ds:=by
  subst hy
  exact QaQ x _ ds q
 have HSL:=zH hs
 have HB1:=zH (hb1.mono hB.size)
 have HB0:=zH hB
 have HN:Hid (ds.length≤1000000):=hn
 obtain⟨R,eR⟩:∃ R,dosN x q ds=R:=jV
 rw [eR] at hR ⊢
 have HR:Hid (dosN y q ds=R):=hR
 have H1:=h1.hid
 have HQ:Hid (q.ac = []):=hq
 have HTH:Hid (tb < w§∧w0§≤w§):=⟨hth,hB.size⟩
 clear hb1 hn1 hth hrh hy h1 hd eR hR hs hB hq h hn
 go_enter func84,ntmps84
 go_upto_region 1 with (first | (refine Pw rfl rfl ?_) | (refine wpList_store_row rfl 198 (.tmp 4) (.tmp 7) rfl w§ tabB rfl rfl 198 zerB HZ.out QfL rfl all198 ?_))
 generalize hWX:World.setRow _ _ _=W1
 have hWY:(zA w zerB 198).setRow w§ tabB=W1:=hWX
 rw [hWY] at H1 HB1
 clear hWX hWY HZ
 obtain⟨T,eT⟩:∃ T,w§=T:=jV
 rw [eT] at HKT HTH ⊢
 clear eT
 go_wp2_with fail
 go_loopw [10] (fun t wr=>∃ (i:Nat) (q':Tm) (av:Value),i≤ds.length∧t=zI i∧Hid (TnW w0§ W1§ y tb rb mb sb gb wr av q')∧Hid (Below w0§ w wr)∧Hid (q'.ac.length≤i)∧Hid (dosN y q' (ds.drop i)=R)) (fun t _=>ds.length - (intOf t).toNat)
 case atStart=>exact⟨0,q,_,by omega,rfl,H1,HB1,by show _≤_;rw [HQ.out];exact Nat.le_refl _,HR⟩
 case round =>
  obtain⟨i,q',av,hi,rfl,HT,HBR,HLN,HRR⟩:=hrel
  by_cases hlt:i < ds.length
  ·have hlt':(i:Int) < (ds.length:Int):=by omega
   have hmx:(i:Int)+1≤jX:=by have:=HN.out;omega
   have HBW:=zH (HB0.out.trans HBR.out)
   obtain⟨bb,o,ea,hat⟩:=(HSL.out.on (mapz DoM.sz _) HBW.out).2.2 i (by rw [List.length_map];exact hlt)
   simp only [List.getElem_map] at hat
   have HMEM:Hid (ds[i] ∈ ds):=List.getElem_mem hlt
   have HC:Hid (dosN y q' (ds[i] :: ds.drop (i+1))=R):=by show _=_;rw [← List.drop_eq_getElem_cons hlt];exact HRR.out
   obtain⟨d,ed⟩:∃ d,ds[i]=d:=jV
   rw [ed] at hat HC HMEM
   have HRG:Hid (wr.rangeAt bb (o+i * 36) d.vals.toList):=fun j v hv=>by
    have hj:j < 36:=(List.getElem?_eq_some_iff.1 hv).1
    rw [hat j hj,← hv];simp
   have HZ:Hid ((zA wr (zE 0) 121).heap[wr§]? = (zC (zE 0) 121)):=Qc _ _
   have hbx:yD wr ((zA wr (zE 0) 121).setRow wr§ d.vals):=Qn (Qb _ _) (Nat.le_refl _) _
   have HT2:=zH (HT.out.on hbx)
   have HBX:=zH (HBR.out.trans (hbx.mono HBW.out.size))
   have HNX:Hid (((zA wr (zE 0) 121).setRow wr§ d.vals).heap[wr§]? = (zC d.vals 121)):=setRow_heap _ _ _ _ _ _ HZ.out
   subst ea
   clear hat ed hbx HRR HT HBR HBW
   go_upto_region 4 with (first | (refine wpList_load_mid rfl 121 (.tmp 12) rfl bb (o+i * 36) rfl d.vals.toList _ HRG.out underlying121 rfl (by show _=some 36;exact Qt) ?_;rw [Array.toArray_toList]) | (refine wpList_store_row rfl 121 (.tmp 6) (.tmp 13) rfl wr§ d.vals rfl rfl 121 (zE 0) HZ.out Qt rfl (Xr ..) ?_))
   generalize hWX:World.setRow _ _ _=WX
   have hWY:(zA wr (zE 0) 121).setRow wr§ d.vals=WX:=hWX
   rw [hWY] at HBX HNX HT2
   clear hWX hWY HZ HRG
   obtain⟨G,eG⟩:∃ G,wr§=G:=jV
   rw [eG] at HNX ⊢
   clear eG
   have HOK:=(HD.out d HMEM.out).2
   have hok1:=HOK.k1
   have hok6:=HOK.k6
   obtain⟨k,ek⟩:∃ k:Nat,d.k=(k:Int):=⟨d.k.toNat,(Int.toNat_of_nonneg zY).symm⟩
   have hk1:1≤k:=by omega
   have hk6:k≤6:=by omega
   have hk7:(k:Int) < 7:=by omega
   have hk0:(0:Int)≤(k:Int):=by omega
   have cF:=QcG (HT2.out.on (Ql WX)) d HOK ((HD.out d HMEM.out).1.on (HB0.out.trans HBX.out).drew) (Nat.le_trans HLN.out (by have:=HN.out;omega))
   rw [ek,Int.toNat_natCast] at cF
   have HTB:Hid (WX.heap[T]? = (zC tabB 198)):=(HT2.out.kp _ HKT.out.1).1
   have HFN:Hid (∀ v:yW,v.heap[T]? = (zC tabB 198)→zQ v T¢k (.func (.func (127+k)) #[] #[])):=fun v hv=>by
    show World.cell? _ _=_;unfold World.cell?;simp only;rw [hv];exact QfD k hk1 hk6
   have hE:=QeY k hk1 hk6
   have EK:Hid (d.k=(k:Int)):=ek
   clear HOK hok1 hok6 ek hk1 hk6
   refine (?_:∀ Q',Hid (Q'=_)→Code.wp _ _ Q' _ _) _ rfl
   intro Q' HQ'
   have HPn:zHP Q':=by rw [HQ'.out];exact fun _ _ _ _ _ h=>h
   refine QA (t:=6) (S:=fun u=>u.heap[T]? = (zC tabB 198)∧u.heap[G]? = (zC d.vals 121)) zK ⟨HTB.out,HNX.out⟩ (fun hHeld=>?_)
   refine zTd 4 HPn
   rotate_left
   ·(intro v hv;go_simp;try (with_reducible rfl))
   try simp [Act.put]
   refine zTe 5 HPn (Us (by rfl) 121 (.tmp 6) rfl G rfl 121 d.vals (0,0) _ (fun v hv=>hv.2) underlying121 rfl Qt)
   try simp [Act.put]
   refine Qh (i:=0) zK rfl (fun K hK=>?_)
   go_simp
   refine hK.out _ _ (fun _=>⟨HTB.out,HNX.out⟩) ?_
   clear hK K
   try simp [Act.put]
   have c0:WX.drew.cell? G¢0=some (zU d.k):=Qa (heapOf (Ql WX) HNX.out) 0
   rw [EK.out] at c0
   refine Qh (i:=1) zK rfl (fun K hK=>?_)
   go_simp
   refine hK.out _ _ (fun _=>⟨HTB.out,HNX.out⟩) ?_
   clear hK K
   try simp [Act.put]
   clear c0
   refine Qh (i:=2) zK rfl (fun K hK=>?_)
   go_simp
   refine hK.out _ _ (fun _=>⟨HTB.out,HNX.out⟩) ?_
   clear hK K
   try simp [Act.put]
   refine zTd 3 HPn
   rotate_left
   ·(intro v hv;have cc:=HFN.out v hv.1;clear hv;go_simp;try (with_reducible rfl))
   try simp [Act.put]
   obtain⟨rd,erd⟩:∃ rd,doN y q' d=rd:=jV
   have ERD:Hid (doN y q' d=rd):=erd
   rw [erd] at cF
   clear erd
   rcases rd with c1 | q2
   ·replace cF:Calls zG (127+k) #[zP tb,.agg d.vals] WX.drew (fun e w'=>e=fltE c1∧Below WX.drew§ WX.drew w'):=cF
    refine Qh (i:=6) zK rfl (fun K hK=>?_)
    go_simp
    refine cF.mono ?_
    rintro e w1 ⟨rfl,hb⟩
    rw [HQ'.out]
    have hD:R=.error c1:=HC.out.symm.trans (Vq ERD.out)
    have hbb:Below w0§ w w1:=HBX.out.drew.trans (hb.mono (Nat.le_trans HB0.out.size HBX.out.size))
    have hkk:=((HT2.out.on (Ql WX)).on hb).kp
    refine⟨rfl,?_⟩
    rw [hD]
    exact⟨rfl,hbb,fun p hp=>(hkk p (HKT.out.2 p hp)).1⟩
   ·replace cF:Calls zG (127+k) #[zP tb,.agg d.vals] WX.drew (fun e w'=>e=.returned (.tuple #[])∧(∃ av',TnW w0§ W1§ y tb rb mb sb gb w' av' q2)∧Below w0§ WX.drew w'):=cF
    refine Qh (i:=6) zK rfl (fun K hK=>?_)
    go_simp
    refine cF.mono ?_
    rintro e w1 ⟨rfl,⟨av',ht⟩,hb⟩
    have HT3:=zH ht
    have HB3:=zH (HBX.out.drew.trans hb)
    have HL3:Hid (q2.ac.length≤i+1):=by have h1:=QgF ERD.out;have h2:=HLN.out;show _≤_;omega
    have HR3:=zH ((Po ERD.out).symm.trans HC.out)
    clear ht hb cF
    go_simp
    refine hK.out _ _ (fun h=>absurd rfl h) ?_
    clear hK K
    try simp [Act.put]
    refine QB zK ?_ _
    rw [HQ'.out]
    clear HQ' HPn Q'
    go_wp2_with fail
    exact⟨⟨i+1,q2,av',hlt,rfl,HT3,HB3,HL3,HR3⟩,by simp only [intOf];omega⟩
  ·obtain rfl:i=ds.length:=by omega
   have hnot:¬ (ds.length:Int) < (ds.length:Int):=by omega
   have HD1:Hid (R=.ok q'):=by show _=_;rw [← HRR.out,List.drop_length];rfl
   have HK2:Hid (TnW w0§ W1§ x tb rb mb sb gb wr av q'∧Below w0§ w wr):=⟨HY.out _ _ _ _ HT.out,HBR.out⟩
   clear HRR HT HBR
   go_wp2_with fail
   go_end0
   rw [HD1.out]
   exact⟨rfl,⟨_,_,HK2.out.1⟩,HK2.out.2⟩
end Go.Proofs.YtfbjofnaghjmeaaGreatDoor
