import Derived.Test.YtfbjofnaghjmeaaGreatDoorA35
namespace Go.Proofs.YtfbjofnaghjmeaaGreatDoor
open Go.Proofs.Tryz
set_option maxRecDepth 100000
set_option maxHeartbeats 8000000
open Go Go.RowKit
set_option linter.unusedVariables false
set_option linter.unusedSimpArgs false
theorem Fv {S:Qg}(h:chkE S=none):erN S=0:=by unfold erN;rw [h]
theorem Ug {S:Qg}{p no:Int}(h:chkE S=some (p,no)):erN S=no:=by unfold erN;rw [h]
theorem Vh (S:Qg) (m:ModM) (s:Sx.Sn) (w:yW) (hl:Qr w S) (hz:Q2 S) (hm:ModL w m) (ht:Tab w) (hf:FTab w) (hg:Ety w) :
  Calls zG 31 #[.agg S.vals,.agg m.vals,.agg (Sx.snA s)] w fun e w'=>e=.returned (zI (wrN S m s))∧yD w w':=by
 obtain⟨h3,hb3,hz3⟩:=Ul w S m s
 obtain⟨W3,e3⟩:∃ W,((zA w S.vals 26).alloc (.cells m.vals 29)).alloc (.cells (Sx.snA s) 31)=W:=jV
 have E3:=zH e3
 rw [e3] at h3 hb3 hz3
 have HB:=zH hb3
 have H3:=zH h3
 have HL:Hid (Qr w S∧ModL w m∧Ety w):=⟨hl,hm,hg⟩
 have cT:Calls zG 52 #[.agg S.vals] W3 (OutC W3 (chkE S)):=UI S W3 (hl.on hb3) hz (ht.on hb3) (hf.on hb3)  (hg.on hb3)
 clear h3 hb3 hz3 e3 hl hm hz ht hf hg
 obtain⟨g,eg⟩:∃ g,w§=g:=jV
 have HG:Hid (w§=g):=eg
 rw [eg] at H3
 go_enter func31,ntmps31
 go_upto_region 1 with fail
 rw [E3.out]
 try rw [eg]
 clear E3 eg
 go_wp2_with (refine wpList_load_row rfl 26 (.tmp 3) rfl g rfl 26 S.vals (0,0) _ H3.out.a underlying26 rfl (Jo S) ?_)
 refine cT.mono ?_
 rintro e w1 (⟨hE,rfl,hb⟩ | ⟨p,no,T,v,hE,rfl,hEr,hb⟩)
 ·have HB1:Hid (yD w w1):=Qd HB.out hb
  have H31:Hid (Bx3 w1 S m s g):=H3.out.on hb
  have HER:Hid (erN S=0):=Fv hE
  have cE:=V8 w1
  clear hb cT hE
  go_wp2_with fail
  refine cE.mono ?_
  rintro e w2 ⟨rfl,hb⟩
  have HB2:=zH (Qd HB1.out hb)
  have H32:Hid (Bx3 w2 S m s g):=H31.out.on hb
  have cM:Calls zG 58 #[.agg S.vals,.agg m.vals] w2 fun e w'=>e=.returned (.bool (isMo S m))∧yD w2 w':=QaI S m w2 (HL.out.1.on HB2.out) (HL.out.2.1.on HB2.out)
  obtain⟨B,eB⟩:∃ B,isMo S m=B:=jV
  have EB:Hid (isMo S m=B):=eB
  rw [eB] at cM
  clear hb cE eB
  go_wp2_with (first | (refine wpList_load_row rfl 26 (.tmp 3) rfl g rfl 26 S.vals (0,0) _ H32.out.a underlying26 rfl (Jo S) ?_) | (refine wpList_load_row rfl 29 (.tmp 4) rfl (g+1) rfl 29 m.vals (0,0) _ H32.out.b underlying29 rfl (Jz m) ?_))
  refine cM.mono ?_
  rintro e w4 ⟨rfl,hb⟩
  have HB4:=zH (Qd HB2.out hb)
  have H34:Hid (Bx3 w4 S m s g):=H32.out.on hb
  have cS:Calls zG 59 #[.agg (Sx.snA s)] w4 fun e w'=>e=.returned (zI (Sx.chkN s))∧yD w4 w':=Sx.check_any s w4
  clear hb cM
  cases B with
  | true =>
   have HW:Hid (wrN S m s=Sx.chkN s):=by show _=_;unfold wrN;rw [if_pos HER.out,if_pos EB.out]
   obtain⟨K,eK⟩:∃ K,Sx.chkN s=K:=jV
   rw [eK] at cS HW
   clear eK
   go_wp2_with (refine wpList_load_row rfl 31 (.tmp 5) rfl (g+2) rfl 31 (Sx.snA s) (0,0) _ H34.out.c underlying31 rfl (KL s) ?_)
   refine cS.mono ?_
   rintro e w5 ⟨rfl,hb⟩
   have HB5:=zH (Qd HB4.out hb)
   clear hb cS
   go_wp2
   go_ret
   exact⟨by rw [HW.out];rfl,HB5.out⟩
  | false =>
   have HW:Hid (wrN S m s=171):=by show _=_;unfold wrN;rw [if_pos HER.out,if_neg (by rw [EB.out];decide)]
   go_wp2
   go_ret
   exact⟨by rw [HW.out];rfl,HB4.out⟩
 ·have HB1:Hid (yD w w1):=Qd HB.out hb
  have HNZ:Hid (¬ no=0):=fun h0=>by
   have:=er_0 ((Ug hE).trans h0)
   rw [this] at hE;cases hE
  have HW:Hid (wrN S m s=no):=by show _=_;unfold wrN;rw [Ug hE,if_neg HNZ.out]
  have cE:Calls zG 33 #[.iface T v] w1 fun e w'=>e=.returned (zI no)∧yD w1 w':=Vp hEr (HL.out.2.2.on HB1.out)
  clear hb cT hE hEr
  go_wp2_with fail
  refine cE.mono ?_
  rintro e w2 ⟨rfl,hb⟩
  have HB2:=zH (Qd HB1.out hb)
  have hnz:=HNZ.out
  clear hb cE
  go_wp2
  go_ret
  exact⟨by rw [HW.out];rfl,HB2.out⟩
structure TuR where
 no:Int
 ru:Int
 rf:Bool
 ac:List (Array Value)
 su:Int
 co:Int
 st:Int
 rg:List Int
def Xy (S:Qg) (i:Int):List Qy:=match S.ts[i.toNat]? with
 | some X=>X.rs
 | none=>[]
def Qa7 (m:ModM) (gr:Bool):Except Int (Int × Tm)→TuR
 | .error c=>⟨0,-1,false,[],3,c,m.st,m.rg⟩
 | .ok iq=>if iq.1 = -1 then ⟨0,-1,false,[],1,0,m.st,m.rg⟩ else if iq.2.ac.isEmpty=false∧gr=false then ⟨0,iq.1,true,[],1,0,m.st,m.rg⟩ else ⟨0,iq.1,false,iq.2.ac,iq.2.su,0,iq.2.st,iq.2.rg⟩
def J0 (S:Qg) (m:ModM) (s:Sx.Sn) (gr:Bool):TuR :=
 if wrN S m s=0 then Qa7 m gr (Q0 (cxOf S s) (tmOf m) 0 (Xy S m.st)) else ⟨wrN S m s,0,false,[],0,0,0,[]⟩
def firB (ru:Int) (rf:Bool) (a:Value) (su co:Int):Array Value:=#[zI ru,.bool rf,a,zU su,zI co,zI 0]
def firA (r:TuR) (fa:Option Addr) (fc:Nat):Array Value:=firB r.ru r.rf (.slice fa r.ac.length fc) r.su r.co
def firZ:Array Value:=#[zI 0,.bool false,zO,zU 0,zI 0,zI 0]
def modZ:Array Value:=zw
def modV (st:Int) (a:Option Addr) (n c:Nat):Array Value:=#[zI st,.slice a n c]
theorem J3 (ru:Int) (rf:Bool) (a:Value) (su co:Int):(Tryz.prog.info? 59).map (·.size)=some (firB ru rf a su co).size:=by show _=some 6;kernel_rfl
theorem Hb (ru:Int) (rf:Bool) (a:Option Addr) (n c:Nat) (su co:Int):(firB ru rf (.slice a n c) su co).all (·.oneCell')=true:=by simp [firB,Value.oneCell']
theorem Jf (st:Int) (a:Option Addr) (n c:Nat):(Tryz.prog.info? 29).map (·.size)=some (modV st a n c).size:=by show _=some 2;kernel_rfl
theorem Xs (st:Int) (a:Option Addr) (n c:Nat):(modV st a n c).all (·.oneCell')=true:=by simp [modV,Value.oneCell']
def OutTu (w:yW) (r:TuR) (e:Ending) (w':yW):Prop :=
 ∃ fa fc ka kc,e=.returned (.tuple #[.agg (firA r fa fc),.agg (ModM.mk r.st ka kc r.rg).vals,zI r.no])∧SlAt w' 6 fa fc r.ac∧ModL w' ⟨r.st,ka,kc,r.rg⟩∧yD w w'
theorem JI {P:Program}{fn:Func}{p u z:Tmp}{ty ty2:TypeId}(h:fn.results=#[.cell p ty,.cell u ty2,.tmp z]) (tmps:Array Value) (w:yW) (g g2:Nat) (t t2:TypeId) (cs cs2:Array Value) (fr fr2:Nat × Nat) (d d2:TypeDesc) (v:Value)
  (hp:tmps.getD p undef=zP g) (hg:w.heap[g]? = some (.cells cs t fr))
  (hu:P.underlying ty=some d) (hd:(match d with | .struct _ | .array _ _=>true | _=>false)=true) (hi:(P.info? ty).map (·.size)=some cs.size)
  (hp2:tmps.getD u undef=zP g2) (hg2:w.heap[g2]? = some (.cells cs2 t2 fr2))
  (hu2:P.underlying ty2=some d2) (hd2:(match d2 with | .struct _ | .array _ _=>true | _=>false)=true) (hi2:(P.info? ty2).map (·.size)=some cs2.size) (hv:tmps.getD z undef=v) :
  (results fn tmps).run P w=.ok (.tuple #[.agg cs,.agg cs2,v]) w:=by
 have hp':tmps[p]?.getD undef=zP g:=by simpa using hp
 have hp2':tmps[u]?.getD undef=zP g2:=by simpa using hp2
 have hv':tmps[z]?.getD undef=v:=by simpa using hv
 simp [results,h,hp',hp2',hv',asAddr,run_loadVar_row w g t ty cs fr d hg hu hd hi,run_loadVar_row w g2 t2 ty2 cs2 fr2 d2 hg2 hu2 hd2 hi2]
theorem Uu {x c:Int}(h:wn x=.error c):c≠0:=by unfold wn at h;split at h <;> cases h;decide
theorem Qf3 {o a b c:Int}(h:op2 o a b=.error c):c≠0:=by
 unfold op2 at h
 by_cases e:o=4
 ·rw [if_pos e] at h
  cases h
 rw [if_neg e] at h
 clear e
 by_cases e:o=5
 ·rw [if_pos e] at h
  cases h
 rw [if_neg e] at h
 clear e
 by_cases e:o=6
 ·rw [if_pos e] at h
  exact Uu h
 rw [if_neg e] at h
 clear e
 by_cases e:o=7
 ·rw [if_pos e] at h
  exact Uu h
 rw [if_neg e] at h
 clear e
 by_cases e:o=8
 ·rw [if_pos e] at h
  exact Uu h
 rw [if_neg e] at h
 clear e
 by_cases e:o=9
 ·rw [if_pos e] at h
  by_cases e2:b=0
  ·rw [if_pos e2] at h;cases h;decide
  ·rw [if_neg e2] at h;exact Uu h
 rw [if_neg e] at h
 clear e
 by_cases e:o=10
 ·rw [if_pos e] at h
  by_cases e2:b=0
  ·rw [if_pos e2] at h;cases h;decide
  ·rw [if_neg e2] at h;cases h
 rw [if_neg e] at h
 clear e
 by_cases e:o=11
 ·rw [if_pos e] at h
  cases h
 rw [if_neg e] at h
 clear e
 by_cases e:o=12
 ·rw [if_pos e] at h
  cases h
 rw [if_neg e] at h
 clear e
 by_cases e:o=13
 ·rw [if_pos e] at h
  cases h
 rw [if_neg e] at h
 clear e
 by_cases e:o=14
 ·rw [if_pos e] at h
  cases h
 rw [if_neg e] at h
 clear e
 by_cases e:o=15
 ·rw [if_pos e] at h
  cases h
 rw [if_neg e] at h
 clear e
 cases h
theorem Qf4 {o a c:Int}(h:op1 o a=.error c):c≠0:=by
 unfold op1 at h
 by_cases e:o=1
 ·rw [if_pos e] at h;exact Uu h
 rw [if_neg e] at h
 by_cases e2:o=2
 ·rw [if_pos e2] at h;cases h
 rw [if_neg e2] at h
 by_cases e3:a < 0
 ·rw [if_pos e3] at h;exact Uu h
 ·rw [if_neg e3] at h;cases h
theorem QhX {o:Int}{r0 r1:Except Int Int}{c:Int}(h0:∀ c,r0=.error c→c≠0) (h1:∀ c,r1=.error c→c≠0) (h:opR o r0 r1=.error c):c≠0:=by
 unfold opR at h
 cases r0 with
 | error e=>cases h;exact h0 _ rfl
 | ok a =>
  simp only at h
  by_cases e1:o≤3
  ·rw [if_pos e1] at h;exact Qf4 h
  rw [if_neg e1] at h
  by_cases e2:o=17∧a=0
  ·rw [if_pos e2] at h;cases h
  rw [if_neg e2] at h
  by_cases e3:o=18∧a=1
  ·rw [if_pos e3] at h;cases h
  rw [if_neg e3] at h
  cases r1 with
  | error e=>cases h;exact h1 _ rfl
  | ok b =>
   simp only at h
   by_cases e4:o=17∨o=18
   ·rw [if_pos e4] at h;cases h
   ·rw [if_neg e4] at h;exact Qf3 h
theorem QeK {l:List (Except Int Int)}(h:∀ r ∈ l,∀ c,r=.error c→c≠0) (i:Nat):∀ c,l.getD i (.ok 0)=.error c→c≠0:=fun c hc=>by
 rw [List.getD_eq_getElem?_getD] at hc
 cases e:l[i]? with
 | none=>rw [e] at hc;cases hc
 | some r=>rw [e] at hc;exact h r (List.mem_of_getElem? e) c hc
theorem Ki {s:Sx.Sn}{G:yB→Option Int}:∀ (m:Nd) (c:Int),valR s G m=.error c→c≠0:=by
 refine Nd.ind fun h a k ks ih c hc=>?_
 have hks:∀ (l:List Nd),(∀ k ∈ l,∀ c,valR s G k=.error c→c≠0)→∀ r ∈ Jq s G l,∀ c,r=.error c→c≠0:=by
  intro l
  induction l with
  | nil=>intro _ r hr;cases hr
  | cons y l ihl =>
   intro hk r hr
   rcases List.mem_cons.1 hr with rfl | hr
   ·exact hk y (List.mem_cons_self ..)
   ·exact ihl (fun k hm=>hk k (List.mem_cons_of_mem _ hm)) r hr
 have H:=QeK (hks ks ih)
 unfold valR cmb at hc
 split at hc
 ·cases hc
 split at hc
 ·cases hc
 split at hc
 ·unfold fldR at hc
  split at hc
  ·cases hc;decide
  ·cases hc
 split at hc
 ·cases hc
 split at hc
 ·unfold cndR at hc
  cases e:(Jq s G ks).getD 0 (.ok 0) with
  | error z=>rw [e] at hc;cases hc;exact H 0 _ e
  | ok z =>
   rw [e] at hc
   simp only at hc
   split at hc
   ·exact H 1 _ hc
   ·exact H 2 _ hc
 split at hc
 ·exact H 0 _ hc
 ·exact QhX (H 0) (H 1) hc
theorem do_err {x:Cx}{q:Tm}{d:DoM}{c:Int}(h:doN x q d=.error c):c≠0:=by
 unfold doN at h
 split at h
 ·cases e:subR x.S x.s (gOf x.P q.rg) d with
  | ok y=>rw [e] at h;cases h
  | error z =>
   rw [e] at h
   cases h
   unfold subR at e
   cases e1:valR x.s (gOf x.P q.rg) d.sd with
   | error y=>rw [e1] at e;cases e;exact Ki _ _ e1
   | ok y =>
    simp only [e1] at e
    cases e2:valR x.s (gOf x.P q.rg) d.qt with
    | error y=>simp only [e2] at e;cases e;exact Ki _ _ e2
    | ok y2 =>
     simp only [e2] at e
     split at e
     ·cases e
     ·cases e3:valR x.s (gOf x.P q.rg) d.pr with
      | error y=>simp only [e3] at e;cases e;exact Ki _ _ e3
      | ok y3=>simp only [e3] at e;cases e
 split at h
 ·cases e:amdR x.S x.s (gOf x.P q.rg) d with
  | ok y=>rw [e] at h;cases h
  | error z =>
   rw [e] at h
   cases h
   unfold amdR at e
   cases e2:valR x.s (gOf x.P q.rg) d.qt with
   | error y=>simp only [e2] at e;cases e;exact Ki _ _ e2
   | ok y2 =>
    simp only [e2] at e
    cases e3:valR x.s (gOf x.P q.rg) d.pr with
    | error y=>simp only [e3] at e;cases e;exact Ki _ _ e3
    | ok y3=>simp only [e3] at e;cases e
 split at h
 ·cases h
 split at h
 ·cases e:valR x.s (gOf x.P q.rg) d.vl with
  | error z=>rw [e] at h;cases h;exact Ki _ _ e
  | ok v=>rw [e] at h;cases h
 split at h
 ·cases h
 ·cases h
theorem QbF {x:Cx}:∀ (ds:List DoM) (q:Tm) (c:Int),dosN x q ds=.error c→c≠0
 | [],q,c,h=>by cases h
 | d :: ds,q,c,h=>by
  cases e:doN x q d with
  | error z=>rw [Vq e] at h;cases h;exact do_err e
  | ok q'=>rw [Po e] at h;exact QbF ds q' c h
theorem Fs {x:Cx}{q:Tm}:∀ (rs:List Qy) (i:Nat) (c:Int),Q0 x q i rs=.error c→c≠0
 | [],i,c,h=>by cases h
 | r :: rs,i,c,h=>by
  unfold Q0 at h
  cases e:valR x.s (gOf x.P q.rg) r.m with
  | error z=>simp only [e] at h;cases h;exact Ki _ _ e
  | ok v =>
   simp only [e] at h
   split at h
   ·cases e2:dosN x q r.ds with
    | error z=>simp only [e2] at h;cases h;exact QbF _ _ _ e2
    | ok q'=>simp only [e2] at h;cases h
   ·exact Fs rs _ c h
set_option maxHeartbeats 16000000
theorem DoOk.toK {x:Cx}{d:DoM}(h:DoOk x d) (K:List (Nat × Obj)):DoOk { x with K:=K } d:=⟨h.1,h.2,h.3,h.4,h.5,h.6,h.7,h.8⟩
theorem RlOk.toK {x:Cx}{r:Qy}(h:RlOk x r) (K:List (Nat × Obj)):RlOk { x with K:=K } r:=⟨h.1,fun d hd=>(h.2.1 d hd).toK K,h.2.2⟩
theorem QbC (x:Cx) (K:List (Nat × Obj)) (q:Tm):∀ (rs:List Qy) (i:Nat),Q0 { x with K:=K } q i rs=Q0 x q i rs
 | [],i=>rfl
 | r :: rs,i=>by
  unfold Q0
  rw [QaQ,QbC x K q rs (i+1)]
theorem doN_rg {x:Cx}{q q':Tm}{d:DoM}(h:doN x q d=.ok q'):q'.rg.length=q.rg.length:=by
 unfold doN at h
 split at h
 ·split at h
  ·cases h
  ·cases h;rfl
 split at h
 ·split at h
  ·cases h
  ·cases h;rfl
 split at h
 ·cases h;rfl
 split at h
 ·split at h
  ·cases h
  ·cases h;simp
 split at h
 ·cases h;rfl
 ·cases h;rfl
theorem doN_st {x:Cx}{q q':Tm}{d:DoM}{N:Int}(hT:∀ y (i:Nat),x.T y=some i→(i:Int) < N) (h0:0≤q.st∧q.st < N) (h:doN x q d=.ok q'):0≤q'.st∧q'.st < N:=by
 unfold doN at h
 split at h
 ·split at h
  ·cases h
  ·cases h;exact h0
 split at h
 ·split at h
  ·cases h
  ·cases h;exact h0
 split at h
 ·cases h;exact h0
 split at h
 ·split at h
  ·cases h
  ·cases h;exact h0
 split at h
 ·cases h
  cases e:x.T d.x with
  | none=>simp only [Option.getD_none];omega
  | some i=>have:=hT _ _ e;simp only [Option.getD_some];omega
 ·cases h;exact h0
theorem V9 {x:Cx}{N:Int}(hT:∀ y (i:Nat),x.T y=some i→(i:Int) < N):∀ (ds:List DoM) (q q':Tm),0≤q.st∧q.st < N→dosN x q ds=.ok q'→(0≤q'.st∧q'.st < N)∧q'.rg.length=q.rg.length
 | [],q,q',h0,h=>by cases h;exact⟨h0,rfl⟩
 | d :: ds,q,q',h0,h=>by
  cases e:doN x q d with
  | error c=>rw [Vq e] at h;cases h
  | ok q1 =>
   rw [Po e] at h
   have h1:=V9 hT ds q1 q' (doN_st hT h0 e) h
   exact⟨h1.1,h1.2.trans (doN_rg e)⟩
theorem Vn {x:Cx}{q:Tm}{N:Int}(hT:∀ y (i:Nat),x.T y=some i→(i:Int) < N) (h0:0≤q.st∧q.st < N):∀ (rs:List Qy) (i:Nat) (iq:Int × Tm),Q0 x q i rs=.ok iq→(0≤iq.2.st∧iq.2.st < N)∧iq.2.rg.length=q.rg.length
 | [],i,iq,h=>by cases h;exact⟨h0,rfl⟩
 | r :: rs,i,iq,h=>by
  unfold Q0 at h
  cases e:valR x.s (gOf x.P q.rg) r.m with
  | error z=>simp only [e] at h;cases h
  | ok v =>
   simp only [e] at h
   split at h
   ·cases e2:dosN x q r.ds with
    | error z=>simp only [e2] at h;cases h
    | ok q'=>simp only [e2] at h;cases h;exact V9 hT _ _ _ h0 e2
   ·exact Vn hT h0 rs _ iq h
theorem cxT_lt {S:Qg}{s:Sx.Sn}:∀ y (i:Nat),(cxOf S s).T y=some i→(i:Int) < (S.ts.length:Int):=fun y i h=>by
 have:=Hs h
 rw [List.length_map] at this
 omega
theorem PM {w w':yW}{n:Nat}{a:Option Addr}{c:Nat}{vs:List (Array Value)}(h:SlAt w n a c vs) (hb:∀ b o,a=some b¢o→w'.heap[b]? = w.heap[b]?):SlAt w' n a c vs:=⟨h.1,h.2.1,fun i hi=>by
 obtain⟨b,o,ea,hat⟩:=h.2.2 i hi
 refine⟨b,o,ea,fun j hj=>?_⟩
 rw [← hat j hj]
 unfold World.cell?
 simp only [hb b o ea]⟩
structure Bx5 (w:yW) (S:Qg) (m:ModM) (s:Sx.Sn) (g:Nat) (F K:Array Value):Prop where
 b:Bx3 w S m s g
 f:w.heap[g+3]? = (zC F 59)
 k:w.heap[g+4]? = (zC K 29)
theorem Bx5.on {w w':yW}{S:Qg}{m:ModM}{s:Sx.Sn}{g:Nat}{F K:Array Value}(h:Bx5 w S m s g F K) (k:yD w w'):Bx5 w' S m s g F K:=⟨h.b.on k,heapOf k h.f,heapOf k h.k⟩
theorem QgP (w:yW) (S:Qg) (m:ModM) (s:Sx.Sn) (F K:Array Value):Bx5 (((((zA w S.vals 26).alloc (.cells m.vals 29)).alloc (.cells (Sx.snA s) 31)).alloc (.cells F 59)).alloc (.cells K 29)) S m s w§ F K ∧
  yD w (((((zA w S.vals 26).alloc (.cells m.vals 29)).alloc (.cells (Sx.snA s) 31)).alloc (.cells F 59)).alloc (.cells K 29))∧(((((zA w S.vals 26).alloc (.cells m.vals 29)).alloc (.cells (Sx.snA s) 31)).alloc (.cells F 59)).alloc (.cells K 29))§=w§+5:=by
 obtain⟨h3,hb3,hz3⟩:=Ul w S m s
 obtain⟨W,eW⟩:∃ W,((zA w S.vals 26).alloc (.cells m.vals 29)).alloc (.cells (Sx.snA s) 31)=W:=jV
 rw [eW] at h3 hb3 hz3 ⊢
 have b4:=Qb W (.cells F 59)
 have b5:=Qb (zA W F 59) (.cells K 29)
 have n4:=Qc W (.cells F 59)
 have n5:=Qc (zA W F 59) (.cells K 29)
 rw [hz3] at n4
 rw [Qe,hz3] at n5
 exact⟨⟨(h3.on b4).on b5,heapOf b5 n4,n5⟩,Qd hb3 (Qd b4 b5),by rw [Qe,Qe,hz3]⟩
theorem Bx5.fin {w:yW}{S:Qg}{m:ModM}{s:Sx.Sn}{g:Nat}{F K F' K':Array Value}(h:Bx5 w S m s g F K) {w0:yW}(hB:yD w0 w) (hg:w0§≤g) :
  ((w.setRow (g+3) F').setRow (g+4) K').heap[g+3]? = (zC F' 59)∧((w.setRow (g+3) F').setRow (g+4) K').heap[g+4]? = (zC K' 29)∧yD w0 ((w.setRow (g+3) F').setRow (g+4) K')∧(∀ b,b≠g+3→b≠g+4→((w.setRow (g+3) F').setRow (g+4) K').heap[b]? = w.heap[b]?) :=
 ⟨(setRow_other _ _ _ _ zY).trans (setRow_heap _ _ _ _ _ _ h.f),setRow_heap _ _ _ _ _ _ ((setRow_other _ _ _ _ zY).trans h.k),Qn (Qn hB zY _) zY _,fun b h1 h2=>(setRow_other _ _ _ _ zY).trans (setRow_other _ _ _ _ zY)⟩
theorem Xd (w:yW) (n:Nat):SlAt w n none 0 []:=⟨by decide,by decide,fun i hi=>absurd hi (by simp)⟩
theorem Fb (w:yW):ModL w ⟨0,none,0,[]⟩:=⟨Xd w 1,fun v hv=>absurd hv (by simp),by show I64 0;unfold I64;omega⟩
theorem KM {w:yW}{b:Nat}{rg:List Int}(h:w.heap[b]? = (zC (QX rg) 2)) (hn:rg.length≤65536):SlAt w 1 (some b¢0) rg.length (rg.map iA):=by
 refine⟨by rw [List.length_map];omega,by omega,fun i hi=>⟨b,0,rfl,fun j hj=>?_⟩⟩
 rw [List.length_map] at hi
 obtain rfl:j=0:=by omega
 rw [List.getElem_map]
 have hc:w.cell? ⟨b,0+i * 1+0,none⟩=(QX rg)[0+i * 1+0]?:=by show World.cell? _ _=_;unfold World.cell?;simp only;rw [h];rfl
 rw [hc,show 0+i * 1+0=i by omega,Ud (List.getElem?_eq_getElem hi)]
 rfl
theorem PC (S:Qg) (m:ModM) (s:Sx.Sn) (gr:Bool) (w:yW) (hl:Qr w S) (hz:Q2 S) (hm:ModL w m) (hn:m.rg.length≤65536) (hi:∀ f,I64 (Sx.getN s f)) (ht:Tab w) (hf:FTab w) (hg:Ety w) :
  Calls zG 20 #[.agg S.vals,.agg m.vals,.agg (Sx.snA s),.bool gr] w (OutTu w (J0 S m s gr)):=by
 obtain⟨h5,hb5,hz5⟩:=QgP w S m s firZ modZ
 obtain⟨W,eW⟩:∃ W,((((zA w S.vals 26).alloc (.cells m.vals 29)).alloc (.cells (Sx.snA s) 31)).alloc (.cells firZ 59)).alloc (.cells modZ 29)=W:=jV
 have EW:=zH eW
 rw [eW] at h5 hb5 hz5
 have HB:=zH hb5
 have H5:=zH h5
 have HL:Hid (Qr w S∧ModL w m∧m.rg.length≤65536∧∀ f,I64 (Sx.getN s f)):=⟨hl,hm,hn,hi⟩
 have cW:Calls zG 31 #[.agg S.vals,.agg m.vals,.agg (Sx.snA s)] W fun e w'=>e=.returned (zI (wrN S m s))∧yD W w':=Vh S m s W (hl.on hb5) hz (hm.on hb5) (ht.on hb5) (hf.on hb5) (hg.on hb5)
 obtain⟨g,eg⟩:∃ g,w§=g:=jV
 have HG:Hid (w§=g):=eg
 rw [eg] at H5
 clear h5 hb5 hz5 eW hl hm hn hi ht hf hg hz
 obtain⟨E,eE⟩:∃ E,wrN S m s=E:=jV
 have EE:Hid (wrN S m s=E):=eE
 rw [eE] at cW
 clear eE
 go_enter func20,ntmps20
 go_upto_region 1 with fail
 rw [show ((((zA w S.vals 26).alloc (.cells m.vals 29)).alloc (.cells (Sx.snA s) 31)).alloc (.cells #[zI 0,.bool false,zO,zU 0,zI 0,zI 0] 59)).alloc (.cells zw 29)=W from EW.out]
 try rw [eg]
 clear EW eg
 go_wp2_with (first | (refine wpList_load_row rfl 26 (.tmp 4) rfl g rfl 26 S.vals (0,0) _ H5.out.b.a underlying26 rfl (Jo S) ?_) | (refine wpList_load_row rfl 29 (.tmp 5) rfl (g+1) rfl 29 m.vals (0,0) _ H5.out.b.b underlying29 rfl (Jz m) ?_) | (refine wpList_load_row rfl 31 (.tmp 6) rfl (g+2) rfl 31 (Sx.snA s) (0,0) _ H5.out.b.c underlying31 rfl (KL s) ?_))
 refine cW.mono ?_
 rintro e w1 ⟨rfl,hb⟩
 have HB1:=zH (Qd HB.out hb)
 have H51:=zH (H5.out.on hb)
 clear hb cW
 by_cases h0:E=0
 rotate_left
 ·have HR:Hid (J0 S m s gr=⟨E,0,false,[],0,0,0,[]⟩):=by show _=_;unfold J0;rw [EE.out,if_neg h0]
  go_wp2_with (first | (refine wpList_store_row rfl 59 (.tmp 8) (.tmp 21) rfl (g+3) firZ rfl rfl 59 firZ H51.out.f (J3 ..) rfl (Hb ..) ?_) | (refine wpList_store_row rfl 29 (.tmp 9) (.tmp 22) rfl (g+4) modZ rfl rfl 29 modZ ((setRow_other _ _ _ _ zY).trans H51.out.k) (Jf ..) rfl (Xs ..) ?_))
  have HF:=Bx5.fin (F':=firZ) (K':=modZ) H51.out HB1.out (Nat.le_of_eq HG.out)
  refine bodyPost_ret (JI rfl _ _ (g+3) (g+4) 59 29 firZ modZ (0,0) (0,0) _ _ _ rfl HF.1 underlying59 rfl (J3 ..) rfl HF.2.1 underlying29 rfl (Jf ..) rfl) rfl ?_
  rw [HR.out]
  exact⟨none,0,none,0,rfl,Xd _ _,Fb _,HF.2.2.1⟩
 subst h0
 obtain⟨hE,hM⟩:erN S=0∧isMo S m=true:=by
  have h1:=EE.out
  unfold wrN at h1
  by_cases h2:erN S=0
  ·rw [if_pos h2] at h1
   cases h3:isMo S m with
   | true=>exact⟨h2,rfl⟩
   | false=>rw [h3] at h1;simp at h1
  ·rw [if_neg h2] at h1;exact absurd h1 h2
 have hC:=er_0 hE
 have hP:=XG hC
 unfold isMo at hM
 simp only [Bool.and_eq_true,decide_eq_true_eq] at hM
 obtain⟨hm1,hm2,hm3,_⟩:=hM
 obtain⟨si,esi⟩:∃ si:Nat,m.st=(si:Int):=⟨m.st.toNat,(Int.toNat_of_nonneg hm1).symm⟩
 have hsi:si < S.ts.length:=by omega
 obtain⟨X,eX⟩:∃ X,S.ts[si]? = some X:=⟨_,List.getElem?_eq_getElem hsi⟩
 have hru:Xy S m.st=X.rs:=by unfold Xy;rw [esi,Int.toNat_natCast,eX]
 have hXm:X ∈ S.ts:=List.mem_of_getElem? eX
 have HN12:Hid (S.ts.length≤1000):=by
  have h1:=hP.1
  unfold QR at h1
  have a2:=(QbI (fs_0 (fs_0 (fs_0 (fs_0 (fs_0 (fs_0 h1).2).2).2).2).2).1).2
  show _≤_
  omega
 have HRN:Hid (J0 S m s gr=Qa7 m gr (Q0 (cxOf S s) (tmOf m) 0 X.rs)):=by show _=_;unfold J0;rw [EE.out,if_pos rfl,hru]
 have HX:Hid (m.st=(si:Int)∧S.ts[si]? = some X∧∀ r ∈ X.rs,RlOk (cxOf S s) r):=⟨esi,eX,QfV HL.out.1 hC X hXm⟩
 have HL1:=HL.out.1.on HB1.out
 have cB:Calls zG 45 #[.agg S.vals,.agg m.vals,.agg (Sx.snA s)] w1 fun e w'=>∃ tb rb mb sb gb,e=.returned (zP tb)∧TnW w1§ w'§ (cxOf S s) tb rb mb sb gb w' (zO) (tmOf m)∧yD w1 w':=QcN S m s w1 HL1 (Qh7 HL.out.1 hP.1) (HL.out.2.1.on HB1.out) HL.out.2.2.1 hm3 HL.out.2.2.2
 have HL1:Hid (Qr w1 S):=HL1
 clear hE hC hP hm1 hm2 hm3 esi hsi eX hru hXm EE
 go_wp2_with (first | (refine wpList_load_row rfl 26 (.tmp 4) rfl g rfl 26 S.vals (0,0) _ H51.out.b.a underlying26 rfl (Jo S) ?_) | (refine wpList_load_row rfl 29 (.tmp 5) rfl (g+1) rfl 29 m.vals (0,0) _ H51.out.b.b underlying29 rfl (Jz m) ?_) | (refine wpList_load_row rfl 31 (.tmp 6) rfl (g+2) rfl 31 (Sx.snA s) (0,0) _ H51.out.b.c underlying31 rfl (KL s) ?_))
 refine cB.mono ?_
 rintro e w2 ⟨tb,rb,mb,sb,gb,rfl,hT,hb⟩
 have HB2:=zH (Qd HB1.out hb)
 have HB12:=zH hb
 have H52:=zH (H51.out.on hb)
 have HT:=zH hT
 have n3:=Qc w2 (.cells #[zP tb] 109)
 have b3:=Qb w2 (.cells #[zP tb] 109)
 obtain⟨W3,e3⟩:∃ W,w2.alloc (.cells #[zP tb] 109)=W:=jV
 have E3:=zH e3
 have hs3:W3§=w2§+1:=by rw [← e3,Qe]
 rw [e3] at n3 b3
 obtain⟨T,eT⟩:∃ T,w2§=T:=jV
 have hT3:=hT.on b3
 have ht3:T≠tb∧T≠rb:=by have:=hT.th;have:=hT.rh;omega
 have HT3:Hid (TnW w1§ W3§ { cxOf S s with K:=[(T,Obj.cells #[zP tb] 109 (0,0))] } tb rb mb sb gb W3 (zO) (tmOf m)) :=
  hT3.more rfl [(T,Obj.cells #[zP tb] 109 (0,0))] (fun p hp=>by
   obtain rfl:=List.mem_singleton.1 hp
   exact⟨by rw [← eT];exact n3,ht3⟩)
 have HB3:=zH (Qd HB2.out b3)
 have HB13:=zH (Qd HB12.out b3)
 have H53:=zH (H52.out.on b3)
 have HS3:Hid (W3§=T+1∧W3.heap[T]? = (zC #[zP tb] 109)):=⟨by omega,by rw [← eT];exact n3⟩
 have ET:Hid (w2§=T):=eT
 have cR:Calls zG 46 #[.func (.func 47) #[] #[zP T,zP g,.pointer (some ⟨g+1,0,none⟩)]] W3 (OutG w1§ { cxOf S s with K:=[(T,Obj.cells #[zP tb] 109 (0,0))] } tb rb mb sb gb W3 (Q0 (cxOf S s) (tmOf m) 0 X.rs)):=by
  refine Qb9 T¢0 g¢0 ⟨g+1,0,none⟩ HB13.out.size (fun k hk=>by obtain rfl:=List.mem_singleton.1 hk;show T < _;rw [HS3.out.1];omega) ?_
  have b4:=Qb W3 (.cells #[zI 0] 41)
  have n4:=Qc W3 (.cells #[zI 0] 41)
  have h4:=(HT3.out.on b4).more rfl [(W3§,Obj.cells #[zI 0] 41 (0,0))] (fun p hp=>by
   obtain rfl:=List.mem_singleton.1 hp
   have q1:=HT3.out.th
   have q2:=HT3.out.rh
   exact⟨n4,by show W3§≠tb;omega,by show W3§≠rb;omega⟩)
  rw [← QbC (cxOf S s) ([(W3§,Obj.cells #[zI 0] 41 (0,0))] ++ [(T,Obj.cells #[zP tb] 109 (0,0))]) (tmOf m) X.rs 0]
  exact QbV S m T g (g+1) si X h4 rfl (Qd HB13.out b4) HL1.out (by simp) H51.out.b.a H51.out.b.b HX.out.1 HX.out.2.1 (fun r hr=>(HX.out.2.2 r hr).toK _)
 obtain⟨r,er⟩:∃ r,Q0 (cxOf S s) (tmOf m) 0 X.rs=r:=jV
 have ER:=zH er
 rw [er] at cR HRN
 have HTG:Hid (g+4 < T∧g+4 < w1§):=⟨by have:=(zJ H52.out.k).1;omega,(zJ H51.out.k).1⟩
 have HKP:Hid (∀ iq,Q0 (cxOf S s) (tmOf m) 0 X.rs=.ok iq→I64 iq.2.st∧iq.2.rg.length≤65536):=fun iq hq=>by
  have hs:=(List.getElem?_eq_some_iff.1 HX.out.2.1).1
  have h1:=Vn (N:=(S.ts.length:Int)) cxT_lt (q:=tmOf m) (by show 0≤m.st∧m.st < _;rw [HX.out.1];omega) X.rs 0 iq hq
  have h2:(tmOf m).rg.length≤65536:=HL.out.2.2.1
  have h3:=HN12.out
  exact⟨by unfold I64;omega,by omega⟩
 clear hT hb n3 b3 e3 hs3 eT hT3 ht3 cB er
 have hmf:∀ (fn:Fn) (first cap:Array Value) (w:yW),(Instr.makeFunc fn first cap).run zG w=.ok (.func fn first cap) w:=fun _ _ _ _=>rfl
 go_upto_region 5 with fail
 rw [E3.out,ET.out]
 clear E3 ET
 rcases r with c | ⟨i,q2⟩
 ·replace cR:Calls zG 46 #[.func (.func 47) #[] #[zP T,zP g,.pointer (some ⟨g+1,0,none⟩)]] W3 (fun e w'=>e=.returned (.tuple #[zI 0,zI c])∧Below w1§ W3 w'):=cR
  have HCN:Hid (¬ c=0):=Fs X.rs 0 c ER.out
  go_wp2_with fail
  refine cR.mono ?_
  rintro e w4 ⟨rfl,hb⟩
  have HB4:Hid (yD w w4∧yD w1 w4):=⟨HB1.out.trans ((HB13.out.trans hb).mono HB1.out.size),HB13.out.trans hb⟩
  have H54:=zH (H51.out.on HB4.out.2)
  have cC:Calls zG 49 #[.agg m.vals] w4 fun e w'=>∃ b,e=.returned (.agg #[zI m.st,.slice (some b¢0) m.rg.length m.rg.length])∧w4§≤b∧w'.heap[b]? = (zC (QX m.rg) 2)∧yD w4 w':=KZ m w4 (HL.out.2.1.on HB4.out.1) HL.out.2.2.1
  have hcn:=HCN.out
  have HR:=zH HRN.out
  clear hb cR
  go_wp2_with (first | (refine wpList_load_row rfl 29 (.tmp 5) rfl (g+1) rfl 29 m.vals (0,0) _ H54.out.b.b underlying29 rfl (Jz m) ?_))
  refine cC.mono ?_
  rintro e w5 ⟨b,rfl,hb1,hb2,hb⟩
  have HB5:=zH (Qd HB4.out.1 hb)
  have H55:=zH (H54.out.on hb)
  have HM:Hid (g+4 < b∧w5.heap[b]? = (zC (QX m.rg) 2)):=⟨by have:=(zJ H54.out.k).1;omega,hb2⟩
  clear hb hb1 hb2 cC
  go_wp2_with (first | (refine wpList_store_row rfl 59 (.tmp 8) (.tmp 37) rfl (g+3) (firB (-1) false (zO) (3) (c)) rfl rfl 59 firZ H55.out.f (J3 ..) rfl (Hb ..) ?_) | (refine wpList_store_row rfl 29 (.tmp 9) (.tmp 39) rfl (g+4) (modV m.st (some b¢0) m.rg.length m.rg.length) rfl rfl 29 modZ ((setRow_other _ _ _ _ zY).trans H55.out.k) (Jf ..) rfl (Xs ..) ?_))
  have HF:=Bx5.fin (F':=(firB (-1) false (zO) (3) (c))) (K':=(modV m.st (some b¢0) m.rg.length m.rg.length)) H55.out HB5.out (Nat.le_of_eq HG.out)
  refine bodyPost_ret (JI rfl _ _ (g+3) (g+4) 59 29 (firB (-1) false (zO) (3) (c)) (modV m.st (some b¢0) m.rg.length m.rg.length) (0,0) (0,0) _ _ _ rfl HF.1 underlying59 rfl (J3 ..) rfl HF.2.1 underlying29 rfl (Jf ..) rfl) rfl ?_
  rw [HR.out]
  exact⟨none,0,_,_,rfl,Xd _ _,⟨KM ((HF.2.2.2 b (by have:=HM.out.1;omega) (by have:=HM.out.1;omega)).trans HM.out.2) HL.out.2.2.1,HL.out.2.1.2⟩,HF.2.2.1⟩
 ·replace cR:Calls zG 46 #[.func (.func 47) #[] #[zP T,zP g,.pointer (some ⟨g+1,0,none⟩)]] W3 (fun e w'=>e=.returned (.tuple #[zI i,zI 0])∧(∃ h1 av',TnW w1§ h1 { cxOf S s with K:=[(T,Obj.cells #[zP tb] 109 (0,0))] } tb rb mb sb gb w' av' q2)∧Below w1§ W3 w'):=cR
  go_wp2_with fail
  refine cR.mono ?_
  rintro e w4 ⟨rfl,⟨h1,av,hT⟩,hb⟩
  have HB4:Hid (yD w w4∧yD w1 w4):=⟨HB1.out.trans ((HB13.out.trans hb).mono HB1.out.size),HB13.out.trans hb⟩
  have H54:=zH (H51.out.on HB4.out.2)
  have HT4:=zH hT
  clear hb cR hT
  by_cases h2:i = -1
  ·subst h2
   have cC:Calls zG 49 #[.agg m.vals] w4 fun e w'=>∃ b,e=.returned (.agg #[zI m.st,.slice (some b¢0) m.rg.length m.rg.length])∧w4§≤b∧w'.heap[b]? = (zC (QX m.rg) 2)∧yD w4 w':=KZ m w4 (HL.out.2.1.on HB4.out.1) HL.out.2.2.1
   have HR:=zH HRN.out
   go_wp2_with (first | (refine wpList_load_row rfl 29 (.tmp 5) rfl (g+1) rfl 29 m.vals (0,0) _ H54.out.b.b underlying29 rfl (Jz m) ?_))
   refine cC.mono ?_
   rintro e w5 ⟨b,rfl,hb1,hb2,hb⟩
   have HB5:=zH (Qd HB4.out.1 hb)
   have H55:=zH (H54.out.on hb)
   have HM:Hid (g+4 < b∧w5.heap[b]? = (zC (QX m.rg) 2)):=⟨by have:=(zJ H54.out.k).1;omega,hb2⟩
   clear hb hb1 hb2 cC
   go_wp2_with (first | (refine wpList_store_row rfl 59 (.tmp 8) (.tmp 43) rfl (g+3) (firB (-1) false (zO) (1) (0)) rfl rfl 59 firZ H55.out.f (J3 ..) rfl (Hb ..) ?_) | (refine wpList_store_row rfl 29 (.tmp 9) (.tmp 45) rfl (g+4) (modV m.st (some b¢0) m.rg.length m.rg.length) rfl rfl 29 modZ ((setRow_other _ _ _ _ zY).trans H55.out.k) (Jf ..) rfl (Xs ..) ?_))
   have HF:=Bx5.fin (F':=(firB (-1) false (zO) (1) (0))) (K':=(modV m.st (some b¢0) m.rg.length m.rg.length)) H55.out HB5.out (Nat.le_of_eq HG.out)
   refine bodyPost_ret (JI rfl _ _ (g+3) (g+4) 59 29 (firB (-1) false (zO) (1) (0)) (modV m.st (some b¢0) m.rg.length m.rg.length) (0,0) (0,0) _ _ _ rfl HF.1 underlying59 rfl (J3 ..) rfl HF.2.1 underlying29 rfl (Jf ..) rfl) rfl ?_
   rw [HR.out]
   exact⟨none,0,_,_,rfl,Xd _ _,⟨KM ((HF.2.2.2 b (by have:=HM.out.1;omega) (by have:=HM.out.1;omega)).trans HM.out.2) HL.out.2.2.1,HL.out.2.1.2⟩,HF.2.2.1⟩
  obtain⟨fa,fc,eav,hsl,hsb⟩:=HT4.out.ra.sl zY
  have HSB:Hid (∀ b o,fa=some b¢o→g+4 < b):=fun b o e=>by
   have h1:=hsb b o e
   rw [KI HT4.out.hw] at h1
   have h2:=HT4.out.th
   have h3:=HT4.out.bt
   have h4:=HTG.out.2
   omega
  clear hsb
  have HSL:=zH hsl
  subst eav
  clear hsl
  have hT4:w4.heap[T]? = (zC #[zP tb] 109):=(HT4.out.kp _ (List.mem_singleton.2 rfl)).1
  have z0:zQ w4 T¢0 (zP tb):=Qa hT4 0
  have z4:zQ w4 tb¢11 (.slice fa q2.ac.length fc):=Qa HT4.out.t 11
  have HTT:=zH hT4
  clear hT4
  by_cases h3:q2.ac.isEmpty=false∧gr=false
  ·obtain⟨h31,rfl⟩:=h3
   have h4:(0:Int) < (q2.ac.length:Int):=by cases e:q2.ac with | nil=>rw [e] at h31;cases h31 | cons y l=>simp only [List.length_cons];omega
   have h4':0 < q2.ac.length:=by omega
   have cC:Calls zG 49 #[.agg m.vals] w4 fun e w'=>∃ b,e=.returned (.agg #[zI m.st,.slice (some b¢0) m.rg.length m.rg.length])∧w4§≤b∧w'.heap[b]? = (zC (QX m.rg) 2)∧yD w4 w':=KZ m w4 (HL.out.2.1.on HB4.out.1) HL.out.2.2.1
   have HR:Hid (J0 S m s false=⟨0,i,true,[],1,0,m.st,m.rg⟩):=by show _=_;rw [HRN.out];unfold Qa7;simp only;rw [if_neg h2,if_pos ⟨h31,trivial⟩]
   clear h31
   go_upto_region 8 with fail
   go_upto_region 10 with fail
   go_upto_region 11 with fail
   clear h4 h4' z0 z4
   go_wp2_with (first | (refine wpList_load_row rfl 29 (.tmp 5) rfl (g+1) rfl 29 m.vals (0,0) _ H54.out.b.b underlying29 rfl (Jz m) ?_))
   refine cC.mono ?_
   rintro e w5 ⟨b,rfl,hb1,hb2,hb⟩
   have HB5:=zH (Qd HB4.out.1 hb)
   have H55:=zH (H54.out.on hb)
   have HM:Hid (g+4 < b∧w5.heap[b]? = (zC (QX m.rg) 2)):=⟨by have:=(zJ H54.out.k).1;omega,hb2⟩
   clear hb hb1 hb2 cC
   go_wp2_with (first | (refine wpList_store_row rfl 59 (.tmp 8) (.tmp 58) rfl (g+3) (firB (i) true (zO) (1) (0)) rfl rfl 59 firZ H55.out.f (J3 ..) rfl (Hb ..) ?_) | (refine wpList_store_row rfl 29 (.tmp 9) (.tmp 60) rfl (g+4) (modV m.st (some b¢0) m.rg.length m.rg.length) rfl rfl 29 modZ ((setRow_other _ _ _ _ zY).trans H55.out.k) (Jf ..) rfl (Xs ..) ?_))
   have HF:=Bx5.fin (F':=(firB (i) true (zO) (1) (0))) (K':=(modV m.st (some b¢0) m.rg.length m.rg.length)) H55.out HB5.out (Nat.le_of_eq HG.out)
   refine bodyPost_ret (JI rfl _ _ (g+3) (g+4) 59 29 (firB (i) true (zO) (1) (0)) (modV m.st (some b¢0) m.rg.length m.rg.length) (0,0) (0,0) _ _ _ rfl HF.1 underlying59 rfl (J3 ..) rfl HF.2.1 underlying29 rfl (Jf ..) rfl) rfl ?_
   rw [HR.out]
   exact⟨none,0,_,_,rfl,Xd _ _,⟨KM ((HF.2.2.2 b (by have:=HM.out.1;omega) (by have:=HM.out.1;omega)).trans HM.out.2) HL.out.2.2.1,HL.out.2.1.2⟩,HF.2.2.1⟩
  have HR:Hid (J0 S m s gr=⟨0,i,false,q2.ac,q2.su,0,q2.st,q2.rg⟩):=by show _=_;rw [HRN.out];unfold Qa7;simp only;rw [if_neg h2,if_neg h3]
  have hcase:(q2.ac.length=0)∨(0 < q2.ac.length∧gr=true):=by
   cases e:q2.ac with
   | nil=>exact .inl rfl
   | cons y l=>exact .inr ⟨by simp,by cases gr with | true=>rfl | false=>exact absurd ⟨by rw [e];rfl,rfl⟩ h3⟩
  clear h3
  rcases hcase with h4 | ⟨h4,rfl⟩
  ·have h5:¬ (0:Int) < (q2.ac.length:Int):=by omega
   have h5':¬ 0 < q2.ac.length:=by omega
   clear h4
   go_upto_region 8 with fail
   go_upto_region 10 with fail
   go_upto_region 12 with fail
   refine (?_:∀ Q',Hid (Q'=_)→Code.wp _ _ Q' _ _) _ rfl
   intro Q' HQ'
   have HPn:zHP Q':=by rw [HQ'.out];exact fun _ _ _ _ _ h=>h
   refine QA (t:=99) (S:=fun u=>u.heap[T]? = (zC #[zP tb] 109)∧u.heap[tb]? = (zC (tnA s rb q2.rg.length mb sb gb (.slice fa q2.ac.length fc) q2) 117)) zK ⟨HTT.out,HT4.out.t⟩ (fun hHeld=>?_)
   clear h5 h5' z0 z4 h2
   refine zTd 0 HPn
   rotate_left
   ·(intro v hv;go_simp;try (with_reducible rfl))
   try simp [Act.put]
   refine zTd 1 HPn
   rotate_left
   ·(intro v hv;have c0:zQ v T¢0 (zP tb):=Qa hv.1 0;clear hv;go_simp;try (with_reducible rfl))
   try simp [Act.put]
   refine zTd 2 HPn
   rotate_left
   ·(intro v hv;go_simp;try (with_reducible rfl))
   try simp [Act.put]
   refine zTd 3 HPn
   rotate_left
   ·(intro v hv;go_simp;try (with_reducible rfl))
   try simp [Act.put]
   refine zTd 4 HPn
   rotate_left
   ·(intro v hv;have c0:zQ v tb¢11 (.slice fa q2.ac.length fc):=Qa hv.2 11;clear hv;go_simp;try (with_reducible rfl))
   try simp [Act.put]
   refine zTd 5 HPn
   rotate_left
   ·(intro v hv;have c0:zQ v T¢0 (zP tb):=Qa hv.1 0;clear hv;go_simp;try (with_reducible rfl))
   try simp [Act.put]
   refine zTd 6 HPn
   rotate_left
   ·(intro v hv;go_simp;try (with_reducible rfl))
   try simp [Act.put]
   refine zTd 7 HPn
   rotate_left
   ·(intro v hv;go_simp;try (with_reducible rfl))
   try simp [Act.put]
   refine zTd 8 HPn
   rotate_left
   ·(intro v hv;have c0:zQ v tb¢12 (zU q2.su):=Qa hv.2 12;clear hv;go_simp;try (with_reducible rfl))
   try simp [Act.put]
   refine zTd 9 HPn
   rotate_left
   ·(intro v hv;go_simp;try (with_reducible rfl))
   try simp [Act.put]
   refine zTd 10 HPn
   rotate_left
   ·(intro v hv;have c0:zQ v T¢0 (zP tb):=Qa hv.1 0;clear hv;go_simp;try (with_reducible rfl))
   try simp [Act.put]
   refine zTd 11 HPn
   rotate_left
   ·(intro v hv;go_simp;try (with_reducible rfl))
   try simp [Act.put]
   refine zTd 12 HPn
   rotate_left
   ·(intro v hv;go_simp;try (with_reducible rfl))
   try simp [Act.put]
   refine zTd 13 HPn
   rotate_left
   ·(intro v hv;have c0:zQ v tb¢10 (zI q2.st):=Qa hv.2 10;clear hv;go_simp;try (with_reducible rfl))
   try simp [Act.put]
   refine zTd 14 HPn
   rotate_left
   ·(intro v hv;have c0:zQ v T¢0 (zP tb):=Qa hv.1 0;clear hv;go_simp;try (with_reducible rfl))
   try simp [Act.put]
   refine zTd 15 HPn
   rotate_left
   ·(intro v hv;go_simp;try (with_reducible rfl))
   try simp [Act.put]
   refine zTd 16 HPn
   rotate_left
   ·(intro v hv;go_simp;try (with_reducible rfl))
   try simp [Act.put]
   refine zTd 17 HPn
   rotate_left
   ·(intro v hv;go_simp;try (with_reducible rfl))
   try simp [Act.put]
   refine zTd 18 HPn
   rotate_left
   ·(intro v hv;have c0:zQ v tb¢6 (.slice (some rb¢0) q2.rg.length q2.rg.length):=Qa hv.2 6;clear hv;go_simp;try (with_reducible rfl))
   try simp [Act.put]
   refine zTd 19 HPn
   rotate_left
   ·(intro v hv;go_simp;try (with_reducible rfl))
   try simp [Act.put]
   refine Qh (i:=20) zK rfl (fun K hK=>?_)
   refine Q4 rfl 59 (.tmp 8) (.tmp 70) rfl (g+3) (firB i false (.slice fa q2.ac.length fc) q2.su 0) rfl rfl 59 firZ H54.out.f (J3 ..) rfl (Hb ..) ?_
   refine hK.out _ _ (fun _=>⟨(setRow_other _ _ _ _ (by have:=HTG.out.1;omega)).trans HTT.out,(setRow_other _ _ _ _ (by have:=HTG.out.2;have:=HT4.out.bt;omega)).trans HT4.out.t⟩) ?_
   clear hK K
   try simp [Act.put]
   refine Qh (i:=21) zK rfl (fun K hK=>?_)
   refine Q4 rfl 29 (.tmp 9) (.tmp 80) rfl (g+4) (modV q2.st (some rb¢0) q2.rg.length q2.rg.length) rfl rfl 29 modZ ((setRow_other _ _ _ _ zY).trans H54.out.k) (Jf ..) rfl (Xs ..) ?_
   refine hK.out _ _ (fun _=>⟨(setRow_other _ _ _ _ (by have:=HTG.out.1;omega)).trans ((setRow_other _ _ _ _ (by have:=HTG.out.1;omega)).trans HTT.out),(setRow_other _ _ _ _ (by have:=HTG.out.2;have:=HT4.out.bt;omega)).trans ((setRow_other _ _ _ _ (by have:=HTG.out.2;have:=HT4.out.bt;omega)).trans HT4.out.t)⟩) ?_
   clear hK K
   try simp [Act.put]
   refine Qh (i:=22) zK rfl (fun K hK=>?_)
   go_simp
   refine hK.out _ _ (fun _=>⟨(setRow_other _ _ _ _ (by have:=HTG.out.1;omega)).trans ((setRow_other _ _ _ _ (by have:=HTG.out.1;omega)).trans HTT.out),(setRow_other _ _ _ _ (by have:=HTG.out.2;have:=HT4.out.bt;omega)).trans ((setRow_other _ _ _ _ (by have:=HTG.out.2;have:=HT4.out.bt;omega)).trans HT4.out.t)⟩) ?_
   clear hK K
   try simp [Act.put]
   refine QB zK ?_ _
   rw [HQ'.out]
   clear HQ' HPn Q'
   go_wp2_with fail
   have HF:=Bx5.fin (F':=(firB i false (.slice fa q2.ac.length fc) q2.su 0)) (K':=(modV q2.st (some rb¢0) q2.rg.length q2.rg.length)) (H54.out.on (Ql w4)) HB4.out.1.drew (Nat.le_of_eq HG.out)
   refine bodyPost_ret (JI rfl _ _ (g+3) (g+4) 59 29 (firB i false (.slice fa q2.ac.length fc) q2.su 0) (modV q2.st (some rb¢0) q2.rg.length q2.rg.length) (0,0) (0,0) _ _ _ rfl HF.1 underlying59 rfl (J3 ..) rfl HF.2.1 underlying29 rfl (Jf ..) rfl) rfl ?_
   rw [HR.out]
   have hkp:=HKP.out _ ER.out
   have hbl:=HTG.out.2
   have hbr:=HT4.out.br
   have hbs:=PM (w':=(w4.drew.setRow (g+3) (firB i false (.slice fa q2.ac.length fc) q2.su 0)).setRow (g+4) (modV q2.st (some rb¢0) q2.rg.length q2.rg.length)) HSL.out (fun b o e=>HF.2.2.2 b (by have:=HSB.out b o e;omega) (by have:=HSB.out b o e;omega))
   exact⟨fa,fc,_,_,rfl,hbs,⟨KM ((HF.2.2.2 rb zY zY).trans HT4.out.r) hkp.2,HT4.out.i64,hkp.1⟩,HF.2.2.1⟩
  ·have h5:(0:Int) < (q2.ac.length:Int):=by omega
   clear HRN
   go_upto_region 8 with fail
   go_upto_region 10 with fail
   go_upto_region 12 with fail
   refine (?_:∀ Q',Hid (Q'=_)→Code.wp _ _ Q' _ _) _ rfl
   intro Q' HQ'
   have HPn:zHP Q':=by rw [HQ'.out];exact fun _ _ _ _ _ h=>h
   refine QA (t:=99) (S:=fun u=>u.heap[T]? = (zC #[zP tb] 109)∧u.heap[tb]? = (zC (tnA s rb q2.rg.length mb sb gb (.slice fa q2.ac.length fc) q2) 117)) zK ⟨HTT.out,HT4.out.t⟩ (fun hHeld=>?_)
   clear h5 h4 z0 z4 h2
   refine zTd 0 HPn
   rotate_left
   ·(intro v hv;go_simp;try (with_reducible rfl))
   try simp [Act.put]
   refine zTd 1 HPn
   rotate_left
   ·(intro v hv;have c0:zQ v T¢0 (zP tb):=Qa hv.1 0;clear hv;go_simp;try (with_reducible rfl))
   try simp [Act.put]
   refine zTd 2 HPn
   rotate_left
   ·(intro v hv;go_simp;try (with_reducible rfl))
   try simp [Act.put]
   refine zTd 3 HPn
   rotate_left
   ·(intro v hv;go_simp;try (with_reducible rfl))
   try simp [Act.put]
   refine zTd 4 HPn
   rotate_left
   ·(intro v hv;have c0:zQ v tb¢11 (.slice fa q2.ac.length fc):=Qa hv.2 11;clear hv;go_simp;try (with_reducible rfl))
   try simp [Act.put]
   refine zTd 5 HPn
   rotate_left
   ·(intro v hv;have c0:zQ v T¢0 (zP tb):=Qa hv.1 0;clear hv;go_simp;try (with_reducible rfl))
   try simp [Act.put]
   refine zTd 6 HPn
   rotate_left
   ·(intro v hv;go_simp;try (with_reducible rfl))
   try simp [Act.put]
   refine zTd 7 HPn
   rotate_left
   ·(intro v hv;go_simp;try (with_reducible rfl))
   try simp [Act.put]
   refine zTd 8 HPn
   rotate_left
   ·(intro v hv;have c0:zQ v tb¢12 (zU q2.su):=Qa hv.2 12;clear hv;go_simp;try (with_reducible rfl))
   try simp [Act.put]
   refine zTd 9 HPn
   rotate_left
   ·(intro v hv;go_simp;try (with_reducible rfl))
   try simp [Act.put]
   refine zTd 10 HPn
   rotate_left
   ·(intro v hv;have c0:zQ v T¢0 (zP tb):=Qa hv.1 0;clear hv;go_simp;try (with_reducible rfl))
   try simp [Act.put]
   refine zTd 11 HPn
   rotate_left
   ·(intro v hv;go_simp;try (with_reducible rfl))
   try simp [Act.put]
   refine zTd 12 HPn
   rotate_left
   ·(intro v hv;go_simp;try (with_reducible rfl))
   try simp [Act.put]
   refine zTd 13 HPn
   rotate_left
   ·(intro v hv;have c0:zQ v tb¢10 (zI q2.st):=Qa hv.2 10;clear hv;go_simp;try (with_reducible rfl))
   try simp [Act.put]
   refine zTd 14 HPn
   rotate_left
   ·(intro v hv;have c0:zQ v T¢0 (zP tb):=Qa hv.1 0;clear hv;go_simp;try (with_reducible rfl))
   try simp [Act.put]
   refine zTd 15 HPn
   rotate_left
   ·(intro v hv;go_simp;try (with_reducible rfl))
   try simp [Act.put]
   refine zTd 16 HPn
   rotate_left
   ·(intro v hv;go_simp;try (with_reducible rfl))
   try simp [Act.put]
   refine zTd 17 HPn
   rotate_left
   ·(intro v hv;go_simp;try (with_reducible rfl))
   try simp [Act.put]
   refine zTd 18 HPn
   rotate_left
   ·(intro v hv;have c0:zQ v tb¢6 (.slice (some rb¢0) q2.rg.length q2.rg.length):=Qa hv.2 6;clear hv;go_simp;try (with_reducible rfl))
   try simp [Act.put]
   refine zTd 19 HPn
   rotate_left
   ·(intro v hv;go_simp;try (with_reducible rfl))
   try simp [Act.put]
   refine Qh (i:=20) zK rfl (fun K hK=>?_)
   refine Q4 rfl 59 (.tmp 8) (.tmp 70) rfl (g+3) (firB i false (.slice fa q2.ac.length fc) q2.su 0) rfl rfl 59 firZ H54.out.f (J3 ..) rfl (Hb ..) ?_
   refine hK.out _ _ (fun _=>⟨(setRow_other _ _ _ _ (by have:=HTG.out.1;omega)).trans HTT.out,(setRow_other _ _ _ _ (by have:=HTG.out.2;have:=HT4.out.bt;omega)).trans HT4.out.t⟩) ?_
   clear hK K
   try simp [Act.put]
   refine Qh (i:=21) zK rfl (fun K hK=>?_)
   refine Q4 rfl 29 (.tmp 9) (.tmp 80) rfl (g+4) (modV q2.st (some rb¢0) q2.rg.length q2.rg.length) rfl rfl 29 modZ ((setRow_other _ _ _ _ zY).trans H54.out.k) (Jf ..) rfl (Xs ..) ?_
   refine hK.out _ _ (fun _=>⟨(setRow_other _ _ _ _ (by have:=HTG.out.1;omega)).trans ((setRow_other _ _ _ _ (by have:=HTG.out.1;omega)).trans HTT.out),(setRow_other _ _ _ _ (by have:=HTG.out.2;have:=HT4.out.bt;omega)).trans ((setRow_other _ _ _ _ (by have:=HTG.out.2;have:=HT4.out.bt;omega)).trans HT4.out.t)⟩) ?_
   clear hK K
   try simp [Act.put]
   refine Qh (i:=22) zK rfl (fun K hK=>?_)
   go_simp
   refine hK.out _ _ (fun _=>⟨(setRow_other _ _ _ _ (by have:=HTG.out.1;omega)).trans ((setRow_other _ _ _ _ (by have:=HTG.out.1;omega)).trans HTT.out),(setRow_other _ _ _ _ (by have:=HTG.out.2;have:=HT4.out.bt;omega)).trans ((setRow_other _ _ _ _ (by have:=HTG.out.2;have:=HT4.out.bt;omega)).trans HT4.out.t)⟩) ?_
   clear hK K
   try simp [Act.put]
   refine QB zK ?_ _
   rw [HQ'.out]
   clear HQ' HPn Q'
   go_wp2_with fail
   have HF:=Bx5.fin (F':=(firB i false (.slice fa q2.ac.length fc) q2.su 0)) (K':=(modV q2.st (some rb¢0) q2.rg.length q2.rg.length)) (H54.out.on (Ql w4)) HB4.out.1.drew (Nat.le_of_eq HG.out)
   refine bodyPost_ret (JI rfl _ _ (g+3) (g+4) 59 29 (firB i false (.slice fa q2.ac.length fc) q2.su 0) (modV q2.st (some rb¢0) q2.rg.length q2.rg.length) (0,0) (0,0) _ _ _ rfl HF.1 underlying59 rfl (J3 ..) rfl HF.2.1 underlying29 rfl (Jf ..) rfl) rfl ?_
   rw [HR.out]
   have hkp:=HKP.out _ ER.out
   have hbl:=HTG.out.2
   have hbr:=HT4.out.br
   have hbs:=PM (w':=(w4.drew.setRow (g+3) (firB i false (.slice fa q2.ac.length fc) q2.su 0)).setRow (g+4) (modV q2.st (some rb¢0) q2.rg.length q2.rg.length)) HSL.out (fun b o e=>HF.2.2.2 b (by have:=HSB.out b o e;omega) (by have:=HSB.out b o e;omega))
   exact⟨fa,fc,_,_,rfl,hbs,⟨KM ((HF.2.2.2 rb zY zY).trans HT4.out.r) hkp.2,HT4.out.i64,hkp.1⟩,HF.2.2.1⟩
end Go.Proofs.YtfbjofnaghjmeaaGreatDoor
