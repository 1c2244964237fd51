import Derived.Test.YtfbjofnaghjmeaaGreatDoorA36
import Derived.Test.YtfbjofnaghjmeaaGreatDoorA32
namespace Go.Proofs.YtfbjofnaghjmeaaGreatDoor
open Go.Proofs.Tryz
open Go Go.RowKit
set_option linter.unusedVariables false
set_option linter.unusedSimpArgs false
theorem Qga {w:yW}{m:ModM}(h:ModL w m) {i:Nat}(hi:i < m.rg.length):∃ b o,m.ra=some b¢o∧zQ w ⟨b,o+i,none⟩ (zI m.rg[i]):=by
 obtain⟨b,o,ea,hat⟩:=h.1.2.2 i (by rw [List.length_map];exact hi)
 refine⟨b,o,ea,?_⟩
 have:=hat 0 zY
 simp only [List.getElem_map] at this
 simpa [iA] using this
mutual
def ndT:Tr→Nd
 | .mk h ks=>.mk h none 0 (ndTs ks)
def ndTs:List Tr→List Nd
 | []=>[]
 | k :: ks=>ndT k :: ndTs ks
end
def bare (m:Nd):Nd:=ndT (Qs m)
theorem Qhl:∀ ks:List Nd,ndTs (UP ks)=ks.map bare
 | []=>rfl
 | k :: ks=>by simp only [UP,ndTs,List.map_cons,Qhl ks];rfl
theorem Ks (h:Hd) (a:Option Addr) (c:Nat) (ks:List Nd):bare (.mk h a c ks)=.mk h none 0 (ks.map bare):=by
 show ndT (Qs (.mk h a c ks))=_
 rw [Qs,ndT,Qhl]
theorem Pt (m:Nd):(bare m).h=m.h:=by cases m;rw [Ks];rfl
theorem QgU (m:Nd):(bare m).ks=m.ks.map bare:=by cases m;rw [Ks];rfl
theorem Fq:∀ l:List Nd,(∀ k ∈ l,Qw (bare k)=Qw k)→Q1 (l.map bare)=Q1 l
 | [],_=>rfl
 | k :: l,h=>by simp only [List.map_cons,Q1];rw [h k (by simp),Fq l fun x hx=>h x (by simp [hx])]
theorem Qby:∀ m,Qw (bare m)=Qw m:=by
 refine Nd.ind fun h a c ks ih=>?_
 rw [Ks]
 simp only [Qw,List.length_map]
 rw [Fq ks ih]
theorem Qbb:∀ l:List Nd,(∀ k ∈ l,size (bare k)=size k)→JG (l.map bare)=JG l
 | [],_=>rfl
 | k :: l,h=>by simp only [List.map_cons,JG];rw [h k (by simp),Qbb l fun x hx=>h x (by simp [hx])]
theorem Qdo:∀ m,size (bare m)=size m:=by
 refine Nd.ind fun h a c ks ih=>?_
 rw [Ks]
 simp only [size]
 rw [Qbb ks ih]
theorem Qfb (h:Hd):∀ (l:List Nd) (i:Nat),(∀ k ∈ l,dep (bare k)=dep k)→deps h i (l.map bare)=deps h i l
 | [],i,_=>rfl
 | k :: l,i,hk=>by simp only [List.map_cons,deps];rw [hk k (by simp),Qfb h l (i+1) fun x hx=>hk x (by simp [hx]),Pt]
theorem dep_b:∀ m,dep (bare m)=dep m:=by
 refine Nd.ind fun h a c ks ih=>?_
 rw [Ks]
 simp only [dep]
 rw [Qfb h ks 0 ih]
theorem Qc4 (L:yB→Option Int):∀ l:List Nd,(∀ k ∈ l,tyR L (bare k)=tyR L k)→tysR L (l.map bare)=tysR L l
 | [],_=>rfl
 | k :: l,h=>by simp only [List.map_cons,tysR];rw [h k (by simp),Qc4 L l fun x hx=>h x (by simp [hx])]
theorem QgZ (L:yB→Option Int):∀ m,tyR L (bare m)=tyR L m:=by
 refine Nd.ind fun h a c ks ih=>?_
 rw [Ks]
 simp only [tyR,List.length_map]
 rw [Qc4 L ks ih]
theorem PN:∀ (l js:List Nd),(∀ k ∈ l,∀ n,Kl (bare k) n=Kl k n)→JF (l.map bare) js=JF l js
 | [],_,_=>rfl
 | k :: l,[],_=>rfl
 | k :: l,j :: js,h=>by simp only [List.map_cons,JF];rw [h k (by simp),PN l js fun x hx=>h x (by simp [hx])]
theorem QfN:∀ m n,Kl (bare m) n=Kl m n:=by
 refine Nd.ind fun h a c ks ih n=>?_
 rw [Ks]
 simp only [Kl,List.length_map]
 rw [PN ks _ ih]
theorem cE_b (m:Nd):cE (bare m)=cE m:=by unfold cE;rw [Qby,dep_b]
theorem fE_b (m:Nd):fE (bare m)=fE m:=by unfold fE;rw [Qby]
theorem kid0_b (m:Nd):(kid0 (bare m)).h=(kid0 m).h:=by
 unfold kid0
 rw [QgU]
 cases m.ks with
 | nil=>rfl
 | cons k l=>exact Pt k
def bReg (r:RegM):RegM:=⟨r.x,r.t,bare r.m,r.p⟩
def bDo (d:DoM):DoM:=⟨d.k,d.o,d.x,bare d.sd,bare d.qt,bare d.pr,bare d.vl,d.p⟩
def Kh (r:Qy):Qy:=⟨bare r.m,none,0,r.ds.map bDo,r.p⟩
def JW (x:Qq):Qq:=⟨x.x,none,0,x.rs.map Kh,x.p⟩
def bStr (S:Qg):Qg:=⟨S.x,none,0,S.rs.map bReg,none,0,S.ss,none,0,S.ts.map JW⟩
def rgOf (r:RegT):RegM:=⟨r.x,r.t,ndT r.m,r.p⟩
def slOf (r:UM):Qx:=⟨r.x,r.p⟩
def doOf (d:DoT):DoM:=⟨d.k,d.o,d.x,ndT d.sd,ndT d.qt,ndT d.pr,ndT d.vl,d.p⟩
def ruOf (r:Ur):Qy:=⟨ndT r.m,none,0,r.ds.map doOf,r.p⟩
def Qdj (x:K5):Qq:=⟨x.x,none,0,x.rs.map ruOf,x.p⟩
def sT (S:K4):Qg:=⟨S.x,none,0,S.rs.map rgOf,none,0,S.ss.map slOf,none,0,S.ts.map Qdj⟩
theorem QgV (S:Qg):bStr S=sT S.tr:=by
 unfold bStr sT Qg.tr
 simp only [List.map_map]
 congr 1
 ·exact (List.map_id _).symm
 ·refine List.map_congr_left fun x _=>?_
  show JW x=Qdj x.tr
  unfold JW Qdj Qq.tr
  simp only [List.map_map]
  congr 1
  refine List.map_congr_left fun r _=>?_
  show Kh r=ruOf r.tr
  unfold Kh ruOf Qy.tr
  simp only [List.map_map]
  rfl
theorem QdI (l:List RegM):regL (l.map bReg)=regL l:=by
 funext x
 unfold regL
 induction l with
 | nil=>rfl
 | cons r l ih =>
  simp only [List.map_cons,List.find?_cons]
  show Option.map _ (match decide (r.x=x) with | true=>_ | false=>_)=_
  cases decide (r.x=x) with
  | true=>rfl
  | false=>exact ih
theorem QhP (r:RegM):regE (bReg r)=regE r:=by
 unfold regE K7 bReg
 simp only [fE_b,Pt,kid0_b]
theorem doE_b (d:DoM):doE (bDo d)=doE d:=by
 unfold doE Q8
 simp only [bDo,ndO,ndN,ndS,ndQ,ndP,ndV,cE_b,QfN]
 rfl
theorem QfP (r:Qy):JH (Kh r)=JH r:=by
 unfold JH Kh
 simp only [cE_b,List.length_map,List.map_map]
 rw [show (doE ∘ bDo)=doE from funext doE_b]
theorem Qdg (x:Qq):Jg (JW x)=Jg x:=by
 unfold Jg JW
 simp only [List.length_map,List.map_map]
 rw [show (JH ∘ Kh)=JH from funext QfP]
theorem Qde (S:Qg):QR (bStr S)=QR S:=by
 unfold QR bStr
 simp only [List.length_map,List.map_map]
 rw [show (regE ∘ bReg)=regE from funext QhP,show (Jg ∘ JW)=Jg from funext Qdg]
theorem QbG:∀ (rs l:List RegM),Jv (l.map bReg) (rs.map bReg)=Jv l rs
 | [],_=>rfl
 | r :: rs,l=>by
  simp only [List.map_cons,Jv,QdI]
  have h:=QbG rs (l ++ [r])
  rw [List.map_append] at h
  simp only [bReg,QgZ] at h ⊢
  rw [← h]
  rfl
theorem decE_b (S:Qg):decE (bStr S)=decE S:=by
 unfold decE
 have h:=QbG S.rs []
 have e:(bStr S).ts.map stN=S.ts.map stN:=by
  unfold bStr
  simp only [List.map_map]
  rfl
 rw [e]
 show (match Jv [] (S.rs.map bReg) with | some e=>some e | none=>match dNms [] (S.ss.map slN) with | some e=>some e | none=>dNms [] (S.ts.map stN))=_
 rw [show Jv [] (S.rs.map bReg)=Jv [] S.rs from h]
 rfl
theorem QhS (L:yB→Option Int) (d:DoM):ptsL L (bDo d)=(ptsL L d).map fun q=>(bare q.1,q.2):=by
 unfold ptsL bDo
 repeat' split
 all_goals simp_all
theorem Qg9 (L:yB→Option Int) (q:Nd × Int):pcE L (bare q.1,q.2)=pcE L q:=by
 unfold pcE
 simp only [QgZ,Pt]
theorem Qg7 (L:yB→Option Int):∀ l:List (Nd × Int),psE L (l.map fun q=>(bare q.1,q.2))=psE L l
 | []=>rfl
 | q :: l=>by simp only [List.map_cons,psE];rw [Qg9,Qg7 L l]
theorem Qe5 (L:yB→Option Int) (S2 S3:List yB):∀ (l:List DoM) (en:Bool),dosE L S2 S3 en (l.map bDo)=dosE L S2 S3 en l
 | [],en=>by cases en <;> rfl
 | d :: l,en=>by
  simp only [List.map_cons,dosE]
  rw [QhS,Qg7]
  show (if en then some (d.p,153) else if QT L S2 S3 d.k d.x then (match psE L (ptsL L d) with | some e=>some e | none=>dosE L S2 S3 (d.k == 5 || d.k == 6) (l.map bDo)) else some (d.p,151))=_
  rw [Qe5 L S2 S3 l]
  rfl
theorem ruE_b (L:yB→Option Int) (S2 S3:List yB) (r:Qy):ruE L S2 S3 (Kh r)=ruE L S2 S3 r:=by
 unfold ruE
 rw [show pcE L ((Kh r).m,5)=pcE L (r.m,5) from Qg9 L (r.m,5),show (Kh r).ds=r.ds.map bDo from rfl,Qe5]
theorem Qdv (L:yB→Option Int) (S2 S3:List yB):∀ l:List Qy,rusE L S2 S3 (l.map Kh)=rusE L S2 S3 l
 | []=>rfl
 | r :: l=>by simp only [List.map_cons,rusE];rw [ruE_b,Qdv L S2 S3 l]
theorem Qdc (L:yB→Option Int) (S2 S3:List yB):∀ l:List Qq,stsE L S2 S3 (l.map JW)=stsE L S2 S3 l
 | []=>rfl
 | x :: l=>by
  simp only [List.map_cons,stsE]
  rw [show (JW x).rs=x.rs.map Kh from rfl,Qdv,Qdc L S2 S3 l]
theorem chkE_b (S:Qg):chkE (bStr S)=chkE S:=by
 unfold chkE
 rw [Qde,decE_b,show (bStr S).rs=S.rs.map bReg from rfl,QdI,show (bStr S).ts=S.ts.map JW from rfl,Qdc,List.map_map,show (Qq.x ∘ JW)=Qq.x from rfl]
 rfl
def doZB (d:DoM):Bool:=[d.sd,d.qt,d.pr,d.vl].all fun m=>decide (size m≤1000000000000)
def stZB (x:Qq):Bool:=x.rs.all fun r=>decide (size r.m≤1000000000000) && r.ds.all doZB
theorem doZB_b (d:DoM):doZB (bDo d)=doZB d:=by simp only [doZB,bDo,List.all_cons,List.all_nil,Qdo]
theorem Qhx (x:Qq):stZB (JW x)=stZB x:=by
 unfold stZB JW
 simp only [List.all_map]
 congr 1
 funext r
 show (decide (size (bare r.m)≤1000000000000) && (r.ds.map bDo).all doZB)=_
 rw [Qdo,List.all_map,show (doZB ∘ bDo)=doZB from funext doZB_b]
def zB (S:Qg):Bool:=S.ts.all stZB
theorem zB_b (S:Qg):zB (bStr S)=zB S:=by
 unfold zB bStr
 simp only [List.all_map]
 rw [show (stZB ∘ JW)=stZB from funext Qhx]
theorem zB_z {S:Qg}(h:zB S=true):Q2 S:=by
 simp only [zB,List.all_eq_true] at h
 intro x hx r hr
 have h1:=h x hx
 simp only [stZB,Bool.and_eq_true,List.all_eq_true,decide_eq_true_eq] at h1
 refine⟨(h1 r hr).1,fun d hd=>?_⟩
 have h2:=(h1 r hr).2 d hd
 simp only [doZB,List.all_cons,List.all_nil,Bool.and_true,Bool.and_eq_true,decide_eq_true_eq] at h2
 exact h2
set_option maxRecDepth 100000
set_option maxHeartbeats 8000000
theorem UJ:(Tryz.prog.info? 38).map (·.size)=some 8:=by kernel_rfl
structure Bx3n (w:yW) (S:Qg) (m:ModM) (n:Nd) (g:Nat):Prop where
 a:w.heap[g]? = (zC S.vals 26)
 b:w.heap[g+1]? = (zC m.vals 29)
 c:w.heap[g+2]? = (zC n.vals 38)
theorem Bx3n.on {w w':yW}{S:Qg}{m:ModM}{n:Nd}{g:Nat}(h:Bx3n w S m n g) (k:yD w w'):Bx3n w' S m n g:=⟨heapOf k h.a,heapOf k h.b,heapOf k h.c⟩
theorem Qfe (w:yW) (S:Qg) (m:ModM) (n:Nd):Bx3n (((zA w S.vals 26).alloc (.cells m.vals 29)).alloc (.cells n.vals 38)) S m n w§∧yD w (((zA w S.vals 26).alloc (.cells m.vals 29)).alloc (.cells n.vals 38)):=by
 obtain⟨h2,hb2,hz2⟩:=QbK w S m
 have b3:=Qb ((zA w S.vals 26).alloc (.cells m.vals 29)) (.cells n.vals 38)
 have n3:=Qc ((zA w S.vals 26).alloc (.cells m.vals 29)) (.cells n.vals 38)
 rw [hz2] at n3
 exact⟨⟨heapOf b3 h2.a,heapOf b3 h2.b,n3⟩,Qd hb2 b3⟩
theorem Pm (S:Qg) (md:ModM) (m:Nd) (w:yW) (hl:Qr w S) (hm:Lies w m):Calls zG 9 #[.agg S.vals,.agg md.vals,.agg m.vals] w fun e w'=>(∃ f:Bool,e=.returned (.bool f)∧(f=false→Q2 S∧md.rg.length≤65536∧size m≤65536))∧yD w w':=by
 have HH:Hid (Qr w S∧Lies w m):=⟨hl,hm⟩
 obtain⟨h3,hb3⟩:=Qfe w S md m
 obtain⟨V,eV⟩:∃ V,((zA w S.vals 26).alloc (.cells md.vals 29)).alloc (.cells m.vals 38)=V:=jV
 rw [eV] at h3 hb3
 have HV:=zH eV
 have HB:=zH hb3
 have H3:=zH h3
 have c1:=FL S V (hl.on hb3)
 obtain⟨g,eg⟩:∃ g,w§=g:=jV
 have HG:Hid (w§=g):=eg
 rw [eg] at H3
 clear hl hm h3 hb3 eV
 go_enter func9,ntmps9
 go_upto_region 1 with fail
 rw [HV.out]
 try rw [eg]
 clear eg
 go_wp2_with (refine wpList_load_row rfl 26 _ rfl g rfl 26 S.vals (0,0) _ H3.out.a underlying26 rfl (Jo S) ?_)
 refine c1.mono ?_
 rintro e w1 ⟨⟨r,rfl,hr⟩,hb⟩
 have HR:Hid (WghS S r):=hr
 have HB1:=zH (Qd HB.out hb)
 have H31:Hid (Bx3n w1 S md m g):=H3.out.on hb
 by_cases hb1:r≤65536
 ·have hn:¬ (65536:Int) < r:=by omega
  have y1:zQ w1 ⟨g+1,1,none⟩ (.slice md.ra md.rg.length md.rc):=Qa H31.out.b 1
  by_cases hb2:md.rg.length≤65536
  ·have hn2:¬ (65536:Int) < (md.rg.length:Int):=by omega
   have hn3:¬ 65536 < md.rg.length:=by omega
   have c2:Calls zG 28 #[.agg (zV m),zI r,zI 0] w1 fun e w'=>(∃ r2,e=.returned (zI r2)∧Wgt m r r2)∧yD w1 w':=JP m w1 r (HH.out.2.on HB1.out) hr.1 (by have:=hr.2.1;omega)
   obtain⟨z0,z1,z2,z3,z4,z5,z6,z7⟩:=cl8 H31.out.c
   clear c1 hr hb
   go_wp2_with fail
   refine c2.mono ?_
   rintro e w2 ⟨⟨r2,rfl,hr2⟩,hb3⟩
   have HR2:Hid (Wgt m r r2):=hr2
   have HB2:=zH (Qd HB1.out hb3)
   clear c2 hr2 hb3
   go_wp2
   go_ret
   refine⟨⟨_,rfl,fun hf=>?_⟩,HB2.out⟩
   have h1:r2≤65536:=by simp at hf;omega
   have h2:=HR2.out.2.2 zY
   have h3:=Xx m
   have h4:=HR.out.1
   exact⟨HR.out.2.2 zY,hb2,by omega⟩
  ·have hn2:(65536:Int) < (md.rg.length:Int):=by omega
   have hn3:65536 < md.rg.length:=by omega
   clear c1 hr hb
   go_wp2
   go_ret
   exact⟨⟨_,rfl,fun hf=>by simp at hf⟩,HB1.out⟩
 ·have hn:(65536:Int) < r:=by omega
  clear c1 hr hb
  go_wp2
  go_ret
  exact⟨⟨_,rfl,fun hf=>by simp at hf⟩,HB1.out⟩
theorem hold_5 {v:Int}:Q3 5 v=(v == 0 || v == 1):=rfl
theorem UE {t v:Int}(h5:¬ t=5) (h6:¬ t=6):Q3 t v=true:=by
 unfold Q3
 rw [if_neg (by simpa using h5),if_neg (by simpa using h6)]
theorem Qc3 {L:yB→Option Int}:∀ (ks:List Nd) (ts:List Int),tysR L ks=.ok ts→∀ i (hi:i < ks.length),tyR L ks[i]=.ok (ts.getD i 0)
 | [],_,_,i,hi=>by simp at hi
 | k :: ks,ts,h,i,hi=>by
  unfold tysR at h
  cases e:tyR L k with
  | error c=>rw [e] at h;cases h
  | ok t =>
   rw [e] at h
   cases e2:tysR L ks with
   | error c=>simp only [e2] at h;cases h
   | ok us =>
    simp only [e2] at h
    cases h
    cases i with
    | zero=>exact e
    | succ i=>exact Qc3 ks us e2 i (by simpa using hi)
theorem Qa1 {s:Sx.Sn}{G:yB→Option Int}:∀ (ks:List Nd) i (hi:i < ks.length),(Jq s G ks).getD i (.ok 0)=valR s G ks[i]
 | [],i,hi=>by simp at hi
 | k :: ks,i,hi=>by
  cases i with
  | zero=>rfl
  | succ i=>exact Qa1 ks i (by simpa using hi)
theorem Kb (b:Bool):Q3 5 (tru b)=true:=by cases b <;> rfl
theorem Xi {t v:Int}(h:numY t=true):Q3 t v=true:=by
 unfold numY at h
 simp only [Bool.and_eq_true,decide_eq_true_eq] at h
 exact UE zY zY
theorem hold5 {v:Int}(h:Q3 5 v=true):v=0∨v=1:=by
 rw [hold_5] at h
 simpa using h
theorem Qbl {o a b v:Int}(ho:11≤o) (hv:op2 o a b=.ok v):Q3 5 v=true:=by
 unfold op2 at hv
 rw [if_neg zY,if_neg zY,if_neg zY,if_neg zY,if_neg zY,if_neg zY,if_neg zY] at hv
 by_cases e1:o=11
 ·rw [if_pos e1] at hv;cases hv;exact Kb _
 rw [if_neg e1] at hv
 by_cases e2:o=12
 ·rw [if_pos e2] at hv;cases hv;exact Kb _
 rw [if_neg e2] at hv
 by_cases e3:o=13
 ·rw [if_pos e3] at hv;cases hv;exact Kb _
 rw [if_neg e3] at hv
 by_cases e4:o=14
 ·rw [if_pos e4] at hv;cases hv;exact Kb _
 rw [if_neg e4] at hv
 by_cases e5:o=15
 ·rw [if_pos e5] at hv;cases hv;exact Kb _
 ·rw [if_neg e5] at hv;cases hv;exact Kb _
theorem VR {o a b u v:Int}{r1:Except Int Int}(h4:4≤o) (ht:(QS o a b).2=true) (h0:Q3 a u=true) (h1:∀ w,r1=.ok w→Q3 b w=true) (hv:opR o (.ok u) r1=.ok v):Q3 (QS o a b).1 v=true:=by
 by_cases e8:o=8
 ·subst e8
  have hp:QS 8 a b=J4 a b:=rfl
  rw [hp] at ht ⊢
  unfold J4 at ht ⊢
  by_cases a1:a=1
  ·subst a1
   exact Xi ht
  have:(a == 1)=false:=beq_false_of_ne a1
  simp only [this] at ht ⊢
  by_cases b1:b=1
  ·subst b1
   exact Xi ht
  have:(b == 1)=false:=beq_false_of_ne b1
  simp only [this] at ht ⊢
  exact UE (t:=1) (by decide) (by decide)
 by_cases e9:o=9
 ·subst e9
  have hp:QS 9 a b=Ko a b:=rfl
  rw [hp] at ht ⊢
  unfold Ko at ht ⊢
  by_cases b1:b=1
  ·subst b1
   exact Xi ht
  have:(b == 1)=false:=beq_false_of_ne b1
  simp only [this] at ht ⊢
  exact UE (t:=1) (by decide) (by decide)
 unfold QS at ht ⊢
 rw [if_neg (by simpa using e8),if_neg (by simpa using e9)] at ht ⊢
 unfold opR at hv
 simp only at hv
 rw [if_neg zY] at hv
 by_cases e17:o=17∨o=18
 ·rw [if_pos (by simpa using e17)] at ht ⊢
  simp only [Bool.and_eq_true,beq_iff_eq] at ht
  obtain⟨rfl,rfl⟩:=ht
  by_cases c1:o=17∧u=0
  ·rw [if_pos c1] at hv;cases hv;rfl
  rw [if_neg c1] at hv
  by_cases c2:o=18∧u=1
  ·rw [if_pos c2] at hv;cases hv;rfl
  rw [if_neg c2] at hv
  cases e:r1 with
  | error z=>rw [e] at hv;cases hv
  | ok w =>
   rw [e] at hv
   simp only at hv
   rw [if_pos e17] at hv
   cases hv
   exact h1 _ e
 rw [if_neg (by simpa using e17)] at ht ⊢
 rw [if_neg zY,if_neg zY] at hv
 cases e:r1 with
 | error z=>rw [e] at hv;cases hv
 | ok w =>
  rw [e] at hv
  simp only at hv
  rw [if_neg e17] at hv
  by_cases c3:o=13∨o=14∨o=15∨o=16
  ·rw [if_pos (by simpa [or_assoc] using c3)] at ht ⊢
   cases en:numY a with
   | false=>rw [en] at ht;simp at ht
   | true=>exact Qbl zY hv
  rw [if_neg (by simpa [or_assoc] using c3)] at ht ⊢
  by_cases c4:o=11∨o=12
  ·rw [if_pos (by simpa using c4)] at ht ⊢
   exact Qbl zY hv
  rw [if_neg (by simpa using c4)] at ht ⊢
  simp only [Bool.and_eq_true] at ht
  exact Xi ht.1
theorem Vy {o a u v:Int}{r1:Except Int Int}(h1:1≤o) (h3:o≤3) (ht:(JA o a).2=true) (h0:Q3 a u=true) (hv:opR o (.ok u) r1=.ok v):Q3 (JA o a).1 v=true:=by
 unfold opR at hv
 simp only at hv
 rw [if_pos h3] at hv
 unfold JA at ht ⊢
 by_cases e:o=2
 ·subst e
  simp only [beq_self_eq_true,if_true,beq_iff_eq] at ht ⊢
  subst ht
  unfold op1 at hv
  rw [if_neg (by decide),if_pos rfl] at hv
  cases hv
  rcases hold5 h0 with rfl | rfl <;> kernel_rfl
 ·have:(o == 2)=false:=beq_false_of_ne e
  simp only [this] at ht ⊢
  exact Xi ht
theorem Qhq {s:Sx.Sn}{L G:yB→Option Int}(hG:∀ x t,L x=some t→Q3 t ((G x).getD 0)=true):∀ (m:Nd),Qw m=true→∀ t v,tyR L m=.ok t→valR s G m=.ok v→Q3 t v=true:=by
 refine Nd.ind fun h a c ks ih hf t v ht hv=>?_
 simp only [Qw,oneH,Bool.and_eq_true] at hf
 have hfb:=hf.1.2
 unfold tyR at ht
 cases ets:tysR L ks with
 | error z=>rw [ets] at ht;cases ht
 | ok ts =>
 simp only [ets] at ht
 have hT:=Qc3 ks ts ets
 have hV:=fun i hi=>Qa1 (s:=s) (G:=G) ks i hi
 have hI:∀ i (hi:i < ks.length) u,valR s G ks[i]=.ok u→Q3 (ts.getD i 0) u=true:=fun i hi u hu=>ih _ (List.getElem_mem hi) (KX ks hf.2 _ (List.getElem_mem hi)) _ _ (hT i hi) hu
 unfold valR cmb at hv
 have hft:h.k≠2→(fitT h ks.length (ts.getD 0 0) (ts.getD 1 0) (ts.getD 2 0)).2=true∧t=(fitT h ks.length (ts.getD 0 0) (ts.getD 1 0) (ts.getD 2 0)).1:=fun hk=>by
  rw [if_neg (by simpa using hk)] at ht
  split at ht
  ·rename_i h2
   cases ht
   exact⟨h2,rfl⟩
  ·cases ht
 rcases V7 hfb with ⟨hk,hl⟩ | ⟨hk,hl⟩ | ⟨hk,hl,f1,f6⟩ | ⟨hk,hl,f1,f3⟩ | ⟨hk,hl,o1,o2⟩ | ⟨hk,hl,o6,o18⟩ | ⟨hk,hl⟩ | ⟨hk,hl,o3⟩ | ⟨hk,hl,o4,o5⟩ | ⟨hk,hl⟩
 ·rw [if_pos hk] at hv
  cases hv
  obtain⟨h2,rfl⟩:=hft zY
  have hF:fitT h ks.length (ts.getD 0 0) (ts.getD 1 0) (ts.getD 2 0)=(h.t,true):=by simp [fitT,hk]
  rw [hF]
  unfold fitB at hfb
  rw [if_pos hk] at hfb
  simp only [Bool.and_eq_true] at hfb
  have hl2:=hfb.2
  unfold litB at hl2
  show Q3 h.t h.n=true
  by_cases t5:h.t=5
  ·rw [if_pos t5] at hl2
   simp only [decide_eq_true_eq] at hl2
   rw [t5]
   have:h.n=0∨h.n=1:=by omega
   rcases this with e | e <;> rw [e] <;> rfl
  rw [if_neg t5] at hl2
  by_cases t6:h.t=6
  ·rw [if_pos t6] at hl2
   simp only [decide_eq_true_eq] at hl2
   rw [t6]
   have:h.n=1∨h.n=2:=by omega
   rcases this with e | e <;> rw [e] <;> rfl
  exact UE t5 t6
 ·rw [if_neg zY,if_pos hk] at hv
  cases hv
  rw [if_pos (by rw [hk];rfl)] at ht
  cases eL:L h.x with
  | none=>rw [eL] at ht;cases ht
  | some u=>rw [eL] at ht;cases ht;exact hG _ _ eL
 ·obtain⟨h2,rfl⟩:=hft zY
  have hF:fitT h ks.length (ts.getD 0 0) (ts.getD 1 0) (ts.getD 2 0)=(fldT h.f,true):=by simp [fitT,hk]
  rw [hF]
  show Q3 (fldT h.f) v=true
  have:h.f=1∨h.f=2∨h.f=3∨h.f=4∨h.f=5∨h.f=6:=by omega
  rcases this with e | e | e | e | e | e <;> rw [e] <;> exact UE (by decide) (by decide)
 ·obtain⟨h2,rfl⟩:=hft zY
  have hF:fitT h ks.length (ts.getD 0 0) (ts.getD 1 0) (ts.getD 2 0)=(5,true):=by simp [fitT,hk]
  rw [hF]
  rw [if_neg zY,if_neg zY,if_neg zY,if_pos hk] at hv
  cases hv
  exact Kb _
 ·obtain⟨h2,rfl⟩:=hft zY
  have hF:fitT h ks.length (ts.getD 0 0) (ts.getD 1 0) (ts.getD 2 0)=JA h.o (ts.getD 0 0):=by simp [fitT,hk,hl]
  rw [hF] at h2 ⊢
  rw [if_neg zY,if_neg zY,if_neg zY,if_neg zY,if_neg zY,if_neg zY,hV 0 zY] at hv
  cases e0:valR s G ks[0] with
  | error z=>rw [e0] at hv;unfold opR at hv;cases hv
  | ok u=>rw [e0] at hv;exact Vy zY zY h2 (hI 0 zY u e0) hv
 ·obtain⟨h2,rfl⟩:=hft zY
  have hF:fitT h ks.length (ts.getD 0 0) (ts.getD 1 0) (ts.getD 2 0)=QS h.o (ts.getD 0 0) (ts.getD 1 0):=by simp [fitT,hk,hl]
  rw [hF] at h2 ⊢
  rw [if_neg zY,if_neg zY,if_neg zY,if_neg zY,if_neg zY,if_neg zY,hV 0 zY,hV 1 zY] at hv
  cases e0:valR s G ks[0] with
  | error z=>rw [e0] at hv;unfold opR at hv;cases hv
  | ok u=>rw [e0] at hv;exact VR zY h2 (hI 0 zY u e0) (fun w hw=>hI 1 zY w hw) hv
 ·obtain⟨h2,rfl⟩:=hft zY
  have hF:fitT h ks.length (ts.getD 0 0) (ts.getD 1 0) (ts.getD 2 0)=(ts.getD 1 0,ts.getD 0 0 == 5 && ts.getD 1 0 == ts.getD 2 0):=by simp [fitT,hk]
  rw [hF] at h2 ⊢
  simp only [Bool.and_eq_true,beq_iff_eq] at h2
  rw [if_neg zY,if_neg zY,if_neg zY,if_neg zY,if_pos hk,hV 0 zY,hV 1 zY,hV 2 zY] at hv
  unfold cndR at hv
  cases e0:valR s G ks[0] with
  | error z=>rw [e0] at hv;cases hv
  | ok u =>
   rw [e0] at hv
   simp only at hv
   split at hv
   ·exact hI 1 zY _ hv
   ·have:=hI 2 zY _ hv
    rw [← h2.2] at this
    exact this
 ·obtain⟨h2,rfl⟩:=hft zY
  have hF:fitT h ks.length (ts.getD 0 0) (ts.getD 1 0) (ts.getD 2 0)=JA h.o (ts.getD 0 0):=by simp [fitT,hk,hl]
  rw [hF] at h2 ⊢
  rw [if_neg zY,if_neg zY,if_neg zY,if_neg zY,if_neg zY,if_neg zY,hV 0 zY] at hv
  cases e0:valR s G ks[0] with
  | error z=>rw [e0] at hv;unfold opR at hv;cases hv
  | ok u=>rw [e0] at hv;exact Vy zY zY h2 (hI 0 zY u e0) hv
 ·obtain⟨h2,rfl⟩:=hft zY
  have hF:fitT h ks.length (ts.getD 0 0) (ts.getD 1 0) (ts.getD 2 0)=QS h.o (ts.getD 0 0) (ts.getD 1 0):=by simp [fitT,hk,hl]
  rw [hF] at h2 ⊢
  rw [if_neg zY,if_neg zY,if_neg zY,if_neg zY,if_neg zY,if_neg zY,hV 0 zY,hV 1 zY] at hv
  cases e0:valR s G ks[0] with
  | error z=>rw [e0] at hv;unfold opR at hv;cases hv
  | ok u=>rw [e0] at hv;exact VR zY h2 (hI 0 zY u e0) (fun w hw=>hI 1 zY w hw) hv
 ·obtain⟨h2,rfl⟩:=hft zY
  have hF:fitT h ks.length (ts.getD 0 0) (ts.getD 1 0) (ts.getD 2 0)=(h.t,numY (ts.getD 0 0)):=by simp [fitT,hk]
  rw [hF]
  unfold fitB at hfb
  rw [if_neg zY,if_neg zY,if_neg zY,if_neg zY,if_neg zY,if_neg zY,if_neg zY,if_neg zY,if_pos hk] at hfb
  simp only [Bool.and_eq_true] at hfb
  have hn:=hfb.2
  unfold numB at hn
  simp only [decide_eq_true_eq] at hn
  show Q3 h.t v=true
  exact UE zY zY
theorem QdS:∀ (l:List yB) (P:yB→Option Nat) (i:Nat) (y:yB) (j:Nat),plA P i l y=some j→P y=some j∨(i≤j∧l[j - i]? = some y)
 | [],P,i,y,j,h=>.inl h
 | x :: xs,P,i,y,j,h=>by
  rcases QdS xs _ (i+1) y j h with h1 | ⟨h1,h2⟩
  ·by_cases e:x=y
   ·simp only [e,if_true] at h1
    cases h1
    exact .inr ⟨Nat.le_refl _,by simp [e]⟩
   ·simp only [if_neg e] at h1
    exact .inl h1
  ·refine .inr ⟨by omega,?_⟩
   obtain⟨k,ek⟩:∃ k,j - i=k+1:=⟨j - i - 1,by omega⟩
   rw [ek,List.getElem?_cons_succ]
   rw [show j - (i+1)=k by omega] at h2
   exact h2
theorem QhU {l:List yB}{y:yB}{j:Nat}(h:plL l y=some j):l[j]? = some y:=by
 rcases QdS l _ 0 y j h with h1 | ⟨_,h1⟩
 ·cases h1
 ·simpa using h1
theorem PU {l:List RegM}{r:RegM}{x:yB}(h:regL (l ++ [r]) x=none):regL l x=none∧¬ r.x=x:=by
 unfold regL at h ⊢
 rw [List.find?_append] at h
 cases e:l.find? (fun r=>decide (r.x=x)) with
 | some z=>rw [e] at h;simp at h
 | none =>
  rw [e] at h
  refine⟨rfl,fun e2=>?_⟩
  simp [e2] at h
theorem UL:∀ (rs l:List RegM),Jv l rs=none→(rs.map RegM.x).Nodup∧∀ r ∈ rs,regL l r.x=none
 | [],l,_=>⟨List.nodup_nil,fun r hr=>by cases hr⟩
 | y :: rs,l,h=>by
  unfold Jv at h
  by_cases e:(regL l y.x).isSome=true
  ·rw [if_pos e] at h;cases h
  rw [if_neg e] at h
  split at h
  ·obtain⟨h1,h2⟩:=UL rs (l ++ [y]) h
   refine⟨?_,fun r hr=>?_⟩
   ·rw [List.map_cons,List.nodup_cons]
    refine⟨fun hm=>?_,h1⟩
    obtain⟨r,hr,er⟩:=List.mem_map.1 hm
    exact (PU (h2 r hr)).2 er.symm
   ·rcases List.mem_cons.1 hr with rfl | hr
    ·cases e2:regL l r.x with
     | none=>rfl
     | some z=>rw [e2] at e;simp at e
    ·exact (PU (h2 r hr)).1
  ·cases h
theorem Qf0 {l:List RegM}{x:yB}{t:Int}(h:regL l x=some t):∃ i,∃ hi:i < l.length,l[i].x=x∧l[i].t=t:=by
 unfold regL at h
 obtain⟨r,hr,rfl⟩:=Option.map_eq_some_iff.1 h
 have h1:=List.find?_some hr
 obtain⟨i,hi,e⟩:=List.mem_iff_getElem.1 (List.mem_of_find?_eq_some hr)
 exact⟨i,hi,by rw [e];exact of_decide_eq_true h1,by rw [e]⟩
theorem Fm:∀ (rs:List RegM) (vs:List Int),JC rs vs=true→∀ i (h1:i < rs.length) (h2:i < vs.length),Q3 rs[i].t vs[i]=true
 | [],_,_,i,h1,_=>by simp at h1
 | r :: rs,[],_,i,_,h2=>by simp at h2
 | r :: rs,v :: vs,h,i,h1,h2=>by
  unfold JC at h
  by_cases e:Q3 r.t v=true
  ·rw [if_pos e] at h
   cases i with
   | zero=>exact e
   | succ i=>exact Fm rs vs h i (by simpa using h1) (by simpa using h2)
  ·rw [if_neg e] at h;cases h
theorem VZ:∀ (rs:List RegM) (vs:List Int),JC rs vs=true→∀ i (h1:i < rs.length) v,Q3 rs[i].t v=true→JC rs (vs.set i v)=true
 | [],_,_,i,h1,v,_=>by simp at h1
 | r :: rs,[],_,i,_,v,_=>rfl
 | r :: rs,u :: vs,h,i,h1,v,hv=>by
  unfold JC at h
  by_cases e:Q3 r.t u=true
  ·rw [if_pos e] at h
   cases i with
   | zero =>
    show JC (r :: rs) (v :: vs)=true
    unfold JC
    rw [if_pos (show Q3 r.t v=true from hv)]
    exact h
   | succ i =>
    show JC (r :: rs) (u :: vs.set i v)=true
    unfold JC
    rw [if_pos e]
    exact VZ rs vs h i (by simpa using h1) v hv
  ·rw [if_neg e] at h;cases h
structure RegK (S:Qg) (rg:List Int):Prop where
 nd:(S.rs.map RegM.x).Nodup
 ln:rg.length=S.rs.length
 hd:JC S.rs rg=true
theorem RegK.at {S:Qg}{rg:List Int}(h:RegK S rg) {x:yB}{t:Int}(e:regL S.rs x=some t):∃ i,∃ hi:i < S.rs.length,plL (S.rs.map RegM.x) x=some i∧S.rs[i].t=t:=by
 obtain⟨i,hi,e1,e2⟩:=Qf0 e
 have h1:=X4 (l:=S.rs) (y:=x) (by rw [e];rfl)
 obtain⟨j,hj⟩:=Option.isSome_iff_exists.1 h1
 have h2:=QhU hj
 have h3:(S.rs.map RegM.x)[i]? = some x:=by rw [List.getElem?_map,List.getElem?_eq_getElem hi,Option.map_some,e1]
 have hl:i < (S.rs.map RegM.x).length:=by rw [List.length_map];exact hi
 obtain rfl:=(List.getElem?_inj hl h.nd).1 (h3.trans h2.symm)
 exact⟨i,hi,hj,e2⟩
theorem RegK.ty {S:Qg}{rg:List Int}{s:Sx.Sn}(h:RegK S rg):∀ x t,regL S.rs x=some t→Q3 t ((gOf (cxOf S s).P rg x).getD 0)=true:=fun x t e=>by
 obtain⟨i,hi,e1,e2⟩:=h.at e
 have hg:gOf (cxOf S s).P rg x=rg[i]?:=by
  unfold gOf
  rw [show (cxOf S s).P x=some i from e1]
  rfl
 rw [hg,List.getElem?_eq_getElem (by rw [h.ln];exact hi),Option.getD_some,← e2]
 exact Fm _ _ h.hd i hi (by rw [h.ln];exact hi)
theorem RegK.put {S:Qg}{rg:List Int}(h:RegK S rg) {i:Nat}(hi:i < S.rs.length) {v:Int}(hv:Q3 S.rs[i].t v=true):RegK S (rg.set i v):=⟨h.nd,by rw [List.length_set];exact h.ln,VZ _ _ h.hd i hi v hv⟩
theorem QfY {S:Qg}(h:chkE S=none):(S.rs.map RegM.x).Nodup:=by
 have h1:=(XG h).2.1
 unfold decE at h1
 cases e:Jv [] S.rs with
 | some c=>rw [e] at h1;cases h1
 | none=>exact (UL S.rs [] e).1
theorem Qbt {S:Qg}{m:ModM}(h:isMo S m=true):0≤m.st∧m.st < S.ts.length∧m.rg.length=S.rs.length∧JC S.rs m.rg=true:=by
 unfold isMo at h
 simp only [Bool.and_eq_true,decide_eq_true_eq] at h
 exact h
open Go.Sort
theorem QfT (S:Qg) (o t n f:Int) (x:yB) (p:Int) (am:Option Addr) (l c:Nat) (v:Value) (w:yW) (hl:Qr w S) (k:Nat) (hk:k < S.rs.length) (hI:regI S.rs 0 x=(k:Int)):Calls zG 57 #[.agg S.vals,.agg #[zU 2,zU o,zU t,zI n,zU f,.string x,.slice am l c,zI p],v] w fun e w'=>e=.returned (two (S.rs[k].t,true))∧yD w w':=by
 have e2:=Qk w (.cells S.vals 26) (.cells #[zU 2,zU o,zU t,zI n,zU f,.string x,.slice am l c,zI p] 38)
 have n1:((zA w S.vals 26).alloc (.cells #[zU 2,zU o,zU t,zI n,zU f,.string x,.slice am l c,zI p] 38)).heap[w§]? = (zC S.vals 26):=Qz (Qc _ _) (by rw [Qe];omega)
 have n2:((zA w S.vals 26).alloc (.cells #[zU 2,zU o,zU t,zI n,zU f,.string x,.slice am l c,zI p] 38)).heap[w§+1]? = (zC #[zU 2,zU o,zU t,zI n,zU f,.string x,.slice am l c,zI p] 38):=by rw [← Qe w (.cells S.vals 26)];exact Qc _ _
 obtain⟨V,eV⟩:∃ V,(zA w S.vals 26).alloc (.cells #[zU 2,zU o,zU t,zI n,zU f,.string x,.slice am l c,zI p] 38)=V:=jV
 rw [eV] at e2 n1 n2
 have EV:=zH eV
 have HB:=zH e2
 have HN1:=zH n1
 have m0:zQ V ⟨w§+1,0,none⟩ (zU 2):=Qa n2 0
 have m1:zQ V ⟨w§+1,1,none⟩ (zU o):=Qa n2 1
 have m2:zQ V ⟨w§+1,2,none⟩ (zU t):=Qa n2 2
 have m4:zQ V ⟨w§+1,4,none⟩ (zU f):=Qa n2 4
 have m5:zQ V ⟨w§+1,5,none⟩ (.string x):=Qa n2 5
 clear n1 n2 eV
 obtain⟨b,q,ea,hat⟩:=(hl.on e2).1.2.2 k (by rw [List.length_map];exact hk)
 simp only [List.getElem_map] at hat
 have y1:zQ V ⟨b,q+k * 11+1,none⟩ (zU S.rs[k].t):=hat 1 zY
 obtain⟨T,eT⟩:∃ T,S.rs[k].t=T:=jV
 rw [eT] at y1 ⊢
 have hk1:(k:Int) < (S.rs.length:Int):=by omega
 obtain⟨s0,s1,s2,s3⟩:=cl4 HN1.out
 have HL:Hid (Qr V S):=hl.on e2
 have HI:=zH hI
 have HEA:=zH ea
 clear hat eT e2 hl hI hk
 go_enter func57,ntmps57
 go_upto_region 1 with fail
 rw [EV.out]
 clear EV
 go_upto_region 5 with fail
 have cq:∀ dq os,Calls zG 56 #[.agg #[.string S.x,.slice (some b¢q) S.rs.length S.rc,.slice S.sa S.ss.length S.sc,.slice S.ta S.ts.length S.tc],.string x] (grow (redrawn V dq) os) fun e w''=>e=.returned (zI (k:Int))∧∃ p:Regrown,w''=grow (redrawn V p.d) p.os:=fun dq os=>Calls.regrown_of (by
  have:=U1 S x _ (HL.out.on (below_regrown V dq os))
  rw [HI.out] at this
  unfold Qg.vals at this
  rw [HEA.out] at this
  exact this)
 rw [ea] at s1
 clear ea
 have k0:=cell_regrown s0
 have k1:=cell_regrown s1
 have k2:=cell_regrown s2
 have k3:=cell_regrown s3
 have j5:=cell_regrown m5
 have j1:=cell_regrown y1
 refine wp_region_quiet_below zK zK ?_
 repeat (quiet_step (exact cq _ _))
 refine wpQuiet_nil ?_
 intro _ hw'
 obtain⟨⟨dq,osq⟩,hw''⟩:=hw'
 subst hw''
 have HB5:=zH (Qd HB.out (below_regrown V dq osq))
 generalize grow (redrawn V dq) osq=w5 at HB5 ⊢
 go_wp2
 go_ret2
 exact⟨rfl,HB5.out⟩
def TsR (w:yW) (v:Value) (ts:List Int):Prop:=Row w 34 1 v ts.length (fun j=>zU (ts.getD j 0))
theorem TsR.on {w w':yW}{v:Value}{ts:List Int}(h:TsR w v ts) (k:yD w w'):TsR w' v ts:=h.of_block (fun q hq=>k.block q (Row.lt h q hq))
theorem TsR.at {w:yW}{v:Value}{ts:List Int}(h:TsR w v ts) (h0:0 < ts.length):∃ g cap,v=.slice (some g¢0) ts.length cap∧∀ j,j < ts.length→zQ w ⟨g,0+j,none⟩ (zU (ts.getD j 0)):=by
 obtain⟨ao,c,rfl,hg,_⟩:=Row.form h
 obtain⟨g,rfl⟩:=hg h0
 exact⟨g,c,rfl,fun j hj=>by rw [Nat.zero_add];exact Row.cell h zY⟩
theorem VN (S:Qg) (h:Hd) (a:Option Addr) (c:Nat) (ks:List Nd) (ts:List Int) (v:Value) (w:yW) (hl:Qr w S) (hf:Qw (.mk h a c ks)=true) (ht:ts.length=ks.length) (hv:TsR w v ts) (hr:h.k=2→(regL S.rs h.x).isSome=true) :
  Calls zG 57 #[.agg S.vals,.agg (Nd.mk h a c ks).vals,v] w fun e w'=>(∃ t b,e=.returned (two (t,b))∧(if h.k=2 then b=true∧regL S.rs h.x=some t else b=(fitT h ks.length (ts.getD 0 0) (ts.getD 1 0) (ts.getD 2 0)).2∧(b=true→t=(fitT h ks.length (ts.getD 0 0) (ts.getD 1 0) (ts.getD 2 0)).1)))∧yD w w':=by
 simp only [Qw,Bool.and_eq_true,oneH] at hf
 have hfit:=hf.1.2
 obtain⟨k,o,t,n,f,x,p⟩:=h
 unfold fitB at hfit
 simp only at hfit hr ⊢
 show Calls zG 57 #[.agg S.vals,.agg (zW k o t n f x a ks c p),v] w _
 by_cases h1:k=1
 ·subst h1
  refine (QfU S o t n f x p a ks.length c v w).mono ?_
  rintro e w' ⟨rfl,hb⟩
  exact⟨⟨t,true,rfl,by simp [fitT]⟩,hb⟩
 by_cases h2:k=2
 ·subst h2
  rcases UC S.rs 0 x with ⟨_,e⟩ | ⟨i,hi,e1,e2⟩
  ·rw [e] at hr;simp at hr
  ·refine (QfT S o t n f x p a ks.length c v w hl i hi (by rw [e1];congr 1;omega)).mono ?_
   rintro e w' ⟨rfl,hb⟩
   exact⟨⟨_,true,rfl,by simp [e2]⟩,hb⟩
 by_cases h3:k=3
 ·subst h3
  simp only [h1,h2,if_false,if_true,Bool.and_eq_true,decide_eq_true_eq] at hfit
  have hs:f=1∨f=2∨f=3∨f=4∨f=5∨f=6:=by omega
  rcases hs with rfl | rfl | rfl | rfl | rfl | rfl
  ·exact (QdE S o t n x p a ks.length c v w).mono (by rintro e w' ⟨rfl,hb⟩;exact⟨⟨_,true,rfl,by simp [fitT,fldT,fldL]⟩,hb⟩)
  ·exact (QdD S o t n x p a ks.length c v w).mono (by rintro e w' ⟨rfl,hb⟩;exact⟨⟨_,true,rfl,by simp [fitT,fldT,fldL]⟩,hb⟩)
  ·exact (QdC S o t n x p a ks.length c v w).mono (by rintro e w' ⟨rfl,hb⟩;exact⟨⟨_,true,rfl,by simp [fitT,fldT,fldL]⟩,hb⟩)
  ·exact (QdB S o t n x p a ks.length c v w).mono (by rintro e w' ⟨rfl,hb⟩;exact⟨⟨_,true,rfl,by simp [fitT,fldT,fldL]⟩,hb⟩)
  ·exact (QdA S o t n x p a ks.length c v w).mono (by rintro e w' ⟨rfl,hb⟩;exact⟨⟨_,true,rfl,by simp [fitT,fldT,fldL]⟩,hb⟩)
  ·exact (Qdz S o t n x p a ks.length c v w).mono (by rintro e w' ⟨rfl,hb⟩;exact⟨⟨_,true,rfl,by simp [fitT,fldT,fldL]⟩,hb⟩)
 by_cases h4:k=4
 ·subst h4
  refine (QfS S o t n f x p a ks.length c v w).mono ?_
  rintro e w' ⟨rfl,hb⟩
  exact⟨⟨5,true,rfl,by simp [fitT]⟩,hb⟩
 by_cases h7:k=7
 ·subst h7
  simp only [h1,h2,h3,h4,if_false,if_true,decide_eq_true_eq,show ¬ (7:Int)=5 by decide,show ¬ (7:Int)=6 by decide] at hfit
  obtain⟨g,cap,rfl,hc⟩:=hv.at zY
  have hl3:ts.length=3:=by omega
  rw [hl3] at hc ⊢
  refine (QfR S o t n f x p a ks.length c g 0 cap _ _ _ w (hc 0 zY) (hc 1 zY) (hc 2 zY)).mono ?_
  rintro e w' ⟨rfl,hb⟩
  exact⟨⟨_,_,rfl,by simp [fitT]⟩,hb⟩
 by_cases h9:k=9
 ·subst h9
  simp only [h1,h2,h3,h4,h7,if_false,if_true,Bool.and_eq_true,decide_eq_true_eq,show ¬ (9:Int)=5 by decide,show ¬ (9:Int)=6 by decide,show ¬ (9:Int)=8 by decide] at hfit
  obtain⟨g,cap,rfl,hc⟩:=hv.at zY
  have hl1:ts.length=1:=by omega
  rw [hl1] at hc ⊢
  refine (QfQ S o t n f x p a ks.length c g 0 cap _ w (hc 0 zY)).mono ?_
  rintro e w' ⟨rfl,hb⟩
  exact⟨⟨_,_,rfl,by simp [fitT]⟩,hb⟩
 by_cases h5:k=5
 ·subst h5
  simp only [h1,h2,h3,h4,if_false,if_true,Bool.and_eq_true,decide_eq_true_eq] at hfit
  obtain⟨g,cap,rfl,hc⟩:=hv.at zY
  have hl1:ts.length=1:=by omega
  have hk1:ks.length=1:=by omega
  rw [hl1] at hc ⊢
  by_cases ho:o=2
  ·subst ho
   refine (Qb4 S t n f x p a ks.length c g 0 cap _ w (hc 0 zY)).mono ?_
   rintro e w' ⟨rfl,hb⟩
   have ef:fitT ⟨5,2,t,n,f,x,p⟩ ks.length (ts.getD 0 0) (ts.getD 1 0) (ts.getD 2 0)=(ts.getD 0 0,ts.getD 0 0 == 5):=by simp [fitT,hk1,JA]
   refine⟨⟨_,_,rfl,?_⟩,hb⟩
   rw [if_neg (by decide),ef]
   exact⟨rfl,fun hh=>(beq_iff_eq.1 hh).symm⟩
  ·refine (Qab S o t n f x p a ks.length c g 0 cap _ w (by simpa using ho) (hc 0 zY)).mono ?_
   rintro e w' ⟨rfl,hb⟩
   exact⟨⟨_,_,rfl,by simp [fitT,hk1,JA,ho]⟩,hb⟩
 by_cases h6:k=6
 ·subst h6
  simp only [h1,h2,h3,h4,h5,if_false,if_true,Bool.and_eq_true,decide_eq_true_eq] at hfit
  obtain⟨g,cap,rfl,hc⟩:=hv.at zY
  have hl2:ts.length=2:=by omega
  have hk2:ks.length=2:=by omega
  rw [hl2] at hc ⊢
  refine (F9 S o t n f x p a ks.length c g 0 cap _ _ w (hc 0 zY) (hc 1 zY)).mono ?_
  rintro e w' ⟨rfl,hb⟩
  obtain⟨e1,e2⟩:=Ha (o:=o) (a:=ts.getD 0 0) (b:=ts.getD 1 0) zY
  have ef:fitT ⟨6,o,t,n,f,x,p⟩ ks.length (ts.getD 0 0) (ts.getD 1 0) (ts.getD 2 0)=QS o (ts.getD 0 0) (ts.getD 1 0):=by simp [fitT,hk2]
  refine⟨⟨_,_,rfl,?_⟩,hb⟩
  rw [if_neg (by decide),ef]
  exact⟨e1,fun hh=>e2 (e1 ▸ hh)⟩
 by_cases h8:k=8
 ·subst h8
  simp only [h1,h2,h3,h4,h5,h6,h7,if_false,if_true,Bool.or_eq_true,Bool.and_eq_true,decide_eq_true_eq] at hfit
  rcases hfit with ⟨hn,ho⟩ | ⟨hn,ho⟩
  ·obtain⟨g,cap,rfl,hc⟩:=hv.at zY
   have hl1:ts.length=1:=by omega
   rw [hl1] at hc ⊢
   refine (Qaa S o t n f x p a ks.length c g 0 cap _ w (by rw [ho];rfl) (hc 0 zY)).mono ?_
   rintro e w' ⟨rfl,hb⟩
   exact⟨⟨_,_,rfl,by simp [fitT,hn,JA,ho]⟩,hb⟩
  ·obtain⟨g,cap,rfl,hc⟩:=hv.at zY
   have hl2:ts.length=2:=by omega
   rw [hl2] at hc ⊢
   refine (F8 S o t n f x p a ks.length c g 0 cap _ _ w (hc 0 zY) (hc 1 zY)).mono ?_
   rintro e w' ⟨rfl,hb⟩
   obtain⟨e1,e2⟩:=Ha (o:=o) (a:=ts.getD 0 0) (b:=ts.getD 1 0) zY
   have ef:fitT ⟨8,o,t,n,f,x,p⟩ ks.length (ts.getD 0 0) (ts.getD 1 0) (ts.getD 2 0)=QS o (ts.getD 0 0) (ts.getD 1 0):=by simp [fitT,hn]
   refine⟨⟨_,_,rfl,?_⟩,hb⟩
   rw [if_neg (by decide),ef]
   exact⟨e1,fun hh=>e2 (e1 ▸ hh)⟩
 ·simp only [h1,h2,h3,h4,h5,h6,h7,h8,h9,if_false] at hfit
  cases hfit
open Go.ChangeShapes Go.WideShapes Go.ChangeAt
theorem Qcs {H:Type}{enc:TypeId × Value→H}{W:yW}{held:Bool}:Xt H enc W held 2 Int iA I64:=by
 intro fuel cs x h hz
 obtain⟨n,e,_,w⟩:=DataW.trod_int (show Tryz.prog.underlying 2=some (.int .i64) by kernel_rfl) h
 cases e
 exact⟨n,rfl,bounds_i64 w⟩
theorem Qcl {H:Type}{enc:TypeId × Value→H}{W:yW}{held:Bool}:Xt H enc W held 29 ModM ModM.vals (ModL W):=by
 intro fuel cs x h hz
 obtain⟨xs,k,hk,hx,hlen,hxl,hf⟩:=DataW.trod_struct underlying29 h
 rw [show Tryz.prog.cellsOf 29=2 by kernel_rfl] at hlen
 match cs,hlen with
 | [v0,v1],_ =>
  have hxn:xs.length=2:=hxl
  match xs,hxn with
  | [y0,y1],_ =>
   have hz':∀ (j:Nat) (t:TypeId) (d:DataW H),[3,27][j]? = some t→([y0,y1].map (·.1))[j]? = some d→∀ z ∈ d.weights zG t,z≤reachBytes:=by
    intro j t d h1 h2 z hz1
    refine hz z ?_
    rw [hx]
    have:=DataW.weights_mem_each (P:=zG) h1 h2 z hz1
    rw [show (DataW.weights zG 29 (.agg ([y0,y1].map (·.1)):DataW H))=DataW.weightsEach zG [3,27] ([y0,y1].map (·.1)) by
     rw [DataW.weights,underlying29];rfl]
    exact this
   have g0:DataW.trod enc zG W 0 (fun _=>true) held k 3 (([v0,v1].drop 0).take (Tryz.prog.cellsOf 3))=some y0:=hf 0 _ rfl
   rw [show Tryz.prog.cellsOf 3=1 by kernel_rfl] at g0
   have k0:DataW.trod enc zG W 0 (fun _=>true) held k 3 [v0]=some y0:=g0
   obtain⟨n0,e0,_,w0⟩:=DataW.trod_int (show Tryz.prog.underlying 3=some (.int .i64) by kernel_rfl) k0
   have g1:DataW.trod enc zG W 0 (fun _=>true) held k 27 (([v0,v1].drop 1).take (Tryz.prog.cellsOf 27))=some y1:=hf 1 _ rfl
   rw [show Tryz.prog.cellsOf 27=1 by kernel_rfl] at g1
   have k1:DataW.trod enc zG W 0 (fun _=>true) held k 27 [v1]=some y1:=g1
   obtain⟨a1,c1,n1,e1,s1,w1⟩:=Xw Qcs underlying27 (show Tryz.prog.cellsOf 2=1 by kernel_rfl) (by decide) (fun q=>rfl) k1 (fun z hz1=>hz' 1 27 y1.1 rfl rfl z hz1)
   cases e0
   cases e1
   exact⟨⟨n0,a1,c1,n1⟩,rfl,⟨s1,w1,bounds_i64 w0⟩⟩
theorem QhA {a b c d e g:Int}(h0:I64 a) (h1:I64 b) (h2:I64 c) (h3:I64 d) (h4:I64 e) (h5:I64 g):∀ f,I64 (Sx.getN ⟨a,b,c,d,e,g⟩ f):=fun f=>by
 unfold Sx.getN
 split
 ·exact h0
 split
 ·exact h1
 split
 ·exact h2
 split
 ·exact h3
 split
 ·exact h4
 split
 ·exact h5
 ·unfold I64;omega
theorem Qdl {H:Type}{enc:TypeId × Value→H}{W:yW}{held:Bool}:Xt H enc W held 31 Sx.Sn Sx.snA (fun s=>∀ f,I64 (Sx.getN s f)):=by
 intro fuel cs x h hz
 obtain⟨xs,k,hk,hx,hlen,hxl,hf⟩:=DataW.trod_struct underlying31 h
 rw [show Tryz.prog.cellsOf 31=6 by kernel_rfl] at hlen
 match cs,hlen with
 | [v0,v1,v2,v3,v4,v5],_ =>
  have hxn:xs.length=6:=hxl
  match xs,hxn with
  | [y0,y1,y2,y3,y4,y5],_ =>
   have hz':∀ (j:Nat) (t:TypeId) (d:DataW H),[2,2,2,2,2,2][j]? = some t→([y0,y1,y2,y3,y4,y5].map (·.1))[j]? = some d→∀ z ∈ d.weights zG t,z≤reachBytes:=by
    intro j t d h1 h2 z hz1
    refine hz z ?_
    rw [hx]
    have:=DataW.weights_mem_each (P:=zG) h1 h2 z hz1
    rw [show (DataW.weights zG 31 (.agg ([y0,y1,y2,y3,y4,y5].map (·.1)):DataW H))=DataW.weightsEach zG [2,2,2,2,2,2] ([y0,y1,y2,y3,y4,y5].map (·.1)) by
     rw [DataW.weights,underlying31];rfl]
    exact this
   have g0:DataW.trod enc zG W 0 (fun _=>true) held k 2 (([v0,v1,v2,v3,v4,v5].drop 0).take (Tryz.prog.cellsOf 2))=some y0:=hf 0 _ rfl
   rw [show Tryz.prog.cellsOf 2=1 by kernel_rfl] at g0
   have k0:DataW.trod enc zG W 0 (fun _=>true) held k 2 [v0]=some y0:=g0
   obtain⟨n0,e0,_,w0⟩:=DataW.trod_int (show Tryz.prog.underlying 2=some (.int .i64) by kernel_rfl) k0
   have g1:DataW.trod enc zG W 0 (fun _=>true) held k 2 (([v0,v1,v2,v3,v4,v5].drop 1).take (Tryz.prog.cellsOf 2))=some y1:=hf 1 _ rfl
   rw [show Tryz.prog.cellsOf 2=1 by kernel_rfl] at g1
   have k1:DataW.trod enc zG W 0 (fun _=>true) held k 2 [v1]=some y1:=g1
   obtain⟨n1,e1,_,w1⟩:=DataW.trod_int (show Tryz.prog.underlying 2=some (.int .i64) by kernel_rfl) k1
   have g2:DataW.trod enc zG W 0 (fun _=>true) held k 2 (([v0,v1,v2,v3,v4,v5].drop 2).take (Tryz.prog.cellsOf 2))=some y2:=hf 2 _ rfl
   rw [show Tryz.prog.cellsOf 2=1 by kernel_rfl] at g2
   have k2:DataW.trod enc zG W 0 (fun _=>true) held k 2 [v2]=some y2:=g2
   obtain⟨n2,e2,_,w2⟩:=DataW.trod_int (show Tryz.prog.underlying 2=some (.int .i64) by kernel_rfl) k2
   have g3:DataW.trod enc zG W 0 (fun _=>true) held k 2 (([v0,v1,v2,v3,v4,v5].drop 3).take (Tryz.prog.cellsOf 2))=some y3:=hf 3 _ rfl
   rw [show Tryz.prog.cellsOf 2=1 by kernel_rfl] at g3
   have k3:DataW.trod enc zG W 0 (fun _=>true) held k 2 [v3]=some y3:=g3
   obtain⟨n3,e3,_,w3⟩:=DataW.trod_int (show Tryz.prog.underlying 2=some (.int .i64) by kernel_rfl) k3
   have g4:DataW.trod enc zG W 0 (fun _=>true) held k 2 (([v0,v1,v2,v3,v4,v5].drop 4).take (Tryz.prog.cellsOf 2))=some y4:=hf 4 _ rfl
   rw [show Tryz.prog.cellsOf 2=1 by kernel_rfl] at g4
   have k4:DataW.trod enc zG W 0 (fun _=>true) held k 2 [v4]=some y4:=g4
   obtain⟨n4,e4,_,w4⟩:=DataW.trod_int (show Tryz.prog.underlying 2=some (.int .i64) by kernel_rfl) k4
   have g5:DataW.trod enc zG W 0 (fun _=>true) held k 2 (([v0,v1,v2,v3,v4,v5].drop 5).take (Tryz.prog.cellsOf 2))=some y5:=hf 5 _ rfl
   rw [show Tryz.prog.cellsOf 2=1 by kernel_rfl] at g5
   have k5:DataW.trod enc zG W 0 (fun _=>true) held k 2 [v5]=some y5:=g5
   obtain⟨n5,e5,_,w5⟩:=DataW.trod_int (show Tryz.prog.underlying 2=some (.int .i64) by kernel_rfl) k5
   cases e0
   cases e1
   cases e2
   cases e3
   cases e4
   cases e5
   exact⟨⟨n0,n1,n2,n3,n4,n5⟩,rfl,QhA (bounds_i64 w0) (bounds_i64 w1) (bounds_i64 w2) (bounds_i64 w3) (bounds_i64 w4) (bounds_i64 w5)⟩
theorem Qik {H:Type}{enc:TypeId × Value→H}{W:yW}{held:Bool}{fuel:Nat}{cs:Array Value}{x:DataW H × List MemPlace}
  (h:DataW.trod enc zG W 0 (fun _=>true) held fuel 29 (Value.agg cs).cells.toList=some x) (hz:∀ z ∈ x.1.weights zG 29,z≤reachBytes):∃ m:ModM,cs=m.vals∧ModL W m:=by
 obtain⟨m,hm,hl⟩:=Qcl fuel _ x h hz
 exact⟨m,Array.toList_inj.1 hm,hl⟩
theorem sn_in {H:Type}{enc:TypeId × Value→H}{W:yW}{held:Bool}{fuel:Nat}{cs:Array Value}{x:DataW H × List MemPlace}
  (h:DataW.trod enc zG W 0 (fun _=>true) held fuel 31 (Value.agg cs).cells.toList=some x) (hz:∀ z ∈ x.1.weights zG 31,z≤reachBytes):∃ s:Sx.Sn,cs=Sx.snA s∧∀ f,I64 (Sx.getN s f):=by
 obtain⟨m,hm,hl⟩:=Qdl fuel _ x h hz
 exact⟨m,Array.toList_inj.1 hm,hl⟩
end Go.Proofs.YtfbjofnaghjmeaaGreatDoor
