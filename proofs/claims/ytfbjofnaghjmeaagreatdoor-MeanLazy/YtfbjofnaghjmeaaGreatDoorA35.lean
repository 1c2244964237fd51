import Derived.Test.YtfbjofnaghjmeaaGreatDoorA28
import Derived.Test.YtfbjofnaghjmeaaGreatDoorA34
namespace Go.Proofs.YtfbjofnaghjmeaaGreatDoor
open Go.Proofs.Tryz
open Go Go.RowKit
set_option linter.unusedVariables false
theorem UV {m:Nd}(h:cE m=0):Qw m=true:=by
 unfold cE at h
 cases e:Qw m with
 | true=>rfl
 | false=>rw [e] at h;simp at h
theorem Qa4 {L:yB→Option Int}:∀ (l:List Nd) (ts:List Int),tysR L l=.ok ts→∀ k ∈ l,∃ t,tyR L k=.ok t
 | [],_,_,k,hk=>by cases hk
 | y :: l,ts,h,k,hk=>by
  unfold tysR at h
  cases e:tyR L y with
  | error c=>rw [e] at h;cases h
  | ok t =>
   rw [e] at h
   cases e2:tysR L l with
   | error c=>simp only [e2] at h;cases h
   | ok us =>
    rcases List.mem_cons.1 hk with rfl | hk
    ·exact⟨t,e⟩
    ·exact Qa4 l us e2 k hk
theorem Qag {L G:yB→Option Int}(hG:∀ y,(L y).isSome=true→(G y).isSome=true):∀ (m:Nd),Qw m=true→(∃ t,tyR L m=.ok t)→Res G m:=by
 refine Nd.ind fun h a c ks ih hf hte=>?_
 obtain⟨t,ht⟩:=hte
 simp only [Qw,oneH,Bool.and_eq_true] at hf
 unfold tyR at ht
 cases e:tysR L ks with
 | error c=>rw [e] at ht;cases ht
 | ok ts =>
  simp only [e] at ht
  refine .mk h a c ks hf.1.2 (fun hk=>?_) (fun k hk=>ih k hk (KX ks hf.2 k hk) (Qa4 ks ts e k hk))
  rw [if_pos (by rw [hk];rfl)] at ht
  cases eL:L h.x with
  | none=>rw [eL] at ht;cases ht
  | some u=>exact hG _ (by rw [eL];rfl)
theorem QdM {L:yB→Option Int}:∀ (l:List (Nd × Int)),psE L l=none→∀ q ∈ l,∃ t,tyR L q.1=.ok t
 | [],_,q,hq=>by cases hq
 | y :: l,h,q,hq=>by
  unfold psE at h
  cases e:pcE L y with
  | some c=>rw [e] at h;cases h
  | none =>
   rw [e] at h
   rcases List.mem_cons.1 hq with rfl | hq
   ·unfold pcE at e
    cases e2:tyR L q.1 with
    | error c=>rw [e2] at e;cases e
    | ok t=>exact⟨t,rfl⟩
   ·exact QdM l h q hq
theorem X4 {l:List RegM}{y:yB}(h:(regL l y).isSome=true):(plL (l.map RegM.x) y).isSome=true:=by
 unfold regL at h
 rw [Option.isSome_map] at h
 obtain⟨r,hr⟩:=Option.isSome_iff_exists.1 h
 have h1:=List.find?_some hr
 have h2:=List.mem_of_find?_eq_some hr
 have h3:r.x=y:=of_decide_eq_true h1
 exact Qbg (h3 ▸ List.mem_map.2 ⟨r,h2,rfl⟩)
theorem Ph {l:List yB}{y:yB}(h:inS l y=true):(plL l y).isSome=true:=by
 unfold inS at h
 obtain⟨z,hz,e⟩:=List.any_eq_true.1 h
 exact Qbg ((of_decide_eq_true e) ▸ hz)
theorem Qbx {P:yB→Option Nat}{y:yB}(h:(P y).isSome=true):(gP P y).isSome=true:=by
 unfold gP
 cases e:P y with
 | none=>rw [e] at h;cases h
 | some i=>rfl
theorem Xz {m:Nd}{is:Bool}(h:Q8 m is=0) (hi:is=true):Qw m=true:=by
 unfold Q8 at h
 rw [if_pos hi] at h
 exact UV h
theorem Qea {b:Bool}(h:okE b=0):b=true:=by unfold okE at h;cases b with | true=>rfl | false=>simp at h
theorem XZ {x:yB}(h:SzX x):x.size≤maxLen:=by unfold SzX at h;unfold maxLen;omega
theorem QgE {S:Qg}{s:Sx.Sn}{d:DoM}(hz:SzX d.x) (h:doE d=0) (hs:QT (regL S.rs) (S.ss.map Qx.x) (S.ts.map Qq.x) d.k d.x=true) (hp:psE (regL S.rs) (ptsL (regL S.rs) d)=none):DoOk (cxOf S s) d:=by
 have hr:∀ q ∈ ptsL (regL S.rs) d,Res (gP (cxOf S s).P) q.1:=fun q hq=>by
  refine Qag (L:=regL S.rs) (fun y hy=>Qbx (X4 hy)) q.1 ?_ (QdM _ hp q hq)
  unfold doE at h
  have h3:=(fs_0 (fs_0 (fs_0 h).2).2).2
  have a1:=fs_0 h3
  have a2:=fs_0 a1.2
  have a3:=fs_0 a2.2
  rcases Hq hq with ⟨e,i⟩ | ⟨e,i⟩ | ⟨e,i⟩ | ⟨e,i⟩ <;> rw [e]
  ·exact Xz a1.1 i
  ·exact Xz a2.1 i
  ·exact Xz a3.1 i
  ·exact Xz a3.2 i
 have hk:1≤d.k∧d.k≤6:=by unfold doE at h;exact of_decide_eq_true (Qea (fs_0 h).1)
 refine⟨hk.1,hk.2,XZ hz,?_,?_,?_,?_,?_⟩
 ·intro h3 hx
  unfold QT at hs
  have C:d.k=1∨d.k=2∨d.k=3:=by omega
  rcases C with e | e | e <;> rw [e] at hs
  ·simp only [hx,Bool.false_or,beq_self_eq_true,if_true] at hs
   exact Ph hs
  ·exact Ph hs
  ·exact Ph hs
 ·intro e
  unfold ptsL at hr
  rw [e,if_pos (by rfl)] at hr
  by_cases ho:d.o=2
  ·rw [if_pos (by rw [ho];rfl)] at hr
   exact⟨hr (d.sd,6) (by simp),hr (d.qt,2) (by simp),fun k=>absurd ho k⟩
  ·rw [if_neg (by simpa using ho)] at hr
   exact⟨hr (d.sd,6) (by simp),hr (d.qt,2) (by simp),fun _=>hr (d.pr,3) (by simp)⟩
 ·intro e
  unfold ptsL at hr
  rw [e,if_neg (by decide),if_pos (by rfl)] at hr
  exact⟨hr (d.qt,2) (by simp),hr (d.pr,3) (by simp)⟩
 ·intro e
  unfold ptsL at hr
  rw [e,if_neg (by decide),if_neg (by decide),if_pos (by rfl)] at hr
  unfold QT at hs
  rw [e] at hs
  exact⟨X4 hs,hr (d.vl,_) (List.mem_singleton.2 rfl)⟩
 ·intro e
  unfold QT at hs
  rw [e] at hs
  exact Ph hs
theorem QbE {L:yB→Option Int}{S2 S3:List yB}:∀ (ds:List DoM) (en:Bool),dosE L S2 S3 en ds=none→∀ d ∈ ds,QT L S2 S3 d.k d.x=true∧psE L (ptsL L d)=none
 | [],_,_,d,hd=>by cases hd
 | y :: ds,en,h,d,hd=>by
  unfold dosE at h
  cases en with
  | true=>simp at h
  | false =>
   simp only [if_neg (show ¬ (false=true) by decide)] at h
   cases es:QT L S2 S3 y.k y.x with
   | false=>rw [es] at h;simp at h
   | true =>
    rw [es,if_pos rfl] at h
    cases ep:psE L (ptsL L y) with
    | some c=>rw [ep] at h;cases h
    | none =>
     rw [ep] at h
     rcases List.mem_cons.1 hd with rfl | hd
     ·exact⟨es,ep⟩
     ·exact QbE ds _ h d hd
theorem Qbc {L:yB→Option Int}{S2 S3:List yB}:∀ (l:List Qy),rusE L S2 S3 l=none→∀ r ∈ l,ruE L S2 S3 r=none
 | [],_,r,hr=>by cases hr
 | y :: l,h,r,hr=>by
  cases e:ruE L S2 S3 y with
  | some c=>rw [Uz e] at h;cases h
  | none =>
   rw [UA e] at h
   rcases List.mem_cons.1 hr with rfl | hr
   ·exact e
   ·exact Qbc l h r hr
theorem Qba {L:yB→Option Int}{S2 S3:List yB}:∀ (l:List Qq),stsE L S2 S3 l=none→∀ x ∈ l,rusE L S2 S3 x.rs=none
 | [],_,r,hr=>by cases hr
 | y :: l,h,r,hr=>by
  cases e:rusE L S2 S3 y.rs with
  | some c=>rw [Ux e] at h;cases h
  | none =>
   rw [Uy e] at h
   rcases List.mem_cons.1 hr with rfl | hr
   ·exact e
   ·exact Qba l h r hr
theorem XG {S:Qg}(h:chkE S=none):QR S=0∧decE S=none∧stsE (regL S.rs) (S.ss.map Qx.x) (S.ts.map Qq.x) S.ts=none:=by
 unfold chkE at h
 by_cases e:QR S=0
 ·rw [if_pos e] at h
  cases ed:decE S with
  | some c=>rw [ed] at h;cases h
  | none=>rw [ed] at h;exact⟨e,rfl,h⟩
 ·rw [if_neg e] at h;cases h
theorem QbI {n l m:Int}(h:cntE n l m=0):l≤n∧n≤m:=by
 unfold cntE at h
 split at h
 ·simp at h
 ·split at h
  ·simp at h
  ·omega
theorem QfV {S:Qg}{s:Sx.Sn}{w:yW}(hl:Qr w S) (h:chkE S=none):∀ x ∈ S.ts,∀ r ∈ x.rs,RlOk (cxOf S s) r:=fun x hx r hr=>by
 obtain⟨h1,_,h3⟩:=XG h
 have hru:=Qbc _ (Qba _ h3 x hx) r hr
 unfold QR at h1
 have a1:=fs_0 (fs_0 (fs_0 h1).2).2
 have a2:=(fs_0 (fs_0 (fs_0 a1.2).2).2).2
 have hx0:=XN _ a2 _ (List.mem_map.2 ⟨x,hx,rfl⟩)
 unfold Jg at hx0
 have hr0:=XN _ (fs_0 (fs_0 hx0).2).2 _ (List.mem_map.2 ⟨r,hr,rfl⟩)
 unfold JH at hr0
 have b1:=fs_0 hr0
 have b2:=fs_0 b1.2
 have hrl:=(hl.2.2.2.2.2.1 x hx).2.1 r hr
 unfold ruE at hru
 cases ep:pcE (regL S.rs) (r.m,5) with
 | some c=>rw [ep] at hru;cases hru
 | none =>
  rw [ep] at hru
  refine⟨?_,fun d hd=>?_,?_⟩
  ·refine Qag (L:=regL S.rs) (fun y hy=>Qbx (X4 hy)) r.m (UV b1.1) ?_
   unfold pcE at ep
   cases e2:tyR (regL S.rs) r.m with
   | error c=>rw [e2] at ep;cases ep
   | ok t=>exact⟨t,rfl⟩
  ·have hd0:=XN _ b2.2 _ (List.mem_map.2 ⟨d,hd,rfl⟩)
   have hdd:=QbE _ _ hru d hd
   exact QgE (hrl.2.2.1 d hd).2.2.2.2.2.2.2 hd0 hdd.1 hdd.2
  ·have:=(QbI b2.1).2;omega
theorem Qh7 {S:Qg}{w:yW}(hl:Qr w S) (h:QR S=0):NmZ S:=by
 unfold QR at h
 have a1:=fs_0 (fs_0 (fs_0 h).2).2
 have a2:=(QbI (fs_0 a1.2).1).2
 exact⟨fun d hd=>XZ (hl.2.1 d hd).2.2.2,fun d hd=>XZ (hl.2.2.2.1 d hd).2,fun d hd=>XZ (hl.2.2.2.2.2.1 d hd).2.2.2,by omega⟩
theorem QhN {S:Qg}(h:QR S=0):S.rs.length≤12:=by
 unfold QR at h
 have a1:=(QbI (fs_0 (fs_0 h).2).1).2
 omega
def erN (S:Qg):Int:=match chkE S with
 | none=>0
 | some q=>q.2
theorem ty_no {L:yB→Option Int}:∀ (m:Nd) (q:Int × Int),tyR L m=.error q→q.2≠0:=by
 refine Nd.ind fun h a c ks ih q hq=>?_
 unfold tyR at hq
 have hks:∀ (l:List Nd) (q:Int × Int),(∀ k ∈ l,∀ q:Int × Int,tyR L k=.error q→q.2≠0)→tysR L l=.error q→q.2≠0:=by
  intro l
  induction l with
  | nil=>intro q _ e;cases e
  | cons y l ihl =>
   intro q hk e
   unfold tysR at e
   cases e1:tyR L y with
   | error c=>rw [e1] at e;cases e;exact hk y (List.mem_cons_self ..) q e1
   | ok t =>
    rw [e1] at e
    cases e2:tysR L l with
    | error c=>simp only [e2] at e;cases e;exact ihl q (fun k hm=>hk k (List.mem_cons_of_mem _ hm)) e2
    | ok ts=>simp only [e2] at e;cases e
 cases e:tysR L ks with
 | error c=>rw [e] at hq;cases hq;exact hks ks q ih e
 | ok ts =>
  simp only [e] at hq
  split at hq
  ·split at hq
   ·cases hq
   ·cases hq;simp
  ·split at hq
   ·cases hq
   ·cases hq;simp
theorem Qg8 {L:yB→Option Int}{p:Nd × Int}{q:Int × Int}(h:pcE L p=some q):q.2≠0:=by
 unfold pcE at h
 cases e:tyR L p.1 with
 | error c=>rw [e] at h;cases h;exact ty_no _ _ e
 | ok t =>
  simp only [e] at h
  split at h
  ·cases h
  ·cases h;simp
theorem Qg6 {L:yB→Option Int}:∀ (l:List (Nd × Int)) (q:Int × Int),psE L l=some q→q.2≠0
 | [],q,h=>by cases h
 | y :: l,q,h=>by
  unfold psE at h
  cases e:pcE L y with
  | some c=>rw [e] at h;cases h;exact Qg8 e
  | none=>rw [e] at h;exact Qg6 l q h
theorem Qe1 {L:yB→Option Int}{S2 S3:List yB}:∀ (ds:List DoM) (en:Bool) (q:Int × Int),dosE L S2 S3 en ds=some q→q.2≠0
 | [],_,q,h=>by cases h
 | y :: ds,en,q,h=>by
  unfold dosE at h
  split at h
  ·cases h;simp
  ·split at h
   ·cases e:psE L (ptsL L y) with
    | some c=>rw [e] at h;cases h;exact Qg6 _ _ e
    | none=>rw [e] at h;exact Qe1 ds _ q h
   ·cases h;simp
theorem Qdb {L:yB→Option Int}{S2 S3:List yB}:∀ (l:List Qq) (q:Int × Int),stsE L S2 S3 l=some q→q.2≠0
 | [],q,h=>by cases h
 | y :: l,q,h=>by
  have hr:∀ (l:List Qy) (q:Int × Int),rusE L S2 S3 l=some q→q.2≠0:=by
   intro l
   induction l with
   | nil=>intro q e;cases e
   | cons r l ih =>
    intro q e
    cases e1:ruE L S2 S3 r with
    | none=>rw [UA e1] at e;exact ih q e
    | some c =>
     rw [Uz e1] at e
     cases e
     unfold ruE at e1
     cases e2:pcE L (r.m,5) with
     | some c=>rw [e2] at e1;cases e1;exact Qg8 e2
     | none=>rw [e2] at e1;exact Qe1 _ _ _ e1
  cases e:rusE L S2 S3 y.rs with
  | none=>rw [Uy e] at h;exact Qdb l q h
  | some c=>rw [Ux e] at h;cases h;exact hr _ _ e
theorem Qat:∀ (l:List (yB × Int)) (S:List yB) (q:Int × Int),dNms S l=some q→q.2≠0
 | [],_,q,h=>by cases h
 | y :: l,S,q,h=>by
  unfold dNms at h
  split at h
  ·cases h;simp
  ·exact Qat l _ q h
theorem Qbe:∀ (l l0:List RegM) (q:Int × Int),Jv l0 l=some q→q.2≠0
 | [],_,q,h=>by cases h
 | y :: l,l0,q,h=>by
  unfold Jv at h
  split at h
  ·cases h;simp
  ·split at h
   ·exact Qbe l _ q h
   ·cases h;simp
theorem er_0 {S:Qg}(h:erN S=0):chkE S=none:=by
 unfold erN at h
 cases e:chkE S with
 | none=>rfl
 | some q =>
  rw [e] at h
  refine absurd h ?_
  unfold chkE at e
  split at e
  ·cases ed:decE S with
   | some c =>
    rw [ed] at e
    cases e
    unfold decE at ed
    cases e1:Jv [] S.rs with
    | some c=>rw [e1] at ed;cases ed;exact Qbe _ _ _ e1
    | none =>
     rw [e1] at ed
     cases e2:dNms [] (S.ss.map slN) with
     | some c=>simp only [e2] at ed;cases ed;exact Qat _ _ _ e2
     | none=>simp only [e2] at ed;exact Qat _ _ _ ed
   | none=>rw [ed] at e;exact Qdb _ _ e
  ·cases e;assumption
set_option maxRecDepth 100000
set_option maxHeartbeats 8000000
set_option linter.unusedSimpArgs false
theorem V8 (w:yW):Calls zG 33 #[.nilIface] w fun e w'=>e=.returned (zI 0)∧yD w w':=by
 have c:=Qak w
 go_enter func33,ntmps33
 go_wp2_with fail
 refine c.mono ?_
 rintro e w1 ⟨rfl,e1⟩
 obtain rfl:=e1.symm
 go_wp2
 go_ret
 exact⟨rfl,Below.refl _ _⟩
theorem Vp {w:yW}{v:Value}{n p:Int}(h:Er w v n p) (hg:Ety w):Calls zG 33 #[v] w fun e w'=>e=.returned (zI n)∧yD w w':=by
 have c:=Qal h hg
 clear h hg
 go_enter func33,ntmps33
 go_wp2_with fail
 refine c.mono ?_
 rintro e w1 ⟨rfl,hb⟩
 have HB:=zH hb
 clear hb c
 go_wp2
 go_ret
 exact⟨rfl,HB.out⟩
def Q3 (t n:Int):Bool:=if t == 5 then (n == 0 || n == 1) else if t == 6 then (n == 1 || n == 2) else true
theorem QeI (t n:Int) (w:yW):Calls zG 96 #[zU t,zI n] w fun e w'=>e=.returned (.bool (Q3 t n))∧w'=w:=by
 obtain⟨p,hp⟩:∃ p,(t == 5)=p:=jV
 obtain⟨q,hq⟩:∃ q,(t == 6)=q:=jV
 obtain⟨r0,h0⟩:∃ p,(n == 0)=p:=jV
 obtain⟨r1,h1⟩:∃ p,(n == 1)=p:=jV
 obtain⟨r2,h2⟩:∃ p,(n == 2)=p:=jV
 have HE:Hid (Q3 t n=if p then (r0 || r1) else if q then (r1 || r2) else true):=by show _=_;simp only [Q3,hp,hq,h0,h1,h2]
 cases p with
 | true =>
  clear h2 hq
  cases r0 <;> cases r1 <;> (go_enter func96,ntmps96;go_wp2_with fail;go_ret;exact⟨by rw [HE.out];rfl,rfl⟩)
 | false =>
  cases q with
  | true =>
   clear h0
   cases r1 <;> cases r2 <;> (go_enter func96,ntmps96;go_wp2_with fail;go_ret;exact⟨by rw [HE.out];rfl,rfl⟩)
  | false =>
   clear h0 h1 h2
   (go_enter func96,ntmps96;go_wp2_with fail;go_ret;exact⟨by rw [HE.out];rfl,rfl⟩)
def JC:List RegM→List Int→Bool
 | r :: rs,v :: vs=>if Q3 r.t v=true then JC rs vs else false
 | _,_=>true
def isMo (S:Qg) (m:ModM):Bool:=decide (0≤m.st) && (decide (m.st < S.ts.length) && (decide (m.rg.length=S.rs.length) && JC S.rs m.rg))
theorem bdn {B:Nat}{w w':yW}{n:Nat}(h:Below B w w'):Below B w (w'.drewN n):=⟨h.os,h.tape,h.output,h.size,h.block⟩
structure Bx2 (w:yW) (S:Qg) (m:ModM) (g:Nat):Prop where
 a:w.heap[g]? = (zC S.vals 26)
 b:w.heap[g+1]? = (zC m.vals 29)
theorem Bx2.on {w w':yW}{S:Qg}{m:ModM}{g:Nat}(h:Bx2 w S m g) (k:yD w w'):Bx2 w' S m g:=⟨heapOf k h.a,heapOf k h.b⟩
theorem QbK (w:yW) (S:Qg) (m:ModM):Bx2 ((zA w S.vals 26).alloc (.cells m.vals 29)) S m w§∧yD w ((zA w S.vals 26).alloc (.cells m.vals 29))∧((zA w S.vals 26).alloc (.cells m.vals 29))§=w§+2:=by
 have b1:=Qb w (.cells S.vals 26)
 have b2:=Qb (zA w S.vals 26) (.cells m.vals 29)
 have n1:=Qc w (.cells S.vals 26)
 have n2:=Qc (zA w S.vals 26) (.cells m.vals 29)
 rw [Qe] at n2
 exact⟨⟨heapOf b2 n1,n2⟩,Qd b1 b2,by rw [Qe,Qe]⟩
theorem QaI (S:Qg) (m:ModM) (w:yW) (hl:Qr w S) (hm:ModL w m):Calls zG 58 #[.agg S.vals,.agg m.vals] w fun e w'=>e=.returned (.bool (isMo S m))∧yD w w':=by
 obtain⟨h2,hb2,hz2⟩:=QbK w S m
 obtain⟨W,eW⟩:∃ W,(zA w S.vals 26).alloc (.cells m.vals 29)=W:=jV
 have EW:=zH eW
 rw [eW] at h2 hb2 hz2
 have HB:=zH hb2
 have H2:=zH h2
 have HZ:=zH hz2
 have HL:Hid (Qr w S∧ModL w m):=⟨hl,hm⟩
 have hlr:S.rs.length≤jX:=by have h1:=hl.1.1;have h2:=hl.1.2.1;rw [List.length_map] at h1;omega
 have HLR:=zH hlr
 clear h2 hb2 hz2 eW hl hm hlr
 obtain⟨g,eg⟩:∃ g,w§=g:=jV
 have HG:Hid (w§=g):=eg
 rw [eg] at H2
 obtain⟨z0,z1⟩:=cl2 H2.out.b
 have z2:zQ W g¢1 (.slice S.ra S.rs.length S.rc):=Qa H2.out.a 1
 have z3:zQ W g¢3 (.slice S.ta S.ts.length S.tc):=Qa H2.out.a 3
 clear eg
 by_cases h1:m.st < 0
 ·have HE:Hid (isMo S m=false):=by show _=_;unfold isMo;rw [decide_eq_false zY];rfl
  go_enter func58,ntmps58
  go_upto_region 1 with fail
  rw [EW.out,HG.out]
  go_wp2
  go_ret
  exact⟨by rw [HE.out];rfl,HB.out⟩
 by_cases h3:(S.ts.length:Int)≤m.st
 ·have HE:Hid (isMo S m=false):=by show _=_;unfold isMo;rw [decide_eq_false (p:=m.st < S.ts.length) zY];simp
  go_enter func58,ntmps58
  go_upto_region 1 with fail
  rw [EW.out,HG.out]
  go_wp2
  go_ret
  exact⟨by rw [HE.out];rfl,HB.out⟩
 by_cases h4:m.rg.length=S.rs.length
 rotate_left
 ·have HE:Hid (isMo S m=false):=by show _=_;unfold isMo;rw [decide_eq_false (p:=m.rg.length=S.rs.length) h4];simp
  have h5:¬ (m.rg.length:Int)=(S.rs.length:Int):=by omega
  go_enter func58,ntmps58
  go_upto_region 1 with fail
  rw [EW.out,HG.out]
  go_wp2
  go_ret
  exact⟨by rw [HE.out];rfl,HB.out⟩
 have HE:Hid (isMo S m=JC S.rs m.rg):=by show _=_;unfold isMo;rw [decide_eq_true zY,decide_eq_true zY,decide_eq_true h4];rfl
 obtain⟨R,eR⟩:∃ R,JC S.rs m.rg=R:=jV
 rw [eR] at HE
 have HR:Hid (JC S.rs m.rg=R):=eR
 have H4:=zH h4
 obtain⟨n,en⟩:∃ n,m.rg.length=n:=jV
 obtain⟨k,ek⟩:∃ k,S.rs.length=k:=jV
 have EK:Hid (S.rs.length=k):=ek
 have EN:Hid (m.rg.length=n):=en
 rw [en] at z1
 rw [ek] at z2
 obtain rfl:n=k:=by omega
 clear h4 eR en ek
 rw [HE.out]
 go_enter func58,ntmps58
 go_upto_region 1 with fail
 rw [EW.out,HG.out]
 clear EW HE
 go_upto_region 4 with fail
 clear z0 z3 h1 h3
 go_wp2_with fail
 have HZ1:=zH z1
 clear z1 z2
 go_loopw [30] (fun t wr=>∃ (i:Nat),i≤n∧t=zI i∧Hid (yD w wr)∧Hid (yD W wr)∧Hid (JC (S.rs.drop i) (m.rg.drop i)=R)) (fun t _=>n - (intOf t).toNat)
 case atStart=>exact⟨0,by omega,rfl,HB,Below.refl _ _,HR⟩
 case round =>
  obtain⟨i,hi,rfl,HBR,HBW,HRR⟩:=hrel
  by_cases hlt:i < n
  ·have hlt':(i:Int) < (n:Int):=by omega
   have hmx:(i:Int)+1≤jX:=by have h1:=HLR.out;have h2:=EK.out;omega
   have hlt1:i < S.rs.length:=by rw [EK.out];exact hlt
   have hlt2:i < m.rg.length:=by rw [EN.out];exact hlt
   obtain⟨b,o,ea,hat⟩:=(HL.out.1.1.on (mapz RegM.sz _) HBR.out).2.2 i (by rw [List.length_map];exact hlt1)
   simp only [List.getElem_map] at hat
   obtain⟨b2,o2,ea2,hat2⟩:=(HL.out.2.on HBR.out).1.2.2 i (by rw [List.length_map];exact hlt2)
   simp only [List.getElem_map] at hat2
   have HTK:Hid ((if Q3 S.rs[i].t m.rg[i]=true then JC (S.rs.drop (i+1)) (m.rg.drop (i+1)) else false)=R):=by show _=_;rw [← HRR.out,List.drop_eq_getElem_cons hlt1,List.drop_eq_getElem_cons hlt2];rfl
   obtain⟨d,ed⟩:∃ d,S.rs[i]=d:=jV
   obtain⟨u,eu⟩:∃ u,m.rg[i]=u:=jV
   rw [ed] at hat HTK
   rw [eu] at hat2 HTK
   have hc2:zQ wr ⟨b2,o2+i,none⟩ (zI u):=by have:=hat2 0 zY;simpa [iA] using this
   have HC2:=zH hc2
   have EA2:=zH ea2
   have HRG:Hid (wr.rangeAt b (o+i * 11) d.vals.toList):=fun j v hv=>by
    have hj:j < 11:=(List.getElem?_eq_some_iff.1 hv).1
    rw [hat j hj,← hv];simp
   have HN:Hid ((zA wr ze 102).heap[wr§]? = (zC ze 102)):=Qc _ _
   have hbx:yD wr ((zA wr ze 102).setRow wr§ d.vals):=Qn (Qb _ _) (Nat.le_refl _) _
   have HBX:=zH (Qd HBR.out hbx)
   have HBY:=zH (Qd HBW.out hbx)
   have HNX:Hid (((zA wr ze 102).setRow wr§ d.vals).heap[wr§]? = (zC d.vals 102)):=setRow_heap _ _ _ _ _ _ HN.out
   have HCX:=zH (QG hc2 hbx)
   rw [ea] 
   clear hat ed hbx hat2 eu hc2 HC2 HRR hlt1 hlt2 ea2
   go_upto_region 6 with (first | (refine wpList_load_mid rfl 102 (.tmp 33) rfl b (o+i * 11) rfl d.vals.toList _ HRG.out underlying102 rfl (by show _=some 11;exact QO) ?_;rw [Array.toArray_toList]) | (refine wpList_store_row rfl 102 (.tmp 6) (.tmp 34) rfl wr§ d.vals rfl rfl 102 ze HN.out QO rfl (Uq d) ?_))
   generalize hWX:World.setRow _ _ _=WX
   rw [hWX] at HBX HNX HCX HBY
   clear hWX HN HRG
   obtain⟨G,eG⟩:∃ G,wr§=G:=jV
   rw [eG] at HNX ⊢
   clear eG
   have d1:zQ WX G¢1 (zU d.t):=Qa HNX.out 1
   have d2:zQ WX ⟨g+1,1,none⟩ (.slice (some b2¢o2) n m.rc):=by rw [← EA2.out];exact QG HZ1.out HBY.out
   have d3:zQ WX ⟨b2,o2+i,none⟩ (zI u):=HCX.out
   have cH:=QeI d.t u
   obtain⟨B,eB⟩:∃ B,Q3 d.t u=B:=jV
   rw [eB] at cH HTK
   clear eB HNX HCX
   have h0i:(0:Int)≤(i:Int):=by omega
   cases B with
   | true =>
    have HT2:=zH HTK.out
    go_quiet ((go_at_call 96;refine Calls.quiet_of_same (cH _)))
    go_wp2_with fail
    exact⟨⟨i+1,hlt,rfl,bdn HBX.out,bdn HBY.out,HT2⟩,by simp only [intOf];omega⟩
   | false =>
    have HT2:Hid (R=false):=HTK.out.symm
    go_quiet ((go_at_call 96;refine Calls.quiet_of_same (cH _)))
    go_wp2
    go_ret
    exact⟨by rw [HT2.out];rfl,bdn HBX.out⟩
  ·obtain rfl:i=n:=by omega
   have hnot:¬ (i:Int) < (i:Int):=by omega
   have HT2:Hid (R=true):=by show _=_;rw [← HRR.out,← EK.out,List.drop_length];rfl
   go_wp2
   go_ret
   exact⟨by rw [HT2.out];rfl,HBR.out⟩
def wrN (S:Qg) (m:ModM) (s:Sx.Sn):Int:=if erN S=0 then (if isMo S m=true then Sx.chkN s else 171) else erN S
theorem TnW.other {B h0:Nat}{x:Cx}{tb rb mb sb gb:Nat}{w w':yW}{av:Value}{q:Tm}(h:TnW B h0 x tb rb mb sb gb w av q) {g:Nat}{cs:Array Value}{t:TypeId}{fr:Nat × Nat}(hg:(g,Obj.cells cs t fr) ∈ x.K) (ho:∀ b,b≠g→w'.heap[b]? = w.heap[b]?) (hz:w§≤w'§) {K:List (Nat × Obj)}(hK:∀ p ∈ K,p ∈ x.K∧p.1≠g):TnW B h0 { x with K:=K } tb rb mb sb gb w' av q:=by
 obtain⟨k1,k2,k3,k4⟩:=h.kp _ hg
 exact { h with
  t:=(ho _ (Ne.symm k3)).trans h.t
  r:=(ho _ (Ne.symm k4)).trans h.r
  p:=h.p.blk (ho _ (h.p.no k1))
  s:=h.s.blk (ho _ (h.s.no k1))
  g:=h.g.blk (ho _ (h.g.no k1))
  row:=h.row.of_block (fun b hb=>ho b (fun e=>by have:=h.nb b hb;have k2:g < h0:=k2;omega))
  hw:=Nat.le_trans h.hw hz
  kp:=fun p hp=>⟨(ho _ (hK p hp).2).trans (h.kp p (hK p hp).1).1,(h.kp p (hK p hp).1).2⟩ }
theorem Vs (v:Value) (w:yW):(Instr.typeAssert (.iface 146 v) 20 146 true).run zG w=.ok (.tuple #[v,.bool true]) w:=by
 simp [Instr.typeAssert,run_underlying underlying146,go_sem,Result.andThen]
theorem Qft (w:yW):(zeroValue 146).run zG w=.ok (zI 0) w:=by kernel_rfl
theorem Uo (w:yW):(Instr.typeAssert .nilIface 20 146 true).run zG w=.ok (.tuple #[zI 0,.bool false]) w:=by
 simp [Instr.typeAssert,run_underlying underlying146,go_sem,Result.andThen,Qft]
theorem QcJ (p:Addr) (w:yW) :
  CallsD zG 83 #[.pointer (some p)] .returning w fun e u' w'=>e=.returned (.tuple #[])∧u'=.returning∧w'=w:=by
 refine callsD_of_wpS func83 rfl fun c₀ cs hu=>?_
 apply wpS_seq
 apply wpS_region
 simp [wpOpsS,go_sem,recoverD,hu,ntmps83,Uo,Result.andThen,Exit.thenS]
 simp only [Array.replicate_succ,Array.replicate_zero,List.push_toArray,List.append_toArray,List.nil_append,List.cons_append,List.setIfInBounds_toArray,List.set_cons_zero,List.set_cons_succ]
 refine wpS_of_wp ?_
 go_wp2_with fail
 cases c₀
 simp_all [bodyPostS,results,results83]
theorem QcI (g:Nat) (y:Value) (c:Int) (older:List PanicEntry) (w:yW) (hp:w.heap[g]? = (zC #[y] 41)) :
  CallsD zG 83 #[zP g] (.panicking ({ v:=.iface 146 (zI c),recovered:=false } :: older)) w fun e u' w' =>
   e=.returned (.tuple #[])∧u'=.panicking ({ v:=.iface 146 (zI c),recovered:=true } :: older)∧w'=w.setCell g¢0 (zI c):=by
 have c1:w.cell? g¢0=some y:=Qa hp 0
 have f1:=Qf hp 0
 clear hp
 refine callsD_of_wpS func83 rfl fun c₀ cs hu=>?_
 apply wpS_seq
 apply wpS_region
 simp [wpOpsS,go_sem,recoverD,hu,ntmps83,Vs,Result.andThen,Exit.thenS]
 simp only [Array.replicate_succ,Array.replicate_zero,List.push_toArray,List.append_toArray,List.nil_append,List.cons_append,List.setIfInBounds_toArray,List.set_cons_zero,List.set_cons_succ]
 refine wpS_of_wp ?_
 go_wp2_with fail
 cases c₀
 simp_all [bodyPostS,results,results83]
theorem Qg2 {Z:yW}{g:Nat}{v n:Int}{tmps:Array Value}(h2:Z.heap[g]? = (zC #[zI n] 41)) (ht2:tmps[2]?.getD undef=zI v) (ht3:tmps[3]?.getD undef=zP g) :
  (results Tryz.f46 tmps).run zG Z=.ok (.tuple #[zI v,zI n]) Z:=by
 have z0:zQ Z g¢0 (zI n):=Qa h2 0
 clear h2
 simp [results,results46,go_sem,ht2,ht3,z0]
theorem QcL (p:Addr) (w:yW) :
  CallsD zG 67 #[.pointer (some p)] .returning w fun e u' w'=>e=.returned (.tuple #[])∧u'=.returning∧w'=w:=by
 refine callsD_of_wpS func67 rfl fun c₀ cs hu=>?_
 apply wpS_seq
 apply wpS_region
 simp [wpOpsS,go_sem,recoverD,hu,ntmps67,Uo,Result.andThen,Exit.thenS]
 simp only [Array.replicate_succ,Array.replicate_zero,List.push_toArray,List.append_toArray,List.nil_append,List.cons_append,List.setIfInBounds_toArray,List.set_cons_zero,List.set_cons_succ]
 refine wpS_of_wp ?_
 go_wp2_with fail
 cases c₀
 simp_all [bodyPostS,results,results67]
theorem QcK (g:Nat) (y:Value) (c:Int) (older:List PanicEntry) (w:yW) (hp:w.heap[g]? = (zC #[y] 41)) :
  CallsD zG 67 #[zP g] (.panicking ({ v:=.iface 146 (zI c),recovered:=false } :: older)) w fun e u' w' =>
   e=.returned (.tuple #[])∧u'=.panicking ({ v:=.iface 146 (zI c),recovered:=true } :: older)∧w'=w.setCell g¢0 (zI c):=by
 have c1:w.cell? g¢0=some y:=Qa hp 0
 have f1:=Qf hp 0
 clear hp
 refine callsD_of_wpS func67 rfl fun c₀ cs hu=>?_
 apply wpS_seq
 apply wpS_region
 simp [wpOpsS,go_sem,recoverD,hu,ntmps67,Vs,Result.andThen,Exit.thenS]
 simp only [Array.replicate_succ,Array.replicate_zero,List.push_toArray,List.append_toArray,List.nil_append,List.cons_append,List.setIfInBounds_toArray,List.set_cons_zero,List.set_cons_succ]
 refine wpS_of_wp ?_
 go_wp2_with fail
 cases c₀
 simp_all [bodyPostS,results,results67]
theorem Qg3 {Z:yW}{g:Nat}{v n:Int}{tmps:Array Value}(h2:Z.heap[g]? = (zC #[zI n] 41)) (ht2:tmps[2]?.getD undef=zI v) (ht3:tmps[3]?.getD undef=zP g) :
  (results Tryz.f35 tmps).run zG Z=.ok (.tuple #[zI v,zI n]) Z:=by
 have z0:zQ Z g¢0 (zI n):=Qa h2 0
 clear h2
 simp [results,results35,go_sem,ht2,ht3,z0]
def OutG (B:Nat) (x:Cx) (tb rb mb sb gb:Nat) (w:yW) (r:Except Int (Int × Tm)) (e:Ending) (w':yW):Prop:=match r with
 | .error c=>e=.returned (.tuple #[zI 0,zI c])∧Below B w w'
 | .ok iq=>e=.returned (.tuple #[zI iq.1,zI 0])∧(∃ h1 av',TnW B h1 x tb rb mb sb gb w' av' iq.2)∧Below B w w'
theorem Qb9 {B:Nat}{x:Cx}{tb rb mb sb gb:Nat}{w:yW}{r:Except Int (Int × Tm)}(p q u:Addr) (hB:B≤w§) (hk:∀ k ∈ x.K,k.1 < w§)
  (cF:Calls zG 47 #[.pointer (some p),.pointer (some q),.pointer (some u)] (zA w #[zI 0] 41) (OutF B { x with K:=(w§,Obj.cells #[zI 0] 41 (0,0)) :: x.K } tb rb mb sb gb (zA w #[zI 0] 41) r)) :
  Calls zG 46 #[.func (.func 47) #[] #[.pointer (some p),.pointer (some q),.pointer (some u)]] w (OutG B x tb rb mb sb gb w r):=by
 have hmf:∀ (fn:Fn) (first cap:Array Value) (w:yW),(Instr.makeFunc fn first cap).run zG w=.ok (.func fn first cap) w:=fun _ _ _ _=>rfl
 have b1:=Qb w (.cells #[zI 0] 41)
 obtain⟨W,eW⟩:∃ W,w.alloc (.cells #[zI 0] 41)=W:=jV
 have EW:=zH eW
 rw [eW] at b1 cF
 have HB:Hid (B≤w§∧yD w W):=⟨hB,b1⟩
 have HK:=zH hk
 clear b1 eW hB hk
 rcases r with c | ⟨i,q2⟩
 ·replace cF:Calls zG 47 #[.pointer (some p),.pointer (some q),.pointer (some u)] W (fun e w'=>e=fltE c∧Below B W w'∧∀ k ∈ (w§,Obj.cells #[zI 0] 41 (0,0)) :: x.K,w'.heap[k.1]? = some k.2):=cF
  go_enter_defers func46,ntmps46
  go_wp2_with fail
  try rw [EW.out]
  refine cF.mono ?_
  rintro e w3 ⟨rfl,hb3,hk3⟩
  have g1:w3.heap[w§]? = (zC #[zI 0] 41):=hk3 _ (List.mem_cons_self ..)
  refine leaves_cons (f:=83) (args:=#[zP w§]) (by simp) (by simp [go_sem]) ?_
  refine (QcI _ _ c [] w3 g1).mono ?_
  rintro e u' Z ⟨rfl,rfl,rfl⟩
  exact⟨_,Qg2 (v:=0) (Qp (j:=0) _ g1) rfl rfl,rfl,((HB.out.2.mono HB.out.1).trans hb3).setCell (p:=w§¢0) HB.out.1 _⟩
 ·replace cF:Calls zG 47 #[.pointer (some p),.pointer (some q),.pointer (some u)] W (fun e w'=>e=.returned (zI i)∧(∃ h1 av',TnW B h1 { x with K:=(w§,Obj.cells #[zI 0] 41 (0,0)) :: x.K } tb rb mb sb gb w' av' q2)∧Below B W w'):=cF
  go_enter_defers func46,ntmps46
  go_wp2_with fail
  try rw [EW.out]
  refine cF.mono ?_
  rintro e w3 ⟨rfl,⟨h1,av',ht⟩,hb3⟩
  have g1:w3.heap[w§]? = (zC #[zI 0] 41):=(ht.kp _ (List.mem_cons_self ..)).1
  have HT:Hid (TnW B h1 { x with K:=(w§,Obj.cells #[zI 0] 41 (0,0)) :: x.K } tb rb mb sb gb w3 av' q2∧Below B W w3∧w3.heap[w§]? = (zC #[zI 0] 41)):=⟨ht,hb3,g1⟩
  have z0:zQ w3 w§¢0 (zI 0):=Qa g1 0
  have f0:=Qf g1 0
  clear ht hb3 g1 cF
  go_wp2_with fail
  refine leaves_cons (f:=83) (args:=#[zP w§]) (by simp) (by simp [go_sem]) ?_
  refine (QcJ w§¢0 _).mono ?_
  rintro e u' Z ⟨rfl,rfl,rfl⟩
  refine⟨_,Qg2 (v:=i) (Qp (j:=0) _ HT.out.2.2) rfl rfl,rfl,⟨h1,av',?_⟩,((HB.out.2.mono HB.out.1).trans HT.out.2.1).setCell (p:=w§¢0) HB.out.1 _⟩
  exact HT.out.1.other (K:=x.K) (List.mem_cons_self ..) (fun b hb=>Jp b hb) (by rw [UY];exact Nat.le_refl _) (fun k hk=>⟨List.mem_cons_of_mem _ hk,by have:=HK.out k hk;omega⟩)
theorem QbV {h0:Nat}{x:Cx}{tb rb mb sb gb:Nat}{w0 w:yW}{q:Tm}(S:Qg) (m:ModM) (a b c si:Nat) (X:Qq) (h:TnW w0§ h0 x tb rb mb sb gb w (zO) q) (hq:q.ac = []) (hB:yD w0 w) (hl:Qr w0 S)
  (ha:(a,Obj.cells #[zP tb] 109 (0,0)) ∈ x.K) (hb:w0.heap[b]? = (zC S.vals 26)) (hc:w0.heap[c]? = (zC m.vals 29)) (hst:m.st=(si:Int)) (hX:S.ts[si]? = some X) (hd:∀ r ∈ X.rs,RlOk x r) :
  Calls zG 47 #[zP a,zP b,zP c] w (OutF w0§ x tb rb mb sb gb w (Q0 x q 0 X.rs)):=by
 obtain⟨hsi,eX⟩:=List.getElem?_eq_some_iff.1 hX
 obtain⟨bb,o,ea,hat⟩:=hl.2.2.2.2.1.2.2 si (by rw [List.length_map];exact hsi)
 simp only [List.getElem_map] at hat
 have hat1:=hat 1 zY
 rw [eX] at hat1
 have hat1:zQ w0 ⟨bb,o+si * 3+1,none⟩ (.slice X.a X.rs.length X.c):=hat1
 have hXm:X ∈ S.ts:=eX ▸ List.getElem_mem hsi
 have HXL:JX w0 X:=hl.2.2.2.2.2.1 X hXm
 have HS:Hid (∀ u,yD w0 u→u.heap[a]? = (zC #[zP tb] 109)→u.heap[a]? = (zC #[zP tb] 109)∧u.heap[b]? = (zC S.vals 26)∧u.heap[c]? = (zC m.vals 29)∧zQ u ⟨bb,o+si * 3+1,none⟩ (.slice X.a X.rs.length X.c)) :=
  fun u k e=>⟨e,heapOf k hb,heapOf k hc,QG hat1 k⟩
 have HA:Hid (w.heap[a]? = (zC #[zP tb] 109)):=(h.kp _ ha).1
 have HAK:=zH ha
 have HB:=zH hB
 have cF:Calls zG 48 #[zP tb,.slice X.a X.rs.length X.c] w.drew (OutF w0§ x tb rb mb sb gb w.drew (Q0 x q 0 X.rs)) :=
  QeV X.a X.c X.rs (h.on (Ql w)) hq (hB.trans ((Ql w).mono hB.size)) HXL.1 (fun r hr=>⟨HXL.2.1 r hr,hd r hr⟩)
 obtain⟨r,er⟩:∃ r,Q0 x q 0 X.rs=r:=jV
 rw [er] at cF ⊢
 have h0':(0:Int)≤(si:Int):=by omega
 have hl':(si:Int) < (S.ts.length:Int):=by omega
 have HST:Hid (m.st=(si:Int)):=hst
 have HTA:=zH ea
 clear h hq hB hl ha hb hc hst hX hd hsi eX hat hat1 hXm HXL er ea
 go_enter func47,ntmps47
 go_upto_region 1 with fail
 refine (?_:∀ Q',Hid (Q'=_)→Code.wp _ _ Q' _ _) _ rfl
 intro Q' HQ'
 have HPn:zHP Q':=by rw [HQ'.out];exact fun _ _ _ _ _ h=>h
 refine QA (t:=99) (S:=fun u=>u.heap[a]? = (zC #[zP tb] 109)∧u.heap[b]? = (zC S.vals 26)∧u.heap[c]? = (zC m.vals 29)∧zQ u ⟨bb,o+si * 3+1,none⟩ (.slice X.a X.rs.length X.c)) zK (HS.out _ (HB.out.trans ((Ql w).mono HB.out.size)) (heapOf (Ql w) HA.out)) (fun hHeld=>?_)
 refine zTd 0 HPn
 rotate_left
 ·(intro v hv;have c0:zQ v a¢0 (zP tb):=Qa hv.1 0;clear hv;go_simp;try (with_reducible rfl))
 try simp [Act.put]
 refine zTd 1 HPn
 rotate_left
 ·(intro v hv;go_simp;try (with_reducible rfl))
 try simp [Act.put]
 refine zTd 2 HPn
 rotate_left
 ·(intro v hv;have c1:zQ v b¢3 (.slice S.ta S.ts.length S.tc):=Qa hv.2.1 3;rw [HTA.out] at c1;clear hv;go_simp;try (with_reducible rfl))
 try simp [Act.put]
 refine zTd 3 HPn
 rotate_left
 ·(intro v hv;go_simp;try (with_reducible rfl))
 try simp [Act.put]
 refine zTd 4 HPn
 rotate_left
 ·(intro v hv;have c1:zQ v c¢0 (zI m.st):=Qa hv.2.2.1 0;rw [HST.out] at c1;clear hv;go_simp;try (with_reducible rfl))
 try simp [Act.put]
 refine zTd 5 HPn
 rotate_left
 ·(intro v hv;go_simp;try (with_reducible rfl))
 try simp [Act.put]
 refine zTd 6 HPn
 rotate_left
 ·(intro v hv;go_simp;try (with_reducible rfl))
 try simp [Act.put]
 refine zTd 7 HPn
 rotate_left
 ·(intro v hv;have c1:=hv.2.2.2;clear hv;go_simp;try (with_reducible rfl))
 try simp [Act.put]
 rcases r with c1 | iq
 ·refine Qh (i:=8) zK rfl (fun K hK=>?_)
  go_simp
  refine cF.mono ?_
  rintro e w1 ⟨rfl,hb,hk⟩
  rw [HQ'.out]
  exact⟨rfl,rfl,((Ql w).mono HB.out.size).trans hb,hk⟩
 ·refine Qh (i:=8) zK rfl (fun K hK=>?_)
  go_simp
  refine cF.mono ?_
  rintro e w1 ⟨rfl,⟨h1,av',ht⟩,hb⟩
  have HT:Hid (TnW w0§ h1 x tb rb mb sb gb w1 av' iq.2∧Below w0§ w w1):=⟨ht,((Ql w).mono HB.out.size).trans hb⟩
  clear ht hb cF
  go_simp
  refine hK.out _ _ (fun _=>HS.out _ (HB.out.trans HT.out.2) (HT.out.1.kp _ HAK.out).1) ?_
  clear hK K
  try simp [Act.put]
  refine Qh (i:=9) zK rfl (fun K hK=>?_)
  go_simp
  refine hK.out _ _ (fun _=>HS.out _ (HB.out.trans HT.out.2) (HT.out.1.kp _ HAK.out).1) ?_
  clear hK K
  try simp [Act.put]
  refine QB zK ?_ _
  rw [HQ'.out]
  clear HQ' HPn Q'
  go_wp2
  go_ret
  exact⟨rfl,⟨h1,av',HT.out.1⟩,HT.out.2⟩
open Go.ChangeShapes Go.WideShapes Go.ChangeAt
def Xt (H:Type) (enc:TypeId × Value→H) (W:yW) (held:Bool) (t:TypeId) (α:Type) (vals:α→Array Value) (L:α→Prop):Prop :=
 ∀ (fuel:Nat) (cs:List Value) (x:DataW H × List MemPlace),DataW.trod enc zG W 0 (fun _=>true) held fuel t cs=some x→(∀ z ∈ x.1.weights zG t,z≤reachBytes)→∃ q:α,cs=(vals q).toList∧L q
theorem Xw {H:Type}{enc:TypeId × Value→H}{W:yW}{held:Bool}{α:Type}{vals:α→Array Value}{L:α→Prop}{t e:TypeId}{n:Nat}(ih:Xt H enc W held e α vals L) (hu:Tryz.prog.underlying t=some (.slice e)) (hc:Tryz.prog.cellsOf e=n) (hn:0 < n) (hv:∀ q,(vals q).size=n) {k:Nat}{v:Value}{y:DataW H × List MemPlace}
  (g:DataW.trod enc zG W 0 (fun _=>true) held k t [v]=some y) (hz:∀ z ∈ y.1.weights zG t,z≤reachBytes):∃ (a:Option Addr) (c:Nat) (qs:List α),v=.slice a qs.length c∧SlAt W n a c (qs.map vals)∧∀ q ∈ qs,L q:=by
 rcases DataW.trod_slice hu g with ⟨hcs,_⟩ | ⟨a,len,cap,elems,rest,m,hm',hcs,hx6,hb,hl,hm,hlen',hel,hsp,hns⟩
 ·cases hcs
  exact⟨none,0,[],rfl,⟨Nat.le_refl _,by decide,fun i hi=>by simp at hi⟩,fun q hq=>by cases hq⟩
 ·cases hcs
  have each:∀ i,i < len→∃ q:α,(∀ j,j < n→W.cell? (a.add (i * n+j))=(vals q).toList[j]?)∧L q:=by
   intro i hi
   have h1:=hel i hi
   rw [hc] at h1
   have h2:elems[i]? = some elems[i]:=List.getElem?_eq_getElem zY
   rw [h2] at h1
   obtain⟨cs',h3,h4⟩:=Option.bind_eq_some_iff.1 h1
   obtain⟨q,hq,hlq⟩:=ih m cs' elems[i] h4 (fun z hz1=>hz z (by
    rw [hx6,DataW.weights,hu]
    refine List.mem_cons_of_mem _ (List.mem_append_left _ ?_)
    exact H7 (j:=i) (by simp [h2]) z hz1))
   obtain⟨_,hlen,hcell⟩:=World.cells?_some h3
   refine⟨q,fun j hj=>?_,hlq⟩
   have e0:=hcell j zY
   rw [Go.Deep.add_add] at e0
   rw [e0,hq]
  by_cases h0:len=0
  ·subst h0
   exact⟨some a,cap,[],rfl,⟨Nat.zero_le _,by unfold maxLen at hm;omega,fun i hi=>by simp at hi⟩,fun q hq=>by cases hq⟩
  ·obtain⟨q0,hq0⟩:=each 0 zY
   have:Inhabited α:=⟨q0⟩
   obtain⟨A,hA⟩:=Go.Deep.choose_lt each
   have hc0:=(hA 0 zY).1 0 hn
   obtain⟨b,off,spot⟩:=a
   have hspot:spot=none:=by
    rw [List.getElem?_eq_getElem (by rw [Array.length_toList,hv];exact hn)] at hc0
    simpa [Addr.add] using World.cell?_spot hc0
   subst hspot
   refine⟨some b¢off,cap,(List.range len).map A,by simp,⟨by simpa using hl,by unfold maxLen at hm;omega,fun i hi=>⟨b,off,rfl,fun j hj=>?_⟩⟩,fun q hq=>?_⟩
   ·have hi':i < len:=by simpa using hi
    have:=(hA i hi').1 j hj
    rw [Addr.add_lit,← Nat.add_assoc] at this
    rw [this]
    simp
   ·obtain⟨i,hi,rfl⟩:=List.mem_map.1 hq
    exact (hA i (List.mem_range.1 hi)).2
theorem Kz {H:Type}{enc:TypeId × Value→H}{W:yW}{held:Bool}:Xt H enc W held 38 Nd Nd.vals (Lies W):=fun fuel cs x h hz=>Qbn fuel cs x h hz
theorem Qb5 {H:Type}{enc:TypeId × Value→H}{W:yW}{held:Bool}:Xt H enc W held 102 RegM RegM.vals (RegL W):=by
 intro fuel cs x h hz
 obtain⟨xs,k,hk,hx,hlen,hxl,hf⟩:=DataW.trod_struct underlying102 h
 rw [show Tryz.prog.cellsOf 102=11 by kernel_rfl] at hlen
 match cs,hlen with
 | [v0,v1,v2,v3,v4,v5,v6,v7,v8,v9,v10],_ =>
  have hxn:xs.length=4:=hxl
  match xs,hxn with
  | [y0,y1,y2,y3],_ =>
   have hz':∀ (j:Nat) (t:TypeId) (d:DataW H),[9,34,38,3][j]? = some t→([y0,y1,y2,y3].map (·.1))[j]? = some d→∀ z ∈ d.weights zG t,z≤reachBytes:=by
    intro j t d h1 h2 z hz1
    refine hz z ?_
    rw [hx]
    have:=DataW.weights_mem_each (P:=zG) h1 h2 z hz1
    rw [show (DataW.weights zG 102 (.agg ([y0,y1,y2,y3].map (·.1)):DataW H))=DataW.weightsEach zG [9,34,38,3] ([y0,y1,y2,y3].map (·.1)) by
     rw [DataW.weights,underlying102];rfl]
    exact this
   have g0:DataW.trod enc zG W 0 (fun _=>true) held k 9 (([v0,v1,v2,v3,v4,v5,v6,v7,v8,v9,v10].drop 0).take (Tryz.prog.cellsOf 9))=some y0:=hf 0 _ rfl
   rw [show Tryz.prog.cellsOf 9=1 by kernel_rfl] at g0
   have k0:DataW.trod enc zG W 0 (fun _=>true) held k 9 [v0]=some y0:=g0
   obtain⟨n0,e0,d0,_⟩:=DataW.trod_string (show Tryz.prog.underlying 9=some .string by kernel_rfl) k0
   have w0:SzX n0:=by
    have:=hz' 0 9 y0.1 rfl rfl n0.size (by rw [d0];simp [DataW.weights])
    have h2:reachBytes≤140737488355328:=by decide
    exact Nat.le_trans this h2
   have g1:DataW.trod enc zG W 0 (fun _=>true) held k 34 (([v0,v1,v2,v3,v4,v5,v6,v7,v8,v9,v10].drop 1).take (Tryz.prog.cellsOf 34))=some y1:=hf 1 _ rfl
   rw [show Tryz.prog.cellsOf 34=1 by kernel_rfl] at g1
   have k1:DataW.trod enc zG W 0 (fun _=>true) held k 34 [v1]=some y1:=g1
   obtain⟨n1,e1,_,w1⟩:=DataW.trod_int (show Tryz.prog.underlying 34=some (.int .u8) by kernel_rfl) k1
   have g2:DataW.trod enc zG W 0 (fun _=>true) held k 38 (([v0,v1,v2,v3,v4,v5,v6,v7,v8,v9,v10].drop 2).take (Tryz.prog.cellsOf 38))=some y2:=hf 2 _ rfl
   rw [show Tryz.prog.cellsOf 38=8 by kernel_rfl] at g2
   have k2:DataW.trod enc zG W 0 (fun _=>true) held k 38 [v2,v3,v4,v5,v6,v7,v8,v9]=some y2:=g2
   obtain⟨n2,e2,w2⟩:=Kz k _ _ k2 (fun z hz1=>hz' 2 38 y2.1 rfl rfl z hz1)
   obtain⟨⟨a20,a21,a22,a23,a24,a25,a26⟩,b2,c2,q2⟩:=n2
   have g3:DataW.trod enc zG W 0 (fun _=>true) held k 3 (([v0,v1,v2,v3,v4,v5,v6,v7,v8,v9,v10].drop 10).take (Tryz.prog.cellsOf 3))=some y3:=hf 3 _ rfl
   rw [show Tryz.prog.cellsOf 3=1 by kernel_rfl] at g3
   have k3:DataW.trod enc zG W 0 (fun _=>true) held k 3 [v10]=some y3:=g3
   obtain⟨n3,e3,_,w3⟩:=DataW.trod_int (show Tryz.prog.underlying 3=some (.int .i64) by kernel_rfl) k3
   cases e0
   cases e1
   simp only [Nd.vals,hdA,Nd.h,Nd.a,Nd.c,Nd.ks,List.cons.injEq,and_true] at e2
   obtain⟨rfl,rfl,rfl,rfl,rfl,rfl,rfl,rfl⟩:=e2
   cases e3
   exact⟨⟨n0,n1,.mk ⟨a20,a21,a22,a23,a24,a25,a26⟩ b2 c2 q2,n3⟩,rfl,⟨w2,bounds_u8 w1,bounds_i64 w3,w0⟩⟩
theorem FR {H:Type}{enc:TypeId × Value→H}{W:yW}{held:Bool}:Xt H enc W held 129 Qx Qx.vals UN:=by
 intro fuel cs x h hz
 obtain⟨xs,k,hk,hx,hlen,hxl,hf⟩:=DataW.trod_struct underlying129 h
 rw [show Tryz.prog.cellsOf 129=2 by kernel_rfl] at hlen
 match cs,hlen with
 | [v0,v1],_ =>
  have hxn:xs.length=2:=hxl
  match xs,hxn with
  | [y0,y1],_ =>
   have hz':∀ (j:Nat) (t:TypeId) (d:DataW H),[9,3][j]? = some t→([y0,y1].map (·.1))[j]? = some d→∀ z ∈ d.weights zG t,z≤reachBytes:=by
    intro j t d h1 h2 z hz1
    refine hz z ?_
    rw [hx]
    have:=DataW.weights_mem_each (P:=zG) h1 h2 z hz1
    rw [show (DataW.weights zG 129 (.agg ([y0,y1].map (·.1)):DataW H))=DataW.weightsEach zG [9,3] ([y0,y1].map (·.1)) by
     rw [DataW.weights,underlying129];rfl]
    exact this
   have g0:DataW.trod enc zG W 0 (fun _=>true) held k 9 (([v0,v1].drop 0).take (Tryz.prog.cellsOf 9))=some y0:=hf 0 _ rfl
   rw [show Tryz.prog.cellsOf 9=1 by kernel_rfl] at g0
   have k0:DataW.trod enc zG W 0 (fun _=>true) held k 9 [v0]=some y0:=g0
   obtain⟨n0,e0,d0,_⟩:=DataW.trod_string (show Tryz.prog.underlying 9=some .string by kernel_rfl) k0
   have w0:SzX n0:=by
    have:=hz' 0 9 y0.1 rfl rfl n0.size (by rw [d0];simp [DataW.weights])
    have h2:reachBytes≤140737488355328:=by decide
    exact Nat.le_trans this h2
   have g1:DataW.trod enc zG W 0 (fun _=>true) held k 3 (([v0,v1].drop 1).take (Tryz.prog.cellsOf 3))=some y1:=hf 1 _ rfl
   rw [show Tryz.prog.cellsOf 3=1 by kernel_rfl] at g1
   have k1:DataW.trod enc zG W 0 (fun _=>true) held k 3 [v1]=some y1:=g1
   obtain⟨n1,e1,_,w1⟩:=DataW.trod_int (show Tryz.prog.underlying 3=some (.int .i64) by kernel_rfl) k1
   cases e0
   cases e1
   exact⟨⟨n0,n1⟩,rfl,⟨bounds_i64 w1,w0⟩⟩
theorem Qe7 {H:Type}{enc:TypeId × Value→H}{W:yW}{held:Bool}:Xt H enc W held 121 DoM DoM.vals (DoL W):=by
 intro fuel cs x h hz
 obtain⟨xs,k,hk,hx,hlen,hxl,hf⟩:=DataW.trod_struct underlying121 h
 rw [show Tryz.prog.cellsOf 121=36 by kernel_rfl] at hlen
 match cs,hlen with
 | (v0 :: v1 :: v2 :: v3 :: v4 :: v5 :: v6 :: v7 :: v8 :: v9 :: v10 :: v11 :: v12 :: v13 :: v14 :: v15 :: v16 :: v17 :: v18 :: v19 :: v20 :: v21 :: v22 :: v23 :: v24 :: v25 :: v26 :: v27 :: v28 :: v29 :: v30 :: v31 :: v32 :: v33 :: v34 :: v35 :: []),_ =>
  have hxn:xs.length=8:=hxl
  match xs,hxn with
  | [y0,y1,y2,y3,y4,y5,y6,y7],_ =>
   have hz':∀ (j:Nat) (t:TypeId) (d:DataW H),[119,76,9,38,38,38,38,3][j]? = some t→([y0,y1,y2,y3,y4,y5,y6,y7].map (·.1))[j]? = some d→∀ z ∈ d.weights zG t,z≤reachBytes:=by
    intro j t d h1 h2 z hz1
    refine hz z ?_
    rw [hx]
    have:=DataW.weights_mem_each (P:=zG) h1 h2 z hz1
    rw [show (DataW.weights zG 121 (.agg ([y0,y1,y2,y3,y4,y5,y6,y7].map (·.1)):DataW H))=DataW.weightsEach zG [119,76,9,38,38,38,38,3] ([y0,y1,y2,y3,y4,y5,y6,y7].map (·.1)) by
     rw [DataW.weights,underlying121];rfl]
    exact this
   have g0:DataW.trod enc zG W 0 (fun _=>true) held k 119 (((v0 :: v1 :: v2 :: v3 :: v4 :: v5 :: v6 :: v7 :: v8 :: v9 :: v10 :: v11 :: v12 :: v13 :: v14 :: v15 :: v16 :: v17 :: v18 :: v19 :: v20 :: v21 :: v22 :: v23 :: v24 :: v25 :: v26 :: v27 :: v28 :: v29 :: v30 :: v31 :: v32 :: v33 :: v34 :: v35 :: []).drop 0).take (Tryz.prog.cellsOf 119))=some y0:=hf 0 _ rfl
   rw [show Tryz.prog.cellsOf 119=1 by kernel_rfl] at g0
   have k0:DataW.trod enc zG W 0 (fun _=>true) held k 119 [v0]=some y0:=g0
   obtain⟨n0,e0,_,w0⟩:=DataW.trod_int (show Tryz.prog.underlying 119=some (.int .u8) by kernel_rfl) k0
   have g1:DataW.trod enc zG W 0 (fun _=>true) held k 76 (((v0 :: v1 :: v2 :: v3 :: v4 :: v5 :: v6 :: v7 :: v8 :: v9 :: v10 :: v11 :: v12 :: v13 :: v14 :: v15 :: v16 :: v17 :: v18 :: v19 :: v20 :: v21 :: v22 :: v23 :: v24 :: v25 :: v26 :: v27 :: v28 :: v29 :: v30 :: v31 :: v32 :: v33 :: v34 :: v35 :: []).drop 1).take (Tryz.prog.cellsOf 76))=some y1:=hf 1 _ rfl
   rw [show Tryz.prog.cellsOf 76=1 by kernel_rfl] at g1
   have k1:DataW.trod enc zG W 0 (fun _=>true) held k 76 [v1]=some y1:=g1
   obtain⟨n1,e1,_,w1⟩:=DataW.trod_int (show Tryz.prog.underlying 76=some (.int .u8) by kernel_rfl) k1
   have g2:DataW.trod enc zG W 0 (fun _=>true) held k 9 (((v0 :: v1 :: v2 :: v3 :: v4 :: v5 :: v6 :: v7 :: v8 :: v9 :: v10 :: v11 :: v12 :: v13 :: v14 :: v15 :: v16 :: v17 :: v18 :: v19 :: v20 :: v21 :: v22 :: v23 :: v24 :: v25 :: v26 :: v27 :: v28 :: v29 :: v30 :: v31 :: v32 :: v33 :: v34 :: v35 :: []).drop 2).take (Tryz.prog.cellsOf 9))=some y2:=hf 2 _ rfl
   rw [show Tryz.prog.cellsOf 9=1 by kernel_rfl] at g2
   have k2:DataW.trod enc zG W 0 (fun _=>true) held k 9 [v2]=some y2:=g2
   obtain⟨n2,e2,d2,_⟩:=DataW.trod_string (show Tryz.prog.underlying 9=some .string by kernel_rfl) k2
   have w2:SzX n2:=by
    have:=hz' 2 9 y2.1 rfl rfl n2.size (by rw [d2];simp [DataW.weights])
    have h2:reachBytes≤140737488355328:=by decide
    exact Nat.le_trans this h2
   have g3:DataW.trod enc zG W 0 (fun _=>true) held k 38 (((v0 :: v1 :: v2 :: v3 :: v4 :: v5 :: v6 :: v7 :: v8 :: v9 :: v10 :: v11 :: v12 :: v13 :: v14 :: v15 :: v16 :: v17 :: v18 :: v19 :: v20 :: v21 :: v22 :: v23 :: v24 :: v25 :: v26 :: v27 :: v28 :: v29 :: v30 :: v31 :: v32 :: v33 :: v34 :: v35 :: []).drop 3).take (Tryz.prog.cellsOf 38))=some y3:=hf 3 _ rfl
   rw [show Tryz.prog.cellsOf 38=8 by kernel_rfl] at g3
   have k3:DataW.trod enc zG W 0 (fun _=>true) held k 38 [v3,v4,v5,v6,v7,v8,v9,v10]=some y3:=g3
   obtain⟨n3,e3,w3⟩:=Kz k _ _ k3 (fun z hz1=>hz' 3 38 y3.1 rfl rfl z hz1)
   obtain⟨⟨a30,a31,a32,a33,a34,a35,a36⟩,b3,c3,q3⟩:=n3
   have g4:DataW.trod enc zG W 0 (fun _=>true) held k 38 (((v0 :: v1 :: v2 :: v3 :: v4 :: v5 :: v6 :: v7 :: v8 :: v9 :: v10 :: v11 :: v12 :: v13 :: v14 :: v15 :: v16 :: v17 :: v18 :: v19 :: v20 :: v21 :: v22 :: v23 :: v24 :: v25 :: v26 :: v27 :: v28 :: v29 :: v30 :: v31 :: v32 :: v33 :: v34 :: v35 :: []).drop 11).take (Tryz.prog.cellsOf 38))=some y4:=hf 4 _ rfl
   rw [show Tryz.prog.cellsOf 38=8 by kernel_rfl] at g4
   have k4:DataW.trod enc zG W 0 (fun _=>true) held k 38 [v11,v12,v13,v14,v15,v16,v17,v18]=some y4:=g4
   obtain⟨n4,e4,w4⟩:=Kz k _ _ k4 (fun z hz1=>hz' 4 38 y4.1 rfl rfl z hz1)
   obtain⟨⟨a40,a41,a42,a43,a44,a45,a46⟩,b4,c4,q4⟩:=n4
   have g5:DataW.trod enc zG W 0 (fun _=>true) held k 38 (((v0 :: v1 :: v2 :: v3 :: v4 :: v5 :: v6 :: v7 :: v8 :: v9 :: v10 :: v11 :: v12 :: v13 :: v14 :: v15 :: v16 :: v17 :: v18 :: v19 :: v20 :: v21 :: v22 :: v23 :: v24 :: v25 :: v26 :: v27 :: v28 :: v29 :: v30 :: v31 :: v32 :: v33 :: v34 :: v35 :: []).drop 19).take (Tryz.prog.cellsOf 38))=some y5:=hf 5 _ rfl
   rw [show Tryz.prog.cellsOf 38=8 by kernel_rfl] at g5
   have k5:DataW.trod enc zG W 0 (fun _=>true) held k 38 [v19,v20,v21,v22,v23,v24,v25,v26]=some y5:=g5
   obtain⟨n5,e5,w5⟩:=Kz k _ _ k5 (fun z hz1=>hz' 5 38 y5.1 rfl rfl z hz1)
   obtain⟨⟨a50,a51,a52,a53,a54,a55,a56⟩,b5,c5,q5⟩:=n5
   have g6:DataW.trod enc zG W 0 (fun _=>true) held k 38 (((v0 :: v1 :: v2 :: v3 :: v4 :: v5 :: v6 :: v7 :: v8 :: v9 :: v10 :: v11 :: v12 :: v13 :: v14 :: v15 :: v16 :: v17 :: v18 :: v19 :: v20 :: v21 :: v22 :: v23 :: v24 :: v25 :: v26 :: v27 :: v28 :: v29 :: v30 :: v31 :: v32 :: v33 :: v34 :: v35 :: []).drop 27).take (Tryz.prog.cellsOf 38))=some y6:=hf 6 _ rfl
   rw [show Tryz.prog.cellsOf 38=8 by kernel_rfl] at g6
   have k6:DataW.trod enc zG W 0 (fun _=>true) held k 38 [v27,v28,v29,v30,v31,v32,v33,v34]=some y6:=g6
   obtain⟨n6,e6,w6⟩:=Kz k _ _ k6 (fun z hz1=>hz' 6 38 y6.1 rfl rfl z hz1)
   obtain⟨⟨a60,a61,a62,a63,a64,a65,a66⟩,b6,c6,q6⟩:=n6
   have g7:DataW.trod enc zG W 0 (fun _=>true) held k 3 (((v0 :: v1 :: v2 :: v3 :: v4 :: v5 :: v6 :: v7 :: v8 :: v9 :: v10 :: v11 :: v12 :: v13 :: v14 :: v15 :: v16 :: v17 :: v18 :: v19 :: v20 :: v21 :: v22 :: v23 :: v24 :: v25 :: v26 :: v27 :: v28 :: v29 :: v30 :: v31 :: v32 :: v33 :: v34 :: v35 :: []).drop 35).take (Tryz.prog.cellsOf 3))=some y7:=hf 7 _ rfl
   rw [show Tryz.prog.cellsOf 3=1 by kernel_rfl] at g7
   have k7:DataW.trod enc zG W 0 (fun _=>true) held k 3 [v35]=some y7:=g7
   obtain⟨n7,e7,_,w7⟩:=DataW.trod_int (show Tryz.prog.underlying 3=some (.int .i64) by kernel_rfl) k7
   cases e0
   cases e1
   cases e2
   simp only [Nd.vals,hdA,Nd.h,Nd.a,Nd.c,Nd.ks,List.cons.injEq,and_true] at e3
   obtain⟨rfl,rfl,rfl,rfl,rfl,rfl,rfl,rfl⟩:=e3
   simp only [Nd.vals,hdA,Nd.h,Nd.a,Nd.c,Nd.ks,List.cons.injEq,and_true] at e4
   obtain⟨rfl,rfl,rfl,rfl,rfl,rfl,rfl,rfl⟩:=e4
   simp only [Nd.vals,hdA,Nd.h,Nd.a,Nd.c,Nd.ks,List.cons.injEq,and_true] at e5
   obtain⟨rfl,rfl,rfl,rfl,rfl,rfl,rfl,rfl⟩:=e5
   simp only [Nd.vals,hdA,Nd.h,Nd.a,Nd.c,Nd.ks,List.cons.injEq,and_true] at e6
   obtain⟨rfl,rfl,rfl,rfl,rfl,rfl,rfl,rfl⟩:=e6
   cases e7
   exact⟨⟨n0,n1,n2,.mk ⟨a30,a31,a32,a33,a34,a35,a36⟩ b3 c3 q3,.mk ⟨a40,a41,a42,a43,a44,a45,a46⟩ b4 c4 q4,.mk ⟨a50,a51,a52,a53,a54,a55,a56⟩ b5 c5 q5,.mk ⟨a60,a61,a62,a63,a64,a65,a66⟩ b6 c6 q6,n7⟩,rfl,⟨w3,w4,w5,w6,bounds_u8 w0,bounds_u8 w1,bounds_i64 w7,w2⟩⟩
theorem FZ {H:Type}{enc:TypeId × Value→H}{W:yW}{held:Bool}:Xt H enc W held 100 Qy Qy.vals (J5 W):=by
 intro fuel cs x h hz
 obtain⟨xs,k,hk,hx,hlen,hxl,hf⟩:=DataW.trod_struct underlying100 h
 rw [show Tryz.prog.cellsOf 100=10 by kernel_rfl] at hlen
 match cs,hlen with
 | [v0,v1,v2,v3,v4,v5,v6,v7,v8,v9],_ =>
  have hxn:xs.length=3:=hxl
  match xs,hxn with
  | [y0,y1,y2],_ =>
   have hz':∀ (j:Nat) (t:TypeId) (d:DataW H),[38,98,3][j]? = some t→([y0,y1,y2].map (·.1))[j]? = some d→∀ z ∈ d.weights zG t,z≤reachBytes:=by
    intro j t d h1 h2 z hz1
    refine hz z ?_
    rw [hx]
    have:=DataW.weights_mem_each (P:=zG) h1 h2 z hz1
    rw [show (DataW.weights zG 100 (.agg ([y0,y1,y2].map (·.1)):DataW H))=DataW.weightsEach zG [38,98,3] ([y0,y1,y2].map (·.1)) by
     rw [DataW.weights,underlying100];rfl]
    exact this
   have g0:DataW.trod enc zG W 0 (fun _=>true) held k 38 (([v0,v1,v2,v3,v4,v5,v6,v7,v8,v9].drop 0).take (Tryz.prog.cellsOf 38))=some y0:=hf 0 _ rfl
   rw [show Tryz.prog.cellsOf 38=8 by kernel_rfl] at g0
   have k0:DataW.trod enc zG W 0 (fun _=>true) held k 38 [v0,v1,v2,v3,v4,v5,v6,v7]=some y0:=g0
   obtain⟨n0,e0,w0⟩:=Kz k _ _ k0 (fun z hz1=>hz' 0 38 y0.1 rfl rfl z hz1)
   obtain⟨⟨a00,a01,a02,a03,a04,a05,a06⟩,b0,c0,q0⟩:=n0
   have g1:DataW.trod enc zG W 0 (fun _=>true) held k 98 (([v0,v1,v2,v3,v4,v5,v6,v7,v8,v9].drop 8).take (Tryz.prog.cellsOf 98))=some y1:=hf 1 _ rfl
   rw [show Tryz.prog.cellsOf 98=1 by kernel_rfl] at g1
   have k1:DataW.trod enc zG W 0 (fun _=>true) held k 98 [v8]=some y1:=g1
   obtain⟨a1,c1,n1,e1,s1,w1⟩:=Xw Qe7 underlying98 (show Tryz.prog.cellsOf 121=36 by kernel_rfl) (by decide) (fun q=>rfl) k1 (fun z hz1=>hz' 1 98 y1.1 rfl rfl z hz1)
   have g2:DataW.trod enc zG W 0 (fun _=>true) held k 3 (([v0,v1,v2,v3,v4,v5,v6,v7,v8,v9].drop 9).take (Tryz.prog.cellsOf 3))=some y2:=hf 2 _ rfl
   rw [show Tryz.prog.cellsOf 3=1 by kernel_rfl] at g2
   have k2:DataW.trod enc zG W 0 (fun _=>true) held k 3 [v9]=some y2:=g2
   obtain⟨n2,e2,_,w2⟩:=DataW.trod_int (show Tryz.prog.underlying 3=some (.int .i64) by kernel_rfl) k2
   simp only [Nd.vals,hdA,Nd.h,Nd.a,Nd.c,Nd.ks,List.cons.injEq,and_true] at e0
   obtain⟨rfl,rfl,rfl,rfl,rfl,rfl,rfl,rfl⟩:=e0
   cases e1
   cases e2
   exact⟨⟨.mk ⟨a00,a01,a02,a03,a04,a05,a06⟩ b0 c0 q0,a1,c1,n1,n2⟩,rfl,⟨w0,s1,w1,bounds_i64 w2⟩⟩
theorem PJ {H:Type}{enc:TypeId × Value→H}{W:yW}{held:Bool}:Xt H enc W held 69 Qq Qq.vals (JX W):=by
 intro fuel cs x h hz
 obtain⟨xs,k,hk,hx,hlen,hxl,hf⟩:=DataW.trod_struct underlying69 h
 rw [show Tryz.prog.cellsOf 69=3 by kernel_rfl] at hlen
 match cs,hlen with
 | [v0,v1,v2],_ =>
  have hxn:xs.length=3:=hxl
  match xs,hxn with
  | [y0,y1,y2],_ =>
   have hz':∀ (j:Nat) (t:TypeId) (d:DataW H),[9,67,3][j]? = some t→([y0,y1,y2].map (·.1))[j]? = some d→∀ z ∈ d.weights zG t,z≤reachBytes:=by
    intro j t d h1 h2 z hz1
    refine hz z ?_
    rw [hx]
    have:=DataW.weights_mem_each (P:=zG) h1 h2 z hz1
    rw [show (DataW.weights zG 69 (.agg ([y0,y1,y2].map (·.1)):DataW H))=DataW.weightsEach zG [9,67,3] ([y0,y1,y2].map (·.1)) by
     rw [DataW.weights,underlying69];rfl]
    exact this
   have g0:DataW.trod enc zG W 0 (fun _=>true) held k 9 (([v0,v1,v2].drop 0).take (Tryz.prog.cellsOf 9))=some y0:=hf 0 _ rfl
   rw [show Tryz.prog.cellsOf 9=1 by kernel_rfl] at g0
   have k0:DataW.trod enc zG W 0 (fun _=>true) held k 9 [v0]=some y0:=g0
   obtain⟨n0,e0,d0,_⟩:=DataW.trod_string (show Tryz.prog.underlying 9=some .string by kernel_rfl) k0
   have w0:SzX n0:=by
    have:=hz' 0 9 y0.1 rfl rfl n0.size (by rw [d0];simp [DataW.weights])
    have h2:reachBytes≤140737488355328:=by decide
    exact Nat.le_trans this h2
   have g1:DataW.trod enc zG W 0 (fun _=>true) held k 67 (([v0,v1,v2].drop 1).take (Tryz.prog.cellsOf 67))=some y1:=hf 1 _ rfl
   rw [show Tryz.prog.cellsOf 67=1 by kernel_rfl] at g1
   have k1:DataW.trod enc zG W 0 (fun _=>true) held k 67 [v1]=some y1:=g1
   obtain⟨a1,c1,n1,e1,s1,w1⟩:=Xw FZ underlying67 (show Tryz.prog.cellsOf 100=10 by kernel_rfl) (by decide) (fun q=>rfl) k1 (fun z hz1=>hz' 1 67 y1.1 rfl rfl z hz1)
   have g2:DataW.trod enc zG W 0 (fun _=>true) held k 3 (([v0,v1,v2].drop 2).take (Tryz.prog.cellsOf 3))=some y2:=hf 2 _ rfl
   rw [show Tryz.prog.cellsOf 3=1 by kernel_rfl] at g2
   have k2:DataW.trod enc zG W 0 (fun _=>true) held k 3 [v2]=some y2:=g2
   obtain⟨n2,e2,_,w2⟩:=DataW.trod_int (show Tryz.prog.underlying 3=some (.int .i64) by kernel_rfl) k2
   cases e0
   cases e1
   cases e2
   exact⟨⟨n0,a1,c1,n1,n2⟩,rfl,⟨s1,w1,bounds_i64 w2,w0⟩⟩
theorem PG {H:Type}{enc:TypeId × Value→H}{W:yW}{held:Bool}:Xt H enc W held 26 Qg Qg.vals (Qr W):=by
 intro fuel cs x h hz
 obtain⟨xs,k,hk,hx,hlen,hxl,hf⟩:=DataW.trod_struct underlying26 h
 rw [show Tryz.prog.cellsOf 26=4 by kernel_rfl] at hlen
 match cs,hlen with
 | [v0,v1,v2,v3],_ =>
  have hxn:xs.length=4:=hxl
  match xs,hxn with
  | [y0,y1,y2,y3],_ =>
   have hz':∀ (j:Nat) (t:TypeId) (d:DataW H),[9,22,23,24][j]? = some t→([y0,y1,y2,y3].map (·.1))[j]? = some d→∀ z ∈ d.weights zG t,z≤reachBytes:=by
    intro j t d h1 h2 z hz1
    refine hz z ?_
    rw [hx]
    have:=DataW.weights_mem_each (P:=zG) h1 h2 z hz1
    rw [show (DataW.weights zG 26 (.agg ([y0,y1,y2,y3].map (·.1)):DataW H))=DataW.weightsEach zG [9,22,23,24] ([y0,y1,y2,y3].map (·.1)) by
     rw [DataW.weights,underlying26];rfl]
    exact this
   have g0:DataW.trod enc zG W 0 (fun _=>true) held k 9 (([v0,v1,v2,v3].drop 0).take (Tryz.prog.cellsOf 9))=some y0:=hf 0 _ rfl
   rw [show Tryz.prog.cellsOf 9=1 by kernel_rfl] at g0
   have k0:DataW.trod enc zG W 0 (fun _=>true) held k 9 [v0]=some y0:=g0
   obtain⟨n0,e0,d0,_⟩:=DataW.trod_string (show Tryz.prog.underlying 9=some .string by kernel_rfl) k0
   have w0:SzX n0:=by
    have:=hz' 0 9 y0.1 rfl rfl n0.size (by rw [d0];simp [DataW.weights])
    have h2:reachBytes≤140737488355328:=by decide
    exact Nat.le_trans this h2
   have g1:DataW.trod enc zG W 0 (fun _=>true) held k 22 (([v0,v1,v2,v3].drop 1).take (Tryz.prog.cellsOf 22))=some y1:=hf 1 _ rfl
   rw [show Tryz.prog.cellsOf 22=1 by kernel_rfl] at g1
   have k1:DataW.trod enc zG W 0 (fun _=>true) held k 22 [v1]=some y1:=g1
   obtain⟨a1,c1,n1,e1,s1,w1⟩:=Xw Qb5 underlying22 (show Tryz.prog.cellsOf 102=11 by kernel_rfl) (by decide) (fun q=>rfl) k1 (fun z hz1=>hz' 1 22 y1.1 rfl rfl z hz1)
   have g2:DataW.trod enc zG W 0 (fun _=>true) held k 23 (([v0,v1,v2,v3].drop 2).take (Tryz.prog.cellsOf 23))=some y2:=hf 2 _ rfl
   rw [show Tryz.prog.cellsOf 23=1 by kernel_rfl] at g2
   have k2:DataW.trod enc zG W 0 (fun _=>true) held k 23 [v2]=some y2:=g2
   obtain⟨a2,c2,n2,e2,s2,w2⟩:=Xw FR underlying23 (show Tryz.prog.cellsOf 129=2 by kernel_rfl) (by decide) (fun q=>rfl) k2 (fun z hz1=>hz' 2 23 y2.1 rfl rfl z hz1)
   have g3:DataW.trod enc zG W 0 (fun _=>true) held k 24 (([v0,v1,v2,v3].drop 3).take (Tryz.prog.cellsOf 24))=some y3:=hf 3 _ rfl
   rw [show Tryz.prog.cellsOf 24=1 by kernel_rfl] at g3
   have k3:DataW.trod enc zG W 0 (fun _=>true) held k 24 [v3]=some y3:=g3
   obtain⟨a3,c3,n3,e3,s3,w3⟩:=Xw PJ underlying24 (show Tryz.prog.cellsOf 69=3 by kernel_rfl) (by decide) (fun q=>rfl) k3 (fun z hz1=>hz' 3 24 y3.1 rfl rfl z hz1)
   cases e0
   cases e1
   cases e2
   cases e3
   exact⟨⟨n0,a1,c1,n1,a2,c2,n2,a3,c3,n3⟩,rfl,⟨s1,w1,s2,w2,s3,w3,w0⟩⟩
theorem Qdd {H:Type}{enc:TypeId × Value→H}{W:yW}{held:Bool}{fuel:Nat}{cs:Array Value}{x:DataW H × List MemPlace}
  (h:DataW.trod enc zG W 0 (fun _=>true) held fuel 26 (Value.agg cs).cells.toList=some x) (hz:∀ z ∈ x.1.weights zG 26,z≤reachBytes):∃ m:Qg,cs=m.vals∧Qr W m:=by
 obtain⟨m,hm,hl⟩:=PG fuel _ x h hz
 exact⟨m,Array.toList_inj.1 hm,hl⟩
end Go.Proofs.YtfbjofnaghjmeaaGreatDoor
