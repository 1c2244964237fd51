import Derived.Test.YtoogodlnnijikaaGreatDoorA0
import Derived.Test.YtoogodlnnijikaaGreatDoorA35
import Derived.Test.YtoogodlnnijikaaGreatDoorA20
import Derived.Test.YtoogodlnnijikaaGreatDoorA26
import Derived.Test.YtoogodlnnijikaaGreatDoorA31
namespace Go.Proofs.YtoogodlnnijikaaGreatDoor
open Go.RowKit
set_option linter.unusedVariables false
set_option linter.unusedSimpArgs false
mutual
def ndT:Tr→Nd
 | .mk h ks=>.mk h none 0 (ndTs ks)
def ndTs:List Tr→List Nd
 | []=>[]
 | k :: ks=>ndT k :: ndTs ks
end
def bare (m:Nd):Nd:=ndT (treeOf m)
theorem bares:∀ ks:List Nd,ndTs (treesOf ks)=ks.map bare
 | []=>rfl
 | k :: ks=>by simp only [treesOf,ndTs,List.map_cons,bares ks]; rfl
theorem bare_mk (h:Hd) (a:Option Addr) (c:Nat) (ks:List Nd):bare (.mk h a c ks)=.mk h none 0 (ks.map bare):=by
 show ndT (treeOf (.mk h a c ks))=_
 rw [treeOf,ndT,bares]
theorem bare_h (m:Nd):(bare m).h=m.h:=by cases m; rw [bare_mk]; rfl
theorem bare_ks (m:Nd):(bare m).ks=m.ks.map bare:=by cases m; rw [bare_mk]; rfl
theorem formsB_b:∀ l:List Nd,(∀ k ∈ l,formB (bare k)=formB k)→formsB (l.map bare)=formsB l
 | [],_=>rfl
 | k :: l,h=>by simp only [List.map_cons,formsB]; rw [h k (by simp),formsB_b l fun x hx=>h x (by simp [hx])]
theorem formB_b:∀ m,formB (bare m)=formB m:=by
 refine Nd.ind fun h a c ks ih=>?_
 rw [bare_mk]
 simp only [formB,List.length_map]
 rw [formsB_b ks ih]
theorem sizes_b:∀ l:List Nd,(∀ k ∈ l,size (bare k)=size k)→sizes (l.map bare)=sizes l
 | [],_=>rfl
 | k :: l,h=>by simp only [List.map_cons,sizes]; rw [h k (by simp),sizes_b l fun x hx=>h x (by simp [hx])]
theorem size_b:∀ m,size (bare m)=size m:=by
 refine Nd.ind fun h a c ks ih=>?_
 rw [bare_mk]
 simp only [size]
 rw [sizes_b ks ih]
theorem deps_b (h:Hd):∀ (l:List Nd) (i:Nat),(∀ k ∈ l,dep (bare k)=dep k)→deps h i (l.map bare)=deps h i l
 | [],i,_=>rfl
 | k :: l,i,hk=>by simp only [List.map_cons,deps]; rw [hk k (by simp),deps_b h l (i+1) fun x hx=>hk x (by simp [hx]),bare_h]
theorem dep_b:∀ m,dep (bare m)=dep m:=by
 refine Nd.ind fun h a c ks ih=>?_
 rw [bare_mk]
 simp only [dep]
 rw [deps_b h ks 0 ih]
theorem tysR_b (L:ByteArray→Option Int):∀ l:List Nd,(∀ k ∈ l,tyR L (bare k)=tyR L k)→tysR L (l.map bare)=tysR L l
 | [],_=>rfl
 | k :: l,h=>by simp only [List.map_cons,tysR]; rw [h k (by simp),tysR_b L l fun x hx=>h x (by simp [hx])]
theorem tyR_b (L:ByteArray→Option Int):∀ m,tyR L (bare m)=tyR L m:=by
 refine Nd.ind fun h a c ks ih=>?_
 rw [bare_mk]
 simp only [tyR,List.length_map]
 rw [tysR_b L ks ih]
theorem samesB_b:∀ (l js:List Nd),(∀ k ∈ l,∀ n,sameB (bare k) n=sameB k n)→samesB (l.map bare) js=samesB l js
 | [],_,_=>rfl
 | k :: l,[],_=>rfl
 | k :: l,j :: js,h=>by simp only [List.map_cons,samesB]; rw [h k (by simp),samesB_b l js fun x hx=>h x (by simp [hx])]
theorem sameB_b:∀ m n,sameB (bare m) n=sameB m n:=by
 refine Nd.ind fun h a c ks ih n=>?_
 rw [bare_mk]
 simp only [sameB,List.length_map]
 rw [samesB_b ks _ ih]
theorem cE_b (m:Nd):cE (bare m)=cE m:=by unfold cE; rw [formB_b,dep_b]
theorem fE_b (m:Nd):fE (bare m)=fE m:=by unfold fE; rw [formB_b]
theorem kid0_b (m:Nd):(kid0 (bare m)).h=(kid0 m).h:=by
 unfold kid0
 rw [bare_ks]
 cases m.ks with
 | nil=>rfl
 | cons k l=>exact bare_h k
def bReg (r:RegM):RegM:=⟨r.x,r.t,bare r.m,r.p⟩
def bDo (d:DoM):DoM:=⟨d.k,d.o,d.x,bare d.sd,bare d.qt,bare d.pr,bare d.vl,d.p⟩
def bRule (r:RuleM):RuleM:=⟨bare r.m,none,0,r.ds.map bDo,r.p⟩
def bState (x:StateM):StateM:=⟨x.x,none,0,x.rs.map bRule,x.p⟩
def bStr (S:StratM):StratM:=⟨S.x,none,0,S.rs.map bReg,none,0,S.ss,none,0,S.ts.map bState⟩
def rgOf (r:RegT):RegM:=⟨r.x,r.t,ndT r.m,r.p⟩
def slOf (r:SlotT):SlotM:=⟨r.x,r.p⟩
def doOf (d:DoT):DoM:=⟨d.k,d.o,d.x,ndT d.sd,ndT d.qt,ndT d.pr,ndT d.vl,d.p⟩
def ruOf (r:RuleT):RuleM:=⟨ndT r.m,none,0,r.ds.map doOf,r.p⟩
def stOfT (x:StateT):StateM:=⟨x.x,none,0,x.rs.map ruOf,x.p⟩
def sT (S:StratT):StratM:=⟨S.x,none,0,S.rs.map rgOf,none,0,S.ss.map slOf,none,0,S.ts.map stOfT⟩
theorem bStr_tr (S:StratM):bStr S=sT S.tr:=by
 unfold bStr sT StratM.tr
 simp only [List.map_map]
 congr 1
 ·exact (List.map_id _).symm
 ·refine List.map_congr_left fun x _=>?_
  show bState x=stOfT x.tr
  unfold bState stOfT StateM.tr
  simp only [List.map_map]
  congr 1
  refine List.map_congr_left fun r _=>?_
  show bRule r=ruOf r.tr
  unfold bRule ruOf RuleM.tr
  simp only [List.map_map]
  rfl
theorem regL_b (l:List RegM):regL (l.map bReg)=regL l:=by
 funext x
 unfold regL
 induction l with
 | nil=>rfl
 | cons r l ih =>
  simp only [List.map_cons,List.find?_cons]
  show Option.map _ (match decide (r.x=x) with | true=>_ | false=>_)=_
  cases decide (r.x=x) with
  | true=>rfl
  | false=>exact ih
theorem regE_b (r:RegM):regE (bReg r)=regE r:=by
 unfold regE initE bReg
 simp only [fE_b,bare_h,kid0_b]
theorem doE_b (d:DoM):doE (bDo d)=doE d:=by
 unfold doE partE
 simp only [bDo,ndO,ndN,ndS,ndQ,ndP,ndV,cE_b,sameB_b]
 rfl
theorem ruleE_b (r:RuleM):ruleE (bRule r)=ruleE r:=by
 unfold ruleE bRule
 simp only [cE_b,List.length_map,List.map_map]
 rw [show (doE ∘ bDo)=doE from funext doE_b]
theorem stateE_b (x:StateM):stateE (bState x)=stateE x:=by
 unfold stateE bState
 simp only [List.length_map,List.map_map]
 rw [show (ruleE ∘ bRule)=ruleE from funext ruleE_b]
theorem stratE_b (S:StratM):stratE (bStr S)=stratE S:=by
 unfold stratE bStr
 simp only [List.length_map,List.map_map]
 rw [show (regE ∘ bReg)=regE from funext regE_b,show (stateE ∘ bState)=stateE from funext stateE_b]
theorem dRegs_b:∀ (rs l:List RegM),dRegs (l.map bReg) (rs.map bReg)=dRegs l rs
 | [],_=>rfl
 | r :: rs,l=>by
  simp only [List.map_cons,dRegs,regL_b]
  have h:=dRegs_b rs (l ++ [r])
  rw [List.map_append] at h
  simp only [bReg,tyR_b] at h ⊢
  rw [← h]
  rfl
theorem decE_b (S:StratM):decE (bStr S)=decE S:=by
 unfold decE
 have h:=dRegs_b S.rs []
 have e:(bStr S).ts.map stN=S.ts.map stN:=by
  unfold bStr
  simp only [List.map_map]
  rfl
 rw [e]
 show (match dRegs [] (S.rs.map bReg) with | some e=>some e | none=>match dNms [] (S.ss.map slN) with | some e=>some e | none=>dNms [] (S.ts.map stN))=_
 rw [show dRegs [] (S.rs.map bReg)=dRegs [] S.rs from h]
 rfl
theorem ptsL_b (L:ByteArray→Option Int) (d:DoM):ptsL L (bDo d)=(ptsL L d).map fun q=>(bare q.1,q.2):=by
 unfold ptsL bDo
 repeat' split
 all_goals simp_all
theorem pcE_b (L:ByteArray→Option Int) (q:Nd × Int):pcE L (bare q.1,q.2)=pcE L q:=by
 unfold pcE
 simp only [tyR_b,bare_h]
theorem psE_b (L:ByteArray→Option Int):∀ l:List (Nd × Int),psE L (l.map fun q=>(bare q.1,q.2))=psE L l
 | []=>rfl
 | q :: l=>by simp only [List.map_cons,psE]; rw [pcE_b,psE_b L l]
theorem dosE_b (L:ByteArray→Option Int) (S2 S3:List ByteArray):∀ (l:List DoM) (en:Bool),dosE L S2 S3 en (l.map bDo)=dosE L S2 S3 en l
 | [],en=>by cases en <;> rfl
 | d :: l,en=>by
  simp only [List.map_cons,dosE]
  rw [ptsL_b,psE_b]
  show (if en then some (d.p,153) else if standB L S2 S3 d.k d.x then (match psE L (ptsL L d) with | some e=>some e | none=>dosE L S2 S3 (d.k == 5 || d.k == 6) (l.map bDo)) else some (d.p,151))=_
  rw [dosE_b L S2 S3 l]
  rfl
theorem ruE_b (L:ByteArray→Option Int) (S2 S3:List ByteArray) (r:RuleM):ruE L S2 S3 (bRule r)=ruE L S2 S3 r:=by
 unfold ruE
 rw [show pcE L ((bRule r).m,5)=pcE L (r.m,5) from pcE_b L (r.m,5),show (bRule r).ds=r.ds.map bDo from rfl,dosE_b]
theorem rusE_b (L:ByteArray→Option Int) (S2 S3:List ByteArray):∀ l:List RuleM,rusE L S2 S3 (l.map bRule)=rusE L S2 S3 l
 | []=>rfl
 | r :: l=>by simp only [List.map_cons,rusE]; rw [ruE_b,rusE_b L S2 S3 l]
theorem stsE_b (L:ByteArray→Option Int) (S2 S3:List ByteArray):∀ l:List StateM,stsE L S2 S3 (l.map bState)=stsE L S2 S3 l
 | []=>rfl
 | x :: l=>by
  simp only [List.map_cons,stsE]
  rw [show (bState x).rs=x.rs.map bRule from rfl,rusE_b,stsE_b L S2 S3 l]
theorem chkE_b (S:StratM):chkE (bStr S)=chkE S:=by
 unfold chkE
 rw [stratE_b,decE_b,show (bStr S).rs=S.rs.map bReg from rfl,regL_b,show (bStr S).ts=S.ts.map bState from rfl,stsE_b,List.map_map,show (StateM.x ∘ bState)=StateM.x from rfl]
 rfl
def doZB (d:DoM):Bool:=[d.sd,d.qt,d.pr,d.vl].all fun m=>decide (size m≤1000000000000)
def stZB (x:StateM):Bool:=x.rs.all fun r=>decide (size r.m≤1000000000000) && r.ds.all doZB
theorem doZB_b (d:DoM):doZB (bDo d)=doZB d:=by simp only [doZB,bDo,List.all_cons,List.all_nil,size_b]
theorem stZB_b (x:StateM):stZB (bState x)=stZB x:=by
 unfold stZB bState
 simp only [List.all_map]
 congr 1
 funext r
 show (decide (size (bare r.m)≤1000000000000) && (r.ds.map bDo).all doZB)=_
 rw [size_b,List.all_map,show (doZB ∘ bDo)=doZB from funext doZB_b]
def zB (S:StratM):Bool:=S.ts.all stZB
theorem zB_b (S:StratM):zB (bStr S)=zB S:=by
 unfold zB bStr
 simp only [List.all_map]
 rw [show (stZB ∘ bState)=stZB from funext stZB_b]
theorem zB_z {S:StratM}(h:zB S=true):StratZ S:=by
 simp only [zB,List.all_eq_true] at h
 intro x hx r hr
 have h1:=h x hx
 simp only [stZB,Bool.and_eq_true,List.all_eq_true,decide_eq_true_eq] at h1
 refine⟨(h1 r hr).1,fun d hd=>?_⟩
 have h2:=(h1 r hr).2 d hd
 simp only [doZB,List.all_cons,List.all_nil,Bool.and_true,Bool.and_eq_true,decide_eq_true_eq] at h2
 exact h2
theorem ofE_b (S:StratM) (m:Nd):ofE (bStr S) (bare m)=ofE S m:=by
 unfold ofE
 rw [cE_b,tyR_b,show (bStr S).rs=S.rs.map bReg from rfl,regL_b]
def gEnd (ts:List Tk):Except Ft Unit:=do
 let t ← gLook ts
 gNeed (decide (t.k=0)) 130 ts
def gWhole (s:ByteArray):Except Ft Tr :=
 match exprT (rdT s) with
 | .error f=>.error f
 | .ok q=>match gEnd q.2 with
  | .error f=>.error f
  | .ok _=>.ok q.1
theorem whole_err {s:ByteArray}{f:Ft}(h:dEnd (stOf (exprT (rdT s)))=.error f):gWhole s=.error f:=by
 unfold gWhole
 cases hr:exprT (rdT s) with
 | error f'=>rw [hr] at h; cases h; rfl
 | ok q =>
  obtain⟨q1,q2⟩:=q
  rw [hr] at h
  cases q2 with
  | nil=>cases h; rfl
  | cons u r =>
   simp only [stOf,nf,dEnd] at h
   by_cases c:u.k=0
   ·rw [if_pos c] at h; cases h
   ·rw [if_neg c] at h
    cases h
    simp [gEnd,gLook,bind,Except.bind,gNeed,c]
theorem whole_ok {s:ByteArray}{ts:List Tk}(h:dEnd (stOf (exprT (rdT s)))=.ok ts):∃ q,exprT (rdT s)=.ok q∧gWhole s=.ok q.1:=by
 unfold gWhole
 cases hr:exprT (rdT s) with
 | error f'=>rw [hr] at h; cases h
 | ok q =>
  obtain⟨q1,q2⟩:=q
  rw [hr] at h
  cases q2 with
  | nil=>cases h
  | cons u r =>
   simp only [stOf,nf,dEnd] at h
   by_cases c:u.k=0
   ·exact⟨_,rfl,by simp [gEnd,gLook,bind,Except.bind,gNeed,c]⟩
   ·rw [if_neg c] at h; cases h
def ftT (s:ByteArray):Ft→Int × Int × Bool
 | .tok no p=>(no,p,false)
 | .lex=>(tksE s,tksB s,true)
def OutX (s:ByteArray) (w:World) (e:Ending) (w':World):Prop :=
 (match gWhole s with
 | .ok t=>∃ m,e=.returned (.tuple #[.agg m.vals,.agg #[zI 0,zI 0,.bool false]])∧treeOf m=t∧Lies w' m∧Bkn (fun k=>w§≤k∧k < w'§) m
 | .error f=>(ftT s f).1≠0∧e=.returned (.tuple #[.agg nul8,.agg #[zI (ftT s f).1,zI (ftT s f).2.1,.bool (ftT s f).2.2]]))∧Below w§ w w'
theorem fin3f {U:World}{b:Nat}{a0 a1 a2:Value}(h:U.heap[b]? = some (.cells #[a0,a1,a2] 30 (0,0))) (v0 v1 v2:Value) :
  ∃ Y,(((U.setCell ⟨b,0,none⟩ v0).setCell ⟨b,1,none⟩ v1).setCell ⟨b,2,none⟩ v2)=Y∧Y.heap[b]? = some (.cells #[v0,v1,v2] 30 (0,0))∧Y§=U§∧(∀ k,k≠b→Y.heap[k]? = U.heap[k]?)∧(∀ (w:World) (F:Nat→Prop),Mv w U F→w§≤b→Mv w Y F):=by
 have h1:(U.setCell ⟨b,0,none⟩ v0).heap[b]? = some (.cells #[v0,a1,a2] 30 (0,0)):=heap_set v0 h
 have h2:((U.setCell ⟨b,0,none⟩ v0).setCell ⟨b,1,none⟩ v1).heap[b]? = some (.cells #[v0,v1,a2] 30 (0,0)):=heap_set v1 h1
 refine⟨_,rfl,heap_set v2 h2,by simp [World.setCell],fun k hk=>?_,fun w F m hb=>((m.setCell (a:=⟨b,0,none⟩) (.inr hb) v0).setCell (a:=⟨b,1,none⟩) (.inr hb) v1).setCell (a:=⟨b,2,none⟩) (.inr hb) v2⟩
 iterate 3 (refine (Below.heap_setCell _ _ _ _ (show k≠b from hk)).trans ?_)
 rfl
structure XZ (w:World) (V:World):Prop where
 B:Below w§ w V
 z:V.heap[w§]? = some (.cells zNo 48 (0,0))
 f:V.heap[w§+1]? = some (.cells #[zI 0,zI 0,.bool false] 30 (0,0))
theorem XZ.hid {w V:World}(h:XZ w V):Hid (XZ w V):=h
theorem XZ.new (w:World):XZ w ((w.alloc (.cells zNo 48)).alloc (.cells #[zI 0,zI 0,.bool false] 30)):=by
 have b1:=below_new w (.cells zNo 48)
 have s1:=size_alloc w (.cells zNo 48)
 have n1:=heap_new w (.cells zNo 48)
 have b2:=below_new (w.alloc (.cells zNo 48)) (.cells #[zI 0,zI 0,.bool false] 30)
 have n2:=heap_new (w.alloc (.cells zNo 48)) (.cells #[zI 0,zI 0,.bool false] 30)
 rw [s1] at n2
 exact⟨below2 b1 b2,(b2.block _ (by omega)).trans n1,n2⟩
theorem XZ.mv {w V V':World}(h:XZ w V) {F:Nat→Prop}(m:Mv V V' F) (hF:∀ k,F k→w§+1 < k):XZ w V':=by
 have hz:=(Array.getElem?_eq_some_iff.1 h.z).1
 have hf:=(Array.getElem?_eq_some_iff.1 h.f).1
 have hs:=h.B.size
 refine⟨?_,(m.block _ hz (fun e=>by have:=hF _ e; omega)).trans h.z,(m.block _ hf (fun e=>by have:=hF _ e; omega)).trans h.f⟩
 have m1:Mv w V (fun k=>w§+1 < k):=Mv.ofBelow h.B
 exact (m1.trans m (fun k e=>.inl (hF k e))).below (Nat.le_refl _) (fun k e=>by omega)
theorem XZ.on {w V V':World}(h:XZ w V) (k:Below V§ V V'):XZ w V':=h.mv (F:=fun _=>False) (Mv.ofBelow k) (fun _ e=>e.elim)
set_option maxRecDepth 100000 in
set_option maxHeartbeats 4000000 in
theorem exprX (s:ByteArray) (t0:Tr) (hgw:gWhole s=.ok t0) (w:World):Calls zG 24 #[.string s] w (OutX s w):=by
 have HGW:Hid (gWhole s=.ok t0):=hgw
 clear hgw
 have HX:=(XZ.new w).hid
 obtain⟨W0,eW0⟩:∃ W,(w.alloc (.cells zNo 48)).alloc (.cells #[zI 0,zI 0,.bool false] 30)=W:=⟨_,rfl⟩
 rw [eW0] at HX
 have cB:=begin_d s W0
 go_enter Tryz.func24,Tryz.ntmps24
 go_wp2_with fail
 try rw [eW0]
 refine cB.mono ?_
 rintro e w1 ⟨b,K,rfl,hb,hs,hK,hgd,hT,hE,hB⟩
 have HX1:=(HX.out.on hB).hid
 have hz0:=(Array.getElem?_eq_some_iff.1 HX.out.f).1
 have HB1:Hid (w§+1 < b):=by show _ < _; omega
 have HBL:Hid (b < w1§):=hs.lw.1
 have HK:Hid (KOk K):=hK
 have HT:Hid (K.T=rdT s):=hT
 have HE:Hid ((K.lg=false∧K.be=tksE s∧K.ba=tksB s)∨(K.lg=true∧tksE s=110∧tksB s=0)):=hE
 have cE:=expr0_d hK w1 (nf (rdT s)) hs
 rw [rd_nf exprT_nil] at cE
 clear cB hb hs hK hgd hT hE hB hz0 HX eW0
 go_wp2_with fail
 refine cE.mono ?_
 rintro e w2 ⟨⟨⟨k2,o2,ty2,n2,f2,x2,p2⟩,am2,cm2,ks2⟩,rfl,hl,hk,hs,hm,ht⟩
 simp only [Nd.vals,Nd.h,Nd.a,Nd.c,Nd.ks,hdA]
 have HX2:=((HX1.out.mv hm (fun k e=>by rw [e]; exact HB1.out)).on (below_new w2 (.cells #[zU k2,zU o2,zU ty2,zI n2,zU f2,.string x2,.slice am2 ks2.length cm2,zI p2] 48))).hid
 have hn:=below_new w2 (.cells #[zU k2,zU o2,zU ty2,zI n2,zU f2,.string x2,.slice am2 ks2.length cm2,zI p2] 48)
 have hN:=heap_new w2 (.cells #[zU k2,zU o2,zU ty2,zI n2,zU f2,.string x2,.slice am2 ks2.length cm2,zI p2] 48)
 have HL2:=(hl.on hn).hid
 have hs2:=hs.on hn
 have hz1:=(Array.getElem?_eq_some_iff.1 HX1.out.f).1
 have HQ:Hid (w1§≤w2§∧w§+1 < w1§∧b < w1§):=⟨hm.size,hz1,HBL.out⟩
 have HK2:Hid (Bkn (fun k=>w1§≤k∧k < w2§) (Nd.mk ⟨k2,o2,ty2,n2,f2,x2,p2⟩ am2 cm2 ks2)):=hk
 have HT2:Hid (∀ q,exprT (rdT s)=.ok q→treeOf (Nd.mk ⟨k2,o2,ty2,n2,f2,x2,p2⟩ am2 cm2 ks2)=q.1):=ht
 have HN2:Hid ((w2.alloc (.cells #[zU k2,zU o2,zU ty2,zI n2,zU f2,.string x2,.slice am2 ks2.length cm2,zI p2] 48)).heap[w2§]? = some (.cells #[zU k2,zU o2,zU ty2,zI n2,zU f2,.string x2,.slice am2 ks2.length cm2,zI p2] 48 (0,0))):=hN
 have cF:=end_s hs2
 have hsz:=size_alloc w2 (.cells #[zU k2,zU o2,zU ty2,zI n2,zU f2,.string x2,.slice am2 ks2.length cm2,zI p2] 48)
 have HSZ:Hid ((w2.alloc (.cells #[zU k2,zU o2,zU ty2,zI n2,zU f2,.string x2,.slice am2 ks2.length cm2,zI p2] 48))§=w2§+1):=hsz
 clear cE hl hk hs hm ht hN hn hs2 hz1 HX1 hsz
 obtain⟨s2,es2⟩:∃ q,dEnd (stOf (exprT (rdT s)))=q:=⟨_,rfl⟩
 have HS2:Hid (dEnd (stOf (exprT (rdT s)))=s2):=es2
 rw [es2] at cF
 clear es2
 go_wp2_with fail
 refine cF.mono ?_
 rintro e w3 ⟨rfl,hs,hm⟩
 have HX3:=(HX2.out.mv hm (fun k e=>by rw [e]; exact HB1.out)).hid
 have hN3:w3.heap[w2§]? = some (.cells #[zU k2,zU o2,zU ty2,zI n2,zU f2,.string x2,.slice am2 ks2.length cm2,zI p2] 48 (0,0)):=(hm.block _ (by have:=HSZ.out; omega) (by have:=HQ.out; omega)).trans HN2.out
 have HL3:Hid (Lies w3 (Nd.mk ⟨k2,o2,ty2,n2,f2,x2,p2⟩ am2 cm2 ks2)):=HL2.out.bkn HK2.out fun j hj=>hm.block j (by have:=HSZ.out; omega) (by have:=HQ.out; omega)
 have HZ3:Hid (w2§+1≤w3§):=by have:=hm.size; have:=HSZ.out; show _≤_; omega
 clear cF hm HX2 HL2 HN2
 cases s2 with
 | ok ts =>
  obtain⟨q,e1,e2⟩:=whole_ok HS2.out
  have HW:Hid (gWhole s=.ok q.1):=e2
  have HTR:Hid (treeOf (Nd.mk ⟨k2,o2,ty2,n2,f2,x2,p2⟩ am2 cm2 ks2)=q.1):=HT2.out q e1
  obtain⟨i,p,u,hp,_⟩:Lv w3 b K ts:=hs
  have cO:=over_no hp
  clear hp e1 e2
  go_upto_region 4 with fail
  go_wp2_with fail
  refine cO.mono ?_
  rintro e w4 ⟨rfl,e9⟩
  obtain rfl:=e9.symm
  clear cO e9
  have x0':w3.cell? ⟨w2§,0,none⟩=some (zU k2):=cell_of hN3 0
  have z0:w3.cell? ⟨w§,0,none⟩=some (zU 0):=cell_of HX3.out.z 0
  have q0:w3.frozen? ⟨w§,0,none⟩=false:=frozen_of HX3.out.z 0
  have x1':w3.cell? ⟨w2§,1,none⟩=some (zU o2):=cell_of hN3 1
  have z1:w3.cell? ⟨w§,1,none⟩=some (zU 0):=cell_of HX3.out.z 1
  have q1:w3.frozen? ⟨w§,1,none⟩=false:=frozen_of HX3.out.z 1
  have x2':w3.cell? ⟨w2§,2,none⟩=some (zU ty2):=cell_of hN3 2
  have z2:w3.cell? ⟨w§,2,none⟩=some (zU 0):=cell_of HX3.out.z 2
  have q2:w3.frozen? ⟨w§,2,none⟩=false:=frozen_of HX3.out.z 2
  have x3':w3.cell? ⟨w2§,3,none⟩=some (zI n2):=cell_of hN3 3
  have z3:w3.cell? ⟨w§,3,none⟩=some (zI 0):=cell_of HX3.out.z 3
  have q3:w3.frozen? ⟨w§,3,none⟩=false:=frozen_of HX3.out.z 3
  have x4':w3.cell? ⟨w2§,4,none⟩=some (zU f2):=cell_of hN3 4
  have z4:w3.cell? ⟨w§,4,none⟩=some (zU 0):=cell_of HX3.out.z 4
  have q4:w3.frozen? ⟨w§,4,none⟩=false:=frozen_of HX3.out.z 4
  have x5':w3.cell? ⟨w2§,5,none⟩=some (.string x2):=cell_of hN3 5
  have z5:w3.cell? ⟨w§,5,none⟩=some (.string ⟨#[]⟩):=cell_of HX3.out.z 5
  have q5:w3.frozen? ⟨w§,5,none⟩=false:=frozen_of HX3.out.z 5
  have x6':w3.cell? ⟨w2§,6,none⟩=some (.slice am2 ks2.length cm2):=cell_of hN3 6
  have z6:w3.cell? ⟨w§,6,none⟩=some (.slice none 0 0):=cell_of HX3.out.z 6
  have q6:w3.frozen? ⟨w§,6,none⟩=false:=frozen_of HX3.out.z 6
  have x7':w3.cell? ⟨w2§,7,none⟩=some (zI p2):=cell_of hN3 7
  have z7:w3.cell? ⟨w§,7,none⟩=some (zI 0):=cell_of HX3.out.z 7
  have q7:w3.frozen? ⟨w§,7,none⟩=false:=frozen_of HX3.out.z 7
  obtain⟨Y,eY,hY1,hY2,hY3,hY4⟩:=fin8 HX3.out.z (zU k2) (zU o2) (zU ty2) (zI n2) (zU f2) (.string x2) (.slice am2 ks2.length cm2) (zI p2)
  have hYf:Y.heap[w§+1]? = some (.cells #[zI 0,zI 0,.bool false] 30 (0,0)):=(hY3 _ (by omega)).trans HX3.out.f
  obtain⟨U,eU,hU1,hU2,hU3,hU4⟩:=fin3f hYf (zI 0) (zI 0) (.bool false)
  have HEY:Hid (((((((((w3.setCell ⟨w§,0,none⟩ (zU k2)).setCell ⟨w§,1,none⟩ (zU o2)).setCell ⟨w§,2,none⟩ (zU ty2)).setCell ⟨w§,3,none⟩ (zI n2)).setCell ⟨w§,4,none⟩ (zU f2)).setCell ⟨w§,5,none⟩ (.string x2)).setCell ⟨w§,6,none⟩ (.slice am2 ks2.length cm2)).setCell ⟨w§,7,none⟩ (zI p2))=Y):=eY
  have HEU:Hid ((((Y.setCell ⟨w§+1,0,none⟩ (zI 0)).setCell ⟨w§+1,1,none⟩ (zI 0)).setCell ⟨w§+1,2,none⟩ (.bool false))=U):=eU
  have fg0:w3.cell? ⟨w§+1,0,none⟩=some (zI 0):=cell_of HX3.out.f 0
  have fk0:w3.frozen? ⟨w§+1,0,none⟩=false:=frozen_of HX3.out.f 0
  have fg1:w3.cell? ⟨w§+1,1,none⟩=some (zI 0):=cell_of HX3.out.f 1
  have fk1:w3.frozen? ⟨w§+1,1,none⟩=false:=frozen_of HX3.out.f 1
  have fg2:w3.cell? ⟨w§+1,2,none⟩=some (.bool false):=cell_of HX3.out.f 2
  have fk2:w3.frozen? ⟨w§+1,2,none⟩=false:=frozen_of HX3.out.f 2
  have HF:Hid (U.heap[w§]? = some (.cells (Nd.mk ⟨k2,o2,ty2,n2,f2,x2,p2⟩ am2 cm2 ks2).vals 48 (0,0))∧U.heap[w§+1]? = some (.cells #[zI 0,zI 0,.bool false] 30 (0,0))∧Lies U (Nd.mk ⟨k2,o2,ty2,n2,f2,x2,p2⟩ am2 cm2 ks2)∧Bkn (fun k=>w§≤k∧k < U§) (Nd.mk ⟨k2,o2,ty2,n2,f2,x2,p2⟩ am2 cm2 ks2)∧Below w§ w U):=by
   have hq:=HQ.out
   have hz:=HZ3.out
   refine⟨(hU3 _ (by omega)).trans hY1,hU1,HL3.out.bkn HK2.out fun j hj=>(hU3 j (by omega)).trans (hY3 j (by omega)),HK2.out.mono fun j hj=>⟨by omega,by omega⟩,?_⟩
   exact (hU4 w (fun _=>False) (hY4 w (fun _=>False) (Mv.ofBelow HX3.out.B) (Nat.le_refl _)) (by omega)).below (Nat.le_refl _) (fun _ e=>e.elim)
  clear hN3 eY eU hY1 hY2 hY3 hY4 hU1 hU2 hU3 hU4 hYf
  go_wp2_with fail
  rw [HEY.out,HEU.out]
  refine bodyPost_ret (results_cc rfl _ _ w§ (w§+1) 48 30 (Nd.mk ⟨k2,o2,ty2,n2,f2,x2,p2⟩ am2 cm2 ks2).vals #[zI 0,zI 0,.bool false] (0,0) (0,0) _ _ rfl HF.out.1 Tryz.underlying48 rfl zK rfl HF.out.2.1 Tryz.underlying30 rfl zK) rfl ⟨?_,HF.out.2.2.2.2⟩
  rw [HW.out]
  exact⟨_,rfl,HTR.out,HF.out.2.2.1,HF.out.2.2.2.1⟩
 | error f =>
  have HW:Hid (gWhole s=.error f):=whole_err HS2.out
  exact absurd (HGW.out.symm.trans HW.out) (fun h=>by cases h)
def txS:ByteArray:=⟨#[115,116,114,97,116,101,103,121,32,115,32,123,32,114,101,103,32,110,32,105,110,116,32,61,32,49,59,32,114,101,103,32,100,111,110,101,32,98,111,111,108,32,61,32,116,114,117,101,59,32,115,116,97,116,101,32,97,32,123,32,119,104,101,110,32,100,111,110,101,32,100,111,32,103,111,116,111,32,97,59,32,125,32,125]⟩
def txT:ByteArray:=⟨#[115,116,114,97,116,101,103,121,32,115,32,123,32,115,116,97,116,101,32,97,32,123,32,119,104,101,110,32,116,114,117,101,32,100,111,32,103,111,116,111,32,98,59,32,125,32,125]⟩
def txN:ByteArray:=⟨#[98,105,100,32,47,32,110]⟩
def txM:ByteArray:=⟨#[98,105,100,32,43,32,49]⟩
def sS:StratT:=(pWhole txS).getD ⟨txN,[],[],[]⟩
def sU:StratT:=(pWhole txT).getD ⟨txN,[],[],[]⟩
def tN:Tr:=match gWhole txN with
 | .ok t=>t
 | .error _=>tr0
def tM:Tr:=match gWhole txM with
 | .ok t=>t
 | .error _=>tr0
set_option maxRecDepth 1000000
theorem pS1:pWhole txS=some sS:=by kernel_rfl
theorem pU1:pWhole txT=some sU:=by kernel_rfl
theorem gN1:gWhole txN=.ok tN:=by kernel_rfl
theorem gM1:gWhole txM=.ok tM:=by kernel_rfl
theorem chS:chkE (sT sS)=none:=by kernel_rfl
theorem chU:chkE (sT sU)=some (36,151):=by kernel_rfl
theorem zBS:zB (sT sS)=true:=by kernel_rfl
theorem zBU:zB (sT sU)=true:=by kernel_rfl
theorem ofN:ofE (sT sS) (ndT tN)=.ok 3:=by kernel_rfl
theorem ofM:ofE (sT sS) (ndT tM)=.error (4,152):=by kernel_rfl
theorem szN:size (ndT tN)≤100:=by decide +kernel
theorem szM:size (ndT tM)≤100:=by decide +kernel
theorem two_box (w:World) (x y:Array Value) (t u:TypeId):((w.alloc (.cells x t)).alloc (.cells y u)).heap[w§]? = some (.cells x t (0,0))∧Below w§ w ((w.alloc (.cells x t)).alloc (.cells y u)):=by
 have h1:=below_new w (.cells x t)
 have h2:=below_new (w.alloc (.cells x t)) (.cells y u)
 have h3:=heap_new w (.cells x t)
 exact⟨(h2.block _ (Array.getElem?_eq_some_iff.1 h3).1).trans h3,below2 h1 h2⟩
def InS (W:World) (S:StratM) (A:Nat):Prop:=StratL W S∧W.heap[A]? = some (.cells S.vals 27 (0,0))
def InN (W:World) (m:Nd) (A:Nat):Prop:=Lies W m∧W.heap[A]? = some (.cells m.vals 48 (0,0))
theorem InS.on {W W':World}{S:StratM}{A:Nat}(h:InS W S A) (b:Below W§ W W'):InS W' S A:=⟨h.1.on b,(b.block _ (Array.getElem?_eq_some_iff.1 h.2).1).trans h.2⟩
theorem InN.on {W W':World}{m:Nd}{A:Nat}(h:InN W m A) (b:Below W§ W W'):InN W' m A:=⟨h.1.on b,(b.block _ (Array.getElem?_eq_some_iff.1 h.2).1).trans h.2⟩
theorem InS.new {w:World}{S:StratM}(h:StratL w S) (y:Array Value) (u:TypeId):InS ((w.alloc (.cells S.vals 27)).alloc (.cells y u)) S w§:=⟨h.on (two_box w S.vals y 27 u).2,(two_box w S.vals y 27 u).1⟩
theorem InN.new {w:World}{m:Nd}(h:Lies w m) (y:Array Value) (u:TypeId):InN ((w.alloc (.cells m.vals 48)).alloc (.cells y u)) m w§:=⟨h.on (two_box w m.vals y 48 u).2,(two_box w m.vals y 48 u).1⟩
set_option maxRecDepth 100000 in
set_option maxHeartbeats 8000000 in
theorem awake_any (w:World) (ht:Tab w) (hf:FTab w) (hg:Ety w):Calls zG 8 #[] w fun e w'=>e=.returned (.bool true)∧Below w§ w w':=by
 have HT:Hid (Tab w∧FTab w∧Ety w):=⟨ht,hf,hg⟩
 clear ht hf hg
 go_enter Tryz.func8,Tryz.ntmps8
 go_wp2_with fail
 refine (strat_l (s:=txS) pS1 w).mono ?_
 rintro e w1 ⟨S,rfl,htr,hls,hb1⟩
 have hbs:bStr S=sT sS:=by rw [bStr_tr,htr]
 have HS:Hid (chkE S=none∧StratZ S∧∀ m,ofE S m=ofE (sT sS) (bare m)):=⟨by rw [← chkE_b,hbs]; exact chS,zB_z (by rw [← zB_b,hbs]; exact zBS),fun m=>by rw [← ofE_b,hbs]⟩
 have HW1:Hid (Below w§ w ((w1.alloc (.cells #[.string S.x,.slice S.ra S.rs.length S.rc,.slice S.sa S.ss.length S.sc,.slice S.ta S.ts.length S.tc] 27)).alloc (.cells #[zI 0,zI 0,.bool false] 30))∧InS ((w1.alloc (.cells #[.string S.x,.slice S.ra S.rs.length S.rc,.slice S.sa S.ss.length S.sc,.slice S.ta S.ts.length S.tc] 27)).alloc (.cells #[zI 0,zI 0,.bool false] 30)) S w1§):=⟨below2 hb1 (two_box w1 _ _ _ _).2,InS.new hls _ _⟩
 clear htr hls hbs hb1
 unfold StratM.vals
 go_upto_region 2 with fail
 generalize (w1.alloc (.cells #[.string S.x,.slice S.ra S.rs.length S.rc,.slice S.sa S.ss.length S.sc,.slice S.ta S.ts.length S.tc] 27)).alloc (.cells #[zI 0,zI 0,.bool false] 30)=W1 at HW1 ⊢
 generalize w1§=A1 at HW1 ⊢
 go_wp2_with fail
 refine (strat_l (s:=txT) pU1 W1).mono ?_
 rintro e w2 ⟨U,rfl,htr,hls,hb1⟩
 have hbs:bStr U=sT sU:=by rw [bStr_tr,htr]
 have HU:Hid (chkE U=some (36,151)∧StratZ U):=⟨by rw [← chkE_b,hbs]; exact chU,zB_z (by rw [← zB_b,hbs]; exact zBU)⟩
 have h12:=below2 hb1 (two_box w2 #[.string U.x,.slice U.ra U.rs.length U.rc,.slice U.sa U.ss.length U.sc,.slice U.ta U.ts.length U.tc] #[zI 0,zI 0,.bool false] 27 30).2
 have HW2:Hid (Below w§ w ((w2.alloc (.cells #[.string U.x,.slice U.ra U.rs.length U.rc,.slice U.sa U.ss.length U.sc,.slice U.ta U.ts.length U.tc] 27)).alloc (.cells #[zI 0,zI 0,.bool false] 30))∧InS ((w2.alloc (.cells #[.string U.x,.slice U.ra U.rs.length U.rc,.slice U.sa U.ss.length U.sc,.slice U.ta U.ts.length U.tc] 27)).alloc (.cells #[zI 0,zI 0,.bool false] 30)) S A1∧InS ((w2.alloc (.cells #[.string U.x,.slice U.ra U.rs.length U.rc,.slice U.sa U.ss.length U.sc,.slice U.ta U.ts.length U.tc] 27)).alloc (.cells #[zI 0,zI 0,.bool false] 30)) U w2§):=⟨below2 HW1.out.1 h12,HW1.out.2.on h12,InS.new hls _ _⟩
 clear htr hls hbs hb1 h12 HW1
 unfold StratM.vals
 go_upto_region 3 with fail
 generalize (w2.alloc (.cells #[.string U.x,.slice U.ra U.rs.length U.rc,.slice U.sa U.ss.length U.sc,.slice U.ta U.ts.length U.tc] 27)).alloc (.cells #[zI 0,zI 0,.bool false] 30)=W2 at HW2 ⊢
 generalize w2§=A2 at HW2 ⊢
 go_wp2_with fail
 refine (exprX txN tN gN1 W2).mono ?_
 rintro e w3 ⟨h1,hb1⟩
 rw [gN1] at h1
 obtain⟨n,rfl,htr,hln,_⟩:=h1
 have hbn:bare n=ndT tN:=by unfold bare; rw [htr]
 have HN:Hid (ofE S n=.ok 3∧size n≤1000000000000):=⟨by rw [HS.out.2.2,hbn]; exact ofN,by have:=szN; rw [← hbn,size_b] at this; omega⟩
 have h12:=below2 hb1 (two_box w3 #[zU n.h.k,zU n.h.o,zU n.h.t,zI n.h.n,zU n.h.f,.string n.h.x,.slice n.a n.ks.length n.c,zI n.h.p] #[zI 0,zI 0,.bool false] 48 30).2
 have HW3:Hid (Below w§ w ((w3.alloc (.cells #[zU n.h.k,zU n.h.o,zU n.h.t,zI n.h.n,zU n.h.f,.string n.h.x,.slice n.a n.ks.length n.c,zI n.h.p] 48)).alloc (.cells #[zI 0,zI 0,.bool false] 30))∧InS ((w3.alloc (.cells #[zU n.h.k,zU n.h.o,zU n.h.t,zI n.h.n,zU n.h.f,.string n.h.x,.slice n.a n.ks.length n.c,zI n.h.p] 48)).alloc (.cells #[zI 0,zI 0,.bool false] 30)) S A1∧InS ((w3.alloc (.cells #[zU n.h.k,zU n.h.o,zU n.h.t,zI n.h.n,zU n.h.f,.string n.h.x,.slice n.a n.ks.length n.c,zI n.h.p] 48)).alloc (.cells #[zI 0,zI 0,.bool false] 30)) U A2∧InN ((w3.alloc (.cells #[zU n.h.k,zU n.h.o,zU n.h.t,zI n.h.n,zU n.h.f,.string n.h.x,.slice n.a n.ks.length n.c,zI n.h.p] 48)).alloc (.cells #[zI 0,zI 0,.bool false] 30)) n w3§):=⟨below2 HW2.out.1 h12,HW2.out.2.1.on h12,HW2.out.2.2.on h12,InN.new hln _ _⟩
 clear htr hln hbn hb1 h12 HW2
 unfold Nd.vals hdA
 go_upto_region 4 with fail
 generalize (w3.alloc (.cells #[zU n.h.k,zU n.h.o,zU n.h.t,zI n.h.n,zU n.h.f,.string n.h.x,.slice n.a n.ks.length n.c,zI n.h.p] 48)).alloc (.cells #[zI 0,zI 0,.bool false] 30)=W3 at HW3 ⊢
 generalize w3§=A3 at HW3 ⊢
 go_wp2_with fail
 refine (exprX txM tM gM1 W3).mono ?_
 rintro e w4 ⟨h1,hb1⟩
 rw [gM1] at h1
 obtain⟨m,rfl,htr,hln,_⟩:=h1
 have hbn:bare m=ndT tM:=by unfold bare; rw [htr]
 have HM:Hid (ofE S m=.error (4,152)∧size m≤1000000000000):=⟨by rw [HS.out.2.2,hbn]; exact ofM,by have:=szM; rw [← hbn,size_b] at this; omega⟩
 have h12:=below2 hb1 (two_box w4 #[zU m.h.k,zU m.h.o,zU m.h.t,zI m.h.n,zU m.h.f,.string m.h.x,.slice m.a m.ks.length m.c,zI m.h.p] #[zI 0,zI 0,.bool false] 48 30).2
 have HW4:Hid (Below w§ w ((w4.alloc (.cells #[zU m.h.k,zU m.h.o,zU m.h.t,zI m.h.n,zU m.h.f,.string m.h.x,.slice m.a m.ks.length m.c,zI m.h.p] 48)).alloc (.cells #[zI 0,zI 0,.bool false] 30))∧InS ((w4.alloc (.cells #[zU m.h.k,zU m.h.o,zU m.h.t,zI m.h.n,zU m.h.f,.string m.h.x,.slice m.a m.ks.length m.c,zI m.h.p] 48)).alloc (.cells #[zI 0,zI 0,.bool false] 30)) S A1∧InS ((w4.alloc (.cells #[zU m.h.k,zU m.h.o,zU m.h.t,zI m.h.n,zU m.h.f,.string m.h.x,.slice m.a m.ks.length m.c,zI m.h.p] 48)).alloc (.cells #[zI 0,zI 0,.bool false] 30)) U A2∧InN ((w4.alloc (.cells #[zU m.h.k,zU m.h.o,zU m.h.t,zI m.h.n,zU m.h.f,.string m.h.x,.slice m.a m.ks.length m.c,zI m.h.p] 48)).alloc (.cells #[zI 0,zI 0,.bool false] 30)) n A3∧InN ((w4.alloc (.cells #[zU m.h.k,zU m.h.o,zU m.h.t,zI m.h.n,zU m.h.f,.string m.h.x,.slice m.a m.ks.length m.c,zI m.h.p] 48)).alloc (.cells #[zI 0,zI 0,.bool false] 30)) m w4§):=⟨below2 HW3.out.1 h12,HW3.out.2.1.on h12,HW3.out.2.2.1.on h12,HW3.out.2.2.2.on h12,InN.new hln _ _⟩
 clear htr hln hbn hb1 h12 HW3
 unfold Nd.vals hdA
 go_upto_region 5 with fail
 generalize (w4.alloc (.cells #[zU m.h.k,zU m.h.o,zU m.h.t,zI m.h.n,zU m.h.f,.string m.h.x,.slice m.a m.ks.length m.c,zI m.h.p] 48)).alloc (.cells #[zI 0,zI 0,.bool false] 30)=W4 at HW4 ⊢
 generalize w4§=A4 at HW4 ⊢
 have y0:W4.cell? ⟨A1,0,none⟩=some (.string S.x):=cell_of HW4.out.2.1.2 0
 have y1:W4.cell? ⟨A1,1,none⟩=some (.slice S.ra S.rs.length S.rc):=cell_of HW4.out.2.1.2 1
 have y2:W4.cell? ⟨A1,2,none⟩=some (.slice S.sa S.ss.length S.sc):=cell_of HW4.out.2.1.2 2
 have y3:W4.cell? ⟨A1,3,none⟩=some (.slice S.ta S.ts.length S.tc):=cell_of HW4.out.2.1.2 3
 have c5:Calls zG 11 #[.agg #[.string S.x,.slice S.ra S.rs.length S.rc,.slice S.sa S.ss.length S.sc,.slice S.ta S.ts.length S.tc]] W4 (OutC W4 (chkE S)):=tyCheck_any S W4 HW4.out.2.1.1 HS.out.2.1 (HT.out.1.on HW4.out.1) (HT.out.2.1.on HW4.out.1) (HT.out.2.2.on HW4.out.1)
 go_wp2_with fail
 refine c5.mono ?_
 rintro e w5 (⟨_,rfl,hb5⟩ | ⟨p,no,T,v,h1,_⟩)
 case inr=>rw [HS.out.1] at h1; cases h1
 have HW5:Hid (Below w§ w w5∧InS w5 S A1∧InS w5 U A2∧InN w5 n A3∧InN w5 m A4):=⟨below2 HW4.out.1 hb5,HW4.out.2.1.on hb5,HW4.out.2.2.1.on hb5,HW4.out.2.2.2.1.on hb5,HW4.out.2.2.2.2.on hb5⟩
 clear hb5 c5 HW4 y0 y1 y2 y3
 have y0:w5.cell? ⟨A2,0,none⟩=some (.string U.x):=cell_of HW5.out.2.2.1.2 0
 have y1:w5.cell? ⟨A2,1,none⟩=some (.slice U.ra U.rs.length U.rc):=cell_of HW5.out.2.2.1.2 1
 have y2:w5.cell? ⟨A2,2,none⟩=some (.slice U.sa U.ss.length U.sc):=cell_of HW5.out.2.2.1.2 2
 have y3:w5.cell? ⟨A2,3,none⟩=some (.slice U.ta U.ts.length U.tc):=cell_of HW5.out.2.2.1.2 3
 have c6:Calls zG 11 #[.agg #[.string U.x,.slice U.ra U.rs.length U.rc,.slice U.sa U.ss.length U.sc,.slice U.ta U.ts.length U.tc]] w5 (OutC w5 (chkE U)):=tyCheck_any U w5 HW5.out.2.2.1.1 HU.out.2 (HT.out.1.on HW5.out.1) (HT.out.2.1.on HW5.out.1) (HT.out.2.2.on HW5.out.1)
 go_wp2_with fail
 refine c6.mono ?_
 rintro e w6 (⟨h1,_⟩ | ⟨p,no,T,v,h1,rfl,hE,hb6⟩)
 case inl=>rw [HU.out.1] at h1; cases h1
 rw [HU.out.1] at h1
 cases h1
 have HW6:Hid (Below w§ w w6∧InS w6 S A1∧InN w6 n A3∧InN w6 m A4):=⟨below2 HW5.out.1 hb6,HW5.out.2.1.on hb6,HW5.out.2.2.2.1.on hb6,HW5.out.2.2.2.2.on hb6⟩
 have c7:=pwrong_any hE (HT.out.2.2.on HW6.out.1)
 clear hb6 c6 HW5 hE y0 y1 y2 y3
 go_wp2_with fail
 refine c7.mono ?_
 rintro e w7 ⟨rfl,hb7⟩
 have HW7:Hid (Below w§ w w7∧InS w7 S A1∧InN w7 n A3∧InN w7 m A4):=⟨below2 HW6.out.1 hb7,HW6.out.2.1.on hb7,HW6.out.2.2.1.on hb7,HW6.out.2.2.2.on hb7⟩
 clear hb7 c7 HW6
 have c8:Calls zG 16 #[.agg #[.string S.x,.slice S.ra S.rs.length S.rc,.slice S.sa S.ss.length S.sc,.slice S.ta S.ts.length S.tc],.agg #[zU n.h.k,zU n.h.o,zU n.h.t,zI n.h.n,zU n.h.f,.string n.h.x,.slice n.a n.ks.length n.c,zI n.h.p]] w7 (OutT w7 (ofE S n)):=of_any S n w7 HW7.out.2.1.1 HW7.out.2.2.1.1 HN.out.2 (HT.out.1.on HW7.out.1) (HT.out.2.1.on HW7.out.1)
 have y0:w7.cell? ⟨A1,0,none⟩=some (.string S.x):=cell_of HW7.out.2.1.2 0
 have y1:w7.cell? ⟨A1,1,none⟩=some (.slice S.ra S.rs.length S.rc):=cell_of HW7.out.2.1.2 1
 have y2:w7.cell? ⟨A1,2,none⟩=some (.slice S.sa S.ss.length S.sc):=cell_of HW7.out.2.1.2 2
 have y3:w7.cell? ⟨A1,3,none⟩=some (.slice S.ta S.ts.length S.tc):=cell_of HW7.out.2.1.2 3
 have z0:w7.cell? ⟨A3,0,none⟩=some (zU n.h.k):=cell_of HW7.out.2.2.1.2 0
 have z1:w7.cell? ⟨A3,1,none⟩=some (zU n.h.o):=cell_of HW7.out.2.2.1.2 1
 have z2:w7.cell? ⟨A3,2,none⟩=some (zU n.h.t):=cell_of HW7.out.2.2.1.2 2
 have z3:w7.cell? ⟨A3,3,none⟩=some (zI n.h.n):=cell_of HW7.out.2.2.1.2 3
 have z4:w7.cell? ⟨A3,4,none⟩=some (zU n.h.f):=cell_of HW7.out.2.2.1.2 4
 have z5:w7.cell? ⟨A3,5,none⟩=some (.string n.h.x):=cell_of HW7.out.2.2.1.2 5
 have z6:w7.cell? ⟨A3,6,none⟩=some (.slice n.a n.ks.length n.c):=cell_of HW7.out.2.2.1.2 6
 have z7:w7.cell? ⟨A3,7,none⟩=some (zI n.h.p):=cell_of HW7.out.2.2.1.2 7
 go_wp2_with fail
 refine c8.mono ?_
 rintro e w8 (⟨t,h1,rfl,hb8⟩ | ⟨p,no,b,h1,_⟩)
 case inr=>rw [HN.out.1] at h1; cases h1
 rw [HN.out.1] at h1
 cases h1
 have HW8:Hid (Below w§ w w8∧InS w8 S A1∧InN w8 m A4):=⟨below2 HW7.out.1 hb8,HW7.out.2.1.on hb8,HW7.out.2.2.2.on hb8⟩
 clear hb8 c8 HW7 y0 y1 y2 y3 z0 z1 z2 z3 z4 z5 z6 z7
 have c9:Calls zG 16 #[.agg #[.string S.x,.slice S.ra S.rs.length S.rc,.slice S.sa S.ss.length S.sc,.slice S.ta S.ts.length S.tc],.agg #[zU m.h.k,zU m.h.o,zU m.h.t,zI m.h.n,zU m.h.f,.string m.h.x,.slice m.a m.ks.length m.c,zI m.h.p]] w8 (OutT w8 (ofE S m)):=of_any S m w8 HW8.out.2.1.1 HW8.out.2.2.1 HM.out.2 (HT.out.1.on HW8.out.1) (HT.out.2.1.on HW8.out.1)
 have y0:w8.cell? ⟨A1,0,none⟩=some (.string S.x):=cell_of HW8.out.2.1.2 0
 have y1:w8.cell? ⟨A1,1,none⟩=some (.slice S.ra S.rs.length S.rc):=cell_of HW8.out.2.1.2 1
 have y2:w8.cell? ⟨A1,2,none⟩=some (.slice S.sa S.ss.length S.sc):=cell_of HW8.out.2.1.2 2
 have y3:w8.cell? ⟨A1,3,none⟩=some (.slice S.ta S.ts.length S.tc):=cell_of HW8.out.2.1.2 3
 have z0:w8.cell? ⟨A4,0,none⟩=some (zU m.h.k):=cell_of HW8.out.2.2.2 0
 have z1:w8.cell? ⟨A4,1,none⟩=some (zU m.h.o):=cell_of HW8.out.2.2.2 1
 have z2:w8.cell? ⟨A4,2,none⟩=some (zU m.h.t):=cell_of HW8.out.2.2.2 2
 have z3:w8.cell? ⟨A4,3,none⟩=some (zI m.h.n):=cell_of HW8.out.2.2.2 3
 have z4:w8.cell? ⟨A4,4,none⟩=some (zU m.h.f):=cell_of HW8.out.2.2.2 4
 have z5:w8.cell? ⟨A4,5,none⟩=some (.string m.h.x):=cell_of HW8.out.2.2.2 5
 have z6:w8.cell? ⟨A4,6,none⟩=some (.slice m.a m.ks.length m.c):=cell_of HW8.out.2.2.2 6
 have z7:w8.cell? ⟨A4,7,none⟩=some (zI m.h.p):=cell_of HW8.out.2.2.2 7
 go_wp2_with fail
 refine c9.mono ?_
 rintro e w9 (⟨t,h1,_⟩ | ⟨p,no,b,h1,rfl,_,hF,hb9⟩)
 case inl=>rw [HM.out.1] at h1; cases h1
 rw [HM.out.1] at h1
 cases h1
 have HW9:Hid (Below w§ w w9):=below2 HW8.out.1 hb9
 have cA:=pwrong_any hF.er (HT.out.2.2.on HW9.out)
 clear hb9 c9 HW8 y0 y1 y2 y3 z0 z1 z2 z3 z4 z5 z6 z7 hF
 go_wp2_with fail
 refine cA.mono ?_
 rintro e wA ⟨rfl,hbA⟩
 have HWA:Hid (Below w§ w wA):=below2 HW9.out hbA
 clear hbA cA HW9
 go_wp2_with fail
 go_ret
 exact⟨rfl,HWA.out⟩
theorem size26s:(Tryz.prog.info? 27).map (·.size)=some 4:=by kernel_rfl
theorem sizeN:(Tryz.prog.info? 48).map (·.size)=some 8:=by kernel_rfl
set_option maxRecDepth 100000 in
set_option maxHeartbeats 8000000 in
theorem far_any (S:StratM) (m:Nd) (w:World) (hl:StratL w S) (hm:Lies w m):Calls zG 13 #[.agg S.vals,.agg m.vals] w fun e w'=>(∃ f:Bool,e=.returned (.bool f)∧(f=false→StratZ S∧size m≤1048576))∧Below w§ w w':=by
 have HH:Hid (StratL w S∧Lies w m):=⟨hl,hm⟩
 have e2:=below_two w (.cells S.vals 27) (.cells m.vals 48)
 have n1:((w.alloc (.cells S.vals 27)).alloc (.cells m.vals 48)).heap[w§]? = some (.cells S.vals 27 (0,0)):=heap_old (heap_new _ _) (by rw [size_alloc]; omega)
 have n2:((w.alloc (.cells S.vals 27)).alloc (.cells m.vals 48)).heap[w§+1]? = some (.cells m.vals 48 (0,0)):=by rw [← size_alloc w (.cells S.vals 27)]; exact heap_new _ _
 obtain⟨V,eV⟩:∃ V,(w.alloc (.cells S.vals 27)).alloc (.cells m.vals 48)=V:=⟨_,rfl⟩
 rw [eV] at e2 n1 n2
 have HV:Hid ((w.alloc (.cells S.vals 27)).alloc (.cells m.vals 48)=V):=eV
 have HB:Hid (Below w§ w V):=e2
 have HN1:Hid (V.heap[w§]? = some (.cells S.vals 27 (0,0))):=n1
 have HN2:Hid (V.heap[w§+1]? = some (.cells m.vals 48 (0,0))):=n2
 have c1:=weighS_any S V (hl.on e2)
 clear hl hm e2 n1 n2 eV
 go_enter Tryz.func13,Tryz.ntmps13
 go_upto_region 1 with fail
 rw [HV.out]
 go_wp2_with (refine wpList_load_row rfl 27 _ rfl w§ rfl 27 S.vals (0,0) _ HN1.out Tryz.underlying27 rfl size26s ?_)
 refine c1.mono ?_
 rintro e w1 ⟨⟨r,rfl,hr⟩,hb⟩
 have HR:Hid (WghS S r):=hr
 have HB1:Hid (Below w§ w w1):=below2 HB.out hb
 have HN3:Hid (w1.heap[w§+1]? = some (.cells m.vals 48 (0,0))):=(hb.block _ (Array.getElem?_eq_some_iff.1 HN2.out).1).trans HN2.out
 by_cases hb1:r≤1048576
 ·have hn:¬ (1048576:Int) < r:=by omega
  have c2:Calls zG 38 #[.agg #[zU m.h.k,zU m.h.o,zU m.h.t,zI m.h.n,zU m.h.f,.string m.h.x,.slice m.a m.ks.length m.c,zI m.h.p],zI r,zI 0] w1 fun e w'=>(∃ r2,e=.returned (zI r2)∧Wgt m r r2)∧Below w1§ w1 w':=weigh_top m w1 r (HH.out.2.on HB1.out) hr.1 (by have:=hr.2.1; omega)
  have z0:w1.cell? ⟨w§+1,0,none⟩=some (zU m.h.k):=cell_of HN3.out 0
  have z1:w1.cell? ⟨w§+1,1,none⟩=some (zU m.h.o):=cell_of HN3.out 1
  have z2:w1.cell? ⟨w§+1,2,none⟩=some (zU m.h.t):=cell_of HN3.out 2
  have z3:w1.cell? ⟨w§+1,3,none⟩=some (zI m.h.n):=cell_of HN3.out 3
  have z4:w1.cell? ⟨w§+1,4,none⟩=some (zU m.h.f):=cell_of HN3.out 4
  have z5:w1.cell? ⟨w§+1,5,none⟩=some (.string m.h.x):=cell_of HN3.out 5
  have z6:w1.cell? ⟨w§+1,6,none⟩=some (.slice m.a m.ks.length m.c):=cell_of HN3.out 6
  have z7:w1.cell? ⟨w§+1,7,none⟩=some (zI m.h.p):=cell_of HN3.out 7
  clear c1 hr hb HN1 HN2
  go_wp2_with fail
  refine c2.mono ?_
  rintro e w2 ⟨⟨r2,rfl,hr2⟩,hb2⟩
  have HR2:Hid (Wgt m r r2):=hr2
  have HB2:Hid (Below w§ w w2):=below2 HB1.out hb2
  clear c2 hr2 hb2
  go_wp2_with fail
  go_ret
  refine⟨⟨_,rfl,fun hf=>?_⟩,HB2.out⟩
  have h0:r≤1048576∧r2≤1048576:=by simpa using hf
  have h1:=h0.2
  have h2:=HR2.out.2.2 h1
  have h3:=size_wt m
  have h4:=HR.out.1
  exact⟨HR.out.2.2 hb1,by omega⟩
 ·have hn:(1048576:Int) < r:=by omega
  clear c1 hr hb HN1 HN2
  go_wp2_with fail
  go_ret
  exact⟨⟨_,rfl,fun hf=>by simp at hf⟩,HB1.out⟩
def OfR (S:StratM) (m:Nd) (w:World) (t:Int) (v:Value) (p:Int):Prop :=
 (ofE S m=.ok t∧v=.nilIface∧p=0)∨(∃ pl b,ofE S m=.error (pl,p)∧t=0∧v=.iface 118 (zP b)∧Er w v p pl)
theorem OfR.on {S:StratM}{m:Nd}{w w':World}{t:Int}{v:Value}{p:Int}(h:OfR S m w t v p) (k:Below w§ w w'):OfR S m w' t v p:=by
 rcases h with h | ⟨pl,b,h1,h2,h3,h4⟩
 ·exact .inl h
 ·exact .inr ⟨pl,b,h1,h2,h3,h4.on k⟩
theorem ofP (S:StratM) (m:Nd) (w:World) (hl:StratL w S) (hm:Lies w m) (hz:size m≤1000000000000) (ht:Tab w) (hf:FTab w):Calls zG 16 #[.agg S.vals,.agg m.vals] w fun e w'=>∃ t v p,e=.returned (.tuple #[zU t,v])∧OfR S m w' t v p∧Below w§ w w':=by
 refine (of_any S m w hl hm hz ht hf).mono ?_
 rintro e w' (⟨t,h1,rfl,hb⟩ | ⟨p,no,b,h1,rfl,_,hF,hb⟩)
 ·exact⟨t,_,0,rfl,.inl ⟨h1,rfl,rfl⟩,hb⟩
 ·exact⟨0,_,no,rfl,.inr ⟨p,b,h1,rfl,rfl,hF.er⟩,hb⟩
theorem wrongP {S:StratM}{m:Nd}{w:World}{t:Int}{v:Value}{p:Int}(h:OfR S m w t v p) (hg:Ety w):Calls zG 10 #[v] w fun e w'=>(∃ q,e=.returned (.tuple #[zI p,zI q]))∧Below w§ w w':=by
 rcases h with ⟨_,rfl,rfl⟩ | ⟨pl,b,_,_,rfl,h4⟩
 ·refine (pwrong_nil w).mono ?_
  rintro e w' ⟨rfl,rfl⟩
  exact⟨⟨_,rfl⟩,Below.refl _ _⟩
 ·refine (pwrong_any h4 hg).mono ?_
  rintro e w' ⟨rfl,hb⟩
  exact⟨⟨_,rfl⟩,hb⟩
theorem OfR.two {S:StratM}{m:Nd}{w:World}{t:Int}{v:Value}{p:Int}(h:OfR S m w t v p):(v=.nilIface∧ofE S m=.ok t)∨∃ b,v=.iface 118 (zP b):=by
 rcases h with ⟨h1,h2,_⟩ | ⟨pl,b,_,_,h3,_⟩
 ·exact .inl ⟨h2,h1⟩
 ·exact .inr ⟨b,h3⟩
def kC (B:Nat) (a b c:Nd):Nd:=.mk ⟨7,0,0,0,0,⟨#[]⟩,0⟩ (some ⟨B,0,none⟩) 3 [a,b,c]
def kB (o:Int) (B:Nat) (b c:Nd):Nd:=.mk ⟨6,o,0,0,0,⟨#[]⟩,0⟩ (some ⟨B,0,none⟩) 2 [b,c]
theorem of_ok {S:StratM}{m:Nd}{t:Int}(h:ofE S m=.ok t):formB m=true∧tyR (regL S.rs) m=.ok t:=by
 unfold ofE at h
 split at h
 ·rename_i h0
  refine⟨?_,h⟩
  unfold cE at h0
  split at h0
  ·assumption
  ·omega
 ·cases h
theorem cond_of {S:StratM}{a b c:Nd}{x y z:Int}(ha:ofE S a=.ok x) (hb:ofE S b=.ok y) (hc:ofE S c=.ok z) (B:Nat) :
  ofE S (kC B a b c)=.error (0,122)∨ofE S (kC B a b c)=if x == 5 && y == z then .ok y else .error (0,152):=by
 obtain⟨a1,a2⟩:=of_ok ha
 obtain⟨b1,b2⟩:=of_ok hb
 obtain⟨c1,c2⟩:=of_ok hc
 have hf:formB (kC B a b c)=true:=by simp [kC,formB,formsB,a1,b1,c1,oneH,alike,nm,fitB]
 unfold ofE cE
 rw [hf]
 by_cases hd:dep (kC B a b c)≤24
 ·right
  simp only [hd,if_true]
  simp [kC,tyR,tysR,a2,b2,c2,fitT]
 ·left
  simp [hd]
theorem eq_of {S:StratM}{b c:Nd}{y z:Int}(hb:ofE S b=.ok y) (hc:ofE S c=.ok z) (B:Nat) :
  ofE S (kB 11 B b c)=.error (0,122)∨ofE S (kB 11 B b c)=if y == z then .ok 5 else .error (0,152):=by
 obtain⟨b1,b2⟩:=of_ok hb
 obtain⟨c1,c2⟩:=of_ok hc
 have hf:formB (kB 11 B b c)=true:=by simp [kB,formB,formsB,b1,c1,oneH,alike,nm,fitB]
 unfold ofE cE
 rw [hf]
 by_cases hd:dep (kB 11 B b c)≤24
 ·right
  simp only [hd,if_true]
  simp [kB,tyR,tysR,b2,c2,fitT,pairT]
 ·left
  simp [hd]
theorem add_of {S:StratM}{b c:Nd}{y z:Int}(hb:ofE S b=.ok y) (hc:ofE S c=.ok z) (B:Nat) :
  ofE S (kB 6 B b c)=.error (0,122)∨ofE S (kB 6 B b c)=if numY y && y == z then .ok y else .error (0,152):=by
 obtain⟨b1,b2⟩:=of_ok hb
 obtain⟨c1,c2⟩:=of_ok hc
 have hf:formB (kB 6 B b c)=true:=by simp [kB,formB,formsB,b1,c1,oneH,alike,nm,fitB]
 unfold ofE cE
 rw [hf]
 by_cases hd:dep (kB 6 B b c)≤24
 ·right
  simp only [hd,if_true]
  simp [kB,tyR,tysR,b2,c2,fitT,pairT]
 ·left
  simp [hd]
theorem res_of {S:StratM}{m:Nd}{w:World}{t:Int}{v:Value}{p:Int}(h:OfR S m w t v p) {g:Bool}{y:Int}(k:ofE S m=.error (0,122)∨ofE S m=if g then .ok y else .error (0,152)) :
  (g=true∧v=.nilIface∧t=y∧p=0)∨∃ b,v=.iface 118 (zP b)∧t=0∧((g=false∧p=152)∨p=122):=by
 rcases h with ⟨h1,h2,h3⟩ | ⟨pl,b,h1,h2,h3,_⟩
 ·rcases k with k | k
  ·rw [k] at h1; cases h1
  ·cases g with
   | true=>rw [k] at h1; cases h1; exact .inl ⟨rfl,h2,rfl,h3⟩
   | false=>rw [k] at h1; cases h1
 ·right
  refine⟨b,h3,h2,?_⟩
  rcases k with k | k
  ·rw [k] at h1; cases h1; exact .inr rfl
  ·cases g with
   | true=>rw [k] at h1; cases h1
   | false=>rw [k] at h1; cases h1; exact .inl ⟨rfl,rfl⟩
end Go.Proofs.YtoogodlnnijikaaGreatDoor
