import Derived.Test.YtoogodlnnijikaaGreatDoorA0
import Derived.Test.YtoogodlnnijikaaGreatDoorA25
import Derived.Test.YtoogodlnnijikaaGreatDoorA16
import Derived.Test.YtoogodlnnijikaaGreatDoorA21
import Derived.Test.YtoogodlnnijikaaGreatDoorA2
import Derived.Deep.AppendLies
import Derived.Deep.CutRange
import Derived.Deep.DeepCutAuto
import Derived.Deep.RegionLaw
import Derived.Test.YtoogodlnnijikaaGreatDoorA14
namespace Go.Proofs.YtoogodlnnijikaaGreatDoor
open Go.RowKit
set_option linter.unusedVariables false
set_option linter.unusedSimpArgs false
mutual
def ndT:Tr→Nd
 | .mk h ks=>.mk h none 0 (ndTs ks)
def ndTs:List Tr→List Nd
 | []=>[]
 | k :: ks=>ndT k :: ndTs ks
end
def bare (m:Nd):Nd:=ndT (treeOf m)
theorem bares:∀ ks:List Nd,ndTs (treesOf ks)=ks.map bare
 | []=>rfl
 | k :: ks=>by simp only [treesOf,ndTs,List.map_cons,bares ks]; rfl
theorem bare_mk (h:Hd) (a:Option Addr) (c:Nat) (ks:List Nd):bare (.mk h a c ks)=.mk h none 0 (ks.map bare):=by
 show ndT (treeOf (.mk h a c ks))=_
 rw [treeOf,ndT,bares]
theorem bare_h (m:Nd):(bare m).h=m.h:=by cases m; rw [bare_mk]; rfl
theorem bare_ks (m:Nd):(bare m).ks=m.ks.map bare:=by cases m; rw [bare_mk]; rfl
theorem formsB_b:∀ l:List Nd,(∀ k ∈ l,formB (bare k)=formB k)→formsB (l.map bare)=formsB l
 | [],_=>rfl
 | k :: l,h=>by simp only [List.map_cons,formsB]; rw [h k (by simp),formsB_b l fun x hx=>h x (by simp [hx])]
theorem formB_b:∀ m,formB (bare m)=formB m:=by
 refine Nd.ind fun h a c ks ih=>?_
 rw [bare_mk]
 simp only [formB,List.length_map]
 rw [formsB_b ks ih]
theorem sizes_b:∀ l:List Nd,(∀ k ∈ l,size (bare k)=size k)→sizes (l.map bare)=sizes l
 | [],_=>rfl
 | k :: l,h=>by simp only [List.map_cons,sizes]; rw [h k (by simp),sizes_b l fun x hx=>h x (by simp [hx])]
theorem size_b:∀ m,size (bare m)=size m:=by
 refine Nd.ind fun h a c ks ih=>?_
 rw [bare_mk]
 simp only [size]
 rw [sizes_b ks ih]
theorem deps_b (h:Hd):∀ (l:List Nd) (i:Nat),(∀ k ∈ l,dep (bare k)=dep k)→deps h i (l.map bare)=deps h i l
 | [],i,_=>rfl
 | k :: l,i,hk=>by simp only [List.map_cons,deps]; rw [hk k (by simp),deps_b h l (i+1) fun x hx=>hk x (by simp [hx]),bare_h]
theorem dep_b:∀ m,dep (bare m)=dep m:=by
 refine Nd.ind fun h a c ks ih=>?_
 rw [bare_mk]
 simp only [dep]
 rw [deps_b h ks 0 ih]
theorem tysR_b (L:ByteArray→Option Int):∀ l:List Nd,(∀ k ∈ l,tyR L (bare k)=tyR L k)→tysR L (l.map bare)=tysR L l
 | [],_=>rfl
 | k :: l,h=>by simp only [List.map_cons,tysR]; rw [h k (by simp),tysR_b L l fun x hx=>h x (by simp [hx])]
theorem tyR_b (L:ByteArray→Option Int):∀ m,tyR L (bare m)=tyR L m:=by
 refine Nd.ind fun h a c ks ih=>?_
 rw [bare_mk]
 simp only [tyR,List.length_map]
 rw [tysR_b L ks ih]
theorem samesB_b:∀ (l js:List Nd),(∀ k ∈ l,∀ n,sameB (bare k) n=sameB k n)→samesB (l.map bare) js=samesB l js
 | [],_,_=>rfl
 | k :: l,[],_=>rfl
 | k :: l,j :: js,h=>by simp only [List.map_cons,samesB]; rw [h k (by simp),samesB_b l js fun x hx=>h x (by simp [hx])]
theorem sameB_b:∀ m n,sameB (bare m) n=sameB m n:=by
 refine Nd.ind fun h a c ks ih n=>?_
 rw [bare_mk]
 simp only [sameB,List.length_map]
 rw [samesB_b ks _ ih]
theorem cE_b (m:Nd):cE (bare m)=cE m:=by unfold cE; rw [formB_b,dep_b]
theorem fE_b (m:Nd):fE (bare m)=fE m:=by unfold fE; rw [formB_b]
theorem kid0_b (m:Nd):(kid0 (bare m)).h=(kid0 m).h:=by
 unfold kid0
 rw [bare_ks]
 cases m.ks with
 | nil=>rfl
 | cons k l=>exact bare_h k
def bReg (r:RegM):RegM:=⟨r.x,r.t,bare r.m,r.p⟩
def bDo (d:DoM):DoM:=⟨d.k,d.o,d.x,bare d.sd,bare d.qt,bare d.pr,bare d.vl,d.p⟩
def bRule (r:RuleM):RuleM:=⟨bare r.m,none,0,r.ds.map bDo,r.p⟩
def bState (x:StateM):StateM:=⟨x.x,none,0,x.rs.map bRule,x.p⟩
def bStr (S:StratM):StratM:=⟨S.x,none,0,S.rs.map bReg,none,0,S.ss,none,0,S.ts.map bState⟩
def rgOf (r:RegT):RegM:=⟨r.x,r.t,ndT r.m,r.p⟩
def slOf (r:SlotT):SlotM:=⟨r.x,r.p⟩
def doOf (d:DoT):DoM:=⟨d.k,d.o,d.x,ndT d.sd,ndT d.qt,ndT d.pr,ndT d.vl,d.p⟩
def ruOf (r:RuleT):RuleM:=⟨ndT r.m,none,0,r.ds.map doOf,r.p⟩
def stOfT (x:StateT):StateM:=⟨x.x,none,0,x.rs.map ruOf,x.p⟩
def sT (S:StratT):StratM:=⟨S.x,none,0,S.rs.map rgOf,none,0,S.ss.map slOf,none,0,S.ts.map stOfT⟩
theorem bStr_tr (S:StratM):bStr S=sT S.tr:=by
 unfold bStr sT StratM.tr
 simp only [List.map_map]
 congr 1
 ·exact (List.map_id _).symm
 ·refine List.map_congr_left fun x _=>?_
  show bState x=stOfT x.tr
  unfold bState stOfT StateM.tr
  simp only [List.map_map]
  congr 1
  refine List.map_congr_left fun r _=>?_
  show bRule r=ruOf r.tr
  unfold bRule ruOf RuleM.tr
  simp only [List.map_map]
  rfl
theorem regL_b (l:List RegM):regL (l.map bReg)=regL l:=by
 funext x
 unfold regL
 induction l with
 | nil=>rfl
 | cons r l ih =>
  simp only [List.map_cons,List.find?_cons]
  show Option.map _ (match decide (r.x=x) with | true=>_ | false=>_)=_
  cases decide (r.x=x) with
  | true=>rfl
  | false=>exact ih
theorem regE_b (r:RegM):regE (bReg r)=regE r:=by
 unfold regE initE bReg
 simp only [fE_b,bare_h,kid0_b]
theorem doE_b (d:DoM):doE (bDo d)=doE d:=by
 unfold doE partE
 simp only [bDo,ndO,ndN,ndS,ndQ,ndP,ndV,cE_b,sameB_b]
 rfl
theorem ruleE_b (r:RuleM):ruleE (bRule r)=ruleE r:=by
 unfold ruleE bRule
 simp only [cE_b,List.length_map,List.map_map]
 rw [show (doE ∘ bDo)=doE from funext doE_b]
theorem stateE_b (x:StateM):stateE (bState x)=stateE x:=by
 unfold stateE bState
 simp only [List.length_map,List.map_map]
 rw [show (ruleE ∘ bRule)=ruleE from funext ruleE_b]
theorem stratE_b (S:StratM):stratE (bStr S)=stratE S:=by
 unfold stratE bStr
 simp only [List.length_map,List.map_map]
 rw [show (regE ∘ bReg)=regE from funext regE_b,show (stateE ∘ bState)=stateE from funext stateE_b]
theorem dRegs_b:∀ (rs l:List RegM),dRegs (l.map bReg) (rs.map bReg)=dRegs l rs
 | [],_=>rfl
 | r :: rs,l=>by
  simp only [List.map_cons,dRegs,regL_b]
  have h:=dRegs_b rs (l ++ [r])
  rw [List.map_append] at h
  simp only [bReg,tyR_b] at h ⊢
  rw [← h]
  rfl
theorem decE_b (S:StratM):decE (bStr S)=decE S:=by
 unfold decE
 have h:=dRegs_b S.rs []
 have e:(bStr S).ts.map stN=S.ts.map stN:=by
  unfold bStr
  simp only [List.map_map]
  rfl
 rw [e]
 show (match dRegs [] (S.rs.map bReg) with | some e=>some e | none=>match dNms [] (S.ss.map slN) with | some e=>some e | none=>dNms [] (S.ts.map stN))=_
 rw [show dRegs [] (S.rs.map bReg)=dRegs [] S.rs from h]
 rfl
theorem ptsL_b (L:ByteArray→Option Int) (d:DoM):ptsL L (bDo d)=(ptsL L d).map fun q=>(bare q.1,q.2):=by
 unfold ptsL bDo
 repeat' split
 all_goals simp_all
theorem pcE_b (L:ByteArray→Option Int) (q:Nd × Int):pcE L (bare q.1,q.2)=pcE L q:=by
 unfold pcE
 simp only [tyR_b,bare_h]
theorem psE_b (L:ByteArray→Option Int):∀ l:List (Nd × Int),psE L (l.map fun q=>(bare q.1,q.2))=psE L l
 | []=>rfl
 | q :: l=>by simp only [List.map_cons,psE]; rw [pcE_b,psE_b L l]
theorem dosE_b (L:ByteArray→Option Int) (S2 S3:List ByteArray):∀ (l:List DoM) (en:Bool),dosE L S2 S3 en (l.map bDo)=dosE L S2 S3 en l
 | [],en=>by cases en <;> rfl
 | d :: l,en=>by
  simp only [List.map_cons,dosE]
  rw [ptsL_b,psE_b]
  show (if en then some (d.p,153) else if standB L S2 S3 d.k d.x then (match psE L (ptsL L d) with | some e=>some e | none=>dosE L S2 S3 (d.k == 5 || d.k == 6) (l.map bDo)) else some (d.p,151))=_
  rw [dosE_b L S2 S3 l]
  rfl
theorem ruE_b (L:ByteArray→Option Int) (S2 S3:List ByteArray) (r:RuleM):ruE L S2 S3 (bRule r)=ruE L S2 S3 r:=by
 unfold ruE
 rw [show pcE L ((bRule r).m,5)=pcE L (r.m,5) from pcE_b L (r.m,5),show (bRule r).ds=r.ds.map bDo from rfl,dosE_b]
theorem rusE_b (L:ByteArray→Option Int) (S2 S3:List ByteArray):∀ l:List RuleM,rusE L S2 S3 (l.map bRule)=rusE L S2 S3 l
 | []=>rfl
 | r :: l=>by simp only [List.map_cons,rusE]; rw [ruE_b,rusE_b L S2 S3 l]
theorem stsE_b (L:ByteArray→Option Int) (S2 S3:List ByteArray):∀ l:List StateM,stsE L S2 S3 (l.map bState)=stsE L S2 S3 l
 | []=>rfl
 | x :: l=>by
  simp only [List.map_cons,stsE]
  rw [show (bState x).rs=x.rs.map bRule from rfl,rusE_b,stsE_b L S2 S3 l]
theorem chkE_b (S:StratM):chkE (bStr S)=chkE S:=by
 unfold chkE
 rw [stratE_b,decE_b,show (bStr S).rs=S.rs.map bReg from rfl,regL_b,show (bStr S).ts=S.ts.map bState from rfl,stsE_b,List.map_map,show (StateM.x ∘ bState)=StateM.x from rfl]
 rfl
def doZB (d:DoM):Bool:=[d.sd,d.qt,d.pr,d.vl].all fun m=>decide (size m≤1000000000000)
def stZB (x:StateM):Bool:=x.rs.all fun r=>decide (size r.m≤1000000000000) && r.ds.all doZB
theorem doZB_b (d:DoM):doZB (bDo d)=doZB d:=by simp only [doZB,bDo,List.all_cons,List.all_nil,size_b]
theorem stZB_b (x:StateM):stZB (bState x)=stZB x:=by
 unfold stZB bState
 simp only [List.all_map]
 congr 1
 funext r
 show (decide (size (bare r.m)≤1000000000000) && (r.ds.map bDo).all doZB)=_
 rw [size_b,List.all_map,show (doZB ∘ bDo)=doZB from funext doZB_b]
def zB (S:StratM):Bool:=S.ts.all stZB
theorem zB_b (S:StratM):zB (bStr S)=zB S:=by
 unfold zB bStr
 simp only [List.all_map]
 rw [show (stZB ∘ bState)=stZB from funext stZB_b]
theorem zB_z {S:StratM}(h:zB S=true):StratZ S:=by
 simp only [zB,List.all_eq_true] at h
 intro x hx r hr
 have h1:=h x hx
 simp only [stZB,Bool.and_eq_true,List.all_eq_true,decide_eq_true_eq] at h1
 refine⟨(h1 r hr).1,fun d hd=>?_⟩
 have h2:=(h1 r hr).2 d hd
 simp only [doZB,List.all_cons,List.all_nil,Bool.and_true,Bool.and_eq_true,decide_eq_true_eq] at h2
 exact h2
theorem ofE_b (S:StratM) (m:Nd):ofE (bStr S) (bare m)=ofE S m:=by
 unfold ofE
 rw [cE_b,tyR_b,show (bStr S).rs=S.rs.map bReg from rfl,regL_b]
set_option maxRecDepth 100000 in
set_option maxHeartbeats 4000000 in
theorem expr_x {s:ByteArray}{t0:Tr}(hz:s.size≤4096) (hp:pXwhole s=some t0) (w:World):Calls zG 24 #[.string s] w fun e w'=>∃ m:Nd,e=.returned (.tuple #[.agg m.vals,.agg #[zI 0,zI 0,.bool false]])∧treeOf m=t0∧Lies w' m∧Below w§ w w':=by
 have HX0:=(XS.new w zNo 48).hid
 obtain⟨W0,eW0⟩:∃ W,(w.alloc (.cells zNo 48)).alloc (.cells #[zI 0,zI 0,.bool false] 30)=W:=⟨_,rfl⟩
 rw [eW0] at HX0
 have cB:=begin_y s hz W0
 unfold pXwhole at hp
 obtain⟨⟨q,q2⟩,hb,hq⟩:=opt_bind hp
 obtain⟨te,us,rfl,hte,rfl⟩:∃ te us,q2=te :: us∧te.k=0∧q=t0:=by
  cases q2 with
  | nil=>cases hq
  | cons t ts =>
   simp only at hq
   by_cases e:t.k=0
   ·rw [if_pos e] at hq; cases hq; exact⟨t,ts,rfl,e,rfl⟩
   ·rw [if_neg e] at hq; cases hq
 have HPB:Hid (pEx (rdT s)=some (q,te :: us)∧te.k=0):=⟨hb,hte⟩
 clear hp hb hq hte
 go_enter Tryz.func24,Tryz.ntmps24
 go_wp2_with fail
 try rw [eW0]
 clear eW0
 refine cB.mono ?_
 rintro e w1 ⟨b,K,rfl,hb,hs,hK,hB⟩
 have hz0:=(Array.getElem?_eq_some_iff.1 HX0.out.f).1
 have HB1:Hid (w§+1 < b):=by show _ < _; omega
 have HBL:Hid (b < w1§):=hs.lt
 have HX1:=(HX0.out.on hB).hid
 have cE:=ex_y 0 hK hs HPB.out.1
 clear cB hb hs hK hB hz0 HX0
 go_wp2_with fail
 refine cE.mono ?_
 rintro e w2 ⟨m,rfl,htr,hdp,hs,hm⟩
 have HTR:Hid (treeOf m=q):=htr
 have HX2:=(HX1.out.mv hm (fun k e=>by rw [e]; exact HB1.out)).hid
 have HSZ:Hid (w§+1 < w1§∧w1§≤w2§):=⟨(Array.getElem?_eq_some_iff.1 HX1.out.f).1,hm.size⟩
 have HZ:Hid ((w2.alloc (.cells zNo 48)).heap[w2§]? = some (.cells zNo 48 (0,0))):=heap_new _ _
 have h3:Below w2§ w2 ((w2.alloc (.cells zNo 48)).setRow w2§ m.vals):=below_row (below_new _ _) (Nat.le_refl _) _
 have HN3:Hid (((w2.alloc (.cells zNo 48)).setRow w2§ m.vals).heap[w2§]? = some (.cells m.vals 48 (0,0))):=setRow_heap _ _ _ _ _ _ HZ.out
 have HLV:=(hs.on h3).hid
 have HB3:Hid (Below w2§ w2 _):=h3
 have HDP:Hid (Dp w1 w2 fun U=>Lies U m):=hdp
 have HX3:=(HX2.out.on h3).hid
 clear cE htr hdp hs hm HX1 HX2 h3
 go_upto_region 3 with (refine wpList_store_row rfl 48 (.tmp 5) (.tmp 9) rfl w2§ m.vals rfl rfl 48 zNo HZ.out size64' rfl (all8 m) ?_)
 generalize hW3:World.setRow _ _ _=w3
 rw [hW3] at HB3 HN3 HLV HX3
 clear hW3 HZ
 have cF:=end_y HLV.out HPB.out.2
 go_wp2_with fail
 refine cF.mono ?_
 rintro e w4 ⟨rfl,hs,hm⟩
 have HX4:=(HX3.out.mv hm (fun k e=>by rw [e]; exact HB1.out)).hid
 have HN4:Hid (w4.heap[w2§]? = some (.cells m.vals 48 (0,0))):=(hm.block _ (Array.getElem?_eq_some_iff.1 HN3.out).1 (by have:=HSZ.out; have:=HBL.out; omega)).trans HN3.out
 have HD4:Hid (∀ k,w1§≤k→k < w2§→w4.heap[k]? = w2.heap[k]?):=fun k k1 k2=>(hm.block k (by have:=HB3.out.size; omega) (by have:=HBL.out; omega)).trans (HB3.out.block k k2)
 have HLV4:=hs.hid
 clear cF hs hm HX3 HN3 HB3 HLV
 obtain⟨N5,eN5⟩:∃ n,w2§=n:=⟨_,rfl⟩
 rw [eN5] at HN4 ⊢
 have HN5:Hid (w2§=N5):=eN5
 clear eN5
 obtain⟨i,p,u,hp,_⟩:=HLV4.out
 have cO:=over_no hp
 clear hp
 go_wp2_with fail
 refine cO.mono ?_
 rintro e w5 ⟨rfl,e9⟩
 obtain rfl:=e9.symm
 clear cO e9
 have HY1:Hid ((w4.setRow w§ m.vals).heap[w§]? = some (.cells m.vals 48 (0,0))∧(w4.setRow w§ m.vals).heap[w§+1]? = some (.cells #[zI 0,zI 0,.bool false] 30 (0,0))∧Below w§ w (w4.setRow w§ m.vals)):=⟨setRow_heap _ _ _ _ _ _ HX4.out.z,(setRow_oth _ _ _ (by omega)).trans HX4.out.f,below_row HX4.out.B (Nat.le_refl _) _⟩
 have HSL:Hid (Lies ((w4.setRow w§ m.vals).setRow (w§+1) #[zI 0,zI 0,.bool false]) m):=by
  have h1:=HSZ.out
  refine HDP.out _ fun k k1 k2=>?_
  rw [setRow_oth _ _ _ (by omega),setRow_oth _ _ _ (by omega)]
  exact HD4.out k k1 k2
 go_wp2_with (first | (refine wpList_load_row rfl 48 (.tmp 5) rfl N5 rfl 48 m.vals (0,0) _ HN4.out Tryz.underlying48 rfl size64' ?_) | (refine wpList_store_row rfl 48 (.tmp 2) (.tmp 19) rfl w§ m.vals rfl rfl 48 _ HX4.out.z size64' rfl (all8 m) ?_) | (refine wpList_store_row rfl 30 (.tmp 3) (.tmp 20) rfl (w§+1) #[zI 0,zI 0,.bool false] rfl rfl 30 _ HY1.out.2.1 size50 rfl (by simp [Value.oneCell']) ?_))
 exact bodyPost_ret (results_cc rfl _ _ w§ (w§+1) 48 30 m.vals #[zI 0,zI 0,.bool false] (0,0) (0,0) _ _ rfl ((setRow_oth _ _ _ (by omega)).trans HY1.out.1) Tryz.underlying48 rfl size64' rfl (setRow_heap _ _ _ _ _ _ HY1.out.2.1) Tryz.underlying30 rfl size50) rfl ⟨m,rfl,HTR.out,HSL.out,below_row HY1.out.2.2 (by omega) _⟩
def txS:ByteArray:=⟨#[115,116,114,97,116,101,103,121,32,115,32,123,32,114,101,103,32,110,32,105,110,116,32,61,32,49,59,32,114,101,103,32,100,111,110,101,32,98,111,111,108,32,61,32,116,114,117,101,59,32,115,116,97,116,101,32,97,32,123,32,119,104,101,110,32,100,111,110,101,32,100,111,32,103,111,116,111,32,97,59,32,125,32,125]⟩
def txT:ByteArray:=⟨#[115,116,114,97,116,101,103,121,32,115,32,123,32,115,116,97,116,101,32,97,32,123,32,119,104,101,110,32,116,114,117,101,32,100,111,32,103,111,116,111,32,98,59,32,125,32,125]⟩
def txN:ByteArray:=⟨#[98,105,100,32,47,32,110]⟩
def txM:ByteArray:=⟨#[98,105,100,32,43,32,49]⟩
def sS:StratT:=(pWhole txS).getD ⟨txN,[],[],[]⟩
def sU:StratT:=(pWhole txT).getD ⟨txN,[],[],[]⟩
def tN:Tr:=(pXwhole txN).getD tr0
def tM:Tr:=(pXwhole txM).getD tr0
set_option maxRecDepth 1000000
theorem pS1:pWhole txS=some sS:=by kernel_rfl
theorem pU1:pWhole txT=some sU:=by kernel_rfl
theorem gN1:pXwhole txN=some tN:=by kernel_rfl
theorem gM1:pXwhole txM=some tM:=by kernel_rfl
theorem chS:chkE (sT sS)=none:=by kernel_rfl
theorem chU:chkE (sT sU)=some (36,151):=by kernel_rfl
theorem zBS:zB (sT sS)=true:=by kernel_rfl
theorem zBU:zB (sT sU)=true:=by kernel_rfl
theorem ofN:ofE (sT sS) (ndT tN)=.ok 3:=by kernel_rfl
theorem ofM:ofE (sT sS) (ndT tM)=.error (4,152):=by kernel_rfl
theorem szN:size (ndT tN)≤100:=by decide +kernel
theorem szM:size (ndT tM)≤100:=by decide +kernel
theorem two_box (w:World) (x y:Array Value) (t u:TypeId):((w.alloc (.cells x t)).alloc (.cells y u)).heap[w§]? = some (.cells x t (0,0))∧Below w§ w ((w.alloc (.cells x t)).alloc (.cells y u)):=by
 have h1:=below_new w (.cells x t)
 have h2:=below_new (w.alloc (.cells x t)) (.cells y u)
 have h3:=heap_new w (.cells x t)
 exact⟨(h2.block _ (Array.getElem?_eq_some_iff.1 h3).1).trans h3,below2 h1 h2⟩
def InS (W:World) (S:StratM) (A:Nat):Prop:=StratL W S∧W.heap[A]? = some (.cells S.vals 27 (0,0))
def InN (W:World) (m:Nd) (A:Nat):Prop:=Lies W m∧W.heap[A]? = some (.cells m.vals 48 (0,0))
theorem InS.on {W W':World}{S:StratM}{A:Nat}(h:InS W S A) (b:Below W§ W W'):InS W' S A:=⟨h.1.on b,(b.block _ (Array.getElem?_eq_some_iff.1 h.2).1).trans h.2⟩
theorem InN.on {W W':World}{m:Nd}{A:Nat}(h:InN W m A) (b:Below W§ W W'):InN W' m A:=⟨h.1.on b,(b.block _ (Array.getElem?_eq_some_iff.1 h.2).1).trans h.2⟩
theorem InS.new {w:World}{S:StratM}(h:StratL w S) (y:Array Value) (u:TypeId):InS ((w.alloc (.cells S.vals 27)).alloc (.cells y u)) S w§:=⟨h.on (two_box w S.vals y 27 u).2,(two_box w S.vals y 27 u).1⟩
theorem InN.new {w:World}{m:Nd}(h:Lies w m) (y:Array Value) (u:TypeId):InN ((w.alloc (.cells m.vals 48)).alloc (.cells y u)) m w§:=⟨h.on (two_box w m.vals y 48 u).2,(two_box w m.vals y 48 u).1⟩
set_option maxRecDepth 100000 in
set_option maxHeartbeats 8000000 in
theorem awake_any (w:World) (ht:Tab w) (hf:FTab w) (hg:Ety w):Calls zG 8 #[] w fun e w'=>e=.returned (.bool true)∧Below w§ w w':=by
 have HT:Hid (Tab w∧FTab w∧Ety w):=⟨ht,hf,hg⟩
 clear ht hf hg
 go_enter Tryz.func8,Tryz.ntmps8
 go_wp2_with fail
 refine (strat_l (s:=txS) (by decide) pS1 w).mono ?_
 rintro e w1 ⟨S,rfl,htr,hls,hb1⟩
 have hbs:bStr S=sT sS:=by rw [bStr_tr,htr]
 have HS:Hid (chkE S=none∧StratZ S∧∀ m,ofE S m=ofE (sT sS) (bare m)):=⟨by rw [← chkE_b,hbs]; exact chS,zB_z (by rw [← zB_b,hbs]; exact zBS),fun m=>by rw [← ofE_b,hbs]⟩
 have HW1:Hid (Below w§ w ((w1.alloc (.cells #[.string S.x,.slice S.ra S.rs.length S.rc,.slice S.sa S.ss.length S.sc,.slice S.ta S.ts.length S.tc] 27)).alloc (.cells #[zI 0,zI 0,.bool false] 30))∧InS ((w1.alloc (.cells #[.string S.x,.slice S.ra S.rs.length S.rc,.slice S.sa S.ss.length S.sc,.slice S.ta S.ts.length S.tc] 27)).alloc (.cells #[zI 0,zI 0,.bool false] 30)) S w1§):=⟨below2 hb1 (two_box w1 _ _ _ _).2,InS.new hls _ _⟩
 clear htr hls hbs hb1
 unfold StratM.vals
 go_upto_region 2 with fail
 generalize (w1.alloc (.cells #[.string S.x,.slice S.ra S.rs.length S.rc,.slice S.sa S.ss.length S.sc,.slice S.ta S.ts.length S.tc] 27)).alloc (.cells #[zI 0,zI 0,.bool false] 30)=W1 at HW1 ⊢
 generalize w1§=A1 at HW1 ⊢
 go_wp2_with fail
 refine (strat_l (s:=txT) (by decide) pU1 W1).mono ?_
 rintro e w2 ⟨U,rfl,htr,hls,hb1⟩
 have hbs:bStr U=sT sU:=by rw [bStr_tr,htr]
 have HU:Hid (chkE U=some (36,151)∧StratZ U):=⟨by rw [← chkE_b,hbs]; exact chU,zB_z (by rw [← zB_b,hbs]; exact zBU)⟩
 have h12:=below2 hb1 (two_box w2 #[.string U.x,.slice U.ra U.rs.length U.rc,.slice U.sa U.ss.length U.sc,.slice U.ta U.ts.length U.tc] #[zI 0,zI 0,.bool false] 27 30).2
 have HW2:Hid (Below w§ w ((w2.alloc (.cells #[.string U.x,.slice U.ra U.rs.length U.rc,.slice U.sa U.ss.length U.sc,.slice U.ta U.ts.length U.tc] 27)).alloc (.cells #[zI 0,zI 0,.bool false] 30))∧InS ((w2.alloc (.cells #[.string U.x,.slice U.ra U.rs.length U.rc,.slice U.sa U.ss.length U.sc,.slice U.ta U.ts.length U.tc] 27)).alloc (.cells #[zI 0,zI 0,.bool false] 30)) S A1∧InS ((w2.alloc (.cells #[.string U.x,.slice U.ra U.rs.length U.rc,.slice U.sa U.ss.length U.sc,.slice U.ta U.ts.length U.tc] 27)).alloc (.cells #[zI 0,zI 0,.bool false] 30)) U w2§):=⟨below2 HW1.out.1 h12,HW1.out.2.on h12,InS.new hls _ _⟩
 clear htr hls hbs hb1 h12 HW1
 unfold StratM.vals
 go_upto_region 3 with fail
 generalize (w2.alloc (.cells #[.string U.x,.slice U.ra U.rs.length U.rc,.slice U.sa U.ss.length U.sc,.slice U.ta U.ts.length U.tc] 27)).alloc (.cells #[zI 0,zI 0,.bool false] 30)=W2 at HW2 ⊢
 generalize w2§=A2 at HW2 ⊢
 go_wp2_with fail
 refine (expr_x (s:=txN) (by decide) gN1 W2).mono ?_
 rintro e w3 ⟨n,rfl,htr,hln,hb1⟩
 have hbn:bare n=ndT tN:=by unfold bare; rw [htr]
 have HN:Hid (ofE S n=.ok 3∧size n≤1000000000000):=⟨by rw [HS.out.2.2,hbn]; exact ofN,by have:=szN; rw [← hbn,size_b] at this; omega⟩
 have h12:=below2 hb1 (two_box w3 #[zU n.h.k,zU n.h.o,zU n.h.t,zI n.h.n,zU n.h.f,.string n.h.x,.slice n.a n.ks.length n.c,zI n.h.p] #[zI 0,zI 0,.bool false] 48 30).2
 have HW3:Hid (Below w§ w ((w3.alloc (.cells #[zU n.h.k,zU n.h.o,zU n.h.t,zI n.h.n,zU n.h.f,.string n.h.x,.slice n.a n.ks.length n.c,zI n.h.p] 48)).alloc (.cells #[zI 0,zI 0,.bool false] 30))∧InS ((w3.alloc (.cells #[zU n.h.k,zU n.h.o,zU n.h.t,zI n.h.n,zU n.h.f,.string n.h.x,.slice n.a n.ks.length n.c,zI n.h.p] 48)).alloc (.cells #[zI 0,zI 0,.bool false] 30)) S A1∧InS ((w3.alloc (.cells #[zU n.h.k,zU n.h.o,zU n.h.t,zI n.h.n,zU n.h.f,.string n.h.x,.slice n.a n.ks.length n.c,zI n.h.p] 48)).alloc (.cells #[zI 0,zI 0,.bool false] 30)) U A2∧InN ((w3.alloc (.cells #[zU n.h.k,zU n.h.o,zU n.h.t,zI n.h.n,zU n.h.f,.string n.h.x,.slice n.a n.ks.length n.c,zI n.h.p] 48)).alloc (.cells #[zI 0,zI 0,.bool false] 30)) n w3§):=⟨below2 HW2.out.1 h12,HW2.out.2.1.on h12,HW2.out.2.2.on h12,InN.new hln _ _⟩
 clear htr hln hbn hb1 h12 HW2
 unfold Nd.vals hdA
 go_upto_region 4 with fail
 generalize (w3.alloc (.cells #[zU n.h.k,zU n.h.o,zU n.h.t,zI n.h.n,zU n.h.f,.string n.h.x,.slice n.a n.ks.length n.c,zI n.h.p] 48)).alloc (.cells #[zI 0,zI 0,.bool false] 30)=W3 at HW3 ⊢
 generalize w3§=A3 at HW3 ⊢
 go_wp2_with fail
 refine (expr_x (s:=txM) (by decide) gM1 W3).mono ?_
 rintro e w4 ⟨m,rfl,htr,hln,hb1⟩
 have hbn:bare m=ndT tM:=by unfold bare; rw [htr]
 have HM:Hid (ofE S m=.error (4,152)∧size m≤1000000000000):=⟨by rw [HS.out.2.2,hbn]; exact ofM,by have:=szM; rw [← hbn,size_b] at this; omega⟩
 have h12:=below2 hb1 (two_box w4 #[zU m.h.k,zU m.h.o,zU m.h.t,zI m.h.n,zU m.h.f,.string m.h.x,.slice m.a m.ks.length m.c,zI m.h.p] #[zI 0,zI 0,.bool false] 48 30).2
 have HW4:Hid (Below w§ w ((w4.alloc (.cells #[zU m.h.k,zU m.h.o,zU m.h.t,zI m.h.n,zU m.h.f,.string m.h.x,.slice m.a m.ks.length m.c,zI m.h.p] 48)).alloc (.cells #[zI 0,zI 0,.bool false] 30))∧InS ((w4.alloc (.cells #[zU m.h.k,zU m.h.o,zU m.h.t,zI m.h.n,zU m.h.f,.string m.h.x,.slice m.a m.ks.length m.c,zI m.h.p] 48)).alloc (.cells #[zI 0,zI 0,.bool false] 30)) S A1∧InS ((w4.alloc (.cells #[zU m.h.k,zU m.h.o,zU m.h.t,zI m.h.n,zU m.h.f,.string m.h.x,.slice m.a m.ks.length m.c,zI m.h.p] 48)).alloc (.cells #[zI 0,zI 0,.bool false] 30)) U A2∧InN ((w4.alloc (.cells #[zU m.h.k,zU m.h.o,zU m.h.t,zI m.h.n,zU m.h.f,.string m.h.x,.slice m.a m.ks.length m.c,zI m.h.p] 48)).alloc (.cells #[zI 0,zI 0,.bool false] 30)) n A3∧InN ((w4.alloc (.cells #[zU m.h.k,zU m.h.o,zU m.h.t,zI m.h.n,zU m.h.f,.string m.h.x,.slice m.a m.ks.length m.c,zI m.h.p] 48)).alloc (.cells #[zI 0,zI 0,.bool false] 30)) m w4§):=⟨below2 HW3.out.1 h12,HW3.out.2.1.on h12,HW3.out.2.2.1.on h12,HW3.out.2.2.2.on h12,InN.new hln _ _⟩
 clear htr hln hbn hb1 h12 HW3
 unfold Nd.vals hdA
 go_upto_region 5 with fail
 generalize (w4.alloc (.cells #[zU m.h.k,zU m.h.o,zU m.h.t,zI m.h.n,zU m.h.f,.string m.h.x,.slice m.a m.ks.length m.c,zI m.h.p] 48)).alloc (.cells #[zI 0,zI 0,.bool false] 30)=W4 at HW4 ⊢
 generalize w4§=A4 at HW4 ⊢
 have y0:W4.cell? ⟨A1,0,none⟩=some (.string S.x):=cell_of HW4.out.2.1.2 0
 have y1:W4.cell? ⟨A1,1,none⟩=some (.slice S.ra S.rs.length S.rc):=cell_of HW4.out.2.1.2 1
 have y2:W4.cell? ⟨A1,2,none⟩=some (.slice S.sa S.ss.length S.sc):=cell_of HW4.out.2.1.2 2
 have y3:W4.cell? ⟨A1,3,none⟩=some (.slice S.ta S.ts.length S.tc):=cell_of HW4.out.2.1.2 3
 have c5:Calls zG 11 #[.agg #[.string S.x,.slice S.ra S.rs.length S.rc,.slice S.sa S.ss.length S.sc,.slice S.ta S.ts.length S.tc]] W4 (OutC W4 (chkE S)):=tyCheck_any S W4 HW4.out.2.1.1 HS.out.2.1 (HT.out.1.on HW4.out.1) (HT.out.2.1.on HW4.out.1) (HT.out.2.2.on HW4.out.1)
 go_wp2_with fail
 refine c5.mono ?_
 rintro e w5 (⟨_,rfl,hb5⟩ | ⟨p,no,T,v,h1,_⟩)
 case inr=>rw [HS.out.1] at h1; cases h1
 have HW5:Hid (Below w§ w w5∧InS w5 S A1∧InS w5 U A2∧InN w5 n A3∧InN w5 m A4):=⟨below2 HW4.out.1 hb5,HW4.out.2.1.on hb5,HW4.out.2.2.1.on hb5,HW4.out.2.2.2.1.on hb5,HW4.out.2.2.2.2.on hb5⟩
 clear hb5 c5 HW4 y0 y1 y2 y3
 have y0:w5.cell? ⟨A2,0,none⟩=some (.string U.x):=cell_of HW5.out.2.2.1.2 0
 have y1:w5.cell? ⟨A2,1,none⟩=some (.slice U.ra U.rs.length U.rc):=cell_of HW5.out.2.2.1.2 1
 have y2:w5.cell? ⟨A2,2,none⟩=some (.slice U.sa U.ss.length U.sc):=cell_of HW5.out.2.2.1.2 2
 have y3:w5.cell? ⟨A2,3,none⟩=some (.slice U.ta U.ts.length U.tc):=cell_of HW5.out.2.2.1.2 3
 have c6:Calls zG 11 #[.agg #[.string U.x,.slice U.ra U.rs.length U.rc,.slice U.sa U.ss.length U.sc,.slice U.ta U.ts.length U.tc]] w5 (OutC w5 (chkE U)):=tyCheck_any U w5 HW5.out.2.2.1.1 HU.out.2 (HT.out.1.on HW5.out.1) (HT.out.2.1.on HW5.out.1) (HT.out.2.2.on HW5.out.1)
 go_wp2_with fail
 refine c6.mono ?_
 rintro e w6 (⟨h1,_⟩ | ⟨p,no,T,v,h1,rfl,hE,hb6⟩)
 case inl=>rw [HU.out.1] at h1; cases h1
 rw [HU.out.1] at h1
 cases h1
 have HW6:Hid (Below w§ w w6∧InS w6 S A1∧InN w6 n A3∧InN w6 m A4):=⟨below2 HW5.out.1 hb6,HW5.out.2.1.on hb6,HW5.out.2.2.2.1.on hb6,HW5.out.2.2.2.2.on hb6⟩
 have c7:=pwrong_any hE (HT.out.2.2.on HW6.out.1)
 clear hb6 c6 HW5 hE y0 y1 y2 y3
 go_wp2_with fail
 refine c7.mono ?_
 rintro e w7 ⟨rfl,hb7⟩
 have HW7:Hid (Below w§ w w7∧InS w7 S A1∧InN w7 n A3∧InN w7 m A4):=⟨below2 HW6.out.1 hb7,HW6.out.2.1.on hb7,HW6.out.2.2.1.on hb7,HW6.out.2.2.2.on hb7⟩
 clear hb7 c7 HW6
 have c8:Calls zG 16 #[.agg #[.string S.x,.slice S.ra S.rs.length S.rc,.slice S.sa S.ss.length S.sc,.slice S.ta S.ts.length S.tc],.agg #[zU n.h.k,zU n.h.o,zU n.h.t,zI n.h.n,zU n.h.f,.string n.h.x,.slice n.a n.ks.length n.c,zI n.h.p]] w7 (OutT w7 (ofE S n)):=of_any S n w7 HW7.out.2.1.1 HW7.out.2.2.1.1 HN.out.2 (HT.out.1.on HW7.out.1) (HT.out.2.1.on HW7.out.1)
 have y0:w7.cell? ⟨A1,0,none⟩=some (.string S.x):=cell_of HW7.out.2.1.2 0
 have y1:w7.cell? ⟨A1,1,none⟩=some (.slice S.ra S.rs.length S.rc):=cell_of HW7.out.2.1.2 1
 have y2:w7.cell? ⟨A1,2,none⟩=some (.slice S.sa S.ss.length S.sc):=cell_of HW7.out.2.1.2 2
 have y3:w7.cell? ⟨A1,3,none⟩=some (.slice S.ta S.ts.length S.tc):=cell_of HW7.out.2.1.2 3
 have z0:w7.cell? ⟨A3,0,none⟩=some (zU n.h.k):=cell_of HW7.out.2.2.1.2 0
 have z1:w7.cell? ⟨A3,1,none⟩=some (zU n.h.o):=cell_of HW7.out.2.2.1.2 1
 have z2:w7.cell? ⟨A3,2,none⟩=some (zU n.h.t):=cell_of HW7.out.2.2.1.2 2
 have z3:w7.cell? ⟨A3,3,none⟩=some (zI n.h.n):=cell_of HW7.out.2.2.1.2 3
 have z4:w7.cell? ⟨A3,4,none⟩=some (zU n.h.f):=cell_of HW7.out.2.2.1.2 4
 have z5:w7.cell? ⟨A3,5,none⟩=some (.string n.h.x):=cell_of HW7.out.2.2.1.2 5
 have z6:w7.cell? ⟨A3,6,none⟩=some (.slice n.a n.ks.length n.c):=cell_of HW7.out.2.2.1.2 6
 have z7:w7.cell? ⟨A3,7,none⟩=some (zI n.h.p):=cell_of HW7.out.2.2.1.2 7
 go_wp2_with fail
 refine c8.mono ?_
 rintro e w8 (⟨t,h1,rfl,hb8⟩ | ⟨p,no,b,h1,_⟩)
 case inr=>rw [HN.out.1] at h1; cases h1
 rw [HN.out.1] at h1
 cases h1
 have HW8:Hid (Below w§ w w8∧InS w8 S A1∧InN w8 m A4):=⟨below2 HW7.out.1 hb8,HW7.out.2.1.on hb8,HW7.out.2.2.2.on hb8⟩
 clear hb8 c8 HW7 y0 y1 y2 y3 z0 z1 z2 z3 z4 z5 z6 z7
 have c9:Calls zG 16 #[.agg #[.string S.x,.slice S.ra S.rs.length S.rc,.slice S.sa S.ss.length S.sc,.slice S.ta S.ts.length S.tc],.agg #[zU m.h.k,zU m.h.o,zU m.h.t,zI m.h.n,zU m.h.f,.string m.h.x,.slice m.a m.ks.length m.c,zI m.h.p]] w8 (OutT w8 (ofE S m)):=of_any S m w8 HW8.out.2.1.1 HW8.out.2.2.1 HM.out.2 (HT.out.1.on HW8.out.1) (HT.out.2.1.on HW8.out.1)
 have y0:w8.cell? ⟨A1,0,none⟩=some (.string S.x):=cell_of HW8.out.2.1.2 0
 have y1:w8.cell? ⟨A1,1,none⟩=some (.slice S.ra S.rs.length S.rc):=cell_of HW8.out.2.1.2 1
 have y2:w8.cell? ⟨A1,2,none⟩=some (.slice S.sa S.ss.length S.sc):=cell_of HW8.out.2.1.2 2
 have y3:w8.cell? ⟨A1,3,none⟩=some (.slice S.ta S.ts.length S.tc):=cell_of HW8.out.2.1.2 3
 have z0:w8.cell? ⟨A4,0,none⟩=some (zU m.h.k):=cell_of HW8.out.2.2.2 0
 have z1:w8.cell? ⟨A4,1,none⟩=some (zU m.h.o):=cell_of HW8.out.2.2.2 1
 have z2:w8.cell? ⟨A4,2,none⟩=some (zU m.h.t):=cell_of HW8.out.2.2.2 2
 have z3:w8.cell? ⟨A4,3,none⟩=some (zI m.h.n):=cell_of HW8.out.2.2.2 3
 have z4:w8.cell? ⟨A4,4,none⟩=some (zU m.h.f):=cell_of HW8.out.2.2.2 4
 have z5:w8.cell? ⟨A4,5,none⟩=some (.string m.h.x):=cell_of HW8.out.2.2.2 5
 have z6:w8.cell? ⟨A4,6,none⟩=some (.slice m.a m.ks.length m.c):=cell_of HW8.out.2.2.2 6
 have z7:w8.cell? ⟨A4,7,none⟩=some (zI m.h.p):=cell_of HW8.out.2.2.2 7
 go_wp2_with fail
 refine c9.mono ?_
 rintro e w9 (⟨t,h1,_⟩ | ⟨p,no,b,h1,rfl,_,hF,hb9⟩)
 case inl=>rw [HM.out.1] at h1; cases h1
 rw [HM.out.1] at h1
 cases h1
 have HW9:Hid (Below w§ w w9):=below2 HW8.out.1 hb9
 have cA:=pwrong_any hF.er (HT.out.2.2.on HW9.out)
 clear hb9 c9 HW8 y0 y1 y2 y3 z0 z1 z2 z3 z4 z5 z6 z7 hF
 go_wp2_with fail
 refine cA.mono ?_
 rintro e wA ⟨rfl,hbA⟩
 have HWA:Hid (Below w§ w wA):=below2 HW9.out hbA
 clear hbA cA HW9
 go_wp2_with fail
 go_ret
 exact⟨rfl,HWA.out⟩
theorem size26s:(Tryz.prog.info? 27).map (·.size)=some 4:=by kernel_rfl
theorem sizeN:(Tryz.prog.info? 48).map (·.size)=some 8:=by kernel_rfl
set_option maxRecDepth 100000 in
set_option maxHeartbeats 8000000 in
theorem far_any (S:StratM) (m:Nd) (w:World) (hl:StratL w S) (hm:Lies w m):Calls zG 13 #[.agg S.vals,.agg m.vals] w fun e w'=>(∃ f:Bool,e=.returned (.bool f)∧(f=false→StratZ S∧size m≤1048576))∧Below w§ w w':=by
 have HH:Hid (StratL w S∧Lies w m):=⟨hl,hm⟩
 have e2:=below_two w (.cells S.vals 27) (.cells m.vals 48)
 have n1:((w.alloc (.cells S.vals 27)).alloc (.cells m.vals 48)).heap[w§]? = some (.cells S.vals 27 (0,0)):=heap_old (heap_new _ _) (by rw [size_alloc]; omega)
 have n2:((w.alloc (.cells S.vals 27)).alloc (.cells m.vals 48)).heap[w§+1]? = some (.cells m.vals 48 (0,0)):=by rw [← size_alloc w (.cells S.vals 27)]; exact heap_new _ _
 obtain⟨V,eV⟩:∃ V,(w.alloc (.cells S.vals 27)).alloc (.cells m.vals 48)=V:=⟨_,rfl⟩
 rw [eV] at e2 n1 n2
 have HV:Hid ((w.alloc (.cells S.vals 27)).alloc (.cells m.vals 48)=V):=eV
 have HB:Hid (Below w§ w V):=e2
 have HN1:Hid (V.heap[w§]? = some (.cells S.vals 27 (0,0))):=n1
 have HN2:Hid (V.heap[w§+1]? = some (.cells m.vals 48 (0,0))):=n2
 have c1:=weighS_any S V (hl.on e2)
 clear hl hm e2 n1 n2 eV
 go_enter Tryz.func13,Tryz.ntmps13
 go_upto_region 1 with fail
 rw [HV.out]
 go_wp2_with (refine wpList_load_row rfl 27 _ rfl w§ rfl 27 S.vals (0,0) _ HN1.out Tryz.underlying27 rfl size26s ?_)
 refine c1.mono ?_
 rintro e w1 ⟨⟨r,rfl,hr⟩,hb⟩
 have HR:Hid (WghS S r):=hr
 have HB1:Hid (Below w§ w w1):=below2 HB.out hb
 have HN3:Hid (w1.heap[w§+1]? = some (.cells m.vals 48 (0,0))):=(hb.block _ (Array.getElem?_eq_some_iff.1 HN2.out).1).trans HN2.out
 by_cases hb1:r≤1048576
 ·have hn:¬ (1048576:Int) < r:=by omega
  have c2:Calls zG 38 #[.agg #[zU m.h.k,zU m.h.o,zU m.h.t,zI m.h.n,zU m.h.f,.string m.h.x,.slice m.a m.ks.length m.c,zI m.h.p],zI r,zI 0] w1 fun e w'=>(∃ r2,e=.returned (zI r2)∧Wgt m r r2)∧Below w1§ w1 w':=weigh_top m w1 r (HH.out.2.on HB1.out) hr.1 (by have:=hr.2.1; omega)
  have z0:w1.cell? ⟨w§+1,0,none⟩=some (zU m.h.k):=cell_of HN3.out 0
  have z1:w1.cell? ⟨w§+1,1,none⟩=some (zU m.h.o):=cell_of HN3.out 1
  have z2:w1.cell? ⟨w§+1,2,none⟩=some (zU m.h.t):=cell_of HN3.out 2
  have z3:w1.cell? ⟨w§+1,3,none⟩=some (zI m.h.n):=cell_of HN3.out 3
  have z4:w1.cell? ⟨w§+1,4,none⟩=some (zU m.h.f):=cell_of HN3.out 4
  have z5:w1.cell? ⟨w§+1,5,none⟩=some (.string m.h.x):=cell_of HN3.out 5
  have z6:w1.cell? ⟨w§+1,6,none⟩=some (.slice m.a m.ks.length m.c):=cell_of HN3.out 6
  have z7:w1.cell? ⟨w§+1,7,none⟩=some (zI m.h.p):=cell_of HN3.out 7
  clear c1 hr hb HN1 HN2
  go_wp2_with fail
  refine c2.mono ?_
  rintro e w2 ⟨⟨r2,rfl,hr2⟩,hb2⟩
  have HR2:Hid (Wgt m r r2):=hr2
  have HB2:Hid (Below w§ w w2):=below2 HB1.out hb2
  clear c2 hr2 hb2
  go_wp2_with fail
  go_ret
  refine⟨⟨_,rfl,fun hf=>?_⟩,HB2.out⟩
  have h0:r≤1048576∧r2≤1048576:=by simpa using hf
  have h1:=h0.2
  have h2:=HR2.out.2.2 h1
  have h3:=size_wt m
  have h4:=HR.out.1
  exact⟨HR.out.2.2 hb1,by omega⟩
 ·have hn:(1048576:Int) < r:=by omega
  clear c1 hr hb HN1 HN2
  go_wp2_with fail
  go_ret
  exact⟨⟨_,rfl,fun hf=>by simp at hf⟩,HB1.out⟩
theorem size_kid {h:Hd}{a:Option Addr}{c:Nat}{ks:List Nd}{k:Nd}(hk:k ∈ ks):size k≤size (.mk h a c ks):=by
 have:=size_mem hk
 simp only [size]; omega
theorem put_cells {w:World}{b:Nat}{cs:Array Value}{t:TypeId}(h:w.heap[b]? = some (.cells cs t (0,0))) (o:Nat) (m:Nd):(w.setCells b o m.vals.toList).heap[b]? = some (.cells (set8 cs o m) t (0,0)):=by
 rw [cells8_eq]
 exact heap_set _ (heap_set _ (heap_set _ (heap_set _ (heap_set _ (heap_set _ (heap_set _ (heap_set _ h)))))))
theorem there_of {w:World}{b:Nat}{cs:Array Value}{t:TypeId}(h:w.heap[b]? = some (.cells cs t (0,0))) (o n:Nat) (hn:o+n≤cs.size):w.there b o n:=fun j hj=>⟨by rw [cell_of h]; simp; omega,frozen_of h _⟩
theorem sz_row (W:World) (b:Nat) (cs:Array Value):(W.setRow b cs)§=W§:=by unfold World.setRow; simp
def arF (L:List (Array Value)) (n j:Nat):Value:=(L.getD (j / n) #[]).getD (j % n) undef
structure RA (W w:World) (e:TypeId) (n:Nat) (v:Value) (L:List (Array Value)):Prop where
 row:Row w e n v L.length (arF L n)
 nb:∀ k,v.ownBlock=some k→W§≤k
 B:Below W§ W w
 sz:∀ x ∈ L,x.size=n
theorem RA.nil {W w:World}(h:Below W§ W w) (e:TypeId) (n:Nat):RA W w e n (.slice none 0 0) []:=⟨Row.nil _ _ _ _,fun k h=>by simp [Value.ownBlock] at h,h,fun x hx=>by cases hx⟩
theorem RA.call {W w w':World}{e:TypeId}{n:Nat}{v:Value}{L:List (Array Value)}(h:RA W w e n v L) (k:Below w§ w w'):RA W w' e n v L :=
 ⟨h.row.of_block (fun b hb=>k.block b (h.row.lt b hb)),h.nb,h.B.trans (k.mono h.B.size),h.sz⟩
theorem RA.hid {W w:World}{e:TypeId}{n:Nat}{v:Value}{L:List (Array Value)}(h:RA W w e n v L):Hid (RA W w e n v L):=h
theorem arF_lt {L:List (Array Value)}{y:Array Value}{n j:Nat}(hn:0 < n) (h:j < L.length * n):arF (L ++ [y]) n j=arF L n j:=by
 have:j / n < L.length:=(Nat.div_lt_iff_lt_mul hn).2 h
 unfold arF
 simp [List.getD,List.getElem?_append_left this]
theorem arF_at {L:List (Array Value)}{y:Array Value}{n j:Nat}(hn:0 < n) (h1:L.length * n≤j) (h2:j < (L.length+1) * n):arF (L ++ [y]) n j=y.getD (j - L.length * n) undef:=by
 obtain⟨k,rfl⟩:∃ k,j=L.length * n+k:=⟨j - L.length * n,by omega⟩
 have hk:k < n:=by rw [Nat.add_mul,Nat.one_mul] at h2; omega
 have e1:(L.length * n+k) / n=L.length:=by rw [Nat.mul_comm,Nat.mul_add_div hn,Nat.div_eq_of_lt hk]; omega
 have e2:(L.length * n+k) % n=k:=by rw [Nat.mul_comm,Nat.mul_add_mod,Nat.mod_eq_of_lt hk]
 unfold arF
 rw [e1,e2,Nat.add_sub_cancel_left]
 simp [List.getD]
theorem append_arr {W w0:World}{ops:Array Oper}{rest:List Oper}{o:Oper}{a:Act}{Q:Exit→Act→World→Prop}(hgd:o.guard=none) (d x:Operand) (t e:TypeId) (n:Nat) (by_:Nat) (z:Value)
  (ho:o.op=.call { callee:=.builtin .append,args:=#[d,x],argTypes:=#[t,t] }) (hu:Tryz.prog.underlying t=some (.slice e)) (hi:(Tryz.prog.info? e).map (fun i=>(i.zero,i.size,i.bytes))=some (some z,n,by_)) (hz:z.cells.size=n) (hb:0 < n) (hn1:n≤100) (hby:by_≤1000)
  (y:Array Value) (hy:y.size=n) (hy1:∀ u ∈ y.toList,u.oneCell'=true) {v:Value}{L:List (Array Value)}(hR:RA W w0 e n v L) (hs:a.eval d=v) (hx:a.eval x=.slice (some ⟨w0§,0,none⟩) 1 1) (hlen:L.length≤1000000000)
  (h:∀ v' w',RA W w' e n v' (L ++ [y])→w0§≤w'§→(∀ b,b < w0§→v.ownBlock≠some b→w'.heap[b]? = w0.heap[b]?)→(v'.ownBlock=v.ownBlock∨∃ g,v'.ownBlock=some g∧w0§ < g)→wpList Tryz.prog ops Q rest (a.put o.dst v') w') :
  wpList Tryz.prog ops Q (o :: rest) a (w0.alloc (.cells y e)):=by
 obtain⟨i0,hi0,hz0,hz1,hz2⟩:=info_parts hi
 refine wpList_append_lies _ hgd d x t ho 0 e i0 _ n by_ hu hi0 hz0 hz1 hz2 hz hb v L.length _ hs (hR.row.alloc _) ⟨w0§,0,none⟩ 1 1 y.toList hx (by rw [Array.length_toList,hy,Nat.one_mul]) (World.news_of_block (heap_new w0 _)) hy1 (by decide) (by unfold maxLen; omega) (Nat.le_trans (Nat.mul_le_mul (show L.length+1≤1000000001 by omega) hby) (by decide)) (Nat.zero_le _) _ rfl ?_
 intro g cap w' h2 h3 h4 h5
 have hsz:=size_alloc w0 (.cells y e)
 have hB0:=hR.B.alloc hR.B.size (.cells y e)
 refine h _ w' ⟨?_,?_,hB0.grown h3 hB0.size (fun k hk=>hR.nb k hk),?_⟩ ?_ ?_ ?_
 ·have hr:=Row.snoc (x:=fun j=>y.getD j undef) h2 (by rw [Array.length_toList,hy]) (fun j hj=>by rw [Array.getElem?_toList,Array.getElem?_eq_getElem (by omega)]; simp [show j < y.size by omega])
  rw [List.length_append,List.length_singleton]
  refine hr.congr fun j hj=>?_
  by_cases hh:j < L.length * n
  ·simp only [hh,if_true]
   rw [arF_lt hb hh]
  ·simp only [hh,if_false]
   rw [arF_at hb (by omega) hj]
 ·intro k hk
  simp [Value.ownBlock] at hk
  subst hk
  rcases h4 with h4 | h4
  ·exact hR.nb _ h4
  ·have:=hR.B.size; omega
 ·intro q hq
  rcases List.mem_append.1 hq with hq | hq
  ·exact hR.sz q hq
  ·obtain rfl:=List.mem_singleton.1 hq; exact hy
 ·have:=h3.size; omega
 ·intro b hb' hne
  rw [h3.block b (by omega) (fun e=>hne e.symm)]
  exact Below.heap_alloc _ _ _ hb'
 ·rcases h4 with h4 | h4
  ·exact .inl h4.symm
  ·exact .inr ⟨g,rfl,by rw [h4,size_alloc]; omega⟩
theorem RA.sl {W w:World}{e:TypeId}{n:Nat}{v:Value}{L:List (Array Value)}(h:RA W w e n v L) (hn:0 < n):∃ a c,v=.slice a L.length c∧SlAt w n a c L∧∀ b o,a=some ⟨b,o,none⟩→W§≤b:=by
 have h':=h.row
 rcases h.row.2 with ⟨rfl,e0⟩ | ⟨g,cap,cur,rfl,_,_,hc1,hc2,_⟩
 ·have:L = []:=List.length_eq_zero_iff.1 e0
  subst this
  exact⟨none,0,rfl,⟨Nat.le_refl _,by decide,fun i hi=>by simp at hi⟩,fun b o h=>by cases h⟩
 ·refine⟨some ⟨g,0,none⟩,cap,rfl,⟨hc1,hc2,fun i hi=>⟨g,0,rfl,fun j hj=>?_⟩⟩,fun b o h1=>by cases h1; exact h.nb g rfl⟩
  have hij:i * n+j < L.length * n:=by
   have:(i+1) * n≤L.length * n:=Nat.mul_le_mul_right n hi
   rw [Nat.add_mul,Nat.one_mul] at this; omega
  have hc:=Row.cell h' hij
  rw [Nat.zero_add,hc]
  have hs:=h.sz _ (List.getElem_mem hi)
  unfold arF
  rw [show (i * n+j) / n=i by rw [Nat.mul_comm,Nat.mul_add_div hn,Nat.div_eq_of_lt hj]; omega,show (i * n+j) % n=j by rw [Nat.mul_comm,Nat.mul_add_mod,Nat.mod_eq_of_lt hj]]
  simp [List.getD,hi,show j < L[i].size by omega]
theorem infR:(Tryz.prog.info? 92).map (fun i=>(i.zero,i.size,i.bytes))=some (some (.agg #[zU 0,zU 0,zU 0,zI 0,zU 0,.string ⟨#[]⟩,.slice none 0 0,zI 0,.slice none 0 0,zI 0]),10,104):=by kernel_rfl
theorem size68s:(Tryz.prog.info? 68).map (·.size)=some 3:=by kernel_rfl
def DoZ9 (d:DoM):Prop:=DoZ d∧size d.sd≤900000000∧size d.qt≤900000000∧size d.pr≤900000000∧size d.vl≤900000000
def RuleZ9 (r:RuleM):Prop:=size r.m≤900000000∧r.ds.length≤900000000∧∀ d ∈ r.ds,DoZ9 d
def StateZ9 (s:StateM):Prop:=s.rs.length≤900000000∧∀ r ∈ s.rs,RuleZ9 r
end Go.Proofs.YtoogodlnnijikaaGreatDoor
