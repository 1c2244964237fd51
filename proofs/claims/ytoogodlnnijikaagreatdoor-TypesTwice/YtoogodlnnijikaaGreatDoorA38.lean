import Derived.Test.YtoogodlnnijikaaGreatDoorA0
import Derived.Test.YtoogodlnnijikaaGreatDoorA21
import Derived.Test.YtoogodlnnijikaaGreatDoorA27
import Derived.Test.YtoogodlnnijikaaGreatDoorA37
import Derived.Test.YtoogodlnnijikaaGreatDoorA32
namespace Go.Proofs.YtoogodlnnijikaaGreatDoor
set_option maxHeartbeats 8000000
set_option maxRecDepth 1000000
open Go.RowKit
set_option linter.unusedVariables false
def gEnd (ts:List Tk):Except Ft Unit:=do
 let t ← gLook ts
 gNeed (decide (t.k=0)) 130 ts
def gWhole (s:yB):Except Ft Tr :=
 match exprT (rdT s) with
 | .error f=>.error f
 | .ok q=>match gEnd q.2 with
  | .error f=>.error f
  | .ok _=>.ok q.1
theorem whole_err {s:yB}{f:Ft}(h:dEnd (stOf (exprT (rdT s)))=.error f):gWhole s=.error f:=by
 unfold gWhole
 cases hr:exprT (rdT s) with
 | error f'=>rw [hr] at h; cases h; rfl
 | ok q =>
  obtain⟨q1,q2⟩:=q
  rw [hr] at h
  cases q2 with
  | nil=>cases h; rfl
  | cons u r =>
   simp only [stOf,nf,dEnd] at h
   by_cases c:u.k=0
   ·rw [if_pos c] at h; cases h
   ·rw [if_neg c] at h
    cases h
    simp [gEnd,gLook,bind,Except.bind,gNeed,c]
theorem whole_ok {s:yB}{ts:List Tk}(h:dEnd (stOf (exprT (rdT s)))=.ok ts):∃ q,exprT (rdT s)=.ok q∧gWhole s=.ok q.1:=by
 unfold gWhole
 cases hr:exprT (rdT s) with
 | error f'=>rw [hr] at h; cases h
 | ok q =>
  obtain⟨q1,q2⟩:=q
  rw [hr] at h
  cases q2 with
  | nil=>cases h
  | cons u r =>
   simp only [stOf,nf,dEnd] at h
   by_cases c:u.k=0
   ·exact⟨_,rfl,by simp [gEnd,gLook,bind,Except.bind,gNeed,c]⟩
   ·rw [if_neg c] at h; cases h
def ftT (s:yB):Ft→Int × Int × Bool
 | .tok no p=>(no,p,false)
 | .lex=>(tksE s,tksB s,true)
def OutX (s:yB) (w:yW) (e:Ending) (w':yW):Prop :=
 (match gWhole s with
 | .ok t=>∃ m,e=.returned (.tuple #[.agg m.vals,.agg zi])∧treeOf m=t∧Lies w' m∧Bkn (fun k=>w§≤k∧k < w'§) m
 | .error f=>(ftT s f).1≠0∧e=.returned (.tuple #[.agg nul8,.agg #[zI (ftT s f).1,zI (ftT s f).2.1,.bool (ftT s f).2.2]]))∧yD w w'
theorem fin3f {U:yW}{b:Nat}{a0 a1 a2:Value}(h:U.heap[b]? = (zC #[a0,a1,a2] 30)) (v0 v1 v2:Value) :
  ∃ Y,(((U.setCell b¢0 v0).setCell b¢1 v1).setCell b¢2 v2)=Y∧Y.heap[b]? = (zC #[v0,v1,v2] 30)∧Y§=U§∧(∀ k,k≠b→Y.heap[k]? = U.heap[k]?)∧(∀ (w:yW) (F:Nat→Prop),Mv w U F→w§≤b→Mv w Y F):=by
 have h1:(U.setCell b¢0 v0).heap[b]? = (zC #[v0,a1,a2] 30):=heap_set v0 h
 have h2:((U.setCell b¢0 v0).setCell b¢1 v1).heap[b]? = (zC #[v0,v1,a2] 30):=heap_set v1 h1
 refine⟨_,rfl,heap_set v2 h2,by simp [World.setCell],fun k hk=>?_,fun w F m hb=>((m.setCell (a:=b¢0) (.inr hb) v0).setCell (a:=b¢1) (.inr hb) v1).setCell (a:=b¢2) (.inr hb) v2⟩
 iterate 3 (refine (Below.heap_setCell _ _ _ _ (show k≠b from hk)).trans ?_)
 rfl
structure XZ (w:yW) (V:yW):Prop where
 B:yD w V
 z:V.heap[w§]? = (zC zNo 48)
 f:V.heap[w§+1]? = (zC zi 30)
theorem XZ.hid {w V:yW}(h:XZ w V):Hid (XZ w V):=h
theorem XZ.new (w:yW):XZ w ((w.alloc (.cells zNo 48)).alloc (.cells zi 30)):=by
 have b1:=below_new w (.cells zNo 48)
 have s1:=size_alloc w (.cells zNo 48)
 have n1:=heap_new w (.cells zNo 48)
 have b2:=below_new (w.alloc (.cells zNo 48)) (.cells zi 30)
 have n2:=heap_new (w.alloc (.cells zNo 48)) (.cells zi 30)
 rw [s1] at n2
 exact⟨below2 b1 b2,(b2.block _ (by omega)).trans n1,n2⟩
theorem XZ.mv {w V V':yW}(h:XZ w V) {F:Nat→Prop}(m:Mv V V' F) (hF:∀ k,F k→w§+1 < k):XZ w V':=by
 have hz:=(zJ h.z).1
 have hf:=(zJ h.f).1
 have hs:=h.B.size
 refine⟨?_,(m.block _ hz (fun e=>by have:=hF _ e; omega)).trans h.z,(m.block _ hf (fun e=>by have:=hF _ e; omega)).trans h.f⟩
 have m1:Mv w V (fun k=>w§+1 < k):=Mv.ofBelow h.B
 exact (m1.trans m (fun k e=>.inl (hF k e))).below (Nat.le_refl _) (fun k e=>by omega)
theorem XZ.on {w V V':yW}(h:XZ w V) (k:yD V V'):XZ w V':=h.mv (F:=fun _=>False) (Mv.ofBelow k) (fun _ e=>e.elim)
theorem exprX (s:yB) (t0:Tr) (hgw:gWhole s=.ok t0) (w:yW):Calls zG 24 #[.string s] w (OutX s w):=by
 have HGW:Hid (gWhole s=.ok t0):=hgw
 clear hgw
 have HX:=(XZ.new w).hid
 obtain⟨W0,eW0⟩:∃ W,(w.alloc (.cells zNo 48)).alloc (.cells zi 30)=W:=⟨_,rfl⟩
 rw [eW0] at HX
 have cB:=begin_d s W0
 go_enter Tryz.func24,Tryz.ntmps24
 go_wp2_with fail
 try rw [eW0]
 refine cB.mono ?_
 rintro e w1 ⟨b,K,rfl,hb,hs,hK,hgd,hT,hE,hB⟩
 have HX1:=(HX.out.on hB).hid
 have hz0:=(zJ HX.out.f).1
 have HB1:Hid (w§+1 < b):=by show _ < _; omega
 have HBL:Hid (b < w1§):=hs.lw.1
 have HK:Hid (KOk K):=hK
 have HT:Hid (K.T=rdT s):=hT
 have HE:Hid ((K.lg=false∧K.be=tksE s∧K.ba=tksB s)∨(K.lg=true∧tksE s=110∧tksB s=0)):=hE
 have cE:=expr0_d hK w1 (nf (rdT s)) hs
 rw [rd_nf exprT_nil] at cE
 clear cB hb hs hK hgd hT hE hB hz0 HX eW0
 go_wp2_with fail
 refine cE.mono ?_
 rintro e w2 ⟨⟨⟨k2,o2,ty2,n2,f2,x2,p2⟩,am2,cm2,ks2⟩,rfl,hl,hk,hs,hm,ht⟩
 simp only [Nd.vals,Nd.h,Nd.a,Nd.c,Nd.ks,hdA]
 have HX2:=((HX1.out.mv hm (fun k e=>by rw [e]; exact HB1.out)).on (below_new w2 (.cells (zW k2 o2 ty2 n2 f2 x2 am2 ks2 cm2 p2) 48))).hid
 have hn:=below_new w2 (.cells (zW k2 o2 ty2 n2 f2 x2 am2 ks2 cm2 p2) 48)
 have hN:=heap_new w2 (.cells (zW k2 o2 ty2 n2 f2 x2 am2 ks2 cm2 p2) 48)
 have HL2:=(hl.on hn).hid
 have hs2:=hs.on hn
 have hz1:=(zJ HX1.out.f).1
 have HQ:Hid (w1§≤w2§∧w§+1 < w1§∧b < w1§):=⟨hm.size,hz1,HBL.out⟩
 have HK2:Hid (Bkn (fun k=>w1§≤k∧k < w2§) (Nd.mk ⟨k2,o2,ty2,n2,f2,x2,p2⟩ am2 cm2 ks2)):=hk
 have HT2:Hid (∀ q,exprT (rdT s)=.ok q→treeOf (Nd.mk ⟨k2,o2,ty2,n2,f2,x2,p2⟩ am2 cm2 ks2)=q.1):=ht
 have HN2:Hid ((w2.alloc (.cells (zW k2 o2 ty2 n2 f2 x2 am2 ks2 cm2 p2) 48)).heap[w2§]? = (zC (zW k2 o2 ty2 n2 f2 x2 am2 ks2 cm2 p2) 48)):=hN
 have cF:=end_s hs2
 have hsz:=size_alloc w2 (.cells (zW k2 o2 ty2 n2 f2 x2 am2 ks2 cm2 p2) 48)
 have HSZ:Hid ((w2.alloc (.cells (zW k2 o2 ty2 n2 f2 x2 am2 ks2 cm2 p2) 48))§=w2§+1):=hsz
 clear cE hl hk hs hm ht hN hn hs2 hz1 HX1 hsz
 obtain⟨s2,es2⟩:∃ q,dEnd (stOf (exprT (rdT s)))=q:=⟨_,rfl⟩
 have HS2:Hid (dEnd (stOf (exprT (rdT s)))=s2):=es2
 rw [es2] at cF
 clear es2
 go_wp2_with fail
 refine cF.mono ?_
 rintro e w3 ⟨rfl,hs,hm⟩
 have HX3:=(HX2.out.mv hm (fun k e=>by rw [e]; exact HB1.out)).hid
 have hN3:w3.heap[w2§]? = (zC (zW k2 o2 ty2 n2 f2 x2 am2 ks2 cm2 p2) 48):=(hm.block _ (by have:=HSZ.out; omega) (by have:=HQ.out; omega)).trans HN2.out
 have HL3:Hid (Lies w3 (Nd.mk ⟨k2,o2,ty2,n2,f2,x2,p2⟩ am2 cm2 ks2)):=HL2.out.bkn HK2.out fun j hj=>hm.block j (by have:=HSZ.out; omega) (by have:=HQ.out; omega)
 have HZ3:Hid (w2§+1≤w3§):=by have:=hm.size; have:=HSZ.out; show _≤_; omega
 clear cF hm HX2 HL2 HN2
 cases s2 with
 | ok ts =>
  obtain⟨q,e1,e2⟩:=whole_ok HS2.out
  have HW:Hid (gWhole s=.ok q.1):=e2
  have HTR:Hid (treeOf (Nd.mk ⟨k2,o2,ty2,n2,f2,x2,p2⟩ am2 cm2 ks2)=q.1):=HT2.out q e1
  obtain⟨i,p,u,hp,_⟩:Lv w3 b K ts:=hs
  have cO:=over_no hp
  clear hp e1 e2
  go_upto_region 4 with fail
  go_wp2_with fail
  refine cO.mono ?_
  rintro e w4 ⟨rfl,e9⟩
  obtain rfl:=e9.symm
  clear cO e9
  have x0':w3.cell? w2§¢0=some (zU k2):=cell_of hN3 0
  have z0:w3.cell? w§¢0=some (zU 0):=cell_of HX3.out.z 0
  have q0:w3.frozen? w§¢0=false:=frozen_of HX3.out.z 0
  have x1':w3.cell? w2§¢1=some (zU o2):=cell_of hN3 1
  have z1:w3.cell? w§¢1=some (zU 0):=cell_of HX3.out.z 1
  have q1:w3.frozen? w§¢1=false:=frozen_of HX3.out.z 1
  have x2':w3.cell? w2§¢2=some (zU ty2):=cell_of hN3 2
  have z2:w3.cell? w§¢2=some (zU 0):=cell_of HX3.out.z 2
  have q2:w3.frozen? w§¢2=false:=frozen_of HX3.out.z 2
  have x3':w3.cell? w2§¢3=some (zI n2):=cell_of hN3 3
  have z3:w3.cell? w§¢3=some (zI 0):=cell_of HX3.out.z 3
  have q3:w3.frozen? w§¢3=false:=frozen_of HX3.out.z 3
  have x4':w3.cell? w2§¢4=some (zU f2):=cell_of hN3 4
  have z4:w3.cell? w§¢4=some (zU 0):=cell_of HX3.out.z 4
  have q4:w3.frozen? w§¢4=false:=frozen_of HX3.out.z 4
  have x5':w3.cell? w2§¢5=some (.string x2):=cell_of hN3 5
  have z5:w3.cell? w§¢5=some (yQ):=cell_of HX3.out.z 5
  have q5:w3.frozen? w§¢5=false:=frozen_of HX3.out.z 5
  have x6':w3.cell? w2§¢6=some (.slice am2 ks2.length cm2):=cell_of hN3 6
  have z6:w3.cell? w§¢6=some (.slice none 0 0):=cell_of HX3.out.z 6
  have q6:w3.frozen? w§¢6=false:=frozen_of HX3.out.z 6
  have x7':w3.cell? w2§¢7=some (zI p2):=cell_of hN3 7
  have z7:w3.cell? w§¢7=some (zI 0):=cell_of HX3.out.z 7
  have q7:w3.frozen? w§¢7=false:=frozen_of HX3.out.z 7
  obtain⟨Y,eY,hY1,hY2,hY3,hY4⟩:=fin8 HX3.out.z (zU k2) (zU o2) (zU ty2) (zI n2) (zU f2) (.string x2) (.slice am2 ks2.length cm2) (zI p2)
  have hYf:Y.heap[w§+1]? = (zC zi 30):=(hY3 _ (by omega)).trans HX3.out.f
  obtain⟨U,eU,hU1,hU2,hU3,hU4⟩:=fin3f hYf (zI 0) (zI 0) (.bool false)
  have HEY:Hid (((((((((w3.setCell w§¢0 (zU k2)).setCell w§¢1 (zU o2)).setCell w§¢2 (zU ty2)).setCell w§¢3 (zI n2)).setCell w§¢4 (zU f2)).setCell w§¢5 (.string x2)).setCell w§¢6 (.slice am2 ks2.length cm2)).setCell w§¢7 (zI p2))=Y):=eY
  have HEU:Hid ((((Y.setCell ⟨w§+1,0,none⟩ (zI 0)).setCell ⟨w§+1,1,none⟩ (zI 0)).setCell ⟨w§+1,2,none⟩ (.bool false))=U):=eU
  have fg0:w3.cell? ⟨w§+1,0,none⟩=some (zI 0):=cell_of HX3.out.f 0
  have fk0:w3.frozen? ⟨w§+1,0,none⟩=false:=frozen_of HX3.out.f 0
  have fg1:w3.cell? ⟨w§+1,1,none⟩=some (zI 0):=cell_of HX3.out.f 1
  have fk1:w3.frozen? ⟨w§+1,1,none⟩=false:=frozen_of HX3.out.f 1
  have fg2:w3.cell? ⟨w§+1,2,none⟩=some (.bool false):=cell_of HX3.out.f 2
  have fk2:w3.frozen? ⟨w§+1,2,none⟩=false:=frozen_of HX3.out.f 2
  have HF:Hid (U.heap[w§]? = (zC (Nd.mk ⟨k2,o2,ty2,n2,f2,x2,p2⟩ am2 cm2 ks2).vals 48)∧U.heap[w§+1]? = (zC zi 30)∧Lies U (Nd.mk ⟨k2,o2,ty2,n2,f2,x2,p2⟩ am2 cm2 ks2)∧Bkn (fun k=>w§≤k∧k < U§) (Nd.mk ⟨k2,o2,ty2,n2,f2,x2,p2⟩ am2 cm2 ks2)∧yD w U):=by
   have hq:=HQ.out
   have hz:=HZ3.out
   refine⟨(hU3 _ (by omega)).trans hY1,hU1,HL3.out.bkn HK2.out fun j hj=>(hU3 j (by omega)).trans (hY3 j (by omega)),HK2.out.mono fun j hj=>⟨by omega,by omega⟩,?_⟩
   exact (hU4 w (fun _=>False) (hY4 w (fun _=>False) (Mv.ofBelow HX3.out.B) (Nat.le_refl _)) (by omega)).below (Nat.le_refl _) (fun _ e=>e.elim)
  clear hN3 eY eU hY1 hY2 hY3 hY4 hU1 hU2 hU3 hU4 hYf
  go_wp2_with fail
  rw [HEY.out,HEU.out]
  refine bodyPost_ret (results_cc rfl _ _ w§ (w§+1) 48 30 (Nd.mk ⟨k2,o2,ty2,n2,f2,x2,p2⟩ am2 cm2 ks2).vals zi (0,0) (0,0) _ _ rfl HF.out.1 Tryz.underlying48 rfl zK rfl HF.out.2.1 Tryz.underlying30 rfl zK) rfl ⟨?_,HF.out.2.2.2.2⟩
  rw [HW.out]
  exact⟨_,rfl,HTR.out,HF.out.2.2.1,HF.out.2.2.2.1⟩
 | error f =>
  have HW:Hid (gWhole s=.error f):=whole_err HS2.out
  exact absurd (HGW.out.symm.trans HW.out) (fun h=>by cases h)
set_option linter.unusedSimpArgs false
def txS:yB:=⟨#[115,116,114,97,116,101,103,121,32,115,32,123,32,114,101,103,32,110,32,105,110,116,32,61,32,49,59,32,114,101,103,32,100,111,110,101,32,98,111,111,108,32,61,32,116,114,117,101,59,32,115,116,97,116,101,32,97,32,123,32,119,104,101,110,32,100,111,110,101,32,100,111,32,103,111,116,111,32,97,59,32,125,32,125]⟩
def txT:yB:=⟨#[115,116,114,97,116,101,103,121,32,115,32,123,32,115,116,97,116,101,32,97,32,123,32,119,104,101,110,32,116,114,117,101,32,100,111,32,103,111,116,111,32,98,59,32,125,32,125]⟩
def txN:yB:=⟨#[98,105,100,32,47,32,110]⟩
def txM:yB:=⟨#[98,105,100,32,43,32,49]⟩
def sS:StratT:=(pWhole txS).getD ⟨txN,[],[],[]⟩
def sU:StratT:=(pWhole txT).getD ⟨txN,[],[],[]⟩
def tN:Tr:=match gWhole txN with
 | .ok t=>t
 | .error _=>tr0
def tM:Tr:=match gWhole txM with
 | .ok t=>t
 | .error _=>tr0
theorem pS1:pWhole txS=some sS:=by kernel_rfl
theorem pU1:pWhole txT=some sU:=by kernel_rfl
theorem gN1:gWhole txN=.ok tN:=by kernel_rfl
theorem gM1:gWhole txM=.ok tM:=by kernel_rfl
theorem chS:chkE (sT sS)=none:=by kernel_rfl
theorem chU:chkE (sT sU)=some (36,151):=by kernel_rfl
theorem zBS:zB (sT sS)=true:=by kernel_rfl
theorem zBU:zB (sT sU)=true:=by kernel_rfl
theorem ofN:ofE (sT sS) (ndT tN)=.ok 3:=by kernel_rfl
theorem ofM:ofE (sT sS) (ndT tM)=.error (4,152):=by kernel_rfl
theorem szN:size (ndT tN)≤100:=by decide +kernel
theorem szM:size (ndT tM)≤100:=by decide +kernel
theorem two_box (w:yW) (x y:Array Value) (t u:TypeId):((w.alloc (.cells x t)).alloc (.cells y u)).heap[w§]? = (zC x t)∧yD w ((w.alloc (.cells x t)).alloc (.cells y u)):=by
 have h1:=below_new w (.cells x t)
 have h2:=below_new (w.alloc (.cells x t)) (.cells y u)
 have h3:=heap_new w (.cells x t)
 exact⟨(h2.block _ (zJ h3).1).trans h3,below2 h1 h2⟩
def InS (W:yW) (S:StratM) (A:Nat):Prop:=StratL W S∧W.heap[A]? = (zC S.vals 27)
def InN (W:yW) (m:Nd) (A:Nat):Prop:=Lies W m∧W.heap[A]? = (zC m.vals 48)
theorem InS.on {W W':yW}{S:StratM}{A:Nat}(h:InS W S A) (b:yD W W'):InS W' S A:=⟨h.1.on b,(b.block _ (zJ h.2).1).trans h.2⟩
theorem InN.on {W W':yW}{m:Nd}{A:Nat}(h:InN W m A) (b:yD W W'):InN W' m A:=⟨h.1.on b,(b.block _ (zJ h.2).1).trans h.2⟩
theorem InS.new {w:yW}{S:StratM}(h:StratL w S) (y:Array Value) (u:TypeId):InS ((w.alloc (.cells S.vals 27)).alloc (.cells y u)) S w§:=⟨h.on (two_box w S.vals y 27 u).2,(two_box w S.vals y 27 u).1⟩
theorem InN.new {w:yW}{m:Nd}(h:Lies w m) (y:Array Value) (u:TypeId):InN ((w.alloc (.cells m.vals 48)).alloc (.cells y u)) m w§:=⟨h.on (two_box w m.vals y 48 u).2,(two_box w m.vals y 48 u).1⟩
theorem awake_any (w:yW) (ht:Tab w) (hf:FTab w) (hg:Ety w):Calls zG 8 #[] w fun e w'=>e=.returned (.bool true)∧yD w w':=by
 have HT:Hid (Tab w∧FTab w∧Ety w):=⟨ht,hf,hg⟩
 clear ht hf hg
 go_enter Tryz.func8,Tryz.ntmps8
 go_wp2_with fail
 refine (strat_l (s:=txS) pS1 w).mono ?_
 rintro e w1 ⟨S,rfl,htr,hls,hb1⟩
 have hbs:bStr S=sT sS:=by rw [bStr_tr,htr]
 have HS:Hid (chkE S=none∧StratZ S∧∀ m,ofE S m=ofE (sT sS) (bare m)):=⟨by rw [← chkE_b,hbs]; exact chS,zB_z (by rw [← zB_b,hbs]; exact zBS),fun m=>by rw [← ofE_b,hbs]⟩
 have HW1:Hid (yD w ((w1.alloc (.cells #[.string S.x,.slice S.ra S.rs.length S.rc,.slice S.sa S.ss.length S.sc,.slice S.ta S.ts.length S.tc] 27)).alloc (.cells zi 30))∧InS ((w1.alloc (.cells #[.string S.x,.slice S.ra S.rs.length S.rc,.slice S.sa S.ss.length S.sc,.slice S.ta S.ts.length S.tc] 27)).alloc (.cells zi 30)) S w1§):=⟨below2 hb1 (two_box w1 _ _ _ _).2,InS.new hls _ _⟩
 clear htr hls hbs hb1
 unfold StratM.vals
 go_upto_region 2 with fail
 generalize (w1.alloc (.cells #[.string S.x,.slice S.ra S.rs.length S.rc,.slice S.sa S.ss.length S.sc,.slice S.ta S.ts.length S.tc] 27)).alloc (.cells zi 30)=W1 at HW1 ⊢
 generalize w1§=A1 at HW1 ⊢
 go_wp2_with fail
 refine (strat_l (s:=txT) pU1 W1).mono ?_
 rintro e w2 ⟨U,rfl,htr,hls,hb1⟩
 have hbs:bStr U=sT sU:=by rw [bStr_tr,htr]
 have HU:Hid (chkE U=some (36,151)∧StratZ U):=⟨by rw [← chkE_b,hbs]; exact chU,zB_z (by rw [← zB_b,hbs]; exact zBU)⟩
 have h12:=below2 hb1 (two_box w2 #[.string U.x,.slice U.ra U.rs.length U.rc,.slice U.sa U.ss.length U.sc,.slice U.ta U.ts.length U.tc] zi 27 30).2
 have HW2:Hid (yD w ((w2.alloc (.cells #[.string U.x,.slice U.ra U.rs.length U.rc,.slice U.sa U.ss.length U.sc,.slice U.ta U.ts.length U.tc] 27)).alloc (.cells zi 30))∧InS ((w2.alloc (.cells #[.string U.x,.slice U.ra U.rs.length U.rc,.slice U.sa U.ss.length U.sc,.slice U.ta U.ts.length U.tc] 27)).alloc (.cells zi 30)) S A1∧InS ((w2.alloc (.cells #[.string U.x,.slice U.ra U.rs.length U.rc,.slice U.sa U.ss.length U.sc,.slice U.ta U.ts.length U.tc] 27)).alloc (.cells zi 30)) U w2§):=⟨below2 HW1.out.1 h12,HW1.out.2.on h12,InS.new hls _ _⟩
 clear htr hls hbs hb1 h12 HW1
 unfold StratM.vals
 go_upto_region 3 with fail
 generalize (w2.alloc (.cells #[.string U.x,.slice U.ra U.rs.length U.rc,.slice U.sa U.ss.length U.sc,.slice U.ta U.ts.length U.tc] 27)).alloc (.cells zi 30)=W2 at HW2 ⊢
 generalize w2§=A2 at HW2 ⊢
 go_wp2_with fail
 refine (exprX txN tN gN1 W2).mono ?_
 rintro e w3 ⟨h1,hb1⟩
 rw [gN1] at h1
 obtain⟨n,rfl,htr,hln,_⟩:=h1
 have hbn:bare n=ndT tN:=by unfold bare; rw [htr]
 have HN:Hid (ofE S n=.ok 3∧size n≤1000000000000):=⟨by rw [HS.out.2.2,hbn]; exact ofN,by have:=szN; rw [← hbn,size_b] at this; omega⟩
 have h12:=below2 hb1 (two_box w3 (zV n) zi 48 30).2
 have HW3:Hid (yD w ((w3.alloc (.cells (zV n) 48)).alloc (.cells zi 30))∧InS ((w3.alloc (.cells (zV n) 48)).alloc (.cells zi 30)) S A1∧InS ((w3.alloc (.cells (zV n) 48)).alloc (.cells zi 30)) U A2∧InN ((w3.alloc (.cells (zV n) 48)).alloc (.cells zi 30)) n w3§):=⟨below2 HW2.out.1 h12,HW2.out.2.1.on h12,HW2.out.2.2.on h12,InN.new hln _ _⟩
 clear htr hln hbn hb1 h12 HW2
 unfold Nd.vals hdA
 go_upto_region 4 with fail
 generalize (w3.alloc (.cells (zV n) 48)).alloc (.cells zi 30)=W3 at HW3 ⊢
 generalize w3§=A3 at HW3 ⊢
 go_wp2_with fail
 refine (exprX txM tM gM1 W3).mono ?_
 rintro e w4 ⟨h1,hb1⟩
 rw [gM1] at h1
 obtain⟨m,rfl,htr,hln,_⟩:=h1
 have hbn:bare m=ndT tM:=by unfold bare; rw [htr]
 have HM:Hid (ofE S m=.error (4,152)∧size m≤1000000000000):=⟨by rw [HS.out.2.2,hbn]; exact ofM,by have:=szM; rw [← hbn,size_b] at this; omega⟩
 have h12:=below2 hb1 (two_box w4 (zV m) zi 48 30).2
 have HW4:Hid (yD w ((w4.alloc (.cells (zV m) 48)).alloc (.cells zi 30))∧InS ((w4.alloc (.cells (zV m) 48)).alloc (.cells zi 30)) S A1∧InS ((w4.alloc (.cells (zV m) 48)).alloc (.cells zi 30)) U A2∧InN ((w4.alloc (.cells (zV m) 48)).alloc (.cells zi 30)) n A3∧InN ((w4.alloc (.cells (zV m) 48)).alloc (.cells zi 30)) m w4§):=⟨below2 HW3.out.1 h12,HW3.out.2.1.on h12,HW3.out.2.2.1.on h12,HW3.out.2.2.2.on h12,InN.new hln _ _⟩
 clear htr hln hbn hb1 h12 HW3
 unfold Nd.vals hdA
 go_upto_region 5 with fail
 generalize (w4.alloc (.cells (zV m) 48)).alloc (.cells zi 30)=W4 at HW4 ⊢
 generalize w4§=A4 at HW4 ⊢
 have y0:W4.cell? A1¢0=some (.string S.x):=cell_of HW4.out.2.1.2 0
 have y1:W4.cell? A1¢1=some (.slice S.ra S.rs.length S.rc):=cell_of HW4.out.2.1.2 1
 have y2:W4.cell? A1¢2=some (.slice S.sa S.ss.length S.sc):=cell_of HW4.out.2.1.2 2
 have y3:W4.cell? A1¢3=some (.slice S.ta S.ts.length S.tc):=cell_of HW4.out.2.1.2 3
 have c5:Calls zG 11 #[.agg #[.string S.x,.slice S.ra S.rs.length S.rc,.slice S.sa S.ss.length S.sc,.slice S.ta S.ts.length S.tc]] W4 (OutC W4 (chkE S)):=tyCheck_any S W4 HW4.out.2.1.1 HS.out.2.1 (HT.out.1.on HW4.out.1) (HT.out.2.1.on HW4.out.1) (HT.out.2.2.on HW4.out.1)
 go_wp2_with fail
 refine c5.mono ?_
 rintro e w5 (⟨_,rfl,hb5⟩ | ⟨p,no,T,v,h1,_⟩)
 case inr=>rw [HS.out.1] at h1; cases h1
 have HW5:Hid (yD w w5∧InS w5 S A1∧InS w5 U A2∧InN w5 n A3∧InN w5 m A4):=⟨below2 HW4.out.1 hb5,HW4.out.2.1.on hb5,HW4.out.2.2.1.on hb5,HW4.out.2.2.2.1.on hb5,HW4.out.2.2.2.2.on hb5⟩
 clear hb5 c5 HW4 y0 y1 y2 y3
 have y0:w5.cell? A2¢0=some (.string U.x):=cell_of HW5.out.2.2.1.2 0
 have y1:w5.cell? A2¢1=some (.slice U.ra U.rs.length U.rc):=cell_of HW5.out.2.2.1.2 1
 have y2:w5.cell? A2¢2=some (.slice U.sa U.ss.length U.sc):=cell_of HW5.out.2.2.1.2 2
 have y3:w5.cell? A2¢3=some (.slice U.ta U.ts.length U.tc):=cell_of HW5.out.2.2.1.2 3
 have c6:Calls zG 11 #[.agg #[.string U.x,.slice U.ra U.rs.length U.rc,.slice U.sa U.ss.length U.sc,.slice U.ta U.ts.length U.tc]] w5 (OutC w5 (chkE U)):=tyCheck_any U w5 HW5.out.2.2.1.1 HU.out.2 (HT.out.1.on HW5.out.1) (HT.out.2.1.on HW5.out.1) (HT.out.2.2.on HW5.out.1)
 go_wp2_with fail
 refine c6.mono ?_
 rintro e w6 (⟨h1,_⟩ | ⟨p,no,T,v,h1,rfl,hE,hb6⟩)
 case inl=>rw [HU.out.1] at h1; cases h1
 rw [HU.out.1] at h1
 cases h1
 have HW6:Hid (yD w w6∧InS w6 S A1∧InN w6 n A3∧InN w6 m A4):=⟨below2 HW5.out.1 hb6,HW5.out.2.1.on hb6,HW5.out.2.2.2.1.on hb6,HW5.out.2.2.2.2.on hb6⟩
 have c7:=pwrong_any hE (HT.out.2.2.on HW6.out.1)
 clear hb6 c6 HW5 hE y0 y1 y2 y3
 go_wp2_with fail
 refine c7.mono ?_
 rintro e w7 ⟨rfl,hb7⟩
 have HW7:Hid (yD w w7∧InS w7 S A1∧InN w7 n A3∧InN w7 m A4):=⟨below2 HW6.out.1 hb7,HW6.out.2.1.on hb7,HW6.out.2.2.1.on hb7,HW6.out.2.2.2.on hb7⟩
 clear hb7 c7 HW6
 have c8:Calls zG 16 #[.agg #[.string S.x,.slice S.ra S.rs.length S.rc,.slice S.sa S.ss.length S.sc,.slice S.ta S.ts.length S.tc],.agg (zV n)] w7 (OutT w7 (ofE S n)):=of_any S n w7 HW7.out.2.1.1 HW7.out.2.2.1.1 HN.out.2 (HT.out.1.on HW7.out.1) (HT.out.2.1.on HW7.out.1)
 have y0:w7.cell? A1¢0=some (.string S.x):=cell_of HW7.out.2.1.2 0
 have y1:w7.cell? A1¢1=some (.slice S.ra S.rs.length S.rc):=cell_of HW7.out.2.1.2 1
 have y2:w7.cell? A1¢2=some (.slice S.sa S.ss.length S.sc):=cell_of HW7.out.2.1.2 2
 have y3:w7.cell? A1¢3=some (.slice S.ta S.ts.length S.tc):=cell_of HW7.out.2.1.2 3
 have z0:w7.cell? A3¢0=some (zU n.h.k):=cell_of HW7.out.2.2.1.2 0
 have z1:w7.cell? A3¢1=some (zU n.h.o):=cell_of HW7.out.2.2.1.2 1
 have z2:w7.cell? A3¢2=some (zU n.h.t):=cell_of HW7.out.2.2.1.2 2
 have z3:w7.cell? A3¢3=some (zI n.h.n):=cell_of HW7.out.2.2.1.2 3
 have z4:w7.cell? A3¢4=some (zU n.h.f):=cell_of HW7.out.2.2.1.2 4
 have z5:w7.cell? A3¢5=some (.string n.h.x):=cell_of HW7.out.2.2.1.2 5
 have z6:w7.cell? A3¢6=some (.slice n.a n.ks.length n.c):=cell_of HW7.out.2.2.1.2 6
 have z7:w7.cell? A3¢7=some (zI n.h.p):=cell_of HW7.out.2.2.1.2 7
 go_wp2_with fail
 refine c8.mono ?_
 rintro e w8 (⟨t,h1,rfl,hb8⟩ | ⟨p,no,b,h1,_⟩)
 case inr=>rw [HN.out.1] at h1; cases h1
 rw [HN.out.1] at h1
 cases h1
 have HW8:Hid (yD w w8∧InS w8 S A1∧InN w8 m A4):=⟨below2 HW7.out.1 hb8,HW7.out.2.1.on hb8,HW7.out.2.2.2.on hb8⟩
 clear hb8 c8 HW7 y0 y1 y2 y3 z0 z1 z2 z3 z4 z5 z6 z7
 have c9:Calls zG 16 #[.agg #[.string S.x,.slice S.ra S.rs.length S.rc,.slice S.sa S.ss.length S.sc,.slice S.ta S.ts.length S.tc],.agg (zV m)] w8 (OutT w8 (ofE S m)):=of_any S m w8 HW8.out.2.1.1 HW8.out.2.2.1 HM.out.2 (HT.out.1.on HW8.out.1) (HT.out.2.1.on HW8.out.1)
 have y0:w8.cell? A1¢0=some (.string S.x):=cell_of HW8.out.2.1.2 0
 have y1:w8.cell? A1¢1=some (.slice S.ra S.rs.length S.rc):=cell_of HW8.out.2.1.2 1
 have y2:w8.cell? A1¢2=some (.slice S.sa S.ss.length S.sc):=cell_of HW8.out.2.1.2 2
 have y3:w8.cell? A1¢3=some (.slice S.ta S.ts.length S.tc):=cell_of HW8.out.2.1.2 3
 have z0:w8.cell? A4¢0=some (zU m.h.k):=cell_of HW8.out.2.2.2 0
 have z1:w8.cell? A4¢1=some (zU m.h.o):=cell_of HW8.out.2.2.2 1
 have z2:w8.cell? A4¢2=some (zU m.h.t):=cell_of HW8.out.2.2.2 2
 have z3:w8.cell? A4¢3=some (zI m.h.n):=cell_of HW8.out.2.2.2 3
 have z4:w8.cell? A4¢4=some (zU m.h.f):=cell_of HW8.out.2.2.2 4
 have z5:w8.cell? A4¢5=some (.string m.h.x):=cell_of HW8.out.2.2.2 5
 have z6:w8.cell? A4¢6=some (.slice m.a m.ks.length m.c):=cell_of HW8.out.2.2.2 6
 have z7:w8.cell? A4¢7=some (zI m.h.p):=cell_of HW8.out.2.2.2 7
 go_wp2_with fail
 refine c9.mono ?_
 rintro e w9 (⟨t,h1,_⟩ | ⟨p,no,b,h1,rfl,_,hF,hb9⟩)
 case inl=>rw [HM.out.1] at h1; cases h1
 rw [HM.out.1] at h1
 cases h1
 have HW9:Hid (yD w w9):=below2 HW8.out.1 hb9
 have cA:=pwrong_any hF.er (HT.out.2.2.on HW9.out)
 clear hb9 c9 HW8 y0 y1 y2 y3 z0 z1 z2 z3 z4 z5 z6 z7 hF
 go_wp2_with fail
 refine cA.mono ?_
 rintro e wA ⟨rfl,hbA⟩
 have HWA:Hid (yD w wA):=below2 HW9.out hbA
 clear hbA cA HW9
 go_wp2_with fail
 go_ret
 exact⟨rfl,HWA.out⟩
theorem size26s:(Tryz.prog.info? 27).map (·.size)=some 4:=by kernel_rfl
theorem far_any (S:StratM) (m:Nd) (w:yW) (hl:StratL w S) (hm:Lies w m):Calls zG 13 #[.agg S.vals,.agg m.vals] w fun e w'=>(∃ f:Bool,e=.returned (.bool f)∧(f=false→StratY S∧size m≤1048576))∧yD w w':=by
 have HH:Hid (StratL w S∧Lies w m):=⟨hl,hm⟩
 have e2:=below_two w (.cells S.vals 27) (.cells m.vals 48)
 have n1:((w.alloc (.cells S.vals 27)).alloc (.cells m.vals 48)).heap[w§]? = (zC S.vals 27):=heap_old (heap_new _ _) (by rw [size_alloc]; omega)
 have n2:((w.alloc (.cells S.vals 27)).alloc (.cells m.vals 48)).heap[w§+1]? = (zC m.vals 48):=by rw [← size_alloc w (.cells S.vals 27)]; exact heap_new _ _
 obtain⟨V,eV⟩:∃ V,(w.alloc (.cells S.vals 27)).alloc (.cells m.vals 48)=V:=⟨_,rfl⟩
 rw [eV] at e2 n1 n2
 have HV:Hid ((w.alloc (.cells S.vals 27)).alloc (.cells m.vals 48)=V):=eV
 have HB:Hid (yD w V):=e2
 have HN1:Hid (V.heap[w§]? = (zC S.vals 27)):=n1
 have HN2:Hid (V.heap[w§+1]? = (zC m.vals 48)):=n2
 have c1:=weighS_any S V (hl.on e2)
 clear hl hm e2 n1 n2 eV
 go_enter Tryz.func13,Tryz.ntmps13
 go_upto_region 1 with fail
 rw [HV.out]
 go_wp2_with (refine wpList_load_row rfl 27 _ rfl w§ rfl 27 S.vals (0,0) _ HN1.out Tryz.underlying27 rfl size26s ?_)
 refine c1.mono ?_
 rintro e w1 ⟨⟨r,rfl,hr⟩,hb⟩
 have HR:Hid (WghS S r):=hr
 have HB1:Hid (yD w w1):=below2 HB.out hb
 have HN3:Hid (w1.heap[w§+1]? = (zC m.vals 48)):=(hb.block _ (zJ HN2.out).1).trans HN2.out
 by_cases hb1:r≤1048576
 ·have hn:¬ (1048576:Int) < r:=by omega
  have c2:Calls zG 38 #[.agg (zV m),zI r,zI 0] w1 fun e w'=>(∃ r2,e=.returned (zI r2)∧Wgt m r r2)∧yD w1 w':=weigh_top m w1 r (HH.out.2.on HB1.out) hr.1 (by have:=hr.2.1; omega)
  have z0:w1.cell? ⟨w§+1,0,none⟩=some (zU m.h.k):=cell_of HN3.out 0
  have z1:w1.cell? ⟨w§+1,1,none⟩=some (zU m.h.o):=cell_of HN3.out 1
  have z2:w1.cell? ⟨w§+1,2,none⟩=some (zU m.h.t):=cell_of HN3.out 2
  have z3:w1.cell? ⟨w§+1,3,none⟩=some (zI m.h.n):=cell_of HN3.out 3
  have z4:w1.cell? ⟨w§+1,4,none⟩=some (zU m.h.f):=cell_of HN3.out 4
  have z5:w1.cell? ⟨w§+1,5,none⟩=some (.string m.h.x):=cell_of HN3.out 5
  have z6:w1.cell? ⟨w§+1,6,none⟩=some (.slice m.a m.ks.length m.c):=cell_of HN3.out 6
  have z7:w1.cell? ⟨w§+1,7,none⟩=some (zI m.h.p):=cell_of HN3.out 7
  clear c1 hr hb HN1 HN2
  go_wp2_with fail
  refine c2.mono ?_
  rintro e w2 ⟨⟨r2,rfl,hr2⟩,hb2⟩
  have HR2:Hid (Wgt m r r2):=hr2
  have HB2:Hid (yD w w2):=below2 HB1.out hb2
  clear c2 hr2 hb2
  go_wp2_with fail
  go_ret
  refine⟨⟨_,rfl,fun hf=>?_⟩,HB2.out⟩
  have h0:r≤1048576∧r2≤1048576:=by simpa using hf
  have h1:=h0.2
  have h2:=HR2.out.2.2 h1
  have h3:=size_wt m
  have h4:=HR.out.1
  exact⟨HR.out.2.2 hb1,by omega⟩
 ·have hn:(1048576:Int) < r:=by omega
  clear c1 hr hb HN1 HN2
  go_wp2_with fail
  go_ret
  exact⟨⟨_,rfl,fun hf=>by simp at hf⟩,HB1.out⟩
end Go.Proofs.YtoogodlnnijikaaGreatDoor
