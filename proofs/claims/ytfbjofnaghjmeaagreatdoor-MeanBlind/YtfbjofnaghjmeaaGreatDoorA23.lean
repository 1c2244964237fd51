import Derived.Test.YtfbjofnaghjmeaaGreatDoorA0
import Derived.Test.YtfbjofnaghjmeaaGreatDoorA21
import Derived.Maps.OwnSet
import Derived.Test.YtfbjofnaghjmeaaGreatDoorA3
import Derived.Test.YtfbjofnaghjmeaaGreatDoorA4
namespace Go.Proofs.YtfbjofnaghjmeaaGreatDoor
set_option maxHeartbeats 4000000
set_option maxRecDepth 100000
open Go.RowKit Go.Maps
set_option linter.unusedVariables false
def FlAt (w:yW) (b:Nat) (c:yB) (p no:Int):Prop:=w.heap[b]? = (zC #[.string c,zI p,.iface 41 (zI no)] 186)
theorem FlAt.on {w w':yW}{b:Nat}{c:yB}{p no:Int}(h:FlAt w b c p no) (k:yD w w'):FlAt w' b c p no:=(k.block b (zJ h).1).trans h
theorem untyped_any (p no:Int) (w:yW):Calls zG 61 #[zI p,zI no] w fun e w'=>e=.returned (.iface 184 (zP w§))∧FlAt w' w§ Zl p no∧yD w w':=by
 go_enter Tryz.func61,Tryz.ntmps61
 go_wp2_with fail
 go_ret
 exact⟨rfl,heap_new _ _,below_new _ _⟩
theorem wrong_any (p no:Int) (w:yW):Calls zG 89 #[zI p,zI no] w fun e w'=>e=.returned (.iface 184 (zP w§))∧FlAt w' w§ Z6 p no∧yD w w':=by
 go_enter Tryz.func89,Tryz.ntmps89
 go_wp2_with fail
 go_ret
 exact⟨rfl,heap_new _ _,below_new _ _⟩
def RgM (w:yW) (b:Nat) (L:yB→Option Int):Prop :=
 ∃ (n:Nat) (D:DataW Unit),w.ownsMap Tryz.prog 9 (plainElem Tryz.prog 34) b n D∧∀ x:yB,x.size≤maxLen →
  Maps.has D (.string x.data.toList)=(L x).isSome∧D.atKey (.string x.data.toList) (.lit (.int .u8 0))=.lit (.int .u8 ((L x).getD 0))
theorem RgM.on {w w':yW}{b:Nat}{L:yB→Option Int}(h:RgM w b L) (k:yD w w'):RgM w' b L:=by
 obtain⟨n,D,ho,hL⟩:=h
 have hlt:=ho.lt
 obtain⟨es,clock,hb,F,hs,hD⟩:=ho
 exact⟨n,D,⟨es,clock,(k.block b hlt).trans hb,F,hs,hD⟩,hL⟩
mutual
def tyR (L:yB→Option Int):Nd→Except (Int × Int) Int
 | .mk h _ _ ks=>match tysR L ks with
  | .error e=>.error e
  | .ok ts=>if h.k == 2 then (match L h.x with
    | some t=>.ok t
    | none=>.error (h.p,151))
   else if (fitT h ks.length (ts.getD 0 0) (ts.getD 1 0) (ts.getD 2 0)).2 then .ok (fitT h ks.length (ts.getD 0 0) (ts.getD 1 0) (ts.getD 2 0)).1 else .error (h.p,152)
def tysR (L:yB→Option Int):List Nd→Except (Int × Int) (List Int)
 | []=>.ok []
 | k :: ks=>match tyR L k with
  | .error e=>.error e
  | .ok t=>match tysR L ks with
   | .error e=>.error e
   | .ok ts=>.ok (t :: ts)
end
theorem law9:Keyed Tryz.prog 9:=string_keyed Tryz.underlying9
theorem zero34 (w:yW):(zeroValue 34).run Tryz.prog w=.ok (zU 0) w:=by kernel_rfl
open Go.Extern.Stop Go.Stop Go.Extern
theorem Mv.toBelow {w w':yW}(h:Mv w w' (fun _=>False)):yD w w':=h.below (Nat.le_refl _) (fun _ e=>e.elim)
theorem errnoIn_any {w:yW}{v:Value}{n p:Int}(h:Er w v n p) (hg:Ety w) :
  Calls zG 102 #[v] w fun e w'=>e=.returned (zI n)∧yD w w':=by
 have b1:=below_new w (.cells #[zI 0] 41)
 have n1:=heap_new w (.cells #[zI 0] 41)
 have HB1:Hid (yD w (w.alloc (.cells #[zI 0] 41))):=b1
 have s1:=size_alloc w (.cells #[zI 0] 41)
 have cA:=as49E_any (h.on b1) (hg.on b1) w§¢0 _ (cell_of n1 0) (frozen_of n1 0)
 have HN:Hid ((w.alloc (.cells #[zI 0] 41)).heap[w§]? = some (.cells #[zI 0] 41)∧(w.alloc (.cells #[zI 0] 41))§=w§+1):=⟨n1,s1⟩
 obtain⟨T,x,rfl⟩:=h.face
 clear b1 n1 s1 h hg
 go_enter Tryz.func102,Tryz.ntmps102
 go_wp2_with fail
 refine cA.mono ?_
 rintro e w1 ⟨b,rfl,hh⟩
 clear cA
 rcases hh with ⟨rfl,V,hV,eV⟩ | ⟨rfl,hn,hV⟩
 ·have hv:V.heap[w§]? = (zC #[zI 0] 41):=(hV.block _ (by rw [HN.out.2]; omega)).trans HN.out.1
  have c1:w1.cell? w§¢0=some (zI n):=by
   rw [eV]; exact cell_of (heap_set (j:=0) (zI n) hv) 0
  have HB:Hid (yD w w1):=by
   show Below _ _ _
   rw [eV]
   exact ((Mv.ofBelow (below2 HB1.out hV)).setCell (F:=fun _=>False) (a:=w§¢0) (.inr (Nat.le_refl _)) _).toBelow
  clear hv hV eV HN HB1
  go_wp2_with fail
  go_ret
  exact⟨rfl,HB.out⟩
 ·have HB:Hid (yD w w1):=below2 HB1.out hV
  subst hn
  clear hV HN HB1
  go_wp2_with fail
  go_ret
  exact⟨rfl,HB.out⟩
theorem placeIn_any {w:yW}{v:Value}{n p:Int}(h:Er w v n p) (hg:Ety w) :
  Calls zG 103 #[v] w fun e w'=>e=.returned (zI p)∧yD w w':=by
 have b1:=below_new w (.cells #[.pointer none] 184)
 have n1:=heap_new w (.cells #[.pointer none] 184)
 have HB1:Hid (yD w (w.alloc (.cells #[.pointer none] 184))):=b1
 have s1:=size_alloc w (.cells #[.pointer none] 184)
 have cA:=asF1_any (h.on b1) (hg.on b1) w§¢0 _ (cell_of n1 0) (frozen_of n1 0)
 have HN:Hid ((w.alloc (.cells #[.pointer none] 184)).heap[w§]? = some (.cells #[.pointer none] 184)∧(w.alloc (.cells #[.pointer none] 184))§=w§+1):=⟨n1,s1⟩
 obtain⟨T,x,rfl⟩:=h.face
 clear b1 n1 s1 h hg
 go_enter Tryz.func103,Tryz.ntmps103
 go_wp2_with fail
 refine cA.mono ?_
 rintro e w1 ⟨b,rfl,hh⟩
 clear cA
 rcases hh with ⟨rfl,F,c,er,hF,V,hV,eV⟩ | ⟨rfl,hn,hV⟩
 ·have hv:V.heap[w§]? = (zC #[.pointer none] 184):=(hV.block _ (by rw [HN.out.2]; omega)).trans HN.out.1
  have c1:w1.cell? w§¢0=some (zP F):=by
   rw [eV]; exact cell_of (heap_set (j:=0) (zP F) hv) 0
  have hF':V.heap[F]? = (zC #[.string c,zI p,er] 186):=(hV.block _ (zJ hF).1).trans hF
  have c2:w1.cell? F¢1=some (zI p):=by
   rw [eV]
   refine cell_of ((Below.heap_setCell V w§¢0 (zP F) F ?_).trans hF') 1
   intro e
   have e':F=w§:=e
   rw [e',hv] at hF'
   cases hF'
  have HB:Hid (yD w w1):=by
   show Below _ _ _
   rw [eV]
   exact ((Mv.ofBelow (below2 HB1.out hV)).setCell (F:=fun _=>False) (a:=w§¢0) (.inr (Nat.le_refl _)) _).toBelow
  clear hv hV eV HN HB1 hF hF'
  go_wp2_with fail
  go_ret
  exact⟨rfl,HB.out⟩
 ·have HB:Hid (yD w w1):=below2 HB1.out hV
  subst hn
  clear hV HN HB1
  go_wp2_with fail
  go_ret
  exact⟨rfl,HB.out⟩
theorem pwrong_any {w:yW}{v:Value}{n p:Int}(h:Er w v n p) (hg:Ety w) :
  Calls zG 64 #[v] w fun e w'=>e=.returned (.tuple #[zI n,zI p])∧yD w w':=by
 have cE:=errnoIn_any h hg
 have HE:Hid (Er w v n p∧Ety w):=⟨h,hg⟩
 obtain⟨T,x,rfl⟩:=h.face
 clear h hg
 go_enter Tryz.func64,Tryz.ntmps64
 go_wp2_with fail
 refine cE.mono ?_
 rintro e w1 ⟨rfl,hb⟩
 have HB:Hid (yD w w1):=hb
 have cP:=placeIn_any (HE.out.1.on hb) (HE.out.2.on hb)
 clear cE hb
 go_wp2_with fail
 refine cP.mono ?_
 rintro e w2 ⟨rfl,hb⟩
 have HB2:Hid (yD w w2):=below2 HB.out hb
 clear cP hb
 go_wp2_with fail
 exact bodyPost_ret (results_t2 (p:=2) (u:=3) rfl _ _) rfl ⟨rfl,HB2.out⟩
theorem pwrong_nil (w:yW) :
  Calls zG 64 #[.nilIface] w fun e w'=>e=.returned (.tuple #[zI 0,zI 0])∧w'=w:=by
 go_enter Tryz.func64,Tryz.ntmps64
 go_wp2_with fail
 exact bodyPost_ret (results_t2 (p:=2) (u:=3) rfl _ _) rfl ⟨rfl,rfl⟩
theorem FlAt.er {w:yW}{b:Nat}{c:yB}{p no:Int}(h:FlAt w b c p no):Er w (.iface 184 (zP b)) no p:=.inr (.inl ⟨b,c,rfl,h⟩)
theorem around_any (F:Nat) (c:yB) (p no:Int) (w:yW) (hF:FlAt w F c p no) (hg:Ety w) :
  Calls zG 182 #[.iface 184 (zP F)] w fun e w'=>∃ v,e=.returned v∧Er w' v no p∧yD w w':=by
 have b1:=below_new w (.cells #[.string Z6,zI 0,.iface 184 (zP F)] 186)
 have n1:=heap_new w (.cells #[.string Z6,zI 0,.iface 184 (zP F)] 186)
 have s1:=size_alloc w (.cells #[.string Z6,zI 0,.iface 184 (zP F)] 186)
 obtain⟨W1,e1⟩:∃ W,w.alloc (.cells #[.string Z6,zI 0,.iface 184 (zP F)] 186)=W:=⟨_,rfl⟩
 have E1:Hid (w.alloc (.cells #[.string Z6,zI 0,.iface 184 (zP F)] 186)=W1):=e1
 rw [e1] at b1 n1 s1
 have b2:=below_new W1 (.cells #[.pointer none] 184)
 have n2:=heap_new W1 (.cells #[.pointer none] 184)
 have k2:=(b2.block _ (zJ n1).1).trans n1
 have bw:=below2 b1 b2
 rw [s1] at n2
 have HS1:Hid (W1§=w§+1):=s1
 obtain⟨W2,e2⟩:∃ W,W1.alloc (.cells #[.pointer none] 184)=W:=⟨_,rfl⟩
 have E2:Hid (W1.alloc (.cells #[.pointer none] 184)=W2):=e2
 rw [e2] at n2 k2 bw
 have hFlt:=(zJ hF).1
 have cA:=asF_any F¢0 ⟨w§+1,0,none⟩ (.pointer none) W2 (hg.on bw) (cell_of n2 0) (frozen_of n2 0)
 have HB:Hid (yD w W2):=bw
 have HK:Hid (W2.heap[w§]? = (zC #[.string Z6,zI 0,.iface 184 (zP F)] 186)∧W2.heap[w§+1]? = (zC #[.pointer none] 184)∧FlAt W2 F c p no):=⟨k2,n2,hF.on bw⟩
 clear b1 n1 s1 b2 n2 k2 bw e1 e2 hg hF
 go_enter Tryz.func182,Tryz.ntmps182
 go_upto_region 3 with fail
 rw [E1.out]
 try rw [HS1.out]
 rw [E2.out]
 clear E1 E2 HS1
 go_wp2_with fail
 refine cA.mono ?_
 rintro e w3 ⟨rfl,V,hV,rfl⟩
 have h1:=(hV.block _ (zJ HK.out.1).1).trans HK.out.1
 have h2:=(hV.block _ (zJ HK.out.2.1).1).trans HK.out.2.1
 have h3:=HK.out.2.2.on hV
 have hb:=below2 HB.out hV
 obtain⟨U,eU⟩:∃ U,V.setCell ⟨w§+1,0,none⟩ (zP F)=U:=⟨_,rfl⟩
 have q2:=heap_setCell_same V (w§+1) 0 _ _ (zP F) h2
 have q1:=(Below.heap_setCell V ⟨w§+1,0,none⟩ (zP F) w§ (by simp)).trans h1
 have q3:=(Below.heap_setCell V ⟨w§+1,0,none⟩ (zP F) F (by simp; omega)).trans h3
 have qb:=hb.setCell (p:=⟨w§+1,0,none⟩) (by simp) (zP F)
 rw [eU] at q1 q2 q3 qb ⊢
 have t0:U.cell? ⟨w§+1,0,none⟩=some (zP F):=cell_of q2 0
 have t1:U.cell? F¢1=some (zI p):=cell_of q3 1
 have t2:U.cell? w§¢1=some (zI 0):=cell_of q1 1
 have t3:U.frozen? w§¢1=false:=frozen_of q1 1
 have HQ:Hid (U.heap[w§]? = (zC #[.string Z6,zI 0,.iface 184 (zP F)] 186)∧FlAt U F c p no∧yD w U):=⟨q1,q3,qb⟩
 clear h1 h2 h3 hb eU q1 q2 q3 qb cA hV HK HB
 go_wp2_with fail
 go_ret
 refine⟨_,rfl,.inr (.inr (.inl ⟨w§,_,F,c,p,rfl,heap_setCell_same U w§ 1 _ _ _ HQ.out.1,?_⟩)),HQ.out.2.2.setCell (by simp) _⟩
 exact (Below.heap_setCell U w§¢1 _ F (by simp; omega)).trans HQ.out.2.1
set_option linter.unusedSimpArgs false
def OutT (w:yW) (r:Except (Int × Int) Int) (e:Ending) (w':yW):Prop :=
 (∃ t,r=.ok t∧e=.returned (.tuple #[zU t,.nilIface])∧yD w w') ∨
 (∃ p no b,r=.error (p,no)∧e=.returned (.tuple #[zU 0,.iface 184 (zP b)])∧w§≤b∧FlAt w' b Zl p no∧yD w w')
inductive OkT:Nd→Prop
 | mk (h:Hd) (a:Option Addr) (c:Nat) (ks:List Nd) (h3:ks.length≤3) (hf:h.k=3→0≤h.f∧h.f < 7) (hs:∀ k ∈ ks,OkT k):OkT (.mk h a c ks)
def joinT (ts:List Int):Except (Int × Int) (List Int)→Except (Int × Int) (List Int)
 | .ok us=>.ok (ts ++ us)
 | .error e=>.error e
theorem joinT_ok {L:yB→Option Int}{ts:List Int}{k:Nd}{ks:List Nd}{t:Int}(h:tyR L k=.ok t):joinT ts (tysR L (k :: ks))=joinT (ts ++ [t]) (tysR L ks):=by
 simp only [tysR,h]
 cases tysR L ks with
 | ok us=>simp [joinT]
 | error e=>rfl
theorem joinT_err {L:yB→Option Int}{ts:List Int}{k:Nd}{ks:List Nd}{q:Int × Int}(h:tyR L k=.error q):joinT ts (tysR L (k :: ks))=.error q:=by
 simp only [tysR,h]; rfl
def tyH (L:yB→Option Int) (h:Hd) (n:Nat) (a0 a1 a2:Int):Except (Int × Int) Int :=
 if h.k == 2 then (match L h.x with
  | some t=>.ok t
  | none=>.error (h.p,151)) else if (fitT h n a0 a1 a2).2 then .ok (fitT h n a0 a1 a2).1 else .error (h.p,152)
theorem tyR_ok {L:yB→Option Int}{h:Hd}{a:Option Addr}{c:Nat}{ks:List Nd}{ts:List Int}(ht:tysR L ks=.ok ts):tyR L (.mk h a c ks)=tyH L h ks.length (ts.getD 0 0) (ts.getD 1 0) (ts.getD 2 0):=by
 rw [tyR,ht]; rfl
theorem tyH_some {L:yB→Option Int}{h:Hd}{n:Nat}{a0 a1 a2 t:Int}(hk:(h.k == 2)=true) (hL:L h.x=some t):tyH L h n a0 a1 a2=.ok t:=by
 unfold tyH; rw [hk,hL]; rfl
theorem tyH_none {L:yB→Option Int}{h:Hd}{n:Nat}{a0 a1 a2:Int}(hk:(h.k == 2)=true) (hL:L h.x=none):tyH L h n a0 a1 a2=.error (h.p,151):=by
 unfold tyH; rw [hk,hL]; rfl
theorem tyH_fit {L:yB→Option Int}{h:Hd}{n:Nat}{a0 a1 a2 u:Int}(hk:(h.k == 2)=false) (hf:fitT h n a0 a1 a2=(u,true)):tyH L h n a0 a1 a2=.ok u:=by
 unfold tyH; rw [hk,hf]; rfl
theorem tyH_no {L:yB→Option Int}{h:Hd}{n:Nat}{a0 a1 a2 u:Int}(hk:(h.k == 2)=false) (hf:fitT h n a0 a1 a2=(u,false)):tyH L h n a0 a1 a2=.error (h.p,152):=by
 unfold tyH; rw [hk,hf]; rfl
theorem typ_any (B:Nat) (L:yB→Option Int):∀ (m:Nd) (w:yW),RgM w B L→FTab w→Lies w m→OkT m→Calls zG 63 #[.map (some B),.agg m.vals] w (OutT w (tyR L m)):=by
 refine Nd.ind fun h a c ks ih w hm ht hl ho=>?_
 have HI:Hid (∀ k ∈ ks,∀ (w:yW),RgM w B L→FTab w→Lies w k→OkT k→Calls zG 63 #[.map (some B),.agg k.vals] w (OutT w (tyR L k))):=ih
 have HL:=hl.hid
 have HM:Hid (RgM w B L∧FTab w):=⟨hm,ht⟩
 cases ho with | mk _ _ _ _ h3 hf hs =>
 have HO:Hid ((h.k=3→0≤h.f∧h.f < 7)∧∀ k ∈ ks,OkT k):=⟨hf,hs⟩
 have H3:Hid (ks.length≤3):=h3
 have hb1:=below_new w (.cells (zX h a ks c) 38)
 have hn1:=heap_new w (.cells (zX h a ks c) 38)
 have hs1:=size_alloc w (.cells (zX h a ks c) 38)
 obtain⟨W1,e1⟩:∃ W,w.alloc (.cells (zX h a ks c) 38)=W:=⟨_,rfl⟩
 have E1:Hid (w.alloc (.cells (zX h a ks c) 38)=W1):=e1
 rw [e1] at hb1 hn1 hs1
 have hb2:=below_new W1 (.cells #[zU 0,zU 0,zU 0] 187)
 have hn2:=heap_new W1 (.cells #[zU 0,zU 0,zU 0] 187)
 have hs2:=size_alloc W1 (.cells #[zU 0,zU 0,zU 0] 187)
 have hk2:=(hb2.block _ (zJ hn1).1).trans hn1
 have hbw:=below2 hb1 hb2
 rw [hs1] at hn2 hs2
 have HS1:Hid (W1§=w§+1):=hs1
 obtain⟨W2,e2⟩:∃ W,W1.alloc (.cells #[zU 0,zU 0,zU 0] 187)=W:=⟨_,rfl⟩
 have E2:Hid (W1.alloc (.cells #[zU 0,zU 0,zU 0] 187)=W2):=e2
 rw [e2] at hn2 hk2 hbw hs2
 have HN2:Hid (W2.heap[w§+1]? = (zC #[zU 0,zU 0,zU 0] 187)):=hn2
 have HN1:Hid (W2.heap[w§]? = (zC (zX h a ks c) 38)):=hk2
 have HBW:Hid (yD w W2):=hbw
 clear hb1 hn1 hs1 hb2 hn2 hs2 hk2 hbw hf ht hs ih hl hm h3 e1 e2
 show Calls zG 63 #[.map (some B),.agg (zX h a ks c)] w _
 go_enter Tryz.func63,Tryz.ntmps63
 go_upto_region 2 with fail
 rw [E1.out,E2.out]
 try rw [HS1.out]
 have y6:W2.cell? w§¢6=some (.slice a ks.length c):=cell_of HN1.out 6
 clear E1 E2 HS1
 go_wp2_with fail
 go_loopw [7,8,9,10,18] (fun t7 t8 t9 t10 t wr=>∃ (i:Nat) (ts:List Int),i≤ks.length∧ts.length=i∧t=zI i∧yD w wr∧Hid (wr.heap[w§]? = (zC (zX h a ks c) 38)∧wr.heap[w§+1]? = (zC #[zU (ts.getD 0 0),zU (ts.getD 1 0),zU (ts.getD 2 0)] 187))∧Hid (tysR L ks=joinT ts (tysR L (ks.drop i)))) (fun t7 t8 t9 t10 t _=>ks.length - (intOf t).toNat)
 case atStart=>exact⟨0,[],by omega,rfl,rfl,HBW.out,⟨HN1.out,HN2.out⟩,by show _=_; rw [List.drop_zero]; cases tysR L ks <;> rfl⟩
 case round =>
  obtain⟨i,ts,hi,hts,rfl,hbr,HR2,HR⟩:=hrel
  have HBR:Hid (yD w wr):=hbr
  clear hbr
  by_cases hlt:i < ks.length
  ·have hlt':(i:Int) < (ks.length:Int):=by omega
   have hmx:(i:Int)+1≤9223372036854775807:=by have:=H3.out; omega
   obtain⟨b,o,e,hat⟩:=(HL.out.on HBR.out).kid i hlt
   have e2:a=some b¢o:=e
   clear e
   subst e2
   have HMEM:Hid (ks[i] ∈ ks):=List.getElem_mem hlt
   have HD:Hid (tysR L ks=joinT ts (tysR L (ks[i] :: ks.drop (i+1)))):=by show _=_; rw [HR.out,List.drop_eq_getElem_cons hlt]
   obtain⟨k,ek⟩:∃ k,ks[i]=k:=⟨_,rfl⟩
   have hat2:NdAt wr b (o+i * 8) k:=by rw [← ek]; exact hat
   clear hat HR
   rw [ek] at HD HMEM
   obtain⟨y0,y1,y2,y3,y4,y5,y6,y7⟩:=hat2
   have hbx:yD w (wr.alloc (.cells (zV k) 38)):=below2 HBR.out (below_new _ _)
   have cI:Calls zG 63 #[.map (some B),.agg (zV k)] (wr.alloc (.cells (zV k) 38)) (OutT (wr.alloc (.cells (zV k) 38)) (tyR L k)):=HI.out k HMEM.out _ (HM.out.1.on hbx) (HM.out.2.on hbx) ((HL.out.sub k HMEM.out).on hbx) (HO.out.2 k HMEM.out)
   clear hbx ek
   have HX:Hid (∀ w5,Below (wr.alloc (.cells (zV k) 38))§ (wr.alloc (.cells (zV k) 38)) w5→yD wr w5):=fun w5 h5=>below2 (below_new _ _) h5
   cases eT:tyR L k with
   | error q =>
    obtain⟨p,no⟩:=q
    have HER:Hid (tyR L (.mk h (some b¢o) c ks)=.error (p,no)):=by show _=_; rw [tyR,HD.out,joinT_err eT]
    have cI2:Calls zG 63 #[.map (some B),.agg (zV k)] (wr.alloc (.cells (zV k) 38)) fun e w'=>∃ b5,e=.returned (.tuple #[zU 0,.iface 184 (zP b5)])∧(wr.alloc (.cells (zV k) 38))§≤b5∧FlAt w' b5 Zl p no∧Below (wr.alloc (.cells (zV k) 38))§ (wr.alloc (.cells (zV k) 38)) w':=by
     refine cI.mono ?_
     rintro e v (⟨t,h1,_⟩ | ⟨p',no',b5,h1,h2,h3,h4,h5⟩)
     ·rw [eT] at h1; cases h1
     ·rw [eT] at h1; cases h1; exact⟨b5,h2,h3,h4,h5⟩
    clear cI eT HD
    go_wp2_with fail
    refine cI2.mono ?_
    rintro e w5 ⟨b5,rfl,hle,hfl,hb5⟩
    have HB5:Hid (yD wr w5):=HX.out _ hb5
    have HF5:Hid (FlAt w5 b5 Zl p no∧w§≤b5):=⟨hfl,by have h1:=HBR.out.size; have h2:=(below_new wr (.cells (zV k) 38)).size; omega⟩
    clear cI2 hb5 hfl hle y0 y1 y2 y3 y4 y5 y6 y7
    go_wp2_with fail
    go_ret2
    exact .inr ⟨p,no,b5,HER.out,rfl,HF5.out.2,HF5.out.1,below2 HBR.out HB5.out⟩
   | ok t =>
    have HD2:Hid (tysR L ks=joinT (ts ++ [t]) (tysR L (ks.drop (i+1)))):=by show _=_; rw [HD.out,joinT_ok eT]
    have cI2:Calls zG 63 #[.map (some B),.agg (zV k)] (wr.alloc (.cells (zV k) 38)) fun e w'=>e=.returned (.tuple #[zU t,.nilIface])∧Below (wr.alloc (.cells (zV k) 38))§ (wr.alloc (.cells (zV k) 38)) w':=by
     refine cI.mono ?_
     rintro e v (⟨t',h1,h2,h3⟩ | ⟨p',no',b5,h1,_⟩)
     ·rw [eT] at h1; cases h1; exact⟨h2,h3⟩
     ·rw [eT] at h1; cases h1
    clear cI eT HD
    go_wp2_with fail
    refine cI2.mono ?_
    rintro e w5 ⟨rfl,hb5⟩
    have hB5:=HX.out _ hb5
    have HB5:Hid (yD w w5):=below2 HBR.out hB5
    have HN5:Hid (w5.heap[w§]? = (zC (zX h (some b¢o) ks c) 38)):=(hB5.block _ (zJ HR2.out.1).1).trans HR2.out.1
    have HA5:Hid (w5.heap[w§+1]? = (zC #[zU (ts.getD 0 0),zU (ts.getD 1 0),zU (ts.getD 2 0)] 187)):=(hB5.block _ (zJ HR2.out.2).1).trans HR2.out.2
    clear cI2 hb5 hB5 HX y0 y1 y2 y3 y4 y5 y6 y7 HR2
    have hi3:i=0∨i=1∨i=2:=by have:=H3.out; omega
    rcases hi3 with rfl | rfl | rfl
    ·obtain rfl:ts = []:=List.eq_nil_of_length_eq_zero hts
     have ha:w5.heap[w§+1]? = (zC #[zU 0,zU 0,zU 0] 187):=HA5.out
     have za:w5.cell? ⟨w§+1,0,none⟩=some (zU 0):=cell_of ha 0
     have zf:w5.frozen? ⟨w§+1,0,none⟩=false:=frozen_of ha 0
     have HA6:Hid ((w5.setCell ⟨w§+1,0,none⟩ (zU t)).heap[w§+1]? = (zC #[zU t,zU 0,zU 0] 187)):=heap_set _ ha
     have HN6:Hid ((w5.setCell ⟨w§+1,0,none⟩ (zU t)).heap[w§]? = (zC (zX h (some b¢o) ks c) 38)):=(Below.heap_setCell _ _ _ _ (by simp)).trans HN5.out
     have HB6:Hid (yD w (w5.setCell ⟨w§+1,0,none⟩ (zU t))):=HB5.out.setCell (by simp) _
     clear ha HA5
     go_wp2_with fail
     exact⟨⟨0+1,[t],hlt,rfl,rfl,HB6.out,⟨HN6.out,HA6.out⟩,HD2.out⟩,by simp only [intOf]; omega⟩
    ·obtain⟨u0,rfl⟩:=List.length_eq_one_iff.1 hts
     have ha:w5.heap[w§+1]? = (zC #[zU u0,zU 0,zU 0] 187):=HA5.out
     have za:w5.cell? ⟨w§+1,1,none⟩=some (zU 0):=cell_of ha 1
     have zf:w5.frozen? ⟨w§+1,1,none⟩=false:=frozen_of ha 1
     have HA6:Hid ((w5.setCell ⟨w§+1,1,none⟩ (zU t)).heap[w§+1]? = (zC #[zU u0,zU t,zU 0] 187)):=heap_set _ ha
     have HN6:Hid ((w5.setCell ⟨w§+1,1,none⟩ (zU t)).heap[w§]? = (zC (zX h (some b¢o) ks c) 38)):=(Below.heap_setCell _ _ _ _ (by simp)).trans HN5.out
     have HB6:Hid (yD w (w5.setCell ⟨w§+1,1,none⟩ (zU t))):=HB5.out.setCell (by simp) _
     clear ha HA5
     go_wp2_with fail
     exact⟨⟨1+1,[u0,t],hlt,rfl,rfl,HB6.out,⟨HN6.out,HA6.out⟩,HD2.out⟩,by simp only [intOf]; omega⟩
    ·obtain⟨u0,u1,rfl⟩:∃ u0 u1,ts = [u0,u1]:=by match ts,hts with | [x,y],_=>exact⟨x,y,rfl⟩
     have ha:w5.heap[w§+1]? = (zC #[zU u0,zU u1,zU 0] 187):=HA5.out
     have za:w5.cell? ⟨w§+1,2,none⟩=some (zU 0):=cell_of ha 2
     have zf:w5.frozen? ⟨w§+1,2,none⟩=false:=frozen_of ha 2
     have HA6:Hid ((w5.setCell ⟨w§+1,2,none⟩ (zU t)).heap[w§+1]? = (zC #[zU u0,zU u1,zU t] 187)):=heap_set _ ha
     have HN6:Hid ((w5.setCell ⟨w§+1,2,none⟩ (zU t)).heap[w§]? = (zC (zX h (some b¢o) ks c) 38)):=(Below.heap_setCell _ _ _ _ (by simp)).trans HN5.out
     have HB6:Hid (yD w (w5.setCell ⟨w§+1,2,none⟩ (zU t))):=HB5.out.setCell (by simp) _
     clear ha HA5
     go_wp2_with fail
     exact⟨⟨2+1,[u0,u1,t],hlt,rfl,rfl,HB6.out,⟨HN6.out,HA6.out⟩,HD2.out⟩,by simp only [intOf]; omega⟩
  ·obtain rfl:i=ks.length:=by omega
   have hnot:¬ (ks.length:Int) < (ks.length:Int):=by omega
   have HT:Hid (tysR L ks=.ok ts):=by show _=_; rw [HR.out,List.drop_length]; simp [tysR,joinT]
   have y0:wr.cell? w§¢0=some (zU h.k):=cell_of HR2.out.1 0
   have y1:wr.cell? w§¢1=some (zU h.o):=cell_of HR2.out.1 1
   have y2:wr.cell? w§¢2=some (zU h.t):=cell_of HR2.out.1 2
   have y3:wr.cell? w§¢3=some (zI h.n):=cell_of HR2.out.1 3
   have y4:wr.cell? w§¢4=some (zU h.f):=cell_of HR2.out.1 4
   have y5:wr.cell? w§¢5=some (.string h.x):=cell_of HR2.out.1 5
   have y6:wr.cell? w§¢6=some (.slice a ks.length c):=cell_of HR2.out.1 6
   have y7:wr.cell? w§¢7=some (zI h.p):=cell_of HR2.out.1 7
   obtain⟨a0,e0⟩:∃ x,ts.getD 0 0=x:=⟨_,rfl⟩
   obtain⟨a1,e1⟩:∃ x,ts.getD 1 0=x:=⟨_,rfl⟩
   obtain⟨a2,e2⟩:∃ x,ts.getD 2 0=x:=⟨_,rfl⟩
   have z0:wr.cell? ⟨w§+1,0,none⟩=some (zU a0):=by rw [← e0]; exact cell_of HR2.out.2 0
   have z1:wr.cell? ⟨w§+1,1,none⟩=some (zU a1):=by rw [← e1]; exact cell_of HR2.out.2 1
   have z2:wr.cell? ⟨w§+1,2,none⟩=some (zU a2):=by rw [← e2]; exact cell_of HR2.out.2 2
   have HN:Hid (wr.heap[w§]? = (zC (zX h a ks c) 38)):=HR2.out.1
   have HTY:Hid (tyR L (.mk h a c ks)=tyH L h ks.length a0 a1 a2):=by show _=_; rw [tyR_ok HT.out,e0,e1,e2]
   clear HR HR2 e0 e1 e2 hts
   cases hk:(h.k == 2) with
   | true =>
    obtain⟨n,D,hown,hL⟩:=HM.out.1.on HBR.out
    have hx:h.x.size≤maxLen:=by have:=HL.out.rg.x1; unfold maxLen; simp only [Nd.h] at this; omega
    have hkey:=WideMaps.keyOf_string_mk (P:=Tryz.prog) Tryz.underlying9 hx
    obtain⟨hh,hv⟩:=hL h.x hx
    cases eL:L h.x with
    | some t =>
     have HE:Hid (tyR L (.mk h a c ks)=.ok t):=by show _=_; rw [HTY.out]; exact tyH_some hk eL
     rw [eL] at hh hv
     simp only [Option.isSome_some,Option.getD_some] at hh hv
     have HV:Hid (D.atKey (.string h.x.data.toList) (.lit (.int .u8 0))=.lit (.int .u8 t)):=hv
     clear hL hv eL
     go_wp2_with (at_lookup; refine wpList_lookup_own_ok_int _ rfl _ _ 139 rfl 9 34 .u8 law9 Tryz.underlying139 Tryz.underlying34 (zero34 _) B n D rfl hown _ _ rfl hkey ?_; intro cc hat hwc)
     go_ret2
     obtain rfl:cc=t:=by have h1:=hat.symm.trans HV.out; cases h1; rfl
     exact .inl ⟨cc,HE.out,rfl,HBR.out⟩
    | none =>
     have HE:Hid (tyR L (.mk h a c ks)=.error (h.p,151)):=by show _=_; rw [HTY.out]; exact tyH_none hk eL
     rw [eL] at hh
     simp only [Option.isSome_none] at hh
     clear hL hv eL
     go_wp2_with (at_lookup; refine wpList_lookup_own_ok_int _ rfl _ _ 139 rfl 9 34 .u8 law9 Tryz.underlying139 Tryz.underlying34 (zero34 _) B n D rfl hown _ _ rfl hkey ?_; intro cc hat hwc)
     refine (untyped_any _ _ _).mono ?_
     rintro e w7 ⟨rfl,hf7,hb7⟩
     have HB7:Hid (yD w w7∧FlAt w7 wr§ Zl h.p 151∧w§≤wr§):=⟨below2 HBR.out hb7,hf7,HBR.out.size⟩
     clear hb7 hf7 hown
     go_wp2_with fail
     go_ret2
     exact .inr ⟨h.p,151,wr§,HE.out,rfl,HB7.out.2.2,HB7.out.2.1,HB7.out.1⟩
   | false =>
    have cF:=fit_any h.k h.o h.t h.n h.f h.x h.p a c ks a0 a1 a2 wr HO.out.1 (HM.out.2.on HBR.out)
    obtain⟨⟨u,v⟩,eu⟩:∃ q,fitT h ks.length a0 a1 a2=q:=⟨_,rfl⟩
    have cF2:Calls zG 101 #[.agg (zX h a ks c),.agg #[zU a0,zU a1,zU a2]] wr fun e w'=>e=.returned (.tuple #[zU u,.bool v])∧yD wr w':=by
     refine cF.mono ?_
     rintro e w' ⟨rfl,hb⟩
     exact⟨by rw [show fitT ⟨h.k,h.o,h.t,h.n,h.f,h.x,h.p⟩ ks.length a0 a1 a2=(u,v) from eu]; rfl,hb⟩
    clear cF
    cases v with
    | true =>
     have HE:Hid (tyR L (.mk h a c ks)=.ok u):=by show _=_; rw [HTY.out]; exact tyH_fit hk eu
     clear eu
     go_wp2_with fail
     refine cF2.mono ?_
     rintro e w6 ⟨rfl,hb6⟩
     have HB6:Hid (yD w w6):=below2 HBR.out hb6
     clear cF2 hb6 y0 y1 y2 y3 y4 y5 y6 y7 z0 z1 z2
     go_wp2_with fail
     go_ret2
     exact .inl ⟨u,HE.out,rfl,HB6.out⟩
    | false =>
     have HE:Hid (tyR L (.mk h a c ks)=.error (h.p,152)):=by show _=_; rw [HTY.out]; exact tyH_no hk eu
     clear eu
     go_wp2_with fail
     refine cF2.mono ?_
     rintro e w6 ⟨rfl,hb6⟩
     have HB6:Hid (yD w w6):=below2 HBR.out hb6
     have p7:w6.cell? w§¢7=some (zI h.p):=cell_of ((hb6.block _ (zJ HN.out).1).trans HN.out) 7
     clear cF2 hb6 y0 y1 y2 y3 y4 y5 y6 y7 z0 z1 z2
     go_wp2_with fail
     refine (untyped_any _ _ _).mono ?_
     rintro e w7 ⟨rfl,hf7,hb7⟩
     have HB7:Hid (yD w w7∧FlAt w7 w6§ Zl h.p 152∧w§≤w6§):=⟨below2 HB6.out hb7,hf7,HB6.out.size⟩
     clear hb7 hf7 p7
     go_wp2_with fail
     go_ret2
     exact .inr ⟨h.p,152,w6§,HE.out,rfl,HB7.out.2.2,HB7.out.2.1,HB7.out.1⟩
def regL (l:List RegM) (x:yB):Option Int:=(l.find? (fun r=>decide (r.x=x))).map (·.t)
theorem regL_snoc (l:List RegM) (r:RegM) (x:yB):regL (l ++ [r]) x=match regL l x with
  | some t=>some t
  | none=>if r.x=x then some r.t else none:=by
 unfold regL
 rw [List.find?_append]
 cases l.find? (fun r=>decide (r.x=x)) with
 | some y=>rfl
 | none =>
  by_cases h:r.x=x
  ·simp [List.find?,h]
  ·simp [List.find?,h]
def RgN (w:yW) (b n:Nat) (L:yB→Option Int):Prop :=
 ∃ (D:DataW Unit),w.ownsMap Tryz.prog 9 (plainElem Tryz.prog 34) b n D∧∀ x:yB,x.size≤maxLen →
  Maps.has D (.string x.data.toList)=(L x).isSome∧D.atKey (.string x.data.toList) (.lit (.int .u8 0))=.lit (.int .u8 ((L x).getD 0))
theorem RgN.m {w:yW}{b n:Nat}{L:yB→Option Int}(h:RgN w b n L):RgM w b L:=let ⟨D,h1,h2⟩:=h; ⟨n,D,h1,h2⟩
theorem RgN.on {w w':yW}{b n:Nat}{L:yB→Option Int}(h:RgN w b n L) (k:yD w w'):RgN w' b n L:=by
 obtain⟨D,ho,hL⟩:=h
 have hlt:=ho.lt
 obtain⟨es,clock,hb,F,hs,hD⟩:=ho
 exact⟨D,⟨es,clock,(k.block b hlt).trans hb,F,hs,hD⟩,hL⟩
theorem RgN.made (w:yW):RgN (w.alloc (.map #[] 0)) w§ 0 (regL []):=⟨_,World.ownsMap_made w _ _ _,fun x _=>⟨rfl,rfl⟩⟩
theorem RgN.same {w:yW}{b n:Nat}{l:List RegM}{r:RegM}(h:RgN w b n (regL l)) (hs:(regL l r.x).isSome=true):RgN w b (n+1) (regL (l ++ [r])):=by
 have e:regL (l ++ [r])=regL l:=by
  funext x
  rw [regL_snoc]
  cases hx:regL l x with
  | some t=>rfl
  | none =>
   by_cases h1:r.x=x
   ·rw [h1,hx] at hs; cases hs
   ·simp [h1]
 obtain⟨D,ho,hL⟩:=h
 rw [e]
 exact⟨D,ho.mono (Nat.le_succ _),hL⟩
theorem key_ne {x y:yB}(h:¬ x=y):Lit.string y.data.toList≠Lit.string x.data.toList:=by
 intro e
 apply h
 have e1:y.data.toList=x.data.toList:=by injection e
 have e2:y.data=x.data:=Array.toList_inj.1 e1
 cases x; cases y; simp only at e2; rw [e2]
theorem RgN.put {w w':yW}{b n:Nat}{l:List RegM}{r:RegM}{D:DataW Unit}(ho:w.ownsMap Tryz.prog 9 (plainElem Tryz.prog 34) b n D)
  (hL:∀ x:yB,x.size≤maxLen→Maps.has D (.string x.data.toList)=(regL l x).isSome∧D.atKey (.string x.data.toList) (.lit (.int .u8 0))=.lit (.int .u8 ((regL l x).getD 0)))
  (hs:regL l r.x=none) (h:w'.ownsMap Tryz.prog 9 (plainElem Tryz.prog 34) b (n+1) (D.put (.string r.x.data.toList) (.lit (.int .u8 r.t)))):RgN w' b (n+1) (regL (l ++ [r])):=by
 have hD:IsMap D:=by obtain⟨es,clock,_,_,_,e⟩:=ho; exact⟨_,e⟩
 refine⟨_,h,fun x hx=>?_⟩
 obtain⟨h1,h2⟩:=hL x hx
 rw [regL_snoc]
 by_cases hr:r.x=x
 ·subst hr
  rw [hs]
  refine⟨?_,?_⟩
  ·rw [has_put_same hD (by trivial)]; simp
  ·rw [atKey_put_same hD (by trivial)]; simp
 ·rw [has_put_other (key_ne hr),atKey_put_other (key_ne hr),h1,h2]
  cases regL l x with
  | some t=>exact⟨rfl,rfl⟩
  | none=>simp [hr]
def inS (S:List yB) (x:yB):Bool:=S.any (fun y=>decide (y=x))
def NmN (w:yW) (b n:Nat) (S:List yB):Prop :=
 ∃ (D:DataW Unit),w.ownsMap Tryz.prog 9 (unitElem (H:=Unit)) b n D∧∀ x:yB,x.size≤maxLen→Maps.has D (.string x.data.toList)=inS S x
theorem NmN.on {w w':yW}{b n:Nat}{S:List yB}(h:NmN w b n S) (k:yD w w'):NmN w' b n S:=by
 obtain⟨D,ho,hL⟩:=h
 have hlt:=ho.lt
 obtain⟨es,clock,hb,F,hs,hD⟩:=ho
 exact⟨D,⟨es,clock,(k.block b hlt).trans hb,F,hs,hD⟩,hL⟩
theorem NmN.made (w:yW):NmN (w.alloc (.map #[] 0)) w§ 0 []:=⟨_,World.ownsMap_made w _ _ _,fun x _=>rfl⟩
theorem NmN.put {w w':yW}{b n:Nat}{S:List yB}{x:yB}{D:DataW Unit}{d:DataW Unit}(ho:w.ownsMap Tryz.prog 9 (unitElem (H:=Unit)) b n D)
  (hL:∀ y:yB,y.size≤maxLen→Maps.has D (.string y.data.toList)=inS S y)
  (h:w'.ownsMap Tryz.prog 9 (unitElem (H:=Unit)) b (n+1) (D.put (.string x.data.toList) d)):NmN w' b (n+1) (S ++ [x]):=by
 have hD:IsMap D:=by obtain⟨es,clock,_,_,_,e⟩:=ho; exact⟨_,e⟩
 refine⟨_,h,fun y hy=>?_⟩
 by_cases hr:x=y
 ·subst hr
  rw [has_put_same hD (by trivial)]; simp [inS]
 ·rw [has_put_other (key_ne hr),hL y hy]
  simp [inS,hr]
theorem zero306 (w:yW):(zeroValue 245).run Tryz.prog w=.ok (.agg #[]) w:=by kernel_rfl
theorem has_any {w:yW}{b n:Nat}{S:List yB}{x:yB}(hm:NmN w b n S) (hx:x.size≤maxLen):Calls zG 181 #[.map (some b),.string x] w fun e w'=>e=.returned (.bool (inS S x))∧yD w w':=by
 obtain⟨D,hown,hL⟩:=hm
 have hkey:=WideMaps.keyOf_string_mk (P:=Tryz.prog) Tryz.underlying9 hx
 have hh:=hL x hx
 have HH:Hid (Maps.has D (.string x.data.toList)=inS S x):=hh
 clear hL hh
 go_enter Tryz.func181,Tryz.ntmps181
 go_wp2_with (at_lookup; refine wpList_lookup_own_unit _ rfl _ _ 170 rfl 9 245 law9 Tryz.underlying170 (zero306 _) b n D rfl hown _ _ rfl hkey ?_)
 go_ret
 exact⟨by rw [HH.out]; rfl,below_new _ _⟩
theorem add_any {w:yW}{b n:Nat}{S:List yB}{x:yB}(p:Int) (hm:NmN w b n S) (hx:x.size≤maxLen) (hn:n < maxLen):Calls zG 147 #[.map (some b),.string x,zI p] w fun e w' =>
  (inS S x=true∧∃ c,e=.returned (.iface 184 (zP c))∧w§≤c∧FlAt w' c Z6 p 150∧yD w w') ∨
  (inS S x=false∧e=.returned .nilIface∧NmN w' b (n+1) (S ++ [x])∧Mv w w' (fun k=>k=b)):=by
 have HM:Hid (NmN w b n S):=hm
 have cH:=has_any hm hx
 have hkey:=WideMaps.keyOf_string_mk (P:=Tryz.prog) Tryz.underlying9 hx
 cases eB:inS S x with
 | true =>
  rw [eB] at cH
  clear hm hkey hn
  go_enter Tryz.func147,Tryz.ntmps147
  go_wp2_with fail
  refine cH.mono ?_
  rintro e w1 ⟨rfl,hb⟩
  have HB:Hid (yD w w1):=hb
  clear cH hb
  go_wp2_with fail
  refine (wrong_any _ _ _).mono ?_
  rintro e w2 ⟨rfl,hf,hb⟩
  have HB2:Hid (FlAt w2 w1§ Z6 p 150∧yD w w2∧w§≤w1§):=⟨hf,below2 HB.out hb,HB.out.size⟩
  clear hf hb
  go_wp2_with fail
  go_ret
  exact .inl ⟨by trivial,_,rfl,HB2.out.2.2,HB2.out.1,HB2.out.2.1⟩
 | false =>
  rw [eB] at cH
  clear hm
  go_enter Tryz.func147,Tryz.ntmps147
  go_wp2_with fail
  refine cH.mono ?_
  rintro e w1 ⟨rfl,hb⟩
  have HB:Hid (yD w w1):=hb
  obtain⟨D,hown,hL⟩:=HM.out.on hb
  have HP:Hid (∀ (w2:yW) (d:DataW Unit),w2.ownsMap Tryz.prog 9 (unitElem (H:=Unit)) b (n+1) (D.put (.string x.data.toList) d)→NmN w2 b (n+1) (S ++ [x])):=fun w2 d h2=>NmN.put hown hL h2
  clear cH hb hL
  go_wp2_with (at_mapUpdate; refine wpList_mapUpdate_own _ rfl _ _ _ 170 rfl 9 245 law9 Tryz.underlying170 _ b n D rfl hown hn _ _ _ rfl rfl hkey _ [] unitElem_mk ?_; intro w2 hown2 hgrow2)
  go_ret
  exact .inr ⟨by trivial,rfl,HP.out _ _ hown2,(Mv.ofBelow HB.out).grown hgrow2 (fun k hk=>by cases hk; exact .inl rfl)⟩
def tyV:Except (Int × Int) Int→Int
 | .ok t=>t
 | .error _=>0
def OutR (w:yW) (b n:Nat) (l:List RegM) (r:RegM) (e:Ending) (w':yW):Prop :=
 (∃ c no,e=.returned (.iface 184 (zP c))∧w§≤c∧FlAt w' c Z6 r.p no∧yD w w' ∧
  (((regL l r.x).isSome=true∧no=150)∨(regL l r.x=none∧tyV (tyR (regL l) r.m)≠r.t∧no=152))) ∨
 (e=.returned .nilIface∧regL l r.x=none∧tyV (tyR (regL l) r.m)=r.t∧RgN w' b (n+1) (regL (l ++ [r]))∧Mv w w' (fun k=>k=b))
theorem addReg_any (b b2 b3 n:Nat) (l:List RegM) (r:RegM) (w:yW) (hm:RgN w b n (regL l)) (ht:FTab w) (hl:RegL w r) (ho:OkT r.m) (hn:n < maxLen) :
  Calls zG 146 #[.agg #[.map (some b),.map (some b2),.map (some b3)],.agg r.vals] w (OutR w b n l r):=by
 have hb1:=below_new w (.cells #[.map (some b),.map (some b2),.map (some b3)] 172)
 have hn1:=heap_new w (.cells #[.map (some b),.map (some b2),.map (some b3)] 172)
 have hs1:=size_alloc w (.cells #[.map (some b),.map (some b2),.map (some b3)] 172)
 obtain⟨W1,e1⟩:∃ W,w.alloc (.cells #[.map (some b),.map (some b2),.map (some b3)] 172)=W:=⟨_,rfl⟩
 have E1:Hid (w.alloc (.cells #[.map (some b),.map (some b2),.map (some b3)] 172)=W1):=e1
 rw [e1] at hb1 hn1 hs1
 have hb2:=below_new W1 (.cells #[.string r.x,zU r.t,zU r.m.h.k,zU r.m.h.o,zU r.m.h.t,zI r.m.h.n,zU r.m.h.f,.string r.m.h.x,.slice r.m.a r.m.ks.length r.m.c,zI r.m.h.p,zI r.p] 102)
 have hn2:=heap_new W1 (.cells #[.string r.x,zU r.t,zU r.m.h.k,zU r.m.h.o,zU r.m.h.t,zI r.m.h.n,zU r.m.h.f,.string r.m.h.x,.slice r.m.a r.m.ks.length r.m.c,zI r.m.h.p,zI r.p] 102)
 have hk2:=(hb2.block _ (zJ hn1).1).trans hn1
 have hbw:=below2 hb1 hb2
 rw [hs1] at hn2
 have HS1:Hid (W1§=w§+1):=hs1
 obtain⟨W2,e2⟩:∃ W,W1.alloc (.cells #[.string r.x,zU r.t,zU r.m.h.k,zU r.m.h.o,zU r.m.h.t,zI r.m.h.n,zU r.m.h.f,.string r.m.h.x,.slice r.m.a r.m.ks.length r.m.c,zI r.m.h.p,zI r.p] 102)=W:=⟨_,rfl⟩
 have E2:Hid (W1.alloc (.cells #[.string r.x,zU r.t,zU r.m.h.k,zU r.m.h.o,zU r.m.h.t,zI r.m.h.n,zU r.m.h.f,.string r.m.h.x,.slice r.m.a r.m.ks.length r.m.c,zI r.m.h.p,zI r.p] 102)=W2):=e2
 rw [e2] at hn2 hk2 hbw
 have HB:Hid (yD w W2):=hbw
 have HK:Hid (W2.heap[w§]? = (zC #[.map (some b),.map (some b2),.map (some b3)] 172)):=hk2
 have HN:Hid (W2.heap[w§+1]? = (zC #[.string r.x,zU r.t,zU r.m.h.k,zU r.m.h.o,zU r.m.h.t,zI r.m.h.n,zU r.m.h.f,.string r.m.h.x,.slice r.m.a r.m.ks.length r.m.c,zI r.m.h.p,zI r.p] 102)):=hn2
 have hx:r.x.size≤maxLen:=by have h1:=hl.2.2.2; unfold SzX at h1; unfold maxLen; omega
 have hwf:(Lit.int .u8 r.t).wf=true:=by have h1:=hl.2.1; unfold B8 at h1; rw [show (Lit.int .u8 r.t).wf=(decide ((0:Int)≤r.t) && decide (r.t≤255)) from rfl,decide_eq_true h1.1,decide_eq_true h1.2]; rfl
 have hkey:=WideMaps.keyOf_string_mk (P:=Tryz.prog) Tryz.underlying9 hx
 obtain⟨D,hown,hL⟩:=hm.on hbw
 have hh:=(hL r.x hx).1
 have HMW:Hid (RgN W2 b n (regL l)):=hm.on hbw
 have cT:Calls zG 63 #[.map (some b),.agg #[zU r.m.h.k,zU r.m.h.o,zU r.m.h.t,zI r.m.h.n,zU r.m.h.f,.string r.m.h.x,.slice r.m.a r.m.ks.length r.m.c,zI r.m.h.p]] W2 (OutT W2 (tyR (regL l) r.m)):=typ_any b (regL l) r.m W2 (hm.on hbw).m (ht.on hbw) (hl.1.on hbw) ho
 have k0:W2.cell? w§¢0=some (.map (some b)):=cell_of hk2 0
 have c0:W2.cell? ⟨w§+1,0,none⟩=some (.string r.x):=cell_of hn2 0
 have c1:W2.cell? ⟨w§+1,1,none⟩=some (zU r.t):=cell_of hn2 1
 have c2:W2.cell? ⟨w§+1,2,none⟩=some (zU r.m.h.k):=cell_of hn2 2
 have c3:W2.cell? ⟨w§+1,3,none⟩=some (zU r.m.h.o):=cell_of hn2 3
 have c4:W2.cell? ⟨w§+1,4,none⟩=some (zU r.m.h.t):=cell_of hn2 4
 have c5:W2.cell? ⟨w§+1,5,none⟩=some (zI r.m.h.n):=cell_of hn2 5
 have c6:W2.cell? ⟨w§+1,6,none⟩=some (zU r.m.h.f):=cell_of hn2 6
 have c7:W2.cell? ⟨w§+1,7,none⟩=some (.string r.m.h.x):=cell_of hn2 7
 have c8:W2.cell? ⟨w§+1,8,none⟩=some (.slice r.m.a r.m.ks.length r.m.c):=cell_of hn2 8
 have c9:W2.cell? ⟨w§+1,9,none⟩=some (zI r.m.h.p):=cell_of hn2 9
 have c10:W2.cell? ⟨w§+1,10,none⟩=some (zI r.p):=cell_of hn2 10
 clear hb1 hn1 hs1 hb2 hk2 hn2 hbw ho hl ht hm e1 e2
 show Calls zG 146 #[.agg #[.map (some b),.map (some b2),.map (some b3)],.agg #[.string r.x,zU r.t,zU r.m.h.k,zU r.m.h.o,zU r.m.h.t,zI r.m.h.n,zU r.m.h.f,.string r.m.h.x,.slice r.m.a r.m.ks.length r.m.c,zI r.m.h.p,zI r.p]] w _
 cases eL:regL l r.x with
 | some t =>
  have HE:Hid ((regL l r.x).isSome=true):=by show _=_; rw [eL]; rfl
  rw [eL] at hh
  simp only [Option.isSome_some] at hh
  clear hL eL cT
  go_enter Tryz.func146,Tryz.ntmps146
  go_upto_region 1 with fail
  rw [E1.out,E2.out]
  try rw [HS1.out]
  go_wp2_with (at_lookup; refine wpList_lookup_own_ok_int _ rfl _ _ 139 rfl 9 34 .u8 law9 Tryz.underlying139 Tryz.underlying34 (zero34 _) b n D rfl hown _ _ rfl hkey ?_; intro cc hat hwc)
  refine (wrong_any _ _ _).mono ?_
  rintro e w7 ⟨rfl,hf7,hb7⟩
  have HB7:Hid (FlAt w7 W2§ Z6 r.p 150∧yD w w7∧w§≤W2§):=⟨hf7,below2 HB.out hb7,HB.out.size⟩
  clear hf7 hb7
  go_wp2_with fail
  go_ret
  exact .inl ⟨_,150,rfl,HB7.out.2.2,HB7.out.1,HB7.out.2.1,.inl ⟨HE.out,rfl⟩⟩
 | none =>
  have HE:Hid (regL l r.x=none):=eL
  rw [eL] at hh
  simp only [Option.isSome_none] at hh
  obtain⟨T,eT⟩:∃ T,tyV (tyR (regL l) r.m)=T:=⟨_,rfl⟩
  have cT2:Calls zG 63 #[.map (some b),.agg #[zU r.m.h.k,zU r.m.h.o,zU r.m.h.t,zI r.m.h.n,zU r.m.h.f,.string r.m.h.x,.slice r.m.a r.m.ks.length r.m.c,zI r.m.h.p]] W2 fun e w'=>(∃ y,e=.returned (.tuple #[zU T,y]))∧yD W2 w':=by
   refine cT.mono ?_
   rintro e v (⟨t',h1,h2,h3⟩ | ⟨p',no',b5,h1,h2,h3,h4,h5⟩)
   ·rw [h1] at eT; cases eT; exact⟨⟨_,h2⟩,h3⟩
   ·rw [h1] at eT; cases eT; exact⟨⟨_,h2⟩,h5⟩
  have HT:Hid (tyV (tyR (regL l) r.m)=T):=eT
  clear cT eT eL hL
  go_enter Tryz.func146,Tryz.ntmps146
  go_upto_region 1 with fail
  rw [E1.out,E2.out]
  try rw [HS1.out]
  go_wp2_with (at_lookup; refine wpList_lookup_own_ok_int _ rfl _ _ 139 rfl 9 34 .u8 law9 Tryz.underlying139 Tryz.underlying34 (zero34 _) b n D rfl hown _ _ rfl hkey ?_; intro cc hat hwc)
  refine cT2.mono ?_
  rintro e w5 ⟨⟨y,rfl⟩,hb5⟩
  have HB5:Hid (yD w w5):=below2 HB.out hb5
  have hk5:=(hb5.block _ (zJ HK.out).1).trans HK.out
  have hn5:=(hb5.block _ (zJ HN.out).1).trans HN.out
  have HM5:Hid (RgN w5 b n (regL l)):=HMW.out.on hb5
  clear c0 c1 c2 c3 c4 c5 c6 c7 c8 c9 c10 k0 hown hh
  have k0:w5.cell? w§¢0=some (.map (some b)):=cell_of hk5 0
  have c0:w5.cell? ⟨w§+1,0,none⟩=some (.string r.x):=cell_of hn5 0
  have c1:w5.cell? ⟨w§+1,1,none⟩=some (zU r.t):=cell_of hn5 1
  have c10:w5.cell? ⟨w§+1,10,none⟩=some (zI r.p):=cell_of hn5 10
  clear hk5 hn5 hb5 cT2 hat hwc
  by_cases hT:T=r.t
  ·have hT2:(T == r.t)=true:=by simpa using hT
   have HTT:Hid (tyV (tyR (regL l) r.m)=r.t):=by show _=_; rw [HT.out]; exact hT
   obtain⟨D5,hown5,hL5⟩:=HM5.out
   have HP:Hid (∀ w1:yW,w1.ownsMap Tryz.prog 9 (plainElem Tryz.prog 34) b (n+1) (D5.put (.string r.x.data.toList) (.lit (.int .u8 r.t)))→RgN w1 b (n+1) (regL (l ++ [r]))):=fun w1 h1=>RgN.put hown5 hL5 HE.out h1
   clear hL5 hT
   go_wp2_with (at_mapUpdate; refine wpList_mapUpdate_own _ rfl _ _ _ 139 rfl 9 34 law9 Tryz.underlying139 _ b n D5 rfl hown5 hn _ _ _ rfl rfl hkey _ [] (plainElem_int Tryz.underlying34 hwf) ?_; intro w1 hown1 hgrow1)
   go_ret
   exact .inr ⟨rfl,HE.out,HTT.out,HP.out w1 hown1,(Mv.ofBelow HB5.out).grown hgrow1 (fun k hk=>by cases hk; exact .inl rfl)⟩
  ·have hT2:(T == r.t)=false:=by simpa using hT
   have HTT:Hid (tyV (tyR (regL l) r.m)≠r.t):=by show _≠_; rw [HT.out]; exact hT
   clear hT
   go_wp2_with fail
   refine (wrong_any _ _ _).mono ?_
   rintro e w7 ⟨rfl,hf7,hb7⟩
   have HB7:Hid (FlAt w7 w5§ Z6 r.p 152∧yD w w7∧w§≤w5§):=⟨hf7,below2 HB5.out hb7,HB5.out.size⟩
   clear hf7 hb7
   go_wp2_with fail
   go_ret
   exact .inl ⟨_,152,rfl,HB7.out.2.2,HB7.out.1,HB7.out.2.1,.inr ⟨HE.out,HTT.out,rfl⟩⟩
end Go.Proofs.YtfbjofnaghjmeaaGreatDoor
