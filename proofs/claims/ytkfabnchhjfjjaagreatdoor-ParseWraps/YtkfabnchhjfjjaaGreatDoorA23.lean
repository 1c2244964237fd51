import Derived.Test.YtkfabnchhjfjjaaGreatDoorA0
import Derived.Test.YtkfabnchhjfjjaaGreatDoorA22
namespace Go.Proofs.YtkfabnchhjfjjaaGreatDoor
set_option maxRecDepth 100000
set_option maxHeartbeats 8000000
open Go.RowKit
set_option linter.unusedVariables false
theorem size106:(Tryz.prog.info? 106).map (·.size)=some 10:=by kernel_rfl
theorem inf110:(Tryz.prog.info? 110).map (fun i=>(i.zero,i.size,i.bytes))=some (some (.agg zA0),36,320):=by kernel_rfl
def dDos:Nat→St→St
 | 0,s=>if dIs Zk (dDo s)=true then dWrong 131 (dDo s) else dDo s
 | r+1,s=>if dIs Zk (dDo s)=true then dDos r (dStep (dDo s)) else dDo s
theorem dDos_no {r:Nat}{s:St}(h:dIs Zk (dDo s)=false):dDos r s=dDo s:=by
 cases r with
 | zero=>unfold dDos; rw [h]; rfl
 | succ r=>unfold dDos; rw [h]; rfl
def dRule (s:St):St:=dTake Zr (dDos 7 (dTake Z05 (dEx (dTake ZK s))))
def Cl (V:World) (N i:Nat) (v:Value):Prop:=∃ (cs:Array Value) (T:Nat),V.heap[N]? = some (.cells cs T (0,0))∧cs[i]? = some v
theorem Cl.hid {V:World}{N i:Nat}{v:Value}(h:Cl V N i v):Hid (Cl V N i v):=h
theorem Cl.blk {V V':World}{N i:Nat}{v:Value}(h:Cl V N i v) (k:V'.heap[N]? = V.heap[N]?):Cl V' N i v:=by
 obtain⟨cs,T,h1,h2⟩:=h
 exact⟨cs,T,k.trans h1,h2⟩
theorem Cl.lt {V:World}{N i:Nat}{v:Value}(h:Cl V N i v):N < V§:=by
 obtain⟨cs,T,h1,h2⟩:=h
 exact (Array.getElem?_eq_some_iff.1 h1).1
theorem Cl.cell {V:World}{N i:Nat}{v:Value}(h:Cl V N i v):V.cell? ⟨N,i,none⟩=some v:=by
 obtain⟨cs,T,h1,h2⟩:=h
 rw [Co h1 i]; exact h2
theorem Cl.set {V:World}{N i:Nat}{v:Value}(h:Cl V N i v) (j:Nat) (hi:j≠i) (x:Value):Cl (V.setCell ⟨N,j,none⟩ x) N i v:=by
 obtain⟨cs,T,h1,h2⟩:=h
 refine⟨cs.setIfInBounds j x,T,Hs0 x h1,?_⟩
 rw [Array.getElem?_setIfInBounds,if_neg hi]; exact h2
theorem Cl.mv {V V':World}{N i b:Nat}{v:Value}(h:Cl V N i v) (hm:Mv V V' (fun k=>k=b)) (hb:b≠N):Cl V' N i v:=h.blk (hm.block _ h.lt (fun e=>hb e.symm))
theorem Cl.on {V V':World}{N i:Nat}{v:Value}(h:Cl V N i v) (k:Below V§ V V'):Cl V' N i v:=h.blk (k.block _ h.lt)
theorem Shp.put {V:World}{N T n:Nat}(h:Shp V N T n) {i:Nat}(hi:i < n) (v:Value):Cl (V.setCell ⟨N,i,none⟩ v) N i v:=by
 obtain⟨cs,h1,h2,h3⟩:=h
 refine⟨cs.setIfInBounds i v,T,Hs0 v h1,?_⟩
 rw [Array.getElem?_setIfInBounds,if_pos rfl,if_pos (by omega)]
def clen (N i:Nat) (w:World):Nat:=slen ((w.cell? ⟨N,i,none⟩).getD (.bool false))
theorem Cl.clen {V:World}{N i:Nat}{a:Option Addr}{n c:Nat}(h:Cl V N i (.slice a n c)):clen N i V=n:=by
 unfold Go.Proofs.YtkfabnchhjfjjaaGreatDoor.clen
 rw [h.cell]
 rfl
theorem rule_g {w:World}{b:Nat}{K:PK}{s:St}(hK:KG K) (h:Sp w b K s):Calls zG 112 #[zP b] w (OutG 10 b K w (dRule s)):=by
 have HK:Hid (KG K):=hK
 have HG0:=(GX.new h zA4 106 10 rfl (by simp [Value.oneCell'])).hid
 clear h hK
 obtain⟨W0,eW0⟩:∃ W,w.alloc (.cells zA4 106)=W:=⟨_,rfl⟩
 rw [eW0] at HG0
 obtain⟨r0,er0⟩:∃ q,dRule s=q:=⟨_,rfl⟩
 have HR0:Hid (dRule s=r0):=er0
 rw [er0]
 clear er0
 have cT:=take_g HK.out HG0.out.S ZK (by decide +kernel) (by decide)
 obtain⟨s1,es1⟩:∃ q,dTake ZK s=q:=⟨_,rfl⟩
 have HS1:Hid (dTake ZK s=s1):=es1
 rw [es1] at cT
 clear es1
 go_enter Tryz.func112,Tryz.ntmps112
 go_wp2_with fail
 try rw [eW0]
 refine cT.mono ?_
 rintro e w1 ⟨⟨p1,rfl⟩,hs,hm⟩
 have HG1:=((HG0.out.mv hm hs).push #[zU 0,zU 0,zU 0,zI 0,zU 0,.string ⟨#[]⟩,.slice none 0 0,zI 0,.slice none 0 0,zI p1] 106 10 rfl (by simp [Value.oneCell'])).hid
 have hN:=Hn w1 (.cells #[zU 0,zU 0,zU 0,zI 0,zU 0,.string ⟨#[]⟩,.slice none 0 0,zI 0,.slice none 0 0,zI p1] 106)
 have HBN:Hid (b≠w1§):=by have h1:=HG0.out.W.1; have h2:=HG0.out.M.size; have h3:=hm.size; show _≠_; omega
 clear cT hs hm HG0 eW0
 go_upto_region 2 with fail
 obtain⟨N3,eN3⟩:∃ q,w1§=q:=⟨_,rfl⟩
 obtain⟨W1,eW1⟩:∃ W,w1.alloc (.cells #[zU 0,zU 0,zU 0,zI 0,zU 0,.string ⟨#[]⟩,.slice none 0 0,zI 0,.slice none 0 0,zI p1] 106)=W:=⟨_,rfl⟩
 rw [eW1] at HG1 hN ⊢
 rw [eN3] at HG1 hN HBN ⊢
 have HF1:Hid (Cl W1 N3 8 (.slice none 0 0)):=⟨_,_,hN,rfl⟩
 clear eW1 eN3 hN
 generalize Value.agg #[zU 0,zU 0,zU 0,zI 0,zU 0,.string ⟨#[]⟩,.slice none 0 0,zI 0,.slice none 0 0,zI p1]=D0
 have cE:=expr0_d HK.out.k W1 s1 HG1.out.S
 go_wp2_with fail
 refine cE.mono ?_
 rintro e ua ⟨⟨⟨k2,o2,ty2,n2,f2,x2,p2⟩,am2,cm2,ks2⟩,rfl,hl,hk,hs,hm,ht⟩
 simp only [Nd.vals,Nd.h,Nd.a,Nd.c,Nd.ks,hdA]
 have HGxa:=(HG1.out.mv hm hs).hid
 have HF1x:=HF1.out.mv hm HBN.out
 have HF1a:Hid (Cl ((((((((ua.setCell ⟨N3,0,none⟩ (zU k2)).setCell ⟨N3,1,none⟩ (zU o2)).setCell ⟨N3,2,none⟩ (zU ty2)).setCell ⟨N3,3,none⟩ (zI n2)).setCell ⟨N3,4,none⟩ (zU f2)).setCell ⟨N3,5,none⟩ (.string x2)).setCell ⟨N3,6,none⟩ (.slice am2 ks2.length cm2)).setCell ⟨N3,7,none⟩ (zI p2)) N3 8 (.slice none 0 0)):=((((((((HF1x.set 0 (by decide) _).set 1 (by decide) _).set 2 (by decide) _).set 3 (by decide) _).set 4 (by decide) _).set 5 (by decide) _).set 6 (by decide) _).set 7 (by decide) _)
 clear cE hl hk hs hm ht HG1 HF1x HF1
 obtain⟨av0,ac0,af0⟩:=(HGxa.out.B (N3,106,10) (by simp)).1.cell 0 (show 0 < 10 by omega)
 obtain⟨av1,ac1,af1⟩:=(HGxa.out.B (N3,106,10) (by simp)).1.cell 1 (show 1 < 10 by omega)
 obtain⟨av2,ac2,af2⟩:=(HGxa.out.B (N3,106,10) (by simp)).1.cell 2 (show 2 < 10 by omega)
 obtain⟨av3,ac3,af3⟩:=(HGxa.out.B (N3,106,10) (by simp)).1.cell 3 (show 3 < 10 by omega)
 obtain⟨av4,ac4,af4⟩:=(HGxa.out.B (N3,106,10) (by simp)).1.cell 4 (show 4 < 10 by omega)
 obtain⟨av5,ac5,af5⟩:=(HGxa.out.B (N3,106,10) (by simp)).1.cell 5 (show 5 < 10 by omega)
 obtain⟨av6,ac6,af6⟩:=(HGxa.out.B (N3,106,10) (by simp)).1.cell 6 (show 6 < 10 by omega)
 obtain⟨av7,ac7,af7⟩:=(HGxa.out.B (N3,106,10) (by simp)).1.cell 7 (show 7 < 10 by omega)
 have HGea:Hid (GX w b K ((((((((ua.setCell ⟨N3,0,none⟩ (zU k2)).setCell ⟨N3,1,none⟩ (zU o2)).setCell ⟨N3,2,none⟩ (zU ty2)).setCell ⟨N3,3,none⟩ (zI n2)).setCell ⟨N3,4,none⟩ (zU f2)).setCell ⟨N3,5,none⟩ (.string x2)).setCell ⟨N3,6,none⟩ (.slice am2 ks2.length cm2)).setCell ⟨N3,7,none⟩ (zI p2)) _ (dEx s1)):=HGxa.out.node (N:=N3) (T:=106) (n:=10) (by simp) 0 (Nd.mk ⟨k2,o2,ty2,n2,f2,x2,p2⟩ am2 cm2 ks2)
 go_upto_region 3 with fail
 obtain⟨Ya,eYa⟩:∃ Y,((((((((ua.setCell ⟨N3,0,none⟩ (zU k2)).setCell ⟨N3,1,none⟩ (zU o2)).setCell ⟨N3,2,none⟩ (zU ty2)).setCell ⟨N3,3,none⟩ (zI n2)).setCell ⟨N3,4,none⟩ (zU f2)).setCell ⟨N3,5,none⟩ (.string x2)).setCell ⟨N3,6,none⟩ (.slice am2 ks2.length cm2)).setCell ⟨N3,7,none⟩ (zI p2))=Y:=⟨_,rfl⟩
 rw [eYa] at HGea HF1a ⊢
 clear eYa ac0 af0 ac1 af1 ac2 af2 ac3 af3 ac4 af4 ac5 af5 ac6 af6 ac7 af7 HGxa
 generalize Value.agg (zN k2 o2 ty2 n2 f2 x2 am2 ks2 cm2 p2)=Dga
 have cT:=take_g HK.out HGea.out.S Z05 (by decide +kernel) (by decide)
 go_wp2_with fail
 refine cT.mono ?_
 rintro e w2 ⟨⟨p2,rfl⟩,hs,hm⟩
 have HL0:=(GL.new (HGea.out.mv hm hs) 110 36).hid
 have HC0:=(HF1a.out.mv hm HBN.out).hid
 clear cT hs hm HGea HF1a
 obtain⟨s2,es2⟩:∃ q,dTake Z05 (dEx s1)=q:=⟨_,rfl⟩
 have HS2:Hid (dTake Zr (dDos 7 s2)=r0):=by
  show _=_
  rw [← HR0.out,dRule,HS1.out,es2]
 rw [es2] at HL0
 clear es2 HR0 HS1
 obtain⟨r1,er1⟩:∃ q,dDos 7 s2=q:=⟨_,rfl⟩
 have HR1:Hid (dDos 7 s2=r1):=er1
 rw [er1] at HS2
 clear er1
 go_wp2_with fail
 go_loopw [4,5,6] (fun _ _ _ wr=>∃ a n c s',n≤7∧Hid (GL w b K wr [(N3,106,10),(w§,106,10)] s' 110 36 (.slice a n c) n)∧Hid (Cl wr N3 8 (.slice a n c))∧Hid (dDos (7 - n) s'=r1)) (fun _ _ _ wr=>7 - clen N3 8 wr)
 case atStart=>exact⟨none,0,0,s2,by omega,HL0,HC0,HR1⟩
 case round =>
  obtain⟨a,n,c,s',hn,HL,HC,HD⟩:=hrel
  have HMS:Hid (clen N3 8 wr=n):=HC.out.clen
  clear HL0 HC0 HR1
  have cD:=do_g HK.out HL.out.G.S
  obtain⟨s3,es3⟩:∃ q,dDo s'=q:=⟨_,rfl⟩
  have HS3:Hid (dDo s'=s3):=es3
  rw [es3] at cD
  clear es3
  go_wp2_with fail
  refine cD.mono ?_
  rintro e w3 ⟨cs,rfl,hcs1,hcs2,hs,hm⟩
  have HCS:Hid (cs.size=36∧cs.all (·.oneCell')=true):=⟨hcs1,hcs2⟩
  have HLp:=((HL.out.mv hm hs).push zA0 110 36 rfl (by simp [Value.oneCell'])).hid
  have HCp:=((HC.out.mv hm HBN.out).on (Bn w3 (.cells zA0 110))).hid
  have HL4:=(HLp.out.row (N:=w3§) (T:=110) (m:=36) (by simp) cs hcs1 hcs2).1.hid
  have HN4:Hid (((w3.alloc (.cells zA0 110)).setRow w3§ cs).heap[w3§]? = some (.cells cs 110 (0,0))):=(HLp.out.row (N:=w3§) (T:=110) (m:=36) (by simp) cs hcs1 hcs2).2
  have HZ:Hid ((w3.alloc (.cells zA0 110)).heap[w3§]? = some (.cells zA0 110 (0,0))):=Hn _ _
  have HC4:Hid (Cl ((w3.alloc (.cells zA0 110)).setRow w3§ cs) N3 8 (.slice a n c)):=HCp.out.blk (setRow_oth _ _ _ (by have:=(HC.out.mv hm HBN.out).lt; omega))
  clear cD hs hm HL HC HLp HCp hcs1 hcs2
  go_upto_region 5 with (refine wpList_store_row rfl 110 (.tmp 4) (.tmp 16) rfl w3§ cs rfl rfl 110 zA0 HZ.out (by rw [HCS.out.1]; exact size110) (by rw [HCS.out.1]; rfl) HCS.out.2 ?_)
  generalize hW4:World.setRow _ _ _=W4
  have HL4:Hid (GL w b K W4 ((w3§,110,36) :: [(N3,106,10),(w§,106,10)]) s3 110 36 (.slice a n c) n):=by rw [← hW4]; exact HL4.out
  have HC4:Hid (Cl W4 N3 8 (.slice a n c)):=by rw [← hW4]; exact HC4.out
  have HN4:Hid (W4.heap[w3§]? = some (.cells cs 110 (0,0))):=by rw [← hW4]; exact HN4.out
  obtain⟨N4,eN4⟩:∃ q,w3§=q:=⟨_,rfl⟩
  rw [eN4] at HL4 HN4 ⊢
  clear eN4 HZ hW4
  have k8:=HC4.out.cell
  go_upto_region 6 with (first | (refine wpList_load_row rfl 110 (.tmp 4) rfl N4 rfl 110 cs (0,0) _ HN4.out Tryz.underlying110 rfl (by rw [HCS.out.1]; exact size110) ?_) | (refine wpList_slice1 rfl 104 110 (.tmp 19) rfl cs rfl 36 _ Tryz.underlying104 320 inf110 rfl HCS.out.1 (by decide) (by decide) ?_) | (at_builtin; refine app_g HL4.out 104 cs HCS.out.1 HCS.out.2 _ 320 Tryz.underlying104 inf110 rfl (by decide) (by omega) (by decide) rfl (.tmp 18) (.tmp 20) rfl rfl rfl ?_; intro g7 cap7 w7 hl7; have HL7:=hl7.pop.hid; obtain⟨av8,ac8,af8⟩:=(HL7.out.G.B (N3,106,10) (by simp)).1.cell 8 (show 8 < 10 by omega); clear hl7))
  have HL8:=(HL7.out.set (N:=N3) (T:=106) (m:=10) (by simp) 8 (.slice (some ⟨g7,0,none⟩) (n+1) cap7) rfl).hid
  have HC8:Hid (Cl (w7.setCell ⟨N3,8,none⟩ (.slice (some ⟨g7,0,none⟩) (n+1) cap7)) N3 8 (.slice (some ⟨g7,0,none⟩) (n+1) cap7)):=(HL7.out.G.B (N3,106,10) (by simp)).1.put (show 8 < 10 by omega) _
  obtain⟨W8,eW8⟩:∃ W,w7.setCell ⟨N3,8,none⟩ (.slice (some ⟨g7,0,none⟩) (n+1) cap7)=W:=⟨_,rfl⟩
  rw [eW8] at HL8 HC8 ⊢
  clear eW8 HL7 ac8 af8 k8 HL4 HC4 HN4 HCS
  generalize Value.agg cs=D4
  have cI:=is_g HK.out HL8.out.G.S Zk (by decide +kernel) (by decide)
  obtain⟨q6,eq6⟩:∃ q,dIs Zk s3=q:=⟨_,rfl⟩
  have HQ6:Hid (dIs Zk s3=q6):=eq6
  rw [eq6] at cI
  clear eq6
  cases q6 with
  | false =>
   have HDE:Hid (r1=s3):=by
    show _=_
    rw [← HD.out,dDos_no (by rw [HS3.out]; exact HQ6.out),HS3.out]
   go_wp2_with fail
   refine cI.mono ?_
   rintro e z1 ⟨rfl,hb⟩
   have HL9:=(HL8.out.on hb).hid
   have k8:=(HC8.out.on hb).cell
   clear cI hb HL8 HC8
   have cT:=take_g HK.out HL9.out.G.S Zr (by decide +kernel) (by decide)
   clear k8
   go_wp2_with fail
   refine cT.mono ?_
   rintro e z9 ⟨⟨p9,rfl⟩,hs,hm⟩
   have HG9:Hid (GX w b K z9 [(N3,106,10),(w§,106,10)] (dTake Zr s3)):=(HL9.out.mv hm hs).G
   clear cT hs hm HL9
   obtain⟨cs,hc1,hc2,hc3⟩:=(HG9.out.B (N3,106,10) (by simp)).1
   obtain⟨old,ho1,ho2,ho3⟩:=(HG9.out.B (w§,106,10) (by simp)).1
   have HC:Hid (z9.heap[N3]? = some (.cells cs 106 (0,0))):=hc1
   have HO:Hid (z9.heap[w§]? = some (.cells old 106 (0,0))):=ho1
   have HF:Hid (GX w b K (z9.setRow w§ cs) _ (dTake Zr s3)∧(z9.setRow w§ cs).heap[w§]? = some (.cells cs 106 (0,0))):=HG9.out.row (N:=w§) (T:=106) (n:=10) (by simp) cs hc2 hc3
   have HN1:Hid (cs.size=10∧old.size=10∧cs.all (·.oneCell')=true):=⟨hc2,ho2,hc3⟩
   clear hc1 hc2 hc3 ho1 ho2 ho3
   go_wp2_with (first | (refine wpList_load_row rfl 106 (.tmp 3) rfl N3 rfl 106 cs (0,0) _ HC.out Tryz.underlying106 rfl (by rw [HN1.out.1]; exact size106) ?_) | (refine wpList_store_row rfl 106 (.tmp 2) (.tmp 43) rfl w§ cs rfl rfl 106 old HO.out (by rw [HN1.out.1]; exact size106) (by rw [HN1.out.1,HN1.out.2.1]) HN1.out.2.2 ?_))
   exact bodyPost_ret (results_cell_row rfl _ _ w§ 106 cs (0,0) _ rfl HF.out.2 Tryz.underlying106 rfl (by rw [HN1.out.1]; exact size106)) rfl ⟨cs,rfl,HN1.out.1,HN1.out.2.2,by rw [← HS2.out,HDE.out]; exact HF.out.1.S,HF.out.1.M⟩
  | true =>
   obtain⟨t6,ts6,e6,hx6⟩:=dIs_ok HQ6.out
   have HE6:Hid (s3=.ok (t6 :: ts6)):=e6
   clear e6 hx6
   have k8:=HC8.out.cell
   go_wp2_with fail
   refine cI.mono ?_
   rintro e z1 ⟨rfl,hb⟩
   have HL9:=(HL8.out.on hb).hid
   have HC9:=(HC8.out.on hb).hid
   have hlv:Lv z1 b K (t6 :: ts6):=by
    have h1:=HL9.out.G.S
    rw [HE6.out] at h1
    exact h1.2
   clear cI hb HL8 HC8 k8
   have k8:=HC9.out.cell
   by_cases h4:n+1 < 8
   ·have cM:=many_ok hlv (n+1) 8 h4 (by omega)
    have HD2:Hid (dDos (7 - (n+1)) (nf ts6)=r1):=by
     show _=_
     rw [← HD.out,show 7 - n=(7 - (n+1))+1 by omega]
     show _=if _ then _ else _
     rw [HS3.out,if_pos HQ6.out,HE6.out]
     rfl
    simp only [Int.natCast_add,Int.natCast_one] at cM
    go_wp2_with fail
    refine cM.mono ?_
    rintro e z2 ⟨rfl,e2⟩
    obtain rfl:=e2.symm
    clear cM e2
    obtain⟨i,c3,f3,hmx,hL,hM,_,_⟩:=hlv.at'
    have HL10:=(HL9.out.mv hM hL.sp).hid
    have HC10:=(HC9.out.mv hM HBN.out).hid
    clear hL hM HL9 HC9 hlv
    go_wp2_with fail
    exact⟨⟨_,n+1,_,_,by omega,HL10,HC10,HD2⟩,by rw [HMS.out,HC10.out.clen]; omega⟩
   ·obtain rfl:n=7:=by omega
    have cM:=many_no hlv 8 8 (by omega) (by omega)
    have HDE:Hid (r1=.error (.tok 131 t6.p)):=by
     show _=_
     rw [← HD.out]
     show (if _ then _ else _)=_
     rw [HS3.out,if_pos HQ6.out,HE6.out]
     rfl
    clear hlv
    go_wp2_with fail
    refine cM.mono ?_
    rintro e z2 ⟨rfl,hd,hm⟩
    have HL10:=(HL9.out.mv (s':=.error (.tok 131 t6.p)) hm hd).hid
    have k8:=(HC9.out.mv hm HBN.out).cell
    clear cM hd hm HL9 HC9
    have cT:=take_g HK.out HL10.out.G.S Zr (by decide +kernel) (by decide)
    clear k8
    go_wp2_with fail
    refine cT.mono ?_
    rintro e z9 ⟨⟨p9,rfl⟩,hs,hm⟩
    have HG9:Hid (GX w b K z9 [(N3,106,10),(w§,106,10)] (dTake Zr (.error (.tok 131 t6.p)))):=(HL10.out.mv hm hs).G
    clear cT hs hm HL10
    obtain⟨cs,hc1,hc2,hc3⟩:=(HG9.out.B (N3,106,10) (by simp)).1
    obtain⟨old,ho1,ho2,ho3⟩:=(HG9.out.B (w§,106,10) (by simp)).1
    have HC:Hid (z9.heap[N3]? = some (.cells cs 106 (0,0))):=hc1
    have HO:Hid (z9.heap[w§]? = some (.cells old 106 (0,0))):=ho1
    have HF:Hid (GX w b K (z9.setRow w§ cs) _ (dTake Zr (.error (.tok 131 t6.p)))∧(z9.setRow w§ cs).heap[w§]? = some (.cells cs 106 (0,0))):=HG9.out.row (N:=w§) (T:=106) (n:=10) (by simp) cs hc2 hc3
    have HN1:Hid (cs.size=10∧old.size=10∧cs.all (·.oneCell')=true):=⟨hc2,ho2,hc3⟩
    clear hc1 hc2 hc3 ho1 ho2 ho3
    go_wp2_with (first | (refine wpList_load_row rfl 106 (.tmp 3) rfl N3 rfl 106 cs (0,0) _ HC.out Tryz.underlying106 rfl (by rw [HN1.out.1]; exact size106) ?_) | (refine wpList_store_row rfl 106 (.tmp 2) (.tmp 43) rfl w§ cs rfl rfl 106 old HO.out (by rw [HN1.out.1]; exact size106) (by rw [HN1.out.1,HN1.out.2.1]) HN1.out.2.2 ?_))
    exact bodyPost_ret (results_cell_row rfl _ _ w§ 106 cs (0,0) _ rfl HF.out.2 Tryz.underlying106 rfl (by rw [HN1.out.1]; exact size106)) rfl ⟨cs,rfl,HN1.out.1,HN1.out.2.2,by rw [← HS2.out,HDE.out]; exact HF.out.1.S,HF.out.1.M⟩
theorem size87:(Tryz.prog.info? 87).map (·.size)=some 3:=by kernel_rfl
theorem inf106:(Tryz.prog.info? 106).map (fun i=>(i.zero,i.size,i.bytes))=some (some (.agg zA4),10,104):=by kernel_rfl
def dMany (x:ByteArray) (part:St→St):Nat→St→St
 | 0,s=>if dIs x s=true then dWrong 131 s else s
 | r+1,s=>if dIs x s=true then dMany x part r (part s) else s
theorem dMany_no {x:ByteArray}{part:St→St}{r:Nat}{s:St}(h:dIs x s=false):dMany x part r s=s:=by
 cases r with
 | zero=>unfold dMany; rw [h]; rfl
 | succ r=>unfold dMany; rw [h]; rfl
def dState (s:St):St:=dTake Z8 (dMany ZK dRule 12 (dTake Zs (dName (dTake Zd s))))
theorem state_g {w:World}{b:Nat}{K:PK}{s:St}(hK:KG K) (h:Sp w b K s):Calls zG 80 #[zP b] w (OutG 3 b K w (dState s)):=by
 have HK:Hid (KG K):=hK
 have HG0:=(GX.new h zA11 87 3 rfl (by simp [Value.oneCell'])).hid
 clear h hK
 obtain⟨W0,eW0⟩:∃ W,w.alloc (.cells zA11 87)=W:=⟨_,rfl⟩
 rw [eW0] at HG0
 obtain⟨r0,er0⟩:∃ q,dState s=q:=⟨_,rfl⟩
 have HR0:Hid (dState s=r0):=er0
 rw [er0]
 clear er0
 have cT:=take_g HK.out HG0.out.S Zd (by decide +kernel) (by decide)
 obtain⟨s1,es1⟩:∃ q,dTake Zd s=q:=⟨_,rfl⟩
 have HS1:=zH es1
 rw [es1] at cT
 clear es1
 go_enter Tryz.func80,Tryz.ntmps80
 go_wp2_with fail
 try rw [eW0]
 refine cT.mono ?_
 rintro e w1 ⟨⟨p1,rfl⟩,hs,hm⟩
 have HG1:=((HG0.out.mv hm hs).push #[.string ⟨#[]⟩,.slice none 0 0,zI p1] 87 3 rfl (by simp [Value.oneCell'])).hid
 have hN:=Hn w1 (.cells #[.string ⟨#[]⟩,.slice none 0 0,zI p1] 87)
 have HBN:Hid (b≠w1§):=by have h1:=HG0.out.W.1; have h2:=HG0.out.M.size; have h3:=hm.size; show _≠_; omega
 clear cT hs hm HG0 eW0
 go_upto_region 2 with fail
 obtain⟨N3,eN3⟩:∃ q,w1§=q:=⟨_,rfl⟩
 obtain⟨W1,eW1⟩:∃ W,w1.alloc (.cells #[.string ⟨#[]⟩,.slice none 0 0,zI p1] 87)=W:=⟨_,rfl⟩
 rw [eW1] at HG1 hN ⊢
 rw [eN3] at HG1 hN HBN ⊢
 have HF1:Hid (Cl W1 N3 1 (.slice none 0 0)):=⟨_,_,hN,rfl⟩
 clear eW1 eN3 hN
 have cN:=name_g HG1.out.S
 go_wp2_with fail
 refine cN.mono ?_
 rintro e w4 ⟨⟨x4,rfl⟩,hs,hm⟩
 have HG4:=(HG1.out.mv hm hs).hid
 obtain⟨av0,ac0,af0⟩:=(HG4.out.B (N3,87,3) (by simp)).1.cell 0 (show 0 < 3 by omega)
 have HG5:=zH (HG4.out.set (N:=N3) (T:=87) (n:=3) (by simp) 0 (.string x4) rfl)
 have HF5:Hid (Cl (w4.setCell ⟨N3,0,none⟩ (.string x4)) N3 1 (.slice none 0 0)):=(HF1.out.mv hm HBN.out).set 0 (by decide) _
 clear cN hs hm HG1 HF1
 go_upto_region 3 with fail
 obtain⟨W5,eW5⟩:∃ W,w4.setCell ⟨N3,0,none⟩ (.string x4)=W:=⟨_,rfl⟩
 rw [eW5] at HG5 HF5 ⊢
 clear eW5 ac0 af0 HG4
 have cT:=take_g HK.out HG5.out.S Zs (by decide +kernel) (by decide)
 go_wp2_with fail
 refine cT.mono ?_
 rintro e w2 ⟨⟨p2,rfl⟩,hs,hm⟩
 have HL0:=(GL.new (HG5.out.mv hm hs) 106 10).hid
 have HC0:=(HF5.out.mv hm HBN.out).hid
 clear cT hs hm HG5 HF5
 obtain⟨s2,es2⟩:∃ q,dTake Zs (dName s1)=q:=⟨_,rfl⟩
 have HS2:Hid (dTake Z8 (dMany ZK dRule 12 s2)=r0):=by
  show _=_
  rw [← HR0.out,dState,HS1.out,es2]
 rw [es2] at HL0
 clear es2 HR0 HS1
 obtain⟨r1,er1⟩:∃ q,dMany ZK dRule 12 s2=q:=⟨_,rfl⟩
 have HR1:=zH er1
 rw [er1] at HS2
 clear er1
 go_wp2_with fail
 go_loopw [4,5,6] (fun _ _ _ wr=>∃ a n c s',n≤12∧Hid (GL w b K wr [(N3,87,3),(w§,87,3)] s' 106 10 (.slice a n c) n)∧Hid (Cl wr N3 1 (.slice a n c))∧Hid (dMany ZK dRule (12 - n) s'=r1)) (fun _ _ _ wr=>12 - clen N3 1 wr)
 case atStart=>exact⟨none,0,0,s2,by omega,HL0,HC0,HR1⟩
 case round =>
  obtain⟨a,n,c,s',hn,HL,HC,HD⟩:=hrel
  have HMS:Hid (clen N3 1 wr=n):=HC.out.clen
  clear HL0 HC0 HR1
  have cI:=is_g HK.out HL.out.G.S ZK (by decide +kernel) (by decide)
  obtain⟨q6,eq6⟩:∃ q,dIs ZK s'=q:=⟨_,rfl⟩
  have HQ6:=zH eq6
  rw [eq6] at cI
  clear eq6
  cases q6 with
  | false =>
   have HDE:Hid (r1=s'):=by show _=_; rw [← HD.out,dMany_no HQ6.out]
   go_wp2_with fail
   refine cI.mono ?_
   rintro e y1 ⟨rfl,hb⟩
   have yHL:=(HL.out.on hb).hid
   have yHC:=(HC.out.on hb).hid
   clear cI hb HL HC 
   have cT:=take_g HK.out yHL.out.G.S Z8 (by decide +kernel) (by decide)
   have k8:=yHC.out.cell
   go_wp2_with fail
   refine cT.mono ?_
   rintro e z9 ⟨⟨p9,rfl⟩,hs,hm⟩
   have HG9:=zH ((yHL.out.mv hm hs).G)
   clear cT hs hm yHL yHC k8
   obtain⟨cs,hc1,hc2,hc3⟩:=(HG9.out.B (N3,87,3) (by simp)).1
   obtain⟨old,ho1,ho2,ho3⟩:=(HG9.out.B (w§,87,3) (by simp)).1
   have HC:=zH hc1
   have HO:=zH ho1
   have HF:=zH (HG9.out.row (N:=w§) (T:=87) (n:=3) (by simp) cs hc2 hc3)
   have HN1:Hid (cs.size=3∧old.size=3∧cs.all (·.oneCell')=true):=⟨hc2,ho2,hc3⟩
   clear hc1 hc2 hc3 ho1 ho2 ho3
   go_wp2_with (first | (refine wpList_load_row rfl 87 (.tmp 3) rfl N3 rfl 87 cs (0,0) _ HC.out Tryz.underlying87 rfl (by rw [HN1.out.1]; exact size87) ?_) | (refine wpList_store_row rfl 87 (.tmp 2) (.tmp 36) rfl w§ cs rfl rfl 87 old HO.out (by rw [HN1.out.1]; exact size87) (by rw [HN1.out.1,HN1.out.2.1]) HN1.out.2.2 ?_))
   exact bodyPost_ret (results_cell_row rfl _ _ w§ 87 cs (0,0) _ rfl HF.out.2 Tryz.underlying87 rfl (by rw [HN1.out.1]; exact size87)) rfl ⟨cs,rfl,HN1.out.1,HN1.out.2.2,by rw [← HS2.out,HDE.out]; exact HF.out.1.S,HF.out.1.M⟩
  | true =>
   obtain⟨t6,ts6,e6,hx6⟩:=dIs_ok HQ6.out
   have HE6:Hid (s'=.ok (t6 :: ts6)):=e6
   clear e6 hx6
   go_wp2_with fail
   refine cI.mono ?_
   rintro e y1 ⟨rfl,hb⟩
   have HL1:=(HL.out.on hb).hid
   have HC1:=(HC.out.on hb).hid
   have hlv:Lv y1 b K (t6 :: ts6):=by
    have h1:=HL1.out.G.S
    rw [HE6.out] at h1
    exact h1.2
   clear cI hb HL HC 
   have k8:=HC1.out.cell
   by_cases h4:n < 12
   ·have cM:=many_ok hlv n 12 h4 (by omega)
    have HD2:Hid (dMany ZK dRule (12 - (n+1)) (dRule s')=r1):=by
     show _=_
     rw [← HD.out,show 12 - n=(12 - (n+1))+1 by omega]
     show _=if _ then _ else _
     rw [if_pos HQ6.out]
    clear hlv
    go_wp2_with fail
    refine cM.mono ?_
    rintro e y2 ⟨rfl,e2⟩
    obtain rfl:=e2.symm
    clear cM e2 k8
    have cR:=rule_g HK.out HL1.out.G.S
    go_wp2_with fail
    refine cR.mono ?_
    rintro e w3 ⟨cs,rfl,hcs1,hcs2,hs,hm⟩
    have HCS:Hid (cs.size=10∧cs.all (·.oneCell')=true):=⟨hcs1,hcs2⟩
    have HLp:=((HL1.out.mv hm hs).push zA4 106 10 rfl (by simp [Value.oneCell'])).hid
    have hN3l:=(HC1.out.mv hm HBN.out).lt
    have HL4:=(HLp.out.row (N:=w3§) (T:=106) (m:=10) (by simp) cs hcs1 hcs2).1.hid
    have HN4:=zH ((HLp.out.row (N:=w3§) (T:=106) (m:=10) (by simp) cs hcs1 hcs2).2)
    have HZ:Hid ((w3.alloc (.cells zA4 106)).heap[w3§]? = some (.cells zA4 106 (0,0))):=Hn _ _
    have HC4:Hid (Cl ((w3.alloc (.cells zA4 106)).setRow w3§ cs) N3 1 (.slice a n c)):=((HC1.out.mv hm HBN.out).on (Bn _ _)).blk (setRow_oth _ _ _ (by omega))
    clear cR hs hm HL1 HC1  HLp hcs1 hcs2 hN3l
    go_upto_region 9 with (refine wpList_store_row rfl 106 (.tmp 6) (.tmp 27) rfl w3§ cs rfl rfl 106 zA4 HZ.out (by rw [HCS.out.1]; exact size106) (by rw [HCS.out.1]; rfl) HCS.out.2 ?_)
    generalize hW4:World.setRow _ _ _=W4
    have HL4:Hid (GL w b K W4 ((w3§,106,10) :: [(N3,87,3),(w§,87,3)]) (dRule s') 106 10 (.slice a n c) n):=by rw [← hW4]; exact HL4.out
    have HC4:Hid (Cl W4 N3 1 (.slice a n c)):=by rw [← hW4]; exact HC4.out
    have HN4:Hid (W4.heap[w3§]? = some (.cells cs 106 (0,0))):=by rw [← hW4]; exact HN4.out
    obtain⟨N4,eN4⟩:∃ q,w3§=q:=⟨_,rfl⟩
    rw [eN4] at HL4 HN4 ⊢
    clear eN4 HZ hW4
    have k8:=HC4.out.cell
    go_wp2_with (first | (refine wpList_load_row rfl 106 (.tmp 6) rfl N4 rfl 106 cs (0,0) _ HN4.out Tryz.underlying106 rfl (by rw [HCS.out.1]; exact size106) ?_) | (refine wpList_slice1 rfl 85 106 (.tmp 30) rfl cs rfl 10 _ Tryz.underlying85 104 inf106 rfl HCS.out.1 (by decide) (by decide) ?_) | (at_builtin; refine app_g HL4.out 85 cs HCS.out.1 HCS.out.2 _ 104 Tryz.underlying85 inf106 rfl (by decide) (by omega) (by decide) rfl (.tmp 29) (.tmp 31) rfl rfl rfl ?_; intro g7 cap7 w7 hl7; have HL7:=hl7.pop.hid; obtain⟨av8,ac8,af8⟩:=(HL7.out.G.B (N3,87,3) (by simp)).1.cell 1 (show 1 < 3 by omega); clear hl7))
    have HL8:=(HL7.out.set (N:=N3) (T:=87) (m:=3) (by simp) 1 (.slice (some ⟨g7,0,none⟩) (n+1) cap7) rfl).hid
    have HC8:Hid (Cl (w7.setCell ⟨N3,1,none⟩ (.slice (some ⟨g7,0,none⟩) (n+1) cap7)) N3 1 (.slice (some ⟨g7,0,none⟩) (n+1) cap7)):=(HL7.out.G.B (N3,87,3) (by simp)).1.put (show 1 < 3 by omega) _
    exact⟨⟨_,n+1,_,_,by omega,HL8,HC8,HD2⟩,by rw [HMS.out,HC8.out.clen]; omega⟩
   ·obtain rfl:n=12:=by omega
    have cM:=many_no hlv 12 12 (by omega) (by omega)
    have HDE:Hid (r1=.error (.tok 131 t6.p)):=by
     show _=_
     rw [← HD.out]
     show (if _ then _ else _)=_
     rw [if_pos HQ6.out,HE6.out]
     rfl
    clear hlv
    go_wp2_with fail
    refine cM.mono ?_
    rintro e y2 ⟨rfl,hd,hm⟩
    have yHL:=(HL1.out.mv (s':=.error (.tok 131 t6.p)) hm hd).hid
    have yHC:=(HC1.out.mv hm HBN.out).hid
    clear cM hd hm HL1 HC1  k8
    have cT:=take_g HK.out yHL.out.G.S Z8 (by decide +kernel) (by decide)
    have k8:=yHC.out.cell
    go_wp2_with fail
    refine cT.mono ?_
    rintro e z9 ⟨⟨p9,rfl⟩,hs,hm⟩
    have HG9:=zH ((yHL.out.mv hm hs).G)
    clear cT hs hm yHL yHC k8
    obtain⟨cs,hc1,hc2,hc3⟩:=(HG9.out.B (N3,87,3) (by simp)).1
    obtain⟨old,ho1,ho2,ho3⟩:=(HG9.out.B (w§,87,3) (by simp)).1
    have HC:=zH hc1
    have HO:=zH ho1
    have HF:=zH (HG9.out.row (N:=w§) (T:=87) (n:=3) (by simp) cs hc2 hc3)
    have HN1:Hid (cs.size=3∧old.size=3∧cs.all (·.oneCell')=true):=⟨hc2,ho2,hc3⟩
    clear hc1 hc2 hc3 ho1 ho2 ho3
    go_wp2_with (first | (refine wpList_load_row rfl 87 (.tmp 3) rfl N3 rfl 87 cs (0,0) _ HC.out Tryz.underlying87 rfl (by rw [HN1.out.1]; exact size87) ?_) | (refine wpList_store_row rfl 87 (.tmp 2) (.tmp 36) rfl w§ cs rfl rfl 87 old HO.out (by rw [HN1.out.1]; exact size87) (by rw [HN1.out.1,HN1.out.2.1]) HN1.out.2.2 ?_))
    exact bodyPost_ret (results_cell_row rfl _ _ w§ 87 cs (0,0) _ rfl HF.out.2 Tryz.underlying87 rfl (by rw [HN1.out.1]; exact size87)) rfl ⟨cs,rfl,HN1.out.1,HN1.out.2.2,by rw [← HS2.out,HDE.out]; exact HF.out.1.S,HF.out.1.M⟩
end Go.Proofs.YtkfabnchhjfjjaaGreatDoor
