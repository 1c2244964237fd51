import Derived.Test.YtoogodlnnijikaaGreatDoorA0
import Derived.Test.YtoogodlnnijikaaGreatDoorA42
import Derived.Test.YtoogodlnnijikaaGreatDoorA41
namespace Go.Proofs.YtoogodlnnijikaaGreatDoor
set_option maxHeartbeats 8000000
set_option maxRecDepth 100000
open Go.RowKit
set_option linter.unusedVariables false
set_option linter.unusedSimpArgs false
def StratZ9 (S:Qm):Prop:=S.rs.length≤900000000∧(∀ r ∈ S.rs,size r.m≤900000000)∧S.ss.length≤900000000∧S.ts.length≤900000000∧∀ s ∈ S.ts,StateZ9 s
theorem RA.sl3 {W w:yW}{e:TypeId}{n:Nat}{v:Value}{L:List (Array Value)}(h:RA W w e n v L):∃ a k c,v=.slice a k c:=let ⟨a,c,e,_⟩:=h.row.form; ⟨a,_,c,e⟩
theorem size27s:(Tryz.prog.info? 27).map (·.size)=some 4:=by kernel_rfl
theorem size62s:(Tryz.prog.info? 62).map (·.size)=some 11:=by kernel_rfl
theorem one11 (y:RegM):∀ u ∈ y.vals.toList,u.oneCell'=true:=by
 intro u hu
 have h:=all11 y
 rw [← Array.all_toList] at h
 exact List.all_eq_true.1 h u hu
theorem one3 (y:Qj):∀ u ∈ y.vals.toList,u.oneCell'=true:=by
 intro u hu
 simp [Qj.vals] at hu
 rcases hu with rfl | rfl | rfl <;> rfl
theorem one2 (y:Qw):∀ u ∈ y.vals.toList,u.oneCell'=true:=by
 intro u hu
 simp [Qw.vals] at hu
 rcases hu with rfl | rfl <;> rfl
theorem infSt:(Tryz.prog.info? 68).map (fun i=>(i.zero,i.size,i.bytes))=some (some (.agg zk),3,48):=by kernel_rfl
abbrev Z4:Array Value:=ze
abbrev Z11:Array Value:=zc
theorem bx_new (w:yW) (S:Qm):BxC w S (.slice none 0 0) (.slice none 0 0) (.slice none 0 0) ((((w.alloc (.cells S.vals 27)).alloc (.cells Z4 27)).alloc (.cells Z4 27)).setRow (w§+2) #[.string S.x,.slice none 0 0,.slice none 0 0,.slice none 0 0]):=by
 have s1:=Qf w (.cells S.vals 27)
 have s2:=Qf (w.alloc (.cells S.vals 27)) (.cells Z4 27)
 have s3:=Qf ((w.alloc (.cells S.vals 27)).alloc (.cells Z4 27)) (.cells Z4 27)
 have k:=Qe (Ql w (.cells S.vals 27) (.cells Z4 27)) (Qc ((w.alloc (.cells S.vals 27)).alloc (.cells Z4 27)) (.cells Z4 27))
 have n0:=Qd w (.cells S.vals 27)
 have n1:=Qd (w.alloc (.cells S.vals 27)) (.cells Z4 27)
 have n2:=Qd ((w.alloc (.cells S.vals 27)).alloc (.cells Z4 27)) (.cells Z4 27)
 refine⟨Qo k (by omega) _,by rw [sz_row]; omega,?_,?_,?_⟩
 ·rw [QM _ _ _ (by omega)]
  exact QI (QI n0 (by omega)) (by omega)
 ·rw [QM _ _ _ (by omega),← s1]
  exact QI n1 (by omega)
 ·rw [show w§+2=((w.alloc (.cells S.vals 27)).alloc (.cells Z4 27))§ by omega]
  exact setRow_heap _ _ _ _ _ _ n2
theorem copyStrat_any (S:Qm) (w:yW) (hl:QD w S) (hz:StratZ9 S):Calls zG 21 #[.agg S.vals] w fun e w'=>∃ R T v1 v2 v3,e=.returned (.agg #[.string S.x,v1,v2,v3])∧(∃ h1 h2,CpF w S R T v1 v2 v3 h1 h2 w')∧yD w w':=by
 have HL:Hid (QD w S∧StratZ9 S):=⟨hl,hz⟩
 have hbx:=bx_new w S
 obtain⟨W0,eW⟩:∃ W,(((w.alloc (.cells S.vals 27)).alloc (.cells Z4 27)).alloc (.cells Z4 27)).setRow (w§+2) #[.string S.x,.slice none 0 0,.slice none 0 0,.slice none 0 0]=W:=⟨_,rfl⟩
 rw [eW] at hbx
 have HB0:Hid (BxC w S (.slice none 0 0) (.slice none 0 0) (.slice none 0 0) W0):=hbx
 have HEW:Hid ((((w.alloc (.cells S.vals 27)).alloc (.cells Z4 27)).alloc (.cells Z4 27)).setRow (w§+2) #[.string S.x,.slice none 0 0,.slice none 0 0,.slice none 0 0]=W0):=eW
 have HN2:Hid ((((w.alloc (.cells S.vals 27)).alloc (.cells Z4 27)).alloc (.cells Z4 27)).heap[w§+2]? = (zC Z4 27)):=by
  show _=_
  have n2:=Qd ((w.alloc (.cells S.vals 27)).alloc (.cells Z4 27)) (.cells Z4 27)
  rw [Qf,Qf] at n2
  exact n2
 clear hl hz hbx eW
 show Calls zG 21 #[.agg #[.string S.x,.slice S.ra S.rs.length S.rc,.slice S.sa S.ss.length S.sc,.slice S.ta S.ts.length S.tc]] w _
 go_enter Tryz.func21,Tryz.ntmps21
 go_upto_region 2 with (refine wpList_store_row rfl 27 (.tmp 3) (.tmp 9) rfl (w§+2) #[.string S.x,.slice none 0 0,.slice none 0 0,.slice none 0 0] rfl rfl 27 Z4 HN2.out size27s rfl (by simp [Value.oneCell']) ?_)
 have HEW':=HEW.out
 unfold Qm.vals Z4 at HEW'
 rw [HEW']
 clear HEW HEW' HN2
 go_wp2_with fail
 go_loopw [4] (fun t wr=>∃ (i:Nat) (L:List RegM) (v:Value) (W:yW),i≤S.rs.length∧t=zI i∧Hid (BxC w S v (.slice none 0 0) (.slice none 0 0) W∧Cpl RegM.vals RegL RegB bReg 62 11 W wr v S.rs L i)) (fun t _=>S.rs.length - (intOf t).toNat)
 case atStart=>exact⟨0,[],_,W0,by omega,rfl,HB0.out,Cpl.nil _ _ _ _ _ _ (Below.refl _ _) S.rs⟩
 case round =>
  obtain⟨i,L,v,W,hi,rfl,HT⟩:=hrel
  have HBR:Hid (yD W wr):=HT.out.2.r.B
  have HX:Hid (BxC w S v (.slice none 0 0) (.slice none 0 0) wr):=HT.out.1.on HBR.out
  have HLR:Hid (QD wr S):=HL.out.1.on HX.out.b
  have q1:wr.cell? w§¢1=some (.slice S.ra S.rs.length S.rc):=Qa HX.out.s 1
  by_cases hlt:i < S.rs.length
  ·have hlt':(i:Int) < (S.rs.length:Int):=by omega
   have hmx:(i:Int)+1≤9223372036854775807:=by have:=HL.out.2.1; omega
   obtain⟨b,o,ea,hat⟩:=HLR.out.1.2.2 i (by rw [List.length_map]; exact hlt)
   simp only [List.getElem_map] at hat
   have HMEM:Hid (S.rs[i] ∈ S.rs):=List.getElem_mem hlt
   obtain⟨d,ed⟩:∃ d,S.rs[i]=d:=⟨_,rfl⟩
   have HED:Hid (S.rs[i]=d):=ed
   rw [ed] at hat HMEM
   have HRG:Hid (wr.rangeAt b (o+i * 11) d.vals.toList):=fun j v hv=>by
    have hj:j < 11:=(List.getElem?_eq_some_iff.1 hv).1
    rw [hat j hj,← hv]; simp
   have HZ:Hid ((wr.alloc (.cells Z11 62)).heap[wr§]? = (zC Z11 62)):=Qd _ _
   have HBX:Hid (yD wr ((wr.alloc (.cells Z11 62)).setRow wr§ d.vals)):=Qo (Qc _ _) (Nat.le_refl _) _
   have HNX:Hid (((wr.alloc (.cells Z11 62)).setRow wr§ d.vals).heap[wr§]? = (zC d.vals 62)):=setRow_heap _ _ _ _ _ _ HZ.out
   have HSX:Hid (((wr.alloc (.cells Z11 62)).setRow wr§ d.vals)§=wr§+1):=by show _=_; rw [sz_row,Qf]
   rw [ea] at q1
   clear hat ed ea
   go_upto_region 6 with (first | (refine wpList_load_mid rfl 62 (.tmp 20) rfl b (o+i * 11) rfl d.vals.toList _ HRG.out Tryz.underlying62 rfl (by show _=some 11; exact size62s) ?_; rw [Array.toArray_toList]) | (refine wpList_store_row rfl 62 (.tmp 5) (.tmp 21) rfl wr§ d.vals rfl rfl 62 Z11 HZ.out size62s rfl (all11 d) ?_))
   have HBX':=HBX.out
   have HNX':=HNX.out
   have HSX':=HSX.out
   unfold Z11 at HBX' HNX' HSX'
   generalize hWX:World.setRow _ _ _=WX
   rw [hWX] at HBX' HNX' HSX'
   clear hWX HZ HRG q1 HBX HNX HSX
   have HBX:Hid (yD wr WX):=HBX'
   have HNX:Hid (WX.heap[wr§]? = (zC d.vals 62)):=HNX'
   have HSX:Hid (WX§=wr§+1):=HSX'
   clear HBX' HNX' HSX'
   have HDL:Hid (RegL WX d):=(HLR.out.2.1 d HMEM.out).on HBX.out
   have c0:=KI d.m WX HDL.out.1 (HL.out.2.2.1 d HMEM.out)
   go_upto_region 7 with (first | (refine wpList_load_mid rfl 48 _ rfl wr§ 2 rfl d.m.vals.toList _ (Qy HNX.out 2 d.m (reg_m d)) Tryz.underlying48 rfl (Qx d.m) ?_; rw [QJ]) | (go_at_call 49; refine c0.mono ?_; rintro e u0 ⟨m0,rfl,hl0,ht0,hs0,ho0,hb0⟩) | (refine wpList_store_mid rfl 48 _ _ rfl wr§ 2 m0.vals rfl rfl (there_of ((hb0.block _ (zJ HNX.out).1).trans HNX.out) 2 8 (by show 2+8≤11; omega)) QN (all8 m0) ?_))
   have H1:Hid (yD wr (u0.setCells wr§ 2 m0.vals.toList)∧(u0.setCells wr§ 2 m0.vals.toList).heap[wr§]? = (zC (RegM.mk d.x d.t m0 d.p).vals 62)∧RegL (u0.setCells wr§ 2 m0.vals.toList) ⟨d.x,d.t,m0,d.p⟩∧RegB (fun b=>wr§≤b∧b < (u0.setCells wr§ 2 m0.vals.toList)§) ⟨d.x,d.t,m0,d.p⟩∧bReg ⟨d.x,d.t,m0,d.p⟩=bReg d) :=
    ⟨JU (Qe HBX.out hb0) (Nat.le_refl _) 2 m0,(Kr ((hb0.block _ (zJ HNX.out).1).trans HNX.out) 2 m0).trans (congrArg (fun c=>some (Obj.cells c 62 (0,0))) (rgM_eq d.x d.t d.p d.m m0)),⟨Lies.bk (P:=fun b=>WX§≤b) (fun b _ hb=>J2 u0 2 (by have:=HSX.out; omega) m0) hl0 (hs0.bk.mono fun b hb=>hb.1),HDL.out.2⟩,hs0.bk.mono (fun b hb=>⟨by have:=HSX.out; omega,by rw [sz_cells8]; exact hb.2⟩),by simp only [bReg,J1 ht0]⟩
   clear hl0 ht0 hs0 ho0 hb0 c0
   generalize World.setCells _ _ _ _=V at H1 ⊢
   generalize RegM.mk d.x d.t m0 d.p=r' at H1
   have HR1:Hid (RA W V 62 11 v (L.map RegM.vals)):=(HT.out.2.call kndReg H1.out.1).r
   have HLn:Hid ((L.map RegM.vals).length≤1000000000):=by have h1:=HL.out.2.1; have h2:=HT.out.2.l; show _≤_; rw [List.length_map]; omega
   have HY1:Hid (∀ u ∈ r'.vals.toList,u.oneCell'=true):=one11 r'
   have y3:V.cell? ⟨w§+1+1,1,none⟩=some v:=Qa (HX.out.on H1.out.1).x 1
   go_wp2_with (first | (refine wpList_load_row rfl 62 (.tmp 5) rfl wr§ rfl 62 r'.vals (0,0) _ H1.out.2.1 Tryz.underlying62 rfl size62s ?_) | (refine Q8 rfl 23 62 (.tmp 28) rfl r'.vals rfl 11 _ Tryz.underlying23 104 inf100 rfl rfl (by decide) (by decide) ?_) | (at_builtin; refine Kb rfl (.tmp 27) (.tmp 29) 23 62 11 104 _ rfl Tryz.underlying23 inf100 rfl (by decide) (by decide) (by decide) r'.vals (RegM.sz r') HY1.out HR1.out rfl rfl HLn.out ?_; intro v1 w2 hr2 hs2 hq2 hz2; obtain⟨ao1,n1,c1,rfl⟩:=hr2.sl3; have HX2:Hid (Cpl RegM.vals RegL RegB bReg 62 11 W w2 (.slice ao1 n1 c1) S.rs (L ++ [r']) (i+1)):=HT.out.2.snoc kndReg hlt H1.out.1 H1.out.2.2.1 (by rw [HED.out]; exact H1.out.2.2.2.2) H1.out.2.2.2.1 hr2 hs2 hq2 hz2; have x3:w2.cell? ⟨w§+1+1,1,none⟩=some v:=Qa (HT.out.1.on HX2.out.r.B).x 1; have f3:w2.frozen? ⟨w§+1+1,1,none⟩=false:=Qb (HT.out.1.on HX2.out.r.B).x 1; clear hr2 hs2 hq2 hz2))
   exact⟨⟨i+1,L ++ [r'],.slice ao1 n1 c1,W.setCell ⟨w§+2,1,none⟩ (.slice ao1 n1 c1),hlt,rfl,HT.out.1.set 1 (.slice ao1 n1 c1) rfl,HX2.out.set kndReg (by show w§+2 < _; have:=HT.out.1.n; omega) (.slice ao1 n1 c1)⟩,by simp only [intOf]; omega⟩
  ·obtain rfl:i=S.rs.length:=by omega
   have hnot:¬ (S.rs.length:Int) < (S.rs.length:Int):=by omega
   have y2:wr.cell? ⟨w§+1+1,2,none⟩=some (.slice none 0 0):=Qa HX.out.x 2
   have q2:wr.cell? w§¢2=some (.slice S.sa S.ss.length S.sc):=Qa HX.out.s 2
   have HSS:Hid (∀ y ∈ S.ss.map Qw.vals,y.size=2∧∀ u ∈ y.toList,u.oneCell'=true):=fun y hy=>by
    obtain⟨q,_,rfl⟩:=List.mem_map.1 hy
    exact⟨rfl,one2 q⟩
   have HLS:Hid ((S.ss.map Qw.vals).length≤1000000000):=by have:=HL.out.2.2.2.1; show _≤_; rw [List.length_map]; omega
   have HLE:Hid ((S.ss.map Qw.vals).length=S.ss.length):=List.length_map _
   go_upto_region 9 with (at_builtin; refine append_all (W:=wr) rfl (.tmp 33) (.tmp 35) 24 65 2 24 _ rfl Tryz.underlying24 inf102 rfl (by decide) (by decide) (by decide) (S.ss.map Qw.vals) S.sa S.sc HLR.out.2.2.1 HSS.out S.ss.length HLE.out rfl rfl HLS.out ?_; intro v2 w2 hr2 hb2 hn2; rw [List.length_map] at hr2; obtain⟨ao2,c2,rfl,-⟩:=hr2.form; have x2:w2.cell? ⟨w§+1+1,2,none⟩=some (.slice none 0 0):=Qa (HX.out.on hb2).x 2; have f2:w2.frozen? ⟨w§+1+1,2,none⟩=false:=Qb (HX.out.on hb2).x 2)
   have HBX2:Hid (BxC w S v (.slice ao2 S.ss.length c2) (.slice none 0 0) (w2.setCell ⟨w§+2,2,none⟩ (.slice ao2 S.ss.length c2))):=(HX.out.on hb2).set 2 _ rfl
   have HCR:Hid (CpR w S L v (.slice ao2 S.ss.length c2) wr§ w2§ (w2.setCell ⟨w§+2,2,none⟩ (.slice ao2 S.ss.length c2))):=(cpr_of HT.out.1 HT.out.2 hr2 hb2 hn2).kp (fun q hq _=>Below.heap_setCell _ _ _ _ (by show q≠w§+2; omega)) (by rw [KS]; exact Nat.le_refl _)
   clear hr2 hb2 hn2 y2 q2 q1
   generalize Value.slice ao2 S.ss.length c2=v2 at HBX2 HCR ⊢
   clear x2 f2
   generalize hW2:w2.setCell ⟨w§+2,2,none⟩ v2=W2 at HBX2 HCR ⊢
   clear hW2
   generalize wr§=h1 at HCR
   generalize w2§=h2 at HCR
   clear HBR HX HLR HSS HLS HLE hi hlt hnot HT
   go_wp2_with fail
   go_loopw [6] (fun t wr=>∃ (i:Nat) (T:List Qj) (v3:Value) (W:yW),i≤S.ts.length∧t=zI i∧Hid (BxC w S v v2 v3 W∧CpR w S L v v2 h1 h2 W∧Cpl Qj.vals QP JR Q1 68 3 W wr v3 S.ts T i)) (fun t _=>S.ts.length - (intOf t).toNat)
   case atStart=>exact⟨0,[],_,W2,by omega,rfl,HBX2.out,HCR.out,Cpl.nil _ _ _ _ _ _ (Below.refl _ _) S.ts⟩
   case round =>
    obtain⟨i,T,v3,W,hi,rfl,HT⟩:=hrel
    have HBR:Hid (yD W wr):=HT.out.2.2.r.B
    have HX:Hid (BxC w S v v2 v3 wr):=HT.out.1.on HBR.out
    have HLR:Hid (QD wr S):=HL.out.1.on HX.out.b
    have q1:wr.cell? w§¢3=some (.slice S.ta S.ts.length S.tc):=Qa HX.out.s 3
    by_cases hlt:i < S.ts.length
    ·have hlt':(i:Int) < (S.ts.length:Int):=by omega
     have hmx:(i:Int)+1≤9223372036854775807:=by have:=HL.out.2.2.2.2.1; omega
     obtain⟨b,o,ea,hat⟩:=HL.out.1.2.2.2.2.1.2.2 i (by rw [List.length_map]; exact hlt)
     simp only [List.getElem_map] at hat
     have HMEM:Hid (S.ts[i] ∈ S.ts):=List.getElem_mem hlt
     obtain⟨d,ed⟩:∃ d,S.ts[i]=d:=⟨_,rfl⟩
     rw [ed] at hat HMEM
     obtain⟨dx,da,dc,drs,dp⟩:=d
     have HED:Hid (S.ts[i]=⟨dx,da,dc,drs,dp⟩):=ed
     have HRG:Hid (w.rangeAt b (o+i * 3) (Qj.mk dx da dc drs dp).vals.toList):=fun j v hv=>by
      have hj:j < 3:=(List.getElem?_eq_some_iff.1 hv).1
      rw [hat j hj,← hv]; simp
     have HQ3:Hid (S.vals[3]? = some (.slice (some b¢o) S.ts.length S.tc)):=by show _=_; rw [← ea]; rfl
     clear hat ed ea
     have cS:=copyState_any ⟨dx,da,dc,drs,dp⟩ wr.drew ((HLR.out.2.2.2.2.2.1 _ HMEM.out).on ⟨rfl,rfl,rfl,Nat.le_refl _,fun _ _=>rfl⟩) (HL.out.2.2.2.2.2 _ HMEM.out)
     have HSW:Hid (wr.heap[w§]? = (zC S.vals 27)∧wr.heap[w§+1+1]? = (zC #[.string S.x,v,v2,v3] 27)∧wr.rangeAt b (o+i * 3) (Qj.mk dx da dc drs dp).vals.toList):=⟨HX.out.s,HX.out.x,rng_on HRG.out HX.out.b⟩
     go_upto_region 12 with fail
     clear q1
     refine (?_:∀ Q',Hid (Q'=_)→Code.wp _ _ Q' _ _) _ rfl
     intro Q' HQ'
     have HPn:Hid (∀ p (d:Nat) v a w,Q' (.panic p) (Act.put a (some d) v) w→Q' (.panic p) a w):=by rw [HQ'.out]; exact fun _ _ _ _ _ h=>h
     refine wp_region_T (t:=11) (S:=fun u=>u.heap[w§]? = (zC S.vals 27)∧u.heap[w§+1+1]? = (zC #[.string S.x,v,v2,v3] 27)∧u.rangeAt b (o+i * 3) (Qj.mk dx da dc drs dp).vals.toList) zK HSW.out (fun hHeld=>?_)
     refine Qz (i:=0) (v:=?_) rfl zK zK zK zK (fun c a w h=>HPn.out c _ _ a w h) (Or.inl ⟨by rfl,?_⟩) (by assumption) ?_
     rotate_left
     ·(intro v hv; go_simp; try (with_reducible rfl))
     try simp [Act.put]
     refine Qz (i:=1) (v:=?_) rfl zK zK zK zK (fun c a w h=>HPn.out c _ _ a w h) (Or.inl ⟨by rfl,?_⟩) (by assumption) ?_
     rotate_left
     ·(intro v hv; have t3:v.cell? ⟨w§+1+1,3,none⟩=some v3:=Qa hv.2.1 3; clear hv; go_simp; try (with_reducible rfl))
     try simp [Act.put]
     refine Qz (i:=2) (v:=?_) rfl zK zK zK zK (fun c a w h=>HPn.out c _ _ a w h) (Or.inl ⟨by rfl,?_⟩) (by assumption) ?_
     rotate_left
     ·(intro v hv; go_simp; try (with_reducible rfl))
     try simp [Act.put]
     refine Qz (i:=3) (v:=?_) rfl zK zK zK zK (fun c a w h=>HPn.out c _ _ a w h) (Or.inl ⟨by rfl,?_⟩) (by assumption) ?_
     rotate_left
     ·(intro v hv; have t3:v.cell? w§¢3=some (.slice (some b¢o) S.ts.length S.tc):=(Qa hv.1 3).trans HQ3.out; clear hv; go_simp; try (with_reducible rfl))
     try simp [Act.put]
     refine Qz (i:=4) (v:=?_) rfl zK zK zK zK (fun c a w h=>HPn.out c _ _ a w h) (Or.inl ⟨by rfl,?_⟩) (by assumption) ?_
     rotate_left
     ·(intro v hv; go_simp; try (with_reducible rfl))
     try simp [Act.put]
     refine Qz (i:=5) (v:=?_) rfl zK zK zK zK (fun c a w h=>HPn.out c _ _ a w h) (Or.inl ⟨by rfl,?_⟩) (by assumption) ?_
     rotate_left
     ·(intro v hv; go_simp; try (with_reducible rfl))
     try simp [Act.put]
     refine Qz (i:=6) (v:=?_) rfl zK zK zK zK (fun c a w h=>HPn.out c _ _ a w h) (Or.inl ⟨by rfl,?_⟩) (by assumption) ?_
     rotate_left
     ·(intro v hv; have t0:v.cell? ⟨b,o+i * 3,none⟩=some (.string dx):=hv.2.2 0 _ rfl; have t1:v.cell? ⟨b,o+i * 3+1,none⟩=some (.slice da drs.length dc):=hv.2.2 1 _ rfl; have t2:v.cell? ⟨b,o+i * 3+2,none⟩=some (zI dp):=hv.2.2 2 _ rfl; clear hv; go_simp; try (with_reducible rfl))
     try simp [Act.put]
     have HSS:Hid (∀ u,BxC w S v v2 v3 u→(u.heap[w§]? = (zC S.vals 27)∧u.heap[w§+1+1]? = (zC #[.string S.x,v,v2,v3] 27)∧u.rangeAt b (o+i * 3) (Qj.mk dx da dc drs dp).vals.toList)):=fun u h=>⟨h.s,h.x,rng_on HRG.out h.b⟩
     refine JJ (i:=7) zK rfl (fun K hK=>?_)
     go_simp
     refine cS.mono ?_
     rintro e w1 ⟨s',rfl,hm1,hm2,hb1,hm3⟩
     have HB1:Hid (yD wr w1):=⟨hb1.os,hb1.tape,hb1.output,hb1.size,hb1.block⟩
     obtain⟨sx,sa,sc,srs,sp⟩:=s'
     have HM1:Hid (QP w1 ⟨sx,sa,sc,srs,sp⟩∧Q1 ⟨sx,sa,sc,srs,sp⟩=Q1 ⟨dx,da,dc,drs,dp⟩∧JR (fun b=>wr§≤b∧b < w1§) ⟨sx,sa,sc,srs,sp⟩):=⟨hm1,hm2,hm3⟩
     refine hK.out _ _ (fun _=>HSS.out w1 (HX.out.on HB1.out)) ?_
     clear hK K hm1 hm2 hm3 hb1 cS
     try simp [Act.put]
     unfold Qj.vals
     refine JJ (i:=8) zK rfl (fun K hK=>?_)
     go_simp
     refine hK.out _ _ (fun _=>HSS.out _ (HX.out.on (Qe HB1.out (Qc _ _)))) ?_
     clear hK K
     try simp [Act.put]
     refine JJ (i:=9) zK rfl (fun K hK=>?_)
     have HRR:Hid (RA W w1 68 3 v3 (T.map Qj.vals)):=(HT.out.2.2.call Kx HB1.out).r
     have HLT:Hid ((T.map Qj.vals).length≤1000000000):=by have h1:=HL.out.2.2.2.2.1; have h2:=HT.out.2.2.l; show _≤_; rw [List.length_map]; omega
     refine step_arr rfl (.tmp 46) (.tmp 53) 25 68 3 48 _ rfl Tryz.underlying25 infSt rfl (by decide) (by decide) (by decide) (Qj.mk sx sa sc srs sp).vals rfl (one3 _) HRR.out rfl rfl HLT.out ?_
     intro v1 w2 hr2 hs2 hq2 hz2
     obtain⟨ao3,n3,c3,rfl⟩:=hr2.sl3
     have HX2:Hid (Cpl Qj.vals QP JR Q1 68 3 W w2 (.slice ao3 n3 c3) S.ts (T ++ [⟨sx,sa,sc,srs,sp⟩]) (i+1)):=HT.out.2.2.snoc Kx hlt HB1.out HM1.out.1 (by rw [HED.out]; exact HM1.out.2.1) HM1.out.2.2 hr2 hs2 hq2 hz2
     clear hr2 hs2 hq2 hz2
     have HBB:Hid (BxC w S v v2 v3 w2):=HT.out.1.on HX2.out.r.B
     refine hK.out _ _ (fun _=>HSS.out _ HBB.out) ?_
     clear hK K
     have hHeld2:=HSS.out _ HBB.out
     try simp [Act.put]
     refine Qz (i:=10) (v:=?_) rfl zK zK zK zK (fun c a w h=>HPn.out c _ _ a w h) (Or.inl ⟨by rfl,?_⟩) hHeld2 ?_
     rotate_left
     ·(intro v hv; go_simp; try (with_reducible rfl))
     try simp [Act.put]
     clear hHeld2
     refine JJ (i:=11) zK rfl (fun K hK=>?_)
     have x3:w2.cell? ⟨w§+1+1,3,none⟩=some v3:=Qa HBB.out.x 3
     have f3:w2.frozen? ⟨w§+1+1,3,none⟩=false:=Qb HBB.out.x 3
     go_simp
     refine hK.out _ _ (fun h=>absurd rfl h) ?_
     clear hK K x3 f3
     try simp [Act.put]
     refine wpAnyT_done zK ?_ _
     rw [HQ'.out]
     clear HQ' HPn Q'
     go_wp2_with fail
     exact⟨⟨i+1,T ++ [⟨sx,sa,sc,srs,sp⟩],.slice ao3 n3 c3,W.setCell ⟨w§+2,3,none⟩ (.slice ao3 n3 c3),hlt,rfl,HT.out.1.set 3 _ rfl,HT.out.2.1.kp (fun q hq _=>Below.heap_setCell _ _ _ _ (by show q≠w§+2; omega)) (by rw [KS]; exact HT.out.2.1.c),HX2.out.set Kx (by show w§+2 < _; have:=HT.out.1.n; omega) _⟩,by simp only [intOf]; omega⟩
    ·obtain rfl:i=S.ts.length:=by omega
     have hnot:¬ (S.ts.length:Int) < (S.ts.length:Int):=by omega
     obtain⟨X,eX⟩:∃ X,(#[.string S.x,v,v2,v3]:Array Value)=X:=⟨_,rfl⟩
     have HXE:Hid ((#[.string S.x,v,v2,v3]:Array Value)=X):=eX
     have HXX:Hid (wr.heap[w§+1+1]? = (zC X 27)):=by show _=_; rw [← eX]; exact HX.out.x
     have HZ1:Hid (wr.heap[w§+1]? = (zC ze 27)):=HX.out.z
     have HSZ:Hid ((Tryz.prog.info? 27).map (·.size)=some X.size):=by show _=_; rw [← eX]; exact size27s
     have HXz:Hid ((ze:Array Value).size=X.size):=by show _=_; rw [← eX]; rfl
     have HXa:Hid (X.all (·.oneCell')=true):=by
      show _=_
      obtain⟨a1,c1,e1,-⟩:=HT.out.2.1.r.form
      obtain⟨a2,c2,e2,-⟩:=HT.out.2.1.s.form
      obtain⟨a3,n3,c3,e3⟩:=HT.out.2.2.r.sl3
      rw [← eX,e1,e2,e3]
      simp [Value.oneCell']
     have HF:Hid ((wr.setRow (w§+1) X).heap[w§+1]? = (zC X 27)∧yD w (wr.setRow (w§+1) X)∧CpF w S L T v v2 v3 h1 h2 (wr.setRow (w§+1) X)):=⟨setRow_heap _ _ _ _ _ _ HZ1.out,Qo HX.out.b (by omega) _,cpf_of HT.out.1 HT.out.2.1 HT.out.2.2 (fun b hb=>QM _ _ _ (by omega)) (sz_row _ _ _)⟩
     clear eX
     go_wp2_with (first | (refine wpList_load_row rfl 27 (.tmp 3) rfl (w§+1+1) rfl 27 X (0,0) _ HXX.out Tryz.underlying27 rfl HSZ.out ?_) | (refine wpList_store_row rfl 27 (.tmp 2) (.tmp 56) rfl (w§+1) X rfl rfl 27 ze HZ1.out HSZ.out HXz.out HXa.out ?_))
     exact bodyPost_ret (results_cell_row rfl _ _ (w§+1) 27 X (0,0) _ rfl HF.out.1 Tryz.underlying27 rfl HSZ.out) rfl ⟨L,T,v,v2,v3,by rw [HXE.out],⟨h1,h2,HF.out.2.2⟩,HF.out.2.1⟩
theorem x9_of {S:Qm}(h:StratY S):StratZ9 S:=by
 obtain⟨h1,h2,h3,h4,h5⟩:=h
 refine⟨Nat.le_trans h1 (by decide),fun r hr=>Nat.le_trans (h2 r hr) (by decide),Nat.le_trans h3 (by decide),Nat.le_trans h4 (by decide),fun s hs=>?_⟩
 obtain⟨k1,k2⟩:=h5 s hs
 refine⟨Nat.le_trans k1 (by decide),fun r hr=>?_⟩
 obtain⟨l1,l2,l3⟩:=k2 r hr
 refine⟨Nat.le_trans l1 (by decide),Nat.le_trans l2 (by decide),fun d hd=>?_⟩
 obtain⟨y1,y2,y3,y4⟩:=l3 d hd
 exact⟨⟨Nat.le_trans y1 (by decide),Nat.le_trans y2 (by decide),Nat.le_trans y3 (by decide),Nat.le_trans y4 (by decide)⟩,Nat.le_trans y1 (by decide),Nat.le_trans y2 (by decide),Nat.le_trans y3 (by decide),Nat.le_trans y4 (by decide)⟩
theorem regs_elN {w:yW}{S:Qm}{R:List RegM}{v1 v2:Value}{h1 h2:Nat}{W w3:yW}(p:CpR w S R v1 v2 h1 h2 W) (k:∀ b,b < W§→b < h1→v1.ownBlock≠some b→w3.heap[b]? = W.heap[b]?):∀ x ∈ R,RegL w3 x :=
 fun x hx=>kndReg.bk _ _ _ x (fun b hb hp=>k b hb hp.2.1 hp.2.2) (p.re x hx).1 (p.re x hx).2
theorem slots_ofN {w:yW}{S:Qm}{R:List RegM}{v1 v2:Value}{h1 h2:Nat}{W w3:yW}(p:CpR w S R v1 v2 h1 h2 W) (B:yD w w3) (k:∀ b,b < W§→h1≤b→b < h2→w3.heap[b]? = W.heap[b]?) :
  (∃ a c,v2=.slice a S.ss.length c∧SlAt w3 2 a c (S.ss.map Qw.vals)):=by
 have ha:=p.a
 have hr:RA w w3 65 2 v2 (S.ss.map Qw.vals):=⟨by rw [List.length_map]; exact p.s.of_block (fun q hq=>k q (p.s.lt q hq) (p.sn q hq).1 (p.sn q hq).2),fun q hq=>by have:=(p.sn q hq).1; omega,B,fun x hx=>by obtain⟨y,_,rfl⟩:=List.mem_map.1 hx; rfl⟩
 obtain⟨a,c,e,hs,_⟩:=hr.sl (by decide)
 rw [List.length_map] at e
 exact⟨a,c,e,hs⟩
theorem states_ofN {w:yW}{S:Qm}{R:List RegM}{T:List Qj}{v1 v2 v3:Value}{h1 h2:Nat}{W w3:yW}(f:CpF w S R T v1 v2 v3 h1 h2 W) (B:yD w w3) (k:∀ b,b < W§→h2≤b→w3.heap[b]? = W.heap[b]?) :
  (∃ a c,v3=.slice a T.length c∧SlAt w3 3 a c (T.map Qj.vals)):=by
 have ha:=f.p.a
 have hb:=f.p.b
 have hr:RA w w3 68 3 v3 (T.map Qj.vals):=⟨by rw [List.length_map]; exact f.t.of_block (fun q hq=>k q (f.t.lt q hq) (f.tn q hq)),fun q hq=>by have:=f.tn q hq; omega,B,fun x hx=>by obtain⟨y,_,rfl⟩:=List.mem_map.1 hx; rfl⟩
 obtain⟨a,c,e,hs,_⟩:=hr.sl (by decide)
 rw [List.length_map] at e
 exact⟨a,c,e,hs⟩
theorem states_elN {w:yW}{S:Qm}{R:List RegM}{T:List Qj}{v1 v2 v3:Value}{h1 h2:Nat}{W w3:yW}(f:CpF w S R T v1 v2 v3 h1 h2 W) (k:∀ b,b < W§→h2≤b→v3.ownBlock≠some b→w3.heap[b]? = W.heap[b]?):∀ x ∈ T,QP w3 x :=
 fun x hx=>Kx.bk _ _ _ x (fun b hb hp=>k b hb hp.1 hp.2) (f.te x hx).1 (f.te x hx).2
def zL (R:List RegM) (i:Nat):List RegM:=R.mapIdx fun q r=>if q < i then zR r else r
theorem zL_at (R:List RegM) (i q:Nat):(zL R i)[q]? = (R[q]?).map fun r=>if q < i then zR r else r:=by simp [zL,List.getElem?_mapIdx]
theorem zL_zero (R:List RegM):zL R 0=R:=by
 refine List.ext_getElem? fun q=>?_
 rw [zL_at]
 simp
theorem zL_all (R:List RegM):zL R R.length=R.map zR:=by
 refine List.ext_getElem? fun q=>?_
 rw [zL_at,List.getElem?_map]
 by_cases h:q < R.length
 ·simp [h]
 ·simp [h]
theorem arF_map (L:List RegM) (j:Nat):arF (L.map RegM.vals) 11 j=(((L[j / 11]?).map RegM.vals).getD #[]).getD (j % 11) undef:=by
 unfold arF
 rw [List.getD_eq_getElem?_getD,List.getElem?_map]
theorem arF_z0 {R:List RegM}{i:Nat}(hi:i < R.length):arF ((zL R i).map RegM.vals) 11 (i * 11)=.string R[i].x:=by
 rw [arF_map,show i * 11 / 11=i by omega,show i * 11 % 11=0 by omega,zL_at]
 simp only [List.getElem?_eq_getElem hi,Option.map_some,Option.getD_some,Nat.lt_irrefl,if_false]
 rfl
theorem arF_z1 {R:List RegM}{i:Nat}(hi:i < R.length) (hx:R[i].x.size < 15) (j:Nat):(if j=i * 11 then .string (Zn ++ R[i].x) else arF ((zL R i).map RegM.vals) 11 j)=arF ((zL R (i+1)).map RegM.vals) 11 j:=by
 rw [arF_map,arF_map,zL_at,zL_at]
 by_cases hq:j / 11=i
 ·simp only [hq,List.getElem?_eq_getElem hi,Option.map_some,Option.getD_some,Nat.lt_irrefl,if_false,Nat.lt_succ_self,if_true]
  rw [show zR R[i]=⟨Zn ++ R[i].x,R[i].t,R[i].m,R[i].p⟩ from if_pos hx]
  by_cases hj:j % 11=0
  ·rw [if_pos (by omega),hj]; rfl
  ·rw [if_neg (by omega)]
   obtain⟨c,hc⟩:∃ c,j % 11=c+1:=⟨j % 11 - 1,by omega⟩
   rw [hc]
   simp [RegM.vals,Array.getD]
 ·rw [if_neg (by omega)]
  have:(j / 11 < i+1)=(j / 11 < i):=propext ⟨fun h=>by omega,fun h=>by omega⟩
  simp only [this]
theorem zL_skip {R:List RegM}{i:Nat}(hi:i < R.length) (hx:¬ R[i].x.size < 15):zL R (i+1)=zL R i:=by
 refine List.ext_getElem? fun q=>?_
 rw [zL_at,zL_at]
 by_cases hq:q=i
 ·subst hq
  simp only [List.getElem?_eq_getElem hi,Option.map_some,Nat.lt_irrefl,if_false,Nat.lt_succ_self,if_true]
  rw [show zR R[q]=R[q] from if_neg hx]
 ·have:(q < i+1)=(q < i):=propext ⟨fun h=>by omega,fun h=>by omega⟩
  simp only [this]
structure Nq (w:yW) (S:Qm) (m:Nd) (R:List RegM) (T:List Qj) (v1 v2 v3:Value) (h1 h2 N:Nat) (W W4:yW) (i:Nat) (u:yW):Prop where
 b:yD w W
 f:CpF W S R T v1 v2 v3 h1 h2 W4
 b4:yD W W4
 bu:yD W u
 n:W4§≤N
 n2:w§+2≤W§
 k:∀ b,b < W4§→v1.ownBlock≠some b→u.heap[b]? = W4.heap[b]?
 r:Row u 62 11 v1 R.length (arF ((zL R i).map RegM.vals) 11)
 s:u.heap[w§]? = (zC S.vals 27)
 m:NdH u (w§+1) m
 x:u.heap[N]? = (zC #[.string S.x,v1,v2,v3] 27)
section
variable {w : yW} {S : Qm} {m : Nd} {R : List RegM} {T : List Qj} {v1 v2 v3 : Value} {h1 h2 N : Nat} {W W4 : yW} {i : Nat} {u : yW}
theorem Nq.len (h:Nq w S m R T v1 v2 v3 h1 h2 N W W4 i u):R.length=S.rs.length:=by
 have:=congrArg List.length h.f.p.rb
 rw [List.length_map,List.length_map] at this
 exact this
theorem Nq.wu (h:Nq w S m R T v1 v2 v3 h1 h2 N W W4 i u):yD w u:=Qe h.b h.bu
theorem Nq.drew (h:Nq w S m R T v1 v2 v3 h1 h2 N W W4 i u):Nq w S m R T v1 v2 v3 h1 h2 N W W4 i u.drew :=
 ⟨h.b,h.f,h.b4,h.bu.drew,h.n,h.n2,h.k,h.r.of_block (fun _ _=>rfl),h.s,h.m,h.x⟩
theorem Nq.own (h:Nq w S m R T v1 v2 v3 h1 h2 N W W4 i u) {g:Nat}(hg:v1.ownBlock=some g):g≠N∧W§≤g∧g≠w§∧g≠w§+1:=by
 have a1:=h.f.p.rn g hg
 have a2:=h.f.p.r.lt g hg
 have a3:=h.n
 have a4:=h.n2
 refine⟨by omega,by omega,by omega,by omega⟩
theorem Nq.set {g cap:Nat}(h:Nq w S m R T (.slice (some g¢0) R.length cap) v2 v3 h1 h2 N W W4 i u) (hi:i < R.length) (hx:R[i].x.size < 15):Nq w S m R T (.slice (some g¢0) R.length cap) v2 v3 h1 h2 N W W4 (i+1) (u.setCell ⟨g,i * 11,none⟩ (.string (Zn ++ R[i].x))):=by
 obtain⟨o1,o2,o3,o4⟩:=h.own (g:=g) rfl
 refine⟨h.b,h.f,h.b4,h.bu.setCell (p:=⟨g,i * 11,none⟩) o2 _,h.n,h.n2,fun b hb hn=>?_,?_,(Below.heap_setCell _ _ _ _ (Ne.symm o3)).trans h.s,(Below.heap_setCell _ _ _ _ (Ne.symm o4)).trans h.m,(Below.heap_setCell _ _ _ _ (Ne.symm o1)).trans h.x⟩
 ·refine (Below.heap_setCell _ _ _ _ ?_).trans (h.k b hb hn)
  rintro rfl
  exact hn rfl
 ·have e1:=Row.set h.r (i * 11) (.string (Zn ++ R[i].x))
  have e2:(fun j=>if j=i * 11 then Value.string (Zn ++ R[i].x) else arF ((zL R i).map RegM.vals) 11 j)=arF ((zL R (i+1)).map RegM.vals) 11:=funext fun j=>arF_z1 hi hx j
  rw [e2] at e1
  exact e1
theorem Nq.skip (h:Nq w S m R T v1 v2 v3 h1 h2 N W W4 i u) (hi:i < R.length) (hx:¬ R[i].x.size < 15):Nq w S m R T v1 v2 v3 h1 h2 N W W4 (i+1) u :=
 ⟨h.b,h.f,h.b4,h.bu,h.n,h.n2,h.k,by rw [zL_skip hi hx]; exact h.r,h.s,h.m,h.x⟩
theorem Nq.on {u':yW}(h:Nq w S m R T v1 v2 v3 h1 h2 N W W4 i u) (k:yD u u'):Nq w S m R T v1 v2 v3 h1 h2 N W W4 i u' :=
 ⟨h.b,h.f,h.b4,Qe h.bu k,h.n,h.n2,fun b hb hn=>by
  have e:=h.k b hb hn
  have hl:b < u§:=by
   have h9:b < W4§:=hb
   have:W4.heap[b]? = some W4.heap[b]:=Array.getElem?_eq_getElem h9
   rw [this] at e
   exact (zJ e).1
  exact (k.block b hl).trans e,h.r.of_block (fun q hq=>k.block q (h.r.lt q hq)),(k.block _ (zJ h.s).1).trans h.s,h.m.on k,(k.block _ (zJ h.x).1).trans h.x⟩
theorem Nq.strat (h:Nq w S m R T v1 v2 v3 h1 h2 N W W4 R.length u) (hS:QD W S):∃ S2:Qm,#[.string S.x,v1,v2,v3]=S2.vals∧QD u S2∧S2.rs=R.map zR:=by
 have hb:=h.f.p.b
 have n1:∀ b,h1≤b→v1.ownBlock≠some b:=fun b hb e=>by have:=(h.f.p.rn b e).2; omega
 have hr:=h.r
 rw [zL_all] at hr
 have hA:RA W u 62 11 v1 ((R.map zR).map RegM.vals):=⟨by rw [List.length_map,List.length_map]; exact hr,fun q hq=>by have:=(h.f.p.rn q hq).1; omega,h.bu,fun x hx=>by obtain⟨y,_,rfl⟩:=List.mem_map.1 hx; rfl⟩
 obtain⟨a1,c1,e1,s1,_⟩:=hA.sl (by decide)
 obtain⟨a2,c2,e2,s2⟩:=slots_ofN h.f.p h.bu (fun b hb h' _=>h.k b hb (n1 b h'))
 obtain⟨a3,c3,e3,s3⟩:=states_ofN h.f h.bu (fun b hb h'=>h.k b hb (n1 b (by omega)))
 have x1:=regs_elN h.f.p (fun b hb _ hn=>h.k b hb hn)
 have x3:=states_elN h.f (fun b hb h' _=>h.k b hb (n1 b (by omega)))
 rw [List.length_map] at e1
 refine⟨⟨S.x,a1,c1,R.map zR,a2,c2,S.ss,a3,c3,T⟩,by rw [e1,e2,e3]; rfl,⟨s1,fun x hx=>?_,s2,hS.2.2.2.1,s3,x3,hS.2.2.2.2.2.2⟩,rfl⟩
 obtain⟨r,hr',rfl⟩:=List.mem_map.1 hx
 have hL:=x1 r hr'
 unfold zR
 split
 ·rename_i hz
  exact⟨hL.1,hL.2.1,hL.2.2.1,by show ((Zn:yB) ++ r.x).size≤_; rw [ByteArray.size_append]; have:(Zn:yB).size=1:=rfl; omega⟩
 ·exact hL
end
end Go.Proofs.YtoogodlnnijikaaGreatDoor
