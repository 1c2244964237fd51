import Derived.Test.YtoogodlnnijikaaGreatDoorA0
import Derived.Test.YtoogodlnnijikaaGreatDoorA40
import Derived.Deep.Upon
import Derived.Maps.AppendAt
namespace Go.Proofs.YtoogodlnnijikaaGreatDoor
set_option maxHeartbeats 8000000
set_option maxRecDepth 100000
open Go.RowKit
set_option linter.unusedVariables false
theorem step_arr {W w0:yW}{ops:Array Oper}{o:Oper}{a:Act}{K:Act→yW→Prop}{Q:Exit→Act→yW→Prop}{E:Prop}(hgd:o.guard=none) (d x:Operand) (t e:TypeId) (n:Nat) (by_:Nat) (z:Value)
  (ho:o.op=.call { callee:=.builtin .append,args:=#[d,x],argTypes:=#[t,t] }) (hu:Tryz.prog.underlying t=some (.slice e)) (hi:(Tryz.prog.info? e).map (fun i=>(i.zero,i.size,i.bytes))=some (some z,n,by_)) (hz:z.cells.size=n) (hb:0 < n) (hn1:n≤100) (hby:by_≤1000)
  (y:Array Value) (hy:y.size=n) (hy1:∀ u ∈ y.toList,u.oneCell'=true) {v:Value}{L:List (Array Value)}(hR:RA W w0 e n v L) (hs:a.eval d=v) (hx:a.eval x=.slice (some w0§¢0) 1 1) (hlen:L.length≤1000000000)
  (h:∀ v' w',RA W w' e n v' (L ++ [y])→w0§≤w'§→(∀ b,b < w0§→v.ownBlock≠some b→w'.heap[b]? = w0.heap[b]?)→(v'.ownBlock=v.ownBlock∨∃ g,v'.ownBlock=some g∧w0§ < g)→K (a.put o.dst v') w') :
  if Region.wanted o (yielded ops a.tmps)=true then Oper.wp Tryz.prog o a (w0.alloc (.cells y e)) K Q else E:=by
 obtain⟨i0,hi0,hz0,hz1,hz2⟩:=info_parts hi
 refine step_append_lies _ hgd d x t ho 0 e i0 _ n by_ hu hi0 hz0 hz1 hz2 hz hb v L.length _ hs (hR.row.alloc _) w0§¢0 1 1 y.toList hx (by rw [Array.length_toList,hy,Nat.one_mul]) (World.news_of_block (Qd w0 _)) hy1 (by decide) (by unfold maxLen; omega) (Nat.le_trans (Nat.mul_le_mul (show L.length+1≤1000000001 by omega) hby) (by decide)) (Nat.zero_le _) _ rfl ?_
 intro g cap w' h2 h3 h4 h5
 have hsz:=Qf w0 (.cells y e)
 have hB0:=hR.B.alloc hR.B.size (.cells y e)
 refine h _ w' ⟨?_,?_,hB0.grown h3 hB0.size (fun k hk=>hR.nb k hk),?_⟩ ?_ ?_ ?_
 ·have hr:=Row.snoc (x:=fun j=>y.getD j undef) h2 (by rw [Array.length_toList,hy]) (fun j hj=>by rw [Array.getElem?_toList,Array.getElem?_eq_getElem (by omega)]; simp [show j < y.size by omega])
  rw [List.length_append,List.length_singleton]
  refine hr.congr fun j hj=>?_
  by_cases hh:j < L.length * n
  ·simp only [hh,if_true]
   rw [arF_lt hb hh]
  ·simp only [hh,if_false]
   rw [arF_at hb (by omega) hj]
 ·intro k hk
  simp [Value.ownBlock] at hk
  subst hk
  rcases h4 with h4 | h4
  ·exact hR.nb _ h4
  ·have:=hR.B.size; omega
 ·intro q hq
  rcases List.mem_append.1 hq with hq | hq
  ·exact hR.sz q hq
  ·obtain rfl:=List.mem_singleton.1 hq; exact hy
 ·have:=h3.size; omega
 ·intro b hb' hne
  rw [h3.block b (by omega) (fun e=>hne e.symm)]
  exact Below.heap_alloc _ _ _ hb'
 ·rcases h4 with h4 | h4
  ·exact .inl h4.symm
  ·exact .inr ⟨g,rfl,by rw [h4,Qf]; omega⟩
theorem infR:(Tryz.prog.info? 92).map (fun i=>(i.zero,i.size,i.bytes))=some (some (.agg zd),10,104):=by kernel_rfl
theorem size68s:(Tryz.prog.info? 68).map (·.size)=some 3:=by kernel_rfl
theorem one36 (y:DoM):∀ u ∈ y.vals.toList,u.oneCell'=true:=by
 intro u hu
 have h:=JY y.k y.o y.x y.sd y.qt y.pr y.vl y.p
 rw [← Array.all_toList] at h
 exact List.all_eq_true.1 h u hu
theorem one10 (y:Qr):∀ u ∈ y.vals.toList,u.oneCell'=true:=by
 intro u hu
 have h:=all10' y
 rw [← Array.all_toList] at h
 exact List.all_eq_true.1 h u hu
def DoZ9 (d:DoM):Prop:=DoZ d∧size d.sd≤900000000∧size d.qt≤900000000∧size d.pr≤900000000∧size d.vl≤900000000
def RuleZ9 (r:Qr):Prop:=size r.m≤900000000∧r.ds.length≤900000000∧∀ d ∈ r.ds,DoZ9 d
def StateZ9 (s:Qj):Prop:=s.rs.length≤900000000∧∀ r ∈ s.rs,RuleZ9 r
theorem copyState_any (s:Qj) (w:yW) (hl:QP w s) (hz:StateZ9 s):Calls zG 50 #[.agg s.vals] w fun e w'=>∃ s',e=.returned (.agg s'.vals)∧QP w' s'∧Q1 s'=Q1 s∧yD w w'∧JR (fun b=>w§≤b∧b < w'§) s':=by
 obtain⟨x,a,c,rs,p⟩:=s
 obtain⟨W,eW⟩:∃ W,(w.alloc (.cells #[.string x,.slice a rs.length c,zI p] 68)).alloc (.cells zk 68)=W:=⟨_,rfl⟩
 have HBW:Hid (yD w W):=by show Below _ _ _; rw [← eW]; exact Ql _ _ _
 have HWS:Hid (W§=w§+2):=by show _=_; rw [← eW,Qf,Qf]
 have H0:Hid (W.heap[w§]? = (zC #[.string x,.slice a rs.length c,zI p] 68)):=by show _=_; rw [← eW]; exact QI (Qd _ _) (by rw [Qf]; omega)
 have H1:Hid (W.heap[w§+1]? = (zC zk 68)):=by
  show _=_; rw [← eW,← Qf w (.cells #[.string x,.slice a rs.length c,zI p] 68)]; exact Qd _ _
 have HSL:Hid (SlAt W 10 a c (rs.map Qr.vals)):=hl.1.on (mapz Qr.sz _) HBW.out
 have HRS:Hid (∀ r ∈ rs,Jk W r∧RuleZ9 r):=fun r hr=>⟨(hl.2.1 r hr).on HBW.out,hz.2 r hr⟩
 have HN:Hid (rs.length≤900000000):=hz.1
 have HPX:Hid (I64 p∧SzX x):=hl.2.2
 clear hl hz
 show Calls zG 50 #[.agg #[.string x,.slice a rs.length c,zI p]] w _
 go_enter Tryz.func50,Tryz.ntmps50
 go_wp2_with fail
 clear eW
 go_loopw [3,4] (fun v t wr=>∃ (i:Nat) (L:List Qr),i≤rs.length∧t=zI i∧Hid (Cpl Qr.vals Jk RuleB JH 92 10 W wr v rs L i)) (fun _ t _=>rs.length - (intOf t).toNat)
 case atStart=>exact⟨0,[],by omega,rfl,Cpl.nil _ _ _ _ _ _ (Below.refl _ _) rs⟩
 case round =>
  obtain⟨i,L,hi,rfl,HT⟩:=hrel
  have HBR:Hid (yD W wr):=HT.out.r.B
  have HX0:Hid (wr.heap[w§]? = (zC #[.string x,.slice a rs.length c,zI p] 68)):=(HBR.out.block _ (zJ H0.out).1).trans H0.out
  have q1:wr.cell? w§¢1=some (.slice a rs.length c):=Qa HX0.out 1
  by_cases hlt:i < rs.length
  ·have hlt':(i:Int) < (rs.length:Int):=by omega
   have hmx:(i:Int)+1≤9223372036854775807:=by have:=HN.out; omega
   obtain⟨b,o,ea,hat⟩:=(HSL.out.on (mapz Qr.sz _) HBR.out).2.2 i (by rw [List.length_map]; exact hlt)
   simp only [List.getElem_map] at hat
   have HMEM:Hid (rs[i] ∈ rs):=List.getElem_mem hlt
   obtain⟨d,ed⟩:∃ d,rs[i]=d:=⟨_,rfl⟩
   have HED:Hid (rs[i]=d):=ed
   rw [ed] at hat HMEM
   have HRG:Hid (wr.rangeAt b (o+i * 10) d.vals.toList):=fun j v hv=>by
    have hj:j < 10:=(List.getElem?_eq_some_iff.1 hv).1
    rw [hat j hj,← hv]; simp
   have HZ:Hid ((wr.alloc (.cells zd 92)).heap[wr§]? = (zC zd 92)):=Qd _ _
   have HBX:Hid (yD wr ((wr.alloc (.cells zd 92)).setRow wr§ d.vals)):=Qo (Qc _ _) (Nat.le_refl _) _
   have HNX:Hid (((wr.alloc (.cells zd 92)).setRow wr§ d.vals).heap[wr§]? = (zC d.vals 92)):=setRow_heap _ _ _ _ _ _ HZ.out
   subst ea
   clear hat ed
   go_upto_region 6 with (first | (refine wpList_load_mid rfl 92 (.tmp 18) rfl b (o+i * 10) rfl d.vals.toList _ HRG.out Tryz.underlying92 rfl (by show _=some 10; exact Q7) ?_; rw [Array.toArray_toList]) | (refine wpList_store_row rfl 92 (.tmp 5) (.tmp 19) rfl wr§ d.vals rfl rfl 92 zd HZ.out Q7 rfl (all10' d) ?_))
   generalize hWX:World.setRow _ _ _=WX
   rw [hWX] at HBX HNX
   clear hWX HZ HRG q1
   have HDL:Hid (Jk WX d):=((HRS.out d HMEM.out).1.on HBR.out).on HBX.out
   have HDZ:Hid (RuleZ9 d):=(HRS.out d HMEM.out).2
   have HCX:Hid (Cpl Qr.vals Jk RuleB JH 92 10 W WX u3 rs L i):=HT.out.call kndRule HBX.out
   go_upto_region 8 with fail
   have HNN:Hid (wr§ < WX§):=(zJ HNX.out).1
   obtain⟨N,eN⟩:∃ q,wr§=q:=⟨_,rfl⟩
   have HEN:Hid (wr§=N):=eN
   rw [eN] at HNX ⊢
   clear eN
   go_loopw [6,7] (fun v t wr2=>∃ (k:Nat) (D:List DoM),k≤d.ds.length∧t=zI k∧Hid (Cpl DoM.vals DoL DoB bDo 105 36 WX wr2 v d.ds D k)) (fun _ t _=>d.ds.length - (intOf t).toNat)
   case atStart=>exact⟨0,[],by omega,rfl,Cpl.nil _ _ _ _ _ _ (Below.refl _ _) d.ds⟩
   case round =>
    rename_i wr0 _ _ _ _
    obtain⟨k,D,hk,rfl,HTD⟩:=hrel
    have HBD:Hid (yD WX wr):=HTD.out.r.B
    have HNR:Hid (wr.heap[N]? = (zC d.vals 92)):=(HBD.out.block _ (zJ HNX.out).1).trans HNX.out
    have q8:wr.cell? N¢8=some (.slice d.a d.ds.length d.c):=Qa HNR.out 8
    by_cases hltd:k < d.ds.length
    ·have hltd':(k:Int) < (d.ds.length:Int):=by omega
     have hmxd:(k:Int)+1≤9223372036854775807:=by have:=HDZ.out.2.1; omega
     obtain⟨b2,o2,ea2,hat2⟩:=(HDL.out.2.1.on (mapz DoM.sz _) HBD.out).2.2 k (by rw [List.length_map]; exact hltd)
     simp only [List.getElem_map] at hat2
     have HMD:Hid (d.ds[k] ∈ d.ds):=List.getElem_mem hltd
     obtain⟨y,ey⟩:∃ y,d.ds[k]=y:=⟨_,rfl⟩
     have HEY:Hid (d.ds[k]=y):=ey
     rw [ey] at hat2 HMD
     have HRY:Hid (wr.rangeAt b2 (o2+k * 36) y.vals.toList):=fun j v hv=>by
      have hj:j < 36:=(List.getElem?_eq_some_iff.1 hv).1
      rw [hat2 j hj,← hv]; simp
     rw [ea2] at q8
     have cD:=copyDo_any y wr ((HDL.out.2.2.1 y HMD.out).on HBD.out) (HDZ.out.2.2 y HMD.out)
     clear hat2 ey ea2
     go_wp2_with (refine wpList_load_mid rfl 105 (.tmp 31) rfl b2 (o2+k * 36) rfl y.vals.toList _ HRY.out Tryz.underlying105 rfl (by show _=some 36; exact Qk) ?_; rw [Array.toArray_toList])
     refine cD.mono ?_
     rintro e w1 ⟨y',rfl,hy1,hy2,hb1,hy3⟩
     have HB1:Hid (yD wr w1):=hb1
     have HR1:Hid (RA WX w1 105 36 u6 (D.map DoM.vals)):=HTD.out.r.call hb1
     have HLn:Hid ((D.map DoM.vals).length≤1000000000):=by have h1:=HDZ.out.2.1; have h2:=HTD.out.l; show _≤_; rw [List.length_map]; omega
     have HK:Hid (DoL w1 y'∧bDo y'=bDo y∧DoB (fun b=>wr§≤b∧b < w1§) y'):=⟨hy1,hy2,hy3⟩
     have HY1:Hid (∀ u ∈ y'.vals.toList,u.oneCell'=true):=one36 y'
     clear hy1 hy2 hy3 hb1 cD q8
     go_wp2_with (first | (refine Q8 rfl 90 105 (.tmp 33) rfl y'.vals rfl 36 _ Tryz.underlying90 320 inf110 rfl rfl (by decide) (by decide) ?_) | (at_builtin; refine Kb rfl (.tmp 27) (.tmp 34) 90 105 36 320 _ rfl Tryz.underlying90 inf110 rfl (by decide) (by decide) (by decide) y'.vals (DoM.sz y') HY1.out HR1.out rfl rfl HLn.out ?_; intro v1 w2 hr2 hs2 hq2 hz2; have HX:Hid (Cpl DoM.vals DoL DoB bDo 105 36 WX w2 v1 d.ds (D ++ [y']) (k+1)):=HTD.out.snoc kndDo hltd HB1.out HK.out.1 (by rw [HEY.out]; exact HK.out.2.1) HK.out.2.2 hr2 hs2 hq2 hz2; clear hr2 hs2 hq2 hz2))
     exact⟨⟨k+1,D ++ [y'],hltd,rfl,HX⟩,by simp only [intOf]; omega⟩
    ·obtain rfl:k=d.ds.length:=by omega
     have hnotd:¬ (d.ds.length:Int) < (d.ds.length:Int):=by omega
     go_upto_region 11 with fail
     obtain⟨a3,c3,e3,hd1,hd2,hd3,hd4⟩:=HTD.out.all kndDo (by decide)
     have HDD:Hid (SlAt wr 36 a3 c3 (D.map DoM.vals)∧(∀ x,a3=some x→WX§≤x.block∧x.block < wr§)∧D.map bDo=d.ds.map bDo∧∀ x ∈ D,DoL wr x∧DoB (fun b=>WX§≤b∧b < wr§) x):=⟨hd1,hd2,hd3,hd4⟩
     clear hd1 hd2 hd3 hd4
     subst e3
     have HCW:Hid (Cpl Qr.vals Jk RuleB JH 92 10 W wr u3 rs L i):=HCX.out.call kndRule HBD.out
     have hb4:yD wr wr.drew:=⟨rfl,rfl,rfl,Nat.le_refl _,fun _ _=>rfl⟩
     have HB4:Hid (yD wr wr.drew):=hb4
     have cN:Calls zG 49 #[.agg #[zU d.m.h.k,zU d.m.h.o,zU d.m.h.t,zI d.m.h.n,zU d.m.h.f,.string d.m.h.x,.slice d.m.a d.m.ks.length d.m.c,zI d.m.h.p]] wr.drew (Copied d.m wr.drew):=KI d.m wr.drew ((HDL.out.1.on HBD.out).on hb4) HDZ.out.1
     clear hb4 q8
     refine (?_:∀ Q',Hid (Q'=_)→Code.wp _ _ Q' _ _) _ rfl
     intro Q' HQ'
     have HPn:Hid (∀ p (d:Nat) v a w,Q' (.panic p) (Act.put a (some d) v) w→Q' (.panic p) a w):=by rw [HQ'.out]; exact fun _ _ _ _ _ h=>h
     refine wp_region_held_drew (S:=fun v=>v.heap[N]? = (zC d.vals 92)) zK HNR.out (fun hHeld=>?_)
     refine wpAnyH_take (i:=0) (v:=?_) rfl zK zK zK (fun c a w h=>HPn.out c _ _ a w h) (Or.inl ⟨by rfl,?_⟩) (by assumption) ?_
     rotate_left
     ·(intro v hv; go_simp; try (with_reducible rfl))
     try simp [Act.put]
     refine wpAnyH_take (i:=1) (v:=?_) rfl zK zK zK (fun c a w h=>HPn.out c _ _ a w h) (Or.inl ⟨by rfl,?_⟩) (by assumption) ?_
     rotate_left
     ·(intro v hv; go_simp; try (with_reducible rfl))
     try simp [Act.put]
     refine wpAnyH_take (i:=2) (v:=?_) rfl zK zK zK (fun c a w h=>HPn.out c _ _ a w h) (Or.inl ⟨by rfl,?_⟩) (by assumption) ?_
     rotate_left
     ·(intro v hv; have g:=hv; have t0:v.cell? N¢0=some (zU d.m.h.k):=Qa g 0; have t1:v.cell? N¢1=some (zU d.m.h.o):=Qa g 1; have t2:v.cell? N¢2=some (zU d.m.h.t):=Qa g 2; have t3:v.cell? N¢3=some (zI d.m.h.n):=Qa g 3; have t4:v.cell? N¢4=some (zU d.m.h.f):=Qa g 4; have t5:v.cell? N¢5=some (.string d.m.h.x):=Qa g 5; have t6:v.cell? N¢6=some (.slice d.m.a d.m.ks.length d.m.c):=Qa g 6; have t7:v.cell? N¢7=some (zI d.m.h.p):=Qa g 7; clear g; go_simp; try (with_reducible rfl))
     try simp [Act.put]
     refine wpAnyH_take (i:=4) (v:=?_) rfl zK zK zK (fun c a w h=>HPn.out c _ _ a w h) (Or.inl ⟨by rfl,?_⟩) (by assumption) ?_
     rotate_left
     ·(intro v hv; go_simp; try (with_reducible rfl))
     try simp [Act.put]
     refine wpAnyH_take (i:=5) (v:=?_) rfl zK zK zK (fun c a w h=>HPn.out c _ _ a w h) (Or.inl ⟨by rfl,?_⟩) (by assumption) ?_
     rotate_left
     ·(intro v hv; go_simp; try (with_reducible rfl))
     try simp [Act.put]
     refine wpAnyH_take (i:=6) (v:=?_) rfl zK zK zK (fun c a w h=>HPn.out c _ _ a w h) (Or.inl ⟨by rfl,?_⟩) (by assumption) ?_
     rotate_left
     ·(intro v hv; have g:=hv; have t9:v.cell? N¢9=some (zI d.p):=Qa g 9; clear g; go_simp; try (with_reducible rfl))
     try simp [Act.put]
     refine wpAnyH_ready (rs:=[3]) zK (by simp) ?_
     refine AllReadyH.cons rfl (fun K hK=>?_) AllReadyH.nil
     go_simp
     refine cN.mono ?_
     rintro e w1 ⟨m',rfl,hm1,hm2,hm3,hm4,hb1⟩
     have HB1:Hid (yD wr w1):=Qe HB4.out hb1
     have HM1:Hid (Lies w1 m'∧Twin d.m m'∧Bk (fun b=>wr§≤b∧b < w1§) m'):=⟨hm1,hm2,hm3.bk⟩
     refine hK.out _ _ ((HB1.out.block _ (zJ HNR.out).1).trans HNR.out) (fun hHeld=>?_)
     clear hK K hm1 hm2 hm3 hm4 hb1 cN
     try simp [Act.put]
     unfold Nd.vals hdA
     refine wpAnyH_take (i:=7) (v:=?_) rfl zK zK zK (fun c a w h=>HPn.out c _ _ a w h) (Or.inl ⟨by rfl,?_⟩) (by assumption) ?_
     rotate_left
     ·(intro v hv; go_simp; try (with_reducible rfl))
     try simp [Act.put]
     refine wpAnyH_ready (rs:=[8]) zK (by simp) ?_
     refine AllReadyH.cons rfl (fun K hK=>?_) AllReadyH.nil
     go_simp
     refine hK.out _ _ (QI ((HB1.out.block _ (zJ HNR.out).1).trans HNR.out) (Nat.lt_of_lt_of_le (zJ HNR.out).1 HB1.out.size)) (fun hHeld=>?_)
     clear hK K
     try simp [Act.put]
     refine wpAnyH_ready (rs:=[9]) zK (by simp) ?_
     refine AllReadyH.cons rfl (fun K hK=>?_) AllReadyH.nil
     have HRR:Hid (RA W w1 92 10 u3 (L.map Qr.vals)):=(HCW.out.call kndRule HB1.out).r
     have HLR:Hid ((L.map Qr.vals).length≤1000000000):=by have h1:=HN.out; have h2:=HCW.out.l; show _≤_; rw [List.length_map]; omega
     have HYR:Hid (∀ u ∈ (Qr.mk m' a3 c3 D d.p).vals.toList,u.oneCell'=true):=one10 _
     refine step_arr rfl (.tmp 36) (.tmp 44) 66 92 10 104 _ rfl Tryz.underlying66 infR rfl (by decide) (by decide) (by decide) (Qr.mk m' a3 c3 D d.p).vals (Qr.sz _) HYR.out HRR.out rfl rfl HLR.out ?_
     intro v1 w2 hr2 hs2 hq2 hz2
     have HWX:Hid (yD WX w1):=Qe HBD.out HB1.out
     have HX:Hid (Cpl Qr.vals Jk RuleB JH 92 10 W w2 v1 rs (L ++ [Qr.mk m' a3 c3 D d.p]) (i+1)):=by
      refine HCX.out.snoc kndRule hlt HWX.out ⟨HM1.out.1,HDD.out.1.on (mapz DoM.sz _) HB1.out,fun q hq=>(HDD.out.2.2.2 q hq).1.on HB1.out,HDL.out.2.2.2⟩ ?_ ⟨HM1.out.2.2.mono fun b hb=>⟨Nat.le_trans HBD.out.size hb.1,hb.2⟩,fun q hq=>⟨(HDD.out.2.1 q hq).1,Nat.lt_of_lt_of_le (HDD.out.2.1 q hq).2 HB1.out.size⟩,fun q hq=>(HDD.out.2.2.2 q hq).2.mono fun b hb=>⟨hb.1,Nat.lt_of_lt_of_le hb.2 HB1.out.size⟩⟩ hr2 hs2 hq2 hz2
      rw [HED.out]
      unfold JH
      simp only [J1 HM1.out.2.1,HDD.out.2.2.1]
     have HS2:Hid (w2.heap[N]? = (zC d.vals 92)):=(hq2 N (Nat.lt_of_lt_of_le (zJ HNR.out).1 HB1.out.size) (fun e=>by have h1:=HT.out.r.row.lt N e; have h2:=HEN.out; omega)).trans ((HB1.out.block _ (zJ HNR.out).1).trans HNR.out)
     clear hr2 hs2 hq2 hz2
     refine hK.out _ _ HS2.out (fun hHeld=>?_)
     clear hK K
     try simp [Act.put]
     refine wpAnyH_take (i:=10) (v:=?_) rfl zK zK zK (fun c a w h=>HPn.out c _ _ a w h) (Or.inl ⟨by rfl,?_⟩) (by assumption) ?_
     rotate_left
     ·(intro v hv; go_simp; try (with_reducible rfl))
     try simp [Act.put]
     refine wpAnyH_done zK ?_ _
     rw [HQ'.out]
     clear HQ' HPn Q'
     go_wp2_with fail
     exact⟨⟨i+1,L ++ [Qr.mk m' a3 c3 D d.p],hlt,rfl,HX⟩,by simp only [intOf]; omega⟩
  ·obtain rfl:i=rs.length:=by omega
   have hnot:¬ (rs.length:Int) < (rs.length:Int):=by omega
   obtain⟨a',c',e',hl1,hl2,hl3,hl4⟩:=HT.out.all kndRule (by decide)
   subst e'
   have HX1:Hid (wr.heap[w§+1]? = (zC zk 68)):=(HBR.out.block _ (zJ H1.out).1).trans H1.out
   obtain⟨R,eR⟩:∃ R,(Qj.mk x a' c' L p).vals=R:=⟨_,rfl⟩
   have HR:Hid ((Qj.mk x a' c' L p).vals=R):=eR
   have HRz:Hid ((zk:Array Value).size=R.size):=by show _=_; rw [← eR]; rfl
   have HRa:Hid (R.all (·.oneCell')=true):=by show _=_; rw [← eR]; simp [Qj.vals,Value.oneCell']
   have HSZ:Hid ((Tryz.prog.info? 68).map (·.size)=some R.size):=by show _=_; rw [← eR]; exact size68s
   obtain⟨U,eU⟩:∃ U,wr.setCell w§¢1 (.slice a' L.length c')=U:=⟨_,rfl⟩
   have HEU:Hid (wr.setCell w§¢1 (.slice a' L.length c')=U):=eU
   have HU0:Hid (U.heap[w§]? = (zC R 68)):=by show _=_; rw [← eU,← eR]; exact Qi _ HX0.out
   have HU1:Hid (U.heap[w§+1]? = (zC zk 68)):=by show _=_; rw [← eU]; exact (Below.heap_setCell _ _ _ _ (by show w§+1≠w§; omega)).trans HX1.out
   have f1:wr.frozen? w§¢1=false:=Qb HX0.out 1
   have HBU:Hid (yD w U):=by
    show Below _ _ _
    rw [← eU]; exact (Qe HBW.out (HBR.out.mono (by have:=HWS.out; omega))).setCell (p:=w§¢1) (Nat.le_refl _) _
   have HUs:Hid (U§=wr§):=by show _=_; rw [← eU]; simp [World.setCell]
   have HSU:Hid (QP (U.setRow (w§+1) R) ⟨x,a',c',L,p⟩∧JR (fun b=>w§≤b∧b < (U.setRow (w§+1) R)§) ⟨x,a',c',L,p⟩):=by
    have hk:∀ b,b < wr§→(W§≤b∧b < wr§)→(U.setRow (w§+1) R).heap[b]? = wr.heap[b]?:=fun b _ hp=>by
     have hw:=HWS.out
     rw [QM _ _ _ (by omega),← eU]
     exact Below.heap_setCell _ _ _ _ (by show b≠w§; omega)
    have hBB:JR (fun b=>W§≤b∧b < wr§) ⟨x,a',c',L,p⟩:=⟨hl2,fun r hr=>(hl4 r hr).2⟩
    refine⟨QP.bk hk ⟨hl1,fun r hr=>(hl4 r hr).1,HPX.out⟩ hBB,hBB.mono fun b hb=>?_⟩
    have hw:=HWS.out
    rw [sz_row,HUs.out]
    omega
   have HLL:Hid (L.map JH=rs.map JH):=hl3
   have HF:Hid ((U.setRow (w§+1) R).heap[w§+1]? = (zC R 68)∧yD w (U.setRow (w§+1) R)):=⟨setRow_heap _ _ _ _ _ _ HU1.out,Qo HBU.out (by omega) _⟩
   clear hl1 hl2 hl3 hl4 eU eR
   go_upto_region 13 with fail
   rw [HEU.out]
   go_wp2_with (first | (refine wpList_load_row rfl 68 _ rfl w§ rfl 68 R (0,0) _ HU0.out Tryz.underlying68 rfl HSZ.out ?_) | (refine wpList_store_row rfl 68 _ _ rfl (w§+1) R rfl rfl 68 zk HU1.out HSZ.out HRz.out HRa.out ?_) | (refine wpList_store_row rfl 68 _ _ rfl (w§+1) R rfl rfl 68 zk HU1.out size68s HRz.out HRa.out ?_))
   exact bodyPost_ret (results_cell_row rfl _ _ (w§+1) 68 R (0,0) _ rfl HF.out.1 Tryz.underlying68 rfl HSZ.out) rfl ⟨⟨x,a',c',L,p⟩,by rw [show (Qj.mk x a' c' L p).vals=R from HR.out],HSU.out.1,by simp only [Q1,HLL.out],HF.out.2,HSU.out.2⟩
open Go
section
variable {P : Program} {ops : Array Oper} {Q : Exit → Act → yW → Prop} {md : Region.Mode} {S : yW → Prop} {t : Nat}
def Kh (P:Program) (md:Region.Mode) (ops:Array Oper) (Q:Exit→Act→yW→Prop) (S:yW→Prop) (t:Nat):Nat→Array Bool→Act→yW→Prop
 | 0,listed,a,w=>Region.ready md ops listed = []∧Q .normal a w
 | fuel+1,listed,a,w =>
  (Region.ready md ops listed = []→Q .normal a w) ∧
  ∀ i ∈ Region.ready md ops listed,wpOp P ops Q i (fun a' w'=>(i≠t→S w')∧Kh P md ops Q S t fuel (listed.setIfInBounds i true) a' w') a w
theorem wpAny_of_T:∀ (fuel:Nat) (listed:Array Bool) (a:Act) (w:yW),Kh P md ops Q S t fuel listed a w→wpAny P md ops Q fuel listed a w
 | 0,_,_,_,h=>h
 | fuel+1,_,_,_,h=>⟨h.1,fun i hi=>wpOp_mono (fun a' w' h'=>wpAny_of_T fuel _ a' w' h'.2) (h.2 i hi)⟩
def waits (md:Region.Mode) (ops:Array Oper) (t i:Nat):Bool:=match ops[t]? with
 | some o=>o.after.toList.any (fun e=>Region.binds md e && e.on == i)
 | none=>false
theorem wpAnyT_first {i:Nat}{oi:Oper}{v:Value}(hi:ops[i]? = some oi) (hsel:∀ (j:Nat) (o:Oper) cs b,ops[j]? = some o→o.op≠.select cs b)
  (hQ:∀ c a w,Q (.panic c) (a.put oi.dst v) w→Q (.panic c) a w) (hw:waits md ops t i=true) :
  ∀ (fuel:Nat) (listed:Array Bool) (a:Act) (w:yW),
   (∀ j oj,ops[j]? = some oj→j≠i→listed.getD j true=false→(∀ e ∈ oj.after,Region.binds md e=true→e.on≠i)→oi.apart ops oj=true) →
   i ∈ Region.ready md ops listed→YieldsIf P ops S oi v a→S w →
   Kh P md ops Q S t fuel (listed.setIfInBounds i true) (a.put oi.dst v) w→Kh P md ops Q S t (fuel+1) listed a w:=by
 intro fuel
 induction fuel with
 | zero =>
  intro listed a w _ hr hy hS H
  refine⟨fun h=>(by rw [h] at hr; cases hr),fun j hj=>?_⟩
  by_cases hji:j=i
  ·subst hji; exact hy.wpOp hi hS ⟨fun _=>hS,H⟩
  ·have:=ready_mono hj hji
   rw [H.1] at this
   cases this
 | succ fuel ih =>
  intro listed a w hfree hr hy hS H
  refine⟨fun h=>(by rw [h] at hr; cases hr),fun j hj=>?_⟩
  by_cases hji:j=i
  ·subst hji; exact hy.wpOp hi hS ⟨fun _=>hS,H⟩
  ·have h1:=H.2 j (ready_mono hj hji)
   obtain⟨hjun,oj,hoj,hall⟩:=mem_ready.1 hj
   have hnot:∀ e ∈ oj.after,Region.binds md e=true→e.on≠i:=fun e he hb heq=>by
    have h1:=hall e he hb
    have h0:=(mem_ready.1 hr).1
    rw [heq] at h1
    rcases Nat.lt_or_ge i listed.size with h' | h'
    ·simp [h'] at h0 h1; rw [h0] at h1; cases h1
    ·simp [Array.getElem?_eq_none h'] at h1
   have hjt:j≠t:=by
    rintro rfl
    unfold waits at hw
    rw [hoj] at hw
    simp only [List.any_eq_true,Bool.and_eq_true,beq_iff_eq] at hw
    obtain⟨e,he,hb,ho⟩:=hw
    exact hnot e (Array.mem_toList_iff.1 he) hb ho
   have h2:=wpOp_putIf hoj (hfree j oj hoj hji hjun hnot) (fun cs b=>hsel i oi cs b hi) (fun cs b=>hsel j oj cs b hoj) hQ hy h1
   have hfree':∀ k ok,ops[k]? = some ok→k≠i→(listed.setIfInBounds j true).getD k true=false →
     (∀ e ∈ ok.after,Region.binds md e=true→e.on≠i)→oi.apart ops ok=true:=fun k ok hk hki hun hno=>by
    refine hfree k ok hk hki ?_ hno
    by_cases hjk:j=k
    ·subst hjk; exact hjun
    ·rw [getD_set_ne true hjk] at hun; exact hun
   refine wpOp_mono (fun a' w' h3=>⟨fun _=>h3.2.1 hjt,ih (listed.setIfInBounds j true) a' w' hfree' (ready_mono hr (Ne.symm hji)) h3.1 (h3.2.1 hjt) ?_⟩) h2
   rw [Array.setIfInBounds_comm _ _ hji]
   exact h3.2.2
theorem Qz {i:Nat}{oi:Oper}{v:Value}{fuel:Nat}{listed:Array Bool}{a:Act}{w:yW}(hi:ops[i]? = some oi)
  (hs:Region.noSelect ops=true) (hf:Region.free md ops listed i=true) (hr:(Region.ready md ops listed).contains i=true) (hw:waits md ops t i=true)
  (hQ:∀ c a w,Q (.panic c) (a.put oi.dst v) w→Q (.panic c) a w) (hy:YieldsIf P ops S oi v a) (hS:S w)
  (h:Kh P md ops Q S t fuel (listed.setIfInBounds i true) (a.put oi.dst v) w):Kh P md ops Q S t (fuel+1) listed a w :=
 wpAnyT_first hi (Region.noSelect_spec hs) hQ hw fuel listed a w (Region.free_spec hi hf) (by simpa using hr) hy hS h
theorem wpAnyT_done {listed:Array Bool}{a:Act}{w:yW}(hr:Region.ready md ops listed = []) (h:Q .normal a w) :
  ∀ fuel,Kh P md ops Q S t fuel listed a w
 | 0=>⟨hr,h⟩
 | _+1=>⟨fun _=>h,by rw [hr]; simp⟩
theorem JJ {i:Nat}{o:Oper}{fuel:Nat}{listed:Array Bool}{a:Act}{w:yW}(hr:Region.ready md ops listed = [i]) (ho:ops[i]? = some o)
  (h:∀ K':Act→yW→Prop,Shut (∀ a w,(i≠t→S w)→Kh P md ops Q S t fuel (listed.setIfInBounds i true) a w→K' a w)→if Region.wanted o (yielded ops a.tmps)=true then Oper.wp P o a w K' Q else K' (a.put o.dst undef) w) :
  Kh P md ops Q S t (fuel+1) listed a w :=
 ⟨fun h0=>absurd (hr ▸ h0) (by simp),fun j hj=>by
  rw [hr] at hj
  obtain rfl:=List.mem_singleton.1 hj
  exact wpOp_step ho (fun K' hK=>h K' (fun a w hS hW=>hK a w ⟨hS,hW⟩))⟩
theorem wp_region_T {id:Nat}{a:Act}{w:yW}(hm:P.follows .mixedOrders=true) (hS:S w.drew)
  (h:S w.drew→Kh P .any ops Q S t ops.size (Array.replicate ops.size false) a w.drew):(Code.region id ops true).wp P Q a w :=
 wp_region_any hm (wpAny_of_T _ _ _ _ (h hS))
end
theorem KS (w:yW) (p:Addr) (x:Value):(w.setCell p x)§=w§:=by simp [World.setCell]
theorem set_below {W wr:yW}(h:yD W wr) (p:Addr) (x:Value):Below (W.setCell p x)§ (W.setCell p x) (wr.setCell p x):=by
 refine⟨h.os,h.tape,h.output,by rw [KS,KS]; exact h.size,fun b hb=>?_⟩
 rw [KS] at hb
 have hh:=h.block b hb
 unfold World.setCell
 simp only [Array.getElem?_modify]
 rw [hh]
theorem Cpl.set {X Y:Type}{vals:X→Array Value}{LX:yW→X→Prop}{BX:(Nat→Prop)→X→Prop}{f:X→Y}{e:TypeId}{n:Nat}{W wr:yW}{v:Value}{ks L:List X}{i:Nat}(h:Cpl vals LX BX f e n W wr v ks L i) (K:Knd vals LX BX f n) {p:Addr}(hp:p.block < W§) (x:Value) :
  Cpl vals LX BX f e n (W.setCell p x) (wr.setCell p x) v ks L i:=by
 have hne:∀ b,W§≤b→(wr.setCell p x).heap[b]? = wr.heap[b]?:=fun b hb=>Below.heap_setCell _ _ _ _ (by omega)
 exact⟨h.l,⟨h.r.row.of_block (fun k hk=>hne k (h.r.nb k hk)),fun k hk=>by rw [KS]; exact h.r.nb k hk,set_below h.r.B p x,h.r.sz⟩,h.b,fun y hy=>⟨K.bk _ _ _ y (fun b _ hb=>hne b hb.1) (h.y y hy).1 (h.y y hy).2,K.mono _ _ y (fun b hb=>by rw [KS,KS]; exact hb) (h.y y hy).2⟩⟩
structure BxC (w:yW) (S:Qm) (v1 v2 v3:Value) (W:yW):Prop where
 b:yD w W
 n:w§+3≤W§
 s:W.heap[w§]? = (zC S.vals 27)
 z:W.heap[w§+1]? = (zC ze 27)
 x:W.heap[w§+2]? = (zC #[.string S.x,v1,v2,v3] 27)
theorem BxC.on {w:yW}{S:Qm}{v1 v2 v3:Value}{W W':yW}(h:BxC w S v1 v2 v3 W) (k:yD W W'):BxC w S v1 v2 v3 W' :=
 have hn:=h.n
 ⟨Qe h.b k,Nat.le_trans h.n k.size,(k.block _ (by omega)).trans h.s,(k.block _ (by omega)).trans h.z,(k.block _ (by omega)).trans h.x⟩
theorem BxC.set {w:yW}{S:Qm}{v1 v2 v3:Value}{W:yW}(h:BxC w S v1 v2 v3 W) (j:Nat) (v:Value) {u1 u2 u3:Value}(he:(#[.string S.x,v1,v2,v3]:Array Value).setIfInBounds j v=#[.string S.x,u1,u2,u3]):BxC w S u1 u2 u3 (W.setCell ⟨w§+2,j,none⟩ v):=by
 refine⟨h.b.setCell (p:=⟨w§+2,j,none⟩) (by show w§≤w§+2; omega) v,by rw [KS]; exact h.n,?_,?_,?_⟩
 ·exact (Below.heap_setCell _ _ _ _ (by show w§≠w§+2; omega)).trans h.s
 ·exact (Below.heap_setCell _ _ _ _ (by show w§+1≠w§+2; omega)).trans h.z
 ·rw [Qi _ h.x,he]
structure CpR (w:yW) (S:Qm) (R:List RegM) (v1 v2:Value) (h1 h2:Nat) (W:yW):Prop where
 a:w§+3≤h1
 b:h1≤h2
 c:h2≤W§
 r:Row W 62 11 v1 R.length (arF (R.map RegM.vals) 11)
 rn:∀ k,v1.ownBlock=some k→w§+3≤k∧k < h1
 rb:R.map bReg=S.rs.map bReg
 re:∀ x ∈ R,RegL W x∧RegB (fun b=>w§+3≤b∧b < h1∧v1.ownBlock≠some b) x
 s:Row W 65 2 v2 S.ss.length (arF (S.ss.map Qw.vals) 2)
 sn:∀ k,v2.ownBlock=some k→h1≤k∧k < h2
theorem CpR.kp {w:yW}{S:Qm}{R:List RegM}{v1 v2:Value}{h1 h2:Nat}{W W':yW}(h:CpR w S R v1 v2 h1 h2 W) (k:∀ b,w§+3≤b→b < h2→W'.heap[b]? = W.heap[b]?) (hc:h2≤W'§):CpR w S R v1 v2 h1 h2 W':=by
 have ha:=h.a
 have hb:=h.b
 refine⟨h.a,h.b,hc,h.r.of_block (fun q hq=>k q (h.rn q hq).1 (by have:=(h.rn q hq).2; omega)),h.rn,h.rb,fun x hx=>⟨kndReg.bk _ _ _ x (fun b _ hp=>k b hp.1 (by omega)) (h.re x hx).1 (h.re x hx).2,(h.re x hx).2⟩,h.s.of_block (fun q hq=>k q (by have:=(h.sn q hq).1; omega) (h.sn q hq).2),h.sn⟩
structure CpF (w:yW) (S:Qm) (R:List RegM) (T:List Qj) (v1 v2 v3:Value) (h1 h2:Nat) (W:yW):Prop where
 p:CpR w S R v1 v2 h1 h2 W
 t:Row W 68 3 v3 T.length (arF (T.map Qj.vals) 3)
 tn:∀ k,v3.ownBlock=some k→h2≤k
 tb:T.map Q1=S.ts.map Q1
 te:∀ x ∈ T,QP W x∧JR (fun b=>h2≤b∧v3.ownBlock≠some b) x
theorem cpr_of {w:yW}{S:Qm}{v v2:Value}{W wr w2:yW}{L:List RegM}(hB:BxC w S v (.slice none 0 0) (.slice none 0 0) W) (h:Cpl RegM.vals RegL RegB bReg 62 11 W wr v S.rs L S.rs.length)
  (hr:Row w2 65 2 v2 S.ss.length (arF (S.ss.map Qw.vals) 2)) (hb:yD wr w2) (hn:∀ k,v2.ownBlock=some k→wr§≤k∧k < w2§):CpR w S L v v2 wr§ w2§ w2:=by
 have hW:=h.r.B.size
 have hN:=hB.n
 have hrow:=h.r.row
 rw [List.length_map] at hrow
 have hbb:=h.b
 rw [List.take_length] at hbb
 refine⟨by omega,hb.size,Nat.le_refl _,hrow.of_block (fun k hk=>hb.block k (hrow.lt k hk)),fun k hk=>⟨by have:=h.r.nb k hk; omega,hrow.lt k hk⟩,hbb,fun x hx=>?_,hr,hn⟩
 obtain⟨y1,y2⟩:=h.y x hx
 exact⟨y1.on hb,kndReg.mono _ _ x (fun b hp=>⟨by omega,hp.2⟩) y2⟩
theorem run_append_nil_src {P:Program}(w:yW) (t ty e:TypeId) (i:TypeInfo) (ht:P.underlying t=some (.slice e)) (hi:P.info? e=some i) (base:Option Addr) (sLen sCap c:Nat) (hle:sLen≤sCap) :
  (Builtin.append_ #[t,t] ty #[.slice base sLen sCap,.slice none 0 c]).run P w=.ok (.slice base sLen sCap) w:=by
 cases base <;> simp [Builtin.append_,run_underlying ht,sizeOf,typeInfo,hi,Builtin.lenOf,Builtin.firstCells,hle,storeCells]
theorem append_all {W w0:yW}{ops:Array Oper}{rest:List Oper}{o:Oper}{a:Act}{Q:Exit→Act→yW→Prop}(hgd:o.guard=none) (d x:Operand) (t e:TypeId) (n:Nat) (by_:Nat) (z:Value)
  (ho:o.op=.call { callee:=.builtin .append,args:=#[d,x],argTypes:=#[t,t] }) (hu:Tryz.prog.underlying t=some (.slice e)) (hi:(Tryz.prog.info? e).map (fun i=>(i.zero,i.size,i.bytes))=some (some z,n,by_)) (hz:z.cells.size=n) (hb:0 < n) (hn1:n≤100) (hby:by_≤1000)
  (L:List (Array Value)) (sp:Option Addr) (c:Nat) (hsl:SlAt w0 n sp c L) (hL:∀ y ∈ L,y.size=n∧∀ u ∈ y.toList,u.oneCell'=true) (m:Nat) (hm:L.length=m) (hs:a.eval d=.slice none 0 0) (hx:a.eval x=.slice sp m c) (hlen:L.length≤1000000000)
  (h:∀ v' w',Row w' e n v' L.length (arF L n)→yD w0 w'→(∀ k,v'.ownBlock=some k→w0§≤k∧k < w'§)→wpList Tryz.prog ops Q rest (a.put o.dst v') w') :
  wpList Tryz.prog ops Q (o :: rest) a w0:=by
 subst hm
 obtain⟨i0,hi0,hz0,hz1,hz2⟩:=info_parts hi
 refine wpList_plain hgd fun K hK=>?_
 have hnil:Row w0 e n (.slice none 0 0) 0 (arF L n):=Row.nil _ _ _ _
 cases hsp:sp with
 | none =>
  have h0:L = []:=by
   cases L with
   | nil=>rfl
   | cons y l=>obtain⟨b,oo,hab,_⟩:=hsl.2.2 0 (by simp); rw [hsp] at hab; cases hab
  subst h0
  have hr:=run_append_nil_src (P:=Tryz.prog) w0 t o.type e i0 hu hi0 none 0 0 c (Nat.le_refl _)
  unfold Oper.wp execOp
  simp only [ho,resolve,invoke,builtin,Sem.run_bind,Sem.run_pure,Result.andThen_ok,List.map_toArray,List.map_cons,List.map_nil,hs,hx,hsp,List.length_nil,hr]
  exact hK _ _ (h _ w0 hnil (Below.refl _ _) (fun k hk=>by simp [Value.ownBlock] at hk))
 | some ad =>
  obtain⟨v',w',hr,h2,h3,_,h5⟩:=run_append_own_at (P:=Tryz.prog) w0 0 t o.type e i0 z n by_ hu hi0 hz0 hz1 hz2 hz hb (.slice none 0 0) 0 _ hnil ad L.length c ((List.range (L.length * n)).map (arF L n)) (by simp)
   (fun j u hu'=>by
    have hj:j < L.length * n:=by have:=(List.getElem?_eq_some_iff.1 hu').1; simpa using this
    rw [List.getElem?_map,List.getElem?_range hj] at hu'
    have hq:j / n < L.length:=(Nat.div_lt_iff_lt_mul hb).2 hj
    obtain⟨b,oo,e1,e2⟩:=hsl.2.2 (j / n) hq
    rw [hsp] at e1
    simp only [Option.some.injEq] at e1
    subst e1
    have hm:j % n < n:=Nat.mod_lt _ hb
    have e3:=e2 (j % n) hm
    have hd:=Nat.div_add_mod j n
    rw [show oo+j / n * n+j % n=oo+j by rw [Nat.mul_comm] at hd; omega] at e3
    rw [show (Addr.mk b oo none).add j=⟨b,oo+j,none⟩ by unfold Addr.add; by_cases hj0:j=0 <;> simp [hj0]]
    rw [e3,← hu']
    have hs2:=(hL _ (List.getElem_mem hq)).1
    simp [arF,List.getD,hq,show j % n < L[j / n].size by omega])
   (fun u hu'=>by
    obtain⟨j,hj,rfl⟩:=List.mem_map.1 hu'
    have hj':j < L.length * n:=List.mem_range.1 hj
    have hq:j / n < L.length:=(Nat.div_lt_iff_lt_mul hb).2 hj'
    have hm:j % n < n:=Nat.mod_lt _ hb
    have hs2:=hL _ (List.getElem_mem hq)
    refine hs2.2 _ ?_
    simp [arF,List.getD,hq,show j % n < L[j / n].size by omega])
   (by simp only [maxLen]; omega) (by
    have:(0+L.length) * by_≤1000000000 * 1000:=Nat.mul_le_mul (by omega) hby
    omega) (Nat.zero_le _)
  unfold Oper.wp execOp
  simp only [ho,resolve,invoke,builtin,Sem.run_bind,Sem.run_pure,Result.andThen_ok,List.map_toArray,List.map_cons,List.map_nil,hs,hx,hsp,hr]
  refine hK _ _ (h v' w' ?_ ((Below.refl _ w0).grown h3 (Nat.le_refl _) (fun k hk=>by simp [Value.ownBlock] at hk)) (fun k hk=>?_))
  ·unfold Row
   rw [Nat.zero_mul,List.range_zero,List.map_nil,List.nil_append,Nat.zero_add] at h2
   exact h2
  ·have hlt:=(World.ownsRow.lt h2 k hk).2
   rcases h5 with h5 | h5
   ·rw [h5] at hk; simp [Value.ownBlock] at hk
   ·rw [h5] at hk
    simp only [Option.some.injEq] at hk
    omega
theorem rng_on {w u:yW}{b o:Nat}{l:List Value}(h:w.rangeAt b o l) (k:yD w u):u.rangeAt b o l:=fun j v hv =>
 (k.cell (World.block_lt_of_cell? w _ (h j v hv))).trans (h j v hv)
theorem cpf_of {w:yW}{S:Qm}{v v2 v3:Value}{W wr Y:yW}{L:List RegM}{T:List Qj}{h1 h2:Nat}(hB:BxC w S v v2 v3 W) (hR:CpR w S L v v2 h1 h2 W) (h:Cpl Qj.vals QP JR Q1 68 3 W wr v3 S.ts T S.ts.length)
  (hY:∀ b,w§+3≤b→Y.heap[b]? = wr.heap[b]?) (hs:Y§=wr§):CpF w S L T v v2 v3 h1 h2 Y:=by
 have hN:=hB.n
 have hW:=h.r.B.size
 have hc:=hR.c
 have hrow:=h.r.row
 rw [List.length_map] at hrow
 have hbb:=h.b
 rw [List.take_length] at hbb
 refine⟨hR.kp (fun b hb1 hb2=>(hY b hb1).trans (h.r.B.block b (by omega))) (by omega),hrow.of_block (fun k hk=>hY k (by have:=h.r.nb k hk; omega)),fun k hk=>by have:=h.r.nb k hk; omega,hbb,fun x hx=>?_⟩
 obtain⟨y1,y2⟩:=h.y x hx
 exact⟨Kx.bk _ _ _ x (fun b _ hp=>hY b (by omega)) y1 y2,Kx.mono _ _ x (fun b hp=>⟨by omega,hp.2.2⟩) y2⟩
end Go.Proofs.YtoogodlnnijikaaGreatDoor
