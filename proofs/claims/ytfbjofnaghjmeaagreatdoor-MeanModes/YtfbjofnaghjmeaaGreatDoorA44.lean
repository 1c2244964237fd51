import Derived.Test.YtfbjofnaghjmeaaGreatDoorA0
import Derived.Test.YtfbjofnaghjmeaaGreatDoorA37
import Derived.Test.YtfbjofnaghjmeaaGreatDoorA36
import Derived.Test.YtfbjofnaghjmeaaGreatDoorA40
namespace Go.Proofs.YtfbjofnaghjmeaaGreatDoor
set_option maxHeartbeats 16000000
set_option maxRecDepth 100000
open Go Go.RowKit
set_option linter.unusedVariables false
set_option linter.unusedSimpArgs false
theorem hold_5 {v:Int}:holdB 5 v=(v == 0 || v == 1):=rfl
theorem hold_6 {v:Int}:holdB 6 v=(v == 1 || v == 2):=rfl
theorem hold_n {t v:Int}(h5:¬ t=5) (h6:¬ t=6):holdB t v=true:=by
 unfold holdB
 rw [if_neg (by simpa using h5),if_neg (by simpa using h6)]
theorem rmode_any (S:StratM) (m:ModM) (w:yW) (hl:StratL w S) (hm:ModL w m):Calls zG 13 #[.agg S.vals,.agg m.vals] w fun e w'=>e=.returned (.bool (isMo S m))∧yD w w':=by
 obtain⟨h2,hb2,hz2⟩:=bx2_new w S m
 obtain⟨W,eW⟩:∃ W,(w.alloc (.cells S.vals 26)).alloc (.cells m.vals 29)=W:=⟨_,rfl⟩
 have EW:Hid ((w.alloc (.cells S.vals 26)).alloc (.cells m.vals 29)=W):=eW
 rw [eW] at h2 hb2 hz2
 have HB:Hid (yD w W):=hb2
 have H2:Hid (Bx2 W S m w§):=h2
 have HL:Hid (StratL w S∧ModL w m):=⟨hl,hm⟩
 have hlr:S.rs.length≤9223372036854775807:=by have h1:=hl.1.1; have h2:=hl.1.2.1; rw [List.length_map] at h1; omega
 have HLR:Hid (S.rs.length≤9223372036854775807):=hlr
 clear h2 hb2 hz2 eW hl hm hlr
 obtain⟨g,eg⟩:∃ g,w§=g:=⟨_,rfl⟩
 have HG:Hid (w§=g):=eg
 rw [eg] at H2
 have z0:W.cell? ⟨g+1,0,none⟩=some (zI m.st):=cell_of H2.out.b 0
 have z1:W.cell? ⟨g+1,1,none⟩=some (.slice m.ra m.rg.length m.rc):=cell_of H2.out.b 1
 have z2:W.cell? g¢1=some (.slice S.ra S.rs.length S.rc):=cell_of H2.out.a 1
 have z3:W.cell? g¢3=some (.slice S.ta S.ts.length S.tc):=cell_of H2.out.a 3
 clear eg
 by_cases h1:m.st < 0
 ·have HE:Hid (isMo S m=false):=by show _=_; unfold isMo; rw [decide_eq_false (by omega)]; rfl
  go_enter Tryz.func13,Tryz.ntmps13
  go_upto_region 1 with fail
  rw [EW.out,HG.out]
  go_wp2_with fail
  go_ret
  exact⟨by rw [HE.out]; rfl,HB.out⟩
 by_cases h3:(S.ts.length:Int)≤m.st
 ·have HE:Hid (isMo S m=false):=by show _=_; unfold isMo; rw [decide_eq_false (p:=m.st < S.ts.length) (by omega)]; simp
  go_enter Tryz.func13,Tryz.ntmps13
  go_upto_region 1 with fail
  rw [EW.out,HG.out]
  go_wp2_with fail
  go_ret
  exact⟨by rw [HE.out]; rfl,HB.out⟩
 by_cases h4:m.rg.length=S.rs.length
 rotate_left
 ·have HE:Hid (isMo S m=false):=by show _=_; unfold isMo; rw [decide_eq_false (p:=m.rg.length=S.rs.length) h4]; simp
  have h5:¬ (m.rg.length:Int)=(S.rs.length:Int):=by omega
  go_enter Tryz.func13,Tryz.ntmps13
  go_upto_region 1 with fail
  rw [EW.out,HG.out]
  go_wp2_with fail
  go_ret
  exact⟨by rw [HE.out]; rfl,HB.out⟩
 have HE:Hid (isMo S m=holdL S.rs m.rg):=by show _=_; unfold isMo; rw [decide_eq_true (by omega),decide_eq_true (by omega),decide_eq_true h4]; rfl
 obtain⟨R,eR⟩:∃ R,holdL S.rs m.rg=R:=⟨_,rfl⟩
 rw [eR] at HE
 have HR:Hid (holdL S.rs m.rg=R):=eR
 obtain⟨n,en⟩:∃ n,m.rg.length=n:=⟨_,rfl⟩
 have EN:Hid (m.rg.length=n∧S.rs.length=n):=⟨en,by omega⟩
 rw [en] at z1
 rw [EN.out.2] at z2
 clear h4 eR en
 rw [HE.out]
 go_enter Tryz.func13,Tryz.ntmps13
 go_upto_region 1 with fail
 rw [EW.out,HG.out]
 clear EW HE
 go_upto_region 3 with fail
 clear z0 z3 h1 h3
 go_wp2_with fail
 have HZ:Hid (W.cell? ⟨g+1,1,none⟩=some (.slice m.ra n m.rc)∧W.cell? g¢1=some (.slice S.ra n S.rc)):=⟨z1,z2⟩
 clear z1 z2
 go_loopw [5] (fun t wr=>∃ (i:Nat),i≤n∧t=zI i∧Hid (yD w wr)∧Hid (yD W wr)∧Hid (holdL (S.rs.drop i) (m.rg.drop i)=R)) (fun t _=>n - (intOf t).toNat)
 case atStart=>exact⟨0,by omega,rfl,HB,Below.refl _ _,HR⟩
 case round =>
  obtain⟨i,hi,rfl,HBR,HBW,HRR⟩:=hrel
  have y1:wr.cell? ⟨g+1,1,none⟩=some (.slice m.ra n m.rc):=cell_on HZ.out.1 HBW.out
  have y2:wr.cell? g¢1=some (.slice S.ra n S.rc):=cell_on HZ.out.2 HBW.out
  by_cases hlt:i < n
  ·have hlt':(i:Int) < (n:Int):=by omega
   have hmx:(i:Int)+1≤9223372036854775807:=by have h1:=HLR.out; have h2:=EN.out.2; omega
   have hlt1:i < S.rs.length:=by rw [EN.out.2]; exact hlt
   have hlt2:i < m.rg.length:=by rw [EN.out.1]; exact hlt
   obtain⟨b,o,ea,hat⟩:=(HL.out.1.1.on (mapz RegM.sz _) HBR.out).2.2 i (by rw [List.length_map]; exact hlt1)
   simp only [List.getElem_map] at hat
   obtain⟨b2,o2,ea2,hc2⟩:=modL_at (HL.out.2.on HBR.out) hlt2
   have HTK:Hid ((if holdB S.rs[i].t m.rg[i]=true then holdL (S.rs.drop (i+1)) (m.rg.drop (i+1)) else false)=R):=by show _=_; rw [← HRR.out,List.drop_eq_getElem_cons hlt1,List.drop_eq_getElem_cons hlt2]; rfl
   have hc1:wr.cell? ⟨b,o+i * 11+1,none⟩=some (zU S.rs[i].t):=hat 1 (by omega)
   obtain⟨T,eT⟩:∃ T,S.rs[i].t=T:=⟨_,rfl⟩
   obtain⟨u,eu⟩:∃ u,m.rg[i]=u:=⟨_,rfl⟩
   rw [eT] at hc1 HTK
   rw [eu] at hc2 HTK
   rw [ea2] at y1
   rw [ea] at y2
   have h0i:(0:Int)≤(i:Int):=by omega
   clear hat eu ea ea2 eT HRR hlt1 hlt2
   go_upto_region 8 with fail
   clear y1 y2 hc1 hc2
   by_cases h5:T=5
   ·subst h5
    by_cases c1:u < 0
    ·have HT2:Hid (R=false):=by show _=_; rw [← HTK.out,hold_5,show (u == 0)=false from beq_false_of_ne (by omega),show (u == 1)=false from beq_false_of_ne (by omega)]; rfl
     go_wp2_with fail
     go_ret
     exact⟨by rw [HT2.out]; rfl,HBR.out⟩
    by_cases c2:1 < u
    ·have HT2:Hid (R=false):=by show _=_; rw [← HTK.out,hold_5,show (u == 0)=false from beq_false_of_ne (by omega),show (u == 1)=false from beq_false_of_ne (by omega)]; rfl
     go_wp2_with fail
     go_ret
     exact⟨by rw [HT2.out]; rfl,HBR.out⟩
    have HT2:Hid (holdL (S.rs.drop (i+1)) (m.rg.drop (i+1))=R):=by
     show _=_
     rw [← HTK.out,if_pos]
     have:u=0∨u=1:=by omega
     rcases this with rfl | rfl <;> rfl
    go_wp2_with fail
    exact⟨⟨i+1,hlt,rfl,HBR,HBW,HT2⟩,by simp only [intOf]; omega⟩
   by_cases h6:T=6
   ·subst h6
    by_cases c1:u < 1
    ·have HT2:Hid (R=false):=by show _=_; rw [← HTK.out,hold_6,show (u == 1)=false from beq_false_of_ne (by omega),show (u == 2)=false from beq_false_of_ne (by omega)]; rfl
     go_wp2_with fail
     go_ret
     exact⟨by rw [HT2.out]; rfl,HBR.out⟩
    by_cases c2:2 < u
    ·have HT2:Hid (R=false):=by show _=_; rw [← HTK.out,hold_6,show (u == 1)=false from beq_false_of_ne (by omega),show (u == 2)=false from beq_false_of_ne (by omega)]; rfl
     go_wp2_with fail
     go_ret
     exact⟨by rw [HT2.out]; rfl,HBR.out⟩
    have HT2:Hid (holdL (S.rs.drop (i+1)) (m.rg.drop (i+1))=R):=by
     show _=_
     rw [← HTK.out,if_pos]
     have:u=1∨u=2:=by omega
     rcases this with rfl | rfl <;> rfl
    go_wp2_with fail
    exact⟨⟨i+1,hlt,rfl,HBR,HBW,HT2⟩,by simp only [intOf]; omega⟩
   have HT2:Hid (holdL (S.rs.drop (i+1)) (m.rg.drop (i+1))=R):=by
    show _=_
    rw [← HTK.out,if_pos (hold_n h5 h6)]
   have e5:(T == 5)=false:=beq_false_of_ne h5
   have e6:(T == 6)=false:=beq_false_of_ne h6
   clear h5 h6
   go_wp2_with fail
   exact⟨⟨i+1,hlt,rfl,HBR,HBW,HT2⟩,by simp only [intOf]; omega⟩
  ·obtain rfl:i=n:=by omega
   have hnot:¬ (i:Int) < (i:Int):=by omega
   have HT2:Hid (R=true):=by show _=_; rw [← HRR.out,List.drop_of_length_le (by have:=EN.out.2; omega)]; rfl
   go_wp2_with fail
   go_ret
   exact⟨by rw [HT2.out]; rfl,HBR.out⟩
theorem tys_at {L:yB→Option Int}:∀ (ks:List Nd) (ts:List Int),tysR L ks=.ok ts→∀ i (hi:i < ks.length),tyR L ks[i]=.ok (ts.getD i 0)
 | [],_,_,i,hi=>by simp at hi
 | k :: ks,ts,h,i,hi=>by
  unfold tysR at h
  cases e:tyR L k with
  | error c=>rw [e] at h; cases h
  | ok t =>
   rw [e] at h
   cases e2:tysR L ks with
   | error c=>simp only [e2] at h; cases h
   | ok us =>
    simp only [e2] at h
    cases h
    cases i with
    | zero=>exact e
    | succ i=>exact tys_at ks us e2 i (by simpa using hi)
theorem vals_at {s:Sx.Sn}{G:yB→Option Int}:∀ (ks:List Nd) i (hi:i < ks.length),(valsR s G ks).getD i (.ok 0)=valR s G ks[i]
 | [],i,hi=>by simp at hi
 | k :: ks,i,hi=>by
  cases i with
  | zero=>rfl
  | succ i=>exact vals_at ks i (by simpa using hi)
theorem tru_hold (b:Bool):holdB 5 (tru b)=true:=by cases b <;> rfl
theorem num_hold {t v:Int}(h:numY t=true):holdB t v=true:=by
 unfold numY at h
 simp only [Bool.and_eq_true,decide_eq_true_eq] at h
 exact hold_n (by omega) (by omega)
theorem hold5 {v:Int}(h:holdB 5 v=true):v=0∨v=1:=by
 rw [hold_5] at h
 simpa using h
theorem op2_tru {o a b v:Int}(ho:11≤o) (hv:op2 o a b=.ok v):holdB 5 v=true:=by
 unfold op2 at hv
 rw [if_neg (by omega),if_neg (by omega),if_neg (by omega),if_neg (by omega),if_neg (by omega),if_neg (by omega),if_neg (by omega)] at hv
 by_cases e1:o=11
 ·rw [if_pos e1] at hv; cases hv; exact tru_hold _
 rw [if_neg e1] at hv
 by_cases e2:o=12
 ·rw [if_pos e2] at hv; cases hv; exact tru_hold _
 rw [if_neg e2] at hv
 by_cases e3:o=13
 ·rw [if_pos e3] at hv; cases hv; exact tru_hold _
 rw [if_neg e3] at hv
 by_cases e4:o=14
 ·rw [if_pos e4] at hv; cases hv; exact tru_hold _
 rw [if_neg e4] at hv
 by_cases e5:o=15
 ·rw [if_pos e5] at hv; cases hv; exact tru_hold _
 ·rw [if_neg e5] at hv; cases hv; exact tru_hold _
theorem pair_hold {o a b u v:Int}{r1:Except Int Int}(h4:4≤o) (ht:(pairT o a b).2=true) (h0:holdB a u=true) (h1:∀ w,r1=.ok w→holdB b w=true) (hv:opR o (.ok u) r1=.ok v):holdB (pairT o a b).1 v=true:=by
 by_cases e8:o=8
 ·subst e8
  have hp:pairT 8 a b=prodT a b:=rfl
  rw [hp] at ht ⊢
  unfold prodT at ht ⊢
  by_cases a1:a=1
  ·subst a1
   exact num_hold ht
  have:(a == 1)=false:=beq_false_of_ne a1
  simp only [this] at ht ⊢
  by_cases b1:b=1
  ·subst b1
   exact num_hold ht
  have:(b == 1)=false:=beq_false_of_ne b1
  simp only [this] at ht ⊢
  exact hold_n (t:=1) (by decide) (by decide)
 by_cases e9:o=9
 ·subst e9
  have hp:pairT 9 a b=quotT a b:=rfl
  rw [hp] at ht ⊢
  unfold quotT at ht ⊢
  by_cases b1:b=1
  ·subst b1
   exact num_hold ht
  have:(b == 1)=false:=beq_false_of_ne b1
  simp only [this] at ht ⊢
  exact hold_n (t:=1) (by decide) (by decide)
 unfold pairT at ht ⊢
 rw [if_neg (by simpa using e8),if_neg (by simpa using e9)] at ht ⊢
 unfold opR at hv
 simp only at hv
 rw [if_neg (by omega)] at hv
 by_cases e17:o=17∨o=18
 ·rw [if_pos (by simpa using e17)] at ht ⊢
  simp only [Bool.and_eq_true,beq_iff_eq] at ht
  obtain⟨rfl,rfl⟩:=ht
  by_cases c1:o=17∧u=0
  ·rw [if_pos c1] at hv; cases hv; rfl
  rw [if_neg c1] at hv
  by_cases c2:o=18∧u=1
  ·rw [if_pos c2] at hv; cases hv; rfl
  rw [if_neg c2] at hv
  cases e:r1 with
  | error z=>rw [e] at hv; cases hv
  | ok w =>
   rw [e] at hv
   simp only at hv
   rw [if_pos e17] at hv
   cases hv
   exact h1 _ e
 rw [if_neg (by simpa using e17)] at ht ⊢
 rw [if_neg (by omega),if_neg (by omega)] at hv
 cases e:r1 with
 | error z=>rw [e] at hv; cases hv
 | ok w =>
  rw [e] at hv
  simp only at hv
  rw [if_neg e17] at hv
  by_cases c3:o=13∨o=14∨o=15∨o=16
  ·rw [if_pos (by simpa [or_assoc] using c3)] at ht ⊢
   cases en:numY a with
   | false=>rw [en] at ht; simp at ht
   | true=>exact op2_tru (by omega) hv
  rw [if_neg (by simpa [or_assoc] using c3)] at ht ⊢
  by_cases c4:o=11∨o=12
  ·rw [if_pos (by simpa using c4)] at ht ⊢
   exact op2_tru (by omega) hv
  rw [if_neg (by simpa using c4)] at ht ⊢
  simp only [Bool.and_eq_true] at ht
  exact num_hold ht.1
theorem alone_hold {o a u v:Int}{r1:Except Int Int}(h1:1≤o) (h3:o≤3) (ht:(aloneT o a).2=true) (h0:holdB a u=true) (hv:opR o (.ok u) r1=.ok v):holdB (aloneT o a).1 v=true:=by
 unfold opR at hv
 simp only at hv
 rw [if_pos h3] at hv
 unfold aloneT at ht ⊢
 by_cases e:o=2
 ·subst e
  simp only [beq_self_eq_true,if_true,beq_iff_eq] at ht ⊢
  subst ht
  unfold op1 at hv
  rw [if_neg (by decide),if_pos rfl] at hv
  cases hv
  rcases hold5 h0 with rfl | rfl <;> kernel_rfl
 ·have:(o == 2)=false:=beq_false_of_ne e
  simp only [this] at ht ⊢
  exact num_hold ht
theorem val_ty {s:Sx.Sn}{L G:yB→Option Int}(hG:∀ x t,L x=some t→holdB t ((G x).getD 0)=true):∀ (m:Nd),formB m=true→∀ t v,tyR L m=.ok t→valR s G m=.ok v→holdB t v=true:=by
 refine Nd.ind fun h a c ks ih hf t v ht hv=>?_
 simp only [formB,oneH,Bool.and_eq_true] at hf
 have hfb:=hf.1.2
 unfold tyR at ht
 cases ets:tysR L ks with
 | error z=>rw [ets] at ht; cases ht
 | ok ts =>
 simp only [ets] at ht
 have hT:=tys_at ks ts ets
 have hV:=fun i hi=>vals_at (s:=s) (G:=G) ks i hi
 have hI:∀ i (hi:i < ks.length) u,valR s G ks[i]=.ok u→holdB (ts.getD i 0) u=true:=fun i hi u hu=>ih _ (List.getElem_mem hi) (formsB_mem ks hf.2 _ (List.getElem_mem hi)) _ _ (hT i hi) hu
 unfold valR cmb at hv
 have hft:h.k≠2→(fitT h ks.length (ts.getD 0 0) (ts.getD 1 0) (ts.getD 2 0)).2=true∧t=(fitT h ks.length (ts.getD 0 0) (ts.getD 1 0) (ts.getD 2 0)).1:=fun hk=>by
  rw [if_neg (by simpa using hk)] at ht
  split at ht
  ·rename_i h2
   cases ht
   exact⟨h2,rfl⟩
  ·cases ht
 rcases fit_cases hfb with ⟨hk,hl⟩ | ⟨hk,hl⟩ | ⟨hk,hl,f1,f6⟩ | ⟨hk,hl,f1,f3⟩ | ⟨hk,hl,o1,o2⟩ | ⟨hk,hl,o6,o18⟩ | ⟨hk,hl⟩ | ⟨hk,hl,o3⟩ | ⟨hk,hl,o4,o5⟩ | ⟨hk,hl⟩
 ·rw [if_pos hk] at hv
  cases hv
  obtain⟨h2,rfl⟩:=hft (by omega)
  have hF:fitT h ks.length (ts.getD 0 0) (ts.getD 1 0) (ts.getD 2 0)=(h.t,true):=by simp [fitT,hk]
  rw [hF]
  unfold fitB at hfb
  rw [if_pos hk] at hfb
  simp only [Bool.and_eq_true] at hfb
  have hl2:=hfb.2
  unfold litB at hl2
  show holdB h.t h.n=true
  by_cases t5:h.t=5
  ·rw [if_pos t5] at hl2
   simp only [decide_eq_true_eq] at hl2
   rw [t5]
   have:h.n=0∨h.n=1:=by omega
   rcases this with e | e <;> rw [e] <;> rfl
  rw [if_neg t5] at hl2
  by_cases t6:h.t=6
  ·rw [if_pos t6] at hl2
   simp only [decide_eq_true_eq] at hl2
   rw [t6]
   have:h.n=1∨h.n=2:=by omega
   rcases this with e | e <;> rw [e] <;> rfl
  exact hold_n t5 t6
 ·rw [if_neg (by omega),if_pos hk] at hv
  cases hv
  rw [if_pos (by rw [hk]; rfl)] at ht
  cases eL:L h.x with
  | none=>rw [eL] at ht; cases ht
  | some u=>rw [eL] at ht; cases ht; exact hG _ _ eL
 ·obtain⟨h2,rfl⟩:=hft (by omega)
  have hF:fitT h ks.length (ts.getD 0 0) (ts.getD 1 0) (ts.getD 2 0)=(fldT h.f,true):=by simp [fitT,hk]
  rw [hF]
  show holdB (fldT h.f) v=true
  have:h.f=1∨h.f=2∨h.f=3∨h.f=4∨h.f=5∨h.f=6:=by omega
  rcases this with e | e | e | e | e | e <;> rw [e] <;> exact hold_n (by decide) (by decide)
 ·obtain⟨h2,rfl⟩:=hft (by omega)
  have hF:fitT h ks.length (ts.getD 0 0) (ts.getD 1 0) (ts.getD 2 0)=(5,true):=by simp [fitT,hk]
  rw [hF]
  rw [if_neg (by omega),if_neg (by omega),if_neg (by omega),if_pos hk] at hv
  cases hv
  exact tru_hold _
 ·obtain⟨h2,rfl⟩:=hft (by omega)
  have hF:fitT h ks.length (ts.getD 0 0) (ts.getD 1 0) (ts.getD 2 0)=aloneT h.o (ts.getD 0 0):=by simp [fitT,hk,hl]
  rw [hF] at h2 ⊢
  rw [if_neg (by omega),if_neg (by omega),if_neg (by omega),if_neg (by omega),if_neg (by omega),if_neg (by omega),hV 0 (by omega)] at hv
  cases e0:valR s G ks[0] with
  | error z=>rw [e0] at hv; unfold opR at hv; cases hv
  | ok u=>rw [e0] at hv; exact alone_hold (by omega) (by omega) h2 (hI 0 (by omega) u e0) hv
 ·obtain⟨h2,rfl⟩:=hft (by omega)
  have hF:fitT h ks.length (ts.getD 0 0) (ts.getD 1 0) (ts.getD 2 0)=pairT h.o (ts.getD 0 0) (ts.getD 1 0):=by simp [fitT,hk,hl]
  rw [hF] at h2 ⊢
  rw [if_neg (by omega),if_neg (by omega),if_neg (by omega),if_neg (by omega),if_neg (by omega),if_neg (by omega),hV 0 (by omega),hV 1 (by omega)] at hv
  cases e0:valR s G ks[0] with
  | error z=>rw [e0] at hv; unfold opR at hv; cases hv
  | ok u=>rw [e0] at hv; exact pair_hold (by omega) h2 (hI 0 (by omega) u e0) (fun w hw=>hI 1 (by omega) w hw) hv
 ·obtain⟨h2,rfl⟩:=hft (by omega)
  have hF:fitT h ks.length (ts.getD 0 0) (ts.getD 1 0) (ts.getD 2 0)=(ts.getD 1 0,ts.getD 0 0 == 5 && ts.getD 1 0 == ts.getD 2 0):=by simp [fitT,hk]
  rw [hF] at h2 ⊢
  simp only [Bool.and_eq_true,beq_iff_eq] at h2
  rw [if_neg (by omega),if_neg (by omega),if_neg (by omega),if_neg (by omega),if_pos hk,hV 0 (by omega),hV 1 (by omega),hV 2 (by omega)] at hv
  unfold cndR at hv
  cases e0:valR s G ks[0] with
  | error z=>rw [e0] at hv; cases hv
  | ok u =>
   rw [e0] at hv
   simp only at hv
   split at hv
   ·exact hI 1 (by omega) _ hv
   ·have:=hI 2 (by omega) _ hv
    rw [← h2.2] at this
    exact this
 ·obtain⟨h2,rfl⟩:=hft (by omega)
  have hF:fitT h ks.length (ts.getD 0 0) (ts.getD 1 0) (ts.getD 2 0)=aloneT h.o (ts.getD 0 0):=by simp [fitT,hk,hl]
  rw [hF] at h2 ⊢
  rw [if_neg (by omega),if_neg (by omega),if_neg (by omega),if_neg (by omega),if_neg (by omega),if_neg (by omega),hV 0 (by omega)] at hv
  cases e0:valR s G ks[0] with
  | error z=>rw [e0] at hv; unfold opR at hv; cases hv
  | ok u=>rw [e0] at hv; exact alone_hold (by omega) (by omega) h2 (hI 0 (by omega) u e0) hv
 ·obtain⟨h2,rfl⟩:=hft (by omega)
  have hF:fitT h ks.length (ts.getD 0 0) (ts.getD 1 0) (ts.getD 2 0)=pairT h.o (ts.getD 0 0) (ts.getD 1 0):=by simp [fitT,hk,hl]
  rw [hF] at h2 ⊢
  rw [if_neg (by omega),if_neg (by omega),if_neg (by omega),if_neg (by omega),if_neg (by omega),if_neg (by omega),hV 0 (by omega),hV 1 (by omega)] at hv
  cases e0:valR s G ks[0] with
  | error z=>rw [e0] at hv; unfold opR at hv; cases hv
  | ok u=>rw [e0] at hv; exact pair_hold (by omega) h2 (hI 0 (by omega) u e0) (fun w hw=>hI 1 (by omega) w hw) hv
 ·obtain⟨h2,rfl⟩:=hft (by omega)
  have hF:fitT h ks.length (ts.getD 0 0) (ts.getD 1 0) (ts.getD 2 0)=(h.t,numY (ts.getD 0 0)):=by simp [fitT,hk]
  rw [hF]
  unfold fitB at hfb
  rw [if_neg (by omega),if_neg (by omega),if_neg (by omega),if_neg (by omega),if_neg (by omega),if_neg (by omega),if_neg (by omega),if_neg (by omega),if_pos hk] at hfb
  simp only [Bool.and_eq_true] at hfb
  have hn:=hfb.2
  unfold numB at hn
  simp only [decide_eq_true_eq] at hn
  show holdB h.t v=true
  exact hold_n (by omega) (by omega)
theorem plA_at:∀ (l:List yB) (P:yB→Option Nat) (i:Nat) (y:yB) (j:Nat),plA P i l y=some j→P y=some j∨(i≤j∧l[j - i]? = some y)
 | [],P,i,y,j,h=>.inl h
 | x :: xs,P,i,y,j,h=>by
  rcases plA_at xs _ (i+1) y j h with h1 | ⟨h1,h2⟩
  ·by_cases e:x=y
   ·simp only [e,if_true] at h1
    cases h1
    exact .inr ⟨Nat.le_refl _,by simp [e]⟩
   ·simp only [if_neg e] at h1
    exact .inl h1
  ·refine .inr ⟨by omega,?_⟩
   obtain⟨k,ek⟩:∃ k,j - i=k+1:=⟨j - i - 1,by omega⟩
   rw [ek,List.getElem?_cons_succ]
   rw [show j - (i+1)=k by omega] at h2
   exact h2
theorem plL_at {l:List yB}{y:yB}{j:Nat}(h:plL l y=some j):l[j]? = some y:=by
 rcases plA_at l _ 0 y j h with h1 | ⟨_,h1⟩
 ·cases h1
 ·simpa using h1
theorem regL_app {l:List RegM}{r:RegM}{x:yB}(h:regL (l ++ [r]) x=none):regL l x=none∧¬ r.x=x:=by
 unfold regL at h ⊢
 rw [List.find?_append] at h
 cases e:l.find? (fun r=>decide (r.x=x)) with
 | some z=>rw [e] at h; simp at h
 | none =>
  rw [e] at h
  refine⟨rfl,fun e2=>?_⟩
  simp [e2] at h
theorem dRegs_nodup:∀ (rs l:List RegM),dRegs l rs=none→(rs.map RegM.x).Nodup∧∀ r ∈ rs,regL l r.x=none
 | [],l,_=>⟨List.nodup_nil,fun r hr=>by cases hr⟩
 | y :: rs,l,h=>by
  unfold dRegs at h
  by_cases e:(regL l y.x).isSome=true
  ·rw [if_pos e] at h; cases h
  rw [if_neg e] at h
  split at h
  ·obtain⟨h1,h2⟩:=dRegs_nodup rs (l ++ [y]) h
   refine⟨?_,fun r hr=>?_⟩
   ·rw [List.map_cons,List.nodup_cons]
    refine⟨fun hm=>?_,h1⟩
    obtain⟨r,hr,er⟩:=List.mem_map.1 hm
    exact (regL_app (h2 r hr)).2 er.symm
   ·rcases List.mem_cons.1 hr with rfl | hr
    ·cases e2:regL l r.x with
     | none=>rfl
     | some z=>rw [e2] at e; simp at e
    ·exact (regL_app (h2 r hr)).1
  ·cases h
theorem regL_at {l:List RegM}{x:yB}{t:Int}(h:regL l x=some t):∃ i,∃ hi:i < l.length,l[i].x=x∧l[i].t=t:=by
 unfold regL at h
 obtain⟨r,hr,rfl⟩:=Option.map_eq_some_iff.1 h
 have h1:=List.find?_some hr
 obtain⟨i,hi,e⟩:=List.mem_iff_getElem.1 (List.mem_of_find?_eq_some hr)
 exact⟨i,hi,by rw [e]; exact of_decide_eq_true h1,by rw [e]⟩
theorem holdL_at:∀ (rs:List RegM) (vs:List Int),holdL rs vs=true→∀ i (h1:i < rs.length) (h2:i < vs.length),holdB rs[i].t vs[i]=true
 | [],_,_,i,h1,_=>by simp at h1
 | r :: rs,[],_,i,_,h2=>by simp at h2
 | r :: rs,v :: vs,h,i,h1,h2=>by
  unfold holdL at h
  by_cases e:holdB r.t v=true
  ·rw [if_pos e] at h
   cases i with
   | zero=>exact e
   | succ i=>exact holdL_at rs vs h i (by simpa using h1) (by simpa using h2)
  ·rw [if_neg e] at h; cases h
theorem holdL_set:∀ (rs:List RegM) (vs:List Int),holdL rs vs=true→∀ i (h1:i < rs.length) v,holdB rs[i].t v=true→holdL rs (vs.set i v)=true
 | [],_,_,i,h1,v,_=>by simp at h1
 | r :: rs,[],_,i,_,v,_=>rfl
 | r :: rs,u :: vs,h,i,h1,v,hv=>by
  unfold holdL at h
  by_cases e:holdB r.t u=true
  ·rw [if_pos e] at h
   cases i with
   | zero =>
    show holdL (r :: rs) (v :: vs)=true
    unfold holdL
    rw [if_pos (show holdB r.t v=true from hv)]
    exact h
   | succ i =>
    show holdL (r :: rs) (u :: vs.set i v)=true
    unfold holdL
    rw [if_pos e]
    exact holdL_set rs vs h i (by simpa using h1) v hv
  ·rw [if_neg e] at h; cases h
structure RegK (S:StratM) (rg:List Int):Prop where
 nd:(S.rs.map RegM.x).Nodup
 ln:rg.length=S.rs.length
 hd:holdL S.rs rg=true
theorem RegK.at {S:StratM}{rg:List Int}(h:RegK S rg) {x:yB}{t:Int}(e:regL S.rs x=some t):∃ i,∃ hi:i < S.rs.length,plL (S.rs.map RegM.x) x=some i∧S.rs[i].t=t:=by
 obtain⟨i,hi,e1,e2⟩:=regL_at e
 have h1:=regL_pl (l:=S.rs) (y:=x) (by rw [e]; rfl)
 obtain⟨j,hj⟩:=Option.isSome_iff_exists.1 h1
 have h2:=plL_at hj
 have h3:(S.rs.map RegM.x)[i]? = some x:=by rw [List.getElem?_map,List.getElem?_eq_getElem hi,Option.map_some,e1]
 have hl:i < (S.rs.map RegM.x).length:=by rw [List.length_map]; exact hi
 obtain rfl:=(List.getElem?_inj hl h.nd).1 (h3.trans h2.symm)
 exact⟨i,hi,hj,e2⟩
theorem RegK.ty {S:StratM}{rg:List Int}{s:Sx.Sn}(h:RegK S rg):∀ x t,regL S.rs x=some t→holdB t ((gOf (cxOf S s).P rg x).getD 0)=true:=fun x t e=>by
 obtain⟨i,hi,e1,e2⟩:=h.at e
 have hg:gOf (cxOf S s).P rg x=rg[i]?:=by
  unfold gOf
  rw [show (cxOf S s).P x=some i from e1]
  rfl
 rw [hg,List.getElem?_eq_getElem (by rw [h.ln]; exact hi),Option.getD_some,← e2]
 exact holdL_at _ _ h.hd i hi (by rw [h.ln]; exact hi)
theorem RegK.put {S:StratM}{rg:List Int}(h:RegK S rg) {i:Nat}(hi:i < S.rs.length) {v:Int}(hv:holdB S.rs[i].t v=true):RegK S (rg.set i v):=⟨h.nd,by rw [List.length_set]; exact h.ln,holdL_set _ _ h.hd i hi v hv⟩
def DoC (S:StratM) (d:DoM):Prop:=doE d=0∧standB (regL S.rs) (S.ss.map SlotM.x) (S.ts.map StateM.x) d.k d.x=true∧psE (regL S.rs) (ptsL (regL S.rs) d)=none
theorem doN_rk {S:StratM}{s:Sx.Sn}{q q':Tm}{d:DoM}(hc:DoC S d) (h:RegK S q.rg) (he:doN (cxOf S s) q d=.ok q'):RegK S q'.rg:=by
 unfold doN at he
 split at he
 ·split at he
  ·cases he
  ·cases he; exact h
 split at he
 ·split at he
  ·cases he
  ·cases he; exact h
 split at he
 ·cases he; exact h
 split at he
 ·rename_i hk
  cases ev:valR (cxOf S s).s (gOf (cxOf S s).P q.rg) d.vl with
  | error c=>rw [ev] at he; cases he
  | ok v =>
   rw [ev] at he
   cases he
   have hs:=hc.2.1
   unfold standB at hs
   rw [hk] at hs
   have hs:(regL S.rs d.x).isSome=true:=hs
   obtain⟨t,et⟩:=Option.isSome_iff_exists.1 hs
   obtain⟨i,hi,e1,e2⟩:=h.at et
   show RegK S (q.rg.set (((cxOf S s).P d.x).getD 0) v)
   rw [show (cxOf S s).P d.x=some i from e1,Option.getD_some]
   refine h.put hi ?_
   have hp:=hc.2.2
   have hf:formB d.vl=true:=by
    have h1:=hc.1
    unfold doE at h1
    have h3:=(fs_0 (fs_0 (fs_0 h1).2).2).2
    have a3:=fs_0 (fs_0 (fs_0 h3).2).2
    exact part_form a3.2 (by unfold ndV; simp [hk])
   unfold ptsL at hp
   rw [hk,if_neg (by decide),if_neg (by decide),if_pos (by rfl),et] at hp
   unfold psE at hp
   cases ep:pcE (regL S.rs) (d.vl,(some t).getD 0) with
   | some c=>rw [ep] at hp; cases hp
   | none =>
    unfold pcE at ep
    cases e3:tyR (regL S.rs) d.vl with
    | error c=>simp only [e3] at ep; cases ep
    | ok u =>
     simp only [e3] at ep
     split at ep
     ·rename_i hu
      have hu:u=t:=hu
      rw [e2,← hu]
      exact val_ty (s:=(cxOf S s).s) (G:=gOf (cxOf S s).P q.rg) h.ty d.vl hf u v e3 ev
     ·cases ep
 split at he
 ·cases he; exact h
 ·cases he; exact h
theorem doN_su {x:Cx}{q q':Tm}{d:DoM}(h:q.su=1∨q.su=2) (he:doN x q d=.ok q'):q'.su=1∨q'.su=2:=by
 unfold doN at he
 split at he
 ·split at he
  ·cases he
  ·cases he; exact h
 split at he
 ·split at he
  ·cases he
  ·cases he; exact h
 split at he
 ·cases he; exact h
 split at he
 ·split at he
  ·cases he
  ·cases he; exact h
 split at he
 ·cases he; exact h
 ·cases he; exact .inr rfl
theorem dosN_rk {S:StratM}{s:Sx.Sn}:∀ (ds:List DoM) (q q':Tm),(∀ d ∈ ds,DoC S d)→RegK S q.rg→(q.su=1∨q.su=2)→dosN (cxOf S s) q ds=.ok q'→RegK S q'.rg∧(q'.su=1∨q'.su=2)
 | [],q,q',_,h,hs,he=>by cases he; exact⟨h,hs⟩
 | d :: ds,q,q',hc,h,hs,he=>by
  cases e:doN (cxOf S s) q d with
  | error c=>rw [dosN_err e] at he; cases he
  | ok q1 =>
   rw [dosN_ok e] at he
   exact dosN_rk ds q1 q' (fun d hd=>hc d (List.mem_cons_of_mem _ hd)) (doN_rk (hc d (List.mem_cons_self ..)) h e) (doN_su hs e) he
theorem fireN_rk {S:StratM}{s:Sx.Sn}{q:Tm}(h:RegK S q.rg) (hs:q.su=1∨q.su=2):∀ (rs:List RuleM) (i:Nat) (iq:Int × Tm),(∀ r ∈ rs,∀ d ∈ r.ds,DoC S d)→fireN (cxOf S s) q i rs=.ok iq→RegK S iq.2.rg∧(iq.2.su=1∨iq.2.su=2)∧(iq.1 = -1∨(0≤iq.1∧iq.1 < i+rs.length))
 | [],i,iq,_,he=>by cases he; exact⟨h,hs,.inl rfl⟩
 | r :: rs,i,iq,hc,he=>by
  unfold fireN at he
  cases e:valR (cxOf S s).s (gOf (cxOf S s).P q.rg) r.m with
  | error z=>simp only [e] at he; cases he
  | ok v =>
   simp only [e] at he
   split at he
   ·cases e2:dosN (cxOf S s) q r.ds with
    | error z=>simp only [e2] at he; cases he
    | ok q' =>
     simp only [e2] at he
     cases he
     have h1:=dosN_rk r.ds q q' (hc r (List.mem_cons_self ..)) h hs e2
     exact⟨h1.1,h1.2,.inr ⟨by omega,by simp only [List.length_cons]; omega⟩⟩
   ·have h1:=fireN_rk h hs rs (i+1) iq (fun r hr=>hc r (List.mem_cons_of_mem _ hr)) he
    refine⟨h1.1,h1.2.1,h1.2.2.imp_right fun h2=>⟨h2.1,?_⟩⟩
    have:=h2.2
    simp only [List.length_cons]
    omega
theorem doC_of {S:StratM}(h:chkE S=none):∀ x ∈ S.ts,∀ r ∈ x.rs,∀ d ∈ r.ds,DoC S d:=fun x hx r hr d hd=>by
 obtain⟨h1,_,h3⟩:=chk_parts h
 have hru:=rus_mem _ (sts_mem _ h3 x hx) r hr
 unfold stratE at h1
 have a1:=fs_0 (fs_0 (fs_0 h1).2).2
 have a2:=(fs_0 (fs_0 (fs_0 a1.2).2).2).2
 have hx0:=fsL_0 _ a2 _ (List.mem_map.2 ⟨x,hx,rfl⟩)
 unfold stateE at hx0
 have hr0:=fsL_0 _ (fs_0 (fs_0 hx0).2).2 _ (List.mem_map.2 ⟨r,hr,rfl⟩)
 unfold ruleE at hr0
 have b2:=fs_0 (fs_0 hr0).2
 unfold ruE at hru
 cases ep:pcE (regL S.rs) (r.m,5) with
 | some c=>rw [ep] at hru; cases hru
 | none =>
  rw [ep] at hru
  have hdd:=dos_mem _ _ hru d hd
  exact⟨fsL_0 _ b2.2 _ (List.mem_map.2 ⟨d,hd,rfl⟩),hdd.1,hdd.2⟩
theorem regs_nd {S:StratM}(h:chkE S=none):(S.rs.map RegM.x).Nodup:=by
 have h1:=(chk_parts h).2.1
 unfold decE at h1
 cases e:dRegs [] S.rs with
 | some c=>rw [e] at h1; cases h1
 | none=>exact (dRegs_nodup S.rs [] e).1
theorem isMo_of {S:StratM}{m:ModM}(h:isMo S m=true):0≤m.st∧m.st < S.ts.length∧m.rg.length=S.rs.length∧holdL S.rs m.rg=true:=by
 unfold isMo at h
 simp only [Bool.and_eq_true,decide_eq_true_eq] at h
 exact h
theorem isMo_mk {S:StratM}{m:ModM}(h:0≤m.st∧m.st < S.ts.length∧m.rg.length=S.rs.length∧holdL S.rs m.rg=true):isMo S m=true:=by
 unfold isMo
 simp only [Bool.and_eq_true,decide_eq_true_eq]
 exact h
theorem wr_0 {S:StratM}{m:ModM}{s:Sx.Sn}(h:wrN S m s=0):erN S=0∧isMo S m=true∧Sx.chkN s=0:=by
 unfold wrN at h
 by_cases h2:erN S=0
 ·rw [if_pos h2] at h
  cases h3:isMo S m with
  | true=>rw [h3] at h; exact⟨h2,rfl,h⟩
  | false=>rw [h3] at h; simp at h
 ·rw [if_neg h2] at h; exact absurd h h2
theorem modes_plain (S:StratM) (m:ModM) (s:Sx.Sn) (gr:Bool) (r:TuR) (hr:turnN S m s gr=r) :
  (r.no≠0∧r.st=0∧r.rg = [])∨(r.no=0∧(0≤m.st∧m.st < S.ts.length)∧(0≤r.st∧r.st < S.ts.length∧r.rg.length=S.rs.length∧holdL S.rs r.rg=true)∧((r.su=3∧r.co≠0∧r.ru = -1)∨(r.su≠3∧r.co=0)) ∧
   (((r.ru < 0∨r.rf=true)∧r.st=m.st∧r.rg=m.rg∧r.ac = [])∨(¬ r.ru < 0∧r.rf=false∧r.ru < (rulesOf S m.st).length∧r.co=0∧(r.su=1∨r.su=2)))):=by
 subst hr
 unfold turnN
 by_cases h:wrN S m s=0
 ·rw [if_pos h]
  right
  obtain⟨h1,h2,_⟩:=wr_0 h
  have hC:=er_0 h1
  have hm:=isMo_of h2
  have hk:RegK S (tmOf m).rg:=⟨regs_nd hC,hm.2.2.1,hm.2.2.2⟩
  have hd:∀ r ∈ rulesOf S m.st,∀ d ∈ r.ds,DoC S d:=by
   unfold rulesOf
   cases e:S.ts[m.st.toNat]? with
   | none=>intro r hr; cases hr
   | some X=>exact fun r hr=>doC_of hC X (List.mem_of_getElem? e) r hr
  cases e:fireN (cxOf S s) (tmOf m) 0 (rulesOf S m.st) with
  | error c=>exact⟨rfl,⟨hm.1,hm.2.1⟩,hm,.inl ⟨rfl,fire_err _ _ _ e,rfl⟩,.inl ⟨.inl (by show (-1:Int) < 0; decide),rfl,rfl,rfl⟩⟩
  | ok iq =>
   have hf:=fireN_rk (s:=s) hk (.inl rfl) (rulesOf S m.st) 0 iq hd e
   have hs:=fireN_keep (N:=(S.ts.length:Int)) cxT_lt (q:=tmOf m) ⟨hm.1,hm.2.1⟩ (rulesOf S m.st) 0 iq e
   obtain⟨i,q⟩:=iq
   unfold turnF
   simp only
   by_cases e1:i = -1
   ·rw [if_pos e1]
    exact⟨rfl,⟨hm.1,hm.2.1⟩,hm,.inr ⟨by show ¬ (1:Int)=3; decide,rfl⟩,.inl ⟨.inl (by show (-1:Int) < 0; decide),rfl,rfl,rfl⟩⟩
   rw [if_neg e1]
   have hi:0≤i∧i < (rulesOf S m.st).length:=by
    rcases hf.2.2 with h3 | h3
    ·exact absurd h3 e1
    ·exact⟨h3.1,by have:=h3.2; omega⟩
   by_cases e2:q.ac.isEmpty=false∧gr=false
   ·rw [if_pos e2]
    exact⟨rfl,⟨hm.1,hm.2.1⟩,hm,.inr ⟨by show ¬ (1:Int)=3; decide,rfl⟩,.inl ⟨.inr rfl,rfl,rfl,rfl⟩⟩
   ·rw [if_neg e2]
    have h4:=hf.2.1
    have h4:q.su=1∨q.su=2:=h4
    exact⟨rfl,⟨hm.1,hm.2.1⟩,⟨hs.1.1,hs.1.2,hf.1.ln,hf.1.hd⟩,.inr ⟨by show ¬ q.su=3; omega,rfl⟩,.inr ⟨by show ¬ i < 0; omega,rfl,hi.2,rfl,h4⟩⟩
 ·rw [if_neg h]
  exact .inl ⟨h,rfl,rfl⟩
theorem modes_any (S:StratM) (m:ModM) (s:Sx.Sn) (gr:Bool) (w:yW) (hl:StratL w S) (hm:ModL w m) (hi:∀ f,I64 (Sx.getN s f)) (ht:Tab w) (hf:FTab w) (hg:Ety w) :
  Calls zG 7 #[.agg S.vals,.agg m.vals,.agg (Sx.snA s),.bool gr] w fun e w'=>e=.returned (.bool true)∧yD w w':=by
 obtain⟨h3,hb3,hz3⟩:=bx3_new w S m s
 obtain⟨W,eW⟩:∃ W,((w.alloc (.cells S.vals 26)).alloc (.cells m.vals 29)).alloc (.cells (Sx.snA s) 31)=W:=⟨_,rfl⟩
 have EW:Hid (((w.alloc (.cells S.vals 26)).alloc (.cells m.vals 29)).alloc (.cells (Sx.snA s) 31)=W):=eW
 rw [eW] at h3 hb3 hz3
 have HT:Hid (Tab W∧FTab W∧Ety W):=⟨ht.on hb3,hf.on hb3,hg.on hb3⟩
 obtain⟨g,eg⟩:∃ g,w§=g:=⟨_,rfl⟩
 have HG:Hid (w§=g):=eg
 rw [eg] at h3
 have HB:Hid (yD w W):=hb3
 have H3:Hid (Bx3 W S m s g):=h3
 have HI:Hid (∀ f,I64 (Sx.getN s f)):=hi
 have HL:Hid (StratL W S∧ModL W m):=⟨hl.on hb3,hm.on hb3⟩
 clear h3 hb3 hz3 eW hl hm hi ht hf hg eg
 go_enter Tryz.func7,Tryz.ntmps7
 go_upto_region 1 with fail
 rw [EW.out,HG.out]
 clear EW
 go_wp2_with fail
 refine (awake_any W HT.out.1 HT.out.2.1 HT.out.2.2).mono ?_
 rintro e w1 ⟨rfl,hb⟩
 have HB1:Hid (yD w w1):=below2 HB.out hb
 have H31:Hid (Bx3 w1 S m s g):=H3.out.on hb
 have HT1:Hid (Tab w1∧FTab w1∧Ety w1):=⟨HT.out.1.on hb,HT.out.2.1.on hb,HT.out.2.2.on hb⟩
 have HL1:Hid (StratL w1 S∧ModL w1 m):=⟨HL.out.1.on hb,HL.out.2.on hb⟩
 have cF:Calls zG 9 #[.agg S.vals,.agg m.vals,.agg zNo] w1 fun e w'=>(∃ f:Bool,e=.returned (.bool f)∧(f=false→StratZ S∧m.rg.length≤65536∧size nd0T≤65536))∧yD w1 w':=far_any S m nd0T w1 HL1.out.1 (lies0T w1)
 clear hb HB HT HL H3
 go_wp2_with (first | (refine wpList_load_row rfl 26 (.tmp 4) rfl g rfl 26 S.vals (0,0) _ H31.out.a Tryz.underlying26 rfl (size26 S) ?_) | (refine wpList_load_row rfl 29 (.tmp 5) rfl (g+1) rfl 29 m.vals (0,0) _ H31.out.b Tryz.underlying29 rfl (size29 m) ?_))
 refine cF.mono ?_
 rintro e w2 ⟨⟨f,rfl,hz⟩,hb⟩
 have HB2:Hid (yD w w2):=below2 HB1.out hb
 have H32:Hid (Bx3 w2 S m s g):=H31.out.on hb
 have HT2:Hid (Tab w2∧FTab w2∧Ety w2):=⟨HT1.out.1.on hb,HT1.out.2.1.on hb,HT1.out.2.2.on hb⟩
 have HL2:Hid (StratL w2 S∧ModL w2 m):=⟨HL1.out.1.on hb,HL1.out.2.on hb⟩
 have HZ:Hid (f=false→StratZ S∧m.rg.length≤65536∧size nd0T≤65536):=hz
 clear hb hz cF HB1 HT1 HL1 H31
 cases f with
 | true =>
  go_wp2_with fail
  go_ret
  exact⟨rfl,HB2.out⟩
 | false =>
 have HZ2:Hid (StratZ S∧m.rg.length≤65536):=⟨(HZ.out rfl).1,(HZ.out rfl).2.1⟩
 clear HZ
 obtain⟨r,hr⟩:∃ r,turnN S m s gr=r:=⟨_,rfl⟩
 have HP:=modes_plain S m s gr r hr
 obtain⟨no,ru,rf,ac,su,co,st,rg⟩:=r
 simp only at HP
 rcases HP with ⟨h1,rfl,rfl⟩ | ⟨rfl,hms,hmo,hsc,hfi⟩
 ·have c1:Calls zG 20 #[.agg S.vals,.agg m.vals,.agg (Sx.snA s),.bool gr] w2 (fun e w'=>∃ fa fc ka kc,e=.returned (.tuple #[.agg #[zI ru,.bool rf,.slice fa ac.length fc,zU su,zI co,zI 0],.agg #[zI 0,.slice ka 0 kc],zI no])∧SlAt w' 6 fa fc ac∧ModL w' ⟨0,ka,kc,([]:List Int)⟩∧yD w2 w') :=
   turn_lit ⟨no,ru,rf,ac,su,co,0,([]:List Int)⟩ hr HL2.out.1 HZ2.out.1 HL2.out.2 HZ2.out.2 HI.out HT2.out.1 HT2.out.2.1 HT2.out.2.2
  clear hr
  go_wp2_with (first | (refine wpList_load_row rfl 26 (.tmp 4) rfl g rfl 26 S.vals (0,0) _ H32.out.a Tryz.underlying26 rfl (size26 S) ?_) | (refine wpList_load_row rfl 29 (.tmp 5) rfl (g+1) rfl 29 m.vals (0,0) _ H32.out.b Tryz.underlying29 rfl (size29 m) ?_) | (refine wpList_load_row rfl 31 (.tmp 6) rfl (g+2) rfl 31 (Sx.snA s) (0,0) _ H32.out.c Tryz.underlying31 rfl (size31 s) ?_))
  refine c1.mono ?_
  rintro e w' ⟨fa,fc,ka,kc,rfl,hs,hm,hb1⟩
  obtain⟨hn3,hn4,hb2⟩:=two_new w' #[zI ru,.bool rf,.slice fa ac.length fc,zU su,zI co,zI 0] #[zI 0,.slice ka 0 kc] 59 29
  go_upto_region 6 with fail
  generalize (w'.alloc (.cells #[zI ru,.bool rf,.slice fa ac.length fc,zU su,zI co,zI 0] 59)).alloc (.cells #[zI 0,.slice ka 0 kc] 29)=W3 at hb2 hn3 hn4 ⊢
  generalize w'§=A at hn3 hn4 ⊢
  have hbb:=below2 hb1 hb2
  have HB3:Hid (yD w W3):=below2 HB2.out hbb
  have y0:W3.cell? ⟨A+1,0,none⟩=some (zI 0):=cell_of hn4 0
  have y1:W3.cell? ⟨A+1,1,none⟩=some (.slice ka 0 kc):=cell_of hn4 1
  clear hs hm hb1 hb2 hn3 hn4 hbb c1
  go_wp2_with fail
  go_ret
  exact⟨rfl,HB3.out⟩
 ·have HPL:Hid ((0≤m.st∧m.st < S.ts.length)∧(0≤st∧st < S.ts.length∧rg.length=S.rs.length∧holdL S.rs rg=true)∧((su=3∧co≠0∧ru = -1)∨(su≠3∧co=0))∧(((ru < 0∨rf=true)∧st=m.st∧rg=m.rg∧ac = [])∨(¬ ru < 0∧rf=false∧ru < (rulesOf S m.st).length∧co=0∧(su=1∨su=2)))):=⟨hms,hmo,hsc,hfi⟩
  have c1:Calls zG 20 #[.agg S.vals,.agg m.vals,.agg (Sx.snA s),.bool gr] w2 (fun e w'=>∃ fa fc ka kc,e=.returned (.tuple #[.agg #[zI ru,.bool rf,.slice fa ac.length fc,zU su,zI co,zI 0],.agg #[zI st,.slice ka rg.length kc],zI 0])∧SlAt w' 6 fa fc ac∧ModL w' ⟨st,ka,kc,rg⟩∧yD w2 w') :=
   turn_lit ⟨0,ru,rf,ac,su,co,st,rg⟩ hr HL2.out.1 HZ2.out.1 HL2.out.2 HZ2.out.2 HI.out HT2.out.1 HT2.out.2.1 HT2.out.2.2
  clear hr hms hmo hsc hfi
  go_wp2_with (first | (refine wpList_load_row rfl 26 (.tmp 4) rfl g rfl 26 S.vals (0,0) _ H32.out.a Tryz.underlying26 rfl (size26 S) ?_) | (refine wpList_load_row rfl 29 (.tmp 5) rfl (g+1) rfl 29 m.vals (0,0) _ H32.out.b Tryz.underlying29 rfl (size29 m) ?_) | (refine wpList_load_row rfl 31 (.tmp 6) rfl (g+2) rfl 31 (Sx.snA s) (0,0) _ H32.out.c Tryz.underlying31 rfl (size31 s) ?_))
  refine c1.mono ?_
  rintro e w' ⟨fa,fc,ka,kc,rfl,hs,hm,hb1⟩
  obtain⟨hn3,hn4,hb2⟩:=two_new w' #[zI ru,.bool rf,.slice fa ac.length fc,zU su,zI co,zI 0] #[zI st,.slice ka rg.length kc] 59 29
  go_upto_region 6 with fail
  generalize (w'.alloc (.cells #[zI ru,.bool rf,.slice fa ac.length fc,zU su,zI co,zI 0] 59)).alloc (.cells #[zI st,.slice ka rg.length kc] 29)=W3 at hb2 hn3 hn4 ⊢
  generalize w'§=A at hn3 hn4 ⊢
  have hbb:=below2 hb1 hb2
  have HB3:Hid (yD w W3):=below2 HB2.out hbb
  have H33:Hid (Bx3 W3 S m s g):=H32.out.on hbb
  have HT3:Hid (Tab W3∧FTab W3∧Ety W3):=⟨HT2.out.1.on hbb,HT2.out.2.1.on hbb,HT2.out.2.2.on hbb⟩
  have HL3:Hid (StratL W3 S∧ModL W3 m):=⟨HL2.out.1.on hbb,HL2.out.2.on hbb⟩
  have HX3:Hid (W3.heap[A]? = (zC #[zI ru,.bool rf,.slice fa ac.length fc,zU su,zI co,zI 0] 59)∧W3.heap[A+1]? = (zC #[zI st,.slice ka rg.length kc] 29)∧ModL W3 ⟨st,ka,kc,rg⟩):=⟨hn3,hn4,hm.on hb2⟩
  clear hs hm hb1 hb2 hn3 hn4 hbb c1
  have c2:Calls zG 13 #[.agg S.vals,.agg #[zI st,.slice ka rg.length kc]] W3 fun e w'=>e=.returned (.bool true)∧yD W3 w':=by
   have c:=rmode_any S ⟨st,ka,kc,rg⟩ W3 HL3.out.1 HX3.out.2.2
   rw [isMo_mk (by exact HPL.out.2.1)] at c
   exact c
  go_wp2_with (first | (refine wpList_load_row rfl 26 (.tmp 4) rfl g rfl 26 S.vals (0,0) _ H33.out.a Tryz.underlying26 rfl (size26 S) ?_) | (refine wpList_load_row rfl 29 (.tmp 12) rfl (A+1) rfl 29 #[zI st,.slice ka rg.length kc] (0,0) _ HX3.out.2.1 Tryz.underlying29 rfl (size29v ..) ?_))
  refine c2.mono ?_
  rintro e w4 ⟨rfl,hb⟩
  have HB4:Hid (yD w w4):=below2 HB3.out hb
  have H34:Hid (Bx3 w4 S m s g):=H33.out.on hb
  have HT4:Hid (Tab w4∧FTab w4∧Ety w4):=⟨HT3.out.1.on hb,HT3.out.2.1.on hb,HT3.out.2.2.on hb⟩
  have HL4:Hid (StratL w4 S∧ModL w4 m):=⟨HL3.out.1.on hb,HL3.out.2.on hb⟩
  have HX4:Hid (w4.heap[A]? = (zC #[zI ru,.bool rf,.slice fa ac.length fc,zU su,zI co,zI 0] 59)∧w4.heap[A+1]? = (zC #[zI st,.slice ka rg.length kc] 29)∧ModL w4 ⟨st,ka,kc,rg⟩):=⟨heapOf hb HX3.out.1,heapOf hb HX3.out.2.1,HX3.out.2.2.on hb⟩
  clear hb c2 HX3
  have c3:Calls zG 21 #[.agg #[zI st,.slice ka rg.length kc],.agg m.vals] w4 fun e w'=>e=.returned (.bool (decide (st=m.st∧rg=m.rg)))∧yD w4 w':=sameMode_any ⟨st,ka,kc,rg⟩ m w4 HX4.out.2.2 HL4.out.2
  obtain⟨D,eD⟩:∃ D,decide (st=m.st∧rg=m.rg)=D:=⟨_,rfl⟩
  have HD:Hid (decide (st=m.st∧rg=m.rg)=D):=eD
  rw [eD] at c3
  clear eD
  go_wp2_with (first | (refine wpList_load_row rfl 29 (.tmp 5) rfl (g+1) rfl 29 m.vals (0,0) _ H34.out.b Tryz.underlying29 rfl (size29 m) ?_) | (refine wpList_load_row rfl 29 (.tmp 12) rfl (A+1) rfl 29 #[zI st,.slice ka rg.length kc] (0,0) _ HX4.out.2.1 Tryz.underlying29 rfl (size29v ..) ?_))
  refine c3.mono ?_
  rintro e w5 ⟨rfl,hb⟩
  have HB5:Hid (yD w w5):=below2 HB4.out hb
  have H35:Hid (Bx3 w5 S m s g):=H34.out.on hb
  have HT5:Hid (Tab w5∧FTab w5∧Ety w5):=⟨HT4.out.1.on hb,HT4.out.2.1.on hb,HT4.out.2.2.on hb⟩
  have HL5:Hid (StratL w5 S∧ModL w5 m):=⟨HL4.out.1.on hb,HL4.out.2.on hb⟩
  have hx:=heapOf hb HX4.out.1
  have x0:w5.cell? A¢0=some (zI ru):=cell_of hx 0
  have x1:w5.cell? A¢1=some (.bool rf):=cell_of hx 1
  have x2:w5.cell? A¢2=some (.slice fa ac.length fc):=cell_of hx 2
  have x3:w5.cell? A¢3=some (zU su):=cell_of hx 3
  have x4:w5.cell? A¢4=some (zI co):=cell_of hx 4
  clear hb hx c3 HX4 HT2 HT3 HT4 HT5 HL2 HL3 HL4 H32 H33 H34 HB2 HB3 HB4
  obtain⟨hms,hmo,hsc,hfi⟩:=HPL.out
  replace hms:Hid (0≤m.st∧m.st < (S.ts.length:Int)):=hms
  clear HPL hmo
  rcases hfi with ⟨hf,h1,h2,rfl⟩ | ⟨hf1,rfl,hf2,rfl,hf3⟩
  ·obtain rfl:D=true:=by rw [← HD.out]; exact decide_eq_true ⟨h1,h2⟩
   clear HD h1 h2 hms
   rcases hsc with ⟨rfl,hco,rfl⟩ | ⟨hsu,rfl⟩
   ·have e2:(co != 0)=true:=bne_iff_ne.2 hco
    clear hf
    go_upto_region 12 with fail
    clear e2 hco
    go_wp2_with fail
    go_ret
    exact⟨rfl,HB5.out⟩
   ·have e1:(su == 3)=false:=beq_false_of_ne hsu
    by_cases hr0:ru < 0
    ·clear hf
     go_upto_region 12 with fail
     clear e1 hsu
     go_wp2_with fail
     go_ret
     exact⟨rfl,HB5.out⟩
    ·have hf:rf=true:=hf.resolve_left hr0
     subst hf
     go_upto_region 12 with fail
     clear e1 hsu
     go_wp2_with fail
     go_ret
     exact⟨rfl,HB5.out⟩
  ·obtain⟨si,esi⟩:∃ si:Nat,m.st=(si:Int):=⟨m.st.toNat,(Int.toNat_of_nonneg hms.out.1).symm⟩
   have hsi:si < S.ts.length:=by have:=hms.out.2; omega
   obtain⟨X,eX⟩:∃ X,S.ts[si]? = some X:=⟨_,List.getElem?_eq_getElem hsi⟩
   have hru:rulesOf S m.st=X.rs:=by unfold rulesOf; rw [esi,Int.toNat_natCast,eX]
   rw [hru] at hf2
   obtain⟨hsi2,eX2⟩:=List.getElem?_eq_some_iff.1 eX
   obtain⟨bb,o,ea,hat⟩:=HL5.out.1.2.2.2.2.1.2.2 si (by rw [List.length_map]; exact hsi2)
   simp only [List.getElem_map] at hat
   have hat1:=hat 1 (by omega)
   rw [eX2] at hat1
   have y1:w5.cell? ⟨bb,o+si * 3+1,none⟩=some (.slice X.a X.rs.length X.c):=hat1
   have y2:w5.cell? g¢3=some (.slice S.ta S.ts.length S.tc):=cell_of H35.out.a 3
   rw [ea] at y2
   have y3:w5.cell? ⟨g+1,0,none⟩=some (zI m.st):=cell_of H35.out.b 0
   rw [esi] at y3
   have h0i:(0:Int)≤(si:Int):=by omega
   have hlt:(si:Int) < (S.ts.length:Int):=by omega
   clear hat hat1 ea eX2 hsi2 eX hru esi hsi hsc hms HD
   rcases hf3 with rfl | rfl
   ·go_upto_region 14 with fail
    have d1:decide (ru < (X.rs.length:Int))=true:=decide_eq_true hf2
    go_quiet (fail)
    go_wp2_with fail
    go_ret
    exact⟨rfl,bdn HB5.out⟩
   ·go_upto_region 14 with fail
    have d1:decide (ru < (X.rs.length:Int))=true:=decide_eq_true hf2
    go_quiet (fail)
    go_wp2_with fail
    go_ret
    exact⟨rfl,bdn HB5.out⟩
end Go.Proofs.YtfbjofnaghjmeaaGreatDoor
