import Derived.Test.YtfbjofnaghjmeaaGreatDoorA37
import Derived.Test.YtfbjofnaghjmeaaGreatDoorA33
namespace Go.Proofs.YtfbjofnaghjmeaaGreatDoor
open Go.Proofs.Tryz
set_option maxRecDepth 100000
set_option maxHeartbeats 16000000
open Go.RowKit
set_option linter.unusedVariables false
set_option linter.unusedSimpArgs false
def FlR (r:Except (Int × Int) Int) (t E P:Int) (B:Bool):Prop:=(r=.ok t∧E=0∧P=0∧B=false)∨(r=.error (P,E)∧t=0∧B=true∧(E=151∨E=152))
def QbO (w:yW) (r:Except (Int × Int) Int) (e:Ending) (w':yW):Prop:=∃ t E P B,e=.returned (.tuple #[zU t,.agg #[zI E,zI P,.bool B]])∧FlR r t E P B∧yD w w'
theorem Js {P:Program}{fn:Func}{p u:Tmp}{ty:TypeId}(h:fn.results=#[.tmp p,.cell u ty]) (tmps:Array Value) (w:yW) (g:Nat) (t:TypeId) (cs:Array Value) (fr:Nat × Nat) (d:TypeDesc)
  (hp:tmps.getD u undef=zP g) (hg:w.heap[g]? = some (.cells cs t fr)) (hu:P.underlying ty=some d) (hd:(match d with | .struct _ | .array _ _=>true | _=>false)=true) (hi:(P.info? ty).map (·.size)=some cs.size) :
  (results fn tmps).run P w=.ok (.tuple #[tmps.getD p undef,.agg cs]) w:=by
 have hp':tmps[u]?.getD undef=zP g:=by simpa using hp
 simp [results,h,hp',asAddr,run_loadVar_row w g t ty cs fr d hg hu hd hi]
theorem XJ {w:yW}{b:Nat}{a0 a1 a2:Value}{t:TypeId}(h:w.heap[b]? = (zC #[a0,a1,a2] t)) (v0 v1 v2:Value) :
  (((w.setCell b¢0 v0).setCell b¢1 v1).setCell b¢2 v2).heap[b]? = (zC #[v0,v1,v2] t):=by
 have h1:(w.setCell b¢0 v0).heap[b]? = (zC #[v0,a1,a2] t):=Qp v0 h
 have h2:((w.setCell b¢0 v0).setCell b¢1 v1).heap[b]? = (zC #[v0,v1,a2] t):=Qp v1 h1
 exact Qp v2 h2
theorem JE {B:Nat}{w v:yW}{b:Nat}(h:Below B w v) (hb:B≤b) (v0 v1 v2:Value):Below B w (((v.setCell b¢0 v0).setCell b¢1 v1).setCell b¢2 v2) :=
 ((h.setCell (p:=b¢0) hb v0).setCell (p:=b¢1) hb v1).setCell (p:=b¢2) hb v2
theorem Qbk (w:yW) {b k:Nat}(hk:k≠b) (v0 v1 v2:Value):(((w.setCell b¢0 v0).setCell b¢1 v1).setCell b¢2 v2).heap[k]? = w.heap[k]? :=
 (Below.heap_setCell _ _ _ _ hk).trans ((Below.heap_setCell _ _ _ _ hk).trans (Below.heap_setCell _ _ _ _ hk))
theorem QeD:(Tryz.prog.info? 34).map (fun i=>(i.zero,i.size,i.bytes))=some (some (zU 0),1,1):=by kernel_rfl
theorem Xe:(Tryz.prog.info? 43).map (·.size)=some 3:=by kernel_rfl
def tyC (t:Int):Array Value:=#[zU t]
theorem Qht {W w:yW}{v:Value}{ts:List Int}(h:RA W w 34 1 v (ts.map tyC)):TsR w v ts:=by
 have h1:=h.row
 rw [List.length_map] at h1
 refine Row.congr h1 fun j hj=>?_
 rw [Nat.mul_one] at hj
 unfold arF
 simp [tyC,List.getD,hj,Nat.mod_one]
theorem XF {ts:List Int}{L:yB→Option Int}{ks:List Nd}{i:Nat}(hi:i < ks.length):Ke ts (tysR L (ks.drop i))=match tyR L ks[i] with
  | .error e=>.error e
  | .ok t=>Ke (ts ++ [t]) (tysR L (ks.drop (i+1))):=by
 rw [Kf hi]
 simp only [tysR]
 cases tyR L ks[i] with
 | error e=>rfl
 | ok t =>
  cases tysR L (ks.drop (i+1)) with
  | error e=>rfl
  | ok l=>simp [Ke]
theorem F7 (S:Qg):∀ (m:Nd) (w:yW),Qr w S→Lies w m→Qw m=true→size m≤900000000→Calls zG 30 #[.agg S.vals,.agg m.vals] w (QbO w (tyR (regL S.rs) m)):=by
 refine Nd.ind fun h a c ks ih w hs hl hfm hz=>?_
 have hn:ks.length≤900000000:=by have:=XE ks;simp only [size] at hz;omega
 obtain⟨V,eV⟩:∃ V,((zA w #[.string S.x,.slice S.ra S.rs.length S.rc,.slice S.sa S.ss.length S.sc,.slice S.ta S.ts.length S.tc] 26).alloc (.cells (zX h a ks c) 38)).alloc (.cells zi 43)=V:=jV
 have e1:yD w V:=by rw [← eV];exact (Qk _ _ _).alloc (by rw [Qe,Qe];omega) _
 have n0:V.heap[w§]? = (zC #[.string S.x,.slice S.ra S.rs.length S.rc,.slice S.sa S.ss.length S.sc,.slice S.ta S.ts.length S.tc] 26):=by rw [← eV];exact Qz (Qz (Qc _ _) (by rw [Qe];omega)) (by rw [Qe,Qe];omega)
 have n1:V.heap[w§+1]? = (zC (zX h a ks c) 38):=by
  rw [← eV,← Qe w (.cells #[.string S.x,.slice S.ra S.rs.length S.rc,.slice S.sa S.ss.length S.sc,.slice S.ta S.ts.length S.tc] 26)];exact Qz (Qc _ _) (by rw [Qe _ (.cells (zX h a ks c) 38)];omega)
 have n2:V.heap[w§+2]? = (zC zi 43):=by
  have e:w§+2=((zA w #[.string S.x,.slice S.ra S.rs.length S.rc,.slice S.sa S.ss.length S.sc,.slice S.ta S.ts.length S.tc] 26).alloc (.cells (zX h a ks c) 38))§:=by rw [Qe,Qe]
  rw [← eV,e];exact Qc _ _
 have HI:Hid (∀ k ∈ ks,∀ (w:yW),Qr w S→Lies w k→Calls zG 30 #[.agg S.vals,.agg k.vals] w (QbO w (tyR (regL S.rs) k))):=fun k hk v h1 h2=>ih k hk v h1 h2 (V5 hfm hk) (Nat.le_trans (Qdn hk) hz)
 have HB:Hid (yD w V):=e1
 have HS0:Hid (V.heap[w§]? = (zC #[.string S.x,.slice S.ra S.rs.length S.rc,.slice S.sa S.ss.length S.sc,.slice S.ta S.ts.length S.tc] 26)):=n0
 have HM0:Hid (V.heap[w§+1]? = (zC (zX h a ks c) 38)):=n1
 have HZr:Hid (V.heap[w§+2]? = (zC zi 43)):=n2
 have HL:Hid (Lies V (.mk h a c ks)∧Qr V S):=⟨hl.on e1,hs.on e1⟩
 have HN:Hid (ks.length≤900000000):=hn
 have HF:Hid (Qw (.mk h a c ks)=true):=hfm
 clear ih hs hl hfm hz hn e1 n0 n1 n2
 show Calls zG 30 #[.agg #[.string S.x,.slice S.ra S.rs.length S.rc,.slice S.sa S.ss.length S.sc,.slice S.ta S.ts.length S.tc],.agg (zX h a ks c)] w _
 go_enter func30,ntmps30
 go_wp2_with fail
 clear eV
 go_loopw [6,7] (fun v t wr=>∃ (i:Nat) (ts:List Int),i≤ks.length∧t=zI i∧Hid (RA V wr 34 1 v (ts.map tyC)∧ts.length=i∧tysR (regL S.rs) ks=Ke ts (tysR (regL S.rs) (ks.drop i)))) (fun _ t _=>ks.length - (intOf t).toNat)
 case atStart=>exact⟨0,[],by omega,rfl,RA.nil (Below.refl _ _) 34 1,rfl,by rw [List.drop_zero];cases tysR (regL S.rs) ks <;> rfl⟩
 case round =>
  obtain⟨i,ts,hi,rfl,HT⟩:=hrel
  have HSb:Hid (wr.heap[w§]? = (zC #[.string S.x,.slice S.ra S.rs.length S.rc,.slice S.sa S.ss.length S.sc,.slice S.ta S.ts.length S.tc] 26)):=(HT.out.1.B.block _ (zJ HS0.out).1).trans HS0.out
  have HMb:Hid (wr.heap[w§+1]? = (zC (zX h a ks c) 38)):=(HT.out.1.B.block _ (zJ HM0.out).1).trans HM0.out
  have q6:zQ wr ⟨w§+1,6,none⟩ (.slice a ks.length c):=Qa HMb.out 6
  by_cases hlt:i < ks.length
  ·have hlt':(i:Int) < (ks.length:Int):=by omega
   obtain⟨b,o,e1,hat⟩:=(HL.out.1.on HT.out.1.B).kid i hlt
   have e2:a=some b¢o:=e1
   have hk1:NdAt wr b (o+i * 8) ks[i]:=hat
   have cT:∀ v,yD wr v→Calls zG 30 #[.agg #[.string S.x,.slice S.ra S.rs.length S.rc,.slice S.sa S.ss.length S.sc,.slice S.ta S.ts.length S.tc],.agg ks[i].vals] v (QbO v (tyR (regL S.rs) ks[i])):=fun v hv=>HI.out ks[i] (Ja hlt) v (HL.out.2.on (Qd HT.out.1.B hv)) ((HL.out.1.sub ks[i] (Ja hlt)).on (Qd HT.out.1.B hv))
   obtain⟨k,ek⟩:∃ k,ks[i]=k:=jV
   rw [ek] at hk1 cT
   rw [e2] at q6
   obtain⟨y0,y1,y2,y3,y4,y5,y6,y7⟩:=hk1
   unfold Nd.vals hdA at cT
   have HEK:Hid (ks[i]=k):=ek
   clear ek e1 e2 hat
   go_upto_region 5 with fail
   refine (?_:∀ Q',Hid (Q'=_)→Code.wp _ _ Q' _ _) _ rfl
   intro Q' HQ'
   have HPn:zHP Q':=by rw [HQ'.out];exact fun _ _ _ _ _ h=>h
   refine wp_region_held_drew (S:=fun v=>yD wr v) zK ⟨rfl,rfl,rfl,Nat.le_refl _,fun _ _=>rfl⟩ (fun hHeld=>?_)
   refine zTb 0 HPn
   rotate_left
   ·(intro v hv;have g:=(hv.block _ (zJ HSb.out).1).trans HSb.out;have t0:=Qa g 0;have t1:=Qa g 1;have t2:=Qa g 2;have t3:=Qa g 3;clear g;go_simp;try (with_reducible rfl))
   try simp [Act.put]
   refine zTb 1 HPn
   rotate_left
   ·(intro v hv;go_simp;try (with_reducible rfl))
   try simp [Act.put]
   refine zTb 2 HPn
   rotate_left
   ·(intro v hv;have t6:=(hv.cell (World.block_lt_of_cell? wr _ q6)).trans q6;go_simp;try (with_reducible rfl))
   try simp [Act.put]
   refine zTb 3 HPn
   rotate_left
   ·(intro v hv;go_simp;try (with_reducible rfl))
   try simp [Act.put]
   refine zTb 4 HPn
   rotate_left
   ·(intro v hv;go_simp;try (with_reducible rfl))
   try simp [Act.put]
   refine zTb 5 HPn
   rotate_left
   ·(intro v hv;have y0':=(hv.cell (World.block_lt_of_cell? wr _ y0)).trans y0;have y1':=(hv.cell (World.block_lt_of_cell? wr _ y1)).trans y1;have y2':=(hv.cell (World.block_lt_of_cell? wr _ y2)).trans y2;have y3':=(hv.cell (World.block_lt_of_cell? wr _ y3)).trans y3;have y4':=(hv.cell (World.block_lt_of_cell? wr _ y4)).trans y4;have y5':=(hv.cell (World.block_lt_of_cell? wr _ y5)).trans y5;have y6':=(hv.cell (World.block_lt_of_cell? wr _ y6)).trans y6;have y7':=(hv.cell (World.block_lt_of_cell? wr _ y7)).trans y7;go_simp;try (with_reducible rfl))
   try simp [Act.put]
   clear hHeld
   refine wpAnyH_ready (rs:=[6,10]) zK (by simp) ?_
   refine AllReadyH.cons rfl (fun K hK=>?_) (AllReadyH.cons rfl (fun K hK=>?_) AllReadyH.nil)
   ·go_simp
    refine (cT wr.drew (⟨rfl,rfl,rfl,Nat.le_refl _,fun _ _=>rfl⟩)).mono ?_
    rintro e w1 ⟨t1,E1,P1,B1,rfl,hr1,hb1⟩
    have HR1:Hid (FlR (tyR (regL S.rs) k) t1 E1 P1 B1):=hr1
    have HB1:Hid (yD wr w1):=Qd (⟨rfl,rfl,rfl,Nat.le_refl _,fun _ _=>rfl⟩:yD wr wr.drew) hb1
    clear hr1 hb1 cT
    refine hK.out _ _ HB1.out (fun hHeld=>?_)
    clear hK K
    try simp [Act.put]
    refine zTb 7 HPn
    rotate_left
    ·(intro v hv;go_simp;try (with_reducible rfl))
    try simp [Act.put]
    refine zTb 8 HPn
    rotate_left
    ·(intro v hv;go_simp;try (with_reducible rfl))
    try simp [Act.put]
    refine zTb 9 HPn
    rotate_left
    ·(intro v hv;go_simp;try (with_reducible rfl))
    try simp [Act.put]
    clear hHeld
    refine wpAnyH_ready (rs:=[10]) zK (by simp) ?_
    refine AllReadyH.cons rfl (fun K hK=>?_) AllReadyH.nil
    go_simp
    have hbz:=Qb w1 (.cells zi 43)
    have hz:=Qc w1 (.cells zi 43)
    obtain⟨W1,eW1⟩:∃ W,w1.alloc (.cells zi 43)=W:=jV
    rw [eW1] at hbz hz ⊢
    have HBz:Hid (yD wr W1):=Qd HB1.out hbz
    have HGB:Hid (wr§≤w1§):=HB1.out.size
    clear eW1 hbz
    refine hK.out _ _ HBz.out (fun hHeld=>?_)
    clear hK K
    obtain⟨g,eg⟩:∃ g,w1§=g:=jV
    rw [eg] at hz HGB ⊢
    clear eg
    try simp [Act.put]
    refine zTb 11 HPn
    rotate_left
    ·(intro v hv;go_simp;try (with_reducible rfl))
    try simp [Act.put]
    obtain⟨z0,z1,z2⟩:=cl3 hz
    obtain⟨f0,f1,f2⟩:=fz3 hz
    have HZ1:Hid (W1.heap[g]? = (zC zi 43)):=hz
    clear hz hHeld
    refine wpAnyH_ready (rs:=[12]) zK (by simp) ?_
    refine AllReadyH.cons rfl (fun K hK=>?_) AllReadyH.nil
    go_simp
    refine hK.out _ _ (JE HBz.out HGB.out _ _ _) (fun hHeld=>?_)
    clear hK K hHeld
    try simp [Act.put]
    refine wpAnyH_done zK ?_ _
    rw [HQ'.out]
    have HU:Hid ((((W1.setCell g¢0 (zI E1)).setCell g¢1 (zI P1)).setCell g¢2 (.bool B1)).heap[g]? = (zC #[zI E1,zI P1,.bool B1] 43)∧yD wr (((W1.setCell g¢0 (zI E1)).setCell g¢1 (zI P1)).setCell g¢2 (.bool B1))):=⟨XJ HZ1.out _ _ _,JE HBz.out HGB.out _ _ _⟩
    clear HQ' HPn Q' z0 z1 z2 f0 f1 f2 HZ1 HBz
    generalize World.setCell (World.setCell (World.setCell W1 _ _) _ _) _ _=u at HU ⊢
    clear y0 y1 y2 y3 y4 y5 y6 y7 q6
    have c0:zQ u g¢0 (zI E1):=Qa HU.out.1 0
    rcases HR1.out with ⟨e1,rfl,rfl,rfl⟩ | ⟨e1,rfl,rfl,hE⟩
    ·have HT2:Hid (RA V u 34 1 u6 (ts.map tyC)):=HT.out.1.call HU.out.2
     have HLn:Hid ((ts.map tyC).length≤1000000000):=by have h1:=HN.out;have h2:=HT.out.2.1;show _≤_;rw [List.length_map];omega
     have HJ2:Hid (tysR (regL S.rs) ks=Ke (ts ++ [t1]) (tysR (regL S.rs) (ks.drop (i+1)))):=by
      show _=_
      rw [HT.out.2.2,XF hlt,HEK.out,e1]
     have hmx:(i:Int)+1≤jX:=by have:=HN.out;omega
     have HLi:Hid (ts.length=i):=HT.out.2.1
     clear e1 HR1 HT
     go_wp2_with (at_builtin;refine Vv rfl (.tmp 33) (.tmp 35) 133 34 1 1 _ rfl underlying133 QeD rfl (by decide) (by decide) (by decide) (tyC t1) rfl (by intro u hu;simp [tyC] at hu;subst hu;rfl) HT2.out rfl rfl HLn.out ?_;intro v1 w2 hr2 hs2 hq2 hz2;have HX:Hid (RA V w2 34 1 v1 ((ts ++ [t1]).map tyC)):=(by show RA _ _ _ _ _ _;rw [List.map_append];exact hr2);clear hr2 hs2 hq2 hz2)
     exact⟨⟨i+1,ts ++ [t1],hlt,rfl,HX.out,by rw [List.length_append,HLi.out];rfl,HJ2.out⟩,by simp only [intOf];omega⟩
    ·have HEr:Hid (tyR (regL S.rs) (.mk h a c ks)=.error (P1,E1)):=by
      show _=_
      rw [tyR,HT.out.2.2,XF hlt,HEK.out,e1]
     have hne:(E1 != 0)=true:=by rcases hE with rfl | rfl <;> rfl
     have HE:Hid (E1=151∨E1=152):=hE
     clear hE e1 HR1
     go_upto_region 7 with fail
     clear hne c0
     have hz:u.heap[w§+2]? = (zC zi 43):=((Qd HT.out.1.B HU.out.2).block _ (zJ HZr.out).1).trans HZr.out
     obtain⟨z0,z1,z2⟩:=cl3 hz
     obtain⟨f0,f1,f2⟩:=fz3 hz
     have HGne:Hid (w§+2≠g):=by have h1:=(zJ HZr.out).1;have h2:=HT.out.1.B.size;have h3:=HGB.out;show _≠_;omega
     have HZ1:Hid (u.heap[w§+2]? = (zC zi 43)):=hz
     clear hz
     refine (?_:∀ Q',Hid (Q'=_)→Code.wp _ _ Q' _ _) _ rfl
     intro Q' HQ'
     have HPn:zHP Q':=by rw [HQ'.out];exact fun _ _ _ _ _ h=>h
     have hz0:u.drew.cell? ⟨w§+2,0,none⟩=some (zI 0):=z0
     have hz1:u.drew.cell? ⟨w§+2,1,none⟩=some (zI 0):=z1
     have hz2:u.drew.cell? ⟨w§+2,2,none⟩=some (.bool false):=z2
     have hf0:u.drew.frozen? ⟨w§+2,0,none⟩=false:=f0
     have hf1:u.drew.frozen? ⟨w§+2,1,none⟩=false:=f1
     have hf2:u.drew.frozen? ⟨w§+2,2,none⟩=false:=f2
     refine wp_region_held_drew (S:=fun v=>v.heap[g]? = (zC #[zI E1,zI P1,.bool true] 43)) zK HU.out.1 (fun hHeld=>?_)
     refine zTb 0 HPn
     rotate_left
     ·(intro v hv;have t0:=Qa hv 0;have t1:=Qa hv 1;have t2:=Qa hv 2;go_simp;try (with_reducible rfl))
     try simp [Act.put]
     refine zTb 1 HPn
     rotate_left
     ·(intro v hv;go_simp;try (with_reducible rfl))
     try simp [Act.put]
     clear hHeld
     refine wpAnyH_ready (rs:=[2]) zK (by simp) ?_
     refine AllReadyH.cons rfl (fun K hK=>?_) AllReadyH.nil
     go_simp
     refine hK.out _ _ ((Qbk _ (Ne.symm HGne.out) _ _ _).trans HU.out.1) (fun hHeld=>?_)
     clear hK K hHeld
     try simp [Act.put]
     refine wpAnyH_done zK ?_ _
     rw [HQ'.out]
     clear HQ' HPn Q' z0 z1 z2 f0 f1 f2 hz0 hz1 hz2 hf0 hf1 hf2
     have HW:Hid ((((u.setCell ⟨w§+2,0,none⟩ (zI E1)).setCell ⟨w§+2,1,none⟩ (zI P1)).setCell ⟨w§+2,2,none⟩ (.bool true)).drew.heap[w§+2]? = (zC #[zI E1,zI P1,.bool true] 43)∧yD w (((u.setCell ⟨w§+2,0,none⟩ (zI E1)).setCell ⟨w§+2,1,none⟩ (zI P1)).setCell ⟨w§+2,2,none⟩ (.bool true)).drew):=⟨XJ HZ1.out _ _ _,(JE (Qd HB.out (Qd HT.out.1.B HU.out.2)) zY _ _ _).drew⟩
     generalize World.drew _=u2 at HW ⊢
     go_wp2_with fail
     refine bodyPost_ret (Js rfl _ _ (w§+2) 43 #[zI E1,zI P1,.bool true] (0,0) _ rfl HW.out.1 underlying43 rfl Xe) rfl ⟨0,E1,P1,true,rfl,.inr ⟨HEr.out,rfl,rfl,HE.out⟩,HW.out.2⟩
   ·go_simp
    have hby:yD wr (zA wr zi 43).drew:=(Qb wr (.cells zi 43)).drew
    have hz:(zA wr zi 43).drew.heap[wr§]? = (zC zi 43):=Qc wr (.cells zi 43)
    refine hK.out _ _ hby (fun hHeld=>?_)
    clear hK K hHeld
    try simp [Act.put]
    obtain⟨W0,eW0⟩:∃ W,(zA wr zi 43).drew=W:=jV
    rw [eW0] at hz hby ⊢
    have HBy:Hid (yD wr W0):=hby
    have HGB:Hid (wr§≤wr§):=Nat.le_refl _
    have HZ0:Hid (W0.heap[wr§]? = (zC zi 43)):=hz
    clear hz hby eW0
    refine wpAnyH_ready (rs:=[6]) zK (by simp) ?_
    refine AllReadyH.cons rfl (fun K hK=>?_) AllReadyH.nil
    go_simp
    refine (cT _ HBy.out).mono ?_
    rintro e W1 ⟨t1,E1,P1,B1,rfl,hr1,hb1⟩
    have HR1:Hid (FlR (tyR (regL S.rs) k) t1 E1 P1 B1):=hr1
    have HBz:Hid (yD wr W1):=Qd HBy.out hb1
    have hz:W1.heap[wr§]? = (zC zi 43):=(hb1.block _ (zJ HZ0.out).1).trans HZ0.out
    clear hr1 hb1 cT HZ0 HBy
    refine hK.out _ _ HBz.out (fun hHeld=>?_)
    clear hK K
    try simp [Act.put]
    refine zTb 7 HPn
    rotate_left
    ·(intro v hv;go_simp;try (with_reducible rfl))
    try simp [Act.put]
    refine zTb 8 HPn
    rotate_left
    ·(intro v hv;go_simp;try (with_reducible rfl))
    try simp [Act.put]
    refine zTb 9 HPn
    rotate_left
    ·(intro v hv;go_simp;try (with_reducible rfl))
    try simp [Act.put]
    refine zTb 11 HPn
    rotate_left
    ·(intro v hv;go_simp;try (with_reducible rfl))
    try simp [Act.put]
    obtain⟨z0,z1,z2⟩:=cl3 hz
    obtain⟨f0,f1,f2⟩:=fz3 hz
    have HZ1:Hid (W1.heap[wr§]? = (zC zi 43)):=hz
    clear hz hHeld
    refine wpAnyH_ready (rs:=[12]) zK (by simp) ?_
    refine AllReadyH.cons rfl (fun K hK=>?_) AllReadyH.nil
    go_simp
    refine hK.out _ _ (JE HBz.out HGB.out _ _ _) (fun hHeld=>?_)
    clear hK K hHeld
    try simp [Act.put]
    refine wpAnyH_done zK ?_ _
    rw [HQ'.out]
    have HU:Hid ((((W1.setCell wr§¢0 (zI E1)).setCell wr§¢1 (zI P1)).setCell wr§¢2 (.bool B1)).heap[wr§]? = (zC #[zI E1,zI P1,.bool B1] 43)∧yD wr (((W1.setCell wr§¢0 (zI E1)).setCell wr§¢1 (zI P1)).setCell wr§¢2 (.bool B1))):=⟨XJ HZ1.out _ _ _,JE HBz.out HGB.out _ _ _⟩
    clear HQ' HPn Q' z0 z1 z2 f0 f1 f2 HZ1 HBz
    generalize World.setCell (World.setCell (World.setCell W1 _ _) _ _) _ _=u at HU ⊢
    clear y0 y1 y2 y3 y4 y5 y6 y7 q6
    have c0:zQ u wr§¢0 (zI E1):=Qa HU.out.1 0
    rcases HR1.out with ⟨e1,rfl,rfl,rfl⟩ | ⟨e1,rfl,rfl,hE⟩
    ·have HT2:Hid (RA V u 34 1 u6 (ts.map tyC)):=HT.out.1.call HU.out.2
     have HLn:Hid ((ts.map tyC).length≤1000000000):=by have h1:=HN.out;have h2:=HT.out.2.1;show _≤_;rw [List.length_map];omega
     have HJ2:Hid (tysR (regL S.rs) ks=Ke (ts ++ [t1]) (tysR (regL S.rs) (ks.drop (i+1)))):=by
      show _=_
      rw [HT.out.2.2,XF hlt,HEK.out,e1]
     have hmx:(i:Int)+1≤jX:=by have:=HN.out;omega
     have HLi:Hid (ts.length=i):=HT.out.2.1
     clear e1 HR1 HT
     go_wp2_with (at_builtin;refine Vv rfl (.tmp 33) (.tmp 35) 133 34 1 1 _ rfl underlying133 QeD rfl (by decide) (by decide) (by decide) (tyC t1) rfl (by intro u hu;simp [tyC] at hu;subst hu;rfl) HT2.out rfl rfl HLn.out ?_;intro v1 w2 hr2 hs2 hq2 hz2;have HX:Hid (RA V w2 34 1 v1 ((ts ++ [t1]).map tyC)):=(by show RA _ _ _ _ _ _;rw [List.map_append];exact hr2);clear hr2 hs2 hq2 hz2)
     exact⟨⟨i+1,ts ++ [t1],hlt,rfl,HX.out,by rw [List.length_append,HLi.out];rfl,HJ2.out⟩,by simp only [intOf];omega⟩
    ·have HEr:Hid (tyR (regL S.rs) (.mk h a c ks)=.error (P1,E1)):=by
      show _=_
      rw [tyR,HT.out.2.2,XF hlt,HEK.out,e1]
     have hne:(E1 != 0)=true:=by rcases hE with rfl | rfl <;> rfl
     have HE:Hid (E1=151∨E1=152):=hE
     clear hE e1 HR1
     go_upto_region 7 with fail
     clear hne c0
     have hz:u.heap[w§+2]? = (zC zi 43):=((Qd HT.out.1.B HU.out.2).block _ (zJ HZr.out).1).trans HZr.out
     obtain⟨z0,z1,z2⟩:=cl3 hz
     obtain⟨f0,f1,f2⟩:=fz3 hz
     have HGne:Hid (w§+2≠wr§):=by have h1:=(zJ HZr.out).1;have h2:=HT.out.1.B.size;have h3:=HGB.out;show _≠_;omega
     have HZ1:Hid (u.heap[w§+2]? = (zC zi 43)):=hz
     clear hz
     refine (?_:∀ Q',Hid (Q'=_)→Code.wp _ _ Q' _ _) _ rfl
     intro Q' HQ'
     have HPn:zHP Q':=by rw [HQ'.out];exact fun _ _ _ _ _ h=>h
     have hz0:u.drew.cell? ⟨w§+2,0,none⟩=some (zI 0):=z0
     have hz1:u.drew.cell? ⟨w§+2,1,none⟩=some (zI 0):=z1
     have hz2:u.drew.cell? ⟨w§+2,2,none⟩=some (.bool false):=z2
     have hf0:u.drew.frozen? ⟨w§+2,0,none⟩=false:=f0
     have hf1:u.drew.frozen? ⟨w§+2,1,none⟩=false:=f1
     have hf2:u.drew.frozen? ⟨w§+2,2,none⟩=false:=f2
     refine wp_region_held_drew (S:=fun v=>v.heap[wr§]? = (zC #[zI E1,zI P1,.bool true] 43)) zK HU.out.1 (fun hHeld=>?_)
     refine zTb 0 HPn
     rotate_left
     ·(intro v hv;have t0:=Qa hv 0;have t1:=Qa hv 1;have t2:=Qa hv 2;go_simp;try (with_reducible rfl))
     try simp [Act.put]
     refine zTb 1 HPn
     rotate_left
     ·(intro v hv;go_simp;try (with_reducible rfl))
     try simp [Act.put]
     clear hHeld
     refine wpAnyH_ready (rs:=[2]) zK (by simp) ?_
     refine AllReadyH.cons rfl (fun K hK=>?_) AllReadyH.nil
     go_simp
     refine hK.out _ _ ((Qbk _ (Ne.symm HGne.out) _ _ _).trans HU.out.1) (fun hHeld=>?_)
     clear hK K hHeld
     try simp [Act.put]
     refine wpAnyH_done zK ?_ _
     rw [HQ'.out]
     clear HQ' HPn Q' z0 z1 z2 f0 f1 f2 hz0 hz1 hz2 hf0 hf1 hf2
     have HW:Hid ((((u.setCell ⟨w§+2,0,none⟩ (zI E1)).setCell ⟨w§+2,1,none⟩ (zI P1)).setCell ⟨w§+2,2,none⟩ (.bool true)).drew.heap[w§+2]? = (zC #[zI E1,zI P1,.bool true] 43)∧yD w (((u.setCell ⟨w§+2,0,none⟩ (zI E1)).setCell ⟨w§+2,1,none⟩ (zI P1)).setCell ⟨w§+2,2,none⟩ (.bool true)).drew):=⟨XJ HZ1.out _ _ _,(JE (Qd HB.out (Qd HT.out.1.B HU.out.2)) zY _ _ _).drew⟩
     generalize World.drew _=u2 at HW ⊢
     go_wp2_with fail
     refine bodyPost_ret (Js rfl _ _ (w§+2) 43 #[zI E1,zI P1,.bool true] (0,0) _ rfl HW.out.1 underlying43 rfl Xe) rfl ⟨0,E1,P1,true,rfl,.inr ⟨HEr.out,rfl,rfl,HE.out⟩,HW.out.2⟩
  ·obtain rfl:i=ks.length:=by omega
   have hnot:¬ (ks.length:Int) < (ks.length:Int):=by omega
   have HTS:Hid (tysR (regL S.rs) ks=.ok ts):=by show _=_;rw [HT.out.2.2,List.drop_length];simp [tysR,Ke]
   have HRV:Hid (TsR wr u6 ts):=Qht HT.out.1
   have HBw:Hid (yD w wr):=Qd HB.out HT.out.1.B
   have HZb:Hid (wr.heap[w§+2]? = (zC zi 43)):=(HT.out.1.B.block _ (zJ HZr.out).1).trans HZr.out
   have HBr:Hid (yD wr wr):=Below.refl _ _
   clear hi hlt
   by_cases hk:h.k=2
   ·have hk1:(h.k == 2)=true:=by simpa using hk
    have HK2:Hid (h.k=2):=hk
    clear hk
    have HSy:Hid (wr.heap[w§]? = (zC #[.string S.x,.slice S.ra S.rs.length S.rc,.slice S.sa S.ss.length S.sc,.slice S.ta S.ts.length S.tc] 26)):=(HBr.out.block _ (zJ HSb.out).1).trans HSb.out
    have HMy:Hid (wr.heap[w§+1]? = (zC (zX h a ks c) 38)):=(HBr.out.block _ (zJ HMb.out).1).trans HMb.out
    have HZy:Hid (wr.heap[w§+2]? = (zC zi 43)):=(HBr.out.block _ (zJ HZb.out).1).trans HZb.out
    have HBy:Hid (yD w wr):=Qd HBw.out HBr.out
    obtain⟨s0,s1,s2,s3⟩:=cl4 HSb.out
    obtain⟨p0,p1,p2,p3,p4,p5,p6,p7⟩:=cl8 HMb.out
    rcases UC S.rs 0 h.x with ⟨e1,e2⟩ | ⟨j,hj,e1,e2⟩
    ·have c9:Calls zG 56 #[.agg #[.string S.x,.slice S.ra S.rs.length S.rc,.slice S.sa S.ss.length S.sc,.slice S.ta S.ts.length S.tc],.string h.x] wr _:=U1 S h.x wr (HL.out.2.on HT.out.1.B)
     rw [e1] at c9
     have HER : Hid (tyR (regL S.rs) (.mk h a c ks) = .error (h.p, 151)) := (UX HTS.out).trans (Pz hk1 e2)
     clear e1 e2
     go_wp2_with fail
     refine c9.mono ?_
     rintro e w1 ⟨rfl,hb1⟩
     have HB1:Hid (yD wr w1):=hb1
     clear c9 hb1 q6 hnot
     clear s0 s1 s2 s3 p0 p1 p2 p3 p4 p5 p6 p7
     have HSx:Hid (w1.heap[w§]? = (zC #[.string S.x,.slice S.ra S.rs.length S.rc,.slice S.sa S.ss.length S.sc,.slice S.ta S.ts.length S.tc] 26)):=(HB1.out.block _ (zJ HSb.out).1).trans HSb.out
     have HMx:Hid (w1.heap[w§+1]? = (zC (zX h a ks c) 38)):=(HB1.out.block _ (zJ HMb.out).1).trans HMb.out
     have HZx:Hid (w1.heap[w§+2]? = (zC zi 43)):=(HB1.out.block _ (zJ HZb.out).1).trans HZb.out
     have HBx:Hid (yD w w1):=Qd HBw.out HB1.out
     go_upto_region 10 with fail
     have hz:=HZx.out
     have z0:zQ w1 ⟨w§+2,0,none⟩ (zI 0):=Qa hz 0
     have f0:=Qf hz 0
     have z1:zQ w1 ⟨w§+2,1,none⟩ (zI 0):=Qa hz 1
     have f1:=Qf hz 1
     have z2:zQ w1 ⟨w§+2,2,none⟩ (.bool false):=Qa hz 2
     have f2:=Qf hz 2
     have t7:zQ w1 ⟨w§+1,7,none⟩ (zI h.p):=Qa HMx.out 7
     clear hz
     refine (?_:∀ Q',Hid (Q'=_)→Code.wp _ _ Q' _ _) _ rfl
     intro Q' HQ'
     have HPn:zHP Q':=by rw [HQ'.out];exact fun _ _ _ _ _ h=>h
     have hz0:w1.drew.cell? ⟨w§+2,0,none⟩=some (zI 0):=z0
     have hz1:w1.drew.cell? ⟨w§+2,1,none⟩=some (zI 0):=z1
     have hz2:w1.drew.cell? ⟨w§+2,2,none⟩=some (.bool false):=z2
     have hf0:w1.drew.frozen? ⟨w§+2,0,none⟩=false:=f0
     have hf1:w1.drew.frozen? ⟨w§+2,1,none⟩=false:=f1
     have hf2:w1.drew.frozen? ⟨w§+2,2,none⟩=false:=f2
     refine wp_region_held_drew (S:=fun v=>v.heap[w§+1]? = (zC (zX h a ks c) 38)) zK HMx.out (fun hHeld=>?_)
     refine zTb 0 HPn
     rotate_left
     ·(intro v hv;go_simp;try (with_reducible rfl))
     try simp [Act.put]
     refine zTb 1 HPn
     rotate_left
     ·(intro v hv;have t7:=Qa hv 7;go_simp;try (with_reducible rfl))
     try simp [Act.put]
     refine zTb 2 HPn
     rotate_left
     ·(intro v hv;go_simp;try (with_reducible rfl))
     try simp [Act.put]
     refine zTb 3 HPn
     rotate_left
     ·(intro v hv;go_simp;try (with_reducible rfl))
     try simp [Act.put]
     clear hHeld
     refine wpAnyH_ready (rs:=[4]) zK (by simp) ?_
     refine AllReadyH.cons rfl (fun K hK=>?_) AllReadyH.nil
     go_simp
     refine hK.out _ _ ((Qbk _ zY _ _ _).trans HMx.out) (fun hHeld=>?_)
     clear hK K hHeld
     try simp [Act.put]
     refine wpAnyH_done zK ?_ _
     rw [HQ'.out]
     clear HQ' HPn Q' z0 z1 z2 f0 f1 f2 hz0 hz1 hz2 hf0 hf1 hf2
     have HW:Hid ((((w1.setCell ⟨w§+2,0,none⟩ (zI 151)).setCell ⟨w§+2,1,none⟩ (zI h.p)).setCell ⟨w§+2,2,none⟩ (.bool true)).drew.heap[w§+2]? = (zC #[zI 151,zI h.p,.bool true] 43)∧yD w (((w1.setCell ⟨w§+2,0,none⟩ (zI 151)).setCell ⟨w§+2,1,none⟩ (zI h.p)).setCell ⟨w§+2,2,none⟩ (.bool true)).drew):=⟨XJ HZx.out _ _ _,(JE HBx.out zY _ _ _).drew⟩
     generalize World.drew _=u2 at HW ⊢
     go_wp2_with fail
     refine bodyPost_ret (Js rfl _ _ (w§+2) 43 #[zI 151,zI h.p,.bool true] (0,0) _ rfl HW.out.1 underlying43 rfl Xe) rfl ⟨0,151,h.p,true,rfl,.inr ⟨HER.out,rfl,rfl,.inl rfl⟩,HW.out.2⟩
    ·have c9:Calls zG 56 #[.agg #[.string S.x,.slice S.ra S.rs.length S.rc,.slice S.sa S.ss.length S.sc,.slice S.ta S.ts.length S.tc],.string h.x] wr _:=U1 S h.x wr (HL.out.2.on HT.out.1.B)
     rw [e1,Nat.zero_add] at c9
     have hjn:decide ((j:Int) < 0)=false:=decide_eq_false zY
     have hjn':¬ (j:Int) < 0:=by omega
     have HE2:Hid (regL S.rs h.x=some S.rs[j].t):=e2
     clear e1 e2
     go_wp2_with fail
     refine c9.mono ?_
     rintro e w1 ⟨rfl,hb1⟩
     have HB1:Hid (yD wr w1):=hb1
     clear c9 hb1 q6 hnot
     clear s0 s1 s2 s3 p0 p1 p2 p3 p4 p5 p6 p7
     have HSx:Hid (w1.heap[w§]? = (zC #[.string S.x,.slice S.ra S.rs.length S.rc,.slice S.sa S.ss.length S.sc,.slice S.ta S.ts.length S.tc] 26)):=(HB1.out.block _ (zJ HSb.out).1).trans HSb.out
     have HMx:Hid (w1.heap[w§+1]? = (zC (zX h a ks c) 38)):=(HB1.out.block _ (zJ HMb.out).1).trans HMb.out
     have HZx:Hid (w1.heap[w§+2]? = (zC zi 43)):=(HB1.out.block _ (zJ HZb.out).1).trans HZb.out
     have HBx:Hid (yD w w1):=Qd HBw.out HB1.out
     obtain⟨s0,s1,s2,s3⟩:=cl4 HSx.out
     obtain⟨p0,p1,p2,p3,p4,p5,p6,p7⟩:=cl8 HMx.out
     have cN:Calls zG 57 #[.agg #[.string S.x,.slice S.ra S.rs.length S.rc,.slice S.sa S.ss.length S.sc,.slice S.ta S.ts.length S.tc],.agg (zX h a ks c),u6] w1 _:=VN S h a c ks ts u6 w1 (HL.out.2.on (Qd HT.out.1.B HB1.out)) HF.out HT.out.2.1 (HRV.out.on HB1.out) (fun _=>by rw [HE2.out];rfl)
     go_wp2_with fail
     refine cN.mono ?_
     rintro e w2 ⟨⟨tt,bb,rfl,hbb⟩,hb2⟩
     rw [if_pos HK2.out] at hbb
     obtain⟨rfl,e3⟩:=hbb
     have HER:Hid (tyR (regL S.rs) (.mk h a c ks)=.ok tt):=(UX HTS.out).trans (Py hk1 e3)
     have HB2:Hid (yD wr w2):=Qd HB1.out hb2
     clear cN hb2 e3 HSx HMx HZx HBx
     clear s0 s1 s2 s3 p0 p1 p2 p3 p4 p5 p6 p7
     unfold two
     have HSx:Hid (w2.heap[w§]? = (zC #[.string S.x,.slice S.ra S.rs.length S.rc,.slice S.sa S.ss.length S.sc,.slice S.ta S.ts.length S.tc] 26)):=(HB2.out.block _ (zJ HSb.out).1).trans HSb.out
     have HMx:Hid (w2.heap[w§+1]? = (zC (zX h a ks c) 38)):=(HB2.out.block _ (zJ HMb.out).1).trans HMb.out
     have HZx:Hid (w2.heap[w§+2]? = (zC zi 43)):=(HB2.out.block _ (zJ HZb.out).1).trans HZb.out
     have HBx:Hid (yD w w2):=Qd HBw.out HB2.out
     have hz:=HZx.out
     obtain⟨z0,z1,z2⟩:=cl3 hz
     obtain⟨f0,f1,f2⟩:=fz3 hz
     clear hz
     have HW:Hid (((w2.setCell ⟨w§+2,0,none⟩ (zI 0)).setCell ⟨w§+2,1,none⟩ (zI 0)).setCell ⟨w§+2,2,none⟩ (.bool false) |>.heap[w§+2]? |> (· = (zC zi 43))):=XJ HZx.out _ _ _
     have HV:Hid (yD w (((w2.setCell ⟨w§+2,0,none⟩ (zI 0)).setCell ⟨w§+2,1,none⟩ (zI 0)).setCell ⟨w§+2,2,none⟩ (.bool false))):=JE HBx.out zY _ _ _
     go_wp2_with fail
     refine bodyPost_ret (Js rfl _ _ (w§+2) 43 zi (0,0) _ rfl HW.out underlying43 rfl Xe) rfl ⟨tt,0,0,false,rfl,.inl ⟨HER.out,rfl,rfl,rfl⟩,HV.out⟩
   ·have hk1:(h.k == 2)=false:=by simpa using hk
    have HK2:Hid (¬ h.k=2):=hk
    clear hk
    have HSy:Hid (wr.heap[w§]? = (zC #[.string S.x,.slice S.ra S.rs.length S.rc,.slice S.sa S.ss.length S.sc,.slice S.ta S.ts.length S.tc] 26)):=(HBr.out.block _ (zJ HSb.out).1).trans HSb.out
    have HMy:Hid (wr.heap[w§+1]? = (zC (zX h a ks c) 38)):=(HBr.out.block _ (zJ HMb.out).1).trans HMb.out
    have HZy:Hid (wr.heap[w§+2]? = (zC zi 43)):=(HBr.out.block _ (zJ HZb.out).1).trans HZb.out
    have HBy:Hid (yD w wr):=Qd HBw.out HBr.out
    obtain⟨s0,s1,s2,s3⟩:=cl4 HSb.out
    obtain⟨p0,p1,p2,p3,p4,p5,p6,p7⟩:=cl8 HMb.out
    have cN:Calls zG 57 #[.agg #[.string S.x,.slice S.ra S.rs.length S.rc,.slice S.sa S.ss.length S.sc,.slice S.ta S.ts.length S.tc],.agg (zX h a ks c),u6] wr _:=VN S h a c ks ts u6 wr (HL.out.2.on (Qd HT.out.1.B HBr.out)) HF.out HT.out.2.1 (HRV.out.on HBr.out) (fun e=>absurd e HK2.out)
    go_wp2_with fail
    refine cN.mono ?_
    rintro e w2 ⟨⟨tt,bb,rfl,hbb⟩,hb2⟩
    rw [if_neg HK2.out] at hbb
    have HB2:Hid (yD wr w2):=hb2
    obtain⟨ft,eft⟩:∃ ft,fitT h ks.length (ts.getD 0 0) (ts.getD 1 0) (ts.getD 2 0)=ft:=jV
    rw [eft] at hbb
    obtain⟨f1',f2'⟩:=ft
    obtain⟨rfl,e3⟩:=hbb
    clear cN hb2
    clear s0 s1 s2 s3 p0 p1 p2 p3 p4 p5 p6 p7
    unfold two
    have HSx:Hid (w2.heap[w§]? = (zC #[.string S.x,.slice S.ra S.rs.length S.rc,.slice S.sa S.ss.length S.sc,.slice S.ta S.ts.length S.tc] 26)):=(HB2.out.block _ (zJ HSb.out).1).trans HSb.out
    have HMx:Hid (w2.heap[w§+1]? = (zC (zX h a ks c) 38)):=(HB2.out.block _ (zJ HMb.out).1).trans HMb.out
    have HZx:Hid (w2.heap[w§+2]? = (zC zi 43)):=(HB2.out.block _ (zJ HZb.out).1).trans HZb.out
    have HBx:Hid (yD w w2):=Qd HBw.out HB2.out
    cases bb with
    | true =>
     obtain rfl:=e3 rfl
     have HER:Hid (tyR (regL S.rs) (.mk h a c ks)=.ok tt):=(UX HTS.out).trans (Qa5 hk1 eft)
     clear e3 eft
     have hz:=HZx.out
     obtain⟨z0,z1,z2⟩:=cl3 hz
     obtain⟨f0,f1,f2⟩:=fz3 hz
     clear hz
     have HW:Hid (((w2.setCell ⟨w§+2,0,none⟩ (zI 0)).setCell ⟨w§+2,1,none⟩ (zI 0)).setCell ⟨w§+2,2,none⟩ (.bool false) |>.heap[w§+2]? |> (· = (zC zi 43))):=XJ HZx.out _ _ _
     have HV:Hid (yD w (((w2.setCell ⟨w§+2,0,none⟩ (zI 0)).setCell ⟨w§+2,1,none⟩ (zI 0)).setCell ⟨w§+2,2,none⟩ (.bool false))):=JE HBx.out zY _ _ _
     go_wp2_with fail
     refine bodyPost_ret (Js rfl _ _ (w§+2) 43 zi (0,0) _ rfl HW.out underlying43 rfl Xe) rfl ⟨tt,0,0,false,rfl,.inl ⟨HER.out,rfl,rfl,rfl⟩,HV.out⟩
    | false =>
     have HER:Hid (tyR (regL S.rs) (.mk h a c ks)=.error (h.p,152)):=(UX HTS.out).trans (Qc5 hk1 eft)
     clear e3 eft
     go_upto_region 13 with fail
     have hz:=HZx.out
     have z0:zQ w2 ⟨w§+2,0,none⟩ (zI 0):=Qa hz 0
     have f0:=Qf hz 0
     have z1:zQ w2 ⟨w§+2,1,none⟩ (zI 0):=Qa hz 1
     have f1:=Qf hz 1
     have z2:zQ w2 ⟨w§+2,2,none⟩ (.bool false):=Qa hz 2
     have f2:=Qf hz 2
     have t7:zQ w2 ⟨w§+1,7,none⟩ (zI h.p):=Qa HMx.out 7
     clear hz
     refine (?_:∀ Q',Hid (Q'=_)→Code.wp _ _ Q' _ _) _ rfl
     intro Q' HQ'
     have HPn:zHP Q':=by rw [HQ'.out];exact fun _ _ _ _ _ h=>h
     have hz0:w2.drew.cell? ⟨w§+2,0,none⟩=some (zI 0):=z0
     have hz1:w2.drew.cell? ⟨w§+2,1,none⟩=some (zI 0):=z1
     have hz2:w2.drew.cell? ⟨w§+2,2,none⟩=some (.bool false):=z2
     have hf0:w2.drew.frozen? ⟨w§+2,0,none⟩=false:=f0
     have hf1:w2.drew.frozen? ⟨w§+2,1,none⟩=false:=f1
     have hf2:w2.drew.frozen? ⟨w§+2,2,none⟩=false:=f2
     refine wp_region_held_drew (S:=fun v=>v.heap[w§+1]? = (zC (zX h a ks c) 38)) zK HMx.out (fun hHeld=>?_)
     refine zTb 0 HPn
     rotate_left
     ·(intro v hv;go_simp;try (with_reducible rfl))
     try simp [Act.put]
     refine zTb 1 HPn
     rotate_left
     ·(intro v hv;have t7:=Qa hv 7;go_simp;try (with_reducible rfl))
     try simp [Act.put]
     refine zTb 2 HPn
     rotate_left
     ·(intro v hv;go_simp;try (with_reducible rfl))
     try simp [Act.put]
     refine zTb 3 HPn
     rotate_left
     ·(intro v hv;go_simp;try (with_reducible rfl))
     try simp [Act.put]
     clear hHeld
     refine wpAnyH_ready (rs:=[4]) zK (by simp) ?_
     refine AllReadyH.cons rfl (fun K hK=>?_) AllReadyH.nil
     go_simp
     refine hK.out _ _ ((Qbk _ zY _ _ _).trans HMx.out) (fun hHeld=>?_)
     clear hK K hHeld
     try simp [Act.put]
     refine wpAnyH_done zK ?_ _
     rw [HQ'.out]
     clear HQ' HPn Q' z0 z1 z2 f0 f1 f2 hz0 hz1 hz2 hf0 hf1 hf2
     have HW:Hid ((((w2.setCell ⟨w§+2,0,none⟩ (zI 152)).setCell ⟨w§+2,1,none⟩ (zI h.p)).setCell ⟨w§+2,2,none⟩ (.bool true)).drew.heap[w§+2]? = (zC #[zI 152,zI h.p,.bool true] 43)∧yD w (((w2.setCell ⟨w§+2,0,none⟩ (zI 152)).setCell ⟨w§+2,1,none⟩ (zI h.p)).setCell ⟨w§+2,2,none⟩ (.bool true)).drew):=⟨XJ HZx.out _ _ _,(JE HBx.out zY _ _ _).drew⟩
     generalize World.drew _=u2 at HW ⊢
     go_wp2_with fail
     refine bodyPost_ret (Js rfl _ _ (w§+2) 43 #[zI 152,zI h.p,.bool true] (0,0) _ rfl HW.out.1 underlying43 rfl Xe) rfl ⟨0,152,h.p,true,rfl,.inr ⟨HER.out,rfl,rfl,.inr rfl⟩,HW.out.2⟩
theorem QaM:∀ (m:Nd) (w:yW),Lies w m→Calls zG 54 #[.agg m.vals] w fun e w'=>e=.returned (.bool (Qw m))∧yD w w':=by
 refine Nd.ind fun h a c ks ih w hl=>?_
 have HI:=zH ih
 have HL:=zH hl
 have hb1:=Qb w (.cells (zX h a ks c) 38)
 have hn1:=Qc w (.cells (zX h a ks c) 38)
 obtain⟨W1,e1⟩:∃ W,w.alloc (.cells (zX h a ks c) 38)=W:=jV
 have E1:=zH e1
 rw [e1] at hb1 hn1
 have HB1:=zH hb1
 have HN1:=zH hn1
 have HCP:Hid (ks.length≤jX):=by have h1:=hl.cap;have h2:=hl.max;simp only [Nd.ks,Nd.c] at h1 h2;show _≤_;omega
 have c1:=Qdy h a ks.length c W1 (by have:=hl.rg.x1;exact this)
 have HF:Hid (Qw (.mk h a c ks)=(oneH h ks.length && Q1 ks)):=by show _=_;rw [Qw]
 obtain⟨q0,q1,q2,q3,q4,q5,q6,q7⟩:=cl8 hn1
 obtain⟨FB,eFB⟩:∃ b,Qw (.mk h a c ks)=b:=jV
 rw [eFB] at HF ⊢
 obtain⟨B0,eB0⟩:∃ b,oneH h ks.length=b:=jV
 rw [eB0] at c1 HF
 clear hb1 hn1 e1 ih hl eFB eB0
 show Calls zG 54 #[.agg (zX h a ks c)] w _
 go_enter func54,ntmps54
 go_upto_region 1 with fail
 rw [E1.out]
 clear E1
 go_wp2_with fail
 refine c1.mono ?_
 rintro e w2 ⟨rfl,hb2⟩
 have HB2:Hid (yD w w2∧w2.heap[w§]? = (zC (zX h a ks c) 38)):=⟨Qd HB1.out hb2,(hb2.block _ (zJ HN1.out).1).trans HN1.out⟩
 clear c1 hb2 q0 q1 q2 q3 q4 q5 q6 q7 HB1 HN1
 go_wp2_with fail
 go_loopw [3,4] (fun f t wr=>∃ (i:Nat) (B:Bool),i≤ks.length∧t=zI i∧f=.bool B∧Hid (yD w wr)∧Hid (wr.heap[w§]? = (zC (zX h a ks c) 38))∧Hid (FB=(B && Q1 (ks.drop i)))) (fun _ t _=>ks.length - (intOf t).toNat)
 case atStart=>exact⟨0,B0,by omega,rfl,rfl,HB2.out.1,HB2.out.2,HF⟩
 case round =>
  obtain⟨i,B,hi,rfl,rfl,HBR,HNR,HR⟩:=hrel
  have x6:zQ wr w§¢6 (.slice a ks.length c):=Qa HNR.out 6
  by_cases hlt:i < ks.length
  ·have hlt':(i:Int) < (ks.length:Int):=by omega
   cases B with
   | false =>
    have HZ:Hid (FB=false):=by show _=_;rw [HR.out];rfl
    clear HR
    go_wp2
    go_ret
    exact⟨by rw [HZ.out];rfl,HBR.out⟩
   | true =>
    have hmx:(i:Int)+1≤jX:=by have:=HCP.out;omega
    obtain⟨b,o,e,hat⟩:=(HL.out.on HBR.out).kid i hlt
    have e2:a=some b¢o:=e
    clear e
    subst e2
    have HMEM:Hid (ks[i] ∈ ks):=List.getElem_mem hlt
    have HD:Hid (FB=(Qw ks[i] && Q1 (ks.drop (i+1)))):=by show _=_;rw [HR.out,List.drop_eq_getElem_cons hlt];rfl
    obtain⟨k,ek⟩:∃ k,ks[i]=k:=jV
    have hat2:NdAt wr b (o+i * 8) k:=by rw [← ek];exact hat
    rw [ek] at HD HMEM
    obtain⟨z0,z1,z2,z3,z4,z5,z6,z7⟩:=hat2
    have cI:Calls zG 54 #[.agg (zV k)] wr fun e w'=>e=.returned (.bool (Qw k))∧yD wr w':=HI.out k HMEM.out wr ((HL.out.on HBR.out).sub k HMEM.out)
    clear ek hat HR
    go_wp2_with fail
    refine cI.mono ?_
    rintro e w5 ⟨rfl,hb5⟩
    have HB5:=zH (Qd HBR.out hb5)
    have HN5:Hid (w5.heap[w§]? = (zC (zX h (some b¢o) ks c) 38)):=(hb5.block _ (zJ HNR.out).1).trans HNR.out
    clear cI hb5 z0 z1 z2 z3 z4 z5 z6 z7 x6
    go_wp2_with fail
    exact⟨⟨i+1,Qw k,hlt,rfl,rfl,HB5,HN5,HD⟩,by simp only [intOf];omega⟩
  ·obtain rfl:i=ks.length:=by omega
   have hnot:¬ (ks.length:Int) < (ks.length:Int):=by omega
   have HZ:Hid (FB=B):=by show _=_;rw [HR.out,List.drop_length];cases B <;> rfl
   clear HR
   go_wp2
   go_ret
   exact⟨by rw [HZ.out];rfl,HBR.out⟩
theorem PW (m:Nd) (w:yW) (hl:Lies w m) (hz:size m≤1000000000000):Calls zG 29 #[.agg m.vals] w fun e w'=>e=.returned (zI (cE m))∧yD w w':=by
 have c:=QaM m (zA w m.vals 38) (hl.on (Qb w _))
 have c2:=fun (f:Qw m=true) v (hv:yD w v)=>Qaj m v (hl.on hv) hz f
 clear hl hz
 unfold cE
 obtain⟨B,eB⟩:∃ B,Qw m=B:=jV
 rw [eB] at c c2 ⊢
 clear eB
 obtain⟨D,eD⟩:∃ D,dep m=D:=jV
 rw [eD] at c2 ⊢
 clear eD
 simp only [Nd.vals,hdA] at c c2 ⊢
 cases B with
 | true =>
  replace c2:=c2 rfl
  rw [if_pos rfl]
  by_cases hD:D≤24
  ·rw [if_pos hD]
   have hD':¬ (24:Int) < (D:Int):=by omega
   clear hD
   go_enter func29,ntmps29
   go_wp2_with fail
   refine c.mono ?_
   rintro e w1 ⟨rfl,hb⟩
   obtain⟨q0,q1,q2,q3,q4,q5,q6,q7⟩:=box8 hb
   have HB1:Hid (yD w w1):=(Qb _ _).trans (hb.mono (by simp))
   clear hb c
   go_wp2_with fail
   refine (c2 _ HB1.out).mono ?_
   rintro e w2 ⟨rfl,hb2⟩
   have HB2:=zH (HB1.out.trans (hb2.mono HB1.out.size))
   clear hb2 c2 q0 q1 q2 q3 q4 q5 q6 q7
   go_wp2
   go_ret
   exact⟨rfl,HB2.out⟩
  ·rw [if_neg hD]
   have hD':(24:Int) < (D:Int):=by omega
   clear hD
   go_enter func29,ntmps29
   go_wp2_with fail
   refine c.mono ?_
   rintro e w1 ⟨rfl,hb⟩
   obtain⟨q0,q1,q2,q3,q4,q5,q6,q7⟩:=box8 hb
   have HB1:Hid (yD w w1):=(Qb _ _).trans (hb.mono (by simp))
   clear hb c
   go_wp2_with fail
   refine (c2 _ HB1.out).mono ?_
   rintro e w2 ⟨rfl,hb2⟩
   have HB2:=zH (HB1.out.trans (hb2.mono HB1.out.size))
   clear hb2 c2 q0 q1 q2 q3 q4 q5 q6 q7
   go_wp2
   go_ret
   exact⟨rfl,HB2.out⟩
 | false =>
  rw [if_neg (by decide)]
  go_enter func29,ntmps29
  go_wp2_with fail
  refine c.mono ?_
  rintro e w1 ⟨rfl,hb⟩
  have HB1:Hid (yD w w1):=(Qb _ _).trans (hb.mono (by simp))
  clear hb c
  go_wp2
  go_ret
  exact⟨rfl,HB1.out⟩
def FlO (r:Except (Int × Int) Int) (t E P:Int) (B:Bool):Prop:=(r=.ok t∧E=0∧P=0∧B=false)∨(r=.error (P,E)∧t=0∧B=true∧E≠0)
def OutO (w:yW) (r:Except (Int × Int) Int) (e:Ending) (w':yW):Prop:=∃ t E P B,e=.returned (.tuple #[zU t,.agg #[zI E,zI P,.bool B]])∧FlO r t E P B∧yD w w'
theorem Hj (S:Qg) (m:Nd) (w:yW) (hs:Qr w S) (hl:Lies w m) (hz:size m≤900000000):Calls zG 10 #[.agg S.vals,.agg m.vals] w (OutO w (ofE S m)):=by
 obtain⟨V,eV⟩:∃ V,((zA w #[.string S.x,.slice S.ra S.rs.length S.rc,.slice S.sa S.ss.length S.sc,.slice S.ta S.ts.length S.tc] 26).alloc (.cells (zV m) 38)).alloc (.cells zi 43)=V:=jV
 have e1:yD w V:=by rw [← eV];exact (Qk _ _ _).alloc (by rw [Qe,Qe];omega) _
 have n0:V.heap[w§]? = (zC #[.string S.x,.slice S.ra S.rs.length S.rc,.slice S.sa S.ss.length S.sc,.slice S.ta S.ts.length S.tc] 26):=by rw [← eV];exact Qz (Qz (Qc _ _) (by rw [Qe];omega)) (by rw [Qe,Qe];omega)
 have n1:V.heap[w§+1]? = (zC (zV m) 38):=by
  rw [← eV,← Qe w (.cells #[.string S.x,.slice S.ra S.rs.length S.rc,.slice S.sa S.ss.length S.sc,.slice S.ta S.ts.length S.tc] 26)];exact Qz (Qc _ _) (by rw [Qe _ (.cells (zV m) 38)];omega)
 have n2:V.heap[w§+2]? = (zC zi 43):=by
  have e:w§+2=((zA w #[.string S.x,.slice S.ra S.rs.length S.rc,.slice S.sa S.ss.length S.sc,.slice S.ta S.ts.length S.tc] 26).alloc (.cells (zV m) 38))§:=by rw [Qe,Qe]
  rw [← eV,e];exact Qc _ _
 have HB:Hid (yD w V):=e1
 have HS0:Hid (V.heap[w§]? = (zC #[.string S.x,.slice S.ra S.rs.length S.rc,.slice S.sa S.ss.length S.sc,.slice S.ta S.ts.length S.tc] 26)):=n0
 have HM0:Hid (V.heap[w§+1]? = (zC (zV m) 38)):=n1
 have HZ0:Hid (V.heap[w§+2]? = (zC zi 43)):=n2
 have HL:Hid (Lies V m∧Qr V S∧size m≤900000000):=⟨hl.on e1,hs.on e1,hz⟩
 obtain⟨p0,p1,p2,p3,p4,p5,p6,p7⟩:=cl8 n1
 have cC:Calls zG 29 #[.agg (zV m)] V fun e w'=>e=.returned (zI (cE m))∧yD V w':=PW m V (hl.on e1) (Nat.le_trans hz (by decide))
 obtain⟨E,eE⟩:∃ E,cE m=E:=jV
 have HE:Hid (cE m=E):=eE
 rw [eE] at cC
 clear hs hl hz e1 n0 n1 n2 eE
 show Calls zG 10 #[.agg #[.string S.x,.slice S.ra S.rs.length S.rc,.slice S.sa S.ss.length S.sc,.slice S.ta S.ts.length S.tc],.agg (zV m)] w _
 go_enter func10,ntmps10
 go_wp2_with fail
 clear eV
 refine cC.mono ?_
 rintro e w1 ⟨rfl,hb1⟩
 have HB1:Hid (yD w w1):=Qd HB.out hb1
 have HBv:Hid (yD V w1):=hb1
 have hz:w1.heap[w§+2]? = (zC zi 43):=(hb1.block _ (zJ HZ0.out).1).trans HZ0.out
 have HZ1:Hid (w1.heap[w§+2]? = (zC zi 43)):=hz
 clear cC hb1 p0 p1 p2 p3 p4 p5 p6 p7
 by_cases h0:E=0
 ·subst h0
  clear hz
  have n0:w1.heap[w§]? = (zC #[.string S.x,.slice S.ra S.rs.length S.rc,.slice S.sa S.ss.length S.sc,.slice S.ta S.ts.length S.tc] 26):=(HBv.out.block _ (zJ HS0.out).1).trans HS0.out
  have n1:w1.heap[w§+1]? = (zC (zV m) 38):=(HBv.out.block _ (zJ HM0.out).1).trans HM0.out
  obtain⟨s0,s1,s2,s3⟩:=cl4 n0
  obtain⟨p0,p1,p2,p3,p4,p5,p6,p7⟩:=cl8 n1
  have hfm:Qw m=true:=by
   have h:=HE.out
   unfold cE at h
   by_cases hf:Qw m=true
   ·exact hf
   ·rw [if_neg hf] at h;cases h
  have HOF : Hid (ofE S m = tyR (regL S.rs) m) := if_pos HE.out
  have cT:Calls zG 30 #[.agg #[.string S.x,.slice S.ra S.rs.length S.rc,.slice S.sa S.ss.length S.sc,.slice S.ta S.ts.length S.tc],.agg (zV m)] w1 (QbO w1 (tyR (regL S.rs) m)):=F7 S m w1 (HL.out.2.1.on HBv.out) (HL.out.1.on HBv.out) hfm HL.out.2.2
  clear n0 n1 hfm
  go_wp2_with fail
  refine cT.mono ?_
  rintro e w2 ⟨t1,E1,P1,B1,rfl,hr1,hb2⟩
  have HR:Hid (FlO (ofE S m) t1 E1 P1 B1):=by
   show FlO _ _ _ _ _
   rw [HOF.out]
   rcases hr1 with h | ⟨h1,h2,h3,h4⟩
   ·exact .inl h
   ·exact .inr ⟨h1,h2,h3,by rcases h4 with rfl | rfl <;> decide⟩
  have HB2:Hid (yD w w2):=Qd HB1.out hb2
  have hz:w2.heap[w§+2]? = (zC zi 43):=(hb2.block _ (zJ HZ1.out).1).trans HZ1.out
  have HZ2:Hid (w2.heap[w§+2]? = (zC zi 43)):=hz
  obtain⟨z0,z1,z2⟩:=cl3 hz
  obtain⟨f0,f1,f2⟩:=fz3 hz
  clear cT hr1 hb2 hz s0 s1 s2 s3 p0 p1 p2 p3 p4 p5 p6 p7
  go_wp2_with fail
  exact bodyPost_ret (Js rfl _ _ (w§+2) 43 #[zI E1,zI P1,.bool B1] (0,0) _ rfl (XJ HZ2.out _ _ _) underlying43 rfl Xe) rfl ⟨t1,E1,P1,B1,rfl,HR.out,JE HB2.out zY _ _ _⟩
 ·have hne:(E != 0)=true:=by simpa using h0
  have HOF:Hid (ofE S m=.error (0,E)):=by
   show _=_
   unfold ofE
   rw [HE.out,if_neg h0]
  have HN0:Hid (E≠0):=h0
  obtain⟨z0,z1,z2⟩:=cl3 hz
  obtain⟨f0,f1,f2⟩:=fz3 hz
  clear h0 hz
  go_wp2_with fail
  exact bodyPost_ret (Js rfl _ _ (w§+2) 43 #[zI E,zI 0,.bool true] (0,0) _ rfl (XJ HZ1.out _ _ _) underlying43 rfl Xe) rfl ⟨0,E,0,true,rfl,.inr ⟨HOF.out,rfl,rfl,HN0.out⟩,JE HB1.out zY _ _ _⟩
end Go.Proofs.YtfbjofnaghjmeaaGreatDoor
