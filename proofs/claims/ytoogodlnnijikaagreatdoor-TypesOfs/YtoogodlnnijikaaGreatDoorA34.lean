import Derived.Test.YtoogodlnnijikaaGreatDoorA0
import Derived.Test.YtoogodlnnijikaaGreatDoorA32
import Derived.Test.YtoogodlnnijikaaGreatDoorA26
import Derived.Test.YtoogodlnnijikaaGreatDoorA33
namespace Go.Proofs.YtoogodlnnijikaaGreatDoor
open Go.RowKit
set_option linter.unusedVariables false
set_option linter.unusedSimpArgs false
def FlR (r:Except (Int × Int) Int) (t E P:Int) (B:Bool):Prop:=(r=.ok t∧E=0∧P=0∧B=false)∨(r=.error (P,E)∧t=0∧B=true∧(E=151∨E=152))
def OutF (w:World) (r:Except (Int × Int) Int) (e:Ending) (w':World):Prop:=∃ t E P B,e=.returned (.tuple #[zU t,.agg #[zI E,zI P,.bool B]])∧FlR r t E P B∧Below w§ w w'
theorem results_tc {P:Program}{fn:Func}{p u:Tmp}{ty:TypeId}(h:fn.results=#[.tmp p,.cell u ty]) (tmps:Array Value) (w:World) (g:Nat) (t:TypeId) (cs:Array Value) (fr:Nat × Nat) (d:TypeDesc)
  (hp:tmps.getD u undef=zP g) (hg:w.heap[g]? = some (.cells cs t fr)) (hu:P.underlying ty=some d) (hd:(match d with | .struct _ | .array _ _=>true | _=>false)=true) (hi:(P.info? ty).map (·.size)=some cs.size) :
  (results fn tmps).run P w=.ok (.tuple #[tmps.getD p undef,.agg cs]) w:=by
 have hp':tmps[u]?.getD undef=zP g:=by simpa using hp
 simp [results,h,hp',asAddr,run_loadVar_row w g t ty cs fr d hg hu hd hi]
theorem put3u {w:World}{b:Nat}{a0 a1 a2:Value}{t:TypeId}(h:w.heap[b]? = some (.cells #[a0,a1,a2] t (0,0))) (v0 v1 v2:Value) :
  (((w.setCell ⟨b,0,none⟩ v0).setCell ⟨b,1,none⟩ v1).setCell ⟨b,2,none⟩ v2).heap[b]? = some (.cells #[v0,v1,v2] t (0,0)):=by
 have h1:(w.setCell ⟨b,0,none⟩ v0).heap[b]? = some (.cells #[v0,a1,a2] t (0,0)):=heap_set v0 h
 have h2:((w.setCell ⟨b,0,none⟩ v0).setCell ⟨b,1,none⟩ v1).heap[b]? = some (.cells #[v0,v1,a2] t (0,0)):=heap_set v1 h1
 exact heap_set v2 h2
theorem below3u {B:Nat}{w v:World}{b:Nat}(h:Below B w v) (hb:B≤b) (v0 v1 v2:Value):Below B w (((v.setCell ⟨b,0,none⟩ v0).setCell ⟨b,1,none⟩ v1).setCell ⟨b,2,none⟩ v2) :=
 ((h.setCell (p:=⟨b,0,none⟩) hb v0).setCell (p:=⟨b,1,none⟩) hb v1).setCell (p:=⟨b,2,none⟩) hb v2
theorem oth3u (w:World) {b k:Nat}(hk:k≠b) (v0 v1 v2:Value):(((w.setCell ⟨b,0,none⟩ v0).setCell ⟨b,1,none⟩ v1).setCell ⟨b,2,none⟩ v2).heap[k]? = w.heap[k]? :=
 (Below.heap_setCell _ _ _ _ hk).trans ((Below.heap_setCell _ _ _ _ hk).trans (Below.heap_setCell _ _ _ _ hk))
theorem info44:(Tryz.prog.info? 44).map (fun i=>(i.zero,i.size,i.bytes))=some (some (zU 0),1,1):=by kernel_rfl
theorem size39:(Tryz.prog.info? 39).map (·.size)=some 3:=by kernel_rfl
def tyC (t:Int):Array Value:=#[zU t]
theorem tsr_of {W w:World}{v:Value}{ts:List Int}(h:RA W w 44 1 v (ts.map tyC)):TsR w v ts:=by
 have h1:=h.row
 rw [List.length_map] at h1
 refine Row.congr h1 fun j hj=>?_
 rw [Nat.mul_one] at hj
 unfold arF
 simp [tyC,List.getD,hj,Nat.mod_one]
theorem join_cons {ts:List Int}{L:ByteArray→Option Int}{ks:List Nd}{i:Nat}(hi:i < ks.length):joinT ts (tysR L (ks.drop i))=match tyR L ks[i] with
  | .error e=>.error e
  | .ok t=>joinT (ts ++ [t]) (tysR L (ks.drop (i+1))):=by
 rw [drop_nth hi]
 simp only [tysR]
 cases tyR L ks[i] with
 | error e=>rfl
 | ok t =>
  cases tysR L (ks.drop (i+1)) with
  | error e=>rfl
  | ok l=>simp [joinT]
set_option maxRecDepth 100000 in
set_option maxHeartbeats 16000000 in
theorem rtyped_any (S:StratM):∀ (m:Nd) (w:World),StratL w S→Lies w m→formB m=true→size m≤900000000→Calls zG 45 #[.agg S.vals,.agg m.vals] w (OutF w (tyR (regL S.rs) m)):=by
 refine Nd.ind fun h a c ks ih w hs hl hfm hz=>?_
 have hn:ks.length≤900000000:=by have:=len_sizes ks; simp only [size] at hz; omega
 obtain⟨V,eV⟩:∃ V,((w.alloc (.cells #[.string S.x,.slice S.ra S.rs.length S.rc,.slice S.sa S.ss.length S.sc,.slice S.ta S.ts.length S.tc] 27)).alloc (.cells #[zU h.k,zU h.o,zU h.t,zI h.n,zU h.f,.string h.x,.slice a ks.length c,zI h.p] 48)).alloc (.cells #[zI 0,zI 0,.bool false] 39)=V:=⟨_,rfl⟩
 have e1:Below w§ w V:=by rw [← eV]; exact (below_two _ _ _).alloc (by rw [size_alloc,size_alloc]; omega) _
 have n0:V.heap[w§]? = some (.cells #[.string S.x,.slice S.ra S.rs.length S.rc,.slice S.sa S.ss.length S.sc,.slice S.ta S.ts.length S.tc] 27 (0,0)):=by rw [← eV]; exact heap_old (heap_old (heap_new _ _) (by rw [size_alloc]; omega)) (by rw [size_alloc,size_alloc]; omega)
 have n1:V.heap[w§+1]? = some (.cells #[zU h.k,zU h.o,zU h.t,zI h.n,zU h.f,.string h.x,.slice a ks.length c,zI h.p] 48 (0,0)):=by
  rw [← eV,← size_alloc w (.cells #[.string S.x,.slice S.ra S.rs.length S.rc,.slice S.sa S.ss.length S.sc,.slice S.ta S.ts.length S.tc] 27)]; exact heap_old (heap_new _ _) (by rw [size_alloc _ (.cells #[zU h.k,zU h.o,zU h.t,zI h.n,zU h.f,.string h.x,.slice a ks.length c,zI h.p] 48)]; omega)
 have n2:V.heap[w§+2]? = some (.cells #[zI 0,zI 0,.bool false] 39 (0,0)):=by
  have e:w§+2=((w.alloc (.cells #[.string S.x,.slice S.ra S.rs.length S.rc,.slice S.sa S.ss.length S.sc,.slice S.ta S.ts.length S.tc] 27)).alloc (.cells #[zU h.k,zU h.o,zU h.t,zI h.n,zU h.f,.string h.x,.slice a ks.length c,zI h.p] 48))§:=by rw [size_alloc,size_alloc]
  rw [← eV,e]; exact heap_new _ _
 have HI:Hid (∀ k ∈ ks,∀ (w:World),StratL w S→Lies w k→Calls zG 45 #[.agg S.vals,.agg k.vals] w (OutF w (tyR (regL S.rs) k))):=fun k hk v h1 h2=>ih k hk v h1 h2 (form_kidO hfm hk) (Nat.le_trans (size_kid hk) hz)
 have HB:Hid (Below w§ w V):=e1
 have HS0:Hid (V.heap[w§]? = some (.cells #[.string S.x,.slice S.ra S.rs.length S.rc,.slice S.sa S.ss.length S.sc,.slice S.ta S.ts.length S.tc] 27 (0,0))):=n0
 have HM0:Hid (V.heap[w§+1]? = some (.cells #[zU h.k,zU h.o,zU h.t,zI h.n,zU h.f,.string h.x,.slice a ks.length c,zI h.p] 48 (0,0))):=n1
 have HZr:Hid (V.heap[w§+2]? = some (.cells #[zI 0,zI 0,.bool false] 39 (0,0))):=n2
 have HL:Hid (Lies V (.mk h a c ks)∧StratL V S):=⟨hl.on e1,hs.on e1⟩
 have HN:Hid (ks.length≤900000000):=hn
 have HF:Hid (formB (.mk h a c ks)=true):=hfm
 clear ih hs hl hfm hz hn e1 n0 n1 n2
 show Calls zG 45 #[.agg #[.string S.x,.slice S.ra S.rs.length S.rc,.slice S.sa S.ss.length S.sc,.slice S.ta S.ts.length S.tc],.agg #[zU h.k,zU h.o,zU h.t,zI h.n,zU h.f,.string h.x,.slice a ks.length c,zI h.p]] w _
 go_enter Tryz.func45,Tryz.ntmps45
 go_wp2_with fail
 clear eV
 go_loopw [6,7] (fun v t wr=>∃ (i:Nat) (ts:List Int),i≤ks.length∧t=zI i∧Hid (RA V wr 44 1 v (ts.map tyC)∧ts.length=i∧tysR (regL S.rs) ks=joinT ts (tysR (regL S.rs) (ks.drop i)))) (fun _ t _=>ks.length - (intOf t).toNat)
 case atStart=>exact⟨0,[],by omega,rfl,RA.nil (Below.refl _ _) 44 1,rfl,by rw [List.drop_zero]; cases tysR (regL S.rs) ks <;> rfl⟩
 case round =>
  obtain⟨i,ts,hi,rfl,HT⟩:=hrel
  have HSb:Hid (wr.heap[w§]? = some (.cells #[.string S.x,.slice S.ra S.rs.length S.rc,.slice S.sa S.ss.length S.sc,.slice S.ta S.ts.length S.tc] 27 (0,0))):=(HT.out.1.B.block _ (Array.getElem?_eq_some_iff.1 HS0.out).1).trans HS0.out
  have HMb:Hid (wr.heap[w§+1]? = some (.cells #[zU h.k,zU h.o,zU h.t,zI h.n,zU h.f,.string h.x,.slice a ks.length c,zI h.p] 48 (0,0))):=(HT.out.1.B.block _ (Array.getElem?_eq_some_iff.1 HM0.out).1).trans HM0.out
  have q6:wr.cell? ⟨w§+1,6,none⟩=some (.slice a ks.length c):=cell_of HMb.out 6
  by_cases hlt:i < ks.length
  ·have hlt':(i:Int) < (ks.length:Int):=by omega
   obtain⟨b,o,e1,hat⟩:=(HL.out.1.on HT.out.1.B).kid i hlt
   have e2:a=some ⟨b,o,none⟩:=e1
   have hk1:NdAt wr b (o+i * 8) ks[i]:=hat
   have cT:∀ v,Below wr§ wr v→Calls zG 45 #[.agg #[.string S.x,.slice S.ra S.rs.length S.rc,.slice S.sa S.ss.length S.sc,.slice S.ta S.ts.length S.tc],.agg ks[i].vals] v (OutF v (tyR (regL S.rs) ks[i])):=fun v hv=>HI.out ks[i] (nth_mem hlt) v (HL.out.2.on (below2 HT.out.1.B hv)) ((HL.out.1.sub ks[i] (nth_mem hlt)).on (below2 HT.out.1.B hv))
   obtain⟨k,ek⟩:∃ k,ks[i]=k:=⟨_,rfl⟩
   rw [ek] at hk1 cT
   rw [e2] at q6
   obtain⟨y0,y1,y2,y3,y4,y5,y6,y7⟩:=hk1
   unfold Nd.vals hdA at cT
   have HEK:Hid (ks[i]=k):=ek
   clear ek e1 e2 hat
   go_upto_region 5 with fail
   refine (?_:∀ Q',Hid (Q'=_)→Code.wp _ _ Q' _ _) _ rfl
   intro Q' HQ'
   have HPn:Hid (∀ p (d:Nat) v a w,Q' (.panic p) (Act.put a (some d) v) w→Q' (.panic p) a w):=by rw [HQ'.out]; exact fun _ _ _ _ _ h=>h
   refine wp_region_held_drew (S:=fun v=>Below wr§ wr v) zK ⟨rfl,rfl,rfl,Nat.le_refl _,fun _ _=>rfl⟩ (fun hHeld=>?_)
   refine wpAnyH_take (i:=0) (v:=?_) rfl zK zK zK (fun c a w h=>HPn.out c _ _ a w h) (Or.inl ⟨by rfl,?_⟩) (by assumption) ?_
   rotate_left
   ·(intro v hv; have g:=(hv.block _ (Array.getElem?_eq_some_iff.1 HSb.out).1).trans HSb.out; have t0:=cell_of g 0; have t1:=cell_of g 1; have t2:=cell_of g 2; have t3:=cell_of g 3; clear g; go_simp; try (with_reducible rfl))
   try simp [Act.put]
   refine wpAnyH_take (i:=1) (v:=?_) rfl zK zK zK (fun c a w h=>HPn.out c _ _ a w h) (Or.inl ⟨by rfl,?_⟩) (by assumption) ?_
   rotate_left
   ·(intro v hv; go_simp; try (with_reducible rfl))
   try simp [Act.put]
   refine wpAnyH_take (i:=2) (v:=?_) rfl zK zK zK (fun c a w h=>HPn.out c _ _ a w h) (Or.inl ⟨by rfl,?_⟩) (by assumption) ?_
   rotate_left
   ·(intro v hv; have t6:=(hv.cell (World.block_lt_of_cell? wr _ q6)).trans q6; go_simp; try (with_reducible rfl))
   try simp [Act.put]
   refine wpAnyH_take (i:=3) (v:=?_) rfl zK zK zK (fun c a w h=>HPn.out c _ _ a w h) (Or.inl ⟨by rfl,?_⟩) (by assumption) ?_
   rotate_left
   ·(intro v hv; go_simp; try (with_reducible rfl))
   try simp [Act.put]
   refine wpAnyH_take (i:=4) (v:=?_) rfl zK zK zK (fun c a w h=>HPn.out c _ _ a w h) (Or.inl ⟨by rfl,?_⟩) (by assumption) ?_
   rotate_left
   ·(intro v hv; go_simp; try (with_reducible rfl))
   try simp [Act.put]
   refine wpAnyH_take (i:=5) (v:=?_) rfl zK zK zK (fun c a w h=>HPn.out c _ _ a w h) (Or.inl ⟨by rfl,?_⟩) (by assumption) ?_
   rotate_left
   ·(intro v hv; have y0':=(hv.cell (World.block_lt_of_cell? wr _ y0)).trans y0; have y1':=(hv.cell (World.block_lt_of_cell? wr _ y1)).trans y1; have y2':=(hv.cell (World.block_lt_of_cell? wr _ y2)).trans y2; have y3':=(hv.cell (World.block_lt_of_cell? wr _ y3)).trans y3; have y4':=(hv.cell (World.block_lt_of_cell? wr _ y4)).trans y4; have y5':=(hv.cell (World.block_lt_of_cell? wr _ y5)).trans y5; have y6':=(hv.cell (World.block_lt_of_cell? wr _ y6)).trans y6; have y7':=(hv.cell (World.block_lt_of_cell? wr _ y7)).trans y7; go_simp; try (with_reducible rfl))
   try simp [Act.put]
   clear hHeld
   refine wpAnyH_ready (rs:=[6,10]) zK (by simp) ?_
   refine AllReadyH.cons rfl (fun K hK=>?_) (AllReadyH.cons rfl (fun K hK=>?_) AllReadyH.nil)
   ·go_simp
    refine (cT wr.drew (⟨rfl,rfl,rfl,Nat.le_refl _,fun _ _=>rfl⟩)).mono ?_
    rintro e w1 ⟨t1,E1,P1,B1,rfl,hr1,hb1⟩
    have HR1:Hid (FlR (tyR (regL S.rs) k) t1 E1 P1 B1):=hr1
    have HB1:Hid (Below wr§ wr w1):=below2 (⟨rfl,rfl,rfl,Nat.le_refl _,fun _ _=>rfl⟩:Below wr§ wr wr.drew) hb1
    clear hr1 hb1 cT
    refine hK.out _ _ HB1.out (fun hHeld=>?_)
    clear hK K
    try simp [Act.put]
    refine wpAnyH_take (i:=7) (v:=?_) rfl zK zK zK (fun c a w h=>HPn.out c _ _ a w h) (Or.inl ⟨by rfl,?_⟩) (by assumption) ?_
    rotate_left
    ·(intro v hv; go_simp; try (with_reducible rfl))
    try simp [Act.put]
    refine wpAnyH_take (i:=8) (v:=?_) rfl zK zK zK (fun c a w h=>HPn.out c _ _ a w h) (Or.inl ⟨by rfl,?_⟩) (by assumption) ?_
    rotate_left
    ·(intro v hv; go_simp; try (with_reducible rfl))
    try simp [Act.put]
    refine wpAnyH_take (i:=9) (v:=?_) rfl zK zK zK (fun c a w h=>HPn.out c _ _ a w h) (Or.inl ⟨by rfl,?_⟩) (by assumption) ?_
    rotate_left
    ·(intro v hv; go_simp; try (with_reducible rfl))
    try simp [Act.put]
    clear hHeld
    refine wpAnyH_ready (rs:=[10]) zK (by simp) ?_
    refine AllReadyH.cons rfl (fun K hK=>?_) AllReadyH.nil
    go_simp
    have hbz:=below_new w1 (.cells #[zI 0,zI 0,.bool false] 39)
    have hz:=heap_new w1 (.cells #[zI 0,zI 0,.bool false] 39)
    obtain⟨W1,eW1⟩:∃ W,w1.alloc (.cells #[zI 0,zI 0,.bool false] 39)=W:=⟨_,rfl⟩
    rw [eW1] at hbz hz ⊢
    have HBz:Hid (Below wr§ wr W1):=below2 HB1.out hbz
    have HGB:Hid (wr§≤w1§):=HB1.out.size
    clear eW1 hbz
    refine hK.out _ _ HBz.out (fun hHeld=>?_)
    clear hK K
    obtain⟨g,eg⟩:∃ g,w1§=g:=⟨_,rfl⟩
    rw [eg] at hz HGB ⊢
    clear eg
    try simp [Act.put]
    refine wpAnyH_take (i:=11) (v:=?_) rfl zK zK zK (fun c a w h=>HPn.out c _ _ a w h) (Or.inl ⟨by rfl,?_⟩) (by assumption) ?_
    rotate_left
    ·(intro v hv; go_simp; try (with_reducible rfl))
    try simp [Act.put]
    have z0:W1.cell? ⟨g,0,none⟩=some (zI 0):=cell_of hz 0
    have f0:W1.frozen? ⟨g,0,none⟩=false:=frozen_of hz 0
    have z1:W1.cell? ⟨g,1,none⟩=some (zI 0):=cell_of hz 1
    have f1:W1.frozen? ⟨g,1,none⟩=false:=frozen_of hz 1
    have z2:W1.cell? ⟨g,2,none⟩=some (.bool false):=cell_of hz 2
    have f2:W1.frozen? ⟨g,2,none⟩=false:=frozen_of hz 2
    have HZ1:Hid (W1.heap[g]? = some (.cells #[zI 0,zI 0,.bool false] 39 (0,0))):=hz
    clear hz hHeld
    refine wpAnyH_ready (rs:=[12]) zK (by simp) ?_
    refine AllReadyH.cons rfl (fun K hK=>?_) AllReadyH.nil
    go_simp
    refine hK.out _ _ (below3u HBz.out HGB.out _ _ _) (fun hHeld=>?_)
    clear hK K hHeld
    try simp [Act.put]
    refine wpAnyH_done zK ?_ _
    rw [HQ'.out]
    have HU:Hid ((((W1.setCell ⟨g,0,none⟩ (zI E1)).setCell ⟨g,1,none⟩ (zI P1)).setCell ⟨g,2,none⟩ (.bool B1)).heap[g]? = some (.cells #[zI E1,zI P1,.bool B1] 39 (0,0))∧Below wr§ wr (((W1.setCell ⟨g,0,none⟩ (zI E1)).setCell ⟨g,1,none⟩ (zI P1)).setCell ⟨g,2,none⟩ (.bool B1))):=⟨put3u HZ1.out _ _ _,below3u HBz.out HGB.out _ _ _⟩
    clear HQ' HPn Q' z0 z1 z2 f0 f1 f2 HZ1 HBz
    generalize World.setCell (World.setCell (World.setCell W1 _ _) _ _) _ _=u at HU ⊢
    clear y0 y1 y2 y3 y4 y5 y6 y7 q6
    have c0:u.cell? ⟨g,0,none⟩=some (zI E1):=cell_of HU.out.1 0
    rcases HR1.out with ⟨e1,rfl,rfl,rfl⟩ | ⟨e1,rfl,rfl,hE⟩
    ·have HT2:Hid (RA V u 44 1 u6 (ts.map tyC)):=HT.out.1.call HU.out.2
     have HLn:Hid ((ts.map tyC).length≤1000000000):=by have h1:=HN.out; have h2:=HT.out.2.1; show _≤_; rw [List.length_map]; omega
     have HJ2:Hid (tysR (regL S.rs) ks=joinT (ts ++ [t1]) (tysR (regL S.rs) (ks.drop (i+1)))):=by
      show _=_
      rw [HT.out.2.2,join_cons hlt,HEK.out,e1]
     have hmx:(i:Int)+1≤9223372036854775807:=by have:=HN.out; omega
     have HLi:Hid (ts.length=i):=HT.out.2.1
     clear e1 HR1 HT
     go_wp2_with (at_builtin; refine append_arr rfl (.tmp 33) (.tmp 35) 141 44 1 1 _ rfl Tryz.underlying141 info44 rfl (by decide) (by decide) (by decide) (tyC t1) rfl (by intro u hu; simp [tyC] at hu; subst hu; rfl) HT2.out rfl rfl HLn.out ?_; intro v1 w2 hr2 hs2 hq2 hz2; have HX:Hid (RA V w2 44 1 v1 ((ts ++ [t1]).map tyC)):=(by show RA _ _ _ _ _ _; rw [List.map_append]; exact hr2); clear hr2 hs2 hq2 hz2)
     exact⟨⟨i+1,ts ++ [t1],hlt,rfl,HX.out,by rw [List.length_append,HLi.out]; rfl,HJ2.out⟩,by simp only [intOf]; omega⟩
    ·have HEr:Hid (tyR (regL S.rs) (.mk h a c ks)=.error (P1,E1)):=by
      show _=_
      rw [tyR,HT.out.2.2,join_cons hlt,HEK.out,e1]
     have hne:(E1 != 0)=true:=by rcases hE with rfl | rfl <;> rfl
     have HE:Hid (E1=151∨E1=152):=hE
     clear hE e1 HR1
     go_upto_region 7 with fail
     clear hne c0
     have hz:u.heap[w§+2]? = some (.cells #[zI 0,zI 0,.bool false] 39 (0,0)):=((below2 HT.out.1.B HU.out.2).block _ (Array.getElem?_eq_some_iff.1 HZr.out).1).trans HZr.out
     have z0:u.cell? ⟨w§+2,0,none⟩=some (zI 0):=cell_of hz 0
     have f0:u.frozen? ⟨w§+2,0,none⟩=false:=frozen_of hz 0
     have z1:u.cell? ⟨w§+2,1,none⟩=some (zI 0):=cell_of hz 1
     have f1:u.frozen? ⟨w§+2,1,none⟩=false:=frozen_of hz 1
     have z2:u.cell? ⟨w§+2,2,none⟩=some (.bool false):=cell_of hz 2
     have f2:u.frozen? ⟨w§+2,2,none⟩=false:=frozen_of hz 2
     have HGne:Hid (w§+2≠g):=by have h1:=(Array.getElem?_eq_some_iff.1 HZr.out).1; have h2:=HT.out.1.B.size; have h3:=HGB.out; show _≠_; omega
     have HZ1:Hid (u.heap[w§+2]? = some (.cells #[zI 0,zI 0,.bool false] 39 (0,0))):=hz
     clear hz
     refine (?_:∀ Q',Hid (Q'=_)→Code.wp _ _ Q' _ _) _ rfl
     intro Q' HQ'
     have HPn:Hid (∀ p (d:Nat) v a w,Q' (.panic p) (Act.put a (some d) v) w→Q' (.panic p) a w):=by rw [HQ'.out]; exact fun _ _ _ _ _ h=>h
     have hz0:u.drew.cell? ⟨w§+2,0,none⟩=some (zI 0):=z0
     have hz1:u.drew.cell? ⟨w§+2,1,none⟩=some (zI 0):=z1
     have hz2:u.drew.cell? ⟨w§+2,2,none⟩=some (.bool false):=z2
     have hf0:u.drew.frozen? ⟨w§+2,0,none⟩=false:=f0
     have hf1:u.drew.frozen? ⟨w§+2,1,none⟩=false:=f1
     have hf2:u.drew.frozen? ⟨w§+2,2,none⟩=false:=f2
     refine wp_region_held_drew (S:=fun v=>v.heap[g]? = some (.cells #[zI E1,zI P1,.bool true] 39 (0,0))) zK HU.out.1 (fun hHeld=>?_)
     refine wpAnyH_take (i:=0) (v:=?_) rfl zK zK zK (fun c a w h=>HPn.out c _ _ a w h) (Or.inl ⟨by rfl,?_⟩) (by assumption) ?_
     rotate_left
     ·(intro v hv; have t0:=cell_of hv 0; have t1:=cell_of hv 1; have t2:=cell_of hv 2; go_simp; try (with_reducible rfl))
     try simp [Act.put]
     refine wpAnyH_take (i:=1) (v:=?_) rfl zK zK zK (fun c a w h=>HPn.out c _ _ a w h) (Or.inl ⟨by rfl,?_⟩) (by assumption) ?_
     rotate_left
     ·(intro v hv; go_simp; try (with_reducible rfl))
     try simp [Act.put]
     clear hHeld
     refine wpAnyH_ready (rs:=[2]) zK (by simp) ?_
     refine AllReadyH.cons rfl (fun K hK=>?_) AllReadyH.nil
     go_simp
     refine hK.out _ _ ((oth3u _ (Ne.symm HGne.out) _ _ _).trans HU.out.1) (fun hHeld=>?_)
     clear hK K hHeld
     try simp [Act.put]
     refine wpAnyH_done zK ?_ _
     rw [HQ'.out]
     clear HQ' HPn Q' z0 z1 z2 f0 f1 f2 hz0 hz1 hz2 hf0 hf1 hf2
     have HW:Hid ((((u.setCell ⟨w§+2,0,none⟩ (zI E1)).setCell ⟨w§+2,1,none⟩ (zI P1)).setCell ⟨w§+2,2,none⟩ (.bool true)).drew.heap[w§+2]? = some (.cells #[zI E1,zI P1,.bool true] 39 (0,0))∧Below w§ w (((u.setCell ⟨w§+2,0,none⟩ (zI E1)).setCell ⟨w§+2,1,none⟩ (zI P1)).setCell ⟨w§+2,2,none⟩ (.bool true)).drew):=⟨put3u HZ1.out _ _ _,(below3u (below2 HB.out (below2 HT.out.1.B HU.out.2)) (by omega) _ _ _).drew⟩
     generalize World.drew _=u2 at HW ⊢
     go_wp2_with fail
     refine bodyPost_ret (results_tc rfl _ _ (w§+2) 39 #[zI E1,zI P1,.bool true] (0,0) _ rfl HW.out.1 Tryz.underlying39 rfl size39) rfl ⟨0,E1,P1,true,rfl,.inr ⟨HEr.out,rfl,rfl,HE.out⟩,HW.out.2⟩
   ·go_simp
    have hby:Below wr§ wr (wr.alloc (.cells #[zI 0,zI 0,.bool false] 39)).drew:=(below_new wr (.cells #[zI 0,zI 0,.bool false] 39)).drew
    have hz:(wr.alloc (.cells #[zI 0,zI 0,.bool false] 39)).drew.heap[wr§]? = some (.cells #[zI 0,zI 0,.bool false] 39 (0,0)):=heap_new wr (.cells #[zI 0,zI 0,.bool false] 39)
    refine hK.out _ _ hby (fun hHeld=>?_)
    clear hK K hHeld
    try simp [Act.put]
    obtain⟨W0,eW0⟩:∃ W,(wr.alloc (.cells #[zI 0,zI 0,.bool false] 39)).drew=W:=⟨_,rfl⟩
    rw [eW0] at hz hby ⊢
    have HBy:Hid (Below wr§ wr W0):=hby
    have HGB:Hid (wr§≤wr§):=Nat.le_refl _
    have HZ0:Hid (W0.heap[wr§]? = some (.cells #[zI 0,zI 0,.bool false] 39 (0,0))):=hz
    clear hz hby eW0
    refine wpAnyH_ready (rs:=[6]) zK (by simp) ?_
    refine AllReadyH.cons rfl (fun K hK=>?_) AllReadyH.nil
    go_simp
    refine (cT _ HBy.out).mono ?_
    rintro e W1 ⟨t1,E1,P1,B1,rfl,hr1,hb1⟩
    have HR1:Hid (FlR (tyR (regL S.rs) k) t1 E1 P1 B1):=hr1
    have HBz:Hid (Below wr§ wr W1):=below2 HBy.out hb1
    have hz:W1.heap[wr§]? = some (.cells #[zI 0,zI 0,.bool false] 39 (0,0)):=(hb1.block _ (Array.getElem?_eq_some_iff.1 HZ0.out).1).trans HZ0.out
    clear hr1 hb1 cT HZ0 HBy
    refine hK.out _ _ HBz.out (fun hHeld=>?_)
    clear hK K
    try simp [Act.put]
    refine wpAnyH_take (i:=7) (v:=?_) rfl zK zK zK (fun c a w h=>HPn.out c _ _ a w h) (Or.inl ⟨by rfl,?_⟩) (by assumption) ?_
    rotate_left
    ·(intro v hv; go_simp; try (with_reducible rfl))
    try simp [Act.put]
    refine wpAnyH_take (i:=8) (v:=?_) rfl zK zK zK (fun c a w h=>HPn.out c _ _ a w h) (Or.inl ⟨by rfl,?_⟩) (by assumption) ?_
    rotate_left
    ·(intro v hv; go_simp; try (with_reducible rfl))
    try simp [Act.put]
    refine wpAnyH_take (i:=9) (v:=?_) rfl zK zK zK (fun c a w h=>HPn.out c _ _ a w h) (Or.inl ⟨by rfl,?_⟩) (by assumption) ?_
    rotate_left
    ·(intro v hv; go_simp; try (with_reducible rfl))
    try simp [Act.put]
    refine wpAnyH_take (i:=11) (v:=?_) rfl zK zK zK (fun c a w h=>HPn.out c _ _ a w h) (Or.inl ⟨by rfl,?_⟩) (by assumption) ?_
    rotate_left
    ·(intro v hv; go_simp; try (with_reducible rfl))
    try simp [Act.put]
    have z0:W1.cell? ⟨wr§,0,none⟩=some (zI 0):=cell_of hz 0
    have f0:W1.frozen? ⟨wr§,0,none⟩=false:=frozen_of hz 0
    have z1:W1.cell? ⟨wr§,1,none⟩=some (zI 0):=cell_of hz 1
    have f1:W1.frozen? ⟨wr§,1,none⟩=false:=frozen_of hz 1
    have z2:W1.cell? ⟨wr§,2,none⟩=some (.bool false):=cell_of hz 2
    have f2:W1.frozen? ⟨wr§,2,none⟩=false:=frozen_of hz 2
    have HZ1:Hid (W1.heap[wr§]? = some (.cells #[zI 0,zI 0,.bool false] 39 (0,0))):=hz
    clear hz hHeld
    refine wpAnyH_ready (rs:=[12]) zK (by simp) ?_
    refine AllReadyH.cons rfl (fun K hK=>?_) AllReadyH.nil
    go_simp
    refine hK.out _ _ (below3u HBz.out HGB.out _ _ _) (fun hHeld=>?_)
    clear hK K hHeld
    try simp [Act.put]
    refine wpAnyH_done zK ?_ _
    rw [HQ'.out]
    have HU:Hid ((((W1.setCell ⟨wr§,0,none⟩ (zI E1)).setCell ⟨wr§,1,none⟩ (zI P1)).setCell ⟨wr§,2,none⟩ (.bool B1)).heap[wr§]? = some (.cells #[zI E1,zI P1,.bool B1] 39 (0,0))∧Below wr§ wr (((W1.setCell ⟨wr§,0,none⟩ (zI E1)).setCell ⟨wr§,1,none⟩ (zI P1)).setCell ⟨wr§,2,none⟩ (.bool B1))):=⟨put3u HZ1.out _ _ _,below3u HBz.out HGB.out _ _ _⟩
    clear HQ' HPn Q' z0 z1 z2 f0 f1 f2 HZ1 HBz
    generalize World.setCell (World.setCell (World.setCell W1 _ _) _ _) _ _=u at HU ⊢
    clear y0 y1 y2 y3 y4 y5 y6 y7 q6
    have c0:u.cell? ⟨wr§,0,none⟩=some (zI E1):=cell_of HU.out.1 0
    rcases HR1.out with ⟨e1,rfl,rfl,rfl⟩ | ⟨e1,rfl,rfl,hE⟩
    ·have HT2:Hid (RA V u 44 1 u6 (ts.map tyC)):=HT.out.1.call HU.out.2
     have HLn:Hid ((ts.map tyC).length≤1000000000):=by have h1:=HN.out; have h2:=HT.out.2.1; show _≤_; rw [List.length_map]; omega
     have HJ2:Hid (tysR (regL S.rs) ks=joinT (ts ++ [t1]) (tysR (regL S.rs) (ks.drop (i+1)))):=by
      show _=_
      rw [HT.out.2.2,join_cons hlt,HEK.out,e1]
     have hmx:(i:Int)+1≤9223372036854775807:=by have:=HN.out; omega
     have HLi:Hid (ts.length=i):=HT.out.2.1
     clear e1 HR1 HT
     go_wp2_with (at_builtin; refine append_arr rfl (.tmp 33) (.tmp 35) 141 44 1 1 _ rfl Tryz.underlying141 info44 rfl (by decide) (by decide) (by decide) (tyC t1) rfl (by intro u hu; simp [tyC] at hu; subst hu; rfl) HT2.out rfl rfl HLn.out ?_; intro v1 w2 hr2 hs2 hq2 hz2; have HX:Hid (RA V w2 44 1 v1 ((ts ++ [t1]).map tyC)):=(by show RA _ _ _ _ _ _; rw [List.map_append]; exact hr2); clear hr2 hs2 hq2 hz2)
     exact⟨⟨i+1,ts ++ [t1],hlt,rfl,HX.out,by rw [List.length_append,HLi.out]; rfl,HJ2.out⟩,by simp only [intOf]; omega⟩
    ·have HEr:Hid (tyR (regL S.rs) (.mk h a c ks)=.error (P1,E1)):=by
      show _=_
      rw [tyR,HT.out.2.2,join_cons hlt,HEK.out,e1]
     have hne:(E1 != 0)=true:=by rcases hE with rfl | rfl <;> rfl
     have HE:Hid (E1=151∨E1=152):=hE
     clear hE e1 HR1
     go_upto_region 7 with fail
     clear hne c0
     have hz:u.heap[w§+2]? = some (.cells #[zI 0,zI 0,.bool false] 39 (0,0)):=((below2 HT.out.1.B HU.out.2).block _ (Array.getElem?_eq_some_iff.1 HZr.out).1).trans HZr.out
     have z0:u.cell? ⟨w§+2,0,none⟩=some (zI 0):=cell_of hz 0
     have f0:u.frozen? ⟨w§+2,0,none⟩=false:=frozen_of hz 0
     have z1:u.cell? ⟨w§+2,1,none⟩=some (zI 0):=cell_of hz 1
     have f1:u.frozen? ⟨w§+2,1,none⟩=false:=frozen_of hz 1
     have z2:u.cell? ⟨w§+2,2,none⟩=some (.bool false):=cell_of hz 2
     have f2:u.frozen? ⟨w§+2,2,none⟩=false:=frozen_of hz 2
     have HGne:Hid (w§+2≠wr§):=by have h1:=(Array.getElem?_eq_some_iff.1 HZr.out).1; have h2:=HT.out.1.B.size; have h3:=HGB.out; show _≠_; omega
     have HZ1:Hid (u.heap[w§+2]? = some (.cells #[zI 0,zI 0,.bool false] 39 (0,0))):=hz
     clear hz
     refine (?_:∀ Q',Hid (Q'=_)→Code.wp _ _ Q' _ _) _ rfl
     intro Q' HQ'
     have HPn:Hid (∀ p (d:Nat) v a w,Q' (.panic p) (Act.put a (some d) v) w→Q' (.panic p) a w):=by rw [HQ'.out]; exact fun _ _ _ _ _ h=>h
     have hz0:u.drew.cell? ⟨w§+2,0,none⟩=some (zI 0):=z0
     have hz1:u.drew.cell? ⟨w§+2,1,none⟩=some (zI 0):=z1
     have hz2:u.drew.cell? ⟨w§+2,2,none⟩=some (.bool false):=z2
     have hf0:u.drew.frozen? ⟨w§+2,0,none⟩=false:=f0
     have hf1:u.drew.frozen? ⟨w§+2,1,none⟩=false:=f1
     have hf2:u.drew.frozen? ⟨w§+2,2,none⟩=false:=f2
     refine wp_region_held_drew (S:=fun v=>v.heap[wr§]? = some (.cells #[zI E1,zI P1,.bool true] 39 (0,0))) zK HU.out.1 (fun hHeld=>?_)
     refine wpAnyH_take (i:=0) (v:=?_) rfl zK zK zK (fun c a w h=>HPn.out c _ _ a w h) (Or.inl ⟨by rfl,?_⟩) (by assumption) ?_
     rotate_left
     ·(intro v hv; have t0:=cell_of hv 0; have t1:=cell_of hv 1; have t2:=cell_of hv 2; go_simp; try (with_reducible rfl))
     try simp [Act.put]
     refine wpAnyH_take (i:=1) (v:=?_) rfl zK zK zK (fun c a w h=>HPn.out c _ _ a w h) (Or.inl ⟨by rfl,?_⟩) (by assumption) ?_
     rotate_left
     ·(intro v hv; go_simp; try (with_reducible rfl))
     try simp [Act.put]
     clear hHeld
     refine wpAnyH_ready (rs:=[2]) zK (by simp) ?_
     refine AllReadyH.cons rfl (fun K hK=>?_) AllReadyH.nil
     go_simp
     refine hK.out _ _ ((oth3u _ (Ne.symm HGne.out) _ _ _).trans HU.out.1) (fun hHeld=>?_)
     clear hK K hHeld
     try simp [Act.put]
     refine wpAnyH_done zK ?_ _
     rw [HQ'.out]
     clear HQ' HPn Q' z0 z1 z2 f0 f1 f2 hz0 hz1 hz2 hf0 hf1 hf2
     have HW:Hid ((((u.setCell ⟨w§+2,0,none⟩ (zI E1)).setCell ⟨w§+2,1,none⟩ (zI P1)).setCell ⟨w§+2,2,none⟩ (.bool true)).drew.heap[w§+2]? = some (.cells #[zI E1,zI P1,.bool true] 39 (0,0))∧Below w§ w (((u.setCell ⟨w§+2,0,none⟩ (zI E1)).setCell ⟨w§+2,1,none⟩ (zI P1)).setCell ⟨w§+2,2,none⟩ (.bool true)).drew):=⟨put3u HZ1.out _ _ _,(below3u (below2 HB.out (below2 HT.out.1.B HU.out.2)) (by omega) _ _ _).drew⟩
     generalize World.drew _=u2 at HW ⊢
     go_wp2_with fail
     refine bodyPost_ret (results_tc rfl _ _ (w§+2) 39 #[zI E1,zI P1,.bool true] (0,0) _ rfl HW.out.1 Tryz.underlying39 rfl size39) rfl ⟨0,E1,P1,true,rfl,.inr ⟨HEr.out,rfl,rfl,HE.out⟩,HW.out.2⟩
  ·obtain rfl:i=ks.length:=by omega
   have hnot:¬ (ks.length:Int) < (ks.length:Int):=by omega
   have HTS:Hid (tysR (regL S.rs) ks=.ok ts):=by show _=_; rw [HT.out.2.2,List.drop_length]; simp [tysR,joinT]
   have HRV:Hid (TsR wr u6 ts):=tsr_of HT.out.1
   have HBw:Hid (Below w§ w wr):=below2 HB.out HT.out.1.B
   have HZb:Hid (wr.heap[w§+2]? = some (.cells #[zI 0,zI 0,.bool false] 39 (0,0))):=(HT.out.1.B.block _ (Array.getElem?_eq_some_iff.1 HZr.out).1).trans HZr.out
   have HBr:Hid (Below wr§ wr wr):=Below.refl _ _
   clear hi hlt
   by_cases hk:h.k=2
   ·have hk1:(h.k == 2)=true:=by simpa using hk
    have HK2:Hid (h.k=2):=hk
    clear hk
    have HSy:Hid (wr.heap[w§]? = some (.cells #[.string S.x,.slice S.ra S.rs.length S.rc,.slice S.sa S.ss.length S.sc,.slice S.ta S.ts.length S.tc] 27 (0,0))):=(HBr.out.block _ (Array.getElem?_eq_some_iff.1 HSb.out).1).trans HSb.out
    have HMy:Hid (wr.heap[w§+1]? = some (.cells #[zU h.k,zU h.o,zU h.t,zI h.n,zU h.f,.string h.x,.slice a ks.length c,zI h.p] 48 (0,0))):=(HBr.out.block _ (Array.getElem?_eq_some_iff.1 HMb.out).1).trans HMb.out
    have HZy:Hid (wr.heap[w§+2]? = some (.cells #[zI 0,zI 0,.bool false] 39 (0,0))):=(HBr.out.block _ (Array.getElem?_eq_some_iff.1 HZb.out).1).trans HZb.out
    have HBy:Hid (Below w§ w wr):=below2 HBw.out HBr.out
    have s0:wr.cell? ⟨w§,0,none⟩=some (.string S.x):=cell_of HSb.out 0
    have s1:wr.cell? ⟨w§,1,none⟩=some (.slice S.ra S.rs.length S.rc):=cell_of HSb.out 1
    have s2:wr.cell? ⟨w§,2,none⟩=some (.slice S.sa S.ss.length S.sc):=cell_of HSb.out 2
    have s3:wr.cell? ⟨w§,3,none⟩=some (.slice S.ta S.ts.length S.tc):=cell_of HSb.out 3
    have p0:wr.cell? ⟨w§+1,0,none⟩=some (zU h.k):=cell_of HMb.out 0
    have p1:wr.cell? ⟨w§+1,1,none⟩=some (zU h.o):=cell_of HMb.out 1
    have p2:wr.cell? ⟨w§+1,2,none⟩=some (zU h.t):=cell_of HMb.out 2
    have p3:wr.cell? ⟨w§+1,3,none⟩=some (zI h.n):=cell_of HMb.out 3
    have p4:wr.cell? ⟨w§+1,4,none⟩=some (zU h.f):=cell_of HMb.out 4
    have p5:wr.cell? ⟨w§+1,5,none⟩=some (.string h.x):=cell_of HMb.out 5
    have p6:wr.cell? ⟨w§+1,6,none⟩=some (.slice a ks.length c):=cell_of HMb.out 6
    have p7:wr.cell? ⟨w§+1,7,none⟩=some (zI h.p):=cell_of HMb.out 7
    rcases regI_spec S.rs 0 h.x with ⟨e1,e2⟩ | ⟨j,hj,e1,e2⟩
    ·have c9:Calls zG 74 #[.agg #[.string S.x,.slice S.ra S.rs.length S.rc,.slice S.sa S.ss.length S.sc,.slice S.ta S.ts.length S.tc],.string h.x] wr _:=rreg_any S h.x wr (HL.out.2.on HT.out.1.B)
     rw [e1] at c9
     have HER:Hid (tyR (regL S.rs) (.mk h a c ks)=.error (h.p,151)):=(tyR_ok HTS.out).trans (tyH_none hk1 e2)
     clear e1 e2
     go_wp2_with fail
     refine c9.mono ?_
     rintro e w1 ⟨rfl,hb1⟩
     have HB1:Hid (Below wr§ wr w1):=hb1
     clear c9 hb1 q6 hnot
     clear s0 s1 s2 s3 p0 p1 p2 p3 p4 p5 p6 p7
     have HSx:Hid (w1.heap[w§]? = some (.cells #[.string S.x,.slice S.ra S.rs.length S.rc,.slice S.sa S.ss.length S.sc,.slice S.ta S.ts.length S.tc] 27 (0,0))):=(HB1.out.block _ (Array.getElem?_eq_some_iff.1 HSb.out).1).trans HSb.out
     have HMx:Hid (w1.heap[w§+1]? = some (.cells #[zU h.k,zU h.o,zU h.t,zI h.n,zU h.f,.string h.x,.slice a ks.length c,zI h.p] 48 (0,0))):=(HB1.out.block _ (Array.getElem?_eq_some_iff.1 HMb.out).1).trans HMb.out
     have HZx:Hid (w1.heap[w§+2]? = some (.cells #[zI 0,zI 0,.bool false] 39 (0,0))):=(HB1.out.block _ (Array.getElem?_eq_some_iff.1 HZb.out).1).trans HZb.out
     have HBx:Hid (Below w§ w w1):=below2 HBw.out HB1.out
     go_upto_region 10 with fail
     have hz:=HZx.out
     have z0:w1.cell? ⟨w§+2,0,none⟩=some (zI 0):=cell_of hz 0
     have f0:w1.frozen? ⟨w§+2,0,none⟩=false:=frozen_of hz 0
     have z1:w1.cell? ⟨w§+2,1,none⟩=some (zI 0):=cell_of hz 1
     have f1:w1.frozen? ⟨w§+2,1,none⟩=false:=frozen_of hz 1
     have z2:w1.cell? ⟨w§+2,2,none⟩=some (.bool false):=cell_of hz 2
     have f2:w1.frozen? ⟨w§+2,2,none⟩=false:=frozen_of hz 2
     have t7:w1.cell? ⟨w§+1,7,none⟩=some (zI h.p):=cell_of HMx.out 7
     clear hz
     refine (?_:∀ Q',Hid (Q'=_)→Code.wp _ _ Q' _ _) _ rfl
     intro Q' HQ'
     have HPn:Hid (∀ p (d:Nat) v a w,Q' (.panic p) (Act.put a (some d) v) w→Q' (.panic p) a w):=by rw [HQ'.out]; exact fun _ _ _ _ _ h=>h
     have hz0:w1.drew.cell? ⟨w§+2,0,none⟩=some (zI 0):=z0
     have hz1:w1.drew.cell? ⟨w§+2,1,none⟩=some (zI 0):=z1
     have hz2:w1.drew.cell? ⟨w§+2,2,none⟩=some (.bool false):=z2
     have hf0:w1.drew.frozen? ⟨w§+2,0,none⟩=false:=f0
     have hf1:w1.drew.frozen? ⟨w§+2,1,none⟩=false:=f1
     have hf2:w1.drew.frozen? ⟨w§+2,2,none⟩=false:=f2
     refine wp_region_held_drew (S:=fun v=>v.heap[w§+1]? = some (.cells #[zU h.k,zU h.o,zU h.t,zI h.n,zU h.f,.string h.x,.slice a ks.length c,zI h.p] 48 (0,0))) zK HMx.out (fun hHeld=>?_)
     refine wpAnyH_take (i:=0) (v:=?_) rfl zK zK zK (fun c a w h=>HPn.out c _ _ a w h) (Or.inl ⟨by rfl,?_⟩) (by assumption) ?_
     rotate_left
     ·(intro v hv; go_simp; try (with_reducible rfl))
     try simp [Act.put]
     refine wpAnyH_take (i:=1) (v:=?_) rfl zK zK zK (fun c a w h=>HPn.out c _ _ a w h) (Or.inl ⟨by rfl,?_⟩) (by assumption) ?_
     rotate_left
     ·(intro v hv; have t7:=cell_of hv 7; go_simp; try (with_reducible rfl))
     try simp [Act.put]
     refine wpAnyH_take (i:=2) (v:=?_) rfl zK zK zK (fun c a w h=>HPn.out c _ _ a w h) (Or.inl ⟨by rfl,?_⟩) (by assumption) ?_
     rotate_left
     ·(intro v hv; go_simp; try (with_reducible rfl))
     try simp [Act.put]
     refine wpAnyH_take (i:=3) (v:=?_) rfl zK zK zK (fun c a w h=>HPn.out c _ _ a w h) (Or.inl ⟨by rfl,?_⟩) (by assumption) ?_
     rotate_left
     ·(intro v hv; go_simp; try (with_reducible rfl))
     try simp [Act.put]
     clear hHeld
     refine wpAnyH_ready (rs:=[4]) zK (by simp) ?_
     refine AllReadyH.cons rfl (fun K hK=>?_) AllReadyH.nil
     go_simp
     refine hK.out _ _ ((oth3u _ (by omega) _ _ _).trans HMx.out) (fun hHeld=>?_)
     clear hK K hHeld
     try simp [Act.put]
     refine wpAnyH_done zK ?_ _
     rw [HQ'.out]
     clear HQ' HPn Q' z0 z1 z2 f0 f1 f2 hz0 hz1 hz2 hf0 hf1 hf2
     have HW:Hid ((((w1.setCell ⟨w§+2,0,none⟩ (zI 151)).setCell ⟨w§+2,1,none⟩ (zI h.p)).setCell ⟨w§+2,2,none⟩ (.bool true)).drew.heap[w§+2]? = some (.cells #[zI 151,zI h.p,.bool true] 39 (0,0))∧Below w§ w (((w1.setCell ⟨w§+2,0,none⟩ (zI 151)).setCell ⟨w§+2,1,none⟩ (zI h.p)).setCell ⟨w§+2,2,none⟩ (.bool true)).drew):=⟨put3u HZx.out _ _ _,(below3u HBx.out (by omega) _ _ _).drew⟩
     generalize World.drew _=u2 at HW ⊢
     go_wp2_with fail
     refine bodyPost_ret (results_tc rfl _ _ (w§+2) 39 #[zI 151,zI h.p,.bool true] (0,0) _ rfl HW.out.1 Tryz.underlying39 rfl size39) rfl ⟨0,151,h.p,true,rfl,.inr ⟨HER.out,rfl,rfl,.inl rfl⟩,HW.out.2⟩
    ·have c9:Calls zG 74 #[.agg #[.string S.x,.slice S.ra S.rs.length S.rc,.slice S.sa S.ss.length S.sc,.slice S.ta S.ts.length S.tc],.string h.x] wr _:=rreg_any S h.x wr (HL.out.2.on HT.out.1.B)
     rw [e1,Nat.zero_add] at c9
     have hjn:decide ((j:Int) < 0)=false:=decide_eq_false (by omega)
     have hjn':¬ (j:Int) < 0:=by omega
     have HE2:Hid (regL S.rs h.x=some S.rs[j].t):=e2
     clear e1 e2
     go_wp2_with fail
     refine c9.mono ?_
     rintro e w1 ⟨rfl,hb1⟩
     have HB1:Hid (Below wr§ wr w1):=hb1
     clear c9 hb1 q6 hnot
     clear s0 s1 s2 s3 p0 p1 p2 p3 p4 p5 p6 p7
     have HSx:Hid (w1.heap[w§]? = some (.cells #[.string S.x,.slice S.ra S.rs.length S.rc,.slice S.sa S.ss.length S.sc,.slice S.ta S.ts.length S.tc] 27 (0,0))):=(HB1.out.block _ (Array.getElem?_eq_some_iff.1 HSb.out).1).trans HSb.out
     have HMx:Hid (w1.heap[w§+1]? = some (.cells #[zU h.k,zU h.o,zU h.t,zI h.n,zU h.f,.string h.x,.slice a ks.length c,zI h.p] 48 (0,0))):=(HB1.out.block _ (Array.getElem?_eq_some_iff.1 HMb.out).1).trans HMb.out
     have HZx:Hid (w1.heap[w§+2]? = some (.cells #[zI 0,zI 0,.bool false] 39 (0,0))):=(HB1.out.block _ (Array.getElem?_eq_some_iff.1 HZb.out).1).trans HZb.out
     have HBx:Hid (Below w§ w w1):=below2 HBw.out HB1.out
     have s0:w1.cell? ⟨w§,0,none⟩=some (.string S.x):=cell_of HSx.out 0
     have s1:w1.cell? ⟨w§,1,none⟩=some (.slice S.ra S.rs.length S.rc):=cell_of HSx.out 1
     have s2:w1.cell? ⟨w§,2,none⟩=some (.slice S.sa S.ss.length S.sc):=cell_of HSx.out 2
     have s3:w1.cell? ⟨w§,3,none⟩=some (.slice S.ta S.ts.length S.tc):=cell_of HSx.out 3
     have p0:w1.cell? ⟨w§+1,0,none⟩=some (zU h.k):=cell_of HMx.out 0
     have p1:w1.cell? ⟨w§+1,1,none⟩=some (zU h.o):=cell_of HMx.out 1
     have p2:w1.cell? ⟨w§+1,2,none⟩=some (zU h.t):=cell_of HMx.out 2
     have p3:w1.cell? ⟨w§+1,3,none⟩=some (zI h.n):=cell_of HMx.out 3
     have p4:w1.cell? ⟨w§+1,4,none⟩=some (zU h.f):=cell_of HMx.out 4
     have p5:w1.cell? ⟨w§+1,5,none⟩=some (.string h.x):=cell_of HMx.out 5
     have p6:w1.cell? ⟨w§+1,6,none⟩=some (.slice a ks.length c):=cell_of HMx.out 6
     have p7:w1.cell? ⟨w§+1,7,none⟩=some (zI h.p):=cell_of HMx.out 7
     have cN:Calls zG 85 #[.agg #[.string S.x,.slice S.ra S.rs.length S.rc,.slice S.sa S.ss.length S.sc,.slice S.ta S.ts.length S.tc],.agg #[zU h.k,zU h.o,zU h.t,zI h.n,zU h.f,.string h.x,.slice a ks.length c,zI h.p],u6] w1 _:=rnode_any S h a c ks ts u6 w1 (HL.out.2.on (below2 HT.out.1.B HB1.out)) HF.out HT.out.2.1 (HRV.out.on HB1.out) (fun _=>by rw [HE2.out]; rfl)
     go_wp2_with fail
     refine cN.mono ?_
     rintro e w2 ⟨⟨tt,bb,rfl,hbb⟩,hb2⟩
     rw [if_pos HK2.out] at hbb
     obtain⟨rfl,e3⟩:=hbb
     have HER:Hid (tyR (regL S.rs) (.mk h a c ks)=.ok tt):=(tyR_ok HTS.out).trans (tyH_some hk1 e3)
     have HB2:Hid (Below wr§ wr w2):=below2 HB1.out hb2
     clear cN hb2 e3 HSx HMx HZx HBx
     clear s0 s1 s2 s3 p0 p1 p2 p3 p4 p5 p6 p7
     unfold two
     have HSx:Hid (w2.heap[w§]? = some (.cells #[.string S.x,.slice S.ra S.rs.length S.rc,.slice S.sa S.ss.length S.sc,.slice S.ta S.ts.length S.tc] 27 (0,0))):=(HB2.out.block _ (Array.getElem?_eq_some_iff.1 HSb.out).1).trans HSb.out
     have HMx:Hid (w2.heap[w§+1]? = some (.cells #[zU h.k,zU h.o,zU h.t,zI h.n,zU h.f,.string h.x,.slice a ks.length c,zI h.p] 48 (0,0))):=(HB2.out.block _ (Array.getElem?_eq_some_iff.1 HMb.out).1).trans HMb.out
     have HZx:Hid (w2.heap[w§+2]? = some (.cells #[zI 0,zI 0,.bool false] 39 (0,0))):=(HB2.out.block _ (Array.getElem?_eq_some_iff.1 HZb.out).1).trans HZb.out
     have HBx:Hid (Below w§ w w2):=below2 HBw.out HB2.out
     have hz:=HZx.out
     have z0:w2.cell? ⟨w§+2,0,none⟩=some (zI 0):=cell_of hz 0
     have f0:w2.frozen? ⟨w§+2,0,none⟩=false:=frozen_of hz 0
     have z1:w2.cell? ⟨w§+2,1,none⟩=some (zI 0):=cell_of hz 1
     have f1:w2.frozen? ⟨w§+2,1,none⟩=false:=frozen_of hz 1
     have z2:w2.cell? ⟨w§+2,2,none⟩=some (.bool false):=cell_of hz 2
     have f2:w2.frozen? ⟨w§+2,2,none⟩=false:=frozen_of hz 2
     clear hz
     have HW:Hid (((w2.setCell ⟨w§+2,0,none⟩ (zI 0)).setCell ⟨w§+2,1,none⟩ (zI 0)).setCell ⟨w§+2,2,none⟩ (.bool false) |>.heap[w§+2]? |> (· = some (.cells #[zI 0,zI 0,.bool false] 39 (0,0)))):=put3u HZx.out _ _ _
     have HV:Hid (Below w§ w (((w2.setCell ⟨w§+2,0,none⟩ (zI 0)).setCell ⟨w§+2,1,none⟩ (zI 0)).setCell ⟨w§+2,2,none⟩ (.bool false))):=below3u HBx.out (by omega) _ _ _
     go_wp2_with fail
     refine bodyPost_ret (results_tc rfl _ _ (w§+2) 39 #[zI 0,zI 0,.bool false] (0,0) _ rfl HW.out Tryz.underlying39 rfl size39) rfl ⟨tt,0,0,false,rfl,.inl ⟨HER.out,rfl,rfl,rfl⟩,HV.out⟩
   ·have hk1:(h.k == 2)=false:=by simpa using hk
    have HK2:Hid (¬ h.k=2):=hk
    clear hk
    have HSy:Hid (wr.heap[w§]? = some (.cells #[.string S.x,.slice S.ra S.rs.length S.rc,.slice S.sa S.ss.length S.sc,.slice S.ta S.ts.length S.tc] 27 (0,0))):=(HBr.out.block _ (Array.getElem?_eq_some_iff.1 HSb.out).1).trans HSb.out
    have HMy:Hid (wr.heap[w§+1]? = some (.cells #[zU h.k,zU h.o,zU h.t,zI h.n,zU h.f,.string h.x,.slice a ks.length c,zI h.p] 48 (0,0))):=(HBr.out.block _ (Array.getElem?_eq_some_iff.1 HMb.out).1).trans HMb.out
    have HZy:Hid (wr.heap[w§+2]? = some (.cells #[zI 0,zI 0,.bool false] 39 (0,0))):=(HBr.out.block _ (Array.getElem?_eq_some_iff.1 HZb.out).1).trans HZb.out
    have HBy:Hid (Below w§ w wr):=below2 HBw.out HBr.out
    have s0:wr.cell? ⟨w§,0,none⟩=some (.string S.x):=cell_of HSb.out 0
    have s1:wr.cell? ⟨w§,1,none⟩=some (.slice S.ra S.rs.length S.rc):=cell_of HSb.out 1
    have s2:wr.cell? ⟨w§,2,none⟩=some (.slice S.sa S.ss.length S.sc):=cell_of HSb.out 2
    have s3:wr.cell? ⟨w§,3,none⟩=some (.slice S.ta S.ts.length S.tc):=cell_of HSb.out 3
    have p0:wr.cell? ⟨w§+1,0,none⟩=some (zU h.k):=cell_of HMb.out 0
    have p1:wr.cell? ⟨w§+1,1,none⟩=some (zU h.o):=cell_of HMb.out 1
    have p2:wr.cell? ⟨w§+1,2,none⟩=some (zU h.t):=cell_of HMb.out 2
    have p3:wr.cell? ⟨w§+1,3,none⟩=some (zI h.n):=cell_of HMb.out 3
    have p4:wr.cell? ⟨w§+1,4,none⟩=some (zU h.f):=cell_of HMb.out 4
    have p5:wr.cell? ⟨w§+1,5,none⟩=some (.string h.x):=cell_of HMb.out 5
    have p6:wr.cell? ⟨w§+1,6,none⟩=some (.slice a ks.length c):=cell_of HMb.out 6
    have p7:wr.cell? ⟨w§+1,7,none⟩=some (zI h.p):=cell_of HMb.out 7
    have cN:Calls zG 85 #[.agg #[.string S.x,.slice S.ra S.rs.length S.rc,.slice S.sa S.ss.length S.sc,.slice S.ta S.ts.length S.tc],.agg #[zU h.k,zU h.o,zU h.t,zI h.n,zU h.f,.string h.x,.slice a ks.length c,zI h.p],u6] wr _:=rnode_any S h a c ks ts u6 wr (HL.out.2.on (below2 HT.out.1.B HBr.out)) HF.out HT.out.2.1 (HRV.out.on HBr.out) (fun e=>absurd e HK2.out)
    go_wp2_with fail
    refine cN.mono ?_
    rintro e w2 ⟨⟨tt,bb,rfl,hbb⟩,hb2⟩
    rw [if_neg HK2.out] at hbb
    have HB2:Hid (Below wr§ wr w2):=hb2
    obtain⟨ft,eft⟩:∃ ft,fitT h ks.length (ts.getD 0 0) (ts.getD 1 0) (ts.getD 2 0)=ft:=⟨_,rfl⟩
    rw [eft] at hbb
    obtain⟨f1',f2'⟩:=ft
    obtain⟨rfl,e3⟩:=hbb
    clear cN hb2
    clear s0 s1 s2 s3 p0 p1 p2 p3 p4 p5 p6 p7
    unfold two
    have HSx:Hid (w2.heap[w§]? = some (.cells #[.string S.x,.slice S.ra S.rs.length S.rc,.slice S.sa S.ss.length S.sc,.slice S.ta S.ts.length S.tc] 27 (0,0))):=(HB2.out.block _ (Array.getElem?_eq_some_iff.1 HSb.out).1).trans HSb.out
    have HMx:Hid (w2.heap[w§+1]? = some (.cells #[zU h.k,zU h.o,zU h.t,zI h.n,zU h.f,.string h.x,.slice a ks.length c,zI h.p] 48 (0,0))):=(HB2.out.block _ (Array.getElem?_eq_some_iff.1 HMb.out).1).trans HMb.out
    have HZx:Hid (w2.heap[w§+2]? = some (.cells #[zI 0,zI 0,.bool false] 39 (0,0))):=(HB2.out.block _ (Array.getElem?_eq_some_iff.1 HZb.out).1).trans HZb.out
    have HBx:Hid (Below w§ w w2):=below2 HBw.out HB2.out
    cases bb with
    | true =>
     obtain rfl:=e3 rfl
     have HER:Hid (tyR (regL S.rs) (.mk h a c ks)=.ok tt):=(tyR_ok HTS.out).trans (tyH_fit hk1 eft)
     clear e3 eft
     have hz:=HZx.out
     have z0:w2.cell? ⟨w§+2,0,none⟩=some (zI 0):=cell_of hz 0
     have f0:w2.frozen? ⟨w§+2,0,none⟩=false:=frozen_of hz 0
     have z1:w2.cell? ⟨w§+2,1,none⟩=some (zI 0):=cell_of hz 1
     have f1:w2.frozen? ⟨w§+2,1,none⟩=false:=frozen_of hz 1
     have z2:w2.cell? ⟨w§+2,2,none⟩=some (.bool false):=cell_of hz 2
     have f2:w2.frozen? ⟨w§+2,2,none⟩=false:=frozen_of hz 2
     clear hz
     have HW:Hid (((w2.setCell ⟨w§+2,0,none⟩ (zI 0)).setCell ⟨w§+2,1,none⟩ (zI 0)).setCell ⟨w§+2,2,none⟩ (.bool false) |>.heap[w§+2]? |> (· = some (.cells #[zI 0,zI 0,.bool false] 39 (0,0)))):=put3u HZx.out _ _ _
     have HV:Hid (Below w§ w (((w2.setCell ⟨w§+2,0,none⟩ (zI 0)).setCell ⟨w§+2,1,none⟩ (zI 0)).setCell ⟨w§+2,2,none⟩ (.bool false))):=below3u HBx.out (by omega) _ _ _
     go_wp2_with fail
     refine bodyPost_ret (results_tc rfl _ _ (w§+2) 39 #[zI 0,zI 0,.bool false] (0,0) _ rfl HW.out Tryz.underlying39 rfl size39) rfl ⟨tt,0,0,false,rfl,.inl ⟨HER.out,rfl,rfl,rfl⟩,HV.out⟩
    | false =>
     have HER:Hid (tyR (regL S.rs) (.mk h a c ks)=.error (h.p,152)):=(tyR_ok HTS.out).trans (tyH_no hk1 eft)
     clear e3 eft
     go_upto_region 13 with fail
     have hz:=HZx.out
     have z0:w2.cell? ⟨w§+2,0,none⟩=some (zI 0):=cell_of hz 0
     have f0:w2.frozen? ⟨w§+2,0,none⟩=false:=frozen_of hz 0
     have z1:w2.cell? ⟨w§+2,1,none⟩=some (zI 0):=cell_of hz 1
     have f1:w2.frozen? ⟨w§+2,1,none⟩=false:=frozen_of hz 1
     have z2:w2.cell? ⟨w§+2,2,none⟩=some (.bool false):=cell_of hz 2
     have f2:w2.frozen? ⟨w§+2,2,none⟩=false:=frozen_of hz 2
     have t7:w2.cell? ⟨w§+1,7,none⟩=some (zI h.p):=cell_of HMx.out 7
     clear hz
     refine (?_:∀ Q',Hid (Q'=_)→Code.wp _ _ Q' _ _) _ rfl
     intro Q' HQ'
     have HPn:Hid (∀ p (d:Nat) v a w,Q' (.panic p) (Act.put a (some d) v) w→Q' (.panic p) a w):=by rw [HQ'.out]; exact fun _ _ _ _ _ h=>h
     have hz0:w2.drew.cell? ⟨w§+2,0,none⟩=some (zI 0):=z0
     have hz1:w2.drew.cell? ⟨w§+2,1,none⟩=some (zI 0):=z1
     have hz2:w2.drew.cell? ⟨w§+2,2,none⟩=some (.bool false):=z2
     have hf0:w2.drew.frozen? ⟨w§+2,0,none⟩=false:=f0
     have hf1:w2.drew.frozen? ⟨w§+2,1,none⟩=false:=f1
     have hf2:w2.drew.frozen? ⟨w§+2,2,none⟩=false:=f2
     refine wp_region_held_drew (S:=fun v=>v.heap[w§+1]? = some (.cells #[zU h.k,zU h.o,zU h.t,zI h.n,zU h.f,.string h.x,.slice a ks.length c,zI h.p] 48 (0,0))) zK HMx.out (fun hHeld=>?_)
     refine wpAnyH_take (i:=0) (v:=?_) rfl zK zK zK (fun c a w h=>HPn.out c _ _ a w h) (Or.inl ⟨by rfl,?_⟩) (by assumption) ?_
     rotate_left
     ·(intro v hv; go_simp; try (with_reducible rfl))
     try simp [Act.put]
     refine wpAnyH_take (i:=1) (v:=?_) rfl zK zK zK (fun c a w h=>HPn.out c _ _ a w h) (Or.inl ⟨by rfl,?_⟩) (by assumption) ?_
     rotate_left
     ·(intro v hv; have t7:=cell_of hv 7; go_simp; try (with_reducible rfl))
     try simp [Act.put]
     refine wpAnyH_take (i:=2) (v:=?_) rfl zK zK zK (fun c a w h=>HPn.out c _ _ a w h) (Or.inl ⟨by rfl,?_⟩) (by assumption) ?_
     rotate_left
     ·(intro v hv; go_simp; try (with_reducible rfl))
     try simp [Act.put]
     refine wpAnyH_take (i:=3) (v:=?_) rfl zK zK zK (fun c a w h=>HPn.out c _ _ a w h) (Or.inl ⟨by rfl,?_⟩) (by assumption) ?_
     rotate_left
     ·(intro v hv; go_simp; try (with_reducible rfl))
     try simp [Act.put]
     clear hHeld
     refine wpAnyH_ready (rs:=[4]) zK (by simp) ?_
     refine AllReadyH.cons rfl (fun K hK=>?_) AllReadyH.nil
     go_simp
     refine hK.out _ _ ((oth3u _ (by omega) _ _ _).trans HMx.out) (fun hHeld=>?_)
     clear hK K hHeld
     try simp [Act.put]
     refine wpAnyH_done zK ?_ _
     rw [HQ'.out]
     clear HQ' HPn Q' z0 z1 z2 f0 f1 f2 hz0 hz1 hz2 hf0 hf1 hf2
     have HW:Hid ((((w2.setCell ⟨w§+2,0,none⟩ (zI 152)).setCell ⟨w§+2,1,none⟩ (zI h.p)).setCell ⟨w§+2,2,none⟩ (.bool true)).drew.heap[w§+2]? = some (.cells #[zI 152,zI h.p,.bool true] 39 (0,0))∧Below w§ w (((w2.setCell ⟨w§+2,0,none⟩ (zI 152)).setCell ⟨w§+2,1,none⟩ (zI h.p)).setCell ⟨w§+2,2,none⟩ (.bool true)).drew):=⟨put3u HZx.out _ _ _,(below3u HBx.out (by omega) _ _ _).drew⟩
     generalize World.drew _=u2 at HW ⊢
     go_wp2_with fail
     refine bodyPost_ret (results_tc rfl _ _ (w§+2) 39 #[zI 152,zI h.p,.bool true] (0,0) _ rfl HW.out.1 Tryz.underlying39 rfl size39) rfl ⟨0,152,h.p,true,rfl,.inr ⟨HER.out,rfl,rfl,.inr rfl⟩,HW.out.2⟩
end Go.Proofs.YtoogodlnnijikaaGreatDoor
