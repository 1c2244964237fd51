import Derived.Test.YtfbjofnaghjmeaaGreatDoorA18
import Derived.Test.YtfbjofnaghjmeaaGreatDoorA13
namespace Go.Proofs.YtfbjofnaghjmeaaGreatDoor
open Go.Proofs.Tryz
set_option maxRecDepth 100000
set_option maxHeartbeats 8000000
open Go.RowKit
set_option linter.unusedVariables false
theorem Qhn (r:Qg):r.vals.all (·.oneCell')=true:=by simp [Qg.vals,Value.oneCell']
theorem QfE {s:yB}{S:K4}(hz:s.size≤4096) (hp:Ht s=some S) (w:yW):Calls zG 51 #[.string s] w fun e w'=>∃ m:Qg,e=.returned (.tuple #[.agg m.vals,.agg zi])∧m.tr=S∧Qr w' m∧yD w w':=by
 have HX0:=(XS.new w zk 26).hid
 obtain⟨W0,eW0⟩:∃ W,(zA w zk 26).alloc (.cells zi 123)=W:=jV
 rw [eW0] at HX0
 have cB:=QgT s hz W0
 have HEW:=zH eW0
 unfold Ht at hp
 obtain⟨q,hb,hq⟩:=Qo hp
 obtain⟨te,us,hq2,hte,rfl⟩:∃ te us,q.2=te :: us∧te.k=0∧q.1=S:=by
  cases h2:q.2 with
  | nil=>rw [h2] at hq;cases hq
  | cons t ts =>
   rw [h2] at hq
   simp only at hq
   by_cases e:t.k=0
   ·rw [if_pos e] at hq;cases hq;exact⟨t,ts,rfl,e,rfl⟩
   ·rw [if_neg e] at hq;cases hq
 have HPB:Hid (P3 (rdT s)=some (q.1,te :: us)∧te.k=0):=⟨by rw [hb,← hq2],hte⟩
 clear eW0 hp hb hq hq2 hte
 go_enter func51,ntmps51
 go_wp2_with fail
 try rw [HEW.out]
 clear HEW
 refine cB.mono ?_
 rintro e w1 ⟨b,K,rfl,hb,hs,hK,hB⟩
 have hz0:=(zJ HX0.out.f).1
 have HB1:Hid (w§+1 < b):=by show _ < _;omega
 have HX1:=(HX0.out.on hB).hid
 have cW:=Qfu hK hs HPB.out.1 HPB.out.2
 clear cB hb hs hK hB hz0 HX0
 go_wp2_with fail
 refine cW.mono ?_
 rintro e w2 ⟨m,rfl,htr,hdp,hs,hm⟩
 have HTR:Hid (m.tr=q.1):=htr
 have HX2:=(HX1.out.mv hm (fun k e=>by rw [e];exact HB1.out)).hid
 have hz1:=(zJ HX1.out.f).1
 have HSZ:Hid (w§+1 < w1§∧w1§≤w2§):=⟨hz1,hm.size⟩
 have HZ:Hid ((zA w2 zk 26).heap[w2§]? = (zC zk 26)):=Qc _ _
 have h3:yD w2 ((zA w2 zk 26).setRow w2§ m.vals):=Qn (Qb _ _) (Nat.le_refl _) _
 have HB3:=zH h3
 have HN3:Hid (((zA w2 zk 26).setRow w2§ m.vals).heap[w2§]? = (zC m.vals 26)):=setRow_heap _ _ _ _ _ _ HZ.out
 have HLV:=(hs.on h3).hid
 have HDP:=zH hdp
 have HX3:=(HX2.out.on h3).hid
 clear cW htr hdp hs hm HX1 hz1 HX2 h3
 go_upto_region 3 with (refine wpList_store_row rfl 26 (.tmp 5) (.tmp 9) rfl w2§ m.vals rfl rfl 26 zk HZ.out J6 rfl (Qhn m) ?_)
 generalize hW3:World.setRow _ _ _=w3
 rw [hW3] at HB3 HN3 HLV HX3
 clear hW3 HZ
 obtain⟨N5,eN5⟩:∃ n,w2§=n:=jV
 have HN5:Hid (w2§=N5):=eN5
 rw [eN5] at HN3 ⊢
 clear eN5
 obtain⟨i,p,u,hp,_⟩:=HLV.out
 have cO:=XB hp
 clear hp
 go_wp2_with fail
 refine cO.mono ?_
 rintro e w4 ⟨rfl,e9⟩
 obtain rfl:=e9.symm
 clear cO e9
 have HY1:Hid ((w3.setRow w§ m.vals).heap[w§]? = (zC m.vals 26)∧(w3.setRow w§ m.vals).heap[w§+1]? = (zC zi 123)∧yD w (w3.setRow w§ m.vals)):=⟨setRow_heap _ _ _ _ _ _ HX3.out.z,(QV _ _ _ zY).trans HX3.out.f,Qn HX3.out.B (Nat.le_refl _) _⟩
 have HY2:Hid (((w3.setRow w§ m.vals).setRow (w§+1) zi).heap[w§]? = (zC m.vals 26)∧((w3.setRow w§ m.vals).setRow (w§+1) zi).heap[w§+1]? = (zC zi 123)∧yD w ((w3.setRow w§ m.vals).setRow (w§+1) zi)):=⟨(QV _ _ _ zY).trans HY1.out.1,setRow_heap _ _ _ _ _ _ HY1.out.2.1,Qn HY1.out.2.2 zY _⟩
 have HSL:Hid (Qr ((w3.setRow w§ m.vals).setRow (w§+1) zi) m):=by
  have h1:=HSZ.out
  refine HDP.out _ fun k k1 k2=>?_
  rw [QV _ _ _ zY,QV _ _ _ zY]
  exact HB3.out.block k k2
 go_wp2_with (first | (refine wpList_load_row rfl 26 (.tmp 5) rfl N5 rfl 26 m.vals (0,0) _ HN3.out underlying26 rfl J6 ?_) | (refine wpList_store_row rfl 26 (.tmp 2) (.tmp 17) rfl w§ m.vals rfl rfl 26 _ HX3.out.z J6 rfl (Qhn m) ?_) | (refine wpList_store_row rfl 123 (.tmp 3) (.tmp 18) rfl (w§+1) zi rfl rfl 123 _ HY1.out.2.1 Qdp rfl (by simp [Value.oneCell']) ?_))
 exact bodyPost_ret (Qaf rfl _ _ w§ (w§+1) 26 123 m.vals zi (0,0) (0,0) _ _ rfl HY2.out.1 underlying26 rfl J6 rfl HY2.out.2.1 underlying123 rfl Qdp) rfl ⟨m,rfl,HTR.out,HSL.out,HY2.out.2.2⟩
theorem JD:(Tryz.prog.info? 301).map (·.size)=some 6:=by kernel_rfl
theorem Qib (d:DoM) (w:yW) (b c:Bool) (hk:d.k=1) (hx:(!d.x.toList.isEmpty)=b) (ho:(d.o != 2)=c):Calls zG 233 #[.agg d.vals] w fun e w'=>e=.returned (.agg #[.bool true,.bool b,.bool true,.bool true,.bool c,.bool false])∧yD w w':=by
 have hn0:=Qc w (.cells d.vals 121)
 have b1:=Qb (zA w d.vals 121) (.cells zg 301)
 have s0:=Qe w (.cells d.vals 121)
 have hn1:=Qc (zA w d.vals 121) (.cells zg 301)
 rw [s0] at hn1
 have hd1:=(b1.block _ zY).trans hn0
 obtain⟨W,eW⟩:∃ W,(zA w d.vals 121).alloc (.cells zg 301)=W:=jV
 have HBW:Hid (yD w W):=by show Below _ _ _;rw [← eW];exact Qd (Qb _ _) (Qb _ _)
 rw [eW] at hn1 hd1
 have HEW:=zH eW
 have k0:zQ W w§¢0 (zU d.k):=Qa hd1 0
 have k1:zQ W w§¢1 (zU d.o):=Qa hd1 1
 have k2:zQ W w§¢2 (.string d.x):=Qa hd1 2
 have HN1:=zH hn1
 have HF:Hid ((W.setRow (w§+1) #[.bool true,.bool b,.bool true,.bool true,.bool c,.bool false]).heap[w§+1]? = (zC #[.bool true,.bool b,.bool true,.bool true,.bool c,.bool false] 301)∧yD w (W.setRow (w§+1) #[.bool true,.bool b,.bool true,.bool true,.bool c,.bool false])):=⟨setRow_heap _ _ _ _ _ _ hn1,Qn HBW.out zY _⟩
 clear hn0 b1 s0 hn1 hd1 eW
 rw [hk] at k0
 clear hk
 go_enter func233,ntmps233
 go_upto_region 1 with fail
 rw [HEW.out]
 clear HEW
 go_wp2_with (refine wpList_store_row rfl 301 (.tmp 2) (.tmp 13) rfl (w§+1) #[.bool true,.bool b,.bool true,.bool true,.bool c,.bool false] rfl rfl 301 zg HN1.out JD rfl (by simp [Value.oneCell']) ?_)
 exact bodyPost_ret (results_cell_row rfl _ _ (w§+1) 301 #[.bool true,.bool b,.bool true,.bool true,.bool c,.bool false] (0,0) _ rfl HF.out.1 underlying301 rfl JD) rfl ⟨rfl,HF.out.2⟩
theorem Qig (d:DoM) (w:yW) (hk:d.k=2):Calls zG 233 #[.agg d.vals] w fun e w'=>e=.returned (.agg zq)∧yD w w':=by
 have hn0:=Qc w (.cells d.vals 121)
 have b1:=Qb (zA w d.vals 121) (.cells zg 301)
 have s0:=Qe w (.cells d.vals 121)
 have hn1:=Qc (zA w d.vals 121) (.cells zg 301)
 rw [s0] at hn1
 have hd1:=(b1.block _ zY).trans hn0
 obtain⟨W,eW⟩:∃ W,(zA w d.vals 121).alloc (.cells zg 301)=W:=jV
 have HBW:Hid (yD w W):=by show Below _ _ _;rw [← eW];exact Qd (Qb _ _) (Qb _ _)
 rw [eW] at hn1 hd1
 have HEW:=zH eW
 have k0:zQ W w§¢0 (zU d.k):=Qa hd1 0
 have k1:zQ W w§¢1 (zU d.o):=Qa hd1 1
 have k2:zQ W w§¢2 (.string d.x):=Qa hd1 2
 have HN1:=zH hn1
 have HF:Hid ((W.setRow (w§+1) zq).heap[w§+1]? = (zC zq 301)∧yD w (W.setRow (w§+1) zq)):=⟨setRow_heap _ _ _ _ _ _ hn1,Qn HBW.out zY _⟩
 clear hn0 b1 s0 hn1 hd1 eW
 rw [hk] at k0
 clear hk
 go_enter func233,ntmps233
 go_upto_region 1 with fail
 rw [HEW.out]
 clear HEW
 go_wp2_with (refine wpList_store_row rfl 301 (.tmp 2) (.tmp 16) rfl (w§+1) zq rfl rfl 301 zg HN1.out JD rfl (by simp [Value.oneCell']) ?_)
 exact bodyPost_ret (results_cell_row rfl _ _ (w§+1) 301 zq (0,0) _ rfl HF.out.1 underlying301 rfl JD) rfl ⟨rfl,HF.out.2⟩
theorem Qic (d:DoM) (w:yW) (hk:d.k=4):Calls zG 233 #[.agg d.vals] w fun e w'=>e=.returned (.agg zp)∧yD w w':=by
 have hn0:=Qc w (.cells d.vals 121)
 have b1:=Qb (zA w d.vals 121) (.cells zg 301)
 have s0:=Qe w (.cells d.vals 121)
 have hn1:=Qc (zA w d.vals 121) (.cells zg 301)
 rw [s0] at hn1
 have hd1:=(b1.block _ zY).trans hn0
 obtain⟨W,eW⟩:∃ W,(zA w d.vals 121).alloc (.cells zg 301)=W:=jV
 have HBW:Hid (yD w W):=by show Below _ _ _;rw [← eW];exact Qd (Qb _ _) (Qb _ _)
 rw [eW] at hn1 hd1
 have HEW:=zH eW
 have k0:zQ W w§¢0 (zU d.k):=Qa hd1 0
 have k1:zQ W w§¢1 (zU d.o):=Qa hd1 1
 have k2:zQ W w§¢2 (.string d.x):=Qa hd1 2
 have HN1:=zH hn1
 have HF:Hid ((W.setRow (w§+1) zp).heap[w§+1]? = (zC zp 301)∧yD w (W.setRow (w§+1) zp)):=⟨setRow_heap _ _ _ _ _ _ hn1,Qn HBW.out zY _⟩
 clear hn0 b1 s0 hn1 hd1 eW
 rw [hk] at k0
 clear hk
 go_enter func233,ntmps233
 go_upto_region 1 with fail
 rw [HEW.out]
 clear HEW
 go_wp2_with (refine wpList_store_row rfl 301 (.tmp 2) (.tmp 19) rfl (w§+1) zp rfl rfl 301 zg HN1.out JD rfl (by simp [Value.oneCell']) ?_)
 exact bodyPost_ret (results_cell_row rfl _ _ (w§+1) 301 zp (0,0) _ rfl HF.out.1 underlying301 rfl JD) rfl ⟨rfl,HF.out.2⟩
theorem Qif (d:DoM) (w:yW) (hk:d.k=3):Calls zG 233 #[.agg d.vals] w fun e w'=>e=.returned (.agg zj)∧yD w w':=by
 have hn0:=Qc w (.cells d.vals 121)
 have b1:=Qb (zA w d.vals 121) (.cells zg 301)
 have s0:=Qe w (.cells d.vals 121)
 have hn1:=Qc (zA w d.vals 121) (.cells zg 301)
 rw [s0] at hn1
 have hd1:=(b1.block _ zY).trans hn0
 obtain⟨W,eW⟩:∃ W,(zA w d.vals 121).alloc (.cells zg 301)=W:=jV
 have HBW:Hid (yD w W):=by show Below _ _ _;rw [← eW];exact Qd (Qb _ _) (Qb _ _)
 rw [eW] at hn1 hd1
 have HEW:=zH eW
 have k0:zQ W w§¢0 (zU d.k):=Qa hd1 0
 have k1:zQ W w§¢1 (zU d.o):=Qa hd1 1
 have k2:zQ W w§¢2 (.string d.x):=Qa hd1 2
 have HN1:=zH hn1
 have HF:Hid ((W.setRow (w§+1) zj).heap[w§+1]? = (zC zj 301)∧yD w (W.setRow (w§+1) zj)):=⟨setRow_heap _ _ _ _ _ _ hn1,Qn HBW.out zY _⟩
 clear hn0 b1 s0 hn1 hd1 eW
 rw [hk] at k0
 clear hk
 go_enter func233,ntmps233
 go_upto_region 1 with fail
 rw [HEW.out]
 clear HEW
 go_wp2_with (refine wpList_store_row rfl 301 (.tmp 2) (.tmp 23) rfl (w§+1) zj rfl rfl 301 zg HN1.out JD rfl (by simp [Value.oneCell']) ?_)
 exact bodyPost_ret (results_cell_row rfl _ _ (w§+1) 301 zj (0,0) _ rfl HF.out.1 underlying301 rfl JD) rfl ⟨rfl,HF.out.2⟩
theorem Qie (d:DoM) (w:yW) (hk:d.k=5):Calls zG 233 #[.agg d.vals] w fun e w'=>e=.returned (.agg zj)∧yD w w':=by
 have hn0:=Qc w (.cells d.vals 121)
 have b1:=Qb (zA w d.vals 121) (.cells zg 301)
 have s0:=Qe w (.cells d.vals 121)
 have hn1:=Qc (zA w d.vals 121) (.cells zg 301)
 rw [s0] at hn1
 have hd1:=(b1.block _ zY).trans hn0
 obtain⟨W,eW⟩:∃ W,(zA w d.vals 121).alloc (.cells zg 301)=W:=jV
 have HBW:Hid (yD w W):=by show Below _ _ _;rw [← eW];exact Qd (Qb _ _) (Qb _ _)
 rw [eW] at hn1 hd1
 have HEW:=zH eW
 have k0:zQ W w§¢0 (zU d.k):=Qa hd1 0
 have k1:zQ W w§¢1 (zU d.o):=Qa hd1 1
 have k2:zQ W w§¢2 (.string d.x):=Qa hd1 2
 have HN1:=zH hn1
 have HF:Hid ((W.setRow (w§+1) zj).heap[w§+1]? = (zC zj 301)∧yD w (W.setRow (w§+1) zj)):=⟨setRow_heap _ _ _ _ _ _ hn1,Qn HBW.out zY _⟩
 clear hn0 b1 s0 hn1 hd1 eW
 rw [hk] at k0
 clear hk
 go_enter func233,ntmps233
 go_upto_region 1 with fail
 rw [HEW.out]
 clear HEW
 go_wp2_with (refine wpList_store_row rfl 301 (.tmp 2) (.tmp 23) rfl (w§+1) zj rfl rfl 301 zg HN1.out JD rfl (by simp [Value.oneCell']) ?_)
 exact bodyPost_ret (results_cell_row rfl _ _ (w§+1) 301 zj (0,0) _ rfl HF.out.1 underlying301 rfl JD) rfl ⟨rfl,HF.out.2⟩
theorem Qid (d:DoM) (w:yW) (h1:¬ d.k=1) (h2:¬ d.k=2) (h3:¬ d.k=3) (h4:¬ d.k=4) (h5:¬ d.k=5):Calls zG 233 #[.agg d.vals] w fun e w'=>e=.returned (.agg zg)∧yD w w':=by
 have hn0:=Qc w (.cells d.vals 121)
 have b1:=Qb (zA w d.vals 121) (.cells zg 301)
 have s0:=Qe w (.cells d.vals 121)
 have hn1:=Qc (zA w d.vals 121) (.cells zg 301)
 rw [s0] at hn1
 have hd1:=(b1.block _ zY).trans hn0
 obtain⟨W,eW⟩:∃ W,(zA w d.vals 121).alloc (.cells zg 301)=W:=jV
 have HBW:Hid (yD w W):=by show Below _ _ _;rw [← eW];exact Qd (Qb _ _) (Qb _ _)
 rw [eW] at hn1 hd1
 have HEW:=zH eW
 have k0:zQ W w§¢0 (zU d.k):=Qa hd1 0
 have k1:zQ W w§¢1 (zU d.o):=Qa hd1 1
 have k2:zQ W w§¢2 (.string d.x):=Qa hd1 2
 have HN1:=zH hn1
 have HF:Hid ((W.setRow (w§+1) zg).heap[w§+1]? = (zC zg 301)∧yD w (W.setRow (w§+1) zg)):=⟨setRow_heap _ _ _ _ _ _ hn1,Qn HBW.out zY _⟩
 clear hn0 b1 s0 hn1 hd1 eW
 obtain⟨kk,ek⟩:∃ q,d.k=q:=jV
 rw [ek] at k0 h1 h2 h3 h4 h5
 have g1:(kk == 1)=false:=by simpa using h1
 have g2:(kk == 2)=false:=by simpa using h2
 have g3:(kk == 3)=false:=by simpa using h3
 have g4:(kk == 4)=false:=by simpa using h4
 have g5:(kk == 5)=false:=by simpa using h5
 clear ek h1 h2 h3 h4 h5
 go_enter func233,ntmps233
 go_upto_region 1 with fail
 rw [HEW.out]
 clear HEW
 go_wp2_with (refine wpList_store_row rfl 301 (.tmp 2) (.tmp 24) rfl (w§+1) zg rfl rfl 301 zg HN1.out JD rfl (by simp [Value.oneCell']) ?_)
 exact bodyPost_ret (results_cell_row rfl _ _ (w§+1) 301 zg (0,0) _ rfl HF.out.1 underlying301 rfl JD) rfl ⟨rfl,HF.out.2⟩
def Q8 (m:Nd) (is:Bool):Int:=if is=true then cE m else okE (Kl m nd0T)
theorem QN (m:Nd) (is:Bool) (w:yW) (hl:Lies w m) (hz:size m≤1000000000000) (ht:Tab w):QI 235 #[.agg m.vals,.bool is] w (Q8 m is):=by
 have hb0:=Qb w (.cells m.vals 38)
 have HN0:Hid ((zA w m.vals 38).heap[w§]? = (zC m.vals 38)):=Qc w _
 have HB0:=zH hb0
 cases is with
 | true =>
  have c1:=(KU m (zA w m.vals 38) (hl.on hb0) hz (ht.on hb0)).two
  have hE:Q8 m true=cE m:=if_pos rfl
  rw [hE]
  unfold QI
  clear hl ht hb0 hE hz
  rcases c1 with ⟨h1,c1⟩ | ⟨h1,c1⟩
  ·go_enter func235,ntmps235
   go_wp2_with (refine wpList_load_row rfl 38 (.tmp 2) rfl w§ rfl 38 m.vals (0,0) _ HN0.out underlying38 rfl Qj ?_)
   refine c1.mono ?_
   rintro e w1 ⟨rfl,hb⟩
   have HB1:=zH (Qd HB0.out hb)
   clear c1 hb
   go_wp2_with fail
   exact bodyPost_ret (results_none rfl _ _ _) rfl ⟨.inl ⟨h1,rfl⟩,HB1.out⟩
  ·go_enter func235,ntmps235
   go_wp2_with (refine wpList_load_row rfl 38 (.tmp 2) rfl w§ rfl 38 m.vals (0,0) _ HN0.out underlying38 rfl Qj ?_)
   refine c1.mono ?_
   rintro e w1 ⟨rfl,hb⟩
   exact⟨rfl,.inr ⟨h1,rfl⟩,Qd HB0.out hb⟩
 | false =>
  have c1:Calls zG 247 #[.agg m.vals,.agg zd] (zA w m.vals 38) fun e w'=>e=.returned (.bool (Kl m nd0T))∧Below (zA w m.vals 38)§ (zA w m.vals 38) w':=Qdu m nd0T _ (hl.on hb0) (lies0T _)
  obtain⟨B,eB⟩:∃ B,Kl m nd0T=B:=jV
  have hE:Q8 m false=okE B:=by unfold Q8;rw [if_neg (by decide),eB]
  rw [hE]
  rw [eB] at c1
  unfold QI
  clear hl ht hb0 hE hz eB
  go_enter func235,ntmps235
  go_wp2_with (refine wpList_load_row rfl 38 (.tmp 2) rfl w§ rfl 38 m.vals (0,0) _ HN0.out underlying38 rfl Qj ?_)
  refine c1.mono ?_
  rintro e w1 ⟨rfl,hb⟩
  have HB1:=zH (Qd HB0.out hb)
  have c2:=(QK B w1).two
  clear c1 hb
  rcases c2 with ⟨h1,c2⟩ | ⟨h1,c2⟩
  ·go_wp2_with fail
   refine c2.mono ?_
   rintro e w2 ⟨rfl,hb⟩
   have HB2:=zH (Qd HB1.out hb)
   clear c2 hb
   go_wp2_with fail
   go_end0
   exact⟨.inl ⟨h1,rfl⟩,HB2.out⟩
  ·go_wp2_with fail
   refine c2.mono ?_
   rintro e w2 ⟨rfl,hb⟩
   exact⟨rfl,.inr ⟨h1,rfl⟩,Qd HB1.out hb⟩
set_option linter.unusedSimpArgs false
def ndO (d:DoM):Bool:=decide (d.k=1)
def ndN (d:DoM):Bool:=if d.k=1 then !d.x.toList.isEmpty else decide (2≤d.k∧d.k≤5)
def ndS (d:DoM):Bool:=decide (d.k=1)
def ndQ (d:DoM):Bool:=decide (d.k=1∨d.k=2)
def ndP (d:DoM):Bool:=if d.k=1 then d.o != 2 else decide (d.k=2)
def ndV (d:DoM):Bool:=decide (d.k=4)
theorem Hy (d:DoM) (w:yW):Calls zG 233 #[.agg d.vals] w fun e w'=>e=.returned (.agg #[.bool (ndO d),.bool (ndN d),.bool (ndS d),.bool (ndQ d),.bool (ndP d),.bool (ndV d)])∧yD w w':=by
 by_cases h1:d.k=1
 ·have:=Qib d w _ _ h1 rfl rfl
  simp only [ndO,ndN,ndS,ndQ,ndP,ndV,h1,if_true,decide_true,true_or,show ¬ (1:Int)=4 by decide,decide_false]
  exact this
 by_cases h2:d.k=2
 ·have:=Qig d w h2
  simp [ndO,ndN,ndS,ndQ,ndP,ndV,h2]
  exact this
 by_cases h3:d.k=3
 ·have:=Qif d w h3
  simp [ndO,ndN,ndS,ndQ,ndP,ndV,h3]
  exact this
 by_cases h4:d.k=4
 ·have:=Qic d w h4
  simp [ndO,ndN,ndS,ndQ,ndP,ndV,h4]
  exact this
 by_cases h5:d.k=5
 ·have:=Qie d w h5
  simp [ndO,ndN,ndS,ndQ,ndP,ndV,h5]
  exact this
 ·have:=Qid d w h1 h2 h3 h4 h5
  have hn:¬ (2≤d.k∧d.k≤5):=by omega
  simp only [ndO,ndN,ndS,ndQ,ndP,ndV,h1,h2,h4,hn,if_false,decide_false,or_self]
  exact this
def doE (d:DoM):Int:=fs (okE (decide (1≤d.k∧d.k≤6))) (fs (if ndO d=true then okE (decide (1≤d.o∧d.o≤5)) else okE (decide (d.o=0))) (fs (if ndN d=true then namE d.x else okE (d.x.toList.isEmpty)) (fs (Q8 d.sd (ndS d)) (fs (Q8 d.qt (ndQ d)) (fs (Q8 d.pr (ndP d)) (Q8 d.vl (ndV d)))))))
def DoZ (d:DoM):Prop:=size d.sd≤1000000000000∧size d.qt≤1000000000000∧size d.pr≤1000000000000∧size d.vl≤1000000000000
theorem Ui (d:DoM):∀ j,j < 8→d.vals[3+j]? = d.sd.vals.toList[j]?:=fun j hj=>by
 match j,hj with
 | 0,_=>rfl
 | 1,_=>rfl
 | 2,_=>rfl
 | 3,_=>rfl
 | 4,_=>rfl
 | 5,_=>rfl
 | 6,_=>rfl
 | 7,_=>rfl
theorem Uj (d:DoM):∀ j,j < 8→d.vals[11+j]? = d.qt.vals.toList[j]?:=fun j hj=>by
 match j,hj with
 | 0,_=>rfl
 | 1,_=>rfl
 | 2,_=>rfl
 | 3,_=>rfl
 | 4,_=>rfl
 | 5,_=>rfl
 | 6,_=>rfl
 | 7,_=>rfl
theorem Uk (d:DoM):∀ j,j < 8→d.vals[19+j]? = d.pr.vals.toList[j]?:=fun j hj=>by
 match j,hj with
 | 0,_=>rfl
 | 1,_=>rfl
 | 2,_=>rfl
 | 3,_=>rfl
 | 4,_=>rfl
 | 5,_=>rfl
 | 6,_=>rfl
 | 7,_=>rfl
theorem Uh (d:DoM):∀ j,j < 8→d.vals[27+j]? = d.vl.vals.toList[j]?:=fun j hj=>by
 match j,hj with
 | 0,_=>rfl
 | 1,_=>rfl
 | 2,_=>rfl
 | 3,_=>rfl
 | 4,_=>rfl
 | 5,_=>rfl
 | 6,_=>rfl
 | 7,_=>rfl
theorem do_tt (d:DoM) (w:yW) (hl:DoL w d) (hz:DoZ d) (ht:Tab w) (hO:ndO d=true) (hN:ndN d=true):QI 222 #[.agg d.vals] w (doE d):=by
 have hb0:=Qb w (.cells d.vals 121)
 have hn0:=Qc w (.cells d.vals 121)
 have HH:Hid (DoL w d∧Tab w∧DoZ d):=⟨hl,ht,hz⟩
 have HN0:=zH hn0
 have HB0:=zH hb0
 have q0:(zA w d.vals 121).cell? w§¢0=some (zU d.k):=Qa hn0 0
 have c0:=JQ 232 d.k 1 6 (zA w d.vals 121) (by simp)
 have cn:=fun v=>Hy d v
 obtain⟨E,eE⟩:∃ E,doE d=E:=jV
 have HE:Hid (doE d=E):=eE
 rw [eE]
 unfold doE at HE
 rw [hO,hN] at HE
 rw [hO,hN] at cn
 obtain⟨B1,eB1⟩:∃ B,decide (1≤d.k∧d.k≤6)=B:=jV
 rw [eB1] at c0 HE
 rw [if_pos rfl] at HE
 obtain⟨B2,eB2⟩:∃ B,decide (1≤d.o∧d.o≤5)=B:=jV
 rw [eB2] at HE
 have cO:=fun v=>JQ 234 d.o 1 5 v (by simp)
 simp only [eB2] at cO
 rw [if_pos rfl] at HE
 obtain⟨bs,ebs⟩:∃ q,ndS d=q:=jV
 obtain⟨bq,ebq⟩:∃ q,ndQ d=q:=jV
 obtain⟨bp,ebp⟩:∃ q,ndP d=q:=jV
 obtain⟨bv,ebv⟩:∃ q,ndV d=q:=jV
 rw [ebs,ebq,ebp,ebv] at HE
 simp only [ebs,ebq,ebp,ebv] at cn
 clear hl ht hz eE hb0 hn0 hO hN eB1 ebs ebq ebp ebv
 clear eB2
 unfold QI
 go_enter func222,ntmps222
 go_wp2_with fail
 refine c0.mono ?_
 rintro e w0 ⟨rfl,e0⟩
 obtain rfl:=e0.symm
 have c1:=(QK B1 (zA w d.vals 121)).two
 clear c0 e0
 rcases c1 with ⟨h1,c1⟩ | ⟨h1,c1⟩
 ·go_wp2_with fail
  refine c1.mono ?_
  rintro e w1 ⟨rfl,hb⟩
  have HB1:=zH (Qd HB0.out hb)
  have hd1:=(hb.block _ (zJ HN0.out).1).trans HN0.out
  have HD1:=zH hd1
  have cn1:=cn w1
  clear c1 hb hd1 q0 HN0 HB0
  go_wp2_with (refine wpList_load_row rfl 121 (.tmp 1) rfl w§ rfl 121 d.vals (0,0) _ HD1.out underlying121 rfl Qt ?_)
  refine cn1.mono ?_
  rintro e wm ⟨rfl,hb⟩
  have hdm:=(hb.block _ (zJ HD1.out).1).trans HD1.out
  have hbn:=Qb wm (.cells #[.bool true,.bool true,.bool bs,.bool bq,.bool bp,.bool bv] 301)
  have HDM:Hid ((zA wm #[.bool true,.bool true,.bool bs,.bool bq,.bool bp,.bool bv] 301).heap[w§]? = (zC d.vals 121)):=(hbn.block _ (zJ hdm).1).trans hdm
  have HNM:Hid ((zA wm #[.bool true,.bool true,.bool bs,.bool bq,.bool bp,.bool bv] 301).heap[wm§]? = (zC #[.bool true,.bool true,.bool bs,.bool bq,.bool bp,.bool bv] 301)):=Qc _ _
  have HBM:=zH (Qd (Qd HB1.out hb) hbn)
  clear cn1 cn hb hdm hbn HD1 HB1
  go_upto_region 3 with fail
  obtain⟨NM,eNM⟩:∃ q,wm§=q:=jV
  obtain⟨WM,eWM⟩:∃ W,wm.alloc (.cells #[.bool true,.bool true,.bool bs,.bool bq,.bool bp,.bool bv] 301)=W:=jV
  rw [eWM,eNM] at HNM
  rw [eWM] at HDM HBM
  rw [eWM,eNM]
  clear eWM eNM
  have m0:zQ WM NM¢0 (.bool true):=Qa HNM.out 0
  have p1:zQ WM w§¢1 (zU d.o):=Qa HDM.out 1
  have cO1:=cO WM
  go_wp2_with fail
  refine cO1.mono ?_
  rintro e w0' ⟨rfl,e0⟩
  obtain rfl:=e0.symm
  clear cO1 e0 cO
  have c2:=(QK B2 WM).two
  rcases c2 with ⟨h2,c2⟩ | ⟨h2,c2⟩
  ·go_wp2_with fail
   refine c2.mono ?_
   rintro e w2 ⟨rfl,hb⟩
   have HB2:=zH (Qd HBM.out hb)
   have hdm:=(hb.block _ (zJ HDM.out).1).trans HDM.out
   have hnm:=(hb.block _ (zJ HNM.out).1).trans HNM.out
   have HD2:=zH hdm
   have HN2:=zH hnm
   have m1:zQ w2 NM¢1 (.bool true):=Qa hnm 1
   have p2:zQ w2 w§¢2 (.string d.x):=Qa hdm 2
   clear c2 hb hdm hnm m0 p1 HDM HNM HBM
   have c3:=(Ky (x:=d.x) HH.out.1.2.2.2.2.2.2.2 (HH.out.2.1.on HB2.out)).two
   rcases c3 with ⟨h3,c3⟩ | ⟨h3,c3⟩
   ·go_wp2_with fail
    refine c3.mono ?_
    rintro e w3 ⟨rfl,hb⟩
    have HB3:=zH (Qd HB2.out hb)
    have hdm:=(hb.block _ (zJ HD2.out).1).trans HD2.out
    have hnm:=(hb.block _ (zJ HN2.out).1).trans HN2.out
    have HD3:=zH hdm
    have HN3:=zH hnm
    have m2:zQ w3 NM¢2 (.bool bs):=Qa hnm 2
    clear c3 hb hdm hnm m1 p2 HD2 HN2
    have c4:=(QN d.sd bs w3 (HH.out.1.1.on HB3.out) HH.out.2.2.1 (HH.out.2.1.on HB3.out)).two
    rcases c4 with ⟨h4,c4⟩ | ⟨h4,c4⟩
    ·go_wp2_with (refine wpList_load_mid rfl 38 (.tmp 28) rfl w§ 3 rfl d.sd.vals.toList _ (QE HD3.out 3 d.sd (Ui d)) underlying38 rfl (QD d.sd) ?_;rw [QQ])
     refine c4.mono ?_
     rintro e w4 ⟨rfl,hb⟩
     have HB4:=zH (Qd HB3.out hb)
     have hdm:=(hb.block _ (zJ HD3.out).1).trans HD3.out
     have hnm:=(hb.block _ (zJ HN3.out).1).trans HN3.out
     have HD4:=zH hdm
     have HN4:=zH hnm
     have m3:zQ w4 NM¢3 (.bool bq):=Qa hnm 3
     clear c4 hb hdm hnm m2 HD3 HN3
     have c5:=(QN d.qt bq w4 (HH.out.1.2.1.on HB4.out) HH.out.2.2.2.1 (HH.out.2.1.on HB4.out)).two
     rcases c5 with ⟨h5,c5⟩ | ⟨h5,c5⟩
     ·go_wp2_with (refine wpList_load_mid rfl 38 (.tmp 33) rfl w§ 11 rfl d.qt.vals.toList _ (QE HD4.out 11 d.qt (Uj d)) underlying38 rfl (QD d.qt) ?_;rw [QQ])
      refine c5.mono ?_
      rintro e w5 ⟨rfl,hb⟩
      have HB5:=zH (Qd HB4.out hb)
      have hdm:=(hb.block _ (zJ HD4.out).1).trans HD4.out
      have hnm:=(hb.block _ (zJ HN4.out).1).trans HN4.out
      have HD5:=zH hdm
      have HN5:=zH hnm
      have m4:zQ w5 NM¢4 (.bool bp):=Qa hnm 4
      clear c5 hb hdm hnm m3 HD4 HN4
      have c6:=(QN d.pr bp w5 (HH.out.1.2.2.1.on HB5.out) HH.out.2.2.2.2.1 (HH.out.2.1.on HB5.out)).two
      rcases c6 with ⟨h6,c6⟩ | ⟨h6,c6⟩
      ·go_wp2_with (refine wpList_load_mid rfl 38 (.tmp 38) rfl w§ 19 rfl d.pr.vals.toList _ (QE HD5.out 19 d.pr (Uk d)) underlying38 rfl (QD d.pr) ?_;rw [QQ])
       refine c6.mono ?_
       rintro e w6 ⟨rfl,hb⟩
       have HB6:=zH (Qd HB5.out hb)
       have hdm:=(hb.block _ (zJ HD5.out).1).trans HD5.out
       have hnm:=(hb.block _ (zJ HN5.out).1).trans HN5.out
       have HD6:=zH hdm
       have HN6:=zH hnm
       have m5:zQ w6 NM¢5 (.bool bv):=Qa hnm 5
       clear c6 hb hdm hnm m4 HD5 HN5
       have c7:=(QN d.vl bv w6 (HH.out.1.2.2.2.1.on HB6.out) HH.out.2.2.2.2.2 (HH.out.2.1.on HB6.out)).two
       rcases c7 with ⟨h7,c7⟩ | ⟨h7,c7⟩
       ·go_wp2_with (refine wpList_load_mid rfl 38 (.tmp 43) rfl w§ 27 rfl d.vl.vals.toList _ (QE HD6.out 27 d.vl (Uh d)) underlying38 rfl (QD d.vl) ?_;rw [QQ])
        refine c7.mono ?_
        rintro e w7 ⟨rfl,hb⟩
        have HB7:=zH (Qd HB6.out hb)
        clear c7 hb
        go_wp2_with fail
        go_end0
        exact⟨.inl ⟨by rw [← HE.out,fs_z h1,fs_z h2,fs_z h3,fs_z h4,fs_z h5,fs_z h6];exact h7,rfl⟩,HB7.out⟩
       ·go_wp2_with (refine wpList_load_mid rfl 38 (.tmp 43) rfl w§ 27 rfl d.vl.vals.toList _ (QE HD6.out 27 d.vl (Uh d)) underlying38 rfl (QD d.vl) ?_;rw [QQ])
        refine c7.mono ?_
        rintro e wf ⟨rfl,hb⟩
        have hE:E=Q8 d.vl bv:=by rw [← HE.out,fs_z h1,fs_z h2,fs_z h3,fs_z h4,fs_z h5,fs_z h6]
        exact⟨rfl,.inr ⟨by rw [hE];exact h7,by rw [hE]⟩,Qd HB6.out hb⟩
      ·go_wp2_with (refine wpList_load_mid rfl 38 (.tmp 38) rfl w§ 19 rfl d.pr.vals.toList _ (QE HD5.out 19 d.pr (Uk d)) underlying38 rfl (QD d.pr) ?_;rw [QQ])
       refine c6.mono ?_
       rintro e wf ⟨rfl,hb⟩
       have hE:E=Q8 d.pr bp:=by rw [← HE.out,fs_z h1,fs_z h2,fs_z h3,fs_z h4,fs_z h5,fs_n h6]
       exact⟨rfl,.inr ⟨by rw [hE];exact h6,by rw [hE]⟩,Qd HB5.out hb⟩
     ·go_wp2_with (refine wpList_load_mid rfl 38 (.tmp 33) rfl w§ 11 rfl d.qt.vals.toList _ (QE HD4.out 11 d.qt (Uj d)) underlying38 rfl (QD d.qt) ?_;rw [QQ])
      refine c5.mono ?_
      rintro e wf ⟨rfl,hb⟩
      have hE:E=Q8 d.qt bq:=by rw [← HE.out,fs_z h1,fs_z h2,fs_z h3,fs_z h4,fs_n h5]
      exact⟨rfl,.inr ⟨by rw [hE];exact h5,by rw [hE]⟩,Qd HB4.out hb⟩
    ·go_wp2_with (refine wpList_load_mid rfl 38 (.tmp 28) rfl w§ 3 rfl d.sd.vals.toList _ (QE HD3.out 3 d.sd (Ui d)) underlying38 rfl (QD d.sd) ?_;rw [QQ])
     refine c4.mono ?_
     rintro e wf ⟨rfl,hb⟩
     have hE:E=Q8 d.sd bs:=by rw [← HE.out,fs_z h1,fs_z h2,fs_z h3,fs_n h4]
     exact⟨rfl,.inr ⟨by rw [hE];exact h4,by rw [hE]⟩,Qd HB3.out hb⟩
   ·go_wp2_with fail
    refine c3.mono ?_
    rintro e wf ⟨rfl,hb⟩
    have hE:E=(namE d.x):=by rw [← HE.out,fs_z h1,fs_z h2,fs_n h3]
    exact⟨rfl,.inr ⟨by rw [hE];exact h3,by rw [hE]⟩,Qd HB2.out hb⟩
  ·go_wp2_with fail
   refine c2.mono ?_
   rintro e wf ⟨rfl,hb⟩
   have hE:E=okE B2:=by rw [← HE.out,fs_z h1,fs_n h2]
   exact⟨rfl,.inr ⟨by rw [hE];exact h2,by rw [hE]⟩,Qd HBM.out hb⟩
 ·go_wp2_with fail
  refine c1.mono ?_
  rintro e wf ⟨rfl,hb⟩
  have hE:E=okE B1:=by rw [← HE.out,fs_n h1]
  exact⟨rfl,.inr ⟨by rw [hE];exact h1,by rw [hE]⟩,Qd HB0.out hb⟩
theorem do_tf (d:DoM) (w:yW) (hl:DoL w d) (hz:DoZ d) (ht:Tab w) (hO:ndO d=true) (hN:ndN d=false):QI 222 #[.agg d.vals] w (doE d):=by
 have hb0:=Qb w (.cells d.vals 121)
 have hn0:=Qc w (.cells d.vals 121)
 have HH:Hid (DoL w d∧Tab w∧DoZ d):=⟨hl,ht,hz⟩
 have HN0:=zH hn0
 have HB0:=zH hb0
 have q0:(zA w d.vals 121).cell? w§¢0=some (zU d.k):=Qa hn0 0
 have c0:=JQ 232 d.k 1 6 (zA w d.vals 121) (by simp)
 have cn:=fun v=>Hy d v
 obtain⟨E,eE⟩:∃ E,doE d=E:=jV
 have HE:Hid (doE d=E):=eE
 rw [eE]
 unfold doE at HE
 rw [hO,hN] at HE
 rw [hO,hN] at cn
 obtain⟨B1,eB1⟩:∃ B,decide (1≤d.k∧d.k≤6)=B:=jV
 rw [eB1] at c0 HE
 rw [if_pos rfl] at HE
 obtain⟨B2,eB2⟩:∃ B,decide (1≤d.o∧d.o≤5)=B:=jV
 rw [eB2] at HE
 have cO:=fun v=>JQ 234 d.o 1 5 v (by simp)
 simp only [eB2] at cO
 rw [if_neg (by decide)] at HE
 obtain⟨B3,eB3⟩:∃ B,d.x.toList.isEmpty=B:=jV
 rw [eB3] at HE
 obtain⟨bs,ebs⟩:∃ q,ndS d=q:=jV
 obtain⟨bq,ebq⟩:∃ q,ndQ d=q:=jV
 obtain⟨bp,ebp⟩:∃ q,ndP d=q:=jV
 obtain⟨bv,ebv⟩:∃ q,ndV d=q:=jV
 rw [ebs,ebq,ebp,ebv] at HE
 simp only [ebs,ebq,ebp,ebv] at cn
 clear hl ht hz eE hb0 hn0 hO hN eB1 ebs ebq ebp ebv
 clear eB2
 unfold QI
 go_enter func222,ntmps222
 go_wp2_with fail
 refine c0.mono ?_
 rintro e w0 ⟨rfl,e0⟩
 obtain rfl:=e0.symm
 have c1:=(QK B1 (zA w d.vals 121)).two
 clear c0 e0
 rcases c1 with ⟨h1,c1⟩ | ⟨h1,c1⟩
 ·go_wp2_with fail
  refine c1.mono ?_
  rintro e w1 ⟨rfl,hb⟩
  have HB1:=zH (Qd HB0.out hb)
  have hd1:=(hb.block _ (zJ HN0.out).1).trans HN0.out
  have HD1:=zH hd1
  have cn1:=cn w1
  clear c1 hb hd1 q0 HN0 HB0
  go_wp2_with (refine wpList_load_row rfl 121 (.tmp 1) rfl w§ rfl 121 d.vals (0,0) _ HD1.out underlying121 rfl Qt ?_)
  refine cn1.mono ?_
  rintro e wm ⟨rfl,hb⟩
  have hdm:=(hb.block _ (zJ HD1.out).1).trans HD1.out
  have hbn:=Qb wm (.cells #[.bool true,.bool false,.bool bs,.bool bq,.bool bp,.bool bv] 301)
  have HDM:Hid ((zA wm #[.bool true,.bool false,.bool bs,.bool bq,.bool bp,.bool bv] 301).heap[w§]? = (zC d.vals 121)):=(hbn.block _ (zJ hdm).1).trans hdm
  have HNM:Hid ((zA wm #[.bool true,.bool false,.bool bs,.bool bq,.bool bp,.bool bv] 301).heap[wm§]? = (zC #[.bool true,.bool false,.bool bs,.bool bq,.bool bp,.bool bv] 301)):=Qc _ _
  have HBM:=zH (Qd (Qd HB1.out hb) hbn)
  clear cn1 cn hb hdm hbn HD1 HB1
  go_upto_region 3 with fail
  obtain⟨NM,eNM⟩:∃ q,wm§=q:=jV
  obtain⟨WM,eWM⟩:∃ W,wm.alloc (.cells #[.bool true,.bool false,.bool bs,.bool bq,.bool bp,.bool bv] 301)=W:=jV
  rw [eWM,eNM] at HNM
  rw [eWM] at HDM HBM
  rw [eWM,eNM]
  clear eWM eNM
  have m0:zQ WM NM¢0 (.bool true):=Qa HNM.out 0
  have p1:zQ WM w§¢1 (zU d.o):=Qa HDM.out 1
  have cO1:=cO WM
  go_wp2_with fail
  refine cO1.mono ?_
  rintro e w0' ⟨rfl,e0⟩
  obtain rfl:=e0.symm
  clear cO1 e0 cO
  have c2:=(QK B2 WM).two
  rcases c2 with ⟨h2,c2⟩ | ⟨h2,c2⟩
  ·go_wp2_with fail
   refine c2.mono ?_
   rintro e w2 ⟨rfl,hb⟩
   have HB2:=zH (Qd HBM.out hb)
   have hdm:=(hb.block _ (zJ HDM.out).1).trans HDM.out
   have hnm:=(hb.block _ (zJ HNM.out).1).trans HNM.out
   have HD2:=zH hdm
   have HN2:=zH hnm
   have m1:zQ w2 NM¢1 (.bool false):=Qa hnm 1
   have p2:zQ w2 w§¢2 (.string d.x):=Qa hdm 2
   clear c2 hb hdm hnm m0 p1 HDM HNM HBM
   have c3:=(QK B3 w2).two
   rcases c3 with ⟨h3,c3⟩ | ⟨h3,c3⟩
   ·go_wp2_with fail
    refine c3.mono ?_
    rintro e w3 ⟨rfl,hb⟩
    have HB3:=zH (Qd HB2.out hb)
    have hdm:=(hb.block _ (zJ HD2.out).1).trans HD2.out
    have hnm:=(hb.block _ (zJ HN2.out).1).trans HN2.out
    have HD3:=zH hdm
    have HN3:=zH hnm
    have m2:zQ w3 NM¢2 (.bool bs):=Qa hnm 2
    clear c3 hb hdm hnm m1 p2 HD2 HN2
    have c4:=(QN d.sd bs w3 (HH.out.1.1.on HB3.out) HH.out.2.2.1 (HH.out.2.1.on HB3.out)).two
    rcases c4 with ⟨h4,c4⟩ | ⟨h4,c4⟩
    ·go_wp2_with (refine wpList_load_mid rfl 38 (.tmp 28) rfl w§ 3 rfl d.sd.vals.toList _ (QE HD3.out 3 d.sd (Ui d)) underlying38 rfl (QD d.sd) ?_;rw [QQ])
     refine c4.mono ?_
     rintro e w4 ⟨rfl,hb⟩
     have HB4:=zH (Qd HB3.out hb)
     have hdm:=(hb.block _ (zJ HD3.out).1).trans HD3.out
     have hnm:=(hb.block _ (zJ HN3.out).1).trans HN3.out
     have HD4:=zH hdm
     have HN4:=zH hnm
     have m3:zQ w4 NM¢3 (.bool bq):=Qa hnm 3
     clear c4 hb hdm hnm m2 HD3 HN3
     have c5:=(QN d.qt bq w4 (HH.out.1.2.1.on HB4.out) HH.out.2.2.2.1 (HH.out.2.1.on HB4.out)).two
     rcases c5 with ⟨h5,c5⟩ | ⟨h5,c5⟩
     ·go_wp2_with (refine wpList_load_mid rfl 38 (.tmp 33) rfl w§ 11 rfl d.qt.vals.toList _ (QE HD4.out 11 d.qt (Uj d)) underlying38 rfl (QD d.qt) ?_;rw [QQ])
      refine c5.mono ?_
      rintro e w5 ⟨rfl,hb⟩
      have HB5:=zH (Qd HB4.out hb)
      have hdm:=(hb.block _ (zJ HD4.out).1).trans HD4.out
      have hnm:=(hb.block _ (zJ HN4.out).1).trans HN4.out
      have HD5:=zH hdm
      have HN5:=zH hnm
      have m4:zQ w5 NM¢4 (.bool bp):=Qa hnm 4
      clear c5 hb hdm hnm m3 HD4 HN4
      have c6:=(QN d.pr bp w5 (HH.out.1.2.2.1.on HB5.out) HH.out.2.2.2.2.1 (HH.out.2.1.on HB5.out)).two
      rcases c6 with ⟨h6,c6⟩ | ⟨h6,c6⟩
      ·go_wp2_with (refine wpList_load_mid rfl 38 (.tmp 38) rfl w§ 19 rfl d.pr.vals.toList _ (QE HD5.out 19 d.pr (Uk d)) underlying38 rfl (QD d.pr) ?_;rw [QQ])
       refine c6.mono ?_
       rintro e w6 ⟨rfl,hb⟩
       have HB6:=zH (Qd HB5.out hb)
       have hdm:=(hb.block _ (zJ HD5.out).1).trans HD5.out
       have hnm:=(hb.block _ (zJ HN5.out).1).trans HN5.out
       have HD6:=zH hdm
       have HN6:=zH hnm
       have m5:zQ w6 NM¢5 (.bool bv):=Qa hnm 5
       clear c6 hb hdm hnm m4 HD5 HN5
       have c7:=(QN d.vl bv w6 (HH.out.1.2.2.2.1.on HB6.out) HH.out.2.2.2.2.2 (HH.out.2.1.on HB6.out)).two
       rcases c7 with ⟨h7,c7⟩ | ⟨h7,c7⟩
       ·go_wp2_with (refine wpList_load_mid rfl 38 (.tmp 43) rfl w§ 27 rfl d.vl.vals.toList _ (QE HD6.out 27 d.vl (Uh d)) underlying38 rfl (QD d.vl) ?_;rw [QQ])
        refine c7.mono ?_
        rintro e w7 ⟨rfl,hb⟩
        have HB7:=zH (Qd HB6.out hb)
        clear c7 hb
        go_wp2_with fail
        go_end0
        exact⟨.inl ⟨by rw [← HE.out,fs_z h1,fs_z h2,fs_z h3,fs_z h4,fs_z h5,fs_z h6];exact h7,rfl⟩,HB7.out⟩
       ·go_wp2_with (refine wpList_load_mid rfl 38 (.tmp 43) rfl w§ 27 rfl d.vl.vals.toList _ (QE HD6.out 27 d.vl (Uh d)) underlying38 rfl (QD d.vl) ?_;rw [QQ])
        refine c7.mono ?_
        rintro e wf ⟨rfl,hb⟩
        have hE:E=Q8 d.vl bv:=by rw [← HE.out,fs_z h1,fs_z h2,fs_z h3,fs_z h4,fs_z h5,fs_z h6]
        exact⟨rfl,.inr ⟨by rw [hE];exact h7,by rw [hE]⟩,Qd HB6.out hb⟩
      ·go_wp2_with (refine wpList_load_mid rfl 38 (.tmp 38) rfl w§ 19 rfl d.pr.vals.toList _ (QE HD5.out 19 d.pr (Uk d)) underlying38 rfl (QD d.pr) ?_;rw [QQ])
       refine c6.mono ?_
       rintro e wf ⟨rfl,hb⟩
       have hE:E=Q8 d.pr bp:=by rw [← HE.out,fs_z h1,fs_z h2,fs_z h3,fs_z h4,fs_z h5,fs_n h6]
       exact⟨rfl,.inr ⟨by rw [hE];exact h6,by rw [hE]⟩,Qd HB5.out hb⟩
     ·go_wp2_with (refine wpList_load_mid rfl 38 (.tmp 33) rfl w§ 11 rfl d.qt.vals.toList _ (QE HD4.out 11 d.qt (Uj d)) underlying38 rfl (QD d.qt) ?_;rw [QQ])
      refine c5.mono ?_
      rintro e wf ⟨rfl,hb⟩
      have hE:E=Q8 d.qt bq:=by rw [← HE.out,fs_z h1,fs_z h2,fs_z h3,fs_z h4,fs_n h5]
      exact⟨rfl,.inr ⟨by rw [hE];exact h5,by rw [hE]⟩,Qd HB4.out hb⟩
    ·go_wp2_with (refine wpList_load_mid rfl 38 (.tmp 28) rfl w§ 3 rfl d.sd.vals.toList _ (QE HD3.out 3 d.sd (Ui d)) underlying38 rfl (QD d.sd) ?_;rw [QQ])
     refine c4.mono ?_
     rintro e wf ⟨rfl,hb⟩
     have hE:E=Q8 d.sd bs:=by rw [← HE.out,fs_z h1,fs_z h2,fs_z h3,fs_n h4]
     exact⟨rfl,.inr ⟨by rw [hE];exact h4,by rw [hE]⟩,Qd HB3.out hb⟩
   ·go_wp2_with fail
    refine c3.mono ?_
    rintro e wf ⟨rfl,hb⟩
    have hE:E=okE B3:=by rw [← HE.out,fs_z h1,fs_z h2,fs_n h3]
    exact⟨rfl,.inr ⟨by rw [hE];exact h3,by rw [hE]⟩,Qd HB2.out hb⟩
  ·go_wp2_with fail
   refine c2.mono ?_
   rintro e wf ⟨rfl,hb⟩
   have hE:E=okE B2:=by rw [← HE.out,fs_z h1,fs_n h2]
   exact⟨rfl,.inr ⟨by rw [hE];exact h2,by rw [hE]⟩,Qd HBM.out hb⟩
 ·go_wp2_with fail
  refine c1.mono ?_
  rintro e wf ⟨rfl,hb⟩
  have hE:E=okE B1:=by rw [← HE.out,fs_n h1]
  exact⟨rfl,.inr ⟨by rw [hE];exact h1,by rw [hE]⟩,Qd HB0.out hb⟩
theorem do_ft (d:DoM) (w:yW) (hl:DoL w d) (hz:DoZ d) (ht:Tab w) (hO:ndO d=false) (hN:ndN d=true):QI 222 #[.agg d.vals] w (doE d):=by
 have hb0:=Qb w (.cells d.vals 121)
 have hn0:=Qc w (.cells d.vals 121)
 have HH:Hid (DoL w d∧Tab w∧DoZ d):=⟨hl,ht,hz⟩
 have HN0:=zH hn0
 have HB0:=zH hb0
 have q0:(zA w d.vals 121).cell? w§¢0=some (zU d.k):=Qa hn0 0
 have c0:=JQ 232 d.k 1 6 (zA w d.vals 121) (by simp)
 have cn:=fun v=>Hy d v
 obtain⟨E,eE⟩:∃ E,doE d=E:=jV
 have HE:Hid (doE d=E):=eE
 rw [eE]
 unfold doE at HE
 rw [hO,hN] at HE
 rw [hO,hN] at cn
 obtain⟨B1,eB1⟩:∃ B,decide (1≤d.k∧d.k≤6)=B:=jV
 rw [eB1] at c0 HE
 rw [if_neg (by decide)] at HE
 obtain⟨B2,eB2⟩:∃ B,decide (d.o=0)=B:=jV
 have eB2':(d.o == 0)=B2:=by rw [← eB2];rfl
 rw [eB2] at HE
 rw [if_pos rfl] at HE
 obtain⟨bs,ebs⟩:∃ q,ndS d=q:=jV
 obtain⟨bq,ebq⟩:∃ q,ndQ d=q:=jV
 obtain⟨bp,ebp⟩:∃ q,ndP d=q:=jV
 obtain⟨bv,ebv⟩:∃ q,ndV d=q:=jV
 rw [ebs,ebq,ebp,ebv] at HE
 simp only [ebs,ebq,ebp,ebv] at cn
 clear hl ht hz eE hb0 hn0 hO hN eB1 ebs ebq ebp ebv
 clear eB2
 unfold QI
 go_enter func222,ntmps222
 go_wp2_with fail
 refine c0.mono ?_
 rintro e w0 ⟨rfl,e0⟩
 obtain rfl:=e0.symm
 have c1:=(QK B1 (zA w d.vals 121)).two
 clear c0 e0
 rcases c1 with ⟨h1,c1⟩ | ⟨h1,c1⟩
 ·go_wp2_with fail
  refine c1.mono ?_
  rintro e w1 ⟨rfl,hb⟩
  have HB1:=zH (Qd HB0.out hb)
  have hd1:=(hb.block _ (zJ HN0.out).1).trans HN0.out
  have HD1:=zH hd1
  have cn1:=cn w1
  clear c1 hb hd1 q0 HN0 HB0
  go_wp2_with (refine wpList_load_row rfl 121 (.tmp 1) rfl w§ rfl 121 d.vals (0,0) _ HD1.out underlying121 rfl Qt ?_)
  refine cn1.mono ?_
  rintro e wm ⟨rfl,hb⟩
  have hdm:=(hb.block _ (zJ HD1.out).1).trans HD1.out
  have hbn:=Qb wm (.cells #[.bool false,.bool true,.bool bs,.bool bq,.bool bp,.bool bv] 301)
  have HDM:Hid ((zA wm #[.bool false,.bool true,.bool bs,.bool bq,.bool bp,.bool bv] 301).heap[w§]? = (zC d.vals 121)):=(hbn.block _ (zJ hdm).1).trans hdm
  have HNM:Hid ((zA wm #[.bool false,.bool true,.bool bs,.bool bq,.bool bp,.bool bv] 301).heap[wm§]? = (zC #[.bool false,.bool true,.bool bs,.bool bq,.bool bp,.bool bv] 301)):=Qc _ _
  have HBM:=zH (Qd (Qd HB1.out hb) hbn)
  clear cn1 cn hb hdm hbn HD1 HB1
  go_upto_region 3 with fail
  obtain⟨NM,eNM⟩:∃ q,wm§=q:=jV
  obtain⟨WM,eWM⟩:∃ W,wm.alloc (.cells #[.bool false,.bool true,.bool bs,.bool bq,.bool bp,.bool bv] 301)=W:=jV
  rw [eWM,eNM] at HNM
  rw [eWM] at HDM HBM
  rw [eWM,eNM]
  clear eWM eNM
  have m0:zQ WM NM¢0 (.bool false):=Qa HNM.out 0
  have p1:zQ WM w§¢1 (zU d.o):=Qa HDM.out 1
  have c2:=(QK B2 WM).two
  rcases c2 with ⟨h2,c2⟩ | ⟨h2,c2⟩
  ·go_wp2_with fail
   refine c2.mono ?_
   rintro e w2 ⟨rfl,hb⟩
   have HB2:=zH (Qd HBM.out hb)
   have hdm:=(hb.block _ (zJ HDM.out).1).trans HDM.out
   have hnm:=(hb.block _ (zJ HNM.out).1).trans HNM.out
   have HD2:=zH hdm
   have HN2:=zH hnm
   have m1:zQ w2 NM¢1 (.bool true):=Qa hnm 1
   have p2:zQ w2 w§¢2 (.string d.x):=Qa hdm 2
   clear c2 hb hdm hnm m0 p1 HDM HNM HBM
   have c3:=(Ky (x:=d.x) HH.out.1.2.2.2.2.2.2.2 (HH.out.2.1.on HB2.out)).two
   rcases c3 with ⟨h3,c3⟩ | ⟨h3,c3⟩
   ·go_wp2_with fail
    refine c3.mono ?_
    rintro e w3 ⟨rfl,hb⟩
    have HB3:=zH (Qd HB2.out hb)
    have hdm:=(hb.block _ (zJ HD2.out).1).trans HD2.out
    have hnm:=(hb.block _ (zJ HN2.out).1).trans HN2.out
    have HD3:=zH hdm
    have HN3:=zH hnm
    have m2:zQ w3 NM¢2 (.bool bs):=Qa hnm 2
    clear c3 hb hdm hnm m1 p2 HD2 HN2
    have c4:=(QN d.sd bs w3 (HH.out.1.1.on HB3.out) HH.out.2.2.1 (HH.out.2.1.on HB3.out)).two
    rcases c4 with ⟨h4,c4⟩ | ⟨h4,c4⟩
    ·go_wp2_with (refine wpList_load_mid rfl 38 (.tmp 28) rfl w§ 3 rfl d.sd.vals.toList _ (QE HD3.out 3 d.sd (Ui d)) underlying38 rfl (QD d.sd) ?_;rw [QQ])
     refine c4.mono ?_
     rintro e w4 ⟨rfl,hb⟩
     have HB4:=zH (Qd HB3.out hb)
     have hdm:=(hb.block _ (zJ HD3.out).1).trans HD3.out
     have hnm:=(hb.block _ (zJ HN3.out).1).trans HN3.out
     have HD4:=zH hdm
     have HN4:=zH hnm
     have m3:zQ w4 NM¢3 (.bool bq):=Qa hnm 3
     clear c4 hb hdm hnm m2 HD3 HN3
     have c5:=(QN d.qt bq w4 (HH.out.1.2.1.on HB4.out) HH.out.2.2.2.1 (HH.out.2.1.on HB4.out)).two
     rcases c5 with ⟨h5,c5⟩ | ⟨h5,c5⟩
     ·go_wp2_with (refine wpList_load_mid rfl 38 (.tmp 33) rfl w§ 11 rfl d.qt.vals.toList _ (QE HD4.out 11 d.qt (Uj d)) underlying38 rfl (QD d.qt) ?_;rw [QQ])
      refine c5.mono ?_
      rintro e w5 ⟨rfl,hb⟩
      have HB5:=zH (Qd HB4.out hb)
      have hdm:=(hb.block _ (zJ HD4.out).1).trans HD4.out
      have hnm:=(hb.block _ (zJ HN4.out).1).trans HN4.out
      have HD5:=zH hdm
      have HN5:=zH hnm
      have m4:zQ w5 NM¢4 (.bool bp):=Qa hnm 4
      clear c5 hb hdm hnm m3 HD4 HN4
      have c6:=(QN d.pr bp w5 (HH.out.1.2.2.1.on HB5.out) HH.out.2.2.2.2.1 (HH.out.2.1.on HB5.out)).two
      rcases c6 with ⟨h6,c6⟩ | ⟨h6,c6⟩
      ·go_wp2_with (refine wpList_load_mid rfl 38 (.tmp 38) rfl w§ 19 rfl d.pr.vals.toList _ (QE HD5.out 19 d.pr (Uk d)) underlying38 rfl (QD d.pr) ?_;rw [QQ])
       refine c6.mono ?_
       rintro e w6 ⟨rfl,hb⟩
       have HB6:=zH (Qd HB5.out hb)
       have hdm:=(hb.block _ (zJ HD5.out).1).trans HD5.out
       have hnm:=(hb.block _ (zJ HN5.out).1).trans HN5.out
       have HD6:=zH hdm
       have HN6:=zH hnm
       have m5:zQ w6 NM¢5 (.bool bv):=Qa hnm 5
       clear c6 hb hdm hnm m4 HD5 HN5
       have c7:=(QN d.vl bv w6 (HH.out.1.2.2.2.1.on HB6.out) HH.out.2.2.2.2.2 (HH.out.2.1.on HB6.out)).two
       rcases c7 with ⟨h7,c7⟩ | ⟨h7,c7⟩
       ·go_wp2_with (refine wpList_load_mid rfl 38 (.tmp 43) rfl w§ 27 rfl d.vl.vals.toList _ (QE HD6.out 27 d.vl (Uh d)) underlying38 rfl (QD d.vl) ?_;rw [QQ])
        refine c7.mono ?_
        rintro e w7 ⟨rfl,hb⟩
        have HB7:=zH (Qd HB6.out hb)
        clear c7 hb
        go_wp2_with fail
        go_end0
        exact⟨.inl ⟨by rw [← HE.out,fs_z h1,fs_z h2,fs_z h3,fs_z h4,fs_z h5,fs_z h6];exact h7,rfl⟩,HB7.out⟩
       ·go_wp2_with (refine wpList_load_mid rfl 38 (.tmp 43) rfl w§ 27 rfl d.vl.vals.toList _ (QE HD6.out 27 d.vl (Uh d)) underlying38 rfl (QD d.vl) ?_;rw [QQ])
        refine c7.mono ?_
        rintro e wf ⟨rfl,hb⟩
        have hE:E=Q8 d.vl bv:=by rw [← HE.out,fs_z h1,fs_z h2,fs_z h3,fs_z h4,fs_z h5,fs_z h6]
        exact⟨rfl,.inr ⟨by rw [hE];exact h7,by rw [hE]⟩,Qd HB6.out hb⟩
      ·go_wp2_with (refine wpList_load_mid rfl 38 (.tmp 38) rfl w§ 19 rfl d.pr.vals.toList _ (QE HD5.out 19 d.pr (Uk d)) underlying38 rfl (QD d.pr) ?_;rw [QQ])
       refine c6.mono ?_
       rintro e wf ⟨rfl,hb⟩
       have hE:E=Q8 d.pr bp:=by rw [← HE.out,fs_z h1,fs_z h2,fs_z h3,fs_z h4,fs_z h5,fs_n h6]
       exact⟨rfl,.inr ⟨by rw [hE];exact h6,by rw [hE]⟩,Qd HB5.out hb⟩
     ·go_wp2_with (refine wpList_load_mid rfl 38 (.tmp 33) rfl w§ 11 rfl d.qt.vals.toList _ (QE HD4.out 11 d.qt (Uj d)) underlying38 rfl (QD d.qt) ?_;rw [QQ])
      refine c5.mono ?_
      rintro e wf ⟨rfl,hb⟩
      have hE:E=Q8 d.qt bq:=by rw [← HE.out,fs_z h1,fs_z h2,fs_z h3,fs_z h4,fs_n h5]
      exact⟨rfl,.inr ⟨by rw [hE];exact h5,by rw [hE]⟩,Qd HB4.out hb⟩
    ·go_wp2_with (refine wpList_load_mid rfl 38 (.tmp 28) rfl w§ 3 rfl d.sd.vals.toList _ (QE HD3.out 3 d.sd (Ui d)) underlying38 rfl (QD d.sd) ?_;rw [QQ])
     refine c4.mono ?_
     rintro e wf ⟨rfl,hb⟩
     have hE:E=Q8 d.sd bs:=by rw [← HE.out,fs_z h1,fs_z h2,fs_z h3,fs_n h4]
     exact⟨rfl,.inr ⟨by rw [hE];exact h4,by rw [hE]⟩,Qd HB3.out hb⟩
   ·go_wp2_with fail
    refine c3.mono ?_
    rintro e wf ⟨rfl,hb⟩
    have hE:E=(namE d.x):=by rw [← HE.out,fs_z h1,fs_z h2,fs_n h3]
    exact⟨rfl,.inr ⟨by rw [hE];exact h3,by rw [hE]⟩,Qd HB2.out hb⟩
  ·go_wp2_with fail
   refine c2.mono ?_
   rintro e wf ⟨rfl,hb⟩
   have hE:E=okE B2:=by rw [← HE.out,fs_z h1,fs_n h2]
   exact⟨rfl,.inr ⟨by rw [hE];exact h2,by rw [hE]⟩,Qd HBM.out hb⟩
 ·go_wp2_with fail
  refine c1.mono ?_
  rintro e wf ⟨rfl,hb⟩
  have hE:E=okE B1:=by rw [← HE.out,fs_n h1]
  exact⟨rfl,.inr ⟨by rw [hE];exact h1,by rw [hE]⟩,Qd HB0.out hb⟩
theorem do_ff (d:DoM) (w:yW) (hl:DoL w d) (hz:DoZ d) (ht:Tab w) (hO:ndO d=false) (hN:ndN d=false):QI 222 #[.agg d.vals] w (doE d):=by
 have hb0:=Qb w (.cells d.vals 121)
 have hn0:=Qc w (.cells d.vals 121)
 have HH:Hid (DoL w d∧Tab w∧DoZ d):=⟨hl,ht,hz⟩
 have HN0:=zH hn0
 have HB0:=zH hb0
 have q0:(zA w d.vals 121).cell? w§¢0=some (zU d.k):=Qa hn0 0
 have c0:=JQ 232 d.k 1 6 (zA w d.vals 121) (by simp)
 have cn:=fun v=>Hy d v
 obtain⟨E,eE⟩:∃ E,doE d=E:=jV
 have HE:Hid (doE d=E):=eE
 rw [eE]
 unfold doE at HE
 rw [hO,hN] at HE
 rw [hO,hN] at cn
 obtain⟨B1,eB1⟩:∃ B,decide (1≤d.k∧d.k≤6)=B:=jV
 rw [eB1] at c0 HE
 rw [if_neg (by decide)] at HE
 obtain⟨B2,eB2⟩:∃ B,decide (d.o=0)=B:=jV
 have eB2':(d.o == 0)=B2:=by rw [← eB2];rfl
 rw [eB2] at HE
 rw [if_neg (by decide)] at HE
 obtain⟨B3,eB3⟩:∃ B,d.x.toList.isEmpty=B:=jV
 rw [eB3] at HE
 obtain⟨bs,ebs⟩:∃ q,ndS d=q:=jV
 obtain⟨bq,ebq⟩:∃ q,ndQ d=q:=jV
 obtain⟨bp,ebp⟩:∃ q,ndP d=q:=jV
 obtain⟨bv,ebv⟩:∃ q,ndV d=q:=jV
 rw [ebs,ebq,ebp,ebv] at HE
 simp only [ebs,ebq,ebp,ebv] at cn
 clear hl ht hz eE hb0 hn0 hO hN eB1 ebs ebq ebp ebv
 clear eB2
 unfold QI
 go_enter func222,ntmps222
 go_wp2_with fail
 refine c0.mono ?_
 rintro e w0 ⟨rfl,e0⟩
 obtain rfl:=e0.symm
 have c1:=(QK B1 (zA w d.vals 121)).two
 clear c0 e0
 rcases c1 with ⟨h1,c1⟩ | ⟨h1,c1⟩
 ·go_wp2_with fail
  refine c1.mono ?_
  rintro e w1 ⟨rfl,hb⟩
  have HB1:=zH (Qd HB0.out hb)
  have hd1:=(hb.block _ (zJ HN0.out).1).trans HN0.out
  have HD1:=zH hd1
  have cn1:=cn w1
  clear c1 hb hd1 q0 HN0 HB0
  go_wp2_with (refine wpList_load_row rfl 121 (.tmp 1) rfl w§ rfl 121 d.vals (0,0) _ HD1.out underlying121 rfl Qt ?_)
  refine cn1.mono ?_
  rintro e wm ⟨rfl,hb⟩
  have hdm:=(hb.block _ (zJ HD1.out).1).trans HD1.out
  have hbn:=Qb wm (.cells #[.bool false,.bool false,.bool bs,.bool bq,.bool bp,.bool bv] 301)
  have HDM:Hid ((zA wm #[.bool false,.bool false,.bool bs,.bool bq,.bool bp,.bool bv] 301).heap[w§]? = (zC d.vals 121)):=(hbn.block _ (zJ hdm).1).trans hdm
  have HNM:Hid ((zA wm #[.bool false,.bool false,.bool bs,.bool bq,.bool bp,.bool bv] 301).heap[wm§]? = (zC #[.bool false,.bool false,.bool bs,.bool bq,.bool bp,.bool bv] 301)):=Qc _ _
  have HBM:=zH (Qd (Qd HB1.out hb) hbn)
  clear cn1 cn hb hdm hbn HD1 HB1
  go_upto_region 3 with fail
  obtain⟨NM,eNM⟩:∃ q,wm§=q:=jV
  obtain⟨WM,eWM⟩:∃ W,wm.alloc (.cells #[.bool false,.bool false,.bool bs,.bool bq,.bool bp,.bool bv] 301)=W:=jV
  rw [eWM,eNM] at HNM
  rw [eWM] at HDM HBM
  rw [eWM,eNM]
  clear eWM eNM
  have m0:zQ WM NM¢0 (.bool false):=Qa HNM.out 0
  have p1:zQ WM w§¢1 (zU d.o):=Qa HDM.out 1
  have c2:=(QK B2 WM).two
  rcases c2 with ⟨h2,c2⟩ | ⟨h2,c2⟩
  ·go_wp2_with fail
   refine c2.mono ?_
   rintro e w2 ⟨rfl,hb⟩
   have HB2:=zH (Qd HBM.out hb)
   have hdm:=(hb.block _ (zJ HDM.out).1).trans HDM.out
   have hnm:=(hb.block _ (zJ HNM.out).1).trans HNM.out
   have HD2:=zH hdm
   have HN2:=zH hnm
   have m1:zQ w2 NM¢1 (.bool false):=Qa hnm 1
   have p2:zQ w2 w§¢2 (.string d.x):=Qa hdm 2
   clear c2 hb hdm hnm m0 p1 HDM HNM HBM
   have c3:=(QK B3 w2).two
   rcases c3 with ⟨h3,c3⟩ | ⟨h3,c3⟩
   ·go_wp2_with fail
    refine c3.mono ?_
    rintro e w3 ⟨rfl,hb⟩
    have HB3:=zH (Qd HB2.out hb)
    have hdm:=(hb.block _ (zJ HD2.out).1).trans HD2.out
    have hnm:=(hb.block _ (zJ HN2.out).1).trans HN2.out
    have HD3:=zH hdm
    have HN3:=zH hnm
    have m2:zQ w3 NM¢2 (.bool bs):=Qa hnm 2
    clear c3 hb hdm hnm m1 p2 HD2 HN2
    have c4:=(QN d.sd bs w3 (HH.out.1.1.on HB3.out) HH.out.2.2.1 (HH.out.2.1.on HB3.out)).two
    rcases c4 with ⟨h4,c4⟩ | ⟨h4,c4⟩
    ·go_wp2_with (refine wpList_load_mid rfl 38 (.tmp 28) rfl w§ 3 rfl d.sd.vals.toList _ (QE HD3.out 3 d.sd (Ui d)) underlying38 rfl (QD d.sd) ?_;rw [QQ])
     refine c4.mono ?_
     rintro e w4 ⟨rfl,hb⟩
     have HB4:=zH (Qd HB3.out hb)
     have hdm:=(hb.block _ (zJ HD3.out).1).trans HD3.out
     have hnm:=(hb.block _ (zJ HN3.out).1).trans HN3.out
     have HD4:=zH hdm
     have HN4:=zH hnm
     have m3:zQ w4 NM¢3 (.bool bq):=Qa hnm 3
     clear c4 hb hdm hnm m2 HD3 HN3
     have c5:=(QN d.qt bq w4 (HH.out.1.2.1.on HB4.out) HH.out.2.2.2.1 (HH.out.2.1.on HB4.out)).two
     rcases c5 with ⟨h5,c5⟩ | ⟨h5,c5⟩
     ·go_wp2_with (refine wpList_load_mid rfl 38 (.tmp 33) rfl w§ 11 rfl d.qt.vals.toList _ (QE HD4.out 11 d.qt (Uj d)) underlying38 rfl (QD d.qt) ?_;rw [QQ])
      refine c5.mono ?_
      rintro e w5 ⟨rfl,hb⟩
      have HB5:=zH (Qd HB4.out hb)
      have hdm:=(hb.block _ (zJ HD4.out).1).trans HD4.out
      have hnm:=(hb.block _ (zJ HN4.out).1).trans HN4.out
      have HD5:=zH hdm
      have HN5:=zH hnm
      have m4:zQ w5 NM¢4 (.bool bp):=Qa hnm 4
      clear c5 hb hdm hnm m3 HD4 HN4
      have c6:=(QN d.pr bp w5 (HH.out.1.2.2.1.on HB5.out) HH.out.2.2.2.2.1 (HH.out.2.1.on HB5.out)).two
      rcases c6 with ⟨h6,c6⟩ | ⟨h6,c6⟩
      ·go_wp2_with (refine wpList_load_mid rfl 38 (.tmp 38) rfl w§ 19 rfl d.pr.vals.toList _ (QE HD5.out 19 d.pr (Uk d)) underlying38 rfl (QD d.pr) ?_;rw [QQ])
       refine c6.mono ?_
       rintro e w6 ⟨rfl,hb⟩
       have HB6:=zH (Qd HB5.out hb)
       have hdm:=(hb.block _ (zJ HD5.out).1).trans HD5.out
       have hnm:=(hb.block _ (zJ HN5.out).1).trans HN5.out
       have HD6:=zH hdm
       have HN6:=zH hnm
       have m5:zQ w6 NM¢5 (.bool bv):=Qa hnm 5
       clear c6 hb hdm hnm m4 HD5 HN5
       have c7:=(QN d.vl bv w6 (HH.out.1.2.2.2.1.on HB6.out) HH.out.2.2.2.2.2 (HH.out.2.1.on HB6.out)).two
       rcases c7 with ⟨h7,c7⟩ | ⟨h7,c7⟩
       ·go_wp2_with (refine wpList_load_mid rfl 38 (.tmp 43) rfl w§ 27 rfl d.vl.vals.toList _ (QE HD6.out 27 d.vl (Uh d)) underlying38 rfl (QD d.vl) ?_;rw [QQ])
        refine c7.mono ?_
        rintro e w7 ⟨rfl,hb⟩
        have HB7:=zH (Qd HB6.out hb)
        clear c7 hb
        go_wp2_with fail
        go_end0
        exact⟨.inl ⟨by rw [← HE.out,fs_z h1,fs_z h2,fs_z h3,fs_z h4,fs_z h5,fs_z h6];exact h7,rfl⟩,HB7.out⟩
       ·go_wp2_with (refine wpList_load_mid rfl 38 (.tmp 43) rfl w§ 27 rfl d.vl.vals.toList _ (QE HD6.out 27 d.vl (Uh d)) underlying38 rfl (QD d.vl) ?_;rw [QQ])
        refine c7.mono ?_
        rintro e wf ⟨rfl,hb⟩
        have hE:E=Q8 d.vl bv:=by rw [← HE.out,fs_z h1,fs_z h2,fs_z h3,fs_z h4,fs_z h5,fs_z h6]
        exact⟨rfl,.inr ⟨by rw [hE];exact h7,by rw [hE]⟩,Qd HB6.out hb⟩
      ·go_wp2_with (refine wpList_load_mid rfl 38 (.tmp 38) rfl w§ 19 rfl d.pr.vals.toList _ (QE HD5.out 19 d.pr (Uk d)) underlying38 rfl (QD d.pr) ?_;rw [QQ])
       refine c6.mono ?_
       rintro e wf ⟨rfl,hb⟩
       have hE:E=Q8 d.pr bp:=by rw [← HE.out,fs_z h1,fs_z h2,fs_z h3,fs_z h4,fs_z h5,fs_n h6]
       exact⟨rfl,.inr ⟨by rw [hE];exact h6,by rw [hE]⟩,Qd HB5.out hb⟩
     ·go_wp2_with (refine wpList_load_mid rfl 38 (.tmp 33) rfl w§ 11 rfl d.qt.vals.toList _ (QE HD4.out 11 d.qt (Uj d)) underlying38 rfl (QD d.qt) ?_;rw [QQ])
      refine c5.mono ?_
      rintro e wf ⟨rfl,hb⟩
      have hE:E=Q8 d.qt bq:=by rw [← HE.out,fs_z h1,fs_z h2,fs_z h3,fs_z h4,fs_n h5]
      exact⟨rfl,.inr ⟨by rw [hE];exact h5,by rw [hE]⟩,Qd HB4.out hb⟩
    ·go_wp2_with (refine wpList_load_mid rfl 38 (.tmp 28) rfl w§ 3 rfl d.sd.vals.toList _ (QE HD3.out 3 d.sd (Ui d)) underlying38 rfl (QD d.sd) ?_;rw [QQ])
     refine c4.mono ?_
     rintro e wf ⟨rfl,hb⟩
     have hE:E=Q8 d.sd bs:=by rw [← HE.out,fs_z h1,fs_z h2,fs_z h3,fs_n h4]
     exact⟨rfl,.inr ⟨by rw [hE];exact h4,by rw [hE]⟩,Qd HB3.out hb⟩
   ·go_wp2_with fail
    refine c3.mono ?_
    rintro e wf ⟨rfl,hb⟩
    have hE:E=okE B3:=by rw [← HE.out,fs_z h1,fs_z h2,fs_n h3]
    exact⟨rfl,.inr ⟨by rw [hE];exact h3,by rw [hE]⟩,Qd HB2.out hb⟩
  ·go_wp2_with fail
   refine c2.mono ?_
   rintro e wf ⟨rfl,hb⟩
   have hE:E=okE B2:=by rw [← HE.out,fs_z h1,fs_n h2]
   exact⟨rfl,.inr ⟨by rw [hE];exact h2,by rw [hE]⟩,Qd HBM.out hb⟩
 ·go_wp2_with fail
  refine c1.mono ?_
  rintro e wf ⟨rfl,hb⟩
  have hE:E=okE B1:=by rw [← HE.out,fs_n h1]
  exact⟨rfl,.inr ⟨by rw [hE];exact h1,by rw [hE]⟩,Qd HB0.out hb⟩
theorem Qe8 (d:DoM) (w:yW) (hl:DoL w d) (hz:DoZ d) (ht:Tab w):QI 222 #[.agg d.vals] w (doE d):=by
 cases hO:ndO d <;> cases hN:ndN d
 ·exact do_ff d w hl hz ht hO hN
 ·exact do_ft d w hl hz ht hO hN
 ·exact do_tf d w hl hz ht hO hN
 ·exact do_tt d w hl hz ht hO hN
end Go.Proofs.YtfbjofnaghjmeaaGreatDoor
