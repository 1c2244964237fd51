import Derived.Test.YtfbjofnaghjmeaaGreatDoorA0
import Derived.Test.YtfbjofnaghjmeaaGreatDoorA33
import Derived.Test.YtfbjofnaghjmeaaGreatDoorA26
namespace Go.Proofs.YtfbjofnaghjmeaaGreatDoor
set_option maxHeartbeats 16000000
set_option maxRecDepth 100000
open Go Go.RowKit
set_option linter.unusedVariables false
set_option linter.unusedSimpArgs false
theorem size31 (s:Sx.Sn):(Tryz.prog.info? 31).map (·.size)=some (Sx.snA s).size:=by show _=some 6; kernel_rfl
theorem size26 (S:StratM):(Tryz.prog.info? 26).map (·.size)=some S.vals.size:=by show _=some 4; kernel_rfl
def siA (s:Sx.Sn) (rb n mb:Nat):Array Value:=#[zI s.bid,zI s.ask,zI s.last,zI s.vol,zI s.now,zI s.opn,.slice (some rb¢0) n n,.map (some mb)]
def si0:Array Value:=zv
theorem size91 (s:Sx.Sn) (rb n mb:Nat):(Tryz.prog.info? 91).map (·.size)=some (siA s rb n mb).size:=by show _=some 8; kernel_rfl
theorem all91 (s:Sx.Sn) (rb n mb:Nat):(siA s rb n mb).all (·.oneCell')=true:=by simp [siA,Value.oneCell']
structure Bx3 (w:yW) (S:StratM) (m:ModM) (s:Sx.Sn) (g:Nat):Prop where
 a:w.heap[g]? = (zC S.vals 26)
 b:w.heap[g+1]? = (zC m.vals 29)
 c:w.heap[g+2]? = (zC (Sx.snA s) 31)
theorem Bx3.on {w w':yW}{S:StratM}{m:ModM}{s:Sx.Sn}{g:Nat}(h:Bx3 w S m s g) (k:yD w w'):Bx3 w' S m s g:=⟨heapOf k h.a,heapOf k h.b,heapOf k h.c⟩
theorem bx3_new (w:yW) (S:StratM) (m:ModM) (s:Sx.Sn):Bx3 (((w.alloc (.cells S.vals 26)).alloc (.cells m.vals 29)).alloc (.cells (Sx.snA s) 31)) S m s w§∧yD w (((w.alloc (.cells S.vals 26)).alloc (.cells m.vals 29)).alloc (.cells (Sx.snA s) 31))∧(((w.alloc (.cells S.vals 26)).alloc (.cells m.vals 29)).alloc (.cells (Sx.snA s) 31))§=w§+3:=by
 have b1:=below_new w (.cells S.vals 26)
 have b2:=below_new (w.alloc (.cells S.vals 26)) (.cells m.vals 29)
 have b3:=below_new ((w.alloc (.cells S.vals 26)).alloc (.cells m.vals 29)) (.cells (Sx.snA s) 31)
 have n1:=heap_new w (.cells S.vals 26)
 have n2:=heap_new (w.alloc (.cells S.vals 26)) (.cells m.vals 29)
 have n3:=heap_new ((w.alloc (.cells S.vals 26)).alloc (.cells m.vals 29)) (.cells (Sx.snA s) 31)
 rw [size_alloc] at n2
 rw [size_alloc,size_alloc] at n3
 exact⟨⟨heapOf b3 (heapOf b2 n1),heapOf b3 n2,n3⟩,below2 b1 (below2 b2 b3),by rw [size_alloc,size_alloc,size_alloc]⟩
theorem look_any (S:StratM) (m:ModM) (s:Sx.Sn) (w:yW) (hl:StratL w S) (hx:∀ d ∈ S.rs,d.x.size≤maxLen) (hm:ModL w m) (hn:m.rg.length≤65536) :
  Calls zG 34 #[.agg S.vals,.agg m.vals,.agg (Sx.snA s)] w fun e w'=>∃ rb mb,e=.returned (.agg (siA s rb m.rg.length mb))∧w§≤rb∧w§≤mb∧w'.heap[rb]? = (zC (intsA m.rg) 2)∧PlM w' mb (plL (S.rs.map RegM.x))∧yD w w':=by
 obtain⟨h3,hb3,hz3⟩:=bx3_new w S m s
 obtain⟨W3,e3⟩:∃ W,((w.alloc (.cells S.vals 26)).alloc (.cells m.vals 29)).alloc (.cells (Sx.snA s) 31)=W:=⟨_,rfl⟩
 rw [e3] at h3 hb3 hz3
 have b4:=below_new W3 (.cells si0 91)
 have n4:=heap_new W3 (.cells si0 91)
 rw [hz3] at n4
 obtain⟨W4,e4⟩:∃ W,W3.alloc (.cells si0 91)=W:=⟨_,rfl⟩
 rw [e4] at b4 n4
 have E4:Hid ((((w.alloc (.cells S.vals 26)).alloc (.cells m.vals 29)).alloc (.cells (Sx.snA s) 31)).alloc (.cells si0 91)=W4):=by show _=_; rw [e3,e4]
 have HB:Hid (yD w W4):=below2 hb3 b4
 have H3:Hid (Bx3 W4 S m s w§):=h3.on b4
 have HN:Hid (W4.heap[w§+3]? = (zC si0 91)):=n4
 have HL:Hid (StratL w S∧(∀ d ∈ S.rs,d.x.size≤maxLen)∧ModL w m∧m.rg.length≤65536):=⟨hl,hx,hm,hn⟩
 have cC:Calls zG 49 #[.agg m.vals] W4.drew fun e w'=>∃ b,e=.returned (.agg #[zI m.st,.slice (some b¢0) m.rg.length m.rg.length])∧W4.drew§≤b∧w'.heap[b]? = (zC (intsA m.rg) 2)∧Below W4.drew§ W4.drew w':=copied_any m W4.drew (hm.on (HB.out.trans ((drew_below W4).mono HB.out.size))) hn
 clear h3 hb3 hz3 e3 b4 n4 e4 hl hx hm hn
 unfold si0 at *
 go_enter Tryz.func34,Tryz.ntmps34
 go_upto_region 1 with fail
 rw [show (((w.alloc (.cells S.vals 26)).alloc (.cells m.vals 29)).alloc (.cells (Sx.snA s) 31)).alloc (.cells zv 91)=W4 from E4.out]
 clear E4
 obtain⟨g,eg⟩:∃ g,w§=g:=⟨_,rfl⟩
 rw [eg] at H3 HN ⊢
 have HG:Hid (w§=g):=eg
 clear eg
 refine (?_:∀ Q',Hid (Q'=_)→Code.wp _ _ Q' _ _) _ rfl
 intro Q' HQ'
 have HPn:Hid (∀ p (d:Nat) v a w,Q' (.panic p) (Act.put a (some d) v) w→Q' (.panic p) a w):=by rw [HQ'.out]; exact fun _ _ _ _ _ h=>h
 refine wp_region_T (t:=99) (S:=fun u=>Bx3 u S m s g) zK (H3.out.on (drew_below W4)) (fun hHeld=>?_)
 refine wpAnyT_take (i:=0) (v:=_) rfl zK zK zK zK (fun c a w h=>HPn.out c _ _ a w h) (yl_row (by rfl) 31 (.tmp 5) rfl (g+2) rfl 31 (Sx.snA s) (0,0) _ (fun v hv=>hv.c) Tryz.underlying31 rfl (size31 s)) (by assumption) ?_
 try simp [Act.put]
 refine wpAnyT_take (i:=1) (v:=_) rfl zK zK zK zK (fun c a w h=>HPn.out c _ _ a w h) (yl_row (by rfl) 29 (.tmp 4) rfl (g+1) rfl 29 m.vals (0,0) _ (fun v hv=>hv.b) Tryz.underlying29 rfl (size29 m)) (by assumption) ?_
 try simp [Act.put]
 refine wpAnyT_take (i:=4) (v:=?_) rfl zK zK zK zK (fun c a w h=>HPn.out c _ _ a w h) (Or.inl ⟨by rfl,?_⟩) (by assumption) ?_
 rotate_left
 ·(intro v hv; go_simp; try (with_reducible rfl))
 try simp [Act.put]
 refine wpAnyT_take (i:=5) (v:=?_) rfl zK zK zK zK (fun c a w h=>HPn.out c _ _ a w h) (Or.inl ⟨by rfl,?_⟩) (by assumption) ?_
 rotate_left
 ·(intro v hv; have c1:v.cell? g¢1=some (.slice S.ra S.rs.length S.rc):=cell_of hv.a 1; clear hv; go_simp; try (with_reducible rfl))
 try simp [Act.put]
 refine wpAnyT_one (i:=2) zK rfl (fun K hK=>?_)
 go_simp
 refine cC.mono ?_
 rintro e w1 ⟨rb,rfl,hr1,hr2,hb1⟩
 have HB1:Hid (yD w w1):=HB.out.trans (((drew_below W4).trans hb1).mono HB.out.size)
 have HRB:Hid (w§≤rb∧w1.heap[rb]? = (zC (intsA m.rg) 2)):=⟨Nat.le_trans HB.out.size hr1,hr2⟩
 have H31:Hid (Bx3 w1 S m s g):=(H3.out.on (drew_below W4)).on hb1
 have HN1:Hid (w1.heap[g+3]? = (zC zv 91)):=heapOf hb1 (heapOf (drew_below W4) HN.out)
 clear cC hr1 hr2 hb1
 go_simp
 refine hK.out _ _ (fun _=>H31.out) ?_
 clear hK K
 try simp [Act.put]
 have hF:∀ v:yW,Sem.run Tryz.prog (Instr.field 29 (.agg #[zI m.st,.slice (some rb¢0) m.rg.length m.rg.length]) 1) v=.ok (.slice (some rb¢0) m.rg.length m.rg.length) v:=fun v=>by kernel_rfl
 refine wpAnyT_take (i:=3) (v:=?_) rfl zK zK zK zK (fun c a w h=>HPn.out c _ _ a w h) (Or.inl ⟨by rfl,?_⟩) (by assumption) ?_
 rotate_left
 ·(intro v hv; go_simp; try (with_reducible rfl))
 try simp [Act.put]
 have cP:Calls zG 65 #[.slice S.ra S.rs.length S.rc,.func (.func 66) #[] #[]] w1 fun e w'=>∃ b,e=.returned (.map (some b))∧w1§≤b∧PlM w' b (plL (S.rs.map RegM.x))∧yD w1 w':=places_reg S.ra S.rc S.rs w1 (HL.out.1.on HB1.out).1 HL.out.2.1
 refine wpAnyT_one (i:=6) zK rfl (fun K hK=>?_)
 go_simp
 refine cP.mono ?_
 rintro e w2 ⟨mb,rfl,hm1,hm2,hb2⟩
 have HB2:Hid (yD w w2):=below2 HB1.out hb2
 have HRB2:Hid (w2.heap[rb]? = (zC (intsA m.rg) 2)):=heapOf hb2 HRB.out.2
 have HMB:Hid (w§≤mb∧PlM w2 mb (plL (S.rs.map RegM.x))):=⟨Nat.le_trans HB1.out.size hm1,hm2⟩
 have H32:Hid (Bx3 w2 S m s g):=H31.out.on hb2
 have HN2:Hid (w2.heap[g+3]? = (zC zv 91)):=heapOf hb2 HN1.out
 clear cP hm1 hm2 hb2
 go_simp
 refine hK.out _ _ (fun _=>H32.out) ?_
 clear hK K
 try simp [Act.put]
 refine wpAnyT_take (i:=7) (v:=?_) rfl zK zK zK zK (fun c a w h=>HPn.out c _ _ a w h) (Or.inl ⟨by rfl,?_⟩) (by assumption) ?_
 rotate_left
 ·(intro v hv; simp only [Sx.snA]; go_simp; try (with_reducible rfl))
 try simp [Act.put]
 refine wpAnyT_one (i:=8) zK rfl (fun K hK=>?_)
 refine step_store_row rfl 91 (.tmp 6) (.tmp 14) rfl (g+3) (siA s rb m.rg.length mb) rfl rfl 91 _ HN2.out (size91 ..) rfl (all91 ..) ?_
 refine hK.out _ _ (fun _=>⟨(setRow_other _ _ _ _ (by omega)).trans H32.out.a,(setRow_other _ _ _ _ (by omega)).trans H32.out.b,(setRow_other _ _ _ _ (by omega)).trans H32.out.c⟩) ?_
 clear hK K
 try simp [Act.put]
 refine wpAnyT_done zK ?_ _
 rw [HQ'.out]
 clear HQ' HPn Q'
 go_wp2_with fail
 refine bodyPost_ret (results_cell_row rfl _ _ (g+3) 91 (siA s rb m.rg.length mb) (0,0) _ rfl (setRow_heap _ _ _ _ _ _ HN2.out) Tryz.underlying91 rfl (size91 ..)) rfl ⟨rb,mb,rfl,HRB.out.1,HMB.out.1,?_,?_,below_row HB2.out (by rw [HG.out]; omega) _⟩
 ·exact (setRow_other _ _ _ _ (fun e=>by rw [e,HN2.out] at HRB2; exact absurd (Obj.cells.inj (Option.some.inj HRB2.out)).2.1 (by decide))).trans HRB2.out
 ·exact HMB.out.2.blk (setRow_other _ _ _ _ (HMB.out.2.no HN2.out))
theorem plA_lt:∀ (l:List yB) (P:yB→Option Nat) (i:Nat),(∀ y j,P y=some j→j < i)→∀ y j,plA P i l y=some j→j < i+l.length
 | [],P,i,h=>h
 | x :: xs,P,i,h=>fun y j hj=>by
  have:=plA_lt xs (fun y=>if x=y then some i else P y) (i+1) (fun y j hj=>by
   by_cases e:x=y
   ·simp only [e,if_true] at hj; cases hj; omega
   ·simp only [if_neg e] at hj; have:=h y j hj; omega) y j hj
  simp only [List.length_cons]
  omega
theorem plL_lt {l:List yB}{y:yB}{j:Nat}(h:plL l y=some j):j < l.length:=by
 have:=plA_lt l (fun _=>none) 0 (fun y j e=>by cases e) y j h
 omega
theorem plA_keep:∀ (l:List yB) (P:yB→Option Nat) (i:Nat) (y:yB),(P y).isSome=true→(plA P i l y).isSome=true
 | [],P,i,y,h=>h
 | x :: xs,P,i,y,h=>plA_keep xs _ (i+1) y (by by_cases e:x=y <;> simp [e,h])
theorem plA_mem:∀ (l:List yB) (P:yB→Option Nat) (i:Nat) (y:yB),y ∈ l→(plA P i l y).isSome=true
 | x :: xs,P,i,y,h=>by
  rcases List.mem_cons.1 h with e | h1
  ·exact plA_keep xs _ (i+1) y (by simp [e])
  ·exact plA_mem xs _ (i+1) y h1
theorem plL_mem {l:List yB}{y:yB}(h:y ∈ l):(plL l y).isSome=true:=plA_mem l _ 0 y h
def cxOf (S:StratM) (s:Sx.Sn):Cx:=⟨s,plL (S.rs.map RegM.x),plL (S.ss.map SlotM.x),plL (S.ts.map StateM.x),[]⟩
def tmOf (m:ModM):Tm:=⟨m.st,m.rg,[],1⟩
structure NmZ (S:StratM):Prop where
 r:∀ d ∈ S.rs,d.x.size≤maxLen
 s:∀ d ∈ S.ss,d.x.size≤maxLen
 t:∀ d ∈ S.ts,d.x.size≤maxLen
 n:S.ss.length < 1000000000
theorem box117 (v:Array Value) (w:yW):Sem.run Tryz.prog (Instr.box 117 (.agg v)) w=.ok (zP w§) (w.alloc (.cells v 117)):=by first | rfl | simp [go_sem]
theorem begin_any (S:StratM) (m:ModM) (s:Sx.Sn) (w:yW) (hl:StratL w S) (hx:NmZ S) (hm:ModL w m) (hn:m.rg.length≤65536) (he:m.rg.length=S.rs.length) (hi:∀ f,I64 (Sx.getN s f)) :
  Calls zG 45 #[.agg S.vals,.agg m.vals,.agg (Sx.snA s)] w fun e w'=>∃ tb rb mb sb gb,e=.returned (zP tb)∧TnW w§ w'§ (cxOf S s) tb rb mb sb gb w' (.slice none 0 0) (tmOf m)∧yD w w':=by
 obtain⟨h3,hb3,hz3⟩:=bx3_new w S m s
 obtain⟨W3,e3⟩:∃ W,((w.alloc (.cells S.vals 26)).alloc (.cells m.vals 29)).alloc (.cells (Sx.snA s) 31)=W:=⟨_,rfl⟩
 have E3:Hid (((w.alloc (.cells S.vals 26)).alloc (.cells m.vals 29)).alloc (.cells (Sx.snA s) 31)=W3):=e3
 rw [e3] at h3 hb3 hz3
 have HB:Hid (yD w W3):=hb3
 have H3:Hid (Bx3 W3 S m s w§):=h3
 have HL:Hid (StratL w S∧NmZ S∧ModL w m∧m.rg.length≤65536∧m.rg.length=S.rs.length∧∀ f,I64 (Sx.getN s f)):=⟨hl,hx,hm,hn,he,hi⟩
 have cL:Calls zG 34 #[.agg S.vals,.agg m.vals,.agg (Sx.snA s)] W3.drew fun e w'=>∃ rb mb,e=.returned (.agg (siA s rb m.rg.length mb))∧W3.drew§≤rb∧W3.drew§≤mb∧w'.heap[rb]? = (zC (intsA m.rg) 2)∧PlM w' mb (plL (S.rs.map RegM.x))∧Below W3.drew§ W3.drew w' :=
  look_any S m s W3.drew (hl.on (HB.out.trans ((drew_below W3).mono HB.out.size))) hx.r (hm.on (HB.out.trans ((drew_below W3).mono HB.out.size))) hn
 clear h3 hb3 hz3 e3 hl hx hm hn he hi
 go_enter Tryz.func45,Tryz.ntmps45
 go_upto_region 1 with fail
 rw [E3.out]
 clear E3
 obtain⟨g,eg⟩:∃ g,w§=g:=⟨_,rfl⟩
 rw [eg] at H3 ⊢
 have HG:Hid (w§=g):=eg
 clear eg
 refine (?_:∀ Q',Hid (Q'=_)→Code.wp _ _ Q' _ _) _ rfl
 intro Q' HQ'
 have HPn:Hid (∀ p (d:Nat) v a w,Q' (.panic p) (Act.put a (some d) v) w→Q' (.panic p) a w):=by rw [HQ'.out]; exact fun _ _ _ _ _ h=>h
 refine wp_region_T (t:=99) (S:=fun u=>Bx3 u S m s g) zK (H3.out.on (drew_below W3)) (fun hHeld=>?_)
 refine wpAnyT_take (i:=0) (v:=_) rfl zK zK zK zK (fun c a w h=>HPn.out c _ _ a w h) (yl_row (by rfl) 26 (.tmp 3) rfl g rfl 26 S.vals (0,0) _ (fun v hv=>hv.a) Tryz.underlying26 rfl (size26 S)) (by assumption) ?_
 try simp [Act.put]
 refine wpAnyT_take (i:=1) (v:=_) rfl zK zK zK zK (fun c a w h=>HPn.out c _ _ a w h) (yl_row (by rfl) 29 (.tmp 4) rfl (g+1) rfl 29 m.vals (0,0) _ (fun v hv=>hv.b) Tryz.underlying29 rfl (size29 m)) (by assumption) ?_
 try simp [Act.put]
 refine wpAnyT_take (i:=2) (v:=_) rfl zK zK zK zK (fun c a w h=>HPn.out c _ _ a w h) (yl_row (by rfl) 31 (.tmp 5) rfl (g+2) rfl 31 (Sx.snA s) (0,0) _ (fun v hv=>hv.c) Tryz.underlying31 rfl (size31 s)) (by assumption) ?_
 try simp [Act.put]
 refine wpAnyT_take (i:=4) (v:=?_) rfl zK zK zK zK (fun c a w h=>HPn.out c _ _ a w h) (Or.inl ⟨by rfl,?_⟩) (by assumption) ?_
 rotate_left
 ·(intro v hv; go_simp; try (with_reducible rfl))
 try simp [Act.put]
 refine wpAnyT_take (i:=5) (v:=?_) rfl zK zK zK zK (fun c a w h=>HPn.out c _ _ a w h) (Or.inl ⟨by rfl,?_⟩) (by assumption) ?_
 rotate_left
 ·(intro v hv; have c1:v.cell? g¢2=some (.slice S.sa S.ss.length S.sc):=cell_of hv.a 2; clear hv; go_simp; try (with_reducible rfl))
 try simp [Act.put]
 refine wpAnyT_take (i:=7) (v:=?_) rfl zK zK zK zK (fun c a w h=>HPn.out c _ _ a w h) (Or.inl ⟨by rfl,?_⟩) (by assumption) ?_
 rotate_left
 ·(intro v hv; go_simp; try (with_reducible rfl))
 try simp [Act.put]
 refine wpAnyT_take (i:=8) (v:=?_) rfl zK zK zK zK (fun c a w h=>HPn.out c _ _ a w h) (Or.inl ⟨by rfl,?_⟩) (by assumption) ?_
 rotate_left
 ·(intro v hv; have c1:v.cell? g¢3=some (.slice S.ta S.ts.length S.tc):=cell_of hv.a 3; clear hv; go_simp; try (with_reducible rfl))
 try simp [Act.put]
 refine wpAnyT_take (i:=10) (v:=?_) rfl zK zK zK zK (fun c a w h=>HPn.out c _ _ a w h) (Or.inl ⟨by rfl,?_⟩) (by assumption) ?_
 rotate_left
 ·(intro v hv; go_simp; try (with_reducible rfl))
 try simp [Act.put]
 refine wpAnyT_take (i:=11) (v:=?_) rfl zK zK zK zK (fun c a w h=>HPn.out c _ _ a w h) (Or.inl ⟨by rfl,?_⟩) (by assumption) ?_
 rotate_left
 ·(intro v hv; have c1:v.cell? ⟨g+1,0,none⟩=some (zI m.st):=cell_of hv.b 0; clear hv; go_simp; try (with_reducible rfl))
 try simp [Act.put]
 refine wpAnyT_one (i:=3) zK rfl (fun K hK=>?_)
 go_simp
 refine cL.mono ?_
 rintro e w1 ⟨rb,mb,rfl,hr1,hm1,hr2,hm2,hb1⟩
 have HB1:Hid (yD w w1):=HB.out.trans (((drew_below W3).trans hb1).mono HB.out.size)
 have HRB:Hid (w§≤rb∧w1.heap[rb]? = (zC (intsA m.rg) 2)):=⟨Nat.le_trans HB.out.size hr1,hr2⟩
 have HMB:Hid (PlM w1 mb (plL (S.rs.map RegM.x))):=hm2
 have H31:Hid (Bx3 w1 S m s g):=(H3.out.on (drew_below W3)).on hb1
 clear cL hr1 hr2 hm1 hm2 hb1
 go_simp
 refine hK.out _ _ (fun _=>H31.out) ?_
 clear hK K
 try simp [Act.put]
 have cP:Calls zG 79 #[.slice S.sa S.ss.length S.sc,.func (.func 80) #[] #[]] w1 fun e w'=>∃ b,e=.returned (.map (some b))∧w1§≤b∧PlM w' b (plL (S.ss.map SlotM.x))∧yD w1 w':=places_slot S.sa S.sc S.ss w1 (HL.out.1.on HB1.out).2.2.1 HL.out.2.1.s
 refine wpAnyT_one (i:=6) zK rfl (fun K hK=>?_)
 go_simp
 refine cP.mono ?_
 rintro e w2 ⟨sb,rfl,hm1,hm2,hb2⟩
 have HB2:Hid (yD w w2):=below2 HB1.out hb2
 have HRB2:Hid (w2.heap[rb]? = (zC (intsA m.rg) 2)):=heapOf hb2 HRB.out.2
 have HMB2:Hid (PlM w2 mb (plL (S.rs.map RegM.x))):=HMB.out.blk (hb2.block _ HMB.out.lt)
 have HSB:Hid (PlM w2 sb (plL (S.ss.map SlotM.x))):=hm2
 have H32:Hid (Bx3 w2 S m s g):=H31.out.on hb2
 clear cP hm1 hm2 hb2
 go_simp
 refine hK.out _ _ (fun _=>H32.out) ?_
 clear hK K
 try simp [Act.put]
 have cP:Calls zG 81 #[.slice S.ta S.ts.length S.tc,.func (.func 82) #[] #[]] w2 fun e w'=>∃ b,e=.returned (.map (some b))∧w2§≤b∧PlM w' b (plL (S.ts.map StateM.x))∧yD w2 w':=places_state S.ta S.tc S.ts w2 (HL.out.1.on HB2.out).2.2.2.2.1 HL.out.2.1.t
 refine wpAnyT_one (i:=9) zK rfl (fun K hK=>?_)
 go_simp
 refine cP.mono ?_
 rintro e w3 ⟨gb,rfl,hm1,hm2,hb3⟩
 have HB3:Hid (yD w w3):=below2 HB2.out hb3
 have HRB3:Hid (w3.heap[rb]? = (zC (intsA m.rg) 2)):=heapOf hb3 HRB2.out
 have HMB3:Hid (PlM w3 mb (plL (S.rs.map RegM.x))):=HMB2.out.blk (hb3.block _ HMB2.out.lt)
 have HSB3:Hid (PlM w3 sb (plL (S.ss.map SlotM.x))):=HSB.out.blk (hb3.block _ HSB.out.lt)
 have HGB3:Hid (PlM w3 gb (plL (S.ts.map StateM.x))):=hm2
 have H33:Hid (Bx3 w3 S m s g):=H32.out.on hb3
 clear cP hm1 hm2 hb3
 go_simp
 refine hK.out _ _ (fun _=>H33.out) ?_
 clear hK K
 try simp [Act.put]
 refine wpAnyT_take (i:=12) (v:=?_) rfl zK zK zK zK (fun c a w h=>HPn.out c _ _ a w h) (Or.inl ⟨by rfl,?_⟩) (by assumption) ?_
 rotate_left
 ·(intro v hv; simp only [siA]; go_simp; try (with_reducible rfl))
 try simp [Act.put]
 have hbx:=fun v w=>box117 v w
 refine wpAnyT_one (i:=13) zK rfl (fun K hK=>?_)
 go_simp
 refine hK.out _ _ (fun _=>H33.out.on (below_new _ _)) ?_
 clear hK K
 try simp [Act.put]
 refine wpAnyT_one (i:=14) zK rfl (fun K hK=>?_)
 go_simp
 refine hK.out _ _ (fun _=>H33.out.on (below_new _ _)) ?_
 clear hK K
 try simp [Act.put]
 refine wpAnyT_done zK ?_ _
 rw [HQ'.out]
 clear HQ' HPn Q'
 have b4:=below_new w3 (.cells (tnA s rb m.rg.length mb sb gb (.slice none 0 0) (tmOf m)) 117)
 have n4:=heap_new w3 (.cells (tnA s rb m.rg.length mb sb gb (.slice none 0 0) (tmOf m)) 117)
 have z4:=size_alloc w3 (.cells (tnA s rb m.rg.length mb sb gb (.slice none 0 0) (tmOf m)) 117)
 obtain⟨W4,e4⟩:∃ W,w3.alloc (.cells (tnA s rb m.rg.length mb sb gb (.slice none 0 0) (tmOf m)) 117)=W:=⟨_,rfl⟩
 rw [e4] at b4 n4 z4
 have hrl:=(zJ HRB3.out).1
 have HT:Hid (TnW w§ W4§ (cxOf S s) w3§ rb mb sb gb W4 (.slice none 0 0) (tmOf m)) :=
  {
   t:=n4
   r:=heapOf b4 HRB3.out
   p:=HMB3.out.blk (b4.block _ HMB3.out.lt)
   s:=HSB3.out.blk (b4.block _ HSB3.out.lt)
   g:=HGB3.out.blk (b4.block _ HGB3.out.lt)
   row:=Row.nil _ _ _ _
   nb:=fun k hk=>by simp [Value.ownBlock] at hk
   sz:=fun y hy=>by cases hy
   bt:=HB3.out.size
   br:=HRB.out.1
   th:=by omega
   rh:=by omega
   mh:=by have:=HMB3.out.lt; omega
   sh:=by have:=HSB3.out.lt; omega
   gh:=by have:=HGB3.out.lt; omega
   hw:=Nat.le_refl _
   ne:=by omega
   pi:=fun y i hy=>by
    have:=plL_lt hy
    rw [List.length_map] at this
    show i < m.rg.length
    rw [HL.out.2.2.2.2.1]; exact this
   si:=fun y i hy=>by
    have:=plL_lt hy
    rw [List.length_map] at this
    have:=HL.out.2.1.n
    omega
   i64:=HL.out.2.2.1.2.1
   fi:=HL.out.2.2.2.2.2
   kp:=fun p hp=>by cases hp }
 have HB4:Hid (yD w W4):=below2 HB3.out b4
 have HW4:Hid (w3.alloc (.cells (tnA s rb m.rg.length mb sb gb (.slice none 0 0) (tmOf m)) 117)=W4):=e4
 unfold tnA tmOf at HW4
 clear b4 n4 z4 e4 hrl hbx
 rw [HW4.out]
 go_wp2_with fail
 go_ret
 exact⟨_,rfl,⟨rb,mb,sb,gb,HT.out⟩,HB4.out⟩
theorem cE_form {m:Nd}(h:cE m=0):formB m=true:=by
 unfold cE at h
 cases e:formB m with
 | true=>rfl
 | false=>rw [e] at h; simp at h
theorem tys_mem {L:yB→Option Int}:∀ (l:List Nd) (ts:List Int),tysR L l=.ok ts→∀ k ∈ l,∃ t,tyR L k=.ok t
 | [],_,_,k,hk=>by cases hk
 | y :: l,ts,h,k,hk=>by
  unfold tysR at h
  cases e:tyR L y with
  | error c=>rw [e] at h; cases h
  | ok t =>
   rw [e] at h
   cases e2:tysR L l with
   | error c=>simp only [e2] at h; cases h
   | ok us =>
    rcases List.mem_cons.1 hk with rfl | hk
    ·exact⟨t,e⟩
    ·exact tys_mem l us e2 k hk
theorem res_ty {L G:yB→Option Int}(hG:∀ y,(L y).isSome=true→(G y).isSome=true):∀ (m:Nd),formB m=true→(∃ t,tyR L m=.ok t)→Res G m:=by
 refine Nd.ind fun h a c ks ih hf hte=>?_
 obtain⟨t,ht⟩:=hte
 simp only [formB,oneH,Bool.and_eq_true] at hf
 unfold tyR at ht
 cases e:tysR L ks with
 | error c=>rw [e] at ht; cases ht
 | ok ts =>
  simp only [e] at ht
  refine .mk h a c ks hf.1.2 (fun hk=>?_) (fun k hk=>ih k hk (formsB_mem ks hf.2 k hk) (tys_mem ks ts e k hk))
  rw [if_pos (by rw [hk]; rfl)] at ht
  cases eL:L h.x with
  | none=>rw [eL] at ht; cases ht
  | some u=>exact hG _ (by rw [eL]; rfl)
theorem ps_mem {L:yB→Option Int}:∀ (l:List (Nd × Int)),psE L l=none→∀ q ∈ l,∃ t,tyR L q.1=.ok t
 | [],_,q,hq=>by cases hq
 | y :: l,h,q,hq=>by
  unfold psE at h
  cases e:pcE L y with
  | some c=>rw [e] at h; cases h
  | none =>
   rw [e] at h
   rcases List.mem_cons.1 hq with rfl | hq
   ·unfold pcE at e
    cases e2:tyR L q.1 with
    | error c=>rw [e2] at e; cases e
    | ok t=>exact⟨t,rfl⟩
   ·exact ps_mem l h q hq
theorem regL_pl {l:List RegM}{y:yB}(h:(regL l y).isSome=true):(plL (l.map RegM.x) y).isSome=true:=by
 unfold regL at h
 rw [Option.isSome_map] at h
 obtain⟨r,hr⟩:=Option.isSome_iff_exists.1 h
 have h1:=List.find?_some hr
 have h2:=List.mem_of_find?_eq_some hr
 have h3:r.x=y:=of_decide_eq_true h1
 exact plL_mem (h3 ▸ List.mem_map.2 ⟨r,h2,rfl⟩)
theorem inS_pl {l:List yB}{y:yB}(h:inS l y=true):(plL l y).isSome=true:=by
 unfold inS at h
 obtain⟨z,hz,e⟩:=List.any_eq_true.1 h
 exact plL_mem ((of_decide_eq_true e) ▸ hz)
theorem gP_some {P:yB→Option Nat}{y:yB}(h:(P y).isSome=true):(gP P y).isSome=true:=by
 unfold gP
 cases e:P y with
 | none=>rw [e] at h; cases h
 | some i=>rfl
theorem part_form {m:Nd}{is:Bool}(h:partE m is=0) (hi:is=true):formB m=true:=by
 unfold partE at h
 rw [if_pos hi] at h
 exact cE_form h
theorem okE_0 {b:Bool}(h:okE b=0):b=true:=by unfold okE at h; cases b with | true=>rfl | false=>simp at h
theorem szx_max {x:yB}(h:SzX x):x.size≤maxLen:=by unfold SzX at h; unfold maxLen; omega
theorem doOk_of {S:StratM}{s:Sx.Sn}{d:DoM}(hz:SzX d.x) (h:doE d=0) (hs:standB (regL S.rs) (S.ss.map SlotM.x) (S.ts.map StateM.x) d.k d.x=true) (hp:psE (regL S.rs) (ptsL (regL S.rs) d)=none):DoOk (cxOf S s) d:=by
 have hr:∀ q ∈ ptsL (regL S.rs) d,Res (gP (cxOf S s).P) q.1:=fun q hq=>by
  refine res_ty (L:=regL S.rs) (fun y hy=>gP_some (regL_pl hy)) q.1 ?_ (ps_mem _ hp q hq)
  unfold doE at h
  have h3:=(fs_0 (fs_0 (fs_0 h).2).2).2
  have a1:=fs_0 h3
  have a2:=fs_0 a1.2
  have a3:=fs_0 a2.2
  rcases pts_mem hq with ⟨e,i⟩ | ⟨e,i⟩ | ⟨e,i⟩ | ⟨e,i⟩ <;> rw [e]
  ·exact part_form a1.1 i
  ·exact part_form a2.1 i
  ·exact part_form a3.1 i
  ·exact part_form a3.2 i
 have hk:1≤d.k∧d.k≤6:=by unfold doE at h; exact of_decide_eq_true (okE_0 (fs_0 h).1)
 refine⟨hk.1,hk.2,szx_max hz,?_,?_,?_,?_,?_⟩
 ·intro h3 hx
  unfold standB at hs
  have C:d.k=1∨d.k=2∨d.k=3:=by omega
  rcases C with e | e | e <;> rw [e] at hs
  ·simp only [hx,Bool.false_or,beq_self_eq_true,if_true] at hs
   exact inS_pl hs
  ·exact inS_pl hs
  ·exact inS_pl hs
 ·intro e
  unfold ptsL at hr
  rw [e,if_pos (by rfl)] at hr
  by_cases ho:d.o=2
  ·rw [if_pos (by rw [ho]; rfl)] at hr
   exact⟨hr (d.sd,6) (by simp),hr (d.qt,2) (by simp),fun k=>absurd ho k⟩
  ·rw [if_neg (by simpa using ho)] at hr
   exact⟨hr (d.sd,6) (by simp),hr (d.qt,2) (by simp),fun _=>hr (d.pr,3) (by simp)⟩
 ·intro e
  unfold ptsL at hr
  rw [e,if_neg (by decide),if_pos (by rfl)] at hr
  exact⟨hr (d.qt,2) (by simp),hr (d.pr,3) (by simp)⟩
 ·intro e
  unfold ptsL at hr
  rw [e,if_neg (by decide),if_neg (by decide),if_pos (by rfl)] at hr
  unfold standB at hs
  rw [e] at hs
  exact⟨regL_pl hs,hr (d.vl,_) (List.mem_singleton.2 rfl)⟩
 ·intro e
  unfold standB at hs
  rw [e] at hs
  exact inS_pl hs
theorem dos_mem {L:yB→Option Int}{S2 S3:List yB}:∀ (ds:List DoM) (en:Bool),dosE L S2 S3 en ds=none→∀ d ∈ ds,standB L S2 S3 d.k d.x=true∧psE L (ptsL L d)=none
 | [],_,_,d,hd=>by cases hd
 | y :: ds,en,h,d,hd=>by
  unfold dosE at h
  cases en with
  | true=>simp at h
  | false =>
   simp only [if_neg (show ¬ (false=true) by decide)] at h
   cases es:standB L S2 S3 y.k y.x with
   | false=>rw [es] at h; simp at h
   | true =>
    rw [es,if_pos rfl] at h
    cases ep:psE L (ptsL L y) with
    | some c=>rw [ep] at h; cases h
    | none =>
     rw [ep] at h
     rcases List.mem_cons.1 hd with rfl | hd
     ·exact⟨es,ep⟩
     ·exact dos_mem ds _ h d hd
theorem rus_mem {L:yB→Option Int}{S2 S3:List yB}:∀ (l:List RuleM),rusE L S2 S3 l=none→∀ r ∈ l,ruE L S2 S3 r=none
 | [],_,r,hr=>by cases hr
 | y :: l,h,r,hr=>by
  cases e:ruE L S2 S3 y with
  | some c=>rw [rusE_some e] at h; cases h
  | none =>
   rw [rusE_none e] at h
   rcases List.mem_cons.1 hr with rfl | hr
   ·exact e
   ·exact rus_mem l h r hr
theorem sts_mem {L:yB→Option Int}{S2 S3:List yB}:∀ (l:List StateM),stsE L S2 S3 l=none→∀ x ∈ l,rusE L S2 S3 x.rs=none
 | [],_,r,hr=>by cases hr
 | y :: l,h,r,hr=>by
  cases e:rusE L S2 S3 y.rs with
  | some c=>rw [stsE_some e] at h; cases h
  | none =>
   rw [stsE_none e] at h
   rcases List.mem_cons.1 hr with rfl | hr
   ·exact e
   ·exact sts_mem l h r hr
theorem chk_parts {S:StratM}(h:chkE S=none):stratE S=0∧decE S=none∧stsE (regL S.rs) (S.ss.map SlotM.x) (S.ts.map StateM.x) S.ts=none:=by
 unfold chkE at h
 by_cases e:stratE S=0
 ·rw [if_pos e] at h
  cases ed:decE S with
  | some c=>rw [ed] at h; cases h
  | none=>rw [ed] at h; exact⟨e,rfl,h⟩
 ·rw [if_neg e] at h; cases h
theorem cnt_0 {n l m:Int}(h:cntE n l m=0):l≤n∧n≤m:=by
 unfold cntE at h
 split at h
 ·simp at h
 ·split at h
  ·simp at h
  ·omega
theorem rlOk_of {S:StratM}{s:Sx.Sn}{w:yW}(hl:StratL w S) (h:chkE S=none):∀ x ∈ S.ts,∀ r ∈ x.rs,RlOk (cxOf S s) r:=fun x hx r hr=>by
 obtain⟨h1,_,h3⟩:=chk_parts h
 have hru:=rus_mem _ (sts_mem _ h3 x hx) r hr
 unfold stratE at h1
 have a1:=fs_0 (fs_0 (fs_0 h1).2).2
 have a2:=(fs_0 (fs_0 (fs_0 a1.2).2).2).2
 have hx0:=fsL_0 _ a2 _ (List.mem_map.2 ⟨x,hx,rfl⟩)
 unfold stateE at hx0
 have hr0:=fsL_0 _ (fs_0 (fs_0 hx0).2).2 _ (List.mem_map.2 ⟨r,hr,rfl⟩)
 unfold ruleE at hr0
 have b1:=fs_0 hr0
 have b2:=fs_0 b1.2
 have hrl:=(hl.2.2.2.2.2.1 x hx).2.1 r hr
 unfold ruE at hru
 cases ep:pcE (regL S.rs) (r.m,5) with
 | some c=>rw [ep] at hru; cases hru
 | none =>
  rw [ep] at hru
  refine⟨?_,fun d hd=>?_,?_⟩
  ·refine res_ty (L:=regL S.rs) (fun y hy=>gP_some (regL_pl hy)) r.m (cE_form b1.1) ?_
   unfold pcE at ep
   cases e2:tyR (regL S.rs) r.m with
   | error c=>rw [e2] at ep; cases ep
   | ok t=>exact⟨t,rfl⟩
  ·have hd0:=fsL_0 _ b2.2 _ (List.mem_map.2 ⟨d,hd,rfl⟩)
   have hdd:=dos_mem _ _ hru d hd
   exact doOk_of (hrl.2.2.1 d hd).2.2.2.2.2.2.2 hd0 hdd.1 hdd.2
  ·have:=(cnt_0 b2.1).2; omega
theorem nmZ_of {S:StratM}{w:yW}(hl:StratL w S) (h:stratE S=0):NmZ S:=by
 unfold stratE at h
 have a1:=fs_0 (fs_0 (fs_0 h).2).2
 have a2:=(cnt_0 (fs_0 a1.2).1).2
 exact⟨fun d hd=>szx_max (hl.2.1 d hd).2.2.2,fun d hd=>szx_max (hl.2.2.2.1 d hd).2,fun d hd=>szx_max (hl.2.2.2.2.2.1 d hd).2.2.2,by omega⟩
theorem regs_n {S:StratM}(h:stratE S=0):S.rs.length≤12:=by
 unfold stratE at h
 have a1:=(cnt_0 (fs_0 (fs_0 h).2).1).2
 omega
def erN (S:StratM):Int:=match chkE S with
 | none=>0
 | some q=>q.2
theorem ty_no {L:yB→Option Int}:∀ (m:Nd) (q:Int × Int),tyR L m=.error q→q.2≠0:=by
 refine Nd.ind fun h a c ks ih q hq=>?_
 unfold tyR at hq
 have hks:∀ (l:List Nd) (q:Int × Int),(∀ k ∈ l,∀ q:Int × Int,tyR L k=.error q→q.2≠0)→tysR L l=.error q→q.2≠0:=by
  intro l
  induction l with
  | nil=>intro q _ e; cases e
  | cons y l ihl =>
   intro q hk e
   unfold tysR at e
   cases e1:tyR L y with
   | error c=>rw [e1] at e; cases e; exact hk y (List.mem_cons_self ..) q e1
   | ok t =>
    rw [e1] at e
    cases e2:tysR L l with
    | error c=>simp only [e2] at e; cases e; exact ihl q (fun k hm=>hk k (List.mem_cons_of_mem _ hm)) e2
    | ok ts=>simp only [e2] at e; cases e
 cases e:tysR L ks with
 | error c=>rw [e] at hq; cases hq; exact hks ks q ih e
 | ok ts =>
  simp only [e] at hq
  split at hq
  ·split at hq
   ·cases hq
   ·cases hq; simp
  ·split at hq
   ·cases hq
   ·cases hq; simp
theorem pc_no {L:yB→Option Int}{p:Nd × Int}{q:Int × Int}(h:pcE L p=some q):q.2≠0:=by
 unfold pcE at h
 cases e:tyR L p.1 with
 | error c=>rw [e] at h; cases h; exact ty_no _ _ e
 | ok t =>
  simp only [e] at h
  split at h
  ·cases h
  ·cases h; simp
theorem ps_no {L:yB→Option Int}:∀ (l:List (Nd × Int)) (q:Int × Int),psE L l=some q→q.2≠0
 | [],q,h=>by cases h
 | y :: l,q,h=>by
  unfold psE at h
  cases e:pcE L y with
  | some c=>rw [e] at h; cases h; exact pc_no e
  | none=>rw [e] at h; exact ps_no l q h
theorem dos_no {L:yB→Option Int}{S2 S3:List yB}:∀ (ds:List DoM) (en:Bool) (q:Int × Int),dosE L S2 S3 en ds=some q→q.2≠0
 | [],_,q,h=>by cases h
 | y :: ds,en,q,h=>by
  unfold dosE at h
  split at h
  ·cases h; simp
  ·split at h
   ·cases e:psE L (ptsL L y) with
    | some c=>rw [e] at h; cases h; exact ps_no _ _ e
    | none=>rw [e] at h; exact dos_no ds _ q h
   ·cases h; simp
theorem sts_no {L:yB→Option Int}{S2 S3:List yB}:∀ (l:List StateM) (q:Int × Int),stsE L S2 S3 l=some q→q.2≠0
 | [],q,h=>by cases h
 | y :: l,q,h=>by
  have hr:∀ (l:List RuleM) (q:Int × Int),rusE L S2 S3 l=some q→q.2≠0:=by
   intro l
   induction l with
   | nil=>intro q e; cases e
   | cons r l ih =>
    intro q e
    cases e1:ruE L S2 S3 r with
    | none=>rw [rusE_none e1] at e; exact ih q e
    | some c =>
     rw [rusE_some e1] at e
     cases e
     unfold ruE at e1
     cases e2:pcE L (r.m,5) with
     | some c=>rw [e2] at e1; cases e1; exact pc_no e2
     | none=>rw [e2] at e1; exact dos_no _ _ _ e1
  cases e:rusE L S2 S3 y.rs with
  | none=>rw [stsE_none e] at h; exact sts_no l q h
  | some c=>rw [stsE_some e] at h; cases h; exact hr _ _ e
theorem nms_no:∀ (l:List (yB × Int)) (S:List yB) (q:Int × Int),dNms S l=some q→q.2≠0
 | [],_,q,h=>by cases h
 | y :: l,S,q,h=>by
  unfold dNms at h
  split at h
  ·cases h; simp
  ·exact nms_no l _ q h
theorem regs_no:∀ (l l0:List RegM) (q:Int × Int),dRegs l0 l=some q→q.2≠0
 | [],_,q,h=>by cases h
 | y :: l,l0,q,h=>by
  unfold dRegs at h
  split at h
  ·cases h; simp
  ·split at h
   ·exact regs_no l _ q h
   ·cases h; simp
theorem er_0 {S:StratM}(h:erN S=0):chkE S=none:=by
 unfold erN at h
 cases e:chkE S with
 | none=>rfl
 | some q =>
  rw [e] at h
  refine absurd h ?_
  unfold chkE at e
  split at e
  ·cases ed:decE S with
   | some c =>
    rw [ed] at e
    cases e
    unfold decE at ed
    cases e1:dRegs [] S.rs with
    | some c=>rw [e1] at ed; cases ed; exact regs_no _ _ _ e1
    | none =>
     rw [e1] at ed
     cases e2:dNms [] (S.ss.map slN) with
     | some c=>simp only [e2] at ed; cases ed; exact nms_no _ _ _ e2
     | none=>simp only [e2] at ed; exact nms_no _ _ _ ed
   | none=>rw [ed] at e; exact sts_no _ _ e
  ·cases e; assumption
theorem errno_nil (w:yW):Calls zG 33 #[.nilIface] w fun e w'=>e=.returned (zI 0)∧yD w w':=by
 have c:=pwrong_nil w
 go_enter Tryz.func33,Tryz.ntmps33
 go_wp2_with fail
 refine c.mono ?_
 rintro e w1 ⟨rfl,e1⟩
 obtain rfl:=e1.symm
 go_wp2_with fail
 go_ret
 exact⟨rfl,Below.refl _ _⟩
theorem errno_er {w:yW}{v:Value}{n p:Int}(h:Er w v n p) (hg:Ety w):Calls zG 33 #[v] w fun e w'=>e=.returned (zI n)∧yD w w':=by
 have c:=pwrong_any h hg
 clear h hg
 go_enter Tryz.func33,Tryz.ntmps33
 go_wp2_with fail
 refine c.mono ?_
 rintro e w1 ⟨rfl,hb⟩
 have HB:Hid (yD w w1):=hb
 clear hb c
 go_wp2_with fail
 go_ret
 exact⟨rfl,HB.out⟩
def holdB (t n:Int):Bool:=if t == 5 then (n == 0 || n == 1) else if t == 6 then (n == 1 || n == 2) else true
theorem hold_any (t n:Int) (w:yW):Calls zG 96 #[zU t,zI n] w fun e w'=>e=.returned (.bool (holdB t n))∧w'=w:=by
 obtain⟨p,hp⟩:∃ p,(t == 5)=p:=⟨_,rfl⟩
 obtain⟨q,hq⟩:∃ q,(t == 6)=q:=⟨_,rfl⟩
 obtain⟨r0,h0⟩:∃ p,(n == 0)=p:=⟨_,rfl⟩
 obtain⟨r1,h1⟩:∃ p,(n == 1)=p:=⟨_,rfl⟩
 obtain⟨r2,h2⟩:∃ p,(n == 2)=p:=⟨_,rfl⟩
 have HE:Hid (holdB t n=if p then (r0 || r1) else if q then (r1 || r2) else true):=by show _=_; simp only [holdB,hp,hq,h0,h1,h2]
 cases p with
 | true =>
  clear h2 hq
  cases r0 <;> cases r1 <;> (go_enter Tryz.func96,Tryz.ntmps96; go_wp2_with fail; go_ret; exact⟨by rw [HE.out]; rfl,rfl⟩)
 | false =>
  cases q with
  | true =>
   clear h0
   cases r1 <;> cases r2 <;> (go_enter Tryz.func96,Tryz.ntmps96; go_wp2_with fail; go_ret; exact⟨by rw [HE.out]; rfl,rfl⟩)
  | false =>
   clear h0 h1 h2
   (go_enter Tryz.func96,Tryz.ntmps96; go_wp2_with fail; go_ret; exact⟨by rw [HE.out]; rfl,rfl⟩)
def holdL:List RegM→List Int→Bool
 | r :: rs,v :: vs=>if holdB r.t v=true then holdL rs vs else false
 | _,_=>true
def isMo (S:StratM) (m:ModM):Bool:=decide (0≤m.st) && (decide (m.st < S.ts.length) && (decide (m.rg.length=S.rs.length) && holdL S.rs m.rg))
theorem bdn {B:Nat}{w w':yW}{n:Nat}(h:Below B w w'):Below B w (w'.drewN n):=⟨h.os,h.tape,h.output,h.size,h.block⟩
structure Bx2 (w:yW) (S:StratM) (m:ModM) (g:Nat):Prop where
 a:w.heap[g]? = (zC S.vals 26)
 b:w.heap[g+1]? = (zC m.vals 29)
theorem Bx2.on {w w':yW}{S:StratM}{m:ModM}{g:Nat}(h:Bx2 w S m g) (k:yD w w'):Bx2 w' S m g:=⟨heapOf k h.a,heapOf k h.b⟩
theorem bx2_new (w:yW) (S:StratM) (m:ModM):Bx2 ((w.alloc (.cells S.vals 26)).alloc (.cells m.vals 29)) S m w§∧yD w ((w.alloc (.cells S.vals 26)).alloc (.cells m.vals 29))∧((w.alloc (.cells S.vals 26)).alloc (.cells m.vals 29))§=w§+2:=by
 have b1:=below_new w (.cells S.vals 26)
 have b2:=below_new (w.alloc (.cells S.vals 26)) (.cells m.vals 29)
 have n1:=heap_new w (.cells S.vals 26)
 have n2:=heap_new (w.alloc (.cells S.vals 26)) (.cells m.vals 29)
 rw [size_alloc] at n2
 exact⟨⟨heapOf b2 n1,n2⟩,below2 b1 b2,by rw [size_alloc,size_alloc]⟩
theorem isMode_any (S:StratM) (m:ModM) (w:yW) (hl:StratL w S) (hm:ModL w m):Calls zG 58 #[.agg S.vals,.agg m.vals] w fun e w'=>e=.returned (.bool (isMo S m))∧yD w w':=by
 obtain⟨h2,hb2,hz2⟩:=bx2_new w S m
 obtain⟨W,eW⟩:∃ W,(w.alloc (.cells S.vals 26)).alloc (.cells m.vals 29)=W:=⟨_,rfl⟩
 have EW:Hid ((w.alloc (.cells S.vals 26)).alloc (.cells m.vals 29)=W):=eW
 rw [eW] at h2 hb2 hz2
 have HB:Hid (yD w W):=hb2
 have H2:Hid (Bx2 W S m w§):=h2
 have HZ:Hid (W§=w§+2):=hz2
 have HL:Hid (StratL w S∧ModL w m):=⟨hl,hm⟩
 have hlr:S.rs.length≤9223372036854775807:=by have h1:=hl.1.1; have h2:=hl.1.2.1; rw [List.length_map] at h1; omega
 have HLR:Hid (S.rs.length≤9223372036854775807):=hlr
 clear h2 hb2 hz2 eW hl hm hlr
 obtain⟨g,eg⟩:∃ g,w§=g:=⟨_,rfl⟩
 have HG:Hid (w§=g):=eg
 rw [eg] at H2
 have z0:W.cell? ⟨g+1,0,none⟩=some (zI m.st):=cell_of H2.out.b 0
 have z1:W.cell? ⟨g+1,1,none⟩=some (.slice m.ra m.rg.length m.rc):=cell_of H2.out.b 1
 have z2:W.cell? g¢1=some (.slice S.ra S.rs.length S.rc):=cell_of H2.out.a 1
 have z3:W.cell? g¢3=some (.slice S.ta S.ts.length S.tc):=cell_of H2.out.a 3
 clear eg
 by_cases h1:m.st < 0
 ·have HE:Hid (isMo S m=false):=by show _=_; unfold isMo; rw [decide_eq_false (by omega)]; rfl
  go_enter Tryz.func58,Tryz.ntmps58
  go_upto_region 1 with fail
  rw [EW.out,HG.out]
  go_wp2_with fail
  go_ret
  exact⟨by rw [HE.out]; rfl,HB.out⟩
 by_cases h3:(S.ts.length:Int)≤m.st
 ·have HE:Hid (isMo S m=false):=by show _=_; unfold isMo; rw [decide_eq_false (p:=m.st < S.ts.length) (by omega)]; simp
  go_enter Tryz.func58,Tryz.ntmps58
  go_upto_region 1 with fail
  rw [EW.out,HG.out]
  go_wp2_with fail
  go_ret
  exact⟨by rw [HE.out]; rfl,HB.out⟩
 by_cases h4:m.rg.length=S.rs.length
 rotate_left
 ·have HE:Hid (isMo S m=false):=by show _=_; unfold isMo; rw [decide_eq_false (p:=m.rg.length=S.rs.length) h4]; simp
  have h5:¬ (m.rg.length:Int)=(S.rs.length:Int):=by omega
  go_enter Tryz.func58,Tryz.ntmps58
  go_upto_region 1 with fail
  rw [EW.out,HG.out]
  go_wp2_with fail
  go_ret
  exact⟨by rw [HE.out]; rfl,HB.out⟩
 have HE:Hid (isMo S m=holdL S.rs m.rg):=by show _=_; unfold isMo; rw [decide_eq_true (by omega),decide_eq_true (by omega),decide_eq_true h4]; rfl
 obtain⟨R,eR⟩:∃ R,holdL S.rs m.rg=R:=⟨_,rfl⟩
 rw [eR] at HE
 have HR:Hid (holdL S.rs m.rg=R):=eR
 have H4:Hid (m.rg.length=S.rs.length):=h4
 obtain⟨n,en⟩:∃ n,m.rg.length=n:=⟨_,rfl⟩
 obtain⟨k,ek⟩:∃ k,S.rs.length=k:=⟨_,rfl⟩
 have EK:Hid (S.rs.length=k):=ek
 have EN:Hid (m.rg.length=n):=en
 rw [en] at z1
 rw [ek] at z2
 obtain rfl:n=k:=by omega
 clear h4 eR en ek
 rw [HE.out]
 go_enter Tryz.func58,Tryz.ntmps58
 go_upto_region 1 with fail
 rw [EW.out,HG.out]
 clear EW HE
 go_upto_region 4 with fail
 clear z0 z3 h1 h3
 go_wp2_with fail
 have HZ1:Hid (W.cell? ⟨g+1,1,none⟩=some (.slice m.ra n m.rc)):=z1
 clear z1 z2
 go_loopw [30] (fun t wr=>∃ (i:Nat),i≤n∧t=zI i∧Hid (yD w wr)∧Hid (yD W wr)∧Hid (holdL (S.rs.drop i) (m.rg.drop i)=R)) (fun t _=>n - (intOf t).toNat)
 case atStart=>exact⟨0,by omega,rfl,HB,Below.refl _ _,HR⟩
 case round =>
  obtain⟨i,hi,rfl,HBR,HBW,HRR⟩:=hrel
  by_cases hlt:i < n
  ·have hlt':(i:Int) < (n:Int):=by omega
   have hmx:(i:Int)+1≤9223372036854775807:=by have h1:=HLR.out; have h2:=EK.out; omega
   have hlt1:i < S.rs.length:=by rw [EK.out]; exact hlt
   have hlt2:i < m.rg.length:=by rw [EN.out]; exact hlt
   obtain⟨b,o,ea,hat⟩:=(HL.out.1.1.on (mapz RegM.sz _) HBR.out).2.2 i (by rw [List.length_map]; exact hlt1)
   simp only [List.getElem_map] at hat
   obtain⟨b2,o2,ea2,hat2⟩:=(HL.out.2.on HBR.out).1.2.2 i (by rw [List.length_map]; exact hlt2)
   simp only [List.getElem_map] at hat2
   have HTK:Hid ((if holdB S.rs[i].t m.rg[i]=true then holdL (S.rs.drop (i+1)) (m.rg.drop (i+1)) else false)=R):=by show _=_; rw [← HRR.out,List.drop_eq_getElem_cons hlt1,List.drop_eq_getElem_cons hlt2]; rfl
   obtain⟨d,ed⟩:∃ d,S.rs[i]=d:=⟨_,rfl⟩
   obtain⟨u,eu⟩:∃ u,m.rg[i]=u:=⟨_,rfl⟩
   rw [ed] at hat HTK
   rw [eu] at hat2 HTK
   have hc2:wr.cell? ⟨b2,o2+i,none⟩=some (zI u):=by have:=hat2 0 (by omega); simpa [iA] using this
   have HC2:Hid (wr.cell? ⟨b2,o2+i,none⟩=some (zI u)):=hc2
   have EA2:Hid (m.ra=some b2¢o2):=ea2
   have HRG:Hid (wr.rangeAt b (o+i * 11) d.vals.toList):=fun j v hv=>by
    have hj:j < 11:=(List.getElem?_eq_some_iff.1 hv).1
    rw [hat j hj,← hv]; simp
   have HN:Hid ((wr.alloc (.cells ze 102)).heap[wr§]? = (zC ze 102)):=heap_new _ _
   have hbx:yD wr ((wr.alloc (.cells ze 102)).setRow wr§ d.vals):=below_row (below_new _ _) (Nat.le_refl _) _
   have HBX:Hid (yD w ((wr.alloc (.cells ze 102)).setRow wr§ d.vals)):=below2 HBR.out hbx
   have HBY:Hid (yD W ((wr.alloc (.cells ze 102)).setRow wr§ d.vals)):=below2 HBW.out hbx
   have HNX:Hid (((wr.alloc (.cells ze 102)).setRow wr§ d.vals).heap[wr§]? = (zC d.vals 102)):=setRow_heap _ _ _ _ _ _ HN.out
   have HCX:Hid (((wr.alloc (.cells ze 102)).setRow wr§ d.vals).cell? ⟨b2,o2+i,none⟩=some (zI u)):=cell_on hc2 hbx
   rw [ea] 
   clear hat ed hbx hat2 eu hc2 HC2 HRR hlt1 hlt2 ea2
   go_upto_region 6 with (first | (refine wpList_load_mid rfl 102 (.tmp 33) rfl b (o+i * 11) rfl d.vals.toList _ HRG.out Tryz.underlying102 rfl (by show _=some 11; exact size100') ?_; rw [Array.toArray_toList]) | (refine wpList_store_row rfl 102 (.tmp 6) (.tmp 34) rfl wr§ d.vals rfl rfl 102 ze HN.out size100' rfl (all11 d) ?_))
   generalize hWX:World.setRow _ _ _=WX
   rw [hWX] at HBX HNX HCX HBY
   clear hWX HN HRG
   obtain⟨G,eG⟩:∃ G,wr§=G:=⟨_,rfl⟩
   rw [eG] at HNX ⊢
   clear eG
   have d1:WX.cell? G¢1=some (zU d.t):=cell_of HNX.out 1
   have d2:WX.cell? ⟨g+1,1,none⟩=some (.slice (some b2¢o2) n m.rc):=by rw [← EA2.out]; exact cell_on HZ1.out HBY.out
   have d3:WX.cell? ⟨b2,o2+i,none⟩=some (zI u):=HCX.out
   have cH:=hold_any d.t u
   obtain⟨B,eB⟩:∃ B,holdB d.t u=B:=⟨_,rfl⟩
   rw [eB] at cH HTK
   clear eB HNX HCX
   have h0i:(0:Int)≤(i:Int):=by omega
   cases B with
   | true =>
    have HT2:Hid (holdL (S.rs.drop (i+1)) (m.rg.drop (i+1))=R):=HTK.out
    go_quiet ((go_at_call 96; refine Calls.quiet_of_same (cH _)))
    go_wp2_with fail
    exact⟨⟨i+1,hlt,rfl,bdn HBX.out,bdn HBY.out,HT2⟩,by simp only [intOf]; omega⟩
   | false =>
    have HT2:Hid (R=false):=HTK.out.symm
    go_quiet ((go_at_call 96; refine Calls.quiet_of_same (cH _)))
    go_wp2_with fail
    go_ret
    exact⟨by rw [HT2.out]; rfl,bdn HBX.out⟩
  ·obtain rfl:i=n:=by omega
   have hnot:¬ (i:Int) < (i:Int):=by omega
   have HT2:Hid (R=true):=by show _=_; rw [← HRR.out,← EK.out,List.drop_length]; rfl
   go_wp2_with fail
   go_ret
   exact⟨by rw [HT2.out]; rfl,HBR.out⟩
def wrN (S:StratM) (m:ModM) (s:Sx.Sn):Int:=if erN S=0 then (if isMo S m=true then Sx.chkN s else 171) else erN S
end Go.Proofs.YtfbjofnaghjmeaaGreatDoor
