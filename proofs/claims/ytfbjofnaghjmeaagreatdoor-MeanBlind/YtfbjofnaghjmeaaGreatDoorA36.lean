import Derived.Test.YtfbjofnaghjmeaaGreatDoorA0
import Derived.Test.YtfbjofnaghjmeaaGreatDoorA35
namespace Go.Proofs.YtfbjofnaghjmeaaGreatDoor
set_option maxHeartbeats 16000000
set_option maxRecDepth 100000
open Go Go.RowKit
set_option linter.unusedVariables false
set_option linter.unusedSimpArgs false
theorem DoOk.toK {x:Cx}{d:DoM}(h:DoOk x d) (K:List (Nat × Obj)):DoOk { x with K:=K } d:=⟨h.1,h.2,h.3,h.4,h.5,h.6,h.7,h.8⟩
theorem RlOk.toK {x:Cx}{r:RuleM}(h:RlOk x r) (K:List (Nat × Obj)):RlOk { x with K:=K } r:=⟨h.1,fun d hd=>(h.2.1 d hd).toK K,h.2.2⟩
theorem fireN_K (x:Cx) (K:List (Nat × Obj)) (q:Tm):∀ (rs:List RuleM) (i:Nat),fireN { x with K:=K } q i rs=fireN x q i rs
 | [],i=>rfl
 | r :: rs,i=>by
  unfold fireN
  rw [dosN_K,fireN_K x K q rs (i+1)]
theorem doN_rg {x:Cx}{q q':Tm}{d:DoM}(h:doN x q d=.ok q'):q'.rg.length=q.rg.length:=by
 unfold doN at h
 split at h
 ·split at h
  ·cases h
  ·cases h; rfl
 split at h
 ·split at h
  ·cases h
  ·cases h; rfl
 split at h
 ·cases h; rfl
 split at h
 ·split at h
  ·cases h
  ·cases h; simp
 split at h
 ·cases h; rfl
 ·cases h; rfl
theorem doN_st {x:Cx}{q q':Tm}{d:DoM}{N:Int}(hT:∀ y (i:Nat),x.T y=some i→(i:Int) < N) (h0:0≤q.st∧q.st < N) (h:doN x q d=.ok q'):0≤q'.st∧q'.st < N:=by
 unfold doN at h
 split at h
 ·split at h
  ·cases h
  ·cases h; exact h0
 split at h
 ·split at h
  ·cases h
  ·cases h; exact h0
 split at h
 ·cases h; exact h0
 split at h
 ·split at h
  ·cases h
  ·cases h; exact h0
 split at h
 ·cases h
  cases e:x.T d.x with
  | none=>simp only [Option.getD_none]; omega
  | some i=>have:=hT _ _ e; simp only [Option.getD_some]; omega
 ·cases h; exact h0
theorem dosN_keep {x:Cx}{N:Int}(hT:∀ y (i:Nat),x.T y=some i→(i:Int) < N):∀ (ds:List DoM) (q q':Tm),0≤q.st∧q.st < N→dosN x q ds=.ok q'→(0≤q'.st∧q'.st < N)∧q'.rg.length=q.rg.length
 | [],q,q',h0,h=>by cases h; exact⟨h0,rfl⟩
 | d :: ds,q,q',h0,h=>by
  cases e:doN x q d with
  | error c=>rw [dosN_err e] at h; cases h
  | ok q1 =>
   rw [dosN_ok e] at h
   have h1:=dosN_keep hT ds q1 q' (doN_st hT h0 e) h
   exact⟨h1.1,h1.2.trans (doN_rg e)⟩
theorem fireN_keep {x:Cx}{q:Tm}{N:Int}(hT:∀ y (i:Nat),x.T y=some i→(i:Int) < N) (h0:0≤q.st∧q.st < N):∀ (rs:List RuleM) (i:Nat) (iq:Int × Tm),fireN x q i rs=.ok iq→(0≤iq.2.st∧iq.2.st < N)∧iq.2.rg.length=q.rg.length
 | [],i,iq,h=>by cases h; exact⟨h0,rfl⟩
 | r :: rs,i,iq,h=>by
  unfold fireN at h
  cases e:valR x.s (gOf x.P q.rg) r.m with
  | error z=>simp only [e] at h; cases h
  | ok v =>
   simp only [e] at h
   split at h
   ·cases e2:dosN x q r.ds with
    | error z=>simp only [e2] at h; cases h
    | ok q'=>simp only [e2] at h; cases h; exact dosN_keep hT _ _ _ h0 e2
   ·exact fireN_keep hT h0 rs _ iq h
theorem cxT_lt {S:StratM}{s:Sx.Sn}:∀ y (i:Nat),(cxOf S s).T y=some i→(i:Int) < (S.ts.length:Int):=fun y i h=>by
 have:=plL_lt h
 rw [List.length_map] at this
 omega
theorem slAt_oth {w w':yW}{n:Nat}{a:Option Addr}{c:Nat}{vs:List (Array Value)}(h:SlAt w n a c vs) (hb:∀ b o,a=some b¢o→w'.heap[b]? = w.heap[b]?):SlAt w' n a c vs:=⟨h.1,h.2.1,fun i hi=>by
 obtain⟨b,o,ea,hat⟩:=h.2.2 i hi
 refine⟨b,o,ea,fun j hj=>?_⟩
 rw [← hat j hj]
 unfold World.cell?
 simp only [hb b o ea]⟩
structure Bx5 (w:yW) (S:StratM) (m:ModM) (s:Sx.Sn) (g:Nat) (F K:Array Value):Prop where
 b:Bx3 w S m s g
 f:w.heap[g+3]? = (zC F 59)
 k:w.heap[g+4]? = (zC K 29)
theorem Bx5.on {w w':yW}{S:StratM}{m:ModM}{s:Sx.Sn}{g:Nat}{F K:Array Value}(h:Bx5 w S m s g F K) (k:yD w w'):Bx5 w' S m s g F K:=⟨h.b.on k,heapOf k h.f,heapOf k h.k⟩
theorem bx5_new (w:yW) (S:StratM) (m:ModM) (s:Sx.Sn) (F K:Array Value):Bx5 (((((w.alloc (.cells S.vals 26)).alloc (.cells m.vals 29)).alloc (.cells (Sx.snA s) 31)).alloc (.cells F 59)).alloc (.cells K 29)) S m s w§ F K ∧
  yD w (((((w.alloc (.cells S.vals 26)).alloc (.cells m.vals 29)).alloc (.cells (Sx.snA s) 31)).alloc (.cells F 59)).alloc (.cells K 29))∧(((((w.alloc (.cells S.vals 26)).alloc (.cells m.vals 29)).alloc (.cells (Sx.snA s) 31)).alloc (.cells F 59)).alloc (.cells K 29))§=w§+5:=by
 obtain⟨h3,hb3,hz3⟩:=bx3_new w S m s
 obtain⟨W,eW⟩:∃ W,((w.alloc (.cells S.vals 26)).alloc (.cells m.vals 29)).alloc (.cells (Sx.snA s) 31)=W:=⟨_,rfl⟩
 rw [eW] at h3 hb3 hz3 ⊢
 have b4:=below_new W (.cells F 59)
 have b5:=below_new (W.alloc (.cells F 59)) (.cells K 29)
 have n4:=heap_new W (.cells F 59)
 have n5:=heap_new (W.alloc (.cells F 59)) (.cells K 29)
 rw [hz3] at n4
 rw [size_alloc,hz3] at n5
 exact⟨⟨(h3.on b4).on b5,heapOf b5 n4,n5⟩,below2 hb3 (below2 b4 b5),by rw [size_alloc,size_alloc,hz3]⟩
theorem Bx5.fin {w:yW}{S:StratM}{m:ModM}{s:Sx.Sn}{g:Nat}{F K F' K':Array Value}(h:Bx5 w S m s g F K) {w0:yW}(hB:yD w0 w) (hg:w0§≤g) :
  ((w.setRow (g+3) F').setRow (g+4) K').heap[g+3]? = (zC F' 59)∧((w.setRow (g+3) F').setRow (g+4) K').heap[g+4]? = (zC K' 29)∧yD w0 ((w.setRow (g+3) F').setRow (g+4) K')∧(∀ b,b≠g+3→b≠g+4→((w.setRow (g+3) F').setRow (g+4) K').heap[b]? = w.heap[b]?) :=
 ⟨(setRow_other _ _ _ _ (by omega)).trans (setRow_heap _ _ _ _ _ _ h.f),setRow_heap _ _ _ _ _ _ ((setRow_other _ _ _ _ (by omega)).trans h.k),below_row (below_row hB (by omega) _) (by omega) _,fun b h1 h2=>(setRow_other _ _ _ _ (by omega)).trans (setRow_other _ _ _ _ (by omega))⟩
theorem slAt_nil (w:yW) (n:Nat):SlAt w n none 0 []:=⟨by decide,by decide,fun i hi=>absurd hi (by simp)⟩
theorem modL_nil (w:yW):ModL w ⟨0,none,0,[]⟩:=⟨slAt_nil w 1,fun v hv=>absurd hv (by simp),by show I64 0; unfold I64; omega⟩
theorem rowl_of {w:yW}{b:Nat}{rg:List Int}(h:w.heap[b]? = (zC (intsA rg) 2)) (hn:rg.length≤65536):SlAt w 1 (some b¢0) rg.length (rg.map iA):=by
 refine⟨by rw [List.length_map]; omega,by omega,fun i hi=>⟨b,0,rfl,fun j hj=>?_⟩⟩
 rw [List.length_map] at hi
 obtain rfl:j=0:=by omega
 rw [List.getElem_map]
 have hc:w.cell? ⟨b,0+i * 1+0,none⟩=(intsA rg)[0+i * 1+0]?:=by show World.cell? _ _=_; unfold World.cell?; simp only; rw [h]; rfl
 rw [hc,show 0+i * 1+0=i by omega,ints_at (List.getElem?_eq_getElem hi)]
 rfl
theorem turn_any (S:StratM) (m:ModM) (s:Sx.Sn) (gr:Bool) (w:yW) (hl:StratL w S) (hz:StratZ S) (hm:ModL w m) (hn:m.rg.length≤65536) (hi:∀ f,I64 (Sx.getN s f)) (ht:Tab w) (hf:FTab w) (hg:Ety w) :
  Calls zG 20 #[.agg S.vals,.agg m.vals,.agg (Sx.snA s),.bool gr] w (OutTu w (turnN S m s gr)):=by
 obtain⟨h5,hb5,hz5⟩:=bx5_new w S m s firZ modZ
 obtain⟨W,eW⟩:∃ W,((((w.alloc (.cells S.vals 26)).alloc (.cells m.vals 29)).alloc (.cells (Sx.snA s) 31)).alloc (.cells firZ 59)).alloc (.cells modZ 29)=W:=⟨_,rfl⟩
 have EW:Hid (((((w.alloc (.cells S.vals 26)).alloc (.cells m.vals 29)).alloc (.cells (Sx.snA s) 31)).alloc (.cells firZ 59)).alloc (.cells modZ 29)=W):=eW
 rw [eW] at h5 hb5 hz5
 have HB:Hid (yD w W):=hb5
 have H5:Hid (Bx5 W S m s w§ firZ modZ):=h5
 have HL:Hid (StratL w S∧ModL w m∧m.rg.length≤65536∧∀ f,I64 (Sx.getN s f)):=⟨hl,hm,hn,hi⟩
 have cW:Calls zG 31 #[.agg S.vals,.agg m.vals,.agg (Sx.snA s)] W fun e w'=>e=.returned (zI (wrN S m s))∧yD W w':=mwrong_any S m s W (hl.on hb5) hz (hm.on hb5) (ht.on hb5) (hf.on hb5) (hg.on hb5)
 obtain⟨g,eg⟩:∃ g,w§=g:=⟨_,rfl⟩
 have HG:Hid (w§=g):=eg
 rw [eg] at H5
 clear h5 hb5 hz5 eW hl hm hn hi ht hf hg hz
 obtain⟨E,eE⟩:∃ E,wrN S m s=E:=⟨_,rfl⟩
 have EE:Hid (wrN S m s=E):=eE
 rw [eE] at cW
 clear eE
 go_enter Tryz.func20,Tryz.ntmps20
 go_upto_region 1 with fail
 rw [show ((((w.alloc (.cells S.vals 26)).alloc (.cells m.vals 29)).alloc (.cells (Sx.snA s) 31)).alloc (.cells #[zI 0,.bool false,.slice none 0 0,zU 0,zI 0,zI 0] 59)).alloc (.cells zu 29)=W from EW.out]
 try rw [eg]
 clear EW eg
 go_wp2_with (first | (refine wpList_load_row rfl 26 (.tmp 4) rfl g rfl 26 S.vals (0,0) _ H5.out.b.a Tryz.underlying26 rfl (size26 S) ?_) | (refine wpList_load_row rfl 29 (.tmp 5) rfl (g+1) rfl 29 m.vals (0,0) _ H5.out.b.b Tryz.underlying29 rfl (size29 m) ?_) | (refine wpList_load_row rfl 31 (.tmp 6) rfl (g+2) rfl 31 (Sx.snA s) (0,0) _ H5.out.b.c Tryz.underlying31 rfl (size31 s) ?_))
 refine cW.mono ?_
 rintro e w1 ⟨rfl,hb⟩
 have HB1:Hid (yD w w1):=below2 HB.out hb
 have H51:Hid (Bx5 w1 S m s g firZ modZ):=H5.out.on hb
 clear hb cW
 by_cases h0:E=0
 rotate_left
 ·have HR:Hid (turnN S m s gr=⟨E,0,false,[],0,0,0,[]⟩):=by show _=_; unfold turnN; rw [EE.out,if_neg h0]
  go_wp2_with (first | (refine wpList_store_row rfl 59 (.tmp 8) (.tmp 21) rfl (g+3) firZ rfl rfl 59 firZ H51.out.f (size59 ..) rfl (all59 ..) ?_) | (refine wpList_store_row rfl 29 (.tmp 9) (.tmp 22) rfl (g+4) modZ rfl rfl 29 modZ ((setRow_other _ _ _ _ (by omega)).trans H51.out.k) (size29v ..) rfl (all29v ..) ?_))
  have HF:=Bx5.fin (F':=firZ) (K':=modZ) H51.out HB1.out (Nat.le_of_eq HG.out)
  refine bodyPost_ret (results_ccs rfl _ _ (g+3) (g+4) 59 29 firZ modZ (0,0) (0,0) _ _ _ rfl HF.1 Tryz.underlying59 rfl (size59 ..) rfl HF.2.1 Tryz.underlying29 rfl (size29v ..) rfl) rfl ?_
  rw [HR.out]
  exact⟨none,0,none,0,rfl,slAt_nil _ _,modL_nil _,HF.2.2.1⟩
 subst h0
 obtain⟨hE,hM⟩:erN S=0∧isMo S m=true:=by
  have h1:=EE.out
  unfold wrN at h1
  by_cases h2:erN S=0
  ·rw [if_pos h2] at h1
   cases h3:isMo S m with
   | true=>exact⟨h2,rfl⟩
   | false=>rw [h3] at h1; simp at h1
  ·rw [if_neg h2] at h1; exact absurd h1 h2
 have hC:=er_0 hE
 have hP:=chk_parts hC
 unfold isMo at hM
 simp only [Bool.and_eq_true,decide_eq_true_eq] at hM
 obtain⟨hm1,hm2,hm3,_⟩:=hM
 obtain⟨si,esi⟩:∃ si:Nat,m.st=(si:Int):=⟨m.st.toNat,(Int.toNat_of_nonneg hm1).symm⟩
 have hsi:si < S.ts.length:=by omega
 obtain⟨X,eX⟩:∃ X,S.ts[si]? = some X:=⟨_,List.getElem?_eq_getElem hsi⟩
 have hru:rulesOf S m.st=X.rs:=by unfold rulesOf; rw [esi,Int.toNat_natCast,eX]
 have hXm:X ∈ S.ts:=List.mem_of_getElem? eX
 have HN12:Hid (S.ts.length≤1000):=by
  have h1:=hP.1
  unfold stratE at h1
  have a2:=(cnt_0 (fs_0 (fs_0 (fs_0 (fs_0 (fs_0 (fs_0 h1).2).2).2).2).2).1).2
  show _≤_
  omega
 have HRN:Hid (turnN S m s gr=turnF m gr (fireN (cxOf S s) (tmOf m) 0 X.rs)):=by show _=_; unfold turnN; rw [EE.out,if_pos rfl,hru]
 have HX:Hid (m.st=(si:Int)∧S.ts[si]? = some X∧∀ r ∈ X.rs,RlOk (cxOf S s) r):=⟨esi,eX,rlOk_of HL.out.1 hC X hXm⟩
 have HL1:=HL.out.1.on HB1.out
 have cB:Calls zG 45 #[.agg S.vals,.agg m.vals,.agg (Sx.snA s)] w1 fun e w'=>∃ tb rb mb sb gb,e=.returned (zP tb)∧TnW w1§ w'§ (cxOf S s) tb rb mb sb gb w' (.slice none 0 0) (tmOf m)∧yD w1 w':=begin_any S m s w1 HL1 (nmZ_of HL.out.1 hP.1) (HL.out.2.1.on HB1.out) HL.out.2.2.1 hm3 HL.out.2.2.2
 have HL1:Hid (StratL w1 S):=HL1
 clear hE hC hP hm1 hm2 hm3 esi hsi eX hru hXm EE
 go_wp2_with (first | (refine wpList_load_row rfl 26 (.tmp 4) rfl g rfl 26 S.vals (0,0) _ H51.out.b.a Tryz.underlying26 rfl (size26 S) ?_) | (refine wpList_load_row rfl 29 (.tmp 5) rfl (g+1) rfl 29 m.vals (0,0) _ H51.out.b.b Tryz.underlying29 rfl (size29 m) ?_) | (refine wpList_load_row rfl 31 (.tmp 6) rfl (g+2) rfl 31 (Sx.snA s) (0,0) _ H51.out.b.c Tryz.underlying31 rfl (size31 s) ?_))
 refine cB.mono ?_
 rintro e w2 ⟨tb,rb,mb,sb,gb,rfl,hT,hb⟩
 have HB2:Hid (yD w w2):=below2 HB1.out hb
 have HB12:Hid (yD w1 w2):=hb
 have H52:Hid (Bx5 w2 S m s g firZ modZ):=H51.out.on hb
 have HT:Hid (TnW w1§ w2§ (cxOf S s) tb rb mb sb gb w2 (.slice none 0 0) (tmOf m)):=hT
 have n3:=heap_new w2 (.cells #[zP tb] 109)
 have b3:=below_new w2 (.cells #[zP tb] 109)
 obtain⟨W3,e3⟩:∃ W,w2.alloc (.cells #[zP tb] 109)=W:=⟨_,rfl⟩
 have E3:Hid (w2.alloc (.cells #[zP tb] 109)=W3):=e3
 have hs3:W3§=w2§+1:=by rw [← e3,size_alloc]
 rw [e3] at n3 b3
 obtain⟨T,eT⟩:∃ T,w2§=T:=⟨_,rfl⟩
 have hT3:=hT.on b3
 have ht3:T≠tb∧T≠rb:=by have:=hT.th; have:=hT.rh; omega
 have HT3:Hid (TnW w1§ W3§ { cxOf S s with K:=[(T,Obj.cells #[zP tb] 109 (0,0))] } tb rb mb sb gb W3 (.slice none 0 0) (tmOf m)) :=
  hT3.more rfl [(T,Obj.cells #[zP tb] 109 (0,0))] (fun p hp=>by
   obtain rfl:=List.mem_singleton.1 hp
   exact⟨by rw [← eT]; exact n3,ht3⟩)
 have HB3:Hid (yD w W3):=below2 HB2.out b3
 have HB13:Hid (yD w1 W3):=below2 HB12.out b3
 have H53:Hid (Bx5 W3 S m s g firZ modZ):=H52.out.on b3
 have HS3:Hid (W3§=T+1∧W3.heap[T]? = (zC #[zP tb] 109)):=⟨by omega,by rw [← eT]; exact n3⟩
 have ET:Hid (w2§=T):=eT
 have cR:Calls zG 46 #[.func (.func 47) #[] #[zP T,zP g,.pointer (some ⟨g+1,0,none⟩)]] W3 (OutG w1§ { cxOf S s with K:=[(T,Obj.cells #[zP tb] 109 (0,0))] } tb rb mb sb gb W3 (fireN (cxOf S s) (tmOf m) 0 X.rs)):=by
  refine reck_turn T¢0 g¢0 ⟨g+1,0,none⟩ HB13.out.size (fun k hk=>by obtain rfl:=List.mem_singleton.1 hk; show T < _; rw [HS3.out.1]; omega) ?_
  have b4:=below_new W3 (.cells #[zI 0] 41)
  have n4:=heap_new W3 (.cells #[zI 0] 41)
  have h4:=(HT3.out.on b4).more rfl [(W3§,Obj.cells #[zI 0] 41 (0,0))] (fun p hp=>by
   obtain rfl:=List.mem_singleton.1 hp
   have q1:=HT3.out.th
   have q2:=HT3.out.rh
   exact⟨n4,by show W3§≠tb; omega,by show W3§≠rb; omega⟩)
  rw [← fireN_K (cxOf S s) ([(W3§,Obj.cells #[zI 0] 41 (0,0))] ++ [(T,Obj.cells #[zP tb] 109 (0,0))]) (tmOf m) X.rs 0]
  exact turn1_any S m T g (g+1) si X h4 rfl (below2 HB13.out b4) HL1.out (by simp) H51.out.b.a H51.out.b.b HX.out.1 HX.out.2.1 (fun r hr=>(HX.out.2.2 r hr).toK _)
 obtain⟨r,er⟩:∃ r,fireN (cxOf S s) (tmOf m) 0 X.rs=r:=⟨_,rfl⟩
 have ER:Hid (fireN (cxOf S s) (tmOf m) 0 X.rs=r):=er
 rw [er] at cR HRN
 have HTG:Hid (g+4 < T∧g+4 < w1§):=⟨by have:=(zJ H52.out.k).1; omega,(zJ H51.out.k).1⟩
 have HKP:Hid (∀ iq,fireN (cxOf S s) (tmOf m) 0 X.rs=.ok iq→I64 iq.2.st∧iq.2.rg.length≤65536):=fun iq hq=>by
  have hs:=(List.getElem?_eq_some_iff.1 HX.out.2.1).1
  have h1:=fireN_keep (N:=(S.ts.length:Int)) cxT_lt (q:=tmOf m) (by show 0≤m.st∧m.st < _; rw [HX.out.1]; omega) X.rs 0 iq hq
  have h2:(tmOf m).rg.length≤65536:=HL.out.2.2.1
  have h3:=HN12.out
  exact⟨by unfold I64; omega,by omega⟩
 clear hT hb n3 b3 e3 hs3 eT hT3 ht3 cB er
 have hmf:∀ (fn:Fn) (first cap:Array Value) (w:yW),(Instr.makeFunc fn first cap).run Tryz.prog w=.ok (.func fn first cap) w:=fun _ _ _ _=>rfl
 go_upto_region 5 with fail
 rw [E3.out,ET.out]
 clear E3 ET
 rcases r with c | ⟨i,q2⟩
 ·replace cR:Calls zG 46 #[.func (.func 47) #[] #[zP T,zP g,.pointer (some ⟨g+1,0,none⟩)]] W3 (fun e w'=>e=.returned (.tuple #[zI 0,zI c])∧Below w1§ W3 w'):=cR
  have HCN:Hid (¬ c=0):=fire_err X.rs 0 c ER.out
  go_wp2_with fail
  refine cR.mono ?_
  rintro e w4 ⟨rfl,hb⟩
  have HB4:Hid (yD w w4∧yD w1 w4):=⟨HB1.out.trans ((HB13.out.trans hb).mono HB1.out.size),HB13.out.trans hb⟩
  have H54:Hid (Bx5 w4 S m s g firZ modZ):=H51.out.on HB4.out.2
  have cC:Calls zG 49 #[.agg m.vals] w4 fun e w'=>∃ b,e=.returned (.agg #[zI m.st,.slice (some b¢0) m.rg.length m.rg.length])∧w4§≤b∧w'.heap[b]? = (zC (intsA m.rg) 2)∧yD w4 w':=copied_any m w4 (HL.out.2.1.on HB4.out.1) HL.out.2.2.1
  have hcn:=HCN.out
  have HR:Hid (turnN S m s gr=⟨0,-1,false,[],3,c,m.st,m.rg⟩):=HRN.out
  clear hb cR
  go_wp2_with (first | (refine wpList_load_row rfl 29 (.tmp 5) rfl (g+1) rfl 29 m.vals (0,0) _ H54.out.b.b Tryz.underlying29 rfl (size29 m) ?_))
  refine cC.mono ?_
  rintro e w5 ⟨b,rfl,hb1,hb2,hb⟩
  have HB5:Hid (yD w w5):=below2 HB4.out.1 hb
  have H55:Hid (Bx5 w5 S m s g firZ modZ):=H54.out.on hb
  have HM:Hid (g+4 < b∧w5.heap[b]? = (zC (intsA m.rg) 2)):=⟨by have:=(zJ H54.out.k).1; omega,hb2⟩
  clear hb hb1 hb2 cC
  go_wp2_with (first | (refine wpList_store_row rfl 59 (.tmp 8) (.tmp 37) rfl (g+3) (firB (-1) false (.slice none 0 0) (3) (c)) rfl rfl 59 firZ H55.out.f (size59 ..) rfl (all59 ..) ?_) | (refine wpList_store_row rfl 29 (.tmp 9) (.tmp 39) rfl (g+4) (modV m.st (some b¢0) m.rg.length m.rg.length) rfl rfl 29 modZ ((setRow_other _ _ _ _ (by omega)).trans H55.out.k) (size29v ..) rfl (all29v ..) ?_))
  have HF:=Bx5.fin (F':=(firB (-1) false (.slice none 0 0) (3) (c))) (K':=(modV m.st (some b¢0) m.rg.length m.rg.length)) H55.out HB5.out (Nat.le_of_eq HG.out)
  refine bodyPost_ret (results_ccs rfl _ _ (g+3) (g+4) 59 29 (firB (-1) false (.slice none 0 0) (3) (c)) (modV m.st (some b¢0) m.rg.length m.rg.length) (0,0) (0,0) _ _ _ rfl HF.1 Tryz.underlying59 rfl (size59 ..) rfl HF.2.1 Tryz.underlying29 rfl (size29v ..) rfl) rfl ?_
  rw [HR.out]
  exact⟨none,0,_,_,rfl,slAt_nil _ _,⟨rowl_of ((HF.2.2.2 b (by have:=HM.out.1; omega) (by have:=HM.out.1; omega)).trans HM.out.2) HL.out.2.2.1,HL.out.2.1.2⟩,HF.2.2.1⟩
 ·replace cR:Calls zG 46 #[.func (.func 47) #[] #[zP T,zP g,.pointer (some ⟨g+1,0,none⟩)]] W3 (fun e w'=>e=.returned (.tuple #[zI i,zI 0])∧(∃ h1 av',TnW w1§ h1 { cxOf S s with K:=[(T,Obj.cells #[zP tb] 109 (0,0))] } tb rb mb sb gb w' av' q2)∧Below w1§ W3 w'):=cR
  go_wp2_with fail
  refine cR.mono ?_
  rintro e w4 ⟨rfl,⟨h1,av,hT⟩,hb⟩
  have HB4:Hid (yD w w4∧yD w1 w4):=⟨HB1.out.trans ((HB13.out.trans hb).mono HB1.out.size),HB13.out.trans hb⟩
  have H54:Hid (Bx5 w4 S m s g firZ modZ):=H51.out.on HB4.out.2
  have HT4:Hid (TnW w1§ h1 { cxOf S s with K:=[(T,Obj.cells #[zP tb] 109 (0,0))] } tb rb mb sb gb w4 av q2):=hT
  clear hb cR hT
  by_cases h2:i = -1
  ·subst h2
   have cC:Calls zG 49 #[.agg m.vals] w4 fun e w'=>∃ b,e=.returned (.agg #[zI m.st,.slice (some b¢0) m.rg.length m.rg.length])∧w4§≤b∧w'.heap[b]? = (zC (intsA m.rg) 2)∧yD w4 w':=copied_any m w4 (HL.out.2.1.on HB4.out.1) HL.out.2.2.1
   have HR:Hid (turnN S m s gr=⟨0,-1,false,[],1,0,m.st,m.rg⟩):=HRN.out
   go_wp2_with (first | (refine wpList_load_row rfl 29 (.tmp 5) rfl (g+1) rfl 29 m.vals (0,0) _ H54.out.b.b Tryz.underlying29 rfl (size29 m) ?_))
   refine cC.mono ?_
   rintro e w5 ⟨b,rfl,hb1,hb2,hb⟩
   have HB5:Hid (yD w w5):=below2 HB4.out.1 hb
   have H55:Hid (Bx5 w5 S m s g firZ modZ):=H54.out.on hb
   have HM:Hid (g+4 < b∧w5.heap[b]? = (zC (intsA m.rg) 2)):=⟨by have:=(zJ H54.out.k).1; omega,hb2⟩
   clear hb hb1 hb2 cC
   go_wp2_with (first | (refine wpList_store_row rfl 59 (.tmp 8) (.tmp 43) rfl (g+3) (firB (-1) false (.slice none 0 0) (1) (0)) rfl rfl 59 firZ H55.out.f (size59 ..) rfl (all59 ..) ?_) | (refine wpList_store_row rfl 29 (.tmp 9) (.tmp 45) rfl (g+4) (modV m.st (some b¢0) m.rg.length m.rg.length) rfl rfl 29 modZ ((setRow_other _ _ _ _ (by omega)).trans H55.out.k) (size29v ..) rfl (all29v ..) ?_))
   have HF:=Bx5.fin (F':=(firB (-1) false (.slice none 0 0) (1) (0))) (K':=(modV m.st (some b¢0) m.rg.length m.rg.length)) H55.out HB5.out (Nat.le_of_eq HG.out)
   refine bodyPost_ret (results_ccs rfl _ _ (g+3) (g+4) 59 29 (firB (-1) false (.slice none 0 0) (1) (0)) (modV m.st (some b¢0) m.rg.length m.rg.length) (0,0) (0,0) _ _ _ rfl HF.1 Tryz.underlying59 rfl (size59 ..) rfl HF.2.1 Tryz.underlying29 rfl (size29v ..) rfl) rfl ?_
   rw [HR.out]
   exact⟨none,0,_,_,rfl,slAt_nil _ _,⟨rowl_of ((HF.2.2.2 b (by have:=HM.out.1; omega) (by have:=HM.out.1; omega)).trans HM.out.2) HL.out.2.2.1,HL.out.2.1.2⟩,HF.2.2.1⟩
  obtain⟨fa,fc,eav,hsl,hsb⟩:=HT4.out.ra.sl (by omega)
  have HSB:Hid (∀ b o,fa=some b¢o→g+4 < b):=fun b o e=>by
   have h1:=hsb b o e
   rw [cut_size HT4.out.hw] at h1
   have h2:=HT4.out.th
   have h3:=HT4.out.bt
   have h4:=HTG.out.2
   omega
  clear hsb
  have HSL:Hid (SlAt w4 6 fa fc q2.ac):=hsl
  subst eav
  clear hsl
  have hT4:w4.heap[T]? = (zC #[zP tb] 109):=(HT4.out.kp _ (List.mem_singleton.2 rfl)).1
  have z0:w4.cell? T¢0=some (zP tb):=cell_of hT4 0
  have z4:w4.cell? tb¢11=some (.slice fa q2.ac.length fc):=cell_of HT4.out.t 11
  have HTT:Hid (w4.heap[T]? = (zC #[zP tb] 109)):=hT4
  clear hT4
  by_cases h3:q2.ac.isEmpty=false∧gr=false
  ·obtain⟨h31,rfl⟩:=h3
   have h4:(0:Int) < (q2.ac.length:Int):=by cases e:q2.ac with | nil=>rw [e] at h31; cases h31 | cons y l=>simp only [List.length_cons]; omega
   have h4':0 < q2.ac.length:=by omega
   have cC:Calls zG 49 #[.agg m.vals] w4 fun e w'=>∃ b,e=.returned (.agg #[zI m.st,.slice (some b¢0) m.rg.length m.rg.length])∧w4§≤b∧w'.heap[b]? = (zC (intsA m.rg) 2)∧yD w4 w':=copied_any m w4 (HL.out.2.1.on HB4.out.1) HL.out.2.2.1
   have HR:Hid (turnN S m s false=⟨0,i,true,[],1,0,m.st,m.rg⟩):=by show _=_; rw [HRN.out]; unfold turnF; simp only; rw [if_neg h2,if_pos ⟨h31,trivial⟩]
   clear h31
   go_upto_region 8 with fail
   go_upto_region 10 with fail
   go_upto_region 11 with fail
   clear h4 h4' z0 z4
   go_wp2_with (first | (refine wpList_load_row rfl 29 (.tmp 5) rfl (g+1) rfl 29 m.vals (0,0) _ H54.out.b.b Tryz.underlying29 rfl (size29 m) ?_))
   refine cC.mono ?_
   rintro e w5 ⟨b,rfl,hb1,hb2,hb⟩
   have HB5:Hid (yD w w5):=below2 HB4.out.1 hb
   have H55:Hid (Bx5 w5 S m s g firZ modZ):=H54.out.on hb
   have HM:Hid (g+4 < b∧w5.heap[b]? = (zC (intsA m.rg) 2)):=⟨by have:=(zJ H54.out.k).1; omega,hb2⟩
   clear hb hb1 hb2 cC
   go_wp2_with (first | (refine wpList_store_row rfl 59 (.tmp 8) (.tmp 58) rfl (g+3) (firB (i) true (.slice none 0 0) (1) (0)) rfl rfl 59 firZ H55.out.f (size59 ..) rfl (all59 ..) ?_) | (refine wpList_store_row rfl 29 (.tmp 9) (.tmp 60) rfl (g+4) (modV m.st (some b¢0) m.rg.length m.rg.length) rfl rfl 29 modZ ((setRow_other _ _ _ _ (by omega)).trans H55.out.k) (size29v ..) rfl (all29v ..) ?_))
   have HF:=Bx5.fin (F':=(firB (i) true (.slice none 0 0) (1) (0))) (K':=(modV m.st (some b¢0) m.rg.length m.rg.length)) H55.out HB5.out (Nat.le_of_eq HG.out)
   refine bodyPost_ret (results_ccs rfl _ _ (g+3) (g+4) 59 29 (firB (i) true (.slice none 0 0) (1) (0)) (modV m.st (some b¢0) m.rg.length m.rg.length) (0,0) (0,0) _ _ _ rfl HF.1 Tryz.underlying59 rfl (size59 ..) rfl HF.2.1 Tryz.underlying29 rfl (size29v ..) rfl) rfl ?_
   rw [HR.out]
   exact⟨none,0,_,_,rfl,slAt_nil _ _,⟨rowl_of ((HF.2.2.2 b (by have:=HM.out.1; omega) (by have:=HM.out.1; omega)).trans HM.out.2) HL.out.2.2.1,HL.out.2.1.2⟩,HF.2.2.1⟩
  have HR:Hid (turnN S m s gr=⟨0,i,false,q2.ac,q2.su,0,q2.st,q2.rg⟩):=by show _=_; rw [HRN.out]; unfold turnF; simp only; rw [if_neg h2,if_neg h3]
  have hcase:(q2.ac.length=0)∨(0 < q2.ac.length∧gr=true):=by
   cases e:q2.ac with
   | nil=>exact .inl rfl
   | cons y l=>exact .inr ⟨by simp,by cases gr with | true=>rfl | false=>exact absurd ⟨by rw [e]; rfl,rfl⟩ h3⟩
  clear h3
  rcases hcase with h4 | ⟨h4,rfl⟩
  ·have h5:¬ (0:Int) < (q2.ac.length:Int):=by omega
   have h5':¬ 0 < q2.ac.length:=by omega
   clear h4
   go_upto_region 8 with fail
   go_upto_region 10 with fail
   go_upto_region 12 with fail
   refine (?_:∀ Q',Hid (Q'=_)→Code.wp _ _ Q' _ _) _ rfl
   intro Q' HQ'
   have HPn:Hid (∀ p (d:Nat) v a w,Q' (.panic p) (Act.put a (some d) v) w→Q' (.panic p) a w):=by rw [HQ'.out]; exact fun _ _ _ _ _ h=>h
   refine wp_region_T (t:=99) (S:=fun u=>u.heap[T]? = (zC #[zP tb] 109)∧u.heap[tb]? = (zC (tnA s rb q2.rg.length mb sb gb (.slice fa q2.ac.length fc) q2) 117)) zK ⟨HTT.out,HT4.out.t⟩ (fun hHeld=>?_)
   clear h5 h5' z0 z4 h2
   refine wpAnyT_take (i:=0) (v:=?_) rfl zK zK zK zK (fun c a w h=>HPn.out c _ _ a w h) (Or.inl ⟨by rfl,?_⟩) (by assumption) ?_
   rotate_left
   ·(intro v hv; go_simp; try (with_reducible rfl))
   try simp [Act.put]
   refine wpAnyT_take (i:=1) (v:=?_) rfl zK zK zK zK (fun c a w h=>HPn.out c _ _ a w h) (Or.inl ⟨by rfl,?_⟩) (by assumption) ?_
   rotate_left
   ·(intro v hv; have c0:v.cell? T¢0=some (zP tb):=cell_of hv.1 0; clear hv; go_simp; try (with_reducible rfl))
   try simp [Act.put]
   refine wpAnyT_take (i:=2) (v:=?_) rfl zK zK zK zK (fun c a w h=>HPn.out c _ _ a w h) (Or.inl ⟨by rfl,?_⟩) (by assumption) ?_
   rotate_left
   ·(intro v hv; go_simp; try (with_reducible rfl))
   try simp [Act.put]
   refine wpAnyT_take (i:=3) (v:=?_) rfl zK zK zK zK (fun c a w h=>HPn.out c _ _ a w h) (Or.inl ⟨by rfl,?_⟩) (by assumption) ?_
   rotate_left
   ·(intro v hv; go_simp; try (with_reducible rfl))
   try simp [Act.put]
   refine wpAnyT_take (i:=4) (v:=?_) rfl zK zK zK zK (fun c a w h=>HPn.out c _ _ a w h) (Or.inl ⟨by rfl,?_⟩) (by assumption) ?_
   rotate_left
   ·(intro v hv; have c0:v.cell? tb¢11=some (.slice fa q2.ac.length fc):=cell_of hv.2 11; clear hv; go_simp; try (with_reducible rfl))
   try simp [Act.put]
   refine wpAnyT_take (i:=5) (v:=?_) rfl zK zK zK zK (fun c a w h=>HPn.out c _ _ a w h) (Or.inl ⟨by rfl,?_⟩) (by assumption) ?_
   rotate_left
   ·(intro v hv; have c0:v.cell? T¢0=some (zP tb):=cell_of hv.1 0; clear hv; go_simp; try (with_reducible rfl))
   try simp [Act.put]
   refine wpAnyT_take (i:=6) (v:=?_) rfl zK zK zK zK (fun c a w h=>HPn.out c _ _ a w h) (Or.inl ⟨by rfl,?_⟩) (by assumption) ?_
   rotate_left
   ·(intro v hv; go_simp; try (with_reducible rfl))
   try simp [Act.put]
   refine wpAnyT_take (i:=7) (v:=?_) rfl zK zK zK zK (fun c a w h=>HPn.out c _ _ a w h) (Or.inl ⟨by rfl,?_⟩) (by assumption) ?_
   rotate_left
   ·(intro v hv; go_simp; try (with_reducible rfl))
   try simp [Act.put]
   refine wpAnyT_take (i:=8) (v:=?_) rfl zK zK zK zK (fun c a w h=>HPn.out c _ _ a w h) (Or.inl ⟨by rfl,?_⟩) (by assumption) ?_
   rotate_left
   ·(intro v hv; have c0:v.cell? tb¢12=some (zU q2.su):=cell_of hv.2 12; clear hv; go_simp; try (with_reducible rfl))
   try simp [Act.put]
   refine wpAnyT_take (i:=9) (v:=?_) rfl zK zK zK zK (fun c a w h=>HPn.out c _ _ a w h) (Or.inl ⟨by rfl,?_⟩) (by assumption) ?_
   rotate_left
   ·(intro v hv; go_simp; try (with_reducible rfl))
   try simp [Act.put]
   refine wpAnyT_take (i:=10) (v:=?_) rfl zK zK zK zK (fun c a w h=>HPn.out c _ _ a w h) (Or.inl ⟨by rfl,?_⟩) (by assumption) ?_
   rotate_left
   ·(intro v hv; have c0:v.cell? T¢0=some (zP tb):=cell_of hv.1 0; clear hv; go_simp; try (with_reducible rfl))
   try simp [Act.put]
   refine wpAnyT_take (i:=11) (v:=?_) rfl zK zK zK zK (fun c a w h=>HPn.out c _ _ a w h) (Or.inl ⟨by rfl,?_⟩) (by assumption) ?_
   rotate_left
   ·(intro v hv; go_simp; try (with_reducible rfl))
   try simp [Act.put]
   refine wpAnyT_take (i:=12) (v:=?_) rfl zK zK zK zK (fun c a w h=>HPn.out c _ _ a w h) (Or.inl ⟨by rfl,?_⟩) (by assumption) ?_
   rotate_left
   ·(intro v hv; go_simp; try (with_reducible rfl))
   try simp [Act.put]
   refine wpAnyT_take (i:=13) (v:=?_) rfl zK zK zK zK (fun c a w h=>HPn.out c _ _ a w h) (Or.inl ⟨by rfl,?_⟩) (by assumption) ?_
   rotate_left
   ·(intro v hv; have c0:v.cell? tb¢10=some (zI q2.st):=cell_of hv.2 10; clear hv; go_simp; try (with_reducible rfl))
   try simp [Act.put]
   refine wpAnyT_take (i:=14) (v:=?_) rfl zK zK zK zK (fun c a w h=>HPn.out c _ _ a w h) (Or.inl ⟨by rfl,?_⟩) (by assumption) ?_
   rotate_left
   ·(intro v hv; have c0:v.cell? T¢0=some (zP tb):=cell_of hv.1 0; clear hv; go_simp; try (with_reducible rfl))
   try simp [Act.put]
   refine wpAnyT_take (i:=15) (v:=?_) rfl zK zK zK zK (fun c a w h=>HPn.out c _ _ a w h) (Or.inl ⟨by rfl,?_⟩) (by assumption) ?_
   rotate_left
   ·(intro v hv; go_simp; try (with_reducible rfl))
   try simp [Act.put]
   refine wpAnyT_take (i:=16) (v:=?_) rfl zK zK zK zK (fun c a w h=>HPn.out c _ _ a w h) (Or.inl ⟨by rfl,?_⟩) (by assumption) ?_
   rotate_left
   ·(intro v hv; go_simp; try (with_reducible rfl))
   try simp [Act.put]
   refine wpAnyT_take (i:=17) (v:=?_) rfl zK zK zK zK (fun c a w h=>HPn.out c _ _ a w h) (Or.inl ⟨by rfl,?_⟩) (by assumption) ?_
   rotate_left
   ·(intro v hv; go_simp; try (with_reducible rfl))
   try simp [Act.put]
   refine wpAnyT_take (i:=18) (v:=?_) rfl zK zK zK zK (fun c a w h=>HPn.out c _ _ a w h) (Or.inl ⟨by rfl,?_⟩) (by assumption) ?_
   rotate_left
   ·(intro v hv; have c0:v.cell? tb¢6=some (.slice (some rb¢0) q2.rg.length q2.rg.length):=cell_of hv.2 6; clear hv; go_simp; try (with_reducible rfl))
   try simp [Act.put]
   refine wpAnyT_take (i:=19) (v:=?_) rfl zK zK zK zK (fun c a w h=>HPn.out c _ _ a w h) (Or.inl ⟨by rfl,?_⟩) (by assumption) ?_
   rotate_left
   ·(intro v hv; go_simp; try (with_reducible rfl))
   try simp [Act.put]
   refine wpAnyT_one (i:=20) zK rfl (fun K hK=>?_)
   refine step_store_row rfl 59 (.tmp 8) (.tmp 70) rfl (g+3) (firB i false (.slice fa q2.ac.length fc) q2.su 0) rfl rfl 59 firZ H54.out.f (size59 ..) rfl (all59 ..) ?_
   refine hK.out _ _ (fun _=>⟨(setRow_other _ _ _ _ (by have:=HTG.out.1; omega)).trans HTT.out,(setRow_other _ _ _ _ (by have:=HTG.out.2; have:=HT4.out.bt; omega)).trans HT4.out.t⟩) ?_
   clear hK K
   try simp [Act.put]
   refine wpAnyT_one (i:=21) zK rfl (fun K hK=>?_)
   refine step_store_row rfl 29 (.tmp 9) (.tmp 80) rfl (g+4) (modV q2.st (some rb¢0) q2.rg.length q2.rg.length) rfl rfl 29 modZ ((setRow_other _ _ _ _ (by omega)).trans H54.out.k) (size29v ..) rfl (all29v ..) ?_
   refine hK.out _ _ (fun _=>⟨(setRow_other _ _ _ _ (by have:=HTG.out.1; omega)).trans ((setRow_other _ _ _ _ (by have:=HTG.out.1; omega)).trans HTT.out),(setRow_other _ _ _ _ (by have:=HTG.out.2; have:=HT4.out.bt; omega)).trans ((setRow_other _ _ _ _ (by have:=HTG.out.2; have:=HT4.out.bt; omega)).trans HT4.out.t)⟩) ?_
   clear hK K
   try simp [Act.put]
   refine wpAnyT_one (i:=22) zK rfl (fun K hK=>?_)
   go_simp
   refine hK.out _ _ (fun _=>⟨(setRow_other _ _ _ _ (by have:=HTG.out.1; omega)).trans ((setRow_other _ _ _ _ (by have:=HTG.out.1; omega)).trans HTT.out),(setRow_other _ _ _ _ (by have:=HTG.out.2; have:=HT4.out.bt; omega)).trans ((setRow_other _ _ _ _ (by have:=HTG.out.2; have:=HT4.out.bt; omega)).trans HT4.out.t)⟩) ?_
   clear hK K
   try simp [Act.put]
   refine wpAnyT_done zK ?_ _
   rw [HQ'.out]
   clear HQ' HPn Q'
   go_wp2_with fail
   have HF:=Bx5.fin (F':=(firB i false (.slice fa q2.ac.length fc) q2.su 0)) (K':=(modV q2.st (some rb¢0) q2.rg.length q2.rg.length)) (H54.out.on (drew_below w4)) HB4.out.1.drew (Nat.le_of_eq HG.out)
   refine bodyPost_ret (results_ccs rfl _ _ (g+3) (g+4) 59 29 (firB i false (.slice fa q2.ac.length fc) q2.su 0) (modV q2.st (some rb¢0) q2.rg.length q2.rg.length) (0,0) (0,0) _ _ _ rfl HF.1 Tryz.underlying59 rfl (size59 ..) rfl HF.2.1 Tryz.underlying29 rfl (size29v ..) rfl) rfl ?_
   rw [HR.out]
   have hkp:=HKP.out _ ER.out
   have hbl:=HTG.out.2
   have hbr:=HT4.out.br
   have hbs:=slAt_oth (w':=(w4.drew.setRow (g+3) (firB i false (.slice fa q2.ac.length fc) q2.su 0)).setRow (g+4) (modV q2.st (some rb¢0) q2.rg.length q2.rg.length)) HSL.out (fun b o e=>HF.2.2.2 b (by have:=HSB.out b o e; omega) (by have:=HSB.out b o e; omega))
   exact⟨fa,fc,_,_,rfl,hbs,⟨rowl_of ((HF.2.2.2 rb (by omega) (by omega)).trans HT4.out.r) hkp.2,HT4.out.i64,hkp.1⟩,HF.2.2.1⟩
  ·have h5:(0:Int) < (q2.ac.length:Int):=by omega
   clear HRN
   go_upto_region 8 with fail
   go_upto_region 10 with fail
   go_upto_region 12 with fail
   refine (?_:∀ Q',Hid (Q'=_)→Code.wp _ _ Q' _ _) _ rfl
   intro Q' HQ'
   have HPn:Hid (∀ p (d:Nat) v a w,Q' (.panic p) (Act.put a (some d) v) w→Q' (.panic p) a w):=by rw [HQ'.out]; exact fun _ _ _ _ _ h=>h
   refine wp_region_T (t:=99) (S:=fun u=>u.heap[T]? = (zC #[zP tb] 109)∧u.heap[tb]? = (zC (tnA s rb q2.rg.length mb sb gb (.slice fa q2.ac.length fc) q2) 117)) zK ⟨HTT.out,HT4.out.t⟩ (fun hHeld=>?_)
   clear h5 h4 z0 z4 h2
   refine wpAnyT_take (i:=0) (v:=?_) rfl zK zK zK zK (fun c a w h=>HPn.out c _ _ a w h) (Or.inl ⟨by rfl,?_⟩) (by assumption) ?_
   rotate_left
   ·(intro v hv; go_simp; try (with_reducible rfl))
   try simp [Act.put]
   refine wpAnyT_take (i:=1) (v:=?_) rfl zK zK zK zK (fun c a w h=>HPn.out c _ _ a w h) (Or.inl ⟨by rfl,?_⟩) (by assumption) ?_
   rotate_left
   ·(intro v hv; have c0:v.cell? T¢0=some (zP tb):=cell_of hv.1 0; clear hv; go_simp; try (with_reducible rfl))
   try simp [Act.put]
   refine wpAnyT_take (i:=2) (v:=?_) rfl zK zK zK zK (fun c a w h=>HPn.out c _ _ a w h) (Or.inl ⟨by rfl,?_⟩) (by assumption) ?_
   rotate_left
   ·(intro v hv; go_simp; try (with_reducible rfl))
   try simp [Act.put]
   refine wpAnyT_take (i:=3) (v:=?_) rfl zK zK zK zK (fun c a w h=>HPn.out c _ _ a w h) (Or.inl ⟨by rfl,?_⟩) (by assumption) ?_
   rotate_left
   ·(intro v hv; go_simp; try (with_reducible rfl))
   try simp [Act.put]
   refine wpAnyT_take (i:=4) (v:=?_) rfl zK zK zK zK (fun c a w h=>HPn.out c _ _ a w h) (Or.inl ⟨by rfl,?_⟩) (by assumption) ?_
   rotate_left
   ·(intro v hv; have c0:v.cell? tb¢11=some (.slice fa q2.ac.length fc):=cell_of hv.2 11; clear hv; go_simp; try (with_reducible rfl))
   try simp [Act.put]
   refine wpAnyT_take (i:=5) (v:=?_) rfl zK zK zK zK (fun c a w h=>HPn.out c _ _ a w h) (Or.inl ⟨by rfl,?_⟩) (by assumption) ?_
   rotate_left
   ·(intro v hv; have c0:v.cell? T¢0=some (zP tb):=cell_of hv.1 0; clear hv; go_simp; try (with_reducible rfl))
   try simp [Act.put]
   refine wpAnyT_take (i:=6) (v:=?_) rfl zK zK zK zK (fun c a w h=>HPn.out c _ _ a w h) (Or.inl ⟨by rfl,?_⟩) (by assumption) ?_
   rotate_left
   ·(intro v hv; go_simp; try (with_reducible rfl))
   try simp [Act.put]
   refine wpAnyT_take (i:=7) (v:=?_) rfl zK zK zK zK (fun c a w h=>HPn.out c _ _ a w h) (Or.inl ⟨by rfl,?_⟩) (by assumption) ?_
   rotate_left
   ·(intro v hv; go_simp; try (with_reducible rfl))
   try simp [Act.put]
   refine wpAnyT_take (i:=8) (v:=?_) rfl zK zK zK zK (fun c a w h=>HPn.out c _ _ a w h) (Or.inl ⟨by rfl,?_⟩) (by assumption) ?_
   rotate_left
   ·(intro v hv; have c0:v.cell? tb¢12=some (zU q2.su):=cell_of hv.2 12; clear hv; go_simp; try (with_reducible rfl))
   try simp [Act.put]
   refine wpAnyT_take (i:=9) (v:=?_) rfl zK zK zK zK (fun c a w h=>HPn.out c _ _ a w h) (Or.inl ⟨by rfl,?_⟩) (by assumption) ?_
   rotate_left
   ·(intro v hv; go_simp; try (with_reducible rfl))
   try simp [Act.put]
   refine wpAnyT_take (i:=10) (v:=?_) rfl zK zK zK zK (fun c a w h=>HPn.out c _ _ a w h) (Or.inl ⟨by rfl,?_⟩) (by assumption) ?_
   rotate_left
   ·(intro v hv; have c0:v.cell? T¢0=some (zP tb):=cell_of hv.1 0; clear hv; go_simp; try (with_reducible rfl))
   try simp [Act.put]
   refine wpAnyT_take (i:=11) (v:=?_) rfl zK zK zK zK (fun c a w h=>HPn.out c _ _ a w h) (Or.inl ⟨by rfl,?_⟩) (by assumption) ?_
   rotate_left
   ·(intro v hv; go_simp; try (with_reducible rfl))
   try simp [Act.put]
   refine wpAnyT_take (i:=12) (v:=?_) rfl zK zK zK zK (fun c a w h=>HPn.out c _ _ a w h) (Or.inl ⟨by rfl,?_⟩) (by assumption) ?_
   rotate_left
   ·(intro v hv; go_simp; try (with_reducible rfl))
   try simp [Act.put]
   refine wpAnyT_take (i:=13) (v:=?_) rfl zK zK zK zK (fun c a w h=>HPn.out c _ _ a w h) (Or.inl ⟨by rfl,?_⟩) (by assumption) ?_
   rotate_left
   ·(intro v hv; have c0:v.cell? tb¢10=some (zI q2.st):=cell_of hv.2 10; clear hv; go_simp; try (with_reducible rfl))
   try simp [Act.put]
   refine wpAnyT_take (i:=14) (v:=?_) rfl zK zK zK zK (fun c a w h=>HPn.out c _ _ a w h) (Or.inl ⟨by rfl,?_⟩) (by assumption) ?_
   rotate_left
   ·(intro v hv; have c0:v.cell? T¢0=some (zP tb):=cell_of hv.1 0; clear hv; go_simp; try (with_reducible rfl))
   try simp [Act.put]
   refine wpAnyT_take (i:=15) (v:=?_) rfl zK zK zK zK (fun c a w h=>HPn.out c _ _ a w h) (Or.inl ⟨by rfl,?_⟩) (by assumption) ?_
   rotate_left
   ·(intro v hv; go_simp; try (with_reducible rfl))
   try simp [Act.put]
   refine wpAnyT_take (i:=16) (v:=?_) rfl zK zK zK zK (fun c a w h=>HPn.out c _ _ a w h) (Or.inl ⟨by rfl,?_⟩) (by assumption) ?_
   rotate_left
   ·(intro v hv; go_simp; try (with_reducible rfl))
   try simp [Act.put]
   refine wpAnyT_take (i:=17) (v:=?_) rfl zK zK zK zK (fun c a w h=>HPn.out c _ _ a w h) (Or.inl ⟨by rfl,?_⟩) (by assumption) ?_
   rotate_left
   ·(intro v hv; go_simp; try (with_reducible rfl))
   try simp [Act.put]
   refine wpAnyT_take (i:=18) (v:=?_) rfl zK zK zK zK (fun c a w h=>HPn.out c _ _ a w h) (Or.inl ⟨by rfl,?_⟩) (by assumption) ?_
   rotate_left
   ·(intro v hv; have c0:v.cell? tb¢6=some (.slice (some rb¢0) q2.rg.length q2.rg.length):=cell_of hv.2 6; clear hv; go_simp; try (with_reducible rfl))
   try simp [Act.put]
   refine wpAnyT_take (i:=19) (v:=?_) rfl zK zK zK zK (fun c a w h=>HPn.out c _ _ a w h) (Or.inl ⟨by rfl,?_⟩) (by assumption) ?_
   rotate_left
   ·(intro v hv; go_simp; try (with_reducible rfl))
   try simp [Act.put]
   refine wpAnyT_one (i:=20) zK rfl (fun K hK=>?_)
   refine step_store_row rfl 59 (.tmp 8) (.tmp 70) rfl (g+3) (firB i false (.slice fa q2.ac.length fc) q2.su 0) rfl rfl 59 firZ H54.out.f (size59 ..) rfl (all59 ..) ?_
   refine hK.out _ _ (fun _=>⟨(setRow_other _ _ _ _ (by have:=HTG.out.1; omega)).trans HTT.out,(setRow_other _ _ _ _ (by have:=HTG.out.2; have:=HT4.out.bt; omega)).trans HT4.out.t⟩) ?_
   clear hK K
   try simp [Act.put]
   refine wpAnyT_one (i:=21) zK rfl (fun K hK=>?_)
   refine step_store_row rfl 29 (.tmp 9) (.tmp 80) rfl (g+4) (modV q2.st (some rb¢0) q2.rg.length q2.rg.length) rfl rfl 29 modZ ((setRow_other _ _ _ _ (by omega)).trans H54.out.k) (size29v ..) rfl (all29v ..) ?_
   refine hK.out _ _ (fun _=>⟨(setRow_other _ _ _ _ (by have:=HTG.out.1; omega)).trans ((setRow_other _ _ _ _ (by have:=HTG.out.1; omega)).trans HTT.out),(setRow_other _ _ _ _ (by have:=HTG.out.2; have:=HT4.out.bt; omega)).trans ((setRow_other _ _ _ _ (by have:=HTG.out.2; have:=HT4.out.bt; omega)).trans HT4.out.t)⟩) ?_
   clear hK K
   try simp [Act.put]
   refine wpAnyT_one (i:=22) zK rfl (fun K hK=>?_)
   go_simp
   refine hK.out _ _ (fun _=>⟨(setRow_other _ _ _ _ (by have:=HTG.out.1; omega)).trans ((setRow_other _ _ _ _ (by have:=HTG.out.1; omega)).trans HTT.out),(setRow_other _ _ _ _ (by have:=HTG.out.2; have:=HT4.out.bt; omega)).trans ((setRow_other _ _ _ _ (by have:=HTG.out.2; have:=HT4.out.bt; omega)).trans HT4.out.t)⟩) ?_
   clear hK K
   try simp [Act.put]
   refine wpAnyT_done zK ?_ _
   rw [HQ'.out]
   clear HQ' HPn Q'
   go_wp2_with fail
   have HF:=Bx5.fin (F':=(firB i false (.slice fa q2.ac.length fc) q2.su 0)) (K':=(modV q2.st (some rb¢0) q2.rg.length q2.rg.length)) (H54.out.on (drew_below w4)) HB4.out.1.drew (Nat.le_of_eq HG.out)
   refine bodyPost_ret (results_ccs rfl _ _ (g+3) (g+4) 59 29 (firB i false (.slice fa q2.ac.length fc) q2.su 0) (modV q2.st (some rb¢0) q2.rg.length q2.rg.length) (0,0) (0,0) _ _ _ rfl HF.1 Tryz.underlying59 rfl (size59 ..) rfl HF.2.1 Tryz.underlying29 rfl (size29v ..) rfl) rfl ?_
   rw [HR.out]
   have hkp:=HKP.out _ ER.out
   have hbl:=HTG.out.2
   have hbr:=HT4.out.br
   have hbs:=slAt_oth (w':=(w4.drew.setRow (g+3) (firB i false (.slice fa q2.ac.length fc) q2.su 0)).setRow (g+4) (modV q2.st (some rb¢0) q2.rg.length q2.rg.length)) HSL.out (fun b o e=>HF.2.2.2 b (by have:=HSB.out b o e; omega) (by have:=HSB.out b o e; omega))
   exact⟨fa,fc,_,_,rfl,hbs,⟨rowl_of ((HF.2.2.2 rb (by omega) (by omega)).trans HT4.out.r) hkp.2,HT4.out.i64,hkp.1⟩,HF.2.2.1⟩
end Go.Proofs.YtfbjofnaghjmeaaGreatDoor
