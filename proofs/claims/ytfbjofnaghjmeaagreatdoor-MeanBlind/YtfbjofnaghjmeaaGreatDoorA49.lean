import Derived.Test.YtfbjofnaghjmeaaGreatDoorA0
import Derived.Test.YtfbjofnaghjmeaaGreatDoorA47
import Derived.Test.YtfbjofnaghjmeaaGreatDoorA40
import Derived.Test.YtfbjofnaghjmeaaGreatDoorA48
namespace Go.Proofs.YtfbjofnaghjmeaaGreatDoor
set_option maxHeartbeats 16000000
set_option maxRecDepth 100000
open Go Go.RowKit
set_option linter.unusedVariables false
set_option linter.unusedSimpArgs false
theorem bent_get {s:Sx.Sn}{f n g:Int}(h1:1≤f) (h6:f≤6) (h:g≠f):Sx.getN (bentS s f n) g=Sx.getN s g:=by
 have:f=1∨f=2∨f=3∨f=4∨f=5∨f=6:=by omega
 unfold bentS Sx.getN
 rcases this with rfl | rfl | rfl | rfl | rfl | rfl <;> simp [h]
theorem rds_mem {f:Int}:∀ (l:List Nd),rdsB f l=false→∀ k ∈ l,rdB f k=false
 | [],_,k,hk=>by cases hk
 | y :: l,h,k,hk=>by
  simp only [rdsB,Bool.or_eq_false_iff] at h
  rcases List.mem_cons.1 hk with rfl | hk
  ·exact h.1
  ·exact rds_mem l h.2 k hk
theorem vals_bl {s s':Sx.Sn}{G:yB→Option Int}:∀ (l:List Nd),(∀ k ∈ l,valR s G k=valR s' G k)→valsR s G l=valsR s' G l
 | [],_=>rfl
 | k :: l,h=>by simp only [valsR]; rw [h k (by simp),vals_bl l fun x hx=>h x (by simp [hx])]
theorem val_bl {s s':Sx.Sn}{G:yB→Option Int}{f:Int}(hs:∀ g,g≠f→Sx.getN s g=Sx.getN s' g):∀ (m:Nd),rdB f m=false→valR s G m=valR s' G m:=by
 refine Nd.ind fun h a c ks ih hr=>?_
 simp only [rdB,Bool.or_eq_false_iff] at hr
 have hf:h.f≠f:=by simpa using hr.1
 have hk:=vals_bl (s:=s) (s':=s') (G:=G) ks fun k hk=>ih k hk (rds_mem ks hr.2 k hk)
 unfold valR cmb fldR
 rw [hk,hs _ hf]
theorem do_bl {x x':Cx}(e1:x.P=x'.P) (e2:x.S=x'.S) (e3:x.T=x'.T) {f:Int}(hs:∀ g,g≠f→Sx.getN x.s g=Sx.getN x'.s g) {q:Tm}{d:DoM}(h:rdO f d=false):doN x q d=doN x' q d:=by
 unfold rdO at h
 simp only [Bool.or_eq_false_iff] at h
 unfold doN subR amdR
 rw [e1,e2,e3,val_bl hs d.sd h.1,val_bl hs d.qt h.2.1,val_bl hs d.pr h.2.2.1,val_bl hs d.vl h.2.2.2]
theorem rdD_false {f:Int}:∀ (ds:List DoM) (b:Bool),rdD f b ds=false→b=false∧∀ d ∈ ds,rdO f d=false
 | [],b,h=>⟨h,fun d hd=>by cases hd⟩
 | d :: ds,b,h=>by
  unfold rdD at h
  have h1:=rdD_false ds _ h
  simp only [Bool.or_eq_false_iff] at h1
  refine⟨h1.1.1,fun e he=>?_⟩
  rcases List.mem_cons.1 he with rfl | he
  ·exact h1.1.2
  ·exact h1.2 e he
theorem rdR_false {f:Int}:∀ (rs:List RuleM),rdR f rs=false→∀ r ∈ rs,rdB f r.m=false∧∀ d ∈ r.ds,rdO f d=false
 | [],_,r,hr=>by cases hr
 | y :: rs,h,r,hr=>by
  unfold rdR at h
  simp only [Bool.or_eq_false_iff] at h
  rcases List.mem_cons.1 hr with rfl | hr
  ·exact rdD_false _ _ h.1
  ·exact rdR_false rs h.2 r hr
theorem dos_bl {x x':Cx}(e1:x.P=x'.P) (e2:x.S=x'.S) (e3:x.T=x'.T) {f:Int}(hs:∀ g,g≠f→Sx.getN x.s g=Sx.getN x'.s g):∀ (ds:List DoM) (q:Tm),(∀ d ∈ ds,rdO f d=false)→dosN x q ds=dosN x' q ds
 | [],q,_=>rfl
 | d :: ds,q,h=>by
  unfold dosN
  rw [do_bl e1 e2 e3 hs (h d (by simp))]
  cases doN x' q d with
  | error c=>rfl
  | ok q'=>exact dos_bl e1 e2 e3 hs ds q' fun d hd=>h d (by simp [hd])
theorem fire_bl {x x':Cx}(e1:x.P=x'.P) (e2:x.S=x'.S) (e3:x.T=x'.T) {f:Int}(hs:∀ g,g≠f→Sx.getN x.s g=Sx.getN x'.s g) {q:Tm}:∀ (rs:List RuleM) (i:Nat),rdR f rs=false→fireN x q i rs=fireN x' q i rs
 | [],i,_=>rfl
 | r :: rs,i,h=>by
  have h1:=rdR_false (r :: rs) h r (by simp)
  unfold rdR at h
  simp only [Bool.or_eq_false_iff] at h
  unfold fireN
  rw [e1,val_bl hs r.m h1.1,dos_bl e1 e2 e3 hs r.ds q h1.2,fire_bl e1 e2 e3 hs rs (i+1) h.2]
theorem turn_bl {S:StratM}{m:ModM}{s:Sx.Sn}{f n:Int}{gr:Bool}(h1:1≤f) (h6:f≤6) (c1:Sx.chkN s=0) (c2:Sx.chkN (bentS s f n)=0) (hr:rdR f (rulesOf S m.st)=false):turnN S m s gr=turnN S m (bentS s f n) gr:=by
 have hw:wrN S m s=wrN S m (bentS s f n):=by unfold wrN; rw [c1,c2]
 unfold turnN
 rw [hw,fire_bl (x:=cxOf S s) (x':=cxOf S (bentS s f n)) rfl rfl rfl (f:=f) (fun g hg=>(bent_get h1 h6 hg).symm) (rulesOf S m.st) 0 hr]
theorem acs_snoc {l:List (Array Value)}(h:Acs l) {y:Array Value}(hy:∃ k o s p n z,y=acA k o s p n z):Acs (l ++ [y]):=fun x hx=>by
 rcases List.mem_append.1 hx with h1 | h1
 ·exact h x h1
 ·obtain rfl:=List.mem_singleton.1 h1; exact hy
theorem doN_acs {x:Cx}{q q':Tm}{d:DoM}(h:Acs q.ac) (he:doN x q d=.ok q'):Acs q'.ac:=by
 unfold doN at he
 split at he
 ·cases e:subR x.S x.s (gOf x.P q.rg) d with
  | error c=>rw [e] at he; cases he
  | ok y =>
   rw [e] at he
   cases he
   refine acs_snoc h ?_
   unfold subR at e
   cases e1:valR x.s (gOf x.P q.rg) d.sd with
   | error c=>rw [e1] at e; cases e
   | ok u1 =>
    simp only [e1] at e
    cases e2:valR x.s (gOf x.P q.rg) d.qt with
    | error c=>simp only [e2] at e; cases e
    | ok u2 =>
     simp only [e2] at e
     split at e
     ·cases e; exact⟨_,_,_,_,_,_,rfl⟩
     ·cases e3:valR x.s (gOf x.P q.rg) d.pr with
      | error c=>simp only [e3] at e; cases e
      | ok u3=>simp only [e3] at e; cases e; exact⟨_,_,_,_,_,_,rfl⟩
 split at he
 ·cases e:amdR x.S x.s (gOf x.P q.rg) d with
  | error c=>rw [e] at he; cases he
  | ok y =>
   rw [e] at he
   cases he
   refine acs_snoc h ?_
   unfold amdR at e
   cases e2:valR x.s (gOf x.P q.rg) d.qt with
   | error c=>simp only [e2] at e; cases e
   | ok u2 =>
    simp only [e2] at e
    cases e3:valR x.s (gOf x.P q.rg) d.pr with
    | error c=>simp only [e3] at e; cases e
    | ok u3=>simp only [e3] at e; cases e; exact⟨_,_,_,_,_,_,rfl⟩
 split at he
 ·cases he; exact acs_snoc h ⟨_,_,_,_,_,_,rfl⟩
 split at he
 ·cases e:valR x.s (gOf x.P q.rg) d.vl with
  | error c=>rw [e] at he; cases he
  | ok v=>rw [e] at he; cases he; exact h
 split at he
 ·cases he; exact h
 ·cases he; exact h
theorem dosN_acs {x:Cx}:∀ (ds:List DoM) (q q':Tm),Acs q.ac→dosN x q ds=.ok q'→Acs q'.ac
 | [],q,q',h,he=>by cases he; exact h
 | d :: ds,q,q',h,he=>by
  cases e:doN x q d with
  | error c=>rw [dosN_err e] at he; cases he
  | ok q1=>rw [dosN_ok e] at he; exact dosN_acs ds q1 q' (doN_acs h e) he
theorem fireN_acs {x:Cx}{q:Tm}(h:Acs q.ac):∀ (rs:List RuleM) (i:Nat) (iq:Int × Tm),fireN x q i rs=.ok iq→Acs iq.2.ac
 | [],i,iq,he=>by cases he; exact h
 | r :: rs,i,iq,he=>by
  unfold fireN at he
  cases e:valR x.s (gOf x.P q.rg) r.m with
  | error z=>simp only [e] at he; cases he
  | ok v =>
   simp only [e] at he
   split at he
   ·cases e2:dosN x q r.ds with
    | error z=>simp only [e2] at he; cases he
    | ok q'=>simp only [e2] at he; cases he; exact dosN_acs _ _ _ h e2
   ·exact fireN_acs h rs _ iq he
theorem turn_acs (S:StratM) (m:ModM) (s:Sx.Sn) (gr:Bool):Acs (turnN S m s gr).ac:=by
 have h0:Acs []:=fun y hy=>by cases hy
 unfold turnN
 by_cases h:wrN S m s=0
 ·rw [if_pos h]
  cases e:fireN (cxOf S s) (tmOf m) 0 (rulesOf S m.st) with
  | error c=>exact h0
  | ok iq =>
   have h1:=fireN_acs (q:=tmOf m) h0 _ _ _ e
   unfold turnF
   simp only
   split
   ·exact h0
   split
   ·exact h0
   ·exact h1
 ·rw [if_neg h]; exact h0
theorem bent_i64 {s:Sx.Sn}{f n:Int}(hs:∀ g,I64 (Sx.getN s g)) (hn:I64 n) (h1:1≤f) (h6:f≤6):∀ g,I64 (Sx.getN (bentS s f n) g):=fun g=>by
 by_cases e:g=f
 ·subst e
  have:g=1∨g=2∨g=3∨g=4∨g=5∨g=6:=by omega
  rcases this with rfl | rfl | rfl | rfl | rfl | rfl <;> exact hn
 ·rw [bent_get h1 h6 e]; exact hs g
theorem which_eq {fl:Int}(h0:0≤fl) (h1:fl≤255):∃ f:Int,f=1+fl.tmod 6∧1≤f∧f≤6:=⟨_,rfl,by rw [Int.tmod_eq_emod_of_nonneg h0]; omega,by rw [Int.tmod_eq_emod_of_nonneg h0]; omega⟩
theorem blind_any (S:StratM) (m:ModM) (s:Sx.Sn) (fl n:Int) (w:yW) (hl:StratL w S) (hm:ModL w m) (hi:∀ f,I64 (Sx.getN s f)) (hf0:0≤fl) (hf1:fl≤255) (hn:I64 n) (ht:Tab w) (hf:FTab w) (hg:Ety w) :
  Calls zG 6 #[.agg S.vals,.agg m.vals,.agg (Sx.snA s),zU fl,zI n] w fun e w'=>e=.returned (.bool true)∧yD w w':=by
 have HN:Hid (I64 n):=hn
 obtain⟨f,ef,f1,f6⟩:=which_eq hf0 hf1
 have e1:IntKind.u8.wrap (fl.tmod 6)=fl.tmod 6:=by rw [IntKind.wrap_u8]; rw [Int.tmod_eq_emod_of_nonneg hf0]; omega
 have e2:IntKind.u8.wrap (1+fl.tmod 6)=f:=by rw [IntKind.wrap_u8,ef]; rw [Int.tmod_eq_emod_of_nonneg hf0]; omega
 have HF:Hid (1≤f∧f≤6):=⟨f1,f6⟩
 clear hn ef f1 f6 hf0 hf1
 obtain⟨h3,hb3,hz3⟩:=bx3_new w S m s
 obtain⟨W,eW⟩:∃ W,((w.alloc (.cells S.vals 26)).alloc (.cells m.vals 29)).alloc (.cells (Sx.snA s) 31)=W:=⟨_,rfl⟩
 have EW:Hid (((w.alloc (.cells S.vals 26)).alloc (.cells m.vals 29)).alloc (.cells (Sx.snA s) 31)=W):=eW
 rw [eW] at h3 hb3 hz3
 have HT:Hid (Tab W∧FTab W∧Ety W):=⟨ht.on hb3,hf.on hb3,hg.on hb3⟩
 obtain⟨g,eg⟩:∃ g,w§=g:=⟨_,rfl⟩
 have HG:Hid (w§=g):=eg
 rw [eg] at h3
 have HB:Hid (yD w W):=hb3
 have H3:Hid (Bx3 W S m s g):=h3
 have HI:Hid (∀ f,I64 (Sx.getN s f)):=hi
 have HL:Hid (StratL W S∧ModL W m):=⟨hl.on hb3,hm.on hb3⟩
 clear h3 hb3 hz3 eW hl hm hi ht hf hg eg
 go_enter Tryz.func6,Tryz.ntmps6
 go_upto_region 1 with fail
 rw [EW.out,HG.out]
 clear EW
 go_wp2_with fail
 refine (awake_any W HT.out.1 HT.out.2.1 HT.out.2.2).mono ?_
 rintro e w1 ⟨rfl,hb⟩
 have HB1:Hid (yD w w1):=below2 HB.out hb
 have H31:Hid (Bx3 w1 S m s g):=H3.out.on hb
 have HT1:Hid (Tab w1∧FTab w1∧Ety w1):=⟨HT.out.1.on hb,HT.out.2.1.on hb,HT.out.2.2.on hb⟩
 have HL1:Hid (StratL w1 S∧ModL w1 m):=⟨HL.out.1.on hb,HL.out.2.on hb⟩
 have cF:Calls zG 9 #[.agg S.vals,.agg m.vals,.agg zNo] w1 fun e w'=>(∃ f:Bool,e=.returned (.bool f)∧(f=false→StratZ S∧m.rg.length≤65536∧size nd0T≤65536))∧yD w1 w':=far_any S m nd0T w1 HL1.out.1 (lies0T w1)
 clear hb HB HT HL H3
 go_wp2_with (first | (refine wpList_load_row rfl 26 (.tmp 5) rfl g rfl 26 S.vals (0,0) _ H31.out.a Tryz.underlying26 rfl (size26 S) ?_) | (refine wpList_load_row rfl 29 (.tmp 6) rfl (g+1) rfl 29 m.vals (0,0) _ H31.out.b Tryz.underlying29 rfl (size29 m) ?_))
 refine cF.mono ?_
 rintro e w2 ⟨⟨f,rfl,hz⟩,hb⟩
 have HB2:Hid (yD w w2):=below2 HB1.out hb
 have H32:Hid (Bx3 w2 S m s g):=H31.out.on hb
 have HT2:Hid (Tab w2∧FTab w2∧Ety w2):=⟨HT1.out.1.on hb,HT1.out.2.1.on hb,HT1.out.2.2.on hb⟩
 have HL2:Hid (StratL w2 S∧ModL w2 m):=⟨HL1.out.1.on hb,HL1.out.2.on hb⟩
 have HZ:Hid (f=false→StratZ S∧m.rg.length≤65536∧size nd0T≤65536):=hz
 clear hb hz cF HB1 HT1 HL1 H31
 cases f with
 | true =>
  go_wp2_with fail
  go_ret
  exact⟨rfl,HB2.out⟩
 | false =>
 have HZ2:Hid (StratZ S∧m.rg.length≤65536):=⟨(HZ.out rfl).1,(HZ.out rfl).2.1⟩
 clear HZ
 have z0:w2.cell? ⟨g+1,0,none⟩=some (zI m.st):=cell_of H32.out.b 0
 have z1:w2.cell? g¢3=some (.slice S.ta S.ts.length S.tc):=cell_of H32.out.a 3
 go_upto_region 4 with fail
 clear e1 e2
 by_cases h1:m.st < 0
 ·go_wp2_with fail
  go_ret
  exact⟨rfl,HB2.out⟩
 by_cases h3:(S.ts.length:Int)≤m.st
 ·go_wp2_with fail
  go_ret
  exact⟨rfl,HB2.out⟩
 obtain⟨si,esi⟩:∃ si:Nat,m.st=(si:Int):=⟨m.st.toNat,(Int.toNat_of_nonneg (by omega)).symm⟩
 have hsi:si < S.ts.length:=by omega
 obtain⟨X,eX⟩:∃ X,S.ts[si]? = some X:=⟨_,List.getElem?_eq_getElem hsi⟩
 have hru:rulesOf S m.st=X.rs:=by unfold rulesOf; rw [esi,Int.toNat_natCast,eX]
 have HX:Hid (m.st=(si:Int)∧S.ts[si]? = some X∧rulesOf S m.st=X.rs∧si < S.ts.length):=⟨esi,eX,hru,hsi⟩
 go_upto_region 6 with fail
 clear h1 h3 z0 z1 esi hsi eX hru
 obtain⟨s',es'⟩:∃ s',bentS s f n=s':=⟨_,rfl⟩
 have ES:Hid (bentS s f n=s'):=es'
 have HI':Hid (∀ f,I64 (Sx.getN s' f)):=by show ∀ _,_; rw [← es']; exact bent_i64 HI.out HN.out HF.out.1 HF.out.2
 have cB:Calls zG 23 #[.agg (Sx.snA s),zU f,zI n] w2 fun e w'=>e=.returned (.agg #[zI s'.bid,zI s'.ask,zI s'.last,zI s'.vol,zI s'.now,zI s'.opn])∧yD w2 w':=by rw [← es']; exact bent_any s f n HF.out.1 HF.out.2 w2
 clear es'
 go_wp2_with (refine wpList_load_row rfl 31 (.tmp 7) rfl (g+2) rfl 31 (Sx.snA s) (0,0) _ H32.out.c Tryz.underlying31 rfl (size31 s) ?_)
 refine cB.mono ?_
 rintro e w3 ⟨rfl,hb1⟩
 have hb2:=below_new w3 (.cells #[zI s'.bid,zI s'.ask,zI s'.last,zI s'.vol,zI s'.now,zI s'.opn] 31)
 have hn2:=heap_new w3 (.cells #[zI s'.bid,zI s'.ask,zI s'.last,zI s'.vol,zI s'.now,zI s'.opn] 31)
 go_upto_region 7 with fail
 generalize w3.alloc (.cells #[zI s'.bid,zI s'.ask,zI s'.last,zI s'.vol,zI s'.now,zI s'.opn] 31)=W3 at hb2 hn2 ⊢
 generalize w3§=A at hn2 ⊢
 have hbb:=below2 hb1 hb2
 have HB3:Hid (yD w W3):=below2 HB2.out hbb
 have H33:Hid (Bx3 W3 S m s g):=H32.out.on hbb
 have HT3:Hid (Tab W3∧FTab W3∧Ety W3):=⟨HT2.out.1.on hbb,HT2.out.2.1.on hbb,HT2.out.2.2.on hbb⟩
 have HL3:Hid (StratL W3 S∧ModL W3 m):=⟨HL2.out.1.on hbb,HL2.out.2.on hbb⟩
 have HS3:Hid (W3.heap[A]? = (zC #[zI s'.bid,zI s'.ask,zI s'.last,zI s'.vol,zI s'.now,zI s'.opn] 31)):=hn2
 clear hb1 hb2 hn2 hbb cB
 have c1:Calls zG 14 #[.agg (Sx.snA s)] W3 fun e w'=>e=.returned (zI (Sx.chkN s))∧yD W3 w':=Sx.rcheck_any s W3
 obtain⟨K1,eK1⟩:∃ K,Sx.chkN s=K:=⟨_,rfl⟩
 have EK1:Hid (Sx.chkN s=K1):=eK1
 rw [eK1] at c1
 clear eK1
 go_wp2_with (refine wpList_load_row rfl 31 (.tmp 7) rfl (g+2) rfl 31 (Sx.snA s) (0,0) _ H33.out.c Tryz.underlying31 rfl (size31 s) ?_)
 refine c1.mono ?_
 rintro e w4 ⟨rfl,hb⟩
 have HB4:Hid (yD w w4):=below2 HB3.out hb
 have H34:Hid (Bx3 w4 S m s g):=H33.out.on hb
 have HT4:Hid (Tab w4∧FTab w4∧Ety w4):=⟨HT3.out.1.on hb,HT3.out.2.1.on hb,HT3.out.2.2.on hb⟩
 have HL4:Hid (StratL w4 S∧ModL w4 m):=⟨HL3.out.1.on hb,HL3.out.2.on hb⟩
 have HS4:Hid (w4.heap[A]? = (zC #[zI s'.bid,zI s'.ask,zI s'.last,zI s'.vol,zI s'.now,zI s'.opn] 31)):=heapOf hb HS3.out
 clear hb c1 HS3
 have c1:Calls zG 14 #[.agg #[zI s'.bid,zI s'.ask,zI s'.last,zI s'.vol,zI s'.now,zI s'.opn]] w4 fun e w'=>e=.returned (zI (Sx.chkN s'))∧yD w4 w':=Sx.rcheck_any s' w4
 obtain⟨K2,eK2⟩:∃ K,Sx.chkN s'=K:=⟨_,rfl⟩
 have EK2:Hid (Sx.chkN s'=K2):=eK2
 rw [eK2] at c1
 clear eK2
 go_wp2_with (refine wpList_load_row rfl 31 (.tmp 14) rfl A rfl 31 #[zI s'.bid,zI s'.ask,zI s'.last,zI s'.vol,zI s'.now,zI s'.opn] (0,0) _ HS4.out Tryz.underlying31 rfl zK ?_)
 refine c1.mono ?_
 rintro e w5 ⟨rfl,hb⟩
 have HB5:Hid (yD w w5):=below2 HB4.out hb
 have H35:Hid (Bx3 w5 S m s g):=H34.out.on hb
 have HT5:Hid (Tab w5∧FTab w5∧Ety w5):=⟨HT4.out.1.on hb,HT4.out.2.1.on hb,HT4.out.2.2.on hb⟩
 have HL5:Hid (StratL w5 S∧ModL w5 m):=⟨HL4.out.1.on hb,HL4.out.2.on hb⟩
 have HS5:Hid (w5.heap[A]? = (zC #[zI s'.bid,zI s'.ask,zI s'.last,zI s'.vol,zI s'.now,zI s'.opn] 31)):=heapOf hb HS4.out
 clear hb c1 HS4
 obtain⟨hsi2,eX2⟩:=List.getElem?_eq_some_iff.1 HX.out.2.1
 obtain⟨bb,o,ea,hat⟩:=HL5.out.1.2.2.2.2.1.2.2 si (by rw [List.length_map]; exact hsi2)
 simp only [List.getElem_map] at hat
 rw [eX2] at hat
 have y0:w5.cell? ⟨bb,o+si * 3,none⟩=some (.string X.x):=by have:=hat 0 (by omega); rw [Nat.add_zero] at this; exact this
 have y1:w5.cell? ⟨bb,o+si * 3+1,none⟩=some (.slice X.a X.rs.length X.c):=hat 1 (by omega)
 have y2:w5.cell? ⟨bb,o+si * 3+2,none⟩=some (zI X.p):=hat 2 (by omega)
 have y3:w5.cell? g¢3=some (.slice (some bb¢o) S.ts.length S.tc):=(cell_of H35.out.a 3).trans (congrArg (fun q=>some (Value.slice q S.ts.length S.tc)) ea)
 have y4:w5.cell? ⟨g+1,0,none⟩=some (zI (si:Int)):=(cell_of H35.out.b 0).trans (congrArg (fun q=>some (Value.int .i64 q)) HX.out.1)
 have hxl:=HL5.out.1.2.2.2.2.2.1 X (eX2 ▸ List.getElem_mem hsi2)
 have c1:Calls zG 24 #[.agg #[.string X.x,.slice X.a X.rs.length X.c,zI X.p],zU f] w5 fun e w'=>e=.returned (.bool (rdR f X.rs))∧yD w5 w':=names_any X f w5 hxl
 obtain⟨B,eB⟩:∃ B,rdR f X.rs=B:=⟨_,rfl⟩
 have EB:Hid (rdR f X.rs=B):=eB
 rw [eB] at c1
 have h0i:(0:Int)≤(si:Int):=by omega
 have hlt:(si:Int) < (S.ts.length:Int):=by have:=HX.out.2.2.2; omega
 clear hsi2 eX2 ea hat hxl eB
 go_wp2_with fail
 refine c1.mono ?_
 rintro e w6 ⟨rfl,hb⟩
 have HB6:Hid (yD w w6):=below2 HB5.out hb
 have H36:Hid (Bx3 w6 S m s g):=H35.out.on hb
 have HT6:Hid (Tab w6∧FTab w6∧Ety w6):=⟨HT5.out.1.on hb,HT5.out.2.1.on hb,HT5.out.2.2.on hb⟩
 have HL6:Hid (StratL w6 S∧ModL w6 m):=⟨HL5.out.1.on hb,HL5.out.2.on hb⟩
 have HS6:Hid (w6.heap[A]? = (zC #[zI s'.bid,zI s'.ask,zI s'.last,zI s'.vol,zI s'.now,zI s'.opn] 31)):=heapOf hb HS5.out
 clear hb c1 HS5 y0 y1 y2 y3 y4 h0i hlt
 by_cases k1:K1=0
 rotate_left
 ·go_wp2_with fail
  go_ret
  exact⟨rfl,HB6.out⟩
 by_cases k2:K2=0
 rotate_left
 ·go_wp2_with fail
  go_ret
  exact⟨rfl,HB6.out⟩
 cases B with
 | true =>
  go_wp2_with fail
  go_ret
  exact⟨rfl,HB6.out⟩
 | false =>
 have HTE:Hid (turnN S m s true=turnN S m s' true):=by
  show _=_
  have q2:=EK2.out
  rw [← ES.out] at q2
  rw [← ES.out]
  exact turn_bl HF.out.1 HF.out.2 (EK1.out.trans k1) (q2.trans k2) (by rw [HX.out.2.2.1]; exact EB.out)
 have HAC:Hid (Acs (turnN S m s true).ac):=turn_acs S m s true
 go_upto_region 12 with fail
 clear k1 k2
 obtain⟨r,hr⟩:∃ r,turnN S m s true=r:=⟨_,rfl⟩
 have HR2:Hid (turnN S m s' true=r):=HTE.out.symm.trans hr
 rw [hr] at HAC
 obtain⟨no,ru,rf,ac,su,co,st,rg⟩:=r
 replace HAC:Hid (Acs ac):=HAC
 have HA6:Hid (∀ y ∈ ac,6≤y.size):=fun y hy=>by
  obtain⟨k,o,s,p,n,z,e⟩:=HAC.out y hy
  rw [e]
  exact Nat.le_refl 6
 clear HTE
 have c1:Calls zG 20 #[.agg S.vals,.agg m.vals,.agg (Sx.snA s),.bool true] w6 (fun e w'=>∃ fa fc ka kc,e=.returned (.tuple #[.agg #[zI ru,.bool rf,.slice fa ac.length fc,zU su,zI co,zI 0],.agg #[zI st,.slice ka rg.length kc],zI no])∧SlAt w' 6 fa fc ac∧ModL w' ⟨st,ka,kc,rg⟩∧yD w6 w') :=
  turn_lit ⟨no,ru,rf,ac,su,co,st,rg⟩ hr HL6.out.1 HZ2.out.1 HL6.out.2 HZ2.out.2 HI.out HT6.out.1 HT6.out.2.1 HT6.out.2.2
 clear hr
 go_wp2_with (first | (refine wpList_load_row rfl 26 (.tmp 5) rfl g rfl 26 S.vals (0,0) _ H36.out.a Tryz.underlying26 rfl (size26 S) ?_) | (refine wpList_load_row rfl 29 (.tmp 6) rfl (g+1) rfl 29 m.vals (0,0) _ H36.out.b Tryz.underlying29 rfl (size29 m) ?_) | (refine wpList_load_row rfl 31 (.tmp 7) rfl (g+2) rfl 31 (Sx.snA s) (0,0) _ H36.out.c Tryz.underlying31 rfl (size31 s) ?_))
 refine c1.mono ?_
 rintro e w' ⟨fa,fc,ka,kc,rfl,hs,hm,hb1⟩
 obtain⟨hn3,hn4,hb2⟩:=two_new w' #[zI ru,.bool rf,.slice fa ac.length fc,zU su,zI co,zI 0] #[zI st,.slice ka rg.length kc] 59 29
 go_upto_region 13 with fail
 generalize (w'.alloc (.cells #[zI ru,.bool rf,.slice fa ac.length fc,zU su,zI co,zI 0] 59)).alloc (.cells #[zI st,.slice ka rg.length kc] 29)=W7 at hb2 hn3 hn4 ⊢
 generalize w'§=Q at hn3 hn4 ⊢
 have hbb:=below2 hb1 hb2
 have HB7:Hid (yD w W7):=below2 HB6.out hbb
 have H37:Hid (Bx3 W7 S m s g):=H36.out.on hbb
 have HT7:Hid (Tab W7∧FTab W7∧Ety W7):=⟨HT6.out.1.on hbb,HT6.out.2.1.on hbb,HT6.out.2.2.on hbb⟩
 have HL7:Hid (StratL W7 S∧ModL W7 m):=⟨HL6.out.1.on hbb,HL6.out.2.on hbb⟩
 have HS7:Hid (W7.heap[A]? = (zC #[zI s'.bid,zI s'.ask,zI s'.last,zI s'.vol,zI s'.now,zI s'.opn] 31)):=heapOf hbb HS6.out
 have HX7:Hid (W7.heap[Q]? = (zC #[zI ru,.bool rf,.slice fa ac.length fc,zU su,zI co,zI 0] 59)∧W7.heap[Q+1]? = (zC #[zI st,.slice ka rg.length kc] 29)∧ModL W7 ⟨st,ka,kc,rg⟩∧SlAt W7 6 fa fc ac):=⟨hn3,hn4,hm.on hb2,hs.on HA6.out hb2⟩
 clear hs hm hb1 hb2 hn3 hn4 hbb c1 HS6
 have c2:Calls zG 20 #[.agg S.vals,.agg m.vals,.agg #[zI s'.bid,zI s'.ask,zI s'.last,zI s'.vol,zI s'.now,zI s'.opn],.bool true] W7 (fun e w'=>∃ fa fc ka kc,e=.returned (.tuple #[.agg #[zI ru,.bool rf,.slice fa ac.length fc,zU su,zI co,zI 0],.agg #[zI st,.slice ka rg.length kc],zI no])∧SlAt w' 6 fa fc ac∧ModL w' ⟨st,ka,kc,rg⟩∧yD W7 w') :=
  turn_lit (s:=s') ⟨no,ru,rf,ac,su,co,st,rg⟩ HR2.out HL7.out.1 HZ2.out.1 HL7.out.2 HZ2.out.2 HI'.out HT7.out.1 HT7.out.2.1 HT7.out.2.2
 go_wp2_with (first | (refine wpList_load_row rfl 26 (.tmp 5) rfl g rfl 26 S.vals (0,0) _ H37.out.a Tryz.underlying26 rfl (size26 S) ?_) | (refine wpList_load_row rfl 29 (.tmp 6) rfl (g+1) rfl 29 m.vals (0,0) _ H37.out.b Tryz.underlying29 rfl (size29 m) ?_) | (refine wpList_load_row rfl 31 (.tmp 14) rfl A rfl 31 #[zI s'.bid,zI s'.ask,zI s'.last,zI s'.vol,zI s'.now,zI s'.opn] (0,0) _ HS7.out Tryz.underlying31 rfl zK ?_))
 refine c2.mono ?_
 rintro e w' ⟨fb,fd,kb,kd,rfl,hs,hm,hb1⟩
 obtain⟨hn3,hn4,hb2⟩:=two_new w' #[zI ru,.bool rf,.slice fb ac.length fd,zU su,zI co,zI 0] #[zI st,.slice kb rg.length kd] 59 29
 go_upto_region 14 with fail
 generalize (w'.alloc (.cells #[zI ru,.bool rf,.slice fb ac.length fd,zU su,zI co,zI 0] 59)).alloc (.cells #[zI st,.slice kb rg.length kd] 29)=W8 at hb2 hn3 hn4 ⊢
 generalize w'§=R at hn3 hn4 ⊢
 have hbb:=below2 hb1 hb2
 have HB8:Hid (yD w W8):=below2 HB7.out hbb
 have HX8:Hid (W8.heap[Q]? = (zC #[zI ru,.bool rf,.slice fa ac.length fc,zU su,zI co,zI 0] 59)∧W8.heap[Q+1]? = (zC #[zI st,.slice ka rg.length kc] 29)∧ModL W8 ⟨st,ka,kc,rg⟩∧SlAt W8 6 fa fc ac):=⟨heapOf hbb HX7.out.1,heapOf hbb HX7.out.2.1,HX7.out.2.2.1.on hbb,HX7.out.2.2.2.on HA6.out hbb⟩
 have HY8:Hid (W8.heap[R]? = (zC #[zI ru,.bool rf,.slice fb ac.length fd,zU su,zI co,zI 0] 59)∧W8.heap[R+1]? = (zC #[zI st,.slice kb rg.length kd] 29)∧ModL W8 ⟨st,kb,kd,rg⟩∧SlAt W8 6 fb fd ac):=⟨hn3,hn4,hm.on hb2,hs.on HA6.out hb2⟩
 clear hs hm hb1 hb2 hn3 hn4 hbb c2 HX7 HS7
 have c4:Calls zG 22 #[.agg #[zI ru,.bool rf,.slice fa ac.length fc,zU su,zI co,zI 0],.agg #[zI ru,.bool rf,.slice fb ac.length fd,zU su,zI co,zI 0],.bool true] W8 fun e w'=>e=.returned (.bool true)∧yD W8 w':=sameFir_eq ⟨no,ru,rf,ac,su,co,st,rg⟩ fa fc fb fd W8 HAC.out HX8.out.2.2.2 HY8.out.2.2.2
 go_wp2_with (first | (refine wpList_load_row rfl 59 (.tmp 18) rfl Q rfl 59 #[zI ru,.bool rf,.slice fa ac.length fc,zU su,zI co,zI 0] (0,0) _ HX8.out.1 Tryz.underlying59 rfl (size59 ..) ?_) | (refine wpList_load_row rfl 59 (.tmp 21) rfl R rfl 59 #[zI ru,.bool rf,.slice fb ac.length fd,zU su,zI co,zI 0] (0,0) _ HY8.out.1 Tryz.underlying59 rfl (size59 ..) ?_))
 refine c4.mono ?_
 rintro e w9 ⟨rfl,hb⟩
 have HB9:Hid (yD w w9):=below2 HB8.out hb
 have HX9:Hid (w9.heap[Q+1]? = (zC #[zI st,.slice ka rg.length kc] 29)∧w9.heap[R+1]? = (zC #[zI st,.slice kb rg.length kd] 29)):=⟨heapOf hb HX8.out.2.1,heapOf hb HY8.out.2.1⟩
 have c5:Calls zG 21 #[.agg #[zI st,.slice ka rg.length kc],.agg #[zI st,.slice kb rg.length kd]] w9 fun e w'=>e=.returned (.bool true)∧yD w9 w':=by
  have c:=sameMode_any ⟨st,ka,kc,rg⟩ ⟨st,kb,kd,rg⟩ w9 (HX8.out.2.2.1.on hb) (HY8.out.2.2.1.on hb)
  rw [decide_eq_true (by exact⟨rfl,rfl⟩)] at c
  exact c
 clear hb c4 HX8 HY8
 go_wp2_with (first | (refine wpList_load_row rfl 29 (.tmp 19) rfl (Q+1) rfl 29 #[zI st,.slice ka rg.length kc] (0,0) _ HX9.out.1 Tryz.underlying29 rfl (size29v ..) ?_) | (refine wpList_load_row rfl 29 (.tmp 22) rfl (R+1) rfl 29 #[zI st,.slice kb rg.length kd] (0,0) _ HX9.out.2 Tryz.underlying29 rfl (size29v ..) ?_))
 refine c5.mono ?_
 rintro e w10 ⟨rfl,hb⟩
 have HB10:Hid (yD w w10):=below2 HB9.out hb
 clear hb c5
 go_wp2_with fail
 go_ret
 exact⟨rfl,HB10.out⟩
end Go.Proofs.YtfbjofnaghjmeaaGreatDoor
