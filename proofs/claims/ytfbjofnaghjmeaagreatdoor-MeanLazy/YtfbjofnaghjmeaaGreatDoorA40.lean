import Derived.Test.YtfbjofnaghjmeaaGreatDoorA39
import Derived.Test.YtfbjofnaghjmeaaGreatDoorA38
namespace Go.Proofs.YtfbjofnaghjmeaaGreatDoor
open Go.Proofs.Tryz
set_option maxRecDepth 100000
set_option maxHeartbeats 4000000
open Go Go.RowKit
set_option linter.unusedVariables false
set_option linter.unusedSimpArgs false
def mvT:Except Int Int→Int × Int
 | .ok v=>(v,0)
 | .error c=>(0,c)
theorem QdJ {w:yW}{r:Except Int Int}(p q:Addr)
  (cF:Calls zG 36 #[.pointer (some p),.pointer (some q)] (zA w #[zI 0] 41) (OutV (zA w #[zI 0] 41) r)) :
  Calls zG 35 #[.func (.func 36) #[] #[.pointer (some p),.pointer (some q)]] w fun e w'=>e=.returned (.tuple #[zI (mvT r).1,zI (mvT r).2])∧yD w w':=by
 have hmf:∀ (fn:Fn) (first cap:Array Value) (w:yW),(Instr.makeFunc fn first cap).run zG w=.ok (.func fn first cap) w:=fun _ _ _ _=>rfl
 have b1:=Qb w (.cells #[zI 0] 41)
 have n1:=Qc w (.cells #[zI 0] 41)
 obtain⟨W,eW⟩:∃ W,w.alloc (.cells #[zI 0] 41)=W:=jV
 have EW:=zH eW
 rw [eW] at b1 cF n1
 have HB:=zH b1
 have HN:=zH n1
 clear b1 eW n1
 rcases r with c | i
 ·replace cF:Calls zG 36 #[.pointer (some p),.pointer (some q)] W (fun e w'=>e=fltE c∧yD W w'):=cF
  go_enter_defers func35,ntmps35
  go_wp2_with fail
  try rw [EW.out]
  refine cF.mono ?_
  rintro e w3 ⟨rfl,hb3⟩
  have g1:w3.heap[w§]? = (zC #[zI 0] 41):=heapOf hb3 HN.out
  refine leaves_cons (f:=67) (args:=#[zP w§]) (by simp) (by simp [go_sem]) ?_
  refine (QcK _ _ c [] w3 g1).mono ?_
  rintro e u' Z ⟨rfl,rfl,rfl⟩
  exact⟨_,Qg3 (v:=0) (Qp (j:=0) _ g1) rfl rfl,rfl,(Qd HB.out hb3).setCell (p:=w§¢0) (Nat.le_refl _) _⟩
 ·replace cF:Calls zG 36 #[.pointer (some p),.pointer (some q)] W (fun e w'=>e=.returned (zI i)∧yD W w'):=cF
  go_enter_defers func35,ntmps35
  go_wp2_with fail
  try rw [EW.out]
  refine cF.mono ?_
  rintro e w3 ⟨rfl,hb3⟩
  have g1:w3.heap[w§]? = (zC #[zI 0] 41):=heapOf hb3 HN.out
  have HT:Hid (yD w w3∧w3.heap[w§]? = (zC #[zI 0] 41)):=⟨Qd HB.out hb3,g1⟩
  have z0:zQ w3 w§¢0 (zI 0):=Qa g1 0
  have f0:=Qf g1 0
  clear hb3 g1 cF
  go_wp2_with fail
  refine leaves_cons (f:=67) (args:=#[zP w§]) (by simp) (by simp [go_sem]) ?_
  refine (QcL w§¢0 _).mono ?_
  rintro e u' Z ⟨rfl,rfl,rfl⟩
  exact⟨_,Qg3 (v:=i) (Qp (j:=0) _ HT.out.2) rfl rfl,rfl,HT.out.1.setCell (p:=w§¢0) (Nat.le_refl _) _⟩
theorem val36 {w:yW}{b q:Nat}{s:Sx.Sn}{G:yB→Option Int}{n:Nd}(hi:∀ f,I64 (Sx.getN s f)) (hv:Sv w b s G) (hq:w.heap[q]? = (zC n.vals 38)) (hl:Lies w n) (hr:Res G n) :
  Calls zG 36 #[zP b,zP q] w (OutV w (valR s G n)):=by
 have cV:Calls zG 37 #[zP b,.agg n.vals] w (OutV w (valR s G n)):=Jx hi n w hv hl hr
 have HQ:=zH hq
 obtain⟨R,eR⟩:∃ R,valR s G n=R:=jV
 rw [eR] at cV ⊢
 clear hi hv hq hl hr eR
 rcases R with c | i
 ·replace cV:Calls zG 37 #[zP b,.agg n.vals] w (fun e w'=>e=fltE c∧yD w w'):=cV
  go_enter func36,ntmps36
  go_wp2_with (refine wpList_load_row rfl 38 _ rfl q rfl 38 n.vals (0,0) _ HQ.out underlying38 rfl UJ ?_)
  refine cV.mono ?_
  rintro e w3 ⟨rfl,hb3⟩
  exact⟨rfl,rfl,hb3⟩
 ·replace cV:Calls zG 37 #[zP b,.agg n.vals] w (fun e w'=>e=.returned (zI i)∧yD w w'):=cV
  go_enter func36,ntmps36
  go_wp2_with (refine wpList_load_row rfl 38 _ rfl q rfl 38 n.vals (0,0) _ HQ.out underlying38 rfl UJ ?_)
  refine cV.mono ?_
  rintro e w3 ⟨rfl,hb3⟩
  go_wp2
  go_ret
  exact⟨rfl,hb3⟩
structure Bx4 (w:yW) (S:Qg) (n:Nd) (m:ModM) (s:Sx.Sn) (g:Nat):Prop where
 a:w.heap[g]? = (zC S.vals 26)
 n:w.heap[g+1]? = (zC n.vals 38)
 b:w.heap[g+2]? = (zC m.vals 29)
 c:w.heap[g+3]? = (zC (Sx.snA s) 31)
theorem Bx4.on {w w':yW}{S:Qg}{n:Nd}{m:ModM}{s:Sx.Sn}{g:Nat}(h:Bx4 w S n m s g) (k:yD w w'):Bx4 w' S n m s g:=⟨heapOf k h.a,heapOf k h.n,heapOf k h.b,heapOf k h.c⟩
theorem QgQ (w:yW) (S:Qg) (n:Nd) (m:ModM) (s:Sx.Sn):Bx4 ((((zA w S.vals 26).alloc (.cells n.vals 38)).alloc (.cells m.vals 29)).alloc (.cells (Sx.snA s) 31)) S n m s w§ ∧
  yD w ((((zA w S.vals 26).alloc (.cells n.vals 38)).alloc (.cells m.vals 29)).alloc (.cells (Sx.snA s) 31)):=by
 have b1:=Qb w (.cells S.vals 26)
 have n1:=Qc w (.cells S.vals 26)
 have z1:=Qe w (.cells S.vals 26)
 obtain⟨w1,e1⟩:∃ W,w.alloc (.cells S.vals 26)=W:=jV
 rw [e1] at b1 n1 z1 ⊢
 have b2:=Qb w1 (.cells n.vals 38)
 have n2:=Qc w1 (.cells n.vals 38)
 have z2:=Qe w1 (.cells n.vals 38)
 obtain⟨w2,e2⟩:∃ W,w1.alloc (.cells n.vals 38)=W:=jV
 rw [e2] at b2 n2 z2 ⊢
 have b3:=Qb w2 (.cells m.vals 29)
 have n3:=Qc w2 (.cells m.vals 29)
 have z3:=Qe w2 (.cells m.vals 29)
 obtain⟨w3,e3⟩:∃ W,w2.alloc (.cells m.vals 29)=W:=jV
 rw [e3] at b3 n3 z3 ⊢
 have b4:=Qb w3 (.cells (Sx.snA s) 31)
 have n4:=Qc w3 (.cells (Sx.snA s) 31)
 rw [z1] at n2
 rw [z2,z1] at n3
 rw [z3,z2,z1] at n4
 exact⟨⟨heapOf b4 (heapOf b3 (heapOf b2 n1)),heapOf b4 (heapOf b3 n2),heapOf b4 n3,n4⟩,Qd (Qd b1 b2) (Qd b3 b4)⟩
def mvN (S:Qg) (n:Nd) (m:ModM) (s:Sx.Sn):Int × Int :=
 if wrN S m s=0 then (match ofE S n with
  | .error e=>(0,e.2)
  | .ok _=>mvT (valR s (gOf (plL (S.rs.map RegM.x)) m.rg) n)) else (0,wrN S m s)
theorem Qdm {w:yW}{b:Nat}{s:Sx.Sn}{rb n mb:Nat}(h:w.heap[b]? = (zC (siA s rb n mb) 91)):Sx.SnAt w b s :=
 ⟨Qa h 0,Qa h 1,Qa h 2,Qa h 3,Qa h 4,Qa h 5⟩
theorem Qdr {w:yW}{b rb mb:Nat}{s:Sx.Sn}{S:Qg}{m:ModM}(h:w.heap[b]? = (zC (siA s rb m.rg.length mb) 91)) (hr:w.heap[rb]? = (zC (QX m.rg) 2)) (hp:PlM w mb (plL (S.rs.map RegM.x))) (hi:∀ v ∈ m.rg,I64 v) (hn:m.rg.length=S.rs.length) :
  Sv w b s (gOf (plL (S.rs.map RegM.x)) m.rg):=by
 refine⟨Qdm h,fun y v hy hv=>?_⟩
 unfold gOf at hv
 cases e:plL (S.rs.map RegM.x) y with
 | none=>rw [e] at hv;cases hv
 | some i =>
  rw [e] at hv
  have hv:m.rg[i]? = some v:=hv
  have hlt:i < m.rg.length:=(List.getElem?_eq_some_iff.1 hv).1
  obtain⟨n,D,ho,hk⟩:=hp
  exact⟨hi _ (List.mem_of_getElem? hv),rb,0,m.rg.length,m.rg.length,mb,i,n,D,Qa h 6,Qa h 7,ho,hk y i hy e,hlt,by rw [Nat.zero_add];exact (Qa hr i).trans (Ud hv)⟩
set_option maxHeartbeats 16000000
theorem Fi {S:Qg}{m:ModM}(h:isMo S m=true):m.rg.length=S.rs.length:=by
 unfold isMo at h
 simp only [Bool.and_eq_true,decide_eq_true_eq] at h
 exact h.2.2.1
theorem Pv {S:Qg}{m:ModM}{s:Sx.Sn}(h:wrN S m s=0):erN S=0∧isMo S m=true:=by
 unfold wrN at h
 by_cases h1:erN S=0
 ·rw [if_pos h1] at h
  by_cases h2:isMo S m=true
  ·exact⟨h1,h2⟩
  ·rw [if_neg h2] at h;exact absurd h (by decide)
 ·rw [if_neg h1] at h;exact absurd h h1
theorem KD (S:Qg) (n:Nd) (m:ModM) (s:Sx.Sn) (w:yW) (hl:Qr w S) (hz:Q2 S) (hd:Lies w n) (hsz:size n≤1000000000000) (hm:ModL w m) (hn:m.rg.length≤65536) (hi:∀ f,I64 (Sx.getN s f)) (ht:Tab w) (hf:FTab w) (hg:Ety w) :
  Calls zG 11 #[.agg S.vals,.agg n.vals,.agg m.vals,.agg (Sx.snA s)] w fun e w'=>e=.returned (.tuple #[zI (mvN S n m s).1,zI (mvN S n m s).2])∧yD w w':=by
 obtain⟨h4,hb4⟩:=QgQ w S n m s
 obtain⟨W,eW⟩:∃ W,(((zA w S.vals 26).alloc (.cells n.vals 38)).alloc (.cells m.vals 29)).alloc (.cells (Sx.snA s) 31)=W:=jV
 have EW:=zH eW
 rw [eW] at h4 hb4
 have HB:=zH hb4
 have H4:=zH h4
 have HL:Hid (Qr w S∧Lies w n∧ModL w m∧Tab w∧FTab w∧Ety w∧Q2 S):=⟨hl,hd,hm,ht,hf,hg,hz⟩
 have HI:=zH hi
 have HZ:Hid (size n≤1000000000000∧m.rg.length≤65536):=⟨hsz,hn⟩
 have cW:Calls zG 31 #[.agg S.vals,.agg m.vals,.agg (Sx.snA s)] W fun e w'=>e=.returned (zI (wrN S m s))∧yD W w':=Vh S m s W (hl.on hb4) hz (hm.on hb4) (ht.on hb4) (hf.on hb4) (hg.on hb4)
 obtain⟨g,eg⟩:∃ g,w§=g:=jV
 have HG:Hid (w§=g):=eg
 rw [eg] at H4
 obtain⟨E,eE⟩:∃ E,wrN S m s=E:=jV
 have HE:Hid (wrN S m s=E):=eE
 rw [eE] at cW
 obtain⟨M,eM⟩:∃ M,mvN S n m s=M:=jV
 have HMV:Hid (mvN S n m s=M):=eM
 rw [eM]
 clear h4 hb4 eW hl hd hm ht hf hg hz hi hsz hn eE eM
 go_enter func11,ntmps11
 go_upto_region 1 with fail
 rw [EW.out]
 try rw [eg]
 clear EW eg
 go_wp2_with (first | (refine wpList_load_row rfl 26 (.tmp 4) rfl g rfl 26 S.vals (0,0) _ H4.out.a underlying26 rfl (Jo S) ?_) | (refine wpList_load_row rfl 38 (.tmp 5) rfl (g+1) rfl 38 n.vals (0,0) _ H4.out.n underlying38 rfl UJ ?_) | (refine wpList_load_row rfl 29 (.tmp 6) rfl (g+2) rfl 29 m.vals (0,0) _ H4.out.b underlying29 rfl (Jz m) ?_) | (refine wpList_load_row rfl 31 (.tmp 7) rfl (g+3) rfl 31 (Sx.snA s) (0,0) _ H4.out.c underlying31 rfl (KL s) ?_))
 refine cW.mono ?_
 rintro e w1 ⟨rfl,hb⟩
 have HB1:=zH (Qd HB.out hb)
 have H41:Hid (Bx4 w1 S n m s g):=H4.out.on hb
 clear cW hb H4
 by_cases h0:E=0
 ·subst h0
  have cO:Calls zG 32 #[.agg S.vals,.agg n.vals] w1 (OutT w1 (ofE S n)):=Qh5 S n w1 (HL.out.1.on HB1.out) (HL.out.2.1.on HB1.out) HZ.out.1 (HL.out.2.2.2.1.on HB1.out) (HL.out.2.2.2.2.1.on HB1.out)
  go_wp2_with (first | (refine wpList_load_row rfl 26 (.tmp 4) rfl g rfl 26 S.vals (0,0) _ H41.out.a underlying26 rfl (Jo S) ?_) | (refine wpList_load_row rfl 38 (.tmp 5) rfl (g+1) rfl 38 n.vals (0,0) _ H41.out.n underlying38 rfl UJ ?_) | (refine wpList_load_row rfl 29 (.tmp 6) rfl (g+2) rfl 29 m.vals (0,0) _ H41.out.b underlying29 rfl (Jz m) ?_) | (refine wpList_load_row rfl 31 (.tmp 7) rfl (g+3) rfl 31 (Sx.snA s) (0,0) _ H41.out.c underlying31 rfl (KL s) ?_))
  refine cO.mono ?_
  rintro e w2 (⟨t,hT,rfl,hb⟩ | ⟨p,no,b,hT,rfl,hlb,hF,hb⟩)
  ·have HB2:Hid (yD w w2):=Qd HB1.out hb
   have H42:Hid (Bx4 w2 S n m s g):=H41.out.on hb
   have HR:Hid (Res (gOf (plL (S.rs.map RegM.x)) m.rg) n):=by
    have hc:cE n=0:=by
     have h:=hT
     unfold ofE at h
     by_cases hc:cE n=0
     ·exact hc
     ·rw [if_neg hc] at h;cases h
    have hty:tyR (regL S.rs) n=.ok t:=by
     have h:=hT
     unfold ofE at h
     rw [if_pos hc] at h;exact h
    refine Qag (L:=regL S.rs) (fun y hy=>?_) n (UV hc) ⟨t,hty⟩
    have h1:=X4 hy
    obtain⟨i,hi⟩:=Option.isSome_iff_exists.1 h1
    unfold gOf
    rw [hi]
    have hlt:=Hs hi
    rw [List.length_map,← Fi (Pv HE.out).2] at hlt
    show (m.rg[i]?).isSome=true
    rw [List.getElem?_eq_getElem hlt];rfl
   have HM:Hid (mvN S n m s=mvT (valR s (gOf (plL (S.rs.map RegM.x)) m.rg) n)):=by
    show _=_
    unfold mvN
    rw [if_pos HE.out,hT]
   clear cO hT hb H41
   have cL:Calls zG 34 #[.agg S.vals,.agg m.vals,.agg (Sx.snA s)] w2 fun e w'=>∃ rb mb,e=.returned (.agg (siA s rb m.rg.length mb))∧w2§≤rb∧w2§≤mb∧w'.heap[rb]? = (zC (QX m.rg) 2)∧PlM w' mb (plL (S.rs.map RegM.x))∧yD w2 w':=Fd S m s w2 (HL.out.1.on HB2.out) (fun d hd=>XZ ((HL.out.1.2.1 d hd).2.2.2)) (HL.out.2.2.1.on HB2.out) HZ.out.2
   go_wp2_with (first | (refine wpList_load_row rfl 26 (.tmp 4) rfl g rfl 26 S.vals (0,0) _ H42.out.a underlying26 rfl (Jo S) ?_) | (refine wpList_load_row rfl 38 (.tmp 5) rfl (g+1) rfl 38 n.vals (0,0) _ H42.out.n underlying38 rfl UJ ?_) | (refine wpList_load_row rfl 29 (.tmp 6) rfl (g+2) rfl 29 m.vals (0,0) _ H42.out.b underlying29 rfl (Jz m) ?_) | (refine wpList_load_row rfl 31 (.tmp 7) rfl (g+3) rfl 31 (Sx.snA s) (0,0) _ H42.out.c underlying31 rfl (KL s) ?_))
   refine cL.mono ?_
   rintro e w3 ⟨rb,mb,rfl,hr1,hm1,hr2,hm2,hb⟩
   have HB3:=zH (Qd HB2.out hb)
   have H43:Hid (Bx4 w3 S n m s g):=H42.out.on hb
   have HRB:=zH hr2
   have HMB:=zH hm2
   clear cL hr1 hm1 hr2 hm2 hb H42
   have b5:=Qb w3 (.cells zu 91)
   have n5:=Qc w3 (.cells zu 91)
   have HN:=zH n5
   have HB5:=zH b5
   clear b5 n5
   go_upto_region 8 with (refine wpList_store_row rfl 91 (.tmp 13) (.tmp 34) rfl w3§ (siA s rb m.rg.length mb) rfl rfl 91 _ HN.out (FT ..) rfl (Qhm ..) ?_)
   generalize hWX:World.setRow _ _ _=WX
   have hWY:(zA w3 zu 91).setRow w3§ (siA s rb m.rg.length mb)=WX:=hWX
   have hwx:WX.heap[w3§]? = (zC (siA s rb m.rg.length mb) 91):=by rw [← hWY];exact setRow_heap _ _ _ _ _ _ HN.out
   have hbx:yD w3 WX:=by rw [← hWY];exact Qn HB5.out (Nat.le_refl _) _
   have hsv:Sv WX w3§ s (gOf (plL (S.rs.map RegM.x)) m.rg):=Qdr hwx (heapOf hbx HRB.out) (HMB.out.blk (hbx.block _ HMB.out.lt)) HL.out.2.2.1.2.1 (Fi (Pv HE.out).2)
   have HBX:=zH (Qd HB3.out hbx)
   have H4X:Hid (Bx4 WX S n m s g):=H43.out.on hbx
   have bA:=Qb WX (.cells #[zI 0] 41)
   have cR:Calls zG 35 #[.func (.func 36) #[] #[zP w3§,.pointer (some ⟨g+1,0,none⟩)]] WX fun e w'=>e=.returned (.tuple #[zI (mvT (valR s (gOf (plL (S.rs.map RegM.x)) m.rg) n)).1,zI (mvT (valR s (gOf (plL (S.rs.map RegM.x)) m.rg) n)).2])∧yD WX w' :=
    QdJ _ _ (val36 HI.out (hsv.on bA) ((H4X.out.on bA).n) ((HL.out.2.1.on HBX.out).on bA) HR.out)
   rw [← HM.out,HMV.out] at cR
   obtain⟨q,eq⟩:∃ q,w3§=q:=jV
   rw [eq] at cR ⊢
   clear hWX hWY hwx hbx hsv bA HN HB5 HRB HMB HB3 H43 eq HM HR
   have hmf:∀ (fn:Fn) (first cap:Array Value) (w:yW),(Instr.makeFunc fn first cap).run zG w=.ok (.func fn first cap) w:=fun _ _ _ _=>rfl
   go_wp2_with fail
   refine cR.mono ?_
   rintro e w6 ⟨rfl,hb⟩
   have HB6:=zH (Qd HBX.out hb)
   clear cR hb hmf
   go_wp2
   go_ret2
   exact⟨rfl,HB6.out⟩
  ·have HB2:Hid (yD w w2):=Qd HB1.out hb
   have HM:Hid (mvN S n m s=(0,no)):=by
    show _=_
    unfold mvN
    rw [if_pos HE.out,hT]
   have cE:Calls zG 33 #[.iface 184 (zP b)] w2 fun e w'=>e=.returned (zI no)∧yD w2 w':=Vp hF.er (HL.out.2.2.2.2.2.1.on HB2.out)
   clear cO hT hlb hF hb
   go_wp2_with fail
   refine cE.mono ?_
   rintro e w3 ⟨rfl,hb⟩
   have HB3:=zH (Qd HB2.out hb)
   clear hb cE
   go_wp2
   go_ret2
   exact⟨by rw [← HMV.out,HM.out];rfl,HB3.out⟩
 ·have HM:Hid (mvN S n m s=(0,E)):=by
   show _=_
   unfold mvN
   rw [HE.out,if_neg h0]
  go_wp2
  go_ret2
  exact⟨by rw [← HMV.out,HM.out];rfl,HB1.out⟩
def cndN (r:Nat) (a b c:Nd):Nd:=.mk ⟨7,0,0,0,0,⟨#[]⟩,0⟩ (some r¢0) 3 [a,b,c]
def notN (r:Nat) (a:Nd):Nd:=.mk ⟨5,2,0,0,0,⟨#[]⟩,0⟩ (some r¢0) 1 [a]
def prN (r:Nat) (o:Int) (a b:Nd):Nd:=.mk ⟨6,o,0,0,0,⟨#[]⟩,0⟩ (some r¢0) 2 [a,b]
def vR (S:Qg) (m:ModM) (s:Sx.Sn) (n:Nd):Except Int Int:=valR s (gOf (plL (S.rs.map RegM.x)) m.rg) n
theorem QfZ {S:Qg}{m:ModM}{s:Sx.Sn}(h:wrN S m s=0):RegK S m.rg:=⟨QfY (er_0 (Pv h).1),(Qbt (Pv h).2).2.2.1,(Qbt (Pv h).2).2.2.2⟩
theorem Q9 {S:Qg}{n:Nd}{t:Int}(h:ofE S n=.ok t):Qw n=true∧tyR (regL S.rs) n=.ok t:=by
 unfold ofE at h
 by_cases hc:cE n=0
 ·rw [if_pos hc] at h
  exact⟨UV hc,h⟩
 ·rw [if_neg hc] at h;cases h
theorem QgS {S:Qg}{m:ModM}{s:Sx.Sn}{a:Nd}{x:Int}(hw:wrN S m s=0) (h:ofE S a=.ok 5) (hv:vR S m s a=.ok x):x=0∨x=1:=by
 have h1:=Qhq (s:=s) (G:=gOf (plL (S.rs.map RegM.x)) m.rg) ((QfZ hw).ty (s:=s)) a (Q9 h).1 5 x (Q9 h).2 hv
 unfold Q3 at h1
 simpa using h1
theorem Qbp {S:Qg}{m:ModM}{s:Sx.Sn}{n:Nd}{t:Int}(hw:wrN S m s=0) (h:ofE S n=.ok t):mvN S n m s=mvT (vR S m s n):=by
 unfold mvN
 rw [if_pos hw,h];rfl
theorem Qbq {S:Qg}{m:ModM}{s:Sx.Sn}{n:Nd}{e:Int × Int}(hw:wrN S m s=0) (h:ofE S n=.error e):mvN S n m s=(0,e.2):=by
 unfold mvN
 rw [if_pos hw,h]
theorem Qhc {S:Qg}{h:Hd}{A:Option Addr}{C:Nat}{ks:List Nd}{ts:List Int}(hk:(h.k == 2)=false) (hf:Qw (.mk h A C ks)=true) (ht:tysR (regL S.rs) ks=.ok ts) :
  ofE S (.mk h A C ks)=if dep (.mk h A C ks)≤24 then (if (fitT h ks.length (ts.getD 0 0) (ts.getD 1 0) (ts.getD 2 0)).2=true then .ok (fitT h ks.length (ts.getD 0 0) (ts.getD 1 0) (ts.getD 2 0)).1 else .error (h.p,152)) else .error (0,122):=by
 unfold ofE cE
 rw [if_pos hf]
 by_cases hd:dep (.mk h A C ks)≤24
 ·rw [if_pos hd,if_pos rfl,if_pos hd]
  unfold tyR
  simp only [ht,hk]
  rfl
 ·rw [if_neg hd,if_neg hd];rfl
theorem kids3 {S:Qg}{a b c:Nd}{t u v:Int}(ha:tyR (regL S.rs) a=.ok t) (hb:tyR (regL S.rs) b=.ok u) (hc:tyR (regL S.rs) c=.ok v):tysR (regL S.rs) [a,b,c]=.ok [t,u,v]:=by
 simp only [tysR,ha,hb,hc]
theorem kids2 {S:Qg}{a b:Nd}{t u:Int}(ha:tyR (regL S.rs) a=.ok t) (hb:tyR (regL S.rs) b=.ok u):tysR (regL S.rs) [a,b]=.ok [t,u]:=by
 simp only [tysR,ha,hb]
theorem QeO (r:Nat) {a b c:Nd}(ha:Qw a=true) (hb:Qw b=true) (hc:Qw c=true):Qw (cndN r a b c)=true:=by
 unfold cndN;simp only [Qw,Q1,ha,hb,hc];rfl
theorem QeM (r:Nat) {a:Nd}(ha:Qw a=true):Qw (notN r a)=true:=by
 unfold notN;simp only [Qw,Q1,ha];rfl
theorem Qgr (r:Nat) {o:Int}{a b:Nd}(ha:Qw a=true) (hb:Qw b=true) (ho:o=17∨o=18):Qw (prN r o a b)=true:=by
 unfold prN;simp only [Qw,Q1,ha,hb];rcases ho with rfl | rfl <;> rfl
theorem Qhs {S:Qg}(r:Nat) {a:Nd}(ha:tyR (regL S.rs) a=.ok 5):tyR (regL S.rs) (notN r a)=.ok 5:=by
 unfold notN tyR;simp only [tysR,ha];rfl
theorem Qek {S:Qg}{m:ModM}{s:Sx.Sn}(hw:wrN S m s=0) (r:Nat) {a b c:Nd}{u v:Int}(fa:Qw a=true) (ta:tyR (regL S.rs) a=.ok 5) (hb:ofE S b=.ok u) (hc:ofE S c=.ok v) :
  (mvN S (cndN r a b c) m s).2=152∨(mvN S (cndN r a b c) m s).2=122∨mvN S (cndN r a b c) m s=mvT (cndR (vR S m s a) (vR S m s b) (vR S m s c)):=by
 have h:=Qhc (S:=S) (h:=⟨7,0,0,0,0,⟨#[]⟩,0⟩) (A:=some r¢0) (C:=3) (ks:=[a,b,c]) rfl (QeO r fa (Q9 hb).1 (Q9 hc).1) (kids3 ta (Q9 hb).2 (Q9 hc).2)
 by_cases hd:dep (cndN r a b c)≤24
 ·rw [if_pos (show dep (.mk ⟨7,0,0,0,0,⟨#[]⟩,0⟩ (some r¢0) 3 [a,b,c])≤24 from hd)] at h
  by_cases hF:(fitT ⟨7,0,0,0,0,⟨#[]⟩,0⟩ [a,b,c].length (([5,u,v]:List Int).getD 0 0) (([5,u,v]:List Int).getD 1 0) (([5,u,v]:List Int).getD 2 0)).2=true
  ·rw [if_pos hF] at h
   exact .inr (.inr (Qbp hw (show ofE S (cndN r a b c)=_ from h)))
  ·rw [if_neg hF] at h
   exact .inl (by rw [Qbq hw (show ofE S (cndN r a b c)=_ from h)])
 ·rw [if_neg (show ¬ dep (.mk ⟨7,0,0,0,0,⟨#[]⟩,0⟩ (some r¢0) 3 [a,b,c])≤24 from hd)] at h
  exact .inr (.inl (by rw [Qbq hw (show ofE S (cndN r a b c)=_ from h)]))
theorem Qhd {S:Qg}{m:ModM}{s:Sx.Sn}(hw:wrN S m s=0) (r:Nat) {a b:Nd}{o u:Int}(ho:o=17∨o=18) (ha:ofE S a=.ok 5) (hb:ofE S b=.ok u) :
  (mvN S (prN r o a b) m s).2=122∨(if u=5 then mvN S (prN r o a b) m s=mvT (opR o (vR S m s a) (vR S m s b)) else (mvN S (prN r o a b) m s).2=152):=by
 have h:=Qhc (S:=S) (h:=⟨6,o,0,0,0,⟨#[]⟩,0⟩) (A:=some r¢0) (C:=2) (ks:=[a,b]) rfl (Qgr r (Q9 ha).1 (Q9 hb).1 ho) (kids2 (Q9 ha).2 (Q9 hb).2)
 by_cases hd:dep (prN r o a b)≤24
 ·rw [if_pos (show dep (.mk ⟨6,o,0,0,0,⟨#[]⟩,0⟩ (some r¢0) 2 [a,b])≤24 from hd)] at h
  have hF:(fitT ⟨6,o,0,0,0,⟨#[]⟩,0⟩ [a,b].length (([5,u]:List Int).getD 0 0) (([5,u]:List Int).getD 1 0) (([5,u]:List Int).getD 2 0))=(5,u == 5):=by
   rcases ho with rfl | rfl <;> rfl
  rw [hF] at h
  refine .inr ?_
  by_cases h5:u=5
  ·rw [if_pos h5]
   rw [if_pos (by rw [h5];rfl)] at h
   rw [Qbp hw (show ofE S (prN r o a b)=_ from h)]
   rcases ho with rfl | rfl <;> rfl
  ·rw [if_neg h5]
   rw [if_neg (by simpa using h5)] at h
   rw [Qbq hw (show ofE S (prN r o a b)=_ from h)]
 ·rw [if_neg (show ¬ dep (.mk ⟨6,o,0,0,0,⟨#[]⟩,0⟩ (some r¢0) 2 [a,b])≤24 from hd)] at h
  exact .inl (by rw [Qbq hw (show ofE S (prN r o a b)=_ from h)])
theorem QaG {S:Qg}{m:ModM}{s:Sx.Sn}{a b c:Nd}{u v:Int}(ha:ofE S a=.ok 5) (hb:ofE S b=.ok u) (hc:ofE S c=.ok v) (he:(mvN S a m s).2=0) (r1 r2 r3 r4 r5:Nat) :
  ((mvN S a m s).1=0∨(mvN S a m s).1=1) ∧
  ((mvN S a m s).1=1→(mvN S (cndN r1 a b c) m s).2=152∨(mvN S (cndN r1 a b c) m s).2=122∨mvN S (cndN r1 a b c) m s=mvN S b m s) ∧
  ((mvN S a m s).1=1→(mvN S (cndN r3 (notN r2 a) c b) m s).2=152∨(mvN S (cndN r3 (notN r2 a) c b) m s).2=122∨mvN S (cndN r3 (notN r2 a) c b) m s=mvN S b m s) ∧
  ((mvN S (prN r4 17 a b) m s).2=122∨(¬ u=5∧(mvN S (prN r4 17 a b) m s).2=152)∨(u=5∧((mvN S a m s).1=0→mvN S (prN r4 17 a b) m s=(0,0))∧((mvN S a m s).1=1→mvN S (prN r4 17 a b) m s=mvN S b m s))) ∧
  ((mvN S (prN r5 18 a b) m s).2=122∨(¬ u=5∧(mvN S (prN r5 18 a b) m s).2=152)∨(u=5∧((mvN S a m s).1=1→mvN S (prN r5 18 a b) m s=(1,0))∧((mvN S a m s).1=0→mvN S (prN r5 18 a b) m s=mvN S b m s))):=by
 have hw:wrN S m s=0:=by
  by_cases h:wrN S m s=0
  ·exact h
  ·unfold mvN at he
   rw [if_neg h] at he
   exact absurd he h
 rw [Qbp hw ha] at he ⊢
 rw [Qbp hw hb]
 cases e:vR S m s a with
 | error z=>rw [e] at he;exact absurd he (Ki a z e)
 | ok x =>
  have hx:=QgS hw ha e
  have c1:=Qek (m:=m) (s:=s) hw r1 (Q9 ha).1 (Q9 ha).2 hb hc
  have c2:=Qek (m:=m) (s:=s) hw r3 (QeM r2 (Q9 ha).1) (Qhs r2 (Q9 ha).2) hc hb
  have c3:=Qhd (m:=m) (s:=s) hw r4 (.inl rfl) ha hb
  have c4:=Qhd (m:=m) (s:=s) hw r5 (.inr rfl) ha hb
  have en:vR S m s (notN r2 a)=.ok (wrap64 (1 - x)):=by
   show opR 2 (vR S m s a) (.ok 0)=_
   rw [e];rfl
  rw [e] at c1 c3 c4
  rw [en] at c2
  show (x=0∨x=1)∧(x=1→_)∧(x=1→_)∧(_∨_∨(_∧(x=0→_)∧(x=1→_)))∧(_∨_∨(_∧(x=1→_)∧(x=0→_)))
  refine⟨hx,fun h1=>?_,fun h1=>?_,?_,?_⟩
  ·subst h1;exact c1
  ·subst h1
   rw [show wrap64 (1 - 1)=0 by kernel_rfl] at c2
   exact c2
  ·rcases c3 with h | h
   ·exact .inl h
   ·by_cases h5:u=5
    ·rw [if_pos h5] at h
     refine .inr (.inr ⟨h5,fun h1=>?_,fun h1=>?_⟩) <;> subst h1
     ·exact h
     ·rw [h];show mvT (match vR S m s b with | .error e=>.error e | .ok b=>.ok b)=_;cases vR S m s b <;> rfl
    ·rw [if_neg h5] at h
     exact .inr (.inl ⟨h5,h⟩)
  ·rcases c4 with h | h
   ·exact .inl h
   ·by_cases h5:u=5
    ·rw [if_pos h5] at h
     refine .inr (.inr ⟨h5,fun h1=>?_,fun h1=>?_⟩) <;> subst h1
     ·exact h
     ·rw [h];show mvT (match vR S m s b with | .error e=>.error e | .ok b=>.ok b)=_;cases vR S m s b <;> rfl
    ·rw [if_neg h5] at h
     exact .inr (.inl ⟨h5,h⟩)
theorem Vr {w:yW}{r:Nat}{h:Hd}{ks:List Nd}(hr:Rg h) (hc:ks.length≤3) (hk:∀ i (hi:i < ks.length),NdAt w r (i * 8) ks[i]) (hs:∀ k ∈ ks,Lies w k):Lies w (.mk h (some r¢0) ks.length ks) :=
 .mk _ _ _ _ hr (Nat.le_refl _) zY (fun i hi=>⟨r,0,rfl,by rw [Nat.zero_add];exact hk i hi⟩) hs
theorem vals3 (a b c:Nd):a.vals ++ b.vals ++ c.vals=#[Value.int .u8 a.h.k,zU a.h.o,zU a.h.t,zI a.h.n,zU a.h.f,.string a.h.x,.slice a.a a.ks.length a.c,zI a.h.p,zU b.h.k,zU b.h.o,zU b.h.t,zI b.h.n,zU b.h.f,.string b.h.x,.slice b.a b.ks.length b.c,zI b.h.p,zU c.h.k,zU c.h.o,zU c.h.t,zI c.h.n,zU c.h.f,.string c.h.x,.slice c.a c.ks.length c.c,zI c.h.p]:=by first | kernel_rfl | simp [Nd.vals]
theorem vals2 (a b:Nd):a.vals ++ b.vals=#[Value.int .u8 a.h.k,zU a.h.o,zU a.h.t,zI a.h.n,zU a.h.f,.string a.h.x,.slice a.a a.ks.length a.c,zI a.h.p,zU b.h.k,zU b.h.o,zU b.h.t,zI b.h.n,zU b.h.f,.string b.h.x,.slice b.a b.ks.length b.c,zI b.h.p]:=by first | kernel_rfl | simp [Nd.vals]
theorem Ff {w:yW}{r:Nat}{a b c:Nd}(h:w.heap[r]? = (zC (a.vals ++ b.vals ++ c.vals) 38)) (la:Lies w a) (lb:Lies w b) (lc:Lies w c):Lies w (cndN r a b c):=by
 rw [vals3] at h
 refine Vr (h:=⟨7,0,0,0,0,⟨#[]⟩,0⟩) (ks:=[a,b,c]) (by constructor <;> (simp only;first | omega | decide)) (by simp) (fun i hi=>?_) (fun k hk=>?_)
 ·have hi:i < 3:=hi
  rcases (show i=0∨i=1∨i=2 by omega) with rfl | rfl | rfl
  ·exact⟨Qa h 0,Qa h 1,Qa h 2,Qa h 3,Qa h 4,Qa h 5,Qa h 6,Qa h 7⟩
  ·exact⟨Qa h 8,Qa h 9,Qa h 10,Qa h 11,Qa h 12,Qa h 13,Qa h 14,Qa h 15⟩
  ·exact⟨Qa h 16,Qa h 17,Qa h 18,Qa h 19,Qa h 20,Qa h 21,Qa h 22,Qa h 23⟩
 ·rcases List.mem_cons.1 hk with rfl | hk
  ·exact la
  rcases List.mem_cons.1 hk with rfl | hk
  ·exact lb
  rcases List.mem_cons.1 hk with rfl | hk
  ·exact lc
  cases hk
theorem Qbr {w:yW}{r:Nat}{o:Int}{a b:Nd}(h:w.heap[r]? = (zC (a.vals ++ b.vals) 38)) (la:Lies w a) (lb:Lies w b) (o0:0≤o) (o1:o≤255):Lies w (prN r o a b):=by
 rw [vals2] at h
 refine Vr (h:=⟨6,o,0,0,0,⟨#[]⟩,0⟩) (ks:=[a,b]) (by constructor <;> (simp only;first | omega | decide)) (by simp) (fun i hi=>?_) (fun k hk=>?_)
 ·have hi:i < 2:=hi
  rcases (show i=0∨i=1 by omega) with rfl | rfl
  ·exact⟨Qa h 0,Qa h 1,Qa h 2,Qa h 3,Qa h 4,Qa h 5,Qa h 6,Qa h 7⟩
  ·exact⟨Qa h 8,Qa h 9,Qa h 10,Qa h 11,Qa h 12,Qa h 13,Qa h 14,Qa h 15⟩
 ·rcases List.mem_cons.1 hk with rfl | hk
  ·exact la
  rcases List.mem_cons.1 hk with rfl | hk
  ·exact lb
  cases hk
theorem Qex {w:yW}{r:Nat}{a:Nd}(h:w.heap[r]? = (zC a.vals 38)) (la:Lies w a):Lies w (notN r a):=by
 refine Vr (h:=⟨5,2,0,0,0,⟨#[]⟩,0⟩) (ks:=[a]) (by constructor <;> (simp only;first | omega | decide)) (by simp) (fun i hi=>?_) (fun k hk=>?_)
 ·have hi:i < 1:=hi
  obtain rfl:i=0:=by omega
  exact⟨Qa h 0,Qa h 1,Qa h 2,Qa h 3,Qa h 4,Qa h 5,Qa h 6,Qa h 7⟩
 ·rcases List.mem_cons.1 hk with rfl | hk
  ·exact la
  cases hk
structure Bx6 (w:yW) (S:Qg) (m:ModM) (s:Sx.Sn) (a b c:Nd) (g:Nat):Prop where
 xs:w.heap[g]? = (zC S.vals 26)
 xm:w.heap[g+1]? = (zC m.vals 29)
 xw:w.heap[g+2]? = (zC (Sx.snA s) 31)
 xa:w.heap[g+3]? = (zC a.vals 38)
 xb:w.heap[g+4]? = (zC b.vals 38)
 xc:w.heap[g+5]? = (zC c.vals 38)
 ls:Qr w S
 lm:ModL w m
 la:Lies w a
 lb:Lies w b
 lc:Lies w c
 t:Tab w
 f:FTab w
 e:Ety w
theorem Bx6.on {w w':yW}{S:Qg}{m:ModM}{s:Sx.Sn}{a b c:Nd}{g:Nat}(h:Bx6 w S m s a b c g) (k:yD w w'):Bx6 w' S m s a b c g :=
 ⟨heapOf k h.xs,heapOf k h.xm,heapOf k h.xw,heapOf k h.xa,heapOf k h.xb,heapOf k h.xc,h.ls.on k,h.lm.on k,h.la.on k,h.lb.on k,h.lc.on k,h.t.on k,h.f.on k,h.e.on k⟩
theorem QgO {w:yW}{S:Qg}{m:ModM}{s:Sx.Sn}{a b c:Nd}(hl:Qr w S) (hm:ModL w m) (la:Lies w a) (lb:Lies w b) (lc:Lies w c) (ht:Tab w) (hf:FTab w) (hg:Ety w) :
  Bx6 ((((((zA w S.vals 26).alloc (.cells m.vals 29)).alloc (.cells (Sx.snA s) 31)).alloc (.cells a.vals 38)).alloc (.cells b.vals 38)).alloc (.cells c.vals 38)) S m s a b c w§ ∧
  yD w ((((((zA w S.vals 26).alloc (.cells m.vals 29)).alloc (.cells (Sx.snA s) 31)).alloc (.cells a.vals 38)).alloc (.cells b.vals 38)).alloc (.cells c.vals 38)):=by
 obtain⟨h3,hb3,hz3⟩:=Ul w S m s
 obtain⟨W,eW⟩:∃ W,((zA w S.vals 26).alloc (.cells m.vals 29)).alloc (.cells (Sx.snA s) 31)=W:=jV
 rw [eW] at h3 hb3 hz3 ⊢
 have b4:=Qb W (.cells a.vals 38)
 have n4:=Qc W (.cells a.vals 38)
 have z4:=Qe W (.cells a.vals 38)
 obtain⟨W4,e4⟩:∃ V,W.alloc (.cells a.vals 38)=V:=jV
 rw [e4] at b4 n4 z4 ⊢
 have b5:=Qb W4 (.cells b.vals 38)
 have n5:=Qc W4 (.cells b.vals 38)
 have z5:=Qe W4 (.cells b.vals 38)
 obtain⟨W5,e5⟩:∃ V,W4.alloc (.cells b.vals 38)=V:=jV
 rw [e5] at b5 n5 z5 ⊢
 have b6:=Qb W5 (.cells c.vals 38)
 have n6:=Qc W5 (.cells c.vals 38)
 rw [hz3] at n4
 rw [z4,hz3] at n5
 rw [z5,z4,hz3] at n6
 have b46:=Qd b4 (Qd b5 b6)
 have k:=Qd hb3 b46
 exact⟨⟨heapOf b46 h3.a,heapOf b46 h3.b,heapOf b46 h3.c,heapOf b6 (heapOf b5 n4),heapOf b6 n5,n6,hl.on k,hm.on k,la.on k,lb.on k,lc.on k,ht.on k,hf.on k,hg.on k⟩,k⟩
theorem FV (e p:Int) (b:Bool):(Tryz.prog.info? 43).map (·.size)=some (#[Value.int .i64 e,Value.int .i64 p,Value.bool b]).size:=by show _=some 3;kernel_rfl
theorem Qfq (e p:Int) (b:Bool):(#[Value.int .i64 e,Value.int .i64 p,Value.bool b]).all (·.oneCell')=true:=by simp [Value.oneCell']
theorem nsl1 {w:yW}{ops:Array Oper}{rest:List Oper}{o:Oper}{a:Act}{Q:Exit→Act→yW→Prop}(hgd:o.guard=none) (x:Operand) (ho:o.op=.buildSlice 36 1 #[(0,x)]) (p:Nd) {W:yW}{r:Nat}(hW:w.alloc (.cells p.vals 38)=W) (hr:w§=r) (hx:a.eval x=.agg p.vals)
  (h:wpList zG ops Q rest (a.put o.dst (.slice (some r¢0) 1 1)) W):wpList zG ops Q (o :: rest) a w:=by
 subst hW hr
 exact Jb hgd 36 38 x ho p.vals hx 8 _ zK 72 Fk rfl rfl zY zY h
theorem nsl2 {w:yW}{ops:Array Oper}{rest:List Oper}{o:Oper}{a:Act}{Q:Exit→Act→yW→Prop}(hgd:o.guard=none) (x y:Operand) (ho:o.op=.buildSlice 36 2 #[(0,x),(1,y)]) (p q:Nd) {W:yW}{r:Nat}(hW:w.alloc (.cells (p.vals ++ q.vals) 38)=W) (hr:w§=r) (hx:a.eval x=.agg p.vals) (hy:a.eval y=.agg q.vals)
  (h:wpList zG ops Q rest (a.put o.dst (.slice (some r¢0) 2 2)) W):wpList zG ops Q (o :: rest) a w:=by
 subst hW hr
 exact JY hgd 36 38 x y ho p.vals q.vals hx hy 8 _ zK 72 Fk rfl rfl rfl zY zY h
theorem nsl3 {w:yW}{ops:Array Oper}{rest:List Oper}{o:Oper}{a:Act}{Q:Exit→Act→yW→Prop}(hgd:o.guard=none) (x y u:Operand) (ho:o.op=.buildSlice 36 3 #[(0,x),(1,y),(2,u)]) (p q k:Nd) {W:yW}{r:Nat}(hW:w.alloc (.cells (p.vals ++ q.vals ++ k.vals) 38)=W) (hr:w§=r) (hx:a.eval x=.agg p.vals) (hy:a.eval y=.agg q.vals) (hu:a.eval u=.agg k.vals)
  (h:wpList zG ops Q rest (a.put o.dst (.slice (some r¢0) 3 3)) W):wpList zG ops Q (o :: rest) a w:=by
 subst hW hr
 exact XH hgd 36 38 x y u ho p.vals q.vals k.vals hx hy hu 8 _ zK 72 Fk rfl rfl rfl rfl zY zY h
theorem l6S {w:yW}{ops:Array Oper}{rest:List Oper}{o:Oper}{A:Act}{Q:Exit→Act→yW→Prop}{S:Qg}{m:ModM}{s:Sx.Sn}{a b c:Nd}{g:Nat}(H:Bx6 w S m s a b c g) (x:Operand) (hgd:o.guard=none) (ho:o.op=.load 26 x) (hx:A.eval x=zP g) (h:wpList zG ops Q rest (A.put o.dst (.agg S.vals)) w):wpList zG ops Q (o :: rest) A w :=
 wpList_load_row hgd 26 x ho (g) hx 26 S.vals (0,0) _ H.xs underlying26 rfl (Jo S) h
theorem l6M {w:yW}{ops:Array Oper}{rest:List Oper}{o:Oper}{A:Act}{Q:Exit→Act→yW→Prop}{S:Qg}{m:ModM}{s:Sx.Sn}{a b c:Nd}{g:Nat}(H:Bx6 w S m s a b c g) (x:Operand) (hgd:o.guard=none) (ho:o.op=.load 29 x) (hx:A.eval x=.pointer (some ⟨g+1,0,none⟩)) (h:wpList zG ops Q rest (A.put o.dst (.agg m.vals)) w):wpList zG ops Q (o :: rest) A w :=
 wpList_load_row hgd 29 x ho (g+1) hx 29 m.vals (0,0) _ H.xm underlying29 rfl (Jz m) h
theorem l6W {w:yW}{ops:Array Oper}{rest:List Oper}{o:Oper}{A:Act}{Q:Exit→Act→yW→Prop}{S:Qg}{m:ModM}{s:Sx.Sn}{a b c:Nd}{g:Nat}(H:Bx6 w S m s a b c g) (x:Operand) (hgd:o.guard=none) (ho:o.op=.load 31 x) (hx:A.eval x=.pointer (some ⟨g+2,0,none⟩)) (h:wpList zG ops Q rest (A.put o.dst (.agg (Sx.snA s))) w):wpList zG ops Q (o :: rest) A w :=
 wpList_load_row hgd 31 x ho (g+2) hx 31 (Sx.snA s) (0,0) _ H.xw underlying31 rfl (KL s) h
theorem l6a {w:yW}{ops:Array Oper}{rest:List Oper}{o:Oper}{A:Act}{Q:Exit→Act→yW→Prop}{S:Qg}{m:ModM}{s:Sx.Sn}{a b c:Nd}{g:Nat}(H:Bx6 w S m s a b c g) (x:Operand) (hgd:o.guard=none) (ho:o.op=.load 38 x) (hx:A.eval x=.pointer (some ⟨g+3,0,none⟩)) (h:wpList zG ops Q rest (A.put o.dst (.agg a.vals)) w):wpList zG ops Q (o :: rest) A w :=
 wpList_load_row hgd 38 x ho (g+3) hx 38 a.vals (0,0) _ H.xa underlying38 rfl UJ h
theorem l6b {w:yW}{ops:Array Oper}{rest:List Oper}{o:Oper}{A:Act}{Q:Exit→Act→yW→Prop}{S:Qg}{m:ModM}{s:Sx.Sn}{a b c:Nd}{g:Nat}(H:Bx6 w S m s a b c g) (x:Operand) (hgd:o.guard=none) (ho:o.op=.load 38 x) (hx:A.eval x=.pointer (some ⟨g+4,0,none⟩)) (h:wpList zG ops Q rest (A.put o.dst (.agg b.vals)) w):wpList zG ops Q (o :: rest) A w :=
 wpList_load_row hgd 38 x ho (g+4) hx 38 b.vals (0,0) _ H.xb underlying38 rfl UJ h
theorem l6c {w:yW}{ops:Array Oper}{rest:List Oper}{o:Oper}{A:Act}{Q:Exit→Act→yW→Prop}{S:Qg}{m:ModM}{s:Sx.Sn}{a b c:Nd}{g:Nat}(H:Bx6 w S m s a b c g) (x:Operand) (hgd:o.guard=none) (ho:o.op=.load 38 x) (hx:A.eval x=.pointer (some ⟨g+5,0,none⟩)) (h:wpList zG ops Q rest (A.put o.dst (.agg c.vals)) w):wpList zG ops Q (o :: rest) A w :=
 wpList_load_row hgd 38 x ho (g+5) hx 38 c.vals (0,0) _ H.xc underlying38 rfl UJ h
end Go.Proofs.YtfbjofnaghjmeaaGreatDoor
