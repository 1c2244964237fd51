import Derived.Test.YtfbjofnaghjmeaaGreatDoorA31
namespace Go.Proofs.YtfbjofnaghjmeaaGreatDoor
open Go.Proofs.Tryz
set_option maxRecDepth 100000
set_option maxHeartbeats 16000000
open Go Go.RowKit
set_option linter.unusedVariables false
set_option linter.unusedSimpArgs false
def Q0 (x:Cx) (q:Tm):Nat→List Qy→Except Int (Int × Tm)
 | _,[]=>.ok (-1,q)
 | i,r :: rs=>match valR x.s (gOf x.P q.rg) r.m with
  | .error c=>.error c
  | .ok v=>if v=1 then (match dosN x q r.ds with
   | .error c=>.error c
   | .ok q'=>.ok ((i:Int),q')) else Q0 x q (i+1) rs
def RlOk (x:Cx) (r:Qy):Prop:=Res (gP x.P) r.m∧(∀ d ∈ r.ds,DoOk x d)∧r.ds.length≤1000000
def OutF (B:Nat) (x:Cx) (tb rb mb sb gb:Nat) (w:yW) (r:Except Int (Int × Tm)) (e:Ending) (w':yW):Prop:=match r with
 | .error c=>e=fltE c∧Below B w w'∧∀ p ∈ x.K,w'.heap[p.1]? = some p.2
 | .ok iq=>e=.returned (zI iq.1)∧(∃ h1 av',TnW B h1 x tb rb mb sb gb w' av' iq.2)∧Below B w w'
theorem Qcy {x:Cx}{q:Tm}{i:Nat}{r:Qy}{rs:List Qy}{c:Int}(h:valR x.s (gOf x.P q.rg) r.m=.error c):Q0 x q i (r :: rs)=.error c:=by simp only [Q0,h]
theorem QeW {x:Cx}{q:Tm}{i:Nat}{r:Qy}{rs:List Qy}{v:Int}(h:valR x.s (gOf x.P q.rg) r.m=.ok v) (hv:¬ v=1):Q0 x q i (r :: rs)=Q0 x q (i+1) rs:=by simp only [Q0,h,if_neg hv]
theorem Qcz {x:Cx}{q:Tm}{i:Nat}{r:Qy}{rs:List Qy}{c:Int}(h:valR x.s (gOf x.P q.rg) r.m=.ok 1) (hd:dosN x q r.ds=.error c):Q0 x q i (r :: rs)=.error c:=by simp only [Q0,h,if_true,hd]
theorem Qcx {x:Cx}{q q':Tm}{i:Nat}{r:Qy}{rs:List Qy}(h:valR x.s (gOf x.P q.rg) r.m=.ok 1) (hd:dosN x q r.ds=.ok q'):Q0 x q i (r :: rs)=.ok ((i:Int),q'):=by simp only [Q0,h,if_true,hd]
theorem QeV {h0:Nat}{x:Cx}{tb rb mb sb gb:Nat}{w0 w:yW}{q:Tm}(a:Option Addr) (c:Nat) (rs:List Qy) (h:TnW w0§ h0 x tb rb mb sb gb w (zO) q) (hq:q.ac = []) (hB:yD w0 w) (hs:SlAt w0 10 a c (rs.map Qy.vals)) (hd:∀ r ∈ rs,J5 w0 r∧RlOk x r) :
  Calls zG 48 #[zP tb,.slice a rs.length c] w (OutF w0§ x tb rb mb sb gb w (Q0 x q 0 rs)):=by
 have HT:=zH h
 have HQ:Hid (q.ac = []):=hq
 have HB0:=zH hB
 have HSL:=zH hs
 have HD:=zH hd
 obtain⟨R,eR⟩:∃ R,Q0 x q 0 rs=R:=jV
 have HR:Hid (Q0 x q 0 rs=R):=eR
 rw [eR]
 clear h hq hB hs hd eR
 go_enter func48,ntmps48
 go_wp2_with fail
 go_step3
 go_wp2_with fail
 go_step3
 go_wp2_with fail
 go_loopw [5,10] (fun f t wr=>∃ (i:Nat),i≤rs.length∧t=zI i∧f=zI (-1)∧Hid (yD w wr)∧Hid (Q0 x q i (rs.drop i)=R)) (fun _ t _=>rs.length - (intOf t).toNat)
 case atStart=>exact⟨0,by omega,rfl,rfl,Below.refl _ _,HR⟩
 case round =>
  obtain⟨i,hi,rfl,rfl,HBR,HRR⟩:=hrel
  by_cases hlt:i < rs.length
  ·have hlt':(i:Int) < (rs.length:Int):=by omega
   have hmx:(i:Int)+1≤jX:=by have h1:=HSL.out.1;have h2:=HSL.out.2.1;rw [List.length_map] at h1;omega
   have HBW:=zH (HB0.out.trans (HBR.out.mono HB0.out.size))
   obtain⟨bb,o,ea,hat⟩:=(HSL.out.on (mapz Qy.sz _) HBW.out).2.2 i (by rw [List.length_map];exact hlt)
   simp only [List.getElem_map] at hat
   have HMEM:Hid (rs[i] ∈ rs):=List.getElem_mem hlt
   have HC:Hid (Q0 x q i (rs[i] :: rs.drop (i+1))=R):=by show _=_;rw [← List.drop_eq_getElem_cons hlt];exact HRR.out
   obtain⟨r,er⟩:∃ r,rs[i]=r:=jV
   rw [er] at hat HC HMEM
   have HRG:Hid (wr.rangeAt bb (o+i * 10) r.vals.toList):=fun j v hv=>by
    have hj:j < 10:=(List.getElem?_eq_some_iff.1 hv).1
    rw [hat j hj,← hv];simp
   have HZ:Hid ((zA wr zh 100).heap[wr§]? = (zC zh 100)):=Qc _ _
   have hbx:yD wr ((zA wr zh 100).setRow wr§ r.vals):=Qn (Qb _ _) (Nat.le_refl _) _
   have HT2:=zH ((HT.out.on HBR.out).on hbx)
   have HBX:=zH (Qd HBR.out hbx)
   have HNX:Hid (((zA wr zh 100).setRow wr§ r.vals).heap[wr§]? = (zC r.vals 100)):=setRow_heap _ _ _ _ _ _ HZ.out
   subst ea
   clear hat er hbx HRR HBR HBW
   go_upto_region 5 with (first | (refine wpList_load_mid rfl 100 (.tmp 13) rfl bb (o+i * 10) rfl r.vals.toList _ HRG.out underlying100 rfl (by show _=some 10;exact Q7) ?_;rw [Array.toArray_toList]) | (refine wpList_store_row rfl 100 (.tmp 7) (.tmp 14) rfl wr§ r.vals rfl rfl 100 zh HZ.out Q7 rfl (Vz r) ?_))
   generalize hWX:World.setRow _ _ _=WX
   have hWY:(zA wr zh 100).setRow wr§ r.vals=WX:=hWX
   rw [hWY] at HBX HNX HT2
   clear hWX hWY HZ HRG
   obtain⟨G,eG⟩:∃ G,wr§=G:=jV
   rw [eG] at HNX ⊢
   clear eG
   have HOK:=(HD.out r HMEM.out).2
   have HW0:=zH (HB0.out.trans (HBX.out.mono HB0.out.size))
   have cV:Calls zG 37 #[zP tb,.agg #[zU r.m.h.k,zU r.m.h.o,zU r.m.h.t,zI r.m.h.n,zU r.m.h.f,.string r.m.h.x,.slice r.m.a r.m.ks.length r.m.c,zI r.m.h.p]] WX.drew (OutV WX.drew (valR x.s (gOf x.P q.rg) r.m)):=Jx HT2.out.fi r.m WX.drew (HT2.out.on (Ql WX)).sv (((HD.out r HMEM.out).1.1.on HW0.out).on (Ql WX)) (HT2.out.res HOK.1)
   obtain⟨rv,erv⟩:∃ rv,valR x.s (gOf x.P q.rg) r.m=rv:=jV
   have ERV:=zH erv
   rw [erv] at cV
   clear HOK erv
   refine (?_:∀ Q',Hid (Q'=_)→Code.wp _ _ Q' _ _) _ rfl
   intro Q' HQ'
   have HPn:zHP Q':=by rw [HQ'.out];exact fun _ _ _ _ _ h=>h
   refine QA (t:=99) (S:=fun u=>u.heap[G]? = (zC r.vals 100)) zK HNX.out (fun hHeld=>?_)
   refine zTd 0 HPn
   rotate_left
   ·(intro v hv;go_simp;try (with_reducible rfl))
   try simp [Act.put]
   refine zTd 1 HPn
   rotate_left
   ·(intro v hv;go_simp;try (with_reducible rfl))
   try simp [Act.put]
   refine zTd 2 HPn
   rotate_left
   ·(intro v hv;go_simp;try (with_reducible rfl))
   try simp [Act.put]
   refine zTd 3 HPn
   rotate_left
   ·(intro v hv;go_simp;try (with_reducible rfl))
   try simp [Act.put]
   refine zTd 4 HPn
   rotate_left
   ·(intro v hv;have e0:zQ v G¢0 (zU r.m.h.k):=Qa hv 0;have e1:zQ v G¢1 (zU r.m.h.o):=Qa hv 1;have e2:zQ v G¢2 (zU r.m.h.t):=Qa hv 2;have e3:zQ v G¢3 (zI r.m.h.n):=Qa hv 3;have e4:zQ v G¢4 (zU r.m.h.f):=Qa hv 4;have e5:zQ v G¢5 (.string r.m.h.x):=Qa hv 5;have e6:zQ v G¢6 (.slice r.m.a r.m.ks.length r.m.c):=Qa hv 6;have e7:zQ v G¢7 (zI r.m.h.p):=Qa hv 7;clear hv;go_simp;try (with_reducible rfl))
   try simp [Act.put]
   rcases rv with c1 | z1
   ·refine Qh (i:=5) zK rfl (fun K hK=>?_)
    go_simp
    refine cV.mono ?_
    rintro e w1 ⟨rfl,hb⟩
    rw [HQ'.out]
    have hD:R=.error c1:=HC.out.symm.trans (Qcy ERV.out)
    have hbb:yD w w1:=Qd HBX.out.drew hb
    have hkk:=(HT.out.on hbb).kp
    refine⟨rfl,?_⟩
    rw [hD]
    exact⟨rfl,hbb.mono HB0.out.size,fun p hp=>(hkk p hp).1⟩
   ·refine Qh (i:=5) zK rfl (fun K hK=>?_)
    go_simp
    refine cV.mono ?_
    rintro e w1 ⟨rfl,hb⟩
    have HB1:=zH (Qd HBX.out.drew hb)
    have HN1:=zH ((heapOf hb (heapOf (Ql WX) HNX.out)))
    clear hb cV
    unfold endV
    go_simp
    refine hK.out _ _ (fun _=>HN1.out) ?_
    clear hK K
    try simp [Act.put]
    refine QB zK ?_ _
    rw [HQ'.out]
    clear HQ' HPn Q'
    cases hz:decide (z1=1) with
    | false =>
     have hz':¬ z1=1:=of_decide_eq_false hz
     have HD1:=zH ((QeW ERV.out hz').symm.trans HC.out)
     have hz1:(z1 == 1)=false:=beq_false_of_ne hz'
     clear hz' hz
     go_wp2_with fail
     exact⟨⟨i+1,hlt,rfl,rfl,HB1,HD1⟩,by simp only [intOf];omega⟩
    | true =>
     obtain rfl:z1=1:=of_decide_eq_true hz
     clear hz
     have HW1:=zH (HB0.out.trans (HB1.out.mono HB0.out.size))
     have hrl:=(HD.out r HMEM.out).1
     have hok:=(HD.out r HMEM.out).2
     have c8:zQ w1 G¢8 (.slice r.a r.ds.length r.c):=Qa HN1.out 8
     have cD:Calls zG 84 #[zP tb,.slice r.a r.ds.length r.c] w1 (Qho w0§ x tb rb mb sb gb w1 (dosN x q r.ds)):=QcD r.a r.c r.ds (HT.out.on HB1.out) HQ.out HW1.out hrl.2.1 (fun d hm=>⟨hrl.2.2.1 d hm,hok.2.1 d hm⟩) hok.2.2
     obtain⟨rd,erd⟩:∃ rd,dosN x q r.ds=rd:=jV
     have ERD:Hid (dosN x q r.ds=rd):=erd
     rw [erd] at cD
     clear hrl hok erd
     rcases rd with c2 | q2
     ·replace cD:Calls zG 84 #[zP tb,.slice r.a r.ds.length r.c] w1 (fun e w'=>e=fltE c2∧Below w0§ w1 w'∧∀ p ∈ x.K,w'.heap[p.1]? = some p.2):=cD
      go_wp2_with fail
      refine cD.mono ?_
      rintro e w2 ⟨rfl,hb2,hk2⟩
      have hD:R=.error c2:=HC.out.symm.trans (Qcz ERV.out ERD.out)
      refine⟨rfl,?_⟩
      rw [hD]
      exact⟨rfl,(HB1.out.mono HB0.out.size).trans hb2,hk2⟩
     ·replace cD:Calls zG 84 #[zP tb,.slice r.a r.ds.length r.c] w1 (fun e w'=>e=.returned (.tuple #[])∧(∃ h1 av',TnW w0§ h1 x tb rb mb sb gb w' av' q2)∧Below w0§ w1 w'):=cD
      have hD:=zH (HC.out.symm.trans (Qcx ERV.out ERD.out))
      go_wp2_with fail
      refine cD.mono ?_
      rintro e w2 ⟨rfl,hk2,hb2⟩
      have HK2:Hid ((∃ h1 av',TnW w0§ h1 x tb rb mb sb gb w2 av' q2)∧Below w0§ w w2):=⟨hk2,(HB1.out.mono HB0.out.size).trans hb2⟩
      clear hk2 hb2 cD
      go_wp2
      go_ret
      rw [hD.out]
      exact⟨rfl,HK2.out.1,HK2.out.2⟩
  ·obtain rfl:i=rs.length:=by omega
   have hnot:¬ (rs.length:Int) < (rs.length:Int):=by omega
   have HD1:Hid (R=.ok (-1,q)):=by show _=_;rw [← HRR.out,List.drop_length];rfl
   have HK2:Hid ((∃ h1 av',TnW w0§ h1 x tb rb mb sb gb wr av' q)∧Below w0§ w wr):=⟨⟨_,_,HT.out.on HBR.out⟩,HBR.out.mono HB0.out.size⟩
   clear HRR
   go_wp2
   go_ret
   rw [HD1.out]
   exact⟨rfl,HK2.out.1,HK2.out.2⟩
theorem KL (s:Sx.Sn):(Tryz.prog.info? 31).map (·.size)=some (Sx.snA s).size:=by show _=some 6;kernel_rfl
theorem Jo (S:Qg):(Tryz.prog.info? 26).map (·.size)=some S.vals.size:=by show _=some 4;kernel_rfl
def siA (s:Sx.Sn) (rb n mb:Nat):Array Value:=#[zI s.bid,zI s.ask,zI s.last,zI s.vol,zI s.now,zI s.opn,.slice (some rb¢0) n n,.map (some mb)]
def si0:Array Value:=zu
theorem FT (s:Sx.Sn) (rb n mb:Nat):(Tryz.prog.info? 91).map (·.size)=some (siA s rb n mb).size:=by show _=some 8;kernel_rfl
theorem Qhm (s:Sx.Sn) (rb n mb:Nat):(siA s rb n mb).all (·.oneCell')=true:=by simp [siA,Value.oneCell']
structure Bx3 (w:yW) (S:Qg) (m:ModM) (s:Sx.Sn) (g:Nat):Prop where
 a:w.heap[g]? = (zC S.vals 26)
 b:w.heap[g+1]? = (zC m.vals 29)
 c:w.heap[g+2]? = (zC (Sx.snA s) 31)
theorem Bx3.on {w w':yW}{S:Qg}{m:ModM}{s:Sx.Sn}{g:Nat}(h:Bx3 w S m s g) (k:yD w w'):Bx3 w' S m s g:=⟨heapOf k h.a,heapOf k h.b,heapOf k h.c⟩
theorem Ul (w:yW) (S:Qg) (m:ModM) (s:Sx.Sn):Bx3 (((zA w S.vals 26).alloc (.cells m.vals 29)).alloc (.cells (Sx.snA s) 31)) S m s w§∧yD w (((zA w S.vals 26).alloc (.cells m.vals 29)).alloc (.cells (Sx.snA s) 31))∧(((zA w S.vals 26).alloc (.cells m.vals 29)).alloc (.cells (Sx.snA s) 31))§=w§+3:=by
 have b1:=Qb w (.cells S.vals 26)
 have b2:=Qb (zA w S.vals 26) (.cells m.vals 29)
 have b3:=Qb ((zA w S.vals 26).alloc (.cells m.vals 29)) (.cells (Sx.snA s) 31)
 have n1:=Qc w (.cells S.vals 26)
 have n2:=Qc (zA w S.vals 26) (.cells m.vals 29)
 have n3:=Qc ((zA w S.vals 26).alloc (.cells m.vals 29)) (.cells (Sx.snA s) 31)
 rw [Qe] at n2
 rw [Qe,Qe] at n3
 exact⟨⟨heapOf b3 (heapOf b2 n1),heapOf b3 n2,n3⟩,Qd b1 (Qd b2 b3),by rw [Qe,Qe,Qe]⟩
theorem Fd (S:Qg) (m:ModM) (s:Sx.Sn) (w:yW) (hl:Qr w S) (hx:∀ d ∈ S.rs,d.x.size≤maxLen) (hm:ModL w m) (hn:m.rg.length≤65536) :
  Calls zG 34 #[.agg S.vals,.agg m.vals,.agg (Sx.snA s)] w fun e w'=>∃ rb mb,e=.returned (.agg (siA s rb m.rg.length mb))∧w§≤rb∧w§≤mb∧w'.heap[rb]? = (zC (QX m.rg) 2)∧PlM w' mb (plL (S.rs.map RegM.x))∧yD w w':=by
 obtain⟨h3,hb3,hz3⟩:=Ul w S m s
 obtain⟨W3,e3⟩:∃ W,((zA w S.vals 26).alloc (.cells m.vals 29)).alloc (.cells (Sx.snA s) 31)=W:=jV
 rw [e3] at h3 hb3 hz3
 have b4:=Qb W3 (.cells si0 91)
 have n4:=Qc W3 (.cells si0 91)
 rw [hz3] at n4
 obtain⟨W4,e4⟩:∃ W,W3.alloc (.cells si0 91)=W:=jV
 rw [e4] at b4 n4
 have E4:Hid ((((zA w S.vals 26).alloc (.cells m.vals 29)).alloc (.cells (Sx.snA s) 31)).alloc (.cells si0 91)=W4):=by show _=_;rw [e3,e4]
 have HB:=zH (Qd hb3 b4)
 have H3:=zH (h3.on b4)
 have HN:=zH n4
 have HL:Hid (Qr w S∧(∀ d ∈ S.rs,d.x.size≤maxLen)∧ModL w m∧m.rg.length≤65536):=⟨hl,hx,hm,hn⟩
 have cC:Calls zG 49 #[.agg m.vals] W4.drew fun e w'=>∃ b,e=.returned (.agg #[zI m.st,.slice (some b¢0) m.rg.length m.rg.length])∧W4.drew§≤b∧w'.heap[b]? = (zC (QX m.rg) 2)∧Below W4.drew§ W4.drew w':=KZ m W4.drew (hm.on (HB.out.trans ((Ql W4).mono HB.out.size))) hn
 clear h3 hb3 hz3 e3 b4 n4 e4 hl hx hm hn
 unfold si0 at *
 go_enter func34,ntmps34
 go_upto_region 1 with fail
 rw [show (((zA w S.vals 26).alloc (.cells m.vals 29)).alloc (.cells (Sx.snA s) 31)).alloc (.cells zu 91)=W4 from E4.out]
 clear E4
 obtain⟨g,eg⟩:∃ g,w§=g:=jV
 rw [eg] at H3 HN ⊢
 have HG:Hid (w§=g):=eg
 clear eg
 refine (?_:∀ Q',Hid (Q'=_)→Code.wp _ _ Q' _ _) _ rfl
 intro Q' HQ'
 have HPn:zHP Q':=by rw [HQ'.out];exact fun _ _ _ _ _ h=>h
 refine QA (t:=99) (S:=fun u=>Bx3 u S m s g) zK (H3.out.on (Ql W4)) (fun hHeld=>?_)
 refine zTe 0 HPn (Us (by rfl) 31 (.tmp 5) rfl (g+2) rfl 31 (Sx.snA s) (0,0) _ (fun v hv=>hv.c) underlying31 rfl (KL s))
 try simp [Act.put]
 refine zTe 1 HPn (Us (by rfl) 29 (.tmp 4) rfl (g+1) rfl 29 m.vals (0,0) _ (fun v hv=>hv.b) underlying29 rfl (Jz m))
 try simp [Act.put]
 refine zTd 4 HPn
 rotate_left
 ·(intro v hv;go_simp;try (with_reducible rfl))
 try simp [Act.put]
 refine zTd 5 HPn
 rotate_left
 ·(intro v hv;have c1:zQ v g¢1 (.slice S.ra S.rs.length S.rc):=Qa hv.a 1;clear hv;go_simp;try (with_reducible rfl))
 try simp [Act.put]
 refine Qh (i:=2) zK rfl (fun K hK=>?_)
 go_simp
 refine cC.mono ?_
 rintro e w1 ⟨rb,rfl,hr1,hr2,hb1⟩
 have HB1:=zH (HB.out.trans (((Ql W4).trans hb1).mono HB.out.size))
 have HRB:Hid (w§≤rb∧w1.heap[rb]? = (zC (QX m.rg) 2)):=⟨Nat.le_trans HB.out.size hr1,hr2⟩
 have H31:Hid (Bx3 w1 S m s g):=(H3.out.on (Ql W4)).on hb1
 have HN1:=zH (heapOf hb1 (heapOf (Ql W4) HN.out))
 clear cC hr1 hr2 hb1
 go_simp
 refine hK.out _ _ (fun _=>H31.out) ?_
 clear hK K
 try simp [Act.put]
 have hF:∀ v:yW,Sem.run zG (Instr.field 29 (.agg #[zI m.st,.slice (some rb¢0) m.rg.length m.rg.length]) 1) v=.ok (.slice (some rb¢0) m.rg.length m.rg.length) v:=fun v=>by kernel_rfl
 refine zTd 3 HPn
 rotate_left
 ·(intro v hv;go_simp;try (with_reducible rfl))
 try simp [Act.put]
 have cP:Calls zG 65 #[.slice S.ra S.rs.length S.rc,.func (.func 66) #[] #[]] w1 fun e w'=>∃ b,e=.returned (.map (some b))∧w1§≤b∧PlM w' b (plL (S.rs.map RegM.x))∧yD w1 w':=Qam S.ra S.rc S.rs w1 (HL.out.1.on HB1.out).1 HL.out.2.1
 refine Qh (i:=6) zK rfl (fun K hK=>?_)
 go_simp
 refine cP.mono ?_
 rintro e w2 ⟨mb,rfl,hm1,hm2,hb2⟩
 have HB2:=zH (Qd HB1.out hb2)
 have HRB2:=zH (heapOf hb2 HRB.out.2)
 have HMB:Hid (w§≤mb∧PlM w2 mb (plL (S.rs.map RegM.x))):=⟨Nat.le_trans HB1.out.size hm1,hm2⟩
 have H32:Hid (Bx3 w2 S m s g):=H31.out.on hb2
 have HN2:=zH (heapOf hb2 HN1.out)
 clear cP hm1 hm2 hb2
 go_simp
 refine hK.out _ _ (fun _=>H32.out) ?_
 clear hK K
 try simp [Act.put]
 refine zTd 7 HPn
 rotate_left
 ·(intro v hv;simp only [Sx.snA];go_simp;try (with_reducible rfl))
 try simp [Act.put]
 refine Qh (i:=8) zK rfl (fun K hK=>?_)
 refine Q4 rfl 91 (.tmp 6) (.tmp 14) rfl (g+3) (siA s rb m.rg.length mb) rfl rfl 91 _ HN2.out (FT ..) rfl (Qhm ..) ?_
 refine hK.out _ _ (fun _=>⟨(setRow_other _ _ _ _ zY).trans H32.out.a,(setRow_other _ _ _ _ zY).trans H32.out.b,(setRow_other _ _ _ _ zY).trans H32.out.c⟩) ?_
 clear hK K
 try simp [Act.put]
 refine QB zK ?_ _
 rw [HQ'.out]
 clear HQ' HPn Q'
 go_wp2_with fail
 refine bodyPost_ret (results_cell_row rfl _ _ (g+3) 91 (siA s rb m.rg.length mb) (0,0) _ rfl (setRow_heap _ _ _ _ _ _ HN2.out) underlying91 rfl (FT ..)) rfl ⟨rb,mb,rfl,HRB.out.1,HMB.out.1,?_,?_,Qn HB2.out (by rw [HG.out];omega) _⟩
 ·exact (setRow_other _ _ _ _ (fun e=>by rw [e,HN2.out] at HRB2;exact absurd (Obj.cells.inj (Option.some.inj HRB2.out)).2.1 (by decide))).trans HRB2.out
 ·exact HMB.out.2.blk (setRow_other _ _ _ _ (HMB.out.2.no HN2.out))
theorem QdR:∀ (l:List yB) (P:yB→Option Nat) (i:Nat),(∀ y j,P y=some j→j < i)→∀ y j,plA P i l y=some j→j < i+l.length
 | [],P,i,h=>h
 | x :: xs,P,i,h=>fun y j hj=>by
  have:=QdR xs (fun y=>if x=y then some i else P y) (i+1) (fun y j hj=>by
   by_cases e:x=y
   ·simp only [e,if_true] at hj;cases hj;omega
   ·simp only [if_neg e] at hj;have:=h y j hj;omega) y j hj
  simp only [List.length_cons]
  omega
theorem Hs {l:List yB}{y:yB}{j:Nat}(h:plL l y=some j):j < l.length:=by
 have:=QdR l (fun _=>none) 0 (fun y j e=>by cases e) y j h
 omega
theorem PZ:∀ (l:List yB) (P:yB→Option Nat) (i:Nat) (y:yB),(P y).isSome=true→(plA P i l y).isSome=true
 | [],P,i,y,h=>h
 | x :: xs,P,i,y,h=>PZ xs _ (i+1) y (by by_cases e:x=y <;> simp [e,h])
theorem Qbh:∀ (l:List yB) (P:yB→Option Nat) (i:Nat) (y:yB),y ∈ l→(plA P i l y).isSome=true
 | x :: xs,P,i,y,h=>by
  rcases List.mem_cons.1 h with e | h1
  ·exact PZ xs _ (i+1) y (by simp [e])
  ·exact Qbh xs _ (i+1) y h1
theorem Qbg {l:List yB}{y:yB}(h:y ∈ l):(plL l y).isSome=true:=Qbh l _ 0 y h
def cxOf (S:Qg) (s:Sx.Sn):Cx:=⟨s,plL (S.rs.map RegM.x),plL (S.ss.map Qx.x),plL (S.ts.map Qq.x),[]⟩
def tmOf (m:ModM):Tm:=⟨m.st,m.rg,[],1⟩
structure NmZ (S:Qg):Prop where
 r:∀ d ∈ S.rs,d.x.size≤maxLen
 s:∀ d ∈ S.ss,d.x.size≤maxLen
 t:∀ d ∈ S.ts,d.x.size≤maxLen
 n:S.ss.length < 1000000000
theorem box117 (v:Array Value) (w:yW):Sem.run zG (Instr.box 117 (.agg v)) w=.ok (zP w§) (zA w v 117):=by first | rfl | simp [go_sem]
theorem QcN (S:Qg) (m:ModM) (s:Sx.Sn) (w:yW) (hl:Qr w S) (hx:NmZ S) (hm:ModL w m) (hn:m.rg.length≤65536) (he:m.rg.length=S.rs.length) (hi:∀ f,I64 (Sx.getN s f)) :
  Calls zG 45 #[.agg S.vals,.agg m.vals,.agg (Sx.snA s)] w fun e w'=>∃ tb rb mb sb gb,e=.returned (zP tb)∧TnW w§ w'§ (cxOf S s) tb rb mb sb gb w' (zO) (tmOf m)∧yD w w':=by
 obtain⟨h3,hb3,hz3⟩:=Ul w S m s
 obtain⟨W3,e3⟩:∃ W,((zA w S.vals 26).alloc (.cells m.vals 29)).alloc (.cells (Sx.snA s) 31)=W:=jV
 have E3:=zH e3
 rw [e3] at h3 hb3 hz3
 have HB:=zH hb3
 have H3:=zH h3
 have HL:Hid (Qr w S∧NmZ S∧ModL w m∧m.rg.length≤65536∧m.rg.length=S.rs.length∧∀ f,I64 (Sx.getN s f)):=⟨hl,hx,hm,hn,he,hi⟩
 have cL:Calls zG 34 #[.agg S.vals,.agg m.vals,.agg (Sx.snA s)] W3.drew fun e w'=>∃ rb mb,e=.returned (.agg (siA s rb m.rg.length mb))∧W3.drew§≤rb∧W3.drew§≤mb∧w'.heap[rb]? = (zC (QX m.rg) 2)∧PlM w' mb (plL (S.rs.map RegM.x))∧Below W3.drew§ W3.drew w' :=
  Fd S m s W3.drew (hl.on (HB.out.trans ((Ql W3).mono HB.out.size))) hx.r (hm.on (HB.out.trans ((Ql W3).mono HB.out.size))) hn
 clear h3 hb3 hz3 e3 hl hx hm hn he hi
 go_enter func45,ntmps45
 go_upto_region 1 with fail
 rw [E3.out]
 clear E3
 obtain⟨g,eg⟩:∃ g,w§=g:=jV
 rw [eg] at H3 ⊢
 have HG:Hid (w§=g):=eg
 clear eg
 refine (?_:∀ Q',Hid (Q'=_)→Code.wp _ _ Q' _ _) _ rfl
 intro Q' HQ'
 have HPn:zHP Q':=by rw [HQ'.out];exact fun _ _ _ _ _ h=>h
 refine QA (t:=99) (S:=fun u=>Bx3 u S m s g) zK (H3.out.on (Ql W3)) (fun hHeld=>?_)
 refine zTe 0 HPn (Us (by rfl) 26 (.tmp 3) rfl g rfl 26 S.vals (0,0) _ (fun v hv=>hv.a) underlying26 rfl (Jo S))
 try simp [Act.put]
 refine zTe 1 HPn (Us (by rfl) 29 (.tmp 4) rfl (g+1) rfl 29 m.vals (0,0) _ (fun v hv=>hv.b) underlying29 rfl (Jz m))
 try simp [Act.put]
 refine zTe 2 HPn (Us (by rfl) 31 (.tmp 5) rfl (g+2) rfl 31 (Sx.snA s) (0,0) _ (fun v hv=>hv.c) underlying31 rfl (KL s))
 try simp [Act.put]
 refine zTd 4 HPn
 rotate_left
 ·(intro v hv;go_simp;try (with_reducible rfl))
 try simp [Act.put]
 refine zTd 5 HPn
 rotate_left
 ·(intro v hv;have c1:zQ v g¢2 (.slice S.sa S.ss.length S.sc):=Qa hv.a 2;clear hv;go_simp;try (with_reducible rfl))
 try simp [Act.put]
 refine zTd 7 HPn
 rotate_left
 ·(intro v hv;go_simp;try (with_reducible rfl))
 try simp [Act.put]
 refine zTd 8 HPn
 rotate_left
 ·(intro v hv;have c1:zQ v g¢3 (.slice S.ta S.ts.length S.tc):=Qa hv.a 3;clear hv;go_simp;try (with_reducible rfl))
 try simp [Act.put]
 refine zTd 10 HPn
 rotate_left
 ·(intro v hv;go_simp;try (with_reducible rfl))
 try simp [Act.put]
 refine zTd 11 HPn
 rotate_left
 ·(intro v hv;have c1:zQ v ⟨g+1,0,none⟩ (zI m.st):=Qa hv.b 0;clear hv;go_simp;try (with_reducible rfl))
 try simp [Act.put]
 refine Qh (i:=3) zK rfl (fun K hK=>?_)
 go_simp
 refine cL.mono ?_
 rintro e w1 ⟨rb,mb,rfl,hr1,hm1,hr2,hm2,hb1⟩
 have HB1:=zH (HB.out.trans (((Ql W3).trans hb1).mono HB.out.size))
 have HRB:Hid (w§≤rb∧w1.heap[rb]? = (zC (QX m.rg) 2)):=⟨Nat.le_trans HB.out.size hr1,hr2⟩
 have HMB:=zH hm2
 have H31:Hid (Bx3 w1 S m s g):=(H3.out.on (Ql W3)).on hb1
 clear cL hr1 hr2 hm1 hm2 hb1
 go_simp
 refine hK.out _ _ (fun _=>H31.out) ?_
 clear hK K
 try simp [Act.put]
 have cP:Calls zG 79 #[.slice S.sa S.ss.length S.sc,.func (.func 80) #[] #[]] w1 fun e w'=>∃ b,e=.returned (.map (some b))∧w1§≤b∧PlM w' b (plL (S.ss.map Qx.x))∧yD w1 w':=PX S.sa S.sc S.ss w1 (HL.out.1.on HB1.out).2.2.1 HL.out.2.1.s
 refine Qh (i:=6) zK rfl (fun K hK=>?_)
 go_simp
 refine cP.mono ?_
 rintro e w2 ⟨sb,rfl,hm1,hm2,hb2⟩
 have HB2:=zH (Qd HB1.out hb2)
 have HRB2:=zH (heapOf hb2 HRB.out.2)
 have HMB2:Hid (PlM w2 mb (plL (S.rs.map RegM.x))):=HMB.out.blk (hb2.block _ HMB.out.lt)
 have HSB:=zH hm2
 have H32:Hid (Bx3 w2 S m s g):=H31.out.on hb2
 clear cP hm1 hm2 hb2
 go_simp
 refine hK.out _ _ (fun _=>H32.out) ?_
 clear hK K
 try simp [Act.put]
 have cP:Calls zG 81 #[.slice S.ta S.ts.length S.tc,.func (.func 82) #[] #[]] w2 fun e w'=>∃ b,e=.returned (.map (some b))∧w2§≤b∧PlM w' b (plL (S.ts.map Qq.x))∧yD w2 w':=Hr S.ta S.tc S.ts w2 (HL.out.1.on HB2.out).2.2.2.2.1 HL.out.2.1.t
 refine Qh (i:=9) zK rfl (fun K hK=>?_)
 go_simp
 refine cP.mono ?_
 rintro e w3 ⟨gb,rfl,hm1,hm2,hb3⟩
 have HB3:=zH (Qd HB2.out hb3)
 have HRB3:=zH (heapOf hb3 HRB2.out)
 have HMB3:Hid (PlM w3 mb (plL (S.rs.map RegM.x))):=HMB2.out.blk (hb3.block _ HMB2.out.lt)
 have HSB3:Hid (PlM w3 sb (plL (S.ss.map Qx.x))):=HSB.out.blk (hb3.block _ HSB.out.lt)
 have HGB3:=zH hm2
 have H33:Hid (Bx3 w3 S m s g):=H32.out.on hb3
 clear cP hm1 hm2 hb3
 go_simp
 refine hK.out _ _ (fun _=>H33.out) ?_
 clear hK K
 try simp [Act.put]
 refine zTd 12 HPn
 rotate_left
 ·(intro v hv;simp only [siA];go_simp;try (with_reducible rfl))
 try simp [Act.put]
 have hbx:=fun v w=>box117 v w
 refine Qh (i:=13) zK rfl (fun K hK=>?_)
 go_simp
 refine hK.out _ _ (fun _=>H33.out.on (Qb _ _)) ?_
 clear hK K
 try simp [Act.put]
 refine Qh (i:=14) zK rfl (fun K hK=>?_)
 go_simp
 refine hK.out _ _ (fun _=>H33.out.on (Qb _ _)) ?_
 clear hK K
 try simp [Act.put]
 refine QB zK ?_ _
 rw [HQ'.out]
 clear HQ' HPn Q'
 have b4:=Qb w3 (.cells (tnA s rb m.rg.length mb sb gb (zO) (tmOf m)) 117)
 have n4:=Qc w3 (.cells (tnA s rb m.rg.length mb sb gb (zO) (tmOf m)) 117)
 have z4:=Qe w3 (.cells (tnA s rb m.rg.length mb sb gb (zO) (tmOf m)) 117)
 obtain⟨W4,e4⟩:∃ W,w3.alloc (.cells (tnA s rb m.rg.length mb sb gb (zO) (tmOf m)) 117)=W:=jV
 rw [e4] at b4 n4 z4
 have hrl:=(zJ HRB3.out).1
 have HT:Hid (TnW w§ W4§ (cxOf S s) w3§ rb mb sb gb W4 (zO) (tmOf m)) :=
  {
   t:=n4
   r:=heapOf b4 HRB3.out
   p:=HMB3.out.blk (b4.block _ HMB3.out.lt)
   s:=HSB3.out.blk (b4.block _ HSB3.out.lt)
   g:=HGB3.out.blk (b4.block _ HGB3.out.lt)
   row:=Row.nil _ _ _ _
   nb:=fun k hk=>by simp [Value.ownBlock] at hk
   sz:=fun y hy=>by cases hy
   bt:=HB3.out.size
   br:=HRB.out.1
   th:=by omega
   rh:=by omega
   mh:=by have:=HMB3.out.lt;omega
   sh:=by have:=HSB3.out.lt;omega
   gh:=by have:=HGB3.out.lt;omega
   hw:=Nat.le_refl _
   ne:=by omega
   pi:=fun y i hy=>by
    have:=Hs hy
    rw [List.length_map] at this
    show i < m.rg.length
    rw [HL.out.2.2.2.2.1];exact this
   si:=fun y i hy=>by
    have:=Hs hy
    rw [List.length_map] at this
    have:=HL.out.2.1.n
    omega
   i64:=HL.out.2.2.1.2.1
   fi:=HL.out.2.2.2.2.2
   kp:=fun p hp=>by cases hp }
 have HB4:=zH (Qd HB3.out b4)
 have HW4:=zH e4
 unfold tnA tmOf at HW4
 clear b4 n4 z4 e4 hrl hbx
 rw [HW4.out]
 go_wp2
 go_ret
 exact⟨_,rfl,⟨rb,mb,sb,gb,HT.out⟩,HB4.out⟩
end Go.Proofs.YtfbjofnaghjmeaaGreatDoor
