import Derived.Test.YtfbjofnaghjmeaaGreatDoorA37
namespace Go.Proofs.YtfbjofnaghjmeaaGreatDoor
open Go.Proofs.Tryz
set_option maxRecDepth 100000
set_option maxHeartbeats 16000000
open Go Go.RowKit
set_option linter.unusedVariables false
set_option linter.unusedSimpArgs false
def g00 (x:yB):Option Int:=none
def iniV (m:Nd):Int:=match valR Sx.sn0 g00 m with
 | .ok v=>v
 | .error _=>0
def Kc (S:Qg):Int × List Int:=if erN S=0 then (0,S.rs.map fun r=>iniV r.m) else (erN S,[])
theorem QeC {m:Nd}(h:K7 m=0):Qw m=true∧(m.h.k=1∨(m.h.k=5∧m.h.o=1∧(kid0 m).h.k=1)):=by
 unfold K7 at h
 have h1:=fs_0 h
 have hf:Qw m=true:=by
  have h2:=h1.1
  unfold fE at h2
  cases e:Qw m with
  | true=>rfl
  | false=>rw [e] at h2;simp at h2
 refine⟨hf,?_⟩
 have h3:=h1.2
 split at h3
 ·rename_i hk
  exact .inr ⟨hk.1,hk.2,of_decide_eq_true (Qea (fs_0 h3).2)⟩
 ·exact .inl (of_decide_eq_true (Qea h3))
theorem Qis {t n:Int}(h:litB t n=true):0≤n:=by
 unfold litB at h
 repeat' split at h
 all_goals simp at h
 all_goals omega
theorem QaK {w:yW}{m:Nd}(hl:Lies w m) (h:K7 m=0):Res g00 m∧∃ v,valR Sx.sn0 g00 m=.ok v∧I64 v:=by
 obtain⟨hf,hk⟩:=QeC h
 obtain⟨hd,a,c,ks⟩:=m
 simp only [Qw,oneH,Bool.and_eq_true] at hf
 rcases hk with hk | ⟨hk,ho,hk0⟩
 ·replace hk:hd.k=1:=hk
  have hk1:ks = []:=by
   have:=hf.1.2
   unfold fitB at this
   rw [if_pos hk] at this
   simp only [Bool.and_eq_true,decide_eq_true_eq] at this
   exact List.eq_nil_of_length_eq_zero this.1
  subst hk1
  refine⟨.mk hd a c [] hf.1.2 (fun e=>by omega) (fun k hk=>by cases hk),hd.n,?_,hl.rg.n0,hl.rg.n1⟩
  unfold valR cmb
  rw [if_pos hk]
 ·replace hk:hd.k=5:=hk
  replace ho:hd.o=1:=ho
  have hk2:ks.length=1:=by
   have:=hf.1.2
   unfold fitB at this
   rw [if_neg zY,if_neg zY,if_neg zY,if_neg zY,if_pos hk] at this
   simp only [Bool.and_eq_true,decide_eq_true_eq] at this
   exact this.1
  obtain⟨k,rfl⟩:=List.length_eq_one_iff.1 hk2
  obtain⟨h2,a2,c2,ks2⟩:=k
  replace hk0:h2.k=1:=hk0
  have hf2:=KX _ hf.2 _ (List.mem_cons_self ..)
  simp only [Qw,oneH,Bool.and_eq_true] at hf2
  have h3:=hf2.1.2
  unfold fitB at h3
  rw [if_pos hk0] at h3
  simp only [Bool.and_eq_true,decide_eq_true_eq] at h3
  have hl2:ks2 = []:=List.eq_nil_of_length_eq_zero h3.1
  subst hl2
  have hn:=Qis h3.2
  have hn2:h2.n≤jX:=(hl.sub _ (List.mem_cons_self ..)).rg.n1
  refine⟨.mk hd a c _ hf.1.2 (fun e=>by omega) (fun k hk=>by
   obtain rfl:=List.mem_singleton.1 hk
   exact .mk h2 a2 c2 [] hf2.1.2 (fun e=>by omega) (fun k hk=>by cases hk)),-h2.n,?_,by unfold I64;omega⟩
  have hv:valR Sx.sn0 g00 (.mk h2 a2 c2 [])=.ok h2.n:=by unfold valR cmb;rw [if_pos hk0]
  unfold valR cmb
  simp only [Jq]
  rw [if_neg zY,if_neg zY,if_neg zY,if_neg zY,if_neg zY,if_neg zY]
  simp only [List.getD_cons_zero,hv]
  unfold opR op1
  simp only
  rw [if_pos zY,if_pos ho,wn_t (by unfold Fx.fitB;simp;omega)]
theorem Qgm {w:yW}{m:Nd}(hl:Lies w m) (h:K7 m=0):valR Sx.sn0 g00 m=.ok (iniV m):=by
 obtain⟨_,v,hv,_⟩:=QaK hl h
 unfold iniV
 rw [hv]
def OutSt (w:yW) (r:Int × List Int) (e:Ending) (w':yW):Prop :=
 ∃ ka kc,e=.returned (.tuple #[.agg (ModM.mk 0 ka kc r.2).vals,zI r.1])∧ModL w' ⟨0,ka,kc,r.2⟩∧yD w w'
theorem Qcn (n:Nat):madeCells #[zI 0] n=QX (List.replicate n 0):=by
 unfold QX madeCells
 apply Array.ext
 ·simp
 ·intro i h1 h2
  simp [Nat.mod_one]
theorem QeB (L:List Int) (i:Nat) (v:Int):(QX L).setIfInBounds i (zI v)=QX (L.set i v):=by
 unfold QX
 rw [List.map_set]
 simp
theorem QeX (L:List Int) (n i:Nat) (hi:i < n) (hn:L.length=n):((L.take i ++ List.replicate (n - i) (0:Int)).set i (L[i]'(by omega)))=L.take (i+1) ++ List.replicate (n - (i+1)) 0:=by
 have h1:(L.take i).length=i:=by rw [List.length_take];omega
 rw [List.set_append_right _ _ zY,h1,Nat.sub_self,List.take_add_one,List.getElem?_eq_getElem zY]
 obtain⟨k,ek⟩:∃ k,n - i=k+1:=⟨n - i - 1,by omega⟩
 rw [ek,show n - (i+1)=k by omega,List.replicate_succ,List.set_cons_zero,List.append_assoc]
 rfl
theorem U5 {P:Program}{fn:Func}{p z:Tmp}{ty:TypeId}(h:fn.results=#[.cell p ty,.tmp z]) (tmps:Array Value) (w:yW) (g:Nat) (t:TypeId) (cs:Array Value) (fr:Nat × Nat) (d:TypeDesc) (v:Value)
  (hp:tmps.getD p undef=zP g) (hg:w.heap[g]? = some (.cells cs t fr))
  (hu:P.underlying ty=some d) (hd:(match d with | .struct _ | .array _ _=>true | _=>false)=true) (hi:(P.info? ty).map (·.size)=some cs.size) (hv:tmps.getD z undef=v) :
  (results fn tmps).run P w=.ok (.tuple #[.agg cs,v]) w:=by
 have hp':tmps[p]?.getD undef=zP g:=by simpa using hp
 have hv':tmps[z]?.getD undef=v:=by simpa using hv
 simp [results,h,hp',hv',asAddr,run_loadVar_row w g t ty cs fr d hg hu hd hi]
theorem Qff {W:yW}{B:Nat}(h:W.heap[B]? = (zC si0 91)):Sv W B Sx.sn0 g00 :=
 ⟨⟨Qa h 0,Qa h 1,Qa h 2,Qa h 3,Qa h 4,Qa h 5⟩,fun x v _ hg=>by cases hg⟩
theorem Hi:∀ f,I64 (Sx.getN Sx.sn0 f):=fun f=>by
 unfold Sx.getN Sx.sn0
 simp only [ite_self]
 unfold I64
 omega
theorem box91 (v:Array Value) (w:yW):Sem.run zG (Instr.box 91 (.agg v)) w=.ok (zP w§) (zA w v 91):=by first | rfl | simp [go_sem]
theorem QaA (S:Qg) (w:yW) (hl:Qr w S) (hz:Q2 S) (ht:Tab w) (hf:FTab w) (hg:Ety w):Calls zG 26 #[.agg S.vals] w (OutSt w (Kc S)):=by
 have b1:=Qb w (.cells S.vals 26)
 have b2:=Qb (zA w S.vals 26) (.cells modZ 29)
 have n1:=Qc w (.cells S.vals 26)
 have n2:=Qc (zA w S.vals 26) (.cells modZ 29)
 have n1':=heapOf b2 n1
 rw [Qe] at n2
 have z2:((zA w S.vals 26).alloc (.cells modZ 29))§=w§+2:=by rw [Qe,Qe]
 have hbw:=Qd b1 b2
 obtain⟨W,eW⟩:∃ W,(zA w S.vals 26).alloc (.cells modZ 29)=W:=jV
 have EW:=zH eW
 rw [eW] at n1' n2 hbw z2
 have HB:=zH hbw
 have HL:Hid (Qr w S∧Ety w):=⟨hl,hg⟩
 have cT:Calls zG 52 #[.agg S.vals] W (OutC W (chkE S)):=UI S W (hl.on hbw) hz (ht.on hbw) (hf.on hbw) (hg.on hbw)
 obtain⟨g,eg⟩:∃ g,w§=g:=jV
 have HG:Hid (w§=g):=eg
 rw [eg] at n1' n2
 have HN:Hid (W.heap[g]? = (zC S.vals 26)∧W.heap[g+1]? = (zC modZ 29)):=⟨n1',n2⟩
 clear b1 b2 n1 n2 n1' z2 hbw eW hl hz ht hf hg eg
 go_enter func26,ntmps26
 go_upto_region 1 with fail
 rw [show (zA w S.vals 26).alloc (.cells zw 29)=W from EW.out,HG.out]
 clear EW
 go_wp2_with (refine wpList_load_row rfl 26 (.tmp 1) rfl g rfl 26 S.vals (0,0) _ HN.out.1 underlying26 rfl (Jo S) ?_)
 refine cT.mono ?_
 rintro e w1 (⟨hE,rfl,hb⟩ | ⟨p,no,T,v,hE,rfl,hEr,hb⟩)
 rotate_left
 ·have HB1:Hid (yD w w1):=Qd HB.out hb
  have HN1:=zH (heapOf hb HN.out.2)
  have HNZ:Hid (¬ no=0):=fun h0=>by
   have:=er_0 ((Ug hE).trans h0)
   rw [this] at hE;cases hE
  have HW:Hid (Kc S=(no,[])):=by show _=_;unfold Kc;rw [Ug hE,if_neg HNZ.out]
  have cE:Calls zG 33 #[.iface T v] w1 fun e w'=>e=.returned (zI no)∧yD w1 w':=Vp hEr (HL.out.2.on HB1.out)
  clear hb cT hE hEr
  go_wp2_with fail
  refine cE.mono ?_
  rintro e w2 ⟨rfl,hb⟩
  have HB2:=zH (Qd HB1.out hb)
  have HN2:=zH (heapOf hb HN1.out)
  have hnz:=HNZ.out
  clear hb cE
  go_wp2_with (refine wpList_store_row rfl 29 (.tmp 2) (.tmp 14) rfl (g+1) modZ rfl rfl 29 modZ HN2.out (Jf ..) rfl (Xs ..) ?_)
  refine bodyPost_ret (U5 rfl _ _ (g+1) 29 modZ (0,0) _ _ rfl (setRow_heap _ _ _ _ _ _ HN2.out) underlying29 rfl (Jf ..) rfl) rfl ?_
  rw [HW.out]
  exact⟨none,0,rfl,Fb _,Qn HB2.out (by rw [HG.out];omega) _⟩
 have HB1:=zH (Qd HB.out hb)
 have HN1:Hid (w1.heap[g]? = (zC S.vals 26)∧w1.heap[g+1]? = (zC modZ 29)):=⟨heapOf hb HN.out.1,heapOf hb HN.out.2⟩
 have HER:Hid (erN S=0∧QR S=0):=⟨Fv hE,(XG hE).1⟩
 have cE:=V8 w1
 clear hb cT hE
 go_wp2_with fail
 refine cE.mono ?_
 rintro e w2 ⟨rfl,hb⟩
 have HB2:=zH (Qd HB1.out hb)
 have HN2:Hid (w2.heap[g]? = (zC S.vals 26)∧w2.heap[g+1]? = (zC modZ 29)):=⟨heapOf hb HN1.out.1,heapOf hb HN1.out.2⟩
 clear hb cE
 have hn12:=QhN HER.out.2
 obtain⟨n,en⟩:∃ n,S.rs.length=n:=jV
 have EN:Hid (S.rs.length=n∧n≤12):=⟨en,by omega⟩
 have z1:zQ w2 g¢1 (.slice S.ra S.rs.length S.rc):=Qa HN2.out.1 1
 rw [en] at z1
 have hmk:∀ W,Sem.run zG (Instr.makeSlice 27 (zI (n:Int)) (zI (n:Int))) W=.ok (.slice (some W§¢0) n n) (zA W (madeCells #[zI 0] n) 2):=mk27 zY
 have b3:=Qb w2 (.cells (madeCells #[zI 0] n) 2)
 have n3:=Qc w2 (.cells (madeCells #[zI 0] n) 2)
 have s3:=Qe w2 (.cells (madeCells #[zI 0] n) 2)
 have hgz:=(zJ HN2.out.2).1
 obtain⟨W3,e3⟩:∃ W,w2.alloc (.cells (madeCells #[zI 0] n) 2)=W:=jV
 have E3:=zH e3
 rw [e3] at b3 n3 s3
 have b4:=Qb W3 (.cells si0 91)
 have n4:=Qc W3 (.cells si0 91)
 obtain⟨W4,e4⟩:∃ W,W3.alloc (.cells si0 91)=W:=jV
 have E4:=zH e4
 rw [e4] at b4 n4
 obtain⟨G,eG⟩:∃ G,w2§=G:=jV
 rw [eG] at n3 s3
 rw [s3] at n4
 have HS3:Hid (W3§=G+1∧w2§=G):=⟨s3,eG⟩
 have HB4:Hid (yD w W4∧g+1 < G):=⟨Qd (Qd HB2.out b3) b4,by omega⟩
 have HN4:Hid (W4.heap[g]? = (zC S.vals 26)∧W4.heap[g+1]? = (zC modZ 29)):=⟨heapOf b4 (heapOf b3 HN2.out.1),heapOf b4 (heapOf b3 HN2.out.2)⟩
 have HM4:Hid (W4.heap[G]? = (zC (QX (List.replicate n 0)) 2)):=by show _=_;rw [← Qcn];exact heapOf b4 n3
 have HX4:=zH n4
 have z4:zQ W4 g¢1 (.slice S.ra n S.rc):=by rw [← en];exact Qa HN4.out.1 1
 have hbx:=fun v w=>box91 v w
 clear hn12 en b3 n3 s3 e3 b4 n4 e4 eG hgz
 go_upto_region 5 with fail
 rw [E3.out]
 try rw [HS3.out.2]
 clear z1 hmk E3
 go_upto_region 6 with fail
 rw [show W3.alloc (.cells zu 91)=W4 from E4.out,HS3.out.1]
 clear E4 hbx
 obtain⟨L,eL⟩:∃ L,S.rs.map (fun r=>iniV r.m)=L:=jV
 have HR:Hid (Kc S=(0,L)∧L.length=n):=by
  refine⟨?_,by rw [← eL,List.length_map];exact EN.out.1⟩
  unfold Kc
  rw [if_pos HER.out.1,eL]
 have HLE:=zH eL
 clear eL
 go_wp2_with fail
 go_loopw [25] (fun t wr=>∃ (i:Nat),i≤n∧t=zI i∧Hid (yD w wr)∧Hid (wr.heap[g]? = (zC S.vals 26)∧wr.heap[g+1]? = (zC modZ 29)∧wr.heap[G]? = (zC (QX (L.take i ++ List.replicate (n - i) 0)) 2)∧wr.heap[G+1]? = (zC si0 91))) (fun t _=>n - (intOf t).toNat)
 case atStart=>exact⟨0,by omega,rfl,HB4.out.1,HN4.out.1,HN4.out.2,by simpa using HM4.out,HX4.out⟩
 case round =>
  obtain⟨i,hi,rfl,HBR,HKR⟩:=hrel
  by_cases hlt:i < n
  ·have hlt':(i:Int) < (n:Int):=by omega
   have hmx:(i:Int)+1≤jX:=by have h1:=EN.out.2;omega
   have hlt1:i < S.rs.length:=by rw [EN.out.1];exact hlt
   have hlt2:i < L.length:=by rw [HR.out.2];exact hlt
   obtain⟨b,o,ea,hat⟩:=(HL.out.1.1.on (mapz RegM.sz _) HBR.out).2.2 i (by rw [List.length_map];exact hlt1)
   simp only [List.getElem_map] at hat
   have hm:=HL.out.1.2.1 _ (List.getElem_mem hlt1)
   have hie:K7 S.rs[i].m=0:=by
    have h1:=HER.out.2
    unfold QR at h1
    have h2:=XN _ (fs_0 (fs_0 (fs_0 h1).2).2).1 _ (List.mem_map.2 ⟨S.rs[i],List.getElem_mem hlt1,rfl⟩)
    unfold regE at h2
    exact (fs_0 (fs_0 h2).2).2
   have hLi:L[i]=iniV S.rs[i].m:=by
    have h1:=HLE.out
    subst h1
    rw [List.getElem_map]
   obtain⟨d,ed⟩:∃ d,S.rs[i]=d:=jV
   rw [ed] at hat hm hie hLi
   have HV:Hid (valR Sx.sn0 g00 d.m=.ok (iniV d.m)∧Res g00 d.m∧Lies w d.m):=⟨Qgm hm.1 hie,(QaK hm.1 hie).1,hm.1⟩
   have HFS:Hid ((L.take i ++ List.replicate (n - i) (0:Int)).set i (iniV d.m)=L.take (i+1) ++ List.replicate (n - (i+1)) 0):=by
    show _=_
    rw [← hLi]
    exact QeX L n i hlt HR.out.2
   have HRG:Hid (wr.rangeAt b (o+i * 11) d.vals.toList):=fun j v hv=>by
    have hj:j < 11:=(List.getElem?_eq_some_iff.1 hv).1
    rw [hat j hj,← hv];simp
   have HN5:Hid ((zA wr ze 102).heap[wr§]? = (zC ze 102)):=Qc _ _
   have hbx:yD wr ((zA wr ze 102).setRow wr§ d.vals):=Qn (Qb _ _) (Nat.le_refl _) _
   have HBX:=zH (Qd HBR.out hbx)
   have HKX:Hid (((zA wr ze 102).setRow wr§ d.vals).heap[g]? = (zC S.vals 26)∧((zA wr ze 102).setRow wr§ d.vals).heap[g+1]? = (zC modZ 29)∧((zA wr ze 102).setRow wr§ d.vals).heap[G]? = (zC (QX (L.take i ++ List.replicate (n - i) 0)) 2)∧((zA wr ze 102).setRow wr§ d.vals).heap[G+1]? = (zC si0 91)) :=
    ⟨heapOf hbx HKR.out.1,heapOf hbx HKR.out.2.1,heapOf hbx HKR.out.2.2.1,heapOf hbx HKR.out.2.2.2⟩
   have HNX:Hid (((zA wr ze 102).setRow wr§ d.vals).heap[wr§]? = (zC d.vals 102)):=setRow_heap _ _ _ _ _ _ HN5.out
   rw [ea]
   clear hat ed hbx hm hie hLi hlt1 hlt2 ea HBR HKR
   go_upto_region 9 with (first | (refine wpList_load_mid rfl 102 (.tmp 28) rfl b (o+i * 11) rfl d.vals.toList _ HRG.out underlying102 rfl (by show _=some 11;exact QO) ?_;rw [Array.toArray_toList]) | (refine wpList_store_row rfl 102 (.tmp 8) (.tmp 29) rfl wr§ d.vals rfl rfl 102 ze HN5.out QO rfl (Uq d) ?_))
   generalize hWX:World.setRow _ _ _=WX
   rw [hWX] at HBX HNX HKX
   clear hWX HN5 HRG
   obtain⟨B,eB⟩:∃ B,wr§=B:=jV
   rw [eB] at HNX ⊢
   clear eB
   have cV:Calls zG 37 #[.pointer (some ⟨G+1,0,none⟩),.agg #[zU d.m.h.k,zU d.m.h.o,zU d.m.h.t,zI d.m.h.n,zU d.m.h.f,.string d.m.h.x,.slice d.m.a d.m.ks.length d.m.c,zI d.m.h.p]] WX (fun e w'=>e=.returned (zI (iniV d.m))∧yD WX w'):=by
    have c:=(Jx (b:=G+1) Hi d.m WX (Qff HKX.out.2.2.2) (HV.out.2.2.on HBX.out) HV.out.2.1)
    unfold OutV at c
    rw [HV.out.1] at c
    exact c
   obtain⟨V,eV⟩:∃ V,iniV d.m=V:=jV
   rw [eV] at cV HFS
   have c0:zQ WX B¢2 (zU d.m.h.k):=Qa HNX.out 2
   have c1:zQ WX B¢3 (zU d.m.h.o):=Qa HNX.out 3
   have c2:zQ WX B¢4 (zU d.m.h.t):=Qa HNX.out 4
   have c3:zQ WX B¢5 (zI d.m.h.n):=Qa HNX.out 5
   have c4:zQ WX B¢6 (zU d.m.h.f):=Qa HNX.out 6
   have c5:zQ WX B¢7 (.string d.m.h.x):=Qa HNX.out 7
   have c6:zQ WX B¢8 (.slice d.m.a d.m.ks.length d.m.c):=Qa HNX.out 8
   have c7:zQ WX B¢9 (zI d.m.h.p):=Qa HNX.out 9
   have h0i:(0:Int)≤(i:Int):=by omega
   clear eV
   go_wp2_with fail
   refine cV.mono ?_
   rintro e w6 ⟨rfl,hb⟩
   have HB6:=zH (Qd HBX.out hb)
   have HK6:Hid (w6.heap[g]? = (zC S.vals 26)∧w6.heap[g+1]? = (zC modZ 29)∧w6.heap[G]? = (zC (QX (L.take i ++ List.replicate (n - i) 0)) 2)∧w6.heap[G+1]? = (zC si0 91)) :=
    ⟨heapOf hb HKX.out.1,heapOf hb HKX.out.2.1,heapOf hb HKX.out.2.2.1,heapOf hb HKX.out.2.2.2⟩
   have hLl:(L.take i ++ List.replicate (n - i) (0:Int)).length=n:=by rw [List.length_append,List.length_take,List.length_replicate,HR.out.2];omega
   have d0:∃ q,w6.cell? G¢i=some q:=by
    have h1:w6.cell? G¢i=(QX (L.take i ++ List.replicate (n - i) 0))[i]?:=Qa HK6.out.2.2.1 i
    rw [h1,Ud (List.getElem?_eq_getElem zY)]
    exact⟨_,rfl⟩
   obtain⟨q,d0⟩:=d0
   have d1:zS w6 G¢i:=Qf HK6.out.2.2.1 i
   have HBS:Hid (yD w (w6.setCell G¢i (zI V))):=HB6.out.setCell (p:=G¢i) (by rw [HG.out];have:=HB4.out.2;show g≤G;omega) _
   have HKS:Hid ((w6.setCell G¢i (zI V)).heap[g]? = (zC S.vals 26)∧(w6.setCell G¢i (zI V)).heap[g+1]? = (zC modZ 29)∧(w6.setCell G¢i (zI V)).heap[G]? = (zC (QX (L.take (i+1) ++ List.replicate (n - (i+1)) 0)) 2)∧(w6.setCell G¢i (zI V)).heap[G+1]? = (zC si0 91)):=by
    have hg:=HB4.out.2
    refine⟨(Jp _ zY).trans HK6.out.1,(Jp _ zY).trans HK6.out.2.1,?_,(Jp _ zY).trans HK6.out.2.2.2⟩
    rw [Qp (j:=i) (zI V) HK6.out.2.2.1,QeB,HFS.out]
   clear hb cV c0 c1 c2 c3 c4 c5 c6 c7 hLl
   go_wp2_with fail
   exact⟨⟨i+1,hlt,rfl,HBS,HKS⟩,by simp only [intOf];omega⟩
  ·obtain rfl:i=n:=by omega
   have hnot:¬ (i:Int) < (i:Int):=by omega
   have HF:Hid (wr.heap[G]? = (zC (QX L) 2)):=by
    have h1:=HKR.out.2.2.1
    rw [List.take_of_length_le (by have:=HR.out.2;omega),Nat.sub_self,List.replicate_zero,List.append_nil] at h1
    exact h1
   go_wp2_with (refine wpList_store_row rfl 29 (.tmp 2) (.tmp 39) rfl (g+1) (modV 0 (some G¢0) i i) rfl rfl 29 modZ HKR.out.2.1 (Jf ..) rfl (Xs ..) ?_)
   refine bodyPost_ret (U5 rfl _ _ (g+1) 29 (modV 0 (some G¢0) i i) (0,0) _ _ rfl (setRow_heap _ _ _ _ _ _ HKR.out.2.1) underlying29 rfl (Jf ..) rfl) rfl ?_
   rw [HR.out.1]
   refine⟨some G¢0,i,?_,⟨?_,?_,by show I64 0;unfold I64;omega⟩,Qn HBR.out (by rw [HG.out];omega) _⟩
   ·rw [← HR.out.2];rfl
   ·have hgG:(wr.setRow (g+1) (modV 0 (some G¢0) i i)).heap[G]? = (zC (QX L) 2):=(setRow_other _ _ _ _ (by have:=HB4.out.2;omega)).trans HF.out
    have h1:=KM hgG (by have:=HR.out.2;have:=EN.out.2;omega)
    rw [HR.out.2] at h1
    exact h1
   ·intro v hv
    have h1:=HLE.out
    subst h1
    obtain⟨r,hr,rfl⟩:=List.mem_map.1 hv
    have h2:=HER.out.2
    unfold QR at h2
    have h3:=XN _ (fs_0 (fs_0 (fs_0 h2).2).2).1 _ (List.mem_map.2 ⟨r,hr,rfl⟩)
    unfold regE at h3
    obtain⟨_,v,hv,h64⟩:=QaK (HL.out.1.2.1 r hr).1 (fs_0 (fs_0 h3).2).2
    unfold iniV
    rw [hv]
    exact h64
theorem Qa2 (s:Sx.Sn) (G:yB→Option Int):∀ l:List Nd,(∀ k ∈ l,valR s G (bare k)=valR s G k)→Jq s G (l.map bare)=Jq s G l
 | [],_=>rfl
 | k :: l,h=>by simp only [List.map_cons,Jq];rw [h k (by simp),Qa2 s G l fun x hx=>h x (by simp [hx])]
theorem FM (s:Sx.Sn) (G:yB→Option Int):∀ m,valR s G (bare m)=valR s G m:=by
 refine Nd.ind fun h a c ks ih=>?_
 rw [Ks]
 simp only [valR]
 rw [Qa2 s G ks ih]
theorem doN_b (x:Cx) (q:Tm) (d:DoM):doN x q (bDo d)=doN x q d:=by
 unfold doN subR amdR bDo
 simp only [FM]
theorem Qe2 (x:Cx):∀ (l:List DoM) (q:Tm),dosN x q (l.map bDo)=dosN x q l
 | [],q=>rfl
 | d :: l,q=>by
  simp only [List.map_cons,dosN,doN_b]
  cases doN x q d with
  | error c=>rfl
  | ok q'=>exact Qe2 x l q'
theorem QbB (x:Cx) (q:Tm):∀ (l:List Qy) (i:Nat),Q0 x q i (l.map Kh)=Q0 x q i l
 | [],i=>rfl
 | r :: l,i=>by
  simp only [List.map_cons,Q0,QbB x q l]
  rw [show (Kh r).m=bare r.m from rfl,show (Kh r).ds=r.ds.map bDo from rfl,FM,Qe2]
theorem cxOf_b (S:Qg) (s:Sx.Sn):cxOf (bStr S) s=cxOf S s:=by
 unfold cxOf bStr
 simp only [List.map_map]
 rfl
theorem Qbv:∀ (l:List RegM) (v:List Int),JC (l.map bReg) v=JC l v
 | [],_=>rfl
 | r :: l,[]=>rfl
 | r :: l,v :: vs=>by
  simp only [List.map_cons,JC,Qbv l vs]
  rfl
theorem isMo_b (S:Qg) (m:ModM):isMo (bStr S) m=isMo S m:=by
 unfold isMo bStr
 simp only [List.length_map,Qbv]
theorem Qhj (S:Qg):erN (bStr S)=erN S:=by unfold erN;rw [chkE_b]
theorem wrN_b (S:Qg) (m:ModM) (s:Sx.Sn):wrN (bStr S) m s=wrN S m s:=by unfold wrN;rw [Qhj,isMo_b]
theorem Qb1 (S:Qg) (i:Int):Xy (bStr S) i=(Xy S i).map Kh:=by
 unfold Xy bStr
 simp only [List.getElem?_map]
 cases S.ts[i.toNat]? with
 | none=>rfl
 | some X=>rfl
theorem QfC (S:Qg) (m:ModM) (s:Sx.Sn) (gr:Bool):J0 (bStr S) m s gr=J0 S m s gr:=by
 unfold J0
 rw [wrN_b,Qb1,QbB,cxOf_b]
theorem Qdh (S:Qg):Kc (bStr S)=Kc S:=by
 unfold Kc
 rw [Qhj]
 show (if erN S=0 then ((0:Int),(S.rs.map bReg).map fun r=>iniV r.m) else _)=_
 rw [List.map_map]
 have:((fun r:RegM=>iniV r.m) ∘ bReg)=fun r=>iniV r.m:=by
  funext r
  show iniV (bare r.m)=_
  unfold iniV
  rw [FM]
 rw [this]
def txS:yB:=⟨#[115,116,114,97,116,101,103,121,32,115,32,123,32,114,101,103,32,110,32,105,110,116,32,61,32,50,59,32,115,108,111,116,32,111,59,32,115,116,97,116,101,32,97,32,123,32,119,104,101,110,32,104,97,115,32,98,105,100,32,38,38,32,98,105,100,32,62,32,53,112,32,100,111,32,115,117,98,109,105,116,32,98,117,121,32,111,102,32,113,116,121,40,110,41,32,97,116,32,98,105,100,32,45,32,49,112,32,112,111,115,116,32,97,115,32,111,44,32,115,101,116,32,110,32,61,32,110,32,43,32,49,44,32,103,111,116,111,32,98,59,32,119,104,101,110,32,49,48,32,47,32,110,32,62,32,52,32,100,111,32,104,97,108,116,59,32,125,32,115,116,97,116,101,32,98,32,123,32,119,104,101,110,32,108,97,115,116,32,62,32,48,112,32,100,111,32,99,97,110,99,101,108,32,111,59,32,125,32,125]⟩
def sS:K4:=(Ht txS).getD ⟨txS,[],[],[]⟩
set_option maxRecDepth 1000000
theorem pS1:Ht txS=some sS:=by kernel_rfl
theorem stS:Kc (sT sS)=(0,[2]):=by kernel_rfl
theorem zBS:zB (sT sS)=true:=by kernel_rfl
theorem tu1 (a:Option Addr) (c:Nat):J0 (sT sS) ⟨0,a,c,[2]⟩ ⟨9,0,0,0,0,0⟩ true=⟨0,0,false,[acA 1 5 1 8 2 1],1,0,1,[3]⟩:=by kernel_rfl
theorem tu2 (a:Option Addr) (c:Nat):J0 (sT sS) ⟨0,a,c,[2]⟩ Sx.sn0 false=⟨0,1,false,[],2,0,0,[2]⟩:=by kernel_rfl
theorem tu3 (a:Option Addr) (c:Nat):J0 (sT sS) ⟨0,a,c,[0]⟩ Sx.sn0 true=⟨0,-1,false,[],3,11,0,[0]⟩:=by kernel_rfl
theorem all26 (S:Qg):S.vals.all (·.oneCell')=true:=by simp [Qg.vals,Value.oneCell']
def strZ:Array Value:=zk
theorem X1 {w w':yW}{g n:Nat}{a:Option Addr}{c:Nat}{vs:List (Array Value)}(h:SlAt w n a c vs) (hno:∀ o K i,w.cell? g¢o≠some (.int K i)) (ho:∀ b,b≠g→w'.heap[b]? = w.heap[b]?) (hv:∀ v ∈ vs,∃ j K i,j < n∧v[j]? = some (.int K i)):SlAt w' n a c vs:=⟨h.1,h.2.1,fun i hi=>by
 obtain⟨b,o,ea,hat⟩:=h.2.2 i hi
 obtain⟨j,K,z,hj,hz⟩:=hv _ (List.getElem_mem hi)
 have hb:b≠g:=by rintro rfl;exact hno _ _ _ ((hat j hj).trans hz)
 refine⟨b,o,ea,fun j hj=>?_⟩
 rw [← hat j hj]
 unfold World.cell?
 simp only [ho b hb]⟩
theorem Qgk {w w':yW}{g:Nat}(hno:∀ o K i,w.cell? g¢o≠some (.int K i)) (ho:∀ b,b≠g→w'.heap[b]? = w.heap[b]?):∀ (m:Nd),Lies w m→Lies w' m:=by
 refine Nd.ind fun h a c ks ih hl=>?_
 refine .mk h a c ks hl.rg hl.cap hl.max (fun i hi=>?_) (fun k hk=>ih k hk (hl.sub k hk))
 obtain⟨b,o,ea,hat⟩:=hl.kid i hi
 refine⟨b,o,ea,?_⟩
 have hb:b≠g:=by rintro rfl;exact hno _ _ _ hat.c0
 have hc:∀ j,w'.cell? b¢j=w.cell? b¢j:=fun j=>by unfold World.cell?;simp only [ho b hb]
 exact⟨(hc _).trans hat.c0,(hc _).trans hat.c1,(hc _).trans hat.c2,(hc _).trans hat.c3,(hc _).trans hat.c4,(hc _).trans hat.c5,(hc _).trans hat.c6,(hc _).trans hat.c7⟩
theorem QbX {w w':yW}{g:Nat}{S:Qg}(hl:Qr w S) (hno:∀ o K i,w.cell? g¢o≠some (.int K i)) (ho:∀ b,b≠g→w'.heap[b]? = w.heap[b]?):Qr w' S:=by
 have L:=fun m h=>Qgk hno ho m h
 refine⟨X1 hl.1 hno ho (fun v hv=>?_),fun r hr=>⟨L _ (hl.2.1 r hr).1,(hl.2.1 r hr).2⟩,X1 hl.2.2.1 hno ho (fun v hv=>?_),hl.2.2.2.1,X1 hl.2.2.2.2.1 hno ho (fun v hv=>?_),fun X hX=>?_,hl.2.2.2.2.2.2⟩
 ·obtain⟨r,_,rfl⟩:=List.mem_map.1 hv
  exact⟨1,_,_,by omega,rfl⟩
 ·obtain⟨r,_,rfl⟩:=List.mem_map.1 hv
  exact⟨1,_,_,by omega,rfl⟩
 ·obtain⟨r,_,rfl⟩:=List.mem_map.1 hv
  exact⟨2,_,_,by omega,rfl⟩
 ·have h1:=hl.2.2.2.2.2.1 X hX
  refine⟨X1 h1.1 hno ho (fun v hv=>?_),fun r hr=>?_,h1.2.2⟩
  ·obtain⟨r,_,rfl⟩:=List.mem_map.1 hv
   exact⟨0,_,_,by omega,rfl⟩
  ·have h2:=h1.2.1 r hr
   refine⟨L _ h2.1,X1 h2.2.1 hno ho (fun v hv=>?_),fun d hd=>?_,h2.2.2.2⟩
   ·obtain⟨d,_,rfl⟩:=List.mem_map.1 hv
    exact⟨0,_,_,by omega,rfl⟩
   ·have h3:=h2.2.2.1 d hd
    exact⟨L _ h3.1,L _ h3.2.1,L _ h3.2.2.1,L _ h3.2.2.2.1,h3.2.2.2.2⟩
theorem QfG {w:yW}{g:Nat}(h:w.heap[g]? = (zC strZ 26)):∀ o K i,w.cell? g¢o≠some (.int K i):=fun o K i hc=>by
 have h1:w.cell? g¢o=strZ[o]?:=Qa h o
 rw [h1] at hc
 have h2:=(zJ hc)
 obtain⟨ho,hv⟩:=h2
 have ho:o < 4:=ho
 have:o=0∨o=1∨o=2∨o=3:=by omega
 rcases this with rfl | rfl | rfl | rfl <;> cases hv
theorem FY (w:yW):Calls zG 25 #[] w fun e w'=>∃ m:Qg,e=.returned (.agg m.vals)∧m.tr=sS∧Qr w' m∧yD w w':=by
 have b1:=Qb w (.cells strZ 26)
 have n1:=Qc w (.cells strZ 26)
 obtain⟨W,eW⟩:∃ W,w.alloc (.cells strZ 26)=W:=jV
 have EW:=zH eW
 rw [eW] at b1 n1
 obtain⟨g,eg⟩:∃ g,w§=g:=jV
 have HG:Hid (w§=g):=eg
 rw [eg] at n1
 have HB:=zH b1
 have HN:=zH n1
 clear b1 n1 eW eg
 go_enter func25,ntmps25
 go_upto_region 1 with fail
 rw [show w.alloc (.cells zk 26)=W from EW.out,HG.out]
 clear EW
 go_wp2_with fail
 refine (QfE (s:=txS) (by decide) pS1 W).mono ?_
 rintro e w1 ⟨m,rfl,htr,hls,hb1⟩
 have HB1:=zH (Qd HB.out hb1)
 have HN1:=zH (heapOf hb1 HN.out)
 have b2:=Qb w1 (.cells #[.string m.x,.slice m.ra m.rs.length m.rc,.slice m.sa m.ss.length m.sc,.slice m.ta m.ts.length m.tc] 26)
 have n2:=Qc w1 (.cells #[.string m.x,.slice m.ra m.rs.length m.rc,.slice m.sa m.ss.length m.sc,.slice m.ta m.ts.length m.tc] 26)
 have b3:=Qb (zA w1 #[.string m.x,.slice m.ra m.rs.length m.rc,.slice m.sa m.ss.length m.sc,.slice m.ta m.ts.length m.tc] 26) (.cells zi 123)
 have n2':=heapOf b3 n2
 obtain⟨W3,e3⟩:∃ W,(zA w1 #[.string m.x,.slice m.ra m.rs.length m.rc,.slice m.sa m.ss.length m.sc,.slice m.ta m.ts.length m.tc] 26).alloc (.cells zi 123)=W:=jV
 have E3:=zH e3
 rw [e3] at b3 n2'
 have hb13:=Qd b2 b3
 obtain⟨A,eA⟩:∃ A,w1§=A:=jV
 have HAG:Hid (w1§=A):=eA
 have HB3:=zH (Qd HB1.out hb13)
 have HN3:Hid (W3.heap[g]? = (zC strZ 26)∧W3.heap[A]? = (zC m.vals 26)):=⟨heapOf hb13 HN1.out,by rw [← eA];exact n2'⟩
 have HL:Hid (m.tr=sS∧Qr W3 m):=⟨htr,hls.on hb13⟩
 clear b2 n2 b3 n2' e3 hb13 eA htr hls hb1
 unfold Qg.vals
 go_upto_region 2 with fail
 rw [E3.out,HAG.out]
 clear E3
 go_wp2_with (first | (refine wpList_load_row rfl 26 (.tmp 1) rfl A rfl 26 m.vals (0,0) _ HN3.out.2 underlying26 rfl (Jo m) ?_) | (refine wpList_store_row rfl 26 (.tmp 0) (.tmp 7) rfl g m.vals rfl rfl 26 strZ HN3.out.1 (Jo m) rfl (all26 m) ?_))
 refine bodyPost_ret (results_cell_row rfl _ _ g 26 m.vals (0,0) _ rfl (setRow_heap _ _ _ _ _ _ HN3.out.1) underlying26 rfl (Jo m)) rfl ?_
 have hbf:=Qn HB3.out (Nat.le_of_eq HG.out) m.vals
 exact⟨m,rfl,HL.out.1,QbX HL.out.2 (QfG HN3.out.1) (fun b hb=>setRow_other _ _ _ _ hb),hbf⟩
theorem Hh (w:yW) (x y:Array Value) (t u:TypeId):((zA w x t).alloc (.cells y u)).heap[w§]? = (zC x t)∧((zA w x t).alloc (.cells y u)).heap[w§+1]? = (zC y u)∧yD w ((zA w x t).alloc (.cells y u)):=by
 have h1:=Qb w (.cells x t)
 have h2:=Qb (zA w x t) (.cells y u)
 have h3:=Qc w (.cells x t)
 have h4:=Qc (zA w x t) (.cells y u)
 rw [Qe] at h4
 exact⟨heapOf h2 h3,h4,Qd h1 h2⟩
theorem Qel {w:yW}{st:Int}{ka:Option Addr}{kc:Nat}{v:Int}(h:ModL w ⟨st,ka,kc,[v]⟩):∃ b o,ka=some b¢o∧zQ w b¢o (zI v):=by
 obtain⟨b,o,ea,hc⟩:=Qga h (i:=0) (show 0 < [v].length by simp)
 exact⟨b,o,ea,hc⟩
theorem QbY {S:Qg}{w:yW}{v:Int}(hr:Kc S=(0,[v])) (hl:Qr w S) (hz:Q2 S) (ht:Tab w) (hf:FTab w) (hg:Ety w):Calls zG 26 #[.agg S.vals] w fun e w'=>∃ b o c,e=.returned (.tuple #[.agg #[zI 0,.slice (some b¢o) 1 c],zI 0])∧zQ w' b¢o (zI v)∧ModL w' ⟨0,some b¢o,c,[v]⟩∧yD w w':=by
 refine (QaA S w hl hz ht hf hg).mono ?_
 rintro e w' ⟨ka,kc,he,hm,hb⟩
 rw [hr] at he hm
 obtain⟨b,o,rfl,hc⟩:=Qel hm
 exact⟨b,o,kc,he,hc,hm,hb⟩
theorem PB {S:Qg}{m:ModM}{s:Sx.Sn}{gr:Bool}{w:yW}{ru su co st v:Int}{rf:Bool}(hr:J0 S m s gr=⟨0,ru,rf,[],su,co,st,[v]⟩) (hl:Qr w S) (hz:Q2 S) (hm:ModL w m) (hn:m.rg.length≤65536) (hi:∀ f,I64 (Sx.getN s f)) (ht:Tab w) (hf:FTab w) (hg:Ety w) :
  Calls zG 20 #[.agg S.vals,.agg m.vals,.agg (Sx.snA s),.bool gr] w fun e w'=>∃ fa fc b o c,e=.returned (.tuple #[.agg #[zI ru,.bool rf,.slice fa 0 fc,zU su,zI co,zI 0],.agg #[zI st,.slice (some b¢o) 1 c],zI 0])∧zQ w' b¢o (zI v)∧yD w w':=by
 refine (PC S m s gr w hl hz hm hn hi ht hf hg).mono ?_
 rintro e w' ⟨fa,fc,ka,kc,he,_,hm,hb⟩
 rw [hr] at he hm
 obtain⟨b,o,rfl,hc⟩:=Qel hm
 exact⟨fa,fc,b,o,kc,he,hc,hb⟩
theorem Qc6 {S:Qg}{m:ModM}{s:Sx.Sn}{gr:Bool}{w:yW}{ru su co st v k o s1 p n l:Int}{rf:Bool}(hr:J0 S m s gr=⟨0,ru,rf,[acA k o s1 p n l],su,co,st,[v]⟩) (hl:Qr w S) (hz:Q2 S) (hm:ModL w m) (hn:m.rg.length≤65536) (hi:∀ f,I64 (Sx.getN s f)) (ht:Tab w) (hf:FTab w) (hg:Ety w) :
  Calls zG 20 #[.agg S.vals,.agg m.vals,.agg (Sx.snA s),.bool gr] w fun e w'=>∃ fb fo fc b j c,e=.returned (.tuple #[.agg #[zI ru,.bool rf,.slice (some fb¢fo) 1 fc,zU su,zI co,zI 0],.agg #[zI st,.slice (some b¢j) 1 c],zI 0])∧(∀ i,i < 6→w'.cell? ⟨fb,fo+i,none⟩=(acA k o s1 p n l)[i]?)∧zQ w' b¢j (zI v)∧yD w w':=by
 refine (PC S m s gr w hl hz hm hn hi ht hf hg).mono ?_
 rintro e w' ⟨fa,fc,ka,kc,he,hs,hm,hb⟩
 rw [hr] at he hm hs
 obtain⟨b,j,rfl,hc⟩:=Qel hm
 obtain⟨fb,fo,ea,hat⟩:=hs.2.2 0 (show 0 < [acA k o s1 p n l].length by simp)
 have ea:fa=some fb¢fo:=ea
 subst ea
 exact⟨fb,fo,fc,b,j,kc,he,fun i hi=>by have:=hat i hi;rw [Nat.zero_mul,Nat.add_zero] at this;exact this,hc,hb⟩
theorem U2 {w w':yW}{b o n:Nat}{A:Array Value}(h:∀ i,i < n→w.cell? ⟨b,o+i,none⟩=A[i]?) (k:yD w w') (hA:A.size=n:=by rfl):∀ i,i < n→w'.cell? ⟨b,o+i,none⟩=A[i]?:=fun i hi=>by
 have h1:=h i hi
 rw [Array.getElem?_eq_getElem zY] at h1 ⊢
 exact QG h1 k
theorem QfI:∀ f,I64 (Sx.getN ⟨9,0,0,0,0,0⟩ f):=fun f=>by
 unfold Sx.getN I64
 split
 ·decide
 simp only [ite_self]
 decide
theorem QcO (w:yW) (ht:Tab w) (hf:FTab w) (hg:Ety w):Calls zG 8 #[] w fun e w'=>e=.returned (.bool true)∧yD w w':=by
 have HT:Hid (Tab w∧FTab w∧Ety w):=⟨ht,hf,hg⟩
 clear ht hf hg
 go_enter func8,ntmps8
 go_wp2_with fail
 refine (FY w).mono ?_
 rintro e w1 ⟨S,rfl,htr,hls,hb1⟩
 have hbs:bStr S=sT sS:=by rw [QgV,htr]
 have HS:Hid (Kc S=(0,[2])∧Q2 S∧∀ md s g,J0 S md s g=J0 (sT sS) md s g):=⟨by rw [← Qdh,hbs];exact stS,zB_z (by rw [← zB_b,hbs];exact zBS),fun md s g=>by rw [← QfC,hbs]⟩
 have hb2:=Qb w1 (.cells #[.string S.x,.slice S.ra S.rs.length S.rc,.slice S.sa S.ss.length S.sc,.slice S.ta S.ts.length S.tc] 26)
 have hn2:=Qc w1 (.cells #[.string S.x,.slice S.ra S.rs.length S.rc,.slice S.sa S.ss.length S.sc,.slice S.ta S.ts.length S.tc] 26)
 unfold Qg.vals
 go_upto_region 2 with fail
 generalize w1.alloc (.cells #[.string S.x,.slice S.ra S.rs.length S.rc,.slice S.sa S.ss.length S.sc,.slice S.ta S.ts.length S.tc] 26)=W1 at hb2 hn2 ⊢
 generalize w1§=A1 at hn2 ⊢
 have HW1:=zH (Qd hb1 hb2)
 have HSL:Hid (Qr W1 S):=hls.on hb2
 have HA1:=zH hn2
 clear htr hls hbs hb1 hb2 hn2
 have cS:=QbY HS.out.1 HSL.out HS.out.2.1 (HT.out.1.on HW1.out) (HT.out.2.1.on HW1.out) (HT.out.2.2.on HW1.out)
 go_wp2_with (refine wpList_load_row rfl 26 (.tmp 1) rfl A1 rfl 26 S.vals (0,0) _ HA1.out underlying26 rfl (Jo S) ?_)
 refine cS.mono ?_
 rintro e w2 ⟨mb,mo,mc,rfl,hme,hm,hb1⟩
 have hb2:=Qb w2 (.cells #[zI 0,.slice (some mb¢mo) 1 mc] 29)
 have hn2:=Qc w2 (.cells #[zI 0,.slice (some mb¢mo) 1 mc] 29)
 go_upto_region 3 with fail
 generalize w2.alloc (.cells #[zI 0,.slice (some mb¢mo) 1 mc] 29)=W2 at hb2 hn2 ⊢
 generalize w2§=A2 at hn2 ⊢
 have hbb:=Qd hb1 hb2
 have HW2:=zH (Qd HW1.out hbb)
 replace HSL:Hid (Qr W2 S):=HSL.out.on hbb
 replace HA1:Hid (W2.heap[A1]? = (zC S.vals 26)):=heapOf hbb HA1.out
 have HA2:=zH hn2
 have HM2:=zH (hm.on hb2)
 have HE2:=zH (QG hme hb2)
 clear hme hm hb1 hb2 hn2 hbb cS HW1
 have c1:Calls zG 20 #[.agg S.vals,.agg (ModM.mk 0 (some mb¢mo) mc [2]).vals,.agg #[zI 9,zI 0,zI 0,zI 0,zI 0,zI 0],.bool true] W2 (fun e w'=>∃ fb fo fc b j c,e=.returned (.tuple #[.agg #[zI 0,.bool false,.slice (some fb¢fo) 1 fc,zU 1,zI 0,zI 0],.agg #[zI 1,.slice (some b¢j) 1 c],zI 0])∧(∀ i,i < 6→w'.cell? ⟨fb,fo+i,none⟩=(acA 1 5 1 8 2 1)[i]?)∧zQ w' b¢j (zI 3)∧yD W2 w') :=
  Qc6 (s:=⟨9,0,0,0,0,0⟩) ((HS.out.2.2 _ _ _).trans (tu1 _ _)) HSL.out HS.out.2.1 HM2.out (show [2].length≤65536 by decide) QfI (HT.out.1.on HW2.out) (HT.out.2.1.on HW2.out) (HT.out.2.2.on HW2.out)
 go_wp2_with (first | (refine wpList_load_row rfl 26 (.tmp 1) rfl A1 rfl 26 S.vals (0,0) _ HA1.out underlying26 rfl (Jo S) ?_) | (refine wpList_load_row rfl 29 (.tmp 2) rfl A2 rfl 29 (ModM.mk 0 (some mb¢mo) mc [2]).vals (0,0) _ HA2.out underlying29 rfl (Jz _) ?_))
 refine c1.mono ?_
 rintro e w3 ⟨fb,fo,fc,xb,xo,xc,rfl,hf,hx,hb1⟩
 obtain⟨hn3,hn4,hb2⟩:=Hh w3 #[zI 0,.bool false,.slice (some fb¢fo) 1 fc,zU 1,zI 0,zI 0] #[zI 1,.slice (some xb¢xo) 1 xc] 59 29
 go_upto_region 4 with fail
 generalize (zA w3 #[zI 0,.bool false,.slice (some fb¢fo) 1 fc,zU 1,zI 0,zI 0] 59).alloc (.cells #[zI 1,.slice (some xb¢xo) 1 xc] 29)=W3 at hb2 hn3 hn4 ⊢
 generalize w3§=A3 at hn3 hn4 ⊢
 have hbb:=Qd hb1 hb2
 have HW3:=zH (Qd HW2.out hbb)
 replace HSL:Hid (Qr W3 S):=HSL.out.on hbb
 replace HA1:Hid (W3.heap[A1]? = (zC S.vals 26)):=heapOf hbb HA1.out
 replace HA2:Hid (W3.heap[A2]? = (zC (ModM.mk 0 (some mb¢mo) mc [2]).vals 29)):=heapOf hbb HA2.out
 replace HM2:Hid (ModL W3 ⟨0,some mb¢mo,mc,[2]⟩):=HM2.out.on hbb
 replace HE2:Hid (zQ W3 mb¢mo (zI 2)):=QG HE2.out hbb
 have HA3:=zH hn3
 have HA4:=zH hn4
 have HE3:=zH (QG hx hb2)
 have HR3:=zH (U2 hf hb2)
 clear hf hx hb1 hb2 hn3 hn4 hbb c1 HW2
 have c1:Calls zG 20 #[.agg S.vals,.agg (ModM.mk 0 (some mb¢mo) mc [2]).vals,.agg #[zI 0,zI 0,zI 0,zI 0,zI 0,zI 0],.bool false] W3 (fun e w'=>∃ fa fc b j c,e=.returned (.tuple #[.agg #[zI 1,.bool false,.slice fa 0 fc,zU 2,zI 0,zI 0],.agg #[zI 0,.slice (some b¢j) 1 c],zI 0])∧zQ w' b¢j (zI 2)∧yD W3 w') :=
  PB (s:=Sx.sn0) ((HS.out.2.2 _ _ _).trans (tu2 _ _)) HSL.out HS.out.2.1 HM2.out (show [2].length≤65536 by decide) Hi (HT.out.1.on HW3.out) (HT.out.2.1.on HW3.out) (HT.out.2.2.on HW3.out)
 go_wp2_with (first | (refine wpList_load_row rfl 26 (.tmp 1) rfl A1 rfl 26 S.vals (0,0) _ HA1.out underlying26 rfl (Jo S) ?_) | (refine wpList_load_row rfl 29 (.tmp 2) rfl A2 rfl 29 (ModM.mk 0 (some mb¢mo) mc [2]).vals (0,0) _ HA2.out underlying29 rfl (Jz _) ?_))
 refine c1.mono ?_
 rintro e w4 ⟨ga,gc,yb,yo,yc,rfl,hx,hb1⟩
 obtain⟨hn3,hn4,hb2⟩:=Hh w4 #[zI 1,.bool false,.slice ga 0 gc,zU 2,zI 0,zI 0] #[zI 0,.slice (some yb¢yo) 1 yc] 59 29
 go_upto_region 5 with fail
 generalize (zA w4 #[zI 1,.bool false,.slice ga 0 gc,zU 2,zI 0,zI 0] 59).alloc (.cells #[zI 0,.slice (some yb¢yo) 1 yc] 29)=W4 at hb2 hn3 hn4 ⊢
 generalize w4§=A5 at hn3 hn4 ⊢
 have hbb:=Qd hb1 hb2
 have HW4:=zH (Qd HW3.out hbb)
 replace HSL:Hid (Qr W4 S):=HSL.out.on hbb
 replace HA1:Hid (W4.heap[A1]? = (zC S.vals 26)):=heapOf hbb HA1.out
 replace HA2:Hid (W4.heap[A2]? = (zC (ModM.mk 0 (some mb¢mo) mc [2]).vals 29)):=heapOf hbb HA2.out
 replace HM2:Hid (ModL W4 ⟨0,some mb¢mo,mc,[2]⟩):=HM2.out.on hbb
 replace HE2:Hid (zQ W4 mb¢mo (zI 2)):=QG HE2.out hbb
 replace HA3:Hid (W4.heap[A3]? = (zC #[zI 0,.bool false,.slice (some fb¢fo) 1 fc,zU 1,zI 0,zI 0] 59)):=heapOf hbb HA3.out
 replace HA4:Hid (W4.heap[A3+1]? = (zC #[zI 1,.slice (some xb¢xo) 1 xc] 29)):=heapOf hbb HA4.out
 replace HE3:Hid (zQ W4 xb¢xo (zI 3)):=QG HE3.out hbb
 replace HR3:Hid (∀ i,i < 6→W4.cell? ⟨fb,fo+i,none⟩=(acA 1 5 1 8 2 1)[i]?):=U2 HR3.out hbb
 have HA5:=zH hn3
 have HA6:=zH hn4
 clear hx hb1 hb2 hn3 hn4 hbb c1 HW3
 have HA1W:=zH HA1.out
 have hb1:=Qb W4 (.cells #[zI 0] 2)
 have hn1:=Qc W4 (.cells #[zI 0] 2)
 obtain⟨V,eV⟩:∃ V,W4.alloc (.cells #[zI 0] 2)=V:=jV
 have EV:=zH eV
 rw [eV] at hb1 hn1
 obtain⟨Q,eQ⟩:∃ Q,W4§=Q:=jV
 have EQ:Hid (W4§=Q):=eQ
 rw [eQ] at hn1
 have HWV:=zH (Qd HW4.out hb1)
 have HMV:Hid (ModL V ⟨0,some Q¢0,1,[0]⟩):=⟨KM (rg:=[0]) hn1 (by decide),fun v hv=>by obtain rfl:=List.mem_singleton.1 hv;unfold I64;omega,by show I64 0;unfold I64;omega⟩
 replace HSL:Hid (Qr V S):=HSL.out.on hb1
 replace HA1:Hid (V.heap[A1]? = (zC S.vals 26)):=heapOf hb1 HA1.out
 replace HA2:Hid (V.heap[A2]? = (zC (ModM.mk 0 (some mb¢mo) mc [2]).vals 29)):=heapOf hb1 HA2.out
 replace HM2:Hid (ModL V ⟨0,some mb¢mo,mc,[2]⟩):=HM2.out.on hb1
 replace HE2:Hid (zQ V mb¢mo (zI 2)):=QG HE2.out hb1
 replace HA3:Hid (V.heap[A3]? = (zC #[zI 0,.bool false,.slice (some fb¢fo) 1 fc,zU 1,zI 0,zI 0] 59)):=heapOf hb1 HA3.out
 replace HA4:Hid (V.heap[A3+1]? = (zC #[zI 1,.slice (some xb¢xo) 1 xc] 29)):=heapOf hb1 HA4.out
 replace HE3:Hid (zQ V xb¢xo (zI 3)):=QG HE3.out hb1
 replace HR3:Hid (∀ i,i < 6→V.cell? ⟨fb,fo+i,none⟩=(acA 1 5 1 8 2 1)[i]?):=U2 HR3.out hb1
 replace HA5:Hid (V.heap[A5]? = (zC #[zI 1,.bool false,.slice ga 0 gc,zU 2,zI 0,zI 0] 59)):=heapOf hb1 HA5.out
 replace HA6:Hid (V.heap[A5+1]? = (zC #[zI 0,.slice (some yb¢yo) 1 yc] 29)):=heapOf hb1 HA6.out
 have c1:Calls zG 20 #[.agg S.vals,.agg #[zI 0,.slice (some Q¢0) 1 1],.agg #[zI 0,zI 0,zI 0,zI 0,zI 0,zI 0],.bool true] V (fun e w'=>∃ fa fc b j c,e=.returned (.tuple #[.agg #[zI (-1),.bool false,.slice fa 0 fc,zU 3,zI 11,zI 0],.agg #[zI 0,.slice (some b¢j) 1 c],zI 0])∧zQ w' b¢j (zI 0)∧yD V w') :=
  PB (m:=⟨0,some Q¢0,1,[0]⟩) (s:=Sx.sn0) ((HS.out.2.2 _ _ _).trans (tu3 _ _)) HSL.out HS.out.2.1 HMV.out (show [0].length≤65536 by decide) Hi (HT.out.1.on HWV.out) (HT.out.2.1.on HWV.out) (HT.out.2.2.on HWV.out)
 clear hb1 hn1 eV eQ
 go_wp2_with (first | (refine wpList_load_row rfl 26 (.tmp 1) rfl A1 rfl 26 S.vals (0,0) _ HA1W.out underlying26 rfl (Jo S) ?_))
 rw [EV.out,EQ.out]
 clear EV EQ HA1W
 refine c1.mono ?_
 rintro e w5 ⟨ha,hc,zb,zo,zc,rfl,hx,hb1⟩
 obtain⟨hn3,hn4,hb2⟩:=Hh w5 #[zI (-1),.bool false,.slice ha 0 hc,zU 3,zI 11,zI 0] #[zI 0,.slice (some zb¢zo) 1 zc] 59 29
 go_upto_region 6 with fail
 generalize (zA w5 #[zI (-1),.bool false,.slice ha 0 hc,zU 3,zI 11,zI 0] 59).alloc (.cells #[zI 0,.slice (some zb¢zo) 1 zc] 29)=W5 at hb2 hn3 hn4 ⊢
 generalize w5§=A7 at hn3 hn4 ⊢
 have hbb:=Qd hb1 hb2
 have HW5:=zH (Qd HWV.out hbb)
 replace HSL:Hid (Qr W5 S):=HSL.out.on hbb
 replace HA1:Hid (W5.heap[A1]? = (zC S.vals 26)):=heapOf hbb HA1.out
 replace HA2:Hid (W5.heap[A2]? = (zC (ModM.mk 0 (some mb¢mo) mc [2]).vals 29)):=heapOf hbb HA2.out
 replace HM2:Hid (ModL W5 ⟨0,some mb¢mo,mc,[2]⟩):=HM2.out.on hbb
 replace HE2:Hid (zQ W5 mb¢mo (zI 2)):=QG HE2.out hbb
 replace HA3:Hid (W5.heap[A3]? = (zC #[zI 0,.bool false,.slice (some fb¢fo) 1 fc,zU 1,zI 0,zI 0] 59)):=heapOf hbb HA3.out
 replace HA4:Hid (W5.heap[A3+1]? = (zC #[zI 1,.slice (some xb¢xo) 1 xc] 29)):=heapOf hbb HA4.out
 replace HE3:Hid (zQ W5 xb¢xo (zI 3)):=QG HE3.out hbb
 replace HR3:Hid (∀ i,i < 6→W5.cell? ⟨fb,fo+i,none⟩=(acA 1 5 1 8 2 1)[i]?):=U2 HR3.out hbb
 replace HA5:Hid (W5.heap[A5]? = (zC #[zI 1,.bool false,.slice ga 0 gc,zU 2,zI 0,zI 0] 59)):=heapOf hbb HA5.out
 replace HA6:Hid (W5.heap[A5+1]? = (zC #[zI 0,.slice (some yb¢yo) 1 yc] 29)):=heapOf hbb HA6.out
 have HA7:=zH hn3
 clear hx hb1 hb2 hn3 hn4 hbb c1 HW4 HWV HMV
 have hb1:=Qb W5 (.cells #[zU 1,zU 5,zU 1,zI 8,zI 2,zI 1] 79)
 have hn1:=Qc W5 (.cells #[zU 1,zU 5,zU 1,zI 8,zI 2,zI 1] 79)
 go_upto_region 7 with fail
 generalize W5.alloc (.cells #[zU 1,zU 5,zU 1,zI 8,zI 2,zI 1] 79)=W6 at hb1 hn1 ⊢
 generalize W5§=A9 at hn1 ⊢
 have HW6:=zH (Qd HW5.out hb1)
 replace HSL:Hid (Qr W6 S):=HSL.out.on hb1
 replace HA1:Hid (W6.heap[A1]? = (zC S.vals 26)):=heapOf hb1 HA1.out
 replace HA2:Hid (W6.heap[A2]? = (zC (ModM.mk 0 (some mb¢mo) mc [2]).vals 29)):=heapOf hb1 HA2.out
 replace HM2:Hid (ModL W6 ⟨0,some mb¢mo,mc,[2]⟩):=HM2.out.on hb1
 replace HE2:Hid (zQ W6 mb¢mo (zI 2)):=QG HE2.out hb1
 replace HA3:Hid (W6.heap[A3]? = (zC #[zI 0,.bool false,.slice (some fb¢fo) 1 fc,zU 1,zI 0,zI 0] 59)):=heapOf hb1 HA3.out
 replace HA4:Hid (W6.heap[A3+1]? = (zC #[zI 1,.slice (some xb¢xo) 1 xc] 29)):=heapOf hb1 HA4.out
 replace HE3:Hid (zQ W6 xb¢xo (zI 3)):=QG HE3.out hb1
 replace HR3:Hid (∀ i,i < 6→W6.cell? ⟨fb,fo+i,none⟩=(acA 1 5 1 8 2 1)[i]?):=U2 HR3.out hb1
 replace HA5:Hid (W6.heap[A5]? = (zC #[zI 1,.bool false,.slice ga 0 gc,zU 2,zI 0,zI 0] 59)):=heapOf hb1 HA5.out
 replace HA6:Hid (W6.heap[A5+1]? = (zC #[zI 0,.slice (some yb¢yo) 1 yc] 29)):=heapOf hb1 HA6.out
 replace HA7:Hid (W6.heap[A7]? = (zC #[zI (-1),.bool false,.slice ha 0 hc,zU 3,zI 11,zI 0] 59)):=heapOf hb1 HA7.out
 have HA9:=zH hn1
 clear hn1 hb1 HW5
 obtain⟨ha2_0,ha2_1⟩:=cl2 HA2.out
 obtain⟨ha3_0,ha3_1,ha3_2,ha3_3,ha3_4,ha3_5⟩:=cl6 HA3.out
 obtain⟨ha4_0,ha4_1⟩:=cl2 HA4.out
 obtain⟨ha5_0,ha5_1,ha5_2,ha5_3,ha5_4,ha5_5⟩:=cl6 HA5.out
 obtain⟨ha6_0,ha6_1⟩:=cl2 HA6.out
 obtain⟨ha7_0,ha7_1,ha7_2,ha7_3,ha7_4,ha7_5⟩:=cl6 HA7.out
 obtain⟨ha9_0,ha9_1,ha9_2,ha9_3,ha9_4,ha9_5⟩:=cl6 HA9.out
 have e2:=HE2.out
 have e3:=HE3.out
 have r0:zQ W6 ⟨fb,fo+0,none⟩ (zU 1):=HR3.out 0 zY
 have r1:zQ W6 ⟨fb,fo+1,none⟩ (zU 5):=HR3.out 1 zY
 have r2:zQ W6 ⟨fb,fo+2,none⟩ (zU 1):=HR3.out 2 zY
 have r3:zQ W6 ⟨fb,fo+3,none⟩ (zI 8):=HR3.out 3 zY
 have r4:zQ W6 ⟨fb,fo+4,none⟩ (zI 2):=HR3.out 4 zY
 have r5:zQ W6 ⟨fb,fo+5,none⟩ (zI 1):=HR3.out 5 zY
 simp only [Nat.add_zero] at r0
 go_upto_region 9 with fail
 go_quiet (fail)
 go_wp2
 go_ret
 exact⟨rfl,bdn HW6.out⟩
end Go.Proofs.YtfbjofnaghjmeaaGreatDoor
