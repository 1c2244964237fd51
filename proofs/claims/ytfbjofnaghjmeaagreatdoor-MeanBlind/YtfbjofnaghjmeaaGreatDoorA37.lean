import Derived.Test.YtfbjofnaghjmeaaGreatDoorA0
import Derived.Test.YtfbjofnaghjmeaaGreatDoorA36
import Derived.Test.YtfbjofnaghjmeaaGreatDoorA26
import Derived.Test.YtfbjofnaghjmeaaGreatDoorA23
import Derived.Test.YtfbjofnaghjmeaaGreatDoorA17
namespace Go.Proofs.YtfbjofnaghjmeaaGreatDoor
set_option maxHeartbeats 16000000
set_option maxRecDepth 1000000
open Go Go.RowKit
set_option linter.unusedVariables false
set_option linter.unusedSimpArgs false
def g00 (x:yB):Option Int:=none
def iniV (m:Nd):Int:=match valR Sx.sn0 g00 m with
 | .ok v=>v
 | .error _=>0
def startN (S:StratM):Int × List Int:=if erN S=0 then (0,S.rs.map fun r=>iniV r.m) else (erN S,[])
theorem ini_kids {m:Nd}(h:initE m=0):formB m=true∧(m.h.k=1∨(m.h.k=5∧m.h.o=1∧(kid0 m).h.k=1)):=by
 unfold initE at h
 have h1:=fs_0 h
 have hf:formB m=true:=by
  have h2:=h1.1
  unfold fE at h2
  cases e:formB m with
  | true=>rfl
  | false=>rw [e] at h2; simp at h2
 refine⟨hf,?_⟩
 have h3:=h1.2
 split at h3
 ·rename_i hk
  exact .inr ⟨hk.1,hk.2,of_decide_eq_true (okE_0 (fs_0 h3).2)⟩
 ·exact .inl (of_decide_eq_true (okE_0 h3))
theorem lit_le {t n:Int}(h:litB t n=true):0≤n:=by
 unfold litB at h
 repeat' split at h
 all_goals simp at h
 all_goals omega
theorem ini_ok {w:yW}{m:Nd}(hl:Lies w m) (h:initE m=0):Res g00 m∧∃ v,valR Sx.sn0 g00 m=.ok v∧I64 v:=by
 obtain⟨hf,hk⟩:=ini_kids h
 obtain⟨hd,a,c,ks⟩:=m
 simp only [formB,oneH,Bool.and_eq_true] at hf
 rcases hk with hk | ⟨hk,ho,hk0⟩
 ·replace hk:hd.k=1:=hk
  have hk1:ks = []:=by
   have:=hf.1.2
   unfold fitB at this
   rw [if_pos hk] at this
   simp only [Bool.and_eq_true,decide_eq_true_eq] at this
   exact List.eq_nil_of_length_eq_zero this.1
  subst hk1
  refine⟨.mk hd a c [] hf.1.2 (fun e=>by omega) (fun k hk=>by cases hk),hd.n,?_,hl.rg.n0,hl.rg.n1⟩
  unfold valR cmb
  rw [if_pos hk]
 ·replace hk:hd.k=5:=hk
  replace ho:hd.o=1:=ho
  have hk2:ks.length=1:=by
   have:=hf.1.2
   unfold fitB at this
   rw [if_neg (by omega),if_neg (by omega),if_neg (by omega),if_neg (by omega),if_pos hk] at this
   simp only [Bool.and_eq_true,decide_eq_true_eq] at this
   exact this.1
  obtain⟨k,rfl⟩:=List.length_eq_one_iff.1 hk2
  obtain⟨h2,a2,c2,ks2⟩:=k
  replace hk0:h2.k=1:=hk0
  have hf2:=formsB_mem _ hf.2 _ (List.mem_cons_self ..)
  simp only [formB,oneH,Bool.and_eq_true] at hf2
  have h3:=hf2.1.2
  unfold fitB at h3
  rw [if_pos hk0] at h3
  simp only [Bool.and_eq_true,decide_eq_true_eq] at h3
  have hl2:ks2 = []:=List.eq_nil_of_length_eq_zero h3.1
  subst hl2
  have hn:=lit_le h3.2
  have hn2:h2.n≤9223372036854775807:=(hl.sub _ (List.mem_cons_self ..)).rg.n1
  refine⟨.mk hd a c _ hf.1.2 (fun e=>by omega) (fun k hk=>by
   obtain rfl:=List.mem_singleton.1 hk
   exact .mk h2 a2 c2 [] hf2.1.2 (fun e=>by omega) (fun k hk=>by cases hk)),-h2.n,?_,by unfold I64; omega⟩
  have hv:valR Sx.sn0 g00 (.mk h2 a2 c2 [])=.ok h2.n:=by unfold valR cmb; rw [if_pos hk0]
  unfold valR cmb
  simp only [valsR]
  rw [if_neg (by omega),if_neg (by omega),if_neg (by omega),if_neg (by omega),if_neg (by omega),if_neg (by omega)]
  simp only [List.getD_cons_zero,hv]
  unfold opR op1
  simp only
  rw [if_pos (by omega),if_pos ho,wn_t (by unfold Fx.fitB; simp; omega)]
theorem ini_fit {w:yW}{m:Nd}(hl:Lies w m) (h:initE m=0):valR Sx.sn0 g00 m=.ok (iniV m):=by
 obtain⟨_,v,hv,_⟩:=ini_ok hl h
 unfold iniV
 rw [hv]
def OutSt (w:yW) (r:Int × List Int) (e:Ending) (w':yW):Prop :=
 ∃ ka kc,e=.returned (.tuple #[.agg (ModM.mk 0 ka kc r.2).vals,zI r.1])∧ModL w' ⟨0,ka,kc,r.2⟩∧yD w w'
theorem made_ints (n:Nat):madeCells #[zI 0] n=intsA (List.replicate n 0):=by
 unfold intsA madeCells
 apply Array.ext
 ·simp
 ·intro i h1 h2
  simp [Nat.mod_one]
theorem ints_set (L:List Int) (i:Nat) (v:Int):(intsA L).setIfInBounds i (zI v)=intsA (L.set i v):=by
 unfold intsA
 rw [List.map_set]
 simp
theorem fill_set (L:List Int) (n i:Nat) (hi:i < n) (hn:L.length=n):((L.take i ++ List.replicate (n - i) (0:Int)).set i (L[i]'(by omega)))=L.take (i+1) ++ List.replicate (n - (i+1)) 0:=by
 have h1:(L.take i).length=i:=by rw [List.length_take]; omega
 rw [List.set_append_right _ _ (by omega),h1,Nat.sub_self,List.take_add_one,List.getElem?_eq_getElem (by omega)]
 obtain⟨k,ek⟩:∃ k,n - i=k+1:=⟨n - i - 1,by omega⟩
 rw [ek,show n - (i+1)=k by omega,List.replicate_succ,List.set_cons_zero,List.append_assoc]
 rfl
theorem results_cs {P:Program}{fn:Func}{p z:Tmp}{ty:TypeId}(h:fn.results=#[.cell p ty,.tmp z]) (tmps:Array Value) (w:yW) (g:Nat) (t:TypeId) (cs:Array Value) (fr:Nat × Nat) (d:TypeDesc) (v:Value)
  (hp:tmps.getD p undef=zP g) (hg:w.heap[g]? = some (.cells cs t fr))
  (hu:P.underlying ty=some d) (hd:(match d with | .struct _ | .array _ _=>true | _=>false)=true) (hi:(P.info? ty).map (·.size)=some cs.size) (hv:tmps.getD z undef=v) :
  (results fn tmps).run P w=.ok (.tuple #[.agg cs,v]) w:=by
 have hp':tmps[p]?.getD undef=zP g:=by simpa using hp
 have hv':tmps[z]?.getD undef=v:=by simpa using hv
 simp [results,h,hp',hv',asAddr,run_loadVar_row w g t ty cs fr d hg hu hd hi]
theorem blind_sv {W:yW}{B:Nat}(h:W.heap[B]? = (zC si0 91)):Sv W B Sx.sn0 g00 :=
 ⟨⟨cell_of h 0,cell_of h 1,cell_of h 2,cell_of h 3,cell_of h 4,cell_of h 5⟩,fun x v _ hg=>by cases hg⟩
theorem sn0_i64:∀ f,I64 (Sx.getN Sx.sn0 f):=fun f=>by
 unfold Sx.getN Sx.sn0
 simp only [ite_self]
 unfold I64
 omega
theorem box91 (v:Array Value) (w:yW):Sem.run Tryz.prog (Instr.box 91 (.agg v)) w=.ok (zP w§) (w.alloc (.cells v 91)):=by first | rfl | simp [go_sem]
theorem mstart_any (S:StratM) (w:yW) (hl:StratL w S) (hz:StratZ S) (ht:Tab w) (hf:FTab w) (hg:Ety w):Calls zG 26 #[.agg S.vals] w (OutSt w (startN S)):=by
 have b1:=below_new w (.cells S.vals 26)
 have b2:=below_new (w.alloc (.cells S.vals 26)) (.cells modZ 29)
 have n1:=heap_new w (.cells S.vals 26)
 have n2:=heap_new (w.alloc (.cells S.vals 26)) (.cells modZ 29)
 have n1':=heapOf b2 n1
 rw [size_alloc] at n2
 have z2:((w.alloc (.cells S.vals 26)).alloc (.cells modZ 29))§=w§+2:=by rw [size_alloc,size_alloc]
 have hbw:=below2 b1 b2
 obtain⟨W,eW⟩:∃ W,(w.alloc (.cells S.vals 26)).alloc (.cells modZ 29)=W:=⟨_,rfl⟩
 have EW:Hid ((w.alloc (.cells S.vals 26)).alloc (.cells modZ 29)=W):=eW
 rw [eW] at n1' n2 hbw z2
 have HB:Hid (yD w W):=hbw
 have HL:Hid (StratL w S∧Ety w):=⟨hl,hg⟩
 have cT:Calls zG 52 #[.agg S.vals] W (OutC W (chkE S)):=tyCheck_any S W (hl.on hbw) hz (ht.on hbw) (hf.on hbw) (hg.on hbw)
 obtain⟨g,eg⟩:∃ g,w§=g:=⟨_,rfl⟩
 have HG:Hid (w§=g):=eg
 rw [eg] at n1' n2
 have HN:Hid (W.heap[g]? = (zC S.vals 26)∧W.heap[g+1]? = (zC modZ 29)):=⟨n1',n2⟩
 clear b1 b2 n1 n2 n1' z2 hbw eW hl hz ht hf hg eg
 go_enter Tryz.func26,Tryz.ntmps26
 go_upto_region 1 with fail
 rw [show (w.alloc (.cells S.vals 26)).alloc (.cells zu 29)=W from EW.out,HG.out]
 clear EW
 go_wp2_with (refine wpList_load_row rfl 26 (.tmp 1) rfl g rfl 26 S.vals (0,0) _ HN.out.1 Tryz.underlying26 rfl (size26 S) ?_)
 refine cT.mono ?_
 rintro e w1 (⟨hE,rfl,hb⟩ | ⟨p,no,T,v,hE,rfl,hEr,hb⟩)
 rotate_left
 ·have HB1:Hid (yD w w1):=below2 HB.out hb
  have HN1:Hid (w1.heap[g+1]? = (zC modZ 29)):=heapOf hb HN.out.2
  have HNZ:Hid (¬ no=0):=fun h0=>by
   have:=er_0 ((erN_some hE).trans h0)
   rw [this] at hE; cases hE
  have HW:Hid (startN S=(no,[])):=by show _=_; unfold startN; rw [erN_some hE,if_neg HNZ.out]
  have cE:Calls zG 33 #[.iface T v] w1 fun e w'=>e=.returned (zI no)∧yD w1 w':=errno_er hEr (HL.out.2.on HB1.out)
  clear hb cT hE hEr
  go_wp2_with fail
  refine cE.mono ?_
  rintro e w2 ⟨rfl,hb⟩
  have HB2:Hid (yD w w2):=below2 HB1.out hb
  have HN2:Hid (w2.heap[g+1]? = (zC modZ 29)):=heapOf hb HN1.out
  have hnz:=HNZ.out
  clear hb cE
  go_wp2_with (refine wpList_store_row rfl 29 (.tmp 2) (.tmp 14) rfl (g+1) modZ rfl rfl 29 modZ HN2.out (size29v ..) rfl (all29v ..) ?_)
  refine bodyPost_ret (results_cs rfl _ _ (g+1) 29 modZ (0,0) _ _ rfl (setRow_heap _ _ _ _ _ _ HN2.out) Tryz.underlying29 rfl (size29v ..) rfl) rfl ?_
  rw [HW.out]
  exact⟨none,0,rfl,modL_nil _,below_row HB2.out (by rw [HG.out]; omega) _⟩
 have HB1:Hid (yD w w1):=below2 HB.out hb
 have HN1:Hid (w1.heap[g]? = (zC S.vals 26)∧w1.heap[g+1]? = (zC modZ 29)):=⟨heapOf hb HN.out.1,heapOf hb HN.out.2⟩
 have HER:Hid (erN S=0∧stratE S=0):=⟨erN_none hE,(chk_parts hE).1⟩
 have cE:=errno_nil w1
 clear hb cT hE
 go_wp2_with fail
 refine cE.mono ?_
 rintro e w2 ⟨rfl,hb⟩
 have HB2:Hid (yD w w2):=below2 HB1.out hb
 have HN2:Hid (w2.heap[g]? = (zC S.vals 26)∧w2.heap[g+1]? = (zC modZ 29)):=⟨heapOf hb HN1.out.1,heapOf hb HN1.out.2⟩
 clear hb cE
 have hn12:=regs_n HER.out.2
 obtain⟨n,en⟩:∃ n,S.rs.length=n:=⟨_,rfl⟩
 have EN:Hid (S.rs.length=n∧n≤12):=⟨en,by omega⟩
 have z1:w2.cell? g¢1=some (.slice S.ra S.rs.length S.rc):=cell_of HN2.out.1 1
 rw [en] at z1
 have hmk:∀ W,Sem.run Tryz.prog (Instr.makeSlice 27 (zI (n:Int)) (zI (n:Int))) W=.ok (.slice (some W§¢0) n n) (W.alloc (.cells (madeCells #[zI 0] n) 2)):=mk27 (by omega)
 have b3:=below_new w2 (.cells (madeCells #[zI 0] n) 2)
 have n3:=heap_new w2 (.cells (madeCells #[zI 0] n) 2)
 have s3:=size_alloc w2 (.cells (madeCells #[zI 0] n) 2)
 have hgz:=(zJ HN2.out.2).1
 obtain⟨W3,e3⟩:∃ W,w2.alloc (.cells (madeCells #[zI 0] n) 2)=W:=⟨_,rfl⟩
 have E3:Hid (w2.alloc (.cells (madeCells #[zI 0] n) 2)=W3):=e3
 rw [e3] at b3 n3 s3
 have b4:=below_new W3 (.cells si0 91)
 have n4:=heap_new W3 (.cells si0 91)
 obtain⟨W4,e4⟩:∃ W,W3.alloc (.cells si0 91)=W:=⟨_,rfl⟩
 have E4:Hid (W3.alloc (.cells si0 91)=W4):=e4
 rw [e4] at b4 n4
 obtain⟨G,eG⟩:∃ G,w2§=G:=⟨_,rfl⟩
 rw [eG] at n3 s3
 rw [s3] at n4
 have HS3:Hid (W3§=G+1∧w2§=G):=⟨s3,eG⟩
 have HB4:Hid (yD w W4∧g+1 < G):=⟨below2 (below2 HB2.out b3) b4,by omega⟩
 have HN4:Hid (W4.heap[g]? = (zC S.vals 26)∧W4.heap[g+1]? = (zC modZ 29)):=⟨heapOf b4 (heapOf b3 HN2.out.1),heapOf b4 (heapOf b3 HN2.out.2)⟩
 have HM4:Hid (W4.heap[G]? = (zC (intsA (List.replicate n 0)) 2)):=by show _=_; rw [← made_ints]; exact heapOf b4 n3
 have HX4:Hid (W4.heap[G+1]? = (zC si0 91)):=n4
 have z4:W4.cell? g¢1=some (.slice S.ra n S.rc):=by rw [← en]; exact cell_of HN4.out.1 1
 have hbx:=fun v w=>box91 v w
 clear hn12 en b3 n3 s3 e3 b4 n4 e4 eG hgz
 go_upto_region 5 with fail
 rw [E3.out]
 try rw [HS3.out.2]
 clear z1 hmk E3
 go_upto_region 6 with fail
 rw [show W3.alloc (.cells zv 91)=W4 from E4.out,HS3.out.1]
 clear E4 hbx
 obtain⟨L,eL⟩:∃ L,S.rs.map (fun r=>iniV r.m)=L:=⟨_,rfl⟩
 have HR:Hid (startN S=(0,L)∧L.length=n):=by
  refine⟨?_,by rw [← eL,List.length_map]; exact EN.out.1⟩
  unfold startN
  rw [if_pos HER.out.1,eL]
 have HLE:Hid (S.rs.map (fun r=>iniV r.m)=L):=eL
 clear eL
 go_wp2_with fail
 go_loopw [25] (fun t wr=>∃ (i:Nat),i≤n∧t=zI i∧Hid (yD w wr)∧Hid (wr.heap[g]? = (zC S.vals 26)∧wr.heap[g+1]? = (zC modZ 29)∧wr.heap[G]? = (zC (intsA (L.take i ++ List.replicate (n - i) 0)) 2)∧wr.heap[G+1]? = (zC si0 91))) (fun t _=>n - (intOf t).toNat)
 case atStart=>exact⟨0,by omega,rfl,HB4.out.1,HN4.out.1,HN4.out.2,by simpa using HM4.out,HX4.out⟩
 case round =>
  obtain⟨i,hi,rfl,HBR,HKR⟩:=hrel
  by_cases hlt:i < n
  ·have hlt':(i:Int) < (n:Int):=by omega
   have hmx:(i:Int)+1≤9223372036854775807:=by have h1:=EN.out.2; omega
   have hlt1:i < S.rs.length:=by rw [EN.out.1]; exact hlt
   have hlt2:i < L.length:=by rw [HR.out.2]; exact hlt
   obtain⟨b,o,ea,hat⟩:=(HL.out.1.1.on (mapz RegM.sz _) HBR.out).2.2 i (by rw [List.length_map]; exact hlt1)
   simp only [List.getElem_map] at hat
   have hm:=HL.out.1.2.1 _ (List.getElem_mem hlt1)
   have hie:initE S.rs[i].m=0:=by
    have h1:=HER.out.2
    unfold stratE at h1
    have h2:=fsL_0 _ (fs_0 (fs_0 (fs_0 h1).2).2).1 _ (List.mem_map.2 ⟨S.rs[i],List.getElem_mem hlt1,rfl⟩)
    unfold regE at h2
    exact (fs_0 (fs_0 h2).2).2
   have hLi:L[i]=iniV S.rs[i].m:=by
    have h1:=HLE.out
    subst h1
    rw [List.getElem_map]
   obtain⟨d,ed⟩:∃ d,S.rs[i]=d:=⟨_,rfl⟩
   rw [ed] at hat hm hie hLi
   have HV:Hid (valR Sx.sn0 g00 d.m=.ok (iniV d.m)∧Res g00 d.m∧Lies w d.m):=⟨ini_fit hm.1 hie,(ini_ok hm.1 hie).1,hm.1⟩
   have HFS:Hid ((L.take i ++ List.replicate (n - i) (0:Int)).set i (iniV d.m)=L.take (i+1) ++ List.replicate (n - (i+1)) 0):=by
    show _=_
    rw [← hLi]
    exact fill_set L n i hlt HR.out.2
   have HRG:Hid (wr.rangeAt b (o+i * 11) d.vals.toList):=fun j v hv=>by
    have hj:j < 11:=(List.getElem?_eq_some_iff.1 hv).1
    rw [hat j hj,← hv]; simp
   have HN5:Hid ((wr.alloc (.cells ze 102)).heap[wr§]? = (zC ze 102)):=heap_new _ _
   have hbx:yD wr ((wr.alloc (.cells ze 102)).setRow wr§ d.vals):=below_row (below_new _ _) (Nat.le_refl _) _
   have HBX:Hid (yD w ((wr.alloc (.cells ze 102)).setRow wr§ d.vals)):=below2 HBR.out hbx
   have HKX:Hid (((wr.alloc (.cells ze 102)).setRow wr§ d.vals).heap[g]? = (zC S.vals 26)∧((wr.alloc (.cells ze 102)).setRow wr§ d.vals).heap[g+1]? = (zC modZ 29)∧((wr.alloc (.cells ze 102)).setRow wr§ d.vals).heap[G]? = (zC (intsA (L.take i ++ List.replicate (n - i) 0)) 2)∧((wr.alloc (.cells ze 102)).setRow wr§ d.vals).heap[G+1]? = (zC si0 91)) :=
    ⟨heapOf hbx HKR.out.1,heapOf hbx HKR.out.2.1,heapOf hbx HKR.out.2.2.1,heapOf hbx HKR.out.2.2.2⟩
   have HNX:Hid (((wr.alloc (.cells ze 102)).setRow wr§ d.vals).heap[wr§]? = (zC d.vals 102)):=setRow_heap _ _ _ _ _ _ HN5.out
   rw [ea]
   clear hat ed hbx hm hie hLi hlt1 hlt2 ea HBR HKR
   go_upto_region 9 with (first | (refine wpList_load_mid rfl 102 (.tmp 28) rfl b (o+i * 11) rfl d.vals.toList _ HRG.out Tryz.underlying102 rfl (by show _=some 11; exact size100') ?_; rw [Array.toArray_toList]) | (refine wpList_store_row rfl 102 (.tmp 8) (.tmp 29) rfl wr§ d.vals rfl rfl 102 ze HN5.out size100' rfl (all11 d) ?_))
   generalize hWX:World.setRow _ _ _=WX
   rw [hWX] at HBX HNX HKX
   clear hWX HN5 HRG
   obtain⟨B,eB⟩:∃ B,wr§=B:=⟨_,rfl⟩
   rw [eB] at HNX ⊢
   clear eB
   have cV:Calls zG 37 #[.pointer (some ⟨G+1,0,none⟩),.agg #[zU d.m.h.k,zU d.m.h.o,zU d.m.h.t,zI d.m.h.n,zU d.m.h.f,.string d.m.h.x,.slice d.m.a d.m.ks.length d.m.c,zI d.m.h.p]] WX (fun e w'=>e=.returned (zI (iniV d.m))∧yD WX w'):=by
    have c:=(value_any (b:=G+1) sn0_i64 d.m WX (blind_sv HKX.out.2.2.2) (HV.out.2.2.on HBX.out) HV.out.2.1)
    unfold OutV at c
    rw [HV.out.1] at c
    exact c
   obtain⟨V,eV⟩:∃ V,iniV d.m=V:=⟨_,rfl⟩
   rw [eV] at cV HFS
   have c0:WX.cell? B¢2=some (zU d.m.h.k):=cell_of HNX.out 2
   have c1:WX.cell? B¢3=some (zU d.m.h.o):=cell_of HNX.out 3
   have c2:WX.cell? B¢4=some (zU d.m.h.t):=cell_of HNX.out 4
   have c3:WX.cell? B¢5=some (zI d.m.h.n):=cell_of HNX.out 5
   have c4:WX.cell? B¢6=some (zU d.m.h.f):=cell_of HNX.out 6
   have c5:WX.cell? B¢7=some (.string d.m.h.x):=cell_of HNX.out 7
   have c6:WX.cell? B¢8=some (.slice d.m.a d.m.ks.length d.m.c):=cell_of HNX.out 8
   have c7:WX.cell? B¢9=some (zI d.m.h.p):=cell_of HNX.out 9
   have h0i:(0:Int)≤(i:Int):=by omega
   clear eV
   go_wp2_with fail
   refine cV.mono ?_
   rintro e w6 ⟨rfl,hb⟩
   have HB6:Hid (yD w w6):=below2 HBX.out hb
   have HK6:Hid (w6.heap[g]? = (zC S.vals 26)∧w6.heap[g+1]? = (zC modZ 29)∧w6.heap[G]? = (zC (intsA (L.take i ++ List.replicate (n - i) 0)) 2)∧w6.heap[G+1]? = (zC si0 91)) :=
    ⟨heapOf hb HKX.out.1,heapOf hb HKX.out.2.1,heapOf hb HKX.out.2.2.1,heapOf hb HKX.out.2.2.2⟩
   have hLl:(L.take i ++ List.replicate (n - i) (0:Int)).length=n:=by rw [List.length_append,List.length_take,List.length_replicate,HR.out.2]; omega
   have d0:∃ q,w6.cell? G¢i=some q:=by
    have h1:w6.cell? G¢i=(intsA (L.take i ++ List.replicate (n - i) 0))[i]?:=cell_of HK6.out.2.2.1 i
    rw [h1,ints_at (List.getElem?_eq_getElem (by omega))]
    exact⟨_,rfl⟩
   obtain⟨q,d0⟩:=d0
   have d1:w6.frozen? G¢i=false:=frozen_of HK6.out.2.2.1 i
   have HBS:Hid (yD w (w6.setCell G¢i (zI V))):=HB6.out.setCell (p:=G¢i) (by rw [HG.out]; have:=HB4.out.2; show g≤G; omega) _
   have HKS:Hid ((w6.setCell G¢i (zI V)).heap[g]? = (zC S.vals 26)∧(w6.setCell G¢i (zI V)).heap[g+1]? = (zC modZ 29)∧(w6.setCell G¢i (zI V)).heap[G]? = (zC (intsA (L.take (i+1) ++ List.replicate (n - (i+1)) 0)) 2)∧(w6.setCell G¢i (zI V)).heap[G+1]? = (zC si0 91)):=by
    have hg:=HB4.out.2
    refine⟨(set_oth _ (by omega)).trans HK6.out.1,(set_oth _ (by omega)).trans HK6.out.2.1,?_,(set_oth _ (by omega)).trans HK6.out.2.2.2⟩
    rw [heap_set (j:=i) (zI V) HK6.out.2.2.1,ints_set,HFS.out]
   clear hb cV c0 c1 c2 c3 c4 c5 c6 c7 hLl
   go_wp2_with fail
   exact⟨⟨i+1,hlt,rfl,HBS,HKS⟩,by simp only [intOf]; omega⟩
  ·obtain rfl:i=n:=by omega
   have hnot:¬ (i:Int) < (i:Int):=by omega
   have HF:Hid (wr.heap[G]? = (zC (intsA L) 2)):=by
    have h1:=HKR.out.2.2.1
    rw [List.take_of_length_le (by have:=HR.out.2; omega),Nat.sub_self,List.replicate_zero,List.append_nil] at h1
    exact h1
   go_wp2_with (refine wpList_store_row rfl 29 (.tmp 2) (.tmp 39) rfl (g+1) (modV 0 (some G¢0) i i) rfl rfl 29 modZ HKR.out.2.1 (size29v ..) rfl (all29v ..) ?_)
   refine bodyPost_ret (results_cs rfl _ _ (g+1) 29 (modV 0 (some G¢0) i i) (0,0) _ _ rfl (setRow_heap _ _ _ _ _ _ HKR.out.2.1) Tryz.underlying29 rfl (size29v ..) rfl) rfl ?_
   rw [HR.out.1]
   refine⟨some G¢0,i,?_,⟨?_,?_,by show I64 0; unfold I64; omega⟩,below_row HBR.out (by rw [HG.out]; omega) _⟩
   ·rw [← HR.out.2]; rfl
   ·have hgG:(wr.setRow (g+1) (modV 0 (some G¢0) i i)).heap[G]? = (zC (intsA L) 2):=(setRow_other _ _ _ _ (by have:=HB4.out.2; omega)).trans HF.out
    have h1:=rowl_of hgG (by have:=HR.out.2; have:=EN.out.2; omega)
    rw [HR.out.2] at h1
    exact h1
   ·intro v hv
    have h1:=HLE.out
    subst h1
    obtain⟨r,hr,rfl⟩:=List.mem_map.1 hv
    have h2:=HER.out.2
    unfold stratE at h2
    have h3:=fsL_0 _ (fs_0 (fs_0 (fs_0 h2).2).2).1 _ (List.mem_map.2 ⟨r,hr,rfl⟩)
    unfold regE at h3
    obtain⟨_,v,hv,h64⟩:=ini_ok (HL.out.1.2.1 r hr).1 (fs_0 (fs_0 h3).2).2
    unfold iniV
    rw [hv]
    exact h64
structure BxM (w:yW) (a b:ModM) (g:Nat):Prop where
 a:w.heap[g]? = (zC a.vals 29)
 b:w.heap[g+1]? = (zC b.vals 29)
theorem bxM_new (w:yW) (a b:ModM):BxM ((w.alloc (.cells a.vals 29)).alloc (.cells b.vals 29)) a b w§∧yD w ((w.alloc (.cells a.vals 29)).alloc (.cells b.vals 29)):=by
 have b1:=below_new w (.cells a.vals 29)
 have b2:=below_new (w.alloc (.cells a.vals 29)) (.cells b.vals 29)
 have n1:=heap_new w (.cells a.vals 29)
 have n2:=heap_new (w.alloc (.cells a.vals 29)) (.cells b.vals 29)
 rw [size_alloc] at n2
 exact⟨⟨heapOf b2 n1,n2⟩,below2 b1 b2⟩
theorem modL_at {w:yW}{m:ModM}(h:ModL w m) {i:Nat}(hi:i < m.rg.length):∃ b o,m.ra=some b¢o∧w.cell? ⟨b,o+i,none⟩=some (zI m.rg[i]):=by
 obtain⟨b,o,ea,hat⟩:=h.1.2.2 i (by rw [List.length_map]; exact hi)
 refine⟨b,o,ea,?_⟩
 have:=hat 0 (by omega)
 simp only [List.getElem_map] at this
 simpa [iA] using this
theorem sameMode_any (a b:ModM) (w:yW) (ha:ModL w a) (hb:ModL w b):Calls zG 21 #[.agg a.vals,.agg b.vals] w fun e w'=>e=.returned (.bool (decide (a.st=b.st∧a.rg=b.rg)))∧yD w w':=by
 obtain⟨h2,hb2⟩:=bxM_new w a b
 obtain⟨W,eW⟩:∃ W,(w.alloc (.cells a.vals 29)).alloc (.cells b.vals 29)=W:=⟨_,rfl⟩
 have EW:Hid ((w.alloc (.cells a.vals 29)).alloc (.cells b.vals 29)=W):=eW
 rw [eW] at h2 hb2
 have HB:Hid (yD w W):=hb2
 have H2:Hid (BxM W a b w§):=h2
 have HL:Hid (ModL w a∧ModL w b):=⟨ha,hb⟩
 have hla:a.rg.length≤9223372036854775807:=by have h1:=ha.1.1; have h2:=ha.1.2.1; rw [List.length_map] at h1; omega
 have HLA:Hid (a.rg.length≤9223372036854775807):=hla
 obtain⟨g,eg⟩:∃ g,w§=g:=⟨_,rfl⟩
 rw [eg] at H2
 have z0:W.cell? g¢0=some (zI a.st):=cell_of H2.out.a 0
 have z1:W.cell? g¢1=some (.slice a.ra a.rg.length a.rc):=cell_of H2.out.a 1
 have z2:W.cell? ⟨g+1,0,none⟩=some (zI b.st):=cell_of H2.out.b 0
 have z3:W.cell? ⟨g+1,1,none⟩=some (.slice b.ra b.rg.length b.rc):=cell_of H2.out.b 1
 have HG:Hid (w§=g):=eg
 clear h2 hb2 eW ha hb hla eg
 by_cases h1:a.st=b.st
 rotate_left
 ·have HE:Hid (decide (a.st=b.st∧a.rg=b.rg)=false):=by show _=_; rw [decide_eq_false]; exact fun h=>h1 h.1
  go_enter Tryz.func21,Tryz.ntmps21
  go_upto_region 1 with fail
  rw [EW.out,HG.out]
  go_wp2_with fail
  go_ret
  exact⟨by rw [HE.out]; rfl,HB.out⟩
 by_cases h4:a.rg.length=b.rg.length
 rotate_left
 ·have HE:Hid (decide (a.st=b.st∧a.rg=b.rg)=false):=by show _=_; rw [decide_eq_false]; exact fun h=>h4 (by rw [h.2])
  have h5:¬ (a.rg.length:Int)=(b.rg.length:Int):=by omega
  go_enter Tryz.func21,Tryz.ntmps21
  go_upto_region 1 with fail
  rw [EW.out,HG.out]
  go_wp2_with fail
  go_ret
  exact⟨by rw [HE.out]; rfl,HB.out⟩
 have HE:Hid (decide (a.st=b.st∧a.rg=b.rg)=decide (a.rg=b.rg)):=by show _=_; simp [h1]
 obtain⟨n,en⟩:∃ n,a.rg.length=n:=⟨_,rfl⟩
 have EN:Hid (a.rg.length=n∧b.rg.length=n):=⟨en,by omega⟩
 rw [en] at z1
 rw [EN.out.2] at z3
 rw [h1] at z0
 clear h4 en h1
 rw [HE.out]
 go_enter Tryz.func21,Tryz.ntmps21
 go_upto_region 1 with fail
 rw [EW.out,HG.out]
 clear EW HE
 go_upto_region 3 with fail
 clear z0 z2
 go_wp2_with fail
 have HZ:Hid (W.cell? g¢1=some (.slice a.ra n a.rc)∧W.cell? ⟨g+1,1,none⟩=some (.slice b.ra n b.rc)):=⟨z1,z3⟩
 clear z1 z3
 go_loopw [5] (fun t wr=>∃ (i:Nat),i≤n∧t=zI i∧Hid (yD w wr)∧Hid (yD W wr)∧Hid (a.rg.take i=b.rg.take i)) (fun t _=>n - (intOf t).toNat)
 case atStart=>exact⟨0,by omega,rfl,HB,Below.refl _ _,rfl⟩
 case round =>
  obtain⟨i,hi,rfl,HBR,HBW,HTK⟩:=hrel
  have y1:wr.cell? g¢1=some (.slice a.ra n a.rc):=cell_on HZ.out.1 HBW.out
  have y3:wr.cell? ⟨g+1,1,none⟩=some (.slice b.ra n b.rc):=cell_on HZ.out.2 HBW.out
  by_cases hlt:i < n
  ·have hlt':(i:Int) < (n:Int):=by omega
   have hmx:(i:Int)+1≤9223372036854775807:=by have h1:=HLA.out; have h2:=EN.out.1; omega
   have hi1:i < a.rg.length:=by have:=EN.out.1; omega
   have hi2:i < b.rg.length:=by have:=EN.out.2; omega
   obtain⟨b1,o1,ea1,hc1⟩:=modL_at (HL.out.1.on HBR.out) hi1
   obtain⟨b2,o2,ea2,hc2⟩:=modL_at (HL.out.2.on HBR.out) hi2
   obtain⟨u,eu⟩:∃ u,a.rg[i]=u:=⟨_,rfl⟩
   obtain⟨v,ev⟩:∃ v,b.rg[i]=v:=⟨_,rfl⟩
   rw [eu] at hc1
   rw [ev] at hc2
   rw [ea1] at y1
   rw [ea2] at y3
   have HUV:Hid (a.rg[i]? = some u∧b.rg[i]? = some v):=⟨by rw [List.getElem?_eq_getElem hi1,eu],by rw [List.getElem?_eq_getElem hi2,ev]⟩
   have h0i:(0:Int)≤(i:Int):=by omega
   clear ea1 ea2 eu ev hi1 hi2
   by_cases huv:u=v
   ·have hne:(u != v)=false:=by simp [huv]
    have HT2:Hid (a.rg.take (i+1)=b.rg.take (i+1)):=by
     show _=_
     rw [List.take_add_one,List.take_add_one,HTK.out,HUV.out.1,HUV.out.2,huv]
    clear huv
    go_upto_region 6 with fail
    go_quiet (fail)
    go_wp2_with fail
    exact⟨⟨i+1,hlt,rfl,bdn HBR.out,bdn HBW.out,HT2⟩,by simp only [intOf]; omega⟩
   ·have hne:(u != v)=true:=bne_iff_ne.2 huv
    have HT2:Hid (decide (a.rg=b.rg)=false):=by
     show _=_
     rw [decide_eq_false]
     intro h
     have h1:=HUV.out.1
     rw [h,HUV.out.2] at h1
     exact huv (Option.some.inj h1).symm
    clear huv
    go_upto_region 6 with fail
    go_quiet (fail)
    go_wp2_with fail
    go_ret
    exact⟨by rw [HT2.out]; rfl,bdn HBR.out⟩
  ·obtain rfl:i=n:=by omega
   have hnot:¬ (i:Int) < (i:Int):=by omega
   have HT2:Hid (decide (a.rg=b.rg)=true):=by
    have h1:=HTK.out
    rw [List.take_of_length_le (by have:=EN.out.1; omega),List.take_of_length_le (by have:=EN.out.2; omega)] at h1
    exact decide_eq_true h1
   go_wp2_with fail
   go_ret
   exact⟨by rw [HT2.out]; rfl,HBR.out⟩
def Acs (l:List (Array Value)):Prop:=∀ y ∈ l,∃ k o s p n z,y=acA k o s p n z
theorem sameFir_eq (r:TuR) (a1:Option Addr) (c1:Nat) (a2:Option Addr) (c2:Nat) (w:yW) (hac:Acs r.ac) (h1:SlAt w 6 a1 c1 r.ac) (h2:SlAt w 6 a2 c2 r.ac):Calls zG 22 #[.agg (firA r a1 c1),.agg (firA r a2 c2),.bool true] w fun e w'=>e=.returned (.bool true)∧yD w w':=by
 have b1:=below_new w (.cells (firA r a1 c1) 59)
 have b2:=below_new (w.alloc (.cells (firA r a1 c1) 59)) (.cells (firA r a2 c2) 59)
 have n1:=heap_new w (.cells (firA r a1 c1) 59)
 have n2:=heap_new (w.alloc (.cells (firA r a1 c1) 59)) (.cells (firA r a2 c2) 59)
 have n1':=heapOf b2 n1
 rw [size_alloc] at n2
 have hbw:=below2 b1 b2
 obtain⟨W,eW⟩:∃ W,(w.alloc (.cells (firA r a1 c1) 59)).alloc (.cells (firA r a2 c2) 59)=W:=⟨_,rfl⟩
 have EW:Hid ((w.alloc (.cells (firA r a1 c1) 59)).alloc (.cells (firA r a2 c2) 59)=W):=eW
 rw [eW] at n1' n2 hbw
 have HB:Hid (yD w W):=hbw
 have HL:Hid (SlAt w 6 a1 c1 r.ac∧SlAt w 6 a2 c2 r.ac∧Acs r.ac):=⟨h1,h2,hac⟩
 have hla:r.ac.length≤9223372036854775807:=by have h3:=h1.1; have h4:=h1.2.1; omega
 have HLA:Hid (r.ac.length≤9223372036854775807):=hla
 obtain⟨g,eg⟩:∃ g,w§=g:=⟨_,rfl⟩
 have HG:Hid (w§=g):=eg
 rw [eg] at n1' n2
 obtain⟨n,en⟩:∃ n,r.ac.length=n:=⟨_,rfl⟩
 have EN:Hid (r.ac.length=n):=en
 have y0:W.cell? g¢0=some (zI r.ru):=cell_of n1' 0
 have y1:W.cell? g¢1=some (.bool r.rf):=cell_of n1' 1
 have y2:W.cell? g¢2=some (.slice a1 r.ac.length c1):=cell_of n1' 2
 have y3:W.cell? g¢3=some (zU r.su):=cell_of n1' 3
 have y4:W.cell? g¢4=some (zI r.co):=cell_of n1' 4
 have y5:W.cell? g¢5=some (zI 0):=cell_of n1' 5
 have z0:W.cell? ⟨g+1,0,none⟩=some (zI r.ru):=cell_of n2 0
 have z1:W.cell? ⟨g+1,1,none⟩=some (.bool r.rf):=cell_of n2 1
 have z2:W.cell? ⟨g+1,2,none⟩=some (.slice a2 r.ac.length c2):=cell_of n2 2
 have z3:W.cell? ⟨g+1,3,none⟩=some (zU r.su):=cell_of n2 3
 have z4:W.cell? ⟨g+1,4,none⟩=some (zI r.co):=cell_of n2 4
 have z5:W.cell? ⟨g+1,5,none⟩=some (zI 0):=cell_of n2 5
 rw [en] at y2 z2
 have HZ:Hid (W.cell? g¢2=some (.slice a1 n c1)∧W.cell? ⟨g+1,2,none⟩=some (.slice a2 n c2)):=⟨y2,z2⟩
 clear b1 b2 n1 n2 n1' hbw eW hla eg en h1 h2 hac
 go_enter Tryz.func22,Tryz.ntmps22
 go_upto_region 1 with fail
 rw [EW.out,HG.out]
 clear EW
 go_upto_region 3 with fail
 clear y0 y1 y2 y3 y4 y5 z0 z1 z2 z3 z4 z5
 go_wp2_with fail
 go_loopw [7] (fun t wr=>∃ (i:Nat),i≤n∧t=zI i∧Hid (yD w wr)∧Hid (yD W wr)) (fun t _=>n - (intOf t).toNat)
 case atStart=>exact⟨0,by omega,rfl,HB,Below.refl _ _⟩
 case round =>
  obtain⟨i,hi,rfl,HBR,HBW⟩:=hrel
  have y1:wr.cell? g¢2=some (.slice a1 n c1):=cell_on HZ.out.1 HBW.out
  have y3:wr.cell? ⟨g+1,2,none⟩=some (.slice a2 n c2):=cell_on HZ.out.2 HBW.out
  by_cases hlt:i < n
  ·have hlt':(i:Int) < (n:Int):=by omega
   have hmx:(i:Int)+1≤9223372036854775807:=by have h1:=HLA.out; have h2:=EN.out; omega
   have hi1:i < r.ac.length:=by have:=EN.out; omega
   obtain⟨b1,o1,ea1,hc1⟩:=HL.out.1.2.2 i hi1
   obtain⟨b2,o2,ea2,hc2⟩:=HL.out.2.1.2.2 i hi1
   obtain⟨k,o,s,p,q,z,ey⟩:=HL.out.2.2 _ (List.getElem_mem hi1)
   rw [ey] at hc1 hc2
   have u0:wr.cell? ⟨b1,o1+i * 6+0,none⟩=some (zU k):=cell_on (hc1 0 (by omega)) HBR.out
   have u1:wr.cell? ⟨b1,o1+i * 6+1,none⟩=some (zU o):=cell_on (hc1 1 (by omega)) HBR.out
   have u2:wr.cell? ⟨b1,o1+i * 6+2,none⟩=some (zU s):=cell_on (hc1 2 (by omega)) HBR.out
   have u3:wr.cell? ⟨b1,o1+i * 6+3,none⟩=some (zI p):=cell_on (hc1 3 (by omega)) HBR.out
   have u4:wr.cell? ⟨b1,o1+i * 6+4,none⟩=some (zI q):=cell_on (hc1 4 (by omega)) HBR.out
   have u5:wr.cell? ⟨b1,o1+i * 6+5,none⟩=some (zI z):=cell_on (hc1 5 (by omega)) HBR.out
   have v0:wr.cell? ⟨b2,o2+i * 6+0,none⟩=some (zU k):=cell_on (hc2 0 (by omega)) HBR.out
   have v1:wr.cell? ⟨b2,o2+i * 6+1,none⟩=some (zU o):=cell_on (hc2 1 (by omega)) HBR.out
   have v2:wr.cell? ⟨b2,o2+i * 6+2,none⟩=some (zU s):=cell_on (hc2 2 (by omega)) HBR.out
   have v3:wr.cell? ⟨b2,o2+i * 6+3,none⟩=some (zI p):=cell_on (hc2 3 (by omega)) HBR.out
   have v4:wr.cell? ⟨b2,o2+i * 6+4,none⟩=some (zI q):=cell_on (hc2 4 (by omega)) HBR.out
   have v5:wr.cell? ⟨b2,o2+i * 6+5,none⟩=some (zI z):=cell_on (hc2 5 (by omega)) HBR.out
   simp only [Nat.add_zero] at u0 v0
   rw [ea1] at y1
   rw [ea2] at y3
   have h0i:(0:Int)≤(i:Int):=by omega
   clear ea1 ea2 hc1 hc2 ey hi1
   go_upto_region 6 with fail
   go_quiet (fail)
   go_wp2_with fail
   exact⟨⟨i+1,hlt,rfl,bdn HBR.out,bdn HBW.out⟩,by simp only [intOf]; omega⟩
  ·obtain rfl:i=n:=by omega
   have hnot:¬ (i:Int) < (i:Int):=by omega
   go_wp2_with fail
   go_ret
   exact⟨rfl,HBR.out⟩
mutual
def ndT:Tr→Nd
 | .mk h ks=>.mk h none 0 (ndTs ks)
def ndTs:List Tr→List Nd
 | []=>[]
 | k :: ks=>ndT k :: ndTs ks
end
def bare (m:Nd):Nd:=ndT (treeOf m)
theorem bares:∀ ks:List Nd,ndTs (treesOf ks)=ks.map bare
 | []=>rfl
 | k :: ks=>by simp only [treesOf,ndTs,List.map_cons,bares ks]; rfl
theorem bare_mk (h:Hd) (a:Option Addr) (c:Nat) (ks:List Nd):bare (.mk h a c ks)=.mk h none 0 (ks.map bare):=by
 show ndT (treeOf (.mk h a c ks))=_
 rw [treeOf,ndT,bares]
theorem bare_h (m:Nd):(bare m).h=m.h:=by cases m; rw [bare_mk]; rfl
theorem bare_ks (m:Nd):(bare m).ks=m.ks.map bare:=by cases m; rw [bare_mk]; rfl
theorem formsB_b:∀ l:List Nd,(∀ k ∈ l,formB (bare k)=formB k)→formsB (l.map bare)=formsB l
 | [],_=>rfl
 | k :: l,h=>by simp only [List.map_cons,formsB]; rw [h k (by simp),formsB_b l fun x hx=>h x (by simp [hx])]
theorem formB_b:∀ m,formB (bare m)=formB m:=by
 refine Nd.ind fun h a c ks ih=>?_
 rw [bare_mk]
 simp only [formB,List.length_map]
 rw [formsB_b ks ih]
theorem sizes_b:∀ l:List Nd,(∀ k ∈ l,size (bare k)=size k)→sizes (l.map bare)=sizes l
 | [],_=>rfl
 | k :: l,h=>by simp only [List.map_cons,sizes]; rw [h k (by simp),sizes_b l fun x hx=>h x (by simp [hx])]
theorem size_b:∀ m,size (bare m)=size m:=by
 refine Nd.ind fun h a c ks ih=>?_
 rw [bare_mk]
 simp only [size]
 rw [sizes_b ks ih]
theorem deps_b (h:Hd):∀ (l:List Nd) (i:Nat),(∀ k ∈ l,dep (bare k)=dep k)→deps h i (l.map bare)=deps h i l
 | [],i,_=>rfl
 | k :: l,i,hk=>by simp only [List.map_cons,deps]; rw [hk k (by simp),deps_b h l (i+1) fun x hx=>hk x (by simp [hx]),bare_h]
theorem dep_b:∀ m,dep (bare m)=dep m:=by
 refine Nd.ind fun h a c ks ih=>?_
 rw [bare_mk]
 simp only [dep]
 rw [deps_b h ks 0 ih]
theorem tysR_b (L:yB→Option Int):∀ l:List Nd,(∀ k ∈ l,tyR L (bare k)=tyR L k)→tysR L (l.map bare)=tysR L l
 | [],_=>rfl
 | k :: l,h=>by simp only [List.map_cons,tysR]; rw [h k (by simp),tysR_b L l fun x hx=>h x (by simp [hx])]
theorem tyR_b (L:yB→Option Int):∀ m,tyR L (bare m)=tyR L m:=by
 refine Nd.ind fun h a c ks ih=>?_
 rw [bare_mk]
 simp only [tyR,List.length_map]
 rw [tysR_b L ks ih]
theorem samesB_b:∀ (l js:List Nd),(∀ k ∈ l,∀ n,sameB (bare k) n=sameB k n)→samesB (l.map bare) js=samesB l js
 | [],_,_=>rfl
 | k :: l,[],_=>rfl
 | k :: l,j :: js,h=>by simp only [List.map_cons,samesB]; rw [h k (by simp),samesB_b l js fun x hx=>h x (by simp [hx])]
theorem sameB_b:∀ m n,sameB (bare m) n=sameB m n:=by
 refine Nd.ind fun h a c ks ih n=>?_
 rw [bare_mk]
 simp only [sameB,List.length_map]
 rw [samesB_b ks _ ih]
theorem cE_b (m:Nd):cE (bare m)=cE m:=by unfold cE; rw [formB_b,dep_b]
theorem fE_b (m:Nd):fE (bare m)=fE m:=by unfold fE; rw [formB_b]
theorem kid0_b (m:Nd):(kid0 (bare m)).h=(kid0 m).h:=by
 unfold kid0
 rw [bare_ks]
 cases m.ks with
 | nil=>rfl
 | cons k l=>exact bare_h k
def bReg (r:RegM):RegM:=⟨r.x,r.t,bare r.m,r.p⟩
def bDo (d:DoM):DoM:=⟨d.k,d.o,d.x,bare d.sd,bare d.qt,bare d.pr,bare d.vl,d.p⟩
def bRule (r:RuleM):RuleM:=⟨bare r.m,none,0,r.ds.map bDo,r.p⟩
def bState (x:StateM):StateM:=⟨x.x,none,0,x.rs.map bRule,x.p⟩
def bStr (S:StratM):StratM:=⟨S.x,none,0,S.rs.map bReg,none,0,S.ss,none,0,S.ts.map bState⟩
def rgOf (r:RegT):RegM:=⟨r.x,r.t,ndT r.m,r.p⟩
def slOf (r:SlotT):SlotM:=⟨r.x,r.p⟩
def doOf (d:DoT):DoM:=⟨d.k,d.o,d.x,ndT d.sd,ndT d.qt,ndT d.pr,ndT d.vl,d.p⟩
def ruOf (r:RuleT):RuleM:=⟨ndT r.m,none,0,r.ds.map doOf,r.p⟩
def stOfT (x:StateT):StateM:=⟨x.x,none,0,x.rs.map ruOf,x.p⟩
def sT (S:StratT):StratM:=⟨S.x,none,0,S.rs.map rgOf,none,0,S.ss.map slOf,none,0,S.ts.map stOfT⟩
theorem bStr_tr (S:StratM):bStr S=sT S.tr:=by
 unfold bStr sT StratM.tr
 simp only [List.map_map]
 congr 1
 ·exact (List.map_id _).symm
 ·refine List.map_congr_left fun x _=>?_
  show bState x=stOfT x.tr
  unfold bState stOfT StateM.tr
  simp only [List.map_map]
  congr 1
  refine List.map_congr_left fun r _=>?_
  show bRule r=ruOf r.tr
  unfold bRule ruOf RuleM.tr
  simp only [List.map_map]
  rfl
theorem regL_b (l:List RegM):regL (l.map bReg)=regL l:=by
 funext x
 unfold regL
 induction l with
 | nil=>rfl
 | cons r l ih =>
  simp only [List.map_cons,List.find?_cons]
  show Option.map _ (match decide (r.x=x) with | true=>_ | false=>_)=_
  cases decide (r.x=x) with
  | true=>rfl
  | false=>exact ih
theorem regE_b (r:RegM):regE (bReg r)=regE r:=by
 unfold regE initE bReg
 simp only [fE_b,bare_h,kid0_b]
theorem doE_b (d:DoM):doE (bDo d)=doE d:=by
 unfold doE partE
 simp only [bDo,ndO,ndN,ndS,ndQ,ndP,ndV,cE_b,sameB_b]
 rfl
theorem ruleE_b (r:RuleM):ruleE (bRule r)=ruleE r:=by
 unfold ruleE bRule
 simp only [cE_b,List.length_map,List.map_map]
 rw [show (doE ∘ bDo)=doE from funext doE_b]
theorem stateE_b (x:StateM):stateE (bState x)=stateE x:=by
 unfold stateE bState
 simp only [List.length_map,List.map_map]
 rw [show (ruleE ∘ bRule)=ruleE from funext ruleE_b]
theorem stratE_b (S:StratM):stratE (bStr S)=stratE S:=by
 unfold stratE bStr
 simp only [List.length_map,List.map_map]
 rw [show (regE ∘ bReg)=regE from funext regE_b,show (stateE ∘ bState)=stateE from funext stateE_b]
theorem dRegs_b:∀ (rs l:List RegM),dRegs (l.map bReg) (rs.map bReg)=dRegs l rs
 | [],_=>rfl
 | r :: rs,l=>by
  simp only [List.map_cons,dRegs,regL_b]
  have h:=dRegs_b rs (l ++ [r])
  rw [List.map_append] at h
  simp only [bReg,tyR_b] at h ⊢
  rw [← h]
  rfl
theorem decE_b (S:StratM):decE (bStr S)=decE S:=by
 unfold decE
 have h:=dRegs_b S.rs []
 have e:(bStr S).ts.map stN=S.ts.map stN:=by
  unfold bStr
  simp only [List.map_map]
  rfl
 rw [e]
 show (match dRegs [] (S.rs.map bReg) with | some e=>some e | none=>match dNms [] (S.ss.map slN) with | some e=>some e | none=>dNms [] (S.ts.map stN))=_
 rw [show dRegs [] (S.rs.map bReg)=dRegs [] S.rs from h]
 rfl
theorem ptsL_b (L:yB→Option Int) (d:DoM):ptsL L (bDo d)=(ptsL L d).map fun q=>(bare q.1,q.2):=by
 unfold ptsL bDo
 repeat' split
 all_goals simp_all
theorem pcE_b (L:yB→Option Int) (q:Nd × Int):pcE L (bare q.1,q.2)=pcE L q:=by
 unfold pcE
 simp only [tyR_b,bare_h]
theorem psE_b (L:yB→Option Int):∀ l:List (Nd × Int),psE L (l.map fun q=>(bare q.1,q.2))=psE L l
 | []=>rfl
 | q :: l=>by simp only [List.map_cons,psE]; rw [pcE_b,psE_b L l]
theorem dosE_b (L:yB→Option Int) (S2 S3:List yB):∀ (l:List DoM) (en:Bool),dosE L S2 S3 en (l.map bDo)=dosE L S2 S3 en l
 | [],en=>by cases en <;> rfl
 | d :: l,en=>by
  simp only [List.map_cons,dosE]
  rw [ptsL_b,psE_b]
  show (if en then some (d.p,153) else if standB L S2 S3 d.k d.x then (match psE L (ptsL L d) with | some e=>some e | none=>dosE L S2 S3 (d.k == 5 || d.k == 6) (l.map bDo)) else some (d.p,151))=_
  rw [dosE_b L S2 S3 l]
  rfl
theorem ruE_b (L:yB→Option Int) (S2 S3:List yB) (r:RuleM):ruE L S2 S3 (bRule r)=ruE L S2 S3 r:=by
 unfold ruE
 rw [show pcE L ((bRule r).m,5)=pcE L (r.m,5) from pcE_b L (r.m,5),show (bRule r).ds=r.ds.map bDo from rfl,dosE_b]
theorem rusE_b (L:yB→Option Int) (S2 S3:List yB):∀ l:List RuleM,rusE L S2 S3 (l.map bRule)=rusE L S2 S3 l
 | []=>rfl
 | r :: l=>by simp only [List.map_cons,rusE]; rw [ruE_b,rusE_b L S2 S3 l]
theorem stsE_b (L:yB→Option Int) (S2 S3:List yB):∀ l:List StateM,stsE L S2 S3 (l.map bState)=stsE L S2 S3 l
 | []=>rfl
 | x :: l=>by
  simp only [List.map_cons,stsE]
  rw [show (bState x).rs=x.rs.map bRule from rfl,rusE_b,stsE_b L S2 S3 l]
theorem chkE_b (S:StratM):chkE (bStr S)=chkE S:=by
 unfold chkE
 rw [stratE_b,decE_b,show (bStr S).rs=S.rs.map bReg from rfl,regL_b,show (bStr S).ts=S.ts.map bState from rfl,stsE_b,List.map_map,show (StateM.x ∘ bState)=StateM.x from rfl]
 rfl
def doZB (d:DoM):Bool:=[d.sd,d.qt,d.pr,d.vl].all fun m=>decide (size m≤1000000000000)
def stZB (x:StateM):Bool:=x.rs.all fun r=>decide (size r.m≤1000000000000) && r.ds.all doZB
theorem doZB_b (d:DoM):doZB (bDo d)=doZB d:=by simp only [doZB,bDo,List.all_cons,List.all_nil,size_b]
theorem stZB_b (x:StateM):stZB (bState x)=stZB x:=by
 unfold stZB bState
 simp only [List.all_map]
 congr 1
 funext r
 show (decide (size (bare r.m)≤1000000000000) && (r.ds.map bDo).all doZB)=_
 rw [size_b,List.all_map,show (doZB ∘ bDo)=doZB from funext doZB_b]
def zB (S:StratM):Bool:=S.ts.all stZB
theorem zB_b (S:StratM):zB (bStr S)=zB S:=by
 unfold zB bStr
 simp only [List.all_map]
 rw [show (stZB ∘ bState)=stZB from funext stZB_b]
theorem zB_z {S:StratM}(h:zB S=true):StratZ S:=by
 simp only [zB,List.all_eq_true] at h
 intro x hx r hr
 have h1:=h x hx
 simp only [stZB,Bool.and_eq_true,List.all_eq_true,decide_eq_true_eq] at h1
 refine⟨(h1 r hr).1,fun d hd=>?_⟩
 have h2:=(h1 r hr).2 d hd
 simp only [doZB,List.all_cons,List.all_nil,Bool.and_true,Bool.and_eq_true,decide_eq_true_eq] at h2
 exact h2
theorem valsR_b (s:Sx.Sn) (G:yB→Option Int):∀ l:List Nd,(∀ k ∈ l,valR s G (bare k)=valR s G k)→valsR s G (l.map bare)=valsR s G l
 | [],_=>rfl
 | k :: l,h=>by simp only [List.map_cons,valsR]; rw [h k (by simp),valsR_b s G l fun x hx=>h x (by simp [hx])]
theorem valR_b (s:Sx.Sn) (G:yB→Option Int):∀ m,valR s G (bare m)=valR s G m:=by
 refine Nd.ind fun h a c ks ih=>?_
 rw [bare_mk]
 simp only [valR]
 rw [valsR_b s G ks ih]
theorem doN_b (x:Cx) (q:Tm) (d:DoM):doN x q (bDo d)=doN x q d:=by
 unfold doN subR amdR bDo
 simp only [valR_b]
theorem dosN_b (x:Cx):∀ (l:List DoM) (q:Tm),dosN x q (l.map bDo)=dosN x q l
 | [],q=>rfl
 | d :: l,q=>by
  simp only [List.map_cons,dosN,doN_b]
  cases doN x q d with
  | error c=>rfl
  | ok q'=>exact dosN_b x l q'
theorem fireN_b (x:Cx) (q:Tm):∀ (l:List RuleM) (i:Nat),fireN x q i (l.map bRule)=fireN x q i l
 | [],i=>rfl
 | r :: l,i=>by
  simp only [List.map_cons,fireN,fireN_b x q l]
  rw [show (bRule r).m=bare r.m from rfl,show (bRule r).ds=r.ds.map bDo from rfl,valR_b,dosN_b]
theorem cxOf_b (S:StratM) (s:Sx.Sn):cxOf (bStr S) s=cxOf S s:=by
 unfold cxOf bStr
 simp only [List.map_map]
 rfl
theorem holdL_b:∀ (l:List RegM) (v:List Int),holdL (l.map bReg) v=holdL l v
 | [],_=>rfl
 | r :: l,[]=>rfl
 | r :: l,v :: vs=>by
  simp only [List.map_cons,holdL,holdL_b l vs]
  rfl
theorem isMo_b (S:StratM) (m:ModM):isMo (bStr S) m=isMo S m:=by
 unfold isMo bStr
 simp only [List.length_map,holdL_b]
theorem erN_b (S:StratM):erN (bStr S)=erN S:=by unfold erN; rw [chkE_b]
theorem wrN_b (S:StratM) (m:ModM) (s:Sx.Sn):wrN (bStr S) m s=wrN S m s:=by unfold wrN; rw [erN_b,isMo_b]
theorem rulesOf_b (S:StratM) (i:Int):rulesOf (bStr S) i=(rulesOf S i).map bRule:=by
 unfold rulesOf bStr
 simp only [List.getElem?_map]
 cases S.ts[i.toNat]? with
 | none=>rfl
 | some X=>rfl
theorem turnN_b (S:StratM) (m:ModM) (s:Sx.Sn) (gr:Bool):turnN (bStr S) m s gr=turnN S m s gr:=by
 unfold turnN
 rw [wrN_b,rulesOf_b,fireN_b,cxOf_b]
theorem startN_b (S:StratM):startN (bStr S)=startN S:=by
 unfold startN
 rw [erN_b]
 show (if erN S=0 then ((0:Int),(S.rs.map bReg).map fun r=>iniV r.m) else _)=_
 rw [List.map_map]
 have:((fun r:RegM=>iniV r.m) ∘ bReg)=fun r=>iniV r.m:=by
  funext r
  show iniV (bare r.m)=_
  unfold iniV
  rw [valR_b]
 rw [this]
def txS:yB:=⟨#[115,116,114,97,116,101,103,121,32,115,32,123,32,114,101,103,32,110,32,105,110,116,32,61,32,50,59,32,115,108,111,116,32,111,59,32,115,116,97,116,101,32,97,32,123,32,119,104,101,110,32,104,97,115,32,98,105,100,32,38,38,32,98,105,100,32,62,32,53,112,32,100,111,32,115,117,98,109,105,116,32,98,117,121,32,111,102,32,113,116,121,40,110,41,32,97,116,32,98,105,100,32,45,32,49,112,32,112,111,115,116,32,97,115,32,111,44,32,115,101,116,32,110,32,61,32,110,32,43,32,49,44,32,103,111,116,111,32,98,59,32,119,104,101,110,32,49,48,32,47,32,110,32,62,32,52,32,100,111,32,104,97,108,116,59,32,125,32,115,116,97,116,101,32,98,32,123,32,119,104,101,110,32,108,97,115,116,32,62,32,48,112,32,100,111,32,99,97,110,99,101,108,32,111,59,32,125,32,125]⟩
def sS:StratT:=(pWhole txS).getD ⟨txS,[],[],[]⟩
theorem pS1:pWhole txS=some sS:=by kernel_rfl
theorem stS:startN (sT sS)=(0,[2]):=by kernel_rfl
theorem zBS:zB (sT sS)=true:=by kernel_rfl
theorem tu1 (a:Option Addr) (c:Nat):turnN (sT sS) ⟨0,a,c,[2]⟩ ⟨9,0,0,0,0,0⟩ true=⟨0,0,false,[acA 1 5 1 8 2 1],1,0,1,[3]⟩:=by kernel_rfl
theorem tu2 (a:Option Addr) (c:Nat):turnN (sT sS) ⟨0,a,c,[2]⟩ Sx.sn0 false=⟨0,1,false,[],2,0,0,[2]⟩:=by kernel_rfl
theorem tu3 (a:Option Addr) (c:Nat):turnN (sT sS) ⟨0,a,c,[0]⟩ Sx.sn0 true=⟨0,-1,false,[],3,11,0,[0]⟩:=by kernel_rfl
end Go.Proofs.YtfbjofnaghjmeaaGreatDoor
