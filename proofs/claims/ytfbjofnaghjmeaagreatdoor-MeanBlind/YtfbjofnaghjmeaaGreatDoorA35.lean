import Derived.Test.YtfbjofnaghjmeaaGreatDoorA0
import Derived.Test.YtfbjofnaghjmeaaGreatDoorA34
import Derived.Defers
import Derived.Recover
import Derived.Laws.Pointers
namespace Go.Proofs.YtfbjofnaghjmeaaGreatDoor
set_option maxHeartbeats 8000000
set_option maxRecDepth 100000
open Go Go.RowKit
set_option linter.unusedVariables false
set_option linter.unusedSimpArgs false
theorem erN_none {S:StratM}(h:chkE S=none):erN S=0:=by unfold erN; rw [h]
theorem erN_some {S:StratM}{p no:Int}(h:chkE S=some (p,no)):erN S=no:=by unfold erN; rw [h]
theorem mwrong_any (S:StratM) (m:ModM) (s:Sx.Sn) (w:yW) (hl:StratL w S) (hz:StratZ S) (hm:ModL w m) (ht:Tab w) (hf:FTab w) (hg:Ety w) :
  Calls zG 31 #[.agg S.vals,.agg m.vals,.agg (Sx.snA s)] w fun e w'=>e=.returned (zI (wrN S m s))∧yD w w':=by
 obtain⟨h3,hb3,hz3⟩:=bx3_new w S m s
 obtain⟨W3,e3⟩:∃ W,((w.alloc (.cells S.vals 26)).alloc (.cells m.vals 29)).alloc (.cells (Sx.snA s) 31)=W:=⟨_,rfl⟩
 have E3:Hid (((w.alloc (.cells S.vals 26)).alloc (.cells m.vals 29)).alloc (.cells (Sx.snA s) 31)=W3):=e3
 rw [e3] at h3 hb3 hz3
 have HB:Hid (yD w W3):=hb3
 have H3:Hid (Bx3 W3 S m s w§):=h3
 have HL:Hid (StratL w S∧ModL w m∧Ety w):=⟨hl,hm,hg⟩
 have cT:Calls zG 52 #[.agg S.vals] W3 (OutC W3 (chkE S)):=tyCheck_any S W3 (hl.on hb3) hz (ht.on hb3) (hf.on hb3)  (hg.on hb3)
 clear h3 hb3 hz3 e3 hl hm hz ht hf hg
 obtain⟨g,eg⟩:∃ g,w§=g:=⟨_,rfl⟩
 have HG:Hid (w§=g):=eg
 rw [eg] at H3
 go_enter Tryz.func31,Tryz.ntmps31
 go_upto_region 1 with fail
 rw [E3.out]
 try rw [eg]
 clear E3 eg
 go_wp2_with (refine wpList_load_row rfl 26 (.tmp 3) rfl g rfl 26 S.vals (0,0) _ H3.out.a Tryz.underlying26 rfl (size26 S) ?_)
 refine cT.mono ?_
 rintro e w1 (⟨hE,rfl,hb⟩ | ⟨p,no,T,v,hE,rfl,hEr,hb⟩)
 ·have HB1:Hid (yD w w1):=below2 HB.out hb
  have H31:Hid (Bx3 w1 S m s g):=H3.out.on hb
  have HER:Hid (erN S=0):=erN_none hE
  have cE:=errno_nil w1
  clear hb cT hE
  go_wp2_with fail
  refine cE.mono ?_
  rintro e w2 ⟨rfl,hb⟩
  have HB2:Hid (yD w w2):=below2 HB1.out hb
  have H32:Hid (Bx3 w2 S m s g):=H31.out.on hb
  have cM:Calls zG 58 #[.agg S.vals,.agg m.vals] w2 fun e w'=>e=.returned (.bool (isMo S m))∧yD w2 w':=isMode_any S m w2 (HL.out.1.on HB2.out) (HL.out.2.1.on HB2.out)
  obtain⟨B,eB⟩:∃ B,isMo S m=B:=⟨_,rfl⟩
  have EB:Hid (isMo S m=B):=eB
  rw [eB] at cM
  clear hb cE eB
  go_wp2_with (first | (refine wpList_load_row rfl 26 (.tmp 3) rfl g rfl 26 S.vals (0,0) _ H32.out.a Tryz.underlying26 rfl (size26 S) ?_) | (refine wpList_load_row rfl 29 (.tmp 4) rfl (g+1) rfl 29 m.vals (0,0) _ H32.out.b Tryz.underlying29 rfl (size29 m) ?_))
  refine cM.mono ?_
  rintro e w4 ⟨rfl,hb⟩
  have HB4:Hid (yD w w4):=below2 HB2.out hb
  have H34:Hid (Bx3 w4 S m s g):=H32.out.on hb
  have cS:Calls zG 59 #[.agg (Sx.snA s)] w4 fun e w'=>e=.returned (zI (Sx.chkN s))∧yD w4 w':=Sx.check_any s w4
  clear hb cM
  cases B with
  | true =>
   have HW:Hid (wrN S m s=Sx.chkN s):=by show _=_; unfold wrN; rw [if_pos HER.out,if_pos EB.out]
   obtain⟨K,eK⟩:∃ K,Sx.chkN s=K:=⟨_,rfl⟩
   rw [eK] at cS HW
   clear eK
   go_wp2_with (refine wpList_load_row rfl 31 (.tmp 5) rfl (g+2) rfl 31 (Sx.snA s) (0,0) _ H34.out.c Tryz.underlying31 rfl (size31 s) ?_)
   refine cS.mono ?_
   rintro e w5 ⟨rfl,hb⟩
   have HB5:Hid (yD w w5):=below2 HB4.out hb
   clear hb cS
   go_wp2_with fail
   go_ret
   exact⟨by rw [HW.out]; rfl,HB5.out⟩
  | false =>
   have HW:Hid (wrN S m s=171):=by show _=_; unfold wrN; rw [if_pos HER.out,if_neg (by rw [EB.out]; decide)]
   go_wp2_with fail
   go_ret
   exact⟨by rw [HW.out]; rfl,HB4.out⟩
 ·have HB1:Hid (yD w w1):=below2 HB.out hb
  have HNZ:Hid (¬ no=0):=fun h0=>by
   have:=er_0 ((erN_some hE).trans h0)
   rw [this] at hE; cases hE
  have HW:Hid (wrN S m s=no):=by show _=_; unfold wrN; rw [erN_some hE,if_neg HNZ.out]
  have cE:Calls zG 33 #[.iface T v] w1 fun e w'=>e=.returned (zI no)∧yD w1 w':=errno_er hEr (HL.out.2.2.on HB1.out)
  clear hb cT hE hEr
  go_wp2_with fail
  refine cE.mono ?_
  rintro e w2 ⟨rfl,hb⟩
  have HB2:Hid (yD w w2):=below2 HB1.out hb
  have hnz:=HNZ.out
  clear hb cE
  go_wp2_with fail
  go_ret
  exact⟨by rw [HW.out]; rfl,HB2.out⟩
theorem TnW.other {B h0:Nat}{x:Cx}{tb rb mb sb gb:Nat}{w w':yW}{av:Value}{q:Tm}(h:TnW B h0 x tb rb mb sb gb w av q) {g:Nat}{cs:Array Value}{t:TypeId}{fr:Nat × Nat}(hg:(g,Obj.cells cs t fr) ∈ x.K) (ho:∀ b,b≠g→w'.heap[b]? = w.heap[b]?) (hz:w§≤w'§) {K:List (Nat × Obj)}(hK:∀ p ∈ K,p ∈ x.K∧p.1≠g):TnW B h0 { x with K:=K } tb rb mb sb gb w' av q:=by
 obtain⟨k1,k2,k3,k4⟩:=h.kp _ hg
 exact { h with
  t:=(ho _ (Ne.symm k3)).trans h.t
  r:=(ho _ (Ne.symm k4)).trans h.r
  p:=h.p.blk (ho _ (h.p.no k1))
  s:=h.s.blk (ho _ (h.s.no k1))
  g:=h.g.blk (ho _ (h.g.no k1))
  row:=h.row.of_block (fun b hb=>ho b (fun e=>by have:=h.nb b hb; have k2:g < h0:=k2; omega))
  hw:=Nat.le_trans h.hw hz
  kp:=fun p hp=>⟨(ho _ (hK p hp).2).trans (h.kp p (hK p hp).1).1,(h.kp p (hK p hp).1).2⟩ }
theorem assert_flt (v:Value) (w:yW):(Instr.typeAssert (.iface 146 v) 20 146 true).run Tryz.prog w=.ok (.tuple #[v,.bool true]) w:=by
 simp [Instr.typeAssert,run_underlying Tryz.underlying146,go_sem,Result.andThen]
theorem zero146 (w:yW):(zeroValue 146).run Tryz.prog w=.ok (zI 0) w:=by kernel_rfl
theorem assert_noflt (w:yW):(Instr.typeAssert .nilIface 20 146 true).run Tryz.prog w=.ok (.tuple #[zI 0,.bool false]) w:=by
 simp [Instr.typeAssert,run_underlying Tryz.underlying146,go_sem,Result.andThen,zero146]
theorem catch83_i (p:Addr) (w:yW) :
  CallsD Tryz.prog 83 #[.pointer (some p)] .returning w fun e u' w'=>e=.returned (.tuple #[])∧u'=.returning∧w'=w:=by
 refine callsD_of_wpS Tryz.func83 rfl fun c₀ cs hu=>?_
 apply wpS_seq
 apply wpS_region
 simp [wpOpsS,go_sem,recoverD,hu,Tryz.ntmps83,assert_noflt,Result.andThen,Exit.thenS]
 simp only [Array.replicate_succ,Array.replicate_zero,List.push_toArray,List.append_toArray,List.nil_append,List.cons_append,List.setIfInBounds_toArray,List.set_cons_zero,List.set_cons_succ]
 refine wpS_of_wp ?_
 go_wp2_with fail
 cases c₀
 simp_all [bodyPostS,results,Tryz.results83]
theorem catch83_p (g:Nat) (y:Value) (c:Int) (older:List PanicEntry) (w:yW) (hp:w.heap[g]? = (zC #[y] 41)) :
  CallsD Tryz.prog 83 #[zP g] (.panicking ({ v:=.iface 146 (zI c),recovered:=false } :: older)) w fun e u' w' =>
   e=.returned (.tuple #[])∧u'=.panicking ({ v:=.iface 146 (zI c),recovered:=true } :: older)∧w'=w.setCell g¢0 (zI c):=by
 have c1:w.cell? g¢0=some y:=cell_of hp 0
 have f1:w.frozen? g¢0=false:=frozen_of hp 0
 clear hp
 refine callsD_of_wpS Tryz.func83 rfl fun c₀ cs hu=>?_
 apply wpS_seq
 apply wpS_region
 simp [wpOpsS,go_sem,recoverD,hu,Tryz.ntmps83,assert_flt,Result.andThen,Exit.thenS]
 simp only [Array.replicate_succ,Array.replicate_zero,List.push_toArray,List.append_toArray,List.nil_append,List.cons_append,List.setIfInBounds_toArray,List.set_cons_zero,List.set_cons_succ]
 refine wpS_of_wp ?_
 go_wp2_with fail
 cases c₀
 simp_all [bodyPostS,results,Tryz.results83]
theorem res46 {Z:yW}{g:Nat}{v n:Int}{tmps:Array Value}(h2:Z.heap[g]? = (zC #[zI n] 41)) (ht2:tmps[2]?.getD undef=zI v) (ht3:tmps[3]?.getD undef=zP g) :
  (results Tryz.f46 tmps).run Tryz.prog Z=.ok (.tuple #[zI v,zI n]) Z:=by
 have z0:Z.cell? g¢0=some (zI n):=cell_of h2 0
 clear h2
 simp [results,Tryz.results46,go_sem,ht2,ht3,z0]
def OutG (B:Nat) (x:Cx) (tb rb mb sb gb:Nat) (w:yW) (r:Except Int (Int × Tm)) (e:Ending) (w':yW):Prop:=match r with
 | .error c=>e=.returned (.tuple #[zI 0,zI c])∧Below B w w'
 | .ok iq=>e=.returned (.tuple #[zI iq.1,zI 0])∧(∃ h1 av',TnW B h1 x tb rb mb sb gb w' av' iq.2)∧Below B w w'
theorem reck_turn {B:Nat}{x:Cx}{tb rb mb sb gb:Nat}{w:yW}{r:Except Int (Int × Tm)}(p q u:Addr) (hB:B≤w§) (hk:∀ k ∈ x.K,k.1 < w§)
  (cF:Calls zG 47 #[.pointer (some p),.pointer (some q),.pointer (some u)] (w.alloc (.cells #[zI 0] 41)) (OutF B { x with K:=(w§,Obj.cells #[zI 0] 41 (0,0)) :: x.K } tb rb mb sb gb (w.alloc (.cells #[zI 0] 41)) r)) :
  Calls zG 46 #[.func (.func 47) #[] #[.pointer (some p),.pointer (some q),.pointer (some u)]] w (OutG B x tb rb mb sb gb w r):=by
 have hmf:∀ (fn:Fn) (first cap:Array Value) (w:yW),(Instr.makeFunc fn first cap).run Tryz.prog w=.ok (.func fn first cap) w:=fun _ _ _ _=>rfl
 have b1:=below_new w (.cells #[zI 0] 41)
 obtain⟨W,eW⟩:∃ W,w.alloc (.cells #[zI 0] 41)=W:=⟨_,rfl⟩
 have EW:Hid (w.alloc (.cells #[zI 0] 41)=W):=eW
 rw [eW] at b1 cF
 have HB:Hid (B≤w§∧yD w W):=⟨hB,b1⟩
 have HK:Hid (∀ k ∈ x.K,k.1 < w§):=hk
 clear b1 eW hB hk
 rcases r with c | ⟨i,q2⟩
 ·replace cF:Calls zG 47 #[.pointer (some p),.pointer (some q),.pointer (some u)] W (fun e w'=>e=fltE c∧Below B W w'∧∀ k ∈ (w§,Obj.cells #[zI 0] 41 (0,0)) :: x.K,w'.heap[k.1]? = some k.2):=cF
  go_enter_defers Tryz.func46,Tryz.ntmps46
  go_wp2_with fail
  try rw [EW.out]
  refine cF.mono ?_
  rintro e w3 ⟨rfl,hb3,hk3⟩
  have g1:w3.heap[w§]? = (zC #[zI 0] 41):=hk3 _ (List.mem_cons_self ..)
  refine leaves_cons (f:=83) (args:=#[zP w§]) (by simp) (by simp [go_sem]) ?_
  refine (catch83_p _ _ c [] w3 g1).mono ?_
  rintro e u' Z ⟨rfl,rfl,rfl⟩
  exact⟨_,res46 (v:=0) (heap_set (j:=0) _ g1) rfl rfl,rfl,((HB.out.2.mono HB.out.1).trans hb3).setCell (p:=w§¢0) HB.out.1 _⟩
 ·replace cF:Calls zG 47 #[.pointer (some p),.pointer (some q),.pointer (some u)] W (fun e w'=>e=.returned (zI i)∧(∃ h1 av',TnW B h1 { x with K:=(w§,Obj.cells #[zI 0] 41 (0,0)) :: x.K } tb rb mb sb gb w' av' q2)∧Below B W w'):=cF
  go_enter_defers Tryz.func46,Tryz.ntmps46
  go_wp2_with fail
  try rw [EW.out]
  refine cF.mono ?_
  rintro e w3 ⟨rfl,⟨h1,av',ht⟩,hb3⟩
  have g1:w3.heap[w§]? = (zC #[zI 0] 41):=(ht.kp _ (List.mem_cons_self ..)).1
  have HT:Hid (TnW B h1 { x with K:=(w§,Obj.cells #[zI 0] 41 (0,0)) :: x.K } tb rb mb sb gb w3 av' q2∧Below B W w3∧w3.heap[w§]? = (zC #[zI 0] 41)):=⟨ht,hb3,g1⟩
  have z0:w3.cell? w§¢0=some (zI 0):=cell_of g1 0
  have f0:w3.frozen? w§¢0=false:=frozen_of g1 0
  clear ht hb3 g1 cF
  go_wp2_with fail
  refine leaves_cons (f:=83) (args:=#[zP w§]) (by simp) (by simp [go_sem]) ?_
  refine (catch83_i w§¢0 _).mono ?_
  rintro e u' Z ⟨rfl,rfl,rfl⟩
  refine⟨_,res46 (v:=i) (heap_set (j:=0) _ HT.out.2.2) rfl rfl,rfl,⟨h1,av',?_⟩,((HB.out.2.mono HB.out.1).trans HT.out.2.1).setCell (p:=w§¢0) HB.out.1 _⟩
  exact HT.out.1.other (K:=x.K) (List.mem_cons_self ..) (fun b hb=>set_oth b hb) (by rw [sz_set]; exact Nat.le_refl _) (fun k hk=>⟨List.mem_cons_of_mem _ hk,by have:=HK.out k hk; omega⟩)
theorem turn1_any {h0:Nat}{x:Cx}{tb rb mb sb gb:Nat}{w0 w:yW}{q:Tm}(S:StratM) (m:ModM) (a b c si:Nat) (X:StateM) (h:TnW w0§ h0 x tb rb mb sb gb w (.slice none 0 0) q) (hq:q.ac = []) (hB:yD w0 w) (hl:StratL w0 S)
  (ha:(a,Obj.cells #[zP tb] 109 (0,0)) ∈ x.K) (hb:w0.heap[b]? = (zC S.vals 26)) (hc:w0.heap[c]? = (zC m.vals 29)) (hst:m.st=(si:Int)) (hX:S.ts[si]? = some X) (hd:∀ r ∈ X.rs,RlOk x r) :
  Calls zG 47 #[zP a,zP b,zP c] w (OutF w0§ x tb rb mb sb gb w (fireN x q 0 X.rs)):=by
 obtain⟨hsi,eX⟩:=List.getElem?_eq_some_iff.1 hX
 obtain⟨bb,o,ea,hat⟩:=hl.2.2.2.2.1.2.2 si (by rw [List.length_map]; exact hsi)
 simp only [List.getElem_map] at hat
 have hat1:=hat 1 (by omega)
 rw [eX] at hat1
 have hat1:w0.cell? ⟨bb,o+si * 3+1,none⟩=some (.slice X.a X.rs.length X.c):=hat1
 have hXm:X ∈ S.ts:=eX ▸ List.getElem_mem hsi
 have HXL:StateL w0 X:=hl.2.2.2.2.2.1 X hXm
 have HS:Hid (∀ u,yD w0 u→u.heap[a]? = (zC #[zP tb] 109)→u.heap[a]? = (zC #[zP tb] 109)∧u.heap[b]? = (zC S.vals 26)∧u.heap[c]? = (zC m.vals 29)∧u.cell? ⟨bb,o+si * 3+1,none⟩=some (.slice X.a X.rs.length X.c)) :=
  fun u k e=>⟨e,heapOf k hb,heapOf k hc,cell_on hat1 k⟩
 have HA:Hid (w.heap[a]? = (zC #[zP tb] 109)):=(h.kp _ ha).1
 have HAK:Hid ((a,Obj.cells #[zP tb] 109 (0,0)) ∈ x.K):=ha
 have HB:Hid (yD w0 w):=hB
 have cF:Calls zG 48 #[zP tb,.slice X.a X.rs.length X.c] w.drew (OutF w0§ x tb rb mb sb gb w.drew (fireN x q 0 X.rs)) :=
  fire_any X.a X.c X.rs (h.on (drew_below w)) hq (hB.trans ((drew_below w).mono hB.size)) HXL.1 (fun r hr=>⟨HXL.2.1 r hr,hd r hr⟩)
 obtain⟨r,er⟩:∃ r,fireN x q 0 X.rs=r:=⟨_,rfl⟩
 rw [er] at cF ⊢
 have h0':(0:Int)≤(si:Int):=by omega
 have hl':(si:Int) < (S.ts.length:Int):=by omega
 have HST:Hid (m.st=(si:Int)):=hst
 have HTA:Hid (S.ta=some bb¢o):=ea
 clear h hq hB hl ha hb hc hst hX hd hsi eX hat hat1 hXm HXL er ea
 go_enter Tryz.func47,Tryz.ntmps47
 go_upto_region 1 with fail
 refine (?_:∀ Q',Hid (Q'=_)→Code.wp _ _ Q' _ _) _ rfl
 intro Q' HQ'
 have HPn:Hid (∀ p (d:Nat) v a w,Q' (.panic p) (Act.put a (some d) v) w→Q' (.panic p) a w):=by rw [HQ'.out]; exact fun _ _ _ _ _ h=>h
 refine wp_region_T (t:=99) (S:=fun u=>u.heap[a]? = (zC #[zP tb] 109)∧u.heap[b]? = (zC S.vals 26)∧u.heap[c]? = (zC m.vals 29)∧u.cell? ⟨bb,o+si * 3+1,none⟩=some (.slice X.a X.rs.length X.c)) zK (HS.out _ (HB.out.trans ((drew_below w).mono HB.out.size)) (heapOf (drew_below w) HA.out)) (fun hHeld=>?_)
 refine wpAnyT_take (i:=0) (v:=?_) rfl zK zK zK zK (fun c a w h=>HPn.out c _ _ a w h) (Or.inl ⟨by rfl,?_⟩) (by assumption) ?_
 rotate_left
 ·(intro v hv; have c0:v.cell? a¢0=some (zP tb):=cell_of hv.1 0; clear hv; go_simp; try (with_reducible rfl))
 try simp [Act.put]
 refine wpAnyT_take (i:=1) (v:=?_) rfl zK zK zK zK (fun c a w h=>HPn.out c _ _ a w h) (Or.inl ⟨by rfl,?_⟩) (by assumption) ?_
 rotate_left
 ·(intro v hv; go_simp; try (with_reducible rfl))
 try simp [Act.put]
 refine wpAnyT_take (i:=2) (v:=?_) rfl zK zK zK zK (fun c a w h=>HPn.out c _ _ a w h) (Or.inl ⟨by rfl,?_⟩) (by assumption) ?_
 rotate_left
 ·(intro v hv; have c1:v.cell? b¢3=some (.slice S.ta S.ts.length S.tc):=cell_of hv.2.1 3; rw [HTA.out] at c1; clear hv; go_simp; try (with_reducible rfl))
 try simp [Act.put]
 refine wpAnyT_take (i:=3) (v:=?_) rfl zK zK zK zK (fun c a w h=>HPn.out c _ _ a w h) (Or.inl ⟨by rfl,?_⟩) (by assumption) ?_
 rotate_left
 ·(intro v hv; go_simp; try (with_reducible rfl))
 try simp [Act.put]
 refine wpAnyT_take (i:=4) (v:=?_) rfl zK zK zK zK (fun c a w h=>HPn.out c _ _ a w h) (Or.inl ⟨by rfl,?_⟩) (by assumption) ?_
 rotate_left
 ·(intro v hv; have c1:v.cell? c¢0=some (zI m.st):=cell_of hv.2.2.1 0; rw [HST.out] at c1; clear hv; go_simp; try (with_reducible rfl))
 try simp [Act.put]
 refine wpAnyT_take (i:=5) (v:=?_) rfl zK zK zK zK (fun c a w h=>HPn.out c _ _ a w h) (Or.inl ⟨by rfl,?_⟩) (by assumption) ?_
 rotate_left
 ·(intro v hv; go_simp; try (with_reducible rfl))
 try simp [Act.put]
 refine wpAnyT_take (i:=6) (v:=?_) rfl zK zK zK zK (fun c a w h=>HPn.out c _ _ a w h) (Or.inl ⟨by rfl,?_⟩) (by assumption) ?_
 rotate_left
 ·(intro v hv; go_simp; try (with_reducible rfl))
 try simp [Act.put]
 refine wpAnyT_take (i:=7) (v:=?_) rfl zK zK zK zK (fun c a w h=>HPn.out c _ _ a w h) (Or.inl ⟨by rfl,?_⟩) (by assumption) ?_
 rotate_left
 ·(intro v hv; have c1:=hv.2.2.2; clear hv; go_simp; try (with_reducible rfl))
 try simp [Act.put]
 rcases r with c1 | iq
 ·refine wpAnyT_one (i:=8) zK rfl (fun K hK=>?_)
  go_simp
  refine cF.mono ?_
  rintro e w1 ⟨rfl,hb,hk⟩
  rw [HQ'.out]
  exact⟨rfl,rfl,((drew_below w).mono HB.out.size).trans hb,hk⟩
 ·refine wpAnyT_one (i:=8) zK rfl (fun K hK=>?_)
  go_simp
  refine cF.mono ?_
  rintro e w1 ⟨rfl,⟨h1,av',ht⟩,hb⟩
  have HT:Hid (TnW w0§ h1 x tb rb mb sb gb w1 av' iq.2∧Below w0§ w w1):=⟨ht,((drew_below w).mono HB.out.size).trans hb⟩
  clear ht hb cF
  go_simp
  refine hK.out _ _ (fun _=>HS.out _ (HB.out.trans HT.out.2) (HT.out.1.kp _ HAK.out).1) ?_
  clear hK K
  try simp [Act.put]
  refine wpAnyT_one (i:=9) zK rfl (fun K hK=>?_)
  go_simp
  refine hK.out _ _ (fun _=>HS.out _ (HB.out.trans HT.out.2) (HT.out.1.kp _ HAK.out).1) ?_
  clear hK K
  try simp [Act.put]
  refine wpAnyT_done zK ?_ _
  rw [HQ'.out]
  clear HQ' HPn Q'
  go_wp2_with fail
  go_ret
  exact⟨rfl,⟨h1,av',HT.out.1⟩,HT.out.2⟩
structure TuR where
 no:Int
 ru:Int
 rf:Bool
 ac:List (Array Value)
 su:Int
 co:Int
 st:Int
 rg:List Int
def rulesOf (S:StratM) (i:Int):List RuleM:=match S.ts[i.toNat]? with
 | some X=>X.rs
 | none=>[]
def turnF (m:ModM) (gr:Bool):Except Int (Int × Tm)→TuR
 | .error c=>⟨0,-1,false,[],3,c,m.st,m.rg⟩
 | .ok iq=>if iq.1 = -1 then ⟨0,-1,false,[],1,0,m.st,m.rg⟩ else if iq.2.ac.isEmpty=false∧gr=false then ⟨0,iq.1,true,[],1,0,m.st,m.rg⟩ else ⟨0,iq.1,false,iq.2.ac,iq.2.su,0,iq.2.st,iq.2.rg⟩
def turnN (S:StratM) (m:ModM) (s:Sx.Sn) (gr:Bool):TuR :=
 if wrN S m s=0 then turnF m gr (fireN (cxOf S s) (tmOf m) 0 (rulesOf S m.st)) else ⟨wrN S m s,0,false,[],0,0,0,[]⟩
def firB (ru:Int) (rf:Bool) (a:Value) (su co:Int):Array Value:=#[zI ru,.bool rf,a,zU su,zI co,zI 0]
def firA (r:TuR) (fa:Option Addr) (fc:Nat):Array Value:=firB r.ru r.rf (.slice fa r.ac.length fc) r.su r.co
def firZ:Array Value:=#[zI 0,.bool false,.slice none 0 0,zU 0,zI 0,zI 0]
def modZ:Array Value:=zu
def modV (st:Int) (a:Option Addr) (n c:Nat):Array Value:=#[zI st,.slice a n c]
theorem size59 (ru:Int) (rf:Bool) (a:Value) (su co:Int):(Tryz.prog.info? 59).map (·.size)=some (firB ru rf a su co).size:=by show _=some 6; kernel_rfl
theorem all59 (ru:Int) (rf:Bool) (a:Option Addr) (n c:Nat) (su co:Int):(firB ru rf (.slice a n c) su co).all (·.oneCell')=true:=by simp [firB,Value.oneCell']
theorem size29v (st:Int) (a:Option Addr) (n c:Nat):(Tryz.prog.info? 29).map (·.size)=some (modV st a n c).size:=by show _=some 2; kernel_rfl
theorem all29v (st:Int) (a:Option Addr) (n c:Nat):(modV st a n c).all (·.oneCell')=true:=by simp [modV,Value.oneCell']
def OutTu (w:yW) (r:TuR) (e:Ending) (w':yW):Prop :=
 ∃ fa fc ka kc,e=.returned (.tuple #[.agg (firA r fa fc),.agg (ModM.mk r.st ka kc r.rg).vals,zI r.no])∧SlAt w' 6 fa fc r.ac∧ModL w' ⟨r.st,ka,kc,r.rg⟩∧yD w w'
theorem results_ccs {P:Program}{fn:Func}{p u z:Tmp}{ty ty2:TypeId}(h:fn.results=#[.cell p ty,.cell u ty2,.tmp z]) (tmps:Array Value) (w:yW) (g g2:Nat) (t t2:TypeId) (cs cs2:Array Value) (fr fr2:Nat × Nat) (d d2:TypeDesc) (v:Value)
  (hp:tmps.getD p undef=zP g) (hg:w.heap[g]? = some (.cells cs t fr))
  (hu:P.underlying ty=some d) (hd:(match d with | .struct _ | .array _ _=>true | _=>false)=true) (hi:(P.info? ty).map (·.size)=some cs.size)
  (hp2:tmps.getD u undef=zP g2) (hg2:w.heap[g2]? = some (.cells cs2 t2 fr2))
  (hu2:P.underlying ty2=some d2) (hd2:(match d2 with | .struct _ | .array _ _=>true | _=>false)=true) (hi2:(P.info? ty2).map (·.size)=some cs2.size) (hv:tmps.getD z undef=v) :
  (results fn tmps).run P w=.ok (.tuple #[.agg cs,.agg cs2,v]) w:=by
 have hp':tmps[p]?.getD undef=zP g:=by simpa using hp
 have hp2':tmps[u]?.getD undef=zP g2:=by simpa using hp2
 have hv':tmps[z]?.getD undef=v:=by simpa using hv
 simp [results,h,hp',hp2',hv',asAddr,run_loadVar_row w g t ty cs fr d hg hu hd hi,run_loadVar_row w g2 t2 ty2 cs2 fr2 d2 hg2 hu2 hd2 hi2]
theorem wn_err {x c:Int}(h:wn x=.error c):c≠0:=by unfold wn at h; split at h <;> cases h; decide
theorem op2_err {o a b c:Int}(h:op2 o a b=.error c):c≠0:=by
 unfold op2 at h
 by_cases e:o=4
 ·rw [if_pos e] at h
  cases h
 rw [if_neg e] at h
 clear e
 by_cases e:o=5
 ·rw [if_pos e] at h
  cases h
 rw [if_neg e] at h
 clear e
 by_cases e:o=6
 ·rw [if_pos e] at h
  exact wn_err h
 rw [if_neg e] at h
 clear e
 by_cases e:o=7
 ·rw [if_pos e] at h
  exact wn_err h
 rw [if_neg e] at h
 clear e
 by_cases e:o=8
 ·rw [if_pos e] at h
  exact wn_err h
 rw [if_neg e] at h
 clear e
 by_cases e:o=9
 ·rw [if_pos e] at h
  by_cases e2:b=0
  ·rw [if_pos e2] at h; cases h; decide
  ·rw [if_neg e2] at h; exact wn_err h
 rw [if_neg e] at h
 clear e
 by_cases e:o=10
 ·rw [if_pos e] at h
  by_cases e2:b=0
  ·rw [if_pos e2] at h; cases h; decide
  ·rw [if_neg e2] at h; cases h
 rw [if_neg e] at h
 clear e
 by_cases e:o=11
 ·rw [if_pos e] at h
  cases h
 rw [if_neg e] at h
 clear e
 by_cases e:o=12
 ·rw [if_pos e] at h
  cases h
 rw [if_neg e] at h
 clear e
 by_cases e:o=13
 ·rw [if_pos e] at h
  cases h
 rw [if_neg e] at h
 clear e
 by_cases e:o=14
 ·rw [if_pos e] at h
  cases h
 rw [if_neg e] at h
 clear e
 by_cases e:o=15
 ·rw [if_pos e] at h
  cases h
 rw [if_neg e] at h
 clear e
 cases h
theorem op1_err {o a c:Int}(h:op1 o a=.error c):c≠0:=by
 unfold op1 at h
 by_cases e:o=1
 ·rw [if_pos e] at h; exact wn_err h
 rw [if_neg e] at h
 by_cases e2:o=2
 ·rw [if_pos e2] at h; cases h
 rw [if_neg e2] at h
 by_cases e3:a < 0
 ·rw [if_pos e3] at h; exact wn_err h
 ·rw [if_neg e3] at h; cases h
theorem op_err {o:Int}{r0 r1:Except Int Int}{c:Int}(h0:∀ c,r0=.error c→c≠0) (h1:∀ c,r1=.error c→c≠0) (h:opR o r0 r1=.error c):c≠0:=by
 unfold opR at h
 cases r0 with
 | error e=>cases h; exact h0 _ rfl
 | ok a =>
  simp only at h
  by_cases e1:o≤3
  ·rw [if_pos e1] at h; exact op1_err h
  rw [if_neg e1] at h
  by_cases e2:o=17∧a=0
  ·rw [if_pos e2] at h; cases h
  rw [if_neg e2] at h
  by_cases e3:o=18∧a=1
  ·rw [if_pos e3] at h; cases h
  rw [if_neg e3] at h
  cases r1 with
  | error e=>cases h; exact h1 _ rfl
  | ok b =>
   simp only at h
   by_cases e4:o=17∨o=18
   ·rw [if_pos e4] at h; cases h
   ·rw [if_neg e4] at h; exact op2_err h
theorem getD_err {l:List (Except Int Int)}(h:∀ r ∈ l,∀ c,r=.error c→c≠0) (i:Nat):∀ c,l.getD i (.ok 0)=.error c→c≠0:=fun c hc=>by
 rw [List.getD_eq_getElem?_getD] at hc
 cases e:l[i]? with
 | none=>rw [e] at hc; cases hc
 | some r=>rw [e] at hc; exact h r (List.mem_of_getElem? e) c hc
theorem val_err {s:Sx.Sn}{G:yB→Option Int}:∀ (m:Nd) (c:Int),valR s G m=.error c→c≠0:=by
 refine Nd.ind fun h a k ks ih c hc=>?_
 have hks:∀ (l:List Nd),(∀ k ∈ l,∀ c,valR s G k=.error c→c≠0)→∀ r ∈ valsR s G l,∀ c,r=.error c→c≠0:=by
  intro l
  induction l with
  | nil=>intro _ r hr; cases hr
  | cons y l ihl =>
   intro hk r hr
   rcases List.mem_cons.1 hr with rfl | hr
   ·exact hk y (List.mem_cons_self ..)
   ·exact ihl (fun k hm=>hk k (List.mem_cons_of_mem _ hm)) r hr
 have H:=getD_err (hks ks ih)
 unfold valR cmb at hc
 split at hc
 ·cases hc
 split at hc
 ·cases hc
 split at hc
 ·unfold fldR at hc
  split at hc
  ·cases hc; decide
  ·cases hc
 split at hc
 ·cases hc
 split at hc
 ·unfold cndR at hc
  cases e:(valsR s G ks).getD 0 (.ok 0) with
  | error z=>rw [e] at hc; cases hc; exact H 0 _ e
  | ok z =>
   rw [e] at hc
   simp only at hc
   split at hc
   ·exact H 1 _ hc
   ·exact H 2 _ hc
 split at hc
 ·exact H 0 _ hc
 ·exact op_err (H 0) (H 1) hc
theorem do_err {x:Cx}{q:Tm}{d:DoM}{c:Int}(h:doN x q d=.error c):c≠0:=by
 unfold doN at h
 split at h
 ·cases e:subR x.S x.s (gOf x.P q.rg) d with
  | ok y=>rw [e] at h; cases h
  | error z =>
   rw [e] at h
   cases h
   unfold subR at e
   cases e1:valR x.s (gOf x.P q.rg) d.sd with
   | error y=>rw [e1] at e; cases e; exact val_err _ _ e1
   | ok y =>
    simp only [e1] at e
    cases e2:valR x.s (gOf x.P q.rg) d.qt with
    | error y=>simp only [e2] at e; cases e; exact val_err _ _ e2
    | ok y2 =>
     simp only [e2] at e
     split at e
     ·cases e
     ·cases e3:valR x.s (gOf x.P q.rg) d.pr with
      | error y=>simp only [e3] at e; cases e; exact val_err _ _ e3
      | ok y3=>simp only [e3] at e; cases e
 split at h
 ·cases e:amdR x.S x.s (gOf x.P q.rg) d with
  | ok y=>rw [e] at h; cases h
  | error z =>
   rw [e] at h
   cases h
   unfold amdR at e
   cases e2:valR x.s (gOf x.P q.rg) d.qt with
   | error y=>simp only [e2] at e; cases e; exact val_err _ _ e2
   | ok y2 =>
    simp only [e2] at e
    cases e3:valR x.s (gOf x.P q.rg) d.pr with
    | error y=>simp only [e3] at e; cases e; exact val_err _ _ e3
    | ok y3=>simp only [e3] at e; cases e
 split at h
 ·cases h
 split at h
 ·cases e:valR x.s (gOf x.P q.rg) d.vl with
  | error z=>rw [e] at h; cases h; exact val_err _ _ e
  | ok v=>rw [e] at h; cases h
 split at h
 ·cases h
 ·cases h
theorem dos_err {x:Cx}:∀ (ds:List DoM) (q:Tm) (c:Int),dosN x q ds=.error c→c≠0
 | [],q,c,h=>by cases h
 | d :: ds,q,c,h=>by
  cases e:doN x q d with
  | error z=>rw [dosN_err e] at h; cases h; exact do_err e
  | ok q'=>rw [dosN_ok e] at h; exact dos_err ds q' c h
theorem fire_err {x:Cx}{q:Tm}:∀ (rs:List RuleM) (i:Nat) (c:Int),fireN x q i rs=.error c→c≠0
 | [],i,c,h=>by cases h
 | r :: rs,i,c,h=>by
  unfold fireN at h
  cases e:valR x.s (gOf x.P q.rg) r.m with
  | error z=>simp only [e] at h; cases h; exact val_err _ _ e
  | ok v =>
   simp only [e] at h
   split at h
   ·cases e2:dosN x q r.ds with
    | error z=>simp only [e2] at h; cases h; exact dos_err _ _ _ e2
    | ok q'=>simp only [e2] at h; cases h
   ·exact fire_err rs _ c h
end Go.Proofs.YtfbjofnaghjmeaaGreatDoor
