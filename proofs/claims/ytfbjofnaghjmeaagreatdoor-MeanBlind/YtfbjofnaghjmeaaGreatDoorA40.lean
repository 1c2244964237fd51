import Derived.Test.YtfbjofnaghjmeaaGreatDoorA0
import Derived.Test.YtfbjofnaghjmeaaGreatDoorA38
import Derived.Test.YtfbjofnaghjmeaaGreatDoorA39
namespace Go.Proofs.YtfbjofnaghjmeaaGreatDoor
set_option maxHeartbeats 16000000
set_option maxRecDepth 100000
open Go Go.RowKit
set_option linter.unusedVariables false
set_option linter.unusedSimpArgs false
theorem turn_lit {S:StratM}{m:ModM}{s:Sx.Sn}{gr:Bool}{w:yW}(r:TuR) (hr:turnN S m s gr=r) (hl:StratL w S) (hz:StratZ S) (hm:ModL w m) (hn:m.rg.length≤65536) (hi:∀ f,I64 (Sx.getN s f)) (ht:Tab w) (hf:FTab w) (hg:Ety w) :
  Calls zG 20 #[.agg S.vals,.agg m.vals,.agg (Sx.snA s),.bool gr] w fun e w'=>∃ fa fc ka kc,e=.returned (.tuple #[.agg #[zI r.ru,.bool r.rf,.slice fa r.ac.length fc,zU r.su,zI r.co,zI 0],.agg #[zI r.st,.slice ka r.rg.length kc],zI r.no])∧SlAt w' 6 fa fc r.ac∧ModL w' ⟨r.st,ka,kc,r.rg⟩∧yD w w':=by
 subst hr
 exact turn_any S m s gr w hl hz hm hn hi ht hf hg
theorem refused_plain (S:StratM) (m:ModM) (s:Sx.Sn) :
  (∃ no ru su co st rg,turnN S m s true=⟨no,ru,false,[],su,co,st,rg⟩∧turnN S m s false=⟨no,ru,false,[],su,co,st,rg⟩) ∨
  (∃ ru ac su st rg,ac≠[]∧turnN S m s true=⟨0,ru,false,ac,su,0,st,rg⟩∧turnN S m s false=⟨0,ru,true,[],1,0,m.st,m.rg⟩):=by
 unfold turnN
 by_cases h:wrN S m s=0
 ·rw [if_pos h,if_pos h]
  cases fireN (cxOf S s) (tmOf m) 0 (rulesOf S m.st) with
  | error c=>exact .inl ⟨_,_,_,_,_,_,rfl,rfl⟩
  | ok iq =>
   obtain⟨i,q⟩:=iq
   unfold turnF
   simp only
   by_cases h1:i = -1
   ·rw [if_pos h1,if_pos h1]
    exact .inl ⟨_,_,_,_,_,_,rfl,rfl⟩
   rw [if_neg h1,if_neg h1]
   cases e:q.ac with
   | nil=>exact .inl ⟨_,_,_,_,_,_,rfl,rfl⟩
   | cons y l=>exact .inr ⟨i,y :: l,q.su,q.st,q.rg,by simp,rfl,rfl⟩
 ·rw [if_neg h,if_neg h]
  exact .inl ⟨_,_,_,_,_,_,rfl,rfl⟩
theorem acs_nil:Acs []:=fun y hy=>by cases hy
theorem refused_any (S:StratM) (m:ModM) (s:Sx.Sn) (w:yW) (hl:StratL w S) (hm:ModL w m) (hi:∀ f,I64 (Sx.getN s f)) (ht:Tab w) (hf:FTab w) (hg:Ety w) :
  Calls zG 5 #[.agg S.vals,.agg m.vals,.agg (Sx.snA s)] w fun e w'=>e=.returned (.bool true)∧yD w w':=by
 obtain⟨h3,hb3,hz3⟩:=bx3_new w S m s
 obtain⟨W,eW⟩:∃ W,((w.alloc (.cells S.vals 26)).alloc (.cells m.vals 29)).alloc (.cells (Sx.snA s) 31)=W:=⟨_,rfl⟩
 have EW:Hid (((w.alloc (.cells S.vals 26)).alloc (.cells m.vals 29)).alloc (.cells (Sx.snA s) 31)=W):=eW
 rw [eW] at h3 hb3 hz3
 have HT:Hid (Tab W∧FTab W∧Ety W):=⟨ht.on hb3,hf.on hb3,hg.on hb3⟩
 obtain⟨g,eg⟩:∃ g,w§=g:=⟨_,rfl⟩
 have HG:Hid (w§=g):=eg
 rw [eg] at h3
 have HB:Hid (yD w W):=hb3
 have H3:Hid (Bx3 W S m s g):=h3
 have HI:Hid (∀ f,I64 (Sx.getN s f)):=hi
 have HL:Hid (StratL W S∧ModL W m):=⟨hl.on hb3,hm.on hb3⟩
 clear h3 hb3 hz3 eW hl hm hi ht hf hg eg
 go_enter Tryz.func5,Tryz.ntmps5
 go_upto_region 1 with fail
 rw [EW.out,HG.out]
 clear EW
 go_wp2_with fail
 refine (awake_any W HT.out.1 HT.out.2.1 HT.out.2.2).mono ?_
 rintro e w1 ⟨rfl,hb⟩
 have HB1:Hid (yD w w1):=below2 HB.out hb
 have H31:Hid (Bx3 w1 S m s g):=H3.out.on hb
 have HT1:Hid (Tab w1∧FTab w1∧Ety w1):=⟨HT.out.1.on hb,HT.out.2.1.on hb,HT.out.2.2.on hb⟩
 have HL1:Hid (StratL w1 S∧ModL w1 m):=⟨HL.out.1.on hb,HL.out.2.on hb⟩
 have cF:Calls zG 9 #[.agg S.vals,.agg m.vals,.agg zNo] w1 fun e w'=>(∃ f:Bool,e=.returned (.bool f)∧(f=false→StratZ S∧m.rg.length≤65536∧size nd0T≤65536))∧yD w1 w':=far_any S m nd0T w1 HL1.out.1 (lies0T w1)
 clear hb HB HT HL H3
 go_wp2_with (first | (refine wpList_load_row rfl 26 (.tmp 3) rfl g rfl 26 S.vals (0,0) _ H31.out.a Tryz.underlying26 rfl (size26 S) ?_) | (refine wpList_load_row rfl 29 (.tmp 4) rfl (g+1) rfl 29 m.vals (0,0) _ H31.out.b Tryz.underlying29 rfl (size29 m) ?_))
 refine cF.mono ?_
 rintro e w2 ⟨⟨f,rfl,hz⟩,hb⟩
 have HB2:Hid (yD w w2):=below2 HB1.out hb
 have H32:Hid (Bx3 w2 S m s g):=H31.out.on hb
 have HT2:Hid (Tab w2∧FTab w2∧Ety w2):=⟨HT1.out.1.on hb,HT1.out.2.1.on hb,HT1.out.2.2.on hb⟩
 have HL2:Hid (StratL w2 S∧ModL w2 m):=⟨HL1.out.1.on hb,HL1.out.2.on hb⟩
 have HZ:Hid (f=false→StratZ S∧m.rg.length≤65536∧size nd0T≤65536):=hz
 clear hb hz cF HB1 HT1 HL1 H31
 cases f with
 | true =>
  go_wp2_with fail
  go_ret
  exact⟨rfl,HB2.out⟩
 | false =>
 have HZ2:Hid (StratZ S∧m.rg.length≤65536):=⟨(HZ.out rfl).1,(HZ.out rfl).2.1⟩
 clear HZ
 rcases refused_plain S m s with ⟨no,ru,su,co,st,rg,hr1,hr2⟩ | ⟨ru,ac,su,st,rg,hac,hr1,hr2⟩
 ·have HR2:Hid (turnN S m s false=⟨no,ru,false,[],su,co,st,rg⟩):=hr2
  have c1:Calls zG 20 #[.agg S.vals,.agg m.vals,.agg (Sx.snA s),.bool true] w2 (fun e w'=>∃ fa fc ka kc,e=.returned (.tuple #[.agg #[zI ru,.bool false,.slice fa 0 fc,zU su,zI co,zI 0],.agg #[zI st,.slice ka rg.length kc],zI no])∧SlAt w' 6 fa fc []∧ModL w' ⟨st,ka,kc,rg⟩∧yD w2 w') :=
   turn_lit ⟨no,ru,false,[],su,co,st,rg⟩ hr1 HL2.out.1 HZ2.out.1 HL2.out.2 HZ2.out.2 HI.out HT2.out.1 HT2.out.2.1 HT2.out.2.2
  clear hr1 hr2
  go_wp2_with (first | (refine wpList_load_row rfl 26 (.tmp 3) rfl g rfl 26 S.vals (0,0) _ H32.out.a Tryz.underlying26 rfl (size26 S) ?_) | (refine wpList_load_row rfl 29 (.tmp 4) rfl (g+1) rfl 29 m.vals (0,0) _ H32.out.b Tryz.underlying29 rfl (size29 m) ?_) | (refine wpList_load_row rfl 31 (.tmp 5) rfl (g+2) rfl 31 (Sx.snA s) (0,0) _ H32.out.c Tryz.underlying31 rfl (size31 s) ?_))
  refine c1.mono ?_
  rintro e w' ⟨fa,fc,ka,kc,rfl,hs,hm,hb1⟩
  obtain⟨hn3,hn4,hb2⟩:=two_new w' #[zI ru,.bool false,.slice fa 0 fc,zU su,zI co,zI 0] #[zI st,.slice ka rg.length kc] 59 29
  go_upto_region 6 with fail
  generalize (w'.alloc (.cells #[zI ru,.bool false,.slice fa 0 fc,zU su,zI co,zI 0] 59)).alloc (.cells #[zI st,.slice ka rg.length kc] 29)=W3 at hb2 hn3 hn4 ⊢
  generalize w'§=A at hn3 hn4 ⊢
  have hbb:=below2 hb1 hb2
  have HB3:Hid (yD w W3):=below2 HB2.out hbb
  have H33:Hid (Bx3 W3 S m s g):=H32.out.on hbb
  have HT3:Hid (Tab W3∧FTab W3∧Ety W3):=⟨HT2.out.1.on hbb,HT2.out.2.1.on hbb,HT2.out.2.2.on hbb⟩
  have HL3:Hid (StratL W3 S∧ModL W3 m):=⟨HL2.out.1.on hbb,HL2.out.2.on hbb⟩
  have HX3:Hid (W3.heap[A]? = (zC #[zI ru,.bool false,.slice fa 0 fc,zU su,zI co,zI 0] 59)∧W3.heap[A+1]? = (zC #[zI st,.slice ka rg.length kc] 29)∧ModL W3 ⟨st,ka,kc,rg⟩∧SlAt W3 6 fa fc []):=⟨hn3,hn4,hm.on hb2,hs.on (fun y hy=>by cases hy) hb2⟩
  clear hs hm hb1 hb2 hn3 hn4 hbb c1
  have c2:Calls zG 20 #[.agg S.vals,.agg m.vals,.agg (Sx.snA s),.bool false] W3 (fun e w'=>∃ fa fc ka kc,e=.returned (.tuple #[.agg #[zI ru,.bool false,.slice fa 0 fc,zU su,zI co,zI 0],.agg #[zI st,.slice ka rg.length kc],zI no])∧SlAt w' 6 fa fc []∧ModL w' ⟨st,ka,kc,rg⟩∧yD W3 w') :=
   turn_lit ⟨no,ru,false,[],su,co,st,rg⟩ HR2.out HL3.out.1 HZ2.out.1 HL3.out.2 HZ2.out.2 HI.out HT3.out.1 HT3.out.2.1 HT3.out.2.2
  go_wp2_with (first | (refine wpList_load_row rfl 26 (.tmp 3) rfl g rfl 26 S.vals (0,0) _ H33.out.a Tryz.underlying26 rfl (size26 S) ?_) | (refine wpList_load_row rfl 29 (.tmp 4) rfl (g+1) rfl 29 m.vals (0,0) _ H33.out.b Tryz.underlying29 rfl (size29 m) ?_) | (refine wpList_load_row rfl 31 (.tmp 5) rfl (g+2) rfl 31 (Sx.snA s) (0,0) _ H33.out.c Tryz.underlying31 rfl (size31 s) ?_))
  refine c2.mono ?_
  rintro e w' ⟨fb,fd,kb,kd,rfl,hs,hm,hb1⟩
  obtain⟨hn3,hn4,hb2⟩:=two_new w' #[zI ru,.bool false,.slice fb 0 fd,zU su,zI co,zI 0] #[zI st,.slice kb rg.length kd] 59 29
  go_upto_region 7 with fail
  generalize (w'.alloc (.cells #[zI ru,.bool false,.slice fb 0 fd,zU su,zI co,zI 0] 59)).alloc (.cells #[zI st,.slice kb rg.length kd] 29)=W4 at hb2 hn3 hn4 ⊢
  generalize w'§=B at hn3 hn4 ⊢
  have hbb:=below2 hb1 hb2
  have HB4:Hid (yD w W4):=below2 HB3.out hbb
  have H34:Hid (Bx3 W4 S m s g):=H33.out.on hbb
  have HT4:Hid (Tab W4∧FTab W4∧Ety W4):=⟨HT3.out.1.on hbb,HT3.out.2.1.on hbb,HT3.out.2.2.on hbb⟩
  have HL4:Hid (StratL W4 S∧ModL W4 m):=⟨HL3.out.1.on hbb,HL3.out.2.on hbb⟩
  have HX4:Hid (W4.heap[A]? = (zC #[zI ru,.bool false,.slice fa 0 fc,zU su,zI co,zI 0] 59)∧W4.heap[A+1]? = (zC #[zI st,.slice ka rg.length kc] 29)∧ModL W4 ⟨st,ka,kc,rg⟩∧SlAt W4 6 fa fc []):=⟨heapOf hbb HX3.out.1,heapOf hbb HX3.out.2.1,HX3.out.2.2.1.on hbb,HX3.out.2.2.2.on (fun y hy=>by cases hy) hbb⟩
  have HY4:Hid (W4.heap[B]? = (zC #[zI ru,.bool false,.slice fb 0 fd,zU su,zI co,zI 0] 59)∧W4.heap[B+1]? = (zC #[zI st,.slice kb rg.length kd] 29)∧ModL W4 ⟨st,kb,kd,rg⟩∧SlAt W4 6 fb fd []):=⟨hn3,hn4,hm.on hb2,hs.on (fun y hy=>by cases hy) hb2⟩
  clear hs hm hb1 hb2 hn3 hn4 hbb c2 HX3 HR2
  have y2:W4.cell? A¢2=some (.slice fa 0 fc):=cell_of HX4.out.1 2
  have z2:W4.cell? B¢2=some (.slice fb 0 fd):=cell_of HY4.out.1 2
  by_cases hno:no=0
  rotate_left
  ·go_wp2_with fail
   go_ret
   exact⟨rfl,HB4.out⟩
  subst hno
  clear z2
  have c3:Calls zG 21 #[.agg #[zI st,.slice kb rg.length kd],.agg m.vals] W4 fun e w'=>e=.returned (.bool (decide (st=m.st∧rg=m.rg)))∧yD W4 w':=sameMode_any ⟨st,kb,kd,rg⟩ m W4 HY4.out.2.2.1 HL4.out.2
  go_wp2_with (first | (refine wpList_load_row rfl 29 (.tmp 13) rfl (B+1) rfl 29 #[zI st,.slice kb rg.length kd] (0,0) _ HY4.out.2.1 Tryz.underlying29 rfl (size29v ..) ?_) | (refine wpList_load_row rfl 29 (.tmp 4) rfl (g+1) rfl 29 m.vals (0,0) _ H34.out.b Tryz.underlying29 rfl (size29 m) ?_))
  refine c3.mono ?_
  rintro e w5 ⟨rfl,hb⟩
  obtain⟨D,eD⟩:∃ D,decide (st=m.st∧rg=m.rg)=D:=⟨_,rfl⟩
  rw [eD]
  have HB5:Hid (yD w w5):=below2 HB4.out hb
  have HX5:Hid (w5.heap[A]? = (zC #[zI ru,.bool false,.slice fa 0 fc,zU su,zI co,zI 0] 59)∧w5.heap[A+1]? = (zC #[zI st,.slice ka rg.length kc] 29)∧ModL w5 ⟨st,ka,kc,rg⟩∧SlAt w5 6 fa fc []):=⟨heapOf hb HX4.out.1,heapOf hb HX4.out.2.1,HX4.out.2.2.1.on hb,HX4.out.2.2.2.on (fun y hy=>by cases hy) hb⟩
  have HY5:Hid (w5.heap[B]? = (zC #[zI ru,.bool false,.slice fb 0 fd,zU su,zI co,zI 0] 59)∧w5.heap[B+1]? = (zC #[zI st,.slice kb rg.length kd] 29)∧ModL w5 ⟨st,kb,kd,rg⟩∧SlAt w5 6 fb fd []):=⟨heapOf hb HY4.out.1,heapOf hb HY4.out.2.1,HY4.out.2.2.1.on hb,HY4.out.2.2.2.on (fun y hy=>by cases hy) hb⟩
  have u2:w5.cell? A¢2=some (.slice fa 0 fc):=cell_of HX5.out.1 2
  have c4:Calls zG 22 #[.agg #[zI ru,.bool false,.slice fa 0 fc,zU su,zI co,zI 0],.agg #[zI ru,.bool false,.slice fb 0 fd,zU su,zI co,zI 0],.bool true] w5 fun e w'=>e=.returned (.bool true)∧yD w5 w':=sameFir_eq ⟨0,ru,false,[],su,co,st,rg⟩ fa fc fb fd w5 acs_nil HX5.out.2.2.2 HY5.out.2.2.2
  clear hb c3 eD y2 HX4 HY4
  go_wp2_with (first | (refine wpList_load_row rfl 59 (.tmp 9) rfl A rfl 59 #[zI ru,.bool false,.slice fa 0 fc,zU su,zI co,zI 0] (0,0) _ HX5.out.1 Tryz.underlying59 rfl (size59 ..) ?_) | (refine wpList_load_row rfl 59 (.tmp 12) rfl B rfl 59 #[zI ru,.bool false,.slice fb 0 fd,zU su,zI co,zI 0] (0,0) _ HY5.out.1 Tryz.underlying59 rfl (size59 ..) ?_))
  refine c4.mono ?_
  rintro e w6 ⟨rfl,hb⟩
  have HB6:Hid (yD w w6):=below2 HB5.out hb
  have HX6:Hid (w6.heap[A]? = (zC #[zI ru,.bool false,.slice fa 0 fc,zU su,zI co,zI 0] 59)∧w6.heap[A+1]? = (zC #[zI st,.slice ka rg.length kc] 29)∧w6.heap[B+1]? = (zC #[zI st,.slice kb rg.length kd] 29)):=⟨heapOf hb HX5.out.1,heapOf hb HX5.out.2.1,heapOf hb HY5.out.2.1⟩
  have c5:Calls zG 21 #[.agg #[zI st,.slice ka rg.length kc],.agg #[zI st,.slice kb rg.length kd]] w6 fun e w'=>e=.returned (.bool true)∧yD w6 w':=by
   have c:=sameMode_any ⟨st,ka,kc,rg⟩ ⟨st,kb,kd,rg⟩ w6 (HX5.out.2.2.1.on hb) (HY5.out.2.2.1.on hb)
   rw [decide_eq_true (by exact⟨rfl,rfl⟩)] at c
   exact c
  clear hb c4 u2 HX5 HY5
  go_wp2_with (first | (refine wpList_load_row rfl 29 (.tmp 10) rfl (A+1) rfl 29 #[zI st,.slice ka rg.length kc] (0,0) _ HX6.out.2.1 Tryz.underlying29 rfl (size29v ..) ?_) | (refine wpList_load_row rfl 29 (.tmp 13) rfl (B+1) rfl 29 #[zI st,.slice kb rg.length kd] (0,0) _ HX6.out.2.2 Tryz.underlying29 rfl (size29v ..) ?_))
  refine c5.mono ?_
  rintro e w7 ⟨rfl,hb⟩
  have HB7:Hid (yD w w7):=below2 HB6.out hb
  have v1:w7.cell? A¢1=some (.bool false):=cell_of (heapOf hb HX6.out.1) 1
  clear hb c5
  go_wp2_with fail
  go_ret
  exact⟨rfl,HB7.out⟩
 ·have HR2:Hid (turnN S m s false=⟨0,ru,true,[],1,0,m.st,m.rg⟩):=hr2
  have HAC:Hid (0 < ac.length):=by show _ < _; cases ac with | nil=>exact absurd rfl hac | cons y l=>simp
  have c1:Calls zG 20 #[.agg S.vals,.agg m.vals,.agg (Sx.snA s),.bool true] w2 (fun e w'=>∃ fa fc ka kc,e=.returned (.tuple #[.agg #[zI ru,.bool false,.slice fa ac.length fc,zU su,zI 0,zI 0],.agg #[zI st,.slice ka rg.length kc],zI 0])∧SlAt w' 6 fa fc ac∧ModL w' ⟨st,ka,kc,rg⟩∧yD w2 w') :=
   turn_lit ⟨0,ru,false,ac,su,0,st,rg⟩ hr1 HL2.out.1 HZ2.out.1 HL2.out.2 HZ2.out.2 HI.out HT2.out.1 HT2.out.2.1 HT2.out.2.2
  clear hr1 hr2 hac
  go_wp2_with (first | (refine wpList_load_row rfl 26 (.tmp 3) rfl g rfl 26 S.vals (0,0) _ H32.out.a Tryz.underlying26 rfl (size26 S) ?_) | (refine wpList_load_row rfl 29 (.tmp 4) rfl (g+1) rfl 29 m.vals (0,0) _ H32.out.b Tryz.underlying29 rfl (size29 m) ?_) | (refine wpList_load_row rfl 31 (.tmp 5) rfl (g+2) rfl 31 (Sx.snA s) (0,0) _ H32.out.c Tryz.underlying31 rfl (size31 s) ?_))
  refine c1.mono ?_
  rintro e w' ⟨fa,fc,ka,kc,rfl,hs,hm,hb1⟩
  obtain⟨hn3,hn4,hb2⟩:=two_new w' #[zI ru,.bool false,.slice fa ac.length fc,zU su,zI 0,zI 0] #[zI st,.slice ka rg.length kc] 59 29
  go_upto_region 6 with fail
  generalize (w'.alloc (.cells #[zI ru,.bool false,.slice fa ac.length fc,zU su,zI 0,zI 0] 59)).alloc (.cells #[zI st,.slice ka rg.length kc] 29)=W3 at hb2 hn3 hn4 ⊢
  generalize w'§=A at hn3 hn4 ⊢
  have hbb:=below2 hb1 hb2
  have HB3:Hid (yD w W3):=below2 HB2.out hbb
  have H33:Hid (Bx3 W3 S m s g):=H32.out.on hbb
  have HT3:Hid (Tab W3∧FTab W3∧Ety W3):=⟨HT2.out.1.on hbb,HT2.out.2.1.on hbb,HT2.out.2.2.on hbb⟩
  have HL3:Hid (StratL W3 S∧ModL W3 m):=⟨HL2.out.1.on hbb,HL2.out.2.on hbb⟩
  have HX3:Hid (W3.heap[A]? = (zC #[zI ru,.bool false,.slice fa ac.length fc,zU su,zI 0,zI 0] 59)):=hn3
  clear hs hm hb1 hb2 hn3 hn4 hbb c1
  have c2:Calls zG 20 #[.agg S.vals,.agg m.vals,.agg (Sx.snA s),.bool false] W3 (fun e w'=>∃ fa fc ka kc,e=.returned (.tuple #[.agg #[zI ru,.bool true,.slice fa 0 fc,zU 1,zI 0,zI 0],.agg #[zI m.st,.slice ka m.rg.length kc],zI 0])∧SlAt w' 6 fa fc []∧ModL w' ⟨m.st,ka,kc,m.rg⟩∧yD W3 w') :=
   turn_lit ⟨0,ru,true,[],1,0,m.st,m.rg⟩ HR2.out HL3.out.1 HZ2.out.1 HL3.out.2 HZ2.out.2 HI.out HT3.out.1 HT3.out.2.1 HT3.out.2.2
  go_wp2_with (first | (refine wpList_load_row rfl 26 (.tmp 3) rfl g rfl 26 S.vals (0,0) _ H33.out.a Tryz.underlying26 rfl (size26 S) ?_) | (refine wpList_load_row rfl 29 (.tmp 4) rfl (g+1) rfl 29 m.vals (0,0) _ H33.out.b Tryz.underlying29 rfl (size29 m) ?_) | (refine wpList_load_row rfl 31 (.tmp 5) rfl (g+2) rfl 31 (Sx.snA s) (0,0) _ H33.out.c Tryz.underlying31 rfl (size31 s) ?_))
  refine c2.mono ?_
  rintro e w' ⟨fb,fd,kb,kd,rfl,hs,hm,hb1⟩
  obtain⟨hn3,hn4,hb2⟩:=two_new w' #[zI ru,.bool true,.slice fb 0 fd,zU 1,zI 0,zI 0] #[zI m.st,.slice kb m.rg.length kd] 59 29
  go_upto_region 7 with fail
  generalize (w'.alloc (.cells #[zI ru,.bool true,.slice fb 0 fd,zU 1,zI 0,zI 0] 59)).alloc (.cells #[zI m.st,.slice kb m.rg.length kd] 29)=W4 at hb2 hn3 hn4 ⊢
  generalize w'§=B at hn3 hn4 ⊢
  have hbb:=below2 hb1 hb2
  have HB4:Hid (yD w W4):=below2 HB3.out hbb
  have H34:Hid (Bx3 W4 S m s g):=H33.out.on hbb
  have HT4:Hid (Tab W4∧FTab W4∧Ety W4):=⟨HT3.out.1.on hbb,HT3.out.2.1.on hbb,HT3.out.2.2.on hbb⟩
  have HL4:Hid (StratL W4 S∧ModL W4 m):=⟨HL3.out.1.on hbb,HL3.out.2.on hbb⟩
  have HX4:Hid (W4.heap[A]? = (zC #[zI ru,.bool false,.slice fa ac.length fc,zU su,zI 0,zI 0] 59)):=heapOf hbb HX3.out
  have HY4:Hid (W4.heap[B]? = (zC #[zI ru,.bool true,.slice fb 0 fd,zU 1,zI 0,zI 0] 59)∧W4.heap[B+1]? = (zC #[zI m.st,.slice kb m.rg.length kd] 29)∧ModL W4 ⟨m.st,kb,kd,m.rg⟩):=⟨hn3,hn4,hm.on hb2⟩
  clear hs hm hb1 hb2 hn3 hn4 hbb c2 HX3 HR2
  have c3:Calls zG 21 #[.agg #[zI m.st,.slice kb m.rg.length kd],.agg m.vals] W4 fun e w'=>e=.returned (.bool true)∧yD W4 w':=by
   have c:=sameMode_any ⟨m.st,kb,kd,m.rg⟩ m W4 HY4.out.2.2 HL4.out.2
   rw [decide_eq_true (by exact⟨rfl,rfl⟩)] at c
   exact c
  go_wp2_with (first | (refine wpList_load_row rfl 29 (.tmp 13) rfl (B+1) rfl 29 #[zI m.st,.slice kb m.rg.length kd] (0,0) _ HY4.out.2.1 Tryz.underlying29 rfl (size29v ..) ?_) | (refine wpList_load_row rfl 29 (.tmp 4) rfl (g+1) rfl 29 m.vals (0,0) _ H34.out.b Tryz.underlying29 rfl (size29 m) ?_))
  refine c3.mono ?_
  rintro e w5 ⟨rfl,hb⟩
  have HB5:Hid (yD w w5):=below2 HB4.out hb
  have hx:=heapOf hb HX4.out
  have hy:=heapOf hb HY4.out.1
  have x0:w5.cell? A¢0=some (zI ru):=cell_of hx 0
  have x1:w5.cell? A¢1=some (.bool false):=cell_of hx 1
  have x2:w5.cell? A¢2=some (.slice fa ac.length fc):=cell_of hx 2
  have y0:w5.cell? B¢0=some (zI ru):=cell_of hy 0
  have y1:w5.cell? B¢1=some (.bool true):=cell_of hy 1
  have y2:w5.cell? B¢2=some (.slice fb 0 fd):=cell_of hy 2
  have y3:w5.cell? B¢3=some (zU 1):=cell_of hy 3
  have y4:w5.cell? B¢4=some (zI 0):=cell_of hy 4
  have h0:=HAC.out
  have h0':(0:Int) < (ac.length:Int):=by omega
  clear hb hx hy c3 HX4 HY4
  go_wp2_with fail
  go_ret
  exact⟨rfl,HB5.out⟩
end Go.Proofs.YtfbjofnaghjmeaaGreatDoor
