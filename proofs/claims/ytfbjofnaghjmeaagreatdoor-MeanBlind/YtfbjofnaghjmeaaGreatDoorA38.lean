import Derived.Test.YtfbjofnaghjmeaaGreatDoorA0
import Derived.Test.YtfbjofnaghjmeaaGreatDoorA37
import Derived.Test.YtfbjofnaghjmeaaGreatDoorA6
import Derived.Test.YtfbjofnaghjmeaaGreatDoorA2
import Derived.Test.YtfbjofnaghjmeaaGreatDoorA19
namespace Go.Proofs.YtfbjofnaghjmeaaGreatDoor
set_option maxHeartbeats 16000000
set_option maxRecDepth 100000
open Go Go.RowKit
set_option linter.unusedVariables false
set_option linter.unusedSimpArgs false
theorem all26 (S:StratM):S.vals.all (·.oneCell')=true:=by simp [StratM.vals,Value.oneCell']
def strZ:Array Value:=zi
theorem slAt_no {w w':yW}{g n:Nat}{a:Option Addr}{c:Nat}{vs:List (Array Value)}(h:SlAt w n a c vs) (hno:∀ o K i,w.cell? g¢o≠some (.int K i)) (ho:∀ b,b≠g→w'.heap[b]? = w.heap[b]?) (hv:∀ v ∈ vs,∃ j K i,j < n∧v[j]? = some (.int K i)):SlAt w' n a c vs:=⟨h.1,h.2.1,fun i hi=>by
 obtain⟨b,o,ea,hat⟩:=h.2.2 i hi
 obtain⟨j,K,z,hj,hz⟩:=hv _ (List.getElem_mem hi)
 have hb:b≠g:=by rintro rfl; exact hno _ _ _ ((hat j hj).trans hz)
 refine⟨b,o,ea,fun j hj=>?_⟩
 rw [← hat j hj]
 unfold World.cell?
 simp only [ho b hb]⟩
theorem lies_no {w w':yW}{g:Nat}(hno:∀ o K i,w.cell? g¢o≠some (.int K i)) (ho:∀ b,b≠g→w'.heap[b]? = w.heap[b]?):∀ (m:Nd),Lies w m→Lies w' m:=by
 refine Nd.ind fun h a c ks ih hl=>?_
 refine .mk h a c ks hl.rg hl.cap hl.max (fun i hi=>?_) (fun k hk=>ih k hk (hl.sub k hk))
 obtain⟨b,o,ea,hat⟩:=hl.kid i hi
 refine⟨b,o,ea,?_⟩
 have hb:b≠g:=by rintro rfl; exact hno _ _ _ hat.c0
 have hc:∀ j,w'.cell? b¢j=w.cell? b¢j:=fun j=>by unfold World.cell?; simp only [ho b hb]
 exact⟨(hc _).trans hat.c0,(hc _).trans hat.c1,(hc _).trans hat.c2,(hc _).trans hat.c3,(hc _).trans hat.c4,(hc _).trans hat.c5,(hc _).trans hat.c6,(hc _).trans hat.c7⟩
theorem stratL_no {w w':yW}{g:Nat}{S:StratM}(hl:StratL w S) (hno:∀ o K i,w.cell? g¢o≠some (.int K i)) (ho:∀ b,b≠g→w'.heap[b]? = w.heap[b]?):StratL w' S:=by
 have L:=fun m h=>lies_no hno ho m h
 refine⟨slAt_no hl.1 hno ho (fun v hv=>?_),fun r hr=>⟨L _ (hl.2.1 r hr).1,(hl.2.1 r hr).2⟩,slAt_no hl.2.2.1 hno ho (fun v hv=>?_),hl.2.2.2.1,slAt_no hl.2.2.2.2.1 hno ho (fun v hv=>?_),fun X hX=>?_,hl.2.2.2.2.2.2⟩
 ·obtain⟨r,_,rfl⟩:=List.mem_map.1 hv
  exact⟨1,_,_,by omega,rfl⟩
 ·obtain⟨r,_,rfl⟩:=List.mem_map.1 hv
  exact⟨1,_,_,by omega,rfl⟩
 ·obtain⟨r,_,rfl⟩:=List.mem_map.1 hv
  exact⟨2,_,_,by omega,rfl⟩
 ·have h1:=hl.2.2.2.2.2.1 X hX
  refine⟨slAt_no h1.1 hno ho (fun v hv=>?_),fun r hr=>?_,h1.2.2⟩
  ·obtain⟨r,_,rfl⟩:=List.mem_map.1 hv
   exact⟨0,_,_,by omega,rfl⟩
  ·have h2:=h1.2.1 r hr
   refine⟨L _ h2.1,slAt_no h2.2.1 hno ho (fun v hv=>?_),fun d hd=>?_,h2.2.2.2⟩
   ·obtain⟨d,_,rfl⟩:=List.mem_map.1 hv
    exact⟨0,_,_,by omega,rfl⟩
   ·have h3:=h2.2.2.1 d hd
    exact⟨L _ h3.1,L _ h3.2.1,L _ h3.2.2.1,L _ h3.2.2.2.1,h3.2.2.2.2⟩
theorem strZ_no {w:yW}{g:Nat}(h:w.heap[g]? = (zC strZ 26)):∀ o K i,w.cell? g¢o≠some (.int K i):=fun o K i hc=>by
 have h1:w.cell? g¢o=strZ[o]?:=cell_of h o
 rw [h1] at hc
 have h2:=(zJ hc)
 obtain⟨ho,hv⟩:=h2
 have ho:o < 4:=ho
 have:o=0∨o=1∨o=2∨o=3:=by omega
 rcases this with rfl | rfl | rfl | rfl <;> cases hv
theorem sample_any (w:yW):Calls zG 25 #[] w fun e w'=>∃ m:StratM,e=.returned (.agg m.vals)∧m.tr=sS∧StratL w' m∧yD w w':=by
 have b1:=below_new w (.cells strZ 26)
 have n1:=heap_new w (.cells strZ 26)
 obtain⟨W,eW⟩:∃ W,w.alloc (.cells strZ 26)=W:=⟨_,rfl⟩
 have EW:Hid (w.alloc (.cells strZ 26)=W):=eW
 rw [eW] at b1 n1
 obtain⟨g,eg⟩:∃ g,w§=g:=⟨_,rfl⟩
 have HG:Hid (w§=g):=eg
 rw [eg] at n1
 have HB:Hid (yD w W):=b1
 have HN:Hid (W.heap[g]? = (zC strZ 26)):=n1
 clear b1 n1 eW eg
 go_enter Tryz.func25,Tryz.ntmps25
 go_upto_region 1 with fail
 rw [show w.alloc (.cells zi 26)=W from EW.out,HG.out]
 clear EW
 go_wp2_with fail
 refine (strat_l (s:=txS) (by decide) pS1 W).mono ?_
 rintro e w1 ⟨m,rfl,htr,hls,hb1⟩
 have HB1:Hid (yD w w1):=below2 HB.out hb1
 have HN1:Hid (w1.heap[g]? = (zC strZ 26)):=heapOf hb1 HN.out
 have b2:=below_new w1 (.cells #[.string m.x,.slice m.ra m.rs.length m.rc,.slice m.sa m.ss.length m.sc,.slice m.ta m.ts.length m.tc] 26)
 have n2:=heap_new w1 (.cells #[.string m.x,.slice m.ra m.rs.length m.rc,.slice m.sa m.ss.length m.sc,.slice m.ta m.ts.length m.tc] 26)
 have b3:=below_new (w1.alloc (.cells #[.string m.x,.slice m.ra m.rs.length m.rc,.slice m.sa m.ss.length m.sc,.slice m.ta m.ts.length m.tc] 26)) (.cells zn 123)
 have n2':=heapOf b3 n2
 obtain⟨W3,e3⟩:∃ W,(w1.alloc (.cells #[.string m.x,.slice m.ra m.rs.length m.rc,.slice m.sa m.ss.length m.sc,.slice m.ta m.ts.length m.tc] 26)).alloc (.cells zn 123)=W:=⟨_,rfl⟩
 have E3:Hid ((w1.alloc (.cells #[.string m.x,.slice m.ra m.rs.length m.rc,.slice m.sa m.ss.length m.sc,.slice m.ta m.ts.length m.tc] 26)).alloc (.cells zn 123)=W3):=e3
 rw [e3] at b3 n2'
 have hb13:=below2 b2 b3
 obtain⟨A,eA⟩:∃ A,w1§=A:=⟨_,rfl⟩
 have HAG:Hid (w1§=A):=eA
 have HB3:Hid (yD w W3):=below2 HB1.out hb13
 have HN3:Hid (W3.heap[g]? = (zC strZ 26)∧W3.heap[A]? = (zC m.vals 26)):=⟨heapOf hb13 HN1.out,by rw [← eA]; exact n2'⟩
 have HL:Hid (m.tr=sS∧StratL W3 m):=⟨htr,hls.on hb13⟩
 clear b2 n2 b3 n2' e3 hb13 eA htr hls hb1
 unfold StratM.vals
 go_upto_region 2 with fail
 rw [E3.out,HAG.out]
 clear E3
 go_wp2_with (first | (refine wpList_load_row rfl 26 (.tmp 1) rfl A rfl 26 m.vals (0,0) _ HN3.out.2 Tryz.underlying26 rfl (size26 m) ?_) | (refine wpList_store_row rfl 26 (.tmp 0) (.tmp 7) rfl g m.vals rfl rfl 26 strZ HN3.out.1 (size26 m) rfl (all26 m) ?_))
 refine bodyPost_ret (results_cell_row rfl _ _ g 26 m.vals (0,0) _ rfl (setRow_heap _ _ _ _ _ _ HN3.out.1) Tryz.underlying26 rfl (size26 m)) rfl ?_
 have hbf:=below_row HB3.out (Nat.le_of_eq HG.out) m.vals
 exact⟨m,rfl,HL.out.1,stratL_no HL.out.2 (strZ_no HN3.out.1) (fun b hb=>setRow_other _ _ _ _ hb),hbf⟩
theorem two_new (w:yW) (x y:Array Value) (t u:TypeId):((w.alloc (.cells x t)).alloc (.cells y u)).heap[w§]? = (zC x t)∧((w.alloc (.cells x t)).alloc (.cells y u)).heap[w§+1]? = (zC y u)∧yD w ((w.alloc (.cells x t)).alloc (.cells y u)):=by
 have h1:=below_new w (.cells x t)
 have h2:=below_new (w.alloc (.cells x t)) (.cells y u)
 have h3:=heap_new w (.cells x t)
 have h4:=heap_new (w.alloc (.cells x t)) (.cells y u)
 rw [size_alloc] at h4
 exact⟨heapOf h2 h3,h4,below2 h1 h2⟩
theorem mode1 {w:yW}{st:Int}{ka:Option Addr}{kc:Nat}{v:Int}(h:ModL w ⟨st,ka,kc,[v]⟩):∃ b o,ka=some b¢o∧w.cell? b¢o=some (zI v):=by
 obtain⟨b,o,ea,hc⟩:=modL_at h (i:=0) (show 0 < [v].length by simp)
 exact⟨b,o,ea,hc⟩
theorem start_one {S:StratM}{w:yW}{v:Int}(hr:startN S=(0,[v])) (hl:StratL w S) (hz:StratZ S) (ht:Tab w) (hf:FTab w) (hg:Ety w):Calls zG 26 #[.agg S.vals] w fun e w'=>∃ b o c,e=.returned (.tuple #[.agg #[zI 0,.slice (some b¢o) 1 c],zI 0])∧w'.cell? b¢o=some (zI v)∧ModL w' ⟨0,some b¢o,c,[v]⟩∧yD w w':=by
 refine (mstart_any S w hl hz ht hf hg).mono ?_
 rintro e w' ⟨ka,kc,he,hm,hb⟩
 rw [hr] at he hm
 obtain⟨b,o,rfl,hc⟩:=mode1 hm
 exact⟨b,o,kc,he,hc,hm,hb⟩
theorem turn_nil {S:StratM}{m:ModM}{s:Sx.Sn}{gr:Bool}{w:yW}{ru su co st v:Int}{rf:Bool}(hr:turnN S m s gr=⟨0,ru,rf,[],su,co,st,[v]⟩) (hl:StratL w S) (hz:StratZ S) (hm:ModL w m) (hn:m.rg.length≤65536) (hi:∀ f,I64 (Sx.getN s f)) (ht:Tab w) (hf:FTab w) (hg:Ety w) :
  Calls zG 20 #[.agg S.vals,.agg m.vals,.agg (Sx.snA s),.bool gr] w fun e w'=>∃ fa fc b o c,e=.returned (.tuple #[.agg #[zI ru,.bool rf,.slice fa 0 fc,zU su,zI co,zI 0],.agg #[zI st,.slice (some b¢o) 1 c],zI 0])∧w'.cell? b¢o=some (zI v)∧yD w w':=by
 refine (turn_any S m s gr w hl hz hm hn hi ht hf hg).mono ?_
 rintro e w' ⟨fa,fc,ka,kc,he,_,hm,hb⟩
 rw [hr] at he hm
 obtain⟨b,o,rfl,hc⟩:=mode1 hm
 exact⟨fa,fc,b,o,kc,he,hc,hb⟩
theorem turn_act {S:StratM}{m:ModM}{s:Sx.Sn}{gr:Bool}{w:yW}{ru su co st v k o s1 p n l:Int}{rf:Bool}(hr:turnN S m s gr=⟨0,ru,rf,[acA k o s1 p n l],su,co,st,[v]⟩) (hl:StratL w S) (hz:StratZ S) (hm:ModL w m) (hn:m.rg.length≤65536) (hi:∀ f,I64 (Sx.getN s f)) (ht:Tab w) (hf:FTab w) (hg:Ety w) :
  Calls zG 20 #[.agg S.vals,.agg m.vals,.agg (Sx.snA s),.bool gr] w fun e w'=>∃ fb fo fc b j c,e=.returned (.tuple #[.agg #[zI ru,.bool rf,.slice (some fb¢fo) 1 fc,zU su,zI co,zI 0],.agg #[zI st,.slice (some b¢j) 1 c],zI 0])∧(∀ i,i < 6→w'.cell? ⟨fb,fo+i,none⟩=(acA k o s1 p n l)[i]?)∧w'.cell? b¢j=some (zI v)∧yD w w':=by
 refine (turn_any S m s gr w hl hz hm hn hi ht hf hg).mono ?_
 rintro e w' ⟨fa,fc,ka,kc,he,hs,hm,hb⟩
 rw [hr] at he hm hs
 obtain⟨b,j,rfl,hc⟩:=mode1 hm
 obtain⟨fb,fo,ea,hat⟩:=hs.2.2 0 (show 0 < [acA k o s1 p n l].length by simp)
 have ea:fa=some fb¢fo:=ea
 subst ea
 exact⟨fb,fo,fc,b,j,kc,he,fun i hi=>by have:=hat i hi; rw [Nat.zero_mul,Nat.add_zero] at this; exact this,hc,hb⟩
theorem row_on {w w':yW}{b o n:Nat}{A:Array Value}(h:∀ i,i < n→w.cell? ⟨b,o+i,none⟩=A[i]?) (k:yD w w') (hA:A.size=n:=by rfl):∀ i,i < n→w'.cell? ⟨b,o+i,none⟩=A[i]?:=fun i hi=>by
 have h1:=h i hi
 rw [Array.getElem?_eq_getElem (by omega)] at h1 ⊢
 exact cell_on h1 k
theorem sn9_i64:∀ f,I64 (Sx.getN ⟨9,0,0,0,0,0⟩ f):=fun f=>by
 unfold Sx.getN I64
 split
 ·decide
 simp only [ite_self]
 decide
theorem awake_any (w:yW) (ht:Tab w) (hf:FTab w) (hg:Ety w):Calls zG 8 #[] w fun e w'=>e=.returned (.bool true)∧yD w w':=by
 have HT:Hid (Tab w∧FTab w∧Ety w):=⟨ht,hf,hg⟩
 clear ht hf hg
 go_enter Tryz.func8,Tryz.ntmps8
 go_wp2_with fail
 refine (sample_any w).mono ?_
 rintro e w1 ⟨S,rfl,htr,hls,hb1⟩
 have hbs:bStr S=sT sS:=by rw [bStr_tr,htr]
 have HS:Hid (startN S=(0,[2])∧StratZ S∧∀ md s g,turnN S md s g=turnN (sT sS) md s g):=⟨by rw [← startN_b,hbs]; exact stS,zB_z (by rw [← zB_b,hbs]; exact zBS),fun md s g=>by rw [← turnN_b,hbs]⟩
 have hb2:=below_new w1 (.cells #[.string S.x,.slice S.ra S.rs.length S.rc,.slice S.sa S.ss.length S.sc,.slice S.ta S.ts.length S.tc] 26)
 have hn2:=heap_new w1 (.cells #[.string S.x,.slice S.ra S.rs.length S.rc,.slice S.sa S.ss.length S.sc,.slice S.ta S.ts.length S.tc] 26)
 unfold StratM.vals
 go_upto_region 2 with fail
 generalize w1.alloc (.cells #[.string S.x,.slice S.ra S.rs.length S.rc,.slice S.sa S.ss.length S.sc,.slice S.ta S.ts.length S.tc] 26)=W1 at hb2 hn2 ⊢
 generalize w1§=A1 at hn2 ⊢
 have HW1:Hid (yD w W1):=below2 hb1 hb2
 have HSL:Hid (StratL W1 S):=hls.on hb2
 have HA1:Hid (W1.heap[A1]? = (zC S.vals 26)):=hn2
 clear htr hls hbs hb1 hb2 hn2
 have cS:=start_one HS.out.1 HSL.out HS.out.2.1 (HT.out.1.on HW1.out) (HT.out.2.1.on HW1.out) (HT.out.2.2.on HW1.out)
 go_wp2_with (refine wpList_load_row rfl 26 (.tmp 1) rfl A1 rfl 26 S.vals (0,0) _ HA1.out Tryz.underlying26 rfl (size26 S) ?_)
 refine cS.mono ?_
 rintro e w2 ⟨mb,mo,mc,rfl,hme,hm,hb1⟩
 have hb2:=below_new w2 (.cells #[zI 0,.slice (some mb¢mo) 1 mc] 29)
 have hn2:=heap_new w2 (.cells #[zI 0,.slice (some mb¢mo) 1 mc] 29)
 go_upto_region 3 with fail
 generalize w2.alloc (.cells #[zI 0,.slice (some mb¢mo) 1 mc] 29)=W2 at hb2 hn2 ⊢
 generalize w2§=A2 at hn2 ⊢
 have hbb:=below2 hb1 hb2
 have HW2:Hid (yD w W2):=below2 HW1.out hbb
 replace HSL:Hid (StratL W2 S):=HSL.out.on hbb
 replace HA1:Hid (W2.heap[A1]? = (zC S.vals 26)):=heapOf hbb HA1.out
 have HA2:Hid (W2.heap[A2]? = (zC (ModM.mk 0 (some mb¢mo) mc [2]).vals 29)):=hn2
 have HM2:Hid (ModL W2 ⟨0,some mb¢mo,mc,[2]⟩):=hm.on hb2
 have HE2:Hid (W2.cell? mb¢mo=some (zI 2)):=cell_on hme hb2
 clear hme hm hb1 hb2 hn2 hbb cS HW1
 have c1:Calls zG 20 #[.agg S.vals,.agg (ModM.mk 0 (some mb¢mo) mc [2]).vals,.agg #[zI 9,zI 0,zI 0,zI 0,zI 0,zI 0],.bool true] W2 (fun e w'=>∃ fb fo fc b j c,e=.returned (.tuple #[.agg #[zI 0,.bool false,.slice (some fb¢fo) 1 fc,zU 1,zI 0,zI 0],.agg #[zI 1,.slice (some b¢j) 1 c],zI 0])∧(∀ i,i < 6→w'.cell? ⟨fb,fo+i,none⟩=(acA 1 5 1 8 2 1)[i]?)∧w'.cell? b¢j=some (zI 3)∧yD W2 w') :=
  turn_act (s:=⟨9,0,0,0,0,0⟩) ((HS.out.2.2 _ _ _).trans (tu1 _ _)) HSL.out HS.out.2.1 HM2.out (show [2].length≤65536 by decide) sn9_i64 (HT.out.1.on HW2.out) (HT.out.2.1.on HW2.out) (HT.out.2.2.on HW2.out)
 go_wp2_with (first | (refine wpList_load_row rfl 26 (.tmp 1) rfl A1 rfl 26 S.vals (0,0) _ HA1.out Tryz.underlying26 rfl (size26 S) ?_) | (refine wpList_load_row rfl 29 (.tmp 2) rfl A2 rfl 29 (ModM.mk 0 (some mb¢mo) mc [2]).vals (0,0) _ HA2.out Tryz.underlying29 rfl (size29 _) ?_))
 refine c1.mono ?_
 rintro e w3 ⟨fb,fo,fc,xb,xo,xc,rfl,hf,hx,hb1⟩
 obtain⟨hn3,hn4,hb2⟩:=two_new w3 #[zI 0,.bool false,.slice (some fb¢fo) 1 fc,zU 1,zI 0,zI 0] #[zI 1,.slice (some xb¢xo) 1 xc] 59 29
 go_upto_region 4 with fail
 generalize (w3.alloc (.cells #[zI 0,.bool false,.slice (some fb¢fo) 1 fc,zU 1,zI 0,zI 0] 59)).alloc (.cells #[zI 1,.slice (some xb¢xo) 1 xc] 29)=W3 at hb2 hn3 hn4 ⊢
 generalize w3§=A3 at hn3 hn4 ⊢
 have hbb:=below2 hb1 hb2
 have HW3:Hid (yD w W3):=below2 HW2.out hbb
 replace HSL:Hid (StratL W3 S):=HSL.out.on hbb
 replace HA1:Hid (W3.heap[A1]? = (zC S.vals 26)):=heapOf hbb HA1.out
 replace HA2:Hid (W3.heap[A2]? = (zC (ModM.mk 0 (some mb¢mo) mc [2]).vals 29)):=heapOf hbb HA2.out
 replace HM2:Hid (ModL W3 ⟨0,some mb¢mo,mc,[2]⟩):=HM2.out.on hbb
 replace HE2:Hid (W3.cell? mb¢mo=some (zI 2)):=cell_on HE2.out hbb
 have HA3:Hid (W3.heap[A3]? = (zC #[zI 0,.bool false,.slice (some fb¢fo) 1 fc,zU 1,zI 0,zI 0] 59)):=hn3
 have HA4:Hid (W3.heap[A3+1]? = (zC #[zI 1,.slice (some xb¢xo) 1 xc] 29)):=hn4
 have HE3:Hid (W3.cell? xb¢xo=some (zI 3)):=cell_on hx hb2
 have HR3:Hid (∀ i,i < 6→W3.cell? ⟨fb,fo+i,none⟩=(acA 1 5 1 8 2 1)[i]?):=row_on hf hb2
 clear hf hx hb1 hb2 hn3 hn4 hbb c1 HW2
 have c1:Calls zG 20 #[.agg S.vals,.agg (ModM.mk 0 (some mb¢mo) mc [2]).vals,.agg zh,.bool false] W3 (fun e w'=>∃ fa fc b j c,e=.returned (.tuple #[.agg #[zI 1,.bool false,.slice fa 0 fc,zU 2,zI 0,zI 0],.agg #[zI 0,.slice (some b¢j) 1 c],zI 0])∧w'.cell? b¢j=some (zI 2)∧yD W3 w') :=
  turn_nil (s:=Sx.sn0) ((HS.out.2.2 _ _ _).trans (tu2 _ _)) HSL.out HS.out.2.1 HM2.out (show [2].length≤65536 by decide) sn0_i64 (HT.out.1.on HW3.out) (HT.out.2.1.on HW3.out) (HT.out.2.2.on HW3.out)
 go_wp2_with (first | (refine wpList_load_row rfl 26 (.tmp 1) rfl A1 rfl 26 S.vals (0,0) _ HA1.out Tryz.underlying26 rfl (size26 S) ?_) | (refine wpList_load_row rfl 29 (.tmp 2) rfl A2 rfl 29 (ModM.mk 0 (some mb¢mo) mc [2]).vals (0,0) _ HA2.out Tryz.underlying29 rfl (size29 _) ?_))
 refine c1.mono ?_
 rintro e w4 ⟨ga,gc,yb,yo,yc,rfl,hx,hb1⟩
 obtain⟨hn3,hn4,hb2⟩:=two_new w4 #[zI 1,.bool false,.slice ga 0 gc,zU 2,zI 0,zI 0] #[zI 0,.slice (some yb¢yo) 1 yc] 59 29
 go_upto_region 5 with fail
 generalize (w4.alloc (.cells #[zI 1,.bool false,.slice ga 0 gc,zU 2,zI 0,zI 0] 59)).alloc (.cells #[zI 0,.slice (some yb¢yo) 1 yc] 29)=W4 at hb2 hn3 hn4 ⊢
 generalize w4§=A5 at hn3 hn4 ⊢
 have hbb:=below2 hb1 hb2
 have HW4:Hid (yD w W4):=below2 HW3.out hbb
 replace HSL:Hid (StratL W4 S):=HSL.out.on hbb
 replace HA1:Hid (W4.heap[A1]? = (zC S.vals 26)):=heapOf hbb HA1.out
 replace HA2:Hid (W4.heap[A2]? = (zC (ModM.mk 0 (some mb¢mo) mc [2]).vals 29)):=heapOf hbb HA2.out
 replace HM2:Hid (ModL W4 ⟨0,some mb¢mo,mc,[2]⟩):=HM2.out.on hbb
 replace HE2:Hid (W4.cell? mb¢mo=some (zI 2)):=cell_on HE2.out hbb
 replace HA3:Hid (W4.heap[A3]? = (zC #[zI 0,.bool false,.slice (some fb¢fo) 1 fc,zU 1,zI 0,zI 0] 59)):=heapOf hbb HA3.out
 replace HA4:Hid (W4.heap[A3+1]? = (zC #[zI 1,.slice (some xb¢xo) 1 xc] 29)):=heapOf hbb HA4.out
 replace HE3:Hid (W4.cell? xb¢xo=some (zI 3)):=cell_on HE3.out hbb
 replace HR3:Hid (∀ i,i < 6→W4.cell? ⟨fb,fo+i,none⟩=(acA 1 5 1 8 2 1)[i]?):=row_on HR3.out hbb
 have HA5:Hid (W4.heap[A5]? = (zC #[zI 1,.bool false,.slice ga 0 gc,zU 2,zI 0,zI 0] 59)):=hn3
 have HA6:Hid (W4.heap[A5+1]? = (zC #[zI 0,.slice (some yb¢yo) 1 yc] 29)):=hn4
 clear hx hb1 hb2 hn3 hn4 hbb c1 HW3
 have HA1W:Hid (W4.heap[A1]? = (zC S.vals 26)):=HA1.out
 have hb1:=below_new W4 (.cells #[zI 0] 2)
 have hn1:=heap_new W4 (.cells #[zI 0] 2)
 obtain⟨V,eV⟩:∃ V,W4.alloc (.cells #[zI 0] 2)=V:=⟨_,rfl⟩
 have EV:Hid (W4.alloc (.cells #[zI 0] 2)=V):=eV
 rw [eV] at hb1 hn1
 obtain⟨Q,eQ⟩:∃ Q,W4§=Q:=⟨_,rfl⟩
 have EQ:Hid (W4§=Q):=eQ
 rw [eQ] at hn1
 have HWV:Hid (yD w V):=below2 HW4.out hb1
 have HMV:Hid (ModL V ⟨0,some Q¢0,1,[0]⟩):=⟨rowl_of (rg:=[0]) hn1 (by decide),fun v hv=>by obtain rfl:=List.mem_singleton.1 hv; unfold I64; omega,by show I64 0; unfold I64; omega⟩
 replace HSL:Hid (StratL V S):=HSL.out.on hb1
 replace HA1:Hid (V.heap[A1]? = (zC S.vals 26)):=heapOf hb1 HA1.out
 replace HA2:Hid (V.heap[A2]? = (zC (ModM.mk 0 (some mb¢mo) mc [2]).vals 29)):=heapOf hb1 HA2.out
 replace HM2:Hid (ModL V ⟨0,some mb¢mo,mc,[2]⟩):=HM2.out.on hb1
 replace HE2:Hid (V.cell? mb¢mo=some (zI 2)):=cell_on HE2.out hb1
 replace HA3:Hid (V.heap[A3]? = (zC #[zI 0,.bool false,.slice (some fb¢fo) 1 fc,zU 1,zI 0,zI 0] 59)):=heapOf hb1 HA3.out
 replace HA4:Hid (V.heap[A3+1]? = (zC #[zI 1,.slice (some xb¢xo) 1 xc] 29)):=heapOf hb1 HA4.out
 replace HE3:Hid (V.cell? xb¢xo=some (zI 3)):=cell_on HE3.out hb1
 replace HR3:Hid (∀ i,i < 6→V.cell? ⟨fb,fo+i,none⟩=(acA 1 5 1 8 2 1)[i]?):=row_on HR3.out hb1
 replace HA5:Hid (V.heap[A5]? = (zC #[zI 1,.bool false,.slice ga 0 gc,zU 2,zI 0,zI 0] 59)):=heapOf hb1 HA5.out
 replace HA6:Hid (V.heap[A5+1]? = (zC #[zI 0,.slice (some yb¢yo) 1 yc] 29)):=heapOf hb1 HA6.out
 have c1:Calls zG 20 #[.agg S.vals,.agg #[zI 0,.slice (some Q¢0) 1 1],.agg zh,.bool true] V (fun e w'=>∃ fa fc b j c,e=.returned (.tuple #[.agg #[zI (-1),.bool false,.slice fa 0 fc,zU 3,zI 11,zI 0],.agg #[zI 0,.slice (some b¢j) 1 c],zI 0])∧w'.cell? b¢j=some (zI 0)∧yD V w') :=
  turn_nil (m:=⟨0,some Q¢0,1,[0]⟩) (s:=Sx.sn0) ((HS.out.2.2 _ _ _).trans (tu3 _ _)) HSL.out HS.out.2.1 HMV.out (show [0].length≤65536 by decide) sn0_i64 (HT.out.1.on HWV.out) (HT.out.2.1.on HWV.out) (HT.out.2.2.on HWV.out)
 clear hb1 hn1 eV eQ
 go_wp2_with (first | (refine wpList_load_row rfl 26 (.tmp 1) rfl A1 rfl 26 S.vals (0,0) _ HA1W.out Tryz.underlying26 rfl (size26 S) ?_))
 rw [EV.out,EQ.out]
 clear EV EQ HA1W
 refine c1.mono ?_
 rintro e w5 ⟨ha,hc,zb,zo,zc,rfl,hx,hb1⟩
 obtain⟨hn3,hn4,hb2⟩:=two_new w5 #[zI (-1),.bool false,.slice ha 0 hc,zU 3,zI 11,zI 0] #[zI 0,.slice (some zb¢zo) 1 zc] 59 29
 go_upto_region 6 with fail
 generalize (w5.alloc (.cells #[zI (-1),.bool false,.slice ha 0 hc,zU 3,zI 11,zI 0] 59)).alloc (.cells #[zI 0,.slice (some zb¢zo) 1 zc] 29)=W5 at hb2 hn3 hn4 ⊢
 generalize w5§=A7 at hn3 hn4 ⊢
 have hbb:=below2 hb1 hb2
 have HW5:Hid (yD w W5):=below2 HWV.out hbb
 replace HSL:Hid (StratL W5 S):=HSL.out.on hbb
 replace HA1:Hid (W5.heap[A1]? = (zC S.vals 26)):=heapOf hbb HA1.out
 replace HA2:Hid (W5.heap[A2]? = (zC (ModM.mk 0 (some mb¢mo) mc [2]).vals 29)):=heapOf hbb HA2.out
 replace HM2:Hid (ModL W5 ⟨0,some mb¢mo,mc,[2]⟩):=HM2.out.on hbb
 replace HE2:Hid (W5.cell? mb¢mo=some (zI 2)):=cell_on HE2.out hbb
 replace HA3:Hid (W5.heap[A3]? = (zC #[zI 0,.bool false,.slice (some fb¢fo) 1 fc,zU 1,zI 0,zI 0] 59)):=heapOf hbb HA3.out
 replace HA4:Hid (W5.heap[A3+1]? = (zC #[zI 1,.slice (some xb¢xo) 1 xc] 29)):=heapOf hbb HA4.out
 replace HE3:Hid (W5.cell? xb¢xo=some (zI 3)):=cell_on HE3.out hbb
 replace HR3:Hid (∀ i,i < 6→W5.cell? ⟨fb,fo+i,none⟩=(acA 1 5 1 8 2 1)[i]?):=row_on HR3.out hbb
 replace HA5:Hid (W5.heap[A5]? = (zC #[zI 1,.bool false,.slice ga 0 gc,zU 2,zI 0,zI 0] 59)):=heapOf hbb HA5.out
 replace HA6:Hid (W5.heap[A5+1]? = (zC #[zI 0,.slice (some yb¢yo) 1 yc] 29)):=heapOf hbb HA6.out
 have HA7:Hid (W5.heap[A7]? = (zC #[zI (-1),.bool false,.slice ha 0 hc,zU 3,zI 11,zI 0] 59)):=hn3
 clear hx hb1 hb2 hn3 hn4 hbb c1 HW4 HWV HMV
 have hb1:=below_new W5 (.cells #[zU 1,zU 5,zU 1,zI 8,zI 2,zI 1] 79)
 have hn1:=heap_new W5 (.cells #[zU 1,zU 5,zU 1,zI 8,zI 2,zI 1] 79)
 go_upto_region 7 with fail
 generalize W5.alloc (.cells #[zU 1,zU 5,zU 1,zI 8,zI 2,zI 1] 79)=W6 at hb1 hn1 ⊢
 generalize W5§=A9 at hn1 ⊢
 have HW6:Hid (yD w W6):=below2 HW5.out hb1
 replace HSL:Hid (StratL W6 S):=HSL.out.on hb1
 replace HA1:Hid (W6.heap[A1]? = (zC S.vals 26)):=heapOf hb1 HA1.out
 replace HA2:Hid (W6.heap[A2]? = (zC (ModM.mk 0 (some mb¢mo) mc [2]).vals 29)):=heapOf hb1 HA2.out
 replace HM2:Hid (ModL W6 ⟨0,some mb¢mo,mc,[2]⟩):=HM2.out.on hb1
 replace HE2:Hid (W6.cell? mb¢mo=some (zI 2)):=cell_on HE2.out hb1
 replace HA3:Hid (W6.heap[A3]? = (zC #[zI 0,.bool false,.slice (some fb¢fo) 1 fc,zU 1,zI 0,zI 0] 59)):=heapOf hb1 HA3.out
 replace HA4:Hid (W6.heap[A3+1]? = (zC #[zI 1,.slice (some xb¢xo) 1 xc] 29)):=heapOf hb1 HA4.out
 replace HE3:Hid (W6.cell? xb¢xo=some (zI 3)):=cell_on HE3.out hb1
 replace HR3:Hid (∀ i,i < 6→W6.cell? ⟨fb,fo+i,none⟩=(acA 1 5 1 8 2 1)[i]?):=row_on HR3.out hb1
 replace HA5:Hid (W6.heap[A5]? = (zC #[zI 1,.bool false,.slice ga 0 gc,zU 2,zI 0,zI 0] 59)):=heapOf hb1 HA5.out
 replace HA6:Hid (W6.heap[A5+1]? = (zC #[zI 0,.slice (some yb¢yo) 1 yc] 29)):=heapOf hb1 HA6.out
 replace HA7:Hid (W6.heap[A7]? = (zC #[zI (-1),.bool false,.slice ha 0 hc,zU 3,zI 11,zI 0] 59)):=heapOf hb1 HA7.out
 have HA9:Hid (W6.heap[A9]? = (zC #[zU 1,zU 5,zU 1,zI 8,zI 2,zI 1] 79)):=hn1
 clear hn1 hb1 HW5
 have ha2_0:W6.cell? A2¢0=some (zI 0):=cell_of HA2.out 0
 have ha2_1:W6.cell? A2¢1=some (.slice (some mb¢mo) 1 mc):=cell_of HA2.out 1
 have ha3_0:W6.cell? A3¢0=some (zI 0):=cell_of HA3.out 0
 have ha3_1:W6.cell? A3¢1=some (.bool false):=cell_of HA3.out 1
 have ha3_2:W6.cell? A3¢2=some (.slice (some fb¢fo) 1 fc):=cell_of HA3.out 2
 have ha3_3:W6.cell? A3¢3=some (zU 1):=cell_of HA3.out 3
 have ha3_4:W6.cell? A3¢4=some (zI 0):=cell_of HA3.out 4
 have ha3_5:W6.cell? A3¢5=some (zI 0):=cell_of HA3.out 5
 have ha4_0:W6.cell? ⟨A3+1,0,none⟩=some (zI 1):=cell_of HA4.out 0
 have ha4_1:W6.cell? ⟨A3+1,1,none⟩=some (.slice (some xb¢xo) 1 xc):=cell_of HA4.out 1
 have ha5_0:W6.cell? A5¢0=some (zI 1):=cell_of HA5.out 0
 have ha5_1:W6.cell? A5¢1=some (.bool false):=cell_of HA5.out 1
 have ha5_2:W6.cell? A5¢2=some (.slice ga 0 gc):=cell_of HA5.out 2
 have ha5_3:W6.cell? A5¢3=some (zU 2):=cell_of HA5.out 3
 have ha5_4:W6.cell? A5¢4=some (zI 0):=cell_of HA5.out 4
 have ha5_5:W6.cell? A5¢5=some (zI 0):=cell_of HA5.out 5
 have ha6_0:W6.cell? ⟨A5+1,0,none⟩=some (zI 0):=cell_of HA6.out 0
 have ha6_1:W6.cell? ⟨A5+1,1,none⟩=some (.slice (some yb¢yo) 1 yc):=cell_of HA6.out 1
 have ha7_0:W6.cell? A7¢0=some (zI (-1)):=cell_of HA7.out 0
 have ha7_1:W6.cell? A7¢1=some (.bool false):=cell_of HA7.out 1
 have ha7_2:W6.cell? A7¢2=some (.slice ha 0 hc):=cell_of HA7.out 2
 have ha7_3:W6.cell? A7¢3=some (zU 3):=cell_of HA7.out 3
 have ha7_4:W6.cell? A7¢4=some (zI 11):=cell_of HA7.out 4
 have ha7_5:W6.cell? A7¢5=some (zI 0):=cell_of HA7.out 5
 have ha9_0:W6.cell? A9¢0=some (zU 1):=cell_of HA9.out 0
 have ha9_1:W6.cell? A9¢1=some (zU 5):=cell_of HA9.out 1
 have ha9_2:W6.cell? A9¢2=some (zU 1):=cell_of HA9.out 2
 have ha9_3:W6.cell? A9¢3=some (zI 8):=cell_of HA9.out 3
 have ha9_4:W6.cell? A9¢4=some (zI 2):=cell_of HA9.out 4
 have ha9_5:W6.cell? A9¢5=some (zI 1):=cell_of HA9.out 5
 have e2:=HE2.out
 have e3:=HE3.out
 have r0:W6.cell? ⟨fb,fo+0,none⟩=some (zU 1):=HR3.out 0 (by omega)
 have r1:W6.cell? ⟨fb,fo+1,none⟩=some (zU 5):=HR3.out 1 (by omega)
 have r2:W6.cell? ⟨fb,fo+2,none⟩=some (zU 1):=HR3.out 2 (by omega)
 have r3:W6.cell? ⟨fb,fo+3,none⟩=some (zI 8):=HR3.out 3 (by omega)
 have r4:W6.cell? ⟨fb,fo+4,none⟩=some (zI 2):=HR3.out 4 (by omega)
 have r5:W6.cell? ⟨fb,fo+5,none⟩=some (zI 1):=HR3.out 5 (by omega)
 simp only [Nat.add_zero] at r0
 go_upto_region 9 with fail
 go_quiet (fail)
 go_wp2_with fail
 go_ret
 exact⟨rfl,bdn HW6.out⟩
mutual
def wt:Nd→Nat
 | .mk h _ _ ks=>1+h.x.size+wts ks
def wts:List Nd→Nat
 | []=>0
 | k :: ks=>wt k+wts ks
end
theorem size_wt:∀ m,size m≤wt m:=by
 refine Nd.ind fun h a c ks ih=>?_
 have:∀ l:List Nd,(∀ k ∈ l,size k≤wt k)→sizes l≤wts l:=by
  intro l
  induction l with
  | nil=>intro _; exact Nat.le_refl _
  | cons k l ihl=>intro hl; simp only [sizes,wts]; have h1:=hl k (by simp); have h2:=ihl fun x hx=>hl x (by simp [hx]); omega
 simp only [size,wt]
 have:=this ks ih
 omega
mutual
def wgE:Nd→Int→Int→Int
 | .mk h _ _ ks,n,d=>if d > 60000 then 1048577 else wgL ks (n+1+(h.x.size:Int)) (d+1)
def wgL:List Nd→Int→Int→Int
 | [],n,_=>n
 | k :: ks,n,d=>if n≤1048576 then wgL ks (wgE k n d) d else n
end
theorem wgE_mk (h:Hd) (a:Option Addr) (c:Nat) (ks:List Nd) (n d:Int):wgE (.mk h a c ks) n d=if d > 60000 then 1048577 else wgL ks (n+1+(h.x.size:Int)) (d+1):=by rw [wgE]
def WB (m:Nd):Prop:=∀ n d:Int,0≤n→0≤wgE m n d∧(wgE m n d≤n+140737488355329∨wgE m n d≤140737489403906)∧(wgE m n d≤1048576→wgE m n d=n+wt m)
theorem wgL_bd:∀ (ks:List Nd),(∀ k ∈ ks,WB k)→∀ n d:Int,0≤n→0≤wgL ks n d∧(wgL ks n d≤n∨wgL ks n d≤140737489403906)∧(wgL ks n d≤1048576→wgL ks n d=n+wts ks):=by
 intro ks
 induction ks with
 | nil=>intro _ n d hn; simp only [wgL,wts]; exact⟨hn,.inl (Int.le_refl _),fun _=>by omega⟩
 | cons k ks ih =>
  intro hk n d hn
  simp only [wgL,wts]
  split
  ·rename_i h
   obtain⟨a1,a2,a3⟩:=hk k (List.mem_cons_self ..) n d hn
   obtain⟨b1,b2,b3⟩:=ih (fun x hx=>hk x (List.mem_cons_of_mem _ hx)) (wgE k n d) d a1
   refine⟨b1,.inr ?_,fun hh=>?_⟩
   ·rcases b2 with b2 | b2
    ·rcases a2 with a2 | a2 <;> omega
    ·exact b2
   ·have e1:=b3 hh
    have e2:=a3 (by omega)
    omega
  ·rename_i h
   exact⟨hn,.inl (Int.le_refl _),fun hh=>absurd hh h⟩
theorem wgE_bd {w:yW}:∀ m:Nd,Lies w m→WB m:=by
 refine Nd.ind fun h a c ks ih hl n d hn=>?_
 have hx:=hl.rg.x1
 simp only [Nd.h] at hx
 rw [wgE_mk]
 split
 ·exact⟨by omega,.inr (by omega),fun hh=>absurd hh (by omega)⟩
 ·obtain⟨b1,b2,b3⟩:=wgL_bd ks (fun k hk=>ih k hk (hl.sub k hk)) (n+1+(h.x.size:Int)) (d+1) (by omega)
  refine⟨b1,?_,fun hh=>?_⟩
  ·rcases b2 with b2 | b2
   ·exact .inl (by omega)
   ·exact .inr b2
  ·have:=b3 hh
   simp only [wt]; omega
theorem wgL_stop {ks:List Nd}{z d:Int}(h:¬ z≤1048576):wgL ks z d=z:=by
 cases ks with
 | nil=>simp [wgL]
 | cons k ks=>simp only [wgL,if_neg h]
theorem weigh_any:∀ (m:Nd) (w:yW) (n d:Int),Lies w m→0≤n→n≤4503599627370496→0≤d→d≤60001→Calls zG 28 #[.agg m.vals,zI n,zI d] w fun e w'=>e=.returned (zI (wgE m n d))∧yD w w':=by
 refine Nd.ind fun h a c ks ih w n d hl h1 h2 h3 h4=>?_
 have HI:Hid (∀ k ∈ ks,∀ (w:yW) (n d:Int),Lies w k→0≤n→n≤4503599627370496→0≤d→d≤60001→Calls zG 28 #[.agg k.vals,zI n,zI d] w fun e w'=>e=.returned (zI (wgE k n d))∧yD w w'):=ih
 have HL:=hl.hid
 have hx:=hl.rg.x1
 simp only [Nd.h] at hx
 show Calls zG 28 #[.agg (zX h a ks c),zI n,zI d] w _
 have HD:Hid (0≤d∧d≤60001∧0≤n∧n≤4503599627370496∧(h.x.size:Int)≤140737488355328):=⟨h3,h4,h1,h2,by omega⟩
 have g1:-9223372036854775808≤n+1:=by omega
 have g2:n+1≤9223372036854775807:=by omega
 have g3:-9223372036854775808≤n+1+(h.x.size:Int):=by omega
 have g4:n+1+(h.x.size:Int)≤9223372036854775807:=by omega
 have HN0:Hid (NdH (w.alloc (.cells (zX h a ks c) 38)) w§ (.mk h a c ks)):=heap_new w _
 have HW:Hid (¬ d > 60000→wgE (.mk h a c ks) n d=wgL ks (n+1+(h.x.size:Int)) (d+1)):=fun hd=>by rw [wgE_mk,if_neg hd]
 have HW0:Hid (d > 60000→wgE (.mk h a c ks) n d=1048577):=fun hd=>by rw [wgE_mk,if_pos hd]
 clear ih hl hx h1 h2 h3 h4
 by_cases hd:d > 60000
 ·go_enter Tryz.func28,Tryz.ntmps28
  go_wp2_with fail
  go_ret
  exact⟨(congrArg (fun x:Int=>Ending.returned (Value.int .i64 x)) (HW0.out hd)).symm,below_new _ _⟩
 ·have g5:d+1≤9223372036854775807:=by have:=HD.out; omega
  have g6:-9223372036854775808≤d+1:=by have:=HD.out; omega
  go_enter Tryz.func28,Tryz.ntmps28
  go_wp2_with fail
  go_loopw [1,7] (fun v t wr=>∃ (i:Nat) (z:Int),i≤ks.length∧t=zI i∧v=zI z∧Below (w.alloc (.cells (zX h a ks c) 38))§ (w.alloc (.cells (zX h a ks c) 38)) wr∧Hid (0≤z∧z≤4703599627370496∧wgL (ks.drop i) z (d+1)=wgE (.mk h a c ks) n d)) (fun _ t _=>ks.length - (intOf t).toNat)
  case atStart=>exact⟨0,n+1+(h.x.size:Int),by omega,rfl,rfl,Below.refl _ _,by have:=HD.out; omega,by have:=HD.out; omega,by rw [HW.out hd,List.drop_zero]⟩
  case round =>
   obtain⟨i,z,hi,rfl,rfl,hbr,HR⟩:=hrel
   have HBR:Hid (yD w wr):=below2 (below_new _ _) hbr
   have HBr:Hid (Below (w.alloc (.cells (zX h a ks c) 38))§ (w.alloc (.cells (zX h a ks c) 38)) wr):=hbr
   have hN:NdH wr w§ (.mk h a c ks):=HN0.out.on hbr
   have q6:wr.cell? w§¢6=some (.slice a ks.length c):=cell_of hN 6
   clear hbr hN
   by_cases hlt:i < ks.length
   ·have hlt':(i:Int) < (ks.length:Int):=by omega
    by_cases hz:z≤1048576
    ·obtain⟨b,o,e1,hat⟩:=(HL.out.on HBR.out).kid i hlt
     have e2:a=some b¢o:=e1
     clear e1
     have hk1:NdAt wr b (o+i * 8) ks[i]:=hat
     clear hat
     have cI:=HI.out ks[i] (nth_mem hlt) wr z (d+1) ((HL.out.sub _ (nth_mem hlt)).on HBR.out) (by have h1:=HR.out; have h2:=HD.out; omega) (by omega) (by have:=HD.out; omega) (by omega)
     have HW2:Hid (wgL (ks.drop i) z (d+1)=wgL (ks.drop (i+1)) (wgE ks[i] z (d+1)) (d+1)):=by show _=_; rw [drop_nth hlt]; simp only [wgL,if_pos hz]
     have HBd:Hid (WB ks[i]):=wgE_bd _ (HL.out.sub _ (nth_mem hlt))
     have hmx:(i:Int)+1≤9223372036854775807:=by
      have h1:=HL.out.max
      have h2:=HL.out.cap
      simp only [Nd.ks,Nd.c] at h1 h2
      omega
     obtain⟨k,ek⟩:∃ k,ks[i]=k:=⟨_,rfl⟩
     rw [ek] at hk1 cI HW2 HBd
     subst e2
     obtain⟨y0,y1,y2,y3,y4,y5,y6,y7⟩:=hk1
     have cI:Calls zG 28 #[.agg (zV k),zI z,zI (d+1)] wr fun e w'=>e=.returned (zI (wgE k z (d+1)))∧yD wr w':=cI
     obtain⟨r,er⟩:∃ r,wgE k z (d+1)=r:=⟨_,rfl⟩
     rw [er] at cI HW2
     have HER:Hid (wgE k z (d+1)=r):=er
     clear ek er
     go_wp2_with fail
     refine cI.mono ?_
     rintro e w5 ⟨rfl,hb5⟩
     have HB5:Hid (Below (w.alloc (.cells (zX h (some b¢o) ks c) 38))§ (w.alloc (.cells (zX h (some b¢o) ks c) 38)) w5):=below2 HBr.out hb5
     have HX:Hid (0≤r∧r≤4703599627370496∧wgL (ks.drop (i+1)) r (d+1)=wgE (.mk h (some b¢o) c ks) n d):=by
      have h1:=HBd.out z (d+1) HR.out.1
      rw [HER.out] at h1
      exact⟨h1.1,by rcases h1.2.1 with h2 | h2 <;> omega,by rw [← HW2.out]; exact HR.out.2.2⟩
     clear hb5 cI y0 y1 y2 y3 y4 y5 y6 y7 q6
     go_wp2_with fail
     exact⟨⟨i+1,r,hlt,rfl,rfl,HB5.out,HX.out⟩,by simp only [intOf]; omega⟩
    ·go_wp2_with fail
     go_ret
     exact⟨congrArg (fun x:Int=>Ending.returned (Value.int .i64 x)) ((wgL_stop (by omega)).symm.trans HR.out.2.2),HBR.out⟩
   ·obtain rfl:i=ks.length:=by omega
    have hnot:¬ (ks.length:Int) < (ks.length:Int):=by omega
    go_wp2_with fail
    go_ret
    exact⟨congrArg (fun x:Int=>Ending.returned (Value.int .i64 x)) (by have h9:=HR.out.2.2; rw [List.drop_length] at h9; simpa [wgL] using h9),HBR.out⟩
def Wgt (m:Nd) (n:Int) (r:Int):Prop:=0≤r∧r≤n+140737489403906∧(r≤1048576→r=n+wt m)
theorem wgt_of {w:yW}{m:Nd}(hl:Lies w m) {n:Int}(h1:0≤n):Wgt m n (wgE m n 0):=by
 obtain⟨a1,a2,a3⟩:=wgE_bd m hl n 0 h1
 exact⟨a1,by rcases a2 with a2 | a2 <;> omega,a3⟩
theorem weigh_top (m:Nd) (w:yW) (n:Int) (hl:Lies w m) (h1:0≤n) (h2:n≤4503599627370496):Calls zG 28 #[.agg m.vals,zI n,zI 0] w fun e w'=>(∃ r,e=.returned (zI r)∧Wgt m n r)∧yD w w':=by
 refine (weigh_any m w n 0 hl h1 h2 (by omega) (by omega)).mono ?_
 rintro e w' ⟨rfl,hb⟩
 exact⟨⟨_,rfl,wgt_of hl h1⟩,hb⟩
def WghD (d:DoM) (n r:Int):Prop:=0≤r∧r≤n+900000000000000∧(r≤1048576→DoZ d)
theorem weighDo_any (d:DoM) (w:yW) (n:Int) (hl:DoL w d) (h1:0≤n) (h2:n≤2251799813685248):Calls zG 53 #[.agg d.vals,zI n] w fun e w'=>(∃ r,e=.returned (zI r)∧WghD d n r)∧yD w w':=by
 have hb0:=below_new w (.cells d.vals 121)
 have hn0:=heap_new w (.cells d.vals 121)
 have hx:d.x.size≤140737488355328:=hl.2.2.2.2.2.2.2
 have HH:Hid (DoL w d∧0≤n∧n≤2251799813685248∧(d.x.size:Int)≤140737488355328):=⟨hl,h1,h2,by omega⟩
 have HN0:Hid ((w.alloc (.cells d.vals 121)).heap[w§]? = (zC d.vals 121)):=hn0
 have HB0:Hid (yD w (w.alloc (.cells d.vals 121))):=hb0
 have q2:(w.alloc (.cells d.vals 121)).cell? w§¢2=some (.string d.x):=cell_of hn0 2
 have g1:n+(d.x.size:Int)≤9223372036854775807:=by omega
 have g2:-9223372036854775808≤n+(d.x.size:Int):=by omega
 have c1:=weigh_top d.sd (w.alloc (.cells d.vals 121)) (n+(d.x.size:Int)) (hl.1.on hb0) (by omega) (by omega)
 clear hl h1 h2 hx hb0 hn0
 go_enter Tryz.func53,Tryz.ntmps53
 go_wp2_with (refine wpList_load_mid rfl 38 _ rfl w§ 3 rfl d.sd.vals.toList _ (nd_rng HN0.out 3 d.sd (do_sd d)) Tryz.underlying38 rfl (size38 d.sd) ?_; rw [toArr])
 refine c1.mono ?_
 rintro e w1 ⟨⟨r1,rfl,hr1⟩,hb⟩
 have HR1:Hid (Wgt d.sd (n+(d.x.size:Int)) r1):=hr1
 have HB1:Hid (yD w w1):=below2 HB0.out hb
 have HD1:Hid (w1.heap[w§]? = (zC d.vals 121)):=(hb.block _ (zJ HN0.out).1).trans HN0.out
 have c2:=weigh_top d.qt w1 r1 (HH.out.1.2.1.on HB1.out) hr1.1 (by have h1:=hr1.2.1; have h2:=HH.out.2; omega)
 clear c1 hr1 hb q2 HN0 HB0
 go_wp2_with (refine wpList_load_mid rfl 38 _ rfl w§ 11 rfl d.qt.vals.toList _ (nd_rng HD1.out 11 d.qt (do_qt d)) Tryz.underlying38 rfl (size38 d.qt) ?_; rw [toArr])
 refine c2.mono ?_
 rintro e w2 ⟨⟨r2,rfl,hr2⟩,hb⟩
 have HR2:Hid (Wgt d.qt r1 r2):=hr2
 have HB2:Hid (yD w w2):=below2 HB1.out hb
 have HD2:Hid (w2.heap[w§]? = (zC d.vals 121)):=(hb.block _ (zJ HD1.out).1).trans HD1.out
 have c3:=weigh_top d.pr w2 r2 (HH.out.1.2.2.1.on HB2.out) hr2.1 (by have h1:=hr2.2.1; have h3:=HR1.out.2.1; have h2:=HH.out.2; omega)
 clear c2 hr2 hb HD1 HB1
 go_wp2_with (refine wpList_load_mid rfl 38 _ rfl w§ 19 rfl d.pr.vals.toList _ (nd_rng HD2.out 19 d.pr (do_pr d)) Tryz.underlying38 rfl (size38 d.pr) ?_; rw [toArr])
 refine c3.mono ?_
 rintro e w3 ⟨⟨r3,rfl,hr3⟩,hb⟩
 have HR3:Hid (Wgt d.pr r2 r3):=hr3
 have HB3:Hid (yD w w3):=below2 HB2.out hb
 have HD3:Hid (w3.heap[w§]? = (zC d.vals 121)):=(hb.block _ (zJ HD2.out).1).trans HD2.out
 have c4:=weigh_top d.vl w3 r3 (HH.out.1.2.2.2.1.on HB3.out) hr3.1 (by have h1:=hr3.2.1; have h4:=HR2.out.2.1; have h3:=HR1.out.2.1; have h2:=HH.out.2; omega)
 clear c3 hr3 hb HD2 HB2
 go_wp2_with (refine wpList_load_mid rfl 38 _ rfl w§ 27 rfl d.vl.vals.toList _ (nd_rng HD3.out 27 d.vl (do_vl d)) Tryz.underlying38 rfl (size38 d.vl) ?_; rw [toArr])
 refine c4.mono ?_
 rintro e w4 ⟨⟨r4,rfl,hr4⟩,hb⟩
 have HR4:Hid (Wgt d.vl r3 r4):=hr4
 have HB4:Hid (yD w w4):=below2 HB3.out hb
 clear c4 hr4 hb
 go_wp2_with fail
 go_ret
 have a1:=HR1.out; have a2:=HR2.out; have a3:=HR3.out; have a4:=HR4.out; have a0:=HH.out.2
 have s1:=size_wt d.sd; have s2:=size_wt d.qt; have s3:=size_wt d.pr; have s4:=size_wt d.vl
 refine⟨⟨r4,rfl,a4.1,by have b1:=a1.2.1; have b2:=a2.2.1; have b3:=a3.2.1; have b4:=a4.2.1; omega,fun hh=>?_⟩,HB4.out⟩
 have e4:=a4.2.2 hh
 have e3:=a3.2.2 (by omega)
 have e2:=a2.2.2 (by omega)
 have e1:=a1.2.2 (by omega)
 exact⟨by omega,by omega,by omega,by omega⟩
end Go.Proofs.YtfbjofnaghjmeaaGreatDoor
