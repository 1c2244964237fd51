import Derived.Test.YtoogodlnnijikaaGreatDoorA0
import Derived.Test.YtoogodlnnijikaaGreatDoorA38
import Derived.Test.YtoogodlnnijikaaGreatDoorA31
import Derived.Test.YtoogodlnnijikaaGreatDoorA2
import Derived.Deep.AppendLies
import Derived.Deep.CutRange
import Derived.Deep.DeepCutAuto
import Derived.Deep.RegionLaw
namespace Go.Proofs.YtoogodlnnijikaaGreatDoor
set_option maxHeartbeats 8000000
set_option maxRecDepth 100000
open Go.RowKit
set_option linter.unusedVariables false
set_option linter.unusedSimpArgs false
theorem Kc (w:yW) (x y:Array Value) (t u:TypeId):((w.alloc (.cells x t)).alloc (.cells y u)).heap[w§]? = (zC x t)∧yD w ((w.alloc (.cells x t)).alloc (.cells y u)):=by
 have h1:=Qc w (.cells x t)
 have h2:=Qc (w.alloc (.cells x t)) (.cells y u)
 have h3:=Qd w (.cells x t)
 exact⟨(h2.block _ (zJ h3).1).trans h3,Qe h1 h2⟩
def InS (W:yW) (S:Qm) (A:Nat):Prop:=QD W S∧W.heap[A]? = (zC S.vals 27)
def InN (W:yW) (m:Nd) (A:Nat):Prop:=Lies W m∧W.heap[A]? = (zC m.vals 48)
theorem InS.on {W W':yW}{S:Qm}{A:Nat}(h:InS W S A) (b:yD W W'):InS W' S A:=⟨h.1.on b,(b.block _ (zJ h.2).1).trans h.2⟩
theorem InN.on {W W':yW}{m:Nd}{A:Nat}(h:InN W m A) (b:yD W W'):InN W' m A:=⟨h.1.on b,(b.block _ (zJ h.2).1).trans h.2⟩
theorem InS.new {w:yW}{S:Qm}(h:QD w S) (y:Array Value) (u:TypeId):InS ((w.alloc (.cells S.vals 27)).alloc (.cells y u)) S w§:=⟨h.on (Kc w S.vals y 27 u).2,(Kc w S.vals y 27 u).1⟩
theorem InN.new {w:yW}{m:Nd}(h:Lies w m) (y:Array Value) (u:TypeId):InN ((w.alloc (.cells m.vals 48)).alloc (.cells y u)) m w§:=⟨h.on (Kc w m.vals y 48 u).2,(Kc w m.vals y 48 u).1⟩
theorem awake_any (w:yW) (ht:Tab w) (hf:FTab w) (hg:Ety w):Calls zG 8 #[] w fun e w'=>e=.returned (.bool true)∧yD w w':=by
 have HT:Hid (Tab w∧FTab w∧Ety w):=⟨ht,hf,hg⟩
 clear ht hf hg
 go_enter Tryz.func8,Tryz.ntmps8
 go_wp2_with fail
 refine (strat_l (s:=txS) pS1 w).mono ?_
 rintro e w1 ⟨S,rfl,htr,hls,hb1⟩
 have hbs:bStr S=sT sS:=by rw [bStr_tr,htr]
 have HS:Hid (chkE S=none∧StratZ S∧∀ m,ofE S m=ofE (sT sS) (bare m)):=⟨by rw [← chkE_b,hbs]; exact chS,zB_z (by rw [← zB_b,hbs]; exact zBS),fun m=>by rw [← ofE_b,hbs]⟩
 have HW1:Hid (yD w ((w1.alloc (.cells #[.string S.x,.slice S.ra S.rs.length S.rc,.slice S.sa S.ss.length S.sc,.slice S.ta S.ts.length S.tc] 27)).alloc (.cells zi 30))∧InS ((w1.alloc (.cells #[.string S.x,.slice S.ra S.rs.length S.rc,.slice S.sa S.ss.length S.sc,.slice S.ta S.ts.length S.tc] 27)).alloc (.cells zi 30)) S w1§):=⟨Qe hb1 (Kc w1 _ _ _ _).2,InS.new hls _ _⟩
 clear htr hls hbs hb1
 unfold Qm.vals
 go_upto_region 2 with fail
 generalize (w1.alloc (.cells #[.string S.x,.slice S.ra S.rs.length S.rc,.slice S.sa S.ss.length S.sc,.slice S.ta S.ts.length S.tc] 27)).alloc (.cells zi 30)=W1 at HW1 ⊢
 generalize w1§=A1 at HW1 ⊢
 go_wp2_with fail
 refine (strat_l (s:=txT) pU1 W1).mono ?_
 rintro e w2 ⟨U,rfl,htr,hls,hb1⟩
 have hbs:bStr U=sT sU:=by rw [bStr_tr,htr]
 have HU:Hid (chkE U=some (36,151)∧StratZ U):=⟨by rw [← chkE_b,hbs]; exact chU,zB_z (by rw [← zB_b,hbs]; exact zBU)⟩
 have h12:=Qe hb1 (Kc w2 #[.string U.x,.slice U.ra U.rs.length U.rc,.slice U.sa U.ss.length U.sc,.slice U.ta U.ts.length U.tc] zi 27 30).2
 have HW2:Hid (yD w ((w2.alloc (.cells #[.string U.x,.slice U.ra U.rs.length U.rc,.slice U.sa U.ss.length U.sc,.slice U.ta U.ts.length U.tc] 27)).alloc (.cells zi 30))∧InS ((w2.alloc (.cells #[.string U.x,.slice U.ra U.rs.length U.rc,.slice U.sa U.ss.length U.sc,.slice U.ta U.ts.length U.tc] 27)).alloc (.cells zi 30)) S A1∧InS ((w2.alloc (.cells #[.string U.x,.slice U.ra U.rs.length U.rc,.slice U.sa U.ss.length U.sc,.slice U.ta U.ts.length U.tc] 27)).alloc (.cells zi 30)) U w2§):=⟨Qe HW1.out.1 h12,HW1.out.2.on h12,InS.new hls _ _⟩
 clear htr hls hbs hb1 h12 HW1
 unfold Qm.vals
 go_upto_region 3 with fail
 generalize (w2.alloc (.cells #[.string U.x,.slice U.ra U.rs.length U.rc,.slice U.sa U.ss.length U.sc,.slice U.ta U.ts.length U.tc] 27)).alloc (.cells zi 30)=W2 at HW2 ⊢
 generalize w2§=A2 at HW2 ⊢
 go_wp2_with fail
 refine (exprX txN tN gN1 W2).mono ?_
 rintro e w3 ⟨h1,hb1⟩
 rw [gN1] at h1
 obtain⟨n,rfl,htr,hln,_⟩:=h1
 have hbn:bare n=ndT tN:=by unfold bare; rw [htr]
 have HN:Hid (ofE S n=.ok 3∧size n≤1000000000000):=⟨by rw [HS.out.2.2,hbn]; exact ofN,by have:=szN; rw [← hbn,size_b] at this; omega⟩
 have h12:=Qe hb1 (Kc w3 (zV n) zi 48 30).2
 have HW3:Hid (yD w ((w3.alloc (.cells (zV n) 48)).alloc (.cells zi 30))∧InS ((w3.alloc (.cells (zV n) 48)).alloc (.cells zi 30)) S A1∧InS ((w3.alloc (.cells (zV n) 48)).alloc (.cells zi 30)) U A2∧InN ((w3.alloc (.cells (zV n) 48)).alloc (.cells zi 30)) n w3§):=⟨Qe HW2.out.1 h12,HW2.out.2.1.on h12,HW2.out.2.2.on h12,InN.new hln _ _⟩
 clear htr hln hbn hb1 h12 HW2
 unfold Nd.vals hdA
 go_upto_region 4 with fail
 generalize (w3.alloc (.cells (zV n) 48)).alloc (.cells zi 30)=W3 at HW3 ⊢
 generalize w3§=A3 at HW3 ⊢
 go_wp2_with fail
 refine (exprX txM tM gM1 W3).mono ?_
 rintro e w4 ⟨h1,hb1⟩
 rw [gM1] at h1
 obtain⟨m,rfl,htr,hln,_⟩:=h1
 have hbn:bare m=ndT tM:=by unfold bare; rw [htr]
 have HM:Hid (ofE S m=.error (4,152)∧size m≤1000000000000):=⟨by rw [HS.out.2.2,hbn]; exact ofM,by have:=szM; rw [← hbn,size_b] at this; omega⟩
 have h12:=Qe hb1 (Kc w4 (zV m) zi 48 30).2
 have HW4:Hid (yD w ((w4.alloc (.cells (zV m) 48)).alloc (.cells zi 30))∧InS ((w4.alloc (.cells (zV m) 48)).alloc (.cells zi 30)) S A1∧InS ((w4.alloc (.cells (zV m) 48)).alloc (.cells zi 30)) U A2∧InN ((w4.alloc (.cells (zV m) 48)).alloc (.cells zi 30)) n A3∧InN ((w4.alloc (.cells (zV m) 48)).alloc (.cells zi 30)) m w4§):=⟨Qe HW3.out.1 h12,HW3.out.2.1.on h12,HW3.out.2.2.1.on h12,HW3.out.2.2.2.on h12,InN.new hln _ _⟩
 clear htr hln hbn hb1 h12 HW3
 unfold Nd.vals hdA
 go_upto_region 5 with fail
 generalize (w4.alloc (.cells (zV m) 48)).alloc (.cells zi 30)=W4 at HW4 ⊢
 generalize w4§=A4 at HW4 ⊢
 have y0:W4.cell? A1¢0=some (.string S.x):=Qa HW4.out.2.1.2 0
 have y1:W4.cell? A1¢1=some (.slice S.ra S.rs.length S.rc):=Qa HW4.out.2.1.2 1
 have y2:W4.cell? A1¢2=some (.slice S.sa S.ss.length S.sc):=Qa HW4.out.2.1.2 2
 have y3:W4.cell? A1¢3=some (.slice S.ta S.ts.length S.tc):=Qa HW4.out.2.1.2 3
 have c5:Calls zG 11 #[.agg #[.string S.x,.slice S.ra S.rs.length S.rc,.slice S.sa S.ss.length S.sc,.slice S.ta S.ts.length S.tc]] W4 (OutC W4 (chkE S)):=tyCheck_any S W4 HW4.out.2.1.1 HS.out.2.1 (HT.out.1.on HW4.out.1) (HT.out.2.1.on HW4.out.1) (HT.out.2.2.on HW4.out.1)
 go_wp2_with fail
 refine c5.mono ?_
 rintro e w5 (⟨_,rfl,hb5⟩ | ⟨p,no,T,v,h1,_⟩)
 case inr=>rw [HS.out.1] at h1; cases h1
 have HW5:Hid (yD w w5∧InS w5 S A1∧InS w5 U A2∧InN w5 n A3∧InN w5 m A4):=⟨Qe HW4.out.1 hb5,HW4.out.2.1.on hb5,HW4.out.2.2.1.on hb5,HW4.out.2.2.2.1.on hb5,HW4.out.2.2.2.2.on hb5⟩
 clear hb5 c5 HW4 y0 y1 y2 y3
 have y0:w5.cell? A2¢0=some (.string U.x):=Qa HW5.out.2.2.1.2 0
 have y1:w5.cell? A2¢1=some (.slice U.ra U.rs.length U.rc):=Qa HW5.out.2.2.1.2 1
 have y2:w5.cell? A2¢2=some (.slice U.sa U.ss.length U.sc):=Qa HW5.out.2.2.1.2 2
 have y3:w5.cell? A2¢3=some (.slice U.ta U.ts.length U.tc):=Qa HW5.out.2.2.1.2 3
 have c6:Calls zG 11 #[.agg #[.string U.x,.slice U.ra U.rs.length U.rc,.slice U.sa U.ss.length U.sc,.slice U.ta U.ts.length U.tc]] w5 (OutC w5 (chkE U)):=tyCheck_any U w5 HW5.out.2.2.1.1 HU.out.2 (HT.out.1.on HW5.out.1) (HT.out.2.1.on HW5.out.1) (HT.out.2.2.on HW5.out.1)
 go_wp2_with fail
 refine c6.mono ?_
 rintro e w6 (⟨h1,_⟩ | ⟨p,no,T,v,h1,rfl,hE,hb6⟩)
 case inl=>rw [HU.out.1] at h1; cases h1
 rw [HU.out.1] at h1
 cases h1
 have HW6:Hid (yD w w6∧InS w6 S A1∧InN w6 n A3∧InN w6 m A4):=⟨Qe HW5.out.1 hb6,HW5.out.2.1.on hb6,HW5.out.2.2.2.1.on hb6,HW5.out.2.2.2.2.on hb6⟩
 have c7:=KW hE (HT.out.2.2.on HW6.out.1)
 clear hb6 c6 HW5 hE y0 y1 y2 y3
 go_wp2_with fail
 refine c7.mono ?_
 rintro e w7 ⟨rfl,hb7⟩
 have HW7:Hid (yD w w7∧InS w7 S A1∧InN w7 n A3∧InN w7 m A4):=⟨Qe HW6.out.1 hb7,HW6.out.2.1.on hb7,HW6.out.2.2.1.on hb7,HW6.out.2.2.2.on hb7⟩
 clear hb7 c7 HW6
 have c8:Calls zG 16 #[.agg #[.string S.x,.slice S.ra S.rs.length S.rc,.slice S.sa S.ss.length S.sc,.slice S.ta S.ts.length S.tc],.agg (zV n)] w7 (OutT w7 (ofE S n)):=of_any S n w7 HW7.out.2.1.1 HW7.out.2.2.1.1 HN.out.2 (HT.out.1.on HW7.out.1) (HT.out.2.1.on HW7.out.1)
 have y0:w7.cell? A1¢0=some (.string S.x):=Qa HW7.out.2.1.2 0
 have y1:w7.cell? A1¢1=some (.slice S.ra S.rs.length S.rc):=Qa HW7.out.2.1.2 1
 have y2:w7.cell? A1¢2=some (.slice S.sa S.ss.length S.sc):=Qa HW7.out.2.1.2 2
 have y3:w7.cell? A1¢3=some (.slice S.ta S.ts.length S.tc):=Qa HW7.out.2.1.2 3
 have z0:w7.cell? A3¢0=some (zU n.h.k):=Qa HW7.out.2.2.1.2 0
 have z1:w7.cell? A3¢1=some (zU n.h.o):=Qa HW7.out.2.2.1.2 1
 have z2:w7.cell? A3¢2=some (zU n.h.t):=Qa HW7.out.2.2.1.2 2
 have z3:w7.cell? A3¢3=some (zI n.h.n):=Qa HW7.out.2.2.1.2 3
 have z4:w7.cell? A3¢4=some (zU n.h.f):=Qa HW7.out.2.2.1.2 4
 have z5:w7.cell? A3¢5=some (.string n.h.x):=Qa HW7.out.2.2.1.2 5
 have z6:w7.cell? A3¢6=some (.slice n.a n.ks.length n.c):=Qa HW7.out.2.2.1.2 6
 have z7:w7.cell? A3¢7=some (zI n.h.p):=Qa HW7.out.2.2.1.2 7
 go_wp2_with fail
 refine c8.mono ?_
 rintro e w8 (⟨t,h1,rfl,hb8⟩ | ⟨p,no,b,h1,_⟩)
 case inr=>rw [HN.out.1] at h1; cases h1
 rw [HN.out.1] at h1
 cases h1
 have HW8:Hid (yD w w8∧InS w8 S A1∧InN w8 m A4):=⟨Qe HW7.out.1 hb8,HW7.out.2.1.on hb8,HW7.out.2.2.2.on hb8⟩
 clear hb8 c8 HW7 y0 y1 y2 y3 z0 z1 z2 z3 z4 z5 z6 z7
 have c9:Calls zG 16 #[.agg #[.string S.x,.slice S.ra S.rs.length S.rc,.slice S.sa S.ss.length S.sc,.slice S.ta S.ts.length S.tc],.agg (zV m)] w8 (OutT w8 (ofE S m)):=of_any S m w8 HW8.out.2.1.1 HW8.out.2.2.1 HM.out.2 (HT.out.1.on HW8.out.1) (HT.out.2.1.on HW8.out.1)
 have y0:w8.cell? A1¢0=some (.string S.x):=Qa HW8.out.2.1.2 0
 have y1:w8.cell? A1¢1=some (.slice S.ra S.rs.length S.rc):=Qa HW8.out.2.1.2 1
 have y2:w8.cell? A1¢2=some (.slice S.sa S.ss.length S.sc):=Qa HW8.out.2.1.2 2
 have y3:w8.cell? A1¢3=some (.slice S.ta S.ts.length S.tc):=Qa HW8.out.2.1.2 3
 have z0:w8.cell? A4¢0=some (zU m.h.k):=Qa HW8.out.2.2.2 0
 have z1:w8.cell? A4¢1=some (zU m.h.o):=Qa HW8.out.2.2.2 1
 have z2:w8.cell? A4¢2=some (zU m.h.t):=Qa HW8.out.2.2.2 2
 have z3:w8.cell? A4¢3=some (zI m.h.n):=Qa HW8.out.2.2.2 3
 have z4:w8.cell? A4¢4=some (zU m.h.f):=Qa HW8.out.2.2.2 4
 have z5:w8.cell? A4¢5=some (.string m.h.x):=Qa HW8.out.2.2.2 5
 have z6:w8.cell? A4¢6=some (.slice m.a m.ks.length m.c):=Qa HW8.out.2.2.2 6
 have z7:w8.cell? A4¢7=some (zI m.h.p):=Qa HW8.out.2.2.2 7
 go_wp2_with fail
 refine c9.mono ?_
 rintro e w9 (⟨t,h1,_⟩ | ⟨p,no,b,h1,rfl,_,hF,hb9⟩)
 case inl=>rw [HM.out.1] at h1; cases h1
 rw [HM.out.1] at h1
 cases h1
 have HW9:Hid (yD w w9):=Qe HW8.out.1 hb9
 have cA:=KW hF.er (HT.out.2.2.on HW9.out)
 clear hb9 c9 HW8 y0 y1 y2 y3 z0 z1 z2 z3 z4 z5 z6 z7 hF
 go_wp2_with fail
 refine cA.mono ?_
 rintro e wA ⟨rfl,hbA⟩
 have HWA:Hid (yD w wA):=Qe HW9.out hbA
 clear hbA cA HW9
 go_wp2_with fail
 go_ret
 exact⟨rfl,HWA.out⟩
theorem Kd:(Tryz.prog.info? 27).map (·.size)=some 4:=by kernel_rfl
theorem sizeN:(Tryz.prog.info? 48).map (·.size)=some 8:=by kernel_rfl
theorem far_any (S:Qm) (m:Nd) (w:yW) (hl:QD w S) (hm:Lies w m):Calls zG 13 #[.agg S.vals,.agg m.vals] w fun e w'=>(∃ f:Bool,e=.returned (.bool f)∧(f=false→StratY S∧size m≤1048576))∧yD w w':=by
 have HH:Hid (QD w S∧Lies w m):=⟨hl,hm⟩
 have e2:=Ql w (.cells S.vals 27) (.cells m.vals 48)
 have n1:((w.alloc (.cells S.vals 27)).alloc (.cells m.vals 48)).heap[w§]? = (zC S.vals 27):=QI (Qd _ _) (by rw [Qf]; omega)
 have n2:((w.alloc (.cells S.vals 27)).alloc (.cells m.vals 48)).heap[w§+1]? = (zC m.vals 48):=by rw [← Qf w (.cells S.vals 27)]; exact Qd _ _
 obtain⟨V,eV⟩:∃ V,(w.alloc (.cells S.vals 27)).alloc (.cells m.vals 48)=V:=⟨_,rfl⟩
 rw [eV] at e2 n1 n2
 have HV:Hid ((w.alloc (.cells S.vals 27)).alloc (.cells m.vals 48)=V):=eV
 have HB:Hid (yD w V):=e2
 have HN1:Hid (V.heap[w§]? = (zC S.vals 27)):=n1
 have HN2:Hid (V.heap[w§+1]? = (zC m.vals 48)):=n2
 have c1:=weighS_any S V (hl.on e2)
 clear hl hm e2 n1 n2 eV
 go_enter Tryz.func13,Tryz.ntmps13
 go_upto_region 1 with fail
 rw [HV.out]
 go_wp2_with (refine wpList_load_row rfl 27 _ rfl w§ rfl 27 S.vals (0,0) _ HN1.out Tryz.underlying27 rfl Kd ?_)
 refine c1.mono ?_
 rintro e w1 ⟨⟨r,rfl,hr⟩,hb⟩
 have HR:Hid (WghS S r):=hr
 have HB1:Hid (yD w w1):=Qe HB.out hb
 have HN3:Hid (w1.heap[w§+1]? = (zC m.vals 48)):=(hb.block _ (zJ HN2.out).1).trans HN2.out
 by_cases hb1:r≤1048576
 ·have hn:¬ (1048576:Int) < r:=by omega
  have c2:Calls zG 38 #[.agg (zV m),zI r,zI 0] w1 fun e w'=>(∃ r2,e=.returned (zI r2)∧Wgt m r r2)∧yD w1 w':=JK m w1 r (HH.out.2.on HB1.out) hr.1 (by have:=hr.2.1; omega)
  have z0:w1.cell? ⟨w§+1,0,none⟩=some (zU m.h.k):=Qa HN3.out 0
  have z1:w1.cell? ⟨w§+1,1,none⟩=some (zU m.h.o):=Qa HN3.out 1
  have z2:w1.cell? ⟨w§+1,2,none⟩=some (zU m.h.t):=Qa HN3.out 2
  have z3:w1.cell? ⟨w§+1,3,none⟩=some (zI m.h.n):=Qa HN3.out 3
  have z4:w1.cell? ⟨w§+1,4,none⟩=some (zU m.h.f):=Qa HN3.out 4
  have z5:w1.cell? ⟨w§+1,5,none⟩=some (.string m.h.x):=Qa HN3.out 5
  have z6:w1.cell? ⟨w§+1,6,none⟩=some (.slice m.a m.ks.length m.c):=Qa HN3.out 6
  have z7:w1.cell? ⟨w§+1,7,none⟩=some (zI m.h.p):=Qa HN3.out 7
  clear c1 hr hb HN1 HN2
  go_wp2_with fail
  refine c2.mono ?_
  rintro e w2 ⟨⟨r2,rfl,hr2⟩,hb2⟩
  have HR2:Hid (Wgt m r r2):=hr2
  have HB2:Hid (yD w w2):=Qe HB1.out hb2
  clear c2 hr2 hb2
  go_wp2_with fail
  go_ret
  refine⟨⟨_,rfl,fun hf=>?_⟩,HB2.out⟩
  have h0:r≤1048576∧r2≤1048576:=by simpa using hf
  have h1:=h0.2
  have h2:=HR2.out.2.2 h1
  have h3:=KU m
  have h4:=HR.out.1
  exact⟨HR.out.2.2 hb1,by omega⟩
 ·have hn:(1048576:Int) < r:=by omega
  clear c1 hr hb HN1 HN2
  go_wp2_with fail
  go_ret
  exact⟨⟨_,rfl,fun hf=>by simp at hf⟩,HB1.out⟩
structure RN (W w:yW) (v:Value) (L:List Nd):Prop where
 row:RowN w v L
 nb:∀ k,v.ownBlock=some k→W§≤k
 B:yD W w
theorem RN.nil (W:yW):RN W W (.slice none 0 0) []:=⟨Row.nil _ _ _ _,fun k h=>by simp [Value.ownBlock] at h,Below.refl _ _⟩
theorem RN.call {W w w':yW}{v:Value}{L:List Nd}(h:RN W w v L) (k:yD w w'):RN W w' v L :=
 ⟨h.row.of_block (fun b hb=>k.block b (h.row.lt b hb)),h.nb,h.B.trans (k.mono h.B.size)⟩
theorem RN.alloc {W w:yW}{v:Value}{L:List Nd}(h:RN W w v L) (o:Obj):RN W (w.alloc o) v L:=h.call (Qc w o)
theorem RN.hid {W w:yW}{v:Value}{L:List Nd}(h:RN W w v L):Hid (RN W w v L):=h
theorem appn_core {W w0 w':yW}{v:Value}{L:List Nd}{y:Nd}{g cap:Nat}(hR:RN W w0 v L)
  (h2:w'.ownsRow 0 48 8 (.slice (some g¢0) (L.length+1) cap) (L.length+1) ((List.range (L.length * 8)).map (ndF (ldF L)) ++ (y.vals).toList))
  (h3:(w0.alloc (.cells (y.vals) 48)).grownBy w' v.ownBlock) (h4:v.ownBlock=some g∨g=(w0.alloc (.cells (y.vals) 48))§) :
  RN W w' (.slice (some g¢0) (L.length+1) cap) (L ++ [y])∧w0§≤w'§∧∀ b,b < w0§→v.ownBlock≠some b→w'.heap[b]? = w0.heap[b]?:=by
 have hsz:=Qf w0 (.cells (y.vals) 48)
 have hB0:=hR.B.alloc hR.B.size (.cells (y.vals) 48)
 refine⟨⟨?_,?_,hB0.grown h3 hB0.size (fun k hk=>hR.nb k hk)⟩,?_,?_⟩
 ·have hr:=Row.snoc (x:=ndF (fun _=>y)) h2 rfl (fun j hj=>nd_cells y j hj)
  unfold RowN
  rw [List.length_append,List.length_singleton]
  refine hr.congr fun j hj=>?_
  by_cases h:j < L.length * 8
  ·simp only [h,if_true]
   unfold ndF
   rw [ldF_lt (by omega)]
  ·have e:j / 8=L.length:=by omega
   simp only [h,if_false]
   unfold ndF
   rw [e,ldF_at,show (j - L.length * 8) % 8=j % 8 by omega]
 ·intro k hk
  simp [Value.ownBlock] at hk
  subst hk
  rcases h4 with h4 | h4
  ·exact hR.nb _ h4
  ·have:=hR.B.size; omega
 ·have:=h3.size; omega
 ·intro b hb hne
  rw [h3.block b (by omega) (fun e=>hne e.symm)]
  exact Below.heap_alloc _ _ _ hb
theorem append_node {W w0:yW}{ops:Array Oper}{rest:List Oper}{o:Oper}{a:Act}{Q:Exit→Act→yW→Prop}(hgd:o.guard=none) (d x:Operand)
  (ho:o.op=.call { callee:=.builtin .append,args:=#[d,x],argTypes:=#[46,46] }) (y:Nd) {v:Value}{L:List Nd}(hR:RN W w0 v L) (hs:a.eval d=v) (hx:a.eval x=.slice (some w0§¢0) 1 1) (hlen:L.length≤1000000000)
  (h:∀ v' w',RN W w' v' (L ++ [y])→w0§≤w'§→(∀ b,b < w0§→v.ownBlock≠some b→w'.heap[b]? = w0.heap[b]?)→(v'.ownBlock=v.ownBlock∨∃ g,v'.ownBlock=some g∧w0§ < g)→wpList Tryz.prog ops Q rest (a.put o.dst v') w') :
  wpList Tryz.prog ops Q (o :: rest) a (w0.alloc (.cells (y.vals) 48)):=by
 obtain⟨i0,hi,hz0,hz1,hz2⟩:=info_parts Tryz.info48
 refine wpList_append_lies _ hgd d x 46 ho 0 48 i0 _ 8 72 Tryz.underlying46 hi hz0 hz1 hz2 rfl (by decide) v L.length _ hs (hR.row.alloc _) w0§¢0 1 1 (y.vals).toList hx rfl (newsn_core w0 y) (Ku y) (by decide) (by unfold maxLen; omega) (by omega) (Nat.zero_le _) _ rfl ?_
 intro g cap w' h2 h3 h4 h5
 obtain⟨q1,q2,q3⟩:=appn_core hR h2 h3 h4
 refine h _ w' q1 q2 q3 ?_
 rcases h4 with h4 | h4
 ·exact .inl h4.symm
 ·exact .inr ⟨g,rfl,by rw [h4,Qf]; omega⟩
inductive Bk (P:Nat→Prop):Nd→Prop
 | mk (h:Hd) (a:Option Addr) (c:Nat) (ks:List Nd) (hb:∀ x,a=some x→P x.block) (hs:∀ k ∈ ks,Bk P k):Bk P (.mk h a c ks)
theorem Bk.mono {P Q:Nat→Prop}(h:∀ b,P b→Q b):∀ {m:Nd},Bk P m→Bk Q m:=by
 intro m hm
 induction hm with
 | mk g a c ks hb _ ih=>exact .mk g a c ks (fun x e=>h _ (hb x e)) ih
theorem Lies.bk {P:Nat→Prop}{w w':yW}(k:∀ b,b < w§→P b→w'.heap[b]? = w.heap[b]?):∀ {m:Nd},Lies w m→Bk P m→Lies w' m:=by
 intro m hl
 induction hl with
 | mk h a c ks hr hc hm hk _ ih =>
  intro hB
  cases hB with
  | mk _ _ _ _ hb hs =>
   refine .mk h a c ks hr hc hm (fun i hi=>?_) (fun x hx=>ih x hx (hs x hx))
   obtain⟨b,o,e,hat⟩:=hk i hi
   exact⟨b,o,e,hat.blk (k b hat.lt (hb _ e))⟩
theorem put8C {w:yW}{b:Nat}{a0 a1 a2 a3 a4 a5 a6 a7:Value}(h:w.heap[b]? = (zC #[a0,a1,a2,a3,a4,a5,a6,a7] 48)) (v0 v1 v2 v3 v4 v5 v6 v7:Value) :
  ((((((((w.setCell b¢0 v0).setCell b¢1 v1).setCell b¢2 v2).setCell b¢3 v3).setCell b¢4 v4).setCell b¢5 v5).setCell b¢6 v6).setCell b¢7 v7).heap[b]? = (zC #[v0,v1,v2,v3,v4,v5,v6,v7] 48):=by
 have h1:(w.setCell b¢0 v0).heap[b]? = (zC #[v0,a1,a2,a3,a4,a5,a6,a7] 48):=Qi v0 h
 have h2:((w.setCell b¢0 v0).setCell b¢1 v1).heap[b]? = (zC #[v0,v1,a2,a3,a4,a5,a6,a7] 48):=Qi v1 h1
 have h3:(((w.setCell b¢0 v0).setCell b¢1 v1).setCell b¢2 v2).heap[b]? = (zC #[v0,v1,v2,a3,a4,a5,a6,a7] 48):=Qi v2 h2
 have h4:((((w.setCell b¢0 v0).setCell b¢1 v1).setCell b¢2 v2).setCell b¢3 v3).heap[b]? = (zC #[v0,v1,v2,v3,a4,a5,a6,a7] 48):=Qi v3 h3
 have h5:(((((w.setCell b¢0 v0).setCell b¢1 v1).setCell b¢2 v2).setCell b¢3 v3).setCell b¢4 v4).heap[b]? = (zC #[v0,v1,v2,v3,v4,a5,a6,a7] 48):=Qi v4 h4
 have h6:((((((w.setCell b¢0 v0).setCell b¢1 v1).setCell b¢2 v2).setCell b¢3 v3).setCell b¢4 v4).setCell b¢5 v5).heap[b]? = (zC #[v0,v1,v2,v3,v4,v5,a6,a7] 48):=Qi v5 h5
 have h7:(((((((w.setCell b¢0 v0).setCell b¢1 v1).setCell b¢2 v2).setCell b¢3 v3).setCell b¢4 v4).setCell b¢5 v5).setCell b¢6 v6).heap[b]? = (zC #[v0,v1,v2,v3,v4,v5,v6,a7] 48):=Qi v6 h6
 have h8:((((((((w.setCell b¢0 v0).setCell b¢1 v1).setCell b¢2 v2).setCell b¢3 v3).setCell b¢4 v4).setCell b¢5 v5).setCell b¢6 v6).setCell b¢7 v7).heap[b]? = (zC #[v0,v1,v2,v3,v4,v5,v6,v7] 48):=Qi v7 h7
 exact h8
theorem belowput8 {B:Nat}{w v:yW}{b:Nat}(h:Below B w v) (hb:B≤b) (v0 v1 v2 v3 v4 v5 v6 v7:Value):Below B w ((((((((v.setCell b¢0 v0).setCell b¢1 v1).setCell b¢2 v2).setCell b¢3 v3).setCell b¢4 v4).setCell b¢5 v5).setCell b¢6 v6).setCell b¢7 v7):=(((((((h.setCell (p:=b¢0) hb v0).setCell (p:=b¢1) hb v1).setCell (p:=b¢2) hb v2).setCell (p:=b¢3) hb v3).setCell (p:=b¢4) hb v4).setCell (p:=b¢5) hb v5).setCell (p:=b¢6) hb v6).setCell (p:=b¢7) hb v7
theorem fin8C {U:yW}{b:Nat}{a0 a1 a2 a3 a4 a5 a6 a7:Value}(h:U.heap[b]? = (zC #[a0,a1,a2,a3,a4,a5,a6,a7] 48)) (v0 v1 v2 v3 v4 v5 v6 v7:Value) :
  ∃ Y,((((((((U.setCell b¢0 v0).setCell b¢1 v1).setCell b¢2 v2).setCell b¢3 v3).setCell b¢4 v4).setCell b¢5 v5).setCell b¢6 v6).setCell b¢7 v7)=Y∧Y.heap[b]? = (zC #[v0,v1,v2,v3,v4,v5,v6,v7] 48)∧Y§=U§∧(∀ k,k≠b→Y.heap[k]? = U.heap[k]?)∧(∀ (B:Nat) (w:yW),Below B w U→B≤b→Below B w Y):=by
 refine⟨_,rfl,put8C h _ _ _ _ _ _ _ _,?_,fun k hk=>?_,fun B w hB hb=>belowput8 hB hb _ _ _ _ _ _ _ _⟩
 ·simp [World.setCell]
 ·refine (Below.heap_setCell _ _ _ _ (show k≠b from hk)).trans ?_; refine (Below.heap_setCell _ _ _ _ (show k≠b from hk)).trans ?_; refine (Below.heap_setCell _ _ _ _ (show k≠b from hk)).trans ?_; refine (Below.heap_setCell _ _ _ _ (show k≠b from hk)).trans ?_; refine (Below.heap_setCell _ _ _ _ (show k≠b from hk)).trans ?_; refine (Below.heap_setCell _ _ _ _ (show k≠b from hk)).trans ?_; refine (Below.heap_setCell _ _ _ _ (show k≠b from hk)).trans ?_; exact Below.heap_setCell _ _ _ _ (show k≠b from hk)
theorem size_kid {h:Hd}{a:Option Addr}{c:Nat}{ks:List Nd}{k:Nd}(hk:k ∈ ks):size k≤size (.mk h a c ks):=by
 have:=size_mem hk
 simp only [size]; omega
inductive Twin:Nd→Nd→Prop
 | mk (h:Hd) (a a':Option Addr) (c c':Nat) (ks ks':List Nd) (hl:ks'.length=ks.length) (hk:∀ i (h1:i < ks.length) (h2:i < ks'.length),Twin ks[i] ks'[i]):Twin (.mk h a c ks) (.mk h a' c' ks')
inductive SpN:Nd→(Nat→Prop)→Prop
 | mk (h:Hd) (a:Option Addr) (c:Nat) (ks:List Nd) (P:Nat→Prop) (Q:Nat→Nat→Prop) (ha:∀ x,a=some x→P x.block∧x.off=0∧x.spot=none∧∀ i,¬ Q i x.block)
   (hs:∀ i (hi:i < ks.length),SpN ks[i] (Q i)) (hd:∀ i j b,Q i b→Q j b→i=j) (hQ:∀ i b,Q i b→P b):SpN (.mk h a c ks) P
theorem SpN.mono {P P':Nat→Prop}(hP:∀ b,P b→P' b):∀ {m:Nd},SpN m P→SpN m P':=by
 intro m h
 cases h with
 | mk h a c ks P Q ha hs hd hQ=>exact .mk h a c ks P' Q (fun x e=>⟨hP _ (ha x e).1,(ha x e).2⟩) hs hd (fun i b hq=>hP b (hQ i b hq))
theorem SpN.bk {m:Nd}:∀ {P:Nat→Prop},SpN m P→Bk P m:=by
 refine Nd.ind (P:=fun m=>∀ {P:Nat→Prop},SpN m P→Bk P m) (fun h a c ks ih P hS=>?_) m
 cases hS with
 | mk _ _ _ _ _ Q ha hs hd hQ =>
  refine .mk h a c ks (fun x e=>(ha x e).1) (fun k hk=>?_)
  obtain⟨i,hi,rfl⟩:=List.getElem_of_mem hk
  exact (ih _ hk (hs i hi)).mono fun b hb=>hQ i b hb
inductive OwnT (w:yW):Nd→Prop
 | mk (h:Hd) (a:Option Addr) (c:Nat) (ks:List Nd) (hr:RowN w (.slice a ks.length c) ks) (hs:∀ k ∈ ks,OwnT w k):OwnT w (.mk h a c ks)
theorem OwnT.bk {P:Nat→Prop}{w w':yW}(k:∀ b,b < w§→P b→w'.heap[b]? = w.heap[b]?):∀ {m:Nd},OwnT w m→Bk P m→OwnT w' m:=by
 intro m hl
 induction hl with
 | mk h a c ks hr _ ih =>
  intro hB
  cases hB with
  | mk _ _ _ _ hb hs =>
   refine .mk h a c ks (Row.of_block hr fun g hg=>k g (Row.lt hr g hg) ?_) (fun x hx=>ih x hx (hs x hx))
   cases a with
   | none=>simp [Value.ownBlock] at hg
   | some x=>simp [Value.ownBlock] at hg; rw [← hg]; exact hb x rfl
theorem OwnT.on {w w':yW}{m:Nd}(h:OwnT w m) (k:yD w w'):OwnT w' m:=by
 induction h with
 | mk h a c ks hr _ ih=>exact .mk h a c ks (Row.of_block hr fun g hg=>k.block g (Row.lt hr g hg)) ih
def Copied (m:Nd) (w:yW) (e:Ending) (w':yW):Prop:=∃ m',e=.returned (.agg m'.vals)∧Lies w' m'∧Twin m m'∧SpN m' (fun b=>w§≤b∧b < w'§)∧OwnT w' m'∧yD w w'
structure Cpd (W wr:yW) (v:Value) (ks L:List Nd) (i:Nat) (Q:Nat→Nat→Prop):Prop where
 l:L.length=i
 r:RN W wr v L
 b:∀ j (h1:j < ks.length) (h2:j < L.length),Twin ks[j] L[j]
 y:∀ j (h:j < L.length),Lies wr L[j]∧SpN L[j] (Q j)∧OwnT wr L[j]
 q:∀ j b,Q j b→W§≤b∧b < wr§∧v.ownBlock≠some b
 d:∀ i j b,Q i b→Q j b→i=j
 z:∀ j b,L.length≤j→¬ Q j b
theorem Cpd.hid {W wr:yW}{v:Value}{ks L:List Nd}{i:Nat}{Q:Nat→Nat→Prop}(h:Cpd W wr v ks L i Q):Hid (Cpd W wr v ks L i Q):=h
theorem Cpd.snoc {W wr w1 w2:yW}{v v':Value}{ks L:List Nd}{i:Nat}{k':Nd}{Q:Nat→Nat→Prop}(h:Cpd W wr v ks L i Q) (hi:i < ks.length) (hb1:yD wr w1) (hk1:Lies w1 k') (hk2:Twin ks[i] k') (hk3:SpN k' (fun b=>wr§≤b∧b < w1§)) (hk4:OwnT w1 k')
  (hr:RN W w2 v' (L ++ [k'])) (hs:w1§≤w2§) (hk:∀ b,b < w1§→v.ownBlock≠some b→w2.heap[b]? = w1.heap[b]?) (hq:v'.ownBlock=v.ownBlock∨∃ g,v'.ownBlock=some g∧w1§ < g) :
  Cpd W w2 v' ks (L ++ [k']) (i+1) (fun j b=>Q j b∨(j=i∧wr§≤b∧b < w1§)):=by
 have hW:=h.r.B.size
 have hS1:=hb1.size
 have hne:∀ b,b < w1§→v.ownBlock≠some b→v'.ownBlock≠some b:=fun b hb hn e=>by
  rcases hq with e1 | ⟨g,e1,hg⟩
  ·exact hn (e1.symm.trans e)
  ·rw [e1] at e; cases e; omega
 have hv:∀ b,wr§≤b→v.ownBlock≠some b:=fun b hb e=>by have:=h.r.row.lt b e; omega
 have hli:=h.l
 refine⟨by rw [List.length_append,h.l]; rfl,hr,fun j h1 h2=>?_,fun j hj=>?_,fun j b hb=>?_,fun a c b h1 h2=>?_,fun j b hj hb=>?_⟩
 ·by_cases hj:j < L.length
  ·rw [List.getElem_append_left hj]; exact h.b j h1 hj
  ·have e:j=L.length:=by rw [List.length_append] at h2; simp at h2; omega
   subst e
   rw [List.getElem_append_right (by omega)]
   simp only [Nat.sub_self,List.getElem_singleton]
   have e3:ks[L.length]=ks[i]:=by congr 1
   rw [e3]; exact hk2
 ·by_cases hj':j < L.length
  ·rw [List.getElem_append_left hj']
   obtain⟨y1,y2,y4⟩:=h.y j hj'
   have y3:Lies w1 L[j]:=y1.on hb1
   refine⟨y3.bk (fun b hb hp=>hk b hb (h.q j b hp).2.2) y2.bk,y2.mono fun b hp=>.inl hp,(y4.on hb1).bk (fun b hb hp=>hk b hb (h.q j b hp).2.2) y2.bk⟩
  ·have e:j=L.length:=by rw [List.length_append] at hj; simp at hj; omega
   subst e
   rw [List.getElem_append_right (by omega)]
   simp only [Nat.sub_self,List.getElem_singleton]
   exact⟨hk1.bk (fun b hb hp=>hk b hb (hv b hp.1)) hk3.bk,hk3.mono fun b hp=>.inr ⟨hli,hp⟩,hk4.bk (fun b hb hp=>hk b hb (hv b hp.1)) hk3.bk⟩
 ·rcases hb with hb | ⟨_,hb⟩
  ·obtain⟨q1,q2,q3⟩:=h.q j b hb
   exact⟨q1,by omega,hne b (by omega) q3⟩
  ·exact⟨by omega,by omega,hne b hb.2 (hv b hb.1)⟩
 ·rcases h1 with h1 | ⟨e1,h1⟩ <;> rcases h2 with h2 | ⟨e2,h2⟩
  ·exact h.d a c b h1 h2
  ·have:=(h.q a b h1).2.1; omega
  ·have:=(h.q c b h2).2.1; omega
  ·omega
 ·rw [List.length_append] at hj
  simp at hj
  rcases hb with hb | ⟨e,_⟩
  ·exact h.z j b (by omega) hb
  ·omega
theorem Cpd.nd {W wr:yW}{v:Value}{ks L:List Nd}{g:Hd}{a:Option Addr}{c:Nat}{Q:Nat→Nat→Prop}(h:Cpd W wr v ks L ks.length Q) (hr:Rg g):∃ a' c',v=.slice a' L.length c'∧Lies wr (.mk g a' c' L)∧Twin (.mk g a c ks) (.mk g a' c' L)∧SpN (.mk g a' c' L) (fun b=>W§≤b∧b < wr§)∧OwnT wr (.mk g a' c' L):=by
 have hown:∀ k ∈ L,OwnT wr k:=fun k hk=>by
  obtain⟨i,hi,rfl⟩:=List.getElem_of_mem hk
  exact (h.y i hi).2.2
 have hrow:=h.r.row
 have hlies:∀ k ∈ L,Lies wr k:=fun k hk=>by
  obtain⟨i,hi,rfl⟩:=List.getElem_of_mem hk
  exact (h.y i hi).1
 rcases h.r.row.lies with ⟨rfl,e⟩ | ⟨b,cap,rfl,hc1,hc2,hat⟩
 ·subst e
  exact⟨none,0,rfl,.mk _ _ _ _ hr (Nat.le_refl _) (by decide) (fun i hi=>by simp at hi) (fun k hk=>by cases hk),.mk _ _ _ _ _ _ _ h.l (fun i h1 h2=>by simp at h2),.mk _ _ _ _ _ Q (fun x e=>by cases e) (fun i hi=>by simp at hi) h.d (fun i b hb=>⟨(h.q i b hb).1,(h.q i b hb).2.1⟩),.mk _ _ _ _ hrow hown⟩
 ·refine⟨_,cap,rfl,.mk _ _ _ _ hr hc1 hc2 (fun i hi=>⟨b,0,rfl,by rw [← ldF_get hi]; exact hat i hi⟩) hlies,.mk _ _ _ _ _ _ _ h.l (fun i h1 h2=>h.b i h1 h2),.mk _ _ _ _ _ Q (fun x e=>?_) (fun i hi=>(h.y i hi).2.1) h.d (fun i b hb=>⟨(h.q i b hb).1,(h.q i b hb).2.1⟩),.mk _ _ _ _ hrow hown⟩
  cases e
  exact⟨⟨h.r.nb b rfl,h.r.row.lt b rfl⟩,rfl,rfl,fun i hq=>(h.q i b hq).2.2 rfl⟩
theorem KI:∀ (m:Nd) (w:yW),Lies w m→size m≤900000000→Calls zG 49 #[.agg m.vals] w (Copied m w):=by
 refine Nd.ind fun h a c ks ih w hl hz=>?_
 have hn:ks.length≤900000000:=by have:=len_sizes ks; simp only [size] at hz; omega
 obtain⟨W,eW⟩:∃ W,(w.alloc (.cells (Nd.mk h a c ks).vals 48)).alloc (.cells zNo 48)=W:=⟨_,rfl⟩
 have hbW:yD w W:=by rw [← eW]; exact Ql _ _ _
 have HI:Hid (∀ k ∈ ks,∀ (w:yW),Lies w k→Calls zG 49 #[.agg k.vals] w (Copied k w)):=fun k hk v hv=>ih k hk v hv (Nat.le_trans (size_kid hk) hz)
 have h0:NdH W w§ (.mk h a c ks):=by rw [← eW]; exact QI (Qd _ _) (by rw [Qf]; omega)
 have h1:W.heap[w§+1]? = (zC zNo 48):=by
  rw [← eW,← Qf w (.cells (Nd.mk h a c ks).vals 48)]; exact Qd _ _
 have HBW:Hid (yD w W):=hbW
 have HL:Hid (Lies W (.mk h a c ks)):=hl.on hbW
 have HRg:Hid (Rg h):=hl.rg
 have HWS:Hid (W§=w§+2):=by show _=_; rw [← eW,Qf,Qf]
 have H0:=h0.hid
 have H1:Hid (W.heap[w§+1]? = (zC zNo 48)):=h1
 have HN:Hid (ks.length≤900000000):=hn
 clear ih hl hz hn hbW h0 h1
 unfold Nd.vals hdA at eW
 show Calls zG 49 #[.agg (zX h a ks c)] w _
 simp only [Nd.h,Nd.a,Nd.c,Nd.ks] at eW
 go_enter Tryz.func49,Tryz.ntmps49
 go_wp2_with fail
 clear eW
 go_loopw [3,4] (fun v t wr=>∃ (i:Nat) (L:List Nd) (Q:Nat→Nat→Prop),i≤ks.length∧t=zI i∧Hid (Cpd W wr v ks L i Q)) (fun _ t _=>ks.length - (intOf t).toNat)
 case atStart=>exact⟨0,[],fun _ _=>False,by omega,rfl,rfl,RN.nil W,fun j h1 h2=>by simp at h2,fun j hj=>by simp at hj,fun j b hb=>hb.elim,fun i j b hb=>hb.elim,fun j b _ hb=>hb⟩
 case round =>
  obtain⟨i,L,Q,hi,rfl,HT⟩:=hrel
  have hN:NdH wr w§ (.mk h a c ks):=H0.out.on HT.out.r.B
  have q6:wr.cell? w§¢6=some (.slice a ks.length c):=Qa hN 6
  have HNr:=hN.hid
  clear hN
  by_cases hlt:i < ks.length
  ·have hlt':(i:Int) < (ks.length:Int):=by omega
   obtain⟨b,o,e1,hat⟩:=(HL.out.on HT.out.r.B).kid i hlt
   have e2:a=some b¢o:=e1
   have hk1:NdAt wr b (o+i * 8) ks[i]:=hat
   have cI:=HI.out ks[i] (QS hlt) wr ((HL.out.sub ks[i] (QS hlt)).on HT.out.r.B)
   obtain⟨k,ek⟩:∃ k,ks[i]=k:=⟨_,rfl⟩
   rw [ek] at hk1 cI
   rw [e2] at q6
   obtain⟨y0,y1,y2,y3,y4,y5,y6,y7⟩:=hk1
   unfold Nd.vals hdA at cI
   have HEK:Hid (ks[i]=k):=ek
   clear ek e1 e2 hat
   go_wp2_with fail
   refine cI.mono ?_
   rintro e w1 ⟨k',rfl,hk1,hk2,hk3,hk4,hb1⟩
   have HB1:Hid (yD wr w1):=hb1
   have HR1:Hid (RN W w1 u3 L):=HT.out.r.call hb1
   have HLn:Hid (L.length≤1000000000):=by have h1:=HN.out; have h2:=HT.out.l; show _≤_; omega
   have HK1:Hid (Lies w1 k'):=hk1
   have HK2:Hid (Twin k k'):=hk2
   have HK3:Hid (SpN k' (fun b=>wr§≤b∧b < w1§)):=hk3
   have hmx:(i:Int)+1≤9223372036854775807:=by have:=HN.out; omega
   have HK4:Hid (OwnT w1 k'):=hk4
   clear hk1 hk2 hk3 hk4 hb1 cI y0 y1 y2 y3 y4 y5 y6 y7 q6
   unfold Nd.vals hdA
   go_wp2_with (at_builtin; refine append_node rfl (.tmp 12) (.tmp 19) rfl k' HR1.out rfl rfl HLn.out ?_; intro v1 w2 hr2 hs2 hq2 hz2; have HX:Hid (Cpd W w2 v1 ks (L ++ [k']) (i+1) (fun j b=>Q j b∨(j=i∧wr§≤b∧b < w1§))):=HT.out.snoc hlt HB1.out HK1.out (by rw [HEK.out]; exact HK2.out) HK3.out HK4.out hr2 hs2 hq2 hz2; clear hr2 hs2 hq2 hz2)
   exact⟨⟨i+1,L ++ [k'],_,hlt,rfl,HX⟩,by simp only [intOf]; omega⟩
  ·obtain rfl:i=ks.length:=by omega
   have hnot:¬ (ks.length:Int) < (ks.length:Int):=by omega
   have hb1:yD W wr:=HT.out.r.B
   obtain⟨a',c',rfl,hL1,hL2,hL3,hL4⟩:=HT.out.nd (g:=h) (a:=a) (c:=c) HRg.out
   have g0:NdH wr w§ (.mk h a c ks):=HNr.out
   have g1:=(hb1.block (w§+1) (zJ H1.out).1).trans H1.out
   obtain⟨U,eU⟩:∃ U,wr.setCell w§¢6 (.slice a' L.length c')=U:=⟨_,rfl⟩
   have u0:NdH U w§ (.mk h a' c' L):=by rw [← eU]; exact Qi _ g0
   have u1:U.heap[w§+1]? = (zC zNo 48):=by
    rw [← eU]; exact (Below.heap_setCell _ _ _ _ (by simp)).trans g1
   have f6:wr.frozen? w§¢6=false:=Qb g0 6
   have HU1:Hid (U.heap[w§+1]? = (zC zNo 48)):=u1
   have q0x:U.cell? w§¢0=some (zU h.k):=Qa u0 0
   have q1x:U.cell? w§¢1=some (zU h.o):=Qa u0 1
   have q2x:U.cell? w§¢2=some (zU h.t):=Qa u0 2
   have q3x:U.cell? w§¢3=some (zI h.n):=Qa u0 3
   have q4x:U.cell? w§¢4=some (zU h.f):=Qa u0 4
   have q5x:U.cell? w§¢5=some (.string h.x):=Qa u0 5
   have q6x:U.cell? w§¢6=some (.slice a' L.length c'):=Qa u0 6
   have q7x:U.cell? w§¢7=some (zI h.p):=Qa u0 7
   have p0:U.cell? ⟨w§+1,0,none⟩=some (zU 0):=Qa u1 0
   have r0:U.frozen? ⟨w§+1,0,none⟩=false:=Qb u1 0
   have p1:U.cell? ⟨w§+1,1,none⟩=some (zU 0):=Qa u1 1
   have r1:U.frozen? ⟨w§+1,1,none⟩=false:=Qb u1 1
   have p2:U.cell? ⟨w§+1,2,none⟩=some (zU 0):=Qa u1 2
   have r2:U.frozen? ⟨w§+1,2,none⟩=false:=Qb u1 2
   have p3:U.cell? ⟨w§+1,3,none⟩=some (zI 0):=Qa u1 3
   have r3:U.frozen? ⟨w§+1,3,none⟩=false:=Qb u1 3
   have p4:U.cell? ⟨w§+1,4,none⟩=some (zU 0):=Qa u1 4
   have r4:U.frozen? ⟨w§+1,4,none⟩=false:=Qb u1 4
   have p5:U.cell? ⟨w§+1,5,none⟩=some (yQ):=Qa u1 5
   have r5:U.frozen? ⟨w§+1,5,none⟩=false:=Qb u1 5
   have p6:U.cell? ⟨w§+1,6,none⟩=some (.slice none 0 0):=Qa u1 6
   have r6:U.frozen? ⟨w§+1,6,none⟩=false:=Qb u1 6
   have p7:U.cell? ⟨w§+1,7,none⟩=some (zI 0):=Qa u1 7
   have r7:U.frozen? ⟨w§+1,7,none⟩=false:=Qb u1 7
   have HBU:Hid (yD w U):=by
    show Below _ _ _
    rw [← eU]; exact (Qe HBW.out hb1).setCell (p:=w§¢6) (Nat.le_refl _) _
   have hWs:W§=w§+2:=HWS.out
   have HLU:Hid (Lies U (.mk h a' c' L)):=by
    refine hL1.bk (P:=fun b=>W§≤b∧b < wr§) (fun b _ hp=>?_) hL3.bk
    rw [← eU]; exact Below.heap_setCell _ _ _ _ (by show b≠w§; omega)
   have HLO:Hid (OwnT U (.mk h a' c' L)):=by
    refine hL4.bk (P:=fun b=>W§≤b∧b < wr§) (fun b _ hp=>?_) hL3.bk
    rw [← eU]; exact Below.heap_setCell _ _ _ _ (by show b≠w§; omega)
   have HL2:Hid (Twin (.mk h a c ks) (.mk h a' c' L)):=hL2
   have HUs:Hid (U§=wr§):=by show _=_; rw [← eU]; simp [World.setCell]
   have HL3:Hid (SpN (.mk h a' c' L) (fun b=>W§≤b∧b < wr§)):=hL3
   have HEU:Hid (wr.setCell w§¢6 (.slice a' L.length c')=U):=eU
   clear hL1 hL2 hL3 hL4 hb1 g0 g1 u0 u1 eU
   obtain⟨Y,eY,hY1,hY2,hY3,hY4⟩:=fin8C HU1.out (zU h.k) (zU h.o) (zU h.t) (zI h.n) (zU h.f) (.string h.x) (.slice a' L.length c') (zI h.p)
   have HY:Hid (Lies Y (.mk h a' c' L)∧SpN (.mk h a' c' L) (fun b=>w§≤b∧b < Y§)∧OwnT Y (.mk h a' c' L)∧yD w Y):=by
    refine⟨HLU.out.bk (P:=fun b=>W§≤b∧b < wr§) (fun b _ hp=>hY3 b (by omega)) HL3.out.bk,HL3.out.mono fun b hp=>⟨by omega,by rw [hY2,HUs.out]; exact hp.2⟩,HLO.out.bk (P:=fun b=>W§≤b∧b < wr§) (fun b _ hp=>hY3 b (by omega)) HL3.out.bk,hY4 _ _ HBU.out (by omega)⟩
   have HY1:Hid (Y.heap[w§+1]? = (zC (Nd.mk h a' c' L).vals 48)):=hY1
   have HEY:Hid (_=Y):=eY
   clear eY hY1 hY2 hY3 hY4
   go_upto_region 7 with fail
   rw [HEU.out]
   clear f6 q6
   go_wp2_with fail
   rw [HEY.out]
   exact bodyPost_ret (results_cell_row rfl _ _ (w§+1) 48 (Nd.mk h a' c' L).vals (0,0) _ rfl HY1.out Tryz.underlying48 rfl zK) rfl ⟨.mk h a' c' L,rfl,HY.out.1,HL2.out,HY.out.2.1,HY.out.2.2.1,HY.out.2.2.2⟩
end Go.Proofs.YtoogodlnnijikaaGreatDoor
