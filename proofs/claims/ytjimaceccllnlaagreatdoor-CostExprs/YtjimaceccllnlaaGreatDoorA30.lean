import Derived.Test.YtjimaceccllnlaaGreatDoorA0
import Derived.Test.YtjimaceccllnlaaGreatDoorA29
import Derived.Test.YtjimaceccllnlaaGreatDoorA26
import Derived.Test.YtjimaceccllnlaaGreatDoorA2
import Derived.Deep.Slices
import Derived.ProofKit
import Derived.OpenShut
import Derived.ChangeArms
import Derived.SizedLaws
namespace Go.Proofs.YtjimaceccllnlaaGreatDoor
set_option maxRecDepth 100000
set_option maxHeartbeats 8000000
open Go.RowKit
set_option linter.unusedVariables false
set_option linter.unusedSimpArgs false
theorem lies_n0 (w:World):Lies w nd0T:=.mk hdN none 0 [] (by constructor <;> first | omega | decide) (Nat.le_refl _) (by decide) (fun i hi => (by cases hi)) (fun k hk => (by cases hk))
theorem stratL_0 (w:World):StratL w s0:=⟨⟨Nat.le_refl _, (by decide), fun i hi => (by cases hi)⟩, fun r hr => (by cases hr), ⟨Nat.le_refl _, (by decide), fun i hi => (by cases hi)⟩, fun r hr => (by cases hr), ⟨Nat.le_refl _, (by decide), fun i hi => (by cases hi)⟩, fun r hr => (by cases hr), (by decide:(0:Nat)≤140737488355328)⟩
theorem two_box (w:World) (x y:Array Value) (t u:TypeId):((w.alloc (.cells x t)).alloc (.cells y u)).heap[w§]?=some (.cells x t (0, 0))∧Below w§ w ((w.alloc (.cells x t)).alloc (.cells y u)):=by
 have h1:=Bn w (.cells x t)
 have h2:=Bn (w.alloc (.cells x t)) (.cells y u)
 have h3:=Hn w (.cells x t)
 exact ⟨(h2.block _ (Array.getElem?_eq_some_iff.1 h3).1).trans h3, below2 h1 h2⟩
theorem awake_any (w:World) (ht:Tab w) (hf:FTab w) (hg:Ety w):Calls zG 9 #[] w fun e w' => e=.returned (.bool true)∧Below w§ w w':=by
 have HT:Hid (Tab w∧FTab w∧Ety w):=⟨ht, hf, hg⟩
 clear ht hf hg
 go_enter Tryz.func9, Tryz.ntmps9
 go_wp2_with fail
 refine (exprX txE tE gE1 w).mono ?_
 rintro e w1 ⟨h1, hb1⟩
 rw [gE1] at h1
 obtain ⟨m, rfl, htr, hlm, _⟩:=h1
 have hbm:bare m=ndT tE:=by unfold bare; rw [htr]
 have HM:Hid (Lies w1 m∧exW m=6∧size m=6):=⟨hlm, by rw [← exW_b, hbm]; exact exE, by rw [← size_b, hbm]; exact szE⟩
 have HB1:Hid (Below w§ w w1):=hb1
 clear htr hlm hbm hb1
 unfold Nd.vals hdA
 go_upto_region 2 with fail
 obtain ⟨hx1, hy1⟩:=two_box w1 zNd m.h m.a m.ks.length m.c #[zI 0, zI 0, .bool false] 28 68
 have HY1:Hid (Below w§ w ((w1.alloc (.cells zNd m.h m.a m.ks.length m.c 28)).alloc (.cells #[zI 0, zI 0, .bool false] 68))∧Lies ((w1.alloc (.cells zNd m.h m.a m.ks.length m.c 28)).alloc (.cells #[zI 0, zI 0, .bool false] 68)) m):=⟨below2 HB1.out hy1, HM.out.1.on hy1⟩
 have HX1:Hid (((w1.alloc (.cells zNd m.h m.a m.ks.length m.c 28)).alloc (.cells #[zI 0, zI 0, .bool false] 68)).heap[w1§]?=some (.cells zNd m.h m.a m.ks.length m.c 28 (0, 0))):=hx1
 clear hx1 hy1
 generalize (w1.alloc (.cells zNd m.h m.a m.ks.length m.c 28)).alloc (.cells #[zI 0, zI 0, .bool false] 68)=W1 at HX1 HY1 ⊢
 generalize w1§=A1 at HX1 ⊢
 go_wp2_with fail
 refine (strat_l (s:=txS) pS1 W1).mono ?_
 rintro e w2 ⟨S, rfl, htr, hls, hb2⟩
 have hbs:bStr S=sT sS:=by rw [bStr_tr, htr]
 have hln:S.ts.length=2:=by have h:(bStr S).ts.length=2:=(by rw [hbs]; exact lnS); rw [← h]; exact (List.length_map _).symm
 have hch:chkE S=none:=by rw [← chkE_b, hbs]; exact chS
 have hal:=allB_w (by rw [← allB_b, hbs]; exact alS:allB S=true)
 have hco:coT S=coT (sT sS):=by rw [← coT_b, hbs]
 have HS:Hid (chkE S=none∧StratW S∧StratZ S∧S.ts.length=2∧gmx (fun p => p.1) (coT S) 2=9∧gmx (fun p => p.2) (coT S) 2=2∧coT S 1=(0, 0)):=⟨hch, hal.1, hal.2, hln, by rw [hco]; exact g1S, by rw [hco]; exact g2S, by rw [hco]; exact c1S⟩
 have HB2:Hid (Below w§ w w2∧Lies w2 m∧StratL w2 S∧w2.heap[A1]?=some (.cells zNd m.h m.a m.ks.length m.c 28 (0, 0))):=⟨below2 HY1.out.1 hb2, HY1.out.2.on hb2, hls, (hb2.block _ (Array.getElem?_eq_some_iff.1 HX1.out).1).trans HX1.out⟩
 clear htr hls hb2 hbs hln hch hal hco HY1 HX1
 unfold StratM.vals
 go_upto_region 3 with fail
 obtain ⟨hx2, hy2⟩:=two_box w2 #[.string S.x, .slice S.ra S.rs.length S.rc, .slice S.sa S.ss.length S.sc, .slice S.ta S.ts.length S.tc] #[zI 0, zI 0, .bool false] 38 68
 have HY2:Hid (Below w§ w ((w2.alloc (.cells #[.string S.x, .slice S.ra S.rs.length S.rc, .slice S.sa S.ss.length S.sc, .slice S.ta S.ts.length S.tc] 38)).alloc (.cells #[zI 0, zI 0, .bool false] 68))∧Lies ((w2.alloc (.cells #[.string S.x, .slice S.ra S.rs.length S.rc, .slice S.sa S.ss.length S.sc, .slice S.ta S.ts.length S.tc] 38)).alloc (.cells #[zI 0, zI 0, .bool false] 68)) m∧StratL ((w2.alloc (.cells #[.string S.x, .slice S.ra S.rs.length S.rc, .slice S.sa S.ss.length S.sc, .slice S.ta S.ts.length S.tc] 38)).alloc (.cells #[zI 0, zI 0, .bool false] 68)) S∧((w2.alloc (.cells #[.string S.x, .slice S.ra S.rs.length S.rc, .slice S.sa S.ss.length S.sc, .slice S.ta S.ts.length S.tc] 38)).alloc (.cells #[zI 0, zI 0, .bool false] 68)).heap[A1]?=some (.cells zNd m.h m.a m.ks.length m.c 28 (0, 0))):=⟨below2 HB2.out.1 hy2, HB2.out.2.1.on hy2, HB2.out.2.2.1.on hy2, (hy2.block _ (Array.getElem?_eq_some_iff.1 HB2.out.2.2.2).1).trans HB2.out.2.2.2⟩
 have HX2:Hid (((w2.alloc (.cells #[.string S.x, .slice S.ra S.rs.length S.rc, .slice S.sa S.ss.length S.sc, .slice S.ta S.ts.length S.tc] 38)).alloc (.cells #[zI 0, zI 0, .bool false] 68)).heap[w2§]?=some (.cells #[.string S.x, .slice S.ra S.rs.length S.rc, .slice S.sa S.ss.length S.sc, .slice S.ta S.ts.length S.tc] 38 (0, 0))):=hx2
 clear hx2 hy2 HB2
 generalize (w2.alloc (.cells #[.string S.x, .slice S.ra S.rs.length S.rc, .slice S.sa S.ss.length S.sc, .slice S.ta S.ts.length S.tc] 38)).alloc (.cells #[zI 0, zI 0, .bool false] 68)=W2 at HX2 HY2 ⊢
 generalize w2§=A2 at HX2 ⊢
 have z0:W2.cell? ⟨A1, 0, none⟩=some (zU m.h.k):=Co HY2.out.2.2.2 0
 have z1:W2.cell? ⟨A1, 1, none⟩=some (zU m.h.o):=Co HY2.out.2.2.2 1
 have z2:W2.cell? ⟨A1, 2, none⟩=some (zU m.h.t):=Co HY2.out.2.2.2 2
 have z3:W2.cell? ⟨A1, 3, none⟩=some (zI m.h.n):=Co HY2.out.2.2.2 3
 have z4:W2.cell? ⟨A1, 4, none⟩=some (zU m.h.f):=Co HY2.out.2.2.2 4
 have z5:W2.cell? ⟨A1, 5, none⟩=some (.string m.h.x):=Co HY2.out.2.2.2 5
 have z6:W2.cell? ⟨A1, 6, none⟩=some (.slice m.a m.ks.length m.c):=Co HY2.out.2.2.2 6
 have z7:W2.cell? ⟨A1, 7, none⟩=some (zI m.h.p):=Co HY2.out.2.2.2 7
 have c3:Calls zG 12 #[.agg zNd m.h m.a m.ks.length m.c] W2 fun e w' => e=.returned (zI 6)∧Below W2§ W2 w':=by
  have:=cexpr_any m W2 HY2.out.2.1 (by rw [HM.out.2.2]; decide) (HT.out.1.on HY2.out.1)
  rw [HM.out.2.1] at this
  exact this
 go_wp2_with fail
 refine c3.mono ?_
 rintro e w3 ⟨rfl, hb3⟩
 have HY3:Hid (Below w§ w w3∧StratL w3 S∧w3.heap[A2]?=some (.cells #[.string S.x, .slice S.ra S.rs.length S.rc, .slice S.sa S.ss.length S.sc, .slice S.ta S.ts.length S.tc] 38 (0, 0))):=⟨below2 HY2.out.1 hb3, HY2.out.2.2.1.on hb3, (hb3.block _ (Array.getElem?_eq_some_iff.1 HX2.out).1).trans HX2.out⟩
 have c4:Calls zG 12 #[.agg zNo] w3 fun e w' => e=.returned (zI 0)∧Below w3§ w3 w':=by
  have:=cexpr_any nd0T w3 (lies_n0 w3) (by rw [sz0]; decide) (HT.out.1.on HY3.out.1)
  rw [ex0] at this
  exact this
 clear c3 hb3 z0 z1 z2 z3 z4 z5 z6 z7 HY2 HX2
 go_wp2_with fail
 refine c4.mono ?_
 rintro e w4 ⟨rfl, hb4⟩
 have HY4:Hid (Below w§ w w4∧StratL w4 S∧w4.heap[A2]?=some (.cells #[.string S.x, .slice S.ra S.rs.length S.rc, .slice S.sa S.ss.length S.sc, .slice S.ta S.ts.length S.tc] 38 (0, 0))):=⟨below2 HY3.out.1 hb4, HY3.out.2.1.on hb4, (hb4.block _ (Array.getElem?_eq_some_iff.1 HY3.out.2.2).1).trans HY3.out.2.2⟩
 have y0:w4.cell? ⟨A2, 0, none⟩=some (.string S.x):=Co HY4.out.2.2 0
 have y1:w4.cell? ⟨A2, 1, none⟩=some (.slice S.ra S.rs.length S.rc):=Co HY4.out.2.2 1
 have y2:w4.cell? ⟨A2, 2, none⟩=some (.slice S.sa S.ss.length S.sc):=Co HY4.out.2.2 2
 have y3:w4.cell? ⟨A2, 3, none⟩=some (.slice S.ta S.ts.length S.tc):=Co HY4.out.2.2 3
 have c5:Calls zG 22 #[.agg #[.string S.x, .slice S.ra S.rs.length S.rc, .slice S.sa S.ss.length S.sc, .slice S.ta S.ts.length S.tc]] w4 fun e w' => e=.returned (.tuple #[.agg #[zI 9, zI 2], .nilIface])∧Below w4§ w4 w':=by
  have h:=HS.out
  have:=strategy_ok S w4 HY4.out.2.1 h.2.2.1 h.2.1 (HT.out.1.on HY4.out.1) (HT.out.2.1.on HY4.out.1) (HT.out.2.2.on HY4.out.1) h.1 (by rw [h.2.2.2.1, h.2.2.2.2.1]; decide)
  rw [h.2.2.2.1, h.2.2.2.2.1, h.2.2.2.2.2.1] at this
  exact this
 clear c4 hb4 HY3
 go_wp2_with fail
 refine c5.mono ?_
 rintro e w5 ⟨rfl, hb5⟩
 have h6:=Bn w5 (.cells #[zI 9, zI 2] 56)
 have n6:=Hn w5 (.cells #[zI 9, zI 2] 56)
 have hb6:=below2 hb5 h6
 have HY6:Hid (Below w§ w (w5.alloc (.cells #[zI 9, zI 2] 56))∧StratL (w5.alloc (.cells #[zI 9, zI 2] 56)) S∧(w5.alloc (.cells #[zI 9, zI 2] 56)).heap[A2]?=some (.cells #[.string S.x, .slice S.ra S.rs.length S.rc, .slice S.sa S.ss.length S.sc, .slice S.ta S.ts.length S.tc] 38 (0, 0))):=⟨below2 HY4.out.1 hb6, HY4.out.2.1.on hb6, (hb6.block _ (Array.getElem?_eq_some_iff.1 HY4.out.2.2).1).trans HY4.out.2.2⟩
 have HN6:Hid ((w5.alloc (.cells #[zI 9, zI 2] 56)).heap[w5§]?=some (.cells #[zI 9, zI 2] 56 (0, 0))):=n6
 clear h6 n6 hb6 hb5 c5 y0 y1 y2 y3 HY4
 go_upto_region 6 with fail
 generalize w5.alloc (.cells #[zI 9, zI 2] 56)=W6 at HY6 HN6 ⊢
 generalize w5§=A6 at HN6 ⊢
 have y0:W6.cell? ⟨A2, 0, none⟩=some (.string S.x):=Co HY6.out.2.2 0
 have y1:W6.cell? ⟨A2, 1, none⟩=some (.slice S.ra S.rs.length S.rc):=Co HY6.out.2.2 1
 have y2:W6.cell? ⟨A2, 2, none⟩=some (.slice S.sa S.ss.length S.sc):=Co HY6.out.2.2 2
 have y3:W6.cell? ⟨A2, 3, none⟩=some (.slice S.ta S.ts.length S.tc):=Co HY6.out.2.2 3
 have c7:Calls zG 17 #[.agg #[.string S.x, .slice S.ra S.rs.length S.rc, .slice S.sa S.ss.length S.sc, .slice S.ta S.ts.length S.tc]] W6 (OutSt W6 S):=states_any S W6 HY6.out.2.1 HS.out.2.2.1 HS.out.2.1 (HT.out.1.on HY6.out.1) (HT.out.2.1.on HY6.out.1) (HT.out.2.2.on HY6.out.1)
 go_wp2_with fail
 refine c7.mono ?_
 rintro e w7 (⟨_, G, rfl, hco, hb7⟩ | ⟨p, no, T, v, h1, _⟩)
 case inr => rw [HS.out.1] at h1; cases h1
 rw [HS.out.2.2.2.1] at hco ⊢
 have HC7:Hid (CoF w7 G 2 (coT S)):=hco
 have HY7:Hid (Below w§ w w7∧w7.heap[A6]?=some (.cells #[zI 9, zI 2] 56 (0, 0))):=⟨below2 HY6.out.1 hb7, (hb7.block _ (Array.getElem?_eq_some_iff.1 HN6.out).1).trans HN6.out⟩
 have c8:Calls zG 17 #[.agg #[.string ⟨#[]⟩, .slice none 0 0, .slice none 0 0, .slice none 0 0]] w7 (OutSt w7 s0):=states_any s0 w7 (stratL_0 w7) (fun x hx => (by cases hx)) (fun h => absurd (h.symm.trans ch0) (fun h => (by cases h))) (HT.out.1.on HY7.out.1) (HT.out.2.1.on HY7.out.1) (HT.out.2.2.on HY7.out.1)
 clear hco hb7 c7 y0 y1 y2 y3 HY6 HN6
 go_wp2_with fail
 refine c8.mono ?_
 rintro e w8 (⟨h1, _⟩ | ⟨p, no, T, v, h1, rfl, _, hb8⟩)
 case inl => rw [ch0] at h1; cases h1
 have HY8:Hid (Below w§ w w8):=below2 HY7.out.1 hb8
 have g6:=(hb8.block _ (Array.getElem?_eq_some_iff.1 HY7.out.2).1).trans HY7.out.2
 have a0:w8.cell? ⟨A6, 0, none⟩=some (zI 9):=Co g6 0
 have a1:w8.cell? ⟨A6, 1, none⟩=some (zI 2):=Co g6 1
 have k0:w8.cell? ⟨G, 2, none⟩=some (zI 0):=by have h:=(HC7.out.on hb8).c0 1 (by omega); rw [HS.out.2.2.2.2.2.2] at h; exact h
 have k1:w8.cell? ⟨G, 3, none⟩=some (zI 0):=by have h:=(HC7.out.on hb8).c1 1 (by omega); rw [HS.out.2.2.2.2.2.2] at h; exact h
 clear h1 hb8 g6 c8
 go_wp2_with fail
 go_ret
 exact ⟨rfl, HY8.out⟩
theorem formed_any:∀ (m:Nd) (w:World), Lies w m→Calls zG 24 #[.agg m.vals] w fun e w' => e=.returned (.bool (formB m))∧Below w§ w w':=by
 refine Nd.ind fun h a c ks ih w hl => ?_
 have HI:Hid (∀ k ∈ ks, ∀ (w:World), Lies w k→Calls zG 24 #[.agg k.vals] w fun e w' => e=.returned (.bool (formB k))∧Below w§ w w'):=ih
 have HL:Hid (Lies w (.mk h a c ks)):=hl
 have hb1:=Bn w (.cells zNd h a ks.length c 28)
 have hn1:=Hn w (.cells zNd h a ks.length c 28)
 obtain ⟨W1, e1⟩:∃ W, w.alloc (.cells zNd h a ks.length c 28)=W:=⟨_, rfl⟩
 have E1:Hid (w.alloc (.cells zNd h a ks.length c 28)=W1):=e1
 rw [e1] at hb1 hn1
 have HB1:Hid (Below w§ w W1):=hb1
 have HN1:Hid (W1.heap[w§]?=some (.cells zNd h a ks.length c 28 (0, 0))):=hn1
 have HCP:Hid (ks.length≤9223372036854775807):=by have h1:=hl.cap; have h2:=hl.max; simp only [Nd.ks, Nd.c] at h1 h2; show _≤_; omega
 have c1:=rone_any h a ks.length c W1 (by have:=hl.rg.x1; exact this)
 have HF:Hid (formB (.mk h a c ks)=(oneH h ks.length && formsB ks)):=by show _=_; rw [formB]
 have q0:W1.cell? ⟨w§, 0, none⟩=some (zU h.k):=Co hn1 0
 have q1:W1.cell? ⟨w§, 1, none⟩=some (zU h.o):=Co hn1 1
 have q2:W1.cell? ⟨w§, 2, none⟩=some (zU h.t):=Co hn1 2
 have q3:W1.cell? ⟨w§, 3, none⟩=some (zI h.n):=Co hn1 3
 have q4:W1.cell? ⟨w§, 4, none⟩=some (zU h.f):=Co hn1 4
 have q5:W1.cell? ⟨w§, 5, none⟩=some (.string h.x):=Co hn1 5
 have q6:W1.cell? ⟨w§, 6, none⟩=some (.slice a ks.length c):=Co hn1 6
 have q7:W1.cell? ⟨w§, 7, none⟩=some (zI h.p):=Co hn1 7
 obtain ⟨FB, eFB⟩:∃ b, formB (.mk h a c ks)=b:=⟨_, rfl⟩
 rw [eFB] at HF ⊢
 obtain ⟨B0, eB0⟩:∃ b, oneH h ks.length=b:=⟨_, rfl⟩
 rw [eB0] at c1 HF
 clear hb1 hn1 e1 ih hl eFB eB0
 show Calls zG 24 #[.agg zNd h a ks.length c] w _
 go_enter Tryz.func24, Tryz.ntmps24
 go_upto_region 1 with fail
 rw [E1.out]
 clear E1
 go_wp2_with fail
 refine c1.mono ?_
 rintro e w2 ⟨rfl, hb2⟩
 have HB2:Hid (Below w§ w w2∧w2.heap[w§]?=some (.cells zNd h a ks.length c 28 (0, 0))):=⟨below2 HB1.out hb2, (hb2.block _ (Array.getElem?_eq_some_iff.1 HN1.out).1).trans HN1.out⟩
 clear c1 hb2 q0 q1 q2 q3 q4 q5 q6 q7 HB1 HN1
 go_wp2_with fail
 go_loopw [3, 4] (fun f t wr => ∃ (i:Nat) (B:Bool), i≤ks.length∧t=zI i∧f=.bool B∧Hid (Below w§ w wr)∧Hid (wr.heap[w§]?=some (.cells zNd h a ks.length c 28 (0, 0)))∧Hid (FB=(B && formsB (ks.drop i)))) (fun _ t _ => ks.length - (intOf t).toNat)
 case atStart => exact ⟨0, B0, by omega, rfl, rfl, HB2.out.1, HB2.out.2, HF⟩
 case round =>
  obtain ⟨i, B, hi, rfl, rfl, HBR, HNR, HR⟩:=hrel
  have x6:wr.cell? ⟨w§, 6, none⟩=some (.slice a ks.length c):=Co HNR.out 6
  by_cases hlt:i < ks.length
  ·have hlt':(i:Int) < (ks.length:Int):=by omega
   cases B with
   | false =>
    have HZ:Hid (FB=false):=by show _=_; rw [HR.out]; rfl
    clear HR
    go_wp2_with fail
    go_ret
    exact ⟨by rw [HZ.out]; rfl, HBR.out⟩
   | true =>
    have hmx:(i:Int) + 1≤9223372036854775807:=by have:=HCP.out; omega
    obtain ⟨b, o, e, hat⟩:=(HL.out.on HBR.out).kid i hlt
    have e2:a=some ⟨b, o, none⟩:=e
    clear e
    subst e2
    have HMEM:Hid (ks[i] ∈ ks):=List.getElem_mem hlt
    have HD:Hid (FB=(formB ks[i] && formsB (ks.drop (i + 1)))):=by show _=_; rw [HR.out, List.drop_eq_getElem_cons hlt]; rfl
    obtain ⟨k, ek⟩:∃ k, ks[i]=k:=⟨_, rfl⟩
    have hat2:NdAt wr b (o + i * 8) k:=by rw [← ek]; exact hat
    rw [ek] at HD HMEM
    obtain ⟨z0, z1, z2, z3, z4, z5, z6, z7⟩:=hat2
    have cI:Calls zG 24 #[.agg zNd k.h k.a k.ks.length k.c] wr fun e w' => e=.returned (.bool (formB k))∧Below wr§ wr w':=HI.out k HMEM.out wr ((HL.out.on HBR.out).sub k HMEM.out)
    clear ek hat HR
    go_wp2_with fail
    refine cI.mono ?_
    rintro e w5 ⟨rfl, hb5⟩
    have HB5:Hid (Below w§ w w5):=below2 HBR.out hb5
    have HN5:Hid (w5.heap[w§]?=some (.cells zNd h (some ⟨b, o, none⟩) ks.length c 28 (0, 0))):=(hb5.block _ (Array.getElem?_eq_some_iff.1 HNR.out).1).trans HNR.out
    clear cI hb5 z0 z1 z2 z3 z4 z5 z6 z7 x6
    go_wp2_with fail
    exact ⟨⟨i + 1, formB k, hlt, rfl, rfl, HB5, HN5, HD⟩, by simp only [intOf]; omega⟩
  ·obtain rfl:i=ks.length:=by omega
   have hnot:¬ (ks.length:Int) < (ks.length:Int):=by omega
   have HZ:Hid (FB=B):=by show _=_; rw [HR.out, List.drop_length]; cases B <;> rfl
   clear HR
   go_wp2_with fail
   go_ret
   exact ⟨by rw [HZ.out]; rfl, HBR.out⟩
theorem mem_all {H:Type}{P:Program}{e:TypeId}:∀ {l:List (DataW H)}{j:Nat}{d:DataW H},l[j]?=some d→∀ n ∈ d.weights P e,n ∈ DataW.weightsAll P e l
 | d0 :: l,0,d,hd,n,hn=>by
  simp only [List.getElem?_cons_zero,Option.some.injEq] at hd
  subst hd
  simp only [DataW.weightsAll,List.mem_append]
  exact Or.inl hn
 | d0 :: l,j+1,d,hd,n,hn=>by
  simp only [List.getElem?_cons_succ] at hd
  simp only [DataW.weightsAll,List.mem_append]
  exact Or.inr (mem_all hd n hn)
 | [],_,_,hd,_,_=>by simp at hd
theorem nd_open {H:Type}{enc:TypeId × Value→H}{W:World}{held:Bool}:∀ (fuel:Nat) (cs:List Value) (x:DataW H × List MemPlace),DataW.trod enc Tryz.prog W 0 (fun _=>true) held fuel 28 cs=some x →
  (∀ z ∈ x.1.weights Tryz.prog 28,z≤reachBytes)→∃ m:Nd,cs=m.vals.toList∧Lies W m:=by
 intro fuel
 induction fuel using Nat.strongRecOn with
 | _ fuel ih =>
 intro cs x h hz
 obtain⟨xs,k,hk,hx,hlen,hxl,hf⟩:=DataW.trod_struct Tryz.underlying28 h
 rw [show Tryz.prog.cellsOf 28=8 by kernel_rfl] at hlen
 match cs,hlen with
 | [v0,v1,v2,v3,v4,v5,v6,v7],_ =>
  have hx8:xs.length=8:=hxl
  match xs,hx8 with
  | [y0,y1,y2,y3,y4,y5,y6,y7],_ =>
   have g0:DataW.trod enc Tryz.prog W 0 (fun _=>true) held k 22 (([v0,v1,v2,v3,v4,v5,v6,v7].drop 0).take (Tryz.prog.cellsOf 22))=some y0:=hf 0 _ rfl
   have g1:DataW.trod enc Tryz.prog W 0 (fun _=>true) held k 23 (([v0,v1,v2,v3,v4,v5,v6,v7].drop 1).take (Tryz.prog.cellsOf 23))=some y1:=hf 1 _ rfl
   have g2:DataW.trod enc Tryz.prog W 0 (fun _=>true) held k 24 (([v0,v1,v2,v3,v4,v5,v6,v7].drop 2).take (Tryz.prog.cellsOf 24))=some y2:=hf 2 _ rfl
   have g3:DataW.trod enc Tryz.prog W 0 (fun _=>true) held k 2 (([v0,v1,v2,v3,v4,v5,v6,v7].drop 3).take (Tryz.prog.cellsOf 2))=some y3:=hf 3 _ rfl
   have g4:DataW.trod enc Tryz.prog W 0 (fun _=>true) held k 25 (([v0,v1,v2,v3,v4,v5,v6,v7].drop 4).take (Tryz.prog.cellsOf 25))=some y4:=hf 4 _ rfl
   have g5:DataW.trod enc Tryz.prog W 0 (fun _=>true) held k 9 (([v0,v1,v2,v3,v4,v5,v6,v7].drop 5).take (Tryz.prog.cellsOf 9))=some y5:=hf 5 _ rfl
   have g6:DataW.trod enc Tryz.prog W 0 (fun _=>true) held k 26 (([v0,v1,v2,v3,v4,v5,v6,v7].drop 6).take (Tryz.prog.cellsOf 26))=some y6:=hf 6 _ rfl
   have g7:DataW.trod enc Tryz.prog W 0 (fun _=>true) held k 3 (([v0,v1,v2,v3,v4,v5,v6,v7].drop 7).take (Tryz.prog.cellsOf 3))=some y7:=hf 7 _ rfl
   rw [show Tryz.prog.cellsOf 22=1 by kernel_rfl] at g0
   rw [show Tryz.prog.cellsOf 23=1 by kernel_rfl] at g1
   rw [show Tryz.prog.cellsOf 24=1 by kernel_rfl] at g2
   rw [show Tryz.prog.cellsOf 2=1 by kernel_rfl] at g3
   rw [show Tryz.prog.cellsOf 25=1 by kernel_rfl] at g4
   rw [show Tryz.prog.cellsOf 9=1 by kernel_rfl] at g5
   rw [show Tryz.prog.cellsOf 26=1 by kernel_rfl] at g6
   rw [show Tryz.prog.cellsOf 3=1 by kernel_rfl] at g7
   obtain⟨n0,e0,_,w0⟩:=DataW.trod_int (show Tryz.prog.underlying 22=some (.int .u8) by kernel_rfl) (show DataW.trod enc Tryz.prog W 0 (fun _=>true) held k 22 [v0]=some y0 from g0)
   obtain⟨n1,e1,_,w1⟩:=DataW.trod_int (show Tryz.prog.underlying 23=some (.int .u8) by kernel_rfl) (show DataW.trod enc Tryz.prog W 0 (fun _=>true) held k 23 [v1]=some y1 from g1)
   obtain⟨n2,e2,_,w2⟩:=DataW.trod_int (show Tryz.prog.underlying 24=some (.int .u8) by kernel_rfl) (show DataW.trod enc Tryz.prog W 0 (fun _=>true) held k 24 [v2]=some y2 from g2)
   obtain⟨n3,e3,_,w3⟩:=DataW.trod_int (show Tryz.prog.underlying 2=some (.int .i64) by kernel_rfl) (show DataW.trod enc Tryz.prog W 0 (fun _=>true) held k 2 [v3]=some y3 from g3)
   obtain⟨n4,e4,_,w4⟩:=DataW.trod_int (show Tryz.prog.underlying 25=some (.int .u8) by kernel_rfl) (show DataW.trod enc Tryz.prog W 0 (fun _=>true) held k 25 [v4]=some y4 from g4)
   obtain⟨n5,e5,d5,w5⟩:=DataW.trod_string (show Tryz.prog.underlying 9=some .string by kernel_rfl) (show DataW.trod enc Tryz.prog W 0 (fun _=>true) held k 9 [v5]=some y5 from g5)
   obtain⟨n7,e7,_,w7⟩:=DataW.trod_int (show Tryz.prog.underlying 3=some (.int .i64) by kernel_rfl) (show DataW.trod enc Tryz.prog W 0 (fun _=>true) held k 3 [v7]=some y7 from g7)
   cases e0; cases e1; cases e2; cases e3; cases e4; cases e5; cases e7
   have hz':∀ (j:Nat) (t:TypeId) (d:DataW H),[22,23,24,2,25,9,26,3][j]?=some t→([y0,y1,y2,y3,y4,y5,y6,y7].map (·.1))[j]?=some d→∀ z ∈ d.weights Tryz.prog t,z≤reachBytes:=by
    intro j t d h1 h2 z hz1
    refine hz z ?_
    rw [hx]
    have:=DataW.weights_mem_each (P:=Tryz.prog) h1 h2 z hz1
    rw [show (DataW.weights Tryz.prog 28 (.agg ([y0,y1,y2,y3,y4,y5,y6,y7].map (·.1)):DataW H))=DataW.weightsEach Tryz.prog [22,23,24,2,25,9,26,3] ([y0,y1,y2,y3,y4,y5,y6,y7].map (·.1)) by
     rw [DataW.weights,Tryz.underlying28]; rfl]
    exact this
   have hr:Rg ⟨n0,n1,n2,n3,n4,n5,n7⟩:=by
    refine⟨(bounds_u8 w0).1,(bounds_u8 w0).2,(bounds_u8 w1).1,(bounds_u8 w1).2,(bounds_u8 w2).1,(bounds_u8 w2).2,(bounds_i64 w3).1,(bounds_i64 w3).2,(bounds_u8 w4).1,(bounds_u8 w4).2,(bounds_i64 w7).1,(bounds_i64 w7).2,?_⟩
    have:=hz' 5 9 y5.1 rfl rfl n5.size (by rw [d5]; simp [DataW.weights])
    have h2:reachBytes≤140737488355328:=by decide
    exact Nat.le_trans this h2
   rcases DataW.trod_slice Tryz.underlying26 (show DataW.trod enc Tryz.prog W 0 (fun _=>true) held k 26 [v6]=some y6 from g6) with ⟨hcs,_⟩ | ⟨a,len,cap,elems,rest,n,hn,hcs,hx6,hb,hl,hm,hlen',hel,hsp,hns⟩
   ·cases hcs
    exact⟨.mk ⟨n0,n1,n2,n3,n4,n5,n7⟩ none 0 [],rfl,.mk _ _ _ _ hr (Nat.le_refl _) (by decide) (fun i hi=>by simp at hi) (fun k hk=>by cases hk)⟩
   ·cases hcs
    have each:∀ i,i < len→∃ q:Nd,(∀ j,j < 8→W.cell? (a.add (i * 8+j))=q.vals.toList[j]?)∧Lies W q:=by
     intro i hi
     have h1:=hel i hi
     rw [show Tryz.prog.cellsOf 28=8 by kernel_rfl] at h1
     have h2:elems[i]?=some elems[i]:=List.getElem?_eq_getElem (by omega)
     rw [h2] at h1
     obtain⟨cs',h3,h4⟩:=Option.bind_eq_some_iff.1 h1
     obtain⟨q,hq,hlq⟩:=ih n (by omega) cs' elems[i] h4 (fun z hz1=>hz' 6 26 y6.1 rfl rfl z (by
      rw [hx6,DataW.weights,Tryz.underlying26]
      refine List.mem_cons_of_mem _ (List.mem_append_left _ ?_)
      exact mem_all (j:=i) (by simp [h2]) z hz1))
     obtain⟨_,hlen,hcell⟩:=World.cells?_some h3
     refine⟨q,fun j hj=>?_,hlq⟩
     have e0:=hcell j (by omega)
     rw [Go.Deep.add_add] at e0
     rw [e0,hq]
    have:Inhabited Nd:=⟨.mk ⟨0,0,0,0,0,⟨#[]⟩,0⟩ none 0 []⟩
    obtain⟨A,hA⟩:=Go.Deep.choose_lt each
    refine⟨.mk ⟨n0,n1,n2,n3,n4,n5,n7⟩ (some a) cap ((List.range len).map A),by simp [Nd.vals,hdA,Nd.h,Nd.a,Nd.ks,Nd.c],.mk _ _ _ _ hr (by simpa using hl) (by unfold maxLen at hm; omega) (fun i hi=>?_) (fun k hk=>?_)⟩
    ·have hi':i < len:=by simpa using hi
     have g:=(hA i hi').1
     have hc0:=(hA 0 (by omega)).1 0 (by omega)
     obtain⟨b,off,spot⟩:=a
     have hspot:spot=none:=by simpa [Addr.add] using World.cell?_spot hc0
     subst hspot
     refine⟨b,off,rfl,?_⟩
     rw [List.getElem_map,List.getElem_range]
     refine⟨?_,?_,?_,?_,?_,?_,?_,?_⟩
     ·have:=g 0 (by omega); rw [Addr.add_lit] at this; exact this
     ·have:=g 1 (by omega); rw [Addr.add_lit,← Nat.add_assoc] at this; exact this
     ·have:=g 2 (by omega); rw [Addr.add_lit,← Nat.add_assoc] at this; exact this
     ·have:=g 3 (by omega); rw [Addr.add_lit,← Nat.add_assoc] at this; exact this
     ·have:=g 4 (by omega); rw [Addr.add_lit,← Nat.add_assoc] at this; exact this
     ·have:=g 5 (by omega); rw [Addr.add_lit,← Nat.add_assoc] at this; exact this
     ·have:=g 6 (by omega); rw [Addr.add_lit,← Nat.add_assoc] at this; exact this
     ·have:=g 7 (by omega); rw [Addr.add_lit,← Nat.add_assoc] at this; exact this
    ·obtain⟨i,hi,rfl⟩:=List.mem_map.1 hk
     exact (hA i (List.mem_range.1 hi)).2
theorem nd_in {H:Type}{enc:TypeId × Value→H}{W:World}{held:Bool}{fuel:Nat}{cs:Array Value}{x:DataW H × List MemPlace}
  (h:DataW.trod enc Tryz.prog W 0 (fun _=>true) held fuel 28 (Value.agg cs).cells.toList=some x) (hz:∀ z ∈ x.1.weights Tryz.prog 28,z≤reachBytes):∃ m:Nd,cs=m.vals∧Lies W m:=by
 obtain⟨m,hm,hl⟩:=nd_open fuel _ x h hz
 exact⟨m,Array.toList_inj.1 hm,hl⟩
end Go.Proofs.YtjimaceccllnlaaGreatDoor
