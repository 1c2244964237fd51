import Derived.Test.YtoogodlnnijikaaGreatDoorA0
import Derived.Test.YtoogodlnnijikaaGreatDoorA34
import Derived.Test.YtoogodlnnijikaaGreatDoorA36
import Derived.Test.YtoogodlnnijikaaGreatDoorA20
import Derived.Test.YtoogodlnnijikaaGreatDoorA17
import Derived.Test.YtoogodlnnijikaaGreatDoorA18
import Derived.Lib.QuietBelow
import Derived.Test.YtoogodlnnijikaaGreatDoorA26
namespace Go.Proofs.YtoogodlnnijikaaGreatDoor
open Go.RowKit
set_option linter.unusedVariables false
set_option linter.unusedSimpArgs false
def FlO (r:Except (Int × Int) Int) (t E P:Int) (B:Bool):Prop:=(r=.ok t∧E=0∧P=0∧B=false)∨(r=.error (P,E)∧t=0∧B=true∧E≠0)
def OutO (w:World) (r:Except (Int × Int) Int) (e:Ending) (w':World):Prop:=∃ t E P B,e=.returned (.tuple #[zU t,.agg #[zI E,zI P,.bool B]])∧FlO r t E P B∧Below w§ w w'
set_option maxRecDepth 100000 in
set_option maxHeartbeats 8000000 in
theorem rof_any (S:StratM) (m:Nd) (w:World) (hs:StratL w S) (hl:Lies w m) (hz:size m≤900000000):Calls zG 17 #[.agg S.vals,.agg m.vals] w (OutO w (ofE S m)):=by
 obtain⟨V,eV⟩:∃ V,((w.alloc (.cells #[.string S.x,.slice S.ra S.rs.length S.rc,.slice S.sa S.ss.length S.sc,.slice S.ta S.ts.length S.tc] 27)).alloc (.cells #[zU m.h.k,zU m.h.o,zU m.h.t,zI m.h.n,zU m.h.f,.string m.h.x,.slice m.a m.ks.length m.c,zI m.h.p] 48)).alloc (.cells #[zI 0,zI 0,.bool false] 39)=V:=⟨_,rfl⟩
 have e1:Below w§ w V:=by rw [← eV]; exact (below_two _ _ _).alloc (by rw [size_alloc,size_alloc]; omega) _
 have n0:V.heap[w§]? = some (.cells #[.string S.x,.slice S.ra S.rs.length S.rc,.slice S.sa S.ss.length S.sc,.slice S.ta S.ts.length S.tc] 27 (0,0)):=by rw [← eV]; exact heap_old (heap_old (heap_new _ _) (by rw [size_alloc]; omega)) (by rw [size_alloc,size_alloc]; omega)
 have n1:V.heap[w§+1]? = some (.cells #[zU m.h.k,zU m.h.o,zU m.h.t,zI m.h.n,zU m.h.f,.string m.h.x,.slice m.a m.ks.length m.c,zI m.h.p] 48 (0,0)):=by
  rw [← eV,← size_alloc w (.cells #[.string S.x,.slice S.ra S.rs.length S.rc,.slice S.sa S.ss.length S.sc,.slice S.ta S.ts.length S.tc] 27)]; exact heap_old (heap_new _ _) (by rw [size_alloc _ (.cells #[zU m.h.k,zU m.h.o,zU m.h.t,zI m.h.n,zU m.h.f,.string m.h.x,.slice m.a m.ks.length m.c,zI m.h.p] 48)]; omega)
 have n2:V.heap[w§+2]? = some (.cells #[zI 0,zI 0,.bool false] 39 (0,0)):=by
  have e:w§+2=((w.alloc (.cells #[.string S.x,.slice S.ra S.rs.length S.rc,.slice S.sa S.ss.length S.sc,.slice S.ta S.ts.length S.tc] 27)).alloc (.cells #[zU m.h.k,zU m.h.o,zU m.h.t,zI m.h.n,zU m.h.f,.string m.h.x,.slice m.a m.ks.length m.c,zI m.h.p] 48))§:=by rw [size_alloc,size_alloc]
  rw [← eV,e]; exact heap_new _ _
 have HB:Hid (Below w§ w V):=e1
 have HS0:Hid (V.heap[w§]? = some (.cells #[.string S.x,.slice S.ra S.rs.length S.rc,.slice S.sa S.ss.length S.sc,.slice S.ta S.ts.length S.tc] 27 (0,0))):=n0
 have HM0:Hid (V.heap[w§+1]? = some (.cells #[zU m.h.k,zU m.h.o,zU m.h.t,zI m.h.n,zU m.h.f,.string m.h.x,.slice m.a m.ks.length m.c,zI m.h.p] 48 (0,0))):=n1
 have HZ0:Hid (V.heap[w§+2]? = some (.cells #[zI 0,zI 0,.bool false] 39 (0,0))):=n2
 have HL:Hid (Lies V m∧StratL V S∧size m≤900000000):=⟨hl.on e1,hs.on e1,hz⟩
 have p0:V.cell? ⟨w§+1,0,none⟩=some (zU m.h.k):=cell_of n1 0
 have p1:V.cell? ⟨w§+1,1,none⟩=some (zU m.h.o):=cell_of n1 1
 have p2:V.cell? ⟨w§+1,2,none⟩=some (zU m.h.t):=cell_of n1 2
 have p3:V.cell? ⟨w§+1,3,none⟩=some (zI m.h.n):=cell_of n1 3
 have p4:V.cell? ⟨w§+1,4,none⟩=some (zU m.h.f):=cell_of n1 4
 have p5:V.cell? ⟨w§+1,5,none⟩=some (.string m.h.x):=cell_of n1 5
 have p6:V.cell? ⟨w§+1,6,none⟩=some (.slice m.a m.ks.length m.c):=cell_of n1 6
 have p7:V.cell? ⟨w§+1,7,none⟩=some (zI m.h.p):=cell_of n1 7
 have cC:Calls zG 44 #[.agg #[zU m.h.k,zU m.h.o,zU m.h.t,zI m.h.n,zU m.h.f,.string m.h.x,.slice m.a m.ks.length m.c,zI m.h.p]] V fun e w'=>e=.returned (zI (cE m))∧Below V§ V w':=rcheckX_any m V (hl.on e1) (Nat.le_trans hz (by decide))
 obtain⟨E,eE⟩:∃ E,cE m=E:=⟨_,rfl⟩
 have HE:Hid (cE m=E):=eE
 rw [eE] at cC
 clear hs hl hz e1 n0 n1 n2 eE
 show Calls zG 17 #[.agg #[.string S.x,.slice S.ra S.rs.length S.rc,.slice S.sa S.ss.length S.sc,.slice S.ta S.ts.length S.tc],.agg #[zU m.h.k,zU m.h.o,zU m.h.t,zI m.h.n,zU m.h.f,.string m.h.x,.slice m.a m.ks.length m.c,zI m.h.p]] w _
 go_enter Tryz.func17,Tryz.ntmps17
 go_wp2_with fail
 clear eV
 refine cC.mono ?_
 rintro e w1 ⟨rfl,hb1⟩
 have HB1:Hid (Below w§ w w1):=below2 HB.out hb1
 have HBv:Hid (Below V§ V w1):=hb1
 have hz:w1.heap[w§+2]? = some (.cells #[zI 0,zI 0,.bool false] 39 (0,0)):=(hb1.block _ (Array.getElem?_eq_some_iff.1 HZ0.out).1).trans HZ0.out
 have HZ1:Hid (w1.heap[w§+2]? = some (.cells #[zI 0,zI 0,.bool false] 39 (0,0))):=hz
 clear cC hb1 p0 p1 p2 p3 p4 p5 p6 p7
 by_cases h0:E=0
 ·subst h0
  clear hz
  have n0:w1.heap[w§]? = some (.cells #[.string S.x,.slice S.ra S.rs.length S.rc,.slice S.sa S.ss.length S.sc,.slice S.ta S.ts.length S.tc] 27 (0,0)):=(HBv.out.block _ (Array.getElem?_eq_some_iff.1 HS0.out).1).trans HS0.out
  have n1:w1.heap[w§+1]? = some (.cells #[zU m.h.k,zU m.h.o,zU m.h.t,zI m.h.n,zU m.h.f,.string m.h.x,.slice m.a m.ks.length m.c,zI m.h.p] 48 (0,0)):=(HBv.out.block _ (Array.getElem?_eq_some_iff.1 HM0.out).1).trans HM0.out
  have s0:w1.cell? ⟨w§,0,none⟩=some (.string S.x):=cell_of n0 0
  have s1:w1.cell? ⟨w§,1,none⟩=some (.slice S.ra S.rs.length S.rc):=cell_of n0 1
  have s2:w1.cell? ⟨w§,2,none⟩=some (.slice S.sa S.ss.length S.sc):=cell_of n0 2
  have s3:w1.cell? ⟨w§,3,none⟩=some (.slice S.ta S.ts.length S.tc):=cell_of n0 3
  have p0:w1.cell? ⟨w§+1,0,none⟩=some (zU m.h.k):=cell_of n1 0
  have p1:w1.cell? ⟨w§+1,1,none⟩=some (zU m.h.o):=cell_of n1 1
  have p2:w1.cell? ⟨w§+1,2,none⟩=some (zU m.h.t):=cell_of n1 2
  have p3:w1.cell? ⟨w§+1,3,none⟩=some (zI m.h.n):=cell_of n1 3
  have p4:w1.cell? ⟨w§+1,4,none⟩=some (zU m.h.f):=cell_of n1 4
  have p5:w1.cell? ⟨w§+1,5,none⟩=some (.string m.h.x):=cell_of n1 5
  have p6:w1.cell? ⟨w§+1,6,none⟩=some (.slice m.a m.ks.length m.c):=cell_of n1 6
  have p7:w1.cell? ⟨w§+1,7,none⟩=some (zI m.h.p):=cell_of n1 7
  have hfm:formB m=true:=by
   have h:=HE.out
   unfold cE at h
   by_cases hf:formB m=true
   ·exact hf
   ·rw [if_neg hf] at h; cases h
  have HOF:Hid (ofE S m=tyR (regL S.rs) m):=if_pos HE.out
  have cT:Calls zG 45 #[.agg #[.string S.x,.slice S.ra S.rs.length S.rc,.slice S.sa S.ss.length S.sc,.slice S.ta S.ts.length S.tc],.agg #[zU m.h.k,zU m.h.o,zU m.h.t,zI m.h.n,zU m.h.f,.string m.h.x,.slice m.a m.ks.length m.c,zI m.h.p]] w1 (OutF w1 (tyR (regL S.rs) m)):=rtyped_any S m w1 (HL.out.2.1.on HBv.out) (HL.out.1.on HBv.out) hfm HL.out.2.2
  clear n0 n1 hfm
  go_wp2_with fail
  refine cT.mono ?_
  rintro e w2 ⟨t1,E1,P1,B1,rfl,hr1,hb2⟩
  have HR:Hid (FlO (ofE S m) t1 E1 P1 B1):=by
   show FlO _ _ _ _ _
   rw [HOF.out]
   rcases hr1 with h | ⟨h1,h2,h3,h4⟩
   ·exact .inl h
   ·exact .inr ⟨h1,h2,h3,by rcases h4 with rfl | rfl <;> decide⟩
  have HB2:Hid (Below w§ w w2):=below2 HB1.out hb2
  have hz:w2.heap[w§+2]? = some (.cells #[zI 0,zI 0,.bool false] 39 (0,0)):=(hb2.block _ (Array.getElem?_eq_some_iff.1 HZ1.out).1).trans HZ1.out
  have HZ2:Hid (w2.heap[w§+2]? = some (.cells #[zI 0,zI 0,.bool false] 39 (0,0))):=hz
  have z0:w2.cell? ⟨w§+2,0,none⟩=some (zI 0):=cell_of hz 0
  have f0:w2.frozen? ⟨w§+2,0,none⟩=false:=frozen_of hz 0
  have z1:w2.cell? ⟨w§+2,1,none⟩=some (zI 0):=cell_of hz 1
  have f1:w2.frozen? ⟨w§+2,1,none⟩=false:=frozen_of hz 1
  have z2:w2.cell? ⟨w§+2,2,none⟩=some (.bool false):=cell_of hz 2
  have f2:w2.frozen? ⟨w§+2,2,none⟩=false:=frozen_of hz 2
  clear cT hr1 hb2 hz s0 s1 s2 s3 p0 p1 p2 p3 p4 p5 p6 p7
  go_wp2_with fail
  exact bodyPost_ret (results_tc rfl _ _ (w§+2) 39 #[zI E1,zI P1,.bool B1] (0,0) _ rfl (put3u HZ2.out _ _ _) Tryz.underlying39 rfl size39) rfl ⟨t1,E1,P1,B1,rfl,HR.out,below3u HB2.out (by omega) _ _ _⟩
 ·have hne:(E != 0)=true:=by simpa using h0
  have HOF:Hid (ofE S m=.error (0,E)):=by
   show _=_
   unfold ofE
   rw [HE.out,if_neg h0]
  have HN0:Hid (E≠0):=h0
  have z0:w1.cell? ⟨w§+2,0,none⟩=some (zI 0):=cell_of hz 0
  have f0:w1.frozen? ⟨w§+2,0,none⟩=false:=frozen_of hz 0
  have z1:w1.cell? ⟨w§+2,1,none⟩=some (zI 0):=cell_of hz 1
  have f1:w1.frozen? ⟨w§+2,1,none⟩=false:=frozen_of hz 1
  have z2:w1.cell? ⟨w§+2,2,none⟩=some (.bool false):=cell_of hz 2
  have f2:w1.frozen? ⟨w§+2,2,none⟩=false:=frozen_of hz 2
  clear h0 hz
  go_wp2_with fail
  exact bodyPost_ret (results_tc rfl _ _ (w§+2) 39 #[zI E,zI 0,.bool true] (0,0) _ rfl (put3u HZ1.out _ _ _) Tryz.underlying39 rfl size39) rfl ⟨0,E,0,true,rfl,.inr ⟨HOF.out,rfl,rfl,HN0.out⟩,below3u HB1.out (by omega) _ _ _⟩
namespace X
def DoY (d:DoM):Prop:=size d.sd≤1048576∧size d.qt≤1048576∧size d.pr≤1048576∧size d.vl≤1048576
def RuleY (r:RuleM):Prop:=size r.m≤1048576∧r.ds.length≤1048576∧∀ d ∈ r.ds,DoY d
def StateY (r:StateM):Prop:=r.rs.length≤1048576∧∀ d ∈ r.rs,RuleY d
def StratY (S:StratM):Prop:=S.rs.length≤1048576∧(∀ r ∈ S.rs,size r.m≤1048576)∧S.ss.length≤1048576∧S.ts.length≤1048576∧∀ d ∈ S.ts,StateY d
def WghD (d:DoM) (n r:Int):Prop:=0≤r∧r≤n+900000000000000∧(r≤1048576→DoY d∧n≤r)
set_option maxRecDepth 100000 in
set_option maxHeartbeats 8000000 in
theorem weighDo_any (d:DoM) (w:World) (n:Int) (hl:DoL w d) (h1:0≤n) (h2:n≤2251799813685248):Calls zG 79 #[.agg d.vals,zI n] w fun e w'=>(∃ r,e=.returned (zI r)∧WghD d n r)∧Below w§ w w':=by
 have hb0:=below_new w (.cells d.vals 105)
 have hn0:=heap_new w (.cells d.vals 105)
 have hx:d.x.size≤140737488355328:=hl.2.2.2.2.2.2.2
 have HH:Hid (DoL w d∧0≤n∧n≤2251799813685248∧(d.x.size:Int)≤140737488355328):=⟨hl,h1,h2,by omega⟩
 have HN0:Hid ((w.alloc (.cells d.vals 105)).heap[w§]? = some (.cells d.vals 105 (0,0))):=hn0
 have HB0:Hid (Below w§ w (w.alloc (.cells d.vals 105))):=hb0
 have q2:(w.alloc (.cells d.vals 105)).cell? ⟨w§,2,none⟩=some (.string d.x):=cell_of hn0 2
 have g1:n+(d.x.size:Int)≤9223372036854775807:=by omega
 have g2:-9223372036854775808≤n+(d.x.size:Int):=by omega
 have c1:=weigh_top d.sd (w.alloc (.cells d.vals 105)) (n+(d.x.size:Int)) (hl.1.on hb0) (by omega) (by omega)
 clear hl h1 h2 hx hb0 hn0
 go_enter Tryz.func79,Tryz.ntmps79
 go_wp2_with (refine wpList_load_mid rfl 48 _ rfl w§ 3 rfl d.sd.vals.toList _ (nd_rng HN0.out 3 d.sd (do_sd d)) Tryz.underlying48 rfl (size38 d.sd) ?_; rw [toArr])
 refine c1.mono ?_
 rintro e w1 ⟨⟨r1,rfl,hr1⟩,hb⟩
 have HR1:Hid (Wgt d.sd (n+(d.x.size:Int)) r1):=hr1
 have HB1:Hid (Below w§ w w1):=below2 HB0.out hb
 have HD1:Hid (w1.heap[w§]? = some (.cells d.vals 105 (0,0))):=(hb.block _ (Array.getElem?_eq_some_iff.1 HN0.out).1).trans HN0.out
 have c2:=weigh_top d.qt w1 r1 (HH.out.1.2.1.on HB1.out) hr1.1 (by have h1:=hr1.2.1; have h2:=HH.out.2; omega)
 clear c1 hr1 hb q2 HN0 HB0
 go_wp2_with (refine wpList_load_mid rfl 48 _ rfl w§ 11 rfl d.qt.vals.toList _ (nd_rng HD1.out 11 d.qt (do_qt d)) Tryz.underlying48 rfl (size38 d.qt) ?_; rw [toArr])
 refine c2.mono ?_
 rintro e w2 ⟨⟨r2,rfl,hr2⟩,hb⟩
 have HR2:Hid (Wgt d.qt r1 r2):=hr2
 have HB2:Hid (Below w§ w w2):=below2 HB1.out hb
 have HD2:Hid (w2.heap[w§]? = some (.cells d.vals 105 (0,0))):=(hb.block _ (Array.getElem?_eq_some_iff.1 HD1.out).1).trans HD1.out
 have c3:=weigh_top d.pr w2 r2 (HH.out.1.2.2.1.on HB2.out) hr2.1 (by have h1:=hr2.2.1; have h3:=HR1.out.2.1; have h2:=HH.out.2; omega)
 clear c2 hr2 hb HD1 HB1
 go_wp2_with (refine wpList_load_mid rfl 48 _ rfl w§ 19 rfl d.pr.vals.toList _ (nd_rng HD2.out 19 d.pr (do_pr d)) Tryz.underlying48 rfl (size38 d.pr) ?_; rw [toArr])
 refine c3.mono ?_
 rintro e w3 ⟨⟨r3,rfl,hr3⟩,hb⟩
 have HR3:Hid (Wgt d.pr r2 r3):=hr3
 have HB3:Hid (Below w§ w w3):=below2 HB2.out hb
 have HD3:Hid (w3.heap[w§]? = some (.cells d.vals 105 (0,0))):=(hb.block _ (Array.getElem?_eq_some_iff.1 HD2.out).1).trans HD2.out
 have c4:=weigh_top d.vl w3 r3 (HH.out.1.2.2.2.1.on HB3.out) hr3.1 (by have h1:=hr3.2.1; have h4:=HR2.out.2.1; have h3:=HR1.out.2.1; have h2:=HH.out.2; omega)
 clear c3 hr3 hb HD2 HB2
 go_wp2_with (refine wpList_load_mid rfl 48 _ rfl w§ 27 rfl d.vl.vals.toList _ (nd_rng HD3.out 27 d.vl (do_vl d)) Tryz.underlying48 rfl (size38 d.vl) ?_; rw [toArr])
 refine c4.mono ?_
 rintro e w4 ⟨⟨r4,rfl,hr4⟩,hb⟩
 have HR4:Hid (Wgt d.vl r3 r4):=hr4
 have HB4:Hid (Below w§ w w4):=below2 HB3.out hb
 clear c4 hr4 hb
 go_wp2_with fail
 go_ret
 have a1:=HR1.out; have a2:=HR2.out; have a3:=HR3.out; have a4:=HR4.out; have a0:=HH.out.2
 have s1:=size_wt d.sd; have s2:=size_wt d.qt; have s3:=size_wt d.pr; have s4:=size_wt d.vl
 refine⟨⟨r4,rfl,a4.1,by have b1:=a1.2.1; have b2:=a2.2.1; have b3:=a3.2.1; have b4:=a4.2.1; omega,fun hh=>?_⟩,HB4.out⟩
 have e4:=a4.2.2 hh
 have e3:=a3.2.2 (by omega)
 have e2:=a2.2.2 (by omega)
 have e1:=a1.2.2 (by omega)
 exact⟨⟨by omega,by omega,by omega,by omega⟩,by omega⟩
end X
namespace X
open Go.Sort
theorem wr64 {n:Int}(h1:-9223372036854775808≤n) (h2:n≤9223372036854775807):IntKind.i64.wrap n=n:=by rw [IntKind.wrap_i64]; omega
theorem take_snoc {α:Type}{l:List α}{i:Nat}(h:i < l.length) {P:α→Prop}(h1:∀ x ∈ l.take i,P x) (h2:P l[i]):∀ x ∈ l.take (i+1),P x:=by
 intro x hx
 rw [List.take_succ_eq_append_getElem h] at hx
 rcases List.mem_append.1 hx with h3 | h3
 ·exact h1 x h3
 ·obtain rfl:=List.mem_singleton.1 h3; exact h2
def QR (S:StratM) (i:Nat) (z:Int):Prop:=(i:Int)≤z∧(z≤1048576→∀ x ∈ S.rs.take i,size x.m≤1048576)
theorem wgt_more {m:Nd}{z k r:Int}(h:Wgt m (z+1+k) r) (hz:z≤1048576) (hk:0≤k):z+1≤r:=by
 by_cases hr:r≤1048576
 ·have:=h.2.2 hr; omega
 ·omega
theorem wgt_one {m:Nd}{z r:Int}(h:Wgt m (z+1) r) (hz:z≤1048576):z+1≤r:=by
 by_cases hr:r≤1048576
 ·have:=h.2.2 hr; omega
 ·omega
theorem QR.next {S:StratM}{i:Nat}{z k r:Int}(h:QR S i z) (hi:i < S.rs.length) (hz:z≤1048576) (h0:0≤z) (hk:0≤k) (hw:Wgt S.rs[i].m (z+1+k) r):QR S (i+1) r:=by
 refine⟨by have:=wgt_more hw hz hk; have:=h.1; omega,fun hr=>take_snoc hi (h.2 hz) ?_⟩
 have h1:=hw.2.2 hr
 have h2:=size_wt S.rs[i].m
 omega
def WghS (S:StratM) (r:Int):Prop:=0≤r∧r≤2000000000000000∧(r≤1048576→StratY S)
set_option maxRecDepth 100000 in
set_option maxHeartbeats 16000000 in
theorem weighS_any (S:StratM) (w:World) (hl:StratL w S):Calls zG 37 #[.agg S.vals] w fun e w'=>(∃ r,e=.returned (zI r)∧WghS S r)∧Below w§ w w':=by
 have hb0:=below_new w (.cells S.vals 27)
 have hn0:=heap_new w (.cells S.vals 27)
 have hx:S.x.size≤140737488355328:=hl.2.2.2.2.2.2
 have HXS:Hid ((S.x.size:Int)≤140737488355328):=by show (S.x.size:Int)≤_; omega
 have q0:(w.alloc (.cells S.vals 27)).cell? ⟨w§,0,none⟩=some (.string S.x):=cell_of hn0 0
 obtain⟨V,eV⟩:∃ V,w.alloc (.cells S.vals 27)=V:=⟨_,rfl⟩
 have HV:Hid (w.alloc (.cells S.vals 27)=V):=eV
 have BOX:Hid (∀ u,Below V§ V u→u.heap[w§]? = some (.cells S.vals 27 (0,0))):=fun u hu=>by rw [← eV] at hu; exact (hu.block _ (Array.getElem?_eq_some_iff.1 hn0).1).trans hn0
 have HBV:Hid (Below w§ w V):=by show Below w§ w V; rw [← eV]; exact hb0
 have HL:Hid (StratL V S):=hl.on HBV.out
 clear hl hb0 hn0 eV hx
 go_enter Tryz.func37,Tryz.ntmps37
 go_wp2_with fail
 rw [HV.out]
 clear q0 HV
 go_loopw [3,4] (fun v t wr=>∃ (i:Nat) (z:Int),i≤S.rs.length∧t=zI i∧v=zI z∧Below V§ V wr∧Hid (0≤z∧z≤1000000000000000)∧Hid (QR S i z)) (fun _ t _=>S.rs.length - (intOf t).toNat)
 case atStart=>exact⟨0,(S.x.size:Int),by omega,rfl,rfl,Below.refl _ _,⟨by omega,by have:=HXS.out; omega⟩,by omega,fun _ x hx=>by simp at hx⟩
 case round =>
  obtain⟨i,z,hi,rfl,rfl,hbr,HR,HQ⟩:=hrel
  have HBR:Hid (Below V§ V wr):=hbr
  clear hbr
  have q1:wr.cell? ⟨w§,1,none⟩=some (.slice S.ra S.rs.length S.rc):=cell_of (BOX.out _ HBR.out) 1
  by_cases hlt:i < S.rs.length
  ·have hlt':(i:Int) < (S.rs.length:Int):=by omega
   by_cases hz:z≤1048576
   ·have hmx:(i:Int)+1≤9223372036854775807:=by have h1:=HL.out.1.1; have h2:=HL.out.1.2.1; rw [List.length_map] at h1; omega
    obtain⟨b,o,ea,hat⟩:=(HL.out.1.on (mapz RegM.sz _) HBR.out).2.2 i (by rw [List.length_map]; exact hlt)
    simp only [List.getElem_map] at hat
    have HMEM:Hid (RegL V S.rs[i]):=HL.out.2.1 _ (List.getElem_mem hlt)
    have HPQ:Hid (∀ k r,0≤k→Wgt S.rs[i].m (z+1+k) r→QR S (i+1) r):=fun k r hk hw=>HQ.out.next hlt hz HR.out.1 hk hw
    obtain⟨d,ed⟩:∃ d,S.rs[i]=d:=⟨_,rfl⟩
    rw [ed] at hat HMEM HPQ
    have y0:wr.cell? ⟨b,o+i * 11,none⟩=some (.string d.x):=hat 0 (by omega)
    have HRG:Hid (wr.rangeAt b (o+i * 11+2) d.m.vals.toList):=fun j v hv=>by
     have hj:j < 8:=(List.getElem?_eq_some_iff.1 hv).1
     have:=hat (2+j) (by omega)
     rw [show o+i * 11+2+j=o+i * 11+(2+j) by omega,this,reg_m d j hj,← hv]
    have HDX:Hid ((d.x.size:Int)≤140737488355328):=by have:d.x.size≤140737488355328:=HMEM.out.2.2.2; show (d.x.size:Int)≤_; omega
    have g1:z+1≤9223372036854775807:=by omega
    have g2:-9223372036854775808≤z+1:=by have:=HR.out; omega
    have g3:z+1+(d.x.size:Int)≤9223372036854775807:=by have:=HDX.out; omega
    have g4:-9223372036854775808≤z+1+(d.x.size:Int):=by have:=HR.out; omega
    rw [ea] at q1
    have hd2:∀ j,j < 8→wr.cell? ⟨b,o+i * 11+2+j,none⟩=d.m.vals.toList[j]?:=fun j hj=>by
     have:=hat (2+j) (by omega)
     rw [show o+i * 11+2+j=o+i * 11+(2+j) by omega,this,reg_m d j hj]
    have HKP:Hid (∀ v,GB wr v→v.cell? ⟨w§,1,none⟩=some (.slice (some ⟨b,o,none⟩) S.rs.length S.rc)∧v.cell? ⟨b,o+i * 11,none⟩=some (.string d.x)∧v.cell? ⟨b,o+i * 11+2,none⟩=some (zU d.m.h.k)∧v.cell? ⟨b,o+i * 11+2+1,none⟩=some (zU d.m.h.o)∧v.cell? ⟨b,o+i * 11+2+2,none⟩=some (zU d.m.h.t)∧v.cell? ⟨b,o+i * 11+2+3,none⟩=some (zI d.m.h.n)∧v.cell? ⟨b,o+i * 11+2+4,none⟩=some (zU d.m.h.f)∧v.cell? ⟨b,o+i * 11+2+5,none⟩=some (.string d.m.h.x)∧v.cell? ⟨b,o+i * 11+2+6,none⟩=some (.slice d.m.a d.m.ks.length d.m.c)∧v.cell? ⟨b,o+i * 11+2+7,none⟩=some (zI d.m.h.p)∧GB wr v):=fun v hv=>by
     have kp:∀ (a:Addr) (x:Value),wr.cell? a=some x→v.cell? a=some x:=fun a x h=>(World.cell?_of_block (hv.block _ (World.block_lt_of_cell? wr _ h))).trans h
     exact⟨kp _ _ q1,kp _ _ y0,kp _ _ (hd2 0 (by omega)),kp _ _ (hd2 1 (by omega)),kp _ _ (hd2 2 (by omega)),kp _ _ (hd2 3 (by omega)),kp _ _ (hd2 4 (by omega)),kp _ _ (hd2 5 (by omega)),kp _ _ (hd2 6 (by omega)),kp _ _ (hd2 7 (by omega)),hv⟩
    have c1:∀ v,GB wr v→Calls zG 38 #[.agg #[zU d.m.h.k,zU d.m.h.o,zU d.m.h.t,zI d.m.h.n,zU d.m.h.f,.string d.m.h.x,.slice d.m.a d.m.ks.length d.m.c,zI d.m.h.p],zI (z+1+(d.x.size:Int)),zI 0] v fun e w'=>(∃ r,e=.returned (zI r)∧Wgt d.m (z+1+(d.x.size:Int)) r)∧Below v§ v w':=fun v hv=>weigh_top d.m v (z+1+(d.x.size:Int)) ((HMEM.out.1.on HBR.out).on hv) (by have:=HR.out; omega) (by have:=HDX.out; omega)
    have y1:wr.cell? ⟨b,o+i * 11+2,none⟩=some (zU d.m.h.k):=hd2 0 (by omega)
    clear hat ed ea hd2
    go_upto_region 5 with fail
    obtain⟨r,er⟩:∃ r,wgE d.m (z+1+(d.x.size:Int)) 0=r:=⟨_,rfl⟩
    have hr:Wgt d.m (z+1+(d.x.size:Int)) r:=by rw [← er]; exact wgt_of HMEM.out.1 (by have:=HR.out; omega)
    have cq:∀ dq os,Calls zG 38 #[.agg #[zU d.m.h.k,zU d.m.h.o,zU d.m.h.t,zI d.m.h.n,zU d.m.h.f,.string d.m.h.x,.slice d.m.a d.m.ks.length d.m.c,zI d.m.h.p],zI (z+1+(d.x.size:Int)),zI 0] (grow (redrawn wr dq) os) fun e w''=>e=.returned (zI r)∧∃ p:Regrown,w''=grow (redrawn wr p.d) p.os:=fun dq os=>Calls.regrown_of (by rw [← er]; exact weigh_any d.m _ (z+1+(d.x.size:Int)) 0 ((HMEM.out.1.on HBR.out).on (below_regrown wr dq os)) (by have:=HR.out; omega) (by have:=HDX.out; omega) (by omega) (by omega))
    obtain⟨l1,l0,m0,m1,m2,m3,m4,m5,m6,m7,_⟩:=HKP.out wr (GB.refl _)
    have k1:=cell_regrown l1
    have k0:=cell_regrown l0
    have j0:=cell_regrown m0
    have j1:=cell_regrown m1
    have j2:=cell_regrown m2
    have j3:=cell_regrown m3
    have j4:=cell_regrown m4
    have j5:=cell_regrown m5
    have j6:=cell_regrown m6
    have j7:=cell_regrown m7
    have hw1:IntKind.i64.wrap (z+1)=z+1:=wr64 g2 g1
    have hw2:IntKind.i64.wrap (z+1+(d.x.size:Int))=z+1+(d.x.size:Int):=wr64 g4 g3
    refine wp_region_quiet_below zK zK ?_
    repeat (quiet_step (first | (simp only [hw1,hw2]; exact cq _ _) | exact cq _ _))
    refine wpQuiet_nil ?_
    intro _ hw'
    obtain⟨⟨dq,osq⟩,hw''⟩:=hw'
    subst hw''
    have HB5:Hid (Below V§ V (grow (redrawn wr dq) osq)):=below2 HBR.out (below_regrown wr dq osq)
    generalize grow (redrawn wr dq) osq=w5 at HB5 ⊢
    have HR5:Hid (0≤r∧r≤1000000000000000):=⟨hr.1,by have h1:=hr.2.1; have h2:=HDX.out; omega⟩
    have HQ5:Hid (QR S (i+1) r):=HPQ.out _ r (by omega) hr
    clear hr er cq c1 q1 y0 y1 l1 l0 m0 m1 m2 m3 m4 m5 m6 m7 k1 k0 j0 j1 j2 j3 j4 j5 j6 j7 hw1 hw2 HKP
    go_wp2_with fail
    exact⟨⟨i+1,r,hlt,rfl,rfl,HB5.out,HR5.out,HQ5.out⟩,by simp only [intOf]; omega⟩
   ·go_wp2_with fail
    go_loopw [3,5] (fun v t wr=>t=zI 0∧v=zI z∧Below V§ V wr) (fun _ _ _=>0)
    case atStart=>exact⟨rfl,rfl,HBR.out⟩
    case round =>
     obtain⟨rfl,rfl,hx2⟩:=hrel
     have HX2:Hid (Below V§ V wr):=hx2
     clear hx2
     have p2:wr.cell? ⟨w§,2,none⟩=some (.slice S.sa S.ss.length S.sc):=cell_of (BOX.out _ HX2.out) 2
     by_cases hl2:(0:Int) < (S.ss.length:Int)
     ·go_wp2_with fail
      go_loopw [3,6] (fun v t wr=>t=zI 0∧v=zI z∧Below V§ V wr) (fun _ _ _=>0)
      case atStart=>exact⟨rfl,rfl,HX2.out⟩
      case round =>
       obtain⟨rfl,rfl,hx3⟩:=hrel
       have HX3:Hid (Below V§ V wr):=hx3
       clear hx3
       have p3:wr.cell? ⟨w§,3,none⟩=some (.slice S.ta S.ts.length S.tc):=cell_of (BOX.out _ HX3.out) 3
       by_cases hl3:(0:Int) < (S.ts.length:Int)
       ·go_wp2_with fail
        go_ret
        exact⟨⟨_,rfl,HR.out.1,by have:=HR.out.2; omega,fun hh=>absurd hh (by omega)⟩,below2 HBV.out HX3.out⟩
       ·go_wp2_with fail
        go_ret
        exact⟨⟨_,rfl,HR.out.1,by have:=HR.out.2; omega,fun hh=>absurd hh (by omega)⟩,below2 HBV.out HX3.out⟩
     ·go_wp2_with fail
      go_loopw [3,6] (fun v t wr=>t=zI 0∧v=zI z∧Below V§ V wr) (fun _ _ _=>0)
      case atStart=>exact⟨rfl,rfl,HX2.out⟩
      case round =>
       obtain⟨rfl,rfl,hx3⟩:=hrel
       have HX3:Hid (Below V§ V wr):=hx3
       clear hx3
       have p3:wr.cell? ⟨w§,3,none⟩=some (.slice S.ta S.ts.length S.tc):=cell_of (BOX.out _ HX3.out) 3
       by_cases hl3:(0:Int) < (S.ts.length:Int)
       ·go_wp2_with fail
        go_ret
        exact⟨⟨_,rfl,HR.out.1,by have:=HR.out.2; omega,fun hh=>absurd hh (by omega)⟩,below2 HBV.out HX3.out⟩
       ·go_wp2_with fail
        go_ret
        exact⟨⟨_,rfl,HR.out.1,by have:=HR.out.2; omega,fun hh=>absurd hh (by omega)⟩,below2 HBV.out HX3.out⟩
  ·obtain rfl:i=S.rs.length:=by omega
   have hnot:¬ (S.rs.length:Int) < (S.rs.length:Int):=by omega
   go_wp2_with fail
   go_loopw [3,5] (fun v t wr=>∃ (i2:Nat) (z2:Int),i2≤S.ss.length∧t=zI i2∧v=zI z2∧Below V§ V wr∧Hid (0≤z2∧z2≤1000000000000000)∧Hid (z≤z2∧(i2:Int)≤z2)) (fun _ t _=>S.ss.length - (intOf t).toNat)
   case atStart=>exact⟨0,z,by omega,rfl,rfl,HBR.out,HR.out,Int.le_refl _,HR.out.1⟩
   case round =>
    obtain⟨i2,z2,hi2,rfl,rfl,hbr2,HR2,HQ2⟩:=hrel
    have HBR2:Hid (Below V§ V wr):=hbr2
    clear hbr2 q1 HBR HR
    have q2:wr.cell? ⟨w§,2,none⟩=some (.slice S.sa S.ss.length S.sc):=cell_of (BOX.out _ HBR2.out) 2
    by_cases hlt:i2 < S.ss.length
    ·have hlt':(i2:Int) < (S.ss.length:Int):=by omega
     by_cases hz:z2≤1048576
     ·have hmx:(i2:Int)+1≤9223372036854775807:=by have h1:=HL.out.2.2.1.1; have h2:=HL.out.2.2.1.2.1; rw [List.length_map] at h1; omega
      obtain⟨b,o,ea,hat⟩:=(HL.out.2.2.1.on (mapz SlotM.sz _) HBR2.out).2.2 i2 (by rw [List.length_map]; exact hlt)
      simp only [List.getElem_map] at hat
      have HMEM:Hid (SlotL S.ss[i2]):=HL.out.2.2.2.1 _ (List.getElem_mem hlt)
      obtain⟨d,ed⟩:∃ d,S.ss[i2]=d:=⟨_,rfl⟩
      rw [ed] at hat HMEM
      have y0:wr.cell? ⟨b,o+i2 * 2,none⟩=some (.string d.x):=hat 0 (by omega)
      have HDX:Hid ((d.x.size:Int)≤140737488355328):=by have:d.x.size≤140737488355328:=HMEM.out.2; show (d.x.size:Int)≤_; omega
      have g1:z2+1≤9223372036854775807:=by omega
      have g2:-9223372036854775808≤z2+1:=by have:=HR2.out; omega
      have g3:z2+1+(d.x.size:Int)≤9223372036854775807:=by have:=HDX.out; omega
      have g4:-9223372036854775808≤z2+1+(d.x.size:Int):=by have:=HR2.out; omega
      rw [ea] at q2
      clear hat ed ea
      go_wp2_with fail
      exact⟨⟨i2+1,z2+1+(d.x.size:Int),hlt,rfl,rfl,HBR2.out,⟨by have:=HR2.out; omega,by have:=HDX.out; omega⟩,by have:=HQ2.out; omega,by have:=HQ2.out; omega⟩,by simp only [intOf]; omega⟩
     ·go_wp2_with fail
      go_loopw [3,6] (fun v t wr=>t=zI 0∧v=zI z2∧Below V§ V wr) (fun _ _ _=>0)
      case atStart=>exact⟨rfl,rfl,HBR2.out⟩
      case round =>
       obtain⟨rfl,rfl,hx3⟩:=hrel
       have HX3:Hid (Below V§ V wr):=hx3
       clear hx3
       have p3:wr.cell? ⟨w§,3,none⟩=some (.slice S.ta S.ts.length S.tc):=cell_of (BOX.out _ HX3.out) 3
       by_cases hl3:(0:Int) < (S.ts.length:Int)
       ·go_wp2_with fail
        go_ret
        exact⟨⟨_,rfl,HR2.out.1,by have:=HR2.out.2; omega,fun hh=>absurd hh (by omega)⟩,below2 HBV.out HX3.out⟩
       ·go_wp2_with fail
        go_ret
        exact⟨⟨_,rfl,HR2.out.1,by have:=HR2.out.2; omega,fun hh=>absurd hh (by omega)⟩,below2 HBV.out HX3.out⟩
    ·obtain rfl:i2=S.ss.length:=by omega
     have hnot2:¬ (S.ss.length:Int) < (S.ss.length:Int):=by omega
     go_wp2_with fail
     go_loopw [3,6] (fun v t wr=>∃ (i3:Nat) (z3:Int),i3≤S.ts.length∧t=zI i3∧v=zI z3∧Below V§ V wr∧Hid (0≤z3∧z3≤1000000000000000∧(z3≤1048576→∀ x ∈ S.ts.take i3,StateY x))∧Hid (z2≤z3∧(i3:Int)≤z3)) (fun _ t _=>S.ts.length - (intOf t).toNat)
     case atStart=>exact⟨0,z2,by omega,rfl,rfl,HBR2.out,⟨HR2.out.1,HR2.out.2,fun _ x hx=>by simp at hx⟩,Int.le_refl _,HR2.out.1⟩
     case round =>
      obtain⟨i3,z3,hi3,rfl,rfl,hbr3,HR3,HQ3⟩:=hrel
      have HBR3:Hid (Below V§ V wr):=hbr3
      clear hbr3 q2 HBR2 HR2
      have q3:wr.cell? ⟨w§,3,none⟩=some (.slice S.ta S.ts.length S.tc):=cell_of (BOX.out _ HBR3.out) 3
      by_cases hlt:i3 < S.ts.length
      ·have hlt':(i3:Int) < (S.ts.length:Int):=by omega
       by_cases hz:z3≤1048576
       ·have hmx:(i3:Int)+1≤9223372036854775807:=by have h1:=HL.out.2.2.2.2.1.1; have h2:=HL.out.2.2.2.2.1.2.1; rw [List.length_map] at h1; omega
        obtain⟨b,o,ea,hat⟩:=(HL.out.2.2.2.2.1.on (mapz StateM.sz _) HBR3.out).2.2 i3 (by rw [List.length_map]; exact hlt)
        simp only [List.getElem_map] at hat
        have HMEM:Hid (StateL V S.ts[i3]):=HL.out.2.2.2.2.2.1 _ (List.getElem_mem hlt)
        have HPR:Hid (StateY S.ts[i3]→∀ x ∈ S.ts.take (i3+1),StateY x):=fun h=>take_snoc hlt (HR3.out.2.2 hz) h
        obtain⟨d,ed⟩:∃ d,S.ts[i3]=d:=⟨_,rfl⟩
        rw [ed] at hat HMEM HPR
        have y0:wr.cell? ⟨b,o+i3 * 3,none⟩=some (.string d.x):=hat 0 (by omega)
        have y1:wr.cell? ⟨b,o+i3 * 3+1,none⟩=some (.slice d.a d.rs.length d.c):=hat 1 (by omega)
        have HDX:Hid ((d.x.size:Int)≤140737488355328):=by have:d.x.size≤140737488355328:=HMEM.out.2.2.2; show (d.x.size:Int)≤_; omega
        have g1:z3+1≤9223372036854775807:=by omega
        have g2:-9223372036854775808≤z3+1:=by have:=HR3.out; omega
        have g3:z3+1+(d.x.size:Int)≤9223372036854775807:=by have:=HDX.out; omega
        have g4:-9223372036854775808≤z3+1+(d.x.size:Int):=by have:=HR3.out; omega
        have HZ0:Hid (0≤z3+1+(d.x.size:Int)∧z3+1+(d.x.size:Int)≤1000000000000000):=⟨by have:=HR3.out; omega,by have:=HDX.out; omega⟩
        rw [ea] at q3
        clear hat ed ea HR3
        go_wp2_with fail
        clear g1 g2 g3 g4 y0 y1 q3
        go_loopw [3,8] (fun v t wr=>∃ (k:Nat) (z4:Int),k≤d.rs.length∧t=zI k∧v=zI z4∧Below V§ V wr∧Hid (0≤z4∧z4≤1000000000000000∧(z4≤1048576→∀ x ∈ d.rs.take k,RuleY x))∧Hid (z3+1≤z4∧(k:Int)≤z4)) (fun _ t _=>d.rs.length - (intOf t).toNat)
        case atStart=>exact⟨0,_,by omega,rfl,rfl,HBR3.out,⟨HZ0.out.1,HZ0.out.2,fun _ x hx=>by simp at hx⟩,by omega,HZ0.out.1⟩
        case round =>
         obtain⟨k,z4,hk,rfl,rfl,hbr4,HR4,HQ4⟩:=hrel
         have HBR4:Hid (Below V§ V wr):=hbr4
         clear hbr4
         by_cases hlk:k < d.rs.length
         ·have hlk':(k:Int) < (d.rs.length:Int):=by omega
          by_cases hz4:z4≤1048576
          ·have hmk:(k:Int)+1≤9223372036854775807:=by have h1:=HMEM.out.1.1; have h2:=HMEM.out.1.2.1; rw [List.length_map] at h1; omega
           obtain⟨b7,o7,ea7,hat0⟩:=HMEM.out.1.2.2 k (by rw [List.length_map]; exact hlk)
           have HAT7:Hid (∀ u,Below V§ V u→∀ j,j < 10→u.cell? ⟨b7,o7+k * 10+j,none⟩=(d.rs[k]).vals[j]?):=fun u hu j hj=>by
            obtain⟨b8,o8,e8,hat8⟩:=(HMEM.out.1.on (mapz RuleM.sz _) hu).2.2 k (by rw [List.length_map]; exact hlk)
            rw [ea7] at e8
            cases e8
            have:=hat8 j hj
            simp only [List.getElem_map] at this
            exact this
           have HM7:Hid (RuleL V d.rs[k]):=HMEM.out.2.1 _ (List.getElem_mem hlk)
           have HP7:Hid (RuleY d.rs[k]→∀ x ∈ d.rs.take (k+1),RuleY x):=fun h=>take_snoc hlk (HR4.out.2.2 hz4) h
           obtain⟨q,eq⟩:∃ q,d.rs[k]=q:=⟨_,rfl⟩
           rw [eq] at HAT7 HM7 HP7
           have HRG7:Hid (wr.rangeAt b7 (o7+k * 10) q.m.vals.toList):=fun j v hv=>by
            have hj:j < 8:=(List.getElem?_eq_some_iff.1 hv).1
            have h1:=rule_m q j hj
            rw [Nat.zero_add] at h1
            rw [HAT7.out _ HBR4.out j (by omega),h1,← hv]
           have c4:=weigh_top q.m wr (z4+1) (HM7.out.1.on HBR4.out) (by have:=HR4.out; omega) (by omega)
           have k1:z4+1≤9223372036854775807:=by omega
           have k2:-9223372036854775808≤z4+1:=by have:=HR4.out; omega
           rw [ea7]
           clear hat0 eq
           go_wp2_with (refine wpList_load_mid rfl 48 _ rfl b7 (o7+k * 10) rfl q.m.vals.toList _ HRG7.out Tryz.underlying48 rfl (size38 q.m) ?_; rw [toArr])
           refine c4.mono ?_
           rintro e w5 ⟨⟨r5,rfl,hr5⟩,hb5⟩
           have HB5:Hid (Below V§ V w5):=below2 HBR4.out hb5
           have HR5:Hid (0≤r5∧r5≤1000000000000000∧(r5≤1048576→size q.m≤1048576)∧z4+1≤r5):=⟨hr5.1,by have:=hr5.2.1; omega,fun hh=>by have h1:=hr5.2.2 hh; have h2:=size_wt q.m; have h3:=HR4.out.1; omega,wgt_one hr5 hz4⟩
           clear c4 hr5 hb5 k1 k2 HRG7
           go_wp2_with fail
           go_loopw [3,9] (fun v t wr=>∃ (j:Nat) (z5:Int),j≤q.ds.length∧t=zI j∧v=zI z5∧Below V§ V wr∧Hid (0≤z5∧z5≤1000000000000000∧(z5≤1048576→size q.m≤1048576∧∀ x ∈ q.ds.take j,DoY x))∧Hid (z4+1≤z5∧(j:Int)≤z5)) (fun _ t _=>q.ds.length - (intOf t).toNat)
           case atStart=>exact⟨0,r5,by omega,rfl,rfl,HB5.out,⟨HR5.out.1,HR5.out.2.1,fun hh=>⟨HR5.out.2.2.1 hh,fun x hx=>by simp at hx⟩⟩,HR5.out.2.2.2,HR5.out.1⟩
           case round =>
            obtain⟨j,z5,hj,rfl,rfl,hbr5,HR6,HQ6⟩:=hrel
            have HBR5:Hid (Below V§ V wr):=hbr5
            clear hbr5
            have p8:wr.cell? ⟨b7,o7+k * 10+8,none⟩=some (.slice q.a q.ds.length q.c):=HAT7.out _ HBR5.out 8 (by omega)
            by_cases hlj:j < q.ds.length
            ·have hlj':(j:Int) < (q.ds.length:Int):=by omega
             by_cases hz5:z5≤1048576
             ·have hmj:(j:Int)+1≤9223372036854775807:=by have h1:=HM7.out.2.1.1; have h2:=HM7.out.2.1.2.1; rw [List.length_map] at h1; omega
              obtain⟨b9,o9,ea9,hat9⟩:=(HM7.out.2.1.on (mapz DoM.sz _) HBR5.out).2.2 j (by rw [List.length_map]; exact hlj)
              simp only [List.getElem_map] at hat9
              have HM9:Hid (DoL V q.ds[j]):=HM7.out.2.2.1 _ (List.getElem_mem hlj)
              have HP9:Hid (DoY q.ds[j]→∀ x ∈ q.ds.take (j+1),DoY x):=fun h=>take_snoc hlj (HR6.out.2.2 hz5).2 h
              obtain⟨x9,e9⟩:∃ x9,q.ds[j]=x9:=⟨_,rfl⟩
              rw [e9] at hat9 HM9 HP9
              have HRG9:Hid (wr.rangeAt b9 (o9+j * 36) x9.vals.toList):=fun jj v hv=>by
               have hjj:jj < 36:=(List.getElem?_eq_some_iff.1 hv).1
               rw [hat9 jj hjj,← hv]; simp
              have c9:=weighDo_any x9 wr (z5+1) (HM9.out.on HBR5.out) (by have:=HR6.out; omega) (by omega)
              have k1:z5+1≤9223372036854775807:=by omega
              have k2:-9223372036854775808≤z5+1:=by have:=HR6.out; omega
              rw [ea9] at p8
              clear hat9 e9 ea9
              go_wp2_with (refine wpList_load_mid rfl 105 _ rfl b9 (o9+j * 36) rfl x9.vals.toList _ HRG9.out Tryz.underlying105 rfl (by show _=some 36; exact size110') ?_; rw [Array.toArray_toList])
              refine c9.mono ?_
              rintro e w6 ⟨⟨r6,rfl,hr6⟩,hb6⟩
              have HB6:Hid (Below V§ V w6):=below2 HBR5.out hb6
              have HR7:Hid (0≤r6∧r6≤1000000000000000∧(r6≤1048576→size q.m≤1048576∧∀ x ∈ q.ds.take (j+1),DoY x)∧z5+1≤r6):=⟨hr6.1,by have:=hr6.2.1; omega,fun hh=>⟨(HR6.out.2.2 hz5).1,HP9.out (hr6.2.2 hh).1⟩,if hh:r6≤1048576 then (hr6.2.2 hh).2 else by omega⟩
              clear c9 hr6 hb6 p8
              go_wp2_with fail
              exact⟨⟨j+1,r6,hlj,rfl,rfl,HB6.out,⟨HR7.out.1,HR7.out.2.1,HR7.out.2.2.1⟩,by have h1:=HQ6.out; have h2:=HR7.out.2.2.2; omega,by have h1:=HQ6.out; have h2:=HR7.out.2.2.2; omega⟩,by simp only [intOf]; omega⟩
             ·go_wp2_with fail
              exact⟨⟨k+1,z5,hlk,rfl,rfl,HBR5.out,⟨HR6.out.1,HR6.out.2.1,fun hh=>absurd hh (by omega)⟩,by have h1:=HQ6.out; have h2:=HQ4.out; omega,by have h1:=HQ6.out; have h2:=HQ4.out; omega⟩,by simp only [intOf]; omega⟩
            ·obtain rfl:j=q.ds.length:=by omega
             have hnot5:¬ (q.ds.length:Int) < (q.ds.length:Int):=by omega
             go_wp2_with fail
             exact⟨⟨k+1,z5,hlk,rfl,rfl,HBR5.out,⟨HR6.out.1,HR6.out.2.1,fun hh=>by have h1:=HR6.out.2.2 hh; rw [List.take_length] at h1; exact HP7.out ⟨h1.1,by have:=HQ6.out; omega,h1.2⟩⟩,by have h1:=HQ6.out; have h2:=HQ4.out; omega,by have h1:=HQ6.out; have h2:=HQ4.out; omega⟩,by simp only [intOf]; omega⟩
          ·go_wp2_with fail
           exact⟨⟨i3+1,z4,hlt,rfl,rfl,HBR4.out,⟨HR4.out.1,HR4.out.2.1,fun hh=>absurd hh (by omega)⟩,by have:=HQ4.out; have:=HQ3.out; omega,by have:=HQ4.out; have:=HQ3.out; omega⟩,by simp only [intOf]; omega⟩
         ·obtain rfl:k=d.rs.length:=by omega
          have hnot4:¬ (d.rs.length:Int) < (d.rs.length:Int):=by omega
          go_wp2_with fail
          exact⟨⟨i3+1,z4,hlt,rfl,rfl,HBR4.out,⟨HR4.out.1,HR4.out.2.1,fun hh=>by have h1:=HR4.out.2.2 hh; rw [List.take_length] at h1; exact HPR.out ⟨by have:=HQ4.out; omega,h1⟩⟩,by have:=HQ4.out; have:=HQ3.out; omega,by have:=HQ4.out; have:=HQ3.out; omega⟩,by simp only [intOf]; omega⟩
       ·go_wp2_with fail
        go_ret
        exact⟨⟨_,rfl,HR3.out.1,by have:=HR3.out.2.1; omega,fun hh=>absurd hh (by omega)⟩,below2 HBV.out HBR3.out⟩
      ·obtain rfl:i3=S.ts.length:=by omega
       have hnot3:¬ (S.ts.length:Int) < (S.ts.length:Int):=by omega
       go_wp2_with fail
       go_ret
       exact⟨⟨_,rfl,HR3.out.1,by have:=HR3.out.2.1; omega,fun hh=>by have h1:=HR3.out.2.2 hh; rw [List.take_length] at h1; have a1:=HQ.out; have a2:=HQ2.out; have a3:=HQ3.out; have a4:=a1.2 (by omega); rw [List.take_length] at a4; have a5:=a1.1; exact⟨by omega,a4,by omega,by omega,h1⟩⟩,below2 HBV.out HBR3.out⟩
end X
namespace X
theorem size26s:(Tryz.prog.info? 27).map (·.size)=some 4:=by kernel_rfl
theorem sizeN:(Tryz.prog.info? 48).map (·.size)=some 8:=by kernel_rfl
set_option maxRecDepth 100000 in
set_option maxHeartbeats 8000000 in
theorem far_any (S:StratM) (m:Nd) (w:World) (hl:StratL w S) (hm:Lies w m):Calls zG 13 #[.agg S.vals,.agg m.vals] w fun e w'=>(∃ f:Bool,e=.returned (.bool f)∧(f=false→StratY S∧size m≤1048576))∧Below w§ w w':=by
 have HH:Hid (StratL w S∧Lies w m):=⟨hl,hm⟩
 have e2:=below_two w (.cells S.vals 27) (.cells m.vals 48)
 have n1:((w.alloc (.cells S.vals 27)).alloc (.cells m.vals 48)).heap[w§]? = some (.cells S.vals 27 (0,0)):=heap_old (heap_new _ _) (by rw [size_alloc]; omega)
 have n2:((w.alloc (.cells S.vals 27)).alloc (.cells m.vals 48)).heap[w§+1]? = some (.cells m.vals 48 (0,0)):=by rw [← size_alloc w (.cells S.vals 27)]; exact heap_new _ _
 obtain⟨V,eV⟩:∃ V,(w.alloc (.cells S.vals 27)).alloc (.cells m.vals 48)=V:=⟨_,rfl⟩
 rw [eV] at e2 n1 n2
 have HV:Hid ((w.alloc (.cells S.vals 27)).alloc (.cells m.vals 48)=V):=eV
 have HB:Hid (Below w§ w V):=e2
 have HN1:Hid (V.heap[w§]? = some (.cells S.vals 27 (0,0))):=n1
 have HN2:Hid (V.heap[w§+1]? = some (.cells m.vals 48 (0,0))):=n2
 have c1:=weighS_any S V (hl.on e2)
 clear hl hm e2 n1 n2 eV
 go_enter Tryz.func13,Tryz.ntmps13
 go_upto_region 1 with fail
 rw [HV.out]
 go_wp2_with (refine wpList_load_row rfl 27 _ rfl w§ rfl 27 S.vals (0,0) _ HN1.out Tryz.underlying27 rfl size26s ?_)
 refine c1.mono ?_
 rintro e w1 ⟨⟨r,rfl,hr⟩,hb⟩
 have HR:Hid (WghS S r):=hr
 have HB1:Hid (Below w§ w w1):=below2 HB.out hb
 have HN3:Hid (w1.heap[w§+1]? = some (.cells m.vals 48 (0,0))):=(hb.block _ (Array.getElem?_eq_some_iff.1 HN2.out).1).trans HN2.out
 by_cases hb1:r≤1048576
 ·have hn:¬ (1048576:Int) < r:=by omega
  have c2:Calls zG 38 #[.agg #[zU m.h.k,zU m.h.o,zU m.h.t,zI m.h.n,zU m.h.f,.string m.h.x,.slice m.a m.ks.length m.c,zI m.h.p],zI r,zI 0] w1 fun e w'=>(∃ r2,e=.returned (zI r2)∧Wgt m r r2)∧Below w1§ w1 w':=weigh_top m w1 r (HH.out.2.on HB1.out) hr.1 (by have:=hr.2.1; omega)
  have z0:w1.cell? ⟨w§+1,0,none⟩=some (zU m.h.k):=cell_of HN3.out 0
  have z1:w1.cell? ⟨w§+1,1,none⟩=some (zU m.h.o):=cell_of HN3.out 1
  have z2:w1.cell? ⟨w§+1,2,none⟩=some (zU m.h.t):=cell_of HN3.out 2
  have z3:w1.cell? ⟨w§+1,3,none⟩=some (zI m.h.n):=cell_of HN3.out 3
  have z4:w1.cell? ⟨w§+1,4,none⟩=some (zU m.h.f):=cell_of HN3.out 4
  have z5:w1.cell? ⟨w§+1,5,none⟩=some (.string m.h.x):=cell_of HN3.out 5
  have z6:w1.cell? ⟨w§+1,6,none⟩=some (.slice m.a m.ks.length m.c):=cell_of HN3.out 6
  have z7:w1.cell? ⟨w§+1,7,none⟩=some (zI m.h.p):=cell_of HN3.out 7
  clear c1 hr hb HN1 HN2
  go_wp2_with fail
  refine c2.mono ?_
  rintro e w2 ⟨⟨r2,rfl,hr2⟩,hb2⟩
  have HR2:Hid (Wgt m r r2):=hr2
  have HB2:Hid (Below w§ w w2):=below2 HB1.out hb2
  clear c2 hr2 hb2
  go_wp2_with fail
  go_ret
  refine⟨⟨_,rfl,fun hf=>?_⟩,HB2.out⟩
  have h0:r≤1048576∧r2≤1048576:=by simpa using hf
  have h1:=h0.2
  have h2:=HR2.out.2.2 h1
  have h3:=size_wt m
  have h4:=HR.out.1
  exact⟨HR.out.2.2 hb1,by omega⟩
 ·have hn:(1048576:Int) < r:=by omega
  clear c1 hr hb HN1 HN2
  go_wp2_with fail
  go_ret
  exact⟨⟨_,rfl,fun hf=>by simp at hf⟩,HB1.out⟩
end X
end Go.Proofs.YtoogodlnnijikaaGreatDoor
