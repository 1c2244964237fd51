import Derived.Test.YtoogodlnnijikaaGreatDoorA0
import Derived.Test.YtoogodlnnijikaaGreatDoorA20
import Derived.Test.YtoogodlnnijikaaGreatDoorA17
import Derived.Test.YtoogodlnnijikaaGreatDoorA18
import Derived.Lib.QuietBelow
import Derived.Test.YtoogodlnnijikaaGreatDoorA19
import Derived.Maps.OwnSet
import Derived.Test.YtoogodlnnijikaaGreatDoorA3
import Derived.Test.YtoogodlnnijikaaGreatDoorA4
namespace Go.Proofs.YtoogodlnnijikaaGreatDoor
open Go.RowKit
set_option linter.unusedVariables false
def WghD (d:DoM) (n r:Int):Prop:=0≤r∧r≤n+900000000000000∧(r≤1048576→DoZ d)
set_option maxRecDepth 100000 in
set_option maxHeartbeats 8000000 in
theorem weighDo_any (d:DoM) (w:World) (n:Int) (hl:DoL w d) (h1:0≤n) (h2:n≤2251799813685248):Calls zG 79 #[.agg d.vals,zI n] w fun e w'=>(∃ r,e=.returned (zI r)∧WghD d n r)∧Below w§ w w':=by
 have hb0:=below_new w (.cells d.vals 105)
 have hn0:=heap_new w (.cells d.vals 105)
 have hx:d.x.size≤140737488355328:=hl.2.2.2.2.2.2.2
 have HH:Hid (DoL w d∧0≤n∧n≤2251799813685248∧(d.x.size:Int)≤140737488355328):=⟨hl,h1,h2,by omega⟩
 have HN0:Hid ((w.alloc (.cells d.vals 105)).heap[w§]? = some (.cells d.vals 105 (0,0))):=hn0
 have HB0:Hid (Below w§ w (w.alloc (.cells d.vals 105))):=hb0
 have q2:(w.alloc (.cells d.vals 105)).cell? ⟨w§,2,none⟩=some (.string d.x):=cell_of hn0 2
 have g1:n+(d.x.size:Int)≤9223372036854775807:=by omega
 have g2:-9223372036854775808≤n+(d.x.size:Int):=by omega
 have c1:=weigh_top d.sd (w.alloc (.cells d.vals 105)) (n+(d.x.size:Int)) (hl.1.on hb0) (by omega) (by omega)
 clear hl h1 h2 hx hb0 hn0
 go_enter Tryz.func79,Tryz.ntmps79
 go_wp2_with (refine wpList_load_mid rfl 48 _ rfl w§ 3 rfl d.sd.vals.toList _ (nd_rng HN0.out 3 d.sd (do_sd d)) Tryz.underlying48 rfl (size38 d.sd) ?_; rw [toArr])
 refine c1.mono ?_
 rintro e w1 ⟨⟨r1,rfl,hr1⟩,hb⟩
 have HR1:Hid (Wgt d.sd (n+(d.x.size:Int)) r1):=hr1
 have HB1:Hid (Below w§ w w1):=below2 HB0.out hb
 have HD1:Hid (w1.heap[w§]? = some (.cells d.vals 105 (0,0))):=(hb.block _ (Array.getElem?_eq_some_iff.1 HN0.out).1).trans HN0.out
 have c2:=weigh_top d.qt w1 r1 (HH.out.1.2.1.on HB1.out) hr1.1 (by have h1:=hr1.2.1; have h2:=HH.out.2; omega)
 clear c1 hr1 hb q2 HN0 HB0
 go_wp2_with (refine wpList_load_mid rfl 48 _ rfl w§ 11 rfl d.qt.vals.toList _ (nd_rng HD1.out 11 d.qt (do_qt d)) Tryz.underlying48 rfl (size38 d.qt) ?_; rw [toArr])
 refine c2.mono ?_
 rintro e w2 ⟨⟨r2,rfl,hr2⟩,hb⟩
 have HR2:Hid (Wgt d.qt r1 r2):=hr2
 have HB2:Hid (Below w§ w w2):=below2 HB1.out hb
 have HD2:Hid (w2.heap[w§]? = some (.cells d.vals 105 (0,0))):=(hb.block _ (Array.getElem?_eq_some_iff.1 HD1.out).1).trans HD1.out
 have c3:=weigh_top d.pr w2 r2 (HH.out.1.2.2.1.on HB2.out) hr2.1 (by have h1:=hr2.2.1; have h3:=HR1.out.2.1; have h2:=HH.out.2; omega)
 clear c2 hr2 hb HD1 HB1
 go_wp2_with (refine wpList_load_mid rfl 48 _ rfl w§ 19 rfl d.pr.vals.toList _ (nd_rng HD2.out 19 d.pr (do_pr d)) Tryz.underlying48 rfl (size38 d.pr) ?_; rw [toArr])
 refine c3.mono ?_
 rintro e w3 ⟨⟨r3,rfl,hr3⟩,hb⟩
 have HR3:Hid (Wgt d.pr r2 r3):=hr3
 have HB3:Hid (Below w§ w w3):=below2 HB2.out hb
 have HD3:Hid (w3.heap[w§]? = some (.cells d.vals 105 (0,0))):=(hb.block _ (Array.getElem?_eq_some_iff.1 HD2.out).1).trans HD2.out
 have c4:=weigh_top d.vl w3 r3 (HH.out.1.2.2.2.1.on HB3.out) hr3.1 (by have h1:=hr3.2.1; have h4:=HR2.out.2.1; have h3:=HR1.out.2.1; have h2:=HH.out.2; omega)
 clear c3 hr3 hb HD2 HB2
 go_wp2_with (refine wpList_load_mid rfl 48 _ rfl w§ 27 rfl d.vl.vals.toList _ (nd_rng HD3.out 27 d.vl (do_vl d)) Tryz.underlying48 rfl (size38 d.vl) ?_; rw [toArr])
 refine c4.mono ?_
 rintro e w4 ⟨⟨r4,rfl,hr4⟩,hb⟩
 have HR4:Hid (Wgt d.vl r3 r4):=hr4
 have HB4:Hid (Below w§ w w4):=below2 HB3.out hb
 clear c4 hr4 hb
 go_wp2_with fail
 go_ret
 have a1:=HR1.out; have a2:=HR2.out; have a3:=HR3.out; have a4:=HR4.out; have a0:=HH.out.2
 have s1:=size_wt d.sd; have s2:=size_wt d.qt; have s3:=size_wt d.pr; have s4:=size_wt d.vl
 refine⟨⟨r4,rfl,a4.1,by have b1:=a1.2.1; have b2:=a2.2.1; have b3:=a3.2.1; have b4:=a4.2.1; omega,fun hh=>?_⟩,HB4.out⟩
 have e4:=a4.2.2 hh
 have e3:=a3.2.2 (by omega)
 have e2:=a2.2.2 (by omega)
 have e1:=a1.2.2 (by omega)
 exact⟨by omega,by omega,by omega,by omega⟩
open Go.Sort
theorem wr64 {n:Int}(h1:-9223372036854775808≤n) (h2:n≤9223372036854775807):IntKind.i64.wrap n=n:=by rw [IntKind.wrap_i64]; omega
theorem take_snoc {α:Type}{l:List α}{i:Nat}(h:i < l.length) {P:α→Prop}(h1:∀ x ∈ l.take i,P x) (h2:P l[i]):∀ x ∈ l.take (i+1),P x:=by
 intro x hx
 rw [List.take_succ_eq_append_getElem h] at hx
 rcases List.mem_append.1 hx with h3 | h3
 ·exact h1 x h3
 ·obtain rfl:=List.mem_singleton.1 h3; exact h2
def WghS (S:StratM) (r:Int):Prop:=0≤r∧r≤2000000000000000∧(r≤1048576→StratZ S)
set_option maxRecDepth 100000 in
set_option maxHeartbeats 16000000 in
theorem weighS_any (S:StratM) (w:World) (hl:StratL w S):Calls zG 37 #[.agg S.vals] w fun e w'=>(∃ r,e=.returned (zI r)∧WghS S r)∧Below w§ w w':=by
 have hb0:=below_new w (.cells S.vals 27)
 have hn0:=heap_new w (.cells S.vals 27)
 have hx:S.x.size≤140737488355328:=hl.2.2.2.2.2.2
 have HXS:Hid ((S.x.size:Int)≤140737488355328):=by show (S.x.size:Int)≤_; omega
 have q0:(w.alloc (.cells S.vals 27)).cell? ⟨w§,0,none⟩=some (.string S.x):=cell_of hn0 0
 obtain⟨V,eV⟩:∃ V,w.alloc (.cells S.vals 27)=V:=⟨_,rfl⟩
 have HV:Hid (w.alloc (.cells S.vals 27)=V):=eV
 have BOX:Hid (∀ u,Below V§ V u→u.heap[w§]? = some (.cells S.vals 27 (0,0))):=fun u hu=>by rw [← eV] at hu; exact (hu.block _ (Array.getElem?_eq_some_iff.1 hn0).1).trans hn0
 have HBV:Hid (Below w§ w V):=by show Below w§ w V; rw [← eV]; exact hb0
 have HL:Hid (StratL V S):=hl.on HBV.out
 clear hl hb0 hn0 eV hx
 go_enter Tryz.func37,Tryz.ntmps37
 go_wp2_with fail
 rw [HV.out]
 clear q0 HV
 go_loopw [3,4] (fun v t wr=>∃ (i:Nat) (z:Int),i≤S.rs.length∧t=zI i∧v=zI z∧Below V§ V wr∧Hid (0≤z∧z≤1000000000000000)) (fun _ t _=>S.rs.length - (intOf t).toNat)
 case atStart=>exact⟨0,(S.x.size:Int),by omega,rfl,rfl,Below.refl _ _,by omega,by have:=HXS.out; omega⟩
 case round =>
  obtain⟨i,z,hi,rfl,rfl,hbr,HR⟩:=hrel
  have HBR:Hid (Below V§ V wr):=hbr
  clear hbr
  have q1:wr.cell? ⟨w§,1,none⟩=some (.slice S.ra S.rs.length S.rc):=cell_of (BOX.out _ HBR.out) 1
  by_cases hlt:i < S.rs.length
  ·have hlt':(i:Int) < (S.rs.length:Int):=by omega
   by_cases hz:z≤1048576
   ·have hmx:(i:Int)+1≤9223372036854775807:=by have h1:=HL.out.1.1; have h2:=HL.out.1.2.1; rw [List.length_map] at h1; omega
    obtain⟨b,o,ea,hat⟩:=(HL.out.1.on (mapz RegM.sz _) HBR.out).2.2 i (by rw [List.length_map]; exact hlt)
    simp only [List.getElem_map] at hat
    have HMEM:Hid (RegL V S.rs[i]):=HL.out.2.1 _ (List.getElem_mem hlt)
    obtain⟨d,ed⟩:∃ d,S.rs[i]=d:=⟨_,rfl⟩
    rw [ed] at hat HMEM
    have y0:wr.cell? ⟨b,o+i * 11,none⟩=some (.string d.x):=hat 0 (by omega)
    have HRG:Hid (wr.rangeAt b (o+i * 11+2) d.m.vals.toList):=fun j v hv=>by
     have hj:j < 8:=(List.getElem?_eq_some_iff.1 hv).1
     have:=hat (2+j) (by omega)
     rw [show o+i * 11+2+j=o+i * 11+(2+j) by omega,this,reg_m d j hj,← hv]
    have HDX:Hid ((d.x.size:Int)≤140737488355328):=by have:d.x.size≤140737488355328:=HMEM.out.2.2.2; show (d.x.size:Int)≤_; omega
    have g1:z+1≤9223372036854775807:=by omega
    have g2:-9223372036854775808≤z+1:=by have:=HR.out; omega
    have g3:z+1+(d.x.size:Int)≤9223372036854775807:=by have:=HDX.out; omega
    have g4:-9223372036854775808≤z+1+(d.x.size:Int):=by have:=HR.out; omega
    rw [ea] at q1
    have hd2:∀ j,j < 8→wr.cell? ⟨b,o+i * 11+2+j,none⟩=d.m.vals.toList[j]?:=fun j hj=>by
     have:=hat (2+j) (by omega)
     rw [show o+i * 11+2+j=o+i * 11+(2+j) by omega,this,reg_m d j hj]
    have HKP:Hid (∀ v,GB wr v→v.cell? ⟨w§,1,none⟩=some (.slice (some ⟨b,o,none⟩) S.rs.length S.rc)∧v.cell? ⟨b,o+i * 11,none⟩=some (.string d.x)∧v.cell? ⟨b,o+i * 11+2,none⟩=some (zU d.m.h.k)∧v.cell? ⟨b,o+i * 11+2+1,none⟩=some (zU d.m.h.o)∧v.cell? ⟨b,o+i * 11+2+2,none⟩=some (zU d.m.h.t)∧v.cell? ⟨b,o+i * 11+2+3,none⟩=some (zI d.m.h.n)∧v.cell? ⟨b,o+i * 11+2+4,none⟩=some (zU d.m.h.f)∧v.cell? ⟨b,o+i * 11+2+5,none⟩=some (.string d.m.h.x)∧v.cell? ⟨b,o+i * 11+2+6,none⟩=some (.slice d.m.a d.m.ks.length d.m.c)∧v.cell? ⟨b,o+i * 11+2+7,none⟩=some (zI d.m.h.p)∧GB wr v):=fun v hv=>by
     have kp:∀ (a:Addr) (x:Value),wr.cell? a=some x→v.cell? a=some x:=fun a x h=>(World.cell?_of_block (hv.block _ (World.block_lt_of_cell? wr _ h))).trans h
     exact⟨kp _ _ q1,kp _ _ y0,kp _ _ (hd2 0 (by omega)),kp _ _ (hd2 1 (by omega)),kp _ _ (hd2 2 (by omega)),kp _ _ (hd2 3 (by omega)),kp _ _ (hd2 4 (by omega)),kp _ _ (hd2 5 (by omega)),kp _ _ (hd2 6 (by omega)),kp _ _ (hd2 7 (by omega)),hv⟩
    have c1:∀ v,GB wr v→Calls zG 38 #[.agg #[zU d.m.h.k,zU d.m.h.o,zU d.m.h.t,zI d.m.h.n,zU d.m.h.f,.string d.m.h.x,.slice d.m.a d.m.ks.length d.m.c,zI d.m.h.p],zI (z+1+(d.x.size:Int)),zI 0] v fun e w'=>(∃ r,e=.returned (zI r)∧Wgt d.m (z+1+(d.x.size:Int)) r)∧Below v§ v w':=fun v hv=>weigh_top d.m v (z+1+(d.x.size:Int)) ((HMEM.out.1.on HBR.out).on hv) (by have:=HR.out; omega) (by have:=HDX.out; omega)
    have y1:wr.cell? ⟨b,o+i * 11+2,none⟩=some (zU d.m.h.k):=hd2 0 (by omega)
    clear hat ed ea hd2
    go_upto_region 5 with fail
    obtain⟨r,er⟩:∃ r,wgE d.m (z+1+(d.x.size:Int)) 0=r:=⟨_,rfl⟩
    have hr:Wgt d.m (z+1+(d.x.size:Int)) r:=by rw [← er]; exact wgt_of HMEM.out.1 (by have:=HR.out; omega)
    have cq:∀ dq os,Calls zG 38 #[.agg #[zU d.m.h.k,zU d.m.h.o,zU d.m.h.t,zI d.m.h.n,zU d.m.h.f,.string d.m.h.x,.slice d.m.a d.m.ks.length d.m.c,zI d.m.h.p],zI (z+1+(d.x.size:Int)),zI 0] (grow (redrawn wr dq) os) fun e w''=>e=.returned (zI r)∧∃ p:Regrown,w''=grow (redrawn wr p.d) p.os:=fun dq os=>Calls.regrown_of (by rw [← er]; exact weigh_any d.m _ (z+1+(d.x.size:Int)) 0 ((HMEM.out.1.on HBR.out).on (below_regrown wr dq os)) (by have:=HR.out; omega) (by have:=HDX.out; omega) (by omega) (by omega))
    obtain⟨l1,l0,m0,m1,m2,m3,m4,m5,m6,m7,_⟩:=HKP.out wr (GB.refl _)
    have k1:=cell_regrown l1
    have k0:=cell_regrown l0
    have j0:=cell_regrown m0
    have j1:=cell_regrown m1
    have j2:=cell_regrown m2
    have j3:=cell_regrown m3
    have j4:=cell_regrown m4
    have j5:=cell_regrown m5
    have j6:=cell_regrown m6
    have j7:=cell_regrown m7
    have hw1:IntKind.i64.wrap (z+1)=z+1:=wr64 g2 g1
    have hw2:IntKind.i64.wrap (z+1+(d.x.size:Int))=z+1+(d.x.size:Int):=wr64 g4 g3
    refine wp_region_quiet_below zK zK ?_
    repeat (quiet_step (first | (simp only [hw1,hw2]; exact cq _ _) | exact cq _ _))
    refine wpQuiet_nil ?_
    intro _ hw'
    obtain⟨⟨dq,osq⟩,hw''⟩:=hw'
    subst hw''
    have HB5:Hid (Below V§ V (grow (redrawn wr dq) osq)):=below2 HBR.out (below_regrown wr dq osq)
    generalize grow (redrawn wr dq) osq=w5 at HB5 ⊢
    have HR5:Hid (0≤r∧r≤1000000000000000):=⟨hr.1,by have h1:=hr.2.1; have h2:=HDX.out; omega⟩
    clear hr er cq c1 q1 y0 y1 l1 l0 m0 m1 m2 m3 m4 m5 m6 m7 k1 k0 j0 j1 j2 j3 j4 j5 j6 j7 hw1 hw2 HKP
    go_wp2_with fail
    exact⟨⟨i+1,r,hlt,rfl,rfl,HB5.out,HR5.out⟩,by simp only [intOf]; omega⟩
   ·go_wp2_with fail
    go_loopw [3,5] (fun v t wr=>t=zI 0∧v=zI z∧Below V§ V wr) (fun _ _ _=>0)
    case atStart=>exact⟨rfl,rfl,HBR.out⟩
    case round =>
     obtain⟨rfl,rfl,hx2⟩:=hrel
     have HX2:Hid (Below V§ V wr):=hx2
     clear hx2
     have p2:wr.cell? ⟨w§,2,none⟩=some (.slice S.sa S.ss.length S.sc):=cell_of (BOX.out _ HX2.out) 2
     by_cases hl2:(0:Int) < (S.ss.length:Int)
     ·go_wp2_with fail
      go_loopw [3,6] (fun v t wr=>t=zI 0∧v=zI z∧Below V§ V wr) (fun _ _ _=>0)
      case atStart=>exact⟨rfl,rfl,HX2.out⟩
      case round =>
       obtain⟨rfl,rfl,hx3⟩:=hrel
       have HX3:Hid (Below V§ V wr):=hx3
       clear hx3
       have p3:wr.cell? ⟨w§,3,none⟩=some (.slice S.ta S.ts.length S.tc):=cell_of (BOX.out _ HX3.out) 3
       by_cases hl3:(0:Int) < (S.ts.length:Int)
       ·go_wp2_with fail
        go_ret
        exact⟨⟨_,rfl,HR.out.1,by have:=HR.out.2; omega,fun hh=>absurd hh (by omega)⟩,below2 HBV.out HX3.out⟩
       ·go_wp2_with fail
        go_ret
        exact⟨⟨_,rfl,HR.out.1,by have:=HR.out.2; omega,fun hh=>absurd hh (by omega)⟩,below2 HBV.out HX3.out⟩
     ·go_wp2_with fail
      go_loopw [3,6] (fun v t wr=>t=zI 0∧v=zI z∧Below V§ V wr) (fun _ _ _=>0)
      case atStart=>exact⟨rfl,rfl,HX2.out⟩
      case round =>
       obtain⟨rfl,rfl,hx3⟩:=hrel
       have HX3:Hid (Below V§ V wr):=hx3
       clear hx3
       have p3:wr.cell? ⟨w§,3,none⟩=some (.slice S.ta S.ts.length S.tc):=cell_of (BOX.out _ HX3.out) 3
       by_cases hl3:(0:Int) < (S.ts.length:Int)
       ·go_wp2_with fail
        go_ret
        exact⟨⟨_,rfl,HR.out.1,by have:=HR.out.2; omega,fun hh=>absurd hh (by omega)⟩,below2 HBV.out HX3.out⟩
       ·go_wp2_with fail
        go_ret
        exact⟨⟨_,rfl,HR.out.1,by have:=HR.out.2; omega,fun hh=>absurd hh (by omega)⟩,below2 HBV.out HX3.out⟩
  ·obtain rfl:i=S.rs.length:=by omega
   have hnot:¬ (S.rs.length:Int) < (S.rs.length:Int):=by omega
   go_wp2_with fail
   go_loopw [3,5] (fun v t wr=>∃ (i2:Nat) (z2:Int),i2≤S.ss.length∧t=zI i2∧v=zI z2∧Below V§ V wr∧Hid (0≤z2∧z2≤1000000000000000)) (fun _ t _=>S.ss.length - (intOf t).toNat)
   case atStart=>exact⟨0,z,by omega,rfl,rfl,HBR.out,HR.out⟩
   case round =>
    obtain⟨i2,z2,hi2,rfl,rfl,hbr2,HR2⟩:=hrel
    have HBR2:Hid (Below V§ V wr):=hbr2
    clear hbr2 q1 HBR HR
    have q2:wr.cell? ⟨w§,2,none⟩=some (.slice S.sa S.ss.length S.sc):=cell_of (BOX.out _ HBR2.out) 2
    by_cases hlt:i2 < S.ss.length
    ·have hlt':(i2:Int) < (S.ss.length:Int):=by omega
     by_cases hz:z2≤1048576
     ·have hmx:(i2:Int)+1≤9223372036854775807:=by have h1:=HL.out.2.2.1.1; have h2:=HL.out.2.2.1.2.1; rw [List.length_map] at h1; omega
      obtain⟨b,o,ea,hat⟩:=(HL.out.2.2.1.on (mapz SlotM.sz _) HBR2.out).2.2 i2 (by rw [List.length_map]; exact hlt)
      simp only [List.getElem_map] at hat
      have HMEM:Hid (SlotL S.ss[i2]):=HL.out.2.2.2.1 _ (List.getElem_mem hlt)
      obtain⟨d,ed⟩:∃ d,S.ss[i2]=d:=⟨_,rfl⟩
      rw [ed] at hat HMEM
      have y0:wr.cell? ⟨b,o+i2 * 2,none⟩=some (.string d.x):=hat 0 (by omega)
      have HDX:Hid ((d.x.size:Int)≤140737488355328):=by have:d.x.size≤140737488355328:=HMEM.out.2; show (d.x.size:Int)≤_; omega
      have g1:z2+1≤9223372036854775807:=by omega
      have g2:-9223372036854775808≤z2+1:=by have:=HR2.out; omega
      have g3:z2+1+(d.x.size:Int)≤9223372036854775807:=by have:=HDX.out; omega
      have g4:-9223372036854775808≤z2+1+(d.x.size:Int):=by have:=HR2.out; omega
      rw [ea] at q2
      clear hat ed ea
      go_wp2_with fail
      exact⟨⟨i2+1,z2+1+(d.x.size:Int),hlt,rfl,rfl,HBR2.out,by have:=HR2.out; omega,by have:=HDX.out; omega⟩,by simp only [intOf]; omega⟩
     ·go_wp2_with fail
      go_loopw [3,6] (fun v t wr=>t=zI 0∧v=zI z2∧Below V§ V wr) (fun _ _ _=>0)
      case atStart=>exact⟨rfl,rfl,HBR2.out⟩
      case round =>
       obtain⟨rfl,rfl,hx3⟩:=hrel
       have HX3:Hid (Below V§ V wr):=hx3
       clear hx3
       have p3:wr.cell? ⟨w§,3,none⟩=some (.slice S.ta S.ts.length S.tc):=cell_of (BOX.out _ HX3.out) 3
       by_cases hl3:(0:Int) < (S.ts.length:Int)
       ·go_wp2_with fail
        go_ret
        exact⟨⟨_,rfl,HR2.out.1,by have:=HR2.out.2; omega,fun hh=>absurd hh (by omega)⟩,below2 HBV.out HX3.out⟩
       ·go_wp2_with fail
        go_ret
        exact⟨⟨_,rfl,HR2.out.1,by have:=HR2.out.2; omega,fun hh=>absurd hh (by omega)⟩,below2 HBV.out HX3.out⟩
    ·obtain rfl:i2=S.ss.length:=by omega
     have hnot2:¬ (S.ss.length:Int) < (S.ss.length:Int):=by omega
     go_wp2_with fail
     go_loopw [3,6] (fun v t wr=>∃ (i3:Nat) (z3:Int),i3≤S.ts.length∧t=zI i3∧v=zI z3∧Below V§ V wr∧Hid (0≤z3∧z3≤1000000000000000∧(z3≤1048576→∀ x ∈ S.ts.take i3,StateZ x))) (fun _ t _=>S.ts.length - (intOf t).toNat)
     case atStart=>exact⟨0,z2,by omega,rfl,rfl,HBR2.out,HR2.out.1,HR2.out.2,fun _ x hx=>by simp at hx⟩
     case round =>
      obtain⟨i3,z3,hi3,rfl,rfl,hbr3,HR3⟩:=hrel
      have HBR3:Hid (Below V§ V wr):=hbr3
      clear hbr3 q2 HBR2 HR2
      have q3:wr.cell? ⟨w§,3,none⟩=some (.slice S.ta S.ts.length S.tc):=cell_of (BOX.out _ HBR3.out) 3
      by_cases hlt:i3 < S.ts.length
      ·have hlt':(i3:Int) < (S.ts.length:Int):=by omega
       by_cases hz:z3≤1048576
       ·have hmx:(i3:Int)+1≤9223372036854775807:=by have h1:=HL.out.2.2.2.2.1.1; have h2:=HL.out.2.2.2.2.1.2.1; rw [List.length_map] at h1; omega
        obtain⟨b,o,ea,hat⟩:=(HL.out.2.2.2.2.1.on (mapz StateM.sz _) HBR3.out).2.2 i3 (by rw [List.length_map]; exact hlt)
        simp only [List.getElem_map] at hat
        have HMEM:Hid (StateL V S.ts[i3]):=HL.out.2.2.2.2.2.1 _ (List.getElem_mem hlt)
        have HPR:Hid (StateZ S.ts[i3]→∀ x ∈ S.ts.take (i3+1),StateZ x):=fun h=>take_snoc hlt (HR3.out.2.2 hz) h
        obtain⟨d,ed⟩:∃ d,S.ts[i3]=d:=⟨_,rfl⟩
        rw [ed] at hat HMEM HPR
        have y0:wr.cell? ⟨b,o+i3 * 3,none⟩=some (.string d.x):=hat 0 (by omega)
        have y1:wr.cell? ⟨b,o+i3 * 3+1,none⟩=some (.slice d.a d.rs.length d.c):=hat 1 (by omega)
        have HDX:Hid ((d.x.size:Int)≤140737488355328):=by have:d.x.size≤140737488355328:=HMEM.out.2.2.2; show (d.x.size:Int)≤_; omega
        have g1:z3+1≤9223372036854775807:=by omega
        have g2:-9223372036854775808≤z3+1:=by have:=HR3.out; omega
        have g3:z3+1+(d.x.size:Int)≤9223372036854775807:=by have:=HDX.out; omega
        have g4:-9223372036854775808≤z3+1+(d.x.size:Int):=by have:=HR3.out; omega
        have HZ0:Hid (0≤z3+1+(d.x.size:Int)∧z3+1+(d.x.size:Int)≤1000000000000000):=⟨by have:=HR3.out; omega,by have:=HDX.out; omega⟩
        rw [ea] at q3
        clear hat ed ea HR3
        go_wp2_with fail
        clear g1 g2 g3 g4 y0 y1 q3
        go_loopw [3,8] (fun v t wr=>∃ (k:Nat) (z4:Int),k≤d.rs.length∧t=zI k∧v=zI z4∧Below V§ V wr∧Hid (0≤z4∧z4≤1000000000000000∧(z4≤1048576→∀ x ∈ d.rs.take k,RuleZ x))) (fun _ t _=>d.rs.length - (intOf t).toNat)
        case atStart=>exact⟨0,_,by omega,rfl,rfl,HBR3.out,HZ0.out.1,HZ0.out.2,fun _ x hx=>by simp at hx⟩
        case round =>
         obtain⟨k,z4,hk,rfl,rfl,hbr4,HR4⟩:=hrel
         have HBR4:Hid (Below V§ V wr):=hbr4
         clear hbr4
         by_cases hlk:k < d.rs.length
         ·have hlk':(k:Int) < (d.rs.length:Int):=by omega
          by_cases hz4:z4≤1048576
          ·have hmk:(k:Int)+1≤9223372036854775807:=by have h1:=HMEM.out.1.1; have h2:=HMEM.out.1.2.1; rw [List.length_map] at h1; omega
           obtain⟨b7,o7,ea7,hat0⟩:=HMEM.out.1.2.2 k (by rw [List.length_map]; exact hlk)
           have HAT7:Hid (∀ u,Below V§ V u→∀ j,j < 10→u.cell? ⟨b7,o7+k * 10+j,none⟩=(d.rs[k]).vals[j]?):=fun u hu j hj=>by
            obtain⟨b8,o8,e8,hat8⟩:=(HMEM.out.1.on (mapz RuleM.sz _) hu).2.2 k (by rw [List.length_map]; exact hlk)
            rw [ea7] at e8
            cases e8
            have:=hat8 j hj
            simp only [List.getElem_map] at this
            exact this
           have HM7:Hid (RuleL V d.rs[k]):=HMEM.out.2.1 _ (List.getElem_mem hlk)
           have HP7:Hid (RuleZ d.rs[k]→∀ x ∈ d.rs.take (k+1),RuleZ x):=fun h=>take_snoc hlk (HR4.out.2.2 hz4) h
           obtain⟨q,eq⟩:∃ q,d.rs[k]=q:=⟨_,rfl⟩
           rw [eq] at HAT7 HM7 HP7
           have HRG7:Hid (wr.rangeAt b7 (o7+k * 10) q.m.vals.toList):=fun j v hv=>by
            have hj:j < 8:=(List.getElem?_eq_some_iff.1 hv).1
            have h1:=rule_m q j hj
            rw [Nat.zero_add] at h1
            rw [HAT7.out _ HBR4.out j (by omega),h1,← hv]
           have c4:=weigh_top q.m wr (z4+1) (HM7.out.1.on HBR4.out) (by have:=HR4.out; omega) (by omega)
           have k1:z4+1≤9223372036854775807:=by omega
           have k2:-9223372036854775808≤z4+1:=by have:=HR4.out; omega
           rw [ea7]
           clear hat0 eq
           go_wp2_with (refine wpList_load_mid rfl 48 _ rfl b7 (o7+k * 10) rfl q.m.vals.toList _ HRG7.out Tryz.underlying48 rfl (size38 q.m) ?_; rw [toArr])
           refine c4.mono ?_
           rintro e w5 ⟨⟨r5,rfl,hr5⟩,hb5⟩
           have HB5:Hid (Below V§ V w5):=below2 HBR4.out hb5
           have HR5:Hid (0≤r5∧r5≤1000000000000000∧(r5≤1048576→size q.m≤1000000000000)):=⟨hr5.1,by have:=hr5.2.1; omega,fun hh=>by have h1:=hr5.2.2 hh; have h2:=size_wt q.m; have h3:=HR4.out.1; omega⟩
           clear c4 hr5 hb5 k1 k2 HRG7
           go_wp2_with fail
           go_loopw [3,9] (fun v t wr=>∃ (j:Nat) (z5:Int),j≤q.ds.length∧t=zI j∧v=zI z5∧Below V§ V wr∧Hid (0≤z5∧z5≤1000000000000000∧(z5≤1048576→size q.m≤1000000000000∧∀ x ∈ q.ds.take j,DoZ x))) (fun _ t _=>q.ds.length - (intOf t).toNat)
           case atStart=>exact⟨0,r5,by omega,rfl,rfl,HB5.out,HR5.out.1,HR5.out.2.1,fun hh=>⟨HR5.out.2.2 hh,fun x hx=>by simp at hx⟩⟩
           case round =>
            obtain⟨j,z5,hj,rfl,rfl,hbr5,HR6⟩:=hrel
            have HBR5:Hid (Below V§ V wr):=hbr5
            clear hbr5
            have p8:wr.cell? ⟨b7,o7+k * 10+8,none⟩=some (.slice q.a q.ds.length q.c):=HAT7.out _ HBR5.out 8 (by omega)
            by_cases hlj:j < q.ds.length
            ·have hlj':(j:Int) < (q.ds.length:Int):=by omega
             by_cases hz5:z5≤1048576
             ·have hmj:(j:Int)+1≤9223372036854775807:=by have h1:=HM7.out.2.1.1; have h2:=HM7.out.2.1.2.1; rw [List.length_map] at h1; omega
              obtain⟨b9,o9,ea9,hat9⟩:=(HM7.out.2.1.on (mapz DoM.sz _) HBR5.out).2.2 j (by rw [List.length_map]; exact hlj)
              simp only [List.getElem_map] at hat9
              have HM9:Hid (DoL V q.ds[j]):=HM7.out.2.2.1 _ (List.getElem_mem hlj)
              have HP9:Hid (DoZ q.ds[j]→∀ x ∈ q.ds.take (j+1),DoZ x):=fun h=>take_snoc hlj (HR6.out.2.2 hz5).2 h
              obtain⟨x9,e9⟩:∃ x9,q.ds[j]=x9:=⟨_,rfl⟩
              rw [e9] at hat9 HM9 HP9
              have HRG9:Hid (wr.rangeAt b9 (o9+j * 36) x9.vals.toList):=fun jj v hv=>by
               have hjj:jj < 36:=(List.getElem?_eq_some_iff.1 hv).1
               rw [hat9 jj hjj,← hv]; simp
              have c9:=weighDo_any x9 wr (z5+1) (HM9.out.on HBR5.out) (by have:=HR6.out; omega) (by omega)
              have k1:z5+1≤9223372036854775807:=by omega
              have k2:-9223372036854775808≤z5+1:=by have:=HR6.out; omega
              rw [ea9] at p8
              clear hat9 e9 ea9
              go_wp2_with (refine wpList_load_mid rfl 105 _ rfl b9 (o9+j * 36) rfl x9.vals.toList _ HRG9.out Tryz.underlying105 rfl (by show _=some 36; exact size110') ?_; rw [Array.toArray_toList])
              refine c9.mono ?_
              rintro e w6 ⟨⟨r6,rfl,hr6⟩,hb6⟩
              have HB6:Hid (Below V§ V w6):=below2 HBR5.out hb6
              have HR7:Hid (0≤r6∧r6≤1000000000000000∧(r6≤1048576→size q.m≤1000000000000∧∀ x ∈ q.ds.take (j+1),DoZ x)):=⟨hr6.1,by have:=hr6.2.1; omega,fun hh=>⟨(HR6.out.2.2 hz5).1,HP9.out (hr6.2.2 hh)⟩⟩
              clear c9 hr6 hb6 p8
              go_wp2_with fail
              exact⟨⟨j+1,r6,hlj,rfl,rfl,HB6.out,HR7.out⟩,by simp only [intOf]; omega⟩
             ·go_wp2_with fail
              exact⟨⟨k+1,z5,hlk,rfl,rfl,HBR5.out,HR6.out.1,HR6.out.2.1,fun hh=>absurd hh (by omega)⟩,by simp only [intOf]; omega⟩
            ·obtain rfl:j=q.ds.length:=by omega
             have hnot5:¬ (q.ds.length:Int) < (q.ds.length:Int):=by omega
             go_wp2_with fail
             exact⟨⟨k+1,z5,hlk,rfl,rfl,HBR5.out,HR6.out.1,HR6.out.2.1,fun hh=>by have h1:=HR6.out.2.2 hh; rw [List.take_length] at h1; exact HP7.out h1⟩,by simp only [intOf]; omega⟩
          ·go_wp2_with fail
           exact⟨⟨i3+1,z4,hlt,rfl,rfl,HBR4.out,HR4.out.1,HR4.out.2.1,fun hh=>absurd hh (by omega)⟩,by simp only [intOf]; omega⟩
         ·obtain rfl:k=d.rs.length:=by omega
          have hnot4:¬ (d.rs.length:Int) < (d.rs.length:Int):=by omega
          go_wp2_with fail
          exact⟨⟨i3+1,z4,hlt,rfl,rfl,HBR4.out,HR4.out.1,HR4.out.2.1,fun hh=>by have h1:=HR4.out.2.2 hh; rw [List.take_length] at h1; exact HPR.out h1⟩,by simp only [intOf]; omega⟩
       ·go_wp2_with fail
        go_ret
        exact⟨⟨_,rfl,HR3.out.1,by have:=HR3.out.2.1; omega,fun hh=>absurd hh (by omega)⟩,below2 HBV.out HBR3.out⟩
      ·obtain rfl:i3=S.ts.length:=by omega
       have hnot3:¬ (S.ts.length:Int) < (S.ts.length:Int):=by omega
       go_wp2_with fail
       go_ret
       exact⟨⟨_,rfl,HR3.out.1,by have:=HR3.out.2.1; omega,fun hh=>by have h1:=HR3.out.2.2 hh; rw [List.take_length] at h1; exact h1⟩,below2 HBV.out HBR3.out⟩
open Go.Maps
def FlAt (w:World) (b:Nat) (c:ByteArray) (p no:Int):Prop:=w.heap[b]? = some (.cells #[.string c,zI p,.iface 28 (zI no)] 121 (0,0))
theorem FlAt.on {w w':World}{b:Nat}{c:ByteArray}{p no:Int}(h:FlAt w b c p no) (k:Below w§ w w'):FlAt w' b c p no:=(k.block b (Array.getElem?_eq_some_iff.1 h).1).trans h
theorem untyped_any (p no:Int) (w:World):Calls zG 41 #[zI p,zI no] w fun e w'=>e=.returned (.iface 118 (zP w§))∧FlAt w' w§ Zb p no∧Below w§ w w':=by
 go_enter Tryz.func41,Tryz.ntmps41
 go_wp2_with fail
 go_ret
 exact⟨rfl,heap_new _ _,below_new _ _⟩
theorem wrong_any (p no:Int) (w:World):Calls zG 31 #[zI p,zI no] w fun e w'=>e=.returned (.iface 118 (zP w§))∧FlAt w' w§ Z0 p no∧Below w§ w w':=by
 go_enter Tryz.func31,Tryz.ntmps31
 go_wp2_with fail
 go_ret
 exact⟨rfl,heap_new _ _,below_new _ _⟩
def RgM (w:World) (b:Nat) (L:ByteArray→Option Int):Prop :=
 ∃ (n:Nat) (D:DataW Unit),w.ownsMap Tryz.prog 9 (plainElem Tryz.prog 44) b n D∧∀ x:ByteArray,x.size≤maxLen →
  Maps.has D (.string x.data.toList)=(L x).isSome∧D.atKey (.string x.data.toList) (.lit (.int .u8 0))=.lit (.int .u8 ((L x).getD 0))
theorem RgM.on {w w':World}{b:Nat}{L:ByteArray→Option Int}(h:RgM w b L) (k:Below w§ w w'):RgM w' b L:=by
 obtain⟨n,D,ho,hL⟩:=h
 have hlt:=ho.lt
 obtain⟨es,clock,hb,F,hs,hD⟩:=ho
 exact⟨n,D,⟨es,clock,(k.block b hlt).trans hb,F,hs,hD⟩,hL⟩
mutual
def tyR (L:ByteArray→Option Int):Nd→Except (Int × Int) Int
 | .mk h _ _ ks=>match tysR L ks with
  | .error e=>.error e
  | .ok ts=>if h.k == 2 then (match L h.x with
    | some t=>.ok t
    | none=>.error (h.p,151))
   else if (fitT h ks.length (ts.getD 0 0) (ts.getD 1 0) (ts.getD 2 0)).2 then .ok (fitT h ks.length (ts.getD 0 0) (ts.getD 1 0) (ts.getD 2 0)).1 else .error (h.p,152)
def tysR (L:ByteArray→Option Int):List Nd→Except (Int × Int) (List Int)
 | []=>.ok []
 | k :: ks=>match tyR L k with
  | .error e=>.error e
  | .ok t=>match tysR L ks with
   | .error e=>.error e
   | .ok ts=>.ok (t :: ts)
end
theorem law9:Keyed Tryz.prog 9:=string_keyed Tryz.underlying9
theorem zero34 (w:World):(zeroValue 44).run Tryz.prog w=.ok (zU 0) w:=by kernel_rfl
open Go.Extern.Stop Go.Stop Go.Extern
theorem Mv.toBelow {w w':World}(h:Mv w w' (fun _=>False)):Below w§ w w':=h.below (Nat.le_refl _) (fun _ e=>e.elim)
set_option maxRecDepth 100000 in
theorem errnoIn_any {w:World}{v:Value}{n p:Int}(h:Er w v n p) (hg:Ety w) :
  Calls zG 28 #[v] w fun e w'=>e=.returned (zI n)∧Below w§ w w':=by
 have b1:=below_new w (.cells #[zI 0] 28)
 have n1:=heap_new w (.cells #[zI 0] 28)
 have HB1:Hid (Below w§ w (w.alloc (.cells #[zI 0] 28))):=b1
 have s1:=size_alloc w (.cells #[zI 0] 28)
 have cA:=as49E_any (h.on b1) (hg.on b1) ⟨w§,0,none⟩ _ (cell_of n1 0) (frozen_of n1 0)
 have HN:Hid ((w.alloc (.cells #[zI 0] 28)).heap[w§]? = some (.cells #[zI 0] 28)∧(w.alloc (.cells #[zI 0] 28))§=w§+1):=⟨n1,s1⟩
 obtain⟨T,x,rfl⟩:=h.face
 clear b1 n1 s1 h hg
 go_enter Tryz.func28,Tryz.ntmps28
 go_wp2_with fail
 refine cA.mono ?_
 rintro e w1 ⟨b,rfl,hh⟩
 clear cA
 rcases hh with ⟨rfl,V,hV,eV⟩ | ⟨rfl,hn,hV⟩
 ·have hv:V.heap[w§]? = some (.cells #[zI 0] 28 (0,0)):=(hV.block _ (by rw [HN.out.2]; omega)).trans HN.out.1
  have c1:w1.cell? ⟨w§,0,none⟩=some (zI n):=by
   rw [eV]; exact cell_of (heap_set (j:=0) (zI n) hv) 0
  have HB:Hid (Below w§ w w1):=by
   show Below _ _ _
   rw [eV]
   exact ((Mv.ofBelow (below2 HB1.out hV)).setCell (F:=fun _=>False) (a:=⟨w§,0,none⟩) (.inr (Nat.le_refl _)) _).toBelow
  clear hv hV eV HN HB1
  go_wp2_with fail
  go_ret
  exact⟨rfl,HB.out⟩
 ·have HB:Hid (Below w§ w w1):=below2 HB1.out hV
  subst hn
  clear hV HN HB1
  go_wp2_with fail
  go_ret
  exact⟨rfl,HB.out⟩
set_option maxRecDepth 100000 in
theorem placeIn_any {w:World}{v:Value}{n p:Int}(h:Er w v n p) (hg:Ety w) :
  Calls zG 29 #[v] w fun e w'=>e=.returned (zI p)∧Below w§ w w':=by
 have b1:=below_new w (.cells #[.pointer none] 118)
 have n1:=heap_new w (.cells #[.pointer none] 118)
 have HB1:Hid (Below w§ w (w.alloc (.cells #[.pointer none] 118))):=b1
 have s1:=size_alloc w (.cells #[.pointer none] 118)
 have cA:=asF1_any (h.on b1) (hg.on b1) ⟨w§,0,none⟩ _ (cell_of n1 0) (frozen_of n1 0)
 have HN:Hid ((w.alloc (.cells #[.pointer none] 118)).heap[w§]? = some (.cells #[.pointer none] 118)∧(w.alloc (.cells #[.pointer none] 118))§=w§+1):=⟨n1,s1⟩
 obtain⟨T,x,rfl⟩:=h.face
 clear b1 n1 s1 h hg
 go_enter Tryz.func29,Tryz.ntmps29
 go_wp2_with fail
 refine cA.mono ?_
 rintro e w1 ⟨b,rfl,hh⟩
 clear cA
 rcases hh with ⟨rfl,F,c,er,hF,V,hV,eV⟩ | ⟨rfl,hn,hV⟩
 ·have hv:V.heap[w§]? = some (.cells #[.pointer none] 118 (0,0)):=(hV.block _ (by rw [HN.out.2]; omega)).trans HN.out.1
  have c1:w1.cell? ⟨w§,0,none⟩=some (zP F):=by
   rw [eV]; exact cell_of (heap_set (j:=0) (zP F) hv) 0
  have hF':V.heap[F]? = some (.cells #[.string c,zI p,er] 121 (0,0)):=(hV.block _ (Array.getElem?_eq_some_iff.1 hF).1).trans hF
  have c2:w1.cell? ⟨F,1,none⟩=some (zI p):=by
   rw [eV]
   refine cell_of ((Below.heap_setCell V ⟨w§,0,none⟩ (zP F) F ?_).trans hF') 1
   intro e
   have e':F=w§:=e
   rw [e',hv] at hF'
   cases hF'
  have HB:Hid (Below w§ w w1):=by
   show Below _ _ _
   rw [eV]
   exact ((Mv.ofBelow (below2 HB1.out hV)).setCell (F:=fun _=>False) (a:=⟨w§,0,none⟩) (.inr (Nat.le_refl _)) _).toBelow
  clear hv hV eV HN HB1 hF hF'
  go_wp2_with fail
  go_ret
  exact⟨rfl,HB.out⟩
 ·have HB:Hid (Below w§ w w1):=below2 HB1.out hV
  subst hn
  clear hV HN HB1
  go_wp2_with fail
  go_ret
  exact⟨rfl,HB.out⟩
set_option maxRecDepth 100000 in
theorem pwrong_any {w:World}{v:Value}{n p:Int}(h:Er w v n p) (hg:Ety w) :
  Calls zG 10 #[v] w fun e w'=>e=.returned (.tuple #[zI n,zI p])∧Below w§ w w':=by
 have cE:=errnoIn_any h hg
 have HE:Hid (Er w v n p∧Ety w):=⟨h,hg⟩
 obtain⟨T,x,rfl⟩:=h.face
 clear h hg
 go_enter Tryz.func10,Tryz.ntmps10
 go_wp2_with fail
 refine cE.mono ?_
 rintro e w1 ⟨rfl,hb⟩
 have HB:Hid (Below w§ w w1):=hb
 have cP:=placeIn_any (HE.out.1.on hb) (HE.out.2.on hb)
 clear cE hb
 go_wp2_with fail
 refine cP.mono ?_
 rintro e w2 ⟨rfl,hb⟩
 have HB2:Hid (Below w§ w w2):=below2 HB.out hb
 clear cP hb
 go_wp2_with fail
 exact bodyPost_ret (results_t2 (p:=2) (u:=3) rfl _ _) rfl ⟨rfl,HB2.out⟩
set_option maxRecDepth 100000 in
theorem pwrong_nil (w:World) :
  Calls zG 10 #[.nilIface] w fun e w'=>e=.returned (.tuple #[zI 0,zI 0])∧w'=w:=by
 go_enter Tryz.func10,Tryz.ntmps10
 go_wp2_with fail
 exact bodyPost_ret (results_t2 (p:=2) (u:=3) rfl _ _) rfl ⟨rfl,rfl⟩
theorem FlAt.er {w:World}{b:Nat}{c:ByteArray}{p no:Int}(h:FlAt w b c p no):Er w (.iface 118 (zP b)) no p:=.inr (.inl ⟨b,c,rfl,h⟩)
set_option maxRecDepth 100000 in
set_option maxHeartbeats 4000000 in
theorem around_any (F:Nat) (c:ByteArray) (p no:Int) (w:World) (hF:FlAt w F c p no) (hg:Ety w) :
  Calls zG 105 #[.iface 118 (zP F)] w fun e w'=>∃ v,e=.returned v∧Er w' v no p∧Below w§ w w':=by
 have b1:=below_new w (.cells #[.string Z0,zI 0,.iface 118 (zP F)] 121)
 have n1:=heap_new w (.cells #[.string Z0,zI 0,.iface 118 (zP F)] 121)
 have s1:=size_alloc w (.cells #[.string Z0,zI 0,.iface 118 (zP F)] 121)
 obtain⟨W1,e1⟩:∃ W,w.alloc (.cells #[.string Z0,zI 0,.iface 118 (zP F)] 121)=W:=⟨_,rfl⟩
 have E1:Hid (w.alloc (.cells #[.string Z0,zI 0,.iface 118 (zP F)] 121)=W1):=e1
 rw [e1] at b1 n1 s1
 have b2:=below_new W1 (.cells #[.pointer none] 118)
 have n2:=heap_new W1 (.cells #[.pointer none] 118)
 have k2:=(b2.block _ (Array.getElem?_eq_some_iff.1 n1).1).trans n1
 have bw:=below2 b1 b2
 rw [s1] at n2
 have HS1:Hid (W1§=w§+1):=s1
 obtain⟨W2,e2⟩:∃ W,W1.alloc (.cells #[.pointer none] 118)=W:=⟨_,rfl⟩
 have E2:Hid (W1.alloc (.cells #[.pointer none] 118)=W2):=e2
 rw [e2] at n2 k2 bw
 have hFlt:=(Array.getElem?_eq_some_iff.1 hF).1
 have cA:=asF_any ⟨F,0,none⟩ ⟨w§+1,0,none⟩ (.pointer none) W2 (hg.on bw) (cell_of n2 0) (frozen_of n2 0)
 have HB:Hid (Below w§ w W2):=bw
 have HK:Hid (W2.heap[w§]? = some (.cells #[.string Z0,zI 0,.iface 118 (zP F)] 121 (0,0))∧W2.heap[w§+1]? = some (.cells #[.pointer none] 118 (0,0))∧FlAt W2 F c p no):=⟨k2,n2,hF.on bw⟩
 clear b1 n1 s1 b2 n2 k2 bw e1 e2 hg hF
 go_enter Tryz.func105,Tryz.ntmps105
 go_upto_region 3 with fail
 rw [E1.out]
 try rw [HS1.out]
 rw [E2.out]
 clear E1 E2 HS1
 go_wp2_with fail
 refine cA.mono ?_
 rintro e w3 ⟨rfl,V,hV,rfl⟩
 have h1:=(hV.block _ (Array.getElem?_eq_some_iff.1 HK.out.1).1).trans HK.out.1
 have h2:=(hV.block _ (Array.getElem?_eq_some_iff.1 HK.out.2.1).1).trans HK.out.2.1
 have h3:=HK.out.2.2.on hV
 have hb:=below2 HB.out hV
 obtain⟨U,eU⟩:∃ U,V.setCell ⟨w§+1,0,none⟩ (zP F)=U:=⟨_,rfl⟩
 have q2:=heap_setCell_same V (w§+1) 0 _ _ (zP F) h2
 have q1:=(Below.heap_setCell V ⟨w§+1,0,none⟩ (zP F) w§ (by simp)).trans h1
 have q3:=(Below.heap_setCell V ⟨w§+1,0,none⟩ (zP F) F (by simp; omega)).trans h3
 have qb:=hb.setCell (p:=⟨w§+1,0,none⟩) (by simp) (zP F)
 rw [eU] at q1 q2 q3 qb ⊢
 have t0:U.cell? ⟨w§+1,0,none⟩=some (zP F):=cell_of q2 0
 have t1:U.cell? ⟨F,1,none⟩=some (zI p):=cell_of q3 1
 have t2:U.cell? ⟨w§,1,none⟩=some (zI 0):=cell_of q1 1
 have t3:U.frozen? ⟨w§,1,none⟩=false:=frozen_of q1 1
 have HQ:Hid (U.heap[w§]? = some (.cells #[.string Z0,zI 0,.iface 118 (zP F)] 121 (0,0))∧FlAt U F c p no∧Below w§ w U):=⟨q1,q3,qb⟩
 clear h1 h2 h3 hb eU q1 q2 q3 qb cA hV HK HB
 go_wp2_with fail
 go_ret
 refine⟨_,rfl,.inr (.inr (.inl ⟨w§,_,F,c,p,rfl,heap_setCell_same U w§ 1 _ _ _ HQ.out.1,?_⟩)),HQ.out.2.2.setCell (by simp) _⟩
 exact (Below.heap_setCell U ⟨w§,1,none⟩ _ F (by simp; omega)).trans HQ.out.2.1
end Go.Proofs.YtoogodlnnijikaaGreatDoor
