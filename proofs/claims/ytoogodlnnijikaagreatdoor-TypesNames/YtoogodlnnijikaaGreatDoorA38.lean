import Derived.Test.YtoogodlnnijikaaGreatDoorA0
import Derived.Test.YtoogodlnnijikaaGreatDoorA37
import Derived.Test.YtoogodlnnijikaaGreatDoorA30
import Derived.Lib.QuietBelow
import Derived.Test.YtoogodlnnijikaaGreatDoorA21
import Derived.Test.YtoogodlnnijikaaGreatDoorA27
import Derived.Test.YtoogodlnnijikaaGreatDoorA36
namespace Go.Proofs.YtoogodlnnijikaaGreatDoor
set_option maxHeartbeats 16000000
set_option maxRecDepth 1000000
open Go.RowKit Go.Sort
set_option linter.unusedVariables false
theorem wr64 {n:Int}(h1:-9223372036854775808≤n) (h2:n≤9223372036854775807):IntKind.i64.wrap n=n:=by rw [IntKind.wrap_i64]; omega
theorem Kp {α:Type}{l:List α}{i:Nat}(h:i < l.length) {P:α→Prop}(h1:∀ x ∈ l.take i,P x) (h2:P l[i]):∀ x ∈ l.take (i+1),P x:=by
 intro x hx
 rw [List.take_succ_eq_append_getElem h] at hx
 rcases List.mem_append.1 hx with h3 | h3
 ·exact h1 x h3
 ·obtain rfl:=List.mem_singleton.1 h3; exact h2
def QR (S:Qm) (i:Nat) (z:Int):Prop:=(i:Int)≤z∧(z≤1048576→∀ x ∈ S.rs.take i,size x.m≤1048576)
theorem wgt_more {m:Nd}{z k r:Int}(h:Wgt m (z+1+k) r) (hz:z≤1048576) (hk:0≤k):z+1≤r:=by
 by_cases hr:r≤1048576
 ·have:=h.2.2 hr; omega
 ·omega
theorem wgt_one {m:Nd}{z r:Int}(h:Wgt m (z+1) r) (hz:z≤1048576):z+1≤r:=by
 by_cases hr:r≤1048576
 ·have:=h.2.2 hr; omega
 ·omega
theorem QR.next {S:Qm}{i:Nat}{z k r:Int}(h:QR S i z) (hi:i < S.rs.length) (hz:z≤1048576) (h0:0≤z) (hk:0≤k) (hw:Wgt S.rs[i].m (z+1+k) r):QR S (i+1) r:=by
 refine⟨by have:=wgt_more hw hz hk; have:=h.1; omega,fun hr=>Kp hi (h.2 hz) ?_⟩
 have h1:=hw.2.2 hr
 have h2:=KU S.rs[i].m
 omega
def WghS (S:Qm) (r:Int):Prop:=0≤r∧r≤2000000000000000∧(r≤1048576→StratY S)
theorem weighS_any (S:Qm) (w:yW) (hl:QD w S):Calls zG 37 #[.agg S.vals] w fun e w'=>(∃ r,e=.returned (zI r)∧WghS S r)∧yD w w':=by
 have hb0:=Qc w (.cells S.vals 27)
 have hn0:=Qd w (.cells S.vals 27)
 have hx:S.x.size≤140737488355328:=hl.2.2.2.2.2.2
 have HXS:Hid ((S.x.size:Int)≤140737488355328):=by show (S.x.size:Int)≤_; omega
 have q0:(w.alloc (.cells S.vals 27)).cell? w§¢0=some (.string S.x):=Qa hn0 0
 obtain⟨V,eV⟩:∃ V,w.alloc (.cells S.vals 27)=V:=⟨_,rfl⟩
 have HV:Hid (w.alloc (.cells S.vals 27)=V):=eV
 have BOX:Hid (∀ u,yD V u→u.heap[w§]? = (zC S.vals 27)):=fun u hu=>by rw [← eV] at hu; exact (hu.block _ (zJ hn0).1).trans hn0
 have HBV:Hid (yD w V):=by show yD w V; rw [← eV]; exact hb0
 have HL:Hid (QD V S):=hl.on HBV.out
 clear hl hb0 hn0 eV hx
 go_enter Tryz.func37,Tryz.ntmps37
 go_wp2_with fail
 rw [HV.out]
 clear q0 HV
 go_loopw [3,4] (fun v t wr=>∃ (i:Nat) (z:Int),i≤S.rs.length∧t=zI i∧v=zI z∧yD V wr∧Hid (0≤z∧z≤1000000000000000)∧Hid (QR S i z)) (fun _ t _=>S.rs.length - (intOf t).toNat)
 case atStart=>exact⟨0,(S.x.size:Int),by omega,rfl,rfl,Below.refl _ _,⟨by omega,by have:=HXS.out; omega⟩,by omega,fun _ x hx=>by simp at hx⟩
 case round =>
  obtain⟨i,z,hi,rfl,rfl,hbr,HR,HQ⟩:=hrel
  have HBR:Hid (yD V wr):=hbr
  clear hbr
  have q1:wr.cell? w§¢1=some (.slice S.ra S.rs.length S.rc):=Qa (BOX.out _ HBR.out) 1
  by_cases hlt:i < S.rs.length
  ·have hlt':(i:Int) < (S.rs.length:Int):=by omega
   by_cases hz:z≤1048576
   ·have hmx:(i:Int)+1≤9223372036854775807:=by have h1:=HL.out.1.1; have h2:=HL.out.1.2.1; rw [List.length_map] at h1; omega
    obtain⟨b,o,ea,hat⟩:=(HL.out.1.on (mapz RegM.sz _) HBR.out).2.2 i (by rw [List.length_map]; exact hlt)
    simp only [List.getElem_map] at hat
    have HMEM:Hid (RegL V S.rs[i]):=HL.out.2.1 _ (List.getElem_mem hlt)
    have HPQ:Hid (∀ k r,0≤k→Wgt S.rs[i].m (z+1+k) r→QR S (i+1) r):=fun k r hk hw=>HQ.out.next hlt hz HR.out.1 hk hw
    obtain⟨d,ed⟩:∃ d,S.rs[i]=d:=⟨_,rfl⟩
    rw [ed] at hat HMEM HPQ
    have y0:wr.cell? ⟨b,o+i * 11,none⟩=some (.string d.x):=hat 0 (by omega)
    have HRG:Hid (wr.rangeAt b (o+i * 11+2) d.m.vals.toList):=fun j v hv=>by
     have hj:j < 8:=(List.getElem?_eq_some_iff.1 hv).1
     have:=hat (2+j) (by omega)
     rw [show o+i * 11+2+j=o+i * 11+(2+j) by omega,this,reg_m d j hj,← hv]
    have HDX:Hid ((d.x.size:Int)≤140737488355328):=by have:d.x.size≤140737488355328:=HMEM.out.2.2.2; show (d.x.size:Int)≤_; omega
    have g1:z+1≤9223372036854775807:=by omega
    have g2:-9223372036854775808≤z+1:=by have:=HR.out; omega
    have g3:z+1+(d.x.size:Int)≤9223372036854775807:=by have:=HDX.out; omega
    have g4:-9223372036854775808≤z+1+(d.x.size:Int):=by have:=HR.out; omega
    rw [ea] at q1
    have hd2:∀ j,j < 8→wr.cell? ⟨b,o+i * 11+2+j,none⟩=d.m.vals.toList[j]?:=fun j hj=>by
     have:=hat (2+j) (by omega)
     rw [show o+i * 11+2+j=o+i * 11+(2+j) by omega,this,reg_m d j hj]
    have HKP:Hid (∀ v,GB wr v→v.cell? w§¢1=some (.slice (some b¢o) S.rs.length S.rc)∧v.cell? ⟨b,o+i * 11,none⟩=some (.string d.x)∧v.cell? ⟨b,o+i * 11+2,none⟩=some (zU d.m.h.k)∧v.cell? ⟨b,o+i * 11+2+1,none⟩=some (zU d.m.h.o)∧v.cell? ⟨b,o+i * 11+2+2,none⟩=some (zU d.m.h.t)∧v.cell? ⟨b,o+i * 11+2+3,none⟩=some (zI d.m.h.n)∧v.cell? ⟨b,o+i * 11+2+4,none⟩=some (zU d.m.h.f)∧v.cell? ⟨b,o+i * 11+2+5,none⟩=some (.string d.m.h.x)∧v.cell? ⟨b,o+i * 11+2+6,none⟩=some (.slice d.m.a d.m.ks.length d.m.c)∧v.cell? ⟨b,o+i * 11+2+7,none⟩=some (zI d.m.h.p)∧GB wr v):=fun v hv=>by
     have kp:∀ (a:Addr) (x:Value),wr.cell? a=some x→v.cell? a=some x:=fun a x h=>(World.cell?_of_block (hv.block _ (World.block_lt_of_cell? wr _ h))).trans h
     exact⟨kp _ _ q1,kp _ _ y0,kp _ _ (hd2 0 (by omega)),kp _ _ (hd2 1 (by omega)),kp _ _ (hd2 2 (by omega)),kp _ _ (hd2 3 (by omega)),kp _ _ (hd2 4 (by omega)),kp _ _ (hd2 5 (by omega)),kp _ _ (hd2 6 (by omega)),kp _ _ (hd2 7 (by omega)),hv⟩
    have c1:∀ v,GB wr v→Calls zG 38 #[.agg #[zU d.m.h.k,zU d.m.h.o,zU d.m.h.t,zI d.m.h.n,zU d.m.h.f,.string d.m.h.x,.slice d.m.a d.m.ks.length d.m.c,zI d.m.h.p],zI (z+1+(d.x.size:Int)),zI 0] v fun e w'=>(∃ r,e=.returned (zI r)∧Wgt d.m (z+1+(d.x.size:Int)) r)∧yD v w':=fun v hv=>JK d.m v (z+1+(d.x.size:Int)) ((HMEM.out.1.on HBR.out).on hv) (by have:=HR.out; omega) (by have:=HDX.out; omega)
    have y1:wr.cell? ⟨b,o+i * 11+2,none⟩=some (zU d.m.h.k):=hd2 0 (by omega)
    clear hat ed ea hd2
    go_upto_region 5 with fail
    obtain⟨r,er⟩:∃ r,wgE d.m (z+1+(d.x.size:Int)) 0=r:=⟨_,rfl⟩
    have hr:Wgt d.m (z+1+(d.x.size:Int)) r:=by rw [← er]; exact wgt_of HMEM.out.1 (by have:=HR.out; omega)
    have cq:∀ dq os,Calls zG 38 #[.agg #[zU d.m.h.k,zU d.m.h.o,zU d.m.h.t,zI d.m.h.n,zU d.m.h.f,.string d.m.h.x,.slice d.m.a d.m.ks.length d.m.c,zI d.m.h.p],zI (z+1+(d.x.size:Int)),zI 0] (grow (redrawn wr dq) os) fun e w''=>e=.returned (zI r)∧∃ p:Regrown,w''=grow (redrawn wr p.d) p.os:=fun dq os=>Calls.regrown_of (by rw [← er]; exact weigh_any d.m _ (z+1+(d.x.size:Int)) 0 ((HMEM.out.1.on HBR.out).on (below_regrown wr dq os)) (by have:=HR.out; omega) (by have:=HDX.out; omega) (by omega) (by omega))
    obtain⟨l1,l0,m0,m1,m2,m3,m4,m5,m6,m7,_⟩:=HKP.out wr (GB.refl _)
    have k1:=cell_regrown l1
    have k0:=cell_regrown l0
    have j0:=cell_regrown m0
    have j1:=cell_regrown m1
    have j2:=cell_regrown m2
    have j3:=cell_regrown m3
    have j4:=cell_regrown m4
    have j5:=cell_regrown m5
    have j6:=cell_regrown m6
    have j7:=cell_regrown m7
    have hw1:IntKind.i64.wrap (z+1)=z+1:=wr64 g2 g1
    have hw2:IntKind.i64.wrap (z+1+(d.x.size:Int))=z+1+(d.x.size:Int):=wr64 g4 g3
    refine wp_region_quiet_below zK zK ?_
    repeat (quiet_step (first | (simp only [hw1,hw2]; exact cq _ _) | exact cq _ _))
    refine wpQuiet_nil ?_
    intro _ hw'
    obtain⟨⟨dq,osq⟩,hw''⟩:=hw'
    subst hw''
    have HB5:Hid (yD V (grow (redrawn wr dq) osq)):=Qe HBR.out (below_regrown wr dq osq)
    generalize grow (redrawn wr dq) osq=w5 at HB5 ⊢
    have HR5:Hid (0≤r∧r≤1000000000000000):=⟨hr.1,by have h1:=hr.2.1; have h2:=HDX.out; omega⟩
    have HQ5:Hid (QR S (i+1) r):=HPQ.out _ r (by omega) hr
    clear hr er cq c1 q1 y0 y1 l1 l0 m0 m1 m2 m3 m4 m5 m6 m7 k1 k0 j0 j1 j2 j3 j4 j5 j6 j7 hw1 hw2 HKP
    go_wp2_with fail
    exact⟨⟨i+1,r,hlt,rfl,rfl,HB5.out,HR5.out,HQ5.out⟩,by simp only [intOf]; omega⟩
   ·go_wp2_with fail
    go_loopw [3,5] (fun v t wr=>t=zI 0∧v=zI z∧yD V wr) (fun _ _ _=>0)
    case atStart=>exact⟨rfl,rfl,HBR.out⟩
    case round =>
     obtain⟨rfl,rfl,hx2⟩:=hrel
     have HX2:Hid (yD V wr):=hx2
     clear hx2
     have p2:wr.cell? w§¢2=some (.slice S.sa S.ss.length S.sc):=Qa (BOX.out _ HX2.out) 2
     by_cases hl2:(0:Int) < (S.ss.length:Int)
     ·go_wp2_with fail
      go_loopw [3,6] (fun v t wr=>t=zI 0∧v=zI z∧yD V wr) (fun _ _ _=>0)
      case atStart=>exact⟨rfl,rfl,HX2.out⟩
      case round =>
       obtain⟨rfl,rfl,hx3⟩:=hrel
       have HX3:Hid (yD V wr):=hx3
       clear hx3
       have p3:wr.cell? w§¢3=some (.slice S.ta S.ts.length S.tc):=Qa (BOX.out _ HX3.out) 3
       by_cases hl3:(0:Int) < (S.ts.length:Int)
       ·go_wp2_with fail
        go_ret
        exact⟨⟨_,rfl,HR.out.1,by have:=HR.out.2; omega,fun hh=>absurd hh (by omega)⟩,Qe HBV.out HX3.out⟩
       ·go_wp2_with fail
        go_ret
        exact⟨⟨_,rfl,HR.out.1,by have:=HR.out.2; omega,fun hh=>absurd hh (by omega)⟩,Qe HBV.out HX3.out⟩
     ·go_wp2_with fail
      go_loopw [3,6] (fun v t wr=>t=zI 0∧v=zI z∧yD V wr) (fun _ _ _=>0)
      case atStart=>exact⟨rfl,rfl,HX2.out⟩
      case round =>
       obtain⟨rfl,rfl,hx3⟩:=hrel
       have HX3:Hid (yD V wr):=hx3
       clear hx3
       have p3:wr.cell? w§¢3=some (.slice S.ta S.ts.length S.tc):=Qa (BOX.out _ HX3.out) 3
       by_cases hl3:(0:Int) < (S.ts.length:Int)
       ·go_wp2_with fail
        go_ret
        exact⟨⟨_,rfl,HR.out.1,by have:=HR.out.2; omega,fun hh=>absurd hh (by omega)⟩,Qe HBV.out HX3.out⟩
       ·go_wp2_with fail
        go_ret
        exact⟨⟨_,rfl,HR.out.1,by have:=HR.out.2; omega,fun hh=>absurd hh (by omega)⟩,Qe HBV.out HX3.out⟩
  ·obtain rfl:i=S.rs.length:=by omega
   have hnot:¬ (S.rs.length:Int) < (S.rs.length:Int):=by omega
   go_wp2_with fail
   go_loopw [3,5] (fun v t wr=>∃ (i2:Nat) (z2:Int),i2≤S.ss.length∧t=zI i2∧v=zI z2∧yD V wr∧Hid (0≤z2∧z2≤1000000000000000)∧Hid (z≤z2∧(i2:Int)≤z2)) (fun _ t _=>S.ss.length - (intOf t).toNat)
   case atStart=>exact⟨0,z,by omega,rfl,rfl,HBR.out,HR.out,Int.le_refl _,HR.out.1⟩
   case round =>
    obtain⟨i2,z2,hi2,rfl,rfl,hbr2,HR2,HQ2⟩:=hrel
    have HBR2:Hid (yD V wr):=hbr2
    clear hbr2 q1 HBR HR
    have q2:wr.cell? w§¢2=some (.slice S.sa S.ss.length S.sc):=Qa (BOX.out _ HBR2.out) 2
    by_cases hlt:i2 < S.ss.length
    ·have hlt':(i2:Int) < (S.ss.length:Int):=by omega
     by_cases hz:z2≤1048576
     ·have hmx:(i2:Int)+1≤9223372036854775807:=by have h1:=HL.out.2.2.1.1; have h2:=HL.out.2.2.1.2.1; rw [List.length_map] at h1; omega
      obtain⟨b,o,ea,hat⟩:=(HL.out.2.2.1.on (mapz Qw.sz _) HBR2.out).2.2 i2 (by rw [List.length_map]; exact hlt)
      simp only [List.getElem_map] at hat
      have HMEM:Hid (SlotL S.ss[i2]):=HL.out.2.2.2.1 _ (List.getElem_mem hlt)
      obtain⟨d,ed⟩:∃ d,S.ss[i2]=d:=⟨_,rfl⟩
      rw [ed] at hat HMEM
      have y0:wr.cell? ⟨b,o+i2 * 2,none⟩=some (.string d.x):=hat 0 (by omega)
      have HDX:Hid ((d.x.size:Int)≤140737488355328):=by have:d.x.size≤140737488355328:=HMEM.out.2; show (d.x.size:Int)≤_; omega
      have g1:z2+1≤9223372036854775807:=by omega
      have g2:-9223372036854775808≤z2+1:=by have:=HR2.out; omega
      have g3:z2+1+(d.x.size:Int)≤9223372036854775807:=by have:=HDX.out; omega
      have g4:-9223372036854775808≤z2+1+(d.x.size:Int):=by have:=HR2.out; omega
      rw [ea] at q2
      clear hat ed ea
      go_wp2_with fail
      exact⟨⟨i2+1,z2+1+(d.x.size:Int),hlt,rfl,rfl,HBR2.out,⟨by have:=HR2.out; omega,by have:=HDX.out; omega⟩,by have:=HQ2.out; omega,by have:=HQ2.out; omega⟩,by simp only [intOf]; omega⟩
     ·go_wp2_with fail
      go_loopw [3,6] (fun v t wr=>t=zI 0∧v=zI z2∧yD V wr) (fun _ _ _=>0)
      case atStart=>exact⟨rfl,rfl,HBR2.out⟩
      case round =>
       obtain⟨rfl,rfl,hx3⟩:=hrel
       have HX3:Hid (yD V wr):=hx3
       clear hx3
       have p3:wr.cell? w§¢3=some (.slice S.ta S.ts.length S.tc):=Qa (BOX.out _ HX3.out) 3
       by_cases hl3:(0:Int) < (S.ts.length:Int)
       ·go_wp2_with fail
        go_ret
        exact⟨⟨_,rfl,HR2.out.1,by have:=HR2.out.2; omega,fun hh=>absurd hh (by omega)⟩,Qe HBV.out HX3.out⟩
       ·go_wp2_with fail
        go_ret
        exact⟨⟨_,rfl,HR2.out.1,by have:=HR2.out.2; omega,fun hh=>absurd hh (by omega)⟩,Qe HBV.out HX3.out⟩
    ·obtain rfl:i2=S.ss.length:=by omega
     have hnot2:¬ (S.ss.length:Int) < (S.ss.length:Int):=by omega
     go_wp2_with fail
     go_loopw [3,6] (fun v t wr=>∃ (i3:Nat) (z3:Int),i3≤S.ts.length∧t=zI i3∧v=zI z3∧yD V wr∧Hid (0≤z3∧z3≤1000000000000000∧(z3≤1048576→∀ x ∈ S.ts.take i3,StateY x))∧Hid (z2≤z3∧(i3:Int)≤z3)) (fun _ t _=>S.ts.length - (intOf t).toNat)
     case atStart=>exact⟨0,z2,by omega,rfl,rfl,HBR2.out,⟨HR2.out.1,HR2.out.2,fun _ x hx=>by simp at hx⟩,Int.le_refl _,HR2.out.1⟩
     case round =>
      obtain⟨i3,z3,hi3,rfl,rfl,hbr3,HR3,HQ3⟩:=hrel
      have HBR3:Hid (yD V wr):=hbr3
      clear hbr3 q2 HBR2 HR2
      have q3:wr.cell? w§¢3=some (.slice S.ta S.ts.length S.tc):=Qa (BOX.out _ HBR3.out) 3
      by_cases hlt:i3 < S.ts.length
      ·have hlt':(i3:Int) < (S.ts.length:Int):=by omega
       by_cases hz:z3≤1048576
       ·have hmx:(i3:Int)+1≤9223372036854775807:=by have h1:=HL.out.2.2.2.2.1.1; have h2:=HL.out.2.2.2.2.1.2.1; rw [List.length_map] at h1; omega
        obtain⟨b,o,ea,hat⟩:=(HL.out.2.2.2.2.1.on (mapz Qj.sz _) HBR3.out).2.2 i3 (by rw [List.length_map]; exact hlt)
        simp only [List.getElem_map] at hat
        have HMEM:Hid (QP V S.ts[i3]):=HL.out.2.2.2.2.2.1 _ (List.getElem_mem hlt)
        have HPR:Hid (StateY S.ts[i3]→∀ x ∈ S.ts.take (i3+1),StateY x):=fun h=>Kp hlt (HR3.out.2.2 hz) h
        obtain⟨d,ed⟩:∃ d,S.ts[i3]=d:=⟨_,rfl⟩
        rw [ed] at hat HMEM HPR
        have y0:wr.cell? ⟨b,o+i3 * 3,none⟩=some (.string d.x):=hat 0 (by omega)
        have y1:wr.cell? ⟨b,o+i3 * 3+1,none⟩=some (.slice d.a d.rs.length d.c):=hat 1 (by omega)
        have HDX:Hid ((d.x.size:Int)≤140737488355328):=by have:d.x.size≤140737488355328:=HMEM.out.2.2.2; show (d.x.size:Int)≤_; omega
        have g1:z3+1≤9223372036854775807:=by omega
        have g2:-9223372036854775808≤z3+1:=by have:=HR3.out; omega
        have g3:z3+1+(d.x.size:Int)≤9223372036854775807:=by have:=HDX.out; omega
        have g4:-9223372036854775808≤z3+1+(d.x.size:Int):=by have:=HR3.out; omega
        have HZ0:Hid (0≤z3+1+(d.x.size:Int)∧z3+1+(d.x.size:Int)≤1000000000000000):=⟨by have:=HR3.out; omega,by have:=HDX.out; omega⟩
        rw [ea] at q3
        clear hat ed ea HR3
        go_wp2_with fail
        clear g1 g2 g3 g4 y0 y1 q3
        go_loopw [3,8] (fun v t wr=>∃ (k:Nat) (z4:Int),k≤d.rs.length∧t=zI k∧v=zI z4∧yD V wr∧Hid (0≤z4∧z4≤1000000000000000∧(z4≤1048576→∀ x ∈ d.rs.take k,RuleY x))∧Hid (z3+1≤z4∧(k:Int)≤z4)) (fun _ t _=>d.rs.length - (intOf t).toNat)
        case atStart=>exact⟨0,_,by omega,rfl,rfl,HBR3.out,⟨HZ0.out.1,HZ0.out.2,fun _ x hx=>by simp at hx⟩,by omega,HZ0.out.1⟩
        case round =>
         obtain⟨k,z4,hk,rfl,rfl,hbr4,HR4,HQ4⟩:=hrel
         have HBR4:Hid (yD V wr):=hbr4
         clear hbr4
         by_cases hlk:k < d.rs.length
         ·have hlk':(k:Int) < (d.rs.length:Int):=by omega
          by_cases hz4:z4≤1048576
          ·have hmk:(k:Int)+1≤9223372036854775807:=by have h1:=HMEM.out.1.1; have h2:=HMEM.out.1.2.1; rw [List.length_map] at h1; omega
           obtain⟨b7,o7,ea7,hat0⟩:=HMEM.out.1.2.2 k (by rw [List.length_map]; exact hlk)
           have HAT7:Hid (∀ u,yD V u→∀ j,j < 10→u.cell? ⟨b7,o7+k * 10+j,none⟩=(d.rs[k]).vals[j]?):=fun u hu j hj=>by
            obtain⟨b8,o8,e8,hat8⟩:=(HMEM.out.1.on (mapz Qr.sz _) hu).2.2 k (by rw [List.length_map]; exact hlk)
            rw [ea7] at e8
            cases e8
            have:=hat8 j hj
            simp only [List.getElem_map] at this
            exact this
           have HM7:Hid (Jk V d.rs[k]):=HMEM.out.2.1 _ (List.getElem_mem hlk)
           have HP7:Hid (RuleY d.rs[k]→∀ x ∈ d.rs.take (k+1),RuleY x):=fun h=>Kp hlk (HR4.out.2.2 hz4) h
           obtain⟨q,eq⟩:∃ q,d.rs[k]=q:=⟨_,rfl⟩
           rw [eq] at HAT7 HM7 HP7
           have HRG7:Hid (wr.rangeAt b7 (o7+k * 10) q.m.vals.toList):=fun j v hv=>by
            have hj:j < 8:=(List.getElem?_eq_some_iff.1 hv).1
            have h1:=rule_m q j hj
            rw [Nat.zero_add] at h1
            rw [HAT7.out _ HBR4.out j (by omega),h1,← hv]
           have c4:=JK q.m wr (z4+1) (HM7.out.1.on HBR4.out) (by have:=HR4.out; omega) (by omega)
           have k1:z4+1≤9223372036854775807:=by omega
           have k2:-9223372036854775808≤z4+1:=by have:=HR4.out; omega
           rw [ea7]
           clear hat0 eq
           go_wp2_with (refine wpList_load_mid rfl 48 _ rfl b7 (o7+k * 10) rfl q.m.vals.toList _ HRG7.out Tryz.underlying48 rfl (Qx q.m) ?_; rw [QJ])
           refine c4.mono ?_
           rintro e w5 ⟨⟨r5,rfl,hr5⟩,hb5⟩
           have HB5:Hid (yD V w5):=Qe HBR4.out hb5
           have HR5:Hid (0≤r5∧r5≤1000000000000000∧(r5≤1048576→size q.m≤1048576)∧z4+1≤r5):=⟨hr5.1,by have:=hr5.2.1; omega,fun hh=>by have h1:=hr5.2.2 hh; have h2:=KU q.m; have h3:=HR4.out.1; omega,wgt_one hr5 hz4⟩
           clear c4 hr5 hb5 k1 k2 HRG7
           go_wp2_with fail
           go_loopw [3,9] (fun v t wr=>∃ (j:Nat) (z5:Int),j≤q.ds.length∧t=zI j∧v=zI z5∧yD V wr∧Hid (0≤z5∧z5≤1000000000000000∧(z5≤1048576→size q.m≤1048576∧∀ x ∈ q.ds.take j,DoY x))∧Hid (z4+1≤z5∧(j:Int)≤z5)) (fun _ t _=>q.ds.length - (intOf t).toNat)
           case atStart=>exact⟨0,r5,by omega,rfl,rfl,HB5.out,⟨HR5.out.1,HR5.out.2.1,fun hh=>⟨HR5.out.2.2.1 hh,fun x hx=>by simp at hx⟩⟩,HR5.out.2.2.2,HR5.out.1⟩
           case round =>
            obtain⟨j,z5,hj,rfl,rfl,hbr5,HR6,HQ6⟩:=hrel
            have HBR5:Hid (yD V wr):=hbr5
            clear hbr5
            have p8:wr.cell? ⟨b7,o7+k * 10+8,none⟩=some (.slice q.a q.ds.length q.c):=HAT7.out _ HBR5.out 8 (by omega)
            by_cases hlj:j < q.ds.length
            ·have hlj':(j:Int) < (q.ds.length:Int):=by omega
             by_cases hz5:z5≤1048576
             ·have hmj:(j:Int)+1≤9223372036854775807:=by have h1:=HM7.out.2.1.1; have h2:=HM7.out.2.1.2.1; rw [List.length_map] at h1; omega
              obtain⟨b9,o9,ea9,hat9⟩:=(HM7.out.2.1.on (mapz DoM.sz _) HBR5.out).2.2 j (by rw [List.length_map]; exact hlj)
              simp only [List.getElem_map] at hat9
              have HM9:Hid (DoL V q.ds[j]):=HM7.out.2.2.1 _ (List.getElem_mem hlj)
              have HP9:Hid (DoY q.ds[j]→∀ x ∈ q.ds.take (j+1),DoY x):=fun h=>Kp hlj (HR6.out.2.2 hz5).2 h
              obtain⟨x9,e9⟩:∃ x9,q.ds[j]=x9:=⟨_,rfl⟩
              rw [e9] at hat9 HM9 HP9
              have HRG9:Hid (wr.rangeAt b9 (o9+j * 36) x9.vals.toList):=fun jj v hv=>by
               have hjj:jj < 36:=(List.getElem?_eq_some_iff.1 hv).1
               rw [hat9 jj hjj,← hv]; simp
              have c9:=weighDo_any x9 wr (z5+1) (HM9.out.on HBR5.out) (by have:=HR6.out; omega) (by omega)
              have k1:z5+1≤9223372036854775807:=by omega
              have k2:-9223372036854775808≤z5+1:=by have:=HR6.out; omega
              rw [ea9] at p8
              clear hat9 e9 ea9
              go_wp2_with (refine wpList_load_mid rfl 105 _ rfl b9 (o9+j * 36) rfl x9.vals.toList _ HRG9.out Tryz.underlying105 rfl (by show _=some 36; exact Qk) ?_; rw [Array.toArray_toList])
              refine c9.mono ?_
              rintro e w6 ⟨⟨r6,rfl,hr6⟩,hb6⟩
              have HB6:Hid (yD V w6):=Qe HBR5.out hb6
              have HR7:Hid (0≤r6∧r6≤1000000000000000∧(r6≤1048576→size q.m≤1048576∧∀ x ∈ q.ds.take (j+1),DoY x)∧z5+1≤r6):=⟨hr6.1,by have:=hr6.2.1; omega,fun hh=>⟨(HR6.out.2.2 hz5).1,HP9.out (hr6.2.2 hh).1⟩,if hh:r6≤1048576 then (hr6.2.2 hh).2 else by omega⟩
              clear c9 hr6 hb6 p8
              go_wp2_with fail
              exact⟨⟨j+1,r6,hlj,rfl,rfl,HB6.out,⟨HR7.out.1,HR7.out.2.1,HR7.out.2.2.1⟩,by have h1:=HQ6.out; have h2:=HR7.out.2.2.2; omega,by have h1:=HQ6.out; have h2:=HR7.out.2.2.2; omega⟩,by simp only [intOf]; omega⟩
             ·go_wp2_with fail
              exact⟨⟨k+1,z5,hlk,rfl,rfl,HBR5.out,⟨HR6.out.1,HR6.out.2.1,fun hh=>absurd hh (by omega)⟩,by have h1:=HQ6.out; have h2:=HQ4.out; omega,by have h1:=HQ6.out; have h2:=HQ4.out; omega⟩,by simp only [intOf]; omega⟩
            ·obtain rfl:j=q.ds.length:=by omega
             have hnot5:¬ (q.ds.length:Int) < (q.ds.length:Int):=by omega
             go_wp2_with fail
             exact⟨⟨k+1,z5,hlk,rfl,rfl,HBR5.out,⟨HR6.out.1,HR6.out.2.1,fun hh=>by have h1:=HR6.out.2.2 hh; rw [List.take_length] at h1; exact HP7.out ⟨h1.1,by have:=HQ6.out; omega,h1.2⟩⟩,by have h1:=HQ6.out; have h2:=HQ4.out; omega,by have h1:=HQ6.out; have h2:=HQ4.out; omega⟩,by simp only [intOf]; omega⟩
          ·go_wp2_with fail
           exact⟨⟨i3+1,z4,hlt,rfl,rfl,HBR4.out,⟨HR4.out.1,HR4.out.2.1,fun hh=>absurd hh (by omega)⟩,by have:=HQ4.out; have:=HQ3.out; omega,by have:=HQ4.out; have:=HQ3.out; omega⟩,by simp only [intOf]; omega⟩
         ·obtain rfl:k=d.rs.length:=by omega
          have hnot4:¬ (d.rs.length:Int) < (d.rs.length:Int):=by omega
          go_wp2_with fail
          exact⟨⟨i3+1,z4,hlt,rfl,rfl,HBR4.out,⟨HR4.out.1,HR4.out.2.1,fun hh=>by have h1:=HR4.out.2.2 hh; rw [List.take_length] at h1; exact HPR.out ⟨by have:=HQ4.out; omega,h1⟩⟩,by have:=HQ4.out; have:=HQ3.out; omega,by have:=HQ4.out; have:=HQ3.out; omega⟩,by simp only [intOf]; omega⟩
       ·go_wp2_with fail
        go_ret
        exact⟨⟨_,rfl,HR3.out.1,by have:=HR3.out.2.1; omega,fun hh=>absurd hh (by omega)⟩,Qe HBV.out HBR3.out⟩
      ·obtain rfl:i3=S.ts.length:=by omega
       have hnot3:¬ (S.ts.length:Int) < (S.ts.length:Int):=by omega
       go_wp2_with fail
       go_ret
       exact⟨⟨_,rfl,HR3.out.1,by have:=HR3.out.2.1; omega,fun hh=>by have h1:=HR3.out.2.2 hh; rw [List.take_length] at h1; have a1:=HQ.out; have a2:=HQ2.out; have a3:=HQ3.out; have a4:=a1.2 (by omega); rw [List.take_length] at a4; have a5:=a1.1; exact⟨by omega,a4,by omega,by omega,h1⟩⟩,Qe HBV.out HBR3.out⟩
def gEnd (ts:List Tk):Except Ft Unit:=do
 let t ← Jc ts
 JD (decide (t.k=0)) 130 ts
def JQ (s:yB):Except Ft Tr :=
 match Ka (rdT s) with
 | .error f=>.error f
 | .ok q=>match gEnd q.2 with
  | .error f=>.error f
  | .ok _=>.ok q.1
theorem whole_err {s:yB}{f:Ft}(h:dEnd (stOf (Ka (rdT s)))=.error f):JQ s=.error f:=by
 unfold JQ
 cases hr:Ka (rdT s) with
 | error f'=>rw [hr] at h; cases h; rfl
 | ok q =>
  obtain⟨q1,q2⟩:=q
  rw [hr] at h
  cases q2 with
  | nil=>cases h; rfl
  | cons u r =>
   simp only [stOf,nf,dEnd] at h
   by_cases c:u.k=0
   ·rw [if_pos c] at h; cases h
   ·rw [if_neg c] at h
    cases h
    simp [gEnd,Jc,bind,Except.bind,JD,c]
theorem whole_ok {s:yB}{ts:List Tk}(h:dEnd (stOf (Ka (rdT s)))=.ok ts):∃ q,Ka (rdT s)=.ok q∧JQ s=.ok q.1:=by
 unfold JQ
 cases hr:Ka (rdT s) with
 | error f'=>rw [hr] at h; cases h
 | ok q =>
  obtain⟨q1,q2⟩:=q
  rw [hr] at h
  cases q2 with
  | nil=>cases h
  | cons u r =>
   simp only [stOf,nf,dEnd] at h
   by_cases c:u.k=0
   ·exact⟨_,rfl,by simp [gEnd,Jc,bind,Except.bind,JD,c]⟩
   ·rw [if_neg c] at h; cases h
def ftT (s:yB):Ft→Int × Int × Bool
 | .tok no p=>(no,p,false)
 | .lex=>(tksE s,tksB s,true)
def OutX (s:yB) (w:yW) (e:Ending) (w':yW):Prop :=
 (match JQ s with
 | .ok t=>∃ m,e=.returned (.tuple #[.agg m.vals,.agg zi])∧Qh m=t∧Lies w' m∧Bkn (fun k=>w§≤k∧k < w'§) m
 | .error f=>(ftT s f).1≠0∧e=.returned (.tuple #[.agg nul8,.agg #[zI (ftT s f).1,zI (ftT s f).2.1,.bool (ftT s f).2.2]]))∧yD w w'
theorem fin3f {U:yW}{b:Nat}{a0 a1 a2:Value}(h:U.heap[b]? = (zC #[a0,a1,a2] 30)) (v0 v1 v2:Value) :
  ∃ Y,(((U.setCell b¢0 v0).setCell b¢1 v1).setCell b¢2 v2)=Y∧Y.heap[b]? = (zC #[v0,v1,v2] 30)∧Y§=U§∧(∀ k,k≠b→Y.heap[k]? = U.heap[k]?)∧(∀ (w:yW) (F:Nat→Prop),Mv w U F→w§≤b→Mv w Y F):=by
 have h1:(U.setCell b¢0 v0).heap[b]? = (zC #[v0,a1,a2] 30):=Qi v0 h
 have h2:((U.setCell b¢0 v0).setCell b¢1 v1).heap[b]? = (zC #[v0,v1,a2] 30):=Qi v1 h1
 refine⟨_,rfl,Qi v2 h2,by simp [World.setCell],fun k hk=>?_,fun w F m hb=>((m.setCell (a:=b¢0) (.inr hb) v0).setCell (a:=b¢1) (.inr hb) v1).setCell (a:=b¢2) (.inr hb) v2⟩
 iterate 3 (refine (Below.heap_setCell _ _ _ _ (show k≠b from hk)).trans ?_)
 rfl
structure XZ (w:yW) (V:yW):Prop where
 B:yD w V
 z:V.heap[w§]? = (zC zNo 48)
 f:V.heap[w§+1]? = (zC zi 30)
theorem XZ.hid {w V:yW}(h:XZ w V):Hid (XZ w V):=h
theorem XZ.new (w:yW):XZ w ((w.alloc (.cells zNo 48)).alloc (.cells zi 30)):=by
 have b1:=Qc w (.cells zNo 48)
 have s1:=Qf w (.cells zNo 48)
 have n1:=Qd w (.cells zNo 48)
 have b2:=Qc (w.alloc (.cells zNo 48)) (.cells zi 30)
 have n2:=Qd (w.alloc (.cells zNo 48)) (.cells zi 30)
 rw [s1] at n2
 exact⟨Qe b1 b2,(b2.block _ (by omega)).trans n1,n2⟩
theorem XZ.mv {w V V':yW}(h:XZ w V) {F:Nat→Prop}(m:Mv V V' F) (hF:∀ k,F k→w§+1 < k):XZ w V':=by
 have hz:=(zJ h.z).1
 have hf:=(zJ h.f).1
 have hs:=h.B.size
 refine⟨?_,(m.block _ hz (fun e=>by have:=hF _ e; omega)).trans h.z,(m.block _ hf (fun e=>by have:=hF _ e; omega)).trans h.f⟩
 have m1:Mv w V (fun k=>w§+1 < k):=Mv.ofBelow h.B
 exact (m1.trans m (fun k e=>.inl (hF k e))).below (Nat.le_refl _) (fun k e=>by omega)
theorem XZ.on {w V V':yW}(h:XZ w V) (k:yD V V'):XZ w V':=h.mv (F:=fun _=>False) (Mv.ofBelow k) (fun _ e=>e.elim)
theorem exprX (s:yB) (t0:Tr) (hgw:JQ s=.ok t0) (w:yW):Calls zG 24 #[.string s] w (OutX s w):=by
 have HGW:Hid (JQ s=.ok t0):=hgw
 clear hgw
 have HX:=(XZ.new w).hid
 obtain⟨W0,eW0⟩:∃ W,(w.alloc (.cells zNo 48)).alloc (.cells zi 30)=W:=⟨_,rfl⟩
 rw [eW0] at HX
 have cB:=begin_d s W0
 go_enter Tryz.func24,Tryz.ntmps24
 go_wp2_with fail
 try rw [eW0]
 refine cB.mono ?_
 rintro e w1 ⟨b,K,rfl,hb,hs,hK,hgd,hT,hE,hB⟩
 have HX1:=(HX.out.on hB).hid
 have hz0:=(zJ HX.out.f).1
 have HB1:Hid (w§+1 < b):=by show _ < _; omega
 have HBL:Hid (b < w1§):=hs.lw.1
 have HK:Hid (KOk K):=hK
 have HT:Hid (K.T=rdT s):=hT
 have HE:Hid ((K.lg=false∧K.be=tksE s∧K.ba=tksB s)∨(K.lg=true∧tksE s=110∧tksB s=0)):=hE
 have cE:=expr0_d hK w1 (nf (rdT s)) hs
 rw [Kq exprT_nil] at cE
 clear cB hb hs hK hgd hT hE hB hz0 HX eW0
 go_wp2_with fail
 refine cE.mono ?_
 rintro e w2 ⟨⟨⟨k2,o2,ty2,n2,f2,x2,p2⟩,am2,cm2,ks2⟩,rfl,hl,hk,hs,hm,ht⟩
 simp only [Nd.vals,Nd.h,Nd.a,Nd.c,Nd.ks,hdA]
 have HX2:=((HX1.out.mv hm (fun k e=>by rw [e]; exact HB1.out)).on (Qc w2 (.cells (zW k2 o2 ty2 n2 f2 x2 am2 ks2 cm2 p2) 48))).hid
 have hn:=Qc w2 (.cells (zW k2 o2 ty2 n2 f2 x2 am2 ks2 cm2 p2) 48)
 have hN:=Qd w2 (.cells (zW k2 o2 ty2 n2 f2 x2 am2 ks2 cm2 p2) 48)
 have HL2:=(hl.on hn).hid
 have hs2:=hs.on hn
 have hz1:=(zJ HX1.out.f).1
 have HQ:Hid (w1§≤w2§∧w§+1 < w1§∧b < w1§):=⟨hm.size,hz1,HBL.out⟩
 have HK2:Hid (Bkn (fun k=>w1§≤k∧k < w2§) (Nd.mk ⟨k2,o2,ty2,n2,f2,x2,p2⟩ am2 cm2 ks2)):=hk
 have HT2:Hid (∀ q,Ka (rdT s)=.ok q→Qh (Nd.mk ⟨k2,o2,ty2,n2,f2,x2,p2⟩ am2 cm2 ks2)=q.1):=ht
 have HN2:Hid ((w2.alloc (.cells (zW k2 o2 ty2 n2 f2 x2 am2 ks2 cm2 p2) 48)).heap[w2§]? = (zC (zW k2 o2 ty2 n2 f2 x2 am2 ks2 cm2 p2) 48)):=hN
 have cF:=end_s hs2
 have hsz:=Qf w2 (.cells (zW k2 o2 ty2 n2 f2 x2 am2 ks2 cm2 p2) 48)
 have HSZ:Hid ((w2.alloc (.cells (zW k2 o2 ty2 n2 f2 x2 am2 ks2 cm2 p2) 48))§=w2§+1):=hsz
 clear cE hl hk hs hm ht hN hn hs2 hz1 HX1 hsz
 obtain⟨s2,es2⟩:∃ q,dEnd (stOf (Ka (rdT s)))=q:=⟨_,rfl⟩
 have HS2:Hid (dEnd (stOf (Ka (rdT s)))=s2):=es2
 rw [es2] at cF
 clear es2
 go_wp2_with fail
 refine cF.mono ?_
 rintro e w3 ⟨rfl,hs,hm⟩
 have HX3:=(HX2.out.mv hm (fun k e=>by rw [e]; exact HB1.out)).hid
 have hN3:w3.heap[w2§]? = (zC (zW k2 o2 ty2 n2 f2 x2 am2 ks2 cm2 p2) 48):=(hm.block _ (by have:=HSZ.out; omega) (by have:=HQ.out; omega)).trans HN2.out
 have HL3:Hid (Lies w3 (Nd.mk ⟨k2,o2,ty2,n2,f2,x2,p2⟩ am2 cm2 ks2)):=HL2.out.bkn HK2.out fun j hj=>hm.block j (by have:=HSZ.out; omega) (by have:=HQ.out; omega)
 have HZ3:Hid (w2§+1≤w3§):=by have:=hm.size; have:=HSZ.out; show _≤_; omega
 clear cF hm HX2 HL2 HN2
 cases s2 with
 | ok ts =>
  obtain⟨q,e1,e2⟩:=whole_ok HS2.out
  have HW:Hid (JQ s=.ok q.1):=e2
  have HTR:Hid (Qh (Nd.mk ⟨k2,o2,ty2,n2,f2,x2,p2⟩ am2 cm2 ks2)=q.1):=HT2.out q e1
  obtain⟨i,p,u,hp,_⟩:Lv w3 b K ts:=hs
  have cO:=JS hp
  clear hp e1 e2
  go_upto_region 4 with fail
  go_wp2_with fail
  refine cO.mono ?_
  rintro e w4 ⟨rfl,e9⟩
  obtain rfl:=e9.symm
  clear cO e9
  have x0':w3.cell? w2§¢0=some (zU k2):=Qa hN3 0
  have z0:w3.cell? w§¢0=some (zU 0):=Qa HX3.out.z 0
  have q0:w3.frozen? w§¢0=false:=Qb HX3.out.z 0
  have x1':w3.cell? w2§¢1=some (zU o2):=Qa hN3 1
  have z1:w3.cell? w§¢1=some (zU 0):=Qa HX3.out.z 1
  have q1:w3.frozen? w§¢1=false:=Qb HX3.out.z 1
  have x2':w3.cell? w2§¢2=some (zU ty2):=Qa hN3 2
  have z2:w3.cell? w§¢2=some (zU 0):=Qa HX3.out.z 2
  have q2:w3.frozen? w§¢2=false:=Qb HX3.out.z 2
  have x3':w3.cell? w2§¢3=some (zI n2):=Qa hN3 3
  have z3:w3.cell? w§¢3=some (zI 0):=Qa HX3.out.z 3
  have q3:w3.frozen? w§¢3=false:=Qb HX3.out.z 3
  have x4':w3.cell? w2§¢4=some (zU f2):=Qa hN3 4
  have z4:w3.cell? w§¢4=some (zU 0):=Qa HX3.out.z 4
  have q4:w3.frozen? w§¢4=false:=Qb HX3.out.z 4
  have x5':w3.cell? w2§¢5=some (.string x2):=Qa hN3 5
  have z5:w3.cell? w§¢5=some (yQ):=Qa HX3.out.z 5
  have q5:w3.frozen? w§¢5=false:=Qb HX3.out.z 5
  have x6':w3.cell? w2§¢6=some (.slice am2 ks2.length cm2):=Qa hN3 6
  have z6:w3.cell? w§¢6=some (.slice none 0 0):=Qa HX3.out.z 6
  have q6:w3.frozen? w§¢6=false:=Qb HX3.out.z 6
  have x7':w3.cell? w2§¢7=some (zI p2):=Qa hN3 7
  have z7:w3.cell? w§¢7=some (zI 0):=Qa HX3.out.z 7
  have q7:w3.frozen? w§¢7=false:=Qb HX3.out.z 7
  obtain⟨Y,eY,hY1,hY2,hY3,hY4⟩:=fin8 HX3.out.z (zU k2) (zU o2) (zU ty2) (zI n2) (zU f2) (.string x2) (.slice am2 ks2.length cm2) (zI p2)
  have hYf:Y.heap[w§+1]? = (zC zi 30):=(hY3 _ (by omega)).trans HX3.out.f
  obtain⟨U,eU,hU1,hU2,hU3,hU4⟩:=fin3f hYf (zI 0) (zI 0) (.bool false)
  have HEY:Hid (((((((((w3.setCell w§¢0 (zU k2)).setCell w§¢1 (zU o2)).setCell w§¢2 (zU ty2)).setCell w§¢3 (zI n2)).setCell w§¢4 (zU f2)).setCell w§¢5 (.string x2)).setCell w§¢6 (.slice am2 ks2.length cm2)).setCell w§¢7 (zI p2))=Y):=eY
  have HEU:Hid ((((Y.setCell ⟨w§+1,0,none⟩ (zI 0)).setCell ⟨w§+1,1,none⟩ (zI 0)).setCell ⟨w§+1,2,none⟩ (.bool false))=U):=eU
  have fg0:w3.cell? ⟨w§+1,0,none⟩=some (zI 0):=Qa HX3.out.f 0
  have fk0:w3.frozen? ⟨w§+1,0,none⟩=false:=Qb HX3.out.f 0
  have fg1:w3.cell? ⟨w§+1,1,none⟩=some (zI 0):=Qa HX3.out.f 1
  have fk1:w3.frozen? ⟨w§+1,1,none⟩=false:=Qb HX3.out.f 1
  have fg2:w3.cell? ⟨w§+1,2,none⟩=some (.bool false):=Qa HX3.out.f 2
  have fk2:w3.frozen? ⟨w§+1,2,none⟩=false:=Qb HX3.out.f 2
  have HF:Hid (U.heap[w§]? = (zC (Nd.mk ⟨k2,o2,ty2,n2,f2,x2,p2⟩ am2 cm2 ks2).vals 48)∧U.heap[w§+1]? = (zC zi 30)∧Lies U (Nd.mk ⟨k2,o2,ty2,n2,f2,x2,p2⟩ am2 cm2 ks2)∧Bkn (fun k=>w§≤k∧k < U§) (Nd.mk ⟨k2,o2,ty2,n2,f2,x2,p2⟩ am2 cm2 ks2)∧yD w U):=by
   have hq:=HQ.out
   have hz:=HZ3.out
   refine⟨(hU3 _ (by omega)).trans hY1,hU1,HL3.out.bkn HK2.out fun j hj=>(hU3 j (by omega)).trans (hY3 j (by omega)),HK2.out.mono fun j hj=>⟨by omega,by omega⟩,?_⟩
   exact (hU4 w (fun _=>False) (hY4 w (fun _=>False) (Mv.ofBelow HX3.out.B) (Nat.le_refl _)) (by omega)).below (Nat.le_refl _) (fun _ e=>e.elim)
  clear hN3 eY eU hY1 hY2 hY3 hY4 hU1 hU2 hU3 hU4 hYf
  go_wp2_with fail
  rw [HEY.out,HEU.out]
  refine bodyPost_ret (results_cc rfl _ _ w§ (w§+1) 48 30 (Nd.mk ⟨k2,o2,ty2,n2,f2,x2,p2⟩ am2 cm2 ks2).vals zi (0,0) (0,0) _ _ rfl HF.out.1 Tryz.underlying48 rfl zK rfl HF.out.2.1 Tryz.underlying30 rfl zK) rfl ⟨?_,HF.out.2.2.2.2⟩
  rw [HW.out]
  exact⟨_,rfl,HTR.out,HF.out.2.2.1,HF.out.2.2.2.1⟩
 | error f =>
  have HW:Hid (JQ s=.error f):=whole_err HS2.out
  exact absurd (HGW.out.symm.trans HW.out) (fun h=>by cases h)
set_option linter.unusedSimpArgs false
def txS:yB:=⟨#[115,116,114,97,116,101,103,121,32,115,32,123,32,114,101,103,32,110,32,105,110,116,32,61,32,49,59,32,114,101,103,32,100,111,110,101,32,98,111,111,108,32,61,32,116,114,117,101,59,32,115,116,97,116,101,32,97,32,123,32,119,104,101,110,32,100,111,110,101,32,100,111,32,103,111,116,111,32,97,59,32,125,32,125]⟩
def txT:yB:=⟨#[115,116,114,97,116,101,103,121,32,115,32,123,32,115,116,97,116,101,32,97,32,123,32,119,104,101,110,32,116,114,117,101,32,100,111,32,103,111,116,111,32,98,59,32,125,32,125]⟩
def txN:yB:=⟨#[98,105,100,32,47,32,110]⟩
def txM:yB:=⟨#[98,105,100,32,43,32,49]⟩
def sS:Ko:=(pWhole txS).getD ⟨txN,[],[],[]⟩
def sU:Ko:=(pWhole txT).getD ⟨txN,[],[],[]⟩
def tN:Tr:=match JQ txN with
 | .ok t=>t
 | .error _=>tr0
def tM:Tr:=match JQ txM with
 | .ok t=>t
 | .error _=>tr0
theorem pS1:pWhole txS=some sS:=by kernel_rfl
theorem pU1:pWhole txT=some sU:=by kernel_rfl
theorem gN1:JQ txN=.ok tN:=by kernel_rfl
theorem gM1:JQ txM=.ok tM:=by kernel_rfl
theorem chS:chkE (sT sS)=none:=by kernel_rfl
theorem chU:chkE (sT sU)=some (36,151):=by kernel_rfl
theorem zBS:zB (sT sS)=true:=by kernel_rfl
theorem zBU:zB (sT sU)=true:=by kernel_rfl
theorem ofN:ofE (sT sS) (ndT tN)=.ok 3:=by kernel_rfl
theorem ofM:ofE (sT sS) (ndT tM)=.error (4,152):=by kernel_rfl
theorem szN:size (ndT tN)≤100:=by decide +kernel
theorem szM:size (ndT tM)≤100:=by decide +kernel
end Go.Proofs.YtoogodlnnijikaaGreatDoor
