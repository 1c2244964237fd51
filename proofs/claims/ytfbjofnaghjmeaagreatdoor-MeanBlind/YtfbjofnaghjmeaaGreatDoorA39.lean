import Derived.Test.YtfbjofnaghjmeaaGreatDoorA0
import Derived.Test.YtfbjofnaghjmeaaGreatDoorA38
import Derived.Test.YtfbjofnaghjmeaaGreatDoorA20
import Derived.Lib.QuietBelow
import Derived.Test.YtfbjofnaghjmeaaGreatDoorA34
namespace Go.Proofs.YtfbjofnaghjmeaaGreatDoor
set_option maxHeartbeats 16000000
set_option maxRecDepth 100000
open Go.RowKit Go.Sort
set_option linter.unusedVariables false
theorem wr64 {n:Int}(h1:-9223372036854775808≤n) (h2:n≤9223372036854775807):IntKind.i64.wrap n=n:=by rw [IntKind.wrap_i64]; omega
theorem take_snoc {α:Type}{l:List α}{i:Nat}(h:i < l.length) {P:α→Prop}(h1:∀ x ∈ l.take i,P x) (h2:P l[i]):∀ x ∈ l.take (i+1),P x:=by
 intro x hx
 rw [List.take_succ_eq_append_getElem h] at hx
 rcases List.mem_append.1 hx with h3 | h3
 ·exact h1 x h3
 ·obtain rfl:=List.mem_singleton.1 h3; exact h2
def WghS (S:StratM) (r:Int):Prop:=0≤r∧r≤2000000000000000∧(r≤1048576→StratZ S)
theorem weighS_any (S:StratM) (w:yW) (hl:StratL w S):Calls zG 27 #[.agg S.vals] w fun e w'=>(∃ r,e=.returned (zI r)∧WghS S r)∧yD w w':=by
 have hb0:=below_new w (.cells S.vals 26)
 have hn0:=heap_new w (.cells S.vals 26)
 have hx:S.x.size≤140737488355328:=hl.2.2.2.2.2.2
 have HXS:Hid ((S.x.size:Int)≤140737488355328):=by show (S.x.size:Int)≤_; omega
 have q0:(w.alloc (.cells S.vals 26)).cell? w§¢0=some (.string S.x):=cell_of hn0 0
 obtain⟨V,eV⟩:∃ V,w.alloc (.cells S.vals 26)=V:=⟨_,rfl⟩
 have HV:Hid (w.alloc (.cells S.vals 26)=V):=eV
 have BOX:Hid (∀ u,yD V u→u.heap[w§]? = (zC S.vals 26)):=fun u hu=>by rw [← eV] at hu; exact (hu.block _ (zJ hn0).1).trans hn0
 have HBV:Hid (yD w V):=by show yD w V; rw [← eV]; exact hb0
 have HL:Hid (StratL V S):=hl.on HBV.out
 clear hl hb0 hn0 eV hx
 go_enter Tryz.func27,Tryz.ntmps27
 go_wp2_with fail
 rw [HV.out]
 clear q0 HV
 go_loopw [3,4] (fun v t wr=>∃ (i:Nat) (z:Int),i≤S.rs.length∧t=zI i∧v=zI z∧yD V wr∧Hid (0≤z∧z≤1000000000000000)) (fun _ t _=>S.rs.length - (intOf t).toNat)
 case atStart=>exact⟨0,(S.x.size:Int),by omega,rfl,rfl,Below.refl _ _,by omega,by have:=HXS.out; omega⟩
 case round =>
  obtain⟨i,z,hi,rfl,rfl,hbr,HR⟩:=hrel
  have HBR:Hid (yD V wr):=hbr
  clear hbr
  have q1:wr.cell? w§¢1=some (.slice S.ra S.rs.length S.rc):=cell_of (BOX.out _ HBR.out) 1
  by_cases hlt:i < S.rs.length
  ·have hlt':(i:Int) < (S.rs.length:Int):=by omega
   by_cases hz:z≤1048576
   ·have hmx:(i:Int)+1≤9223372036854775807:=by have h1:=HL.out.1.1; have h2:=HL.out.1.2.1; rw [List.length_map] at h1; omega
    obtain⟨b,o,ea,hat⟩:=(HL.out.1.on (mapz RegM.sz _) HBR.out).2.2 i (by rw [List.length_map]; exact hlt)
    simp only [List.getElem_map] at hat
    have HMEM:Hid (RegL V S.rs[i]):=HL.out.2.1 _ (List.getElem_mem hlt)
    obtain⟨d,ed⟩:∃ d,S.rs[i]=d:=⟨_,rfl⟩
    rw [ed] at hat HMEM
    have y0:wr.cell? ⟨b,o+i * 11,none⟩=some (.string d.x):=hat 0 (by omega)
    have HRG:Hid (wr.rangeAt b (o+i * 11+2) d.m.vals.toList):=fun j v hv=>by
     have hj:j < 8:=(List.getElem?_eq_some_iff.1 hv).1
     have:=hat (2+j) (by omega)
     rw [show o+i * 11+2+j=o+i * 11+(2+j) by omega,this,reg_m d j hj,← hv]
    have HDX:Hid ((d.x.size:Int)≤140737488355328):=by have:d.x.size≤140737488355328:=HMEM.out.2.2.2; show (d.x.size:Int)≤_; omega
    have g1:z+1≤9223372036854775807:=by omega
    have g2:-9223372036854775808≤z+1:=by have:=HR.out; omega
    have g3:z+1+(d.x.size:Int)≤9223372036854775807:=by have:=HDX.out; omega
    have g4:-9223372036854775808≤z+1+(d.x.size:Int):=by have:=HR.out; omega
    rw [ea] at q1
    have hd2:∀ j,j < 8→wr.cell? ⟨b,o+i * 11+2+j,none⟩=d.m.vals.toList[j]?:=fun j hj=>by
     have:=hat (2+j) (by omega)
     rw [show o+i * 11+2+j=o+i * 11+(2+j) by omega,this,reg_m d j hj]
    have HKP:Hid (∀ v,GB wr v→v.cell? w§¢1=some (.slice (some b¢o) S.rs.length S.rc)∧v.cell? ⟨b,o+i * 11,none⟩=some (.string d.x)∧v.cell? ⟨b,o+i * 11+2,none⟩=some (zU d.m.h.k)∧v.cell? ⟨b,o+i * 11+2+1,none⟩=some (zU d.m.h.o)∧v.cell? ⟨b,o+i * 11+2+2,none⟩=some (zU d.m.h.t)∧v.cell? ⟨b,o+i * 11+2+3,none⟩=some (zI d.m.h.n)∧v.cell? ⟨b,o+i * 11+2+4,none⟩=some (zU d.m.h.f)∧v.cell? ⟨b,o+i * 11+2+5,none⟩=some (.string d.m.h.x)∧v.cell? ⟨b,o+i * 11+2+6,none⟩=some (.slice d.m.a d.m.ks.length d.m.c)∧v.cell? ⟨b,o+i * 11+2+7,none⟩=some (zI d.m.h.p)∧GB wr v):=fun v hv=>by
     have kp:∀ (a:Addr) (x:Value),wr.cell? a=some x→v.cell? a=some x:=fun a x h=>(World.cell?_of_block (hv.block _ (World.block_lt_of_cell? wr _ h))).trans h
     exact⟨kp _ _ q1,kp _ _ y0,kp _ _ (hd2 0 (by omega)),kp _ _ (hd2 1 (by omega)),kp _ _ (hd2 2 (by omega)),kp _ _ (hd2 3 (by omega)),kp _ _ (hd2 4 (by omega)),kp _ _ (hd2 5 (by omega)),kp _ _ (hd2 6 (by omega)),kp _ _ (hd2 7 (by omega)),hv⟩
    have c1:∀ v,GB wr v→Calls zG 28 #[.agg #[zU d.m.h.k,zU d.m.h.o,zU d.m.h.t,zI d.m.h.n,zU d.m.h.f,.string d.m.h.x,.slice d.m.a d.m.ks.length d.m.c,zI d.m.h.p],zI (z+1+(d.x.size:Int)),zI 0] v fun e w'=>(∃ r,e=.returned (zI r)∧Wgt d.m (z+1+(d.x.size:Int)) r)∧yD v w':=fun v hv=>weigh_top d.m v (z+1+(d.x.size:Int)) ((HMEM.out.1.on HBR.out).on hv) (by have:=HR.out; omega) (by have:=HDX.out; omega)
    have y1:wr.cell? ⟨b,o+i * 11+2,none⟩=some (zU d.m.h.k):=hd2 0 (by omega)
    clear hat ed ea hd2
    go_upto_region 5 with fail
    obtain⟨r,er⟩:∃ r,wgE d.m (z+1+(d.x.size:Int)) 0=r:=⟨_,rfl⟩
    have hr:Wgt d.m (z+1+(d.x.size:Int)) r:=by rw [← er]; exact wgt_of HMEM.out.1 (by have:=HR.out; omega)
    have cq:∀ dq os,Calls zG 28 #[.agg #[zU d.m.h.k,zU d.m.h.o,zU d.m.h.t,zI d.m.h.n,zU d.m.h.f,.string d.m.h.x,.slice d.m.a d.m.ks.length d.m.c,zI d.m.h.p],zI (z+1+(d.x.size:Int)),zI 0] (grow (redrawn wr dq) os) fun e w''=>e=.returned (zI r)∧∃ p:Regrown,w''=grow (redrawn wr p.d) p.os:=fun dq os=>Calls.regrown_of (by rw [← er]; exact weigh_any d.m _ (z+1+(d.x.size:Int)) 0 ((HMEM.out.1.on HBR.out).on (below_regrown wr dq os)) (by have:=HR.out; omega) (by have:=HDX.out; omega) (by omega) (by omega))
    obtain⟨l1,l0,m0,m1,m2,m3,m4,m5,m6,m7,_⟩:=HKP.out wr (GB.refl _)
    have k1:=cell_regrown l1
    have k0:=cell_regrown l0
    have j0:=cell_regrown m0
    have j1:=cell_regrown m1
    have j2:=cell_regrown m2
    have j3:=cell_regrown m3
    have j4:=cell_regrown m4
    have j5:=cell_regrown m5
    have j6:=cell_regrown m6
    have j7:=cell_regrown m7
    have hw1:IntKind.i64.wrap (z+1)=z+1:=wr64 g2 g1
    have hw2:IntKind.i64.wrap (z+1+(d.x.size:Int))=z+1+(d.x.size:Int):=wr64 g4 g3
    refine wp_region_quiet_below zK zK ?_
    repeat (quiet_step (first | (simp only [hw1,hw2]; exact cq _ _) | exact cq _ _))
    refine wpQuiet_nil ?_
    intro _ hw'
    obtain⟨⟨dq,osq⟩,hw''⟩:=hw'
    subst hw''
    have HB5:Hid (yD V (grow (redrawn wr dq) osq)):=below2 HBR.out (below_regrown wr dq osq)
    generalize grow (redrawn wr dq) osq=w5 at HB5 ⊢
    have HR5:Hid (0≤r∧r≤1000000000000000):=⟨hr.1,by have h1:=hr.2.1; have h2:=HDX.out; omega⟩
    clear hr er cq c1 q1 y0 y1 l1 l0 m0 m1 m2 m3 m4 m5 m6 m7 k1 k0 j0 j1 j2 j3 j4 j5 j6 j7 hw1 hw2 HKP
    go_wp2_with fail
    exact⟨⟨i+1,r,hlt,rfl,rfl,HB5.out,HR5.out⟩,by simp only [intOf]; omega⟩
   ·go_wp2_with fail
    go_loopw [3,5] (fun v t wr=>t=zI 0∧v=zI z∧yD V wr) (fun _ _ _=>0)
    case atStart=>exact⟨rfl,rfl,HBR.out⟩
    case round =>
     obtain⟨rfl,rfl,hx2⟩:=hrel
     have HX2:Hid (yD V wr):=hx2
     clear hx2
     have p2:wr.cell? w§¢2=some (.slice S.sa S.ss.length S.sc):=cell_of (BOX.out _ HX2.out) 2
     by_cases hl2:(0:Int) < (S.ss.length:Int)
     ·go_wp2_with fail
      go_loopw [3,6] (fun v t wr=>t=zI 0∧v=zI z∧yD V wr) (fun _ _ _=>0)
      case atStart=>exact⟨rfl,rfl,HX2.out⟩
      case round =>
       obtain⟨rfl,rfl,hx3⟩:=hrel
       have HX3:Hid (yD V wr):=hx3
       clear hx3
       have p3:wr.cell? w§¢3=some (.slice S.ta S.ts.length S.tc):=cell_of (BOX.out _ HX3.out) 3
       by_cases hl3:(0:Int) < (S.ts.length:Int)
       ·go_wp2_with fail
        go_ret
        exact⟨⟨_,rfl,HR.out.1,by have:=HR.out.2; omega,fun hh=>absurd hh (by omega)⟩,below2 HBV.out HX3.out⟩
       ·go_wp2_with fail
        go_ret
        exact⟨⟨_,rfl,HR.out.1,by have:=HR.out.2; omega,fun hh=>absurd hh (by omega)⟩,below2 HBV.out HX3.out⟩
     ·go_wp2_with fail
      go_loopw [3,6] (fun v t wr=>t=zI 0∧v=zI z∧yD V wr) (fun _ _ _=>0)
      case atStart=>exact⟨rfl,rfl,HX2.out⟩
      case round =>
       obtain⟨rfl,rfl,hx3⟩:=hrel
       have HX3:Hid (yD V wr):=hx3
       clear hx3
       have p3:wr.cell? w§¢3=some (.slice S.ta S.ts.length S.tc):=cell_of (BOX.out _ HX3.out) 3
       by_cases hl3:(0:Int) < (S.ts.length:Int)
       ·go_wp2_with fail
        go_ret
        exact⟨⟨_,rfl,HR.out.1,by have:=HR.out.2; omega,fun hh=>absurd hh (by omega)⟩,below2 HBV.out HX3.out⟩
       ·go_wp2_with fail
        go_ret
        exact⟨⟨_,rfl,HR.out.1,by have:=HR.out.2; omega,fun hh=>absurd hh (by omega)⟩,below2 HBV.out HX3.out⟩
  ·obtain rfl:i=S.rs.length:=by omega
   have hnot:¬ (S.rs.length:Int) < (S.rs.length:Int):=by omega
   go_wp2_with fail
   go_loopw [3,5] (fun v t wr=>∃ (i2:Nat) (z2:Int),i2≤S.ss.length∧t=zI i2∧v=zI z2∧yD V wr∧Hid (0≤z2∧z2≤1000000000000000)) (fun _ t _=>S.ss.length - (intOf t).toNat)
   case atStart=>exact⟨0,z,by omega,rfl,rfl,HBR.out,HR.out⟩
   case round =>
    obtain⟨i2,z2,hi2,rfl,rfl,hbr2,HR2⟩:=hrel
    have HBR2:Hid (yD V wr):=hbr2
    clear hbr2 q1 HBR HR
    have q2:wr.cell? w§¢2=some (.slice S.sa S.ss.length S.sc):=cell_of (BOX.out _ HBR2.out) 2
    by_cases hlt:i2 < S.ss.length
    ·have hlt':(i2:Int) < (S.ss.length:Int):=by omega
     by_cases hz:z2≤1048576
     ·have hmx:(i2:Int)+1≤9223372036854775807:=by have h1:=HL.out.2.2.1.1; have h2:=HL.out.2.2.1.2.1; rw [List.length_map] at h1; omega
      obtain⟨b,o,ea,hat⟩:=(HL.out.2.2.1.on (mapz SlotM.sz _) HBR2.out).2.2 i2 (by rw [List.length_map]; exact hlt)
      simp only [List.getElem_map] at hat
      have HMEM:Hid (SlotL S.ss[i2]):=HL.out.2.2.2.1 _ (List.getElem_mem hlt)
      obtain⟨d,ed⟩:∃ d,S.ss[i2]=d:=⟨_,rfl⟩
      rw [ed] at hat HMEM
      have y0:wr.cell? ⟨b,o+i2 * 2,none⟩=some (.string d.x):=hat 0 (by omega)
      have HDX:Hid ((d.x.size:Int)≤140737488355328):=by have:d.x.size≤140737488355328:=HMEM.out.2; show (d.x.size:Int)≤_; omega
      have g1:z2+1≤9223372036854775807:=by omega
      have g2:-9223372036854775808≤z2+1:=by have:=HR2.out; omega
      have g3:z2+1+(d.x.size:Int)≤9223372036854775807:=by have:=HDX.out; omega
      have g4:-9223372036854775808≤z2+1+(d.x.size:Int):=by have:=HR2.out; omega
      rw [ea] at q2
      clear hat ed ea
      go_wp2_with fail
      exact⟨⟨i2+1,z2+1+(d.x.size:Int),hlt,rfl,rfl,HBR2.out,by have:=HR2.out; omega,by have:=HDX.out; omega⟩,by simp only [intOf]; omega⟩
     ·go_wp2_with fail
      go_loopw [3,6] (fun v t wr=>t=zI 0∧v=zI z2∧yD V wr) (fun _ _ _=>0)
      case atStart=>exact⟨rfl,rfl,HBR2.out⟩
      case round =>
       obtain⟨rfl,rfl,hx3⟩:=hrel
       have HX3:Hid (yD V wr):=hx3
       clear hx3
       have p3:wr.cell? w§¢3=some (.slice S.ta S.ts.length S.tc):=cell_of (BOX.out _ HX3.out) 3
       by_cases hl3:(0:Int) < (S.ts.length:Int)
       ·go_wp2_with fail
        go_ret
        exact⟨⟨_,rfl,HR2.out.1,by have:=HR2.out.2; omega,fun hh=>absurd hh (by omega)⟩,below2 HBV.out HX3.out⟩
       ·go_wp2_with fail
        go_ret
        exact⟨⟨_,rfl,HR2.out.1,by have:=HR2.out.2; omega,fun hh=>absurd hh (by omega)⟩,below2 HBV.out HX3.out⟩
    ·obtain rfl:i2=S.ss.length:=by omega
     have hnot2:¬ (S.ss.length:Int) < (S.ss.length:Int):=by omega
     go_wp2_with fail
     go_loopw [3,6] (fun v t wr=>∃ (i3:Nat) (z3:Int),i3≤S.ts.length∧t=zI i3∧v=zI z3∧yD V wr∧Hid (0≤z3∧z3≤1000000000000000∧(z3≤1048576→∀ x ∈ S.ts.take i3,StateZ x))) (fun _ t _=>S.ts.length - (intOf t).toNat)
     case atStart=>exact⟨0,z2,by omega,rfl,rfl,HBR2.out,HR2.out.1,HR2.out.2,fun _ x hx=>by simp at hx⟩
     case round =>
      obtain⟨i3,z3,hi3,rfl,rfl,hbr3,HR3⟩:=hrel
      have HBR3:Hid (yD V wr):=hbr3
      clear hbr3 q2 HBR2 HR2
      have q3:wr.cell? w§¢3=some (.slice S.ta S.ts.length S.tc):=cell_of (BOX.out _ HBR3.out) 3
      by_cases hlt:i3 < S.ts.length
      ·have hlt':(i3:Int) < (S.ts.length:Int):=by omega
       by_cases hz:z3≤1048576
       ·have hmx:(i3:Int)+1≤9223372036854775807:=by have h1:=HL.out.2.2.2.2.1.1; have h2:=HL.out.2.2.2.2.1.2.1; rw [List.length_map] at h1; omega
        obtain⟨b,o,ea,hat⟩:=(HL.out.2.2.2.2.1.on (mapz StateM.sz _) HBR3.out).2.2 i3 (by rw [List.length_map]; exact hlt)
        simp only [List.getElem_map] at hat
        have HMEM:Hid (StateL V S.ts[i3]):=HL.out.2.2.2.2.2.1 _ (List.getElem_mem hlt)
        have HPR:Hid (StateZ S.ts[i3]→∀ x ∈ S.ts.take (i3+1),StateZ x):=fun h=>take_snoc hlt (HR3.out.2.2 hz) h
        obtain⟨d,ed⟩:∃ d,S.ts[i3]=d:=⟨_,rfl⟩
        rw [ed] at hat HMEM HPR
        have y0:wr.cell? ⟨b,o+i3 * 3,none⟩=some (.string d.x):=hat 0 (by omega)
        have y1:wr.cell? ⟨b,o+i3 * 3+1,none⟩=some (.slice d.a d.rs.length d.c):=hat 1 (by omega)
        have HDX:Hid ((d.x.size:Int)≤140737488355328):=by have:d.x.size≤140737488355328:=HMEM.out.2.2.2; show (d.x.size:Int)≤_; omega
        have g1:z3+1≤9223372036854775807:=by omega
        have g2:-9223372036854775808≤z3+1:=by have:=HR3.out; omega
        have g3:z3+1+(d.x.size:Int)≤9223372036854775807:=by have:=HDX.out; omega
        have g4:-9223372036854775808≤z3+1+(d.x.size:Int):=by have:=HR3.out; omega
        have HZ0:Hid (0≤z3+1+(d.x.size:Int)∧z3+1+(d.x.size:Int)≤1000000000000000):=⟨by have:=HR3.out; omega,by have:=HDX.out; omega⟩
        rw [ea] at q3
        clear hat ed ea HR3
        go_wp2_with fail
        clear g1 g2 g3 g4 y0 y1 q3
        go_loopw [3,8] (fun v t wr=>∃ (k:Nat) (z4:Int),k≤d.rs.length∧t=zI k∧v=zI z4∧yD V wr∧Hid (0≤z4∧z4≤1000000000000000∧(z4≤1048576→∀ x ∈ d.rs.take k,RuleZ x))) (fun _ t _=>d.rs.length - (intOf t).toNat)
        case atStart=>exact⟨0,_,by omega,rfl,rfl,HBR3.out,HZ0.out.1,HZ0.out.2,fun _ x hx=>by simp at hx⟩
        case round =>
         obtain⟨k,z4,hk,rfl,rfl,hbr4,HR4⟩:=hrel
         have HBR4:Hid (yD V wr):=hbr4
         clear hbr4
         by_cases hlk:k < d.rs.length
         ·have hlk':(k:Int) < (d.rs.length:Int):=by omega
          by_cases hz4:z4≤1048576
          ·have hmk:(k:Int)+1≤9223372036854775807:=by have h1:=HMEM.out.1.1; have h2:=HMEM.out.1.2.1; rw [List.length_map] at h1; omega
           obtain⟨b7,o7,ea7,hat0⟩:=HMEM.out.1.2.2 k (by rw [List.length_map]; exact hlk)
           have HAT7:Hid (∀ u,yD V u→∀ j,j < 10→u.cell? ⟨b7,o7+k * 10+j,none⟩=(d.rs[k]).vals[j]?):=fun u hu j hj=>by
            obtain⟨b8,o8,e8,hat8⟩:=(HMEM.out.1.on (mapz RuleM.sz _) hu).2.2 k (by rw [List.length_map]; exact hlk)
            rw [ea7] at e8
            cases e8
            have:=hat8 j hj
            simp only [List.getElem_map] at this
            exact this
           have HM7:Hid (RuleL V d.rs[k]):=HMEM.out.2.1 _ (List.getElem_mem hlk)
           have HP7:Hid (RuleZ d.rs[k]→∀ x ∈ d.rs.take (k+1),RuleZ x):=fun h=>take_snoc hlk (HR4.out.2.2 hz4) h
           obtain⟨q,eq⟩:∃ q,d.rs[k]=q:=⟨_,rfl⟩
           rw [eq] at HAT7 HM7 HP7
           have HRG7:Hid (wr.rangeAt b7 (o7+k * 10) q.m.vals.toList):=fun j v hv=>by
            have hj:j < 8:=(List.getElem?_eq_some_iff.1 hv).1
            have h1:=rule_m q j hj
            rw [Nat.zero_add] at h1
            rw [HAT7.out _ HBR4.out j (by omega),h1,← hv]
           have c4:=weigh_top q.m wr (z4+1) (HM7.out.1.on HBR4.out) (by have:=HR4.out; omega) (by omega)
           have k1:z4+1≤9223372036854775807:=by omega
           have k2:-9223372036854775808≤z4+1:=by have:=HR4.out; omega
           rw [ea7]
           clear hat0 eq
           go_wp2_with (refine wpList_load_mid rfl 38 _ rfl b7 (o7+k * 10) rfl q.m.vals.toList _ HRG7.out Tryz.underlying38 rfl (size38 q.m) ?_; rw [toArr])
           refine c4.mono ?_
           rintro e w5 ⟨⟨r5,rfl,hr5⟩,hb5⟩
           have HB5:Hid (yD V w5):=below2 HBR4.out hb5
           have HR5:Hid (0≤r5∧r5≤1000000000000000∧(r5≤1048576→size q.m≤1000000000000)):=⟨hr5.1,by have:=hr5.2.1; omega,fun hh=>by have h1:=hr5.2.2 hh; have h2:=size_wt q.m; have h3:=HR4.out.1; omega⟩
           clear c4 hr5 hb5 k1 k2 HRG7
           go_wp2_with fail
           go_loopw [3,9] (fun v t wr=>∃ (j:Nat) (z5:Int),j≤q.ds.length∧t=zI j∧v=zI z5∧yD V wr∧Hid (0≤z5∧z5≤1000000000000000∧(z5≤1048576→size q.m≤1000000000000∧∀ x ∈ q.ds.take j,DoZ x))) (fun _ t _=>q.ds.length - (intOf t).toNat)
           case atStart=>exact⟨0,r5,by omega,rfl,rfl,HB5.out,HR5.out.1,HR5.out.2.1,fun hh=>⟨HR5.out.2.2 hh,fun x hx=>by simp at hx⟩⟩
           case round =>
            obtain⟨j,z5,hj,rfl,rfl,hbr5,HR6⟩:=hrel
            have HBR5:Hid (yD V wr):=hbr5
            clear hbr5
            have p8:wr.cell? ⟨b7,o7+k * 10+8,none⟩=some (.slice q.a q.ds.length q.c):=HAT7.out _ HBR5.out 8 (by omega)
            by_cases hlj:j < q.ds.length
            ·have hlj':(j:Int) < (q.ds.length:Int):=by omega
             by_cases hz5:z5≤1048576
             ·have hmj:(j:Int)+1≤9223372036854775807:=by have h1:=HM7.out.2.1.1; have h2:=HM7.out.2.1.2.1; rw [List.length_map] at h1; omega
              obtain⟨b9,o9,ea9,hat9⟩:=(HM7.out.2.1.on (mapz DoM.sz _) HBR5.out).2.2 j (by rw [List.length_map]; exact hlj)
              simp only [List.getElem_map] at hat9
              have HM9:Hid (DoL V q.ds[j]):=HM7.out.2.2.1 _ (List.getElem_mem hlj)
              have HP9:Hid (DoZ q.ds[j]→∀ x ∈ q.ds.take (j+1),DoZ x):=fun h=>take_snoc hlj (HR6.out.2.2 hz5).2 h
              obtain⟨x9,e9⟩:∃ x9,q.ds[j]=x9:=⟨_,rfl⟩
              rw [e9] at hat9 HM9 HP9
              have HRG9:Hid (wr.rangeAt b9 (o9+j * 36) x9.vals.toList):=fun jj v hv=>by
               have hjj:jj < 36:=(List.getElem?_eq_some_iff.1 hv).1
               rw [hat9 jj hjj,← hv]; simp
              have c9:=weighDo_any x9 wr (z5+1) (HM9.out.on HBR5.out) (by have:=HR6.out; omega) (by omega)
              have k1:z5+1≤9223372036854775807:=by omega
              have k2:-9223372036854775808≤z5+1:=by have:=HR6.out; omega
              rw [ea9] at p8
              clear hat9 e9 ea9
              go_wp2_with (refine wpList_load_mid rfl 121 _ rfl b9 (o9+j * 36) rfl x9.vals.toList _ HRG9.out Tryz.underlying121 rfl (by show _=some 36; exact size110') ?_; rw [Array.toArray_toList])
              refine c9.mono ?_
              rintro e w6 ⟨⟨r6,rfl,hr6⟩,hb6⟩
              have HB6:Hid (yD V w6):=below2 HBR5.out hb6
              have HR7:Hid (0≤r6∧r6≤1000000000000000∧(r6≤1048576→size q.m≤1000000000000∧∀ x ∈ q.ds.take (j+1),DoZ x)):=⟨hr6.1,by have:=hr6.2.1; omega,fun hh=>⟨(HR6.out.2.2 hz5).1,HP9.out (hr6.2.2 hh)⟩⟩
              clear c9 hr6 hb6 p8
              go_wp2_with fail
              exact⟨⟨j+1,r6,hlj,rfl,rfl,HB6.out,HR7.out⟩,by simp only [intOf]; omega⟩
             ·go_wp2_with fail
              exact⟨⟨k+1,z5,hlk,rfl,rfl,HBR5.out,HR6.out.1,HR6.out.2.1,fun hh=>absurd hh (by omega)⟩,by simp only [intOf]; omega⟩
            ·obtain rfl:j=q.ds.length:=by omega
             have hnot5:¬ (q.ds.length:Int) < (q.ds.length:Int):=by omega
             go_wp2_with fail
             exact⟨⟨k+1,z5,hlk,rfl,rfl,HBR5.out,HR6.out.1,HR6.out.2.1,fun hh=>by have h1:=HR6.out.2.2 hh; rw [List.take_length] at h1; exact HP7.out h1⟩,by simp only [intOf]; omega⟩
          ·go_wp2_with fail
           exact⟨⟨i3+1,z4,hlt,rfl,rfl,HBR4.out,HR4.out.1,HR4.out.2.1,fun hh=>absurd hh (by omega)⟩,by simp only [intOf]; omega⟩
         ·obtain rfl:k=d.rs.length:=by omega
          have hnot4:¬ (d.rs.length:Int) < (d.rs.length:Int):=by omega
          go_wp2_with fail
          exact⟨⟨i3+1,z4,hlt,rfl,rfl,HBR4.out,HR4.out.1,HR4.out.2.1,fun hh=>by have h1:=HR4.out.2.2 hh; rw [List.take_length] at h1; exact HPR.out h1⟩,by simp only [intOf]; omega⟩
       ·go_wp2_with fail
        go_ret
        exact⟨⟨_,rfl,HR3.out.1,by have:=HR3.out.2.1; omega,fun hh=>absurd hh (by omega)⟩,below2 HBV.out HBR3.out⟩
      ·obtain rfl:i3=S.ts.length:=by omega
       have hnot3:¬ (S.ts.length:Int) < (S.ts.length:Int):=by omega
       go_wp2_with fail
       go_ret
       exact⟨⟨_,rfl,HR3.out.1,by have:=HR3.out.2.1; omega,fun hh=>by have h1:=HR3.out.2.2 hh; rw [List.take_length] at h1; exact h1⟩,below2 HBV.out HBR3.out⟩
open Go
set_option linter.unusedSimpArgs false
structure Bx3n (w:yW) (S:StratM) (m:ModM) (n:Nd) (g:Nat):Prop where
 a:w.heap[g]? = (zC S.vals 26)
 b:w.heap[g+1]? = (zC m.vals 29)
 c:w.heap[g+2]? = (zC n.vals 38)
theorem Bx3n.on {w w':yW}{S:StratM}{m:ModM}{n:Nd}{g:Nat}(h:Bx3n w S m n g) (k:yD w w'):Bx3n w' S m n g:=⟨heapOf k h.a,heapOf k h.b,heapOf k h.c⟩
theorem bx3n_new (w:yW) (S:StratM) (m:ModM) (n:Nd):Bx3n (((w.alloc (.cells S.vals 26)).alloc (.cells m.vals 29)).alloc (.cells n.vals 38)) S m n w§∧yD w (((w.alloc (.cells S.vals 26)).alloc (.cells m.vals 29)).alloc (.cells n.vals 38)):=by
 obtain⟨h2,hb2,hz2⟩:=bx2_new w S m
 have b3:=below_new ((w.alloc (.cells S.vals 26)).alloc (.cells m.vals 29)) (.cells n.vals 38)
 have n3:=heap_new ((w.alloc (.cells S.vals 26)).alloc (.cells m.vals 29)) (.cells n.vals 38)
 rw [hz2] at n3
 exact⟨⟨heapOf b3 h2.a,heapOf b3 h2.b,n3⟩,below2 hb2 b3⟩
theorem far_any (S:StratM) (md:ModM) (m:Nd) (w:yW) (hl:StratL w S) (hm:Lies w m):Calls zG 9 #[.agg S.vals,.agg md.vals,.agg m.vals] w fun e w'=>(∃ f:Bool,e=.returned (.bool f)∧(f=false→StratZ S∧md.rg.length≤65536∧size m≤65536))∧yD w w':=by
 have HH:Hid (StratL w S∧Lies w m):=⟨hl,hm⟩
 obtain⟨h3,hb3⟩:=bx3n_new w S md m
 obtain⟨V,eV⟩:∃ V,((w.alloc (.cells S.vals 26)).alloc (.cells md.vals 29)).alloc (.cells m.vals 38)=V:=⟨_,rfl⟩
 rw [eV] at h3 hb3
 have HV:Hid (((w.alloc (.cells S.vals 26)).alloc (.cells md.vals 29)).alloc (.cells m.vals 38)=V):=eV
 have HB:Hid (yD w V):=hb3
 have H3:Hid (Bx3n V S md m w§):=h3
 have c1:=weighS_any S V (hl.on hb3)
 obtain⟨g,eg⟩:∃ g,w§=g:=⟨_,rfl⟩
 have HG:Hid (w§=g):=eg
 rw [eg] at H3
 clear hl hm h3 hb3 eV
 go_enter Tryz.func9,Tryz.ntmps9
 go_upto_region 1 with fail
 rw [HV.out]
 try rw [eg]
 clear eg
 go_wp2_with (refine wpList_load_row rfl 26 _ rfl g rfl 26 S.vals (0,0) _ H3.out.a Tryz.underlying26 rfl (size26 S) ?_)
 refine c1.mono ?_
 rintro e w1 ⟨⟨r,rfl,hr⟩,hb⟩
 have HR:Hid (WghS S r):=hr
 have HB1:Hid (yD w w1):=below2 HB.out hb
 have H31:Hid (Bx3n w1 S md m g):=H3.out.on hb
 by_cases hb1:r≤65536
 ·have hn:¬ (65536:Int) < r:=by omega
  have y1:w1.cell? ⟨g+1,1,none⟩=some (.slice md.ra md.rg.length md.rc):=cell_of H31.out.b 1
  by_cases hb2:md.rg.length≤65536
  ·have hn2:¬ (65536:Int) < (md.rg.length:Int):=by omega
   have hn3:¬ 65536 < md.rg.length:=by omega
   have c2:Calls zG 28 #[.agg (zV m),zI r,zI 0] w1 fun e w'=>(∃ r2,e=.returned (zI r2)∧Wgt m r r2)∧yD w1 w':=weigh_top m w1 r (HH.out.2.on HB1.out) hr.1 (by have:=hr.2.1; omega)
   have z0:w1.cell? ⟨g+2,0,none⟩=some (zU m.h.k):=cell_of H31.out.c 0
   have z1:w1.cell? ⟨g+2,1,none⟩=some (zU m.h.o):=cell_of H31.out.c 1
   have z2:w1.cell? ⟨g+2,2,none⟩=some (zU m.h.t):=cell_of H31.out.c 2
   have z3:w1.cell? ⟨g+2,3,none⟩=some (zI m.h.n):=cell_of H31.out.c 3
   have z4:w1.cell? ⟨g+2,4,none⟩=some (zU m.h.f):=cell_of H31.out.c 4
   have z5:w1.cell? ⟨g+2,5,none⟩=some (.string m.h.x):=cell_of H31.out.c 5
   have z6:w1.cell? ⟨g+2,6,none⟩=some (.slice m.a m.ks.length m.c):=cell_of H31.out.c 6
   have z7:w1.cell? ⟨g+2,7,none⟩=some (zI m.h.p):=cell_of H31.out.c 7
   clear c1 hr hb
   go_wp2_with fail
   refine c2.mono ?_
   rintro e w2 ⟨⟨r2,rfl,hr2⟩,hb3⟩
   have HR2:Hid (Wgt m r r2):=hr2
   have HB2:Hid (yD w w2):=below2 HB1.out hb3
   clear c2 hr2 hb3
   go_wp2_with fail
   go_ret
   refine⟨⟨_,rfl,fun hf=>?_⟩,HB2.out⟩
   have h1:r2≤65536:=by simp at hf; omega
   have h2:=HR2.out.2.2 (by omega)
   have h3:=size_wt m
   have h4:=HR.out.1
   exact⟨HR.out.2.2 (by omega),hb2,by omega⟩
  ·have hn2:(65536:Int) < (md.rg.length:Int):=by omega
   have hn3:65536 < md.rg.length:=by omega
   clear c1 hr hb
   go_wp2_with fail
   go_ret
   exact⟨⟨_,rfl,fun hf=>by simp at hf⟩,HB1.out⟩
 ·have hn:(65536:Int) < r:=by omega
  clear c1 hr hb
  go_wp2_with fail
  go_ret
  exact⟨⟨_,rfl,fun hf=>by simp at hf⟩,HB1.out⟩
end Go.Proofs.YtfbjofnaghjmeaaGreatDoor
