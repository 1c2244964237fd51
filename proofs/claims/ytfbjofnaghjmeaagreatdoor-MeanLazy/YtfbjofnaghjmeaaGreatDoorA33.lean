import Derived.Test.YtfbjofnaghjmeaaGreatDoorA28
import Derived.Laws.Closers25
namespace Go.Proofs.YtfbjofnaghjmeaaGreatDoor
open Go.Proofs.Tryz
set_option maxRecDepth 100000
set_option maxHeartbeats 4000000
open Go.RowKit
set_option linter.unusedVariables false
theorem Qf2 (h:Hd) (a:Option Addr) (c:Nat) (ks:List Nd) (i:Nat) (w:yW) (hl:Lies w (.mk h a c ks)) (hlt:i < ks.length) (hi:i≤9223372036854775000) (ok:OkH h) (k:Nd) (ek:ks[i]=k) (okk:OkH k.h) :
  Calls zG 93 #[.agg (zX h a ks c),zI i] w fun e w'=>e=.returned (.bool (decide (lvl k.h < ask h i)))∧yD w w':=by
 obtain⟨b,o,e,hat⟩:=hl.kid i hlt
 have e2:a=some b¢o:=e
 clear e
 subst e2
 have hat2:NdAt w b (o+i * 8) k:=by rw [← ek];exact hat
 clear hat hl ek
 have hlt':(i:Int) < (ks.length:Int):=by omega
 have cL:∀ v,Calls zG 152 #[.agg (zV k)] v fun e w'=>e=.returned (zI (lvl k.h))∧yD v w':=fun v=>U3 k.h k.a k.ks.length k.c okk v
 have cA:∀ v,Calls zG 153 #[.agg (zX h (some b¢o) ks c),zI i] v fun e w'=>e=.returned (zI (ask h i))∧yD v w':=fun v=>Qca h (some b¢o) ks.length c i hi ok v
 obtain⟨V,eV⟩:∃ V,lvl k.h=V:=jV
 obtain⟨U,eU⟩:∃ U,ask h i=U:=jV
 simp only [eV] at cL
 simp only [eU] at cA
 rw [eV,eU]
 clear eV eU ok okk hi
 have hw:=Qc w (.cells (zX h (some b¢o) ks c) 38)
 obtain⟨W0,eW⟩:∃ W,w.alloc (.cells (zX h (some b¢o) ks c) 38)=W:=jV
 have HB0:Hid (yD w W0):=by rw [← eW];exact Qb _ _
 rw [eW] at hw
 have HKP:Hid (∀ v,GB W0 v→zQ v w§¢0 (zU h.k)∧zQ v w§¢1 (zU h.o)∧zQ v w§¢2 (zU h.t)∧zQ v w§¢3 (zI h.n)∧zQ v w§¢4 (zU h.f)∧zQ v w§¢5 (.string h.x)∧zQ v w§¢6 (.slice (some b¢o) ks.length c)∧zQ v w§¢7 (zI h.p)∧zQ v ⟨b,o+i * 8,none⟩ (zU k.h.k)∧zQ v ⟨b,o+i * 8+1,none⟩ (zU k.h.o)∧zQ v ⟨b,o+i * 8+2,none⟩ (zU k.h.t)∧zQ v ⟨b,o+i * 8+3,none⟩ (zI k.h.n)∧zQ v ⟨b,o+i * 8+4,none⟩ (zU k.h.f)∧zQ v ⟨b,o+i * 8+5,none⟩ (.string k.h.x)∧zQ v ⟨b,o+i * 8+6,none⟩ (.slice k.a k.ks.length k.c)∧zQ v ⟨b,o+i * 8+7,none⟩ (zI k.h.p)∧GB W0 v):=fun v hv=>by
  have h1:=(hv.block _ (zJ hw).1).trans hw
  have h2:=(hat2.on HB0.out).on hv
  exact⟨Qa h1 0,Qa h1 1,Qa h1 2,Qa h1 3,Qa h1 4,Qa h1 5,Qa h1 6,Qa h1 7,h2.c0,h2.c1,h2.c2,h2.c3,h2.c4,h2.c5,h2.c6,h2.c7,hv⟩
 clear hat2 hw
 go_enter func93,ntmps93
 go_upto_region 1 with fail
 clear eW
 go_region_held3 (fun v=>zQ v w§¢0 (zU h.k)∧zQ v w§¢1 (zU h.o)∧zQ v w§¢2 (zU h.t)∧zQ v w§¢3 (zI h.n)∧zQ v w§¢4 (zU h.f)∧zQ v w§¢5 (.string h.x)∧zQ v w§¢6 (.slice (some b¢o) ks.length c)∧zQ v w§¢7 (zI h.p)∧zQ v ⟨b,o+i * 8,none⟩ (zU k.h.k)∧zQ v ⟨b,o+i * 8+1,none⟩ (zU k.h.o)∧zQ v ⟨b,o+i * 8+2,none⟩ (zU k.h.t)∧zQ v ⟨b,o+i * 8+3,none⟩ (zI k.h.n)∧zQ v ⟨b,o+i * 8+4,none⟩ (zU k.h.f)∧zQ v ⟨b,o+i * 8+5,none⟩ (.string k.h.x)∧zQ v ⟨b,o+i * 8+6,none⟩ (.slice k.a k.ks.length k.c)∧zQ v ⟨b,o+i * 8+7,none⟩ (zI k.h.p)∧GB W0 v)
  (exact HKP.out _ (by (repeat (first | with_reducible assumption | with_reducible exact GB.refl _ | with_reducible apply GB.drew | with_reducible apply GB.alloc | with_reducible refine GB.call (by with_reducible assumption) ?_))))
  (first
   | (go_at_call 152;refine (cL _).mono ?_;rintro e w6 ⟨rfl,hb6⟩)
   | (go_at_call 153;refine (cA _).mono ?_;rintro e w7 ⟨rfl,hb7⟩))
 all_goals
  refine J9 (P:=fun V=>GB W0 V) (by (repeat (first | with_reducible assumption | with_reducible exact GB.refl _ | with_reducible apply GB.drew | with_reducible apply GB.alloc | with_reducible refine GB.call (by with_reducible assumption) ?_))) ?_
  intro Vw hv
  have HV:=zH (Qd HB0.out hv)
  clear hv
  go_wp2
  go_ret
  exact⟨rfl,HV.out⟩
set_option maxRecDepth 1000000
set_option maxHeartbeats 8000000
set_option linter.unusedSimpArgs false
theorem maxd {D n:Nat}{y z:Int}(hy:(D:Int)=y) (hz:(n:Int)=z) (h:y < z):Value.int .i64 z=zI ((Nat.max D n:Nat):Int):=by
 congr 1
 rw [← hy,← hz] at h
 rw [← hz]
 show (n:Int)=((max D n:Nat):Int)
 omega
theorem maxe {D n:Nat}{y z:Int}(hy:(D:Int)=y) (hz:(n:Int)=z) (h:¬ y < z):Value.int .i64 y=zI ((Nat.max D n:Nat):Int):=by
 congr 1
 rw [← hy,← hz] at h
 rw [← hy]
 show (D:Int)=((max D n:Nat):Int)
 omega
theorem Qcq {h:Hd}{a:Option Addr}{c:Nat}{ks:List Nd}(f:Qw (.mk h a c ks)=true) (i:Nat) (hi:i < ks.length):(h.k=5∨h.k=8∨h.k=9)∨h.k=7∨h.k=6:=by
 simp only [Qw,oneH,Bool.and_eq_true] at f
 have g:=f.1.2
 unfold fitB at g
 have hpos:ks.length≠0:=by omega
 by_cases h5:h.k=5
 ·exact .inl (.inl h5)
 by_cases h8:h.k=8
 ·exact .inl (.inr (.inl h8))
 by_cases h9:h.k=9
 ·exact .inl (.inr (.inr h9))
 by_cases h7:h.k=7
 ·exact .inr (.inl h7)
 by_cases h6:h.k=6
 ·exact .inr (.inr h6)
 exfalso
 by_cases h1:h.k=1
 ·simp [h1,hpos] at g
 by_cases h2:h.k=2
 ·simp [h2,hpos] at g
 by_cases h3:h.k=3
 ·simp [h3,hpos] at g
 by_cases h4:h.k=4
 ·simp [h4,hpos] at g
 simp [h1,h2,h3,h4,h5,h6,h7,h8,h9] at g
theorem Qaj:∀ (m:Nd) (w:yW),Lies w m→size m≤1000000000000→Qw m=true→Calls zG 55 #[.agg m.vals] w fun e w'=>e=.returned (zI (dep m))∧yD w w':=by
 refine Nd.ind fun h a c ks ih w hl hz hf=>?_
 have HI:=zH ih
 have HL:=hl.hid
 have HZ:=zH hz
 have HF:=zH hf
 clear ih hl hz hf
 show Calls zG 55 #[.agg (zX h a ks c)] w _
 have HN0:Hid (NdH (zA w (zX h a ks c) 38) w§ (.mk h a c ks)):=Qc w _
 go_enter func55,ntmps55
 go_wp2_with fail
 go_loopw [3,4] (fun d t wr=>∃ (i D:Nat),i≤ks.length∧t=zI i∧d=zI D∧Below (zA w (zX h a ks c) 38)§ (zA w (zX h a ks c) 38) wr∧Hid (deps h 0 ks=Nat.max D (deps h i (ks.drop i)))) (fun _ t _=>ks.length - (intOf t).toNat)
 case atStart=>exact⟨0,0,by omega,rfl,rfl,Below.refl _ _,by show _=_;simp⟩
 case round =>
  obtain⟨i,D,hi,rfl,rfl,hbr,HR⟩:=hrel
  have HBR:Hid (yD w wr):=Qd (Qb _ _) hbr
  have HNR:=zH (HN0.out.on hbr)
  have HBr:=zH hbr
  clear hbr
  by_cases hlt:i < ks.length
  ·have hlt':(i:Int) < (ks.length:Int):=by omega
   have hmx:(i:Int)+1≤jX:=by
    have h1:=HL.out.max
    have h2:=HL.out.cap
    simp only [Nd.ks,Nd.c] at h1 h2
    omega
   obtain⟨b,o,e,hat⟩:=(HL.out.on HBR.out).kid i hlt
   have e2:a=some b¢o:=e
   clear e
   subst e2
   have cI:=HI.out ks[i] (Ja hlt)
   have HLk:Hid (Lies w ks[i]):=HL.out.sub ks[i] (Ja hlt)
   have hsz:size ks[i]≤1000000000000:=by have h1:=X2 (Ja hlt);have h2:=HZ.out;simp only [size] at h2;omega
   have hfk:Qw ks[i]=true:=V5 HF.out (Ja hlt)
   have hdk:=Fw ks[i]
   have HD:Hid (deps h 0 ks=Nat.max D (Nat.max (inc (dwn h i) (inc (decide (lvl ks[i].h < ask h i)) (dep ks[i]))) (deps h (i+1) (ks.drop (i+1))))):=by show _=_;rw [HR.out,Kf hlt];rfl
   have hle:i≤1000000000000:=by have h1:=XE ks;have h2:=HZ.out;simp only [size] at h2;omega
   have hkind:(h.k=5∨h.k=8∨h.k=9)∨h.k=7∨h.k=6:=Qcq HF.out i hlt
   obtain⟨k,ek⟩:∃ k,ks[i]=k:=jV
   have hat2:NdAt wr b (o+i * 8) k:=by rw [← ek];exact hat
   clear hat
   have cB:=fun v (hv:Lies v (.mk h (some b¢o) c ks))=>Qf2 h (some b¢o) c ks i v hv hlt zY (Qbm HF.out) k ek (by rw [← ek];exact Qd9 hfk)
   rw [ek] at cI HLk hsz HD hdk hfk
   obtain⟨y0,y1,y2,y3,y4,y5,y6,y7⟩:=hat2
   obtain⟨d,ed⟩:∃ d,dep k=d:=jV
   obtain⟨B,eB⟩:∃ B,decide (lvl k.h < ask h i)=B:=jV
   rw [ed] at cI HD hdk
   rw [eB] at HD
   simp only [eB] at cB
   have cI:∀ v,Lies v k→Calls zG 55 #[.agg (zV k)] v fun e w'=>e=.returned (zI d)∧yD v w':=fun v hv=>cI v hv hsz hfk
   have hd1:(d:Int)+1≤jX:=by omega
   have hd2:(d:Int)+1+1≤jX:=by omega
   obtain⟨x0,x1,x2,x3,x4,x5,x6,x7⟩:=HNR.out.eight
   simp only [Nd.h,Nd.a,Nd.c,Nd.ks] at x0 x1 x2 x3 x4 x5 x6 x7
   clear ek ed eB HR hdk hsz hle hfk
   go_wp2_with fail
   refine (cI _ (HLk.out.on HBR.out)).mono ?_
   rintro e w5 ⟨rfl,hb5⟩
   have HB5:=zH (Qd HBr.out hb5)
   have HN5:=zH (HNR.out.on hb5)
   have HL5:=zH ((HL.out.on HBR.out).on hb5)
   clear cI hb5 x0 x1 x2 x3 x4 x5 x6 x7 y0 y1 y2 y3 y4 y5 y6 y7
   obtain⟨x0,x1,x2,x3,x4,x5,x6,x7⟩:=HN5.out.eight
   simp only [Nd.h,Nd.a,Nd.c,Nd.ks] at x0 x1 x2 x3 x4 x5 x6 x7
   go_wp2_with fail
   refine (cB _ HL5.out).mono ?_
   rintro e w6 ⟨rfl,hb6⟩
   have HB6:=zH (Qd HB5.out hb6)
   have HN6:=zH (HN5.out.on hb6)
   clear cB hb6 x0 x1 x2 x3 x4 x5 x6 x7
   have x0:=HN6.out.eight.1
   simp only [Nd.h] at x0
   obtain⟨z,ez⟩:∃ z:Int,(d:Int)=z:=jV
   obtain⟨z1,ez1⟩:∃ z1:Int,(d:Int)+1=z1:=jV
   obtain⟨z2,ez2⟩:∃ z2:Int,(d:Int)+1+1=z2:=jV
   have hw1:wrap64 (z+1)=z1:=by rw [← ez,ez1];unfold wrap64;omega
   have hw2:wrap64 (z1+1)=z2:=by rw [← ez1,ez2];unfold wrap64;omega
   obtain⟨y,ey⟩:∃ y:Int,(D:Int)=y:=jV
   simp only [ez,ey]
   have EZ:Hid ((d:Int)=z∧(d:Int)+1=z1∧(d:Int)+1+1=z2∧(D:Int)=y):=⟨ez,ez1,ez2,ey⟩
   clear ez ey ez1 ez2 hd1 hd2
   have HK:=zH hkind
   clear hkind
   cases B with
   | true =>
    rcases HK.out with (k5 | k5 | k5) | k5 | k5
    iterate 3
     ·rw [k5] at x0
      have HG:Hid (inc (dwn h i) (inc true d)=d+1+1):=by
       have:dwn h i=true:=by unfold dwn;rw [if_neg (by rw [k5];decide),if_neg (by rw [k5];decide)]
       show _=_;rw [this];rfl
      rw [HG.out] at HD
      clear k5
      by_cases hP:y < z2
      ·have HP:Hid (y < z2):=hP
       go_wp2_with fail
       exact⟨⟨i+1,Nat.max D (d+1+1),hlt,rfl,by (try first | rw [hw2] | rw [hw1]);exact maxd EZ.out.2.2.2 (by have:=EZ.out;omega) HP.out,HB6.out,by show _=_;rw [HD.out];exact (Nat.max_assoc _ _ _).symm⟩,by simp only [intOf];omega⟩
      ·have HP:Hid (¬ y < z2):=hP
       go_wp2_with fail
       exact⟨⟨i+1,Nat.max D (d+1+1),hlt,rfl,by (try first | rw [hw2] | rw [hw1]);exact maxe EZ.out.2.2.2 (by have:=EZ.out;omega) HP.out,HB6.out,by show _=_;rw [HD.out];exact (Nat.max_assoc _ _ _).symm⟩,by simp only [intOf];omega⟩
    ·rw [k5] at x0
     by_cases i0:0 < i
     ·have HIP:Hid (0 < i):=i0
      have i1:(0:Int) < (i:Int):=by omega
      have HG:Hid (inc (dwn h i) (inc true d)=d+1+1):=by
       have:dwn h i=true:=by unfold dwn;rw [if_neg (by rw [k5];decide),if_pos k5];have:=HIP.out;exact decide_eq_true zY
       show _=_;rw [this];rfl
      rw [HG.out] at HD
      clear k5
      by_cases hP:y < z2
      ·have HP:Hid (y < z2):=hP
       go_wp2_with fail
       exact⟨⟨i+1,Nat.max D (d+1+1),hlt,rfl,by (try first | rw [hw2] | rw [hw1]);exact maxd EZ.out.2.2.2 (by have:=EZ.out;omega) HP.out,HB6.out,by show _=_;rw [HD.out];exact (Nat.max_assoc _ _ _).symm⟩,by simp only [intOf];omega⟩
      ·have HP:Hid (¬ y < z2):=hP
       go_wp2_with fail
       exact⟨⟨i+1,Nat.max D (d+1+1),hlt,rfl,by (try first | rw [hw2] | rw [hw1]);exact maxe EZ.out.2.2.2 (by have:=EZ.out;omega) HP.out,HB6.out,by show _=_;rw [HD.out];exact (Nat.max_assoc _ _ _).symm⟩,by simp only [intOf];omega⟩
     ·have HIP:Hid (¬ 0 < i):=i0
      have i1:¬ (0:Int) < (i:Int):=by omega
      have HG:Hid (inc (dwn h i) (inc true d)=d+1):=by
       have:dwn h i=false:=by unfold dwn;rw [if_neg (by rw [k5];decide),if_pos k5];have:=HIP.out;exact decide_eq_false zY
       show _=_;rw [this];rfl
      rw [HG.out] at HD
      clear k5
      by_cases hP:y < z1
      ·have HP:Hid (y < z1):=hP
       go_wp2_with fail
       exact⟨⟨i+1,Nat.max D (d+1),hlt,rfl,by (try first | rw [hw2] | rw [hw1]);exact maxd EZ.out.2.2.2 (by have:=EZ.out;omega) HP.out,HB6.out,by show _=_;rw [HD.out];exact (Nat.max_assoc _ _ _).symm⟩,by simp only [intOf];omega⟩
      ·have HP:Hid (¬ y < z1):=hP
       go_wp2_with fail
       exact⟨⟨i+1,Nat.max D (d+1),hlt,rfl,by (try first | rw [hw2] | rw [hw1]);exact maxe EZ.out.2.2.2 (by have:=EZ.out;omega) HP.out,HB6.out,by show _=_;rw [HD.out];exact (Nat.max_assoc _ _ _).symm⟩,by simp only [intOf];omega⟩
    ·rw [k5] at x0
     have HG:Hid (inc (dwn h i) (inc true d)=d+1):=by
      have:dwn h i=false:=by unfold dwn;rw [if_pos k5]
      show _=_;rw [this];rfl
     rw [HG.out] at HD
     clear k5
     by_cases hP:y < z1
     ·have HP:Hid (y < z1):=hP
      go_wp2_with fail
      exact⟨⟨i+1,Nat.max D (d+1),hlt,rfl,by (try first | rw [hw2] | rw [hw1]);exact maxd EZ.out.2.2.2 (by have:=EZ.out;omega) HP.out,HB6.out,by show _=_;rw [HD.out];exact (Nat.max_assoc _ _ _).symm⟩,by simp only [intOf];omega⟩
     ·have HP:Hid (¬ y < z1):=hP
      go_wp2_with fail
      exact⟨⟨i+1,Nat.max D (d+1),hlt,rfl,by (try first | rw [hw2] | rw [hw1]);exact maxe EZ.out.2.2.2 (by have:=EZ.out;omega) HP.out,HB6.out,by show _=_;rw [HD.out];exact (Nat.max_assoc _ _ _).symm⟩,by simp only [intOf];omega⟩
   | false =>
    rcases HK.out with (k5 | k5 | k5) | k5 | k5
    iterate 3
     ·rw [k5] at x0
      have HG:Hid (inc (dwn h i) (inc false d)=d+1):=by
       have:dwn h i=true:=by unfold dwn;rw [if_neg (by rw [k5];decide),if_neg (by rw [k5];decide)]
       show _=_;rw [this];rfl
      rw [HG.out] at HD
      clear k5
      by_cases hP:y < z1
      ·have HP:Hid (y < z1):=hP
       go_wp2_with fail
       exact⟨⟨i+1,Nat.max D (d+1),hlt,rfl,by (try first | rw [hw2] | rw [hw1]);exact maxd EZ.out.2.2.2 (by have:=EZ.out;omega) HP.out,HB6.out,by show _=_;rw [HD.out];exact (Nat.max_assoc _ _ _).symm⟩,by simp only [intOf];omega⟩
      ·have HP:Hid (¬ y < z1):=hP
       go_wp2_with fail
       exact⟨⟨i+1,Nat.max D (d+1),hlt,rfl,by (try first | rw [hw2] | rw [hw1]);exact maxe EZ.out.2.2.2 (by have:=EZ.out;omega) HP.out,HB6.out,by show _=_;rw [HD.out];exact (Nat.max_assoc _ _ _).symm⟩,by simp only [intOf];omega⟩
    ·rw [k5] at x0
     by_cases i0:0 < i
     ·have HIP:Hid (0 < i):=i0
      have i1:(0:Int) < (i:Int):=by omega
      have HG:Hid (inc (dwn h i) (inc false d)=d+1):=by
       have:dwn h i=true:=by unfold dwn;rw [if_neg (by rw [k5];decide),if_pos k5];have:=HIP.out;exact decide_eq_true zY
       show _=_;rw [this];rfl
      rw [HG.out] at HD
      clear k5
      by_cases hP:y < z1
      ·have HP:Hid (y < z1):=hP
       go_wp2_with fail
       exact⟨⟨i+1,Nat.max D (d+1),hlt,rfl,by (try first | rw [hw2] | rw [hw1]);exact maxd EZ.out.2.2.2 (by have:=EZ.out;omega) HP.out,HB6.out,by show _=_;rw [HD.out];exact (Nat.max_assoc _ _ _).symm⟩,by simp only [intOf];omega⟩
      ·have HP:Hid (¬ y < z1):=hP
       go_wp2_with fail
       exact⟨⟨i+1,Nat.max D (d+1),hlt,rfl,by (try first | rw [hw2] | rw [hw1]);exact maxe EZ.out.2.2.2 (by have:=EZ.out;omega) HP.out,HB6.out,by show _=_;rw [HD.out];exact (Nat.max_assoc _ _ _).symm⟩,by simp only [intOf];omega⟩
     ·have HIP:Hid (¬ 0 < i):=i0
      have i1:¬ (0:Int) < (i:Int):=by omega
      have HG:Hid (inc (dwn h i) (inc false d)=d):=by
       have:dwn h i=false:=by unfold dwn;rw [if_neg (by rw [k5];decide),if_pos k5];have:=HIP.out;exact decide_eq_false zY
       show _=_;rw [this];rfl
      rw [HG.out] at HD
      clear k5
      by_cases hP:y < z
      ·have HP:Hid (y < z):=hP
       go_wp2_with fail
       exact⟨⟨i+1,Nat.max D (d),hlt,rfl,by (try first | rw [hw2] | rw [hw1]);exact maxd EZ.out.2.2.2 (by have:=EZ.out;omega) HP.out,HB6.out,by show _=_;rw [HD.out];exact (Nat.max_assoc _ _ _).symm⟩,by simp only [intOf];omega⟩
      ·have HP:Hid (¬ y < z):=hP
       go_wp2_with fail
       exact⟨⟨i+1,Nat.max D (d),hlt,rfl,by (try first | rw [hw2] | rw [hw1]);exact maxe EZ.out.2.2.2 (by have:=EZ.out;omega) HP.out,HB6.out,by show _=_;rw [HD.out];exact (Nat.max_assoc _ _ _).symm⟩,by simp only [intOf];omega⟩
    ·rw [k5] at x0
     have HG:Hid (inc (dwn h i) (inc false d)=d):=by
      have:dwn h i=false:=by unfold dwn;rw [if_pos k5]
      show _=_;rw [this];rfl
     rw [HG.out] at HD
     clear k5
     by_cases hP:y < z
     ·have HP:Hid (y < z):=hP
      go_wp2_with fail
      exact⟨⟨i+1,Nat.max D (d),hlt,rfl,by (try first | rw [hw2] | rw [hw1]);exact maxd EZ.out.2.2.2 (by have:=EZ.out;omega) HP.out,HB6.out,by show _=_;rw [HD.out];exact (Nat.max_assoc _ _ _).symm⟩,by simp only [intOf];omega⟩
     ·have HP:Hid (¬ y < z):=hP
      go_wp2_with fail
      exact⟨⟨i+1,Nat.max D (d),hlt,rfl,by (try first | rw [hw2] | rw [hw1]);exact maxe EZ.out.2.2.2 (by have:=EZ.out;omega) HP.out,HB6.out,by show _=_;rw [HD.out];exact (Nat.max_assoc _ _ _).symm⟩,by simp only [intOf];omega⟩
  ·obtain rfl:i=ks.length:=by omega
   have hnot:¬ (ks.length:Int) < (ks.length:Int):=by omega
   have HE:Hid (dep (.mk h a c ks)=D):=by show deps h 0 ks=_;rw [HR.out,List.drop_length];show Nat.max D 0=D;simp
   have x6:zQ wr w§¢6 (.slice a ks.length c):=HNR.out.eight.2.2.2.2.2.2.1
   clear HR
   go_wp2
   go_ret
   exact⟨by rw [HE.out];rfl,HBR.out⟩
theorem Hm (s:yB) (hs:s.size≤140737488355329) (w:yW):Calls zG 72 #[.string s] w fun e w'=>e=.returned (.bool (Jm s))∧yD w w':=by
 have cW:=Xf s w
 cases hW:isW s
 ·rw [hW] at cW
  by_cases h1:1≤s.size
  ·by_cases h2:s.size≤16
   ·have hr:=QY s 0 zY
    obtain⟨c,hc⟩:∃ c,s[0]=c:=jV
    rw [hc] at hr
    have h1':¬ (s.size:Int) < 1:=by omega
    have h2':¬ (s.size:Int) > 16:=by omega
    have h3':(0:Int) < (s.size:Int):=by omega
    have h3:0 < s.size:=by omega
    cases hl:letB c
    ·have K:Hid (Jm s=false):=by show _=_;unfold Jm;rw [hr];simp [hdB,hl]
     clear hr
     go_enter func72,ntmps72
     go_wp2_with (first | (go_at_call 122;refine cW.mono ?_;rintro _ v ⟨rfl,bb⟩) | (go_at_call 123;refine (Jh hl _).mono ?_;rintro _ v2 ⟨rfl,e⟩;obtain rfl:=e.symm))
     go_ret
     exact⟨retB K.out.symm,bb⟩
    ·have HK:Hid (Jm s=decide (lead goB (rest s 0)=s.size)):=by show _=_;unfold Jm;rw [hW];simp [hr,hdB,hl,h1,h2]
     clear hr
     go_enter func72,ntmps72
     go_wp2_with (first | (go_at_call 122;refine cW.mono ?_;rintro _ v ⟨rfl,bb⟩) | (go_at_call 123;refine (Jh hl _).mono ?_;rintro _ v2 ⟨rfl,e⟩;obtain rfl:=e.symm))
     go_loop [4] (fun t=>∃ i:Nat,i≤s.size∧t=zI i∧Hid (lead goB (rest s 0)=i+lead goB (rest s i))) (fun t=>s.size - (intOf t).toNat)
     case atStart=>exact⟨0,Nat.zero_le _,rfl,by show _=_;omega⟩
     case round =>
      obtain⟨i,hi,rfl,HR⟩:=hrel
      by_cases hlt:i < s.size
      ·have hlt':(i:Int) < (s.size:Int):=by omega
       have hr:=QY s i hlt
       obtain⟨d,hd⟩:∃ d,s[i]=d:=jV
       rw [hd] at hr
       cases hg:goB d
       ·have K:Hid (Jm s=false):=by
         show _=_
         rw [HK.out,HR.out,hr,lead,if_neg (by rw [hg];decide)]
         exact decide_eq_false zY
        clear hr HR HK
        go_wp2_with (go_at_call 124;refine (QF hg _).mono ?_;rintro _ v2 ⟨rfl,e⟩;obtain rfl:=e.symm)
        go_ret
        exact⟨retB K.out.symm,bb⟩
       ·have hs2:Hid (lead goB (rest s 0)=(i+1)+lead goB (rest s (i+1))):=by
         show _=_
         rw [HR.out,hr,lead,if_pos hg];omega
        clear hr HR
        go_wp2_with (go_at_call 124;refine (QF hg _).mono ?_;rintro _ v2 ⟨rfl,e⟩;obtain rfl:=e.symm)
        exact⟨⟨i+1,by omega,by go_num,hs2⟩,by simp only [intOf];omega⟩
      ·have hie:i=s.size:=by omega
       subst hie
       have K:Hid (Jm s=true):=by
        show _=_
        have:rest s s.size = []:=by
         apply List.eq_nil_of_length_eq_zero
         rw [Jl];omega
        rw [HK.out,HR.out,this]
        exact decide_eq_true rfl
       have hlt':¬ (s.size:Int) < (s.size:Int):=by omega
       clear HR HK
       go_wp2
       go_ret
       exact⟨retB K.out.symm,bb⟩
   ·have K:Hid (Jm s=false):=by show _=_;unfold Jm;simp [h2]
    have h1':¬ (s.size:Int) < 1:=by omega
    have h2':(s.size:Int) > 16:=by omega
    go_enter func72,ntmps72
    go_wp2_with (first | (go_at_call 122;refine cW.mono ?_;rintro _ v ⟨rfl,bb⟩))
    go_ret
    exact⟨retB K.out.symm,bb⟩
  ·have K:Hid (Jm s=false):=by show _=_;unfold Jm;simp [h1]
   have h1':(s.size:Int) < 1:=by omega
   go_enter func72,ntmps72
   go_wp2_with (first | (go_at_call 122;refine cW.mono ?_;rintro _ v ⟨rfl,bb⟩))
   go_ret
   exact⟨retB K.out.symm,bb⟩
 ·rw [hW] at cW
  have K:Hid (Jm s=false):=by show _=_;unfold Jm;rw [hW];rfl
  go_enter func72,ntmps72
  go_wp2_with (first | (go_at_call 122;refine cW.mono ?_;rintro _ v ⟨rfl,bb⟩))
  go_ret
  exact⟨retB K.out.symm,bb⟩
theorem PR (s:yB) (hs:s.size≤140737488355328) (w:yW):Calls zG 72 #[.string s] w fun e w'=>e=.returned (.bool (Jm s))∧yD w w':=Hm s zY w
theorem empt (x:yB):x.toList.isEmpty=decide (x=⟨#[]⟩):=(decide_eq_emptyBytes x).symm
def zeB (o t n f:Int) (x:yB):Bool:=(o == 0) && ((t == 0) && ((n == 0) && ((f == 0) && x.toList.isEmpty)))
theorem QU (k o t n f:Int) (x:yB) (a:Option Addr) (l c:Nat) (p:Int) (w:yW):Calls zG 151 #[.agg #[zU k,zU o,zU t,zI n,zU f,.string x,.slice a l c,zI p]] w fun e w'=>e=.returned (.bool (zeB o t n f x))∧yD w w':=by
 cases h1:(o == 0) with
 | false =>
  have HE:Hid (zeB o t n f x=false):=by show _=_;simp [zeB,h1]
  go_enter func151,ntmps151
  go_wp2
  go_ret
  exact⟨by rw [HE.out];rfl,Qb _ _⟩
 | true =>
  cases h2:(t == 0) with
  | false =>
   have HE:Hid (zeB o t n f x=false):=by show _=_;simp [zeB,h1,h2]
   go_enter func151,ntmps151
   go_wp2
   go_ret
   exact⟨by rw [HE.out];rfl,Qb _ _⟩
  | true =>
   cases h3:(n == 0) with
   | false =>
    have HE:Hid (zeB o t n f x=false):=by show _=_;simp [zeB,h1,h2,h3]
    go_enter func151,ntmps151
    go_wp2
    go_ret
    exact⟨by rw [HE.out];rfl,Qb _ _⟩
   | true =>
    cases h4:(f == 0) with
    | false =>
     have HE:Hid (zeB o t n f x=false):=by show _=_;simp [zeB,h1,h2,h3,h4]
     go_enter func151,ntmps151
     go_wp2
     go_ret
     exact⟨by rw [HE.out];rfl,Qb _ _⟩
    | true =>
     cases h5:(x.toList.isEmpty) with
     | false =>
      have HE:Hid (zeB o t n f x=false):=by show _=_;simp [zeB,h1,h2,h3,h4,h5]
      go_enter func151,ntmps151
      go_wp2
      go_ret
      exact⟨by rw [HE.out];rfl,Qb _ _⟩
     | true =>
      have HE:Hid (zeB o t n f x=true):=by show _=_;simp [zeB,h1,h2,h3,h4,h5]
      go_enter func151,ntmps151
      go_wp2
      go_ret
      exact⟨by rw [HE.out];rfl,Qb _ _⟩
theorem Qgj (t n:Int):litB t n=if t == 1 then decide (0≤n) else if t == 2 then decide (0≤n) else if t == 3 then decide (0≤n) else if t == 4 then decide (0≤n) else if t == 5 then ((n == 0) || (n == 1)) else if t == 6 then ((n == 1) || (n == 2)) else false:=by
 unfold litB numB
 by_cases h1:t=1
 ·subst h1;simp
 by_cases h2:t=2
 ·subst h2;simp
 by_cases h3:t=3
 ·subst h3;simp
 by_cases h4:t=4
 ·subst h4;simp
 by_cases h5:t=5
 ·subst h5;simp;rw [Bool.eq_iff_iff];simp;omega
 by_cases h6:t=6
 ·subst h6;simp;rw [Bool.eq_iff_iff];simp;omega
 simp [h1,h2,h3,h4,h5,h6]
 omega
def liR (o t n f:Int) (x:yB) (l:Nat):Bool:=litB t n && (zeB o 0 0 f x && ((l:Int) == 0))
theorem QP (o t n f:Int) (x:yB) (l:Nat):liR o t n f x l=((if t == 1 then decide (0≤n) else if t == 2 then decide (0≤n) else if t == 3 then decide (0≤n) else if t == 4 then decide (0≤n) else if t == 5 then ((n == 0) || (n == 1)) else if t == 6 then ((n == 1) || (n == 2)) else false) && (zeB o 0 0 f x && ((l:Int) == 0))):=by unfold liR;rw [Qgj]
theorem Fe (k o t n f:Int) (x:yB) (a:Option Addr) (l c:Nat) (p:Int) (w:yW):Calls zG 150 #[.agg #[zU k,zU o,zU t,zI n,zU f,.string x,.slice a l c,zI p]] w fun e w'=>e=.returned (.bool (liR o t n f x l))∧yD w w':=by
 cases t1:(t == 1) with
 | false =>
  cases t2:(t == 2) with
  | false =>
   cases t3:(t == 3) with
   | false =>
    cases t4:(t == 4) with
    | false =>
     cases t5:(t == 5) with
     | false =>
      cases t6:(t == 6) with
      | false =>
       have HE:Hid (liR o t n f x l=false):=by show _=_;rw [QP];simp [t1,t2,t3,t4,t5,t6]
       go_enter func150,ntmps150
       go_wp2
       go_ret
       exact⟨by rw [HE.out];rfl,Qb _ _⟩
      | true =>
       cases m1:(n == 1) with
       | false =>
        cases m2:(n == 2) with
        | false =>
         have HE:Hid (liR o t n f x l=false):=by show _=_;rw [QP];simp [t1,t2,t3,t4,t5,t6,m1,m2]
         go_enter func150,ntmps150
         go_wp2
         go_ret
         exact⟨by rw [HE.out];rfl,Qb _ _⟩
        | true =>
         go_enter func150,ntmps150
         go_wp2_with fail
         refine (QU _ _ _ _ _ _ _ _ _ _ _).mono ?_
         rintro e w5 ⟨rfl,hb5⟩
         have HB5:Hid (yD w w5):=Qd (Qb _ _) hb5
         have g6:zQ w5 w§¢6 (.slice a l c):=Qa ((hb5.block _ (zJ (Qc _ _)).1).trans (Qc _ _)) 6
         clear hb5
         cases hz:(zeB o 0 0 f x) with
         | false =>
          have HE:Hid (liR o t n f x l=false):=by show _=_;rw [QP];simp [t1,t2,t3,t4,t5,t6,m1,m2,hz]
          go_wp2
          go_ret
          exact⟨by rw [HE.out];rfl,HB5.out⟩
         | true =>
          cases hl:((l:Int) == 0) with
          | false =>
           have HE:Hid (liR o t n f x l=false):=by show _=_;rw [QP];simp [t1,t2,t3,t4,t5,t6,m1,m2,hz,hl]
           go_wp2
           go_ret
           exact⟨by rw [HE.out];rfl,HB5.out⟩
          | true =>
           have HE:Hid (liR o t n f x l=true):=by show _=_;rw [QP];simp [t1,t2,t3,t4,t5,t6,m1,m2,hz,hl]
           go_wp2
           go_ret
           exact⟨by rw [HE.out];rfl,HB5.out⟩
       | true =>
        go_enter func150,ntmps150
        go_wp2_with fail
        refine (QU _ _ _ _ _ _ _ _ _ _ _).mono ?_
        rintro e w5 ⟨rfl,hb5⟩
        have HB5:Hid (yD w w5):=Qd (Qb _ _) hb5
        have g6:zQ w5 w§¢6 (.slice a l c):=Qa ((hb5.block _ (zJ (Qc _ _)).1).trans (Qc _ _)) 6
        clear hb5
        cases hz:(zeB o 0 0 f x) with
        | false =>
         have HE:Hid (liR o t n f x l=false):=by show _=_;rw [QP];simp [t1,t2,t3,t4,t5,t6,m1,hz]
         go_wp2
         go_ret
         exact⟨by rw [HE.out];rfl,HB5.out⟩
        | true =>
         cases hl:((l:Int) == 0) with
         | false =>
          have HE:Hid (liR o t n f x l=false):=by show _=_;rw [QP];simp [t1,t2,t3,t4,t5,t6,m1,hz,hl]
          go_wp2
          go_ret
          exact⟨by rw [HE.out];rfl,HB5.out⟩
         | true =>
          have HE:Hid (liR o t n f x l=true):=by show _=_;rw [QP];simp [t1,t2,t3,t4,t5,t6,m1,hz,hl]
          go_wp2
          go_ret
          exact⟨by rw [HE.out];rfl,HB5.out⟩
     | true =>
      cases m0:(n == 0) with
      | false =>
       cases m1:(n == 1) with
       | false =>
        have HE:Hid (liR o t n f x l=false):=by show _=_;rw [QP];simp [t1,t2,t3,t4,t5,m0,m1]
        go_enter func150,ntmps150
        go_wp2
        go_ret
        exact⟨by rw [HE.out];rfl,Qb _ _⟩
       | true =>
        go_enter func150,ntmps150
        go_wp2_with fail
        refine (QU _ _ _ _ _ _ _ _ _ _ _).mono ?_
        rintro e w5 ⟨rfl,hb5⟩
        have HB5:Hid (yD w w5):=Qd (Qb _ _) hb5
        have g6:zQ w5 w§¢6 (.slice a l c):=Qa ((hb5.block _ (zJ (Qc _ _)).1).trans (Qc _ _)) 6
        clear hb5
        cases hz:(zeB o 0 0 f x) with
        | false =>
         have HE:Hid (liR o t n f x l=false):=by show _=_;rw [QP];simp [t1,t2,t3,t4,t5,m0,m1,hz]
         go_wp2
         go_ret
         exact⟨by rw [HE.out];rfl,HB5.out⟩
        | true =>
         cases hl:((l:Int) == 0) with
         | false =>
          have HE:Hid (liR o t n f x l=false):=by show _=_;rw [QP];simp [t1,t2,t3,t4,t5,m0,m1,hz,hl]
          go_wp2
          go_ret
          exact⟨by rw [HE.out];rfl,HB5.out⟩
         | true =>
          have HE:Hid (liR o t n f x l=true):=by show _=_;rw [QP];simp [t1,t2,t3,t4,t5,m0,m1,hz,hl]
          go_wp2
          go_ret
          exact⟨by rw [HE.out];rfl,HB5.out⟩
      | true =>
       go_enter func150,ntmps150
       go_wp2_with fail
       refine (QU _ _ _ _ _ _ _ _ _ _ _).mono ?_
       rintro e w5 ⟨rfl,hb5⟩
       have HB5:Hid (yD w w5):=Qd (Qb _ _) hb5
       have g6:zQ w5 w§¢6 (.slice a l c):=Qa ((hb5.block _ (zJ (Qc _ _)).1).trans (Qc _ _)) 6
       clear hb5
       cases hz:(zeB o 0 0 f x) with
       | false =>
        have HE:Hid (liR o t n f x l=false):=by show _=_;rw [QP];simp [t1,t2,t3,t4,t5,m0,hz]
        go_wp2
        go_ret
        exact⟨by rw [HE.out];rfl,HB5.out⟩
       | true =>
        cases hl:((l:Int) == 0) with
        | false =>
         have HE:Hid (liR o t n f x l=false):=by show _=_;rw [QP];simp [t1,t2,t3,t4,t5,m0,hz,hl]
         go_wp2
         go_ret
         exact⟨by rw [HE.out];rfl,HB5.out⟩
        | true =>
         have HE:Hid (liR o t n f x l=true):=by show _=_;rw [QP];simp [t1,t2,t3,t4,t5,m0,hz,hl]
         go_wp2
         go_ret
         exact⟨by rw [HE.out];rfl,HB5.out⟩
    | true =>
     cases n4:(decide (0≤n)) with
     | false =>
      have HE:Hid (liR o t n f x l=false):=by show _=_;rw [QP];simp [t1,t2,t3,t4,n4]
      go_enter func150,ntmps150
      go_wp2
      go_ret
      exact⟨by rw [HE.out];rfl,Qb _ _⟩
     | true =>
      go_enter func150,ntmps150
      go_wp2_with fail
      refine (QU _ _ _ _ _ _ _ _ _ _ _).mono ?_
      rintro e w5 ⟨rfl,hb5⟩
      have HB5:Hid (yD w w5):=Qd (Qb _ _) hb5
      have g6:zQ w5 w§¢6 (.slice a l c):=Qa ((hb5.block _ (zJ (Qc _ _)).1).trans (Qc _ _)) 6
      clear hb5
      cases hz:(zeB o 0 0 f x) with
      | false =>
       have HE:Hid (liR o t n f x l=false):=by show _=_;rw [QP];simp [t1,t2,t3,t4,n4,hz]
       go_wp2
       go_ret
       exact⟨by rw [HE.out];rfl,HB5.out⟩
      | true =>
       cases hl:((l:Int) == 0) with
       | false =>
        have HE:Hid (liR o t n f x l=false):=by show _=_;rw [QP];simp [t1,t2,t3,t4,n4,hz,hl]
        go_wp2
        go_ret
        exact⟨by rw [HE.out];rfl,HB5.out⟩
       | true =>
        have HE:Hid (liR o t n f x l=true):=by show _=_;rw [QP];simp [t1,t2,t3,t4,n4,hz,hl]
        go_wp2
        go_ret
        exact⟨by rw [HE.out];rfl,HB5.out⟩
   | true =>
    cases n3:(decide (0≤n)) with
    | false =>
     have HE:Hid (liR o t n f x l=false):=by show _=_;rw [QP];simp [t1,t2,t3,n3]
     go_enter func150,ntmps150
     go_wp2
     go_ret
     exact⟨by rw [HE.out];rfl,Qb _ _⟩
    | true =>
     go_enter func150,ntmps150
     go_wp2_with fail
     refine (QU _ _ _ _ _ _ _ _ _ _ _).mono ?_
     rintro e w5 ⟨rfl,hb5⟩
     have HB5:Hid (yD w w5):=Qd (Qb _ _) hb5
     have g6:zQ w5 w§¢6 (.slice a l c):=Qa ((hb5.block _ (zJ (Qc _ _)).1).trans (Qc _ _)) 6
     clear hb5
     cases hz:(zeB o 0 0 f x) with
     | false =>
      have HE:Hid (liR o t n f x l=false):=by show _=_;rw [QP];simp [t1,t2,t3,n3,hz]
      go_wp2
      go_ret
      exact⟨by rw [HE.out];rfl,HB5.out⟩
     | true =>
      cases hl:((l:Int) == 0) with
      | false =>
       have HE:Hid (liR o t n f x l=false):=by show _=_;rw [QP];simp [t1,t2,t3,n3,hz,hl]
       go_wp2
       go_ret
       exact⟨by rw [HE.out];rfl,HB5.out⟩
      | true =>
       have HE:Hid (liR o t n f x l=true):=by show _=_;rw [QP];simp [t1,t2,t3,n3,hz,hl]
       go_wp2
       go_ret
       exact⟨by rw [HE.out];rfl,HB5.out⟩
  | true =>
   cases n2:(decide (0≤n)) with
   | false =>
    have HE:Hid (liR o t n f x l=false):=by show _=_;rw [QP];simp [t1,t2,n2]
    go_enter func150,ntmps150
    go_wp2
    go_ret
    exact⟨by rw [HE.out];rfl,Qb _ _⟩
   | true =>
    go_enter func150,ntmps150
    go_wp2_with fail
    refine (QU _ _ _ _ _ _ _ _ _ _ _).mono ?_
    rintro e w5 ⟨rfl,hb5⟩
    have HB5:Hid (yD w w5):=Qd (Qb _ _) hb5
    have g6:zQ w5 w§¢6 (.slice a l c):=Qa ((hb5.block _ (zJ (Qc _ _)).1).trans (Qc _ _)) 6
    clear hb5
    cases hz:(zeB o 0 0 f x) with
    | false =>
     have HE:Hid (liR o t n f x l=false):=by show _=_;rw [QP];simp [t1,t2,n2,hz]
     go_wp2
     go_ret
     exact⟨by rw [HE.out];rfl,HB5.out⟩
    | true =>
     cases hl:((l:Int) == 0) with
     | false =>
      have HE:Hid (liR o t n f x l=false):=by show _=_;rw [QP];simp [t1,t2,n2,hz,hl]
      go_wp2
      go_ret
      exact⟨by rw [HE.out];rfl,HB5.out⟩
     | true =>
      have HE:Hid (liR o t n f x l=true):=by show _=_;rw [QP];simp [t1,t2,n2,hz,hl]
      go_wp2
      go_ret
      exact⟨by rw [HE.out];rfl,HB5.out⟩
 | true =>
  cases n1:(decide (0≤n)) with
  | false =>
   have HE:Hid (liR o t n f x l=false):=by show _=_;rw [QP];simp [t1,n1]
   go_enter func150,ntmps150
   go_wp2
   go_ret
   exact⟨by rw [HE.out];rfl,Qb _ _⟩
  | true =>
   go_enter func150,ntmps150
   go_wp2_with fail
   refine (QU _ _ _ _ _ _ _ _ _ _ _).mono ?_
   rintro e w5 ⟨rfl,hb5⟩
   have HB5:Hid (yD w w5):=Qd (Qb _ _) hb5
   have g6:zQ w5 w§¢6 (.slice a l c):=Qa ((hb5.block _ (zJ (Qc _ _)).1).trans (Qc _ _)) 6
   clear hb5
   cases hz:(zeB o 0 0 f x) with
   | false =>
    have HE:Hid (liR o t n f x l=false):=by show _=_;rw [QP];simp [t1,n1,hz]
    go_wp2
    go_ret
    exact⟨by rw [HE.out];rfl,HB5.out⟩
   | true =>
    cases hl:((l:Int) == 0) with
    | false =>
     have HE:Hid (liR o t n f x l=false):=by show _=_;rw [QP];simp [t1,n1,hz,hl]
     go_wp2
     go_ret
     exact⟨by rw [HE.out];rfl,HB5.out⟩
    | true =>
     have HE:Hid (liR o t n f x l=true):=by show _=_;rw [QP];simp [t1,n1,hz,hl]
     go_wp2
     go_ret
     exact⟨by rw [HE.out];rfl,HB5.out⟩
theorem Qh4 (o t n f:Int) (x:yB) (p:Int) (l:Nat):oneH ⟨1,o,t,n,f,x,p⟩ l=(liR o t n f x l):=by
 simp only [oneH,Jw,nm,fitB,zeB,liR,empt,numB]
 rw [Bool.eq_iff_iff]
 simp
 constructor <;> intro h <;> simp_all <;> omega
theorem Hv (o t n f:Int) (x:yB) (p:Int) (l:Nat):oneH ⟨2,o,t,n,f,x,p⟩ l=(Jm x && (zeB o t n f ⟨#[]⟩ && ((l:Int) == 0))):=by
 simp only [oneH,Jw,nm,fitB,zeB,liR,empt,numB]
 rw [Bool.eq_iff_iff]
 simp
 constructor <;> intro h <;> simp_all <;> omega
theorem Vd (o t n f:Int) (x:yB) (p:Int) (l:Nat):oneH ⟨3,o,t,n,f,x,p⟩ l=((decide (1≤f) && decide (f≤6)) && (zeB o t n 0 x && ((l:Int) == 0))):=by
 simp only [oneH,Jw,nm,fitB,zeB,liR,empt,numB]
 rw [Bool.eq_iff_iff]
 simp
 constructor <;> intro h <;> simp_all <;> omega
theorem Vc (o t n f:Int) (x:yB) (p:Int) (l:Nat):oneH ⟨4,o,t,n,f,x,p⟩ l=((decide (1≤f) && decide (f≤3)) && (zeB o t n 0 x && ((l:Int) == 0))):=by
 simp only [oneH,Jw,nm,fitB,zeB,liR,empt,numB]
 rw [Bool.eq_iff_iff]
 simp
 constructor <;> intro h <;> simp_all <;> omega
theorem XQ (o t n f:Int) (x:yB) (p:Int) (l:Nat):oneH ⟨5,o,t,n,f,x,p⟩ l=(((o == 1) || (o == 2)) && (zeB 0 t n f x && ((l:Int) == 1))):=by
 simp only [oneH,Jw,nm,fitB,zeB,liR,empt,numB]
 rw [Bool.eq_iff_iff]
 simp
 constructor <;> intro h <;> simp_all <;> omega
theorem Vb (o t n f:Int) (x:yB) (p:Int) (l:Nat):oneH ⟨6,o,t,n,f,x,p⟩ l=((decide (6≤o) && decide (o≤18)) && (zeB 0 t n f x && ((l:Int) == 2))):=by
 simp only [oneH,Jw,nm,fitB,zeB,liR,empt,numB]
 rw [Bool.eq_iff_iff]
 simp
 constructor <;> intro h <;> simp_all <;> omega
theorem Qaq (o t n f:Int) (x:yB) (p:Int) (l:Nat):oneH ⟨7,o,t,n,f,x,p⟩ l=(zeB o t n f x && ((l:Int) == 3)):=by
 simp only [oneH,Jw,nm,fitB,zeB,liR,empt,numB]
 rw [Bool.eq_iff_iff]
 simp
 intro h1 h2 h3 h4 h5
 omega
theorem Va (o t n f:Int) (x:yB) (p:Int) (l:Nat):oneH ⟨9,o,t,n,f,x,p⟩ l=((decide (1≤t) && decide (t≤4)) && (zeB o 0 n f x && ((l:Int) == 1))):=by
 simp only [oneH,Jw,nm,fitB,zeB,liR,empt,numB]
 rw [Bool.eq_iff_iff]
 simp
 constructor <;> intro h <;> simp_all <;> omega
theorem Hu (t n f:Int) (x:yB) (p:Int) (l:Nat):oneH ⟨8,3,t,n,f,x,p⟩ l=(zeB 0 t n f x && ((l:Int) == 1)):=by
 simp only [oneH,Jw,nm,fitB,zeB,empt]
 rw [Bool.eq_iff_iff]
 simp
 intro h1 h2 h3 h4
 omega
theorem X7 (o t n f:Int) (x:yB) (p:Int) (l:Nat) (h3:(o == 3)=false):oneH ⟨8,o,t,n,f,x,p⟩ l=((decide (3≤o) && decide (o≤5)) && (zeB 0 t n f x && ((l:Int) == 2))):=by
 have h3':¬ o=3:=by simpa using h3
 simp only [oneH,Jw,nm,fitB,zeB,empt]
 rw [Bool.eq_iff_iff]
 simp
 constructor <;> intro h <;> simp_all <;> omega
theorem one_3 (o t n f:Int) (x:yB) (a:Option Addr) (l c:Nat) (p:Int) (w:yW):Calls zG 92 #[.agg #[zU 3,zU o,zU t,zI n,zU f,.string x,.slice a l c,zI p]] w fun e w'=>e=.returned (.bool (oneH ⟨3,o,t,n,f,x,p⟩ l))∧yD w w':=by
 cases f1:(decide (1≤f)) with
 | false =>
  have HE:Hid (oneH ⟨3,o,t,n,f,x,p⟩ l=false):=by show _=_;rw [Vd];simp [f1]
  go_enter func92,ntmps92
  go_wp2
  go_ret
  exact⟨by rw [HE.out];rfl,Qb _ _⟩
 | true =>
  cases f6:(decide (f≤6)) with
  | false =>
   have HE:Hid (oneH ⟨3,o,t,n,f,x,p⟩ l=false):=by show _=_;rw [Vd];simp [f1,f6]
   go_enter func92,ntmps92
   go_wp2
   go_ret
   exact⟨by rw [HE.out];rfl,Qb _ _⟩
  | true =>
   go_enter func92,ntmps92
   go_wp2_with fail
   refine (QU _ _ _ _ _ _ _ _ _ _ _).mono ?_
   rintro e w5 ⟨rfl,hb5⟩
   have HB5:Hid (yD w w5):=Qd (Qb _ _) hb5
   have g6:zQ w5 w§¢6 (.slice a l c):=Qa ((hb5.block _ (zJ (Qc _ _)).1).trans (Qc _ _)) 6
   clear hb5
   cases hz:(zeB o t n 0 x) with
   | false =>
    have HE:Hid (oneH ⟨3,o,t,n,f,x,p⟩ l=false):=by show _=_;rw [Vd];simp [f1,f6,hz]
    go_wp2
    go_ret
    exact⟨by rw [HE.out];rfl,HB5.out⟩
   | true =>
    cases hl:((l:Int) == 0) with
    | false =>
     have HE:Hid (oneH ⟨3,o,t,n,f,x,p⟩ l=false):=by show _=_;rw [Vd];simp [f1,f6,hz,hl]
     go_wp2
     go_ret
     exact⟨by rw [HE.out];rfl,HB5.out⟩
    | true =>
     have HE:Hid (oneH ⟨3,o,t,n,f,x,p⟩ l=true):=by show _=_;rw [Vd];simp [f1,f6,hz,hl]
     go_wp2
     go_ret
     exact⟨by rw [HE.out];rfl,HB5.out⟩
theorem one_4 (o t n f:Int) (x:yB) (a:Option Addr) (l c:Nat) (p:Int) (w:yW):Calls zG 92 #[.agg #[zU 4,zU o,zU t,zI n,zU f,.string x,.slice a l c,zI p]] w fun e w'=>e=.returned (.bool (oneH ⟨4,o,t,n,f,x,p⟩ l))∧yD w w':=by
 cases f1:(decide (1≤f)) with
 | false =>
  have HE:Hid (oneH ⟨4,o,t,n,f,x,p⟩ l=false):=by show _=_;rw [Vc];simp [f1]
  go_enter func92,ntmps92
  go_wp2
  go_ret
  exact⟨by rw [HE.out];rfl,Qb _ _⟩
 | true =>
  cases f6:(decide (f≤3)) with
  | false =>
   have HE:Hid (oneH ⟨4,o,t,n,f,x,p⟩ l=false):=by show _=_;rw [Vc];simp [f1,f6]
   go_enter func92,ntmps92
   go_wp2
   go_ret
   exact⟨by rw [HE.out];rfl,Qb _ _⟩
  | true =>
   go_enter func92,ntmps92
   go_wp2_with fail
   refine (QU _ _ _ _ _ _ _ _ _ _ _).mono ?_
   rintro e w5 ⟨rfl,hb5⟩
   have HB5:Hid (yD w w5):=Qd (Qb _ _) hb5
   have g6:zQ w5 w§¢6 (.slice a l c):=Qa ((hb5.block _ (zJ (Qc _ _)).1).trans (Qc _ _)) 6
   clear hb5
   cases hz:(zeB o t n 0 x) with
   | false =>
    have HE:Hid (oneH ⟨4,o,t,n,f,x,p⟩ l=false):=by show _=_;rw [Vc];simp [f1,f6,hz]
    go_wp2
    go_ret
    exact⟨by rw [HE.out];rfl,HB5.out⟩
   | true =>
    cases hl:((l:Int) == 0) with
    | false =>
     have HE:Hid (oneH ⟨4,o,t,n,f,x,p⟩ l=false):=by show _=_;rw [Vc];simp [f1,f6,hz,hl]
     go_wp2
     go_ret
     exact⟨by rw [HE.out];rfl,HB5.out⟩
    | true =>
     have HE:Hid (oneH ⟨4,o,t,n,f,x,p⟩ l=true):=by show _=_;rw [Vc];simp [f1,f6,hz,hl]
     go_wp2
     go_ret
     exact⟨by rw [HE.out];rfl,HB5.out⟩
theorem one_5 (o t n f:Int) (x:yB) (a:Option Addr) (l c:Nat) (p:Int) (w:yW):Calls zG 92 #[.agg #[zU 5,zU o,zU t,zI n,zU f,.string x,.slice a l c,zI p]] w fun e w'=>e=.returned (.bool (oneH ⟨5,o,t,n,f,x,p⟩ l))∧yD w w':=by
 cases o1:(o == 1) with
 | false =>
  cases o2:(o == 2) with
  | false =>
   have HE:Hid (oneH ⟨5,o,t,n,f,x,p⟩ l=false):=by show _=_;rw [XQ];simp [o1,o2]
   go_enter func92,ntmps92
   go_wp2
   go_ret
   exact⟨by rw [HE.out];rfl,Qb _ _⟩
  | true =>
   go_enter func92,ntmps92
   go_wp2_with fail
   refine (QU _ _ _ _ _ _ _ _ _ _ _).mono ?_
   rintro e w5 ⟨rfl,hb5⟩
   have HB5:Hid (yD w w5):=Qd (Qb _ _) hb5
   have g6:zQ w5 w§¢6 (.slice a l c):=Qa ((hb5.block _ (zJ (Qc _ _)).1).trans (Qc _ _)) 6
   clear hb5
   cases hz:(zeB 0 t n f x) with
   | false =>
    have HE:Hid (oneH ⟨5,o,t,n,f,x,p⟩ l=false):=by show _=_;rw [XQ];simp [o1,o2,hz]
    go_wp2
    go_ret
    exact⟨by rw [HE.out];rfl,HB5.out⟩
   | true =>
    cases hl:((l:Int) == 1) with
    | false =>
     have HE:Hid (oneH ⟨5,o,t,n,f,x,p⟩ l=false):=by show _=_;rw [XQ];simp [o1,o2,hz,hl]
     go_wp2
     go_ret
     exact⟨by rw [HE.out];rfl,HB5.out⟩
    | true =>
     have HE:Hid (oneH ⟨5,o,t,n,f,x,p⟩ l=true):=by show _=_;rw [XQ];simp [o1,o2,hz,hl]
     go_wp2
     go_ret
     exact⟨by rw [HE.out];rfl,HB5.out⟩
 | true =>
  go_enter func92,ntmps92
  go_wp2_with fail
  refine (QU _ _ _ _ _ _ _ _ _ _ _).mono ?_
  rintro e w5 ⟨rfl,hb5⟩
  have HB5:Hid (yD w w5):=Qd (Qb _ _) hb5
  have g6:zQ w5 w§¢6 (.slice a l c):=Qa ((hb5.block _ (zJ (Qc _ _)).1).trans (Qc _ _)) 6
  clear hb5
  cases hz:(zeB 0 t n f x) with
  | false =>
   have HE:Hid (oneH ⟨5,o,t,n,f,x,p⟩ l=false):=by show _=_;rw [XQ];simp [o1,hz]
   go_wp2
   go_ret
   exact⟨by rw [HE.out];rfl,HB5.out⟩
  | true =>
   cases hl:((l:Int) == 1) with
   | false =>
    have HE:Hid (oneH ⟨5,o,t,n,f,x,p⟩ l=false):=by show _=_;rw [XQ];simp [o1,hz,hl]
    go_wp2
    go_ret
    exact⟨by rw [HE.out];rfl,HB5.out⟩
   | true =>
    have HE:Hid (oneH ⟨5,o,t,n,f,x,p⟩ l=true):=by show _=_;rw [XQ];simp [o1,hz,hl]
    go_wp2
    go_ret
    exact⟨by rw [HE.out];rfl,HB5.out⟩
theorem one_6 (o t n f:Int) (x:yB) (a:Option Addr) (l c:Nat) (p:Int) (w:yW):Calls zG 92 #[.agg #[zU 6,zU o,zU t,zI n,zU f,.string x,.slice a l c,zI p]] w fun e w'=>e=.returned (.bool (oneH ⟨6,o,t,n,f,x,p⟩ l))∧yD w w':=by
 cases o1:(decide (6≤o)) with
 | false =>
  have HE:Hid (oneH ⟨6,o,t,n,f,x,p⟩ l=false):=by show _=_;rw [Vb];simp [o1]
  go_enter func92,ntmps92
  go_wp2
  go_ret
  exact⟨by rw [HE.out];rfl,Qb _ _⟩
 | true =>
  cases o2:(decide (o≤18)) with
  | false =>
   have HE:Hid (oneH ⟨6,o,t,n,f,x,p⟩ l=false):=by show _=_;rw [Vb];simp [o1,o2]
   go_enter func92,ntmps92
   go_wp2
   go_ret
   exact⟨by rw [HE.out];rfl,Qb _ _⟩
  | true =>
   go_enter func92,ntmps92
   go_wp2_with fail
   refine (QU _ _ _ _ _ _ _ _ _ _ _).mono ?_
   rintro e w5 ⟨rfl,hb5⟩
   have HB5:Hid (yD w w5):=Qd (Qb _ _) hb5
   have g6:zQ w5 w§¢6 (.slice a l c):=Qa ((hb5.block _ (zJ (Qc _ _)).1).trans (Qc _ _)) 6
   clear hb5
   cases hz:(zeB 0 t n f x) with
   | false =>
    have HE:Hid (oneH ⟨6,o,t,n,f,x,p⟩ l=false):=by show _=_;rw [Vb];simp [o1,o2,hz]
    go_wp2
    go_ret
    exact⟨by rw [HE.out];rfl,HB5.out⟩
   | true =>
    cases hl:((l:Int) == 2) with
    | false =>
     have HE:Hid (oneH ⟨6,o,t,n,f,x,p⟩ l=false):=by show _=_;rw [Vb];simp [o1,o2,hz,hl]
     go_wp2
     go_ret
     exact⟨by rw [HE.out];rfl,HB5.out⟩
    | true =>
     have HE:Hid (oneH ⟨6,o,t,n,f,x,p⟩ l=true):=by show _=_;rw [Vb];simp [o1,o2,hz,hl]
     go_wp2
     go_ret
     exact⟨by rw [HE.out];rfl,HB5.out⟩
theorem one_7 (o t n f:Int) (x:yB) (a:Option Addr) (l c:Nat) (p:Int) (w:yW):Calls zG 92 #[.agg #[zU 7,zU o,zU t,zI n,zU f,.string x,.slice a l c,zI p]] w fun e w'=>e=.returned (.bool (oneH ⟨7,o,t,n,f,x,p⟩ l))∧yD w w':=by
 go_enter func92,ntmps92
 go_wp2_with fail
 refine (QU _ _ _ _ _ _ _ _ _ _ _).mono ?_
 rintro e w5 ⟨rfl,hb5⟩
 have HB5:Hid (yD w w5):=Qd (Qb _ _) hb5
 have g6:zQ w5 w§¢6 (.slice a l c):=Qa ((hb5.block _ (zJ (Qc _ _)).1).trans (Qc _ _)) 6
 clear hb5
 cases hz:(zeB o t n f x) with
 | false =>
  have HE:Hid (oneH ⟨7,o,t,n,f,x,p⟩ l=false):=by show _=_;rw [Qaq];simp [hz]
  go_wp2
  go_ret
  exact⟨by rw [HE.out];rfl,HB5.out⟩
 | true =>
  cases hl:((l:Int) == 3) with
  | false =>
   have HE:Hid (oneH ⟨7,o,t,n,f,x,p⟩ l=false):=by show _=_;rw [Qaq];simp [hz,hl]
   go_wp2
   go_ret
   exact⟨by rw [HE.out];rfl,HB5.out⟩
  | true =>
   have HE:Hid (oneH ⟨7,o,t,n,f,x,p⟩ l=true):=by show _=_;rw [Qaq];simp [hz,hl]
   go_wp2
   go_ret
   exact⟨by rw [HE.out];rfl,HB5.out⟩
theorem one_9 (o t n f:Int) (x:yB) (a:Option Addr) (l c:Nat) (p:Int) (w:yW):Calls zG 92 #[.agg #[zU 9,zU o,zU t,zI n,zU f,.string x,.slice a l c,zI p]] w fun e w'=>e=.returned (.bool (oneH ⟨9,o,t,n,f,x,p⟩ l))∧yD w w':=by
 cases t1:(decide (1≤t)) with
 | false =>
  have HE:Hid (oneH ⟨9,o,t,n,f,x,p⟩ l=false):=by show _=_;rw [Va];simp [t1]
  go_enter func92,ntmps92
  go_wp2
  go_ret
  exact⟨by rw [HE.out];rfl,Qb _ _⟩
 | true =>
  cases t4:(decide (t≤4)) with
  | false =>
   have HE:Hid (oneH ⟨9,o,t,n,f,x,p⟩ l=false):=by show _=_;rw [Va];simp [t1,t4]
   go_enter func92,ntmps92
   go_wp2
   go_ret
   exact⟨by rw [HE.out];rfl,Qb _ _⟩
  | true =>
   go_enter func92,ntmps92
   go_wp2_with fail
   refine (QU _ _ _ _ _ _ _ _ _ _ _).mono ?_
   rintro e w5 ⟨rfl,hb5⟩
   have HB5:Hid (yD w w5):=Qd (Qb _ _) hb5
   have g6:zQ w5 w§¢6 (.slice a l c):=Qa ((hb5.block _ (zJ (Qc _ _)).1).trans (Qc _ _)) 6
   clear hb5
   cases hz:(zeB o 0 n f x) with
   | false =>
    have HE:Hid (oneH ⟨9,o,t,n,f,x,p⟩ l=false):=by show _=_;rw [Va];simp [t1,t4,hz]
    go_wp2
    go_ret
    exact⟨by rw [HE.out];rfl,HB5.out⟩
   | true =>
    cases hl:((l:Int) == 1) with
    | false =>
     have HE:Hid (oneH ⟨9,o,t,n,f,x,p⟩ l=false):=by show _=_;rw [Va];simp [t1,t4,hz,hl]
     go_wp2
     go_ret
     exact⟨by rw [HE.out];rfl,HB5.out⟩
    | true =>
     have HE:Hid (oneH ⟨9,o,t,n,f,x,p⟩ l=true):=by show _=_;rw [Va];simp [t1,t4,hz,hl]
     go_wp2
     go_ret
     exact⟨by rw [HE.out];rfl,HB5.out⟩
theorem Qh2 (t n f:Int) (x:yB) (a:Option Addr) (l c:Nat) (p:Int) (w:yW):Calls zG 92 #[.agg #[zU 8,zU 3,zU t,zI n,zU f,.string x,.slice a l c,zI p]] w fun e w'=>e=.returned (.bool (oneH ⟨8,3,t,n,f,x,p⟩ l))∧yD w w':=by
 go_enter func92,ntmps92
 go_wp2_with fail
 refine (QU _ _ _ _ _ _ _ _ _ _ _).mono ?_
 rintro e w5 ⟨rfl,hb5⟩
 have HB5:Hid (yD w w5):=Qd (Qb _ _) hb5
 have g6:zQ w5 w§¢6 (.slice a l c):=Qa ((hb5.block _ (zJ (Qc _ _)).1).trans (Qc _ _)) 6
 clear hb5
 cases hz:(zeB 0 t n f x) with
 | false =>
  have HE:Hid (oneH ⟨8,3,t,n,f,x,p⟩ l=false):=by show _=_;rw [Hu];simp [hz]
  go_wp2
  go_ret
  exact⟨by rw [HE.out];rfl,HB5.out⟩
 | true =>
  cases hl:((l:Int) == 1) with
  | false =>
   have HE:Hid (oneH ⟨8,3,t,n,f,x,p⟩ l=false):=by show _=_;rw [Hu];simp [hz,hl]
   go_wp2
   go_ret
   exact⟨by rw [HE.out];rfl,HB5.out⟩
  | true =>
   have HE:Hid (oneH ⟨8,3,t,n,f,x,p⟩ l=true):=by show _=_;rw [Hu];simp [hz,hl]
   go_wp2
   go_ret
   exact⟨by rw [HE.out];rfl,HB5.out⟩
theorem Qh1 (o t n f:Int) (x:yB) (a:Option Addr) (l c:Nat) (p:Int) (w:yW) (o3:(o == 3)=false):Calls zG 92 #[.agg #[zU 8,zU o,zU t,zI n,zU f,.string x,.slice a l c,zI p]] w fun e w'=>e=.returned (.bool (oneH ⟨8,o,t,n,f,x,p⟩ l))∧yD w w':=by
 cases o1:(decide (3≤o)) with
 | false =>
  have HE:Hid (oneH ⟨8,o,t,n,f,x,p⟩ l=false):=by show _=_;rw [X7 _ _ _ _ _ _ _ o3];simp [o1]
  go_enter func92,ntmps92
  go_wp2
  go_ret
  exact⟨by rw [HE.out];rfl,Qb _ _⟩
 | true =>
  cases o2:(decide (o≤5)) with
  | false =>
   have HE:Hid (oneH ⟨8,o,t,n,f,x,p⟩ l=false):=by show _=_;rw [X7 _ _ _ _ _ _ _ o3];simp [o1,o2]
   go_enter func92,ntmps92
   go_wp2
   go_ret
   exact⟨by rw [HE.out];rfl,Qb _ _⟩
  | true =>
   go_enter func92,ntmps92
   go_wp2_with fail
   refine (QU _ _ _ _ _ _ _ _ _ _ _).mono ?_
   rintro e w5 ⟨rfl,hb5⟩
   have HB5:Hid (yD w w5):=Qd (Qb _ _) hb5
   have g6:zQ w5 w§¢6 (.slice a l c):=Qa ((hb5.block _ (zJ (Qc _ _)).1).trans (Qc _ _)) 6
   clear hb5
   cases hz:(zeB 0 t n f x) with
   | false =>
    have HE:Hid (oneH ⟨8,o,t,n,f,x,p⟩ l=false):=by show _=_;rw [X7 _ _ _ _ _ _ _ o3];simp [o1,o2,hz]
    go_wp2
    go_ret
    exact⟨by rw [HE.out];rfl,HB5.out⟩
   | true =>
    cases hl:((l:Int) == 2) with
    | false =>
     have HE:Hid (oneH ⟨8,o,t,n,f,x,p⟩ l=false):=by show _=_;rw [X7 _ _ _ _ _ _ _ o3];simp [o1,o2,hz,hl]
     go_wp2
     go_ret
     exact⟨by rw [HE.out];rfl,HB5.out⟩
    | true =>
     have HE:Hid (oneH ⟨8,o,t,n,f,x,p⟩ l=true):=by show _=_;rw [X7 _ _ _ _ _ _ _ o3];simp [o1,o2,hz,hl]
     go_wp2
     go_ret
     exact⟨by rw [HE.out];rfl,HB5.out⟩
theorem one_1 (o t n f : Int) (x : yB) (a : Option Addr) (l c : Nat) (p : Int) (w : yW) : Calls zG 92 #[.agg #[zU 1, zU o, zU t, zI n, zU f, .string x, .slice a l c, zI p]] w fun e w' => e = .returned (.bool (oneH ⟨1, o, t, n, f, x, p⟩ l)) ∧ yD w w' := by
 have HE : Hid (oneH ⟨1, o, t, n, f, x, p⟩ l = liR o t n f x l) := Qh4 ..
 go_enter func92, ntmps92
 go_wp2_with fail
 refine (Fe _ _ _ _ _ _ _ _ _ _ _).mono ?_
 rintro e w5 ⟨rfl, hb5⟩
 have HB5 : Hid (yD w w5) := Qd (Qb _ _) hb5
 clear hb5
 go_wp2
 go_ret
 exact ⟨by rw [HE.out];rfl, HB5.out⟩
theorem one_2 (o t n f:Int) (x:yB) (a:Option Addr) (l c:Nat) (p:Int) (w:yW) (hx:x.size≤140737488355328):Calls zG 92 #[.agg #[zU 2,zU o,zU t,zI n,zU f,.string x,.slice a l c,zI p]] w fun e w'=>e=.returned (.bool (oneH ⟨2,o,t,n,f,x,p⟩ l))∧yD w w':=by
 have hn1:=Qc w (.cells #[zU 2,zU o,zU t,zI n,zU f,.string x,.slice a l c,zI p] 38)
 have hb1:=Qb w (.cells #[zU 2,zU o,zU t,zI n,zU f,.string x,.slice a l c,zI p] 38)
 obtain⟨W1,e1⟩:∃ W,w.alloc (.cells #[zU 2,zU o,zU t,zI n,zU f,.string x,.slice a l c,zI p] 38)=W:=jV
 have E1:=zH e1
 rw [e1] at hn1 hb1
 have HN:Hid (W1.heap[w§]? = (zC #[zU 2,zU o,zU t,zI n,zU f,.string x,.slice a l c,zI p] 38)∧yD w W1):=⟨hn1,hb1⟩
 have c0:zQ W1 w§¢0 (zU 2):=Qa hn1 0
 have c5:zQ W1 w§¢5 (.string x):=Qa hn1 5
 have cN:=PR x hx W1
 clear hn1 hb1 e1
 go_enter func92,ntmps92
 go_upto_region 1 with fail
 rw [E1.out]
 clear E1
 go_wp2_with fail
 refine cN.mono ?_
 rintro e w2 ⟨rfl,hb2⟩
 have g:=(hb2.block _ (zJ HN.out.1).1).trans HN.out.1
 have HB2:=zH (Qd HN.out.2 hb2)
 have d5:zQ w2 w§¢5 (.string x):=Qa g 5
 have f5:=Qf g 5
 have u:=heap_setCell_same w2 w§ 5 _ _ (yQ) g
 have HU:Hid ((w2.setCell w§¢5 (yQ)).heap[w§]? = (zC #[zU 2,zU o,zU t,zI n,zU f,yQ,.slice a l c,zI p] 38)∧yD w (w2.setCell w§¢5 (yQ))):=⟨u,HB2.out.setCell (Nat.le_refl _) _⟩
 clear u g hb2 cN c0 c5
 go_upto_region 36 with fail
 generalize w2.setCell w§¢5 (yQ)=U at HU ⊢
 clear d5 f5
 cases hn:Jm x with
 | false =>
  have HE:Hid (oneH ⟨2,o,t,n,f,x,p⟩ l=false):=by show _=_;rw [Hv];simp [hn]
  clear hn
  go_wp2
  go_ret
  exact⟨by rw [HE.out];rfl,HU.out.2⟩
 | true =>
  obtain⟨q0,q1,q2,q3,q4,q5,q6,q7⟩:=cl8 HU.out.1
  go_wp2_with fail
  refine (QU _ _ _ _ _ _ _ _ _ _ _).mono ?_
  rintro e w5 ⟨rfl,hb5⟩
  have HB5:=zH (Qd HU.out.2 hb5)
  have g6:zQ w5 w§¢6 (.slice a l c):=Qa ((hb5.block _ (zJ HU.out.1).1).trans HU.out.1) 6
  clear hb5 q0 q1 q2 q3 q4 q5 q6 q7
  cases hz:(zeB o t n f ⟨#[]⟩) with
  | false =>
   have HE:Hid (oneH ⟨2,o,t,n,f,x,p⟩ l=false):=by show _=_;rw [Hv];simp [hz]
   go_wp2
   go_ret
   exact⟨by rw [HE.out];rfl,HB5.out⟩
  | true =>
   cases hl:((l:Int) == 0) with
   | false =>
    have HE:Hid (oneH ⟨2,o,t,n,f,x,p⟩ l=false):=by show _=_;rw [Hv];simp [hz,hl]
    go_wp2
    go_ret
    exact⟨by rw [HE.out];rfl,HB5.out⟩
   | true =>
    have HE:Hid (oneH ⟨2,o,t,n,f,x,p⟩ l=true):=by show _=_;rw [Hv];simp [hn,hz,hl]
    go_wp2
    go_ret
    exact⟨by rw [HE.out];rfl,HB5.out⟩
theorem Qh3 (k o t n f:Int) (x:yB) (p:Int) (l:Nat) (h1:¬ k=1) (h2:¬ k=2) (h3:¬ k=3) (h4:¬ k=4) (h5:¬ k=5) (h6:¬ k=6) (h7:¬ k=7) (h8:¬ k=8) (h9:¬ k=9):oneH ⟨k,o,t,n,f,x,p⟩ l=false:=by
 simp [oneH,fitB,h1,h2,h3,h4,h5,h6,h7,h8,h9]
theorem one_n (k:Int) (o t n f:Int) (x:yB) (a:Option Addr) (l c:Nat) (p:Int) (w:yW) (h1:¬ k=1) (h2:¬ k=2) (h3:¬ k=3) (h4:¬ k=4) (h5:¬ k=5) (h6:¬ k=6) (h7:¬ k=7) (h8:¬ k=8) (h9:¬ k=9):Calls zG 92 #[.agg #[zU k,zU o,zU t,zI n,zU f,.string x,.slice a l c,zI p]] w fun e w'=>e=.returned (.bool (oneH ⟨k,o,t,n,f,x,p⟩ l))∧yD w w':=by
 have HE:Hid (oneH ⟨k,o,t,n,f,x,p⟩ l=false):=Qh3 _ _ _ _ _ _ _ _ h1 h2 h3 h4 h5 h6 h7 h8 h9
 have e1:(k == 1)=false:=by simpa using h1
 have e2:(k == 2)=false:=by simpa using h2
 have e3:(k == 3)=false:=by simpa using h3
 have e4:(k == 4)=false:=by simpa using h4
 have e5:(k == 5)=false:=by simpa using h5
 have e6:(k == 6)=false:=by simpa using h6
 have e7:(k == 7)=false:=by simpa using h7
 have e8:(k == 8)=false:=by simpa using h8
 have e9:(k == 9)=false:=by simpa using h9
 clear h1 h2 h3 h4 h5 h6 h7 h8 h9
 go_enter func92,ntmps92
 go_wp2
 go_ret
 exact⟨by rw [HE.out];rfl,Qb _ _⟩
theorem Qdy (h:Hd) (a:Option Addr) (l c:Nat) (w:yW) (hx:h.x.size≤140737488355328):Calls zG 92 #[.agg #[zU h.k,zU h.o,zU h.t,zI h.n,zU h.f,.string h.x,.slice a l c,zI h.p]] w fun e w'=>e=.returned (.bool (oneH h l))∧yD w w':=by
 obtain⟨k,o,t,n,f,x,p⟩:=h
 by_cases h1:k=1
 ·subst h1;exact one_1 o t n f x a l c p w
 by_cases h2:k=2
 ·subst h2;exact one_2 o t n f x a l c p w hx
 by_cases h3:k=3
 ·subst h3;exact one_3 o t n f x a l c p w
 by_cases h4:k=4
 ·subst h4;exact one_4 o t n f x a l c p w
 by_cases h5:k=5
 ·subst h5;exact one_5 o t n f x a l c p w
 by_cases h6:k=6
 ·subst h6;exact one_6 o t n f x a l c p w
 by_cases h7:k=7
 ·subst h7;exact one_7 o t n f x a l c p w
 by_cases h8:k=8
 ·subst h8
  by_cases q3:o=3
  ·subst q3;exact Qh2 t n f x a l c p w
  ·exact Qh1 o t n f x a l c p w (by simpa using q3)
 by_cases h9:k=9
 ·subst h9;exact one_9 o t n f x a l c p w
 ·exact one_n k o t n f x a l c p w h1 h2 h3 h4 h5 h6 h7 h8 h9
end Go.Proofs.YtfbjofnaghjmeaaGreatDoor
