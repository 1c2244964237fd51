import Derived.Test.YtoogodlnnijikaaGreatDoorA0
import Derived.Test.YtoogodlnnijikaaGreatDoorA33
import Derived.Test.YtoogodlnnijikaaGreatDoorA6
import Derived.Test.YtoogodlnnijikaaGreatDoorA26
import Derived.Deep.RegionHeld3
import Derived.Test.YtoogodlnnijikaaGreatDoorA8
import Derived.Test.YtoogodlnnijikaaGreatDoorA20
import Derived.Laws.Closers25
namespace Go.Proofs.YtoogodlnnijikaaGreatDoor
open Go.RowKit
set_option linter.unusedVariables false
set_option maxRecDepth 100000 in
set_option maxHeartbeats 4000000 in
theorem rbr_any (h:Hd) (a:Option Addr) (c:Nat) (ks:List Nd) (i:Nat) (w:World) (hl:Lies w (.mk h a c ks)) (hlt:i < ks.length) (hi:i≤9223372036854775000) (ok:OkH h) (k:Nd) (ek:ks[i]=k) (okk:OkH k.h) :
  Calls zG 121 #[.agg #[zU h.k,zU h.o,zU h.t,zI h.n,zU h.f,.string h.x,.slice a ks.length c,zI h.p],zI i] w fun e w'=>e=.returned (.bool (decide (lvl k.h < ask h i)))∧Below w§ w w':=by
 obtain⟨b,o,e,hat⟩:=hl.kid i hlt
 have e2:a=some ⟨b,o,none⟩:=e
 clear e
 subst e2
 have hat2:NdAt w b (o+i * 8) k:=by rw [← ek]; exact hat
 clear hat hl ek
 have hlt':(i:Int) < (ks.length:Int):=by omega
 have cL:∀ v,Calls zG 152 #[.agg #[zU k.h.k,zU k.h.o,zU k.h.t,zI k.h.n,zU k.h.f,.string k.h.x,.slice k.a k.ks.length k.c,zI k.h.p]] v fun e w'=>e=.returned (zI (lvl k.h))∧Below v§ v w':=fun v=>rlevel_any k.h k.a k.ks.length k.c okk v
 have cA:∀ v,Calls zG 153 #[.agg #[zU h.k,zU h.o,zU h.t,zI h.n,zU h.f,.string h.x,.slice (some ⟨b,o,none⟩) ks.length c,zI h.p],zI i] v fun e w'=>e=.returned (zI (ask h i))∧Below v§ v w':=fun v=>rasks_any h (some ⟨b,o,none⟩) ks.length c i hi ok v
 obtain⟨V,eV⟩:∃ V,lvl k.h=V:=⟨_,rfl⟩
 obtain⟨U,eU⟩:∃ U,ask h i=U:=⟨_,rfl⟩
 simp only [eV] at cL
 simp only [eU] at cA
 rw [eV,eU]
 clear eV eU ok okk hi
 have hw:=heap_new w (.cells #[zU h.k,zU h.o,zU h.t,zI h.n,zU h.f,.string h.x,.slice (some ⟨b,o,none⟩) ks.length c,zI h.p] 48)
 obtain⟨W0,eW⟩:∃ W,w.alloc (.cells #[zU h.k,zU h.o,zU h.t,zI h.n,zU h.f,.string h.x,.slice (some ⟨b,o,none⟩) ks.length c,zI h.p] 48)=W:=⟨_,rfl⟩
 have HB0:Hid (Below w§ w W0):=by rw [← eW]; exact below_new _ _
 rw [eW] at hw
 have HKP:Hid (∀ v,GB W0 v→v.cell? ⟨w§,0,none⟩=some (zU h.k)∧v.cell? ⟨w§,1,none⟩=some (zU h.o)∧v.cell? ⟨w§,2,none⟩=some (zU h.t)∧v.cell? ⟨w§,3,none⟩=some (zI h.n)∧v.cell? ⟨w§,4,none⟩=some (zU h.f)∧v.cell? ⟨w§,5,none⟩=some (.string h.x)∧v.cell? ⟨w§,6,none⟩=some (.slice (some ⟨b,o,none⟩) ks.length c)∧v.cell? ⟨w§,7,none⟩=some (zI h.p)∧v.cell? ⟨b,o+i * 8,none⟩=some (zU k.h.k)∧v.cell? ⟨b,o+i * 8+1,none⟩=some (zU k.h.o)∧v.cell? ⟨b,o+i * 8+2,none⟩=some (zU k.h.t)∧v.cell? ⟨b,o+i * 8+3,none⟩=some (zI k.h.n)∧v.cell? ⟨b,o+i * 8+4,none⟩=some (zU k.h.f)∧v.cell? ⟨b,o+i * 8+5,none⟩=some (.string k.h.x)∧v.cell? ⟨b,o+i * 8+6,none⟩=some (.slice k.a k.ks.length k.c)∧v.cell? ⟨b,o+i * 8+7,none⟩=some (zI k.h.p)∧GB W0 v):=fun v hv=>by
  have h1:=(hv.block _ (Array.getElem?_eq_some_iff.1 hw).1).trans hw
  have h2:=(hat2.on HB0.out).on hv
  exact⟨cell_of h1 0,cell_of h1 1,cell_of h1 2,cell_of h1 3,cell_of h1 4,cell_of h1 5,cell_of h1 6,cell_of h1 7,h2.c0,h2.c1,h2.c2,h2.c3,h2.c4,h2.c5,h2.c6,h2.c7,hv⟩
 clear hat2 hw
 go_enter Tryz.func121,Tryz.ntmps121
 go_upto_region 1 with fail
 clear eW
 go_region_held3 (fun v=>v.cell? ⟨w§,0,none⟩=some (zU h.k)∧v.cell? ⟨w§,1,none⟩=some (zU h.o)∧v.cell? ⟨w§,2,none⟩=some (zU h.t)∧v.cell? ⟨w§,3,none⟩=some (zI h.n)∧v.cell? ⟨w§,4,none⟩=some (zU h.f)∧v.cell? ⟨w§,5,none⟩=some (.string h.x)∧v.cell? ⟨w§,6,none⟩=some (.slice (some ⟨b,o,none⟩) ks.length c)∧v.cell? ⟨w§,7,none⟩=some (zI h.p)∧v.cell? ⟨b,o+i * 8,none⟩=some (zU k.h.k)∧v.cell? ⟨b,o+i * 8+1,none⟩=some (zU k.h.o)∧v.cell? ⟨b,o+i * 8+2,none⟩=some (zU k.h.t)∧v.cell? ⟨b,o+i * 8+3,none⟩=some (zI k.h.n)∧v.cell? ⟨b,o+i * 8+4,none⟩=some (zU k.h.f)∧v.cell? ⟨b,o+i * 8+5,none⟩=some (.string k.h.x)∧v.cell? ⟨b,o+i * 8+6,none⟩=some (.slice k.a k.ks.length k.c)∧v.cell? ⟨b,o+i * 8+7,none⟩=some (zI k.h.p)∧GB W0 v)
  (exact HKP.out _ (by (repeat (first | with_reducible assumption | with_reducible exact GB.refl _ | with_reducible apply GB.drew | with_reducible apply GB.alloc | with_reducible refine GB.call (by with_reducible assumption) ?_))))
  (first
   | (go_at_call 152; refine (cL _).mono ?_; rintro e w6 ⟨rfl,hb6⟩)
   | (go_at_call 153; refine (cA _).mono ?_; rintro e w7 ⟨rfl,hb7⟩))
 all_goals
  refine abs_world (P:=fun V=>GB W0 V) (by (repeat (first | with_reducible assumption | with_reducible exact GB.refl _ | with_reducible apply GB.drew | with_reducible apply GB.alloc | with_reducible refine GB.call (by with_reducible assumption) ?_))) ?_
  intro Vw hv
  have HV:Hid (Below w§ w Vw):=below2 HB0.out hv
  clear hv
  go_wp2_with fail
  go_ret
  exact⟨rfl,HV.out⟩
set_option linter.unusedSimpArgs false
theorem maxd {D n:Nat}{y z:Int}(hy:(D:Int)=y) (hz:(n:Int)=z) (h:y < z):Value.int .i64 z=zI ((Nat.max D n:Nat):Int):=by
 congr 1
 rw [← hy,← hz] at h
 rw [← hz]
 show (n:Int)=((max D n:Nat):Int)
 omega
theorem maxe {D n:Nat}{y z:Int}(hy:(D:Int)=y) (hz:(n:Int)=z) (h:¬ y < z):Value.int .i64 y=zI ((Nat.max D n:Nat):Int):=by
 congr 1
 rw [← hy,← hz] at h
 rw [← hy]
 show (D:Int)=((max D n:Nat):Int)
 omega
theorem kind_form {h:Hd}{a:Option Addr}{c:Nat}{ks:List Nd}(f:formB (.mk h a c ks)=true) (i:Nat) (hi:i < ks.length):h.k=5∨h.k=8∨h.k=9∨h.k=7∨h.k=6:=by
 simp only [formB,oneH,Bool.and_eq_true] at f
 have g:=f.1.2
 unfold fitB at g
 have hpos:ks.length≠0:=by omega
 by_cases h5:h.k=5
 ·exact .inl h5
 by_cases h8:h.k=8
 ·exact .inr (.inl h8)
 by_cases h9:h.k=9
 ·exact .inr (.inr (.inl h9))
 by_cases h7:h.k=7
 ·exact .inr (.inr (.inr (.inl h7)))
 by_cases h6:h.k=6
 ·exact .inr (.inr (.inr (.inr h6)))
 exfalso
 by_cases h1:h.k=1
 ·simp [h1,hpos] at g
 by_cases h2:h.k=2
 ·simp [h2,hpos] at g
 by_cases h3:h.k=3
 ·simp [h3,hpos] at g
 by_cases h4:h.k=4
 ·simp [h4,hpos] at g
 simp [h1,h2,h3,h4,h5,h6,h7,h8,h9] at g
set_option maxRecDepth 1000000 in
set_option maxHeartbeats 8000000 in
theorem rdepth_any:∀ (m:Nd) (w:World),Lies w m→size m≤1000000000000→formB m=true→Calls zG 84 #[.agg m.vals] w fun e w'=>e=.returned (zI (dep m))∧Below w§ w w':=by
 refine Nd.ind fun h a c ks ih w hl hz hf=>?_
 have HI:Hid (∀ k ∈ ks,∀ (w:World),Lies w k→size k≤1000000000000→formB k=true→Calls zG 84 #[.agg k.vals] w fun e w'=>e=.returned (zI (dep k))∧Below w§ w w'):=ih
 have HL:=hl.hid
 have HZ:Hid (size (.mk h a c ks)≤1000000000000):=hz
 have HF:Hid (formB (.mk h a c ks)=true):=hf
 clear ih hl hz hf
 show Calls zG 84 #[.agg #[zU h.k,zU h.o,zU h.t,zI h.n,zU h.f,.string h.x,.slice a ks.length c,zI h.p]] w _
 have HN0:Hid (NdH (w.alloc (.cells #[zU h.k,zU h.o,zU h.t,zI h.n,zU h.f,.string h.x,.slice a ks.length c,zI h.p] 48)) w§ (.mk h a c ks)):=heap_new w _
 go_enter Tryz.func84,Tryz.ntmps84
 go_wp2_with fail
 go_loopw [3,4] (fun d t wr=>∃ (i D:Nat),i≤ks.length∧t=zI i∧d=zI D∧Below (w.alloc (.cells #[zU h.k,zU h.o,zU h.t,zI h.n,zU h.f,.string h.x,.slice a ks.length c,zI h.p] 48))§ (w.alloc (.cells #[zU h.k,zU h.o,zU h.t,zI h.n,zU h.f,.string h.x,.slice a ks.length c,zI h.p] 48)) wr∧Hid (deps h 0 ks=Nat.max D (deps h i (ks.drop i)))) (fun _ t _=>ks.length - (intOf t).toNat)
 case atStart=>exact⟨0,0,by omega,rfl,rfl,Below.refl _ _,by show _=_; simp⟩
 case round =>
  obtain⟨i,D,hi,rfl,rfl,hbr,HR⟩:=hrel
  have HBR:Hid (Below w§ w wr):=below2 (below_new _ _) hbr
  have HNR:Hid (NdH wr w§ (.mk h a c ks)):=HN0.out.on hbr
  have HBr:Hid (Below (w.alloc (.cells #[zU h.k,zU h.o,zU h.t,zI h.n,zU h.f,.string h.x,.slice a ks.length c,zI h.p] 48))§ (w.alloc (.cells #[zU h.k,zU h.o,zU h.t,zI h.n,zU h.f,.string h.x,.slice a ks.length c,zI h.p] 48)) wr):=hbr
  clear hbr
  by_cases hlt:i < ks.length
  ·have hlt':(i:Int) < (ks.length:Int):=by omega
   have hmx:(i:Int)+1≤9223372036854775807:=by
    have h1:=HL.out.max
    have h2:=HL.out.cap
    simp only [Nd.ks,Nd.c] at h1 h2
    omega
   obtain⟨b,o,e,hat⟩:=(HL.out.on HBR.out).kid i hlt
   have e2:a=some ⟨b,o,none⟩:=e
   clear e
   subst e2
   have cI:=HI.out ks[i] (nth_mem hlt)
   have HLk:Hid (Lies w ks[i]):=HL.out.sub ks[i] (nth_mem hlt)
   have hsz:size ks[i]≤1000000000000:=by have h1:=size_mem (nth_mem hlt); have h2:=HZ.out; simp only [size] at h2; omega
   have hfk:formB ks[i]=true:=form_kidO HF.out (nth_mem hlt)
   have hdk:=dep_size ks[i]
   have HD:Hid (deps h 0 ks=Nat.max D (Nat.max (inc (dwn h i) (inc (decide (lvl ks[i].h < ask h i)) (dep ks[i]))) (deps h (i+1) (ks.drop (i+1))))):=by show _=_; rw [HR.out,drop_nth hlt]; rfl
   have hle:i≤1000000000000:=by have h1:=len_sizes ks; have h2:=HZ.out; simp only [size] at h2; omega
   have hkind:h.k=5∨h.k=8∨h.k=9∨h.k=7∨h.k=6:=kind_form HF.out i hlt
   obtain⟨k,ek⟩:∃ k,ks[i]=k:=⟨_,rfl⟩
   have hat2:NdAt wr b (o+i * 8) k:=by rw [← ek]; exact hat
   clear hat
   have cB:=fun v (hv:Lies v (.mk h (some ⟨b,o,none⟩) c ks))=>rbr_any h (some ⟨b,o,none⟩) c ks i v hv hlt (by omega) (ok_form HF.out) k ek (by rw [← ek]; exact ok_formX hfk)
   rw [ek] at cI HLk hsz HD hdk hfk
   obtain⟨y0,y1,y2,y3,y4,y5,y6,y7⟩:=hat2
   obtain⟨d,ed⟩:∃ d,dep k=d:=⟨_,rfl⟩
   obtain⟨B,eB⟩:∃ B,decide (lvl k.h < ask h i)=B:=⟨_,rfl⟩
   rw [ed] at cI HD hdk
   rw [eB] at HD
   simp only [eB] at cB
   have cI:∀ v,Lies v k→Calls zG 84 #[.agg #[zU k.h.k,zU k.h.o,zU k.h.t,zI k.h.n,zU k.h.f,.string k.h.x,.slice k.a k.ks.length k.c,zI k.h.p]] v fun e w'=>e=.returned (zI d)∧Below v§ v w':=fun v hv=>cI v hv hsz hfk
   have hd1:(d:Int)+1≤9223372036854775807:=by omega
   have hd2:(d:Int)+1+1≤9223372036854775807:=by omega
   obtain⟨x0,x1,x2,x3,x4,x5,x6,x7⟩:=HNR.out.eight
   simp only [Nd.h,Nd.a,Nd.c,Nd.ks] at x0 x1 x2 x3 x4 x5 x6 x7
   clear ek ed eB HR hdk hsz hle hfk
   go_wp2_with fail
   refine (cI _ (HLk.out.on HBR.out)).mono ?_
   rintro e w5 ⟨rfl,hb5⟩
   have HB5:Hid (Below (w.alloc (.cells #[zU h.k,zU h.o,zU h.t,zI h.n,zU h.f,.string h.x,.slice (some ⟨b,o,none⟩) ks.length c,zI h.p] 48))§ (w.alloc (.cells #[zU h.k,zU h.o,zU h.t,zI h.n,zU h.f,.string h.x,.slice (some ⟨b,o,none⟩) ks.length c,zI h.p] 48)) w5):=below2 HBr.out hb5
   have HN5:Hid (NdH w5 w§ (.mk h (some ⟨b,o,none⟩) c ks)):=HNR.out.on hb5
   have HL5:Hid (Lies w5 (.mk h (some ⟨b,o,none⟩) c ks)):=(HL.out.on HBR.out).on hb5
   clear cI hb5 x0 x1 x2 x3 x4 x5 x6 x7 y0 y1 y2 y3 y4 y5 y6 y7
   obtain⟨x0,x1,x2,x3,x4,x5,x6,x7⟩:=HN5.out.eight
   simp only [Nd.h,Nd.a,Nd.c,Nd.ks] at x0 x1 x2 x3 x4 x5 x6 x7
   go_wp2_with fail
   refine (cB _ HL5.out).mono ?_
   rintro e w6 ⟨rfl,hb6⟩
   have HB6:Hid (Below (w.alloc (.cells #[zU h.k,zU h.o,zU h.t,zI h.n,zU h.f,.string h.x,.slice (some ⟨b,o,none⟩) ks.length c,zI h.p] 48))§ (w.alloc (.cells #[zU h.k,zU h.o,zU h.t,zI h.n,zU h.f,.string h.x,.slice (some ⟨b,o,none⟩) ks.length c,zI h.p] 48)) w6):=below2 HB5.out hb6
   have HN6:Hid (NdH w6 w§ (.mk h (some ⟨b,o,none⟩) c ks)):=HN5.out.on hb6
   clear cB hb6 x0 x1 x2 x3 x4 x5 x6 x7
   have x0:=HN6.out.eight.1
   simp only [Nd.h] at x0
   obtain⟨z,ez⟩:∃ z:Int,(d:Int)=z:=⟨_,rfl⟩
   obtain⟨z1,ez1⟩:∃ z1:Int,(d:Int)+1=z1:=⟨_,rfl⟩
   obtain⟨z2,ez2⟩:∃ z2:Int,(d:Int)+1+1=z2:=⟨_,rfl⟩
   have hw1:wrap64 (z+1)=z1:=by rw [← ez,ez1]; unfold wrap64; omega
   have hw2:wrap64 (z1+1)=z2:=by rw [← ez1,ez2]; unfold wrap64; omega
   obtain⟨y,ey⟩:∃ y:Int,(D:Int)=y:=⟨_,rfl⟩
   simp only [ez,ey]
   have EZ:Hid ((d:Int)=z∧(d:Int)+1=z1∧(d:Int)+1+1=z2∧(D:Int)=y):=⟨ez,ez1,ez2,ey⟩
   clear ez ey ez1 ez2 hd1 hd2
   have HK:Hid (h.k=5∨h.k=8∨h.k=9∨h.k=7∨h.k=6):=hkind
   clear hkind
   cases B with
   | true =>
    rcases HK.out with k5 | k5 | k5 | k5 | k5
    ·rw [k5] at x0
     have HG:Hid (inc (dwn h i) (inc true d)=d+1+1):=by
      have:dwn h i=true:=by unfold dwn; rw [if_neg (by rw [k5]; decide),if_neg (by rw [k5]; decide)]
      show _=_; rw [this]; rfl
     rw [HG.out] at HD
     clear k5
     by_cases hP:y < z2
     ·have HP:Hid (y < z2):=hP
      go_wp2_with fail
      exact⟨⟨i+1,Nat.max D (d+1+1),hlt,rfl,by first | exact maxd EZ.out.2.2.2 (by have:=EZ.out; omega) HP.out | (rw [hw2]; exact maxd EZ.out.2.2.2 (by have:=EZ.out; omega) HP.out) | (rw [hw1]; exact maxd EZ.out.2.2.2 (by have:=EZ.out; omega) HP.out),HB6.out,by show _=_; rw [HD.out]; exact (Nat.max_assoc _ _ _).symm⟩,by simp only [intOf]; omega⟩
     ·have HP:Hid (¬ y < z2):=hP
      go_wp2_with fail
      exact⟨⟨i+1,Nat.max D (d+1+1),hlt,rfl,by first | exact maxe EZ.out.2.2.2 (by have:=EZ.out; omega) HP.out | (rw [hw2]; exact maxe EZ.out.2.2.2 (by have:=EZ.out; omega) HP.out) | (rw [hw1]; exact maxe EZ.out.2.2.2 (by have:=EZ.out; omega) HP.out),HB6.out,by show _=_; rw [HD.out]; exact (Nat.max_assoc _ _ _).symm⟩,by simp only [intOf]; omega⟩
    ·rw [k5] at x0
     have HG:Hid (inc (dwn h i) (inc true d)=d+1+1):=by
      have:dwn h i=true:=by unfold dwn; rw [if_neg (by rw [k5]; decide),if_neg (by rw [k5]; decide)]
      show _=_; rw [this]; rfl
     rw [HG.out] at HD
     clear k5
     by_cases hP:y < z2
     ·have HP:Hid (y < z2):=hP
      go_wp2_with fail
      exact⟨⟨i+1,Nat.max D (d+1+1),hlt,rfl,by first | exact maxd EZ.out.2.2.2 (by have:=EZ.out; omega) HP.out | (rw [hw2]; exact maxd EZ.out.2.2.2 (by have:=EZ.out; omega) HP.out) | (rw [hw1]; exact maxd EZ.out.2.2.2 (by have:=EZ.out; omega) HP.out),HB6.out,by show _=_; rw [HD.out]; exact (Nat.max_assoc _ _ _).symm⟩,by simp only [intOf]; omega⟩
     ·have HP:Hid (¬ y < z2):=hP
      go_wp2_with fail
      exact⟨⟨i+1,Nat.max D (d+1+1),hlt,rfl,by first | exact maxe EZ.out.2.2.2 (by have:=EZ.out; omega) HP.out | (rw [hw2]; exact maxe EZ.out.2.2.2 (by have:=EZ.out; omega) HP.out) | (rw [hw1]; exact maxe EZ.out.2.2.2 (by have:=EZ.out; omega) HP.out),HB6.out,by show _=_; rw [HD.out]; exact (Nat.max_assoc _ _ _).symm⟩,by simp only [intOf]; omega⟩
    ·rw [k5] at x0
     have HG:Hid (inc (dwn h i) (inc true d)=d+1+1):=by
      have:dwn h i=true:=by unfold dwn; rw [if_neg (by rw [k5]; decide),if_neg (by rw [k5]; decide)]
      show _=_; rw [this]; rfl
     rw [HG.out] at HD
     clear k5
     by_cases hP:y < z2
     ·have HP:Hid (y < z2):=hP
      go_wp2_with fail
      exact⟨⟨i+1,Nat.max D (d+1+1),hlt,rfl,by first | exact maxd EZ.out.2.2.2 (by have:=EZ.out; omega) HP.out | (rw [hw2]; exact maxd EZ.out.2.2.2 (by have:=EZ.out; omega) HP.out) | (rw [hw1]; exact maxd EZ.out.2.2.2 (by have:=EZ.out; omega) HP.out),HB6.out,by show _=_; rw [HD.out]; exact (Nat.max_assoc _ _ _).symm⟩,by simp only [intOf]; omega⟩
     ·have HP:Hid (¬ y < z2):=hP
      go_wp2_with fail
      exact⟨⟨i+1,Nat.max D (d+1+1),hlt,rfl,by first | exact maxe EZ.out.2.2.2 (by have:=EZ.out; omega) HP.out | (rw [hw2]; exact maxe EZ.out.2.2.2 (by have:=EZ.out; omega) HP.out) | (rw [hw1]; exact maxe EZ.out.2.2.2 (by have:=EZ.out; omega) HP.out),HB6.out,by show _=_; rw [HD.out]; exact (Nat.max_assoc _ _ _).symm⟩,by simp only [intOf]; omega⟩
    ·rw [k5] at x0
     by_cases i0:0 < i
     ·have HIP:Hid (0 < i):=i0
      have i1:(0:Int) < (i:Int):=by omega
      have HG:Hid (inc (dwn h i) (inc true d)=d+1+1):=by
       have:dwn h i=true:=by unfold dwn; rw [if_neg (by rw [k5]; decide),if_pos k5]; have:=HIP.out; exact decide_eq_true (by omega)
       show _=_; rw [this]; rfl
      rw [HG.out] at HD
      clear k5
      by_cases hP:y < z2
      ·have HP:Hid (y < z2):=hP
       go_wp2_with fail
       exact⟨⟨i+1,Nat.max D (d+1+1),hlt,rfl,by first | exact maxd EZ.out.2.2.2 (by have:=EZ.out; omega) HP.out | (rw [hw2]; exact maxd EZ.out.2.2.2 (by have:=EZ.out; omega) HP.out) | (rw [hw1]; exact maxd EZ.out.2.2.2 (by have:=EZ.out; omega) HP.out),HB6.out,by show _=_; rw [HD.out]; exact (Nat.max_assoc _ _ _).symm⟩,by simp only [intOf]; omega⟩
      ·have HP:Hid (¬ y < z2):=hP
       go_wp2_with fail
       exact⟨⟨i+1,Nat.max D (d+1+1),hlt,rfl,by first | exact maxe EZ.out.2.2.2 (by have:=EZ.out; omega) HP.out | (rw [hw2]; exact maxe EZ.out.2.2.2 (by have:=EZ.out; omega) HP.out) | (rw [hw1]; exact maxe EZ.out.2.2.2 (by have:=EZ.out; omega) HP.out),HB6.out,by show _=_; rw [HD.out]; exact (Nat.max_assoc _ _ _).symm⟩,by simp only [intOf]; omega⟩
     ·have HIP:Hid (¬ 0 < i):=i0
      have i1:¬ (0:Int) < (i:Int):=by omega
      have HG:Hid (inc (dwn h i) (inc true d)=d+1):=by
       have:dwn h i=false:=by unfold dwn; rw [if_neg (by rw [k5]; decide),if_pos k5]; have:=HIP.out; exact decide_eq_false (by omega)
       show _=_; rw [this]; rfl
      rw [HG.out] at HD
      clear k5
      by_cases hP:y < z1
      ·have HP:Hid (y < z1):=hP
       go_wp2_with fail
       exact⟨⟨i+1,Nat.max D (d+1),hlt,rfl,by first | exact maxd EZ.out.2.2.2 (by have:=EZ.out; omega) HP.out | (rw [hw2]; exact maxd EZ.out.2.2.2 (by have:=EZ.out; omega) HP.out) | (rw [hw1]; exact maxd EZ.out.2.2.2 (by have:=EZ.out; omega) HP.out),HB6.out,by show _=_; rw [HD.out]; exact (Nat.max_assoc _ _ _).symm⟩,by simp only [intOf]; omega⟩
      ·have HP:Hid (¬ y < z1):=hP
       go_wp2_with fail
       exact⟨⟨i+1,Nat.max D (d+1),hlt,rfl,by first | exact maxe EZ.out.2.2.2 (by have:=EZ.out; omega) HP.out | (rw [hw2]; exact maxe EZ.out.2.2.2 (by have:=EZ.out; omega) HP.out) | (rw [hw1]; exact maxe EZ.out.2.2.2 (by have:=EZ.out; omega) HP.out),HB6.out,by show _=_; rw [HD.out]; exact (Nat.max_assoc _ _ _).symm⟩,by simp only [intOf]; omega⟩
    ·rw [k5] at x0
     have HG:Hid (inc (dwn h i) (inc true d)=d+1):=by
      have:dwn h i=false:=by unfold dwn; rw [if_pos k5]
      show _=_; rw [this]; rfl
     rw [HG.out] at HD
     clear k5
     by_cases hP:y < z1
     ·have HP:Hid (y < z1):=hP
      go_wp2_with fail
      exact⟨⟨i+1,Nat.max D (d+1),hlt,rfl,by first | exact maxd EZ.out.2.2.2 (by have:=EZ.out; omega) HP.out | (rw [hw2]; exact maxd EZ.out.2.2.2 (by have:=EZ.out; omega) HP.out) | (rw [hw1]; exact maxd EZ.out.2.2.2 (by have:=EZ.out; omega) HP.out),HB6.out,by show _=_; rw [HD.out]; exact (Nat.max_assoc _ _ _).symm⟩,by simp only [intOf]; omega⟩
     ·have HP:Hid (¬ y < z1):=hP
      go_wp2_with fail
      exact⟨⟨i+1,Nat.max D (d+1),hlt,rfl,by first | exact maxe EZ.out.2.2.2 (by have:=EZ.out; omega) HP.out | (rw [hw2]; exact maxe EZ.out.2.2.2 (by have:=EZ.out; omega) HP.out) | (rw [hw1]; exact maxe EZ.out.2.2.2 (by have:=EZ.out; omega) HP.out),HB6.out,by show _=_; rw [HD.out]; exact (Nat.max_assoc _ _ _).symm⟩,by simp only [intOf]; omega⟩
   | false =>
    rcases HK.out with k5 | k5 | k5 | k5 | k5
    ·rw [k5] at x0
     have HG:Hid (inc (dwn h i) (inc false d)=d+1):=by
      have:dwn h i=true:=by unfold dwn; rw [if_neg (by rw [k5]; decide),if_neg (by rw [k5]; decide)]
      show _=_; rw [this]; rfl
     rw [HG.out] at HD
     clear k5
     by_cases hP:y < z1
     ·have HP:Hid (y < z1):=hP
      go_wp2_with fail
      exact⟨⟨i+1,Nat.max D (d+1),hlt,rfl,by first | exact maxd EZ.out.2.2.2 (by have:=EZ.out; omega) HP.out | (rw [hw2]; exact maxd EZ.out.2.2.2 (by have:=EZ.out; omega) HP.out) | (rw [hw1]; exact maxd EZ.out.2.2.2 (by have:=EZ.out; omega) HP.out),HB6.out,by show _=_; rw [HD.out]; exact (Nat.max_assoc _ _ _).symm⟩,by simp only [intOf]; omega⟩
     ·have HP:Hid (¬ y < z1):=hP
      go_wp2_with fail
      exact⟨⟨i+1,Nat.max D (d+1),hlt,rfl,by first | exact maxe EZ.out.2.2.2 (by have:=EZ.out; omega) HP.out | (rw [hw2]; exact maxe EZ.out.2.2.2 (by have:=EZ.out; omega) HP.out) | (rw [hw1]; exact maxe EZ.out.2.2.2 (by have:=EZ.out; omega) HP.out),HB6.out,by show _=_; rw [HD.out]; exact (Nat.max_assoc _ _ _).symm⟩,by simp only [intOf]; omega⟩
    ·rw [k5] at x0
     have HG:Hid (inc (dwn h i) (inc false d)=d+1):=by
      have:dwn h i=true:=by unfold dwn; rw [if_neg (by rw [k5]; decide),if_neg (by rw [k5]; decide)]
      show _=_; rw [this]; rfl
     rw [HG.out] at HD
     clear k5
     by_cases hP:y < z1
     ·have HP:Hid (y < z1):=hP
      go_wp2_with fail
      exact⟨⟨i+1,Nat.max D (d+1),hlt,rfl,by first | exact maxd EZ.out.2.2.2 (by have:=EZ.out; omega) HP.out | (rw [hw2]; exact maxd EZ.out.2.2.2 (by have:=EZ.out; omega) HP.out) | (rw [hw1]; exact maxd EZ.out.2.2.2 (by have:=EZ.out; omega) HP.out),HB6.out,by show _=_; rw [HD.out]; exact (Nat.max_assoc _ _ _).symm⟩,by simp only [intOf]; omega⟩
     ·have HP:Hid (¬ y < z1):=hP
      go_wp2_with fail
      exact⟨⟨i+1,Nat.max D (d+1),hlt,rfl,by first | exact maxe EZ.out.2.2.2 (by have:=EZ.out; omega) HP.out | (rw [hw2]; exact maxe EZ.out.2.2.2 (by have:=EZ.out; omega) HP.out) | (rw [hw1]; exact maxe EZ.out.2.2.2 (by have:=EZ.out; omega) HP.out),HB6.out,by show _=_; rw [HD.out]; exact (Nat.max_assoc _ _ _).symm⟩,by simp only [intOf]; omega⟩
    ·rw [k5] at x0
     have HG:Hid (inc (dwn h i) (inc false d)=d+1):=by
      have:dwn h i=true:=by unfold dwn; rw [if_neg (by rw [k5]; decide),if_neg (by rw [k5]; decide)]
      show _=_; rw [this]; rfl
     rw [HG.out] at HD
     clear k5
     by_cases hP:y < z1
     ·have HP:Hid (y < z1):=hP
      go_wp2_with fail
      exact⟨⟨i+1,Nat.max D (d+1),hlt,rfl,by first | exact maxd EZ.out.2.2.2 (by have:=EZ.out; omega) HP.out | (rw [hw2]; exact maxd EZ.out.2.2.2 (by have:=EZ.out; omega) HP.out) | (rw [hw1]; exact maxd EZ.out.2.2.2 (by have:=EZ.out; omega) HP.out),HB6.out,by show _=_; rw [HD.out]; exact (Nat.max_assoc _ _ _).symm⟩,by simp only [intOf]; omega⟩
     ·have HP:Hid (¬ y < z1):=hP
      go_wp2_with fail
      exact⟨⟨i+1,Nat.max D (d+1),hlt,rfl,by first | exact maxe EZ.out.2.2.2 (by have:=EZ.out; omega) HP.out | (rw [hw2]; exact maxe EZ.out.2.2.2 (by have:=EZ.out; omega) HP.out) | (rw [hw1]; exact maxe EZ.out.2.2.2 (by have:=EZ.out; omega) HP.out),HB6.out,by show _=_; rw [HD.out]; exact (Nat.max_assoc _ _ _).symm⟩,by simp only [intOf]; omega⟩
    ·rw [k5] at x0
     by_cases i0:0 < i
     ·have HIP:Hid (0 < i):=i0
      have i1:(0:Int) < (i:Int):=by omega
      have HG:Hid (inc (dwn h i) (inc false d)=d+1):=by
       have:dwn h i=true:=by unfold dwn; rw [if_neg (by rw [k5]; decide),if_pos k5]; have:=HIP.out; exact decide_eq_true (by omega)
       show _=_; rw [this]; rfl
      rw [HG.out] at HD
      clear k5
      by_cases hP:y < z1
      ·have HP:Hid (y < z1):=hP
       go_wp2_with fail
       exact⟨⟨i+1,Nat.max D (d+1),hlt,rfl,by first | exact maxd EZ.out.2.2.2 (by have:=EZ.out; omega) HP.out | (rw [hw2]; exact maxd EZ.out.2.2.2 (by have:=EZ.out; omega) HP.out) | (rw [hw1]; exact maxd EZ.out.2.2.2 (by have:=EZ.out; omega) HP.out),HB6.out,by show _=_; rw [HD.out]; exact (Nat.max_assoc _ _ _).symm⟩,by simp only [intOf]; omega⟩
      ·have HP:Hid (¬ y < z1):=hP
       go_wp2_with fail
       exact⟨⟨i+1,Nat.max D (d+1),hlt,rfl,by first | exact maxe EZ.out.2.2.2 (by have:=EZ.out; omega) HP.out | (rw [hw2]; exact maxe EZ.out.2.2.2 (by have:=EZ.out; omega) HP.out) | (rw [hw1]; exact maxe EZ.out.2.2.2 (by have:=EZ.out; omega) HP.out),HB6.out,by show _=_; rw [HD.out]; exact (Nat.max_assoc _ _ _).symm⟩,by simp only [intOf]; omega⟩
     ·have HIP:Hid (¬ 0 < i):=i0
      have i1:¬ (0:Int) < (i:Int):=by omega
      have HG:Hid (inc (dwn h i) (inc false d)=d):=by
       have:dwn h i=false:=by unfold dwn; rw [if_neg (by rw [k5]; decide),if_pos k5]; have:=HIP.out; exact decide_eq_false (by omega)
       show _=_; rw [this]; rfl
      rw [HG.out] at HD
      clear k5
      by_cases hP:y < z
      ·have HP:Hid (y < z):=hP
       go_wp2_with fail
       exact⟨⟨i+1,Nat.max D (d),hlt,rfl,by first | exact maxd EZ.out.2.2.2 (by have:=EZ.out; omega) HP.out | (rw [hw2]; exact maxd EZ.out.2.2.2 (by have:=EZ.out; omega) HP.out) | (rw [hw1]; exact maxd EZ.out.2.2.2 (by have:=EZ.out; omega) HP.out),HB6.out,by show _=_; rw [HD.out]; exact (Nat.max_assoc _ _ _).symm⟩,by simp only [intOf]; omega⟩
      ·have HP:Hid (¬ y < z):=hP
       go_wp2_with fail
       exact⟨⟨i+1,Nat.max D (d),hlt,rfl,by first | exact maxe EZ.out.2.2.2 (by have:=EZ.out; omega) HP.out | (rw [hw2]; exact maxe EZ.out.2.2.2 (by have:=EZ.out; omega) HP.out) | (rw [hw1]; exact maxe EZ.out.2.2.2 (by have:=EZ.out; omega) HP.out),HB6.out,by show _=_; rw [HD.out]; exact (Nat.max_assoc _ _ _).symm⟩,by simp only [intOf]; omega⟩
    ·rw [k5] at x0
     have HG:Hid (inc (dwn h i) (inc false d)=d):=by
      have:dwn h i=false:=by unfold dwn; rw [if_pos k5]
      show _=_; rw [this]; rfl
     rw [HG.out] at HD
     clear k5
     by_cases hP:y < z
     ·have HP:Hid (y < z):=hP
      go_wp2_with fail
      exact⟨⟨i+1,Nat.max D (d),hlt,rfl,by first | exact maxd EZ.out.2.2.2 (by have:=EZ.out; omega) HP.out | (rw [hw2]; exact maxd EZ.out.2.2.2 (by have:=EZ.out; omega) HP.out) | (rw [hw1]; exact maxd EZ.out.2.2.2 (by have:=EZ.out; omega) HP.out),HB6.out,by show _=_; rw [HD.out]; exact (Nat.max_assoc _ _ _).symm⟩,by simp only [intOf]; omega⟩
     ·have HP:Hid (¬ y < z):=hP
      go_wp2_with fail
      exact⟨⟨i+1,Nat.max D (d),hlt,rfl,by first | exact maxe EZ.out.2.2.2 (by have:=EZ.out; omega) HP.out | (rw [hw2]; exact maxe EZ.out.2.2.2 (by have:=EZ.out; omega) HP.out) | (rw [hw1]; exact maxe EZ.out.2.2.2 (by have:=EZ.out; omega) HP.out),HB6.out,by show _=_; rw [HD.out]; exact (Nat.max_assoc _ _ _).symm⟩,by simp only [intOf]; omega⟩
  ·obtain rfl:i=ks.length:=by omega
   have hnot:¬ (ks.length:Int) < (ks.length:Int):=by omega
   have HE:Hid (dep (.mk h a c ks)=D):=by show deps h 0 ks=_; rw [HR.out,List.drop_length]; show Nat.max D 0=D; simp
   have x6:wr.cell? ⟨w§,6,none⟩=some (.slice a ks.length c):=HNR.out.eight.2.2.2.2.2.2.1
   clear HR
   go_wp2_with fail
   go_ret
   exact⟨by rw [HE.out]; rfl,HBR.out⟩
set_option maxRecDepth 100000 in
set_option maxHeartbeats 2000000 in
theorem rf_name_any' (s:ByteArray) (hs:s.size≤140737488355329) (w:World):Calls zG 71 #[.string s] w fun e w'=>e=.returned (.bool (nameB s))∧Below w§ w w':=by
 have cW:=rf_word_any s w
 cases hW:isW s
 ·rw [hW] at cW
  by_cases h1:1≤s.size
  ·by_cases h2:s.size≤16
   ·have hr:=rest_at s 0 (by omega)
    obtain⟨c,hc⟩:∃ c,s[0]=c:=⟨_,rfl⟩
    rw [hc] at hr
    have h1':¬ (s.size:Int) < 1:=by omega
    have h2':¬ (s.size:Int) > 16:=by omega
    have h3':(0:Int) < (s.size:Int):=by omega
    have h3:0 < s.size:=by omega
    cases hl:letB c
    ·have K:Hid (nameB s=false):=by show _=_; unfold nameB; rw [hr]; simp [hdB,hl]
     clear hr
     go_enter Tryz.func71,Tryz.ntmps71
     go_wp2_with (first | (go_at_call 108; refine cW.mono ?_; rintro _ v ⟨rfl,bb⟩) | (go_at_call 109; refine (rf_letter_b hl _).mono ?_; rintro _ v2 ⟨rfl,e⟩; obtain rfl:=e.symm))
     go_ret
     exact⟨retB K.out.symm,bb⟩
    ·have HK:Hid (nameB s=decide (lead goB (rest s 0)=s.size)):=by show _=_; unfold nameB; rw [hW]; simp [hr,hdB,hl,h1,h2]
     clear hr
     go_enter Tryz.func71,Tryz.ntmps71
     go_wp2_with (first | (go_at_call 108; refine cW.mono ?_; rintro _ v ⟨rfl,bb⟩) | (go_at_call 109; refine (rf_letter_b hl _).mono ?_; rintro _ v2 ⟨rfl,e⟩; obtain rfl:=e.symm))
     go_loop [4] (fun t=>∃ i:Nat,i≤s.size∧t=zI i∧Hid (lead goB (rest s 0)=i+lead goB (rest s i))) (fun t=>s.size - (intOf t).toNat)
     case atStart=>exact⟨0,Nat.zero_le _,rfl,by show _=_; omega⟩
     case round =>
      obtain⟨i,hi,rfl,HR⟩:=hrel
      by_cases hlt:i < s.size
      ·have hlt':(i:Int) < (s.size:Int):=by omega
       have hr:=rest_at s i hlt
       obtain⟨d,hd⟩:∃ d,s[i]=d:=⟨_,rfl⟩
       rw [hd] at hr
       cases hg:goB d
       ·have K:Hid (nameB s=false):=by
         show _=_
         rw [HK.out,HR.out,hr,lead,if_neg (by rw [hg]; decide)]
         exact decide_eq_false (by omega)
        clear hr HR HK
        go_wp2_with (go_at_call 110; refine (rf_goes_b hg _).mono ?_; rintro _ v2 ⟨rfl,e⟩; obtain rfl:=e.symm)
        go_ret
        exact⟨retB K.out.symm,bb⟩
       ·have hs2:Hid (lead goB (rest s 0)=(i+1)+lead goB (rest s (i+1))):=by
         show _=_
         rw [HR.out,hr,lead,if_pos hg]; omega
        clear hr HR
        go_wp2_with (go_at_call 110; refine (rf_goes_b hg _).mono ?_; rintro _ v2 ⟨rfl,e⟩; obtain rfl:=e.symm)
        exact⟨⟨i+1,by omega,by go_num,hs2⟩,by simp only [intOf]; omega⟩
      ·have hie:i=s.size:=by omega
       subst hie
       have K:Hid (nameB s=true):=by
        show _=_
        have:rest s s.size = []:=by
         apply List.eq_nil_of_length_eq_zero
         rw [rest_len]; omega
        rw [HK.out,HR.out,this]
        exact decide_eq_true rfl
       have hlt':¬ (s.size:Int) < (s.size:Int):=by omega
       clear HR HK
       go_wp2
       go_ret
       exact⟨retB K.out.symm,bb⟩
   ·have K:Hid (nameB s=false):=by show _=_; unfold nameB; simp [h2]
    have h1':¬ (s.size:Int) < 1:=by omega
    have h2':(s.size:Int) > 16:=by omega
    go_enter Tryz.func71,Tryz.ntmps71
    go_wp2_with (first | (go_at_call 108; refine cW.mono ?_; rintro _ v ⟨rfl,bb⟩))
    go_ret
    exact⟨retB K.out.symm,bb⟩
  ·have K:Hid (nameB s=false):=by show _=_; unfold nameB; simp [h1]
   have h1':(s.size:Int) < 1:=by omega
   go_enter Tryz.func71,Tryz.ntmps71
   go_wp2_with (first | (go_at_call 108; refine cW.mono ?_; rintro _ v ⟨rfl,bb⟩))
   go_ret
   exact⟨retB K.out.symm,bb⟩
 ·rw [hW] at cW
  have K:Hid (nameB s=false):=by show _=_; unfold nameB; rw [hW]; rfl
  go_enter Tryz.func71,Tryz.ntmps71
  go_wp2_with (first | (go_at_call 108; refine cW.mono ?_; rintro _ v ⟨rfl,bb⟩))
  go_ret
  exact⟨retB K.out.symm,bb⟩
theorem rf_name_any (s:ByteArray) (hs:s.size≤140737488355328) (w:World):Calls zG 71 #[.string s] w fun e w'=>e=.returned (.bool (nameB s))∧Below w§ w w':=rf_name_any' s (by omega) w
theorem empt (x:ByteArray):x.toList.isEmpty=decide (x=⟨#[]⟩):=(decide_eq_emptyBytes x).symm
def zeB (o t n f:Int) (x:ByteArray):Bool:=(o == 0) && ((t == 0) && ((n == 0) && ((f == 0) && x.toList.isEmpty)))
theorem zero_any (k o t n f:Int) (x:ByteArray) (a:Option Addr) (l c:Nat) (p:Int) (w:World):Calls zG 151 #[.agg #[zU k,zU o,zU t,zI n,zU f,.string x,.slice a l c,zI p]] w fun e w'=>e=.returned (.bool (zeB o t n f x))∧Below w§ w w':=by
 cases h1:(o == 0) with
 | false =>
  have HE:Hid (zeB o t n f x=false):=by show _=_; simp [zeB,h1]
  go_enter Tryz.func151,Tryz.ntmps151
  go_wp2_with fail
  go_ret
  exact⟨by rw [HE.out]; rfl,below_new _ _⟩
 | true =>
  cases h2:(t == 0) with
  | false =>
   have HE:Hid (zeB o t n f x=false):=by show _=_; simp [zeB,h1,h2]
   go_enter Tryz.func151,Tryz.ntmps151
   go_wp2_with fail
   go_ret
   exact⟨by rw [HE.out]; rfl,below_new _ _⟩
  | true =>
   cases h3:(n == 0) with
   | false =>
    have HE:Hid (zeB o t n f x=false):=by show _=_; simp [zeB,h1,h2,h3]
    go_enter Tryz.func151,Tryz.ntmps151
    go_wp2_with fail
    go_ret
    exact⟨by rw [HE.out]; rfl,below_new _ _⟩
   | true =>
    cases h4:(f == 0) with
    | false =>
     have HE:Hid (zeB o t n f x=false):=by show _=_; simp [zeB,h1,h2,h3,h4]
     go_enter Tryz.func151,Tryz.ntmps151
     go_wp2_with fail
     go_ret
     exact⟨by rw [HE.out]; rfl,below_new _ _⟩
    | true =>
     cases h5:(x.toList.isEmpty) with
     | false =>
      have HE:Hid (zeB o t n f x=false):=by show _=_; simp [zeB,h1,h2,h3,h4,h5]
      go_enter Tryz.func151,Tryz.ntmps151
      go_wp2_with fail
      go_ret
      exact⟨by rw [HE.out]; rfl,below_new _ _⟩
     | true =>
      have HE:Hid (zeB o t n f x=true):=by show _=_; simp [zeB,h1,h2,h3,h4,h5]
      go_enter Tryz.func151,Tryz.ntmps151
      go_wp2_with fail
      go_ret
      exact⟨by rw [HE.out]; rfl,below_new _ _⟩
theorem litB_eq (t n:Int):litB t n=if t == 1 then decide (0≤n) else if t == 2 then decide (0≤n) else if t == 3 then decide (0≤n) else if t == 4 then decide (0≤n) else if t == 5 then ((n == 0) || (n == 1)) else if t == 6 then ((n == 1) || (n == 2)) else false:=by
 unfold litB numB
 by_cases h1:t=1
 ·subst h1; simp
 by_cases h2:t=2
 ·subst h2; simp
 by_cases h3:t=3
 ·subst h3; simp
 by_cases h4:t=4
 ·subst h4; simp
 by_cases h5:t=5
 ·subst h5; simp; rw [Bool.eq_iff_iff]; simp; omega
 by_cases h6:t=6
 ·subst h6; simp; rw [Bool.eq_iff_iff]; simp; omega
 simp [h1,h2,h3,h4,h5,h6]
 omega
def liR (o t n f:Int) (x:ByteArray) (l:Nat):Bool:=litB t n && (zeB o 0 0 f x && ((l:Int) == 0))
theorem liR_eq (o t n f:Int) (x:ByteArray) (l:Nat):liR o t n f x l=((if t == 1 then decide (0≤n) else if t == 2 then decide (0≤n) else if t == 3 then decide (0≤n) else if t == 4 then decide (0≤n) else if t == 5 then ((n == 0) || (n == 1)) else if t == 6 then ((n == 1) || (n == 2)) else false) && (zeB o 0 0 f x && ((l:Int) == 0))):=by unfold liR; rw [litB_eq]
set_option maxRecDepth 100000 in
set_option maxHeartbeats 8000000 in
theorem literal_any (k o t n f:Int) (x:ByteArray) (a:Option Addr) (l c:Nat) (p:Int) (w:World):Calls zG 150 #[.agg #[zU k,zU o,zU t,zI n,zU f,.string x,.slice a l c,zI p]] w fun e w'=>e=.returned (.bool (liR o t n f x l))∧Below w§ w w':=by
 cases t1:(t == 1) with
 | false =>
  cases t2:(t == 2) with
  | false =>
   cases t3:(t == 3) with
   | false =>
    cases t4:(t == 4) with
    | false =>
     cases t5:(t == 5) with
     | false =>
      cases t6:(t == 6) with
      | false =>
       have HE:Hid (liR o t n f x l=false):=by show _=_; rw [liR_eq]; simp [t1,t2,t3,t4,t5,t6]
       go_enter Tryz.func150,Tryz.ntmps150
       go_wp2_with fail
       go_ret
       exact⟨by rw [HE.out]; rfl,below_new _ _⟩
      | true =>
       cases m1:(n == 1) with
       | false =>
        cases m2:(n == 2) with
        | false =>
         have HE:Hid (liR o t n f x l=false):=by show _=_; rw [liR_eq]; simp [t1,t2,t3,t4,t5,t6,m1,m2]
         go_enter Tryz.func150,Tryz.ntmps150
         go_wp2_with fail
         go_ret
         exact⟨by rw [HE.out]; rfl,below_new _ _⟩
        | true =>
         go_enter Tryz.func150,Tryz.ntmps150
         go_wp2_with fail
         refine (zero_any _ _ _ _ _ _ _ _ _ _ _).mono ?_
         rintro e w5 ⟨rfl,hb5⟩
         have HB5:Hid (Below w§ w w5):=below2 (below_new _ _) hb5
         have g6:w5.cell? ⟨w§,6,none⟩=some (.slice a l c):=cell_of ((hb5.block _ (Array.getElem?_eq_some_iff.1 (heap_new _ _)).1).trans (heap_new _ _)) 6
         clear hb5
         cases hz:(zeB o 0 0 f x) with
         | false =>
          have HE:Hid (liR o t n f x l=false):=by show _=_; rw [liR_eq]; simp [t1,t2,t3,t4,t5,t6,m1,m2,hz]
          go_wp2_with fail
          go_ret
          exact⟨by rw [HE.out]; rfl,HB5.out⟩
         | true =>
          cases hl:((l:Int) == 0) with
          | false =>
           have HE:Hid (liR o t n f x l=false):=by show _=_; rw [liR_eq]; simp [t1,t2,t3,t4,t5,t6,m1,m2,hz,hl]
           go_wp2_with fail
           go_ret
           exact⟨by rw [HE.out]; rfl,HB5.out⟩
          | true =>
           have HE:Hid (liR o t n f x l=true):=by show _=_; rw [liR_eq]; simp [t1,t2,t3,t4,t5,t6,m1,m2,hz,hl]
           go_wp2_with fail
           go_ret
           exact⟨by rw [HE.out]; rfl,HB5.out⟩
       | true =>
        go_enter Tryz.func150,Tryz.ntmps150
        go_wp2_with fail
        refine (zero_any _ _ _ _ _ _ _ _ _ _ _).mono ?_
        rintro e w5 ⟨rfl,hb5⟩
        have HB5:Hid (Below w§ w w5):=below2 (below_new _ _) hb5
        have g6:w5.cell? ⟨w§,6,none⟩=some (.slice a l c):=cell_of ((hb5.block _ (Array.getElem?_eq_some_iff.1 (heap_new _ _)).1).trans (heap_new _ _)) 6
        clear hb5
        cases hz:(zeB o 0 0 f x) with
        | false =>
         have HE:Hid (liR o t n f x l=false):=by show _=_; rw [liR_eq]; simp [t1,t2,t3,t4,t5,t6,m1,hz]
         go_wp2_with fail
         go_ret
         exact⟨by rw [HE.out]; rfl,HB5.out⟩
        | true =>
         cases hl:((l:Int) == 0) with
         | false =>
          have HE:Hid (liR o t n f x l=false):=by show _=_; rw [liR_eq]; simp [t1,t2,t3,t4,t5,t6,m1,hz,hl]
          go_wp2_with fail
          go_ret
          exact⟨by rw [HE.out]; rfl,HB5.out⟩
         | true =>
          have HE:Hid (liR o t n f x l=true):=by show _=_; rw [liR_eq]; simp [t1,t2,t3,t4,t5,t6,m1,hz,hl]
          go_wp2_with fail
          go_ret
          exact⟨by rw [HE.out]; rfl,HB5.out⟩
     | true =>
      cases m0:(n == 0) with
      | false =>
       cases m1:(n == 1) with
       | false =>
        have HE:Hid (liR o t n f x l=false):=by show _=_; rw [liR_eq]; simp [t1,t2,t3,t4,t5,m0,m1]
        go_enter Tryz.func150,Tryz.ntmps150
        go_wp2_with fail
        go_ret
        exact⟨by rw [HE.out]; rfl,below_new _ _⟩
       | true =>
        go_enter Tryz.func150,Tryz.ntmps150
        go_wp2_with fail
        refine (zero_any _ _ _ _ _ _ _ _ _ _ _).mono ?_
        rintro e w5 ⟨rfl,hb5⟩
        have HB5:Hid (Below w§ w w5):=below2 (below_new _ _) hb5
        have g6:w5.cell? ⟨w§,6,none⟩=some (.slice a l c):=cell_of ((hb5.block _ (Array.getElem?_eq_some_iff.1 (heap_new _ _)).1).trans (heap_new _ _)) 6
        clear hb5
        cases hz:(zeB o 0 0 f x) with
        | false =>
         have HE:Hid (liR o t n f x l=false):=by show _=_; rw [liR_eq]; simp [t1,t2,t3,t4,t5,m0,m1,hz]
         go_wp2_with fail
         go_ret
         exact⟨by rw [HE.out]; rfl,HB5.out⟩
        | true =>
         cases hl:((l:Int) == 0) with
         | false =>
          have HE:Hid (liR o t n f x l=false):=by show _=_; rw [liR_eq]; simp [t1,t2,t3,t4,t5,m0,m1,hz,hl]
          go_wp2_with fail
          go_ret
          exact⟨by rw [HE.out]; rfl,HB5.out⟩
         | true =>
          have HE:Hid (liR o t n f x l=true):=by show _=_; rw [liR_eq]; simp [t1,t2,t3,t4,t5,m0,m1,hz,hl]
          go_wp2_with fail
          go_ret
          exact⟨by rw [HE.out]; rfl,HB5.out⟩
      | true =>
       go_enter Tryz.func150,Tryz.ntmps150
       go_wp2_with fail
       refine (zero_any _ _ _ _ _ _ _ _ _ _ _).mono ?_
       rintro e w5 ⟨rfl,hb5⟩
       have HB5:Hid (Below w§ w w5):=below2 (below_new _ _) hb5
       have g6:w5.cell? ⟨w§,6,none⟩=some (.slice a l c):=cell_of ((hb5.block _ (Array.getElem?_eq_some_iff.1 (heap_new _ _)).1).trans (heap_new _ _)) 6
       clear hb5
       cases hz:(zeB o 0 0 f x) with
       | false =>
        have HE:Hid (liR o t n f x l=false):=by show _=_; rw [liR_eq]; simp [t1,t2,t3,t4,t5,m0,hz]
        go_wp2_with fail
        go_ret
        exact⟨by rw [HE.out]; rfl,HB5.out⟩
       | true =>
        cases hl:((l:Int) == 0) with
        | false =>
         have HE:Hid (liR o t n f x l=false):=by show _=_; rw [liR_eq]; simp [t1,t2,t3,t4,t5,m0,hz,hl]
         go_wp2_with fail
         go_ret
         exact⟨by rw [HE.out]; rfl,HB5.out⟩
        | true =>
         have HE:Hid (liR o t n f x l=true):=by show _=_; rw [liR_eq]; simp [t1,t2,t3,t4,t5,m0,hz,hl]
         go_wp2_with fail
         go_ret
         exact⟨by rw [HE.out]; rfl,HB5.out⟩
    | true =>
     cases n4:(decide (0≤n)) with
     | false =>
      have HE:Hid (liR o t n f x l=false):=by show _=_; rw [liR_eq]; simp [t1,t2,t3,t4,n4]
      go_enter Tryz.func150,Tryz.ntmps150
      go_wp2_with fail
      go_ret
      exact⟨by rw [HE.out]; rfl,below_new _ _⟩
     | true =>
      go_enter Tryz.func150,Tryz.ntmps150
      go_wp2_with fail
      refine (zero_any _ _ _ _ _ _ _ _ _ _ _).mono ?_
      rintro e w5 ⟨rfl,hb5⟩
      have HB5:Hid (Below w§ w w5):=below2 (below_new _ _) hb5
      have g6:w5.cell? ⟨w§,6,none⟩=some (.slice a l c):=cell_of ((hb5.block _ (Array.getElem?_eq_some_iff.1 (heap_new _ _)).1).trans (heap_new _ _)) 6
      clear hb5
      cases hz:(zeB o 0 0 f x) with
      | false =>
       have HE:Hid (liR o t n f x l=false):=by show _=_; rw [liR_eq]; simp [t1,t2,t3,t4,n4,hz]
       go_wp2_with fail
       go_ret
       exact⟨by rw [HE.out]; rfl,HB5.out⟩
      | true =>
       cases hl:((l:Int) == 0) with
       | false =>
        have HE:Hid (liR o t n f x l=false):=by show _=_; rw [liR_eq]; simp [t1,t2,t3,t4,n4,hz,hl]
        go_wp2_with fail
        go_ret
        exact⟨by rw [HE.out]; rfl,HB5.out⟩
       | true =>
        have HE:Hid (liR o t n f x l=true):=by show _=_; rw [liR_eq]; simp [t1,t2,t3,t4,n4,hz,hl]
        go_wp2_with fail
        go_ret
        exact⟨by rw [HE.out]; rfl,HB5.out⟩
   | true =>
    cases n3:(decide (0≤n)) with
    | false =>
     have HE:Hid (liR o t n f x l=false):=by show _=_; rw [liR_eq]; simp [t1,t2,t3,n3]
     go_enter Tryz.func150,Tryz.ntmps150
     go_wp2_with fail
     go_ret
     exact⟨by rw [HE.out]; rfl,below_new _ _⟩
    | true =>
     go_enter Tryz.func150,Tryz.ntmps150
     go_wp2_with fail
     refine (zero_any _ _ _ _ _ _ _ _ _ _ _).mono ?_
     rintro e w5 ⟨rfl,hb5⟩
     have HB5:Hid (Below w§ w w5):=below2 (below_new _ _) hb5
     have g6:w5.cell? ⟨w§,6,none⟩=some (.slice a l c):=cell_of ((hb5.block _ (Array.getElem?_eq_some_iff.1 (heap_new _ _)).1).trans (heap_new _ _)) 6
     clear hb5
     cases hz:(zeB o 0 0 f x) with
     | false =>
      have HE:Hid (liR o t n f x l=false):=by show _=_; rw [liR_eq]; simp [t1,t2,t3,n3,hz]
      go_wp2_with fail
      go_ret
      exact⟨by rw [HE.out]; rfl,HB5.out⟩
     | true =>
      cases hl:((l:Int) == 0) with
      | false =>
       have HE:Hid (liR o t n f x l=false):=by show _=_; rw [liR_eq]; simp [t1,t2,t3,n3,hz,hl]
       go_wp2_with fail
       go_ret
       exact⟨by rw [HE.out]; rfl,HB5.out⟩
      | true =>
       have HE:Hid (liR o t n f x l=true):=by show _=_; rw [liR_eq]; simp [t1,t2,t3,n3,hz,hl]
       go_wp2_with fail
       go_ret
       exact⟨by rw [HE.out]; rfl,HB5.out⟩
  | true =>
   cases n2:(decide (0≤n)) with
   | false =>
    have HE:Hid (liR o t n f x l=false):=by show _=_; rw [liR_eq]; simp [t1,t2,n2]
    go_enter Tryz.func150,Tryz.ntmps150
    go_wp2_with fail
    go_ret
    exact⟨by rw [HE.out]; rfl,below_new _ _⟩
   | true =>
    go_enter Tryz.func150,Tryz.ntmps150
    go_wp2_with fail
    refine (zero_any _ _ _ _ _ _ _ _ _ _ _).mono ?_
    rintro e w5 ⟨rfl,hb5⟩
    have HB5:Hid (Below w§ w w5):=below2 (below_new _ _) hb5
    have g6:w5.cell? ⟨w§,6,none⟩=some (.slice a l c):=cell_of ((hb5.block _ (Array.getElem?_eq_some_iff.1 (heap_new _ _)).1).trans (heap_new _ _)) 6
    clear hb5
    cases hz:(zeB o 0 0 f x) with
    | false =>
     have HE:Hid (liR o t n f x l=false):=by show _=_; rw [liR_eq]; simp [t1,t2,n2,hz]
     go_wp2_with fail
     go_ret
     exact⟨by rw [HE.out]; rfl,HB5.out⟩
    | true =>
     cases hl:((l:Int) == 0) with
     | false =>
      have HE:Hid (liR o t n f x l=false):=by show _=_; rw [liR_eq]; simp [t1,t2,n2,hz,hl]
      go_wp2_with fail
      go_ret
      exact⟨by rw [HE.out]; rfl,HB5.out⟩
     | true =>
      have HE:Hid (liR o t n f x l=true):=by show _=_; rw [liR_eq]; simp [t1,t2,n2,hz,hl]
      go_wp2_with fail
      go_ret
      exact⟨by rw [HE.out]; rfl,HB5.out⟩
 | true =>
  cases n1:(decide (0≤n)) with
  | false =>
   have HE:Hid (liR o t n f x l=false):=by show _=_; rw [liR_eq]; simp [t1,n1]
   go_enter Tryz.func150,Tryz.ntmps150
   go_wp2_with fail
   go_ret
   exact⟨by rw [HE.out]; rfl,below_new _ _⟩
  | true =>
   go_enter Tryz.func150,Tryz.ntmps150
   go_wp2_with fail
   refine (zero_any _ _ _ _ _ _ _ _ _ _ _).mono ?_
   rintro e w5 ⟨rfl,hb5⟩
   have HB5:Hid (Below w§ w w5):=below2 (below_new _ _) hb5
   have g6:w5.cell? ⟨w§,6,none⟩=some (.slice a l c):=cell_of ((hb5.block _ (Array.getElem?_eq_some_iff.1 (heap_new _ _)).1).trans (heap_new _ _)) 6
   clear hb5
   cases hz:(zeB o 0 0 f x) with
   | false =>
    have HE:Hid (liR o t n f x l=false):=by show _=_; rw [liR_eq]; simp [t1,n1,hz]
    go_wp2_with fail
    go_ret
    exact⟨by rw [HE.out]; rfl,HB5.out⟩
   | true =>
    cases hl:((l:Int) == 0) with
    | false =>
     have HE:Hid (liR o t n f x l=false):=by show _=_; rw [liR_eq]; simp [t1,n1,hz,hl]
     go_wp2_with fail
     go_ret
     exact⟨by rw [HE.out]; rfl,HB5.out⟩
    | true =>
     have HE:Hid (liR o t n f x l=true):=by show _=_; rw [liR_eq]; simp [t1,n1,hz,hl]
     go_wp2_with fail
     go_ret
     exact⟨by rw [HE.out]; rfl,HB5.out⟩
end Go.Proofs.YtoogodlnnijikaaGreatDoor
