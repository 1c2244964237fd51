import Derived.Test.YtfbjofnaghjmeaaGreatDoorA6
import Derived.Deep.RegionHeld3
import Derived.Deep.RegionWith
import Derived.WalkLawsBesides
namespace Go.Proofs.YtfbjofnaghjmeaaGreatDoor
open Go.Proofs.Tryz
set_option maxRecDepth 100000
set_option maxHeartbeats 4000000
open Go.RowKit
def endE (ok:Bool) (no:Int):Ending:=if ok=true then .returned (.tuple #[]) else .panicked [{ v:=.iface 41 (zI no),recovered:=false }]
theorem Vg (ok:Bool) (no:Int) (w:yW):Calls zG 158 #[.bool ok,zI no] w fun e w'=>e=endE ok no∧w'=w:=by
 cases ok with
 | true =>
  go_enter func158,ntmps158
  go_wp2_with fail
  go_end0
  exact⟨rfl,rfl⟩
 | false =>
  go_enter func158,ntmps158
  go_wp2_with fail
  exact⟨rfl,rfl,rfl⟩
def GB (X v:yW):Prop:=yD X v
theorem GB.refl (X:yW):GB X X:=Below.refl _ X
theorem GB.drew {X v:yW}(h:GB X v):GB X v.drew:=Below.drew h
theorem GB.alloc {X v:yW}(h:GB X v) (o:Obj):GB X (v.alloc o):=Below.alloc h h.size o
theorem GB.call {X u v:yW}(k:yD u v) (h:GB X u):GB X v:=Below.trans h (k.mono h.size)
theorem J9 {Q P:yW→Prop}{v:yW}(h:P v) (k:∀ v',P v'→Q v'):Q v:=k v h
theorem Hx (no:Int) (w:yW):Calls zG 158 #[.bool true,zI no] w fun e w'=>e=.returned (.tuple #[])∧w'=w:=Vg true no w
theorem Vf (no:Int) (w:yW):Calls zG 158 #[.bool false,zI no] w fun e w'=>e=.panicked [{ v:=.iface 41 (zI no),recovered:=false }]∧w'=w:=Vg false no w
theorem Tab.gb {X v:yW}(h:Tab X) (k:GB X v):Tab v:=h.on k
structure KN (X:yW) (M B:Nat) (m:Nd):Prop where
 s:SfH X M m.h
 n:NdH X B m
theorem KN.hid {X:yW}{M B:Nat}{m:Nd}(h:KN X M B m):Hid (KN X M B m):=h
theorem KN.keep {X v:yW}{M B:Nat}{m:Nd}(h:KN X M B m) (k:GB X v):zQ v M¢0 (zU m.h.k)∧zQ v M¢1 (zU m.h.o)∧zQ v M¢2 (zU m.h.t)∧zQ v M¢3 (zI m.h.n)∧zQ v M¢4 (zU m.h.f)∧zQ v M¢5 (.string m.h.x)∧zQ v B¢6 (.slice m.a m.ks.length m.c)∧GB X v:=by
 obtain⟨a0,a1,a2,a3,a4,a5⟩:=(h.s.on k).cells
 exact⟨a0,a1,a2,a3,a4,a5,(h.n.on k).at.c6,k⟩
theorem neq6 {h g:Hd}(e:Jw h g=false):h.k=g.k→h.o=g.o→h.t=g.t→h.n=g.n→h.f=g.f→¬h.x.toList=g.x.toList:=by
 intro h0 h1 h2 h3 h4 h6
 by_cases h5:h.x=g.x
 ·unfold Jw at e
  simp [h0,h1,h2,h3,h4,h5] at e
 ·have:=U0 h5
  simp [h6] at this
theorem QaY {h:Hd}(e:Jw h (nm h)=true):Kd (nm h)=Kd h:=by
 unfold Jw at e
 simp only [Bool.and_eq_true,decide_eq_true_eq] at e
 obtain⟨e0,e1,e2,e3,e4,e5⟩:=e
 unfold Kd
 rw [← e0,← e1,← e2,← e3,← e4,← e5]
theorem QeP:∀ (m:Nd) (w:yW),Lies w m→Tab w→Calls zG 157 #[.agg m.vals] w fun e w'=>e=endE (Qw m) 120∧yD w w':=by
 refine Nd.ind fun h a c ks ih w hl ht=>?_
 have cS:∀ v,Calls zG 185 #[.agg (zX h a ks c)] v fun e w'=>e=.returned (.agg #[zU h.k,zU h.o,zU h.t,zI h.n,zU h.f,.string h.x])∧yD v w':=fun v=>XP h a ks.length c v
 have HI:=zH ih
 have HL:=hl.hid
 have HT:=ht.hid
 have hx:=hl.rg.x1
 obtain⟨A,eA⟩:∃ A,Jw h (nm h)=A:=jV
 clear ih hl ht
 show Calls zG 157 #[.agg (zX h a ks c)] w _
 cases A with
 | true =>
  have cN:∀ v,Calls zG 186 #[.agg #[zU h.k,zU h.o,zU h.t,zI h.n,zU h.f,.string h.x]] v fun e w'=>e=.returned (.agg #[zU h.k,zU h.o,zU h.t,zI h.n,zU h.f,.string h.x])∧yD v w':=fun v=>by
   have:=VT h v
   rw [QaY eA] at this
   exact this
  obtain⟨B,eB⟩:∃ B,fitB h ks.length=B:=jV
  have cF:∀ v,Tab v→Calls zG 187 #[.agg #[zU h.k,zU h.o,zU h.t,zI h.n,zU h.f,.string h.x],zI (ks.length:Int)] v fun e w'=>e=.returned (.bool B)∧yD v w':=fun v hv=>by
   have:=QeU h ks.length hx v hv
   rw [eB] at this
   exact this
  have KA:Hid (oneH h ks.length=B):=by show _=_;unfold oneH;rw [eA,eB];rfl
  clear eA eB hx
  go_enter func157,ntmps157
  go_wp2_with (go_at_call 185;refine (cS _).mono ?_;rintro e w1 ⟨rfl,hb1⟩)
  have hbA:yD w w1:=Qm (Qb w (.cells (zX h a ks c) 38)) hb1
  obtain⟨X,eX⟩:∃ X,w1.alloc (.cells #[zU h.k,zU h.o,zU h.t,zI h.n,zU h.f,.string h.x] 251)=X:=jV
  have hbX:yD w1 X:=by rw [← eX];exact Qb _ _
  have HBX:=zH (Qm hbA hbX)
  have HNX:Hid (NdH X w§ (.mk h a c ks)):=NdH.on (NdH.on (show NdH (w.alloc (.cells (Nd.mk h a c ks).vals 38)) w§ (.mk h a c ks) from Qc _ _) hb1) hbX
  have HKX:Hid (KN X w1§ w§ (.mk h a c ks)):=⟨by rw [← eX];exact Qc _ _,HNX.out⟩
  have HTX:Hid (Tab X):=HT.out.on HBX.out
  rw [eX]
  obtain⟨M,eM⟩:∃ M,w1§=M:=jV
  rw [eM] at HKX ⊢
  clear eM eX hbX hbA hb1 cS
  cases B with
  | true =>
   have KF:Hid (Qw (.mk h a c ks)=Q1 ks):=by show (oneH h ks.length && Q1 ks)=_;rw [KA.out];rfl
   refine wp_region_held_drew (S:=(fun v=>zQ v M¢0 (zU h.k)∧zQ v M¢1 (zU h.o)∧zQ v M¢2 (zU h.t)∧zQ v M¢3 (zI h.n)∧zQ v M¢4 (zU h.f)∧zQ v M¢5 (.string h.x)∧zQ v w§¢6 (.slice a ks.length c)∧GB X v)) zK (HKX.out.keep (by (repeat (first | with_reducible assumption | with_reducible exact GB.refl _ | with_reducible apply GB.drew | with_reducible apply GB.alloc | with_reducible refine GB.call (by with_reducible assumption) ?_)))) (fun hHeld=>?_)
   refine zTa 0
   rotate_left
   ·(intro w hSw;(try dsimp only at hSw);go_simp;try (with_reducible rfl))
   try simp [Act.put]
   refine zTa 1
   rotate_left
   ·(intro w hSw;(try dsimp only at hSw);go_simp;try (with_reducible rfl))
   try simp [Act.put]
   refine wpAnyH_ready (rs:=[2]) zK (by simp) ?_
   refine AllReadyH.cons rfl (fun K hK=>?_) AllReadyH.nil
   go_simp
   refine (cN _).mono ?_
   rintro e w2 ⟨rfl,hb2⟩
   have hg2:GB X w2:=GB.call hb2 (by (repeat (first | with_reducible assumption | with_reducible exact GB.refl _ | with_reducible apply GB.drew | with_reducible apply GB.alloc | with_reducible refine GB.call (by with_reducible assumption) ?_)))
   have HG2:Hid (GB X w2):=hg2
   go_simp
   refine hK.out _ _ ?_ (fun hHeld=>?_)
   ·exact HKX.out.keep hg2
   clear hK K
   try simp [Act.put]
   refine zTa 3
   rotate_left
   ·(intro w hSw;(try dsimp only at hSw);go_simp;try (with_reducible rfl))
   try simp [Act.put]
   refine zTa 4
   rotate_left
   ·(intro w hSw;(try dsimp only at hSw);go_simp;try (with_reducible rfl))
   try simp [Act.put]
   refine zTa 5
   rotate_left
   ·(intro w hSw;(try dsimp only at hSw);go_simp;try (with_reducible rfl))
   try simp [Act.put]
   refine zTa 6
   rotate_left
   ·(intro w hSw;(try dsimp only at hSw);go_simp;try (with_reducible rfl))
   try simp [Act.put]
   refine zTa 7
   rotate_left
   ·(intro w hSw;(try dsimp only at hSw);go_simp;try (with_reducible rfl))
   try simp [Act.put]
   refine zTa 8
   rotate_left
   ·(intro w hSw;(try dsimp only at hSw);go_simp;try (with_reducible rfl))
   try simp [Act.put]
   refine wpAnyH_ready (rs:=[9]) zK (by simp) ?_
   refine AllReadyH.cons rfl (fun K hK=>?_) AllReadyH.nil
   go_simp
   refine (cF _ (HTX.out.gb HG2.out)).mono ?_
   rintro e w3 ⟨rfl,hb3⟩
   have hg3:GB X w3:=GB.call hb3 HG2.out
   have HG3:Hid (GB X w3):=hg3
   go_simp
   refine hK.out _ _ ?_ (fun hHeld=>?_)
   ·exact HKX.out.keep hg3
   clear hK K
   try simp [Act.put]
   refine zTa 10
   rotate_left
   ·(intro w hSw;(try dsimp only at hSw);go_simp;try (with_reducible rfl))
   try simp [Act.put]
   refine wpAnyH_ready (rs:=[11]) zK (by simp) ?_
   refine AllReadyH.cons rfl (fun K hK=>?_) AllReadyH.nil
   go_simp
   refine (Hx 120 _).mono ?_
   rintro e w4 ⟨rfl,e4⟩
   obtain rfl:=e4.symm
   go_simp
   refine hK.out _ _ ?_ (fun hHeld=>?_)
   ·exact HKX.out.keep HG3.out
   clear hK K
   try simp [Act.put]
   refine wpAnyH_done zK ?_ _
   have HBV:=zH (Qm HBX.out HG3.out)
   have HNV:=zH (HNX.out.on HG3.out)
   have v6:zQ w3 w§¢6 (.slice a ks.length c):=HNV.out.at.c6
   clear hHeld hb2 hb3 hg2 hg3 cN cF
   go_wp2_with fail
   go_loopw [22] (fun t wr=>∃ i:Nat,i≤ks.length∧t=zI i∧yD w wr∧Hid (Q1 ks=Q1 (ks.drop i))) (fun t _=>ks.length - (intOf t).toNat)
   case atStart=>exact⟨0,by omega,rfl,HBV.out,rfl⟩
   case round =>
    obtain⟨i,hi,rfl,hbr,HR⟩:=hrel
    have HBR:=zH hbr
    clear hbr
    by_cases hlt:i < ks.length
    ·have hlt':(i:Int) < (ks.length:Int):=by omega
     have hmx:(i:Int)+1≤jX:=by
      have h1:=HL.out.max
      have h2:=HL.out.cap
      simp only [Nd.ks,Nd.c] at h1 h2
      omega
     obtain⟨b,o,e,hat⟩:=(HL.out.on HBR.out).kid i hlt
     have e:a=some b¢o:=e
     subst e
     have cI:=HI.out ks[i] (Ja hlt)
     have HLk:Hid (Lies w ks[i]):=HL.out.sub ks[i] (Ja hlt)
     obtain⟨k,ek⟩:∃ k,ks[i]=k:=jV
     have hat:NdAt wr b (o+i * 8) k:=by rw [← ek];exact hat
     rw [ek] at cI HLk
     have HD:Hid (Q1 ks=(Qw k && Q1 (ks.drop (i+1)))):=by show _=_;rw [HR.out,Kf hlt,ek];rfl
     obtain⟨y0,y1,y2,y3,y4,y5,y6,y7⟩:=hat
     obtain⟨B,eB⟩:∃ B,Qw k=B:=jV
     rw [eB] at HD cI
     clear ek eB HR
     unfold Nd.vals hdA at cI
     cases B with
     | true =>
      have cI:∀ v,Lies v k→Tab v→Calls zG 157 #[.agg (zV k)] v fun e w'=>e=.returned (.tuple #[])∧yD v w':=cI
      go_wp2_with (go_at_call 157;refine (cI _ (HLk.out.on (Qm HBR.out (Qb _ _))) (HT.out.on (Qm HBR.out (Qb _ _)))).mono ?_;rintro e w5 ⟨rfl,hb5⟩)
      have HB5:Hid (yD w w5):=Qm (Qm HBR.out (Qb _ _)) hb5
      clear hb5
      go_wp2_with fail
      exact⟨⟨i+1,hlt,rfl,HB5.out,by show _=_;rw [HD.out];rfl⟩,by simp only [intOf];omega⟩
     | false =>
      have cI:∀ v,Lies v k→Tab v→Calls zG 157 #[.agg (zV k)] v fun e w'=>e=.panicked [{ v:=.iface 41 (zI 120),recovered:=false }]∧yD v w':=cI
      go_wp2_with (go_at_call 157;refine (cI _ (HLk.out.on (Qm HBR.out (Qb _ _))) (HT.out.on (Qm HBR.out (Qb _ _)))).mono ?_;rintro e w5 ⟨rfl,hb5⟩)
      exact⟨rfl,by rw [KF.out,HD.out];rfl,Qm (Qm HBR.out (Qb _ _)) hb5⟩
    ·obtain rfl:i=ks.length:=by omega
     have hnot:¬ (ks.length:Int) < (ks.length:Int):=by omega
     have HE:Hid (Q1 ks=true):=by show _=_;rw [HR.out,List.drop_length];rfl
     clear HR
     go_wp2_with fail
     go_end0
     exact⟨by rw [KF.out,HE.out];rfl,HBR.out⟩
  | false =>
   have KF:Hid (Qw (.mk h a c ks)=false):=by show (oneH h ks.length && Q1 ks)=false;rw [KA.out];rfl
   refine wp_region_held_drew (S:=(fun v=>zQ v M¢0 (zU h.k)∧zQ v M¢1 (zU h.o)∧zQ v M¢2 (zU h.t)∧zQ v M¢3 (zI h.n)∧zQ v M¢4 (zU h.f)∧zQ v M¢5 (.string h.x)∧zQ v w§¢6 (.slice a ks.length c)∧GB X v)) zK (HKX.out.keep (by (repeat (first | with_reducible assumption | with_reducible exact GB.refl _ | with_reducible apply GB.drew | with_reducible apply GB.alloc | with_reducible refine GB.call (by with_reducible assumption) ?_)))) (fun hHeld=>?_)
   refine zTa 0
   rotate_left
   ·(intro w hSw;(try dsimp only at hSw);go_simp;try (with_reducible rfl))
   try simp [Act.put]
   refine zTa 1
   rotate_left
   ·(intro w hSw;(try dsimp only at hSw);go_simp;try (with_reducible rfl))
   try simp [Act.put]
   refine wpAnyH_ready (rs:=[2]) zK (by simp) ?_
   refine AllReadyH.cons rfl (fun K hK=>?_) AllReadyH.nil
   go_simp
   refine (cN _).mono ?_
   rintro e w2 ⟨rfl,hb2⟩
   have hg2:GB X w2:=GB.call hb2 (by (repeat (first | with_reducible assumption | with_reducible exact GB.refl _ | with_reducible apply GB.drew | with_reducible apply GB.alloc | with_reducible refine GB.call (by with_reducible assumption) ?_)))
   have HG2:Hid (GB X w2):=hg2
   go_simp
   refine hK.out _ _ ?_ (fun hHeld=>?_)
   ·exact HKX.out.keep hg2
   clear hK K
   try simp [Act.put]
   refine zTa 3
   rotate_left
   ·(intro w hSw;(try dsimp only at hSw);go_simp;try (with_reducible rfl))
   try simp [Act.put]
   refine zTa 4
   rotate_left
   ·(intro w hSw;(try dsimp only at hSw);go_simp;try (with_reducible rfl))
   try simp [Act.put]
   refine zTa 5
   rotate_left
   ·(intro w hSw;(try dsimp only at hSw);go_simp;try (with_reducible rfl))
   try simp [Act.put]
   refine zTa 6
   rotate_left
   ·(intro w hSw;(try dsimp only at hSw);go_simp;try (with_reducible rfl))
   try simp [Act.put]
   refine zTa 7
   rotate_left
   ·(intro w hSw;(try dsimp only at hSw);go_simp;try (with_reducible rfl))
   try simp [Act.put]
   refine zTa 8
   rotate_left
   ·(intro w hSw;(try dsimp only at hSw);go_simp;try (with_reducible rfl))
   try simp [Act.put]
   refine wpAnyH_ready (rs:=[9]) zK (by simp) ?_
   refine AllReadyH.cons rfl (fun K hK=>?_) AllReadyH.nil
   go_simp
   refine (cF _ (HTX.out.gb HG2.out)).mono ?_
   rintro e w3 ⟨rfl,hb3⟩
   have hg3:GB X w3:=GB.call hb3 HG2.out
   have HG3:Hid (GB X w3):=hg3
   go_simp
   refine hK.out _ _ ?_ (fun hHeld=>?_)
   ·exact HKX.out.keep hg3
   clear hK K
   try simp [Act.put]
   refine zTa 10
   rotate_left
   ·(intro w hSw;(try dsimp only at hSw);go_simp;try (with_reducible rfl))
   try simp [Act.put]
   refine wpAnyH_ready (rs:=[11]) zK (by simp) ?_
   refine AllReadyH.cons rfl (fun K hK=>?_) AllReadyH.nil
   go_simp
   refine (Vf 120 _).mono ?_
   rintro e w4 ⟨rfl,e4⟩
   obtain rfl:=e4.symm
   exact⟨rfl,by rw [KF.out];rfl,Qm HBX.out HG3.out⟩
 | false =>
  have KF:Hid (Qw (.mk h a c ks)=false):=by show (oneH h ks.length && Q1 ks)=false;unfold oneH;rw [eA];rfl
  obtain⟨g,eg⟩:∃ g,nm h=g:=jV
  have cN:∀ v,Calls zG 186 #[.agg #[zU h.k,zU h.o,zU h.t,zI h.n,zU h.f,.string h.x]] v fun e w'=>e=.returned (.agg #[zU g.k,zU g.o,zU g.t,zI g.n,zU g.f,.string g.x])∧yD v w':=fun v=>by
   have:=VT h v
   rw [eg] at this
   exact this
  rw [eg] at eA
  have HA:Hid (Jw h g=false):=eA
  clear eA eg
  go_enter func157,ntmps157
  go_wp2_with (go_at_call 185;refine (cS _).mono ?_;rintro e w1 ⟨rfl,hb1⟩)
  have hbA:yD w w1:=Qm (Qb w (.cells (zX h a ks c) 38)) hb1
  obtain⟨X,eX⟩:∃ X,w1.alloc (.cells #[zU h.k,zU h.o,zU h.t,zI h.n,zU h.f,.string h.x] 251)=X:=jV
  have hbX:yD w1 X:=by rw [← eX];exact Qb _ _
  have HBX:=zH (Qm hbA hbX)
  have HNX:Hid (NdH X w§ (.mk h a c ks)):=NdH.on (NdH.on (show NdH (w.alloc (.cells (Nd.mk h a c ks).vals 38)) w§ (.mk h a c ks) from Qc _ _) hb1) hbX
  have HKX:Hid (KN X w1§ w§ (.mk h a c ks)):=⟨by rw [← eX];exact Qc _ _,HNX.out⟩
  have HTX:Hid (Tab X):=HT.out.on HBX.out
  rw [eX]
  obtain⟨M,eM⟩:∃ M,w1§=M:=jV
  rw [eM] at HKX ⊢
  clear eM eX hbX hbA hb1 cS
  refine wp_region_held_drew (S:=(fun v=>zQ v M¢0 (zU h.k)∧zQ v M¢1 (zU h.o)∧zQ v M¢2 (zU h.t)∧zQ v M¢3 (zI h.n)∧zQ v M¢4 (zU h.f)∧zQ v M¢5 (.string h.x)∧zQ v w§¢6 (.slice a ks.length c)∧GB X v)) zK (HKX.out.keep (by (repeat (first | with_reducible assumption | with_reducible exact GB.refl _ | with_reducible apply GB.drew | with_reducible apply GB.alloc | with_reducible refine GB.call (by with_reducible assumption) ?_)))) (fun hHeld=>?_)
  refine zTa 0
  rotate_left
  ·(intro w hSw;(try dsimp only at hSw);go_simp;try (with_reducible rfl))
  try simp [Act.put]
  refine zTa 1
  rotate_left
  ·(intro w hSw;(try dsimp only at hSw);go_simp;try (with_reducible rfl))
  try simp [Act.put]
  refine wpAnyH_ready (rs:=[2]) zK (by simp) ?_
  refine AllReadyH.cons rfl (fun K hK=>?_) AllReadyH.nil
  go_simp
  refine (cN _).mono ?_
  rintro e w2 ⟨rfl,hb2⟩
  have hg2:GB X w2:=GB.call hb2 (by (repeat (first | with_reducible assumption | with_reducible exact GB.refl _ | with_reducible apply GB.drew | with_reducible apply GB.alloc | with_reducible refine GB.call (by with_reducible assumption) ?_)))
  have HG2:Hid (GB X w2):=hg2
  go_simp
  refine hK.out _ _ ?_ (fun hHeld=>?_)
  ·exact HKX.out.keep hg2
  clear hK K
  try simp [Act.put]
  refine wpAnyH_take (i:=3) (v:=.bool false) rfl zK zK zK (fun _ _ _ h=>h) (Or.inl ⟨by rfl,?_⟩) (by assumption) ?_
  ·(intro w hSw;(try dsimp only at hSw);go_simp;exact neq6 HA.out)
  try simp [Act.put]
  refine zTa 4
  rotate_left
  ·(intro w hSw;(try dsimp only at hSw);go_simp;try (with_reducible rfl))
  try simp [Act.put]
  refine zTc 5
  rotate_left
  ·rfl
  try simp [Act.put]
  refine zTc 6
  rotate_left
  ·rfl
  try simp [Act.put]
  refine zTc 7
  rotate_left
  ·rfl
  try simp [Act.put]
  refine zTc 8
  rotate_left
  ·rfl
  try simp [Act.put]
  refine zTc 9
  rotate_left
  ·rfl
  try simp [Act.put]
  refine zTa 10
  rotate_left
  ·(intro w hSw;(try dsimp only at hSw);go_simp;try (with_reducible rfl))
  try simp [Act.put]
  refine wpAnyH_ready (rs:=[11]) zK (by simp) ?_
  refine AllReadyH.cons rfl (fun K hK=>?_) AllReadyH.nil
  go_simp
  refine (Vf 120 _).mono ?_
  rintro e w4 ⟨rfl,e4⟩
  obtain rfl:=e4.symm
  exact⟨rfl,by rw [KF.out];rfl,Qm HBX.out HG2.out⟩
theorem Fw:∀ m,dep m≤2 * size m:=by
 refine Nd.ind fun h a c ks ih=>?_
 have:∀ (l:List Nd) (i:Nat),(∀ k ∈ l,dep k≤2 * size k)→deps h i l≤2 * JG l+2:=by
  intro l
  induction l with
  | nil=>intro i _;simp [deps]
  | cons k l ihl =>
   intro i hl
   have h1:=hl k (by simp)
   have h2:=ihl (i+1) fun x hx=>hl x (by simp [hx])
   have h3:∀ (b:Bool) d,inc b d≤d+1:=fun b d=>by unfold inc;split <;> omega
   have h4:=h3 (dwn h i) (inc (decide (lvl k.h < ask h i)) (dep k))
   have h5:=h3 (decide (lvl k.h < ask h i)) (dep k)
   have h6:1≤size k:=by cases k;simp [size]
   simp only [deps,JG]
   have:=Nat.max_le.2 (⟨by omega,by omega⟩:inc (dwn h i) (inc (decide (lvl k.h < ask h i)) (dep k))≤2 * (size k+JG l)+2∧deps h (i+1) l≤2 * (size k+JG l)+2)
   exact this
 simp only [dep,size]
 have:=this ks 0 ih
 omega
structure KK (X:yW) (B Y:Nat) (m k:Nd):Prop where
 m:NdH X B m
 k:NdH X Y k
theorem NdH.eight {w:yW}{b:Nat}{m:Nd}(h:NdH w b m):zQ w b¢0 (zU m.h.k)∧zQ w b¢1 (zU m.h.o)∧zQ w b¢2 (zU m.h.t)∧zQ w b¢3 (zI m.h.n)∧zQ w b¢4 (zU m.h.f)∧zQ w b¢5 (.string m.h.x)∧zQ w b¢6 (.slice m.a m.ks.length m.c)∧zQ w b¢7 (zI m.h.p) :=
 ⟨Qa h 0,Qa h 1,Qa h 2,Qa h 3,Qa h 4,Qa h 5,Qa h 6,Qa h 7⟩
theorem X2:∀ {ks:List Nd}{k:Nd},k ∈ ks→size k≤JG ks
 | [],_,h=>by cases h
 | j :: js,k,h=>by
  rcases List.mem_cons.1 h with e | e
  ·rw [e];simp only [JG];omega
  ·have:=X2 e;simp only [JG];omega
theorem XE:∀ (ks:List Nd),ks.length≤JG ks
 | []=>Nat.le_refl _
 | j :: js=>by
  have h1:=XE js
  have h2:1≤size j:=by cases j;simp [size]
  simp only [JG,List.length_cons];omega
theorem KK.hid {X:yW}{B Y:Nat}{m k:Nd}(h:KK X B Y m k):Hid (KK X B Y m k):=h
theorem KK.keep {X v:yW}{B Y:Nat}{m k:Nd}(h:KK X B Y m k) (g:GB X v) :
  zQ v B¢0 (zU m.h.k)∧zQ v B¢1 (zU m.h.o)∧zQ v B¢2 (zU m.h.t)∧zQ v B¢3 (zI m.h.n)∧zQ v B¢4 (zU m.h.f)∧zQ v B¢5 (.string m.h.x)∧zQ v B¢6 (.slice m.a m.ks.length m.c)∧zQ v B¢7 (zI m.h.p) ∧
  zQ v Y¢0 (zU k.h.k)∧zQ v Y¢1 (zU k.h.o)∧zQ v Y¢2 (zU k.h.t)∧zQ v Y¢3 (zI k.h.n)∧zQ v Y¢4 (zU k.h.f)∧zQ v Y¢5 (.string k.h.x)∧zQ v Y¢6 (.slice k.a k.ks.length k.c)∧zQ v Y¢7 (zI k.h.p)∧GB X v:=by
 obtain⟨a0,a1,a2,a3,a4,a5,a6,a7⟩:=(h.m.on g).eight
 obtain⟨b0,b1,b2,b3,b4,b5,b6,b7⟩:=(h.k.on g).eight
 exact⟨a0,a1,a2,a3,a4,a5,a6,a7,b0,b1,b2,b3,b4,b5,b6,b7,g⟩
theorem maxv {D n:Nat}{y z:Int}(hy:(D:Int)=y) (hz:(n:Int)=z):Value.int .i64 (if y < z then z else y)=zI ((Nat.max D n:Nat):Int):=by
 congr 1
 rw [← hy,← hz]
 have h1:Nat.max D n=if D < n then n else D:=by
  show max D n=_
  split <;> omega
 rw [h1]
 by_cases h:D < n
 ·rw [if_pos h,if_pos zY]
 ·rw [if_neg h,if_neg zY]
theorem US (x y:Int):Builtin.max_ #[3,3] 3 #[zI x,zI y]=pure (zI (if y > x then y else x)):=by
 show (Builtin.max2 (zI x) (zI y) >>= fun v=>pure v)=_
 show (pure (Value.int .i64 (if y > x then y else x)) >>= fun v=>(pure v:Sem Value))=_
 rfl
theorem QcE:∀ (m:Nd) (w:yW),Lies w m→size m≤1000000000000→Calls zG 159 #[.agg m.vals] w fun e w'=>e=.returned (zI (dep m))∧yD w w':=by
 refine Nd.ind fun h a c ks ih w hl hz=>?_
 have HI:=zH ih
 have HL:=hl.hid
 have HZ:=zH hz
 have cA:∀ (i:Nat),i≤9223372036854775000→∀ v,Calls zG 189 #[.agg (zX h a ks c),zI i] v fun e w'=>e=.returned (zI (ask h i))∧yD v w':=fun i hi v=>QcP h a ks.length c i hi v
 have cG:∀ (i:Nat) v,Calls zG 190 #[.agg (zX h a ks c),zI i] v fun e w'=>e=.returned (.bool (dwn h i))∧yD v w':=fun i v=>Pk h a ks.length c i v
 clear ih hl hz
 show Calls zG 159 #[.agg (zX h a ks c)] w _
 have HN0:Hid (NdH (zA w (zX h a ks c) 38) w§ (.mk h a c ks)):=Qc w _
 go_enter func159,ntmps159
 go_wp2_with fail
 go_loopw [3,4,5,6,10] (fun d t4 t5 t6 t wr=>∃ (i D:Nat),i≤ks.length∧t=zI i∧d=zI D∧Below (zA w (zX h a ks c) 38)§ (zA w (zX h a ks c) 38) wr∧Hid (deps h 0 ks=Nat.max D (deps h i (ks.drop i)))) (fun _ _ _ _ t _=>ks.length - (intOf t).toNat)
 case atStart=>exact⟨0,0,by omega,rfl,rfl,Below.refl _ _,by show _=_;simp⟩
 case round =>
  obtain⟨i,D,hi,rfl,rfl,hbr,HR⟩:=hrel
  have HBR:Hid (yD w wr):=Qm (Qb _ _) hbr
  have HNR:=zH (HN0.out.on hbr)
  have HBr:=zH hbr
  clear hbr
  by_cases hlt:i < ks.length
  ·have hlt':(i:Int) < (ks.length:Int):=by omega
   have hmx:(i:Int)+1≤jX:=by
    have h1:=HL.out.max
    have h2:=HL.out.cap
    simp only [Nd.ks,Nd.c] at h1 h2
    omega
   obtain⟨b,o,e,hat⟩:=(HL.out.on HBR.out).kid i hlt
   have e2:a=some b¢o:=e
   clear e
   subst e2
   have cI:=HI.out ks[i] (Ja hlt)
   have HLk:Hid (Lies w ks[i]):=HL.out.sub ks[i] (Ja hlt)
   have hsz:size ks[i]≤1000000000000:=by have h1:=X2 (Ja hlt);have h2:=HZ.out;simp only [size] at h2;omega
   have hdk:=Fw ks[i]
   have HD:Hid (deps h 0 ks=Nat.max D (Nat.max (inc (dwn h i) (inc (decide (lvl ks[i].h < ask h i)) (dep ks[i]))) (deps h (i+1) (ks.drop (i+1))))):=by show _=_;rw [HR.out,Kf hlt];rfl
   obtain⟨k,ek⟩:∃ k,ks[i]=k:=jV
   have hat2:NdAt wr b (o+i * 8) k:=by rw [← ek];exact hat
   clear hat
   rw [ek] at cI HLk hsz HD hdk
   obtain⟨y0,y1,y2,y3,y4,y5,y6,y7⟩:=hat2
   obtain⟨d,ed⟩:∃ d,dep k=d:=jV
   obtain⟨V,eV⟩:∃ V,lvl k.h=V:=jV
   obtain⟨U,eU⟩:∃ U,ask h i=U:=jV
   obtain⟨G,eG⟩:∃ G,dwn h i=G:=jV
   have cL:∀ v,Calls zG 188 #[.agg (zV k)] v fun e w'=>e=.returned (zI V)∧yD v w':=fun v=>by rw [← eV];exact VW k.h k.a k.ks.length k.c v
   have hle:i≤1000000000000:=by have h1:=XE ks;have h2:=HZ.out;simp only [size] at h2;omega
   have cA:=cA i zY
   have cG:=cG i
   have hd0:(d:Int)+2≤jX:=by omega
   rw [ed] at cI HD
   rw [eV,eU,eG] at HD
   rw [eU] at cA
   simp only [eG] at cG
   have cI:∀ v,Lies v k→Calls zG 159 #[.agg (zV k)] v fun e w'=>e=.returned (zI d)∧yD v w':=fun v hv=>cI v hv hsz
   have hd1:(d:Int)+1≤jX:=by omega
   have hd2:(d:Int)+1+1≤jX:=by omega
   clear ek eV eU eG ed HR hdk hsz hle hd0
   go_wp2_with (go_at_call 159;refine (cI _ (HLk.out.on (Qm HBR.out (Qb _ _)))).mono ?_;rintro e w5 ⟨rfl,hb5⟩)
   have HB5:Hid (yD w w5):=Qm (Qm HBR.out (Qb _ _)) hb5
   have HKX:Hid (KK w5 w§ wr§ (.mk h (some b¢o) c ks) k):=⟨HNR.out.on (Qm (Qb _ _) hb5),NdH.on (Qc wr _) hb5⟩
   have HB6:Hid (yD wr w5):=Qm (Qb _ _) hb5
   obtain⟨X,eX⟩:∃ X,w5=X:=jV
   obtain⟨Y,eY⟩:∃ Y,wr§=Y:=jV
   rw [eY] at HKX ⊢
   subst eX
   clear hb5 cI eY y0 y1 y2 y3 y4 y5 y6 y7
   go_region_held3 (fun v=>zQ v w§¢0 (zU h.k)∧zQ v w§¢1 (zU h.o)∧zQ v w§¢2 (zU h.t)∧zQ v w§¢3 (zI h.n)∧zQ v w§¢4 (zU h.f)∧zQ v w§¢5 (.string h.x)∧zQ v w§¢6 (.slice (some b¢o) ks.length c)∧zQ v w§¢7 (zI h.p)∧zQ v Y¢0 (zU k.h.k)∧zQ v Y¢1 (zU k.h.o)∧zQ v Y¢2 (zU k.h.t)∧zQ v Y¢3 (zI k.h.n)∧zQ v Y¢4 (zU k.h.f)∧zQ v Y¢5 (.string k.h.x)∧zQ v Y¢6 (.slice k.a k.ks.length k.c)∧zQ v Y¢7 (zI k.h.p)∧GB w5 v)
    (exact HKX.out.keep (by (repeat (first | with_reducible assumption | with_reducible exact GB.refl _ | with_reducible apply GB.drew | with_reducible apply GB.alloc | with_reducible refine GB.call (by with_reducible assumption) ?_))))
    (first
     | (go_at_call 188;refine (cL _).mono ?_;rintro e w6 ⟨rfl,hb6⟩)
     | (go_at_call 189;refine (cA _).mono ?_;rintro e w7 ⟨rfl,hb7⟩))
   all_goals
    refine J9 (P:=fun V=>GB w5 V) (by (repeat (first | with_reducible assumption | with_reducible exact GB.refl _ | with_reducible apply GB.drew | with_reducible apply GB.alloc | with_reducible refine GB.call (by with_reducible assumption) ?_))) ?_
    intro Vw hv
    obtain⟨q0,q1,q2,q3,q4,q5,q6,q7,p0,p1,p2,p3,p4,p5,p6,p7,_⟩:=HKX.out.keep hv
    simp only [Nd.h,Nd.a,Nd.c,Nd.ks] at q0 q1 q2 q3 q4 q5 q6 q7
    have HV:=zH hv
    clear hv p0 p1 p2 p3 p4 p5 p6 p7
    obtain⟨z,ez⟩:∃ z:Int,(d:Int)=z:=jV
    obtain⟨z1,ez1⟩:∃ z1:Int,(d:Int)+1=z1:=jV
    obtain⟨z2,ez2⟩:∃ z2:Int,(d:Int)+1+1=z2:=jV
    have hw1:wrap64 (z+1)=z1:=by rw [← ez,ez1];unfold wrap64;omega
    have hw2:wrap64 (z1+1)=z2:=by rw [← ez1,ez2];unfold wrap64;omega
    obtain⟨y,ey⟩:∃ y:Int,(D:Int)=y:=jV
    simp only [ez,ey]
    have EZ:Hid ((d:Int)=z∧(d:Int)+1=z1∧(d:Int)+1+1=z2∧(D:Int)=y):=⟨ez,ez1,ez2,ey⟩
    clear ez ey ez1 ez2 hd1 hd2 hmx
    by_cases hP:V < U
    ·cases G with
     | true =>
      have K9:Hid (inc true (inc (decide (V < U)) d)=d+1+1):=by show _=_;rw [decide_eq_true hP];rfl
      go_wp2_with fail
      refine (cG _).mono ?_
      rintro e w8 ⟨rfl,hb8⟩
      have HB8:=zH (Qm (Qm (Qm HBr.out HB6.out) HV.out) hb8)
      clear hb8 q0 q1 q2 q3 q4 q5 q6 q7
      have hmm:=fun x=>US x
      have hmx:(i:Int)+1≤jX:=by
       have h1:=HL.out.max
       have h2:=HL.out.cap
       simp only [Nd.ks,Nd.c] at h1 h2
       omega
      go_wp2_with fail
      rw [K9.out] at HD
      exact⟨⟨i+1,Nat.max D (d+1+1),hlt,rfl,maxv EZ.out.2.2.2 (by have:=EZ.out;omega),HB8.out,by show _=_;rw [HD.out];exact (Nat.max_assoc _ _ _).symm⟩,by simp only [intOf];omega⟩
     | false =>
      have K9:Hid (inc false (inc (decide (V < U)) d)=d+1):=by show _=_;rw [decide_eq_true hP];rfl
      go_wp2_with fail
      refine (cG _).mono ?_
      rintro e w8 ⟨rfl,hb8⟩
      have HB8:=zH (Qm (Qm (Qm HBr.out HB6.out) HV.out) hb8)
      clear hb8 q0 q1 q2 q3 q4 q5 q6 q7
      have hmm:=fun x=>US x
      have hmx:(i:Int)+1≤jX:=by
       have h1:=HL.out.max
       have h2:=HL.out.cap
       simp only [Nd.ks,Nd.c] at h1 h2
       omega
      go_wp2_with fail
      rw [K9.out] at HD
      exact⟨⟨i+1,Nat.max D (d+1),hlt,rfl,maxv EZ.out.2.2.2 (by have:=EZ.out;omega),HB8.out,by show _=_;rw [HD.out];exact (Nat.max_assoc _ _ _).symm⟩,by simp only [intOf];omega⟩
    ·cases G with
     | true =>
      have K9:Hid (inc true (inc (decide (V < U)) d)=d+1):=by show _=_;rw [decide_eq_false hP];rfl
      go_wp2_with fail
      refine (cG _).mono ?_
      rintro e w8 ⟨rfl,hb8⟩
      have HB8:=zH (Qm (Qm (Qm HBr.out HB6.out) HV.out) hb8)
      clear hb8 q0 q1 q2 q3 q4 q5 q6 q7
      have hmm:=fun x=>US x
      have hmx:(i:Int)+1≤jX:=by
       have h1:=HL.out.max
       have h2:=HL.out.cap
       simp only [Nd.ks,Nd.c] at h1 h2
       omega
      go_wp2_with fail
      rw [K9.out] at HD
      exact⟨⟨i+1,Nat.max D (d+1),hlt,rfl,maxv EZ.out.2.2.2 (by have:=EZ.out;omega),HB8.out,by show _=_;rw [HD.out];exact (Nat.max_assoc _ _ _).symm⟩,by simp only [intOf];omega⟩
     | false =>
      have K9:Hid (inc false (inc (decide (V < U)) d)=d):=by show _=_;rw [decide_eq_false hP];rfl
      go_wp2_with fail
      refine (cG _).mono ?_
      rintro e w8 ⟨rfl,hb8⟩
      have HB8:=zH (Qm (Qm (Qm HBr.out HB6.out) HV.out) hb8)
      clear hb8 q0 q1 q2 q3 q4 q5 q6 q7
      have hmm:=fun x=>US x
      have hmx:(i:Int)+1≤jX:=by
       have h1:=HL.out.max
       have h2:=HL.out.cap
       simp only [Nd.ks,Nd.c] at h1 h2
       omega
      go_wp2_with fail
      rw [K9.out] at HD
      exact⟨⟨i+1,Nat.max D (d),hlt,rfl,maxv EZ.out.2.2.2 (by have:=EZ.out;omega),HB8.out,by show _=_;rw [HD.out];exact (Nat.max_assoc _ _ _).symm⟩,by simp only [intOf];omega⟩
  ·obtain rfl:i=ks.length:=by omega
   have hnot:¬ (ks.length:Int) < (ks.length:Int):=by omega
   have HE:Hid (dep (.mk h a c ks)=D):=by show deps h 0 ks=_;rw [HR.out,List.drop_length];show Nat.max D 0=D;simp
   clear HR
   go_wp2
   go_ret
   exact⟨by rw [HE.out];rfl,HBR.out⟩
end Go.Proofs.YtfbjofnaghjmeaaGreatDoor
