import Derived.Test.YtfbjofnaghjmeaaGreatDoorA0
import Derived.Test.YtfbjofnaghjmeaaGreatDoorA3
import Derived.Test.YtfbjofnaghjmeaaGreatDoorA5
import Derived.Deep.RegionHeld3
import Derived.Deep.RegionWith
import Derived.WalkLawsBesides
namespace Go.Proofs.YtfbjofnaghjmeaaGreatDoor
set_option maxHeartbeats 4000000
set_option maxRecDepth 100000
open Go.RowKit
def endE (ok:Bool) (no:Int):Ending:=if ok=true then .returned (.tuple #[]) else .panicked [{ v:=.iface 41 (zI no),recovered:=false }]
theorem need_any (ok:Bool) (no:Int) (w:yW):Calls zG 158 #[.bool ok,zI no] w fun e w'=>e=endE ok no∧w'=w:=by
 cases ok with
 | true =>
  go_enter Tryz.func158,Tryz.ntmps158
  go_wp2_with fail
  go_end0
  exact⟨rfl,rfl⟩
 | false =>
  go_enter Tryz.func158,Tryz.ntmps158
  go_wp2_with fail
  exact⟨rfl,rfl,rfl⟩
def GB (X v:yW):Prop:=yD X v
theorem GB.refl (X:yW):GB X X:=Below.refl _ X
theorem GB.drew {X v:yW}(h:GB X v):GB X v.drew:=Below.drew h
theorem GB.alloc {X v:yW}(h:GB X v) (o:Obj):GB X (v.alloc o):=Below.alloc h h.size o
theorem GB.call {X u v:yW}(k:yD u v) (h:GB X u):GB X v:=Below.trans h (k.mono h.size)
theorem abs_world {Q P:yW→Prop}{v:yW}(h:P v) (k:∀ v',P v'→Q v'):Q v:=k v h
theorem need_t (no:Int) (w:yW):Calls zG 158 #[.bool true,zI no] w fun e w'=>e=.returned (.tuple #[])∧w'=w:=need_any true no w
theorem need_f (no:Int) (w:yW):Calls zG 158 #[.bool false,zI no] w fun e w'=>e=.panicked [{ v:=.iface 41 (zI no),recovered:=false }]∧w'=w:=need_any false no w
theorem Tab.gb {X v:yW}(h:Tab X) (k:GB X v):Tab v:=h.on k
structure KN (X:yW) (M B:Nat) (m:Nd):Prop where
 s:SfH X M m.h
 n:NdH X B m
theorem KN.hid {X:yW}{M B:Nat}{m:Nd}(h:KN X M B m):Hid (KN X M B m):=h
theorem KN.keep {X v:yW}{M B:Nat}{m:Nd}(h:KN X M B m) (k:GB X v):v.cell? M¢0=some (zU m.h.k)∧v.cell? M¢1=some (zU m.h.o)∧v.cell? M¢2=some (zU m.h.t)∧v.cell? M¢3=some (zI m.h.n)∧v.cell? M¢4=some (zU m.h.f)∧v.cell? M¢5=some (.string m.h.x)∧v.cell? B¢6=some (.slice m.a m.ks.length m.c)∧GB X v:=by
 obtain⟨a0,a1,a2,a3,a4,a5⟩:=(h.s.on k).cells
 exact⟨a0,a1,a2,a3,a4,a5,(h.n.on k).at.c6,k⟩
theorem neq6 {h g:Hd}(e:alike h g=false):h.k=g.k→h.o=g.o→h.t=g.t→h.n=g.n→h.f=g.f→¬h.x.toList=g.x.toList:=by
 intro h0 h1 h2 h3 h4 h6
 by_cases h5:h.x=g.x
 ·unfold alike at e
  simp [h0,h1,h2,h3,h4,h5] at e
 ·have:=seq_ne h5
  simp [h6] at this
theorem alike_self {h:Hd}(e:alike h (nm h)=true):selfA (nm h)=selfA h:=by
 unfold alike at e
 simp only [Bool.and_eq_true,decide_eq_true_eq] at e
 obtain⟨e0,e1,e2,e3,e4,e5⟩:=e
 unfold selfA
 rw [← e0,← e1,← e2,← e3,← e4,← e5]
theorem form_any:∀ (m:Nd) (w:yW),Lies w m→Tab w→Calls zG 157 #[.agg m.vals] w fun e w'=>e=endE (formB m) 120∧yD w w':=by
 refine Nd.ind fun h a c ks ih w hl ht=>?_
 have cS:∀ v,Calls zG 185 #[.agg (zX h a ks c)] v fun e w'=>e=.returned (.agg #[zU h.k,zU h.o,zU h.t,zI h.n,zU h.f,.string h.x])∧yD v w':=fun v=>selfOf_any h a ks.length c v
 have HI:Hid (∀ k ∈ ks,∀ (w:yW),Lies w k→Tab w→Calls zG 157 #[.agg k.vals] w fun e w'=>e=endE (formB k) 120∧yD w w'):=ih
 have HL:=hl.hid
 have HT:=ht.hid
 have hx:=hl.rg.x1
 obtain⟨A,eA⟩:∃ A,alike h (nm h)=A:=⟨_,rfl⟩
 clear ih hl ht
 show Calls zG 157 #[.agg (zX h a ks c)] w _
 cases A with
 | true =>
  have cN:∀ v,Calls zG 186 #[.agg #[zU h.k,zU h.o,zU h.t,zI h.n,zU h.f,.string h.x]] v fun e w'=>e=.returned (.agg #[zU h.k,zU h.o,zU h.t,zI h.n,zU h.f,.string h.x])∧yD v w':=fun v=>by
   have:=named_any h v
   rw [alike_self eA] at this
   exact this
  obtain⟨B,eB⟩:∃ B,fitB h ks.length=B:=⟨_,rfl⟩
  have cF:∀ v,Tab v→Calls zG 187 #[.agg #[zU h.k,zU h.o,zU h.t,zI h.n,zU h.f,.string h.x],zI (ks.length:Int)] v fun e w'=>e=.returned (.bool B)∧yD v w':=fun v hv=>by
   have:=fits_any h ks.length hx v hv
   rw [eB] at this
   exact this
  have KA:Hid (oneH h ks.length=B):=by show _=_; unfold oneH; rw [eA,eB]; rfl
  clear eA eB hx
  go_enter Tryz.func157,Tryz.ntmps157
  go_wp2_with (go_at_call 185; refine (cS _).mono ?_; rintro e w1 ⟨rfl,hb1⟩)
  have hbA:yD w w1:=below2T (below_new w (.cells (zX h a ks c) 38)) hb1
  obtain⟨X,eX⟩:∃ X,w1.alloc (.cells #[zU h.k,zU h.o,zU h.t,zI h.n,zU h.f,.string h.x] 251)=X:=⟨_,rfl⟩
  have hbX:yD w1 X:=by rw [← eX]; exact below_new _ _
  have HBX:Hid (yD w X):=below2T hbA hbX
  have HNX:Hid (NdH X w§ (.mk h a c ks)):=NdH.on (NdH.on (show NdH (w.alloc (.cells (Nd.mk h a c ks).vals 38)) w§ (.mk h a c ks) from heap_new _ _) hb1) hbX
  have HKX:Hid (KN X w1§ w§ (.mk h a c ks)):=⟨by rw [← eX]; exact heap_new _ _,HNX.out⟩
  have HTX:Hid (Tab X):=HT.out.on HBX.out
  rw [eX]
  obtain⟨M,eM⟩:∃ M,w1§=M:=⟨_,rfl⟩
  rw [eM] at HKX ⊢
  clear eM eX hbX hbA hb1 cS
  cases B with
  | true =>
   have KF:Hid (formB (.mk h a c ks)=formsB ks):=by show (oneH h ks.length && formsB ks)=_; rw [KA.out]; rfl
   refine wp_region_held_drew (S:=(fun v=>v.cell? M¢0=some (zU h.k)∧v.cell? M¢1=some (zU h.o)∧v.cell? M¢2=some (zU h.t)∧v.cell? M¢3=some (zI h.n)∧v.cell? M¢4=some (zU h.f)∧v.cell? M¢5=some (.string h.x)∧v.cell? w§¢6=some (.slice a ks.length c)∧GB X v)) zK (HKX.out.keep (by (repeat (first | with_reducible assumption | with_reducible exact GB.refl _ | with_reducible apply GB.drew | with_reducible apply GB.alloc | with_reducible refine GB.call (by with_reducible assumption) ?_)))) (fun hHeld=>?_)
   refine wpAnyH_take (i:=0) (v:=?_) rfl zK zK zK (fun _ _ _ h=>h) (Or.inl ⟨by rfl,?_⟩) (by assumption) ?_
   rotate_left
   ·(intro w hSw; (try dsimp only at hSw); go_simp; try (with_reducible rfl))
   try simp [Act.put]
   refine wpAnyH_take (i:=1) (v:=?_) rfl zK zK zK (fun _ _ _ h=>h) (Or.inl ⟨by rfl,?_⟩) (by assumption) ?_
   rotate_left
   ·(intro w hSw; (try dsimp only at hSw); go_simp; try (with_reducible rfl))
   try simp [Act.put]
   refine wpAnyH_ready (rs:=[2]) zK (by simp) ?_
   refine AllReadyH.cons rfl (fun K hK=>?_) AllReadyH.nil
   go_simp
   refine (cN _).mono ?_
   rintro e w2 ⟨rfl,hb2⟩
   have hg2:GB X w2:=GB.call hb2 (by (repeat (first | with_reducible assumption | with_reducible exact GB.refl _ | with_reducible apply GB.drew | with_reducible apply GB.alloc | with_reducible refine GB.call (by with_reducible assumption) ?_)))
   have HG2:Hid (GB X w2):=hg2
   go_simp
   refine hK.out _ _ ?_ (fun hHeld=>?_)
   ·exact HKX.out.keep hg2
   clear hK K
   try simp [Act.put]
   refine wpAnyH_take (i:=3) (v:=?_) rfl zK zK zK (fun _ _ _ h=>h) (Or.inl ⟨by rfl,?_⟩) (by assumption) ?_
   rotate_left
   ·(intro w hSw; (try dsimp only at hSw); go_simp; try (with_reducible rfl))
   try simp [Act.put]
   refine wpAnyH_take (i:=4) (v:=?_) rfl zK zK zK (fun _ _ _ h=>h) (Or.inl ⟨by rfl,?_⟩) (by assumption) ?_
   rotate_left
   ·(intro w hSw; (try dsimp only at hSw); go_simp; try (with_reducible rfl))
   try simp [Act.put]
   refine wpAnyH_take (i:=5) (v:=?_) rfl zK zK zK (fun _ _ _ h=>h) (Or.inl ⟨by rfl,?_⟩) (by assumption) ?_
   rotate_left
   ·(intro w hSw; (try dsimp only at hSw); go_simp; try (with_reducible rfl))
   try simp [Act.put]
   refine wpAnyH_take (i:=6) (v:=?_) rfl zK zK zK (fun _ _ _ h=>h) (Or.inl ⟨by rfl,?_⟩) (by assumption) ?_
   rotate_left
   ·(intro w hSw; (try dsimp only at hSw); go_simp; try (with_reducible rfl))
   try simp [Act.put]
   refine wpAnyH_take (i:=7) (v:=?_) rfl zK zK zK (fun _ _ _ h=>h) (Or.inl ⟨by rfl,?_⟩) (by assumption) ?_
   rotate_left
   ·(intro w hSw; (try dsimp only at hSw); go_simp; try (with_reducible rfl))
   try simp [Act.put]
   refine wpAnyH_take (i:=8) (v:=?_) rfl zK zK zK (fun _ _ _ h=>h) (Or.inl ⟨by rfl,?_⟩) (by assumption) ?_
   rotate_left
   ·(intro w hSw; (try dsimp only at hSw); go_simp; try (with_reducible rfl))
   try simp [Act.put]
   refine wpAnyH_ready (rs:=[9]) zK (by simp) ?_
   refine AllReadyH.cons rfl (fun K hK=>?_) AllReadyH.nil
   go_simp
   refine (cF _ (HTX.out.gb HG2.out)).mono ?_
   rintro e w3 ⟨rfl,hb3⟩
   have hg3:GB X w3:=GB.call hb3 HG2.out
   have HG3:Hid (GB X w3):=hg3
   go_simp
   refine hK.out _ _ ?_ (fun hHeld=>?_)
   ·exact HKX.out.keep hg3
   clear hK K
   try simp [Act.put]
   refine wpAnyH_take (i:=10) (v:=?_) rfl zK zK zK (fun _ _ _ h=>h) (Or.inl ⟨by rfl,?_⟩) (by assumption) ?_
   rotate_left
   ·(intro w hSw; (try dsimp only at hSw); go_simp; try (with_reducible rfl))
   try simp [Act.put]
   refine wpAnyH_ready (rs:=[11]) zK (by simp) ?_
   refine AllReadyH.cons rfl (fun K hK=>?_) AllReadyH.nil
   go_simp
   refine (need_t 120 _).mono ?_
   rintro e w4 ⟨rfl,e4⟩
   obtain rfl:=e4.symm
   go_simp
   refine hK.out _ _ ?_ (fun hHeld=>?_)
   ·exact HKX.out.keep HG3.out
   clear hK K
   try simp [Act.put]
   refine wpAnyH_done zK ?_ _
   have HBV:Hid (yD w w3):=below2T HBX.out HG3.out
   have HNV:Hid (NdH w3 w§ (.mk h a c ks)):=HNX.out.on HG3.out
   have v6:w3.cell? w§¢6=some (.slice a ks.length c):=HNV.out.at.c6
   clear hHeld hb2 hb3 hg2 hg3 cN cF
   go_wp2_with fail
   go_loopw [22] (fun t wr=>∃ i:Nat,i≤ks.length∧t=zI i∧yD w wr∧Hid (formsB ks=formsB (ks.drop i))) (fun t _=>ks.length - (intOf t).toNat)
   case atStart=>exact⟨0,by omega,rfl,HBV.out,rfl⟩
   case round =>
    obtain⟨i,hi,rfl,hbr,HR⟩:=hrel
    have HBR:Hid (yD w wr):=hbr
    clear hbr
    by_cases hlt:i < ks.length
    ·have hlt':(i:Int) < (ks.length:Int):=by omega
     have hmx:(i:Int)+1≤9223372036854775807:=by
      have h1:=HL.out.max
      have h2:=HL.out.cap
      simp only [Nd.ks,Nd.c] at h1 h2
      omega
     obtain⟨b,o,e,hat⟩:=(HL.out.on HBR.out).kid i hlt
     have e:a=some b¢o:=e
     subst e
     have cI:=HI.out ks[i] (nth_mem hlt)
     have HLk:Hid (Lies w ks[i]):=HL.out.sub ks[i] (nth_mem hlt)
     obtain⟨k,ek⟩:∃ k,ks[i]=k:=⟨_,rfl⟩
     have hat:NdAt wr b (o+i * 8) k:=by rw [← ek]; exact hat
     rw [ek] at cI HLk
     have HD:Hid (formsB ks=(formB k && formsB (ks.drop (i+1)))):=by show _=_; rw [HR.out,drop_nth hlt,ek]; rfl
     obtain⟨y0,y1,y2,y3,y4,y5,y6,y7⟩:=hat
     obtain⟨B,eB⟩:∃ B,formB k=B:=⟨_,rfl⟩
     rw [eB] at HD cI
     clear ek eB HR
     unfold Nd.vals hdA at cI
     cases B with
     | true =>
      have cI:∀ v,Lies v k→Tab v→Calls zG 157 #[.agg (zV k)] v fun e w'=>e=.returned (.tuple #[])∧yD v w':=cI
      go_wp2_with (go_at_call 157; refine (cI _ (HLk.out.on (below2T HBR.out (below_new _ _))) (HT.out.on (below2T HBR.out (below_new _ _)))).mono ?_; rintro e w5 ⟨rfl,hb5⟩)
      have HB5:Hid (yD w w5):=below2T (below2T HBR.out (below_new _ _)) hb5
      clear hb5
      go_wp2_with fail
      exact⟨⟨i+1,hlt,rfl,HB5.out,by show _=_; rw [HD.out]; rfl⟩,by simp only [intOf]; omega⟩
     | false =>
      have cI:∀ v,Lies v k→Tab v→Calls zG 157 #[.agg (zV k)] v fun e w'=>e=.panicked [{ v:=.iface 41 (zI 120),recovered:=false }]∧yD v w':=cI
      go_wp2_with (go_at_call 157; refine (cI _ (HLk.out.on (below2T HBR.out (below_new _ _))) (HT.out.on (below2T HBR.out (below_new _ _)))).mono ?_; rintro e w5 ⟨rfl,hb5⟩)
      exact⟨rfl,by rw [KF.out,HD.out]; rfl,below2T (below2T HBR.out (below_new _ _)) hb5⟩
    ·obtain rfl:i=ks.length:=by omega
     have hnot:¬ (ks.length:Int) < (ks.length:Int):=by omega
     have HE:Hid (formsB ks=true):=by show _=_; rw [HR.out,List.drop_length]; rfl
     clear HR
     go_wp2_with fail
     go_end0
     exact⟨by rw [KF.out,HE.out]; rfl,HBR.out⟩
  | false =>
   have KF:Hid (formB (.mk h a c ks)=false):=by show (oneH h ks.length && formsB ks)=false; rw [KA.out]; rfl
   refine wp_region_held_drew (S:=(fun v=>v.cell? M¢0=some (zU h.k)∧v.cell? M¢1=some (zU h.o)∧v.cell? M¢2=some (zU h.t)∧v.cell? M¢3=some (zI h.n)∧v.cell? M¢4=some (zU h.f)∧v.cell? M¢5=some (.string h.x)∧v.cell? w§¢6=some (.slice a ks.length c)∧GB X v)) zK (HKX.out.keep (by (repeat (first | with_reducible assumption | with_reducible exact GB.refl _ | with_reducible apply GB.drew | with_reducible apply GB.alloc | with_reducible refine GB.call (by with_reducible assumption) ?_)))) (fun hHeld=>?_)
   refine wpAnyH_take (i:=0) (v:=?_) rfl zK zK zK (fun _ _ _ h=>h) (Or.inl ⟨by rfl,?_⟩) (by assumption) ?_
   rotate_left
   ·(intro w hSw; (try dsimp only at hSw); go_simp; try (with_reducible rfl))
   try simp [Act.put]
   refine wpAnyH_take (i:=1) (v:=?_) rfl zK zK zK (fun _ _ _ h=>h) (Or.inl ⟨by rfl,?_⟩) (by assumption) ?_
   rotate_left
   ·(intro w hSw; (try dsimp only at hSw); go_simp; try (with_reducible rfl))
   try simp [Act.put]
   refine wpAnyH_ready (rs:=[2]) zK (by simp) ?_
   refine AllReadyH.cons rfl (fun K hK=>?_) AllReadyH.nil
   go_simp
   refine (cN _).mono ?_
   rintro e w2 ⟨rfl,hb2⟩
   have hg2:GB X w2:=GB.call hb2 (by (repeat (first | with_reducible assumption | with_reducible exact GB.refl _ | with_reducible apply GB.drew | with_reducible apply GB.alloc | with_reducible refine GB.call (by with_reducible assumption) ?_)))
   have HG2:Hid (GB X w2):=hg2
   go_simp
   refine hK.out _ _ ?_ (fun hHeld=>?_)
   ·exact HKX.out.keep hg2
   clear hK K
   try simp [Act.put]
   refine wpAnyH_take (i:=3) (v:=?_) rfl zK zK zK (fun _ _ _ h=>h) (Or.inl ⟨by rfl,?_⟩) (by assumption) ?_
   rotate_left
   ·(intro w hSw; (try dsimp only at hSw); go_simp; try (with_reducible rfl))
   try simp [Act.put]
   refine wpAnyH_take (i:=4) (v:=?_) rfl zK zK zK (fun _ _ _ h=>h) (Or.inl ⟨by rfl,?_⟩) (by assumption) ?_
   rotate_left
   ·(intro w hSw; (try dsimp only at hSw); go_simp; try (with_reducible rfl))
   try simp [Act.put]
   refine wpAnyH_take (i:=5) (v:=?_) rfl zK zK zK (fun _ _ _ h=>h) (Or.inl ⟨by rfl,?_⟩) (by assumption) ?_
   rotate_left
   ·(intro w hSw; (try dsimp only at hSw); go_simp; try (with_reducible rfl))
   try simp [Act.put]
   refine wpAnyH_take (i:=6) (v:=?_) rfl zK zK zK (fun _ _ _ h=>h) (Or.inl ⟨by rfl,?_⟩) (by assumption) ?_
   rotate_left
   ·(intro w hSw; (try dsimp only at hSw); go_simp; try (with_reducible rfl))
   try simp [Act.put]
   refine wpAnyH_take (i:=7) (v:=?_) rfl zK zK zK (fun _ _ _ h=>h) (Or.inl ⟨by rfl,?_⟩) (by assumption) ?_
   rotate_left
   ·(intro w hSw; (try dsimp only at hSw); go_simp; try (with_reducible rfl))
   try simp [Act.put]
   refine wpAnyH_take (i:=8) (v:=?_) rfl zK zK zK (fun _ _ _ h=>h) (Or.inl ⟨by rfl,?_⟩) (by assumption) ?_
   rotate_left
   ·(intro w hSw; (try dsimp only at hSw); go_simp; try (with_reducible rfl))
   try simp [Act.put]
   refine wpAnyH_ready (rs:=[9]) zK (by simp) ?_
   refine AllReadyH.cons rfl (fun K hK=>?_) AllReadyH.nil
   go_simp
   refine (cF _ (HTX.out.gb HG2.out)).mono ?_
   rintro e w3 ⟨rfl,hb3⟩
   have hg3:GB X w3:=GB.call hb3 HG2.out
   have HG3:Hid (GB X w3):=hg3
   go_simp
   refine hK.out _ _ ?_ (fun hHeld=>?_)
   ·exact HKX.out.keep hg3
   clear hK K
   try simp [Act.put]
   refine wpAnyH_take (i:=10) (v:=?_) rfl zK zK zK (fun _ _ _ h=>h) (Or.inl ⟨by rfl,?_⟩) (by assumption) ?_
   rotate_left
   ·(intro w hSw; (try dsimp only at hSw); go_simp; try (with_reducible rfl))
   try simp [Act.put]
   refine wpAnyH_ready (rs:=[11]) zK (by simp) ?_
   refine AllReadyH.cons rfl (fun K hK=>?_) AllReadyH.nil
   go_simp
   refine (need_f 120 _).mono ?_
   rintro e w4 ⟨rfl,e4⟩
   obtain rfl:=e4.symm
   exact⟨rfl,by rw [KF.out]; rfl,below2T HBX.out HG3.out⟩
 | false =>
  have KF:Hid (formB (.mk h a c ks)=false):=by show (oneH h ks.length && formsB ks)=false; unfold oneH; rw [eA]; rfl
  obtain⟨g,eg⟩:∃ g,nm h=g:=⟨_,rfl⟩
  have cN:∀ v,Calls zG 186 #[.agg #[zU h.k,zU h.o,zU h.t,zI h.n,zU h.f,.string h.x]] v fun e w'=>e=.returned (.agg #[zU g.k,zU g.o,zU g.t,zI g.n,zU g.f,.string g.x])∧yD v w':=fun v=>by
   have:=named_any h v
   rw [eg] at this
   exact this
  rw [eg] at eA
  have HA:Hid (alike h g=false):=eA
  clear eA eg
  go_enter Tryz.func157,Tryz.ntmps157
  go_wp2_with (go_at_call 185; refine (cS _).mono ?_; rintro e w1 ⟨rfl,hb1⟩)
  have hbA:yD w w1:=below2T (below_new w (.cells (zX h a ks c) 38)) hb1
  obtain⟨X,eX⟩:∃ X,w1.alloc (.cells #[zU h.k,zU h.o,zU h.t,zI h.n,zU h.f,.string h.x] 251)=X:=⟨_,rfl⟩
  have hbX:yD w1 X:=by rw [← eX]; exact below_new _ _
  have HBX:Hid (yD w X):=below2T hbA hbX
  have HNX:Hid (NdH X w§ (.mk h a c ks)):=NdH.on (NdH.on (show NdH (w.alloc (.cells (Nd.mk h a c ks).vals 38)) w§ (.mk h a c ks) from heap_new _ _) hb1) hbX
  have HKX:Hid (KN X w1§ w§ (.mk h a c ks)):=⟨by rw [← eX]; exact heap_new _ _,HNX.out⟩
  have HTX:Hid (Tab X):=HT.out.on HBX.out
  rw [eX]
  obtain⟨M,eM⟩:∃ M,w1§=M:=⟨_,rfl⟩
  rw [eM] at HKX ⊢
  clear eM eX hbX hbA hb1 cS
  refine wp_region_held_drew (S:=(fun v=>v.cell? M¢0=some (zU h.k)∧v.cell? M¢1=some (zU h.o)∧v.cell? M¢2=some (zU h.t)∧v.cell? M¢3=some (zI h.n)∧v.cell? M¢4=some (zU h.f)∧v.cell? M¢5=some (.string h.x)∧v.cell? w§¢6=some (.slice a ks.length c)∧GB X v)) zK (HKX.out.keep (by (repeat (first | with_reducible assumption | with_reducible exact GB.refl _ | with_reducible apply GB.drew | with_reducible apply GB.alloc | with_reducible refine GB.call (by with_reducible assumption) ?_)))) (fun hHeld=>?_)
  refine wpAnyH_take (i:=0) (v:=?_) rfl zK zK zK (fun _ _ _ h=>h) (Or.inl ⟨by rfl,?_⟩) (by assumption) ?_
  rotate_left
  ·(intro w hSw; (try dsimp only at hSw); go_simp; try (with_reducible rfl))
  try simp [Act.put]
  refine wpAnyH_take (i:=1) (v:=?_) rfl zK zK zK (fun _ _ _ h=>h) (Or.inl ⟨by rfl,?_⟩) (by assumption) ?_
  rotate_left
  ·(intro w hSw; (try dsimp only at hSw); go_simp; try (with_reducible rfl))
  try simp [Act.put]
  refine wpAnyH_ready (rs:=[2]) zK (by simp) ?_
  refine AllReadyH.cons rfl (fun K hK=>?_) AllReadyH.nil
  go_simp
  refine (cN _).mono ?_
  rintro e w2 ⟨rfl,hb2⟩
  have hg2:GB X w2:=GB.call hb2 (by (repeat (first | with_reducible assumption | with_reducible exact GB.refl _ | with_reducible apply GB.drew | with_reducible apply GB.alloc | with_reducible refine GB.call (by with_reducible assumption) ?_)))
  have HG2:Hid (GB X w2):=hg2
  go_simp
  refine hK.out _ _ ?_ (fun hHeld=>?_)
  ·exact HKX.out.keep hg2
  clear hK K
  try simp [Act.put]
  refine wpAnyH_take (i:=3) (v:=.bool false) rfl zK zK zK (fun _ _ _ h=>h) (Or.inl ⟨by rfl,?_⟩) (by assumption) ?_
  ·(intro w hSw; (try dsimp only at hSw); go_simp; exact neq6 HA.out)
  try simp [Act.put]
  refine wpAnyH_take (i:=4) (v:=?_) rfl zK zK zK (fun _ _ _ h=>h) (Or.inl ⟨by rfl,?_⟩) (by assumption) ?_
  rotate_left
  ·(intro w hSw; (try dsimp only at hSw); go_simp; try (with_reducible rfl))
  try simp [Act.put]
  refine wpAnyH_take (i:=5) (v:=?_) rfl zK zK zK (fun _ _ _ h=>h) (Or.inr ⟨by rfl,?_⟩) (by assumption) ?_
  rotate_left
  ·rfl
  try simp [Act.put]
  refine wpAnyH_take (i:=6) (v:=?_) rfl zK zK zK (fun _ _ _ h=>h) (Or.inr ⟨by rfl,?_⟩) (by assumption) ?_
  rotate_left
  ·rfl
  try simp [Act.put]
  refine wpAnyH_take (i:=7) (v:=?_) rfl zK zK zK (fun _ _ _ h=>h) (Or.inr ⟨by rfl,?_⟩) (by assumption) ?_
  rotate_left
  ·rfl
  try simp [Act.put]
  refine wpAnyH_take (i:=8) (v:=?_) rfl zK zK zK (fun _ _ _ h=>h) (Or.inr ⟨by rfl,?_⟩) (by assumption) ?_
  rotate_left
  ·rfl
  try simp [Act.put]
  refine wpAnyH_take (i:=9) (v:=?_) rfl zK zK zK (fun _ _ _ h=>h) (Or.inr ⟨by rfl,?_⟩) (by assumption) ?_
  rotate_left
  ·rfl
  try simp [Act.put]
  refine wpAnyH_take (i:=10) (v:=?_) rfl zK zK zK (fun _ _ _ h=>h) (Or.inl ⟨by rfl,?_⟩) (by assumption) ?_
  rotate_left
  ·(intro w hSw; (try dsimp only at hSw); go_simp; try (with_reducible rfl))
  try simp [Act.put]
  refine wpAnyH_ready (rs:=[11]) zK (by simp) ?_
  refine AllReadyH.cons rfl (fun K hK=>?_) AllReadyH.nil
  go_simp
  refine (need_f 120 _).mono ?_
  rintro e w4 ⟨rfl,e4⟩
  obtain rfl:=e4.symm
  exact⟨rfl,by rw [KF.out]; rfl,below2T HBX.out HG2.out⟩
theorem box8 {w w':yW}{k o t n f p:Int}{x:yB}{a:Option Addr}{l c:Nat}(hb:Below (w.alloc (.cells #[zU k,zU o,zU t,zI n,zU f,.string x,.slice a l c,zI p] 38))§ (w.alloc (.cells #[zU k,zU o,zU t,zI n,zU f,.string x,.slice a l c,zI p] 38)) w') :
  w'.cell? w§¢0=some (zU k)∧w'.cell? w§¢1=some (zU o)∧w'.cell? w§¢2=some (zU t)∧w'.cell? w§¢3=some (zI n)∧w'.cell? w§¢4=some (zU f)∧w'.cell? w§¢5=some (.string x)∧w'.cell? w§¢6=some (.slice a l c)∧w'.cell? w§¢7=some (zI p):=by
 have h:=(hb.block w§ (by rw [size_alloc]; omega)).trans (heap_new w _)
 exact⟨cell_of h 0,cell_of h 1,cell_of h 2,cell_of h 3,cell_of h 4,cell_of h 5,cell_of h 6,cell_of h 7⟩
theorem levelOf_any (o:Int) (w:yW):Calls zG 213 #[zU o] w fun e w'=>e=.returned (zI (lvO o))∧w'=w:=by
 unfold lvO
 by_cases a:o=18
 ·subst a; go_enter Tryz.func213,Tryz.ntmps213; go_wp2_with fail; go_ret; exact⟨rfl,rfl⟩
 by_cases b:o=17
 ·subst b; go_enter Tryz.func213,Tryz.ntmps213; go_wp2_with fail; go_ret; exact⟨rfl,rfl⟩
 by_cases c:o=6
 ·subst c; go_enter Tryz.func213,Tryz.ntmps213; go_wp2_with fail; go_ret; exact⟨rfl,rfl⟩
 by_cases d:o=7
 ·subst d; go_enter Tryz.func213,Tryz.ntmps213; go_wp2_with fail; go_ret; exact⟨rfl,rfl⟩
 by_cases e:o=8
 ·subst e; go_enter Tryz.func213,Tryz.ntmps213; go_wp2_with fail; go_ret; exact⟨rfl,rfl⟩
 by_cases f:o=9
 ·subst f; go_enter Tryz.func213,Tryz.ntmps213; go_wp2_with fail; go_ret; exact⟨rfl,rfl⟩
 by_cases g:o=10
 ·subst g; go_enter Tryz.func213,Tryz.ntmps213; go_wp2_with fail; go_ret; exact⟨rfl,rfl⟩
 rw [if_neg a,if_neg b,if_neg (by omega),if_neg (by omega)]
 have a':(o == 18)=false:=by simp [a]
 have b':(o == 17)=false:=by simp [b]
 have c':(o == 6)=false:=by simp [c]
 have d':(o == 7)=false:=by simp [d]
 have e':(o == 8)=false:=by simp [e]
 have f':(o == 9)=false:=by simp [f]
 have g':(o == 10)=false:=by simp [g]
 clear a b c d e f g
 go_enter Tryz.func213,Tryz.ntmps213; go_wp2_with fail; go_ret; exact⟨rfl,rfl⟩
theorem level_any (h:Hd) (a:Option Addr) (l c:Nat) (w:yW):Calls zG 188 #[.agg (hdA h a l c)] w fun e w'=>e=.returned (zI (lvl h))∧yD w w':=by
 obtain⟨k,o,t,n,f,x,p⟩:=h
 unfold hdA lvl
 simp only
 have cO:=levelOf_any o
 obtain⟨V,eV⟩:∃ V,lvO o=V:=⟨_,rfl⟩
 simp only [eV] at cO
 rw [eV]
 clear eV
 by_cases a7:k=7
 ·subst a7; go_enter Tryz.func188,Tryz.ntmps188; go_wp2_with fail; go_ret; exact⟨rfl,below_new _ _⟩
 by_cases a6:k=6
 ·subst a6; go_enter Tryz.func188,Tryz.ntmps188; go_wp2_with (go_at_call 213; refine (cO _).mono ?_; rintro e w' ⟨rfl,rfl⟩); go_ret; exact⟨rfl,below_new _ _⟩
 by_cases a5:k=5
 ·subst a5; go_enter Tryz.func188,Tryz.ntmps188; go_wp2_with fail; go_ret; exact⟨rfl,below_new _ _⟩
 rw [if_neg a7,if_neg a6,if_neg a5]
 have b7:(k == 7)=false:=by simp [a7]
 have b6:(k == 6)=false:=by simp [a6]
 have b5:(k == 5)=false:=by simp [a5]
 clear a7 a6 a5
 go_enter Tryz.func188,Tryz.ntmps188; go_wp2_with fail; go_ret; exact⟨rfl,below_new _ _⟩
theorem lvl_le (h:Hd):1≤lvl h∧lvl h≤8:=by
 unfold lvl lvO
 split
 ·omega
 ·split
  ·repeat (first | omega | split)
  ·split <;> omega
theorem asked_any (h:Hd) (a:Option Addr) (l c i:Nat) (hi:i≤9223372036854775000) (w:yW):Calls zG 189 #[.agg (hdA h a l c),zI i] w fun e w'=>e=.returned (zI (ask h i))∧yD w w':=by
 have cL:=fun v=>level_any h a l c v
 have hle:=lvl_le h
 unfold ask
 obtain⟨V,eV⟩:∃ V,lvl h=V:=⟨_,rfl⟩
 rw [eV] at hle
 simp only [eV] at cL
 simp only [eV]
 clear eV
 obtain⟨k,o,t,n,f,x,p⟩:=h
 unfold hdA at cL ⊢
 simp only at cL ⊢
 obtain⟨hl1,hl2⟩:=hle
 by_cases a7:k=7
 ·subst a7
  by_cases i0:i=0
  ·subst i0; go_enter Tryz.func189,Tryz.ntmps189; go_wp2_with fail; go_ret; exact⟨rfl,below_new _ _⟩
  ·have i0':((i:Int) == 0)=false:=by simp; omega
   rw [if_pos rfl,if_neg i0]
   go_enter Tryz.func189,Tryz.ntmps189; go_wp2_with fail; go_ret; exact⟨rfl,below_new _ _⟩
 by_cases a6:k=6
 ·subst a6
  by_cases v4:V=4
  ·subst v4; go_enter Tryz.func189,Tryz.ntmps189; go_wp2_with (go_at_call 188; refine (cL _).mono ?_; rintro e w' ⟨rfl,hb⟩); go_ret; exact⟨rfl,(below_new _ _).trans (hb.mono (by simp))⟩
  ·have v4':(V == 4)=false:=by simp [v4]
   have g1:-9223372036854775808≤V+(i:Int):=by omega
   have g2:V+(i:Int)≤9223372036854775807:=by omega
   rw [if_neg (by decide),if_pos rfl,if_neg v4]
   go_enter Tryz.func189,Tryz.ntmps189
   go_wp2_with fail
   refine (cL _).mono ?_
   rintro e w1 ⟨rfl,hb⟩
   obtain⟨q0,q1,q2,q3,q4,q5,q6,q7⟩:=box8 hb
   have HB1:Hid (yD w w1):=(below_new _ _).trans (hb.mono (by simp))
   clear hb
   go_wp2_with fail
   refine (cL _).mono ?_
   rintro e w2 ⟨rfl,hb⟩
   have HB2:Hid (yD w w2):=HB1.out.trans (hb.mono HB1.out.size)
   clear hb
   go_wp2_with fail
   go_ret
   exact⟨rfl,HB2.out⟩
 by_cases a5:k=5
 ·subst a5; go_enter Tryz.func189,Tryz.ntmps189; go_wp2_with fail; go_ret; exact⟨rfl,below_new _ _⟩
 rw [if_neg a7,if_neg a6,if_neg a5]
 have b7:(k == 7)=false:=by simp [a7]
 have b6:(k == 6)=false:=by simp [a6]
 have b5:(k == 5)=false:=by simp [a5]
 clear a7 a6 a5
 go_enter Tryz.func189,Tryz.ntmps189; go_wp2_with fail; go_ret; exact⟨rfl,below_new _ _⟩
theorem goesDown_any (h:Hd) (a:Option Addr) (l c i:Nat) (w:yW):Calls zG 190 #[.agg (hdA h a l c),zI i] w fun e w'=>e=.returned (.bool (dwn h i))∧yD w w':=by
 obtain⟨k,o,t,n,f,x,p⟩:=h
 unfold hdA dwn
 simp only
 by_cases a6:k=6
 ·subst a6; go_enter Tryz.func190,Tryz.ntmps190; go_wp2_with fail; go_ret; exact⟨rfl,below_new _ _⟩
 by_cases a7:k=7
 ·subst a7
  by_cases i0:0 < i
  ·have i1:(0:Int) < (i:Int):=by omega
   go_enter Tryz.func190,Tryz.ntmps190; go_wp2_with fail; go_ret; exact⟨retB (by simp),below_new _ _⟩
  ·have i1:¬ (0:Int) < (i:Int):=by omega
   go_enter Tryz.func190,Tryz.ntmps190; go_wp2_with fail; go_ret; exact⟨retB (by simp),below_new _ _⟩
 rw [if_neg a6,if_neg a7]
 have b7:(k == 7)=false:=by simp [a7]
 have b6:(k == 6)=false:=by simp [a6]
 clear a7 a6
 go_enter Tryz.func190,Tryz.ntmps190; go_wp2_with fail; go_ret; exact⟨rfl,below_new _ _⟩
theorem dep_size:∀ m,dep m≤2 * size m:=by
 refine Nd.ind fun h a c ks ih=>?_
 have:∀ (l:List Nd) (i:Nat),(∀ k ∈ l,dep k≤2 * size k)→deps h i l≤2 * sizes l+2:=by
  intro l
  induction l with
  | nil=>intro i _; simp [deps]
  | cons k l ihl =>
   intro i hl
   have h1:=hl k (by simp)
   have h2:=ihl (i+1) fun x hx=>hl x (by simp [hx])
   have h3:∀ (b:Bool) d,inc b d≤d+1:=fun b d=>by unfold inc; split <;> omega
   have h4:=h3 (dwn h i) (inc (decide (lvl k.h < ask h i)) (dep k))
   have h5:=h3 (decide (lvl k.h < ask h i)) (dep k)
   have h6:1≤size k:=by cases k; simp [size]
   simp only [deps,sizes]
   have:=Nat.max_le.2 (⟨by omega,by omega⟩:inc (dwn h i) (inc (decide (lvl k.h < ask h i)) (dep k))≤2 * (size k+sizes l)+2∧deps h (i+1) l≤2 * (size k+sizes l)+2)
   exact this
 simp only [dep,size]
 have:=this ks 0 ih
 omega
structure KK (X:yW) (B Y:Nat) (m k:Nd):Prop where
 m:NdH X B m
 k:NdH X Y k
theorem NdH.eight {w:yW}{b:Nat}{m:Nd}(h:NdH w b m):w.cell? b¢0=some (zU m.h.k)∧w.cell? b¢1=some (zU m.h.o)∧w.cell? b¢2=some (zU m.h.t)∧w.cell? b¢3=some (zI m.h.n)∧w.cell? b¢4=some (zU m.h.f)∧w.cell? b¢5=some (.string m.h.x)∧w.cell? b¢6=some (.slice m.a m.ks.length m.c)∧w.cell? b¢7=some (zI m.h.p) :=
 ⟨cell_of h 0,cell_of h 1,cell_of h 2,cell_of h 3,cell_of h 4,cell_of h 5,cell_of h 6,cell_of h 7⟩
theorem size_mem:∀ {ks:List Nd}{k:Nd},k ∈ ks→size k≤sizes ks
 | [],_,h=>by cases h
 | j :: js,k,h=>by
  rcases List.mem_cons.1 h with e | e
  ·rw [e]; simp only [sizes]; omega
  ·have:=size_mem e; simp only [sizes]; omega
theorem len_sizes:∀ (ks:List Nd),ks.length≤sizes ks
 | []=>Nat.le_refl _
 | j :: js=>by
  have h1:=len_sizes js
  have h2:1≤size j:=by cases j; simp [size]
  simp only [sizes,List.length_cons]; omega
theorem KK.hid {X:yW}{B Y:Nat}{m k:Nd}(h:KK X B Y m k):Hid (KK X B Y m k):=h
theorem KK.keep {X v:yW}{B Y:Nat}{m k:Nd}(h:KK X B Y m k) (g:GB X v) :
  v.cell? B¢0=some (zU m.h.k)∧v.cell? B¢1=some (zU m.h.o)∧v.cell? B¢2=some (zU m.h.t)∧v.cell? B¢3=some (zI m.h.n)∧v.cell? B¢4=some (zU m.h.f)∧v.cell? B¢5=some (.string m.h.x)∧v.cell? B¢6=some (.slice m.a m.ks.length m.c)∧v.cell? B¢7=some (zI m.h.p) ∧
  v.cell? Y¢0=some (zU k.h.k)∧v.cell? Y¢1=some (zU k.h.o)∧v.cell? Y¢2=some (zU k.h.t)∧v.cell? Y¢3=some (zI k.h.n)∧v.cell? Y¢4=some (zU k.h.f)∧v.cell? Y¢5=some (.string k.h.x)∧v.cell? Y¢6=some (.slice k.a k.ks.length k.c)∧v.cell? Y¢7=some (zI k.h.p)∧GB X v:=by
 obtain⟨a0,a1,a2,a3,a4,a5,a6,a7⟩:=(h.m.on g).eight
 obtain⟨b0,b1,b2,b3,b4,b5,b6,b7⟩:=(h.k.on g).eight
 exact⟨a0,a1,a2,a3,a4,a5,a6,a7,b0,b1,b2,b3,b4,b5,b6,b7,g⟩
theorem maxv {D n:Nat}{y z:Int}(hy:(D:Int)=y) (hz:(n:Int)=z):Value.int .i64 (if y < z then z else y)=zI ((Nat.max D n:Nat):Int):=by
 congr 1
 rw [← hy,← hz]
 have h1:Nat.max D n=if D < n then n else D:=by
  show max D n=_
  split <;> omega
 rw [h1]
 by_cases h:D < n
 ·rw [if_pos h,if_pos (by omega)]
 ·rw [if_neg h,if_neg (by omega)]
theorem run_max (x y:Int):Builtin.max_ #[3,3] 3 #[zI x,zI y]=pure (zI (if y > x then y else x)):=by
 show (Builtin.max2 (zI x) (zI y) >>= fun v=>pure v)=_
 show (pure (Value.int .i64 (if y > x then y else x)) >>= fun v=>(pure v:Sem Value))=_
 rfl
theorem depth_any:∀ (m:Nd) (w:yW),Lies w m→size m≤1000000000000→Calls zG 159 #[.agg m.vals] w fun e w'=>e=.returned (zI (dep m))∧yD w w':=by
 refine Nd.ind fun h a c ks ih w hl hz=>?_
 have HI:Hid (∀ k ∈ ks,∀ (w:yW),Lies w k→size k≤1000000000000→Calls zG 159 #[.agg k.vals] w fun e w'=>e=.returned (zI (dep k))∧yD w w'):=ih
 have HL:=hl.hid
 have HZ:Hid (size (.mk h a c ks)≤1000000000000):=hz
 have cA:∀ (i:Nat),i≤9223372036854775000→∀ v,Calls zG 189 #[.agg (zX h a ks c),zI i] v fun e w'=>e=.returned (zI (ask h i))∧yD v w':=fun i hi v=>asked_any h a ks.length c i hi v
 have cG:∀ (i:Nat) v,Calls zG 190 #[.agg (zX h a ks c),zI i] v fun e w'=>e=.returned (.bool (dwn h i))∧yD v w':=fun i v=>goesDown_any h a ks.length c i v
 clear ih hl hz
 show Calls zG 159 #[.agg (zX h a ks c)] w _
 have HN0:Hid (NdH (w.alloc (.cells (zX h a ks c) 38)) w§ (.mk h a c ks)):=heap_new w _
 go_enter Tryz.func159,Tryz.ntmps159
 go_wp2_with fail
 go_loopw [3,4,5,6,10] (fun d t4 t5 t6 t wr=>∃ (i D:Nat),i≤ks.length∧t=zI i∧d=zI D∧Below (w.alloc (.cells (zX h a ks c) 38))§ (w.alloc (.cells (zX h a ks c) 38)) wr∧Hid (deps h 0 ks=Nat.max D (deps h i (ks.drop i)))) (fun _ _ _ _ t _=>ks.length - (intOf t).toNat)
 case atStart=>exact⟨0,0,by omega,rfl,rfl,Below.refl _ _,by show _=_; simp⟩
 case round =>
  obtain⟨i,D,hi,rfl,rfl,hbr,HR⟩:=hrel
  have HBR:Hid (yD w wr):=below2T (below_new _ _) hbr
  have HNR:Hid (NdH wr w§ (.mk h a c ks)):=HN0.out.on hbr
  have HBr:Hid (Below (w.alloc (.cells (zX h a ks c) 38))§ (w.alloc (.cells (zX h a ks c) 38)) wr):=hbr
  clear hbr
  by_cases hlt:i < ks.length
  ·have hlt':(i:Int) < (ks.length:Int):=by omega
   have hmx:(i:Int)+1≤9223372036854775807:=by
    have h1:=HL.out.max
    have h2:=HL.out.cap
    simp only [Nd.ks,Nd.c] at h1 h2
    omega
   obtain⟨b,o,e,hat⟩:=(HL.out.on HBR.out).kid i hlt
   have e2:a=some b¢o:=e
   clear e
   subst e2
   have cI:=HI.out ks[i] (nth_mem hlt)
   have HLk:Hid (Lies w ks[i]):=HL.out.sub ks[i] (nth_mem hlt)
   have hsz:size ks[i]≤1000000000000:=by have h1:=size_mem (nth_mem hlt); have h2:=HZ.out; simp only [size] at h2; omega
   have hdk:=dep_size ks[i]
   have HD:Hid (deps h 0 ks=Nat.max D (Nat.max (inc (dwn h i) (inc (decide (lvl ks[i].h < ask h i)) (dep ks[i]))) (deps h (i+1) (ks.drop (i+1))))):=by show _=_; rw [HR.out,drop_nth hlt]; rfl
   obtain⟨k,ek⟩:∃ k,ks[i]=k:=⟨_,rfl⟩
   have hat2:NdAt wr b (o+i * 8) k:=by rw [← ek]; exact hat
   clear hat
   rw [ek] at cI HLk hsz HD hdk
   obtain⟨y0,y1,y2,y3,y4,y5,y6,y7⟩:=hat2
   obtain⟨d,ed⟩:∃ d,dep k=d:=⟨_,rfl⟩
   obtain⟨V,eV⟩:∃ V,lvl k.h=V:=⟨_,rfl⟩
   obtain⟨U,eU⟩:∃ U,ask h i=U:=⟨_,rfl⟩
   obtain⟨G,eG⟩:∃ G,dwn h i=G:=⟨_,rfl⟩
   have cL:∀ v,Calls zG 188 #[.agg (zV k)] v fun e w'=>e=.returned (zI V)∧yD v w':=fun v=>by rw [← eV]; exact level_any k.h k.a k.ks.length k.c v
   have hle:i≤1000000000000:=by have h1:=len_sizes ks; have h2:=HZ.out; simp only [size] at h2; omega
   have cA:=cA i (by omega)
   have cG:=cG i
   have hd0:(d:Int)+2≤9223372036854775807:=by omega
   rw [ed] at cI HD
   rw [eV,eU,eG] at HD
   rw [eU] at cA
   simp only [eG] at cG
   have cI:∀ v,Lies v k→Calls zG 159 #[.agg (zV k)] v fun e w'=>e=.returned (zI d)∧yD v w':=fun v hv=>cI v hv hsz
   have hd1:(d:Int)+1≤9223372036854775807:=by omega
   have hd2:(d:Int)+1+1≤9223372036854775807:=by omega
   clear ek eV eU eG ed HR hdk hsz hle hd0
   go_wp2_with (go_at_call 159; refine (cI _ (HLk.out.on (below2T HBR.out (below_new _ _)))).mono ?_; rintro e w5 ⟨rfl,hb5⟩)
   have HB5:Hid (yD w w5):=below2T (below2T HBR.out (below_new _ _)) hb5
   have HKX:Hid (KK w5 w§ wr§ (.mk h (some b¢o) c ks) k):=⟨HNR.out.on (below2T (below_new _ _) hb5),NdH.on (heap_new wr _) hb5⟩
   have HB6:Hid (yD wr w5):=below2T (below_new _ _) hb5
   obtain⟨X,eX⟩:∃ X,w5=X:=⟨_,rfl⟩
   obtain⟨Y,eY⟩:∃ Y,wr§=Y:=⟨_,rfl⟩
   rw [eY] at HKX ⊢
   subst eX
   clear hb5 cI eY y0 y1 y2 y3 y4 y5 y6 y7
   go_region_held3 (fun v=>v.cell? w§¢0=some (zU h.k)∧v.cell? w§¢1=some (zU h.o)∧v.cell? w§¢2=some (zU h.t)∧v.cell? w§¢3=some (zI h.n)∧v.cell? w§¢4=some (zU h.f)∧v.cell? w§¢5=some (.string h.x)∧v.cell? w§¢6=some (.slice (some b¢o) ks.length c)∧v.cell? w§¢7=some (zI h.p)∧v.cell? Y¢0=some (zU k.h.k)∧v.cell? Y¢1=some (zU k.h.o)∧v.cell? Y¢2=some (zU k.h.t)∧v.cell? Y¢3=some (zI k.h.n)∧v.cell? Y¢4=some (zU k.h.f)∧v.cell? Y¢5=some (.string k.h.x)∧v.cell? Y¢6=some (.slice k.a k.ks.length k.c)∧v.cell? Y¢7=some (zI k.h.p)∧GB w5 v)
    (exact HKX.out.keep (by (repeat (first | with_reducible assumption | with_reducible exact GB.refl _ | with_reducible apply GB.drew | with_reducible apply GB.alloc | with_reducible refine GB.call (by with_reducible assumption) ?_))))
    (first
     | (go_at_call 188; refine (cL _).mono ?_; rintro e w6 ⟨rfl,hb6⟩)
     | (go_at_call 189; refine (cA _).mono ?_; rintro e w7 ⟨rfl,hb7⟩))
   all_goals
    refine abs_world (P:=fun V=>GB w5 V) (by (repeat (first | with_reducible assumption | with_reducible exact GB.refl _ | with_reducible apply GB.drew | with_reducible apply GB.alloc | with_reducible refine GB.call (by with_reducible assumption) ?_))) ?_
    intro Vw hv
    obtain⟨q0,q1,q2,q3,q4,q5,q6,q7,p0,p1,p2,p3,p4,p5,p6,p7,_⟩:=HKX.out.keep hv
    simp only [Nd.h,Nd.a,Nd.c,Nd.ks] at q0 q1 q2 q3 q4 q5 q6 q7
    have HV:Hid (yD w5 Vw):=hv
    clear hv p0 p1 p2 p3 p4 p5 p6 p7
    obtain⟨z,ez⟩:∃ z:Int,(d:Int)=z:=⟨_,rfl⟩
    obtain⟨z1,ez1⟩:∃ z1:Int,(d:Int)+1=z1:=⟨_,rfl⟩
    obtain⟨z2,ez2⟩:∃ z2:Int,(d:Int)+1+1=z2:=⟨_,rfl⟩
    have hw1:wrap64 (z+1)=z1:=by rw [← ez,ez1]; unfold wrap64; omega
    have hw2:wrap64 (z1+1)=z2:=by rw [← ez1,ez2]; unfold wrap64; omega
    obtain⟨y,ey⟩:∃ y:Int,(D:Int)=y:=⟨_,rfl⟩
    simp only [ez,ey]
    have EZ:Hid ((d:Int)=z∧(d:Int)+1=z1∧(d:Int)+1+1=z2∧(D:Int)=y):=⟨ez,ez1,ez2,ey⟩
    clear ez ey ez1 ez2 hd1 hd2 hmx
    by_cases hP:V < U
    ·cases G with
     | true =>
      have K9:Hid (inc true (inc (decide (V < U)) d)=d+1+1):=by show _=_; rw [decide_eq_true hP]; rfl
      go_wp2_with fail
      refine (cG _).mono ?_
      rintro e w8 ⟨rfl,hb8⟩
      have HB8:Hid (Below (w.alloc (.cells (zX h (some b¢o) ks c) 38))§ (w.alloc (.cells (zX h (some b¢o) ks c) 38)) w8):=below2T (below2T (below2T HBr.out HB6.out) HV.out) hb8
      clear hb8 q0 q1 q2 q3 q4 q5 q6 q7
      have hmm:=fun x=>run_max x
      have hmx:(i:Int)+1≤9223372036854775807:=by
       have h1:=HL.out.max
       have h2:=HL.out.cap
       simp only [Nd.ks,Nd.c] at h1 h2
       omega
      go_wp2_with fail
      rw [K9.out] at HD
      exact⟨⟨i+1,Nat.max D (d+1+1),hlt,rfl,maxv EZ.out.2.2.2 (by have:=EZ.out; omega),HB8.out,by show _=_; rw [HD.out]; exact (Nat.max_assoc _ _ _).symm⟩,by simp only [intOf]; omega⟩
     | false =>
      have K9:Hid (inc false (inc (decide (V < U)) d)=d+1):=by show _=_; rw [decide_eq_true hP]; rfl
      go_wp2_with fail
      refine (cG _).mono ?_
      rintro e w8 ⟨rfl,hb8⟩
      have HB8:Hid (Below (w.alloc (.cells (zX h (some b¢o) ks c) 38))§ (w.alloc (.cells (zX h (some b¢o) ks c) 38)) w8):=below2T (below2T (below2T HBr.out HB6.out) HV.out) hb8
      clear hb8 q0 q1 q2 q3 q4 q5 q6 q7
      have hmm:=fun x=>run_max x
      have hmx:(i:Int)+1≤9223372036854775807:=by
       have h1:=HL.out.max
       have h2:=HL.out.cap
       simp only [Nd.ks,Nd.c] at h1 h2
       omega
      go_wp2_with fail
      rw [K9.out] at HD
      exact⟨⟨i+1,Nat.max D (d+1),hlt,rfl,maxv EZ.out.2.2.2 (by have:=EZ.out; omega),HB8.out,by show _=_; rw [HD.out]; exact (Nat.max_assoc _ _ _).symm⟩,by simp only [intOf]; omega⟩
    ·cases G with
     | true =>
      have K9:Hid (inc true (inc (decide (V < U)) d)=d+1):=by show _=_; rw [decide_eq_false hP]; rfl
      go_wp2_with fail
      refine (cG _).mono ?_
      rintro e w8 ⟨rfl,hb8⟩
      have HB8:Hid (Below (w.alloc (.cells (zX h (some b¢o) ks c) 38))§ (w.alloc (.cells (zX h (some b¢o) ks c) 38)) w8):=below2T (below2T (below2T HBr.out HB6.out) HV.out) hb8
      clear hb8 q0 q1 q2 q3 q4 q5 q6 q7
      have hmm:=fun x=>run_max x
      have hmx:(i:Int)+1≤9223372036854775807:=by
       have h1:=HL.out.max
       have h2:=HL.out.cap
       simp only [Nd.ks,Nd.c] at h1 h2
       omega
      go_wp2_with fail
      rw [K9.out] at HD
      exact⟨⟨i+1,Nat.max D (d+1),hlt,rfl,maxv EZ.out.2.2.2 (by have:=EZ.out; omega),HB8.out,by show _=_; rw [HD.out]; exact (Nat.max_assoc _ _ _).symm⟩,by simp only [intOf]; omega⟩
     | false =>
      have K9:Hid (inc false (inc (decide (V < U)) d)=d):=by show _=_; rw [decide_eq_false hP]; rfl
      go_wp2_with fail
      refine (cG _).mono ?_
      rintro e w8 ⟨rfl,hb8⟩
      have HB8:Hid (Below (w.alloc (.cells (zX h (some b¢o) ks c) 38))§ (w.alloc (.cells (zX h (some b¢o) ks c) 38)) w8):=below2T (below2T (below2T HBr.out HB6.out) HV.out) hb8
      clear hb8 q0 q1 q2 q3 q4 q5 q6 q7
      have hmm:=fun x=>run_max x
      have hmx:(i:Int)+1≤9223372036854775807:=by
       have h1:=HL.out.max
       have h2:=HL.out.cap
       simp only [Nd.ks,Nd.c] at h1 h2
       omega
      go_wp2_with fail
      rw [K9.out] at HD
      exact⟨⟨i+1,Nat.max D (d),hlt,rfl,maxv EZ.out.2.2.2 (by have:=EZ.out; omega),HB8.out,by show _=_; rw [HD.out]; exact (Nat.max_assoc _ _ _).symm⟩,by simp only [intOf]; omega⟩
  ·obtain rfl:i=ks.length:=by omega
   have hnot:¬ (ks.length:Int) < (ks.length:Int):=by omega
   have HE:Hid (dep (.mk h a c ks)=D):=by show deps h 0 ks=_; rw [HR.out,List.drop_length]; show Nat.max D 0=D; simp
   clear HR
   go_wp2_with fail
   go_ret
   exact⟨by rw [HE.out]; rfl,HBR.out⟩
end Go.Proofs.YtfbjofnaghjmeaaGreatDoor
