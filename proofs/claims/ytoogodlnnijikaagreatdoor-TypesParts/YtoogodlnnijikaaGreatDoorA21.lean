import Derived.Test.YtoogodlnnijikaaGreatDoorA0
import Derived.Test.YtoogodlnnijikaaGreatDoorA7
import Derived.Test.YtoogodlnnijikaaGreatDoorA20
import Derived.Deep.MidRow
namespace Go.Proofs.YtoogodlnnijikaaGreatDoor
open Go.RowKit
set_option linter.unusedVariables false
def fs (a b:Int):Int:=if a=0 then b else a
theorem fs_z {a b:Int}(h:a=0):fs a b=b:=if_pos h
theorem fs_n {a b:Int}(h:¬ a=0):fs a b=a:=if_neg h
def fsL:List Int→Int
 | []=>0
 | a :: l=>fs a (fsL l)
def namE (x:ByteArray):Int:=if nameB x=true then 0 else 120
def cntE (n l m:Int):Int:=if n < l then 120 else if m < n then 121 else 0
def okE (ok:Bool):Int:=if ok=true then 0 else 120
theorem need_gives (ok:Bool) (w:World):Gives 115 #[.bool ok,zI 120] w (okE ok):=by
 refine (need_any ok 120 w).mono ?_
 rintro e w' ⟨rfl,rfl⟩
 cases ok with
 | true=>exact⟨.inl ⟨rfl,rfl⟩,Below.refl _ _⟩
 | false=>exact⟨.inr ⟨by decide,rfl⟩,Below.refl _ _⟩
theorem nm_gives {x:ByteArray}(hs:SzX x) {w:World}(ht:Tab w):Gives 100 #[.string x] w (namE x):=by
 have cN:=namep_any x hs w ht
 obtain⟨B,eB⟩:∃ B,nameB x=B:=⟨_,rfl⟩
 have hE:namE x=okE B:=by unfold namE okE; rw [eB]
 rw [hE]
 rw [eB] at cN
 clear hE eB
 unfold Gives
 go_enter Tryz.func100,Tryz.ntmps100
 go_wp2_with fail
 refine cN.mono ?_
 rintro e w1 ⟨rfl,hb⟩
 have HB:Hid (Below w§ w w1):=hb
 have c2:=need_gives B w1
 unfold Gives at c2
 clear cN hb
 go_wp2_with fail
 refine c2.mono ?_
 rintro e w2 ⟨⟨h0,rfl⟩ | ⟨h0,rfl⟩,hb⟩
 ·have HB2:Hid (Below w§ w w2):=below2 HB.out hb
  clear c2 hb
  go_wp2_with fail
  go_end0
  exact⟨.inl ⟨h0,rfl⟩,HB2.out⟩
 ·exact⟨rfl,.inr ⟨h0,rfl⟩,below2 HB.out hb⟩
theorem cnt_gives (n l m:Int) (w:World):Gives 101 #[zI n,zI l,zI m] w (cntE n l m):=by
 unfold Gives
 by_cases h1:l≤n
 ·have d1:decide (l≤n)=true:=decide_eq_true h1
  by_cases h2:n≤m
  ·have e0:cntE n l m=0:=by unfold cntE; rw [if_neg (by omega),if_neg (by omega)]
   rw [e0]
   exact (count_ok n l m h1 h2 w).mono fun e w' h=>⟨.inl ⟨rfl,h.1⟩,by rw [h.2]; exact Below.refl _ _⟩
  ·have d2:decide (n≤m)=false:=decide_eq_false h2
   have e0:cntE n l m=121:=by unfold cntE; rw [if_neg (by omega),if_pos (by omega)]
   rw [e0]
   clear e0 h1 h2
   go_enter Tryz.func101,Tryz.ntmps101
   go_wp2_with fail
   refine (need_t 120 _).mono ?_
   rintro e w1 ⟨rfl,e1⟩
   obtain rfl:=e1.symm
   clear e1
   go_wp2_with fail
   refine (need_f 121 _).mono ?_
   rintro e w1 ⟨rfl,rfl⟩
   exact⟨rfl,.inr ⟨by decide,rfl⟩,Below.refl _ _⟩
 ·have d1:decide (l≤n)=false:=decide_eq_false h1
  have e0:cntE n l m=120:=by unfold cntE; rw [if_pos (by omega)]
  rw [e0]
  clear e0 h1
  go_enter Tryz.func101,Tryz.ntmps101
  go_wp2_with fail
  refine (need_f 120 _).mono ?_
  rintro e w1 ⟨rfl,rfl⟩
  exact⟨rfl,.inr ⟨by decide,rfl⟩,Below.refl _ _⟩
theorem rng_of {w:World}{g:Nat}{cs:Array Value}{t:TypeId}{fr:Nat × Nat}(h:w.heap[g]? = some (.cells cs t fr)) (o:Nat) (l:List Value) (hl:∀ j,j < l.length→cs[o+j]? = l[j]?):w.rangeAt g o l:=fun j v hv=>by
 have hj:j < l.length:=(List.getElem?_eq_some_iff.1 hv).1
 rw [cell_of h,hl j hj,hv]
def kid0 (m:Nd):Nd:=m.ks.getD 0 nd0
def initE (m:Nd):Int:=fs (fE m) (if m.h.k=5∧m.h.o=1 then fs (okE (numB (kid0 m).h.t)) (okE (decide ((kid0 m).h.k=1))) else okE (decide (m.h.k=1)))
theorem form_kid {m:Nd}(h:formB m=true) (h5:m.h.k=5):m.ks.length=1:=by
 obtain⟨hd,a,c,ks⟩:=m
 have h5:hd.k=5:=h5
 have h1:(oneH hd ks.length && formsB ks)=true:=h
 rw [Bool.and_eq_true] at h1
 have h2:=h1.1
 unfold oneH at h2
 rw [Bool.and_eq_true] at h2
 have h3:=h2.2
 unfold fitB at h3
 rw [if_neg (by omega),if_neg (by omega),if_neg (by omega),if_neg (by omega),if_pos h5,Bool.and_eq_true] at h3
 exact of_decide_eq_true h3.1
theorem Gives.two {F:Nat}{args:Array Value}{w:World}{E:Int}(c:Gives F args w E):(E=0∧Calls zG F args w fun e w'=>e=.returned (.tuple #[])∧Below w§ w w')∨(¬ E=0∧Calls zG F args w fun e w'=>e=.panicked [{ v:=.iface 28 (zI E),recovered:=false }]∧Below w§ w w'):=by
 by_cases h:E=0
 ·subst h; exact .inl ⟨rfl,c.zero⟩
 ·exact .inr ⟨h,c.some h⟩
set_option maxRecDepth 100000 in
set_option maxHeartbeats 4000000 in
theorem init_gives (m:Nd) (w:World) (hl:Lies w m) (ht:Tab w):Gives 138 #[.agg m.vals] w (initE m):=by
 have hb0:=below_new w (.cells m.vals 48)
 have c0:=form_gives (hl.on hb0) (ht.on hb0)
 unfold initE
 have c02:=c0.two
 clear c0
 rcases c02 with ⟨h0,c1⟩ | ⟨h0,c1⟩
 ·rw [fs_z h0]
  have hf:formB m=true:=by
   unfold fE at h0
   by_cases h:formB m=true
   ·exact h
   ·rw [if_neg h] at h0; cases h0
  by_cases h5:m.h.k=5∧m.h.o=1
  ·rw [if_pos h5]
   have hk1:=form_kid hf h5.1
   obtain⟨⟨k2,o2,ty2,n2,f2,x2,p2⟩,am2,cm2,ks2⟩:=m
   obtain⟨rfl,rfl⟩:k2=5∧o2=1:=h5
   have hk1:ks2.length=1:=hk1
   obtain⟨kd,rfl⟩:∃ k,ks2 = [k]:=List.length_eq_one_iff.1 hk1
   obtain⟨B,O,ea,hat⟩:=hl.kid 0 (by show 0 < 1; omega)
   have ea:am2=some ⟨B,O,none⟩:=ea
   subst ea
   have hat:NdAt w B (O+0 * 8) kd:=hat
   have HAT:=hat.hid
   have hcap:1≤cm2:=hl.cap
   have HKD:Hid (kid0 (.mk ⟨5,1,ty2,n2,f2,x2,p2⟩ (some ⟨B,O,none⟩) cm2 [kd])=kd):=rfl
   rw [HKD.out]
   unfold Nd.vals hdA at c1 hb0
   simp only [Nd.h,Nd.a,Nd.c,Nd.ks,List.length_cons,List.length_nil,Nat.zero_add] at c1 hb0
   unfold Gives
   simp only [Nd.vals,hdA,Nd.h,Nd.a,Nd.c,Nd.ks,List.length_cons,List.length_nil,Nat.zero_add]
   obtain⟨⟨k3,o3,ty3,n3,f3,x3,p3⟩,am3,cm3,ks3⟩:=kd
   clear h0 hf hl ht hat hk1 HKD
   go_enter Tryz.func138,Tryz.ntmps138
   go_wp2_with fail
   refine c1.mono ?_
   rintro e w1 ⟨rfl,hb⟩
   have hN1:=(hb.block w§ (by rw [size_alloc]; omega)).trans (heap_new w _)
   have HB1:Hid (Below w§ w w1):=below2 hb0 hb
   have hk1:=HAT.out.on HB1.out
   simp only [Nat.zero_mul,Nat.add_zero] at hk1
   obtain⟨x0,x1,x2',x3',x4,x5,x6,x7⟩:=hk1
   simp only [Nd.h,Nd.a,Nd.c,Nd.ks] at x0 x1 x2' x3' x4 x5 x6 x7
   have q0:w1.cell? ⟨w§,0,none⟩=some (zU 5):=cell_of hN1 0
   have q1:w1.cell? ⟨w§,1,none⟩=some (zU 1):=cell_of hN1 1
   have q2:w1.cell? ⟨w§,2,none⟩=some (zU ty2):=cell_of hN1 2
   have q3:w1.cell? ⟨w§,3,none⟩=some (zI n2):=cell_of hN1 3
   have q4:w1.cell? ⟨w§,4,none⟩=some (zU f2):=cell_of hN1 4
   have q5:w1.cell? ⟨w§,5,none⟩=some (.string x2):=cell_of hN1 5
   have q6:w1.cell? ⟨w§,6,none⟩=some (.slice (some ⟨B,O,none⟩) 1 cm2):=cell_of hN1 6
   have q7:w1.cell? ⟨w§,7,none⟩=some (zI p2):=cell_of hN1 7
   have r0:=frozen_of hN1 0
   have r1:=frozen_of hN1 1
   have r2:=frozen_of hN1 2
   have r3:=frozen_of hN1 3
   have r4:=frozen_of hN1 4
   have r5:=frozen_of hN1 5
   have r6:=frozen_of hN1 6
   have r7:=frozen_of hN1 7
   obtain⟨Y,eY,hY1,hY2,hY3,hY4⟩:=fin8 hN1 (zU k3) (zU o3) (zU ty3) (zI n3) (zU f3) (.string x3) (.slice am3 ks3.length cm3) (zI p3)
   have HBY:Hid (Below w§ w Y):=(hY4 w (fun _=>False) (Mv.ofBelow HB1.out) (Nat.le_refl _)).below (Nat.le_refl _) (fun _ e=>e.elim)
   have HY1:Hid (Y.heap[w§]? = some (.cells #[zU k3,zU o3,zU ty3,zI n3,zU f3,.string x3,.slice am3 ks3.length cm3,zI p3] 48 (0,0))):=hY1
   have HEY:Hid (_=Y):=eY
   clear hb hN1 c1 HB1 HAT hb0 eY hY1 hY2 hY3 hY4
   go_upto_region 4 with fail
   rw [HEY.out]
   clear q0 q1 q2 q3 q4 q5 q6 q7 r0 r1 r2 r3 r4 r5 r6 r7 x0 x1 x2' x3' x4 x5 x6 x7 HEY
   have y0:Y.cell? ⟨w§,0,none⟩=some (zU k3):=cell_of HY1.out 0
   have y2:Y.cell? ⟨w§,2,none⟩=some (zU ty3):=cell_of HY1.out 2
   have c2:=isNumber_any ty3 Y
   go_wp2_with fail
   refine c2.mono ?_
   rintro e w2 ⟨rfl,e2⟩
   obtain rfl:=e2.symm
   clear c2 e2
   have c3:=need_gives (numB ty3) Y
   rcases c3.two with ⟨h1,c3⟩ | ⟨h1,c3⟩
   ·go_wp2_with fail
    refine c3.mono ?_
    rintro e w3 ⟨rfl,hb3⟩
    have HB3:Hid (Below w§ w w3):=below2 HBY.out hb3
    have z0:w3.cell? ⟨w§,0,none⟩=some (zU k3):=cell_of ((hb3.block _ (Array.getElem?_eq_some_iff.1 HY1.out).1).trans HY1.out) 0
    have c4:=need_gives (decide (k3=1)) w3
    clear c3 hb3 y0 y2 HY1
    rcases c4.two with ⟨h2,c4⟩ | ⟨h2,c4⟩
    ·go_wp2_with fail
     try simp only [beq_eq_decide] at *
     refine c4.mono ?_
     rintro e w4 ⟨rfl,hb4⟩
     have HB4:Hid (Below w§ w w4):=below2 HB3.out hb4
     clear c4 hb4
     go_wp2_with fail
     go_end0
     exact⟨.inl ⟨by rw [fs_z h1]; exact h2,rfl⟩,HB4.out⟩
    ·go_wp2_with fail
     try simp only [beq_eq_decide] at *
     refine c4.mono ?_
     rintro e w4 ⟨rfl,hb4⟩
     exact⟨rfl,.inr ⟨by rw [fs_z h1]; exact h2,by simp only [fs_z h1]; rfl⟩,below2 HB3.out hb4⟩
   ·go_wp2_with fail
    refine c3.mono ?_
    rintro e w3 ⟨rfl,hb3⟩
    exact⟨rfl,.inr ⟨by rw [fs_n h1]; exact h1,by rw [fs_n h1]⟩,below2 HBY.out hb3⟩
  ·rw [if_neg h5]
   obtain⟨⟨k2,o2,ty2,n2,f2,x2,p2⟩,am2,cm2,ks2⟩:=m
   have h5:¬ (k2=5∧o2=1):=h5
   unfold Nd.vals hdA at c1 hb0
   simp only [Nd.h,Nd.a,Nd.c,Nd.ks] at c1 hb0
   unfold Gives
   simp only [Nd.vals,hdA,Nd.h,Nd.a,Nd.c,Nd.ks]
   clear h0 hf hl ht
   have body:∀ w1:World,Below w§ w w1→True:=fun _ _=>trivial
   by_cases hk:k2=5
   ·have ho:¬ o2=1:=fun e=>h5 ⟨hk,e⟩
    subst hk
    have ho2:(o2 == 1)=false:=by simpa using ho
    clear h5 ho
    go_enter Tryz.func138,Tryz.ntmps138
    go_wp2_with fail
    refine c1.mono ?_
    rintro e w1 ⟨rfl,hb⟩
    have hN1:=(hb.block w§ (by rw [size_alloc]; omega)).trans (heap_new w _)
    have HB1:Hid (Below w§ w w1):=below2 hb0 hb
    have q0:w1.cell? ⟨w§,0,none⟩=some (zU 5):=cell_of hN1 0
    have q1:w1.cell? ⟨w§,1,none⟩=some (zU o2):=cell_of hN1 1
    have c4:=(need_gives false w1).some (by decide)
    clear hb hN1 c1 hb0 body
    go_wp2_with fail
    refine c4.mono ?_
    rintro e w4 ⟨rfl,hb4⟩
    exact⟨rfl,.inr ⟨by simp [okE],by simp [okE]⟩,below2 HB1.out hb4⟩
   ·have hk2:(k2 == 5)=false:=by simpa using hk
    clear h5 hk
    go_enter Tryz.func138,Tryz.ntmps138
    go_wp2_with fail
    refine c1.mono ?_
    rintro e w1 ⟨rfl,hb⟩
    have hN1:=(hb.block w§ (by rw [size_alloc]; omega)).trans (heap_new w _)
    have HB1:Hid (Below w§ w w1):=below2 hb0 hb
    have q0:w1.cell? ⟨w§,0,none⟩=some (zU k2):=cell_of hN1 0
    have q1:w1.cell? ⟨w§,1,none⟩=some (zU o2):=cell_of hN1 1
    have c4:=need_gives (decide (k2=1)) w1
    clear hb hN1 c1 hb0 body
    rcases c4.two with ⟨h2,c4⟩ | ⟨h2,c4⟩
    ·go_wp2_with fail
     try simp only [beq_eq_decide] at *
     refine c4.mono ?_
     rintro e w4 ⟨rfl,hb4⟩
     have HB4:Hid (Below w§ w w4):=below2 HB1.out hb4
     clear c4 hb4
     go_wp2_with fail
     go_end0
     exact⟨.inl ⟨h2,rfl⟩,HB4.out⟩
    ·go_wp2_with fail
     try simp only [beq_eq_decide] at *
     refine c4.mono ?_
     rintro e w4 ⟨rfl,hb4⟩
     exact⟨rfl,.inr ⟨h2,rfl⟩,below2 HB1.out hb4⟩
 ·rw [fs_n h0]
  unfold Gives
  unfold Nd.vals hdA at c1 ⊢
  clear hl ht hb0
  go_enter Tryz.func138,Tryz.ntmps138
  go_wp2_with fail
  refine c1.mono ?_
  rintro e w1 ⟨rfl,hb⟩
  exact⟨rfl,.inr ⟨h0,rfl⟩,below2 (below_new _ _) hb⟩
def regE (r:RegM):Int:=fs (namE r.x) (fs (okE (decide (1≤r.t∧r.t≤6))) (initE r.m))
theorem fs3_z {a b c:Int}(h1:a=0) (h2:b=0):fs a (fs b c)=c:=by rw [fs_z h1,fs_z h2]
theorem fs3_n {a b c:Int}(h1:a=0) (h2:¬ b=0):fs a (fs b c)=b:=by rw [fs_z h1,fs_n h2]
theorem nd_rng {w:World}{g:Nat}{cs:Array Value}{t:TypeId}{fr:Nat × Nat}(h:w.heap[g]? = some (.cells cs t fr)) (o:Nat) (m:Nd) (hl:∀ j,j < 8→cs[o+j]? = m.vals.toList[j]?):w.rangeAt g o m.vals.toList:=rng_of h o _ hl
theorem size38 (m:Nd):(Tryz.prog.info? 48).map (·.size)=some m.vals.toList.length:=by show _=some 8; kernel_rfl
theorem reg_m (r:RegM):∀ j,j < 8→r.vals[2+j]? = r.m.vals.toList[j]?:=fun j hj=>by
 match j,hj with
 | 0,_=>rfl
 | 1,_=>rfl
 | 2,_=>rfl
 | 3,_=>rfl
 | 4,_=>rfl
 | 5,_=>rfl
 | 6,_=>rfl
 | 7,_=>rfl
theorem toArr (m:Nd):m.vals.toList.toArray=m.vals:=by simp
set_option maxRecDepth 100000 in
set_option maxHeartbeats 4000000 in
theorem reg_gives (r:RegM) (w:World) (hl:RegL w r) (ht:Tab w):Gives 102 #[.agg r.vals] w (regE r):=by
 have hb0:=below_new w (.cells r.vals 62)
 have hn0:=heap_new w (.cells r.vals 62)
 have HH:Hid (RegL w r∧Tab w):=⟨hl,ht⟩
 have q0:(w.alloc (.cells r.vals 62)).cell? ⟨w§,0,none⟩=some (.string r.x):=cell_of hn0 0
 have HN0:Hid ((w.alloc (.cells r.vals 62)).heap[w§]? = some (.cells r.vals 62 (0,0))):=hn0
 have HB0:Hid (Below w§ w (w.alloc (.cells r.vals 62))):=hb0
 have c1:=(nm_gives (x:=r.x) hl.2.2.2 (ht.on hb0)).two
 obtain⟨E,eE⟩:∃ E,regE r=E:=⟨_,rfl⟩
 have HE:Hid (fs (namE r.x) (fs (okE (decide (1≤r.t∧r.t≤6))) (initE r.m))=E):=eE
 rw [eE]
 clear hl ht eE hb0 hn0
 unfold Gives
 rcases c1 with ⟨h1,c1⟩ | ⟨h1,c1⟩
 ·go_enter Tryz.func102,Tryz.ntmps102
  go_wp2_with fail
  refine c1.mono ?_
  rintro e w1 ⟨rfl,hb⟩
  have HB1:Hid (Below w§ w w1):=below2 HB0.out hb
  have hn1:=(hb.block _ (Array.getElem?_eq_some_iff.1 HN0.out).1).trans HN0.out
  have HN1:Hid (w1.heap[w§]? = some (.cells r.vals 62 (0,0))):=hn1
  have q1:w1.cell? ⟨w§,1,none⟩=some (zU r.t):=cell_of hn1 1
  have c2:=wU_any 137 r.t 1 6 w1 (by simp)
  obtain⟨B,eB⟩:∃ B,decide (1≤r.t∧r.t≤6)=B:=⟨_,rfl⟩
  rw [eB] at c2 HE
  clear eB
  clear c1 hb hn1 q0 HN0 HB0
  go_wp2_with fail
  refine c2.mono ?_
  rintro e w2 ⟨rfl,e2⟩
  obtain rfl:=e2.symm
  have c3:=(need_gives B w1).two
  clear c2 e2
  rcases c3 with ⟨h2,c3⟩ | ⟨h2,c3⟩
  ·go_wp2_with fail
   refine c3.mono ?_
   rintro e w3 ⟨rfl,hb⟩
   have HB3:Hid (Below w§ w w3):=below2 HB1.out hb
   have hn3:=(hb.block _ (Array.getElem?_eq_some_iff.1 HN1.out).1).trans HN1.out
   have HN3:Hid (w3.heap[w§]? = some (.cells r.vals 62 (0,0))):=hn3
   have c4:=(init_gives r.m w3 (HH.out.1.1.on HB3.out) (HH.out.2.on HB3.out)).two
   clear c3 hb hn3 q1 HN1 HB1
   rcases c4 with ⟨h3,c4⟩ | ⟨h3,c4⟩
   ·go_wp2_with (refine wpList_load_mid rfl 48 (.tmp 9) rfl w§ 2 rfl r.m.vals.toList _ (nd_rng HN3.out 2 r.m (reg_m r)) Tryz.underlying48 rfl (size38 r.m) ?_; rw [toArr])
    refine c4.mono ?_
    rintro e w4 ⟨rfl,hb⟩
    have HB4:Hid (Below w§ w w4):=below2 HB3.out hb
    clear c4 hb
    go_wp2_with fail
    go_end0
    exact⟨.inl ⟨by rw [← HE.out,fs3_z h1 h2]; exact h3,rfl⟩,HB4.out⟩
   ·go_wp2_with (refine wpList_load_mid rfl 48 (.tmp 9) rfl w§ 2 rfl r.m.vals.toList _ (nd_rng HN3.out 2 r.m (reg_m r)) Tryz.underlying48 rfl (size38 r.m) ?_; rw [toArr])
    refine c4.mono ?_
    rintro e w4 ⟨rfl,hb⟩
    have hE:E=initE r.m:=by rw [← HE.out,fs3_z h1 h2]
    exact⟨rfl,.inr ⟨by rw [hE]; exact h3,by rw [hE]⟩,below2 HB3.out hb⟩
  ·go_wp2_with fail
   refine c3.mono ?_
   rintro e w3 ⟨rfl,hb⟩
   have hE:E=okE B:=by rw [← HE.out,fs3_n h1 h2]
   exact⟨rfl,.inr ⟨by rw [hE]; exact h2,by rw [hE]⟩,below2 HB1.out hb⟩
 ·go_enter Tryz.func102,Tryz.ntmps102
  go_wp2_with fail
  refine c1.mono ?_
  rintro e w1 ⟨rfl,hb⟩
  have hE:E=namE r.x:=by rw [← HE.out,fs_n h1]
  exact⟨rfl,.inr ⟨by rw [hE]; exact h1,by rw [hE]⟩,below2 HB0.out hb⟩
theorem take_l {w:World}{b:Nat}{K:PK}{t:Tk}{ts:List Tk}(hK:KG K) (h:Lv w b K (t :: ts)) (x:ByteArray) (hx:(lx x.data.toList).map (·.1)=some 1∨(lx x.data.toList).map (·.1)=some 4) (ht:t.x=x) :
  Calls zG 55 #[zP b,.string x] w fun e w'=>e=.returned (zI t.p)∧Lv w' b K ts∧Mv w w' (fun k=>k=b):=by
 refine (take_live h x (kw_gd (h.gd hK) hx)).mono ?_
 rintro e w' ⟨⟨p,rfl,h1⟩,h2,h3⟩
 rw [if_pos ht] at h2
 rw [h1 ht]
 exact⟨rfl,h2,h3⟩
theorem is_l {w:World}{b:Nat}{K:PK}{t:Tk}{ts:List Tk}(hK:KG K) (h:Lv w b K (t :: ts)) (x:ByteArray) (hx:(lx x.data.toList).map (·.1)=some 1∨(lx x.data.toList).map (·.1)=some 4) {i:Bool}(hi:pIs x (t :: ts)=i) :
  Calls zG 57 #[zP b,.string x] w fun e w'=>e=.returned (.bool i)∧Below w§ w w':=by
 subst hi
 exact is_live h x (kw_gd (h.gd hK) hx)
set_option maxRecDepth 100000 in
theorem name_l {w:World}{b:Nat}{K:PK}{t:Tk}{ts:List Tk}(h:Lv w b K (t :: ts)) (hk:t.k=2) :
  Calls zG 56 #[zP b] w fun e w'=>e=.returned (.string t.x)∧Lv w' b K ts∧Mv w w' (fun k=>k=b):=by
 have cN:=live_now h
 have HH:=h.hid
 unfold tkA at cN
 rw [hk] at cN
 clear h hk
 go_enter Tryz.func56,Tryz.ntmps56
 go_wp2_with fail
 refine cN.mono ?_
 rintro e w1 ⟨rfl,hb⟩
 have HB:Hid (Below w§ w (w1.alloc (.cells #[zU 2,.string t.x,zU t.ty,zI t.n,zI t.p] 148))):=below2 hb (below_new _ _)
 have hN:=heap_new w1 (.cells #[zU 2,.string t.x,zU t.ty,zI t.n,zI t.p] 148)
 obtain⟨i,c3,f3,hmx,hL,hM,ho,_⟩:=(HH.out.on HB.out).at'
 have hbl:=HH.out.lt
 have hsz:=hb.size
 have k1:((w1.alloc (.cells #[zU 2,.string t.x,zU t.ty,zI t.n,zI t.p] 148)).setCell ⟨b,3,none⟩ (zI ((i:Int)+1))).cell? ⟨w1§,1,none⟩=some (.string t.x):=cell_of ((ho w1§ (by omega)).trans hN) 1
 obtain⟨W,eW⟩:∃ W,w1.alloc (.cells #[zU 2,.string t.x,zU t.ty,zI t.n,zI t.p] 148)=W:=⟨_,rfl⟩
 have k0:W.cell? ⟨w1§,0,none⟩=some (zU 2):=by rw [← eW]; exact cell_of hN 0
 rw [eW] at HB c3 f3 hL hM k1
 have HL:=hL.hid
 have HM:Hid (Mv W _ (fun k=>k=b)):=hM
 clear cN hb hN hL hM ho hbl hsz
 obtain⟨Y,eY⟩:∃ Y,W.setCell ⟨b,3,none⟩ (zI ((i:Int)+1))=Y:=⟨_,rfl⟩
 rw [eY] at HL HM k1
 go_wp2_with fail
 try rw [eW]
 go_wp2_with fail
 go_ret
 first | exact⟨rfl,HL.out,(Mv.ofBelow HB.out).trans HM.out (fun k e=>.inl e)⟩ | (rw [eY]; exact⟨rfl,HL.out,(Mv.ofBelow HB.out).trans HM.out (fun k e=>.inl e)⟩)
theorem lies_leaf (U:World) {h:Hd}(hr:Rg h):Lies U (.mk h none 0 []):=.mk h none 0 [] hr (by simp) (by omega) (fun i hi=>by simp at hi) (fun k hk=>by simp at hk)
theorem lit_l {w:World}{b:Nat}{K:PK}{t:Tk}{ts:List Tk}(hK:KG K) (h:Lv w b K (t :: ts)) (hv:(valT t).1≠0) :
  Calls zG 93 #[zP b] w fun e w'=>∃ m:Nd,e=.returned (.tuple #[.agg m.vals,.bool true])∧treeOf m=.mk ⟨1,0,(valT t).1,(valT t).2,0,gE,t.p⟩ []∧(∀ U,Lies U m)∧Lv w' b K ts∧Mv w w' (fun k=>k=b):=by
 refine (literal_ok h (h.ok hK.k) hv).mono ?_
 rintro e w' ⟨rfl,h1,h2⟩
 exact⟨litN t,rfl,rfl,fun U=>lies_leaf U (h.ok hK.k).r.val,h1,h2⟩
theorem expr_l {w:World}{b:Nat}{K:PK}{t:Tk}{ts:List Tk}{r:Tr}{u:Tk}{us:List Tk}(hK:KG K) (h:Lv w b K (t :: ts)) (hp:pEx (t :: ts)=some (r,u :: us)) :
  Calls zG 52 #[zP b,zI 0] w fun e w'=>∃ m:Nd,e=.returned (.agg m.vals)∧treeOf m=r∧Dp w w' (fun U=>Lies U m)∧Lv w' b K (u :: us)∧Mv w w' (fun k=>k=b):=by
 refine (expr0_d hK.k w (.ok (t :: ts)) ⟨by simp,h⟩).mono ?_
 rintro e w' ⟨m,rfl,h1,h2,h3,h4,h5⟩
 unfold pEx at hp
 have hr:rd exprT (.ok (t :: ts))=exprT (t :: ts):=rfl
 rw [hr] at h3 h5
 cases hx:exprT (t :: ts) with
 | error f=>rw [hx] at hp; cases hp
 | ok q =>
  rw [hx] at hp h3
  cases hp
  exact⟨m,rfl,h5 _ hx,dp_lies h1 h2,h3.2,h4⟩
theorem HX.cellA {w:World}{b:Nat}{K:PK}{V:World}{pre post:List (Nat × Nat × Array Value)}{N:Nat}{e sz:Nat}{v:Value}{vs:List (Array Value)}{F:World→Prop}{ts:List Tk}{T:Nat}{cs:Array Value}(h:HX w b K V (pre ++ (N,T,cs) :: post) e sz v vs F ts) (i:Nat) (hi:i < cs.size):∃ u,V.cell? ⟨N,i,none⟩=some u∧V.frozen? ⟨N,i,none⟩=false:=by
 have hb:=(h.B (N,T,cs) (by simp)).1
 refine⟨cs[i],?_,frozen_of hb i⟩
 rw [cell_of hb i,Array.getElem?_eq_getElem hi]
def nd00:Nd:=.mk ⟨0,0,0,0,0,gE,0⟩ none 0 []
theorem doSd_eq (k o:Int) (x:ByteArray) (s q r u m:Nd) (p:Int):set8 (doA k o x s q r u p) 3 m=doA k o x m q r u p:=by kernel_rfl
theorem HX.doSd {w:World}{b:Nat}{K:PK}{V:World}{post:List (Nat × Nat × Array Value)}{N:Nat}{e sz:Nat}{v:Value}{vs:List (Array Value)}{F:World→Prop}{ts:List Tk}{k o:Int}{x:ByteArray}{s q r u:Nd}{p:Int}(h:HX w b K V ((N,105,doA k o x s q r u p) :: post) e sz v vs F ts) (m:Nd):HX w b K ((((((((V.setCell ⟨N,3,none⟩ (zU m.h.k)).setCell ⟨N,4,none⟩ (zU m.h.o)).setCell ⟨N,5,none⟩ (zU m.h.t)).setCell ⟨N,6,none⟩ (zI m.h.n)).setCell ⟨N,7,none⟩ (zU m.h.f)).setCell ⟨N,8,none⟩ (.string m.h.x)).setCell ⟨N,9,none⟩ (.slice m.a m.ks.length m.c)).setCell ⟨N,10,none⟩ (zI m.h.p)) ((N,105,doA k o x m q r u p) :: post) e sz v vs F ts:=by
 have h':=HX.nodeA (pre:=[]) h 3 m
 rw [doSd_eq] at h'
 exact h'
theorem doQt_eq (k o:Int) (x:ByteArray) (s q r u m:Nd) (p:Int):set8 (doA k o x s q r u p) 11 m=doA k o x s m r u p:=by kernel_rfl
theorem HX.doQt {w:World}{b:Nat}{K:PK}{V:World}{post:List (Nat × Nat × Array Value)}{N:Nat}{e sz:Nat}{v:Value}{vs:List (Array Value)}{F:World→Prop}{ts:List Tk}{k o:Int}{x:ByteArray}{s q r u:Nd}{p:Int}(h:HX w b K V ((N,105,doA k o x s q r u p) :: post) e sz v vs F ts) (m:Nd):HX w b K ((((((((V.setCell ⟨N,11,none⟩ (zU m.h.k)).setCell ⟨N,12,none⟩ (zU m.h.o)).setCell ⟨N,13,none⟩ (zU m.h.t)).setCell ⟨N,14,none⟩ (zI m.h.n)).setCell ⟨N,15,none⟩ (zU m.h.f)).setCell ⟨N,16,none⟩ (.string m.h.x)).setCell ⟨N,17,none⟩ (.slice m.a m.ks.length m.c)).setCell ⟨N,18,none⟩ (zI m.h.p)) ((N,105,doA k o x s m r u p) :: post) e sz v vs F ts:=by
 have h':=HX.nodeA (pre:=[]) h 11 m
 rw [doQt_eq] at h'
 exact h'
theorem doPr_eq (k o:Int) (x:ByteArray) (s q r u m:Nd) (p:Int):set8 (doA k o x s q r u p) 19 m=doA k o x s q m u p:=by kernel_rfl
theorem HX.doPr {w:World}{b:Nat}{K:PK}{V:World}{post:List (Nat × Nat × Array Value)}{N:Nat}{e sz:Nat}{v:Value}{vs:List (Array Value)}{F:World→Prop}{ts:List Tk}{k o:Int}{x:ByteArray}{s q r u:Nd}{p:Int}(h:HX w b K V ((N,105,doA k o x s q r u p) :: post) e sz v vs F ts) (m:Nd):HX w b K ((((((((V.setCell ⟨N,19,none⟩ (zU m.h.k)).setCell ⟨N,20,none⟩ (zU m.h.o)).setCell ⟨N,21,none⟩ (zU m.h.t)).setCell ⟨N,22,none⟩ (zI m.h.n)).setCell ⟨N,23,none⟩ (zU m.h.f)).setCell ⟨N,24,none⟩ (.string m.h.x)).setCell ⟨N,25,none⟩ (.slice m.a m.ks.length m.c)).setCell ⟨N,26,none⟩ (zI m.h.p)) ((N,105,doA k o x s q m u p) :: post) e sz v vs F ts:=by
 have h':=HX.nodeA (pre:=[]) h 19 m
 rw [doPr_eq] at h'
 exact h'
theorem doVl_eq (k o:Int) (x:ByteArray) (s q r u m:Nd) (p:Int):set8 (doA k o x s q r u p) 27 m=doA k o x s q r m p:=by kernel_rfl
theorem HX.doVl {w:World}{b:Nat}{K:PK}{V:World}{post:List (Nat × Nat × Array Value)}{N:Nat}{e sz:Nat}{v:Value}{vs:List (Array Value)}{F:World→Prop}{ts:List Tk}{k o:Int}{x:ByteArray}{s q r u:Nd}{p:Int}(h:HX w b K V ((N,105,doA k o x s q r u p) :: post) e sz v vs F ts) (m:Nd):HX w b K ((((((((V.setCell ⟨N,27,none⟩ (zU m.h.k)).setCell ⟨N,28,none⟩ (zU m.h.o)).setCell ⟨N,29,none⟩ (zU m.h.t)).setCell ⟨N,30,none⟩ (zI m.h.n)).setCell ⟨N,31,none⟩ (zU m.h.f)).setCell ⟨N,32,none⟩ (.string m.h.x)).setCell ⟨N,33,none⟩ (.slice m.a m.ks.length m.c)).setCell ⟨N,34,none⟩ (zI m.h.p)) ((N,105,doA k o x s q r m p) :: post) e sz v vs F ts:=by
 have h':=HX.nodeA (pre:=[]) h 27 m
 rw [doVl_eq] at h'
 exact h'
theorem HX.doO {w:World}{b:Nat}{K:PK}{V:World}{post:List (Nat × Nat × Array Value)}{N:Nat}{e sz:Nat}{v:Value}{vs:List (Array Value)}{F:World→Prop}{ts:List Tk}{k o:Int}{x:ByteArray}{s q r u:Nd}{p:Int}(h:HX w b K V ((N,105,doA k o x s q r u p) :: post) e sz v vs F ts) (o':Int):HX w b K (V.setCell ⟨N,1,none⟩ (zU o')) ((N,105,doA k o' x s q r u p) :: post) e sz v vs F ts:=HX.setA (pre:=[]) h 1 (zU o')
theorem HX.doX {w:World}{b:Nat}{K:PK}{V:World}{post:List (Nat × Nat × Array Value)}{N:Nat}{e sz:Nat}{v:Value}{vs:List (Array Value)}{F:World→Prop}{ts:List Tk}{k o:Int}{x:ByteArray}{s q r u:Nd}{p:Int}(h:HX w b K V ((N,105,doA k o x s q r u p) :: post) e sz v vs F ts) (x':ByteArray):HX w b K (V.setCell ⟨N,2,none⟩ (.string x')) ((N,105,doA k o x' s q r u p) :: post) e sz v vs F ts:=HX.setA (pre:=[]) h 2 (.string x')
theorem dp_new (V:World) (o:Obj):Dp V (V.alloc o) (fun U=>U.heap[V§]? = some o):=fun U hU=>(hU V§ (Nat.le_refl _) (by rw [size_alloc]; omega)).trans (heap_new V o)
theorem all36 (k o:Int) (x:ByteArray) (s q r u:Nd) (p:Int):(doA k o x s q r u p).all (·.oneCell')=true:=by
 simp [doA,Value.oneCell']
theorem doA_sz (k o:Int) (x:ByteArray) (s q r u:Nd) (p:Int):(doA k o x s q r u p).size=36:=rfl
end Go.Proofs.YtoogodlnnijikaaGreatDoor
