import Derived.Test.YtjimaceccllnlaaGreatDoorA0
import Derived.Test.YtjimaceccllnlaaGreatDoorA5
import Derived.Test.YtjimaceccllnlaaGreatDoorA14
import Derived.Deep.MidRow
namespace Go.Proofs.YtjimaceccllnlaaGreatDoor
open Go.RowKit
set_option linter.unusedVariables false
def fs (a b:Int):Int:=if a=0 then b else a
theorem fs_z {a b:Int}(h:a=0):fs a b=b:=if_pos h
theorem fs_n {a b:Int}(h:¬ a=0):fs a b=a:=if_neg h
def fsL:List Int→Int
 | []=>0
 | a :: l=>fs a (fsL l)
def namE (x:ByteArray):Int:=if nameB x=true then 0 else 120
def cntE (n l m:Int):Int:=if n < l then 120 else if m < n then 121 else 0
def okE (ok:Bool):Int:=if ok=true then 0 else 120
theorem need_gives (ok:Bool) (w:World):Gives 98 #[.bool ok,zI 120] w (okE ok):=by
 refine (need_any ok 120 w).mono ?_
 rintro e w' ⟨rfl,rfl⟩
 cases ok with
 | true=>exact⟨.inl ⟨rfl,rfl⟩,Below.refl _ _⟩
 | false=>exact⟨.inr ⟨by decide,rfl⟩,Below.refl _ _⟩
theorem nm_gives {x:ByteArray}(hs:SzX x) {w:World}(ht:Tab w):Gives 136 #[.string x] w (namE x):=by
 have cN:=namep_any x hs w ht
 obtain⟨B,eB⟩:∃ B,nameB x=B:=⟨_,rfl⟩
 have hE:namE x=okE B:=by unfold namE okE; rw [eB]
 rw [hE]
 rw [eB] at cN
 clear hE eB
 unfold Gives
 go_enter Tryz.func136,Tryz.ntmps136
 go_wp2_with fail
 refine cN.mono ?_
 rintro e w1 ⟨rfl,hb⟩
 have HB:=zH hb
 have c2:=need_gives B w1
 unfold Gives at c2
 clear cN hb
 go_wp2_with fail
 refine c2.mono ?_
 rintro e w2 ⟨⟨h0,rfl⟩ | ⟨h0,rfl⟩,hb⟩
 ·have HB2:Hid (Below w§ w w2):=below2 HB.out hb
  clear c2 hb
  go_wp2_with fail
  go_end0
  exact⟨.inl ⟨h0,rfl⟩,HB2.out⟩
 ·exact⟨rfl,.inr ⟨h0,rfl⟩,below2 HB.out hb⟩
theorem cnt_gives (n l m:Int) (w:World):Gives 137 #[zI n,zI l,zI m] w (cntE n l m):=by
 unfold Gives
 by_cases h1:l≤n
 ·have d1:decide (l≤n)=true:=decide_eq_true h1
  by_cases h2:n≤m
  ·have e0:cntE n l m=0:=by unfold cntE; rw [if_neg (by omega),if_neg (by omega)]
   rw [e0]
   exact (count_ok n l m h1 h2 w).mono fun e w' h=>⟨.inl ⟨rfl,h.1⟩,by rw [h.2]; exact Below.refl _ _⟩
  ·have d2:decide (n≤m)=false:=decide_eq_false h2
   have e0:cntE n l m=121:=by unfold cntE; rw [if_neg (by omega),if_pos (by omega)]
   rw [e0]
   clear e0 h1 h2
   go_enter Tryz.func137,Tryz.ntmps137
   go_wp2_with fail
   refine (need_t 120 _).mono ?_
   rintro e w1 ⟨rfl,e1⟩
   obtain rfl:=e1.symm
   clear e1
   go_wp2_with fail
   refine (need_f 121 _).mono ?_
   rintro e w1 ⟨rfl,rfl⟩
   exact⟨rfl,.inr ⟨by decide,rfl⟩,Below.refl _ _⟩
 ·have d1:decide (l≤n)=false:=decide_eq_false h1
  have e0:cntE n l m=120:=by unfold cntE; rw [if_pos (by omega)]
  rw [e0]
  clear e0 h1
  go_enter Tryz.func137,Tryz.ntmps137
  go_wp2_with fail
  refine (need_f 120 _).mono ?_
  rintro e w1 ⟨rfl,rfl⟩
  exact⟨rfl,.inr ⟨by decide,rfl⟩,Below.refl _ _⟩
theorem rng_of {w:World}{g:Nat}{cs:Array Value}{t:TypeId}{fr:Nat × Nat}(h:w.heap[g]? = some (.cells cs t fr)) (o:Nat) (l:List Value) (hl:∀ j,j < l.length→cs[o+j]? = l[j]?):w.rangeAt g o l:=fun j v hv=>by
 have hj:j < l.length:=(List.getElem?_eq_some_iff.1 hv).1
 rw [Co h,hl j hj,hv]
set_option maxRecDepth 100000
set_option maxHeartbeats 4000000
def kid0 (m:Nd):Nd:=m.ks.getD 0 nd0
def initE (m:Nd):Int:=fs (fE m) (if m.h.k=5∧m.h.o=1 then fs (okE (numB (kid0 m).h.t)) (okE (decide ((kid0 m).h.k=1))) else okE (decide (m.h.k=1)))
theorem form_kid {m:Nd}(h:formB m=true) (h5:m.h.k=5):m.ks.length=1:=by
 obtain⟨hd,a,c,ks⟩:=m
 have h5:hd.k=5:=h5
 have h1:(oneH hd ks.length && formsB ks)=true:=h
 rw [Bool.and_eq_true] at h1
 have h2:=h1.1
 unfold oneH at h2
 rw [Bool.and_eq_true] at h2
 have h3:=h2.2
 unfold fitB at h3
 rw [if_neg (by omega),if_neg (by omega),if_neg (by omega),if_neg (by omega),if_pos h5,Bool.and_eq_true] at h3
 exact of_decide_eq_true h3.1
theorem Gives.two {F:Nat}{args:Array Value}{w:World}{E:Int}(c:Gives F args w E):(E=0∧Calls zG F args w fun e w'=>e=.returned (.tuple #[])∧Below w§ w w')∨(¬ E=0∧Calls zG F args w fun e w'=>e=.panicked [{ v:=.iface 46 (zI E),recovered:=false }]∧Below w§ w w'):=by
 by_cases h:E=0
 ·subst h; exact .inl ⟨rfl,c.zero⟩
 ·exact .inr ⟨h,c.some h⟩
theorem init_gives (m:Nd) (w:World) (hl:Lies w m) (ht:Tab w):Gives 168 #[.agg m.vals] w (initE m):=by
 have hb0:=Bn w (.cells m.vals 28)
 have c0:=form_gives (hl.on hb0) (ht.on hb0)
 unfold initE
 have c02:=c0.two
 clear c0
 rcases c02 with ⟨h0,c1⟩ | ⟨h0,c1⟩
 ·rw [fs_z h0]
  have hf:formB m=true:=by
   unfold fE at h0
   by_cases h:formB m=true
   ·exact h
   ·rw [if_neg h] at h0; cases h0
  by_cases h5:m.h.k=5∧m.h.o=1
  ·rw [if_pos h5]
   have hk1:=form_kid hf h5.1
   obtain⟨⟨k2,o2,ty2,n2,f2,x2,p2⟩,am2,cm2,ks2⟩:=m
   obtain⟨rfl,rfl⟩:k2=5∧o2=1:=h5
   have hk1:ks2.length=1:=hk1
   obtain⟨kd,rfl⟩:∃ k,ks2 = [k]:=List.length_eq_one_iff.1 hk1
   obtain⟨B,O,ea,hat⟩:=hl.kid 0 (by show 0 < 1; omega)
   have ea:am2=some ⟨B,O,none⟩:=ea
   subst ea
   have hat:NdAt w B (O+0 * 8) kd:=hat
   have HAT:=hat.hid
   have hcap:1≤cm2:=hl.cap
   have HKD : Hid (kid0 (.mk ⟨5, 1, ty2, n2, f2, x2, p2⟩ (some ⟨B, O, none⟩) cm2 [kd]) = kd) := rfl
   rw [HKD.out]
   unfold Nd.vals hdA at c1 hb0
   simp only [Nd.h,Nd.a,Nd.c,Nd.ks,List.length_cons,List.length_nil,Nat.zero_add] at c1 hb0
   unfold Gives
   simp only [Nd.vals,hdA,Nd.h,Nd.a,Nd.c,Nd.ks,List.length_cons,List.length_nil,Nat.zero_add]
   obtain⟨⟨k3,o3,ty3,n3,f3,x3,p3⟩,am3,cm3,ks3⟩:=kd
   clear h0 hf hl ht hat hk1 HKD
   go_enter Tryz.func168,Tryz.ntmps168
   go_wp2_with fail
   refine c1.mono ?_
   rintro e w1 ⟨rfl,hb⟩
   have hN1:=(hb.block w§ (by rw [Sa]; omega)).trans (Hn w _)
   have HB1:Hid (Below w§ w w1):=below2 hb0 hb
   have hk1:=HAT.out.on HB1.out
   simp only [Nat.zero_mul,Nat.add_zero] at hk1
   obtain⟨x0,x1,x2',x3',x4,x5,x6,x7⟩:=hk1
   simp only [Nd.h,Nd.a,Nd.c,Nd.ks] at x0 x1 x2' x3' x4 x5 x6 x7
   obtain⟨q0,q1,q2,q3,q4,q5,q6,q7⟩:=cl8 hN1
   have r0:=Fo hN1 0
   have r1:=Fo hN1 1
   have r2:=Fo hN1 2
   have r3:=Fo hN1 3
   have r4:=Fo hN1 4
   have r5:=Fo hN1 5
   have r6:=Fo hN1 6
   have r7:=Fo hN1 7
   obtain⟨Y,eY,hY1,hY2,hY3,hY4⟩:=fin8 hN1 (zU k3) (zU o3) (zU ty3) (zI n3) (zU f3) (.string x3) (.slice am3 ks3.length cm3) (zI p3)
   have HBY:Hid (Below w§ w Y):=(hY4 w (fun _=>False) (Mv.ofBelow HB1.out) (Nat.le_refl _)).below (Nat.le_refl _) (fun _ e=>e.elim)
   have HY1:Hid (Y.heap[w§]? = some (.cells (zN k3 o3 ty3 n3 f3 x3 am3 ks3 cm3 p3) 28 (0,0))):=hY1
   have HEY:Hid (_=Y):=eY
   clear hb hN1 c1 HB1 HAT hb0 eY hY1 hY2 hY3 hY4
   go_upto_region 4 with fail
   rw [HEY.out]
   clear q0 q1 q2 q3 q4 q5 q6 q7 r0 r1 r2 r3 r4 r5 r6 r7 x0 x1 x2' x3' x4 x5 x6 x7 HEY
   have y0:Y.cell? ⟨w§,0,none⟩=some (zU k3):=Co HY1.out 0
   have y2:Y.cell? ⟨w§,2,none⟩=some (zU ty3):=Co HY1.out 2
   have c2:=isNumber_any ty3 Y
   go_wp2_with fail
   refine c2.mono ?_
   rintro e w2 ⟨rfl,e2⟩
   obtain rfl:=e2.symm
   clear c2 e2
   have c3:=need_gives (numB ty3) Y
   rcases c3.two with ⟨h1,c3⟩ | ⟨h1,c3⟩
   ·go_wp2_with fail
    refine c3.mono ?_
    rintro e w3 ⟨rfl,hb3⟩
    have HB3:Hid (Below w§ w w3):=below2 HBY.out hb3
    have z0:w3.cell? ⟨w§,0,none⟩=some (zU k3):=Co ((hb3.block _ (Array.getElem?_eq_some_iff.1 HY1.out).1).trans HY1.out) 0
    have c4:=need_gives (decide (k3=1)) w3
    clear c3 hb3 y0 y2 HY1
    rcases c4.two with ⟨h2,c4⟩ | ⟨h2,c4⟩
    ·go_wp2_with fail
     try simp only [beq_eq_decide] at *
     refine c4.mono ?_
     rintro e w4 ⟨rfl,hb4⟩
     have HB4:Hid (Below w§ w w4):=below2 HB3.out hb4
     clear c4 hb4
     go_wp2_with fail
     go_end0
     exact⟨.inl ⟨by rw [fs_z h1]; exact h2,rfl⟩,HB4.out⟩
    ·go_wp2_with fail
     try simp only [beq_eq_decide] at *
     refine c4.mono ?_
     rintro e w4 ⟨rfl,hb4⟩
     exact⟨rfl,.inr ⟨by rw [fs_z h1]; exact h2,by simp only [fs_z h1]; rfl⟩,below2 HB3.out hb4⟩
   ·go_wp2_with fail
    refine c3.mono ?_
    rintro e w3 ⟨rfl,hb3⟩
    exact⟨rfl,.inr ⟨by rw [fs_n h1]; exact h1,by rw [fs_n h1]⟩,below2 HBY.out hb3⟩
  ·rw [if_neg h5]
   obtain⟨⟨k2,o2,ty2,n2,f2,x2,p2⟩,am2,cm2,ks2⟩:=m
   have h5:¬ (k2=5∧o2=1):=h5
   unfold Nd.vals hdA at c1 hb0
   simp only [Nd.h,Nd.a,Nd.c,Nd.ks] at c1 hb0
   unfold Gives
   simp only [Nd.vals,hdA,Nd.h,Nd.a,Nd.c,Nd.ks]
   clear h0 hf hl ht
   have body:∀ w1:World,Below w§ w w1→True:=fun _ _=>trivial
   by_cases hk:k2=5
   ·have ho:¬ o2=1:=fun e=>h5 ⟨hk,e⟩
    subst hk
    have ho2:(o2 == 1)=false:=by simpa using ho
    clear h5 ho
    go_enter Tryz.func168,Tryz.ntmps168
    go_wp2_with fail
    refine c1.mono ?_
    rintro e w1 ⟨rfl,hb⟩
    have hN1:=(hb.block w§ (by rw [Sa]; omega)).trans (Hn w _)
    have HB1:Hid (Below w§ w w1):=below2 hb0 hb
    have q0:w1.cell? ⟨w§,0,none⟩=some (zU 5):=Co hN1 0
    have q1:w1.cell? ⟨w§,1,none⟩=some (zU o2):=Co hN1 1
    have c4:=(need_gives false w1).some (by decide)
    clear hb hN1 c1 hb0 body
    go_wp2_with fail
    refine c4.mono ?_
    rintro e w4 ⟨rfl,hb4⟩
    exact⟨rfl,.inr ⟨by simp [okE],by simp [okE]⟩,below2 HB1.out hb4⟩
   ·have hk2:(k2 == 5)=false:=by simpa using hk
    clear h5 hk
    go_enter Tryz.func168,Tryz.ntmps168
    go_wp2_with fail
    refine c1.mono ?_
    rintro e w1 ⟨rfl,hb⟩
    have hN1:=(hb.block w§ (by rw [Sa]; omega)).trans (Hn w _)
    have HB1:Hid (Below w§ w w1):=below2 hb0 hb
    have q0:w1.cell? ⟨w§,0,none⟩=some (zU k2):=Co hN1 0
    have q1:w1.cell? ⟨w§,1,none⟩=some (zU o2):=Co hN1 1
    have c4:=need_gives (decide (k2=1)) w1
    clear hb hN1 c1 hb0 body
    rcases c4.two with ⟨h2,c4⟩ | ⟨h2,c4⟩
    ·go_wp2_with fail
     try simp only [beq_eq_decide] at *
     refine c4.mono ?_
     rintro e w4 ⟨rfl,hb4⟩
     have HB4:Hid (Below w§ w w4):=below2 HB1.out hb4
     clear c4 hb4
     go_wp2_with fail
     go_end0
     exact⟨.inl ⟨h2,rfl⟩,HB4.out⟩
    ·go_wp2_with fail
     try simp only [beq_eq_decide] at *
     refine c4.mono ?_
     rintro e w4 ⟨rfl,hb4⟩
     exact⟨rfl,.inr ⟨h2,rfl⟩,below2 HB1.out hb4⟩
 ·rw [fs_n h0]
  unfold Gives
  unfold Nd.vals hdA at c1 ⊢
  clear hl ht hb0
  go_enter Tryz.func168,Tryz.ntmps168
  go_wp2_with fail
  refine c1.mono ?_
  rintro e w1 ⟨rfl,hb⟩
  exact⟨rfl,.inr ⟨h0,rfl⟩,below2 (Bn _ _) hb⟩
def regE (r:RegM):Int:=fs (namE r.x) (fs (okE (decide (1≤r.t∧r.t≤6))) (initE r.m))
theorem fs3_z {a b c:Int}(h1:a=0) (h2:b=0):fs a (fs b c)=c:=by rw [fs_z h1,fs_z h2]
theorem fs3_n {a b c:Int}(h1:a=0) (h2:¬ b=0):fs a (fs b c)=b:=by rw [fs_z h1,fs_n h2]
theorem nd_rng {w:World}{g:Nat}{cs:Array Value}{t:TypeId}{fr:Nat × Nat}(h:w.heap[g]? = some (.cells cs t fr)) (o:Nat) (m:Nd) (hl:∀ j,j < 8→cs[o+j]? = m.vals.toList[j]?):w.rangeAt g o m.vals.toList:=rng_of h o _ hl
theorem size38 (m:Nd):(Tryz.prog.info? 28).map (·.size)=some m.vals.toList.length:=by show _=some 8; kernel_rfl
theorem reg_m (r:RegM):∀ j,j < 8→r.vals[2+j]? = r.m.vals.toList[j]?:=fun j hj=>by
 match j,hj with
 | 0,_=>rfl
 | 1,_=>rfl
 | 2,_=>rfl
 | 3,_=>rfl
 | 4,_=>rfl
 | 5,_=>rfl
 | 6,_=>rfl
 | 7,_=>rfl
theorem toArr (m:Nd):m.vals.toList.toArray=m.vals:=by simp
theorem reg_gives (r:RegM) (w:World) (hl:RegL w r) (ht:Tab w):Gives 138 #[.agg r.vals] w (regE r):=by
 have hb0:=Bn w (.cells r.vals 77)
 have hn0:=Hn w (.cells r.vals 77)
 have HH:Hid (RegL w r∧Tab w):=⟨hl,ht⟩
 have q0:(w.alloc (.cells r.vals 77)).cell? ⟨w§,0,none⟩=some (.string r.x):=Co hn0 0
 have HN0:Hid ((w.alloc (.cells r.vals 77)).heap[w§]? = some (.cells r.vals 77 (0,0))):=hn0
 have HB0:Hid (Below w§ w (w.alloc (.cells r.vals 77))):=hb0
 have c1:=(nm_gives (x:=r.x) hl.2.2.2 (ht.on hb0)).two
 obtain⟨E,eE⟩:∃ E,regE r=E:=⟨_,rfl⟩
 have HE:Hid (fs (namE r.x) (fs (okE (decide (1≤r.t∧r.t≤6))) (initE r.m))=E):=eE
 rw [eE]
 clear hl ht eE hb0 hn0
 unfold Gives
 rcases c1 with ⟨h1,c1⟩ | ⟨h1,c1⟩
 ·go_enter Tryz.func138,Tryz.ntmps138
  go_wp2_with fail
  refine c1.mono ?_
  rintro e w1 ⟨rfl,hb⟩
  have HB1:Hid (Below w§ w w1):=below2 HB0.out hb
  have hn1:=(hb.block _ (Array.getElem?_eq_some_iff.1 HN0.out).1).trans HN0.out
  have HN1:Hid (w1.heap[w§]? = some (.cells r.vals 77 (0,0))):=hn1
  have q1:w1.cell? ⟨w§,1,none⟩=some (zU r.t):=Co hn1 1
  have c2:=wU_any 167 r.t 1 6 w1 (by simp)
  obtain⟨B,eB⟩:∃ B,decide (1≤r.t∧r.t≤6)=B:=⟨_,rfl⟩
  rw [eB] at c2 HE
  clear eB
  clear c1 hb hn1 q0 HN0 HB0
  go_wp2_with fail
  refine c2.mono ?_
  rintro e w2 ⟨rfl,e2⟩
  obtain rfl:=e2.symm
  have c3:=(need_gives B w1).two
  clear c2 e2
  rcases c3 with ⟨h2,c3⟩ | ⟨h2,c3⟩
  ·go_wp2_with fail
   refine c3.mono ?_
   rintro e w3 ⟨rfl,hb⟩
   have HB3:Hid (Below w§ w w3):=below2 HB1.out hb
   have hn3:=(hb.block _ (Array.getElem?_eq_some_iff.1 HN1.out).1).trans HN1.out
   have HN3:Hid (w3.heap[w§]? = some (.cells r.vals 77 (0,0))):=hn3
   have c4:=(init_gives r.m w3 (HH.out.1.1.on HB3.out) (HH.out.2.on HB3.out)).two
   clear c3 hb hn3 q1 HN1 HB1
   rcases c4 with ⟨h3,c4⟩ | ⟨h3,c4⟩
   ·go_wp2_with (refine wpList_load_mid rfl 28 (.tmp 9) rfl w§ 2 rfl r.m.vals.toList _ (nd_rng HN3.out 2 r.m (reg_m r)) Tryz.underlying28 rfl (size38 r.m) ?_; rw [toArr])
    refine c4.mono ?_
    rintro e w4 ⟨rfl,hb⟩
    have HB4:Hid (Below w§ w w4):=below2 HB3.out hb
    clear c4 hb
    go_wp2_with fail
    go_end0
    exact⟨.inl ⟨by rw [← HE.out,fs3_z h1 h2]; exact h3,rfl⟩,HB4.out⟩
   ·go_wp2_with (refine wpList_load_mid rfl 28 (.tmp 9) rfl w§ 2 rfl r.m.vals.toList _ (nd_rng HN3.out 2 r.m (reg_m r)) Tryz.underlying28 rfl (size38 r.m) ?_; rw [toArr])
    refine c4.mono ?_
    rintro e w4 ⟨rfl,hb⟩
    have hE:E=initE r.m:=by rw [← HE.out,fs3_z h1 h2]
    exact⟨rfl,.inr ⟨by rw [hE]; exact h3,by rw [hE]⟩,below2 HB3.out hb⟩
  ·go_wp2_with fail
   refine c3.mono ?_
   rintro e w3 ⟨rfl,hb⟩
   have hE:E=okE B:=by rw [← HE.out,fs3_n h1 h2]
   exact⟨rfl,.inr ⟨by rw [hE]; exact h2,by rw [hE]⟩,below2 HB1.out hb⟩
 ·go_enter Tryz.func138,Tryz.ntmps138
  go_wp2_with fail
  refine c1.mono ?_
  rintro e w1 ⟨rfl,hb⟩
  have hE : E = namE r.x := by rw [← HE.out, fs_n h1]
  exact⟨rfl,.inr ⟨by rw [hE]; exact h1,by rw [hE]⟩,below2 HB0.out hb⟩
theorem take_l {w:World}{b:Nat}{K:PK}{t:Tk}{ts:List Tk}(hK:KG K) (h:Lv w b K (t :: ts)) (x:ByteArray) (hx:(lx x.data.toList).map (·.1)=some 1∨(lx x.data.toList).map (·.1)=some 4) (ht:t.x=x) :
  Calls zG 89 #[zP b,.string x] w fun e w'=>e=.returned (zI t.p)∧Lv w' b K ts∧Mv w w' (fun k=>k=b):=by
 refine (take_live h x (kw_gd (h.gd hK) hx)).mono ?_
 rintro e w' ⟨⟨p,rfl,h1⟩,h2,h3⟩
 rw [if_pos ht] at h2
 rw [h1 ht]
 exact⟨rfl,h2,h3⟩
theorem is_l {w:World}{b:Nat}{K:PK}{t:Tk}{ts:List Tk}(hK:KG K) (h:Lv w b K (t :: ts)) (x:ByteArray) (hx:(lx x.data.toList).map (·.1)=some 1∨(lx x.data.toList).map (·.1)=some 4) {i:Bool}(hi:pIs x (t :: ts)=i) :
  Calls zG 86 #[zP b,.string x] w fun e w'=>e=.returned (.bool i)∧Below w§ w w':=by
 subst hi
 exact is_live h x (kw_gd (h.gd hK) hx)
theorem name_l {w:World}{b:Nat}{K:PK}{t:Tk}{ts:List Tk}(h:Lv w b K (t :: ts)) (hk:t.k=2) :
  Calls zG 91 #[zP b] w fun e w'=>e=.returned (.string t.x)∧Lv w' b K ts∧Mv w w' (fun k=>k=b):=by
 have cN:=live_now h
 have HH:=h.hid
 unfold tkA at cN
 rw [hk] at cN
 clear h hk
 go_enter Tryz.func91,Tryz.ntmps91
 go_wp2_with fail
 refine cN.mono ?_
 rintro e w1 ⟨rfl,hb⟩
 have HB:Hid (Below w§ w (w1.alloc (.cells #[zU 2,.string t.x,zU t.ty,zI t.n,zI t.p] 143))):=below2 hb (Bn _ _)
 have hN:=Hn w1 (.cells #[zU 2,.string t.x,zU t.ty,zI t.n,zI t.p] 143)
 obtain⟨i,c3,f3,hmx,hL,hM,ho,_⟩:=(HH.out.on HB.out).at'
 have hbl:=HH.out.lt
 have hsz:=hb.size
 have k1:((w1.alloc (.cells #[zU 2,.string t.x,zU t.ty,zI t.n,zI t.p] 143)).setCell ⟨b,3,none⟩ (zI ((i:Int)+1))).cell? ⟨w1§,1,none⟩=some (.string t.x):=Co ((ho w1§ (by omega)).trans hN) 1
 obtain⟨W,eW⟩:∃ W,w1.alloc (.cells #[zU 2,.string t.x,zU t.ty,zI t.n,zI t.p] 143)=W:=⟨_,rfl⟩
 have k0:W.cell? ⟨w1§,0,none⟩=some (zU 2):=by rw [← eW]; exact Co hN 0
 rw [eW] at HB c3 f3 hL hM k1
 have HL:=hL.hid
 have HM:=zH hM
 clear cN hb hN hL hM ho hbl hsz
 obtain⟨Y,eY⟩:∃ Y,W.setCell ⟨b,3,none⟩ (zI ((i:Int)+1))=Y:=⟨_,rfl⟩
 rw [eY] at HL HM k1
 go_wp2_with fail
 try rw [eW]
 go_wp2_with fail
 go_ret
 first | exact⟨rfl,HL.out,(Mv.ofBelow HB.out).trans HM.out (fun k e=>.inl e)⟩ | (rw [eY]; exact⟨rfl,HL.out,(Mv.ofBelow HB.out).trans HM.out (fun k e=>.inl e)⟩)
theorem lies_leaf (U:World) {h:Hd}(hr:Rg h):Lies U (.mk h none 0 []):=.mk h none 0 [] hr (by simp) (by omega) (fun i hi=>by simp at hi) (fun k hk=>by simp at hk)
theorem lit_l {w:World}{b:Nat}{K:PK}{t:Tk}{ts:List Tk}(hK:KG K) (h:Lv w b K (t :: ts)) (hv:(valT t).1≠0) :
  Calls zG 128 #[zP b] w fun e w'=>∃ m:Nd,e=.returned (.tuple #[.agg m.vals,.bool true])∧treeOf m=.mk ⟨1,0,(valT t).1,(valT t).2,0,gE,t.p⟩ []∧(∀ U,Lies U m)∧Lv w' b K ts∧Mv w w' (fun k=>k=b):=by
 refine (literal_ok h (h.ok hK.k) hv).mono ?_
 rintro e w' ⟨rfl,h1,h2⟩
 exact⟨litN t,rfl,rfl,fun U=>lies_leaf U (h.ok hK.k).r.val,h1,h2⟩
theorem expr_l {w:World}{b:Nat}{K:PK}{t:Tk}{ts:List Tk}{r:Tr}{u:Tk}{us:List Tk}(hK:KG K) (h:Lv w b K (t :: ts)) (hp:pEx (t :: ts)=some (r,u :: us)) :
  Calls zG 54 #[zP b,zI 0] w fun e w'=>∃ m:Nd,e=.returned (.agg m.vals)∧treeOf m=r∧Dp w w' (fun U=>Lies U m)∧Lv w' b K (u :: us)∧Mv w w' (fun k=>k=b):=by
 refine (expr0_d hK.k w (.ok (t :: ts)) ⟨by simp,h⟩).mono ?_
 rintro e w' ⟨m,rfl,h1,h2,h3,h4,h5⟩
 unfold pEx at hp
 have hr:rd exprT (.ok (t :: ts))=exprT (t :: ts):=rfl
 rw [hr] at h3 h5
 cases hx:exprT (t :: ts) with
 | error f=>rw [hx] at hp; cases hp
 | ok q =>
  rw [hx] at hp h3
  cases hp
  exact⟨m,rfl,h5 _ hx,dp_lies h1 h2,h3.2,h4⟩
theorem HX.cellA {w:World}{b:Nat}{K:PK}{V:World}{pre post:List (Nat × Nat × Array Value)}{N:Nat}{e sz:Nat}{v:Value}{vs:List (Array Value)}{F:World→Prop}{ts:List Tk}{T:Nat}{cs:Array Value}(h:HX w b K V (pre ++ (N,T,cs) :: post) e sz v vs F ts) (i:Nat) (hi:i < cs.size):∃ u,V.cell? ⟨N,i,none⟩=some u∧V.frozen? ⟨N,i,none⟩=false:=by
 have hb:=(h.B (N,T,cs) (by simp)).1
 refine⟨cs[i],?_,Fo hb i⟩
 rw [Co hb i,Array.getElem?_eq_getElem hi]
def nd00:Nd:=.mk ⟨0,0,0,0,0,gE,0⟩ none 0 []
theorem doSd_eq (k o:Int) (x:ByteArray) (s q r u m:Nd) (p:Int):set8 (doA k o x s q r u p) 3 m=doA k o x m q r u p:=by kernel_rfl
theorem HX.doSd {w:World}{b:Nat}{K:PK}{V:World}{post:List (Nat × Nat × Array Value)}{N:Nat}{e sz:Nat}{v:Value}{vs:List (Array Value)}{F:World→Prop}{ts:List Tk}{k o:Int}{x:ByteArray}{s q r u:Nd}{p:Int}(h:HX w b K V ((N,92,doA k o x s q r u p) :: post) e sz v vs F ts) (m:Nd):HX w b K ((((((((V.setCell ⟨N,3,none⟩ (zU m.h.k)).setCell ⟨N,4,none⟩ (zU m.h.o)).setCell ⟨N,5,none⟩ (zU m.h.t)).setCell ⟨N,6,none⟩ (zI m.h.n)).setCell ⟨N,7,none⟩ (zU m.h.f)).setCell ⟨N,8,none⟩ (.string m.h.x)).setCell ⟨N,9,none⟩ (.slice m.a m.ks.length m.c)).setCell ⟨N,10,none⟩ (zI m.h.p)) ((N,92,doA k o x m q r u p) :: post) e sz v vs F ts:=by
 have h':=HX.nodeA (pre:=[]) h 3 m
 rw [doSd_eq] at h'
 exact h'
theorem doQt_eq (k o:Int) (x:ByteArray) (s q r u m:Nd) (p:Int):set8 (doA k o x s q r u p) 11 m=doA k o x s m r u p:=by kernel_rfl
theorem HX.doQt {w:World}{b:Nat}{K:PK}{V:World}{post:List (Nat × Nat × Array Value)}{N:Nat}{e sz:Nat}{v:Value}{vs:List (Array Value)}{F:World→Prop}{ts:List Tk}{k o:Int}{x:ByteArray}{s q r u:Nd}{p:Int}(h:HX w b K V ((N,92,doA k o x s q r u p) :: post) e sz v vs F ts) (m:Nd):HX w b K ((((((((V.setCell ⟨N,11,none⟩ (zU m.h.k)).setCell ⟨N,12,none⟩ (zU m.h.o)).setCell ⟨N,13,none⟩ (zU m.h.t)).setCell ⟨N,14,none⟩ (zI m.h.n)).setCell ⟨N,15,none⟩ (zU m.h.f)).setCell ⟨N,16,none⟩ (.string m.h.x)).setCell ⟨N,17,none⟩ (.slice m.a m.ks.length m.c)).setCell ⟨N,18,none⟩ (zI m.h.p)) ((N,92,doA k o x s m r u p) :: post) e sz v vs F ts:=by
 have h':=HX.nodeA (pre:=[]) h 11 m
 rw [doQt_eq] at h'
 exact h'
theorem doPr_eq (k o:Int) (x:ByteArray) (s q r u m:Nd) (p:Int):set8 (doA k o x s q r u p) 19 m=doA k o x s q m u p:=by kernel_rfl
theorem HX.doPr {w:World}{b:Nat}{K:PK}{V:World}{post:List (Nat × Nat × Array Value)}{N:Nat}{e sz:Nat}{v:Value}{vs:List (Array Value)}{F:World→Prop}{ts:List Tk}{k o:Int}{x:ByteArray}{s q r u:Nd}{p:Int}(h:HX w b K V ((N,92,doA k o x s q r u p) :: post) e sz v vs F ts) (m:Nd):HX w b K ((((((((V.setCell ⟨N,19,none⟩ (zU m.h.k)).setCell ⟨N,20,none⟩ (zU m.h.o)).setCell ⟨N,21,none⟩ (zU m.h.t)).setCell ⟨N,22,none⟩ (zI m.h.n)).setCell ⟨N,23,none⟩ (zU m.h.f)).setCell ⟨N,24,none⟩ (.string m.h.x)).setCell ⟨N,25,none⟩ (.slice m.a m.ks.length m.c)).setCell ⟨N,26,none⟩ (zI m.h.p)) ((N,92,doA k o x s q m u p) :: post) e sz v vs F ts:=by
 have h':=HX.nodeA (pre:=[]) h 19 m
 rw [doPr_eq] at h'
 exact h'
theorem doVl_eq (k o:Int) (x:ByteArray) (s q r u m:Nd) (p:Int):set8 (doA k o x s q r u p) 27 m=doA k o x s q r m p:=by kernel_rfl
theorem HX.doVl {w:World}{b:Nat}{K:PK}{V:World}{post:List (Nat × Nat × Array Value)}{N:Nat}{e sz:Nat}{v:Value}{vs:List (Array Value)}{F:World→Prop}{ts:List Tk}{k o:Int}{x:ByteArray}{s q r u:Nd}{p:Int}(h:HX w b K V ((N,92,doA k o x s q r u p) :: post) e sz v vs F ts) (m:Nd):HX w b K ((((((((V.setCell ⟨N,27,none⟩ (zU m.h.k)).setCell ⟨N,28,none⟩ (zU m.h.o)).setCell ⟨N,29,none⟩ (zU m.h.t)).setCell ⟨N,30,none⟩ (zI m.h.n)).setCell ⟨N,31,none⟩ (zU m.h.f)).setCell ⟨N,32,none⟩ (.string m.h.x)).setCell ⟨N,33,none⟩ (.slice m.a m.ks.length m.c)).setCell ⟨N,34,none⟩ (zI m.h.p)) ((N,92,doA k o x s q r m p) :: post) e sz v vs F ts:=by
 have h':=HX.nodeA (pre:=[]) h 27 m
 rw [doVl_eq] at h'
 exact h'
theorem HX.doO {w:World}{b:Nat}{K:PK}{V:World}{post:List (Nat × Nat × Array Value)}{N:Nat}{e sz:Nat}{v:Value}{vs:List (Array Value)}{F:World→Prop}{ts:List Tk}{k o:Int}{x:ByteArray}{s q r u:Nd}{p:Int}(h:HX w b K V ((N,92,doA k o x s q r u p) :: post) e sz v vs F ts) (o':Int):HX w b K (V.setCell ⟨N,1,none⟩ (zU o')) ((N,92,doA k o' x s q r u p) :: post) e sz v vs F ts:=HX.setA (pre:=[]) h 1 (zU o')
theorem HX.doX {w:World}{b:Nat}{K:PK}{V:World}{post:List (Nat × Nat × Array Value)}{N:Nat}{e sz:Nat}{v:Value}{vs:List (Array Value)}{F:World→Prop}{ts:List Tk}{k o:Int}{x:ByteArray}{s q r u:Nd}{p:Int}(h:HX w b K V ((N,92,doA k o x s q r u p) :: post) e sz v vs F ts) (x':ByteArray):HX w b K (V.setCell ⟨N,2,none⟩ (.string x')) ((N,92,doA k o x' s q r u p) :: post) e sz v vs F ts:=HX.setA (pre:=[]) h 2 (.string x')
theorem dp_new (V:World) (o:Obj):Dp V (V.alloc o) (fun U=>U.heap[V§]? = some o):=fun U hU=>(hU V§ (Nat.le_refl _) (by rw [Sa]; omega)).trans (Hn V o)
theorem all36 (k o:Int) (x:ByteArray) (s q r u:Nd) (p:Int):(doA k o x s q r u p).all (·.oneCell')=true:=by
 simp [doA,Value.oneCell']
theorem doA_sz (k o:Int) (x:ByteArray) (s q r u:Nd) (p:Int):(doA k o x s q r u p).size=36:=rfl
theorem opt_bind {α β:Type}{x:Option α}{f:α→Option β}{y:β}(h:x.bind f=some y):∃ a,x=some a∧f a=some y:=by
 cases x with
 | none=>cases h
 | some a=>exact⟨a,rfl,h⟩
theorem pTake_inv {x:ByteArray}{ts:List Tk}{q:Int × List Tk}(h:pTake x ts=some q):∃ t,ts=t :: q.2∧t.x=x∧q.1=t.p:=by
 cases ts with
 | nil=>cases h
 | cons t ts =>
  simp only [pTake] at h
  by_cases e:t.x=x
  ·rw [if_pos e] at h; cases h; exact⟨t,rfl,e,rfl⟩
  ·rw [if_neg e] at h; cases h
theorem pName_inv {ts:List Tk}{q:ByteArray × List Tk}(h:pName ts=some q):∃ t,ts=t :: q.2∧t.k=2∧q.1=t.x:=by
 cases ts with
 | nil=>cases h
 | cons t ts =>
  simp only [pName] at h
  by_cases e:t.k=2
  ·rw [if_pos e] at h; cases h; exact⟨t,rfl,e,rfl⟩
  ·rw [if_neg e] at h; cases h
theorem pAny_inv {L:List ByteArray}{ts:List Tk}{q:Int × List Tk}(h:pAny L ts=some q):∃ t,ts=t :: q.2∧0≤q.1∧fnd t.x L 0=q.1:=by
 cases ts with
 | nil=>cases h
 | cons t ts =>
  simp only [pAny] at h
  by_cases e:0≤fnd t.x L 0
  ·rw [if_pos e] at h; cases h; exact⟨t,rfl,e,rfl⟩
  ·rw [if_neg e] at h; cases h
theorem pLit_inv {ts:List Tk}{q:Tr × List Tk}(h:pLit ts=some q):∃ t,ts=t :: q.2∧(valT t).1≠0∧q.1=.mk ⟨1,0,(valT t).1,(valT t).2,0,gE,t.p⟩ []:=by
 cases ts with
 | nil=>cases h
 | cons t ts =>
  simp only [pLit] at h
  by_cases e:(valT t).1≠0
  ·rw [if_pos e] at h; cases h; exact⟨t,rfl,e,rfl⟩
  ·rw [if_neg e] at h; cases h
theorem pReg_inv {ts:List Tk}{r:RegT}{ts':List Tk}(h:pReg ts=some (r,ts')):∃ t1 t2 t3 t4 us v,∃ q:Tr × List Tk,ts=t1 :: t2 :: t3 :: t4 :: us∧t1.x=ZV∧t2.k=2∧0≤v∧fnd t3.x [Zj,Zl,Zk,Zm,ZP,ZQ] 0=v∧t4.x=ZS∧pInit us=some q∧(∃ t6,q.2=t6 :: ts'∧t6.x=ZA)∧r=⟨t2.x,1+v,q.1,t1.p⟩:=by
 unfold pReg at h
 obtain⟨a,h1,h⟩:=opt_bind h
 obtain⟨b,h2,h⟩:=opt_bind h
 obtain⟨c,h3,h⟩:=opt_bind h
 obtain⟨d,h4,h⟩:=opt_bind h
 obtain⟨e,h5,h⟩:=opt_bind h
 obtain⟨f,h6,h⟩:=opt_bind h
 cases h
 obtain⟨t1,rfl,k1,k1'⟩:=pTake_inv h1
 obtain⟨t2,g2,k2,k2'⟩:=pName_inv h2
 obtain⟨t3,g3,k3,k3'⟩:=pAny_inv h3
 obtain⟨t4,g4,k4,_⟩:=pTake_inv h4
 obtain⟨t6,g6,k6,_⟩:=pTake_inv h6
 exact⟨t1,t2,t3,t4,d.2,c.1,e,by rw [g2,g3,g4],k1,k2,k3,k3',k4,h5,⟨t6,g6,k6⟩,by rw [k1',k2']⟩
theorem regA_zero (x:ByteArray) (t p:Int):#[.string x,zU t,zU 0,zU 0,zU 0,zI 0,zU 0,.string ⟨#[]⟩,.slice none 0 0,zI 0,zI p]=RegM.vals ⟨x,t,nd00,p⟩:=rfl
theorem rgX_eq (x x':ByteArray) (t p:Int) (m:Nd):(RegM.vals ⟨x,t,m,p⟩).setIfInBounds 0 (.string x')=RegM.vals ⟨x',t,m,p⟩:=by kernel_rfl
theorem rgT_eq (x:ByteArray) (t t' p:Int) (m:Nd):(RegM.vals ⟨x,t,m,p⟩).setIfInBounds 1 (zU t')=RegM.vals ⟨x,t',m,p⟩:=by kernel_rfl
theorem rgM_eq (x:ByteArray) (t p:Int) (m m':Nd):set8 (RegM.vals ⟨x,t,m,p⟩) 2 m'=RegM.vals ⟨x,t,m',p⟩:=by kernel_rfl
theorem HX.rgX {w:World}{b:Nat}{K:PK}{V:World}{pre post:List (Nat × Nat × Array Value)}{N:Nat}{e sz:Nat}{v:Value}{vs:List (Array Value)}{F:World→Prop}{ts:List Tk}{x:ByteArray}{t p:Int}{m:Nd}(h:HX w b K V (pre ++ (N,77,RegM.vals ⟨x,t,m,p⟩) :: post) e sz v vs F ts) (x':ByteArray):HX w b K (V.setCell ⟨N,0,none⟩ (.string x')) (pre ++ (N,77,RegM.vals ⟨x',t,m,p⟩) :: post) e sz v vs F ts:=by
 have h':=h.setA 0 (.string x')
 rwa [rgX_eq] at h'
theorem HX.rgT {w:World}{b:Nat}{K:PK}{V:World}{pre post:List (Nat × Nat × Array Value)}{N:Nat}{e sz:Nat}{v:Value}{vs:List (Array Value)}{F:World→Prop}{ts:List Tk}{x:ByteArray}{t p:Int}{m:Nd}(h:HX w b K V (pre ++ (N,77,RegM.vals ⟨x,t,m,p⟩) :: post) e sz v vs F ts) (t':Int):HX w b K (V.setCell ⟨N,1,none⟩ (zU t')) (pre ++ (N,77,RegM.vals ⟨x,t',m,p⟩) :: post) e sz v vs F ts:=by
 have h':=h.setA 1 (zU t')
 rwa [rgT_eq] at h'
theorem HX.rgM {w:World}{b:Nat}{K:PK}{V:World}{pre post:List (Nat × Nat × Array Value)}{N:Nat}{e sz:Nat}{v:Value}{vs:List (Array Value)}{F:World→Prop}{ts:List Tk}{x:ByteArray}{t p:Int}{m:Nd}(h:HX w b K V (pre ++ (N,77,RegM.vals ⟨x,t,m,p⟩) :: post) e sz v vs F ts) (m':Nd):HX w b K ((((((((V.setCell ⟨N,2,none⟩ (zU m'.h.k)).setCell ⟨N,3,none⟩ (zU m'.h.o)).setCell ⟨N,4,none⟩ (zU m'.h.t)).setCell ⟨N,5,none⟩ (zI m'.h.n)).setCell ⟨N,6,none⟩ (zU m'.h.f)).setCell ⟨N,7,none⟩ (.string m'.h.x)).setCell ⟨N,8,none⟩ (.slice m'.a m'.ks.length m'.c)).setCell ⟨N,9,none⟩ (zI m'.h.p)) (pre ++ (N,77,RegM.vals ⟨x,t,m',p⟩) :: post) e sz v vs F ts:=by
 have h':=h.nodeA 2 m'
 rwa [rgM_eq] at h'
theorem HX.rgC {w:World}{b:Nat}{K:PK}{V:World}{pre post:List (Nat × Nat × Array Value)}{N:Nat}{e sz:Nat}{v:Value}{vs:List (Array Value)}{F:World→Prop}{ts:List Tk}{r:RegM}(h:HX w b K V (pre ++ (N,77,r.vals) :: post) e sz v vs F ts) (i:Nat) (hi:i < 11):∃ u,V.cell? ⟨N,i,none⟩=some u∧V.frozen? ⟨N,i,none⟩=false:=h.cellA i hi
theorem rg_neg {p:Int}(h0:-9223372036854775808≤p) (h1:p≤9223372036854775807):Rg ⟨5,1,0,0,0,gE,p⟩:=⟨by simp,by simp,by simp,by simp,by simp,by simp,by simp,by simp,by simp,by simp,h0,h1,(show gE.size≤140737488355328 by decide)⟩
theorem size100':(Tryz.prog.info? 77).map (·.size)=some 11:=by kernel_rfl
theorem all11 (r:RegM):r.vals.all (·.oneCell')=true:=by simp [RegM.vals,Value.oneCell']
def OutL {α β:Type}(vals:α→Array Value) (tr:α→β) (L:World→α→Prop) (b:Nat) (K:PK) (w:World) (r:β) (ts:List Tk) (e:Ending) (w':World):Prop :=
 ∃ m:α,e=.returned (.agg (vals m))∧tr m=r∧Dp w w' (fun U=>L U m)∧Lv w' b K ts∧Mv w w' (fun k=>k=b)
theorem reg_l {w:World}{b:Nat}{K:PK}{ts ts':List Tk}{r:RegT}(hK:KG K) (h:Lv w b K ts) (hp:pReg ts=some (r,ts')):Calls zG 93 #[zP b] w (OutL RegM.vals RegM.tr RegL b K w r ts'):=by
 obtain⟨t1,t2,t3,t4,us,v,q,rfl,k1,k2,hv0,hv,k4,hq,⟨t6,hq2,k6⟩,rfl⟩:=pReg_inv hp
 have HK:Hid (KG K):=hK
 have HT1:Hid (RgT t1):=(h.ok hK.k).r
 have hrg:=fnd_rg t3.x [Zj,Zl,Zk,Zm,ZP,ZQ] 0
 rw [hv] at hrg
 simp only [List.length_cons,List.length_nil] at hrg
 have hv6:v < 6:=by omega
 have HG0:=((HX.new h 0 0).push zA3 77).hid
 clear h hK hp hrg
 obtain⟨W0,eW0⟩:∃ W,w.alloc (.cells zA3 77)=W:=⟨_,rfl⟩
 rw [eW0] at HG0
 have cT:=take_l HK.out HG0.out.S ZV (by decide +kernel) k1
 clear k1
 go_enter Tryz.func93,Tryz.ntmps93
 go_wp2_with fail
 try rw [eW0]
 refine cT.mono ?_
 rintro e w1 ⟨rfl,hs,hm⟩
 have HG1:=((HG0.out.mv hm hs).push #[.string ⟨#[]⟩,zU 0,zU 0,zU 0,zU 0,zI 0,zU 0,.string ⟨#[]⟩,.slice none 0 0,zI 0,zI t1.p] 77).hid
 clear cT hs hm HG0 eW0
 go_upto_region 2 with fail
 obtain⟨N3,eN3⟩:∃ q,w1§=q:=⟨_,rfl⟩
 obtain⟨W1,eW1⟩:∃ W,w1.alloc (.cells #[.string ⟨#[]⟩,zU 0,zU 0,zU 0,zU 0,zI 0,zU 0,.string ⟨#[]⟩,.slice none 0 0,zI 0,zI t1.p] 77)=W:=⟨_,rfl⟩
 rw [eW1,eN3,regA_zero] at HG1
 rw [eW1,eN3]
 clear eW1 eN3
 have cN:=name_l HG1.out.S k2
 have HT2:Hid (RgT t2):=(HG1.out.S.ok HK.out.k).r
 clear k2
 go_wp2_with fail
 refine cN.mono ?_
 rintro e w2 ⟨rfl,hs,hm⟩
 have HG2:=(HG1.out.mv hm hs).hid
 obtain⟨v0,c0,f0⟩:=HX.rgC (pre:=[]) HG2.out 0 (by omega)
 have HG3:=zH (HX.rgX (pre:=[]) HG2.out t2.x)
 clear cN hs hm HG1
 go_upto_region 3 with fail
 obtain⟨W3,eW3⟩:∃ W,w2.setCell ⟨N3,0,none⟩ (.string t2.x)=W:=⟨_,rfl⟩
 rw [eW3] at HG3 ⊢
 clear eW3 HG2 c0 f0
 have HW:Hid (Below W3§ W3 (W3.alloc (.cells #[.string Zj,.string Zl,.string Zk,.string Zm,.string ZP,.string ZQ] 9))):=Bn _ _
 have hSL:SLs (W3.alloc (.cells #[.string Zj,.string Zl,.string Zk,.string Zm,.string ZP,.string ZQ] 9)) W3§ [Zj,Zl,Zk,Zm,ZP,ZQ]:=fun j hj=>by
  have hh:=Hn W3 (.cells #[.string Zj,.string Zl,.string Zk,.string Zm,.string ZP,.string ZQ] 9)
  match j,hj with
  | 0,_=>exact Co hh 0
  | 1,_=>exact Co hh 1
  | 2,_=>exact Co hh 2
  | 3,_=>exact Co hh 3
  | 4,_=>exact Co hh 4
  | 5,_=>exact Co hh 5
 have cA:=any_liveN (HG3.out.S.on HW.out) (n:=6) (c:=6) hSL rfl (by omega) (by intro x hx; simp only [List.mem_cons,List.not_mem_nil,or_false] at hx; rcases hx with rfl | rfl | rfl | rfl | rfl | rfl <;> exact kw_gd (HG3.out.S.gd HK.out) (by decide +kernel))
 clear hSL
 rw [hv] at cA
 have hv2:decide (v < 0)=false:=decide_eq_false (by omega)
 clear hv
 go_wp2_with fail
 refine cA.mono ?_
 rintro e w4 ⟨rfl,hb4⟩
 have HG4:=((HG3.out.on HW.out).on hb4).hid
 obtain⟨i,c3,f3,hmx,hL,hM,_,_⟩:=HG4.out.S.at'
 obtain⟨V,eV⟩:∃ V,w4.setCell ⟨b,3,none⟩ (zI ((i:Int)+1))=V:=⟨_,rfl⟩
 rw [eV] at hL hM
 have HG5:=(HG4.out.mv hM hL).hid
 obtain⟨v1,c1,f1⟩:=HX.rgC (pre:=[]) HG5.out 1 (by omega)
 have HG6:=zH (HX.rgT (pre:=[]) HG5.out (1+v))
 clear cA hb4 HW HG3 hL hM HG4
 go_upto_region 8 with fail
 try rw [eV]
 clear eV c3 f3 hmx
 go_upto_region 9 with fail
 obtain⟨W6,eW6⟩:∃ W,V.setCell ⟨N3,1,none⟩ (zU (1+v))=W:=⟨_,rfl⟩
 rw [eW6] at HG6 ⊢
 clear eW6 c1 f1 HG5
 have cT:=take_l HK.out HG6.out.S ZS (by decide +kernel) k4
 clear k4
 go_wp2_with fail
 refine cT.mono ?_
 rintro e w7 ⟨rfl,hs,hm⟩
 have HG7:=(HG6.out.mv hm hs).hid
 have HV:Hid (0≤v∧v < 6):=⟨hv0,hv6⟩
 clear cT hs hm HG6 hv0 hv6
 have HK6:Hid (t6.x=ZA):=k6
 clear k6
 unfold pInit at hq
 by_cases hmi:pIs Zb us=true
 ·rw [if_pos hmi] at hq
  obtain⟨t5,u5,r5,rfl⟩:∃ t u r,us=t :: u :: r:=by
   match us,hq with
   | t :: u :: r,_=>exact⟨t,u,r,rfl⟩
  simp only at hq
  by_cases hk3:u5.k=3
  ·rw [if_pos hk3] at hq
   cases hl:pLit (u5 :: r5) with
   | none=>rw [hl] at hq; cases hq
   | some q1 =>
    rw [hl] at hq
    cases hq
    obtain⟨u,eu,hval,hq1⟩:=pLit_inv hl
    cases eu
    simp only at hq2
    have HT5:Hid (RgT t5):=(HG7.out.S.ok HK.out.k).r
    have cN:=live_now HG7.out.S
    have hf:=fun v=>field82_4 t5 v
    clear hl
    go_wp2_with fail
    refine cN.mono ?_
    rintro e w8 ⟨rfl,hb8⟩
    have HG8:=(HG7.out.on hb8).hid
    have cI:=is_l HK.out HG8.out.S Zb (by decide +kernel) hmi
    clear cN hb8 HG7 hmi
    go_wp2_with fail
    refine cI.mono ?_
    rintro e w9 ⟨rfl,hb9⟩
    have HG9:=(HG8.out.on hb9).hid
    obtain⟨i,c3,f3,hmx,hL,hM,_,_⟩:=HG9.out.S.at'
    obtain⟨V2,eV⟩:∃ V,w9.setCell ⟨b,3,none⟩ (zI ((i:Int)+1))=V:=⟨_,rfl⟩
    rw [eV] at hL hM
    have HGa:=(HG9.out.mv hM hL).hid
    have cN:=live_now HGa.out.S
    have hf0:=fun v=>field82_0 u5 v
    rw [hk3] at hf0
    clear cI hb9 HG8 hL hM HG9
    go_upto_region 14 with fail
    try rw [eV]
    clear eV c3 f3 hmx
    go_wp2_with fail
    refine cN.mono ?_
    rintro e w9b ⟨rfl,hb9⟩
    have HGb:=(HGa.out.on hb9).hid
    have cL:=lit_l HK.out HGb.out.S hval
    rw [hq2,← hq1] at cL
    clear cN hb9 HGa hk3 hq1 hq2 hval
    go_wp2_with fail
    refine cL.mono ?_
    rintro e w10 ⟨⟨⟨k2,o2,ty2,n2,f2,x2,p2⟩,am2,cm2,ks2⟩,rfl,htr,hl,hs,hm⟩
    simp only [Nd.vals,Nd.h,Nd.a,Nd.c,Nd.ks,hdA]
    have HTR:=zH htr
    have HLI:=zH hl
    have HG10:=((HGb.out.mv hm hs).push (zN k2 o2 ty2 n2 f2 x2 am2 ks2 cm2 p2) 28).hid
    have hN:=Hn w10 (.cells (zN k2 o2 ty2 n2 f2 x2 am2 ks2 cm2 p2) 28)
    clear cL hs hm htr hl HGb
    go_upto_region 20 with fail
    obtain⟨Q,eQ⟩:∃ q,w10§=q:=⟨_,rfl⟩
    obtain⟨W,eW⟩:∃ W,w10.alloc (.cells (zN k2 o2 ty2 n2 f2 x2 am2 ks2 cm2 p2) 28)=W:=⟨_,rfl⟩
    rw [eW,eQ] at HG10 hN
    rw [eW,eQ]
    clear eW eQ
    have HQ:=zH hN
    clear hN
    obtain⟨x0',x1',x2',x3',x4',x5',x6',x7'⟩:=cl8 HQ.out
    obtain⟨av2,ac2,af2⟩:=HX.rgC (pre:=[_]) HG10.out 2 (by omega)
    obtain⟨av3,ac3,af3⟩:=HX.rgC (pre:=[_]) HG10.out 3 (by omega)
    obtain⟨av4,ac4,af4⟩:=HX.rgC (pre:=[_]) HG10.out 4 (by omega)
    obtain⟨av5,ac5,af5⟩:=HX.rgC (pre:=[_]) HG10.out 5 (by omega)
    obtain⟨av6,ac6,af6⟩:=HX.rgC (pre:=[_]) HG10.out 6 (by omega)
    obtain⟨av7,ac7,af7⟩:=HX.rgC (pre:=[_]) HG10.out 7 (by omega)
    obtain⟨av8,ac8,af8⟩:=HX.rgC (pre:=[_]) HG10.out 8 (by omega)
    obtain⟨av9,ac9,af9⟩:=HX.rgC (pre:=[_]) HG10.out 9 (by omega)
    have HH1:Hid (HX w b K ((((((((W.setCell ⟨N3,2,none⟩ (zU k2)).setCell ⟨N3,3,none⟩ (zU o2)).setCell ⟨N3,4,none⟩ (zU ty2)).setCell ⟨N3,5,none⟩ (zI n2)).setCell ⟨N3,6,none⟩ (zU f2)).setCell ⟨N3,7,none⟩ (.string x2)).setCell ⟨N3,8,none⟩ (.slice am2 ks2.length cm2)).setCell ⟨N3,9,none⟩ (zI p2)) [(Q,28,(zN k2 o2 ty2 n2 f2 x2 am2 ks2 cm2 p2)),(N3,77,(RegM.vals ⟨t2.x,(1+v),(Nd.mk ⟨k2,o2,ty2,n2,f2,x2,p2⟩ am2 cm2 ks2),t1.p⟩)),(w§,77,zA3)] 0 0 (.slice none 0 0) [] (fun _=>True) (t6 :: ts')):=HX.rgM (pre:=[_]) HG10.out (Nd.mk ⟨k2,o2,ty2,n2,f2,x2,p2⟩ am2 cm2 ks2)
    clear HG10
    go_upto_region 21 with fail
    obtain⟨Y1,eY1⟩:∃ Y,((((((((W.setCell ⟨N3,2,none⟩ (zU k2)).setCell ⟨N3,3,none⟩ (zU o2)).setCell ⟨N3,4,none⟩ (zU ty2)).setCell ⟨N3,5,none⟩ (zI n2)).setCell ⟨N3,6,none⟩ (zU f2)).setCell ⟨N3,7,none⟩ (.string x2)).setCell ⟨N3,8,none⟩ (.slice am2 ks2.length cm2)).setCell ⟨N3,9,none⟩ (zI p2))=Y:=⟨_,rfl⟩
    rw [eY1] at HH1 ⊢
    clear eY1 ac2 af2 ac3 af3 ac4 af4 ac5 af5 ac6 af6 ac7 af7 ac8 af8 ac9 af9 x0' x1' x2' x3' x4' x5' x6' x7' HQ
    have hQ1:Y1.heap[Q]? = some (.cells (zN k2 o2 ty2 n2 f2 x2 am2 ks2 cm2 p2) 28 (0,0)):=(HH1.out.B _ List.mem_cons_self).1
    obtain⟨x0',x1',x2',x3',x4',x5',x6',x7'⟩:=cl8 hQ1
    obtain⟨av2,ac2,af2⟩:=HX.rgC (pre:=[_]) HH1.out 2 (by omega)
    obtain⟨av3,ac3,af3⟩:=HX.rgC (pre:=[_]) HH1.out 3 (by omega)
    obtain⟨av4,ac4,af4⟩:=HX.rgC (pre:=[_]) HH1.out 4 (by omega)
    obtain⟨av5,ac5,af5⟩:=HX.rgC (pre:=[_]) HH1.out 5 (by omega)
    obtain⟨av6,ac6,af6⟩:=HX.rgC (pre:=[_]) HH1.out 6 (by omega)
    obtain⟨av7,ac7,af7⟩:=HX.rgC (pre:=[_]) HH1.out 7 (by omega)
    obtain⟨av8,ac8,af8⟩:=HX.rgC (pre:=[_]) HH1.out 8 (by omega)
    obtain⟨av9,ac9,af9⟩:=HX.rgC (pre:=[_]) HH1.out 9 (by omega)
    have hlt:N3 < Y1§:=(Array.getElem?_eq_some_iff.1 (HH1.out.B _ (List.mem_cons_of_mem _ List.mem_cons_self)).1).1
    have HH2:Hid (HX w b K ((((((((Y1.setCell ⟨N3,2,none⟩ (zU 5)).setCell ⟨N3,3,none⟩ (zU 1)).setCell ⟨N3,4,none⟩ (zU 0)).setCell ⟨N3,5,none⟩ (zI 0)).setCell ⟨N3,6,none⟩ (zU 0)).setCell ⟨N3,7,none⟩ (.string ⟨#[]⟩)).setCell ⟨N3,8,none⟩ (.slice (some ⟨Y1§,0,none⟩) 1 1)).setCell ⟨N3,9,none⟩ (zI t5.p)) [(Q,28,(zN k2 o2 ty2 n2 f2 x2 am2 ks2 cm2 p2)),(N3,77,(RegM.vals ⟨t2.x,(1+v),(Nd.mk ⟨5,1,0,0,0,gE,t5.p⟩ (some ⟨Y1§,0,none⟩) 1 [(Nd.mk ⟨k2,o2,ty2,n2,f2,x2,p2⟩ am2 cm2 ks2)]),t1.p⟩)),(w§,77,zA3)] 0 0 (.slice none 0 0) [] (fun _=>True) (t6 :: ts')):=HX.rgM (pre:=[_]) HH1.out (Nd.mk ⟨5,1,0,0,0,gE,t5.p⟩ (some ⟨Y1§,0,none⟩) 1 [(Nd.mk ⟨k2,o2,ty2,n2,f2,x2,p2⟩ am2 cm2 ks2)])
    have hbn:=Bn ((((((((Y1.setCell ⟨N3,2,none⟩ (zU 5)).setCell ⟨N3,3,none⟩ (zU 1)).setCell ⟨N3,4,none⟩ (zU 0)).setCell ⟨N3,5,none⟩ (zI 0)).setCell ⟨N3,6,none⟩ (zU 0)).setCell ⟨N3,7,none⟩ (.string ⟨#[]⟩)).setCell ⟨N3,8,none⟩ (.slice (some ⟨Y1§,0,none⟩) 1 1)).setCell ⟨N3,9,none⟩ (zI t5.p)) (.cells (zN k2 o2 ty2 n2 f2 x2 am2 ks2 cm2 p2) 28)
    have hsz:((((((((Y1.setCell ⟨N3,2,none⟩ (zU 5)).setCell ⟨N3,3,none⟩ (zU 1)).setCell ⟨N3,4,none⟩ (zU 0)).setCell ⟨N3,5,none⟩ (zI 0)).setCell ⟨N3,6,none⟩ (zU 0)).setCell ⟨N3,7,none⟩ (.string ⟨#[]⟩)).setCell ⟨N3,8,none⟩ (.slice (some ⟨Y1§,0,none⟩) 1 1)).setCell ⟨N3,9,none⟩ (zI t5.p))§=Y1§:=by simp [World.setCell]
    have hdp:=dp_new ((((((((Y1.setCell ⟨N3,2,none⟩ (zU 5)).setCell ⟨N3,3,none⟩ (zU 1)).setCell ⟨N3,4,none⟩ (zU 0)).setCell ⟨N3,5,none⟩ (zI 0)).setCell ⟨N3,6,none⟩ (zU 0)).setCell ⟨N3,7,none⟩ (.string ⟨#[]⟩)).setCell ⟨N3,8,none⟩ (.slice (some ⟨Y1§,0,none⟩) 1 1)).setCell ⟨N3,9,none⟩ (zI t5.p)) (.cells (zN k2 o2 ty2 n2 f2 x2 am2 ks2 cm2 p2) 28)
    rw [hsz] at hdp
    have HH3:=(HH2.out.add (Mv.ofBelow hbn) (HH2.out.S.on hbn) hdp).hid
    clear HH2 hbn hdp hsz hQ1
    go_upto_region 23 with fail
    obtain⟨Z1,eZ1⟩:∃ Z,((((((((Y1.setCell ⟨N3,2,none⟩ (zU 5)).setCell ⟨N3,3,none⟩ (zU 1)).setCell ⟨N3,4,none⟩ (zU 0)).setCell ⟨N3,5,none⟩ (zI 0)).setCell ⟨N3,6,none⟩ (zU 0)).setCell ⟨N3,7,none⟩ (.string ⟨#[]⟩)).setCell ⟨N3,8,none⟩ (.slice (some ⟨Y1§,0,none⟩) 1 1)).setCell ⟨N3,9,none⟩ (zI t5.p)).alloc (.cells (zN k2 o2 ty2 n2 f2 x2 am2 ks2 cm2 p2) 28)=Z:=⟨_,rfl⟩
    rw [eZ1] at HH3 ⊢
    clear eZ1 ac2 af2 ac3 af3 ac4 af4 ac5 af5 ac6 af6 ac7 af7 ac8 af8 ac9 af9 x0' x1' x2' x3' x4' x5' x6' x7' hlt HH1
    obtain⟨G,eG⟩:∃ q,Y1§=q:=⟨_,rfl⟩
    rw [eG] at HH3 ⊢
    clear eG
    have cT:=take_l HK.out HH3.out.S ZA (by decide +kernel) HK6.out
    go_wp2_with fail
    refine cT.mono ?_
    rintro e w12 ⟨rfl,hs,hm⟩
    have HG12:=((HH3.out.mv hm hs).pop).hid
    clear cT hs hm HH3
    have HC:Hid (w12.heap[N3]? = some (.cells (RegM.vals ⟨t2.x,(1+v),(Nd.mk ⟨5,1,0,0,0,gE,t5.p⟩ (some ⟨G,0,none⟩) 1 [(Nd.mk ⟨k2,o2,ty2,n2,f2,x2,p2⟩ am2 cm2 ks2)]),t1.p⟩) 77 (0,0))):=(HG12.out.B _ List.mem_cons_self).1
    have HO:Hid (w12.heap[w§]? = some (.cells zA3 77 (0,0))):=(HG12.out.B _ (List.mem_cons_of_mem _ List.mem_cons_self)).1
    have HF:=(HX.rowA (pre:=[_]) HG12.out (RegM.vals ⟨t2.x,(1+v),(Nd.mk ⟨5,1,0,0,0,gE,t5.p⟩ (some ⟨G,0,none⟩) 1 [(Nd.mk ⟨k2,o2,ty2,n2,f2,x2,p2⟩ am2 cm2 ks2)]),t1.p⟩)).hid
    have HR:Hid ((w12.setRow w§ (RegM.vals ⟨t2.x,(1+v),(Nd.mk ⟨5,1,0,0,0,gE,t5.p⟩ (some ⟨G,0,none⟩) 1 [(Nd.mk ⟨k2,o2,ty2,n2,f2,x2,p2⟩ am2 cm2 ks2)]),t1.p⟩)).heap[w§]? = some (.cells (RegM.vals ⟨t2.x,(1+v),(Nd.mk ⟨5,1,0,0,0,gE,t5.p⟩ (some ⟨G,0,none⟩) 1 [(Nd.mk ⟨k2,o2,ty2,n2,f2,x2,p2⟩ am2 cm2 ks2)]),t1.p⟩) 77 (0,0))):=(HF.out.B _ (List.mem_cons_of_mem _ List.mem_cons_self)).1
    go_wp2_with (first | (refine wpList_load_row rfl 77 (.tmp 3) rfl N3 rfl 77 (RegM.vals ⟨t2.x,(1+v),(Nd.mk ⟨5,1,0,0,0,gE,t5.p⟩ (some ⟨G,0,none⟩) 1 [(Nd.mk ⟨k2,o2,ty2,n2,f2,x2,p2⟩ am2 cm2 ks2)]),t1.p⟩) (0,0) _ HC.out Tryz.underlying77 rfl size100' ?_) | (refine wpList_store_row rfl 77 (.tmp 2) (.tmp 75) rfl w§ (RegM.vals ⟨t2.x,(1+v),(Nd.mk ⟨5,1,0,0,0,gE,t5.p⟩ (some ⟨G,0,none⟩) 1 [(Nd.mk ⟨k2,o2,ty2,n2,f2,x2,p2⟩ am2 cm2 ks2)]),t1.p⟩) rfl rfl 77 zA3 HO.out size100' rfl (all11 _) ?_))
    refine bodyPost_ret (results_cell_row rfl _ _ w§ 77 (RegM.vals ⟨t2.x,(1+v),(Nd.mk ⟨5,1,0,0,0,gE,t5.p⟩ (some ⟨G,0,none⟩) 1 [(Nd.mk ⟨k2,o2,ty2,n2,f2,x2,p2⟩ am2 cm2 ks2)]),t1.p⟩) (0,0) _ rfl HR.out Tryz.underlying77 rfl size100') rfl ⟨⟨t2.x,1+v,(Nd.mk ⟨5,1,0,0,0,gE,t5.p⟩ (some ⟨G,0,none⟩) 1 [(Nd.mk ⟨k2,o2,ty2,n2,f2,x2,p2⟩ am2 cm2 ks2)]),t1.p⟩,rfl,?_,HF.out.fin.1.imp fun U hU=>⟨?_,?_,?_,?_⟩,HF.out.S,HF.out.M⟩
    ·show RegT.mk t2.x (1+v) (.mk ⟨5,1,0,0,0,gE,t5.p⟩ [treeOf (Nd.mk ⟨k2,o2,ty2,n2,f2,x2,p2⟩ am2 cm2 ks2)]) t1.p=_
     rw [HTR.out]
    ·have hr5:=HT5.out
     refine .mk _ _ _ _ (rg_neg hr5.p0 hr5.p1) (by simp) (by omega) (fun i hi=>?_) (fun k hk=>by rw [List.mem_singleton.1 hk]; exact HLI.out U)
     have hi:i < 1:=hi
     obtain rfl:i=0:=by omega
     refine⟨G,0,rfl,?_⟩
     have hg:U.heap[G]? = some (.cells (zN k2 o2 ty2 n2 f2 x2 am2 ks2 cm2 p2) 28 (0,0)):=hU.2
     exact⟨Co hg 0,Co hg 1,Co hg 2,Co hg 3,Co hg 4,Co hg 5,Co hg 6,Co hg 7⟩
    ·have:=HV.out
     exact⟨by show 0≤1+v; omega,by show 1+v≤255; omega⟩
    ·exact⟨HT1.out.p0,HT1.out.p1⟩
    ·exact HT2.out.x1
  ·rw [if_neg hk3] at hq; cases hq
 ·rw [if_neg hmi] at hq
  obtain⟨u,rfl,hval,hq1⟩:=pLit_inv hq
  have hmi2:pIs Zb (u :: q.2)=false:=by simpa using hmi
  have cN:=live_now HG7.out.S
  have hf:=fun v=>field82_4 u v
  clear hq hmi
  go_wp2_with fail
  refine cN.mono ?_
  rintro e w8 ⟨rfl,hb8⟩
  have HG8:=(HG7.out.on hb8).hid
  have cI:=is_l HK.out HG8.out.S Zb (by decide +kernel) hmi2
  clear cN hb8 HG7 hmi2
  go_wp2_with fail
  refine cI.mono ?_
  rintro e w9 ⟨rfl,hb9⟩
  have HG9:=(HG8.out.on hb9).hid
  have cL:=lit_l HK.out HG9.out.S hval
  rw [hq2,← hq1] at cL
  clear cI hb9 HG8 hq1 hq2 hval
  go_wp2_with fail
  refine cL.mono ?_
  rintro e w10 ⟨⟨⟨k2,o2,ty2,n2,f2,x2,p2⟩,am2,cm2,ks2⟩,rfl,htr,hl,hs,hm⟩
  simp only [Nd.vals,Nd.h,Nd.a,Nd.c,Nd.ks,hdA]
  have HTR:=zH htr
  have HLI:=zH hl
  have HG10:=((HG9.out.mv hm hs).push (zN k2 o2 ty2 n2 f2 x2 am2 ks2 cm2 p2) 28).hid
  have hN:=Hn w10 (.cells (zN k2 o2 ty2 n2 f2 x2 am2 ks2 cm2 p2) 28)
  clear cL hs hm htr hl HG9
  go_upto_region 20 with fail
  obtain⟨Q,eQ⟩:∃ q,w10§=q:=⟨_,rfl⟩
  obtain⟨W,eW⟩:∃ W,w10.alloc (.cells (zN k2 o2 ty2 n2 f2 x2 am2 ks2 cm2 p2) 28)=W:=⟨_,rfl⟩
  rw [eW,eQ] at HG10 hN
  rw [eW,eQ]
  clear eW eQ
  have HQ:=zH hN
  clear hN
  obtain⟨x0',x1',x2',x3',x4',x5',x6',x7'⟩:=cl8 HQ.out
  obtain⟨av2,ac2,af2⟩:=HX.rgC (pre:=[_]) HG10.out 2 (by omega)
  obtain⟨av3,ac3,af3⟩:=HX.rgC (pre:=[_]) HG10.out 3 (by omega)
  obtain⟨av4,ac4,af4⟩:=HX.rgC (pre:=[_]) HG10.out 4 (by omega)
  obtain⟨av5,ac5,af5⟩:=HX.rgC (pre:=[_]) HG10.out 5 (by omega)
  obtain⟨av6,ac6,af6⟩:=HX.rgC (pre:=[_]) HG10.out 6 (by omega)
  obtain⟨av7,ac7,af7⟩:=HX.rgC (pre:=[_]) HG10.out 7 (by omega)
  obtain⟨av8,ac8,af8⟩:=HX.rgC (pre:=[_]) HG10.out 8 (by omega)
  obtain⟨av9,ac9,af9⟩:=HX.rgC (pre:=[_]) HG10.out 9 (by omega)
  have HH1:Hid (HX w b K ((((((((W.setCell ⟨N3,2,none⟩ (zU k2)).setCell ⟨N3,3,none⟩ (zU o2)).setCell ⟨N3,4,none⟩ (zU ty2)).setCell ⟨N3,5,none⟩ (zI n2)).setCell ⟨N3,6,none⟩ (zU f2)).setCell ⟨N3,7,none⟩ (.string x2)).setCell ⟨N3,8,none⟩ (.slice am2 ks2.length cm2)).setCell ⟨N3,9,none⟩ (zI p2)) [(Q,28,(zN k2 o2 ty2 n2 f2 x2 am2 ks2 cm2 p2)),(N3,77,(RegM.vals ⟨t2.x,(1+v),(Nd.mk ⟨k2,o2,ty2,n2,f2,x2,p2⟩ am2 cm2 ks2),t1.p⟩)),(w§,77,zA3)] 0 0 (.slice none 0 0) [] (fun _=>True) (t6 :: ts')):=HX.rgM (pre:=[_]) HG10.out (Nd.mk ⟨k2,o2,ty2,n2,f2,x2,p2⟩ am2 cm2 ks2)
  clear HG10
  go_upto_region 21 with fail
  obtain⟨Y1,eY1⟩:∃ Y,((((((((W.setCell ⟨N3,2,none⟩ (zU k2)).setCell ⟨N3,3,none⟩ (zU o2)).setCell ⟨N3,4,none⟩ (zU ty2)).setCell ⟨N3,5,none⟩ (zI n2)).setCell ⟨N3,6,none⟩ (zU f2)).setCell ⟨N3,7,none⟩ (.string x2)).setCell ⟨N3,8,none⟩ (.slice am2 ks2.length cm2)).setCell ⟨N3,9,none⟩ (zI p2))=Y:=⟨_,rfl⟩
  rw [eY1] at HH1 ⊢
  clear eY1 ac2 af2 ac3 af3 ac4 af4 ac5 af5 ac6 af6 ac7 af7 ac8 af8 ac9 af9 x0' x1' x2' x3' x4' x5' x6' x7' HQ
  have cT:=take_l HK.out HH1.out.S ZA (by decide +kernel) HK6.out
  go_wp2_with fail
  refine cT.mono ?_
  rintro e w12 ⟨rfl,hs,hm⟩
  have HG12:=((HH1.out.mv hm hs).pop).hid
  clear cT hs hm HH1
  have HC:Hid (w12.heap[N3]? = some (.cells (RegM.vals ⟨t2.x,(1+v),(Nd.mk ⟨k2,o2,ty2,n2,f2,x2,p2⟩ am2 cm2 ks2),t1.p⟩) 77 (0,0))):=(HG12.out.B _ List.mem_cons_self).1
  have HO:Hid (w12.heap[w§]? = some (.cells zA3 77 (0,0))):=(HG12.out.B _ (List.mem_cons_of_mem _ List.mem_cons_self)).1
  have HF:=(HX.rowA (pre:=[_]) HG12.out (RegM.vals ⟨t2.x,(1+v),(Nd.mk ⟨k2,o2,ty2,n2,f2,x2,p2⟩ am2 cm2 ks2),t1.p⟩)).hid
  have HR:Hid ((w12.setRow w§ (RegM.vals ⟨t2.x,(1+v),(Nd.mk ⟨k2,o2,ty2,n2,f2,x2,p2⟩ am2 cm2 ks2),t1.p⟩)).heap[w§]? = some (.cells (RegM.vals ⟨t2.x,(1+v),(Nd.mk ⟨k2,o2,ty2,n2,f2,x2,p2⟩ am2 cm2 ks2),t1.p⟩) 77 (0,0))):=(HF.out.B _ (List.mem_cons_of_mem _ List.mem_cons_self)).1
  go_wp2_with (first | (refine wpList_load_row rfl 77 (.tmp 3) rfl N3 rfl 77 (RegM.vals ⟨t2.x,(1+v),(Nd.mk ⟨k2,o2,ty2,n2,f2,x2,p2⟩ am2 cm2 ks2),t1.p⟩) (0,0) _ HC.out Tryz.underlying77 rfl size100' ?_) | (refine wpList_store_row rfl 77 (.tmp 2) (.tmp 75) rfl w§ (RegM.vals ⟨t2.x,(1+v),(Nd.mk ⟨k2,o2,ty2,n2,f2,x2,p2⟩ am2 cm2 ks2),t1.p⟩) rfl rfl 77 zA3 HO.out size100' rfl (all11 _) ?_))
  refine bodyPost_ret (results_cell_row rfl _ _ w§ 77 (RegM.vals ⟨t2.x,(1+v),(Nd.mk ⟨k2,o2,ty2,n2,f2,x2,p2⟩ am2 cm2 ks2),t1.p⟩) (0,0) _ rfl HR.out Tryz.underlying77 rfl size100') rfl ⟨⟨t2.x,1+v,(Nd.mk ⟨k2,o2,ty2,n2,f2,x2,p2⟩ am2 cm2 ks2),t1.p⟩,rfl,?_,HF.out.fin.1.imp fun U hU=>⟨HLI.out U,?_,?_,?_⟩,HF.out.S,HF.out.M⟩
  ·show RegT.mk t2.x (1+v) (treeOf (Nd.mk ⟨k2,o2,ty2,n2,f2,x2,p2⟩ am2 cm2 ks2)) t1.p=_
   rw [HTR.out]
  ·have:=HV.out
   exact⟨by show 0≤1+v; omega,by show 1+v≤255; omega⟩
  ·exact⟨HT1.out.p0,HT1.out.p1⟩
  ·exact HT2.out.x1
end Go.Proofs.YtjimaceccllnlaaGreatDoor
