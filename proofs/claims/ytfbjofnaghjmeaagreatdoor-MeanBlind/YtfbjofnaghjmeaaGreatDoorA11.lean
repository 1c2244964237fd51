import Derived.Test.YtfbjofnaghjmeaaGreatDoorA0
import Derived.Test.YtfbjofnaghjmeaaGreatDoorA10
namespace Go.Proofs.YtfbjofnaghjmeaaGreatDoor
set_option maxHeartbeats 4000000
set_option maxRecDepth 100000
open Go.RowKit
set_option linter.unusedVariables false
def kid0 (m:Nd):Nd:=m.ks.getD 0 nd0
def initE (m:Nd):Int:=fs (fE m) (if m.h.k=5∧m.h.o=1 then fs (okE (numB (kid0 m).h.t)) (okE (decide ((kid0 m).h.k=1))) else okE (decide (m.h.k=1)))
theorem form_kid {m:Nd}(h:formB m=true) (h5:m.h.k=5):m.ks.length=1:=by
 obtain⟨hd,a,c,ks⟩:=m
 have h5:hd.k=5:=h5
 have h1:(oneH hd ks.length && formsB ks)=true:=h
 rw [Bool.and_eq_true] at h1
 have h2:=h1.1
 unfold oneH at h2
 rw [Bool.and_eq_true] at h2
 have h3:=h2.2
 unfold fitB at h3
 rw [if_neg (by omega),if_neg (by omega),if_neg (by omega),if_neg (by omega),if_pos h5,Bool.and_eq_true] at h3
 exact of_decide_eq_true h3.1
theorem Gives.two {F:Nat}{args:Array Value}{w:yW}{E:Int}(c:Gives F args w E):(E=0∧Calls zG F args w fun e w'=>e=.returned (.tuple #[])∧yD w w')∨(¬ E=0∧Calls zG F args w fun e w'=>e=.panicked [{ v:=.iface 41 (zI E),recovered:=false }]∧yD w w'):=by
 by_cases h:E=0
 ·subst h; exact .inl ⟨rfl,c.zero⟩
 ·exact .inr ⟨h,c.some h⟩
theorem init_gives (m:Nd) (w:yW) (hl:Lies w m) (ht:Tab w):Gives 207 #[.agg m.vals] w (initE m):=by
 have hb0:=below_new w (.cells m.vals 38)
 have c0:=form_gives (hl.on hb0) (ht.on hb0)
 unfold initE
 have c02:=c0.two
 clear c0
 rcases c02 with ⟨h0,c1⟩ | ⟨h0,c1⟩
 ·rw [fs_z h0]
  have hf:formB m=true:=by
   unfold fE at h0
   by_cases h:formB m=true
   ·exact h
   ·rw [if_neg h] at h0; cases h0
  by_cases h5:m.h.k=5∧m.h.o=1
  ·rw [if_pos h5]
   have hk1:=form_kid hf h5.1
   obtain⟨⟨k2,o2,ty2,n2,f2,x2,p2⟩,am2,cm2,ks2⟩:=m
   obtain⟨rfl,rfl⟩:k2=5∧o2=1:=h5
   have hk1:ks2.length=1:=hk1
   obtain⟨kd,rfl⟩:∃ k,ks2 = [k]:=List.length_eq_one_iff.1 hk1
   obtain⟨B,O,ea,hat⟩:=hl.kid 0 (by show 0 < 1; omega)
   have ea:am2=some B¢O:=ea
   subst ea
   have hat:NdAt w B (O+0 * 8) kd:=hat
   have HAT:=hat.hid
   have hcap:1≤cm2:=hl.cap
   have HKD:Hid (kid0 (.mk ⟨5,1,ty2,n2,f2,x2,p2⟩ (some B¢O) cm2 [kd])=kd):=rfl
   rw [HKD.out]
   unfold Nd.vals hdA at c1 hb0
   simp only [Nd.h,Nd.a,Nd.c,Nd.ks,List.length_cons,List.length_nil,Nat.zero_add] at c1 hb0
   unfold Gives
   simp only [Nd.vals,hdA,Nd.h,Nd.a,Nd.c,Nd.ks,List.length_cons,List.length_nil,Nat.zero_add]
   obtain⟨⟨k3,o3,ty3,n3,f3,x3,p3⟩,am3,cm3,ks3⟩:=kd
   clear h0 hf hl ht hat hk1 HKD
   go_enter Tryz.func207,Tryz.ntmps207
   go_wp2_with fail
   refine c1.mono ?_
   rintro e w1 ⟨rfl,hb⟩
   have hN1:=(hb.block w§ (by rw [size_alloc]; omega)).trans (heap_new w _)
   have HB1:Hid (yD w w1):=below2 hb0 hb
   have hk1:=HAT.out.on HB1.out
   simp only [Nat.zero_mul,Nat.add_zero] at hk1
   obtain⟨x0,x1,x2',x3',x4,x5,x6,x7⟩:=hk1
   simp only [Nd.h,Nd.a,Nd.c,Nd.ks] at x0 x1 x2' x3' x4 x5 x6 x7
   have q0:w1.cell? w§¢0=some (zU 5):=cell_of hN1 0
   have q1:w1.cell? w§¢1=some (zU 1):=cell_of hN1 1
   have q2:w1.cell? w§¢2=some (zU ty2):=cell_of hN1 2
   have q3:w1.cell? w§¢3=some (zI n2):=cell_of hN1 3
   have q4:w1.cell? w§¢4=some (zU f2):=cell_of hN1 4
   have q5:w1.cell? w§¢5=some (.string x2):=cell_of hN1 5
   have q6:w1.cell? w§¢6=some (.slice (some B¢O) 1 cm2):=cell_of hN1 6
   have q7:w1.cell? w§¢7=some (zI p2):=cell_of hN1 7
   have r0:=frozen_of hN1 0
   have r1:=frozen_of hN1 1
   have r2:=frozen_of hN1 2
   have r3:=frozen_of hN1 3
   have r4:=frozen_of hN1 4
   have r5:=frozen_of hN1 5
   have r6:=frozen_of hN1 6
   have r7:=frozen_of hN1 7
   obtain⟨Y,eY,hY1,hY2,hY3,hY4⟩:=fin8 hN1 (zU k3) (zU o3) (zU ty3) (zI n3) (zU f3) (.string x3) (.slice am3 ks3.length cm3) (zI p3)
   have HBY:Hid (yD w Y):=(hY4 w (fun _=>False) (Mv.ofBelow HB1.out) (Nat.le_refl _)).below (Nat.le_refl _) (fun _ e=>e.elim)
   have HY1:Hid (Y.heap[w§]? = (zC (zW k3 o3 ty3 n3 f3 x3 am3 ks3 cm3 p3) 38)):=hY1
   have HEY:Hid (_=Y):=eY
   clear hb hN1 c1 HB1 HAT hb0 eY hY1 hY2 hY3 hY4
   go_upto_region 4 with fail
   rw [HEY.out]
   clear q0 q1 q2 q3 q4 q5 q6 q7 r0 r1 r2 r3 r4 r5 r6 r7 x0 x1 x2' x3' x4 x5 x6 x7 HEY
   have y0:Y.cell? w§¢0=some (zU k3):=cell_of HY1.out 0
   have y2:Y.cell? w§¢2=some (zU ty3):=cell_of HY1.out 2
   have c2:=isNumber_any ty3 Y
   go_wp2_with fail
   refine c2.mono ?_
   rintro e w2 ⟨rfl,e2⟩
   obtain rfl:=e2.symm
   clear c2 e2
   have c3:=need_gives (numB ty3) Y
   rcases c3.two with ⟨h1,c3⟩ | ⟨h1,c3⟩
   ·go_wp2_with fail
    refine c3.mono ?_
    rintro e w3 ⟨rfl,hb3⟩
    have HB3:Hid (yD w w3):=below2 HBY.out hb3
    have z0:w3.cell? w§¢0=some (zU k3):=cell_of ((hb3.block _ (zJ HY1.out).1).trans HY1.out) 0
    have c4:=need_gives (decide (k3=1)) w3
    clear c3 hb3 y0 y2 HY1
    rcases c4.two with ⟨h2,c4⟩ | ⟨h2,c4⟩
    ·go_wp2_with fail
     try simp only [beq_eq_decide] at *
     refine c4.mono ?_
     rintro e w4 ⟨rfl,hb4⟩
     have HB4:Hid (yD w w4):=below2 HB3.out hb4
     clear c4 hb4
     go_wp2_with fail
     go_end0
     exact⟨.inl ⟨by rw [fs_z h1]; exact h2,rfl⟩,HB4.out⟩
    ·go_wp2_with fail
     try simp only [beq_eq_decide] at *
     refine c4.mono ?_
     rintro e w4 ⟨rfl,hb4⟩
     exact⟨rfl,.inr ⟨by rw [fs_z h1]; exact h2,by simp only [fs_z h1]; rfl⟩,below2 HB3.out hb4⟩
   ·go_wp2_with fail
    refine c3.mono ?_
    rintro e w3 ⟨rfl,hb3⟩
    exact⟨rfl,.inr ⟨by rw [fs_n h1]; exact h1,by rw [fs_n h1]⟩,below2 HBY.out hb3⟩
  ·rw [if_neg h5]
   obtain⟨⟨k2,o2,ty2,n2,f2,x2,p2⟩,am2,cm2,ks2⟩:=m
   have h5:¬ (k2=5∧o2=1):=h5
   unfold Nd.vals hdA at c1 hb0
   simp only [Nd.h,Nd.a,Nd.c,Nd.ks] at c1 hb0
   unfold Gives
   simp only [Nd.vals,hdA,Nd.h,Nd.a,Nd.c,Nd.ks]
   clear h0 hf hl ht
   have body:∀ w1:yW,yD w w1→True:=fun _ _=>trivial
   by_cases hk:k2=5
   ·have ho:¬ o2=1:=fun e=>h5 ⟨hk,e⟩
    subst hk
    have ho2:(o2 == 1)=false:=by simpa using ho
    clear h5 ho
    go_enter Tryz.func207,Tryz.ntmps207
    go_wp2_with fail
    refine c1.mono ?_
    rintro e w1 ⟨rfl,hb⟩
    have hN1:=(hb.block w§ (by rw [size_alloc]; omega)).trans (heap_new w _)
    have HB1:Hid (yD w w1):=below2 hb0 hb
    have q0:w1.cell? w§¢0=some (zU 5):=cell_of hN1 0
    have q1:w1.cell? w§¢1=some (zU o2):=cell_of hN1 1
    have c4:=(need_gives false w1).some (by decide)
    clear hb hN1 c1 hb0 body
    go_wp2_with fail
    refine c4.mono ?_
    rintro e w4 ⟨rfl,hb4⟩
    exact⟨rfl,.inr ⟨by simp [okE],by simp [okE]⟩,below2 HB1.out hb4⟩
   ·have hk2:(k2 == 5)=false:=by simpa using hk
    clear h5 hk
    go_enter Tryz.func207,Tryz.ntmps207
    go_wp2_with fail
    refine c1.mono ?_
    rintro e w1 ⟨rfl,hb⟩
    have hN1:=(hb.block w§ (by rw [size_alloc]; omega)).trans (heap_new w _)
    have HB1:Hid (yD w w1):=below2 hb0 hb
    have q0:w1.cell? w§¢0=some (zU k2):=cell_of hN1 0
    have q1:w1.cell? w§¢1=some (zU o2):=cell_of hN1 1
    have c4:=need_gives (decide (k2=1)) w1
    clear hb hN1 c1 hb0 body
    rcases c4.two with ⟨h2,c4⟩ | ⟨h2,c4⟩
    ·go_wp2_with fail
     try simp only [beq_eq_decide] at *
     refine c4.mono ?_
     rintro e w4 ⟨rfl,hb4⟩
     have HB4:Hid (yD w w4):=below2 HB1.out hb4
     clear c4 hb4
     go_wp2_with fail
     go_end0
     exact⟨.inl ⟨h2,rfl⟩,HB4.out⟩
    ·go_wp2_with fail
     try simp only [beq_eq_decide] at *
     refine c4.mono ?_
     rintro e w4 ⟨rfl,hb4⟩
     exact⟨rfl,.inr ⟨h2,rfl⟩,below2 HB1.out hb4⟩
 ·rw [fs_n h0]
  unfold Gives
  unfold Nd.vals hdA at c1 ⊢
  clear hl ht hb0
  go_enter Tryz.func207,Tryz.ntmps207
  go_wp2_with fail
  refine c1.mono ?_
  rintro e w1 ⟨rfl,hb⟩
  exact⟨rfl,.inr ⟨h0,rfl⟩,below2 (below_new _ _) hb⟩
def regE (r:RegM):Int:=fs (namE r.x) (fs (okE (decide (1≤r.t∧r.t≤6))) (initE r.m))
theorem fs3_z {a b c:Int}(h1:a=0) (h2:b=0):fs a (fs b c)=c:=by rw [fs_z h1,fs_z h2]
theorem fs3_n {a b c:Int}(h1:a=0) (h2:¬ b=0):fs a (fs b c)=b:=by rw [fs_z h1,fs_n h2]
theorem nd_rng {w:yW}{g:Nat}{cs:Array Value}{t:TypeId}{fr:Nat × Nat}(h:w.heap[g]? = some (.cells cs t fr)) (o:Nat) (m:Nd) (hl:∀ j,j < 8→cs[o+j]? = m.vals.toList[j]?):w.rangeAt g o m.vals.toList:=rng_of h o _ hl
theorem size38 (m:Nd):(Tryz.prog.info? 38).map (·.size)=some m.vals.toList.length:=by show _=some 8; kernel_rfl
theorem reg_m (r:RegM):∀ j,j < 8→r.vals[2+j]? = r.m.vals.toList[j]?:=fun j hj=>by
 match j,hj with
 | 0,_=>rfl
 | 1,_=>rfl
 | 2,_=>rfl
 | 3,_=>rfl
 | 4,_=>rfl
 | 5,_=>rfl
 | 6,_=>rfl
 | 7,_=>rfl
theorem toArr (m:Nd):m.vals.toList.toArray=m.vals:=by simp
theorem reg_gives (r:RegM) (w:yW) (hl:RegL w r) (ht:Tab w):Gives 179 #[.agg r.vals] w (regE r):=by
 have hb0:=below_new w (.cells r.vals 102)
 have hn0:=heap_new w (.cells r.vals 102)
 have HH:Hid (RegL w r∧Tab w):=⟨hl,ht⟩
 have q0:(w.alloc (.cells r.vals 102)).cell? w§¢0=some (.string r.x):=cell_of hn0 0
 have HN0:Hid ((w.alloc (.cells r.vals 102)).heap[w§]? = (zC r.vals 102)):=hn0
 have HB0:Hid (yD w (w.alloc (.cells r.vals 102))):=hb0
 have c1:=(nm_gives (x:=r.x) hl.2.2.2 (ht.on hb0)).two
 obtain⟨E,eE⟩:∃ E,regE r=E:=⟨_,rfl⟩
 have HE:Hid (fs (namE r.x) (fs (okE (decide (1≤r.t∧r.t≤6))) (initE r.m))=E):=eE
 rw [eE]
 clear hl ht eE hb0 hn0
 unfold Gives
 rcases c1 with ⟨h1,c1⟩ | ⟨h1,c1⟩
 ·go_enter Tryz.func179,Tryz.ntmps179
  go_wp2_with fail
  refine c1.mono ?_
  rintro e w1 ⟨rfl,hb⟩
  have HB1:Hid (yD w w1):=below2 HB0.out hb
  have hn1:=(hb.block _ (zJ HN0.out).1).trans HN0.out
  have HN1:Hid (w1.heap[w§]? = (zC r.vals 102)):=hn1
  have q1:w1.cell? w§¢1=some (zU r.t):=cell_of hn1 1
  have c2:=wU_any 206 r.t 1 6 w1 (by simp)
  obtain⟨B,eB⟩:∃ B,decide (1≤r.t∧r.t≤6)=B:=⟨_,rfl⟩
  rw [eB] at c2 HE
  clear eB
  clear c1 hb hn1 q0 HN0 HB0
  go_wp2_with fail
  refine c2.mono ?_
  rintro e w2 ⟨rfl,e2⟩
  obtain rfl:=e2.symm
  have c3:=(need_gives B w1).two
  clear c2 e2
  rcases c3 with ⟨h2,c3⟩ | ⟨h2,c3⟩
  ·go_wp2_with fail
   refine c3.mono ?_
   rintro e w3 ⟨rfl,hb⟩
   have HB3:Hid (yD w w3):=below2 HB1.out hb
   have hn3:=(hb.block _ (zJ HN1.out).1).trans HN1.out
   have HN3:Hid (w3.heap[w§]? = (zC r.vals 102)):=hn3
   have c4:=(init_gives r.m w3 (HH.out.1.1.on HB3.out) (HH.out.2.on HB3.out)).two
   clear c3 hb hn3 q1 HN1 HB1
   rcases c4 with ⟨h3,c4⟩ | ⟨h3,c4⟩
   ·go_wp2_with (refine wpList_load_mid rfl 38 (.tmp 9) rfl w§ 2 rfl r.m.vals.toList _ (nd_rng HN3.out 2 r.m (reg_m r)) Tryz.underlying38 rfl (size38 r.m) ?_; rw [toArr])
    refine c4.mono ?_
    rintro e w4 ⟨rfl,hb⟩
    have HB4:Hid (yD w w4):=below2 HB3.out hb
    clear c4 hb
    go_wp2_with fail
    go_end0
    exact⟨.inl ⟨by rw [← HE.out,fs3_z h1 h2]; exact h3,rfl⟩,HB4.out⟩
   ·go_wp2_with (refine wpList_load_mid rfl 38 (.tmp 9) rfl w§ 2 rfl r.m.vals.toList _ (nd_rng HN3.out 2 r.m (reg_m r)) Tryz.underlying38 rfl (size38 r.m) ?_; rw [toArr])
    refine c4.mono ?_
    rintro e w4 ⟨rfl,hb⟩
    have hE:E=initE r.m:=by rw [← HE.out,fs3_z h1 h2]
    exact⟨rfl,.inr ⟨by rw [hE]; exact h3,by rw [hE]⟩,below2 HB3.out hb⟩
  ·go_wp2_with fail
   refine c3.mono ?_
   rintro e w3 ⟨rfl,hb⟩
   have hE:E=okE B:=by rw [← HE.out,fs3_n h1 h2]
   exact⟨rfl,.inr ⟨by rw [hE]; exact h2,by rw [hE]⟩,below2 HB1.out hb⟩
 ·go_enter Tryz.func179,Tryz.ntmps179
  go_wp2_with fail
  refine c1.mono ?_
  rintro e w1 ⟨rfl,hb⟩
  have hE:E=namE r.x:=by rw [← HE.out,fs_n h1]
  exact⟨rfl,.inr ⟨by rw [hE]; exact h1,by rw [hE]⟩,below2 HB0.out hb⟩
set_option linter.unusedSimpArgs false
def kwB (x:yB):Bool:=decide ((lx x.data.toList).map (·.1)=some 1∨(lx x.data.toList).map (·.1)=some 4)
theorem sls_new (w:yW) (L:List yB):SLs (w.alloc (.cells (L.map .string).toArray 9)) w§ L:=fun j hj=>by
 rw [cell_of (heap_new w _) j]
 simp [hj]
theorem any_y {w:yW}{b:Nat}{K:PK}{t:Tk}{ts:List Tk}(h:Lv w b K (t :: ts)) (hK:KG K) (L:List yB) {n:Nat}(hn:L.length=n) (hm:n≤1000) (hL:L.all kwB=true) :
  Calls zG 174 #[zP b,.slice (some w§¢0) n n] (w.alloc (.cells (L.map .string).toArray 9)) fun e w'=>e=.returned (zI (fnd t.x L 0))∧yD w w':=by
 subst hn
 have hb:=below_new w (.cells (L.map .string).toArray 9)
 refine (any_live (h.on hb) (sls_new w L) hm (fun x hx=>kw_gd (h.gd hK) ?_)).mono ?_
 ·have:=List.all_eq_true.1 hL x hx
  exact of_decide_eq_true this
 ·rintro e w' ⟨h1,h2⟩
  exact⟨h1,below2 hb h2⟩
theorem HX.b0 {w:yW}{b:Nat}{K:PK}{V:yW}{N T:Nat}{cs:Array Value}{bs:List (Nat × Nat × Array Value)}{e sz:Nat}{v:Value}{vs:List (Array Value)}{F:yW→Prop}{ts:List Tk}(h:HX w b K V ((N,T,cs) :: bs) e sz v vs F ts):V.heap[N]? = (zC cs T):=(h.B _ List.mem_cons_self).1
theorem HX.b1 {w:yW}{b:Nat}{K:PK}{V:yW}{N T:Nat}{cs:Array Value}{q:Nat × Nat × Array Value}{bs:List (Nat × Nat × Array Value)}{e sz:Nat}{v:Value}{vs:List (Array Value)}{F:yW→Prop}{ts:List Tk}(h:HX w b K V (q :: (N,T,cs) :: bs) e sz v vs F ts):V.heap[N]? = (zC cs T):=(h.B _ (List.mem_cons_of_mem _ List.mem_cons_self)).1
theorem HX.b2 {w:yW}{b:Nat}{K:PK}{V:yW}{N T:Nat}{cs:Array Value}{q r:Nat × Nat × Array Value}{bs:List (Nat × Nat × Array Value)}{e sz:Nat}{v:Value}{vs:List (Array Value)}{F:yW→Prop}{ts:List Tk}(h:HX w b K V (q :: r :: (N,T,cs) :: bs) e sz v vs F ts):V.heap[N]? = (zC cs T):=(h.B _ (List.mem_cons_of_mem _ (List.mem_cons_of_mem _ List.mem_cons_self))).1
theorem lies_leaf (U:yW) {h:Hd}(hr:Rg h):Lies U (.mk h none 0 []):=.mk h none 0 [] hr (by simp) (by omega) (fun i hi=>by simp at hi) (fun k hk=>by simp at hk)
theorem size64':(Tryz.prog.info? 38).map (·.size)=some 8:=by kernel_rfl
theorem lit_num {w:yW}{b:Nat}{K:PK}{t:Tk}{ts:List Tk}(h:Lv w b K (t :: ts)) (hk:t.k=3) :
  Calls zG 175 #[zP b] w fun e w'=>e=.returned (.tuple #[.agg #[zU 1,zU 0,zU t.ty,zI t.n,zU 0,yQ,.slice none 0 0,zI t.p],.bool true])∧Lv w' b K ts∧Mv w w' (fun k=>k=b):=by
 have HG0:=((HX.new h 0 0).push zNo 38).hid
 obtain⟨W0,eW0⟩:∃ W,w.alloc (.cells zNo 38)=W:=⟨_,rfl⟩
 rw [eW0] at HG0
 have hbw:=h.lt
 have cN:=live_now HG0.out.S
 unfold tkA at cN
 rw [hk] at cN
 clear h hk
 go_enter Tryz.func175,Tryz.ntmps175
 go_wp2_with fail
 try rw [eW0]
 refine cN.mono ?_
 rintro e w1 ⟨rfl,hb⟩
 have HG1:=(((HG0.out.on hb).push #[zU 3,.string t.x,zU t.ty,zI t.n,zI t.p] 233).push #[zU 1,zU 0,zU 0,zI 0,zU 0,yQ,.slice none 0 0,zI t.p] 38).hid
 have hlw:=hb.size
 rw [← eW0,size_alloc] at hlw
 clear cN hb HG0 eW0
 rw [size_alloc] at HG1
 go_upto_region 4 with fail
 obtain⟨V,eV⟩:∃ V,(w1.alloc (.cells #[zU 3,.string t.x,zU t.ty,zI t.n,zI t.p] 233)).alloc (.cells #[zU 1,zU 0,zU 0,zI 0,zU 0,yQ,.slice none 0 0,zI t.p] 38)=V:=⟨_,rfl⟩
 rw [eV] at HG1 ⊢
 clear eV
 obtain⟨Q,eQ⟩:∃ Q,w1§=Q:=⟨_,rfl⟩
 rw [eQ] at HG1 hlw ⊢
 clear eQ
 obtain⟨N,eN⟩:∃ N,Q+1=N:=⟨_,rfl⟩
 rw [eN] at HG1 ⊢
 have nQ:¬ Q=N:=by omega
 have nB:¬ b=N:=by omega
 have HG3:=(HX.setA (pre:=[]) (HX.setA (pre:=[]) HG1.out 2 (zU t.ty)) 3 (zI t.n)).hid
 have hT:=HG1.out.b1
 have hN:=HG1.out.b0
 have k0:=cell_of hT 0
 have k1:=cell_of hT 1
 have k2:=cell_of hT 2
 have k3:=cell_of hT 3
 have m2:=cell_of hN 2
 have f2:=frozen_of hN 2
 have m3:=cell_of hN 3
 have f3:=frozen_of hN 3
 simp only [List.getElem?_toArray,List.getElem?_cons_zero,List.getElem?_cons_succ] at k0 k1 k2 k3 m2 m3
 clear hT hN HG1 eN
 go_upto_region 16 with fail
 obtain⟨Y,eY⟩:∃ Y,(V.setCell N¢2 (zU t.ty)).setCell N¢3 (zI t.n)=Y:=⟨_,rfl⟩
 rw [eY] at HG3 ⊢
 clear eY k0 k1 k2 k3 m2 f2 m3 f3
 obtain⟨i,c3,g3,hmx,hL,hM,_,_⟩:=HG3.out.S.at'
 have HG4:=(HG3.out.mv hM hL).hid
 clear hL hM
 go_upto_region 17 with fail
 generalize Y.setCell b¢3 _=Z at HG4 ⊢
 have HC:Hid (Z.heap[N]? = (zC #[zU 1,zU 0,zU t.ty,zI t.n,zU 0,yQ,.slice none 0 0,zI t.p] 38)):=HG4.out.b0
 have HO:Hid (Z.heap[w§]? = (zC zNo 38)):=HG4.out.b2
 have HF:=(HX.rowA (pre:=[_,_]) HG4.out #[zU 1,zU 0,zU t.ty,zI t.n,zU 0,yQ,.slice none 0 0,zI t.p]).hid
 clear c3 g3 hmx HG3 HG4
 go_wp2_with (first | (refine wpList_load_row rfl 38 (.tmp 5) rfl N rfl 38 #[zU 1,zU 0,zU t.ty,zI t.n,zU 0,yQ,.slice none 0 0,zI t.p] (0,0) _ HC.out Tryz.underlying38 rfl size64' ?_) | (refine wpList_store_row rfl 38 (.tmp 2) (.tmp 68) rfl w§ #[zU 1,zU 0,zU t.ty,zI t.n,zU 0,yQ,.slice none 0 0,zI t.p] rfl rfl 38 _ HO.out size64' rfl (by simp [Value.oneCell']) ?_))
 exact bodyPost_ret (results_two (p:=2) (u:=3) (ty:=38) rfl _ _ w§ 38 #[zU 1,zU 0,zU t.ty,zI t.n,zU 0,yQ,.slice none 0 0,zI t.p] (0,0) _ rfl HF.out.b2 Tryz.underlying38 rfl size64') rfl ⟨rfl,HF.out.S,HF.out.M⟩
theorem lit_buy {w:yW}{b:Nat}{K:PK}{t:Tk}{ts:List Tk}(h:Lv w b K (t :: ts)) (hk:t.k=1) (hx:t.x=Zk) :
  Calls zG 175 #[zP b] w fun e w'=>e=.returned (.tuple #[.agg #[zU 1,zU 0,zU 6,zI 1,zU 0,yQ,.slice none 0 0,zI t.p],.bool true])∧Lv w' b K ts∧Mv w w' (fun k=>k=b):=by
 have HG0:=((HX.new h 0 0).push zNo 38).hid
 obtain⟨W0,eW0⟩:∃ W,w.alloc (.cells zNo 38)=W:=⟨_,rfl⟩
 rw [eW0] at HG0
 have hbw:=h.lt
 have cN:=live_now HG0.out.S
 unfold tkA at cN
 rw [hk,hx] at cN
 clear h hk hx
 go_enter Tryz.func175,Tryz.ntmps175
 go_wp2_with fail
 try rw [eW0]
 refine cN.mono ?_
 rintro e w1 ⟨rfl,hb⟩
 have HG1:=(((HG0.out.on hb).push #[zU 1,.string Zk,zU t.ty,zI t.n,zI t.p] 233).push #[zU 1,zU 0,zU 0,zI 0,zU 0,yQ,.slice none 0 0,zI t.p] 38).hid
 have hlw:=hb.size
 rw [← eW0,size_alloc] at hlw
 clear cN hb HG0 eW0
 rw [size_alloc] at HG1
 go_upto_region 4 with fail
 obtain⟨V,eV⟩:∃ V,(w1.alloc (.cells #[zU 1,.string Zk,zU t.ty,zI t.n,zI t.p] 233)).alloc (.cells #[zU 1,zU 0,zU 0,zI 0,zU 0,yQ,.slice none 0 0,zI t.p] 38)=V:=⟨_,rfl⟩
 rw [eV] at HG1 ⊢
 clear eV
 obtain⟨Q,eQ⟩:∃ Q,w1§=Q:=⟨_,rfl⟩
 rw [eQ] at HG1 hlw ⊢
 clear eQ
 obtain⟨N,eN⟩:∃ N,Q+1=N:=⟨_,rfl⟩
 rw [eN] at HG1 ⊢
 have nQ:¬ Q=N:=by omega
 have nB:¬ b=N:=by omega
 have HG3:=(HX.setA (pre:=[]) (HX.setA (pre:=[]) HG1.out 2 (zU 6)) 3 (zI 1)).hid
 have hT:=HG1.out.b1
 have hN:=HG1.out.b0
 have k0:=cell_of hT 0
 have k1:=cell_of hT 1
 have k2:=cell_of hT 2
 have k3:=cell_of hT 3
 have m2:=cell_of hN 2
 have f2:=frozen_of hN 2
 have m3:=cell_of hN 3
 have f3:=frozen_of hN 3
 simp only [List.getElem?_toArray,List.getElem?_cons_zero,List.getElem?_cons_succ] at k0 k1 k2 k3 m2 m3
 clear hT hN HG1 eN
 go_upto_region 16 with fail
 obtain⟨Y,eY⟩:∃ Y,(V.setCell N¢2 (zU 6)).setCell N¢3 (zI 1)=Y:=⟨_,rfl⟩
 rw [eY] at HG3 ⊢
 clear eY k0 k1 k2 k3 m2 f2 m3 f3
 obtain⟨i,c3,g3,hmx,hL,hM,_,_⟩:=HG3.out.S.at'
 have HG4:=(HG3.out.mv hM hL).hid
 clear hL hM
 go_upto_region 17 with fail
 generalize Y.setCell b¢3 _=Z at HG4 ⊢
 have HC:Hid (Z.heap[N]? = (zC #[zU 1,zU 0,zU 6,zI 1,zU 0,yQ,.slice none 0 0,zI t.p] 38)):=HG4.out.b0
 have HO:Hid (Z.heap[w§]? = (zC zNo 38)):=HG4.out.b2
 have HF:=(HX.rowA (pre:=[_,_]) HG4.out #[zU 1,zU 0,zU 6,zI 1,zU 0,yQ,.slice none 0 0,zI t.p]).hid
 clear c3 g3 hmx HG3 HG4
 go_wp2_with (first | (refine wpList_load_row rfl 38 (.tmp 5) rfl N rfl 38 #[zU 1,zU 0,zU 6,zI 1,zU 0,yQ,.slice none 0 0,zI t.p] (0,0) _ HC.out Tryz.underlying38 rfl size64' ?_) | (refine wpList_store_row rfl 38 (.tmp 2) (.tmp 68) rfl w§ #[zU 1,zU 0,zU 6,zI 1,zU 0,yQ,.slice none 0 0,zI t.p] rfl rfl 38 _ HO.out size64' rfl (by simp [Value.oneCell']) ?_))
 exact bodyPost_ret (results_two (p:=2) (u:=3) (ty:=38) rfl _ _ w§ 38 #[zU 1,zU 0,zU 6,zI 1,zU 0,yQ,.slice none 0 0,zI t.p] (0,0) _ rfl HF.out.b2 Tryz.underlying38 rfl size64') rfl ⟨rfl,HF.out.S,HF.out.M⟩
theorem RgT.num {t:Tk}(h:RgT t):Rg ⟨1,0,t.ty,t.n,0,gE,t.p⟩:=by
 have:=h.y0; have:=h.y1; have:=h.n0; have:=h.n1; have:=h.p0; have:=h.p1
 constructor <;> first | assumption | omega | (simp only; omega) | (show gE.size≤140737488355328; decide)
theorem RgT.tru {t:Tk}(h:RgT t):Rg ⟨1,0,6,1,0,gE,t.p⟩:=by
 have:=h.p0; have:=h.p1
 constructor <;> first | assumption | omega | (simp only; omega) | (show gE.size≤140737488355328; decide)
theorem lit_y {w:yW}{b:Nat}{K:PK}{t:Tk}{ts ts':List Tk}{r:Tr}(hK:KG K) (h:Lv w b K (t :: ts)) (hp:pLit (t :: ts)=some (r,ts')) :
  Calls zG 175 #[zP b] w fun e w'=>∃ m:Nd,e=.returned (.tuple #[.agg m.vals,.bool true])∧treeOf m=r∧(∀ U,Lies U m)∧Lv w' b K ts'∧Mv w w' (fun k=>k=b):=by
 have hr:=(h.ok hK.k).r
 simp only [pLit] at hp
 by_cases h3:t.k=3
 ·rw [if_pos h3] at hp
  cases hp
  refine (lit_num h h3).mono ?_
  rintro e w' ⟨rfl,h1,h2⟩
  exact⟨.mk ⟨1,0,t.ty,t.n,0,gE,t.p⟩ none 0 [],rfl,rfl,fun U=>lies_leaf U hr.num,h1,h2⟩
 ·rw [if_neg h3] at hp
  by_cases h1:t.k=1∧t.x=Zk
  ·rw [if_pos h1] at hp
   cases hp
   refine (lit_buy h h1.1 h1.2).mono ?_
   rintro e w' ⟨rfl,h1,h2⟩
   exact⟨.mk ⟨1,0,6,1,0,gE,t.p⟩ none 0 [],rfl,rfl,fun U=>lies_leaf U hr.tru,h1,h2⟩
  ·rw [if_neg h1] at hp
   cases hp
theorem inf102:(Tryz.prog.info? 129).map (fun i=>(i.zero,i.size,i.bytes))=some (some (.agg zw),2,24):=by kernel_rfl
theorem inf110:(Tryz.prog.info? 121).map (fun i=>(i.zero,i.size,i.bytes))=some (some (.agg #[zU 0,zU 0,yQ,zU 0,zU 0,zU 0,zI 0,zU 0,yQ,.slice none 0 0,zI 0,zU 0,zU 0,zU 0,zI 0,zU 0,yQ,.slice none 0 0,zI 0,zU 0,zU 0,zU 0,zI 0,zU 0,yQ,.slice none 0 0,zI 0,zU 0,zU 0,zU 0,zI 0,zU 0,yQ,.slice none 0 0,zI 0,zI 0]),36,320):=by kernel_rfl
def Cl (V:yW) (N i:Nat) (v:Value):Prop:=∃ (cs:Array Value) (T:Nat),V.heap[N]? = (zC cs T)∧cs[i]? = some v
theorem Cl.hid {V:yW}{N i:Nat}{v:Value}(h:Cl V N i v):Hid (Cl V N i v):=h
theorem Cl.blk {V V':yW}{N i:Nat}{v:Value}(h:Cl V N i v) (k:V'.heap[N]? = V.heap[N]?):Cl V' N i v:=by
 obtain⟨cs,T,h1,h2⟩:=h
 exact⟨cs,T,k.trans h1,h2⟩
theorem Cl.lt {V:yW}{N i:Nat}{v:Value}(h:Cl V N i v):N < V§:=by
 obtain⟨cs,T,h1,h2⟩:=h
 exact (zJ h1).1
theorem Cl.cell {V:yW}{N i:Nat}{v:Value}(h:Cl V N i v):V.cell? N¢i=some v:=by
 obtain⟨cs,T,h1,h2⟩:=h
 rw [cell_of h1 i]; exact h2
theorem Cl.mv {V V':yW}{N i b:Nat}{v:Value}(h:Cl V N i v) (hm:Mv V V' (fun k=>k=b)) (hb:b≠N):Cl V' N i v:=h.blk (hm.block _ h.lt (fun e=>hb e.symm))
theorem Cl.on {V V':yW}{N i:Nat}{v:Value}(h:Cl V N i v) (k:yD V V'):Cl V' N i v:=h.blk (k.block _ h.lt)
def clen (N i:Nat) (w:yW):Nat:=slen ((w.cell? N¢i).getD (.bool false))
theorem Cl.clen {V:yW}{N i:Nat}{a:Option Addr}{n c:Nat}(h:Cl V N i (.slice a n c)):clen N i V=n:=by
 unfold Go.Proofs.YtfbjofnaghjmeaaGreatDoor.clen
 rw [h.cell]
 rfl
theorem inf106:(Tryz.prog.info? 100).map (fun i=>(i.zero,i.size,i.bytes))=some (some (.agg zg),10,104):=by kernel_rfl
theorem inf100:(Tryz.prog.info? 102).map (fun i=>(i.zero,i.size,i.bytes))=some (some (.agg ze),11,104):=by kernel_rfl
theorem inf87:(Tryz.prog.info? 69).map (fun i=>(i.zero,i.size,i.bytes))=some (some (.agg zk),3,48):=by kernel_rfl
theorem size50:(Tryz.prog.info? 123).map (·.size)=some 3:=by kernel_rfl
theorem below_row {w V:yW}(h:yD w V) {R:Nat}(hR:w§≤R) (cs:Array Value):yD w (V.setRow R cs):=by
 have m:Mv w V (fun _=>False):=Mv.ofBelow h
 have hsz:(V.setRow R cs)§=V§:=by unfold World.setRow; simp
 have m2:Mv w (V.setRow R cs) (fun _=>False):=⟨m.os,m.tape,m.output,by rw [hsz]; exact m.size,fun k hk hn'=>by
  rw [setRow_oth _ _ _ (show k≠R by omega)]
  exact m.block k hk hn'⟩
 exact m2.below (Nat.le_refl _) (fun _ e=>e.elim)
structure XS (w:yW) (Z:Array Value) (T:Nat) (V:yW):Prop where
 B:yD w V
 z:V.heap[w§]? = (zC Z T)
 f:V.heap[w§+1]? = (zC zn 123)
theorem XS.hid {w V:yW}{Z:Array Value}{T:Nat}(h:XS w Z T V):Hid (XS w Z T V):=h
theorem XS.new (w:yW) (Z:Array Value) (T:Nat):XS w Z T ((w.alloc (.cells Z T)).alloc (.cells zn 123)):=by
 have b1:=below_new w (.cells Z T)
 have b2:=below_new (w.alloc (.cells Z T)) (.cells zn 123)
 have n2:=heap_new (w.alloc (.cells Z T)) (.cells zn 123)
 have s1:=size_alloc w (.cells Z T)
 rw [s1] at n2
 exact⟨below2 b1 b2,(b2.block _ (by omega)).trans (heap_new w (.cells Z T)),n2⟩
theorem XS.mv {w V V':yW}{Z:Array Value}{T:Nat}(h:XS w Z T V) {F:Nat→Prop}(m:Mv V V' F) (hF:∀ k,F k→w§+1 < k):XS w Z T V':=by
 have hz:=(zJ h.z).1
 have hf:=(zJ h.f).1
 have hs:=h.B.size
 refine⟨?_,(m.block _ hz (fun e=>by have:=hF _ e; omega)).trans h.z,(m.block _ hf (fun e=>by have:=hF _ e; omega)).trans h.f⟩
 have m1:Mv w V (fun k=>w§+1 < k):=Mv.ofBelow h.B
 exact (m1.trans m (fun k e=>.inl (hF k e))).below (Nat.le_refl _) (fun k e=>by omega)
theorem XS.on {w V V':yW}{Z:Array Value}{T:Nat}(h:XS w Z T V) (k:yD V V'):XS w Z T V':=h.mv (F:=fun _=>False) (Mv.ofBelow k) (fun _ e=>e.elim)
theorem results_cc {P:Program}{fn:Func}{p u:Tmp}{ty ty2:TypeId}(h:fn.results=#[.cell p ty,.cell u ty2]) (tmps:Array Value) (w:yW) (g g2:Nat) (t t2:TypeId) (cs cs2:Array Value) (fr fr2:Nat × Nat) (d d2:TypeDesc)
  (hp:tmps.getD p undef=zP g) (hg:w.heap[g]? = some (.cells cs t fr))
  (hu:P.underlying ty=some d) (hd:(match d with | .struct _ | .array _ _=>true | _=>false)=true) (hi:(P.info? ty).map (·.size)=some cs.size)
  (hp2:tmps.getD u undef=zP g2) (hg2:w.heap[g2]? = some (.cells cs2 t2 fr2))
  (hu2:P.underlying ty2=some d2) (hd2:(match d2 with | .struct _ | .array _ _=>true | _=>false)=true) (hi2:(P.info? ty2).map (·.size)=some cs2.size) :
  (results fn tmps).run P w=.ok (.tuple #[.agg cs,.agg cs2]) w:=by
 have hp':tmps[p]?.getD undef=zP g:=by simpa using hp
 have hp2':tmps[u]?.getD undef=zP g2:=by simpa using hp2
 simp [results,h,hp',hp2',asAddr,run_loadVar_row w g t ty cs fr d hg hu hd hi,run_loadVar_row w g2 t2 ty2 cs2 fr2 d2 hg2 hu2 hd2 hi2]
end Go.Proofs.YtfbjofnaghjmeaaGreatDoor
