import Derived.Test.YtkfabnchhjfjjaaGreatDoorA0
import Derived.Test.YtkfabnchhjfjjaaGreatDoorA6
import Derived.Test.YtkfabnchhjfjjaaGreatDoorA4
namespace Go.Proofs.YtkfabnchhjfjjaaGreatDoor
set_option maxRecDepth 100000
set_option maxHeartbeats 16000000
open Go.RowKit
theorem call_end (C:Code) (hC:cSnd (cSnd (cSnd (cSnd (cSnd (Tryz.f189.body.getD .skip)))))=C) (ex:List Tk→Except Ft (Tr × List Tk)) (hS:Subs ex) {w:World}{b G:Nat}{ts:List Tk}{fa:Int}{fe:Value}{d:Nat}{V:World}{Nb:Nat}{v:Value}{L:List Nd}{q p:Int}(h:CX w b G fa fe d V Nb v L q p ts) (hb:b < w§) (hg:G < w§) (hd:d < 1000) (hq:Rg ⟨8,q,0,0,0,gE,p⟩) (hL:L.length≤1000)
  (cE:∀ v ts a c,Rdr v b G ts fa fe (d+1) a c→(∀ t ∈ ts,RgT t)→Calls zG 46 #[zP b] v (OutN b G fa fe (d+1) v (ex ts))) (g1 g3 g5 g6 g7 g8 g9 g10 g11 g12 g13 g14 g15 g16 g17 g18 g19 g20 g21 g22 g23 g24 g25 g26 g27 g28 g29 g30 g31 g32 g33 g34 g35:Value) :
  Code.wp Tryz.prog C (bodyPost Tryz.prog Tryz.f189 (OutN b G fa fe d w (match gIn (ex ts) with | .error e=>.error e | .ok r=>.ok (.mk ⟨8,q,0,0,0,gE,p⟩ (treesOf L ++ [r.1]),r.2)))) { tmps:=#[zP b,g1,zP w§,g3,zP Nb,g5,g6,g7,g8,g9,g10,g11,g12,g13,g14,g15,g16,g17,g18,g19,g20,g21,g22,g23,g24,g25,g26,g27,g28,g29,g30,g31,g32,g33,g34,g35],defers:=[] } V:=by
 have HBL:Hid (b < w§):=hb
 have HGL:Hid (G < w§):=hg
 have HRG:=zH hq
 have HX:=h.hid
 have c6:V.cell? ⟨Nb,6,none⟩=some v:=Co h.N 6
 have cI:∀ v,GB V v→Calls zG 186 #[zP b] v (OutN b G fa fe d v (gIn (ex ts))):=fun v hv=>by
  obtain⟨a,c,hr⟩:=(h.X.on hb hv).R
  exact inBr_any hr hd (ex ts) (fun v a c h'=>cE v ts a c h' h.X.T)
 have hgi:∀ t q,gIn (ex ts)=.ok (t,q)→∀ x ∈ q,x ∈ ts:=gIn_sub (fun t q e=>hS ts t q e)
 obtain⟨O,eO⟩:∃ O,gIn (ex ts)=O:=⟨_,rfl⟩
 rw [eO] at cI hgi ⊢
 have HSR:=zH hgi
 simp only [cSnd,Tryz.f189,Option.getD_some] at hC
 rw [← hC]
 clear hC h hb hg hq cE eO hgi
 cases O with
 | error f =>
  go_upto_region 7 with fail
  refine wp_region_any zK ?_
  change wpAny _ _ _ _ _ _ _ V.drew
  refine wpAny_take (i:=0) (v:=?_) rfl zK zK zK (fun _ _ _ h=>h) (Or.inl ⟨by rfl,?_⟩) ?_
  rotate_left
  ·(intro v; go_simp; try (with_reducible rfl))
  try simp [Act.put]
  refine wpAny_take (i:=2) (v:=?_) rfl zK zK zK (fun _ _ _ h=>h) (Or.inl ⟨by rfl,?_⟩) ?_
  rotate_left
  ·(intro v; go_simp; try (with_reducible rfl))
  try simp [Act.put]
  refine wpAny_ready (rs:=[1,3]) zK (by simp) (Arc rfl (fun K hK=>?_) (Arc rfl (fun K hK=>?_) AllReady.nil))
  ·go_simp
   refine hK.out _ _ ?_
   clear hK K
   try simp [Act.put]
   refine wpAny_ready (rs:=[3]) zK (by simp) (Arc rfl (fun K hK=>?_) AllReady.nil)
   go_simp
   go_at_call 186
   refine (cI _ (by (repeat (first | with_reducible exact GB.refl _ | with_reducible apply GB.drew2 | with_reducible apply GB.alloc)))).mono ?_
   rintro e w1 ⟨rfl,hm⟩
   exact⟨rfl,rfl,HX.out.X.M.trans ((Mv.ofBelow (F:=fun k=>k=b) (GB.drew2 (GB.refl V))).trans hm (fun k e=>.inl e)) (fun k e=>.inl e)⟩
  ·go_simp
   go_at_call 186
   refine (cI _ (by (repeat (first | with_reducible exact GB.refl _ | with_reducible apply GB.drew2 | with_reducible apply GB.alloc)))).mono ?_
   rintro e w1 ⟨rfl,hm⟩
   exact⟨rfl,rfl,HX.out.X.M.trans ((Mv.ofBelow (F:=fun k=>k=b) (GB.drew2 (GB.refl V))).trans hm (fun k e=>.inl e)) (fun k e=>.inl e)⟩
 | ok O =>
  obtain⟨t3,ts3⟩:=O
  simp only
  go_upto_region 7 with fail
  refine wp_region_any zK ?_
  change wpAny _ _ _ _ _ _ _ V.drew
  refine wpAny_take (i:=0) (v:=?_) rfl zK zK zK (fun _ _ _ h=>h) (Or.inl ⟨by rfl,?_⟩) ?_
  rotate_left
  ·(intro v; go_simp; try (with_reducible rfl))
  try simp [Act.put]
  refine wpAny_take (i:=2) (v:=?_) rfl zK zK zK (fun _ _ _ h=>h) (Or.inl ⟨by rfl,?_⟩) ?_
  rotate_left
  ·(intro v; go_simp; try (with_reducible rfl))
  try simp [Act.put]
  refine wpAny_ready (rs:=[1,3]) zK (by simp) (Arc rfl (fun K hK=>?_) (Arc rfl (fun K hK=>?_) AllReady.nil))
  ·go_simp
   refine hK.out _ _ ?_
   clear hK K
   try simp [Act.put]
   refine wpAny_ready (rs:=[3]) zK (by simp) (Arc rfl (fun K hK=>?_) AllReady.nil)
   go_simp
   go_at_call 186
   refine (cI _ (by (repeat (first | with_reducible exact GB.refl _ | with_reducible apply GB.drew2 | with_reducible apply GB.alloc)))).mono ?_
   rintro e w1 ⟨⟨m,rfl,rfl,hl,hk⟩,hr,hm⟩
   obtain⟨⟨k2,o2,ty2,n2,f2,x2,p2⟩,am2,cm2,ks2⟩:=m
   have HX1:=(HX.out.mv HBL.out ((Mv.ofBelow (F:=fun k=>k=b) (GB.drew2 (GB.refl V))).trans hm (fun k e=>.inl e)) hr (HSR.out _ _ rfl)).hid
   have HLK:Hid (Lies w1 (.mk ⟨k2,o2,ty2,n2,f2,x2,p2⟩ am2 cm2 ks2)∧Bkn (fun k=>w§ < k∧k < w1§∧k≠Nb∧v.ownBlock≠some k) (.mk ⟨k2,o2,ty2,n2,f2,x2,p2⟩ am2 cm2 ks2)):=⟨hl,hk.mono fun j hj=>by
    have h1:=(Array.getElem?_eq_some_iff.1 HX.out.N).1
    have h2:=HX.out.nb
    have h3:V§≤j:=hj.1
    exact⟨by omega,hj.2,by omega,fun e=>by have:=HX.out.row.lt j e; omega⟩⟩
   have c6:w1.cell? ⟨Nb,6,none⟩=some v:=Co HX1.out.N 6
   have c6a:(w1.alloc (.cells (zN k2 o2 ty2 n2 f2 x2 am2 ks2 cm2 p2) 64)).cell? ⟨Nb,6,none⟩=some v:=Co (((Bn w1 (.cells (zN k2 o2 ty2 n2 f2 x2 am2 ks2 cm2 p2) 64)).block _ (Array.getElem?_eq_some_iff.1 HX1.out.N).1).trans HX1.out.N) 6
   clear hl hk hr hm
   simp only [Nd.vals,Nd.h,Nd.a,Nd.c,Nd.ks,hdA]
   refine hK.out _ _ ?_
   clear hK K
   try simp [Act.put]
   refine wpAny_ready (rs:=[4]) zK (by simp) (Arc rfl (fun K hK=>?_) AllReady.nil)
   go_simp
   refine hK.out _ _ ?_
   clear hK K
   try simp [Act.put]
   refine wpAny_ready (rs:=[5]) zK (by simp) (Arc rfl (fun K hK=>?_) AllReady.nil)
   refine step_row rfl (.tmp 29) (.tmp 32) rfl (.mk ⟨k2,o2,ty2,n2,f2,x2,p2⟩ am2 cm2 ks2) HX1.out.row (by simp [Act.eval]) (by simp [Act.eval]) (by omega) ?_
   intro g cap w' hr' h3 h4
   obtain⟨hNw,hC5⟩:=HX1.out.app HBL.out HGL.out HLK.out.1 HLK.out.2 hr' h3 h4
   have hN5:=hNw.trans HX1.out.N
   have cN:w'.cell? ⟨Nb,6,none⟩=some v:=Co hN5 6
   have fN:=Fo hN5 6
   have HC5:=hC5.hid
   clear hNw hC5 hN5 hr' h3 h4 c6 c6a
   refine hK.out _ _ ?_
   clear hK K
   try simp [Act.put]
   refine wpAny_take (i:=6) (v:=?_) rfl zK zK zK (fun _ _ _ h=>h) (Or.inl ⟨by rfl,?_⟩) ?_
   rotate_left
   ·(intro v; go_simp; try (with_reducible rfl))
   try simp [Act.put]
   refine wpAny_ready (rs:=[7]) zK (by simp) (Arc rfl (fun K hK=>?_) AllReady.nil)
   go_simp
   refine hK.out _ _ ?_
   clear hK K
   try simp [Act.put]
   refine wpAny_done zK ?_ _
   obtain⟨W5,eW5⟩:∃ W,w'.setCell ⟨Nb,6,none⟩ (.slice (some ⟨g,0,none⟩) (L.length+1) cap)=W:=⟨_,rfl⟩
   rw [eW5] at HC5 ⊢
   clear eW5 cN fN
   obtain⟨Y,eY,hY1,hY2,hY3,hY4,hY5⟩:=HC5.out.fin (by simp) HBL.out HGL.out HRG.out
   have hZ5:=HC5.out.X.Z
   have hN5:=HC5.out.N
   have z0:W5.cell? ⟨w§,0,none⟩=some (zU 0):=Co hZ5 0
   have q0:=Fo hZ5 0
   have e0:W5.cell? ⟨Nb,0,none⟩=some (zU 8):=Co hN5 0
   have z1:W5.cell? ⟨w§,1,none⟩=some (zU 0):=Co hZ5 1
   have q1:=Fo hZ5 1
   have e1:W5.cell? ⟨Nb,1,none⟩=some (zU q):=Co hN5 1
   have z2:W5.cell? ⟨w§,2,none⟩=some (zU 0):=Co hZ5 2
   have q2:=Fo hZ5 2
   have e2:W5.cell? ⟨Nb,2,none⟩=some (zU 0):=Co hN5 2
   have z3:W5.cell? ⟨w§,3,none⟩=some (zI 0):=Co hZ5 3
   have q3:=Fo hZ5 3
   have e3:W5.cell? ⟨Nb,3,none⟩=some (zI 0):=Co hN5 3
   have z4:W5.cell? ⟨w§,4,none⟩=some (zU 0):=Co hZ5 4
   have q4:=Fo hZ5 4
   have e4:W5.cell? ⟨Nb,4,none⟩=some (zU 0):=Co hN5 4
   have z5:W5.cell? ⟨w§,5,none⟩=some (.string ⟨#[]⟩):=Co hZ5 5
   have q5:=Fo hZ5 5
   have e5:W5.cell? ⟨Nb,5,none⟩=some (.string ⟨#[]⟩):=Co hN5 5
   have z6:W5.cell? ⟨w§,6,none⟩=some (.slice none 0 0):=Co hZ5 6
   have q6:=Fo hZ5 6
   have e6:W5.cell? ⟨Nb,6,none⟩=some (.slice (some ⟨g,0,none⟩) (L.length+1) cap):=Co hN5 6
   have z7:W5.cell? ⟨w§,7,none⟩=some (zI 0):=Co hZ5 7
   have q7:=Fo hZ5 7
   have e7:W5.cell? ⟨Nb,7,none⟩=some (zI p):=Co hN5 7
   have HEY:Hid (_=Y):=eY
   have HY1:Hid (_):=hY1
   have HYY:Hid (_):=(⟨hY2,hY3,hY4,hY5⟩:_∧_∧_∧_)
   clear eY hY1 hY2 hY3 hY4 hY5 hZ5 hN5
   go_wp2_with fail
   rw [HEY.out]
   exact bodyPost_ret (results_cell_row rfl _ _ w§ 64 (Nd.mk ⟨8,q,0,0,0,gE,p⟩ (some ⟨g,0,none⟩) cap (L ++ [(.mk ⟨k2,o2,ty2,n2,f2,x2,p2⟩ am2 cm2 ks2)])).vals (0,0) _ rfl HY1.out Tryz.underlying64 rfl zK) rfl ⟨⟨_,rfl,by rw [← treesOf_snoc]; rfl,HYY.out.1,HYY.out.2.1⟩,HYY.out.2.2.1,HYY.out.2.2.2⟩
  ·go_simp
   go_at_call 186
   refine (cI _ (by (repeat (first | with_reducible exact GB.refl _ | with_reducible apply GB.drew2 | with_reducible apply GB.alloc)))).mono ?_
   rintro e w1 ⟨⟨m,rfl,rfl,hl,hk⟩,hr,hm⟩
   obtain⟨⟨k2,o2,ty2,n2,f2,x2,p2⟩,am2,cm2,ks2⟩:=m
   have HX1:=(HX.out.mv HBL.out ((Mv.ofBelow (F:=fun k=>k=b) (GB.drew2 (GB.refl V))).trans hm (fun k e=>.inl e)) hr (HSR.out _ _ rfl)).hid
   have HLK:Hid (Lies w1 (.mk ⟨k2,o2,ty2,n2,f2,x2,p2⟩ am2 cm2 ks2)∧Bkn (fun k=>w§ < k∧k < w1§∧k≠Nb∧v.ownBlock≠some k) (.mk ⟨k2,o2,ty2,n2,f2,x2,p2⟩ am2 cm2 ks2)):=⟨hl,hk.mono fun j hj=>by
    have h1:=(Array.getElem?_eq_some_iff.1 HX.out.N).1
    have h2:=HX.out.nb
    have h3:V§≤j:=hj.1
    exact⟨by omega,hj.2,by omega,fun e=>by have:=HX.out.row.lt j e; omega⟩⟩
   have c6:w1.cell? ⟨Nb,6,none⟩=some v:=Co HX1.out.N 6
   have c6a:(w1.alloc (.cells (zN k2 o2 ty2 n2 f2 x2 am2 ks2 cm2 p2) 64)).cell? ⟨Nb,6,none⟩=some v:=Co (((Bn w1 (.cells (zN k2 o2 ty2 n2 f2 x2 am2 ks2 cm2 p2) 64)).block _ (Array.getElem?_eq_some_iff.1 HX1.out.N).1).trans HX1.out.N) 6
   clear hl hk hr hm
   simp only [Nd.vals,Nd.h,Nd.a,Nd.c,Nd.ks,hdA]
   refine hK.out _ _ ?_
   clear hK K
   try simp [Act.put]
   refine wpAny_ready (rs:=[1,4]) zK (by simp) (Arc rfl (fun K hK=>?_) (Arc rfl (fun K hK=>?_) AllReady.nil))
   ·go_simp
    refine hK.out _ _ ?_
    clear hK K
    try simp [Act.put]
    refine wpAny_ready (rs:=[4]) zK (by simp) (Arc rfl (fun K hK=>?_) AllReady.nil)
    go_simp
    refine hK.out _ _ ?_
    clear hK K
    try simp [Act.put]
    refine wpAny_ready (rs:=[5]) zK (by simp) (Arc rfl (fun K hK=>?_) AllReady.nil)
    refine step_row rfl (.tmp 29) (.tmp 32) rfl (.mk ⟨k2,o2,ty2,n2,f2,x2,p2⟩ am2 cm2 ks2) HX1.out.row (by simp [Act.eval]) (by simp [Act.eval]) (by omega) ?_
    intro g cap w' hr' h3 h4
    obtain⟨hNw,hC5⟩:=HX1.out.app HBL.out HGL.out HLK.out.1 HLK.out.2 hr' h3 h4
    have hN5:=hNw.trans HX1.out.N
    have cN:w'.cell? ⟨Nb,6,none⟩=some v:=Co hN5 6
    have fN:=Fo hN5 6
    have HC5:=hC5.hid
    clear hNw hC5 hN5 hr' h3 h4 c6 c6a
    refine hK.out _ _ ?_
    clear hK K
    try simp [Act.put]
    refine wpAny_take (i:=6) (v:=?_) rfl zK zK zK (fun _ _ _ h=>h) (Or.inl ⟨by rfl,?_⟩) ?_
    rotate_left
    ·(intro v; go_simp; try (with_reducible rfl))
    try simp [Act.put]
    refine wpAny_ready (rs:=[7]) zK (by simp) (Arc rfl (fun K hK=>?_) AllReady.nil)
    go_simp
    refine hK.out _ _ ?_
    clear hK K
    try simp [Act.put]
    refine wpAny_done zK ?_ _
    obtain⟨W5,eW5⟩:∃ W,w'.setCell ⟨Nb,6,none⟩ (.slice (some ⟨g,0,none⟩) (L.length+1) cap)=W:=⟨_,rfl⟩
    rw [eW5] at HC5 ⊢
    clear eW5 cN fN
    obtain⟨Y,eY,hY1,hY2,hY3,hY4,hY5⟩:=HC5.out.fin (by simp) HBL.out HGL.out HRG.out
    have hZ5:=HC5.out.X.Z
    have hN5:=HC5.out.N
    have z0:W5.cell? ⟨w§,0,none⟩=some (zU 0):=Co hZ5 0
    have q0:=Fo hZ5 0
    have e0:W5.cell? ⟨Nb,0,none⟩=some (zU 8):=Co hN5 0
    have z1:W5.cell? ⟨w§,1,none⟩=some (zU 0):=Co hZ5 1
    have q1:=Fo hZ5 1
    have e1:W5.cell? ⟨Nb,1,none⟩=some (zU q):=Co hN5 1
    have z2:W5.cell? ⟨w§,2,none⟩=some (zU 0):=Co hZ5 2
    have q2:=Fo hZ5 2
    have e2:W5.cell? ⟨Nb,2,none⟩=some (zU 0):=Co hN5 2
    have z3:W5.cell? ⟨w§,3,none⟩=some (zI 0):=Co hZ5 3
    have q3:=Fo hZ5 3
    have e3:W5.cell? ⟨Nb,3,none⟩=some (zI 0):=Co hN5 3
    have z4:W5.cell? ⟨w§,4,none⟩=some (zU 0):=Co hZ5 4
    have q4:=Fo hZ5 4
    have e4:W5.cell? ⟨Nb,4,none⟩=some (zU 0):=Co hN5 4
    have z5:W5.cell? ⟨w§,5,none⟩=some (.string ⟨#[]⟩):=Co hZ5 5
    have q5:=Fo hZ5 5
    have e5:W5.cell? ⟨Nb,5,none⟩=some (.string ⟨#[]⟩):=Co hN5 5
    have z6:W5.cell? ⟨w§,6,none⟩=some (.slice none 0 0):=Co hZ5 6
    have q6:=Fo hZ5 6
    have e6:W5.cell? ⟨Nb,6,none⟩=some (.slice (some ⟨g,0,none⟩) (L.length+1) cap):=Co hN5 6
    have z7:W5.cell? ⟨w§,7,none⟩=some (zI 0):=Co hZ5 7
    have q7:=Fo hZ5 7
    have e7:W5.cell? ⟨Nb,7,none⟩=some (zI p):=Co hN5 7
    have HEY:Hid (_=Y):=eY
    have HY1:Hid (_):=hY1
    have HYY:Hid (_):=(⟨hY2,hY3,hY4,hY5⟩:_∧_∧_∧_)
    clear eY hY1 hY2 hY3 hY4 hY5 hZ5 hN5
    go_wp2_with fail
    rw [HEY.out]
    exact bodyPost_ret (results_cell_row rfl _ _ w§ 64 (Nd.mk ⟨8,q,0,0,0,gE,p⟩ (some ⟨g,0,none⟩) cap (L ++ [(.mk ⟨k2,o2,ty2,n2,f2,x2,p2⟩ am2 cm2 ks2)])).vals (0,0) _ rfl HY1.out Tryz.underlying64 rfl zK) rfl ⟨⟨_,rfl,by rw [← treesOf_snoc]; rfl,HYY.out.1,HYY.out.2.1⟩,HYY.out.2.2.1,HYY.out.2.2.2⟩
   ·go_simp
    refine hK.out _ _ ?_
    clear hK K
    try simp [Act.put]
    refine wpAny_ready (rs:=[1]) zK (by simp) (Arc rfl (fun K hK=>?_) AllReady.nil)
    go_simp
    refine hK.out _ _ ?_
    clear hK K
    try simp [Act.put]
    refine wpAny_ready (rs:=[5]) zK (by simp) (Arc rfl (fun K hK=>?_) AllReady.nil)
    refine step_row rfl (.tmp 29) (.tmp 32) rfl (.mk ⟨k2,o2,ty2,n2,f2,x2,p2⟩ am2 cm2 ks2) HX1.out.row (by simp [Act.eval]) (by simp [Act.eval]) (by omega) ?_
    intro g cap w' hr' h3 h4
    obtain⟨hNw,hC5⟩:=HX1.out.app HBL.out HGL.out HLK.out.1 HLK.out.2 hr' h3 h4
    have hN5:=hNw.trans HX1.out.N
    have cN:w'.cell? ⟨Nb,6,none⟩=some v:=Co hN5 6
    have fN:=Fo hN5 6
    have HC5:=hC5.hid
    clear hNw hC5 hN5 hr' h3 h4 c6 c6a
    refine hK.out _ _ ?_
    clear hK K
    try simp [Act.put]
    refine wpAny_take (i:=6) (v:=?_) rfl zK zK zK (fun _ _ _ h=>h) (Or.inl ⟨by rfl,?_⟩) ?_
    rotate_left
    ·(intro v; go_simp; try (with_reducible rfl))
    try simp [Act.put]
    refine wpAny_ready (rs:=[7]) zK (by simp) (Arc rfl (fun K hK=>?_) AllReady.nil)
    go_simp
    refine hK.out _ _ ?_
    clear hK K
    try simp [Act.put]
    refine wpAny_done zK ?_ _
    obtain⟨W5,eW5⟩:∃ W,w'.setCell ⟨Nb,6,none⟩ (.slice (some ⟨g,0,none⟩) (L.length+1) cap)=W:=⟨_,rfl⟩
    rw [eW5] at HC5 ⊢
    clear eW5 cN fN
    obtain⟨Y,eY,hY1,hY2,hY3,hY4,hY5⟩:=HC5.out.fin (by simp) HBL.out HGL.out HRG.out
    have hZ5:=HC5.out.X.Z
    have hN5:=HC5.out.N
    have z0:W5.cell? ⟨w§,0,none⟩=some (zU 0):=Co hZ5 0
    have q0:=Fo hZ5 0
    have e0:W5.cell? ⟨Nb,0,none⟩=some (zU 8):=Co hN5 0
    have z1:W5.cell? ⟨w§,1,none⟩=some (zU 0):=Co hZ5 1
    have q1:=Fo hZ5 1
    have e1:W5.cell? ⟨Nb,1,none⟩=some (zU q):=Co hN5 1
    have z2:W5.cell? ⟨w§,2,none⟩=some (zU 0):=Co hZ5 2
    have q2:=Fo hZ5 2
    have e2:W5.cell? ⟨Nb,2,none⟩=some (zU 0):=Co hN5 2
    have z3:W5.cell? ⟨w§,3,none⟩=some (zI 0):=Co hZ5 3
    have q3:=Fo hZ5 3
    have e3:W5.cell? ⟨Nb,3,none⟩=some (zI 0):=Co hN5 3
    have z4:W5.cell? ⟨w§,4,none⟩=some (zU 0):=Co hZ5 4
    have q4:=Fo hZ5 4
    have e4:W5.cell? ⟨Nb,4,none⟩=some (zU 0):=Co hN5 4
    have z5:W5.cell? ⟨w§,5,none⟩=some (.string ⟨#[]⟩):=Co hZ5 5
    have q5:=Fo hZ5 5
    have e5:W5.cell? ⟨Nb,5,none⟩=some (.string ⟨#[]⟩):=Co hN5 5
    have z6:W5.cell? ⟨w§,6,none⟩=some (.slice none 0 0):=Co hZ5 6
    have q6:=Fo hZ5 6
    have e6:W5.cell? ⟨Nb,6,none⟩=some (.slice (some ⟨g,0,none⟩) (L.length+1) cap):=Co hN5 6
    have z7:W5.cell? ⟨w§,7,none⟩=some (zI 0):=Co hZ5 7
    have q7:=Fo hZ5 7
    have e7:W5.cell? ⟨Nb,7,none⟩=some (zI p):=Co hN5 7
    have HEY:Hid (_=Y):=eY
    have HY1:Hid (_):=hY1
    have HYY:Hid (_):=(⟨hY2,hY3,hY4,hY5⟩:_∧_∧_∧_)
    clear eY hY1 hY2 hY3 hY4 hY5 hZ5 hN5
    go_wp2_with fail
    rw [HEY.out]
    exact bodyPost_ret (results_cell_row rfl _ _ w§ 64 (Nd.mk ⟨8,q,0,0,0,gE,p⟩ (some ⟨g,0,none⟩) cap (L ++ [(.mk ⟨k2,o2,ty2,n2,f2,x2,p2⟩ am2 cm2 ks2)])).vals (0,0) _ rfl HY1.out Tryz.underlying64 rfl zK) rfl ⟨⟨_,rfl,by rw [← treesOf_snoc]; rfl,HYY.out.1,HYY.out.2.1⟩,HYY.out.2.2.1,HYY.out.2.2.2⟩
def gCallM (ex:List Tk→Except Ft (Tr × List Tk)) (q p:Int) (ts:List Tk):Except Ft (Tr × List Tk) :=
 match gTake (gB [40]) ts with
 | .error e=>.error e
 | .ok r=>if q=3 then (match gIn (ex r.2) with | .error e=>.error e | .ok k=>.ok (.mk ⟨8,q,0,0,0,gE,p⟩ [k.1],k.2)) else
  match ex r.2 with
  | .error e=>.error e
  | .ok j=>match gTake (gB [44]) j.2 with
   | .error e=>.error e
   | .ok c=>match gIn (ex c.2) with | .error e=>.error e | .ok k=>.ok (.mk ⟨8,q,0,0,0,gE,p⟩ [j.1,k.1],k.2)
theorem call_mid (C:Code) (hC:cSnd (cSnd (cSnd (Tryz.f189.body.getD .skip)))=C) (ex:List Tk→Except Ft (Tr × List Tk)) (hS:Subs ex) {w:World}{b G:Nat}{ts:List Tk}{fa:Int}{fe:Value}{d:Nat}{V0:World}{Nb:Nat}{q p:Int}(h:CX w b G fa fe d V0 Nb (.slice none 0 0) [] q p ts) (hb:b < w§) (hg:G < w§) (hd:d < 1000) (hq:Rg ⟨8,q,0,0,0,gE,p⟩)
  (cE:∀ v ts a c,Rdr v b G ts fa fe (d+1) a c→(∀ t ∈ ts,RgT t)→Calls zG 46 #[zP b] v (OutN b G fa fe (d+1) v (ex ts))) (g1 g3 g5 g6 g7 g8 g9 g10 g11 g12 g13 g14 g15 g16 g17 g18 g19 g20 g21 g22 g23 g24 g25 g26 g27 g28 g29 g30 g31 g32 g33 g34 g35:Value) :
  Code.wp Tryz.prog C (bodyPost Tryz.prog Tryz.f189 (OutN b G fa fe d w (gCallM ex q p ts))) { tmps:=#[zP b,g1,zP w§,g3,zP Nb,g5,g6,g7,g8,g9,g10,g11,g12,g13,g14,g15,g16,g17,g18,g19,g20,g21,g22,g23,g24,g25,g26,g27,g28,g29,g30,g31,g32,g33,g34,g35],defers:=[] } V0:=by
 have hmf:∀ (fn:Fn) (first cap:Array Value) (w:World),(Instr.makeFunc fn first cap).run Tryz.prog w=.ok (.func fn first cap) w:=fun _ _ _ _=>rfl
 obtain⟨C5,hC5⟩:∃ C5,cSnd (cSnd (cSnd (cSnd (cSnd (Tryz.f189.body.getD .skip)))))=C5:=⟨_,rfl⟩
 have HC5c:=zH hC5
 simp only [cSnd,Tryz.f189,Option.getD_some] at hC hC5
 rw [← hC]
 rw [hC5]
 clear hC hC5
 have HBL:Hid (b < w§):=hb
 have HGL:Hid (G < w§):=hg
 have HRG:=zH hq
 have HX0:=h.hid
 obtain⟨a0,c0,h0⟩:=h.X.R
 have cT:=take_any h0 (gB [40])
 clear h hb hg hq h0
 unfold gCallM
 obtain⟨O,eO⟩:∃ O,gTake (gB [40]) ts=O:=⟨_,rfl⟩
 have HEO:=zH eO
 rw [eO] at cT ⊢
 clear eO
 have cT:Calls zG 64 #[zP b,.string Zj] _ (OutK b G fa fe d _ O):=cT
 cases O with
 | error f =>
  go_wp2_with fail
  refine cT.mono ?_
  rintro e w6 ⟨rfl,hm⟩
  exact⟨rfl,rfl,HX0.out.X.M.trans hm (fun k e=>.inl e)⟩
 | ok O =>
 obtain⟨u2,r2⟩:=O
 simp only
 by_cases hq3:q=3
 ·subst hq3
  rw [if_pos rfl]
  go_wp2_with fail
  refine cT.mono ?_
  rintro e V ⟨rfl,hr1,hm1⟩
  have HX:=(HX0.out.mv HBL.out hm1 hr1 (gTake_sub HEO.out)).hid
  have c1:V.cell? ⟨Nb,1,none⟩=some (zU 3):=Co HX.out.N 1
  clear cT hr1 hm1 HX0 HEO
  go_wp2_with fail
  exact call_end C5 HC5c.out ex hS HX.out HBL.out HGL.out hd HRG.out (by simp) cE _ _ _ _ _ _ _ _ _ _ _ _ _ _ _ _ _ _ _ _ _ _ _ _ _ _ _ _ _ _ _ _ _
 ·rw [if_neg hq3]
  have hq4:(q != 3)=true:=bne_iff_ne.2 hq3
  have hq5:(q == 3)=false:=beq_false_of_ne hq3
  have hq6:decide (q=3)=false:=decide_eq_false hq3
  obtain⟨v,ev⟩:∃ v,Value.slice none 0 0=v:=⟨_,rfl⟩
  have hLv:([]:List Nd).length≤10:=by simp
  obtain⟨L,eL⟩:∃ L:List Nd,[]=L:=⟨_,rfl⟩
  rw [ev,eL] at HX0
  have HEL:Hid ([]=L):=eL
  have hL0:L.length≤10:=by rw [← eL]; exact hLv
  have cW:∀ V,CX w b G fa fe d V Nb v L q p r2→∀ v,GB V v→Calls zG 89 #[zP b,.func (.func 46) #[zP b] #[]] v (OutN b G fa fe d v (ex r2)):=fun V HX v hv=>by
   obtain⟨a,c,hr⟩:=(HX.X.on HBL.out hv).R
   exact within_any 46 enter46 hr hd (ex r2) (fun v a c h'=>cE v r2 a c h' HX.X.T)
  have hgi:∀ t q,ex r2=.ok (t,q)→∀ x ∈ q,x ∈ r2:=fun t q e=>hS r2 t q e
  obtain⟨O,eO⟩:∃ O,ex r2=O:=⟨_,rfl⟩
  rw [eO] at cW hgi ⊢
  have HSR:=zH hgi
  clear eO hgi ev eL hLv
  cases O with
  | error f =>
   go_wp2_with fail
   refine cT.mono ?_
   rintro e V ⟨rfl,hr1,hm1⟩
   have HX:=(HX0.out.mv HBL.out hm1 hr1 (gTake_sub HEO.out)).hid
   have c1:V.cell? ⟨Nb,1,none⟩=some (zU q):=Co HX.out.N 1
   have c6:V.cell? ⟨Nb,6,none⟩=some v:=Co HX.out.N 6
   have cW:=cW V HX.out
   clear cT hr1 hm1 HX0 HEO
   go_upto_region 5 with fail
   refine wp_region_any zK ?_
   change wpAny _ _ _ _ _ _ _ V.drew
   refine wpAny_take (i:=0) (v:=?_) rfl zK zK zK (fun _ _ _ h=>h) (Or.inl ⟨by rfl,?_⟩) ?_
   rotate_left
   ·(intro v; go_simp; try (with_reducible rfl))
   try simp [Act.put]
   refine wpAny_take (i:=2) (v:=?_) rfl zK zK zK (fun _ _ _ h=>h) (Or.inl ⟨by rfl,?_⟩) ?_
   rotate_left
   ·(intro v; go_simp; try (with_reducible rfl))
   try simp [Act.put]
   refine wpAny_take (i:=3) (v:=?_) rfl zK zK zK (fun _ _ _ h=>h) (Or.inl ⟨by rfl,?_⟩) ?_
   rotate_left
   ·(intro v; go_simp; try (with_reducible rfl))
   try simp [Act.put]
   refine wpAny_take (i:=4) (v:=?_) rfl zK zK zK (fun _ _ _ h=>h) (Or.inl ⟨by rfl,?_⟩) ?_
   rotate_left
   ·(intro v; go_simp; try (with_reducible rfl))
   try simp [Act.put]
   refine wpAny_ready (rs:=[1,5]) zK (by simp) (Arc rfl (fun K hK=>?_) (Arc rfl (fun K hK=>?_) AllReady.nil))
   ·go_simp
    refine hK.out _ _ ?_
    clear hK K
    try simp [Act.put]
    refine wpAny_ready (rs:=[5]) zK (by simp) (Arc rfl (fun K hK=>?_) AllReady.nil)
    go_simp
    go_at_call 89
    refine (cW _ (by (repeat (first | with_reducible exact GB.refl _ | with_reducible apply GB.drew2 | with_reducible apply GB.alloc)))).mono ?_
    rintro e w1 ⟨rfl,hm⟩
    exact⟨rfl,rfl,HX.out.X.M.trans ((Mv.ofBelow (F:=fun k=>k=b) (GB.drew2 (GB.refl V))).trans hm (fun k e=>.inl e)) (fun k e=>.inl e)⟩
   ·go_simp
    go_at_call 89
    refine (cW _ (by (repeat (first | with_reducible exact GB.refl _ | with_reducible apply GB.drew2 | with_reducible apply GB.alloc)))).mono ?_
    rintro e w1 ⟨rfl,hm⟩
    exact⟨rfl,rfl,HX.out.X.M.trans ((Mv.ofBelow (F:=fun k=>k=b) (GB.drew2 (GB.refl V))).trans hm (fun k e=>.inl e)) (fun k e=>.inl e)⟩
  | ok O =>
   obtain⟨t3,ts3⟩:=O
   simp only
   obtain⟨O2,eO2⟩:∃ O2,gTake (gB [44]) ts3=O2:=⟨_,rfl⟩
   have HE2:=zH eO2
   rw [eO2]
   clear eO2
   cases O2 with
   | error f2e =>
    simp only
    go_wp2_with fail
    refine cT.mono ?_
    rintro e V ⟨rfl,hr1,hm1⟩
    have HX:=(HX0.out.mv HBL.out hm1 hr1 (gTake_sub HEO.out)).hid
    have c1:V.cell? ⟨Nb,1,none⟩=some (zU q):=Co HX.out.N 1
    have c6:V.cell? ⟨Nb,6,none⟩=some v:=Co HX.out.N 6
    have cW:=cW V HX.out
    clear cT hr1 hm1 HX0 HEO
    go_upto_region 5 with fail
    refine wp_region_any zK ?_
    change wpAny _ _ _ _ _ _ _ V.drew
    refine wpAny_take (i:=0) (v:=?_) rfl zK zK zK (fun _ _ _ h=>h) (Or.inl ⟨by rfl,?_⟩) ?_
    rotate_left
    ·(intro v; go_simp; try (with_reducible rfl))
    try simp [Act.put]
    refine wpAny_take (i:=2) (v:=?_) rfl zK zK zK (fun _ _ _ h=>h) (Or.inl ⟨by rfl,?_⟩) ?_
    rotate_left
    ·(intro v; go_simp; try (with_reducible rfl))
    try simp [Act.put]
    refine wpAny_take (i:=3) (v:=?_) rfl zK zK zK (fun _ _ _ h=>h) (Or.inl ⟨by rfl,?_⟩) ?_
    rotate_left
    ·(intro v; go_simp; try (with_reducible rfl))
    try simp [Act.put]
    refine wpAny_take (i:=4) (v:=?_) rfl zK zK zK (fun _ _ _ h=>h) (Or.inl ⟨by rfl,?_⟩) ?_
    rotate_left
    ·(intro v; go_simp; try (with_reducible rfl))
    try simp [Act.put]
    refine wpAny_ready (rs:=[1,5]) zK (by simp) (Arc rfl (fun K hK=>?_) (Arc rfl (fun K hK=>?_) AllReady.nil))
    ·go_simp
     refine hK.out _ _ ?_
     clear hK K
     try simp [Act.put]
     refine wpAny_ready (rs:=[5]) zK (by simp) (Arc rfl (fun K hK=>?_) AllReady.nil)
     go_simp
     go_at_call 89
     refine (cW _ (by (repeat (first | with_reducible exact GB.refl _ | with_reducible apply GB.drew2 | with_reducible apply GB.alloc)))).mono ?_
     rintro e w1 ⟨⟨m,rfl,rfl,hl,hk⟩,hr,hm⟩
     obtain⟨⟨k2,o2,ty2,n2,f2,x2,p2⟩,am2,cm2,ks2⟩:=m
     have HX1:=(HX.out.mv HBL.out ((Mv.ofBelow (F:=fun k=>k=b) (GB.drew2 (GB.refl V))).trans hm (fun k e=>.inl e)) hr (HSR.out _ _ rfl)).hid
     have HLK:Hid (Lies w1 (.mk ⟨k2,o2,ty2,n2,f2,x2,p2⟩ am2 cm2 ks2)∧Bkn (fun k=>w§ < k∧k < w1§∧k≠Nb∧v.ownBlock≠some k) (.mk ⟨k2,o2,ty2,n2,f2,x2,p2⟩ am2 cm2 ks2)):=⟨hl,hk.mono fun j hj=>by
      have h1:=(Array.getElem?_eq_some_iff.1 HX.out.N).1
      have h2:=HX.out.nb
      have h3:V§≤j:=hj.1
      exact⟨by omega,hj.2,by omega,fun e=>by have:=HX.out.row.lt j e; omega⟩⟩
     have c6:w1.cell? ⟨Nb,6,none⟩=some v:=Co HX1.out.N 6
     have c6a:(w1.alloc (.cells (zN k2 o2 ty2 n2 f2 x2 am2 ks2 cm2 p2) 64)).cell? ⟨Nb,6,none⟩=some v:=Co (((Bn w1 (.cells (zN k2 o2 ty2 n2 f2 x2 am2 ks2 cm2 p2) 64)).block _ (Array.getElem?_eq_some_iff.1 HX1.out.N).1).trans HX1.out.N) 6
     clear hl hk hr hm
     simp only [Nd.vals,Nd.h,Nd.a,Nd.c,Nd.ks,hdA]
     refine hK.out _ _ ?_
     clear hK K
     try simp [Act.put]
     refine wpAny_ready (rs:=[6]) zK (by simp) (Arc rfl (fun K hK=>?_) AllReady.nil)
     go_simp
     refine hK.out _ _ ?_
     clear hK K
     try simp [Act.put]
     refine wpAny_ready (rs:=[7]) zK (by simp) (Arc rfl (fun K hK=>?_) AllReady.nil)
     refine step_row rfl (.tmp 18) (.tmp 23) rfl (.mk ⟨k2,o2,ty2,n2,f2,x2,p2⟩ am2 cm2 ks2) HX1.out.row (by simp [Act.eval]) (by simp [Act.eval]) (by omega) ?_
     intro g cap w' hr' h3 h4
     obtain⟨hNw,hC5⟩:=HX1.out.app HBL.out HGL.out HLK.out.1 HLK.out.2 hr' h3 h4
     have hN5:=hNw.trans HX1.out.N
     have cN:w'.cell? ⟨Nb,6,none⟩=some v:=Co hN5 6
     have fN:=Fo hN5 6
     have HC5:=hC5.hid
     clear hNw hC5 hN5 hr' h3 h4 c6 c6a
     refine hK.out _ _ ?_
     clear hK K
     try simp [Act.put]
     refine wpAny_take (i:=8) (v:=?_) rfl zK zK zK (fun _ _ _ h=>h) (Or.inl ⟨by rfl,?_⟩) ?_
     rotate_left
     ·(intro v; go_simp; try (with_reducible rfl))
     try simp [Act.put]
     refine wpAny_ready (rs:=[9]) zK (by simp) (Arc rfl (fun K hK=>?_) AllReady.nil)
     go_simp
     refine hK.out _ _ ?_
     clear hK K
     try simp [Act.put]
     refine wpAny_done zK ?_ _
     obtain⟨W5,eW5⟩:∃ W,w'.setCell ⟨Nb,6,none⟩ (.slice (some ⟨g,0,none⟩) (L.length+1) cap)=W:=⟨_,rfl⟩
     rw [eW5] at HC5 ⊢
     clear eW5 cN fN
     obtain⟨a5,c5,h5⟩:=HC5.out.X.R
     have cT2:=take_any h5 (gB [44])
     rw [HE2.out] at cT2
     have cT2:Calls zG 64 #[zP b,.string Zk] _ (OutK b G fa fe d _ (.error f2e)):=cT2
     clear h5
     go_wp2_with fail
     refine cT2.mono ?_
     rintro e w6 ⟨rfl,hm⟩
     exact⟨rfl,rfl,HC5.out.X.M.trans hm (fun k e=>.inl e)⟩
    ·go_simp
     go_at_call 89
     refine (cW _ (by (repeat (first | with_reducible exact GB.refl _ | with_reducible apply GB.drew2 | with_reducible apply GB.alloc)))).mono ?_
     rintro e w1 ⟨⟨m,rfl,rfl,hl,hk⟩,hr,hm⟩
     obtain⟨⟨k2,o2,ty2,n2,f2,x2,p2⟩,am2,cm2,ks2⟩:=m
     have HX1:=(HX.out.mv HBL.out ((Mv.ofBelow (F:=fun k=>k=b) (GB.drew2 (GB.refl V))).trans hm (fun k e=>.inl e)) hr (HSR.out _ _ rfl)).hid
     have HLK:Hid (Lies w1 (.mk ⟨k2,o2,ty2,n2,f2,x2,p2⟩ am2 cm2 ks2)∧Bkn (fun k=>w§ < k∧k < w1§∧k≠Nb∧v.ownBlock≠some k) (.mk ⟨k2,o2,ty2,n2,f2,x2,p2⟩ am2 cm2 ks2)):=⟨hl,hk.mono fun j hj=>by
      have h1:=(Array.getElem?_eq_some_iff.1 HX.out.N).1
      have h2:=HX.out.nb
      have h3:V§≤j:=hj.1
      exact⟨by omega,hj.2,by omega,fun e=>by have:=HX.out.row.lt j e; omega⟩⟩
     have c6:w1.cell? ⟨Nb,6,none⟩=some v:=Co HX1.out.N 6
     have c6a:(w1.alloc (.cells (zN k2 o2 ty2 n2 f2 x2 am2 ks2 cm2 p2) 64)).cell? ⟨Nb,6,none⟩=some v:=Co (((Bn w1 (.cells (zN k2 o2 ty2 n2 f2 x2 am2 ks2 cm2 p2) 64)).block _ (Array.getElem?_eq_some_iff.1 HX1.out.N).1).trans HX1.out.N) 6
     clear hl hk hr hm
     simp only [Nd.vals,Nd.h,Nd.a,Nd.c,Nd.ks,hdA]
     refine hK.out _ _ ?_
     clear hK K
     try simp [Act.put]
     refine wpAny_ready (rs:=[1,6]) zK (by simp) (Arc rfl (fun K hK=>?_) (Arc rfl (fun K hK=>?_) AllReady.nil))
     ·go_simp
      refine hK.out _ _ ?_
      clear hK K
      try simp [Act.put]
      refine wpAny_ready (rs:=[6]) zK (by simp) (Arc rfl (fun K hK=>?_) AllReady.nil)
      go_simp
      refine hK.out _ _ ?_
      clear hK K
      try simp [Act.put]
      refine wpAny_ready (rs:=[7]) zK (by simp) (Arc rfl (fun K hK=>?_) AllReady.nil)
      refine step_row rfl (.tmp 18) (.tmp 23) rfl (.mk ⟨k2,o2,ty2,n2,f2,x2,p2⟩ am2 cm2 ks2) HX1.out.row (by simp [Act.eval]) (by simp [Act.eval]) (by omega) ?_
      intro g cap w' hr' h3 h4
      obtain⟨hNw,hC5⟩:=HX1.out.app HBL.out HGL.out HLK.out.1 HLK.out.2 hr' h3 h4
      have hN5:=hNw.trans HX1.out.N
      have cN:w'.cell? ⟨Nb,6,none⟩=some v:=Co hN5 6
      have fN:=Fo hN5 6
      have HC5:=hC5.hid
      clear hNw hC5 hN5 hr' h3 h4 c6 c6a
      refine hK.out _ _ ?_
      clear hK K
      try simp [Act.put]
      refine wpAny_take (i:=8) (v:=?_) rfl zK zK zK (fun _ _ _ h=>h) (Or.inl ⟨by rfl,?_⟩) ?_
      rotate_left
      ·(intro v; go_simp; try (with_reducible rfl))
      try simp [Act.put]
      refine wpAny_ready (rs:=[9]) zK (by simp) (Arc rfl (fun K hK=>?_) AllReady.nil)
      go_simp
      refine hK.out _ _ ?_
      clear hK K
      try simp [Act.put]
      refine wpAny_done zK ?_ _
      obtain⟨W5,eW5⟩:∃ W,w'.setCell ⟨Nb,6,none⟩ (.slice (some ⟨g,0,none⟩) (L.length+1) cap)=W:=⟨_,rfl⟩
      rw [eW5] at HC5 ⊢
      clear eW5 cN fN
      obtain⟨a5,c5,h5⟩:=HC5.out.X.R
      have cT2:=take_any h5 (gB [44])
      rw [HE2.out] at cT2
      have cT2:Calls zG 64 #[zP b,.string Zk] _ (OutK b G fa fe d _ (.error f2e)):=cT2
      clear h5
      go_wp2_with fail
      refine cT2.mono ?_
      rintro e w6 ⟨rfl,hm⟩
      exact⟨rfl,rfl,HC5.out.X.M.trans hm (fun k e=>.inl e)⟩
     ·go_simp
      refine hK.out _ _ ?_
      clear hK K
      try simp [Act.put]
      refine wpAny_ready (rs:=[1]) zK (by simp) (Arc rfl (fun K hK=>?_) AllReady.nil)
      go_simp
      refine hK.out _ _ ?_
      clear hK K
      try simp [Act.put]
      refine wpAny_ready (rs:=[7]) zK (by simp) (Arc rfl (fun K hK=>?_) AllReady.nil)
      refine step_row rfl (.tmp 18) (.tmp 23) rfl (.mk ⟨k2,o2,ty2,n2,f2,x2,p2⟩ am2 cm2 ks2) HX1.out.row (by simp [Act.eval]) (by simp [Act.eval]) (by omega) ?_
      intro g cap w' hr' h3 h4
      obtain⟨hNw,hC5⟩:=HX1.out.app HBL.out HGL.out HLK.out.1 HLK.out.2 hr' h3 h4
      have hN5:=hNw.trans HX1.out.N
      have cN:w'.cell? ⟨Nb,6,none⟩=some v:=Co hN5 6
      have fN:=Fo hN5 6
      have HC5:=hC5.hid
      clear hNw hC5 hN5 hr' h3 h4 c6 c6a
      refine hK.out _ _ ?_
      clear hK K
      try simp [Act.put]
      refine wpAny_take (i:=8) (v:=?_) rfl zK zK zK (fun _ _ _ h=>h) (Or.inl ⟨by rfl,?_⟩) ?_
      rotate_left
      ·(intro v; go_simp; try (with_reducible rfl))
      try simp [Act.put]
      refine wpAny_ready (rs:=[9]) zK (by simp) (Arc rfl (fun K hK=>?_) AllReady.nil)
      go_simp
      refine hK.out _ _ ?_
      clear hK K
      try simp [Act.put]
      refine wpAny_done zK ?_ _
      obtain⟨W5,eW5⟩:∃ W,w'.setCell ⟨Nb,6,none⟩ (.slice (some ⟨g,0,none⟩) (L.length+1) cap)=W:=⟨_,rfl⟩
      rw [eW5] at HC5 ⊢
      clear eW5 cN fN
      obtain⟨a5,c5,h5⟩:=HC5.out.X.R
      have cT2:=take_any h5 (gB [44])
      rw [HE2.out] at cT2
      have cT2:Calls zG 64 #[zP b,.string Zk] _ (OutK b G fa fe d _ (.error f2e)):=cT2
      clear h5
      go_wp2_with fail
      refine cT2.mono ?_
      rintro e w6 ⟨rfl,hm⟩
      exact⟨rfl,rfl,HC5.out.X.M.trans hm (fun k e=>.inl e)⟩
   | ok O2 =>
    obtain⟨u4,r4⟩:=O2
    simp only
    go_wp2_with fail
    refine cT.mono ?_
    rintro e V ⟨rfl,hr1,hm1⟩
    have HX:=(HX0.out.mv HBL.out hm1 hr1 (gTake_sub HEO.out)).hid
    have c1:V.cell? ⟨Nb,1,none⟩=some (zU q):=Co HX.out.N 1
    have c6:V.cell? ⟨Nb,6,none⟩=some v:=Co HX.out.N 6
    have cW:=cW V HX.out
    clear cT hr1 hm1 HX0 HEO
    go_upto_region 5 with fail
    refine wp_region_any zK ?_
    change wpAny _ _ _ _ _ _ _ V.drew
    refine wpAny_take (i:=0) (v:=?_) rfl zK zK zK (fun _ _ _ h=>h) (Or.inl ⟨by rfl,?_⟩) ?_
    rotate_left
    ·(intro v; go_simp; try (with_reducible rfl))
    try simp [Act.put]
    refine wpAny_take (i:=2) (v:=?_) rfl zK zK zK (fun _ _ _ h=>h) (Or.inl ⟨by rfl,?_⟩) ?_
    rotate_left
    ·(intro v; go_simp; try (with_reducible rfl))
    try simp [Act.put]
    refine wpAny_take (i:=3) (v:=?_) rfl zK zK zK (fun _ _ _ h=>h) (Or.inl ⟨by rfl,?_⟩) ?_
    rotate_left
    ·(intro v; go_simp; try (with_reducible rfl))
    try simp [Act.put]
    refine wpAny_take (i:=4) (v:=?_) rfl zK zK zK (fun _ _ _ h=>h) (Or.inl ⟨by rfl,?_⟩) ?_
    rotate_left
    ·(intro v; go_simp; try (with_reducible rfl))
    try simp [Act.put]
    refine wpAny_ready (rs:=[1,5]) zK (by simp) (Arc rfl (fun K hK=>?_) (Arc rfl (fun K hK=>?_) AllReady.nil))
    ·go_simp
     refine hK.out _ _ ?_
     clear hK K
     try simp [Act.put]
     refine wpAny_ready (rs:=[5]) zK (by simp) (Arc rfl (fun K hK=>?_) AllReady.nil)
     go_simp
     go_at_call 89
     refine (cW _ (by (repeat (first | with_reducible exact GB.refl _ | with_reducible apply GB.drew2 | with_reducible apply GB.alloc)))).mono ?_
     rintro e w1 ⟨⟨m,rfl,rfl,hl,hk⟩,hr,hm⟩
     obtain⟨⟨k2,o2,ty2,n2,f2,x2,p2⟩,am2,cm2,ks2⟩:=m
     have HX1:=(HX.out.mv HBL.out ((Mv.ofBelow (F:=fun k=>k=b) (GB.drew2 (GB.refl V))).trans hm (fun k e=>.inl e)) hr (HSR.out _ _ rfl)).hid
     have HLK:Hid (Lies w1 (.mk ⟨k2,o2,ty2,n2,f2,x2,p2⟩ am2 cm2 ks2)∧Bkn (fun k=>w§ < k∧k < w1§∧k≠Nb∧v.ownBlock≠some k) (.mk ⟨k2,o2,ty2,n2,f2,x2,p2⟩ am2 cm2 ks2)):=⟨hl,hk.mono fun j hj=>by
      have h1:=(Array.getElem?_eq_some_iff.1 HX.out.N).1
      have h2:=HX.out.nb
      have h3:V§≤j:=hj.1
      exact⟨by omega,hj.2,by omega,fun e=>by have:=HX.out.row.lt j e; omega⟩⟩
     have c6:w1.cell? ⟨Nb,6,none⟩=some v:=Co HX1.out.N 6
     have c6a:(w1.alloc (.cells (zN k2 o2 ty2 n2 f2 x2 am2 ks2 cm2 p2) 64)).cell? ⟨Nb,6,none⟩=some v:=Co (((Bn w1 (.cells (zN k2 o2 ty2 n2 f2 x2 am2 ks2 cm2 p2) 64)).block _ (Array.getElem?_eq_some_iff.1 HX1.out.N).1).trans HX1.out.N) 6
     clear hl hk hr hm
     simp only [Nd.vals,Nd.h,Nd.a,Nd.c,Nd.ks,hdA]
     refine hK.out _ _ ?_
     clear hK K
     try simp [Act.put]
     refine wpAny_ready (rs:=[6]) zK (by simp) (Arc rfl (fun K hK=>?_) AllReady.nil)
     go_simp
     refine hK.out _ _ ?_
     clear hK K
     try simp [Act.put]
     refine wpAny_ready (rs:=[7]) zK (by simp) (Arc rfl (fun K hK=>?_) AllReady.nil)
     refine step_row rfl (.tmp 18) (.tmp 23) rfl (.mk ⟨k2,o2,ty2,n2,f2,x2,p2⟩ am2 cm2 ks2) HX1.out.row (by simp [Act.eval]) (by simp [Act.eval]) (by omega) ?_
     intro g cap w' hr' h3 h4
     obtain⟨hNw,hC5⟩:=HX1.out.app HBL.out HGL.out HLK.out.1 HLK.out.2 hr' h3 h4
     have hN5:=hNw.trans HX1.out.N
     have cN:w'.cell? ⟨Nb,6,none⟩=some v:=Co hN5 6
     have fN:=Fo hN5 6
     have HC5:=hC5.hid
     clear hNw hC5 hN5 hr' h3 h4 c6 c6a
     refine hK.out _ _ ?_
     clear hK K
     try simp [Act.put]
     refine wpAny_take (i:=8) (v:=?_) rfl zK zK zK (fun _ _ _ h=>h) (Or.inl ⟨by rfl,?_⟩) ?_
     rotate_left
     ·(intro v; go_simp; try (with_reducible rfl))
     try simp [Act.put]
     refine wpAny_ready (rs:=[9]) zK (by simp) (Arc rfl (fun K hK=>?_) AllReady.nil)
     go_simp
     refine hK.out _ _ ?_
     clear hK K
     try simp [Act.put]
     refine wpAny_done zK ?_ _
     obtain⟨W5,eW5⟩:∃ W,w'.setCell ⟨Nb,6,none⟩ (.slice (some ⟨g,0,none⟩) (L.length+1) cap)=W:=⟨_,rfl⟩
     rw [eW5] at HC5 ⊢
     clear eW5 cN fN
     obtain⟨a5,c5,h5⟩:=HC5.out.X.R
     have cT2:=take_any h5 (gB [44])
     rw [HE2.out] at cT2
     have cT2:Calls zG 64 #[zP b,.string Zk] _ (OutK b G fa fe d _ (.ok (u4,r4))):=cT2
     clear h5
     go_wp2_with fail
     refine cT2.mono ?_
     rintro e w6 ⟨rfl,hr6,hm⟩
     have HX6:=(HC5.out.mv HBL.out hm hr6 (gTake_sub HE2.out)).hid
     clear cT2 hm hr6
     go_wp2_with fail
     obtain rfl:=HEL.out
     exact call_end C5 HC5c.out ex hS HX6.out HBL.out HGL.out hd HRG.out (by simp) cE _ _ _ _ _ _ _ _ _ _ _ _ _ _ _ _ _ _ _ _ _ _ _ _ _ _ _ _ _ _ _ _ _
    ·go_simp
     go_at_call 89
     refine (cW _ (by (repeat (first | with_reducible exact GB.refl _ | with_reducible apply GB.drew2 | with_reducible apply GB.alloc)))).mono ?_
     rintro e w1 ⟨⟨m,rfl,rfl,hl,hk⟩,hr,hm⟩
     obtain⟨⟨k2,o2,ty2,n2,f2,x2,p2⟩,am2,cm2,ks2⟩:=m
     have HX1:=(HX.out.mv HBL.out ((Mv.ofBelow (F:=fun k=>k=b) (GB.drew2 (GB.refl V))).trans hm (fun k e=>.inl e)) hr (HSR.out _ _ rfl)).hid
     have HLK:Hid (Lies w1 (.mk ⟨k2,o2,ty2,n2,f2,x2,p2⟩ am2 cm2 ks2)∧Bkn (fun k=>w§ < k∧k < w1§∧k≠Nb∧v.ownBlock≠some k) (.mk ⟨k2,o2,ty2,n2,f2,x2,p2⟩ am2 cm2 ks2)):=⟨hl,hk.mono fun j hj=>by
      have h1:=(Array.getElem?_eq_some_iff.1 HX.out.N).1
      have h2:=HX.out.nb
      have h3:V§≤j:=hj.1
      exact⟨by omega,hj.2,by omega,fun e=>by have:=HX.out.row.lt j e; omega⟩⟩
     have c6:w1.cell? ⟨Nb,6,none⟩=some v:=Co HX1.out.N 6
     have c6a:(w1.alloc (.cells (zN k2 o2 ty2 n2 f2 x2 am2 ks2 cm2 p2) 64)).cell? ⟨Nb,6,none⟩=some v:=Co (((Bn w1 (.cells (zN k2 o2 ty2 n2 f2 x2 am2 ks2 cm2 p2) 64)).block _ (Array.getElem?_eq_some_iff.1 HX1.out.N).1).trans HX1.out.N) 6
     clear hl hk hr hm
     simp only [Nd.vals,Nd.h,Nd.a,Nd.c,Nd.ks,hdA]
     refine hK.out _ _ ?_
     clear hK K
     try simp [Act.put]
     refine wpAny_ready (rs:=[1,6]) zK (by simp) (Arc rfl (fun K hK=>?_) (Arc rfl (fun K hK=>?_) AllReady.nil))
     ·go_simp
      refine hK.out _ _ ?_
      clear hK K
      try simp [Act.put]
      refine wpAny_ready (rs:=[6]) zK (by simp) (Arc rfl (fun K hK=>?_) AllReady.nil)
      go_simp
      refine hK.out _ _ ?_
      clear hK K
      try simp [Act.put]
      refine wpAny_ready (rs:=[7]) zK (by simp) (Arc rfl (fun K hK=>?_) AllReady.nil)
      refine step_row rfl (.tmp 18) (.tmp 23) rfl (.mk ⟨k2,o2,ty2,n2,f2,x2,p2⟩ am2 cm2 ks2) HX1.out.row (by simp [Act.eval]) (by simp [Act.eval]) (by omega) ?_
      intro g cap w' hr' h3 h4
      obtain⟨hNw,hC5⟩:=HX1.out.app HBL.out HGL.out HLK.out.1 HLK.out.2 hr' h3 h4
      have hN5:=hNw.trans HX1.out.N
      have cN:w'.cell? ⟨Nb,6,none⟩=some v:=Co hN5 6
      have fN:=Fo hN5 6
      have HC5:=hC5.hid
      clear hNw hC5 hN5 hr' h3 h4 c6 c6a
      refine hK.out _ _ ?_
      clear hK K
      try simp [Act.put]
      refine wpAny_take (i:=8) (v:=?_) rfl zK zK zK (fun _ _ _ h=>h) (Or.inl ⟨by rfl,?_⟩) ?_
      rotate_left
      ·(intro v; go_simp; try (with_reducible rfl))
      try simp [Act.put]
      refine wpAny_ready (rs:=[9]) zK (by simp) (Arc rfl (fun K hK=>?_) AllReady.nil)
      go_simp
      refine hK.out _ _ ?_
      clear hK K
      try simp [Act.put]
      refine wpAny_done zK ?_ _
      obtain⟨W5,eW5⟩:∃ W,w'.setCell ⟨Nb,6,none⟩ (.slice (some ⟨g,0,none⟩) (L.length+1) cap)=W:=⟨_,rfl⟩
      rw [eW5] at HC5 ⊢
      clear eW5 cN fN
      obtain⟨a5,c5,h5⟩:=HC5.out.X.R
      have cT2:=take_any h5 (gB [44])
      rw [HE2.out] at cT2
      have cT2:Calls zG 64 #[zP b,.string Zk] _ (OutK b G fa fe d _ (.ok (u4,r4))):=cT2
      clear h5
      go_wp2_with fail
      refine cT2.mono ?_
      rintro e w6 ⟨rfl,hr6,hm⟩
      have HX6:=(HC5.out.mv HBL.out hm hr6 (gTake_sub HE2.out)).hid
      clear cT2 hm hr6
      go_wp2_with fail
      obtain rfl:=HEL.out
      exact call_end C5 HC5c.out ex hS HX6.out HBL.out HGL.out hd HRG.out (by simp) cE _ _ _ _ _ _ _ _ _ _ _ _ _ _ _ _ _ _ _ _ _ _ _ _ _ _ _ _ _ _ _ _ _
     ·go_simp
      refine hK.out _ _ ?_
      clear hK K
      try simp [Act.put]
      refine wpAny_ready (rs:=[1]) zK (by simp) (Arc rfl (fun K hK=>?_) AllReady.nil)
      go_simp
      refine hK.out _ _ ?_
      clear hK K
      try simp [Act.put]
      refine wpAny_ready (rs:=[7]) zK (by simp) (Arc rfl (fun K hK=>?_) AllReady.nil)
      refine step_row rfl (.tmp 18) (.tmp 23) rfl (.mk ⟨k2,o2,ty2,n2,f2,x2,p2⟩ am2 cm2 ks2) HX1.out.row (by simp [Act.eval]) (by simp [Act.eval]) (by omega) ?_
      intro g cap w' hr' h3 h4
      obtain⟨hNw,hC5⟩:=HX1.out.app HBL.out HGL.out HLK.out.1 HLK.out.2 hr' h3 h4
      have hN5:=hNw.trans HX1.out.N
      have cN:w'.cell? ⟨Nb,6,none⟩=some v:=Co hN5 6
      have fN:=Fo hN5 6
      have HC5:=hC5.hid
      clear hNw hC5 hN5 hr' h3 h4 c6 c6a
      refine hK.out _ _ ?_
      clear hK K
      try simp [Act.put]
      refine wpAny_take (i:=8) (v:=?_) rfl zK zK zK (fun _ _ _ h=>h) (Or.inl ⟨by rfl,?_⟩) ?_
      rotate_left
      ·(intro v; go_simp; try (with_reducible rfl))
      try simp [Act.put]
      refine wpAny_ready (rs:=[9]) zK (by simp) (Arc rfl (fun K hK=>?_) AllReady.nil)
      go_simp
      refine hK.out _ _ ?_
      clear hK K
      try simp [Act.put]
      refine wpAny_done zK ?_ _
      obtain⟨W5,eW5⟩:∃ W,w'.setCell ⟨Nb,6,none⟩ (.slice (some ⟨g,0,none⟩) (L.length+1) cap)=W:=⟨_,rfl⟩
      rw [eW5] at HC5 ⊢
      clear eW5 cN fN
      obtain⟨a5,c5,h5⟩:=HC5.out.X.R
      have cT2:=take_any h5 (gB [44])
      rw [HE2.out] at cT2
      have cT2:Calls zG 64 #[zP b,.string Zk] _ (OutK b G fa fe d _ (.ok (u4,r4))):=cT2
      clear h5
      go_wp2_with fail
      refine cT2.mono ?_
      rintro e w6 ⟨rfl,hr6,hm⟩
      have HX6:=(HC5.out.mv HBL.out hm hr6 (gTake_sub HE2.out)).hid
      clear cT2 hm hr6
      go_wp2_with fail
      obtain rfl:=HEL.out
      exact call_end C5 HC5c.out ex hS HX6.out HBL.out HGL.out hd HRG.out (by simp) cE _ _ _ _ _ _ _ _ _ _ _ _ _ _ _ _ _ _ _ _ _ _ _ _ _ _ _ _ _ _ _ _ _
def gCall (ex:List Tk→Except Ft (Tr × List Tk)) (d:Nat) (ts:List Tk):Except Ft (Tr × List Tk) :=
 match gOpn d ts with
 | .error e=>.error e
 | .ok r=>gCallM ex (callX r.1.x) r.1.p r.2
theorem callX_rg (x:ByteArray):0≤callX x∧callX x≤5:=by
 unfold callX
 repeat' split
 all_goals omega
theorem call_any (ex:List Tk→Except Ft (Tr × List Tk)) (hS:Subs ex) {w:World}{b G:Nat}{ts:List Tk}{fa:Int}{fe:Value}{d:Nat}{a:Option Addr}{c:Nat}(h:Rdr w b G ts fa fe d a c) (hT:∀ t ∈ ts,RgT t) (hd:d < 1000)
  (cE:d < 24→∀ v ts a c,Rdr v b G ts fa fe (d+1) a c→(∀ t ∈ ts,RgT t)→Calls zG 46 #[zP b] v (OutN b G fa fe (d+1) v (ex ts))) :
  Calls zG 189 #[zP b] w (OutN b G fa fe d w (gCall ex d ts)):=by
 have hb0:=Bn w (.cells zA7 64)
 have h0:=h.on hb0
 have HBL:Hid (b < w§):=h.lt
 have HGL:Hid (G < w§):=h.gl
 have X0:BX w b G fa fe d (w.alloc (.cells zA7 64)) [] ts:=⟨Mv.ofBelow hb0,Hn _ _,fun p hp=>by simp at hp,⟨a,c,h0⟩,hT⟩
 have X0:=X0.hid
 have cO:=open_any h0
 unfold gCall
 clear h hb0 h0
 obtain⟨O,eO⟩:∃ O,gOpn d ts=O:=⟨_,rfl⟩
 have HEO:Hid (gOpn d ts=O):=eO
 rw [eO] at cO ⊢
 clear eO
 cases O with
 | error f =>
  clear cE
  go_enter Tryz.func189,Tryz.ntmps189
  go_wp2_with fail
  refine cO.mono ?_
  rintro e w1 ⟨rfl,hm⟩
  exact⟨rfl,rfl,X0.out.M.trans hm (fun k e=>.inl e)⟩
 | ok q =>
 obtain⟨u,r⟩:=q
 replace cE:=cE (gOpn_lt HEO.out)
 have HUT:Hid (RgT u):=hT u (by rw [gOpn_mem HEO.out]; simp)
 have HSB:Hid (∀ x ∈ r,x ∈ ts):=gOpn_sub HEO.out
 have HRG:Hid (Rg ⟨8,callX u.x,0,0,0,gE,u.p⟩):=by
  have:=HUT.out.p0; have:=HUT.out.p1; have:=callX_rg u.x
  constructor <;> first | omega | (show (0:Nat)≤_; omega) | (simp only; omega) | simp
 clear HEO hT
 simp only
 go_enter Tryz.func189,Tryz.ntmps189
 obtain⟨C3,hC3⟩:∃ C3,cSnd (cSnd (cSnd (Tryz.f189.body.getD .skip)))=C3:=⟨_,rfl⟩
 have HC3:=zH hC3
 simp only [cSnd,Tryz.f189,Option.getD_some] at hC3
 rw [hC3]
 clear hC3
 go_wp2_with fail
 refine cO.mono ?_
 rintro e w1 ⟨rfl,hr1,hm⟩
 have X1:=(X0.out.mv HBL.out hm hr1 HSB.out).on HBL.out (Bn w1 (.cells (zT u) 82))
 have HK1:Hid ((w1.alloc (.cells (zT u) 82)).heap[w1§]? = some (.cells (zT u) 82 (0,0))):=Hn _ _
 obtain⟨Tb,eTb⟩:∃ T,w1§=T:=⟨_,rfl⟩
 obtain⟨V1,eV1⟩:∃ V,w1.alloc (.cells (zT u) 82)=V:=⟨_,rfl⟩
 have HV1:=zH eV1
 rw [eV1] at X1 HK1
 rw [eTb] at HK1
 have X1:=X1.hid
 clear cO hm hr1 X0 eV1
 unfold tkA
 have HKP:Hid (∀ v,GB V1 v→v.cell? ⟨Tb,0,none⟩=some (zU u.k)∧v.cell? ⟨Tb,1,none⟩=some (.string u.x)∧v.cell? ⟨Tb,2,none⟩=some (zU u.ty)∧v.cell? ⟨Tb,3,none⟩=some (zI u.n)∧v.cell? ⟨Tb,4,none⟩=some (zI u.p)∧GB V1 v):=fun v hv=>by
  have e1:=(hv.block _ (Array.getElem?_eq_some_iff.1 HK1.out).1).trans HK1.out
  exact⟨Co e1 0,Co e1 1,Co e1 2,Co e1 3,Co e1 4,hv⟩
 have HGS:Hid (∀ (U:World),GB V1 U→∀ N,V1§≤N→GB V1 ((((((((U.setCell ⟨N,0,none⟩ (zU 8)).setCell ⟨N,1,none⟩ (zU (callX u.x))).setCell ⟨N,2,none⟩ (zU 0)).setCell ⟨N,3,none⟩ (zI 0)).setCell ⟨N,4,none⟩ (zU 0)).setCell ⟨N,5,none⟩ (.string ⟨#[]⟩)).setCell ⟨N,6,none⟩ (.slice none 0 0)).setCell ⟨N,7,none⟩ (zI u.p))):=fun U hU N hN=>by
  have m:Mv V1 U (fun _=>False):=Mv.ofBelow hU
  exact ((((((((m.setCell (a:=⟨N,0,none⟩) (.inr hN) _).setCell (a:=⟨N,1,none⟩) (.inr hN) _).setCell (a:=⟨N,2,none⟩) (.inr hN) _).setCell (a:=⟨N,3,none⟩) (.inr hN) _).setCell (a:=⟨N,4,none⟩) (.inr hN) _).setCell (a:=⟨N,5,none⟩) (.inr hN) _).setCell (a:=⟨N,6,none⟩) (.inr hN) _).setCell (a:=⟨N,7,none⟩) (.inr hN) _).below (Nat.le_refl _) (fun _ e=>e.elim)
 have cY:∀ v,Calls zG 188 #[.agg (zT u)] v fun e w'=>e=.returned (zU (callX u.x))∧Below v§ v w':=fun v=>callOf_any u v
 go_upto_region 2 with fail
 rw [HV1.out]
 clear HV1 eTb
 refine wp_region_held_drew (S:=fun v=>GB V1 v) zK (GB.drew2 (GB.refl _)) (fun hHeld=>?_)
 refine wpAnyH_take (i:=0) (v:=?_) rfl zK zK zK (fun _ _ _ h=>h) (Or.inl ⟨by rfl,?_⟩) (by assumption) ?_
 rotate_left
 ·(intro v hv; obtain⟨t0,t1,t2,t3,t4,_⟩:=HKP.out v hv; go_simp; try (with_reducible rfl))
 try simp [Act.put]
 refine wpAnyH_take (i:=2) (v:=?_) rfl zK zK zK (fun _ _ _ h=>h) (Or.inl ⟨by rfl,?_⟩) (by assumption) ?_
 rotate_left
 ·(intro v hv; obtain⟨t0,t1,t2,t3,t4,_⟩:=HKP.out v hv; go_simp; try (with_reducible rfl))
 try simp [Act.put]
 refine wpAnyH_take (i:=3) (v:=?_) rfl zK zK zK (fun _ _ _ h=>h) (Or.inl ⟨by rfl,?_⟩) (by assumption) ?_
 rotate_left
 ·(intro v hv; obtain⟨t0,t1,t2,t3,t4,_⟩:=HKP.out v hv; go_simp; try (with_reducible rfl))
 try simp [Act.put]
 refine wpAnyH_ready (rs:=[1,5]) zK (by simp) ?_
 refine AllReadyH.cons rfl (fun K hK=>?_) (AllReadyH.cons rfl (fun K hK=>?_) AllReadyH.nil)
 ·go_simp
  go_at_call 188
  refine (cY _).mono ?_
  rintro e w6 ⟨rfl,hb6⟩
  have hg6:GB V1 w6:=GB.call (by (repeat (first | with_reducible exact GB.refl _ | with_reducible apply GB.drew2 | with_reducible apply GB.alloc))) hb6
  refine hK.out _ _ hg6 (fun hHeld6=>?_)
  clear hK K
  try simp [Act.put]
  refine wpAnyH_take (i:=4) (v:=?_) rfl zK zK zK (fun _ _ _ h=>h) (Or.inl ⟨by rfl,?_⟩) (by assumption) ?_
  rotate_left
  ·(intro v hv; go_simp; try (with_reducible rfl))
  try simp [Act.put]
  refine wpAnyH_ready (rs:=[5]) zK (by simp) ?_
  refine AllReadyH.cons rfl (fun K hK=>?_) AllReadyH.nil
  go_simp
  refine hK.out _ _ (by (repeat (first | with_reducible assumption | with_reducible exact GB.refl _ | with_reducible apply GB.drew2 | with_reducible apply GB.alloc))) (fun hHeld5=>?_)
  clear hK K
  try simp [Act.put]
  obtain⟨Nb,eNb⟩:∃ q,w6§=q:=⟨_,rfl⟩
  obtain⟨V7,eV7⟩:∃ V,w6.alloc (.cells zA7 64)=V:=⟨_,rfl⟩
  have hG7:GB V1 V7:=by rw [← eV7]; exact GB.alloc hg6 _
  have hZ7:V7.heap[Nb]? = some (.cells zA7 64 (0,0)):=by rw [← eV7,← eNb]; exact Hn _ _
  have hB7:V1§≤Nb:=by rw [← eNb]; exact hg6.size
  rw [eV7] at hHeld5 ⊢
  rw [eNb]
  clear eV7 eNb
  obtain⟨z0,z1,z2,z3,z4,z5,z6,z7⟩:=cl8 hZ7
  obtain⟨q0,q1,q2,q3,q4,q5,q6,q7⟩:=fz8 hZ7
  obtain⟨Y,eY,hY1,hY2,hY3,hY4⟩:=fin8 hZ7 (zU 8) (zU (callX u.x)) (zU 0) (zI 0) (zU 0) (.string ⟨#[]⟩) (.slice none 0 0) (zI u.p)
  have hGY:GB V1 Y:=by
   have:=hY4 V1 (fun _=>False) (Mv.ofBelow hG7) hB7
   exact this.below (Nat.le_refl _) (fun _ e=>e.elim)
  have HCX:Hid (CX w b G fa fe d Y Nb (.slice none 0 0) [] (callX u.x) u.p r):=⟨X1.out.on HBL.out hGY,hY1,by have:=(Array.getElem?_eq_some_iff.1 X1.out.Z).1; omega,Row.nil _ _ _ _,fun k h=>by simp [Value.ownBlock] at h,fun m hm=>by simp at hm⟩
  have HEY:Hid (_=Y):=eY
  clear eY hY1 hY2 hY3 hY4 hGY hZ7
  refine wpAnyH_ready (rs:=[6]) zK (by simp) ?_
  refine AllReadyH.cons rfl (fun K hK=>?_) AllReadyH.nil
  go_simp
  rw [HEY.out]
  refine hK.out _ _ (by rw [← HEY.out]; exact HGS.out V7 hG7 Nb hB7) (fun hHeld7=>?_)
  clear hK K
  refine wpAnyH_done zK ?_ _
  go_wp2_with fail
  exact call_mid C3 HC3.out ex hS HCX.out HBL.out HGL.out hd HRG.out cE _ _ _ _ _ _ _ _ _ _ _ _ _ _ _ _ _ _ _ _ _ _ _ _ _ _ _ _ _ _ _ _ _
 ·go_simp
  refine hK.out _ _ (by (repeat (first | with_reducible assumption | with_reducible exact GB.refl _ | with_reducible apply GB.drew2 | with_reducible apply GB.alloc))) (fun hHeld5=>?_)
  clear hK K
  try simp [Act.put]
  refine wpAnyH_ready (rs:=[1]) zK (by simp) ?_
  refine AllReadyH.cons rfl (fun K hK=>?_) AllReadyH.nil
  go_simp
  go_at_call 188
  refine (cY _).mono ?_
  rintro e w6 ⟨rfl,hb6⟩
  have hg6:GB V1 w6:=GB.call (by (repeat (first | with_reducible exact GB.refl _ | with_reducible apply GB.drew2 | with_reducible apply GB.alloc))) hb6
  refine hK.out _ _ hg6 (fun hHeld6=>?_)
  clear hK K
  try simp [Act.put]
  have hZ7:w6.heap[V1§]? = some (.cells zA7 64 (0,0)):=(hb6.block _ (by show _ < (V1.alloc _)§; rw [Sa]; omega)).trans (Hn V1 _)
  obtain⟨Nb,eNb⟩:∃ q,V1§=q:=⟨_,rfl⟩
  have hB7:V1§≤Nb:=by omega
  have hG7:=hg6
  rw [eNb] at hZ7 ⊢
  clear eNb
  refine wpAnyH_take (i:=4) (v:=?_) rfl zK zK zK (fun _ _ _ h=>h) (Or.inl ⟨by rfl,?_⟩) (by assumption) ?_
  rotate_left
  ·(intro v hv; go_simp; try (with_reducible rfl))
  try simp [Act.put]
  obtain⟨z0,z1,z2,z3,z4,z5,z6,z7⟩:=cl8 hZ7
  obtain⟨q0,q1,q2,q3,q4,q5,q6,q7⟩:=fz8 hZ7
  obtain⟨Y,eY,hY1,hY2,hY3,hY4⟩:=fin8 hZ7 (zU 8) (zU (callX u.x)) (zU 0) (zI 0) (zU 0) (.string ⟨#[]⟩) (.slice none 0 0) (zI u.p)
  have hGY:GB V1 Y:=by
   have:=hY4 V1 (fun _=>False) (Mv.ofBelow hG7) hB7
   exact this.below (Nat.le_refl _) (fun _ e=>e.elim)
  have HCX:Hid (CX w b G fa fe d Y Nb (.slice none 0 0) [] (callX u.x) u.p r):=⟨X1.out.on HBL.out hGY,hY1,by have:=(Array.getElem?_eq_some_iff.1 X1.out.Z).1; omega,Row.nil _ _ _ _,fun k h=>by simp [Value.ownBlock] at h,fun m hm=>by simp at hm⟩
  have HEY:Hid (_=Y):=eY
  clear eY hY1 hY2 hY3 hY4 hGY hZ7
  refine wpAnyH_ready (rs:=[6]) zK (by simp) ?_
  refine AllReadyH.cons rfl (fun K hK=>?_) AllReadyH.nil
  go_simp
  rw [HEY.out]
  refine hK.out _ _ (by rw [← HEY.out]; exact HGS.out w6 hG7 Nb hB7) (fun hHeld7=>?_)
  clear hK K
  refine wpAnyH_done zK ?_ _
  go_wp2_with fail
  exact call_mid C3 HC3.out ex hS HCX.out HBL.out HGL.out hd HRG.out cE _ _ _ _ _ _ _ _ _ _ _ _ _ _ _ _ _ _ _ _ _ _ _ _ _ _ _ _ _ _ _ _ _
def gHas (ts:List Tk):Except Ft (Tr × List Tk):=do
 let (u,r) ← gStep ts
 let y ← gLook r
 gNeed (decide (1≤fieldX y.x∧fieldX y.x≤3)) 130 r
 let (_,r) ← gStep r
 .ok (.mk ⟨4,0,0,0,fieldX y.x,gE,u.p⟩ [],r)
theorem fieldX_rg (x:ByteArray):0≤fieldX x∧fieldX x≤6:=by
 unfold fieldX
 repeat' split
 all_goals omega
theorem RgT.has {t:Tk}(h:RgT t) {f:Int}(hf:0≤f∧f≤6):Rg ⟨4,0,0,0,f,gE,t.p⟩:=by
 have:=h.p0; have:=h.p1
 constructor <;> first | omega | (show (0:Nat)≤_; omega) | (simp only; omega) | simp
theorem has_any {w:World}{b G:Nat}{ts:List Tk}{fa:Int}{fe:Value}{d:Nat}{a:Option Addr}{c:Nat}(h:Rdr w b G ts fa fe d a c) (ht:∀ t ∈ ts,RgT t):Calls zG 187 #[zP b] w (OutN b G fa fe d w (gHas ts)):=by
 have hb0:=Bn w (.cells zA7 64)
 have h0:=h.on hb0
 have HB0:=hd hb0
 have HK0:Hid ((w.alloc (.cells zA7 64)).heap[w§]? = some (.cells zA7 64 (0,0))):=Hn _ _
 have HH0:=h0.hid
 have HBL:Hid (b < w§):=h.lt
 have HGL:Hid (G < w§):=h.gl
 clear h hb0
 cases ts with
 | nil =>
  have cS:=step_no h0
  clear h0
  go_enter Tryz.func187,Tryz.ntmps187
  go_wp2_with fail
  refine cS.mono ?_
  rintro e w1 ⟨rfl,hb⟩
  exact⟨rfl,rfl,Mv.ofBelow (B2 HB0.out hb)⟩
 | cons u ts =>
 have cS:=step_ok h0
 have hf4:=fun v=>field82_4 u v
 clear h0
 cases ts with
 | nil =>
  go_enter Tryz.func187,Tryz.ntmps187
  go_wp2_with fail
  refine cS.mono ?_
  rintro e w1 ⟨rfl,⟨a1,c1,hr1⟩,hm1⟩
  have HM1:=hd ((Mv.ofBelow HB0.out).trans hm1 (fun k e=>.inl e))
  have cL:=look_no hr1
  clear cS hr1 hm1
  go_wp2_with fail
  refine cL.mono ?_
  rintro e w2 ⟨rfl,hb⟩
  exact⟨rfl,rfl,HM1.out.trans (Mv.ofBelow hb) (fun k e=>.inl e)⟩
 | cons y ts =>
 have HT:=hd ((ht u (by simp)).has (fieldX_rg y.x))
 have cF:=fun v=>fieldOf_any y v
 have cM:=fun v=>lack_any (fieldX y.x) v
 have eG:gHas (u :: y :: ts)=if 1≤fieldX y.x∧fieldX y.x≤3 then .ok (.mk ⟨4,0,0,0,fieldX y.x,gE,u.p⟩ [],ts) else .error (.tok 130 y.p):=by
  by_cases e:1≤fieldX y.x∧fieldX y.x≤3
  ·simp [gHas,gStep,gLook,gNeed,bind,Except.bind,e]
  ·have e2:decide (1≤fieldX y.x∧fieldX y.x≤3)=false:=decide_eq_false e
   simp only [gHas,gStep,gLook,gNeed,bind,Except.bind,e2,if_neg e,Bool.false_eq_true,if_false]
 rw [eG]
 obtain⟨f,ef⟩:∃ f,fieldX y.x=f:=⟨_,rfl⟩
 rw [ef]
 rw [ef] at HT cF cM
 clear eG ef ht
 by_cases e:1≤f∧f≤3
 ·rw [if_pos e]
  rw [decide_eq_true e] at cM
  clear e
  go_enter Tryz.func187,Tryz.ntmps187
  go_wp2_with fail
  refine cS.mono ?_
  rintro e w1 ⟨rfl,⟨a1,c1,hr1⟩,hm1⟩
  have HM1:=hd ((Mv.ofBelow HB0.out).trans hm1 (fun k e=>.inl e))
  have HK1:Hid (w1.heap[w§]? = some (.cells zA7 64 (0,0))):=(hm1.block _ (Array.getElem?_eq_some_iff.1 HK0.out).1 (fun e=>by have:=HBL.out; omega)).trans HK0.out
  have HR1:=hr1.hid
  have cL:=look_ok hr1
  clear cS hr1 hm1
  go_wp2_with fail
  refine cL.mono ?_
  rintro e w2 ⟨rfl,hb⟩
  have HM2:=hd (HM1.out.trans (Mv.ofBelow hb) (fun k e=>.inl e))
  have HK2:Hid (w2.heap[w§]? = some (.cells zA7 64 (0,0))):=(hb.block _ (Array.getElem?_eq_some_iff.1 HK1.out).1).trans HK1.out
  have HR2:=(HR1.out.on hb).hid
  clear hb cL
  go_wp2_with fail
  refine (cF _).mono ?_
  rintro e w3 ⟨rfl,hb⟩
  have HM3:=hd (HM2.out.trans (Mv.ofBelow hb) (fun k e=>.inl e))
  have HK3:Hid (w3.heap[w§]? = some (.cells zA7 64 (0,0))):=(hb.block _ (Array.getElem?_eq_some_iff.1 HK2.out).1).trans HK2.out
  have cT:=step_ok (HR2.out.on hb)
  have cN:=need_ok w3 b 130
  have cM3:=cM w3
  clear hb cF cM
  go_wp2_with first | (go_at_call 72; refine cN.mono ?_; rintro e w4 ⟨rfl,e4⟩; obtain rfl:=e4.symm) | (go_at_call 195; refine cM3.mono ?_; rintro e w4 ⟨rfl,e4⟩; obtain rfl:=e4.symm)
  refine cT.mono ?_
  rintro e w4 ⟨rfl,⟨a3,c3,hr3⟩,hm3⟩
  have HM4:=hd (HM3.out.trans hm3 (fun k e=>.inl e))
  have HK4:Hid (w4.heap[w§]? = some (.cells zA7 64 (0,0))):=(hm3.block _ (Array.getElem?_eq_some_iff.1 HK3.out).1 (fun e=>by have:=HBL.out; omega)).trans HK3.out
  have HRD:=hr3.hid
  obtain⟨z0,z1,z2,z3,z4,z5,z6,z7⟩:=cl8 HK4.out
  obtain⟨q0,q1,q2,q3,q4,q5,q6,q7⟩:=fz8 HK4.out
  obtain⟨Y,eY,hY1,hY2,hY3,hY4⟩:=fin8 HK4.out (zU 4) (zU 0) (zU 0) (zI 0) (zU f) (.string ⟨#[]⟩) (.slice none 0 0) (zI u.p)
  have HY1:=hd hY1
  have HEY:Hid (_=Y):=eY
  have HRY:Hid (∃ a c,Rdr Y b G ts fa fe d a c):=⟨a3,c3,HRD.out.blk (hY3 _ (by have:=HBL.out; omega)) (hY3 _ (by have:=HGL.out; omega)) (by omega)⟩
  have HMY:Hid (Mv w Y (fun k=>k=b)):=hY4 _ _ HM4.out (Nat.le_refl _)
  clear cT hr3 hm3 eY hY1 hY2 hY3 hY4
  go_wp2_with fail
  rw [HEY.out]
  exact bodyPost_ret (results_cell_row rfl _ _ w§ 64 (Nd.mk ⟨4,0,0,0,f,gE,u.p⟩ none 0 []).vals (0,0) _ rfl HY1.out Tryz.underlying64 rfl zK) rfl ⟨⟨_,rfl,rfl,lies0 _ HT.out,bkn0 _ _⟩,HRY.out,HMY.out⟩
 ·rw [if_neg e]
  rw [decide_eq_false e] at cM
  clear e
  go_enter Tryz.func187,Tryz.ntmps187
  go_wp2_with fail
  refine cS.mono ?_
  rintro e w1 ⟨rfl,⟨a1,c1,hr1⟩,hm1⟩
  have HM1:=hd ((Mv.ofBelow HB0.out).trans hm1 (fun k e=>.inl e))
  have HR1:=hr1.hid
  have cL:=look_ok hr1
  clear cS hr1 hm1
  go_wp2_with fail
  refine cL.mono ?_
  rintro e w2 ⟨rfl,hb⟩
  have HM2:=hd (HM1.out.trans (Mv.ofBelow hb) (fun k e=>.inl e))
  have HR2:=(HR1.out.on hb).hid
  clear hb cL
  go_wp2_with fail
  refine (cF _).mono ?_
  rintro e w3 ⟨rfl,hb⟩
  have HM3:=hd (HM2.out.trans (Mv.ofBelow hb) (fun k e=>.inl e))
  have cN:=need_tok (HR2.out.on hb) 130
  have cM3:=cM w3
  clear hb cF cM
  go_wp2_with (go_at_call 195; refine cM3.mono ?_; rintro e w4 ⟨rfl,e4⟩; obtain rfl:=e4.symm)
  refine cN.mono ?_
  rintro e w4 ⟨rfl,hb4⟩
  exact⟨rfl,rfl,HM3.out.trans (Mv.ofBelow hb4) (fun k e=>.inl e)⟩
end Go.Proofs.YtkfabnchhjfjjaaGreatDoor
