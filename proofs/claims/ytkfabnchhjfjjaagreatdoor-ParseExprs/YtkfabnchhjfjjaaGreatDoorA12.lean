import Derived.Test.YtkfabnchhjfjjaaGreatDoorA0
import Derived.Test.YtkfabnchhjfjjaaGreatDoorA11
namespace Go.Proofs.YtkfabnchhjfjjaaGreatDoor
open Go.RowKit
def gCallM (ex : List Tk → Except Ft (Tr × List Tk)) (q p : Int) (ts : List Tk) : Except Ft (Tr × List Tk) :=
 match gTake (gB [40]) ts with
 | .error e => .error e
 | .ok r => if q = 3 then (match gIn (ex r.2) with | .error e => .error e | .ok k => .ok (.mk ⟨8,q,0,0,0,gE,p⟩ [k.1],k.2)) else
  match ex r.2 with
  | .error e => .error e
  | .ok j => match gTake (gB [44]) j.2 with
   | .error e => .error e
   | .ok c => match gIn (ex c.2) with | .error e => .error e | .ok k => .ok (.mk ⟨8,q,0,0,0,gE,p⟩ [j.1,k.1],k.2)
set_option maxRecDepth 100000 in
set_option maxHeartbeats 16000000 in
theorem call_mid (C : Code) (hC : cSnd (cSnd (cSnd (Tryz.f189.body.getD .skip))) = C) (ex : List Tk → Except Ft (Tr × List Tk)) (hS : Subs ex) {w : World} {b G : Nat} {ts : List Tk} {fa : Int} {fe : Value} {d : Nat} {V0 : World} {Nb : Nat} {q p : Int} (h : CX w b G fa fe d V0 Nb (.slice none 0 0) [] q p ts) (hb : b < w§) (hg : G < w§) (hd : d < 1000) (hq : Rg ⟨8,q,0,0,0,gE,p⟩)
  (cE : ∀ v ts a c,Rdr v b G ts fa fe (d + 1) a c → (∀ t ∈ ts,RgT t) → Calls zG 46 #[zP b] v (OutN b G fa fe (d + 1) v (ex ts))) (g1 g3 g5 g6 g7 g8 g9 g10 g11 g12 g13 g14 g15 g16 g17 g18 g19 g20 g21 g22 g23 g24 g25 g26 g27 g28 g29 g30 g31 g32 g33 g34 g35 : Value) :
  Code.wp Tryz.prog C (bodyPost Tryz.prog Tryz.f189 (OutN b G fa fe d w (gCallM ex q p ts))) { tmps := #[zP b,g1,zP w§,g3,zP Nb,g5,g6,g7,g8,g9,g10,g11,g12,g13,g14,g15,g16,g17,g18,g19,g20,g21,g22,g23,g24,g25,g26,g27,g28,g29,g30,g31,g32,g33,g34,g35],defers := [] } V0 := by
 have hmf : ∀ (fn : Fn) (first cap : Array Value) (w : World),(Instr.makeFunc fn first cap).run Tryz.prog w = .ok (.func fn first cap) w := fun _ _ _ _ => rfl
 obtain ⟨C5,hC5⟩ : ∃ C5,cSnd (cSnd (cSnd (cSnd (cSnd (Tryz.f189.body.getD .skip))))) = C5 := ⟨_,rfl⟩
 have HC5c : Hid (cSnd (cSnd (cSnd (cSnd (cSnd (Tryz.f189.body.getD .skip))))) = C5) := hC5
 simp only [cSnd,Tryz.f189,Option.getD_some] at hC hC5
 rw [← hC]
 rw [hC5]
 clear hC hC5
 have HBL : Hid (b < w§) := hb
 have HGL : Hid (G < w§) := hg
 have HRG : Hid (Rg ⟨8,q,0,0,0,gE,p⟩) := hq
 have HX0 := h.hid
 obtain ⟨a0,c0,h0⟩ := h.X.R
 have cT := take_any h0 (gB [40])
 clear h hb hg hq h0
 unfold gCallM
 obtain ⟨O,eO⟩ : ∃ O,gTake (gB [40]) ts = O := ⟨_,rfl⟩
 have HEO : Hid (gTake (gB [40]) ts = O) := eO
 rw [eO] at cT ⊢
 clear eO
 have cT : Calls zG 64 #[zP b,.string Zb] _ (OutK b G fa fe d _ O) := cT
 cases O with
 | error f =>
  go_wp2_with fail
  refine cT.mono ?_
  rintro e w6 ⟨rfl,hm⟩
  exact ⟨rfl,rfl,HX0.out.X.M.trans hm (fun k e => .inl e)⟩
 | ok O =>
 obtain ⟨u2,r2⟩ := O
 simp only
 by_cases hq3 : q = 3
 ·subst hq3
  rw [if_pos rfl]
  go_wp2_with fail
  refine cT.mono ?_
  rintro e V ⟨rfl,hr1,hm1⟩
  have HX := (HX0.out.mv HBL.out hm1 hr1 (gTake_sub HEO.out)).hid
  have c1 : V.cell? ⟨Nb,1,none⟩ = some (zU 3) := cell_of HX.out.N 1
  clear cT hr1 hm1 HX0 HEO
  go_wp2_with fail
  exact call_end C5 HC5c.out ex hS HX.out HBL.out HGL.out hd HRG.out (by simp) cE _ _ _ _ _ _ _ _ _ _ _ _ _ _ _ _ _ _ _ _ _ _ _ _ _ _ _ _ _ _ _ _ _
 ·rw [if_neg hq3]
  have hq4 : (q != 3) = true := bne_iff_ne.2 hq3
  have hq5 : (q == 3) = false := beq_false_of_ne hq3
  have hq6 : decide (q = 3) = false := decide_eq_false hq3
  obtain ⟨v,ev⟩ : ∃ v,Value.slice none 0 0 = v := ⟨_,rfl⟩
  have hLv : ([] : List Nd).length ≤ 10 := by simp
  obtain ⟨L,eL⟩ : ∃ L : List Nd,[] = L := ⟨_,rfl⟩
  rw [ev,eL] at HX0
  have HEL : Hid ([] = L) := eL
  have hL0 : L.length ≤ 10 := by rw [← eL]; exact hLv
  have cW : ∀ V,CX w b G fa fe d V Nb v L q p r2 → ∀ v,GB V v → Calls zG 89 #[zP b,.func (.func 46) #[zP b] #[]] v (OutN b G fa fe d v (ex r2)) := fun V HX v hv => by
   obtain ⟨a,c,hr⟩ := (HX.X.on HBL.out hv).R
   exact within_any 46 enter46 hr hd (ex r2) (fun v a c h' => cE v r2 a c h' HX.X.T)
  have hgi : ∀ t q,ex r2 = .ok (t,q) → ∀ x ∈ q,x ∈ r2 := fun t q e => hS r2 t q e
  obtain ⟨O,eO⟩ : ∃ O,ex r2 = O := ⟨_,rfl⟩
  rw [eO] at cW hgi ⊢
  have HSR : Hid (∀ t q,O = .ok (t,q) → ∀ x ∈ q,x ∈ r2) := hgi
  clear eO hgi ev eL hLv
  cases O with
  | error f =>
   go_wp2_with fail
   refine cT.mono ?_
   rintro e V ⟨rfl,hr1,hm1⟩
   have HX := (HX0.out.mv HBL.out hm1 hr1 (gTake_sub HEO.out)).hid
   have c1 : V.cell? ⟨Nb,1,none⟩ = some (zU q) := cell_of HX.out.N 1
   have c6 : V.cell? ⟨Nb,6,none⟩ = some v := cell_of HX.out.N 6
   have cW := cW V HX.out
   clear cT hr1 hm1 HX0 HEO
   go_upto_region 5 with fail
   refine wp_region_any zK ?_
   change wpAny _ _ _ _ _ _ _ V.drew
   refine wpAny_take (i := 0) (v := ?_) rfl zK zK zK (fun _ _ _ h => h) (Or.inl ⟨by rfl,?_⟩) ?_
   rotate_left
   ·(intro v; go_simp; try (with_reducible rfl))
   try simp [Act.put]
   refine wpAny_take (i := 2) (v := ?_) rfl zK zK zK (fun _ _ _ h => h) (Or.inl ⟨by rfl,?_⟩) ?_
   rotate_left
   ·(intro v; go_simp; try (with_reducible rfl))
   try simp [Act.put]
   refine wpAny_take (i := 3) (v := ?_) rfl zK zK zK (fun _ _ _ h => h) (Or.inl ⟨by rfl,?_⟩) ?_
   rotate_left
   ·(intro v; go_simp; try (with_reducible rfl))
   try simp [Act.put]
   refine wpAny_take (i := 4) (v := ?_) rfl zK zK zK (fun _ _ _ h => h) (Or.inl ⟨by rfl,?_⟩) ?_
   rotate_left
   ·(intro v; go_simp; try (with_reducible rfl))
   try simp [Act.put]
   refine wpAny_ready (rs := [1,5]) zK (by simp) (allReady_cons rfl (fun K hK => ?_) (allReady_cons rfl (fun K hK => ?_) AllReady.nil))
   ·go_simp
    refine hK.out _ _ ?_
    clear hK K
    try simp [Act.put]
    refine wpAny_ready (rs := [5]) zK (by simp) (allReady_cons rfl (fun K hK => ?_) AllReady.nil)
    go_simp
    go_at_call 89
    refine (cW _ (by (repeat (first | with_reducible exact GB.refl _ | with_reducible apply GB.drew2 | with_reducible apply GB.alloc)))).mono ?_
    rintro e w1 ⟨rfl,hm⟩
    exact ⟨rfl,rfl,HX.out.X.M.trans ((Mv.ofBelow (F := fun k => k = b) (GB.drew2 (GB.refl V))).trans hm (fun k e => .inl e)) (fun k e => .inl e)⟩
   ·go_simp
    go_at_call 89
    refine (cW _ (by (repeat (first | with_reducible exact GB.refl _ | with_reducible apply GB.drew2 | with_reducible apply GB.alloc)))).mono ?_
    rintro e w1 ⟨rfl,hm⟩
    exact ⟨rfl,rfl,HX.out.X.M.trans ((Mv.ofBelow (F := fun k => k = b) (GB.drew2 (GB.refl V))).trans hm (fun k e => .inl e)) (fun k e => .inl e)⟩
  | ok O =>
   obtain ⟨t3,ts3⟩ := O
   simp only
   obtain ⟨O2,eO2⟩ : ∃ O2,gTake (gB [44]) ts3 = O2 := ⟨_,rfl⟩
   have HE2 : Hid (gTake (gB [44]) ts3 = O2) := eO2
   rw [eO2]
   clear eO2
   cases O2 with
   | error f2e =>
    simp only
    go_wp2_with fail
    refine cT.mono ?_
    rintro e V ⟨rfl,hr1,hm1⟩
    have HX := (HX0.out.mv HBL.out hm1 hr1 (gTake_sub HEO.out)).hid
    have c1 : V.cell? ⟨Nb,1,none⟩ = some (zU q) := cell_of HX.out.N 1
    have c6 : V.cell? ⟨Nb,6,none⟩ = some v := cell_of HX.out.N 6
    have cW := cW V HX.out
    clear cT hr1 hm1 HX0 HEO
    go_upto_region 5 with fail
    refine wp_region_any zK ?_
    change wpAny _ _ _ _ _ _ _ V.drew
    refine wpAny_take (i := 0) (v := ?_) rfl zK zK zK (fun _ _ _ h => h) (Or.inl ⟨by rfl,?_⟩) ?_
    rotate_left
    ·(intro v; go_simp; try (with_reducible rfl))
    try simp [Act.put]
    refine wpAny_take (i := 2) (v := ?_) rfl zK zK zK (fun _ _ _ h => h) (Or.inl ⟨by rfl,?_⟩) ?_
    rotate_left
    ·(intro v; go_simp; try (with_reducible rfl))
    try simp [Act.put]
    refine wpAny_take (i := 3) (v := ?_) rfl zK zK zK (fun _ _ _ h => h) (Or.inl ⟨by rfl,?_⟩) ?_
    rotate_left
    ·(intro v; go_simp; try (with_reducible rfl))
    try simp [Act.put]
    refine wpAny_take (i := 4) (v := ?_) rfl zK zK zK (fun _ _ _ h => h) (Or.inl ⟨by rfl,?_⟩) ?_
    rotate_left
    ·(intro v; go_simp; try (with_reducible rfl))
    try simp [Act.put]
    refine wpAny_ready (rs := [1,5]) zK (by simp) (allReady_cons rfl (fun K hK => ?_) (allReady_cons rfl (fun K hK => ?_) AllReady.nil))
    ·go_simp
     refine hK.out _ _ ?_
     clear hK K
     try simp [Act.put]
     refine wpAny_ready (rs := [5]) zK (by simp) (allReady_cons rfl (fun K hK => ?_) AllReady.nil)
     go_simp
     go_at_call 89
     refine (cW _ (by (repeat (first | with_reducible exact GB.refl _ | with_reducible apply GB.drew2 | with_reducible apply GB.alloc)))).mono ?_
     rintro e w1 ⟨⟨m,rfl,rfl,hl,hk⟩,hr,hm⟩
     obtain ⟨⟨k2,o2,ty2,n2,f2,x2,p2⟩,am2,cm2,ks2⟩ := m
     have HX1 := (HX.out.mv HBL.out ((Mv.ofBelow (F := fun k => k = b) (GB.drew2 (GB.refl V))).trans hm (fun k e => .inl e)) hr (HSR.out _ _ rfl)).hid
     have HLK : Hid (LiesO w1 (.mk ⟨k2,o2,ty2,n2,f2,x2,p2⟩ am2 cm2 ks2) ∧ Bkn (fun k => w§ < k ∧ k < w1§ ∧ k ≠ Nb ∧ v.ownBlock ≠ some k) (.mk ⟨k2,o2,ty2,n2,f2,x2,p2⟩ am2 cm2 ks2) ∧ ∀ x ∈ L,Apt x (.mk ⟨k2,o2,ty2,n2,f2,x2,p2⟩ am2 cm2 ks2)) := ⟨hl,hk.mono fun j hj => by
      have h1 := (Array.getElem?_eq_some_iff.1 HX.out.N).1
      have h2 := HX.out.nb
      have h3 : V§ ≤ j := hj.1
      exact ⟨by omega,hj.2,by omega,fun e => by have := HX.out.row.lt j e; omega⟩,fun x hx' => ⟨V§,(HX.out.ls x hx').2.mono fun j hj => hj.2.1,hk.mono fun j hj => hj.1⟩⟩
     have c6 : w1.cell? ⟨Nb,6,none⟩ = some v := cell_of HX1.out.N 6
     have c6a : (w1.alloc (.cells #[zU k2,zU o2,zU ty2,zI n2,zU f2,.string x2,.slice am2 ks2.length cm2,zI p2] 64)).cell? ⟨Nb,6,none⟩ = some v := cell_of (((below_new w1 (.cells #[zU k2,zU o2,zU ty2,zI n2,zU f2,.string x2,.slice am2 ks2.length cm2,zI p2] 64)).block _ (Array.getElem?_eq_some_iff.1 HX1.out.N).1).trans HX1.out.N) 6
     clear hl hk hr hm
     simp only [Nd.vals,Nd.h,Nd.a,Nd.c,Nd.ks,hdA]
     refine hK.out _ _ ?_
     clear hK K
     try simp [Act.put]
     refine wpAny_ready (rs := [6]) zK (by simp) (allReady_cons rfl (fun K hK => ?_) AllReady.nil)
     go_simp
     refine hK.out _ _ ?_
     clear hK K
     try simp [Act.put]
     refine wpAny_ready (rs := [7]) zK (by simp) (allReady_cons rfl (fun K hK => ?_) AllReady.nil)
     refine step_row rfl (.tmp 18) (.tmp 23) rfl (.mk ⟨k2,o2,ty2,n2,f2,x2,p2⟩ am2 cm2 ks2) HX1.out.row (by simp [Act.eval]) (by simp [Act.eval]) (by omega) ?_
     intro g cap w' hr' h3 h4
     obtain ⟨hNw,hC5⟩ := HX1.out.app HBL.out HGL.out HLK.out.1 HLK.out.2.1 HLK.out.2.2 hr' h3 h4
     have hN5 := hNw.trans HX1.out.N
     have cN : w'.cell? ⟨Nb,6,none⟩ = some v := cell_of hN5 6
     have fN : w'.frozen? ⟨Nb,6,none⟩ = false := frozen_of hN5 6
     have HC5 := hC5.hid
     clear hNw hC5 hN5 hr' h3 h4 c6 c6a
     refine hK.out _ _ ?_
     clear hK K
     try simp [Act.put]
     refine wpAny_take (i := 8) (v := ?_) rfl zK zK zK (fun _ _ _ h => h) (Or.inl ⟨by rfl,?_⟩) ?_
     rotate_left
     ·(intro v; go_simp; try (with_reducible rfl))
     try simp [Act.put]
     refine wpAny_ready (rs := [9]) zK (by simp) (allReady_cons rfl (fun K hK => ?_) AllReady.nil)
     go_simp
     refine hK.out _ _ ?_
     clear hK K
     try simp [Act.put]
     refine wpAny_done zK ?_ _
     obtain ⟨W5,eW5⟩ : ∃ W,w'.setCell ⟨Nb,6,none⟩ (.slice (some ⟨g,0,none⟩) (L.length + 1) cap) = W := ⟨_,rfl⟩
     rw [eW5] at HC5 ⊢
     clear eW5 cN fN
     obtain ⟨a5,c5,h5⟩ := HC5.out.X.R
     have cT2 := take_any h5 (gB [44])
     rw [HE2.out] at cT2
     have cT2 : Calls zG 64 #[zP b,.string Zt] _ (OutK b G fa fe d _ (.error f2e)) := cT2
     clear h5
     go_wp2_with fail
     refine cT2.mono ?_
     rintro e w6 ⟨rfl,hm⟩
     exact ⟨rfl,rfl,HC5.out.X.M.trans hm (fun k e => .inl e)⟩
    ·go_simp
     go_at_call 89
     refine (cW _ (by (repeat (first | with_reducible exact GB.refl _ | with_reducible apply GB.drew2 | with_reducible apply GB.alloc)))).mono ?_
     rintro e w1 ⟨⟨m,rfl,rfl,hl,hk⟩,hr,hm⟩
     obtain ⟨⟨k2,o2,ty2,n2,f2,x2,p2⟩,am2,cm2,ks2⟩ := m
     have HX1 := (HX.out.mv HBL.out ((Mv.ofBelow (F := fun k => k = b) (GB.drew2 (GB.refl V))).trans hm (fun k e => .inl e)) hr (HSR.out _ _ rfl)).hid
     have HLK : Hid (LiesO w1 (.mk ⟨k2,o2,ty2,n2,f2,x2,p2⟩ am2 cm2 ks2) ∧ Bkn (fun k => w§ < k ∧ k < w1§ ∧ k ≠ Nb ∧ v.ownBlock ≠ some k) (.mk ⟨k2,o2,ty2,n2,f2,x2,p2⟩ am2 cm2 ks2) ∧ ∀ x ∈ L,Apt x (.mk ⟨k2,o2,ty2,n2,f2,x2,p2⟩ am2 cm2 ks2)) := ⟨hl,hk.mono fun j hj => by
      have h1 := (Array.getElem?_eq_some_iff.1 HX.out.N).1
      have h2 := HX.out.nb
      have h3 : V§ ≤ j := hj.1
      exact ⟨by omega,hj.2,by omega,fun e => by have := HX.out.row.lt j e; omega⟩,fun x hx' => ⟨V§,(HX.out.ls x hx').2.mono fun j hj => hj.2.1,hk.mono fun j hj => hj.1⟩⟩
     have c6 : w1.cell? ⟨Nb,6,none⟩ = some v := cell_of HX1.out.N 6
     have c6a : (w1.alloc (.cells #[zU k2,zU o2,zU ty2,zI n2,zU f2,.string x2,.slice am2 ks2.length cm2,zI p2] 64)).cell? ⟨Nb,6,none⟩ = some v := cell_of (((below_new w1 (.cells #[zU k2,zU o2,zU ty2,zI n2,zU f2,.string x2,.slice am2 ks2.length cm2,zI p2] 64)).block _ (Array.getElem?_eq_some_iff.1 HX1.out.N).1).trans HX1.out.N) 6
     clear hl hk hr hm
     simp only [Nd.vals,Nd.h,Nd.a,Nd.c,Nd.ks,hdA]
     refine hK.out _ _ ?_
     clear hK K
     try simp [Act.put]
     refine wpAny_ready (rs := [1,6]) zK (by simp) (allReady_cons rfl (fun K hK => ?_) (allReady_cons rfl (fun K hK => ?_) AllReady.nil))
     ·go_simp
      refine hK.out _ _ ?_
      clear hK K
      try simp [Act.put]
      refine wpAny_ready (rs := [6]) zK (by simp) (allReady_cons rfl (fun K hK => ?_) AllReady.nil)
      go_simp
      refine hK.out _ _ ?_
      clear hK K
      try simp [Act.put]
      refine wpAny_ready (rs := [7]) zK (by simp) (allReady_cons rfl (fun K hK => ?_) AllReady.nil)
      refine step_row rfl (.tmp 18) (.tmp 23) rfl (.mk ⟨k2,o2,ty2,n2,f2,x2,p2⟩ am2 cm2 ks2) HX1.out.row (by simp [Act.eval]) (by simp [Act.eval]) (by omega) ?_
      intro g cap w' hr' h3 h4
      obtain ⟨hNw,hC5⟩ := HX1.out.app HBL.out HGL.out HLK.out.1 HLK.out.2.1 HLK.out.2.2 hr' h3 h4
      have hN5 := hNw.trans HX1.out.N
      have cN : w'.cell? ⟨Nb,6,none⟩ = some v := cell_of hN5 6
      have fN : w'.frozen? ⟨Nb,6,none⟩ = false := frozen_of hN5 6
      have HC5 := hC5.hid
      clear hNw hC5 hN5 hr' h3 h4 c6 c6a
      refine hK.out _ _ ?_
      clear hK K
      try simp [Act.put]
      refine wpAny_take (i := 8) (v := ?_) rfl zK zK zK (fun _ _ _ h => h) (Or.inl ⟨by rfl,?_⟩) ?_
      rotate_left
      ·(intro v; go_simp; try (with_reducible rfl))
      try simp [Act.put]
      refine wpAny_ready (rs := [9]) zK (by simp) (allReady_cons rfl (fun K hK => ?_) AllReady.nil)
      go_simp
      refine hK.out _ _ ?_
      clear hK K
      try simp [Act.put]
      refine wpAny_done zK ?_ _
      obtain ⟨W5,eW5⟩ : ∃ W,w'.setCell ⟨Nb,6,none⟩ (.slice (some ⟨g,0,none⟩) (L.length + 1) cap) = W := ⟨_,rfl⟩
      rw [eW5] at HC5 ⊢
      clear eW5 cN fN
      obtain ⟨a5,c5,h5⟩ := HC5.out.X.R
      have cT2 := take_any h5 (gB [44])
      rw [HE2.out] at cT2
      have cT2 : Calls zG 64 #[zP b,.string Zt] _ (OutK b G fa fe d _ (.error f2e)) := cT2
      clear h5
      go_wp2_with fail
      refine cT2.mono ?_
      rintro e w6 ⟨rfl,hm⟩
      exact ⟨rfl,rfl,HC5.out.X.M.trans hm (fun k e => .inl e)⟩
     ·go_simp
      refine hK.out _ _ ?_
      clear hK K
      try simp [Act.put]
      refine wpAny_ready (rs := [1]) zK (by simp) (allReady_cons rfl (fun K hK => ?_) AllReady.nil)
      go_simp
      refine hK.out _ _ ?_
      clear hK K
      try simp [Act.put]
      refine wpAny_ready (rs := [7]) zK (by simp) (allReady_cons rfl (fun K hK => ?_) AllReady.nil)
      refine step_row rfl (.tmp 18) (.tmp 23) rfl (.mk ⟨k2,o2,ty2,n2,f2,x2,p2⟩ am2 cm2 ks2) HX1.out.row (by simp [Act.eval]) (by simp [Act.eval]) (by omega) ?_
      intro g cap w' hr' h3 h4
      obtain ⟨hNw,hC5⟩ := HX1.out.app HBL.out HGL.out HLK.out.1 HLK.out.2.1 HLK.out.2.2 hr' h3 h4
      have hN5 := hNw.trans HX1.out.N
      have cN : w'.cell? ⟨Nb,6,none⟩ = some v := cell_of hN5 6
      have fN : w'.frozen? ⟨Nb,6,none⟩ = false := frozen_of hN5 6
      have HC5 := hC5.hid
      clear hNw hC5 hN5 hr' h3 h4 c6 c6a
      refine hK.out _ _ ?_
      clear hK K
      try simp [Act.put]
      refine wpAny_take (i := 8) (v := ?_) rfl zK zK zK (fun _ _ _ h => h) (Or.inl ⟨by rfl,?_⟩) ?_
      rotate_left
      ·(intro v; go_simp; try (with_reducible rfl))
      try simp [Act.put]
      refine wpAny_ready (rs := [9]) zK (by simp) (allReady_cons rfl (fun K hK => ?_) AllReady.nil)
      go_simp
      refine hK.out _ _ ?_
      clear hK K
      try simp [Act.put]
      refine wpAny_done zK ?_ _
      obtain ⟨W5,eW5⟩ : ∃ W,w'.setCell ⟨Nb,6,none⟩ (.slice (some ⟨g,0,none⟩) (L.length + 1) cap) = W := ⟨_,rfl⟩
      rw [eW5] at HC5 ⊢
      clear eW5 cN fN
      obtain ⟨a5,c5,h5⟩ := HC5.out.X.R
      have cT2 := take_any h5 (gB [44])
      rw [HE2.out] at cT2
      have cT2 : Calls zG 64 #[zP b,.string Zt] _ (OutK b G fa fe d _ (.error f2e)) := cT2
      clear h5
      go_wp2_with fail
      refine cT2.mono ?_
      rintro e w6 ⟨rfl,hm⟩
      exact ⟨rfl,rfl,HC5.out.X.M.trans hm (fun k e => .inl e)⟩
   | ok O2 =>
    obtain ⟨u4,r4⟩ := O2
    simp only
    go_wp2_with fail
    refine cT.mono ?_
    rintro e V ⟨rfl,hr1,hm1⟩
    have HX := (HX0.out.mv HBL.out hm1 hr1 (gTake_sub HEO.out)).hid
    have c1 : V.cell? ⟨Nb,1,none⟩ = some (zU q) := cell_of HX.out.N 1
    have c6 : V.cell? ⟨Nb,6,none⟩ = some v := cell_of HX.out.N 6
    have cW := cW V HX.out
    clear cT hr1 hm1 HX0 HEO
    go_upto_region 5 with fail
    refine wp_region_any zK ?_
    change wpAny _ _ _ _ _ _ _ V.drew
    refine wpAny_take (i := 0) (v := ?_) rfl zK zK zK (fun _ _ _ h => h) (Or.inl ⟨by rfl,?_⟩) ?_
    rotate_left
    ·(intro v; go_simp; try (with_reducible rfl))
    try simp [Act.put]
    refine wpAny_take (i := 2) (v := ?_) rfl zK zK zK (fun _ _ _ h => h) (Or.inl ⟨by rfl,?_⟩) ?_
    rotate_left
    ·(intro v; go_simp; try (with_reducible rfl))
    try simp [Act.put]
    refine wpAny_take (i := 3) (v := ?_) rfl zK zK zK (fun _ _ _ h => h) (Or.inl ⟨by rfl,?_⟩) ?_
    rotate_left
    ·(intro v; go_simp; try (with_reducible rfl))
    try simp [Act.put]
    refine wpAny_take (i := 4) (v := ?_) rfl zK zK zK (fun _ _ _ h => h) (Or.inl ⟨by rfl,?_⟩) ?_
    rotate_left
    ·(intro v; go_simp; try (with_reducible rfl))
    try simp [Act.put]
    refine wpAny_ready (rs := [1,5]) zK (by simp) (allReady_cons rfl (fun K hK => ?_) (allReady_cons rfl (fun K hK => ?_) AllReady.nil))
    ·go_simp
     refine hK.out _ _ ?_
     clear hK K
     try simp [Act.put]
     refine wpAny_ready (rs := [5]) zK (by simp) (allReady_cons rfl (fun K hK => ?_) AllReady.nil)
     go_simp
     go_at_call 89
     refine (cW _ (by (repeat (first | with_reducible exact GB.refl _ | with_reducible apply GB.drew2 | with_reducible apply GB.alloc)))).mono ?_
     rintro e w1 ⟨⟨m,rfl,rfl,hl,hk⟩,hr,hm⟩
     obtain ⟨⟨k2,o2,ty2,n2,f2,x2,p2⟩,am2,cm2,ks2⟩ := m
     have HX1 := (HX.out.mv HBL.out ((Mv.ofBelow (F := fun k => k = b) (GB.drew2 (GB.refl V))).trans hm (fun k e => .inl e)) hr (HSR.out _ _ rfl)).hid
     have HLK : Hid (LiesO w1 (.mk ⟨k2,o2,ty2,n2,f2,x2,p2⟩ am2 cm2 ks2) ∧ Bkn (fun k => w§ < k ∧ k < w1§ ∧ k ≠ Nb ∧ v.ownBlock ≠ some k) (.mk ⟨k2,o2,ty2,n2,f2,x2,p2⟩ am2 cm2 ks2) ∧ ∀ x ∈ L,Apt x (.mk ⟨k2,o2,ty2,n2,f2,x2,p2⟩ am2 cm2 ks2)) := ⟨hl,hk.mono fun j hj => by
      have h1 := (Array.getElem?_eq_some_iff.1 HX.out.N).1
      have h2 := HX.out.nb
      have h3 : V§ ≤ j := hj.1
      exact ⟨by omega,hj.2,by omega,fun e => by have := HX.out.row.lt j e; omega⟩,fun x hx' => ⟨V§,(HX.out.ls x hx').2.mono fun j hj => hj.2.1,hk.mono fun j hj => hj.1⟩⟩
     have c6 : w1.cell? ⟨Nb,6,none⟩ = some v := cell_of HX1.out.N 6
     have c6a : (w1.alloc (.cells #[zU k2,zU o2,zU ty2,zI n2,zU f2,.string x2,.slice am2 ks2.length cm2,zI p2] 64)).cell? ⟨Nb,6,none⟩ = some v := cell_of (((below_new w1 (.cells #[zU k2,zU o2,zU ty2,zI n2,zU f2,.string x2,.slice am2 ks2.length cm2,zI p2] 64)).block _ (Array.getElem?_eq_some_iff.1 HX1.out.N).1).trans HX1.out.N) 6
     clear hl hk hr hm
     simp only [Nd.vals,Nd.h,Nd.a,Nd.c,Nd.ks,hdA]
     refine hK.out _ _ ?_
     clear hK K
     try simp [Act.put]
     refine wpAny_ready (rs := [6]) zK (by simp) (allReady_cons rfl (fun K hK => ?_) AllReady.nil)
     go_simp
     refine hK.out _ _ ?_
     clear hK K
     try simp [Act.put]
     refine wpAny_ready (rs := [7]) zK (by simp) (allReady_cons rfl (fun K hK => ?_) AllReady.nil)
     refine step_row rfl (.tmp 18) (.tmp 23) rfl (.mk ⟨k2,o2,ty2,n2,f2,x2,p2⟩ am2 cm2 ks2) HX1.out.row (by simp [Act.eval]) (by simp [Act.eval]) (by omega) ?_
     intro g cap w' hr' h3 h4
     obtain ⟨hNw,hC5⟩ := HX1.out.app HBL.out HGL.out HLK.out.1 HLK.out.2.1 HLK.out.2.2 hr' h3 h4
     have hN5 := hNw.trans HX1.out.N
     have cN : w'.cell? ⟨Nb,6,none⟩ = some v := cell_of hN5 6
     have fN : w'.frozen? ⟨Nb,6,none⟩ = false := frozen_of hN5 6
     have HC5 := hC5.hid
     clear hNw hC5 hN5 hr' h3 h4 c6 c6a
     refine hK.out _ _ ?_
     clear hK K
     try simp [Act.put]
     refine wpAny_take (i := 8) (v := ?_) rfl zK zK zK (fun _ _ _ h => h) (Or.inl ⟨by rfl,?_⟩) ?_
     rotate_left
     ·(intro v; go_simp; try (with_reducible rfl))
     try simp [Act.put]
     refine wpAny_ready (rs := [9]) zK (by simp) (allReady_cons rfl (fun K hK => ?_) AllReady.nil)
     go_simp
     refine hK.out _ _ ?_
     clear hK K
     try simp [Act.put]
     refine wpAny_done zK ?_ _
     obtain ⟨W5,eW5⟩ : ∃ W,w'.setCell ⟨Nb,6,none⟩ (.slice (some ⟨g,0,none⟩) (L.length + 1) cap) = W := ⟨_,rfl⟩
     rw [eW5] at HC5 ⊢
     clear eW5 cN fN
     obtain ⟨a5,c5,h5⟩ := HC5.out.X.R
     have cT2 := take_any h5 (gB [44])
     rw [HE2.out] at cT2
     have cT2 : Calls zG 64 #[zP b,.string Zt] _ (OutK b G fa fe d _ (.ok (u4,r4))) := cT2
     clear h5
     go_wp2_with fail
     refine cT2.mono ?_
     rintro e w6 ⟨rfl,hr6,hm⟩
     have HX6 := (HC5.out.mv HBL.out hm hr6 (gTake_sub HE2.out)).hid
     clear cT2 hm hr6
     go_wp2_with fail
     obtain rfl := HEL.out
     exact call_end C5 HC5c.out ex hS HX6.out HBL.out HGL.out hd HRG.out (by simp) cE _ _ _ _ _ _ _ _ _ _ _ _ _ _ _ _ _ _ _ _ _ _ _ _ _ _ _ _ _ _ _ _ _
    ·go_simp
     go_at_call 89
     refine (cW _ (by (repeat (first | with_reducible exact GB.refl _ | with_reducible apply GB.drew2 | with_reducible apply GB.alloc)))).mono ?_
     rintro e w1 ⟨⟨m,rfl,rfl,hl,hk⟩,hr,hm⟩
     obtain ⟨⟨k2,o2,ty2,n2,f2,x2,p2⟩,am2,cm2,ks2⟩ := m
     have HX1 := (HX.out.mv HBL.out ((Mv.ofBelow (F := fun k => k = b) (GB.drew2 (GB.refl V))).trans hm (fun k e => .inl e)) hr (HSR.out _ _ rfl)).hid
     have HLK : Hid (LiesO w1 (.mk ⟨k2,o2,ty2,n2,f2,x2,p2⟩ am2 cm2 ks2) ∧ Bkn (fun k => w§ < k ∧ k < w1§ ∧ k ≠ Nb ∧ v.ownBlock ≠ some k) (.mk ⟨k2,o2,ty2,n2,f2,x2,p2⟩ am2 cm2 ks2) ∧ ∀ x ∈ L,Apt x (.mk ⟨k2,o2,ty2,n2,f2,x2,p2⟩ am2 cm2 ks2)) := ⟨hl,hk.mono fun j hj => by
      have h1 := (Array.getElem?_eq_some_iff.1 HX.out.N).1
      have h2 := HX.out.nb
      have h3 : V§ ≤ j := hj.1
      exact ⟨by omega,hj.2,by omega,fun e => by have := HX.out.row.lt j e; omega⟩,fun x hx' => ⟨V§,(HX.out.ls x hx').2.mono fun j hj => hj.2.1,hk.mono fun j hj => hj.1⟩⟩
     have c6 : w1.cell? ⟨Nb,6,none⟩ = some v := cell_of HX1.out.N 6
     have c6a : (w1.alloc (.cells #[zU k2,zU o2,zU ty2,zI n2,zU f2,.string x2,.slice am2 ks2.length cm2,zI p2] 64)).cell? ⟨Nb,6,none⟩ = some v := cell_of (((below_new w1 (.cells #[zU k2,zU o2,zU ty2,zI n2,zU f2,.string x2,.slice am2 ks2.length cm2,zI p2] 64)).block _ (Array.getElem?_eq_some_iff.1 HX1.out.N).1).trans HX1.out.N) 6
     clear hl hk hr hm
     simp only [Nd.vals,Nd.h,Nd.a,Nd.c,Nd.ks,hdA]
     refine hK.out _ _ ?_
     clear hK K
     try simp [Act.put]
     refine wpAny_ready (rs := [1,6]) zK (by simp) (allReady_cons rfl (fun K hK => ?_) (allReady_cons rfl (fun K hK => ?_) AllReady.nil))
     ·go_simp
      refine hK.out _ _ ?_
      clear hK K
      try simp [Act.put]
      refine wpAny_ready (rs := [6]) zK (by simp) (allReady_cons rfl (fun K hK => ?_) AllReady.nil)
      go_simp
      refine hK.out _ _ ?_
      clear hK K
      try simp [Act.put]
      refine wpAny_ready (rs := [7]) zK (by simp) (allReady_cons rfl (fun K hK => ?_) AllReady.nil)
      refine step_row rfl (.tmp 18) (.tmp 23) rfl (.mk ⟨k2,o2,ty2,n2,f2,x2,p2⟩ am2 cm2 ks2) HX1.out.row (by simp [Act.eval]) (by simp [Act.eval]) (by omega) ?_
      intro g cap w' hr' h3 h4
      obtain ⟨hNw,hC5⟩ := HX1.out.app HBL.out HGL.out HLK.out.1 HLK.out.2.1 HLK.out.2.2 hr' h3 h4
      have hN5 := hNw.trans HX1.out.N
      have cN : w'.cell? ⟨Nb,6,none⟩ = some v := cell_of hN5 6
      have fN : w'.frozen? ⟨Nb,6,none⟩ = false := frozen_of hN5 6
      have HC5 := hC5.hid
      clear hNw hC5 hN5 hr' h3 h4 c6 c6a
      refine hK.out _ _ ?_
      clear hK K
      try simp [Act.put]
      refine wpAny_take (i := 8) (v := ?_) rfl zK zK zK (fun _ _ _ h => h) (Or.inl ⟨by rfl,?_⟩) ?_
      rotate_left
      ·(intro v; go_simp; try (with_reducible rfl))
      try simp [Act.put]
      refine wpAny_ready (rs := [9]) zK (by simp) (allReady_cons rfl (fun K hK => ?_) AllReady.nil)
      go_simp
      refine hK.out _ _ ?_
      clear hK K
      try simp [Act.put]
      refine wpAny_done zK ?_ _
      obtain ⟨W5,eW5⟩ : ∃ W,w'.setCell ⟨Nb,6,none⟩ (.slice (some ⟨g,0,none⟩) (L.length + 1) cap) = W := ⟨_,rfl⟩
      rw [eW5] at HC5 ⊢
      clear eW5 cN fN
      obtain ⟨a5,c5,h5⟩ := HC5.out.X.R
      have cT2 := take_any h5 (gB [44])
      rw [HE2.out] at cT2
      have cT2 : Calls zG 64 #[zP b,.string Zt] _ (OutK b G fa fe d _ (.ok (u4,r4))) := cT2
      clear h5
      go_wp2_with fail
      refine cT2.mono ?_
      rintro e w6 ⟨rfl,hr6,hm⟩
      have HX6 := (HC5.out.mv HBL.out hm hr6 (gTake_sub HE2.out)).hid
      clear cT2 hm hr6
      go_wp2_with fail
      obtain rfl := HEL.out
      exact call_end C5 HC5c.out ex hS HX6.out HBL.out HGL.out hd HRG.out (by simp) cE _ _ _ _ _ _ _ _ _ _ _ _ _ _ _ _ _ _ _ _ _ _ _ _ _ _ _ _ _ _ _ _ _
     ·go_simp
      refine hK.out _ _ ?_
      clear hK K
      try simp [Act.put]
      refine wpAny_ready (rs := [1]) zK (by simp) (allReady_cons rfl (fun K hK => ?_) AllReady.nil)
      go_simp
      refine hK.out _ _ ?_
      clear hK K
      try simp [Act.put]
      refine wpAny_ready (rs := [7]) zK (by simp) (allReady_cons rfl (fun K hK => ?_) AllReady.nil)
      refine step_row rfl (.tmp 18) (.tmp 23) rfl (.mk ⟨k2,o2,ty2,n2,f2,x2,p2⟩ am2 cm2 ks2) HX1.out.row (by simp [Act.eval]) (by simp [Act.eval]) (by omega) ?_
      intro g cap w' hr' h3 h4
      obtain ⟨hNw,hC5⟩ := HX1.out.app HBL.out HGL.out HLK.out.1 HLK.out.2.1 HLK.out.2.2 hr' h3 h4
      have hN5 := hNw.trans HX1.out.N
      have cN : w'.cell? ⟨Nb,6,none⟩ = some v := cell_of hN5 6
      have fN : w'.frozen? ⟨Nb,6,none⟩ = false := frozen_of hN5 6
      have HC5 := hC5.hid
      clear hNw hC5 hN5 hr' h3 h4 c6 c6a
      refine hK.out _ _ ?_
      clear hK K
      try simp [Act.put]
      refine wpAny_take (i := 8) (v := ?_) rfl zK zK zK (fun _ _ _ h => h) (Or.inl ⟨by rfl,?_⟩) ?_
      rotate_left
      ·(intro v; go_simp; try (with_reducible rfl))
      try simp [Act.put]
      refine wpAny_ready (rs := [9]) zK (by simp) (allReady_cons rfl (fun K hK => ?_) AllReady.nil)
      go_simp
      refine hK.out _ _ ?_
      clear hK K
      try simp [Act.put]
      refine wpAny_done zK ?_ _
      obtain ⟨W5,eW5⟩ : ∃ W,w'.setCell ⟨Nb,6,none⟩ (.slice (some ⟨g,0,none⟩) (L.length + 1) cap) = W := ⟨_,rfl⟩
      rw [eW5] at HC5 ⊢
      clear eW5 cN fN
      obtain ⟨a5,c5,h5⟩ := HC5.out.X.R
      have cT2 := take_any h5 (gB [44])
      rw [HE2.out] at cT2
      have cT2 : Calls zG 64 #[zP b,.string Zt] _ (OutK b G fa fe d _ (.ok (u4,r4))) := cT2
      clear h5
      go_wp2_with fail
      refine cT2.mono ?_
      rintro e w6 ⟨rfl,hr6,hm⟩
      have HX6 := (HC5.out.mv HBL.out hm hr6 (gTake_sub HE2.out)).hid
      clear cT2 hm hr6
      go_wp2_with fail
      obtain rfl := HEL.out
      exact call_end C5 HC5c.out ex hS HX6.out HBL.out HGL.out hd HRG.out (by simp) cE _ _ _ _ _ _ _ _ _ _ _ _ _ _ _ _ _ _ _ _ _ _ _ _ _ _ _ _ _ _ _ _ _
def gCall (ex : List Tk → Except Ft (Tr × List Tk)) (d : Nat) (ts : List Tk) : Except Ft (Tr × List Tk) :=
 match gOpn d ts with
 | .error e => .error e
 | .ok r => gCallM ex (callX r.1.x) r.1.p r.2
theorem callX_rg (x : ByteArray) : 0 ≤ callX x ∧ callX x ≤ 5 := by
 unfold callX
 repeat' split
 all_goals omega
set_option maxRecDepth 100000 in
set_option maxHeartbeats 16000000 in
theorem call_any (ex : List Tk → Except Ft (Tr × List Tk)) (hS : Subs ex) {w : World} {b G : Nat} {ts : List Tk} {fa : Int} {fe : Value} {d : Nat} {a : Option Addr} {c : Nat} (h : Rdr w b G ts fa fe d a c) (hT : ∀ t ∈ ts,RgT t) (hd : d < 1000)
  (cE : d < 24 → ∀ v ts a c,Rdr v b G ts fa fe (d + 1) a c → (∀ t ∈ ts,RgT t) → Calls zG 46 #[zP b] v (OutN b G fa fe (d + 1) v (ex ts))) :
  Calls zG 189 #[zP b] w (OutN b G fa fe d w (gCall ex d ts)) := by
 have hb0 := below_new w (.cells zNo 64)
 have h0 := h.on hb0
 have HBL : Hid (b < w§) := h.lt
 have HGL : Hid (G < w§) := h.gl
 have X0 : BX w b G fa fe d (w.alloc (.cells zNo 64)) [] ts := ⟨Mv.ofBelow hb0,heap_new _ _,fun p hp => by simp at hp,⟨a,c,h0⟩,hT⟩
 have X0 := X0.hid
 have cO := open_any h0
 unfold gCall
 clear h hb0 h0
 obtain ⟨O,eO⟩ : ∃ O,gOpn d ts = O := ⟨_,rfl⟩
 have HEO : Hid (gOpn d ts = O) := eO
 rw [eO] at cO ⊢
 clear eO
 cases O with
 | error f =>
  clear cE
  go_enter Tryz.func189,Tryz.ntmps189
  go_wp2_with fail
  refine cO.mono ?_
  rintro e w1 ⟨rfl,hm⟩
  exact ⟨rfl,rfl,X0.out.M.trans hm (fun k e => .inl e)⟩
 | ok q =>
 obtain ⟨u,r⟩ := q
 replace cE := cE (gOpn_lt HEO.out)
 have HUT : Hid (RgT u) := hT u (by rw [gOpn_mem HEO.out]; simp)
 have HSB : Hid (∀ x ∈ r,x ∈ ts) := gOpn_sub HEO.out
 have HRG : Hid (Rg ⟨8,callX u.x,0,0,0,gE,u.p⟩) := by
  have := HUT.out.p0; have := HUT.out.p1; have := callX_rg u.x
  constructor <;> first | omega | (show (0 : Nat) ≤ _; omega) | (simp only; omega) | simp
 clear HEO hT
 simp only
 go_enter Tryz.func189,Tryz.ntmps189
 obtain ⟨C3,hC3⟩ : ∃ C3,cSnd (cSnd (cSnd (Tryz.f189.body.getD .skip))) = C3 := ⟨_,rfl⟩
 have HC3 : Hid (cSnd (cSnd (cSnd (Tryz.f189.body.getD .skip))) = C3) := hC3
 simp only [cSnd,Tryz.f189,Option.getD_some] at hC3
 rw [hC3]
 clear hC3
 go_wp2_with fail
 refine cO.mono ?_
 rintro e w1 ⟨rfl,hr1,hm⟩
 have X1 := (X0.out.mv HBL.out hm hr1 HSB.out).on HBL.out (below_new w1 (.cells #[zU u.k,.string u.x,zU u.ty,zI u.n,zI u.p] 82))
 have HK1 : Hid ((w1.alloc (.cells #[zU u.k,.string u.x,zU u.ty,zI u.n,zI u.p] 82)).heap[w1§]? = some (.cells #[zU u.k,.string u.x,zU u.ty,zI u.n,zI u.p] 82 (0,0))) := heap_new _ _
 obtain ⟨Tb,eTb⟩ : ∃ T,w1§ = T := ⟨_,rfl⟩
 obtain ⟨V1,eV1⟩ : ∃ V,w1.alloc (.cells #[zU u.k,.string u.x,zU u.ty,zI u.n,zI u.p] 82) = V := ⟨_,rfl⟩
 have HV1 : Hid (w1.alloc (.cells #[zU u.k,.string u.x,zU u.ty,zI u.n,zI u.p] 82) = V1) := eV1
 rw [eV1] at X1 HK1
 rw [eTb] at HK1
 have X1 := X1.hid
 clear cO hm hr1 X0 eV1
 unfold tkA
 have HKP : Hid (∀ v,GB V1 v → v.cell? ⟨Tb,0,none⟩ = some (zU u.k) ∧ v.cell? ⟨Tb,1,none⟩ = some (.string u.x) ∧ v.cell? ⟨Tb,2,none⟩ = some (zU u.ty) ∧ v.cell? ⟨Tb,3,none⟩ = some (zI u.n) ∧ v.cell? ⟨Tb,4,none⟩ = some (zI u.p) ∧ GB V1 v) := fun v hv => by
  have e1 := (hv.block _ (Array.getElem?_eq_some_iff.1 HK1.out).1).trans HK1.out
  exact ⟨cell_of e1 0,cell_of e1 1,cell_of e1 2,cell_of e1 3,cell_of e1 4,hv⟩
 have HGS : Hid (∀ (U : World),GB V1 U → ∀ N,V1§ ≤ N → GB V1 ((((((((U.setCell ⟨N,0,none⟩ (zU 8)).setCell ⟨N,1,none⟩ (zU (callX u.x))).setCell ⟨N,2,none⟩ (zU 0)).setCell ⟨N,3,none⟩ (zI 0)).setCell ⟨N,4,none⟩ (zU 0)).setCell ⟨N,5,none⟩ (.string ⟨#[]⟩)).setCell ⟨N,6,none⟩ (.slice none 0 0)).setCell ⟨N,7,none⟩ (zI u.p))) := fun U hU N hN => by
  have m : Mv V1 U (fun _ => False) := Mv.ofBelow hU
  exact ((((((((m.setCell (a := ⟨N,0,none⟩) (.inr hN) _).setCell (a := ⟨N,1,none⟩) (.inr hN) _).setCell (a := ⟨N,2,none⟩) (.inr hN) _).setCell (a := ⟨N,3,none⟩) (.inr hN) _).setCell (a := ⟨N,4,none⟩) (.inr hN) _).setCell (a := ⟨N,5,none⟩) (.inr hN) _).setCell (a := ⟨N,6,none⟩) (.inr hN) _).setCell (a := ⟨N,7,none⟩) (.inr hN) _).below (Nat.le_refl _) (fun _ e => e.elim)
 have cY : ∀ v,Calls zG 188 #[.agg #[zU u.k,.string u.x,zU u.ty,zI u.n,zI u.p]] v fun e w' => e = .returned (zU (callX u.x)) ∧ Below v§ v w' := fun v => callOf_any u v
 go_upto_region 2 with fail
 rw [HV1.out]
 clear HV1 eTb
 refine wp_region_held_drew (S := fun v => GB V1 v) zK (GB.drew2 (GB.refl _)) (fun hHeld => ?_)
 refine wpAnyH_take (i := 0) (v := ?_) rfl zK zK zK (fun _ _ _ h => h) (Or.inl ⟨by rfl,?_⟩) (by assumption) ?_
 rotate_left
 ·(intro v hv; obtain ⟨t0,t1,t2,t3,t4,_⟩ := HKP.out v hv; go_simp; try (with_reducible rfl))
 try simp [Act.put]
 refine wpAnyH_take (i := 2) (v := ?_) rfl zK zK zK (fun _ _ _ h => h) (Or.inl ⟨by rfl,?_⟩) (by assumption) ?_
 rotate_left
 ·(intro v hv; obtain ⟨t0,t1,t2,t3,t4,_⟩ := HKP.out v hv; go_simp; try (with_reducible rfl))
 try simp [Act.put]
 refine wpAnyH_take (i := 3) (v := ?_) rfl zK zK zK (fun _ _ _ h => h) (Or.inl ⟨by rfl,?_⟩) (by assumption) ?_
 rotate_left
 ·(intro v hv; obtain ⟨t0,t1,t2,t3,t4,_⟩ := HKP.out v hv; go_simp; try (with_reducible rfl))
 try simp [Act.put]
 refine wpAnyH_ready (rs := [1,5]) zK (by simp) ?_
 refine AllReadyH.cons rfl (fun K hK => ?_) (AllReadyH.cons rfl (fun K hK => ?_) AllReadyH.nil)
 ·go_simp
  go_at_call 188
  refine (cY _).mono ?_
  rintro e w6 ⟨rfl,hb6⟩
  have hg6 : GB V1 w6 := GB.call (by (repeat (first | with_reducible exact GB.refl _ | with_reducible apply GB.drew2 | with_reducible apply GB.alloc))) hb6
  refine hK.out _ _ hg6 (fun hHeld6 => ?_)
  clear hK K
  try simp [Act.put]
  refine wpAnyH_take (i := 4) (v := ?_) rfl zK zK zK (fun _ _ _ h => h) (Or.inl ⟨by rfl,?_⟩) (by assumption) ?_
  rotate_left
  ·(intro v hv; go_simp; try (with_reducible rfl))
  try simp [Act.put]
  refine wpAnyH_ready (rs := [5]) zK (by simp) ?_
  refine AllReadyH.cons rfl (fun K hK => ?_) AllReadyH.nil
  go_simp
  refine hK.out _ _ (by (repeat (first | with_reducible assumption | with_reducible exact GB.refl _ | with_reducible apply GB.drew2 | with_reducible apply GB.alloc))) (fun hHeld5 => ?_)
  clear hK K
  try simp [Act.put]
  obtain ⟨Nb,eNb⟩ : ∃ q,w6§ = q := ⟨_,rfl⟩
  obtain ⟨V7,eV7⟩ : ∃ V,w6.alloc (.cells zNo 64) = V := ⟨_,rfl⟩
  have hG7 : GB V1 V7 := by rw [← eV7]; exact GB.alloc hg6 _
  have hZ7 : V7.heap[Nb]? = some (.cells zNo 64 (0,0)) := by rw [← eV7,← eNb]; exact heap_new _ _
  have hB7 : V1§ ≤ Nb := by rw [← eNb]; exact hg6.size
  rw [eV7] at hHeld5 ⊢
  rw [eNb]
  clear eV7 eNb
  have z0 : V7.cell? ⟨Nb,0,none⟩ = some (zU 0) := cell_of hZ7 0
  have q0 : V7.frozen? ⟨Nb,0,none⟩ = false := frozen_of hZ7 0
  have z1 : V7.cell? ⟨Nb,1,none⟩ = some (zU 0) := cell_of hZ7 1
  have q1 : V7.frozen? ⟨Nb,1,none⟩ = false := frozen_of hZ7 1
  have z2 : V7.cell? ⟨Nb,2,none⟩ = some (zU 0) := cell_of hZ7 2
  have q2 : V7.frozen? ⟨Nb,2,none⟩ = false := frozen_of hZ7 2
  have z3 : V7.cell? ⟨Nb,3,none⟩ = some (zI 0) := cell_of hZ7 3
  have q3 : V7.frozen? ⟨Nb,3,none⟩ = false := frozen_of hZ7 3
  have z4 : V7.cell? ⟨Nb,4,none⟩ = some (zU 0) := cell_of hZ7 4
  have q4 : V7.frozen? ⟨Nb,4,none⟩ = false := frozen_of hZ7 4
  have z5 : V7.cell? ⟨Nb,5,none⟩ = some (.string ⟨#[]⟩) := cell_of hZ7 5
  have q5 : V7.frozen? ⟨Nb,5,none⟩ = false := frozen_of hZ7 5
  have z6 : V7.cell? ⟨Nb,6,none⟩ = some (.slice none 0 0) := cell_of hZ7 6
  have q6 : V7.frozen? ⟨Nb,6,none⟩ = false := frozen_of hZ7 6
  have z7 : V7.cell? ⟨Nb,7,none⟩ = some (zI 0) := cell_of hZ7 7
  have q7 : V7.frozen? ⟨Nb,7,none⟩ = false := frozen_of hZ7 7
  obtain ⟨Y,eY,hY1,hY2,hY3,hY4⟩ := fin8 hZ7 (zU 8) (zU (callX u.x)) (zU 0) (zI 0) (zU 0) (.string ⟨#[]⟩) (.slice none 0 0) (zI u.p)
  have hGY : GB V1 Y := by
   have := hY4 V1 (fun _ => False) (Mv.ofBelow hG7) hB7
   exact this.below (Nat.le_refl _) (fun _ e => e.elim)
  have HCX : Hid (CX w b G fa fe d Y Nb (.slice none 0 0) [] (callX u.x) u.p r) := ⟨X1.out.on HBL.out hGY,hY1,by have := (Array.getElem?_eq_some_iff.1 X1.out.Z).1; omega,Row.nil _ _ _ _,fun k h => by simp [Value.ownBlock] at h,fun m hm => by simp at hm,List.Pairwise.nil⟩
  have HEY : Hid (_ = Y) := eY
  clear eY hY1 hY2 hY3 hY4 hGY hZ7
  refine wpAnyH_ready (rs := [6]) zK (by simp) ?_
  refine AllReadyH.cons rfl (fun K hK => ?_) AllReadyH.nil
  go_simp
  rw [HEY.out]
  refine hK.out _ _ (by rw [← HEY.out]; exact HGS.out V7 hG7 Nb hB7) (fun hHeld7 => ?_)
  clear hK K
  refine wpAnyH_done zK ?_ _
  go_wp2_with fail
  exact call_mid C3 HC3.out ex hS HCX.out HBL.out HGL.out hd HRG.out cE _ _ _ _ _ _ _ _ _ _ _ _ _ _ _ _ _ _ _ _ _ _ _ _ _ _ _ _ _ _ _ _ _
 ·go_simp
  refine hK.out _ _ (by (repeat (first | with_reducible assumption | with_reducible exact GB.refl _ | with_reducible apply GB.drew2 | with_reducible apply GB.alloc))) (fun hHeld5 => ?_)
  clear hK K
  try simp [Act.put]
  refine wpAnyH_ready (rs := [1]) zK (by simp) ?_
  refine AllReadyH.cons rfl (fun K hK => ?_) AllReadyH.nil
  go_simp
  go_at_call 188
  refine (cY _).mono ?_
  rintro e w6 ⟨rfl,hb6⟩
  have hg6 : GB V1 w6 := GB.call (by (repeat (first | with_reducible exact GB.refl _ | with_reducible apply GB.drew2 | with_reducible apply GB.alloc))) hb6
  refine hK.out _ _ hg6 (fun hHeld6 => ?_)
  clear hK K
  try simp [Act.put]
  have hZ7 : w6.heap[V1§]? = some (.cells zNo 64 (0,0)) := (hb6.block _ (by show _ < (V1.alloc _)§; rw [size_alloc]; omega)).trans (heap_new V1 _)
  obtain ⟨Nb,eNb⟩ : ∃ q,V1§ = q := ⟨_,rfl⟩
  have hB7 : V1§ ≤ Nb := by omega
  have hG7 := hg6
  rw [eNb] at hZ7 ⊢
  clear eNb
  refine wpAnyH_take (i := 4) (v := ?_) rfl zK zK zK (fun _ _ _ h => h) (Or.inl ⟨by rfl,?_⟩) (by assumption) ?_
  rotate_left
  ·(intro v hv; go_simp; try (with_reducible rfl))
  try simp [Act.put]
  have z0 : w6.cell? ⟨Nb,0,none⟩ = some (zU 0) := cell_of hZ7 0
  have q0 : w6.frozen? ⟨Nb,0,none⟩ = false := frozen_of hZ7 0
  have z1 : w6.cell? ⟨Nb,1,none⟩ = some (zU 0) := cell_of hZ7 1
  have q1 : w6.frozen? ⟨Nb,1,none⟩ = false := frozen_of hZ7 1
  have z2 : w6.cell? ⟨Nb,2,none⟩ = some (zU 0) := cell_of hZ7 2
  have q2 : w6.frozen? ⟨Nb,2,none⟩ = false := frozen_of hZ7 2
  have z3 : w6.cell? ⟨Nb,3,none⟩ = some (zI 0) := cell_of hZ7 3
  have q3 : w6.frozen? ⟨Nb,3,none⟩ = false := frozen_of hZ7 3
  have z4 : w6.cell? ⟨Nb,4,none⟩ = some (zU 0) := cell_of hZ7 4
  have q4 : w6.frozen? ⟨Nb,4,none⟩ = false := frozen_of hZ7 4
  have z5 : w6.cell? ⟨Nb,5,none⟩ = some (.string ⟨#[]⟩) := cell_of hZ7 5
  have q5 : w6.frozen? ⟨Nb,5,none⟩ = false := frozen_of hZ7 5
  have z6 : w6.cell? ⟨Nb,6,none⟩ = some (.slice none 0 0) := cell_of hZ7 6
  have q6 : w6.frozen? ⟨Nb,6,none⟩ = false := frozen_of hZ7 6
  have z7 : w6.cell? ⟨Nb,7,none⟩ = some (zI 0) := cell_of hZ7 7
  have q7 : w6.frozen? ⟨Nb,7,none⟩ = false := frozen_of hZ7 7
  obtain ⟨Y,eY,hY1,hY2,hY3,hY4⟩ := fin8 hZ7 (zU 8) (zU (callX u.x)) (zU 0) (zI 0) (zU 0) (.string ⟨#[]⟩) (.slice none 0 0) (zI u.p)
  have hGY : GB V1 Y := by
   have := hY4 V1 (fun _ => False) (Mv.ofBelow hG7) hB7
   exact this.below (Nat.le_refl _) (fun _ e => e.elim)
  have HCX : Hid (CX w b G fa fe d Y Nb (.slice none 0 0) [] (callX u.x) u.p r) := ⟨X1.out.on HBL.out hGY,hY1,by have := (Array.getElem?_eq_some_iff.1 X1.out.Z).1; omega,Row.nil _ _ _ _,fun k h => by simp [Value.ownBlock] at h,fun m hm => by simp at hm,List.Pairwise.nil⟩
  have HEY : Hid (_ = Y) := eY
  clear eY hY1 hY2 hY3 hY4 hGY hZ7
  refine wpAnyH_ready (rs := [6]) zK (by simp) ?_
  refine AllReadyH.cons rfl (fun K hK => ?_) AllReadyH.nil
  go_simp
  rw [HEY.out]
  refine hK.out _ _ (by rw [← HEY.out]; exact HGS.out w6 hG7 Nb hB7) (fun hHeld7 => ?_)
  clear hK K
  refine wpAnyH_done zK ?_ _
  go_wp2_with fail
  exact call_mid C3 HC3.out ex hS HCX.out HBL.out HGL.out hd HRG.out cE _ _ _ _ _ _ _ _ _ _ _ _ _ _ _ _ _ _ _ _ _ _ _ _ _ _ _ _ _ _ _ _ _
end Go.Proofs.YtkfabnchhjfjjaaGreatDoor
