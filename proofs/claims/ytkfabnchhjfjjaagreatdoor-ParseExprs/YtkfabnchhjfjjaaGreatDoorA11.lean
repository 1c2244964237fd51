import Derived.Test.YtkfabnchhjfjjaaGreatDoorA0
import Derived.Test.YtkfabnchhjfjjaaGreatDoorA10
namespace Go.Proofs.YtkfabnchhjfjjaaGreatDoor
open Go.RowKit
set_option maxRecDepth 100000 in
set_option maxHeartbeats 16000000 in
theorem call_end (C : Code) (hC : cSnd (cSnd (cSnd (cSnd (cSnd (Tryz.f189.body.getD .skip))))) = C) (ex : List Tk → Except Ft (Tr × List Tk)) (hS : Subs ex) {w : World} {b G : Nat} {ts : List Tk} {fa : Int} {fe : Value} {d : Nat} {V : World} {Nb : Nat} {v : Value} {L : List Nd} {q p : Int} (h : CX w b G fa fe d V Nb v L q p ts) (hb : b < w§) (hg : G < w§) (hd : d < 1000) (hq : Rg ⟨8,q,0,0,0,gE,p⟩) (hL : L.length ≤ 1000)
  (cE : ∀ v ts a c,Rdr v b G ts fa fe (d + 1) a c → (∀ t ∈ ts,RgT t) → Calls zG 46 #[zP b] v (OutN b G fa fe (d + 1) v (ex ts))) (g1 g3 g5 g6 g7 g8 g9 g10 g11 g12 g13 g14 g15 g16 g17 g18 g19 g20 g21 g22 g23 g24 g25 g26 g27 g28 g29 g30 g31 g32 g33 g34 g35 : Value) :
  Code.wp Tryz.prog C (bodyPost Tryz.prog Tryz.f189 (OutN b G fa fe d w (match gIn (ex ts) with | .error e => .error e | .ok r => .ok (.mk ⟨8,q,0,0,0,gE,p⟩ (treesOf L ++ [r.1]),r.2)))) { tmps := #[zP b,g1,zP w§,g3,zP Nb,g5,g6,g7,g8,g9,g10,g11,g12,g13,g14,g15,g16,g17,g18,g19,g20,g21,g22,g23,g24,g25,g26,g27,g28,g29,g30,g31,g32,g33,g34,g35],defers := [] } V := by
 have HBL : Hid (b < w§) := hb
 have HGL : Hid (G < w§) := hg
 have HRG : Hid (Rg ⟨8,q,0,0,0,gE,p⟩) := hq
 have HX := h.hid
 have c6 : V.cell? ⟨Nb,6,none⟩ = some v := cell_of h.N 6
 have cI : ∀ v,GB V v → Calls zG 186 #[zP b] v (OutN b G fa fe d v (gIn (ex ts))) := fun v hv => by
  obtain ⟨a,c,hr⟩ := (h.X.on hb hv).R
  exact inBr_any hr hd (ex ts) (fun v a c h' => cE v ts a c h' h.X.T)
 have hgi : ∀ t q,gIn (ex ts) = .ok (t,q) → ∀ x ∈ q,x ∈ ts := gIn_sub (fun t q e => hS ts t q e)
 obtain ⟨O,eO⟩ : ∃ O,gIn (ex ts) = O := ⟨_,rfl⟩
 rw [eO] at cI hgi ⊢
 have HSR : Hid (∀ t q,O = .ok (t,q) → ∀ x ∈ q,x ∈ ts) := hgi
 simp only [cSnd,Tryz.f189,Option.getD_some] at hC
 rw [← hC]
 clear hC h hb hg hq cE eO hgi
 cases O with
 | error f =>
  go_upto_region 7 with fail
  refine wp_region_any zK ?_
  change wpAny _ _ _ _ _ _ _ V.drew
  refine wpAny_take (i := 0) (v := ?_) rfl zK zK zK (fun _ _ _ h => h) (Or.inl ⟨by rfl,?_⟩) ?_
  rotate_left
  ·(intro v; go_simp; try (with_reducible rfl))
  try simp [Act.put]
  refine wpAny_take (i := 2) (v := ?_) rfl zK zK zK (fun _ _ _ h => h) (Or.inl ⟨by rfl,?_⟩) ?_
  rotate_left
  ·(intro v; go_simp; try (with_reducible rfl))
  try simp [Act.put]
  refine wpAny_ready (rs := [1,3]) zK (by simp) (allReady_cons rfl (fun K hK => ?_) (allReady_cons rfl (fun K hK => ?_) AllReady.nil))
  ·go_simp
   refine hK.out _ _ ?_
   clear hK K
   try simp [Act.put]
   refine wpAny_ready (rs := [3]) zK (by simp) (allReady_cons rfl (fun K hK => ?_) AllReady.nil)
   go_simp
   go_at_call 186
   refine (cI _ (by (repeat (first | with_reducible exact GB.refl _ | with_reducible apply GB.drew2 | with_reducible apply GB.alloc)))).mono ?_
   rintro e w1 ⟨rfl,hm⟩
   exact ⟨rfl,rfl,HX.out.X.M.trans ((Mv.ofBelow (F := fun k => k = b) (GB.drew2 (GB.refl V))).trans hm (fun k e => .inl e)) (fun k e => .inl e)⟩
  ·go_simp
   go_at_call 186
   refine (cI _ (by (repeat (first | with_reducible exact GB.refl _ | with_reducible apply GB.drew2 | with_reducible apply GB.alloc)))).mono ?_
   rintro e w1 ⟨rfl,hm⟩
   exact ⟨rfl,rfl,HX.out.X.M.trans ((Mv.ofBelow (F := fun k => k = b) (GB.drew2 (GB.refl V))).trans hm (fun k e => .inl e)) (fun k e => .inl e)⟩
 | ok O =>
  obtain ⟨t3,ts3⟩ := O
  simp only
  go_upto_region 7 with fail
  refine wp_region_any zK ?_
  change wpAny _ _ _ _ _ _ _ V.drew
  refine wpAny_take (i := 0) (v := ?_) rfl zK zK zK (fun _ _ _ h => h) (Or.inl ⟨by rfl,?_⟩) ?_
  rotate_left
  ·(intro v; go_simp; try (with_reducible rfl))
  try simp [Act.put]
  refine wpAny_take (i := 2) (v := ?_) rfl zK zK zK (fun _ _ _ h => h) (Or.inl ⟨by rfl,?_⟩) ?_
  rotate_left
  ·(intro v; go_simp; try (with_reducible rfl))
  try simp [Act.put]
  refine wpAny_ready (rs := [1,3]) zK (by simp) (allReady_cons rfl (fun K hK => ?_) (allReady_cons rfl (fun K hK => ?_) AllReady.nil))
  ·go_simp
   refine hK.out _ _ ?_
   clear hK K
   try simp [Act.put]
   refine wpAny_ready (rs := [3]) zK (by simp) (allReady_cons rfl (fun K hK => ?_) AllReady.nil)
   go_simp
   go_at_call 186
   refine (cI _ (by (repeat (first | with_reducible exact GB.refl _ | with_reducible apply GB.drew2 | with_reducible apply GB.alloc)))).mono ?_
   rintro e w1 ⟨⟨m,rfl,rfl,hl,hk⟩,hr,hm⟩
   obtain ⟨⟨k2,o2,ty2,n2,f2,x2,p2⟩,am2,cm2,ks2⟩ := m
   have HX1 := (HX.out.mv HBL.out ((Mv.ofBelow (F := fun k => k = b) (GB.drew2 (GB.refl V))).trans hm (fun k e => .inl e)) hr (HSR.out _ _ rfl)).hid
   have HLK : Hid (LiesO w1 (.mk ⟨k2,o2,ty2,n2,f2,x2,p2⟩ am2 cm2 ks2) ∧ Bkn (fun k => w§ < k ∧ k < w1§ ∧ k ≠ Nb ∧ v.ownBlock ≠ some k) (.mk ⟨k2,o2,ty2,n2,f2,x2,p2⟩ am2 cm2 ks2) ∧ ∀ x ∈ L,Apt x (.mk ⟨k2,o2,ty2,n2,f2,x2,p2⟩ am2 cm2 ks2)) := ⟨hl,hk.mono fun j hj => by
    have h1 := (Array.getElem?_eq_some_iff.1 HX.out.N).1
    have h2 := HX.out.nb
    have h3 : V§ ≤ j := hj.1
    exact ⟨by omega,hj.2,by omega,fun e => by have := HX.out.row.lt j e; omega⟩,fun x hx' => ⟨V§,(HX.out.ls x hx').2.mono fun j hj => hj.2.1,hk.mono fun j hj => hj.1⟩⟩
   have c6 : w1.cell? ⟨Nb,6,none⟩ = some v := cell_of HX1.out.N 6
   have c6a : (w1.alloc (.cells #[zU k2,zU o2,zU ty2,zI n2,zU f2,.string x2,.slice am2 ks2.length cm2,zI p2] 64)).cell? ⟨Nb,6,none⟩ = some v := cell_of (((below_new w1 (.cells #[zU k2,zU o2,zU ty2,zI n2,zU f2,.string x2,.slice am2 ks2.length cm2,zI p2] 64)).block _ (Array.getElem?_eq_some_iff.1 HX1.out.N).1).trans HX1.out.N) 6
   clear hl hk hr hm
   simp only [Nd.vals,Nd.h,Nd.a,Nd.c,Nd.ks,hdA]
   refine hK.out _ _ ?_
   clear hK K
   try simp [Act.put]
   refine wpAny_ready (rs := [4]) zK (by simp) (allReady_cons rfl (fun K hK => ?_) AllReady.nil)
   go_simp
   refine hK.out _ _ ?_
   clear hK K
   try simp [Act.put]
   refine wpAny_ready (rs := [5]) zK (by simp) (allReady_cons rfl (fun K hK => ?_) AllReady.nil)
   refine step_row rfl (.tmp 29) (.tmp 32) rfl (.mk ⟨k2,o2,ty2,n2,f2,x2,p2⟩ am2 cm2 ks2) HX1.out.row (by simp [Act.eval]) (by simp [Act.eval]) (by omega) ?_
   intro g cap w' hr' h3 h4
   obtain ⟨hNw,hC5⟩ := HX1.out.app HBL.out HGL.out HLK.out.1 HLK.out.2.1 HLK.out.2.2 hr' h3 h4
   have hN5 := hNw.trans HX1.out.N
   have cN : w'.cell? ⟨Nb,6,none⟩ = some v := cell_of hN5 6
   have fN : w'.frozen? ⟨Nb,6,none⟩ = false := frozen_of hN5 6
   have HC5 := hC5.hid
   clear hNw hC5 hN5 hr' h3 h4 c6 c6a
   refine hK.out _ _ ?_
   clear hK K
   try simp [Act.put]
   refine wpAny_take (i := 6) (v := ?_) rfl zK zK zK (fun _ _ _ h => h) (Or.inl ⟨by rfl,?_⟩) ?_
   rotate_left
   ·(intro v; go_simp; try (with_reducible rfl))
   try simp [Act.put]
   refine wpAny_ready (rs := [7]) zK (by simp) (allReady_cons rfl (fun K hK => ?_) AllReady.nil)
   go_simp
   refine hK.out _ _ ?_
   clear hK K
   try simp [Act.put]
   refine wpAny_done zK ?_ _
   obtain ⟨W5,eW5⟩ : ∃ W,w'.setCell ⟨Nb,6,none⟩ (.slice (some ⟨g,0,none⟩) (L.length + 1) cap) = W := ⟨_,rfl⟩
   rw [eW5] at HC5 ⊢
   clear eW5 cN fN
   obtain ⟨Y,eY,hY1,hY2,hY3,hY4,hY5⟩ := HC5.out.fin (by simp) HBL.out HGL.out HRG.out
   have hZ5 := HC5.out.X.Z
   have hN5 := HC5.out.N
   have z0 : W5.cell? ⟨w§,0,none⟩ = some (zU 0) := cell_of hZ5 0
   have q0 : W5.frozen? ⟨w§,0,none⟩ = false := frozen_of hZ5 0
   have e0 : W5.cell? ⟨Nb,0,none⟩ = some (zU 8) := cell_of hN5 0
   have z1 : W5.cell? ⟨w§,1,none⟩ = some (zU 0) := cell_of hZ5 1
   have q1 : W5.frozen? ⟨w§,1,none⟩ = false := frozen_of hZ5 1
   have e1 : W5.cell? ⟨Nb,1,none⟩ = some (zU q) := cell_of hN5 1
   have z2 : W5.cell? ⟨w§,2,none⟩ = some (zU 0) := cell_of hZ5 2
   have q2 : W5.frozen? ⟨w§,2,none⟩ = false := frozen_of hZ5 2
   have e2 : W5.cell? ⟨Nb,2,none⟩ = some (zU 0) := cell_of hN5 2
   have z3 : W5.cell? ⟨w§,3,none⟩ = some (zI 0) := cell_of hZ5 3
   have q3 : W5.frozen? ⟨w§,3,none⟩ = false := frozen_of hZ5 3
   have e3 : W5.cell? ⟨Nb,3,none⟩ = some (zI 0) := cell_of hN5 3
   have z4 : W5.cell? ⟨w§,4,none⟩ = some (zU 0) := cell_of hZ5 4
   have q4 : W5.frozen? ⟨w§,4,none⟩ = false := frozen_of hZ5 4
   have e4 : W5.cell? ⟨Nb,4,none⟩ = some (zU 0) := cell_of hN5 4
   have z5 : W5.cell? ⟨w§,5,none⟩ = some (.string ⟨#[]⟩) := cell_of hZ5 5
   have q5 : W5.frozen? ⟨w§,5,none⟩ = false := frozen_of hZ5 5
   have e5 : W5.cell? ⟨Nb,5,none⟩ = some (.string ⟨#[]⟩) := cell_of hN5 5
   have z6 : W5.cell? ⟨w§,6,none⟩ = some (.slice none 0 0) := cell_of hZ5 6
   have q6 : W5.frozen? ⟨w§,6,none⟩ = false := frozen_of hZ5 6
   have e6 : W5.cell? ⟨Nb,6,none⟩ = some (.slice (some ⟨g,0,none⟩) (L.length + 1) cap) := cell_of hN5 6
   have z7 : W5.cell? ⟨w§,7,none⟩ = some (zI 0) := cell_of hZ5 7
   have q7 : W5.frozen? ⟨w§,7,none⟩ = false := frozen_of hZ5 7
   have e7 : W5.cell? ⟨Nb,7,none⟩ = some (zI p) := cell_of hN5 7
   have HEY : Hid (_ = Y) := eY
   have HY1 : Hid (_) := hY1
   have HYY : Hid (_) := (⟨hY2,hY3,hY4,hY5⟩ : _ ∧ _ ∧ _ ∧ _)
   clear eY hY1 hY2 hY3 hY4 hY5 hZ5 hN5
   go_wp2_with fail
   rw [HEY.out]
   exact bodyPost_ret (results_cell_row rfl _ _ w§ 64 (Nd.mk ⟨8,q,0,0,0,gE,p⟩ (some ⟨g,0,none⟩) cap (L ++ [(.mk ⟨k2,o2,ty2,n2,f2,x2,p2⟩ am2 cm2 ks2)])).vals (0,0) _ rfl HY1.out Tryz.underlying64 rfl zK) rfl ⟨⟨_,rfl,by rw [← treesOf_snoc]; rfl,HYY.out.1,HYY.out.2.1⟩,HYY.out.2.2.1,HYY.out.2.2.2⟩
  ·go_simp
   go_at_call 186
   refine (cI _ (by (repeat (first | with_reducible exact GB.refl _ | with_reducible apply GB.drew2 | with_reducible apply GB.alloc)))).mono ?_
   rintro e w1 ⟨⟨m,rfl,rfl,hl,hk⟩,hr,hm⟩
   obtain ⟨⟨k2,o2,ty2,n2,f2,x2,p2⟩,am2,cm2,ks2⟩ := m
   have HX1 := (HX.out.mv HBL.out ((Mv.ofBelow (F := fun k => k = b) (GB.drew2 (GB.refl V))).trans hm (fun k e => .inl e)) hr (HSR.out _ _ rfl)).hid
   have HLK : Hid (LiesO w1 (.mk ⟨k2,o2,ty2,n2,f2,x2,p2⟩ am2 cm2 ks2) ∧ Bkn (fun k => w§ < k ∧ k < w1§ ∧ k ≠ Nb ∧ v.ownBlock ≠ some k) (.mk ⟨k2,o2,ty2,n2,f2,x2,p2⟩ am2 cm2 ks2) ∧ ∀ x ∈ L,Apt x (.mk ⟨k2,o2,ty2,n2,f2,x2,p2⟩ am2 cm2 ks2)) := ⟨hl,hk.mono fun j hj => by
    have h1 := (Array.getElem?_eq_some_iff.1 HX.out.N).1
    have h2 := HX.out.nb
    have h3 : V§ ≤ j := hj.1
    exact ⟨by omega,hj.2,by omega,fun e => by have := HX.out.row.lt j e; omega⟩,fun x hx' => ⟨V§,(HX.out.ls x hx').2.mono fun j hj => hj.2.1,hk.mono fun j hj => hj.1⟩⟩
   have c6 : w1.cell? ⟨Nb,6,none⟩ = some v := cell_of HX1.out.N 6
   have c6a : (w1.alloc (.cells #[zU k2,zU o2,zU ty2,zI n2,zU f2,.string x2,.slice am2 ks2.length cm2,zI p2] 64)).cell? ⟨Nb,6,none⟩ = some v := cell_of (((below_new w1 (.cells #[zU k2,zU o2,zU ty2,zI n2,zU f2,.string x2,.slice am2 ks2.length cm2,zI p2] 64)).block _ (Array.getElem?_eq_some_iff.1 HX1.out.N).1).trans HX1.out.N) 6
   clear hl hk hr hm
   simp only [Nd.vals,Nd.h,Nd.a,Nd.c,Nd.ks,hdA]
   refine hK.out _ _ ?_
   clear hK K
   try simp [Act.put]
   refine wpAny_ready (rs := [1,4]) zK (by simp) (allReady_cons rfl (fun K hK => ?_) (allReady_cons rfl (fun K hK => ?_) AllReady.nil))
   ·go_simp
    refine hK.out _ _ ?_
    clear hK K
    try simp [Act.put]
    refine wpAny_ready (rs := [4]) zK (by simp) (allReady_cons rfl (fun K hK => ?_) AllReady.nil)
    go_simp
    refine hK.out _ _ ?_
    clear hK K
    try simp [Act.put]
    refine wpAny_ready (rs := [5]) zK (by simp) (allReady_cons rfl (fun K hK => ?_) AllReady.nil)
    refine step_row rfl (.tmp 29) (.tmp 32) rfl (.mk ⟨k2,o2,ty2,n2,f2,x2,p2⟩ am2 cm2 ks2) HX1.out.row (by simp [Act.eval]) (by simp [Act.eval]) (by omega) ?_
    intro g cap w' hr' h3 h4
    obtain ⟨hNw,hC5⟩ := HX1.out.app HBL.out HGL.out HLK.out.1 HLK.out.2.1 HLK.out.2.2 hr' h3 h4
    have hN5 := hNw.trans HX1.out.N
    have cN : w'.cell? ⟨Nb,6,none⟩ = some v := cell_of hN5 6
    have fN : w'.frozen? ⟨Nb,6,none⟩ = false := frozen_of hN5 6
    have HC5 := hC5.hid
    clear hNw hC5 hN5 hr' h3 h4 c6 c6a
    refine hK.out _ _ ?_
    clear hK K
    try simp [Act.put]
    refine wpAny_take (i := 6) (v := ?_) rfl zK zK zK (fun _ _ _ h => h) (Or.inl ⟨by rfl,?_⟩) ?_
    rotate_left
    ·(intro v; go_simp; try (with_reducible rfl))
    try simp [Act.put]
    refine wpAny_ready (rs := [7]) zK (by simp) (allReady_cons rfl (fun K hK => ?_) AllReady.nil)
    go_simp
    refine hK.out _ _ ?_
    clear hK K
    try simp [Act.put]
    refine wpAny_done zK ?_ _
    obtain ⟨W5,eW5⟩ : ∃ W,w'.setCell ⟨Nb,6,none⟩ (.slice (some ⟨g,0,none⟩) (L.length + 1) cap) = W := ⟨_,rfl⟩
    rw [eW5] at HC5 ⊢
    clear eW5 cN fN
    obtain ⟨Y,eY,hY1,hY2,hY3,hY4,hY5⟩ := HC5.out.fin (by simp) HBL.out HGL.out HRG.out
    have hZ5 := HC5.out.X.Z
    have hN5 := HC5.out.N
    have z0 : W5.cell? ⟨w§,0,none⟩ = some (zU 0) := cell_of hZ5 0
    have q0 : W5.frozen? ⟨w§,0,none⟩ = false := frozen_of hZ5 0
    have e0 : W5.cell? ⟨Nb,0,none⟩ = some (zU 8) := cell_of hN5 0
    have z1 : W5.cell? ⟨w§,1,none⟩ = some (zU 0) := cell_of hZ5 1
    have q1 : W5.frozen? ⟨w§,1,none⟩ = false := frozen_of hZ5 1
    have e1 : W5.cell? ⟨Nb,1,none⟩ = some (zU q) := cell_of hN5 1
    have z2 : W5.cell? ⟨w§,2,none⟩ = some (zU 0) := cell_of hZ5 2
    have q2 : W5.frozen? ⟨w§,2,none⟩ = false := frozen_of hZ5 2
    have e2 : W5.cell? ⟨Nb,2,none⟩ = some (zU 0) := cell_of hN5 2
    have z3 : W5.cell? ⟨w§,3,none⟩ = some (zI 0) := cell_of hZ5 3
    have q3 : W5.frozen? ⟨w§,3,none⟩ = false := frozen_of hZ5 3
    have e3 : W5.cell? ⟨Nb,3,none⟩ = some (zI 0) := cell_of hN5 3
    have z4 : W5.cell? ⟨w§,4,none⟩ = some (zU 0) := cell_of hZ5 4
    have q4 : W5.frozen? ⟨w§,4,none⟩ = false := frozen_of hZ5 4
    have e4 : W5.cell? ⟨Nb,4,none⟩ = some (zU 0) := cell_of hN5 4
    have z5 : W5.cell? ⟨w§,5,none⟩ = some (.string ⟨#[]⟩) := cell_of hZ5 5
    have q5 : W5.frozen? ⟨w§,5,none⟩ = false := frozen_of hZ5 5
    have e5 : W5.cell? ⟨Nb,5,none⟩ = some (.string ⟨#[]⟩) := cell_of hN5 5
    have z6 : W5.cell? ⟨w§,6,none⟩ = some (.slice none 0 0) := cell_of hZ5 6
    have q6 : W5.frozen? ⟨w§,6,none⟩ = false := frozen_of hZ5 6
    have e6 : W5.cell? ⟨Nb,6,none⟩ = some (.slice (some ⟨g,0,none⟩) (L.length + 1) cap) := cell_of hN5 6
    have z7 : W5.cell? ⟨w§,7,none⟩ = some (zI 0) := cell_of hZ5 7
    have q7 : W5.frozen? ⟨w§,7,none⟩ = false := frozen_of hZ5 7
    have e7 : W5.cell? ⟨Nb,7,none⟩ = some (zI p) := cell_of hN5 7
    have HEY : Hid (_ = Y) := eY
    have HY1 : Hid (_) := hY1
    have HYY : Hid (_) := (⟨hY2,hY3,hY4,hY5⟩ : _ ∧ _ ∧ _ ∧ _)
    clear eY hY1 hY2 hY3 hY4 hY5 hZ5 hN5
    go_wp2_with fail
    rw [HEY.out]
    exact bodyPost_ret (results_cell_row rfl _ _ w§ 64 (Nd.mk ⟨8,q,0,0,0,gE,p⟩ (some ⟨g,0,none⟩) cap (L ++ [(.mk ⟨k2,o2,ty2,n2,f2,x2,p2⟩ am2 cm2 ks2)])).vals (0,0) _ rfl HY1.out Tryz.underlying64 rfl zK) rfl ⟨⟨_,rfl,by rw [← treesOf_snoc]; rfl,HYY.out.1,HYY.out.2.1⟩,HYY.out.2.2.1,HYY.out.2.2.2⟩
   ·go_simp
    refine hK.out _ _ ?_
    clear hK K
    try simp [Act.put]
    refine wpAny_ready (rs := [1]) zK (by simp) (allReady_cons rfl (fun K hK => ?_) AllReady.nil)
    go_simp
    refine hK.out _ _ ?_
    clear hK K
    try simp [Act.put]
    refine wpAny_ready (rs := [5]) zK (by simp) (allReady_cons rfl (fun K hK => ?_) AllReady.nil)
    refine step_row rfl (.tmp 29) (.tmp 32) rfl (.mk ⟨k2,o2,ty2,n2,f2,x2,p2⟩ am2 cm2 ks2) HX1.out.row (by simp [Act.eval]) (by simp [Act.eval]) (by omega) ?_
    intro g cap w' hr' h3 h4
    obtain ⟨hNw,hC5⟩ := HX1.out.app HBL.out HGL.out HLK.out.1 HLK.out.2.1 HLK.out.2.2 hr' h3 h4
    have hN5 := hNw.trans HX1.out.N
    have cN : w'.cell? ⟨Nb,6,none⟩ = some v := cell_of hN5 6
    have fN : w'.frozen? ⟨Nb,6,none⟩ = false := frozen_of hN5 6
    have HC5 := hC5.hid
    clear hNw hC5 hN5 hr' h3 h4 c6 c6a
    refine hK.out _ _ ?_
    clear hK K
    try simp [Act.put]
    refine wpAny_take (i := 6) (v := ?_) rfl zK zK zK (fun _ _ _ h => h) (Or.inl ⟨by rfl,?_⟩) ?_
    rotate_left
    ·(intro v; go_simp; try (with_reducible rfl))
    try simp [Act.put]
    refine wpAny_ready (rs := [7]) zK (by simp) (allReady_cons rfl (fun K hK => ?_) AllReady.nil)
    go_simp
    refine hK.out _ _ ?_
    clear hK K
    try simp [Act.put]
    refine wpAny_done zK ?_ _
    obtain ⟨W5,eW5⟩ : ∃ W,w'.setCell ⟨Nb,6,none⟩ (.slice (some ⟨g,0,none⟩) (L.length + 1) cap) = W := ⟨_,rfl⟩
    rw [eW5] at HC5 ⊢
    clear eW5 cN fN
    obtain ⟨Y,eY,hY1,hY2,hY3,hY4,hY5⟩ := HC5.out.fin (by simp) HBL.out HGL.out HRG.out
    have hZ5 := HC5.out.X.Z
    have hN5 := HC5.out.N
    have z0 : W5.cell? ⟨w§,0,none⟩ = some (zU 0) := cell_of hZ5 0
    have q0 : W5.frozen? ⟨w§,0,none⟩ = false := frozen_of hZ5 0
    have e0 : W5.cell? ⟨Nb,0,none⟩ = some (zU 8) := cell_of hN5 0
    have z1 : W5.cell? ⟨w§,1,none⟩ = some (zU 0) := cell_of hZ5 1
    have q1 : W5.frozen? ⟨w§,1,none⟩ = false := frozen_of hZ5 1
    have e1 : W5.cell? ⟨Nb,1,none⟩ = some (zU q) := cell_of hN5 1
    have z2 : W5.cell? ⟨w§,2,none⟩ = some (zU 0) := cell_of hZ5 2
    have q2 : W5.frozen? ⟨w§,2,none⟩ = false := frozen_of hZ5 2
    have e2 : W5.cell? ⟨Nb,2,none⟩ = some (zU 0) := cell_of hN5 2
    have z3 : W5.cell? ⟨w§,3,none⟩ = some (zI 0) := cell_of hZ5 3
    have q3 : W5.frozen? ⟨w§,3,none⟩ = false := frozen_of hZ5 3
    have e3 : W5.cell? ⟨Nb,3,none⟩ = some (zI 0) := cell_of hN5 3
    have z4 : W5.cell? ⟨w§,4,none⟩ = some (zU 0) := cell_of hZ5 4
    have q4 : W5.frozen? ⟨w§,4,none⟩ = false := frozen_of hZ5 4
    have e4 : W5.cell? ⟨Nb,4,none⟩ = some (zU 0) := cell_of hN5 4
    have z5 : W5.cell? ⟨w§,5,none⟩ = some (.string ⟨#[]⟩) := cell_of hZ5 5
    have q5 : W5.frozen? ⟨w§,5,none⟩ = false := frozen_of hZ5 5
    have e5 : W5.cell? ⟨Nb,5,none⟩ = some (.string ⟨#[]⟩) := cell_of hN5 5
    have z6 : W5.cell? ⟨w§,6,none⟩ = some (.slice none 0 0) := cell_of hZ5 6
    have q6 : W5.frozen? ⟨w§,6,none⟩ = false := frozen_of hZ5 6
    have e6 : W5.cell? ⟨Nb,6,none⟩ = some (.slice (some ⟨g,0,none⟩) (L.length + 1) cap) := cell_of hN5 6
    have z7 : W5.cell? ⟨w§,7,none⟩ = some (zI 0) := cell_of hZ5 7
    have q7 : W5.frozen? ⟨w§,7,none⟩ = false := frozen_of hZ5 7
    have e7 : W5.cell? ⟨Nb,7,none⟩ = some (zI p) := cell_of hN5 7
    have HEY : Hid (_ = Y) := eY
    have HY1 : Hid (_) := hY1
    have HYY : Hid (_) := (⟨hY2,hY3,hY4,hY5⟩ : _ ∧ _ ∧ _ ∧ _)
    clear eY hY1 hY2 hY3 hY4 hY5 hZ5 hN5
    go_wp2_with fail
    rw [HEY.out]
    exact bodyPost_ret (results_cell_row rfl _ _ w§ 64 (Nd.mk ⟨8,q,0,0,0,gE,p⟩ (some ⟨g,0,none⟩) cap (L ++ [(.mk ⟨k2,o2,ty2,n2,f2,x2,p2⟩ am2 cm2 ks2)])).vals (0,0) _ rfl HY1.out Tryz.underlying64 rfl zK) rfl ⟨⟨_,rfl,by rw [← treesOf_snoc]; rfl,HYY.out.1,HYY.out.2.1⟩,HYY.out.2.2.1,HYY.out.2.2.2⟩
end Go.Proofs.YtkfabnchhjfjjaaGreatDoor
