import Derived.Test.YtkfabnchhjfjjaaGreatDoorA0
import Derived.Test.YtkfabnchhjfjjaaGreatDoorA6
import Derived.Test.YtkfabnchhjfjjaaGreatDoorA12
namespace Go.Proofs.YtkfabnchhjfjjaaGreatDoor
open Go.RowKit
def gHas (ts : List Tk) : Except Ft (Tr × List Tk) := do
 let (u,r) ← gStep ts
 let y ← gLook r
 gNeed (decide (1 ≤ fieldX y.x ∧ fieldX y.x ≤ 3)) 130 r
 let (_,r) ← gStep r
 .ok (.mk ⟨4,0,0,0,fieldX y.x,gE,u.p⟩ [],r)
theorem fieldX_rg (x : ByteArray) : 0 ≤ fieldX x ∧ fieldX x ≤ 6 := by
 unfold fieldX
 repeat' split
 all_goals omega
theorem RgT.has {t : Tk} (h : RgT t) {f : Int} (hf : 0 ≤ f ∧ f ≤ 6) : Rg ⟨4,0,0,0,f,gE,t.p⟩ := by
 have := h.p0; have := h.p1
 constructor <;> first | omega | (show (0 : Nat) ≤ _; omega) | (simp only; omega) | simp
set_option maxRecDepth 100000 in
theorem has_any {w : World} {b G : Nat} {ts : List Tk} {fa : Int} {fe : Value} {d : Nat} {a : Option Addr} {c : Nat} (h : Rdr w b G ts fa fe d a c) (ht : ∀ t ∈ ts,RgT t) : Calls zG 187 #[zP b] w (OutN b G fa fe d w (gHas ts)) := by
 have hb0 := below_new w (.cells zNo 64)
 have h0 := h.on hb0
 have HB0 : Hid (Below w§ w (w.alloc (.cells zNo 64))) := hb0
 have HK0 : Hid ((w.alloc (.cells zNo 64)).heap[w§]? = some (.cells zNo 64 (0,0))) := heap_new _ _
 have HH0 := h0.hid
 have HBL : Hid (b < w§) := h.lt
 have HGL : Hid (G < w§) := h.gl
 clear h hb0
 cases ts with
 | nil =>
  have cS := step_no h0
  clear h0
  go_enter Tryz.func187,Tryz.ntmps187
  go_wp2_with fail
  refine cS.mono ?_
  rintro e w1 ⟨rfl,hb⟩
  exact ⟨rfl,rfl,Mv.ofBelow (below2 HB0.out hb)⟩
 | cons u ts =>
 have cS := step_ok h0
 have hf4 := fun v => field82_4 u v
 clear h0
 cases ts with
 | nil =>
  go_enter Tryz.func187,Tryz.ntmps187
  go_wp2_with fail
  refine cS.mono ?_
  rintro e w1 ⟨rfl,⟨a1,c1,hr1⟩,hm1⟩
  have HM1 : Hid (Mv w w1 (fun k => k = b)) := (Mv.ofBelow HB0.out).trans hm1 (fun k e => .inl e)
  have cL := look_no hr1
  clear cS hr1 hm1
  go_wp2_with fail
  refine cL.mono ?_
  rintro e w2 ⟨rfl,hb⟩
  exact ⟨rfl,rfl,HM1.out.trans (Mv.ofBelow hb) (fun k e => .inl e)⟩
 | cons y ts =>
 have HT : Hid (Rg ⟨4,0,0,0,fieldX y.x,gE,u.p⟩) := (ht u (by simp)).has (fieldX_rg y.x)
 have cF := fun v => fieldOf_any y v
 have cM := fun v => lack_any (fieldX y.x) v
 have eG : gHas (u :: y :: ts) = if 1 ≤ fieldX y.x ∧ fieldX y.x ≤ 3 then .ok (.mk ⟨4,0,0,0,fieldX y.x,gE,u.p⟩ [],ts) else .error (.tok 130 y.p) := by
  by_cases e : 1 ≤ fieldX y.x ∧ fieldX y.x ≤ 3
  ·simp [gHas,gStep,gLook,gNeed,bind,Except.bind,e]
  ·have e2 : decide (1 ≤ fieldX y.x ∧ fieldX y.x ≤ 3) = false := decide_eq_false e
   simp only [gHas,gStep,gLook,gNeed,bind,Except.bind,e2,if_neg e,Bool.false_eq_true,if_false]
 rw [eG]
 obtain ⟨f,ef⟩ : ∃ f,fieldX y.x = f := ⟨_,rfl⟩
 rw [ef]
 rw [ef] at HT cF cM
 clear eG ef ht
 by_cases e : 1 ≤ f ∧ f ≤ 3
 ·rw [if_pos e]
  rw [decide_eq_true e] at cM
  clear e
  go_enter Tryz.func187,Tryz.ntmps187
  go_wp2_with fail
  refine cS.mono ?_
  rintro e w1 ⟨rfl,⟨a1,c1,hr1⟩,hm1⟩
  have HM1 : Hid (Mv w w1 (fun k => k = b)) := (Mv.ofBelow HB0.out).trans hm1 (fun k e => .inl e)
  have HK1 : Hid (w1.heap[w§]? = some (.cells zNo 64 (0,0))) := (hm1.block _ (Array.getElem?_eq_some_iff.1 HK0.out).1 (fun e => by have := HBL.out; omega)).trans HK0.out
  have HR1 := hr1.hid
  have cL := look_ok hr1
  clear cS hr1 hm1
  go_wp2_with fail
  refine cL.mono ?_
  rintro e w2 ⟨rfl,hb⟩
  have HM2 : Hid (Mv w w2 (fun k => k = b)) := HM1.out.trans (Mv.ofBelow hb) (fun k e => .inl e)
  have HK2 : Hid (w2.heap[w§]? = some (.cells zNo 64 (0,0))) := (hb.block _ (Array.getElem?_eq_some_iff.1 HK1.out).1).trans HK1.out
  have HR2 := (HR1.out.on hb).hid
  clear hb cL
  go_wp2_with fail
  refine (cF _).mono ?_
  rintro e w3 ⟨rfl,hb⟩
  have HM3 : Hid (Mv w w3 (fun k => k = b)) := HM2.out.trans (Mv.ofBelow hb) (fun k e => .inl e)
  have HK3 : Hid (w3.heap[w§]? = some (.cells zNo 64 (0,0))) := (hb.block _ (Array.getElem?_eq_some_iff.1 HK2.out).1).trans HK2.out
  have cT := step_ok (HR2.out.on hb)
  have cN := need_ok w3 b 130
  have cM3 := cM w3
  clear hb cF cM
  go_wp2_with first | (go_at_call 72; refine cN.mono ?_; rintro e w4 ⟨rfl,e4⟩; obtain rfl := e4.symm) | (go_at_call 195; refine cM3.mono ?_; rintro e w4 ⟨rfl,e4⟩; obtain rfl := e4.symm)
  refine cT.mono ?_
  rintro e w4 ⟨rfl,⟨a3,c3,hr3⟩,hm3⟩
  have HM4 : Hid (Mv w w4 (fun k => k = b)) := HM3.out.trans hm3 (fun k e => .inl e)
  have HK4 : Hid (w4.heap[w§]? = some (.cells zNo 64 (0,0))) := (hm3.block _ (Array.getElem?_eq_some_iff.1 HK3.out).1 (fun e => by have := HBL.out; omega)).trans HK3.out
  have HRD := hr3.hid
  have z0 : w4.cell? ⟨w§,0,none⟩ = some (zU 0) := cell_of HK4.out 0
  have q0 : w4.frozen? ⟨w§,0,none⟩ = false := frozen_of HK4.out 0
  have z1 : w4.cell? ⟨w§,1,none⟩ = some (zU 0) := cell_of HK4.out 1
  have q1 : w4.frozen? ⟨w§,1,none⟩ = false := frozen_of HK4.out 1
  have z2 : w4.cell? ⟨w§,2,none⟩ = some (zU 0) := cell_of HK4.out 2
  have q2 : w4.frozen? ⟨w§,2,none⟩ = false := frozen_of HK4.out 2
  have z3 : w4.cell? ⟨w§,3,none⟩ = some (zI 0) := cell_of HK4.out 3
  have q3 : w4.frozen? ⟨w§,3,none⟩ = false := frozen_of HK4.out 3
  have z4 : w4.cell? ⟨w§,4,none⟩ = some (zU 0) := cell_of HK4.out 4
  have q4 : w4.frozen? ⟨w§,4,none⟩ = false := frozen_of HK4.out 4
  have z5 : w4.cell? ⟨w§,5,none⟩ = some (.string ⟨#[]⟩) := cell_of HK4.out 5
  have q5 : w4.frozen? ⟨w§,5,none⟩ = false := frozen_of HK4.out 5
  have z6 : w4.cell? ⟨w§,6,none⟩ = some (.slice none 0 0) := cell_of HK4.out 6
  have q6 : w4.frozen? ⟨w§,6,none⟩ = false := frozen_of HK4.out 6
  have z7 : w4.cell? ⟨w§,7,none⟩ = some (zI 0) := cell_of HK4.out 7
  have q7 : w4.frozen? ⟨w§,7,none⟩ = false := frozen_of HK4.out 7
  obtain ⟨Y,eY,hY1,hY2,hY3,hY4⟩ := fin8 HK4.out (zU 4) (zU 0) (zU 0) (zI 0) (zU f) (.string ⟨#[]⟩) (.slice none 0 0) (zI u.p)
  have HY1 : Hid (Y.heap[w§]? = some (.cells (Nd.mk ⟨4,0,0,0,f,gE,u.p⟩ none 0 []).vals 64 (0,0))) := hY1
  have HEY : Hid (_ = Y) := eY
  have HRY : Hid (∃ a c,Rdr Y b G ts fa fe d a c) := ⟨a3,c3,HRD.out.blk (hY3 _ (by have := HBL.out; omega)) (hY3 _ (by have := HGL.out; omega)) (by omega)⟩
  have HMY : Hid (Mv w Y (fun k => k = b)) := hY4 _ _ HM4.out (Nat.le_refl _)
  clear cT hr3 hm3 eY hY1 hY2 hY3 hY4
  go_wp2_with fail
  rw [HEY.out]
  exact bodyPost_ret (results_cell_row rfl _ _ w§ 64 (Nd.mk ⟨4,0,0,0,f,gE,u.p⟩ none 0 []).vals (0,0) _ rfl HY1.out Tryz.underlying64 rfl zK) rfl ⟨⟨_,rfl,rfl,liesO0 _ HT.out,bkn0 _ _⟩,HRY.out,HMY.out⟩
 ·rw [if_neg e]
  rw [decide_eq_false e] at cM
  clear e
  go_enter Tryz.func187,Tryz.ntmps187
  go_wp2_with fail
  refine cS.mono ?_
  rintro e w1 ⟨rfl,⟨a1,c1,hr1⟩,hm1⟩
  have HM1 : Hid (Mv w w1 (fun k => k = b)) := (Mv.ofBelow HB0.out).trans hm1 (fun k e => .inl e)
  have HR1 := hr1.hid
  have cL := look_ok hr1
  clear cS hr1 hm1
  go_wp2_with fail
  refine cL.mono ?_
  rintro e w2 ⟨rfl,hb⟩
  have HM2 : Hid (Mv w w2 (fun k => k = b)) := HM1.out.trans (Mv.ofBelow hb) (fun k e => .inl e)
  have HR2 := (HR1.out.on hb).hid
  clear hb cL
  go_wp2_with fail
  refine (cF _).mono ?_
  rintro e w3 ⟨rfl,hb⟩
  have HM3 : Hid (Mv w w3 (fun k => k = b)) := HM2.out.trans (Mv.ofBelow hb) (fun k e => .inl e)
  have cN := need_tok (HR2.out.on hb) 130
  have cM3 := cM w3
  clear hb cF cM
  go_wp2_with (go_at_call 195; refine cM3.mono ?_; rintro e w4 ⟨rfl,e4⟩; obtain rfl := e4.symm)
  refine cN.mono ?_
  rintro e w4 ⟨rfl,hb4⟩
  exact ⟨rfl,rfl,HM3.out.trans (Mv.ofBelow hb4) (fun k e => .inl e)⟩
set_option linter.unusedVariables false
theorem BX.ret {w : World} {b G : Nat} {fa : Int} {fe : Value} {d : Nat} {W : World} {k2 o2 ty2 n2 f2 p2 : Int} {x2 : ByteArray} {am2 : Option Addr} {cm2 : Nat} {ks2 : List Nd} {bs : List (Nat × Nd)} {ts : List Tk} (h : BX w b G fa fe d W bs ts) (hb : b < w§) (hg : G < w§) (hl : LiesO W (.mk ⟨k2,o2,ty2,n2,f2,x2,p2⟩ am2 cm2 ks2)) (hk : Bkn (fun k => w§ < k ∧ k < W§) (.mk ⟨k2,o2,ty2,n2,f2,x2,p2⟩ am2 cm2 ks2)) :
  W.heap[w§]? = some (.cells zNo 64 (0,0)) ∧ ∃ Y,((((((((W.setCell ⟨w§,0,none⟩ (zU k2)).setCell ⟨w§,1,none⟩ (zU o2)).setCell ⟨w§,2,none⟩ (zU ty2)).setCell ⟨w§,3,none⟩ (zI n2)).setCell ⟨w§,4,none⟩ (zU f2)).setCell ⟨w§,5,none⟩ (.string x2)).setCell ⟨w§,6,none⟩ (.slice am2 ks2.length cm2)).setCell ⟨w§,7,none⟩ (zI p2)) = Y ∧ Y.heap[w§]? = some (.cells (Nd.mk ⟨k2,o2,ty2,n2,f2,x2,p2⟩ am2 cm2 ks2).vals 64 (0,0)) ∧ LiesO Y (.mk ⟨k2,o2,ty2,n2,f2,x2,p2⟩ am2 cm2 ks2) ∧ Bkn (fun k => w§ ≤ k ∧ k < Y§) (.mk ⟨k2,o2,ty2,n2,f2,x2,p2⟩ am2 cm2 ks2) ∧ (∃ a c,Rdr Y b G ts fa fe d a c) ∧ Mv w Y (fun k => k = b) := by
 obtain ⟨Y,eY,hY1,hY2,hY3,hY4⟩ := fin8 h.Z (zU k2) (zU o2) (zU ty2) (zI n2) (zU f2) (.string x2) (.slice am2 ks2.length cm2) (zI p2)
 refine ⟨h.Z,Y,eY,hY1,hl.bkn hk fun j hj => hY3 j (by omega),hk.mono fun j hj => by omega,?_,hY4 _ _ h.M (Nat.le_refl _)⟩
 obtain ⟨a,c,hr⟩ := h.R
 exact ⟨a,c,hr.blk (hY3 _ (by omega)) (hY3 _ (by omega)) (by omega)⟩
theorem gHas_sub (ts : List Tk) : ∀ t q,gHas ts = .ok (t,q) → ∀ x ∈ q,x ∈ ts := by
 intro t q h x hx
 unfold gHas at h
 obtain ⟨⟨_,r1⟩,h1,h2⟩ := bind_ok h
 obtain ⟨_,h3,h4⟩ := bind_ok h2
 obtain ⟨_,h5,h6⟩ := bind_ok h4
 obtain ⟨⟨_,r2⟩,h7,h8⟩ := bind_ok h6
 cases h8
 exact gStep_sub h1 _ (gStep_sub h7 _ hx)
set_option maxRecDepth 100000 in
set_option maxHeartbeats 8000000 in
theorem one_has (ex : List Tk → Except Ft (Tr × List Tk)) (hS : Subs ex) {w : World} {b G : Nat} {t : Tk} {ts : List Tk} {fa : Int} {fe : Value} {d : Nat} {a : Option Addr} {c : Nat} (h : Rdr w b G (t :: ts) fa fe d a c) (hT : ∀ x ∈ t :: ts,RgT x) (hd : d < 1000) (e1 : (t.x.toList == [40]) = false) (e2 : (t.x.toList == [104,97,115]) = true)
  (cE : d < 24 → ∀ v ts a c,Rdr v b G ts fa fe (d + 1) a c → (∀ t ∈ ts,RgT t) → Calls zG 46 #[zP b] v (OutN b G fa fe (d + 1) v (ex ts))) :
  Calls zG 184 #[zP b] w (OutN b G fa fe d w (gHas (t :: ts))) := by
 have hb0 := below_new w (.cells zNo 64)
 have h0 := h.on hb0
 have HBL : Hid (b < w§) := h.lt
 have HGL : Hid (G < w§) := h.gl
 have HTT : Hid (∀ x ∈ t :: ts,RgT x) := hT
 have X0 : BX w b G fa fe d (w.alloc (.cells zNo 64)) [] (t :: ts) := ⟨Mv.ofBelow hb0,heap_new _ _,fun p hp => by simp at hp,⟨a,c,h0⟩,hT⟩
 have X0 := X0.hid
 have cL := look_ok h0
 clear h hb0 h0 hT
 obtain ⟨O,eO⟩ : ∃ O,gHas (t :: ts) = O := ⟨_,rfl⟩
 have HSR : Hid (∀ t' q,O = .ok (t',q) → ∀ x ∈ q,x ∈ t :: ts) := fun t' q e => gHas_sub (t :: ts) t' q (eO.trans e)
 have cC : ∀ v a c,Rdr v b G (t :: ts) fa fe d a c → Calls zG 187 #[zP b] v (OutN b G fa fe d v O) := fun v a c h => by rw [← eO]; exact has_any h HTT.out
 rw [eO]
 clear eO
 cases O with
 | error f =>
  go_enter Tryz.func184,Tryz.ntmps184
  go_wp2_with fail
  refine cL.mono ?_
  rintro e w1 ⟨rfl,hb1⟩
  have X1 := (X0.out.on HBL.out hb1).on HBL.out (below_new w1 (.cells #[zU t.k,.string t.x,zU t.ty,zI t.n,zI t.p] 82))
  have HK1 : Hid ((w1.alloc (.cells #[zU t.k,.string t.x,zU t.ty,zI t.n,zI t.p] 82)).heap[w1§]? = some (.cells #[zU t.k,.string t.x,zU t.ty,zI t.n,zI t.p] 82 (0,0))) := heap_new _ _
  obtain ⟨Tb,eTb⟩ : ∃ T,w1§ = T := ⟨_,rfl⟩
  obtain ⟨V1,eV1⟩ : ∃ V,w1.alloc (.cells #[zU t.k,.string t.x,zU t.ty,zI t.n,zI t.p] 82) = V := ⟨_,rfl⟩
  have HV1 : Hid (w1.alloc (.cells #[zU t.k,.string t.x,zU t.ty,zI t.n,zI t.p] 82) = V1) := eV1
  have HTb : Hid (w§ < Tb) := by rw [← eTb]; exact Nat.lt_of_lt_of_le (Array.getElem?_eq_some_iff.1 X0.out.Z).1 hb1.size
  rw [eV1] at X1 HK1
  rw [eTb] at HK1
  have X1 := X1.hid
  have t0 : V1.cell? ⟨Tb,0,none⟩ = some (zU t.k) := cell_of HK1.out 0
  have t1 : V1.cell? ⟨Tb,1,none⟩ = some (.string t.x) := cell_of HK1.out 1
  have t2 : V1.cell? ⟨Tb,2,none⟩ = some (zU t.ty) := cell_of HK1.out 2
  have t3 : V1.cell? ⟨Tb,3,none⟩ = some (zI t.n) := cell_of HK1.out 3
  have t4 : V1.cell? ⟨Tb,4,none⟩ = some (zI t.p) := cell_of HK1.out 4
  have cx1 : (w1.alloc (.cells #[zU t.k,.string t.x,zU t.ty,zI t.n,zI t.p] 82)).cell? ⟨Tb,1,none⟩ = some (.string t.x) := by rw [eV1]; exact t1
  clear cL hb1 X0 eV1
  unfold tkA
  go_wp2_with fail
  try rw [HV1.out]
  clear HV1 cx1
  obtain ⟨a9,c9,h9⟩ := X1.out.R
  refine (cC V1 a9 c9 h9).mono ?_
  rintro e w2 ⟨rfl,hm⟩
  exact ⟨rfl,rfl,X1.out.M.trans hm (fun k e => .inl e)⟩
 | ok O =>
  obtain ⟨t3x,ts3⟩ := O
  go_enter Tryz.func184,Tryz.ntmps184
  go_wp2_with fail
  refine cL.mono ?_
  rintro e w1 ⟨rfl,hb1⟩
  have X1 := (X0.out.on HBL.out hb1).on HBL.out (below_new w1 (.cells #[zU t.k,.string t.x,zU t.ty,zI t.n,zI t.p] 82))
  have HK1 : Hid ((w1.alloc (.cells #[zU t.k,.string t.x,zU t.ty,zI t.n,zI t.p] 82)).heap[w1§]? = some (.cells #[zU t.k,.string t.x,zU t.ty,zI t.n,zI t.p] 82 (0,0))) := heap_new _ _
  obtain ⟨Tb,eTb⟩ : ∃ T,w1§ = T := ⟨_,rfl⟩
  obtain ⟨V1,eV1⟩ : ∃ V,w1.alloc (.cells #[zU t.k,.string t.x,zU t.ty,zI t.n,zI t.p] 82) = V := ⟨_,rfl⟩
  have HV1 : Hid (w1.alloc (.cells #[zU t.k,.string t.x,zU t.ty,zI t.n,zI t.p] 82) = V1) := eV1
  have HTb : Hid (w§ < Tb) := by rw [← eTb]; exact Nat.lt_of_lt_of_le (Array.getElem?_eq_some_iff.1 X0.out.Z).1 hb1.size
  rw [eV1] at X1 HK1
  rw [eTb] at HK1
  have X1 := X1.hid
  have t0 : V1.cell? ⟨Tb,0,none⟩ = some (zU t.k) := cell_of HK1.out 0
  have t1 : V1.cell? ⟨Tb,1,none⟩ = some (.string t.x) := cell_of HK1.out 1
  have t2 : V1.cell? ⟨Tb,2,none⟩ = some (zU t.ty) := cell_of HK1.out 2
  have t3 : V1.cell? ⟨Tb,3,none⟩ = some (zI t.n) := cell_of HK1.out 3
  have t4 : V1.cell? ⟨Tb,4,none⟩ = some (zI t.p) := cell_of HK1.out 4
  have cx1 : (w1.alloc (.cells #[zU t.k,.string t.x,zU t.ty,zI t.n,zI t.p] 82)).cell? ⟨Tb,1,none⟩ = some (.string t.x) := by rw [eV1]; exact t1
  clear cL hb1 X0 eV1
  unfold tkA
  go_wp2_with fail
  try rw [HV1.out]
  clear HV1 cx1
  obtain ⟨a9,c9,h9⟩ := X1.out.R
  refine (cC V1 a9 c9 h9).mono ?_
  rintro e w2 ⟨⟨m,rfl,rfl,hl,hk⟩,hr,hm⟩
  obtain ⟨⟨k2,o2,ty2,n2,f2,x2,p2⟩,am2,cm2,ks2⟩ := m
  have hsz := (Array.getElem?_eq_some_iff.1 X1.out.Z).1
  have XR := (X1.out.mv HBL.out hm hr (HSR.out _ _ rfl)).hid
  have hk : Bkn (fun k => w§ < k ∧ k < w2§) (.mk ⟨k2,o2,ty2,n2,f2,x2,p2⟩ am2 cm2 ks2) := hk.mono fun j hj => ⟨by omega,hj.2⟩
  clear hm hr hsz h9 t0 t1 t2 t3 t4 cC
  obtain ⟨hZ,Y,eY,hY1,hY2,hY3,hY4,hY5⟩ := XR.out.ret HBL.out HGL.out hl hk
  have z0 : w2.cell? ⟨w§,0,none⟩ = some (zU 0) := cell_of hZ 0
  have q0 : w2.frozen? ⟨w§,0,none⟩ = false := frozen_of hZ 0
  have z1 : w2.cell? ⟨w§,1,none⟩ = some (zU 0) := cell_of hZ 1
  have q1 : w2.frozen? ⟨w§,1,none⟩ = false := frozen_of hZ 1
  have z2 : w2.cell? ⟨w§,2,none⟩ = some (zU 0) := cell_of hZ 2
  have q2 : w2.frozen? ⟨w§,2,none⟩ = false := frozen_of hZ 2
  have z3 : w2.cell? ⟨w§,3,none⟩ = some (zI 0) := cell_of hZ 3
  have q3 : w2.frozen? ⟨w§,3,none⟩ = false := frozen_of hZ 3
  have z4 : w2.cell? ⟨w§,4,none⟩ = some (zU 0) := cell_of hZ 4
  have q4 : w2.frozen? ⟨w§,4,none⟩ = false := frozen_of hZ 4
  have z5 : w2.cell? ⟨w§,5,none⟩ = some (.string ⟨#[]⟩) := cell_of hZ 5
  have q5 : w2.frozen? ⟨w§,5,none⟩ = false := frozen_of hZ 5
  have z6 : w2.cell? ⟨w§,6,none⟩ = some (.slice none 0 0) := cell_of hZ 6
  have q6 : w2.frozen? ⟨w§,6,none⟩ = false := frozen_of hZ 6
  have z7 : w2.cell? ⟨w§,7,none⟩ = some (zI 0) := cell_of hZ 7
  have q7 : w2.frozen? ⟨w§,7,none⟩ = false := frozen_of hZ 7
  have HEY : Hid (_ = Y) := eY
  have HY1 : Hid (_) := hY1
  have HYY : Hid (_) := (⟨hY2,hY3,hY4,hY5⟩ : _ ∧ _ ∧ _ ∧ _)
  clear eY hY1 hY2 hY3 hY4 hY5 hZ hl hk
  simp only [Nd.vals,Nd.h,Nd.a,Nd.c,Nd.ks,hdA]
  go_wp2_with fail
  rw [HEY.out]
  exact bodyPost_ret (results_cell_row rfl _ _ w§ 64 (Nd.mk ⟨k2,o2,ty2,n2,f2,x2,p2⟩ am2 cm2 ks2).vals (0,0) _ rfl HY1.out Tryz.underlying64 rfl zK) rfl ⟨⟨_,rfl,rfl,HYY.out.1,HYY.out.2.1⟩,HYY.out.2.2.1,HYY.out.2.2.2⟩
end Go.Proofs.YtkfabnchhjfjjaaGreatDoor
