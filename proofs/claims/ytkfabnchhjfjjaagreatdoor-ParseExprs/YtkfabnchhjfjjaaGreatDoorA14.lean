import Derived.Test.YtkfabnchhjfjjaaGreatDoorA0
import Derived.Test.YtkfabnchhjfjjaaGreatDoorA13
namespace Go.Proofs.YtkfabnchhjfjjaaGreatDoor
open Go.RowKit
set_option linter.unusedVariables false
theorem gCallM_sub {ex : List Tk → Except Ft (Tr × List Tk)} (he : Subs ex) (q p : Int) (ts : List Tk) : ∀ t r,gCallM ex q p ts = .ok (t,r) → ∀ x ∈ r,x ∈ ts := by
 intro t r h x hx
 unfold gCallM at h
 cases h1 : gTake (gB [40]) ts with
 | error e => rw [h1] at h; cases h
 | ok q1 =>
  rw [h1] at h
  simp only at h
  by_cases hq : q = 3
  ·rw [if_pos hq] at h
   cases h2 : gIn (ex q1.2) with
   | error e => rw [h2] at h; cases h
   | ok q2 =>
    rw [h2] at h
    simp only at h
    cases h
    exact gTake_sub h1 _ (gIn_sub (fun t q e => he q1.2 t q e) q2.1 q2.2 h2 x hx)
  ·rw [if_neg hq] at h
   cases h2 : ex q1.2 with
   | error e => rw [h2] at h; cases h
   | ok q2 =>
    rw [h2] at h
    simp only at h
    cases h3 : gTake (gB [44]) q2.2 with
    | error e => rw [h3] at h; cases h
    | ok q3 =>
     rw [h3] at h
     simp only at h
     cases h4 : gIn (ex q3.2) with
     | error e => rw [h4] at h; cases h
     | ok q4 =>
      rw [h4] at h
      simp only at h
      cases h
      exact gTake_sub h1 _ (he _ _ _ h2 _ (gTake_sub h3 _ (gIn_sub (fun t q e => he q3.2 t q e) q4.1 q4.2 h4 x hx)))
theorem gCall_sub {ex : List Tk → Except Ft (Tr × List Tk)} (he : Subs ex) (d : Nat) (ts : List Tk) : ∀ t r,gCall ex d ts = .ok (t,r) → ∀ x ∈ r,x ∈ ts := by
 intro t r h x hx
 unfold gCall at h
 cases h1 : gOpn d ts with
 | error e => rw [h1] at h; cases h
 | ok q1 =>
  rw [h1] at h
  exact gOpn_sub h1 _ (gCallM_sub he _ _ _ t r h x hx)
theorem gConv_sub {ex : List Tk → Except Ft (Tr × List Tk)} (he : Subs ex) (d : Nat) (ts : List Tk) : ∀ t r,gConv ex d ts = .ok (t,r) → ∀ x ∈ r,x ∈ ts := by
 intro t r h x hx
 unfold gConv at h
 cases h1 : gOpn d ts with
 | error e => rw [h1] at h; cases h
 | ok q1 =>
  rw [h1] at h
  simp only at h
  cases h2 : gTake (gB [40]) q1.2 with
  | error e => rw [h2] at h; cases h
  | ok q2 =>
   rw [h2] at h
   simp only at h
   cases h3 : gIn (ex q2.2) with
   | error e => rw [h3] at h; cases h
   | ok q3 =>
    rw [h3] at h
    simp only at h
    cases h
    exact gOpn_sub h1 _ (gTake_sub h2 _ (gIn_sub (fun t q e => he q2.2 t q e) q3.1 q3.2 h3 x hx))
set_option maxRecDepth 100000 in
set_option maxHeartbeats 8000000 in
theorem one_call (ex : List Tk → Except Ft (Tr × List Tk)) (hS : Subs ex) {w : World} {b G : Nat} {t : Tk} {ts : List Tk} {fa : Int} {fe : Value} {d : Nat} {a : Option Addr} {c : Nat} (h : Rdr w b G (t :: ts) fa fe d a c) (hT : ∀ x ∈ t :: ts,RgT x) (hd : d < 1000) (e1 : (t.x.toList == [40]) = false) (e2 : (t.x.toList == [104,97,115]) = false) (e3 : callX t.x ≠ 0)
  (cE : d < 24 → ∀ v ts a c,Rdr v b G ts fa fe (d + 1) a c → (∀ t ∈ ts,RgT t) → Calls zG 46 #[zP b] v (OutN b G fa fe (d + 1) v (ex ts))) :
  Calls zG 184 #[zP b] w (OutN b G fa fe d w (gCall ex d (t :: ts))) := by
 have hb0 := below_new w (.cells zNo 64)
 have h0 := h.on hb0
 have HBL : Hid (b < w§) := h.lt
 have HGL : Hid (G < w§) := h.gl
 have HTT : Hid (∀ x ∈ t :: ts,RgT x) := hT
 have X0 : BX w b G fa fe d (w.alloc (.cells zNo 64)) [] (t :: ts) := ⟨Mv.ofBelow hb0,heap_new _ _,fun p hp => by simp at hp,⟨a,c,h0⟩,hT⟩
 have X0 := X0.hid
 have cL := look_ok h0
 clear h hb0 h0 hT
 have n3 : (callX t.x != 0) = true := bne_iff_ne.2 e3
 obtain ⟨O,eO⟩ : ∃ O,gCall ex d (t :: ts) = O := ⟨_,rfl⟩
 have HSR : Hid (∀ t' q,O = .ok (t',q) → ∀ x ∈ q,x ∈ t :: ts) := fun t' q e => gCall_sub hS d (t :: ts) t' q (eO.trans e)
 have cC : ∀ v a c,Rdr v b G (t :: ts) fa fe d a c → Calls zG 189 #[zP b] v (OutN b G fa fe d v O) := fun v a c h => by rw [← eO]; exact call_any ex hS h HTT.out hd cE
 rw [eO]
 clear eO
 cases O with
 | error f =>
  go_enter Tryz.func184,Tryz.ntmps184
  go_wp2_with fail
  refine cL.mono ?_
  rintro e w1 ⟨rfl,hb1⟩
  have X1 := (X0.out.on HBL.out hb1).on HBL.out (below_new w1 (.cells #[zU t.k,.string t.x,zU t.ty,zI t.n,zI t.p] 82))
  have HK1 : Hid ((w1.alloc (.cells #[zU t.k,.string t.x,zU t.ty,zI t.n,zI t.p] 82)).heap[w1§]? = some (.cells #[zU t.k,.string t.x,zU t.ty,zI t.n,zI t.p] 82 (0,0))) := heap_new _ _
  obtain ⟨Tb,eTb⟩ : ∃ T,w1§ = T := ⟨_,rfl⟩
  obtain ⟨V1,eV1⟩ : ∃ V,w1.alloc (.cells #[zU t.k,.string t.x,zU t.ty,zI t.n,zI t.p] 82) = V := ⟨_,rfl⟩
  have HV1 : Hid (w1.alloc (.cells #[zU t.k,.string t.x,zU t.ty,zI t.n,zI t.p] 82) = V1) := eV1
  have HTb : Hid (w§ < Tb) := by rw [← eTb]; exact Nat.lt_of_lt_of_le (Array.getElem?_eq_some_iff.1 X0.out.Z).1 hb1.size
  rw [eV1] at X1 HK1
  rw [eTb] at HK1
  have X1 := X1.hid
  have t0 : V1.cell? ⟨Tb,0,none⟩ = some (zU t.k) := cell_of HK1.out 0
  have t1 : V1.cell? ⟨Tb,1,none⟩ = some (.string t.x) := cell_of HK1.out 1
  have t2 : V1.cell? ⟨Tb,2,none⟩ = some (zU t.ty) := cell_of HK1.out 2
  have t3 : V1.cell? ⟨Tb,3,none⟩ = some (zI t.n) := cell_of HK1.out 3
  have t4 : V1.cell? ⟨Tb,4,none⟩ = some (zI t.p) := cell_of HK1.out 4
  have cx1 : (w1.alloc (.cells #[zU t.k,.string t.x,zU t.ty,zI t.n,zI t.p] 82)).cell? ⟨Tb,1,none⟩ = some (.string t.x) := by rw [eV1]; exact t1
  clear cL hb1 X0 eV1
  unfold tkA
  go_wp2_with fail
  try rw [HV1.out]
  clear HV1 cx1
  refine (callOf_any t _).mono ?_
  rintro e V2 ⟨rfl,hb2⟩
  have X2 := (X1.out.on HBL.out hb2).hid
  have HK2 : Hid (V2.heap[Tb]? = some (.cells #[zU t.k,.string t.x,zU t.ty,zI t.n,zI t.p] 82 (0,0))) := (hb2.block _ (Array.getElem?_eq_some_iff.1 HK1.out).1).trans HK1.out
  clear t0 t1 t2 t3 t4 hb2
  have t0 : V2.cell? ⟨Tb,0,none⟩ = some (zU t.k) := cell_of HK2.out 0
  have t1 : V2.cell? ⟨Tb,1,none⟩ = some (.string t.x) := cell_of HK2.out 1
  have t2 : V2.cell? ⟨Tb,2,none⟩ = some (zU t.ty) := cell_of HK2.out 2
  have t3 : V2.cell? ⟨Tb,3,none⟩ = some (zI t.n) := cell_of HK2.out 3
  have t4 : V2.cell? ⟨Tb,4,none⟩ = some (zI t.p) := cell_of HK2.out 4
  go_wp2_with fail
  obtain ⟨a9,c9,h9⟩ := X2.out.R
  refine (cC V2 a9 c9 h9).mono ?_
  rintro e w2 ⟨rfl,hm⟩
  exact ⟨rfl,rfl,X2.out.M.trans hm (fun k e => .inl e)⟩
 | ok O =>
  obtain ⟨t3x,ts3⟩ := O
  go_enter Tryz.func184,Tryz.ntmps184
  go_wp2_with fail
  refine cL.mono ?_
  rintro e w1 ⟨rfl,hb1⟩
  have X1 := (X0.out.on HBL.out hb1).on HBL.out (below_new w1 (.cells #[zU t.k,.string t.x,zU t.ty,zI t.n,zI t.p] 82))
  have HK1 : Hid ((w1.alloc (.cells #[zU t.k,.string t.x,zU t.ty,zI t.n,zI t.p] 82)).heap[w1§]? = some (.cells #[zU t.k,.string t.x,zU t.ty,zI t.n,zI t.p] 82 (0,0))) := heap_new _ _
  obtain ⟨Tb,eTb⟩ : ∃ T,w1§ = T := ⟨_,rfl⟩
  obtain ⟨V1,eV1⟩ : ∃ V,w1.alloc (.cells #[zU t.k,.string t.x,zU t.ty,zI t.n,zI t.p] 82) = V := ⟨_,rfl⟩
  have HV1 : Hid (w1.alloc (.cells #[zU t.k,.string t.x,zU t.ty,zI t.n,zI t.p] 82) = V1) := eV1
  have HTb : Hid (w§ < Tb) := by rw [← eTb]; exact Nat.lt_of_lt_of_le (Array.getElem?_eq_some_iff.1 X0.out.Z).1 hb1.size
  rw [eV1] at X1 HK1
  rw [eTb] at HK1
  have X1 := X1.hid
  have t0 : V1.cell? ⟨Tb,0,none⟩ = some (zU t.k) := cell_of HK1.out 0
  have t1 : V1.cell? ⟨Tb,1,none⟩ = some (.string t.x) := cell_of HK1.out 1
  have t2 : V1.cell? ⟨Tb,2,none⟩ = some (zU t.ty) := cell_of HK1.out 2
  have t3 : V1.cell? ⟨Tb,3,none⟩ = some (zI t.n) := cell_of HK1.out 3
  have t4 : V1.cell? ⟨Tb,4,none⟩ = some (zI t.p) := cell_of HK1.out 4
  have cx1 : (w1.alloc (.cells #[zU t.k,.string t.x,zU t.ty,zI t.n,zI t.p] 82)).cell? ⟨Tb,1,none⟩ = some (.string t.x) := by rw [eV1]; exact t1
  clear cL hb1 X0 eV1
  unfold tkA
  go_wp2_with fail
  try rw [HV1.out]
  clear HV1 cx1
  refine (callOf_any t _).mono ?_
  rintro e V2 ⟨rfl,hb2⟩
  have X2 := (X1.out.on HBL.out hb2).hid
  have HK2 : Hid (V2.heap[Tb]? = some (.cells #[zU t.k,.string t.x,zU t.ty,zI t.n,zI t.p] 82 (0,0))) := (hb2.block _ (Array.getElem?_eq_some_iff.1 HK1.out).1).trans HK1.out
  clear t0 t1 t2 t3 t4 hb2
  have t0 : V2.cell? ⟨Tb,0,none⟩ = some (zU t.k) := cell_of HK2.out 0
  have t1 : V2.cell? ⟨Tb,1,none⟩ = some (.string t.x) := cell_of HK2.out 1
  have t2 : V2.cell? ⟨Tb,2,none⟩ = some (zU t.ty) := cell_of HK2.out 2
  have t3 : V2.cell? ⟨Tb,3,none⟩ = some (zI t.n) := cell_of HK2.out 3
  have t4 : V2.cell? ⟨Tb,4,none⟩ = some (zI t.p) := cell_of HK2.out 4
  go_wp2_with fail
  obtain ⟨a9,c9,h9⟩ := X2.out.R
  refine (cC V2 a9 c9 h9).mono ?_
  rintro e w2 ⟨⟨m,rfl,rfl,hl,hk⟩,hr,hm⟩
  obtain ⟨⟨k2,o2,ty2,n2,f2,x2,p2⟩,am2,cm2,ks2⟩ := m
  have hsz := (Array.getElem?_eq_some_iff.1 X2.out.Z).1
  have XR := (X2.out.mv HBL.out hm hr (HSR.out _ _ rfl)).hid
  have hk : Bkn (fun k => w§ < k ∧ k < w2§) (.mk ⟨k2,o2,ty2,n2,f2,x2,p2⟩ am2 cm2 ks2) := hk.mono fun j hj => ⟨by omega,hj.2⟩
  clear hm hr hsz h9 t0 t1 t2 t3 t4 cC
  obtain ⟨hZ,Y,eY,hY1,hY2,hY3,hY4,hY5⟩ := XR.out.ret HBL.out HGL.out hl hk
  have z0 : w2.cell? ⟨w§,0,none⟩ = some (zU 0) := cell_of hZ 0
  have q0 : w2.frozen? ⟨w§,0,none⟩ = false := frozen_of hZ 0
  have z1 : w2.cell? ⟨w§,1,none⟩ = some (zU 0) := cell_of hZ 1
  have q1 : w2.frozen? ⟨w§,1,none⟩ = false := frozen_of hZ 1
  have z2 : w2.cell? ⟨w§,2,none⟩ = some (zU 0) := cell_of hZ 2
  have q2 : w2.frozen? ⟨w§,2,none⟩ = false := frozen_of hZ 2
  have z3 : w2.cell? ⟨w§,3,none⟩ = some (zI 0) := cell_of hZ 3
  have q3 : w2.frozen? ⟨w§,3,none⟩ = false := frozen_of hZ 3
  have z4 : w2.cell? ⟨w§,4,none⟩ = some (zU 0) := cell_of hZ 4
  have q4 : w2.frozen? ⟨w§,4,none⟩ = false := frozen_of hZ 4
  have z5 : w2.cell? ⟨w§,5,none⟩ = some (.string ⟨#[]⟩) := cell_of hZ 5
  have q5 : w2.frozen? ⟨w§,5,none⟩ = false := frozen_of hZ 5
  have z6 : w2.cell? ⟨w§,6,none⟩ = some (.slice none 0 0) := cell_of hZ 6
  have q6 : w2.frozen? ⟨w§,6,none⟩ = false := frozen_of hZ 6
  have z7 : w2.cell? ⟨w§,7,none⟩ = some (zI 0) := cell_of hZ 7
  have q7 : w2.frozen? ⟨w§,7,none⟩ = false := frozen_of hZ 7
  have HEY : Hid (_ = Y) := eY
  have HY1 : Hid (_) := hY1
  have HYY : Hid (_) := (⟨hY2,hY3,hY4,hY5⟩ : _ ∧ _ ∧ _ ∧ _)
  clear eY hY1 hY2 hY3 hY4 hY5 hZ hl hk
  simp only [Nd.vals,Nd.h,Nd.a,Nd.c,Nd.ks,hdA]
  go_wp2_with fail
  rw [HEY.out]
  exact bodyPost_ret (results_cell_row rfl _ _ w§ 64 (Nd.mk ⟨k2,o2,ty2,n2,f2,x2,p2⟩ am2 cm2 ks2).vals (0,0) _ rfl HY1.out Tryz.underlying64 rfl zK) rfl ⟨⟨_,rfl,rfl,HYY.out.1,HYY.out.2.1⟩,HYY.out.2.2.1,HYY.out.2.2.2⟩
set_option maxRecDepth 100000 in
set_option maxHeartbeats 8000000 in
theorem one_conv (ex : List Tk → Except Ft (Tr × List Tk)) (hS : Subs ex) {w : World} {b G : Nat} {t : Tk} {ts : List Tk} {fa : Int} {fe : Value} {d : Nat} {a : Option Addr} {c : Nat} (h : Rdr w b G (t :: ts) fa fe d a c) (hT : ∀ x ∈ t :: ts,RgT x) (hd : d < 1000) (e1 : (t.x.toList == [40]) = false) (e2 : (t.x.toList == [104,97,115]) = false) (e3 : callX t.x = 0) (e4 : 1 ≤ tyX t.x ∧ tyX t.x ≤ 4)
  (cE : d < 24 → ∀ v ts a c,Rdr v b G ts fa fe (d + 1) a c → (∀ t ∈ ts,RgT t) → Calls zG 46 #[zP b] v (OutN b G fa fe (d + 1) v (ex ts))) :
  Calls zG 184 #[zP b] w (OutN b G fa fe d w (gConv ex d (t :: ts))) := by
 have hb0 := below_new w (.cells zNo 64)
 have h0 := h.on hb0
 have HBL : Hid (b < w§) := h.lt
 have HGL : Hid (G < w§) := h.gl
 have HTT : Hid (∀ x ∈ t :: ts,RgT x) := hT
 have X0 : BX w b G fa fe d (w.alloc (.cells zNo 64)) [] (t :: ts) := ⟨Mv.ofBelow hb0,heap_new _ _,fun p hp => by simp at hp,⟨a,c,h0⟩,hT⟩
 have X0 := X0.hid
 have cL := look_ok h0
 clear h hb0 h0 hT
 have n3 : (callX t.x != 0) = false := by rw [e3]; rfl
 have n4 : decide (1 ≤ tyX t.x ∧ tyX t.x ≤ 4) = true := decide_eq_true e4
 obtain ⟨O,eO⟩ : ∃ O,gConv ex d (t :: ts) = O := ⟨_,rfl⟩
 have HSR : Hid (∀ t' q,O = .ok (t',q) → ∀ x ∈ q,x ∈ t :: ts) := fun t' q e => gConv_sub hS d (t :: ts) t' q (eO.trans e)
 have cC : ∀ v a c,Rdr v b G (t :: ts) fa fe d a c → Calls zG 191 #[zP b] v (OutN b G fa fe d v O) := fun v a c h => by rw [← eO]; exact conv_any ex hS h HTT.out hd cE
 rw [eO]
 clear eO
 cases O with
 | error f =>
  go_enter Tryz.func184,Tryz.ntmps184
  go_wp2_with fail
  refine cL.mono ?_
  rintro e w1 ⟨rfl,hb1⟩
  have X1 := (X0.out.on HBL.out hb1).on HBL.out (below_new w1 (.cells #[zU t.k,.string t.x,zU t.ty,zI t.n,zI t.p] 82))
  have HK1 : Hid ((w1.alloc (.cells #[zU t.k,.string t.x,zU t.ty,zI t.n,zI t.p] 82)).heap[w1§]? = some (.cells #[zU t.k,.string t.x,zU t.ty,zI t.n,zI t.p] 82 (0,0))) := heap_new _ _
  obtain ⟨Tb,eTb⟩ : ∃ T,w1§ = T := ⟨_,rfl⟩
  obtain ⟨V1,eV1⟩ : ∃ V,w1.alloc (.cells #[zU t.k,.string t.x,zU t.ty,zI t.n,zI t.p] 82) = V := ⟨_,rfl⟩
  have HV1 : Hid (w1.alloc (.cells #[zU t.k,.string t.x,zU t.ty,zI t.n,zI t.p] 82) = V1) := eV1
  have HTb : Hid (w§ < Tb) := by rw [← eTb]; exact Nat.lt_of_lt_of_le (Array.getElem?_eq_some_iff.1 X0.out.Z).1 hb1.size
  rw [eV1] at X1 HK1
  rw [eTb] at HK1
  have X1 := X1.hid
  have t0 : V1.cell? ⟨Tb,0,none⟩ = some (zU t.k) := cell_of HK1.out 0
  have t1 : V1.cell? ⟨Tb,1,none⟩ = some (.string t.x) := cell_of HK1.out 1
  have t2 : V1.cell? ⟨Tb,2,none⟩ = some (zU t.ty) := cell_of HK1.out 2
  have t3 : V1.cell? ⟨Tb,3,none⟩ = some (zI t.n) := cell_of HK1.out 3
  have t4 : V1.cell? ⟨Tb,4,none⟩ = some (zI t.p) := cell_of HK1.out 4
  have cx1 : (w1.alloc (.cells #[zU t.k,.string t.x,zU t.ty,zI t.n,zI t.p] 82)).cell? ⟨Tb,1,none⟩ = some (.string t.x) := by rw [eV1]; exact t1
  clear cL hb1 X0 eV1
  unfold tkA
  go_wp2_with fail
  try rw [HV1.out]
  clear HV1 cx1
  refine (callOf_any t _).mono ?_
  rintro e V2 ⟨rfl,hb2⟩
  have X2 := (X1.out.on HBL.out hb2).hid
  have HK2 : Hid (V2.heap[Tb]? = some (.cells #[zU t.k,.string t.x,zU t.ty,zI t.n,zI t.p] 82 (0,0))) := (hb2.block _ (Array.getElem?_eq_some_iff.1 HK1.out).1).trans HK1.out
  clear t0 t1 t2 t3 t4 hb2
  have t0 : V2.cell? ⟨Tb,0,none⟩ = some (zU t.k) := cell_of HK2.out 0
  have t1 : V2.cell? ⟨Tb,1,none⟩ = some (.string t.x) := cell_of HK2.out 1
  have t2 : V2.cell? ⟨Tb,2,none⟩ = some (zU t.ty) := cell_of HK2.out 2
  have t3 : V2.cell? ⟨Tb,3,none⟩ = some (zI t.n) := cell_of HK2.out 3
  have t4 : V2.cell? ⟨Tb,4,none⟩ = some (zI t.p) := cell_of HK2.out 4
  go_wp2_with fail
  refine (typeOf_any t _).mono ?_
  rintro e V3 ⟨rfl,hb3⟩
  have X3 := (X2.out.on HBL.out hb3).hid
  have HK3 : Hid (V3.heap[Tb]? = some (.cells #[zU t.k,.string t.x,zU t.ty,zI t.n,zI t.p] 82 (0,0))) := (hb3.block _ (Array.getElem?_eq_some_iff.1 HK2.out).1).trans HK2.out
  clear t0 t1 t2 t3 t4 hb3
  have t0 : V3.cell? ⟨Tb,0,none⟩ = some (zU t.k) := cell_of HK3.out 0
  have t1 : V3.cell? ⟨Tb,1,none⟩ = some (.string t.x) := cell_of HK3.out 1
  have t2 : V3.cell? ⟨Tb,2,none⟩ = some (zU t.ty) := cell_of HK3.out 2
  have t3 : V3.cell? ⟨Tb,3,none⟩ = some (zI t.n) := cell_of HK3.out 3
  have t4 : V3.cell? ⟨Tb,4,none⟩ = some (zI t.p) := cell_of HK3.out 4
  go_wp2_with fail
  refine (number_any (tyX t.x) _).mono ?_
  rintro e V9 ⟨rfl,hV9⟩
  rw [hV9]
  clear hV9
  go_wp2_with fail
  obtain ⟨a9,c9,h9⟩ := X3.out.R
  refine (cC V3 a9 c9 h9).mono ?_
  rintro e w2 ⟨rfl,hm⟩
  exact ⟨rfl,rfl,X3.out.M.trans hm (fun k e => .inl e)⟩
 | ok O =>
  obtain ⟨t3x,ts3⟩ := O
  go_enter Tryz.func184,Tryz.ntmps184
  go_wp2_with fail
  refine cL.mono ?_
  rintro e w1 ⟨rfl,hb1⟩
  have X1 := (X0.out.on HBL.out hb1).on HBL.out (below_new w1 (.cells #[zU t.k,.string t.x,zU t.ty,zI t.n,zI t.p] 82))
  have HK1 : Hid ((w1.alloc (.cells #[zU t.k,.string t.x,zU t.ty,zI t.n,zI t.p] 82)).heap[w1§]? = some (.cells #[zU t.k,.string t.x,zU t.ty,zI t.n,zI t.p] 82 (0,0))) := heap_new _ _
  obtain ⟨Tb,eTb⟩ : ∃ T,w1§ = T := ⟨_,rfl⟩
  obtain ⟨V1,eV1⟩ : ∃ V,w1.alloc (.cells #[zU t.k,.string t.x,zU t.ty,zI t.n,zI t.p] 82) = V := ⟨_,rfl⟩
  have HV1 : Hid (w1.alloc (.cells #[zU t.k,.string t.x,zU t.ty,zI t.n,zI t.p] 82) = V1) := eV1
  have HTb : Hid (w§ < Tb) := by rw [← eTb]; exact Nat.lt_of_lt_of_le (Array.getElem?_eq_some_iff.1 X0.out.Z).1 hb1.size
  rw [eV1] at X1 HK1
  rw [eTb] at HK1
  have X1 := X1.hid
  have t0 : V1.cell? ⟨Tb,0,none⟩ = some (zU t.k) := cell_of HK1.out 0
  have t1 : V1.cell? ⟨Tb,1,none⟩ = some (.string t.x) := cell_of HK1.out 1
  have t2 : V1.cell? ⟨Tb,2,none⟩ = some (zU t.ty) := cell_of HK1.out 2
  have t3 : V1.cell? ⟨Tb,3,none⟩ = some (zI t.n) := cell_of HK1.out 3
  have t4 : V1.cell? ⟨Tb,4,none⟩ = some (zI t.p) := cell_of HK1.out 4
  have cx1 : (w1.alloc (.cells #[zU t.k,.string t.x,zU t.ty,zI t.n,zI t.p] 82)).cell? ⟨Tb,1,none⟩ = some (.string t.x) := by rw [eV1]; exact t1
  clear cL hb1 X0 eV1
  unfold tkA
  go_wp2_with fail
  try rw [HV1.out]
  clear HV1 cx1
  refine (callOf_any t _).mono ?_
  rintro e V2 ⟨rfl,hb2⟩
  have X2 := (X1.out.on HBL.out hb2).hid
  have HK2 : Hid (V2.heap[Tb]? = some (.cells #[zU t.k,.string t.x,zU t.ty,zI t.n,zI t.p] 82 (0,0))) := (hb2.block _ (Array.getElem?_eq_some_iff.1 HK1.out).1).trans HK1.out
  clear t0 t1 t2 t3 t4 hb2
  have t0 : V2.cell? ⟨Tb,0,none⟩ = some (zU t.k) := cell_of HK2.out 0
  have t1 : V2.cell? ⟨Tb,1,none⟩ = some (.string t.x) := cell_of HK2.out 1
  have t2 : V2.cell? ⟨Tb,2,none⟩ = some (zU t.ty) := cell_of HK2.out 2
  have t3 : V2.cell? ⟨Tb,3,none⟩ = some (zI t.n) := cell_of HK2.out 3
  have t4 : V2.cell? ⟨Tb,4,none⟩ = some (zI t.p) := cell_of HK2.out 4
  go_wp2_with fail
  refine (typeOf_any t _).mono ?_
  rintro e V3 ⟨rfl,hb3⟩
  have X3 := (X2.out.on HBL.out hb3).hid
  have HK3 : Hid (V3.heap[Tb]? = some (.cells #[zU t.k,.string t.x,zU t.ty,zI t.n,zI t.p] 82 (0,0))) := (hb3.block _ (Array.getElem?_eq_some_iff.1 HK2.out).1).trans HK2.out
  clear t0 t1 t2 t3 t4 hb3
  have t0 : V3.cell? ⟨Tb,0,none⟩ = some (zU t.k) := cell_of HK3.out 0
  have t1 : V3.cell? ⟨Tb,1,none⟩ = some (.string t.x) := cell_of HK3.out 1
  have t2 : V3.cell? ⟨Tb,2,none⟩ = some (zU t.ty) := cell_of HK3.out 2
  have t3 : V3.cell? ⟨Tb,3,none⟩ = some (zI t.n) := cell_of HK3.out 3
  have t4 : V3.cell? ⟨Tb,4,none⟩ = some (zI t.p) := cell_of HK3.out 4
  go_wp2_with fail
  refine (number_any (tyX t.x) _).mono ?_
  rintro e V9 ⟨rfl,hV9⟩
  rw [hV9]
  clear hV9
  go_wp2_with fail
  obtain ⟨a9,c9,h9⟩ := X3.out.R
  refine (cC V3 a9 c9 h9).mono ?_
  rintro e w2 ⟨⟨m,rfl,rfl,hl,hk⟩,hr,hm⟩
  obtain ⟨⟨k2,o2,ty2,n2,f2,x2,p2⟩,am2,cm2,ks2⟩ := m
  have hsz := (Array.getElem?_eq_some_iff.1 X3.out.Z).1
  have XR := (X3.out.mv HBL.out hm hr (HSR.out _ _ rfl)).hid
  have hk : Bkn (fun k => w§ < k ∧ k < w2§) (.mk ⟨k2,o2,ty2,n2,f2,x2,p2⟩ am2 cm2 ks2) := hk.mono fun j hj => ⟨by omega,hj.2⟩
  clear hm hr hsz h9 t0 t1 t2 t3 t4 cC
  obtain ⟨hZ,Y,eY,hY1,hY2,hY3,hY4,hY5⟩ := XR.out.ret HBL.out HGL.out hl hk
  have z0 : w2.cell? ⟨w§,0,none⟩ = some (zU 0) := cell_of hZ 0
  have q0 : w2.frozen? ⟨w§,0,none⟩ = false := frozen_of hZ 0
  have z1 : w2.cell? ⟨w§,1,none⟩ = some (zU 0) := cell_of hZ 1
  have q1 : w2.frozen? ⟨w§,1,none⟩ = false := frozen_of hZ 1
  have z2 : w2.cell? ⟨w§,2,none⟩ = some (zU 0) := cell_of hZ 2
  have q2 : w2.frozen? ⟨w§,2,none⟩ = false := frozen_of hZ 2
  have z3 : w2.cell? ⟨w§,3,none⟩ = some (zI 0) := cell_of hZ 3
  have q3 : w2.frozen? ⟨w§,3,none⟩ = false := frozen_of hZ 3
  have z4 : w2.cell? ⟨w§,4,none⟩ = some (zU 0) := cell_of hZ 4
  have q4 : w2.frozen? ⟨w§,4,none⟩ = false := frozen_of hZ 4
  have z5 : w2.cell? ⟨w§,5,none⟩ = some (.string ⟨#[]⟩) := cell_of hZ 5
  have q5 : w2.frozen? ⟨w§,5,none⟩ = false := frozen_of hZ 5
  have z6 : w2.cell? ⟨w§,6,none⟩ = some (.slice none 0 0) := cell_of hZ 6
  have q6 : w2.frozen? ⟨w§,6,none⟩ = false := frozen_of hZ 6
  have z7 : w2.cell? ⟨w§,7,none⟩ = some (zI 0) := cell_of hZ 7
  have q7 : w2.frozen? ⟨w§,7,none⟩ = false := frozen_of hZ 7
  have HEY : Hid (_ = Y) := eY
  have HY1 : Hid (_) := hY1
  have HYY : Hid (_) := (⟨hY2,hY3,hY4,hY5⟩ : _ ∧ _ ∧ _ ∧ _)
  clear eY hY1 hY2 hY3 hY4 hY5 hZ hl hk
  simp only [Nd.vals,Nd.h,Nd.a,Nd.c,Nd.ks,hdA]
  go_wp2_with fail
  rw [HEY.out]
  exact bodyPost_ret (results_cell_row rfl _ _ w§ 64 (Nd.mk ⟨k2,o2,ty2,n2,f2,x2,p2⟩ am2 cm2 ks2).vals (0,0) _ rfl HY1.out Tryz.underlying64 rfl zK) rfl ⟨⟨_,rfl,rfl,HYY.out.1,HYY.out.2.1⟩,HYY.out.2.2.1,HYY.out.2.2.2⟩
set_option maxRecDepth 100000 in
set_option maxHeartbeats 8000000 in
theorem one_lit (ex : List Tk → Except Ft (Tr × List Tk)) (hS : Subs ex) {w : World} {b G : Nat} {t : Tk} {ts : List Tk} {fa : Int} {fe : Value} {d : Nat} {a : Option Addr} {c : Nat} (h : Rdr w b G (t :: ts) fa fe d a c) (hT : ∀ x ∈ t :: ts,RgT x) (hd : d < 1000) (e1 : (t.x.toList == [40]) = false) (e2 : (t.x.toList == [104,97,115]) = false) (e3 : callX t.x = 0) (e4 : ¬ (1 ≤ tyX t.x ∧ tyX t.x ≤ 4)) (e5 : fieldX t.x = 0) (e6 : t.k ≠ 2)
  (cE : d < 24 → ∀ v ts a c,Rdr v b G ts fa fe (d + 1) a c → (∀ t ∈ ts,RgT t) → Calls zG 46 #[zP b] v (OutN b G fa fe (d + 1) v (ex ts))) :
  Calls zG 184 #[zP b] w (OutN b G fa fe d w (gLit (t :: ts))) := by
 have hb0 := below_new w (.cells zNo 64)
 have h0 := h.on hb0
 have HBL : Hid (b < w§) := h.lt
 have HGL : Hid (G < w§) := h.gl
 have HTT : Hid (∀ x ∈ t :: ts,RgT x) := hT
 have X0 : BX w b G fa fe d (w.alloc (.cells zNo 64)) [] (t :: ts) := ⟨Mv.ofBelow hb0,heap_new _ _,fun p hp => by simp at hp,⟨a,c,h0⟩,hT⟩
 have X0 := X0.hid
 have cL := look_ok h0
 clear h hb0 h0 hT
 have n3 : (callX t.x != 0) = false := by rw [e3]; rfl
 have n4 : decide (1 ≤ tyX t.x ∧ tyX t.x ≤ 4) = false := decide_eq_false e4
 have n5 : (fieldX t.x != 0) = false := by rw [e5]; rfl
 have n6 : (t.k == 2) = false := beq_false_of_ne e6
 obtain ⟨O,eO⟩ : ∃ O,gLit (t :: ts) = O := ⟨_,rfl⟩
 have HSR : Hid (∀ t' q,O = .ok (t',q) → ∀ x ∈ q,x ∈ t :: ts) := fun t' q e => gLit_sub (t :: ts) t' q (eO.trans e)
 have cC : ∀ v a c,Rdr v b G (t :: ts) fa fe d a c → Calls zG 130 #[zP b] v (OutN b G fa fe d v O) := fun v a c h => by rw [← eO]; exact lit_ok h (HTT.out t (by simp))
 rw [eO]
 clear eO
 cases O with
 | error f =>
  go_enter Tryz.func184,Tryz.ntmps184
  go_wp2_with fail
  refine cL.mono ?_
  rintro e w1 ⟨rfl,hb1⟩
  have X1 := (X0.out.on HBL.out hb1).on HBL.out (below_new w1 (.cells #[zU t.k,.string t.x,zU t.ty,zI t.n,zI t.p] 82))
  have HK1 : Hid ((w1.alloc (.cells #[zU t.k,.string t.x,zU t.ty,zI t.n,zI t.p] 82)).heap[w1§]? = some (.cells #[zU t.k,.string t.x,zU t.ty,zI t.n,zI t.p] 82 (0,0))) := heap_new _ _
  obtain ⟨Tb,eTb⟩ : ∃ T,w1§ = T := ⟨_,rfl⟩
  obtain ⟨V1,eV1⟩ : ∃ V,w1.alloc (.cells #[zU t.k,.string t.x,zU t.ty,zI t.n,zI t.p] 82) = V := ⟨_,rfl⟩
  have HV1 : Hid (w1.alloc (.cells #[zU t.k,.string t.x,zU t.ty,zI t.n,zI t.p] 82) = V1) := eV1
  have HTb : Hid (w§ < Tb) := by rw [← eTb]; exact Nat.lt_of_lt_of_le (Array.getElem?_eq_some_iff.1 X0.out.Z).1 hb1.size
  rw [eV1] at X1 HK1
  rw [eTb] at HK1
  have X1 := X1.hid
  have t0 : V1.cell? ⟨Tb,0,none⟩ = some (zU t.k) := cell_of HK1.out 0
  have t1 : V1.cell? ⟨Tb,1,none⟩ = some (.string t.x) := cell_of HK1.out 1
  have t2 : V1.cell? ⟨Tb,2,none⟩ = some (zU t.ty) := cell_of HK1.out 2
  have t3 : V1.cell? ⟨Tb,3,none⟩ = some (zI t.n) := cell_of HK1.out 3
  have t4 : V1.cell? ⟨Tb,4,none⟩ = some (zI t.p) := cell_of HK1.out 4
  have cx1 : (w1.alloc (.cells #[zU t.k,.string t.x,zU t.ty,zI t.n,zI t.p] 82)).cell? ⟨Tb,1,none⟩ = some (.string t.x) := by rw [eV1]; exact t1
  clear cL hb1 X0 eV1
  unfold tkA
  go_wp2_with fail
  try rw [HV1.out]
  clear HV1 cx1
  refine (callOf_any t _).mono ?_
  rintro e V2 ⟨rfl,hb2⟩
  have X2 := (X1.out.on HBL.out hb2).hid
  have HK2 : Hid (V2.heap[Tb]? = some (.cells #[zU t.k,.string t.x,zU t.ty,zI t.n,zI t.p] 82 (0,0))) := (hb2.block _ (Array.getElem?_eq_some_iff.1 HK1.out).1).trans HK1.out
  clear t0 t1 t2 t3 t4 hb2
  have t0 : V2.cell? ⟨Tb,0,none⟩ = some (zU t.k) := cell_of HK2.out 0
  have t1 : V2.cell? ⟨Tb,1,none⟩ = some (.string t.x) := cell_of HK2.out 1
  have t2 : V2.cell? ⟨Tb,2,none⟩ = some (zU t.ty) := cell_of HK2.out 2
  have t3 : V2.cell? ⟨Tb,3,none⟩ = some (zI t.n) := cell_of HK2.out 3
  have t4 : V2.cell? ⟨Tb,4,none⟩ = some (zI t.p) := cell_of HK2.out 4
  go_wp2_with fail
  refine (typeOf_any t _).mono ?_
  rintro e V3 ⟨rfl,hb3⟩
  have X3 := (X2.out.on HBL.out hb3).hid
  have HK3 : Hid (V3.heap[Tb]? = some (.cells #[zU t.k,.string t.x,zU t.ty,zI t.n,zI t.p] 82 (0,0))) := (hb3.block _ (Array.getElem?_eq_some_iff.1 HK2.out).1).trans HK2.out
  clear t0 t1 t2 t3 t4 hb3
  have t0 : V3.cell? ⟨Tb,0,none⟩ = some (zU t.k) := cell_of HK3.out 0
  have t1 : V3.cell? ⟨Tb,1,none⟩ = some (.string t.x) := cell_of HK3.out 1
  have t2 : V3.cell? ⟨Tb,2,none⟩ = some (zU t.ty) := cell_of HK3.out 2
  have t3 : V3.cell? ⟨Tb,3,none⟩ = some (zI t.n) := cell_of HK3.out 3
  have t4 : V3.cell? ⟨Tb,4,none⟩ = some (zI t.p) := cell_of HK3.out 4
  go_wp2_with fail
  refine (number_any (tyX t.x) _).mono ?_
  rintro e V9 ⟨rfl,hV9⟩
  rw [hV9]
  clear hV9
  go_wp2_with fail
  refine (fieldOf_any t _).mono ?_
  rintro e V4 ⟨rfl,hb4⟩
  have X4 := (X3.out.on HBL.out hb4).hid
  have HK4 : Hid (V4.heap[Tb]? = some (.cells #[zU t.k,.string t.x,zU t.ty,zI t.n,zI t.p] 82 (0,0))) := (hb4.block _ (Array.getElem?_eq_some_iff.1 HK3.out).1).trans HK3.out
  clear t0 t1 t2 t3 t4 hb4
  have t0 : V4.cell? ⟨Tb,0,none⟩ = some (zU t.k) := cell_of HK4.out 0
  have t1 : V4.cell? ⟨Tb,1,none⟩ = some (.string t.x) := cell_of HK4.out 1
  have t2 : V4.cell? ⟨Tb,2,none⟩ = some (zU t.ty) := cell_of HK4.out 2
  have t3 : V4.cell? ⟨Tb,3,none⟩ = some (zI t.n) := cell_of HK4.out 3
  have t4 : V4.cell? ⟨Tb,4,none⟩ = some (zI t.p) := cell_of HK4.out 4
  go_wp2_with fail
  obtain ⟨a9,c9,h9⟩ := X4.out.R
  refine (cC V4 a9 c9 h9).mono ?_
  rintro e w2 ⟨rfl,hm⟩
  exact ⟨rfl,rfl,X4.out.M.trans hm (fun k e => .inl e)⟩
 | ok O =>
  obtain ⟨t3x,ts3⟩ := O
  go_enter Tryz.func184,Tryz.ntmps184
  go_wp2_with fail
  refine cL.mono ?_
  rintro e w1 ⟨rfl,hb1⟩
  have X1 := (X0.out.on HBL.out hb1).on HBL.out (below_new w1 (.cells #[zU t.k,.string t.x,zU t.ty,zI t.n,zI t.p] 82))
  have HK1 : Hid ((w1.alloc (.cells #[zU t.k,.string t.x,zU t.ty,zI t.n,zI t.p] 82)).heap[w1§]? = some (.cells #[zU t.k,.string t.x,zU t.ty,zI t.n,zI t.p] 82 (0,0))) := heap_new _ _
  obtain ⟨Tb,eTb⟩ : ∃ T,w1§ = T := ⟨_,rfl⟩
  obtain ⟨V1,eV1⟩ : ∃ V,w1.alloc (.cells #[zU t.k,.string t.x,zU t.ty,zI t.n,zI t.p] 82) = V := ⟨_,rfl⟩
  have HV1 : Hid (w1.alloc (.cells #[zU t.k,.string t.x,zU t.ty,zI t.n,zI t.p] 82) = V1) := eV1
  have HTb : Hid (w§ < Tb) := by rw [← eTb]; exact Nat.lt_of_lt_of_le (Array.getElem?_eq_some_iff.1 X0.out.Z).1 hb1.size
  rw [eV1] at X1 HK1
  rw [eTb] at HK1
  have X1 := X1.hid
  have t0 : V1.cell? ⟨Tb,0,none⟩ = some (zU t.k) := cell_of HK1.out 0
  have t1 : V1.cell? ⟨Tb,1,none⟩ = some (.string t.x) := cell_of HK1.out 1
  have t2 : V1.cell? ⟨Tb,2,none⟩ = some (zU t.ty) := cell_of HK1.out 2
  have t3 : V1.cell? ⟨Tb,3,none⟩ = some (zI t.n) := cell_of HK1.out 3
  have t4 : V1.cell? ⟨Tb,4,none⟩ = some (zI t.p) := cell_of HK1.out 4
  have cx1 : (w1.alloc (.cells #[zU t.k,.string t.x,zU t.ty,zI t.n,zI t.p] 82)).cell? ⟨Tb,1,none⟩ = some (.string t.x) := by rw [eV1]; exact t1
  clear cL hb1 X0 eV1
  unfold tkA
  go_wp2_with fail
  try rw [HV1.out]
  clear HV1 cx1
  refine (callOf_any t _).mono ?_
  rintro e V2 ⟨rfl,hb2⟩
  have X2 := (X1.out.on HBL.out hb2).hid
  have HK2 : Hid (V2.heap[Tb]? = some (.cells #[zU t.k,.string t.x,zU t.ty,zI t.n,zI t.p] 82 (0,0))) := (hb2.block _ (Array.getElem?_eq_some_iff.1 HK1.out).1).trans HK1.out
  clear t0 t1 t2 t3 t4 hb2
  have t0 : V2.cell? ⟨Tb,0,none⟩ = some (zU t.k) := cell_of HK2.out 0
  have t1 : V2.cell? ⟨Tb,1,none⟩ = some (.string t.x) := cell_of HK2.out 1
  have t2 : V2.cell? ⟨Tb,2,none⟩ = some (zU t.ty) := cell_of HK2.out 2
  have t3 : V2.cell? ⟨Tb,3,none⟩ = some (zI t.n) := cell_of HK2.out 3
  have t4 : V2.cell? ⟨Tb,4,none⟩ = some (zI t.p) := cell_of HK2.out 4
  go_wp2_with fail
  refine (typeOf_any t _).mono ?_
  rintro e V3 ⟨rfl,hb3⟩
  have X3 := (X2.out.on HBL.out hb3).hid
  have HK3 : Hid (V3.heap[Tb]? = some (.cells #[zU t.k,.string t.x,zU t.ty,zI t.n,zI t.p] 82 (0,0))) := (hb3.block _ (Array.getElem?_eq_some_iff.1 HK2.out).1).trans HK2.out
  clear t0 t1 t2 t3 t4 hb3
  have t0 : V3.cell? ⟨Tb,0,none⟩ = some (zU t.k) := cell_of HK3.out 0
  have t1 : V3.cell? ⟨Tb,1,none⟩ = some (.string t.x) := cell_of HK3.out 1
  have t2 : V3.cell? ⟨Tb,2,none⟩ = some (zU t.ty) := cell_of HK3.out 2
  have t3 : V3.cell? ⟨Tb,3,none⟩ = some (zI t.n) := cell_of HK3.out 3
  have t4 : V3.cell? ⟨Tb,4,none⟩ = some (zI t.p) := cell_of HK3.out 4
  go_wp2_with fail
  refine (number_any (tyX t.x) _).mono ?_
  rintro e V9 ⟨rfl,hV9⟩
  rw [hV9]
  clear hV9
  go_wp2_with fail
  refine (fieldOf_any t _).mono ?_
  rintro e V4 ⟨rfl,hb4⟩
  have X4 := (X3.out.on HBL.out hb4).hid
  have HK4 : Hid (V4.heap[Tb]? = some (.cells #[zU t.k,.string t.x,zU t.ty,zI t.n,zI t.p] 82 (0,0))) := (hb4.block _ (Array.getElem?_eq_some_iff.1 HK3.out).1).trans HK3.out
  clear t0 t1 t2 t3 t4 hb4
  have t0 : V4.cell? ⟨Tb,0,none⟩ = some (zU t.k) := cell_of HK4.out 0
  have t1 : V4.cell? ⟨Tb,1,none⟩ = some (.string t.x) := cell_of HK4.out 1
  have t2 : V4.cell? ⟨Tb,2,none⟩ = some (zU t.ty) := cell_of HK4.out 2
  have t3 : V4.cell? ⟨Tb,3,none⟩ = some (zI t.n) := cell_of HK4.out 3
  have t4 : V4.cell? ⟨Tb,4,none⟩ = some (zI t.p) := cell_of HK4.out 4
  go_wp2_with fail
  obtain ⟨a9,c9,h9⟩ := X4.out.R
  refine (cC V4 a9 c9 h9).mono ?_
  rintro e w2 ⟨⟨m,rfl,rfl,hl,hk⟩,hr,hm⟩
  obtain ⟨⟨k2,o2,ty2,n2,f2,x2,p2⟩,am2,cm2,ks2⟩ := m
  have hsz := (Array.getElem?_eq_some_iff.1 X4.out.Z).1
  have XR := (X4.out.mv HBL.out hm hr (HSR.out _ _ rfl)).hid
  have hk : Bkn (fun k => w§ < k ∧ k < w2§) (.mk ⟨k2,o2,ty2,n2,f2,x2,p2⟩ am2 cm2 ks2) := hk.mono fun j hj => ⟨by omega,hj.2⟩
  clear hm hr hsz h9 t0 t1 t2 t3 t4 cC
  obtain ⟨hZ,Y,eY,hY1,hY2,hY3,hY4,hY5⟩ := XR.out.ret HBL.out HGL.out hl hk
  have z0 : w2.cell? ⟨w§,0,none⟩ = some (zU 0) := cell_of hZ 0
  have q0 : w2.frozen? ⟨w§,0,none⟩ = false := frozen_of hZ 0
  have z1 : w2.cell? ⟨w§,1,none⟩ = some (zU 0) := cell_of hZ 1
  have q1 : w2.frozen? ⟨w§,1,none⟩ = false := frozen_of hZ 1
  have z2 : w2.cell? ⟨w§,2,none⟩ = some (zU 0) := cell_of hZ 2
  have q2 : w2.frozen? ⟨w§,2,none⟩ = false := frozen_of hZ 2
  have z3 : w2.cell? ⟨w§,3,none⟩ = some (zI 0) := cell_of hZ 3
  have q3 : w2.frozen? ⟨w§,3,none⟩ = false := frozen_of hZ 3
  have z4 : w2.cell? ⟨w§,4,none⟩ = some (zU 0) := cell_of hZ 4
  have q4 : w2.frozen? ⟨w§,4,none⟩ = false := frozen_of hZ 4
  have z5 : w2.cell? ⟨w§,5,none⟩ = some (.string ⟨#[]⟩) := cell_of hZ 5
  have q5 : w2.frozen? ⟨w§,5,none⟩ = false := frozen_of hZ 5
  have z6 : w2.cell? ⟨w§,6,none⟩ = some (.slice none 0 0) := cell_of hZ 6
  have q6 : w2.frozen? ⟨w§,6,none⟩ = false := frozen_of hZ 6
  have z7 : w2.cell? ⟨w§,7,none⟩ = some (zI 0) := cell_of hZ 7
  have q7 : w2.frozen? ⟨w§,7,none⟩ = false := frozen_of hZ 7
  have HEY : Hid (_ = Y) := eY
  have HY1 : Hid (_) := hY1
  have HYY : Hid (_) := (⟨hY2,hY3,hY4,hY5⟩ : _ ∧ _ ∧ _ ∧ _)
  clear eY hY1 hY2 hY3 hY4 hY5 hZ hl hk
  simp only [Nd.vals,Nd.h,Nd.a,Nd.c,Nd.ks,hdA]
  go_wp2_with fail
  rw [HEY.out]
  exact bodyPost_ret (results_cell_row rfl _ _ w§ 64 (Nd.mk ⟨k2,o2,ty2,n2,f2,x2,p2⟩ am2 cm2 ks2).vals (0,0) _ rfl HY1.out Tryz.underlying64 rfl zK) rfl ⟨⟨_,rfl,rfl,HYY.out.1,HYY.out.2.1⟩,HYY.out.2.2.1,HYY.out.2.2.2⟩
end Go.Proofs.YtkfabnchhjfjjaaGreatDoor
