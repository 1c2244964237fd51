import Derived.Test.YtkfabnchhjfjjaaGreatDoorA0
import Derived.Test.YtkfabnchhjfjjaaGreatDoorA14
import Derived.Test.YtkfabnchhjfjjaaGreatDoorA13
import Derived.Test.YtkfabnchhjfjjaaGreatDoorA5
namespace Go.Proofs.YtkfabnchhjfjjaaGreatDoor
open Go.RowKit
set_option linter.unusedVariables false
def gBrk (ex : List Tk → Except Ft (Tr × List Tk)) (d : Nat) (ts : List Tk) : Except Ft (Tr × List Tk) :=
 match gOpn d ts with
 | .error e => .error e
 | .ok q => gIn (ex q.2)
theorem rg_field {t : Tk} (h : RgT t) : Rg ⟨3,0,0,0,fieldX t.x,gE,t.p⟩ := by
 have := h.p0; have := h.p1; have := fieldX_rg t.x
 constructor <;> first | omega | (show (0 : Nat) ≤ _; omega) | (simp only; omega) | simp
theorem rg_name {t : Tk} (h : RgT t) : Rg ⟨2,0,0,0,0,t.x,t.p⟩ := by
 have := h.p0; have := h.p1; have := h.x1
 constructor <;> first | omega | (show (0 : Nat) ≤ _; omega) | (simp only; omega) | simp
set_option maxRecDepth 100000 in
set_option maxHeartbeats 8000000 in
theorem one_brk (ex : List Tk → Except Ft (Tr × List Tk)) (hS : Subs ex) {w : World} {b G : Nat} {t : Tk} {ts : List Tk} {fa : Int} {fe : Value} {d : Nat} {a : Option Addr} {c : Nat} (h : Rdr w b G (t :: ts) fa fe d a c) (hT : ∀ x ∈ t :: ts,RgT x) (hd : d < 1000) (e1 : (t.x.toList == [40]) = true)
  (cE : d < 24 → ∀ v ts a c,Rdr v b G ts fa fe (d + 1) a c → (∀ t ∈ ts,RgT t) → Calls zG 46 #[zP b] v (OutN b G fa fe (d + 1) v (ex ts))) :
  Calls zG 184 #[zP b] w (OutN b G fa fe d w (gBrk ex d (t :: ts))) := by
 have hb0 := below_new w (.cells zNo 64)
 have h0 := h.on hb0
 have HBL : Hid (b < w§) := h.lt
 have HGL : Hid (G < w§) := h.gl
 have HTT : Hid (∀ x ∈ t :: ts,RgT x) := hT
 have X0 : BX w b G fa fe d (w.alloc (.cells zNo 64)) [] (t :: ts) := ⟨Mv.ofBelow hb0,heap_new _ _,fun p hp => by simp at hp,⟨a,c,h0⟩,hT⟩
 have X0 := X0.hid
 have cL := look_ok h0
 clear h hb0 h0 hT
 obtain ⟨P,eO⟩ : ∃ P,gOpn d (t :: ts) = P := ⟨_,rfl⟩
 have HEO : Hid (gOpn d (t :: ts) = P) := eO
 unfold gBrk
 rw [eO]
 clear eO
 cases P with
 | error f =>
  go_enter Tryz.func184,Tryz.ntmps184
  go_wp2_with fail
  refine cL.mono ?_
  rintro e w1 ⟨rfl,hb1⟩
  have X1 := (X0.out.on HBL.out hb1).on HBL.out (below_new w1 (.cells #[zU t.k,.string t.x,zU t.ty,zI t.n,zI t.p] 82))
  have HK1 : Hid ((w1.alloc (.cells #[zU t.k,.string t.x,zU t.ty,zI t.n,zI t.p] 82)).heap[w1§]? = some (.cells #[zU t.k,.string t.x,zU t.ty,zI t.n,zI t.p] 82 (0,0))) := heap_new _ _
  obtain ⟨Tb,eTb⟩ : ∃ T,w1§ = T := ⟨_,rfl⟩
  obtain ⟨V1,eV1⟩ : ∃ V,w1.alloc (.cells #[zU t.k,.string t.x,zU t.ty,zI t.n,zI t.p] 82) = V := ⟨_,rfl⟩
  have HV1 : Hid (w1.alloc (.cells #[zU t.k,.string t.x,zU t.ty,zI t.n,zI t.p] 82) = V1) := eV1
  have HTb : Hid (w§ < Tb) := by rw [← eTb]; exact Nat.lt_of_lt_of_le (Array.getElem?_eq_some_iff.1 X0.out.Z).1 hb1.size
  rw [eV1] at X1 HK1
  rw [eTb] at HK1
  have X1 := X1.hid
  have t0 : V1.cell? ⟨Tb,0,none⟩ = some (zU t.k) := cell_of HK1.out 0
  have t1 : V1.cell? ⟨Tb,1,none⟩ = some (.string t.x) := cell_of HK1.out 1
  have t2 : V1.cell? ⟨Tb,2,none⟩ = some (zU t.ty) := cell_of HK1.out 2
  have t3 : V1.cell? ⟨Tb,3,none⟩ = some (zI t.n) := cell_of HK1.out 3
  have t4 : V1.cell? ⟨Tb,4,none⟩ = some (zI t.p) := cell_of HK1.out 4
  have cx1 : (w1.alloc (.cells #[zU t.k,.string t.x,zU t.ty,zI t.n,zI t.p] 82)).cell? ⟨Tb,1,none⟩ = some (.string t.x) := by rw [eV1]; exact t1
  clear cL hb1 X0 eV1
  unfold tkA
  go_wp2_with fail
  try rw [HV1.out]
  clear HV1 cx1
  obtain ⟨a9,c9,h9⟩ := X1.out.R
  have cP := open_any h9
  rw [HEO.out] at cP
  refine cP.mono ?_
  rintro e w2 ⟨rfl,hm⟩
  exact ⟨rfl,rfl,X1.out.M.trans hm (fun k e => .inl e)⟩
 | ok P =>
  obtain ⟨u,r⟩ := P
  have HSB : Hid (∀ x ∈ r,x ∈ t :: ts) := gOpn_sub HEO.out
  replace cE := cE (gOpn_lt HEO.out)
  simp only
  have hgi : ∀ t q,gIn (ex r) = .ok (t,q) → ∀ x ∈ q,x ∈ r := gIn_sub (fun t q e => hS r t q e)
  obtain ⟨O,eO⟩ : ∃ O,gIn (ex r) = O := ⟨_,rfl⟩
  have HEI : Hid (gIn (ex r) = O) := eO
  rw [eO] at hgi ⊢
  have HSR : Hid (∀ t q,O = .ok (t,q) → ∀ x ∈ q,x ∈ r) := hgi
  clear eO hgi
  cases O with
  | error f =>
   go_enter Tryz.func184,Tryz.ntmps184
   go_wp2_with fail
   refine cL.mono ?_
   rintro e w1 ⟨rfl,hb1⟩
   have X1 := (X0.out.on HBL.out hb1).on HBL.out (below_new w1 (.cells #[zU t.k,.string t.x,zU t.ty,zI t.n,zI t.p] 82))
   have HK1 : Hid ((w1.alloc (.cells #[zU t.k,.string t.x,zU t.ty,zI t.n,zI t.p] 82)).heap[w1§]? = some (.cells #[zU t.k,.string t.x,zU t.ty,zI t.n,zI t.p] 82 (0,0))) := heap_new _ _
   obtain ⟨Tb,eTb⟩ : ∃ T,w1§ = T := ⟨_,rfl⟩
   obtain ⟨V1,eV1⟩ : ∃ V,w1.alloc (.cells #[zU t.k,.string t.x,zU t.ty,zI t.n,zI t.p] 82) = V := ⟨_,rfl⟩
   have HV1 : Hid (w1.alloc (.cells #[zU t.k,.string t.x,zU t.ty,zI t.n,zI t.p] 82) = V1) := eV1
   have HTb : Hid (w§ < Tb) := by rw [← eTb]; exact Nat.lt_of_lt_of_le (Array.getElem?_eq_some_iff.1 X0.out.Z).1 hb1.size
   rw [eV1] at X1 HK1
   rw [eTb] at HK1
   have X1 := X1.hid
   have t0 : V1.cell? ⟨Tb,0,none⟩ = some (zU t.k) := cell_of HK1.out 0
   have t1 : V1.cell? ⟨Tb,1,none⟩ = some (.string t.x) := cell_of HK1.out 1
   have t2 : V1.cell? ⟨Tb,2,none⟩ = some (zU t.ty) := cell_of HK1.out 2
   have t3 : V1.cell? ⟨Tb,3,none⟩ = some (zI t.n) := cell_of HK1.out 3
   have t4 : V1.cell? ⟨Tb,4,none⟩ = some (zI t.p) := cell_of HK1.out 4
   have cx1 : (w1.alloc (.cells #[zU t.k,.string t.x,zU t.ty,zI t.n,zI t.p] 82)).cell? ⟨Tb,1,none⟩ = some (.string t.x) := by rw [eV1]; exact t1
   clear cL hb1 X0 eV1
   unfold tkA
   go_wp2_with fail
   try rw [HV1.out]
   clear HV1 cx1
   obtain ⟨a9,c9,h9⟩ := X1.out.R
   have cP := open_any h9
   rw [HEO.out] at cP
   refine cP.mono ?_
   rintro e w2 ⟨rfl,hr2,hm2⟩
   have X2 := (X1.out.mv HBL.out hm2 hr2 HSB.out).hid
   clear cP hm2 hr2 h9
   go_wp2_with fail
   obtain ⟨a9,c9,h9⟩ := X2.out.R
   have cI := inBr_any h9 hd (ex r) (fun v a c h' => cE v r a c h' X2.out.T)
   rw [HEI.out] at cI
   refine cI.mono ?_
   rintro e w3 ⟨rfl,hm⟩
   exact ⟨rfl,rfl,X2.out.M.trans hm (fun k e => .inl e)⟩
  | ok O =>
   obtain ⟨t3x,ts3⟩ := O
   go_enter Tryz.func184,Tryz.ntmps184
   go_wp2_with fail
   refine cL.mono ?_
   rintro e w1 ⟨rfl,hb1⟩
   have X1 := (X0.out.on HBL.out hb1).on HBL.out (below_new w1 (.cells #[zU t.k,.string t.x,zU t.ty,zI t.n,zI t.p] 82))
   have HK1 : Hid ((w1.alloc (.cells #[zU t.k,.string t.x,zU t.ty,zI t.n,zI t.p] 82)).heap[w1§]? = some (.cells #[zU t.k,.string t.x,zU t.ty,zI t.n,zI t.p] 82 (0,0))) := heap_new _ _
   obtain ⟨Tb,eTb⟩ : ∃ T,w1§ = T := ⟨_,rfl⟩
   obtain ⟨V1,eV1⟩ : ∃ V,w1.alloc (.cells #[zU t.k,.string t.x,zU t.ty,zI t.n,zI t.p] 82) = V := ⟨_,rfl⟩
   have HV1 : Hid (w1.alloc (.cells #[zU t.k,.string t.x,zU t.ty,zI t.n,zI t.p] 82) = V1) := eV1
   have HTb : Hid (w§ < Tb) := by rw [← eTb]; exact Nat.lt_of_lt_of_le (Array.getElem?_eq_some_iff.1 X0.out.Z).1 hb1.size
   rw [eV1] at X1 HK1
   rw [eTb] at HK1
   have X1 := X1.hid
   have t0 : V1.cell? ⟨Tb,0,none⟩ = some (zU t.k) := cell_of HK1.out 0
   have t1 : V1.cell? ⟨Tb,1,none⟩ = some (.string t.x) := cell_of HK1.out 1
   have t2 : V1.cell? ⟨Tb,2,none⟩ = some (zU t.ty) := cell_of HK1.out 2
   have t3 : V1.cell? ⟨Tb,3,none⟩ = some (zI t.n) := cell_of HK1.out 3
   have t4 : V1.cell? ⟨Tb,4,none⟩ = some (zI t.p) := cell_of HK1.out 4
   have cx1 : (w1.alloc (.cells #[zU t.k,.string t.x,zU t.ty,zI t.n,zI t.p] 82)).cell? ⟨Tb,1,none⟩ = some (.string t.x) := by rw [eV1]; exact t1
   clear cL hb1 X0 eV1
   unfold tkA
   go_wp2_with fail
   try rw [HV1.out]
   clear HV1 cx1
   obtain ⟨a9,c9,h9⟩ := X1.out.R
   have cP := open_any h9
   rw [HEO.out] at cP
   refine cP.mono ?_
   rintro e w2 ⟨rfl,hr2,hm2⟩
   have X2 := (X1.out.mv HBL.out hm2 hr2 HSB.out).hid
   clear cP hm2 hr2 h9
   go_wp2_with fail
   obtain ⟨a9,c9,h9⟩ := X2.out.R
   have cI := inBr_any h9 hd (ex r) (fun v a c h' => cE v r a c h' X2.out.T)
   rw [HEI.out] at cI
   refine cI.mono ?_
   rintro e w3 ⟨⟨m,rfl,rfl,hl,hk⟩,hr,hm⟩
   obtain ⟨⟨k2,o2,ty2,n2,f2,x2,p2⟩,am2,cm2,ks2⟩ := m
   have hsz := (Array.getElem?_eq_some_iff.1 X2.out.Z).1
   have XR := (X2.out.mv HBL.out hm hr (HSR.out _ _ rfl)).hid
   have hk : Bkn (fun k => w§ < k ∧ k < w3§) (.mk ⟨k2,o2,ty2,n2,f2,x2,p2⟩ am2 cm2 ks2) := hk.mono fun j hj => ⟨by omega,hj.2⟩
   clear hm hr hsz h9 cI t0 t1 t2 t3 t4 HEI HSR
   obtain ⟨hZ,Y,eY,hY1,hY2,hY3,hY4,hY5⟩ := XR.out.ret HBL.out HGL.out hl hk
   have z0 : w3.cell? ⟨w§,0,none⟩ = some (zU 0) := cell_of hZ 0
   have q0 : w3.frozen? ⟨w§,0,none⟩ = false := frozen_of hZ 0
   have z1 : w3.cell? ⟨w§,1,none⟩ = some (zU 0) := cell_of hZ 1
   have q1 : w3.frozen? ⟨w§,1,none⟩ = false := frozen_of hZ 1
   have z2 : w3.cell? ⟨w§,2,none⟩ = some (zU 0) := cell_of hZ 2
   have q2 : w3.frozen? ⟨w§,2,none⟩ = false := frozen_of hZ 2
   have z3 : w3.cell? ⟨w§,3,none⟩ = some (zI 0) := cell_of hZ 3
   have q3 : w3.frozen? ⟨w§,3,none⟩ = false := frozen_of hZ 3
   have z4 : w3.cell? ⟨w§,4,none⟩ = some (zU 0) := cell_of hZ 4
   have q4 : w3.frozen? ⟨w§,4,none⟩ = false := frozen_of hZ 4
   have z5 : w3.cell? ⟨w§,5,none⟩ = some (.string ⟨#[]⟩) := cell_of hZ 5
   have q5 : w3.frozen? ⟨w§,5,none⟩ = false := frozen_of hZ 5
   have z6 : w3.cell? ⟨w§,6,none⟩ = some (.slice none 0 0) := cell_of hZ 6
   have q6 : w3.frozen? ⟨w§,6,none⟩ = false := frozen_of hZ 6
   have z7 : w3.cell? ⟨w§,7,none⟩ = some (zI 0) := cell_of hZ 7
   have q7 : w3.frozen? ⟨w§,7,none⟩ = false := frozen_of hZ 7
   have HEY : Hid (_ = Y) := eY
   have HY1 : Hid (_) := hY1
   have HYY : Hid (_) := (⟨hY2,hY3,hY4,hY5⟩ : _ ∧ _ ∧ _ ∧ _)
   clear eY hY1 hY2 hY3 hY4 hY5 hZ hl hk
   simp only [Nd.vals,Nd.h,Nd.a,Nd.c,Nd.ks,hdA]
   go_wp2_with fail
   rw [HEY.out]
   exact bodyPost_ret (results_cell_row rfl _ _ w§ 64 (Nd.mk ⟨k2,o2,ty2,n2,f2,x2,p2⟩ am2 cm2 ks2).vals (0,0) _ rfl HY1.out Tryz.underlying64 rfl zK) rfl ⟨⟨_,rfl,rfl,HYY.out.1,HYY.out.2.1⟩,HYY.out.2.2.1,HYY.out.2.2.2⟩
set_option maxRecDepth 100000 in
set_option maxHeartbeats 8000000 in
theorem one_field (ex : List Tk → Except Ft (Tr × List Tk)) (hS : Subs ex) {w : World} {b G : Nat} {t : Tk} {ts : List Tk} {fa : Int} {fe : Value} {d : Nat} {a : Option Addr} {c : Nat} (h : Rdr w b G (t :: ts) fa fe d a c) (hT : ∀ x ∈ t :: ts,RgT x) (hd : d < 1000) (e1 : (t.x.toList == [40]) = false) (e2 : (t.x.toList == [104,97,115]) = false) (e3 : callX t.x = 0) (e4 : ¬ (1 ≤ tyX t.x ∧ tyX t.x ≤ 4)) (e5 : fieldX t.x ≠ 0)
  (cE : d < 24 → ∀ v ts a c,Rdr v b G ts fa fe (d + 1) a c → (∀ t ∈ ts,RgT t) → Calls zG 46 #[zP b] v (OutN b G fa fe (d + 1) v (ex ts))) :
  Calls zG 184 #[zP b] w (OutN b G fa fe d w (.ok (.mk ⟨3,0,0,0,fieldX t.x,gE,t.p⟩ [],ts))) := by
 have hb0 := below_new w (.cells zNo 64)
 have h0 := h.on hb0
 have HBL : Hid (b < w§) := h.lt
 have HGL : Hid (G < w§) := h.gl
 have HTT : Hid (∀ x ∈ t :: ts,RgT x) := hT
 have X0 : BX w b G fa fe d (w.alloc (.cells zNo 64)) [] (t :: ts) := ⟨Mv.ofBelow hb0,heap_new _ _,fun p hp => by simp at hp,⟨a,c,h0⟩,hT⟩
 have X0 := X0.hid
 have cL := look_ok h0
 clear h hb0 h0 hT
 have n3 : (callX t.x != 0) = false := by rw [e3]; rfl
 have n4 : decide (1 ≤ tyX t.x ∧ tyX t.x ≤ 4) = false := decide_eq_false e4
 have n5 : (fieldX t.x != 0) = true := bne_iff_ne.2 e5
 go_enter Tryz.func184,Tryz.ntmps184
 go_wp2_with fail
 refine cL.mono ?_
 rintro e w1 ⟨rfl,hb1⟩
 have X1 := (X0.out.on HBL.out hb1).on HBL.out (below_new w1 (.cells #[zU t.k,.string t.x,zU t.ty,zI t.n,zI t.p] 82))
 have HK1 : Hid ((w1.alloc (.cells #[zU t.k,.string t.x,zU t.ty,zI t.n,zI t.p] 82)).heap[w1§]? = some (.cells #[zU t.k,.string t.x,zU t.ty,zI t.n,zI t.p] 82 (0,0))) := heap_new _ _
 obtain ⟨Tb,eTb⟩ : ∃ T,w1§ = T := ⟨_,rfl⟩
 obtain ⟨V1,eV1⟩ : ∃ V,w1.alloc (.cells #[zU t.k,.string t.x,zU t.ty,zI t.n,zI t.p] 82) = V := ⟨_,rfl⟩
 have HV1 : Hid (w1.alloc (.cells #[zU t.k,.string t.x,zU t.ty,zI t.n,zI t.p] 82) = V1) := eV1
 have HTb : Hid (w§ < Tb) := by rw [← eTb]; exact Nat.lt_of_lt_of_le (Array.getElem?_eq_some_iff.1 X0.out.Z).1 hb1.size
 rw [eV1] at X1 HK1
 rw [eTb] at HK1
 have X1 := X1.hid
 have t0 : V1.cell? ⟨Tb,0,none⟩ = some (zU t.k) := cell_of HK1.out 0
 have t1 : V1.cell? ⟨Tb,1,none⟩ = some (.string t.x) := cell_of HK1.out 1
 have t2 : V1.cell? ⟨Tb,2,none⟩ = some (zU t.ty) := cell_of HK1.out 2
 have t3 : V1.cell? ⟨Tb,3,none⟩ = some (zI t.n) := cell_of HK1.out 3
 have t4 : V1.cell? ⟨Tb,4,none⟩ = some (zI t.p) := cell_of HK1.out 4
 have cx1 : (w1.alloc (.cells #[zU t.k,.string t.x,zU t.ty,zI t.n,zI t.p] 82)).cell? ⟨Tb,1,none⟩ = some (.string t.x) := by rw [eV1]; exact t1
 clear cL hb1 X0 eV1
 unfold tkA
 go_wp2_with fail
 try rw [HV1.out]
 clear HV1 cx1
 refine (callOf_any t _).mono ?_
 rintro e V2 ⟨rfl,hb2⟩
 have X2 := (X1.out.on HBL.out hb2).hid
 have HK2 : Hid (V2.heap[Tb]? = some (.cells #[zU t.k,.string t.x,zU t.ty,zI t.n,zI t.p] 82 (0,0))) := (hb2.block _ (Array.getElem?_eq_some_iff.1 HK1.out).1).trans HK1.out
 clear t0 t1 t2 t3 t4 hb2
 have t0 : V2.cell? ⟨Tb,0,none⟩ = some (zU t.k) := cell_of HK2.out 0
 have t1 : V2.cell? ⟨Tb,1,none⟩ = some (.string t.x) := cell_of HK2.out 1
 have t2 : V2.cell? ⟨Tb,2,none⟩ = some (zU t.ty) := cell_of HK2.out 2
 have t3 : V2.cell? ⟨Tb,3,none⟩ = some (zI t.n) := cell_of HK2.out 3
 have t4 : V2.cell? ⟨Tb,4,none⟩ = some (zI t.p) := cell_of HK2.out 4
 go_wp2_with fail
 refine (typeOf_any t _).mono ?_
 rintro e V3 ⟨rfl,hb3⟩
 have X3 := (X2.out.on HBL.out hb3).hid
 have HK3 : Hid (V3.heap[Tb]? = some (.cells #[zU t.k,.string t.x,zU t.ty,zI t.n,zI t.p] 82 (0,0))) := (hb3.block _ (Array.getElem?_eq_some_iff.1 HK2.out).1).trans HK2.out
 clear t0 t1 t2 t3 t4 hb3
 have t0 : V3.cell? ⟨Tb,0,none⟩ = some (zU t.k) := cell_of HK3.out 0
 have t1 : V3.cell? ⟨Tb,1,none⟩ = some (.string t.x) := cell_of HK3.out 1
 have t2 : V3.cell? ⟨Tb,2,none⟩ = some (zU t.ty) := cell_of HK3.out 2
 have t3 : V3.cell? ⟨Tb,3,none⟩ = some (zI t.n) := cell_of HK3.out 3
 have t4 : V3.cell? ⟨Tb,4,none⟩ = some (zI t.p) := cell_of HK3.out 4
 go_wp2_with fail
 refine (number_any (tyX t.x) _).mono ?_
 rintro e V9 ⟨rfl,hV9⟩
 rw [hV9]
 clear hV9
 go_wp2_with fail
 refine (fieldOf_any t _).mono ?_
 rintro e V4 ⟨rfl,hb4⟩
 have X4 := (X3.out.on HBL.out hb4).hid
 have HK4 : Hid (V4.heap[Tb]? = some (.cells #[zU t.k,.string t.x,zU t.ty,zI t.n,zI t.p] 82 (0,0))) := (hb4.block _ (Array.getElem?_eq_some_iff.1 HK3.out).1).trans HK3.out
 clear t0 t1 t2 t3 t4 hb4
 have t0 : V4.cell? ⟨Tb,0,none⟩ = some (zU t.k) := cell_of HK4.out 0
 have t1 : V4.cell? ⟨Tb,1,none⟩ = some (.string t.x) := cell_of HK4.out 1
 have t2 : V4.cell? ⟨Tb,2,none⟩ = some (zU t.ty) := cell_of HK4.out 2
 have t3 : V4.cell? ⟨Tb,3,none⟩ = some (zI t.n) := cell_of HK4.out 3
 have t4 : V4.cell? ⟨Tb,4,none⟩ = some (zI t.p) := cell_of HK4.out 4
 go_wp2_with fail
 obtain ⟨a9,c9,h9⟩ := X4.out.R
 refine (step_ok h9).mono ?_
 rintro e w2 ⟨rfl,hr2,hm2⟩
 have XS := (X4.out.mv HBL.out hm2 hr2 (fun x hx => List.mem_cons_of_mem _ hx)).hid
 have HKS : Hid (w2.heap[Tb]? = some (.cells #[zU t.k,.string t.x,zU t.ty,zI t.n,zI t.p] 82 (0,0))) := (hm2.block _ (Array.getElem?_eq_some_iff.1 HK4.out).1 (by have := HBL.out; have := HTb.out; omega)).trans HK4.out
 clear hm2 hr2 h9 t0 t1 t2 t3 t4
 have HKP : Hid (∀ v,MR w2 w§ v → v.cell? ⟨Tb,0,none⟩ = some (zU t.k) ∧ v.cell? ⟨Tb,1,none⟩ = some (.string t.x) ∧ v.cell? ⟨Tb,2,none⟩ = some (zU t.ty) ∧ v.cell? ⟨Tb,3,none⟩ = some (zI t.n) ∧ v.cell? ⟨Tb,4,none⟩ = some (zI t.p) ∧ MR w2 w§ v) := fun v hv => by
  have e1 := (hv.block _ (Array.getElem?_eq_some_iff.1 HKS.out).1 (by have := HTb.out; omega)).trans HKS.out
  exact ⟨cell_of e1 0,cell_of e1 1,cell_of e1 2,cell_of e1 3,cell_of e1 4,hv⟩
 have cY : ∀ v,Calls zG 192 #[.agg #[zU t.k,.string t.x,zU t.ty,zI t.n,zI t.p]] v fun e w' => e = .returned (zU (fieldX t.x)) ∧ Below v§ v w' := fun v => fieldOf_any t v
 go_upto_region 13 with fail
 refine wp_region_held_drew (S := fun v => MR w2 w§ v) zK (MR.drew2 (MR.refl _ _)) (fun hHeld => ?_)
 refine wpAnyH_take (i := 0) (v := ?_) rfl zK zK zK (fun _ _ _ h => h) (Or.inl ⟨by rfl,?_⟩) (by assumption) ?_
 rotate_left
 ·(intro v hv; obtain ⟨t0,t1,t2,t3,t4,_⟩ := HKP.out v hv; go_simp; try (with_reducible rfl))
 try simp [Act.put]
 refine wpAnyH_take (i := 2) (v := ?_) rfl zK zK zK (fun _ _ _ h => h) (Or.inl ⟨by rfl,?_⟩) (by assumption) ?_
 rotate_left
 ·(intro v hv; obtain ⟨t0,t1,t2,t3,t4,_⟩ := HKP.out v hv; go_simp; try (with_reducible rfl))
 try simp [Act.put]
 refine wpAnyH_take (i := 3) (v := ?_) rfl zK zK zK (fun _ _ _ h => h) (Or.inl ⟨by rfl,?_⟩) (by assumption) ?_
 rotate_left
 ·(intro v hv; obtain ⟨t0,t1,t2,t3,t4,_⟩ := HKP.out v hv; go_simp; try (with_reducible rfl))
 try simp [Act.put]
 refine wpAnyH_ready (rs := [1]) zK (by simp) ?_
 refine AllReadyH.cons rfl (fun K hK => ?_) AllReadyH.nil
 go_simp
 go_at_call 192
 refine (cY _).mono ?_
 rintro e w6 ⟨rfl,hb6⟩
 have hg6 : GB w2 w6 := GB.call (GB.drew2 (GB.refl _)) hb6
 have hm6 : MR w2 w§ w6 := Mv.ofBelow hg6
 have X6 := (XS.out.on HBL.out hg6).hid
 refine hK.out _ _ hm6 (fun hHeld6 => ?_)
 clear hK K
 try simp [Act.put]
 refine wpAnyH_take (i := 4) (v := ?_) rfl zK zK zK (fun _ _ _ h => h) (Or.inl ⟨by rfl,?_⟩) (by assumption) ?_
 rotate_left
 ·(intro v hv; go_simp; try (with_reducible rfl))
 try simp [Act.put]
 obtain ⟨hZ,Y,eY,hY1,hY2,hY3,hY4,hY5⟩ := X6.out.ret (k2 := 3) (o2 := 0) (ty2 := 0) (n2 := 0) (f2 := (fieldX t.x)) (x2 := gE) (p2 := t.p) (am2 := none) (cm2 := 0) (ks2 := []) HBL.out HGL.out (liesO0 _ (rg_field (HTT.out t (by simp)))) (bkn0 _ _)
 have z0 : w6.cell? ⟨w§,0,none⟩ = some (zU 0) := cell_of hZ 0
 have q0 : w6.frozen? ⟨w§,0,none⟩ = false := frozen_of hZ 0
 have z1 : w6.cell? ⟨w§,1,none⟩ = some (zU 0) := cell_of hZ 1
 have q1 : w6.frozen? ⟨w§,1,none⟩ = false := frozen_of hZ 1
 have z2 : w6.cell? ⟨w§,2,none⟩ = some (zU 0) := cell_of hZ 2
 have q2 : w6.frozen? ⟨w§,2,none⟩ = false := frozen_of hZ 2
 have z3 : w6.cell? ⟨w§,3,none⟩ = some (zI 0) := cell_of hZ 3
 have q3 : w6.frozen? ⟨w§,3,none⟩ = false := frozen_of hZ 3
 have z4 : w6.cell? ⟨w§,4,none⟩ = some (zU 0) := cell_of hZ 4
 have q4 : w6.frozen? ⟨w§,4,none⟩ = false := frozen_of hZ 4
 have z5 : w6.cell? ⟨w§,5,none⟩ = some (.string ⟨#[]⟩) := cell_of hZ 5
 have q5 : w6.frozen? ⟨w§,5,none⟩ = false := frozen_of hZ 5
 have z6 : w6.cell? ⟨w§,6,none⟩ = some (.slice none 0 0) := cell_of hZ 6
 have q6 : w6.frozen? ⟨w§,6,none⟩ = false := frozen_of hZ 6
 have z7 : w6.cell? ⟨w§,7,none⟩ = some (zI 0) := cell_of hZ 7
 have q7 : w6.frozen? ⟨w§,7,none⟩ = false := frozen_of hZ 7
 have HEY : Hid (((((((((w6.setCell ⟨w§,0,none⟩ (zU 3)).setCell ⟨w§,1,none⟩ (zU 0)).setCell ⟨w§,2,none⟩ (zU 0)).setCell ⟨w§,3,none⟩ (zI 0)).setCell ⟨w§,4,none⟩ (zU (fieldX t.x))).setCell ⟨w§,5,none⟩ (.string ⟨#[]⟩)).setCell ⟨w§,6,none⟩ (.slice none 0 0)).setCell ⟨w§,7,none⟩ (zI t.p)) = Y) := eY
 have HY1 : Hid (Y.heap[w§]? = some (.cells (Nd.mk ⟨3,0,0,0,(fieldX t.x),gE,t.p⟩ none 0 []).vals 64 (0,0))) := hY1
 have HYY : Hid (_) := (⟨hY2,hY3,hY4,hY5⟩ : _ ∧ _ ∧ _ ∧ _)
 clear eY hY1 hY2 hY3 hY4 hY5
 refine wpAnyH_ready (rs := [5]) zK (by simp) ?_
 refine AllReadyH.cons rfl (fun K hK => ?_) AllReadyH.nil
 go_simp
 refine hK.out _ _ (by (repeat (first | with_reducible assumption | with_reducible apply MR.set))) (fun hHeld7 => ?_)
 clear hK K
 refine wpAnyH_done zK ?_ _
 rw [HEY.out]
 go_wp2_with fail
 exact bodyPost_ret (results_cell_row rfl _ _ w§ 64 (Nd.mk ⟨3,0,0,0,(fieldX t.x),gE,t.p⟩ none 0 []).vals (0,0) _ rfl HY1.out Tryz.underlying64 rfl zK) rfl ⟨⟨_,rfl,rfl,HYY.out.1,HYY.out.2.1⟩,HYY.out.2.2.1,HYY.out.2.2.2⟩
set_option maxRecDepth 100000 in
set_option maxHeartbeats 8000000 in
theorem one_name (ex : List Tk → Except Ft (Tr × List Tk)) (hS : Subs ex) {w : World} {b G : Nat} {t : Tk} {ts : List Tk} {fa : Int} {fe : Value} {d : Nat} {a : Option Addr} {c : Nat} (h : Rdr w b G (t :: ts) fa fe d a c) (hT : ∀ x ∈ t :: ts,RgT x) (hd : d < 1000) (e1 : (t.x.toList == [40]) = false) (e2 : (t.x.toList == [104,97,115]) = false) (e3 : callX t.x = 0) (e4 : ¬ (1 ≤ tyX t.x ∧ tyX t.x ≤ 4)) (e5 : fieldX t.x = 0) (e6 : t.k = 2)
  (cE : d < 24 → ∀ v ts a c,Rdr v b G ts fa fe (d + 1) a c → (∀ t ∈ ts,RgT t) → Calls zG 46 #[zP b] v (OutN b G fa fe (d + 1) v (ex ts))) :
  Calls zG 184 #[zP b] w (OutN b G fa fe d w (.ok (.mk ⟨2,0,0,0,0,t.x,t.p⟩ [],ts))) := by
 have hb0 := below_new w (.cells zNo 64)
 have h0 := h.on hb0
 have HBL : Hid (b < w§) := h.lt
 have HGL : Hid (G < w§) := h.gl
 have HTT : Hid (∀ x ∈ t :: ts,RgT x) := hT
 have X0 : BX w b G fa fe d (w.alloc (.cells zNo 64)) [] (t :: ts) := ⟨Mv.ofBelow hb0,heap_new _ _,fun p hp => by simp at hp,⟨a,c,h0⟩,hT⟩
 have X0 := X0.hid
 have cL := look_ok h0
 clear h hb0 h0 hT
 have n3 : (callX t.x != 0) = false := by rw [e3]; rfl
 have n4 : decide (1 ≤ tyX t.x ∧ tyX t.x ≤ 4) = false := decide_eq_false e4
 have n5 : (fieldX t.x != 0) = false := by rw [e5]; rfl
 have n6 : (t.k == 2) = true := by rw [e6]; rfl
 clear e6
 go_enter Tryz.func184,Tryz.ntmps184
 go_wp2_with fail
 refine cL.mono ?_
 rintro e w1 ⟨rfl,hb1⟩
 have X1 := (X0.out.on HBL.out hb1).on HBL.out (below_new w1 (.cells #[zU t.k,.string t.x,zU t.ty,zI t.n,zI t.p] 82))
 have HK1 : Hid ((w1.alloc (.cells #[zU t.k,.string t.x,zU t.ty,zI t.n,zI t.p] 82)).heap[w1§]? = some (.cells #[zU t.k,.string t.x,zU t.ty,zI t.n,zI t.p] 82 (0,0))) := heap_new _ _
 obtain ⟨Tb,eTb⟩ : ∃ T,w1§ = T := ⟨_,rfl⟩
 obtain ⟨V1,eV1⟩ : ∃ V,w1.alloc (.cells #[zU t.k,.string t.x,zU t.ty,zI t.n,zI t.p] 82) = V := ⟨_,rfl⟩
 have HV1 : Hid (w1.alloc (.cells #[zU t.k,.string t.x,zU t.ty,zI t.n,zI t.p] 82) = V1) := eV1
 have HTb : Hid (w§ < Tb) := by rw [← eTb]; exact Nat.lt_of_lt_of_le (Array.getElem?_eq_some_iff.1 X0.out.Z).1 hb1.size
 rw [eV1] at X1 HK1
 rw [eTb] at HK1
 have X1 := X1.hid
 have t0 : V1.cell? ⟨Tb,0,none⟩ = some (zU t.k) := cell_of HK1.out 0
 have t1 : V1.cell? ⟨Tb,1,none⟩ = some (.string t.x) := cell_of HK1.out 1
 have t2 : V1.cell? ⟨Tb,2,none⟩ = some (zU t.ty) := cell_of HK1.out 2
 have t3 : V1.cell? ⟨Tb,3,none⟩ = some (zI t.n) := cell_of HK1.out 3
 have t4 : V1.cell? ⟨Tb,4,none⟩ = some (zI t.p) := cell_of HK1.out 4
 have cx1 : (w1.alloc (.cells #[zU t.k,.string t.x,zU t.ty,zI t.n,zI t.p] 82)).cell? ⟨Tb,1,none⟩ = some (.string t.x) := by rw [eV1]; exact t1
 clear cL hb1 X0 eV1
 unfold tkA
 go_wp2_with fail
 try rw [HV1.out]
 clear HV1 cx1
 refine (callOf_any t _).mono ?_
 rintro e V2 ⟨rfl,hb2⟩
 have X2 := (X1.out.on HBL.out hb2).hid
 have HK2 : Hid (V2.heap[Tb]? = some (.cells #[zU t.k,.string t.x,zU t.ty,zI t.n,zI t.p] 82 (0,0))) := (hb2.block _ (Array.getElem?_eq_some_iff.1 HK1.out).1).trans HK1.out
 clear t0 t1 t2 t3 t4 hb2
 have t0 : V2.cell? ⟨Tb,0,none⟩ = some (zU t.k) := cell_of HK2.out 0
 have t1 : V2.cell? ⟨Tb,1,none⟩ = some (.string t.x) := cell_of HK2.out 1
 have t2 : V2.cell? ⟨Tb,2,none⟩ = some (zU t.ty) := cell_of HK2.out 2
 have t3 : V2.cell? ⟨Tb,3,none⟩ = some (zI t.n) := cell_of HK2.out 3
 have t4 : V2.cell? ⟨Tb,4,none⟩ = some (zI t.p) := cell_of HK2.out 4
 go_wp2_with fail
 refine (typeOf_any t _).mono ?_
 rintro e V3 ⟨rfl,hb3⟩
 have X3 := (X2.out.on HBL.out hb3).hid
 have HK3 : Hid (V3.heap[Tb]? = some (.cells #[zU t.k,.string t.x,zU t.ty,zI t.n,zI t.p] 82 (0,0))) := (hb3.block _ (Array.getElem?_eq_some_iff.1 HK2.out).1).trans HK2.out
 clear t0 t1 t2 t3 t4 hb3
 have t0 : V3.cell? ⟨Tb,0,none⟩ = some (zU t.k) := cell_of HK3.out 0
 have t1 : V3.cell? ⟨Tb,1,none⟩ = some (.string t.x) := cell_of HK3.out 1
 have t2 : V3.cell? ⟨Tb,2,none⟩ = some (zU t.ty) := cell_of HK3.out 2
 have t3 : V3.cell? ⟨Tb,3,none⟩ = some (zI t.n) := cell_of HK3.out 3
 have t4 : V3.cell? ⟨Tb,4,none⟩ = some (zI t.p) := cell_of HK3.out 4
 go_wp2_with fail
 refine (number_any (tyX t.x) _).mono ?_
 rintro e V9 ⟨rfl,hV9⟩
 rw [hV9]
 clear hV9
 go_wp2_with fail
 refine (fieldOf_any t _).mono ?_
 rintro e V4 ⟨rfl,hb4⟩
 have X4 := (X3.out.on HBL.out hb4).hid
 have HK4 : Hid (V4.heap[Tb]? = some (.cells #[zU t.k,.string t.x,zU t.ty,zI t.n,zI t.p] 82 (0,0))) := (hb4.block _ (Array.getElem?_eq_some_iff.1 HK3.out).1).trans HK3.out
 clear t0 t1 t2 t3 t4 hb4
 have t0 : V4.cell? ⟨Tb,0,none⟩ = some (zU t.k) := cell_of HK4.out 0
 have t1 : V4.cell? ⟨Tb,1,none⟩ = some (.string t.x) := cell_of HK4.out 1
 have t2 : V4.cell? ⟨Tb,2,none⟩ = some (zU t.ty) := cell_of HK4.out 2
 have t3 : V4.cell? ⟨Tb,3,none⟩ = some (zI t.n) := cell_of HK4.out 3
 have t4 : V4.cell? ⟨Tb,4,none⟩ = some (zI t.p) := cell_of HK4.out 4
 go_wp2_with fail
 obtain ⟨a9,c9,h9⟩ := X4.out.R
 refine (step_ok h9).mono ?_
 rintro e w2 ⟨rfl,hr2,hm2⟩
 have XS := (X4.out.mv HBL.out hm2 hr2 (fun x hx => List.mem_cons_of_mem _ hx)).hid
 have HKS : Hid (w2.heap[Tb]? = some (.cells #[zU t.k,.string t.x,zU t.ty,zI t.n,zI t.p] 82 (0,0))) := (hm2.block _ (Array.getElem?_eq_some_iff.1 HK4.out).1 (by have := HBL.out; have := HTb.out; omega)).trans HK4.out
 clear hm2 hr2 h9 t0 t1 t2 t3 t4
 have t0 : w2.cell? ⟨Tb,0,none⟩ = some (zU t.k) := cell_of HKS.out 0
 have t1 : w2.cell? ⟨Tb,1,none⟩ = some (.string t.x) := cell_of HKS.out 1
 have t2 : w2.cell? ⟨Tb,2,none⟩ = some (zU t.ty) := cell_of HKS.out 2
 have t3 : w2.cell? ⟨Tb,3,none⟩ = some (zI t.n) := cell_of HKS.out 3
 have t4 : w2.cell? ⟨Tb,4,none⟩ = some (zI t.p) := cell_of HKS.out 4
 obtain ⟨hZ,Y,eY,hY1,hY2,hY3,hY4,hY5⟩ := XS.out.ret (k2 := 2) (o2 := 0) (ty2 := 0) (n2 := 0) (f2 := 0) (x2 := t.x) (p2 := t.p) (am2 := none) (cm2 := 0) (ks2 := []) HBL.out HGL.out (liesO0 _ (rg_name (HTT.out t (by simp)))) (bkn0 _ _)
 have z0 : w2.cell? ⟨w§,0,none⟩ = some (zU 0) := cell_of hZ 0
 have q0 : w2.frozen? ⟨w§,0,none⟩ = false := frozen_of hZ 0
 have z1 : w2.cell? ⟨w§,1,none⟩ = some (zU 0) := cell_of hZ 1
 have q1 : w2.frozen? ⟨w§,1,none⟩ = false := frozen_of hZ 1
 have z2 : w2.cell? ⟨w§,2,none⟩ = some (zU 0) := cell_of hZ 2
 have q2 : w2.frozen? ⟨w§,2,none⟩ = false := frozen_of hZ 2
 have z3 : w2.cell? ⟨w§,3,none⟩ = some (zI 0) := cell_of hZ 3
 have q3 : w2.frozen? ⟨w§,3,none⟩ = false := frozen_of hZ 3
 have z4 : w2.cell? ⟨w§,4,none⟩ = some (zU 0) := cell_of hZ 4
 have q4 : w2.frozen? ⟨w§,4,none⟩ = false := frozen_of hZ 4
 have z5 : w2.cell? ⟨w§,5,none⟩ = some (.string ⟨#[]⟩) := cell_of hZ 5
 have q5 : w2.frozen? ⟨w§,5,none⟩ = false := frozen_of hZ 5
 have z6 : w2.cell? ⟨w§,6,none⟩ = some (.slice none 0 0) := cell_of hZ 6
 have q6 : w2.frozen? ⟨w§,6,none⟩ = false := frozen_of hZ 6
 have z7 : w2.cell? ⟨w§,7,none⟩ = some (zI 0) := cell_of hZ 7
 have q7 : w2.frozen? ⟨w§,7,none⟩ = false := frozen_of hZ 7
 have HEY : Hid (((((((((w2.setCell ⟨w§,0,none⟩ (zU 2)).setCell ⟨w§,1,none⟩ (zU 0)).setCell ⟨w§,2,none⟩ (zU 0)).setCell ⟨w§,3,none⟩ (zI 0)).setCell ⟨w§,4,none⟩ (zU 0)).setCell ⟨w§,5,none⟩ (.string t.x)).setCell ⟨w§,6,none⟩ (.slice none 0 0)).setCell ⟨w§,7,none⟩ (zI t.p)) = Y) := eY
 have HY1 : Hid (Y.heap[w§]? = some (.cells (Nd.mk ⟨2,0,0,0,0,t.x,t.p⟩ none 0 []).vals 64 (0,0))) := hY1
 have HYY : Hid (_) := (⟨hY2,hY3,hY4,hY5⟩ : _ ∧ _ ∧ _ ∧ _)
 clear eY hY1 hY2 hY3 hY4 hY5
 go_wp2_with fail
 rw [HEY.out]
 exact bodyPost_ret (results_cell_row rfl _ _ w§ 64 (Nd.mk ⟨2,0,0,0,0,t.x,t.p⟩ none 0 []).vals (0,0) _ rfl HY1.out Tryz.underlying64 rfl zK) rfl ⟨⟨_,rfl,rfl,HYY.out.1,HYY.out.2.1⟩,HYY.out.2.2.1,HYY.out.2.2.2⟩
theorem gOne_s (ex : List Tk → Except Ft (Tr × List Tk)) (d : Nat) (t : Tk) (ts : List Tk) : gOne ex d (t :: ts) =
  if (t.x.toList == [40]) = true then gBrk ex d (t :: ts)
  else if (t.x.toList == [104,97,115]) = true then gHas (t :: ts)
  else if callX t.x ≠ 0 then gCall ex d (t :: ts)
  else if 1 ≤ tyX t.x ∧ tyX t.x ≤ 4 then gConv ex d (t :: ts)
  else if fieldX t.x ≠ 0 then .ok (.mk ⟨3,0,0,0,fieldX t.x,gE,t.p⟩ [],ts)
  else if t.k = 2 then .ok (.mk ⟨2,0,0,0,0,t.x,t.p⟩ [],ts)
  else gLit (t :: ts) := by
 have hh : ∀ (e : Ft),(Except.error e : Except Ft (Tr × List Tk)) = .error e := fun _ => rfl
 unfold gOne
 simp only [gLook,bind,Except.bind,eqX]
 by_cases h1 : (t.x.toList == [40]) = true
 ·simp only [h1,if_true]
  unfold gBrk gIn
  cases gOpn d (t :: ts) with
  | error e => rfl
  | ok q =>
   simp only [bind,Except.bind]
 simp only [h1]
 by_cases h2 : (t.x.toList == [104,97,115]) = true
 ·simp only [h2,if_true]
  unfold gHas
  simp only [bind,Except.bind]
  rfl
 simp only [h2]
 by_cases h3 : callX t.x ≠ 0
 ·rw [if_pos h3]
  simp only [Bool.false_eq_true,if_false]
  rw [if_pos h3]
  unfold gCall gCallM gIn
  cases h4 : gOpn d (t :: ts) with
  | error e => rfl
  | ok q =>
   obtain ⟨u,r⟩ := q
   obtain ⟨rfl,rfl⟩ : t = u ∧ ts = r := by have := gOpn_mem h4; cases this; exact ⟨rfl,rfl⟩
   simp only
   cases gTake (gB [40]) ts with
   | error e => rfl
   | ok q =>
    simp only
    by_cases h5 : callX t.x = 3
    ·simp only [h5,if_true,bind,Except.bind]
     cases ex q.2 with
     | error e => rfl
     | ok q =>
      simp only
      cases gTake (gB [41]) q.2 with
      | error e => rfl
      | ok q => rfl
    ·simp only [if_neg h5,bind,Except.bind]
     cases ex q.2 with
     | error e => rfl
     | ok q =>
      simp only
      cases gTake (gB [44]) q.2 with
      | error e => rfl
      | ok q =>
       simp only
       cases ex q.2 with
       | error e => rfl
       | ok q =>
        simp only
        cases gTake (gB [41]) q.2 with
        | error e => rfl
        | ok q => rfl
 simp only [Bool.false_eq_true,if_false,if_neg h3]
 by_cases h4 : 1 ≤ tyX t.x ∧ tyX t.x ≤ 4
 ·rw [if_pos h4,if_pos h4]
  unfold gConv gIn
  cases h5 : gOpn d (t :: ts) with
  | error e => rfl
  | ok q =>
   obtain ⟨u,r⟩ := q
   obtain ⟨rfl,rfl⟩ : t = u ∧ ts = r := by have := gOpn_mem h5; cases this; exact ⟨rfl,rfl⟩
   simp only
   cases gTake (gB [40]) ts with
   | error e => rfl
   | ok q =>
    simp only [bind,Except.bind]
    cases ex q.2 with
    | error e => rfl
    | ok q =>
     simp only
     cases gTake (gB [41]) q.2 with
     | error e => rfl
     | ok q => rfl
 rw [if_neg h4,if_neg h4]
 by_cases h5 : fieldX t.x ≠ 0
 ·rw [if_pos h5,if_pos h5]; rfl
 rw [if_neg h5,if_neg h5]
 by_cases h6 : t.k = 2
 ·rw [if_pos h6,if_pos h6]; rfl
 rw [if_neg h6,if_neg h6]
set_option maxRecDepth 100000 in
theorem one_any (ex : List Tk → Except Ft (Tr × List Tk)) (hS : Subs ex) {w : World} {b G : Nat} {ts : List Tk} {fa : Int} {fe : Value} {d : Nat} {a : Option Addr} {c : Nat} (h : Rdr w b G ts fa fe d a c) (hT : ∀ x ∈ ts,RgT x) (hd : d < 1000)
  (cE : d < 24 → ∀ v ts a c,Rdr v b G ts fa fe (d + 1) a c → (∀ t ∈ ts,RgT t) → Calls zG 46 #[zP b] v (OutN b G fa fe (d + 1) v (ex ts))) :
  Calls zG 184 #[zP b] w (OutN b G fa fe d w (gOne ex d ts)) := by
 cases ts with
 | nil =>
  have hb0 := below_new w (.cells zNo 64)
  have cL := look_no (h.on hb0)
  have HB0 : Hid (Below w§ w (w.alloc (.cells zNo 64))) := hb0
  have eG : gOne ex d [] = .error .lex := by simp [gOne,gLook,bind,Except.bind]
  rw [eG]
  clear cE h hb0 eG
  go_enter Tryz.func184,Tryz.ntmps184
  go_wp2_with fail
  refine cL.mono ?_
  rintro e w1 ⟨rfl,hb⟩
  exact ⟨rfl,rfl,Mv.ofBelow (below2 HB0.out hb)⟩
 | cons t ts =>
  rw [gOne_s]
  by_cases h1 : (t.x.toList == [40]) = true
  ·rw [if_pos h1]; exact one_brk ex hS h hT hd h1 cE
  rw [if_neg h1]
  have h1 : (t.x.toList == [40]) = false := by simpa using h1
  by_cases h2 : (t.x.toList == [104,97,115]) = true
  ·rw [if_pos h2]; exact one_has ex hS h hT hd h1 h2 cE
  rw [if_neg h2]
  have h2 : (t.x.toList == [104,97,115]) = false := by simpa using h2
  by_cases h3 : callX t.x ≠ 0
  ·rw [if_pos h3]; exact one_call ex hS h hT hd h1 h2 h3 cE
  rw [if_neg h3]
  have h3 : callX t.x = 0 := Classical.not_not.1 h3
  by_cases h4 : 1 ≤ tyX t.x ∧ tyX t.x ≤ 4
  ·rw [if_pos h4]; exact one_conv ex hS h hT hd h1 h2 h3 h4 cE
  rw [if_neg h4]
  by_cases h5 : fieldX t.x ≠ 0
  ·rw [if_pos h5]; exact one_field ex hS h hT hd h1 h2 h3 h4 h5 cE
  rw [if_neg h5]
  have h5 : fieldX t.x = 0 := Classical.not_not.1 h5
  by_cases h6 : t.k = 2
  ·rw [if_pos h6]; exact one_name ex hS h hT hd h1 h2 h3 h4 h5 h6 cE
  rw [if_neg h6]
  exact one_lit ex hS h hT hd h1 h2 h3 h4 h5 h6 cE
theorem ex_all (b G : Nat) (fa : Int) (fe : Value) : ∀ (f d : Nat),25 ≤ f + d → d < 1000 →
  (∀ v ts a c,Rdr v b G ts fa fe d a c → (∀ t ∈ ts,RgT t) → Calls zG 180 #[zP b] v (OutN b G fa fe d v (unF (f + 1) d ts))) ∧
  (∀ v ts a c,Rdr v b G ts fa fe d a c → (∀ t ∈ ts,RgT t) → Calls zG 46 #[zP b] v (OutN b G fa fe d v (exF (f + 1) d ts))) := by
 intro f
 induction f with
 | zero =>
  intro d h1 h2
  have s := exF_sub 0 (d + 1)
  exact ex_step (exF 0 (d + 1)) (unF 0 (d + 1)) s.1 s.2 h2 (fun v ts a c h hT => one_any _ s.1 h hT h2 (fun h24 => by omega)) (fun h24 => by omega) (fun h24 => by omega)
 | succ f ih =>
  intro d h1 h2
  have s := exF_sub (f + 1) (d + 1)
  have cE : d < 24 → ∀ v ts a c,Rdr v b G ts fa fe (d + 1) a c → (∀ t ∈ ts,RgT t) → Calls zG 46 #[zP b] v (OutN b G fa fe (d + 1) v (exF (f + 1) (d + 1) ts)) := fun h24 => (ih (d + 1) (by omega) (by omega)).2
  have cU : d < 24 → ∀ v ts a c,Rdr v b G ts fa fe (d + 1) a c → (∀ t ∈ ts,RgT t) → Calls zG 180 #[zP b] v (OutN b G fa fe (d + 1) v (unF (f + 1) (d + 1) ts)) := fun h24 => (ih (d + 1) (by omega) (by omega)).1
  exact ex_step (exF (f + 1) (d + 1)) (unF (f + 1) (d + 1)) s.1 s.2 h2 (fun v ts a c h hT => one_any _ s.1 h hT h2 cE) cU cE
theorem exprT_any {w : World} {b G : Nat} {ts : List Tk} {fa : Int} {fe : Value} {a : Option Addr} {c : Nat} (h : Rdr w b G ts fa fe 0 a c) (hT : ∀ t ∈ ts,RgT t) : Calls zG 46 #[zP b] w (OutN b G fa fe 0 w (exprT ts)) :=
 (ex_all b G fa fe 25 0 (by omega) (by omega)).2 w ts a c h hT
def rdT (s : ByteArray) : List Tk := if tksE s = 0 then tksL s else allL s
def FeAt (w : World) (s : ByteArray) (fa : Int) (fe : Value) : Prop :=
 (tksE s = 0 → fa = 0 ∧ fe = .nilIface) ∧
 (tksE s ≠ 0 → fa = tksB s ∧ ∃ F,fe = .iface 74 (zP F) ∧ w.heap[F]? = some (.cells #[.string ZK,zI (tksB s),.iface 48 (zI (tksE s))] 76 (0,0)))
theorem FeAt.on {w w' : World} {s : ByteArray} {fa : Int} {fe : Value} (h : FeAt w s fa fe) (k : ∀ b,b < w§ → (∀ F,fe = .iface 74 (zP F) → b = F → w'.heap[b]? = w.heap[b]?)) : FeAt w' s fa fe :=
 ⟨h.1,fun e => ⟨(h.2 e).1,by
  obtain ⟨F,h1,h2⟩ := (h.2 e).2
  exact ⟨F,h1,(k F (Array.getElem?_eq_some_iff.1 h2).1 F h1 rfl).trans h2⟩⟩⟩
theorem tkF_c (A : Nat → Tk) (i : Nat) : tkF A (i * 5) = zU (A i).k ∧ tkF A (i * 5 + 1) = .string (A i).x ∧ tkF A (i * 5 + 2) = zU (A i).ty ∧ tkF A (i * 5 + 3) = zI (A i).n ∧ tkF A (i * 5 + 4) = zI (A i).p := by
 unfold tkF
 rw [show i * 5 / 5 = i by omega,show i * 5 % 5 = 0 by omega,show (i * 5 + 1) / 5 = i by omega,show (i * 5 + 1) % 5 = 1 by omega,show (i * 5 + 2) / 5 = i by omega,show (i * 5 + 2) % 5 = 2 by omega,show (i * 5 + 3) / 5 = i by omega,show (i * 5 + 3) % 5 = 3 by omega,show (i * 5 + 4) / 5 = i by omega,show (i * 5 + 4) % 5 = 4 by omega]
 exact ⟨rfl,rfl,rfl,rfl,rfl⟩
theorem lsF_nth {L : List Tk} {i : Nat} (h : i < L.length) : lsF L i = L[i] := by
 unfold lsF
 rw [List.getD_eq_getElem?_getD,List.getElem?_eq_getElem h]; rfl
theorem rl_rdr {w Y : World} {v : Value} {L : List Tk} {b : Nat} {fa : Int} {fe : Value} (h : RL w Y v L) (hv : ∀ k,v.ownBlock = some k → k ≠ b) (hb0 : 0 < b) (hl : L.length ≤ 9223372036854775807) (hb : Y.heap[b]? = some (.cells #[v,zI fa,fe,zI 0] 207 (0,0))) :
  ∃ G a c,Rdr Y b G L fa fe 0 a c ∧ (G = 0 ∨ w§ ≤ G) := by
 have hbl := (Array.getElem?_eq_some_iff.1 hb).1
 have hrow := h.row
 rcases h.row.2 with ⟨rfl,e⟩ | ⟨g,cap,cur,rfl,_,_,hc1,hc2,_⟩
 ·have e' : L = [] := List.length_eq_zero_iff.1 e
  subst e'
  exact ⟨0,none,0,⟨hb,by simp,by simp,by simp,by omega,by omega,fun i hi => by simp at hi⟩,.inl rfl⟩
 ·have hg : (Value.slice (some ⟨g,0,none⟩) L.length cap).ownBlock = some g := rfl
  refine ⟨g,some ⟨g,0,none⟩,cap,⟨hb,hc1,hc2,by simp,hv g hg,hrow.lt g hg,fun i hi => ⟨0,rfl,?_⟩⟩,.inr (h.nb g hg)⟩
  obtain ⟨e0,e1,e2,e3,e4⟩ := tkF_c (lsF L) i
  rw [lsF_nth hi] at e0 e1 e2 e3 e4
  rw [Nat.zero_add]
  exact ⟨by rw [Row.cell hrow (by omega),e0],by rw [Row.cell hrow (by omega),e1],by rw [Row.cell hrow (by omega),e2],by rw [Row.cell hrow (by omega),e3],by rw [Row.cell hrow (by omega),e4]⟩
theorem tksL_len (s : ByteArray) : (tksL s).length ≤ 4098 := by
 by_cases h : tksE s = 0
 ·have := (tks_len h).2.1; omega
 ·unfold tksL; rw [if_neg h]; simp
theorem allL_len2 (s : ByteArray) : (allL s).length ≤ 4096 := by
 by_cases h : s.size > 4096
 ·unfold allL; rw [if_pos h]; simp
 ·have := allL_len s; omega
set_option maxRecDepth 100000 in
set_option maxHeartbeats 4000000 in
theorem new_any (s : ByteArray) (hs : s.size ≤ 4194304) (w : World) (ht : Tab w) :
  Calls zG 62 #[.string s] w fun e w' => ∃ b G a c fa fe,e = .returned (zP b) ∧ Rdr w' b G (rdT s) fa fe 0 a c ∧ (G = 0 ∨ w§ ≤ G) ∧ w§ ≤ b ∧ FeAt w' s fa fe ∧ (∀ F,fe = .iface 74 (zP F) → F ≠ b) ∧ Below w§ w w' := by
 have cT := tokensp_any s w ht
 have hpos := ht.pos
 by_cases h0 : tksE s = 0
 ·have HF : Hid (∀ w',FeAt w' s 0 .nilIface) := fun w' => ⟨fun _ => ⟨rfl,rfl⟩,fun e => absurd h0 e⟩
  have HR : Hid (rdT s = tksL s) := by show _ = _; unfold rdT; rw [if_pos h0]
  have HLn : Hid ((tksL s).length ≤ 9223372036854775807) := by have := tksL_len s; show _ ≤ _; omega
  rw [h0] at cT
  clear h0
  go_enter Tryz.func62,Tryz.ntmps62
  go_wp2_with fail
  refine cT.mono ?_
  rintro e w1 ⟨v,rfl,hr⟩
  obtain ⟨ao,cap,rfl⟩ := hr.sl
  have HRL := hr.hid
  clear cT hr
  go_wp2_with fail
  go_ret
  have hbn := below_new w1 (.cells #[.slice ao (tksL s).length cap,zI 0,.nilIface,zI 0] 207)
  have h1 : w§ ≤ w1§ := HRL.out.B.size
  obtain ⟨G,a,c,h2,h3⟩ := rl_rdr (HRL.out.call hbn) (b := w1§) (fun k hk e => by have := HRL.out.row.lt k hk; omega) (by omega) HLn.out (heap_new _ _)
  exact ⟨_,G,a,c,0,.nilIface,rfl,by rw [HR.out]; exact h2,h3,h1,HF.out _,(fun F e => by cases e),below2 HRL.out.B hbn⟩
 ·have HF : Hid (∀ w' F,w'.heap[F]? = some (.cells #[.string ZK,zI (tksB s),.iface 48 (zI (tksE s))] 76 (0,0)) → FeAt w' s (tksB s) (.iface 74 (zP F))) := fun w' F h => ⟨fun e => absurd e h0,fun _ => ⟨rfl,F,rfl,h⟩⟩
  have HR : Hid (rdT s = allL s) := by show _ = _; unfold rdT; rw [if_neg h0]
  have HLn : Hid ((allL s).length ≤ 9223372036854775807) := by have := allL_len2 s; show _ ≤ _; omega
  have hne : (tksE s == 0) = false := beq_false_of_ne h0
  have cA := fun v => all_any s v
  obtain ⟨E,eE⟩ : ∃ E,tksE s = E := ⟨_,rfl⟩
  obtain ⟨B,eB⟩ : ∃ B,tksB s = B := ⟨_,rfl⟩
  rw [eE] at cT hne HF
  rw [eB] at cT HF
  clear h0 eE eB
  go_enter Tryz.func62,Tryz.ntmps62
  go_wp2_with fail
  refine cT.mono ?_
  rintro e w1 ⟨v,rfl,hr⟩
  obtain ⟨ao,cap,rfl⟩ := hr.sl
  have HB1 : Hid (Below w§ w w1) := hr.B
  clear cT hr
  go_wp2_with fail
  refine (cA _).mono ?_
  rintro e w2 ⟨rfl,e2⟩
  have hb2 : Below w1§ w1 w2 := by rw [e2]; exact below_new _ _
  have hx2 : Boxed w2 w1§ 9 (.string s) := by rw [e2]; exact Boxed.new w1 9 _
  have HB2 : Hid (Below w§ w w2) := below2 HB1.out hb2
  have cC := collect_any s hs w1§ w2 (ht.on HB2.out) hx2
  clear e2 hb2 hx2 cA
  go_wp2_with fail
  refine cC.mono ?_
  rintro e w3 ⟨v3,rfl,hr3⟩
  obtain ⟨ao3,cap3,rfl⟩ := hr3.sl
  have HR3 := hr3.hid
  have HB3 : Hid (Below w§ w w3) := below2 HB2.out hr3.B
  clear cC hr3
  obtain ⟨V4,eV4⟩ : ∃ V,w3.alloc (.cells #[.string ZK,zI B,.iface 48 (zI E)] 76) = V := ⟨_,rfl⟩
  have b4 : Below w3§ w3 V4 := by rw [← eV4]; exact below_new _ _
  have HF4 : Hid (V4.heap[w3§]? = some (.cells #[.string ZK,zI B,.iface 48 (zI E)] 76 (0,0))) := by rw [← eV4]; exact heap_new _ _
  have s4 : Hid (V4§ = w3§ + 1) := by rw [← eV4]; exact size_alloc _ _
  have HR4 := (HR3.out.call b4).hid
  have HB4 : Hid (Below w§ w V4) := below2 HB3.out b4
  have HEV : Hid (w3.alloc (.cells #[.string ZK,zI B,.iface 48 (zI E)] 76) = V4) := eV4
  clear eV4 b4
  go_wp2_with fail
  go_ret
  have hbn := below_new V4 (.cells #[.slice ao3 (allL s).length cap3,zI B,.iface 74 (zP w3§),zI 0] 207)
  have h1 := HB4.out.size
  have h2s := s4.out
  obtain ⟨G,a,c,h2,h3⟩ := rl_rdr (HR4.out.call hbn) (b := V4§) (fun k hk e => by have := HR4.out.row.lt k hk; omega) (by omega) HLn.out (heap_new _ _)
  refine ⟨V4§,G,a,c,B,_,?_,by rw [HR.out]; first | exact h2 | (rw [HEV.out]; exact h2),?_,h1,?_,?_,?_⟩
  ·first | rfl | (rw [← HEV.out]; simp)
  ·rcases h3 with h3 | h3
   ·exact .inl h3
   ·exact .inr (Nat.le_trans HB2.out.size h3)
  ·refine HF.out _ _ ?_
   rw [HEV.out]
   exact (hbn.block _ (by omega)).trans HF4.out
  ·intro F e; cases e; omega
  ·rw [HEV.out]; exact below2 HB4.out hbn
end Go.Proofs.YtkfabnchhjfjjaaGreatDoor
