import Derived.Test.YtkfabnchhjfjjaaGreatDoorA0
import Derived.Test.YtkfabnchhjfjjaaGreatDoorA8
namespace Go.Proofs.YtkfabnchhjfjjaaGreatDoor
open Go.RowKit
def gCh (ro : Except Ft (Tr × List Tk)) (ex : List Tk → Except Ft (Tr × List Tk)) (d : Nat) : Except Ft (Tr × List Tk) :=
 match ro with
 | .error e => .error e
 | .ok (n,r) => match r with
  | [] => .error .lex
  | t :: r2 => if t.x = gB [63] then (match gOpn d (t :: r2) with
   | .error e => .error e
   | .ok (u,r3) => match ex r3 with
    | .error e => .error e
    | .ok (y,r4) => match gTake (gB [58]) r4 with
     | .error e => .error e
     | .ok (_,r5) => match ex r5 with
      | .error e => .error e
      | .ok (z,r6) => .ok (.mk ⟨7,0,0,0,0,gE,u.p⟩ [n,y,z],r6)) else .ok (n,t :: r2)
set_option maxRecDepth 100000 in
set_option maxHeartbeats 4000000 in
theorem expr_any (ex : List Tk → Except Ft (Tr × List Tk)) (hS : Subs ex) (ro : Except Ft (Tr × List Tk)) {ts : List Tk} (hro : ∀ t r,ro = .ok (t,r) → ∀ x ∈ r,x ∈ ts)
  {w : World} {b G : Nat} {fa : Int} {fe : Value} {d : Nat} {a : Option Addr} {c : Nat} (h : Rdr w b G ts fa fe d a c) (hT : ∀ t ∈ ts,RgT t) (hd : d < 1000)
  (cO : ∀ v a c,Rdr v b G ts fa fe d a c → Calls zG 86 #[zP b] v (OutN b G fa fe d v ro))
  (cE : d < 24 → ∀ v ts a c,Rdr v b G ts fa fe (d + 1) a c → (∀ t ∈ ts,RgT t) → Calls zG 46 #[zP b] v (OutN b G fa fe (d + 1) v (ex ts))) :
  Calls zG 46 #[zP b] w (OutN b G fa fe d w (gCh ro ex d)) := by
 have hmf : ∀ (fn : Fn) (first cap : Array Value) (w : World),(Instr.makeFunc fn first cap).run Tryz.prog w = .ok (.func fn first cap) w := fun _ _ _ _ => rfl
 have hb0 := below_new w (.cells zNo 64)
 have h0 := h.on hb0
 have HBL : Hid (b < w§) := h.lt
 have HGL : Hid (G < w§) := h.gl
 have HX0 : Hid (BX w b G fa fe d (w.alloc (.cells zNo 64)) [] ts) := ⟨Mv.ofBelow hb0,heap_new _ _,fun p hp => (by cases hp),⟨_,_,h0⟩,hT⟩
 have cR := cO _ _ _ h0
 clear h h0 hb0 cO
 cases ro with
 | error f =>
  show Calls _ _ _ _ (OutN b G fa fe d w (.error f))
  clear cE
  go_enter Tryz.func46,Tryz.ntmps46
  go_wp2_with fail
  refine cR.mono ?_
  rintro e w1 ⟨rfl,hm⟩
  exact ⟨rfl,rfl,HX0.out.M.trans hm (fun k e => .inl e)⟩
 | ok q =>
 obtain ⟨t1,R1⟩ := q
 have HS1 : Hid (∀ x ∈ R1,x ∈ ts) := hro _ _ rfl
 have HT1 : Hid (∀ t ∈ R1,RgT t) := fun t ht => hT t (HS1.out t ht)
 clear hro hT
 cases R1 with
 | nil =>
  show Calls _ _ _ _ (OutN b G fa fe d w (.error .lex))
  clear cE
  go_enter Tryz.func46,Tryz.ntmps46
  go_wp2_with fail
  refine cR.mono ?_
  rintro e w1 ⟨⟨m,rfl,rfl,hl,hk⟩,hr,hm⟩
  obtain ⟨⟨k2,o2,ty2,n2,f2,x2,p2⟩,am2,cm2,ks2⟩ := m
  have HX1 : Hid (BX w b G fa fe d (w1.alloc (.cells #[zU k2,zU o2,zU ty2,zI n2,zU f2,.string x2,.slice am2 ks2.length cm2,zI p2] 64)) [(w1§,(.mk ⟨k2,o2,ty2,n2,f2,x2,p2⟩ am2 cm2 ks2))] []) := (HX0.out.mv HBL.out hm hr HS1.out).push HBL.out hl (hk.mono fun j hj => by rw [size_alloc] at hj; omega)
  clear cR hl hk hr hm
  simp only [Nd.vals,Nd.h,Nd.a,Nd.c,Nd.ks,hdA]
  obtain ⟨aB,cB,hrB⟩ := HX1.out.R
  have cI := is_no hrB Zh
  clear hrB
  go_wp2_with fail
  refine cI.mono ?_
  rintro e w2 ⟨rfl,hb⟩
  exact ⟨rfl,rfl,HX1.out.M.trans (Mv.ofBelow hb) (fun k e => .inl e)⟩
 | cons t r2 =>
 by_cases e2 : t.x = gB [63]
 case neg =>
  have eG : gCh (.ok (t1,t :: r2)) ex d = .ok (t1,t :: r2) := by simp only [gCh,if_neg e2]
  rw [eG]
  clear eG cE
  go_enter Tryz.func46,Tryz.ntmps46
  go_wp2_with fail
  refine cR.mono ?_
  rintro e w1 ⟨⟨m,rfl,rfl,hl,hk⟩,hr,hm⟩
  obtain ⟨⟨k2,o2,ty2,n2,f2,x2,p2⟩,am2,cm2,ks2⟩ := m
  have HX1 : Hid (BX w b G fa fe d (w1.alloc (.cells #[zU k2,zU o2,zU ty2,zI n2,zU f2,.string x2,.slice am2 ks2.length cm2,zI p2] 64)) [(w1§,(.mk ⟨k2,o2,ty2,n2,f2,x2,p2⟩ am2 cm2 ks2))] (t :: r2)) := (HX0.out.mv HBL.out hm hr HS1.out).push HBL.out hl (hk.mono fun j hj => by rw [size_alloc] at hj; omega)
  clear cR hl hk hr hm
  simp only [Nd.vals,Nd.h,Nd.a,Nd.c,Nd.ks,hdA]
  obtain ⟨aB,cB,hrB⟩ := HX1.out.R
  have cI : Calls zG 87 #[zP b,.string Zh] (w1.alloc (.cells #[zU k2,zU o2,zU ty2,zI n2,zU f2,.string x2,.slice am2 ks2.length cm2,zI p2] 64)) fun e w' => e = .returned (.bool false) ∧ Below (w1.alloc (.cells #[zU k2,zU o2,zU ty2,zI n2,zU f2,.string x2,.slice am2 ks2.length cm2,zI p2] 64))§ (w1.alloc (.cells #[zU k2,zU o2,zU ty2,zI n2,zU f2,.string x2,.slice am2 ks2.length cm2,zI p2] 64)) w' := by
   have := is_ok hrB (gB [63])
   rw [decide_eq_false e2] at this
   exact this
  clear hrB
  go_wp2_with fail
  refine cI.mono ?_
  rintro e w2 ⟨rfl,hb⟩
  have HX2 := (HX1.out.on HBL.out hb).hid
  clear hb cI
  have hg2 := (HX2.out.B _ (List.mem_cons_self ..)).1
  have hZ2 := HX2.out.Z
  obtain ⟨Y,eY,hY1,hY2,hY3,hY4,hY5⟩ := HX2.out.fin HBL.out HGL.out
  have y0 : w2.cell? ⟨w1§,0,none⟩ = some (zU k2) := cell_of hg2 0
  have z0 : w2.cell? ⟨w§,0,none⟩ = some (zU 0) := cell_of hZ2 0
  have q0 : w2.frozen? ⟨w§,0,none⟩ = false := frozen_of hZ2 0
  have y1 : w2.cell? ⟨w1§,1,none⟩ = some (zU o2) := cell_of hg2 1
  have z1 : w2.cell? ⟨w§,1,none⟩ = some (zU 0) := cell_of hZ2 1
  have q1 : w2.frozen? ⟨w§,1,none⟩ = false := frozen_of hZ2 1
  have y2 : w2.cell? ⟨w1§,2,none⟩ = some (zU ty2) := cell_of hg2 2
  have z2 : w2.cell? ⟨w§,2,none⟩ = some (zU 0) := cell_of hZ2 2
  have q2 : w2.frozen? ⟨w§,2,none⟩ = false := frozen_of hZ2 2
  have y3 : w2.cell? ⟨w1§,3,none⟩ = some (zI n2) := cell_of hg2 3
  have z3 : w2.cell? ⟨w§,3,none⟩ = some (zI 0) := cell_of hZ2 3
  have q3 : w2.frozen? ⟨w§,3,none⟩ = false := frozen_of hZ2 3
  have y4 : w2.cell? ⟨w1§,4,none⟩ = some (zU f2) := cell_of hg2 4
  have z4 : w2.cell? ⟨w§,4,none⟩ = some (zU 0) := cell_of hZ2 4
  have q4 : w2.frozen? ⟨w§,4,none⟩ = false := frozen_of hZ2 4
  have y5 : w2.cell? ⟨w1§,5,none⟩ = some (.string x2) := cell_of hg2 5
  have z5 : w2.cell? ⟨w§,5,none⟩ = some (.string ⟨#[]⟩) := cell_of hZ2 5
  have q5 : w2.frozen? ⟨w§,5,none⟩ = false := frozen_of hZ2 5
  have y6 : w2.cell? ⟨w1§,6,none⟩ = some (.slice am2 ks2.length cm2) := cell_of hg2 6
  have z6 : w2.cell? ⟨w§,6,none⟩ = some (.slice none 0 0) := cell_of hZ2 6
  have q6 : w2.frozen? ⟨w§,6,none⟩ = false := frozen_of hZ2 6
  have y7 : w2.cell? ⟨w1§,7,none⟩ = some (zI p2) := cell_of hg2 7
  have z7 : w2.cell? ⟨w§,7,none⟩ = some (zI 0) := cell_of hZ2 7
  have q7 : w2.frozen? ⟨w§,7,none⟩ = false := frozen_of hZ2 7
  have HEY : Hid (_ = Y) := eY
  have HY1 : Hid (Y.heap[w§]? = some (.cells (Nd.mk ⟨k2,o2,ty2,n2,f2,x2,p2⟩ am2 cm2 ks2).vals 64 (0,0))) := hY1
  have HYY : Hid (LiesO Y (.mk ⟨k2,o2,ty2,n2,f2,x2,p2⟩ am2 cm2 ks2) ∧ Bkn (fun k => w§ ≤ k ∧ k < Y§) (.mk ⟨k2,o2,ty2,n2,f2,x2,p2⟩ am2 cm2 ks2) ∧ (∃ a c,Rdr Y b G (t :: r2) fa fe d a c) ∧ Mv w Y (fun k => k = b)) := ⟨hY2,hY3,hY4,hY5⟩
  clear eY hY1 hY2 hY3 hY4 hY5 hZ2 hg2
  go_wp2_with fail
  rw [HEY.out]
  exact bodyPost_ret (results_cell_row rfl _ _ w§ 64 (Nd.mk ⟨k2,o2,ty2,n2,f2,x2,p2⟩ am2 cm2 ks2).vals (0,0) _ rfl HY1.out Tryz.underlying64 rfl zK) rfl ⟨⟨_,rfl,rfl,HYY.out.1,HYY.out.2.1⟩,HYY.out.2.2.1,HYY.out.2.2.2⟩
 case pos =>
 have eG : gCh (.ok (t1,t :: r2)) ex d = (match gOpn d (t :: r2) with
   | .error e => .error e
   | .ok (u,r3) => match ex r3 with
    | .error e => .error e
    | .ok (y,r4) => match gTake (gB [58]) r4 with
     | .error e => .error e
     | .ok (_,r5) => match ex r5 with
      | .error e => .error e
      | .ok (z,r6) => .ok (.mk ⟨7,0,0,0,0,gE,u.p⟩ [t1,y,z],r6)) := by simp only [gCh,if_pos e2]
 rw [eG]
 clear eG
 cases e3 : gOpn d (t :: r2) with
 | error f =>
  simp only
  clear cE
  go_enter Tryz.func46,Tryz.ntmps46
  go_wp2_with fail
  refine cR.mono ?_
  rintro e w1 ⟨⟨m,rfl,rfl,hl,hk⟩,hr,hm⟩
  obtain ⟨⟨k2,o2,ty2,n2,f2,x2,p2⟩,am2,cm2,ks2⟩ := m
  have HX1 : Hid (BX w b G fa fe d (w1.alloc (.cells #[zU k2,zU o2,zU ty2,zI n2,zU f2,.string x2,.slice am2 ks2.length cm2,zI p2] 64)) [(w1§,(.mk ⟨k2,o2,ty2,n2,f2,x2,p2⟩ am2 cm2 ks2))] (t :: r2)) := (HX0.out.mv HBL.out hm hr HS1.out).push HBL.out hl (hk.mono fun j hj => by rw [size_alloc] at hj; omega)
  clear cR hl hk hr hm
  simp only [Nd.vals,Nd.h,Nd.a,Nd.c,Nd.ks,hdA]
  obtain ⟨aB,cB,hrB⟩ := HX1.out.R
  have cI : Calls zG 87 #[zP b,.string Zh] (w1.alloc (.cells #[zU k2,zU o2,zU ty2,zI n2,zU f2,.string x2,.slice am2 ks2.length cm2,zI p2] 64)) fun e w' => e = .returned (.bool true) ∧ Below (w1.alloc (.cells #[zU k2,zU o2,zU ty2,zI n2,zU f2,.string x2,.slice am2 ks2.length cm2,zI p2] 64))§ (w1.alloc (.cells #[zU k2,zU o2,zU ty2,zI n2,zU f2,.string x2,.slice am2 ks2.length cm2,zI p2] 64)) w' := by
   have := is_ok hrB (gB [63])
   rw [decide_eq_true e2] at this
   exact this
  clear hrB
  go_wp2_with fail
  refine cI.mono ?_
  rintro e w2 ⟨rfl,hb⟩
  have HX2 := (HX1.out.on HBL.out hb).hid
  clear hb cI
  obtain ⟨aC,cC,hrC⟩ := HX2.out.R
  have cS := open_any hrC
  rw [e3] at cS
  clear hrC
  go_wp2_with fail
  refine cS.mono ?_
  rintro e w3 ⟨rfl,hm⟩
  exact ⟨rfl,rfl,HX2.out.M.trans hm (fun k e => .inl e)⟩
 | ok q =>
 obtain ⟨u,r3⟩ := q
 have HS3 : Hid (∀ x ∈ r3,x ∈ t :: r2) := gOpn_sub e3
 replace cE := cE (gOpn_lt e3)
 have hf4 := fun v => field82_4 u v
 have HG : Hid (Rg ⟨7,0,0,0,0,gE,u.p⟩) := by
  have hu := HT1.out u (by rw [gOpn_mem e3]; simp)
  have := hu.p0; have := hu.p1
  constructor <;> first | omega | (show (0 : Nat) ≤ _; omega) | (simp only; omega) | simp
 simp only
 cases e4 : ex r3 with
 | error f =>
  simp only
  go_enter Tryz.func46,Tryz.ntmps46
  go_wp2_with fail
  refine cR.mono ?_
  rintro e w1 ⟨⟨m,rfl,rfl,hl,hk⟩,hr,hm⟩
  obtain ⟨⟨k2,o2,ty2,n2,f2,x2,p2⟩,am2,cm2,ks2⟩ := m
  have HX1 : Hid (BX w b G fa fe d (w1.alloc (.cells #[zU k2,zU o2,zU ty2,zI n2,zU f2,.string x2,.slice am2 ks2.length cm2,zI p2] 64)) [(w1§,(.mk ⟨k2,o2,ty2,n2,f2,x2,p2⟩ am2 cm2 ks2))] (t :: r2)) := (HX0.out.mv HBL.out hm hr HS1.out).push HBL.out hl (hk.mono fun j hj => by rw [size_alloc] at hj; omega)
  clear cR hl hk hr hm
  simp only [Nd.vals,Nd.h,Nd.a,Nd.c,Nd.ks,hdA]
  obtain ⟨aB,cB,hrB⟩ := HX1.out.R
  have cI : Calls zG 87 #[zP b,.string Zh] (w1.alloc (.cells #[zU k2,zU o2,zU ty2,zI n2,zU f2,.string x2,.slice am2 ks2.length cm2,zI p2] 64)) fun e w' => e = .returned (.bool true) ∧ Below (w1.alloc (.cells #[zU k2,zU o2,zU ty2,zI n2,zU f2,.string x2,.slice am2 ks2.length cm2,zI p2] 64))§ (w1.alloc (.cells #[zU k2,zU o2,zU ty2,zI n2,zU f2,.string x2,.slice am2 ks2.length cm2,zI p2] 64)) w' := by
   have := is_ok hrB (gB [63])
   rw [decide_eq_true e2] at this
   exact this
  clear hrB
  go_wp2_with fail
  refine cI.mono ?_
  rintro e w2 ⟨rfl,hb⟩
  have HX2 := (HX1.out.on HBL.out hb).hid
  clear hb cI
  obtain ⟨aC,cC,hrC⟩ := HX2.out.R
  have cS := open_any hrC
  rw [e3] at cS
  clear hrC
  go_wp2_with fail
  refine cS.mono ?_
  rintro e w3 ⟨rfl,hr,hm⟩
  have HX3 := (HX2.out.mv HBL.out hm hr HS3.out).hid
  clear cS hr hm
  obtain ⟨aD,cD,hrD⟩ := HX3.out.R
  have cW := within_any 46 enter46 hrD hd (ex r3) (fun v a c h => cE v _ _ _ h HX3.out.T)
  rw [e4] at cW
  clear hrD
  go_wp2_with fail
  refine cW.mono ?_
  rintro e w4 ⟨rfl,hm⟩
  exact ⟨rfl,rfl,HX3.out.M.trans hm (fun k e => .inl e)⟩
 | ok q =>
 obtain ⟨t3,r4⟩ := q
 have HS4 : Hid (∀ x ∈ r4,x ∈ r3) := hS _ _ _ e4
 simp only
 cases e5 : gTake (gB [58]) r4 with
 | error f =>
  simp only
  go_enter Tryz.func46,Tryz.ntmps46
  go_wp2_with fail
  refine cR.mono ?_
  rintro e w1 ⟨⟨m,rfl,rfl,hl,hk⟩,hr,hm⟩
  obtain ⟨⟨k2,o2,ty2,n2,f2,x2,p2⟩,am2,cm2,ks2⟩ := m
  have HX1 : Hid (BX w b G fa fe d (w1.alloc (.cells #[zU k2,zU o2,zU ty2,zI n2,zU f2,.string x2,.slice am2 ks2.length cm2,zI p2] 64)) [(w1§,(.mk ⟨k2,o2,ty2,n2,f2,x2,p2⟩ am2 cm2 ks2))] (t :: r2)) := (HX0.out.mv HBL.out hm hr HS1.out).push HBL.out hl (hk.mono fun j hj => by rw [size_alloc] at hj; omega)
  clear cR hl hk hr hm
  simp only [Nd.vals,Nd.h,Nd.a,Nd.c,Nd.ks,hdA]
  obtain ⟨aB,cB,hrB⟩ := HX1.out.R
  have cI : Calls zG 87 #[zP b,.string Zh] (w1.alloc (.cells #[zU k2,zU o2,zU ty2,zI n2,zU f2,.string x2,.slice am2 ks2.length cm2,zI p2] 64)) fun e w' => e = .returned (.bool true) ∧ Below (w1.alloc (.cells #[zU k2,zU o2,zU ty2,zI n2,zU f2,.string x2,.slice am2 ks2.length cm2,zI p2] 64))§ (w1.alloc (.cells #[zU k2,zU o2,zU ty2,zI n2,zU f2,.string x2,.slice am2 ks2.length cm2,zI p2] 64)) w' := by
   have := is_ok hrB (gB [63])
   rw [decide_eq_true e2] at this
   exact this
  clear hrB
  go_wp2_with fail
  refine cI.mono ?_
  rintro e w2 ⟨rfl,hb⟩
  have HX2 := (HX1.out.on HBL.out hb).hid
  clear hb cI
  obtain ⟨aC,cC,hrC⟩ := HX2.out.R
  have cS := open_any hrC
  rw [e3] at cS
  clear hrC
  go_wp2_with fail
  refine cS.mono ?_
  rintro e w3 ⟨rfl,hr,hm⟩
  have HX3 := (HX2.out.mv HBL.out hm hr HS3.out).hid
  clear cS hr hm
  obtain ⟨aD,cD,hrD⟩ := HX3.out.R
  have cW := within_any 46 enter46 hrD hd (ex r3) (fun v a c h => cE v _ _ _ h HX3.out.T)
  rw [e4] at cW
  clear hrD
  go_wp2_with fail
  refine cW.mono ?_
  rintro e w4 ⟨⟨m,rfl,rfl,hl,hk⟩,hr,hm⟩
  obtain ⟨⟨k3,o3,ty3,n3,f3,x3,p3⟩,am3,cm3,ks3⟩ := m
  have hsz : w§ < w3§ := (Array.getElem?_eq_some_iff.1 HX3.out.Z).1
  have HX4 : Hid (BX w b G fa fe d (w4.alloc (.cells #[zU k3,zU o3,zU ty3,zI n3,zU f3,.string x3,.slice am3 ks3.length cm3,zI p3] 64)) [(w4§,(.mk ⟨k3,o3,ty3,n3,f3,x3,p3⟩ am3 cm3 ks3)),(w1§,(.mk ⟨k2,o2,ty2,n2,f2,x2,p2⟩ am2 cm2 ks2))] r4) := (HX3.out.mv HBL.out hm hr HS4.out).push HBL.out hl (hk.mono fun j hj => ⟨by omega,hj.2⟩)
  clear cW hl hk hr hm hsz
  simp only [Nd.vals,Nd.h,Nd.a,Nd.c,Nd.ks,hdA]
  obtain ⟨aE,cE',hrE⟩ := HX4.out.R
  have cT : Calls zG 64 #[zP b,.string ZD] (w4.alloc (.cells #[zU k3,zU o3,zU ty3,zI n3,zU f3,.string x3,.slice am3 ks3.length cm3,zI p3] 64)) (OutK b G fa fe d (w4.alloc (.cells #[zU k3,zU o3,zU ty3,zI n3,zU f3,.string x3,.slice am3 ks3.length cm3,zI p3] 64)) (gTake (gB [58]) r4)) := take_any hrE (gB [58])
  rw [e5] at cT
  clear hrE
  go_wp2_with fail
  refine cT.mono ?_
  rintro e w5 ⟨rfl,hm⟩
  exact ⟨rfl,rfl,HX4.out.M.trans hm (fun k e => .inl e)⟩
 | ok q =>
 obtain ⟨u5,r5⟩ := q
 have HS5 : Hid (∀ x ∈ r5,x ∈ r4) := gTake_sub e5
 simp only
 cases e6 : ex r5 with
 | error f =>
  simp only
  go_enter Tryz.func46,Tryz.ntmps46
  go_wp2_with fail
  refine cR.mono ?_
  rintro e w1 ⟨⟨m,rfl,rfl,hl,hk⟩,hr,hm⟩
  obtain ⟨⟨k2,o2,ty2,n2,f2,x2,p2⟩,am2,cm2,ks2⟩ := m
  have HX1 : Hid (BX w b G fa fe d (w1.alloc (.cells #[zU k2,zU o2,zU ty2,zI n2,zU f2,.string x2,.slice am2 ks2.length cm2,zI p2] 64)) [(w1§,(.mk ⟨k2,o2,ty2,n2,f2,x2,p2⟩ am2 cm2 ks2))] (t :: r2)) := (HX0.out.mv HBL.out hm hr HS1.out).push HBL.out hl (hk.mono fun j hj => by rw [size_alloc] at hj; omega)
  clear cR hl hk hr hm
  simp only [Nd.vals,Nd.h,Nd.a,Nd.c,Nd.ks,hdA]
  obtain ⟨aB,cB,hrB⟩ := HX1.out.R
  have cI : Calls zG 87 #[zP b,.string Zh] (w1.alloc (.cells #[zU k2,zU o2,zU ty2,zI n2,zU f2,.string x2,.slice am2 ks2.length cm2,zI p2] 64)) fun e w' => e = .returned (.bool true) ∧ Below (w1.alloc (.cells #[zU k2,zU o2,zU ty2,zI n2,zU f2,.string x2,.slice am2 ks2.length cm2,zI p2] 64))§ (w1.alloc (.cells #[zU k2,zU o2,zU ty2,zI n2,zU f2,.string x2,.slice am2 ks2.length cm2,zI p2] 64)) w' := by
   have := is_ok hrB (gB [63])
   rw [decide_eq_true e2] at this
   exact this
  clear hrB
  go_wp2_with fail
  refine cI.mono ?_
  rintro e w2 ⟨rfl,hb⟩
  have HX2 := (HX1.out.on HBL.out hb).hid
  clear hb cI
  obtain ⟨aC,cC,hrC⟩ := HX2.out.R
  have cS := open_any hrC
  rw [e3] at cS
  clear hrC
  go_wp2_with fail
  refine cS.mono ?_
  rintro e w3 ⟨rfl,hr,hm⟩
  have HX3 := (HX2.out.mv HBL.out hm hr HS3.out).hid
  clear cS hr hm
  obtain ⟨aD,cD,hrD⟩ := HX3.out.R
  have cW := within_any 46 enter46 hrD hd (ex r3) (fun v a c h => cE v _ _ _ h HX3.out.T)
  rw [e4] at cW
  clear hrD
  go_wp2_with fail
  refine cW.mono ?_
  rintro e w4 ⟨⟨m,rfl,rfl,hl,hk⟩,hr,hm⟩
  obtain ⟨⟨k3,o3,ty3,n3,f3,x3,p3⟩,am3,cm3,ks3⟩ := m
  have hsz : w§ < w3§ := (Array.getElem?_eq_some_iff.1 HX3.out.Z).1
  have HX4 : Hid (BX w b G fa fe d (w4.alloc (.cells #[zU k3,zU o3,zU ty3,zI n3,zU f3,.string x3,.slice am3 ks3.length cm3,zI p3] 64)) [(w4§,(.mk ⟨k3,o3,ty3,n3,f3,x3,p3⟩ am3 cm3 ks3)),(w1§,(.mk ⟨k2,o2,ty2,n2,f2,x2,p2⟩ am2 cm2 ks2))] r4) := (HX3.out.mv HBL.out hm hr HS4.out).push HBL.out hl (hk.mono fun j hj => ⟨by omega,hj.2⟩)
  clear cW hl hk hr hm hsz
  simp only [Nd.vals,Nd.h,Nd.a,Nd.c,Nd.ks,hdA]
  obtain ⟨aE,cE',hrE⟩ := HX4.out.R
  have cT : Calls zG 64 #[zP b,.string ZD] (w4.alloc (.cells #[zU k3,zU o3,zU ty3,zI n3,zU f3,.string x3,.slice am3 ks3.length cm3,zI p3] 64)) (OutK b G fa fe d (w4.alloc (.cells #[zU k3,zU o3,zU ty3,zI n3,zU f3,.string x3,.slice am3 ks3.length cm3,zI p3] 64)) (gTake (gB [58]) r4)) := take_any hrE (gB [58])
  rw [e5] at cT
  clear hrE
  go_wp2_with fail
  refine cT.mono ?_
  rintro e w5 ⟨rfl,hr,hm⟩
  have HX5 := (HX4.out.mv HBL.out hm hr HS5.out).hid
  clear cT hr hm
  obtain ⟨aF,cF,hrF⟩ := HX5.out.R
  have cV := within_any 46 enter46 hrF hd (ex r5) (fun v a c h => cE v _ _ _ h HX5.out.T)
  rw [e6] at cV
  clear hrF
  go_wp2_with fail
  refine cV.mono ?_
  rintro e w6 ⟨rfl,hm⟩
  exact ⟨rfl,rfl,HX5.out.M.trans hm (fun k e => .inl e)⟩
 | ok q =>
  obtain ⟨t6,r6⟩ := q
  have HS6 : Hid (∀ x ∈ r6,x ∈ r5) := hS _ _ _ e6
  simp only
  go_enter Tryz.func46,Tryz.ntmps46
  go_wp2_with fail
  refine cR.mono ?_
  rintro e w1 ⟨⟨m,rfl,rfl,hl,hk⟩,hr,hm⟩
  obtain ⟨⟨k2,o2,ty2,n2,f2,x2,p2⟩,am2,cm2,ks2⟩ := m
  have HX1 : Hid (BX w b G fa fe d (w1.alloc (.cells #[zU k2,zU o2,zU ty2,zI n2,zU f2,.string x2,.slice am2 ks2.length cm2,zI p2] 64)) [(w1§,(.mk ⟨k2,o2,ty2,n2,f2,x2,p2⟩ am2 cm2 ks2))] (t :: r2)) := (HX0.out.mv HBL.out hm hr HS1.out).push HBL.out hl (hk.mono fun j hj => by rw [size_alloc] at hj; omega)
  clear cR hl hk hr hm
  simp only [Nd.vals,Nd.h,Nd.a,Nd.c,Nd.ks,hdA]
  obtain ⟨aB,cB,hrB⟩ := HX1.out.R
  have cI : Calls zG 87 #[zP b,.string Zh] (w1.alloc (.cells #[zU k2,zU o2,zU ty2,zI n2,zU f2,.string x2,.slice am2 ks2.length cm2,zI p2] 64)) fun e w' => e = .returned (.bool true) ∧ Below (w1.alloc (.cells #[zU k2,zU o2,zU ty2,zI n2,zU f2,.string x2,.slice am2 ks2.length cm2,zI p2] 64))§ (w1.alloc (.cells #[zU k2,zU o2,zU ty2,zI n2,zU f2,.string x2,.slice am2 ks2.length cm2,zI p2] 64)) w' := by
   have := is_ok hrB (gB [63])
   rw [decide_eq_true e2] at this
   exact this
  clear hrB
  go_wp2_with fail
  refine cI.mono ?_
  rintro e w2 ⟨rfl,hb⟩
  have HX2 := (HX1.out.on HBL.out hb).hid
  clear hb cI
  obtain ⟨aC,cC,hrC⟩ := HX2.out.R
  have cS := open_any hrC
  rw [e3] at cS
  clear hrC
  go_wp2_with fail
  refine cS.mono ?_
  rintro e w3 ⟨rfl,hr,hm⟩
  have HX3 := (HX2.out.mv HBL.out hm hr HS3.out).hid
  clear cS hr hm
  obtain ⟨aD,cD,hrD⟩ := HX3.out.R
  have cW := within_any 46 enter46 hrD hd (ex r3) (fun v a c h => cE v _ _ _ h HX3.out.T)
  rw [e4] at cW
  clear hrD
  go_wp2_with fail
  refine cW.mono ?_
  rintro e w4 ⟨⟨m,rfl,rfl,hl,hk⟩,hr,hm⟩
  obtain ⟨⟨k3,o3,ty3,n3,f3,x3,p3⟩,am3,cm3,ks3⟩ := m
  have hsz : w§ < w3§ := (Array.getElem?_eq_some_iff.1 HX3.out.Z).1
  have HA23 : Hid (Apt (.mk ⟨k2,o2,ty2,n2,f2,x2,p2⟩ am2 cm2 ks2) (.mk ⟨k3,o3,ty3,n3,f3,x3,p3⟩ am3 cm3 ks3)) := ⟨w3§,(HX3.out.B _ (List.mem_cons_self ..)).2.2.2.mono fun j hj => hj.2,hk.mono fun j hj => hj.1⟩
  have HX4 : Hid (BX w b G fa fe d (w4.alloc (.cells #[zU k3,zU o3,zU ty3,zI n3,zU f3,.string x3,.slice am3 ks3.length cm3,zI p3] 64)) [(w4§,(.mk ⟨k3,o3,ty3,n3,f3,x3,p3⟩ am3 cm3 ks3)),(w1§,(.mk ⟨k2,o2,ty2,n2,f2,x2,p2⟩ am2 cm2 ks2))] r4) := (HX3.out.mv HBL.out hm hr HS4.out).push HBL.out hl (hk.mono fun j hj => ⟨by omega,hj.2⟩)
  clear cW hl hk hr hm hsz
  simp only [Nd.vals,Nd.h,Nd.a,Nd.c,Nd.ks,hdA]
  obtain ⟨aE,cE',hrE⟩ := HX4.out.R
  have cT : Calls zG 64 #[zP b,.string ZD] (w4.alloc (.cells #[zU k3,zU o3,zU ty3,zI n3,zU f3,.string x3,.slice am3 ks3.length cm3,zI p3] 64)) (OutK b G fa fe d (w4.alloc (.cells #[zU k3,zU o3,zU ty3,zI n3,zU f3,.string x3,.slice am3 ks3.length cm3,zI p3] 64)) (gTake (gB [58]) r4)) := take_any hrE (gB [58])
  rw [e5] at cT
  clear hrE
  go_wp2_with fail
  refine cT.mono ?_
  rintro e w5 ⟨rfl,hr,hm⟩
  have HX5 := (HX4.out.mv HBL.out hm hr HS5.out).hid
  clear cT hr hm
  obtain ⟨aF,cF,hrF⟩ := HX5.out.R
  have cV := within_any 46 enter46 hrF hd (ex r5) (fun v a c h => cE v _ _ _ h HX5.out.T)
  rw [e6] at cV
  clear hrF
  go_wp2_with fail
  refine cV.mono ?_
  rintro e w6 ⟨⟨m,rfl,rfl,hl,hk⟩,hr,hm⟩
  obtain ⟨⟨k4,o4,ty4,n4,f4,x4,p4⟩,am4,cm4,ks4⟩ := m
  have hsz : w§ < w5§ := (Array.getElem?_eq_some_iff.1 HX5.out.Z).1
  have HA34 : Hid (Apt (.mk ⟨k3,o3,ty3,n3,f3,x3,p3⟩ am3 cm3 ks3) (.mk ⟨k4,o4,ty4,n4,f4,x4,p4⟩ am4 cm4 ks4)) := ⟨w5§,(HX5.out.B _ (List.mem_cons_self ..)).2.2.2.mono fun j hj => hj.2,hk.mono fun j hj => hj.1⟩
  have HA24 : Hid (Apt (.mk ⟨k2,o2,ty2,n2,f2,x2,p2⟩ am2 cm2 ks2) (.mk ⟨k4,o4,ty4,n4,f4,x4,p4⟩ am4 cm4 ks4)) := ⟨w5§,(HX5.out.B _ (List.mem_cons_of_mem _ (List.mem_cons_self ..))).2.2.2.mono fun j hj => hj.2,hk.mono fun j hj => hj.1⟩
  have HX6 := (HX5.out.mv HBL.out hm hr HS6.out).hid
  obtain ⟨g3,_,l3,b3⟩ := HX6.out.B _ (List.mem_cons_self ..)
  obtain ⟨g2,_,l2,b2⟩ := HX6.out.B _ (List.mem_cons_of_mem _ (List.mem_cons_self ..))
  have hZ6 := HX6.out.Z
  have hs0 : w§ < w6§ := (Array.getElem?_eq_some_iff.1 hZ6).1
  have hs3 : w4§ < w6§ := (Array.getElem?_eq_some_iff.1 g3).1
  have hs2 : w1§ < w6§ := (Array.getElem?_eq_some_iff.1 g2).1
  obtain ⟨Y,eY,hY1,hY2,hY3,hY4,hY5⟩ := three8 HX6.out.M hZ6 l2 b2 l3 b3 hl (hk.mono fun j hj => ⟨by omega,hj.2⟩) hr HBL.out HGL.out HG.out HA23.out HA24.out HA34.out
  have y0 : w6.cell? ⟨w1§,0,none⟩ = some (zU k2) := cell_of g2 0
  have v0 : w6.cell? ⟨w4§,0,none⟩ = some (zU k3) := cell_of g3 0
  have z0 : w6.cell? ⟨w§,0,none⟩ = some (zU 0) := cell_of hZ6 0
  have q0 : w6.frozen? ⟨w§,0,none⟩ = false := frozen_of hZ6 0
  have y1 : w6.cell? ⟨w1§,1,none⟩ = some (zU o2) := cell_of g2 1
  have v1 : w6.cell? ⟨w4§,1,none⟩ = some (zU o3) := cell_of g3 1
  have z1 : w6.cell? ⟨w§,1,none⟩ = some (zU 0) := cell_of hZ6 1
  have q1 : w6.frozen? ⟨w§,1,none⟩ = false := frozen_of hZ6 1
  have y2 : w6.cell? ⟨w1§,2,none⟩ = some (zU ty2) := cell_of g2 2
  have v2 : w6.cell? ⟨w4§,2,none⟩ = some (zU ty3) := cell_of g3 2
  have z2 : w6.cell? ⟨w§,2,none⟩ = some (zU 0) := cell_of hZ6 2
  have q2 : w6.frozen? ⟨w§,2,none⟩ = false := frozen_of hZ6 2
  have y3 : w6.cell? ⟨w1§,3,none⟩ = some (zI n2) := cell_of g2 3
  have v3 : w6.cell? ⟨w4§,3,none⟩ = some (zI n3) := cell_of g3 3
  have z3 : w6.cell? ⟨w§,3,none⟩ = some (zI 0) := cell_of hZ6 3
  have q3 : w6.frozen? ⟨w§,3,none⟩ = false := frozen_of hZ6 3
  have y4 : w6.cell? ⟨w1§,4,none⟩ = some (zU f2) := cell_of g2 4
  have v4 : w6.cell? ⟨w4§,4,none⟩ = some (zU f3) := cell_of g3 4
  have z4 : w6.cell? ⟨w§,4,none⟩ = some (zU 0) := cell_of hZ6 4
  have q4 : w6.frozen? ⟨w§,4,none⟩ = false := frozen_of hZ6 4
  have y5 : w6.cell? ⟨w1§,5,none⟩ = some (.string x2) := cell_of g2 5
  have v5 : w6.cell? ⟨w4§,5,none⟩ = some (.string x3) := cell_of g3 5
  have z5 : w6.cell? ⟨w§,5,none⟩ = some (.string ⟨#[]⟩) := cell_of hZ6 5
  have q5 : w6.frozen? ⟨w§,5,none⟩ = false := frozen_of hZ6 5
  have y6 : w6.cell? ⟨w1§,6,none⟩ = some (.slice am2 ks2.length cm2) := cell_of g2 6
  have v6 : w6.cell? ⟨w4§,6,none⟩ = some (.slice am3 ks3.length cm3) := cell_of g3 6
  have z6 : w6.cell? ⟨w§,6,none⟩ = some (.slice none 0 0) := cell_of hZ6 6
  have q6 : w6.frozen? ⟨w§,6,none⟩ = false := frozen_of hZ6 6
  have y7 : w6.cell? ⟨w1§,7,none⟩ = some (zI p2) := cell_of g2 7
  have v7 : w6.cell? ⟨w4§,7,none⟩ = some (zI p3) := cell_of g3 7
  have z7 : w6.cell? ⟨w§,7,none⟩ = some (zI 0) := cell_of hZ6 7
  have q7 : w6.frozen? ⟨w§,7,none⟩ = false := frozen_of hZ6 7
  have HEY : Hid (_ = Y) := eY
  have HY1 : Hid (Y.heap[w§]? = some (.cells (Nd.mk ⟨7,0,0,0,0,gE,u.p⟩ (some ⟨w6§ + 1,0,none⟩) 3 [(.mk ⟨k2,o2,ty2,n2,f2,x2,p2⟩ am2 cm2 ks2),(.mk ⟨k3,o3,ty3,n3,f3,x3,p3⟩ am3 cm3 ks3),(.mk ⟨k4,o4,ty4,n4,f4,x4,p4⟩ am4 cm4 ks4)]).vals 64 (0,0))) := hY1
  have HYY : Hid (LiesO Y (.mk ⟨7,0,0,0,0,gE,u.p⟩ (some ⟨w6§ + 1,0,none⟩) 3 [(.mk ⟨k2,o2,ty2,n2,f2,x2,p2⟩ am2 cm2 ks2),(.mk ⟨k3,o3,ty3,n3,f3,x3,p3⟩ am3 cm3 ks3),(.mk ⟨k4,o4,ty4,n4,f4,x4,p4⟩ am4 cm4 ks4)]) ∧ Bkn (fun k => w§ ≤ k ∧ k < Y§) (.mk ⟨7,0,0,0,0,gE,u.p⟩ (some ⟨w6§ + 1,0,none⟩) 3 [(.mk ⟨k2,o2,ty2,n2,f2,x2,p2⟩ am2 cm2 ks2),(.mk ⟨k3,o3,ty3,n3,f3,x3,p3⟩ am3 cm3 ks3),(.mk ⟨k4,o4,ty4,n4,f4,x4,p4⟩ am4 cm4 ks4)]) ∧ (∃ a c,Rdr Y b G r6 fa fe d a c) ∧ Mv w Y (fun k => k = b)) := ⟨hY2,hY3,hY4,hY5⟩
  clear eY hY1 hY2 hY3 hY4 hY5 hZ6 hm hl hk hr cV g2 g3 l2 l3 b2 b3 cE
  simp only [Nd.vals,Nd.h,Nd.a,Nd.c,Nd.ks,hdA]
  go_wp2_with fail
  rw [HEY.out]
  exact bodyPost_ret (results_cell_row rfl _ _ w§ 64 (Nd.mk ⟨7,0,0,0,0,gE,u.p⟩ (some ⟨w6§ + 1,0,none⟩) 3 [(.mk ⟨k2,o2,ty2,n2,f2,x2,p2⟩ am2 cm2 ks2),(.mk ⟨k3,o3,ty3,n3,f3,x3,p3⟩ am3 cm3 ks3),(.mk ⟨k4,o4,ty4,n4,f4,x4,p4⟩ am4 cm4 ks4)]).vals (0,0) _ rfl HY1.out Tryz.underlying64 rfl zK) rfl ⟨⟨_,rfl,rfl,HYY.out.1,HYY.out.2.1⟩,HYY.out.2.2.1,HYY.out.2.2.2⟩
theorem gEx_ch (ex un : List Tk → Except Ft (Tr × List Tk)) (d : Nat) (ts : List Tk) : gEx ex un d ts = gCh (gRow orX (gRow andX (gRow cmpX (gRow sumX (gRow proX (gUn ex un d) 4096) 4096) 1) 4096) 4096 ts) ex d := by
 unfold gEx
 cases gRow orX (gRow andX (gRow cmpX (gRow sumX (gRow proX (gUn ex un d) 4096) 4096) 1) 4096) 4096 ts with
 | error e => rfl
 | ok q =>
  obtain ⟨n,r⟩ := q
  cases r with
  | nil => rfl
  | cons t r2 =>
   by_cases e : t.x = gB [63]
   ·simp only [gCh,gIs,gLook,Except.map,bind,Except.bind,if_pos e,decide_eq_true e,Bool.true_eq_false,if_false]
    cases gOpn d (t :: r2) with
    | error e => rfl
    | ok q =>
     simp only
     cases ex q.2 with
     | error e => rfl
     | ok q =>
      simp only
      cases gTake (gB [58]) q.2 with
      | error e => rfl
      | ok q =>
       simp only
       cases ex q.2 with
       | error e => rfl
       | ok q => rfl
   ·simp only [gCh,gIs,gLook,Except.map,bind,Except.bind,if_neg e,decide_eq_false e,if_true]
theorem ex_step (ex un : List Tk → Except Ft (Tr × List Tk)) (he : Subs ex) (hu : Subs un) {b G : Nat} {fa : Int} {fe : Value} {d : Nat} (hd : d < 1000)
  (cO : ∀ v ts a c,Rdr v b G ts fa fe d a c → (∀ t ∈ ts,RgT t) → Calls zG 184 #[zP b] v (OutN b G fa fe d v (gOne ex d ts)))
  (cU : d < 24 → ∀ v ts a c,Rdr v b G ts fa fe (d + 1) a c → (∀ t ∈ ts,RgT t) → Calls zG 180 #[zP b] v (OutN b G fa fe (d + 1) v (un ts)))
  (cE : d < 24 → ∀ v ts a c,Rdr v b G ts fa fe (d + 1) a c → (∀ t ∈ ts,RgT t) → Calls zG 46 #[zP b] v (OutN b G fa fe (d + 1) v (ex ts))) :
  (∀ v ts a c,Rdr v b G ts fa fe d a c → (∀ t ∈ ts,RgT t) → Calls zG 180 #[zP b] v (OutN b G fa fe d v (gUn ex un d ts))) ∧
  (∀ v ts a c,Rdr v b G ts fa fe d a c → (∀ t ∈ ts,RgT t) → Calls zG 46 #[zP b] v (OutN b G fa fe d v (gEx ex un d ts))) := by
 have s0 := gUn_sub he hu d
 have s1 := gRow_sub proX s0 4096
 have s2 := gRow_sub sumX s1 4096
 have s3 := gRow_sub cmpX s2 1
 have s4 := gRow_sub andX s3 4096
 have s5 := gRow_sub orX s4 4096
 have c0 : ∀ v ts a c,Rdr v b G ts fa fe d a c → (∀ t ∈ ts,RgT t) → Calls zG 180 #[zP b] v (OutN b G fa fe d v (gUn ex un d ts)) :=
  fun v ts a c h hT => unary_any ex un h hT hd (fun v a c h => cO v ts a c h hT) cU
 refine ⟨c0,fun v ts a c h hT => ?_⟩
 rw [gEx_ch]
 exact expr_any ex he _ (fun t r e => s5 ts t r e) h hT hd (fun v a c h =>
  or_any _ s4 h hT fun v ts a c h hT => and_any _ s3 h hT fun v ts a c h hT => compare_any _ s2 h hT fun v ts a c h hT => sum_any _ s1 h hT fun v ts a c h hT => product_any _ s0 h hT c0) cE
end Go.Proofs.YtkfabnchhjfjjaaGreatDoor
