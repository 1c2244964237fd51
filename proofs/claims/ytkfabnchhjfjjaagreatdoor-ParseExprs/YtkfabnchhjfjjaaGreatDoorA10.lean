import Derived.Test.YtkfabnchhjfjjaaGreatDoorA0
import Derived.Test.YtkfabnchhjfjjaaGreatDoorA9
import Derived.Deep.RegionHeld3
import Derived.Test.YtkfabnchhjfjjaaGreatDoorA3
import Derived.Deep.AppendLies
import Derived.Deep.RegionLaw
namespace Go.Proofs.YtkfabnchhjfjjaaGreatDoor
open Go.RowKit
def GB (w v : World) : Prop := Below w§ w v
theorem GB.refl (w : World) : GB w w := Below.refl _ _
theorem GB.alloc {w v : World} (h : GB w v) (o : Obj) : GB w (v.alloc o) := below2 h (below_new _ _)
theorem GB.drew {w v : World} (h : GB w v) {n : Nat} : GB w { v with drawn := n } := ⟨h.os,h.tape,h.output,h.size,h.block⟩
theorem GB.drew2 {w v : World} (h : GB w v) : GB w v.drew := ⟨h.os,h.tape,h.output,h.size,h.block⟩
theorem GB.call {w v v' : World} (h : GB w v) (k : Below v§ v v') : GB w v' := below2 h k
def MR (w : World) (R : Nat) (v : World) : Prop := Mv w v (fun k => k = R)
theorem MR.refl (w : World) (R : Nat) : MR w R w := Mv.refl _ _
theorem MR.alloc {w v : World} {R : Nat} (h : MR w R v) (o : Obj) : MR w R (v.alloc o) := Mv.alloc h _
theorem MR.drew {w v : World} {R : Nat} (h : MR w R v) {n : Nat} : MR w R { v with drawn := n } := ⟨h.os,h.tape,h.output,h.size,h.block⟩
theorem MR.drew2 {w v : World} {R : Nat} (h : MR w R v) : MR w R v.drew := ⟨h.os,h.tape,h.output,h.size,h.block⟩
theorem MR.call {w v v' : World} {R : Nat} (h : MR w R v) (k : Below v§ v v') : MR w R v' := h.trans (Mv.ofBelow k) (fun _ e => .inl e)
theorem MR.set {w v : World} {R : Nat} (h : MR w R v) (i : Nat) (x : Value) : MR w R (v.setCell ⟨R,i,none⟩ x) := Mv.setCell h (a := ⟨R,i,none⟩) (Or.inl (rfl : R = R)) _
theorem kid_fin {w : World} {b G : Nat} {fa : Int} {fe : Value} {d : Nat} {W Y : World} {bs : List (Nat × Nd)} {ts : List Tk} {m : Nd} {h : Hd} {B : Nat} (hx : BX w b G fa fe d W bs ts) (hb : b < w§) (hg : G < w§) (hl : LiesO W m) (hk : Bkn (fun k => w§ < k ∧ k < W§) m) (hq : Rg h) (hB : W§ ≤ B) (hYB : Y.heap[B]? = some (.cells m.vals 64 (0,0))) (hm : Mv W Y (fun k => k = w§)) :
  LiesO Y (.mk h (some ⟨B,0,none⟩) 1 [m]) ∧ Bkn (fun k => w§ ≤ k ∧ k < Y§) (.mk h (some ⟨B,0,none⟩) 1 [m]) ∧ (∃ a c,Rdr Y b G ts fa fe d a c) ∧ Mv w Y (fun k => k = b) := by
 have hs := hm.size
 have hW := (Array.getElem?_eq_some_iff.1 hx.Z).1
 have hBY := (Array.getElem?_eq_some_iff.1 hYB).1
 refine ⟨?_,?_,?_,hx.M.trans hm (fun k e => .inr (by omega))⟩
 ·refine .mk _ _ _ _ hq (by simp) (by simp) ?_ ?_ (row_lit hYB rfl (by simp [List.range_succ,ndF,ldF,Nd.vals,hdA]) (by simp)) (fun x e y hy => by injection e with e; subst e; obtain rfl := List.mem_singleton.1 hy; exact hk.mono fun j hj => by show j ≠ B; omega) (List.pairwise_singleton _ _)
  ·intro i hi
   refine ⟨B,0,rfl,?_⟩
   match i,hi with
   | 0,_ =>
    obtain ⟨h',a',c',ks'⟩ := m
    exact ⟨cell_of hYB 0,cell_of hYB 1,cell_of hYB 2,cell_of hYB 3,cell_of hYB 4,cell_of hYB 5,cell_of hYB 6,cell_of hYB 7⟩
  ·intro k hk'
   obtain rfl := List.mem_singleton.1 hk'
   exact hl.bkn hk fun j hj => hm.block j hj.2 (by omega)
 ·refine .mk _ _ _ _ (fun b' o e => ?_) ?_
  ·injection e with e; injection e with e; omega
  ·intro k hk'
   obtain rfl := List.mem_singleton.1 hk'
   exact hk.mono fun j hj => ⟨by omega,by omega⟩
 ·obtain ⟨a,c,hr⟩ := hx.R
  exact ⟨a,c,hr.blk (hm.block _ hr.lt (by omega)) (hm.block _ hr.gl (by omega)) hs⟩
def gConv (ex : List Tk → Except Ft (Tr × List Tk)) (d : Nat) (ts : List Tk) : Except Ft (Tr × List Tk) :=
 match gOpn d ts with
 | .error e => .error e
 | .ok q => match gTake (gB [40]) q.2 with
  | .error e => .error e
  | .ok q2 => match gIn (ex q2.2) with
   | .error e => .error e
   | .ok q3 => .ok (.mk ⟨9,0,tyX q.1.x,0,0,gE,q.1.p⟩ [q3.1],q3.2)
theorem tyX_rg (x : ByteArray) : 0 ≤ tyX x ∧ tyX x ≤ 6 := by
 unfold tyX
 repeat' split
 all_goals omega
theorem gIn_sub {r : Except Ft (Tr × List Tk)} {ts : List Tk} (hr : ∀ t q,r = .ok (t,q) → ∀ x ∈ q,x ∈ ts) : ∀ t q,gIn r = .ok (t,q) → ∀ x ∈ q,x ∈ ts := by
 intro t q h x hx
 unfold gIn at h
 obtain ⟨⟨n,r1⟩,h1,h2⟩ := bind_ok h
 obtain ⟨⟨_,r2⟩,h3,h4⟩ := bind_ok h2
 cases h4
 exact hr _ _ h1 _ (gTake_sub h3 _ hx)
set_option maxRecDepth 100000 in
set_option maxHeartbeats 16000000 in
theorem conv_any (ex : List Tk → Except Ft (Tr × List Tk)) (hS : Subs ex) {w : World} {b G : Nat} {ts : List Tk} {fa : Int} {fe : Value} {d : Nat} {a : Option Addr} {c : Nat} (h : Rdr w b G ts fa fe d a c) (hT : ∀ t ∈ ts,RgT t) (hd : d < 1000)
  (cE : d < 24 → ∀ v ts a c,Rdr v b G ts fa fe (d + 1) a c → (∀ t ∈ ts,RgT t) → Calls zG 46 #[zP b] v (OutN b G fa fe (d + 1) v (ex ts))) :
  Calls zG 191 #[zP b] w (OutN b G fa fe d w (gConv ex d ts)) := by
 have hb0 := below_new w (.cells zNo 64)
 have h0 := h.on hb0
 have HBL : Hid (b < w§) := h.lt
 have HGL : Hid (G < w§) := h.gl
 have X0 : BX w b G fa fe d (w.alloc (.cells zNo 64)) [] ts := ⟨Mv.ofBelow hb0,heap_new _ _,fun p hp => by simp at hp,⟨a,c,h0⟩,hT⟩
 have X0 := X0.hid
 have cO := open_any h0
 unfold gConv
 clear h hb0 h0
 obtain ⟨O,eO⟩ : ∃ O,gOpn d ts = O := ⟨_,rfl⟩
 have HEO : Hid (gOpn d ts = O) := eO
 rw [eO] at cO ⊢
 clear eO
 cases O with
 | error f =>
  clear cE
  go_enter Tryz.func191,Tryz.ntmps191
  go_wp2_with fail
  refine cO.mono ?_
  rintro e w1 ⟨rfl,hm⟩
  exact ⟨rfl,rfl,X0.out.M.trans hm (fun k e => .inl e)⟩
 | ok q =>
 obtain ⟨u,r⟩ := q
 replace cE := cE (gOpn_lt HEO.out)
 have HUT : Hid (RgT u) := hT u (by rw [gOpn_mem HEO.out]; simp)
 have HSB : Hid (∀ x ∈ r,x ∈ ts) := gOpn_sub HEO.out
 clear HEO
 simp only
 obtain ⟨O,eO⟩ : ∃ O,gTake (gB [40]) r = O := ⟨_,rfl⟩
 have HET : Hid (gTake (gB [40]) r = O) := eO
 rw [eO]
 clear eO hT
 cases O with
 | error f =>
  clear cE
  go_enter Tryz.func191,Tryz.ntmps191
  go_wp2_with fail
  refine cO.mono ?_
  rintro e w1 ⟨rfl,hr1,hm⟩
  have X1 := (X0.out.mv HBL.out hm hr1 HSB.out).on HBL.out (below_new w1 (.cells #[zU u.k,.string u.x,zU u.ty,zI u.n,zI u.p] 82))
  obtain ⟨a1,c1,h1⟩ := X1.R
  have cT := take_any h1 (gB [40])
  rw [HET.out] at cT
  have cT : Calls zG 64 #[zP b,.string Zb] _ (OutK b G fa fe d _ (.error f)) := cT
  have X1 := X1.hid
  clear cO hm hr1 h1
  unfold tkA
  go_wp2_with fail
  refine cT.mono ?_
  rintro e w2 ⟨rfl,hm⟩
  exact ⟨rfl,rfl,X1.out.M.trans hm (fun k e => .inl e)⟩
 | ok q =>
 obtain ⟨u2,r2⟩ := q
 have HS2 : Hid (∀ x ∈ r2,x ∈ r) := gTake_sub HET.out
 simp only
 obtain ⟨O,eO⟩ : ∃ O,gIn (ex r2) = O := ⟨_,rfl⟩
 have HEI : Hid (gIn (ex r2) = O) := eO
 rw [eO]
 clear eO
 go_enter Tryz.func191,Tryz.ntmps191
 go_wp2_with fail
 refine cO.mono ?_
 rintro e w1 ⟨rfl,hr1,hm⟩
 have X1 := (X0.out.mv HBL.out hm hr1 HSB.out).on HBL.out (below_new w1 (.cells #[zU u.k,.string u.x,zU u.ty,zI u.n,zI u.p] 82))
 have HK1 : Hid ((w1.alloc (.cells #[zU u.k,.string u.x,zU u.ty,zI u.n,zI u.p] 82)).heap[w1§]? = some (.cells #[zU u.k,.string u.x,zU u.ty,zI u.n,zI u.p] 82 (0,0))) := heap_new _ _
 have HT1 : Hid (w§ < w1§) := Nat.lt_of_lt_of_le (Array.getElem?_eq_some_iff.1 X0.out.Z).1 hm.size
 obtain ⟨Tb,eTb⟩ : ∃ T,w1§ = T := ⟨_,rfl⟩
 obtain ⟨V1,eV1⟩ : ∃ V,w1.alloc (.cells #[zU u.k,.string u.x,zU u.ty,zI u.n,zI u.p] 82) = V := ⟨_,rfl⟩
 have HV1 : Hid (w1.alloc (.cells #[zU u.k,.string u.x,zU u.ty,zI u.n,zI u.p] 82) = V1) := eV1
 rw [eV1] at X1 HK1
 rw [eTb] at HK1 HT1
 obtain ⟨a1,c1,h1⟩ := X1.R
 have cT := take_any h1 (gB [40])
 rw [HET.out] at cT
 have cT : Calls zG 64 #[zP b,.string Zb] _ (OutK b G fa fe d _ (.ok (u2,r2))) := cT
 have X1 := X1.hid
 clear cO hm hr1 h1 X0 eV1
 unfold tkA
 go_wp2_with fail
 rw [HV1.out]
 clear HV1 eTb
 refine cT.mono ?_
 rintro e w2 ⟨rfl,hr2,hm2⟩
 have X2 := X1.out.mv HBL.out hm2 hr2 HS2.out
 have HK2 : Hid (w2.heap[Tb]? = some (.cells #[zU u.k,.string u.x,zU u.ty,zI u.n,zI u.p] 82 (0,0))) := (hm2.block _ (Array.getElem?_eq_some_iff.1 HK1.out).1 (by have := HBL.out; have := HT1.out; omega)).trans HK1.out
 obtain ⟨a2,c2,h2⟩ := X2.R
 have cI := inBr_any h2 hd (ex r2) (fun v a c h => cE v r2 a c h X2.T)
 have HSR : Hid (∀ t q,O = .ok (t,q) → ∀ x ∈ q,x ∈ r2) := fun t q e => gIn_sub (fun t q e => hS r2 t q e) t q (HEI.out.trans e)
 rw [HEI.out] at cI
 have X2 := X2.hid
 clear cT hm2 hr2 h2 X1 HK1 cE HEI
 cases O with
 | error f =>
  go_wp2_with fail
  refine cI.mono ?_
  rintro e w3 ⟨rfl,hm⟩
  exact ⟨rfl,rfl,X2.out.M.trans hm (fun k e => .inl e)⟩
 | ok q =>
 obtain ⟨t3,ts3⟩ := q
 go_wp2_with fail
 refine cI.mono ?_
 rintro e w3 ⟨⟨m,rfl,rfl,hl,hk⟩,hr,hm⟩
 obtain ⟨⟨k2,o2,ty2,n2,f2,x2,p2⟩,am2,cm2,ks2⟩ := m
 have hs2 := (Array.getElem?_eq_some_iff.1 X2.out.Z).1
 have X3 := X2.out.mv HBL.out hm hr (HSR.out _ _ rfl)
 have hk3 : Bkn (fun k => w§ < k ∧ k < w3§) (.mk ⟨k2,o2,ty2,n2,f2,x2,p2⟩ am2 cm2 ks2) := hk.mono fun j hj => ⟨by omega,hj.2⟩
 have X4 := X3.push HBL.out hl hk3
 have HK3 : Hid (w3.heap[Tb]? = some (.cells #[zU u.k,.string u.x,zU u.ty,zI u.n,zI u.p] 82 (0,0))) := (hm.block _ (Array.getElem?_eq_some_iff.1 HK2.out).1 (by have := HBL.out; have := HT1.out; omega)).trans HK2.out
 have bN := below_new w3 (.cells #[zU k2,zU o2,zU ty2,zI n2,zU f2,.string x2,.slice am2 ks2.length cm2,zI p2] 64)
 obtain ⟨W4,eW4⟩ : ∃ W,w3.alloc (.cells #[zU k2,zU o2,zU ty2,zI n2,zU f2,.string x2,.slice am2 ks2.length cm2,zI p2] 64) = W := ⟨_,rfl⟩
 have HK4 : Hid ((w3.alloc (.cells #[zU k2,zU o2,zU ty2,zI n2,zU f2,.string x2,.slice am2 ks2.length cm2,zI p2] 64)).heap[Tb]? = some (.cells #[zU u.k,.string u.x,zU u.ty,zI u.n,zI u.p] 82 (0,0))) := (bN.block _ (Array.getElem?_eq_some_iff.1 HK3.out).1).trans HK3.out
 have HN4 : Hid ((w3.alloc (.cells #[zU k2,zU o2,zU ty2,zI n2,zU f2,.string x2,.slice am2 ks2.length cm2,zI p2] 64)).heap[w3§]? = some (.cells #[zU k2,zU o2,zU ty2,zI n2,zU f2,.string x2,.slice am2 ks2.length cm2,zI p2] 64 (0,0))) := heap_new _ _
 have HX4 : Hid (BX w b G fa fe d (w3.alloc (.cells #[zU k2,zU o2,zU ty2,zI n2,zU f2,.string x2,.slice am2 ks2.length cm2,zI p2] 64)) [(w3§,(.mk ⟨k2,o2,ty2,n2,f2,x2,p2⟩ am2 cm2 ks2))] ts3) := X4
 have HZ4 : Hid ((w3.alloc (.cells #[zU k2,zU o2,zU ty2,zI n2,zU f2,.string x2,.slice am2 ks2.length cm2,zI p2] 64)).heap[w§]? = some (.cells zNo 64 (0,0))) := X4.Z
 have hT4 : Tb ≠ w§ := by have := HT1.out; omega
 have hN4 : w3§ ≠ w§ := by have := hm.size; omega
 rw [eW4] at HK4 HN4 HX4 HZ4
 have HEW : Hid (w3.alloc (.cells #[zU k2,zU o2,zU ty2,zI n2,zU f2,.string x2,.slice am2 ks2.length cm2,zI p2] 64) = W4) := eW4
 clear cI hl hk hk3 hr hm hs2 X2 X3 X4 HK2 bN HK3 eW4
 simp only [Nd.vals,Nd.h,Nd.a,Nd.c,Nd.ks,hdA]
 have HKP : Hid (∀ v,MR W4 w§ v → v.cell? ⟨Tb,0,none⟩ = some (zU u.k) ∧ v.cell? ⟨Tb,1,none⟩ = some (.string u.x) ∧ v.cell? ⟨Tb,2,none⟩ = some (zU u.ty) ∧ v.cell? ⟨Tb,3,none⟩ = some (zI u.n) ∧ v.cell? ⟨Tb,4,none⟩ = some (zI u.p) ∧ v.cell? ⟨w3§,0,none⟩ = some (zU k2) ∧ v.cell? ⟨w3§,1,none⟩ = some (zU o2) ∧ v.cell? ⟨w3§,2,none⟩ = some (zU ty2) ∧ v.cell? ⟨w3§,3,none⟩ = some (zI n2) ∧ v.cell? ⟨w3§,4,none⟩ = some (zU f2) ∧ v.cell? ⟨w3§,5,none⟩ = some (.string x2) ∧ v.cell? ⟨w3§,6,none⟩ = some (.slice am2 ks2.length cm2) ∧ v.cell? ⟨w3§,7,none⟩ = some (zI p2) ∧ MR W4 w§ v) := fun v hv => by
  have e1 := (hv.block _ (Array.getElem?_eq_some_iff.1 HK4.out).1 hT4).trans HK4.out
  have e2 := (hv.block _ (Array.getElem?_eq_some_iff.1 HN4.out).1 hN4).trans HN4.out
  exact ⟨cell_of e1 0,cell_of e1 1,cell_of e1 2,cell_of e1 3,cell_of e1 4,cell_of e2 0,cell_of e2 1,cell_of e2 2,cell_of e2 3,cell_of e2 4,cell_of e2 5,cell_of e2 6,cell_of e2 7,hv⟩
 have HZP : Hid (∀ v,GB W4 v → v.cell? ⟨w§,0,none⟩ = some (zU 0) ∧ v.cell? ⟨w§,1,none⟩ = some (zU 0) ∧ v.cell? ⟨w§,2,none⟩ = some (zU 0) ∧ v.cell? ⟨w§,3,none⟩ = some (zI 0) ∧ v.cell? ⟨w§,4,none⟩ = some (zU 0) ∧ v.cell? ⟨w§,5,none⟩ = some (.string ⟨#[]⟩) ∧ v.cell? ⟨w§,6,none⟩ = some (.slice none 0 0) ∧ v.cell? ⟨w§,7,none⟩ = some (zI 0) ∧ v.frozen? ⟨w§,0,none⟩ = false ∧ v.frozen? ⟨w§,1,none⟩ = false ∧ v.frozen? ⟨w§,2,none⟩ = false ∧ v.frozen? ⟨w§,3,none⟩ = false ∧ v.frozen? ⟨w§,4,none⟩ = false ∧ v.frozen? ⟨w§,5,none⟩ = false ∧ v.frozen? ⟨w§,6,none⟩ = false ∧ v.frozen? ⟨w§,7,none⟩ = false) := fun v hv => by
  have e3 := (hv.block _ (Array.getElem?_eq_some_iff.1 HZ4.out).1).trans HZ4.out
  exact ⟨cell_of e3 0,cell_of e3 1,cell_of e3 2,cell_of e3 3,cell_of e3 4,cell_of e3 5,cell_of e3 6,cell_of e3 7,frozen_of e3 0,frozen_of e3 1,frozen_of e3 2,frozen_of e3 3,frozen_of e3 4,frozen_of e3 5,frozen_of e3 6,frozen_of e3 7⟩
 have cY : ∀ v,Calls zG 129 #[.agg #[zU u.k,.string u.x,zU u.ty,zI u.n,zI u.p]] v fun e w' => e = .returned (zU (tyX u.x)) ∧ Below v§ v w' := fun v => typeOf_any u v
 go_upto_region 4 with fail
 rw [HEW.out]
 refine wp_region_held_drew (S := fun v => MR W4 w§ v) zK (MR.drew (MR.refl _ _)) (fun hHeld => ?_)
 refine wpAnyH_take (i := 0) (v := ?_) rfl zK zK zK (fun _ _ _ h => h) (Or.inl ⟨by rfl,?_⟩) (by assumption) ?_
 rotate_left
 ·(intro v hv; obtain ⟨t0,t1,t2,t3,t4,n0,n1,n2,n3,n4,n5,n6,n7,_⟩ := HKP.out v hv; go_simp; try (with_reducible rfl))
 try simp [Act.put]
 refine wpAnyH_take (i := 2) (v := ?_) rfl zK zK zK (fun _ _ _ h => h) (Or.inl ⟨by rfl,?_⟩) (by assumption) ?_
 rotate_left
 ·(intro v hv; obtain ⟨t0,t1,t2,t3,t4,n0,n1,n2,n3,n4,n5,n6,n7,_⟩ := HKP.out v hv; go_simp; try (with_reducible rfl))
 try simp [Act.put]
 refine wpAnyH_take (i := 4) (v := ?_) rfl zK zK zK (fun _ _ _ h => h) (Or.inl ⟨by rfl,?_⟩) (by assumption) ?_
 rotate_left
 ·(intro v hv; obtain ⟨t0,t1,t2,t3,t4,n0,n1,n2,n3,n4,n5,n6,n7,_⟩ := HKP.out v hv; go_simp; try (with_reducible rfl))
 try simp [Act.put]
 refine wpAnyH_take (i := 5) (v := ?_) rfl zK zK zK (fun _ _ _ h => h) (Or.inl ⟨by rfl,?_⟩) (by assumption) ?_
 rotate_left
 ·(intro v hv; obtain ⟨t0,t1,t2,t3,t4,n0,n1,n2,n3,n4,n5,n6,n7,_⟩ := HKP.out v hv; go_simp; try (with_reducible rfl))
 try simp [Act.put]
 have HRG : Hid (Rg ⟨9,0,tyX u.x,0,0,gE,u.p⟩) := by
  have := HUT.out.p0; have := HUT.out.p1; have := tyX_rg u.x
  constructor <;> first | omega | (show (0 : Nat) ≤ _; omega) | (simp only; omega) | simp
 have hWW : w§ < W4§ := (Array.getElem?_eq_some_iff.1 HZ4.out).1
 refine wpAnyH_ready (rs := [1,3]) zK (by simp) ?_
 refine AllReadyH.cons rfl (fun K hK => ?_) (AllReadyH.cons rfl (fun K hK => ?_) AllReadyH.nil)
 ·go_simp
  go_at_call 129
  refine (cY _).mono ?_
  rintro e w6 ⟨rfl,hb6⟩
  have hg6 : GB W4 w6 := GB.call (by (repeat (first | with_reducible exact GB.refl _ | with_reducible apply GB.drew2 | with_reducible apply GB.alloc))) hb6
  have hm6 : MR W4 w§ w6 := Mv.ofBelow hg6
  refine hK.out _ _ hm6 (fun hHeld6 => ?_)
  clear hK K
  try simp [Act.put]
  refine wpAnyH_ready (rs := [3]) zK (by simp) ?_
  refine AllReadyH.cons rfl (fun K hK => ?_) AllReadyH.nil
  go_simp
  refine hK.out _ _ (by (repeat (first | with_reducible assumption | with_reducible exact MR.refl _ _ | with_reducible apply MR.drew2 | with_reducible apply MR.alloc | with_reducible apply MR.set | with_reducible refine MR.call ?_ (by with_reducible assumption)))) (fun hHeld3 => ?_)
  clear hK K
  try simp [Act.put]
  obtain ⟨Bq,eBq⟩ : ∃ q,w6§ = q := ⟨_,rfl⟩
  obtain ⟨V7,eV7⟩ : ∃ V,w6.alloc (.cells #[zU k2,zU o2,zU ty2,zI n2,zU f2,.string x2,.slice am2 ks2.length cm2,zI p2] 64) = V := ⟨_,rfl⟩
  have hG7 : GB W4 V7 := by rw [← eV7]; exact GB.alloc hg6 _
  have hS7 : V7.heap[Bq]? = some (.cells #[zU k2,zU o2,zU ty2,zI n2,zU f2,.string x2,.slice am2 ks2.length cm2,zI p2] 64 (0,0)) := by rw [← eV7,← eBq]; exact heap_new _ _
  have hB7 : W4§ ≤ Bq := by rw [← eBq]; exact hg6.size
  rw [eV7] at hHeld3 ⊢
  rw [eBq]
  clear eV7 eBq
  refine wpAnyH_take (i := 6) (v := ?_) rfl zK zK zK (fun _ _ _ h => h) (Or.inl ⟨by rfl,?_⟩) (by assumption) ?_
  rotate_left
  ·(intro v hv; go_simp; try (with_reducible rfl))
  try simp [Act.put]
  obtain ⟨z0,z1,z2,z3,z4,z5,z6,z7,q0,q1,q2,q3,q4,q5,q6,q7⟩ := HZP.out V7 hG7
  have hZ7 : V7.heap[w§]? = some (.cells zNo 64 (0,0)) := (hG7.block _ (Array.getElem?_eq_some_iff.1 HZ4.out).1).trans HZ4.out
  obtain ⟨Y,eY,hY1,hY2,hY3,hY4⟩ := fin8 hZ7 (zU 9) (zU 0) (zU (tyX u.x)) (zI 0) (zU 0) (.string ⟨#[]⟩) (.slice (some ⟨Bq,0,none⟩) 1 1) (zI u.p)
  have hmY : MR W4 w§ Y := by rw [← eY]; exact (((((((MR.set (Mv.ofBelow hG7) 0 _).set 1 _).set 2 _).set 3 _).set 4 _).set 5 _).set 6 _).set 7 _
  have hYS : Y.heap[Bq]? = some (.cells #[zU k2,zU o2,zU ty2,zI n2,zU f2,.string x2,.slice am2 ks2.length cm2,zI p2] 64 (0,0)) := (hY3 _ (by omega)).trans hS7
  have hYY := kid_fin (h := ⟨9,0,tyX u.x,0,0,gE,u.p⟩) HX4.out HBL.out HGL.out (HX4.out.B _ (List.mem_cons_self ..)).2.2.1 (HX4.out.B _ (List.mem_cons_self ..)).2.2.2 HRG.out hB7 hYS hmY
  have HEY : Hid (_ = Y) := eY
  have HY1 : Hid (_) := hY1
  have HYY : Hid (_) := hYY
  clear eY hY1 hY2 hY3 hY4 hmY hYY hZ7
  refine wpAnyH_ready (rs := [7]) zK (by simp) ?_
  refine AllReadyH.cons rfl (fun K hK => ?_) AllReadyH.nil
  go_simp
  refine hK.out _ _ (by (repeat (first | with_reducible assumption | with_reducible exact MR.refl _ _ | with_reducible apply MR.drew2 | with_reducible apply MR.alloc | with_reducible apply MR.set | with_reducible refine MR.call ?_ (by with_reducible assumption)))) (fun hHeld7 => ?_)
  clear hK K
  refine wpAnyH_done zK ?_ _
  rw [HEY.out]
  go_wp2_with fail
  exact bodyPost_ret (results_cell_row rfl _ _ w§ 64 (Nd.mk ⟨9,0,tyX u.x,0,0,gE,u.p⟩ (some ⟨Bq,0,none⟩) 1 [(.mk ⟨k2,o2,ty2,n2,f2,x2,p2⟩ am2 cm2 ks2)]).vals (0,0) _ rfl HY1.out Tryz.underlying64 rfl zK) rfl ⟨⟨_,rfl,rfl,HYY.out.1,HYY.out.2.1⟩,HYY.out.2.2.1,HYY.out.2.2.2⟩
 ·go_simp
  refine hK.out _ _ (by (repeat (first | with_reducible assumption | with_reducible exact MR.refl _ _ | with_reducible apply MR.drew2 | with_reducible apply MR.alloc | with_reducible apply MR.set | with_reducible refine MR.call ?_ (by with_reducible assumption)))) (fun hHeld3 => ?_)
  clear hK K
  try simp [Act.put]
  refine wpAnyH_ready (rs := [1]) zK (by simp) ?_
  refine AllReadyH.cons rfl (fun K hK => ?_) AllReadyH.nil
  go_simp
  go_at_call 129
  refine (cY _).mono ?_
  rintro e w6 ⟨rfl,hb6⟩
  have hg6 : GB W4 w6 := GB.call (by (repeat (first | with_reducible exact GB.refl _ | with_reducible apply GB.drew2 | with_reducible apply GB.alloc))) hb6
  have hm6 : MR W4 w§ w6 := Mv.ofBelow hg6
  refine hK.out _ _ hm6 (fun hHeld6 => ?_)
  clear hK K
  try simp [Act.put]
  have hS7 : w6.heap[W4§]? = some (.cells #[zU k2,zU o2,zU ty2,zI n2,zU f2,.string x2,.slice am2 ks2.length cm2,zI p2] 64 (0,0)) := (hb6.block _ (by show _ < (W4.alloc _)§; rw [size_alloc]; omega)).trans (heap_new W4 _)
  obtain ⟨Bq,eBq⟩ : ∃ q,W4§ = q := ⟨_,rfl⟩
  have hB7 : W4§ ≤ Bq := by omega
  have hG7 := hg6
  rw [eBq] at hS7 ⊢
  clear eBq
  refine wpAnyH_take (i := 6) (v := ?_) rfl zK zK zK (fun _ _ _ h => h) (Or.inl ⟨by rfl,?_⟩) (by assumption) ?_
  rotate_left
  ·(intro v hv; go_simp; try (with_reducible rfl))
  try simp [Act.put]
  obtain ⟨z0,z1,z2,z3,z4,z5,z6,z7,q0,q1,q2,q3,q4,q5,q6,q7⟩ := HZP.out w6 hG7
  have hZ7 : w6.heap[w§]? = some (.cells zNo 64 (0,0)) := (hG7.block _ (Array.getElem?_eq_some_iff.1 HZ4.out).1).trans HZ4.out
  obtain ⟨Y,eY,hY1,hY2,hY3,hY4⟩ := fin8 hZ7 (zU 9) (zU 0) (zU (tyX u.x)) (zI 0) (zU 0) (.string ⟨#[]⟩) (.slice (some ⟨Bq,0,none⟩) 1 1) (zI u.p)
  have hmY : MR W4 w§ Y := by rw [← eY]; exact (((((((MR.set (Mv.ofBelow hG7) 0 _).set 1 _).set 2 _).set 3 _).set 4 _).set 5 _).set 6 _).set 7 _
  have hYS : Y.heap[Bq]? = some (.cells #[zU k2,zU o2,zU ty2,zI n2,zU f2,.string x2,.slice am2 ks2.length cm2,zI p2] 64 (0,0)) := (hY3 _ (by omega)).trans hS7
  have hYY := kid_fin (h := ⟨9,0,tyX u.x,0,0,gE,u.p⟩) HX4.out HBL.out HGL.out (HX4.out.B _ (List.mem_cons_self ..)).2.2.1 (HX4.out.B _ (List.mem_cons_self ..)).2.2.2 HRG.out hB7 hYS hmY
  have HEY : Hid (_ = Y) := eY
  have HY1 : Hid (_) := hY1
  have HYY : Hid (_) := hYY
  clear eY hY1 hY2 hY3 hY4 hmY hYY hZ7
  refine wpAnyH_ready (rs := [7]) zK (by simp) ?_
  refine AllReadyH.cons rfl (fun K hK => ?_) AllReadyH.nil
  go_simp
  refine hK.out _ _ (by (repeat (first | with_reducible assumption | with_reducible exact MR.refl _ _ | with_reducible apply MR.drew2 | with_reducible apply MR.alloc | with_reducible apply MR.set | with_reducible refine MR.call ?_ (by with_reducible assumption)))) (fun hHeld7 => ?_)
  clear hK K
  refine wpAnyH_done zK ?_ _
  rw [HEY.out]
  go_wp2_with fail
  exact bodyPost_ret (results_cell_row rfl _ _ w§ 64 (Nd.mk ⟨9,0,tyX u.x,0,0,gE,u.p⟩ (some ⟨Bq,0,none⟩) 1 [(.mk ⟨k2,o2,ty2,n2,f2,x2,p2⟩ am2 cm2 ks2)]).vals (0,0) _ rfl HY1.out Tryz.underlying64 rfl zK) rfl ⟨⟨_,rfl,rfl,HYY.out.1,HYY.out.2.1⟩,HYY.out.2.2.1,HYY.out.2.2.2⟩
theorem Tryz.info64 : (Tryz.prog.info? 64).map (fun i => (i.zero,i.size,i.bytes)) = some (some (.agg zNo),8,72) := by kernel_rfl
theorem ldF_lt {L : List Nd} {y : Nd} {i : Nat} (h : i < L.length) : ldF (L ++ [y]) i = ldF L i := by
 unfold ldF
 simp [List.getD,List.getElem?_append_left h]
theorem ldF_at (L : List Nd) (y : Nd) : ldF (L ++ [y]) L.length = y := by
 unfold ldF
 simp [List.getD]
theorem nd_cells (y : Nd) : ∀ j,j < 8 → (y.vals).toList[j]? = some (ndF (fun _ => y) j) := by
 intro j hj
 match j,hj with
 | 0,_ => rfl
 | 1,_ => rfl
 | 2,_ => rfl
 | 3,_ => rfl
 | 4,_ => rfl
 | 5,_ => rfl
 | 6,_ => rfl
 | 7,_ => rfl
theorem RowN.snoc {w' : World} {L : List Nd} {y : Nd} {g cap : Nat} (h2 : w'.ownsRow 0 64 8 (.slice (some ⟨g,0,none⟩) (L.length + 1) cap) (L.length + 1) ((List.range (L.length * 8)).map (ndF (ldF L)) ++ (y.vals).toList)) : RowN w' (.slice (some ⟨g,0,none⟩) (L.length + 1) cap) (L ++ [y]) := by
 have hr := Row.snoc (x := ndF (fun _ => y)) h2 rfl (fun j hj => nd_cells y j hj)
 unfold RowN
 rw [List.length_append,List.length_singleton]
 refine hr.congr fun j hj => ?_
 by_cases h : j < L.length * 8
 ·simp only [h,if_true]
  unfold ndF
  rw [ldF_lt (by omega)]
 ·have e : j / 8 = L.length := by omega
  simp only [h,if_false]
  unfold ndF
  rw [e,ldF_at,show (j - L.length * 8) % 8 = j % 8 by omega]
theorem newsn_core (w0 : World) (y : Nd) : ∀ j u,(y.vals).toList[j]? = some u → (w0.alloc (.cells (y.vals) 64)).cell? ((⟨w0§,0,none⟩ : Addr).add j) = some u := World.news_of_block (heap_new w0 _)
theorem onen_core (y : Nd) : ∀ u ∈ (y.vals).toList,u.oneCell' = true := by
 intro u hu
 simp [Nd.vals,hdA] at hu
 rcases hu with rfl | rfl | rfl | rfl | rfl | rfl | rfl | rfl <;> rfl
theorem step_row {w0 : World} {ops : Array Oper} {o : Oper} {a : Act} {K : Act → World → Prop} {Q : Exit → Act → World → Prop} {E : Prop} (hgd : o.guard = none) (d x : Operand)
  (ho : o.op = .call { callee := .builtin .append,args := #[d,x],argTypes := #[62,62] }) (y : Nd) {v : Value} {L : List Nd} (hR : RowN w0 v L) (hs : a.eval d = v) (hx : a.eval x = .slice (some ⟨w0§,0,none⟩) 1 1) (hlen : L.length ≤ 1000000000)
  (h : ∀ g cap w',RowN w' (.slice (some ⟨g,0,none⟩) (L.length + 1) cap) (L ++ [y]) → (w0.alloc (.cells y.vals 64)).grownBy w' v.ownBlock → (v.ownBlock = some g ∨ w0§ < g) → K (a.put o.dst (.slice (some ⟨g,0,none⟩) (L.length + 1) cap)) w') :
  if Region.wanted o (yielded ops a.tmps) = true then Oper.wp Tryz.prog o a (w0.alloc (.cells y.vals 64)) K Q else E := by
 obtain ⟨i0,hi,hz0,hz1,hz2⟩ := info_parts Tryz.info64
 refine step_append_lies _ hgd d x 62 ho 0 64 i0 _ 8 72 Tryz.underlying62 hi hz0 hz1 hz2 rfl (by decide) v L.length _ hs (hR.alloc _) ⟨w0§,0,none⟩ 1 1 (y.vals).toList hx rfl (newsn_core w0 y) (onen_core y) (by decide) (by unfold maxLen; omega) (by omega) (Nat.zero_le _) _ rfl ?_
 intro g cap w' h2 h3 h4 h5
 refine h g cap w' (RowN.snoc h2) h3 ?_
 rcases h4 with h4 | h4
 ·exact .inl h4
 ·exact .inr (by rw [h4,size_alloc]; omega)
theorem ndF_at (A : Nat → Nd) (j i : Nat) (hi : i < 8) : ndF A (j * 8 + i) = (A j).vals.getD i undef := by
 unfold ndF
 rw [show (j * 8 + i) / 8 = j by omega,show (j * 8 + i) % 8 = i by omega]
theorem RowN.lies {w : World} {v : Value} {L : List Nd} (h : RowN w v L) : (v = .slice none 0 0 ∧ L = []) ∨ ∃ g cap,v = .slice (some ⟨g,0,none⟩) L.length cap ∧ L.length ≤ cap ∧ cap ≤ 9223372036854775807 ∧ ∀ j,j < L.length → NdAt w g (0 + j * 8) (ldF L j) := by
 have h' := h
 rcases h.2 with ⟨rfl,e⟩ | ⟨g,cap,cur,rfl,_,_,hc1,hc2,_⟩
 ·left
  exact ⟨rfl,List.length_eq_zero_iff.1 e⟩
 ·right
  refine ⟨g,cap,rfl,hc1,hc2,fun j hj => ?_⟩
  rw [Nat.zero_add]
  have c := fun i (hi : i < 8) => (Row.cell h' (j := j * 8 + i) (by omega)).trans (congrArg some (ndF_at (ldF L) j i hi))
  exact ⟨c 0 (by omega),c 1 (by omega),c 2 (by omega),c 3 (by omega),c 4 (by omega),c 5 (by omega),c 6 (by omega),c 7 (by omega)⟩
theorem ldF_get {L : List Nd} {i : Nat} (h : i < L.length) : ldF L i = L[i] := by
 unfold ldF
 rw [List.getD_eq_getElem?_getD,List.getElem?_eq_getElem h]; rfl
theorem allReady_cons {P : Program} {md : Region.Mode} {ops : Array Oper} {Q : Exit → Act → World → Prop} {fuel : Nat} {listed : Array Bool} {a : Act} {w : World} {i : Nat} {o : Oper} {rs : List Nat} (ho : ops[i]? = some o)
  (h : ∀ K' : Act → World → Prop,Shut (∀ a w,wpAny P md ops Q fuel (listed.setIfInBounds i true) a w → K' a w) → if Region.wanted o (yielded ops a.tmps) = true then Oper.wp P o a w K' Q else K' (a.put o.dst undef) w)
  (hs : AllReady P md ops Q fuel listed a w rs) : AllReady P md ops Q fuel listed a w (i :: rs) := AllReady.cons ho (fun K hK => h K hK) hs
structure CX (w : World) (b G : Nat) (fa : Int) (fe : Value) (d : Nat) (V : World) (Nb : Nat) (v : Value) (L : List Nd) (q p : Int) (ts : List Tk) : Prop where
 X : BX w b G fa fe d V [] ts
 N : V.heap[Nb]? = some (.cells #[zU 8,zU q,zU 0,zI 0,zU 0,.string ⟨#[]⟩,v,zI p] 64 (0,0))
 nb : w§ < Nb
 row : RowN V v L
 vb : ∀ k,v.ownBlock = some k → w§ < k ∧ k ≠ Nb
 ls : ∀ m ∈ L,LiesO V m ∧ Bkn (fun k => w§ < k ∧ k < V§ ∧ k ≠ Nb ∧ v.ownBlock ≠ some k) m
 sp : L.Pairwise Apt
theorem CX.hid {w : World} {b G : Nat} {fa : Int} {fe : Value} {d : Nat} {V : World} {Nb : Nat} {v : Value} {L : List Nd} {q p : Int} {ts : List Tk} (h : CX w b G fa fe d V Nb v L q p ts) : Hid (CX w b G fa fe d V Nb v L q p ts) := h
theorem CX.mv {w : World} {b G : Nat} {fa : Int} {fe : Value} {d : Nat} {V V' : World} {Nb : Nat} {v : Value} {L : List Nd} {q p : Int} {ts ts' : List Tk} (h : CX w b G fa fe d V Nb v L q p ts) (hb : b < w§) (hm : Mv V V' (fun k => k = b)) (hr : ∃ a c,Rdr V' b G ts' fa fe d a c) (ht : ∀ x ∈ ts',x ∈ ts) : CX w b G fa fe d V' Nb v L q p ts' := by
 have hs := hm.size
 have h1 := h.nb
 refine ⟨h.X.mv hb hm hr ht,(hm.block _ (Array.getElem?_eq_some_iff.1 h.N).1 (by omega)).trans h.N,h.nb,h.row.of_block (fun k hk => hm.block k (h.row.lt k hk) (by have := (h.vb k hk).1; omega)),h.vb,fun m hm' => ?_,h.sp⟩
 obtain ⟨l1,l2⟩ := h.ls m hm'
 exact ⟨l1.bkn l2 fun j hj => hm.block j hj.2.1 (by omega),l2.mono fun j hj => ⟨hj.1,by omega,hj.2.2⟩⟩
theorem CX.on {w : World} {b G : Nat} {fa : Int} {fe : Value} {d : Nat} {V V' : World} {Nb : Nat} {v : Value} {L : List Nd} {q p : Int} {ts : List Tk} (h : CX w b G fa fe d V Nb v L q p ts) (hb : b < w§) (k : Below V§ V V') : CX w b G fa fe d V' Nb v L q p ts := by
 refine h.mv hb (Mv.ofBelow k) ?_ (fun _ h => h)
 obtain ⟨a,c,hr⟩ := h.X.R
 exact ⟨a,c,hr.on k⟩
theorem CX.app {w : World} {b G : Nat} {fa : Int} {fe : Value} {d : Nat} {V w' : World} {Nb : Nat} {v : Value} {L : List Nd} {q p : Int} {ts : List Tk} {y : Nd} {g cap : Nat} (h : CX w b G fa fe d V Nb v L q p ts) (hb : b < w§) (hg : G < w§) (hl : LiesO V y) (hk : Bkn (fun k => w§ < k ∧ k < V§ ∧ k ≠ Nb ∧ v.ownBlock ≠ some k) y) (hA : ∀ x ∈ L,Apt x y)
  (hr : RowN w' (.slice (some ⟨g,0,none⟩) (L.length + 1) cap) (L ++ [y])) (h3 : (V.alloc (.cells y.vals 64)).grownBy w' v.ownBlock) (h4 : v.ownBlock = some g ∨ V§ < g) :
  w'.heap[Nb]? = V.heap[Nb]? ∧ CX w b G fa fe d (w'.setCell ⟨Nb,6,none⟩ (.slice (some ⟨g,0,none⟩) (L.length + 1) cap)) Nb (.slice (some ⟨g,0,none⟩) (L.length + 1) cap) (L ++ [y]) q p ts := by
 have hs0 := size_alloc V (.cells y.vals 64)
 have hs := h3.size
 have hN := (Array.getElem?_eq_some_iff.1 h.N).1
 have hZ := (Array.getElem?_eq_some_iff.1 h.X.Z).1
 have h1 := h.nb
 have old : ∀ k,k < V§ → v.ownBlock ≠ some k → w'.heap[k]? = V.heap[k]? := fun k hk hne => (h3.block k (by omega) (fun e => hne e.symm)).trans (Below.heap_alloc _ _ _ hk)
 have oldS : ∀ k,k < V§ → v.ownBlock ≠ some k → k ≠ Nb → (w'.setCell ⟨Nb,6,none⟩ (.slice (some ⟨g,0,none⟩) (L.length + 1) cap)).heap[k]? = V.heap[k]? := fun k hk hne hn => (Below.heap_setCell _ _ _ _ hn).trans (old k hk hne)
 have hvN : v.ownBlock ≠ some Nb := fun e => (h.vb _ e).2 rfl
 have hgN : g ≠ Nb := by
  rcases h4 with h4 | h4
  ·exact fun e => hvN (by rw [← e]; exact h4)
  ·omega
 have hgw : w§ < g := by
  rcases h4 with h4 | h4
  ·exact (h.vb _ h4).1
  ·omega
 have vlow : ∀ k,k ≤ w§ → v.ownBlock ≠ some k := fun k hk e => by have := (h.vb _ e).1; omega
 refine ⟨old _ hN hvN,⟨⟨?_,?_,fun p hp => by simp at hp,?_,h.X.T⟩,?_,h.nb,?_,?_,?_,List.pairwise_append.2 ⟨h.sp,List.pairwise_singleton _ _,fun x hx z hz => by obtain rfl := List.mem_singleton.1 hz; exact hA x hx⟩⟩⟩
 ·have m1 : Mv w w' (fun k => k = b) := (h.X.M.trans (Mv.ofBelow (F := fun k => k = b) (below_new V (.cells y.vals 64))) (fun _ e => .inl e)).grown h3 (fun k e => .inr (by have := (h.vb _ e).1; omega))
  exact m1.setCell (a := ⟨Nb,6,none⟩) (.inr (by show w§ ≤ Nb; omega)) _
 ·exact (oldS _ hZ (vlow _ (Nat.le_refl _)) (by omega)).trans h.X.Z
 ·obtain ⟨a,c,hR⟩ := h.X.R
  exact ⟨a,c,hR.blk (oldS _ hR.lt (vlow _ (by omega)) (by omega)) (oldS _ hR.gl (vlow _ (by omega)) (by omega)) (by simp [World.setCell]; omega)⟩
 ·exact heap_set (j := 6) _ ((old _ hN hvN).trans h.N)
 ·exact hr.of_block (fun k hk => Below.heap_setCell _ _ _ _ (by simp [Value.ownBlock] at hk; show k ≠ Nb; omega))
 ·intro k hk
  simp [Value.ownBlock] at hk
  subst hk
  exact ⟨hgw,hgN⟩
 ·intro m hm
  have hsz : (w'.setCell ⟨Nb,6,none⟩ (.slice (some ⟨g,0,none⟩) (L.length + 1) cap))§ = w'§ := by simp [World.setCell]
  have key : ∀ m,LiesO V m → Bkn (fun k => w§ < k ∧ k < V§ ∧ k ≠ Nb ∧ v.ownBlock ≠ some k) m → LiesO (w'.setCell ⟨Nb,6,none⟩ (.slice (some ⟨g,0,none⟩) (L.length + 1) cap)) m ∧ Bkn (fun k => w§ < k ∧ k < (w'.setCell ⟨Nb,6,none⟩ (.slice (some ⟨g,0,none⟩) (L.length + 1) cap))§ ∧ k ≠ Nb ∧ (Value.slice (some ⟨g,0,none⟩) (L.length + 1) cap).ownBlock ≠ some k) m := fun m l1 l2 =>
   ⟨l1.bkn l2 fun j hj => oldS j hj.2.1 hj.2.2.2 hj.2.2.1,l2.mono fun j hj => ⟨hj.1,by rw [hsz]; omega,hj.2.2.1,fun e => by
    simp [Value.ownBlock] at e
    rcases h4 with h4 | h4
    ·exact hj.2.2.2 (by rw [h4,e])
    ·omega⟩⟩
  rcases List.mem_append.1 hm with hm | hm
  ·exact key m (h.ls m hm).1 (h.ls m hm).2
  ·obtain rfl := List.mem_singleton.1 hm
   exact key m hl hk
theorem CX.fin {w : World} {b G : Nat} {fa : Int} {fe : Value} {d : Nat} {W : World} {Nb g n cap : Nat} {L : List Nd} {q p : Int} {ts : List Tk} (h : CX w b G fa fe d W Nb (.slice (some ⟨g,0,none⟩) n cap) L q p ts) (hn : n = L.length) (hb : b < w§) (hg : G < w§) (hq : Rg ⟨8,q,0,0,0,gE,p⟩) :
  ∃ Y,((((((((W.setCell ⟨w§,0,none⟩ (zU 8)).setCell ⟨w§,1,none⟩ (zU q)).setCell ⟨w§,2,none⟩ (zU 0)).setCell ⟨w§,3,none⟩ (zI 0)).setCell ⟨w§,4,none⟩ (zU 0)).setCell ⟨w§,5,none⟩ (.string ⟨#[]⟩)).setCell ⟨w§,6,none⟩ (.slice (some ⟨g,0,none⟩) n cap)).setCell ⟨w§,7,none⟩ (zI p)) = Y ∧ Y.heap[w§]? = some (.cells (Nd.mk ⟨8,q,0,0,0,gE,p⟩ (some ⟨g,0,none⟩) cap L).vals 64 (0,0)) ∧ LiesO Y (.mk ⟨8,q,0,0,0,gE,p⟩ (some ⟨g,0,none⟩) cap L) ∧ Bkn (fun k => w§ ≤ k ∧ k < Y§) (.mk ⟨8,q,0,0,0,gE,p⟩ (some ⟨g,0,none⟩) cap L) ∧ (∃ a c,Rdr Y b G ts fa fe d a c) ∧ Mv w Y (fun k => k = b) := by
 obtain ⟨Y,eY,hY1,hY2,hY3,hY4⟩ := fin8 h.X.Z (zU 8) (zU q) (zU 0) (zI 0) (zU 0) (.string ⟨#[]⟩) (.slice (some ⟨g,0,none⟩) n cap) (zI p)
 obtain ⟨g',cap',e',hc1,hc2,hrow⟩ : ∃ g' cap',Value.slice (some ⟨g,0,none⟩) n cap = .slice (some ⟨g',0,none⟩) L.length cap' ∧ L.length ≤ cap' ∧ cap' ≤ 9223372036854775807 ∧ ∀ j,j < L.length → NdAt W g' (0 + j * 8) (ldF L j) := h.row.lies.resolve_left (fun e => by cases e.1)
 cases e'
 have hgw := (h.vb g rfl).1
 have hgl : g < W§ := h.row.lt g rfl
 refine ⟨Y,eY,hY1,?_,?_,?_,hY4 _ _ h.X.M (Nat.le_refl _)⟩
 ·refine .mk _ _ _ _ hq hc1 hc2 (fun i hi => ⟨g,0,rfl,?_⟩) (fun m hm => (h.ls m hm).1.bkn (h.ls m hm).2 fun j hj => hY3 j (by omega)) (h.row.of_block fun k hk => hY3 k (by have := (h.vb k hk).1; omega)) (fun x e m hm => by injection e with e; subst e; exact (h.ls m hm).2.mono fun j hj e => hj.2.2.2 (by rw [e]; rfl)) h.sp
  have := hrow i hi
  rw [ldF_get hi] at this
  exact this.blk (hY3 g (by omega))
 ·refine .mk _ _ _ _ (fun b' o e => ?_) (fun m hm => (h.ls m hm).2.mono fun j hj => ⟨by omega,by omega⟩)
  injection e with e; injection e with e; omega
 ·obtain ⟨a,c,hr⟩ := h.X.R
  exact ⟨a,c,hr.blk (hY3 _ (by omega)) (hY3 _ (by omega)) (by omega)⟩
theorem treesOf_snoc (L : List Nd) (m : Nd) : treesOf (L ++ [m]) = treesOf L ++ [treeOf m] := by
 induction L with
 | nil => rfl
 | cons k L ih => simp only [List.cons_append,treesOf,ih]
def cSnd : Code → Code
 | .seq _ b => b
 | c => c
end Go.Proofs.YtkfabnchhjfjjaaGreatDoor
