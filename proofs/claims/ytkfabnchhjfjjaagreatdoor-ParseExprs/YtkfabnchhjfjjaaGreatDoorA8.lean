import Derived.Test.YtkfabnchhjfjjaaGreatDoorA0
import Derived.Test.YtkfabnchhjfjjaaGreatDoorA7
import Derived.Test.YtkfabnchhjfjjaaGreatDoorA4
namespace Go.Proofs.YtkfabnchhjfjjaaGreatDoor
open Go.RowKit
theorem kid8 {w : World} {b G : Nat} {fa : Int} {fe : Value} {d : Nat} {W : World} {k2 o2 ty2 n2 f2 p2 q p : Int} {x2 : ByteArray} {am2 : Option Addr} {cm2 : Nat} {ks2 : List Nd} {ts : List Tk} (hm : Mv w W (fun k => k = b)) (hZ : W.heap[w§]? = some (.cells zNo 64 (0,0))) (hl : LiesO W (.mk ⟨k2,o2,ty2,n2,f2,x2,p2⟩ am2 cm2 ks2)) (hk : Bkn (fun k => w§ < k ∧ k < W§) (.mk ⟨k2,o2,ty2,n2,f2,x2,p2⟩ am2 cm2 ks2)) (hr : ∃ a c,Rdr W b G ts fa fe d a c) (hb : b < w§) (hg : G < w§) (hq : Rg ⟨5,q,0,0,0,gE,p⟩) :
  ∃ Y,(((((((((W.setCell ⟨w§,0,none⟩ (zU 5)).setCell ⟨w§,1,none⟩ (zU q)).setCell ⟨w§,2,none⟩ (zU 0)).setCell ⟨w§,3,none⟩ (zI 0)).setCell ⟨w§,4,none⟩ (zU 0)).setCell ⟨w§,5,none⟩ (.string ⟨#[]⟩)).setCell ⟨w§,6,none⟩ (.slice (some ⟨W§ + 1,0,none⟩) 1 1)).setCell ⟨w§,7,none⟩ (zI p)).alloc (.cells #[zU k2,zU o2,zU ty2,zI n2,zU f2,.string x2,.slice am2 ks2.length cm2,zI p2] 64)).alloc (.cells #[zU k2,zU o2,zU ty2,zI n2,zU f2,.string x2,.slice am2 ks2.length cm2,zI p2] 64) = Y ∧ Y.heap[w§]? = some (.cells (Nd.mk ⟨5,q,0,0,0,gE,p⟩ (some ⟨W§ + 1,0,none⟩) 1 [(.mk ⟨k2,o2,ty2,n2,f2,x2,p2⟩ am2 cm2 ks2)]).vals 64 (0,0)) ∧ LiesO Y (.mk ⟨5,q,0,0,0,gE,p⟩ (some ⟨W§ + 1,0,none⟩) 1 [(.mk ⟨k2,o2,ty2,n2,f2,x2,p2⟩ am2 cm2 ks2)]) ∧ Bkn (fun k => w§ ≤ k ∧ k < Y§) (.mk ⟨5,q,0,0,0,gE,p⟩ (some ⟨W§ + 1,0,none⟩) 1 [(.mk ⟨k2,o2,ty2,n2,f2,x2,p2⟩ am2 cm2 ks2)]) ∧ (∃ a c,Rdr Y b G ts fa fe d a c) ∧ Mv w Y (fun k => k = b) := by
 obtain ⟨Y,eY,hY1,hY2,hY3,hY4⟩ := fin8 hZ (zU 5) (zU q) (zU 0) (zI 0) (zU 0) (.string ⟨#[]⟩) (.slice (some ⟨W§ + 1,0,none⟩) 1 1) (zI p)
 rw [eY]
 clear eY
 have hNW : w§ < W§ := (Array.getElem?_eq_some_iff.1 hZ).1
 have b1 := below_new Y (.cells #[zU k2,zU o2,zU ty2,zI n2,zU f2,.string x2,.slice am2 ks2.length cm2,zI p2] 64)
 have s1 : (Y.alloc (.cells #[zU k2,zU o2,zU ty2,zI n2,zU f2,.string x2,.slice am2 ks2.length cm2,zI p2] 64))§ = W§ + 1 := by rw [size_alloc,hY2]
 obtain ⟨U,eU⟩ : ∃ U,Y.alloc (.cells #[zU k2,zU o2,zU ty2,zI n2,zU f2,.string x2,.slice am2 ks2.length cm2,zI p2] 64) = U := ⟨_,rfl⟩
 rw [eU] at b1 s1 ⊢
 clear eU
 have b2 := below_new U (.cells #[zU k2,zU o2,zU ty2,zI n2,zU f2,.string x2,.slice am2 ks2.length cm2,zI p2] 64)
 have hB := heap_new U (.cells #[zU k2,zU o2,zU ty2,zI n2,zU f2,.string x2,.slice am2 ks2.length cm2,zI p2] 64)
 rw [s1] at hB
 have s2 : (U.alloc (.cells #[zU k2,zU o2,zU ty2,zI n2,zU f2,.string x2,.slice am2 ks2.length cm2,zI p2] 64))§ = W§ + 2 := by rw [size_alloc,s1]
 obtain ⟨Z,eZ⟩ : ∃ Z,U.alloc (.cells #[zU k2,zU o2,zU ty2,zI n2,zU f2,.string x2,.slice am2 ks2.length cm2,zI p2] 64) = Z := ⟨_,rfl⟩
 rw [eZ] at b2 hB s2 ⊢
 clear eZ
 have hZZ : ∀ k,k < W§ → k ≠ w§ → Z.heap[k]? = W.heap[k]? := fun k h1 h2 => ((b2.block k (by omega)).trans (b1.block k (by omega))).trans (hY3 k h2)
 refine ⟨Z,rfl,((b2.block _ (by omega)).trans (b1.block _ (by omega))).trans hY1,?_,?_,?_,((hY4 _ _ hm (by omega)).trans (Mv.ofBelow b1) (fun _ e => .inl e)).trans (Mv.ofBelow b2) (fun _ e => .inl e)⟩
 ·refine .mk _ _ _ _ hq (by simp) (by simp) ?_ ?_ (row_lit hB rfl (by simp [List.range_succ,ndF,ldF,Nd.vals,hdA,Nd.h,Nd.a,Nd.c,Nd.ks]) (by simp)) (fun x e m hm => by injection e with e; subst e; obtain rfl := List.mem_singleton.1 hm; exact hk.mono fun j hj => by show j ≠ W§ + 1; omega) (List.pairwise_singleton _ _)
  ·intro i hi
   refine ⟨W§ + 1,0,rfl,?_⟩
   match i,hi with
   | 0,_ => exact ⟨cell_of hB 0,cell_of hB 1,cell_of hB 2,cell_of hB 3,cell_of hB 4,cell_of hB 5,cell_of hB 6,cell_of hB 7⟩
  ·intro k hk'
   obtain rfl := List.mem_singleton.1 hk'
   exact hl.bkn hk fun j hj => hZZ j hj.2 (by omega)
 ·refine .mk _ _ _ _ (fun b' o e => ?_) ?_
  ·injection e with e; injection e with e; omega
  ·intro k hk'
   obtain rfl := List.mem_singleton.1 hk'
   exact hk.mono fun j hj => ⟨by omega,by omega⟩
 ·obtain ⟨a,c,hr⟩ := hr
  exact ⟨a,c,hr.blk (hZZ _ (by omega) (by omega)) (hZZ _ (by omega) (by omega)) (by omega)⟩
theorem unX_rg (x : ByteArray) : 0 ≤ unX x ∧ unX x ≤ 255 := by
 unfold unX
 repeat' split
 all_goals omega
theorem gUn_s (ex un : List Tk → Except Ft (Tr × List Tk)) (d : Nat) (t : Tk) (ts : List Tk) : gUn ex un d (t :: ts) = if unX t.x = 0 then gOne ex d (t :: ts) else match gOpn d (t :: ts) with | .error e => .error e | .ok q => match un q.2 with | .error e => .error e | .ok q2 => .ok (.mk ⟨5,unX t.x,0,0,0,gE,q.1.p⟩ [q2.1],q2.2) := by
 by_cases e : unX t.x = 0
 ·simp [gUn,gLook,bind,Except.bind,e]
 ·simp only [gUn,gLook,bind,Except.bind,if_neg e]
  cases gOpn d (t :: ts) with
  | error e => rfl
  | ok q =>
   simp only
   cases un q.2 with
   | error e => rfl
   | ok q => rfl
theorem gOpn_mem {d : Nat} {ts : List Tk} {u : Tk} {r : List Tk} (h : gOpn d ts = .ok (u,r)) : ts = u :: r := by
 cases ts with
 | nil => 
  by_cases e : d < 24
  ·simp [gOpn,gNeed,gStep,bind,Except.bind,e] at h
  ·simp [gOpn,gNeed,gLook,bind,Except.bind,e] at h
 | cons t ts =>
  by_cases e : d < 24
  ·simp [gOpn,gNeed,gStep,bind,Except.bind,e] at h
   rw [h.1,h.2]
  ·simp [gOpn,gNeed,gLook,bind,Except.bind,e] at h
theorem gOpn_lt {d : Nat} {ts : List Tk} {q : Tk × List Tk} (h : gOpn d ts = .ok q) : d < 24 := by
 by_cases e : d < 24
 ·exact e
 ·cases ts <;> simp [gOpn,gNeed,gLook,bind,Except.bind,e] at h
set_option maxRecDepth 100000 in
set_option maxHeartbeats 4000000 in
theorem unary_any (ex un : List Tk → Except Ft (Tr × List Tk))
  {w : World} {b G : Nat} {ts : List Tk} {fa : Int} {fe : Value} {d : Nat} {a : Option Addr} {c : Nat} (h : Rdr w b G ts fa fe d a c) (hT : ∀ t ∈ ts,RgT t) (hd : d < 1000)
  (cO : ∀ v a c,Rdr v b G ts fa fe d a c → Calls zG 184 #[zP b] v (OutN b G fa fe d v (gOne ex d ts)))
  (cU : d < 24 → ∀ v ts a c,Rdr v b G ts fa fe (d + 1) a c → (∀ t ∈ ts,RgT t) → Calls zG 180 #[zP b] v (OutN b G fa fe (d + 1) v (un ts))) :
  Calls zG 180 #[zP b] w (OutN b G fa fe d w (gUn ex un d ts)) := by
 have hmf : ∀ (fn : Fn) (first cap : Array Value) (w : World),(Instr.makeFunc fn first cap).run Tryz.prog w = .ok (.func fn first cap) w := fun _ _ _ _ => rfl
 have hb0 := below_new w (.cells zNo 64)
 have h0 := h.on hb0
 have HBL : Hid (b < w§) := h.lt
 have HGL : Hid (G < w§) := h.gl
 have HB0 : Hid (Below w§ w (w.alloc (.cells zNo 64))) := hb0
 have HZ0 : Hid ((w.alloc (.cells zNo 64)).heap[w§]? = some (.cells zNo 64 (0,0))) := heap_new _ _
 clear h hb0
 cases ts with
 | nil =>
  have cN := unO_no h0
  have eG : gUn ex un d [] = .error .lex := by simp [gUn,gLook,bind,Except.bind]
  rw [eG]
  clear cO cU h0 eG
  go_enter Tryz.func180,Tryz.ntmps180
  go_wp2_with fail
  refine cN.mono ?_
  rintro e w1 ⟨rfl,hb⟩
  exact ⟨rfl,rfl,Mv.ofBelow (below2 HB0.out hb)⟩
 | cons t ts =>
  have cN := unO_ok h0
  have HH0 := h0.hid
  rw [gUn_s]
  have hq := unX_rg t.x
  obtain ⟨q,eq⟩ : ∃ q,unX t.x = q := ⟨_,rfl⟩
  rw [eq] at cN hq ⊢
  clear eq h0
  by_cases hq0 : q = 0
  ·rw [if_pos hq0]
   subst hq0
   obtain ⟨X,eX⟩ : ∃ X,gOne ex d (t :: ts) = X := ⟨_,rfl⟩
   rw [eX] at cO ⊢
   clear eX cU
   go_enter Tryz.func180,Tryz.ntmps180
   go_wp2_with fail
   refine cN.mono ?_
   rintro e w1 ⟨rfl,hb⟩
   have HB1 : Hid (Below (w.alloc (.cells zNo 64))§ (w.alloc (.cells zNo 64)) w1) := hb
   have cR := cO w1 _ _ (HH0.out.on hb)
   clear cO cN hb
   cases X with
   | error f =>
    go_wp2_with fail
    refine cR.mono ?_
    rintro e w2 ⟨rfl,hm⟩
    exact ⟨rfl,rfl,(Mv.ofBelow (below2 HB0.out HB1.out)).trans hm (fun k e => .inl e)⟩
   | ok q =>
    obtain ⟨t2,ts2⟩ := q
    go_wp2_with fail
    refine cR.mono ?_
    rintro e w2 ⟨⟨m,rfl,rfl,hl,hk⟩,hr,hm⟩
    obtain ⟨⟨k2,o2,ty2,n2,f2,x2,p2⟩,am2,cm2,ks2⟩ := m
    obtain ⟨hZ,Y,eY,hY1,hY2,hY3,hY4,hY5⟩ := pass8 ((Mv.ofBelow HB1.out).trans hm (fun k e => .inl e)) hl (hk.mono fun j hj => ⟨Nat.le_trans HB1.out.size hj.1,hj.2⟩) hr HBL.out HGL.out
    have z0 : w2.cell? ⟨w§,0,none⟩ = some (zU 0) := cell_of hZ 0
    have q0 : w2.frozen? ⟨w§,0,none⟩ = false := frozen_of hZ 0
    have z1 : w2.cell? ⟨w§,1,none⟩ = some (zU 0) := cell_of hZ 1
    have q1 : w2.frozen? ⟨w§,1,none⟩ = false := frozen_of hZ 1
    have z2 : w2.cell? ⟨w§,2,none⟩ = some (zU 0) := cell_of hZ 2
    have q2 : w2.frozen? ⟨w§,2,none⟩ = false := frozen_of hZ 2
    have z3 : w2.cell? ⟨w§,3,none⟩ = some (zI 0) := cell_of hZ 3
    have q3 : w2.frozen? ⟨w§,3,none⟩ = false := frozen_of hZ 3
    have z4 : w2.cell? ⟨w§,4,none⟩ = some (zU 0) := cell_of hZ 4
    have q4 : w2.frozen? ⟨w§,4,none⟩ = false := frozen_of hZ 4
    have z5 : w2.cell? ⟨w§,5,none⟩ = some (.string ⟨#[]⟩) := cell_of hZ 5
    have q5 : w2.frozen? ⟨w§,5,none⟩ = false := frozen_of hZ 5
    have z6 : w2.cell? ⟨w§,6,none⟩ = some (.slice none 0 0) := cell_of hZ 6
    have q6 : w2.frozen? ⟨w§,6,none⟩ = false := frozen_of hZ 6
    have z7 : w2.cell? ⟨w§,7,none⟩ = some (zI 0) := cell_of hZ 7
    have q7 : w2.frozen? ⟨w§,7,none⟩ = false := frozen_of hZ 7
    have HEY : Hid (_ = Y) := eY
    have HY1 : Hid (Y.heap[w§]? = some (.cells (Nd.mk ⟨k2,o2,ty2,n2,f2,x2,p2⟩ am2 cm2 ks2).vals 64 (0,0))) := hY1
    have HYY : Hid (LiesO Y (.mk ⟨k2,o2,ty2,n2,f2,x2,p2⟩ am2 cm2 ks2) ∧ Bkn (fun k => w§ ≤ k ∧ k < Y§) (.mk ⟨k2,o2,ty2,n2,f2,x2,p2⟩ am2 cm2 ks2) ∧ (∃ a c,Rdr Y b G ts2 fa fe d a c) ∧ Mv w Y (fun k => k = b)) := ⟨hY2,hY3,hY4,hY5⟩
    clear eY hY1 hY2 hY3 hY4 hY5 hZ hm hl hk hr cR
    simp only [Nd.vals,Nd.h,Nd.a,Nd.c,Nd.ks,hdA]
    go_wp2_with fail
    rw [HEY.out]
    exact bodyPost_ret (results_cell_row rfl _ _ w§ 64 (Nd.mk ⟨k2,o2,ty2,n2,f2,x2,p2⟩ am2 cm2 ks2).vals (0,0) _ rfl HY1.out Tryz.underlying64 rfl zK) rfl ⟨⟨_,rfl,rfl,HYY.out.1,HYY.out.2.1⟩,HYY.out.2.2.1,HYY.out.2.2.2⟩
  ·rw [if_neg hq0]
   have hq1 : decide (q = 0) = false := decide_eq_false hq0
   have hq2 : (q == 0) = false := by simpa using hq0
   obtain ⟨X,eX⟩ : ∃ X,gOpn d (t :: ts) = X := ⟨_,rfl⟩
   have HEX : Hid (gOpn d (t :: ts) = X) := eX
   rw [eX]
   clear eX cO
   cases X with
   | error f =>
    clear cU
    go_enter Tryz.func180,Tryz.ntmps180
    go_wp2_with fail
    refine cN.mono ?_
    rintro e w1 ⟨rfl,hb⟩
    have HB1 : Hid (Below w§ w w1) := below2 HB0.out hb
    have cS := open_any (HH0.out.on hb)
    rw [HEX.out] at cS
    clear cN hb
    go_wp2_with fail
    refine cS.mono ?_
    rintro e w2 ⟨rfl,hm⟩
    exact ⟨rfl,rfl,(Mv.ofBelow HB1.out).trans hm (fun k e => .inl e)⟩
   | ok q3 =>
    obtain ⟨u,r⟩ := q3
    have hur := gOpn_mem HEX.out
    have HTr : Hid (∀ t ∈ r,RgT t) := fun y hy => hT y (by rw [hur]; exact List.mem_cons_of_mem _ hy)
    have HTu : Hid (RgT u) := hT u (by rw [hur]; simp)
    have HG5 : Hid (Rg ⟨5,q,0,0,0,gE,u.p⟩) := by
     have := HTu.out.p0; have := HTu.out.p1; have := hq.1; have := hq.2
     constructor <;> first | omega | (show (0 : Nat) ≤ _; omega) | (simp only; omega) | simp
    have hf4 := fun v => field82_4 u v
    obtain ⟨X,eX⟩ : ∃ X,un r = X := ⟨_,rfl⟩
    have HEY : Hid (un r = X) := eX
    simp only
    rw [eX]
    clear eX hur hT
    go_enter Tryz.func180,Tryz.ntmps180
    go_wp2_with fail
    refine cN.mono ?_
    rintro e w1 ⟨rfl,hb⟩
    have HB1 : Hid (Below w§ w w1) := below2 HB0.out hb
    have HZ1 : Hid (w1.heap[w§]? = some (.cells zNo 64 (0,0))) := (hb.block _ (Array.getElem?_eq_some_iff.1 HZ0.out).1).trans HZ0.out
    have cS := open_any (HH0.out.on hb)
    rw [HEX.out] at cS
    clear cN hb
    go_wp2_with fail
    refine cS.mono ?_
    rintro e w2 ⟨rfl,⟨a2,c2,hr2⟩,hm2⟩
    have HM2 : Hid (Mv w w2 (fun k => k = b)) := (Mv.ofBelow HB1.out).trans hm2 (fun k e => .inl e)
    have HZ2 : Hid (w2.heap[w§]? = some (.cells zNo 64 (0,0))) := (hm2.block _ (Array.getElem?_eq_some_iff.1 HZ1.out).1 (by have := HBL.out; omega)).trans HZ1.out
    replace cU := cU (gOpn_lt HEX.out)
    have cW := within_any 180 enter180 hr2 hd (un r) (fun v a c h => cU v _ _ _ h HTr.out)
    rw [HEY.out] at cW
    clear cS hm2 hr2 cU HEY HEX
    cases X with
    | error f =>
     go_wp2_with fail
     refine cW.mono ?_
     rintro e w3 ⟨rfl,hm⟩
     exact ⟨rfl,rfl,HM2.out.trans hm (fun k e => .inl e)⟩
    | ok q4 =>
     obtain ⟨t3,ts3⟩ := q4
     go_wp2_with fail
     refine cW.mono ?_
     rintro e w3 ⟨⟨m,rfl,rfl,hl,hk⟩,hr,hm⟩
     obtain ⟨⟨k2,o2,ty2,n2,f2,x2,p2⟩,am2,cm2,ks2⟩ := m
     have hW2 : w§ < w2§ := (Array.getElem?_eq_some_iff.1 HZ2.out).1
     have hZ3 : w3.heap[w§]? = some (.cells zNo 64 (0,0)) := (hm.block _ hW2 (by have := HBL.out; omega)).trans HZ2.out
     have hsz : w§ < w3§ := (Array.getElem?_eq_some_iff.1 hZ3).1
     obtain ⟨Y,eY,hY1,hY2,hY3,hY4,hY5⟩ := kid8 (HM2.out.trans hm (fun k e => .inl e)) hZ3 hl (hk.mono fun j hj => ⟨by omega,hj.2⟩) hr HBL.out HGL.out HG5.out
     have z0 : w3.cell? ⟨w§,0,none⟩ = some (zU 0) := cell_of hZ3 0
     have q0 : w3.frozen? ⟨w§,0,none⟩ = false := frozen_of hZ3 0
     have z1 : w3.cell? ⟨w§,1,none⟩ = some (zU 0) := cell_of hZ3 1
     have q1 : w3.frozen? ⟨w§,1,none⟩ = false := frozen_of hZ3 1
     have z2 : w3.cell? ⟨w§,2,none⟩ = some (zU 0) := cell_of hZ3 2
     have q2 : w3.frozen? ⟨w§,2,none⟩ = false := frozen_of hZ3 2
     have z3 : w3.cell? ⟨w§,3,none⟩ = some (zI 0) := cell_of hZ3 3
     have q3 : w3.frozen? ⟨w§,3,none⟩ = false := frozen_of hZ3 3
     have z4 : w3.cell? ⟨w§,4,none⟩ = some (zU 0) := cell_of hZ3 4
     have q4 : w3.frozen? ⟨w§,4,none⟩ = false := frozen_of hZ3 4
     have z5 : w3.cell? ⟨w§,5,none⟩ = some (.string ⟨#[]⟩) := cell_of hZ3 5
     have q5 : w3.frozen? ⟨w§,5,none⟩ = false := frozen_of hZ3 5
     have z6 : w3.cell? ⟨w§,6,none⟩ = some (.slice none 0 0) := cell_of hZ3 6
     have q6 : w3.frozen? ⟨w§,6,none⟩ = false := frozen_of hZ3 6
     have z7 : w3.cell? ⟨w§,7,none⟩ = some (zI 0) := cell_of hZ3 7
     have q7 : w3.frozen? ⟨w§,7,none⟩ = false := frozen_of hZ3 7
     have HEY : Hid (_ = Y) := eY
     have HY1 : Hid (Y.heap[w§]? = some (.cells (Nd.mk ⟨5,q,0,0,0,gE,u.p⟩ (some ⟨w3§ + 1,0,none⟩) 1 [(.mk ⟨k2,o2,ty2,n2,f2,x2,p2⟩ am2 cm2 ks2)]).vals 64 (0,0))) := hY1
     have HYY : Hid (LiesO Y (.mk ⟨5,q,0,0,0,gE,u.p⟩ (some ⟨w3§ + 1,0,none⟩) 1 [(.mk ⟨k2,o2,ty2,n2,f2,x2,p2⟩ am2 cm2 ks2)]) ∧ Bkn (fun k => w§ ≤ k ∧ k < Y§) (.mk ⟨5,q,0,0,0,gE,u.p⟩ (some ⟨w3§ + 1,0,none⟩) 1 [(.mk ⟨k2,o2,ty2,n2,f2,x2,p2⟩ am2 cm2 ks2)]) ∧ (∃ a c,Rdr Y b G ts3 fa fe d a c) ∧ Mv w Y (fun k => k = b)) := ⟨hY2,hY3,hY4,hY5⟩
     clear eY hY1 hY2 hY3 hY4 hY5 hZ3 hm hl hk hr cW hW2
     simp only [Nd.vals,Nd.h,Nd.a,Nd.c,Nd.ks,hdA]
     go_wp2_with fail
     rw [HEY.out]
     exact bodyPost_ret (results_cell_row rfl _ _ w§ 64 (Nd.mk ⟨5,q,0,0,0,gE,u.p⟩ (some ⟨w3§ + 1,0,none⟩) 1 [(.mk ⟨k2,o2,ty2,n2,f2,x2,p2⟩ am2 cm2 ks2)]).vals (0,0) _ rfl HY1.out Tryz.underlying64 rfl zK) rfl ⟨⟨_,rfl,rfl,HYY.out.1,HYY.out.2.1⟩,HYY.out.2.2.1,HYY.out.2.2.2⟩
theorem bind_ok {α β : Type} {x : Except Ft α} {f : α → Except Ft β} {y : β} (h : (x >>= f) = .ok y) : ∃ a,x = .ok a ∧ f a = .ok y := by
 cases x with
 | error e => cases h
 | ok a => exact ⟨a,rfl,h⟩
def Subs (p : List Tk → Except Ft (Tr × List Tk)) : Prop := ∀ ts t r,p ts = .ok (t,r) → ∀ x ∈ r,x ∈ ts
theorem gStep_sub {ts : List Tk} {q : Tk × List Tk} (h : gStep ts = .ok q) : ∀ x ∈ q.2,x ∈ ts := by
 cases ts with
 | nil => cases h
 | cons t ts => cases h; intro x hx; exact List.mem_cons_of_mem _ hx
theorem gTake_sub {y : ByteArray} {ts : List Tk} {q : Tk × List Tk} (h : gTake y ts = .ok q) : ∀ x ∈ q.2,x ∈ ts := by
 unfold gTake at h
 obtain ⟨_,_,h⟩ := bind_ok h
 obtain ⟨_,_,h⟩ := bind_ok h
 exact gStep_sub h
theorem gOpn_sub {d : Nat} {ts : List Tk} {q : Tk × List Tk} (h : gOpn d ts = .ok q) : ∀ x ∈ q.2,x ∈ ts := by
 unfold gOpn at h
 obtain ⟨_,_,h⟩ := bind_ok h
 exact gStep_sub h
theorem gLit_sub : Subs gLit := by
 intro ts t r h
 unfold gLit at h
 obtain ⟨_,_,h⟩ := bind_ok h
 obtain ⟨_,_,h⟩ := bind_ok h
 obtain ⟨q,h1,h⟩ := bind_ok h
 cases h
 exact gStep_sub h1
theorem gRowR_sub (oper : ByteArray → Int) {part : List Tk → Except Ft (Tr × List Tk)} (hp : Subs part) : ∀ m n,Subs (gRowR oper part m n) := by
 intro m
 induction m with
 | zero => intro n ts t r h x hx; cases h; exact hx
 | succ m ih =>
  intro n ts t r h
  unfold gRowR at h
  obtain ⟨u,_,h⟩ := bind_ok h
  split at h
  ·cases h; exact fun x hx => hx
  ·obtain ⟨q,h1,h⟩ := bind_ok h
   obtain ⟨q2,h2,h⟩ := bind_ok h
   exact fun x hx => gStep_sub h1 x (hp _ _ _ h2 x (ih _ _ _ _ h x hx))
theorem gRow_sub (oper : ByteArray → Int) {part : List Tk → Except Ft (Tr × List Tk)} (hp : Subs part) (m : Nat) : Subs (gRow oper part m) := by
 intro ts t r h
 unfold gRow at h
 obtain ⟨q,h1,h⟩ := bind_ok h
 exact fun x hx => hp _ _ _ h1 x (gRowR_sub oper hp m _ _ _ _ h x hx)
theorem gOne_sub {ex : List Tk → Except Ft (Tr × List Tk)} (he : Subs ex) (d : Nat) : Subs (gOne ex d) := by
 intro ts t r h
 unfold gOne at h
 obtain ⟨u,_,h⟩ := bind_ok h
 split at h
 ·obtain ⟨q1,h1,h⟩ := bind_ok h
  obtain ⟨q2,h2,h⟩ := bind_ok h
  obtain ⟨q3,h3,h⟩ := bind_ok h
  cases h
  exact fun x hx => gOpn_sub h1 x (he _ _ _ h2 x (gTake_sub h3 x hx))
 split at h
 ·obtain ⟨q1,h1,h⟩ := bind_ok h
  obtain ⟨_,_,h⟩ := bind_ok h
  obtain ⟨_,_,h⟩ := bind_ok h
  obtain ⟨q2,h2,h⟩ := bind_ok h
  cases h
  exact fun x hx => gStep_sub h1 x (gStep_sub h2 x hx)
 split at h
 ·obtain ⟨q1,h1,h⟩ := bind_ok h
  obtain ⟨⟨u2,r2⟩,h2,h⟩ := bind_ok h
  simp only at h
  split at h
  ·obtain ⟨q3,h3,h⟩ := bind_ok h
   obtain ⟨q4,h4,h⟩ := bind_ok h
   cases h
   exact fun x hx => gOpn_sub h1 x (gTake_sub h2 x (he _ _ _ h3 x (gTake_sub h4 x hx)))
  ·obtain ⟨q3,h3,h⟩ := bind_ok h
   obtain ⟨q4,h4,h⟩ := bind_ok h
   obtain ⟨q5,h5,h⟩ := bind_ok h
   obtain ⟨q6,h6,h⟩ := bind_ok h
   cases h
   exact fun x hx => gOpn_sub h1 x (gTake_sub h2 x (he _ _ _ h3 x (gTake_sub h4 x (he _ _ _ h5 x (gTake_sub h6 x hx)))))
 split at h
 ·obtain ⟨q1,h1,h⟩ := bind_ok h
  obtain ⟨q2,h2,h⟩ := bind_ok h
  obtain ⟨q3,h3,h⟩ := bind_ok h
  obtain ⟨q4,h4,h⟩ := bind_ok h
  cases h
  exact fun x hx => gOpn_sub h1 x (gTake_sub h2 x (he _ _ _ h3 x (gTake_sub h4 x hx)))
 split at h
 ·obtain ⟨q1,h1,h⟩ := bind_ok h
  cases h
  exact gStep_sub h1
 split at h
 ·obtain ⟨q1,h1,h⟩ := bind_ok h
  cases h
  exact gStep_sub h1
 exact gLit_sub _ _ _ h
theorem gUn_sub {ex un : List Tk → Except Ft (Tr × List Tk)} (he : Subs ex) (hu : Subs un) (d : Nat) : Subs (gUn ex un d) := by
 intro ts t r h
 unfold gUn at h
 obtain ⟨u,_,h⟩ := bind_ok h
 split at h
 ·exact gOne_sub he d _ _ _ h
 ·obtain ⟨q1,h1,h⟩ := bind_ok h
  obtain ⟨q2,h2,h⟩ := bind_ok h
  cases h
  exact fun x hx => gOpn_sub h1 x (hu _ _ _ h2 x hx)
theorem gEx_sub {ex un : List Tk → Except Ft (Tr × List Tk)} (he : Subs ex) (hu : Subs un) (d : Nat) : Subs (gEx ex un d) := by
 intro ts t r h
 unfold gEx at h
 obtain ⟨q,h0,h⟩ := bind_ok h
 have hr := gRow_sub orX (gRow_sub andX (gRow_sub cmpX (gRow_sub sumX (gRow_sub proX (gUn_sub he hu d) 4096) 4096) 1) 4096) 4096 _ _ _ h0
 obtain ⟨b,_,h⟩ := bind_ok h
 split at h
 ·cases h; exact hr
 ·obtain ⟨q1,h1,h⟩ := bind_ok h
  obtain ⟨q2,h2,h⟩ := bind_ok h
  obtain ⟨q3,h3,h⟩ := bind_ok h
  obtain ⟨q4,h4,h⟩ := bind_ok h
  cases h
  exact fun x hx => hr x (gOpn_sub h1 x (he _ _ _ h2 x (gTake_sub h3 x (he _ _ _ h4 x hx))))
theorem exF_sub : ∀ f d,Subs (exF f d) ∧ Subs (unF f d) := by
 intro f
 induction f with
 | zero => intro d; exact ⟨fun ts t r h => (by rw [exF] at h; cases h),fun ts t r h => (by rw [unF] at h; cases h)⟩
 | succ f ih =>
  intro d
  refine ⟨fun ts t r h => ?_,fun ts t r h => ?_⟩
  ·rw [exF] at h; exact gEx_sub (ih (d + 1)).1 (ih (d + 1)).2 d ts t r h
  ·rw [unF] at h; exact gUn_sub (ih (d + 1)).1 (ih (d + 1)).2 d ts t r h
structure BX (w : World) (b G : Nat) (fa : Int) (fe : Value) (d : Nat) (W : World) (bs : List (Nat × Nd)) (ts : List Tk) : Prop where
 M : Mv w W (fun k => k = b)
 Z : W.heap[w§]? = some (.cells zNo 64 (0,0))
 B : ∀ p ∈ bs,W.heap[p.1]? = some (.cells p.2.vals 64 (0,0)) ∧ w§ < p.1 ∧ LiesO W p.2 ∧ Bkn (fun k => w§ < k ∧ k < W§) p.2
 R : ∃ a c,Rdr W b G ts fa fe d a c
 T : ∀ t ∈ ts,RgT t
theorem BX.hid {w : World} {b G : Nat} {fa : Int} {fe : Value} {d : Nat} {W : World} {bs : List (Nat × Nd)} {ts : List Tk} (h : BX w b G fa fe d W bs ts) : Hid (BX w b G fa fe d W bs ts) := h
theorem BX.mv {w : World} {b G : Nat} {fa : Int} {fe : Value} {d : Nat} {W W' : World} {bs : List (Nat × Nd)} {ts ts' : List Tk} (h : BX w b G fa fe d W bs ts) (hb : b < w§) (hm : Mv W W' (fun k => k = b)) (hr : ∃ a c,Rdr W' b G ts' fa fe d a c) (ht : ∀ x ∈ ts',x ∈ ts) : BX w b G fa fe d W' bs ts' := by
 have hs := hm.size
 refine ⟨h.M.trans hm (fun _ e => .inl e),(hm.block _ (Array.getElem?_eq_some_iff.1 h.Z).1 (by omega)).trans h.Z,fun p hp => ?_,hr,fun t h2 => h.T t (ht t h2)⟩
 obtain ⟨h1,h2,h3,h4⟩ := h.B p hp
 exact ⟨(hm.block _ (Array.getElem?_eq_some_iff.1 h1).1 (by omega)).trans h1,h2,h3.bkn h4 fun j hj => hm.block j hj.2 (by omega),h4.mono fun j hj => ⟨hj.1,by omega⟩⟩
theorem BX.on {w : World} {b G : Nat} {fa : Int} {fe : Value} {d : Nat} {W W' : World} {bs : List (Nat × Nd)} {ts : List Tk} (h : BX w b G fa fe d W bs ts) (hb : b < w§) (k : Below W§ W W') : BX w b G fa fe d W' bs ts := by
 refine h.mv hb (Mv.ofBelow k) ?_ (fun _ h => h)
 obtain ⟨a,c,hr⟩ := h.R
 exact ⟨a,c,hr.on k⟩
theorem BX.push {w : World} {b G : Nat} {fa : Int} {fe : Value} {d : Nat} {W : World} {bs : List (Nat × Nd)} {ts : List Tk} {m : Nd} (h : BX w b G fa fe d W bs ts) (hb : b < w§) (hl : LiesO W m) (hk : Bkn (fun k => w§ < k ∧ k < W§) m) : BX w b G fa fe d (W.alloc (.cells m.vals 64)) ((W§,m) :: bs) ts := by
 have k := below_new W (.cells m.vals 64)
 have h' := h.on hb k
 refine ⟨h'.M,h'.Z,fun p hp => ?_,h'.R,h'.T⟩
 rcases List.mem_cons.1 hp with e | e
 ·rw [e]
  exact ⟨heap_new _ _,(Array.getElem?_eq_some_iff.1 h.Z).1,hl.on k,hk.mono fun j hj => ⟨hj.1,Nat.lt_of_lt_of_le hj.2 k.size⟩⟩
 ·exact h'.B p e
theorem BX.fin {w : World} {b G : Nat} {fa : Int} {fe : Value} {d : Nat} {W : World} {k2 o2 ty2 n2 f2 p2 : Int} {x2 : ByteArray} {am2 : Option Addr} {cm2 : Nat} {ks2 : List Nd} {bs : List (Nat × Nd)} {N : Nat} {ts : List Tk} (h : BX w b G fa fe d W ((N,(.mk ⟨k2,o2,ty2,n2,f2,x2,p2⟩ am2 cm2 ks2)) :: bs) ts) (hb : b < w§) (hg : G < w§) :
  ∃ Y,((((((((W.setCell ⟨w§,0,none⟩ (zU k2)).setCell ⟨w§,1,none⟩ (zU o2)).setCell ⟨w§,2,none⟩ (zU ty2)).setCell ⟨w§,3,none⟩ (zI n2)).setCell ⟨w§,4,none⟩ (zU f2)).setCell ⟨w§,5,none⟩ (.string x2)).setCell ⟨w§,6,none⟩ (.slice am2 ks2.length cm2)).setCell ⟨w§,7,none⟩ (zI p2)) = Y ∧ Y.heap[w§]? = some (.cells (Nd.mk ⟨k2,o2,ty2,n2,f2,x2,p2⟩ am2 cm2 ks2).vals 64 (0,0)) ∧ LiesO Y (.mk ⟨k2,o2,ty2,n2,f2,x2,p2⟩ am2 cm2 ks2) ∧ Bkn (fun k => w§ ≤ k ∧ k < Y§) (.mk ⟨k2,o2,ty2,n2,f2,x2,p2⟩ am2 cm2 ks2) ∧ (∃ a c,Rdr Y b G ts fa fe d a c) ∧ Mv w Y (fun k => k = b) := by
 obtain ⟨Y,eY,hY1,hY2,hY3,hY4⟩ := fin8 h.Z (zU k2) (zU o2) (zU ty2) (zI n2) (zU f2) (.string x2) (.slice am2 ks2.length cm2) (zI p2)
 obtain ⟨_,_,hl,hk⟩ := h.B _ (List.mem_cons_self ..)
 refine ⟨Y,eY,hY1,hl.bkn hk fun j hj => hY3 j (by omega),hk.mono fun j hj => by omega,?_,hY4 _ _ h.M (Nat.le_refl _)⟩
 obtain ⟨a,c,hr⟩ := h.R
 exact ⟨a,c,hr.blk (hY3 _ (by omega)) (hY3 _ (by omega)) (by omega)⟩
theorem three8 {w : World} {b G : Nat} {fa : Int} {fe : Value} {d : Nat} {W : World} {k2 o2 ty2 n2 f2 p2 : Int} {x2 : ByteArray} {am2 : Option Addr} {cm2 : Nat} {ks2 : List Nd} {k3 o3 ty3 n3 f3 p3 : Int} {x3 : ByteArray} {am3 : Option Addr} {cm3 : Nat} {ks3 : List Nd} {k4 o4 ty4 n4 f4 p4 : Int} {x4 : ByteArray} {am4 : Option Addr} {cm4 : Nat} {ks4 : List Nd} {p : Int} {ts : List Tk} (hm : Mv w W (fun k => k = b)) (hZ : W.heap[w§]? = some (.cells zNo 64 (0,0))) (hl2 : LiesO W (.mk ⟨k2,o2,ty2,n2,f2,x2,p2⟩ am2 cm2 ks2)) (hk2 : Bkn (fun k => w§ < k ∧ k < W§) (.mk ⟨k2,o2,ty2,n2,f2,x2,p2⟩ am2 cm2 ks2)) (hl3 : LiesO W (.mk ⟨k3,o3,ty3,n3,f3,x3,p3⟩ am3 cm3 ks3)) (hk3 : Bkn (fun k => w§ < k ∧ k < W§) (.mk ⟨k3,o3,ty3,n3,f3,x3,p3⟩ am3 cm3 ks3)) (hl4 : LiesO W (.mk ⟨k4,o4,ty4,n4,f4,x4,p4⟩ am4 cm4 ks4)) (hk4 : Bkn (fun k => w§ < k ∧ k < W§) (.mk ⟨k4,o4,ty4,n4,f4,x4,p4⟩ am4 cm4 ks4)) (hr : ∃ a c,Rdr W b G ts fa fe d a c) (hb : b < w§) (hg : G < w§) (hq : Rg ⟨7,0,0,0,0,gE,p⟩) (h23 : Apt (.mk ⟨k2,o2,ty2,n2,f2,x2,p2⟩ am2 cm2 ks2) (.mk ⟨k3,o3,ty3,n3,f3,x3,p3⟩ am3 cm3 ks3)) (h24 : Apt (.mk ⟨k2,o2,ty2,n2,f2,x2,p2⟩ am2 cm2 ks2) (.mk ⟨k4,o4,ty4,n4,f4,x4,p4⟩ am4 cm4 ks4)) (h34 : Apt (.mk ⟨k3,o3,ty3,n3,f3,x3,p3⟩ am3 cm3 ks3) (.mk ⟨k4,o4,ty4,n4,f4,x4,p4⟩ am4 cm4 ks4)) :
  ∃ Y,(((((((((W.setCell ⟨w§,0,none⟩ (zU 7)).setCell ⟨w§,1,none⟩ (zU 0)).setCell ⟨w§,2,none⟩ (zU 0)).setCell ⟨w§,3,none⟩ (zI 0)).setCell ⟨w§,4,none⟩ (zU 0)).setCell ⟨w§,5,none⟩ (.string ⟨#[]⟩)).setCell ⟨w§,6,none⟩ (.slice (some ⟨W§ + 1,0,none⟩) 3 3)).setCell ⟨w§,7,none⟩ (zI p)).alloc (.cells #[zU k4,zU o4,zU ty4,zI n4,zU f4,.string x4,.slice am4 ks4.length cm4,zI p4] 64)).alloc (.cells #[zU k2,zU o2,zU ty2,zI n2,zU f2,.string x2,.slice am2 ks2.length cm2,zI p2,zU k3,zU o3,zU ty3,zI n3,zU f3,.string x3,.slice am3 ks3.length cm3,zI p3,zU k4,zU o4,zU ty4,zI n4,zU f4,.string x4,.slice am4 ks4.length cm4,zI p4] 64) = Y ∧ Y.heap[w§]? = some (.cells (Nd.mk ⟨7,0,0,0,0,gE,p⟩ (some ⟨W§ + 1,0,none⟩) 3 [(.mk ⟨k2,o2,ty2,n2,f2,x2,p2⟩ am2 cm2 ks2),(.mk ⟨k3,o3,ty3,n3,f3,x3,p3⟩ am3 cm3 ks3),(.mk ⟨k4,o4,ty4,n4,f4,x4,p4⟩ am4 cm4 ks4)]).vals 64 (0,0)) ∧ LiesO Y (.mk ⟨7,0,0,0,0,gE,p⟩ (some ⟨W§ + 1,0,none⟩) 3 [(.mk ⟨k2,o2,ty2,n2,f2,x2,p2⟩ am2 cm2 ks2),(.mk ⟨k3,o3,ty3,n3,f3,x3,p3⟩ am3 cm3 ks3),(.mk ⟨k4,o4,ty4,n4,f4,x4,p4⟩ am4 cm4 ks4)]) ∧ Bkn (fun k => w§ ≤ k ∧ k < Y§) (.mk ⟨7,0,0,0,0,gE,p⟩ (some ⟨W§ + 1,0,none⟩) 3 [(.mk ⟨k2,o2,ty2,n2,f2,x2,p2⟩ am2 cm2 ks2),(.mk ⟨k3,o3,ty3,n3,f3,x3,p3⟩ am3 cm3 ks3),(.mk ⟨k4,o4,ty4,n4,f4,x4,p4⟩ am4 cm4 ks4)]) ∧ (∃ a c,Rdr Y b G ts fa fe d a c) ∧ Mv w Y (fun k => k = b) := by
 obtain ⟨Y,eY,hY1,hY2,hY3,hY4⟩ := fin8 hZ (zU 7) (zU 0) (zU 0) (zI 0) (zU 0) (.string ⟨#[]⟩) (.slice (some ⟨W§ + 1,0,none⟩) 3 3) (zI p)
 rw [eY]
 clear eY
 have hNW : w§ < W§ := (Array.getElem?_eq_some_iff.1 hZ).1
 have b1 := below_new Y (.cells #[zU k4,zU o4,zU ty4,zI n4,zU f4,.string x4,.slice am4 ks4.length cm4,zI p4] 64)
 have s1 : (Y.alloc (.cells #[zU k4,zU o4,zU ty4,zI n4,zU f4,.string x4,.slice am4 ks4.length cm4,zI p4] 64))§ = W§ + 1 := by rw [size_alloc,hY2]
 obtain ⟨U,eU⟩ : ∃ U,Y.alloc (.cells #[zU k4,zU o4,zU ty4,zI n4,zU f4,.string x4,.slice am4 ks4.length cm4,zI p4] 64) = U := ⟨_,rfl⟩
 rw [eU] at b1 s1 ⊢
 clear eU
 have b2 := below_new U (.cells #[zU k2,zU o2,zU ty2,zI n2,zU f2,.string x2,.slice am2 ks2.length cm2,zI p2,zU k3,zU o3,zU ty3,zI n3,zU f3,.string x3,.slice am3 ks3.length cm3,zI p3,zU k4,zU o4,zU ty4,zI n4,zU f4,.string x4,.slice am4 ks4.length cm4,zI p4] 64)
 have hB := heap_new U (.cells #[zU k2,zU o2,zU ty2,zI n2,zU f2,.string x2,.slice am2 ks2.length cm2,zI p2,zU k3,zU o3,zU ty3,zI n3,zU f3,.string x3,.slice am3 ks3.length cm3,zI p3,zU k4,zU o4,zU ty4,zI n4,zU f4,.string x4,.slice am4 ks4.length cm4,zI p4] 64)
 rw [s1] at hB
 have s2 : (U.alloc (.cells #[zU k2,zU o2,zU ty2,zI n2,zU f2,.string x2,.slice am2 ks2.length cm2,zI p2,zU k3,zU o3,zU ty3,zI n3,zU f3,.string x3,.slice am3 ks3.length cm3,zI p3,zU k4,zU o4,zU ty4,zI n4,zU f4,.string x4,.slice am4 ks4.length cm4,zI p4] 64))§ = W§ + 2 := by rw [size_alloc,s1]
 obtain ⟨Z,eZ⟩ : ∃ Z,U.alloc (.cells #[zU k2,zU o2,zU ty2,zI n2,zU f2,.string x2,.slice am2 ks2.length cm2,zI p2,zU k3,zU o3,zU ty3,zI n3,zU f3,.string x3,.slice am3 ks3.length cm3,zI p3,zU k4,zU o4,zU ty4,zI n4,zU f4,.string x4,.slice am4 ks4.length cm4,zI p4] 64) = Z := ⟨_,rfl⟩
 rw [eZ] at b2 hB s2 ⊢
 clear eZ
 have hZZ : ∀ k,k < W§ → k ≠ w§ → Z.heap[k]? = W.heap[k]? := fun k h1 h2 => ((b2.block k (by omega)).trans (b1.block k (by omega))).trans (hY3 k h2)
 refine ⟨Z,rfl,((b2.block _ (by omega)).trans (b1.block _ (by omega))).trans hY1,?_,?_,?_,((hY4 _ _ hm (by omega)).trans (Mv.ofBelow b1) (fun _ e => .inl e)).trans (Mv.ofBelow b2) (fun _ e => .inl e)⟩
 ·refine .mk _ _ _ _ hq (by simp) (by simp) ?_ ?_ (row_lit hB rfl (by simp [List.range_succ,ndF,ldF,Nd.vals,hdA,Nd.h,Nd.a,Nd.c,Nd.ks]) (by simp)) (fun x e m hm => by
    injection e with e
    subst e
    rcases List.mem_cons.1 hm with e | e
    ·rw [e]; exact hk2.mono fun j hj => by show j ≠ W§ + 1; omega
    rcases List.mem_cons.1 e with e | e
    ·rw [e]; exact hk3.mono fun j hj => by show j ≠ W§ + 1; omega
    ·obtain rfl := List.mem_singleton.1 e
     exact hk4.mono fun j hj => by show j ≠ W§ + 1; omega)
   (List.Pairwise.cons (fun y hy => by
    rcases List.mem_cons.1 hy with e | e
    ·rw [e]; exact h23
    ·obtain rfl := List.mem_singleton.1 e
     exact h24) (List.Pairwise.cons (fun y hy => by obtain rfl := List.mem_singleton.1 hy; exact h34) (List.pairwise_singleton _ _)))
  ·intro i hi
   refine ⟨W§ + 1,0,rfl,?_⟩
   match i,hi with
   | 0,_ => exact ⟨cell_of hB 0,cell_of hB 1,cell_of hB 2,cell_of hB 3,cell_of hB 4,cell_of hB 5,cell_of hB 6,cell_of hB 7⟩
   | 1,_ => exact ⟨cell_of hB 8,cell_of hB 9,cell_of hB 10,cell_of hB 11,cell_of hB 12,cell_of hB 13,cell_of hB 14,cell_of hB 15⟩
   | 2,_ => exact ⟨cell_of hB 16,cell_of hB 17,cell_of hB 18,cell_of hB 19,cell_of hB 20,cell_of hB 21,cell_of hB 22,cell_of hB 23⟩
  ·intro k hk'
   rcases List.mem_cons.1 hk' with e | e
   ·rw [e]; exact hl2.bkn hk2 fun j hj => hZZ j hj.2 (by omega)
   rcases List.mem_cons.1 e with e | e
   ·rw [e]; exact hl3.bkn hk3 fun j hj => hZZ j hj.2 (by omega)
   ·obtain rfl := List.mem_singleton.1 e
    exact hl4.bkn hk4 fun j hj => hZZ j hj.2 (by omega)
 ·refine .mk _ _ _ _ (fun b' o e => ?_) ?_
  ·injection e with e; injection e with e; omega
  ·intro k hk'
   rcases List.mem_cons.1 hk' with e | e
   ·rw [e]; exact hk2.mono fun j hj => ⟨by omega,by omega⟩
   rcases List.mem_cons.1 e with e | e
   ·rw [e]; exact hk3.mono fun j hj => ⟨by omega,by omega⟩
   ·obtain rfl := List.mem_singleton.1 e
    exact hk4.mono fun j hj => ⟨by omega,by omega⟩
 ·obtain ⟨a,c,hr⟩ := hr
  exact ⟨a,c,hr.blk (hZZ _ (by omega) (by omega)) (hZZ _ (by omega) (by omega)) (by omega)⟩
end Go.Proofs.YtkfabnchhjfjjaaGreatDoor
