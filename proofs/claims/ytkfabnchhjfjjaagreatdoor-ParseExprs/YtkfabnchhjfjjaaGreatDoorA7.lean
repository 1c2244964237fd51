import Derived.Test.YtkfabnchhjfjjaaGreatDoorA0
import Derived.Test.YtkfabnchhjfjjaaGreatDoorA6
namespace Go.Proofs.YtkfabnchhjfjjaaGreatDoor
open Go.RowKit
structure RI (w : World) (b G N : Nat) (fa : Int) (fe : Value) (d : Nat) (wr : World) (m : Nd) (ts : List Tk) : Prop where
 M : Mv w wr (fun k => k = b)
 Z : wr.heap[w§]? = some (.cells zNo 64 (0,0))
 B : wr.heap[N]? = some (.cells m.vals 64 (0,0))
 L : LiesO wr m
 K : Bkn (fun k => w§ < k ∧ k < wr§ ∧ k ≠ N) m
 R : ∃ a c,Rdr wr b G ts fa fe d a c
 T : ∀ t ∈ ts,RgT t
theorem RI.on {w : World} {b G N : Nat} {fa : Int} {fe : Value} {d : Nat} {wr w' : World} {m : Nd} {ts : List Tk} (h : RI w b G N fa fe d wr m ts) (k : Below wr§ wr w') : RI w b G N fa fe d w' m ts :=
 ⟨h.M.trans (Mv.ofBelow k) (fun _ e => .inl e),(k.block _ (Array.getElem?_eq_some_iff.1 h.Z).1).trans h.Z,(k.block _ (Array.getElem?_eq_some_iff.1 h.B).1).trans h.B,h.L.on k,h.K.mono fun j hj => ⟨hj.1,Nat.lt_of_lt_of_le hj.2.1 k.size,hj.2.2⟩,by obtain ⟨a,c,hr⟩ := h.R; exact ⟨a,c,hr.on k⟩,h.T⟩
theorem RI.hid {w : World} {b G N : Nat} {fa : Int} {fe : Value} {d : Nat} {wr : World} {m : Nd} {ts : List Tk} (h : RI w b G N fa fe d wr m ts) : Hid (RI w b G N fa fe d wr m ts) := h
theorem RI.fin {w : World} {b G N : Nat} {fa : Int} {fe : Value} {d : Nat} {W : World} {k2 o2 ty2 n2 f2 p2 : Int} {x2 : ByteArray} {am2 : Option Addr} {cm2 : Nat} {ks2 : List Nd} {ts : List Tk} (h : RI w b G N fa fe d W (.mk ⟨k2,o2,ty2,n2,f2,x2,p2⟩ am2 cm2 ks2) ts) (hb : b < w§) (hg : G < w§) :
  ∃ Y,((((((((W.setCell ⟨w§,0,none⟩ (zU k2)).setCell ⟨w§,1,none⟩ (zU o2)).setCell ⟨w§,2,none⟩ (zU ty2)).setCell ⟨w§,3,none⟩ (zI n2)).setCell ⟨w§,4,none⟩ (zU f2)).setCell ⟨w§,5,none⟩ (.string x2)).setCell ⟨w§,6,none⟩ (.slice am2 ks2.length cm2)).setCell ⟨w§,7,none⟩ (zI p2)) = Y ∧ Y.heap[w§]? = some (.cells (Nd.mk ⟨k2,o2,ty2,n2,f2,x2,p2⟩ am2 cm2 ks2).vals 64 (0,0)) ∧ LiesO Y (.mk ⟨k2,o2,ty2,n2,f2,x2,p2⟩ am2 cm2 ks2) ∧ Bkn (fun k => w§ ≤ k ∧ k < Y§) (.mk ⟨k2,o2,ty2,n2,f2,x2,p2⟩ am2 cm2 ks2) ∧ (∃ a c,Rdr Y b G ts fa fe d a c) ∧ Mv w Y (fun k => k = b) := by
 obtain ⟨Y,eY,hY1,hY2,hY3,hY4⟩ := fin8 h.Z (zU k2) (zU o2) (zU ty2) (zI n2) (zU f2) (.string x2) (.slice am2 ks2.length cm2) (zI p2)
 refine ⟨Y,eY,hY1,h.L.bkn h.K fun j hj => hY3 j (by omega),h.K.mono fun j hj => by omega,?_,hY4 _ _ h.M (Nat.le_refl _)⟩
 obtain ⟨a,c,hr⟩ := h.R
 exact ⟨a,c,hr.blk (hY3 _ (by omega)) (hY3 _ (by omega)) (by omega)⟩
theorem RI.next {w : World} {b G N : Nat} {fa : Int} {fe : Value} {d : Nat} {W : World} {k2 o2 ty2 n2 f2 p2 k3 o3 ty3 n3 f3 p3 : Int} {x2 x3 : ByteArray} {am2 am3 : Option Addr} {cm2 cm3 : Nat} {ks2 ks3 : List Nd} {ts : List Tk} {q p : Int} (h : RI w b G N fa fe d W (.mk ⟨k2,o2,ty2,n2,f2,x2,p2⟩ am2 cm2 ks2) ts)
  (hb : b < w§) (hg : G < w§) (hN : w§ < N) (hl : LiesO W (.mk ⟨k3,o3,ty3,n3,f3,x3,p3⟩ am3 cm3 ks3)) (hk : Bkn (fun k => w§ < k ∧ k < W§ ∧ k ≠ N) (.mk ⟨k3,o3,ty3,n3,f3,x3,p3⟩ am3 cm3 ks3)) (hr : Rg ⟨6,q,0,0,0,gE,p⟩) (hs : Apt (.mk ⟨k2,o2,ty2,n2,f2,x2,p2⟩ am2 cm2 ks2) (.mk ⟨k3,o3,ty3,n3,f3,x3,p3⟩ am3 cm3 ks3)) :
  RI w b G N fa fe d ((((((((((W.setCell ⟨N,0,none⟩ (zU 6)).setCell ⟨N,1,none⟩ (zU q)).setCell ⟨N,2,none⟩ (zU 0)).setCell ⟨N,3,none⟩ (zI 0)).setCell ⟨N,4,none⟩ (zU 0)).setCell ⟨N,5,none⟩ (.string ⟨#[]⟩)).setCell ⟨N,6,none⟩ (.slice (some ⟨W§ + 1,0,none⟩) 2 2)).setCell ⟨N,7,none⟩ (zI p)).alloc (.cells #[zU k3,zU o3,zU ty3,zI n3,zU f3,.string x3,.slice am3 ks3.length cm3,zI p3] 64)).alloc (.cells #[zU k2,zU o2,zU ty2,zI n2,zU f2,.string x2,.slice am2 ks2.length cm2,zI p2,zU k3,zU o3,zU ty3,zI n3,zU f3,.string x3,.slice am3 ks3.length cm3,zI p3] 64)) (.mk ⟨6,q,0,0,0,gE,p⟩ (some ⟨W§ + 1,0,none⟩) 2 [(.mk ⟨k2,o2,ty2,n2,f2,x2,p2⟩ am2 cm2 ks2),(.mk ⟨k3,o3,ty3,n3,f3,x3,p3⟩ am3 cm3 ks3)]) ts := by
 obtain ⟨Y,eY,hY1,hY2,hY3,hY4⟩ := fin8 h.B (zU 6) (zU q) (zU 0) (zI 0) (zU 0) (.string ⟨#[]⟩) (.slice (some ⟨W§ + 1,0,none⟩) 2 2) (zI p)
 rw [eY]
 clear eY
 have hNW : N < W§ := (Array.getElem?_eq_some_iff.1 h.B).1
 have b1 := below_new Y (.cells #[zU k3,zU o3,zU ty3,zI n3,zU f3,.string x3,.slice am3 ks3.length cm3,zI p3] 64)
 have s1 : (Y.alloc (.cells #[zU k3,zU o3,zU ty3,zI n3,zU f3,.string x3,.slice am3 ks3.length cm3,zI p3] 64))§ = W§ + 1 := by rw [size_alloc,hY2]
 obtain ⟨U,eU⟩ : ∃ U,Y.alloc (.cells #[zU k3,zU o3,zU ty3,zI n3,zU f3,.string x3,.slice am3 ks3.length cm3,zI p3] 64) = U := ⟨_,rfl⟩
 rw [eU] at b1 s1 ⊢
 clear eU
 have b2 := below_new U (.cells #[zU k2,zU o2,zU ty2,zI n2,zU f2,.string x2,.slice am2 ks2.length cm2,zI p2,zU k3,zU o3,zU ty3,zI n3,zU f3,.string x3,.slice am3 ks3.length cm3,zI p3] 64)
 have hB := heap_new U (.cells #[zU k2,zU o2,zU ty2,zI n2,zU f2,.string x2,.slice am2 ks2.length cm2,zI p2,zU k3,zU o3,zU ty3,zI n3,zU f3,.string x3,.slice am3 ks3.length cm3,zI p3] 64)
 rw [s1] at hB
 have s2 : (U.alloc (.cells #[zU k2,zU o2,zU ty2,zI n2,zU f2,.string x2,.slice am2 ks2.length cm2,zI p2,zU k3,zU o3,zU ty3,zI n3,zU f3,.string x3,.slice am3 ks3.length cm3,zI p3] 64))§ = W§ + 2 := by rw [size_alloc,s1]
 obtain ⟨Z,eZ⟩ : ∃ Z,U.alloc (.cells #[zU k2,zU o2,zU ty2,zI n2,zU f2,.string x2,.slice am2 ks2.length cm2,zI p2,zU k3,zU o3,zU ty3,zI n3,zU f3,.string x3,.slice am3 ks3.length cm3,zI p3] 64) = Z := ⟨_,rfl⟩
 rw [eZ] at b2 hB s2 ⊢
 clear eZ
 have hZ : ∀ k,k < W§ → k ≠ N → Z.heap[k]? = W.heap[k]? := fun k h1 h2 => ((b2.block k (by omega)).trans (b1.block k (by omega))).trans (hY3 k h2)
 refine ⟨((hY4 _ _ h.M (by omega)).trans (Mv.ofBelow b1) (fun _ e => .inl e)).trans (Mv.ofBelow b2) (fun _ e => .inl e),(hZ _ (by omega) (by omega)).trans h.Z,((b2.block N (by omega)).trans (b1.block N (by omega))).trans hY1,?_,?_,?_,h.T⟩
 ·refine .mk _ _ _ _ hr (by simp) (by simp) ?_ ?_ (row_lit hB rfl (by simp [List.range_succ,ndF,ldF,Nd.vals,hdA,Nd.h,Nd.a,Nd.c,Nd.ks]) (by simp)) ?_ (List.Pairwise.cons (fun y hy => by obtain rfl := List.mem_singleton.1 hy; exact hs) (List.pairwise_singleton _ _))
  ·intro i hi
   refine ⟨W§ + 1,0,rfl,?_⟩
   match i,hi with
   | 0,_ => exact ⟨cell_of hB 0,cell_of hB 1,cell_of hB 2,cell_of hB 3,cell_of hB 4,cell_of hB 5,cell_of hB 6,cell_of hB 7⟩
   | 1,_ => exact ⟨cell_of hB 8,cell_of hB 9,cell_of hB 10,cell_of hB 11,cell_of hB 12,cell_of hB 13,cell_of hB 14,cell_of hB 15⟩
  ·intro k hk'
   rcases List.mem_cons.1 hk' with e | e
   ·rw [e]; exact h.L.bkn h.K fun j hj => hZ j hj.2.1 hj.2.2
   ·obtain rfl := List.mem_singleton.1 e
    exact hl.bkn hk fun j hj => hZ j hj.2.1 hj.2.2
  ·intro x e m hm
   injection e with e
   subst e
   rcases List.mem_cons.1 hm with e | e
   ·rw [e]; exact h.K.mono fun j hj => by show j ≠ W§ + 1; omega
   ·obtain rfl := List.mem_singleton.1 e
    exact hk.mono fun j hj => by show j ≠ W§ + 1; omega
 ·refine .mk _ _ _ _ (fun b' o e => ?_) ?_
  ·injection e with e; injection e with e; omega
  ·intro k hk'
   rcases List.mem_cons.1 hk' with e | e
   ·rw [e]; exact h.K.mono fun j hj => ⟨hj.1,by omega,hj.2.2⟩
   ·obtain rfl := List.mem_singleton.1 e
    exact hk.mono fun j hj => ⟨hj.1,by omega,hj.2.2⟩
 ·obtain ⟨a,c,hr⟩ := h.R
  exact ⟨a,c,hr.blk (hZ _ (by omega) (by omega)) (hZ _ (by omega) (by omega)) (by omega)⟩
theorem gRowR_s (oper : ByteArray → Int) (part : List Tk → Except Ft (Tr × List Tk)) (m : Nat) (n : Tr) (t : Tk) (ts : List Tk) : gRowR oper part (m + 1) n (t :: ts) = if oper t.x = 0 then .ok (n,t :: ts) else match part ts with | .error e => .error e | .ok q => gRowR oper part m (.mk ⟨6,oper t.x,0,0,0,gE,t.p⟩ [n,q.1]) q.2 := by
 by_cases e : oper t.x = 0
 ·simp [gRowR,gLook,bind,Except.bind,e]
 ·simp only [gRowR,gLook,gStep,bind,Except.bind,if_neg e]
  cases part ts with
  | error e => rfl
  | ok q => rfl
theorem gRow_err {oper : ByteArray → Int} {part : List Tk → Except Ft (Tr × List Tk)} {most : Nat} {ts : List Tk} {f : Ft} (h : part ts = .error f) : gRow oper part most ts = .error f := by simp only [gRow,bind,Except.bind,h]
theorem gRow_ok {oper : ByteArray → Int} {part : List Tk → Except Ft (Tr × List Tk)} {most : Nat} {ts r : List Tk} {t : Tr} (h : part ts = .ok (t,r)) : gRow oper part most ts = gRowR oper part most t r := by simp only [gRow,bind,Except.bind,h]
set_option maxRecDepth 100000 in
set_option maxHeartbeats 4000000 in
theorem row_any (O P : Nat) (hO : ∀ args v,Sem.run Tryz.prog (callFunc O args) v = .ok (.enter O args) v) (hP : ∀ args v,Sem.run Tryz.prog (callFunc P args) v = .ok (.enter P args) v)
  (oper : ByteArray → Int) (part : List Tk → Except Ft (Tr × List Tk)) (hS : ∀ ts t r,part ts = .ok (t,r) → ∀ x ∈ r,x ∈ ts) (ho : ∀ x,0 ≤ oper x ∧ oper x ≤ 255)
  {w : World} {b G : Nat} {ts : List Tk} {fa : Int} {fe : Value} {d : Nat} {a : Option Addr} {c : Nat} (h : Rdr w b G ts fa fe d a c) (hT : ∀ t ∈ ts,RgT t) (most : Nat) (hm : most ≤ 4096)
  (c1 : ∀ v t ts a c,Rdr v b G (t :: ts) fa fe d a c → Calls zG O #[zP b] v fun e w' => e = .returned (zU (oper t.x)) ∧ Below v§ v w')
  (c0 : ∀ v a c,Rdr v b G [] fa fe d a c → Calls zG O #[zP b] v fun e w' => e = pan (ftV fa fe .lex) ∧ Below v§ v w')
  (cP : ∀ v ts a c,Rdr v b G ts fa fe d a c → (∀ t ∈ ts,RgT t) → Calls zG P #[zP b] v (OutN b G fa fe d v (part ts))) :
  Calls zG 113 #[zP b,.func (.func O) #[zP b] #[],.func (.func P) #[zP b] #[],zI most] w (OutN b G fa fe d w (gRow oper part most ts)) := by
 have hb0 := below_new w (.cells zNo 64)
 have h0 := h.on hb0
 have HBL : Hid (b < w§) := h.lt
 have HGL : Hid (G < w§) := h.gl
 have HK0 : Hid ((w.alloc (.cells zNo 64)).heap[w§]? = some (.cells zNo 64 (0,0))) := heap_new _ _
 have HM0 : Hid (Mv w (w.alloc (.cells zNo 64)) (fun k => k = b)) := Mv.ofBelow hb0
 have cC := cP _ _ _ _ h0 hT
 have HS : Hid (∀ ts t r,part ts = .ok (t,r) → ∀ x ∈ r,x ∈ ts) := hS
 have HO : Hid (∀ x,0 ≤ oper x ∧ oper x ≤ 255) := ho
 have HT : Hid (∀ t ∈ ts,RgT t) := hT
 clear h h0 hb0 hS ho hT
 obtain ⟨r,er⟩ : ∃ r,part ts = r := ⟨_,rfl⟩
 rw [er] at cC
 have HER : Hid (part ts = r) := er
 clear er
 cases r with
 | error f =>
  rw [gRow_err HER.out]
  clear c1 c0 cP
  go_enter Tryz.func113,Tryz.ntmps113
  go_wp2_with fail
  refine cC.mono ?_
  rintro e w1 ⟨rfl,hm⟩
  exact ⟨rfl,rfl,HM0.out.trans hm (fun k e => .inl e)⟩
 | ok q =>
  obtain ⟨t1,ts1⟩ := q
  obtain ⟨X,eX⟩ : ∃ X,gRowR oper part most t1 ts1 = X := ⟨_,rfl⟩
  have HX : Hid (gRowR oper part most t1 ts1 = X) := eX
  rw [gRow_ok HER.out,eX]
  clear eX
  go_enter Tryz.func113,Tryz.ntmps113
  go_wp2_with fail
  refine cC.mono ?_
  rintro e w1 ⟨⟨m,rfl,rfl,hl,hk⟩,⟨a',c',hr⟩,hm1⟩
  have HT1 : Hid (∀ t ∈ ts1,RgT t) := fun t ht => HT.out t (HS.out _ _ _ HER.out t ht)
  have hWs : w§ < (w.alloc (.cells zNo 64))§ := (Array.getElem?_eq_some_iff.1 HK0.out).1
  have hsz := hm1.size
  have HI : Hid (RI w b G w1§ fa fe d (w1.alloc (.cells m.vals 64)) m ts1) := by
   have hbN := below_new w1 (.cells m.vals 64)
   refine ⟨(HM0.out.trans hm1 (fun k e => .inl e)).trans (Mv.ofBelow hbN) (fun k e => .inl e),(hbN.block _ (by omega)).trans ((hm1.block _ hWs (fun e => by have := HBL.out; omega)).trans HK0.out),heap_new _ _,hl.on hbN,hk.mono fun j hj => ⟨by omega,Nat.lt_of_lt_of_le hj.2 hbN.size,by omega⟩,⟨a',c',hr.on hbN⟩,HT1.out⟩
  have HW1 : Hid (w§ < w1§) := by show _ < _; omega
  clear cC hr hm1 hl hk hsz hWs HT1 HER
  obtain ⟨⟨k,o,ty,n,f,x,p⟩,am,cm,ks⟩ := m
  simp only [Nd.vals,Nd.h,Nd.a,Nd.c,Nd.ks,hdA] at HI ⊢
  go_wp2_with fail
  go_loopw [10,11,12,16] (fun _ _ _ t wr => ∃ (i : Nat) (m : Nd) (ts : List Tk),i ≤ most ∧ t = zI i ∧ Hid (RI w b G w1§ fa fe d wr m ts) ∧ Hid (gRowR oper part (most - i) (treeOf m) ts = X)) (fun _ _ _ t _ => most - (intOf t).toNat)
  case atStart => exact ⟨0,_,_,by omega,rfl,HI,HX⟩
  case round =>
   obtain ⟨i,m,ts2,hi,rfl,HI2,HX2⟩ := hrel
   obtain ⟨⟨k2,o2,ty2,n2,f2,x2,p2⟩,am2,cm2,ks2⟩ := m
   by_cases him : i = most
   ·subst him
    have hX3 := HX2.out
    rw [Nat.sub_self] at hX3
    simp only [gRowR] at hX3
    subst hX3
    clear HX HX2 c1 c0 cP HI
    have y0 : wr.cell? ⟨w1§,0,none⟩ = some (zU k2) := cell_of HI2.out.B 0
    have z0 : wr.cell? ⟨w§,0,none⟩ = some (zU 0) := cell_of HI2.out.Z 0
    have q0 : wr.frozen? ⟨w§,0,none⟩ = false := frozen_of HI2.out.Z 0
    have y1 : wr.cell? ⟨w1§,1,none⟩ = some (zU o2) := cell_of HI2.out.B 1
    have z1 : wr.cell? ⟨w§,1,none⟩ = some (zU 0) := cell_of HI2.out.Z 1
    have q1 : wr.frozen? ⟨w§,1,none⟩ = false := frozen_of HI2.out.Z 1
    have y2 : wr.cell? ⟨w1§,2,none⟩ = some (zU ty2) := cell_of HI2.out.B 2
    have z2 : wr.cell? ⟨w§,2,none⟩ = some (zU 0) := cell_of HI2.out.Z 2
    have q2 : wr.frozen? ⟨w§,2,none⟩ = false := frozen_of HI2.out.Z 2
    have y3 : wr.cell? ⟨w1§,3,none⟩ = some (zI n2) := cell_of HI2.out.B 3
    have z3 : wr.cell? ⟨w§,3,none⟩ = some (zI 0) := cell_of HI2.out.Z 3
    have q3 : wr.frozen? ⟨w§,3,none⟩ = false := frozen_of HI2.out.Z 3
    have y4 : wr.cell? ⟨w1§,4,none⟩ = some (zU f2) := cell_of HI2.out.B 4
    have z4 : wr.cell? ⟨w§,4,none⟩ = some (zU 0) := cell_of HI2.out.Z 4
    have q4 : wr.frozen? ⟨w§,4,none⟩ = false := frozen_of HI2.out.Z 4
    have y5 : wr.cell? ⟨w1§,5,none⟩ = some (.string x2) := cell_of HI2.out.B 5
    have z5 : wr.cell? ⟨w§,5,none⟩ = some (.string ⟨#[]⟩) := cell_of HI2.out.Z 5
    have q5 : wr.frozen? ⟨w§,5,none⟩ = false := frozen_of HI2.out.Z 5
    have y6 : wr.cell? ⟨w1§,6,none⟩ = some (.slice am2 ks2.length cm2) := cell_of HI2.out.B 6
    have z6 : wr.cell? ⟨w§,6,none⟩ = some (.slice none 0 0) := cell_of HI2.out.Z 6
    have q6 : wr.frozen? ⟨w§,6,none⟩ = false := frozen_of HI2.out.Z 6
    have y7 : wr.cell? ⟨w1§,7,none⟩ = some (zI p2) := cell_of HI2.out.B 7
    have z7 : wr.cell? ⟨w§,7,none⟩ = some (zI 0) := cell_of HI2.out.Z 7
    have q7 : wr.frozen? ⟨w§,7,none⟩ = false := frozen_of HI2.out.Z 7
    obtain ⟨Y,eY,hY1,hY2,hY3,hY4,hY5⟩ := HI2.out.fin HBL.out HGL.out
    have HEY : Hid (_ = Y) := eY
    have HY1 : Hid (Y.heap[w§]? = some (.cells (Nd.mk ⟨k2,o2,ty2,n2,f2,x2,p2⟩ am2 cm2 ks2).vals 64 (0,0))) := hY1
    have HYY : Hid (LiesO Y (.mk ⟨k2,o2,ty2,n2,f2,x2,p2⟩ am2 cm2 ks2) ∧ Bkn (fun k => w§ ≤ k ∧ k < Y§) (.mk ⟨k2,o2,ty2,n2,f2,x2,p2⟩ am2 cm2 ks2) ∧ (∃ a c,Rdr Y b G ts2 fa fe d a c) ∧ Mv w Y (fun k => k = b)) := ⟨hY2,hY3,hY4,hY5⟩
    clear eY hY1 hY2 hY3 hY4 hY5
    go_wp2_with fail
    rw [HEY.out]
    exact bodyPost_ret (results_cell_row rfl _ _ w§ 64 (Nd.mk ⟨k2,o2,ty2,n2,f2,x2,p2⟩ am2 cm2 ks2).vals (0,0) _ rfl HY1.out Tryz.underlying64 rfl zK) rfl ⟨⟨_,rfl,rfl,HYY.out.1,HYY.out.2.1⟩,HYY.out.2.2.1,HYY.out.2.2.2⟩
   have hlt : (i : Int) < most := by omega
   have hm2 : most - i = (most - i - 1) + 1 := by omega
   have HM2 : Hid (most - i = (most - i - 1) + 1) := hm2
   have hX3 := HX2.out
   rw [hm2] at hX3
   clear hm2 HX2
   cases ts2 with
   | nil =>
    simp only [gRowR,gLook,bind,Except.bind] at hX3
    subst hX3
    obtain ⟨a5,c5,hr5⟩ := HI2.out.R
    have cO := c0 wr _ _ hr5
    clear HX c1 c0 cP HI hr5
    go_wp2_with fail
    refine cO.mono ?_
    rintro e w3 ⟨rfl,hb⟩
    exact ⟨rfl,rfl,HI2.out.M.trans (Mv.ofBelow hb) (fun k e => .inl e)⟩
   | cons t ts2 =>
    obtain ⟨a5,c5,hr5⟩ := HI2.out.R
    have cO := c1 wr _ _ _ _ hr5
    have hq := HO.out t.x
    rw [gRowR_s] at hX3
    obtain ⟨q,eq⟩ : ∃ q,oper t.x = q := ⟨_,rfl⟩
    rw [eq] at hX3 cO hq
    clear eq hr5
    by_cases hq0 : q = 0
    ·rw [if_pos hq0] at hX3
     subst hX3
     subst hq0
     clear HX c1 c0 cP HI
     go_wp2_with fail
     refine cO.mono ?_
     rintro e w3 ⟨rfl,hb⟩
     have HI3 := (HI2.out.on hb).hid
     clear hb cO
     have y0 : w3.cell? ⟨w1§,0,none⟩ = some (zU k2) := cell_of HI3.out.B 0
     have z0 : w3.cell? ⟨w§,0,none⟩ = some (zU 0) := cell_of HI3.out.Z 0
     have q0 : w3.frozen? ⟨w§,0,none⟩ = false := frozen_of HI3.out.Z 0
     have y1 : w3.cell? ⟨w1§,1,none⟩ = some (zU o2) := cell_of HI3.out.B 1
     have z1 : w3.cell? ⟨w§,1,none⟩ = some (zU 0) := cell_of HI3.out.Z 1
     have q1 : w3.frozen? ⟨w§,1,none⟩ = false := frozen_of HI3.out.Z 1
     have y2 : w3.cell? ⟨w1§,2,none⟩ = some (zU ty2) := cell_of HI3.out.B 2
     have z2 : w3.cell? ⟨w§,2,none⟩ = some (zU 0) := cell_of HI3.out.Z 2
     have q2 : w3.frozen? ⟨w§,2,none⟩ = false := frozen_of HI3.out.Z 2
     have y3 : w3.cell? ⟨w1§,3,none⟩ = some (zI n2) := cell_of HI3.out.B 3
     have z3 : w3.cell? ⟨w§,3,none⟩ = some (zI 0) := cell_of HI3.out.Z 3
     have q3 : w3.frozen? ⟨w§,3,none⟩ = false := frozen_of HI3.out.Z 3
     have y4 : w3.cell? ⟨w1§,4,none⟩ = some (zU f2) := cell_of HI3.out.B 4
     have z4 : w3.cell? ⟨w§,4,none⟩ = some (zU 0) := cell_of HI3.out.Z 4
     have q4 : w3.frozen? ⟨w§,4,none⟩ = false := frozen_of HI3.out.Z 4
     have y5 : w3.cell? ⟨w1§,5,none⟩ = some (.string x2) := cell_of HI3.out.B 5
     have z5 : w3.cell? ⟨w§,5,none⟩ = some (.string ⟨#[]⟩) := cell_of HI3.out.Z 5
     have q5 : w3.frozen? ⟨w§,5,none⟩ = false := frozen_of HI3.out.Z 5
     have y6 : w3.cell? ⟨w1§,6,none⟩ = some (.slice am2 ks2.length cm2) := cell_of HI3.out.B 6
     have z6 : w3.cell? ⟨w§,6,none⟩ = some (.slice none 0 0) := cell_of HI3.out.Z 6
     have q6 : w3.frozen? ⟨w§,6,none⟩ = false := frozen_of HI3.out.Z 6
     have y7 : w3.cell? ⟨w1§,7,none⟩ = some (zI p2) := cell_of HI3.out.B 7
     have z7 : w3.cell? ⟨w§,7,none⟩ = some (zI 0) := cell_of HI3.out.Z 7
     have q7 : w3.frozen? ⟨w§,7,none⟩ = false := frozen_of HI3.out.Z 7
     obtain ⟨Y,eY,hY1,hY2,hY3,hY4,hY5⟩ := HI3.out.fin HBL.out HGL.out
     have HEY : Hid (_ = Y) := eY
     have HY1 : Hid (Y.heap[w§]? = some (.cells (Nd.mk ⟨k2,o2,ty2,n2,f2,x2,p2⟩ am2 cm2 ks2).vals 64 (0,0))) := hY1
     have HYY : Hid (LiesO Y (.mk ⟨k2,o2,ty2,n2,f2,x2,p2⟩ am2 cm2 ks2) ∧ Bkn (fun k => w§ ≤ k ∧ k < Y§) (.mk ⟨k2,o2,ty2,n2,f2,x2,p2⟩ am2 cm2 ks2) ∧ (∃ a c,Rdr Y b G (t :: ts2) fa fe d a c) ∧ Mv w Y (fun k => k = b)) := ⟨hY2,hY3,hY4,hY5⟩
     clear eY hY1 hY2 hY3 hY4 hY5
     go_wp2_with fail
     rw [HEY.out]
     exact bodyPost_ret (results_cell_row rfl _ _ w§ 64 (Nd.mk ⟨k2,o2,ty2,n2,f2,x2,p2⟩ am2 cm2 ks2).vals (0,0) _ rfl HY1.out Tryz.underlying64 rfl zK) rfl ⟨⟨_,rfl,rfl,HYY.out.1,HYY.out.2.1⟩,HYY.out.2.2.1,HYY.out.2.2.2⟩
    ·rw [if_neg hq0] at hX3
     have HX3 : Hid (_ = X) := hX3
     have hq1 : decide (q = 0) = false := decide_eq_false hq0
     have hq2 : (q == 0) = false := by simpa using hq0
     have hf4 := fun v => field82_4 t v
     clear hX3
     go_wp2_with fail
     refine cO.mono ?_
     rintro e w3 ⟨rfl,hb⟩
     have HI3 := (HI2.out.on hb).hid
     obtain ⟨a6,c6,hr6⟩ := HI3.out.R
     have cS := step_ok hr6
     clear hb cO hr6
     go_wp2_with fail
     refine cS.mono ?_
     rintro e w4 ⟨rfl,⟨a7,c7,hr7⟩,hm7⟩
     have HM7 : Hid (Mv w3 w4 (fun k => k = b)) := hm7
     have HR7 := hr7.hid
     have HT7 : Hid (∀ t ∈ ts2,RgT t) := fun y hy => HI3.out.T y (List.mem_cons_of_mem _ hy)
     have cQ := cP w4 _ _ _ hr7 HT7.out
     obtain ⟨r2,er2⟩ : ∃ r2,part ts2 = r2 := ⟨_,rfl⟩
     have HR2 : Hid (part ts2 = r2) := er2
     have hX4 := HX3.out
     rw [er2] at hX4 cQ
     clear cS hm7 hr7 HX3 er2
     cases r2 with
     | error f =>
      simp only at hX4
      subst hX4
      clear HX c1 c0 cP HI
      go_wp2_with fail
      refine cQ.mono ?_
      rintro e w5 ⟨rfl,hm8⟩
      exact ⟨rfl,rfl,(HI3.out.M.trans HM7.out (fun k e => .inl e)).trans hm8 (fun k e => .inl e)⟩
     | ok q2 =>
      obtain ⟨t2,ts4⟩ := q2
      simp only at hX4
      have HX4 : Hid (_ = X) := hX4
      clear hX4
      go_wp2_with fail
      refine cQ.mono ?_
      rintro e w5 ⟨⟨m3,rfl,rfl,hl,hk⟩,⟨a8,c8,hr8⟩,hm8⟩
      obtain ⟨⟨k3,o3,ty3,n3,f3,x3,p3⟩,am3,cm3,ks3⟩ := m3
      have h4N : w4.heap[w1§]? = some (.cells (Nd.mk ⟨k2,o2,ty2,n2,f2,x2,p2⟩ am2 cm2 ks2).vals 64 (0,0)) := (HM7.out.block _ (Array.getElem?_eq_some_iff.1 HI3.out.B).1 (fun e => by have := HBL.out; have := HW1.out; omega)).trans HI3.out.B
      have h5N : w5.heap[w1§]? = some (.cells (Nd.mk ⟨k2,o2,ty2,n2,f2,x2,p2⟩ am2 cm2 ks2).vals 64 (0,0)) := (hm8.block _ (Array.getElem?_eq_some_iff.1 h4N).1 (fun e => by have := HBL.out; have := HW1.out; omega)).trans h4N
      have hN5 : w1§ < w5§ := (Array.getElem?_eq_some_iff.1 h5N).1
      have y0 : w5.cell? ⟨w1§,0,none⟩ = some (zU k2) := cell_of h5N 0
      have g0 : w5.frozen? ⟨w1§,0,none⟩ = false := frozen_of h5N 0
      have y1 : w5.cell? ⟨w1§,1,none⟩ = some (zU o2) := cell_of h5N 1
      have g1 : w5.frozen? ⟨w1§,1,none⟩ = false := frozen_of h5N 1
      have y2 : w5.cell? ⟨w1§,2,none⟩ = some (zU ty2) := cell_of h5N 2
      have g2 : w5.frozen? ⟨w1§,2,none⟩ = false := frozen_of h5N 2
      have y3 : w5.cell? ⟨w1§,3,none⟩ = some (zI n2) := cell_of h5N 3
      have g3 : w5.frozen? ⟨w1§,3,none⟩ = false := frozen_of h5N 3
      have y4 : w5.cell? ⟨w1§,4,none⟩ = some (zU f2) := cell_of h5N 4
      have g4 : w5.frozen? ⟨w1§,4,none⟩ = false := frozen_of h5N 4
      have y5 : w5.cell? ⟨w1§,5,none⟩ = some (.string x2) := cell_of h5N 5
      have g5 : w5.frozen? ⟨w1§,5,none⟩ = false := frozen_of h5N 5
      have y6 : w5.cell? ⟨w1§,6,none⟩ = some (.slice am2 ks2.length cm2) := cell_of h5N 6
      have g6 : w5.frozen? ⟨w1§,6,none⟩ = false := frozen_of h5N 6
      have y7 : w5.cell? ⟨w1§,7,none⟩ = some (zI p2) := cell_of h5N 7
      have g7 : w5.frozen? ⟨w1§,7,none⟩ = false := frozen_of h5N 7
      have hMb : b ≠ w1§ := by have := HBL.out; have := HW1.out; omega
      have h34 := HM7.out.size
      have h45 := hm8.size
      have hst : ∀ j,w§ ≤ j → j < w3§ → w5.heap[j]? = w3.heap[j]? := fun j h1 h2 => (hm8.block j (by omega) (by have := HBL.out; omega)).trans (HM7.out.block j h2 (by have := HBL.out; omega))
      have hN3 : w1§ < w3§ := (Array.getElem?_eq_some_iff.1 HI3.out.B).1
      have HI5 : Hid (RI w b G w1§ fa fe d w5 (.mk ⟨k2,o2,ty2,n2,f2,x2,p2⟩ am2 cm2 ks2) ts4) := ⟨(HI3.out.M.trans HM7.out (fun _ e => .inl e)).trans hm8 (fun _ e => .inl e),(hst _ (Nat.le_refl _) (Array.getElem?_eq_some_iff.1 HI3.out.Z).1).trans HI3.out.Z,h5N,HI3.out.L.bkn HI3.out.K fun j hj => hst j (by omega) hj.2.1,HI3.out.K.mono fun j hj => ⟨hj.1,by omega,hj.2.2⟩,⟨a8,c8,hr8⟩,fun y hy => HT7.out y (HS.out _ _ _ HR2.out y hy)⟩
      have HL5 := hl.hid
      have HA5 : Hid (Apt (.mk ⟨k2,o2,ty2,n2,f2,x2,p2⟩ am2 cm2 ks2) (.mk ⟨k3,o3,ty3,n3,f3,x3,p3⟩ am3 cm3 ks3)) := ⟨w4§,HI3.out.K.mono fun j hj => by omega,hk.mono fun j hj => hj.1⟩
      have HK5 : Hid (Bkn (fun k => w§ < k ∧ k < w5§ ∧ k ≠ w1§) (.mk ⟨k3,o3,ty3,n3,f3,x3,p3⟩ am3 cm3 ks3)) := hk.mono fun j hj => by have := HW1.out; omega
      have HG5 : Hid (Rg ⟨6,q,0,0,0,gE,t.p⟩) := by
       have hp := HI3.out.T t (by simp)
       have := hp.p0; have := hp.p1; have := hq.1; have := hq.2
       constructor <;> first | omega | (show (0 : Nat) ≤ _; omega) | (simp only; omega) | simp
      clear cQ c1 c0 cP HX HI hst h4N h5N hk hl hr8 hm8 hMb h34 h45 hN3
      simp only [Nd.vals,Nd.h,Nd.a,Nd.c,Nd.ks,hdA]
      go_wp2_with fail
      refine ⟨⟨i + 1,_,ts4,by omega,by push_cast; rfl,(HI5.out.next HBL.out HGL.out HW1.out HL5.out HK5.out HG5.out HA5.out).hid,?_⟩,by simp only [intOf]; omega⟩
      rw [Nat.sub_add_eq]
      exact HX4
theorem pass8 {w : World} {b G : Nat} {fa : Int} {fe : Value} {d : Nat} {W : World} {k2 o2 ty2 n2 f2 p2 : Int} {x2 : ByteArray} {am2 : Option Addr} {cm2 : Nat} {ks2 : List Nd} {ts : List Tk} (hm : Mv (w.alloc (.cells zNo 64)) W (fun k => k = b)) (hl : LiesO W (.mk ⟨k2,o2,ty2,n2,f2,x2,p2⟩ am2 cm2 ks2)) (hk : Bkn (fun k => (w.alloc (.cells zNo 64))§ ≤ k ∧ k < W§) (.mk ⟨k2,o2,ty2,n2,f2,x2,p2⟩ am2 cm2 ks2)) (hr : ∃ a c,Rdr W b G ts fa fe d a c) (hb : b < w§) (hg : G < w§) :
  W.heap[w§]? = some (.cells zNo 64 (0,0)) ∧ ∃ Y,((((((((W.setCell ⟨w§,0,none⟩ (zU k2)).setCell ⟨w§,1,none⟩ (zU o2)).setCell ⟨w§,2,none⟩ (zU ty2)).setCell ⟨w§,3,none⟩ (zI n2)).setCell ⟨w§,4,none⟩ (zU f2)).setCell ⟨w§,5,none⟩ (.string x2)).setCell ⟨w§,6,none⟩ (.slice am2 ks2.length cm2)).setCell ⟨w§,7,none⟩ (zI p2)) = Y ∧ Y.heap[w§]? = some (.cells (Nd.mk ⟨k2,o2,ty2,n2,f2,x2,p2⟩ am2 cm2 ks2).vals 64 (0,0)) ∧ LiesO Y (.mk ⟨k2,o2,ty2,n2,f2,x2,p2⟩ am2 cm2 ks2) ∧ Bkn (fun k => w§ ≤ k ∧ k < Y§) (.mk ⟨k2,o2,ty2,n2,f2,x2,p2⟩ am2 cm2 ks2) ∧ (∃ a c,Rdr Y b G ts fa fe d a c) ∧ Mv w Y (fun k => k = b) := by
 rw [size_alloc] at hk
 have hZ : W.heap[w§]? = some (.cells zNo 64 (0,0)) := (hm.block _ (by rw [size_alloc]; omega) (by omega)).trans (heap_new _ _)
 obtain ⟨Y,eY,hY1,hY2,hY3,hY4⟩ := fin8 hZ (zU k2) (zU o2) (zU ty2) (zI n2) (zU f2) (.string x2) (.slice am2 ks2.length cm2) (zI p2)
 refine ⟨hZ,Y,eY,hY1,hl.bkn hk fun j hj => hY3 j (by omega),hk.mono fun j hj => by omega,?_,hY4 _ _ ((Mv.ofBelow (below_new _ _)).trans hm (fun _ e => .inl e)) (Nat.le_refl _)⟩
 obtain ⟨a,c,hr⟩ := hr
 exact ⟨a,c,hr.blk (hY3 _ (by omega)) (hY3 _ (by omega)) (by omega)⟩
theorem proX_rg (x : ByteArray) : 0 ≤ proX x ∧ proX x ≤ 255 := by
 unfold proX
 repeat' split
 all_goals omega
theorem enter179 (args : Array Value) (v : World) : Sem.run Tryz.prog (callFunc 179 args) v = .ok (.enter 179 args) v := by kernel_rfl
set_option maxRecDepth 100000 in
theorem product_any (part : List Tk → Except Ft (Tr × List Tk)) (hS : ∀ ts t r,part ts = .ok (t,r) → ∀ x ∈ r,x ∈ ts)
  {w : World} {b G : Nat} {ts : List Tk} {fa : Int} {fe : Value} {d : Nat} {a : Option Addr} {c : Nat} (h : Rdr w b G ts fa fe d a c) (hT : ∀ t ∈ ts,RgT t)
  (cP : ∀ v ts a c,Rdr v b G ts fa fe d a c → (∀ t ∈ ts,RgT t) → Calls zG 180 #[zP b] v (OutN b G fa fe d v (part ts))) :
  Calls zG 173 #[zP b] w (OutN b G fa fe d w (gRow proX part 4096 ts)) := by
 have hmf : ∀ (fn : Fn) (first cap : Array Value) (w : World),(Instr.makeFunc fn first cap).run Tryz.prog w = .ok (.func fn first cap) w := fun _ _ _ _ => rfl
 have cR := row_any 179 180 enter179 enter180 proX part hS proX_rg (h.on (below_new w (.cells zNo 64))) hT 4096 (by omega) (fun v t ts a c h => proO_ok h) (fun v a c h => proO_no h) cP
 have HBL : Hid (b < w§) := h.lt
 have HGL : Hid (G < w§) := h.gl
 obtain ⟨X,eX⟩ : ∃ X,gRow proX part 4096 ts = X := ⟨_,rfl⟩
 rw [eX] at cR ⊢
 rw [show ((4096 : Nat) : Int) = 4096 from rfl] at cR
 clear h cP eX hT hS
 cases X with
 | error f =>
  go_enter Tryz.func173,Tryz.ntmps173
  go_wp2_with fail
  refine cR.mono ?_
  rintro e w1 ⟨rfl,hm⟩
  exact ⟨rfl,rfl,(Mv.ofBelow (below_new _ _)).trans hm (fun k e => .inl e)⟩
 | ok q =>
  obtain ⟨t,ts2⟩ := q
  go_enter Tryz.func173,Tryz.ntmps173
  go_wp2_with fail
  refine cR.mono ?_
  rintro e w1 ⟨⟨m,rfl,rfl,hl,hk⟩,hr,hm⟩
  obtain ⟨⟨k2,o2,ty2,n2,f2,x2,p2⟩,am2,cm2,ks2⟩ := m
  obtain ⟨hZ,Y,eY,hY1,hY2,hY3,hY4,hY5⟩ := pass8 hm hl hk hr HBL.out HGL.out
  have z0 : w1.cell? ⟨w§,0,none⟩ = some (zU 0) := cell_of hZ 0
  have q0 : w1.frozen? ⟨w§,0,none⟩ = false := frozen_of hZ 0
  have z1 : w1.cell? ⟨w§,1,none⟩ = some (zU 0) := cell_of hZ 1
  have q1 : w1.frozen? ⟨w§,1,none⟩ = false := frozen_of hZ 1
  have z2 : w1.cell? ⟨w§,2,none⟩ = some (zU 0) := cell_of hZ 2
  have q2 : w1.frozen? ⟨w§,2,none⟩ = false := frozen_of hZ 2
  have z3 : w1.cell? ⟨w§,3,none⟩ = some (zI 0) := cell_of hZ 3
  have q3 : w1.frozen? ⟨w§,3,none⟩ = false := frozen_of hZ 3
  have z4 : w1.cell? ⟨w§,4,none⟩ = some (zU 0) := cell_of hZ 4
  have q4 : w1.frozen? ⟨w§,4,none⟩ = false := frozen_of hZ 4
  have z5 : w1.cell? ⟨w§,5,none⟩ = some (.string ⟨#[]⟩) := cell_of hZ 5
  have q5 : w1.frozen? ⟨w§,5,none⟩ = false := frozen_of hZ 5
  have z6 : w1.cell? ⟨w§,6,none⟩ = some (.slice none 0 0) := cell_of hZ 6
  have q6 : w1.frozen? ⟨w§,6,none⟩ = false := frozen_of hZ 6
  have z7 : w1.cell? ⟨w§,7,none⟩ = some (zI 0) := cell_of hZ 7
  have q7 : w1.frozen? ⟨w§,7,none⟩ = false := frozen_of hZ 7
  have HEY : Hid (_ = Y) := eY
  have HY1 : Hid (Y.heap[w§]? = some (.cells (Nd.mk ⟨k2,o2,ty2,n2,f2,x2,p2⟩ am2 cm2 ks2).vals 64 (0,0))) := hY1
  have HYY : Hid (LiesO Y (.mk ⟨k2,o2,ty2,n2,f2,x2,p2⟩ am2 cm2 ks2) ∧ Bkn (fun k => w§ ≤ k ∧ k < Y§) (.mk ⟨k2,o2,ty2,n2,f2,x2,p2⟩ am2 cm2 ks2) ∧ (∃ a c,Rdr Y b G ts2 fa fe d a c) ∧ Mv w Y (fun k => k = b)) := ⟨hY2,hY3,hY4,hY5⟩
  clear eY hY1 hY2 hY3 hY4 hY5 hZ hm hl hk hr cR
  simp only [Nd.vals,Nd.h,Nd.a,Nd.c,Nd.ks,hdA]
  go_wp2_with fail
  rw [HEY.out]
  exact bodyPost_ret (results_cell_row rfl _ _ w§ 64 (Nd.mk ⟨k2,o2,ty2,n2,f2,x2,p2⟩ am2 cm2 ks2).vals (0,0) _ rfl HY1.out Tryz.underlying64 rfl zK) rfl ⟨⟨_,rfl,rfl,HYY.out.1,HYY.out.2.1⟩,HYY.out.2.2.1,HYY.out.2.2.2⟩
theorem sumX_rg (x : ByteArray) : 0 ≤ sumX x ∧ sumX x ≤ 255 := by
 unfold sumX
 repeat' split
 all_goals omega
theorem enter172 (args : Array Value) (v : World) : Sem.run Tryz.prog (callFunc 172 args) v = .ok (.enter 172 args) v := by kernel_rfl
theorem enter173 (args : Array Value) (v : World) : Sem.run Tryz.prog (callFunc 173 args) v = .ok (.enter 173 args) v := by kernel_rfl
set_option maxRecDepth 100000 in
theorem sum_any (part : List Tk → Except Ft (Tr × List Tk)) (hS : ∀ ts t r,part ts = .ok (t,r) → ∀ x ∈ r,x ∈ ts)
  {w : World} {b G : Nat} {ts : List Tk} {fa : Int} {fe : Value} {d : Nat} {a : Option Addr} {c : Nat} (h : Rdr w b G ts fa fe d a c) (hT : ∀ t ∈ ts,RgT t)
  (cP : ∀ v ts a c,Rdr v b G ts fa fe d a c → (∀ t ∈ ts,RgT t) → Calls zG 173 #[zP b] v (OutN b G fa fe d v (part ts))) :
  Calls zG 155 #[zP b] w (OutN b G fa fe d w (gRow sumX part 4096 ts)) := by
 have hmf : ∀ (fn : Fn) (first cap : Array Value) (w : World),(Instr.makeFunc fn first cap).run Tryz.prog w = .ok (.func fn first cap) w := fun _ _ _ _ => rfl
 have cR := row_any 172 173 enter172 enter173 sumX part hS sumX_rg (h.on (below_new w (.cells zNo 64))) hT 4096 (by omega) (fun v t ts a c h => sumO_ok h) (fun v a c h => sumO_no h) cP
 have HBL : Hid (b < w§) := h.lt
 have HGL : Hid (G < w§) := h.gl
 obtain ⟨X,eX⟩ : ∃ X,gRow sumX part 4096 ts = X := ⟨_,rfl⟩
 rw [eX] at cR ⊢
 rw [show ((4096 : Nat) : Int) = 4096 from rfl] at cR
 clear h cP eX hT hS
 cases X with
 | error f =>
  go_enter Tryz.func155,Tryz.ntmps155
  go_wp2_with fail
  refine cR.mono ?_
  rintro e w1 ⟨rfl,hm⟩
  exact ⟨rfl,rfl,(Mv.ofBelow (below_new _ _)).trans hm (fun k e => .inl e)⟩
 | ok q =>
  obtain ⟨t,ts2⟩ := q
  go_enter Tryz.func155,Tryz.ntmps155
  go_wp2_with fail
  refine cR.mono ?_
  rintro e w1 ⟨⟨m,rfl,rfl,hl,hk⟩,hr,hm⟩
  obtain ⟨⟨k2,o2,ty2,n2,f2,x2,p2⟩,am2,cm2,ks2⟩ := m
  obtain ⟨hZ,Y,eY,hY1,hY2,hY3,hY4,hY5⟩ := pass8 hm hl hk hr HBL.out HGL.out
  have z0 : w1.cell? ⟨w§,0,none⟩ = some (zU 0) := cell_of hZ 0
  have q0 : w1.frozen? ⟨w§,0,none⟩ = false := frozen_of hZ 0
  have z1 : w1.cell? ⟨w§,1,none⟩ = some (zU 0) := cell_of hZ 1
  have q1 : w1.frozen? ⟨w§,1,none⟩ = false := frozen_of hZ 1
  have z2 : w1.cell? ⟨w§,2,none⟩ = some (zU 0) := cell_of hZ 2
  have q2 : w1.frozen? ⟨w§,2,none⟩ = false := frozen_of hZ 2
  have z3 : w1.cell? ⟨w§,3,none⟩ = some (zI 0) := cell_of hZ 3
  have q3 : w1.frozen? ⟨w§,3,none⟩ = false := frozen_of hZ 3
  have z4 : w1.cell? ⟨w§,4,none⟩ = some (zU 0) := cell_of hZ 4
  have q4 : w1.frozen? ⟨w§,4,none⟩ = false := frozen_of hZ 4
  have z5 : w1.cell? ⟨w§,5,none⟩ = some (.string ⟨#[]⟩) := cell_of hZ 5
  have q5 : w1.frozen? ⟨w§,5,none⟩ = false := frozen_of hZ 5
  have z6 : w1.cell? ⟨w§,6,none⟩ = some (.slice none 0 0) := cell_of hZ 6
  have q6 : w1.frozen? ⟨w§,6,none⟩ = false := frozen_of hZ 6
  have z7 : w1.cell? ⟨w§,7,none⟩ = some (zI 0) := cell_of hZ 7
  have q7 : w1.frozen? ⟨w§,7,none⟩ = false := frozen_of hZ 7
  have HEY : Hid (_ = Y) := eY
  have HY1 : Hid (Y.heap[w§]? = some (.cells (Nd.mk ⟨k2,o2,ty2,n2,f2,x2,p2⟩ am2 cm2 ks2).vals 64 (0,0))) := hY1
  have HYY : Hid (LiesO Y (.mk ⟨k2,o2,ty2,n2,f2,x2,p2⟩ am2 cm2 ks2) ∧ Bkn (fun k => w§ ≤ k ∧ k < Y§) (.mk ⟨k2,o2,ty2,n2,f2,x2,p2⟩ am2 cm2 ks2) ∧ (∃ a c,Rdr Y b G ts2 fa fe d a c) ∧ Mv w Y (fun k => k = b)) := ⟨hY2,hY3,hY4,hY5⟩
  clear eY hY1 hY2 hY3 hY4 hY5 hZ hm hl hk hr cR
  simp only [Nd.vals,Nd.h,Nd.a,Nd.c,Nd.ks,hdA]
  go_wp2_with fail
  rw [HEY.out]
  exact bodyPost_ret (results_cell_row rfl _ _ w§ 64 (Nd.mk ⟨k2,o2,ty2,n2,f2,x2,p2⟩ am2 cm2 ks2).vals (0,0) _ rfl HY1.out Tryz.underlying64 rfl zK) rfl ⟨⟨_,rfl,rfl,HYY.out.1,HYY.out.2.1⟩,HYY.out.2.2.1,HYY.out.2.2.2⟩
theorem cmpX_rg (x : ByteArray) : 0 ≤ cmpX x ∧ cmpX x ≤ 255 := by
 unfold cmpX
 repeat' split
 all_goals omega
theorem enter154 (args : Array Value) (v : World) : Sem.run Tryz.prog (callFunc 154 args) v = .ok (.enter 154 args) v := by kernel_rfl
theorem enter155 (args : Array Value) (v : World) : Sem.run Tryz.prog (callFunc 155 args) v = .ok (.enter 155 args) v := by kernel_rfl
set_option maxRecDepth 100000 in
theorem compare_any (part : List Tk → Except Ft (Tr × List Tk)) (hS : ∀ ts t r,part ts = .ok (t,r) → ∀ x ∈ r,x ∈ ts)
  {w : World} {b G : Nat} {ts : List Tk} {fa : Int} {fe : Value} {d : Nat} {a : Option Addr} {c : Nat} (h : Rdr w b G ts fa fe d a c) (hT : ∀ t ∈ ts,RgT t)
  (cP : ∀ v ts a c,Rdr v b G ts fa fe d a c → (∀ t ∈ ts,RgT t) → Calls zG 155 #[zP b] v (OutN b G fa fe d v (part ts))) :
  Calls zG 136 #[zP b] w (OutN b G fa fe d w (gRow cmpX part 1 ts)) := by
 have hmf : ∀ (fn : Fn) (first cap : Array Value) (w : World),(Instr.makeFunc fn first cap).run Tryz.prog w = .ok (.func fn first cap) w := fun _ _ _ _ => rfl
 have cR := row_any 154 155 enter154 enter155 cmpX part hS cmpX_rg (h.on (below_new w (.cells zNo 64))) hT 1 (by omega) (fun v t ts a c h => cmpO_ok h) (fun v a c h => cmpO_no h) cP
 have HBL : Hid (b < w§) := h.lt
 have HGL : Hid (G < w§) := h.gl
 obtain ⟨X,eX⟩ : ∃ X,gRow cmpX part 1 ts = X := ⟨_,rfl⟩
 rw [eX] at cR ⊢
 rw [show ((1 : Nat) : Int) = 1 from rfl] at cR
 clear h cP eX hT hS
 cases X with
 | error f =>
  go_enter Tryz.func136,Tryz.ntmps136
  go_wp2_with fail
  refine cR.mono ?_
  rintro e w1 ⟨rfl,hm⟩
  exact ⟨rfl,rfl,(Mv.ofBelow (below_new _ _)).trans hm (fun k e => .inl e)⟩
 | ok q =>
  obtain ⟨t,ts2⟩ := q
  go_enter Tryz.func136,Tryz.ntmps136
  go_wp2_with fail
  refine cR.mono ?_
  rintro e w1 ⟨⟨m,rfl,rfl,hl,hk⟩,hr,hm⟩
  obtain ⟨⟨k2,o2,ty2,n2,f2,x2,p2⟩,am2,cm2,ks2⟩ := m
  obtain ⟨hZ,Y,eY,hY1,hY2,hY3,hY4,hY5⟩ := pass8 hm hl hk hr HBL.out HGL.out
  have z0 : w1.cell? ⟨w§,0,none⟩ = some (zU 0) := cell_of hZ 0
  have q0 : w1.frozen? ⟨w§,0,none⟩ = false := frozen_of hZ 0
  have z1 : w1.cell? ⟨w§,1,none⟩ = some (zU 0) := cell_of hZ 1
  have q1 : w1.frozen? ⟨w§,1,none⟩ = false := frozen_of hZ 1
  have z2 : w1.cell? ⟨w§,2,none⟩ = some (zU 0) := cell_of hZ 2
  have q2 : w1.frozen? ⟨w§,2,none⟩ = false := frozen_of hZ 2
  have z3 : w1.cell? ⟨w§,3,none⟩ = some (zI 0) := cell_of hZ 3
  have q3 : w1.frozen? ⟨w§,3,none⟩ = false := frozen_of hZ 3
  have z4 : w1.cell? ⟨w§,4,none⟩ = some (zU 0) := cell_of hZ 4
  have q4 : w1.frozen? ⟨w§,4,none⟩ = false := frozen_of hZ 4
  have z5 : w1.cell? ⟨w§,5,none⟩ = some (.string ⟨#[]⟩) := cell_of hZ 5
  have q5 : w1.frozen? ⟨w§,5,none⟩ = false := frozen_of hZ 5
  have z6 : w1.cell? ⟨w§,6,none⟩ = some (.slice none 0 0) := cell_of hZ 6
  have q6 : w1.frozen? ⟨w§,6,none⟩ = false := frozen_of hZ 6
  have z7 : w1.cell? ⟨w§,7,none⟩ = some (zI 0) := cell_of hZ 7
  have q7 : w1.frozen? ⟨w§,7,none⟩ = false := frozen_of hZ 7
  have HEY : Hid (_ = Y) := eY
  have HY1 : Hid (Y.heap[w§]? = some (.cells (Nd.mk ⟨k2,o2,ty2,n2,f2,x2,p2⟩ am2 cm2 ks2).vals 64 (0,0))) := hY1
  have HYY : Hid (LiesO Y (.mk ⟨k2,o2,ty2,n2,f2,x2,p2⟩ am2 cm2 ks2) ∧ Bkn (fun k => w§ ≤ k ∧ k < Y§) (.mk ⟨k2,o2,ty2,n2,f2,x2,p2⟩ am2 cm2 ks2) ∧ (∃ a c,Rdr Y b G ts2 fa fe d a c) ∧ Mv w Y (fun k => k = b)) := ⟨hY2,hY3,hY4,hY5⟩
  clear eY hY1 hY2 hY3 hY4 hY5 hZ hm hl hk hr cR
  simp only [Nd.vals,Nd.h,Nd.a,Nd.c,Nd.ks,hdA]
  go_wp2_with fail
  rw [HEY.out]
  exact bodyPost_ret (results_cell_row rfl _ _ w§ 64 (Nd.mk ⟨k2,o2,ty2,n2,f2,x2,p2⟩ am2 cm2 ks2).vals (0,0) _ rfl HY1.out Tryz.underlying64 rfl zK) rfl ⟨⟨_,rfl,rfl,HYY.out.1,HYY.out.2.1⟩,HYY.out.2.2.1,HYY.out.2.2.2⟩
theorem andX_rg (x : ByteArray) : 0 ≤ andX x ∧ andX x ≤ 255 := by
 unfold andX
 repeat' split
 all_goals omega
theorem enter135 (args : Array Value) (v : World) : Sem.run Tryz.prog (callFunc 135 args) v = .ok (.enter 135 args) v := by kernel_rfl
theorem enter136 (args : Array Value) (v : World) : Sem.run Tryz.prog (callFunc 136 args) v = .ok (.enter 136 args) v := by kernel_rfl
set_option maxRecDepth 100000 in
theorem and_any (part : List Tk → Except Ft (Tr × List Tk)) (hS : ∀ ts t r,part ts = .ok (t,r) → ∀ x ∈ r,x ∈ ts)
  {w : World} {b G : Nat} {ts : List Tk} {fa : Int} {fe : Value} {d : Nat} {a : Option Addr} {c : Nat} (h : Rdr w b G ts fa fe d a c) (hT : ∀ t ∈ ts,RgT t)
  (cP : ∀ v ts a c,Rdr v b G ts fa fe d a c → (∀ t ∈ ts,RgT t) → Calls zG 136 #[zP b] v (OutN b G fa fe d v (part ts))) :
  Calls zG 115 #[zP b] w (OutN b G fa fe d w (gRow andX part 4096 ts)) := by
 have hmf : ∀ (fn : Fn) (first cap : Array Value) (w : World),(Instr.makeFunc fn first cap).run Tryz.prog w = .ok (.func fn first cap) w := fun _ _ _ _ => rfl
 have cR := row_any 135 136 enter135 enter136 andX part hS andX_rg (h.on (below_new w (.cells zNo 64))) hT 4096 (by omega) (fun v t ts a c h => andO_ok h) (fun v a c h => andO_no h) cP
 have HBL : Hid (b < w§) := h.lt
 have HGL : Hid (G < w§) := h.gl
 obtain ⟨X,eX⟩ : ∃ X,gRow andX part 4096 ts = X := ⟨_,rfl⟩
 rw [eX] at cR ⊢
 rw [show ((4096 : Nat) : Int) = 4096 from rfl] at cR
 clear h cP eX hT hS
 cases X with
 | error f =>
  go_enter Tryz.func115,Tryz.ntmps115
  go_wp2_with fail
  refine cR.mono ?_
  rintro e w1 ⟨rfl,hm⟩
  exact ⟨rfl,rfl,(Mv.ofBelow (below_new _ _)).trans hm (fun k e => .inl e)⟩
 | ok q =>
  obtain ⟨t,ts2⟩ := q
  go_enter Tryz.func115,Tryz.ntmps115
  go_wp2_with fail
  refine cR.mono ?_
  rintro e w1 ⟨⟨m,rfl,rfl,hl,hk⟩,hr,hm⟩
  obtain ⟨⟨k2,o2,ty2,n2,f2,x2,p2⟩,am2,cm2,ks2⟩ := m
  obtain ⟨hZ,Y,eY,hY1,hY2,hY3,hY4,hY5⟩ := pass8 hm hl hk hr HBL.out HGL.out
  have z0 : w1.cell? ⟨w§,0,none⟩ = some (zU 0) := cell_of hZ 0
  have q0 : w1.frozen? ⟨w§,0,none⟩ = false := frozen_of hZ 0
  have z1 : w1.cell? ⟨w§,1,none⟩ = some (zU 0) := cell_of hZ 1
  have q1 : w1.frozen? ⟨w§,1,none⟩ = false := frozen_of hZ 1
  have z2 : w1.cell? ⟨w§,2,none⟩ = some (zU 0) := cell_of hZ 2
  have q2 : w1.frozen? ⟨w§,2,none⟩ = false := frozen_of hZ 2
  have z3 : w1.cell? ⟨w§,3,none⟩ = some (zI 0) := cell_of hZ 3
  have q3 : w1.frozen? ⟨w§,3,none⟩ = false := frozen_of hZ 3
  have z4 : w1.cell? ⟨w§,4,none⟩ = some (zU 0) := cell_of hZ 4
  have q4 : w1.frozen? ⟨w§,4,none⟩ = false := frozen_of hZ 4
  have z5 : w1.cell? ⟨w§,5,none⟩ = some (.string ⟨#[]⟩) := cell_of hZ 5
  have q5 : w1.frozen? ⟨w§,5,none⟩ = false := frozen_of hZ 5
  have z6 : w1.cell? ⟨w§,6,none⟩ = some (.slice none 0 0) := cell_of hZ 6
  have q6 : w1.frozen? ⟨w§,6,none⟩ = false := frozen_of hZ 6
  have z7 : w1.cell? ⟨w§,7,none⟩ = some (zI 0) := cell_of hZ 7
  have q7 : w1.frozen? ⟨w§,7,none⟩ = false := frozen_of hZ 7
  have HEY : Hid (_ = Y) := eY
  have HY1 : Hid (Y.heap[w§]? = some (.cells (Nd.mk ⟨k2,o2,ty2,n2,f2,x2,p2⟩ am2 cm2 ks2).vals 64 (0,0))) := hY1
  have HYY : Hid (LiesO Y (.mk ⟨k2,o2,ty2,n2,f2,x2,p2⟩ am2 cm2 ks2) ∧ Bkn (fun k => w§ ≤ k ∧ k < Y§) (.mk ⟨k2,o2,ty2,n2,f2,x2,p2⟩ am2 cm2 ks2) ∧ (∃ a c,Rdr Y b G ts2 fa fe d a c) ∧ Mv w Y (fun k => k = b)) := ⟨hY2,hY3,hY4,hY5⟩
  clear eY hY1 hY2 hY3 hY4 hY5 hZ hm hl hk hr cR
  simp only [Nd.vals,Nd.h,Nd.a,Nd.c,Nd.ks,hdA]
  go_wp2_with fail
  rw [HEY.out]
  exact bodyPost_ret (results_cell_row rfl _ _ w§ 64 (Nd.mk ⟨k2,o2,ty2,n2,f2,x2,p2⟩ am2 cm2 ks2).vals (0,0) _ rfl HY1.out Tryz.underlying64 rfl zK) rfl ⟨⟨_,rfl,rfl,HYY.out.1,HYY.out.2.1⟩,HYY.out.2.2.1,HYY.out.2.2.2⟩
theorem orX_rg (x : ByteArray) : 0 ≤ orX x ∧ orX x ≤ 255 := by
 unfold orX
 repeat' split
 all_goals omega
theorem enter114 (args : Array Value) (v : World) : Sem.run Tryz.prog (callFunc 114 args) v = .ok (.enter 114 args) v := by kernel_rfl
theorem enter115 (args : Array Value) (v : World) : Sem.run Tryz.prog (callFunc 115 args) v = .ok (.enter 115 args) v := by kernel_rfl
set_option maxRecDepth 100000 in
theorem or_any (part : List Tk → Except Ft (Tr × List Tk)) (hS : ∀ ts t r,part ts = .ok (t,r) → ∀ x ∈ r,x ∈ ts)
  {w : World} {b G : Nat} {ts : List Tk} {fa : Int} {fe : Value} {d : Nat} {a : Option Addr} {c : Nat} (h : Rdr w b G ts fa fe d a c) (hT : ∀ t ∈ ts,RgT t)
  (cP : ∀ v ts a c,Rdr v b G ts fa fe d a c → (∀ t ∈ ts,RgT t) → Calls zG 115 #[zP b] v (OutN b G fa fe d v (part ts))) :
  Calls zG 86 #[zP b] w (OutN b G fa fe d w (gRow orX part 4096 ts)) := by
 have hmf : ∀ (fn : Fn) (first cap : Array Value) (w : World),(Instr.makeFunc fn first cap).run Tryz.prog w = .ok (.func fn first cap) w := fun _ _ _ _ => rfl
 have cR := row_any 114 115 enter114 enter115 orX part hS orX_rg (h.on (below_new w (.cells zNo 64))) hT 4096 (by omega) (fun v t ts a c h => orO_ok h) (fun v a c h => orO_no h) cP
 have HBL : Hid (b < w§) := h.lt
 have HGL : Hid (G < w§) := h.gl
 obtain ⟨X,eX⟩ : ∃ X,gRow orX part 4096 ts = X := ⟨_,rfl⟩
 rw [eX] at cR ⊢
 rw [show ((4096 : Nat) : Int) = 4096 from rfl] at cR
 clear h cP eX hT hS
 cases X with
 | error f =>
  go_enter Tryz.func86,Tryz.ntmps86
  go_wp2_with fail
  refine cR.mono ?_
  rintro e w1 ⟨rfl,hm⟩
  exact ⟨rfl,rfl,(Mv.ofBelow (below_new _ _)).trans hm (fun k e => .inl e)⟩
 | ok q =>
  obtain ⟨t,ts2⟩ := q
  go_enter Tryz.func86,Tryz.ntmps86
  go_wp2_with fail
  refine cR.mono ?_
  rintro e w1 ⟨⟨m,rfl,rfl,hl,hk⟩,hr,hm⟩
  obtain ⟨⟨k2,o2,ty2,n2,f2,x2,p2⟩,am2,cm2,ks2⟩ := m
  obtain ⟨hZ,Y,eY,hY1,hY2,hY3,hY4,hY5⟩ := pass8 hm hl hk hr HBL.out HGL.out
  have z0 : w1.cell? ⟨w§,0,none⟩ = some (zU 0) := cell_of hZ 0
  have q0 : w1.frozen? ⟨w§,0,none⟩ = false := frozen_of hZ 0
  have z1 : w1.cell? ⟨w§,1,none⟩ = some (zU 0) := cell_of hZ 1
  have q1 : w1.frozen? ⟨w§,1,none⟩ = false := frozen_of hZ 1
  have z2 : w1.cell? ⟨w§,2,none⟩ = some (zU 0) := cell_of hZ 2
  have q2 : w1.frozen? ⟨w§,2,none⟩ = false := frozen_of hZ 2
  have z3 : w1.cell? ⟨w§,3,none⟩ = some (zI 0) := cell_of hZ 3
  have q3 : w1.frozen? ⟨w§,3,none⟩ = false := frozen_of hZ 3
  have z4 : w1.cell? ⟨w§,4,none⟩ = some (zU 0) := cell_of hZ 4
  have q4 : w1.frozen? ⟨w§,4,none⟩ = false := frozen_of hZ 4
  have z5 : w1.cell? ⟨w§,5,none⟩ = some (.string ⟨#[]⟩) := cell_of hZ 5
  have q5 : w1.frozen? ⟨w§,5,none⟩ = false := frozen_of hZ 5
  have z6 : w1.cell? ⟨w§,6,none⟩ = some (.slice none 0 0) := cell_of hZ 6
  have q6 : w1.frozen? ⟨w§,6,none⟩ = false := frozen_of hZ 6
  have z7 : w1.cell? ⟨w§,7,none⟩ = some (zI 0) := cell_of hZ 7
  have q7 : w1.frozen? ⟨w§,7,none⟩ = false := frozen_of hZ 7
  have HEY : Hid (_ = Y) := eY
  have HY1 : Hid (Y.heap[w§]? = some (.cells (Nd.mk ⟨k2,o2,ty2,n2,f2,x2,p2⟩ am2 cm2 ks2).vals 64 (0,0))) := hY1
  have HYY : Hid (LiesO Y (.mk ⟨k2,o2,ty2,n2,f2,x2,p2⟩ am2 cm2 ks2) ∧ Bkn (fun k => w§ ≤ k ∧ k < Y§) (.mk ⟨k2,o2,ty2,n2,f2,x2,p2⟩ am2 cm2 ks2) ∧ (∃ a c,Rdr Y b G ts2 fa fe d a c) ∧ Mv w Y (fun k => k = b)) := ⟨hY2,hY3,hY4,hY5⟩
  clear eY hY1 hY2 hY3 hY4 hY5 hZ hm hl hk hr cR
  simp only [Nd.vals,Nd.h,Nd.a,Nd.c,Nd.ks,hdA]
  go_wp2_with fail
  rw [HEY.out]
  exact bodyPost_ret (results_cell_row rfl _ _ w§ 64 (Nd.mk ⟨k2,o2,ty2,n2,f2,x2,p2⟩ am2 cm2 ks2).vals (0,0) _ rfl HY1.out Tryz.underlying64 rfl zK) rfl ⟨⟨_,rfl,rfl,HYY.out.1,HYY.out.2.1⟩,HYY.out.2.2.1,HYY.out.2.2.2⟩
end Go.Proofs.YtkfabnchhjfjjaaGreatDoor
