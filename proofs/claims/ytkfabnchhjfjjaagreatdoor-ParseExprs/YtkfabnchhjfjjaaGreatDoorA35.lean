import Derived.Test.YtkfabnchhjfjjaaGreatDoorA0
import Derived.Test.YtkfabnchhjfjjaaGreatDoorA34
namespace Go.Proofs.YtkfabnchhjfjjaaGreatDoor
open Go.RowKit
set_option linter.unusedVariables false
set_option maxRecDepth 100000 in
set_option maxHeartbeats 4000000 in
theorem strat_none {w : World} {b G : Nat} {t0 t1 t2 t3 : Tk} {ts : List Tk} {fa : Int} {fe : Value} {d : Nat} {a : Option Addr} {c : Nat} (h : Rdr w b G (t0 :: t1 :: t2 :: t3 :: ts) fa fe d a c) (e0 : t0.x = ZF) (e1 : t1.k = 2) (e2 : t2.x = Zk) (nt3r : ¬ t3.x = ZI) (nt3s : ¬ t3.x = ZJ) (nt3t : ¬ t3.x = ZB) :
  Calls zG 26 #[zP b] w fun e w' => e = pan (ftV fa fe (.tok 130 t3.p)) ∧ Mv w w' (fun k => k = b) := by
 have b0 := below_new w (.cells #[.string ⟨#[]⟩,.slice none 0 0,.slice none 0 0,.slice none 0 0] 43)
 have n0 := heap_new w (.cells #[.string ⟨#[]⟩,.slice none 0 0,.slice none 0 0,.slice none 0 0] 43)
 have s0 := size_alloc w (.cells #[.string ⟨#[]⟩,.slice none 0 0,.slice none 0 0,.slice none 0 0] 43)
 have cT := take_any (h.on b0) ZF
 rw [gTake_hit e0] at cT
 have HL : Hid (b < w§ ∧ G < w§ ∧ Below w§ w (w.alloc (.cells #[.string ⟨#[]⟩,.slice none 0 0,.slice none 0 0,.slice none 0 0] 43)) ∧ (w.alloc (.cells #[.string ⟨#[]⟩,.slice none 0 0,.slice none 0 0,.slice none 0 0] 43)).heap[w§]? = some (.cells #[.string ⟨#[]⟩,.slice none 0 0,.slice none 0 0,.slice none 0 0] 43 (0,0)) ∧ (w.alloc (.cells #[.string ⟨#[]⟩,.slice none 0 0,.slice none 0 0,.slice none 0 0] 43))§ = w§ + 1) := ⟨h.lt,h.gl,b0,n0,s0⟩
 have hmf : ∀ (fn : Fn) (first cap : Array Value) (w : World),(Instr.makeFunc fn first cap).run Tryz.prog w = .ok (.func fn first cap) w := fun _ _ _ _ => rfl
 clear b0 n0 s0 h
 go_enter Tryz.func26,Tryz.ntmps26
 go_wp2_with fail
 refine cT.mono ?_
 rintro e w0 ⟨rfl,⟨a0,c0,hr0⟩,hm0⟩
 have cN := name_any hr0
 rw [gName_hit e1] at cN
 have HM0 : Hid (Mv (w.alloc (.cells #[.string ⟨#[]⟩,.slice none 0 0,.slice none 0 0,.slice none 0 0] 43)) w0 (fun k => k = b)) := hm0
 clear cT hr0 hm0
 go_wp2_with fail
 refine cN.mono ?_
 rintro e w1 ⟨rfl,⟨a1,c1,hr1⟩,hm1⟩
 obtain ⟨l1,l2,l3,l4,l5⟩ := HL.out
 have sz0 := HM0.out.size
 have sz1 := hm1.size
 have b1 := below_new w1 (.cells #[.string t1.x,.slice none 0 0,.slice none 0 0,.slice none 0 0] 43)
 have n1 := heap_new w1 (.cells #[.string t1.x,.slice none 0 0,.slice none 0 0,.slice none 0 0] 43)
 have x3 : SX w b G w§ w1§ 43 #[.string ⟨#[]⟩,.slice none 0 0,.slice none 0 0,.slice none 0 0] #[.string t1.x,.slice none 0 0,.slice none 0 0,.slice none 0 0] (t2 :: t3 :: ts) fa fe d (w1.alloc (.cells #[.string t1.x,.slice none 0 0,.slice none 0 0,.slice none 0 0] 43)) :=
  ⟨(((Mv.ofBelow l3).trans HM0.out (fun k e => .inl e)).trans hm1 (fun k e => .inl e)).alloc _,(b1.block _ (by omega)).trans ((hm1.block _ (by omega) (by omega)).trans ((HM0.out.block _ (by omega) (by omega)).trans l4)),n1,⟨a1,c1,hr1.on b1⟩,rfl,by omega,l1,l2⟩
 obtain ⟨Y1,eY1⟩ : ∃ Y,(w1.alloc (.cells #[.string t1.x,.slice none 0 0,.slice none 0 0,.slice none 0 0] 43)) = Y := ⟨_,rfl⟩
 rw [eY1] at x3
 have HEY1 : Hid (_ = Y1) := eY1
 have X3 := x3.hid
 obtain ⟨a2,c2,hr2⟩ := x3.R
 have cT2 := take_any hr2 Zk
 rw [gTake_hit e2] at cT2
 clear cN hr1 hm1 l1 l2 l3 l4 l5 sz0 sz1 b1 n1 x3 eY1 hr2 HL HM0
 go_wp2_with fail
 rw [HEY1.out]
 refine cT2.mono ?_
 rintro e w2 ⟨rfl,hr2,hm2⟩
 have x4 := X3.out.call hm2 hr2
 have X4 := x4.hid
 obtain ⟨a3,c3,hr3⟩ := x4.R
 have cL1 := fun f1 => list66_none hr3 ZI nt3r 12 (.func 67) f1 #[]
 clear cT2 hr2 hm2 x4 hr3 X3 HEY1
 go_wp2_with fail
 refine (cL1 _).mono ?_
 rintro e w3 ⟨rfl,hb3⟩
 have x5 := X4.out.below hb3
 have z1 : w3.cell? ⟨w1§,1,none⟩ = some (.slice none 0 0) := cell_of x5.hM 1
 have q1 : w3.frozen? ⟨w1§,1,none⟩ = false := frozen_of x5.hM 1
 have x6 := x5.set 1 (.slice none 0 0)
 obtain ⟨Y2,eY2⟩ : ∃ Y,w3.setCell ⟨w1§,1,none⟩ (.slice none 0 0) = Y := ⟨_,rfl⟩
 rw [eY2] at x6
 have HEY2 : Hid (_ = Y2) := eY2
 have X6 := x6.hid
 obtain ⟨a4,c4,hr4⟩ := x6.R
 have cL2 := fun f1 => list68_none hr4 ZJ nt3s 4 (.func 69) f1 #[]
 clear cL1 hb3 x5 x6 eY2 hr4 X4
 go_wp2_with fail
 rw [HEY2.out]
 refine (cL2 _).mono ?_
 rintro e w4 ⟨rfl,hb4⟩
 have x7 := X6.out.below hb4
 have z2 : w4.cell? ⟨w1§,2,none⟩ = some (.slice none 0 0) := cell_of x7.hM 2
 have q2 : w4.frozen? ⟨w1§,2,none⟩ = false := frozen_of x7.hM 2
 have x8 := x7.set 2 (.slice none 0 0)
 obtain ⟨Y3,eY3⟩ : ∃ Y,w4.setCell ⟨w1§,2,none⟩ (.slice none 0 0) = Y := ⟨_,rfl⟩
 rw [eY3] at x8
 have HEY3 : Hid (_ = Y3) := eY3
 have X8 := x8.hid
 obtain ⟨a5,c5,hr5⟩ := x8.R
 have cL3 := fun f1 => list70_none hr5 ZB nt3t 12 (.func 71) f1 #[]
 clear cL2 hb4 x7 x8 eY3 hr5 X6 HEY2 z1 q1
 go_wp2_with fail
 rw [HEY3.out]
 refine (cL3 _).mono ?_
 rintro e w5 ⟨rfl,hb5⟩
 have x9 := X8.out.below hb5
 have z3 : w5.cell? ⟨w1§,3,none⟩ = some (.slice none 0 0) := cell_of x9.hM 3
 have q3 : w5.frozen? ⟨w1§,3,none⟩ = false := frozen_of x9.hM 3
 have x10 := x9.set 3 (.slice none 0 0)
 obtain ⟨Y4,eY4⟩ : ∃ Y,w5.setCell ⟨w1§,3,none⟩ (.slice none 0 0) = Y := ⟨_,rfl⟩
 rw [eY4] at x10
 have HEY4 : Hid (_ = Y4) := eY4
 have X10 := x10.hid
 have z4 : Y4.cell? ⟨w1§,3,none⟩ = some (.slice none 0 0) := cell_of x10.hM 3
 obtain ⟨a6,c6,hr6⟩ := x10.R
 have cNd := need_tok hr6 130
 clear cL3 hb5 x9 x10 eY4 hr6 X8 HEY3 z2 q2
 go_wp2_with fail
 rw [HEY4.out]
 go_wp2_with fail
 refine cNd.mono ?_
 rintro e w6 ⟨rfl,hb6⟩
 exact ⟨rfl,rfl,X10.out.mv.trans (Mv.ofBelow hb6) (fun k e => .inl e)⟩
set_option maxRecDepth 100000 in
set_option maxHeartbeats 4000000 in
theorem strat_one {w : World} {b G : Nat} {t0 t1 t2 t3 t4 t5 t6 t7 : Tk} {ts : List Tk} {fa : Int} {fe : Value} {d : Nat} {a : Option Addr} {c : Nat} (h : Rdr w b G (t0 :: t1 :: t2 :: t3 :: t4 :: t5 :: t6 :: t7 :: ts) fa fe d a c) (e0 : t0.x = ZF) (e1 : t1.k = 2) (e2 : t2.x = Zk) (e3 : t3.x = ZB) (e4 : t4.k = 2) (e5 : t5.x = Zk) (e6 : t6.x = Zs) (e7 : t7.x = Zs) :
  Calls zG 26 #[zP b] w fun e w' => ∃ g cap,e = .returned (.agg #[.string t1.x,.slice none 0 0,.slice none 0 0,.slice (some ⟨g,0,none⟩) 1 cap]) ∧ Row w' 87 3 (.slice (some ⟨g,0,none⟩) 1 cap) 1 (sF t4.x t3.p) ∧ w§ ≤ g ∧ (∃ a c,Rdr w' b G ts fa fe d a c) ∧ Mv w w' (fun k => k = b) := by
 have nt3r : ¬ t3.x = ZI := by rw [e3]; decide
 have nt3s : ¬ t3.x = ZJ := by rw [e3]; decide
 have b0 := below_new w (.cells #[.string ⟨#[]⟩,.slice none 0 0,.slice none 0 0,.slice none 0 0] 43)
 have n0 := heap_new w (.cells #[.string ⟨#[]⟩,.slice none 0 0,.slice none 0 0,.slice none 0 0] 43)
 have s0 := size_alloc w (.cells #[.string ⟨#[]⟩,.slice none 0 0,.slice none 0 0,.slice none 0 0] 43)
 have cT := take_any (h.on b0) ZF
 rw [gTake_hit e0] at cT
 have HL : Hid (b < w§ ∧ G < w§ ∧ Below w§ w (w.alloc (.cells #[.string ⟨#[]⟩,.slice none 0 0,.slice none 0 0,.slice none 0 0] 43)) ∧ (w.alloc (.cells #[.string ⟨#[]⟩,.slice none 0 0,.slice none 0 0,.slice none 0 0] 43)).heap[w§]? = some (.cells #[.string ⟨#[]⟩,.slice none 0 0,.slice none 0 0,.slice none 0 0] 43 (0,0)) ∧ (w.alloc (.cells #[.string ⟨#[]⟩,.slice none 0 0,.slice none 0 0,.slice none 0 0] 43))§ = w§ + 1) := ⟨h.lt,h.gl,b0,n0,s0⟩
 have hmf : ∀ (fn : Fn) (first cap : Array Value) (w : World),(Instr.makeFunc fn first cap).run Tryz.prog w = .ok (.func fn first cap) w := fun _ _ _ _ => rfl
 clear b0 n0 s0 h
 go_enter Tryz.func26,Tryz.ntmps26
 go_wp2_with fail
 refine cT.mono ?_
 rintro e w0 ⟨rfl,⟨a0,c0,hr0⟩,hm0⟩
 have cN := name_any hr0
 rw [gName_hit e1] at cN
 have HM0 : Hid (Mv (w.alloc (.cells #[.string ⟨#[]⟩,.slice none 0 0,.slice none 0 0,.slice none 0 0] 43)) w0 (fun k => k = b)) := hm0
 clear cT hr0 hm0
 go_wp2_with fail
 refine cN.mono ?_
 rintro e w1 ⟨rfl,⟨a1,c1,hr1⟩,hm1⟩
 obtain ⟨l1,l2,l3,l4,l5⟩ := HL.out
 have sz0 := HM0.out.size
 have sz1 := hm1.size
 have b1 := below_new w1 (.cells #[.string t1.x,.slice none 0 0,.slice none 0 0,.slice none 0 0] 43)
 have n1 := heap_new w1 (.cells #[.string t1.x,.slice none 0 0,.slice none 0 0,.slice none 0 0] 43)
 have x3 : SX w b G w§ w1§ 43 #[.string ⟨#[]⟩,.slice none 0 0,.slice none 0 0,.slice none 0 0] #[.string t1.x,.slice none 0 0,.slice none 0 0,.slice none 0 0] (t2 :: t3 :: t4 :: t5 :: t6 :: t7 :: ts) fa fe d (w1.alloc (.cells #[.string t1.x,.slice none 0 0,.slice none 0 0,.slice none 0 0] 43)) :=
  ⟨(((Mv.ofBelow l3).trans HM0.out (fun k e => .inl e)).trans hm1 (fun k e => .inl e)).alloc _,(b1.block _ (by omega)).trans ((hm1.block _ (by omega) (by omega)).trans ((HM0.out.block _ (by omega) (by omega)).trans l4)),n1,⟨a1,c1,hr1.on b1⟩,rfl,by omega,l1,l2⟩
 obtain ⟨Y1,eY1⟩ : ∃ Y,(w1.alloc (.cells #[.string t1.x,.slice none 0 0,.slice none 0 0,.slice none 0 0] 43)) = Y := ⟨_,rfl⟩
 rw [eY1] at x3
 have HEY1 : Hid (_ = Y1) := eY1
 have X3 := x3.hid
 obtain ⟨a2,c2,hr2⟩ := x3.R
 have cT2 := take_any hr2 Zk
 rw [gTake_hit e2] at cT2
 clear cN hr1 hm1 l1 l2 l3 l4 l5 sz0 sz1 b1 n1 x3 eY1 hr2 HL HM0
 go_wp2_with fail
 rw [HEY1.out]
 refine cT2.mono ?_
 rintro e w2 ⟨rfl,hr2,hm2⟩
 have x4 := X3.out.call hm2 hr2
 have X4 := x4.hid
 obtain ⟨a3,c3,hr3⟩ := x4.R
 have cL1 := fun f1 => list66_none hr3 ZI nt3r 12 (.func 67) f1 #[]
 clear cT2 hr2 hm2 x4 hr3 X3 HEY1
 go_wp2_with fail
 refine (cL1 _).mono ?_
 rintro e w3 ⟨rfl,hb3⟩
 have x5 := X4.out.below hb3
 have z1 : w3.cell? ⟨w1§,1,none⟩ = some (.slice none 0 0) := cell_of x5.hM 1
 have q1 : w3.frozen? ⟨w1§,1,none⟩ = false := frozen_of x5.hM 1
 have x6 := x5.set 1 (.slice none 0 0)
 obtain ⟨Y2,eY2⟩ : ∃ Y,w3.setCell ⟨w1§,1,none⟩ (.slice none 0 0) = Y := ⟨_,rfl⟩
 rw [eY2] at x6
 have HEY2 : Hid (_ = Y2) := eY2
 have X6 := x6.hid
 obtain ⟨a4,c4,hr4⟩ := x6.R
 have cL2 := fun f1 => list68_none hr4 ZJ nt3s 4 (.func 69) f1 #[]
 clear cL1 hb3 x5 x6 eY2 hr4 X4
 go_wp2_with fail
 rw [HEY2.out]
 refine (cL2 _).mono ?_
 rintro e w4 ⟨rfl,hb4⟩
 have x7 := X6.out.below hb4
 have z2 : w4.cell? ⟨w1§,2,none⟩ = some (.slice none 0 0) := cell_of x7.hM 2
 have q2 : w4.frozen? ⟨w1§,2,none⟩ = false := frozen_of x7.hM 2
 have x8 := x7.set 2 (.slice none 0 0)
 obtain ⟨Y3,eY3⟩ : ∃ Y,w4.setCell ⟨w1§,2,none⟩ (.slice none 0 0) = Y := ⟨_,rfl⟩
 rw [eY3] at x8
 have HEY3 : Hid (_ = Y3) := eY3
 have X8 := x8.hid
 obtain ⟨a5,c5,hr5⟩ := x8.R
 have cL3 := list70_one hr5 e3 e4 e5 e6 (by rw [e7]; decide)
 clear cL2 hb4 x7 x8 eY3 hr5 X6 HEY2 z1 q1 nt3r nt3s
 go_wp2_with fail
 rw [HEY3.out]
 refine cL3.mono ?_
 rintro e w5 ⟨g,cap,rfl,hw5,hg5,hr5,hm5⟩
 have x9 := X8.out.call hm5 hr5
 have z3 : w5.cell? ⟨w1§,3,none⟩ = some (.slice none 0 0) := cell_of x9.hM 3
 have q3 : w5.frozen? ⟨w1§,3,none⟩ = false := frozen_of x9.hM 3
 have x10 := x9.set 3 (.slice (some ⟨g,0,none⟩) 1 cap)
 have hgl := hw5.lt g rfl
 have hgN : g ≠ w1§ := fun e => by have := (Array.getElem?_eq_some_iff.1 X8.out.hM).1; omega
 obtain ⟨Y4,eY4⟩ : ∃ Y,w5.setCell ⟨w1§,3,none⟩ (.slice (some ⟨g,0,none⟩) 1 cap) = Y := ⟨_,rfl⟩
 have hw6 : Row Y4 87 3 (.slice (some ⟨g,0,none⟩) 1 cap) 1 (sF t4.x t3.p) := hw5.of_block (fun k hk => by
  simp [Value.ownBlock] at hk; subst hk; rw [← eY4]; exact Below.heap_setCell _ _ _ _ hgN)
 have HG : Hid (w§ < g ∧ Row Y4 87 3 (.slice (some ⟨g,0,none⟩) 1 cap) 1 (sF t4.x t3.p)) := ⟨by have := (Array.getElem?_eq_some_iff.1 X8.out.hM).1; have := X8.out.nM; omega,hw6⟩
 rw [eY4] at x10
 have HEY4 : Hid (_ = Y4) := eY4
 have X10 := x10.hid
 have z4 : Y4.cell? ⟨w1§,3,none⟩ = some (.slice (some ⟨g,0,none⟩) 1 cap) := cell_of x10.hM 3
 have cNd := need_ok Y4 b 130
 obtain ⟨a6,c6,hr6⟩ := x10.R
 have cT4 := take_any hr6 Zs
 rw [gTake_hit e7] at cT4
 clear cL3 hr5 hm5 hw5 hg5 x9 x10 eY4 hr6 X8 HEY3 z2 q2 hgl hgN hw6
 go_wp2_with fail
 rw [HEY4.out]
 go_wp2_with (go_at_call 72; refine cNd.mono ?_; rintro e w9 ⟨rfl,e9⟩; obtain rfl := e9.symm)
 refine cT4.mono ?_
 rintro e w6 ⟨rfl,hr6,hm6⟩
 have x11 := X10.out.call hm6 hr6
 have hg6 := HG.out.2.lt g rfl
 have hw7 : Row w6 87 3 (.slice (some ⟨g,0,none⟩) 1 cap) 1 (sF t4.x t3.p) := HG.out.2.of_block (fun k hk => by
  simp [Value.ownBlock] at hk; subst hk; exact hm6.block _ hg6 (by have := HG.out.1; have := X10.out.lb; omega))
 have m0 : w6.cell? ⟨w1§,0,none⟩ = some (.string t1.x) := cell_of x11.hM 0
 have m1 : w6.cell? ⟨w1§,1,none⟩ = some (.slice none 0 0) := cell_of x11.hM 1
 have m2 : w6.cell? ⟨w1§,2,none⟩ = some (.slice none 0 0) := cell_of x11.hM 2
 have m3 : w6.cell? ⟨w1§,3,none⟩ = some (.slice (some ⟨g,0,none⟩) 1 cap) := cell_of x11.hM 3
 have y0 : w6.cell? ⟨w§,0,none⟩ = some (.string ⟨#[]⟩) := cell_of x11.hN 0
 have y1 : w6.cell? ⟨w§,1,none⟩ = some (.slice none 0 0) := cell_of x11.hN 1
 have y2 : w6.cell? ⟨w§,2,none⟩ = some (.slice none 0 0) := cell_of x11.hN 2
 have y3 : w6.cell? ⟨w§,3,none⟩ = some (.slice none 0 0) := cell_of x11.hN 3
 have g0 : w6.frozen? ⟨w§,0,none⟩ = false := frozen_of x11.hN 0
 have g1 : w6.frozen? ⟨w§,1,none⟩ = false := frozen_of x11.hN 1
 have g2 : w6.frozen? ⟨w§,2,none⟩ = false := frozen_of x11.hN 2
 have g3 : w6.frozen? ⟨w§,3,none⟩ = false := frozen_of x11.hN 3
 obtain ⟨Y,eY,hY1,hY2,hY3,hY4⟩ := fin4_43 x11.hN (.string t1.x) (.slice none 0 0) (.slice none 0 0) (.slice (some ⟨g,0,none⟩) 1 cap)
 have HEY : Hid (_ = Y) := eY
 have HY : Hid (Y.heap[w§]? = some (.cells #[.string t1.x,.slice none 0 0,.slice none 0 0,.slice (some ⟨g,0,none⟩) 1 cap] 43 (0,0)) ∧ Row Y 87 3 (.slice (some ⟨g,0,none⟩) 1 cap) 1 (sF t4.x t3.p) ∧ w§ ≤ g ∧ (∃ a c,Rdr Y b G ts fa fe d a c) ∧ Mv w Y (fun k => k = b)) := by
  obtain ⟨a7,c7,hr7⟩ := x11.R
  have := x11.lb
  have := x11.lg
  have hg := HG.out.1
  exact ⟨hY1,hw7.of_block (fun k hk => by simp [Value.ownBlock] at hk; subst hk; exact hY3 _ (by omega)),by omega,⟨a7,c7,hr7.blk (hY3 _ (by omega)) (hY3 _ (by omega)) (by omega)⟩,hY4 _ _ x11.mv (Nat.le_refl _)⟩
 clear cT4 cNd hr6 hm6 x11 X10 eY hY1 hY2 hY3 hY4 HEY4 z3 q3 z4 hw7 hg6 HG
 go_wp2_with fail
 rw [HEY.out]
 exact bodyPost_ret (results_cell_row (p := 2) (ty := 43) rfl _ _ w§ 43 #[.string t1.x,.slice none 0 0,.slice none 0 0,.slice (some ⟨g,0,none⟩) 1 cap] (0,0) _ rfl HY.out.1 Tryz.underlying43 rfl zK) rfl ⟨g,cap,rfl,HY.out.2⟩
set_option maxRecDepth 100000 in
theorem catch61_i (p q : Addr) (w : World) :
  CallsD Tryz.prog 61 #[.pointer (some p),.pointer (some q)] .returning w fun e u' w' => e = .returned (.tuple #[]) ∧ u' = .returning ∧ w' = w.alloc (.cells #[zI 0,.nilIface] 143) := by
 refine callsD_of_wpS Tryz.func61 rfl fun c₀ cs hu => ?_
 apply wpS_seq
 apply wpS_region
 simp [wpOpsS,go_sem,recoverD,hu,Tryz.ntmps61,assert_nil,Result.andThen,Exit.thenS]
 simp only [Array.replicate_succ,Array.replicate_zero,List.push_toArray,List.append_toArray,List.nil_append,List.cons_append,List.setIfInBounds_toArray,List.set_cons_zero,List.set_cons_succ]
 refine wpS_of_wp ?_
 go_wp2_with fail
 cases c₀
 simp_all [bodyPostS,results,Tryz.results61]
set_option maxRecDepth 100000 in
theorem catch61_p (Bp Bq : Nat) (call : ByteArray) (at' : Int) (T : TypeId) (x : Value) (y : Value) (older : List PanicEntry) (w : World) (hp : w.heap[Bp]? = some (.cells #[.string call] 9 (0,0))) (hq : w.heap[Bq]? = some (.cells #[y] 45 (0,0))) :
  CallsD Tryz.prog 61 #[zP Bp,zP Bq] (.panicking ({ v := .iface 143 (.agg #[zI at',.iface T x]),recovered := false } :: older)) w fun e u' w' =>
   e = .returned (.tuple #[]) ∧ u' = .panicking ({ v := .iface 143 (.agg #[zI at',.iface T x]),recovered := true } :: older) ∧ w' = ((w.alloc (.cells #[zI at',.iface T x] 143)).alloc (.cells #[.string call,zI at',.iface T x] 76)).setCell ⟨Bq,0,none⟩ (.iface 74 (.pointer (some ⟨w§ + 1,0,none⟩))) := by
 have lp := (Array.getElem?_eq_some_iff.1 hp).1
 have lq := (Array.getElem?_eq_some_iff.1 hq).1
 have b1 := below_new w (.cells #[zI at',.iface T x] 143)
 have b2 := below_new (w.alloc (.cells #[zI at',.iface T x] 143)) (.cells #[.string call,zI at',.iface T x] 76)
 have hp1 : (w.alloc (.cells #[zI at',.iface T x] 143)).cell? ⟨Bp,0,none⟩ = some (.string call) := cell_of ((b1.block _ lp).trans hp) 0
 have hq2 := ((b2.block Bq (by rw [size_alloc]; omega)).trans (b1.block _ lq)).trans hq
 have hq1 : ((w.alloc (.cells #[zI at',.iface T x] 143)).alloc (.cells #[.string call,zI at',.iface T x] 76)).cell? ⟨Bq,0,none⟩ = some y := cell_of hq2 0
 have hz1 : ((w.alloc (.cells #[zI at',.iface T x] 143)).alloc (.cells #[.string call,zI at',.iface T x] 76)).frozen? ⟨Bq,0,none⟩ = false := frozen_of hq2 0
 clear hq2 b1 b2 lp lq hp hq
 refine callsD_of_wpS Tryz.func61 rfl fun c₀ cs hu => ?_
 apply wpS_seq
 apply wpS_region
 simp [wpOpsS,go_sem,recoverD,hu,Tryz.ntmps61,assert_hit,Result.andThen,Exit.thenS]
 simp only [Array.replicate_succ,Array.replicate_zero,List.push_toArray,List.append_toArray,List.nil_append,List.cons_append,List.setIfInBounds_toArray,List.set_cons_zero,List.set_cons_succ]
 refine wpS_of_wp ?_
 go_wp2_with fail
 cases c₀
 simp_all [bodyPostS,results,Tryz.results61]
set_option maxRecDepth 100000 in
theorem catch61_n (Bp Bq : Nat) (call : ByteArray) (at' : Int) (y : Value) (older : List PanicEntry) (w : World) (hp : w.heap[Bp]? = some (.cells #[.string call] 9 (0,0))) (hq : w.heap[Bq]? = some (.cells #[y] 45 (0,0))) :
  CallsD Tryz.prog 61 #[zP Bp,zP Bq] (.panicking ({ v := .iface 143 (.agg #[zI at',.nilIface]),recovered := false } :: older)) w fun e u' w' =>
   e = .returned (.tuple #[]) ∧ u' = .panicking ({ v := .iface 143 (.agg #[zI at',.nilIface]),recovered := true } :: older) ∧ w' = ((w.alloc (.cells #[zI at',.nilIface] 143)).alloc (.cells #[.string call,zI at',.nilIface] 76)).setCell ⟨Bq,0,none⟩ (.iface 74 (.pointer (some ⟨w§ + 1,0,none⟩))) := by
 have lp := (Array.getElem?_eq_some_iff.1 hp).1
 have lq := (Array.getElem?_eq_some_iff.1 hq).1
 have b1 := below_new w (.cells #[zI at',.nilIface] 143)
 have b2 := below_new (w.alloc (.cells #[zI at',.nilIface] 143)) (.cells #[.string call,zI at',.nilIface] 76)
 have hp1 : (w.alloc (.cells #[zI at',.nilIface] 143)).cell? ⟨Bp,0,none⟩ = some (.string call) := cell_of ((b1.block _ lp).trans hp) 0
 have hq2 := ((b2.block Bq (by rw [size_alloc]; omega)).trans (b1.block _ lq)).trans hq
 have hq1 : ((w.alloc (.cells #[zI at',.nilIface] 143)).alloc (.cells #[.string call,zI at',.nilIface] 76)).cell? ⟨Bq,0,none⟩ = some y := cell_of hq2 0
 have hz1 : ((w.alloc (.cells #[zI at',.nilIface] 143)).alloc (.cells #[.string call,zI at',.nilIface] 76)).frozen? ⟨Bq,0,none⟩ = false := frozen_of hq2 0
 clear hq2 b1 b2 lp lq hp hq
 refine callsD_of_wpS Tryz.func61 rfl fun c₀ cs hu => ?_
 apply wpS_seq
 apply wpS_region
 simp [wpOpsS,go_sem,recoverD,hu,Tryz.ntmps61,assert_hit,Result.andThen,Exit.thenS]
 simp only [Array.replicate_succ,Array.replicate_zero,List.push_toArray,List.append_toArray,List.nil_append,List.cons_append,List.setIfInBounds_toArray,List.set_cons_zero,List.set_cons_succ]
 refine wpS_of_wp ?_
 go_wp2_with fail
 cases c₀
 simp_all [bodyPostS,results,Tryz.results61]
def OutE (s call : ByteArray) (w : World) (f : Ft) (e : Ending) (w' : World) : Prop :=
 (∃ F,e = .returned (.tuple #[.agg #[.string ⟨#[]⟩,.slice none 0 0,.slice none 0 0,.slice none 0 0],.iface 74 (zP F)]) ∧ ErrAt w' s call f F ∧ w§ ≤ F) ∧ Below w§ w w'
theorem caught61 {w V' : World} {s call : ByteArray} {f : Ft} (at' : Int) (ev : Value) (hsz : w§ + 3 ≤ V'§) (g1 : V'.heap[w§ + 1]? = some (.cells #[.string ⟨#[]⟩,.slice none 0 0,.slice none 0 0,.slice none 0 0] 43 (0,0))) (g2 : V'.heap[w§ + 2]? = some (.cells #[.nilIface] 45 (0,0))) (mW : Mv w V' (fun _ => False))
  (hE : ∀ Y F,(∀ k,k < V'§ → k ≠ w§ + 2 → Y.heap[k]? = V'.heap[k]?) → Y.heap[F]? = some (.cells #[.string call,zI at',ev] 76 (0,0)) → ErrAt Y s call f F) (tmps : Array Value) (ht6 : tmps[6]?.getD undef = .pointer (some ⟨w§ + 1,0,none⟩)) (ht7 : tmps[7]?.getD undef = .pointer (some ⟨w§ + 2,0,none⟩)) (Y : World)
  (eY : Y = ((V'.alloc (.cells #[zI at',ev] 143)).alloc (.cells #[.string call,zI at',ev] 76)).setCell ⟨w§ + 2,0,none⟩ (.iface 74 (.pointer (some ⟨V'§ + 1,0,none⟩)))) :
  (results Tryz.f25 tmps).run Tryz.prog Y = .ok (.tuple #[.agg #[.string ⟨#[]⟩,.slice none 0 0,.slice none 0 0,.slice none 0 0],.iface 74 (.pointer (some ⟨V'§ + 1,0,none⟩))]) Y ∧ OutE s call w f (.returned (.tuple #[.agg #[.string ⟨#[]⟩,.slice none 0 0,.slice none 0 0,.slice none 0 0],.iface 74 (.pointer (some ⟨V'§ + 1,0,none⟩))])) Y := by
 have b1 := below_new V' (.cells #[zI at',ev] 143)
 have s1 := size_alloc V' (.cells #[zI at',ev] 143)
 have b2 := below_new (V'.alloc (.cells #[zI at',ev] 143)) (.cells #[.string call,zI at',ev] 76)
 have n2 := heap_new (V'.alloc (.cells #[zI at',ev] 143)) (.cells #[.string call,zI at',ev] 76)
 have old : ∀ k,k < V'§ → k ≠ w§ + 2 → Y.heap[k]? = V'.heap[k]? := fun k hk hn => by
  rw [eY]
  exact ((Below.heap_setCell _ _ _ _ hn).trans (b2.block k (by omega))).trans (b1.block k hk)
 have y1 := (old _ (by omega) (by omega)).trans g1
 have y2 : Y.heap[w§ + 2]? = some (.cells #[.iface 74 (.pointer (some ⟨V'§ + 1,0,none⟩))] 45 (0,0)) := by
  rw [eY]
  exact heap_set (j := 0) _ (((b2.block _ (by omega)).trans (b1.block _ (by omega))).trans g2)
 have y3 : Y.heap[V'§ + 1]? = some (.cells #[.string call,zI at',ev] 76 (0,0)) := by
  rw [eY]
  refine (Below.heap_setCell _ _ _ _ (show V'§ + 1 ≠ w§ + 2 by omega)).trans ?_
  rw [← s1]; exact n2
 have mY : Mv w Y (fun _ => False) := by
  rw [eY]
  exact (((mW.trans (Mv.ofBelow b1) (fun _ e => .inl e)).trans (Mv.ofBelow b2) (fun _ e => .inl e))).setCell (a := ⟨w§ + 2,0,none⟩) (.inr (by show w§ ≤ w§ + 2; omega)) _
 refine ⟨?_,⟨_,rfl,hE _ _ old y3,by omega⟩,mY.toBelow⟩
 have z0 : Y.cell? ⟨w§ + 2,0,none⟩ = some (.iface 74 (.pointer (some ⟨V'§ + 1,0,none⟩))) := cell_of y2 0
 have c0 : Y.cell? ⟨w§ + 1,0,none⟩ = some (.string ⟨#[]⟩) := cell_of y1 0
 have c1 : Y.cell? ⟨w§ + 1,1,none⟩ = some (.slice none 0 0) := cell_of y1 1
 have c2 : Y.cell? ⟨w§ + 1,2,none⟩ = some (.slice none 0 0) := cell_of y1 2
 have c3 : Y.cell? ⟨w§ + 1,3,none⟩ = some (.slice none 0 0) := cell_of y1 3
 clear eY
 simp [results,Tryz.results25,go_sem,ht6,ht7,z0,c0,c1,c2,c3]
theorem WX.err61 {w W3 : World} {s call : ByteArray} {fa : Int} {fe : Value} {b G : Nat} {ts : List Tk} {V : World} (h : WX w W3 s call fa fe b G ts V) (hs3 : W3§ = w§ + 3) (h0 : W3.heap[w§]? = some (.cells #[.string call] 9 (0,0))) (h1 : W3.heap[w§ + 1]? = some (.cells #[.string ⟨#[]⟩,.slice none 0 0,.slice none 0 0,.slice none 0 0] 43 (0,0))) (h2 : W3.heap[w§ + 2]? = some (.cells #[.nilIface] 45 (0,0))) (f : Ft) {V' : World} (hm : Mv V V' (fun k => k = b)) (tmps : Array Value) (ht6 : tmps[6]?.getD undef = .pointer (some ⟨w§ + 1,0,none⟩)) (ht7 : tmps[7]?.getD undef = .pointer (some ⟨w§ + 2,0,none⟩)) :
  Leaves Tryz.prog Tryz.f25 tmps (fun e w' => OutE s call w f e w') [{ target := .fn (.func 61) #[zP w§,.pointer (some ⟨w§ + 2,0,none⟩)],args := #[] }] (.panicking [{ v := ftV fa fe f,recovered := false }]) V' := by
 have hlow : ∀ k,k < w§ + 3 → V'.heap[k]? = W3.heap[k]? := fun k hk => (hm.block k (Nat.lt_of_lt_of_le (by omega) h.M.size) (by have := h.hb; omega)).trans (h.low (by omega))
 have g0 := (hlow _ (by omega)).trans h0
 have g1 := (hlow _ (by omega)).trans h1
 have g2 := (hlow _ (by omega)).trans h2
 have hFV : FeAt V' s fa fe := h.F.on (fun k hk F e1 e2 => hm.block k hk (by rw [e2]; exact h.Fb F e1))
 have hsz : w§ + 3 ≤ V'§ := by have := h.M.size; have := hm.size; omega
 have mW : Mv w V' (fun _ => False) := ((Mv.ofBelow h.B).trans h.M (fun k e => .inr (by have := h.hb; omega))).trans hm (fun k e => .inr (by have := h.hb; omega))
 cases f with
 | tok no p =>
  refine leaves_cons (f := 61) (args := #[zP w§,.pointer (some ⟨w§ + 2,0,none⟩)]) (by simp) (by simp [go_sem]) ?_
  refine (catch61_p _ _ call p 48 (zI no) .nilIface [] V' g0 g2).mono ?_
  rintro e u' w'' ⟨rfl,rfl,eY⟩
  obtain ⟨q1,q2⟩ := caught61 (s := s) (f := .tok no p) p (.iface 48 (zI no)) hsz g1 g2 mW (fun Y F _ h => h) tmps ht6 ht7 _ eY
  exact ⟨_,q1,q2⟩
 | lex =>
  by_cases hE : tksE s = 0
  ·obtain ⟨rfl,rfl⟩ := hFV.1 hE
   refine leaves_cons (f := 61) (args := #[zP w§,.pointer (some ⟨w§ + 2,0,none⟩)]) (by simp) (by simp [go_sem]) ?_
   refine (catch61_n _ _ call 0 .nilIface [] V' g0 g2).mono ?_
   rintro e u' w'' ⟨rfl,rfl,eY⟩
   obtain ⟨q1,q2⟩ := caught61 (s := s) (f := .lex) 0 .nilIface hsz g1 g2 mW (fun Y F _ h => ⟨0,.nilIface,h,fun _ => ⟨rfl,rfl⟩,fun e => absurd hE e⟩) tmps ht6 ht7 _ eY
   exact ⟨_,q1,q2⟩
  ·obtain ⟨rfl,F',rfl,hF'⟩ := hFV.2 hE
   refine leaves_cons (f := 61) (args := #[zP w§,.pointer (some ⟨w§ + 2,0,none⟩)]) (by simp) (by simp [go_sem]) ?_
   refine (catch61_p _ _ call (tksB s) 74 (zP F') .nilIface [] V' g0 g2).mono ?_
   rintro e u' w'' ⟨rfl,rfl,eY⟩
   obtain ⟨q1,q2⟩ := caught61 (s := s) (f := .lex) (tksB s) (.iface 74 (zP F')) hsz g1 g2 mW (fun Y F ho h => ⟨tksB s,.iface 74 (zP F'),h,fun e => absurd e hE,fun _ => ⟨rfl,F',rfl,(ho F' (Array.getElem?_eq_some_iff.1 hF').1 (fun e => by rw [e,g2] at hF'; cases hF')).trans hF'⟩⟩) tmps ht6 ht7 _ eY
   exact ⟨_,q1,q2⟩
theorem ErrAt.mv43 {w w' : World} {s call : ByteArray} {f : Ft} {F B : Nat} {cs : Array Value} {fr : Nat × Nat} (h : ErrAt w s call f F) (hB : w.heap[B]? = some (.cells cs 43 fr)) (k : ∀ j,j ≠ B → w'.heap[j]? = w.heap[j]?) : ErrAt w' s call f F := by
 have ne : ∀ {j : Nat} {c : Array Value},w.heap[j]? = some (.cells c 76 (0,0)) → j ≠ B := fun h e => by rw [e,hB] at h; cases h
 cases f with
 | tok no p => exact (k _ (ne h)).trans h
 | lex =>
  obtain ⟨fa,fe,h1,h2⟩ := h
  refine ⟨fa,fe,(k _ (ne h1)).trans h1,h2.1,fun e => ⟨(h2.2 e).1,?_⟩⟩
  obtain ⟨F',e1,e2⟩ := (h2.2 e).2
  exact ⟨F',e1,(k _ (ne e2)).trans e2⟩
set_option maxRecDepth 100000 in
set_option maxHeartbeats 4000000 in
theorem wholeS_err (call s : ByteArray) (hs : s.size ≤ 4194304) (w : World) (ht : Tab w) (f : Ft) (cX : ∀ V b G fa fe a c,Rdr V b G (rdT s) fa fe 0 a c → Calls zG 26 #[zP b] V fun e w' => e = pan (ftV fa fe f) ∧ Mv V w' (fun k => k = b)) :
  Calls zG 25 #[.string call,.string s,.func (.func 26) #[] #[]] w (OutE s call w f) := by
 have hmf : ∀ (fn : Fn) (first cap : Array Value) (w : World),(Instr.makeFunc fn first cap).run Tryz.prog w = .ok (.func fn first cap) w := fun _ _ _ _ => rfl
 obtain ⟨W3,eW3⟩ : ∃ W,(((w.alloc (.cells #[.string call] 9)).alloc (.cells #[.string ⟨#[]⟩,.slice none 0 0,.slice none 0 0,.slice none 0 0] 43)).alloc (.cells #[.nilIface] 45)) = W := ⟨_,rfl⟩
 have HW3 : Hid ((((w.alloc (.cells #[.string call] 9)).alloc (.cells #[.string ⟨#[]⟩,.slice none 0 0,.slice none 0 0,.slice none 0 0] 43)).alloc (.cells #[.nilIface] 45)) = W3) := eW3
 have b0 := below_new w (.cells #[.string call] 9)
 have b1 := below_new (w.alloc (.cells #[.string call] 9)) (.cells #[.string ⟨#[]⟩,.slice none 0 0,.slice none 0 0,.slice none 0 0] 43)
 have b2 := below_new ((w.alloc (.cells #[.string call] 9)).alloc (.cells #[.string ⟨#[]⟩,.slice none 0 0,.slice none 0 0,.slice none 0 0] 43)) (.cells #[.nilIface] 45)
 have n0 := heap_new w (.cells #[.string call] 9)
 have n1 := heap_new (w.alloc (.cells #[.string call] 9)) (.cells #[.string ⟨#[]⟩,.slice none 0 0,.slice none 0 0,.slice none 0 0] 43)
 have n2 := heap_new ((w.alloc (.cells #[.string call] 9)).alloc (.cells #[.string ⟨#[]⟩,.slice none 0 0,.slice none 0 0,.slice none 0 0] 43)) (.cells #[.nilIface] 45)
 have s0 := size_alloc w (.cells #[.string call] 9)
 have s1 := size_alloc (w.alloc (.cells #[.string call] 9)) (.cells #[.string ⟨#[]⟩,.slice none 0 0,.slice none 0 0,.slice none 0 0] 43)
 have s2 := size_alloc ((w.alloc (.cells #[.string call] 9)).alloc (.cells #[.string ⟨#[]⟩,.slice none 0 0,.slice none 0 0,.slice none 0 0] 43)) (.cells #[.nilIface] 45)
 rw [eW3] at b2 n2 s2
 have HS3 : Hid (W3§ = w§ + 3) := by show _ = _; omega
 have HB3 : Hid (Below w§ w W3) := below2 (below2 b0 b1) b2
 have H0 : Hid (W3.heap[w§]? = some (.cells #[.string call] 9 (0,0))) := ((b2.block _ (by omega)).trans (b1.block _ (by omega))).trans n0
 have H1 : Hid (W3.heap[w§ + 1]? = some (.cells #[.string ⟨#[]⟩,.slice none 0 0,.slice none 0 0,.slice none 0 0] 43 (0,0))) := by rw [s0] at n1; exact (b2.block _ (by omega)).trans n1
 have H2 : Hid (W3.heap[w§ + 2]? = some (.cells #[.nilIface] 45 (0,0))) := by rw [s1,s0] at n2; exact n2
 have cN := new_any s hs W3 (ht.on HB3.out)
 clear b0 b1 b2 n0 n1 n2 s0 s1 s2 eW3 ht
 go_enter_defers Tryz.func25,Tryz.ntmps25
 go_wp2_with fail
 try rw [HW3.out]
 refine cN.mono ?_
 rintro e w4 ⟨b,G,a,c,fa,fe,rfl,hR,hG,hb,hF,hFb,hB4⟩
 have HX4 := (show WX w W3 s call fa fe b G (rdT s) w4 from ⟨HB3.out,Mv.ofBelow hB4,hb,hG,⟨a,c,hR⟩,hF,hFb⟩).hid
 have cE := cX _ _ _ _ _ _ _ hR
 clear cN hR hG hb hF hFb hB4
 go_wp2_with fail
 refine cE.mono ?_
 rintro e w5 ⟨rfl,hm⟩
 exact HX4.out.err61 HS3.out H0.out H1.out H2.out f hm _ rfl rfl
set_option maxRecDepth 100000 in
set_option maxHeartbeats 4000000 in
theorem wholeS_ok (call s : ByteArray) (hs : s.size ≤ 4194304) (w : World) (ht : Tab w) (n m : ByteArray) (p : Int) (ts : List Tk) (hE : gEnd ts = .ok ()) (cX : ∀ V b G fa fe a c,Rdr V b G (rdT s) fa fe 0 a c → Calls zG 26 #[zP b] V fun e w' => ∃ g cap,e = .returned (.agg #[.string n,.slice none 0 0,.slice none 0 0,.slice (some ⟨g,0,none⟩) 1 cap]) ∧ Row w' 87 3 (.slice (some ⟨g,0,none⟩) 1 cap) 1 (sF m p) ∧ V§ ≤ g ∧ (∃ a c,Rdr w' b G ts fa fe 0 a c) ∧ Mv V w' (fun k => k = b)) :
  Calls zG 25 #[.string call,.string s,.func (.func 26) #[] #[]] w fun e w' => ∃ g cap,e = .returned (.tuple #[.agg #[.string n,.slice none 0 0,.slice none 0 0,.slice (some ⟨g,0,none⟩) 1 cap],.nilIface]) ∧ Row w' 87 3 (.slice (some ⟨g,0,none⟩) 1 cap) 1 (sF m p) ∧ w§ ≤ g ∧ Below w§ w w' := by
 have hmf : ∀ (fn : Fn) (first cap : Array Value) (w : World),(Instr.makeFunc fn first cap).run Tryz.prog w = .ok (.func fn first cap) w := fun _ _ _ _ => rfl
 obtain ⟨W3,eW3⟩ : ∃ W,(((w.alloc (.cells #[.string call] 9)).alloc (.cells #[.string ⟨#[]⟩,.slice none 0 0,.slice none 0 0,.slice none 0 0] 43)).alloc (.cells #[.nilIface] 45)) = W := ⟨_,rfl⟩
 have HW3 : Hid ((((w.alloc (.cells #[.string call] 9)).alloc (.cells #[.string ⟨#[]⟩,.slice none 0 0,.slice none 0 0,.slice none 0 0] 43)).alloc (.cells #[.nilIface] 45)) = W3) := eW3
 have b0 := below_new w (.cells #[.string call] 9)
 have b1 := below_new (w.alloc (.cells #[.string call] 9)) (.cells #[.string ⟨#[]⟩,.slice none 0 0,.slice none 0 0,.slice none 0 0] 43)
 have b2 := below_new ((w.alloc (.cells #[.string call] 9)).alloc (.cells #[.string ⟨#[]⟩,.slice none 0 0,.slice none 0 0,.slice none 0 0] 43)) (.cells #[.nilIface] 45)
 have n0 := heap_new w (.cells #[.string call] 9)
 have n1 := heap_new (w.alloc (.cells #[.string call] 9)) (.cells #[.string ⟨#[]⟩,.slice none 0 0,.slice none 0 0,.slice none 0 0] 43)
 have n2 := heap_new ((w.alloc (.cells #[.string call] 9)).alloc (.cells #[.string ⟨#[]⟩,.slice none 0 0,.slice none 0 0,.slice none 0 0] 43)) (.cells #[.nilIface] 45)
 have s0 := size_alloc w (.cells #[.string call] 9)
 have s1 := size_alloc (w.alloc (.cells #[.string call] 9)) (.cells #[.string ⟨#[]⟩,.slice none 0 0,.slice none 0 0,.slice none 0 0] 43)
 have s2 := size_alloc ((w.alloc (.cells #[.string call] 9)).alloc (.cells #[.string ⟨#[]⟩,.slice none 0 0,.slice none 0 0,.slice none 0 0] 43)) (.cells #[.nilIface] 45)
 rw [eW3] at b2 n2 s2
 have HS3 : Hid (W3§ = w§ + 3) := by show _ = _; omega
 have HB3 : Hid (Below w§ w W3) := below2 (below2 b0 b1) b2
 have H0 : Hid (W3.heap[w§]? = some (.cells #[.string call] 9 (0,0))) := ((b2.block _ (by omega)).trans (b1.block _ (by omega))).trans n0
 have H1 : Hid (W3.heap[w§ + 1]? = some (.cells #[.string ⟨#[]⟩,.slice none 0 0,.slice none 0 0,.slice none 0 0] 43 (0,0))) := by rw [s0] at n1; exact (b2.block _ (by omega)).trans n1
 have H2 : Hid (W3.heap[w§ + 2]? = some (.cells #[.nilIface] 45 (0,0))) := by rw [s1,s0] at n2; exact n2
 have cN := new_any s hs W3 (ht.on HB3.out)
 clear b0 b1 b2 n0 n1 n2 s0 s1 s2 eW3 ht
 go_enter_defers Tryz.func25,Tryz.ntmps25
 go_wp2_with fail
 try rw [HW3.out]
 refine cN.mono ?_
 rintro e w4 ⟨b,G,a,c,fa,fe,rfl,hR,hG,hb,hF,hFb,hB4⟩
 have HX4 := (show WX w W3 s call fa fe b G (rdT s) w4 from ⟨HB3.out,Mv.ofBelow hB4,hb,hG,⟨a,c,hR⟩,hF,hFb⟩).hid
 have cE := cX _ _ _ _ _ _ _ hR
 clear cN hR hG hb hF hFb hB4
 go_wp2_with fail
 refine cE.mono ?_
 rintro e w5 ⟨g,cap,rfl,hw,hg,hr,hm⟩
 have HX5 := (HX4.out.mv hm hr).hid
 have HG : Hid (Row w5 87 3 (.slice (some ⟨g,0,none⟩) 1 cap) 1 (sF m p) ∧ w§ + 3 ≤ g ∧ g < w5§) := ⟨hw,by have h1 := HX4.out.M.size; have h2 := HS3.out; omega,hw.lt g rfl⟩
 obtain ⟨a5,c5,h5⟩ := HX5.out.R
 have cD := end_any (h5.on (below_new w5 (.cells #[.string n,.slice none 0 0,.slice none 0 0,.slice (some ⟨g,0,none⟩) 1 cap] 43)))
 rw [hE] at cD
 clear cE hw hg hr hm HX4 h5
 go_wp2_with fail
 refine cD.mono ?_
 rintro e w7 ⟨he,hb7⟩
 obtain rfl := he
 have HB7 : Hid (Below w5§ w5 w7) := below2 (below_new _ _) hb7
 have hA7 : w7.heap[w5§]? = some (.cells #[.string n,.slice none 0 0,.slice none 0 0,.slice (some ⟨g,0,none⟩) 1 cap] 43 (0,0)) := (hb7.block _ (by rw [size_alloc]; omega)).trans (heap_new _ _)
 have hlow : ∀ k,k < w§ + 3 → w7.heap[k]? = W3.heap[k]? := fun k hk => (HB7.out.block k (Nat.lt_of_lt_of_le (by have := HS3.out; omega) HX5.out.M.size)).trans (HX5.out.low (by have := HS3.out; omega))
 have g1 := (hlow (w§ + 1) (by omega)).trans H1.out
 have g2 := (hlow (w§ + 2) (by omega)).trans H2.out
 obtain ⟨Y,eY,hY1,hY2,hY3,hY4⟩ := fin4_43 g1 (.string n) (.slice none 0 0) (.slice none 0 0) (.slice (some ⟨g,0,none⟩) 1 cap)
 have hY2' : Y.heap[w§ + 2]? = some (.cells #[.nilIface] 45 (0,0)) := (hY3 _ (by omega)).trans g2
 have hl7 : w§ + 3 ≤ w7§ := by have := HX5.out.M.size; have := HB7.out.size; have := HS3.out; omega
 have hl5 : w§ + 3 ≤ w5§ := by have := HX5.out.M.size; have := HS3.out; omega
 have mY : Mv w Y (fun _ => False) := hY4 _ _ ((((Mv.ofBelow HX5.out.B).trans HX5.out.M (fun k e => .inr (by have := HX5.out.hb; have := HS3.out; omega)))).trans (Mv.ofBelow HB7.out) (fun k e => .inl e)) (by omega)
 have HEY : Hid (_ = Y) := eY
 have HY : Hid (Y.heap[w§ + 1]? = some (.cells #[.string n,.slice none 0 0,.slice none 0 0,.slice (some ⟨g,0,none⟩) 1 cap] 43 (0,0)) ∧ Y.heap[w§ + 2]? = some (.cells #[.nilIface] 45 (0,0)) ∧ Y§ = w7§ ∧ (∀ k,k ≠ w§ + 1 → Y.heap[k]? = w7.heap[k]?) ∧ Mv w Y (fun _ => False) ∧ w§ + 3 ≤ w5§ ∧ w5§ ≤ w7§) := ⟨hY1,hY2',hY2,hY3,mY,hl5,HB7.out.size⟩
 have z0 : w7.cell? ⟨w§ + 1,0,none⟩ = some (.string ⟨#[]⟩) := cell_of g1 0
 have q0 : w7.frozen? ⟨w§ + 1,0,none⟩ = false := frozen_of g1 0
 have y0 : w7.cell? ⟨w5§,0,none⟩ = some (.string n) := cell_of hA7 0
 have z1 : w7.cell? ⟨w§ + 1,1,none⟩ = some (.slice none 0 0) := cell_of g1 1
 have q1 : w7.frozen? ⟨w§ + 1,1,none⟩ = false := frozen_of g1 1
 have y1 : w7.cell? ⟨w5§,1,none⟩ = some (.slice none 0 0) := cell_of hA7 1
 have z2 : w7.cell? ⟨w§ + 1,2,none⟩ = some (.slice none 0 0) := cell_of g1 2
 have q2 : w7.frozen? ⟨w§ + 1,2,none⟩ = false := frozen_of g1 2
 have y2 : w7.cell? ⟨w5§,2,none⟩ = some (.slice none 0 0) := cell_of hA7 2
 have z3 : w7.cell? ⟨w§ + 1,3,none⟩ = some (.slice none 0 0) := cell_of g1 3
 have q3 : w7.frozen? ⟨w§ + 1,3,none⟩ = false := frozen_of g1 3
 have y3 : w7.cell? ⟨w5§,3,none⟩ = some (.slice (some ⟨g,0,none⟩) 1 cap) := cell_of hA7 3
 have v0 : w7.cell? ⟨w§ + 1 + 1,0,none⟩ = some .nilIface := cell_of g2 0
 have v1 : w7.frozen? ⟨w§ + 1 + 1,0,none⟩ = false := frozen_of g2 0
 have hne1 : w§ + 1 ≠ w§ + 1 + 1 := by omega
 have hne2 : w§ + 1 + 1 ≠ w§ + 1 := by omega
 clear cD hb7 hA7 hlow g1 g2 eY hY1 hY2 hY3 hY4 hY2' hl7 hl5 mY
 go_wp2_with fail
 rw [HEY.out]
 refine leaves_cons (f := 61) (args := #[zP w§,.pointer (some ⟨w§ + 2,0,none⟩)]) (by simp) (by simp [go_sem]) ?_
 refine (catch61_i ⟨w§,0,none⟩ ⟨w§ + 2,0,none⟩ _).mono ?_
 rintro e u' Z ⟨rfl,rfl,eZ⟩
 obtain ⟨k1,k2',k3,k4,k5,k6,k7⟩ := HY.out
 have b9 := below_new (Y.setCell ⟨w§ + 2,0,none⟩ .nilIface) (.cells #[zI 0,.nilIface] 143)
 have s9 : (Y.setCell ⟨w§ + 2,0,none⟩ .nilIface)§ = Y§ := by simp [World.setCell]
 have oldZ : ∀ k,k < Y§ → k ≠ w§ + 2 → Z.heap[k]? = Y.heap[k]? := fun k hk hn => by
  rw [eZ]
  exact (b9.block k (by omega)).trans (Below.heap_setCell _ _ _ _ hn)
 have z1 := (oldZ _ (by omega) (by omega)).trans k1
 have z2 : Z.heap[w§ + 2]? = some (.cells #[.nilIface] 45 (0,0)) := by
  rw [eZ]
  exact (b9.block _ (by omega)).trans (heap_set (j := 0) _ k2')
 have mZ : Mv w Z (fun _ => False) := by
  rw [eZ]
  exact (k5.setCell (a := ⟨w§ + 2,0,none⟩) (.inr (by show w§ ≤ w§ + 2; omega)) _).alloc _
 have rZ : Row Z 87 3 (.slice (some ⟨g,0,none⟩) 1 cap) 1 (sF m p) := HG.out.1.of_block (fun k hk => by
  simp [Value.ownBlock] at hk; subst hk
  obtain ⟨_,q1,q2⟩ := HG.out
  exact ((oldZ _ (by omega) (by omega)).trans (k4 _ (by omega))).trans (HB7.out.block _ q2))
 have c0 : Z.cell? ⟨w§ + 1,0,none⟩ = some (.string n) := cell_of z1 0
 have c1 : Z.cell? ⟨w§ + 1,1,none⟩ = some (.slice none 0 0) := cell_of z1 1
 have c2 : Z.cell? ⟨w§ + 1,2,none⟩ = some (.slice none 0 0) := cell_of z1 2
 have c3 : Z.cell? ⟨w§ + 1,3,none⟩ = some (.slice (some ⟨g,0,none⟩) 1 cap) := cell_of z1 3
 have zz : Z.cell? ⟨w§ + 1 + 1,0,none⟩ = some .nilIface := cell_of z2 0
 clear eZ oldZ b9 s9
 refine ⟨.tuple #[.agg #[.string n,.slice none 0 0,.slice none 0 0,.slice (some ⟨g,0,none⟩) 1 cap],.nilIface],?_,g,cap,rfl,rZ,by have := HG.out.2.1; omega,mZ.toBelow⟩
 clear rZ mZ
 simp [results,Tryz.results25,go_sem,zz,c0,c1,c2,c3]
set_option maxRecDepth 100000 in
set_option maxHeartbeats 4000000 in
theorem stratS_err (s : ByteArray) (hs : s.size ≤ 4194304) (w : World) (ht : Tab w) (f : Ft) (cX : ∀ V b G fa fe a c,Rdr V b G (rdT s) fa fe 0 a c → Calls zG 26 #[zP b] V fun e w' => e = pan (ftV fa fe f) ∧ Mv V w' (fun k => k = b)) :
  Calls zG 10 #[.string s] w (OutE s ZM w f) := by
 have b0 := below_new w (.cells #[.string ⟨#[]⟩,.slice none 0 0,.slice none 0 0,.slice none 0 0] 43)
 have n0 := heap_new w (.cells #[.string ⟨#[]⟩,.slice none 0 0,.slice none 0 0,.slice none 0 0] 43)
 have s0 := size_alloc w (.cells #[.string ⟨#[]⟩,.slice none 0 0,.slice none 0 0,.slice none 0 0] 43)
 have cW := wholeS_err ZM s hs _ (ht.on b0) f cX
 have H0 : Hid (Below w§ w (w.alloc (.cells #[.string ⟨#[]⟩,.slice none 0 0,.slice none 0 0,.slice none 0 0] 43)) ∧ (w.alloc (.cells #[.string ⟨#[]⟩,.slice none 0 0,.slice none 0 0,.slice none 0 0] 43)).heap[w§]? = some (.cells #[.string ⟨#[]⟩,.slice none 0 0,.slice none 0 0,.slice none 0 0] 43 (0,0)) ∧ (w.alloc (.cells #[.string ⟨#[]⟩,.slice none 0 0,.slice none 0 0,.slice none 0 0] 43))§ = w§ + 1) := ⟨b0,n0,s0⟩
 clear b0 n0 s0 ht
 go_enter Tryz.func10,Tryz.ntmps10
 go_wp2_with fail
 refine cW.mono ?_
 rintro e w1 ⟨⟨F,rfl,hE,hF⟩,hb⟩
 obtain ⟨g1,g2,g3⟩ := H0.out
 have hZ := (hb.block _ (by omega)).trans g2
 obtain ⟨Y,eY,hY1,hY2,hY3,hY4⟩ := fin4_43 hZ (.string ⟨#[]⟩) (.slice none 0 0) (.slice none 0 0) (.slice none 0 0)
 have HY : Hid (Y.heap[w§]? = some (.cells #[.string ⟨#[]⟩,.slice none 0 0,.slice none 0 0,.slice none 0 0] 43 (0,0)) ∧ ErrAt Y s ZM f F ∧ w§ ≤ F ∧ Below w§ w Y) := ⟨hY1,hE.mv43 hZ hY3,by omega,(hY4 _ (fun _ => False) (Mv.ofBelow (below2 g1 hb)) (Nat.le_refl _)).toBelow⟩
 have HEY : Hid (_ = Y) := eY
 have z0 : w1.cell? ⟨w§,0,none⟩ = some (.string ⟨#[]⟩) := cell_of hZ 0
 have q0 : w1.frozen? ⟨w§,0,none⟩ = false := frozen_of hZ 0
 have z1 : w1.cell? ⟨w§,1,none⟩ = some (.slice none 0 0) := cell_of hZ 1
 have q1 : w1.frozen? ⟨w§,1,none⟩ = false := frozen_of hZ 1
 have z2 : w1.cell? ⟨w§,2,none⟩ = some (.slice none 0 0) := cell_of hZ 2
 have q2 : w1.frozen? ⟨w§,2,none⟩ = false := frozen_of hZ 2
 have z3 : w1.cell? ⟨w§,3,none⟩ = some (.slice none 0 0) := cell_of hZ 3
 have q3 : w1.frozen? ⟨w§,3,none⟩ = false := frozen_of hZ 3
 clear cW hE hF hb g1 g2 g3 hZ eY hY1 hY2 hY3 hY4 H0
 go_wp2_with fail
 rw [HEY.out]
 exact bodyPost_ret (results_two (p := 2) (u := 3) (ty := 43) rfl _ _ w§ 43 #[.string ⟨#[]⟩,.slice none 0 0,.slice none 0 0,.slice none 0 0] (0,0) _ rfl HY.out.1 Tryz.underlying43 rfl zK) rfl ⟨⟨F,rfl,HY.out.2.1,HY.out.2.2.1⟩,HY.out.2.2.2⟩
set_option maxRecDepth 100000 in
set_option maxHeartbeats 4000000 in
theorem stratS_ok (s : ByteArray) (hs : s.size ≤ 4194304) (w : World) (ht : Tab w) (n m : ByteArray) (p : Int) (ts : List Tk) (hE : gEnd ts = .ok ()) (cX : ∀ V b G fa fe a c,Rdr V b G (rdT s) fa fe 0 a c → Calls zG 26 #[zP b] V fun e w' => ∃ g cap,e = .returned (.agg #[.string n,.slice none 0 0,.slice none 0 0,.slice (some ⟨g,0,none⟩) 1 cap]) ∧ Row w' 87 3 (.slice (some ⟨g,0,none⟩) 1 cap) 1 (sF m p) ∧ V§ ≤ g ∧ (∃ a c,Rdr w' b G ts fa fe 0 a c) ∧ Mv V w' (fun k => k = b)) :
  Calls zG 10 #[.string s] w fun e w' => ∃ g cap,e = .returned (.tuple #[.agg #[.string n,.slice none 0 0,.slice none 0 0,.slice (some ⟨g,0,none⟩) 1 cap],.nilIface]) ∧ Row w' 87 3 (.slice (some ⟨g,0,none⟩) 1 cap) 1 (sF m p) ∧ w§ ≤ g ∧ Below w§ w w' := by
 have b0 := below_new w (.cells #[.string ⟨#[]⟩,.slice none 0 0,.slice none 0 0,.slice none 0 0] 43)
 have n0 := heap_new w (.cells #[.string ⟨#[]⟩,.slice none 0 0,.slice none 0 0,.slice none 0 0] 43)
 have s0 := size_alloc w (.cells #[.string ⟨#[]⟩,.slice none 0 0,.slice none 0 0,.slice none 0 0] 43)
 have cW := wholeS_ok ZM s hs _ (ht.on b0) n m p ts hE cX
 have H0 : Hid (Below w§ w (w.alloc (.cells #[.string ⟨#[]⟩,.slice none 0 0,.slice none 0 0,.slice none 0 0] 43)) ∧ (w.alloc (.cells #[.string ⟨#[]⟩,.slice none 0 0,.slice none 0 0,.slice none 0 0] 43)).heap[w§]? = some (.cells #[.string ⟨#[]⟩,.slice none 0 0,.slice none 0 0,.slice none 0 0] 43 (0,0)) ∧ (w.alloc (.cells #[.string ⟨#[]⟩,.slice none 0 0,.slice none 0 0,.slice none 0 0] 43))§ = w§ + 1) := ⟨b0,n0,s0⟩
 clear b0 n0 s0 ht
 go_enter Tryz.func10,Tryz.ntmps10
 go_wp2_with fail
 refine cW.mono ?_
 rintro e w1 ⟨g,cap,rfl,hw,hg,hb⟩
 obtain ⟨g1,g2,g3⟩ := H0.out
 have hZ := (hb.block _ (by omega)).trans g2
 obtain ⟨Y,eY,hY1,hY2,hY3,hY4⟩ := fin4_43 hZ (.string n) (.slice none 0 0) (.slice none 0 0) (.slice (some ⟨g,0,none⟩) 1 cap)
 have HY : Hid (Y.heap[w§]? = some (.cells #[.string n,.slice none 0 0,.slice none 0 0,.slice (some ⟨g,0,none⟩) 1 cap] 43 (0,0)) ∧ Row Y 87 3 (.slice (some ⟨g,0,none⟩) 1 cap) 1 (sF m p) ∧ w§ ≤ g ∧ Below w§ w Y) := ⟨hY1,hw.of_block (fun k hk => by simp [Value.ownBlock] at hk; subst hk; exact hY3 _ (by omega)),by omega,(hY4 _ (fun _ => False) (Mv.ofBelow (below2 g1 hb)) (Nat.le_refl _)).toBelow⟩
 have HEY : Hid (_ = Y) := eY
 have z0 : w1.cell? ⟨w§,0,none⟩ = some (.string ⟨#[]⟩) := cell_of hZ 0
 have q0 : w1.frozen? ⟨w§,0,none⟩ = false := frozen_of hZ 0
 have z1 : w1.cell? ⟨w§,1,none⟩ = some (.slice none 0 0) := cell_of hZ 1
 have q1 : w1.frozen? ⟨w§,1,none⟩ = false := frozen_of hZ 1
 have z2 : w1.cell? ⟨w§,2,none⟩ = some (.slice none 0 0) := cell_of hZ 2
 have q2 : w1.frozen? ⟨w§,2,none⟩ = false := frozen_of hZ 2
 have z3 : w1.cell? ⟨w§,3,none⟩ = some (.slice none 0 0) := cell_of hZ 3
 have q3 : w1.frozen? ⟨w§,3,none⟩ = false := frozen_of hZ 3
 clear cW hw hg hb g1 g2 g3 hZ eY hY1 hY2 hY3 hY4 H0
 go_wp2_with fail
 rw [HEY.out]
 exact bodyPost_ret (results_two (p := 2) (u := 3) (ty := 43) rfl _ _ w§ 43 #[.string n,.slice none 0 0,.slice none 0 0,.slice (some ⟨g,0,none⟩) 1 cap] (0,0) _ rfl HY.out.1 Tryz.underlying43 rfl zK) rfl ⟨g,cap,rfl,HY.out.2⟩
end Go.Proofs.YtkfabnchhjfjjaaGreatDoor
