import Derived.Test.YteedmmljahgpjaaGreatDoorA0
import Derived.Test.YteedmmljahgpjaaGreatDoorA25
import Derived.Test.YteedmmljahgpjaaGreatDoorA22
namespace Go.Proofs.YteedmmljahgpjaaGreatDoor
set_option maxRecDepth 100000
set_option maxHeartbeats 8000000
open Go.RowKit
set_option linter.unusedVariables false
set_option linter.unusedSimpArgs false
theorem RdS.set {w V : World} {R : Nat} {s : ByteArray} {st : Option Int} {X t : Nat} {cs : Array Value} {bs : List Bx} (h : RdS w V R s st ((X, t, cs) :: bs)) (j : Nat) (v : Value) : RdS w (V.setCell ⟨X, j, none⟩ v) R s st ((X, t, cs.setIfInBounds j v) :: bs) := by
 obtain ⟨p, b, hB, k⟩ := h.bs
 exact RdS.mk (hB.swap.set j v).swap k
theorem RdS.row {w V : World} {R : Nat} {s : ByteArray} {st : Option Int} {X t : Nat} {cs : Array Value} {bs : List Bx} (h : RdS w V R s st ((X, t, cs) :: bs)) (ds : Array Value) : RdS w (V.setRow X ds) R s st ((X, t, ds) :: bs) := by
 obtain ⟨p, b, hB, k⟩ := h.bs
 exact RdS.mk (hB.swap.row ds).swap k
theorem RdS.heap {w V : World} {R : Nat} {s : ByteArray} {st : Option Int} {x : Bx} {bs : List Bx} (h : RdS w V R s st bs) (hx : x ∈ bs) : V.heap[x.1]? = some (.cells x.2.2 x.2.1 (0, 0)) := by
 obtain ⟨p, b, hB, k⟩ := h.bs
 exact (hB.K x (List.mem_cons_of_mem _ hx)).1
theorem RdS.swap {w V : World} {R : Nat} {s : ByteArray} {st : Option Int} {x y : Bx} {bs : List Bx} (h : RdS w V R s st (x :: y :: bs)) : RdS w V R s st (y :: x :: bs) := h.perm (List.Perm.swap _ _ _)
def spsS (l : List UInt8) : List Bool → Int → Option Int → List Sp × Int × Option Int
 | [], f, st => ([], f, st)
 | b :: bs, f, st => if b then (⟨f, f + (numS 4096 l st).1⟩ :: (spsS l bs (f + (numS 4096 l st).1) (numS 4096 l st).2).1, (spsS l bs (f + (numS 4096 l st).1) (numS 4096 l st).2).2) else (sp0 :: (spsS l bs f st).1, (spsS l bs f st).2)
def rowS (l : List UInt8) (f : Int) (st : Option Int) : RowM × Int × Option Int :=
 (Qr (numS 6 l st).1 (numS 5 l (numS 6 l st).2).1 (numS 1000 l (numS 5 l (numS 6 l st).2).2).1 (spsS l (prts (Qn (numS 6 l st).1 (numS 5 l (numS 6 l st).2).1)) f (numS 1000 l (numS 5 l (numS 6 l st).2).2).2).1, (spsS l (prts (Qn (numS 6 l st).1 (numS 5 l (numS 6 l st).2).1)) f (numS 1000 l (numS 5 l (numS 6 l st).2).2).2).2)
def OutRw (w : World) (R : Nat) (s : ByteArray) (bs : List Bx) (r : RowM × Int × Option Int) (e : Ending) (V' : World) : Prop := e = .returned (.tuple #[.agg r.1.vals, zI r.2.1]) ∧ RdS w V' R s r.2.2 bs
theorem rrow_a {w V : World} {R : Nat} {s : ByteArray} {st : Option Int} {bs : List Bx} (h : RdS w V R s st bs) (f : Int) (hf : 0 ≤ f ∧ f ≤ 900000000000) (hs : s.size ≤ 1099511627776) (hP : Qn (numS 6 s.data.toList st).1 (numS 5 s.data.toList (numS 6 s.data.toList st).2).1 = ⟨true, true, true, false⟩) :
  Calls zG 89 #[.pointer (some ⟨R, 0, none⟩), zI f] V (OutRw w R s bs (rowS s.data.toList f st)) := by
 have HSZ : Hid (s.size ≤ 1099511627776) := hs
 have hr := (rfl : rowS s.data.toList f st = rowS s.data.toList f st)
 conv at hr => rhs; unfold rowS; rw [hP]
 simp only [prts, spsS, Bool.false_eq_true, if_true, if_false] at hr
 obtain ⟨rr, err⟩ : ∃ r, rowS s.data.toList f st = r := ⟨_, rfl⟩
 rw [err] at hr ⊢
 obtain ⟨k, ek⟩ : ∃ q, (numS 6 s.data.toList st).1 = q := ⟨_, rfl⟩
 obtain ⟨st1, e1⟩ : ∃ q, (numS 6 s.data.toList st).2 = q := ⟨_, rfl⟩
 have hk := Qk 6 (by decide) s.data.toList st
 rw [ek] at hk
 obtain ⟨o, eo⟩ : ∃ q, (numS 5 s.data.toList st1).1 = q := ⟨_, rfl⟩
 obtain ⟨st2, e2⟩ : ∃ q, (numS 5 s.data.toList st1).2 = q := ⟨_, rfl⟩
 have ho := Qk 5 (by decide) s.data.toList st1
 rw [eo] at ho
 obtain ⟨i, ei⟩ : ∃ q, (numS 1000 s.data.toList st2).1 = q := ⟨_, rfl⟩
 obtain ⟨st3, e3⟩ : ∃ q, (numS 1000 s.data.toList st2).2 = q := ⟨_, rfl⟩
 have hi := Qk 1000 (by decide) s.data.toList st2
 rw [ei] at hi
 rw [ek, e1, eo] at hP
 simp only [ek, e1, eo, e2, ei, e3] at hr
 obtain ⟨n1, en1⟩ : ∃ q, (numS 4096 s.data.toList st3).1 = q := ⟨_, rfl⟩
 obtain ⟨su1, es1⟩ : ∃ q, (numS 4096 s.data.toList st3).2 = q := ⟨_, rfl⟩
 have hn1 := Qk 4096 (by decide) s.data.toList st3
 rw [en1] at hn1
 obtain ⟨f1, ef1⟩ : ∃ q, f + n1 = q := ⟨_, rfl⟩
 simp only [en1, es1, ef1] at hr
 have hf1 : 0 ≤ f1 ∧ f1 ≤ 900000004096 := by omega
 obtain ⟨n2, en2⟩ : ∃ q, (numS 4096 s.data.toList su1).1 = q := ⟨_, rfl⟩
 obtain ⟨su2, es2⟩ : ∃ q, (numS 4096 s.data.toList su1).2 = q := ⟨_, rfl⟩
 have hn2 := Qk 4096 (by decide) s.data.toList su1
 rw [en2] at hn2
 obtain ⟨f2, ef2⟩ : ∃ q, f1 + n2 = q := ⟨_, rfl⟩
 simp only [en2, es2, ef2] at hr
 have hf2 : 0 ≤ f2 ∧ f2 ≤ 900000008192 := by omega
 obtain ⟨n3, en3⟩ : ∃ q, (numS 4096 s.data.toList su2).1 = q := ⟨_, rfl⟩
 obtain ⟨su3, es3⟩ : ∃ q, (numS 4096 s.data.toList su2).2 = q := ⟨_, rfl⟩
 have hn3 := Qk 4096 (by decide) s.data.toList su2
 rw [en3] at hn3
 obtain ⟨f3, ef3⟩ : ∃ q, f2 + n3 = q := ⟨_, rfl⟩
 simp only [en3, es3, ef3] at hr
 have hf3 : 0 ≤ f3 ∧ f3 ≤ 900000012288 := by omega
 have HR : Hid (rr = (Qr k o i [⟨f, f1⟩, ⟨f1, f2⟩, ⟨f2, f3⟩, sp0], f3, su3)) := hr
 have HC1 : Hid (∀ v bs, RdS w v R s st bs → Calls zG 46 #[.pointer (some ⟨R, 0, none⟩), .int .u64 6] v fun e V' => e = .returned (zI k) ∧ RdS w V' R s st1 bs) := fun v bs hv => by have := Q7 hv 6 (by decide) HSZ.out; rw [ek, e1] at this; exact this
 have HC2 : Hid (∀ v bs, RdS w v R s st1 bs → Calls zG 46 #[.pointer (some ⟨R, 0, none⟩), .int .u64 5] v fun e V' => e = .returned (zI o) ∧ RdS w V' R s st2 bs) := fun v bs hv => by have := Q7 hv 5 (by decide) HSZ.out; rw [eo, e2] at this; exact this
 have HC3 : Hid (∀ v bs, RdS w v R s st2 bs → Calls zG 46 #[.pointer (some ⟨R, 0, none⟩), .int .u64 1000] v fun e V' => e = .returned (zI i) ∧ RdS w V' R s st3 bs) := fun v bs hv => by have := Q7 hv 1000 (by decide) HSZ.out; rw [ei, e3] at this; exact this
 have HS1 : Hid (∀ v bs, RdS w v R s st3 bs → Calls zG 88 #[.pointer (some ⟨R, 0, none⟩), zI f] v fun e V' => e = .returned (.agg #[zI f, zI f1]) ∧ RdS w V' R s su1 bs) := fun v bs hv => by have := Ka hv f (by omega) HSZ.out; rw [en1, es1, ef1] at this; exact this
 have HS2 : Hid (∀ v bs, RdS w v R s su1 bs → Calls zG 88 #[.pointer (some ⟨R, 0, none⟩), zI f1] v fun e V' => e = .returned (.agg #[zI f1, zI f2]) ∧ RdS w V' R s su2 bs) := fun v bs hv => by have := Ka hv f1 (by omega) HSZ.out; rw [en2, es2, ef2] at this; exact this
 have HS3 : Hid (∀ v bs, RdS w v R s su2 bs → Calls zG 88 #[.pointer (some ⟨R, 0, none⟩), zI f2] v fun e V' => e = .returned (.agg #[zI f2, zI f3]) ∧ RdS w V' R s su3 bs) := fun v bs hv => by have := Ka hv f2 (by omega) HSZ.out; rw [en3, es3, ef3] at this; exact this
 have hq0 := Hn V (.cells #[zU 0, zU 0, zI 0, zI 0, zI 0, zI 0, zI 0, zI 0, zI 0, zI 0, zI 0] 85)
 have hR0 := h.new (Bn V (.cells #[zU 0, zU 0, zI 0, zI 0, zI 0, zI 0, zI 0, zI 0, zI 0, zI 0, zI 0] 85)) (Nat.le_refl _) hq0
 have hq1 := Hn (V.alloc (.cells #[zU 0, zU 0, zI 0, zI 0, zI 0, zI 0, zI 0, zI 0, zI 0, zI 0, zI 0] 85)) (.cells #[zU 0, zU 0, zI 0, zI 0, zI 0, zI 0, zI 0, zI 0, zI 0, zI 0, zI 0] 85)
 have hR1 := hR0.new (Bn (V.alloc (.cells #[zU 0, zU 0, zI 0, zI 0, zI 0, zI 0, zI 0, zI 0, zI 0, zI 0, zI 0] 85)) (.cells #[zU 0, zU 0, zI 0, zI 0, zI 0, zI 0, zI 0, zI 0, zI 0, zI 0, zI 0] 85)) (Nat.le_refl _) hq1
 rw [Sa] at hR1
 have hR2 := hR1.row #[zU 0, zU 0, zI 0, zI 0, zI 0, zI 0, zI 0, zI 0, zI 0, zI 0, zI 0]
 have HH1 : Hid (((V.alloc (.cells #[zU 0, zU 0, zI 0, zI 0, zI 0, zI 0, zI 0, zI 0, zI 0, zI 0, zI 0] 85)).alloc (.cells #[zU 0, zU 0, zI 0, zI 0, zI 0, zI 0, zI 0, zI 0, zI 0, zI 0, zI 0] 85)).heap[V§ + 1]? = some (.cells #[zU 0, zU 0, zI 0, zI 0, zI 0, zI 0, zI 0, zI 0, zI 0, zI 0, zI 0] 85 (0, 0))) := hR1.heap (List.mem_cons_self ..)
 have HR2 : Hid (RdS w (((V.alloc (.cells #[zU 0, zU 0, zI 0, zI 0, zI 0, zI 0, zI 0, zI 0, zI 0, zI 0, zI 0] 85)).alloc (.cells #[zU 0, zU 0, zI 0, zI 0, zI 0, zI 0, zI 0, zI 0, zI 0, zI 0, zI 0] 85)).setRow (V§ + 1) #[zU 0, zU 0, zI 0, zI 0, zI 0, zI 0, zI 0, zI 0, zI 0, zI 0, zI 0]) R s st ((V§ + 1, 85, #[zU 0, zU 0, zI 0, zI 0, zI 0, zI 0, zI 0, zI 0, zI 0, zI 0, zI 0]) :: (V§, 85, #[zU 0, zU 0, zI 0, zI 0, zI 0, zI 0, zI 0, zI 0, zI 0, zI 0, zI 0]) :: bs)) := hR2
 obtain ⟨X, eX⟩ : ∃ X, V§ + 1 = X := ⟨_, rfl⟩
 obtain ⟨B, eB⟩ : ∃ B, V§ = B := ⟨_, rfl⟩
 have hs0 : (V.alloc (.cells #[zU 0, zU 0, zI 0, zI 0, zI 0, zI 0, zI 0, zI 0, zI 0, zI 0, zI 0] 85))§ = X := by rw [Sa]; exact eX
 have HXX : Hid (V§ + 1 = X) := eX
 have HBB : Hid (V§ = B) := eB
 clear h hs hr err hq0 hR0 hq1 hR1 hR2 eX eB hs0 en1 es1 ef1 hn1 en2 es2 ef2 hn2 en3 es3 ef3 hn3 ek e1 eo e2 ei e3
 have k1 : 0 ≤ k ∧ k ≤ 255 := by omega
 have o1 : 0 ≤ o ∧ o ≤ 255 := by omega
 clear hk ho hi hf1 hf2 hf3 hf
 obtain ⟨k2, k3⟩ := k1
 obtain ⟨o2, o3⟩ := o1
 have HKO : Hid (0 ≤ k ∧ k ≤ 255 ∧ 0 ≤ o ∧ o ≤ 255) := ⟨k2, k3, o2, o3⟩
 clear k2 k3 o2 o3
 go_enter Tryz.func89, Tryz.ntmps89
 go_upto_region 2 with (refine wpList_store_row rfl 85 (.tmp 6) (.tmp 8) rfl (V§ + 1) #[zU 0, zU 0, zI 0, zI 0, zI 0, zI 0, zI 0, zI 0, zI 0, zI 0, zI 0] rfl rfl 85 #[zU 0, zU 0, zI 0, zI 0, zI 0, zI 0, zI 0, zI 0, zI 0, zI 0, zI 0] HH1.out Qi rfl (QQ ⟨0, 0, 0, sp0, sp0, sp0, sp0⟩) ?_)
 generalize World.setRow _ _ _ = V2 at HR2 ⊢
 rw [HXX.out] at HR2 ⊢
 rw [HBB.out] at HR2 ⊢
 clear HH1 HXX HBB
 go_wp2_with fail
 refine (HC1.out _ _ HR2.out).mono ?_
 rintro e V3 ⟨rfl, hx⟩
 have hX := hx.heap (List.mem_cons_self ..)
 have x0 : V3.cell? ⟨X, 0, none⟩ = some (zU 0) := Co hX 0
 have y0 : V3.frozen? ⟨X, 0, none⟩ = false := Fo hX 0
 have HN0 : Hid (RdS w (V3.setCell ⟨X, 0, none⟩ (zU k)) R s st1 ((X, 85, #[zU k, zU 0, zI 0, zI 0, zI 0, zI 0, zI 0, zI 0, zI 0, zI 0, zI 0]) :: (B, 85, #[zU 0, zU 0, zI 0, zI 0, zI 0, zI 0, zI 0, zI 0, zI 0, zI 0, zI 0]) :: bs)) := hx.set 0 (zU k)
 clear hx hX HR2
 have b1 := HKO.out.1
 have b2 := HKO.out.2.1
 go_upto_region 3 with fail
 generalize World.setCell V3 _ _ = V3x at HN0 ⊢
 clear x0 y0 b1 b2
 go_wp2_with fail
 refine (HC2.out _ _ HN0.out).mono ?_
 rintro e V4 ⟨rfl, hx⟩
 have hX := hx.heap (List.mem_cons_self ..)
 have x1 : V4.cell? ⟨X, 1, none⟩ = some (zU 0) := Co hX 1
 have y1 : V4.frozen? ⟨X, 1, none⟩ = false := Fo hX 1
 have HN1 : Hid (RdS w (V4.setCell ⟨X, 1, none⟩ (zU o)) R s st2 ((X, 85, #[zU k, zU o, zI 0, zI 0, zI 0, zI 0, zI 0, zI 0, zI 0, zI 0, zI 0]) :: (B, 85, #[zU 0, zU 0, zI 0, zI 0, zI 0, zI 0, zI 0, zI 0, zI 0, zI 0, zI 0]) :: bs)) := hx.set 1 (zU o)
 clear hx hX HN0
 have b1 := HKO.out.2.2.1
 have b2 := HKO.out.2.2.2
 go_upto_region 4 with fail
 generalize World.setCell V4 _ _ = V4x at HN1 ⊢
 clear x1 y1 b1 b2
 go_wp2_with fail
 refine (HC3.out _ _ HN1.out).mono ?_
 rintro e V5 ⟨rfl, hx⟩
 have hX := hx.heap (List.mem_cons_self ..)
 have x2 : V5.cell? ⟨X, 2, none⟩ = some (zI 0) := Co hX 2
 have y2 : V5.frozen? ⟨X, 2, none⟩ = false := Fo hX 2
 have HN2 : Hid (RdS w (V5.setCell ⟨X, 2, none⟩ (zI i)) R s st3 ((X, 85, #[zU k, zU o, zI i, zI 0, zI 0, zI 0, zI 0, zI 0, zI 0, zI 0, zI 0]) :: (B, 85, #[zU 0, zU 0, zI 0, zI 0, zI 0, zI 0, zI 0, zI 0, zI 0, zI 0, zI 0]) :: bs)) := hx.set 2 (zI i)
 clear hx hX HN1
 go_upto_region 5 with fail
 generalize World.setCell V5 _ _ = V5x at HN2 ⊢
 clear x2 y2
 have hX := HN2.out.heap (List.mem_cons_self ..)
 have HX : Hid (V5x.heap[X]? = some (.cells (RowM.vals ⟨k, o, i, sp0, sp0, sp0, sp0⟩) 85 (0, 0))) := hX
 have cH := JK ⟨k, o, i, sp0, sp0, sp0, sp0⟩ V5x
 simp only [hP] at cH
 clear hX
 go_wp2_with (refine wpList_load_row rfl 85 (.tmp 6) rfl X rfl 85 (RowM.vals ⟨k, o, i, sp0, sp0, sp0, sp0⟩) (0, 0) _ HX.out Tryz.underlying85 rfl Qi ?_)
 refine cH.mono ?_
 rintro e W6 ⟨H, rfl, hH, hHl, hbH⟩
 have HR6 : Hid (RdS w W6 R s st3 ((H, 4, (P4.vals ⟨true, true, true, false⟩)) :: (X, 85, #[zU k, zU o, zI i, zI 0, zI 0, zI 0, zI 0, zI 0, zI 0, zI 0, zI 0]) :: (B, 85, #[zU 0, zU 0, zI 0, zI 0, zI 0, zI 0, zI 0, zI 0, zI 0, zI 0, zI 0]) :: bs)) := HN2.out.new hbH hHl hH
 clear cH hH hHl hbH HX HN2
 have h0 : W6.cell? ⟨H, 0, none⟩ = some (.bool true) := Co (HR6.out.heap (List.mem_cons_self ..)) 0
 go_wp2_with fail
 refine (HS1.out _ _ HR6.out).mono ?_
 rintro e U1 ⟨rfl, hx⟩
 have hX := hx.heap (List.mem_cons_of_mem _ (List.mem_cons_self ..))
 have x1 : U1.cell? ⟨X, 3, none⟩ = some (zI 0) := Co hX 3
 have x2 : U1.cell? ⟨X, 4, none⟩ = some (zI 0) := Co hX 4
 have y1 : U1.frozen? ⟨X, 3, none⟩ = false := Fo hX 3
 have y2 : U1.frozen? ⟨X, 4, none⟩ = false := Fo hX 4
 have HU1 : Hid (RdS w ((U1.setCell ⟨X, 3, none⟩ (zI f)).setCell ⟨X, 4, none⟩ (zI f1)) R s su1 ((H, 4, (P4.vals ⟨true, true, true, false⟩)) :: (X, 85, #[zU k, zU o, zI i, zI f, zI f1, zI 0, zI 0, zI 0, zI 0, zI 0, zI 0]) :: (B, 85, #[zU 0, zU 0, zI 0, zI 0, zI 0, zI 0, zI 0, zI 0, zI 0, zI 0, zI 0]) :: bs)) := ((hx.swap.set 3 (zI f)).set 4 (zI f1)).swap
 clear hx hX HR6 h0
 go_upto_region 8 with fail
 generalize World.setCell (World.setCell U1 _ _) _ _ = U1x at HU1 ⊢
 clear x1 x2 y1 y2
 have x2 : U1x.cell? ⟨X, 4, none⟩ = some (zI f1) := Co (HU1.out.heap (List.mem_cons_of_mem _ (List.mem_cons_self ..))) 4
 go_upto_region 9 with fail
 clear x2
 have h1 : U1x.cell? ⟨H, 1, none⟩ = some (.bool true) := Co (HU1.out.heap (List.mem_cons_self ..)) 1
 go_wp2_with fail
 refine (HS2.out _ _ HU1.out).mono ?_
 rintro e U2 ⟨rfl, hx⟩
 have hX := hx.heap (List.mem_cons_of_mem _ (List.mem_cons_self ..))
 have x1 : U2.cell? ⟨X, 5, none⟩ = some (zI 0) := Co hX 5
 have x2 : U2.cell? ⟨X, 6, none⟩ = some (zI 0) := Co hX 6
 have y1 : U2.frozen? ⟨X, 5, none⟩ = false := Fo hX 5
 have y2 : U2.frozen? ⟨X, 6, none⟩ = false := Fo hX 6
 have HU2 : Hid (RdS w ((U2.setCell ⟨X, 5, none⟩ (zI f1)).setCell ⟨X, 6, none⟩ (zI f2)) R s su2 ((H, 4, (P4.vals ⟨true, true, true, false⟩)) :: (X, 85, #[zU k, zU o, zI i, zI f, zI f1, zI f1, zI f2, zI 0, zI 0, zI 0, zI 0]) :: (B, 85, #[zU 0, zU 0, zI 0, zI 0, zI 0, zI 0, zI 0, zI 0, zI 0, zI 0, zI 0]) :: bs)) := ((hx.swap.set 5 (zI f1)).set 6 (zI f2)).swap
 clear hx hX HU1 h1
 go_upto_region 11 with fail
 generalize World.setCell (World.setCell U2 _ _) _ _ = U2x at HU2 ⊢
 clear x1 x2 y1 y2
 have x2 : U2x.cell? ⟨X, 6, none⟩ = some (zI f2) := Co (HU2.out.heap (List.mem_cons_of_mem _ (List.mem_cons_self ..))) 6
 go_upto_region 12 with fail
 clear x2
 have h2 : U2x.cell? ⟨H, 2, none⟩ = some (.bool true) := Co (HU2.out.heap (List.mem_cons_self ..)) 2
 go_wp2_with fail
 refine (HS3.out _ _ HU2.out).mono ?_
 rintro e U3 ⟨rfl, hx⟩
 have hX := hx.heap (List.mem_cons_of_mem _ (List.mem_cons_self ..))
 have x1 : U3.cell? ⟨X, 7, none⟩ = some (zI 0) := Co hX 7
 have x2 : U3.cell? ⟨X, 8, none⟩ = some (zI 0) := Co hX 8
 have y1 : U3.frozen? ⟨X, 7, none⟩ = false := Fo hX 7
 have y2 : U3.frozen? ⟨X, 8, none⟩ = false := Fo hX 8
 have HU3 : Hid (RdS w ((U3.setCell ⟨X, 7, none⟩ (zI f2)).setCell ⟨X, 8, none⟩ (zI f3)) R s su3 ((H, 4, (P4.vals ⟨true, true, true, false⟩)) :: (X, 85, #[zU k, zU o, zI i, zI f, zI f1, zI f1, zI f2, zI f2, zI f3, zI 0, zI 0]) :: (B, 85, #[zU 0, zU 0, zI 0, zI 0, zI 0, zI 0, zI 0, zI 0, zI 0, zI 0, zI 0]) :: bs)) := ((hx.swap.set 7 (zI f2)).set 8 (zI f3)).swap
 clear hx hX HU2 h2
 go_upto_region 14 with fail
 generalize World.setCell (World.setCell U3 _ _) _ _ = U3x at HU3 ⊢
 clear x1 x2 y1 y2
 have x2 : U3x.cell? ⟨X, 8, none⟩ = some (zI f3) := Co (HU3.out.heap (List.mem_cons_of_mem _ (List.mem_cons_self ..))) 8
 go_upto_region 15 with fail
 clear x2
 have h3 : U3x.cell? ⟨H, 3, none⟩ = some (.bool false) := Co (HU3.out.heap (List.mem_cons_self ..)) 3
 go_upto_region 18 with fail
 clear h3
 have HXF : Hid (U3x.heap[X]? = some (.cells (RowM.vals (Qr k o i [⟨f, f1⟩, ⟨f1, f2⟩, ⟨f2, f3⟩, sp0])) 85 (0, 0))) := HU3.out.heap (List.mem_cons_of_mem _ (List.mem_cons_self ..))
 have HBF : Hid (U3x.heap[B]? = some (.cells #[zU 0, zU 0, zI 0, zI 0, zI 0, zI 0, zI 0, zI 0, zI 0, zI 0, zI 0] 85 (0, 0))) := HU3.out.heap (List.mem_cons_of_mem _ (List.mem_cons_of_mem _ (List.mem_cons_self ..)))
 have HNF : Hid ((U3x.setRow B (RowM.vals (Qr k o i [⟨f, f1⟩, ⟨f1, f2⟩, ⟨f2, f3⟩, sp0]))).heap[B]? = some (.cells (RowM.vals (Qr k o i [⟨f, f1⟩, ⟨f1, f2⟩, ⟨f2, f3⟩, sp0])) 85 (0, 0))) := setRow_heap _ _ _ _ _ _ HBF.out
 have HEND : Hid (RdS w (U3x.setRow B (RowM.vals (Qr k o i [⟨f, f1⟩, ⟨f1, f2⟩, ⟨f2, f3⟩, sp0]))) R s su3 bs) := (HU3.out.less.less.row (RowM.vals (Qr k o i [⟨f, f1⟩, ⟨f1, f2⟩, ⟨f2, f3⟩, sp0]))).less
 clear HU3
 go_wp2_with (first | (refine wpList_load_row rfl 85 (.tmp 6) rfl X rfl 85 (RowM.vals (Qr k o i [⟨f, f1⟩, ⟨f1, f2⟩, ⟨f2, f3⟩, sp0])) (0, 0) _ HXF.out Tryz.underlying85 rfl Qi ?_) | (refine wpList_store_row rfl 85 (.tmp 4) (.tmp 62) rfl B (RowM.vals (Qr k o i [⟨f, f1⟩, ⟨f1, f2⟩, ⟨f2, f3⟩, sp0])) rfl rfl 85 #[zU 0, zU 0, zI 0, zI 0, zI 0, zI 0, zI 0, zI 0, zI 0, zI 0, zI 0] HBF.out Qi rfl (QQ _) ?_))
 rw [HR.out]
 exact bodyPost_ret (Rt2 rfl _ _ B 85 (RowM.vals (Qr k o i [⟨f, f1⟩, ⟨f1, f2⟩, ⟨f2, f3⟩, sp0])) (0, 0) _ rfl HNF.out Tryz.underlying85 rfl Qi) rfl ⟨rfl, HEND.out⟩
theorem rrow_b {w V : World} {R : Nat} {s : ByteArray} {st : Option Int} {bs : List Bx} (h : RdS w V R s st bs) (f : Int) (hf : 0 ≤ f ∧ f ≤ 900000000000) (hs : s.size ≤ 1099511627776) (hP : Qn (numS 6 s.data.toList st).1 (numS 5 s.data.toList (numS 6 s.data.toList st).2).1 = ⟨true, true, false, false⟩) :
  Calls zG 89 #[.pointer (some ⟨R, 0, none⟩), zI f] V (OutRw w R s bs (rowS s.data.toList f st)) := by
 have HSZ : Hid (s.size ≤ 1099511627776) := hs
 have hr := (rfl : rowS s.data.toList f st = rowS s.data.toList f st)
 conv at hr => rhs; unfold rowS; rw [hP]
 simp only [prts, spsS, Bool.false_eq_true, if_true, if_false] at hr
 obtain ⟨rr, err⟩ : ∃ r, rowS s.data.toList f st = r := ⟨_, rfl⟩
 rw [err] at hr ⊢
 obtain ⟨k, ek⟩ : ∃ q, (numS 6 s.data.toList st).1 = q := ⟨_, rfl⟩
 obtain ⟨st1, e1⟩ : ∃ q, (numS 6 s.data.toList st).2 = q := ⟨_, rfl⟩
 have hk := Qk 6 (by decide) s.data.toList st
 rw [ek] at hk
 obtain ⟨o, eo⟩ : ∃ q, (numS 5 s.data.toList st1).1 = q := ⟨_, rfl⟩
 obtain ⟨st2, e2⟩ : ∃ q, (numS 5 s.data.toList st1).2 = q := ⟨_, rfl⟩
 have ho := Qk 5 (by decide) s.data.toList st1
 rw [eo] at ho
 obtain ⟨i, ei⟩ : ∃ q, (numS 1000 s.data.toList st2).1 = q := ⟨_, rfl⟩
 obtain ⟨st3, e3⟩ : ∃ q, (numS 1000 s.data.toList st2).2 = q := ⟨_, rfl⟩
 have hi := Qk 1000 (by decide) s.data.toList st2
 rw [ei] at hi
 rw [ek, e1, eo] at hP
 simp only [ek, e1, eo, e2, ei, e3] at hr
 obtain ⟨n1, en1⟩ : ∃ q, (numS 4096 s.data.toList st3).1 = q := ⟨_, rfl⟩
 obtain ⟨su1, es1⟩ : ∃ q, (numS 4096 s.data.toList st3).2 = q := ⟨_, rfl⟩
 have hn1 := Qk 4096 (by decide) s.data.toList st3
 rw [en1] at hn1
 obtain ⟨f1, ef1⟩ : ∃ q, f + n1 = q := ⟨_, rfl⟩
 simp only [en1, es1, ef1] at hr
 have hf1 : 0 ≤ f1 ∧ f1 ≤ 900000004096 := by omega
 obtain ⟨n2, en2⟩ : ∃ q, (numS 4096 s.data.toList su1).1 = q := ⟨_, rfl⟩
 obtain ⟨su2, es2⟩ : ∃ q, (numS 4096 s.data.toList su1).2 = q := ⟨_, rfl⟩
 have hn2 := Qk 4096 (by decide) s.data.toList su1
 rw [en2] at hn2
 obtain ⟨f2, ef2⟩ : ∃ q, f1 + n2 = q := ⟨_, rfl⟩
 simp only [en2, es2, ef2] at hr
 have hf2 : 0 ≤ f2 ∧ f2 ≤ 900000008192 := by omega
 have HR : Hid (rr = (Qr k o i [⟨f, f1⟩, ⟨f1, f2⟩, sp0, sp0], f2, su2)) := hr
 have HC1 : Hid (∀ v bs, RdS w v R s st bs → Calls zG 46 #[.pointer (some ⟨R, 0, none⟩), .int .u64 6] v fun e V' => e = .returned (zI k) ∧ RdS w V' R s st1 bs) := fun v bs hv => by have := Q7 hv 6 (by decide) HSZ.out; rw [ek, e1] at this; exact this
 have HC2 : Hid (∀ v bs, RdS w v R s st1 bs → Calls zG 46 #[.pointer (some ⟨R, 0, none⟩), .int .u64 5] v fun e V' => e = .returned (zI o) ∧ RdS w V' R s st2 bs) := fun v bs hv => by have := Q7 hv 5 (by decide) HSZ.out; rw [eo, e2] at this; exact this
 have HC3 : Hid (∀ v bs, RdS w v R s st2 bs → Calls zG 46 #[.pointer (some ⟨R, 0, none⟩), .int .u64 1000] v fun e V' => e = .returned (zI i) ∧ RdS w V' R s st3 bs) := fun v bs hv => by have := Q7 hv 1000 (by decide) HSZ.out; rw [ei, e3] at this; exact this
 have HS1 : Hid (∀ v bs, RdS w v R s st3 bs → Calls zG 88 #[.pointer (some ⟨R, 0, none⟩), zI f] v fun e V' => e = .returned (.agg #[zI f, zI f1]) ∧ RdS w V' R s su1 bs) := fun v bs hv => by have := Ka hv f (by omega) HSZ.out; rw [en1, es1, ef1] at this; exact this
 have HS2 : Hid (∀ v bs, RdS w v R s su1 bs → Calls zG 88 #[.pointer (some ⟨R, 0, none⟩), zI f1] v fun e V' => e = .returned (.agg #[zI f1, zI f2]) ∧ RdS w V' R s su2 bs) := fun v bs hv => by have := Ka hv f1 (by omega) HSZ.out; rw [en2, es2, ef2] at this; exact this
 have hq0 := Hn V (.cells #[zU 0, zU 0, zI 0, zI 0, zI 0, zI 0, zI 0, zI 0, zI 0, zI 0, zI 0] 85)
 have hR0 := h.new (Bn V (.cells #[zU 0, zU 0, zI 0, zI 0, zI 0, zI 0, zI 0, zI 0, zI 0, zI 0, zI 0] 85)) (Nat.le_refl _) hq0
 have hq1 := Hn (V.alloc (.cells #[zU 0, zU 0, zI 0, zI 0, zI 0, zI 0, zI 0, zI 0, zI 0, zI 0, zI 0] 85)) (.cells #[zU 0, zU 0, zI 0, zI 0, zI 0, zI 0, zI 0, zI 0, zI 0, zI 0, zI 0] 85)
 have hR1 := hR0.new (Bn (V.alloc (.cells #[zU 0, zU 0, zI 0, zI 0, zI 0, zI 0, zI 0, zI 0, zI 0, zI 0, zI 0] 85)) (.cells #[zU 0, zU 0, zI 0, zI 0, zI 0, zI 0, zI 0, zI 0, zI 0, zI 0, zI 0] 85)) (Nat.le_refl _) hq1
 rw [Sa] at hR1
 have hR2 := hR1.row #[zU 0, zU 0, zI 0, zI 0, zI 0, zI 0, zI 0, zI 0, zI 0, zI 0, zI 0]
 have HH1 : Hid (((V.alloc (.cells #[zU 0, zU 0, zI 0, zI 0, zI 0, zI 0, zI 0, zI 0, zI 0, zI 0, zI 0] 85)).alloc (.cells #[zU 0, zU 0, zI 0, zI 0, zI 0, zI 0, zI 0, zI 0, zI 0, zI 0, zI 0] 85)).heap[V§ + 1]? = some (.cells #[zU 0, zU 0, zI 0, zI 0, zI 0, zI 0, zI 0, zI 0, zI 0, zI 0, zI 0] 85 (0, 0))) := hR1.heap (List.mem_cons_self ..)
 have HR2 : Hid (RdS w (((V.alloc (.cells #[zU 0, zU 0, zI 0, zI 0, zI 0, zI 0, zI 0, zI 0, zI 0, zI 0, zI 0] 85)).alloc (.cells #[zU 0, zU 0, zI 0, zI 0, zI 0, zI 0, zI 0, zI 0, zI 0, zI 0, zI 0] 85)).setRow (V§ + 1) #[zU 0, zU 0, zI 0, zI 0, zI 0, zI 0, zI 0, zI 0, zI 0, zI 0, zI 0]) R s st ((V§ + 1, 85, #[zU 0, zU 0, zI 0, zI 0, zI 0, zI 0, zI 0, zI 0, zI 0, zI 0, zI 0]) :: (V§, 85, #[zU 0, zU 0, zI 0, zI 0, zI 0, zI 0, zI 0, zI 0, zI 0, zI 0, zI 0]) :: bs)) := hR2
 obtain ⟨X, eX⟩ : ∃ X, V§ + 1 = X := ⟨_, rfl⟩
 obtain ⟨B, eB⟩ : ∃ B, V§ = B := ⟨_, rfl⟩
 have hs0 : (V.alloc (.cells #[zU 0, zU 0, zI 0, zI 0, zI 0, zI 0, zI 0, zI 0, zI 0, zI 0, zI 0] 85))§ = X := by rw [Sa]; exact eX
 have HXX : Hid (V§ + 1 = X) := eX
 have HBB : Hid (V§ = B) := eB
 clear h hs hr err hq0 hR0 hq1 hR1 hR2 eX eB hs0 en1 es1 ef1 hn1 en2 es2 ef2 hn2 ek e1 eo e2 ei e3
 have k1 : 0 ≤ k ∧ k ≤ 255 := by omega
 have o1 : 0 ≤ o ∧ o ≤ 255 := by omega
 clear hk ho hi hf1 hf2 hf
 obtain ⟨k2, k3⟩ := k1
 obtain ⟨o2, o3⟩ := o1
 have HKO : Hid (0 ≤ k ∧ k ≤ 255 ∧ 0 ≤ o ∧ o ≤ 255) := ⟨k2, k3, o2, o3⟩
 clear k2 k3 o2 o3
 go_enter Tryz.func89, Tryz.ntmps89
 go_upto_region 2 with (refine wpList_store_row rfl 85 (.tmp 6) (.tmp 8) rfl (V§ + 1) #[zU 0, zU 0, zI 0, zI 0, zI 0, zI 0, zI 0, zI 0, zI 0, zI 0, zI 0] rfl rfl 85 #[zU 0, zU 0, zI 0, zI 0, zI 0, zI 0, zI 0, zI 0, zI 0, zI 0, zI 0] HH1.out Qi rfl (QQ ⟨0, 0, 0, sp0, sp0, sp0, sp0⟩) ?_)
 generalize World.setRow _ _ _ = V2 at HR2 ⊢
 rw [HXX.out] at HR2 ⊢
 rw [HBB.out] at HR2 ⊢
 clear HH1 HXX HBB
 go_wp2_with fail
 refine (HC1.out _ _ HR2.out).mono ?_
 rintro e V3 ⟨rfl, hx⟩
 have hX := hx.heap (List.mem_cons_self ..)
 have x0 : V3.cell? ⟨X, 0, none⟩ = some (zU 0) := Co hX 0
 have y0 : V3.frozen? ⟨X, 0, none⟩ = false := Fo hX 0
 have HN0 : Hid (RdS w (V3.setCell ⟨X, 0, none⟩ (zU k)) R s st1 ((X, 85, #[zU k, zU 0, zI 0, zI 0, zI 0, zI 0, zI 0, zI 0, zI 0, zI 0, zI 0]) :: (B, 85, #[zU 0, zU 0, zI 0, zI 0, zI 0, zI 0, zI 0, zI 0, zI 0, zI 0, zI 0]) :: bs)) := hx.set 0 (zU k)
 clear hx hX HR2
 have b1 := HKO.out.1
 have b2 := HKO.out.2.1
 go_upto_region 3 with fail
 generalize World.setCell V3 _ _ = V3x at HN0 ⊢
 clear x0 y0 b1 b2
 go_wp2_with fail
 refine (HC2.out _ _ HN0.out).mono ?_
 rintro e V4 ⟨rfl, hx⟩
 have hX := hx.heap (List.mem_cons_self ..)
 have x1 : V4.cell? ⟨X, 1, none⟩ = some (zU 0) := Co hX 1
 have y1 : V4.frozen? ⟨X, 1, none⟩ = false := Fo hX 1
 have HN1 : Hid (RdS w (V4.setCell ⟨X, 1, none⟩ (zU o)) R s st2 ((X, 85, #[zU k, zU o, zI 0, zI 0, zI 0, zI 0, zI 0, zI 0, zI 0, zI 0, zI 0]) :: (B, 85, #[zU 0, zU 0, zI 0, zI 0, zI 0, zI 0, zI 0, zI 0, zI 0, zI 0, zI 0]) :: bs)) := hx.set 1 (zU o)
 clear hx hX HN0
 have b1 := HKO.out.2.2.1
 have b2 := HKO.out.2.2.2
 go_upto_region 4 with fail
 generalize World.setCell V4 _ _ = V4x at HN1 ⊢
 clear x1 y1 b1 b2
 go_wp2_with fail
 refine (HC3.out _ _ HN1.out).mono ?_
 rintro e V5 ⟨rfl, hx⟩
 have hX := hx.heap (List.mem_cons_self ..)
 have x2 : V5.cell? ⟨X, 2, none⟩ = some (zI 0) := Co hX 2
 have y2 : V5.frozen? ⟨X, 2, none⟩ = false := Fo hX 2
 have HN2 : Hid (RdS w (V5.setCell ⟨X, 2, none⟩ (zI i)) R s st3 ((X, 85, #[zU k, zU o, zI i, zI 0, zI 0, zI 0, zI 0, zI 0, zI 0, zI 0, zI 0]) :: (B, 85, #[zU 0, zU 0, zI 0, zI 0, zI 0, zI 0, zI 0, zI 0, zI 0, zI 0, zI 0]) :: bs)) := hx.set 2 (zI i)
 clear hx hX HN1
 go_upto_region 5 with fail
 generalize World.setCell V5 _ _ = V5x at HN2 ⊢
 clear x2 y2
 have hX := HN2.out.heap (List.mem_cons_self ..)
 have HX : Hid (V5x.heap[X]? = some (.cells (RowM.vals ⟨k, o, i, sp0, sp0, sp0, sp0⟩) 85 (0, 0))) := hX
 have cH := JK ⟨k, o, i, sp0, sp0, sp0, sp0⟩ V5x
 simp only [hP] at cH
 clear hX
 go_wp2_with (refine wpList_load_row rfl 85 (.tmp 6) rfl X rfl 85 (RowM.vals ⟨k, o, i, sp0, sp0, sp0, sp0⟩) (0, 0) _ HX.out Tryz.underlying85 rfl Qi ?_)
 refine cH.mono ?_
 rintro e W6 ⟨H, rfl, hH, hHl, hbH⟩
 have HR6 : Hid (RdS w W6 R s st3 ((H, 4, (P4.vals ⟨true, true, false, false⟩)) :: (X, 85, #[zU k, zU o, zI i, zI 0, zI 0, zI 0, zI 0, zI 0, zI 0, zI 0, zI 0]) :: (B, 85, #[zU 0, zU 0, zI 0, zI 0, zI 0, zI 0, zI 0, zI 0, zI 0, zI 0, zI 0]) :: bs)) := HN2.out.new hbH hHl hH
 clear cH hH hHl hbH HX HN2
 have h0 : W6.cell? ⟨H, 0, none⟩ = some (.bool true) := Co (HR6.out.heap (List.mem_cons_self ..)) 0
 go_wp2_with fail
 refine (HS1.out _ _ HR6.out).mono ?_
 rintro e U1 ⟨rfl, hx⟩
 have hX := hx.heap (List.mem_cons_of_mem _ (List.mem_cons_self ..))
 have x1 : U1.cell? ⟨X, 3, none⟩ = some (zI 0) := Co hX 3
 have x2 : U1.cell? ⟨X, 4, none⟩ = some (zI 0) := Co hX 4
 have y1 : U1.frozen? ⟨X, 3, none⟩ = false := Fo hX 3
 have y2 : U1.frozen? ⟨X, 4, none⟩ = false := Fo hX 4
 have HU1 : Hid (RdS w ((U1.setCell ⟨X, 3, none⟩ (zI f)).setCell ⟨X, 4, none⟩ (zI f1)) R s su1 ((H, 4, (P4.vals ⟨true, true, false, false⟩)) :: (X, 85, #[zU k, zU o, zI i, zI f, zI f1, zI 0, zI 0, zI 0, zI 0, zI 0, zI 0]) :: (B, 85, #[zU 0, zU 0, zI 0, zI 0, zI 0, zI 0, zI 0, zI 0, zI 0, zI 0, zI 0]) :: bs)) := ((hx.swap.set 3 (zI f)).set 4 (zI f1)).swap
 clear hx hX HR6 h0
 go_upto_region 8 with fail
 generalize World.setCell (World.setCell U1 _ _) _ _ = U1x at HU1 ⊢
 clear x1 x2 y1 y2
 have x2 : U1x.cell? ⟨X, 4, none⟩ = some (zI f1) := Co (HU1.out.heap (List.mem_cons_of_mem _ (List.mem_cons_self ..))) 4
 go_upto_region 9 with fail
 clear x2
 have h1 : U1x.cell? ⟨H, 1, none⟩ = some (.bool true) := Co (HU1.out.heap (List.mem_cons_self ..)) 1
 go_wp2_with fail
 refine (HS2.out _ _ HU1.out).mono ?_
 rintro e U2 ⟨rfl, hx⟩
 have hX := hx.heap (List.mem_cons_of_mem _ (List.mem_cons_self ..))
 have x1 : U2.cell? ⟨X, 5, none⟩ = some (zI 0) := Co hX 5
 have x2 : U2.cell? ⟨X, 6, none⟩ = some (zI 0) := Co hX 6
 have y1 : U2.frozen? ⟨X, 5, none⟩ = false := Fo hX 5
 have y2 : U2.frozen? ⟨X, 6, none⟩ = false := Fo hX 6
 have HU2 : Hid (RdS w ((U2.setCell ⟨X, 5, none⟩ (zI f1)).setCell ⟨X, 6, none⟩ (zI f2)) R s su2 ((H, 4, (P4.vals ⟨true, true, false, false⟩)) :: (X, 85, #[zU k, zU o, zI i, zI f, zI f1, zI f1, zI f2, zI 0, zI 0, zI 0, zI 0]) :: (B, 85, #[zU 0, zU 0, zI 0, zI 0, zI 0, zI 0, zI 0, zI 0, zI 0, zI 0, zI 0]) :: bs)) := ((hx.swap.set 5 (zI f1)).set 6 (zI f2)).swap
 clear hx hX HU1 h1
 go_upto_region 11 with fail
 generalize World.setCell (World.setCell U2 _ _) _ _ = U2x at HU2 ⊢
 clear x1 x2 y1 y2
 have x2 : U2x.cell? ⟨X, 6, none⟩ = some (zI f2) := Co (HU2.out.heap (List.mem_cons_of_mem _ (List.mem_cons_self ..))) 6
 go_upto_region 12 with fail
 clear x2
 have h2 : U2x.cell? ⟨H, 2, none⟩ = some (.bool false) := Co (HU2.out.heap (List.mem_cons_self ..)) 2
 go_upto_region 15 with fail
 clear h2
 have h3 : U2x.cell? ⟨H, 3, none⟩ = some (.bool false) := Co (HU2.out.heap (List.mem_cons_self ..)) 3
 go_upto_region 18 with fail
 clear h3
 have HXF : Hid (U2x.heap[X]? = some (.cells (RowM.vals (Qr k o i [⟨f, f1⟩, ⟨f1, f2⟩, sp0, sp0])) 85 (0, 0))) := HU2.out.heap (List.mem_cons_of_mem _ (List.mem_cons_self ..))
 have HBF : Hid (U2x.heap[B]? = some (.cells #[zU 0, zU 0, zI 0, zI 0, zI 0, zI 0, zI 0, zI 0, zI 0, zI 0, zI 0] 85 (0, 0))) := HU2.out.heap (List.mem_cons_of_mem _ (List.mem_cons_of_mem _ (List.mem_cons_self ..)))
 have HNF : Hid ((U2x.setRow B (RowM.vals (Qr k o i [⟨f, f1⟩, ⟨f1, f2⟩, sp0, sp0]))).heap[B]? = some (.cells (RowM.vals (Qr k o i [⟨f, f1⟩, ⟨f1, f2⟩, sp0, sp0])) 85 (0, 0))) := setRow_heap _ _ _ _ _ _ HBF.out
 have HEND : Hid (RdS w (U2x.setRow B (RowM.vals (Qr k o i [⟨f, f1⟩, ⟨f1, f2⟩, sp0, sp0]))) R s su2 bs) := (HU2.out.less.less.row (RowM.vals (Qr k o i [⟨f, f1⟩, ⟨f1, f2⟩, sp0, sp0]))).less
 clear HU2
 go_wp2_with (first | (refine wpList_load_row rfl 85 (.tmp 6) rfl X rfl 85 (RowM.vals (Qr k o i [⟨f, f1⟩, ⟨f1, f2⟩, sp0, sp0])) (0, 0) _ HXF.out Tryz.underlying85 rfl Qi ?_) | (refine wpList_store_row rfl 85 (.tmp 4) (.tmp 62) rfl B (RowM.vals (Qr k o i [⟨f, f1⟩, ⟨f1, f2⟩, sp0, sp0])) rfl rfl 85 #[zU 0, zU 0, zI 0, zI 0, zI 0, zI 0, zI 0, zI 0, zI 0, zI 0, zI 0] HBF.out Qi rfl (QQ _) ?_))
 rw [HR.out]
 exact bodyPost_ret (Rt2 rfl _ _ B 85 (RowM.vals (Qr k o i [⟨f, f1⟩, ⟨f1, f2⟩, sp0, sp0])) (0, 0) _ rfl HNF.out Tryz.underlying85 rfl Qi) rfl ⟨rfl, HEND.out⟩
theorem rrow_c {w V : World} {R : Nat} {s : ByteArray} {st : Option Int} {bs : List Bx} (h : RdS w V R s st bs) (f : Int) (hf : 0 ≤ f ∧ f ≤ 900000000000) (hs : s.size ≤ 1099511627776) (hP : Qn (numS 6 s.data.toList st).1 (numS 5 s.data.toList (numS 6 s.data.toList st).2).1 = ⟨false, true, true, false⟩) :
  Calls zG 89 #[.pointer (some ⟨R, 0, none⟩), zI f] V (OutRw w R s bs (rowS s.data.toList f st)) := by
 have HSZ : Hid (s.size ≤ 1099511627776) := hs
 have hr := (rfl : rowS s.data.toList f st = rowS s.data.toList f st)
 conv at hr => rhs; unfold rowS; rw [hP]
 simp only [prts, spsS, Bool.false_eq_true, if_true, if_false] at hr
 obtain ⟨rr, err⟩ : ∃ r, rowS s.data.toList f st = r := ⟨_, rfl⟩
 rw [err] at hr ⊢
 obtain ⟨k, ek⟩ : ∃ q, (numS 6 s.data.toList st).1 = q := ⟨_, rfl⟩
 obtain ⟨st1, e1⟩ : ∃ q, (numS 6 s.data.toList st).2 = q := ⟨_, rfl⟩
 have hk := Qk 6 (by decide) s.data.toList st
 rw [ek] at hk
 obtain ⟨o, eo⟩ : ∃ q, (numS 5 s.data.toList st1).1 = q := ⟨_, rfl⟩
 obtain ⟨st2, e2⟩ : ∃ q, (numS 5 s.data.toList st1).2 = q := ⟨_, rfl⟩
 have ho := Qk 5 (by decide) s.data.toList st1
 rw [eo] at ho
 obtain ⟨i, ei⟩ : ∃ q, (numS 1000 s.data.toList st2).1 = q := ⟨_, rfl⟩
 obtain ⟨st3, e3⟩ : ∃ q, (numS 1000 s.data.toList st2).2 = q := ⟨_, rfl⟩
 have hi := Qk 1000 (by decide) s.data.toList st2
 rw [ei] at hi
 rw [ek, e1, eo] at hP
 simp only [ek, e1, eo, e2, ei, e3] at hr
 obtain ⟨n1, en1⟩ : ∃ q, (numS 4096 s.data.toList st3).1 = q := ⟨_, rfl⟩
 obtain ⟨su1, es1⟩ : ∃ q, (numS 4096 s.data.toList st3).2 = q := ⟨_, rfl⟩
 have hn1 := Qk 4096 (by decide) s.data.toList st3
 rw [en1] at hn1
 obtain ⟨f1, ef1⟩ : ∃ q, f + n1 = q := ⟨_, rfl⟩
 simp only [en1, es1, ef1] at hr
 have hf1 : 0 ≤ f1 ∧ f1 ≤ 900000004096 := by omega
 obtain ⟨n2, en2⟩ : ∃ q, (numS 4096 s.data.toList su1).1 = q := ⟨_, rfl⟩
 obtain ⟨su2, es2⟩ : ∃ q, (numS 4096 s.data.toList su1).2 = q := ⟨_, rfl⟩
 have hn2 := Qk 4096 (by decide) s.data.toList su1
 rw [en2] at hn2
 obtain ⟨f2, ef2⟩ : ∃ q, f1 + n2 = q := ⟨_, rfl⟩
 simp only [en2, es2, ef2] at hr
 have hf2 : 0 ≤ f2 ∧ f2 ≤ 900000008192 := by omega
 have HR : Hid (rr = (Qr k o i [sp0, ⟨f, f1⟩, ⟨f1, f2⟩, sp0], f2, su2)) := hr
 have HC1 : Hid (∀ v bs, RdS w v R s st bs → Calls zG 46 #[.pointer (some ⟨R, 0, none⟩), .int .u64 6] v fun e V' => e = .returned (zI k) ∧ RdS w V' R s st1 bs) := fun v bs hv => by have := Q7 hv 6 (by decide) HSZ.out; rw [ek, e1] at this; exact this
 have HC2 : Hid (∀ v bs, RdS w v R s st1 bs → Calls zG 46 #[.pointer (some ⟨R, 0, none⟩), .int .u64 5] v fun e V' => e = .returned (zI o) ∧ RdS w V' R s st2 bs) := fun v bs hv => by have := Q7 hv 5 (by decide) HSZ.out; rw [eo, e2] at this; exact this
 have HC3 : Hid (∀ v bs, RdS w v R s st2 bs → Calls zG 46 #[.pointer (some ⟨R, 0, none⟩), .int .u64 1000] v fun e V' => e = .returned (zI i) ∧ RdS w V' R s st3 bs) := fun v bs hv => by have := Q7 hv 1000 (by decide) HSZ.out; rw [ei, e3] at this; exact this
 have HS1 : Hid (∀ v bs, RdS w v R s st3 bs → Calls zG 88 #[.pointer (some ⟨R, 0, none⟩), zI f] v fun e V' => e = .returned (.agg #[zI f, zI f1]) ∧ RdS w V' R s su1 bs) := fun v bs hv => by have := Ka hv f (by omega) HSZ.out; rw [en1, es1, ef1] at this; exact this
 have HS2 : Hid (∀ v bs, RdS w v R s su1 bs → Calls zG 88 #[.pointer (some ⟨R, 0, none⟩), zI f1] v fun e V' => e = .returned (.agg #[zI f1, zI f2]) ∧ RdS w V' R s su2 bs) := fun v bs hv => by have := Ka hv f1 (by omega) HSZ.out; rw [en2, es2, ef2] at this; exact this
 have hq0 := Hn V (.cells #[zU 0, zU 0, zI 0, zI 0, zI 0, zI 0, zI 0, zI 0, zI 0, zI 0, zI 0] 85)
 have hR0 := h.new (Bn V (.cells #[zU 0, zU 0, zI 0, zI 0, zI 0, zI 0, zI 0, zI 0, zI 0, zI 0, zI 0] 85)) (Nat.le_refl _) hq0
 have hq1 := Hn (V.alloc (.cells #[zU 0, zU 0, zI 0, zI 0, zI 0, zI 0, zI 0, zI 0, zI 0, zI 0, zI 0] 85)) (.cells #[zU 0, zU 0, zI 0, zI 0, zI 0, zI 0, zI 0, zI 0, zI 0, zI 0, zI 0] 85)
 have hR1 := hR0.new (Bn (V.alloc (.cells #[zU 0, zU 0, zI 0, zI 0, zI 0, zI 0, zI 0, zI 0, zI 0, zI 0, zI 0] 85)) (.cells #[zU 0, zU 0, zI 0, zI 0, zI 0, zI 0, zI 0, zI 0, zI 0, zI 0, zI 0] 85)) (Nat.le_refl _) hq1
 rw [Sa] at hR1
 have hR2 := hR1.row #[zU 0, zU 0, zI 0, zI 0, zI 0, zI 0, zI 0, zI 0, zI 0, zI 0, zI 0]
 have HH1 : Hid (((V.alloc (.cells #[zU 0, zU 0, zI 0, zI 0, zI 0, zI 0, zI 0, zI 0, zI 0, zI 0, zI 0] 85)).alloc (.cells #[zU 0, zU 0, zI 0, zI 0, zI 0, zI 0, zI 0, zI 0, zI 0, zI 0, zI 0] 85)).heap[V§ + 1]? = some (.cells #[zU 0, zU 0, zI 0, zI 0, zI 0, zI 0, zI 0, zI 0, zI 0, zI 0, zI 0] 85 (0, 0))) := hR1.heap (List.mem_cons_self ..)
 have HR2 : Hid (RdS w (((V.alloc (.cells #[zU 0, zU 0, zI 0, zI 0, zI 0, zI 0, zI 0, zI 0, zI 0, zI 0, zI 0] 85)).alloc (.cells #[zU 0, zU 0, zI 0, zI 0, zI 0, zI 0, zI 0, zI 0, zI 0, zI 0, zI 0] 85)).setRow (V§ + 1) #[zU 0, zU 0, zI 0, zI 0, zI 0, zI 0, zI 0, zI 0, zI 0, zI 0, zI 0]) R s st ((V§ + 1, 85, #[zU 0, zU 0, zI 0, zI 0, zI 0, zI 0, zI 0, zI 0, zI 0, zI 0, zI 0]) :: (V§, 85, #[zU 0, zU 0, zI 0, zI 0, zI 0, zI 0, zI 0, zI 0, zI 0, zI 0, zI 0]) :: bs)) := hR2
 obtain ⟨X, eX⟩ : ∃ X, V§ + 1 = X := ⟨_, rfl⟩
 obtain ⟨B, eB⟩ : ∃ B, V§ = B := ⟨_, rfl⟩
 have hs0 : (V.alloc (.cells #[zU 0, zU 0, zI 0, zI 0, zI 0, zI 0, zI 0, zI 0, zI 0, zI 0, zI 0] 85))§ = X := by rw [Sa]; exact eX
 have HXX : Hid (V§ + 1 = X) := eX
 have HBB : Hid (V§ = B) := eB
 clear h hs hr err hq0 hR0 hq1 hR1 hR2 eX eB hs0 en1 es1 ef1 hn1 en2 es2 ef2 hn2 ek e1 eo e2 ei e3
 have k1 : 0 ≤ k ∧ k ≤ 255 := by omega
 have o1 : 0 ≤ o ∧ o ≤ 255 := by omega
 clear hk ho hi hf1 hf2 hf
 obtain ⟨k2, k3⟩ := k1
 obtain ⟨o2, o3⟩ := o1
 have HKO : Hid (0 ≤ k ∧ k ≤ 255 ∧ 0 ≤ o ∧ o ≤ 255) := ⟨k2, k3, o2, o3⟩
 clear k2 k3 o2 o3
 go_enter Tryz.func89, Tryz.ntmps89
 go_upto_region 2 with (refine wpList_store_row rfl 85 (.tmp 6) (.tmp 8) rfl (V§ + 1) #[zU 0, zU 0, zI 0, zI 0, zI 0, zI 0, zI 0, zI 0, zI 0, zI 0, zI 0] rfl rfl 85 #[zU 0, zU 0, zI 0, zI 0, zI 0, zI 0, zI 0, zI 0, zI 0, zI 0, zI 0] HH1.out Qi rfl (QQ ⟨0, 0, 0, sp0, sp0, sp0, sp0⟩) ?_)
 generalize World.setRow _ _ _ = V2 at HR2 ⊢
 rw [HXX.out] at HR2 ⊢
 rw [HBB.out] at HR2 ⊢
 clear HH1 HXX HBB
 go_wp2_with fail
 refine (HC1.out _ _ HR2.out).mono ?_
 rintro e V3 ⟨rfl, hx⟩
 have hX := hx.heap (List.mem_cons_self ..)
 have x0 : V3.cell? ⟨X, 0, none⟩ = some (zU 0) := Co hX 0
 have y0 : V3.frozen? ⟨X, 0, none⟩ = false := Fo hX 0
 have HN0 : Hid (RdS w (V3.setCell ⟨X, 0, none⟩ (zU k)) R s st1 ((X, 85, #[zU k, zU 0, zI 0, zI 0, zI 0, zI 0, zI 0, zI 0, zI 0, zI 0, zI 0]) :: (B, 85, #[zU 0, zU 0, zI 0, zI 0, zI 0, zI 0, zI 0, zI 0, zI 0, zI 0, zI 0]) :: bs)) := hx.set 0 (zU k)
 clear hx hX HR2
 have b1 := HKO.out.1
 have b2 := HKO.out.2.1
 go_upto_region 3 with fail
 generalize World.setCell V3 _ _ = V3x at HN0 ⊢
 clear x0 y0 b1 b2
 go_wp2_with fail
 refine (HC2.out _ _ HN0.out).mono ?_
 rintro e V4 ⟨rfl, hx⟩
 have hX := hx.heap (List.mem_cons_self ..)
 have x1 : V4.cell? ⟨X, 1, none⟩ = some (zU 0) := Co hX 1
 have y1 : V4.frozen? ⟨X, 1, none⟩ = false := Fo hX 1
 have HN1 : Hid (RdS w (V4.setCell ⟨X, 1, none⟩ (zU o)) R s st2 ((X, 85, #[zU k, zU o, zI 0, zI 0, zI 0, zI 0, zI 0, zI 0, zI 0, zI 0, zI 0]) :: (B, 85, #[zU 0, zU 0, zI 0, zI 0, zI 0, zI 0, zI 0, zI 0, zI 0, zI 0, zI 0]) :: bs)) := hx.set 1 (zU o)
 clear hx hX HN0
 have b1 := HKO.out.2.2.1
 have b2 := HKO.out.2.2.2
 go_upto_region 4 with fail
 generalize World.setCell V4 _ _ = V4x at HN1 ⊢
 clear x1 y1 b1 b2
 go_wp2_with fail
 refine (HC3.out _ _ HN1.out).mono ?_
 rintro e V5 ⟨rfl, hx⟩
 have hX := hx.heap (List.mem_cons_self ..)
 have x2 : V5.cell? ⟨X, 2, none⟩ = some (zI 0) := Co hX 2
 have y2 : V5.frozen? ⟨X, 2, none⟩ = false := Fo hX 2
 have HN2 : Hid (RdS w (V5.setCell ⟨X, 2, none⟩ (zI i)) R s st3 ((X, 85, #[zU k, zU o, zI i, zI 0, zI 0, zI 0, zI 0, zI 0, zI 0, zI 0, zI 0]) :: (B, 85, #[zU 0, zU 0, zI 0, zI 0, zI 0, zI 0, zI 0, zI 0, zI 0, zI 0, zI 0]) :: bs)) := hx.set 2 (zI i)
 clear hx hX HN1
 go_upto_region 5 with fail
 generalize World.setCell V5 _ _ = V5x at HN2 ⊢
 clear x2 y2
 have hX := HN2.out.heap (List.mem_cons_self ..)
 have HX : Hid (V5x.heap[X]? = some (.cells (RowM.vals ⟨k, o, i, sp0, sp0, sp0, sp0⟩) 85 (0, 0))) := hX
 have cH := JK ⟨k, o, i, sp0, sp0, sp0, sp0⟩ V5x
 simp only [hP] at cH
 clear hX
 go_wp2_with (refine wpList_load_row rfl 85 (.tmp 6) rfl X rfl 85 (RowM.vals ⟨k, o, i, sp0, sp0, sp0, sp0⟩) (0, 0) _ HX.out Tryz.underlying85 rfl Qi ?_)
 refine cH.mono ?_
 rintro e W6 ⟨H, rfl, hH, hHl, hbH⟩
 have HR6 : Hid (RdS w W6 R s st3 ((H, 4, (P4.vals ⟨false, true, true, false⟩)) :: (X, 85, #[zU k, zU o, zI i, zI 0, zI 0, zI 0, zI 0, zI 0, zI 0, zI 0, zI 0]) :: (B, 85, #[zU 0, zU 0, zI 0, zI 0, zI 0, zI 0, zI 0, zI 0, zI 0, zI 0, zI 0]) :: bs)) := HN2.out.new hbH hHl hH
 clear cH hH hHl hbH HX HN2
 have h0 : W6.cell? ⟨H, 0, none⟩ = some (.bool false) := Co (HR6.out.heap (List.mem_cons_self ..)) 0
 go_upto_region 9 with fail
 clear h0
 have h1 : W6.cell? ⟨H, 1, none⟩ = some (.bool true) := Co (HR6.out.heap (List.mem_cons_self ..)) 1
 go_wp2_with fail
 refine (HS1.out _ _ HR6.out).mono ?_
 rintro e U1 ⟨rfl, hx⟩
 have hX := hx.heap (List.mem_cons_of_mem _ (List.mem_cons_self ..))
 have x1 : U1.cell? ⟨X, 5, none⟩ = some (zI 0) := Co hX 5
 have x2 : U1.cell? ⟨X, 6, none⟩ = some (zI 0) := Co hX 6
 have y1 : U1.frozen? ⟨X, 5, none⟩ = false := Fo hX 5
 have y2 : U1.frozen? ⟨X, 6, none⟩ = false := Fo hX 6
 have HU1 : Hid (RdS w ((U1.setCell ⟨X, 5, none⟩ (zI f)).setCell ⟨X, 6, none⟩ (zI f1)) R s su1 ((H, 4, (P4.vals ⟨false, true, true, false⟩)) :: (X, 85, #[zU k, zU o, zI i, zI 0, zI 0, zI f, zI f1, zI 0, zI 0, zI 0, zI 0]) :: (B, 85, #[zU 0, zU 0, zI 0, zI 0, zI 0, zI 0, zI 0, zI 0, zI 0, zI 0, zI 0]) :: bs)) := ((hx.swap.set 5 (zI f)).set 6 (zI f1)).swap
 clear hx hX HR6 h1
 go_upto_region 11 with fail
 generalize World.setCell (World.setCell U1 _ _) _ _ = U1x at HU1 ⊢
 clear x1 x2 y1 y2
 have x2 : U1x.cell? ⟨X, 6, none⟩ = some (zI f1) := Co (HU1.out.heap (List.mem_cons_of_mem _ (List.mem_cons_self ..))) 6
 go_upto_region 12 with fail
 clear x2
 have h2 : U1x.cell? ⟨H, 2, none⟩ = some (.bool true) := Co (HU1.out.heap (List.mem_cons_self ..)) 2
 go_wp2_with fail
 refine (HS2.out _ _ HU1.out).mono ?_
 rintro e U2 ⟨rfl, hx⟩
 have hX := hx.heap (List.mem_cons_of_mem _ (List.mem_cons_self ..))
 have x1 : U2.cell? ⟨X, 7, none⟩ = some (zI 0) := Co hX 7
 have x2 : U2.cell? ⟨X, 8, none⟩ = some (zI 0) := Co hX 8
 have y1 : U2.frozen? ⟨X, 7, none⟩ = false := Fo hX 7
 have y2 : U2.frozen? ⟨X, 8, none⟩ = false := Fo hX 8
 have HU2 : Hid (RdS w ((U2.setCell ⟨X, 7, none⟩ (zI f1)).setCell ⟨X, 8, none⟩ (zI f2)) R s su2 ((H, 4, (P4.vals ⟨false, true, true, false⟩)) :: (X, 85, #[zU k, zU o, zI i, zI 0, zI 0, zI f, zI f1, zI f1, zI f2, zI 0, zI 0]) :: (B, 85, #[zU 0, zU 0, zI 0, zI 0, zI 0, zI 0, zI 0, zI 0, zI 0, zI 0, zI 0]) :: bs)) := ((hx.swap.set 7 (zI f1)).set 8 (zI f2)).swap
 clear hx hX HU1 h2
 go_upto_region 14 with fail
 generalize World.setCell (World.setCell U2 _ _) _ _ = U2x at HU2 ⊢
 clear x1 x2 y1 y2
 have x2 : U2x.cell? ⟨X, 8, none⟩ = some (zI f2) := Co (HU2.out.heap (List.mem_cons_of_mem _ (List.mem_cons_self ..))) 8
 go_upto_region 15 with fail
 clear x2
 have h3 : U2x.cell? ⟨H, 3, none⟩ = some (.bool false) := Co (HU2.out.heap (List.mem_cons_self ..)) 3
 go_upto_region 18 with fail
 clear h3
 have HXF : Hid (U2x.heap[X]? = some (.cells (RowM.vals (Qr k o i [sp0, ⟨f, f1⟩, ⟨f1, f2⟩, sp0])) 85 (0, 0))) := HU2.out.heap (List.mem_cons_of_mem _ (List.mem_cons_self ..))
 have HBF : Hid (U2x.heap[B]? = some (.cells #[zU 0, zU 0, zI 0, zI 0, zI 0, zI 0, zI 0, zI 0, zI 0, zI 0, zI 0] 85 (0, 0))) := HU2.out.heap (List.mem_cons_of_mem _ (List.mem_cons_of_mem _ (List.mem_cons_self ..)))
 have HNF : Hid ((U2x.setRow B (RowM.vals (Qr k o i [sp0, ⟨f, f1⟩, ⟨f1, f2⟩, sp0]))).heap[B]? = some (.cells (RowM.vals (Qr k o i [sp0, ⟨f, f1⟩, ⟨f1, f2⟩, sp0])) 85 (0, 0))) := setRow_heap _ _ _ _ _ _ HBF.out
 have HEND : Hid (RdS w (U2x.setRow B (RowM.vals (Qr k o i [sp0, ⟨f, f1⟩, ⟨f1, f2⟩, sp0]))) R s su2 bs) := (HU2.out.less.less.row (RowM.vals (Qr k o i [sp0, ⟨f, f1⟩, ⟨f1, f2⟩, sp0]))).less
 clear HU2
 go_wp2_with (first | (refine wpList_load_row rfl 85 (.tmp 6) rfl X rfl 85 (RowM.vals (Qr k o i [sp0, ⟨f, f1⟩, ⟨f1, f2⟩, sp0])) (0, 0) _ HXF.out Tryz.underlying85 rfl Qi ?_) | (refine wpList_store_row rfl 85 (.tmp 4) (.tmp 62) rfl B (RowM.vals (Qr k o i [sp0, ⟨f, f1⟩, ⟨f1, f2⟩, sp0])) rfl rfl 85 #[zU 0, zU 0, zI 0, zI 0, zI 0, zI 0, zI 0, zI 0, zI 0, zI 0, zI 0] HBF.out Qi rfl (QQ _) ?_))
 rw [HR.out]
 exact bodyPost_ret (Rt2 rfl _ _ B 85 (RowM.vals (Qr k o i [sp0, ⟨f, f1⟩, ⟨f1, f2⟩, sp0])) (0, 0) _ rfl HNF.out Tryz.underlying85 rfl Qi) rfl ⟨rfl, HEND.out⟩
theorem rrow_d {w V : World} {R : Nat} {s : ByteArray} {st : Option Int} {bs : List Bx} (h : RdS w V R s st bs) (f : Int) (hf : 0 ≤ f ∧ f ≤ 900000000000) (hs : s.size ≤ 1099511627776) (hP : Qn (numS 6 s.data.toList st).1 (numS 5 s.data.toList (numS 6 s.data.toList st).2).1 = ⟨false, false, false, true⟩) :
  Calls zG 89 #[.pointer (some ⟨R, 0, none⟩), zI f] V (OutRw w R s bs (rowS s.data.toList f st)) := by
 have HSZ : Hid (s.size ≤ 1099511627776) := hs
 have hr := (rfl : rowS s.data.toList f st = rowS s.data.toList f st)
 conv at hr => rhs; unfold rowS; rw [hP]
 simp only [prts, spsS, Bool.false_eq_true, if_true, if_false] at hr
 obtain ⟨rr, err⟩ : ∃ r, rowS s.data.toList f st = r := ⟨_, rfl⟩
 rw [err] at hr ⊢
 obtain ⟨k, ek⟩ : ∃ q, (numS 6 s.data.toList st).1 = q := ⟨_, rfl⟩
 obtain ⟨st1, e1⟩ : ∃ q, (numS 6 s.data.toList st).2 = q := ⟨_, rfl⟩
 have hk := Qk 6 (by decide) s.data.toList st
 rw [ek] at hk
 obtain ⟨o, eo⟩ : ∃ q, (numS 5 s.data.toList st1).1 = q := ⟨_, rfl⟩
 obtain ⟨st2, e2⟩ : ∃ q, (numS 5 s.data.toList st1).2 = q := ⟨_, rfl⟩
 have ho := Qk 5 (by decide) s.data.toList st1
 rw [eo] at ho
 obtain ⟨i, ei⟩ : ∃ q, (numS 1000 s.data.toList st2).1 = q := ⟨_, rfl⟩
 obtain ⟨st3, e3⟩ : ∃ q, (numS 1000 s.data.toList st2).2 = q := ⟨_, rfl⟩
 have hi := Qk 1000 (by decide) s.data.toList st2
 rw [ei] at hi
 rw [ek, e1, eo] at hP
 simp only [ek, e1, eo, e2, ei, e3] at hr
 obtain ⟨n1, en1⟩ : ∃ q, (numS 4096 s.data.toList st3).1 = q := ⟨_, rfl⟩
 obtain ⟨su1, es1⟩ : ∃ q, (numS 4096 s.data.toList st3).2 = q := ⟨_, rfl⟩
 have hn1 := Qk 4096 (by decide) s.data.toList st3
 rw [en1] at hn1
 obtain ⟨f1, ef1⟩ : ∃ q, f + n1 = q := ⟨_, rfl⟩
 simp only [en1, es1, ef1] at hr
 have hf1 : 0 ≤ f1 ∧ f1 ≤ 900000004096 := by omega
 have HR : Hid (rr = (Qr k o i [sp0, sp0, sp0, ⟨f, f1⟩], f1, su1)) := hr
 have HC1 : Hid (∀ v bs, RdS w v R s st bs → Calls zG 46 #[.pointer (some ⟨R, 0, none⟩), .int .u64 6] v fun e V' => e = .returned (zI k) ∧ RdS w V' R s st1 bs) := fun v bs hv => by have := Q7 hv 6 (by decide) HSZ.out; rw [ek, e1] at this; exact this
 have HC2 : Hid (∀ v bs, RdS w v R s st1 bs → Calls zG 46 #[.pointer (some ⟨R, 0, none⟩), .int .u64 5] v fun e V' => e = .returned (zI o) ∧ RdS w V' R s st2 bs) := fun v bs hv => by have := Q7 hv 5 (by decide) HSZ.out; rw [eo, e2] at this; exact this
 have HC3 : Hid (∀ v bs, RdS w v R s st2 bs → Calls zG 46 #[.pointer (some ⟨R, 0, none⟩), .int .u64 1000] v fun e V' => e = .returned (zI i) ∧ RdS w V' R s st3 bs) := fun v bs hv => by have := Q7 hv 1000 (by decide) HSZ.out; rw [ei, e3] at this; exact this
 have HS1 : Hid (∀ v bs, RdS w v R s st3 bs → Calls zG 88 #[.pointer (some ⟨R, 0, none⟩), zI f] v fun e V' => e = .returned (.agg #[zI f, zI f1]) ∧ RdS w V' R s su1 bs) := fun v bs hv => by have := Ka hv f (by omega) HSZ.out; rw [en1, es1, ef1] at this; exact this
 have hq0 := Hn V (.cells #[zU 0, zU 0, zI 0, zI 0, zI 0, zI 0, zI 0, zI 0, zI 0, zI 0, zI 0] 85)
 have hR0 := h.new (Bn V (.cells #[zU 0, zU 0, zI 0, zI 0, zI 0, zI 0, zI 0, zI 0, zI 0, zI 0, zI 0] 85)) (Nat.le_refl _) hq0
 have hq1 := Hn (V.alloc (.cells #[zU 0, zU 0, zI 0, zI 0, zI 0, zI 0, zI 0, zI 0, zI 0, zI 0, zI 0] 85)) (.cells #[zU 0, zU 0, zI 0, zI 0, zI 0, zI 0, zI 0, zI 0, zI 0, zI 0, zI 0] 85)
 have hR1 := hR0.new (Bn (V.alloc (.cells #[zU 0, zU 0, zI 0, zI 0, zI 0, zI 0, zI 0, zI 0, zI 0, zI 0, zI 0] 85)) (.cells #[zU 0, zU 0, zI 0, zI 0, zI 0, zI 0, zI 0, zI 0, zI 0, zI 0, zI 0] 85)) (Nat.le_refl _) hq1
 rw [Sa] at hR1
 have hR2 := hR1.row #[zU 0, zU 0, zI 0, zI 0, zI 0, zI 0, zI 0, zI 0, zI 0, zI 0, zI 0]
 have HH1 : Hid (((V.alloc (.cells #[zU 0, zU 0, zI 0, zI 0, zI 0, zI 0, zI 0, zI 0, zI 0, zI 0, zI 0] 85)).alloc (.cells #[zU 0, zU 0, zI 0, zI 0, zI 0, zI 0, zI 0, zI 0, zI 0, zI 0, zI 0] 85)).heap[V§ + 1]? = some (.cells #[zU 0, zU 0, zI 0, zI 0, zI 0, zI 0, zI 0, zI 0, zI 0, zI 0, zI 0] 85 (0, 0))) := hR1.heap (List.mem_cons_self ..)
 have HR2 : Hid (RdS w (((V.alloc (.cells #[zU 0, zU 0, zI 0, zI 0, zI 0, zI 0, zI 0, zI 0, zI 0, zI 0, zI 0] 85)).alloc (.cells #[zU 0, zU 0, zI 0, zI 0, zI 0, zI 0, zI 0, zI 0, zI 0, zI 0, zI 0] 85)).setRow (V§ + 1) #[zU 0, zU 0, zI 0, zI 0, zI 0, zI 0, zI 0, zI 0, zI 0, zI 0, zI 0]) R s st ((V§ + 1, 85, #[zU 0, zU 0, zI 0, zI 0, zI 0, zI 0, zI 0, zI 0, zI 0, zI 0, zI 0]) :: (V§, 85, #[zU 0, zU 0, zI 0, zI 0, zI 0, zI 0, zI 0, zI 0, zI 0, zI 0, zI 0]) :: bs)) := hR2
 obtain ⟨X, eX⟩ : ∃ X, V§ + 1 = X := ⟨_, rfl⟩
 obtain ⟨B, eB⟩ : ∃ B, V§ = B := ⟨_, rfl⟩
 have hs0 : (V.alloc (.cells #[zU 0, zU 0, zI 0, zI 0, zI 0, zI 0, zI 0, zI 0, zI 0, zI 0, zI 0] 85))§ = X := by rw [Sa]; exact eX
 have HXX : Hid (V§ + 1 = X) := eX
 have HBB : Hid (V§ = B) := eB
 clear h hs hr err hq0 hR0 hq1 hR1 hR2 eX eB hs0 en1 es1 ef1 hn1 ek e1 eo e2 ei e3
 have k1 : 0 ≤ k ∧ k ≤ 255 := by omega
 have o1 : 0 ≤ o ∧ o ≤ 255 := by omega
 clear hk ho hi hf1 hf
 obtain ⟨k2, k3⟩ := k1
 obtain ⟨o2, o3⟩ := o1
 have HKO : Hid (0 ≤ k ∧ k ≤ 255 ∧ 0 ≤ o ∧ o ≤ 255) := ⟨k2, k3, o2, o3⟩
 clear k2 k3 o2 o3
 go_enter Tryz.func89, Tryz.ntmps89
 go_upto_region 2 with (refine wpList_store_row rfl 85 (.tmp 6) (.tmp 8) rfl (V§ + 1) #[zU 0, zU 0, zI 0, zI 0, zI 0, zI 0, zI 0, zI 0, zI 0, zI 0, zI 0] rfl rfl 85 #[zU 0, zU 0, zI 0, zI 0, zI 0, zI 0, zI 0, zI 0, zI 0, zI 0, zI 0] HH1.out Qi rfl (QQ ⟨0, 0, 0, sp0, sp0, sp0, sp0⟩) ?_)
 generalize World.setRow _ _ _ = V2 at HR2 ⊢
 rw [HXX.out] at HR2 ⊢
 rw [HBB.out] at HR2 ⊢
 clear HH1 HXX HBB
 go_wp2_with fail
 refine (HC1.out _ _ HR2.out).mono ?_
 rintro e V3 ⟨rfl, hx⟩
 have hX := hx.heap (List.mem_cons_self ..)
 have x0 : V3.cell? ⟨X, 0, none⟩ = some (zU 0) := Co hX 0
 have y0 : V3.frozen? ⟨X, 0, none⟩ = false := Fo hX 0
 have HN0 : Hid (RdS w (V3.setCell ⟨X, 0, none⟩ (zU k)) R s st1 ((X, 85, #[zU k, zU 0, zI 0, zI 0, zI 0, zI 0, zI 0, zI 0, zI 0, zI 0, zI 0]) :: (B, 85, #[zU 0, zU 0, zI 0, zI 0, zI 0, zI 0, zI 0, zI 0, zI 0, zI 0, zI 0]) :: bs)) := hx.set 0 (zU k)
 clear hx hX HR2
 have b1 := HKO.out.1
 have b2 := HKO.out.2.1
 go_upto_region 3 with fail
 generalize World.setCell V3 _ _ = V3x at HN0 ⊢
 clear x0 y0 b1 b2
 go_wp2_with fail
 refine (HC2.out _ _ HN0.out).mono ?_
 rintro e V4 ⟨rfl, hx⟩
 have hX := hx.heap (List.mem_cons_self ..)
 have x1 : V4.cell? ⟨X, 1, none⟩ = some (zU 0) := Co hX 1
 have y1 : V4.frozen? ⟨X, 1, none⟩ = false := Fo hX 1
 have HN1 : Hid (RdS w (V4.setCell ⟨X, 1, none⟩ (zU o)) R s st2 ((X, 85, #[zU k, zU o, zI 0, zI 0, zI 0, zI 0, zI 0, zI 0, zI 0, zI 0, zI 0]) :: (B, 85, #[zU 0, zU 0, zI 0, zI 0, zI 0, zI 0, zI 0, zI 0, zI 0, zI 0, zI 0]) :: bs)) := hx.set 1 (zU o)
 clear hx hX HN0
 have b1 := HKO.out.2.2.1
 have b2 := HKO.out.2.2.2
 go_upto_region 4 with fail
 generalize World.setCell V4 _ _ = V4x at HN1 ⊢
 clear x1 y1 b1 b2
 go_wp2_with fail
 refine (HC3.out _ _ HN1.out).mono ?_
 rintro e V5 ⟨rfl, hx⟩
 have hX := hx.heap (List.mem_cons_self ..)
 have x2 : V5.cell? ⟨X, 2, none⟩ = some (zI 0) := Co hX 2
 have y2 : V5.frozen? ⟨X, 2, none⟩ = false := Fo hX 2
 have HN2 : Hid (RdS w (V5.setCell ⟨X, 2, none⟩ (zI i)) R s st3 ((X, 85, #[zU k, zU o, zI i, zI 0, zI 0, zI 0, zI 0, zI 0, zI 0, zI 0, zI 0]) :: (B, 85, #[zU 0, zU 0, zI 0, zI 0, zI 0, zI 0, zI 0, zI 0, zI 0, zI 0, zI 0]) :: bs)) := hx.set 2 (zI i)
 clear hx hX HN1
 go_upto_region 5 with fail
 generalize World.setCell V5 _ _ = V5x at HN2 ⊢
 clear x2 y2
 have hX := HN2.out.heap (List.mem_cons_self ..)
 have HX : Hid (V5x.heap[X]? = some (.cells (RowM.vals ⟨k, o, i, sp0, sp0, sp0, sp0⟩) 85 (0, 0))) := hX
 have cH := JK ⟨k, o, i, sp0, sp0, sp0, sp0⟩ V5x
 simp only [hP] at cH
 clear hX
 go_wp2_with (refine wpList_load_row rfl 85 (.tmp 6) rfl X rfl 85 (RowM.vals ⟨k, o, i, sp0, sp0, sp0, sp0⟩) (0, 0) _ HX.out Tryz.underlying85 rfl Qi ?_)
 refine cH.mono ?_
 rintro e W6 ⟨H, rfl, hH, hHl, hbH⟩
 have HR6 : Hid (RdS w W6 R s st3 ((H, 4, (P4.vals ⟨false, false, false, true⟩)) :: (X, 85, #[zU k, zU o, zI i, zI 0, zI 0, zI 0, zI 0, zI 0, zI 0, zI 0, zI 0]) :: (B, 85, #[zU 0, zU 0, zI 0, zI 0, zI 0, zI 0, zI 0, zI 0, zI 0, zI 0, zI 0]) :: bs)) := HN2.out.new hbH hHl hH
 clear cH hH hHl hbH HX HN2
 have h0 : W6.cell? ⟨H, 0, none⟩ = some (.bool false) := Co (HR6.out.heap (List.mem_cons_self ..)) 0
 go_upto_region 9 with fail
 clear h0
 have h1 : W6.cell? ⟨H, 1, none⟩ = some (.bool false) := Co (HR6.out.heap (List.mem_cons_self ..)) 1
 go_upto_region 12 with fail
 clear h1
 have h2 : W6.cell? ⟨H, 2, none⟩ = some (.bool false) := Co (HR6.out.heap (List.mem_cons_self ..)) 2
 go_upto_region 15 with fail
 clear h2
 have h3 : W6.cell? ⟨H, 3, none⟩ = some (.bool true) := Co (HR6.out.heap (List.mem_cons_self ..)) 3
 go_wp2_with fail
 refine (HS1.out _ _ HR6.out).mono ?_
 rintro e U1 ⟨rfl, hx⟩
 have hX := hx.heap (List.mem_cons_of_mem _ (List.mem_cons_self ..))
 have x1 : U1.cell? ⟨X, 9, none⟩ = some (zI 0) := Co hX 9
 have x2 : U1.cell? ⟨X, 10, none⟩ = some (zI 0) := Co hX 10
 have y1 : U1.frozen? ⟨X, 9, none⟩ = false := Fo hX 9
 have y2 : U1.frozen? ⟨X, 10, none⟩ = false := Fo hX 10
 have HU1 : Hid (RdS w ((U1.setCell ⟨X, 9, none⟩ (zI f)).setCell ⟨X, 10, none⟩ (zI f1)) R s su1 ((H, 4, (P4.vals ⟨false, false, false, true⟩)) :: (X, 85, #[zU k, zU o, zI i, zI 0, zI 0, zI 0, zI 0, zI 0, zI 0, zI f, zI f1]) :: (B, 85, #[zU 0, zU 0, zI 0, zI 0, zI 0, zI 0, zI 0, zI 0, zI 0, zI 0, zI 0]) :: bs)) := ((hx.swap.set 9 (zI f)).set 10 (zI f1)).swap
 clear hx hX HR6 h3
 go_upto_region 17 with fail
 generalize World.setCell (World.setCell U1 _ _) _ _ = U1x at HU1 ⊢
 clear x1 x2 y1 y2
 have x2 : U1x.cell? ⟨X, 10, none⟩ = some (zI f1) := Co (HU1.out.heap (List.mem_cons_of_mem _ (List.mem_cons_self ..))) 10
 go_upto_region 18 with fail
 clear x2
 have HXF : Hid (U1x.heap[X]? = some (.cells (RowM.vals (Qr k o i [sp0, sp0, sp0, ⟨f, f1⟩])) 85 (0, 0))) := HU1.out.heap (List.mem_cons_of_mem _ (List.mem_cons_self ..))
 have HBF : Hid (U1x.heap[B]? = some (.cells #[zU 0, zU 0, zI 0, zI 0, zI 0, zI 0, zI 0, zI 0, zI 0, zI 0, zI 0] 85 (0, 0))) := HU1.out.heap (List.mem_cons_of_mem _ (List.mem_cons_of_mem _ (List.mem_cons_self ..)))
 have HNF : Hid ((U1x.setRow B (RowM.vals (Qr k o i [sp0, sp0, sp0, ⟨f, f1⟩]))).heap[B]? = some (.cells (RowM.vals (Qr k o i [sp0, sp0, sp0, ⟨f, f1⟩])) 85 (0, 0))) := setRow_heap _ _ _ _ _ _ HBF.out
 have HEND : Hid (RdS w (U1x.setRow B (RowM.vals (Qr k o i [sp0, sp0, sp0, ⟨f, f1⟩]))) R s su1 bs) := (HU1.out.less.less.row (RowM.vals (Qr k o i [sp0, sp0, sp0, ⟨f, f1⟩]))).less
 clear HU1
 go_wp2_with (first | (refine wpList_load_row rfl 85 (.tmp 6) rfl X rfl 85 (RowM.vals (Qr k o i [sp0, sp0, sp0, ⟨f, f1⟩])) (0, 0) _ HXF.out Tryz.underlying85 rfl Qi ?_) | (refine wpList_store_row rfl 85 (.tmp 4) (.tmp 62) rfl B (RowM.vals (Qr k o i [sp0, sp0, sp0, ⟨f, f1⟩])) rfl rfl 85 #[zU 0, zU 0, zI 0, zI 0, zI 0, zI 0, zI 0, zI 0, zI 0, zI 0, zI 0] HBF.out Qi rfl (QQ _) ?_))
 rw [HR.out]
 exact bodyPost_ret (Rt2 rfl _ _ B 85 (RowM.vals (Qr k o i [sp0, sp0, sp0, ⟨f, f1⟩])) (0, 0) _ rfl HNF.out Tryz.underlying85 rfl Qi) rfl ⟨rfl, HEND.out⟩
theorem rrow_e {w V : World} {R : Nat} {s : ByteArray} {st : Option Int} {bs : List Bx} (h : RdS w V R s st bs) (f : Int) (hf : 0 ≤ f ∧ f ≤ 900000000000) (hs : s.size ≤ 1099511627776) (hP : Qn (numS 6 s.data.toList st).1 (numS 5 s.data.toList (numS 6 s.data.toList st).2).1 = ⟨false, false, false, false⟩) :
  Calls zG 89 #[.pointer (some ⟨R, 0, none⟩), zI f] V (OutRw w R s bs (rowS s.data.toList f st)) := by
 have HSZ : Hid (s.size ≤ 1099511627776) := hs
 have hr := (rfl : rowS s.data.toList f st = rowS s.data.toList f st)
 conv at hr => rhs; unfold rowS; rw [hP]
 simp only [prts, spsS, Bool.false_eq_true, if_true, if_false] at hr
 obtain ⟨rr, err⟩ : ∃ r, rowS s.data.toList f st = r := ⟨_, rfl⟩
 rw [err] at hr ⊢
 obtain ⟨k, ek⟩ : ∃ q, (numS 6 s.data.toList st).1 = q := ⟨_, rfl⟩
 obtain ⟨st1, e1⟩ : ∃ q, (numS 6 s.data.toList st).2 = q := ⟨_, rfl⟩
 have hk := Qk 6 (by decide) s.data.toList st
 rw [ek] at hk
 obtain ⟨o, eo⟩ : ∃ q, (numS 5 s.data.toList st1).1 = q := ⟨_, rfl⟩
 obtain ⟨st2, e2⟩ : ∃ q, (numS 5 s.data.toList st1).2 = q := ⟨_, rfl⟩
 have ho := Qk 5 (by decide) s.data.toList st1
 rw [eo] at ho
 obtain ⟨i, ei⟩ : ∃ q, (numS 1000 s.data.toList st2).1 = q := ⟨_, rfl⟩
 obtain ⟨st3, e3⟩ : ∃ q, (numS 1000 s.data.toList st2).2 = q := ⟨_, rfl⟩
 have hi := Qk 1000 (by decide) s.data.toList st2
 rw [ei] at hi
 rw [ek, e1, eo] at hP
 simp only [ek, e1, eo, e2, ei, e3] at hr
 have HR : Hid (rr = (Qr k o i [sp0, sp0, sp0, sp0], f, st3)) := hr
 have HC1 : Hid (∀ v bs, RdS w v R s st bs → Calls zG 46 #[.pointer (some ⟨R, 0, none⟩), .int .u64 6] v fun e V' => e = .returned (zI k) ∧ RdS w V' R s st1 bs) := fun v bs hv => by have := Q7 hv 6 (by decide) HSZ.out; rw [ek, e1] at this; exact this
 have HC2 : Hid (∀ v bs, RdS w v R s st1 bs → Calls zG 46 #[.pointer (some ⟨R, 0, none⟩), .int .u64 5] v fun e V' => e = .returned (zI o) ∧ RdS w V' R s st2 bs) := fun v bs hv => by have := Q7 hv 5 (by decide) HSZ.out; rw [eo, e2] at this; exact this
 have HC3 : Hid (∀ v bs, RdS w v R s st2 bs → Calls zG 46 #[.pointer (some ⟨R, 0, none⟩), .int .u64 1000] v fun e V' => e = .returned (zI i) ∧ RdS w V' R s st3 bs) := fun v bs hv => by have := Q7 hv 1000 (by decide) HSZ.out; rw [ei, e3] at this; exact this
 have hq0 := Hn V (.cells #[zU 0, zU 0, zI 0, zI 0, zI 0, zI 0, zI 0, zI 0, zI 0, zI 0, zI 0] 85)
 have hR0 := h.new (Bn V (.cells #[zU 0, zU 0, zI 0, zI 0, zI 0, zI 0, zI 0, zI 0, zI 0, zI 0, zI 0] 85)) (Nat.le_refl _) hq0
 have hq1 := Hn (V.alloc (.cells #[zU 0, zU 0, zI 0, zI 0, zI 0, zI 0, zI 0, zI 0, zI 0, zI 0, zI 0] 85)) (.cells #[zU 0, zU 0, zI 0, zI 0, zI 0, zI 0, zI 0, zI 0, zI 0, zI 0, zI 0] 85)
 have hR1 := hR0.new (Bn (V.alloc (.cells #[zU 0, zU 0, zI 0, zI 0, zI 0, zI 0, zI 0, zI 0, zI 0, zI 0, zI 0] 85)) (.cells #[zU 0, zU 0, zI 0, zI 0, zI 0, zI 0, zI 0, zI 0, zI 0, zI 0, zI 0] 85)) (Nat.le_refl _) hq1
 rw [Sa] at hR1
 have hR2 := hR1.row #[zU 0, zU 0, zI 0, zI 0, zI 0, zI 0, zI 0, zI 0, zI 0, zI 0, zI 0]
 have HH1 : Hid (((V.alloc (.cells #[zU 0, zU 0, zI 0, zI 0, zI 0, zI 0, zI 0, zI 0, zI 0, zI 0, zI 0] 85)).alloc (.cells #[zU 0, zU 0, zI 0, zI 0, zI 0, zI 0, zI 0, zI 0, zI 0, zI 0, zI 0] 85)).heap[V§ + 1]? = some (.cells #[zU 0, zU 0, zI 0, zI 0, zI 0, zI 0, zI 0, zI 0, zI 0, zI 0, zI 0] 85 (0, 0))) := hR1.heap (List.mem_cons_self ..)
 have HR2 : Hid (RdS w (((V.alloc (.cells #[zU 0, zU 0, zI 0, zI 0, zI 0, zI 0, zI 0, zI 0, zI 0, zI 0, zI 0] 85)).alloc (.cells #[zU 0, zU 0, zI 0, zI 0, zI 0, zI 0, zI 0, zI 0, zI 0, zI 0, zI 0] 85)).setRow (V§ + 1) #[zU 0, zU 0, zI 0, zI 0, zI 0, zI 0, zI 0, zI 0, zI 0, zI 0, zI 0]) R s st ((V§ + 1, 85, #[zU 0, zU 0, zI 0, zI 0, zI 0, zI 0, zI 0, zI 0, zI 0, zI 0, zI 0]) :: (V§, 85, #[zU 0, zU 0, zI 0, zI 0, zI 0, zI 0, zI 0, zI 0, zI 0, zI 0, zI 0]) :: bs)) := hR2
 obtain ⟨X, eX⟩ : ∃ X, V§ + 1 = X := ⟨_, rfl⟩
 obtain ⟨B, eB⟩ : ∃ B, V§ = B := ⟨_, rfl⟩
 have hs0 : (V.alloc (.cells #[zU 0, zU 0, zI 0, zI 0, zI 0, zI 0, zI 0, zI 0, zI 0, zI 0, zI 0] 85))§ = X := by rw [Sa]; exact eX
 have HXX : Hid (V§ + 1 = X) := eX
 have HBB : Hid (V§ = B) := eB
 clear h hs hr err hq0 hR0 hq1 hR1 hR2 eX eB hs0  ek e1 eo e2 ei e3
 have k1 : 0 ≤ k ∧ k ≤ 255 := by omega
 have o1 : 0 ≤ o ∧ o ≤ 255 := by omega
 clear hk ho hi  hf
 obtain ⟨k2, k3⟩ := k1
 obtain ⟨o2, o3⟩ := o1
 have HKO : Hid (0 ≤ k ∧ k ≤ 255 ∧ 0 ≤ o ∧ o ≤ 255) := ⟨k2, k3, o2, o3⟩
 clear k2 k3 o2 o3
 go_enter Tryz.func89, Tryz.ntmps89
 go_upto_region 2 with (refine wpList_store_row rfl 85 (.tmp 6) (.tmp 8) rfl (V§ + 1) #[zU 0, zU 0, zI 0, zI 0, zI 0, zI 0, zI 0, zI 0, zI 0, zI 0, zI 0] rfl rfl 85 #[zU 0, zU 0, zI 0, zI 0, zI 0, zI 0, zI 0, zI 0, zI 0, zI 0, zI 0] HH1.out Qi rfl (QQ ⟨0, 0, 0, sp0, sp0, sp0, sp0⟩) ?_)
 generalize World.setRow _ _ _ = V2 at HR2 ⊢
 rw [HXX.out] at HR2 ⊢
 rw [HBB.out] at HR2 ⊢
 clear HH1 HXX HBB
 go_wp2_with fail
 refine (HC1.out _ _ HR2.out).mono ?_
 rintro e V3 ⟨rfl, hx⟩
 have hX := hx.heap (List.mem_cons_self ..)
 have x0 : V3.cell? ⟨X, 0, none⟩ = some (zU 0) := Co hX 0
 have y0 : V3.frozen? ⟨X, 0, none⟩ = false := Fo hX 0
 have HN0 : Hid (RdS w (V3.setCell ⟨X, 0, none⟩ (zU k)) R s st1 ((X, 85, #[zU k, zU 0, zI 0, zI 0, zI 0, zI 0, zI 0, zI 0, zI 0, zI 0, zI 0]) :: (B, 85, #[zU 0, zU 0, zI 0, zI 0, zI 0, zI 0, zI 0, zI 0, zI 0, zI 0, zI 0]) :: bs)) := hx.set 0 (zU k)
 clear hx hX HR2
 have b1 := HKO.out.1
 have b2 := HKO.out.2.1
 go_upto_region 3 with fail
 generalize World.setCell V3 _ _ = V3x at HN0 ⊢
 clear x0 y0 b1 b2
 go_wp2_with fail
 refine (HC2.out _ _ HN0.out).mono ?_
 rintro e V4 ⟨rfl, hx⟩
 have hX := hx.heap (List.mem_cons_self ..)
 have x1 : V4.cell? ⟨X, 1, none⟩ = some (zU 0) := Co hX 1
 have y1 : V4.frozen? ⟨X, 1, none⟩ = false := Fo hX 1
 have HN1 : Hid (RdS w (V4.setCell ⟨X, 1, none⟩ (zU o)) R s st2 ((X, 85, #[zU k, zU o, zI 0, zI 0, zI 0, zI 0, zI 0, zI 0, zI 0, zI 0, zI 0]) :: (B, 85, #[zU 0, zU 0, zI 0, zI 0, zI 0, zI 0, zI 0, zI 0, zI 0, zI 0, zI 0]) :: bs)) := hx.set 1 (zU o)
 clear hx hX HN0
 have b1 := HKO.out.2.2.1
 have b2 := HKO.out.2.2.2
 go_upto_region 4 with fail
 generalize World.setCell V4 _ _ = V4x at HN1 ⊢
 clear x1 y1 b1 b2
 go_wp2_with fail
 refine (HC3.out _ _ HN1.out).mono ?_
 rintro e V5 ⟨rfl, hx⟩
 have hX := hx.heap (List.mem_cons_self ..)
 have x2 : V5.cell? ⟨X, 2, none⟩ = some (zI 0) := Co hX 2
 have y2 : V5.frozen? ⟨X, 2, none⟩ = false := Fo hX 2
 have HN2 : Hid (RdS w (V5.setCell ⟨X, 2, none⟩ (zI i)) R s st3 ((X, 85, #[zU k, zU o, zI i, zI 0, zI 0, zI 0, zI 0, zI 0, zI 0, zI 0, zI 0]) :: (B, 85, #[zU 0, zU 0, zI 0, zI 0, zI 0, zI 0, zI 0, zI 0, zI 0, zI 0, zI 0]) :: bs)) := hx.set 2 (zI i)
 clear hx hX HN1
 go_upto_region 5 with fail
 generalize World.setCell V5 _ _ = V5x at HN2 ⊢
 clear x2 y2
 have hX := HN2.out.heap (List.mem_cons_self ..)
 have HX : Hid (V5x.heap[X]? = some (.cells (RowM.vals ⟨k, o, i, sp0, sp0, sp0, sp0⟩) 85 (0, 0))) := hX
 have cH := JK ⟨k, o, i, sp0, sp0, sp0, sp0⟩ V5x
 simp only [hP] at cH
 clear hX
 go_wp2_with (refine wpList_load_row rfl 85 (.tmp 6) rfl X rfl 85 (RowM.vals ⟨k, o, i, sp0, sp0, sp0, sp0⟩) (0, 0) _ HX.out Tryz.underlying85 rfl Qi ?_)
 refine cH.mono ?_
 rintro e W6 ⟨H, rfl, hH, hHl, hbH⟩
 have HR6 : Hid (RdS w W6 R s st3 ((H, 4, (P4.vals ⟨false, false, false, false⟩)) :: (X, 85, #[zU k, zU o, zI i, zI 0, zI 0, zI 0, zI 0, zI 0, zI 0, zI 0, zI 0]) :: (B, 85, #[zU 0, zU 0, zI 0, zI 0, zI 0, zI 0, zI 0, zI 0, zI 0, zI 0, zI 0]) :: bs)) := HN2.out.new hbH hHl hH
 clear cH hH hHl hbH HX HN2
 have h0 : W6.cell? ⟨H, 0, none⟩ = some (.bool false) := Co (HR6.out.heap (List.mem_cons_self ..)) 0
 go_upto_region 9 with fail
 clear h0
 have h1 : W6.cell? ⟨H, 1, none⟩ = some (.bool false) := Co (HR6.out.heap (List.mem_cons_self ..)) 1
 go_upto_region 12 with fail
 clear h1
 have h2 : W6.cell? ⟨H, 2, none⟩ = some (.bool false) := Co (HR6.out.heap (List.mem_cons_self ..)) 2
 go_upto_region 15 with fail
 clear h2
 have h3 : W6.cell? ⟨H, 3, none⟩ = some (.bool false) := Co (HR6.out.heap (List.mem_cons_self ..)) 3
 go_upto_region 18 with fail
 clear h3
 have HXF : Hid (W6.heap[X]? = some (.cells (RowM.vals (Qr k o i [sp0, sp0, sp0, sp0])) 85 (0, 0))) := HR6.out.heap (List.mem_cons_of_mem _ (List.mem_cons_self ..))
 have HBF : Hid (W6.heap[B]? = some (.cells #[zU 0, zU 0, zI 0, zI 0, zI 0, zI 0, zI 0, zI 0, zI 0, zI 0, zI 0] 85 (0, 0))) := HR6.out.heap (List.mem_cons_of_mem _ (List.mem_cons_of_mem _ (List.mem_cons_self ..)))
 have HNF : Hid ((W6.setRow B (RowM.vals (Qr k o i [sp0, sp0, sp0, sp0]))).heap[B]? = some (.cells (RowM.vals (Qr k o i [sp0, sp0, sp0, sp0])) 85 (0, 0))) := setRow_heap _ _ _ _ _ _ HBF.out
 have HEND : Hid (RdS w (W6.setRow B (RowM.vals (Qr k o i [sp0, sp0, sp0, sp0]))) R s st3 bs) := (HR6.out.less.less.row (RowM.vals (Qr k o i [sp0, sp0, sp0, sp0]))).less
 clear HR6
 go_wp2_with (first | (refine wpList_load_row rfl 85 (.tmp 6) rfl X rfl 85 (RowM.vals (Qr k o i [sp0, sp0, sp0, sp0])) (0, 0) _ HXF.out Tryz.underlying85 rfl Qi ?_) | (refine wpList_store_row rfl 85 (.tmp 4) (.tmp 62) rfl B (RowM.vals (Qr k o i [sp0, sp0, sp0, sp0])) rfl rfl 85 #[zU 0, zU 0, zI 0, zI 0, zI 0, zI 0, zI 0, zI 0, zI 0, zI 0, zI 0] HBF.out Qi rfl (QQ _) ?_))
 rw [HR.out]
 exact bodyPost_ret (Rt2 rfl _ _ B 85 (RowM.vals (Qr k o i [sp0, sp0, sp0, sp0])) (0, 0) _ rfl HNF.out Tryz.underlying85 rfl Qi) rfl ⟨rfl, HEND.out⟩
theorem rrowS {w V : World} {R : Nat} {s : ByteArray} {st : Option Int} {bs : List Bx} (h : RdS w V R s st bs) (f : Int) (hf : 0 ≤ f ∧ f ≤ 900000000000) (hs : s.size ≤ 1099511627776) :
  Calls zG 89 #[.pointer (some ⟨R, 0, none⟩), zI f] V (OutRw w R s bs (rowS s.data.toList f st)) := by
 obtain ⟨k, ek⟩ : ∃ q, (numS 6 s.data.toList st).1 = q := ⟨_, rfl⟩
 obtain ⟨o, eo⟩ : ∃ q, (numS 5 s.data.toList (numS 6 s.data.toList st).2).1 = q := ⟨_, rfl⟩
 by_cases h1 : k = 1
 ·by_cases h2 : o = 2
  ·exact rrow_b h f hf hs (by rw [ek, eo, h1, h2]; rfl)
  ·refine rrow_a h f hf hs ?_
   rw [ek, eo, h1]
   have : (o != 2) = true := bne_iff_ne.2 h2
   simp [Qn, this]
 ·by_cases h2 : k = 2
  ·exact rrow_c h f hf hs (by rw [ek, eo, h2]; rfl)
  ·by_cases h4 : k = 4
   ·exact rrow_d h f hf hs (by rw [ek, eo, h4]; rfl)
   ·exact rrow_e h f hf hs (by rw [ek, eo]; simp [Qn, h1, h2, h4])
end Go.Proofs.YteedmmljahgpjaaGreatDoor
