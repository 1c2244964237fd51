import Derived.Test.YtjimaceccllnlaaGreatDoorA0
import Derived.Test.YtjimaceccllnlaaGreatDoorA30
namespace Go.Proofs.YtjimaceccllnlaaGreatDoor
set_option maxRecDepth 100000
set_option maxHeartbeats 16000000
open Go.RowKit
set_option linter.unusedVariables false
set_option linter.unusedSimpArgs false
theorem size28' : (Tryz.prog.info? 28).map (·.size) = some 8 := by kernel_rfl
theorem inf28' : (Tryz.prog.info? 28).map (fun i => (i.zero, i.size, i.bytes)) = some (some (.agg #[.int .u8 0, .int .u8 0, .int .u8 0, .int .i64 0, .int .u8 0, .string ⟨#[]⟩, .slice none 0 0, .int .i64 0]), 8, 72) := by kernel_rfl
structure B3 (w V : World) (x y z : Nd) : Prop where
  B : Below w§ w V
  X : V.heap[w§]? = some (.cells x.vals 28 (0, 0))
  Y : V.heap[w§ + 1]? = some (.cells y.vals 28 (0, 0))
  Z : V.heap[w§ + 2]? = some (.cells z.vals 28 (0, 0))
theorem B3.on {w V V' : World} {x y z : Nd} (h : B3 w V x y z) (k : Below V§ V V') : B3 w V' x y z := ⟨below2 h.B k, (k.block _ (Array.getElem?_eq_some_iff.1 h.X).1).trans h.X, (k.block _ (Array.getElem?_eq_some_iff.1 h.Y).1).trans h.Y, (k.block _ (Array.getElem?_eq_some_iff.1 h.Z).1).trans h.Z⟩
theorem B3.new (w : World) (x y z : Nd) : B3 w (((w.alloc (.cells x.vals 28)).alloc (.cells y.vals 28)).alloc (.cells z.vals 28)) x y z := by
  have b1 := Bn w (.cells x.vals 28)
  have n1 := Hn w (.cells x.vals 28)
  have s1 := Sa w (.cells x.vals 28)
  have b2 := Bn (w.alloc (.cells x.vals 28)) (.cells y.vals 28)
  have n2 := Hn (w.alloc (.cells x.vals 28)) (.cells y.vals 28)
  have s2 := Sa (w.alloc (.cells x.vals 28)) (.cells y.vals 28)
  have b3 := Bn ((w.alloc (.cells x.vals 28)).alloc (.cells y.vals 28)) (.cells z.vals 28)
  have n3 := Hn ((w.alloc (.cells x.vals 28)).alloc (.cells y.vals 28)) (.cells z.vals 28)
  rw [s1] at n2 s2
  rw [s2] at n3
  have k1 := (b2.block _ (Array.getElem?_eq_some_iff.1 n1).1).trans n1
  exact ⟨below2 (below2 b1 b2) b3, (b3.block _ (Array.getElem?_eq_some_iff.1 k1).1).trans k1, (b3.block _ (Array.getElem?_eq_some_iff.1 n2).1).trans n2, n3⟩
theorem at_1 {w : World} {b : Nat} {x : Nd} {r : Array Value} (h : w.heap[b]? = some (.cells (x.vals ++ r) 28 (0, 0))) : NdAt w b (0 + 0 * 8) x := by
  constructor <;> (rw [Co h, Array.getElem?_append_left (by decide : _ < 8)]; rfl)
theorem at_2 {w : World} {b : Nat} {x y : Nd} {r : Array Value} (h : w.heap[b]? = some (.cells (x.vals ++ y.vals ++ r) 28 (0, 0))) : NdAt w b (0 + 1 * 8) y := by
  constructor <;> (rw [Co h, Array.getElem?_append_left (by rw [Array.size_append]; show _ < 8 + 8; omega), Array.getElem?_append_right (by show 8 ≤ _; omega)]; rfl)
theorem at_3 {w : World} {b : Nat} {x y z : Nd} (h : w.heap[b]? = some (.cells (x.vals ++ y.vals ++ z.vals) 28 (0, 0))) : NdAt w b (0 + 2 * 8) z := by
  constructor <;> (rw [Co h, Array.getElem?_append_right (by rw [Array.size_append]; show 8 + 8 ≤ _; omega)]; rfl)
theorem at_e {w : World} {b : Nat} {x : Nd} (h : w.heap[b]? = some (.cells x.vals 28 (0, 0))) : NdAt w b (0 + 0 * 8) x := by
  constructor <;> (rw [Co h]; rfl)
theorem at_f {w : World} {b : Nat} {x y : Nd} (h : w.heap[b]? = some (.cells (x.vals ++ y.vals) 28 (0, 0))) : NdAt w b (0 + 1 * 8) y := by
  constructor <;> (rw [Co h, Array.getElem?_append_right (by show 8 ≤ _; omega)]; rfl)
theorem pnd1 (w : World) (h : Hd) (hr : Rg h) {x : Nd} (hx : Lies w x) : Lies (w.alloc (.cells x.vals 28)) (.mk h (some ⟨w§, 0, none⟩) 1 [x]) := by
  have b := Bn w (.cells x.vals 28)
  have n := Hn w (.cells x.vals 28)
  refine .mk h _ 1 [x] hr (by simp) (by decide) (fun i hi => ⟨_, 0, rfl, ?_⟩) (fun k hk => ?_)
  · obtain rfl : i = 0 := by simp at hi; omega
    exact at_e n
  · obtain rfl : k = x := by simpa using hk
    exact hx.on b
theorem pnd2 (w : World) (h : Hd) (hr : Rg h) {x y : Nd} (hx : Lies w x) (hy : Lies w y) : Lies (w.alloc (.cells (x.vals ++ y.vals) 28)) (.mk h (some ⟨w§, 0, none⟩) 2 [x, y]) := by
  have b := Bn w (.cells (x.vals ++ y.vals) 28)
  have n := Hn w (.cells (x.vals ++ y.vals) 28)
  refine .mk h _ 2 [x, y] hr (by simp) (by decide) (fun i hi => ⟨_, 0, rfl, ?_⟩) (fun k hk => ?_)
  · match i, hi with
    | 0, _ => exact at_1 n
    | 1, _ => exact at_f n
  · simp only [List.mem_cons, List.not_mem_nil, or_false] at hk
    rcases hk with rfl | rfl
    · exact hx.on b
    · exact hy.on b
theorem pnd3 (w : World) (h : Hd) (hr : Rg h) {x y z : Nd} (hx : Lies w x) (hy : Lies w y) (hz : Lies w z) : Lies (w.alloc (.cells (x.vals ++ y.vals ++ z.vals) 28)) (.mk h (some ⟨w§, 0, none⟩) 3 [x, y, z]) := by
  have b := Bn w (.cells (x.vals ++ y.vals ++ z.vals) 28)
  have n := Hn w (.cells (x.vals ++ y.vals ++ z.vals) 28)
  refine .mk h _ 3 [x, y, z] hr (by simp) (by decide) (fun i hi => ⟨_, 0, rfl, ?_⟩) (fun k hk => ?_)
  · match i, hi with
    | 0, _ => rw [Array.append_assoc] at n; exact at_1 n
    | 1, _ => exact at_2 n
    | 2, _ => exact at_3 n
  · simp only [List.mem_cons, List.not_mem_nil, or_false] at hk
    rcases hk with rfl | rfl | rfl
    · exact hx.on b
    · exact hy.on b
    · exact hz.on b
theorem rg7 : Rg ⟨7, 0, 0, 0, 0, ⟨#[]⟩, 0⟩ := by constructor <;> decide
theorem rg6 : Rg ⟨6, 17, 0, 0, 0, ⟨#[]⟩, 0⟩ := by constructor <;> decide
theorem rg8 : Rg ⟨8, 4, 0, 0, 0, ⟨#[]⟩, 0⟩ := by constructor <;> decide
theorem rg5 : Rg ⟨5, 2, 0, 0, 0, ⟨#[]⟩, 0⟩ := by constructor <;> decide
theorem rg9 : Rg ⟨9, 0, 1, 0, 0, ⟨#[]⟩, 0⟩ := by constructor <;> decide
theorem exW_f {m : Nd} (h : formB m = true) : exW m = wgt m := if_pos h
structure P3 (w : World) (x y z : Nd) : Prop where
  lx : Lies w x
  ly : Lies w y
  lz : Lies w z
  fx : formB x = true
  fy : formB y = true
  fz : formB z = true
  sx : size x ≤ 1048576
  sy : size y ≤ 1048576
  sz : size z ≤ 1048576
theorem e_cond {x y z : Nd} (a : Option Addr) (c : Nat) (h1 : formB x = true) (h2 : formB y = true) (h3 : formB z = true) : exW (.mk ⟨7, 0, 0, 0, 0, ⟨#[]⟩, 0⟩ a c [x, y, z]) = 2 + wgt x + max (wgt y) (wgt z) := by
  have hf : formB (.mk ⟨7, 0, 0, 0, 0, ⟨#[]⟩, 0⟩ a c [x, y, z]) = true := by simp [formB, formsB, h1, h2, h3, oneH, alike, nm, fitB]
  rw [exW_f hf]
  simp [wgt, wgts, mxs]
theorem e_and {x y : Nd} (a : Option Addr) (c : Nat) (h1 : formB x = true) (h2 : formB y = true) : exW (.mk ⟨6, 17, 0, 0, 0, ⟨#[]⟩, 0⟩ a c [x, y]) = 1 + (wgt x + wgt y) := by
  have hf : formB (.mk ⟨6, 17, 0, 0, 0, ⟨#[]⟩, 0⟩ a c [x, y]) = true := by simp [formB, formsB, h1, h2, oneH, alike, nm, fitB]
  rw [exW_f hf]
  simp [wgt, wgts]
theorem e_min {x y : Nd} (a : Option Addr) (c : Nat) (h1 : formB x = true) (h2 : formB y = true) : exW (.mk ⟨8, 4, 0, 0, 0, ⟨#[]⟩, 0⟩ a c [x, y]) = 1 + (wgt x + wgt y) := by
  have hf : formB (.mk ⟨8, 4, 0, 0, 0, ⟨#[]⟩, 0⟩ a c [x, y]) = true := by simp [formB, formsB, h1, h2, oneH, alike, nm, fitB]
  rw [exW_f hf]
  simp [wgt, wgts]
theorem e_not {x : Nd} (a : Option Addr) (c : Nat) (h1 : formB x = true) : exW (.mk ⟨5, 2, 0, 0, 0, ⟨#[]⟩, 0⟩ a c [x]) = 1 + wgt x := by
  have hf : formB (.mk ⟨5, 2, 0, 0, 0, ⟨#[]⟩, 0⟩ a c [x]) = true := by simp [formB, formsB, h1, oneH, alike, nm, fitB]
  rw [exW_f hf]
  simp [wgt, wgts]
theorem e_conv {x : Nd} (a : Option Addr) (c : Nat) (h1 : formB x = true) : exW (.mk ⟨9, 0, 1, 0, 0, ⟨#[]⟩, 0⟩ a c [x]) = wgt x := by
  have hf : formB (.mk ⟨9, 0, 1, 0, 0, ⟨#[]⟩, 0⟩ a c [x]) = true := by simp [formB, formsB, h1, oneH, alike, nm, fitB, numB]
  rw [exW_f hf]
  simp [wgt, wgts]
set_option maxRecDepth 100000 in
set_option maxHeartbeats 16000000 in
theorem parts16 (x y z : Nd) (w : World) (lx : Lies w x) (ly : Lies w y) (lz : Lies w z) (ht : Tab w) (hf : FTab w) (hg : Ety w) : Calls Tryz.prog 6 #[.agg x.vals, .agg y.vals, .agg z.vals] w fun e w' => e = .returned (.bool true) ∧ Below w§ w w' := by
  have HH : Hid (Lies w x ∧ Lies w y ∧ Lies w z ∧ Tab w) := ⟨lx, ly, lz, ht⟩
  have hB := B3.new w x y z
  have E1 : Hid (w§ + 1 + 1 = w§ + 2) := rfl
  obtain ⟨W1, e1⟩ : ∃ W, ((w.alloc (.cells x.vals 28)).alloc (.cells y.vals 28)).alloc (.cells z.vals 28) = W := ⟨_, rfl⟩
  have EW : Hid (((w.alloc (.cells x.vals 28)).alloc (.cells y.vals 28)).alloc (.cells z.vals 28) = W1) := e1
  rw [e1] at hB
  have HB1 : Hid (B3 w W1 x y z) := hB
  have cA := awake_any W1 (ht.on hB.B) (hf.on hB.B) (hg.on hB.B)
  clear e1 hB lx ly lz ht hf hg
  go_enter Tryz.func6, Tryz.ntmps6
  go_upto_region 1 with fail
  rw [EW.out]
  try rw [E1.out]
  clear EW E1
  go_wp2_with fail
  refine cA.mono ?_
  rintro e w2 ⟨rfl, hb2⟩
  have HB2 : Hid (B3 w w2 x y z) := HB1.out.on hb2
  have c1 := far_any x w2 (HH.out.1.on HB2.out.B)
  clear cA hb2 HB1
  go_wp2_with (refine wpList_load_row rfl 28 (.tmp 3) rfl w§ rfl 28 x.vals (0, 0) _ HB2.out.X Tryz.underlying28 rfl size28' ?_)
  refine c1.mono ?_
  rintro e w3 ⟨⟨b1, rfl, hf1⟩, hb3⟩
  have HB3 : Hid (B3 w w3 x y z) := HB2.out.on hb3
  have HF1 : Hid (b1 = false → size x ≤ 1048576) := fun h => Nat.le_trans (size_wt x) (hf1 h)
  have c2 := far_any y w3 (HH.out.2.1.on HB3.out.B)
  clear c1 hb3 HB2 hf1
  go_wp2_with (refine wpList_load_row rfl 28 (.tmp 4) rfl (w§ + 1) rfl 28 y.vals (0, 0) _ HB3.out.Y Tryz.underlying28 rfl size28' ?_)
  refine c2.mono ?_
  rintro e w4 ⟨⟨b2, rfl, hf2⟩, hb4⟩
  have HB4 : Hid (B3 w w4 x y z) := HB3.out.on hb4
  have HF2 : Hid (b2 = false → size y ≤ 1048576) := fun h => Nat.le_trans (size_wt y) (hf2 h)
  have c3 := far_any z w4 (HH.out.2.2.1.on HB4.out.B)
  clear c2 hb4 HB3 hf2
  go_wp2_with (refine wpList_load_row rfl 28 (.tmp 5) rfl (w§ + 2) rfl 28 z.vals (0, 0) _ HB4.out.Z Tryz.underlying28 rfl size28' ?_)
  refine c3.mono ?_
  rintro e w5 ⟨⟨b3, rfl, hf3⟩, hb5⟩
  have HB5 : Hid (B3 w w5 x y z) := HB4.out.on hb5
  have HF3 : Hid (b3 = false → size z ≤ 1048576) := fun h => Nat.le_trans (size_wt z) (hf3 h)
  clear c3 hb5 HB4 hf3
  cases b1 with
  | true =>
    go_wp2_with fail
    go_ret
    exact ⟨rfl, HB5.out.B⟩
  | false =>
  cases b2 with
  | true =>
    go_wp2_with fail
    go_ret
    exact ⟨rfl, HB5.out.B⟩
  | false =>
  cases b3 with
  | true =>
    go_wp2_with fail
    go_ret
    exact ⟨rfl, HB5.out.B⟩
  | false =>
  have c4 := formed_any x w5 (HH.out.1.on HB5.out.B)
  go_wp2_with (refine wpList_load_row rfl 28 (.tmp 3) rfl w§ rfl 28 x.vals (0, 0) _ HB5.out.X Tryz.underlying28 rfl size28' ?_)
  refine c4.mono ?_
  rintro e w6 ⟨rfl, hb6⟩
  have HB6 : Hid (B3 w w6 x y z) := HB5.out.on hb6
  clear c4 hb6 HB5
  cases fx : formB x with
  | false =>
    go_wp2_with fail
    go_ret
    exact ⟨rfl, HB6.out.B⟩
  | true =>
  have c5 : Calls Tryz.prog 24 #[.agg #[.int .u8 y.h.k, .int .u8 y.h.o, .int .u8 y.h.t, .int .i64 y.h.n, .int .u8 y.h.f, .string y.h.x, .slice y.a y.ks.length y.c, .int .i64 y.h.p]] w6 fun e w' => e = .returned (.bool (formB y)) ∧ Below w6§ w6 w' := formed_any y w6 (HH.out.2.1.on HB6.out.B)
  have y0 : w6.cell? ⟨w§ + 1, 0, none⟩ = some (.int .u8 y.h.k) := Co HB6.out.Y 0
  have y1 : w6.cell? ⟨w§ + 1, 1, none⟩ = some (.int .u8 y.h.o) := Co HB6.out.Y 1
  have y2 : w6.cell? ⟨w§ + 1, 2, none⟩ = some (.int .u8 y.h.t) := Co HB6.out.Y 2
  have y3 : w6.cell? ⟨w§ + 1, 3, none⟩ = some (.int .i64 y.h.n) := Co HB6.out.Y 3
  have y4 : w6.cell? ⟨w§ + 1, 4, none⟩ = some (.int .u8 y.h.f) := Co HB6.out.Y 4
  have y5 : w6.cell? ⟨w§ + 1, 5, none⟩ = some (.string y.h.x) := Co HB6.out.Y 5
  have y6 : w6.cell? ⟨w§ + 1, 6, none⟩ = some (.slice y.a y.ks.length y.c) := Co HB6.out.Y 6
  have y7 : w6.cell? ⟨w§ + 1, 7, none⟩ = some (.int .i64 y.h.p) := Co HB6.out.Y 7
  go_wp2_with fail
  refine c5.mono ?_
  rintro e w7 ⟨rfl, hb7⟩
  have HB7 : Hid (B3 w w7 x y z) := HB6.out.on hb7
  clear c5 hb7 HB6 y0 y1 y2 y3 y4 y5 y6 y7
  cases fy : formB y with
  | false =>
    go_wp2_with fail
    go_ret
    exact ⟨rfl, HB7.out.B⟩
  | true =>
  have c6 : Calls Tryz.prog 24 #[.agg #[.int .u8 z.h.k, .int .u8 z.h.o, .int .u8 z.h.t, .int .i64 z.h.n, .int .u8 z.h.f, .string z.h.x, .slice z.a z.ks.length z.c, .int .i64 z.h.p]] w7 fun e w' => e = .returned (.bool (formB z)) ∧ Below w7§ w7 w' := formed_any z w7 (HH.out.2.2.1.on HB7.out.B)
  have z0 : w7.cell? ⟨w§ + 2, 0, none⟩ = some (.int .u8 z.h.k) := Co HB7.out.Z 0
  have z1 : w7.cell? ⟨w§ + 2, 1, none⟩ = some (.int .u8 z.h.o) := Co HB7.out.Z 1
  have z2 : w7.cell? ⟨w§ + 2, 2, none⟩ = some (.int .u8 z.h.t) := Co HB7.out.Z 2
  have z3 : w7.cell? ⟨w§ + 2, 3, none⟩ = some (.int .i64 z.h.n) := Co HB7.out.Z 3
  have z4 : w7.cell? ⟨w§ + 2, 4, none⟩ = some (.int .u8 z.h.f) := Co HB7.out.Z 4
  have z5 : w7.cell? ⟨w§ + 2, 5, none⟩ = some (.string z.h.x) := Co HB7.out.Z 5
  have z6 : w7.cell? ⟨w§ + 2, 6, none⟩ = some (.slice z.a z.ks.length z.c) := Co HB7.out.Z 6
  have z7 : w7.cell? ⟨w§ + 2, 7, none⟩ = some (.int .i64 z.h.p) := Co HB7.out.Z 7
  go_wp2_with fail
  refine c6.mono ?_
  rintro e w8 ⟨rfl, hb8⟩
  have HB8 : Hid (B3 w w8 x y z) := HB7.out.on hb8
  clear c6 hb8 HB7 z0 z1 z2 z3 z4 z5 z6 z7
  cases fz : formB z with
  | false =>
    go_wp2_with fail
    go_ret
    exact ⟨rfl, HB8.out.B⟩
  | true =>
  have HP : Hid (P3 w x y z) := ⟨HH.out.1, HH.out.2.1, HH.out.2.2.1, fx, fy, fz, HF1.out (by first | rfl | trivial), HF2.out (by first | rfl | trivial), HF3.out (by first | rfl | trivial)⟩
  have HTB : Hid (Tab w) := HH.out.2.2.2
  obtain ⟨X, eX⟩ : ∃ a, wgt x = a := ⟨_, rfl⟩
  obtain ⟨Y, eY⟩ : ∃ a, wgt y = a := ⟨_, rfl⟩
  obtain ⟨Z, eZ⟩ : ∃ a, wgt z = a := ⟨_, rfl⟩
  have HW : Hid (wgt x = X ∧ wgt y = Y ∧ wgt z = Z) := ⟨eX, eY, eZ⟩
  have hx1 : (0 : Int) < (X : Int) := by have := wgt_pos x fx; omega
  have HMX : Hid (X ≤ 2097152 ∧ Y ≤ 2097152 ∧ Z ≤ 2097152) := by
    have h1 := wgt_le x fx
    have h2 := wgt_le y fy
    have h3 := wgt_le z fz
    have h4 := HP.out.sx
    have h5 := HP.out.sy
    have h6 := HP.out.sz
    exact ⟨by omega, by omega, by omega⟩
  clear fx fy fz eX eY eZ HH HF1 HF2 HF3
  have c8 : Calls Tryz.prog 12 #[.agg x.vals] w8 fun e w' => e = .returned (.int .i64 (X : Nat)) ∧ Below w8§ w8 w' := by
    have := cexpr_any x w8 (HP.out.lx.on HB8.out.B) (by have := HP.out.sx; omega) (HTB.out.on HB8.out.B)
    rw [exW_f HP.out.fx, HW.out.1] at this
    exact this
  go_wp2_with (refine wpList_load_row rfl 28 (.tmp 3) rfl w§ rfl 28 x.vals (0, 0) _ HB8.out.X Tryz.underlying28 rfl size28' ?_)
  refine c8.mono ?_
  rintro e w9 ⟨rfl, hb9⟩
  have HB9 : Hid (B3 w w9 x y z) := HB8.out.on hb9
  clear c8 hb9 HB8
  have c9 : Calls Tryz.prog 12 #[.agg y.vals] w9 fun e w' => e = .returned (.int .i64 (Y : Nat)) ∧ Below w9§ w9 w' := by
    have := cexpr_any y w9 (HP.out.ly.on HB9.out.B) (by have := HP.out.sy; omega) (HTB.out.on HB9.out.B)
    rw [exW_f HP.out.fy, HW.out.2.1] at this
    exact this
  go_wp2_with (refine wpList_load_row rfl 28 (.tmp 4) rfl (w§ + 1) rfl 28 y.vals (0, 0) _ HB9.out.Y Tryz.underlying28 rfl size28' ?_)
  refine c9.mono ?_
  rintro e w10 ⟨rfl, hb10⟩
  have HB10 : Hid (B3 w w10 x y z) := HB9.out.on hb10
  clear c9 hb10 HB9
  have c10 : Calls Tryz.prog 12 #[.agg z.vals] w10 fun e w' => e = .returned (.int .i64 (Z : Nat)) ∧ Below w10§ w10 w' := by
    have := cexpr_any z w10 (HP.out.lz.on HB10.out.B) (by have := HP.out.sz; omega) (HTB.out.on HB10.out.B)
    rw [exW_f HP.out.fz, HW.out.2.2] at this
    exact this
  go_wp2_with (refine wpList_load_row rfl 28 (.tmp 5) rfl (w§ + 2) rfl 28 z.vals (0, 0) _ HB10.out.Z Tryz.underlying28 rfl size28' ?_)
  refine c10.mono ?_
  rintro e w11 ⟨rfl, hb11⟩
  have HB11 : Hid (B3 w w11 x y z) := HB10.out.on hb11
  clear c10 hb11 HB10
  have k11 := Bn w11 (.cells (x.vals ++ y.vals ++ z.vals) 28)
  have c11 : Calls Tryz.prog 12 #[.agg #[.int .u8 7, .int .u8 0, .int .u8 0, .int .i64 0, .int .u8 0, .string ⟨#[]⟩, .slice (some ⟨w11§, 0, none⟩) 3 3, .int .i64 0]] (w11.alloc (.cells (x.vals ++ y.vals ++ z.vals) 28)) fun e w' => e = .returned (.int .i64 (2 + X + max Y Z : Nat)) ∧ Below (w11.alloc (.cells (x.vals ++ y.vals ++ z.vals) 28))§ (w11.alloc (.cells (x.vals ++ y.vals ++ z.vals) 28)) w' := by
    have := cexpr_any (.mk ⟨7, 0, 0, 0, 0, ⟨#[]⟩, 0⟩ (some ⟨w11§, 0, none⟩) 3 [x, y, z]) (w11.alloc (.cells (x.vals ++ y.vals ++ z.vals) 28)) (pnd3 w11 _ rg7 (HP.out.lx.on HB11.out.B) (HP.out.ly.on HB11.out.B) (HP.out.lz.on HB11.out.B)) (by have h1 := HP.out.sx; have h2 := HP.out.sy; have h3 := HP.out.sz; simp only [size, sizes]; omega) (HTB.out.on (below2 HB11.out.B k11))
    rw [e_cond _ _ HP.out.fx HP.out.fy HP.out.fz, HW.out.1, HW.out.2.1, HW.out.2.2] at this
    exact this
  have HK11 : Hid (B3 w (w11.alloc (.cells (x.vals ++ y.vals ++ z.vals) 28)) x y z) := HB11.out.on k11
  clear k11
  go_wp2_with (first | (refine wpList_load_row rfl 28 (.tmp 3) rfl w§ rfl 28 x.vals (0, 0) _ HB11.out.X Tryz.underlying28 rfl size28' ?_) | (refine wpList_load_row rfl 28 (.tmp 4) rfl (w§ + 1) rfl 28 y.vals (0, 0) _ HB11.out.Y Tryz.underlying28 rfl size28' ?_) | (refine wpList_load_row rfl 28 (.tmp 5) rfl (w§ + 2) rfl 28 z.vals (0, 0) _ HB11.out.Z Tryz.underlying28 rfl size28' ?_) | (refine wpList_slice3 rfl 26 28 (.tmp 59) (.tmp 60) (.tmp 61) rfl x.vals y.vals z.vals rfl rfl rfl 8 _ Tryz.underlying26 72 inf28' rfl rfl rfl rfl (by decide) (by decide) ?_))
  refine c11.mono ?_
  rintro e w12 ⟨rfl, hb12⟩
  have HB12 : Hid (B3 w w12 x y z) := HK11.out.on hb12
  clear c11 hb12 HB11 HK11
  have k12 := Bn w12 (.cells (x.vals ++ z.vals ++ y.vals) 28)
  have c12 : Calls Tryz.prog 12 #[.agg #[.int .u8 7, .int .u8 0, .int .u8 0, .int .i64 0, .int .u8 0, .string ⟨#[]⟩, .slice (some ⟨w12§, 0, none⟩) 3 3, .int .i64 0]] (w12.alloc (.cells (x.vals ++ z.vals ++ y.vals) 28)) fun e w' => e = .returned (.int .i64 (2 + X + max Z Y : Nat)) ∧ Below (w12.alloc (.cells (x.vals ++ z.vals ++ y.vals) 28))§ (w12.alloc (.cells (x.vals ++ z.vals ++ y.vals) 28)) w' := by
    have := cexpr_any (.mk ⟨7, 0, 0, 0, 0, ⟨#[]⟩, 0⟩ (some ⟨w12§, 0, none⟩) 3 [x, z, y]) (w12.alloc (.cells (x.vals ++ z.vals ++ y.vals) 28)) (pnd3 w12 _ rg7 (HP.out.lx.on HB12.out.B) (HP.out.lz.on HB12.out.B) (HP.out.ly.on HB12.out.B)) (by have h1 := HP.out.sx; have h2 := HP.out.sy; have h3 := HP.out.sz; simp only [size, sizes]; omega) (HTB.out.on (below2 HB12.out.B k12))
    rw [e_cond _ _ HP.out.fx HP.out.fz HP.out.fy, HW.out.1, HW.out.2.1, HW.out.2.2] at this
    exact this
  have HK12 : Hid (B3 w (w12.alloc (.cells (x.vals ++ z.vals ++ y.vals) 28)) x y z) := HB12.out.on k12
  clear k12
  go_wp2_with (first | (refine wpList_load_row rfl 28 (.tmp 3) rfl w§ rfl 28 x.vals (0, 0) _ HB12.out.X Tryz.underlying28 rfl size28' ?_) | (refine wpList_load_row rfl 28 (.tmp 5) rfl (w§ + 2) rfl 28 z.vals (0, 0) _ HB12.out.Z Tryz.underlying28 rfl size28' ?_) | (refine wpList_load_row rfl 28 (.tmp 4) rfl (w§ + 1) rfl 28 y.vals (0, 0) _ HB12.out.Y Tryz.underlying28 rfl size28' ?_) | (refine wpList_slice3 rfl 26 28 (.tmp 65) (.tmp 66) (.tmp 67) rfl x.vals z.vals y.vals rfl rfl rfl 8 _ Tryz.underlying26 72 inf28' rfl rfl rfl rfl (by decide) (by decide) ?_))
  refine c12.mono ?_
  rintro e w13 ⟨rfl, hb13⟩
  have HB13 : Hid (B3 w w13 x y z) := HK12.out.on hb13
  clear c12 hb13 HB12 HK12
  have k13 := Bn w13 (.cells (x.vals ++ y.vals) 28)
  have c13 : Calls Tryz.prog 12 #[.agg #[.int .u8 6, .int .u8 17, .int .u8 0, .int .i64 0, .int .u8 0, .string ⟨#[]⟩, .slice (some ⟨w13§, 0, none⟩) 2 2, .int .i64 0]] (w13.alloc (.cells (x.vals ++ y.vals) 28)) fun e w' => e = .returned (.int .i64 (1 + (X + Y) : Nat)) ∧ Below (w13.alloc (.cells (x.vals ++ y.vals) 28))§ (w13.alloc (.cells (x.vals ++ y.vals) 28)) w' := by
    have := cexpr_any (.mk ⟨6, 17, 0, 0, 0, ⟨#[]⟩, 0⟩ (some ⟨w13§, 0, none⟩) 2 [x, y]) (w13.alloc (.cells (x.vals ++ y.vals) 28)) (pnd2 w13 _ rg6 (HP.out.lx.on HB13.out.B) (HP.out.ly.on HB13.out.B)) (by have h1 := HP.out.sx; have h2 := HP.out.sy; have h3 := HP.out.sz; simp only [size, sizes]; omega) (HTB.out.on (below2 HB13.out.B k13))
    rw [e_and _ _ HP.out.fx HP.out.fy, HW.out.1, HW.out.2.1] at this
    exact this
  have HK13 : Hid (B3 w (w13.alloc (.cells (x.vals ++ y.vals) 28)) x y z) := HB13.out.on k13
  clear k13
  go_wp2_with (first | (refine wpList_load_row rfl 28 (.tmp 3) rfl w§ rfl 28 x.vals (0, 0) _ HB13.out.X Tryz.underlying28 rfl size28' ?_) | (refine wpList_load_row rfl 28 (.tmp 4) rfl (w§ + 1) rfl 28 y.vals (0, 0) _ HB13.out.Y Tryz.underlying28 rfl size28' ?_) | (refine wpList_slice2 rfl 26 28 (.tmp 71) (.tmp 72) rfl x.vals y.vals rfl rfl 8 _ Tryz.underlying26 72 inf28' rfl rfl rfl (by decide) (by decide) ?_))
  refine c13.mono ?_
  rintro e w14 ⟨rfl, hb14⟩
  have HB14 : Hid (B3 w w14 x y z) := HK13.out.on hb14
  clear c13 hb14 HB13 HK13
  have k14 := Bn w14 (.cells (y.vals ++ z.vals) 28)
  have c14 : Calls Tryz.prog 12 #[.agg #[.int .u8 8, .int .u8 4, .int .u8 0, .int .i64 0, .int .u8 0, .string ⟨#[]⟩, .slice (some ⟨w14§, 0, none⟩) 2 2, .int .i64 0]] (w14.alloc (.cells (y.vals ++ z.vals) 28)) fun e w' => e = .returned (.int .i64 (1 + (Y + Z) : Nat)) ∧ Below (w14.alloc (.cells (y.vals ++ z.vals) 28))§ (w14.alloc (.cells (y.vals ++ z.vals) 28)) w' := by
    have := cexpr_any (.mk ⟨8, 4, 0, 0, 0, ⟨#[]⟩, 0⟩ (some ⟨w14§, 0, none⟩) 2 [y, z]) (w14.alloc (.cells (y.vals ++ z.vals) 28)) (pnd2 w14 _ rg8 (HP.out.ly.on HB14.out.B) (HP.out.lz.on HB14.out.B)) (by have h1 := HP.out.sx; have h2 := HP.out.sy; have h3 := HP.out.sz; simp only [size, sizes]; omega) (HTB.out.on (below2 HB14.out.B k14))
    rw [e_min _ _ HP.out.fy HP.out.fz, HW.out.2.1, HW.out.2.2] at this
    exact this
  have HK14 : Hid (B3 w (w14.alloc (.cells (y.vals ++ z.vals) 28)) x y z) := HB14.out.on k14
  clear k14
  go_wp2_with (first | (refine wpList_load_row rfl 28 (.tmp 4) rfl (w§ + 1) rfl 28 y.vals (0, 0) _ HB14.out.Y Tryz.underlying28 rfl size28' ?_) | (refine wpList_load_row rfl 28 (.tmp 5) rfl (w§ + 2) rfl 28 z.vals (0, 0) _ HB14.out.Z Tryz.underlying28 rfl size28' ?_) | (refine wpList_slice2 rfl 26 28 (.tmp 76) (.tmp 77) rfl y.vals z.vals rfl rfl 8 _ Tryz.underlying26 72 inf28' rfl rfl rfl (by decide) (by decide) ?_))
  refine c14.mono ?_
  rintro e w15 ⟨rfl, hb15⟩
  have HB15 : Hid (B3 w w15 x y z) := HK14.out.on hb15
  clear c14 hb15 HB14 HK14
  have k15 := Bn w15 (.cells x.vals 28)
  have c15 : Calls Tryz.prog 12 #[.agg #[.int .u8 5, .int .u8 2, .int .u8 0, .int .i64 0, .int .u8 0, .string ⟨#[]⟩, .slice (some ⟨w15§, 0, none⟩) 1 1, .int .i64 0]] (w15.alloc (.cells x.vals 28)) fun e w' => e = .returned (.int .i64 (1 + X : Nat)) ∧ Below (w15.alloc (.cells x.vals 28))§ (w15.alloc (.cells x.vals 28)) w' := by
    have := cexpr_any (.mk ⟨5, 2, 0, 0, 0, ⟨#[]⟩, 0⟩ (some ⟨w15§, 0, none⟩) 1 [x]) (w15.alloc (.cells x.vals 28)) (pnd1 w15 _ rg5 (HP.out.lx.on HB15.out.B)) (by have h1 := HP.out.sx; have h2 := HP.out.sy; have h3 := HP.out.sz; simp only [size, sizes]; omega) (HTB.out.on (below2 HB15.out.B k15))
    rw [e_not _ _ HP.out.fx, HW.out.1] at this
    exact this
  have HK15 : Hid (B3 w (w15.alloc (.cells x.vals 28)) x y z) := HB15.out.on k15
  clear k15
  go_wp2_with (first | (refine wpList_load_row rfl 28 (.tmp 3) rfl w§ rfl 28 x.vals (0, 0) _ HB15.out.X Tryz.underlying28 rfl size28' ?_) | (refine wpList_slice1 rfl 26 28 (.tmp 81) rfl x.vals rfl 8 _ Tryz.underlying26 72 inf28' rfl rfl (by decide) (by decide) ?_))
  refine c15.mono ?_
  rintro e w16 ⟨rfl, hb16⟩
  have HB16 : Hid (B3 w w16 x y z) := HK15.out.on hb16
  clear c15 hb16 HB15 HK15
  have k16 := Bn w16 (.cells x.vals 28)
  have c16 : Calls Tryz.prog 12 #[.agg #[.int .u8 9, .int .u8 0, .int .u8 1, .int .i64 0, .int .u8 0, .string ⟨#[]⟩, .slice (some ⟨w16§, 0, none⟩) 1 1, .int .i64 0]] (w16.alloc (.cells x.vals 28)) fun e w' => e = .returned (.int .i64 (X : Nat)) ∧ Below (w16.alloc (.cells x.vals 28))§ (w16.alloc (.cells x.vals 28)) w' := by
    have := cexpr_any (.mk ⟨9, 0, 1, 0, 0, ⟨#[]⟩, 0⟩ (some ⟨w16§, 0, none⟩) 1 [x]) (w16.alloc (.cells x.vals 28)) (pnd1 w16 _ rg9 (HP.out.lx.on HB16.out.B)) (by have h1 := HP.out.sx; have h2 := HP.out.sy; have h3 := HP.out.sz; simp only [size, sizes]; omega) (HTB.out.on (below2 HB16.out.B k16))
    rw [e_conv _ _ HP.out.fx, HW.out.1] at this
    exact this
  have HK16 : Hid (B3 w (w16.alloc (.cells x.vals 28)) x y z) := HB16.out.on k16
  clear k16
  go_wp2_with (first | (refine wpList_load_row rfl 28 (.tmp 3) rfl w§ rfl 28 x.vals (0, 0) _ HB16.out.X Tryz.underlying28 rfl size28' ?_) | (refine wpList_slice1 rfl 26 28 (.tmp 85) rfl x.vals rfl 8 _ Tryz.underlying26 72 inf28' rfl rfl (by decide) (by decide) ?_))
  refine c16.mono ?_
  rintro e w17 ⟨rfl, hb17⟩
  have HB17 : Hid (B3 w w17 x y z) := HK16.out.on hb17
  clear c16 hb17 HB16 HK16
  have n1 : 1 + ((X : Int) + Y) = (X : Int) + Y + 1 := by omega
  have n2 : 1 + ((Y : Int) + Z) = (Y : Int) + Z + 1 := by omega
  have n3 : 1 + (X : Int) = (X : Int) + 1 := by omega
  have n4 : ((max Z Y : Nat) : Int) = ((max Y Z : Nat) : Int) := by omega
  rw [n1, n2, n3, n4]
  clear n1 n2 n3 n4
  have v0 : IntKind.i64.wrap ((X : Int) + Y) = (X : Int) + Y := by have := HMX.out; rw [IntKind.wrap_i64]; omega
  have v1 : IntKind.i64.wrap ((X : Int) + Y + 1) = (X : Int) + Y + 1 := by have := HMX.out; rw [IntKind.wrap_i64]; omega
  have v2 : IntKind.i64.wrap ((Y : Int) + Z) = (Y : Int) + Z := by have := HMX.out; rw [IntKind.wrap_i64]; omega
  have v3 : IntKind.i64.wrap ((Y : Int) + Z + 1) = (Y : Int) + Z + 1 := by have := HMX.out; rw [IntKind.wrap_i64]; omega
  have v4 : IntKind.i64.wrap ((X : Int) + 1) = (X : Int) + 1 := by have := HMX.out; rw [IntKind.wrap_i64]; omega
  have v5 : IntKind.i64.wrap ((X : Int) + Z) = (X : Int) + Z := by have := HMX.out; rw [IntKind.wrap_i64]; omega
  have v6 : IntKind.i64.wrap ((X : Int) + Z + 2) = (X : Int) + Z + 2 := by have := HMX.out; rw [IntKind.wrap_i64]; omega
  have v7 : IntKind.i64.wrap ((X : Int) + Y + 2) = (X : Int) + Y + 2 := by have := HMX.out; rw [IntKind.wrap_i64]; omega
  clear HP HW HMX HTB
  by_cases hyz : (Y : Int) < (Z : Int)
  · rw [show 2 + (X : Int) + ((max Y Z : Nat) : Int) = (X : Int) + Z + 2 by omega]
    go_wp2_with fail
    go_ret
    exact ⟨rfl, HB17.out.B⟩
  · rw [show 2 + (X : Int) + ((max Y Z : Nat) : Int) = (X : Int) + Y + 2 by omega]
    go_wp2_with fail
    go_ret
    exact ⟨rfl, HB17.out.B⟩
end Go.Proofs.YtjimaceccllnlaaGreatDoor
