/-
  literal: a node without kids, of the token at hand.
-/
import Derived.Test.YtkfabnchhjfjjabGreatDoorRx
namespace Go.Proofs.YtkfabnchhjfjjabGreatDoor
open Go.RowKit
set_option maxRecDepth 100000 in
theorem lit_no {w : World} {b G : Nat} {fa : Int} {fe : Value} {d : Nat} {a : Option Addr} {c : Nat} (h : Rdr w b G [] fa fe d a c) : Calls Tryz.prog 76 #[.pointer (some ⟨b, 0, none⟩)] w (OutN b G fa fe d w (gLit [])) := by
  have hb0 := below_new w (.cells #[.int .u8 0, .int .u8 0, .int .u8 0, .int .i64 0, .int .u8 0, .string ⟨#[]⟩, .slice none 0 0, .int .i64 0] 52)
  have cL := look_no (h.on hb0)
  have HB0 : Hid (Below w.heap.size w _) := hb0
  clear h hb0
  go_enter Tryz.func76, Tryz.ntmps76
  go_wp2_with fail
  refine cL.mono ?_
  rintro e w1 ⟨rfl, hb⟩
  exact ⟨rfl, rfl, Mv.ofBelow (below2 HB0.out hb)⟩
/-- What a token's numbers may be. -/
structure RgT (t : Tk) : Prop where
  x1 : t.x.size ≤ 140737488355328
  y0 : 0 ≤ t.ty
  y1 : t.ty ≤ 255
  n0 : -9223372036854775808 ≤ t.n
  n1 : t.n ≤ 9223372036854775807
  p0 : -9223372036854775808 ≤ t.p
  p1 : t.p ≤ 9223372036854775807
theorem RgT.val {t : Tk} (h : RgT t) : Rg ⟨1, 0, (valT t).1, (valT t).2, 0, gE, t.p⟩ := by
  have := h.y0; have := h.y1; have := h.n0; have := h.n1; have := h.p0; have := h.p1
  have hv : 0 ≤ (valT t).1 ∧ (valT t).1 ≤ 255 ∧ -9223372036854775808 ≤ (valT t).2 ∧ (valT t).2 ≤ 9223372036854775807 := by
    unfold valT
    split
    · simp
    split
    · simp
    split
    · simp
    split
    · simp
    exact ⟨h.y0, h.y1, h.n0, h.n1⟩
  constructor <;> first | omega | (show (0 : Nat) ≤ _; omega) | (simp only; omega) | simp
theorem below_tk {w w1 : World} (t : Tk) (h : Below w.heap.size w w1) : Below w.heap.size w (w1.alloc (.cells #[.int .u8 t.k, .string t.x, .int .u8 t.ty, .int .i64 t.n, .int .i64 t.p] 33)) := below2 h (below_new _ _)
set_option maxRecDepth 100000 in
theorem lit_ok {w : World} {b G : Nat} {t : Tk} {ts : List Tk} {fa : Int} {fe : Value} {d : Nat} {a : Option Addr} {c : Nat} (h : Rdr w b G (t :: ts) fa fe d a c) (ht : RgT t) : Calls Tryz.prog 76 #[.pointer (some ⟨b, 0, none⟩)] w (OutN b G fa fe d w (gLit (t :: ts))) := by
  have hb0 := below_new w (.cells #[.int .u8 0, .int .u8 0, .int .u8 0, .int .i64 0, .int .u8 0, .string ⟨#[]⟩, .slice none 0 0, .int .i64 0] 52)
  have h0 := h.on hb0
  have cL := look_ok h0
  have HB0 : Hid (Below w.heap.size w (w.alloc (.cells #[.int .u8 0, .int .u8 0, .int .u8 0, .int .i64 0, .int .u8 0, .string ⟨#[]⟩, .slice none 0 0, .int .i64 0] 52))) := hb0
  have HH0 := h0.hid
  have HBL : Hid (b < w.heap.size) := h.lt
  have HGL : Hid (G < w.heap.size) := h.gl
  have HT : Hid (Rg ⟨1, 0, (valT t).1, (valT t).2, 0, gE, t.p⟩) := ht.val
  obtain ⟨ty, ety⟩ : ∃ v, (valT t).1 = v := ⟨_, rfl⟩
  obtain ⟨n, en⟩ : ∃ v, (valT t).2 = v := ⟨_, rfl⟩
  have cV := fun v => valueOf_any t v
  have eG : gLit (t :: ts) = if ty = 0 then .error (.tok 130 t.p) else .ok (.mk ⟨1, 0, ty, n, 0, gE, t.p⟩ [], ts) := by
    rw [← ety, ← en]
    by_cases e : (valT t).1 = 0
    · simp [gLit, gLook, gNeed, bind, Except.bind, e]
    · simp [gLit, gLook, gNeed, gStep, bind, Except.bind, e]
  rw [eG]
  rw [ety, en] at HT cV
  unfold tkA at cL cV
  clear h hb0 h0 eG ety en ht
  by_cases e : ty = 0
  · rw [if_pos e]
    subst e
    go_enter Tryz.func76, Tryz.ntmps76
    go_wp2_with fail
    refine cL.mono ?_
    rintro e w1 ⟨rfl, hb⟩
    have HB : Hid (Below w.heap.size w w1) := below2 HB0.out hb
    have HH := (HH0.out.on hb).hid
    clear hb cL
    go_wp2_with fail
    refine (cV _).mono ?_
    rintro e w2 ⟨rfl, hb⟩
    have HB2 : Hid (Below w.heap.size w w2) := below2 (below_tk t HB.out) hb
    have cN := need_tok ((HH.out.on (below_new _ _)).on hb) 130
    clear hb cV
    go_wp2_with fail
    refine cN.mono ?_
    rintro e w3 ⟨rfl, hb3⟩
    exact ⟨rfl, rfl, Mv.ofBelow (below2 HB2.out hb3)⟩
  · rw [if_neg e]
    have e2 : decide (ty = 0) = false := decide_eq_false e
    have e3 : (ty == 0) = false := by simpa using e
    have e4 : (ty != 0) = true := by simpa using e
    go_enter Tryz.func76, Tryz.ntmps76
    go_wp2_with fail
    refine cL.mono ?_
    rintro e w1 ⟨rfl, hb⟩
    have HB : Hid (Below w.heap.size w w1) := below2 HB0.out hb
    have HH := (HH0.out.on hb).hid
    have HR : Hid (w1.heap[w.heap.size]? = some (.cells #[.int .u8 0, .int .u8 0, .int .u8 0, .int .i64 0, .int .u8 0, .string ⟨#[]⟩, .slice none 0 0, .int .i64 0] 52 (0, 0))) := (hb.block _ (by rw [size_alloc]; omega)).trans (heap_new _ _)
    clear hb cL
    go_wp2_with fail
    refine (cV _).mono ?_
    rintro e w2 ⟨rfl, hb⟩
    have HB2 : Hid (Below w.heap.size w w2) := below2 (below_tk t HB.out) hb
    have cS := step_ok ((HH.out.on (below_new _ _)).on hb)
    have HX : Hid (w2.heap[w1.heap.size]? = some (.cells #[.int .u8 t.k, .string t.x, .int .u8 t.ty, .int .i64 t.n, .int .i64 t.p] 33 (0, 0))) := (hb.block _ (by rw [size_alloc]; omega)).trans (heap_new _ _)
    have hlt : w.heap.size < w1.heap.size := (Array.getElem?_eq_some_iff.1 HR.out).1
    have HR2 : Hid (w2.heap[w.heap.size]? = some (.cells #[.int .u8 0, .int .u8 0, .int .u8 0, .int .i64 0, .int .u8 0, .string ⟨#[]⟩, .slice none 0 0, .int .i64 0] 52 (0, 0))) := ((hb.block _ (by rw [size_alloc]; omega)).trans ((below_new w1 _).block _ hlt)).trans HR.out
    have cN := need_ok w2 b 130
    clear hb cV
    go_wp2_with (go_at_call 33; refine cN.mono ?_; rintro e w3 ⟨rfl, e4⟩; obtain rfl := e4.symm)
    refine cS.mono ?_
    rintro e w3 ⟨rfl, ⟨a3, c3, hr3⟩, hm3⟩
    have HM3 : Hid (Mv w w3 (fun k => k = b)) := (Mv.ofBelow HB2.out).trans hm3 (fun k e => .inl e)
    have HR3 : Hid (w3.heap[w.heap.size]? = some (.cells #[.int .u8 0, .int .u8 0, .int .u8 0, .int .i64 0, .int .u8 0, .string ⟨#[]⟩, .slice none 0 0, .int .i64 0] 52 (0, 0))) := (hm3.block _ (Array.getElem?_eq_some_iff.1 HR2.out).1 (fun e => by have := HBL.out; omega)).trans HR2.out
    have hX3 : w3.heap[w1.heap.size]? = some (.cells #[.int .u8 t.k, .string t.x, .int .u8 t.ty, .int .i64 t.n, .int .i64 t.p] 33 (0, 0)) := (hm3.block _ (Array.getElem?_eq_some_iff.1 HX.out).1 (fun e => by have := HBL.out; omega)).trans HX.out
    have HRD := hr3.hid
    have x4 : w3.cell? ⟨w1.heap.size, 4, none⟩ = some (.int .i64 t.p) := cell_of hX3 4
    have z0 : w3.cell? ⟨w.heap.size, 0, none⟩ = some (.int .u8 0) := cell_of HR3.out 0
    have q0 : w3.frozen? ⟨w.heap.size, 0, none⟩ = false := frozen_of HR3.out 0
    have z1 : w3.cell? ⟨w.heap.size, 1, none⟩ = some (.int .u8 0) := cell_of HR3.out 1
    have q1 : w3.frozen? ⟨w.heap.size, 1, none⟩ = false := frozen_of HR3.out 1
    have z2 : w3.cell? ⟨w.heap.size, 2, none⟩ = some (.int .u8 0) := cell_of HR3.out 2
    have q2 : w3.frozen? ⟨w.heap.size, 2, none⟩ = false := frozen_of HR3.out 2
    have z3 : w3.cell? ⟨w.heap.size, 3, none⟩ = some (.int .i64 0) := cell_of HR3.out 3
    have q3 : w3.frozen? ⟨w.heap.size, 3, none⟩ = false := frozen_of HR3.out 3
    have z4 : w3.cell? ⟨w.heap.size, 4, none⟩ = some (.int .u8 0) := cell_of HR3.out 4
    have q4 : w3.frozen? ⟨w.heap.size, 4, none⟩ = false := frozen_of HR3.out 4
    have z5 : w3.cell? ⟨w.heap.size, 5, none⟩ = some (.string ⟨#[]⟩) := cell_of HR3.out 5
    have q5 : w3.frozen? ⟨w.heap.size, 5, none⟩ = false := frozen_of HR3.out 5
    have z6 : w3.cell? ⟨w.heap.size, 6, none⟩ = some (.slice none 0 0) := cell_of HR3.out 6
    have q6 : w3.frozen? ⟨w.heap.size, 6, none⟩ = false := frozen_of HR3.out 6
    have z7 : w3.cell? ⟨w.heap.size, 7, none⟩ = some (.int .i64 0) := cell_of HR3.out 7
    have q7 : w3.frozen? ⟨w.heap.size, 7, none⟩ = false := frozen_of HR3.out 7
    obtain ⟨Y, eY, hY1, hY2, hY3, hY4⟩ := fin8 HR3.out (.int .u8 1) (.int .u8 0) (.int .u8 ty) (.int .i64 n) (.int .u8 0) (.string ⟨#[]⟩) (.slice none 0 0) (.int .i64 t.p)
    have HY1 : Hid (Y.heap[w.heap.size]? = some (.cells (Nd.mk ⟨1, 0, ty, n, 0, gE, t.p⟩ none 0 []).vals 52 (0, 0))) := hY1
    have HEY : Hid (_ = Y) := eY
    have HRY : Hid (∃ a c, Rdr Y b G ts fa fe d a c) := ⟨a3, c3, HRD.out.blk (hY3 _ (by have := HBL.out; omega)) (hY3 _ (by have := HGL.out; omega)) (by omega)⟩
    have HMY : Hid (Mv w Y (fun k => k = b)) := hY4 _ _ HM3.out (Nat.le_refl _)
    clear cS hr3 hm3 hX3 eY hY1 hY2 hY3 hY4
    go_wp2_with fail
    rw [HEY.out]
    exact bodyPost_ret (results_cell_row rfl _ _ w.heap.size 52 (Nd.mk ⟨1, 0, ty, n, 0, gE, t.p⟩ none 0 []).vals (0, 0) _ rfl HY1.out Tryz.underlying52 rfl (by kernel_rfl)) rfl ⟨⟨_, rfl, rfl, lies0 _ HT.out, bkn0 _ _⟩, HRY.out, HMY.out⟩
end Go.Proofs.YtkfabnchhjfjjabGreatDoor
