/-
  has: a field that may lack.
-/
import Derived.Test.YtkfabnchhjfjjabGreatDoorRy
namespace Go.Proofs.YtkfabnchhjfjjabGreatDoor
open Go.RowKit
def gHas (ts : List Tk) : Except Ft (Tr × List Tk) := do
  let (u, r) ← gStep ts
  let y ← gLook r
  gNeed (decide (1 ≤ fieldX y.x ∧ fieldX y.x ≤ 3)) 130 r
  let (_, r) ← gStep r
  .ok (.mk ⟨4, 0, 0, 0, fieldX y.x, gE, u.p⟩ [], r)
theorem fieldX_rg (x : ByteArray) : 0 ≤ fieldX x ∧ fieldX x ≤ 6 := by
  unfold fieldX
  repeat' split
  all_goals omega
theorem RgT.has {t : Tk} (h : RgT t) {f : Int} (hf : 0 ≤ f ∧ f ≤ 6) : Rg ⟨4, 0, 0, 0, f, gE, t.p⟩ := by
  have := h.p0; have := h.p1
  constructor <;> first | omega | (show (0 : Nat) ≤ _; omega) | (simp only; omega) | simp
set_option maxRecDepth 100000 in
theorem has_any {w : World} {b G : Nat} {ts : List Tk} {fa : Int} {fe : Value} {d : Nat} {a : Option Addr} {c : Nat} (h : Rdr w b G ts fa fe d a c) (ht : ∀ t ∈ ts, RgT t) : Calls Tryz.prog 120 #[.pointer (some ⟨b, 0, none⟩)] w (OutN b G fa fe d w (gHas ts)) := by
  have hb0 := below_new w (.cells #[.int .u8 0, .int .u8 0, .int .u8 0, .int .i64 0, .int .u8 0, .string ⟨#[]⟩, .slice none 0 0, .int .i64 0] 52)
  have h0 := h.on hb0
  have HB0 : Hid (Below w.heap.size w (w.alloc (.cells #[.int .u8 0, .int .u8 0, .int .u8 0, .int .i64 0, .int .u8 0, .string ⟨#[]⟩, .slice none 0 0, .int .i64 0] 52))) := hb0
  have HK0 : Hid ((w.alloc (.cells #[.int .u8 0, .int .u8 0, .int .u8 0, .int .i64 0, .int .u8 0, .string ⟨#[]⟩, .slice none 0 0, .int .i64 0] 52)).heap[w.heap.size]? = some (.cells #[.int .u8 0, .int .u8 0, .int .u8 0, .int .i64 0, .int .u8 0, .string ⟨#[]⟩, .slice none 0 0, .int .i64 0] 52 (0, 0))) := heap_new _ _
  have HH0 := h0.hid
  have HBL : Hid (b < w.heap.size) := h.lt
  have HGL : Hid (G < w.heap.size) := h.gl
  clear h hb0
  cases ts with
  | nil =>
    have cS := step_no h0
    clear h0
    go_enter Tryz.func120, Tryz.ntmps120
    go_wp2_with fail
    refine cS.mono ?_
    rintro e w1 ⟨rfl, hb⟩
    exact ⟨rfl, rfl, Mv.ofBelow (below2 HB0.out hb)⟩
  | cons u ts =>
  have cS := step_ok h0
  have hf4 := fun v => field82_4 u v
  clear h0
  cases ts with
  | nil =>
    go_enter Tryz.func120, Tryz.ntmps120
    go_wp2_with fail
    refine cS.mono ?_
    rintro e w1 ⟨rfl, ⟨a1, c1, hr1⟩, hm1⟩
    have HM1 : Hid (Mv w w1 (fun k => k = b)) := (Mv.ofBelow HB0.out).trans hm1 (fun k e => .inl e)
    have cL := look_no hr1
    clear cS hr1 hm1
    go_wp2_with fail
    refine cL.mono ?_
    rintro e w2 ⟨rfl, hb⟩
    exact ⟨rfl, rfl, HM1.out.trans (Mv.ofBelow hb) (fun k e => .inl e)⟩
  | cons y ts =>
  have HT : Hid (Rg ⟨4, 0, 0, 0, fieldX y.x, gE, u.p⟩) := (ht u (by simp)).has (fieldX_rg y.x)
  have cF := fun v => fieldOf_any y v
  have cM := fun v => lack_any (fieldX y.x) v
  have eG : gHas (u :: y :: ts) = if 1 ≤ fieldX y.x ∧ fieldX y.x ≤ 3 then .ok (.mk ⟨4, 0, 0, 0, fieldX y.x, gE, u.p⟩ [], ts) else .error (.tok 130 y.p) := by
    by_cases e : 1 ≤ fieldX y.x ∧ fieldX y.x ≤ 3
    · simp [gHas, gStep, gLook, gNeed, bind, Except.bind, e]
    · have e2 : decide (1 ≤ fieldX y.x ∧ fieldX y.x ≤ 3) = false := decide_eq_false e
      simp only [gHas, gStep, gLook, gNeed, bind, Except.bind, e2, if_neg e, Bool.false_eq_true, if_false]
  rw [eG]
  obtain ⟨f, ef⟩ : ∃ f, fieldX y.x = f := ⟨_, rfl⟩
  rw [ef]
  rw [ef] at HT cF cM
  clear eG ef ht
  by_cases e : 1 ≤ f ∧ f ≤ 3
  · rw [if_pos e]
    rw [decide_eq_true e] at cM
    clear e
    go_enter Tryz.func120, Tryz.ntmps120
    go_wp2_with fail
    refine cS.mono ?_
    rintro e w1 ⟨rfl, ⟨a1, c1, hr1⟩, hm1⟩
    have HM1 : Hid (Mv w w1 (fun k => k = b)) := (Mv.ofBelow HB0.out).trans hm1 (fun k e => .inl e)
    have HK1 : Hid (w1.heap[w.heap.size]? = some (.cells #[.int .u8 0, .int .u8 0, .int .u8 0, .int .i64 0, .int .u8 0, .string ⟨#[]⟩, .slice none 0 0, .int .i64 0] 52 (0, 0))) := (hm1.block _ (Array.getElem?_eq_some_iff.1 HK0.out).1 (fun e => by have := HBL.out; omega)).trans HK0.out
    have HR1 := hr1.hid
    have cL := look_ok hr1
    clear cS hr1 hm1
    go_wp2_with fail
    refine cL.mono ?_
    rintro e w2 ⟨rfl, hb⟩
    have HM2 : Hid (Mv w w2 (fun k => k = b)) := HM1.out.trans (Mv.ofBelow hb) (fun k e => .inl e)
    have HK2 : Hid (w2.heap[w.heap.size]? = some (.cells #[.int .u8 0, .int .u8 0, .int .u8 0, .int .i64 0, .int .u8 0, .string ⟨#[]⟩, .slice none 0 0, .int .i64 0] 52 (0, 0))) := (hb.block _ (Array.getElem?_eq_some_iff.1 HK1.out).1).trans HK1.out
    have HR2 := (HR1.out.on hb).hid
    clear hb cL
    go_wp2_with fail
    refine (cF _).mono ?_
    rintro e w3 ⟨rfl, hb⟩
    have HM3 : Hid (Mv w w3 (fun k => k = b)) := HM2.out.trans (Mv.ofBelow hb) (fun k e => .inl e)
    have HK3 : Hid (w3.heap[w.heap.size]? = some (.cells #[.int .u8 0, .int .u8 0, .int .u8 0, .int .i64 0, .int .u8 0, .string ⟨#[]⟩, .slice none 0 0, .int .i64 0] 52 (0, 0))) := (hb.block _ (Array.getElem?_eq_some_iff.1 HK2.out).1).trans HK2.out
    have cT := step_ok (HR2.out.on hb)
    have cN := need_ok w3 b 130
    have cM3 := cM w3
    clear hb cF cM
    go_wp2_with first | (go_at_call 33; refine cN.mono ?_; rintro e w4 ⟨rfl, e4⟩; obtain rfl := e4.symm) | (go_at_call 126; refine cM3.mono ?_; rintro e w4 ⟨rfl, e4⟩; obtain rfl := e4.symm)
    refine cT.mono ?_
    rintro e w4 ⟨rfl, ⟨a3, c3, hr3⟩, hm3⟩
    have HM4 : Hid (Mv w w4 (fun k => k = b)) := HM3.out.trans hm3 (fun k e => .inl e)
    have HK4 : Hid (w4.heap[w.heap.size]? = some (.cells #[.int .u8 0, .int .u8 0, .int .u8 0, .int .i64 0, .int .u8 0, .string ⟨#[]⟩, .slice none 0 0, .int .i64 0] 52 (0, 0))) := (hm3.block _ (Array.getElem?_eq_some_iff.1 HK3.out).1 (fun e => by have := HBL.out; omega)).trans HK3.out
    have HRD := hr3.hid
    have z0 : w4.cell? ⟨w.heap.size, 0, none⟩ = some (.int .u8 0) := cell_of HK4.out 0
    have q0 : w4.frozen? ⟨w.heap.size, 0, none⟩ = false := frozen_of HK4.out 0
    have z1 : w4.cell? ⟨w.heap.size, 1, none⟩ = some (.int .u8 0) := cell_of HK4.out 1
    have q1 : w4.frozen? ⟨w.heap.size, 1, none⟩ = false := frozen_of HK4.out 1
    have z2 : w4.cell? ⟨w.heap.size, 2, none⟩ = some (.int .u8 0) := cell_of HK4.out 2
    have q2 : w4.frozen? ⟨w.heap.size, 2, none⟩ = false := frozen_of HK4.out 2
    have z3 : w4.cell? ⟨w.heap.size, 3, none⟩ = some (.int .i64 0) := cell_of HK4.out 3
    have q3 : w4.frozen? ⟨w.heap.size, 3, none⟩ = false := frozen_of HK4.out 3
    have z4 : w4.cell? ⟨w.heap.size, 4, none⟩ = some (.int .u8 0) := cell_of HK4.out 4
    have q4 : w4.frozen? ⟨w.heap.size, 4, none⟩ = false := frozen_of HK4.out 4
    have z5 : w4.cell? ⟨w.heap.size, 5, none⟩ = some (.string ⟨#[]⟩) := cell_of HK4.out 5
    have q5 : w4.frozen? ⟨w.heap.size, 5, none⟩ = false := frozen_of HK4.out 5
    have z6 : w4.cell? ⟨w.heap.size, 6, none⟩ = some (.slice none 0 0) := cell_of HK4.out 6
    have q6 : w4.frozen? ⟨w.heap.size, 6, none⟩ = false := frozen_of HK4.out 6
    have z7 : w4.cell? ⟨w.heap.size, 7, none⟩ = some (.int .i64 0) := cell_of HK4.out 7
    have q7 : w4.frozen? ⟨w.heap.size, 7, none⟩ = false := frozen_of HK4.out 7
    obtain ⟨Y, eY, hY1, hY2, hY3, hY4⟩ := fin8 HK4.out (.int .u8 4) (.int .u8 0) (.int .u8 0) (.int .i64 0) (.int .u8 f) (.string ⟨#[]⟩) (.slice none 0 0) (.int .i64 u.p)
    have HY1 : Hid (Y.heap[w.heap.size]? = some (.cells (Nd.mk ⟨4, 0, 0, 0, f, gE, u.p⟩ none 0 []).vals 52 (0, 0))) := hY1
    have HEY : Hid (_ = Y) := eY
    have HRY : Hid (∃ a c, Rdr Y b G ts fa fe d a c) := ⟨a3, c3, HRD.out.blk (hY3 _ (by have := HBL.out; omega)) (hY3 _ (by have := HGL.out; omega)) (by omega)⟩
    have HMY : Hid (Mv w Y (fun k => k = b)) := hY4 _ _ HM4.out (Nat.le_refl _)
    clear cT hr3 hm3 eY hY1 hY2 hY3 hY4
    go_wp2_with fail
    rw [HEY.out]
    exact bodyPost_ret (results_cell_row rfl _ _ w.heap.size 52 (Nd.mk ⟨4, 0, 0, 0, f, gE, u.p⟩ none 0 []).vals (0, 0) _ rfl HY1.out Tryz.underlying52 rfl (by kernel_rfl)) rfl ⟨⟨_, rfl, rfl, lies0 _ HT.out, bkn0 _ _⟩, HRY.out, HMY.out⟩
  · rw [if_neg e]
    rw [decide_eq_false e] at cM
    clear e
    go_enter Tryz.func120, Tryz.ntmps120
    go_wp2_with fail
    refine cS.mono ?_
    rintro e w1 ⟨rfl, ⟨a1, c1, hr1⟩, hm1⟩
    have HM1 : Hid (Mv w w1 (fun k => k = b)) := (Mv.ofBelow HB0.out).trans hm1 (fun k e => .inl e)
    have HR1 := hr1.hid
    have cL := look_ok hr1
    clear cS hr1 hm1
    go_wp2_with fail
    refine cL.mono ?_
    rintro e w2 ⟨rfl, hb⟩
    have HM2 : Hid (Mv w w2 (fun k => k = b)) := HM1.out.trans (Mv.ofBelow hb) (fun k e => .inl e)
    have HR2 := (HR1.out.on hb).hid
    clear hb cL
    go_wp2_with fail
    refine (cF _).mono ?_
    rintro e w3 ⟨rfl, hb⟩
    have HM3 : Hid (Mv w w3 (fun k => k = b)) := HM2.out.trans (Mv.ofBelow hb) (fun k e => .inl e)
    have cN := need_tok (HR2.out.on hb) 130
    have cM3 := cM w3
    clear hb cF cM
    go_wp2_with (go_at_call 126; refine cM3.mono ?_; rintro e w4 ⟨rfl, e4⟩; obtain rfl := e4.symm)
    refine cN.mono ?_
    rintro e w4 ⟨rfl, hb4⟩
    exact ⟨rfl, rfl, HM3.out.trans (Mv.ofBelow hb4) (fun k e => .inl e)⟩
end Go.Proofs.YtkfabnchhjfjjabGreatDoor
