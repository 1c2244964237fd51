/-
  take, open: a token that must stand there.
-/
import Derived.Test.YtkfabnchhjfjjabGreatDoorRl1
namespace Go.Proofs.YtkfabnchhjfjjabGreatDoor
open Go.RowKit
/-- What a call that takes a token hands back, or gives up with. -/
def OutK (b G : Nat) (fa : Int) (fe : Value) (d : Nat) (w : World) (r : Except Ft (Tk × List Tk)) (e : Ending) (w' : World) : Prop :=
  match r with
  | .ok (t, ts) => e = .returned (.agg (tkA t)) ∧ (∃ a c, Rdr w' b G ts fa fe d a c) ∧ Mv w w' (fun k => k = b)
  | .error f => e = pan (ftV fa fe f) ∧ Mv w w' (fun k => k = b)
theorem put_rdr {w : World} {b G r : Nat} {ts : List Tk} {fa : Int} {fe : Value} {d : Nat} {a : Option Addr} {c : Nat} (h : Rdr w b G ts fa fe d a c) (hr : b ≠ r) (hg : G ≠ r) (v0 v1 v2 v3 v4 : Value) :
    Rdr (((((w.setCell ⟨r, 0, none⟩ v0).setCell ⟨r, 1, none⟩ v1).setCell ⟨r, 2, none⟩ v2).setCell ⟨r, 3, none⟩ v3).setCell ⟨r, 4, none⟩ v4) b G ts fa fe d a c :=
  ⟨(oth5 _ hr _ _ _ _ _).trans h.h, h.l, h.m, h.n, h.gb, by have := h.gl; simp [World.setCell]; exact this, fun i hi => by
    obtain ⟨o, e, ht⟩ := h.r i hi
    exact ⟨o, e, ht.blk (oth5 _ hg _ _ _ _ _)⟩⟩
set_option maxRecDepth 100000 in
theorem step_no {w : World} {b G : Nat} {fa : Int} {fe : Value} {d : Nat} {a : Option Addr} {c : Nat} (h : Rdr w b G [] fa fe d a c) :
    Calls Tryz.prog 54 #[.pointer (some ⟨b, 0, none⟩)] w fun e w' => e = pan (ftV fa fe .lex) ∧ Below w.heap.size w w' := by
  have cL := look_no (h.on (below_new w (.cells #[.int .u8 0, .string ⟨#[]⟩, .int .u8 0, .int .i64 0, .int .i64 0] 33)))
  clear h
  go_enter Tryz.func54, Tryz.ntmps54
  go_wp2_with fail
  refine cL.mono ?_
  rintro e w1 ⟨rfl, hb⟩
  exact ⟨rfl, rfl, below2 (below_new _ _) hb⟩
set_option maxRecDepth 100000 in
theorem take_any {w : World} {b G : Nat} {ts : List Tk} {fa : Int} {fe : Value} {d : Nat} {a : Option Addr} {c : Nat} (h : Rdr w b G ts fa fe d a c) (x : ByteArray) : Calls Tryz.prog 25 #[.pointer (some ⟨b, 0, none⟩), .string x] w (OutK b G fa fe d w (gTake x ts)) := by
  have HBL : Hid (b < w.heap.size) := h.lt
  have HGL : Hid (G < w.heap.size) := h.gl
  have hb0 := below_new w (.cells #[.int .u8 0, .string ⟨#[]⟩, .int .u8 0, .int .i64 0, .int .i64 0] 33)
  have h0 := h.on hb0
  have k0 : (w.alloc (.cells #[.int .u8 0, .string ⟨#[]⟩, .int .u8 0, .int .i64 0, .int .i64 0] 33)).heap[w.heap.size]? = some (.cells #[.int .u8 0, .string ⟨#[]⟩, .int .u8 0, .int .i64 0, .int .i64 0] 33 (0, 0)) := heap_new _ _
  have HB0 : Hid (Below w.heap.size w (w.alloc (.cells #[.int .u8 0, .string ⟨#[]⟩, .int .u8 0, .int .i64 0, .int .i64 0] 33))) := hb0
  have HK0 : Hid ((w.alloc (.cells #[.int .u8 0, .string ⟨#[]⟩, .int .u8 0, .int .i64 0, .int .i64 0] 33)).heap[w.heap.size]? = some (.cells #[.int .u8 0, .string ⟨#[]⟩, .int .u8 0, .int .i64 0, .int .i64 0] 33 (0, 0))) := k0
  clear h hb0 k0
  cases ts with
  | nil =>
    have cI := is_no h0 x
    clear h0
    go_enter Tryz.func25, Tryz.ntmps25
    go_wp2_with fail
    refine cI.mono ?_
    rintro e w1 ⟨rfl, hb⟩
    exact ⟨rfl, rfl, Mv.ofBelow (below2 HB0.out hb)⟩
  | cons t ts =>
    have cI := is_ok h0 x
    by_cases e : t.x = x
    · have eT : gTake x (t :: ts) = .ok (t, ts) := by subst e; simp [gTake, gIs, gLook, gNeed, gStep, Except.map, bind, Except.bind]
      rw [eT]
      rw [decide_eq_true e] at cI
      have HH0 := h0.hid
      clear h0 eT e
      go_enter Tryz.func25, Tryz.ntmps25
      go_wp2_with fail
      refine cI.mono ?_
      rintro e w1 ⟨rfl, hb⟩
      have HB : Hid (Below w.heap.size w w1) := below2 HB0.out hb
      have HZ : Hid (w1.heap[w.heap.size]? = some (.cells #[.int .u8 0, .string ⟨#[]⟩, .int .u8 0, .int .i64 0, .int .i64 0] 33 (0, 0))) := (hb.block _ (Array.getElem?_eq_some_iff.1 HK0.out).1).trans HK0.out
      have cS := step_ok (HH0.out.on hb)
      have cN := need_ok w1 b 130
      clear hb cI
      go_wp2_with (go_at_call 33; refine cN.mono ?_; rintro e w3 ⟨rfl, e4⟩; obtain rfl := e4.symm)
      refine cS.mono ?_
      rintro e w2 ⟨rfl, ⟨a2, c2, hr2⟩, hm2⟩
      have HR2 := hr2.hid
      have HM2 : Hid (Mv w w2 (fun k => k = b)) := (Mv.ofBelow HB.out).trans hm2 (fun k e => .inl e)
      have HK : Hid (w2.heap[w.heap.size]? = some (.cells #[.int .u8 0, .string ⟨#[]⟩, .int .u8 0, .int .i64 0, .int .i64 0] 33 (0, 0))) := (hm2.block _ (Array.getElem?_eq_some_iff.1 HZ.out).1 (fun e => by have := HBL.out; omega)).trans HZ.out
      have z0 : w2.cell? ⟨w.heap.size, 0, none⟩ = some (.int .u8 0) := cell_of HK.out 0
      have q0 : w2.frozen? ⟨w.heap.size, 0, none⟩ = false := frozen_of HK.out 0
      have z1 : w2.cell? ⟨w.heap.size, 1, none⟩ = some (.string ⟨#[]⟩) := cell_of HK.out 1
      have q1 : w2.frozen? ⟨w.heap.size, 1, none⟩ = false := frozen_of HK.out 1
      have z2 : w2.cell? ⟨w.heap.size, 2, none⟩ = some (.int .u8 0) := cell_of HK.out 2
      have q2 : w2.frozen? ⟨w.heap.size, 2, none⟩ = false := frozen_of HK.out 2
      have z3 : w2.cell? ⟨w.heap.size, 3, none⟩ = some (.int .i64 0) := cell_of HK.out 3
      have q3 : w2.frozen? ⟨w.heap.size, 3, none⟩ = false := frozen_of HK.out 3
      have z4 : w2.cell? ⟨w.heap.size, 4, none⟩ = some (.int .i64 0) := cell_of HK.out 4
      have q4 : w2.frozen? ⟨w.heap.size, 4, none⟩ = false := frozen_of HK.out 4
      clear cS hr2 hm2
      unfold tkA
      go_wp2_with fail
      exact bodyPost_ret (results_cell_row rfl _ _ w.heap.size 33 (tkA t) (0, 0) _ rfl (put5 HK.out _ _ _ _ _) Tryz.underlying33 rfl (by kernel_rfl)) rfl ⟨rfl, ⟨a2, c2, put_rdr HR2.out (by have := HBL.out; omega) (by have := HGL.out; omega) _ _ _ _ _⟩, mv5 HM2.out (Nat.le_refl _) _ _ _ _ _⟩
    · have eT : gTake x (t :: ts) = .error (.tok 130 t.p) := by simp [gTake, gIs, gLook, gNeed, Except.map, bind, Except.bind, e]
      rw [eT]
      rw [decide_eq_false e] at cI
      have HH0 := h0.hid
      clear h0 eT e
      go_enter Tryz.func25, Tryz.ntmps25
      go_wp2_with fail
      refine cI.mono ?_
      rintro e w1 ⟨rfl, hb⟩
      have HB : Hid (Below w.heap.size w w1) := below2 HB0.out hb
      have cN := need_tok (HH0.out.on hb) 130
      clear hb cI
      go_wp2_with fail
      refine cN.mono ?_
      rintro e w2 ⟨rfl, hb2⟩
      exact ⟨rfl, rfl, Mv.ofBelow (below2 HB.out hb2)⟩
set_option maxRecDepth 100000 in
theorem open_any {w : World} {b G : Nat} {ts : List Tk} {fa : Int} {fe : Value} {d : Nat} {a : Option Addr} {c : Nat} (h : Rdr w b G ts fa fe d a c) : Calls Tryz.prog 42 #[.pointer (some ⟨b, 0, none⟩)] w (OutK b G fa fe d w (gOpn d ts)) := by
  have HBL : Hid (b < w.heap.size) := h.lt
  have HGL : Hid (G < w.heap.size) := h.gl
  have hb0 := below_new w (.cells #[.int .u8 0, .string ⟨#[]⟩, .int .u8 0, .int .i64 0, .int .i64 0] 33)
  have h0 := h.on hb0
  have k0 : (w.alloc (.cells #[.int .u8 0, .string ⟨#[]⟩, .int .u8 0, .int .i64 0, .int .i64 0] 33)).heap[w.heap.size]? = some (.cells #[.int .u8 0, .string ⟨#[]⟩, .int .u8 0, .int .i64 0, .int .i64 0] 33 (0, 0)) := heap_new _ _
  have HB : Hid (Below w.heap.size w (w.alloc (.cells #[.int .u8 0, .string ⟨#[]⟩, .int .u8 0, .int .i64 0, .int .i64 0] 33))) := hb0
  have HZ : Hid ((w.alloc (.cells #[.int .u8 0, .string ⟨#[]⟩, .int .u8 0, .int .i64 0, .int .i64 0] 33)).heap[w.heap.size]? = some (.cells #[.int .u8 0, .string ⟨#[]⟩, .int .u8 0, .int .i64 0, .int .i64 0] 33 (0, 0))) := k0
  have c3 : w.cell? ⟨b, 3, none⟩ = some (.int .i64 d) := cell_of h.h 3
  have hbl := h.lt
  clear h hb0 k0
  by_cases hd : d < 24
  · have hd' : (d : Int) < 24 := by omega
    cases ts with
    | nil =>
      have eT : gOpn d [] = .error .lex := by simp [gOpn, gNeed, gStep, hd, bind, Except.bind]
      rw [eT]
      have cS := step_no h0
      have cN := need_ok (w.alloc (.cells #[.int .u8 0, .string ⟨#[]⟩, .int .u8 0, .int .i64 0, .int .i64 0] 33)) b 132
      clear h0 eT hd
      go_enter Tryz.func42, Tryz.ntmps42
      go_wp2_with (go_at_call 33; refine cN.mono ?_; rintro e w3 ⟨rfl, e4⟩; obtain rfl := e4.symm)
      refine cS.mono ?_
      rintro e w2 ⟨rfl, hb2⟩
      exact ⟨rfl, rfl, Mv.ofBelow (below2 HB.out hb2)⟩
    | cons t ts =>
      have eT : gOpn d (t :: ts) = .ok (t, ts) := by simp [gOpn, gNeed, gStep, hd, bind, Except.bind]
      rw [eT]
      have cS := step_ok h0
      have cN := need_ok (w.alloc (.cells #[.int .u8 0, .string ⟨#[]⟩, .int .u8 0, .int .i64 0, .int .i64 0] 33)) b 132
      clear h0 eT hd
      go_enter Tryz.func42, Tryz.ntmps42
      go_wp2_with (go_at_call 33; refine cN.mono ?_; rintro e w3 ⟨rfl, e4⟩; obtain rfl := e4.symm)
      refine cS.mono ?_
      rintro e w2 ⟨rfl, ⟨a2, c2, hr2⟩, hm2⟩
      have HR2 := hr2.hid
      have HM2 : Hid (Mv w w2 (fun k => k = b)) := (Mv.ofBelow HB.out).trans hm2 (fun k e => .inl e)
      have HK : Hid (w2.heap[w.heap.size]? = some (.cells #[.int .u8 0, .string ⟨#[]⟩, .int .u8 0, .int .i64 0, .int .i64 0] 33 (0, 0))) := (hm2.block _ (Array.getElem?_eq_some_iff.1 HZ.out).1 (fun e => by have := HBL.out; omega)).trans HZ.out
      have z0 : w2.cell? ⟨w.heap.size, 0, none⟩ = some (.int .u8 0) := cell_of HK.out 0
      have q0 : w2.frozen? ⟨w.heap.size, 0, none⟩ = false := frozen_of HK.out 0
      have z1 : w2.cell? ⟨w.heap.size, 1, none⟩ = some (.string ⟨#[]⟩) := cell_of HK.out 1
      have q1 : w2.frozen? ⟨w.heap.size, 1, none⟩ = false := frozen_of HK.out 1
      have z2 : w2.cell? ⟨w.heap.size, 2, none⟩ = some (.int .u8 0) := cell_of HK.out 2
      have q2 : w2.frozen? ⟨w.heap.size, 2, none⟩ = false := frozen_of HK.out 2
      have z3 : w2.cell? ⟨w.heap.size, 3, none⟩ = some (.int .i64 0) := cell_of HK.out 3
      have q3 : w2.frozen? ⟨w.heap.size, 3, none⟩ = false := frozen_of HK.out 3
      have z4 : w2.cell? ⟨w.heap.size, 4, none⟩ = some (.int .i64 0) := cell_of HK.out 4
      have q4 : w2.frozen? ⟨w.heap.size, 4, none⟩ = false := frozen_of HK.out 4
      clear cS hr2 hm2
      unfold tkA
      go_wp2_with fail
      exact bodyPost_ret (results_cell_row rfl _ _ w.heap.size 33 (tkA t) (0, 0) _ rfl (put5 HK.out _ _ _ _ _) Tryz.underlying33 rfl (by kernel_rfl)) rfl ⟨rfl, ⟨a2, c2, put_rdr HR2.out (by have := HBL.out; omega) (by have := HGL.out; omega) _ _ _ _ _⟩, mv5 HM2.out (Nat.le_refl _) _ _ _ _ _⟩
  · have hd' : ¬ (d : Int) < 24 := by omega
    have hd2 : decide ((d : Int) < 24) = false := decide_eq_false hd'
    cases ts with
    | nil =>
      have eT : gOpn d [] = .error .lex := by simp [gOpn, gNeed, gLook, hd, bind, Except.bind]
      rw [eT]
      have cN := need_lex h0 132
      clear h0 eT hd
      go_enter Tryz.func42, Tryz.ntmps42
      go_wp2_with fail
      refine cN.mono ?_
      rintro e w2 ⟨rfl, hb2⟩
      exact ⟨rfl, rfl, Mv.ofBelow (below2 HB.out hb2)⟩
    | cons t ts =>
      have eT : gOpn d (t :: ts) = .error (.tok 132 t.p) := by simp [gOpn, gNeed, gLook, hd, bind, Except.bind]
      rw [eT]
      have cN := need_tok h0 132
      clear h0 eT hd
      go_enter Tryz.func42, Tryz.ntmps42
      go_wp2_with fail
      refine cN.mono ?_
      rintro e w2 ⟨rfl, hb2⟩
      exact ⟨rfl, rfl, Mv.ofBelow (below2 HB.out hb2)⟩
end Go.Proofs.YtkfabnchhjfjjabGreatDoor
