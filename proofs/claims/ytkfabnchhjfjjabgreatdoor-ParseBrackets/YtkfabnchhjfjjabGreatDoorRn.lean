/-
  name, end: a name that must stand there, the end.
-/
import Derived.Test.YtkfabnchhjfjjabGreatDoorRt
namespace Go.Proofs.YtkfabnchhjfjjabGreatDoor
open Go.RowKit
theorem field82_0 (t : Tk) (v : World) : (Instr.field 33 (.agg (tkA t)) 0).run Tryz.prog v = .ok (.int .u8 t.k) v := by kernel_rfl
def gName (ts : List Tk) : Except Ft (ByteArray × List Tk) := do
  let t ← gLook ts
  gNeed (decide (t.k = 2)) 130 ts
  let (u, r) ← gStep ts
  .ok (u.x, r)
def gEnd (ts : List Tk) : Except Ft Unit := do
  let t ← gLook ts
  gNeed (decide (t.k = 0)) 130 ts
/-- What a call that reads a name hands back, or gives up with. -/
def OutS (b G : Nat) (fa : Int) (fe : Value) (d : Nat) (w : World) (r : Except Ft (ByteArray × List Tk)) (e : Ending) (w' : World) : Prop :=
  match r with
  | .ok (x, ts) => e = .returned (.string x) ∧ (∃ a c, Rdr w' b G ts fa fe d a c) ∧ Mv w w' (fun k => k = b)
  | .error f => e = pan (ftV fa fe f) ∧ Mv w w' (fun k => k = b)
set_option maxRecDepth 100000 in
theorem name_any {w : World} {b G : Nat} {ts : List Tk} {fa : Int} {fe : Value} {d : Nat} {a : Option Addr} {c : Nat} (h : Rdr w b G ts fa fe d a c) : Calls Tryz.prog 26 #[.pointer (some ⟨b, 0, none⟩)] w (OutS b G fa fe d w (gName ts)) := by
  cases ts with
  | nil =>
    have cL := look_no h
    clear h
    go_enter Tryz.func26, Tryz.ntmps26
    go_wp2_with fail
    refine cL.mono ?_
    rintro e w1 ⟨rfl, hb⟩
    exact ⟨rfl, rfl, Mv.ofBelow hb⟩
  | cons t ts =>
    have cL := look_ok h
    have HH := h.hid
    have hf := fun v => field82_0 t v
    have hf1 := fun v => field82_1 t v
    clear h
    by_cases e : t.k = 2
    · have eT : gName (t :: ts) = .ok (t.x, ts) := by simp [gName, gLook, gNeed, gStep, bind, Except.bind, e]
      rw [eT]
      clear eT
      go_enter Tryz.func26, Tryz.ntmps26
      go_wp2_with fail
      refine cL.mono ?_
      rintro e w1 ⟨rfl, hb⟩
      have HB : Hid (Below w.heap.size w w1) := hb
      have cS := step_ok (HH.out.on hb)
      have cN := need_ok w1 b 130
      clear hb cL
      go_wp2_with (go_at_call 33; refine cN.mono ?_; rintro e w3 ⟨rfl, e4⟩; obtain rfl := e4.symm)
      refine cS.mono ?_
      rintro e w2 ⟨rfl, hr2, hm2⟩
      have HR2 : Hid (∃ a c, Rdr w2 b G ts fa fe d a c) := hr2
      have HM2 : Hid (Mv w w2 (fun k => k = b)) := (Mv.ofBelow HB.out).trans hm2 (fun k e => .inl e)
      clear cS hr2 hm2
      go_wp2_with fail
      go_ret
      exact ⟨rfl, HR2.out, HM2.out⟩
    · have e2 : decide (t.k = 2) = false := decide_eq_false e
      have e3 : (t.k == 2) = false := by simpa using e
      have eT : gName (t :: ts) = .error (.tok 130 t.p) := by simp [gName, gLook, gNeed, bind, Except.bind, e]
      rw [eT]
      clear eT
      go_enter Tryz.func26, Tryz.ntmps26
      go_wp2_with fail
      refine cL.mono ?_
      rintro e w1 ⟨rfl, hb⟩
      have HB : Hid (Below w.heap.size w w1) := hb
      have cN := need_tok (HH.out.on hb) 130
      clear hb cL
      go_wp2_with fail
      refine cN.mono ?_
      rintro e w2 ⟨rfl, hb2⟩
      exact ⟨rfl, rfl, Mv.ofBelow (below2 HB.out hb2)⟩
/-- What a call hands back that only looks. -/
def OutU (fa : Int) (fe : Value) (w : World) (r : Except Ft Unit) (e : Ending) (w' : World) : Prop :=
  (match r with
  | .ok _ => e = .returned (.tuple #[])
  | .error f => e = pan (ftV fa fe f)) ∧ Below w.heap.size w w'
set_option maxRecDepth 100000 in
theorem end_any {w : World} {b G : Nat} {ts : List Tk} {fa : Int} {fe : Value} {d : Nat} {a : Option Addr} {c : Nat} (h : Rdr w b G ts fa fe d a c) : Calls Tryz.prog 24 #[.pointer (some ⟨b, 0, none⟩)] w (OutU fa fe w (gEnd ts)) := by
  cases ts with
  | nil =>
    have cL := look_no h
    clear h
    go_enter Tryz.func24, Tryz.ntmps24
    go_wp2_with fail
    refine cL.mono ?_
    rintro e w1 ⟨rfl, hb⟩
    exact ⟨rfl, rfl, hb⟩
  | cons t ts =>
    have cL := look_ok h
    have HH := h.hid
    have hf := fun v => field82_0 t v
    have hf1 := fun v => field82_1 t v
    clear h
    by_cases e : t.k = 0
    · have e2 : decide (t.k = 0) = true := decide_eq_true e
      have e3 : (t.k == 0) = true := by simpa using e
      have eT : gEnd (t :: ts) = .ok () := by simp [gEnd, gLook, gNeed, bind, Except.bind, e]
      rw [eT]
      clear eT
      go_enter Tryz.func24, Tryz.ntmps24
      go_wp2_with fail
      refine cL.mono ?_
      rintro e w1 ⟨rfl, hb⟩
      have HB : Hid (Below w.heap.size w w1) := hb
      have cN := need_ok w1 b 130
      clear hb cL
      go_wp2_with (go_at_call 33; refine cN.mono ?_; rintro e w3 ⟨rfl, e4⟩; obtain rfl := e4.symm)
      go_end0
      exact ⟨rfl, HB.out⟩
    · have e2 : decide (t.k = 0) = false := decide_eq_false e
      have e3 : (t.k == 0) = false := by simpa using e
      have eT : gEnd (t :: ts) = .error (.tok 130 t.p) := by simp [gEnd, gLook, gNeed, bind, Except.bind, e]
      rw [eT]
      clear eT
      go_enter Tryz.func24, Tryz.ntmps24
      go_wp2_with fail
      refine cL.mono ?_
      rintro e w1 ⟨rfl, hb⟩
      have HB : Hid (Below w.heap.size w w1) := hb
      have cN := need_tok (HH.out.on hb) 130
      clear hb cL
      go_wp2_with fail
      refine cN.mono ?_
      rintro e w2 ⟨rfl, hb2⟩
      exact ⟨rfl, rfl, below2 HB.out hb2⟩
end Go.Proofs.YtkfabnchhjfjjabGreatDoor
