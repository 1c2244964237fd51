/-
  What words and marks say: typeOf, fieldOf, callOf, valueOf; the operators of the levels.
-/
import Derived.Test.YtkfabnchhjfjjabGreatDoorRt
namespace Go.Proofs.YtkfabnchhjfjjabGreatDoor
open Go.RowKit
set_option maxRecDepth 100000 in
theorem typeOf_any (t : Tk) (w : World) : Calls Tryz.prog 75 #[.agg (tkA t)] w fun e w' => e = .returned (.int .u8 (tyX t.x)) ∧ Below w.heap.size w w' := by
  unfold tkA
  unfold tyX eqX
  go_enter Tryz.func75, Tryz.ntmps75
  go_wp2_with fail
  all_goals (go_ret; exact ⟨by simp [*], below_new _ _⟩)
set_option maxRecDepth 100000 in
theorem fieldOf_any (t : Tk) (w : World) : Calls Tryz.prog 125 #[.agg (tkA t)] w fun e w' => e = .returned (.int .u8 (fieldX t.x)) ∧ Below w.heap.size w w' := by
  unfold tkA
  unfold fieldX eqX
  go_enter Tryz.func125, Tryz.ntmps125
  go_wp2_with fail
  all_goals (go_ret; exact ⟨by simp [*], below_new _ _⟩)
set_option maxRecDepth 100000 in
theorem callOf_any (t : Tk) (w : World) : Calls Tryz.prog 121 #[.agg (tkA t)] w fun e w' => e = .returned (.int .u8 (callX t.x)) ∧ Below w.heap.size w w' := by
  unfold tkA
  unfold callX eqX
  go_enter Tryz.func121, Tryz.ntmps121
  go_wp2_with fail
  all_goals (go_ret; exact ⟨by simp [*], below_new _ _⟩)
set_option maxRecDepth 100000 in
theorem cmpO_ok {w : World} {b G : Nat} {t : Tk} {ts : List Tk} {fa : Int} {fe : Value} {d : Nat} {a : Option Addr} {c : Nat} (h : Rdr w b G (t :: ts) fa fe d a c) :
    Calls Tryz.prog 97 #[.pointer (some ⟨b, 0, none⟩)] w fun e w' => e = .returned (.int .u8 (cmpX t.x)) ∧ Below w.heap.size w w' := by
  have cL := look_ok h
  have hf := fun v => field82_1 t v
  clear h
  unfold cmpX eqX
  go_enter Tryz.func97, Tryz.ntmps97
  go_wp2_with fail
  refine cL.mono ?_
  rintro e w1 ⟨rfl, hb⟩
  have HB : Hid (Below w.heap.size w w1) := hb
  clear hb cL
  go_wp2_with fail
  all_goals (go_ret; exact ⟨by simp [*], HB.out⟩)
set_option maxRecDepth 100000 in
theorem cmpO_no {w : World} {b G : Nat} {fa : Int} {fe : Value} {d : Nat} {a : Option Addr} {c : Nat} (h : Rdr w b G [] fa fe d a c) :
    Calls Tryz.prog 97 #[.pointer (some ⟨b, 0, none⟩)] w fun e w' => e = pan (ftV fa fe .lex) ∧ Below w.heap.size w w' := by
  have cL := look_no h
  clear h
  go_enter Tryz.func97, Tryz.ntmps97
  go_wp2_with fail
  refine cL.mono ?_
  rintro e w1 ⟨rfl, hb⟩
  exact ⟨rfl, rfl, hb⟩
set_option maxRecDepth 100000 in
theorem sumO_ok {w : World} {b G : Nat} {t : Tk} {ts : List Tk} {fa : Int} {fe : Value} {d : Nat} {a : Option Addr} {c : Nat} (h : Rdr w b G (t :: ts) fa fe d a c) :
    Calls Tryz.prog 110 #[.pointer (some ⟨b, 0, none⟩)] w fun e w' => e = .returned (.int .u8 (sumX t.x)) ∧ Below w.heap.size w w' := by
  have cL := look_ok h
  have hf := fun v => field82_1 t v
  clear h
  unfold sumX eqX
  go_enter Tryz.func110, Tryz.ntmps110
  go_wp2_with fail
  refine cL.mono ?_
  rintro e w1 ⟨rfl, hb⟩
  have HB : Hid (Below w.heap.size w w1) := hb
  clear hb cL
  go_wp2_with fail
  all_goals (go_ret; exact ⟨by simp [*], HB.out⟩)
set_option maxRecDepth 100000 in
theorem sumO_no {w : World} {b G : Nat} {fa : Int} {fe : Value} {d : Nat} {a : Option Addr} {c : Nat} (h : Rdr w b G [] fa fe d a c) :
    Calls Tryz.prog 110 #[.pointer (some ⟨b, 0, none⟩)] w fun e w' => e = pan (ftV fa fe .lex) ∧ Below w.heap.size w w' := by
  have cL := look_no h
  clear h
  go_enter Tryz.func110, Tryz.ntmps110
  go_wp2_with fail
  refine cL.mono ?_
  rintro e w1 ⟨rfl, hb⟩
  exact ⟨rfl, rfl, hb⟩
set_option maxRecDepth 100000 in
theorem proO_ok {w : World} {b G : Nat} {t : Tk} {ts : List Tk} {fa : Int} {fe : Value} {d : Nat} {a : Option Addr} {c : Nat} (h : Rdr w b G (t :: ts) fa fe d a c) :
    Calls Tryz.prog 114 #[.pointer (some ⟨b, 0, none⟩)] w fun e w' => e = .returned (.int .u8 (proX t.x)) ∧ Below w.heap.size w w' := by
  have cL := look_ok h
  have hf := fun v => field82_1 t v
  clear h
  unfold proX eqX
  go_enter Tryz.func114, Tryz.ntmps114
  go_wp2_with fail
  refine cL.mono ?_
  rintro e w1 ⟨rfl, hb⟩
  have HB : Hid (Below w.heap.size w w1) := hb
  clear hb cL
  go_wp2_with fail
  all_goals (go_ret; exact ⟨by simp [*], HB.out⟩)
set_option maxRecDepth 100000 in
theorem proO_no {w : World} {b G : Nat} {fa : Int} {fe : Value} {d : Nat} {a : Option Addr} {c : Nat} (h : Rdr w b G [] fa fe d a c) :
    Calls Tryz.prog 114 #[.pointer (some ⟨b, 0, none⟩)] w fun e w' => e = pan (ftV fa fe .lex) ∧ Below w.heap.size w w' := by
  have cL := look_no h
  clear h
  go_enter Tryz.func114, Tryz.ntmps114
  go_wp2_with fail
  refine cL.mono ?_
  rintro e w1 ⟨rfl, hb⟩
  exact ⟨rfl, rfl, hb⟩
set_option maxRecDepth 100000 in
theorem unO_ok {w : World} {b G : Nat} {t : Tk} {ts : List Tk} {fa : Int} {fe : Value} {d : Nat} {a : Option Addr} {c : Nat} (h : Rdr w b G (t :: ts) fa fe d a c) :
    Calls Tryz.prog 117 #[.pointer (some ⟨b, 0, none⟩)] w fun e w' => e = .returned (.int .u8 (unX t.x)) ∧ Below w.heap.size w w' := by
  have cL := look_ok h
  have hf := fun v => field82_1 t v
  clear h
  unfold unX eqX
  go_enter Tryz.func117, Tryz.ntmps117
  go_wp2_with fail
  refine cL.mono ?_
  rintro e w1 ⟨rfl, hb⟩
  have HB : Hid (Below w.heap.size w w1) := hb
  clear hb cL
  go_wp2_with fail
  all_goals (go_ret; exact ⟨by simp [*], HB.out⟩)
set_option maxRecDepth 100000 in
theorem unO_no {w : World} {b G : Nat} {fa : Int} {fe : Value} {d : Nat} {a : Option Addr} {c : Nat} (h : Rdr w b G [] fa fe d a c) :
    Calls Tryz.prog 117 #[.pointer (some ⟨b, 0, none⟩)] w fun e w' => e = pan (ftV fa fe .lex) ∧ Below w.heap.size w w' := by
  have cL := look_no h
  clear h
  go_enter Tryz.func117, Tryz.ntmps117
  go_wp2_with fail
  refine cL.mono ?_
  rintro e w1 ⟨rfl, hb⟩
  exact ⟨rfl, rfl, hb⟩
set_option maxRecDepth 100000 in
theorem orO_ok {w : World} {b G : Nat} {t : Tk} {ts : List Tk} {fa : Int} {fe : Value} {d : Nat} {a : Option Addr} {c : Nat} (h : Rdr w b G (t :: ts) fa fe d a c) :
    Calls Tryz.prog 66 #[.pointer (some ⟨b, 0, none⟩)] w fun e w' => e = .returned (.int .u8 (orX t.x)) ∧ Below w.heap.size w w' := by
  have cL := is_ok h ⟨#[124, 124]⟩
  clear h
  unfold orX gB
  by_cases e : t.x = ⟨#[124, 124]⟩
  · rw [decide_eq_true e] at cL
    rw [if_pos e]
    clear e
    go_enter Tryz.func66, Tryz.ntmps66
    go_wp2_with fail
    refine cL.mono ?_
    rintro e w1 ⟨rfl, hb⟩
    go_wp2_with fail
    go_ret
    exact ⟨rfl, hb⟩
  · rw [decide_eq_false e] at cL
    rw [if_neg e]
    clear e
    go_enter Tryz.func66, Tryz.ntmps66
    go_wp2_with fail
    refine cL.mono ?_
    rintro e w1 ⟨rfl, hb⟩
    go_wp2_with fail
    go_ret
    exact ⟨rfl, hb⟩
set_option maxRecDepth 100000 in
theorem orO_no {w : World} {b G : Nat} {fa : Int} {fe : Value} {d : Nat} {a : Option Addr} {c : Nat} (h : Rdr w b G [] fa fe d a c) :
    Calls Tryz.prog 66 #[.pointer (some ⟨b, 0, none⟩)] w fun e w' => e = pan (ftV fa fe .lex) ∧ Below w.heap.size w w' := by
  have cL := is_no h ⟨#[124, 124]⟩
  clear h
  go_enter Tryz.func66, Tryz.ntmps66
  go_wp2_with fail
  refine cL.mono ?_
  rintro e w1 ⟨rfl, hb⟩
  exact ⟨rfl, rfl, hb⟩
set_option maxRecDepth 100000 in
theorem andO_ok {w : World} {b G : Nat} {t : Tk} {ts : List Tk} {fa : Int} {fe : Value} {d : Nat} {a : Option Addr} {c : Nat} (h : Rdr w b G (t :: ts) fa fe d a c) :
    Calls Tryz.prog 83 #[.pointer (some ⟨b, 0, none⟩)] w fun e w' => e = .returned (.int .u8 (andX t.x)) ∧ Below w.heap.size w w' := by
  have cL := is_ok h ⟨#[38, 38]⟩
  clear h
  unfold andX gB
  by_cases e : t.x = ⟨#[38, 38]⟩
  · rw [decide_eq_true e] at cL
    rw [if_pos e]
    clear e
    go_enter Tryz.func83, Tryz.ntmps83
    go_wp2_with fail
    refine cL.mono ?_
    rintro e w1 ⟨rfl, hb⟩
    go_wp2_with fail
    go_ret
    exact ⟨rfl, hb⟩
  · rw [decide_eq_false e] at cL
    rw [if_neg e]
    clear e
    go_enter Tryz.func83, Tryz.ntmps83
    go_wp2_with fail
    refine cL.mono ?_
    rintro e w1 ⟨rfl, hb⟩
    go_wp2_with fail
    go_ret
    exact ⟨rfl, hb⟩
set_option maxRecDepth 100000 in
theorem andO_no {w : World} {b G : Nat} {fa : Int} {fe : Value} {d : Nat} {a : Option Addr} {c : Nat} (h : Rdr w b G [] fa fe d a c) :
    Calls Tryz.prog 83 #[.pointer (some ⟨b, 0, none⟩)] w fun e w' => e = pan (ftV fa fe .lex) ∧ Below w.heap.size w w' := by
  have cL := is_no h ⟨#[38, 38]⟩
  clear h
  go_enter Tryz.func83, Tryz.ntmps83
  go_wp2_with fail
  refine cL.mono ?_
  rintro e w1 ⟨rfl, hb⟩
  exact ⟨rfl, rfl, hb⟩
set_option maxRecDepth 100000 in
theorem valueOf_any (t : Tk) (w : World) : Calls Tryz.prog 92 #[.agg (tkA t)] w fun e w' => e = .returned (.tuple #[.int .u8 (valT t).1, .int .i64 (valT t).2]) ∧ Below w.heap.size w w' := by
  unfold tkA
  by_cases c0 : (t.x.toList == [116, 114, 117, 101]) = true
  · have eV : valT t = (5, 1) := by unfold valT eqX; simp only [c0, if_true]
    rw [eV]
    clear eV
    go_enter Tryz.func92, Tryz.ntmps92
    go_wp2_with fail
    all_goals (go_ret2; exact ⟨rfl, below_new _ _⟩)
  have n0 : (t.x.toList == [116, 114, 117, 101]) = false := by simpa using c0
  clear c0
  by_cases c1 : (t.x.toList == [102, 97, 108, 115, 101]) = true
  · have eV : valT t = (5, 0) := by unfold valT eqX; simp only [c1, n0, if_true, if_false, Bool.false_eq_true]
    rw [eV]
    clear eV
    go_enter Tryz.func92, Tryz.ntmps92
    go_wp2_with fail
    all_goals (go_ret2; exact ⟨rfl, below_new _ _⟩)
  have n1 : (t.x.toList == [102, 97, 108, 115, 101]) = false := by simpa using c1
  clear c1
  by_cases c2 : (t.x.toList == [98, 117, 121]) = true
  · have eV : valT t = (6, 1) := by unfold valT eqX; simp only [c2, n0, n1, if_true, if_false, Bool.false_eq_true]
    rw [eV]
    clear eV
    go_enter Tryz.func92, Tryz.ntmps92
    go_wp2_with fail
    all_goals (go_ret2; exact ⟨rfl, below_new _ _⟩)
  have n2 : (t.x.toList == [98, 117, 121]) = false := by simpa using c2
  clear c2
  by_cases c3 : (t.x.toList == [115, 101, 108, 108]) = true
  · have eV : valT t = (6, 2) := by unfold valT eqX; simp only [c3, n0, n1, n2, if_true, if_false, Bool.false_eq_true]
    rw [eV]
    clear eV
    go_enter Tryz.func92, Tryz.ntmps92
    go_wp2_with fail
    all_goals (go_ret2; exact ⟨rfl, below_new _ _⟩)
  have n3 : (t.x.toList == [115, 101, 108, 108]) = false := by simpa using c3
  clear c3
  have eV : valT t = (t.ty, t.n) := by unfold valT eqX; simp only [n0, n1, n2, n3, if_false, Bool.false_eq_true]
  rw [eV]
  clear eV
  go_enter Tryz.func92, Tryz.ntmps92
  go_upto_region 10 with fail
  obtain ⟨V, eV⟩ : ∃ V, w.alloc (.cells #[.int .u8 t.k, .string t.x, .int .u8 t.ty, .int .i64 t.n, .int .i64 t.p] 33) = V := ⟨_, rfl⟩
  have hk : V.heap[w.heap.size]? = some (.cells #[.int .u8 t.k, .string t.x, .int .u8 t.ty, .int .i64 t.n, .int .i64 t.p] 33 (0, 0)) := by rw [← eV]; exact heap_new _ _
  have HB : Hid (Below w.heap.size w V) := by rw [← eV]; exact below_new _ _
  have y2 : V.cell? ⟨w.heap.size, 2, none⟩ = some (.int .u8 t.ty) := cell_of hk 2
  have y3 : V.cell? ⟨w.heap.size, 3, none⟩ = some (.int .i64 t.n) := cell_of hk 3
  rw [eV]
  clear eV hk
  go_quiet (fail)
  have HB2 : Hid (Below w.heap.size w (V.drewN nq)) := below_drew HB.out nq
  go_wp2_with fail
  go_ret2
  exact ⟨rfl, HB2.out⟩
set_option maxRecDepth 100000 in
theorem lack_any (f : Int) (w : World) : Calls Tryz.prog 126 #[.int .u8 f] w fun e w' => e = .returned (.bool (decide (1 ≤ f ∧ f ≤ 3))) ∧ w' = w := by
  by_cases a : 1 ≤ f
  · by_cases b : f ≤ 3
    · rw [decide_eq_true ⟨a, b⟩]
      go_enter Tryz.func126, Tryz.ntmps126
      go_wp2_with fail
      go_ret
      exact ⟨rfl, rfl⟩
    · rw [decide_eq_false fun x => b x.2]
      go_enter Tryz.func126, Tryz.ntmps126
      go_wp2_with fail
      go_ret
      exact ⟨rfl, rfl⟩
  · rw [decide_eq_false fun x => a x.1]
    go_enter Tryz.func126, Tryz.ntmps126
    go_wp2_with fail
    go_ret
    exact ⟨rfl, rfl⟩
set_option maxRecDepth 100000 in
theorem number_any (f : Int) (w : World) : Calls Tryz.prog 123 #[.int .u8 f] w fun e w' => e = .returned (.bool (decide (1 ≤ f ∧ f ≤ 4))) ∧ w' = w := by
  by_cases a : 1 ≤ f
  · by_cases b : f ≤ 4
    · rw [decide_eq_true ⟨a, b⟩]
      go_enter Tryz.func123, Tryz.ntmps123
      go_wp2_with fail
      go_ret
      exact ⟨rfl, rfl⟩
    · rw [decide_eq_false fun x => b x.2]
      go_enter Tryz.func123, Tryz.ntmps123
      go_wp2_with fail
      go_ret
      exact ⟨rfl, rfl⟩
  · rw [decide_eq_false fun x => a x.1]
    go_enter Tryz.func123, Tryz.ntmps123
    go_wp2_with fail
    go_ret
    exact ⟨rfl, rfl⟩
end Go.Proofs.YtkfabnchhjfjjabGreatDoor
