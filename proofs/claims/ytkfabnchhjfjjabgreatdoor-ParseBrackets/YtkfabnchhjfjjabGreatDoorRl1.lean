import Derived.Test.YtkfabnchhjfjjabGreatDoorPm
import Derived.Test.YtkfabnchhjfjjabGreatDoorLx1
import Derived.Test.YtkfabnchhjfjjabGreatDoorMv
/-
  A reader in memory; look, is, need, step, take, open.
-/
namespace Go.Proofs.YtkfabnchhjfjjabGreatDoor
open Go.RowKit
/-- Five cells that hold a token. -/
structure TkC (w : World) (b o : Nat) (t : Tk) : Prop where
  c0 : w.cell? ⟨b, o, none⟩ = some (.int .u8 t.k)
  c1 : w.cell? ⟨b, o + 1, none⟩ = some (.string t.x)
  c2 : w.cell? ⟨b, o + 2, none⟩ = some (.int .u8 t.ty)
  c3 : w.cell? ⟨b, o + 3, none⟩ = some (.int .i64 t.n)
  c4 : w.cell? ⟨b, o + 4, none⟩ = some (.int .i64 t.p)
theorem TkC.lt {w : World} {b o : Nat} {t : Tk} (h : TkC w b o t) : b < w.heap.size := World.block_lt_of_cell? w _ h.c0
theorem TkC.blk {w w' : World} {b o : Nat} {t : Tk} (h : TkC w b o t) (k : w'.heap[b]? = w.heap[b]?) : TkC w' b o t :=
  ⟨(World.cell?_of_block k).trans h.c0, (World.cell?_of_block k).trans h.c1, (World.cell?_of_block k).trans h.c2, (World.cell?_of_block k).trans h.c3, (World.cell?_of_block k).trans h.c4⟩
/-- What a reader has: the tokens ahead, what is wrong behind them, the nest. -/
structure Rdr (w : World) (b G : Nat) (ts : List Tk) (fa : Int) (fe : Value) (d : Nat) (a : Option Addr) (c : Nat) : Prop where
  h : w.heap[b]? = some (.cells #[.slice a ts.length c, .int .i64 fa, fe, .int .i64 d] 105 (0, 0))
  l : ts.length ≤ c
  m : c ≤ 9223372036854775807
  n : d ≤ 1000
  gb : G ≠ b
  gl : G < w.heap.size
  r : ∀ i (hi : i < ts.length), ∃ o, a = some ⟨G, o, none⟩ ∧ TkC w G (o + i * 5) ts[i]
theorem Rdr.hid {w : World} {b G : Nat} {ts : List Tk} {fa : Int} {fe : Value} {d : Nat} {a : Option Addr} {c : Nat} (h : Rdr w b G ts fa fe d a c) : Hid (Rdr w b G ts fa fe d a c) := h
theorem Rdr.on {w w' : World} {b G : Nat} {ts : List Tk} {fa : Int} {fe : Value} {d : Nat} {a : Option Addr} {c : Nat} (h : Rdr w b G ts fa fe d a c) (k : Below w.heap.size w w') : Rdr w' b G ts fa fe d a c :=
  ⟨(k.block b (Array.getElem?_eq_some_iff.1 h.h).1).trans h.h, h.l, h.m, h.n, h.gb, Nat.lt_of_lt_of_le h.gl k.size, fun i hi => by
    obtain ⟨o, e, ht⟩ := h.r i hi
    exact ⟨o, e, ht.blk (k.block G ht.lt)⟩⟩
theorem Rdr.lt {w : World} {b G : Nat} {ts : List Tk} {fa : Int} {fe : Value} {d : Nat} {a : Option Addr} {c : Nat} (h : Rdr w b G ts fa fe d a c) : b < w.heap.size := (Array.getElem?_eq_some_iff.1 h.h).1
theorem ba_ext2 {a b : ByteArray} (h : a.data.toList = b.data.toList) : a = b := by
  cases a; cases b; congr 1; exact Array.toList_inj.1 h
theorem str_ne {a b : ByteArray} (h : ¬ a = b) : (a.toList == b.toList) = false := by
  rw [ByteArray.toList_eq, ByteArray.toList_eq]
  exact beq_false_of_ne (fun h' => h (ba_ext2 h'))
/-- What gives up says. -/
def ftV (fa : Int) (fe : Value) : Ft → Value
  | .tok no p => .iface 73 (.agg #[.int .i64 p, .iface 25 (.int .i64 no)])
  | .lex => .iface 73 (.agg #[.int .i64 fa, fe])
def pan (v : Value) : Ending := .panicked [{ v := v, recovered := false }]
set_option maxRecDepth 100000 in
theorem look_ok {w : World} {b G : Nat} {t : Tk} {ts : List Tk} {fa : Int} {fe : Value} {d : Nat} {a : Option Addr} {c : Nat} (h : Rdr w b G (t :: ts) fa fe d a c) :
    Calls Tryz.prog 53 #[.pointer (some ⟨b, 0, none⟩)] w fun e w' => e = .returned (.agg (tkA t)) ∧ Below w.heap.size w w' := by
  obtain ⟨o, e, ht⟩ := h.r 0 (by simp)
  subst e
  have ht : TkC w G (o + 0 * 5) t := ht
  obtain ⟨y0, y1, y2, y3, y4⟩ := ht
  simp only [Nat.zero_mul, Nat.add_zero] at y0 y1 y2 y3 y4
  have c0 : w.cell? ⟨b, 0, none⟩ = some (.slice (some ⟨G, o, none⟩) (ts.length + 1) c) := cell_of h.h 0
  have hl : (ts.length : Int) + 1 ≠ 0 := by omega
  have hp : (0 : Int) < (ts.length : Int) + 1 := by omega
  have hbl := h.lt
  have hgl : G < w.heap.size := World.block_lt_of_cell? w _ y0
  clear h
  go_enter Tryz.func53, Tryz.ntmps53
  go_wp2_with fail
  exact bodyPost_ret (results_cell_row rfl _ _ w.heap.size 33 (tkA t) (0, 0) _ rfl (heap_new _ _) Tryz.underlying33 rfl (by kernel_rfl)) rfl ⟨rfl, below_new _ _⟩
set_option maxRecDepth 100000 in
theorem look_no {w : World} {b G : Nat} {fa : Int} {fe : Value} {d : Nat} {a : Option Addr} {c : Nat} (h : Rdr w b G [] fa fe d a c) :
    Calls Tryz.prog 53 #[.pointer (some ⟨b, 0, none⟩)] w fun e w' => e = pan (.iface 73 (.agg #[.int .i64 fa, fe])) ∧ Below w.heap.size w w' := by
  have c0 : w.cell? ⟨b, 0, none⟩ = some (.slice a 0 c) := cell_of h.h 0
  have c1 : w.cell? ⟨b, 1, none⟩ = some (.int .i64 fa) := cell_of h.h 1
  have c2 : w.cell? ⟨b, 2, none⟩ = some fe := cell_of h.h 2
  have hbl := h.lt
  clear h
  go_enter Tryz.func53, Tryz.ntmps53
  go_wp2_with fail
  exact ⟨rfl, rfl, below_new _ _⟩
theorem field82_1 (t : Tk) (v : World) : (Instr.field 33 (.agg (tkA t)) 1).run Tryz.prog v = .ok (.string t.x) v := by kernel_rfl
theorem field82_4 (t : Tk) (v : World) : (Instr.field 33 (.agg (tkA t)) 4).run Tryz.prog v = .ok (.int .i64 t.p) v := by kernel_rfl
set_option maxRecDepth 100000 in
theorem is_ok {w : World} {b G : Nat} {t : Tk} {ts : List Tk} {fa : Int} {fe : Value} {d : Nat} {a : Option Addr} {c : Nat} (h : Rdr w b G (t :: ts) fa fe d a c) (x : ByteArray) :
    Calls Tryz.prog 41 #[.pointer (some ⟨b, 0, none⟩), .string x] w fun e w' => e = .returned (.bool (decide (t.x = x))) ∧ Below w.heap.size w w' := by
  have cL := look_ok h
  have hf := fun v => field82_1 t v
  clear h
  by_cases e : t.x = x
  · rw [decide_eq_true e]
    subst e
    go_enter Tryz.func41, Tryz.ntmps41
    go_wp2_with fail
    refine cL.mono ?_
    rintro e w1 ⟨rfl, hb⟩
    go_wp2_with fail
    go_ret
    exact ⟨rfl, hb⟩
  · have hs := str_ne e
    rw [decide_eq_false e]
    go_enter Tryz.func41, Tryz.ntmps41
    go_wp2_with fail
    refine cL.mono ?_
    rintro e w1 ⟨rfl, hb⟩
    go_wp2_with fail
    go_ret
    exact ⟨rfl, hb⟩
set_option maxRecDepth 100000 in
theorem is_no {w : World} {b G : Nat} {fa : Int} {fe : Value} {d : Nat} {a : Option Addr} {c : Nat} (h : Rdr w b G [] fa fe d a c) (x : ByteArray) :
    Calls Tryz.prog 41 #[.pointer (some ⟨b, 0, none⟩), .string x] w fun e w' => e = pan (.iface 73 (.agg #[.int .i64 fa, fe])) ∧ Below w.heap.size w w' := by
  have cL := look_no h
  clear h
  go_enter Tryz.func41, Tryz.ntmps41
  go_wp2_with fail
  refine cL.mono ?_
  rintro e w1 ⟨rfl, hb⟩
  exact ⟨rfl, rfl, hb⟩
set_option maxRecDepth 100000 in
theorem need_ok (w : World) (b : Nat) (no : Int) : Calls Tryz.prog 33 #[.pointer (some ⟨b, 0, none⟩), .bool true, .int .i64 no] w fun e w' => e = .returned (.tuple #[]) ∧ w' = w := by
  go_enter Tryz.func33, Tryz.ntmps33
  go_wp2_with fail
  go_end0
  exact ⟨rfl, rfl⟩
set_option maxRecDepth 100000 in
theorem need_tok {w : World} {b G : Nat} {t : Tk} {ts : List Tk} {fa : Int} {fe : Value} {d : Nat} {a : Option Addr} {c : Nat} (h : Rdr w b G (t :: ts) fa fe d a c) (no : Int) :
    Calls Tryz.prog 33 #[.pointer (some ⟨b, 0, none⟩), .bool false, .int .i64 no] w fun e w' => e = pan (ftV fa fe (.tok no t.p)) ∧ Below w.heap.size w w' := by
  have cL := look_ok h
  have hf := fun v => field82_4 t v
  clear h
  go_enter Tryz.func33, Tryz.ntmps33
  go_wp2_with fail
  refine cL.mono ?_
  rintro e w1 ⟨rfl, hb⟩
  go_wp2_with fail
  exact ⟨rfl, rfl, hb⟩
set_option maxRecDepth 100000 in
theorem need_lex {w : World} {b G : Nat} {fa : Int} {fe : Value} {d : Nat} {a : Option Addr} {c : Nat} (h : Rdr w b G [] fa fe d a c) (no : Int) :
    Calls Tryz.prog 33 #[.pointer (some ⟨b, 0, none⟩), .bool false, .int .i64 no] w fun e w' => e = pan (ftV fa fe .lex) ∧ Below w.heap.size w w' := by
  have cL := look_no h
  clear h
  go_enter Tryz.func33, Tryz.ntmps33
  go_wp2_with fail
  refine cL.mono ?_
  rintro e w1 ⟨rfl, hb⟩
  exact ⟨rfl, rfl, hb⟩
end Go.Proofs.YtkfabnchhjfjjabGreatDoor

/-
  step, take, name, open.
-/
namespace Go.Proofs.YtkfabnchhjfjjabGreatDoor
open Go.RowKit
theorem Mv.ofBelow {w w' : World} {F : Nat → Prop} (h : Below w.heap.size w w') : Mv w w' F := ⟨h.os, h.tape, h.output, h.size, fun k hk _ => h.block k hk⟩
theorem put5 {w : World} {b : Nat} {a0 a1 a2 a3 a4 : Value} (h : w.heap[b]? = some (.cells #[a0, a1, a2, a3, a4] 33 (0, 0))) (v0 v1 v2 v3 v4 : Value) : (((((w.setCell ⟨b, 0, none⟩ v0).setCell ⟨b, 1, none⟩ v1).setCell ⟨b, 2, none⟩ v2).setCell ⟨b, 3, none⟩ v3).setCell ⟨b, 4, none⟩ v4).heap[b]? = some (.cells #[v0, v1, v2, v3, v4] 33 (0, 0)) := by
  have h1 : (w.setCell ⟨b, 0, none⟩ v0).heap[b]? = some (.cells #[v0, a1, a2, a3, a4] 33 (0, 0)) := heap_set v0 h
  have h2 : ((w.setCell ⟨b, 0, none⟩ v0).setCell ⟨b, 1, none⟩ v1).heap[b]? = some (.cells #[v0, v1, a2, a3, a4] 33 (0, 0)) := heap_set v1 h1
  have h3 : (((w.setCell ⟨b, 0, none⟩ v0).setCell ⟨b, 1, none⟩ v1).setCell ⟨b, 2, none⟩ v2).heap[b]? = some (.cells #[v0, v1, v2, a3, a4] 33 (0, 0)) := heap_set v2 h2
  have h4 : ((((w.setCell ⟨b, 0, none⟩ v0).setCell ⟨b, 1, none⟩ v1).setCell ⟨b, 2, none⟩ v2).setCell ⟨b, 3, none⟩ v3).heap[b]? = some (.cells #[v0, v1, v2, v3, a4] 33 (0, 0)) := heap_set v3 h3
  exact heap_set v4 h4
theorem oth5 (w : World) {b c : Nat} (h : c ≠ b) (v0 v1 v2 v3 v4 : Value) : (((((w.setCell ⟨b, 0, none⟩ v0).setCell ⟨b, 1, none⟩ v1).setCell ⟨b, 2, none⟩ v2).setCell ⟨b, 3, none⟩ v3).setCell ⟨b, 4, none⟩ v4).heap[c]? = w.heap[c]? := by
  iterate 5 (refine (Below.heap_setCell _ _ _ _ (show c ≠ b from h)).trans ?_)
  rfl
theorem mv5 {w0 w : World} {F : Nat → Prop} {b : Nat} (m : Mv w0 w F) (h : w0.heap.size ≤ b) (v0 v1 v2 v3 v4 : Value) : Mv w0 (((((w.setCell ⟨b, 0, none⟩ v0).setCell ⟨b, 1, none⟩ v1).setCell ⟨b, 2, none⟩ v2).setCell ⟨b, 3, none⟩ v3).setCell ⟨b, 4, none⟩ v4) F :=
  ((((m.setCell (a := ⟨b, 0, none⟩) (.inr h) v0).setCell (a := ⟨b, 1, none⟩) (.inr h) v1).setCell (a := ⟨b, 2, none⟩) (.inr h) v2).setCell (a := ⟨b, 3, none⟩) (.inr h) v3).setCell (a := ⟨b, 4, none⟩) (.inr h) v4
theorem below2 {w w1 w2 : World} (h1 : Below w.heap.size w w1) (h2 : Below w1.heap.size w1 w2) : Below w.heap.size w w2 := h1.trans (h2.mono h1.size)
set_option maxRecDepth 100000 in
theorem step_ok {w : World} {b G : Nat} {t : Tk} {ts : List Tk} {fa : Int} {fe : Value} {d : Nat} {a : Option Addr} {c : Nat} (h : Rdr w b G (t :: ts) fa fe d a c) :
    Calls Tryz.prog 54 #[.pointer (some ⟨b, 0, none⟩)] w fun e w' => e = .returned (.agg (tkA t)) ∧ (∃ a' c', Rdr w' b G ts fa fe d a' c') ∧ Mv w w' (fun k => k = b) := by
  obtain ⟨o, e, ht⟩ := h.r 0 (by simp)
  subst e
  have hn := h.gb
  have HH := h.hid
  have cL := look_ok (h.on (below_new w (.cells (tkA tk0) 33)))
  have hc : ts.length + 1 ≤ c := h.l
  have hm := h.m
  clear h ht
  unfold tkA tk0 at cL
  go_enter Tryz.func54, Tryz.ntmps54
  go_wp2_with fail
  refine cL.mono ?_
  rintro e w1 ⟨rfl, hb⟩
  have HBw : Hid (Below w.heap.size w w1) := below2 (below_new _ _) hb
  have k0 : w1.heap[w.heap.size]? = some (.cells #[.int .u8 0, .string ⟨#[]⟩, .int .u8 0, .int .i64 0, .int .i64 0] 33 (0, 0)) := (hb.block _ (by rw [size_alloc]; omega)).trans (heap_new _ _)
  go_upto_region 2 with fail
  obtain ⟨V, eV⟩ : ∃ V, w1.alloc (.cells #[.int .u8 t.k, .string t.x, .int .u8 t.ty, .int .i64 t.n, .int .i64 t.p] 33) = V := ⟨_, rfl⟩
  have hbV : Below w1.heap.size w1 V := by rw [← eV]; exact below_new _ _
  have HBV : Hid (Below w.heap.size w V) := below2 HBw.out hbV
  have HRV := (HH.out.on HBV.out).hid
  have HRb : Hid (V.heap[b]? = some (.cells #[.slice (some ⟨G, o, none⟩) (ts.length + 1) c, .int .i64 fa, fe, .int .i64 d] 105 (0, 0))) := HRV.out.h
  have c0 : V.cell? ⟨b, 0, none⟩ = some (.slice (some ⟨G, o, none⟩) (ts.length + 1) c) := cell_of HRb.out 0
  have f0 : V.frozen? ⟨b, 0, none⟩ = false := frozen_of HRb.out 0
  have HV0 : Hid (V.heap[w.heap.size]? = some (.cells #[.int .u8 0, .string ⟨#[]⟩, .int .u8 0, .int .i64 0, .int .i64 0] 33 (0, 0))) := (hbV.block _ (Array.getElem?_eq_some_iff.1 k0).1).trans k0
  obtain ⟨N, eN⟩ : ∃ N, w1.heap.size = N := ⟨_, rfl⟩
  have HV1 : Hid (V.heap[N]? = some (.cells #[.int .u8 t.k, .string t.x, .int .u8 t.ty, .int .i64 t.n, .int .i64 t.p] 33 (0, 0))) := by rw [← eV, ← eN]; exact heap_new _ _
  have hbw : b < w.heap.size := HH.out.lt
  have hNw : w.heap.size < N := by have := (Array.getElem?_eq_some_iff.1 k0).1; omega
  rw [eV, eN]
  clear hb cL eV hbV k0 eN
  by_cases hc1 : c = 1
  · subst hc1
    obtain rfl : ts = [] := List.length_eq_zero_iff.1 (by omega)
    simp only [List.length_nil, Nat.zero_add] at c0 HRb
    obtain ⟨Y, eY⟩ : ∃ Y, V.setCell ⟨b, 0, none⟩ (.slice (some ⟨G, o, none⟩) 0 (0)) = Y := ⟨_, rfl⟩
    have hYb : Y.heap[b]? = some (.cells #[.slice (some ⟨G, o, none⟩) 0 (0), .int .i64 fa, fe, .int .i64 d] 105 (0, 0)) := by rw [← eY]; exact heap_set _ HRb.out
    have hYo : ∀ k, k ≠ b → Y.heap[k]? = V.heap[k]? := fun k hk => by rw [← eY]; exact Below.heap_setCell _ _ _ _ hk
    have hY0 : Y.heap[w.heap.size]? = some (.cells #[.int .u8 0, .string ⟨#[]⟩, .int .u8 0, .int .i64 0, .int .i64 0] 33 (0, 0)) := (hYo _ (by omega)).trans HV0.out
    have hY1 : Y.heap[N]? = some (.cells #[.int .u8 t.k, .string t.x, .int .u8 t.ty, .int .i64 t.n, .int .i64 t.p] 33 (0, 0)) := (hYo _ (by omega)).trans HV1.out
    have hYs : Y.heap.size = V.heap.size := by rw [← eY]; simp [World.setCell]
    have x0 : Y.cell? ⟨N, 0, none⟩ = some (.int .u8 t.k) := cell_of hY1 0
    have z0 : Y.cell? ⟨w.heap.size, 0, none⟩ = some (.int .u8 0) := cell_of hY0 0
    have q0 : Y.frozen? ⟨w.heap.size, 0, none⟩ = false := frozen_of hY0 0
    have x1 : Y.cell? ⟨N, 1, none⟩ = some (.string t.x) := cell_of hY1 1
    have z1 : Y.cell? ⟨w.heap.size, 1, none⟩ = some (.string ⟨#[]⟩) := cell_of hY0 1
    have q1 : Y.frozen? ⟨w.heap.size, 1, none⟩ = false := frozen_of hY0 1
    have x2 : Y.cell? ⟨N, 2, none⟩ = some (.int .u8 t.ty) := cell_of hY1 2
    have z2 : Y.cell? ⟨w.heap.size, 2, none⟩ = some (.int .u8 0) := cell_of hY0 2
    have q2 : Y.frozen? ⟨w.heap.size, 2, none⟩ = false := frozen_of hY0 2
    have x3 : Y.cell? ⟨N, 3, none⟩ = some (.int .i64 t.n) := cell_of hY1 3
    have z3 : Y.cell? ⟨w.heap.size, 3, none⟩ = some (.int .i64 0) := cell_of hY0 3
    have q3 : Y.frozen? ⟨w.heap.size, 3, none⟩ = false := frozen_of hY0 3
    have x4 : Y.cell? ⟨N, 4, none⟩ = some (.int .i64 t.p) := cell_of hY1 4
    have z4 : Y.cell? ⟨w.heap.size, 4, none⟩ = some (.int .i64 0) := cell_of hY0 4
    have q4 : Y.frozen? ⟨w.heap.size, 4, none⟩ = false := frozen_of hY0 4
    have HY : Hid (Y.heap[b]? = some (.cells #[.slice (some ⟨G, o, none⟩) 0 (0), .int .i64 fa, fe, .int .i64 d] 105 (0, 0))) := hYb
    have HYo : Hid (∀ k, k ≠ b → Y.heap[k]? = V.heap[k]?) := hYo
    have HY0 : Hid (Y.heap[w.heap.size]? = some (.cells #[.int .u8 0, .string ⟨#[]⟩, .int .u8 0, .int .i64 0, .int .i64 0] 33 (0, 0))) := hY0
    have HYs : Hid (Y.heap.size = V.heap.size) := hYs
    have HMY : Hid (Mv w Y (fun k => k = b)) := by show Mv _ _ _; rw [← eY]; exact Mv.setCell (F := fun k => k = b) (a := ⟨b, 0, none⟩) (Mv.ofBelow HBV.out) (.inl rfl) _
    have HGL : Hid (G < (((((Y.setCell ⟨w.heap.size, 0, none⟩ (.int .u8 t.k)).setCell ⟨w.heap.size, 1, none⟩ (.string t.x)).setCell ⟨w.heap.size, 2, none⟩ (.int .u8 t.ty)).setCell ⟨w.heap.size, 3, none⟩ (.int .i64 t.n)).setCell ⟨w.heap.size, 4, none⟩ (.int .i64 t.p)).heap.size) := by
      have h1 := HH.out.gl
      have h2 := HMY.out.size
      show G < _
      simp [World.setCell] at h2 ⊢
      omega
    clear hYb hYo hY0 hY1 hYs
    go_upto_region 3 with fail
    first | rw [eY] | skip
    clear eY c0 f0
    go_wp2_with fail
    have hfin : Rdr (((((Y.setCell ⟨w.heap.size, 0, none⟩ (.int .u8 t.k)).setCell ⟨w.heap.size, 1, none⟩ (.string t.x)).setCell ⟨w.heap.size, 2, none⟩ (.int .u8 t.ty)).setCell ⟨w.heap.size, 3, none⟩ (.int .i64 t.n)).setCell ⟨w.heap.size, 4, none⟩ (.int .i64 t.p)) b G [] fa fe d (some ⟨G, o, none⟩) (0) := by
      refine ⟨(oth5 _ (by omega) _ _ _ _ _).trans HY.out, by first | omega | simp, by omega, HH.out.n, HH.out.gb, HGL.out, fun i hi => ?_⟩
      simp at hi
    exact bodyPost_ret (results_cell_row rfl _ _ w.heap.size 33 (tkA t) (0, 0) _ rfl (put5 HY0.out _ _ _ _ _) Tryz.underlying33 rfl (by kernel_rfl)) rfl ⟨rfl, ⟨_, _, hfin⟩, mv5 HMY.out (Nat.le_refl _) _ _ _ _ _⟩
  · have hc2 : ¬ (c : Int) = 1 := by omega
    have hc3 : (1 : Int) ≤ (c : Int) := by omega
    obtain ⟨Y, eY⟩ : ∃ Y, V.setCell ⟨b, 0, none⟩ (.slice (some ⟨G, o + 5, none⟩) ts.length (c - 1)) = Y := ⟨_, rfl⟩
    have hYb : Y.heap[b]? = some (.cells #[.slice (some ⟨G, o + 5, none⟩) ts.length (c - 1), .int .i64 fa, fe, .int .i64 d] 105 (0, 0)) := by rw [← eY]; exact heap_set _ HRb.out
    have hYo : ∀ k, k ≠ b → Y.heap[k]? = V.heap[k]? := fun k hk => by rw [← eY]; exact Below.heap_setCell _ _ _ _ hk
    have hY0 : Y.heap[w.heap.size]? = some (.cells #[.int .u8 0, .string ⟨#[]⟩, .int .u8 0, .int .i64 0, .int .i64 0] 33 (0, 0)) := (hYo _ (by omega)).trans HV0.out
    have hY1 : Y.heap[N]? = some (.cells #[.int .u8 t.k, .string t.x, .int .u8 t.ty, .int .i64 t.n, .int .i64 t.p] 33 (0, 0)) := (hYo _ (by omega)).trans HV1.out
    have hYs : Y.heap.size = V.heap.size := by rw [← eY]; simp [World.setCell]
    have x0 : Y.cell? ⟨N, 0, none⟩ = some (.int .u8 t.k) := cell_of hY1 0
    have z0 : Y.cell? ⟨w.heap.size, 0, none⟩ = some (.int .u8 0) := cell_of hY0 0
    have q0 : Y.frozen? ⟨w.heap.size, 0, none⟩ = false := frozen_of hY0 0
    have x1 : Y.cell? ⟨N, 1, none⟩ = some (.string t.x) := cell_of hY1 1
    have z1 : Y.cell? ⟨w.heap.size, 1, none⟩ = some (.string ⟨#[]⟩) := cell_of hY0 1
    have q1 : Y.frozen? ⟨w.heap.size, 1, none⟩ = false := frozen_of hY0 1
    have x2 : Y.cell? ⟨N, 2, none⟩ = some (.int .u8 t.ty) := cell_of hY1 2
    have z2 : Y.cell? ⟨w.heap.size, 2, none⟩ = some (.int .u8 0) := cell_of hY0 2
    have q2 : Y.frozen? ⟨w.heap.size, 2, none⟩ = false := frozen_of hY0 2
    have x3 : Y.cell? ⟨N, 3, none⟩ = some (.int .i64 t.n) := cell_of hY1 3
    have z3 : Y.cell? ⟨w.heap.size, 3, none⟩ = some (.int .i64 0) := cell_of hY0 3
    have q3 : Y.frozen? ⟨w.heap.size, 3, none⟩ = false := frozen_of hY0 3
    have x4 : Y.cell? ⟨N, 4, none⟩ = some (.int .i64 t.p) := cell_of hY1 4
    have z4 : Y.cell? ⟨w.heap.size, 4, none⟩ = some (.int .i64 0) := cell_of hY0 4
    have q4 : Y.frozen? ⟨w.heap.size, 4, none⟩ = false := frozen_of hY0 4
    have HY : Hid (Y.heap[b]? = some (.cells #[.slice (some ⟨G, o + 5, none⟩) ts.length (c - 1), .int .i64 fa, fe, .int .i64 d] 105 (0, 0))) := hYb
    have HYo : Hid (∀ k, k ≠ b → Y.heap[k]? = V.heap[k]?) := hYo
    have HY0 : Hid (Y.heap[w.heap.size]? = some (.cells #[.int .u8 0, .string ⟨#[]⟩, .int .u8 0, .int .i64 0, .int .i64 0] 33 (0, 0))) := hY0
    have HYs : Hid (Y.heap.size = V.heap.size) := hYs
    have HMY : Hid (Mv w Y (fun k => k = b)) := by show Mv _ _ _; rw [← eY]; exact Mv.setCell (F := fun k => k = b) (a := ⟨b, 0, none⟩) (Mv.ofBelow HBV.out) (.inl rfl) _
    have HGL : Hid (G < (((((Y.setCell ⟨w.heap.size, 0, none⟩ (.int .u8 t.k)).setCell ⟨w.heap.size, 1, none⟩ (.string t.x)).setCell ⟨w.heap.size, 2, none⟩ (.int .u8 t.ty)).setCell ⟨w.heap.size, 3, none⟩ (.int .i64 t.n)).setCell ⟨w.heap.size, 4, none⟩ (.int .i64 t.p)).heap.size) := by
      have h1 := HH.out.gl
      have h2 := HMY.out.size
      show G < _
      simp [World.setCell] at h2 ⊢
      omega
    clear hYb hYo hY0 hY1 hYs
    go_upto_region 3 with fail
    first | rw [eY] | skip
    clear eY c0 f0
    go_wp2_with fail
    have hfin : Rdr (((((Y.setCell ⟨w.heap.size, 0, none⟩ (.int .u8 t.k)).setCell ⟨w.heap.size, 1, none⟩ (.string t.x)).setCell ⟨w.heap.size, 2, none⟩ (.int .u8 t.ty)).setCell ⟨w.heap.size, 3, none⟩ (.int .i64 t.n)).setCell ⟨w.heap.size, 4, none⟩ (.int .i64 t.p)) b G ts fa fe d (some ⟨G, o + 5, none⟩) (c - 1) := by
      refine ⟨(oth5 _ (by omega) _ _ _ _ _).trans HY.out, by first | omega | simp, by omega, HH.out.n, HH.out.gb, HGL.out, fun i hi => ?_⟩
      obtain ⟨o', e', ht'⟩ := HH.out.r (i + 1) (by simp; omega)
      cases e'
      have hlt := ht'.lt
      refine ⟨o + 5, rfl, ?_⟩
      have e1 : o + (i + 1) * 5 = o + 5 + i * 5 := by omega
      rw [e1] at ht'
      have h3 : TkC w G (o + 5 + i * 5) ts[i] := ht'
      refine h3.blk ?_
      rw [oth5 _ (by omega), HYo.out G hn, HBV.out.block G hlt]
    exact bodyPost_ret (results_cell_row rfl _ _ w.heap.size 33 (tkA t) (0, 0) _ rfl (put5 HY0.out _ _ _ _ _) Tryz.underlying33 rfl (by kernel_rfl)) rfl ⟨rfl, ⟨_, _, hfin⟩, mv5 HMY.out (Nat.le_refl _) _ _ _ _ _⟩
end Go.Proofs.YtkfabnchhjfjjabGreatDoor
