/-
  product, sum, compare, and, or: rows of the next level.
-/
import Derived.Test.YtkfabnchhjfjjabGreatDoorRr
namespace Go.Proofs.YtkfabnchhjfjjabGreatDoor
open Go.RowKit
/-- A node that is handed on as the result. -/
theorem pass8 {w : World} {b G : Nat} {fa : Int} {fe : Value} {d : Nat} {W : World} {k2 o2 ty2 n2 f2 p2 : Int} {x2 : ByteArray} {am2 : Option Addr} {cm2 : Nat} {ks2 : List Nd} {ts : List Tk} (hm : Mv (w.alloc (.cells #[.int .u8 0, .int .u8 0, .int .u8 0, .int .i64 0, .int .u8 0, .string ⟨#[]⟩, .slice none 0 0, .int .i64 0] 52)) W (fun k => k = b)) (hl : Lies W (.mk ⟨k2, o2, ty2, n2, f2, x2, p2⟩ am2 cm2 ks2)) (hk : Bkn (fun k => (w.alloc (.cells #[.int .u8 0, .int .u8 0, .int .u8 0, .int .i64 0, .int .u8 0, .string ⟨#[]⟩, .slice none 0 0, .int .i64 0] 52)).heap.size ≤ k ∧ k < W.heap.size) (.mk ⟨k2, o2, ty2, n2, f2, x2, p2⟩ am2 cm2 ks2)) (hr : ∃ a c, Rdr W b G ts fa fe d a c) (hb : b < w.heap.size) (hg : G < w.heap.size) :
    W.heap[w.heap.size]? = some (.cells #[.int .u8 0, .int .u8 0, .int .u8 0, .int .i64 0, .int .u8 0, .string ⟨#[]⟩, .slice none 0 0, .int .i64 0] 52 (0, 0)) ∧ ∃ Y, ((((((((W.setCell ⟨w.heap.size, 0, none⟩ (.int .u8 k2)).setCell ⟨w.heap.size, 1, none⟩ (.int .u8 o2)).setCell ⟨w.heap.size, 2, none⟩ (.int .u8 ty2)).setCell ⟨w.heap.size, 3, none⟩ (.int .i64 n2)).setCell ⟨w.heap.size, 4, none⟩ (.int .u8 f2)).setCell ⟨w.heap.size, 5, none⟩ (.string x2)).setCell ⟨w.heap.size, 6, none⟩ (.slice am2 ks2.length cm2)).setCell ⟨w.heap.size, 7, none⟩ (.int .i64 p2)) = Y ∧ Y.heap[w.heap.size]? = some (.cells (Nd.mk ⟨k2, o2, ty2, n2, f2, x2, p2⟩ am2 cm2 ks2).vals 52 (0, 0)) ∧ Lies Y (.mk ⟨k2, o2, ty2, n2, f2, x2, p2⟩ am2 cm2 ks2) ∧ Bkn (fun k => w.heap.size ≤ k ∧ k < Y.heap.size) (.mk ⟨k2, o2, ty2, n2, f2, x2, p2⟩ am2 cm2 ks2) ∧ (∃ a c, Rdr Y b G ts fa fe d a c) ∧ Mv w Y (fun k => k = b) := by
  rw [size_alloc] at hk
  have hZ : W.heap[w.heap.size]? = some (.cells #[.int .u8 0, .int .u8 0, .int .u8 0, .int .i64 0, .int .u8 0, .string ⟨#[]⟩, .slice none 0 0, .int .i64 0] 52 (0, 0)) := (hm.block _ (by rw [size_alloc]; omega) (by omega)).trans (heap_new _ _)
  obtain ⟨Y, eY, hY1, hY2, hY3, hY4⟩ := fin8 hZ (.int .u8 k2) (.int .u8 o2) (.int .u8 ty2) (.int .i64 n2) (.int .u8 f2) (.string x2) (.slice am2 ks2.length cm2) (.int .i64 p2)
  refine ⟨hZ, Y, eY, hY1, hl.bkn hk fun j hj => hY3 j (by omega), hk.mono fun j hj => by omega, ?_, hY4 _ _ ((Mv.ofBelow (below_new _ _)).trans hm (fun _ e => .inl e)) (Nat.le_refl _)⟩
  obtain ⟨a, c, hr⟩ := hr
  exact ⟨a, c, hr.blk (hY3 _ (by omega)) (hY3 _ (by omega)) (by omega)⟩
theorem proX_rg (x : ByteArray) : 0 ≤ proX x ∧ proX x ≤ 255 := by
  unfold proX
  repeat' split
  all_goals omega
theorem enter179 (args : Array Value) (v : World) : Sem.run Tryz.prog (callFunc 114 args) v = .ok (.enter 114 args) v := by kernel_rfl
set_option maxRecDepth 100000 in
theorem product_any (part : List Tk → Except Ft (Tr × List Tk)) (hS : ∀ ts t r, part ts = .ok (t, r) → ∀ x ∈ r, x ∈ ts)
    {w : World} {b G : Nat} {ts : List Tk} {fa : Int} {fe : Value} {d : Nat} {a : Option Addr} {c : Nat} (h : Rdr w b G ts fa fe d a c) (hT : ∀ t ∈ ts, RgT t)
    (cP : ∀ v ts a c, Rdr v b G ts fa fe d a c → (∀ t ∈ ts, RgT t) → Calls Tryz.prog 115 #[.pointer (some ⟨b, 0, none⟩)] v (OutN b G fa fe d v (part ts))) :
    Calls Tryz.prog 111 #[.pointer (some ⟨b, 0, none⟩)] w (OutN b G fa fe d w (gRow proX part 4096 ts)) := by
  have hmf : ∀ (fn : Fn) (first cap : Array Value) (w : World), (Instr.makeFunc fn first cap).run Tryz.prog w = .ok (.func fn first cap) w := fun _ _ _ _ => rfl
  have cR := row_any 114 115 enter179 enter180 proX part hS proX_rg (h.on (below_new w (.cells #[.int .u8 0, .int .u8 0, .int .u8 0, .int .i64 0, .int .u8 0, .string ⟨#[]⟩, .slice none 0 0, .int .i64 0] 52))) hT 4096 (by omega) (fun v t ts a c h => proO_ok h) (fun v a c h => proO_no h) cP
  have HBL : Hid (b < w.heap.size) := h.lt
  have HGL : Hid (G < w.heap.size) := h.gl
  obtain ⟨X, eX⟩ : ∃ X, gRow proX part 4096 ts = X := ⟨_, rfl⟩
  rw [eX] at cR ⊢
  rw [show ((4096 : Nat) : Int) = 4096 from rfl] at cR
  clear h cP eX hT hS
  cases X with
  | error f =>
    go_enter Tryz.func111, Tryz.ntmps111
    go_wp2_with fail
    refine cR.mono ?_
    rintro e w1 ⟨rfl, hm⟩
    exact ⟨rfl, rfl, (Mv.ofBelow (below_new _ _)).trans hm (fun k e => .inl e)⟩
  | ok q =>
    obtain ⟨t, ts2⟩ := q
    go_enter Tryz.func111, Tryz.ntmps111
    go_wp2_with fail
    refine cR.mono ?_
    rintro e w1 ⟨⟨m, rfl, rfl, hl, hk⟩, hr, hm⟩
    obtain ⟨⟨k2, o2, ty2, n2, f2, x2, p2⟩, am2, cm2, ks2⟩ := m
    obtain ⟨hZ, Y, eY, hY1, hY2, hY3, hY4, hY5⟩ := pass8 hm hl hk hr HBL.out HGL.out
    have z0 : w1.cell? ⟨w.heap.size, 0, none⟩ = some (.int .u8 0) := cell_of hZ 0
    have q0 : w1.frozen? ⟨w.heap.size, 0, none⟩ = false := frozen_of hZ 0
    have z1 : w1.cell? ⟨w.heap.size, 1, none⟩ = some (.int .u8 0) := cell_of hZ 1
    have q1 : w1.frozen? ⟨w.heap.size, 1, none⟩ = false := frozen_of hZ 1
    have z2 : w1.cell? ⟨w.heap.size, 2, none⟩ = some (.int .u8 0) := cell_of hZ 2
    have q2 : w1.frozen? ⟨w.heap.size, 2, none⟩ = false := frozen_of hZ 2
    have z3 : w1.cell? ⟨w.heap.size, 3, none⟩ = some (.int .i64 0) := cell_of hZ 3
    have q3 : w1.frozen? ⟨w.heap.size, 3, none⟩ = false := frozen_of hZ 3
    have z4 : w1.cell? ⟨w.heap.size, 4, none⟩ = some (.int .u8 0) := cell_of hZ 4
    have q4 : w1.frozen? ⟨w.heap.size, 4, none⟩ = false := frozen_of hZ 4
    have z5 : w1.cell? ⟨w.heap.size, 5, none⟩ = some (.string ⟨#[]⟩) := cell_of hZ 5
    have q5 : w1.frozen? ⟨w.heap.size, 5, none⟩ = false := frozen_of hZ 5
    have z6 : w1.cell? ⟨w.heap.size, 6, none⟩ = some (.slice none 0 0) := cell_of hZ 6
    have q6 : w1.frozen? ⟨w.heap.size, 6, none⟩ = false := frozen_of hZ 6
    have z7 : w1.cell? ⟨w.heap.size, 7, none⟩ = some (.int .i64 0) := cell_of hZ 7
    have q7 : w1.frozen? ⟨w.heap.size, 7, none⟩ = false := frozen_of hZ 7
    have HEY : Hid (_ = Y) := eY
    have HY1 : Hid (Y.heap[w.heap.size]? = some (.cells (Nd.mk ⟨k2, o2, ty2, n2, f2, x2, p2⟩ am2 cm2 ks2).vals 52 (0, 0))) := hY1
    have HYY : Hid (Lies Y (.mk ⟨k2, o2, ty2, n2, f2, x2, p2⟩ am2 cm2 ks2) ∧ Bkn (fun k => w.heap.size ≤ k ∧ k < Y.heap.size) (.mk ⟨k2, o2, ty2, n2, f2, x2, p2⟩ am2 cm2 ks2) ∧ (∃ a c, Rdr Y b G ts2 fa fe d a c) ∧ Mv w Y (fun k => k = b)) := ⟨hY2, hY3, hY4, hY5⟩
    clear eY hY1 hY2 hY3 hY4 hY5 hZ hm hl hk hr cR
    simp only [Nd.vals, Nd.h, Nd.a, Nd.c, Nd.ks, hdA]
    go_wp2_with fail
    rw [HEY.out]
    exact bodyPost_ret (results_cell_row rfl _ _ w.heap.size 52 (Nd.mk ⟨k2, o2, ty2, n2, f2, x2, p2⟩ am2 cm2 ks2).vals (0, 0) _ rfl HY1.out Tryz.underlying52 rfl (by kernel_rfl)) rfl ⟨⟨_, rfl, rfl, HYY.out.1, HYY.out.2.1⟩, HYY.out.2.2.1, HYY.out.2.2.2⟩
theorem sumX_rg (x : ByteArray) : 0 ≤ sumX x ∧ sumX x ≤ 255 := by
  unfold sumX
  repeat' split
  all_goals omega
theorem enter172 (args : Array Value) (v : World) : Sem.run Tryz.prog (callFunc 110 args) v = .ok (.enter 110 args) v := by kernel_rfl
theorem enter173 (args : Array Value) (v : World) : Sem.run Tryz.prog (callFunc 111 args) v = .ok (.enter 111 args) v := by kernel_rfl
set_option maxRecDepth 100000 in
theorem sum_any (part : List Tk → Except Ft (Tr × List Tk)) (hS : ∀ ts t r, part ts = .ok (t, r) → ∀ x ∈ r, x ∈ ts)
    {w : World} {b G : Nat} {ts : List Tk} {fa : Int} {fe : Value} {d : Nat} {a : Option Addr} {c : Nat} (h : Rdr w b G ts fa fe d a c) (hT : ∀ t ∈ ts, RgT t)
    (cP : ∀ v ts a c, Rdr v b G ts fa fe d a c → (∀ t ∈ ts, RgT t) → Calls Tryz.prog 111 #[.pointer (some ⟨b, 0, none⟩)] v (OutN b G fa fe d v (part ts))) :
    Calls Tryz.prog 98 #[.pointer (some ⟨b, 0, none⟩)] w (OutN b G fa fe d w (gRow sumX part 4096 ts)) := by
  have hmf : ∀ (fn : Fn) (first cap : Array Value) (w : World), (Instr.makeFunc fn first cap).run Tryz.prog w = .ok (.func fn first cap) w := fun _ _ _ _ => rfl
  have cR := row_any 110 111 enter172 enter173 sumX part hS sumX_rg (h.on (below_new w (.cells #[.int .u8 0, .int .u8 0, .int .u8 0, .int .i64 0, .int .u8 0, .string ⟨#[]⟩, .slice none 0 0, .int .i64 0] 52))) hT 4096 (by omega) (fun v t ts a c h => sumO_ok h) (fun v a c h => sumO_no h) cP
  have HBL : Hid (b < w.heap.size) := h.lt
  have HGL : Hid (G < w.heap.size) := h.gl
  obtain ⟨X, eX⟩ : ∃ X, gRow sumX part 4096 ts = X := ⟨_, rfl⟩
  rw [eX] at cR ⊢
  rw [show ((4096 : Nat) : Int) = 4096 from rfl] at cR
  clear h cP eX hT hS
  cases X with
  | error f =>
    go_enter Tryz.func98, Tryz.ntmps98
    go_wp2_with fail
    refine cR.mono ?_
    rintro e w1 ⟨rfl, hm⟩
    exact ⟨rfl, rfl, (Mv.ofBelow (below_new _ _)).trans hm (fun k e => .inl e)⟩
  | ok q =>
    obtain ⟨t, ts2⟩ := q
    go_enter Tryz.func98, Tryz.ntmps98
    go_wp2_with fail
    refine cR.mono ?_
    rintro e w1 ⟨⟨m, rfl, rfl, hl, hk⟩, hr, hm⟩
    obtain ⟨⟨k2, o2, ty2, n2, f2, x2, p2⟩, am2, cm2, ks2⟩ := m
    obtain ⟨hZ, Y, eY, hY1, hY2, hY3, hY4, hY5⟩ := pass8 hm hl hk hr HBL.out HGL.out
    have z0 : w1.cell? ⟨w.heap.size, 0, none⟩ = some (.int .u8 0) := cell_of hZ 0
    have q0 : w1.frozen? ⟨w.heap.size, 0, none⟩ = false := frozen_of hZ 0
    have z1 : w1.cell? ⟨w.heap.size, 1, none⟩ = some (.int .u8 0) := cell_of hZ 1
    have q1 : w1.frozen? ⟨w.heap.size, 1, none⟩ = false := frozen_of hZ 1
    have z2 : w1.cell? ⟨w.heap.size, 2, none⟩ = some (.int .u8 0) := cell_of hZ 2
    have q2 : w1.frozen? ⟨w.heap.size, 2, none⟩ = false := frozen_of hZ 2
    have z3 : w1.cell? ⟨w.heap.size, 3, none⟩ = some (.int .i64 0) := cell_of hZ 3
    have q3 : w1.frozen? ⟨w.heap.size, 3, none⟩ = false := frozen_of hZ 3
    have z4 : w1.cell? ⟨w.heap.size, 4, none⟩ = some (.int .u8 0) := cell_of hZ 4
    have q4 : w1.frozen? ⟨w.heap.size, 4, none⟩ = false := frozen_of hZ 4
    have z5 : w1.cell? ⟨w.heap.size, 5, none⟩ = some (.string ⟨#[]⟩) := cell_of hZ 5
    have q5 : w1.frozen? ⟨w.heap.size, 5, none⟩ = false := frozen_of hZ 5
    have z6 : w1.cell? ⟨w.heap.size, 6, none⟩ = some (.slice none 0 0) := cell_of hZ 6
    have q6 : w1.frozen? ⟨w.heap.size, 6, none⟩ = false := frozen_of hZ 6
    have z7 : w1.cell? ⟨w.heap.size, 7, none⟩ = some (.int .i64 0) := cell_of hZ 7
    have q7 : w1.frozen? ⟨w.heap.size, 7, none⟩ = false := frozen_of hZ 7
    have HEY : Hid (_ = Y) := eY
    have HY1 : Hid (Y.heap[w.heap.size]? = some (.cells (Nd.mk ⟨k2, o2, ty2, n2, f2, x2, p2⟩ am2 cm2 ks2).vals 52 (0, 0))) := hY1
    have HYY : Hid (Lies Y (.mk ⟨k2, o2, ty2, n2, f2, x2, p2⟩ am2 cm2 ks2) ∧ Bkn (fun k => w.heap.size ≤ k ∧ k < Y.heap.size) (.mk ⟨k2, o2, ty2, n2, f2, x2, p2⟩ am2 cm2 ks2) ∧ (∃ a c, Rdr Y b G ts2 fa fe d a c) ∧ Mv w Y (fun k => k = b)) := ⟨hY2, hY3, hY4, hY5⟩
    clear eY hY1 hY2 hY3 hY4 hY5 hZ hm hl hk hr cR
    simp only [Nd.vals, Nd.h, Nd.a, Nd.c, Nd.ks, hdA]
    go_wp2_with fail
    rw [HEY.out]
    exact bodyPost_ret (results_cell_row rfl _ _ w.heap.size 52 (Nd.mk ⟨k2, o2, ty2, n2, f2, x2, p2⟩ am2 cm2 ks2).vals (0, 0) _ rfl HY1.out Tryz.underlying52 rfl (by kernel_rfl)) rfl ⟨⟨_, rfl, rfl, HYY.out.1, HYY.out.2.1⟩, HYY.out.2.2.1, HYY.out.2.2.2⟩
theorem cmpX_rg (x : ByteArray) : 0 ≤ cmpX x ∧ cmpX x ≤ 255 := by
  unfold cmpX
  repeat' split
  all_goals omega
theorem enter154 (args : Array Value) (v : World) : Sem.run Tryz.prog (callFunc 97 args) v = .ok (.enter 97 args) v := by kernel_rfl
theorem enter155 (args : Array Value) (v : World) : Sem.run Tryz.prog (callFunc 98 args) v = .ok (.enter 98 args) v := by kernel_rfl
set_option maxRecDepth 100000 in
theorem compare_any (part : List Tk → Except Ft (Tr × List Tk)) (hS : ∀ ts t r, part ts = .ok (t, r) → ∀ x ∈ r, x ∈ ts)
    {w : World} {b G : Nat} {ts : List Tk} {fa : Int} {fe : Value} {d : Nat} {a : Option Addr} {c : Nat} (h : Rdr w b G ts fa fe d a c) (hT : ∀ t ∈ ts, RgT t)
    (cP : ∀ v ts a c, Rdr v b G ts fa fe d a c → (∀ t ∈ ts, RgT t) → Calls Tryz.prog 98 #[.pointer (some ⟨b, 0, none⟩)] v (OutN b G fa fe d v (part ts))) :
    Calls Tryz.prog 84 #[.pointer (some ⟨b, 0, none⟩)] w (OutN b G fa fe d w (gRow cmpX part 1 ts)) := by
  have hmf : ∀ (fn : Fn) (first cap : Array Value) (w : World), (Instr.makeFunc fn first cap).run Tryz.prog w = .ok (.func fn first cap) w := fun _ _ _ _ => rfl
  have cR := row_any 97 98 enter154 enter155 cmpX part hS cmpX_rg (h.on (below_new w (.cells #[.int .u8 0, .int .u8 0, .int .u8 0, .int .i64 0, .int .u8 0, .string ⟨#[]⟩, .slice none 0 0, .int .i64 0] 52))) hT 1 (by omega) (fun v t ts a c h => cmpO_ok h) (fun v a c h => cmpO_no h) cP
  have HBL : Hid (b < w.heap.size) := h.lt
  have HGL : Hid (G < w.heap.size) := h.gl
  obtain ⟨X, eX⟩ : ∃ X, gRow cmpX part 1 ts = X := ⟨_, rfl⟩
  rw [eX] at cR ⊢
  rw [show ((1 : Nat) : Int) = 1 from rfl] at cR
  clear h cP eX hT hS
  cases X with
  | error f =>
    go_enter Tryz.func84, Tryz.ntmps84
    go_wp2_with fail
    refine cR.mono ?_
    rintro e w1 ⟨rfl, hm⟩
    exact ⟨rfl, rfl, (Mv.ofBelow (below_new _ _)).trans hm (fun k e => .inl e)⟩
  | ok q =>
    obtain ⟨t, ts2⟩ := q
    go_enter Tryz.func84, Tryz.ntmps84
    go_wp2_with fail
    refine cR.mono ?_
    rintro e w1 ⟨⟨m, rfl, rfl, hl, hk⟩, hr, hm⟩
    obtain ⟨⟨k2, o2, ty2, n2, f2, x2, p2⟩, am2, cm2, ks2⟩ := m
    obtain ⟨hZ, Y, eY, hY1, hY2, hY3, hY4, hY5⟩ := pass8 hm hl hk hr HBL.out HGL.out
    have z0 : w1.cell? ⟨w.heap.size, 0, none⟩ = some (.int .u8 0) := cell_of hZ 0
    have q0 : w1.frozen? ⟨w.heap.size, 0, none⟩ = false := frozen_of hZ 0
    have z1 : w1.cell? ⟨w.heap.size, 1, none⟩ = some (.int .u8 0) := cell_of hZ 1
    have q1 : w1.frozen? ⟨w.heap.size, 1, none⟩ = false := frozen_of hZ 1
    have z2 : w1.cell? ⟨w.heap.size, 2, none⟩ = some (.int .u8 0) := cell_of hZ 2
    have q2 : w1.frozen? ⟨w.heap.size, 2, none⟩ = false := frozen_of hZ 2
    have z3 : w1.cell? ⟨w.heap.size, 3, none⟩ = some (.int .i64 0) := cell_of hZ 3
    have q3 : w1.frozen? ⟨w.heap.size, 3, none⟩ = false := frozen_of hZ 3
    have z4 : w1.cell? ⟨w.heap.size, 4, none⟩ = some (.int .u8 0) := cell_of hZ 4
    have q4 : w1.frozen? ⟨w.heap.size, 4, none⟩ = false := frozen_of hZ 4
    have z5 : w1.cell? ⟨w.heap.size, 5, none⟩ = some (.string ⟨#[]⟩) := cell_of hZ 5
    have q5 : w1.frozen? ⟨w.heap.size, 5, none⟩ = false := frozen_of hZ 5
    have z6 : w1.cell? ⟨w.heap.size, 6, none⟩ = some (.slice none 0 0) := cell_of hZ 6
    have q6 : w1.frozen? ⟨w.heap.size, 6, none⟩ = false := frozen_of hZ 6
    have z7 : w1.cell? ⟨w.heap.size, 7, none⟩ = some (.int .i64 0) := cell_of hZ 7
    have q7 : w1.frozen? ⟨w.heap.size, 7, none⟩ = false := frozen_of hZ 7
    have HEY : Hid (_ = Y) := eY
    have HY1 : Hid (Y.heap[w.heap.size]? = some (.cells (Nd.mk ⟨k2, o2, ty2, n2, f2, x2, p2⟩ am2 cm2 ks2).vals 52 (0, 0))) := hY1
    have HYY : Hid (Lies Y (.mk ⟨k2, o2, ty2, n2, f2, x2, p2⟩ am2 cm2 ks2) ∧ Bkn (fun k => w.heap.size ≤ k ∧ k < Y.heap.size) (.mk ⟨k2, o2, ty2, n2, f2, x2, p2⟩ am2 cm2 ks2) ∧ (∃ a c, Rdr Y b G ts2 fa fe d a c) ∧ Mv w Y (fun k => k = b)) := ⟨hY2, hY3, hY4, hY5⟩
    clear eY hY1 hY2 hY3 hY4 hY5 hZ hm hl hk hr cR
    simp only [Nd.vals, Nd.h, Nd.a, Nd.c, Nd.ks, hdA]
    go_wp2_with fail
    rw [HEY.out]
    exact bodyPost_ret (results_cell_row rfl _ _ w.heap.size 52 (Nd.mk ⟨k2, o2, ty2, n2, f2, x2, p2⟩ am2 cm2 ks2).vals (0, 0) _ rfl HY1.out Tryz.underlying52 rfl (by kernel_rfl)) rfl ⟨⟨_, rfl, rfl, HYY.out.1, HYY.out.2.1⟩, HYY.out.2.2.1, HYY.out.2.2.2⟩
theorem andX_rg (x : ByteArray) : 0 ≤ andX x ∧ andX x ≤ 255 := by
  unfold andX
  repeat' split
  all_goals omega
theorem enter135 (args : Array Value) (v : World) : Sem.run Tryz.prog (callFunc 83 args) v = .ok (.enter 83 args) v := by kernel_rfl
theorem enter136 (args : Array Value) (v : World) : Sem.run Tryz.prog (callFunc 84 args) v = .ok (.enter 84 args) v := by kernel_rfl
set_option maxRecDepth 100000 in
theorem and_any (part : List Tk → Except Ft (Tr × List Tk)) (hS : ∀ ts t r, part ts = .ok (t, r) → ∀ x ∈ r, x ∈ ts)
    {w : World} {b G : Nat} {ts : List Tk} {fa : Int} {fe : Value} {d : Nat} {a : Option Addr} {c : Nat} (h : Rdr w b G ts fa fe d a c) (hT : ∀ t ∈ ts, RgT t)
    (cP : ∀ v ts a c, Rdr v b G ts fa fe d a c → (∀ t ∈ ts, RgT t) → Calls Tryz.prog 84 #[.pointer (some ⟨b, 0, none⟩)] v (OutN b G fa fe d v (part ts))) :
    Calls Tryz.prog 67 #[.pointer (some ⟨b, 0, none⟩)] w (OutN b G fa fe d w (gRow andX part 4096 ts)) := by
  have hmf : ∀ (fn : Fn) (first cap : Array Value) (w : World), (Instr.makeFunc fn first cap).run Tryz.prog w = .ok (.func fn first cap) w := fun _ _ _ _ => rfl
  have cR := row_any 83 84 enter135 enter136 andX part hS andX_rg (h.on (below_new w (.cells #[.int .u8 0, .int .u8 0, .int .u8 0, .int .i64 0, .int .u8 0, .string ⟨#[]⟩, .slice none 0 0, .int .i64 0] 52))) hT 4096 (by omega) (fun v t ts a c h => andO_ok h) (fun v a c h => andO_no h) cP
  have HBL : Hid (b < w.heap.size) := h.lt
  have HGL : Hid (G < w.heap.size) := h.gl
  obtain ⟨X, eX⟩ : ∃ X, gRow andX part 4096 ts = X := ⟨_, rfl⟩
  rw [eX] at cR ⊢
  rw [show ((4096 : Nat) : Int) = 4096 from rfl] at cR
  clear h cP eX hT hS
  cases X with
  | error f =>
    go_enter Tryz.func67, Tryz.ntmps67
    go_wp2_with fail
    refine cR.mono ?_
    rintro e w1 ⟨rfl, hm⟩
    exact ⟨rfl, rfl, (Mv.ofBelow (below_new _ _)).trans hm (fun k e => .inl e)⟩
  | ok q =>
    obtain ⟨t, ts2⟩ := q
    go_enter Tryz.func67, Tryz.ntmps67
    go_wp2_with fail
    refine cR.mono ?_
    rintro e w1 ⟨⟨m, rfl, rfl, hl, hk⟩, hr, hm⟩
    obtain ⟨⟨k2, o2, ty2, n2, f2, x2, p2⟩, am2, cm2, ks2⟩ := m
    obtain ⟨hZ, Y, eY, hY1, hY2, hY3, hY4, hY5⟩ := pass8 hm hl hk hr HBL.out HGL.out
    have z0 : w1.cell? ⟨w.heap.size, 0, none⟩ = some (.int .u8 0) := cell_of hZ 0
    have q0 : w1.frozen? ⟨w.heap.size, 0, none⟩ = false := frozen_of hZ 0
    have z1 : w1.cell? ⟨w.heap.size, 1, none⟩ = some (.int .u8 0) := cell_of hZ 1
    have q1 : w1.frozen? ⟨w.heap.size, 1, none⟩ = false := frozen_of hZ 1
    have z2 : w1.cell? ⟨w.heap.size, 2, none⟩ = some (.int .u8 0) := cell_of hZ 2
    have q2 : w1.frozen? ⟨w.heap.size, 2, none⟩ = false := frozen_of hZ 2
    have z3 : w1.cell? ⟨w.heap.size, 3, none⟩ = some (.int .i64 0) := cell_of hZ 3
    have q3 : w1.frozen? ⟨w.heap.size, 3, none⟩ = false := frozen_of hZ 3
    have z4 : w1.cell? ⟨w.heap.size, 4, none⟩ = some (.int .u8 0) := cell_of hZ 4
    have q4 : w1.frozen? ⟨w.heap.size, 4, none⟩ = false := frozen_of hZ 4
    have z5 : w1.cell? ⟨w.heap.size, 5, none⟩ = some (.string ⟨#[]⟩) := cell_of hZ 5
    have q5 : w1.frozen? ⟨w.heap.size, 5, none⟩ = false := frozen_of hZ 5
    have z6 : w1.cell? ⟨w.heap.size, 6, none⟩ = some (.slice none 0 0) := cell_of hZ 6
    have q6 : w1.frozen? ⟨w.heap.size, 6, none⟩ = false := frozen_of hZ 6
    have z7 : w1.cell? ⟨w.heap.size, 7, none⟩ = some (.int .i64 0) := cell_of hZ 7
    have q7 : w1.frozen? ⟨w.heap.size, 7, none⟩ = false := frozen_of hZ 7
    have HEY : Hid (_ = Y) := eY
    have HY1 : Hid (Y.heap[w.heap.size]? = some (.cells (Nd.mk ⟨k2, o2, ty2, n2, f2, x2, p2⟩ am2 cm2 ks2).vals 52 (0, 0))) := hY1
    have HYY : Hid (Lies Y (.mk ⟨k2, o2, ty2, n2, f2, x2, p2⟩ am2 cm2 ks2) ∧ Bkn (fun k => w.heap.size ≤ k ∧ k < Y.heap.size) (.mk ⟨k2, o2, ty2, n2, f2, x2, p2⟩ am2 cm2 ks2) ∧ (∃ a c, Rdr Y b G ts2 fa fe d a c) ∧ Mv w Y (fun k => k = b)) := ⟨hY2, hY3, hY4, hY5⟩
    clear eY hY1 hY2 hY3 hY4 hY5 hZ hm hl hk hr cR
    simp only [Nd.vals, Nd.h, Nd.a, Nd.c, Nd.ks, hdA]
    go_wp2_with fail
    rw [HEY.out]
    exact bodyPost_ret (results_cell_row rfl _ _ w.heap.size 52 (Nd.mk ⟨k2, o2, ty2, n2, f2, x2, p2⟩ am2 cm2 ks2).vals (0, 0) _ rfl HY1.out Tryz.underlying52 rfl (by kernel_rfl)) rfl ⟨⟨_, rfl, rfl, HYY.out.1, HYY.out.2.1⟩, HYY.out.2.2.1, HYY.out.2.2.2⟩
theorem orX_rg (x : ByteArray) : 0 ≤ orX x ∧ orX x ≤ 255 := by
  unfold orX
  repeat' split
  all_goals omega
theorem enter114 (args : Array Value) (v : World) : Sem.run Tryz.prog (callFunc 66 args) v = .ok (.enter 66 args) v := by kernel_rfl
theorem enter115 (args : Array Value) (v : World) : Sem.run Tryz.prog (callFunc 67 args) v = .ok (.enter 67 args) v := by kernel_rfl
set_option maxRecDepth 100000 in
theorem or_any (part : List Tk → Except Ft (Tr × List Tk)) (hS : ∀ ts t r, part ts = .ok (t, r) → ∀ x ∈ r, x ∈ ts)
    {w : World} {b G : Nat} {ts : List Tk} {fa : Int} {fe : Value} {d : Nat} {a : Option Addr} {c : Nat} (h : Rdr w b G ts fa fe d a c) (hT : ∀ t ∈ ts, RgT t)
    (cP : ∀ v ts a c, Rdr v b G ts fa fe d a c → (∀ t ∈ ts, RgT t) → Calls Tryz.prog 67 #[.pointer (some ⟨b, 0, none⟩)] v (OutN b G fa fe d v (part ts))) :
    Calls Tryz.prog 40 #[.pointer (some ⟨b, 0, none⟩)] w (OutN b G fa fe d w (gRow orX part 4096 ts)) := by
  have hmf : ∀ (fn : Fn) (first cap : Array Value) (w : World), (Instr.makeFunc fn first cap).run Tryz.prog w = .ok (.func fn first cap) w := fun _ _ _ _ => rfl
  have cR := row_any 66 67 enter114 enter115 orX part hS orX_rg (h.on (below_new w (.cells #[.int .u8 0, .int .u8 0, .int .u8 0, .int .i64 0, .int .u8 0, .string ⟨#[]⟩, .slice none 0 0, .int .i64 0] 52))) hT 4096 (by omega) (fun v t ts a c h => orO_ok h) (fun v a c h => orO_no h) cP
  have HBL : Hid (b < w.heap.size) := h.lt
  have HGL : Hid (G < w.heap.size) := h.gl
  obtain ⟨X, eX⟩ : ∃ X, gRow orX part 4096 ts = X := ⟨_, rfl⟩
  rw [eX] at cR ⊢
  rw [show ((4096 : Nat) : Int) = 4096 from rfl] at cR
  clear h cP eX hT hS
  cases X with
  | error f =>
    go_enter Tryz.func40, Tryz.ntmps40
    go_wp2_with fail
    refine cR.mono ?_
    rintro e w1 ⟨rfl, hm⟩
    exact ⟨rfl, rfl, (Mv.ofBelow (below_new _ _)).trans hm (fun k e => .inl e)⟩
  | ok q =>
    obtain ⟨t, ts2⟩ := q
    go_enter Tryz.func40, Tryz.ntmps40
    go_wp2_with fail
    refine cR.mono ?_
    rintro e w1 ⟨⟨m, rfl, rfl, hl, hk⟩, hr, hm⟩
    obtain ⟨⟨k2, o2, ty2, n2, f2, x2, p2⟩, am2, cm2, ks2⟩ := m
    obtain ⟨hZ, Y, eY, hY1, hY2, hY3, hY4, hY5⟩ := pass8 hm hl hk hr HBL.out HGL.out
    have z0 : w1.cell? ⟨w.heap.size, 0, none⟩ = some (.int .u8 0) := cell_of hZ 0
    have q0 : w1.frozen? ⟨w.heap.size, 0, none⟩ = false := frozen_of hZ 0
    have z1 : w1.cell? ⟨w.heap.size, 1, none⟩ = some (.int .u8 0) := cell_of hZ 1
    have q1 : w1.frozen? ⟨w.heap.size, 1, none⟩ = false := frozen_of hZ 1
    have z2 : w1.cell? ⟨w.heap.size, 2, none⟩ = some (.int .u8 0) := cell_of hZ 2
    have q2 : w1.frozen? ⟨w.heap.size, 2, none⟩ = false := frozen_of hZ 2
    have z3 : w1.cell? ⟨w.heap.size, 3, none⟩ = some (.int .i64 0) := cell_of hZ 3
    have q3 : w1.frozen? ⟨w.heap.size, 3, none⟩ = false := frozen_of hZ 3
    have z4 : w1.cell? ⟨w.heap.size, 4, none⟩ = some (.int .u8 0) := cell_of hZ 4
    have q4 : w1.frozen? ⟨w.heap.size, 4, none⟩ = false := frozen_of hZ 4
    have z5 : w1.cell? ⟨w.heap.size, 5, none⟩ = some (.string ⟨#[]⟩) := cell_of hZ 5
    have q5 : w1.frozen? ⟨w.heap.size, 5, none⟩ = false := frozen_of hZ 5
    have z6 : w1.cell? ⟨w.heap.size, 6, none⟩ = some (.slice none 0 0) := cell_of hZ 6
    have q6 : w1.frozen? ⟨w.heap.size, 6, none⟩ = false := frozen_of hZ 6
    have z7 : w1.cell? ⟨w.heap.size, 7, none⟩ = some (.int .i64 0) := cell_of hZ 7
    have q7 : w1.frozen? ⟨w.heap.size, 7, none⟩ = false := frozen_of hZ 7
    have HEY : Hid (_ = Y) := eY
    have HY1 : Hid (Y.heap[w.heap.size]? = some (.cells (Nd.mk ⟨k2, o2, ty2, n2, f2, x2, p2⟩ am2 cm2 ks2).vals 52 (0, 0))) := hY1
    have HYY : Hid (Lies Y (.mk ⟨k2, o2, ty2, n2, f2, x2, p2⟩ am2 cm2 ks2) ∧ Bkn (fun k => w.heap.size ≤ k ∧ k < Y.heap.size) (.mk ⟨k2, o2, ty2, n2, f2, x2, p2⟩ am2 cm2 ks2) ∧ (∃ a c, Rdr Y b G ts2 fa fe d a c) ∧ Mv w Y (fun k => k = b)) := ⟨hY2, hY3, hY4, hY5⟩
    clear eY hY1 hY2 hY3 hY4 hY5 hZ hm hl hk hr cR
    simp only [Nd.vals, Nd.h, Nd.a, Nd.c, Nd.ks, hdA]
    go_wp2_with fail
    rw [HEY.out]
    exact bodyPost_ret (results_cell_row rfl _ _ w.heap.size 52 (Nd.mk ⟨k2, o2, ty2, n2, f2, x2, p2⟩ am2 cm2 ks2).vals (0, 0) _ rfl HY1.out Tryz.underlying52 rfl (by kernel_rfl)) rfl ⟨⟨_, rfl, rfl, HYY.out.1, HYY.out.2.1⟩, HYY.out.2.2.1, HYY.out.2.2.2⟩
end Go.Proofs.YtkfabnchhjfjjabGreatDoor
