import Derived.Test.YtkfabnchhjfjjabGreatDoorRws
/-
  Lists of a strategy's things with none of them; a state without rules.
-/
namespace Go.Proofs.YtkfabnchhjfjjabGreatDoor
open Go.RowKit
set_option linter.unusedVariables false
theorem put3_87 {U : World} {b : Nat} {a0 a1 a2 : Value} (h : U.heap[b]? = some (.cells #[a0, a1, a2] 59 (0, 0))) (v0 v1 v2 : Value) : (((U.setCell ⟨b, 0, none⟩ v0).setCell ⟨b, 1, none⟩ v1).setCell ⟨b, 2, none⟩ v2).heap[b]? = some (.cells #[v0, v1, v2] 59 (0, 0)) := by
  have k0 := heap_set (j := 0) v0 h
  have k1 := heap_set (j := 1) v1 k0
  have k2 := heap_set (j := 2) v2 k1
  simpa using k2
theorem fin3_87 {U : World} {b : Nat} {a0 a1 a2 : Value} (h : U.heap[b]? = some (.cells #[a0, a1, a2] 59 (0, 0))) (v0 v1 v2 : Value) :
    ∃ Y, (((U.setCell ⟨b, 0, none⟩ v0).setCell ⟨b, 1, none⟩ v1).setCell ⟨b, 2, none⟩ v2) = Y ∧ Y.heap[b]? = some (.cells #[v0, v1, v2] 59 (0, 0)) ∧ Y.heap.size = U.heap.size ∧ (∀ k, k ≠ b → Y.heap[k]? = U.heap[k]?) ∧ (∀ (w : World) (F : Nat → Prop), Mv w U F → w.heap.size ≤ b → Mv w Y F) := by
  refine ⟨_, rfl, put3_87 h _ _ _, ?_, fun k hk => ?_, fun w F m hb => ?_⟩
  · simp [World.setCell]
  · refine (Below.heap_setCell _ _ _ _ hk).trans ?_; refine (Below.heap_setCell _ _ _ _ hk).trans ?_; refine (Below.heap_setCell _ _ _ _ hk).trans ?_; rfl
  · exact (((m.setCell (a := ⟨b, 0, none⟩) (.inr hb) v0).setCell (a := ⟨b, 1, none⟩) (.inr hb) v1).setCell (a := ⟨b, 2, none⟩) (.inr hb) v2)
theorem put4_43 {U : World} {b : Nat} {a0 a1 a2 a3 : Value} (h : U.heap[b]? = some (.cells #[a0, a1, a2, a3] 38 (0, 0))) (v0 v1 v2 v3 : Value) : ((((U.setCell ⟨b, 0, none⟩ v0).setCell ⟨b, 1, none⟩ v1).setCell ⟨b, 2, none⟩ v2).setCell ⟨b, 3, none⟩ v3).heap[b]? = some (.cells #[v0, v1, v2, v3] 38 (0, 0)) := by
  have k0 := heap_set (j := 0) v0 h
  have k1 := heap_set (j := 1) v1 k0
  have k2 := heap_set (j := 2) v2 k1
  have k3 := heap_set (j := 3) v3 k2
  simpa using k3
theorem fin4_43 {U : World} {b : Nat} {a0 a1 a2 a3 : Value} (h : U.heap[b]? = some (.cells #[a0, a1, a2, a3] 38 (0, 0))) (v0 v1 v2 v3 : Value) :
    ∃ Y, ((((U.setCell ⟨b, 0, none⟩ v0).setCell ⟨b, 1, none⟩ v1).setCell ⟨b, 2, none⟩ v2).setCell ⟨b, 3, none⟩ v3) = Y ∧ Y.heap[b]? = some (.cells #[v0, v1, v2, v3] 38 (0, 0)) ∧ Y.heap.size = U.heap.size ∧ (∀ k, k ≠ b → Y.heap[k]? = U.heap[k]?) ∧ (∀ (w : World) (F : Nat → Prop), Mv w U F → w.heap.size ≤ b → Mv w Y F) := by
  refine ⟨_, rfl, put4_43 h _ _ _ _, ?_, fun k hk => ?_, fun w F m hb => ?_⟩
  · simp [World.setCell]
  · refine (Below.heap_setCell _ _ _ _ hk).trans ?_; refine (Below.heap_setCell _ _ _ _ hk).trans ?_; refine (Below.heap_setCell _ _ _ _ hk).trans ?_; refine (Below.heap_setCell _ _ _ _ hk).trans ?_; rfl
  · exact ((((m.setCell (a := ⟨b, 0, none⟩) (.inr hb) v0).setCell (a := ⟨b, 1, none⟩) (.inr hb) v1).setCell (a := ⟨b, 2, none⟩) (.inr hb) v2).setCell (a := ⟨b, 3, none⟩) (.inr hb) v3)
set_option maxRecDepth 100000 in
theorem list66_none {w : World} {b G : Nat} {t : Tk} {ts : List Tk} {fa : Int} {fe : Value} {d : Nat} {a : Option Addr} {c : Nat} (h : Rdr w b G (t :: ts) fa fe d a c) (x : ByteArray) (hx : ¬ t.x = x) (m : Int) (fn : Fn) (f1 f2 : Array Value) :
    Calls Tryz.prog 27 #[.pointer (some ⟨b, 0, none⟩), .string x, .int .i64 m, .func fn f1 f2] w fun e w' => e = .returned (.slice none 0 0) ∧ Below w.heap.size w w' := by
  have cI := is_ok h x
  rw [decide_eq_false hx] at cI
  clear h hx
  go_enter Tryz.func27, Tryz.ntmps27
  go_wp2_with fail
  refine wp_loop_rounds 1 ?_
  rw [rounds_succ]
  go_wp2_with fail
  refine cI.mono ?_
  rintro e w1 ⟨rfl, hb⟩
  have HB : Hid (Below w.heap.size w w1) := hb
  clear cI hb
  go_wp2_with fail
  go_ret
  exact ⟨rfl, HB.out⟩
set_option maxRecDepth 100000 in
theorem list68_none {w : World} {b G : Nat} {t : Tk} {ts : List Tk} {fa : Int} {fe : Value} {d : Nat} {a : Option Addr} {c : Nat} (h : Rdr w b G (t :: ts) fa fe d a c) (x : ByteArray) (hx : ¬ t.x = x) (m : Int) (fn : Fn) (f1 f2 : Array Value) :
    Calls Tryz.prog 29 #[.pointer (some ⟨b, 0, none⟩), .string x, .int .i64 m, .func fn f1 f2] w fun e w' => e = .returned (.slice none 0 0) ∧ Below w.heap.size w w' := by
  have cI := is_ok h x
  rw [decide_eq_false hx] at cI
  clear h hx
  go_enter Tryz.func29, Tryz.ntmps29
  go_wp2_with fail
  refine wp_loop_rounds 1 ?_
  rw [rounds_succ]
  go_wp2_with fail
  refine cI.mono ?_
  rintro e w1 ⟨rfl, hb⟩
  have HB : Hid (Below w.heap.size w w1) := hb
  clear cI hb
  go_wp2_with fail
  go_ret
  exact ⟨rfl, HB.out⟩
set_option maxRecDepth 100000 in
theorem list108_none {w : World} {b G : Nat} {t : Tk} {ts : List Tk} {fa : Int} {fe : Value} {d : Nat} {a : Option Addr} {c : Nat} (h : Rdr w b G (t :: ts) fa fe d a c) (x : ByteArray) (hx : ¬ t.x = x) (m : Int) (fn : Fn) (f1 f2 : Array Value) :
    Calls Tryz.prog 57 #[.pointer (some ⟨b, 0, none⟩), .string x, .int .i64 m, .func fn f1 f2] w fun e w' => e = .returned (.slice none 0 0) ∧ Below w.heap.size w w' := by
  have cI := is_ok h x
  rw [decide_eq_false hx] at cI
  clear h hx
  go_enter Tryz.func57, Tryz.ntmps57
  go_wp2_with fail
  refine wp_loop_rounds 1 ?_
  rw [rounds_succ]
  go_wp2_with fail
  refine cI.mono ?_
  rintro e w1 ⟨rfl, hb⟩
  have HB : Hid (Below w.heap.size w w1) := hb
  clear cI hb
  go_wp2_with fail
  go_ret
  exact ⟨rfl, HB.out⟩
set_option maxRecDepth 100000 in
theorem list70_none {w : World} {b G : Nat} {t : Tk} {ts : List Tk} {fa : Int} {fe : Value} {d : Nat} {a : Option Addr} {c : Nat} (h : Rdr w b G (t :: ts) fa fe d a c) (x : ByteArray) (hx : ¬ t.x = x) (m : Int) (fn : Fn) (f1 f2 : Array Value) :
    Calls Tryz.prog 31 #[.pointer (some ⟨b, 0, none⟩), .string x, .int .i64 m, .func fn f1 f2] w fun e w' => e = .returned (.slice none 0 0) ∧ Below w.heap.size w w' := by
  have cI := is_ok h x
  rw [decide_eq_false hx] at cI
  clear h hx
  go_enter Tryz.func31, Tryz.ntmps31
  go_wp2_with fail
  refine wp_loop_rounds 1 ?_
  rw [rounds_succ]
  go_wp2_with fail
  refine cI.mono ?_
  rintro e w1 ⟨rfl, hb⟩
  have HB : Hid (Below w.heap.size w w1) := hb
  clear cI hb
  go_wp2_with fail
  go_ret
  exact ⟨rfl, HB.out⟩
end Go.Proofs.YtkfabnchhjfjjabGreatDoor

/-
  A state without rules; a list of one such state.
-/
namespace Go.Proofs.YtkfabnchhjfjjabGreatDoor
open Go.RowKit
set_option linter.unusedVariables false
/-- A thing that is being read: N its answer's block, M the block that it is put together in. -/
structure SX (w : World) (b G N M : Nat) (ty : TypeId) (zs cs : Array Value) (ts : List Tk) (fa : Int) (fe : Value) (d : Nat) (U : World) : Prop where
  mv : Mv w U (fun k => k = b)
  hN : U.heap[N]? = some (.cells zs ty (0, 0))
  hM : U.heap[M]? = some (.cells cs ty (0, 0))
  R : ∃ a c, Rdr U b G ts fa fe d a c
  eN : N = w.heap.size
  nM : N < M
  lb : b < w.heap.size
  lg : G < w.heap.size
theorem SX.hid {w : World} {b G N M : Nat} {ty : TypeId} {zs cs : Array Value} {ts : List Tk} {fa : Int} {fe : Value} {d : Nat} {U : World} (h : SX w b G N M ty zs cs ts fa fe d U) : Hid (SX w b G N M ty zs cs ts fa fe d U) := h
theorem SX.call {w : World} {b G N M : Nat} {ty : TypeId} {zs cs : Array Value} {ts ts' : List Tk} {fa : Int} {fe : Value} {d : Nat} {U U' : World} (h : SX w b G N M ty zs cs ts fa fe d U) (hm : Mv U U' (fun k => k = b)) (hr : ∃ a c, Rdr U' b G ts' fa fe d a c) : SX w b G N M ty zs cs ts' fa fe d U' :=
  ⟨h.mv.trans hm (fun k e => .inl e), (hm.block N (Array.getElem?_eq_some_iff.1 h.hN).1 (by have := h.eN; have := h.lb; omega)).trans h.hN, (hm.block M (Array.getElem?_eq_some_iff.1 h.hM).1 (by have := h.eN; have := h.lb; have := h.nM; omega)).trans h.hM, hr, h.eN, h.nM, h.lb, h.lg⟩
theorem SX.below {w : World} {b G N M : Nat} {ty : TypeId} {zs cs : Array Value} {ts : List Tk} {fa : Int} {fe : Value} {d : Nat} {U U' : World} (h : SX w b G N M ty zs cs ts fa fe d U) (hb : Below U.heap.size U U') : SX w b G N M ty zs cs ts fa fe d U' := by
  obtain ⟨a, c, hr⟩ := h.R
  exact h.call (Mv.ofBelow hb) ⟨a, c, hr.on hb⟩
theorem SX.set {w : World} {b G N M : Nat} {ty : TypeId} {zs cs : Array Value} {ts : List Tk} {fa : Int} {fe : Value} {d : Nat} {U : World} (h : SX w b G N M ty zs cs ts fa fe d U) (i : Nat) (v : Value) : SX w b G N M ty zs (cs.setIfInBounds i v) ts fa fe d (U.setCell ⟨M, i, none⟩ v) := by
  obtain ⟨a, c, hr⟩ := h.R
  have e1 := h.eN
  have e2 := h.nM
  have e3 := h.lb
  have e4 := h.lg
  exact ⟨h.mv.setCell (a := ⟨M, i, none⟩) (.inr (by show _ ≤ M; omega)) v, (Below.heap_setCell _ _ _ _ (show N ≠ M by omega)).trans h.hN, heap_set v h.hM,
    ⟨a, c, hr.blk (Below.heap_setCell _ _ _ _ (show b ≠ M by omega)) (Below.heap_setCell _ _ _ _ (show G ≠ M by omega)) (by simp [World.setCell])⟩, h.eN, h.nM, h.lb, h.lg⟩
theorem gTake_hit {t : Tk} {ts : List Tk} {x : ByteArray} (h : t.x = x) : gTake x (t :: ts) = .ok (t, ts) := by
  simp [gTake, gIs, gLook, gNeed, gStep, Except.map, bind, Except.bind, h]
theorem gName_hit {t : Tk} {ts : List Tk} (h : t.k = 2) : gName (t :: ts) = .ok (t.x, ts) := by
  simp [gName, gLook, gNeed, gStep, bind, Except.bind, h]
set_option maxRecDepth 100000 in
set_option maxHeartbeats 4000000 in
theorem state_one {w : World} {b G : Nat} {t0 t1 t2 t3 : Tk} {ts : List Tk} {fa : Int} {fe : Value} {d : Nat} {a : Option Addr} {c : Nat} (h : Rdr w b G (t0 :: t1 :: t2 :: t3 :: ts) fa fe d a c) (e0 : t0.x = ⟨#[115, 116, 97, 116, 101]⟩) (e1 : t1.k = 2) (e2 : t2.x = ⟨#[123]⟩) (e3 : t3.x = ⟨#[125]⟩) :
    Calls Tryz.prog 32 #[.pointer (some ⟨b, 0, none⟩)] w fun e w' => e = .returned (.agg #[.string t1.x, .slice none 0 0, .int .i64 t0.p]) ∧ (∃ a c, Rdr w' b G ts fa fe d a c) ∧ Mv w w' (fun k => k = b) := by
  have hf4 := fun v => field82_4 t0 v
  have b0 := below_new w (.cells #[.string ⟨#[]⟩, .slice none 0 0, .int .i64 0] 59)
  have n0 := heap_new w (.cells #[.string ⟨#[]⟩, .slice none 0 0, .int .i64 0] 59)
  have s0 := size_alloc w (.cells #[.string ⟨#[]⟩, .slice none 0 0, .int .i64 0] 59)
  have cT := take_any (h.on b0) ⟨#[115, 116, 97, 116, 101]⟩
  rw [gTake_hit e0] at cT
  have HL : Hid (b < w.heap.size ∧ G < w.heap.size ∧ Below w.heap.size w (w.alloc (.cells #[.string ⟨#[]⟩, .slice none 0 0, .int .i64 0] 59)) ∧ (w.alloc (.cells #[.string ⟨#[]⟩, .slice none 0 0, .int .i64 0] 59)).heap[w.heap.size]? = some (.cells #[.string ⟨#[]⟩, .slice none 0 0, .int .i64 0] 59 (0, 0)) ∧ (w.alloc (.cells #[.string ⟨#[]⟩, .slice none 0 0, .int .i64 0] 59)).heap.size = w.heap.size + 1) := ⟨h.lt, h.gl, b0, n0, s0⟩
  have hmf : ∀ (fn : Fn) (first cap : Array Value) (w : World), (Instr.makeFunc fn first cap).run Tryz.prog w = .ok (.func fn first cap) w := fun _ _ _ _ => rfl
  clear b0 n0 s0 h
  go_enter Tryz.func32, Tryz.ntmps32
  go_wp2_with fail
  refine cT.mono ?_
  rintro e w1 ⟨rfl, ⟨a1, c1, hr1⟩, hm1⟩
  obtain ⟨l1, l2, l3, l4, l5⟩ := HL.out
  have b1 := below_new w1 (.cells #[.string ⟨#[]⟩, .slice none 0 0, .int .i64 t0.p] 59)
  have n1 := heap_new w1 (.cells #[.string ⟨#[]⟩, .slice none 0 0, .int .i64 t0.p] 59)
  have sz1 := hm1.size
  have x3 : SX w b G w.heap.size w1.heap.size 59 #[.string ⟨#[]⟩, .slice none 0 0, .int .i64 0] #[.string ⟨#[]⟩, .slice none 0 0, .int .i64 t0.p] (t1 :: t2 :: t3 :: ts) fa fe d (w1.alloc (.cells #[.string ⟨#[]⟩, .slice none 0 0, .int .i64 t0.p] 59)) :=
    ⟨((Mv.ofBelow l3).trans hm1 (fun k e => .inl e)).alloc _, (b1.block _ (by omega)).trans ((hm1.block _ (by omega) (by omega)).trans l4), n1, ⟨a1, c1, hr1.on b1⟩, rfl, by omega, l1, l2⟩
  obtain ⟨Y1, eY1⟩ : ∃ Y, (w1.alloc (.cells #[.string ⟨#[]⟩, .slice none 0 0, .int .i64 t0.p] 59)) = Y := ⟨_, rfl⟩
  rw [eY1] at x3
  have HEY1 : Hid (_ = Y1) := eY1
  have X3 := x3.hid
  obtain ⟨a2, c2, hr2⟩ := x3.R
  have cN := name_any hr2
  rw [gName_hit e1] at cN
  clear cT hr1 hm1 l1 l2 l3 l4 l5 b1 n1 sz1 x3 eY1 hr2 HL
  go_wp2_with fail
  rw [HEY1.out]
  refine cN.mono ?_
  rintro e w2 ⟨rfl, hr2, hm2⟩
  have x4 := X3.out.call hm2 hr2
  have z0 : w2.cell? ⟨w1.heap.size, 0, none⟩ = some (.string ⟨#[]⟩) := cell_of x4.hM 0
  have q0 : w2.frozen? ⟨w1.heap.size, 0, none⟩ = false := frozen_of x4.hM 0
  have x5 := x4.set 0 (.string t1.x)
  obtain ⟨Y2, eY2⟩ : ∃ Y, w2.setCell ⟨w1.heap.size, 0, none⟩ (.string t1.x) = Y := ⟨_, rfl⟩
  rw [eY2] at x5
  have HEY2 : Hid (_ = Y2) := eY2
  have X5 := x5.hid
  obtain ⟨a3, c3, hr3⟩ := x5.R
  have cT2 := take_any hr3 ⟨#[123]⟩
  rw [gTake_hit e2] at cT2
  clear cN hr2 hm2 x4 x5 eY2 hr3 X3 HEY1
  go_wp2_with fail
  rw [HEY2.out]
  refine cT2.mono ?_
  rintro e w3 ⟨rfl, hr3, hm3⟩
  have x6 := X5.out.call hm3 hr3
  have X6 := x6.hid
  obtain ⟨a4, c4, hr4⟩ := x6.R
  have cLs := fun f1 => list108_none hr4 ⟨#[119, 104, 101, 110]⟩ (by rw [e3]; decide) 12 (.func 58) f1 #[]
  clear cT2 hr3 hm3 x6 hr4 X5 HEY2 z0 q0
  go_wp2_with fail
  refine (cLs _).mono ?_
  rintro e w4 ⟨rfl, hb4⟩
  have x7 := X6.out.below hb4
  have z1 : w4.cell? ⟨w1.heap.size, 1, none⟩ = some (.slice none 0 0) := cell_of x7.hM 1
  have q1 : w4.frozen? ⟨w1.heap.size, 1, none⟩ = false := frozen_of x7.hM 1
  have x8 := x7.set 1 (.slice none 0 0)
  obtain ⟨Y3, eY3⟩ : ∃ Y, w4.setCell ⟨w1.heap.size, 1, none⟩ (.slice none 0 0) = Y := ⟨_, rfl⟩
  rw [eY3] at x8
  have HEY3 : Hid (_ = Y3) := eY3
  have X8 := x8.hid
  obtain ⟨a5, c5, hr5⟩ := x8.R
  have cT3 := take_any hr5 ⟨#[125]⟩
  rw [gTake_hit e3] at cT3
  clear cLs hb4 x7 x8 eY3 hr5 X6
  go_wp2_with fail
  rw [HEY3.out]
  refine cT3.mono ?_
  rintro e w5 ⟨rfl, hr5, hm5⟩
  have x9 := X8.out.call hm5 hr5
  have X9 := x9.hid
  have m0 : w5.cell? ⟨w1.heap.size, 0, none⟩ = some (.string t1.x) := cell_of x9.hM 0
  have m1 : w5.cell? ⟨w1.heap.size, 1, none⟩ = some (.slice none 0 0) := cell_of x9.hM 1
  have m2 : w5.cell? ⟨w1.heap.size, 2, none⟩ = some (.int .i64 t0.p) := cell_of x9.hM 2
  have y0 : w5.cell? ⟨w.heap.size, 0, none⟩ = some (.string ⟨#[]⟩) := cell_of x9.hN 0
  have y1 : w5.cell? ⟨w.heap.size, 1, none⟩ = some (.slice none 0 0) := cell_of x9.hN 1
  have y2 : w5.cell? ⟨w.heap.size, 2, none⟩ = some (.int .i64 0) := cell_of x9.hN 2
  have g0 : w5.frozen? ⟨w.heap.size, 0, none⟩ = false := frozen_of x9.hN 0
  have g1 : w5.frozen? ⟨w.heap.size, 1, none⟩ = false := frozen_of x9.hN 1
  have g2 : w5.frozen? ⟨w.heap.size, 2, none⟩ = false := frozen_of x9.hN 2
  obtain ⟨Y, eY, hY1, hY2, hY3, hY4⟩ := fin3_87 x9.hN (.string t1.x) (.slice none 0 0) (.int .i64 t0.p)
  have HEY : Hid (_ = Y) := eY
  have HY : Hid (Y.heap[w.heap.size]? = some (.cells #[.string t1.x, .slice none 0 0, .int .i64 t0.p] 59 (0, 0)) ∧ (∃ a c, Rdr Y b G ts fa fe d a c) ∧ Mv w Y (fun k => k = b)) := by
    obtain ⟨a6, c6, hr6⟩ := x9.R
    have := x9.lb
    have := x9.lg
    exact ⟨hY1, ⟨a6, c6, hr6.blk (hY3 _ (by omega)) (hY3 _ (by omega)) (by omega)⟩, hY4 _ _ x9.mv (Nat.le_refl _)⟩
  clear cT3 hr5 hm5 x9 X9 X8 eY hY1 hY2 hY3 hY4 HEY3 z1 q1
  go_wp2_with fail
  rw [HEY.out]
  exact bodyPost_ret (results_cell_row (p := 2) (ty := 59) rfl _ _ w.heap.size 59 #[.string t1.x, .slice none 0 0, .int .i64 t0.p] (0, 0) _ rfl HY.out.1 Tryz.underlying59 rfl (by kernel_rfl)) rfl ⟨rfl, HY.out.2⟩
end Go.Proofs.YtkfabnchhjfjjabGreatDoor

/-
  A list of one state.
-/
namespace Go.Proofs.YtkfabnchhjfjjabGreatDoor
open Go.RowKit
set_option linter.unusedVariables false
theorem Tryz.info59 : (Tryz.prog.info? 59).map (fun i => (i.zero, i.size, i.bytes)) = some (some (.agg #[.string ⟨#[]⟩, .slice none 0 0, .int .i64 0]), 3, 48) := by kernel_rfl
/-- The cells of one state. -/
def sF (x : ByteArray) (p : Int) (j : Nat) : Value := if j = 0 then .string x else if j = 1 then .slice none 0 0 else .int .i64 p
theorem append_state0 {w0 : World} {ops : Array Oper} {rest : List Oper} {o : Oper} {a : Act} {Q : Exit → Act → World → Prop} (hgd : o.guard = none) (d x : Operand)
    (ho : o.op = .call { callee := .builtin .append, args := #[d, x], argTypes := #[36, 36] }) (n : ByteArray) (p : Int) (hs : a.eval d = .slice none 0 0) (hx : a.eval x = .slice (some ⟨w0.heap.size, 0, none⟩) 1 1)
    (h : ∀ g cap w', Row w' 59 3 (.slice (some ⟨g, 0, none⟩) 1 cap) 1 (sF n p) → Below w0.heap.size w0 w' → w0.heap.size ≤ g → wpList Tryz.prog ops Q rest (a.put o.dst (.slice (some ⟨g, 0, none⟩) 1 cap)) w') :
    wpList Tryz.prog ops Q (o :: rest) a (w0.alloc (.cells #[.string n, .slice none 0 0, .int .i64 p] 59)) := by
  obtain ⟨i0, hi, hz0, hz1, hz2⟩ := info_parts Tryz.info59
  refine wpList_append_lies _ hgd d x 36 ho 0 59 i0 _ 3 48 Tryz.underlying36 hi hz0 hz1 hz2 rfl (by decide) (.slice none 0 0) 0 _ hs (Row.nil _ _ _ (fun _ => .nilIface)) ⟨w0.heap.size, 0, none⟩ 1 1 [.string n, .slice none 0 0, .int .i64 p] hx rfl (World.news_of_block (heap_new w0 _)) (by intro u hu; simp at hu; rcases hu with rfl | rfl | rfl <;> rfl) (by decide) (by unfold maxLen; omega) (by omega) (Nat.zero_le _) _ rfl ?_
  intro g cap w' h2 h3 h4 h5
  have hr := Row.snoc (n := 0) (f := fun _ => .nilIface) (x := sF n p) h2 rfl (fun j hj => by
    match j, hj with
    | 0, _ => rfl
    | 1, _ => rfl
    | 2, _ => rfl)
  have hsz := size_alloc w0 (.cells #[.string n, .slice none 0 0, .int .i64 p] 59)
  refine h g cap w' (hr.congr fun j hj => by simp) ?_ ?_
  · exact (below_new w0 _).grown h3 (by omega) (fun k hk => by simp [Value.ownBlock] at hk)
  · rcases h4 with h4 | h4
    · simp [Value.ownBlock] at h4
    · omega
set_option maxRecDepth 100000 in
set_option maxHeartbeats 4000000 in
theorem list70_one {w : World} {b G : Nat} {t0 t1 t2 t3 t4 : Tk} {ts : List Tk} {fa : Int} {fe : Value} {d : Nat} {a : Option Addr} {c : Nat} (h : Rdr w b G (t0 :: t1 :: t2 :: t3 :: t4 :: ts) fa fe d a c) (e0 : t0.x = ⟨#[115, 116, 97, 116, 101]⟩) (e1 : t1.k = 2) (e2 : t2.x = ⟨#[123]⟩) (e3 : t3.x = ⟨#[125]⟩) (en : ¬ t4.x = ⟨#[115, 116, 97, 116, 101]⟩) :
    Calls Tryz.prog 31 #[.pointer (some ⟨b, 0, none⟩), .string ⟨#[115, 116, 97, 116, 101]⟩, .int .i64 12, .func (.func 32) #[.pointer (some ⟨b, 0, none⟩)] #[]] w fun e w' => ∃ g cap, e = .returned (.slice (some ⟨g, 0, none⟩) 1 cap) ∧ Row w' 59 3 (.slice (some ⟨g, 0, none⟩) 1 cap) 1 (sF t1.x t0.p) ∧ w.heap.size ≤ g ∧ (∃ a c, Rdr w' b G (t4 :: ts) fa fe d a c) ∧ Mv w w' (fun k => k = b) := by
  have cI := is_ok h ⟨#[115, 116, 97, 116, 101]⟩
  rw [decide_eq_true e0] at cI
  have HH := h.hid
  clear h
  go_enter Tryz.func31, Tryz.ntmps31
  go_wp2_with fail
  refine wp_loop_rounds 2 ?_
  rw [rounds_succ]
  go_wp2_with fail
  refine cI.mono ?_
  rintro e w1 ⟨rfl, hb⟩
  have HB : Hid (Below w.heap.size w w1) := hb
  have cN := need_ok w1 b 131
  have cS := state_one (HH.out.on hb) e0 e1 e2 e3
  clear cI hb
  go_wp2_with (go_at_call 33; refine cN.mono ?_; rintro e w3 ⟨rfl, e9⟩; obtain rfl := e9.symm)
  refine cS.mono ?_
  rintro e w2 ⟨rfl, hr2, hm2⟩
  have HM2 : Hid (Mv w w2 (fun k => k = b)) := (Mv.ofBelow HB.out).trans hm2 (fun k e => .inl e)
  have HR2 : Hid (∃ a c, Rdr w2 b G (t4 :: ts) fa fe d a c) := hr2
  clear cS cN hr2 hm2
  go_wp2_with (at_builtin; refine append_state0 rfl (.tmp 19) (.tmp 22) rfl t1.x t0.p rfl rfl ?_; intro g cap w3 hr3 hb3 hg3; have H3 : Hid (Row w3 59 3 (.slice (some ⟨g, 0, none⟩) 1 cap) 1 (sF t1.x t0.p) ∧ Below w2.heap.size w2 w3 ∧ w2.heap.size ≤ g) := ⟨hr3, hb3, hg3⟩; clear hr3 hb3 hg3)
  obtain ⟨a3, c3, hr3⟩ := HR2.out
  have cI2 := is_ok (hr3.on H3.out.2.1) ⟨#[115, 116, 97, 116, 101]⟩
  rw [decide_eq_false en] at cI2
  have H3R : Hid (∃ a c, Rdr w3 b G (t4 :: ts) fa fe d a c) := ⟨a3, c3, hr3.on H3.out.2.1⟩
  clear hr3
  rw [rounds_succ]
  go_wp2_with fail
  refine cI2.mono ?_
  rintro e w4 ⟨rfl, hb4⟩
  have H4 : Hid (Row w4 59 3 (.slice (some ⟨g, 0, none⟩) 1 cap) 1 (sF t1.x t0.p) ∧ w.heap.size ≤ g ∧ (∃ a c, Rdr w4 b G (t4 :: ts) fa fe d a c) ∧ Mv w w4 (fun k => k = b)) := by
    obtain ⟨q1, q2, q3⟩ := H3.out
    obtain ⟨a4, c4, hr4⟩ := H3R.out
    exact ⟨q1.of_block (fun k hk => hb4.block k (q1.lt k hk)), Nat.le_trans HM2.out.size q3, ⟨a4, c4, hr4.on hb4⟩, (HM2.out.trans (Mv.ofBelow q2) (fun k e => .inl e)).trans (Mv.ofBelow hb4) (fun k e => .inl e)⟩
  clear cI2 hb4
  go_wp2_with fail
  go_ret
  exact ⟨g, cap, rfl, H4.out⟩
end Go.Proofs.YtkfabnchhjfjjabGreatDoor

/-
  A strategy of one state without rules; one without a state.
-/
namespace Go.Proofs.YtkfabnchhjfjjabGreatDoor
open Go.RowKit
set_option linter.unusedVariables false
set_option maxRecDepth 100000 in
set_option maxHeartbeats 4000000 in
theorem strat_none {w : World} {b G : Nat} {t0 t1 t2 t3 : Tk} {ts : List Tk} {fa : Int} {fe : Value} {d : Nat} {a : Option Addr} {c : Nat} (h : Rdr w b G (t0 :: t1 :: t2 :: t3 :: ts) fa fe d a c) (e0 : t0.x = ⟨#[115, 116, 114, 97, 116, 101, 103, 121]⟩) (e1 : t1.k = 2) (e2 : t2.x = ⟨#[123]⟩) (nt3r : ¬ t3.x = ⟨#[114, 101, 103]⟩) (nt3s : ¬ t3.x = ⟨#[115, 108, 111, 116]⟩) (nt3t : ¬ t3.x = ⟨#[115, 116, 97, 116, 101]⟩) :
    Calls Tryz.prog 14 #[.pointer (some ⟨b, 0, none⟩)] w fun e w' => e = pan (ftV fa fe (.tok 130 t3.p)) ∧ Mv w w' (fun k => k = b) := by
  have b0 := below_new w (.cells #[.string ⟨#[]⟩, .slice none 0 0, .slice none 0 0, .slice none 0 0] 38)
  have n0 := heap_new w (.cells #[.string ⟨#[]⟩, .slice none 0 0, .slice none 0 0, .slice none 0 0] 38)
  have s0 := size_alloc w (.cells #[.string ⟨#[]⟩, .slice none 0 0, .slice none 0 0, .slice none 0 0] 38)
  have cT := take_any (h.on b0) ⟨#[115, 116, 114, 97, 116, 101, 103, 121]⟩
  rw [gTake_hit e0] at cT
  have HL : Hid (b < w.heap.size ∧ G < w.heap.size ∧ Below w.heap.size w (w.alloc (.cells #[.string ⟨#[]⟩, .slice none 0 0, .slice none 0 0, .slice none 0 0] 38)) ∧ (w.alloc (.cells #[.string ⟨#[]⟩, .slice none 0 0, .slice none 0 0, .slice none 0 0] 38)).heap[w.heap.size]? = some (.cells #[.string ⟨#[]⟩, .slice none 0 0, .slice none 0 0, .slice none 0 0] 38 (0, 0)) ∧ (w.alloc (.cells #[.string ⟨#[]⟩, .slice none 0 0, .slice none 0 0, .slice none 0 0] 38)).heap.size = w.heap.size + 1) := ⟨h.lt, h.gl, b0, n0, s0⟩
  have hmf : ∀ (fn : Fn) (first cap : Array Value) (w : World), (Instr.makeFunc fn first cap).run Tryz.prog w = .ok (.func fn first cap) w := fun _ _ _ _ => rfl
  clear b0 n0 s0 h
  go_enter Tryz.func14, Tryz.ntmps14
  go_wp2_with fail
  refine cT.mono ?_
  rintro e w0 ⟨rfl, ⟨a0, c0, hr0⟩, hm0⟩
  have cN := name_any hr0
  rw [gName_hit e1] at cN
  have HM0 : Hid (Mv (w.alloc (.cells #[.string ⟨#[]⟩, .slice none 0 0, .slice none 0 0, .slice none 0 0] 38)) w0 (fun k => k = b)) := hm0
  clear cT hr0 hm0
  go_wp2_with fail
  refine cN.mono ?_
  rintro e w1 ⟨rfl, ⟨a1, c1, hr1⟩, hm1⟩
  obtain ⟨l1, l2, l3, l4, l5⟩ := HL.out
  have sz0 := HM0.out.size
  have sz1 := hm1.size
  have b1 := below_new w1 (.cells #[.string t1.x, .slice none 0 0, .slice none 0 0, .slice none 0 0] 38)
  have n1 := heap_new w1 (.cells #[.string t1.x, .slice none 0 0, .slice none 0 0, .slice none 0 0] 38)
  have x3 : SX w b G w.heap.size w1.heap.size 38 #[.string ⟨#[]⟩, .slice none 0 0, .slice none 0 0, .slice none 0 0] #[.string t1.x, .slice none 0 0, .slice none 0 0, .slice none 0 0] (t2 :: t3 :: ts) fa fe d (w1.alloc (.cells #[.string t1.x, .slice none 0 0, .slice none 0 0, .slice none 0 0] 38)) :=
    ⟨(((Mv.ofBelow l3).trans HM0.out (fun k e => .inl e)).trans hm1 (fun k e => .inl e)).alloc _, (b1.block _ (by omega)).trans ((hm1.block _ (by omega) (by omega)).trans ((HM0.out.block _ (by omega) (by omega)).trans l4)), n1, ⟨a1, c1, hr1.on b1⟩, rfl, by omega, l1, l2⟩
  obtain ⟨Y1, eY1⟩ : ∃ Y, (w1.alloc (.cells #[.string t1.x, .slice none 0 0, .slice none 0 0, .slice none 0 0] 38)) = Y := ⟨_, rfl⟩
  rw [eY1] at x3
  have HEY1 : Hid (_ = Y1) := eY1
  have X3 := x3.hid
  obtain ⟨a2, c2, hr2⟩ := x3.R
  have cT2 := take_any hr2 ⟨#[123]⟩
  rw [gTake_hit e2] at cT2
  clear cN hr1 hm1 l1 l2 l3 l4 l5 sz0 sz1 b1 n1 x3 eY1 hr2 HL HM0
  go_wp2_with fail
  rw [HEY1.out]
  refine cT2.mono ?_
  rintro e w2 ⟨rfl, hr2, hm2⟩
  have x4 := X3.out.call hm2 hr2
  have X4 := x4.hid
  obtain ⟨a3, c3, hr3⟩ := x4.R
  have cL1 := fun f1 => list66_none hr3 ⟨#[114, 101, 103]⟩ nt3r 12 (.func 28) f1 #[]
  clear cT2 hr2 hm2 x4 hr3 X3 HEY1
  go_wp2_with fail
  refine (cL1 _).mono ?_
  rintro e w3 ⟨rfl, hb3⟩
  have x5 := X4.out.below hb3
  have z1 : w3.cell? ⟨w1.heap.size, 1, none⟩ = some (.slice none 0 0) := cell_of x5.hM 1
  have q1 : w3.frozen? ⟨w1.heap.size, 1, none⟩ = false := frozen_of x5.hM 1
  have x6 := x5.set 1 (.slice none 0 0)
  obtain ⟨Y2, eY2⟩ : ∃ Y, w3.setCell ⟨w1.heap.size, 1, none⟩ (.slice none 0 0) = Y := ⟨_, rfl⟩
  rw [eY2] at x6
  have HEY2 : Hid (_ = Y2) := eY2
  have X6 := x6.hid
  obtain ⟨a4, c4, hr4⟩ := x6.R
  have cL2 := fun f1 => list68_none hr4 ⟨#[115, 108, 111, 116]⟩ nt3s 4 (.func 30) f1 #[]
  clear cL1 hb3 x5 x6 eY2 hr4 X4
  go_wp2_with fail
  rw [HEY2.out]
  refine (cL2 _).mono ?_
  rintro e w4 ⟨rfl, hb4⟩
  have x7 := X6.out.below hb4
  have z2 : w4.cell? ⟨w1.heap.size, 2, none⟩ = some (.slice none 0 0) := cell_of x7.hM 2
  have q2 : w4.frozen? ⟨w1.heap.size, 2, none⟩ = false := frozen_of x7.hM 2
  have x8 := x7.set 2 (.slice none 0 0)
  obtain ⟨Y3, eY3⟩ : ∃ Y, w4.setCell ⟨w1.heap.size, 2, none⟩ (.slice none 0 0) = Y := ⟨_, rfl⟩
  rw [eY3] at x8
  have HEY3 : Hid (_ = Y3) := eY3
  have X8 := x8.hid
  obtain ⟨a5, c5, hr5⟩ := x8.R
  have cL3 := fun f1 => list70_none hr5 ⟨#[115, 116, 97, 116, 101]⟩ nt3t 12 (.func 32) f1 #[]
  clear cL2 hb4 x7 x8 eY3 hr5 X6 HEY2 z1 q1
  go_wp2_with fail
  rw [HEY3.out]
  refine (cL3 _).mono ?_
  rintro e w5 ⟨rfl, hb5⟩
  have x9 := X8.out.below hb5
  have z3 : w5.cell? ⟨w1.heap.size, 3, none⟩ = some (.slice none 0 0) := cell_of x9.hM 3
  have q3 : w5.frozen? ⟨w1.heap.size, 3, none⟩ = false := frozen_of x9.hM 3
  have x10 := x9.set 3 (.slice none 0 0)
  obtain ⟨Y4, eY4⟩ : ∃ Y, w5.setCell ⟨w1.heap.size, 3, none⟩ (.slice none 0 0) = Y := ⟨_, rfl⟩
  rw [eY4] at x10
  have HEY4 : Hid (_ = Y4) := eY4
  have X10 := x10.hid
  have z4 : Y4.cell? ⟨w1.heap.size, 3, none⟩ = some (.slice none 0 0) := cell_of x10.hM 3
  obtain ⟨a6, c6, hr6⟩ := x10.R
  have cNd := need_tok hr6 130
  clear cL3 hb5 x9 x10 eY4 hr6 X8 HEY3 z2 q2
  go_wp2_with fail
  rw [HEY4.out]
  go_wp2_with fail
  refine cNd.mono ?_
  rintro e w6 ⟨rfl, hb6⟩
  exact ⟨rfl, rfl, X10.out.mv.trans (Mv.ofBelow hb6) (fun k e => .inl e)⟩
set_option maxRecDepth 100000 in
set_option maxHeartbeats 4000000 in
theorem strat_one {w : World} {b G : Nat} {t0 t1 t2 t3 t4 t5 t6 t7 : Tk} {ts : List Tk} {fa : Int} {fe : Value} {d : Nat} {a : Option Addr} {c : Nat} (h : Rdr w b G (t0 :: t1 :: t2 :: t3 :: t4 :: t5 :: t6 :: t7 :: ts) fa fe d a c) (e0 : t0.x = ⟨#[115, 116, 114, 97, 116, 101, 103, 121]⟩) (e1 : t1.k = 2) (e2 : t2.x = ⟨#[123]⟩) (e3 : t3.x = ⟨#[115, 116, 97, 116, 101]⟩) (e4 : t4.k = 2) (e5 : t5.x = ⟨#[123]⟩) (e6 : t6.x = ⟨#[125]⟩) (e7 : t7.x = ⟨#[125]⟩) :
    Calls Tryz.prog 14 #[.pointer (some ⟨b, 0, none⟩)] w fun e w' => ∃ g cap, e = .returned (.agg #[.string t1.x, .slice none 0 0, .slice none 0 0, .slice (some ⟨g, 0, none⟩) 1 cap]) ∧ Row w' 59 3 (.slice (some ⟨g, 0, none⟩) 1 cap) 1 (sF t4.x t3.p) ∧ w.heap.size ≤ g ∧ (∃ a c, Rdr w' b G ts fa fe d a c) ∧ Mv w w' (fun k => k = b) := by
  have nt3r : ¬ t3.x = ⟨#[114, 101, 103]⟩ := by rw [e3]; decide
  have nt3s : ¬ t3.x = ⟨#[115, 108, 111, 116]⟩ := by rw [e3]; decide
  have b0 := below_new w (.cells #[.string ⟨#[]⟩, .slice none 0 0, .slice none 0 0, .slice none 0 0] 38)
  have n0 := heap_new w (.cells #[.string ⟨#[]⟩, .slice none 0 0, .slice none 0 0, .slice none 0 0] 38)
  have s0 := size_alloc w (.cells #[.string ⟨#[]⟩, .slice none 0 0, .slice none 0 0, .slice none 0 0] 38)
  have cT := take_any (h.on b0) ⟨#[115, 116, 114, 97, 116, 101, 103, 121]⟩
  rw [gTake_hit e0] at cT
  have HL : Hid (b < w.heap.size ∧ G < w.heap.size ∧ Below w.heap.size w (w.alloc (.cells #[.string ⟨#[]⟩, .slice none 0 0, .slice none 0 0, .slice none 0 0] 38)) ∧ (w.alloc (.cells #[.string ⟨#[]⟩, .slice none 0 0, .slice none 0 0, .slice none 0 0] 38)).heap[w.heap.size]? = some (.cells #[.string ⟨#[]⟩, .slice none 0 0, .slice none 0 0, .slice none 0 0] 38 (0, 0)) ∧ (w.alloc (.cells #[.string ⟨#[]⟩, .slice none 0 0, .slice none 0 0, .slice none 0 0] 38)).heap.size = w.heap.size + 1) := ⟨h.lt, h.gl, b0, n0, s0⟩
  have hmf : ∀ (fn : Fn) (first cap : Array Value) (w : World), (Instr.makeFunc fn first cap).run Tryz.prog w = .ok (.func fn first cap) w := fun _ _ _ _ => rfl
  clear b0 n0 s0 h
  go_enter Tryz.func14, Tryz.ntmps14
  go_wp2_with fail
  refine cT.mono ?_
  rintro e w0 ⟨rfl, ⟨a0, c0, hr0⟩, hm0⟩
  have cN := name_any hr0
  rw [gName_hit e1] at cN
  have HM0 : Hid (Mv (w.alloc (.cells #[.string ⟨#[]⟩, .slice none 0 0, .slice none 0 0, .slice none 0 0] 38)) w0 (fun k => k = b)) := hm0
  clear cT hr0 hm0
  go_wp2_with fail
  refine cN.mono ?_
  rintro e w1 ⟨rfl, ⟨a1, c1, hr1⟩, hm1⟩
  obtain ⟨l1, l2, l3, l4, l5⟩ := HL.out
  have sz0 := HM0.out.size
  have sz1 := hm1.size
  have b1 := below_new w1 (.cells #[.string t1.x, .slice none 0 0, .slice none 0 0, .slice none 0 0] 38)
  have n1 := heap_new w1 (.cells #[.string t1.x, .slice none 0 0, .slice none 0 0, .slice none 0 0] 38)
  have x3 : SX w b G w.heap.size w1.heap.size 38 #[.string ⟨#[]⟩, .slice none 0 0, .slice none 0 0, .slice none 0 0] #[.string t1.x, .slice none 0 0, .slice none 0 0, .slice none 0 0] (t2 :: t3 :: t4 :: t5 :: t6 :: t7 :: ts) fa fe d (w1.alloc (.cells #[.string t1.x, .slice none 0 0, .slice none 0 0, .slice none 0 0] 38)) :=
    ⟨(((Mv.ofBelow l3).trans HM0.out (fun k e => .inl e)).trans hm1 (fun k e => .inl e)).alloc _, (b1.block _ (by omega)).trans ((hm1.block _ (by omega) (by omega)).trans ((HM0.out.block _ (by omega) (by omega)).trans l4)), n1, ⟨a1, c1, hr1.on b1⟩, rfl, by omega, l1, l2⟩
  obtain ⟨Y1, eY1⟩ : ∃ Y, (w1.alloc (.cells #[.string t1.x, .slice none 0 0, .slice none 0 0, .slice none 0 0] 38)) = Y := ⟨_, rfl⟩
  rw [eY1] at x3
  have HEY1 : Hid (_ = Y1) := eY1
  have X3 := x3.hid
  obtain ⟨a2, c2, hr2⟩ := x3.R
  have cT2 := take_any hr2 ⟨#[123]⟩
  rw [gTake_hit e2] at cT2
  clear cN hr1 hm1 l1 l2 l3 l4 l5 sz0 sz1 b1 n1 x3 eY1 hr2 HL HM0
  go_wp2_with fail
  rw [HEY1.out]
  refine cT2.mono ?_
  rintro e w2 ⟨rfl, hr2, hm2⟩
  have x4 := X3.out.call hm2 hr2
  have X4 := x4.hid
  obtain ⟨a3, c3, hr3⟩ := x4.R
  have cL1 := fun f1 => list66_none hr3 ⟨#[114, 101, 103]⟩ nt3r 12 (.func 28) f1 #[]
  clear cT2 hr2 hm2 x4 hr3 X3 HEY1
  go_wp2_with fail
  refine (cL1 _).mono ?_
  rintro e w3 ⟨rfl, hb3⟩
  have x5 := X4.out.below hb3
  have z1 : w3.cell? ⟨w1.heap.size, 1, none⟩ = some (.slice none 0 0) := cell_of x5.hM 1
  have q1 : w3.frozen? ⟨w1.heap.size, 1, none⟩ = false := frozen_of x5.hM 1
  have x6 := x5.set 1 (.slice none 0 0)
  obtain ⟨Y2, eY2⟩ : ∃ Y, w3.setCell ⟨w1.heap.size, 1, none⟩ (.slice none 0 0) = Y := ⟨_, rfl⟩
  rw [eY2] at x6
  have HEY2 : Hid (_ = Y2) := eY2
  have X6 := x6.hid
  obtain ⟨a4, c4, hr4⟩ := x6.R
  have cL2 := fun f1 => list68_none hr4 ⟨#[115, 108, 111, 116]⟩ nt3s 4 (.func 30) f1 #[]
  clear cL1 hb3 x5 x6 eY2 hr4 X4
  go_wp2_with fail
  rw [HEY2.out]
  refine (cL2 _).mono ?_
  rintro e w4 ⟨rfl, hb4⟩
  have x7 := X6.out.below hb4
  have z2 : w4.cell? ⟨w1.heap.size, 2, none⟩ = some (.slice none 0 0) := cell_of x7.hM 2
  have q2 : w4.frozen? ⟨w1.heap.size, 2, none⟩ = false := frozen_of x7.hM 2
  have x8 := x7.set 2 (.slice none 0 0)
  obtain ⟨Y3, eY3⟩ : ∃ Y, w4.setCell ⟨w1.heap.size, 2, none⟩ (.slice none 0 0) = Y := ⟨_, rfl⟩
  rw [eY3] at x8
  have HEY3 : Hid (_ = Y3) := eY3
  have X8 := x8.hid
  obtain ⟨a5, c5, hr5⟩ := x8.R
  have cL3 := list70_one hr5 e3 e4 e5 e6 (by rw [e7]; decide)
  clear cL2 hb4 x7 x8 eY3 hr5 X6 HEY2 z1 q1 nt3r nt3s
  go_wp2_with fail
  rw [HEY3.out]
  refine cL3.mono ?_
  rintro e w5 ⟨g, cap, rfl, hw5, hg5, hr5, hm5⟩
  have x9 := X8.out.call hm5 hr5
  have z3 : w5.cell? ⟨w1.heap.size, 3, none⟩ = some (.slice none 0 0) := cell_of x9.hM 3
  have q3 : w5.frozen? ⟨w1.heap.size, 3, none⟩ = false := frozen_of x9.hM 3
  have x10 := x9.set 3 (.slice (some ⟨g, 0, none⟩) 1 cap)
  have hgl := hw5.lt g rfl
  have hgN : g ≠ w1.heap.size := fun e => by have := (Array.getElem?_eq_some_iff.1 X8.out.hM).1; omega
  obtain ⟨Y4, eY4⟩ : ∃ Y, w5.setCell ⟨w1.heap.size, 3, none⟩ (.slice (some ⟨g, 0, none⟩) 1 cap) = Y := ⟨_, rfl⟩
  have hw6 : Row Y4 59 3 (.slice (some ⟨g, 0, none⟩) 1 cap) 1 (sF t4.x t3.p) := hw5.of_block (fun k hk => by
    simp [Value.ownBlock] at hk; subst hk; rw [← eY4]; exact Below.heap_setCell _ _ _ _ hgN)
  have HG : Hid (w.heap.size < g ∧ Row Y4 59 3 (.slice (some ⟨g, 0, none⟩) 1 cap) 1 (sF t4.x t3.p)) := ⟨by have := (Array.getElem?_eq_some_iff.1 X8.out.hM).1; have := X8.out.nM; omega, hw6⟩
  rw [eY4] at x10
  have HEY4 : Hid (_ = Y4) := eY4
  have X10 := x10.hid
  have z4 : Y4.cell? ⟨w1.heap.size, 3, none⟩ = some (.slice (some ⟨g, 0, none⟩) 1 cap) := cell_of x10.hM 3
  have cNd := need_ok Y4 b 130
  obtain ⟨a6, c6, hr6⟩ := x10.R
  have cT4 := take_any hr6 ⟨#[125]⟩
  rw [gTake_hit e7] at cT4
  clear cL3 hr5 hm5 hw5 hg5 x9 x10 eY4 hr6 X8 HEY3 z2 q2 hgl hgN hw6
  go_wp2_with fail
  rw [HEY4.out]
  go_wp2_with (go_at_call 33; refine cNd.mono ?_; rintro e w9 ⟨rfl, e9⟩; obtain rfl := e9.symm)
  refine cT4.mono ?_
  rintro e w6 ⟨rfl, hr6, hm6⟩
  have x11 := X10.out.call hm6 hr6
  have hg6 := HG.out.2.lt g rfl
  have hw7 : Row w6 59 3 (.slice (some ⟨g, 0, none⟩) 1 cap) 1 (sF t4.x t3.p) := HG.out.2.of_block (fun k hk => by
    simp [Value.ownBlock] at hk; subst hk; exact hm6.block _ hg6 (by have := HG.out.1; have := X10.out.lb; omega))
  have m0 : w6.cell? ⟨w1.heap.size, 0, none⟩ = some (.string t1.x) := cell_of x11.hM 0
  have m1 : w6.cell? ⟨w1.heap.size, 1, none⟩ = some (.slice none 0 0) := cell_of x11.hM 1
  have m2 : w6.cell? ⟨w1.heap.size, 2, none⟩ = some (.slice none 0 0) := cell_of x11.hM 2
  have m3 : w6.cell? ⟨w1.heap.size, 3, none⟩ = some (.slice (some ⟨g, 0, none⟩) 1 cap) := cell_of x11.hM 3
  have y0 : w6.cell? ⟨w.heap.size, 0, none⟩ = some (.string ⟨#[]⟩) := cell_of x11.hN 0
  have y1 : w6.cell? ⟨w.heap.size, 1, none⟩ = some (.slice none 0 0) := cell_of x11.hN 1
  have y2 : w6.cell? ⟨w.heap.size, 2, none⟩ = some (.slice none 0 0) := cell_of x11.hN 2
  have y3 : w6.cell? ⟨w.heap.size, 3, none⟩ = some (.slice none 0 0) := cell_of x11.hN 3
  have g0 : w6.frozen? ⟨w.heap.size, 0, none⟩ = false := frozen_of x11.hN 0
  have g1 : w6.frozen? ⟨w.heap.size, 1, none⟩ = false := frozen_of x11.hN 1
  have g2 : w6.frozen? ⟨w.heap.size, 2, none⟩ = false := frozen_of x11.hN 2
  have g3 : w6.frozen? ⟨w.heap.size, 3, none⟩ = false := frozen_of x11.hN 3
  obtain ⟨Y, eY, hY1, hY2, hY3, hY4⟩ := fin4_43 x11.hN (.string t1.x) (.slice none 0 0) (.slice none 0 0) (.slice (some ⟨g, 0, none⟩) 1 cap)
  have HEY : Hid (_ = Y) := eY
  have HY : Hid (Y.heap[w.heap.size]? = some (.cells #[.string t1.x, .slice none 0 0, .slice none 0 0, .slice (some ⟨g, 0, none⟩) 1 cap] 38 (0, 0)) ∧ Row Y 59 3 (.slice (some ⟨g, 0, none⟩) 1 cap) 1 (sF t4.x t3.p) ∧ w.heap.size ≤ g ∧ (∃ a c, Rdr Y b G ts fa fe d a c) ∧ Mv w Y (fun k => k = b)) := by
    obtain ⟨a7, c7, hr7⟩ := x11.R
    have := x11.lb
    have := x11.lg
    have hg := HG.out.1
    exact ⟨hY1, hw7.of_block (fun k hk => by simp [Value.ownBlock] at hk; subst hk; exact hY3 _ (by omega)), by omega, ⟨a7, c7, hr7.blk (hY3 _ (by omega)) (hY3 _ (by omega)) (by omega)⟩, hY4 _ _ x11.mv (Nat.le_refl _)⟩
  clear cT4 cNd hr6 hm6 x11 X10 eY hY1 hY2 hY3 hY4 HEY4 z3 q3 z4 hw7 hg6 HG
  go_wp2_with fail
  rw [HEY.out]
  exact bodyPost_ret (results_cell_row (p := 2) (ty := 38) rfl _ _ w.heap.size 38 #[.string t1.x, .slice none 0 0, .slice none 0 0, .slice (some ⟨g, 0, none⟩) 1 cap] (0, 0) _ rfl HY.out.1 Tryz.underlying38 rfl (by kernel_rfl)) rfl ⟨g, cap, rfl, HY.out.2⟩
end Go.Proofs.YtkfabnchhjfjjabGreatDoor
