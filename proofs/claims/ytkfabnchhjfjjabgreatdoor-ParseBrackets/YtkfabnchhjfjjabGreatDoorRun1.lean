/-
  unary: an operator ahead of what stands deeper, or one.
-/
import Derived.Test.YtkfabnchhjfjjabGreatDoorRv
namespace Go.Proofs.YtkfabnchhjfjjabGreatDoor
open Go.RowKit
/-- A node of one kid that has been read just now. -/
theorem kid8 {w : World} {b G : Nat} {fa : Int} {fe : Value} {d : Nat} {W : World} {k2 o2 ty2 n2 f2 p2 q p : Int} {x2 : ByteArray} {am2 : Option Addr} {cm2 : Nat} {ks2 : List Nd} {ts : List Tk} (hm : Mv w W (fun k => k = b)) (hZ : W.heap[w.heap.size]? = some (.cells #[.int .u8 0, .int .u8 0, .int .u8 0, .int .i64 0, .int .u8 0, .string ⟨#[]⟩, .slice none 0 0, .int .i64 0] 52 (0, 0))) (hl : Lies W (.mk ⟨k2, o2, ty2, n2, f2, x2, p2⟩ am2 cm2 ks2)) (hk : Bkn (fun k => w.heap.size < k ∧ k < W.heap.size) (.mk ⟨k2, o2, ty2, n2, f2, x2, p2⟩ am2 cm2 ks2)) (hr : ∃ a c, Rdr W b G ts fa fe d a c) (hb : b < w.heap.size) (hg : G < w.heap.size) (hq : Rg ⟨5, q, 0, 0, 0, gE, p⟩) :
    ∃ Y, (((((((((W.setCell ⟨w.heap.size, 0, none⟩ (.int .u8 5)).setCell ⟨w.heap.size, 1, none⟩ (.int .u8 q)).setCell ⟨w.heap.size, 2, none⟩ (.int .u8 0)).setCell ⟨w.heap.size, 3, none⟩ (.int .i64 0)).setCell ⟨w.heap.size, 4, none⟩ (.int .u8 0)).setCell ⟨w.heap.size, 5, none⟩ (.string ⟨#[]⟩)).setCell ⟨w.heap.size, 6, none⟩ (.slice (some ⟨W.heap.size + 1, 0, none⟩) 1 1)).setCell ⟨w.heap.size, 7, none⟩ (.int .i64 p)).alloc (.cells #[.int .u8 k2, .int .u8 o2, .int .u8 ty2, .int .i64 n2, .int .u8 f2, .string x2, .slice am2 ks2.length cm2, .int .i64 p2] 52)).alloc (.cells #[.int .u8 k2, .int .u8 o2, .int .u8 ty2, .int .i64 n2, .int .u8 f2, .string x2, .slice am2 ks2.length cm2, .int .i64 p2] 52) = Y ∧ Y.heap[w.heap.size]? = some (.cells (Nd.mk ⟨5, q, 0, 0, 0, gE, p⟩ (some ⟨W.heap.size + 1, 0, none⟩) 1 [(.mk ⟨k2, o2, ty2, n2, f2, x2, p2⟩ am2 cm2 ks2)]).vals 52 (0, 0)) ∧ Lies Y (.mk ⟨5, q, 0, 0, 0, gE, p⟩ (some ⟨W.heap.size + 1, 0, none⟩) 1 [(.mk ⟨k2, o2, ty2, n2, f2, x2, p2⟩ am2 cm2 ks2)]) ∧ Bkn (fun k => w.heap.size ≤ k ∧ k < Y.heap.size) (.mk ⟨5, q, 0, 0, 0, gE, p⟩ (some ⟨W.heap.size + 1, 0, none⟩) 1 [(.mk ⟨k2, o2, ty2, n2, f2, x2, p2⟩ am2 cm2 ks2)]) ∧ (∃ a c, Rdr Y b G ts fa fe d a c) ∧ Mv w Y (fun k => k = b) := by
  obtain ⟨Y, eY, hY1, hY2, hY3, hY4⟩ := fin8 hZ (.int .u8 5) (.int .u8 q) (.int .u8 0) (.int .i64 0) (.int .u8 0) (.string ⟨#[]⟩) (.slice (some ⟨W.heap.size + 1, 0, none⟩) 1 1) (.int .i64 p)
  rw [eY]
  clear eY
  have hNW : w.heap.size < W.heap.size := (Array.getElem?_eq_some_iff.1 hZ).1
  have b1 := below_new Y (.cells #[.int .u8 k2, .int .u8 o2, .int .u8 ty2, .int .i64 n2, .int .u8 f2, .string x2, .slice am2 ks2.length cm2, .int .i64 p2] 52)
  have s1 : (Y.alloc (.cells #[.int .u8 k2, .int .u8 o2, .int .u8 ty2, .int .i64 n2, .int .u8 f2, .string x2, .slice am2 ks2.length cm2, .int .i64 p2] 52)).heap.size = W.heap.size + 1 := by rw [size_alloc, hY2]
  obtain ⟨U, eU⟩ : ∃ U, Y.alloc (.cells #[.int .u8 k2, .int .u8 o2, .int .u8 ty2, .int .i64 n2, .int .u8 f2, .string x2, .slice am2 ks2.length cm2, .int .i64 p2] 52) = U := ⟨_, rfl⟩
  rw [eU] at b1 s1 ⊢
  clear eU
  have b2 := below_new U (.cells #[.int .u8 k2, .int .u8 o2, .int .u8 ty2, .int .i64 n2, .int .u8 f2, .string x2, .slice am2 ks2.length cm2, .int .i64 p2] 52)
  have hB := heap_new U (.cells #[.int .u8 k2, .int .u8 o2, .int .u8 ty2, .int .i64 n2, .int .u8 f2, .string x2, .slice am2 ks2.length cm2, .int .i64 p2] 52)
  rw [s1] at hB
  have s2 : (U.alloc (.cells #[.int .u8 k2, .int .u8 o2, .int .u8 ty2, .int .i64 n2, .int .u8 f2, .string x2, .slice am2 ks2.length cm2, .int .i64 p2] 52)).heap.size = W.heap.size + 2 := by rw [size_alloc, s1]
  obtain ⟨Z, eZ⟩ : ∃ Z, U.alloc (.cells #[.int .u8 k2, .int .u8 o2, .int .u8 ty2, .int .i64 n2, .int .u8 f2, .string x2, .slice am2 ks2.length cm2, .int .i64 p2] 52) = Z := ⟨_, rfl⟩
  rw [eZ] at b2 hB s2 ⊢
  clear eZ
  have hZZ : ∀ k, k < W.heap.size → k ≠ w.heap.size → Z.heap[k]? = W.heap[k]? := fun k h1 h2 => ((b2.block k (by omega)).trans (b1.block k (by omega))).trans (hY3 k h2)
  refine ⟨Z, rfl, ((b2.block _ (by omega)).trans (b1.block _ (by omega))).trans hY1, ?_, ?_, ?_, ((hY4 _ _ hm (by omega)).trans (Mv.ofBelow b1) (fun _ e => .inl e)).trans (Mv.ofBelow b2) (fun _ e => .inl e)⟩
  · refine .mk _ _ _ _ hq (by simp) (by simp) ?_ ?_
    · intro i hi
      refine ⟨W.heap.size + 1, 0, rfl, ?_⟩
      match i, hi with
      | 0, _ => exact ⟨cell_of hB 0, cell_of hB 1, cell_of hB 2, cell_of hB 3, cell_of hB 4, cell_of hB 5, cell_of hB 6, cell_of hB 7⟩
    · intro k hk'
      obtain rfl := List.mem_singleton.1 hk'
      exact hl.bkn hk fun j hj => hZZ j hj.2 (by omega)
  · refine .mk _ _ _ _ (fun b' o e => ?_) ?_
    · injection e with e; injection e with e; omega
    · intro k hk'
      obtain rfl := List.mem_singleton.1 hk'
      exact hk.mono fun j hj => ⟨by omega, by omega⟩
  · obtain ⟨a, c, hr⟩ := hr
    exact ⟨a, c, hr.blk (hZZ _ (by omega) (by omega)) (hZZ _ (by omega) (by omega)) (by omega)⟩
theorem unX_rg (x : ByteArray) : 0 ≤ unX x ∧ unX x ≤ 255 := by
  unfold unX
  repeat' split
  all_goals omega
theorem gUn_s (ex un : List Tk → Except Ft (Tr × List Tk)) (d : Nat) (t : Tk) (ts : List Tk) : gUn ex un d (t :: ts) = if unX t.x = 0 then gOne ex d (t :: ts) else match gOpn d (t :: ts) with | .error e => .error e | .ok q => match un q.2 with | .error e => .error e | .ok q2 => .ok (.mk ⟨5, unX t.x, 0, 0, 0, gE, q.1.p⟩ [q2.1], q2.2) := by
  by_cases e : unX t.x = 0
  · simp [gUn, gLook, bind, Except.bind, e]
  · simp only [gUn, gLook, bind, Except.bind, if_neg e]
    cases gOpn d (t :: ts) with
    | error e => rfl
    | ok q =>
      simp only
      cases un q.2 with
      | error e => rfl
      | ok q => rfl
theorem gOpn_mem {d : Nat} {ts : List Tk} {u : Tk} {r : List Tk} (h : gOpn d ts = .ok (u, r)) : ts = u :: r := by
  cases ts with
  | nil => 
    by_cases e : d < 24
    · simp [gOpn, gNeed, gStep, bind, Except.bind, e] at h
    · simp [gOpn, gNeed, gLook, bind, Except.bind, e] at h
  | cons t ts =>
    by_cases e : d < 24
    · simp [gOpn, gNeed, gStep, bind, Except.bind, e] at h
      rw [h.1, h.2]
    · simp [gOpn, gNeed, gLook, bind, Except.bind, e] at h
theorem gOpn_lt {d : Nat} {ts : List Tk} {q : Tk × List Tk} (h : gOpn d ts = .ok q) : d < 24 := by
  by_cases e : d < 24
  · exact e
  · cases ts <;> simp [gOpn, gNeed, gLook, bind, Except.bind, e] at h
set_option maxRecDepth 100000 in
set_option maxHeartbeats 4000000 in
theorem unary_any (ex un : List Tk → Except Ft (Tr × List Tk))
    {w : World} {b G : Nat} {ts : List Tk} {fa : Int} {fe : Value} {d : Nat} {a : Option Addr} {c : Nat} (h : Rdr w b G ts fa fe d a c) (hT : ∀ t ∈ ts, RgT t) (hd : d < 1000)
    (cO : ∀ v a c, Rdr v b G ts fa fe d a c → Calls Tryz.prog 118 #[.pointer (some ⟨b, 0, none⟩)] v (OutN b G fa fe d v (gOne ex d ts)))
    (cU : d < 24 → ∀ v ts a c, Rdr v b G ts fa fe (d + 1) a c → (∀ t ∈ ts, RgT t) → Calls Tryz.prog 115 #[.pointer (some ⟨b, 0, none⟩)] v (OutN b G fa fe (d + 1) v (un ts))) :
    Calls Tryz.prog 115 #[.pointer (some ⟨b, 0, none⟩)] w (OutN b G fa fe d w (gUn ex un d ts)) := by
  have hmf : ∀ (fn : Fn) (first cap : Array Value) (w : World), (Instr.makeFunc fn first cap).run Tryz.prog w = .ok (.func fn first cap) w := fun _ _ _ _ => rfl
  have hb0 := below_new w (.cells #[.int .u8 0, .int .u8 0, .int .u8 0, .int .i64 0, .int .u8 0, .string ⟨#[]⟩, .slice none 0 0, .int .i64 0] 52)
  have h0 := h.on hb0
  have HBL : Hid (b < w.heap.size) := h.lt
  have HGL : Hid (G < w.heap.size) := h.gl
  have HB0 : Hid (Below w.heap.size w (w.alloc (.cells #[.int .u8 0, .int .u8 0, .int .u8 0, .int .i64 0, .int .u8 0, .string ⟨#[]⟩, .slice none 0 0, .int .i64 0] 52))) := hb0
  have HZ0 : Hid ((w.alloc (.cells #[.int .u8 0, .int .u8 0, .int .u8 0, .int .i64 0, .int .u8 0, .string ⟨#[]⟩, .slice none 0 0, .int .i64 0] 52)).heap[w.heap.size]? = some (.cells #[.int .u8 0, .int .u8 0, .int .u8 0, .int .i64 0, .int .u8 0, .string ⟨#[]⟩, .slice none 0 0, .int .i64 0] 52 (0, 0))) := heap_new _ _
  clear h hb0
  cases ts with
  | nil =>
    have cN := unO_no h0
    have eG : gUn ex un d [] = .error .lex := by simp [gUn, gLook, bind, Except.bind]
    rw [eG]
    clear cO cU h0 eG
    go_enter Tryz.func115, Tryz.ntmps115
    go_wp2_with fail
    refine cN.mono ?_
    rintro e w1 ⟨rfl, hb⟩
    exact ⟨rfl, rfl, Mv.ofBelow (below2 HB0.out hb)⟩
  | cons t ts =>
    have cN := unO_ok h0
    have HH0 := h0.hid
    rw [gUn_s]
    have hq := unX_rg t.x
    obtain ⟨q, eq⟩ : ∃ q, unX t.x = q := ⟨_, rfl⟩
    rw [eq] at cN hq ⊢
    clear eq h0
    by_cases hq0 : q = 0
    · rw [if_pos hq0]
      subst hq0
      obtain ⟨X, eX⟩ : ∃ X, gOne ex d (t :: ts) = X := ⟨_, rfl⟩
      rw [eX] at cO ⊢
      clear eX cU
      go_enter Tryz.func115, Tryz.ntmps115
      go_wp2_with fail
      refine cN.mono ?_
      rintro e w1 ⟨rfl, hb⟩
      have HB1 : Hid (Below (w.alloc (.cells #[.int .u8 0, .int .u8 0, .int .u8 0, .int .i64 0, .int .u8 0, .string ⟨#[]⟩, .slice none 0 0, .int .i64 0] 52)).heap.size (w.alloc (.cells #[.int .u8 0, .int .u8 0, .int .u8 0, .int .i64 0, .int .u8 0, .string ⟨#[]⟩, .slice none 0 0, .int .i64 0] 52)) w1) := hb
      have cR := cO w1 _ _ (HH0.out.on hb)
      clear cO cN hb
      cases X with
      | error f =>
        go_wp2_with fail
        refine cR.mono ?_
        rintro e w2 ⟨rfl, hm⟩
        exact ⟨rfl, rfl, (Mv.ofBelow (below2 HB0.out HB1.out)).trans hm (fun k e => .inl e)⟩
      | ok q =>
        obtain ⟨t2, ts2⟩ := q
        go_wp2_with fail
        refine cR.mono ?_
        rintro e w2 ⟨⟨m, rfl, rfl, hl, hk⟩, hr, hm⟩
        obtain ⟨⟨k2, o2, ty2, n2, f2, x2, p2⟩, am2, cm2, ks2⟩ := m
        obtain ⟨hZ, Y, eY, hY1, hY2, hY3, hY4, hY5⟩ := pass8 ((Mv.ofBelow HB1.out).trans hm (fun k e => .inl e)) hl (hk.mono fun j hj => ⟨Nat.le_trans HB1.out.size hj.1, hj.2⟩) hr HBL.out HGL.out
        have z0 : w2.cell? ⟨w.heap.size, 0, none⟩ = some (.int .u8 0) := cell_of hZ 0
        have q0 : w2.frozen? ⟨w.heap.size, 0, none⟩ = false := frozen_of hZ 0
        have z1 : w2.cell? ⟨w.heap.size, 1, none⟩ = some (.int .u8 0) := cell_of hZ 1
        have q1 : w2.frozen? ⟨w.heap.size, 1, none⟩ = false := frozen_of hZ 1
        have z2 : w2.cell? ⟨w.heap.size, 2, none⟩ = some (.int .u8 0) := cell_of hZ 2
        have q2 : w2.frozen? ⟨w.heap.size, 2, none⟩ = false := frozen_of hZ 2
        have z3 : w2.cell? ⟨w.heap.size, 3, none⟩ = some (.int .i64 0) := cell_of hZ 3
        have q3 : w2.frozen? ⟨w.heap.size, 3, none⟩ = false := frozen_of hZ 3
        have z4 : w2.cell? ⟨w.heap.size, 4, none⟩ = some (.int .u8 0) := cell_of hZ 4
        have q4 : w2.frozen? ⟨w.heap.size, 4, none⟩ = false := frozen_of hZ 4
        have z5 : w2.cell? ⟨w.heap.size, 5, none⟩ = some (.string ⟨#[]⟩) := cell_of hZ 5
        have q5 : w2.frozen? ⟨w.heap.size, 5, none⟩ = false := frozen_of hZ 5
        have z6 : w2.cell? ⟨w.heap.size, 6, none⟩ = some (.slice none 0 0) := cell_of hZ 6
        have q6 : w2.frozen? ⟨w.heap.size, 6, none⟩ = false := frozen_of hZ 6
        have z7 : w2.cell? ⟨w.heap.size, 7, none⟩ = some (.int .i64 0) := cell_of hZ 7
        have q7 : w2.frozen? ⟨w.heap.size, 7, none⟩ = false := frozen_of hZ 7
        have HEY : Hid (_ = Y) := eY
        have HY1 : Hid (Y.heap[w.heap.size]? = some (.cells (Nd.mk ⟨k2, o2, ty2, n2, f2, x2, p2⟩ am2 cm2 ks2).vals 52 (0, 0))) := hY1
        have HYY : Hid (Lies Y (.mk ⟨k2, o2, ty2, n2, f2, x2, p2⟩ am2 cm2 ks2) ∧ Bkn (fun k => w.heap.size ≤ k ∧ k < Y.heap.size) (.mk ⟨k2, o2, ty2, n2, f2, x2, p2⟩ am2 cm2 ks2) ∧ (∃ a c, Rdr Y b G ts2 fa fe d a c) ∧ Mv w Y (fun k => k = b)) := ⟨hY2, hY3, hY4, hY5⟩
        clear eY hY1 hY2 hY3 hY4 hY5 hZ hm hl hk hr cR
        simp only [Nd.vals, Nd.h, Nd.a, Nd.c, Nd.ks, hdA]
        go_wp2_with fail
        rw [HEY.out]
        exact bodyPost_ret (results_cell_row rfl _ _ w.heap.size 52 (Nd.mk ⟨k2, o2, ty2, n2, f2, x2, p2⟩ am2 cm2 ks2).vals (0, 0) _ rfl HY1.out Tryz.underlying52 rfl (by kernel_rfl)) rfl ⟨⟨_, rfl, rfl, HYY.out.1, HYY.out.2.1⟩, HYY.out.2.2.1, HYY.out.2.2.2⟩
    · rw [if_neg hq0]
      have hq1 : decide (q = 0) = false := decide_eq_false hq0
      have hq2 : (q == 0) = false := by simpa using hq0
      obtain ⟨X, eX⟩ : ∃ X, gOpn d (t :: ts) = X := ⟨_, rfl⟩
      have HEX : Hid (gOpn d (t :: ts) = X) := eX
      rw [eX]
      clear eX cO
      cases X with
      | error f =>
        clear cU
        go_enter Tryz.func115, Tryz.ntmps115
        go_wp2_with fail
        refine cN.mono ?_
        rintro e w1 ⟨rfl, hb⟩
        have HB1 : Hid (Below w.heap.size w w1) := below2 HB0.out hb
        have cS := open_any (HH0.out.on hb)
        rw [HEX.out] at cS
        clear cN hb
        go_wp2_with fail
        refine cS.mono ?_
        rintro e w2 ⟨rfl, hm⟩
        exact ⟨rfl, rfl, (Mv.ofBelow HB1.out).trans hm (fun k e => .inl e)⟩
      | ok q3 =>
        obtain ⟨u, r⟩ := q3
        have hur := gOpn_mem HEX.out
        have HTr : Hid (∀ t ∈ r, RgT t) := fun y hy => hT y (by rw [hur]; exact List.mem_cons_of_mem _ hy)
        have HTu : Hid (RgT u) := hT u (by rw [hur]; simp)
        have HG5 : Hid (Rg ⟨5, q, 0, 0, 0, gE, u.p⟩) := by
          have := HTu.out.p0; have := HTu.out.p1; have := hq.1; have := hq.2
          constructor <;> first | omega | (show (0 : Nat) ≤ _; omega) | (simp only; omega) | simp
        have hf4 := fun v => field82_4 u v
        obtain ⟨X, eX⟩ : ∃ X, un r = X := ⟨_, rfl⟩
        have HEY : Hid (un r = X) := eX
        simp only
        rw [eX]
        clear eX hur hT
        go_enter Tryz.func115, Tryz.ntmps115
        go_wp2_with fail
        refine cN.mono ?_
        rintro e w1 ⟨rfl, hb⟩
        have HB1 : Hid (Below w.heap.size w w1) := below2 HB0.out hb
        have HZ1 : Hid (w1.heap[w.heap.size]? = some (.cells #[.int .u8 0, .int .u8 0, .int .u8 0, .int .i64 0, .int .u8 0, .string ⟨#[]⟩, .slice none 0 0, .int .i64 0] 52 (0, 0))) := (hb.block _ (Array.getElem?_eq_some_iff.1 HZ0.out).1).trans HZ0.out
        have cS := open_any (HH0.out.on hb)
        rw [HEX.out] at cS
        clear cN hb
        go_wp2_with fail
        refine cS.mono ?_
        rintro e w2 ⟨rfl, ⟨a2, c2, hr2⟩, hm2⟩
        have HM2 : Hid (Mv w w2 (fun k => k = b)) := (Mv.ofBelow HB1.out).trans hm2 (fun k e => .inl e)
        have HZ2 : Hid (w2.heap[w.heap.size]? = some (.cells #[.int .u8 0, .int .u8 0, .int .u8 0, .int .i64 0, .int .u8 0, .string ⟨#[]⟩, .slice none 0 0, .int .i64 0] 52 (0, 0))) := (hm2.block _ (Array.getElem?_eq_some_iff.1 HZ1.out).1 (by have := HBL.out; omega)).trans HZ1.out
        replace cU := cU (gOpn_lt HEX.out)
        have cW := within_any 115 enter180 hr2 hd (un r) (fun v a c h => cU v _ _ _ h HTr.out)
        rw [HEY.out] at cW
        clear cS hm2 hr2 cU HEY HEX
        cases X with
        | error f =>
          go_wp2_with fail
          refine cW.mono ?_
          rintro e w3 ⟨rfl, hm⟩
          exact ⟨rfl, rfl, HM2.out.trans hm (fun k e => .inl e)⟩
        | ok q4 =>
          obtain ⟨t3, ts3⟩ := q4
          go_wp2_with fail
          refine cW.mono ?_
          rintro e w3 ⟨⟨m, rfl, rfl, hl, hk⟩, hr, hm⟩
          obtain ⟨⟨k2, o2, ty2, n2, f2, x2, p2⟩, am2, cm2, ks2⟩ := m
          have hW2 : w.heap.size < w2.heap.size := (Array.getElem?_eq_some_iff.1 HZ2.out).1
          have hZ3 : w3.heap[w.heap.size]? = some (.cells #[.int .u8 0, .int .u8 0, .int .u8 0, .int .i64 0, .int .u8 0, .string ⟨#[]⟩, .slice none 0 0, .int .i64 0] 52 (0, 0)) := (hm.block _ hW2 (by have := HBL.out; omega)).trans HZ2.out
          have hsz : w.heap.size < w3.heap.size := (Array.getElem?_eq_some_iff.1 hZ3).1
          obtain ⟨Y, eY, hY1, hY2, hY3, hY4, hY5⟩ := kid8 (HM2.out.trans hm (fun k e => .inl e)) hZ3 hl (hk.mono fun j hj => ⟨by omega, hj.2⟩) hr HBL.out HGL.out HG5.out
          have z0 : w3.cell? ⟨w.heap.size, 0, none⟩ = some (.int .u8 0) := cell_of hZ3 0
          have q0 : w3.frozen? ⟨w.heap.size, 0, none⟩ = false := frozen_of hZ3 0
          have z1 : w3.cell? ⟨w.heap.size, 1, none⟩ = some (.int .u8 0) := cell_of hZ3 1
          have q1 : w3.frozen? ⟨w.heap.size, 1, none⟩ = false := frozen_of hZ3 1
          have z2 : w3.cell? ⟨w.heap.size, 2, none⟩ = some (.int .u8 0) := cell_of hZ3 2
          have q2 : w3.frozen? ⟨w.heap.size, 2, none⟩ = false := frozen_of hZ3 2
          have z3 : w3.cell? ⟨w.heap.size, 3, none⟩ = some (.int .i64 0) := cell_of hZ3 3
          have q3 : w3.frozen? ⟨w.heap.size, 3, none⟩ = false := frozen_of hZ3 3
          have z4 : w3.cell? ⟨w.heap.size, 4, none⟩ = some (.int .u8 0) := cell_of hZ3 4
          have q4 : w3.frozen? ⟨w.heap.size, 4, none⟩ = false := frozen_of hZ3 4
          have z5 : w3.cell? ⟨w.heap.size, 5, none⟩ = some (.string ⟨#[]⟩) := cell_of hZ3 5
          have q5 : w3.frozen? ⟨w.heap.size, 5, none⟩ = false := frozen_of hZ3 5
          have z6 : w3.cell? ⟨w.heap.size, 6, none⟩ = some (.slice none 0 0) := cell_of hZ3 6
          have q6 : w3.frozen? ⟨w.heap.size, 6, none⟩ = false := frozen_of hZ3 6
          have z7 : w3.cell? ⟨w.heap.size, 7, none⟩ = some (.int .i64 0) := cell_of hZ3 7
          have q7 : w3.frozen? ⟨w.heap.size, 7, none⟩ = false := frozen_of hZ3 7
          have HEY : Hid (_ = Y) := eY
          have HY1 : Hid (Y.heap[w.heap.size]? = some (.cells (Nd.mk ⟨5, q, 0, 0, 0, gE, u.p⟩ (some ⟨w3.heap.size + 1, 0, none⟩) 1 [(.mk ⟨k2, o2, ty2, n2, f2, x2, p2⟩ am2 cm2 ks2)]).vals 52 (0, 0))) := hY1
          have HYY : Hid (Lies Y (.mk ⟨5, q, 0, 0, 0, gE, u.p⟩ (some ⟨w3.heap.size + 1, 0, none⟩) 1 [(.mk ⟨k2, o2, ty2, n2, f2, x2, p2⟩ am2 cm2 ks2)]) ∧ Bkn (fun k => w.heap.size ≤ k ∧ k < Y.heap.size) (.mk ⟨5, q, 0, 0, 0, gE, u.p⟩ (some ⟨w3.heap.size + 1, 0, none⟩) 1 [(.mk ⟨k2, o2, ty2, n2, f2, x2, p2⟩ am2 cm2 ks2)]) ∧ (∃ a c, Rdr Y b G ts3 fa fe d a c) ∧ Mv w Y (fun k => k = b)) := ⟨hY2, hY3, hY4, hY5⟩
          clear eY hY1 hY2 hY3 hY4 hY5 hZ3 hm hl hk hr cW hW2
          simp only [Nd.vals, Nd.h, Nd.a, Nd.c, Nd.ks, hdA]
          go_wp2_with fail
          rw [HEY.out]
          exact bodyPost_ret (results_cell_row rfl _ _ w.heap.size 52 (Nd.mk ⟨5, q, 0, 0, 0, gE, u.p⟩ (some ⟨w3.heap.size + 1, 0, none⟩) 1 [(.mk ⟨k2, o2, ty2, n2, f2, x2, p2⟩ am2 cm2 ks2)]).vals (0, 0) _ rfl HY1.out Tryz.underlying52 rfl (by kernel_rfl)) rfl ⟨⟨_, rfl, rfl, HYY.out.1, HYY.out.2.1⟩, HYY.out.2.2.1, HYY.out.2.2.2⟩
end Go.Proofs.YtkfabnchhjfjjabGreatDoor
