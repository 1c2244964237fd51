import Derived.Test.YtkfabnchhjfjjabGreatDoorRc1
import Derived.Test.YtkfabnchhjfjjabGreatDoorRz
/-
  one: what stands by itself: a field that is asked for; a literal
-/
namespace Go.Proofs.YtkfabnchhjfjjabGreatDoor
open Go.RowKit
set_option linter.unusedVariables false
/-- What is handed back is what was read. -/
theorem BX.ret {w : World} {b G : Nat} {fa : Int} {fe : Value} {d : Nat} {W : World} {k2 o2 ty2 n2 f2 p2 : Int} {x2 : ByteArray} {am2 : Option Addr} {cm2 : Nat} {ks2 : List Nd} {bs : List (Nat × Nd)} {ts : List Tk} (h : BX w b G fa fe d W bs ts) (hb : b < w.heap.size) (hg : G < w.heap.size) (hl : Lies W (.mk ⟨k2, o2, ty2, n2, f2, x2, p2⟩ am2 cm2 ks2)) (hk : Bkn (fun k => w.heap.size < k ∧ k < W.heap.size) (.mk ⟨k2, o2, ty2, n2, f2, x2, p2⟩ am2 cm2 ks2)) :
    W.heap[w.heap.size]? = some (.cells #[.int .u8 0, .int .u8 0, .int .u8 0, .int .i64 0, .int .u8 0, .string ⟨#[]⟩, .slice none 0 0, .int .i64 0] 52 (0, 0)) ∧ ∃ Y, ((((((((W.setCell ⟨w.heap.size, 0, none⟩ (.int .u8 k2)).setCell ⟨w.heap.size, 1, none⟩ (.int .u8 o2)).setCell ⟨w.heap.size, 2, none⟩ (.int .u8 ty2)).setCell ⟨w.heap.size, 3, none⟩ (.int .i64 n2)).setCell ⟨w.heap.size, 4, none⟩ (.int .u8 f2)).setCell ⟨w.heap.size, 5, none⟩ (.string x2)).setCell ⟨w.heap.size, 6, none⟩ (.slice am2 ks2.length cm2)).setCell ⟨w.heap.size, 7, none⟩ (.int .i64 p2)) = Y ∧ Y.heap[w.heap.size]? = some (.cells (Nd.mk ⟨k2, o2, ty2, n2, f2, x2, p2⟩ am2 cm2 ks2).vals 52 (0, 0)) ∧ Lies Y (.mk ⟨k2, o2, ty2, n2, f2, x2, p2⟩ am2 cm2 ks2) ∧ Bkn (fun k => w.heap.size ≤ k ∧ k < Y.heap.size) (.mk ⟨k2, o2, ty2, n2, f2, x2, p2⟩ am2 cm2 ks2) ∧ (∃ a c, Rdr Y b G ts fa fe d a c) ∧ Mv w Y (fun k => k = b) := by
  obtain ⟨Y, eY, hY1, hY2, hY3, hY4⟩ := fin8 h.Z (.int .u8 k2) (.int .u8 o2) (.int .u8 ty2) (.int .i64 n2) (.int .u8 f2) (.string x2) (.slice am2 ks2.length cm2) (.int .i64 p2)
  refine ⟨h.Z, Y, eY, hY1, hl.bkn hk fun j hj => hY3 j (by omega), hk.mono fun j hj => by omega, ?_, hY4 _ _ h.M (Nat.le_refl _)⟩
  obtain ⟨a, c, hr⟩ := h.R
  exact ⟨a, c, hr.blk (hY3 _ (by omega)) (hY3 _ (by omega)) (by omega)⟩
theorem gHas_sub (ts : List Tk) : ∀ t q, gHas ts = .ok (t, q) → ∀ x ∈ q, x ∈ ts := by
  intro t q h x hx
  unfold gHas at h
  obtain ⟨⟨_, r1⟩, h1, h2⟩ := bind_ok h
  obtain ⟨_, h3, h4⟩ := bind_ok h2
  obtain ⟨_, h5, h6⟩ := bind_ok h4
  obtain ⟨⟨_, r2⟩, h7, h8⟩ := bind_ok h6
  cases h8
  exact gStep_sub h1 _ (gStep_sub h7 _ hx)
set_option maxRecDepth 100000 in
set_option maxHeartbeats 8000000 in
theorem one_has (ex : List Tk → Except Ft (Tr × List Tk)) (hS : Subs ex) {w : World} {b G : Nat} {t : Tk} {ts : List Tk} {fa : Int} {fe : Value} {d : Nat} {a : Option Addr} {c : Nat} (h : Rdr w b G (t :: ts) fa fe d a c) (hT : ∀ x ∈ t :: ts, RgT x) (hd : d < 1000) (e1 : (t.x.toList == [40]) = false) (e2 : (t.x.toList == [104, 97, 115]) = true)
    (cE : d < 24 → ∀ v ts a c, Rdr v b G ts fa fe (d + 1) a c → (∀ t ∈ ts, RgT t) → Calls Tryz.prog 20 #[.pointer (some ⟨b, 0, none⟩)] v (OutN b G fa fe (d + 1) v (ex ts))) :
    Calls Tryz.prog 118 #[.pointer (some ⟨b, 0, none⟩)] w (OutN b G fa fe d w (gHas (t :: ts))) := by
  have hb0 := below_new w (.cells #[.int .u8 0, .int .u8 0, .int .u8 0, .int .i64 0, .int .u8 0, .string ⟨#[]⟩, .slice none 0 0, .int .i64 0] 52)
  have h0 := h.on hb0
  have HBL : Hid (b < w.heap.size) := h.lt
  have HGL : Hid (G < w.heap.size) := h.gl
  have HTT : Hid (∀ x ∈ t :: ts, RgT x) := hT
  have X0 : BX w b G fa fe d (w.alloc (.cells #[.int .u8 0, .int .u8 0, .int .u8 0, .int .i64 0, .int .u8 0, .string ⟨#[]⟩, .slice none 0 0, .int .i64 0] 52)) [] (t :: ts) := ⟨Mv.ofBelow hb0, heap_new _ _, fun p hp => by simp at hp, ⟨a, c, h0⟩, hT⟩
  have X0 := X0.hid
  have cL := look_ok h0
  clear h hb0 h0 hT
  obtain ⟨O, eO⟩ : ∃ O, gHas (t :: ts) = O := ⟨_, rfl⟩
  have HSR : Hid (∀ t' q, O = .ok (t', q) → ∀ x ∈ q, x ∈ t :: ts) := fun t' q e => gHas_sub (t :: ts) t' q (eO.trans e)
  have cC : ∀ v a c, Rdr v b G (t :: ts) fa fe d a c → Calls Tryz.prog 120 #[.pointer (some ⟨b, 0, none⟩)] v (OutN b G fa fe d v O) := fun v a c h => by rw [← eO]; exact has_any h HTT.out
  rw [eO]
  clear eO
  cases O with
  | error f =>
    go_enter Tryz.func118, Tryz.ntmps118
    go_wp2_with fail
    refine cL.mono ?_
    rintro e w1 ⟨rfl, hb1⟩
    have X1 := (X0.out.on HBL.out hb1).on HBL.out (below_new w1 (.cells #[.int .u8 t.k, .string t.x, .int .u8 t.ty, .int .i64 t.n, .int .i64 t.p] 33))
    have HK1 : Hid ((w1.alloc (.cells #[.int .u8 t.k, .string t.x, .int .u8 t.ty, .int .i64 t.n, .int .i64 t.p] 33)).heap[w1.heap.size]? = some (.cells #[.int .u8 t.k, .string t.x, .int .u8 t.ty, .int .i64 t.n, .int .i64 t.p] 33 (0, 0))) := heap_new _ _
    obtain ⟨Tb, eTb⟩ : ∃ T, w1.heap.size = T := ⟨_, rfl⟩
    obtain ⟨V1, eV1⟩ : ∃ V, w1.alloc (.cells #[.int .u8 t.k, .string t.x, .int .u8 t.ty, .int .i64 t.n, .int .i64 t.p] 33) = V := ⟨_, rfl⟩
    have HV1 : Hid (w1.alloc (.cells #[.int .u8 t.k, .string t.x, .int .u8 t.ty, .int .i64 t.n, .int .i64 t.p] 33) = V1) := eV1
    have HTb : Hid (w.heap.size < Tb) := by rw [← eTb]; exact Nat.lt_of_lt_of_le (Array.getElem?_eq_some_iff.1 X0.out.Z).1 hb1.size
    rw [eV1] at X1 HK1
    rw [eTb] at HK1
    have X1 := X1.hid
    have t0 : V1.cell? ⟨Tb, 0, none⟩ = some (.int .u8 t.k) := cell_of HK1.out 0
    have t1 : V1.cell? ⟨Tb, 1, none⟩ = some (.string t.x) := cell_of HK1.out 1
    have t2 : V1.cell? ⟨Tb, 2, none⟩ = some (.int .u8 t.ty) := cell_of HK1.out 2
    have t3 : V1.cell? ⟨Tb, 3, none⟩ = some (.int .i64 t.n) := cell_of HK1.out 3
    have t4 : V1.cell? ⟨Tb, 4, none⟩ = some (.int .i64 t.p) := cell_of HK1.out 4
    have cx1 : (w1.alloc (.cells #[.int .u8 t.k, .string t.x, .int .u8 t.ty, .int .i64 t.n, .int .i64 t.p] 33)).cell? ⟨Tb, 1, none⟩ = some (.string t.x) := by rw [eV1]; exact t1
    clear cL hb1 X0 eV1
    unfold tkA
    go_wp2_with fail
    try rw [HV1.out]
    clear HV1 cx1
    obtain ⟨a9, c9, h9⟩ := X1.out.R
    refine (cC V1 a9 c9 h9).mono ?_
    rintro e w2 ⟨rfl, hm⟩
    exact ⟨rfl, rfl, X1.out.M.trans hm (fun k e => .inl e)⟩
  | ok O =>
    obtain ⟨t3x, ts3⟩ := O
    go_enter Tryz.func118, Tryz.ntmps118
    go_wp2_with fail
    refine cL.mono ?_
    rintro e w1 ⟨rfl, hb1⟩
    have X1 := (X0.out.on HBL.out hb1).on HBL.out (below_new w1 (.cells #[.int .u8 t.k, .string t.x, .int .u8 t.ty, .int .i64 t.n, .int .i64 t.p] 33))
    have HK1 : Hid ((w1.alloc (.cells #[.int .u8 t.k, .string t.x, .int .u8 t.ty, .int .i64 t.n, .int .i64 t.p] 33)).heap[w1.heap.size]? = some (.cells #[.int .u8 t.k, .string t.x, .int .u8 t.ty, .int .i64 t.n, .int .i64 t.p] 33 (0, 0))) := heap_new _ _
    obtain ⟨Tb, eTb⟩ : ∃ T, w1.heap.size = T := ⟨_, rfl⟩
    obtain ⟨V1, eV1⟩ : ∃ V, w1.alloc (.cells #[.int .u8 t.k, .string t.x, .int .u8 t.ty, .int .i64 t.n, .int .i64 t.p] 33) = V := ⟨_, rfl⟩
    have HV1 : Hid (w1.alloc (.cells #[.int .u8 t.k, .string t.x, .int .u8 t.ty, .int .i64 t.n, .int .i64 t.p] 33) = V1) := eV1
    have HTb : Hid (w.heap.size < Tb) := by rw [← eTb]; exact Nat.lt_of_lt_of_le (Array.getElem?_eq_some_iff.1 X0.out.Z).1 hb1.size
    rw [eV1] at X1 HK1
    rw [eTb] at HK1
    have X1 := X1.hid
    have t0 : V1.cell? ⟨Tb, 0, none⟩ = some (.int .u8 t.k) := cell_of HK1.out 0
    have t1 : V1.cell? ⟨Tb, 1, none⟩ = some (.string t.x) := cell_of HK1.out 1
    have t2 : V1.cell? ⟨Tb, 2, none⟩ = some (.int .u8 t.ty) := cell_of HK1.out 2
    have t3 : V1.cell? ⟨Tb, 3, none⟩ = some (.int .i64 t.n) := cell_of HK1.out 3
    have t4 : V1.cell? ⟨Tb, 4, none⟩ = some (.int .i64 t.p) := cell_of HK1.out 4
    have cx1 : (w1.alloc (.cells #[.int .u8 t.k, .string t.x, .int .u8 t.ty, .int .i64 t.n, .int .i64 t.p] 33)).cell? ⟨Tb, 1, none⟩ = some (.string t.x) := by rw [eV1]; exact t1
    clear cL hb1 X0 eV1
    unfold tkA
    go_wp2_with fail
    try rw [HV1.out]
    clear HV1 cx1
    obtain ⟨a9, c9, h9⟩ := X1.out.R
    refine (cC V1 a9 c9 h9).mono ?_
    rintro e w2 ⟨⟨m, rfl, rfl, hl, hk⟩, hr, hm⟩
    obtain ⟨⟨k2, o2, ty2, n2, f2, x2, p2⟩, am2, cm2, ks2⟩ := m
    have hsz := (Array.getElem?_eq_some_iff.1 X1.out.Z).1
    have XR := (X1.out.mv HBL.out hm hr (HSR.out _ _ rfl)).hid
    have hk : Bkn (fun k => w.heap.size < k ∧ k < w2.heap.size) (.mk ⟨k2, o2, ty2, n2, f2, x2, p2⟩ am2 cm2 ks2) := hk.mono fun j hj => ⟨by omega, hj.2⟩
    clear hm hr hsz h9 t0 t1 t2 t3 t4 cC
    obtain ⟨hZ, Y, eY, hY1, hY2, hY3, hY4, hY5⟩ := XR.out.ret HBL.out HGL.out hl hk
    have z0 : w2.cell? ⟨w.heap.size, 0, none⟩ = some (.int .u8 0) := cell_of hZ 0
    have q0 : w2.frozen? ⟨w.heap.size, 0, none⟩ = false := frozen_of hZ 0
    have z1 : w2.cell? ⟨w.heap.size, 1, none⟩ = some (.int .u8 0) := cell_of hZ 1
    have q1 : w2.frozen? ⟨w.heap.size, 1, none⟩ = false := frozen_of hZ 1
    have z2 : w2.cell? ⟨w.heap.size, 2, none⟩ = some (.int .u8 0) := cell_of hZ 2
    have q2 : w2.frozen? ⟨w.heap.size, 2, none⟩ = false := frozen_of hZ 2
    have z3 : w2.cell? ⟨w.heap.size, 3, none⟩ = some (.int .i64 0) := cell_of hZ 3
    have q3 : w2.frozen? ⟨w.heap.size, 3, none⟩ = false := frozen_of hZ 3
    have z4 : w2.cell? ⟨w.heap.size, 4, none⟩ = some (.int .u8 0) := cell_of hZ 4
    have q4 : w2.frozen? ⟨w.heap.size, 4, none⟩ = false := frozen_of hZ 4
    have z5 : w2.cell? ⟨w.heap.size, 5, none⟩ = some (.string ⟨#[]⟩) := cell_of hZ 5
    have q5 : w2.frozen? ⟨w.heap.size, 5, none⟩ = false := frozen_of hZ 5
    have z6 : w2.cell? ⟨w.heap.size, 6, none⟩ = some (.slice none 0 0) := cell_of hZ 6
    have q6 : w2.frozen? ⟨w.heap.size, 6, none⟩ = false := frozen_of hZ 6
    have z7 : w2.cell? ⟨w.heap.size, 7, none⟩ = some (.int .i64 0) := cell_of hZ 7
    have q7 : w2.frozen? ⟨w.heap.size, 7, none⟩ = false := frozen_of hZ 7
    have HEY : Hid (_ = Y) := eY
    have HY1 : Hid (_) := hY1
    have HYY : Hid (_) := (⟨hY2, hY3, hY4, hY5⟩ : _ ∧ _ ∧ _ ∧ _)
    clear eY hY1 hY2 hY3 hY4 hY5 hZ hl hk
    simp only [Nd.vals, Nd.h, Nd.a, Nd.c, Nd.ks, hdA]
    go_wp2_with fail
    rw [HEY.out]
    exact bodyPost_ret (results_cell_row rfl _ _ w.heap.size 52 (Nd.mk ⟨k2, o2, ty2, n2, f2, x2, p2⟩ am2 cm2 ks2).vals (0, 0) _ rfl HY1.out Tryz.underlying52 rfl (by kernel_rfl)) rfl ⟨⟨_, rfl, rfl, HYY.out.1, HYY.out.2.1⟩, HYY.out.2.2.1, HYY.out.2.2.2⟩
end Go.Proofs.YtkfabnchhjfjjabGreatDoor

/-
  one: what stands by itself: a call; a conversion
-/
namespace Go.Proofs.YtkfabnchhjfjjabGreatDoor
open Go.RowKit
set_option linter.unusedVariables false
theorem gCallM_sub {ex : List Tk → Except Ft (Tr × List Tk)} (he : Subs ex) (q p : Int) (ts : List Tk) : ∀ t r, gCallM ex q p ts = .ok (t, r) → ∀ x ∈ r, x ∈ ts := by
  intro t r h x hx
  unfold gCallM at h
  cases h1 : gTake (gB [40]) ts with
  | error e => rw [h1] at h; cases h
  | ok q1 =>
    rw [h1] at h
    simp only at h
    by_cases hq : q = 3
    · rw [if_pos hq] at h
      cases h2 : gIn (ex q1.2) with
      | error e => rw [h2] at h; cases h
      | ok q2 =>
        rw [h2] at h
        simp only at h
        cases h
        exact gTake_sub h1 _ (gIn_sub (fun t q e => he q1.2 t q e) q2.1 q2.2 h2 x hx)
    · rw [if_neg hq] at h
      cases h2 : ex q1.2 with
      | error e => rw [h2] at h; cases h
      | ok q2 =>
        rw [h2] at h
        simp only at h
        cases h3 : gTake (gB [44]) q2.2 with
        | error e => rw [h3] at h; cases h
        | ok q3 =>
          rw [h3] at h
          simp only at h
          cases h4 : gIn (ex q3.2) with
          | error e => rw [h4] at h; cases h
          | ok q4 =>
            rw [h4] at h
            simp only at h
            cases h
            exact gTake_sub h1 _ (he _ _ _ h2 _ (gTake_sub h3 _ (gIn_sub (fun t q e => he q3.2 t q e) q4.1 q4.2 h4 x hx)))
theorem gCall_sub {ex : List Tk → Except Ft (Tr × List Tk)} (he : Subs ex) (d : Nat) (ts : List Tk) : ∀ t r, gCall ex d ts = .ok (t, r) → ∀ x ∈ r, x ∈ ts := by
  intro t r h x hx
  unfold gCall at h
  cases h1 : gOpn d ts with
  | error e => rw [h1] at h; cases h
  | ok q1 =>
    rw [h1] at h
    exact gOpn_sub h1 _ (gCallM_sub he _ _ _ t r h x hx)
theorem gConv_sub {ex : List Tk → Except Ft (Tr × List Tk)} (he : Subs ex) (d : Nat) (ts : List Tk) : ∀ t r, gConv ex d ts = .ok (t, r) → ∀ x ∈ r, x ∈ ts := by
  intro t r h x hx
  unfold gConv at h
  cases h1 : gOpn d ts with
  | error e => rw [h1] at h; cases h
  | ok q1 =>
    rw [h1] at h
    simp only at h
    cases h2 : gTake (gB [40]) q1.2 with
    | error e => rw [h2] at h; cases h
    | ok q2 =>
      rw [h2] at h
      simp only at h
      cases h3 : gIn (ex q2.2) with
      | error e => rw [h3] at h; cases h
      | ok q3 =>
        rw [h3] at h
        simp only at h
        cases h
        exact gOpn_sub h1 _ (gTake_sub h2 _ (gIn_sub (fun t q e => he q2.2 t q e) q3.1 q3.2 h3 x hx))
set_option maxRecDepth 100000 in
set_option maxHeartbeats 8000000 in
theorem one_call (ex : List Tk → Except Ft (Tr × List Tk)) (hS : Subs ex) {w : World} {b G : Nat} {t : Tk} {ts : List Tk} {fa : Int} {fe : Value} {d : Nat} {a : Option Addr} {c : Nat} (h : Rdr w b G (t :: ts) fa fe d a c) (hT : ∀ x ∈ t :: ts, RgT x) (hd : d < 1000) (e1 : (t.x.toList == [40]) = false) (e2 : (t.x.toList == [104, 97, 115]) = false) (e3 : callX t.x ≠ 0)
    (cE : d < 24 → ∀ v ts a c, Rdr v b G ts fa fe (d + 1) a c → (∀ t ∈ ts, RgT t) → Calls Tryz.prog 20 #[.pointer (some ⟨b, 0, none⟩)] v (OutN b G fa fe (d + 1) v (ex ts))) :
    Calls Tryz.prog 118 #[.pointer (some ⟨b, 0, none⟩)] w (OutN b G fa fe d w (gCall ex d (t :: ts))) := by
  have hb0 := below_new w (.cells #[.int .u8 0, .int .u8 0, .int .u8 0, .int .i64 0, .int .u8 0, .string ⟨#[]⟩, .slice none 0 0, .int .i64 0] 52)
  have h0 := h.on hb0
  have HBL : Hid (b < w.heap.size) := h.lt
  have HGL : Hid (G < w.heap.size) := h.gl
  have HTT : Hid (∀ x ∈ t :: ts, RgT x) := hT
  have X0 : BX w b G fa fe d (w.alloc (.cells #[.int .u8 0, .int .u8 0, .int .u8 0, .int .i64 0, .int .u8 0, .string ⟨#[]⟩, .slice none 0 0, .int .i64 0] 52)) [] (t :: ts) := ⟨Mv.ofBelow hb0, heap_new _ _, fun p hp => by simp at hp, ⟨a, c, h0⟩, hT⟩
  have X0 := X0.hid
  have cL := look_ok h0
  clear h hb0 h0 hT
  have n3 : (callX t.x != 0) = true := bne_iff_ne.2 e3
  obtain ⟨O, eO⟩ : ∃ O, gCall ex d (t :: ts) = O := ⟨_, rfl⟩
  have HSR : Hid (∀ t' q, O = .ok (t', q) → ∀ x ∈ q, x ∈ t :: ts) := fun t' q e => gCall_sub hS d (t :: ts) t' q (eO.trans e)
  have cC : ∀ v a c, Rdr v b G (t :: ts) fa fe d a c → Calls Tryz.prog 122 #[.pointer (some ⟨b, 0, none⟩)] v (OutN b G fa fe d v O) := fun v a c h => by rw [← eO]; exact call_any ex hS h HTT.out hd cE
  rw [eO]
  clear eO
  cases O with
  | error f =>
    go_enter Tryz.func118, Tryz.ntmps118
    go_wp2_with fail
    refine cL.mono ?_
    rintro e w1 ⟨rfl, hb1⟩
    have X1 := (X0.out.on HBL.out hb1).on HBL.out (below_new w1 (.cells #[.int .u8 t.k, .string t.x, .int .u8 t.ty, .int .i64 t.n, .int .i64 t.p] 33))
    have HK1 : Hid ((w1.alloc (.cells #[.int .u8 t.k, .string t.x, .int .u8 t.ty, .int .i64 t.n, .int .i64 t.p] 33)).heap[w1.heap.size]? = some (.cells #[.int .u8 t.k, .string t.x, .int .u8 t.ty, .int .i64 t.n, .int .i64 t.p] 33 (0, 0))) := heap_new _ _
    obtain ⟨Tb, eTb⟩ : ∃ T, w1.heap.size = T := ⟨_, rfl⟩
    obtain ⟨V1, eV1⟩ : ∃ V, w1.alloc (.cells #[.int .u8 t.k, .string t.x, .int .u8 t.ty, .int .i64 t.n, .int .i64 t.p] 33) = V := ⟨_, rfl⟩
    have HV1 : Hid (w1.alloc (.cells #[.int .u8 t.k, .string t.x, .int .u8 t.ty, .int .i64 t.n, .int .i64 t.p] 33) = V1) := eV1
    have HTb : Hid (w.heap.size < Tb) := by rw [← eTb]; exact Nat.lt_of_lt_of_le (Array.getElem?_eq_some_iff.1 X0.out.Z).1 hb1.size
    rw [eV1] at X1 HK1
    rw [eTb] at HK1
    have X1 := X1.hid
    have t0 : V1.cell? ⟨Tb, 0, none⟩ = some (.int .u8 t.k) := cell_of HK1.out 0
    have t1 : V1.cell? ⟨Tb, 1, none⟩ = some (.string t.x) := cell_of HK1.out 1
    have t2 : V1.cell? ⟨Tb, 2, none⟩ = some (.int .u8 t.ty) := cell_of HK1.out 2
    have t3 : V1.cell? ⟨Tb, 3, none⟩ = some (.int .i64 t.n) := cell_of HK1.out 3
    have t4 : V1.cell? ⟨Tb, 4, none⟩ = some (.int .i64 t.p) := cell_of HK1.out 4
    have cx1 : (w1.alloc (.cells #[.int .u8 t.k, .string t.x, .int .u8 t.ty, .int .i64 t.n, .int .i64 t.p] 33)).cell? ⟨Tb, 1, none⟩ = some (.string t.x) := by rw [eV1]; exact t1
    clear cL hb1 X0 eV1
    unfold tkA
    go_wp2_with fail
    try rw [HV1.out]
    clear HV1 cx1
    refine (callOf_any t _).mono ?_
    rintro e V2 ⟨rfl, hb2⟩
    have X2 := (X1.out.on HBL.out hb2).hid
    have HK2 : Hid (V2.heap[Tb]? = some (.cells #[.int .u8 t.k, .string t.x, .int .u8 t.ty, .int .i64 t.n, .int .i64 t.p] 33 (0, 0))) := (hb2.block _ (Array.getElem?_eq_some_iff.1 HK1.out).1).trans HK1.out
    clear t0 t1 t2 t3 t4 hb2
    have t0 : V2.cell? ⟨Tb, 0, none⟩ = some (.int .u8 t.k) := cell_of HK2.out 0
    have t1 : V2.cell? ⟨Tb, 1, none⟩ = some (.string t.x) := cell_of HK2.out 1
    have t2 : V2.cell? ⟨Tb, 2, none⟩ = some (.int .u8 t.ty) := cell_of HK2.out 2
    have t3 : V2.cell? ⟨Tb, 3, none⟩ = some (.int .i64 t.n) := cell_of HK2.out 3
    have t4 : V2.cell? ⟨Tb, 4, none⟩ = some (.int .i64 t.p) := cell_of HK2.out 4
    go_wp2_with fail
    obtain ⟨a9, c9, h9⟩ := X2.out.R
    refine (cC V2 a9 c9 h9).mono ?_
    rintro e w2 ⟨rfl, hm⟩
    exact ⟨rfl, rfl, X2.out.M.trans hm (fun k e => .inl e)⟩
  | ok O =>
    obtain ⟨t3x, ts3⟩ := O
    go_enter Tryz.func118, Tryz.ntmps118
    go_wp2_with fail
    refine cL.mono ?_
    rintro e w1 ⟨rfl, hb1⟩
    have X1 := (X0.out.on HBL.out hb1).on HBL.out (below_new w1 (.cells #[.int .u8 t.k, .string t.x, .int .u8 t.ty, .int .i64 t.n, .int .i64 t.p] 33))
    have HK1 : Hid ((w1.alloc (.cells #[.int .u8 t.k, .string t.x, .int .u8 t.ty, .int .i64 t.n, .int .i64 t.p] 33)).heap[w1.heap.size]? = some (.cells #[.int .u8 t.k, .string t.x, .int .u8 t.ty, .int .i64 t.n, .int .i64 t.p] 33 (0, 0))) := heap_new _ _
    obtain ⟨Tb, eTb⟩ : ∃ T, w1.heap.size = T := ⟨_, rfl⟩
    obtain ⟨V1, eV1⟩ : ∃ V, w1.alloc (.cells #[.int .u8 t.k, .string t.x, .int .u8 t.ty, .int .i64 t.n, .int .i64 t.p] 33) = V := ⟨_, rfl⟩
    have HV1 : Hid (w1.alloc (.cells #[.int .u8 t.k, .string t.x, .int .u8 t.ty, .int .i64 t.n, .int .i64 t.p] 33) = V1) := eV1
    have HTb : Hid (w.heap.size < Tb) := by rw [← eTb]; exact Nat.lt_of_lt_of_le (Array.getElem?_eq_some_iff.1 X0.out.Z).1 hb1.size
    rw [eV1] at X1 HK1
    rw [eTb] at HK1
    have X1 := X1.hid
    have t0 : V1.cell? ⟨Tb, 0, none⟩ = some (.int .u8 t.k) := cell_of HK1.out 0
    have t1 : V1.cell? ⟨Tb, 1, none⟩ = some (.string t.x) := cell_of HK1.out 1
    have t2 : V1.cell? ⟨Tb, 2, none⟩ = some (.int .u8 t.ty) := cell_of HK1.out 2
    have t3 : V1.cell? ⟨Tb, 3, none⟩ = some (.int .i64 t.n) := cell_of HK1.out 3
    have t4 : V1.cell? ⟨Tb, 4, none⟩ = some (.int .i64 t.p) := cell_of HK1.out 4
    have cx1 : (w1.alloc (.cells #[.int .u8 t.k, .string t.x, .int .u8 t.ty, .int .i64 t.n, .int .i64 t.p] 33)).cell? ⟨Tb, 1, none⟩ = some (.string t.x) := by rw [eV1]; exact t1
    clear cL hb1 X0 eV1
    unfold tkA
    go_wp2_with fail
    try rw [HV1.out]
    clear HV1 cx1
    refine (callOf_any t _).mono ?_
    rintro e V2 ⟨rfl, hb2⟩
    have X2 := (X1.out.on HBL.out hb2).hid
    have HK2 : Hid (V2.heap[Tb]? = some (.cells #[.int .u8 t.k, .string t.x, .int .u8 t.ty, .int .i64 t.n, .int .i64 t.p] 33 (0, 0))) := (hb2.block _ (Array.getElem?_eq_some_iff.1 HK1.out).1).trans HK1.out
    clear t0 t1 t2 t3 t4 hb2
    have t0 : V2.cell? ⟨Tb, 0, none⟩ = some (.int .u8 t.k) := cell_of HK2.out 0
    have t1 : V2.cell? ⟨Tb, 1, none⟩ = some (.string t.x) := cell_of HK2.out 1
    have t2 : V2.cell? ⟨Tb, 2, none⟩ = some (.int .u8 t.ty) := cell_of HK2.out 2
    have t3 : V2.cell? ⟨Tb, 3, none⟩ = some (.int .i64 t.n) := cell_of HK2.out 3
    have t4 : V2.cell? ⟨Tb, 4, none⟩ = some (.int .i64 t.p) := cell_of HK2.out 4
    go_wp2_with fail
    obtain ⟨a9, c9, h9⟩ := X2.out.R
    refine (cC V2 a9 c9 h9).mono ?_
    rintro e w2 ⟨⟨m, rfl, rfl, hl, hk⟩, hr, hm⟩
    obtain ⟨⟨k2, o2, ty2, n2, f2, x2, p2⟩, am2, cm2, ks2⟩ := m
    have hsz := (Array.getElem?_eq_some_iff.1 X2.out.Z).1
    have XR := (X2.out.mv HBL.out hm hr (HSR.out _ _ rfl)).hid
    have hk : Bkn (fun k => w.heap.size < k ∧ k < w2.heap.size) (.mk ⟨k2, o2, ty2, n2, f2, x2, p2⟩ am2 cm2 ks2) := hk.mono fun j hj => ⟨by omega, hj.2⟩
    clear hm hr hsz h9 t0 t1 t2 t3 t4 cC
    obtain ⟨hZ, Y, eY, hY1, hY2, hY3, hY4, hY5⟩ := XR.out.ret HBL.out HGL.out hl hk
    have z0 : w2.cell? ⟨w.heap.size, 0, none⟩ = some (.int .u8 0) := cell_of hZ 0
    have q0 : w2.frozen? ⟨w.heap.size, 0, none⟩ = false := frozen_of hZ 0
    have z1 : w2.cell? ⟨w.heap.size, 1, none⟩ = some (.int .u8 0) := cell_of hZ 1
    have q1 : w2.frozen? ⟨w.heap.size, 1, none⟩ = false := frozen_of hZ 1
    have z2 : w2.cell? ⟨w.heap.size, 2, none⟩ = some (.int .u8 0) := cell_of hZ 2
    have q2 : w2.frozen? ⟨w.heap.size, 2, none⟩ = false := frozen_of hZ 2
    have z3 : w2.cell? ⟨w.heap.size, 3, none⟩ = some (.int .i64 0) := cell_of hZ 3
    have q3 : w2.frozen? ⟨w.heap.size, 3, none⟩ = false := frozen_of hZ 3
    have z4 : w2.cell? ⟨w.heap.size, 4, none⟩ = some (.int .u8 0) := cell_of hZ 4
    have q4 : w2.frozen? ⟨w.heap.size, 4, none⟩ = false := frozen_of hZ 4
    have z5 : w2.cell? ⟨w.heap.size, 5, none⟩ = some (.string ⟨#[]⟩) := cell_of hZ 5
    have q5 : w2.frozen? ⟨w.heap.size, 5, none⟩ = false := frozen_of hZ 5
    have z6 : w2.cell? ⟨w.heap.size, 6, none⟩ = some (.slice none 0 0) := cell_of hZ 6
    have q6 : w2.frozen? ⟨w.heap.size, 6, none⟩ = false := frozen_of hZ 6
    have z7 : w2.cell? ⟨w.heap.size, 7, none⟩ = some (.int .i64 0) := cell_of hZ 7
    have q7 : w2.frozen? ⟨w.heap.size, 7, none⟩ = false := frozen_of hZ 7
    have HEY : Hid (_ = Y) := eY
    have HY1 : Hid (_) := hY1
    have HYY : Hid (_) := (⟨hY2, hY3, hY4, hY5⟩ : _ ∧ _ ∧ _ ∧ _)
    clear eY hY1 hY2 hY3 hY4 hY5 hZ hl hk
    simp only [Nd.vals, Nd.h, Nd.a, Nd.c, Nd.ks, hdA]
    go_wp2_with fail
    rw [HEY.out]
    exact bodyPost_ret (results_cell_row rfl _ _ w.heap.size 52 (Nd.mk ⟨k2, o2, ty2, n2, f2, x2, p2⟩ am2 cm2 ks2).vals (0, 0) _ rfl HY1.out Tryz.underlying52 rfl (by kernel_rfl)) rfl ⟨⟨_, rfl, rfl, HYY.out.1, HYY.out.2.1⟩, HYY.out.2.2.1, HYY.out.2.2.2⟩
set_option maxRecDepth 100000 in
set_option maxHeartbeats 8000000 in
theorem one_conv (ex : List Tk → Except Ft (Tr × List Tk)) (hS : Subs ex) {w : World} {b G : Nat} {t : Tk} {ts : List Tk} {fa : Int} {fe : Value} {d : Nat} {a : Option Addr} {c : Nat} (h : Rdr w b G (t :: ts) fa fe d a c) (hT : ∀ x ∈ t :: ts, RgT x) (hd : d < 1000) (e1 : (t.x.toList == [40]) = false) (e2 : (t.x.toList == [104, 97, 115]) = false) (e3 : callX t.x = 0) (e4 : 1 ≤ tyX t.x ∧ tyX t.x ≤ 4)
    (cE : d < 24 → ∀ v ts a c, Rdr v b G ts fa fe (d + 1) a c → (∀ t ∈ ts, RgT t) → Calls Tryz.prog 20 #[.pointer (some ⟨b, 0, none⟩)] v (OutN b G fa fe (d + 1) v (ex ts))) :
    Calls Tryz.prog 118 #[.pointer (some ⟨b, 0, none⟩)] w (OutN b G fa fe d w (gConv ex d (t :: ts))) := by
  have hb0 := below_new w (.cells #[.int .u8 0, .int .u8 0, .int .u8 0, .int .i64 0, .int .u8 0, .string ⟨#[]⟩, .slice none 0 0, .int .i64 0] 52)
  have h0 := h.on hb0
  have HBL : Hid (b < w.heap.size) := h.lt
  have HGL : Hid (G < w.heap.size) := h.gl
  have HTT : Hid (∀ x ∈ t :: ts, RgT x) := hT
  have X0 : BX w b G fa fe d (w.alloc (.cells #[.int .u8 0, .int .u8 0, .int .u8 0, .int .i64 0, .int .u8 0, .string ⟨#[]⟩, .slice none 0 0, .int .i64 0] 52)) [] (t :: ts) := ⟨Mv.ofBelow hb0, heap_new _ _, fun p hp => by simp at hp, ⟨a, c, h0⟩, hT⟩
  have X0 := X0.hid
  have cL := look_ok h0
  clear h hb0 h0 hT
  have n3 : (callX t.x != 0) = false := by rw [e3]; rfl
  have n4 : decide (1 ≤ tyX t.x ∧ tyX t.x ≤ 4) = true := decide_eq_true e4
  obtain ⟨O, eO⟩ : ∃ O, gConv ex d (t :: ts) = O := ⟨_, rfl⟩
  have HSR : Hid (∀ t' q, O = .ok (t', q) → ∀ x ∈ q, x ∈ t :: ts) := fun t' q e => gConv_sub hS d (t :: ts) t' q (eO.trans e)
  have cC : ∀ v a c, Rdr v b G (t :: ts) fa fe d a c → Calls Tryz.prog 124 #[.pointer (some ⟨b, 0, none⟩)] v (OutN b G fa fe d v O) := fun v a c h => by rw [← eO]; exact conv_any ex hS h HTT.out hd cE
  rw [eO]
  clear eO
  cases O with
  | error f =>
    go_enter Tryz.func118, Tryz.ntmps118
    go_wp2_with fail
    refine cL.mono ?_
    rintro e w1 ⟨rfl, hb1⟩
    have X1 := (X0.out.on HBL.out hb1).on HBL.out (below_new w1 (.cells #[.int .u8 t.k, .string t.x, .int .u8 t.ty, .int .i64 t.n, .int .i64 t.p] 33))
    have HK1 : Hid ((w1.alloc (.cells #[.int .u8 t.k, .string t.x, .int .u8 t.ty, .int .i64 t.n, .int .i64 t.p] 33)).heap[w1.heap.size]? = some (.cells #[.int .u8 t.k, .string t.x, .int .u8 t.ty, .int .i64 t.n, .int .i64 t.p] 33 (0, 0))) := heap_new _ _
    obtain ⟨Tb, eTb⟩ : ∃ T, w1.heap.size = T := ⟨_, rfl⟩
    obtain ⟨V1, eV1⟩ : ∃ V, w1.alloc (.cells #[.int .u8 t.k, .string t.x, .int .u8 t.ty, .int .i64 t.n, .int .i64 t.p] 33) = V := ⟨_, rfl⟩
    have HV1 : Hid (w1.alloc (.cells #[.int .u8 t.k, .string t.x, .int .u8 t.ty, .int .i64 t.n, .int .i64 t.p] 33) = V1) := eV1
    have HTb : Hid (w.heap.size < Tb) := by rw [← eTb]; exact Nat.lt_of_lt_of_le (Array.getElem?_eq_some_iff.1 X0.out.Z).1 hb1.size
    rw [eV1] at X1 HK1
    rw [eTb] at HK1
    have X1 := X1.hid
    have t0 : V1.cell? ⟨Tb, 0, none⟩ = some (.int .u8 t.k) := cell_of HK1.out 0
    have t1 : V1.cell? ⟨Tb, 1, none⟩ = some (.string t.x) := cell_of HK1.out 1
    have t2 : V1.cell? ⟨Tb, 2, none⟩ = some (.int .u8 t.ty) := cell_of HK1.out 2
    have t3 : V1.cell? ⟨Tb, 3, none⟩ = some (.int .i64 t.n) := cell_of HK1.out 3
    have t4 : V1.cell? ⟨Tb, 4, none⟩ = some (.int .i64 t.p) := cell_of HK1.out 4
    have cx1 : (w1.alloc (.cells #[.int .u8 t.k, .string t.x, .int .u8 t.ty, .int .i64 t.n, .int .i64 t.p] 33)).cell? ⟨Tb, 1, none⟩ = some (.string t.x) := by rw [eV1]; exact t1
    clear cL hb1 X0 eV1
    unfold tkA
    go_wp2_with fail
    try rw [HV1.out]
    clear HV1 cx1
    refine (callOf_any t _).mono ?_
    rintro e V2 ⟨rfl, hb2⟩
    have X2 := (X1.out.on HBL.out hb2).hid
    have HK2 : Hid (V2.heap[Tb]? = some (.cells #[.int .u8 t.k, .string t.x, .int .u8 t.ty, .int .i64 t.n, .int .i64 t.p] 33 (0, 0))) := (hb2.block _ (Array.getElem?_eq_some_iff.1 HK1.out).1).trans HK1.out
    clear t0 t1 t2 t3 t4 hb2
    have t0 : V2.cell? ⟨Tb, 0, none⟩ = some (.int .u8 t.k) := cell_of HK2.out 0
    have t1 : V2.cell? ⟨Tb, 1, none⟩ = some (.string t.x) := cell_of HK2.out 1
    have t2 : V2.cell? ⟨Tb, 2, none⟩ = some (.int .u8 t.ty) := cell_of HK2.out 2
    have t3 : V2.cell? ⟨Tb, 3, none⟩ = some (.int .i64 t.n) := cell_of HK2.out 3
    have t4 : V2.cell? ⟨Tb, 4, none⟩ = some (.int .i64 t.p) := cell_of HK2.out 4
    go_wp2_with fail
    refine (typeOf_any t _).mono ?_
    rintro e V3 ⟨rfl, hb3⟩
    have X3 := (X2.out.on HBL.out hb3).hid
    have HK3 : Hid (V3.heap[Tb]? = some (.cells #[.int .u8 t.k, .string t.x, .int .u8 t.ty, .int .i64 t.n, .int .i64 t.p] 33 (0, 0))) := (hb3.block _ (Array.getElem?_eq_some_iff.1 HK2.out).1).trans HK2.out
    clear t0 t1 t2 t3 t4 hb3
    have t0 : V3.cell? ⟨Tb, 0, none⟩ = some (.int .u8 t.k) := cell_of HK3.out 0
    have t1 : V3.cell? ⟨Tb, 1, none⟩ = some (.string t.x) := cell_of HK3.out 1
    have t2 : V3.cell? ⟨Tb, 2, none⟩ = some (.int .u8 t.ty) := cell_of HK3.out 2
    have t3 : V3.cell? ⟨Tb, 3, none⟩ = some (.int .i64 t.n) := cell_of HK3.out 3
    have t4 : V3.cell? ⟨Tb, 4, none⟩ = some (.int .i64 t.p) := cell_of HK3.out 4
    go_wp2_with fail
    refine (number_any (tyX t.x) _).mono ?_
    rintro e V9 ⟨rfl, hV9⟩
    rw [hV9]
    clear hV9
    go_wp2_with fail
    obtain ⟨a9, c9, h9⟩ := X3.out.R
    refine (cC V3 a9 c9 h9).mono ?_
    rintro e w2 ⟨rfl, hm⟩
    exact ⟨rfl, rfl, X3.out.M.trans hm (fun k e => .inl e)⟩
  | ok O =>
    obtain ⟨t3x, ts3⟩ := O
    go_enter Tryz.func118, Tryz.ntmps118
    go_wp2_with fail
    refine cL.mono ?_
    rintro e w1 ⟨rfl, hb1⟩
    have X1 := (X0.out.on HBL.out hb1).on HBL.out (below_new w1 (.cells #[.int .u8 t.k, .string t.x, .int .u8 t.ty, .int .i64 t.n, .int .i64 t.p] 33))
    have HK1 : Hid ((w1.alloc (.cells #[.int .u8 t.k, .string t.x, .int .u8 t.ty, .int .i64 t.n, .int .i64 t.p] 33)).heap[w1.heap.size]? = some (.cells #[.int .u8 t.k, .string t.x, .int .u8 t.ty, .int .i64 t.n, .int .i64 t.p] 33 (0, 0))) := heap_new _ _
    obtain ⟨Tb, eTb⟩ : ∃ T, w1.heap.size = T := ⟨_, rfl⟩
    obtain ⟨V1, eV1⟩ : ∃ V, w1.alloc (.cells #[.int .u8 t.k, .string t.x, .int .u8 t.ty, .int .i64 t.n, .int .i64 t.p] 33) = V := ⟨_, rfl⟩
    have HV1 : Hid (w1.alloc (.cells #[.int .u8 t.k, .string t.x, .int .u8 t.ty, .int .i64 t.n, .int .i64 t.p] 33) = V1) := eV1
    have HTb : Hid (w.heap.size < Tb) := by rw [← eTb]; exact Nat.lt_of_lt_of_le (Array.getElem?_eq_some_iff.1 X0.out.Z).1 hb1.size
    rw [eV1] at X1 HK1
    rw [eTb] at HK1
    have X1 := X1.hid
    have t0 : V1.cell? ⟨Tb, 0, none⟩ = some (.int .u8 t.k) := cell_of HK1.out 0
    have t1 : V1.cell? ⟨Tb, 1, none⟩ = some (.string t.x) := cell_of HK1.out 1
    have t2 : V1.cell? ⟨Tb, 2, none⟩ = some (.int .u8 t.ty) := cell_of HK1.out 2
    have t3 : V1.cell? ⟨Tb, 3, none⟩ = some (.int .i64 t.n) := cell_of HK1.out 3
    have t4 : V1.cell? ⟨Tb, 4, none⟩ = some (.int .i64 t.p) := cell_of HK1.out 4
    have cx1 : (w1.alloc (.cells #[.int .u8 t.k, .string t.x, .int .u8 t.ty, .int .i64 t.n, .int .i64 t.p] 33)).cell? ⟨Tb, 1, none⟩ = some (.string t.x) := by rw [eV1]; exact t1
    clear cL hb1 X0 eV1
    unfold tkA
    go_wp2_with fail
    try rw [HV1.out]
    clear HV1 cx1
    refine (callOf_any t _).mono ?_
    rintro e V2 ⟨rfl, hb2⟩
    have X2 := (X1.out.on HBL.out hb2).hid
    have HK2 : Hid (V2.heap[Tb]? = some (.cells #[.int .u8 t.k, .string t.x, .int .u8 t.ty, .int .i64 t.n, .int .i64 t.p] 33 (0, 0))) := (hb2.block _ (Array.getElem?_eq_some_iff.1 HK1.out).1).trans HK1.out
    clear t0 t1 t2 t3 t4 hb2
    have t0 : V2.cell? ⟨Tb, 0, none⟩ = some (.int .u8 t.k) := cell_of HK2.out 0
    have t1 : V2.cell? ⟨Tb, 1, none⟩ = some (.string t.x) := cell_of HK2.out 1
    have t2 : V2.cell? ⟨Tb, 2, none⟩ = some (.int .u8 t.ty) := cell_of HK2.out 2
    have t3 : V2.cell? ⟨Tb, 3, none⟩ = some (.int .i64 t.n) := cell_of HK2.out 3
    have t4 : V2.cell? ⟨Tb, 4, none⟩ = some (.int .i64 t.p) := cell_of HK2.out 4
    go_wp2_with fail
    refine (typeOf_any t _).mono ?_
    rintro e V3 ⟨rfl, hb3⟩
    have X3 := (X2.out.on HBL.out hb3).hid
    have HK3 : Hid (V3.heap[Tb]? = some (.cells #[.int .u8 t.k, .string t.x, .int .u8 t.ty, .int .i64 t.n, .int .i64 t.p] 33 (0, 0))) := (hb3.block _ (Array.getElem?_eq_some_iff.1 HK2.out).1).trans HK2.out
    clear t0 t1 t2 t3 t4 hb3
    have t0 : V3.cell? ⟨Tb, 0, none⟩ = some (.int .u8 t.k) := cell_of HK3.out 0
    have t1 : V3.cell? ⟨Tb, 1, none⟩ = some (.string t.x) := cell_of HK3.out 1
    have t2 : V3.cell? ⟨Tb, 2, none⟩ = some (.int .u8 t.ty) := cell_of HK3.out 2
    have t3 : V3.cell? ⟨Tb, 3, none⟩ = some (.int .i64 t.n) := cell_of HK3.out 3
    have t4 : V3.cell? ⟨Tb, 4, none⟩ = some (.int .i64 t.p) := cell_of HK3.out 4
    go_wp2_with fail
    refine (number_any (tyX t.x) _).mono ?_
    rintro e V9 ⟨rfl, hV9⟩
    rw [hV9]
    clear hV9
    go_wp2_with fail
    obtain ⟨a9, c9, h9⟩ := X3.out.R
    refine (cC V3 a9 c9 h9).mono ?_
    rintro e w2 ⟨⟨m, rfl, rfl, hl, hk⟩, hr, hm⟩
    obtain ⟨⟨k2, o2, ty2, n2, f2, x2, p2⟩, am2, cm2, ks2⟩ := m
    have hsz := (Array.getElem?_eq_some_iff.1 X3.out.Z).1
    have XR := (X3.out.mv HBL.out hm hr (HSR.out _ _ rfl)).hid
    have hk : Bkn (fun k => w.heap.size < k ∧ k < w2.heap.size) (.mk ⟨k2, o2, ty2, n2, f2, x2, p2⟩ am2 cm2 ks2) := hk.mono fun j hj => ⟨by omega, hj.2⟩
    clear hm hr hsz h9 t0 t1 t2 t3 t4 cC
    obtain ⟨hZ, Y, eY, hY1, hY2, hY3, hY4, hY5⟩ := XR.out.ret HBL.out HGL.out hl hk
    have z0 : w2.cell? ⟨w.heap.size, 0, none⟩ = some (.int .u8 0) := cell_of hZ 0
    have q0 : w2.frozen? ⟨w.heap.size, 0, none⟩ = false := frozen_of hZ 0
    have z1 : w2.cell? ⟨w.heap.size, 1, none⟩ = some (.int .u8 0) := cell_of hZ 1
    have q1 : w2.frozen? ⟨w.heap.size, 1, none⟩ = false := frozen_of hZ 1
    have z2 : w2.cell? ⟨w.heap.size, 2, none⟩ = some (.int .u8 0) := cell_of hZ 2
    have q2 : w2.frozen? ⟨w.heap.size, 2, none⟩ = false := frozen_of hZ 2
    have z3 : w2.cell? ⟨w.heap.size, 3, none⟩ = some (.int .i64 0) := cell_of hZ 3
    have q3 : w2.frozen? ⟨w.heap.size, 3, none⟩ = false := frozen_of hZ 3
    have z4 : w2.cell? ⟨w.heap.size, 4, none⟩ = some (.int .u8 0) := cell_of hZ 4
    have q4 : w2.frozen? ⟨w.heap.size, 4, none⟩ = false := frozen_of hZ 4
    have z5 : w2.cell? ⟨w.heap.size, 5, none⟩ = some (.string ⟨#[]⟩) := cell_of hZ 5
    have q5 : w2.frozen? ⟨w.heap.size, 5, none⟩ = false := frozen_of hZ 5
    have z6 : w2.cell? ⟨w.heap.size, 6, none⟩ = some (.slice none 0 0) := cell_of hZ 6
    have q6 : w2.frozen? ⟨w.heap.size, 6, none⟩ = false := frozen_of hZ 6
    have z7 : w2.cell? ⟨w.heap.size, 7, none⟩ = some (.int .i64 0) := cell_of hZ 7
    have q7 : w2.frozen? ⟨w.heap.size, 7, none⟩ = false := frozen_of hZ 7
    have HEY : Hid (_ = Y) := eY
    have HY1 : Hid (_) := hY1
    have HYY : Hid (_) := (⟨hY2, hY3, hY4, hY5⟩ : _ ∧ _ ∧ _ ∧ _)
    clear eY hY1 hY2 hY3 hY4 hY5 hZ hl hk
    simp only [Nd.vals, Nd.h, Nd.a, Nd.c, Nd.ks, hdA]
    go_wp2_with fail
    rw [HEY.out]
    exact bodyPost_ret (results_cell_row rfl _ _ w.heap.size 52 (Nd.mk ⟨k2, o2, ty2, n2, f2, x2, p2⟩ am2 cm2 ks2).vals (0, 0) _ rfl HY1.out Tryz.underlying52 rfl (by kernel_rfl)) rfl ⟨⟨_, rfl, rfl, HYY.out.1, HYY.out.2.1⟩, HYY.out.2.2.1, HYY.out.2.2.2⟩
set_option maxRecDepth 100000 in
set_option maxHeartbeats 8000000 in
theorem one_lit (ex : List Tk → Except Ft (Tr × List Tk)) (hS : Subs ex) {w : World} {b G : Nat} {t : Tk} {ts : List Tk} {fa : Int} {fe : Value} {d : Nat} {a : Option Addr} {c : Nat} (h : Rdr w b G (t :: ts) fa fe d a c) (hT : ∀ x ∈ t :: ts, RgT x) (hd : d < 1000) (e1 : (t.x.toList == [40]) = false) (e2 : (t.x.toList == [104, 97, 115]) = false) (e3 : callX t.x = 0) (e4 : ¬ (1 ≤ tyX t.x ∧ tyX t.x ≤ 4)) (e5 : fieldX t.x = 0) (e6 : t.k ≠ 2)
    (cE : d < 24 → ∀ v ts a c, Rdr v b G ts fa fe (d + 1) a c → (∀ t ∈ ts, RgT t) → Calls Tryz.prog 20 #[.pointer (some ⟨b, 0, none⟩)] v (OutN b G fa fe (d + 1) v (ex ts))) :
    Calls Tryz.prog 118 #[.pointer (some ⟨b, 0, none⟩)] w (OutN b G fa fe d w (gLit (t :: ts))) := by
  have hb0 := below_new w (.cells #[.int .u8 0, .int .u8 0, .int .u8 0, .int .i64 0, .int .u8 0, .string ⟨#[]⟩, .slice none 0 0, .int .i64 0] 52)
  have h0 := h.on hb0
  have HBL : Hid (b < w.heap.size) := h.lt
  have HGL : Hid (G < w.heap.size) := h.gl
  have HTT : Hid (∀ x ∈ t :: ts, RgT x) := hT
  have X0 : BX w b G fa fe d (w.alloc (.cells #[.int .u8 0, .int .u8 0, .int .u8 0, .int .i64 0, .int .u8 0, .string ⟨#[]⟩, .slice none 0 0, .int .i64 0] 52)) [] (t :: ts) := ⟨Mv.ofBelow hb0, heap_new _ _, fun p hp => by simp at hp, ⟨a, c, h0⟩, hT⟩
  have X0 := X0.hid
  have cL := look_ok h0
  clear h hb0 h0 hT
  have n3 : (callX t.x != 0) = false := by rw [e3]; rfl
  have n4 : decide (1 ≤ tyX t.x ∧ tyX t.x ≤ 4) = false := decide_eq_false e4
  have n5 : (fieldX t.x != 0) = false := by rw [e5]; rfl
  have n6 : (t.k == 2) = false := beq_false_of_ne e6
  obtain ⟨O, eO⟩ : ∃ O, gLit (t :: ts) = O := ⟨_, rfl⟩
  have HSR : Hid (∀ t' q, O = .ok (t', q) → ∀ x ∈ q, x ∈ t :: ts) := fun t' q e => gLit_sub (t :: ts) t' q (eO.trans e)
  have cC : ∀ v a c, Rdr v b G (t :: ts) fa fe d a c → Calls Tryz.prog 76 #[.pointer (some ⟨b, 0, none⟩)] v (OutN b G fa fe d v O) := fun v a c h => by rw [← eO]; exact lit_ok h (HTT.out t (by simp))
  rw [eO]
  clear eO
  cases O with
  | error f =>
    go_enter Tryz.func118, Tryz.ntmps118
    go_wp2_with fail
    refine cL.mono ?_
    rintro e w1 ⟨rfl, hb1⟩
    have X1 := (X0.out.on HBL.out hb1).on HBL.out (below_new w1 (.cells #[.int .u8 t.k, .string t.x, .int .u8 t.ty, .int .i64 t.n, .int .i64 t.p] 33))
    have HK1 : Hid ((w1.alloc (.cells #[.int .u8 t.k, .string t.x, .int .u8 t.ty, .int .i64 t.n, .int .i64 t.p] 33)).heap[w1.heap.size]? = some (.cells #[.int .u8 t.k, .string t.x, .int .u8 t.ty, .int .i64 t.n, .int .i64 t.p] 33 (0, 0))) := heap_new _ _
    obtain ⟨Tb, eTb⟩ : ∃ T, w1.heap.size = T := ⟨_, rfl⟩
    obtain ⟨V1, eV1⟩ : ∃ V, w1.alloc (.cells #[.int .u8 t.k, .string t.x, .int .u8 t.ty, .int .i64 t.n, .int .i64 t.p] 33) = V := ⟨_, rfl⟩
    have HV1 : Hid (w1.alloc (.cells #[.int .u8 t.k, .string t.x, .int .u8 t.ty, .int .i64 t.n, .int .i64 t.p] 33) = V1) := eV1
    have HTb : Hid (w.heap.size < Tb) := by rw [← eTb]; exact Nat.lt_of_lt_of_le (Array.getElem?_eq_some_iff.1 X0.out.Z).1 hb1.size
    rw [eV1] at X1 HK1
    rw [eTb] at HK1
    have X1 := X1.hid
    have t0 : V1.cell? ⟨Tb, 0, none⟩ = some (.int .u8 t.k) := cell_of HK1.out 0
    have t1 : V1.cell? ⟨Tb, 1, none⟩ = some (.string t.x) := cell_of HK1.out 1
    have t2 : V1.cell? ⟨Tb, 2, none⟩ = some (.int .u8 t.ty) := cell_of HK1.out 2
    have t3 : V1.cell? ⟨Tb, 3, none⟩ = some (.int .i64 t.n) := cell_of HK1.out 3
    have t4 : V1.cell? ⟨Tb, 4, none⟩ = some (.int .i64 t.p) := cell_of HK1.out 4
    have cx1 : (w1.alloc (.cells #[.int .u8 t.k, .string t.x, .int .u8 t.ty, .int .i64 t.n, .int .i64 t.p] 33)).cell? ⟨Tb, 1, none⟩ = some (.string t.x) := by rw [eV1]; exact t1
    clear cL hb1 X0 eV1
    unfold tkA
    go_wp2_with fail
    try rw [HV1.out]
    clear HV1 cx1
    refine (callOf_any t _).mono ?_
    rintro e V2 ⟨rfl, hb2⟩
    have X2 := (X1.out.on HBL.out hb2).hid
    have HK2 : Hid (V2.heap[Tb]? = some (.cells #[.int .u8 t.k, .string t.x, .int .u8 t.ty, .int .i64 t.n, .int .i64 t.p] 33 (0, 0))) := (hb2.block _ (Array.getElem?_eq_some_iff.1 HK1.out).1).trans HK1.out
    clear t0 t1 t2 t3 t4 hb2
    have t0 : V2.cell? ⟨Tb, 0, none⟩ = some (.int .u8 t.k) := cell_of HK2.out 0
    have t1 : V2.cell? ⟨Tb, 1, none⟩ = some (.string t.x) := cell_of HK2.out 1
    have t2 : V2.cell? ⟨Tb, 2, none⟩ = some (.int .u8 t.ty) := cell_of HK2.out 2
    have t3 : V2.cell? ⟨Tb, 3, none⟩ = some (.int .i64 t.n) := cell_of HK2.out 3
    have t4 : V2.cell? ⟨Tb, 4, none⟩ = some (.int .i64 t.p) := cell_of HK2.out 4
    go_wp2_with fail
    refine (typeOf_any t _).mono ?_
    rintro e V3 ⟨rfl, hb3⟩
    have X3 := (X2.out.on HBL.out hb3).hid
    have HK3 : Hid (V3.heap[Tb]? = some (.cells #[.int .u8 t.k, .string t.x, .int .u8 t.ty, .int .i64 t.n, .int .i64 t.p] 33 (0, 0))) := (hb3.block _ (Array.getElem?_eq_some_iff.1 HK2.out).1).trans HK2.out
    clear t0 t1 t2 t3 t4 hb3
    have t0 : V3.cell? ⟨Tb, 0, none⟩ = some (.int .u8 t.k) := cell_of HK3.out 0
    have t1 : V3.cell? ⟨Tb, 1, none⟩ = some (.string t.x) := cell_of HK3.out 1
    have t2 : V3.cell? ⟨Tb, 2, none⟩ = some (.int .u8 t.ty) := cell_of HK3.out 2
    have t3 : V3.cell? ⟨Tb, 3, none⟩ = some (.int .i64 t.n) := cell_of HK3.out 3
    have t4 : V3.cell? ⟨Tb, 4, none⟩ = some (.int .i64 t.p) := cell_of HK3.out 4
    go_wp2_with fail
    refine (number_any (tyX t.x) _).mono ?_
    rintro e V9 ⟨rfl, hV9⟩
    rw [hV9]
    clear hV9
    go_wp2_with fail
    refine (fieldOf_any t _).mono ?_
    rintro e V4 ⟨rfl, hb4⟩
    have X4 := (X3.out.on HBL.out hb4).hid
    have HK4 : Hid (V4.heap[Tb]? = some (.cells #[.int .u8 t.k, .string t.x, .int .u8 t.ty, .int .i64 t.n, .int .i64 t.p] 33 (0, 0))) := (hb4.block _ (Array.getElem?_eq_some_iff.1 HK3.out).1).trans HK3.out
    clear t0 t1 t2 t3 t4 hb4
    have t0 : V4.cell? ⟨Tb, 0, none⟩ = some (.int .u8 t.k) := cell_of HK4.out 0
    have t1 : V4.cell? ⟨Tb, 1, none⟩ = some (.string t.x) := cell_of HK4.out 1
    have t2 : V4.cell? ⟨Tb, 2, none⟩ = some (.int .u8 t.ty) := cell_of HK4.out 2
    have t3 : V4.cell? ⟨Tb, 3, none⟩ = some (.int .i64 t.n) := cell_of HK4.out 3
    have t4 : V4.cell? ⟨Tb, 4, none⟩ = some (.int .i64 t.p) := cell_of HK4.out 4
    go_wp2_with fail
    obtain ⟨a9, c9, h9⟩ := X4.out.R
    refine (cC V4 a9 c9 h9).mono ?_
    rintro e w2 ⟨rfl, hm⟩
    exact ⟨rfl, rfl, X4.out.M.trans hm (fun k e => .inl e)⟩
  | ok O =>
    obtain ⟨t3x, ts3⟩ := O
    go_enter Tryz.func118, Tryz.ntmps118
    go_wp2_with fail
    refine cL.mono ?_
    rintro e w1 ⟨rfl, hb1⟩
    have X1 := (X0.out.on HBL.out hb1).on HBL.out (below_new w1 (.cells #[.int .u8 t.k, .string t.x, .int .u8 t.ty, .int .i64 t.n, .int .i64 t.p] 33))
    have HK1 : Hid ((w1.alloc (.cells #[.int .u8 t.k, .string t.x, .int .u8 t.ty, .int .i64 t.n, .int .i64 t.p] 33)).heap[w1.heap.size]? = some (.cells #[.int .u8 t.k, .string t.x, .int .u8 t.ty, .int .i64 t.n, .int .i64 t.p] 33 (0, 0))) := heap_new _ _
    obtain ⟨Tb, eTb⟩ : ∃ T, w1.heap.size = T := ⟨_, rfl⟩
    obtain ⟨V1, eV1⟩ : ∃ V, w1.alloc (.cells #[.int .u8 t.k, .string t.x, .int .u8 t.ty, .int .i64 t.n, .int .i64 t.p] 33) = V := ⟨_, rfl⟩
    have HV1 : Hid (w1.alloc (.cells #[.int .u8 t.k, .string t.x, .int .u8 t.ty, .int .i64 t.n, .int .i64 t.p] 33) = V1) := eV1
    have HTb : Hid (w.heap.size < Tb) := by rw [← eTb]; exact Nat.lt_of_lt_of_le (Array.getElem?_eq_some_iff.1 X0.out.Z).1 hb1.size
    rw [eV1] at X1 HK1
    rw [eTb] at HK1
    have X1 := X1.hid
    have t0 : V1.cell? ⟨Tb, 0, none⟩ = some (.int .u8 t.k) := cell_of HK1.out 0
    have t1 : V1.cell? ⟨Tb, 1, none⟩ = some (.string t.x) := cell_of HK1.out 1
    have t2 : V1.cell? ⟨Tb, 2, none⟩ = some (.int .u8 t.ty) := cell_of HK1.out 2
    have t3 : V1.cell? ⟨Tb, 3, none⟩ = some (.int .i64 t.n) := cell_of HK1.out 3
    have t4 : V1.cell? ⟨Tb, 4, none⟩ = some (.int .i64 t.p) := cell_of HK1.out 4
    have cx1 : (w1.alloc (.cells #[.int .u8 t.k, .string t.x, .int .u8 t.ty, .int .i64 t.n, .int .i64 t.p] 33)).cell? ⟨Tb, 1, none⟩ = some (.string t.x) := by rw [eV1]; exact t1
    clear cL hb1 X0 eV1
    unfold tkA
    go_wp2_with fail
    try rw [HV1.out]
    clear HV1 cx1
    refine (callOf_any t _).mono ?_
    rintro e V2 ⟨rfl, hb2⟩
    have X2 := (X1.out.on HBL.out hb2).hid
    have HK2 : Hid (V2.heap[Tb]? = some (.cells #[.int .u8 t.k, .string t.x, .int .u8 t.ty, .int .i64 t.n, .int .i64 t.p] 33 (0, 0))) := (hb2.block _ (Array.getElem?_eq_some_iff.1 HK1.out).1).trans HK1.out
    clear t0 t1 t2 t3 t4 hb2
    have t0 : V2.cell? ⟨Tb, 0, none⟩ = some (.int .u8 t.k) := cell_of HK2.out 0
    have t1 : V2.cell? ⟨Tb, 1, none⟩ = some (.string t.x) := cell_of HK2.out 1
    have t2 : V2.cell? ⟨Tb, 2, none⟩ = some (.int .u8 t.ty) := cell_of HK2.out 2
    have t3 : V2.cell? ⟨Tb, 3, none⟩ = some (.int .i64 t.n) := cell_of HK2.out 3
    have t4 : V2.cell? ⟨Tb, 4, none⟩ = some (.int .i64 t.p) := cell_of HK2.out 4
    go_wp2_with fail
    refine (typeOf_any t _).mono ?_
    rintro e V3 ⟨rfl, hb3⟩
    have X3 := (X2.out.on HBL.out hb3).hid
    have HK3 : Hid (V3.heap[Tb]? = some (.cells #[.int .u8 t.k, .string t.x, .int .u8 t.ty, .int .i64 t.n, .int .i64 t.p] 33 (0, 0))) := (hb3.block _ (Array.getElem?_eq_some_iff.1 HK2.out).1).trans HK2.out
    clear t0 t1 t2 t3 t4 hb3
    have t0 : V3.cell? ⟨Tb, 0, none⟩ = some (.int .u8 t.k) := cell_of HK3.out 0
    have t1 : V3.cell? ⟨Tb, 1, none⟩ = some (.string t.x) := cell_of HK3.out 1
    have t2 : V3.cell? ⟨Tb, 2, none⟩ = some (.int .u8 t.ty) := cell_of HK3.out 2
    have t3 : V3.cell? ⟨Tb, 3, none⟩ = some (.int .i64 t.n) := cell_of HK3.out 3
    have t4 : V3.cell? ⟨Tb, 4, none⟩ = some (.int .i64 t.p) := cell_of HK3.out 4
    go_wp2_with fail
    refine (number_any (tyX t.x) _).mono ?_
    rintro e V9 ⟨rfl, hV9⟩
    rw [hV9]
    clear hV9
    go_wp2_with fail
    refine (fieldOf_any t _).mono ?_
    rintro e V4 ⟨rfl, hb4⟩
    have X4 := (X3.out.on HBL.out hb4).hid
    have HK4 : Hid (V4.heap[Tb]? = some (.cells #[.int .u8 t.k, .string t.x, .int .u8 t.ty, .int .i64 t.n, .int .i64 t.p] 33 (0, 0))) := (hb4.block _ (Array.getElem?_eq_some_iff.1 HK3.out).1).trans HK3.out
    clear t0 t1 t2 t3 t4 hb4
    have t0 : V4.cell? ⟨Tb, 0, none⟩ = some (.int .u8 t.k) := cell_of HK4.out 0
    have t1 : V4.cell? ⟨Tb, 1, none⟩ = some (.string t.x) := cell_of HK4.out 1
    have t2 : V4.cell? ⟨Tb, 2, none⟩ = some (.int .u8 t.ty) := cell_of HK4.out 2
    have t3 : V4.cell? ⟨Tb, 3, none⟩ = some (.int .i64 t.n) := cell_of HK4.out 3
    have t4 : V4.cell? ⟨Tb, 4, none⟩ = some (.int .i64 t.p) := cell_of HK4.out 4
    go_wp2_with fail
    obtain ⟨a9, c9, h9⟩ := X4.out.R
    refine (cC V4 a9 c9 h9).mono ?_
    rintro e w2 ⟨⟨m, rfl, rfl, hl, hk⟩, hr, hm⟩
    obtain ⟨⟨k2, o2, ty2, n2, f2, x2, p2⟩, am2, cm2, ks2⟩ := m
    have hsz := (Array.getElem?_eq_some_iff.1 X4.out.Z).1
    have XR := (X4.out.mv HBL.out hm hr (HSR.out _ _ rfl)).hid
    have hk : Bkn (fun k => w.heap.size < k ∧ k < w2.heap.size) (.mk ⟨k2, o2, ty2, n2, f2, x2, p2⟩ am2 cm2 ks2) := hk.mono fun j hj => ⟨by omega, hj.2⟩
    clear hm hr hsz h9 t0 t1 t2 t3 t4 cC
    obtain ⟨hZ, Y, eY, hY1, hY2, hY3, hY4, hY5⟩ := XR.out.ret HBL.out HGL.out hl hk
    have z0 : w2.cell? ⟨w.heap.size, 0, none⟩ = some (.int .u8 0) := cell_of hZ 0
    have q0 : w2.frozen? ⟨w.heap.size, 0, none⟩ = false := frozen_of hZ 0
    have z1 : w2.cell? ⟨w.heap.size, 1, none⟩ = some (.int .u8 0) := cell_of hZ 1
    have q1 : w2.frozen? ⟨w.heap.size, 1, none⟩ = false := frozen_of hZ 1
    have z2 : w2.cell? ⟨w.heap.size, 2, none⟩ = some (.int .u8 0) := cell_of hZ 2
    have q2 : w2.frozen? ⟨w.heap.size, 2, none⟩ = false := frozen_of hZ 2
    have z3 : w2.cell? ⟨w.heap.size, 3, none⟩ = some (.int .i64 0) := cell_of hZ 3
    have q3 : w2.frozen? ⟨w.heap.size, 3, none⟩ = false := frozen_of hZ 3
    have z4 : w2.cell? ⟨w.heap.size, 4, none⟩ = some (.int .u8 0) := cell_of hZ 4
    have q4 : w2.frozen? ⟨w.heap.size, 4, none⟩ = false := frozen_of hZ 4
    have z5 : w2.cell? ⟨w.heap.size, 5, none⟩ = some (.string ⟨#[]⟩) := cell_of hZ 5
    have q5 : w2.frozen? ⟨w.heap.size, 5, none⟩ = false := frozen_of hZ 5
    have z6 : w2.cell? ⟨w.heap.size, 6, none⟩ = some (.slice none 0 0) := cell_of hZ 6
    have q6 : w2.frozen? ⟨w.heap.size, 6, none⟩ = false := frozen_of hZ 6
    have z7 : w2.cell? ⟨w.heap.size, 7, none⟩ = some (.int .i64 0) := cell_of hZ 7
    have q7 : w2.frozen? ⟨w.heap.size, 7, none⟩ = false := frozen_of hZ 7
    have HEY : Hid (_ = Y) := eY
    have HY1 : Hid (_) := hY1
    have HYY : Hid (_) := (⟨hY2, hY3, hY4, hY5⟩ : _ ∧ _ ∧ _ ∧ _)
    clear eY hY1 hY2 hY3 hY4 hY5 hZ hl hk
    simp only [Nd.vals, Nd.h, Nd.a, Nd.c, Nd.ks, hdA]
    go_wp2_with fail
    rw [HEY.out]
    exact bodyPost_ret (results_cell_row rfl _ _ w.heap.size 52 (Nd.mk ⟨k2, o2, ty2, n2, f2, x2, p2⟩ am2 cm2 ks2).vals (0, 0) _ rfl HY1.out Tryz.underlying52 rfl (by kernel_rfl)) rfl ⟨⟨_, rfl, rfl, HYY.out.1, HYY.out.2.1⟩, HYY.out.2.2.1, HYY.out.2.2.2⟩
end Go.Proofs.YtkfabnchhjfjjabGreatDoor

/-
  one: what stands by itself: brackets; a field; a name
-/
namespace Go.Proofs.YtkfabnchhjfjjabGreatDoor
open Go.RowKit
set_option linter.unusedVariables false
/-- An expression in brackets. -/
def gBrk (ex : List Tk → Except Ft (Tr × List Tk)) (d : Nat) (ts : List Tk) : Except Ft (Tr × List Tk) :=
  match gOpn d ts with
  | .error e => .error e
  | .ok q => gIn (ex q.2)
theorem rg_field {t : Tk} (h : RgT t) : Rg ⟨3, 0, 0, 0, fieldX t.x, gE, t.p⟩ := by
  have := h.p0; have := h.p1; have := fieldX_rg t.x
  constructor <;> first | omega | (show (0 : Nat) ≤ _; omega) | (simp only; omega) | simp
theorem rg_name {t : Tk} (h : RgT t) : Rg ⟨2, 0, 0, 0, 0, t.x, t.p⟩ := by
  have := h.p0; have := h.p1; have := h.x1
  constructor <;> first | omega | (show (0 : Nat) ≤ _; omega) | (simp only; omega) | simp
set_option maxRecDepth 100000 in
set_option maxHeartbeats 8000000 in
theorem one_brk (ex : List Tk → Except Ft (Tr × List Tk)) (hS : Subs ex) {w : World} {b G : Nat} {t : Tk} {ts : List Tk} {fa : Int} {fe : Value} {d : Nat} {a : Option Addr} {c : Nat} (h : Rdr w b G (t :: ts) fa fe d a c) (hT : ∀ x ∈ t :: ts, RgT x) (hd : d < 1000) (e1 : (t.x.toList == [40]) = true)
    (cE : d < 24 → ∀ v ts a c, Rdr v b G ts fa fe (d + 1) a c → (∀ t ∈ ts, RgT t) → Calls Tryz.prog 20 #[.pointer (some ⟨b, 0, none⟩)] v (OutN b G fa fe (d + 1) v (ex ts))) :
    Calls Tryz.prog 118 #[.pointer (some ⟨b, 0, none⟩)] w (OutN b G fa fe d w (gBrk ex d (t :: ts))) := by
  have hb0 := below_new w (.cells #[.int .u8 0, .int .u8 0, .int .u8 0, .int .i64 0, .int .u8 0, .string ⟨#[]⟩, .slice none 0 0, .int .i64 0] 52)
  have h0 := h.on hb0
  have HBL : Hid (b < w.heap.size) := h.lt
  have HGL : Hid (G < w.heap.size) := h.gl
  have HTT : Hid (∀ x ∈ t :: ts, RgT x) := hT
  have X0 : BX w b G fa fe d (w.alloc (.cells #[.int .u8 0, .int .u8 0, .int .u8 0, .int .i64 0, .int .u8 0, .string ⟨#[]⟩, .slice none 0 0, .int .i64 0] 52)) [] (t :: ts) := ⟨Mv.ofBelow hb0, heap_new _ _, fun p hp => by simp at hp, ⟨a, c, h0⟩, hT⟩
  have X0 := X0.hid
  have cL := look_ok h0
  clear h hb0 h0 hT
  obtain ⟨P, eO⟩ : ∃ P, gOpn d (t :: ts) = P := ⟨_, rfl⟩
  have HEO : Hid (gOpn d (t :: ts) = P) := eO
  unfold gBrk
  rw [eO]
  clear eO
  cases P with
  | error f =>
    go_enter Tryz.func118, Tryz.ntmps118
    go_wp2_with fail
    refine cL.mono ?_
    rintro e w1 ⟨rfl, hb1⟩
    have X1 := (X0.out.on HBL.out hb1).on HBL.out (below_new w1 (.cells #[.int .u8 t.k, .string t.x, .int .u8 t.ty, .int .i64 t.n, .int .i64 t.p] 33))
    have HK1 : Hid ((w1.alloc (.cells #[.int .u8 t.k, .string t.x, .int .u8 t.ty, .int .i64 t.n, .int .i64 t.p] 33)).heap[w1.heap.size]? = some (.cells #[.int .u8 t.k, .string t.x, .int .u8 t.ty, .int .i64 t.n, .int .i64 t.p] 33 (0, 0))) := heap_new _ _
    obtain ⟨Tb, eTb⟩ : ∃ T, w1.heap.size = T := ⟨_, rfl⟩
    obtain ⟨V1, eV1⟩ : ∃ V, w1.alloc (.cells #[.int .u8 t.k, .string t.x, .int .u8 t.ty, .int .i64 t.n, .int .i64 t.p] 33) = V := ⟨_, rfl⟩
    have HV1 : Hid (w1.alloc (.cells #[.int .u8 t.k, .string t.x, .int .u8 t.ty, .int .i64 t.n, .int .i64 t.p] 33) = V1) := eV1
    have HTb : Hid (w.heap.size < Tb) := by rw [← eTb]; exact Nat.lt_of_lt_of_le (Array.getElem?_eq_some_iff.1 X0.out.Z).1 hb1.size
    rw [eV1] at X1 HK1
    rw [eTb] at HK1
    have X1 := X1.hid
    have t0 : V1.cell? ⟨Tb, 0, none⟩ = some (.int .u8 t.k) := cell_of HK1.out 0
    have t1 : V1.cell? ⟨Tb, 1, none⟩ = some (.string t.x) := cell_of HK1.out 1
    have t2 : V1.cell? ⟨Tb, 2, none⟩ = some (.int .u8 t.ty) := cell_of HK1.out 2
    have t3 : V1.cell? ⟨Tb, 3, none⟩ = some (.int .i64 t.n) := cell_of HK1.out 3
    have t4 : V1.cell? ⟨Tb, 4, none⟩ = some (.int .i64 t.p) := cell_of HK1.out 4
    have cx1 : (w1.alloc (.cells #[.int .u8 t.k, .string t.x, .int .u8 t.ty, .int .i64 t.n, .int .i64 t.p] 33)).cell? ⟨Tb, 1, none⟩ = some (.string t.x) := by rw [eV1]; exact t1
    clear cL hb1 X0 eV1
    unfold tkA
    go_wp2_with fail
    try rw [HV1.out]
    clear HV1 cx1
    obtain ⟨a9, c9, h9⟩ := X1.out.R
    have cP := open_any h9
    rw [HEO.out] at cP
    refine cP.mono ?_
    rintro e w2 ⟨rfl, hm⟩
    exact ⟨rfl, rfl, X1.out.M.trans hm (fun k e => .inl e)⟩
  | ok P =>
    obtain ⟨u, r⟩ := P
    have HSB : Hid (∀ x ∈ r, x ∈ t :: ts) := gOpn_sub HEO.out
    replace cE := cE (gOpn_lt HEO.out)
    simp only
    have hgi : ∀ t q, gIn (ex r) = .ok (t, q) → ∀ x ∈ q, x ∈ r := gIn_sub (fun t q e => hS r t q e)
    obtain ⟨O, eO⟩ : ∃ O, gIn (ex r) = O := ⟨_, rfl⟩
    have HEI : Hid (gIn (ex r) = O) := eO
    rw [eO] at hgi ⊢
    have HSR : Hid (∀ t q, O = .ok (t, q) → ∀ x ∈ q, x ∈ r) := hgi
    clear eO hgi
    cases O with
    | error f =>
      go_enter Tryz.func118, Tryz.ntmps118
      go_wp2_with fail
      refine cL.mono ?_
      rintro e w1 ⟨rfl, hb1⟩
      have X1 := (X0.out.on HBL.out hb1).on HBL.out (below_new w1 (.cells #[.int .u8 t.k, .string t.x, .int .u8 t.ty, .int .i64 t.n, .int .i64 t.p] 33))
      have HK1 : Hid ((w1.alloc (.cells #[.int .u8 t.k, .string t.x, .int .u8 t.ty, .int .i64 t.n, .int .i64 t.p] 33)).heap[w1.heap.size]? = some (.cells #[.int .u8 t.k, .string t.x, .int .u8 t.ty, .int .i64 t.n, .int .i64 t.p] 33 (0, 0))) := heap_new _ _
      obtain ⟨Tb, eTb⟩ : ∃ T, w1.heap.size = T := ⟨_, rfl⟩
      obtain ⟨V1, eV1⟩ : ∃ V, w1.alloc (.cells #[.int .u8 t.k, .string t.x, .int .u8 t.ty, .int .i64 t.n, .int .i64 t.p] 33) = V := ⟨_, rfl⟩
      have HV1 : Hid (w1.alloc (.cells #[.int .u8 t.k, .string t.x, .int .u8 t.ty, .int .i64 t.n, .int .i64 t.p] 33) = V1) := eV1
      have HTb : Hid (w.heap.size < Tb) := by rw [← eTb]; exact Nat.lt_of_lt_of_le (Array.getElem?_eq_some_iff.1 X0.out.Z).1 hb1.size
      rw [eV1] at X1 HK1
      rw [eTb] at HK1
      have X1 := X1.hid
      have t0 : V1.cell? ⟨Tb, 0, none⟩ = some (.int .u8 t.k) := cell_of HK1.out 0
      have t1 : V1.cell? ⟨Tb, 1, none⟩ = some (.string t.x) := cell_of HK1.out 1
      have t2 : V1.cell? ⟨Tb, 2, none⟩ = some (.int .u8 t.ty) := cell_of HK1.out 2
      have t3 : V1.cell? ⟨Tb, 3, none⟩ = some (.int .i64 t.n) := cell_of HK1.out 3
      have t4 : V1.cell? ⟨Tb, 4, none⟩ = some (.int .i64 t.p) := cell_of HK1.out 4
      have cx1 : (w1.alloc (.cells #[.int .u8 t.k, .string t.x, .int .u8 t.ty, .int .i64 t.n, .int .i64 t.p] 33)).cell? ⟨Tb, 1, none⟩ = some (.string t.x) := by rw [eV1]; exact t1
      clear cL hb1 X0 eV1
      unfold tkA
      go_wp2_with fail
      try rw [HV1.out]
      clear HV1 cx1
      obtain ⟨a9, c9, h9⟩ := X1.out.R
      have cP := open_any h9
      rw [HEO.out] at cP
      refine cP.mono ?_
      rintro e w2 ⟨rfl, hr2, hm2⟩
      have X2 := (X1.out.mv HBL.out hm2 hr2 HSB.out).hid
      clear cP hm2 hr2 h9
      go_wp2_with fail
      obtain ⟨a9, c9, h9⟩ := X2.out.R
      have cI := inBr_any h9 hd (ex r) (fun v a c h' => cE v r a c h' X2.out.T)
      rw [HEI.out] at cI
      refine cI.mono ?_
      rintro e w3 ⟨rfl, hm⟩
      exact ⟨rfl, rfl, X2.out.M.trans hm (fun k e => .inl e)⟩
    | ok O =>
      obtain ⟨t3x, ts3⟩ := O
      go_enter Tryz.func118, Tryz.ntmps118
      go_wp2_with fail
      refine cL.mono ?_
      rintro e w1 ⟨rfl, hb1⟩
      have X1 := (X0.out.on HBL.out hb1).on HBL.out (below_new w1 (.cells #[.int .u8 t.k, .string t.x, .int .u8 t.ty, .int .i64 t.n, .int .i64 t.p] 33))
      have HK1 : Hid ((w1.alloc (.cells #[.int .u8 t.k, .string t.x, .int .u8 t.ty, .int .i64 t.n, .int .i64 t.p] 33)).heap[w1.heap.size]? = some (.cells #[.int .u8 t.k, .string t.x, .int .u8 t.ty, .int .i64 t.n, .int .i64 t.p] 33 (0, 0))) := heap_new _ _
      obtain ⟨Tb, eTb⟩ : ∃ T, w1.heap.size = T := ⟨_, rfl⟩
      obtain ⟨V1, eV1⟩ : ∃ V, w1.alloc (.cells #[.int .u8 t.k, .string t.x, .int .u8 t.ty, .int .i64 t.n, .int .i64 t.p] 33) = V := ⟨_, rfl⟩
      have HV1 : Hid (w1.alloc (.cells #[.int .u8 t.k, .string t.x, .int .u8 t.ty, .int .i64 t.n, .int .i64 t.p] 33) = V1) := eV1
      have HTb : Hid (w.heap.size < Tb) := by rw [← eTb]; exact Nat.lt_of_lt_of_le (Array.getElem?_eq_some_iff.1 X0.out.Z).1 hb1.size
      rw [eV1] at X1 HK1
      rw [eTb] at HK1
      have X1 := X1.hid
      have t0 : V1.cell? ⟨Tb, 0, none⟩ = some (.int .u8 t.k) := cell_of HK1.out 0
      have t1 : V1.cell? ⟨Tb, 1, none⟩ = some (.string t.x) := cell_of HK1.out 1
      have t2 : V1.cell? ⟨Tb, 2, none⟩ = some (.int .u8 t.ty) := cell_of HK1.out 2
      have t3 : V1.cell? ⟨Tb, 3, none⟩ = some (.int .i64 t.n) := cell_of HK1.out 3
      have t4 : V1.cell? ⟨Tb, 4, none⟩ = some (.int .i64 t.p) := cell_of HK1.out 4
      have cx1 : (w1.alloc (.cells #[.int .u8 t.k, .string t.x, .int .u8 t.ty, .int .i64 t.n, .int .i64 t.p] 33)).cell? ⟨Tb, 1, none⟩ = some (.string t.x) := by rw [eV1]; exact t1
      clear cL hb1 X0 eV1
      unfold tkA
      go_wp2_with fail
      try rw [HV1.out]
      clear HV1 cx1
      obtain ⟨a9, c9, h9⟩ := X1.out.R
      have cP := open_any h9
      rw [HEO.out] at cP
      refine cP.mono ?_
      rintro e w2 ⟨rfl, hr2, hm2⟩
      have X2 := (X1.out.mv HBL.out hm2 hr2 HSB.out).hid
      clear cP hm2 hr2 h9
      go_wp2_with fail
      obtain ⟨a9, c9, h9⟩ := X2.out.R
      have cI := inBr_any h9 hd (ex r) (fun v a c h' => cE v r a c h' X2.out.T)
      rw [HEI.out] at cI
      refine cI.mono ?_
      rintro e w3 ⟨⟨m, rfl, rfl, hl, hk⟩, hr, hm⟩
      obtain ⟨⟨k2, o2, ty2, n2, f2, x2, p2⟩, am2, cm2, ks2⟩ := m
      have hsz := (Array.getElem?_eq_some_iff.1 X2.out.Z).1
      have XR := (X2.out.mv HBL.out hm hr (HSR.out _ _ rfl)).hid
      have hk : Bkn (fun k => w.heap.size < k ∧ k < w3.heap.size) (.mk ⟨k2, o2, ty2, n2, f2, x2, p2⟩ am2 cm2 ks2) := hk.mono fun j hj => ⟨by omega, hj.2⟩
      clear hm hr hsz h9 cI t0 t1 t2 t3 t4 HEI HSR
      obtain ⟨hZ, Y, eY, hY1, hY2, hY3, hY4, hY5⟩ := XR.out.ret HBL.out HGL.out hl hk
      have z0 : w3.cell? ⟨w.heap.size, 0, none⟩ = some (.int .u8 0) := cell_of hZ 0
      have q0 : w3.frozen? ⟨w.heap.size, 0, none⟩ = false := frozen_of hZ 0
      have z1 : w3.cell? ⟨w.heap.size, 1, none⟩ = some (.int .u8 0) := cell_of hZ 1
      have q1 : w3.frozen? ⟨w.heap.size, 1, none⟩ = false := frozen_of hZ 1
      have z2 : w3.cell? ⟨w.heap.size, 2, none⟩ = some (.int .u8 0) := cell_of hZ 2
      have q2 : w3.frozen? ⟨w.heap.size, 2, none⟩ = false := frozen_of hZ 2
      have z3 : w3.cell? ⟨w.heap.size, 3, none⟩ = some (.int .i64 0) := cell_of hZ 3
      have q3 : w3.frozen? ⟨w.heap.size, 3, none⟩ = false := frozen_of hZ 3
      have z4 : w3.cell? ⟨w.heap.size, 4, none⟩ = some (.int .u8 0) := cell_of hZ 4
      have q4 : w3.frozen? ⟨w.heap.size, 4, none⟩ = false := frozen_of hZ 4
      have z5 : w3.cell? ⟨w.heap.size, 5, none⟩ = some (.string ⟨#[]⟩) := cell_of hZ 5
      have q5 : w3.frozen? ⟨w.heap.size, 5, none⟩ = false := frozen_of hZ 5
      have z6 : w3.cell? ⟨w.heap.size, 6, none⟩ = some (.slice none 0 0) := cell_of hZ 6
      have q6 : w3.frozen? ⟨w.heap.size, 6, none⟩ = false := frozen_of hZ 6
      have z7 : w3.cell? ⟨w.heap.size, 7, none⟩ = some (.int .i64 0) := cell_of hZ 7
      have q7 : w3.frozen? ⟨w.heap.size, 7, none⟩ = false := frozen_of hZ 7
      have HEY : Hid (_ = Y) := eY
      have HY1 : Hid (_) := hY1
      have HYY : Hid (_) := (⟨hY2, hY3, hY4, hY5⟩ : _ ∧ _ ∧ _ ∧ _)
      clear eY hY1 hY2 hY3 hY4 hY5 hZ hl hk
      simp only [Nd.vals, Nd.h, Nd.a, Nd.c, Nd.ks, hdA]
      go_wp2_with fail
      rw [HEY.out]
      exact bodyPost_ret (results_cell_row rfl _ _ w.heap.size 52 (Nd.mk ⟨k2, o2, ty2, n2, f2, x2, p2⟩ am2 cm2 ks2).vals (0, 0) _ rfl HY1.out Tryz.underlying52 rfl (by kernel_rfl)) rfl ⟨⟨_, rfl, rfl, HYY.out.1, HYY.out.2.1⟩, HYY.out.2.2.1, HYY.out.2.2.2⟩
set_option maxRecDepth 100000 in
set_option maxHeartbeats 8000000 in
theorem one_field (ex : List Tk → Except Ft (Tr × List Tk)) (hS : Subs ex) {w : World} {b G : Nat} {t : Tk} {ts : List Tk} {fa : Int} {fe : Value} {d : Nat} {a : Option Addr} {c : Nat} (h : Rdr w b G (t :: ts) fa fe d a c) (hT : ∀ x ∈ t :: ts, RgT x) (hd : d < 1000) (e1 : (t.x.toList == [40]) = false) (e2 : (t.x.toList == [104, 97, 115]) = false) (e3 : callX t.x = 0) (e4 : ¬ (1 ≤ tyX t.x ∧ tyX t.x ≤ 4)) (e5 : fieldX t.x ≠ 0)
    (cE : d < 24 → ∀ v ts a c, Rdr v b G ts fa fe (d + 1) a c → (∀ t ∈ ts, RgT t) → Calls Tryz.prog 20 #[.pointer (some ⟨b, 0, none⟩)] v (OutN b G fa fe (d + 1) v (ex ts))) :
    Calls Tryz.prog 118 #[.pointer (some ⟨b, 0, none⟩)] w (OutN b G fa fe d w (.ok (.mk ⟨3, 0, 0, 0, fieldX t.x, gE, t.p⟩ [], ts))) := by
  have hb0 := below_new w (.cells #[.int .u8 0, .int .u8 0, .int .u8 0, .int .i64 0, .int .u8 0, .string ⟨#[]⟩, .slice none 0 0, .int .i64 0] 52)
  have h0 := h.on hb0
  have HBL : Hid (b < w.heap.size) := h.lt
  have HGL : Hid (G < w.heap.size) := h.gl
  have HTT : Hid (∀ x ∈ t :: ts, RgT x) := hT
  have X0 : BX w b G fa fe d (w.alloc (.cells #[.int .u8 0, .int .u8 0, .int .u8 0, .int .i64 0, .int .u8 0, .string ⟨#[]⟩, .slice none 0 0, .int .i64 0] 52)) [] (t :: ts) := ⟨Mv.ofBelow hb0, heap_new _ _, fun p hp => by simp at hp, ⟨a, c, h0⟩, hT⟩
  have X0 := X0.hid
  have cL := look_ok h0
  clear h hb0 h0 hT
  have n3 : (callX t.x != 0) = false := by rw [e3]; rfl
  have n4 : decide (1 ≤ tyX t.x ∧ tyX t.x ≤ 4) = false := decide_eq_false e4
  have n5 : (fieldX t.x != 0) = true := bne_iff_ne.2 e5
  go_enter Tryz.func118, Tryz.ntmps118
  go_wp2_with fail
  refine cL.mono ?_
  rintro e w1 ⟨rfl, hb1⟩
  have X1 := (X0.out.on HBL.out hb1).on HBL.out (below_new w1 (.cells #[.int .u8 t.k, .string t.x, .int .u8 t.ty, .int .i64 t.n, .int .i64 t.p] 33))
  have HK1 : Hid ((w1.alloc (.cells #[.int .u8 t.k, .string t.x, .int .u8 t.ty, .int .i64 t.n, .int .i64 t.p] 33)).heap[w1.heap.size]? = some (.cells #[.int .u8 t.k, .string t.x, .int .u8 t.ty, .int .i64 t.n, .int .i64 t.p] 33 (0, 0))) := heap_new _ _
  obtain ⟨Tb, eTb⟩ : ∃ T, w1.heap.size = T := ⟨_, rfl⟩
  obtain ⟨V1, eV1⟩ : ∃ V, w1.alloc (.cells #[.int .u8 t.k, .string t.x, .int .u8 t.ty, .int .i64 t.n, .int .i64 t.p] 33) = V := ⟨_, rfl⟩
  have HV1 : Hid (w1.alloc (.cells #[.int .u8 t.k, .string t.x, .int .u8 t.ty, .int .i64 t.n, .int .i64 t.p] 33) = V1) := eV1
  have HTb : Hid (w.heap.size < Tb) := by rw [← eTb]; exact Nat.lt_of_lt_of_le (Array.getElem?_eq_some_iff.1 X0.out.Z).1 hb1.size
  rw [eV1] at X1 HK1
  rw [eTb] at HK1
  have X1 := X1.hid
  have t0 : V1.cell? ⟨Tb, 0, none⟩ = some (.int .u8 t.k) := cell_of HK1.out 0
  have t1 : V1.cell? ⟨Tb, 1, none⟩ = some (.string t.x) := cell_of HK1.out 1
  have t2 : V1.cell? ⟨Tb, 2, none⟩ = some (.int .u8 t.ty) := cell_of HK1.out 2
  have t3 : V1.cell? ⟨Tb, 3, none⟩ = some (.int .i64 t.n) := cell_of HK1.out 3
  have t4 : V1.cell? ⟨Tb, 4, none⟩ = some (.int .i64 t.p) := cell_of HK1.out 4
  have cx1 : (w1.alloc (.cells #[.int .u8 t.k, .string t.x, .int .u8 t.ty, .int .i64 t.n, .int .i64 t.p] 33)).cell? ⟨Tb, 1, none⟩ = some (.string t.x) := by rw [eV1]; exact t1
  clear cL hb1 X0 eV1
  unfold tkA
  go_wp2_with fail
  try rw [HV1.out]
  clear HV1 cx1
  refine (callOf_any t _).mono ?_
  rintro e V2 ⟨rfl, hb2⟩
  have X2 := (X1.out.on HBL.out hb2).hid
  have HK2 : Hid (V2.heap[Tb]? = some (.cells #[.int .u8 t.k, .string t.x, .int .u8 t.ty, .int .i64 t.n, .int .i64 t.p] 33 (0, 0))) := (hb2.block _ (Array.getElem?_eq_some_iff.1 HK1.out).1).trans HK1.out
  clear t0 t1 t2 t3 t4 hb2
  have t0 : V2.cell? ⟨Tb, 0, none⟩ = some (.int .u8 t.k) := cell_of HK2.out 0
  have t1 : V2.cell? ⟨Tb, 1, none⟩ = some (.string t.x) := cell_of HK2.out 1
  have t2 : V2.cell? ⟨Tb, 2, none⟩ = some (.int .u8 t.ty) := cell_of HK2.out 2
  have t3 : V2.cell? ⟨Tb, 3, none⟩ = some (.int .i64 t.n) := cell_of HK2.out 3
  have t4 : V2.cell? ⟨Tb, 4, none⟩ = some (.int .i64 t.p) := cell_of HK2.out 4
  go_wp2_with fail
  refine (typeOf_any t _).mono ?_
  rintro e V3 ⟨rfl, hb3⟩
  have X3 := (X2.out.on HBL.out hb3).hid
  have HK3 : Hid (V3.heap[Tb]? = some (.cells #[.int .u8 t.k, .string t.x, .int .u8 t.ty, .int .i64 t.n, .int .i64 t.p] 33 (0, 0))) := (hb3.block _ (Array.getElem?_eq_some_iff.1 HK2.out).1).trans HK2.out
  clear t0 t1 t2 t3 t4 hb3
  have t0 : V3.cell? ⟨Tb, 0, none⟩ = some (.int .u8 t.k) := cell_of HK3.out 0
  have t1 : V3.cell? ⟨Tb, 1, none⟩ = some (.string t.x) := cell_of HK3.out 1
  have t2 : V3.cell? ⟨Tb, 2, none⟩ = some (.int .u8 t.ty) := cell_of HK3.out 2
  have t3 : V3.cell? ⟨Tb, 3, none⟩ = some (.int .i64 t.n) := cell_of HK3.out 3
  have t4 : V3.cell? ⟨Tb, 4, none⟩ = some (.int .i64 t.p) := cell_of HK3.out 4
  go_wp2_with fail
  refine (number_any (tyX t.x) _).mono ?_
  rintro e V9 ⟨rfl, hV9⟩
  rw [hV9]
  clear hV9
  go_wp2_with fail
  refine (fieldOf_any t _).mono ?_
  rintro e V4 ⟨rfl, hb4⟩
  have X4 := (X3.out.on HBL.out hb4).hid
  have HK4 : Hid (V4.heap[Tb]? = some (.cells #[.int .u8 t.k, .string t.x, .int .u8 t.ty, .int .i64 t.n, .int .i64 t.p] 33 (0, 0))) := (hb4.block _ (Array.getElem?_eq_some_iff.1 HK3.out).1).trans HK3.out
  clear t0 t1 t2 t3 t4 hb4
  have t0 : V4.cell? ⟨Tb, 0, none⟩ = some (.int .u8 t.k) := cell_of HK4.out 0
  have t1 : V4.cell? ⟨Tb, 1, none⟩ = some (.string t.x) := cell_of HK4.out 1
  have t2 : V4.cell? ⟨Tb, 2, none⟩ = some (.int .u8 t.ty) := cell_of HK4.out 2
  have t3 : V4.cell? ⟨Tb, 3, none⟩ = some (.int .i64 t.n) := cell_of HK4.out 3
  have t4 : V4.cell? ⟨Tb, 4, none⟩ = some (.int .i64 t.p) := cell_of HK4.out 4
  go_wp2_with fail
  obtain ⟨a9, c9, h9⟩ := X4.out.R
  refine (step_ok h9).mono ?_
  rintro e w2 ⟨rfl, hr2, hm2⟩
  have XS := (X4.out.mv HBL.out hm2 hr2 (fun x hx => List.mem_cons_of_mem _ hx)).hid
  have HKS : Hid (w2.heap[Tb]? = some (.cells #[.int .u8 t.k, .string t.x, .int .u8 t.ty, .int .i64 t.n, .int .i64 t.p] 33 (0, 0))) := (hm2.block _ (Array.getElem?_eq_some_iff.1 HK4.out).1 (by have := HBL.out; have := HTb.out; omega)).trans HK4.out
  clear hm2 hr2 h9 t0 t1 t2 t3 t4
  have HKP : Hid (∀ v, MR w2 w.heap.size v → v.cell? ⟨Tb, 0, none⟩ = some (.int .u8 t.k) ∧ v.cell? ⟨Tb, 1, none⟩ = some (.string t.x) ∧ v.cell? ⟨Tb, 2, none⟩ = some (.int .u8 t.ty) ∧ v.cell? ⟨Tb, 3, none⟩ = some (.int .i64 t.n) ∧ v.cell? ⟨Tb, 4, none⟩ = some (.int .i64 t.p) ∧ MR w2 w.heap.size v) := fun v hv => by
    have e1 := (hv.block _ (Array.getElem?_eq_some_iff.1 HKS.out).1 (by have := HTb.out; omega)).trans HKS.out
    exact ⟨cell_of e1 0, cell_of e1 1, cell_of e1 2, cell_of e1 3, cell_of e1 4, hv⟩
  have cY : ∀ v, Calls Tryz.prog 125 #[.agg #[.int .u8 t.k, .string t.x, .int .u8 t.ty, .int .i64 t.n, .int .i64 t.p]] v fun e w' => e = .returned (.int .u8 (fieldX t.x)) ∧ Below v.heap.size v w' := fun v => fieldOf_any t v
  go_upto_region 13 with fail
  refine wp_region_held_drew (S := fun v => MR w2 w.heap.size v) (by kernel_rfl) (MR.drew2 (MR.refl _ _)) (fun hHeld => ?_)
  refine wpAnyH_take (i := 0) (v := ?_) rfl (by kernel_rfl) (by kernel_rfl) (by kernel_rfl) (fun _ _ _ h => h) (Or.inl ⟨by rfl, ?_⟩) (by assumption) ?_
  rotate_left
  · (intro v hv; obtain ⟨t0, t1, t2, t3, t4, _⟩ := HKP.out v hv; go_simp; try (with_reducible rfl))
  try simp [Act.put]
  refine wpAnyH_take (i := 2) (v := ?_) rfl (by kernel_rfl) (by kernel_rfl) (by kernel_rfl) (fun _ _ _ h => h) (Or.inl ⟨by rfl, ?_⟩) (by assumption) ?_
  rotate_left
  · (intro v hv; obtain ⟨t0, t1, t2, t3, t4, _⟩ := HKP.out v hv; go_simp; try (with_reducible rfl))
  try simp [Act.put]
  refine wpAnyH_take (i := 3) (v := ?_) rfl (by kernel_rfl) (by kernel_rfl) (by kernel_rfl) (fun _ _ _ h => h) (Or.inl ⟨by rfl, ?_⟩) (by assumption) ?_
  rotate_left
  · (intro v hv; obtain ⟨t0, t1, t2, t3, t4, _⟩ := HKP.out v hv; go_simp; try (with_reducible rfl))
  try simp [Act.put]
  refine wpAnyH_ready (rs := [1]) (by kernel_rfl) (by simp) ?_
  refine AllReadyH.cons rfl (fun K hK => ?_) AllReadyH.nil
  go_simp
  go_at_call 125
  refine (cY _).mono ?_
  rintro e w6 ⟨rfl, hb6⟩
  have hg6 : GB w2 w6 := GB.call (GB.drew2 (GB.refl _)) hb6
  have hm6 : MR w2 w.heap.size w6 := Mv.ofBelow hg6
  have X6 := (XS.out.on HBL.out hg6).hid
  refine hK.out _ _ hm6 (fun hHeld6 => ?_)
  clear hK K
  try simp [Act.put]
  refine wpAnyH_take (i := 4) (v := ?_) rfl (by kernel_rfl) (by kernel_rfl) (by kernel_rfl) (fun _ _ _ h => h) (Or.inl ⟨by rfl, ?_⟩) (by assumption) ?_
  rotate_left
  · (intro v hv; go_simp; try (with_reducible rfl))
  try simp [Act.put]
  obtain ⟨hZ, Y, eY, hY1, hY2, hY3, hY4, hY5⟩ := X6.out.ret (k2 := 3) (o2 := 0) (ty2 := 0) (n2 := 0) (f2 := (fieldX t.x)) (x2 := gE) (p2 := t.p) (am2 := none) (cm2 := 0) (ks2 := []) HBL.out HGL.out (lies0 _ (rg_field (HTT.out t (by simp)))) (bkn0 _ _)
  have z0 : w6.cell? ⟨w.heap.size, 0, none⟩ = some (.int .u8 0) := cell_of hZ 0
  have q0 : w6.frozen? ⟨w.heap.size, 0, none⟩ = false := frozen_of hZ 0
  have z1 : w6.cell? ⟨w.heap.size, 1, none⟩ = some (.int .u8 0) := cell_of hZ 1
  have q1 : w6.frozen? ⟨w.heap.size, 1, none⟩ = false := frozen_of hZ 1
  have z2 : w6.cell? ⟨w.heap.size, 2, none⟩ = some (.int .u8 0) := cell_of hZ 2
  have q2 : w6.frozen? ⟨w.heap.size, 2, none⟩ = false := frozen_of hZ 2
  have z3 : w6.cell? ⟨w.heap.size, 3, none⟩ = some (.int .i64 0) := cell_of hZ 3
  have q3 : w6.frozen? ⟨w.heap.size, 3, none⟩ = false := frozen_of hZ 3
  have z4 : w6.cell? ⟨w.heap.size, 4, none⟩ = some (.int .u8 0) := cell_of hZ 4
  have q4 : w6.frozen? ⟨w.heap.size, 4, none⟩ = false := frozen_of hZ 4
  have z5 : w6.cell? ⟨w.heap.size, 5, none⟩ = some (.string ⟨#[]⟩) := cell_of hZ 5
  have q5 : w6.frozen? ⟨w.heap.size, 5, none⟩ = false := frozen_of hZ 5
  have z6 : w6.cell? ⟨w.heap.size, 6, none⟩ = some (.slice none 0 0) := cell_of hZ 6
  have q6 : w6.frozen? ⟨w.heap.size, 6, none⟩ = false := frozen_of hZ 6
  have z7 : w6.cell? ⟨w.heap.size, 7, none⟩ = some (.int .i64 0) := cell_of hZ 7
  have q7 : w6.frozen? ⟨w.heap.size, 7, none⟩ = false := frozen_of hZ 7
  have HEY : Hid (((((((((w6.setCell ⟨w.heap.size, 0, none⟩ (.int .u8 3)).setCell ⟨w.heap.size, 1, none⟩ (.int .u8 0)).setCell ⟨w.heap.size, 2, none⟩ (.int .u8 0)).setCell ⟨w.heap.size, 3, none⟩ (.int .i64 0)).setCell ⟨w.heap.size, 4, none⟩ (.int .u8 (fieldX t.x))).setCell ⟨w.heap.size, 5, none⟩ (.string ⟨#[]⟩)).setCell ⟨w.heap.size, 6, none⟩ (.slice none 0 0)).setCell ⟨w.heap.size, 7, none⟩ (.int .i64 t.p)) = Y) := eY
  have HY1 : Hid (Y.heap[w.heap.size]? = some (.cells (Nd.mk ⟨3, 0, 0, 0, (fieldX t.x), gE, t.p⟩ none 0 []).vals 52 (0, 0))) := hY1
  have HYY : Hid (_) := (⟨hY2, hY3, hY4, hY5⟩ : _ ∧ _ ∧ _ ∧ _)
  clear eY hY1 hY2 hY3 hY4 hY5
  refine wpAnyH_ready (rs := [5]) (by kernel_rfl) (by simp) ?_
  refine AllReadyH.cons rfl (fun K hK => ?_) AllReadyH.nil
  go_simp
  refine hK.out _ _ (by (repeat (first | with_reducible assumption | with_reducible apply MR.set))) (fun hHeld7 => ?_)
  clear hK K
  refine wpAnyH_done (by kernel_rfl) ?_ _
  rw [HEY.out]
  go_wp2_with fail
  exact bodyPost_ret (results_cell_row rfl _ _ w.heap.size 52 (Nd.mk ⟨3, 0, 0, 0, (fieldX t.x), gE, t.p⟩ none 0 []).vals (0, 0) _ rfl HY1.out Tryz.underlying52 rfl (by kernel_rfl)) rfl ⟨⟨_, rfl, rfl, HYY.out.1, HYY.out.2.1⟩, HYY.out.2.2.1, HYY.out.2.2.2⟩
set_option maxRecDepth 100000 in
set_option maxHeartbeats 8000000 in
theorem one_name (ex : List Tk → Except Ft (Tr × List Tk)) (hS : Subs ex) {w : World} {b G : Nat} {t : Tk} {ts : List Tk} {fa : Int} {fe : Value} {d : Nat} {a : Option Addr} {c : Nat} (h : Rdr w b G (t :: ts) fa fe d a c) (hT : ∀ x ∈ t :: ts, RgT x) (hd : d < 1000) (e1 : (t.x.toList == [40]) = false) (e2 : (t.x.toList == [104, 97, 115]) = false) (e3 : callX t.x = 0) (e4 : ¬ (1 ≤ tyX t.x ∧ tyX t.x ≤ 4)) (e5 : fieldX t.x = 0) (e6 : t.k = 2)
    (cE : d < 24 → ∀ v ts a c, Rdr v b G ts fa fe (d + 1) a c → (∀ t ∈ ts, RgT t) → Calls Tryz.prog 20 #[.pointer (some ⟨b, 0, none⟩)] v (OutN b G fa fe (d + 1) v (ex ts))) :
    Calls Tryz.prog 118 #[.pointer (some ⟨b, 0, none⟩)] w (OutN b G fa fe d w (.ok (.mk ⟨2, 0, 0, 0, 0, t.x, t.p⟩ [], ts))) := by
  have hb0 := below_new w (.cells #[.int .u8 0, .int .u8 0, .int .u8 0, .int .i64 0, .int .u8 0, .string ⟨#[]⟩, .slice none 0 0, .int .i64 0] 52)
  have h0 := h.on hb0
  have HBL : Hid (b < w.heap.size) := h.lt
  have HGL : Hid (G < w.heap.size) := h.gl
  have HTT : Hid (∀ x ∈ t :: ts, RgT x) := hT
  have X0 : BX w b G fa fe d (w.alloc (.cells #[.int .u8 0, .int .u8 0, .int .u8 0, .int .i64 0, .int .u8 0, .string ⟨#[]⟩, .slice none 0 0, .int .i64 0] 52)) [] (t :: ts) := ⟨Mv.ofBelow hb0, heap_new _ _, fun p hp => by simp at hp, ⟨a, c, h0⟩, hT⟩
  have X0 := X0.hid
  have cL := look_ok h0
  clear h hb0 h0 hT
  have n3 : (callX t.x != 0) = false := by rw [e3]; rfl
  have n4 : decide (1 ≤ tyX t.x ∧ tyX t.x ≤ 4) = false := decide_eq_false e4
  have n5 : (fieldX t.x != 0) = false := by rw [e5]; rfl
  have n6 : (t.k == 2) = true := by rw [e6]; rfl
  clear e6
  go_enter Tryz.func118, Tryz.ntmps118
  go_wp2_with fail
  refine cL.mono ?_
  rintro e w1 ⟨rfl, hb1⟩
  have X1 := (X0.out.on HBL.out hb1).on HBL.out (below_new w1 (.cells #[.int .u8 t.k, .string t.x, .int .u8 t.ty, .int .i64 t.n, .int .i64 t.p] 33))
  have HK1 : Hid ((w1.alloc (.cells #[.int .u8 t.k, .string t.x, .int .u8 t.ty, .int .i64 t.n, .int .i64 t.p] 33)).heap[w1.heap.size]? = some (.cells #[.int .u8 t.k, .string t.x, .int .u8 t.ty, .int .i64 t.n, .int .i64 t.p] 33 (0, 0))) := heap_new _ _
  obtain ⟨Tb, eTb⟩ : ∃ T, w1.heap.size = T := ⟨_, rfl⟩
  obtain ⟨V1, eV1⟩ : ∃ V, w1.alloc (.cells #[.int .u8 t.k, .string t.x, .int .u8 t.ty, .int .i64 t.n, .int .i64 t.p] 33) = V := ⟨_, rfl⟩
  have HV1 : Hid (w1.alloc (.cells #[.int .u8 t.k, .string t.x, .int .u8 t.ty, .int .i64 t.n, .int .i64 t.p] 33) = V1) := eV1
  have HTb : Hid (w.heap.size < Tb) := by rw [← eTb]; exact Nat.lt_of_lt_of_le (Array.getElem?_eq_some_iff.1 X0.out.Z).1 hb1.size
  rw [eV1] at X1 HK1
  rw [eTb] at HK1
  have X1 := X1.hid
  have t0 : V1.cell? ⟨Tb, 0, none⟩ = some (.int .u8 t.k) := cell_of HK1.out 0
  have t1 : V1.cell? ⟨Tb, 1, none⟩ = some (.string t.x) := cell_of HK1.out 1
  have t2 : V1.cell? ⟨Tb, 2, none⟩ = some (.int .u8 t.ty) := cell_of HK1.out 2
  have t3 : V1.cell? ⟨Tb, 3, none⟩ = some (.int .i64 t.n) := cell_of HK1.out 3
  have t4 : V1.cell? ⟨Tb, 4, none⟩ = some (.int .i64 t.p) := cell_of HK1.out 4
  have cx1 : (w1.alloc (.cells #[.int .u8 t.k, .string t.x, .int .u8 t.ty, .int .i64 t.n, .int .i64 t.p] 33)).cell? ⟨Tb, 1, none⟩ = some (.string t.x) := by rw [eV1]; exact t1
  clear cL hb1 X0 eV1
  unfold tkA
  go_wp2_with fail
  try rw [HV1.out]
  clear HV1 cx1
  refine (callOf_any t _).mono ?_
  rintro e V2 ⟨rfl, hb2⟩
  have X2 := (X1.out.on HBL.out hb2).hid
  have HK2 : Hid (V2.heap[Tb]? = some (.cells #[.int .u8 t.k, .string t.x, .int .u8 t.ty, .int .i64 t.n, .int .i64 t.p] 33 (0, 0))) := (hb2.block _ (Array.getElem?_eq_some_iff.1 HK1.out).1).trans HK1.out
  clear t0 t1 t2 t3 t4 hb2
  have t0 : V2.cell? ⟨Tb, 0, none⟩ = some (.int .u8 t.k) := cell_of HK2.out 0
  have t1 : V2.cell? ⟨Tb, 1, none⟩ = some (.string t.x) := cell_of HK2.out 1
  have t2 : V2.cell? ⟨Tb, 2, none⟩ = some (.int .u8 t.ty) := cell_of HK2.out 2
  have t3 : V2.cell? ⟨Tb, 3, none⟩ = some (.int .i64 t.n) := cell_of HK2.out 3
  have t4 : V2.cell? ⟨Tb, 4, none⟩ = some (.int .i64 t.p) := cell_of HK2.out 4
  go_wp2_with fail
  refine (typeOf_any t _).mono ?_
  rintro e V3 ⟨rfl, hb3⟩
  have X3 := (X2.out.on HBL.out hb3).hid
  have HK3 : Hid (V3.heap[Tb]? = some (.cells #[.int .u8 t.k, .string t.x, .int .u8 t.ty, .int .i64 t.n, .int .i64 t.p] 33 (0, 0))) := (hb3.block _ (Array.getElem?_eq_some_iff.1 HK2.out).1).trans HK2.out
  clear t0 t1 t2 t3 t4 hb3
  have t0 : V3.cell? ⟨Tb, 0, none⟩ = some (.int .u8 t.k) := cell_of HK3.out 0
  have t1 : V3.cell? ⟨Tb, 1, none⟩ = some (.string t.x) := cell_of HK3.out 1
  have t2 : V3.cell? ⟨Tb, 2, none⟩ = some (.int .u8 t.ty) := cell_of HK3.out 2
  have t3 : V3.cell? ⟨Tb, 3, none⟩ = some (.int .i64 t.n) := cell_of HK3.out 3
  have t4 : V3.cell? ⟨Tb, 4, none⟩ = some (.int .i64 t.p) := cell_of HK3.out 4
  go_wp2_with fail
  refine (number_any (tyX t.x) _).mono ?_
  rintro e V9 ⟨rfl, hV9⟩
  rw [hV9]
  clear hV9
  go_wp2_with fail
  refine (fieldOf_any t _).mono ?_
  rintro e V4 ⟨rfl, hb4⟩
  have X4 := (X3.out.on HBL.out hb4).hid
  have HK4 : Hid (V4.heap[Tb]? = some (.cells #[.int .u8 t.k, .string t.x, .int .u8 t.ty, .int .i64 t.n, .int .i64 t.p] 33 (0, 0))) := (hb4.block _ (Array.getElem?_eq_some_iff.1 HK3.out).1).trans HK3.out
  clear t0 t1 t2 t3 t4 hb4
  have t0 : V4.cell? ⟨Tb, 0, none⟩ = some (.int .u8 t.k) := cell_of HK4.out 0
  have t1 : V4.cell? ⟨Tb, 1, none⟩ = some (.string t.x) := cell_of HK4.out 1
  have t2 : V4.cell? ⟨Tb, 2, none⟩ = some (.int .u8 t.ty) := cell_of HK4.out 2
  have t3 : V4.cell? ⟨Tb, 3, none⟩ = some (.int .i64 t.n) := cell_of HK4.out 3
  have t4 : V4.cell? ⟨Tb, 4, none⟩ = some (.int .i64 t.p) := cell_of HK4.out 4
  go_wp2_with fail
  obtain ⟨a9, c9, h9⟩ := X4.out.R
  refine (step_ok h9).mono ?_
  rintro e w2 ⟨rfl, hr2, hm2⟩
  have XS := (X4.out.mv HBL.out hm2 hr2 (fun x hx => List.mem_cons_of_mem _ hx)).hid
  have HKS : Hid (w2.heap[Tb]? = some (.cells #[.int .u8 t.k, .string t.x, .int .u8 t.ty, .int .i64 t.n, .int .i64 t.p] 33 (0, 0))) := (hm2.block _ (Array.getElem?_eq_some_iff.1 HK4.out).1 (by have := HBL.out; have := HTb.out; omega)).trans HK4.out
  clear hm2 hr2 h9 t0 t1 t2 t3 t4
  have t0 : w2.cell? ⟨Tb, 0, none⟩ = some (.int .u8 t.k) := cell_of HKS.out 0
  have t1 : w2.cell? ⟨Tb, 1, none⟩ = some (.string t.x) := cell_of HKS.out 1
  have t2 : w2.cell? ⟨Tb, 2, none⟩ = some (.int .u8 t.ty) := cell_of HKS.out 2
  have t3 : w2.cell? ⟨Tb, 3, none⟩ = some (.int .i64 t.n) := cell_of HKS.out 3
  have t4 : w2.cell? ⟨Tb, 4, none⟩ = some (.int .i64 t.p) := cell_of HKS.out 4
  obtain ⟨hZ, Y, eY, hY1, hY2, hY3, hY4, hY5⟩ := XS.out.ret (k2 := 2) (o2 := 0) (ty2 := 0) (n2 := 0) (f2 := 0) (x2 := t.x) (p2 := t.p) (am2 := none) (cm2 := 0) (ks2 := []) HBL.out HGL.out (lies0 _ (rg_name (HTT.out t (by simp)))) (bkn0 _ _)
  have z0 : w2.cell? ⟨w.heap.size, 0, none⟩ = some (.int .u8 0) := cell_of hZ 0
  have q0 : w2.frozen? ⟨w.heap.size, 0, none⟩ = false := frozen_of hZ 0
  have z1 : w2.cell? ⟨w.heap.size, 1, none⟩ = some (.int .u8 0) := cell_of hZ 1
  have q1 : w2.frozen? ⟨w.heap.size, 1, none⟩ = false := frozen_of hZ 1
  have z2 : w2.cell? ⟨w.heap.size, 2, none⟩ = some (.int .u8 0) := cell_of hZ 2
  have q2 : w2.frozen? ⟨w.heap.size, 2, none⟩ = false := frozen_of hZ 2
  have z3 : w2.cell? ⟨w.heap.size, 3, none⟩ = some (.int .i64 0) := cell_of hZ 3
  have q3 : w2.frozen? ⟨w.heap.size, 3, none⟩ = false := frozen_of hZ 3
  have z4 : w2.cell? ⟨w.heap.size, 4, none⟩ = some (.int .u8 0) := cell_of hZ 4
  have q4 : w2.frozen? ⟨w.heap.size, 4, none⟩ = false := frozen_of hZ 4
  have z5 : w2.cell? ⟨w.heap.size, 5, none⟩ = some (.string ⟨#[]⟩) := cell_of hZ 5
  have q5 : w2.frozen? ⟨w.heap.size, 5, none⟩ = false := frozen_of hZ 5
  have z6 : w2.cell? ⟨w.heap.size, 6, none⟩ = some (.slice none 0 0) := cell_of hZ 6
  have q6 : w2.frozen? ⟨w.heap.size, 6, none⟩ = false := frozen_of hZ 6
  have z7 : w2.cell? ⟨w.heap.size, 7, none⟩ = some (.int .i64 0) := cell_of hZ 7
  have q7 : w2.frozen? ⟨w.heap.size, 7, none⟩ = false := frozen_of hZ 7
  have HEY : Hid (((((((((w2.setCell ⟨w.heap.size, 0, none⟩ (.int .u8 2)).setCell ⟨w.heap.size, 1, none⟩ (.int .u8 0)).setCell ⟨w.heap.size, 2, none⟩ (.int .u8 0)).setCell ⟨w.heap.size, 3, none⟩ (.int .i64 0)).setCell ⟨w.heap.size, 4, none⟩ (.int .u8 0)).setCell ⟨w.heap.size, 5, none⟩ (.string t.x)).setCell ⟨w.heap.size, 6, none⟩ (.slice none 0 0)).setCell ⟨w.heap.size, 7, none⟩ (.int .i64 t.p)) = Y) := eY
  have HY1 : Hid (Y.heap[w.heap.size]? = some (.cells (Nd.mk ⟨2, 0, 0, 0, 0, t.x, t.p⟩ none 0 []).vals 52 (0, 0))) := hY1
  have HYY : Hid (_) := (⟨hY2, hY3, hY4, hY5⟩ : _ ∧ _ ∧ _ ∧ _)
  clear eY hY1 hY2 hY3 hY4 hY5
  go_wp2_with fail
  rw [HEY.out]
  exact bodyPost_ret (results_cell_row rfl _ _ w.heap.size 52 (Nd.mk ⟨2, 0, 0, 0, 0, t.x, t.p⟩ none 0 []).vals (0, 0) _ rfl HY1.out Tryz.underlying52 rfl (by kernel_rfl)) rfl ⟨⟨_, rfl, rfl, HYY.out.1, HYY.out.2.1⟩, HYY.out.2.2.1, HYY.out.2.2.2⟩
end Go.Proofs.YtkfabnchhjfjjabGreatDoor
