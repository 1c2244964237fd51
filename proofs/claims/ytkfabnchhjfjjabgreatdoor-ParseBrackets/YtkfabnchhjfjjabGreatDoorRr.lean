/-
  row: parts, and operators between them.
-/
import Derived.Test.YtkfabnchhjfjjabGreatDoorRx1
import Derived.Test.YtkfabnchhjfjjabGreatDoorRy
import Derived.Test.YtkfabnchhjfjjabGreatDoorRn
namespace Go.Proofs.YtkfabnchhjfjjabGreatDoor
open Go.RowKit
/-- Between two rounds of a row: what has been read lies in the box N, and the tokens ahead. -/
structure RI (w : World) (b G N : Nat) (fa : Int) (fe : Value) (d : Nat) (wr : World) (m : Nd) (ts : List Tk) : Prop where
  M : Mv w wr (fun k => k = b)
  Z : wr.heap[w.heap.size]? = some (.cells #[.int .u8 0, .int .u8 0, .int .u8 0, .int .i64 0, .int .u8 0, .string ⟨#[]⟩, .slice none 0 0, .int .i64 0] 52 (0, 0))
  B : wr.heap[N]? = some (.cells m.vals 52 (0, 0))
  L : Lies wr m
  K : Bkn (fun k => w.heap.size < k ∧ k < wr.heap.size ∧ k ≠ N) m
  R : ∃ a c, Rdr wr b G ts fa fe d a c
  T : ∀ t ∈ ts, RgT t
theorem RI.on {w : World} {b G N : Nat} {fa : Int} {fe : Value} {d : Nat} {wr w' : World} {m : Nd} {ts : List Tk} (h : RI w b G N fa fe d wr m ts) (k : Below wr.heap.size wr w') : RI w b G N fa fe d w' m ts :=
  ⟨h.M.trans (Mv.ofBelow k) (fun _ e => .inl e), (k.block _ (Array.getElem?_eq_some_iff.1 h.Z).1).trans h.Z, (k.block _ (Array.getElem?_eq_some_iff.1 h.B).1).trans h.B, h.L.on k, h.K.mono fun j hj => ⟨hj.1, Nat.lt_of_lt_of_le hj.2.1 k.size, hj.2.2⟩, by obtain ⟨a, c, hr⟩ := h.R; exact ⟨a, c, hr.on k⟩, h.T⟩
theorem RI.hid {w : World} {b G N : Nat} {fa : Int} {fe : Value} {d : Nat} {wr : World} {m : Nd} {ts : List Tk} (h : RI w b G N fa fe d wr m ts) : Hid (RI w b G N fa fe d wr m ts) := h
theorem RI.fin {w : World} {b G N : Nat} {fa : Int} {fe : Value} {d : Nat} {W : World} {k2 o2 ty2 n2 f2 p2 : Int} {x2 : ByteArray} {am2 : Option Addr} {cm2 : Nat} {ks2 : List Nd} {ts : List Tk} (h : RI w b G N fa fe d W (.mk ⟨k2, o2, ty2, n2, f2, x2, p2⟩ am2 cm2 ks2) ts) (hb : b < w.heap.size) (hg : G < w.heap.size) :
    ∃ Y, ((((((((W.setCell ⟨w.heap.size, 0, none⟩ (.int .u8 k2)).setCell ⟨w.heap.size, 1, none⟩ (.int .u8 o2)).setCell ⟨w.heap.size, 2, none⟩ (.int .u8 ty2)).setCell ⟨w.heap.size, 3, none⟩ (.int .i64 n2)).setCell ⟨w.heap.size, 4, none⟩ (.int .u8 f2)).setCell ⟨w.heap.size, 5, none⟩ (.string x2)).setCell ⟨w.heap.size, 6, none⟩ (.slice am2 ks2.length cm2)).setCell ⟨w.heap.size, 7, none⟩ (.int .i64 p2)) = Y ∧ Y.heap[w.heap.size]? = some (.cells (Nd.mk ⟨k2, o2, ty2, n2, f2, x2, p2⟩ am2 cm2 ks2).vals 52 (0, 0)) ∧ Lies Y (.mk ⟨k2, o2, ty2, n2, f2, x2, p2⟩ am2 cm2 ks2) ∧ Bkn (fun k => w.heap.size ≤ k ∧ k < Y.heap.size) (.mk ⟨k2, o2, ty2, n2, f2, x2, p2⟩ am2 cm2 ks2) ∧ (∃ a c, Rdr Y b G ts fa fe d a c) ∧ Mv w Y (fun k => k = b) := by
  obtain ⟨Y, eY, hY1, hY2, hY3, hY4⟩ := fin8 h.Z (.int .u8 k2) (.int .u8 o2) (.int .u8 ty2) (.int .i64 n2) (.int .u8 f2) (.string x2) (.slice am2 ks2.length cm2) (.int .i64 p2)
  refine ⟨Y, eY, hY1, h.L.bkn h.K fun j hj => hY3 j (by omega), h.K.mono fun j hj => by omega, ?_, hY4 _ _ h.M (Nat.le_refl _)⟩
  obtain ⟨a, c, hr⟩ := h.R
  exact ⟨a, c, hr.blk (hY3 _ (by omega)) (hY3 _ (by omega)) (by omega)⟩
/-- One round more: what has been read, the operator, and the next part. -/
theorem RI.next {w : World} {b G N : Nat} {fa : Int} {fe : Value} {d : Nat} {W : World} {k2 o2 ty2 n2 f2 p2 k3 o3 ty3 n3 f3 p3 : Int} {x2 x3 : ByteArray} {am2 am3 : Option Addr} {cm2 cm3 : Nat} {ks2 ks3 : List Nd} {ts : List Tk} {q p : Int} (h : RI w b G N fa fe d W (.mk ⟨k2, o2, ty2, n2, f2, x2, p2⟩ am2 cm2 ks2) ts)
    (hb : b < w.heap.size) (hg : G < w.heap.size) (hN : w.heap.size < N) (hl : Lies W (.mk ⟨k3, o3, ty3, n3, f3, x3, p3⟩ am3 cm3 ks3)) (hk : Bkn (fun k => w.heap.size < k ∧ k < W.heap.size ∧ k ≠ N) (.mk ⟨k3, o3, ty3, n3, f3, x3, p3⟩ am3 cm3 ks3)) (hr : Rg ⟨6, q, 0, 0, 0, gE, p⟩) :
    RI w b G N fa fe d ((((((((((W.setCell ⟨N, 0, none⟩ (.int .u8 6)).setCell ⟨N, 1, none⟩ (.int .u8 q)).setCell ⟨N, 2, none⟩ (.int .u8 0)).setCell ⟨N, 3, none⟩ (.int .i64 0)).setCell ⟨N, 4, none⟩ (.int .u8 0)).setCell ⟨N, 5, none⟩ (.string ⟨#[]⟩)).setCell ⟨N, 6, none⟩ (.slice (some ⟨W.heap.size + 1, 0, none⟩) 2 2)).setCell ⟨N, 7, none⟩ (.int .i64 p)).alloc (.cells #[.int .u8 k3, .int .u8 o3, .int .u8 ty3, .int .i64 n3, .int .u8 f3, .string x3, .slice am3 ks3.length cm3, .int .i64 p3] 52)).alloc (.cells #[.int .u8 k2, .int .u8 o2, .int .u8 ty2, .int .i64 n2, .int .u8 f2, .string x2, .slice am2 ks2.length cm2, .int .i64 p2, .int .u8 k3, .int .u8 o3, .int .u8 ty3, .int .i64 n3, .int .u8 f3, .string x3, .slice am3 ks3.length cm3, .int .i64 p3] 52)) (.mk ⟨6, q, 0, 0, 0, gE, p⟩ (some ⟨W.heap.size + 1, 0, none⟩) 2 [(.mk ⟨k2, o2, ty2, n2, f2, x2, p2⟩ am2 cm2 ks2), (.mk ⟨k3, o3, ty3, n3, f3, x3, p3⟩ am3 cm3 ks3)]) ts := by
  obtain ⟨Y, eY, hY1, hY2, hY3, hY4⟩ := fin8 h.B (.int .u8 6) (.int .u8 q) (.int .u8 0) (.int .i64 0) (.int .u8 0) (.string ⟨#[]⟩) (.slice (some ⟨W.heap.size + 1, 0, none⟩) 2 2) (.int .i64 p)
  rw [eY]
  clear eY
  have hNW : N < W.heap.size := (Array.getElem?_eq_some_iff.1 h.B).1
  have b1 := below_new Y (.cells #[.int .u8 k3, .int .u8 o3, .int .u8 ty3, .int .i64 n3, .int .u8 f3, .string x3, .slice am3 ks3.length cm3, .int .i64 p3] 52)
  have s1 : (Y.alloc (.cells #[.int .u8 k3, .int .u8 o3, .int .u8 ty3, .int .i64 n3, .int .u8 f3, .string x3, .slice am3 ks3.length cm3, .int .i64 p3] 52)).heap.size = W.heap.size + 1 := by rw [size_alloc, hY2]
  obtain ⟨U, eU⟩ : ∃ U, Y.alloc (.cells #[.int .u8 k3, .int .u8 o3, .int .u8 ty3, .int .i64 n3, .int .u8 f3, .string x3, .slice am3 ks3.length cm3, .int .i64 p3] 52) = U := ⟨_, rfl⟩
  rw [eU] at b1 s1 ⊢
  clear eU
  have b2 := below_new U (.cells #[.int .u8 k2, .int .u8 o2, .int .u8 ty2, .int .i64 n2, .int .u8 f2, .string x2, .slice am2 ks2.length cm2, .int .i64 p2, .int .u8 k3, .int .u8 o3, .int .u8 ty3, .int .i64 n3, .int .u8 f3, .string x3, .slice am3 ks3.length cm3, .int .i64 p3] 52)
  have hB := heap_new U (.cells #[.int .u8 k2, .int .u8 o2, .int .u8 ty2, .int .i64 n2, .int .u8 f2, .string x2, .slice am2 ks2.length cm2, .int .i64 p2, .int .u8 k3, .int .u8 o3, .int .u8 ty3, .int .i64 n3, .int .u8 f3, .string x3, .slice am3 ks3.length cm3, .int .i64 p3] 52)
  rw [s1] at hB
  have s2 : (U.alloc (.cells #[.int .u8 k2, .int .u8 o2, .int .u8 ty2, .int .i64 n2, .int .u8 f2, .string x2, .slice am2 ks2.length cm2, .int .i64 p2, .int .u8 k3, .int .u8 o3, .int .u8 ty3, .int .i64 n3, .int .u8 f3, .string x3, .slice am3 ks3.length cm3, .int .i64 p3] 52)).heap.size = W.heap.size + 2 := by rw [size_alloc, s1]
  obtain ⟨Z, eZ⟩ : ∃ Z, U.alloc (.cells #[.int .u8 k2, .int .u8 o2, .int .u8 ty2, .int .i64 n2, .int .u8 f2, .string x2, .slice am2 ks2.length cm2, .int .i64 p2, .int .u8 k3, .int .u8 o3, .int .u8 ty3, .int .i64 n3, .int .u8 f3, .string x3, .slice am3 ks3.length cm3, .int .i64 p3] 52) = Z := ⟨_, rfl⟩
  rw [eZ] at b2 hB s2 ⊢
  clear eZ
  have hZ : ∀ k, k < W.heap.size → k ≠ N → Z.heap[k]? = W.heap[k]? := fun k h1 h2 => ((b2.block k (by omega)).trans (b1.block k (by omega))).trans (hY3 k h2)
  refine ⟨((hY4 _ _ h.M (by omega)).trans (Mv.ofBelow b1) (fun _ e => .inl e)).trans (Mv.ofBelow b2) (fun _ e => .inl e), (hZ _ (by omega) (by omega)).trans h.Z, ((b2.block N (by omega)).trans (b1.block N (by omega))).trans hY1, ?_, ?_, ?_, h.T⟩
  · refine .mk _ _ _ _ hr (by simp) (by simp) ?_ ?_
    · intro i hi
      refine ⟨W.heap.size + 1, 0, rfl, ?_⟩
      match i, hi with
      | 0, _ => exact ⟨cell_of hB 0, cell_of hB 1, cell_of hB 2, cell_of hB 3, cell_of hB 4, cell_of hB 5, cell_of hB 6, cell_of hB 7⟩
      | 1, _ => exact ⟨cell_of hB 8, cell_of hB 9, cell_of hB 10, cell_of hB 11, cell_of hB 12, cell_of hB 13, cell_of hB 14, cell_of hB 15⟩
    · intro k hk'
      rcases List.mem_cons.1 hk' with e | e
      · rw [e]; exact h.L.bkn h.K fun j hj => hZ j hj.2.1 hj.2.2
      · obtain rfl := List.mem_singleton.1 e
        exact hl.bkn hk fun j hj => hZ j hj.2.1 hj.2.2
  · refine .mk _ _ _ _ (fun b' o e => ?_) ?_
    · injection e with e; injection e with e; omega
    · intro k hk'
      rcases List.mem_cons.1 hk' with e | e
      · rw [e]; exact h.K.mono fun j hj => ⟨hj.1, by omega, hj.2.2⟩
      · obtain rfl := List.mem_singleton.1 e
        exact hk.mono fun j hj => ⟨hj.1, by omega, hj.2.2⟩
  · obtain ⟨a, c, hr⟩ := h.R
    exact ⟨a, c, hr.blk (hZ _ (by omega) (by omega)) (hZ _ (by omega) (by omega)) (by omega)⟩
theorem gRowR_s (oper : ByteArray → Int) (part : List Tk → Except Ft (Tr × List Tk)) (m : Nat) (n : Tr) (t : Tk) (ts : List Tk) : gRowR oper part (m + 1) n (t :: ts) = if oper t.x = 0 then .ok (n, t :: ts) else match part ts with | .error e => .error e | .ok q => gRowR oper part m (.mk ⟨6, oper t.x, 0, 0, 0, gE, t.p⟩ [n, q.1]) q.2 := by
  by_cases e : oper t.x = 0
  · simp [gRowR, gLook, bind, Except.bind, e]
  · simp only [gRowR, gLook, gStep, bind, Except.bind, if_neg e]
    cases part ts with
    | error e => rfl
    | ok q => rfl
theorem gRow_err {oper : ByteArray → Int} {part : List Tk → Except Ft (Tr × List Tk)} {most : Nat} {ts : List Tk} {f : Ft} (h : part ts = .error f) : gRow oper part most ts = .error f := by simp only [gRow, bind, Except.bind, h]
theorem gRow_ok {oper : ByteArray → Int} {part : List Tk → Except Ft (Tr × List Tk)} {most : Nat} {ts r : List Tk} {t : Tr} (h : part ts = .ok (t, r)) : gRow oper part most ts = gRowR oper part most t r := by simp only [gRow, bind, Except.bind, h]
set_option maxRecDepth 100000 in
set_option maxHeartbeats 4000000 in
theorem row_any (O P : Nat) (hO : ∀ args v, Sem.run Tryz.prog (callFunc O args) v = .ok (.enter O args) v) (hP : ∀ args v, Sem.run Tryz.prog (callFunc P args) v = .ok (.enter P args) v)
    (oper : ByteArray → Int) (part : List Tk → Except Ft (Tr × List Tk)) (hS : ∀ ts t r, part ts = .ok (t, r) → ∀ x ∈ r, x ∈ ts) (ho : ∀ x, 0 ≤ oper x ∧ oper x ≤ 255)
    {w : World} {b G : Nat} {ts : List Tk} {fa : Int} {fe : Value} {d : Nat} {a : Option Addr} {c : Nat} (h : Rdr w b G ts fa fe d a c) (hT : ∀ t ∈ ts, RgT t) (most : Nat) (hm : most ≤ 4096)
    (c1 : ∀ v t ts a c, Rdr v b G (t :: ts) fa fe d a c → Calls Tryz.prog O #[.pointer (some ⟨b, 0, none⟩)] v fun e w' => e = .returned (.int .u8 (oper t.x)) ∧ Below v.heap.size v w')
    (c0 : ∀ v a c, Rdr v b G [] fa fe d a c → Calls Tryz.prog O #[.pointer (some ⟨b, 0, none⟩)] v fun e w' => e = pan (ftV fa fe .lex) ∧ Below v.heap.size v w')
    (cP : ∀ v ts a c, Rdr v b G ts fa fe d a c → (∀ t ∈ ts, RgT t) → Calls Tryz.prog P #[.pointer (some ⟨b, 0, none⟩)] v (OutN b G fa fe d v (part ts))) :
    Calls Tryz.prog 65 #[.pointer (some ⟨b, 0, none⟩), .func (.func O) #[.pointer (some ⟨b, 0, none⟩)] #[], .func (.func P) #[.pointer (some ⟨b, 0, none⟩)] #[], .int .i64 most] w (OutN b G fa fe d w (gRow oper part most ts)) := by
  have hb0 := below_new w (.cells #[.int .u8 0, .int .u8 0, .int .u8 0, .int .i64 0, .int .u8 0, .string ⟨#[]⟩, .slice none 0 0, .int .i64 0] 52)
  have h0 := h.on hb0
  have HBL : Hid (b < w.heap.size) := h.lt
  have HGL : Hid (G < w.heap.size) := h.gl
  have HK0 : Hid ((w.alloc (.cells #[.int .u8 0, .int .u8 0, .int .u8 0, .int .i64 0, .int .u8 0, .string ⟨#[]⟩, .slice none 0 0, .int .i64 0] 52)).heap[w.heap.size]? = some (.cells #[.int .u8 0, .int .u8 0, .int .u8 0, .int .i64 0, .int .u8 0, .string ⟨#[]⟩, .slice none 0 0, .int .i64 0] 52 (0, 0))) := heap_new _ _
  have HM0 : Hid (Mv w (w.alloc (.cells #[.int .u8 0, .int .u8 0, .int .u8 0, .int .i64 0, .int .u8 0, .string ⟨#[]⟩, .slice none 0 0, .int .i64 0] 52)) (fun k => k = b)) := Mv.ofBelow hb0
  have cC := cP _ _ _ _ h0 hT
  have HS : Hid (∀ ts t r, part ts = .ok (t, r) → ∀ x ∈ r, x ∈ ts) := hS
  have HO : Hid (∀ x, 0 ≤ oper x ∧ oper x ≤ 255) := ho
  have HT : Hid (∀ t ∈ ts, RgT t) := hT
  clear h h0 hb0 hS ho hT
  obtain ⟨r, er⟩ : ∃ r, part ts = r := ⟨_, rfl⟩
  rw [er] at cC
  have HER : Hid (part ts = r) := er
  clear er
  cases r with
  | error f =>
    rw [gRow_err HER.out]
    clear c1 c0 cP
    go_enter Tryz.func65, Tryz.ntmps65
    go_wp2_with fail
    refine cC.mono ?_
    rintro e w1 ⟨rfl, hm⟩
    exact ⟨rfl, rfl, HM0.out.trans hm (fun k e => .inl e)⟩
  | ok q =>
    obtain ⟨t1, ts1⟩ := q
    obtain ⟨X, eX⟩ : ∃ X, gRowR oper part most t1 ts1 = X := ⟨_, rfl⟩
    have HX : Hid (gRowR oper part most t1 ts1 = X) := eX
    rw [gRow_ok HER.out, eX]
    clear eX
    go_enter Tryz.func65, Tryz.ntmps65
    go_wp2_with fail
    refine cC.mono ?_
    rintro e w1 ⟨⟨m, rfl, rfl, hl, hk⟩, ⟨a', c', hr⟩, hm1⟩
    have HT1 : Hid (∀ t ∈ ts1, RgT t) := fun t ht => HT.out t (HS.out _ _ _ HER.out t ht)
    have hWs : w.heap.size < (w.alloc (.cells #[.int .u8 0, .int .u8 0, .int .u8 0, .int .i64 0, .int .u8 0, .string ⟨#[]⟩, .slice none 0 0, .int .i64 0] 52)).heap.size := (Array.getElem?_eq_some_iff.1 HK0.out).1
    have hsz := hm1.size
    have HI : Hid (RI w b G w1.heap.size fa fe d (w1.alloc (.cells m.vals 52)) m ts1) := by
      have hbN := below_new w1 (.cells m.vals 52)
      refine ⟨(HM0.out.trans hm1 (fun k e => .inl e)).trans (Mv.ofBelow hbN) (fun k e => .inl e), (hbN.block _ (by omega)).trans ((hm1.block _ hWs (fun e => by have := HBL.out; omega)).trans HK0.out), heap_new _ _, hl.on hbN, hk.mono fun j hj => ⟨by omega, Nat.lt_of_lt_of_le hj.2 hbN.size, by omega⟩, ⟨a', c', hr.on hbN⟩, HT1.out⟩
    have HW1 : Hid (w.heap.size < w1.heap.size) := by show _ < _; omega
    clear cC hr hm1 hl hk hsz hWs HT1 HER
    obtain ⟨⟨k, o, ty, n, f, x, p⟩, am, cm, ks⟩ := m
    simp only [Nd.vals, Nd.h, Nd.a, Nd.c, Nd.ks, hdA] at HI ⊢
    go_wp2_with fail
    go_loopw [10, 11, 12, 16] (fun _ _ _ t wr => ∃ (i : Nat) (m : Nd) (ts : List Tk), i ≤ most ∧ t = .int .i64 i ∧ Hid (RI w b G w1.heap.size fa fe d wr m ts) ∧ Hid (gRowR oper part (most - i) (treeOf m) ts = X)) (fun _ _ _ t _ => most - (intOf t).toNat)
    case atStart => exact ⟨0, _, _, by omega, rfl, HI, HX⟩
    case round =>
      obtain ⟨i, m, ts2, hi, rfl, HI2, HX2⟩ := hrel
      obtain ⟨⟨k2, o2, ty2, n2, f2, x2, p2⟩, am2, cm2, ks2⟩ := m
      by_cases him : i = most
      · subst him
        have hX3 := HX2.out
        rw [Nat.sub_self] at hX3
        simp only [gRowR] at hX3
        subst hX3
        clear HX HX2 c1 c0 cP HI
        have y0 : wr.cell? ⟨w1.heap.size, 0, none⟩ = some (.int .u8 k2) := cell_of HI2.out.B 0
        have z0 : wr.cell? ⟨w.heap.size, 0, none⟩ = some (.int .u8 0) := cell_of HI2.out.Z 0
        have q0 : wr.frozen? ⟨w.heap.size, 0, none⟩ = false := frozen_of HI2.out.Z 0
        have y1 : wr.cell? ⟨w1.heap.size, 1, none⟩ = some (.int .u8 o2) := cell_of HI2.out.B 1
        have z1 : wr.cell? ⟨w.heap.size, 1, none⟩ = some (.int .u8 0) := cell_of HI2.out.Z 1
        have q1 : wr.frozen? ⟨w.heap.size, 1, none⟩ = false := frozen_of HI2.out.Z 1
        have y2 : wr.cell? ⟨w1.heap.size, 2, none⟩ = some (.int .u8 ty2) := cell_of HI2.out.B 2
        have z2 : wr.cell? ⟨w.heap.size, 2, none⟩ = some (.int .u8 0) := cell_of HI2.out.Z 2
        have q2 : wr.frozen? ⟨w.heap.size, 2, none⟩ = false := frozen_of HI2.out.Z 2
        have y3 : wr.cell? ⟨w1.heap.size, 3, none⟩ = some (.int .i64 n2) := cell_of HI2.out.B 3
        have z3 : wr.cell? ⟨w.heap.size, 3, none⟩ = some (.int .i64 0) := cell_of HI2.out.Z 3
        have q3 : wr.frozen? ⟨w.heap.size, 3, none⟩ = false := frozen_of HI2.out.Z 3
        have y4 : wr.cell? ⟨w1.heap.size, 4, none⟩ = some (.int .u8 f2) := cell_of HI2.out.B 4
        have z4 : wr.cell? ⟨w.heap.size, 4, none⟩ = some (.int .u8 0) := cell_of HI2.out.Z 4
        have q4 : wr.frozen? ⟨w.heap.size, 4, none⟩ = false := frozen_of HI2.out.Z 4
        have y5 : wr.cell? ⟨w1.heap.size, 5, none⟩ = some (.string x2) := cell_of HI2.out.B 5
        have z5 : wr.cell? ⟨w.heap.size, 5, none⟩ = some (.string ⟨#[]⟩) := cell_of HI2.out.Z 5
        have q5 : wr.frozen? ⟨w.heap.size, 5, none⟩ = false := frozen_of HI2.out.Z 5
        have y6 : wr.cell? ⟨w1.heap.size, 6, none⟩ = some (.slice am2 ks2.length cm2) := cell_of HI2.out.B 6
        have z6 : wr.cell? ⟨w.heap.size, 6, none⟩ = some (.slice none 0 0) := cell_of HI2.out.Z 6
        have q6 : wr.frozen? ⟨w.heap.size, 6, none⟩ = false := frozen_of HI2.out.Z 6
        have y7 : wr.cell? ⟨w1.heap.size, 7, none⟩ = some (.int .i64 p2) := cell_of HI2.out.B 7
        have z7 : wr.cell? ⟨w.heap.size, 7, none⟩ = some (.int .i64 0) := cell_of HI2.out.Z 7
        have q7 : wr.frozen? ⟨w.heap.size, 7, none⟩ = false := frozen_of HI2.out.Z 7
        obtain ⟨Y, eY, hY1, hY2, hY3, hY4, hY5⟩ := HI2.out.fin HBL.out HGL.out
        have HEY : Hid (_ = Y) := eY
        have HY1 : Hid (Y.heap[w.heap.size]? = some (.cells (Nd.mk ⟨k2, o2, ty2, n2, f2, x2, p2⟩ am2 cm2 ks2).vals 52 (0, 0))) := hY1
        have HYY : Hid (Lies Y (.mk ⟨k2, o2, ty2, n2, f2, x2, p2⟩ am2 cm2 ks2) ∧ Bkn (fun k => w.heap.size ≤ k ∧ k < Y.heap.size) (.mk ⟨k2, o2, ty2, n2, f2, x2, p2⟩ am2 cm2 ks2) ∧ (∃ a c, Rdr Y b G ts2 fa fe d a c) ∧ Mv w Y (fun k => k = b)) := ⟨hY2, hY3, hY4, hY5⟩
        clear eY hY1 hY2 hY3 hY4 hY5
        go_wp2_with fail
        rw [HEY.out]
        exact bodyPost_ret (results_cell_row rfl _ _ w.heap.size 52 (Nd.mk ⟨k2, o2, ty2, n2, f2, x2, p2⟩ am2 cm2 ks2).vals (0, 0) _ rfl HY1.out Tryz.underlying52 rfl (by kernel_rfl)) rfl ⟨⟨_, rfl, rfl, HYY.out.1, HYY.out.2.1⟩, HYY.out.2.2.1, HYY.out.2.2.2⟩
      have hlt : (i : Int) < most := by omega
      have hm2 : most - i = (most - i - 1) + 1 := by omega
      have HM2 : Hid (most - i = (most - i - 1) + 1) := hm2
      have hX3 := HX2.out
      rw [hm2] at hX3
      clear hm2 HX2
      cases ts2 with
      | nil =>
        simp only [gRowR, gLook, bind, Except.bind] at hX3
        subst hX3
        obtain ⟨a5, c5, hr5⟩ := HI2.out.R
        have cO := c0 wr _ _ hr5
        clear HX c1 c0 cP HI hr5
        go_wp2_with fail
        refine cO.mono ?_
        rintro e w3 ⟨rfl, hb⟩
        exact ⟨rfl, rfl, HI2.out.M.trans (Mv.ofBelow hb) (fun k e => .inl e)⟩
      | cons t ts2 =>
        obtain ⟨a5, c5, hr5⟩ := HI2.out.R
        have cO := c1 wr _ _ _ _ hr5
        have hq := HO.out t.x
        rw [gRowR_s] at hX3
        obtain ⟨q, eq⟩ : ∃ q, oper t.x = q := ⟨_, rfl⟩
        rw [eq] at hX3 cO hq
        clear eq hr5
        by_cases hq0 : q = 0
        · rw [if_pos hq0] at hX3
          subst hX3
          subst hq0
          clear HX c1 c0 cP HI
          go_wp2_with fail
          refine cO.mono ?_
          rintro e w3 ⟨rfl, hb⟩
          have HI3 := (HI2.out.on hb).hid
          clear hb cO
          have y0 : w3.cell? ⟨w1.heap.size, 0, none⟩ = some (.int .u8 k2) := cell_of HI3.out.B 0
          have z0 : w3.cell? ⟨w.heap.size, 0, none⟩ = some (.int .u8 0) := cell_of HI3.out.Z 0
          have q0 : w3.frozen? ⟨w.heap.size, 0, none⟩ = false := frozen_of HI3.out.Z 0
          have y1 : w3.cell? ⟨w1.heap.size, 1, none⟩ = some (.int .u8 o2) := cell_of HI3.out.B 1
          have z1 : w3.cell? ⟨w.heap.size, 1, none⟩ = some (.int .u8 0) := cell_of HI3.out.Z 1
          have q1 : w3.frozen? ⟨w.heap.size, 1, none⟩ = false := frozen_of HI3.out.Z 1
          have y2 : w3.cell? ⟨w1.heap.size, 2, none⟩ = some (.int .u8 ty2) := cell_of HI3.out.B 2
          have z2 : w3.cell? ⟨w.heap.size, 2, none⟩ = some (.int .u8 0) := cell_of HI3.out.Z 2
          have q2 : w3.frozen? ⟨w.heap.size, 2, none⟩ = false := frozen_of HI3.out.Z 2
          have y3 : w3.cell? ⟨w1.heap.size, 3, none⟩ = some (.int .i64 n2) := cell_of HI3.out.B 3
          have z3 : w3.cell? ⟨w.heap.size, 3, none⟩ = some (.int .i64 0) := cell_of HI3.out.Z 3
          have q3 : w3.frozen? ⟨w.heap.size, 3, none⟩ = false := frozen_of HI3.out.Z 3
          have y4 : w3.cell? ⟨w1.heap.size, 4, none⟩ = some (.int .u8 f2) := cell_of HI3.out.B 4
          have z4 : w3.cell? ⟨w.heap.size, 4, none⟩ = some (.int .u8 0) := cell_of HI3.out.Z 4
          have q4 : w3.frozen? ⟨w.heap.size, 4, none⟩ = false := frozen_of HI3.out.Z 4
          have y5 : w3.cell? ⟨w1.heap.size, 5, none⟩ = some (.string x2) := cell_of HI3.out.B 5
          have z5 : w3.cell? ⟨w.heap.size, 5, none⟩ = some (.string ⟨#[]⟩) := cell_of HI3.out.Z 5
          have q5 : w3.frozen? ⟨w.heap.size, 5, none⟩ = false := frozen_of HI3.out.Z 5
          have y6 : w3.cell? ⟨w1.heap.size, 6, none⟩ = some (.slice am2 ks2.length cm2) := cell_of HI3.out.B 6
          have z6 : w3.cell? ⟨w.heap.size, 6, none⟩ = some (.slice none 0 0) := cell_of HI3.out.Z 6
          have q6 : w3.frozen? ⟨w.heap.size, 6, none⟩ = false := frozen_of HI3.out.Z 6
          have y7 : w3.cell? ⟨w1.heap.size, 7, none⟩ = some (.int .i64 p2) := cell_of HI3.out.B 7
          have z7 : w3.cell? ⟨w.heap.size, 7, none⟩ = some (.int .i64 0) := cell_of HI3.out.Z 7
          have q7 : w3.frozen? ⟨w.heap.size, 7, none⟩ = false := frozen_of HI3.out.Z 7
          obtain ⟨Y, eY, hY1, hY2, hY3, hY4, hY5⟩ := HI3.out.fin HBL.out HGL.out
          have HEY : Hid (_ = Y) := eY
          have HY1 : Hid (Y.heap[w.heap.size]? = some (.cells (Nd.mk ⟨k2, o2, ty2, n2, f2, x2, p2⟩ am2 cm2 ks2).vals 52 (0, 0))) := hY1
          have HYY : Hid (Lies Y (.mk ⟨k2, o2, ty2, n2, f2, x2, p2⟩ am2 cm2 ks2) ∧ Bkn (fun k => w.heap.size ≤ k ∧ k < Y.heap.size) (.mk ⟨k2, o2, ty2, n2, f2, x2, p2⟩ am2 cm2 ks2) ∧ (∃ a c, Rdr Y b G (t :: ts2) fa fe d a c) ∧ Mv w Y (fun k => k = b)) := ⟨hY2, hY3, hY4, hY5⟩
          clear eY hY1 hY2 hY3 hY4 hY5
          go_wp2_with fail
          rw [HEY.out]
          exact bodyPost_ret (results_cell_row rfl _ _ w.heap.size 52 (Nd.mk ⟨k2, o2, ty2, n2, f2, x2, p2⟩ am2 cm2 ks2).vals (0, 0) _ rfl HY1.out Tryz.underlying52 rfl (by kernel_rfl)) rfl ⟨⟨_, rfl, rfl, HYY.out.1, HYY.out.2.1⟩, HYY.out.2.2.1, HYY.out.2.2.2⟩
        · rw [if_neg hq0] at hX3
          have HX3 : Hid (_ = X) := hX3
          have hq1 : decide (q = 0) = false := decide_eq_false hq0
          have hq2 : (q == 0) = false := by simpa using hq0
          have hf4 := fun v => field82_4 t v
          clear hX3
          go_wp2_with fail
          refine cO.mono ?_
          rintro e w3 ⟨rfl, hb⟩
          have HI3 := (HI2.out.on hb).hid
          obtain ⟨a6, c6, hr6⟩ := HI3.out.R
          have cS := step_ok hr6
          clear hb cO hr6
          go_wp2_with fail
          refine cS.mono ?_
          rintro e w4 ⟨rfl, ⟨a7, c7, hr7⟩, hm7⟩
          have HM7 : Hid (Mv w3 w4 (fun k => k = b)) := hm7
          have HR7 := hr7.hid
          have HT7 : Hid (∀ t ∈ ts2, RgT t) := fun y hy => HI3.out.T y (List.mem_cons_of_mem _ hy)
          have cQ := cP w4 _ _ _ hr7 HT7.out
          obtain ⟨r2, er2⟩ : ∃ r2, part ts2 = r2 := ⟨_, rfl⟩
          have HR2 : Hid (part ts2 = r2) := er2
          have hX4 := HX3.out
          rw [er2] at hX4 cQ
          clear cS hm7 hr7 HX3 er2
          cases r2 with
          | error f =>
            simp only at hX4
            subst hX4
            clear HX c1 c0 cP HI
            go_wp2_with fail
            refine cQ.mono ?_
            rintro e w5 ⟨rfl, hm8⟩
            exact ⟨rfl, rfl, (HI3.out.M.trans HM7.out (fun k e => .inl e)).trans hm8 (fun k e => .inl e)⟩
          | ok q2 =>
            obtain ⟨t2, ts4⟩ := q2
            simp only at hX4
            have HX4 : Hid (_ = X) := hX4
            clear hX4
            go_wp2_with fail
            refine cQ.mono ?_
            rintro e w5 ⟨⟨m3, rfl, rfl, hl, hk⟩, ⟨a8, c8, hr8⟩, hm8⟩
            obtain ⟨⟨k3, o3, ty3, n3, f3, x3, p3⟩, am3, cm3, ks3⟩ := m3
            have h4N : w4.heap[w1.heap.size]? = some (.cells (Nd.mk ⟨k2, o2, ty2, n2, f2, x2, p2⟩ am2 cm2 ks2).vals 52 (0, 0)) := (HM7.out.block _ (Array.getElem?_eq_some_iff.1 HI3.out.B).1 (fun e => by have := HBL.out; have := HW1.out; omega)).trans HI3.out.B
            have h5N : w5.heap[w1.heap.size]? = some (.cells (Nd.mk ⟨k2, o2, ty2, n2, f2, x2, p2⟩ am2 cm2 ks2).vals 52 (0, 0)) := (hm8.block _ (Array.getElem?_eq_some_iff.1 h4N).1 (fun e => by have := HBL.out; have := HW1.out; omega)).trans h4N
            have hN5 : w1.heap.size < w5.heap.size := (Array.getElem?_eq_some_iff.1 h5N).1
            have y0 : w5.cell? ⟨w1.heap.size, 0, none⟩ = some (.int .u8 k2) := cell_of h5N 0
            have g0 : w5.frozen? ⟨w1.heap.size, 0, none⟩ = false := frozen_of h5N 0
            have y1 : w5.cell? ⟨w1.heap.size, 1, none⟩ = some (.int .u8 o2) := cell_of h5N 1
            have g1 : w5.frozen? ⟨w1.heap.size, 1, none⟩ = false := frozen_of h5N 1
            have y2 : w5.cell? ⟨w1.heap.size, 2, none⟩ = some (.int .u8 ty2) := cell_of h5N 2
            have g2 : w5.frozen? ⟨w1.heap.size, 2, none⟩ = false := frozen_of h5N 2
            have y3 : w5.cell? ⟨w1.heap.size, 3, none⟩ = some (.int .i64 n2) := cell_of h5N 3
            have g3 : w5.frozen? ⟨w1.heap.size, 3, none⟩ = false := frozen_of h5N 3
            have y4 : w5.cell? ⟨w1.heap.size, 4, none⟩ = some (.int .u8 f2) := cell_of h5N 4
            have g4 : w5.frozen? ⟨w1.heap.size, 4, none⟩ = false := frozen_of h5N 4
            have y5 : w5.cell? ⟨w1.heap.size, 5, none⟩ = some (.string x2) := cell_of h5N 5
            have g5 : w5.frozen? ⟨w1.heap.size, 5, none⟩ = false := frozen_of h5N 5
            have y6 : w5.cell? ⟨w1.heap.size, 6, none⟩ = some (.slice am2 ks2.length cm2) := cell_of h5N 6
            have g6 : w5.frozen? ⟨w1.heap.size, 6, none⟩ = false := frozen_of h5N 6
            have y7 : w5.cell? ⟨w1.heap.size, 7, none⟩ = some (.int .i64 p2) := cell_of h5N 7
            have g7 : w5.frozen? ⟨w1.heap.size, 7, none⟩ = false := frozen_of h5N 7
            have hMb : b ≠ w1.heap.size := by have := HBL.out; have := HW1.out; omega
            have h34 := HM7.out.size
            have h45 := hm8.size
            have hst : ∀ j, w.heap.size ≤ j → j < w3.heap.size → w5.heap[j]? = w3.heap[j]? := fun j h1 h2 => (hm8.block j (by omega) (by have := HBL.out; omega)).trans (HM7.out.block j h2 (by have := HBL.out; omega))
            have hN3 : w1.heap.size < w3.heap.size := (Array.getElem?_eq_some_iff.1 HI3.out.B).1
            have HI5 : Hid (RI w b G w1.heap.size fa fe d w5 (.mk ⟨k2, o2, ty2, n2, f2, x2, p2⟩ am2 cm2 ks2) ts4) := ⟨(HI3.out.M.trans HM7.out (fun _ e => .inl e)).trans hm8 (fun _ e => .inl e), (hst _ (Nat.le_refl _) (Array.getElem?_eq_some_iff.1 HI3.out.Z).1).trans HI3.out.Z, h5N, HI3.out.L.bkn HI3.out.K fun j hj => hst j (by omega) hj.2.1, HI3.out.K.mono fun j hj => ⟨hj.1, by omega, hj.2.2⟩, ⟨a8, c8, hr8⟩, fun y hy => HT7.out y (HS.out _ _ _ HR2.out y hy)⟩
            have HL5 := hl.hid
            have HK5 : Hid (Bkn (fun k => w.heap.size < k ∧ k < w5.heap.size ∧ k ≠ w1.heap.size) (.mk ⟨k3, o3, ty3, n3, f3, x3, p3⟩ am3 cm3 ks3)) := hk.mono fun j hj => by have := HW1.out; omega
            have HG5 : Hid (Rg ⟨6, q, 0, 0, 0, gE, t.p⟩) := by
              have hp := HI3.out.T t (by simp)
              have := hp.p0; have := hp.p1; have := hq.1; have := hq.2
              constructor <;> first | omega | (show (0 : Nat) ≤ _; omega) | (simp only; omega) | simp
            clear cQ c1 c0 cP HX HI hst h4N h5N hk hl hr8 hm8 hMb h34 h45 hN3
            simp only [Nd.vals, Nd.h, Nd.a, Nd.c, Nd.ks, hdA]
            go_wp2_with fail
            refine ⟨⟨i + 1, _, ts4, by omega, by push_cast; rfl, (HI5.out.next HBL.out HGL.out HW1.out HL5.out HK5.out HG5.out).hid, ?_⟩, by simp only [intOf]; omega⟩
            rw [Nat.sub_add_eq]
            exact HX4
end Go.Proofs.YtkfabnchhjfjjabGreatDoor
