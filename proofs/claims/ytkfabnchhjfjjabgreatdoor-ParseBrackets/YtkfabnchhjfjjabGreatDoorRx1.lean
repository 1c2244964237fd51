import Derived.Test.YtkfabnchhjfjjabGreatDoorRx
/-
  within: one level deeper, by a function value; the nest goes up and down again.
-/
namespace Go.Proofs.YtkfabnchhjfjjabGreatDoor
open Go.RowKit
theorem Lies.bkn {w w' : World} {P : Nat → Prop} : ∀ {m : Nd}, Lies w m → Bkn P m → (∀ b, P b → w'.heap[b]? = w.heap[b]?) → Lies w' m := by
  intro m h hb k
  induction h with
  | mk h a c ks hr hc hm hk hs ih =>
    cases hb with
    | mk _ _ _ _ hp hq =>
    refine .mk h a c ks hr hc hm (fun i hi => ?_) (fun x hx => ih x hx (hq x hx))
    obtain ⟨b, o, e, hat⟩ := hk i hi
    exact ⟨b, o, e, hat.blk (k b (hp b o e))⟩
theorem Rdr.nest {w : World} {b G : Nat} {ts : List Tk} {fa : Int} {fe : Value} {d d' : Nat} {a : Option Addr} {c : Nat} (h : Rdr w b G ts fa fe d a c) (hd : d' ≤ 1000) : Rdr (w.setCell ⟨b, 3, none⟩ (.int .i64 d')) b G ts fa fe d' a c :=
  ⟨heap_set (j := 3) (.int .i64 (d' : Int)) h.h, h.l, h.m, hd, h.gb, by have := h.gl; simp [World.setCell]; exact this, fun i hi => by
    obtain ⟨o, e, ht⟩ := h.r i hi
    exact ⟨o, e, ht.blk (Below.heap_setCell _ _ _ _ h.gb)⟩⟩
set_option maxRecDepth 100000 in
theorem within_any (F : Nat) (hE : ∀ args v, Sem.run Tryz.prog (callFunc F args) v = .ok (.enter F args) v) {w : World} {b G : Nat} {ts : List Tk} {fa : Int} {fe : Value} {d : Nat} {a : Option Addr} {c : Nat} (h : Rdr w b G ts fa fe d a c) (hd : d < 1000) (r : Except Ft (Tr × List Tk))
    (cF : ∀ v a c, Rdr v b G ts fa fe (d + 1) a c → Calls Tryz.prog F #[.pointer (some ⟨b, 0, none⟩)] v (OutN b G fa fe (d + 1) v r)) :
    Calls Tryz.prog 43 #[.pointer (some ⟨b, 0, none⟩), .func (.func F) #[.pointer (some ⟨b, 0, none⟩)] #[]] w (OutN b G fa fe d w r) := by
  have hb0 := below_new w (.cells #[.int .u8 0, .int .u8 0, .int .u8 0, .int .i64 0, .int .u8 0, .string ⟨#[]⟩, .slice none 0 0, .int .i64 0] 52)
  have h0 := h.on hb0
  have HBL : Hid (b < w.heap.size) := h.lt
  have HGL : Hid (G < w.heap.size) := h.gl
  obtain ⟨V, eV⟩ : ∃ V, (w.alloc (.cells #[.int .u8 0, .int .u8 0, .int .u8 0, .int .i64 0, .int .u8 0, .string ⟨#[]⟩, .slice none 0 0, .int .i64 0] 52)).setCell ⟨b, 3, none⟩ (.int .i64 (d + 1)) = V := ⟨_, rfl⟩
  have hV : Rdr V b G ts fa fe (d + 1) a c := by rw [← eV]; exact h0.nest (d' := d + 1) (by omega)
  have HKV : Hid (V.heap[w.heap.size]? = some (.cells #[.int .u8 0, .int .u8 0, .int .u8 0, .int .i64 0, .int .u8 0, .string ⟨#[]⟩, .slice none 0 0, .int .i64 0] 52 (0, 0))) := by
    rw [← eV]; exact (Below.heap_setCell _ _ _ _ (show w.heap.size ≠ b by have := HBL.out; omega)).trans (heap_new _ _)
  have HMV : Hid (Mv w V (fun k => k = b)) := by
    rw [← eV]
    have hm : Mv w (w.alloc (.cells #[.int .u8 0, .int .u8 0, .int .u8 0, .int .i64 0, .int .u8 0, .string ⟨#[]⟩, .slice none 0 0, .int .i64 0] 52)) (fun k => k = b) := Mv.ofBelow hb0
    exact hm.setCell (a := ⟨b, 3, none⟩) (.inl rfl) _
  have c3 : w.cell? ⟨b, 3, none⟩ = some (.int .i64 d) := cell_of h.h 3
  have hbl := h.lt
  have f3 : w.frozen? ⟨b, 3, none⟩ = false := frozen_of h.h 3
  have hd' : (d : Int) + 1 ≤ 1000 := by omega
  have hd0 : (0 : Int) ≤ d := by omega
  have cC := cF V a c hV
  clear h h0 hb0 hV cF
  cases r with
  | error f =>
    go_enter Tryz.func43, Tryz.ntmps43
    go_wp2_with fail
    refine cC.mono ?_
    rintro e w1 ⟨rfl, hm⟩
    exact ⟨rfl, rfl, HMV.out.trans hm (fun k e => .inl e)⟩
  | ok q =>
    obtain ⟨t, ts'⟩ := q
    go_enter Tryz.func43, Tryz.ntmps43
    go_wp2_with fail
    refine cC.mono ?_
    rintro e w1 ⟨⟨m, rfl, rfl, hl, hk⟩, ⟨a', c', hr⟩, hm⟩
    obtain ⟨⟨k, o, ty, n, f, x, p⟩, am, cm, ks⟩ := m
    have hsz : V.heap.size ≤ w1.heap.size := hm.size
    have hVs : w.heap.size < V.heap.size := (Array.getElem?_eq_some_iff.1 HKV.out).1
    have HK1 : Hid (w1.heap[w.heap.size]? = some (.cells #[.int .u8 0, .int .u8 0, .int .u8 0, .int .i64 0, .int .u8 0, .string ⟨#[]⟩, .slice none 0 0, .int .i64 0] 52 (0, 0))) := (hm.block _ hVs (fun e => by have := HBL.out; omega)).trans HKV.out
    have HM1 : Hid (Mv w w1 (fun k => k = b)) := HMV.out.trans hm (fun k e => .inl e)
    have HR1 := hr.hid
    have HL1 := hl.hid
    have HP1 : Hid (Bkn (fun k => V.heap.size ≤ k ∧ k < w1.heap.size) (.mk ⟨k, o, ty, n, f, x, p⟩ am cm ks)) := hk
    have n3 : w1.cell? ⟨b, 3, none⟩ = some (.int .i64 (d + 1)) := cell_of hr.h 3
    have g3 : w1.frozen? ⟨b, 3, none⟩ = false := frozen_of hr.h 3
    have hb1 : b < w1.heap.size := by omega
    obtain ⟨W, eW⟩ : ∃ W, (w1.alloc (.cells #[.int .u8 k, .int .u8 o, .int .u8 ty, .int .i64 n, .int .u8 f, .string x, .slice am ks.length cm, .int .i64 p] 52)).setCell ⟨b, 3, none⟩ (.int .i64 d) = W := ⟨_, rfl⟩
    have hWn : W.heap[w1.heap.size]? = some (.cells #[.int .u8 k, .int .u8 o, .int .u8 ty, .int .i64 n, .int .u8 f, .string x, .slice am ks.length cm, .int .i64 p] 52 (0, 0)) := by rw [← eW]; exact (Below.heap_setCell _ _ _ _ (show w1.heap.size ≠ b by omega)).trans (heap_new _ _)
    have hWo : ∀ j, j ≠ b → j < w1.heap.size → W.heap[j]? = w1.heap[j]? := fun j hj hl => by rw [← eW]; exact (Below.heap_setCell _ _ _ _ hj).trans ((below_new w1 _).block _ hl)
    have hWz : W.heap[w.heap.size]? = some (.cells #[.int .u8 0, .int .u8 0, .int .u8 0, .int .i64 0, .int .u8 0, .string ⟨#[]⟩, .slice none 0 0, .int .i64 0] 52 (0, 0)) := (hWo _ (by omega) (by omega)).trans HK1.out
    have hWr : Rdr W b G ts' fa fe d a' c' := by rw [← eW]; exact (hr.on (below_new w1 _)).nest (d' := d) (by omega)
    have hWm : Mv w W (fun k => k = b) := by
      rw [← eW]
      have hm : Mv w (w1.alloc (.cells #[.int .u8 k, .int .u8 o, .int .u8 ty, .int .i64 n, .int .u8 f, .string x, .slice am ks.length cm, .int .i64 p] 52)) (fun k => k = b) := HM1.out.trans (Mv.ofBelow (below_new _ _)) (fun k e => .inl e)
      exact hm.setCell (a := ⟨b, 3, none⟩) (.inl rfl) _
    have hWs : w1.heap.size < W.heap.size := (Array.getElem?_eq_some_iff.1 hWn).1
    have y0 : W.cell? ⟨w1.heap.size, 0, none⟩ = some (.int .u8 k) := cell_of hWn 0
    have z0 : W.cell? ⟨w.heap.size, 0, none⟩ = some (.int .u8 0) := cell_of hWz 0
    have q0 : W.frozen? ⟨w.heap.size, 0, none⟩ = false := frozen_of hWz 0
    have y1 : W.cell? ⟨w1.heap.size, 1, none⟩ = some (.int .u8 o) := cell_of hWn 1
    have z1 : W.cell? ⟨w.heap.size, 1, none⟩ = some (.int .u8 0) := cell_of hWz 1
    have q1 : W.frozen? ⟨w.heap.size, 1, none⟩ = false := frozen_of hWz 1
    have y2 : W.cell? ⟨w1.heap.size, 2, none⟩ = some (.int .u8 ty) := cell_of hWn 2
    have z2 : W.cell? ⟨w.heap.size, 2, none⟩ = some (.int .u8 0) := cell_of hWz 2
    have q2 : W.frozen? ⟨w.heap.size, 2, none⟩ = false := frozen_of hWz 2
    have y3 : W.cell? ⟨w1.heap.size, 3, none⟩ = some (.int .i64 n) := cell_of hWn 3
    have z3 : W.cell? ⟨w.heap.size, 3, none⟩ = some (.int .i64 0) := cell_of hWz 3
    have q3 : W.frozen? ⟨w.heap.size, 3, none⟩ = false := frozen_of hWz 3
    have y4 : W.cell? ⟨w1.heap.size, 4, none⟩ = some (.int .u8 f) := cell_of hWn 4
    have z4 : W.cell? ⟨w.heap.size, 4, none⟩ = some (.int .u8 0) := cell_of hWz 4
    have q4 : W.frozen? ⟨w.heap.size, 4, none⟩ = false := frozen_of hWz 4
    have y5 : W.cell? ⟨w1.heap.size, 5, none⟩ = some (.string x) := cell_of hWn 5
    have z5 : W.cell? ⟨w.heap.size, 5, none⟩ = some (.string ⟨#[]⟩) := cell_of hWz 5
    have q5 : W.frozen? ⟨w.heap.size, 5, none⟩ = false := frozen_of hWz 5
    have y6 : W.cell? ⟨w1.heap.size, 6, none⟩ = some (.slice am ks.length cm) := cell_of hWn 6
    have z6 : W.cell? ⟨w.heap.size, 6, none⟩ = some (.slice none 0 0) := cell_of hWz 6
    have q6 : W.frozen? ⟨w.heap.size, 6, none⟩ = false := frozen_of hWz 6
    have y7 : W.cell? ⟨w1.heap.size, 7, none⟩ = some (.int .i64 p) := cell_of hWn 7
    have z7 : W.cell? ⟨w.heap.size, 7, none⟩ = some (.int .i64 0) := cell_of hWz 7
    have q7 : W.frozen? ⟨w.heap.size, 7, none⟩ = false := frozen_of hWz 7
    obtain ⟨Y, eY, hY1, hY2, hY3, hY4⟩ := fin8 hWz (.int .u8 k) (.int .u8 o) (.int .u8 ty) (.int .i64 n) (.int .u8 f) (.string x) (.slice am ks.length cm) (.int .i64 p)
    have HY1 : Hid (Y.heap[w.heap.size]? = some (.cells (Nd.mk ⟨k, o, ty, n, f, x, p⟩ am cm ks).vals 52 (0, 0))) := hY1
    have HEY : Hid (_ = Y) := eY
    have HRY : Hid (∃ a c, Rdr Y b G ts' fa fe d a c) := ⟨a', c', hWr.blk (hY3 _ (by have := HBL.out; omega)) (hY3 _ (by have := HGL.out; omega)) (by omega)⟩
    have HMY : Hid (Mv w Y (fun k => k = b)) := hY4 _ _ hWm (Nat.le_refl _)
    have HLY : Hid (Lies Y (.mk ⟨k, o, ty, n, f, x, p⟩ am cm ks)) := HL1.out.bkn HP1.out fun j hj => (hY3 j (by omega)).trans (hWo j (by omega) hj.2)
    have HPY : Hid (Bkn (fun k => w.heap.size ≤ k ∧ k < Y.heap.size) (.mk ⟨k, o, ty, n, f, x, p⟩ am cm ks)) := HP1.out.mono fun j hj => by omega
    clear cC hr hm hl hk hWn hWo hWz hWr hWm hY1 hY2 hY3 hY4 eY eV c3 f3
    simp only [Nd.vals, Nd.h, Nd.a, Nd.c, Nd.ks, hdA]
    go_wp2_with fail
    rw [HEY.out]
    exact bodyPost_ret (results_cell_row rfl _ _ w.heap.size 52 (Nd.mk ⟨k, o, ty, n, f, x, p⟩ am cm ks).vals (0, 0) _ rfl HY1.out Tryz.underlying52 rfl (by kernel_rfl)) rfl ⟨⟨_, rfl, rfl, HLY.out, HPY.out⟩, HRY.out, HMY.out⟩
end Go.Proofs.YtkfabnchhjfjjabGreatDoor

/-
  inBrackets: an expression one level deeper, and the bracket that ends it.
-/
namespace Go.Proofs.YtkfabnchhjfjjabGreatDoor
open Go.RowKit
theorem enter46 (args : Array Value) (v : World) : Sem.run Tryz.prog (callFunc 20 args) v = .ok (.enter 20 args) v := by kernel_rfl
theorem enter180 (args : Array Value) (v : World) : Sem.run Tryz.prog (callFunc 115 args) v = .ok (.enter 115 args) v := by kernel_rfl
/-- Something, and a bracket behind it. -/
def gIn (r : Except Ft (Tr × List Tk)) : Except Ft (Tr × List Tk) := do
  let (n, r) ← r
  let (_, r) ← gTake (gB [41]) r
  .ok (n, r)
set_option maxRecDepth 100000 in
theorem inBr_any {w : World} {b G : Nat} {ts : List Tk} {fa : Int} {fe : Value} {d : Nat} {a : Option Addr} {c : Nat} (h : Rdr w b G ts fa fe d a c) (hd : d < 1000) (r : Except Ft (Tr × List Tk))
    (cF : ∀ v a c, Rdr v b G ts fa fe (d + 1) a c → Calls Tryz.prog 20 #[.pointer (some ⟨b, 0, none⟩)] v (OutN b G fa fe (d + 1) v r)) :
    Calls Tryz.prog 119 #[.pointer (some ⟨b, 0, none⟩)] w (OutN b G fa fe d w (gIn r)) := by
  have hmf : ∀ (fn : Fn) (first cap : Array Value) (w : World), (Instr.makeFunc fn first cap).run Tryz.prog w = .ok (.func fn first cap) w := fun _ _ _ _ => rfl
  have hb0 := below_new w (.cells #[.int .u8 0, .int .u8 0, .int .u8 0, .int .i64 0, .int .u8 0, .string ⟨#[]⟩, .slice none 0 0, .int .i64 0] 52)
  have h0 := h.on hb0
  have HBL : Hid (b < w.heap.size) := h.lt
  have HGL : Hid (G < w.heap.size) := h.gl
  have HK0 : Hid ((w.alloc (.cells #[.int .u8 0, .int .u8 0, .int .u8 0, .int .i64 0, .int .u8 0, .string ⟨#[]⟩, .slice none 0 0, .int .i64 0] 52)).heap[w.heap.size]? = some (.cells #[.int .u8 0, .int .u8 0, .int .u8 0, .int .i64 0, .int .u8 0, .string ⟨#[]⟩, .slice none 0 0, .int .i64 0] 52 (0, 0))) := heap_new _ _
  have HM0 : Hid (Mv w (w.alloc (.cells #[.int .u8 0, .int .u8 0, .int .u8 0, .int .i64 0, .int .u8 0, .string ⟨#[]⟩, .slice none 0 0, .int .i64 0] 52)) (fun k => k = b)) := Mv.ofBelow hb0
  have cC := within_any 20 enter46 h0 hd r cF
  clear h h0 hb0 cF hd
  cases r with
  | error f =>
    go_enter Tryz.func119, Tryz.ntmps119
    go_wp2_with fail
    refine cC.mono ?_
    rintro e w1 ⟨rfl, hm⟩
    exact ⟨rfl, rfl, HM0.out.trans hm (fun k e => .inl e)⟩
  | ok q =>
    obtain ⟨t, ts'⟩ := q
    have eG : gIn (.ok (t, ts')) = match gTake (gB [41]) ts' with | .error e => .error e | .ok q => .ok (t, q.2) := by
      simp only [gIn, bind, Except.bind]
      cases gTake (gB [41]) ts' with
      | error e => rfl
      | ok q => rfl
    rw [eG]
    clear eG
    obtain ⟨T, eT⟩ : ∃ T, gTake (gB [41]) ts' = T := ⟨_, rfl⟩
    rw [eT]
    have HET : Hid (gTake (gB [41]) ts' = T) := eT
    clear eT
    go_enter Tryz.func119, Tryz.ntmps119
    go_wp2_with fail
    refine cC.mono ?_
    rintro e w1 ⟨⟨m, rfl, rfl, hl, hk⟩, ⟨a', c', hr⟩, hm⟩
    obtain ⟨⟨k, o, ty, n, f, x, p⟩, am, cm, ks⟩ := m
    have hWs : w.heap.size < (w.alloc (.cells #[.int .u8 0, .int .u8 0, .int .u8 0, .int .i64 0, .int .u8 0, .string ⟨#[]⟩, .slice none 0 0, .int .i64 0] 52)).heap.size := (Array.getElem?_eq_some_iff.1 HK0.out).1
    have hsz := hm.size
    have HK1 : Hid (w1.heap[w.heap.size]? = some (.cells #[.int .u8 0, .int .u8 0, .int .u8 0, .int .i64 0, .int .u8 0, .string ⟨#[]⟩, .slice none 0 0, .int .i64 0] 52 (0, 0))) := (hm.block _ hWs (fun e => by have := HBL.out; omega)).trans HK0.out
    have HM1 : Hid (Mv w w1 (fun k => k = b)) := HM0.out.trans hm (fun k e => .inl e)
    have HL1 := hl.hid
    have HP1 : Hid (Bkn (fun k => w.heap.size < k ∧ k < w1.heap.size) (.mk ⟨k, o, ty, n, f, x, p⟩ am cm ks)) := hk.mono fun j hj => ⟨by omega, hj.2⟩
    have hbN := below_new w1 (.cells #[.int .u8 k, .int .u8 o, .int .u8 ty, .int .i64 n, .int .u8 f, .string x, .slice am ks.length cm, .int .i64 p] 52)
    have HKN : Hid ((w1.alloc (.cells #[.int .u8 k, .int .u8 o, .int .u8 ty, .int .i64 n, .int .u8 f, .string x, .slice am ks.length cm, .int .i64 p] 52)).heap[w1.heap.size]? = some (.cells #[.int .u8 k, .int .u8 o, .int .u8 ty, .int .i64 n, .int .u8 f, .string x, .slice am ks.length cm, .int .i64 p] 52 (0, 0))) := heap_new _ _
    have HKZ : Hid ((w1.alloc (.cells #[.int .u8 k, .int .u8 o, .int .u8 ty, .int .i64 n, .int .u8 f, .string x, .slice am ks.length cm, .int .i64 p] 52)).heap[w.heap.size]? = some (.cells #[.int .u8 0, .int .u8 0, .int .u8 0, .int .i64 0, .int .u8 0, .string ⟨#[]⟩, .slice none 0 0, .int .i64 0] 52 (0, 0))) := (hbN.block _ (by omega)).trans HK1.out
    have HBN : Hid (Below w1.heap.size w1 (w1.alloc (.cells #[.int .u8 k, .int .u8 o, .int .u8 ty, .int .i64 n, .int .u8 f, .string x, .slice am ks.length cm, .int .i64 p] 52))) := hbN
    have hRR : Hid (w.heap.size < w1.heap.size) := Nat.lt_of_lt_of_le hWs hsz
    have cT : Calls Tryz.prog 25 #[.pointer (some ⟨b, 0, none⟩), .string ⟨#[41]⟩] (w1.alloc (.cells #[.int .u8 k, .int .u8 o, .int .u8 ty, .int .i64 n, .int .u8 f, .string x, .slice am ks.length cm, .int .i64 p] 52)) (OutK b G fa fe d (w1.alloc (.cells #[.int .u8 k, .int .u8 o, .int .u8 ty, .int .i64 n, .int .u8 f, .string x, .slice am ks.length cm, .int .i64 p] 52)) T) := by rw [← HET.out]; exact take_any (hr.on hbN) (gB [41])
    clear cC hr hm hl hk hbN hsz hWs
    simp only [Nd.vals, Nd.h, Nd.a, Nd.c, Nd.ks, hdA]
    clear HET
    cases T with
    | error f =>
      go_wp2_with fail
      refine cT.mono ?_
      rintro e w2 ⟨rfl, hm⟩
      exact ⟨rfl, rfl, (HM1.out.trans (Mv.ofBelow HBN.out) (fun k e => .inl e)).trans hm (fun k e => .inl e)⟩
    | ok q =>
      obtain ⟨u, ts2⟩ := q
      go_wp2_with fail
      refine cT.mono ?_
      rintro e w2 ⟨rfl, ⟨a2, c2, hr2⟩, hm2⟩
      have hN2 := (Array.getElem?_eq_some_iff.1 HKN.out).1
      have h2N : w2.heap[w1.heap.size]? = some (.cells #[.int .u8 k, .int .u8 o, .int .u8 ty, .int .i64 n, .int .u8 f, .string x, .slice am ks.length cm, .int .i64 p] 52 (0, 0)) := (hm2.block _ hN2 (fun e => by have := HBL.out; have := hRR.out; omega)).trans HKN.out
      have h2Z : w2.heap[w.heap.size]? = some (.cells #[.int .u8 0, .int .u8 0, .int .u8 0, .int .i64 0, .int .u8 0, .string ⟨#[]⟩, .slice none 0 0, .int .i64 0] 52 (0, 0)) := (hm2.block _ (Nat.lt_trans hRR.out hN2) (fun e => by have := HBL.out; omega)).trans HKZ.out
      have h2s := hm2.size
      have y0 : w2.cell? ⟨w1.heap.size, 0, none⟩ = some (.int .u8 k) := cell_of h2N 0
      have z0 : w2.cell? ⟨w.heap.size, 0, none⟩ = some (.int .u8 0) := cell_of h2Z 0
      have q0 : w2.frozen? ⟨w.heap.size, 0, none⟩ = false := frozen_of h2Z 0
      have y1 : w2.cell? ⟨w1.heap.size, 1, none⟩ = some (.int .u8 o) := cell_of h2N 1
      have z1 : w2.cell? ⟨w.heap.size, 1, none⟩ = some (.int .u8 0) := cell_of h2Z 1
      have q1 : w2.frozen? ⟨w.heap.size, 1, none⟩ = false := frozen_of h2Z 1
      have y2 : w2.cell? ⟨w1.heap.size, 2, none⟩ = some (.int .u8 ty) := cell_of h2N 2
      have z2 : w2.cell? ⟨w.heap.size, 2, none⟩ = some (.int .u8 0) := cell_of h2Z 2
      have q2 : w2.frozen? ⟨w.heap.size, 2, none⟩ = false := frozen_of h2Z 2
      have y3 : w2.cell? ⟨w1.heap.size, 3, none⟩ = some (.int .i64 n) := cell_of h2N 3
      have z3 : w2.cell? ⟨w.heap.size, 3, none⟩ = some (.int .i64 0) := cell_of h2Z 3
      have q3 : w2.frozen? ⟨w.heap.size, 3, none⟩ = false := frozen_of h2Z 3
      have y4 : w2.cell? ⟨w1.heap.size, 4, none⟩ = some (.int .u8 f) := cell_of h2N 4
      have z4 : w2.cell? ⟨w.heap.size, 4, none⟩ = some (.int .u8 0) := cell_of h2Z 4
      have q4 : w2.frozen? ⟨w.heap.size, 4, none⟩ = false := frozen_of h2Z 4
      have y5 : w2.cell? ⟨w1.heap.size, 5, none⟩ = some (.string x) := cell_of h2N 5
      have z5 : w2.cell? ⟨w.heap.size, 5, none⟩ = some (.string ⟨#[]⟩) := cell_of h2Z 5
      have q5 : w2.frozen? ⟨w.heap.size, 5, none⟩ = false := frozen_of h2Z 5
      have y6 : w2.cell? ⟨w1.heap.size, 6, none⟩ = some (.slice am ks.length cm) := cell_of h2N 6
      have z6 : w2.cell? ⟨w.heap.size, 6, none⟩ = some (.slice none 0 0) := cell_of h2Z 6
      have q6 : w2.frozen? ⟨w.heap.size, 6, none⟩ = false := frozen_of h2Z 6
      have y7 : w2.cell? ⟨w1.heap.size, 7, none⟩ = some (.int .i64 p) := cell_of h2N 7
      have z7 : w2.cell? ⟨w.heap.size, 7, none⟩ = some (.int .i64 0) := cell_of h2Z 7
      have q7 : w2.frozen? ⟨w.heap.size, 7, none⟩ = false := frozen_of h2Z 7
      obtain ⟨Y, eY, hY1, hY2, hY3, hY4⟩ := fin8 h2Z (.int .u8 k) (.int .u8 o) (.int .u8 ty) (.int .i64 n) (.int .u8 f) (.string x) (.slice am ks.length cm) (.int .i64 p)
      have HY1 : Hid (Y.heap[w.heap.size]? = some (.cells (Nd.mk ⟨k, o, ty, n, f, x, p⟩ am cm ks).vals 52 (0, 0))) := hY1
      have HEY : Hid (_ = Y) := eY
      have HRY : Hid (∃ a c, Rdr Y b G ts2 fa fe d a c) := ⟨a2, c2, hr2.blk (hY3 _ (by have := HBL.out; omega)) (hY3 _ (by have := HGL.out; omega)) (by omega)⟩
      have HMY : Hid (Mv w Y (fun k => k = b)) := hY4 _ _ ((HM1.out.trans (Mv.ofBelow HBN.out) (fun k e => .inl e)).trans hm2 (fun k e => .inl e)) (Nat.le_refl _)
      have HLY : Hid (Lies Y (.mk ⟨k, o, ty, n, f, x, p⟩ am cm ks)) := HL1.out.bkn HP1.out fun j hj => ((hY3 j (by omega)).trans (hm2.block j (Nat.lt_of_lt_of_le hj.2 HBN.out.size) (fun e => by have := HBL.out; omega))).trans (HBN.out.block j hj.2)
      have HPY : Hid (Bkn (fun k => w.heap.size ≤ k ∧ k < Y.heap.size) (.mk ⟨k, o, ty, n, f, x, p⟩ am cm ks)) := HP1.out.mono fun j hj => by omega
      clear cT hr2 hm2 h2N h2Z h2s hN2 hY1 hY2 hY3 hY4 eY
      go_wp2_with fail
      rw [HEY.out]
      exact bodyPost_ret (results_cell_row rfl _ _ w.heap.size 52 (Nd.mk ⟨k, o, ty, n, f, x, p⟩ am cm ks).vals (0, 0) _ rfl HY1.out Tryz.underlying52 rfl (by kernel_rfl)) rfl ⟨⟨_, rfl, rfl, HLY.out, HPY.out⟩, HRY.out, HMY.out⟩
end Go.Proofs.YtkfabnchhjfjjabGreatDoor
