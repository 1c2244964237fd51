import Derived.Test.YtkfabnchhjfjjabGreatDoorRun1
import Derived.Test.YtkfabnchhjfjjabGreatDoorPn1
/-
  expr: an or, and a choice behind it.
-/
namespace Go.Proofs.YtkfabnchhjfjjabGreatDoor
open Go.RowKit
/-- Nodes that have been read lie in boxes of the call's own. -/
structure BX (w : World) (b G : Nat) (fa : Int) (fe : Value) (d : Nat) (W : World) (bs : List (Nat × Nd)) (ts : List Tk) : Prop where
  M : Mv w W (fun k => k = b)
  Z : W.heap[w.heap.size]? = some (.cells #[.int .u8 0, .int .u8 0, .int .u8 0, .int .i64 0, .int .u8 0, .string ⟨#[]⟩, .slice none 0 0, .int .i64 0] 52 (0, 0))
  B : ∀ p ∈ bs, W.heap[p.1]? = some (.cells p.2.vals 52 (0, 0)) ∧ w.heap.size < p.1 ∧ Lies W p.2 ∧ Bkn (fun k => w.heap.size < k ∧ k < W.heap.size) p.2
  R : ∃ a c, Rdr W b G ts fa fe d a c
  T : ∀ t ∈ ts, RgT t
theorem BX.hid {w : World} {b G : Nat} {fa : Int} {fe : Value} {d : Nat} {W : World} {bs : List (Nat × Nd)} {ts : List Tk} (h : BX w b G fa fe d W bs ts) : Hid (BX w b G fa fe d W bs ts) := h
/-- The reader has gone on. -/
theorem BX.mv {w : World} {b G : Nat} {fa : Int} {fe : Value} {d : Nat} {W W' : World} {bs : List (Nat × Nd)} {ts ts' : List Tk} (h : BX w b G fa fe d W bs ts) (hb : b < w.heap.size) (hm : Mv W W' (fun k => k = b)) (hr : ∃ a c, Rdr W' b G ts' fa fe d a c) (ht : ∀ x ∈ ts', x ∈ ts) : BX w b G fa fe d W' bs ts' := by
  have hs := hm.size
  refine ⟨h.M.trans hm (fun _ e => .inl e), (hm.block _ (Array.getElem?_eq_some_iff.1 h.Z).1 (by omega)).trans h.Z, fun p hp => ?_, hr, fun t h2 => h.T t (ht t h2)⟩
  obtain ⟨h1, h2, h3, h4⟩ := h.B p hp
  exact ⟨(hm.block _ (Array.getElem?_eq_some_iff.1 h1).1 (by omega)).trans h1, h2, h3.bkn h4 fun j hj => hm.block j hj.2 (by omega), h4.mono fun j hj => ⟨hj.1, by omega⟩⟩
theorem BX.on {w : World} {b G : Nat} {fa : Int} {fe : Value} {d : Nat} {W W' : World} {bs : List (Nat × Nd)} {ts : List Tk} (h : BX w b G fa fe d W bs ts) (hb : b < w.heap.size) (k : Below W.heap.size W W') : BX w b G fa fe d W' bs ts := by
  refine h.mv hb (Mv.ofBelow k) ?_ (fun _ h => h)
  obtain ⟨a, c, hr⟩ := h.R
  exact ⟨a, c, hr.on k⟩
/-- One more. -/
theorem BX.push {w : World} {b G : Nat} {fa : Int} {fe : Value} {d : Nat} {W : World} {bs : List (Nat × Nd)} {ts : List Tk} {m : Nd} (h : BX w b G fa fe d W bs ts) (hb : b < w.heap.size) (hl : Lies W m) (hk : Bkn (fun k => w.heap.size < k ∧ k < W.heap.size) m) : BX w b G fa fe d (W.alloc (.cells m.vals 52)) ((W.heap.size, m) :: bs) ts := by
  have k := below_new W (.cells m.vals 52)
  have h' := h.on hb k
  refine ⟨h'.M, h'.Z, fun p hp => ?_, h'.R, h'.T⟩
  rcases List.mem_cons.1 hp with e | e
  · rw [e]
    exact ⟨heap_new _ _, (Array.getElem?_eq_some_iff.1 h.Z).1, hl.on k, hk.mono fun j hj => ⟨hj.1, Nat.lt_of_lt_of_le hj.2 k.size⟩⟩
  · exact h'.B p e
theorem BX.fin {w : World} {b G : Nat} {fa : Int} {fe : Value} {d : Nat} {W : World} {k2 o2 ty2 n2 f2 p2 : Int} {x2 : ByteArray} {am2 : Option Addr} {cm2 : Nat} {ks2 : List Nd} {bs : List (Nat × Nd)} {N : Nat} {ts : List Tk} (h : BX w b G fa fe d W ((N, (.mk ⟨k2, o2, ty2, n2, f2, x2, p2⟩ am2 cm2 ks2)) :: bs) ts) (hb : b < w.heap.size) (hg : G < w.heap.size) :
    ∃ Y, ((((((((W.setCell ⟨w.heap.size, 0, none⟩ (.int .u8 k2)).setCell ⟨w.heap.size, 1, none⟩ (.int .u8 o2)).setCell ⟨w.heap.size, 2, none⟩ (.int .u8 ty2)).setCell ⟨w.heap.size, 3, none⟩ (.int .i64 n2)).setCell ⟨w.heap.size, 4, none⟩ (.int .u8 f2)).setCell ⟨w.heap.size, 5, none⟩ (.string x2)).setCell ⟨w.heap.size, 6, none⟩ (.slice am2 ks2.length cm2)).setCell ⟨w.heap.size, 7, none⟩ (.int .i64 p2)) = Y ∧ Y.heap[w.heap.size]? = some (.cells (Nd.mk ⟨k2, o2, ty2, n2, f2, x2, p2⟩ am2 cm2 ks2).vals 52 (0, 0)) ∧ Lies Y (.mk ⟨k2, o2, ty2, n2, f2, x2, p2⟩ am2 cm2 ks2) ∧ Bkn (fun k => w.heap.size ≤ k ∧ k < Y.heap.size) (.mk ⟨k2, o2, ty2, n2, f2, x2, p2⟩ am2 cm2 ks2) ∧ (∃ a c, Rdr Y b G ts fa fe d a c) ∧ Mv w Y (fun k => k = b) := by
  obtain ⟨Y, eY, hY1, hY2, hY3, hY4⟩ := fin8 h.Z (.int .u8 k2) (.int .u8 o2) (.int .u8 ty2) (.int .i64 n2) (.int .u8 f2) (.string x2) (.slice am2 ks2.length cm2) (.int .i64 p2)
  obtain ⟨_, _, hl, hk⟩ := h.B _ (List.mem_cons_self ..)
  refine ⟨Y, eY, hY1, hl.bkn hk fun j hj => hY3 j (by omega), hk.mono fun j hj => by omega, ?_, hY4 _ _ h.M (Nat.le_refl _)⟩
  obtain ⟨a, c, hr⟩ := h.R
  exact ⟨a, c, hr.blk (hY3 _ (by omega)) (hY3 _ (by omega)) (by omega)⟩
/-- A node of three kids. -/
theorem three8 {w : World} {b G : Nat} {fa : Int} {fe : Value} {d : Nat} {W : World} {k2 o2 ty2 n2 f2 p2 : Int} {x2 : ByteArray} {am2 : Option Addr} {cm2 : Nat} {ks2 : List Nd} {k3 o3 ty3 n3 f3 p3 : Int} {x3 : ByteArray} {am3 : Option Addr} {cm3 : Nat} {ks3 : List Nd} {k4 o4 ty4 n4 f4 p4 : Int} {x4 : ByteArray} {am4 : Option Addr} {cm4 : Nat} {ks4 : List Nd} {p : Int} {ts : List Tk} (hm : Mv w W (fun k => k = b)) (hZ : W.heap[w.heap.size]? = some (.cells #[.int .u8 0, .int .u8 0, .int .u8 0, .int .i64 0, .int .u8 0, .string ⟨#[]⟩, .slice none 0 0, .int .i64 0] 52 (0, 0))) (hl2 : Lies W (.mk ⟨k2, o2, ty2, n2, f2, x2, p2⟩ am2 cm2 ks2)) (hk2 : Bkn (fun k => w.heap.size < k ∧ k < W.heap.size) (.mk ⟨k2, o2, ty2, n2, f2, x2, p2⟩ am2 cm2 ks2)) (hl3 : Lies W (.mk ⟨k3, o3, ty3, n3, f3, x3, p3⟩ am3 cm3 ks3)) (hk3 : Bkn (fun k => w.heap.size < k ∧ k < W.heap.size) (.mk ⟨k3, o3, ty3, n3, f3, x3, p3⟩ am3 cm3 ks3)) (hl4 : Lies W (.mk ⟨k4, o4, ty4, n4, f4, x4, p4⟩ am4 cm4 ks4)) (hk4 : Bkn (fun k => w.heap.size < k ∧ k < W.heap.size) (.mk ⟨k4, o4, ty4, n4, f4, x4, p4⟩ am4 cm4 ks4)) (hr : ∃ a c, Rdr W b G ts fa fe d a c) (hb : b < w.heap.size) (hg : G < w.heap.size) (hq : Rg ⟨7, 0, 0, 0, 0, gE, p⟩) :
    ∃ Y, (((((((((W.setCell ⟨w.heap.size, 0, none⟩ (.int .u8 7)).setCell ⟨w.heap.size, 1, none⟩ (.int .u8 0)).setCell ⟨w.heap.size, 2, none⟩ (.int .u8 0)).setCell ⟨w.heap.size, 3, none⟩ (.int .i64 0)).setCell ⟨w.heap.size, 4, none⟩ (.int .u8 0)).setCell ⟨w.heap.size, 5, none⟩ (.string ⟨#[]⟩)).setCell ⟨w.heap.size, 6, none⟩ (.slice (some ⟨W.heap.size + 1, 0, none⟩) 3 3)).setCell ⟨w.heap.size, 7, none⟩ (.int .i64 p)).alloc (.cells #[.int .u8 k4, .int .u8 o4, .int .u8 ty4, .int .i64 n4, .int .u8 f4, .string x4, .slice am4 ks4.length cm4, .int .i64 p4] 52)).alloc (.cells #[.int .u8 k2, .int .u8 o2, .int .u8 ty2, .int .i64 n2, .int .u8 f2, .string x2, .slice am2 ks2.length cm2, .int .i64 p2, .int .u8 k3, .int .u8 o3, .int .u8 ty3, .int .i64 n3, .int .u8 f3, .string x3, .slice am3 ks3.length cm3, .int .i64 p3, .int .u8 k4, .int .u8 o4, .int .u8 ty4, .int .i64 n4, .int .u8 f4, .string x4, .slice am4 ks4.length cm4, .int .i64 p4] 52) = Y ∧ Y.heap[w.heap.size]? = some (.cells (Nd.mk ⟨7, 0, 0, 0, 0, gE, p⟩ (some ⟨W.heap.size + 1, 0, none⟩) 3 [(.mk ⟨k2, o2, ty2, n2, f2, x2, p2⟩ am2 cm2 ks2), (.mk ⟨k3, o3, ty3, n3, f3, x3, p3⟩ am3 cm3 ks3), (.mk ⟨k4, o4, ty4, n4, f4, x4, p4⟩ am4 cm4 ks4)]).vals 52 (0, 0)) ∧ Lies Y (.mk ⟨7, 0, 0, 0, 0, gE, p⟩ (some ⟨W.heap.size + 1, 0, none⟩) 3 [(.mk ⟨k2, o2, ty2, n2, f2, x2, p2⟩ am2 cm2 ks2), (.mk ⟨k3, o3, ty3, n3, f3, x3, p3⟩ am3 cm3 ks3), (.mk ⟨k4, o4, ty4, n4, f4, x4, p4⟩ am4 cm4 ks4)]) ∧ Bkn (fun k => w.heap.size ≤ k ∧ k < Y.heap.size) (.mk ⟨7, 0, 0, 0, 0, gE, p⟩ (some ⟨W.heap.size + 1, 0, none⟩) 3 [(.mk ⟨k2, o2, ty2, n2, f2, x2, p2⟩ am2 cm2 ks2), (.mk ⟨k3, o3, ty3, n3, f3, x3, p3⟩ am3 cm3 ks3), (.mk ⟨k4, o4, ty4, n4, f4, x4, p4⟩ am4 cm4 ks4)]) ∧ (∃ a c, Rdr Y b G ts fa fe d a c) ∧ Mv w Y (fun k => k = b) := by
  obtain ⟨Y, eY, hY1, hY2, hY3, hY4⟩ := fin8 hZ (.int .u8 7) (.int .u8 0) (.int .u8 0) (.int .i64 0) (.int .u8 0) (.string ⟨#[]⟩) (.slice (some ⟨W.heap.size + 1, 0, none⟩) 3 3) (.int .i64 p)
  rw [eY]
  clear eY
  have hNW : w.heap.size < W.heap.size := (Array.getElem?_eq_some_iff.1 hZ).1
  have b1 := below_new Y (.cells #[.int .u8 k4, .int .u8 o4, .int .u8 ty4, .int .i64 n4, .int .u8 f4, .string x4, .slice am4 ks4.length cm4, .int .i64 p4] 52)
  have s1 : (Y.alloc (.cells #[.int .u8 k4, .int .u8 o4, .int .u8 ty4, .int .i64 n4, .int .u8 f4, .string x4, .slice am4 ks4.length cm4, .int .i64 p4] 52)).heap.size = W.heap.size + 1 := by rw [size_alloc, hY2]
  obtain ⟨U, eU⟩ : ∃ U, Y.alloc (.cells #[.int .u8 k4, .int .u8 o4, .int .u8 ty4, .int .i64 n4, .int .u8 f4, .string x4, .slice am4 ks4.length cm4, .int .i64 p4] 52) = U := ⟨_, rfl⟩
  rw [eU] at b1 s1 ⊢
  clear eU
  have b2 := below_new U (.cells #[.int .u8 k2, .int .u8 o2, .int .u8 ty2, .int .i64 n2, .int .u8 f2, .string x2, .slice am2 ks2.length cm2, .int .i64 p2, .int .u8 k3, .int .u8 o3, .int .u8 ty3, .int .i64 n3, .int .u8 f3, .string x3, .slice am3 ks3.length cm3, .int .i64 p3, .int .u8 k4, .int .u8 o4, .int .u8 ty4, .int .i64 n4, .int .u8 f4, .string x4, .slice am4 ks4.length cm4, .int .i64 p4] 52)
  have hB := heap_new U (.cells #[.int .u8 k2, .int .u8 o2, .int .u8 ty2, .int .i64 n2, .int .u8 f2, .string x2, .slice am2 ks2.length cm2, .int .i64 p2, .int .u8 k3, .int .u8 o3, .int .u8 ty3, .int .i64 n3, .int .u8 f3, .string x3, .slice am3 ks3.length cm3, .int .i64 p3, .int .u8 k4, .int .u8 o4, .int .u8 ty4, .int .i64 n4, .int .u8 f4, .string x4, .slice am4 ks4.length cm4, .int .i64 p4] 52)
  rw [s1] at hB
  have s2 : (U.alloc (.cells #[.int .u8 k2, .int .u8 o2, .int .u8 ty2, .int .i64 n2, .int .u8 f2, .string x2, .slice am2 ks2.length cm2, .int .i64 p2, .int .u8 k3, .int .u8 o3, .int .u8 ty3, .int .i64 n3, .int .u8 f3, .string x3, .slice am3 ks3.length cm3, .int .i64 p3, .int .u8 k4, .int .u8 o4, .int .u8 ty4, .int .i64 n4, .int .u8 f4, .string x4, .slice am4 ks4.length cm4, .int .i64 p4] 52)).heap.size = W.heap.size + 2 := by rw [size_alloc, s1]
  obtain ⟨Z, eZ⟩ : ∃ Z, U.alloc (.cells #[.int .u8 k2, .int .u8 o2, .int .u8 ty2, .int .i64 n2, .int .u8 f2, .string x2, .slice am2 ks2.length cm2, .int .i64 p2, .int .u8 k3, .int .u8 o3, .int .u8 ty3, .int .i64 n3, .int .u8 f3, .string x3, .slice am3 ks3.length cm3, .int .i64 p3, .int .u8 k4, .int .u8 o4, .int .u8 ty4, .int .i64 n4, .int .u8 f4, .string x4, .slice am4 ks4.length cm4, .int .i64 p4] 52) = Z := ⟨_, rfl⟩
  rw [eZ] at b2 hB s2 ⊢
  clear eZ
  have hZZ : ∀ k, k < W.heap.size → k ≠ w.heap.size → Z.heap[k]? = W.heap[k]? := fun k h1 h2 => ((b2.block k (by omega)).trans (b1.block k (by omega))).trans (hY3 k h2)
  refine ⟨Z, rfl, ((b2.block _ (by omega)).trans (b1.block _ (by omega))).trans hY1, ?_, ?_, ?_, ((hY4 _ _ hm (by omega)).trans (Mv.ofBelow b1) (fun _ e => .inl e)).trans (Mv.ofBelow b2) (fun _ e => .inl e)⟩
  · refine .mk _ _ _ _ hq (by simp) (by simp) ?_ ?_
    · intro i hi
      refine ⟨W.heap.size + 1, 0, rfl, ?_⟩
      match i, hi with
      | 0, _ => exact ⟨cell_of hB 0, cell_of hB 1, cell_of hB 2, cell_of hB 3, cell_of hB 4, cell_of hB 5, cell_of hB 6, cell_of hB 7⟩
      | 1, _ => exact ⟨cell_of hB 8, cell_of hB 9, cell_of hB 10, cell_of hB 11, cell_of hB 12, cell_of hB 13, cell_of hB 14, cell_of hB 15⟩
      | 2, _ => exact ⟨cell_of hB 16, cell_of hB 17, cell_of hB 18, cell_of hB 19, cell_of hB 20, cell_of hB 21, cell_of hB 22, cell_of hB 23⟩
    · intro k hk'
      rcases List.mem_cons.1 hk' with e | e
      · rw [e]; exact hl2.bkn hk2 fun j hj => hZZ j hj.2 (by omega)
      rcases List.mem_cons.1 e with e | e
      · rw [e]; exact hl3.bkn hk3 fun j hj => hZZ j hj.2 (by omega)
      · obtain rfl := List.mem_singleton.1 e
        exact hl4.bkn hk4 fun j hj => hZZ j hj.2 (by omega)
  · refine .mk _ _ _ _ (fun b' o e => ?_) ?_
    · injection e with e; injection e with e; omega
    · intro k hk'
      rcases List.mem_cons.1 hk' with e | e
      · rw [e]; exact hk2.mono fun j hj => ⟨by omega, by omega⟩
      rcases List.mem_cons.1 e with e | e
      · rw [e]; exact hk3.mono fun j hj => ⟨by omega, by omega⟩
      · obtain rfl := List.mem_singleton.1 e
        exact hk4.mono fun j hj => ⟨by omega, by omega⟩
  · obtain ⟨a, c, hr⟩ := hr
    exact ⟨a, c, hr.blk (hZZ _ (by omega) (by omega)) (hZZ _ (by omega) (by omega)) (by omega)⟩
end Go.Proofs.YtkfabnchhjfjjabGreatDoor

/-
  expr: the walk.
-/
namespace Go.Proofs.YtkfabnchhjfjjabGreatDoor
open Go.RowKit
/-- Something, and a choice behind it. -/
def gCh (ro : Except Ft (Tr × List Tk)) (ex : List Tk → Except Ft (Tr × List Tk)) (d : Nat) : Except Ft (Tr × List Tk) :=
  match ro with
  | .error e => .error e
  | .ok (n, r) => match r with
    | [] => .error .lex
    | t :: r2 => if t.x = gB [63] then (match gOpn d (t :: r2) with
      | .error e => .error e
      | .ok (u, r3) => match ex r3 with
        | .error e => .error e
        | .ok (y, r4) => match gTake (gB [58]) r4 with
          | .error e => .error e
          | .ok (_, r5) => match ex r5 with
            | .error e => .error e
            | .ok (z, r6) => .ok (.mk ⟨7, 0, 0, 0, 0, gE, u.p⟩ [n, y, z], r6)) else .ok (n, t :: r2)
set_option maxRecDepth 100000 in
set_option maxHeartbeats 4000000 in
theorem expr_any (ex : List Tk → Except Ft (Tr × List Tk)) (hS : Subs ex) (ro : Except Ft (Tr × List Tk)) {ts : List Tk} (hro : ∀ t r, ro = .ok (t, r) → ∀ x ∈ r, x ∈ ts)
    {w : World} {b G : Nat} {fa : Int} {fe : Value} {d : Nat} {a : Option Addr} {c : Nat} (h : Rdr w b G ts fa fe d a c) (hT : ∀ t ∈ ts, RgT t) (hd : d < 1000)
    (cO : ∀ v a c, Rdr v b G ts fa fe d a c → Calls Tryz.prog 40 #[.pointer (some ⟨b, 0, none⟩)] v (OutN b G fa fe d v ro))
    (cE : d < 24 → ∀ v ts a c, Rdr v b G ts fa fe (d + 1) a c → (∀ t ∈ ts, RgT t) → Calls Tryz.prog 20 #[.pointer (some ⟨b, 0, none⟩)] v (OutN b G fa fe (d + 1) v (ex ts))) :
    Calls Tryz.prog 20 #[.pointer (some ⟨b, 0, none⟩)] w (OutN b G fa fe d w (gCh ro ex d)) := by
  have hmf : ∀ (fn : Fn) (first cap : Array Value) (w : World), (Instr.makeFunc fn first cap).run Tryz.prog w = .ok (.func fn first cap) w := fun _ _ _ _ => rfl
  have hb0 := below_new w (.cells #[.int .u8 0, .int .u8 0, .int .u8 0, .int .i64 0, .int .u8 0, .string ⟨#[]⟩, .slice none 0 0, .int .i64 0] 52)
  have h0 := h.on hb0
  have HBL : Hid (b < w.heap.size) := h.lt
  have HGL : Hid (G < w.heap.size) := h.gl
  have HX0 : Hid (BX w b G fa fe d (w.alloc (.cells #[.int .u8 0, .int .u8 0, .int .u8 0, .int .i64 0, .int .u8 0, .string ⟨#[]⟩, .slice none 0 0, .int .i64 0] 52)) [] ts) := ⟨Mv.ofBelow hb0, heap_new _ _, fun p hp => (by cases hp), ⟨_, _, h0⟩, hT⟩
  have cR := cO _ _ _ h0
  clear h h0 hb0 cO
  cases ro with
  | error f =>
    show Calls _ _ _ _ (OutN b G fa fe d w (.error f))
    clear cE
    go_enter Tryz.func20, Tryz.ntmps20
    go_wp2_with fail
    refine cR.mono ?_
    rintro e w1 ⟨rfl, hm⟩
    exact ⟨rfl, rfl, HX0.out.M.trans hm (fun k e => .inl e)⟩
  | ok q =>
  obtain ⟨t1, R1⟩ := q
  have HS1 : Hid (∀ x ∈ R1, x ∈ ts) := hro _ _ rfl
  have HT1 : Hid (∀ t ∈ R1, RgT t) := fun t ht => hT t (HS1.out t ht)
  clear hro hT
  cases R1 with
  | nil =>
    show Calls _ _ _ _ (OutN b G fa fe d w (.error .lex))
    clear cE
    go_enter Tryz.func20, Tryz.ntmps20
    go_wp2_with fail
    refine cR.mono ?_
    rintro e w1 ⟨⟨m, rfl, rfl, hl, hk⟩, hr, hm⟩
    obtain ⟨⟨k2, o2, ty2, n2, f2, x2, p2⟩, am2, cm2, ks2⟩ := m
    have HX1 : Hid (BX w b G fa fe d (w1.alloc (.cells #[.int .u8 k2, .int .u8 o2, .int .u8 ty2, .int .i64 n2, .int .u8 f2, .string x2, .slice am2 ks2.length cm2, .int .i64 p2] 52)) [(w1.heap.size, (.mk ⟨k2, o2, ty2, n2, f2, x2, p2⟩ am2 cm2 ks2))] []) := (HX0.out.mv HBL.out hm hr HS1.out).push HBL.out hl (hk.mono fun j hj => by rw [size_alloc] at hj; omega)
    clear cR hl hk hr hm
    simp only [Nd.vals, Nd.h, Nd.a, Nd.c, Nd.ks, hdA]
    obtain ⟨aB, cB, hrB⟩ := HX1.out.R
    have cI := is_no hrB ⟨#[63]⟩
    clear hrB
    go_wp2_with fail
    refine cI.mono ?_
    rintro e w2 ⟨rfl, hb⟩
    exact ⟨rfl, rfl, HX1.out.M.trans (Mv.ofBelow hb) (fun k e => .inl e)⟩
  | cons t r2 =>
  by_cases e2 : t.x = gB [63]
  case neg =>
    have eG : gCh (.ok (t1, t :: r2)) ex d = .ok (t1, t :: r2) := by simp only [gCh, if_neg e2]
    rw [eG]
    clear eG cE
    go_enter Tryz.func20, Tryz.ntmps20
    go_wp2_with fail
    refine cR.mono ?_
    rintro e w1 ⟨⟨m, rfl, rfl, hl, hk⟩, hr, hm⟩
    obtain ⟨⟨k2, o2, ty2, n2, f2, x2, p2⟩, am2, cm2, ks2⟩ := m
    have HX1 : Hid (BX w b G fa fe d (w1.alloc (.cells #[.int .u8 k2, .int .u8 o2, .int .u8 ty2, .int .i64 n2, .int .u8 f2, .string x2, .slice am2 ks2.length cm2, .int .i64 p2] 52)) [(w1.heap.size, (.mk ⟨k2, o2, ty2, n2, f2, x2, p2⟩ am2 cm2 ks2))] (t :: r2)) := (HX0.out.mv HBL.out hm hr HS1.out).push HBL.out hl (hk.mono fun j hj => by rw [size_alloc] at hj; omega)
    clear cR hl hk hr hm
    simp only [Nd.vals, Nd.h, Nd.a, Nd.c, Nd.ks, hdA]
    obtain ⟨aB, cB, hrB⟩ := HX1.out.R
    have cI : Calls Tryz.prog 41 #[.pointer (some ⟨b, 0, none⟩), .string ⟨#[63]⟩] (w1.alloc (.cells #[.int .u8 k2, .int .u8 o2, .int .u8 ty2, .int .i64 n2, .int .u8 f2, .string x2, .slice am2 ks2.length cm2, .int .i64 p2] 52)) fun e w' => e = .returned (.bool false) ∧ Below (w1.alloc (.cells #[.int .u8 k2, .int .u8 o2, .int .u8 ty2, .int .i64 n2, .int .u8 f2, .string x2, .slice am2 ks2.length cm2, .int .i64 p2] 52)).heap.size (w1.alloc (.cells #[.int .u8 k2, .int .u8 o2, .int .u8 ty2, .int .i64 n2, .int .u8 f2, .string x2, .slice am2 ks2.length cm2, .int .i64 p2] 52)) w' := by
      have := is_ok hrB (gB [63])
      rw [decide_eq_false e2] at this
      exact this
    clear hrB
    go_wp2_with fail
    refine cI.mono ?_
    rintro e w2 ⟨rfl, hb⟩
    have HX2 := (HX1.out.on HBL.out hb).hid
    clear hb cI
    have hg2 := (HX2.out.B _ (List.mem_cons_self ..)).1
    have hZ2 := HX2.out.Z
    obtain ⟨Y, eY, hY1, hY2, hY3, hY4, hY5⟩ := HX2.out.fin HBL.out HGL.out
    have y0 : w2.cell? ⟨w1.heap.size, 0, none⟩ = some (.int .u8 k2) := cell_of hg2 0
    have z0 : w2.cell? ⟨w.heap.size, 0, none⟩ = some (.int .u8 0) := cell_of hZ2 0
    have q0 : w2.frozen? ⟨w.heap.size, 0, none⟩ = false := frozen_of hZ2 0
    have y1 : w2.cell? ⟨w1.heap.size, 1, none⟩ = some (.int .u8 o2) := cell_of hg2 1
    have z1 : w2.cell? ⟨w.heap.size, 1, none⟩ = some (.int .u8 0) := cell_of hZ2 1
    have q1 : w2.frozen? ⟨w.heap.size, 1, none⟩ = false := frozen_of hZ2 1
    have y2 : w2.cell? ⟨w1.heap.size, 2, none⟩ = some (.int .u8 ty2) := cell_of hg2 2
    have z2 : w2.cell? ⟨w.heap.size, 2, none⟩ = some (.int .u8 0) := cell_of hZ2 2
    have q2 : w2.frozen? ⟨w.heap.size, 2, none⟩ = false := frozen_of hZ2 2
    have y3 : w2.cell? ⟨w1.heap.size, 3, none⟩ = some (.int .i64 n2) := cell_of hg2 3
    have z3 : w2.cell? ⟨w.heap.size, 3, none⟩ = some (.int .i64 0) := cell_of hZ2 3
    have q3 : w2.frozen? ⟨w.heap.size, 3, none⟩ = false := frozen_of hZ2 3
    have y4 : w2.cell? ⟨w1.heap.size, 4, none⟩ = some (.int .u8 f2) := cell_of hg2 4
    have z4 : w2.cell? ⟨w.heap.size, 4, none⟩ = some (.int .u8 0) := cell_of hZ2 4
    have q4 : w2.frozen? ⟨w.heap.size, 4, none⟩ = false := frozen_of hZ2 4
    have y5 : w2.cell? ⟨w1.heap.size, 5, none⟩ = some (.string x2) := cell_of hg2 5
    have z5 : w2.cell? ⟨w.heap.size, 5, none⟩ = some (.string ⟨#[]⟩) := cell_of hZ2 5
    have q5 : w2.frozen? ⟨w.heap.size, 5, none⟩ = false := frozen_of hZ2 5
    have y6 : w2.cell? ⟨w1.heap.size, 6, none⟩ = some (.slice am2 ks2.length cm2) := cell_of hg2 6
    have z6 : w2.cell? ⟨w.heap.size, 6, none⟩ = some (.slice none 0 0) := cell_of hZ2 6
    have q6 : w2.frozen? ⟨w.heap.size, 6, none⟩ = false := frozen_of hZ2 6
    have y7 : w2.cell? ⟨w1.heap.size, 7, none⟩ = some (.int .i64 p2) := cell_of hg2 7
    have z7 : w2.cell? ⟨w.heap.size, 7, none⟩ = some (.int .i64 0) := cell_of hZ2 7
    have q7 : w2.frozen? ⟨w.heap.size, 7, none⟩ = false := frozen_of hZ2 7
    have HEY : Hid (_ = Y) := eY
    have HY1 : Hid (Y.heap[w.heap.size]? = some (.cells (Nd.mk ⟨k2, o2, ty2, n2, f2, x2, p2⟩ am2 cm2 ks2).vals 52 (0, 0))) := hY1
    have HYY : Hid (Lies Y (.mk ⟨k2, o2, ty2, n2, f2, x2, p2⟩ am2 cm2 ks2) ∧ Bkn (fun k => w.heap.size ≤ k ∧ k < Y.heap.size) (.mk ⟨k2, o2, ty2, n2, f2, x2, p2⟩ am2 cm2 ks2) ∧ (∃ a c, Rdr Y b G (t :: r2) fa fe d a c) ∧ Mv w Y (fun k => k = b)) := ⟨hY2, hY3, hY4, hY5⟩
    clear eY hY1 hY2 hY3 hY4 hY5 hZ2 hg2
    go_wp2_with fail
    rw [HEY.out]
    exact bodyPost_ret (results_cell_row rfl _ _ w.heap.size 52 (Nd.mk ⟨k2, o2, ty2, n2, f2, x2, p2⟩ am2 cm2 ks2).vals (0, 0) _ rfl HY1.out Tryz.underlying52 rfl (by kernel_rfl)) rfl ⟨⟨_, rfl, rfl, HYY.out.1, HYY.out.2.1⟩, HYY.out.2.2.1, HYY.out.2.2.2⟩
  case pos =>
  have eG : gCh (.ok (t1, t :: r2)) ex d = (match gOpn d (t :: r2) with
      | .error e => .error e
      | .ok (u, r3) => match ex r3 with
        | .error e => .error e
        | .ok (y, r4) => match gTake (gB [58]) r4 with
          | .error e => .error e
          | .ok (_, r5) => match ex r5 with
            | .error e => .error e
            | .ok (z, r6) => .ok (.mk ⟨7, 0, 0, 0, 0, gE, u.p⟩ [t1, y, z], r6)) := by simp only [gCh, if_pos e2]
  rw [eG]
  clear eG
  cases e3 : gOpn d (t :: r2) with
  | error f =>
    simp only
    clear cE
    go_enter Tryz.func20, Tryz.ntmps20
    go_wp2_with fail
    refine cR.mono ?_
    rintro e w1 ⟨⟨m, rfl, rfl, hl, hk⟩, hr, hm⟩
    obtain ⟨⟨k2, o2, ty2, n2, f2, x2, p2⟩, am2, cm2, ks2⟩ := m
    have HX1 : Hid (BX w b G fa fe d (w1.alloc (.cells #[.int .u8 k2, .int .u8 o2, .int .u8 ty2, .int .i64 n2, .int .u8 f2, .string x2, .slice am2 ks2.length cm2, .int .i64 p2] 52)) [(w1.heap.size, (.mk ⟨k2, o2, ty2, n2, f2, x2, p2⟩ am2 cm2 ks2))] (t :: r2)) := (HX0.out.mv HBL.out hm hr HS1.out).push HBL.out hl (hk.mono fun j hj => by rw [size_alloc] at hj; omega)
    clear cR hl hk hr hm
    simp only [Nd.vals, Nd.h, Nd.a, Nd.c, Nd.ks, hdA]
    obtain ⟨aB, cB, hrB⟩ := HX1.out.R
    have cI : Calls Tryz.prog 41 #[.pointer (some ⟨b, 0, none⟩), .string ⟨#[63]⟩] (w1.alloc (.cells #[.int .u8 k2, .int .u8 o2, .int .u8 ty2, .int .i64 n2, .int .u8 f2, .string x2, .slice am2 ks2.length cm2, .int .i64 p2] 52)) fun e w' => e = .returned (.bool true) ∧ Below (w1.alloc (.cells #[.int .u8 k2, .int .u8 o2, .int .u8 ty2, .int .i64 n2, .int .u8 f2, .string x2, .slice am2 ks2.length cm2, .int .i64 p2] 52)).heap.size (w1.alloc (.cells #[.int .u8 k2, .int .u8 o2, .int .u8 ty2, .int .i64 n2, .int .u8 f2, .string x2, .slice am2 ks2.length cm2, .int .i64 p2] 52)) w' := by
      have := is_ok hrB (gB [63])
      rw [decide_eq_true e2] at this
      exact this
    clear hrB
    go_wp2_with fail
    refine cI.mono ?_
    rintro e w2 ⟨rfl, hb⟩
    have HX2 := (HX1.out.on HBL.out hb).hid
    clear hb cI
    obtain ⟨aC, cC, hrC⟩ := HX2.out.R
    have cS := open_any hrC
    rw [e3] at cS
    clear hrC
    go_wp2_with fail
    refine cS.mono ?_
    rintro e w3 ⟨rfl, hm⟩
    exact ⟨rfl, rfl, HX2.out.M.trans hm (fun k e => .inl e)⟩
  | ok q =>
  obtain ⟨u, r3⟩ := q
  have HS3 : Hid (∀ x ∈ r3, x ∈ t :: r2) := gOpn_sub e3
  replace cE := cE (gOpn_lt e3)
  have hf4 := fun v => field82_4 u v
  have HG : Hid (Rg ⟨7, 0, 0, 0, 0, gE, u.p⟩) := by
    have hu := HT1.out u (by rw [gOpn_mem e3]; simp)
    have := hu.p0; have := hu.p1
    constructor <;> first | omega | (show (0 : Nat) ≤ _; omega) | (simp only; omega) | simp
  simp only
  cases e4 : ex r3 with
  | error f =>
    simp only
    go_enter Tryz.func20, Tryz.ntmps20
    go_wp2_with fail
    refine cR.mono ?_
    rintro e w1 ⟨⟨m, rfl, rfl, hl, hk⟩, hr, hm⟩
    obtain ⟨⟨k2, o2, ty2, n2, f2, x2, p2⟩, am2, cm2, ks2⟩ := m
    have HX1 : Hid (BX w b G fa fe d (w1.alloc (.cells #[.int .u8 k2, .int .u8 o2, .int .u8 ty2, .int .i64 n2, .int .u8 f2, .string x2, .slice am2 ks2.length cm2, .int .i64 p2] 52)) [(w1.heap.size, (.mk ⟨k2, o2, ty2, n2, f2, x2, p2⟩ am2 cm2 ks2))] (t :: r2)) := (HX0.out.mv HBL.out hm hr HS1.out).push HBL.out hl (hk.mono fun j hj => by rw [size_alloc] at hj; omega)
    clear cR hl hk hr hm
    simp only [Nd.vals, Nd.h, Nd.a, Nd.c, Nd.ks, hdA]
    obtain ⟨aB, cB, hrB⟩ := HX1.out.R
    have cI : Calls Tryz.prog 41 #[.pointer (some ⟨b, 0, none⟩), .string ⟨#[63]⟩] (w1.alloc (.cells #[.int .u8 k2, .int .u8 o2, .int .u8 ty2, .int .i64 n2, .int .u8 f2, .string x2, .slice am2 ks2.length cm2, .int .i64 p2] 52)) fun e w' => e = .returned (.bool true) ∧ Below (w1.alloc (.cells #[.int .u8 k2, .int .u8 o2, .int .u8 ty2, .int .i64 n2, .int .u8 f2, .string x2, .slice am2 ks2.length cm2, .int .i64 p2] 52)).heap.size (w1.alloc (.cells #[.int .u8 k2, .int .u8 o2, .int .u8 ty2, .int .i64 n2, .int .u8 f2, .string x2, .slice am2 ks2.length cm2, .int .i64 p2] 52)) w' := by
      have := is_ok hrB (gB [63])
      rw [decide_eq_true e2] at this
      exact this
    clear hrB
    go_wp2_with fail
    refine cI.mono ?_
    rintro e w2 ⟨rfl, hb⟩
    have HX2 := (HX1.out.on HBL.out hb).hid
    clear hb cI
    obtain ⟨aC, cC, hrC⟩ := HX2.out.R
    have cS := open_any hrC
    rw [e3] at cS
    clear hrC
    go_wp2_with fail
    refine cS.mono ?_
    rintro e w3 ⟨rfl, hr, hm⟩
    have HX3 := (HX2.out.mv HBL.out hm hr HS3.out).hid
    clear cS hr hm
    obtain ⟨aD, cD, hrD⟩ := HX3.out.R
    have cW := within_any 20 enter46 hrD hd (ex r3) (fun v a c h => cE v _ _ _ h HX3.out.T)
    rw [e4] at cW
    clear hrD
    go_wp2_with fail
    refine cW.mono ?_
    rintro e w4 ⟨rfl, hm⟩
    exact ⟨rfl, rfl, HX3.out.M.trans hm (fun k e => .inl e)⟩
  | ok q =>
  obtain ⟨t3, r4⟩ := q
  have HS4 : Hid (∀ x ∈ r4, x ∈ r3) := hS _ _ _ e4
  simp only
  cases e5 : gTake (gB [58]) r4 with
  | error f =>
    simp only
    go_enter Tryz.func20, Tryz.ntmps20
    go_wp2_with fail
    refine cR.mono ?_
    rintro e w1 ⟨⟨m, rfl, rfl, hl, hk⟩, hr, hm⟩
    obtain ⟨⟨k2, o2, ty2, n2, f2, x2, p2⟩, am2, cm2, ks2⟩ := m
    have HX1 : Hid (BX w b G fa fe d (w1.alloc (.cells #[.int .u8 k2, .int .u8 o2, .int .u8 ty2, .int .i64 n2, .int .u8 f2, .string x2, .slice am2 ks2.length cm2, .int .i64 p2] 52)) [(w1.heap.size, (.mk ⟨k2, o2, ty2, n2, f2, x2, p2⟩ am2 cm2 ks2))] (t :: r2)) := (HX0.out.mv HBL.out hm hr HS1.out).push HBL.out hl (hk.mono fun j hj => by rw [size_alloc] at hj; omega)
    clear cR hl hk hr hm
    simp only [Nd.vals, Nd.h, Nd.a, Nd.c, Nd.ks, hdA]
    obtain ⟨aB, cB, hrB⟩ := HX1.out.R
    have cI : Calls Tryz.prog 41 #[.pointer (some ⟨b, 0, none⟩), .string ⟨#[63]⟩] (w1.alloc (.cells #[.int .u8 k2, .int .u8 o2, .int .u8 ty2, .int .i64 n2, .int .u8 f2, .string x2, .slice am2 ks2.length cm2, .int .i64 p2] 52)) fun e w' => e = .returned (.bool true) ∧ Below (w1.alloc (.cells #[.int .u8 k2, .int .u8 o2, .int .u8 ty2, .int .i64 n2, .int .u8 f2, .string x2, .slice am2 ks2.length cm2, .int .i64 p2] 52)).heap.size (w1.alloc (.cells #[.int .u8 k2, .int .u8 o2, .int .u8 ty2, .int .i64 n2, .int .u8 f2, .string x2, .slice am2 ks2.length cm2, .int .i64 p2] 52)) w' := by
      have := is_ok hrB (gB [63])
      rw [decide_eq_true e2] at this
      exact this
    clear hrB
    go_wp2_with fail
    refine cI.mono ?_
    rintro e w2 ⟨rfl, hb⟩
    have HX2 := (HX1.out.on HBL.out hb).hid
    clear hb cI
    obtain ⟨aC, cC, hrC⟩ := HX2.out.R
    have cS := open_any hrC
    rw [e3] at cS
    clear hrC
    go_wp2_with fail
    refine cS.mono ?_
    rintro e w3 ⟨rfl, hr, hm⟩
    have HX3 := (HX2.out.mv HBL.out hm hr HS3.out).hid
    clear cS hr hm
    obtain ⟨aD, cD, hrD⟩ := HX3.out.R
    have cW := within_any 20 enter46 hrD hd (ex r3) (fun v a c h => cE v _ _ _ h HX3.out.T)
    rw [e4] at cW
    clear hrD
    go_wp2_with fail
    refine cW.mono ?_
    rintro e w4 ⟨⟨m, rfl, rfl, hl, hk⟩, hr, hm⟩
    obtain ⟨⟨k3, o3, ty3, n3, f3, x3, p3⟩, am3, cm3, ks3⟩ := m
    have hsz : w.heap.size < w3.heap.size := (Array.getElem?_eq_some_iff.1 HX3.out.Z).1
    have HX4 : Hid (BX w b G fa fe d (w4.alloc (.cells #[.int .u8 k3, .int .u8 o3, .int .u8 ty3, .int .i64 n3, .int .u8 f3, .string x3, .slice am3 ks3.length cm3, .int .i64 p3] 52)) [(w4.heap.size, (.mk ⟨k3, o3, ty3, n3, f3, x3, p3⟩ am3 cm3 ks3)), (w1.heap.size, (.mk ⟨k2, o2, ty2, n2, f2, x2, p2⟩ am2 cm2 ks2))] r4) := (HX3.out.mv HBL.out hm hr HS4.out).push HBL.out hl (hk.mono fun j hj => ⟨by omega, hj.2⟩)
    clear cW hl hk hr hm hsz
    simp only [Nd.vals, Nd.h, Nd.a, Nd.c, Nd.ks, hdA]
    obtain ⟨aE, cE', hrE⟩ := HX4.out.R
    have cT : Calls Tryz.prog 25 #[.pointer (some ⟨b, 0, none⟩), .string ⟨#[58]⟩] (w4.alloc (.cells #[.int .u8 k3, .int .u8 o3, .int .u8 ty3, .int .i64 n3, .int .u8 f3, .string x3, .slice am3 ks3.length cm3, .int .i64 p3] 52)) (OutK b G fa fe d (w4.alloc (.cells #[.int .u8 k3, .int .u8 o3, .int .u8 ty3, .int .i64 n3, .int .u8 f3, .string x3, .slice am3 ks3.length cm3, .int .i64 p3] 52)) (gTake (gB [58]) r4)) := take_any hrE (gB [58])
    rw [e5] at cT
    clear hrE
    go_wp2_with fail
    refine cT.mono ?_
    rintro e w5 ⟨rfl, hm⟩
    exact ⟨rfl, rfl, HX4.out.M.trans hm (fun k e => .inl e)⟩
  | ok q =>
  obtain ⟨u5, r5⟩ := q
  have HS5 : Hid (∀ x ∈ r5, x ∈ r4) := gTake_sub e5
  simp only
  cases e6 : ex r5 with
  | error f =>
    simp only
    go_enter Tryz.func20, Tryz.ntmps20
    go_wp2_with fail
    refine cR.mono ?_
    rintro e w1 ⟨⟨m, rfl, rfl, hl, hk⟩, hr, hm⟩
    obtain ⟨⟨k2, o2, ty2, n2, f2, x2, p2⟩, am2, cm2, ks2⟩ := m
    have HX1 : Hid (BX w b G fa fe d (w1.alloc (.cells #[.int .u8 k2, .int .u8 o2, .int .u8 ty2, .int .i64 n2, .int .u8 f2, .string x2, .slice am2 ks2.length cm2, .int .i64 p2] 52)) [(w1.heap.size, (.mk ⟨k2, o2, ty2, n2, f2, x2, p2⟩ am2 cm2 ks2))] (t :: r2)) := (HX0.out.mv HBL.out hm hr HS1.out).push HBL.out hl (hk.mono fun j hj => by rw [size_alloc] at hj; omega)
    clear cR hl hk hr hm
    simp only [Nd.vals, Nd.h, Nd.a, Nd.c, Nd.ks, hdA]
    obtain ⟨aB, cB, hrB⟩ := HX1.out.R
    have cI : Calls Tryz.prog 41 #[.pointer (some ⟨b, 0, none⟩), .string ⟨#[63]⟩] (w1.alloc (.cells #[.int .u8 k2, .int .u8 o2, .int .u8 ty2, .int .i64 n2, .int .u8 f2, .string x2, .slice am2 ks2.length cm2, .int .i64 p2] 52)) fun e w' => e = .returned (.bool true) ∧ Below (w1.alloc (.cells #[.int .u8 k2, .int .u8 o2, .int .u8 ty2, .int .i64 n2, .int .u8 f2, .string x2, .slice am2 ks2.length cm2, .int .i64 p2] 52)).heap.size (w1.alloc (.cells #[.int .u8 k2, .int .u8 o2, .int .u8 ty2, .int .i64 n2, .int .u8 f2, .string x2, .slice am2 ks2.length cm2, .int .i64 p2] 52)) w' := by
      have := is_ok hrB (gB [63])
      rw [decide_eq_true e2] at this
      exact this
    clear hrB
    go_wp2_with fail
    refine cI.mono ?_
    rintro e w2 ⟨rfl, hb⟩
    have HX2 := (HX1.out.on HBL.out hb).hid
    clear hb cI
    obtain ⟨aC, cC, hrC⟩ := HX2.out.R
    have cS := open_any hrC
    rw [e3] at cS
    clear hrC
    go_wp2_with fail
    refine cS.mono ?_
    rintro e w3 ⟨rfl, hr, hm⟩
    have HX3 := (HX2.out.mv HBL.out hm hr HS3.out).hid
    clear cS hr hm
    obtain ⟨aD, cD, hrD⟩ := HX3.out.R
    have cW := within_any 20 enter46 hrD hd (ex r3) (fun v a c h => cE v _ _ _ h HX3.out.T)
    rw [e4] at cW
    clear hrD
    go_wp2_with fail
    refine cW.mono ?_
    rintro e w4 ⟨⟨m, rfl, rfl, hl, hk⟩, hr, hm⟩
    obtain ⟨⟨k3, o3, ty3, n3, f3, x3, p3⟩, am3, cm3, ks3⟩ := m
    have hsz : w.heap.size < w3.heap.size := (Array.getElem?_eq_some_iff.1 HX3.out.Z).1
    have HX4 : Hid (BX w b G fa fe d (w4.alloc (.cells #[.int .u8 k3, .int .u8 o3, .int .u8 ty3, .int .i64 n3, .int .u8 f3, .string x3, .slice am3 ks3.length cm3, .int .i64 p3] 52)) [(w4.heap.size, (.mk ⟨k3, o3, ty3, n3, f3, x3, p3⟩ am3 cm3 ks3)), (w1.heap.size, (.mk ⟨k2, o2, ty2, n2, f2, x2, p2⟩ am2 cm2 ks2))] r4) := (HX3.out.mv HBL.out hm hr HS4.out).push HBL.out hl (hk.mono fun j hj => ⟨by omega, hj.2⟩)
    clear cW hl hk hr hm hsz
    simp only [Nd.vals, Nd.h, Nd.a, Nd.c, Nd.ks, hdA]
    obtain ⟨aE, cE', hrE⟩ := HX4.out.R
    have cT : Calls Tryz.prog 25 #[.pointer (some ⟨b, 0, none⟩), .string ⟨#[58]⟩] (w4.alloc (.cells #[.int .u8 k3, .int .u8 o3, .int .u8 ty3, .int .i64 n3, .int .u8 f3, .string x3, .slice am3 ks3.length cm3, .int .i64 p3] 52)) (OutK b G fa fe d (w4.alloc (.cells #[.int .u8 k3, .int .u8 o3, .int .u8 ty3, .int .i64 n3, .int .u8 f3, .string x3, .slice am3 ks3.length cm3, .int .i64 p3] 52)) (gTake (gB [58]) r4)) := take_any hrE (gB [58])
    rw [e5] at cT
    clear hrE
    go_wp2_with fail
    refine cT.mono ?_
    rintro e w5 ⟨rfl, hr, hm⟩
    have HX5 := (HX4.out.mv HBL.out hm hr HS5.out).hid
    clear cT hr hm
    obtain ⟨aF, cF, hrF⟩ := HX5.out.R
    have cV := within_any 20 enter46 hrF hd (ex r5) (fun v a c h => cE v _ _ _ h HX5.out.T)
    rw [e6] at cV
    clear hrF
    go_wp2_with fail
    refine cV.mono ?_
    rintro e w6 ⟨rfl, hm⟩
    exact ⟨rfl, rfl, HX5.out.M.trans hm (fun k e => .inl e)⟩
  | ok q =>
    obtain ⟨t6, r6⟩ := q
    have HS6 : Hid (∀ x ∈ r6, x ∈ r5) := hS _ _ _ e6
    simp only
    go_enter Tryz.func20, Tryz.ntmps20
    go_wp2_with fail
    refine cR.mono ?_
    rintro e w1 ⟨⟨m, rfl, rfl, hl, hk⟩, hr, hm⟩
    obtain ⟨⟨k2, o2, ty2, n2, f2, x2, p2⟩, am2, cm2, ks2⟩ := m
    have HX1 : Hid (BX w b G fa fe d (w1.alloc (.cells #[.int .u8 k2, .int .u8 o2, .int .u8 ty2, .int .i64 n2, .int .u8 f2, .string x2, .slice am2 ks2.length cm2, .int .i64 p2] 52)) [(w1.heap.size, (.mk ⟨k2, o2, ty2, n2, f2, x2, p2⟩ am2 cm2 ks2))] (t :: r2)) := (HX0.out.mv HBL.out hm hr HS1.out).push HBL.out hl (hk.mono fun j hj => by rw [size_alloc] at hj; omega)
    clear cR hl hk hr hm
    simp only [Nd.vals, Nd.h, Nd.a, Nd.c, Nd.ks, hdA]
    obtain ⟨aB, cB, hrB⟩ := HX1.out.R
    have cI : Calls Tryz.prog 41 #[.pointer (some ⟨b, 0, none⟩), .string ⟨#[63]⟩] (w1.alloc (.cells #[.int .u8 k2, .int .u8 o2, .int .u8 ty2, .int .i64 n2, .int .u8 f2, .string x2, .slice am2 ks2.length cm2, .int .i64 p2] 52)) fun e w' => e = .returned (.bool true) ∧ Below (w1.alloc (.cells #[.int .u8 k2, .int .u8 o2, .int .u8 ty2, .int .i64 n2, .int .u8 f2, .string x2, .slice am2 ks2.length cm2, .int .i64 p2] 52)).heap.size (w1.alloc (.cells #[.int .u8 k2, .int .u8 o2, .int .u8 ty2, .int .i64 n2, .int .u8 f2, .string x2, .slice am2 ks2.length cm2, .int .i64 p2] 52)) w' := by
      have := is_ok hrB (gB [63])
      rw [decide_eq_true e2] at this
      exact this
    clear hrB
    go_wp2_with fail
    refine cI.mono ?_
    rintro e w2 ⟨rfl, hb⟩
    have HX2 := (HX1.out.on HBL.out hb).hid
    clear hb cI
    obtain ⟨aC, cC, hrC⟩ := HX2.out.R
    have cS := open_any hrC
    rw [e3] at cS
    clear hrC
    go_wp2_with fail
    refine cS.mono ?_
    rintro e w3 ⟨rfl, hr, hm⟩
    have HX3 := (HX2.out.mv HBL.out hm hr HS3.out).hid
    clear cS hr hm
    obtain ⟨aD, cD, hrD⟩ := HX3.out.R
    have cW := within_any 20 enter46 hrD hd (ex r3) (fun v a c h => cE v _ _ _ h HX3.out.T)
    rw [e4] at cW
    clear hrD
    go_wp2_with fail
    refine cW.mono ?_
    rintro e w4 ⟨⟨m, rfl, rfl, hl, hk⟩, hr, hm⟩
    obtain ⟨⟨k3, o3, ty3, n3, f3, x3, p3⟩, am3, cm3, ks3⟩ := m
    have hsz : w.heap.size < w3.heap.size := (Array.getElem?_eq_some_iff.1 HX3.out.Z).1
    have HX4 : Hid (BX w b G fa fe d (w4.alloc (.cells #[.int .u8 k3, .int .u8 o3, .int .u8 ty3, .int .i64 n3, .int .u8 f3, .string x3, .slice am3 ks3.length cm3, .int .i64 p3] 52)) [(w4.heap.size, (.mk ⟨k3, o3, ty3, n3, f3, x3, p3⟩ am3 cm3 ks3)), (w1.heap.size, (.mk ⟨k2, o2, ty2, n2, f2, x2, p2⟩ am2 cm2 ks2))] r4) := (HX3.out.mv HBL.out hm hr HS4.out).push HBL.out hl (hk.mono fun j hj => ⟨by omega, hj.2⟩)
    clear cW hl hk hr hm hsz
    simp only [Nd.vals, Nd.h, Nd.a, Nd.c, Nd.ks, hdA]
    obtain ⟨aE, cE', hrE⟩ := HX4.out.R
    have cT : Calls Tryz.prog 25 #[.pointer (some ⟨b, 0, none⟩), .string ⟨#[58]⟩] (w4.alloc (.cells #[.int .u8 k3, .int .u8 o3, .int .u8 ty3, .int .i64 n3, .int .u8 f3, .string x3, .slice am3 ks3.length cm3, .int .i64 p3] 52)) (OutK b G fa fe d (w4.alloc (.cells #[.int .u8 k3, .int .u8 o3, .int .u8 ty3, .int .i64 n3, .int .u8 f3, .string x3, .slice am3 ks3.length cm3, .int .i64 p3] 52)) (gTake (gB [58]) r4)) := take_any hrE (gB [58])
    rw [e5] at cT
    clear hrE
    go_wp2_with fail
    refine cT.mono ?_
    rintro e w5 ⟨rfl, hr, hm⟩
    have HX5 := (HX4.out.mv HBL.out hm hr HS5.out).hid
    clear cT hr hm
    obtain ⟨aF, cF, hrF⟩ := HX5.out.R
    have cV := within_any 20 enter46 hrF hd (ex r5) (fun v a c h => cE v _ _ _ h HX5.out.T)
    rw [e6] at cV
    clear hrF
    go_wp2_with fail
    refine cV.mono ?_
    rintro e w6 ⟨⟨m, rfl, rfl, hl, hk⟩, hr, hm⟩
    obtain ⟨⟨k4, o4, ty4, n4, f4, x4, p4⟩, am4, cm4, ks4⟩ := m
    have hsz : w.heap.size < w5.heap.size := (Array.getElem?_eq_some_iff.1 HX5.out.Z).1
    have HX6 := (HX5.out.mv HBL.out hm hr HS6.out).hid
    obtain ⟨g3, _, l3, b3⟩ := HX6.out.B _ (List.mem_cons_self ..)
    obtain ⟨g2, _, l2, b2⟩ := HX6.out.B _ (List.mem_cons_of_mem _ (List.mem_cons_self ..))
    have hZ6 := HX6.out.Z
    have hs0 : w.heap.size < w6.heap.size := (Array.getElem?_eq_some_iff.1 hZ6).1
    have hs3 : w4.heap.size < w6.heap.size := (Array.getElem?_eq_some_iff.1 g3).1
    have hs2 : w1.heap.size < w6.heap.size := (Array.getElem?_eq_some_iff.1 g2).1
    obtain ⟨Y, eY, hY1, hY2, hY3, hY4, hY5⟩ := three8 HX6.out.M hZ6 l2 b2 l3 b3 hl (hk.mono fun j hj => ⟨by omega, hj.2⟩) hr HBL.out HGL.out HG.out
    have y0 : w6.cell? ⟨w1.heap.size, 0, none⟩ = some (.int .u8 k2) := cell_of g2 0
    have v0 : w6.cell? ⟨w4.heap.size, 0, none⟩ = some (.int .u8 k3) := cell_of g3 0
    have z0 : w6.cell? ⟨w.heap.size, 0, none⟩ = some (.int .u8 0) := cell_of hZ6 0
    have q0 : w6.frozen? ⟨w.heap.size, 0, none⟩ = false := frozen_of hZ6 0
    have y1 : w6.cell? ⟨w1.heap.size, 1, none⟩ = some (.int .u8 o2) := cell_of g2 1
    have v1 : w6.cell? ⟨w4.heap.size, 1, none⟩ = some (.int .u8 o3) := cell_of g3 1
    have z1 : w6.cell? ⟨w.heap.size, 1, none⟩ = some (.int .u8 0) := cell_of hZ6 1
    have q1 : w6.frozen? ⟨w.heap.size, 1, none⟩ = false := frozen_of hZ6 1
    have y2 : w6.cell? ⟨w1.heap.size, 2, none⟩ = some (.int .u8 ty2) := cell_of g2 2
    have v2 : w6.cell? ⟨w4.heap.size, 2, none⟩ = some (.int .u8 ty3) := cell_of g3 2
    have z2 : w6.cell? ⟨w.heap.size, 2, none⟩ = some (.int .u8 0) := cell_of hZ6 2
    have q2 : w6.frozen? ⟨w.heap.size, 2, none⟩ = false := frozen_of hZ6 2
    have y3 : w6.cell? ⟨w1.heap.size, 3, none⟩ = some (.int .i64 n2) := cell_of g2 3
    have v3 : w6.cell? ⟨w4.heap.size, 3, none⟩ = some (.int .i64 n3) := cell_of g3 3
    have z3 : w6.cell? ⟨w.heap.size, 3, none⟩ = some (.int .i64 0) := cell_of hZ6 3
    have q3 : w6.frozen? ⟨w.heap.size, 3, none⟩ = false := frozen_of hZ6 3
    have y4 : w6.cell? ⟨w1.heap.size, 4, none⟩ = some (.int .u8 f2) := cell_of g2 4
    have v4 : w6.cell? ⟨w4.heap.size, 4, none⟩ = some (.int .u8 f3) := cell_of g3 4
    have z4 : w6.cell? ⟨w.heap.size, 4, none⟩ = some (.int .u8 0) := cell_of hZ6 4
    have q4 : w6.frozen? ⟨w.heap.size, 4, none⟩ = false := frozen_of hZ6 4
    have y5 : w6.cell? ⟨w1.heap.size, 5, none⟩ = some (.string x2) := cell_of g2 5
    have v5 : w6.cell? ⟨w4.heap.size, 5, none⟩ = some (.string x3) := cell_of g3 5
    have z5 : w6.cell? ⟨w.heap.size, 5, none⟩ = some (.string ⟨#[]⟩) := cell_of hZ6 5
    have q5 : w6.frozen? ⟨w.heap.size, 5, none⟩ = false := frozen_of hZ6 5
    have y6 : w6.cell? ⟨w1.heap.size, 6, none⟩ = some (.slice am2 ks2.length cm2) := cell_of g2 6
    have v6 : w6.cell? ⟨w4.heap.size, 6, none⟩ = some (.slice am3 ks3.length cm3) := cell_of g3 6
    have z6 : w6.cell? ⟨w.heap.size, 6, none⟩ = some (.slice none 0 0) := cell_of hZ6 6
    have q6 : w6.frozen? ⟨w.heap.size, 6, none⟩ = false := frozen_of hZ6 6
    have y7 : w6.cell? ⟨w1.heap.size, 7, none⟩ = some (.int .i64 p2) := cell_of g2 7
    have v7 : w6.cell? ⟨w4.heap.size, 7, none⟩ = some (.int .i64 p3) := cell_of g3 7
    have z7 : w6.cell? ⟨w.heap.size, 7, none⟩ = some (.int .i64 0) := cell_of hZ6 7
    have q7 : w6.frozen? ⟨w.heap.size, 7, none⟩ = false := frozen_of hZ6 7
    have HEY : Hid (_ = Y) := eY
    have HY1 : Hid (Y.heap[w.heap.size]? = some (.cells (Nd.mk ⟨7, 0, 0, 0, 0, gE, u.p⟩ (some ⟨w6.heap.size + 1, 0, none⟩) 3 [(.mk ⟨k2, o2, ty2, n2, f2, x2, p2⟩ am2 cm2 ks2), (.mk ⟨k3, o3, ty3, n3, f3, x3, p3⟩ am3 cm3 ks3), (.mk ⟨k4, o4, ty4, n4, f4, x4, p4⟩ am4 cm4 ks4)]).vals 52 (0, 0))) := hY1
    have HYY : Hid (Lies Y (.mk ⟨7, 0, 0, 0, 0, gE, u.p⟩ (some ⟨w6.heap.size + 1, 0, none⟩) 3 [(.mk ⟨k2, o2, ty2, n2, f2, x2, p2⟩ am2 cm2 ks2), (.mk ⟨k3, o3, ty3, n3, f3, x3, p3⟩ am3 cm3 ks3), (.mk ⟨k4, o4, ty4, n4, f4, x4, p4⟩ am4 cm4 ks4)]) ∧ Bkn (fun k => w.heap.size ≤ k ∧ k < Y.heap.size) (.mk ⟨7, 0, 0, 0, 0, gE, u.p⟩ (some ⟨w6.heap.size + 1, 0, none⟩) 3 [(.mk ⟨k2, o2, ty2, n2, f2, x2, p2⟩ am2 cm2 ks2), (.mk ⟨k3, o3, ty3, n3, f3, x3, p3⟩ am3 cm3 ks3), (.mk ⟨k4, o4, ty4, n4, f4, x4, p4⟩ am4 cm4 ks4)]) ∧ (∃ a c, Rdr Y b G r6 fa fe d a c) ∧ Mv w Y (fun k => k = b)) := ⟨hY2, hY3, hY4, hY5⟩
    clear eY hY1 hY2 hY3 hY4 hY5 hZ6 hm hl hk hr cV g2 g3 l2 l3 b2 b3 cE
    simp only [Nd.vals, Nd.h, Nd.a, Nd.c, Nd.ks, hdA]
    go_wp2_with fail
    rw [HEY.out]
    exact bodyPost_ret (results_cell_row rfl _ _ w.heap.size 52 (Nd.mk ⟨7, 0, 0, 0, 0, gE, u.p⟩ (some ⟨w6.heap.size + 1, 0, none⟩) 3 [(.mk ⟨k2, o2, ty2, n2, f2, x2, p2⟩ am2 cm2 ks2), (.mk ⟨k3, o3, ty3, n3, f3, x3, p3⟩ am3 cm3 ks3), (.mk ⟨k4, o4, ty4, n4, f4, x4, p4⟩ am4 cm4 ks4)]).vals (0, 0) _ rfl HY1.out Tryz.underlying52 rfl (by kernel_rfl)) rfl ⟨⟨_, rfl, rfl, HYY.out.1, HYY.out.2.1⟩, HYY.out.2.2.1, HYY.out.2.2.2⟩
end Go.Proofs.YtkfabnchhjfjjabGreatDoor

/-
  expr, in the grammar's words.
-/
namespace Go.Proofs.YtkfabnchhjfjjabGreatDoor
open Go.RowKit
theorem gEx_ch (ex un : List Tk → Except Ft (Tr × List Tk)) (d : Nat) (ts : List Tk) : gEx ex un d ts = gCh (gRow orX (gRow andX (gRow cmpX (gRow sumX (gRow proX (gUn ex un d) 4096) 4096) 1) 4096) 4096 ts) ex d := by
  unfold gEx
  cases gRow orX (gRow andX (gRow cmpX (gRow sumX (gRow proX (gUn ex un d) 4096) 4096) 1) 4096) 4096 ts with
  | error e => rfl
  | ok q =>
    obtain ⟨n, r⟩ := q
    cases r with
    | nil => rfl
    | cons t r2 =>
      by_cases e : t.x = gB [63]
      · simp only [gCh, gIs, gLook, Except.map, bind, Except.bind, if_pos e, decide_eq_true e, Bool.true_eq_false, if_false]
        cases gOpn d (t :: r2) with
        | error e => rfl
        | ok q =>
          simp only
          cases ex q.2 with
          | error e => rfl
          | ok q =>
            simp only
            cases gTake (gB [58]) q.2 with
            | error e => rfl
            | ok q =>
              simp only
              cases ex q.2 with
              | error e => rfl
              | ok q => rfl
      · simp only [gCh, gIs, gLook, Except.map, bind, Except.bind, if_neg e, decide_eq_false e, if_true]
/-- An expression at a nest, from one and what stands deeper. -/
theorem ex_step (ex un : List Tk → Except Ft (Tr × List Tk)) (he : Subs ex) (hu : Subs un) {b G : Nat} {fa : Int} {fe : Value} {d : Nat} (hd : d < 1000)
    (cO : ∀ v ts a c, Rdr v b G ts fa fe d a c → (∀ t ∈ ts, RgT t) → Calls Tryz.prog 118 #[.pointer (some ⟨b, 0, none⟩)] v (OutN b G fa fe d v (gOne ex d ts)))
    (cU : d < 24 → ∀ v ts a c, Rdr v b G ts fa fe (d + 1) a c → (∀ t ∈ ts, RgT t) → Calls Tryz.prog 115 #[.pointer (some ⟨b, 0, none⟩)] v (OutN b G fa fe (d + 1) v (un ts)))
    (cE : d < 24 → ∀ v ts a c, Rdr v b G ts fa fe (d + 1) a c → (∀ t ∈ ts, RgT t) → Calls Tryz.prog 20 #[.pointer (some ⟨b, 0, none⟩)] v (OutN b G fa fe (d + 1) v (ex ts))) :
    (∀ v ts a c, Rdr v b G ts fa fe d a c → (∀ t ∈ ts, RgT t) → Calls Tryz.prog 115 #[.pointer (some ⟨b, 0, none⟩)] v (OutN b G fa fe d v (gUn ex un d ts))) ∧
    (∀ v ts a c, Rdr v b G ts fa fe d a c → (∀ t ∈ ts, RgT t) → Calls Tryz.prog 20 #[.pointer (some ⟨b, 0, none⟩)] v (OutN b G fa fe d v (gEx ex un d ts))) := by
  have s0 := gUn_sub he hu d
  have s1 := gRow_sub proX s0 4096
  have s2 := gRow_sub sumX s1 4096
  have s3 := gRow_sub cmpX s2 1
  have s4 := gRow_sub andX s3 4096
  have s5 := gRow_sub orX s4 4096
  have c0 : ∀ v ts a c, Rdr v b G ts fa fe d a c → (∀ t ∈ ts, RgT t) → Calls Tryz.prog 115 #[.pointer (some ⟨b, 0, none⟩)] v (OutN b G fa fe d v (gUn ex un d ts)) :=
    fun v ts a c h hT => unary_any ex un h hT hd (fun v a c h => cO v ts a c h hT) cU
  refine ⟨c0, fun v ts a c h hT => ?_⟩
  rw [gEx_ch]
  exact expr_any ex he _ (fun t r e => s5 ts t r e) h hT hd (fun v a c h =>
    or_any _ s4 h hT fun v ts a c h hT => and_any _ s3 h hT fun v ts a c h hT => compare_any _ s2 h hT fun v ts a c h hT => sum_any _ s1 h hT fun v ts a c h hT => product_any _ s0 h hT c0) cE
end Go.Proofs.YtkfabnchhjfjjabGreatDoor
