/-
  conv: a type's word, and an expression in brackets behind it.
-/
import Derived.Test.YtkfabnchhjfjjabGreatDoorRe1
import Derived.Deep.RegionHeld3
namespace Go.Proofs.YtkfabnchhjfjjabGreatDoor
open Go.RowKit
/-- The world has only grown. -/
def GB (w v : World) : Prop := Below w.heap.size w v
theorem GB.refl (w : World) : GB w w := Below.refl _ _
theorem GB.alloc {w v : World} (h : GB w v) (o : Obj) : GB w (v.alloc o) := below2 h (below_new _ _)
theorem GB.drew {w v : World} (h : GB w v) {n : Nat} : GB w { v with drawn := n } := ⟨h.os, h.tape, h.output, h.size, h.block⟩
theorem GB.drew2 {w v : World} (h : GB w v) : GB w v.drew := ⟨h.os, h.tape, h.output, h.size, h.block⟩
theorem GB.call {w v v' : World} (h : GB w v) (k : Below v.heap.size v v') : GB w v' := below2 h k
/-- All but one block is as it was. -/
def MR (w : World) (R : Nat) (v : World) : Prop := Mv w v (fun k => k = R)
theorem MR.refl (w : World) (R : Nat) : MR w R w := Mv.refl _ _
theorem MR.alloc {w v : World} {R : Nat} (h : MR w R v) (o : Obj) : MR w R (v.alloc o) := Mv.alloc h _
theorem MR.drew {w v : World} {R : Nat} (h : MR w R v) {n : Nat} : MR w R { v with drawn := n } := ⟨h.os, h.tape, h.output, h.size, h.block⟩
theorem MR.drew2 {w v : World} {R : Nat} (h : MR w R v) : MR w R v.drew := ⟨h.os, h.tape, h.output, h.size, h.block⟩
theorem MR.call {w v v' : World} {R : Nat} (h : MR w R v) (k : Below v.heap.size v v') : MR w R v' := h.trans (Mv.ofBelow k) (fun _ e => .inl e)
theorem MR.set {w v : World} {R : Nat} (h : MR w R v) (i : Nat) (x : Value) : MR w R (v.setCell ⟨R, i, none⟩ x) := Mv.setCell h (a := ⟨R, i, none⟩) (Or.inl (rfl : R = R)) _
/-- A node of one kid, that lies in a block of its own. -/
theorem kid_fin {w : World} {b G : Nat} {fa : Int} {fe : Value} {d : Nat} {W Y : World} {bs : List (Nat × Nd)} {ts : List Tk} {m : Nd} {h : Hd} {B : Nat} (hx : BX w b G fa fe d W bs ts) (hb : b < w.heap.size) (hg : G < w.heap.size) (hl : Lies W m) (hk : Bkn (fun k => w.heap.size < k ∧ k < W.heap.size) m) (hq : Rg h) (hB : W.heap.size ≤ B) (hYB : Y.heap[B]? = some (.cells m.vals 52 (0, 0))) (hm : Mv W Y (fun k => k = w.heap.size)) :
    Lies Y (.mk h (some ⟨B, 0, none⟩) 1 [m]) ∧ Bkn (fun k => w.heap.size ≤ k ∧ k < Y.heap.size) (.mk h (some ⟨B, 0, none⟩) 1 [m]) ∧ (∃ a c, Rdr Y b G ts fa fe d a c) ∧ Mv w Y (fun k => k = b) := by
  have hs := hm.size
  have hW := (Array.getElem?_eq_some_iff.1 hx.Z).1
  have hBY := (Array.getElem?_eq_some_iff.1 hYB).1
  refine ⟨?_, ?_, ?_, hx.M.trans hm (fun k e => .inr (by omega))⟩
  · refine .mk _ _ _ _ hq (by simp) (by simp) ?_ ?_
    · intro i hi
      refine ⟨B, 0, rfl, ?_⟩
      match i, hi with
      | 0, _ =>
        obtain ⟨h', a', c', ks'⟩ := m
        exact ⟨cell_of hYB 0, cell_of hYB 1, cell_of hYB 2, cell_of hYB 3, cell_of hYB 4, cell_of hYB 5, cell_of hYB 6, cell_of hYB 7⟩
    · intro k hk'
      obtain rfl := List.mem_singleton.1 hk'
      exact hl.bkn hk fun j hj => hm.block j hj.2 (by omega)
  · refine .mk _ _ _ _ (fun b' o e => ?_) ?_
    · injection e with e; injection e with e; omega
    · intro k hk'
      obtain rfl := List.mem_singleton.1 hk'
      exact hk.mono fun j hj => ⟨by omega, by omega⟩
  · obtain ⟨a, c, hr⟩ := hx.R
    exact ⟨a, c, hr.blk (hm.block _ hr.lt (by omega)) (hm.block _ hr.gl (by omega)) hs⟩
/-- A conversion, given what an expression is that lies deeper. -/
def gConv (ex : List Tk → Except Ft (Tr × List Tk)) (d : Nat) (ts : List Tk) : Except Ft (Tr × List Tk) :=
  match gOpn d ts with
  | .error e => .error e
  | .ok q => match gTake (gB [40]) q.2 with
    | .error e => .error e
    | .ok q2 => match gIn (ex q2.2) with
      | .error e => .error e
      | .ok q3 => .ok (.mk ⟨9, 0, tyX q.1.x, 0, 0, gE, q.1.p⟩ [q3.1], q3.2)
theorem tyX_rg (x : ByteArray) : 0 ≤ tyX x ∧ tyX x ≤ 6 := by
  unfold tyX
  repeat' split
  all_goals omega
theorem gIn_sub {r : Except Ft (Tr × List Tk)} {ts : List Tk} (hr : ∀ t q, r = .ok (t, q) → ∀ x ∈ q, x ∈ ts) : ∀ t q, gIn r = .ok (t, q) → ∀ x ∈ q, x ∈ ts := by
  intro t q h x hx
  unfold gIn at h
  obtain ⟨⟨n, r1⟩, h1, h2⟩ := bind_ok h
  obtain ⟨⟨_, r2⟩, h3, h4⟩ := bind_ok h2
  cases h4
  exact hr _ _ h1 _ (gTake_sub h3 _ hx)
set_option maxRecDepth 100000 in
set_option maxHeartbeats 16000000 in
theorem conv_any (ex : List Tk → Except Ft (Tr × List Tk)) (hS : Subs ex) {w : World} {b G : Nat} {ts : List Tk} {fa : Int} {fe : Value} {d : Nat} {a : Option Addr} {c : Nat} (h : Rdr w b G ts fa fe d a c) (hT : ∀ t ∈ ts, RgT t) (hd : d < 1000)
    (cE : d < 24 → ∀ v ts a c, Rdr v b G ts fa fe (d + 1) a c → (∀ t ∈ ts, RgT t) → Calls Tryz.prog 20 #[.pointer (some ⟨b, 0, none⟩)] v (OutN b G fa fe (d + 1) v (ex ts))) :
    Calls Tryz.prog 124 #[.pointer (some ⟨b, 0, none⟩)] w (OutN b G fa fe d w (gConv ex d ts)) := by
  have hb0 := below_new w (.cells #[.int .u8 0, .int .u8 0, .int .u8 0, .int .i64 0, .int .u8 0, .string ⟨#[]⟩, .slice none 0 0, .int .i64 0] 52)
  have h0 := h.on hb0
  have HBL : Hid (b < w.heap.size) := h.lt
  have HGL : Hid (G < w.heap.size) := h.gl
  have X0 : BX w b G fa fe d (w.alloc (.cells #[.int .u8 0, .int .u8 0, .int .u8 0, .int .i64 0, .int .u8 0, .string ⟨#[]⟩, .slice none 0 0, .int .i64 0] 52)) [] ts := ⟨Mv.ofBelow hb0, heap_new _ _, fun p hp => by simp at hp, ⟨a, c, h0⟩, hT⟩
  have X0 := X0.hid
  have cO := open_any h0
  unfold gConv
  clear h hb0 h0
  obtain ⟨O, eO⟩ : ∃ O, gOpn d ts = O := ⟨_, rfl⟩
  have HEO : Hid (gOpn d ts = O) := eO
  rw [eO] at cO ⊢
  clear eO
  cases O with
  | error f =>
    clear cE
    go_enter Tryz.func124, Tryz.ntmps124
    go_wp2_with fail
    refine cO.mono ?_
    rintro e w1 ⟨rfl, hm⟩
    exact ⟨rfl, rfl, X0.out.M.trans hm (fun k e => .inl e)⟩
  | ok q =>
  obtain ⟨u, r⟩ := q
  replace cE := cE (gOpn_lt HEO.out)
  have HUT : Hid (RgT u) := hT u (by rw [gOpn_mem HEO.out]; simp)
  have HSB : Hid (∀ x ∈ r, x ∈ ts) := gOpn_sub HEO.out
  clear HEO
  simp only
  obtain ⟨O, eO⟩ : ∃ O, gTake (gB [40]) r = O := ⟨_, rfl⟩
  have HET : Hid (gTake (gB [40]) r = O) := eO
  rw [eO]
  clear eO hT
  cases O with
  | error f =>
    clear cE
    go_enter Tryz.func124, Tryz.ntmps124
    go_wp2_with fail
    refine cO.mono ?_
    rintro e w1 ⟨rfl, hr1, hm⟩
    have X1 := (X0.out.mv HBL.out hm hr1 HSB.out).on HBL.out (below_new w1 (.cells #[.int .u8 u.k, .string u.x, .int .u8 u.ty, .int .i64 u.n, .int .i64 u.p] 33))
    obtain ⟨a1, c1, h1⟩ := X1.R
    have cT := take_any h1 (gB [40])
    rw [HET.out] at cT
    have cT : Calls Tryz.prog 25 #[.pointer (some ⟨b, 0, none⟩), .string ⟨#[40]⟩] _ (OutK b G fa fe d _ (.error f)) := cT
    have X1 := X1.hid
    clear cO hm hr1 h1
    unfold tkA
    go_wp2_with fail
    refine cT.mono ?_
    rintro e w2 ⟨rfl, hm⟩
    exact ⟨rfl, rfl, X1.out.M.trans hm (fun k e => .inl e)⟩
  | ok q =>
  obtain ⟨u2, r2⟩ := q
  have HS2 : Hid (∀ x ∈ r2, x ∈ r) := gTake_sub HET.out
  simp only
  obtain ⟨O, eO⟩ : ∃ O, gIn (ex r2) = O := ⟨_, rfl⟩
  have HEI : Hid (gIn (ex r2) = O) := eO
  rw [eO]
  clear eO
  go_enter Tryz.func124, Tryz.ntmps124
  go_wp2_with fail
  refine cO.mono ?_
  rintro e w1 ⟨rfl, hr1, hm⟩
  have X1 := (X0.out.mv HBL.out hm hr1 HSB.out).on HBL.out (below_new w1 (.cells #[.int .u8 u.k, .string u.x, .int .u8 u.ty, .int .i64 u.n, .int .i64 u.p] 33))
  have HK1 : Hid ((w1.alloc (.cells #[.int .u8 u.k, .string u.x, .int .u8 u.ty, .int .i64 u.n, .int .i64 u.p] 33)).heap[w1.heap.size]? = some (.cells #[.int .u8 u.k, .string u.x, .int .u8 u.ty, .int .i64 u.n, .int .i64 u.p] 33 (0, 0))) := heap_new _ _
  have HT1 : Hid (w.heap.size < w1.heap.size) := Nat.lt_of_lt_of_le (Array.getElem?_eq_some_iff.1 X0.out.Z).1 hm.size
  obtain ⟨Tb, eTb⟩ : ∃ T, w1.heap.size = T := ⟨_, rfl⟩
  obtain ⟨V1, eV1⟩ : ∃ V, w1.alloc (.cells #[.int .u8 u.k, .string u.x, .int .u8 u.ty, .int .i64 u.n, .int .i64 u.p] 33) = V := ⟨_, rfl⟩
  have HV1 : Hid (w1.alloc (.cells #[.int .u8 u.k, .string u.x, .int .u8 u.ty, .int .i64 u.n, .int .i64 u.p] 33) = V1) := eV1
  rw [eV1] at X1 HK1
  rw [eTb] at HK1 HT1
  obtain ⟨a1, c1, h1⟩ := X1.R
  have cT := take_any h1 (gB [40])
  rw [HET.out] at cT
  have cT : Calls Tryz.prog 25 #[.pointer (some ⟨b, 0, none⟩), .string ⟨#[40]⟩] _ (OutK b G fa fe d _ (.ok (u2, r2))) := cT
  have X1 := X1.hid
  clear cO hm hr1 h1 X0 eV1
  unfold tkA
  go_wp2_with fail
  rw [HV1.out]
  clear HV1 eTb
  refine cT.mono ?_
  rintro e w2 ⟨rfl, hr2, hm2⟩
  have X2 := X1.out.mv HBL.out hm2 hr2 HS2.out
  have HK2 : Hid (w2.heap[Tb]? = some (.cells #[.int .u8 u.k, .string u.x, .int .u8 u.ty, .int .i64 u.n, .int .i64 u.p] 33 (0, 0))) := (hm2.block _ (Array.getElem?_eq_some_iff.1 HK1.out).1 (by have := HBL.out; have := HT1.out; omega)).trans HK1.out
  obtain ⟨a2, c2, h2⟩ := X2.R
  have cI := inBr_any h2 hd (ex r2) (fun v a c h => cE v r2 a c h X2.T)
  have HSR : Hid (∀ t q, O = .ok (t, q) → ∀ x ∈ q, x ∈ r2) := fun t q e => gIn_sub (fun t q e => hS r2 t q e) t q (HEI.out.trans e)
  rw [HEI.out] at cI
  have X2 := X2.hid
  clear cT hm2 hr2 h2 X1 HK1 cE HEI
  cases O with
  | error f =>
    go_wp2_with fail
    refine cI.mono ?_
    rintro e w3 ⟨rfl, hm⟩
    exact ⟨rfl, rfl, X2.out.M.trans hm (fun k e => .inl e)⟩
  | ok q =>
  obtain ⟨t3, ts3⟩ := q
  go_wp2_with fail
  refine cI.mono ?_
  rintro e w3 ⟨⟨m, rfl, rfl, hl, hk⟩, hr, hm⟩
  obtain ⟨⟨k2, o2, ty2, n2, f2, x2, p2⟩, am2, cm2, ks2⟩ := m
  have hs2 := (Array.getElem?_eq_some_iff.1 X2.out.Z).1
  have X3 := X2.out.mv HBL.out hm hr (HSR.out _ _ rfl)
  have hk3 : Bkn (fun k => w.heap.size < k ∧ k < w3.heap.size) (.mk ⟨k2, o2, ty2, n2, f2, x2, p2⟩ am2 cm2 ks2) := hk.mono fun j hj => ⟨by omega, hj.2⟩
  have X4 := X3.push HBL.out hl hk3
  have HK3 : Hid (w3.heap[Tb]? = some (.cells #[.int .u8 u.k, .string u.x, .int .u8 u.ty, .int .i64 u.n, .int .i64 u.p] 33 (0, 0))) := (hm.block _ (Array.getElem?_eq_some_iff.1 HK2.out).1 (by have := HBL.out; have := HT1.out; omega)).trans HK2.out
  have bN := below_new w3 (.cells #[.int .u8 k2, .int .u8 o2, .int .u8 ty2, .int .i64 n2, .int .u8 f2, .string x2, .slice am2 ks2.length cm2, .int .i64 p2] 52)
  obtain ⟨W4, eW4⟩ : ∃ W, w3.alloc (.cells #[.int .u8 k2, .int .u8 o2, .int .u8 ty2, .int .i64 n2, .int .u8 f2, .string x2, .slice am2 ks2.length cm2, .int .i64 p2] 52) = W := ⟨_, rfl⟩
  have HK4 : Hid ((w3.alloc (.cells #[.int .u8 k2, .int .u8 o2, .int .u8 ty2, .int .i64 n2, .int .u8 f2, .string x2, .slice am2 ks2.length cm2, .int .i64 p2] 52)).heap[Tb]? = some (.cells #[.int .u8 u.k, .string u.x, .int .u8 u.ty, .int .i64 u.n, .int .i64 u.p] 33 (0, 0))) := (bN.block _ (Array.getElem?_eq_some_iff.1 HK3.out).1).trans HK3.out
  have HN4 : Hid ((w3.alloc (.cells #[.int .u8 k2, .int .u8 o2, .int .u8 ty2, .int .i64 n2, .int .u8 f2, .string x2, .slice am2 ks2.length cm2, .int .i64 p2] 52)).heap[w3.heap.size]? = some (.cells #[.int .u8 k2, .int .u8 o2, .int .u8 ty2, .int .i64 n2, .int .u8 f2, .string x2, .slice am2 ks2.length cm2, .int .i64 p2] 52 (0, 0))) := heap_new _ _
  have HX4 : Hid (BX w b G fa fe d (w3.alloc (.cells #[.int .u8 k2, .int .u8 o2, .int .u8 ty2, .int .i64 n2, .int .u8 f2, .string x2, .slice am2 ks2.length cm2, .int .i64 p2] 52)) [(w3.heap.size, (.mk ⟨k2, o2, ty2, n2, f2, x2, p2⟩ am2 cm2 ks2))] ts3) := X4
  have HZ4 : Hid ((w3.alloc (.cells #[.int .u8 k2, .int .u8 o2, .int .u8 ty2, .int .i64 n2, .int .u8 f2, .string x2, .slice am2 ks2.length cm2, .int .i64 p2] 52)).heap[w.heap.size]? = some (.cells #[.int .u8 0, .int .u8 0, .int .u8 0, .int .i64 0, .int .u8 0, .string ⟨#[]⟩, .slice none 0 0, .int .i64 0] 52 (0, 0))) := X4.Z
  have hT4 : Tb ≠ w.heap.size := by have := HT1.out; omega
  have hN4 : w3.heap.size ≠ w.heap.size := by have := hm.size; omega
  rw [eW4] at HK4 HN4 HX4 HZ4
  have HEW : Hid (w3.alloc (.cells #[.int .u8 k2, .int .u8 o2, .int .u8 ty2, .int .i64 n2, .int .u8 f2, .string x2, .slice am2 ks2.length cm2, .int .i64 p2] 52) = W4) := eW4
  clear cI hl hk hk3 hr hm hs2 X2 X3 X4 HK2 bN HK3 eW4
  simp only [Nd.vals, Nd.h, Nd.a, Nd.c, Nd.ks, hdA]
  have HKP : Hid (∀ v, MR W4 w.heap.size v → v.cell? ⟨Tb, 0, none⟩ = some (.int .u8 u.k) ∧ v.cell? ⟨Tb, 1, none⟩ = some (.string u.x) ∧ v.cell? ⟨Tb, 2, none⟩ = some (.int .u8 u.ty) ∧ v.cell? ⟨Tb, 3, none⟩ = some (.int .i64 u.n) ∧ v.cell? ⟨Tb, 4, none⟩ = some (.int .i64 u.p) ∧ v.cell? ⟨w3.heap.size, 0, none⟩ = some (.int .u8 k2) ∧ v.cell? ⟨w3.heap.size, 1, none⟩ = some (.int .u8 o2) ∧ v.cell? ⟨w3.heap.size, 2, none⟩ = some (.int .u8 ty2) ∧ v.cell? ⟨w3.heap.size, 3, none⟩ = some (.int .i64 n2) ∧ v.cell? ⟨w3.heap.size, 4, none⟩ = some (.int .u8 f2) ∧ v.cell? ⟨w3.heap.size, 5, none⟩ = some (.string x2) ∧ v.cell? ⟨w3.heap.size, 6, none⟩ = some (.slice am2 ks2.length cm2) ∧ v.cell? ⟨w3.heap.size, 7, none⟩ = some (.int .i64 p2) ∧ MR W4 w.heap.size v) := fun v hv => by
    have e1 := (hv.block _ (Array.getElem?_eq_some_iff.1 HK4.out).1 hT4).trans HK4.out
    have e2 := (hv.block _ (Array.getElem?_eq_some_iff.1 HN4.out).1 hN4).trans HN4.out
    exact ⟨cell_of e1 0, cell_of e1 1, cell_of e1 2, cell_of e1 3, cell_of e1 4, cell_of e2 0, cell_of e2 1, cell_of e2 2, cell_of e2 3, cell_of e2 4, cell_of e2 5, cell_of e2 6, cell_of e2 7, hv⟩
  have HZP : Hid (∀ v, GB W4 v → v.cell? ⟨w.heap.size, 0, none⟩ = some (.int .u8 0) ∧ v.cell? ⟨w.heap.size, 1, none⟩ = some (.int .u8 0) ∧ v.cell? ⟨w.heap.size, 2, none⟩ = some (.int .u8 0) ∧ v.cell? ⟨w.heap.size, 3, none⟩ = some (.int .i64 0) ∧ v.cell? ⟨w.heap.size, 4, none⟩ = some (.int .u8 0) ∧ v.cell? ⟨w.heap.size, 5, none⟩ = some (.string ⟨#[]⟩) ∧ v.cell? ⟨w.heap.size, 6, none⟩ = some (.slice none 0 0) ∧ v.cell? ⟨w.heap.size, 7, none⟩ = some (.int .i64 0) ∧ v.frozen? ⟨w.heap.size, 0, none⟩ = false ∧ v.frozen? ⟨w.heap.size, 1, none⟩ = false ∧ v.frozen? ⟨w.heap.size, 2, none⟩ = false ∧ v.frozen? ⟨w.heap.size, 3, none⟩ = false ∧ v.frozen? ⟨w.heap.size, 4, none⟩ = false ∧ v.frozen? ⟨w.heap.size, 5, none⟩ = false ∧ v.frozen? ⟨w.heap.size, 6, none⟩ = false ∧ v.frozen? ⟨w.heap.size, 7, none⟩ = false) := fun v hv => by
    have e3 := (hv.block _ (Array.getElem?_eq_some_iff.1 HZ4.out).1).trans HZ4.out
    exact ⟨cell_of e3 0, cell_of e3 1, cell_of e3 2, cell_of e3 3, cell_of e3 4, cell_of e3 5, cell_of e3 6, cell_of e3 7, frozen_of e3 0, frozen_of e3 1, frozen_of e3 2, frozen_of e3 3, frozen_of e3 4, frozen_of e3 5, frozen_of e3 6, frozen_of e3 7⟩
  have cY : ∀ v, Calls Tryz.prog 75 #[.agg #[.int .u8 u.k, .string u.x, .int .u8 u.ty, .int .i64 u.n, .int .i64 u.p]] v fun e w' => e = .returned (.int .u8 (tyX u.x)) ∧ Below v.heap.size v w' := fun v => typeOf_any u v
  go_upto_region 4 with fail
  rw [HEW.out]
  refine wp_region_held_drew (S := fun v => MR W4 w.heap.size v) (by kernel_rfl) (MR.drew (MR.refl _ _)) (fun hHeld => ?_)
  refine wpAnyH_take (i := 0) (v := ?_) rfl (by kernel_rfl) (by kernel_rfl) (by kernel_rfl) (fun _ _ _ h => h) (Or.inl ⟨by rfl, ?_⟩) (by assumption) ?_
  rotate_left
  · (intro v hv; obtain ⟨t0, t1, t2, t3, t4, n0, n1, n2, n3, n4, n5, n6, n7, _⟩ := HKP.out v hv; go_simp; try (with_reducible rfl))
  try simp [Act.put]
  refine wpAnyH_take (i := 2) (v := ?_) rfl (by kernel_rfl) (by kernel_rfl) (by kernel_rfl) (fun _ _ _ h => h) (Or.inl ⟨by rfl, ?_⟩) (by assumption) ?_
  rotate_left
  · (intro v hv; obtain ⟨t0, t1, t2, t3, t4, n0, n1, n2, n3, n4, n5, n6, n7, _⟩ := HKP.out v hv; go_simp; try (with_reducible rfl))
  try simp [Act.put]
  refine wpAnyH_take (i := 4) (v := ?_) rfl (by kernel_rfl) (by kernel_rfl) (by kernel_rfl) (fun _ _ _ h => h) (Or.inl ⟨by rfl, ?_⟩) (by assumption) ?_
  rotate_left
  · (intro v hv; obtain ⟨t0, t1, t2, t3, t4, n0, n1, n2, n3, n4, n5, n6, n7, _⟩ := HKP.out v hv; go_simp; try (with_reducible rfl))
  try simp [Act.put]
  refine wpAnyH_take (i := 5) (v := ?_) rfl (by kernel_rfl) (by kernel_rfl) (by kernel_rfl) (fun _ _ _ h => h) (Or.inl ⟨by rfl, ?_⟩) (by assumption) ?_
  rotate_left
  · (intro v hv; obtain ⟨t0, t1, t2, t3, t4, n0, n1, n2, n3, n4, n5, n6, n7, _⟩ := HKP.out v hv; go_simp; try (with_reducible rfl))
  try simp [Act.put]
  have HRG : Hid (Rg ⟨9, 0, tyX u.x, 0, 0, gE, u.p⟩) := by
    have := HUT.out.p0; have := HUT.out.p1; have := tyX_rg u.x
    constructor <;> first | omega | (show (0 : Nat) ≤ _; omega) | (simp only; omega) | simp
  have hWW : w.heap.size < W4.heap.size := (Array.getElem?_eq_some_iff.1 HZ4.out).1
  refine wpAnyH_ready (rs := [1, 3]) (by kernel_rfl) (by simp) ?_
  refine AllReadyH.cons rfl (fun K hK => ?_) (AllReadyH.cons rfl (fun K hK => ?_) AllReadyH.nil)
  · go_simp
    go_at_call 75
    refine (cY _).mono ?_
    rintro e w6 ⟨rfl, hb6⟩
    have hg6 : GB W4 w6 := GB.call (by (repeat (first | with_reducible exact GB.refl _ | with_reducible apply GB.drew2 | with_reducible apply GB.alloc))) hb6
    have hm6 : MR W4 w.heap.size w6 := Mv.ofBelow hg6
    refine hK.out _ _ hm6 (fun hHeld6 => ?_)
    clear hK K
    try simp [Act.put]
    refine wpAnyH_ready (rs := [3]) (by kernel_rfl) (by simp) ?_
    refine AllReadyH.cons rfl (fun K hK => ?_) AllReadyH.nil
    go_simp
    refine hK.out _ _ (by (repeat (first | with_reducible assumption | with_reducible exact MR.refl _ _ | with_reducible apply MR.drew2 | with_reducible apply MR.alloc | with_reducible apply MR.set | with_reducible refine MR.call ?_ (by with_reducible assumption)))) (fun hHeld3 => ?_)
    clear hK K
    try simp [Act.put]
    obtain ⟨Bq, eBq⟩ : ∃ q, w6.heap.size = q := ⟨_, rfl⟩
    obtain ⟨V7, eV7⟩ : ∃ V, w6.alloc (.cells #[.int .u8 k2, .int .u8 o2, .int .u8 ty2, .int .i64 n2, .int .u8 f2, .string x2, .slice am2 ks2.length cm2, .int .i64 p2] 52) = V := ⟨_, rfl⟩
    have hG7 : GB W4 V7 := by rw [← eV7]; exact GB.alloc hg6 _
    have hS7 : V7.heap[Bq]? = some (.cells #[.int .u8 k2, .int .u8 o2, .int .u8 ty2, .int .i64 n2, .int .u8 f2, .string x2, .slice am2 ks2.length cm2, .int .i64 p2] 52 (0, 0)) := by rw [← eV7, ← eBq]; exact heap_new _ _
    have hB7 : W4.heap.size ≤ Bq := by rw [← eBq]; exact hg6.size
    rw [eV7] at hHeld3 ⊢
    rw [eBq]
    clear eV7 eBq
    refine wpAnyH_take (i := 6) (v := ?_) rfl (by kernel_rfl) (by kernel_rfl) (by kernel_rfl) (fun _ _ _ h => h) (Or.inl ⟨by rfl, ?_⟩) (by assumption) ?_
    rotate_left
    · (intro v hv; go_simp; try (with_reducible rfl))
    try simp [Act.put]
    obtain ⟨z0, z1, z2, z3, z4, z5, z6, z7, q0, q1, q2, q3, q4, q5, q6, q7⟩ := HZP.out V7 hG7
    have hZ7 : V7.heap[w.heap.size]? = some (.cells #[.int .u8 0, .int .u8 0, .int .u8 0, .int .i64 0, .int .u8 0, .string ⟨#[]⟩, .slice none 0 0, .int .i64 0] 52 (0, 0)) := (hG7.block _ (Array.getElem?_eq_some_iff.1 HZ4.out).1).trans HZ4.out
    obtain ⟨Y, eY, hY1, hY2, hY3, hY4⟩ := fin8 hZ7 (.int .u8 9) (.int .u8 0) (.int .u8 (tyX u.x)) (.int .i64 0) (.int .u8 0) (.string ⟨#[]⟩) (.slice (some ⟨Bq, 0, none⟩) 1 1) (.int .i64 u.p)
    have hmY : MR W4 w.heap.size Y := by rw [← eY]; exact (((((((MR.set (Mv.ofBelow hG7) 0 _).set 1 _).set 2 _).set 3 _).set 4 _).set 5 _).set 6 _).set 7 _
    have hYS : Y.heap[Bq]? = some (.cells #[.int .u8 k2, .int .u8 o2, .int .u8 ty2, .int .i64 n2, .int .u8 f2, .string x2, .slice am2 ks2.length cm2, .int .i64 p2] 52 (0, 0)) := (hY3 _ (by omega)).trans hS7
    have hYY := kid_fin (h := ⟨9, 0, tyX u.x, 0, 0, gE, u.p⟩) HX4.out HBL.out HGL.out (HX4.out.B _ (List.mem_cons_self ..)).2.2.1 (HX4.out.B _ (List.mem_cons_self ..)).2.2.2 HRG.out hB7 hYS hmY
    have HEY : Hid (_ = Y) := eY
    have HY1 : Hid (_) := hY1
    have HYY : Hid (_) := hYY
    clear eY hY1 hY2 hY3 hY4 hmY hYY hZ7
    refine wpAnyH_ready (rs := [7]) (by kernel_rfl) (by simp) ?_
    refine AllReadyH.cons rfl (fun K hK => ?_) AllReadyH.nil
    go_simp
    refine hK.out _ _ (by (repeat (first | with_reducible assumption | with_reducible exact MR.refl _ _ | with_reducible apply MR.drew2 | with_reducible apply MR.alloc | with_reducible apply MR.set | with_reducible refine MR.call ?_ (by with_reducible assumption)))) (fun hHeld7 => ?_)
    clear hK K
    refine wpAnyH_done (by kernel_rfl) ?_ _
    rw [HEY.out]
    go_wp2_with fail
    exact bodyPost_ret (results_cell_row rfl _ _ w.heap.size 52 (Nd.mk ⟨9, 0, tyX u.x, 0, 0, gE, u.p⟩ (some ⟨Bq, 0, none⟩) 1 [(.mk ⟨k2, o2, ty2, n2, f2, x2, p2⟩ am2 cm2 ks2)]).vals (0, 0) _ rfl HY1.out Tryz.underlying52 rfl (by kernel_rfl)) rfl ⟨⟨_, rfl, rfl, HYY.out.1, HYY.out.2.1⟩, HYY.out.2.2.1, HYY.out.2.2.2⟩
  · go_simp
    refine hK.out _ _ (by (repeat (first | with_reducible assumption | with_reducible exact MR.refl _ _ | with_reducible apply MR.drew2 | with_reducible apply MR.alloc | with_reducible apply MR.set | with_reducible refine MR.call ?_ (by with_reducible assumption)))) (fun hHeld3 => ?_)
    clear hK K
    try simp [Act.put]
    refine wpAnyH_ready (rs := [1]) (by kernel_rfl) (by simp) ?_
    refine AllReadyH.cons rfl (fun K hK => ?_) AllReadyH.nil
    go_simp
    go_at_call 75
    refine (cY _).mono ?_
    rintro e w6 ⟨rfl, hb6⟩
    have hg6 : GB W4 w6 := GB.call (by (repeat (first | with_reducible exact GB.refl _ | with_reducible apply GB.drew2 | with_reducible apply GB.alloc))) hb6
    have hm6 : MR W4 w.heap.size w6 := Mv.ofBelow hg6
    refine hK.out _ _ hm6 (fun hHeld6 => ?_)
    clear hK K
    try simp [Act.put]
    have hS7 : w6.heap[W4.heap.size]? = some (.cells #[.int .u8 k2, .int .u8 o2, .int .u8 ty2, .int .i64 n2, .int .u8 f2, .string x2, .slice am2 ks2.length cm2, .int .i64 p2] 52 (0, 0)) := (hb6.block _ (by show _ < (W4.alloc _).heap.size; rw [size_alloc]; omega)).trans (heap_new W4 _)
    obtain ⟨Bq, eBq⟩ : ∃ q, W4.heap.size = q := ⟨_, rfl⟩
    have hB7 : W4.heap.size ≤ Bq := by omega
    have hG7 := hg6
    rw [eBq] at hS7 ⊢
    clear eBq
    refine wpAnyH_take (i := 6) (v := ?_) rfl (by kernel_rfl) (by kernel_rfl) (by kernel_rfl) (fun _ _ _ h => h) (Or.inl ⟨by rfl, ?_⟩) (by assumption) ?_
    rotate_left
    · (intro v hv; go_simp; try (with_reducible rfl))
    try simp [Act.put]
    obtain ⟨z0, z1, z2, z3, z4, z5, z6, z7, q0, q1, q2, q3, q4, q5, q6, q7⟩ := HZP.out w6 hG7
    have hZ7 : w6.heap[w.heap.size]? = some (.cells #[.int .u8 0, .int .u8 0, .int .u8 0, .int .i64 0, .int .u8 0, .string ⟨#[]⟩, .slice none 0 0, .int .i64 0] 52 (0, 0)) := (hG7.block _ (Array.getElem?_eq_some_iff.1 HZ4.out).1).trans HZ4.out
    obtain ⟨Y, eY, hY1, hY2, hY3, hY4⟩ := fin8 hZ7 (.int .u8 9) (.int .u8 0) (.int .u8 (tyX u.x)) (.int .i64 0) (.int .u8 0) (.string ⟨#[]⟩) (.slice (some ⟨Bq, 0, none⟩) 1 1) (.int .i64 u.p)
    have hmY : MR W4 w.heap.size Y := by rw [← eY]; exact (((((((MR.set (Mv.ofBelow hG7) 0 _).set 1 _).set 2 _).set 3 _).set 4 _).set 5 _).set 6 _).set 7 _
    have hYS : Y.heap[Bq]? = some (.cells #[.int .u8 k2, .int .u8 o2, .int .u8 ty2, .int .i64 n2, .int .u8 f2, .string x2, .slice am2 ks2.length cm2, .int .i64 p2] 52 (0, 0)) := (hY3 _ (by omega)).trans hS7
    have hYY := kid_fin (h := ⟨9, 0, tyX u.x, 0, 0, gE, u.p⟩) HX4.out HBL.out HGL.out (HX4.out.B _ (List.mem_cons_self ..)).2.2.1 (HX4.out.B _ (List.mem_cons_self ..)).2.2.2 HRG.out hB7 hYS hmY
    have HEY : Hid (_ = Y) := eY
    have HY1 : Hid (_) := hY1
    have HYY : Hid (_) := hYY
    clear eY hY1 hY2 hY3 hY4 hmY hYY hZ7
    refine wpAnyH_ready (rs := [7]) (by kernel_rfl) (by simp) ?_
    refine AllReadyH.cons rfl (fun K hK => ?_) AllReadyH.nil
    go_simp
    refine hK.out _ _ (by (repeat (first | with_reducible assumption | with_reducible exact MR.refl _ _ | with_reducible apply MR.drew2 | with_reducible apply MR.alloc | with_reducible apply MR.set | with_reducible refine MR.call ?_ (by with_reducible assumption)))) (fun hHeld7 => ?_)
    clear hK K
    refine wpAnyH_done (by kernel_rfl) ?_ _
    rw [HEY.out]
    go_wp2_with fail
    exact bodyPost_ret (results_cell_row rfl _ _ w.heap.size 52 (Nd.mk ⟨9, 0, tyX u.x, 0, 0, gE, u.p⟩ (some ⟨Bq, 0, none⟩) 1 [(.mk ⟨k2, o2, ty2, n2, f2, x2, p2⟩ am2 cm2 ks2)]).vals (0, 0) _ rfl HY1.out Tryz.underlying52 rfl (by kernel_rfl)) rfl ⟨⟨_, rfl, rfl, HYY.out.1, HYY.out.2.1⟩, HYY.out.2.2.1, HYY.out.2.2.2⟩
end Go.Proofs.YtkfabnchhjfjjabGreatDoor
