/-
  LikeNode of two expressions that are the same but for places.
-/
import Derived.Test.YtkfabnchhjfjjabGreatDoorRcv
import Derived.Test.YtkfabnchhjfjjabGreatDoorPj
import Derived.Test.YtkfabnchhjfjjabGreatDoorPn1
import Derived.Deep.RegionHeld3
namespace Go.Proofs.YtkfabnchhjfjjabGreatDoor
open Go.RowKit
theorem bare_kids : ∀ (js ks : List Nd), bareTs (treesOf js) = bareTs (treesOf ks) → js.length = ks.length ∧ ∀ i (h1 : i < js.length) (h2 : i < ks.length), bareT (treeOf js[i]) = bareT (treeOf ks[i]) := by
  intro js
  induction js with
  | nil =>
    intro ks h
    cases ks with
    | nil => exact ⟨rfl, fun i h1 => by simp at h1⟩
    | cons k ks => simp [treesOf, bareTs] at h
  | cons j js ih =>
    intro ks h
    cases ks with
    | nil => simp [treesOf, bareTs] at h
    | cons k ks =>
      simp only [treesOf, bareTs, List.cons.injEq] at h
      obtain ⟨l, q⟩ := ih ks h.2
      refine ⟨by simp [l], fun i h1 h2 => ?_⟩
      cases i with
      | zero => exact h.1
      | succ i => exact q i (by simpa using h1) (by simpa using h2)
/-- What LikeNode hands back. -/
def Lke (w : World) (e : Ending) (w' : World) : Prop := e = .returned (.bool true) ∧ Below w.heap.size w w'
set_option maxRecDepth 100000 in
set_option maxHeartbeats 16000000 in
theorem like_any : ∀ (m k : Nd) (w : World), bareT (treeOf m) = bareT (treeOf k) → Lies w m → Lies w k → Calls Tryz.prog 11 #[.agg m.vals, .agg k.vals] w (Lke w) := by
  refine Nd.ind fun h a c ks ih k w hq hl hl' => ?_
  cases k with
  | mk g a' c' ks' =>
  obtain ⟨gk, go, gt, gn, gf, gx, gp⟩ := g
  simp only [treeOf, bareT, Tr.mk.injEq, Hd.mk.injEq] at hq
  obtain ⟨⟨e1, e2, e3, e4, e5, e6, _⟩, hb⟩ := hq
  subst e1 e2 e3 e4 e5 e6
  obtain ⟨e7, hks⟩ := bare_kids ks ks' hb
  have HI : Hid (∀ j (h1 : j < ks.length) (h2 : j < ks'.length) (w : World), Lies w ks[j] → Lies w ks'[j] → Calls Tryz.prog 11 #[.agg ks[j].vals, .agg ks'[j].vals] w (Lke w)) := fun j h1 h2 v hv hv' => ih _ (nth_mem h1) _ v (hks j h1 h2) hv hv'
  have HL := hl.hid
  have HL' := hl'.hid
  show Calls Tryz.prog 11 #[.agg #[.int .u8 h.k, .int .u8 h.o, .int .u8 h.t, .int .i64 h.n, .int .u8 h.f, .string h.x, .slice a ks.length c, .int .i64 h.p], .agg #[.int .u8 h.k, .int .u8 h.o, .int .u8 h.t, .int .i64 h.n, .int .u8 h.f, .string h.x, .slice a' ks'.length c', .int .i64 gp]] w _
  clear ih hl hl' hks hb
  have HE : Hid (ks'.length = ks.length) := e7.symm
  rw [← e7]
  clear e7
  go_enter Tryz.func11, Tryz.ntmps11
  go_wp2_with fail
  obtain ⟨W0, eW0⟩ : ∃ W0, (w.alloc (.cells #[.int .u8 h.k, .int .u8 h.o, .int .u8 h.t, .int .i64 h.n, .int .u8 h.f, .string h.x, .slice a ks.length c, .int .i64 h.p] 52)).alloc (.cells #[.int .u8 h.k, .int .u8 h.o, .int .u8 h.t, .int .i64 h.n, .int .u8 h.f, .string h.x, .slice a' ks.length c', .int .i64 gp] 52) = W0 := ⟨_, rfl⟩
  have HB : Hid (Below w.heap.size w W0) := by rw [← eW0]; exact below_two _ _ _
  have HN0 : Hid (W0.heap[w.heap.size]? = some (.cells #[.int .u8 h.k, .int .u8 h.o, .int .u8 h.t, .int .i64 h.n, .int .u8 h.f, .string h.x, .slice a ks.length c, .int .i64 h.p] 52 (0, 0))) := by rw [← eW0]; exact heap_old (heap_new _ _) (by rw [size_alloc]; omega)
  have HN1 : Hid (W0.heap[w.heap.size + 1]? = some (.cells #[.int .u8 h.k, .int .u8 h.o, .int .u8 h.t, .int .i64 h.n, .int .u8 h.f, .string h.x, .slice a' ks.length c', .int .i64 gp] 52 (0, 0))) := by rw [← eW0, ← size_alloc w (.cells #[.int .u8 h.k, .int .u8 h.o, .int .u8 h.t, .int .i64 h.n, .int .u8 h.f, .string h.x, .slice a ks.length c, .int .i64 h.p] 52)]; exact heap_new _ _
  rw [eW0]
  clear eW0
  go_loopw [5, 6] (fun t _ wr => ∃ i : Nat, i ≤ ks.length ∧ t = .int .i64 i ∧ Hid (Below W0.heap.size W0 wr)) (fun t _ _ => ks.length - (intOf t).toNat)
  case atStart => exact ⟨0, by omega, rfl, Below.refl _ _⟩
  case round =>
    obtain ⟨i, hi, rfl, HR⟩ := hrel
    have q0 : wr.heap[w.heap.size]? = some (.cells #[.int .u8 h.k, .int .u8 h.o, .int .u8 h.t, .int .i64 h.n, .int .u8 h.f, .string h.x, .slice a ks.length c, .int .i64 h.p] 52 (0, 0)) := (HR.out.block _ (Array.getElem?_eq_some_iff.1 HN0.out).1).trans HN0.out
    have q1 : wr.heap[w.heap.size + 1]? = some (.cells #[.int .u8 h.k, .int .u8 h.o, .int .u8 h.t, .int .i64 h.n, .int .u8 h.f, .string h.x, .slice a' ks.length c', .int .i64 gp] 52 (0, 0)) := (HR.out.block _ (Array.getElem?_eq_some_iff.1 HN1.out).1).trans HN1.out
    have HQ0 : Hid (wr.heap[w.heap.size]? = some (.cells #[.int .u8 h.k, .int .u8 h.o, .int .u8 h.t, .int .i64 h.n, .int .u8 h.f, .string h.x, .slice a ks.length c, .int .i64 h.p] 52 (0, 0))) := q0
    have HQ1 : Hid (wr.heap[w.heap.size + 1]? = some (.cells #[.int .u8 h.k, .int .u8 h.o, .int .u8 h.t, .int .i64 h.n, .int .u8 h.f, .string h.x, .slice a' ks.length c', .int .i64 gp] 52 (0, 0))) := q1
    have c6 : wr.cell? ⟨w.heap.size, 6, none⟩ = some (.slice a ks.length c) := cell_of q0 6
    have d6 : wr.cell? ⟨w.heap.size + 1, 6, none⟩ = some (.slice a' ks.length c') := cell_of q1 6
    clear q0 q1
    have HBr : Hid (Below w.heap.size w wr) := below2 HB.out HR.out
    by_cases hlt : i < ks.length
    · have hlt' : (i : Int) < (ks.length : Int) := by omega
      have hlt2 : i < ks'.length := by have := HE.out; omega
      obtain ⟨b, o, e1, hat⟩ := (HL.out.on HBr.out).kid i hlt
      have e1' : a = some ⟨b, o, none⟩ := e1
      have hk1 : NdAt wr b (o + i * 8) ks[i] := hat
      obtain ⟨b', o', e2, hat'⟩ := (HL'.out.on HBr.out).kid i hlt2
      have e2' : a' = some ⟨b', o', none⟩ := e2
      have hk2 : NdAt wr b' (o' + i * 8) ks'[i] := hat'
      have cI := fun v (hv : Below wr.heap.size wr v) => HI.out i hlt hlt2 v (((HL.out.sub _ (nth_mem hlt)).on HBr.out).on hv) (((HL'.out.sub _ (nth_mem hlt2)).on HBr.out).on hv)
      obtain ⟨k, ek⟩ : ∃ k, ks[i] = k := ⟨_, rfl⟩
      obtain ⟨k', ek'⟩ : ∃ k, ks'[i] = k := ⟨_, rfl⟩
      rw [ek] at hk1 cI
      rw [ek'] at hk2 cI
      have HK1 := hk1.hid
      have HK2 := hk2.hid
      have cI : ∀ v, Below wr.heap.size wr v → Calls Tryz.prog 11 #[.agg #[.int .u8 k.h.k, .int .u8 k.h.o, .int .u8 k.h.t, .int .i64 k.h.n, .int .u8 k.h.f, .string k.h.x, .slice k.a k.ks.length k.c, .int .i64 k.h.p], .agg #[.int .u8 k'.h.k, .int .u8 k'.h.o, .int .u8 k'.h.t, .int .i64 k'.h.n, .int .u8 k'.h.f, .string k'.h.x, .slice k'.a k'.ks.length k'.c, .int .i64 k'.h.p]] v (Lke v) := cI
      rw [e1'] at c6 HQ0
      rw [e2'] at d6 HQ1
      have HKP : Hid (∀ v, GBx wr v → v.cell? ⟨w.heap.size, 6, none⟩ = some (.slice (some ⟨b, o, none⟩) ks.length c) ∧ v.cell? ⟨w.heap.size + 1, 6, none⟩ = some (.slice (some ⟨b', o', none⟩) ks.length c') ∧ v.cell? ⟨b, o + i * 8, none⟩ = some (.int .u8 k.h.k) ∧ v.cell? ⟨b, o + i * 8 + 1, none⟩ = some (.int .u8 k.h.o) ∧ v.cell? ⟨b, o + i * 8 + 2, none⟩ = some (.int .u8 k.h.t) ∧ v.cell? ⟨b, o + i * 8 + 3, none⟩ = some (.int .i64 k.h.n) ∧ v.cell? ⟨b, o + i * 8 + 4, none⟩ = some (.int .u8 k.h.f) ∧ v.cell? ⟨b, o + i * 8 + 5, none⟩ = some (.string k.h.x) ∧ v.cell? ⟨b, o + i * 8 + 6, none⟩ = some (.slice k.a k.ks.length k.c) ∧ v.cell? ⟨b, o + i * 8 + 7, none⟩ = some (.int .i64 k.h.p) ∧ v.cell? ⟨b', o' + i * 8, none⟩ = some (.int .u8 k'.h.k) ∧ v.cell? ⟨b', o' + i * 8 + 1, none⟩ = some (.int .u8 k'.h.o) ∧ v.cell? ⟨b', o' + i * 8 + 2, none⟩ = some (.int .u8 k'.h.t) ∧ v.cell? ⟨b', o' + i * 8 + 3, none⟩ = some (.int .i64 k'.h.n) ∧ v.cell? ⟨b', o' + i * 8 + 4, none⟩ = some (.int .u8 k'.h.f) ∧ v.cell? ⟨b', o' + i * 8 + 5, none⟩ = some (.string k'.h.x) ∧ v.cell? ⟨b', o' + i * 8 + 6, none⟩ = some (.slice k'.a k'.ks.length k'.c) ∧ v.cell? ⟨b', o' + i * 8 + 7, none⟩ = some (.int .i64 k'.h.p) ∧ GBx wr v) := fun v hv => by
        have hk1' := HK1.out.on hv
        have hk2' := HK2.out.on hv
        exact ⟨cell_of ((hv.block _ (Array.getElem?_eq_some_iff.1 HQ0.out).1).trans HQ0.out) 6, cell_of ((hv.block _ (Array.getElem?_eq_some_iff.1 HQ1.out).1).trans HQ1.out) 6, hk1'.c0, hk1'.c1, hk1'.c2, hk1'.c3, hk1'.c4, hk1'.c5, hk1'.c6, hk1'.c7, hk2'.c0, hk2'.c1, hk2'.c2, hk2'.c3, hk2'.c4, hk2'.c5, hk2'.c6, hk2'.c7, hv⟩
      have hmx : (i : Int) + 1 ≤ 9223372036854775807 := by
        have h1 := HL.out.max
        have h2 := HL.out.cap
        simp only [Nd.ks, Nd.c] at h1 h2
        omega
      clear ek ek' e1 e2 e1' e2' hat hat' hk1 hk2
      go_upto_region 6 with fail
      go_region_held3 (fun v => v.cell? ⟨w.heap.size, 6, none⟩ = some (.slice (some ⟨b, o, none⟩) ks.length c) ∧ v.cell? ⟨w.heap.size + 1, 6, none⟩ = some (.slice (some ⟨b', o', none⟩) ks.length c') ∧ v.cell? ⟨b, o + i * 8, none⟩ = some (.int .u8 k.h.k) ∧ v.cell? ⟨b, o + i * 8 + 1, none⟩ = some (.int .u8 k.h.o) ∧ v.cell? ⟨b, o + i * 8 + 2, none⟩ = some (.int .u8 k.h.t) ∧ v.cell? ⟨b, o + i * 8 + 3, none⟩ = some (.int .i64 k.h.n) ∧ v.cell? ⟨b, o + i * 8 + 4, none⟩ = some (.int .u8 k.h.f) ∧ v.cell? ⟨b, o + i * 8 + 5, none⟩ = some (.string k.h.x) ∧ v.cell? ⟨b, o + i * 8 + 6, none⟩ = some (.slice k.a k.ks.length k.c) ∧ v.cell? ⟨b, o + i * 8 + 7, none⟩ = some (.int .i64 k.h.p) ∧ v.cell? ⟨b', o' + i * 8, none⟩ = some (.int .u8 k'.h.k) ∧ v.cell? ⟨b', o' + i * 8 + 1, none⟩ = some (.int .u8 k'.h.o) ∧ v.cell? ⟨b', o' + i * 8 + 2, none⟩ = some (.int .u8 k'.h.t) ∧ v.cell? ⟨b', o' + i * 8 + 3, none⟩ = some (.int .i64 k'.h.n) ∧ v.cell? ⟨b', o' + i * 8 + 4, none⟩ = some (.int .u8 k'.h.f) ∧ v.cell? ⟨b', o' + i * 8 + 5, none⟩ = some (.string k'.h.x) ∧ v.cell? ⟨b', o' + i * 8 + 6, none⟩ = some (.slice k'.a k'.ks.length k'.c) ∧ v.cell? ⟨b', o' + i * 8 + 7, none⟩ = some (.int .i64 k'.h.p) ∧ GBx wr v)
        (exact HKP.out _ (by (repeat (first | with_reducible assumption | with_reducible exact GBx.refl _ | with_reducible apply GBx.drew | with_reducible apply GBx.alloc | with_reducible refine GBx.call (by with_reducible assumption) ?_))))
        (first | (go_at_call 11; refine (cI _ ((Below.refl _ _).drew)).mono ?_; rintro e w6 ⟨rfl, hb6⟩))
      all_goals (
        have HB6 : Hid (Below W0.heap.size W0 w6) := below2 HR.out (below2 (Below.refl _ _).drew hb6)
        clear hb6
        go_wp2_with fail
        exact ⟨⟨i + 1, hlt, rfl, HB6⟩, by simp only [intOf]; omega⟩)
    · obtain rfl : i = ks.length := by omega
      have hnot : ¬ (ks.length : Int) < (ks.length : Int) := by omega
      go_wp2_with fail
      go_ret
      exact ⟨rfl, HBr.out⟩
end Go.Proofs.YtkfabnchhjfjjabGreatDoor
