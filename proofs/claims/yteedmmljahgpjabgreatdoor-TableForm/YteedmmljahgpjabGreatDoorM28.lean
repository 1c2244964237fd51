import Derived.Test.YteedmmljahgpjabGreatDoorM27
/-
  The document's step, a kind.
-/
namespace Go.Proofs.YteedmmljahgpjabGreatDoor
open Go.RowKit
set_option linter.unusedVariables false
set_option linter.unusedSimpArgs false
set_option maxRecDepth 100000 in
set_option maxHeartbeats 4000000 in
theorem st_7 (w : World) (C L f n : Nat) (h : Nat → Int) (k : Ht w C L f n h false) (hk : HOk h) (i : Nat) (hi : i + 1 < n) (hf : f ≤ 4096) (hn : n ≤ 4097) (d : InM) (Y : Int) (hY : h (f + i) = Y + 1) (hY0 : 0 ≤ Y) (h5 : (d.k == 5) = false) (h6 : (d.k == 6) = false) (h7 : (d.k == 7) = true) (m : Nat) (hm : m < n) (hma : d.a = (f : Int) + m) :
    Calls Tryz.prog 61 #[.pointer (some ⟨C, 0, none⟩), .agg d.vals, .int .i64 ((f : Int) + i)] w fun e w' => ∃ h' b', e = .returned (.tuple #[]) ∧ Ht w' C L f n h' b' ∧ b' = !(goF h d (f + i) Y).1 ∧ (b' = false → h' = (goF h d (f + i) Y).2) ∧ HOk h' ∧ Mv w w' (fun k => k = C ∨ k = L) := by
  have hb1 := below_new w (.cells d.vals 42)
  have hn1 := heap_new w (.cells d.vals 42)
  obtain ⟨W1, e1⟩ : ∃ W, w.alloc (.cells d.vals 42) = W := ⟨_, rfl⟩
  have E1 : Hid (w.alloc (.cells d.vals 42) = W1) := e1
  rw [e1] at hb1 hn1
  have HB1 : Hid (Below w.heap.size w W1) := hb1
  have HN1 : Hid (W1.heap[w.heap.size]? = some (.cells d.vals 42 (0, 0))) := hn1
  have HK1 : Hid (Ht W1 C L f n h false) := k.mv hb1
  have HOKK : Hid (HOk h) := hk
  obtain ⟨cap, k1⟩ := HK1.out.c
  obtain ⟨cs, k2, k3⟩ := HK1.out.l
  have c0 : W1.cell? ⟨C, 0, none⟩ = some (.int .i64 f) := cell_of k1 0
  have c1 : W1.cell? ⟨C, 1, none⟩ = some (.slice (some ⟨L, 0, none⟩) n cap) := cell_of k1 1
  have l0 : W1.cell? ⟨L, i, none⟩ = some (.int .i64 Y) := by rw [← show h (f + i) - 1 = Y by omega]; exact (cell_of k2 i).trans (k3 i (by omega))
  have hs1 : (f : Int) + (i : Int) - (f : Int) = (i : Int) := by omega
  have hi' : (i : Int) < (n : Int) := by omega
  have hY1 : Y ≤ 64 := by have := hk (f + i); omega
  clear k1 k2 k3 k hk e1 hb1 hn1
  go_enter Tryz.func61, Tryz.ntmps61
  go_upto_region 1 with fail
  rw [E1.out]
  clear E1
  go_quiet (fail)
  have HKV : Hid (Ht (W1.drewN nq) C L f n h false) := HK1.out.mv ⟨rfl, rfl, rfl, Nat.le_refl _, fun _ _ => rfl⟩
  have HNV : Hid ((W1.drewN nq).heap[w.heap.size]? = some (.cells d.vals 42 (0, 0))) := HN1.out
  have HMV : Hid (Mv w (W1.drewN nq) (fun k => k = C ∨ k = L)) := Mv.ofBelow (below_d HB1.out _)
  generalize W1.drewN nq = V at HKV HNV HMV ⊢
  clear HN1 HK1 HB1 c0 c1 l0 hs1 hi'
  have d0 : V.cell? ⟨w.heap.size, 0, none⟩ = some (.int .u8 d.k) := cell_of HNV.out 0
  have d1 : V.cell? ⟨w.heap.size, 1, none⟩ = some (.int .i64 d.a) := cell_of HNV.out 1
  have a1 : (f : Int) + (i : Int) + 1 ≤ 9223372036854775807 := by omega
  have a2 : Y + 1 ≤ 9223372036854775807 := by omega
  have cA := fun (v : World) (h' : Nat → Int) (b' : Bool) (kk : Ht v C L f n h' b') (ok : HOk h') (x : Int) => rcome_any v C L f n h' b' kk ok (i + 1) hi hf hn x
  rw [show (f : Int) + ((i + 1 : Nat) : Int) = (f : Int) + (i : Int) + 1 by omega] at cA
  have cJ := fun (v : World) (h' : Nat → Int) (b' : Bool) (kk : Ht v C L f n h' b') (ok : HOk h') (x : Int) => rcome_any v C L f n h' b' kk ok m hm hf hn x
  rw [← hma] at cJ
  have HG1 := hid_of (go_two (h := h) (g := goF h d (f + i) Y) (p := f + m) (q := f + (i + 1)) (x := Y) (y := Y - 1) (Y := Y) (by unfold goF; rw [h5, h6, h7, show d.a.toNat = f + m by omega]; rfl) (by omega))
  clear hY hma hm
  go_wp2_with fail
  refine (cJ V h false HKV.out HOKK.out Y).mono ?_
  rintro e w5 ⟨rfl, hK5, hM5⟩
  have HK5 : Hid (Ht w5 C L f n (comeD h (f + m) Y) (false || !comeB h (f + m) Y)) := hK5
  have HM5 : Hid (Mv w w5 (fun k => k = C ∨ k = L)) := HMV.out.trans hM5 (fun _ e => .inl e)
  clear hK5 hM5
  go_wp2_with fail
  refine (cA w5 _ _ HK5.out (comeD_ok HOKK.out _ _) (Y - 1)).mono ?_
  rintro e w6 ⟨rfl, hK6, hM6⟩
  have HK6 : Hid (Ht w6 C L f n (comeD (comeD h (f + m) Y) (f + (i + 1)) (Y - 1)) ((false || !comeB h (f + m) Y) || !comeB (comeD h (f + m) Y) (f + (i + 1)) (Y - 1))) := hK6
  have HM6 : Hid (Mv w w6 (fun k => k = C ∨ k = L)) := HM5.out.trans hM6 (fun _ e => .inl e)
  clear hK6 hM6 HK5 HM5
  rw [Bool.false_or] at HK6
  obtain ⟨cap, q1⟩ := HK6.out.c
  obtain ⟨bb, ebb⟩ : ∃ b, ((!comeB h (f + m) Y) || !comeB (comeD h (f + m) Y) (f + (i + 1)) (Y - 1)) = b := ⟨_, rfl⟩
  rw [ebb] at q1 HG1
  have HK6b : Hid (Ht w6 C L f n (comeD (comeD h (f + m) Y) (f + (i + 1)) (Y - 1)) bb) := by rw [← ebb]; exact HK6.out
  have cb : w6.cell? ⟨C, 2, none⟩ = some (.bool bb) := cell_of q1 2
  have fb : w6.frozen? ⟨C, 2, none⟩ = false := frozen_of q1 2
  clear q1 ebb HK6 cA cJ
  cases bb with
  | true =>
    go_wp2_with fail
    go_end0
    have HT1 := HG1.out.1
    rw [Bool.true_or] at HT1
    refine ⟨comeD (comeD h (f + m) Y) (f + (i + 1)) (Y - 1), true, rfl, ?_, HT1, fun e => (by cases e), comeD_ok (comeD_ok HOKK.out _ _) _ _, ?_⟩
    · exact HK6b.out.setBad true
    · exact HM6.out.setCell (a := ⟨C, 2, none⟩) (.inl (.inl rfl)) _
  | false =>
    have HS := HK6b.out.setBad (decide (Y < 1))
    have HS' : Hid (Ht (w6.setCell ⟨C, 2, none⟩ (.bool (decide (Y < 1)))) C L f n (comeD (comeD h (f + m) Y) (f + (i + 1)) (Y - 1)) (decide (Y < 1))) := HS
    clear HS
    go_wp2_with fail
    go_end0
    have HT1 := HG1.out.1
    have HT2 := HG1.out.2
    rw [Bool.false_or] at HT1 HT2
    refine ⟨comeD (comeD h (f + m) Y) (f + (i + 1)) (Y - 1), decide (Y < 1), rfl, ?_, HT1, HT2, comeD_ok (comeD_ok HOKK.out _ _) _ _, ?_⟩
    · exact HS'.out
    · exact HM6.out.setCell (a := ⟨C, 2, none⟩) (.inl (.inl rfl)) _
end Go.Proofs.YteedmmljahgpjabGreatDoor

/-
  The document's step, a kind.
-/
namespace Go.Proofs.YteedmmljahgpjabGreatDoor
open Go.RowKit
set_option linter.unusedVariables false
set_option linter.unusedSimpArgs false
set_option maxRecDepth 100000 in
set_option maxHeartbeats 4000000 in
theorem st_8 (w : World) (C L f n : Nat) (h : Nat → Int) (k : Ht w C L f n h false) (hk : HOk h) (i : Nat) (hi : i + 1 < n) (hf : f ≤ 4096) (hn : n ≤ 4097) (d : InM) (Y : Int) (hY : h (f + i) = Y + 1) (hY0 : 0 ≤ Y) (h5 : (d.k == 5) = false) (h6 : (d.k == 6) = false) (h7 : (d.k == 7) = false) (h8 : (d.k == 8) = true) (m : Nat) (hm : m < n) (hma : d.a = (f : Int) + m) :
    Calls Tryz.prog 61 #[.pointer (some ⟨C, 0, none⟩), .agg d.vals, .int .i64 ((f : Int) + i)] w fun e w' => ∃ h' b', e = .returned (.tuple #[]) ∧ Ht w' C L f n h' b' ∧ b' = !(goF h d (f + i) Y).1 ∧ (b' = false → h' = (goF h d (f + i) Y).2) ∧ HOk h' ∧ Mv w w' (fun k => k = C ∨ k = L) := by
  have hb1 := below_new w (.cells d.vals 42)
  have hn1 := heap_new w (.cells d.vals 42)
  obtain ⟨W1, e1⟩ : ∃ W, w.alloc (.cells d.vals 42) = W := ⟨_, rfl⟩
  have E1 : Hid (w.alloc (.cells d.vals 42) = W1) := e1
  rw [e1] at hb1 hn1
  have HB1 : Hid (Below w.heap.size w W1) := hb1
  have HN1 : Hid (W1.heap[w.heap.size]? = some (.cells d.vals 42 (0, 0))) := hn1
  have HK1 : Hid (Ht W1 C L f n h false) := k.mv hb1
  have HOKK : Hid (HOk h) := hk
  obtain ⟨cap, k1⟩ := HK1.out.c
  obtain ⟨cs, k2, k3⟩ := HK1.out.l
  have c0 : W1.cell? ⟨C, 0, none⟩ = some (.int .i64 f) := cell_of k1 0
  have c1 : W1.cell? ⟨C, 1, none⟩ = some (.slice (some ⟨L, 0, none⟩) n cap) := cell_of k1 1
  have l0 : W1.cell? ⟨L, i, none⟩ = some (.int .i64 Y) := by rw [← show h (f + i) - 1 = Y by omega]; exact (cell_of k2 i).trans (k3 i (by omega))
  have hs1 : (f : Int) + (i : Int) - (f : Int) = (i : Int) := by omega
  have hi' : (i : Int) < (n : Int) := by omega
  have hY1 : Y ≤ 64 := by have := hk (f + i); omega
  clear k1 k2 k3 k hk e1 hb1 hn1
  go_enter Tryz.func61, Tryz.ntmps61
  go_upto_region 1 with fail
  rw [E1.out]
  clear E1
  go_quiet (fail)
  have HKV : Hid (Ht (W1.drewN nq) C L f n h false) := HK1.out.mv ⟨rfl, rfl, rfl, Nat.le_refl _, fun _ _ => rfl⟩
  have HNV : Hid ((W1.drewN nq).heap[w.heap.size]? = some (.cells d.vals 42 (0, 0))) := HN1.out
  have HMV : Hid (Mv w (W1.drewN nq) (fun k => k = C ∨ k = L)) := Mv.ofBelow (below_d HB1.out _)
  generalize W1.drewN nq = V at HKV HNV HMV ⊢
  clear HN1 HK1 HB1 c0 c1 l0 hs1 hi'
  have d0 : V.cell? ⟨w.heap.size, 0, none⟩ = some (.int .u8 d.k) := cell_of HNV.out 0
  have d1 : V.cell? ⟨w.heap.size, 1, none⟩ = some (.int .i64 d.a) := cell_of HNV.out 1
  have a1 : (f : Int) + (i : Int) + 1 ≤ 9223372036854775807 := by omega
  have a2 : Y + 1 ≤ 9223372036854775807 := by omega
  have cA := fun (v : World) (h' : Nat → Int) (b' : Bool) (kk : Ht v C L f n h' b') (ok : HOk h') (x : Int) => rcome_any v C L f n h' b' kk ok (i + 1) hi hf hn x
  rw [show (f : Int) + ((i + 1 : Nat) : Int) = (f : Int) + (i : Int) + 1 by omega] at cA
  have cJ := fun (v : World) (h' : Nat → Int) (b' : Bool) (kk : Ht v C L f n h' b') (ok : HOk h') (x : Int) => rcome_any v C L f n h' b' kk ok m hm hf hn x
  rw [← hma] at cJ
  have HG1 := hid_of (go_two (h := h) (g := goF h d (f + i) Y) (p := f + m) (q := f + (i + 1)) (x := Y - 1) (y := Y - 1) (Y := Y) (by unfold goF; rw [h5, h6, h7, h8, show d.a.toNat = f + m by omega]; rfl) (by omega))
  clear hY hma hm
  go_wp2_with fail
  refine (cJ V h false HKV.out HOKK.out (Y - 1)).mono ?_
  rintro e w5 ⟨rfl, hK5, hM5⟩
  have HK5 : Hid (Ht w5 C L f n (comeD h (f + m) (Y - 1)) (false || !comeB h (f + m) (Y - 1))) := hK5
  have HM5 : Hid (Mv w w5 (fun k => k = C ∨ k = L)) := HMV.out.trans hM5 (fun _ e => .inl e)
  clear hK5 hM5
  go_wp2_with fail
  refine (cA w5 _ _ HK5.out (comeD_ok HOKK.out _ _) (Y - 1)).mono ?_
  rintro e w6 ⟨rfl, hK6, hM6⟩
  have HK6 : Hid (Ht w6 C L f n (comeD (comeD h (f + m) (Y - 1)) (f + (i + 1)) (Y - 1)) ((false || !comeB h (f + m) (Y - 1)) || !comeB (comeD h (f + m) (Y - 1)) (f + (i + 1)) (Y - 1))) := hK6
  have HM6 : Hid (Mv w w6 (fun k => k = C ∨ k = L)) := HM5.out.trans hM6 (fun _ e => .inl e)
  clear hK6 hM6 HK5 HM5
  rw [Bool.false_or] at HK6
  obtain ⟨cap, q1⟩ := HK6.out.c
  obtain ⟨bb, ebb⟩ : ∃ b, ((!comeB h (f + m) (Y - 1)) || !comeB (comeD h (f + m) (Y - 1)) (f + (i + 1)) (Y - 1)) = b := ⟨_, rfl⟩
  rw [ebb] at q1 HG1
  have HK6b : Hid (Ht w6 C L f n (comeD (comeD h (f + m) (Y - 1)) (f + (i + 1)) (Y - 1)) bb) := by rw [← ebb]; exact HK6.out
  have cb : w6.cell? ⟨C, 2, none⟩ = some (.bool bb) := cell_of q1 2
  have fb : w6.frozen? ⟨C, 2, none⟩ = false := frozen_of q1 2
  clear q1 ebb HK6 cA cJ
  cases bb with
  | true =>
    go_wp2_with fail
    go_end0
    have HT1 := HG1.out.1
    rw [Bool.true_or] at HT1
    refine ⟨comeD (comeD h (f + m) (Y - 1)) (f + (i + 1)) (Y - 1), true, rfl, ?_, HT1, fun e => (by cases e), comeD_ok (comeD_ok HOKK.out _ _) _ _, ?_⟩
    · exact HK6b.out.setBad true
    · exact HM6.out.setCell (a := ⟨C, 2, none⟩) (.inl (.inl rfl)) _
  | false =>
    have HS := HK6b.out.setBad (decide (Y < 1))
    have HS' : Hid (Ht (w6.setCell ⟨C, 2, none⟩ (.bool (decide (Y < 1)))) C L f n (comeD (comeD h (f + m) (Y - 1)) (f + (i + 1)) (Y - 1)) (decide (Y < 1))) := HS
    clear HS
    go_wp2_with fail
    go_end0
    have HT1 := HG1.out.1
    have HT2 := HG1.out.2
    rw [Bool.false_or] at HT1 HT2
    refine ⟨comeD (comeD h (f + m) (Y - 1)) (f + (i + 1)) (Y - 1), decide (Y < 1), rfl, ?_, HT1, HT2, comeD_ok (comeD_ok HOKK.out _ _) _ _, ?_⟩
    · exact HS'.out
    · exact HM6.out.setCell (a := ⟨C, 2, none⟩) (.inl (.inl rfl)) _
end Go.Proofs.YteedmmljahgpjabGreatDoor

/-
  The document's step, a kind.
-/
namespace Go.Proofs.YteedmmljahgpjabGreatDoor
open Go.RowKit
set_option linter.unusedVariables false
set_option linter.unusedSimpArgs false
set_option maxRecDepth 100000 in
set_option maxHeartbeats 4000000 in
theorem st_9 (w : World) (C L f n : Nat) (h : Nat → Int) (k : Ht w C L f n h false) (hk : HOk h) (i : Nat) (hi : i + 1 < n) (hf : f ≤ 4096) (hn : n ≤ 4097) (d : InM) (Y : Int) (hY : h (f + i) = Y + 1) (hY0 : 0 ≤ Y) (h5 : (d.k == 5) = false) (h6 : (d.k == 6) = false) (h7 : (d.k == 7) = false) (h8 : (d.k == 8) = false) (h9 : (d.k == 9) = true) (m : Nat) (hm : m < n) (hma : d.a = (f : Int) + m) :
    Calls Tryz.prog 61 #[.pointer (some ⟨C, 0, none⟩), .agg d.vals, .int .i64 ((f : Int) + i)] w fun e w' => ∃ h' b', e = .returned (.tuple #[]) ∧ Ht w' C L f n h' b' ∧ b' = !(goF h d (f + i) Y).1 ∧ (b' = false → h' = (goF h d (f + i) Y).2) ∧ HOk h' ∧ Mv w w' (fun k => k = C ∨ k = L) := by
  have hb1 := below_new w (.cells d.vals 42)
  have hn1 := heap_new w (.cells d.vals 42)
  obtain ⟨W1, e1⟩ : ∃ W, w.alloc (.cells d.vals 42) = W := ⟨_, rfl⟩
  have E1 : Hid (w.alloc (.cells d.vals 42) = W1) := e1
  rw [e1] at hb1 hn1
  have HB1 : Hid (Below w.heap.size w W1) := hb1
  have HN1 : Hid (W1.heap[w.heap.size]? = some (.cells d.vals 42 (0, 0))) := hn1
  have HK1 : Hid (Ht W1 C L f n h false) := k.mv hb1
  have HOKK : Hid (HOk h) := hk
  obtain ⟨cap, k1⟩ := HK1.out.c
  obtain ⟨cs, k2, k3⟩ := HK1.out.l
  have c0 : W1.cell? ⟨C, 0, none⟩ = some (.int .i64 f) := cell_of k1 0
  have c1 : W1.cell? ⟨C, 1, none⟩ = some (.slice (some ⟨L, 0, none⟩) n cap) := cell_of k1 1
  have l0 : W1.cell? ⟨L, i, none⟩ = some (.int .i64 Y) := by rw [← show h (f + i) - 1 = Y by omega]; exact (cell_of k2 i).trans (k3 i (by omega))
  have hs1 : (f : Int) + (i : Int) - (f : Int) = (i : Int) := by omega
  have hi' : (i : Int) < (n : Int) := by omega
  have hY1 : Y ≤ 64 := by have := hk (f + i); omega
  clear k1 k2 k3 k hk e1 hb1 hn1
  go_enter Tryz.func61, Tryz.ntmps61
  go_upto_region 1 with fail
  rw [E1.out]
  clear E1
  go_quiet (fail)
  have HKV : Hid (Ht (W1.drewN nq) C L f n h false) := HK1.out.mv ⟨rfl, rfl, rfl, Nat.le_refl _, fun _ _ => rfl⟩
  have HNV : Hid ((W1.drewN nq).heap[w.heap.size]? = some (.cells d.vals 42 (0, 0))) := HN1.out
  have HMV : Hid (Mv w (W1.drewN nq) (fun k => k = C ∨ k = L)) := Mv.ofBelow (below_d HB1.out _)
  generalize W1.drewN nq = V at HKV HNV HMV ⊢
  clear HN1 HK1 HB1 c0 c1 l0 hs1 hi'
  have d0 : V.cell? ⟨w.heap.size, 0, none⟩ = some (.int .u8 d.k) := cell_of HNV.out 0
  have d1 : V.cell? ⟨w.heap.size, 1, none⟩ = some (.int .i64 d.a) := cell_of HNV.out 1
  have a1 : (f : Int) + (i : Int) + 1 ≤ 9223372036854775807 := by omega
  have a2 : Y + 1 ≤ 9223372036854775807 := by omega
  have cJ := fun (v : World) (h' : Nat → Int) (b' : Bool) (kk : Ht v C L f n h' b') (ok : HOk h') (x : Int) => rcome_any v C L f n h' b' kk ok m hm hf hn x
  rw [← hma] at cJ
  have HG1 := hid_of (go_one (h := h) (g := goF h d (f + i) Y) (q := f + m) (x := Y) (Y := Y) (need := 0) (by unfold goF; rw [h5, h6, h7, h8, h9, show d.a.toNat = f + m by omega, decide_eq_true (show Y ≥ 0 from hY0)]; rfl))
  clear hY hma hm
  go_wp2_with fail
  refine (cJ V h false HKV.out HOKK.out Y).mono ?_
  rintro e w5 ⟨rfl, hK5, hM5⟩
  have HK5 : Hid (Ht w5 C L f n (comeD h (f + m) Y) (false || !comeB h (f + m) Y)) := hK5
  have HM5 : Hid (Mv w w5 (fun k => k = C ∨ k = L)) := HMV.out.trans hM5 (fun _ e => .inl e)
  clear hK5 hM5
  rw [Bool.false_or] at HK5
  obtain ⟨cap, q1⟩ := HK5.out.c
  obtain ⟨bb, ebb⟩ : ∃ b, (!comeB h (f + m) Y) = b := ⟨_, rfl⟩
  rw [ebb] at q1 HG1
  have HK5b : Hid (Ht w5 C L f n (comeD h (f + m) Y) bb) := by rw [← ebb]; exact HK5.out
  have cb : w5.cell? ⟨C, 2, none⟩ = some (.bool bb) := cell_of q1 2
  have fb : w5.frozen? ⟨C, 2, none⟩ = false := frozen_of q1 2
  clear q1 ebb HK5 cJ
  cases bb with
  | true =>
    go_wp2_with fail
    go_end0
    have HT1 := HG1.out.1
    rw [Bool.true_or] at HT1
    refine ⟨comeD h (f + m) Y, true, rfl, ?_, HT1, fun e => (by cases e), comeD_ok HOKK.out _ _, ?_⟩
    · exact HK5b.out.setBad true
    · exact HM5.out.setCell (a := ⟨C, 2, none⟩) (.inl (.inl rfl)) _
  | false =>
    have HS := HK5b.out.setBad (decide (Y < 0))
    have HS' : Hid (Ht (w5.setCell ⟨C, 2, none⟩ (.bool (decide (Y < 0)))) C L f n (comeD h (f + m) Y) (decide (Y < 0))) := HS
    clear HS
    go_wp2_with fail
    go_end0
    have HT1 := HG1.out.1
    have HT2 := HG1.out.2
    rw [Bool.false_or] at HT1 HT2
    refine ⟨comeD h (f + m) Y, decide (Y < 0), rfl, ?_, HT1, HT2, comeD_ok HOKK.out _ _, ?_⟩
    · exact HS'.out
    · exact HM5.out.setCell (a := ⟨C, 2, none⟩) (.inl (.inl rfl)) _
end Go.Proofs.YteedmmljahgpjabGreatDoor

/-
  The document's step, a kind.
-/
namespace Go.Proofs.YteedmmljahgpjabGreatDoor
open Go.RowKit
set_option linter.unusedVariables false
set_option linter.unusedSimpArgs false
set_option maxRecDepth 100000 in
set_option maxHeartbeats 4000000 in
theorem st_0 (w : World) (C L f n : Nat) (h : Nat → Int) (k : Ht w C L f n h false) (hk : HOk h) (i : Nat) (hi : i + 1 < n) (hf : f ≤ 4096) (hn : n ≤ 4097) (d : InM) (Y : Int) (hY : h (f + i) = Y + 1) (hY0 : 0 ≤ Y) (h5 : (d.k == 5) = false) (h6 : (d.k == 6) = false) (h7 : (d.k == 7) = false) (h8 : (d.k == 8) = false) (h9 : (d.k == 9) = false) :
    Calls Tryz.prog 61 #[.pointer (some ⟨C, 0, none⟩), .agg d.vals, .int .i64 ((f : Int) + i)] w fun e w' => ∃ h' b', e = .returned (.tuple #[]) ∧ Ht w' C L f n h' b' ∧ b' = !(goF h d (f + i) Y).1 ∧ (b' = false → h' = (goF h d (f + i) Y).2) ∧ HOk h' ∧ Mv w w' (fun k => k = C ∨ k = L) := by
  have hb1 := below_new w (.cells d.vals 42)
  have hn1 := heap_new w (.cells d.vals 42)
  obtain ⟨W1, e1⟩ : ∃ W, w.alloc (.cells d.vals 42) = W := ⟨_, rfl⟩
  have E1 : Hid (w.alloc (.cells d.vals 42) = W1) := e1
  rw [e1] at hb1 hn1
  have HB1 : Hid (Below w.heap.size w W1) := hb1
  have HN1 : Hid (W1.heap[w.heap.size]? = some (.cells d.vals 42 (0, 0))) := hn1
  have HK1 : Hid (Ht W1 C L f n h false) := k.mv hb1
  have HOKK : Hid (HOk h) := hk
  obtain ⟨cap, k1⟩ := HK1.out.c
  obtain ⟨cs, k2, k3⟩ := HK1.out.l
  have c0 : W1.cell? ⟨C, 0, none⟩ = some (.int .i64 f) := cell_of k1 0
  have c1 : W1.cell? ⟨C, 1, none⟩ = some (.slice (some ⟨L, 0, none⟩) n cap) := cell_of k1 1
  have l0 : W1.cell? ⟨L, i, none⟩ = some (.int .i64 Y) := by rw [← show h (f + i) - 1 = Y by omega]; exact (cell_of k2 i).trans (k3 i (by omega))
  have hs1 : (f : Int) + (i : Int) - (f : Int) = (i : Int) := by omega
  have hi' : (i : Int) < (n : Int) := by omega
  have hY1 : Y ≤ 64 := by have := hk (f + i); omega
  clear k1 k2 k3 k hk e1 hb1 hn1
  go_enter Tryz.func61, Tryz.ntmps61
  go_upto_region 1 with fail
  rw [E1.out]
  clear E1
  go_quiet (fail)
  have HKV : Hid (Ht (W1.drewN nq) C L f n h false) := HK1.out.mv ⟨rfl, rfl, rfl, Nat.le_refl _, fun _ _ => rfl⟩
  have HNV : Hid ((W1.drewN nq).heap[w.heap.size]? = some (.cells d.vals 42 (0, 0))) := HN1.out
  have HMV : Hid (Mv w (W1.drewN nq) (fun k => k = C ∨ k = L)) := Mv.ofBelow (below_d HB1.out _)
  generalize W1.drewN nq = V at HKV HNV HMV ⊢
  clear HN1 HK1 HB1 c0 c1 l0 hs1 hi'
  have d0 : V.cell? ⟨w.heap.size, 0, none⟩ = some (.int .u8 d.k) := cell_of HNV.out 0
  have d1 : V.cell? ⟨w.heap.size, 1, none⟩ = some (.int .i64 d.a) := cell_of HNV.out 1
  have a1 : (f : Int) + (i : Int) + 1 ≤ 9223372036854775807 := by omega
  have a2 : Y + 1 ≤ 9223372036854775807 := by omega
  have cA := fun (v : World) (h' : Nat → Int) (b' : Bool) (kk : Ht v C L f n h' b') (ok : HOk h') (x : Int) => rcome_any v C L f n h' b' kk ok (i + 1) hi hf hn x
  rw [show (f : Int) + ((i + 1 : Nat) : Int) = (f : Int) + (i : Int) + 1 by omega] at cA
  have HG1 := hid_of (go_one (h := h) (g := goF h d (f + i) Y) (q := f + (i + 1)) (x := Y + 1) (Y := Y) (need := 0) (by unfold goF; rw [h5, h6, h7, h8, h9, decide_eq_true (show Y ≥ 0 from hY0)]; rfl))
  clear hY 
  go_wp2_with fail
  refine (cA V h false HKV.out HOKK.out (Y + 1)).mono ?_
  rintro e w5 ⟨rfl, hK5, hM5⟩
  have HK5 : Hid (Ht w5 C L f n (comeD h (f + (i + 1)) (Y + 1)) (false || !comeB h (f + (i + 1)) (Y + 1))) := hK5
  have HM5 : Hid (Mv w w5 (fun k => k = C ∨ k = L)) := HMV.out.trans hM5 (fun _ e => .inl e)
  clear hK5 hM5
  rw [Bool.false_or] at HK5
  obtain ⟨cap, q1⟩ := HK5.out.c
  obtain ⟨bb, ebb⟩ : ∃ b, (!comeB h (f + (i + 1)) (Y + 1)) = b := ⟨_, rfl⟩
  rw [ebb] at q1 HG1
  have HK5b : Hid (Ht w5 C L f n (comeD h (f + (i + 1)) (Y + 1)) bb) := by rw [← ebb]; exact HK5.out
  have cb : w5.cell? ⟨C, 2, none⟩ = some (.bool bb) := cell_of q1 2
  have fb : w5.frozen? ⟨C, 2, none⟩ = false := frozen_of q1 2
  clear q1 ebb HK5 cA
  cases bb with
  | true =>
    go_wp2_with fail
    go_end0
    have HT1 := HG1.out.1
    rw [Bool.true_or] at HT1
    refine ⟨comeD h (f + (i + 1)) (Y + 1), true, rfl, ?_, HT1, fun e => (by cases e), comeD_ok HOKK.out _ _, ?_⟩
    · exact HK5b.out.setBad true
    · exact HM5.out.setCell (a := ⟨C, 2, none⟩) (.inl (.inl rfl)) _
  | false =>
    have HS := HK5b.out.setBad (decide (Y < 0))
    have HS' : Hid (Ht (w5.setCell ⟨C, 2, none⟩ (.bool (decide (Y < 0)))) C L f n (comeD h (f + (i + 1)) (Y + 1)) (decide (Y < 0))) := HS
    clear HS
    go_wp2_with fail
    go_end0
    have HT1 := HG1.out.1
    have HT2 := HG1.out.2
    rw [Bool.false_or] at HT1 HT2
    refine ⟨comeD h (f + (i + 1)) (Y + 1), decide (Y < 0), rfl, ?_, HT1, HT2, comeD_ok HOKK.out _ _, ?_⟩
    · exact HS'.out
    · exact HM5.out.setCell (a := ⟨C, 2, none⟩) (.inl (.inl rfl)) _
end Go.Proofs.YteedmmljahgpjabGreatDoor

/-
  The document's step.
-/
namespace Go.Proofs.YteedmmljahgpjabGreatDoor
open Go.RowKit
set_option linter.unusedVariables false
set_option linter.unusedSimpArgs false
theorem rstep_any (w : World) (C L f n : Nat) (h : Nat → Int) (k : Ht w C L f n h false) (hk : HOk h) (i : Nat) (hi : i + 1 < n) (hf : f ≤ 4096) (hn : n ≤ 4097) (d : InM) (Y : Int) (hY : h (f + i) = Y + 1) (hY0 : 0 ≤ Y) (hj : (d.k == 6 || d.k == 7 || d.k == 8 || d.k == 9) = true → (f : Int) ≤ d.a ∧ d.a < (f : Int) + n) :
    Calls Tryz.prog 61 #[.pointer (some ⟨C, 0, none⟩), .agg d.vals, .int .i64 ((f : Int) + i)] w fun e w' => ∃ h' b', e = .returned (.tuple #[]) ∧ Ht w' C L f n h' b' ∧ b' = !(goF h d (f + i) Y).1 ∧ (b' = false → h' = (goF h d (f + i) Y).2) ∧ HOk h' ∧ Mv w w' (fun k => k = C ∨ k = L) := by
  have jm : (d.k == 6 || d.k == 7 || d.k == 8 || d.k == 9) = true → ∃ m : Nat, m < n ∧ d.a = (f : Int) + m := fun e => by
    obtain ⟨j1, j2⟩ := hj e
    exact ⟨(d.a - f).toNat, by omega, by omega⟩
  cases h5 : (d.k == 5) with
  | true =>
    cases hA : decide (d.a ≤ 3) with
    | true => exact st_5a w C L f n h k hk i hi hf hn d Y hY hY0 h5 hA
    | false => exact st_5b w C L f n h k hk i hi hf hn d Y hY hY0 h5 hA
  | false =>
    cases h6 : (d.k == 6) with
    | true =>
      obtain ⟨m, hm, hma⟩ := jm (by rw [h6]; rfl)
      exact st_6 w C L f n h k hk i hi hf hn d Y hY hY0 h5 h6 m hm hma
    | false =>
      cases h7 : (d.k == 7) with
      | true =>
        obtain ⟨m, hm, hma⟩ := jm (by rw [h7]; simp)
        exact st_7 w C L f n h k hk i hi hf hn d Y hY hY0 h5 h6 h7 m hm hma
      | false =>
        cases h8 : (d.k == 8) with
        | true =>
          obtain ⟨m, hm, hma⟩ := jm (by rw [h8]; simp)
          exact st_8 w C L f n h k hk i hi hf hn d Y hY hY0 h5 h6 h7 h8 m hm hma
        | false =>
          cases h9 : (d.k == 9) with
          | true =>
            obtain ⟨m, hm, hma⟩ := jm (by rw [h9]; simp)
            exact st_9 w C L f n h k hk i hi hf hn d Y hY hY0 h5 h6 h7 h8 h9 m hm hma
          | false => exact st_0 w C L f n h k hk i hi hf hn d Y hY hY0 h5 h6 h7 h8 h9
end Go.Proofs.YteedmmljahgpjabGreatDoor
