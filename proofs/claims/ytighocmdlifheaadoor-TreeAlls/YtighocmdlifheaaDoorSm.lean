/-
  SameExpr, of any two expressions.
-/
import Derived.Test.YtighocmdlifheaaDoorEq
namespace Go.Proofs.YtighocmdlifheaaDoor
open Go.RowKit
theorem below2of (w : World) (m k : Nd) : NdH ((w.alloc (.cells m.vals 28)).alloc (.cells k.vals 28)) w.heap.size m ∧ NdH ((w.alloc (.cells m.vals 28)).alloc (.cells k.vals 28)) (w.heap.size + 1) k := by
  refine ⟨heap_old (heap_new _ _) (by rw [size_alloc]; omega), ?_⟩
  unfold NdH
  rw [← size_alloc w (.cells m.vals 28)]; exact heap_new _ _
set_option maxRecDepth 100000 in
set_option maxHeartbeats 4000000 in
theorem same_any : ∀ (m k : Nd) (w : World), Lies w m → Lies w k → Calls Tryd.prog 21 #[.agg m.vals, .agg k.vals] w fun e w' => e = .returned (.bool (sameB m k)) ∧ Below w.heap.size w w' := by
  refine Nd.ind fun g a c js ih k w hl hk => ?_
  have cE : ∀ v, Below w.heap.size w v → Calls Tryd.prog 46 #[.slice a js.length c, .slice k.a k.ks.length k.c, .func (.func 21) #[] #[]] v fun e w' => e = .returned (.bool (decide (js.length = k.ks.length) && samesB js k.ks)) ∧ Below v.heap.size v w' := fun v hv => by
    obtain ⟨h, b, d, ks⟩ := k
    exact eqf_any js ks a b c d hl.cap hl.max (fun j hj k w h1 h2 => ih j hj k w h1 h2) g h v (hl.on hv) (hk.on hv)
  obtain ⟨m, em⟩ : ∃ m, Nd.mk g a c js = m := ⟨_, rfl⟩
  have HS : Hid (sameB m k = (alike m.h k.h && (decide (m.ks.length = k.ks.length) && samesB m.ks k.ks))) := by show _ = _; rw [← em]; rfl
  have cE : ∀ v, Below w.heap.size w v → Calls Tryd.prog 46 #[.slice m.a m.ks.length m.c, .slice k.a k.ks.length k.c, .func (.func 21) #[] #[]] v fun e w' => e = .returned (.bool (decide (m.ks.length = k.ks.length) && samesB m.ks k.ks)) ∧ Below v.heap.size v w' := by rw [← em]; exact cE
  rw [em]
  clear em ih hl hk
  have cS : ∀ v, Calls Tryd.prog 45 #[.agg #[.int .u8 m.h.k, .int .u8 m.h.o, .int .u8 m.h.t, .int .i64 m.h.n, .int .u8 m.h.f, .string m.h.x, .slice m.a m.ks.length m.c, .int .i64 m.h.p]] v fun e w' => e = .returned (.agg #[.int .u8 m.h.k, .int .u8 m.h.o, .int .u8 m.h.t, .int .i64 m.h.n, .int .u8 m.h.f, .string m.h.x]) ∧ Below v.heap.size v w' := fun v => selfOf_any m.h m.a m.ks.length m.c v
  have cT : ∀ v, Calls Tryd.prog 45 #[.agg #[.int .u8 k.h.k, .int .u8 k.h.o, .int .u8 k.h.t, .int .i64 k.h.n, .int .u8 k.h.f, .string k.h.x, .slice k.a k.ks.length k.c, .int .i64 k.h.p]] v fun e w' => e = .returned (.agg #[.int .u8 k.h.k, .int .u8 k.h.o, .int .u8 k.h.t, .int .i64 k.h.n, .int .u8 k.h.f, .string k.h.x]) ∧ Below v.heap.size v w' := fun v => selfOf_any k.h k.a k.ks.length k.c v
  obtain ⟨B, eB⟩ : ∃ B, (decide (m.ks.length = k.ks.length) && samesB m.ks k.ks) = B := ⟨_, rfl⟩
  simp only [eB] at cE
  rw [eB] at HS
  obtain ⟨A, eA⟩ : ∃ A, alike m.h k.h = A := ⟨_, rfl⟩
  have HA : Hid (alike m.h k.h = A) := eA
  rw [eA] at HS
  clear eB eA
  obtain ⟨X, eX⟩ : ∃ X, (w.alloc (.cells m.vals 28)).alloc (.cells k.vals 28) = X := ⟨_, rfl⟩
  have HKX : Hid (KK X w.heap.size (w.heap.size + 1) m k) := by rw [← eX]; exact ⟨(below2of w m k).1, (below2of w m k).2⟩
  have HBX : Hid (Below w.heap.size w X) := by rw [← eX]; exact below_two _ _ _
  unfold Nd.vals hdA at eX
  show Calls Tryd.prog 21 #[.agg #[.int .u8 m.h.k, .int .u8 m.h.o, .int .u8 m.h.t, .int .i64 m.h.n, .int .u8 m.h.f, .string m.h.x, .slice m.a m.ks.length m.c, .int .i64 m.h.p], .agg #[.int .u8 k.h.k, .int .u8 k.h.o, .int .u8 k.h.t, .int .i64 k.h.n, .int .u8 k.h.f, .string k.h.x, .slice k.a k.ks.length k.c, .int .i64 k.h.p]] w _
  go_enter Tryd.func21, Tryd.ntmps21
  go_wp2_with fail
  clear eX
  cases A with
  | true =>
    have hs := alike_eq HA.out
    unfold selfA at hs
    simp only [hs] at cT
    clear hs
    refine wp_region_held_drew (S := (fun v => v.cell? ⟨w.heap.size, 0, none⟩ = some (.int .u8 m.h.k) ∧ v.cell? ⟨w.heap.size, 1, none⟩ = some (.int .u8 m.h.o) ∧ v.cell? ⟨w.heap.size, 2, none⟩ = some (.int .u8 m.h.t) ∧ v.cell? ⟨w.heap.size, 3, none⟩ = some (.int .i64 m.h.n) ∧ v.cell? ⟨w.heap.size, 4, none⟩ = some (.int .u8 m.h.f) ∧ v.cell? ⟨w.heap.size, 5, none⟩ = some (.string m.h.x) ∧ v.cell? ⟨w.heap.size, 6, none⟩ = some (.slice m.a m.ks.length m.c) ∧ v.cell? ⟨w.heap.size, 7, none⟩ = some (.int .i64 m.h.p) ∧ v.cell? ⟨(w.heap.size + 1), 0, none⟩ = some (.int .u8 k.h.k) ∧ v.cell? ⟨(w.heap.size + 1), 1, none⟩ = some (.int .u8 k.h.o) ∧ v.cell? ⟨(w.heap.size + 1), 2, none⟩ = some (.int .u8 k.h.t) ∧ v.cell? ⟨(w.heap.size + 1), 3, none⟩ = some (.int .i64 k.h.n) ∧ v.cell? ⟨(w.heap.size + 1), 4, none⟩ = some (.int .u8 k.h.f) ∧ v.cell? ⟨(w.heap.size + 1), 5, none⟩ = some (.string k.h.x) ∧ v.cell? ⟨(w.heap.size + 1), 6, none⟩ = some (.slice k.a k.ks.length k.c) ∧ v.cell? ⟨(w.heap.size + 1), 7, none⟩ = some (.int .i64 k.h.p) ∧ GB X v)) (by kernel_rfl) (HKX.out.keep (by (repeat (first | with_reducible assumption | with_reducible exact GB.refl _ | with_reducible apply GB.drew | with_reducible apply GB.alloc | with_reducible refine GB.call (by with_reducible assumption) ?_)))) (fun hHeld => ?_)
    refine wpAnyH_take (i := 0) (v := ?_) rfl (by kernel_rfl) (by kernel_rfl) (by kernel_rfl) (fun _ _ _ h => h) (Or.inl ⟨by rfl, ?_⟩) (by assumption) ?_
    rotate_left
    · (intro w hSw; (try dsimp only at hSw); go_simp; try (with_reducible rfl))
    try simp [Act.put]
    refine wpAnyH_take (i := 2) (v := ?_) rfl (by kernel_rfl) (by kernel_rfl) (by kernel_rfl) (fun _ _ _ h => h) (Or.inl ⟨by rfl, ?_⟩) (by assumption) ?_
    rotate_left
    · (intro w hSw; (try dsimp only at hSw); go_simp; try (with_reducible rfl))
    try simp [Act.put]
    refine wpAnyH_ready (rs := [1]) (by kernel_rfl) (by simp) ?_
    refine AllReadyH.cons rfl (fun K hK => ?_) AllReadyH.nil
    go_simp
    refine (cS _).mono ?_
    rintro e w2 ⟨rfl, hb2⟩
    have hg2 : GB X w2 := GB.call hb2 (by (repeat (first | with_reducible assumption | with_reducible exact GB.refl _ | with_reducible apply GB.drew | with_reducible apply GB.alloc | with_reducible refine GB.call (by with_reducible assumption) ?_)))
    have HG2 : Hid (GB X w2) := hg2
    go_simp
    refine hK.out _ _ ?_ (fun hHeld => ?_)
    · exact HKX.out.keep hg2
    clear hK K
    try simp [Act.put]
    refine wpAnyH_ready (rs := [3]) (by kernel_rfl) (by simp) ?_
    refine AllReadyH.cons rfl (fun K hK => ?_) AllReadyH.nil
    go_simp
    refine (cT _).mono ?_
    rintro e w3 ⟨rfl, hb3⟩
    have hg3 : GB X w3 := GB.call hb3 HG2.out
    have HG3 : Hid (GB X w3) := hg3
    go_simp
    refine hK.out _ _ ?_ (fun hHeld => ?_)
    · exact HKX.out.keep hg3
    clear hK K
    try simp [Act.put]
    refine wpAnyH_take (i := 4) (v := ?_) rfl (by kernel_rfl) (by kernel_rfl) (by kernel_rfl) (fun _ _ _ h => h) (Or.inl ⟨by rfl, ?_⟩) (by assumption) ?_
    rotate_left
    · (intro w hSw; (try dsimp only at hSw); go_simp; try (with_reducible rfl))
    try simp [Act.put]
    refine wpAnyH_take (i := 5) (v := ?_) rfl (by kernel_rfl) (by kernel_rfl) (by kernel_rfl) (fun _ _ _ h => h) (Or.inl ⟨by rfl, ?_⟩) (by assumption) ?_
    rotate_left
    · (intro w hSw; (try dsimp only at hSw); go_simp; try (with_reducible rfl))
    try simp [Act.put]
    refine wpAnyH_take (i := 6) (v := ?_) rfl (by kernel_rfl) (by kernel_rfl) (by kernel_rfl) (fun _ _ _ h => h) (Or.inl ⟨by rfl, ?_⟩) (by assumption) ?_
    rotate_left
    · (intro w hSw; (try dsimp only at hSw); go_simp; try (with_reducible rfl))
    try simp [Act.put]
    refine wpAnyH_take (i := 7) (v := ?_) rfl (by kernel_rfl) (by kernel_rfl) (by kernel_rfl) (fun _ _ _ h => h) (Or.inl ⟨by rfl, ?_⟩) (by assumption) ?_
    rotate_left
    · (intro w hSw; (try dsimp only at hSw); go_simp; try (with_reducible rfl))
    try simp [Act.put]
    refine wpAnyH_take (i := 8) (v := ?_) rfl (by kernel_rfl) (by kernel_rfl) (by kernel_rfl) (fun _ _ _ h => h) (Or.inl ⟨by rfl, ?_⟩) (by assumption) ?_
    rotate_left
    · (intro w hSw; (try dsimp only at hSw); go_simp; try (with_reducible rfl))
    try simp [Act.put]
    refine wpAnyH_take (i := 9) (v := ?_) rfl (by kernel_rfl) (by kernel_rfl) (by kernel_rfl) (fun _ _ _ h => h) (Or.inl ⟨by rfl, ?_⟩) (by assumption) ?_
    rotate_left
    · (intro w hSw; (try dsimp only at hSw); go_simp; try (with_reducible rfl))
    try simp [Act.put]
    refine wpAnyH_ready (rs := [10]) (by kernel_rfl) (by simp) ?_
    refine AllReadyH.cons rfl (fun K hK => ?_) AllReadyH.nil
    go_simp
    refine (cE _ (below2 HBX.out HG3.out)).mono ?_
    rintro e w4 ⟨rfl, hb4⟩
    have hg4 : GB X w4 := GB.call hb4 HG3.out
    have HG4 : Hid (GB X w4) := hg4
    go_simp
    refine hK.out _ _ ?_ (fun hHeld => ?_)
    · exact HKX.out.keep hg4
    clear hK K
    try simp [Act.put]
    refine wpAnyH_take (i := 11) (v := ?_) rfl (by kernel_rfl) (by kernel_rfl) (by kernel_rfl) (fun _ _ _ h => h) (Or.inl ⟨by rfl, ?_⟩) (by assumption) ?_
    rotate_left
    · (intro w hSw; (try dsimp only at hSw); go_simp; try (with_reducible rfl))
    try simp [Act.put]
    refine wpAnyH_take (i := 12) (v := ?_) rfl (by kernel_rfl) (by kernel_rfl) (by kernel_rfl) (fun _ _ _ h => h) (Or.inl ⟨by rfl, ?_⟩) (by assumption) ?_
    rotate_left
    · (intro w hSw; (try dsimp only at hSw); go_simp; try (with_reducible rfl))
    try simp [Act.put]
    refine wpAnyH_done (by kernel_rfl) ?_ _
    have HV : Hid (Below w.heap.size w w4) := below2 HBX.out HG4.out
    clear hHeld hb2 hb3 hg2 hg3 hb4 hg4
    go_wp2_with fail
    go_ret
    exact ⟨by rw [HS.out]; cases B <;> rfl, HV.out⟩
  | false =>
    refine wp_region_held_drew (S := (fun v => v.cell? ⟨w.heap.size, 0, none⟩ = some (.int .u8 m.h.k) ∧ v.cell? ⟨w.heap.size, 1, none⟩ = some (.int .u8 m.h.o) ∧ v.cell? ⟨w.heap.size, 2, none⟩ = some (.int .u8 m.h.t) ∧ v.cell? ⟨w.heap.size, 3, none⟩ = some (.int .i64 m.h.n) ∧ v.cell? ⟨w.heap.size, 4, none⟩ = some (.int .u8 m.h.f) ∧ v.cell? ⟨w.heap.size, 5, none⟩ = some (.string m.h.x) ∧ v.cell? ⟨w.heap.size, 6, none⟩ = some (.slice m.a m.ks.length m.c) ∧ v.cell? ⟨w.heap.size, 7, none⟩ = some (.int .i64 m.h.p) ∧ v.cell? ⟨(w.heap.size + 1), 0, none⟩ = some (.int .u8 k.h.k) ∧ v.cell? ⟨(w.heap.size + 1), 1, none⟩ = some (.int .u8 k.h.o) ∧ v.cell? ⟨(w.heap.size + 1), 2, none⟩ = some (.int .u8 k.h.t) ∧ v.cell? ⟨(w.heap.size + 1), 3, none⟩ = some (.int .i64 k.h.n) ∧ v.cell? ⟨(w.heap.size + 1), 4, none⟩ = some (.int .u8 k.h.f) ∧ v.cell? ⟨(w.heap.size + 1), 5, none⟩ = some (.string k.h.x) ∧ v.cell? ⟨(w.heap.size + 1), 6, none⟩ = some (.slice k.a k.ks.length k.c) ∧ v.cell? ⟨(w.heap.size + 1), 7, none⟩ = some (.int .i64 k.h.p) ∧ GB X v)) (by kernel_rfl) (HKX.out.keep (by (repeat (first | with_reducible assumption | with_reducible exact GB.refl _ | with_reducible apply GB.drew | with_reducible apply GB.alloc | with_reducible refine GB.call (by with_reducible assumption) ?_)))) (fun hHeld => ?_)
    refine wpAnyH_take (i := 0) (v := ?_) rfl (by kernel_rfl) (by kernel_rfl) (by kernel_rfl) (fun _ _ _ h => h) (Or.inl ⟨by rfl, ?_⟩) (by assumption) ?_
    rotate_left
    · (intro w hSw; (try dsimp only at hSw); go_simp; try (with_reducible rfl))
    try simp [Act.put]
    refine wpAnyH_take (i := 2) (v := ?_) rfl (by kernel_rfl) (by kernel_rfl) (by kernel_rfl) (fun _ _ _ h => h) (Or.inl ⟨by rfl, ?_⟩) (by assumption) ?_
    rotate_left
    · (intro w hSw; (try dsimp only at hSw); go_simp; try (with_reducible rfl))
    try simp [Act.put]
    refine wpAnyH_ready (rs := [1]) (by kernel_rfl) (by simp) ?_
    refine AllReadyH.cons rfl (fun K hK => ?_) AllReadyH.nil
    go_simp
    refine (cS _).mono ?_
    rintro e w2 ⟨rfl, hb2⟩
    have hg2 : GB X w2 := GB.call hb2 (by (repeat (first | with_reducible assumption | with_reducible exact GB.refl _ | with_reducible apply GB.drew | with_reducible apply GB.alloc | with_reducible refine GB.call (by with_reducible assumption) ?_)))
    have HG2 : Hid (GB X w2) := hg2
    go_simp
    refine hK.out _ _ ?_ (fun hHeld => ?_)
    · exact HKX.out.keep hg2
    clear hK K
    try simp [Act.put]
    refine wpAnyH_ready (rs := [3]) (by kernel_rfl) (by simp) ?_
    refine AllReadyH.cons rfl (fun K hK => ?_) AllReadyH.nil
    go_simp
    refine (cT _).mono ?_
    rintro e w3 ⟨rfl, hb3⟩
    have hg3 : GB X w3 := GB.call hb3 HG2.out
    have HG3 : Hid (GB X w3) := hg3
    go_simp
    refine hK.out _ _ ?_ (fun hHeld => ?_)
    · exact HKX.out.keep hg3
    clear hK K
    try simp [Act.put]
    refine wpAnyH_take (i := 4) (v := .bool false) rfl (by kernel_rfl) (by kernel_rfl) (by kernel_rfl) (fun _ _ _ h => h) (Or.inl ⟨by rfl, ?_⟩) (by assumption) ?_
    · (intro w hSw; (try dsimp only at hSw); go_simp; exact neq6 HA.out)
    try simp [Act.put]
    refine wpAnyH_take (i := 5) (v := ?_) rfl (by kernel_rfl) (by kernel_rfl) (by kernel_rfl) (fun _ _ _ h => h) (Or.inl ⟨by rfl, ?_⟩) (by assumption) ?_
    rotate_left
    · (intro w hSw; (try dsimp only at hSw); go_simp; try (with_reducible rfl))
    try simp [Act.put]
    refine wpAnyH_take (i := 6) (v := ?_) rfl (by kernel_rfl) (by kernel_rfl) (by kernel_rfl) (fun _ _ _ h => h) (Or.inr ⟨by rfl, ?_⟩) (by assumption) ?_
    rotate_left
    · rfl
    try simp [Act.put]
    refine wpAnyH_take (i := 7) (v := ?_) rfl (by kernel_rfl) (by kernel_rfl) (by kernel_rfl) (fun _ _ _ h => h) (Or.inr ⟨by rfl, ?_⟩) (by assumption) ?_
    rotate_left
    · rfl
    try simp [Act.put]
    refine wpAnyH_take (i := 8) (v := ?_) rfl (by kernel_rfl) (by kernel_rfl) (by kernel_rfl) (fun _ _ _ h => h) (Or.inr ⟨by rfl, ?_⟩) (by assumption) ?_
    rotate_left
    · rfl
    try simp [Act.put]
    refine wpAnyH_take (i := 9) (v := ?_) rfl (by kernel_rfl) (by kernel_rfl) (by kernel_rfl) (fun _ _ _ h => h) (Or.inr ⟨by rfl, ?_⟩) (by assumption) ?_
    rotate_left
    · rfl
    try simp [Act.put]
    refine wpAnyH_take (i := 10) (v := ?_) rfl (by kernel_rfl) (by kernel_rfl) (by kernel_rfl) (fun _ _ _ h => h) (Or.inr ⟨by rfl, ?_⟩) (by assumption) ?_
    rotate_left
    · rfl
    try simp [Act.put]
    refine wpAnyH_take (i := 11) (v := ?_) rfl (by kernel_rfl) (by kernel_rfl) (by kernel_rfl) (fun _ _ _ h => h) (Or.inl ⟨by rfl, ?_⟩) (by assumption) ?_
    rotate_left
    · (intro w hSw; (try dsimp only at hSw); go_simp; try (with_reducible rfl))
    try simp [Act.put]
    refine wpAnyH_take (i := 12) (v := ?_) rfl (by kernel_rfl) (by kernel_rfl) (by kernel_rfl) (fun _ _ _ h => h) (Or.inl ⟨by rfl, ?_⟩) (by assumption) ?_
    rotate_left
    · (intro w hSw; (try dsimp only at hSw); go_simp; try (with_reducible rfl))
    try simp [Act.put]
    refine wpAnyH_done (by kernel_rfl) ?_ _
    have HV : Hid (Below w.heap.size w w3) := below2 HBX.out HG3.out
    clear hHeld hb2 hb3 hg2 hg3
    go_wp2_with fail
    go_ret
    exact ⟨by rw [HS.out]; rfl, HV.out⟩
end Go.Proofs.YtighocmdlifheaaDoor
