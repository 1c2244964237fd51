import Derived.Test.YtighocmdlifheaaGreatDoorM19
import Derived.Test.YtighocmdlifheaaGreatDoorM16
import Derived.Test.YtighocmdlifheaaGreatDoorM17
import Derived.Test.YtighocmdlifheaaGreatDoorDp
/-
  The document's Formed and Size, of any expression.
-/
namespace Go.Proofs.YtighocmdlifheaaGreatDoor
open Go.RowKit
set_option linter.unusedVariables false
set_option linter.unusedSimpArgs false
set_option maxRecDepth 100000 in
set_option maxHeartbeats 4000000 in
theorem formed_any : ∀ (m : Nd) (w : World), Lies w m → Calls Tryz.prog 83 #[.agg m.vals] w fun e w' => e = .returned (.bool (formB m)) ∧ Below w.heap.size w w' := by
  refine Nd.ind fun h a c ks ih w hl => ?_
  have HI : Hid (∀ k ∈ ks, ∀ (w : World), Lies w k → Calls Tryz.prog 83 #[.agg k.vals] w fun e w' => e = .returned (.bool (formB k)) ∧ Below w.heap.size w w') := ih
  have HL : Hid (Lies w (.mk h a c ks)) := hl
  have hb1 := below_new w (.cells #[.int .u8 h.k, .int .u8 h.o, .int .u8 h.t, .int .i64 h.n, .int .u8 h.f, .string h.x, .slice a ks.length c, .int .i64 h.p] 55)
  have hn1 := heap_new w (.cells #[.int .u8 h.k, .int .u8 h.o, .int .u8 h.t, .int .i64 h.n, .int .u8 h.f, .string h.x, .slice a ks.length c, .int .i64 h.p] 55)
  obtain ⟨W1, e1⟩ : ∃ W, w.alloc (.cells #[.int .u8 h.k, .int .u8 h.o, .int .u8 h.t, .int .i64 h.n, .int .u8 h.f, .string h.x, .slice a ks.length c, .int .i64 h.p] 55) = W := ⟨_, rfl⟩
  have E1 : Hid (w.alloc (.cells #[.int .u8 h.k, .int .u8 h.o, .int .u8 h.t, .int .i64 h.n, .int .u8 h.f, .string h.x, .slice a ks.length c, .int .i64 h.p] 55) = W1) := e1
  rw [e1] at hb1 hn1
  have HB1 : Hid (Below w.heap.size w W1) := hb1
  have HN1 : Hid (W1.heap[w.heap.size]? = some (.cells #[.int .u8 h.k, .int .u8 h.o, .int .u8 h.t, .int .i64 h.n, .int .u8 h.f, .string h.x, .slice a ks.length c, .int .i64 h.p] 55 (0, 0))) := hn1
  have HCP : Hid (ks.length ≤ 9223372036854775807) := by have h1 := hl.cap; have h2 := hl.max; simp only [Nd.ks, Nd.c] at h1 h2; show _ ≤ _; omega
  have c1 := rone_any h a ks.length c W1 (by have := hl.rg.x1; exact this)
  have HF : Hid (formB (.mk h a c ks) = (oneH h ks.length && formsB ks)) := by show _ = _; rw [formB]
  have q0 : W1.cell? ⟨w.heap.size, 0, none⟩ = some (.int .u8 h.k) := cell_of hn1 0
  have q1 : W1.cell? ⟨w.heap.size, 1, none⟩ = some (.int .u8 h.o) := cell_of hn1 1
  have q2 : W1.cell? ⟨w.heap.size, 2, none⟩ = some (.int .u8 h.t) := cell_of hn1 2
  have q3 : W1.cell? ⟨w.heap.size, 3, none⟩ = some (.int .i64 h.n) := cell_of hn1 3
  have q4 : W1.cell? ⟨w.heap.size, 4, none⟩ = some (.int .u8 h.f) := cell_of hn1 4
  have q5 : W1.cell? ⟨w.heap.size, 5, none⟩ = some (.string h.x) := cell_of hn1 5
  have q6 : W1.cell? ⟨w.heap.size, 6, none⟩ = some (.slice a ks.length c) := cell_of hn1 6
  have q7 : W1.cell? ⟨w.heap.size, 7, none⟩ = some (.int .i64 h.p) := cell_of hn1 7
  obtain ⟨FB, eFB⟩ : ∃ b, formB (.mk h a c ks) = b := ⟨_, rfl⟩
  rw [eFB] at HF ⊢
  obtain ⟨B0, eB0⟩ : ∃ b, oneH h ks.length = b := ⟨_, rfl⟩
  rw [eB0] at c1 HF
  clear hb1 hn1 e1 ih hl eFB eB0
  show Calls Tryz.prog 83 #[.agg #[.int .u8 h.k, .int .u8 h.o, .int .u8 h.t, .int .i64 h.n, .int .u8 h.f, .string h.x, .slice a ks.length c, .int .i64 h.p]] w _
  go_enter Tryz.func83, Tryz.ntmps83
  go_upto_region 1 with fail
  rw [E1.out]
  clear E1
  go_wp2_with fail
  refine c1.mono ?_
  rintro e w2 ⟨rfl, hb2⟩
  have HB2 : Hid (Below w.heap.size w w2 ∧ w2.heap[w.heap.size]? = some (.cells #[.int .u8 h.k, .int .u8 h.o, .int .u8 h.t, .int .i64 h.n, .int .u8 h.f, .string h.x, .slice a ks.length c, .int .i64 h.p] 55 (0, 0))) := ⟨below2 HB1.out hb2, (hb2.block _ (Array.getElem?_eq_some_iff.1 HN1.out).1).trans HN1.out⟩
  clear c1 hb2 q0 q1 q2 q3 q4 q5 q6 q7 HB1 HN1
  go_wp2_with fail
  go_loopw [3, 4] (fun f t wr => ∃ (i : Nat) (B : Bool), i ≤ ks.length ∧ t = .int .i64 i ∧ f = .bool B ∧ Hid (Below w.heap.size w wr) ∧ Hid (wr.heap[w.heap.size]? = some (.cells #[.int .u8 h.k, .int .u8 h.o, .int .u8 h.t, .int .i64 h.n, .int .u8 h.f, .string h.x, .slice a ks.length c, .int .i64 h.p] 55 (0, 0))) ∧ Hid (FB = (B && formsB (ks.drop i)))) (fun _ t _ => ks.length - (intOf t).toNat)
  case atStart => exact ⟨0, B0, by omega, rfl, rfl, HB2.out.1, HB2.out.2, HF⟩
  case round =>
    obtain ⟨i, B, hi, rfl, rfl, HBR, HNR, HR⟩ := hrel
    have x6 : wr.cell? ⟨w.heap.size, 6, none⟩ = some (.slice a ks.length c) := cell_of HNR.out 6
    by_cases hlt : i < ks.length
    · have hlt' : (i : Int) < (ks.length : Int) := by omega
      cases B with
      | false =>
        have HZ : Hid (FB = false) := by show _ = _; rw [HR.out]; rfl
        clear HR
        go_wp2_with fail
        go_ret
        exact ⟨by rw [HZ.out]; rfl, HBR.out⟩
      | true =>
        have hmx : (i : Int) + 1 ≤ 9223372036854775807 := by have := HCP.out; omega
        obtain ⟨b, o, e, hat⟩ := (HL.out.on HBR.out).kid i hlt
        have e2 : a = some ⟨b, o, none⟩ := e
        clear e
        subst e2
        have HMEM : Hid (ks[i] ∈ ks) := List.getElem_mem hlt
        have HD : Hid (FB = (formB ks[i] && formsB (ks.drop (i + 1)))) := by show _ = _; rw [HR.out, List.drop_eq_getElem_cons hlt]; rfl
        obtain ⟨k, ek⟩ : ∃ k, ks[i] = k := ⟨_, rfl⟩
        have hat2 : NdAt wr b (o + i * 8) k := by rw [← ek]; exact hat
        rw [ek] at HD HMEM
        obtain ⟨z0, z1, z2, z3, z4, z5, z6, z7⟩ := hat2
        have cI : Calls Tryz.prog 83 #[.agg #[.int .u8 k.h.k, .int .u8 k.h.o, .int .u8 k.h.t, .int .i64 k.h.n, .int .u8 k.h.f, .string k.h.x, .slice k.a k.ks.length k.c, .int .i64 k.h.p]] wr fun e w' => e = .returned (.bool (formB k)) ∧ Below wr.heap.size wr w' := HI.out k HMEM.out wr ((HL.out.on HBR.out).sub k HMEM.out)
        clear ek hat HR
        go_wp2_with fail
        refine cI.mono ?_
        rintro e w5 ⟨rfl, hb5⟩
        have HB5 : Hid (Below w.heap.size w w5) := below2 HBR.out hb5
        have HN5 : Hid (w5.heap[w.heap.size]? = some (.cells #[.int .u8 h.k, .int .u8 h.o, .int .u8 h.t, .int .i64 h.n, .int .u8 h.f, .string h.x, .slice (some ⟨b, o, none⟩) ks.length c, .int .i64 h.p] 55 (0, 0))) := (hb5.block _ (Array.getElem?_eq_some_iff.1 HNR.out).1).trans HNR.out
        clear cI hb5 z0 z1 z2 z3 z4 z5 z6 z7 x6
        go_wp2_with fail
        exact ⟨⟨i + 1, formB k, hlt, rfl, rfl, HB5, HN5, HD⟩, by simp only [intOf]; omega⟩
    · obtain rfl : i = ks.length := by omega
      have hnot : ¬ (ks.length : Int) < (ks.length : Int) := by omega
      have HZ : Hid (FB = B) := by show _ = _; rw [HR.out, List.drop_length]; cases B <;> rfl
      clear HR
      go_wp2_with fail
      go_ret
      exact ⟨by rw [HZ.out]; rfl, HBR.out⟩
set_option maxRecDepth 100000 in
set_option maxHeartbeats 4000000 in
theorem rsize_any : ∀ (m : Nd) (w : World), Lies w m → size m ≤ 1000000000000 → Calls Tryz.prog 34 #[.agg m.vals] w fun e w' => e = .returned (.int .i64 (size m)) ∧ Below w.heap.size w w' := by
  refine Nd.ind fun h a c ks ih w hl hz => ?_
  have HI : Hid (∀ k ∈ ks, ∀ (w : World), Lies w k → size k ≤ 1000000000000 → Calls Tryz.prog 34 #[.agg k.vals] w fun e w' => e = .returned (.int .i64 (size k)) ∧ Below w.heap.size w w') := ih
  have HL : Hid (Lies w (.mk h a c ks)) := hl
  have hb1 := below_new w (.cells #[.int .u8 h.k, .int .u8 h.o, .int .u8 h.t, .int .i64 h.n, .int .u8 h.f, .string h.x, .slice a ks.length c, .int .i64 h.p] 55)
  have hn1 := heap_new w (.cells #[.int .u8 h.k, .int .u8 h.o, .int .u8 h.t, .int .i64 h.n, .int .u8 h.f, .string h.x, .slice a ks.length c, .int .i64 h.p] 55)
  obtain ⟨W1, e1⟩ : ∃ W, w.alloc (.cells #[.int .u8 h.k, .int .u8 h.o, .int .u8 h.t, .int .i64 h.n, .int .u8 h.f, .string h.x, .slice a ks.length c, .int .i64 h.p] 55) = W := ⟨_, rfl⟩
  have E1 : Hid (w.alloc (.cells #[.int .u8 h.k, .int .u8 h.o, .int .u8 h.t, .int .i64 h.n, .int .u8 h.f, .string h.x, .slice a ks.length c, .int .i64 h.p] 55) = W1) := e1
  rw [e1] at hb1 hn1
  have HB1 : Hid (Below w.heap.size w W1) := hb1
  have HN1 : Hid (W1.heap[w.heap.size]? = some (.cells #[.int .u8 h.k, .int .u8 h.o, .int .u8 h.t, .int .i64 h.n, .int .u8 h.f, .string h.x, .slice a ks.length c, .int .i64 h.p] 55 (0, 0))) := hn1
  have HCP : Hid (ks.length ≤ 9223372036854775807) := by have h1 := hl.cap; have h2 := hl.max; simp only [Nd.ks, Nd.c] at h1 h2; show _ ≤ _; omega
  have HZ : Hid (1 + sizes ks ≤ 1000000000000) := by show _ ≤ _; rw [size] at hz; exact hz
  have HF : Hid (size (.mk h a c ks) = 1 + sizes ks) := by show _ = _; rw [size]
  obtain ⟨FB, eFB⟩ : ∃ b, size (.mk h a c ks) = b := ⟨_, rfl⟩
  rw [eFB] at HF ⊢
  clear hb1 hn1 e1 ih hl eFB hz
  show Calls Tryz.prog 34 #[.agg #[.int .u8 h.k, .int .u8 h.o, .int .u8 h.t, .int .i64 h.n, .int .u8 h.f, .string h.x, .slice a ks.length c, .int .i64 h.p]] w _
  go_enter Tryz.func34, Tryz.ntmps34
  go_upto_region 1 with fail
  rw [E1.out]
  clear E1
  go_wp2_with fail
  go_loopw [3, 4] (fun f t wr => ∃ (i m : Nat), i ≤ ks.length ∧ t = .int .i64 i ∧ f = .int .i64 m ∧ Hid (Below w.heap.size w wr) ∧ Hid (wr.heap[w.heap.size]? = some (.cells #[.int .u8 h.k, .int .u8 h.o, .int .u8 h.t, .int .i64 h.n, .int .u8 h.f, .string h.x, .slice a ks.length c, .int .i64 h.p] 55 (0, 0))) ∧ Hid (FB = m + sizes (ks.drop i) ∧ FB ≤ 1000000000000)) (fun _ t _ => ks.length - (intOf t).toNat)
  case atStart => exact ⟨0, 1, by omega, rfl, rfl, HB1, HN1, ⟨HF.out, by rw [HF.out]; exact HZ.out⟩⟩
  case round =>
    obtain ⟨i, m, hi, rfl, rfl, HBR, HNR, HR⟩ := hrel
    have x6 : wr.cell? ⟨w.heap.size, 6, none⟩ = some (.slice a ks.length c) := cell_of HNR.out 6
    by_cases hlt : i < ks.length
    · have hlt' : (i : Int) < (ks.length : Int) := by omega
      have hmx : (i : Int) + 1 ≤ 9223372036854775807 := by have := HCP.out; omega
      obtain ⟨b, o, e, hat⟩ := (HL.out.on HBR.out).kid i hlt
      have e2 : a = some ⟨b, o, none⟩ := e
      clear e
      subst e2
      have HMEM : Hid (ks[i] ∈ ks) := List.getElem_mem hlt
      have HD : Hid (FB = m + (size ks[i] + sizes (ks.drop (i + 1))) ∧ FB ≤ 1000000000000) := ⟨by rw [HR.out.1, List.drop_eq_getElem_cons hlt]; rfl, HR.out.2⟩
      obtain ⟨k, ek⟩ : ∃ k, ks[i] = k := ⟨_, rfl⟩
      have hat2 : NdAt wr b (o + i * 8) k := by rw [← ek]; exact hat
      rw [ek] at HD HMEM
      obtain ⟨z0, z1, z2, z3, z4, z5, z6, z7⟩ := hat2
      have cI : Calls Tryz.prog 34 #[.agg #[.int .u8 k.h.k, .int .u8 k.h.o, .int .u8 k.h.t, .int .i64 k.h.n, .int .u8 k.h.f, .string k.h.x, .slice k.a k.ks.length k.c, .int .i64 k.h.p]] wr fun e w' => e = .returned (.int .i64 (size k)) ∧ Below wr.heap.size wr w' := HI.out k HMEM.out wr ((HL.out.on HBR.out).sub k HMEM.out) (by have := HD.out; omega)
      have hsm : (m : Int) + (size k : Int) ≤ 9223372036854775807 := by have := HD.out; omega
      clear ek hat HR
      go_wp2_with fail
      refine cI.mono ?_
      rintro e w5 ⟨rfl, hb5⟩
      have HB5 : Hid (Below w.heap.size w w5) := below2 HBR.out hb5
      have HN5 : Hid (w5.heap[w.heap.size]? = some (.cells #[.int .u8 h.k, .int .u8 h.o, .int .u8 h.t, .int .i64 h.n, .int .u8 h.f, .string h.x, .slice (some ⟨b, o, none⟩) ks.length c, .int .i64 h.p] 55 (0, 0))) := (hb5.block _ (Array.getElem?_eq_some_iff.1 HNR.out).1).trans HNR.out
      clear cI hb5 z0 z1 z2 z3 z4 z5 z6 z7 x6
      go_wp2_with fail
      exact ⟨⟨i + 1, m + size k, hlt, rfl, by congr 1, HB5, HN5, ⟨by have := HD.out.1; omega, HD.out.2⟩⟩, by simp only [intOf]; omega⟩
    · obtain rfl : i = ks.length := by omega
      have hnot : ¬ (ks.length : Int) < (ks.length : Int) := by omega
      have HZ : Hid (FB = m) := by show _ = _; rw [HR.out.1, List.drop_length]; simp [sizes]
      clear HR
      go_wp2_with fail
      go_ret
      exact ⟨by rw [HZ.out]; rfl, HBR.out⟩
end Go.Proofs.YtighocmdlifheaaGreatDoor

/-
  The document's Level, Depth, CheckExpr of any expression.
-/
namespace Go.Proofs.YtighocmdlifheaaGreatDoor
open Go.RowKit
set_option linter.unusedVariables false
set_option maxRecDepth 100000 in
theorem rlevelX_any (m : Nd) (w : World) (hl : Lies w m) : Calls Tryz.prog 32 #[.agg m.vals] w fun e w' => e = .returned (.int .i64 (if formB m = true then lvl m.h else 0)) ∧ Below w.heap.size w w' := by
  have c := formed_any m (w.alloc (.cells m.vals 55)) (hl.on (below_new w _))
  have c2 : formB m = true → ∀ v, Calls Tryz.prog 85 #[.agg (hdA m.h m.a m.ks.length m.c)] v fun e w' => e = .returned (.int .i64 (lvl m.h)) ∧ Below v.heap.size v w' := fun f v => rlevel_any m.h m.a m.ks.length m.c (ok_formX f) v
  clear hl
  obtain ⟨B, eB⟩ : ∃ B, formB m = B := ⟨_, rfl⟩
  rw [eB] at c c2 ⊢
  clear eB
  simp only [Nd.vals, hdA] at c c2 ⊢
  cases B with
  | true =>
    replace c2 := c2 rfl
    rw [if_pos rfl]
    go_enter Tryz.func32, Tryz.ntmps32
    go_wp2_with fail
    refine c.mono ?_
    rintro e w1 ⟨rfl, hb⟩
    obtain ⟨q0, q1, q2, q3, q4, q5, q6, q7⟩ := box8 hb
    have HB1 : Hid (Below w.heap.size w w1) := (below_new _ _).trans (hb.mono (by simp))
    clear hb c
    go_wp2_with (go_at_call 85; refine (c2 _).mono ?_; rintro e w2 ⟨rfl, hb2⟩)
    go_ret
    exact ⟨rfl, HB1.out.trans (hb2.mono HB1.out.size)⟩
  | false =>
    rw [if_neg (by decide)]
    go_enter Tryz.func32, Tryz.ntmps32
    go_wp2_with fail
    refine c.mono ?_
    rintro e w1 ⟨rfl, hb⟩
    have HB1 : Hid (Below w.heap.size w w1) := (below_new _ _).trans (hb.mono (by simp))
    clear hb c
    go_wp2_with fail
    go_ret
    exact ⟨rfl, HB1.out⟩
set_option maxRecDepth 100000 in
theorem rdepthX_any (m : Nd) (w : World) (hl : Lies w m) (hz : size m ≤ 1000000000000) : Calls Tryz.prog 33 #[.agg m.vals] w fun e w' => e = .returned (.int .i64 (if formB m = true then (dep m : Int) else 0)) ∧ Below w.heap.size w w' := by
  have c := formed_any m (w.alloc (.cells m.vals 55)) (hl.on (below_new w _))
  have c2 := fun (f : formB m = true) v (hv : Below w.heap.size w v) => rdepth_any m v (hl.on hv) hz f
  clear hl hz
  obtain ⟨B, eB⟩ : ∃ B, formB m = B := ⟨_, rfl⟩
  rw [eB] at c c2 ⊢
  clear eB
  simp only [Nd.vals, hdA] at c c2 ⊢
  cases B with
  | true =>
    replace c2 := c2 rfl
    rw [if_pos rfl]
    go_enter Tryz.func33, Tryz.ntmps33
    go_wp2_with fail
    refine c.mono ?_
    rintro e w1 ⟨rfl, hb⟩
    obtain ⟨q0, q1, q2, q3, q4, q5, q6, q7⟩ := box8 hb
    have HB1 : Hid (Below w.heap.size w w1) := (below_new _ _).trans (hb.mono (by simp))
    clear hb c
    go_wp2_with (go_at_call 84; refine (c2 _ HB1.out).mono ?_; rintro e w2 ⟨rfl, hb2⟩)
    go_ret
    exact ⟨rfl, HB1.out.trans (hb2.mono HB1.out.size)⟩
  | false =>
    rw [if_neg (by decide)]
    go_enter Tryz.func33, Tryz.ntmps33
    go_wp2_with fail
    refine c.mono ?_
    rintro e w1 ⟨rfl, hb⟩
    have HB1 : Hid (Below w.heap.size w w1) := (below_new _ _).trans (hb.mono (by simp))
    clear hb c
    go_wp2_with fail
    go_ret
    exact ⟨rfl, HB1.out⟩
set_option maxRecDepth 100000 in
theorem rcheckX_any (m : Nd) (w : World) (hl : Lies w m) (hz : size m ≤ 1000000000000) : Calls Tryz.prog 31 #[.agg m.vals] w fun e w' => e = .returned (.int .i64 (cE m)) ∧ Below w.heap.size w w' := by
  have c := formed_any m (w.alloc (.cells m.vals 55)) (hl.on (below_new w _))
  have c2 := fun (f : formB m = true) v (hv : Below w.heap.size w v) => rdepth_any m v (hl.on hv) hz f
  clear hl hz
  unfold cE
  obtain ⟨B, eB⟩ : ∃ B, formB m = B := ⟨_, rfl⟩
  rw [eB] at c c2 ⊢
  clear eB
  obtain ⟨D, eD⟩ : ∃ D, dep m = D := ⟨_, rfl⟩
  rw [eD] at c2 ⊢
  clear eD
  simp only [Nd.vals, hdA] at c c2 ⊢
  cases B with
  | true =>
    replace c2 := c2 rfl
    rw [if_pos rfl]
    by_cases hD : D ≤ 24
    · rw [if_pos hD]
      have hD' : ¬ (24 : Int) < (D : Int) := by omega
      clear hD
      go_enter Tryz.func31, Tryz.ntmps31
      go_wp2_with fail
      refine c.mono ?_
      rintro e w1 ⟨rfl, hb⟩
      obtain ⟨q0, q1, q2, q3, q4, q5, q6, q7⟩ := box8 hb
      have HB1 : Hid (Below w.heap.size w w1) := (below_new _ _).trans (hb.mono (by simp))
      clear hb c
      go_wp2_with fail
      refine (c2 _ HB1.out).mono ?_
      rintro e w2 ⟨rfl, hb2⟩
      have HB2 : Hid (Below w.heap.size w w2) := HB1.out.trans (hb2.mono HB1.out.size)
      clear hb2 c2 q0 q1 q2 q3 q4 q5 q6 q7
      go_wp2_with fail
      go_ret
      exact ⟨rfl, HB2.out⟩
    · rw [if_neg hD]
      have hD' : (24 : Int) < (D : Int) := by omega
      clear hD
      go_enter Tryz.func31, Tryz.ntmps31
      go_wp2_with fail
      refine c.mono ?_
      rintro e w1 ⟨rfl, hb⟩
      obtain ⟨q0, q1, q2, q3, q4, q5, q6, q7⟩ := box8 hb
      have HB1 : Hid (Below w.heap.size w w1) := (below_new _ _).trans (hb.mono (by simp))
      clear hb c
      go_wp2_with fail
      refine (c2 _ HB1.out).mono ?_
      rintro e w2 ⟨rfl, hb2⟩
      have HB2 : Hid (Below w.heap.size w w2) := HB1.out.trans (hb2.mono HB1.out.size)
      clear hb2 c2 q0 q1 q2 q3 q4 q5 q6 q7
      go_wp2_with fail
      go_ret
      exact ⟨rfl, HB2.out⟩
  | false =>
    rw [if_neg (by decide)]
    go_enter Tryz.func31, Tryz.ntmps31
    go_wp2_with fail
    refine c.mono ?_
    rintro e w1 ⟨rfl, hb⟩
    have HB1 : Hid (Below w.heap.size w w1) := (below_new _ _).trans (hb.mono (by simp))
    clear hb c
    go_wp2_with fail
    go_ret
    exact ⟨rfl, HB1.out⟩
end Go.Proofs.YtighocmdlifheaaGreatDoor

/-
  SameExpr: are two expressions the same, but for places?
-/
namespace Go.Proofs.YtighocmdlifheaaGreatDoor
open Go.RowKit
theorem alike_eq {g h : Hd} (e : alike g h = true) : selfA h = selfA g := by
  unfold alike at e
  simp only [Bool.and_eq_true, decide_eq_true_eq] at e
  obtain ⟨e0, e1, e2, e3, e4, e5⟩ := e
  unfold selfA
  rw [← e0, ← e1, ← e2, ← e3, ← e4, ← e5]
theorem enter21 (args : Array Value) (v : World) : Sem.run Tryz.prog (callFunc 24 args) v = .ok (.enter 24 args) v := by kernel_rfl
set_option maxRecDepth 100000 in
set_option maxHeartbeats 4000000 in
theorem eqf_any (js ks : List Nd) (a b : Option Addr) (c d : Nat) (hj : js.length ≤ c) (hjm : c ≤ 9223372036854775807)
    (ih : ∀ j ∈ js, ∀ (k : Nd) (w : World), Lies w j → Lies w k → Calls Tryz.prog 24 #[.agg j.vals, .agg k.vals] w fun e w' => e = .returned (.bool (sameB j k)) ∧ Below w.heap.size w w')
    (g h : Hd) (w : World) (hl : Lies w (.mk g a c js)) (hk : Lies w (.mk h b d ks)) :
    Calls Tryz.prog 81 #[.slice a js.length c, .slice b ks.length d, .func (.func 24) #[] #[]] w fun e w' => e = .returned (.bool (decide (js.length = ks.length) && samesB js ks)) ∧ Below w.heap.size w w' := by
  by_cases hn : js.length = ks.length
  · rw [decide_eq_true hn, Bool.true_and]
    have hn' : ((js.length : Int) != (ks.length : Int)) = false := by simp; omega
    have hn2 : (js.length : Int) = (ks.length : Int) := by omega
    have HN : Hid (js.length = ks.length) := hn
    have HL := hl.hid
    have HK := hk.hid
    have HI : Hid (∀ j ∈ js, ∀ (k : Nd) (w : World), Lies w j → Lies w k → Calls Tryz.prog 24 #[.agg j.vals, .agg k.vals] w fun e w' => e = .returned (.bool (sameB j k)) ∧ Below w.heap.size w w') := ih
    obtain ⟨L, eL⟩ : ∃ L, ks.length = L := ⟨_, rfl⟩
    rw [eL] at hn hn' hn2 HN ⊢
    have HEL : Hid (ks.length = L) := eL
    have e1 : js.length = L := hn
    rw [e1] at hn' hn2 hj ⊢
    have HJL : Hid (js.length = L) := e1
    clear hl hk ih hn eL e1 HN hn2
    have hn' : ((L : Int) != (L : Int)) = false := by simp
    go_enter Tryz.func81, Tryz.ntmps81
    go_wp2_with fail
    go_loopw [7, 8, 9, 17] (fun _ _ _ t wr => ∃ i : Nat, i ≤ L ∧ t = .int .i64 i ∧ Below w.heap.size w wr ∧ Hid (samesB js ks = samesB (js.drop i) (ks.drop i))) (fun _ _ _ t _ => L - (intOf t).toNat)
    case atStart => exact ⟨0, by omega, rfl, Below.refl _ _, by show _ = _; simp⟩
    case round =>
      obtain ⟨i, hi, rfl, hbr, HR⟩ := hrel
      have HBR : Hid (Below w.heap.size w wr) := hbr
      clear hbr
      by_cases hlt : i < L
      · have hlt' : (i : Int) < (L : Int) := by omega
        have h1 : i < js.length := by rw [HJL.out]; exact hlt
        have h2 : i < ks.length := by rw [HEL.out]; exact hlt
        obtain ⟨b1, o1, e1, hat1⟩ := (HL.out.on HBR.out).kid i h1
        obtain ⟨b2, o2, e2, hat2⟩ := (HK.out.on HBR.out).kid i h2
        have e1' : a = some ⟨b1, o1, none⟩ := e1
        have e2' : b = some ⟨b2, o2, none⟩ := e2
        have cI := HI.out js[i] (nth_mem h1) ks[i]
        have HLj : Hid (Lies w js[i]) := HL.out.sub js[i] (nth_mem h1)
        have HLk : Hid (Lies w ks[i]) := HK.out.sub ks[i] (nth_mem h2)
        have HD : Hid (samesB js ks = (sameB js[i] ks[i] && samesB (js.drop (i + 1)) (ks.drop (i + 1)))) := by show _ = _; rw [HR.out, drop_nth h1, drop_nth h2]; rfl
        have hj1 : NdAt wr b1 (o1 + i * 8) js[i] := hat1
        have hk1 : NdAt wr b2 (o2 + i * 8) ks[i] := hat2
        clear hat1 hat2
        obtain ⟨j, ej⟩ : ∃ j, js[i] = j := ⟨_, rfl⟩
        obtain ⟨k, ek⟩ : ∃ k, ks[i] = k := ⟨_, rfl⟩
        rw [ej] at hj1 HD HLj cI
        rw [ek] at hk1 HD HLk cI
        clear e1 e2
        subst e1' e2'
        obtain ⟨y0, y1, y2, y3, y4, y5, y6, y7⟩ := hj1
        have hat2' : NdAt (wr.alloc (.cells #[.int .u8 j.h.k, .int .u8 j.h.o, .int .u8 j.h.t, .int .i64 j.h.n, .int .u8 j.h.f, .string j.h.x, .slice j.a j.ks.length j.c, .int .i64 j.h.p] 55)) b2 (o2 + i * 8) k := hk1.on (below_new _ _)
        obtain ⟨z0, z1, z2, z3, z4, z5, z6, z7⟩ := hat2'
        have hb2 := hk1.lt
        obtain ⟨B, eB⟩ : ∃ B, sameB j k = B := ⟨_, rfl⟩
        rw [eB] at HD cI
        have hmx : (i : Int) + 1 ≤ 9223372036854775807 := by omega
        have cI : ∀ v, Lies v j → Lies v k → Calls Tryz.prog 24 #[.agg #[.int .u8 j.h.k, .int .u8 j.h.o, .int .u8 j.h.t, .int .i64 j.h.n, .int .u8 j.h.f, .string j.h.x, .slice j.a j.ks.length j.c, .int .i64 j.h.p], .agg #[.int .u8 k.h.k, .int .u8 k.h.o, .int .u8 k.h.t, .int .i64 k.h.n, .int .u8 k.h.f, .string k.h.x, .slice k.a k.ks.length k.c, .int .i64 k.h.p]] v fun e w' => e = .returned (.bool B) ∧ Below v.heap.size v w' := cI
        have hj21 := fun args v => enter21 args v
        clear eB ej ek HR hk1 h1 h2
        cases B with
        | true =>
          go_wp2_with (with_reducible refine (cI _ (HLj.out.on (below2 HBR.out (below_two _ _ _))) (HLk.out.on (below2 HBR.out (below_two _ _ _)))).mono ?_; rintro e w5 ⟨rfl, hb5⟩)
          have HB5 : Hid (Below w.heap.size w w5) := below2 (below2 HBR.out (below_two _ _ _)) hb5
          exact ⟨⟨i + 1, hlt, rfl, HB5.out, by show _ = _; rw [HD.out]; rfl⟩, by simp only [intOf]; omega⟩
        | false =>
          go_wp2_with (with_reducible refine (cI _ (HLj.out.on (below2 HBR.out (below_two _ _ _))) (HLk.out.on (below2 HBR.out (below_two _ _ _)))).mono ?_; rintro e w5 ⟨rfl, hb5⟩)
          go_ret
          exact ⟨by rw [HD.out]; rfl, below2 (below2 HBR.out (below_two _ _ _)) hb5⟩
      · obtain rfl : i = L := by omega
        have hnot : ¬ (i : Int) < (i : Int) := by omega
        have HE : Hid (samesB js ks = true) := by show _ = _; rw [HR.out, ← HJL.out, List.drop_length]; rfl
        clear HR
        go_wp2_with fail
        go_ret
        exact ⟨by rw [HE.out]; rfl, HBR.out⟩
  · rw [decide_eq_false hn, Bool.false_and]
    have hn' : ((js.length : Int) != (ks.length : Int)) = true := by simp; omega
    clear hl hk ih
    go_enter Tryz.func81, Tryz.ntmps81
    go_wp2_with fail
    go_ret
    exact ⟨rfl, Below.refl _ _⟩
end Go.Proofs.YtighocmdlifheaaGreatDoor

/-
  SameExpr, of any two expressions.
-/
namespace Go.Proofs.YtighocmdlifheaaGreatDoor
open Go.RowKit
theorem below2of (w : World) (m k : Nd) : NdH ((w.alloc (.cells m.vals 55)).alloc (.cells k.vals 55)) w.heap.size m ∧ NdH ((w.alloc (.cells m.vals 55)).alloc (.cells k.vals 55)) (w.heap.size + 1) k := by
  refine ⟨heap_old (heap_new _ _) (by rw [size_alloc]; omega), ?_⟩
  unfold NdH
  rw [← size_alloc w (.cells m.vals 55)]; exact heap_new _ _
set_option maxRecDepth 100000 in
set_option maxHeartbeats 4000000 in
theorem same_any : ∀ (m k : Nd) (w : World), Lies w m → Lies w k → Calls Tryz.prog 24 #[.agg m.vals, .agg k.vals] w fun e w' => e = .returned (.bool (sameB m k)) ∧ Below w.heap.size w w' := by
  refine Nd.ind fun g a c js ih k w hl hk => ?_
  have cE : ∀ v, Below w.heap.size w v → Calls Tryz.prog 81 #[.slice a js.length c, .slice k.a k.ks.length k.c, .func (.func 24) #[] #[]] v fun e w' => e = .returned (.bool (decide (js.length = k.ks.length) && samesB js k.ks)) ∧ Below v.heap.size v w' := fun v hv => by
    obtain ⟨h, b, d, ks⟩ := k
    exact eqf_any js ks a b c d hl.cap hl.max (fun j hj k w h1 h2 => ih j hj k w h1 h2) g h v (hl.on hv) (hk.on hv)
  obtain ⟨m, em⟩ : ∃ m, Nd.mk g a c js = m := ⟨_, rfl⟩
  have HS : Hid (sameB m k = (alike m.h k.h && (decide (m.ks.length = k.ks.length) && samesB m.ks k.ks))) := by show _ = _; rw [← em]; rfl
  have cE : ∀ v, Below w.heap.size w v → Calls Tryz.prog 81 #[.slice m.a m.ks.length m.c, .slice k.a k.ks.length k.c, .func (.func 24) #[] #[]] v fun e w' => e = .returned (.bool (decide (m.ks.length = k.ks.length) && samesB m.ks k.ks)) ∧ Below v.heap.size v w' := by rw [← em]; exact cE
  rw [em]
  clear em ih hl hk
  have cS : ∀ v, Calls Tryz.prog 80 #[.agg #[.int .u8 m.h.k, .int .u8 m.h.o, .int .u8 m.h.t, .int .i64 m.h.n, .int .u8 m.h.f, .string m.h.x, .slice m.a m.ks.length m.c, .int .i64 m.h.p]] v fun e w' => e = .returned (.agg #[.int .u8 m.h.k, .int .u8 m.h.o, .int .u8 m.h.t, .int .i64 m.h.n, .int .u8 m.h.f, .string m.h.x]) ∧ Below v.heap.size v w' := fun v => selfOf_any m.h m.a m.ks.length m.c v
  have cT : ∀ v, Calls Tryz.prog 80 #[.agg #[.int .u8 k.h.k, .int .u8 k.h.o, .int .u8 k.h.t, .int .i64 k.h.n, .int .u8 k.h.f, .string k.h.x, .slice k.a k.ks.length k.c, .int .i64 k.h.p]] v fun e w' => e = .returned (.agg #[.int .u8 k.h.k, .int .u8 k.h.o, .int .u8 k.h.t, .int .i64 k.h.n, .int .u8 k.h.f, .string k.h.x]) ∧ Below v.heap.size v w' := fun v => selfOf_any k.h k.a k.ks.length k.c v
  obtain ⟨B, eB⟩ : ∃ B, (decide (m.ks.length = k.ks.length) && samesB m.ks k.ks) = B := ⟨_, rfl⟩
  simp only [eB] at cE
  rw [eB] at HS
  obtain ⟨A, eA⟩ : ∃ A, alike m.h k.h = A := ⟨_, rfl⟩
  have HA : Hid (alike m.h k.h = A) := eA
  rw [eA] at HS
  clear eB eA
  obtain ⟨X, eX⟩ : ∃ X, (w.alloc (.cells m.vals 55)).alloc (.cells k.vals 55) = X := ⟨_, rfl⟩
  have HKX : Hid (KK X w.heap.size (w.heap.size + 1) m k) := by rw [← eX]; exact ⟨(below2of w m k).1, (below2of w m k).2⟩
  have HBX : Hid (Below w.heap.size w X) := by rw [← eX]; exact below_two _ _ _
  unfold Nd.vals hdA at eX
  show Calls Tryz.prog 24 #[.agg #[.int .u8 m.h.k, .int .u8 m.h.o, .int .u8 m.h.t, .int .i64 m.h.n, .int .u8 m.h.f, .string m.h.x, .slice m.a m.ks.length m.c, .int .i64 m.h.p], .agg #[.int .u8 k.h.k, .int .u8 k.h.o, .int .u8 k.h.t, .int .i64 k.h.n, .int .u8 k.h.f, .string k.h.x, .slice k.a k.ks.length k.c, .int .i64 k.h.p]] w _
  go_enter Tryz.func24, Tryz.ntmps24
  go_wp2_with fail
  clear eX
  cases A with
  | true =>
    have hs := alike_eq HA.out
    unfold selfA at hs
    simp only [hs] at cT
    clear hs
    refine wp_region_held_drew (S := (fun v => v.cell? ⟨w.heap.size, 0, none⟩ = some (.int .u8 m.h.k) ∧ v.cell? ⟨w.heap.size, 1, none⟩ = some (.int .u8 m.h.o) ∧ v.cell? ⟨w.heap.size, 2, none⟩ = some (.int .u8 m.h.t) ∧ v.cell? ⟨w.heap.size, 3, none⟩ = some (.int .i64 m.h.n) ∧ v.cell? ⟨w.heap.size, 4, none⟩ = some (.int .u8 m.h.f) ∧ v.cell? ⟨w.heap.size, 5, none⟩ = some (.string m.h.x) ∧ v.cell? ⟨w.heap.size, 6, none⟩ = some (.slice m.a m.ks.length m.c) ∧ v.cell? ⟨w.heap.size, 7, none⟩ = some (.int .i64 m.h.p) ∧ v.cell? ⟨(w.heap.size + 1), 0, none⟩ = some (.int .u8 k.h.k) ∧ v.cell? ⟨(w.heap.size + 1), 1, none⟩ = some (.int .u8 k.h.o) ∧ v.cell? ⟨(w.heap.size + 1), 2, none⟩ = some (.int .u8 k.h.t) ∧ v.cell? ⟨(w.heap.size + 1), 3, none⟩ = some (.int .i64 k.h.n) ∧ v.cell? ⟨(w.heap.size + 1), 4, none⟩ = some (.int .u8 k.h.f) ∧ v.cell? ⟨(w.heap.size + 1), 5, none⟩ = some (.string k.h.x) ∧ v.cell? ⟨(w.heap.size + 1), 6, none⟩ = some (.slice k.a k.ks.length k.c) ∧ v.cell? ⟨(w.heap.size + 1), 7, none⟩ = some (.int .i64 k.h.p) ∧ GB X v)) (by kernel_rfl) (HKX.out.keep (by (repeat (first | with_reducible assumption | with_reducible exact GB.refl _ | with_reducible apply GB.drew | with_reducible apply GB.alloc | with_reducible refine GB.call (by with_reducible assumption) ?_)))) (fun hHeld => ?_)
    refine wpAnyH_take (i := 0) (v := ?_) rfl (by kernel_rfl) (by kernel_rfl) (by kernel_rfl) (fun _ _ _ h => h) (Or.inl ⟨by rfl, ?_⟩) (by assumption) ?_
    rotate_left
    · (intro w hSw; (try dsimp only at hSw); go_simp; try (with_reducible rfl))
    try simp [Act.put]
    refine wpAnyH_take (i := 2) (v := ?_) rfl (by kernel_rfl) (by kernel_rfl) (by kernel_rfl) (fun _ _ _ h => h) (Or.inl ⟨by rfl, ?_⟩) (by assumption) ?_
    rotate_left
    · (intro w hSw; (try dsimp only at hSw); go_simp; try (with_reducible rfl))
    try simp [Act.put]
    refine wpAnyH_ready (rs := [1]) (by kernel_rfl) (by simp) ?_
    refine AllReadyH.cons rfl (fun K hK => ?_) AllReadyH.nil
    go_simp
    refine (cS _).mono ?_
    rintro e w2 ⟨rfl, hb2⟩
    have hg2 : GB X w2 := GB.call hb2 (by (repeat (first | with_reducible assumption | with_reducible exact GB.refl _ | with_reducible apply GB.drew | with_reducible apply GB.alloc | with_reducible refine GB.call (by with_reducible assumption) ?_)))
    have HG2 : Hid (GB X w2) := hg2
    go_simp
    refine hK.out _ _ ?_ (fun hHeld => ?_)
    · exact HKX.out.keep hg2
    clear hK K
    try simp [Act.put]
    refine wpAnyH_ready (rs := [3]) (by kernel_rfl) (by simp) ?_
    refine AllReadyH.cons rfl (fun K hK => ?_) AllReadyH.nil
    go_simp
    refine (cT _).mono ?_
    rintro e w3 ⟨rfl, hb3⟩
    have hg3 : GB X w3 := GB.call hb3 HG2.out
    have HG3 : Hid (GB X w3) := hg3
    go_simp
    refine hK.out _ _ ?_ (fun hHeld => ?_)
    · exact HKX.out.keep hg3
    clear hK K
    try simp [Act.put]
    refine wpAnyH_take (i := 4) (v := ?_) rfl (by kernel_rfl) (by kernel_rfl) (by kernel_rfl) (fun _ _ _ h => h) (Or.inl ⟨by rfl, ?_⟩) (by assumption) ?_
    rotate_left
    · (intro w hSw; (try dsimp only at hSw); go_simp; try (with_reducible rfl))
    try simp [Act.put]
    refine wpAnyH_take (i := 5) (v := ?_) rfl (by kernel_rfl) (by kernel_rfl) (by kernel_rfl) (fun _ _ _ h => h) (Or.inl ⟨by rfl, ?_⟩) (by assumption) ?_
    rotate_left
    · (intro w hSw; (try dsimp only at hSw); go_simp; try (with_reducible rfl))
    try simp [Act.put]
    refine wpAnyH_take (i := 6) (v := ?_) rfl (by kernel_rfl) (by kernel_rfl) (by kernel_rfl) (fun _ _ _ h => h) (Or.inl ⟨by rfl, ?_⟩) (by assumption) ?_
    rotate_left
    · (intro w hSw; (try dsimp only at hSw); go_simp; try (with_reducible rfl))
    try simp [Act.put]
    refine wpAnyH_take (i := 7) (v := ?_) rfl (by kernel_rfl) (by kernel_rfl) (by kernel_rfl) (fun _ _ _ h => h) (Or.inl ⟨by rfl, ?_⟩) (by assumption) ?_
    rotate_left
    · (intro w hSw; (try dsimp only at hSw); go_simp; try (with_reducible rfl))
    try simp [Act.put]
    refine wpAnyH_take (i := 8) (v := ?_) rfl (by kernel_rfl) (by kernel_rfl) (by kernel_rfl) (fun _ _ _ h => h) (Or.inl ⟨by rfl, ?_⟩) (by assumption) ?_
    rotate_left
    · (intro w hSw; (try dsimp only at hSw); go_simp; try (with_reducible rfl))
    try simp [Act.put]
    refine wpAnyH_take (i := 9) (v := ?_) rfl (by kernel_rfl) (by kernel_rfl) (by kernel_rfl) (fun _ _ _ h => h) (Or.inl ⟨by rfl, ?_⟩) (by assumption) ?_
    rotate_left
    · (intro w hSw; (try dsimp only at hSw); go_simp; try (with_reducible rfl))
    try simp [Act.put]
    refine wpAnyH_ready (rs := [10]) (by kernel_rfl) (by simp) ?_
    refine AllReadyH.cons rfl (fun K hK => ?_) AllReadyH.nil
    go_simp
    refine (cE _ (below2 HBX.out HG3.out)).mono ?_
    rintro e w4 ⟨rfl, hb4⟩
    have hg4 : GB X w4 := GB.call hb4 HG3.out
    have HG4 : Hid (GB X w4) := hg4
    go_simp
    refine hK.out _ _ ?_ (fun hHeld => ?_)
    · exact HKX.out.keep hg4
    clear hK K
    try simp [Act.put]
    refine wpAnyH_take (i := 11) (v := ?_) rfl (by kernel_rfl) (by kernel_rfl) (by kernel_rfl) (fun _ _ _ h => h) (Or.inl ⟨by rfl, ?_⟩) (by assumption) ?_
    rotate_left
    · (intro w hSw; (try dsimp only at hSw); go_simp; try (with_reducible rfl))
    try simp [Act.put]
    refine wpAnyH_take (i := 12) (v := ?_) rfl (by kernel_rfl) (by kernel_rfl) (by kernel_rfl) (fun _ _ _ h => h) (Or.inl ⟨by rfl, ?_⟩) (by assumption) ?_
    rotate_left
    · (intro w hSw; (try dsimp only at hSw); go_simp; try (with_reducible rfl))
    try simp [Act.put]
    refine wpAnyH_done (by kernel_rfl) ?_ _
    have HV : Hid (Below w.heap.size w w4) := below2 HBX.out HG4.out
    clear hHeld hb2 hb3 hg2 hg3 hb4 hg4
    go_wp2_with fail
    go_ret
    exact ⟨by rw [HS.out]; cases B <;> rfl, HV.out⟩
  | false =>
    refine wp_region_held_drew (S := (fun v => v.cell? ⟨w.heap.size, 0, none⟩ = some (.int .u8 m.h.k) ∧ v.cell? ⟨w.heap.size, 1, none⟩ = some (.int .u8 m.h.o) ∧ v.cell? ⟨w.heap.size, 2, none⟩ = some (.int .u8 m.h.t) ∧ v.cell? ⟨w.heap.size, 3, none⟩ = some (.int .i64 m.h.n) ∧ v.cell? ⟨w.heap.size, 4, none⟩ = some (.int .u8 m.h.f) ∧ v.cell? ⟨w.heap.size, 5, none⟩ = some (.string m.h.x) ∧ v.cell? ⟨w.heap.size, 6, none⟩ = some (.slice m.a m.ks.length m.c) ∧ v.cell? ⟨w.heap.size, 7, none⟩ = some (.int .i64 m.h.p) ∧ v.cell? ⟨(w.heap.size + 1), 0, none⟩ = some (.int .u8 k.h.k) ∧ v.cell? ⟨(w.heap.size + 1), 1, none⟩ = some (.int .u8 k.h.o) ∧ v.cell? ⟨(w.heap.size + 1), 2, none⟩ = some (.int .u8 k.h.t) ∧ v.cell? ⟨(w.heap.size + 1), 3, none⟩ = some (.int .i64 k.h.n) ∧ v.cell? ⟨(w.heap.size + 1), 4, none⟩ = some (.int .u8 k.h.f) ∧ v.cell? ⟨(w.heap.size + 1), 5, none⟩ = some (.string k.h.x) ∧ v.cell? ⟨(w.heap.size + 1), 6, none⟩ = some (.slice k.a k.ks.length k.c) ∧ v.cell? ⟨(w.heap.size + 1), 7, none⟩ = some (.int .i64 k.h.p) ∧ GB X v)) (by kernel_rfl) (HKX.out.keep (by (repeat (first | with_reducible assumption | with_reducible exact GB.refl _ | with_reducible apply GB.drew | with_reducible apply GB.alloc | with_reducible refine GB.call (by with_reducible assumption) ?_)))) (fun hHeld => ?_)
    refine wpAnyH_take (i := 0) (v := ?_) rfl (by kernel_rfl) (by kernel_rfl) (by kernel_rfl) (fun _ _ _ h => h) (Or.inl ⟨by rfl, ?_⟩) (by assumption) ?_
    rotate_left
    · (intro w hSw; (try dsimp only at hSw); go_simp; try (with_reducible rfl))
    try simp [Act.put]
    refine wpAnyH_take (i := 2) (v := ?_) rfl (by kernel_rfl) (by kernel_rfl) (by kernel_rfl) (fun _ _ _ h => h) (Or.inl ⟨by rfl, ?_⟩) (by assumption) ?_
    rotate_left
    · (intro w hSw; (try dsimp only at hSw); go_simp; try (with_reducible rfl))
    try simp [Act.put]
    refine wpAnyH_ready (rs := [1]) (by kernel_rfl) (by simp) ?_
    refine AllReadyH.cons rfl (fun K hK => ?_) AllReadyH.nil
    go_simp
    refine (cS _).mono ?_
    rintro e w2 ⟨rfl, hb2⟩
    have hg2 : GB X w2 := GB.call hb2 (by (repeat (first | with_reducible assumption | with_reducible exact GB.refl _ | with_reducible apply GB.drew | with_reducible apply GB.alloc | with_reducible refine GB.call (by with_reducible assumption) ?_)))
    have HG2 : Hid (GB X w2) := hg2
    go_simp
    refine hK.out _ _ ?_ (fun hHeld => ?_)
    · exact HKX.out.keep hg2
    clear hK K
    try simp [Act.put]
    refine wpAnyH_ready (rs := [3]) (by kernel_rfl) (by simp) ?_
    refine AllReadyH.cons rfl (fun K hK => ?_) AllReadyH.nil
    go_simp
    refine (cT _).mono ?_
    rintro e w3 ⟨rfl, hb3⟩
    have hg3 : GB X w3 := GB.call hb3 HG2.out
    have HG3 : Hid (GB X w3) := hg3
    go_simp
    refine hK.out _ _ ?_ (fun hHeld => ?_)
    · exact HKX.out.keep hg3
    clear hK K
    try simp [Act.put]
    refine wpAnyH_take (i := 4) (v := .bool false) rfl (by kernel_rfl) (by kernel_rfl) (by kernel_rfl) (fun _ _ _ h => h) (Or.inl ⟨by rfl, ?_⟩) (by assumption) ?_
    · (intro w hSw; (try dsimp only at hSw); go_simp; exact neq6 HA.out)
    try simp [Act.put]
    refine wpAnyH_take (i := 5) (v := ?_) rfl (by kernel_rfl) (by kernel_rfl) (by kernel_rfl) (fun _ _ _ h => h) (Or.inl ⟨by rfl, ?_⟩) (by assumption) ?_
    rotate_left
    · (intro w hSw; (try dsimp only at hSw); go_simp; try (with_reducible rfl))
    try simp [Act.put]
    refine wpAnyH_take (i := 6) (v := ?_) rfl (by kernel_rfl) (by kernel_rfl) (by kernel_rfl) (fun _ _ _ h => h) (Or.inr ⟨by rfl, ?_⟩) (by assumption) ?_
    rotate_left
    · rfl
    try simp [Act.put]
    refine wpAnyH_take (i := 7) (v := ?_) rfl (by kernel_rfl) (by kernel_rfl) (by kernel_rfl) (fun _ _ _ h => h) (Or.inr ⟨by rfl, ?_⟩) (by assumption) ?_
    rotate_left
    · rfl
    try simp [Act.put]
    refine wpAnyH_take (i := 8) (v := ?_) rfl (by kernel_rfl) (by kernel_rfl) (by kernel_rfl) (fun _ _ _ h => h) (Or.inr ⟨by rfl, ?_⟩) (by assumption) ?_
    rotate_left
    · rfl
    try simp [Act.put]
    refine wpAnyH_take (i := 9) (v := ?_) rfl (by kernel_rfl) (by kernel_rfl) (by kernel_rfl) (fun _ _ _ h => h) (Or.inr ⟨by rfl, ?_⟩) (by assumption) ?_
    rotate_left
    · rfl
    try simp [Act.put]
    refine wpAnyH_take (i := 10) (v := ?_) rfl (by kernel_rfl) (by kernel_rfl) (by kernel_rfl) (fun _ _ _ h => h) (Or.inr ⟨by rfl, ?_⟩) (by assumption) ?_
    rotate_left
    · rfl
    try simp [Act.put]
    refine wpAnyH_take (i := 11) (v := ?_) rfl (by kernel_rfl) (by kernel_rfl) (by kernel_rfl) (fun _ _ _ h => h) (Or.inl ⟨by rfl, ?_⟩) (by assumption) ?_
    rotate_left
    · (intro w hSw; (try dsimp only at hSw); go_simp; try (with_reducible rfl))
    try simp [Act.put]
    refine wpAnyH_take (i := 12) (v := ?_) rfl (by kernel_rfl) (by kernel_rfl) (by kernel_rfl) (fun _ _ _ h => h) (Or.inl ⟨by rfl, ?_⟩) (by assumption) ?_
    rotate_left
    · (intro w hSw; (try dsimp only at hSw); go_simp; try (with_reducible rfl))
    try simp [Act.put]
    refine wpAnyH_done (by kernel_rfl) ?_ _
    have HV : Hid (Below w.heap.size w w3) := below2 HBX.out HG3.out
    clear hHeld hb2 hb3 hg2 hg3
    go_wp2_with fail
    go_ret
    exact ⟨by rw [HS.out]; rfl, HV.out⟩
end Go.Proofs.YtighocmdlifheaaGreatDoor
