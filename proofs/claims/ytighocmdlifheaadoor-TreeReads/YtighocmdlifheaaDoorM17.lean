import Derived.Test.YtighocmdlifheaaDoorM6
import Derived.Test.YtighocmdlifheaaDoorM12
import Derived.Test.YtighocmdlifheaaDoorM13
import Derived.Test.YtighocmdlifheaaDoorM14
import Derived.Test.YtighocmdlifheaaDoorM16
/-
  WeighNode, farExpr: how much is handed in.
-/
namespace Go.Proofs.YtighocmdlifheaaDoor
open Go.RowKit
mutual
/-- How many nodes and bytes of names. -/
def wt : Nd → Nat
  | .mk h _ _ ks => 1 + h.x.size + wts ks
def wts : List Nd → Nat
  | [] => 0
  | k :: ks => wt k + wts ks
end
theorem size_wt : ∀ m, size m ≤ wt m := by
  refine Nd.ind fun h a c ks ih => ?_
  have : ∀ l : List Nd, (∀ k ∈ l, size k ≤ wt k) → sizes l ≤ wts l := by
    intro l
    induction l with
    | nil => intro _; exact Nat.le_refl _
    | cons k l ihl => intro hl; simp only [sizes, wts]; have h1 := hl k (by simp); have h2 := ihl fun x hx => hl x (by simp [hx]); omega
  simp only [size, wt]
  have := this ks ih
  omega
/-- What WeighNode hands back: where it is not too much, it is all. -/
def Wgh (m : Nd) (n : Int) (r : Int) : Prop := n ≤ r ∧ r ≤ 4611686018427387904 ∧ (r ≤ 1048576 → r = n + wt m)
set_option maxRecDepth 100000 in
set_option maxHeartbeats 4000000 in
theorem weigh_any : ∀ (m : Nd) (w : World) (n d : Int), Lies w m → 0 ≤ n → n ≤ 1048577 → 0 ≤ d → d ≤ 60001 → Calls Tryd.prog 29 #[.agg m.vals, .int .i64 n, .int .i64 d] w fun e w' => (∃ r, e = .returned (.int .i64 r) ∧ Wgh m n r) ∧ Below w.heap.size w w' := by
  refine Nd.ind fun h a c ks ih w n d hl h1 h2 h3 h4 => ?_
  have HI : Hid (∀ k ∈ ks, ∀ (w : World) (n d : Int), Lies w k → 0 ≤ n → n ≤ 1048577 → 0 ≤ d → d ≤ 60001 → Calls Tryd.prog 29 #[.agg k.vals, .int .i64 n, .int .i64 d] w fun e w' => (∃ r, e = .returned (.int .i64 r) ∧ Wgh k n r) ∧ Below w.heap.size w w') := ih
  have HL := hl.hid
  have hx := hl.rg.x1
  simp only [Nd.h] at hx
  show Calls Tryd.prog 29 #[.agg #[.int .u8 h.k, .int .u8 h.o, .int .u8 h.t, .int .i64 h.n, .int .u8 h.f, .string h.x, .slice a ks.length c, .int .i64 h.p], .int .i64 n, .int .i64 d] w _
  have HD : Hid (0 ≤ d ∧ d ≤ 60001 ∧ 0 ≤ n ∧ n ≤ 1048577 ∧ (h.x.size : Int) ≤ 140737488355328) := ⟨h3, h4, h1, h2, by omega⟩
  have g1 : -9223372036854775808 ≤ n + 1 := by omega
  have g2 : n + 1 ≤ 9223372036854775807 := by omega
  have g3 : -9223372036854775808 ≤ n + 1 + (h.x.size : Int) := by omega
  have g4 : n + 1 + (h.x.size : Int) ≤ 9223372036854775807 := by omega
  have HN0 : Hid (NdH (w.alloc (.cells #[.int .u8 h.k, .int .u8 h.o, .int .u8 h.t, .int .i64 h.n, .int .u8 h.f, .string h.x, .slice a ks.length c, .int .i64 h.p] 28)) w.heap.size (.mk h a c ks)) := heap_new w _
  have HW : Hid ((wt (.mk h a c ks) : Int) = 1 + h.x.size + wts ks) := by show _ = _; simp only [wt]; omega
  clear ih hl hx h1 h2 h3 h4
  by_cases hd : d > 60000
  · go_enter Tryd.func29, Tryd.ntmps29
    go_wp2_with fail
    go_ret
    exact ⟨⟨_, rfl, by have := HD.out; omega, by decide, fun hh => absurd hh (by decide)⟩, below_new _ _⟩
  · have g5 : d + 1 ≤ 9223372036854775807 := by have := HD.out; omega
    have g6 : -9223372036854775808 ≤ d + 1 := by have := HD.out; omega
    go_enter Tryd.func29, Tryd.ntmps29
    go_wp2_with fail
    go_loopw [1, 7] (fun v t wr => ∃ (i : Nat) (z : Int), i ≤ ks.length ∧ t = .int .i64 i ∧ v = .int .i64 z ∧ Below (w.alloc (.cells #[.int .u8 h.k, .int .u8 h.o, .int .u8 h.t, .int .i64 h.n, .int .u8 h.f, .string h.x, .slice a ks.length c, .int .i64 h.p] 28)).heap.size (w.alloc (.cells #[.int .u8 h.k, .int .u8 h.o, .int .u8 h.t, .int .i64 h.n, .int .u8 h.f, .string h.x, .slice a ks.length c, .int .i64 h.p] 28)) wr ∧ Hid (n ≤ z ∧ z ≤ 4611686018427387904 ∧ (z ≤ 1048576 → z + wts (ks.drop i) = n + wt (.mk h a c ks)))) (fun _ t _ => ks.length - (intOf t).toNat)
    case atStart => exact ⟨0, n + 1 + (h.x.size : Int), by omega, rfl, rfl, Below.refl _ _, by have := HD.out; omega, by have := HD.out; omega, fun _ => by rw [HW.out, List.drop_zero]; omega⟩
    case round =>
      obtain ⟨i, z, hi, rfl, rfl, hbr, HR⟩ := hrel
      have HBR : Hid (Below w.heap.size w wr) := below2 (below_new _ _) hbr
      have HBr : Hid (Below (w.alloc (.cells #[.int .u8 h.k, .int .u8 h.o, .int .u8 h.t, .int .i64 h.n, .int .u8 h.f, .string h.x, .slice a ks.length c, .int .i64 h.p] 28)).heap.size (w.alloc (.cells #[.int .u8 h.k, .int .u8 h.o, .int .u8 h.t, .int .i64 h.n, .int .u8 h.f, .string h.x, .slice a ks.length c, .int .i64 h.p] 28)) wr) := hbr
      have hN : NdH wr w.heap.size (.mk h a c ks) := HN0.out.on hbr
      have q6 : wr.cell? ⟨w.heap.size, 6, none⟩ = some (.slice a ks.length c) := cell_of hN 6
      clear hbr hN
      by_cases hlt : i < ks.length
      · have hlt' : (i : Int) < (ks.length : Int) := by omega
        by_cases hz : z ≤ 1048576
        · obtain ⟨b, o, e1, hat⟩ := (HL.out.on HBR.out).kid i hlt
          have e2 : a = some ⟨b, o, none⟩ := e1
          clear e1
          have hk1 : NdAt wr b (o + i * 8) ks[i] := hat
          clear hat
          have cI := HI.out ks[i] (nth_mem hlt) wr z (d + 1) ((HL.out.sub _ (nth_mem hlt)).on HBR.out) (by have h1 := HR.out; have h2 := HD.out; omega) (by omega) (by have := HD.out; omega) (by omega)
          have HW2 : Hid (wts (ks.drop i) = wt ks[i] + wts (ks.drop (i + 1))) := by show _ = _; rw [drop_nth hlt]; rfl
          have hmx : (i : Int) + 1 ≤ 9223372036854775807 := by
            have h1 := HL.out.max
            have h2 := HL.out.cap
            simp only [Nd.ks, Nd.c] at h1 h2
            omega
          obtain ⟨k, ek⟩ : ∃ k, ks[i] = k := ⟨_, rfl⟩
          rw [ek] at hk1 cI HW2
          subst e2
          obtain ⟨y0, y1, y2, y3, y4, y5, y6, y7⟩ := hk1
          have cI : Calls Tryd.prog 29 #[.agg #[.int .u8 k.h.k, .int .u8 k.h.o, .int .u8 k.h.t, .int .i64 k.h.n, .int .u8 k.h.f, .string k.h.x, .slice k.a k.ks.length k.c, .int .i64 k.h.p], .int .i64 z, .int .i64 (d + 1)] wr fun e w' => (∃ r, e = .returned (.int .i64 r) ∧ Wgh k z r) ∧ Below wr.heap.size wr w' := cI
          clear ek
          go_wp2_with fail
          refine cI.mono ?_
          rintro e w5 ⟨⟨r, rfl, hr1, hr2, hr3⟩, hb5⟩
          have HB5 : Hid (Below (w.alloc (.cells #[.int .u8 h.k, .int .u8 h.o, .int .u8 h.t, .int .i64 h.n, .int .u8 h.f, .string h.x, .slice (some ⟨b, o, none⟩) ks.length c, .int .i64 h.p] 28)).heap.size (w.alloc (.cells #[.int .u8 h.k, .int .u8 h.o, .int .u8 h.t, .int .i64 h.n, .int .u8 h.f, .string h.x, .slice (some ⟨b, o, none⟩) ks.length c, .int .i64 h.p] 28)) w5) := below2 HBr.out hb5
          have HX : Hid (n ≤ r ∧ r ≤ 4611686018427387904 ∧ (r ≤ 1048576 → r + wts (ks.drop (i + 1)) = n + wt (.mk h (some ⟨b, o, none⟩) c ks))) := by
            have h1 := HR.out
            have h2 := HW2.out
            exact ⟨by omega, hr2, fun hh => by have e1 := hr3 hh; have e2 := h1.2.2 hz; omega⟩
          clear hb5 cI hr1 hr2 hr3 y0 y1 y2 y3 y4 y5 y6 y7 q6
          go_wp2_with fail
          exact ⟨⟨i + 1, r, hlt, rfl, rfl, HB5.out, HX.out⟩, by simp only [intOf]; omega⟩
        · go_wp2_with fail
          go_ret
          exact ⟨⟨_, rfl, HR.out.1, HR.out.2.1, fun hh => absurd hh (by omega)⟩, HBR.out⟩
      · obtain rfl : i = ks.length := by omega
        have hnot : ¬ (ks.length : Int) < (ks.length : Int) := by omega
        go_wp2_with fail
        go_ret
        exact ⟨⟨_, rfl, HR.out.1, HR.out.2.1, fun hh => by have := HR.out.2.2 hh; rw [List.drop_length] at this; simpa [wts] using this⟩, HBR.out⟩
set_option maxRecDepth 100000 in
/-- Too much is handed in; or it isn't, and there are as many nodes as may be. -/
theorem far_any (m : Nd) (w : World) (hl : Lies w m) : Calls Tryd.prog 8 #[.agg m.vals] w fun e w' => (∃ b, e = .returned (.bool b) ∧ (b = false → wt m ≤ 1048576)) ∧ Below w.heap.size w w' := by
  have c := weigh_any m (w.alloc (.cells m.vals 28)) 0 0 (hl.on (below_new w _)) (by decide) (by decide) (by decide) (by decide)
  clear hl
  unfold Nd.vals hdA at c ⊢
  go_enter Tryd.func8, Tryd.ntmps8
  go_wp2_with fail
  refine c.mono ?_
  rintro e w1 ⟨⟨r, rfl, hr1, hr2, hr3⟩, hb⟩
  have HB : Hid (Below w.heap.size w w1) := (below_new _ _).trans (hb.mono (by simp))
  have HR : Hid (r ≤ 1048576 → r = 0 + wt m) := hr3
  clear hb hr3 c
  go_wp2_with fail
  go_ret
  refine ⟨⟨_, rfl, fun hh => ?_⟩, HB.out⟩
  have : r ≤ 1048576 := by simpa using hh
  have := HR.out this
  omega
end Go.Proofs.YtighocmdlifheaaDoor

/-
  TreeSizes: an expression's size is how many nodes are met, and one more than its kids' together.
-/
namespace Go.Proofs.YtighocmdlifheaaDoor
open Go.RowKit Go.Shelf
attribute [local go_sem] Oper.semAt_some
theorem sizes_append (a b : List Nd) : sizes (a ++ b) = sizes a + sizes b := by
  induction a with
  | nil => simp [sizes]
  | cons k a ih => simp only [List.cons_append, sizes, ih]; omega
theorem sizes_take {ks : List Nd} {i : Nat} (hi : i < ks.length) : sizes (ks.take (i + 1)) = sizes (ks.take i) + size ks[i] := by
  rw [List.take_add_one, sizes_append, List.getElem?_eq_getElem hi]
  simp [sizes]
/-- Between two rounds: so many have come; the node's box is as it was. -/
structure Cy (w : World) (B B0 : Nat) (m : Nd) (pr : List Nat) (W : World) : Prop where
  b : Boxed W B 3 (.int .i64 pr.length)
  n : NdH W B0 m
  m : Below w.heap.size w W
theorem cy_own (w : World) (B B0 : Nat) (m : Nd) {C : Nat} (hC : w.heap.size ≤ C) : OwnFrom C (Cy w B B0 m) := by
  intro pr W W' row h hg hr
  refine ⟨boxed_own _ _ (fun (_ : Unit) => _) () W W' row h.b hg (fun x e => (hr x e).2), (hg.block B0 h.n.lt (fun e => ?_)).trans h.n, h.m.grown hg h.m.size (fun k e => Nat.le_trans hC (hr k e).1)⟩
  obtain ⟨_, o, ho, hc⟩ := hr B0 e.symm
  rw [show W.heap[B0]? = _ from h.n] at ho
  cases ho
  cases hc
theorem size_ks (m : Nd) : size m = 1 + sizes m.ks := by cases m; rfl
theorem size_in {ks : List Nd} {k : Nd} (hk : k ∈ ks) : size k ≤ sizes ks := size_mem hk
/-- What stays behind the count. -/
structure Cz (w : World) (B B0 D : Nat) (m : Nd) (W : World) : Prop where
  b : Boxed W B 3 (.int .i64 (size m))
  n : NdH W B0 m
  m : Below w.heap.size w W
  d : W.heap[D]? = some (.deferred (some []))
theorem Cz.on {w : World} {B B0 D : Nat} {m : Nd} {W W' : World} (h : Cz w B B0 D m W) (k : Below W.heap.size W W') : Cz w B B0 D m W' :=
  ⟨(k.block B (Array.getElem?_eq_some_iff.1 h.b).1).trans h.b, h.n.on k, below2 h.m k, (k.block D (Array.getElem?_eq_some_iff.1 h.d).1).trans h.d⟩
theorem func_nil (B : Nat) (v : World) : (binOp BinOp.eql 56 (.func (.func 43) #[] #[.pointer (some ⟨B, 0, none⟩)]) .nilFunc).run Tryd.prog v = .ok (.bool false) v := by kernel_rfl
set_option maxRecDepth 1000000 in
set_option maxHeartbeats 8000000 in
theorem sizes_far (m : Nd) (w : World) (hl : Lies w m) (cA : ∀ v, Below w.heap.size w v → Calls Tryd.prog 7 #[] v fun e w' => e = .returned (.bool true) ∧ Below v.heap.size v w') :
    Calls Tryd.prog 5 #[.agg m.vals] w fun e w' => e = .returned (.bool true) ∧ Below w.heap.size w w' := by
  have HL := hl.hid
  clear hl
  refine (callsIn_wide (n := 3)).1 (callsIn_of_wp_marks Tryd.func5 rfl trivial ?_ rfl)
  refine wpIn_wide.2 ?_
  simp only [Tryd.ntmps5, List.size_toArray, List.length_cons, List.length_nil, Nat.reduceAdd, Nat.reduceSub, Array.replicate_succ, Array.replicate_zero, List.push_toArray, List.append_toArray, List.nil_append, List.cons_append]
  obtain ⟨B0, hB0⟩ : ∃ x, w.heap.size = x := ⟨_, rfl⟩
  obtain ⟨V, hV⟩ : ∃ V, w.alloc (.cells m.vals 28) = V := ⟨_, rfl⟩
  have hbV : Below w.heap.size w V := by rw [← hV]; exact below_new _ _
  have hN : NdH V B0 m := by rw [← hV, ← hB0]; exact heap_new _ _
  have cA1 := cA V hbV
  have HN := hN.hid
  have HBV : Hid (Below w.heap.size w V) := hbV
  clear hN hbV cA
  have cF := fun v (hv : Below w.heap.size w v) => far_any m v (HL.out.on hv)
  have cL := fun v => all_any m v
  unfold Nd.vals hdA at cF cL hV ⊢
  go_wp2_with fail
  clear hV
  refine cA1.mono ?_
  rintro e w1 ⟨rfl, hb1⟩
  have HN1 := (HN.out.on hb1).hid
  have HB1 : Hid (Below w.heap.size w w1) := below2 HBV.out hb1
  obtain ⟨y0, y1, y2, y3, y4, y5, y6, y7⟩ := HN1.out.eight
  clear cA1 hb1 HN HBV
  go_wp2_with fail
  refine (cF _ HB1.out).mono ?_
  rintro e w2 ⟨⟨far, rfl, hfar⟩, hb2⟩
  have HN2 := (HN1.out.on hb2).hid
  have HB2 : Hid (Below w.heap.size w w2) := below2 HB1.out hb2
  clear y0 y1 y2 y3 y4 y5 y6 y7
  obtain ⟨y0, y1, y2, y3, y4, y5, y6, y7⟩ := HN2.out.eight
  have HF : Hid (far = false → wt m ≤ 1048576) := hfar
  clear hb2 HN1 HB1 cF hfar
  go_wp2_with fail
  refine (cL _).mono ?_
  rintro e w3 ⟨rfl, e3⟩
  cases far with
  | true =>
    have HB3 : Hid (Below w.heap.size w w3) := by rw [e3]; exact HB2.out.alloc HB2.out.size _
    clear e3
    go_wp2_with fail
    exact ⟨.bool true, results_t1 (p := 2) rfl _ _, rfl, HB3.out⟩
  | false =>
    have hz : wt m ≤ 1048576 := HF.out rfl
    have HS : Hid (size m ≤ 1048576) := Nat.le_trans (size_wt m) hz
    obtain ⟨B1, hB1⟩ : ∃ x, w2.heap.size = x := ⟨_, rfl⟩
    rw [hB1]
    have hb3 : Below w2.heap.size w2 w3 := by rw [e3]; exact below_new _ _
    have HN3 : Hid (NdH w3 B0 m) := HN2.out.on hb3
    have HM3 : Hid (NdH w3 B1 m) := by rw [e3, ← hB1]; exact heap_new _ _
    have HB3 : Hid (Below w.heap.size w w3) := below2 HB2.out hb3
    have HS3 : Hid (w3.heap.size = B1 + 1) := by show _ = _; rw [e3, size_alloc, hB1]
    clear e3 hb3 hz HF y0 y1 y2 y3 y4 y5 y6 y7 HN2 HB2 hB1
    have hbo := fun v => func_nil B1 v
    go_wp2_with fail
    obtain ⟨W4, e4⟩ : ∃ W4, w3.alloc (.cells #[.int .i64 0] 3) = W4 := ⟨_, rfl⟩
    have hb4 : Below w3.heap.size w3 W4 := by rw [← e4]; exact below_new _ _
    have z1 : Boxed W4 (B1 + 1) 3 (.int .i64 0) := by rw [← e4, ← HS3.out]; exact heap_new _ _
    have s4 : W4.heap.size = B1 + 1 + 1 := by rw [← e4, size_alloc, HS3.out]
    rw [e4, HS3.out]
    have HB4 : Hid (Below w.heap.size w W4) := below2 HB3.out hb4
    have HN4 : Hid (NdH W4 B0 m) := HN3.out.on hb4
    have HM4 : Hid (NdH W4 B1 m) := HM3.out.on hb4
    have HZ1 : Hid (Boxed W4 (B1 + 1) 3 (.int .i64 0)) := z1
    have HS4 : Hid (W4.heap.size = B1 + 1 + 1) := s4
    have HLT : Hid (w.heap.size ≤ B1) := by have h1 := HB3.out.size; have h2 := HS3.out; have h3 := HN3.out.lt; show _ ≤ _; rw [hB0]; have h4 : B0 < B1 + 1 := by omega
                                            omega
    clear e4 hb4 z1 s4 HN3 HM3 HB3 HS3 cL hbo
    refine (wpIn_wide (n := 12)).1 ?_
    refine wpIn_rangeFunc_ownH rfl (by omega) (gf := 43) (lb := #[.pointer (some ⟨B1, 0, none⟩)]) rfl trivial (enters_of Tryd.func43 (by kernel_rfl) rfl)
      (all_stops 11 m (fun b => b = B1 + 1) B1 w W4 HL.out HB4.out (fun b hb => by have := HS4.out; have := HLT.out; omega) HM4.out)
      (fun h k => h.trans k) ?hKb (Below.refl _ _) (fun _ => rfl)
      (Cy w (B1 + 1) B0 m)
      (fun _ pre _ => False)
      (cy_own w (B1 + 1) B0 m HB4.out.size) (fun c => ownFrom_pure _ _) ⟨HZ1.out, HN4.out, HB4.out⟩
      (fun _ a' _ => ∃ (v0 v1 v2 v3 v4 v5 v7 v8 v9 v10 v11 v12 v13 v14 v15 v16 v17 v18 v19 v20 v21 v22 v23 v24 v25 v26 v27 v28 v29 v30 v31 v32 v33 v34 v35 v36 v37 v38 v39 v40 v41 v42 v43 v44 v45 v46 v47 v48 v49 v50 v51 v52 v53 v54 v55 v56 v57 v58 v59 v60 v61 v62 : Value), a' = { tmps := #[v0, v1, v2, v3, v4, v5, .pointer (some ⟨B1 + 1, 0, none⟩), v7, v8, v9, v10, v11, v12, v13, v14, v15, v16, v17, v18, v19, v20, v21, v22, v23, v24, v25, v26, v27, v28, v29, v30, v31, v32, v33, v34, v35, v36, v37, v38, v39, v40, v41, v42, v43, v44, v45, v46, v47, v48, v49, v50, v51, v52, v53, v54, v55, v56, v57, v58, v59, v60, v61, v62], defers := [] })
      ?hAx ?assign ?body ?done ?stop
    case hKb => exact fun W l o o' h1 h2 h3 h4 => Kc.bound (w := W4) W l o o' h1 h2 h3 h4
    case hAx => exact fun x a' => ownFrom_pure _ (fun _ => _)
    case assign =>
      rintro lo pr x W K hi hK
      have HK : Hid (∀ a', (∃ (v0 v1 v2 v3 v4 v5 v7 v8 v9 v10 v11 v12 v13 v14 v15 v16 v17 v18 v19 v20 v21 v22 v23 v24 v25 v26 v27 v28 v29 v30 v31 v32 v33 v34 v35 v36 v37 v38 v39 v40 v41 v42 v43 v44 v45 v46 v47 v48 v49 v50 v51 v52 v53 v54 v55 v56 v57 v58 v59 v60 v61 v62 : Value), a' = _) → K a' W) := fun a' ha => hK a' W ⟨Nat.le_refl _, fun _ _ _ h _ => h⟩ (Kc.refl _ _) hi ha
      clear hK hi
      unfold encN
      obtain ⟨u, eu⟩ : ∃ u, Value.agg (cutN ((pre m).getD x (.mk ⟨0, 0, 0, 0, 0, ⟨#[]⟩, 0⟩ none 0 []))).vals = u := ⟨_, rfl⟩
      rw [eu]
      gi_wp2
      exact HK.out _ ⟨_, _, _, _, _, _, _, _, _, _, _, _, _, _, _, _, _, _, _, _, _, _, _, _, _, _, _, _, _, _, _, _, _, _, _, _, _, _, _, _, _, _, _, _, _, _, _, _, _, _, _, _, _, _, _, _, _, _, _, _, _, _, rfl⟩
    case body =>
      rintro lo pr x a' W hlo _ ⟨b, hn, hm⟩ ⟨v0, v1, v2, v3, v4, v5, v7, v8, v9, v10, v11, v12, v13, v14, v15, v16, v17, v18, v19, v20, v21, v22, v23, v24, v25, v26, v27, v28, v29, v30, v31, v32, v33, v34, v35, v36, v37, v38, v39, v40, v41, v42, v43, v44, v45, v46, v47, v48, v49, v50, v51, v52, v53, v54, v55, v56, v57, v58, v59, v60, v61, v62, rfl⟩ hlen
      have c1 := b.cell
      have f1 := b.frozen
      have HB : Hid (Boxed W (B1 + 1) 3 (.int .i64 pr.length)) := b
      have HM : Hid (Below w.heap.size w W) := hm
      have HNW : Hid (NdH W B0 m) := hn
      have hmx : (pr.length : Int) + 1 ≤ 9223372036854775807 := by rw [size_pre] at hlen; have := HS.out; omega
      clear b hm hlen hn
      gi_wp2
      refine ⟨⟨by simp [World.setCell], fun k o _ hk ho => (Below.heap_setCell _ _ _ _ (fun e => ?_)).trans hk⟩, ⟨by simp [World.setCell], fun k cs t fr hv _ => Below.heap_setCell _ _ _ _ hv⟩, ?_, ?_, HM.out.setCell (p := ⟨B1 + 1, 0, none⟩) (Nat.le_succ_of_le HLT.out) _⟩
      · have e : k = B1 + 1 := e
        rw [e, show W.heap[B1 + 1]? = _ from HB.out] at hk
        cases hk
        cases ho
      · have := HB.out.set (.int .i64 ((pr.length : Int) + 1))
        rw [show ((pr ++ [x]).length : Int) = (pr.length : Int) + 1 by simp]
        exact this
      · refine (Below.heap_setCell _ _ _ _ (fun e => ?_)).trans HNW.out
        have e : B0 = B1 + 1 := e
        have := HN4.out
        unfold NdH at this
        rw [e, show W4.heap[B1 + 1]? = _ from HZ1.out] at this
        cases this
    case done =>
      rintro D xs W hD rfl ⟨b, hn, hm⟩ hK
      have e1 : (List.range (pre m).length).length = size m := by rw [List.length_range, size_pre]
      rw [e1] at b
      have HD : Hid (W.heap[D]? = some (.deferred (some []))) := hK
      have HM : Hid (Below w.heap.size w W) := hm
      have HNW : Hid (NdH W B0 m) := hn
      have HBW : Hid (Boxed W (B1 + 1) 3 (.int .i64 (size m))) := b
      clear hK hm b hn HZ1 HN4 HM4
      have HC : Hid (Cz w (B1 + 1) B0 D m W) := ⟨HBW.out, HNW.out, HM.out, HD.out⟩
      clear HD HM HNW HBW
      go_wp2_with fail
      go_loopw [7, 8, 9] (fun s t _ wr => ∃ (i : Nat) (z : Int), i ≤ m.ks.length ∧ t = .int .i64 i ∧ s = .int .i64 z ∧ Hid (z = 1 + sizes (m.ks.take i)) ∧ Hid (Cz w (B1 + 1) B0 D m wr)) (fun _ t _ _ => m.ks.length - (intOf t).toNat)
      case atStart => exact ⟨0, 1, by omega, rfl, rfl, by simp [Hid, sizes], HC⟩
      case round =>
        obtain ⟨i, z, hi, rfl, rfl, HZ, HCr⟩ := hrel
        have q6 : wr.cell? ⟨B0, 6, none⟩ = some (.slice m.a m.ks.length m.c) := cell_of HCr.out.n 6
        by_cases hlt : i < m.ks.length
        · have hlt' : (i : Int) < (m.ks.length : Int) := by omega
          obtain ⟨b, o, e1, hat⟩ := (HL.out.on HCr.out.m).kid i hlt
          have hk1 : NdAt wr b (o + i * 8) m.ks[i] := hat
          have HQ : Hid (size m.ks[i] ≤ 1048576 ∧ sizes (m.ks.take (i + 1)) = sizes (m.ks.take i) + size m.ks[i] ∧ sizes (m.ks.take (i + 1)) ≤ 1048576) := by
            have h1 := HS.out
            rw [size_ks] at h1
            have h2 := size_in (nth_mem hlt)
            have h3 := sizes_append (m.ks.take (i + 1)) (m.ks.drop (i + 1))
            rw [List.take_append_drop] at h3
            exact ⟨by omega, sizes_take hlt, by omega⟩
          have cI := size_any m.ks[i] wr ((HL.out.sub _ (nth_mem hlt)).on HCr.out.m) (by have := HQ.out.1; omega)
          have hmx : (i : Int) + 1 ≤ 9223372036854775807 := by
            have h1 := HL.out.max
            have h2 := HL.out.cap
            omega
          obtain ⟨k, ek⟩ : ∃ k, m.ks[i] = k := ⟨_, rfl⟩
          rw [ek] at hk1 cI HQ
          rw [e1] at q6
          obtain ⟨y0, y1, y2, y3, y4, y5, y6, y7⟩ := hk1
          unfold Nd.vals hdA at cI
          have hs1 : -9223372036854775808 ≤ z + (size k : Int) := by have h1 := HQ.out; have h2 := HZ.out; omega
          have hs2 : z + (size k : Int) ≤ 9223372036854775807 := by have h1 := HQ.out; have h2 := HZ.out; omega
          clear ek hat e1
          go_wp2_with fail
          refine cI.mono ?_
          rintro e w5 ⟨rfl, hb5⟩
          have HC5 : Hid (Cz w (B1 + 1) B0 D m w5) := HCr.out.on hb5
          have HZ5 : Hid (z + (size k : Int) = 1 + sizes (m.ks.take (i + 1))) := by have h1 := HQ.out.2.1; have h2 := HZ.out; show _ = _; omega
          clear hb5 cI y0 y1 y2 y3 y4 y5 y6 y7 q6
          go_wp2_with fail
          exact ⟨⟨i + 1, _, hlt, rfl, rfl, HZ5, HC5⟩, by simp only [intOf]; omega⟩
        · obtain rfl : i = m.ks.length := by omega
          have hnot : ¬ (m.ks.length : Int) < (m.ks.length : Int) := by omega
          have cI := size_any m wr (HL.out.on HCr.out.m) (by have := HS.out; omega)
          unfold Nd.vals hdA at cI
          obtain ⟨y0, y1, y2, y3, y4, y5, y6, y7⟩ := HCr.out.n.eight
          have hz : z = (size m : Int) := by have := HZ.out; rw [List.take_length] at this; rw [size_ks]; omega
          subst hz
          go_wp2_with fail
          refine cI.mono ?_
          rintro e w5 ⟨rfl, hb5⟩
          have HC5 : Hid (Cz w (B1 + 1) B0 D m w5) := HCr.out.on hb5
          have c5 := HC5.out.b.cell
          clear hb5 cI y0 y1 y2 y3 y4 y5 y6 y7 q6
          go_wp2_with fail
          refine leaves_marks (v := .bool true) [D] w5 (by simp) (fun D' hD' => by simp at hD'; rw [hD']; exact HC5.out.d) (fun W' mv => ⟨results_t1 (p := 2) rfl _ _, rfl, ?_⟩)
          exact ((Mv.ofBelow HC5.out.m).trans mv (fun b e => .inr (by simp at e; rw [e]; have := HB4.out.size; omega))).toBelow
    case stop =>
      intro D c pre W _ h1 h2 _
      exact absurd h2 (by simp)
end Go.Proofs.YtighocmdlifheaaDoor

/-
  Two lists of the same texts are the same; what Reads tells hangs on the tree alone.
-/
namespace Go.Proofs.YtighocmdlifheaaDoor
open Go.RowKit Go.Shelf
set_option linter.unusedVariables false

set_option maxHeartbeats 1000000 in
theorem sameT_any (v1 v2 : Value) (L : List ByteArray) (w : World) (hmax : L.length ≤ 2000000) (h1 : RowT w v1 L) (h2 : RowT w v2 L) :
    Calls Tryd.prog 13 #[v1, v2] w fun e w' => e = .returned (.bool true) ∧ Below w.heap.size w w' := by
  obtain ⟨a1, c1, e1, p1, _⟩ := Row.form h1
  obtain ⟨a2, c2, e2, p2, _⟩ := Row.form h2
  subst e1
  subst e2
  have HL : Hid (L.length ≤ 2000000) := hmax
  have HP1 : Hid (0 < L.length → ∃ g, a1 = some ⟨g, 0, none⟩) := p1
  have HP2 : Hid (0 < L.length → ∃ g, a2 = some ⟨g, 0, none⟩) := p2
  have H1 : Hid (RowT w (.slice a1 L.length c1) L) := h1
  have H2 : Hid (RowT w (.slice a2 L.length c2) L) := h2
  clear h1 h2 hmax p1 p2
  go_enter Tryd.func13, Tryd.ntmps13
  go_wp2
  go_loopw [5] (fun i wr => ∃ (k n : Nat), k ≤ L.length ∧ i = .int .i64 k ∧ wr = w.drewN n) (fun i _ => L.length - (intOf i).toNat)
  case atStart => exact ⟨0, 0, by omega, rfl, rfl⟩
  case round =>
    obtain ⟨k, n, hk, rfl, rfl⟩ := hrel
    by_cases hlt : k < L.length
    · obtain ⟨g1, rfl⟩ := HP1.out (by omega)
      obtain ⟨g2, rfl⟩ := HP2.out (by omega)
      have a0 := txt_cell H1.out rfl hlt
      have b0 := txt_cell H2.out rfl hlt
      obtain ⟨x, hx⟩ : ∃ x, L.getD k ⟨#[]⟩ = x := ⟨_, rfl⟩
      rw [hx] at a0 b0
      have hlt' : (k : Int) < (L.length : Int) := by omega
      have hm : (k : Int) + 1 ≤ 9223372036854775807 := by have := HL.out; omega
      clear hx
      go_wp2
      go_quiet (fail)
      go_wp2
      exact ⟨⟨k + 1, _, by omega, by go_num, rfl⟩, by simp only [intOf]; omega⟩
    · have hnot : ¬ (k : Int) < (L.length : Int) := by omega
      go_wp2
      go_ret
      exact ⟨rfl, below_drew (Below.refl _ _) n⟩

mutual
def hdT : Tr → List Hd
  | .mk h ks => h :: hdTs ks
def hdTs : List Tr → List Hd
  | [] => []
  | k :: ks => hdT k ++ hdTs ks
end
theorem pres_hd : ∀ {ks : List Nd}, (∀ k ∈ ks, (pre k).map (·.h) = hdT (treeOf k)) → (pres ks).map (·.h) = hdTs (treesOf ks)
  | [], _ => rfl
  | k :: ks, h => by
    simp only [pres, treesOf, hdTs, List.map_append]
    rw [h k (by simp), pres_hd (fun x hx => h x (List.mem_cons_of_mem _ hx))]
theorem pre_hd : ∀ m : Nd, (pre m).map (·.h) = hdT (treeOf m) := by
  refine Nd.ind fun h a c ks ih => ?_
  simp only [pre, treeOf, hdT, List.map_cons]
  rw [pres_hd ih]
  rfl
theorem pre_same {m k : Nd} (h : treeOf m = treeOf k) : (pre m).map (·.h) = (pre k).map (·.h) := by rw [pre_hd, pre_hd, h]
theorem mkL_h : ∀ (T S : List Nd), T.map (·.h) = S.map (·.h) → mkL T = mkL S := by
  have key : ∀ (T S : List Nd) (a : Int), T.map (·.h) = S.map (·.h) → T.foldl mkF a = S.foldl mkF a := by
    intro T
    induction T with
    | nil => intro S a h; cases S with
      | nil => rfl
      | cons x S => simp at h
    | cons x T ih => intro S a h; cases S with
      | nil => simp at h
      | cons y S =>
        simp only [List.map_cons, List.cons.injEq] at h
        simp only [List.foldl_cons]
        rw [show mkF a x = mkF a y by unfold mkF; rw [h.1]]
        exact ih S _ h.2
  intro T S h
  exact key T S 0 h
theorem nmL_h : ∀ (T S : List Nd), T.map (·.h) = S.map (·.h) → nmL T = nmL S := by
  have key : ∀ (T S : List Nd) (a : List ByteArray), T.map (·.h) = S.map (·.h) → T.foldl nmF a = S.foldl nmF a := by
    intro T
    induction T with
    | nil => intro S a h; cases S with
      | nil => rfl
      | cons x S => simp at h
    | cons x T ih => intro S a h; cases S with
      | nil => simp at h
      | cons y S =>
        simp only [List.map_cons, List.cons.injEq] at h
        simp only [List.foldl_cons]
        rw [show nmF a x = nmF a y by unfold nmF; rw [h.1]]
        exact ih S _ h.2
  intro T S h
  exact key T S [] h
theorem wts_name {ks : List Nd} (ih : ∀ k ∈ ks, ∀ x ∈ pre k, x.h.x.size ≤ wt k) : ∀ x ∈ pres ks, x.h.x.size ≤ wts ks := by
  induction ks with
  | nil => intro x hx; simp [pres] at hx
  | cons k ks ih2 =>
    intro x hx
    simp only [pres, List.mem_append] at hx
    simp only [wts]
    rcases hx with hx | hx
    · have := ih k (by simp) x hx; omega
    · have := ih2 (fun y hy => ih y (List.mem_cons_of_mem _ hy)) x hx; omega
theorem wt_name : ∀ m : Nd, ∀ x ∈ pre m, x.h.x.size ≤ wt m := by
  refine Nd.ind fun h a c ks ih x hx => ?_
  simp only [pre, List.mem_cons] at hx
  simp only [wt]
  rcases hx with rfl | hx
  · show h.x.size ≤ _; omega
  · have := wts_name ih x hx; omega
theorem names_h {T S : List Nd} (h : T.map (·.h) = S.map (·.h)) {n : Nat} (hs : ∀ x ∈ S, x.h.x.size ≤ n) : ∀ x ∈ T, x.h.x.size ≤ n := by
  intro x hx
  have : x.h ∈ S.map (·.h) := by rw [← h]; exact List.mem_map_of_mem hx
  obtain ⟨y, hy, e⟩ := List.mem_map.1 this
  rw [← e]
  exact hs y hy
end Go.Proofs.YtighocmdlifheaaDoor

/-
  The walk of TreeReads.
-/
namespace Go.Proofs.YtighocmdlifheaaDoor
open Go.RowKit Go.Shelf
set_option linter.unusedVariables false

theorem rowT_on {w w' : World} {v : Value} {L : List ByteArray} (h : RowT w v L) (k : Below w.heap.size w w') : RowT w' v L := h.of_block (fun b hb => k.block b (h.lt b hb))
set_option maxRecDepth 1000000 in
set_option maxHeartbeats 8000000 in
theorem treads_any (m : Nd) (w : World) (hl : Lies w m) (cA : ∀ v, Below w.heap.size w v → Calls Tryd.prog 7 #[] v fun e w' => e = .returned (.bool true) ∧ Below v.heap.size v w') :
    Calls Tryd.prog 3 #[.agg m.vals] w fun e w' => e = .returned (.bool true) ∧ Below w.heap.size w w' := by
  have HL := hl.hid
  clear hl
  obtain ⟨B0, hB0⟩ : ∃ x, w.heap.size = x := ⟨_, rfl⟩
  obtain ⟨V, hV⟩ : ∃ V, w.alloc (.cells m.vals 28) = V := ⟨_, rfl⟩
  have hbV : Below w.heap.size w V := by rw [← hV]; exact below_new _ _
  have hN : NdH V B0 m := by rw [← hV, ← hB0]; exact heap_new _ _
  have cA1 := cA V hbV
  have HN := hN.hid
  have HBV : Hid (Below w.heap.size w V) := hbV
  have HB0 : Hid (w.heap.size = B0) := hB0
  clear hN hbV cA hB0
  unfold Nd.vals hdA at hV ⊢
  have HV : Hid (w.alloc (.cells #[.int .u8 m.h.k, .int .u8 m.h.o, .int .u8 m.h.t, .int .i64 m.h.n, .int .u8 m.h.f, .string m.h.x, .slice m.a m.ks.length m.c, .int .i64 m.h.p] 28) = V) := hV
  clear hV
  go_enter Tryd.func3, Tryd.ntmps3
  go_upto_region 1 with fail
  rw [HV.out, HB0.out]
  go_wp2_with fail
  refine cA1.mono ?_
  rintro _ w1 ⟨rfl, b1⟩
  have HB1 : Hid (Below w.heap.size w w1) := below2 HBV.out b1
  have HN1 : Hid (NdH w1 B0 m) := HN.out.on b1
  clear b1 cA1 HN HBV
  have cF := far_any m w1 (HL.out.on HB1.out)
  unfold Nd.vals hdA at cF
  obtain ⟨y0, y1, y2, y3, y4, y5, y6, y7⟩ := HN1.out.eight
  go_wp2_with fail
  refine cF.mono ?_
  rintro _ w2 ⟨⟨fb, rfl, hfb⟩, b2⟩
  have HB2 : Hid (Below w.heap.size w w2) := below2 HB1.out b2
  have HN2 : Hid (NdH w2 B0 m) := HN1.out.on b2
  clear b2 cF HN1 HB1 y0 y1 y2 y3 y4 y5 y6 y7
  cases fb
  · have hwt := hfb rfl
    have hsz : size m ≤ 1048576 := Nat.le_trans (size_wt m) hwt
    have hnm := wt_name m
    have HSZ : Hid (size m ≤ 1048576) := hsz
    have HNMS : Hid (∀ x ∈ pre m, x.h.x.size ≤ 2000000000) := fun x hx => by have := hnm x hx; omega
    clear hfb hwt hsz hnm
    have cLd := lend_any m w2 (HL.out.on HB2.out) (by have := HSZ.out; omega)
    unfold Nd.vals hdA at cLd
    obtain ⟨y0, y1, y2, y3, y4, y5, y6, y7⟩ := HN2.out.eight
    go_wp2_with fail
    refine cLd.mono ?_
    rintro _ w3 ⟨m', rfl, hln, htr, b3⟩
    unfold Nd.vals hdA
    have HLN3 : Hid (Lnt (w3.alloc (.cells #[.int .u8 m'.h.k, .int .u8 m'.h.o, .int .u8 m'.h.t, .int .i64 m'.h.n, .int .u8 m'.h.f, .string m'.h.x, .slice m'.a m'.ks.length m'.c, .int .i64 m'.h.p] 28)) w2.heap.size m') := hln.on (below_new _ _)
    have HTR : Hid (treeOf m' = treeOf m) := htr
    have HB3 : Hid (Below w.heap.size w (w3.alloc (.cells #[.int .u8 m'.h.k, .int .u8 m'.h.o, .int .u8 m'.h.t, .int .i64 m'.h.n, .int .u8 m'.h.f, .string m'.h.x, .slice m'.a m'.ks.length m'.c, .int .i64 m'.h.p] 28))) := below2 (below2 HB2.out b3) (below_new _ _)
    have HN3 : Hid (NdH (w3.alloc (.cells #[.int .u8 m'.h.k, .int .u8 m'.h.o, .int .u8 m'.h.t, .int .i64 m'.h.n, .int .u8 m'.h.f, .string m'.h.x, .slice m'.a m'.ks.length m'.c, .int .i64 m'.h.p] 28)) B0 m) := (HN2.out.on b3).on (below_new _ _)
    have HM3 : Hid (NdH (w3.alloc (.cells #[.int .u8 m'.h.k, .int .u8 m'.h.o, .int .u8 m'.h.t, .int .i64 m'.h.n, .int .u8 m'.h.f, .string m'.h.x, .slice m'.a m'.ks.length m'.c, .int .i64 m'.h.p] 28)) w3.heap.size m') := heap_new _ _
    clear hln htr b3 cLd HN2 HB2 y0 y1 y2 y3 y4 y5 y6 y7
    go_upto_region 6 with fail
    generalize w3.alloc _ = W at HLN3 HB3 HN3 HM3 ⊢
    generalize w3.heap.size = B5 at HM3 ⊢
    generalize w2.heap.size = lo at HLN3
    have HPH : Hid ((pre m').map (·.h) = (pre m).map (·.h)) := pre_same HTR.out
    have HSZ' : Hid (size m' ≤ 1048576) := by
      have := congrArg List.length HPH.out
      rw [List.length_map, List.length_map, size_pre, size_pre] at this
      have h2 := HSZ.out
      show _ ≤ _
      omega
    have HMK : Hid (mkL (pre m') = mkL (pre m)) := mkL_h _ _ HPH.out
    have HNL : Hid (nmL (pre m') = nmL (pre m)) := nmL_h _ _ HPH.out
    have HLL : Hid ((nmL (pre m)).length ≤ 2000000) := by have h1 := nmL_len (pre m); rw [size_pre] at h1; have h2 := HSZ.out; show _ ≤ _; omega
    have cR1 := reads_any m' W HLN3.out.lies (by have := HSZ'.out; omega) (names_h HPH.out HNMS.out)
    rw [HMK.out, HNL.out] at cR1
    obtain ⟨K, eK⟩ : ∃ K, mkL (pre m) = K := ⟨_, rfl⟩
    obtain ⟨L, eL⟩ : ∃ L, nmL (pre m) = L := ⟨_, rfl⟩
    rw [eK, eL] at cR1
    rw [eL] at HLL
    have HK : Hid (mkL (pre m) = K) := eK
    have HEL : Hid (nmL (pre m) = L) := eL
    clear eK eL
    unfold Nd.vals hdA at cR1
    obtain ⟨y0, y1, y2, y3, y4, y5, y6, y7⟩ := HM3.out.eight
    go_wp2_with fail
    refine cR1.mono ?_
    rintro _ v1 ⟨l1, rfl, r1, n1, b1⟩
    have HB4 : Hid (Below w.heap.size w v1) := below2 HB3.out b1
    have HN4 : Hid (NdH v1 B0 m) := HN3.out.on b1
    have HM4 : Hid (NdH v1 B5 m') := HM3.out.on b1
    have HLN4 : Hid (Lnt v1 lo m') := HLN3.out.on b1
    have HR1 : Hid (RowT v1 l1 L) := r1
    have HO1 : Hid (∀ k, l1.ownBlock = some k → w.heap.size ≤ k) := fun k hk => Nat.le_trans HB3.out.size (n1 k hk)
    clear r1 n1 b1 cR1 HN3 HB3 HM3 HLN3 y0 y1 y2 y3 y4 y5 y6 y7
    have cR2 := reads_any m' v1 HLN4.out.lies (by have := HSZ'.out; omega) (names_h HPH.out HNMS.out)
    rw [HMK.out, HNL.out, HK.out, HEL.out] at cR2
    unfold Nd.vals hdA at cR2
    obtain ⟨y0, y1, y2, y3, y4, y5, y6, y7⟩ := HM4.out.eight
    go_wp2_with fail
    refine cR2.mono ?_
    rintro _ v2 ⟨l2, rfl, r2, n2, b2⟩
    have HB5 : Hid (Below w.heap.size w v2) := below2 HB4.out b2
    have HN5 : Hid (NdH v2 B0 m) := HN4.out.on b2
    have HM5 : Hid (NdH v2 B5 m') := HM4.out.on b2
    have HLN5 : Hid (Lnt v2 lo m') := HLN4.out.on b2
    have HR15 : Hid (RowT v2 l1 L) := rowT_on HR1.out b2
    have HR25 : Hid (RowT v2 l2 L) := r2
    have HO2 : Hid (∀ k, l2.ownBlock = some k → w.heap.size ≤ k) := fun k hk => Nat.le_trans HB4.out.size (n2 k hk)
    have HD12 : Hid (∀ b, l1.ownBlock = some b → l2.ownBlock ≠ some b) := fun b h1 h2 => by have := HR1.out.lt b h1; have := n2 b h2; omega
    clear r2 n2 b2 cR2 HN4 HB4 HM4 HLN4 HR1 y0 y1 y2 y3 y4 y5 y6 y7
    have cW := whole_any m' m v2 lo HLN5.out (HL.out.on HB5.out) HTR.out
    unfold Nd.vals hdA at cW
    obtain ⟨y0, y1, y2, y3, y4, y5, y6, y7⟩ := HM5.out.eight
    obtain ⟨x0, x1, x2, x3, x4, x5, x6, x7⟩ := HN5.out.eight
    go_wp2_with fail
    refine cW.mono ?_
    rintro _ v3 ⟨rfl, b3⟩
    have HB6 : Hid (Below w.heap.size w v3) := below2 HB5.out b3
    have HN6 : Hid (NdH v3 B0 m) := HN5.out.on b3
    have HR16 : Hid (RowT v3 l1 L) := rowT_on HR15.out b3
    have HR26 : Hid (RowT v3 l2 L) := rowT_on HR25.out b3
    clear b3 cW HN5 HB5 HM5 HLN5 HR15 HR25 y0 y1 y2 y3 y4 y5 y6 y7 x0 x1 x2 x3 x4 x5 x6 x7
    have cD := rreads_any m v3 (HL.out.on HB6.out) (by have := HSZ.out; omega)
    rw [HK.out, HEL.out] at cD
    unfold Nd.vals hdA at cD
    obtain ⟨y0, y1, y2, y3, y4, y5, y6, y7⟩ := HN6.out.eight
    go_wp2_with fail
    refine cD.mono ?_
    rintro _ v4 ⟨l3, rfl, r3, n3, b4⟩
    have HB7 : Hid (Below w.heap.size w v4) := below2 HB6.out b4
    have HR17 : Hid (RowT v4 l1 L) := rowT_on HR16.out b4
    have HR27 : Hid (RowT v4 l2 L) := rowT_on HR26.out b4
    have HR37 : Hid (RowT v4 l3 L) := r3
    clear r3 n3 b4 cD HN6 HB6 HR16 HR26 y0 y1 y2 y3 y4 y5 y6 y7
    go_wp2_with fail
    refine (sameT_any l1 l3 L v4 HLL.out HR17.out HR37.out).mono ?_
    rintro _ v5 ⟨rfl, b5⟩
    go_wp2_with fail
    refine (sameT_any l2 l3 L v5 HLL.out (rowT_on HR27.out b5) (rowT_on HR37.out b5)).mono ?_
    rintro _ v6 ⟨rfl, b6⟩
    have HB8 : Hid (Below w.heap.size w v6) := below2 (below2 HB7.out b5) b6
    have HR18 : Hid (RowT v6 l1 L) := rowT_on (rowT_on HR17.out b5) b6
    have HR28 : Hid (RowT v6 l2 L) := rowT_on (rowT_on HR27.out b5) b6
    clear b5 b6 HB7 HR17 HR27 HR37
    obtain ⟨X, eX⟩ : ∃ X, v6.alloc (.cells #[.slice none 0 0, .slice none 0 0, .slice none 0 0, .slice none 0 0, .slice none 0 0, .slice none 0 0, .slice none 0 0, .slice none 0 0, .slice none 0 0, .slice none 0 0, .slice none 0 0] 52) = X := ⟨_, rfl⟩
    have hK : BxH X v6.heap.size (.slice none 0 0) := by rw [← eX]; exact heap_new _ _
    have bX : Below v6.heap.size v6 X := by rw [← eX]; exact below_new _ _
    have hG0 : Bag 9 34 1 w X 0 (.slice none 0 0) (fun _ => .slice none 0 0) (fun _ => 0) (fun _ _ => .slice none 0 0) :=
      ⟨fun j hj => by omega, Row.nil _ _ _ _, fun j j' hj => by omega, fun j hj => by omega, fun b hb => by simp [Value.ownBlock] at hb, below2 HB8.out bX⟩
    have h1X := rowT_on HR18.out bX
    have h2X := rowT_on HR28.out bX
    have hbk : w.heap.size ≤ v6.heap.size := HB8.out.size
    have HEX : Hid (v6.alloc (.cells #[.slice none 0 0, .slice none 0 0, .slice none 0 0, .slice none 0 0, .slice none 0 0, .slice none 0 0, .slice none 0 0, .slice none 0 0, .slice none 0 0, .slice none 0 0, .slice none 0 0] 52) = X) := eX
    clear eX bX HB8 HR18 HR28
    obtain ⟨a1, c1, e1, _, _⟩ := Row.form h1X
    obtain ⟨a2, c2, e2, _, _⟩ := Row.form h2X
    subst e1
    subst e2
    have HK0 := hK.hid
    have HG0 := hG0.hid
    have H1X : Hid (RowT X (.slice a1 L.length c1) L) := h1X
    have H2X : Hid (RowT X (.slice a2 L.length c2) L) := h2X
    have HBK : Hid (w.heap.size ≤ v6.heap.size) := hbk
    clear hK hG0 h1X h2X hbk
    have HO1' : Hid (∀ k, (Value.slice a1 L.length c1).ownBlock = some k → w.heap.size ≤ k) := HO1
    have HO2' : Hid (∀ k, (Value.slice a2 L.length c2).ownBlock = some k → w.heap.size ≤ k) := HO2
    have cA1 := bookAdd_any X v6.heap.size 0 (.slice none 0 0) (fun _ => .slice none 0 0) a1 L.length c1 HK0.out HG0.out.long (by omega)
    go_upto_region 13 with fail
    rw [HEX.out]
    clear HEX
    go_wp2_with fail
    refine cA1.mono ?_
    rintro _ w5 ⟨⟨rr, rfl⟩, lv, hk5, hr5, ho5, hm5⟩
    have hG1 := HG0.out.add (by decide) H1X.out HO1'.out (fun j hj => by omega) HBK.out (fun x m f hx => HK0.out.ne hx (by decide)) hr5 ho5 hm5
    have h2w : RowT w5 (.slice a2 L.length c2) L := hm5.row H2X.out (fun b hb h' => h'.elim (fun e1 => HK0.out.ne H2X.out (by decide) (by rw [hb, e1])) (fun e1 => by simp [Value.ownBlock] at e1))
    have HG1 := hG1.hid
    have HK1 := hk5.hid
    have H2W : Hid (RowT w5 (.slice a2 L.length c2) L) := h2w
    have cA2 := bookAdd_any w5 v6.heap.size 1 lv _ a2 L.length c2 hk5 hG1.long (by omega)
    clear hG1 hk5 hr5 ho5 hm5 h2w cA1 HG0 HK0 H1X H2X
    go_wp2_with fail
    refine cA2.mono ?_
    rintro _ w6 ⟨⟨rr2, rfl⟩, lv2, hk6, hr6, ho6, hm6⟩
    have hG2 := HG1.out.add (by decide) H2W.out HO2'.out (fun j hj b hb => by
      obtain rfl : j = 0 := by omega
      exact HD12.out b hb) HBK.out (fun x m f hx => HK1.out.ne hx (by decide)) hr6 ho6 hm6
    obtain ⟨al, cl, el, hal, _⟩ := hG2.long.form
    obtain ⟨g, eg⟩ := hal (by omega)
    subst eg
    subst el
    obtain ⟨ap, hp⟩ := hG2.own (by decide)
    have HG2 := hG2.hid
    have cO := bookOwn_any w6 v6.heap.size g 2 cl _ _ _ (fun j q hj hq => by
      by_cases e1 : j = 1
      · simp only [e1, if_true]; exact ⟨_, rfl⟩
      · have e0 : j = 0 := by omega
        subst e0
        exact ⟨_, rfl⟩) (by omega) (fun j hj => by
      by_cases e1 : j = 1
      · simp only [e1, if_true]; exact HLL.out
      · have e0 : j = 0 := by omega
        subst e0
        exact HLL.out) ap hp hk6
    clear hG2 hk6 hr6 ho6 hm6 cA2 HG1 HK1 H2W ap hp hal
    go_wp2_with fail
    refine cO.mono ?_
    rintro _ w7 ⟨rfl, hm7⟩
    have HB9 : Hid (Below w.heap.size w w7) := HG2.out.B.trans (hm7.below HG2.out.B.size (fun b hb => by obtain ⟨j, hj, hb⟩ := hb; exact HG2.out.new j hj b hb))
    clear hm7 cO HG2
    go_wp2_with fail
    go_ret
    exact ⟨rfl, HB9.out⟩
  · go_wp2_with fail
    go_ret
    exact ⟨rfl, HB2.out⟩
end Go.Proofs.YtighocmdlifheaaDoor
