/-
  TreeAlls: its first two loops, one within the other.
-/
import Derived.Test.YtighocmdlifheaaDoorTt
namespace Go.Proofs.YtighocmdlifheaaDoor
open Go.RowKit Go.Shelf Go.Sort
set_option linter.unusedVariables false
attribute [local go_sem] Oper.semAt_some
/-- The ways out of the first loop. -/
def IX1 (W0 : World) (Bi Ba L : Nat) (most : Int) (c : Code) (pr : List Nat) (W : World) : Prop := (c = .ret ∧ Mv W0 W (fun b => b = Bi ∨ b = Ba) ∧ Boxed W Ba 4 (.bool true)) ∨ (c = .exit 0 ∧ ∃ k : Nat, (k : Int) = most ∧ IC W0 Bi k W) ∨ ¬ pr <+: List.range L
theorem ix1_own (W0 : World) (Bi Ba L : Nat) (most : Int) (c : Code) : OwnFrom W0.heap.size (IX1 W0 Bi Ba L most c) := by
  intro pr W W' row hs hg hr
  rcases hs with h | ⟨h1, k, h2, h3⟩ | h
  · exact .inl ⟨h.1, h.2.1.grown hg (fun k e => .inr (hr k e).1), boxed_grown h.2.2 hg hr⟩
  · exact .inr (.inl ⟨h1, k, h2, ic_grown h3 hg hr⟩)
  · exact .inr (.inr h)
/-- .. of the second. -/
def IX2 (W2 : World) (Bk L : Nat) (c : Code) (pr : List Nat) (W : World) : Prop := (c = .exit 2 ∧ Mv W2 W (fun b => b = Bk)) ∨ ¬ pr <+: List.range L
theorem ix2_own (W2 : World) (Bk L : Nat) (c : Code) : OwnFrom W2.heap.size (IX2 W2 Bk L c) :=
  fun pr W W' row hs hg hr => hs.elim (fun h => .inl ⟨h.1, h.2.grown hg (fun k e => .inr (hr k e).1)⟩) .inr
set_option maxRecDepth 1000000 in
set_option maxHeartbeats 16000000 in
theorem alls_loops (C : Code) (hC : cSnd (cSnd (cSnd (cSnd (cSnd (cSnd (cSnd (Tryd.f4.body.getD .skip))))))) = C) (m : Nd) (w W : World) (hl : Lies w m) (hB : Below w.heap.size w W) (hz : (pre m).length ≤ 1000000000) (Bm Ba Bw Bs Bf g cap : Nat) (most : Int)
    (bm : Boxed W Bm 3 (.int .i64 most)) (ba : Boxed W Ba 4 (.bool false)) (bw : Boxed W Bw 26 (.slice (some ⟨g, 0, none⟩) (pre m).length cap)) (bs : NdH W Bs m) (bf : Boxed W Bf 56 (.func (.func 43) #[] #[.pointer (some ⟨Bs, 0, none⟩)]))
    (hrow : ∀ j, j < (pre m).length → NdAt W g (j * 8) (ldF (pre m) j)) (hcap : (pre m).length ≤ cap) (hwa : w.heap.size ≤ Ba)
    (g0 g1 g2 g5 g6 g9 g10 g11 g12 g13 g14 g15 g16 g17 g18 g19 g20 g21 g22 g23 g24 g25 g26 g27 g28 g29 g30 g31 g32 g33 g34 g35 g36 g37 g38 g39 g40 g41 g42 g43 g44 g45 g46 g47 g48 g49 g50 g51 g52 g53 g54 g55 g56 g57 g58 g59 g60 g61 g62 g63 g64 g65 g66 g67 g68 g69 g70 g71 g72 g73 g74 g75 g76 g77 g78 g79 g80 g81 g82 g83 g84 g85 g86 g87 g88 g89 g90 g91 g92 g93 g94 g95 g96 g97 g98 g99 g100 g101 g102 g103 g104 g105 g106 g107 g108 g109 g110 g111 g112 g113 g114 g115 g116 : Value) :
    Code.wp Tryd.prog C (bodyPostM Fence.wide 3 Tryd.prog Tryd.f4 fun e w' => e = .returned (.bool true) ∧ Below w.heap.size w w') { tmps := #[g0, g1, g2, .pointer (some ⟨Bm, 0, none⟩), .pointer (some ⟨Ba, 0, none⟩), g5, g6, .pointer (some ⟨Bw, 0, none⟩), .pointer (some ⟨Bf, 0, none⟩), g9, g10, g11, g12, g13, g14, g15, g16, g17, g18, g19, g20, g21, g22, g23, g24, g25, g26, g27, g28, g29, g30, g31, g32, g33, g34, g35, g36, g37, g38, g39, g40, g41, g42, g43, g44, g45, g46, g47, g48, g49, g50, g51, g52, g53, g54, g55, g56, g57, g58, g59, g60, g61, g62, g63, g64, g65, g66, g67, g68, g69, g70, g71, g72, g73, g74, g75, g76, g77, g78, g79, g80, g81, g82, g83, g84, g85, g86, g87, g88, g89, g90, g91, g92, g93, g94, g95, g96, g97, g98, g99, g100, g101, g102, g103, g104, g105, g106, g107, g108, g109, g110, g111, g112, g113, g114, g115, g116], defers := [] } W := by
  obtain ⟨Bi, hBi⟩ : ∃ x, W.heap.size = x := ⟨_, rfl⟩
  obtain ⟨W0, hW0⟩ : ∃ V, W.alloc (.cells #[.int .i64 0] 3) = V := ⟨_, rfl⟩
  have s0 : W0.heap.size = Bi + 1 := by rw [← hW0]; simp [hBi]
  have b0 : Below W.heap.size W W0 := by rw [← hW0]; exact below_new _ _
  have zi : Boxed W0 Bi 3 (.int .i64 0) := by rw [← hW0, ← hBi]; exact Boxed.new W 3 _
  have lm : Bm < Bi := by have := bm.lt; omega
  have la : Ba < Bi := by have := ba.lt; omega
  have lw : Bw < Bi := by have := bw.lt; omega
  have ls : Bs < Bi := by have := bs.lt; omega
  have lf : Bf < Bi := by have := bf.lt; omega
  have lB : w.heap.size ≤ Bi := by have := hB.size; omega
  have zm : Boxed W0 Bm 3 (.int .i64 most) := (b0.block _ bm.lt).trans bm
  have za : Boxed W0 Ba 4 (.bool false) := (b0.block _ ba.lt).trans ba
  have zw : Boxed W0 Bw 26 (.slice (some ⟨g, 0, none⟩) (pre m).length cap) := (b0.block _ bw.lt).trans bw
  have zs : NdH W0 Bs m := bs.on b0
  have zf : Boxed W0 Bf 56 (.func (.func 43) #[] #[.pointer (some ⟨Bs, 0, none⟩)]) := (b0.block _ bf.lt).trans bf
  have zr : ∀ j, j < (pre m).length → NdAt W0 g (j * 8) (ldF (pre m) j) := fun j hj => (hrow j hj).on b0
  have hB0 : Below w.heap.size w W0 := below2 hB b0
  have cf' : (W.alloc (.cells #[.int .i64 0] 3)).cell? ⟨Bf, 0, none⟩ = some (.func (.func 43) #[] #[.pointer (some ⟨Bs, 0, none⟩)]) := by rw [hW0]; exact zf.cell
  have HW0 : Hid (W.alloc (.cells #[.int .i64 0] 3) = W0) := hW0
  obtain ⟨C3, hC3⟩ : ∃ C3, cSnd (cSnd (cSnd (cSnd (cSnd (cSnd (cSnd (cSnd (cSnd (Tryd.f4.body.getD .skip))))))))) = C3 := ⟨_, rfl⟩
  have HC3 : Hid (cSnd (cSnd (cSnd (cSnd (cSnd (cSnd (cSnd (cSnd (cSnd (Tryd.f4.body.getD .skip))))))))) = C3) := hC3
  simp only [cSnd, Tryd.f4, Option.getD_some] at hC hC3
  rw [← hC]
  rw [hC3]
  clear hC hW0 hC3
  go_wp2_with fail
  rw [HW0.out]
  clear HW0 cf'
  refine (wpIn_wide (n := 12)).1 ?_
  refine wpIn_rangeFunc_ownH rfl (by omega) (gf := 43) (lb := #[.pointer (some ⟨Bs, 0, none⟩)]) rfl trivial (enters_of Tryd.func43 (by kernel_rfl) rfl)
    (all_stops 11 m (fun b => b = Bi) Bs w W0 hl hB0 (fun b hb => by omega) zs)
    (fun h k => h.trans k) ?hKb (Below.refl _ _) (fun _ => rfl)
    (fun pr Y => True ∧ IC W0 Bi pr.length Y)
    (IX1 W0 Bi Ba (pre m).length most)
    (ic_own _ _ _) (fun c => ix1_own _ _ _ _ _ c) ⟨trivial, Mv.refl _ _, zi⟩
    (fun x a' Y => ∃ Bt, a' = { tmps := #[g0, g1, g2, .pointer (some ⟨Bm, 0, none⟩), .pointer (some ⟨Ba, 0, none⟩), g5, g6, .pointer (some ⟨Bw, 0, none⟩), .pointer (some ⟨Bf, 0, none⟩), .pointer (some ⟨Bi, 0, none⟩), .pointer (some ⟨Bt, 0, none⟩), g11, g12, g13, g14, g15, g16, g17, g18, g19, g20, g21, g22, g23, g24, g25, g26, g27, g28, g29, g30, g31, .func (.func 43) #[] #[.pointer (some ⟨Bs, 0, none⟩)], .agg (nX (pre m) x).vals, g34, g35, g36, g37, g38, g39, g40, g41, g42, g43, g44, g45, g46, g47, g48, g49, g50, g51, g52, g53, g54, g55, g56, g57, g58, g59, g60, g61, g62, g63, g64, g65, g66, g67, g68, g69, g70, g71, g72, g73, g74, g75, g76, g77, g78, g79, g80, g81, g82, g83, g84, g85, g86, g87, g88, g89, g90, g91, g92, g93, g94, g95, g96, g97, g98, g99, g100, g101, g102, g103, g104, g105, g106, g107, g108, g109, g110, g111, g112, g113, g114, g115, g116], defers := [] } ∧ NdH Y Bt (nX (pre m) x))
    (fun x a' => ax_own a' _ _) ?assign ?body ?done ?stop
  case hKb => exact fun Y l o o' h1 h2 h3 h4 => Kc.bound (w := W0) Y l o o' h1 h2 h3 h4
  case assign =>
    rintro lo pr x Y K hi hK
    rw [enc_nX]
    obtain ⟨X, eX⟩ : ∃ X, nX (pre m) x = X := ⟨_, rfl⟩
    rw [eX] at hK ⊢
    have HK : Hid (∀ a', (∃ Bt, a' = _ ∧ NdH (Y.alloc (.cells X.vals 28)) Bt X) → K a' (Y.alloc (.cells X.vals 28))) := fun a' hA => hK a' _ (keeps_below (below_new _ _) _) (Kc.of_below (below_new _ _)) ⟨trivial, hi.2.below (below_new _ _)⟩ hA
    clear hK hi eX
    unfold Nd.vals hdA at HK ⊢
    gi_wp2
    exact HK.out _ ⟨Y.heap.size, rfl, heap_new _ _⟩
  case done =>
    rintro D xs Z hD rfl ⟨_, hic⟩ hK
    rw [List.length_range] at hic
    have low : ∀ b, b < Bi → Z.heap[b]? = W0.heap[b]? := fun b hb => hic.mv.block b (by omega) (fun e => by omega)
    have hbZ : Below w.heap.size w Z := ((Mv.ofBelow hB0).trans hic.mv (fun b e => .inr (by omega))).toBelow
    have hgl : ∀ j, j < (pre m).length → g < Bi := fun j hj => by have := (hrow j hj).lt; omega
    go_wp2_with fail
    exact alls_end C3 HC3.out m w Z hl hbZ hz Bm Ba Bw Bs Bf Bi g cap most ((pre m).length : Nat) ((low _ lm).trans zm) ((low _ la).trans za) ((low _ lw).trans zw) ((low _ ls).trans zs) ((low _ lf).trans zf) hic.cnt (fun j hj => (zr j hj).blk (low g (hgl j hj))) hcap hwa (.inl rfl) D hK (by omega) _ _ _ _ _ _ _ _ _ _ _ _ _ _ _ _ _ _ _ _ _ _ _ _ _ _ _ _ _ _ _ _ _ _ _ _ _ _ _ _ _ _ _ _ _ _ _ _ _ _ _ _ _ _ _ _ _ _ _ _ _ _ _ _ _ _ _ _ _ _ _ _ _ _ _ _ _ _ _ _ _ _ _ _ _ _ _ _ _ _ _ _ _ _ _ _ _ _ _ _ _ _ _ _ _ _ _ _ _ _ _ _
  case stop =>
    rintro D c pr Z hD hpre (⟨rfl, hm, ha⟩ | ⟨rfl, k, hk, hic⟩ | h) hK
    · refine wpIn_ret ?_
      have hfin : ∀ (tmps : Array Value), tmps[4]?.getD undef = .pointer (some ⟨Ba, 0, none⟩) → LeavesInM Fence.wide 3 Tryd.prog Tryd.f4 tmps (fun e w' => e = .returned (.bool true) ∧ Below w.heap.size w w') ([D].map dmark) .returning Z := by
        intro tmps ht
        refine leaves_marks (v := .bool true) [D] _ (by simp) (fun D' hD' => ?_) (fun W' m' => ?_)
        · obtain rfl := List.mem_singleton.1 hD'
          exact hK
        · have bz' : Boxed W' Ba 4 (.bool true) := (m'.block _ ha.lt (fun e => by simp at e; omega)).trans ha
          refine ⟨result4 _ _ ⟨Ba, 0, none⟩ ht bz'.cell, rfl, ?_⟩
          exact (((Mv.ofBelow hB0).trans hm (fun b e => .inr (by rcases e with e | e <;> omega))).trans m' (fun b e => .inr (by simp at e; omega))).toBelow
      exact hfin _ rfl
    · have low : ∀ b, b < Bi → Z.heap[b]? = W0.heap[b]? := fun b hb => hic.mv.block b (by omega) (fun e => by omega)
      have hbZ : Below w.heap.size w Z := ((Mv.ofBelow hB0).trans hic.mv (fun b e => .inr (by omega))).toBelow
      have hgl : ∀ j, j < (pre m).length → g < Bi := fun j hj => by have := (hrow j hj).lt; omega
      refine wpIn_exit ?_
      go_wp2_with fail
      exact alls_end C3 HC3.out m w Z hl hbZ hz Bm Ba Bw Bs Bf Bi g cap most (k : Nat) ((low _ lm).trans zm) ((low _ la).trans za) ((low _ lw).trans zw) ((low _ ls).trans zs) ((low _ lf).trans zf) hic.cnt (fun j hj => (zr j hj).blk (low g (hgl j hj))) hcap hwa (.inr hk) D hK (by omega) _ _ _ _ _ _ _ _ _ _ _ _ _ _ _ _ _ _ _ _ _ _ _ _ _ _ _ _ _ _ _ _ _ _ _ _ _ _ _ _ _ _ _ _ _ _ _ _ _ _ _ _ _ _ _ _ _ _ _ _ _ _ _ _ _ _ _ _ _ _ _ _ _ _ _ _ _ _ _ _ _ _ _ _ _ _ _ _ _ _ _ _ _ _ _ _ _ _ _ _ _ _ _ _ _ _ _ _ _ _ _ _
    · exact absurd hpre h
  case body =>
    rintro lo pr x a' Y hlo ⟨rr, hrr⟩ ⟨_, hic⟩ ⟨Bt, rfl, hX⟩ hlen
    obtain ⟨k, hk⟩ : ∃ k, pr.length = k := ⟨_, rfl⟩
    have HPK : Hid (pr.length = k) := hk
    have HPK1 : Hid ((pr ++ [x]).length = k + 1) := by show _ = _; rw [List.length_append, hk]; rfl
    rw [hk] at hic hlen
    have low : ∀ b, b < Bi → Y.heap[b]? = W0.heap[b]? := fun b hb => hic.mv.block b (by omega) (fun e => by omega)
    have ta : Boxed Y Ba 4 (.bool false) := (low _ la).trans za
    have tw : Boxed Y Bw 26 (.slice (some ⟨g, 0, none⟩) (pre m).length cap) := (low _ lw).trans zw
    have tm : Boxed Y Bm 3 (.int .i64 most) := (low _ lm).trans zm
    have hgl : g < Bi := by have := (hrow k hlen).lt; omega
    have tr := (zr k hlen).blk (low g hgl)
    have hsame : x = k → idB (nX (pre m) x) (ldF (pre m) k) = true := fun e => by rw [e]; exact same_at hlen
    have hbY : Below w.heap.size w Y := ((Mv.ofBelow hB0).trans hic.mv (fun b e => .inr (by omega))).toBelow
    have cS : ∀ d os, Calls Tryd.prog 18 #[.agg (nX (pre m) x).vals, .agg (ldF (pre m) k).vals] (grow (redrawn Y d) os) fun e w'' => e = .returned (.bool (idB (nX (pre m) x) (ldF (pre m) k))) ∧ ∃ p : Regrown, w'' = grow (redrawn Y p.d) p.os := fun d os => Calls.regrown_of (some_any _ _ _ ((liesX hl x).on (below2 hbY (below_regrown Y d os))) ((liesK hl hlen).on (below2 hbY (below_regrown Y d os))))
    obtain ⟨X, eX⟩ : ∃ X, nX (pre m) x = X := ⟨_, rfl⟩
    obtain ⟨U, eU⟩ : ∃ U, ldF (pre m) k = U := ⟨_, rfl⟩
    rw [eX] at hX hsame cS ⊢
    rw [eU] at tr hsame cS
    obtain ⟨r, er⟩ : ∃ r, idB X U = r := ⟨_, rfl⟩
    rw [er] at hsame cS
    have HSM : Hid (x = k → r = true) := hsame
    have HX : Hid (NdH Y Bt X) := hX
    have hXA := hX.at
    have y0 : ∀ d os, (grow (redrawn Y d) os).cell? ⟨Bt, 0, none⟩ = some (.int .u8 X.h.k) := cell_regrown (hXA.c0)
    have y1 : ∀ d os, (grow (redrawn Y d) os).cell? ⟨Bt, 1, none⟩ = some (.int .u8 X.h.o) := cell_regrown (hXA.c1)
    have y2 : ∀ d os, (grow (redrawn Y d) os).cell? ⟨Bt, 2, none⟩ = some (.int .u8 X.h.t) := cell_regrown (hXA.c2)
    have y3 : ∀ d os, (grow (redrawn Y d) os).cell? ⟨Bt, 3, none⟩ = some (.int .i64 X.h.n) := cell_regrown (hXA.c3)
    have y4 : ∀ d os, (grow (redrawn Y d) os).cell? ⟨Bt, 4, none⟩ = some (.int .u8 X.h.f) := cell_regrown (hXA.c4)
    have y5 : ∀ d os, (grow (redrawn Y d) os).cell? ⟨Bt, 5, none⟩ = some (.string X.h.x) := cell_regrown (hXA.c5)
    have y6 : ∀ d os, (grow (redrawn Y d) os).cell? ⟨Bt, 6, none⟩ = some (.slice X.a X.ks.length X.c) := cell_regrown (hXA.c6)
    have y7 : ∀ d os, (grow (redrawn Y d) os).cell? ⟨Bt, 7, none⟩ = some (.int .i64 X.h.p) := cell_regrown (hXA.c7)
    have r0 : ∀ d os, (grow (redrawn Y d) os).cell? ⟨g, k * 8, none⟩ = some (.int .u8 U.h.k) := cell_regrown (tr.c0)
    have r1 : ∀ d os, (grow (redrawn Y d) os).cell? ⟨g, k * 8 + 1, none⟩ = some (.int .u8 U.h.o) := cell_regrown (tr.c1)
    have r2 : ∀ d os, (grow (redrawn Y d) os).cell? ⟨g, k * 8 + 2, none⟩ = some (.int .u8 U.h.t) := cell_regrown (tr.c2)
    have r3 : ∀ d os, (grow (redrawn Y d) os).cell? ⟨g, k * 8 + 3, none⟩ = some (.int .i64 U.h.n) := cell_regrown (tr.c3)
    have r4 : ∀ d os, (grow (redrawn Y d) os).cell? ⟨g, k * 8 + 4, none⟩ = some (.int .u8 U.h.f) := cell_regrown (tr.c4)
    have r5 : ∀ d os, (grow (redrawn Y d) os).cell? ⟨g, k * 8 + 5, none⟩ = some (.string U.h.x) := cell_regrown (tr.c5)
    have r6 : ∀ d os, (grow (redrawn Y d) os).cell? ⟨g, k * 8 + 6, none⟩ = some (.slice U.a U.ks.length U.c) := cell_regrown (tr.c6)
    have r7 : ∀ d os, (grow (redrawn Y d) os).cell? ⟨g, k * 8 + 7, none⟩ = some (.int .i64 U.h.p) := cell_regrown (tr.c7)
    have kw : ∀ d os, (grow (redrawn Y d) os).cell? ⟨Bw, 0, none⟩ = some (.slice (some ⟨g, 0, none⟩) (pre m).length cap) := cell_regrown tw.cell
    have ki : ∀ d os, (grow (redrawn Y d) os).cell? ⟨Bi, 0, none⟩ = some (.int .i64 (k : Nat)) := cell_regrown hic.cnt.cell
    unfold Nd.vals hdA at cS
    have cw := tw.cell
    have cc := hic.cnt.cell
    have hl1 : (k : Int) < ((pre m).length : Int) := by omega
    have hl2 : ¬ ((pre m).length : Int) ≤ (k : Int) := by omega
    have hl3 : decide (((pre m).length : Int) ≤ (k : Int)) = false := decide_eq_false hl2
    have hl4 : decide ((pre m).length ≤ k) = false := decide_eq_false (by omega)
    have hmx : (k : Int) + 1 ≤ 9223372036854775807 := by omega
    have HIC := hic.hid
    have HTA : Hid (Boxed Y Ba 4 (.bool false)) := ta
    have HTM : Hid (Boxed Y Bm 3 (.int .i64 most)) := tm
    have HTW : Hid (Boxed Y Bw 26 (.slice (some ⟨g, 0, none⟩) (pre m).length cap)) := tw
    have HBY : Hid (Below w.heap.size w Y) := hbY
    have HRR : Hid (Y.heap[lo]? = some (.loop rr)) := hrr
    have LOW : Hid (∀ b, b < Bi → Y.heap[b]? = W0.heap[b]?) := low
    clear hic low ta tw tm tr hX hXA eX eU hsame hk er hbY hrr
    gi_wp2
    refine wpIn_region_roundB (by kernel_rfl) (by kernel_rfl) (by kernel_rfl) ?_
    repeat (go_big_quiet_step (exact cS _ _))
    refine wpQuiet_nil ?_
    intro _ hw'
    obtain ⟨⟨dq, osq⟩, hw''⟩ := hw'
    subst hw''
    have hb1 : Below Y.heap.size Y (grow (redrawn Y dq) osq) := below_regrown Y dq osq
    generalize grow (redrawn Y dq) osq = Y1 at hb1 ⊢
    clear cS y0 y1 y2 y3 y4 y5 y6 y7 r0 r1 r2 r3 r4 r5 r6 r7 kw ki cw cc
    have IC1 := (HIC.out.below hb1).hid
    have HTA1 : Hid (Boxed Y1 Ba 4 (.bool false)) := (hb1.block _ HTA.out.lt).trans HTA.out
    have HTM1 : Hid (Boxed Y1 Bm 3 (.int .i64 most)) := (hb1.block _ HTM.out.lt).trans HTM.out
    have HB1 : Hid (Below Y.heap.size Y Y1) := hb1
    clear hb1
    have ci := IC1.out.cnt.cell
    have fi := IC1.out.cnt.frozen
    have ca := HTA1.out.cell
    have fa := HTA1.out.frozen
    have cm := HTM1.out.cell
    cases r with
    | false =>
      gi_wp2
      have mm : Mv Y (Y1.setCell ⟨Ba, 0, none⟩ (.bool false)) (fun b => b = Ba) := ((Mv.ofBelow HB1.out).mono (F' := fun b => b = Ba) (fun _ e => e.elim)).setCell (a := ⟨Ba, 0, none⟩) (Or.inl (rfl : Ba = Ba)) _
      exact ⟨keeps_box mm HTA.out _, .inr (.inr (not_prefix (by rw [HPK.out]; exact fun e => by have := HSM.out e; cases this)))⟩
    | true =>
    by_cases h2 : 200 < k
    · have h2a : (200 : Int) < (k : Int) := by omega
      have h2b : decide ((200 : Int) < (k : Int)) = true := decide_eq_true h2a
      clear h2
      gi_wp2
      have mm : Mv Y (Y1.setCell ⟨Ba, 0, none⟩ (.bool true)) (fun b => b = Ba) := ((Mv.ofBelow HB1.out).mono (F' := fun b => b = Ba) (fun _ e => e.elim)).setCell (a := ⟨Ba, 0, none⟩) (Or.inl (rfl : Ba = Ba)) _
      exact ⟨keeps_box mm HTA.out _, .inl ⟨rfl, (HIC.out.mv.mono (F' := fun b => b = Bi ∨ b = Ba) (fun b e => .inl e)).trans mm (fun b e => .inl (.inr e)), Boxed.set _ HTA1.out⟩⟩
    have h2a : ¬ (200 : Int) < (k : Int) := by omega
    have h2b : decide ((200 : Int) < (k : Int)) = false := decide_eq_false h2a
    by_cases h3 : (k : Int) = most
    · have h3a : ((k : Int) == most) = true := by simpa using h3
      have H3 : Hid ((k : Int) = most) := h3
      clear h3
      gi_wp2
      exact ⟨keeps_below HB1.out _, .inr (.inl ⟨rfl, k, H3.out, IC1.out⟩)⟩
    have h3a : ((k : Int) == most) = false := beq_false_of_ne h3
    obtain ⟨Bk, hBk⟩ : ∃ b, Y1.heap.size = b := ⟨_, rfl⟩
    obtain ⟨W2, hW2⟩ : ∃ V, Y1.alloc (.cells #[.int .i64 0] 3) = V := ⟨_, rfl⟩
    have b2 : Below Y1.heap.size Y1 W2 := by rw [← hW2]; exact below_new _ _
    have s2 : W2.heap.size = Bk + 1 := by rw [← hW2]; simp [hBk]
    have ak : Boxed W2 Bk 3 (.int .i64 0) := by rw [← hW2, ← hBk]; exact Boxed.new Y1 3 _
    have b3 : Below Y.heap.size Y W2 := below2 HB1.out b2
    have hYs : Bi < Y.heap.size := HIC.out.cnt.lt
    have hYk : Y.heap.size ≤ Bk := by rw [← hBk]; exact HB1.out.size
    have lowA : ∀ b, b < Bi → W2.heap[b]? = W0.heap[b]? := fun b hb => (b3.block b (by omega)).trans (LOW.out b hb)
    have az : NdH W2 Bs m := (lowA _ ls).trans zs
    have af : Boxed W2 Bf 56 (.func (.func 43) #[] #[.pointer (some ⟨Bs, 0, none⟩)]) := (lowA _ lf).trans zf
    have ai : Boxed W2 Bi 3 (.int .i64 (k : Nat)) := (b3.block _ hYs).trans HIC.out.cnt
    have hrr2 : W2.heap[lo]? = some (.loop rr) := (b3.block lo (Array.getElem?_eq_some_iff.1 HRR.out).1).trans HRR.out
    have bAc : (Y1.alloc (.cells #[.int .i64 0] 3)).cell? ⟨Bf, 0, none⟩ = some (.func (.func 43) #[] #[.pointer (some ⟨Bs, 0, none⟩)]) := by rw [hW2]; exact af.cell
    have hB2 : Below w.heap.size w W2 := below2 HBY.out b3
    have HW2 : Hid (Y1.alloc (.cells #[.int .i64 0] 3) = W2) := hW2
    clear hW2
    have hend : ∀ Z, Mv W2 Z (fun b => b = Bk) → Boxed Z Bi 3 (.int .i64 (k : Nat)) ∧ (KeepsFrom W0.heap.size Y (Z.setCell ⟨Bi, 0, none⟩ (.int .i64 ((k : Int) + 1))) ∧ Kc (fun b => b = Bi) Y (Z.setCell ⟨Bi, 0, none⟩ (.int .i64 ((k : Int) + 1))) ∧ IC W0 Bi (k + 1) (Z.setCell ⟨Bi, 0, none⟩ (.int .i64 ((k : Int) + 1)))) := by
      intro Z mZ
      have mY : Mv Y Z (fun _ => False) := (Mv.ofBelow b3).trans mZ (fun b e => .inr (by omega))
      obtain ⟨u1, u2⟩ := HIC.out.up mY
      exact ⟨(mY.block _ hYs (fun e => e)).trans HIC.out.cnt, keeps_box u2 HIC.out.cnt _, u2.kc, u1⟩
    have HEND : Hid (_) := hend
    clear hend
    gi_wp2
    rw [HW2.out]
    clear bAc
    refine wpIn_rangeFunc_ownN (l₀ := lo) (r₀ := rr) rfl hrr2 (by omega) (gf := 43) (lb := #[.pointer (some ⟨Bs, 0, none⟩)]) rfl trivial (enters_of Tryd.func43 (by kernel_rfl) rfl)
      ((all_stops 9 m (fun b => b = Bk) Bs w W2 hl hB2 (fun b hb => by omega) az).inRound lo)
      (fun h k => h.trans k) ?hKb2 (Below.refl _ _) (fun _ => rfl)
      (fun pr2 Z => True ∧ IC W2 Bk pr2.length Z)
      (IX2 W2 Bk (pre m).length)
      (ic_own _ _ _) (fun c => ix2_own _ _ _ c) ⟨trivial, Mv.refl _ _, ak⟩
      (fun y a' Z => ∃ (Bu : Nat) (v34 v35 v36 v37 v38 v39 v40 v41 v42 v43 v44 v45 v46 v47 v48 v49 v50 v51 v52 v53 : Value), a' = { tmps := #[g0, g1, g2, .pointer (some ⟨Bm, 0, none⟩), .pointer (some ⟨Ba, 0, none⟩), g5, g6, .pointer (some ⟨Bw, 0, none⟩), .pointer (some ⟨Bf, 0, none⟩), .pointer (some ⟨Bi, 0, none⟩), .pointer (some ⟨Bt, 0, none⟩), .bool true, .pointer (some ⟨Bk, 0, none⟩), .pointer (some ⟨Bu, 0, none⟩), g14, g15, g16, g17, g18, g19, g20, g21, g22, g23, g24, g25, g26, g27, g28, g29, g30, g31, .func (.func 43) #[] #[.pointer (some ⟨Bs, 0, none⟩)], .agg X.vals, v34, v35, v36, v37, v38, v39, v40, v41, v42, v43, v44, v45, v46, v47, v48, v49, v50, v51, v52, v53, .func (.func 43) #[] #[.pointer (some ⟨Bs, 0, none⟩)], .agg (nX (pre m) y).vals, g56, g57, g58, g59, g60, g61, g62, g63, g64, g65, g66, g67, g68, g69, g70, g71, g72, g73, g74, g75, g76, g77, g78, g79, g80, g81, g82, g83, g84, g85, g86, g87, g88, g89, g90, g91, g92, g93, g94, g95, g96, g97, g98, g99, g100, g101, g102, g103, g104, g105, g106, g107, g108, g109, g110, g111, g112, g113, g114, g115, g116], defers := [] } ∧ NdH Z Bu (nX (pre m) y)) ?hAx2 ?assign2 ?body2 ?done2 ?stop2
    case hKb2 => exact fun Y l o o' h1 h2 h3 h4 => Kc.bound (w := W2) Y l o o' h1 h2 h3 h4
    case hAx2 =>
      intro y a' u Z Z' row hs hg hr
      obtain ⟨Bu, v34, v35, v36, v37, v38, v39, v40, v41, v42, v43, v44, v45, v46, v47, v48, v49, v50, v51, v52, v53, e1, e2⟩ := hs
      exact ⟨Bu, v34, v35, v36, v37, v38, v39, v40, v41, v42, v43, v44, v45, v46, v47, v48, v49, v50, v51, v52, v53, e1, ndh_grown e2 hg hr⟩
    case assign2 =>
      rintro lo2 pr2 y Z K hi hK
      rw [enc_nX]
      obtain ⟨X2, eX2⟩ : ∃ X, nX (pre m) y = X := ⟨_, rfl⟩
      rw [eX2] at hK ⊢
      have HK2 : Hid (∀ a', (∃ (Bu : Nat) (v34 v35 v36 v37 v38 v39 v40 v41 v42 v43 v44 v45 v46 v47 v48 v49 v50 v51 v52 v53 : Value), a' = _ ∧ NdH (Z.alloc (.cells X2.vals 28)) Bu X2) → K a' (Z.alloc (.cells X2.vals 28))) := fun a' hA => hK a' _ (keeps_below (below_new _ _) _) (Kc.of_below (below_new _ _)) ⟨trivial, hi.2.below (below_new _ _)⟩ hA
      clear hK hi eX2
      unfold Nd.vals hdA at HK2 ⊢
      gi_wp2
      exact HK2.out _ ⟨Z.heap.size, _, _, _, _, _, _, _, _, _, _, _, _, _, _, _, _, _, _, _, _, rfl, heap_new _ _⟩
    case body2 =>
      rintro lo2 pr2 y a' Z hl2 _ ⟨_, hic2⟩ ⟨Bu, v34, v35, v36, v37, v38, v39, v40, v41, v42, v43, v44, v45, v46, v47, v48, v49, v50, v51, v52, v53, rfl, hX2⟩ hlen2
      obtain ⟨j, hj⟩ : ∃ j, pr2.length = j := ⟨_, rfl⟩
      have HPJ : Hid (pr2.length = j) := hj
      have HPJ1 : Hid ((pr2 ++ [y]).length = j + 1) := by show _ = _; rw [List.length_append, hj]; rfl
      rw [hj] at hic2 hlen2
      have lowZ : ∀ b, b < Bi → Z.heap[b]? = W0.heap[b]? := fun b hb => (hic2.mv.block b (by omega) (fun e => by omega)).trans (lowA b hb)
      have ti : Boxed Z Bi 3 (.int .i64 (k : Nat)) := (hic2.mv.block Bi (by omega) (fun e => by omega)).trans ai
      have ta : Boxed Z Ba 4 (.bool false) := (lowZ _ la).trans za
      have tw : Boxed Z Bw 26 (.slice (some ⟨g, 0, none⟩) (pre m).length cap) := (lowZ _ lw).trans zw
      have tr := (zr j hlen2).blk (lowZ g hgl)
      have hsame : y = j → idB (nX (pre m) y) (ldF (pre m) j) = true := fun e => by rw [e]; exact same_at hlen2
      have hbZ : Below w.heap.size w Z := ((Mv.ofBelow hB2).trans hic2.mv (fun b e => .inr (by omega))).toBelow
      have cS : ∀ d os, Calls Tryd.prog 18 #[.agg (nX (pre m) y).vals, .agg (ldF (pre m) j).vals] (grow (redrawn Z d) os) fun e w'' => e = .returned (.bool (idB (nX (pre m) y) (ldF (pre m) j))) ∧ ∃ p : Regrown, w'' = grow (redrawn Z p.d) p.os := fun d os => Calls.regrown_of (some_any _ _ _ ((liesX hl y).on (below2 hbZ (below_regrown Z d os))) ((liesK hl hlen2).on (below2 hbZ (below_regrown Z d os))))
      obtain ⟨X2, eX2⟩ : ∃ X, nX (pre m) y = X := ⟨_, rfl⟩
      obtain ⟨U2, eU2⟩ : ∃ U, ldF (pre m) j = U := ⟨_, rfl⟩
      rw [eX2] at hX2 hsame cS ⊢
      rw [eU2] at tr hsame cS
      obtain ⟨r, er⟩ : ∃ r, idB X2 U2 = r := ⟨_, rfl⟩
      rw [er] at hsame cS
      have HSM2 : Hid (y = j → r = true) := hsame
      have hXA := hX2.at
      have y0 : ∀ d os, (grow (redrawn Z d) os).cell? ⟨Bu, 0, none⟩ = some (.int .u8 X2.h.k) := cell_regrown (hXA.c0)
      have y1 : ∀ d os, (grow (redrawn Z d) os).cell? ⟨Bu, 1, none⟩ = some (.int .u8 X2.h.o) := cell_regrown (hXA.c1)
      have y2 : ∀ d os, (grow (redrawn Z d) os).cell? ⟨Bu, 2, none⟩ = some (.int .u8 X2.h.t) := cell_regrown (hXA.c2)
      have y3 : ∀ d os, (grow (redrawn Z d) os).cell? ⟨Bu, 3, none⟩ = some (.int .i64 X2.h.n) := cell_regrown (hXA.c3)
      have y4 : ∀ d os, (grow (redrawn Z d) os).cell? ⟨Bu, 4, none⟩ = some (.int .u8 X2.h.f) := cell_regrown (hXA.c4)
      have y5 : ∀ d os, (grow (redrawn Z d) os).cell? ⟨Bu, 5, none⟩ = some (.string X2.h.x) := cell_regrown (hXA.c5)
      have y6 : ∀ d os, (grow (redrawn Z d) os).cell? ⟨Bu, 6, none⟩ = some (.slice X2.a X2.ks.length X2.c) := cell_regrown (hXA.c6)
      have y7 : ∀ d os, (grow (redrawn Z d) os).cell? ⟨Bu, 7, none⟩ = some (.int .i64 X2.h.p) := cell_regrown (hXA.c7)
      have r0 : ∀ d os, (grow (redrawn Z d) os).cell? ⟨g, j * 8, none⟩ = some (.int .u8 U2.h.k) := cell_regrown (tr.c0)
      have r1 : ∀ d os, (grow (redrawn Z d) os).cell? ⟨g, j * 8 + 1, none⟩ = some (.int .u8 U2.h.o) := cell_regrown (tr.c1)
      have r2 : ∀ d os, (grow (redrawn Z d) os).cell? ⟨g, j * 8 + 2, none⟩ = some (.int .u8 U2.h.t) := cell_regrown (tr.c2)
      have r3 : ∀ d os, (grow (redrawn Z d) os).cell? ⟨g, j * 8 + 3, none⟩ = some (.int .i64 U2.h.n) := cell_regrown (tr.c3)
      have r4 : ∀ d os, (grow (redrawn Z d) os).cell? ⟨g, j * 8 + 4, none⟩ = some (.int .u8 U2.h.f) := cell_regrown (tr.c4)
      have r5 : ∀ d os, (grow (redrawn Z d) os).cell? ⟨g, j * 8 + 5, none⟩ = some (.string U2.h.x) := cell_regrown (tr.c5)
      have r6 : ∀ d os, (grow (redrawn Z d) os).cell? ⟨g, j * 8 + 6, none⟩ = some (.slice U2.a U2.ks.length U2.c) := cell_regrown (tr.c6)
      have r7 : ∀ d os, (grow (redrawn Z d) os).cell? ⟨g, j * 8 + 7, none⟩ = some (.int .i64 U2.h.p) := cell_regrown (tr.c7)
      have kw : ∀ d os, (grow (redrawn Z d) os).cell? ⟨Bw, 0, none⟩ = some (.slice (some ⟨g, 0, none⟩) (pre m).length cap) := cell_regrown tw.cell
      have kk : ∀ d os, (grow (redrawn Z d) os).cell? ⟨Bk, 0, none⟩ = some (.int .i64 (j : Nat)) := cell_regrown hic2.cnt.cell
      unfold Nd.vals hdA at cS
      have cw := tw.cell
      have ck := hic2.cnt.cell
      have ci2 := ti.cell
      have hj1 : (j : Int) < ((pre m).length : Int) := by omega
      have hj2 : ¬ ((pre m).length : Int) ≤ (j : Int) := by omega
      have hj3 : decide (((pre m).length : Int) ≤ (j : Int)) = false := decide_eq_false hj2
      have hj4 : decide ((pre m).length ≤ j) = false := decide_eq_false (by omega)
      have hmj : (j : Int) + 1 ≤ 9223372036854775807 := by omega
      have HIC2 := hic2.hid
      have HTA2 : Hid (Boxed Z Ba 4 (.bool false)) := ta
      clear hic2 lowZ ta tw tr hX2 hXA eX2 eU2 hsame hj er hbZ ti ci fi ca fa cm
      by_cases h4 : 20 < j
      · have h4a : (20 : Int) < (j : Int) := by omega
        have h4b : decide ((20 : Int) < (j : Int)) = true := decide_eq_true h4a
        clear h4 cS
        gi_wp2
        exact ⟨keeps_below (Below.refl _ _) _, .inl ⟨rfl, HIC2.out.mv⟩⟩
      have h4a : ¬ (20 : Int) < (j : Int) := by omega
      have h4b : decide ((20 : Int) < (j : Int)) = false := decide_eq_false h4a
      by_cases h5 : 2 < k
      · have h5a : (2 : Int) < (k : Int) := by omega
        have h5b : decide ((2 : Int) < (k : Int)) = true := decide_eq_true h5a
        clear h5 cS
        gi_wp2
        exact ⟨keeps_below (Below.refl _ _) _, .inl ⟨rfl, HIC2.out.mv⟩⟩
      have h5a : ¬ (2 : Int) < (k : Int) := by omega
      have h5b : decide ((2 : Int) < (k : Int)) = false := decide_eq_false h5a
      gi_wp2
      refine wpIn_region_roundB (by kernel_rfl) (by kernel_rfl) (by kernel_rfl) ?_
      repeat (go_big_quiet_step (exact cS _ _))
      refine wpQuiet_nil ?_
      intro _ hw'
      obtain ⟨⟨dq, osq⟩, hw''⟩ := hw'
      subst hw''
      have hb1 : Below Z.heap.size Z (grow (redrawn Z dq) osq) := below_regrown Z dq osq
      generalize grow (redrawn Z dq) osq = Z1 at hb1 ⊢
      clear cS y0 y1 y2 y3 y4 y5 y6 y7 r0 r1 r2 r3 r4 r5 r6 r7 kw kk cw ck ci2
      have HZ1 : Hid (Below Z.heap.size Z Z1) := hb1
      have IC21 := (HIC2.out.below hb1).hid
      have HTA3 : Hid (Boxed Z1 Ba 4 (.bool false)) := (hb1.block _ HTA2.out.lt).trans HTA2.out
      clear hb1
      have ck := IC21.out.cnt.cell
      have fk := IC21.out.cnt.frozen
      have ca := HTA3.out.cell
      have fa := HTA3.out.frozen
      cases r with
      | false =>
        gi_wp2
        have mm : Mv Z (Z1.setCell ⟨Ba, 0, none⟩ (.bool false)) (fun b => b = Ba) := ((Mv.ofBelow HZ1.out).mono (F' := fun b => b = Ba) (fun _ e => e.elim)).setCell (a := ⟨Ba, 0, none⟩) (Or.inl (rfl : Ba = Ba)) _
        exact ⟨keeps_box mm HTA2.out _, .inr (not_prefix (by rw [HPJ.out]; exact fun e => by have := HSM2.out e; cases this))⟩
      | true =>
        gi_wp2
        obtain ⟨u1, u2⟩ := HIC2.out.up (Mv.ofBelow HZ1.out)
        exact ⟨keeps_box u2 HIC2.out.cnt _, u2.kc, by first | exact ⟨trivial, by rw [HPJ1.out]; exact u1⟩ | (show IC W2 Bk (pr2 ++ [y]).length _; rw [HPJ1.out]; exact u1)⟩
    case done2 =>
      rintro ys Z rfl ⟨_, hic2⟩
      obtain ⟨ti, hh⟩ := HEND.out Z hic2.mv
      have ci2 := ti.cell
      have fi2 := ti.frozen
      have HH : Hid (_) := hh
      clear hh hic2 ci fi ca fa cm ti
      gi_wp2
      obtain ⟨e1, e2, e3⟩ := HH.out
      exact ⟨e1, e2, trivial, by rw [HPK1.out]; exact e3⟩
    case stop2 =>
      rintro c pr2 Z hp (⟨rfl, hm2⟩ | h)
      rotate_left
      · exact absurd hp h
      obtain ⟨ti, hh⟩ := HEND.out Z hm2
      have ci2 := ti.cell
      have fi2 := ti.frozen
      have HH : Hid (_) := hh
      clear hh hm2 ci fi ca fa cm ti
      refine wpIn_exit ?_
      gi_wp2
      obtain ⟨e1, e2, e3⟩ := HH.out
      exact ⟨e1, e2, trivial, by rw [HPK1.out]; exact e3⟩
end Go.Proofs.YtighocmdlifheaaDoor
