/-
  Reads, of one node that asks for a field.
-/
import Derived.Test.YtighocmdlifheaaDoorSz
import Derived.Test.YtighocmdlifheaaDoorRu
namespace Go.Proofs.YtighocmdlifheaaDoor
open Go.RowKit Go.Shelf
attribute [local go_sem] Oper.semAt_some
/-- Between two rounds: the fields that have come; no names. -/
structure Fh (w : World) (B C : Nat) (pr : List Nat) (W : World) : Prop where
  b : Boxed W B 33 (.int .u16 (if 0 ∈ pr then 2 else 0))
  c : Boxed W C 34 (.slice none 0 0)
  m : Below w.heap.size w W
theorem fh_own (w : World) (B C : Nat) {D : Nat} (hC : w.heap.size ≤ D) : OwnFrom D (Fh w B C) := by
  intro pr W W' row h hg hr
  exact ⟨boxed_own _ _ (fun (_ : Unit) => _) () W W' row h.b hg (fun x e => (hr x e).2), boxed_own _ _ (fun (_ : Unit) => _) () W W' row h.c hg (fun x e => (hr x e).2), h.m.grown hg h.m.size (fun k e => Nat.le_trans hC (hr k e).1)⟩
theorem results_t23 {P : Program} {fn : Func} (h : fn.results = #[.tmp 2, .tmp 3]) (tmps : Array Value) (w : World) : (results fn tmps).run P w = .ok (.tuple #[tmps.getD 2 undef, tmps.getD 3 undef]) w := by
  simp [results, h]
theorem ndx_own {w : World} (a' : Act) (A : Nat → Value → Value → Value → Value → Value → Act) (T : Nd) : OwnFrom w.heap.size (fun (_ : Unit) W => ∃ Bt u5 u6 u8 u9 u10, a' = A Bt u5 u6 u8 u9 u10 ∧ NdH W Bt T) := by
  intro _ W W' row hs hg hr
  obtain ⟨Bt, u5, u6, u8, u9, u10, e, h⟩ := hs
  refine ⟨Bt, u5, u6, u8, u9, u10, e, (hg.block Bt h.lt (fun e => ?_)).trans h⟩
  obtain ⟨_, o, ho, hc⟩ := hr Bt e.symm
  rw [show W.heap[Bt]? = _ from h] at ho
  cases ho
  cases hc
set_option maxRecDepth 1000000 in
set_option maxHeartbeats 8000000 in
theorem reads_has (w : World) : Calls Tryd.prog 10 #[.agg hasN.vals] w fun e w' => e = .returned (.tuple #[.int .u16 2, .slice none 0 0]) ∧ Below w.heap.size w w' := by
  have hmm := @run_makeMap Tryd.prog
  have hl := liesHas w
  refine (callsIn_wide (n := 3)).1 (callsIn_of_wp_marks Tryd.func10 rfl trivial ?_ rfl)
  refine wpIn_wide.2 ?_
  simp only [Tryd.ntmps10, List.size_toArray, List.length_cons, List.length_nil, Nat.reduceAdd, Nat.reduceSub, Array.replicate_succ, Array.replicate_zero, List.push_toArray, List.append_toArray, List.nil_append, List.cons_append]
  obtain ⟨B0, hB0⟩ : ∃ x, w.heap.size = x := ⟨_, rfl⟩
  obtain ⟨U, eU⟩ : ∃ U, ((((w.alloc (.cells hasN.vals 28)).alloc (.cells #[.int .u16 0] 33)).alloc (.cells #[.slice none 0 0] 34)).alloc (.map #[] 0)).alloc (.cells #[.map (some (B0 + 1 + 1 + 1))] 80) = U := ⟨_, rfl⟩
  have sU : U.heap.size = B0 + 1 + 1 + 1 + 1 + 1 := by rw [← eU]; simp [hB0]
  have hU : Below w.heap.size w U := by rw [← eU]; exact ((((below_new w _).alloc (by simp) _).alloc (by simp <;> omega) _).alloc (by simp <;> omega) _).alloc (by simp <;> omega) _
  have u1 : Boxed U (B0 + 1) 33 (.int .u16 0) := by
    have := (((Boxed.new (w.alloc (.cells hasN.vals 28)) 33 (.int .u16 0)).alloc (.cells #[.slice none 0 0] 34)).alloc (.map #[] 0)).alloc (.cells #[.map (some (B0 + 1 + 1 + 1))] 80)
    rw [World.size_alloc, hB0] at this
    rw [← eU]; exact this
  have u2 : Boxed U (B0 + 1 + 1) 34 (.slice none 0 0) := by
    have := ((Boxed.new ((w.alloc (.cells hasN.vals 28)).alloc (.cells #[.int .u16 0] 33)) 34 (.slice none 0 0)).alloc (.map #[] 0)).alloc (.cells #[.map (some (B0 + 1 + 1 + 1))] 80)
    rw [World.size_alloc, World.size_alloc, hB0] at this
    rw [← eU]; exact this
  have hN : NdH U B0 hasN := by rw [← eU, ← hB0]; exact heap_old (heap_old (heap_old (heap_old (heap_new w _) (by simp)) (by simp <;> omega)) (by simp <;> omega)) (by simp <;> omega)
  have y0 : U.cell? ⟨B0, 0, none⟩ = some (.int .u8 4) := cell_of hN 0
  have y1 : U.cell? ⟨B0, 1, none⟩ = some (.int .u8 0) := cell_of hN 1
  have y2 : U.cell? ⟨B0, 2, none⟩ = some (.int .u8 0) := cell_of hN 2
  have y3 : U.cell? ⟨B0, 3, none⟩ = some (.int .i64 0) := cell_of hN 3
  have y4 : U.cell? ⟨B0, 4, none⟩ = some (.int .u8 1) := cell_of hN 4
  have y5 : U.cell? ⟨B0, 5, none⟩ = some (.string ⟨#[]⟩) := cell_of hN 5
  have y6 : U.cell? ⟨B0, 6, none⟩ = some (.slice none 0 0) := cell_of hN 6
  have y7 : U.cell? ⟨B0, 7, none⟩ = some (.int .i64 0) := cell_of hN 7
  have cL := all_any hasN U
  rw [sU] at cL
  obtain ⟨W1, eW1⟩ : ∃ W1, U.alloc (.cells hasN.vals 28) = W1 := ⟨_, rfl⟩
  have hbl : Below w.heap.size w W1 := by rw [← eW1]; exact hU.alloc hU.size _
  have s0 : W1.heap.size = B0 + 1 + 1 + 1 + 1 + 1 + 1 := by rw [← eW1, size_alloc, sU]
  have z1 : Boxed W1 (B0 + 1) 33 (.int .u16 0) := by rw [← eW1]; exact u1.alloc _
  have z2 : Boxed W1 (B0 + 1 + 1) 34 (.slice none 0 0) := by rw [← eW1]; exact u2.alloc _
  have z3 : NdH W1 (B0 + 1 + 1 + 1 + 1 + 1) hasN := by rw [← eW1, ← sU]; exact heap_new _ _
  rw [eW1] at cL
  have HB0 : Hid (w.heap.size = B0) := hB0
  have Hbl : Hid (Below w.heap.size w W1) := hbl
  have Hs0 : Hid (W1.heap.size = B0 + 1 + 1 + 1 + 1 + 1 + 1) := s0
  have Hz1 : Hid (Boxed W1 (B0 + 1) 33 (.int .u16 0)) := z1
  have Hz2 : Hid (Boxed W1 (B0 + 1 + 1) 34 (.slice none 0 0)) := z2
  have Hz3 : Hid (NdH W1 (B0 + 1 + 1 + 1 + 1 + 1) hasN) := z3
  have Hl : Hid (Lies w hasN) := hl
  clear eW1 sU hU u1 u2 hN hbl s0 z1 z2 z3 hl
  unfold Nd.vals hdA hasN at cL eU ⊢
  simp only [Nd.h, Nd.a, Nd.c, Nd.ks, List.length_nil] at cL eU ⊢
  go_wp2_with fail
  clear eU
  refine cL.mono ?_
  rintro e W2 ⟨rfl, e1⟩
  obtain rfl := e1
  go_wp2_with fail
  refine (wpIn_wide (n := 12)).1 ?_
  refine wpIn_rangeFunc_ownH rfl (by omega) (gf := 43) (lb := #[.pointer (some ⟨B0 + 1 + 1 + 1 + 1 + 1, 0, none⟩)]) rfl trivial (enters_of Tryd.func43 (by kernel_rfl) rfl)
    (all_stops 11 hasN (fun b => b = B0 + 1) (B0 + 1 + 1 + 1 + 1 + 1) w W2 Hl.out Hbl.out (fun b hb => by rw [Hs0.out, HB0.out, hb]; omega) Hz3.out)
    (fun h k => h.trans k) ?hKb (Below.refl _ _) (fun _ => rfl)
    (Fh w (B0 + 1) (B0 + 1 + 1))
    (fun _ pre _ => False)
    (fh_own w (B0 + 1) (B0 + 1 + 1) Hbl.out.size) (fun c => ownFrom_pure _ _) ⟨Hz1.out, Hz2.out, Hbl.out⟩
    (fun x a' W => ∃ Bt u5 u6 u8 u9 u10, a' = { tmps := #[.agg #[.int .u8 4, .int .u8 0, .int .u8 0, .int .i64 0, .int .u8 1, .string ⟨#[]⟩, .slice none 0 0, .int .i64 0], .pointer (some ⟨B0, 0, none⟩), .int .u16 0, .slice none 0 0, .pointer (some ⟨B0 + 1, 0, none⟩), u5, u6, .pointer (some ⟨Bt, 0, none⟩), u8, u9, u10, .agg (cutN ((pre hasN).getD x (.mk ⟨0, 0, 0, 0, 0, ⟨#[]⟩, 0⟩ none 0 []))).vals, undef, undef, undef, undef, undef, undef, undef, undef, undef, undef, undef, undef, undef, undef, undef, undef, undef, undef, undef, undef, undef, undef, undef, undef, undef, undef, undef, undef, undef], defers := [] } ∧ NdH W Bt (cutN ((pre hasN).getD x (.mk ⟨0, 0, 0, 0, 0, ⟨#[]⟩, 0⟩ none 0 []))))
    ?hAx ?assign ?body ?done ?stop
  case hKb => exact fun W l o o' h1 h2 h3 h4 => Kc.bound (w := W2) W l o o' h1 h2 h3 h4
  case hAx => exact fun x a' => ndx_own a' _ _
  case assign =>
    rintro lo pr x Y K hi hK
    unfold encN
    obtain ⟨T, eT⟩ : ∃ T, cutN ((pre hasN).getD x (.mk ⟨0, 0, 0, 0, 0, ⟨#[]⟩, 0⟩ none 0 [])) = T := ⟨_, rfl⟩
    rw [eT] at hK ⊢
    have HK : Hid (∀ a', (∃ Bt u5 u6 u8 u9 u10, a' = _ ∧ NdH (Y.alloc (.cells T.vals 28)) Bt T) → K a' (Y.alloc (.cells T.vals 28))) := fun a' hA => hK a' _ ⟨by simp, fun k o _ hk _ => (Below.heap_alloc _ _ _ (Array.getElem?_eq_some_iff.1 hk).1).trans hk⟩ (Kc.of_below (below_new _ _)) ((fh_own w (B0 + 1) (B0 + 1 + 1) (Nat.le_refl _)).alloc _ hi) hA
    clear hK hi eT
    unfold Nd.vals hdA at HK ⊢
    gi_wp2
    exact HK.out _ ⟨Y.heap.size, _, _, _, _, _, rfl, heap_new _ _⟩
  case body =>
    rintro lo pr x a' Y hlo hlr ⟨hb, hc, hm⟩ ⟨Bt, u5, u6, u8, u9, u10, rfl, hT⟩ hlen
    have HF : Hid (Fh w (B0 + 1) (B0 + 1 + 1) pr Y) := ⟨hb, hc, hm⟩
    have hne : Bt ≠ B0 + 1 := fun e => by
      subst e
      have h1 : Y.heap[B0 + 1]? = _ := hb
      have h2 : Y.heap[B0 + 1]? = _ := hT
      rw [h1] at h2
      cases h2
    obtain ⟨V, hV⟩ : ∃ V : Int, (if 0 ∈ pr then 2 else 0) = V := ⟨_, rfl⟩
    have hor : bits BinOp.or IntKind.u16 V 2 = 2 := by rw [← hV]; split <;> decide
    rw [hV] at hb
    have cb := hb.cell
    have fb := hb.frozen
    have HV : Hid ((if 0 ∈ pr then (2 : Int) else 0) = V) := hV
    have HT : Hid (Boxed Y (B0 + 1) 33 (.int .u16 V)) := hb
    clear hb hc hm hlen hlr hV
    rcases x with _ | x
    · have y0 : Y.cell? ⟨Bt, 0, none⟩ = some (.int .u8 4) := cell_of hT 0
      have y4 : Y.cell? ⟨Bt, 4, none⟩ = some (.int .u8 1) := cell_of hT 4
      clear hT
      gi_wp2
      refine ⟨⟨by simp [World.setCell], fun k o _ hk ho => (Below.heap_setCell _ _ _ _ (fun e => ?_)).trans hk⟩, ⟨by simp [World.setCell], fun k cs t fr hv _ => Below.heap_setCell _ _ _ _ hv⟩, ?_, ?_, HF.out.m.setCell (p := ⟨B0 + 1, 0, none⟩) (by rw [HB0.out]; exact Nat.le_succ _) _⟩
      · have e : k = B0 + 1 := e
        rw [e, show Y.heap[B0 + 1]? = _ from HT.out] at hk
        cases hk
        cases ho
      · rw [if_pos (by simp)]
        exact HT.out.set (.int .u16 2)
      · exact HF.out.c.other (by omega) _
    · have y0 : Y.cell? ⟨Bt, 0, none⟩ = some (.int .u8 0) := cell_of hT 0
      clear hT
      gi_wp2
      refine ⟨⟨Nat.le_refl _, fun _ _ _ h _ => h⟩, Kc.refl _ _, ?_, HF.out.c, HF.out.m⟩
      have e : (if 0 ∈ pr ++ [x + 1] then (2 : Int) else 0) = if 0 ∈ pr then 2 else 0 := by simp
      rw [e]
      exact HF.out.b
  case done =>
    rintro D xs W hD rfl ⟨hb, hc, hm⟩ hK
    have c1 := hb.cell
    have c2 := hc.cell
    have e1 : (0 ∈ List.range (pre hasN).length) := by decide
    rw [if_pos e1] at c1
    have HD : Hid (W.heap[D]? = some (.deferred (some []))) := hK
    have HM : Hid (Below w.heap.size w W) := hm
    clear hK hm hb hc
    go_upto_region 14 with fail
    go_quiet (fail)
    have HM2 : Hid (Below w.heap.size w (W.drewN nq)) := below_drew HM.out nq
    have HD2 : Hid ((W.drewN nq).heap[D]? = some (.deferred (some []))) := HD.out
    go_wp2_with fail
    refine leaves_marks (v := .tuple #[.int .u16 2, .slice none 0 0]) [D] (W.drewN nq) (by simp) (fun D' hD' => by simp at hD'; rw [hD']; exact HD2.out) (fun W' mv => ⟨results_t23 rfl _ _, rfl, ?_⟩)
    exact ((Mv.ofBelow HM2.out).trans mv (fun b e => .inr (by simp at e; rw [e]; have := Hbl.out.size; omega))).toBelow
  case stop =>
    intro D c pre W _ h1 h2 _
    exact absurd h2 (by simp)
end Go.Proofs.YtighocmdlifheaaDoor
