/-
  Size: how many nodes an expression has.
-/
import Derived.Test.YtighocmdlifheaaDoorIt
import Derived.Test.YtighocmdlifheaaDoorMv
namespace Go.Proofs.YtighocmdlifheaaDoor
open Go.RowKit Go.Shelf
attribute [local go_sem] Oper.semAt_some

/-- The marks that loops over functions have left. -/
def dmark (D : Nat) : Deferred := { target := .collected D, args := #[] }
theorem Mv.ofBelow {w w' : World} (h : Below w.heap.size w w') : Mv w w' (fun _ => False) := ⟨h.os, h.tape, h.output, h.size, fun k hk _ => h.block k hk⟩
theorem Mv.toBelow {w w' : World} (h : Mv w w' (fun _ => False)) : Below w.heap.size w w' := h.below (Nat.le_refl _) (fun _ e => e.elim)
theorem leaves_marks {fn : Func} {tmps : Array Value} {R : Ending → World → Prop} {v : Value} (Ds : List Nat) : ∀ (W : World), Ds.Nodup → (∀ D, D ∈ Ds → W.heap[D]? = some (.deferred (some []))) →
    (∀ W', Mv W W' (fun k => k ∈ Ds) → (results fn tmps).run Tryd.prog W' = .ok v W' ∧ R (.returned v) W') → LeavesInM Fence.wide 3 Tryd.prog fn tmps R (Ds.map dmark) .returning W := by
  induction Ds with
  | nil => intro W _ _ h; exact ⟨v, (h W (Mv.refl _ _)).1, (h W (Mv.refl _ _)).2⟩
  | cons D Ds ih =>
    intro W hnd hD h
    rw [List.nodup_cons] at hnd
    have h0 := hD D (by simp)
    refine ⟨by simp, .inl ⟨D, _, rfl, run_takeDeferred h0, ?_⟩⟩
    have hput : Mv W (W.putObj D (.deferred none)) (fun k => k = D) := ⟨rfl, rfl, rfl, by simp, fun k _ hk => World.putObj_heap_other (fun e => hk e)⟩
    refine ih _ hnd.2 (fun D' hD' => ?_) (fun W' m => h W' ?_)
    · rw [World.putObj_heap_other (fun e => hnd.1 (by rw [← e]; exact hD'))]
      exact hD D' (by simp [hD'])
    · exact (hput.mono (F' := fun k => k ∈ D :: Ds) (fun b e => by rw [e]; simp)).trans m (fun b e => .inl (by simp [e]))
/-- Between two rounds: so many have come. -/
structure Cn (w : World) (B : Nat) (pr : List Nat) (W : World) : Prop where
  b : Boxed W B 3 (.int .i64 pr.length)
  m : Below w.heap.size w W
theorem cn_own (w : World) (B : Nat) {C : Nat} (hC : w.heap.size ≤ C) : OwnFrom C (Cn w B) := by
  intro pr W W' row h hg hr
  exact ⟨boxed_own _ _ (fun (_ : Unit) => _) () W W' row h.b hg (fun x e => (hr x e).2), h.m.grown hg h.m.size (fun k e => Nat.le_trans hC (hr k e).1)⟩
theorem results_t1 {P : Program} {fn : Func} {p : Tmp} (h : fn.results = #[.tmp p]) (tmps : Array Value) (w : World) : (results fn tmps).run P w = .ok (tmps.getD p undef) w := by
  simp [results, h]
set_option maxRecDepth 1000000 in
set_option maxHeartbeats 8000000 in
theorem size_any (m : Nd) (w : World) (hl : Lies w m) (hz : size m ≤ 1000000000000) : Calls Tryd.prog 19 #[.agg m.vals] w fun e w' => e = .returned (.int .i64 (size m)) ∧ Below w.heap.size w w' := by
  have HZ : Hid (size m ≤ 1000000000000) := hz
  clear hz
  refine (callsIn_wide (n := 3)).1 (callsIn_of_wp_marks Tryd.func19 rfl trivial ?_ rfl)
  refine wpIn_wide.2 ?_
  simp only [Tryd.ntmps19, List.size_toArray, List.length_cons, List.length_nil, Nat.reduceAdd, Nat.reduceSub, Array.replicate_succ, Array.replicate_zero, List.push_toArray, List.append_toArray, List.nil_append, List.cons_append]
  obtain ⟨B0, hB0⟩ : ∃ x, w.heap.size = x := ⟨_, rfl⟩
  have cL := all_any m ((w.alloc (.cells m.vals 28)).alloc (.cells #[.int .i64 0] 3))
  obtain ⟨W0, hW0⟩ : ∃ W0, ((w.alloc (.cells m.vals 28)).alloc (.cells #[.int .i64 0] 3)).alloc (.cells m.vals 28) = W0 := ⟨_, rfl⟩
  have hbl : Below w.heap.size w W0 := by rw [← hW0]; exact (below_two _ _ _).alloc (by simp; omega) _
  have s0 : W0.heap.size = B0 + 3 := by rw [← hW0]; simp [hB0]
  have z1 : Boxed W0 (B0 + 1) 3 (.int .i64 0) := by
    have := (Boxed.new (w.alloc (.cells m.vals 28)) 3 (.int .i64 0)).alloc (.cells m.vals 28)
    rw [World.size_alloc, hB0] at this
    rw [← hW0]; exact this
  have z2 : NdH W0 (B0 + 2) m := by
    have := heap_new ((w.alloc (.cells m.vals 28)).alloc (.cells #[.int .i64 0] 3)) (.cells m.vals 28)
    rw [size_alloc, size_alloc, hB0] at this
    rw [← hW0]; exact this
  rw [hW0] at cL
  have e2 : ((w.alloc (.cells m.vals 28)).alloc (.cells #[.int .i64 0] 3)).heap.size = B0 + 2 := by rw [size_alloc, size_alloc, hB0]
  rw [e2] at cL
  clear e2
  unfold Nd.vals hdA at cL hW0 ⊢
  clear hW0
  go_wp2_with fail
  refine cL.mono ?_
  rintro e W1 ⟨rfl, e1⟩
  obtain rfl := e1
  go_wp2_with fail
  refine (wpIn_wide (n := 12)).1 ?_
  refine wpIn_rangeFunc_ownH rfl (by omega) (gf := 43) (lb := #[.pointer (some ⟨B0 + 2, 0, none⟩)]) rfl trivial (enters_of Tryd.func43 (by kernel_rfl) rfl)
    (all_stops 11 m (fun b => b = B0 + 1) (B0 + 2) w W1 hl hbl (fun b hb => by rw [s0, hB0, hb]; omega) z2)
    (fun h k => h.trans k) ?hKb (Below.refl _ _) (fun _ => rfl)
    (Cn w (B0 + 1))
    (fun _ pre _ => False)
    (cn_own w (B0 + 1) hbl.size) (fun c => ownFrom_pure _ _) ⟨z1, hbl⟩
    (fun _ a' _ => ∃ u, a' = { tmps := #[.agg #[.int .u8 m.h.k, .int .u8 m.h.o, .int .u8 m.h.t, .int .i64 m.h.n, .int .u8 m.h.f, .string m.h.x, .slice m.a m.ks.length m.c, .int .i64 m.h.p], .pointer (some ⟨B0, 0, none⟩), .int .i64 0, .pointer (some ⟨B0 + 1, 0, none⟩), .agg #[.int .u8 m.h.k, .int .u8 m.h.o, .int .u8 m.h.t, .int .i64 m.h.n, .int .u8 m.h.f, .string m.h.x, .slice m.a m.ks.length m.c, .int .i64 m.h.p], .func (.func 43) #[] #[.pointer (some ⟨B0 + 2, 0, none⟩)], u, undef, undef, undef], defers := [] })
    ?hAx ?assign ?body ?done ?stop
  case hKb => exact fun W l o o' h1 h2 h3 h4 => Kc.bound (w := W1) W l o o' h1 h2 h3 h4
  case hAx => exact fun x a' => ownFrom_pure _ (fun _ => _)
  case assign =>
    rintro lo pr x W K hi hK
    have HK : Hid (∀ a', (∃ u, a' = _) → K a' W) := fun a' ha => hK a' W ⟨Nat.le_refl _, fun _ _ _ h _ => h⟩ (Kc.refl _ _) hi ha
    clear hK hi
    unfold encN
    obtain ⟨u, eu⟩ : ∃ u, Value.agg (cutN ((pre m).getD x (.mk ⟨0, 0, 0, 0, 0, ⟨#[]⟩, 0⟩ none 0 []))).vals = u := ⟨_, rfl⟩
    rw [eu]
    have hA := HK.out _ ⟨u, rfl⟩
    clear HK
    gi_wp2
    simpa using hA
  case body =>
    rintro lo pr x a' W hlo _ ⟨b, hm⟩ ⟨u, rfl⟩ hlen
    have c1 := b.cell
    have f1 := b.frozen
    have HB : Hid (Boxed W (B0 + 1) 3 (.int .i64 pr.length)) := b
    have HM : Hid (Below w.heap.size w W) := hm
    have hmx : (pr.length : Int) + 1 ≤ 9223372036854775807 := by rw [size_pre] at hlen; have := HZ.out; omega
    clear b hm hlen
    gi_wp2
    refine ⟨⟨by simp [World.setCell], fun k o _ hk ho => (Below.heap_setCell _ _ _ _ (fun e => ?_)).trans hk⟩, ⟨by simp [World.setCell], fun k cs t fr hv _ => Below.heap_setCell _ _ _ _ hv⟩, ?_, HM.out.setCell (p := ⟨B0 + 1, 0, none⟩) (by rw [hB0]; exact Nat.le_succ _) _⟩
    · have e : k = B0 + 1 := e
      rw [e, show W.heap[B0 + 1]? = _ from HB.out] at hk
      cases hk
      cases ho
    · have := HB.out.set (.int .i64 ((pr.length : Int) + 1))
      rw [show ((pr ++ [x]).length : Int) = (pr.length : Int) + 1 by simp]
      exact this
  case done =>
    rintro D xs W hD rfl ⟨b, hm⟩ hK
    have c1 := b.cell
    have e1 : (List.range (pre m).length).length = size m := by rw [List.length_range, size_pre]
    rw [e1] at c1
    have HD : Hid (W.heap[D]? = some (.deferred (some []))) := hK
    have HM : Hid (Below w.heap.size w W) := hm
    clear hK hm b
    go_wp2_with fail
    refine leaves_marks (v := .int .i64 (size m)) [D] W (by simp) (fun D' hD' => by simp at hD'; rw [hD']; exact HD.out) (fun W' mv => ⟨results_t1 (p := 2) rfl _ _, rfl, ?_⟩)
    exact ((Mv.ofBelow HM.out).trans mv (fun b e => .inr (by simp at e; rw [e]; omega))).toBelow
  case stop =>
    intro D c pre W _ h1 h2 _
    exact absurd h2 (by simp)
end Go.Proofs.YtighocmdlifheaaDoor
