import Derived.Test.YtighocmdlifheaaDoorM5
import Derived.Test.YtighocmdlifheaaDoorM1
import Derived.Test.YtighocmdlifheaaDoorM4
/-
  Size: how many nodes an expression has.
-/
namespace Go.Proofs.YtighocmdlifheaaDoor
open Go.RowKit Go.Shelf
attribute [local go_sem] Oper.semAt_some

/-- The marks that loops over functions have left. -/
def dmark (D : Nat) : Deferred := { target := .collected D, args := #[] }
theorem Mv.ofBelow {w w' : World} (h : Below w.heap.size w w') : Mv w w' (fun _ => False) := ⟨h.os, h.tape, h.output, h.size, fun k hk _ => h.block k hk⟩
theorem Mv.toBelow {w w' : World} (h : Mv w w' (fun _ => False)) : Below w.heap.size w w' := h.below (Nat.le_refl _) (fun _ e => e.elim)
theorem leaves_marks {fn : Func} {tmps : Array Value} {R : Ending → World → Prop} {v : Value} (Ds : List Nat) : ∀ (W : World), Ds.Nodup → (∀ D, D ∈ Ds → W.heap[D]? = some (.deferred (some []))) →
    (∀ W', Mv W W' (fun k => k ∈ Ds) → (results fn tmps).run Tryd.prog W' = .ok v W' ∧ R (.returned v) W') → LeavesInM Fence.wide 3 Tryd.prog fn tmps R (Ds.map dmark) .returning W := by
  induction Ds with
  | nil => intro W _ _ h; exact ⟨v, (h W (Mv.refl _ _)).1, (h W (Mv.refl _ _)).2⟩
  | cons D Ds ih =>
    intro W hnd hD h
    rw [List.nodup_cons] at hnd
    have h0 := hD D (by simp)
    refine ⟨by simp, .inl ⟨D, _, rfl, run_takeDeferred h0, ?_⟩⟩
    have hput : Mv W (W.putObj D (.deferred none)) (fun k => k = D) := ⟨rfl, rfl, rfl, by simp, fun k _ hk => World.putObj_heap_other (fun e => hk e)⟩
    refine ih _ hnd.2 (fun D' hD' => ?_) (fun W' m => h W' ?_)
    · rw [World.putObj_heap_other (fun e => hnd.1 (by rw [← e]; exact hD'))]
      exact hD D' (by simp [hD'])
    · exact (hput.mono (F' := fun k => k ∈ D :: Ds) (fun b e => by rw [e]; simp)).trans m (fun b e => .inl (by simp [e]))
/-- Between two rounds: so many have come. -/
structure Cn (w : World) (B : Nat) (pr : List Nat) (W : World) : Prop where
  b : Boxed W B 3 (.int .i64 pr.length)
  m : Below w.heap.size w W
theorem cn_own (w : World) (B : Nat) {C : Nat} (hC : w.heap.size ≤ C) : OwnFrom C (Cn w B) := by
  intro pr W W' row h hg hr
  exact ⟨boxed_own _ _ (fun (_ : Unit) => _) () W W' row h.b hg (fun x e => (hr x e).2), h.m.grown hg h.m.size (fun k e => Nat.le_trans hC (hr k e).1)⟩
theorem results_t1 {P : Program} {fn : Func} {p : Tmp} (h : fn.results = #[.tmp p]) (tmps : Array Value) (w : World) : (results fn tmps).run P w = .ok (tmps.getD p undef) w := by
  simp [results, h]
set_option maxRecDepth 1000000 in
set_option maxHeartbeats 8000000 in
theorem size_any (m : Nd) (w : World) (hl : Lies w m) (hz : size m ≤ 1000000000000) : Calls Tryd.prog 19 #[.agg m.vals] w fun e w' => e = .returned (.int .i64 (size m)) ∧ Below w.heap.size w w' := by
  have HZ : Hid (size m ≤ 1000000000000) := hz
  clear hz
  refine (callsIn_wide (n := 3)).1 (callsIn_of_wp_marks Tryd.func19 rfl trivial ?_ rfl)
  refine wpIn_wide.2 ?_
  simp only [Tryd.ntmps19, List.size_toArray, List.length_cons, List.length_nil, Nat.reduceAdd, Nat.reduceSub, Array.replicate_succ, Array.replicate_zero, List.push_toArray, List.append_toArray, List.nil_append, List.cons_append]
  obtain ⟨B0, hB0⟩ : ∃ x, w.heap.size = x := ⟨_, rfl⟩
  have cL := all_any m ((w.alloc (.cells m.vals 28)).alloc (.cells #[.int .i64 0] 3))
  obtain ⟨W0, hW0⟩ : ∃ W0, ((w.alloc (.cells m.vals 28)).alloc (.cells #[.int .i64 0] 3)).alloc (.cells m.vals 28) = W0 := ⟨_, rfl⟩
  have hbl : Below w.heap.size w W0 := by rw [← hW0]; exact (below_two _ _ _).alloc (by simp; omega) _
  have s0 : W0.heap.size = B0 + 3 := by rw [← hW0]; simp [hB0]
  have z1 : Boxed W0 (B0 + 1) 3 (.int .i64 0) := by
    have := (Boxed.new (w.alloc (.cells m.vals 28)) 3 (.int .i64 0)).alloc (.cells m.vals 28)
    rw [World.size_alloc, hB0] at this
    rw [← hW0]; exact this
  have z2 : NdH W0 (B0 + 2) m := by
    have := heap_new ((w.alloc (.cells m.vals 28)).alloc (.cells #[.int .i64 0] 3)) (.cells m.vals 28)
    rw [size_alloc, size_alloc, hB0] at this
    rw [← hW0]; exact this
  rw [hW0] at cL
  have e2 : ((w.alloc (.cells m.vals 28)).alloc (.cells #[.int .i64 0] 3)).heap.size = B0 + 2 := by rw [size_alloc, size_alloc, hB0]
  rw [e2] at cL
  clear e2
  unfold Nd.vals hdA at cL hW0 ⊢
  clear hW0
  go_wp2_with fail
  refine cL.mono ?_
  rintro e W1 ⟨rfl, e1⟩
  obtain rfl := e1
  go_wp2_with fail
  refine (wpIn_wide (n := 12)).1 ?_
  refine wpIn_rangeFunc_ownH rfl (by omega) (gf := 43) (lb := #[.pointer (some ⟨B0 + 2, 0, none⟩)]) rfl trivial (enters_of Tryd.func43 (by kernel_rfl) rfl)
    (all_stops 11 m (fun b => b = B0 + 1) (B0 + 2) w W1 hl hbl (fun b hb => by rw [s0, hB0, hb]; omega) z2)
    (fun h k => h.trans k) ?hKb (Below.refl _ _) (fun _ => rfl)
    (Cn w (B0 + 1))
    (fun _ pre _ => False)
    (cn_own w (B0 + 1) hbl.size) (fun c => ownFrom_pure _ _) ⟨z1, hbl⟩
    (fun _ a' _ => ∃ u, a' = { tmps := #[.agg #[.int .u8 m.h.k, .int .u8 m.h.o, .int .u8 m.h.t, .int .i64 m.h.n, .int .u8 m.h.f, .string m.h.x, .slice m.a m.ks.length m.c, .int .i64 m.h.p], .pointer (some ⟨B0, 0, none⟩), .int .i64 0, .pointer (some ⟨B0 + 1, 0, none⟩), .agg #[.int .u8 m.h.k, .int .u8 m.h.o, .int .u8 m.h.t, .int .i64 m.h.n, .int .u8 m.h.f, .string m.h.x, .slice m.a m.ks.length m.c, .int .i64 m.h.p], .func (.func 43) #[] #[.pointer (some ⟨B0 + 2, 0, none⟩)], u, undef, undef, undef], defers := [] })
    ?hAx ?assign ?body ?done ?stop
  case hKb => exact fun W l o o' h1 h2 h3 h4 => Kc.bound (w := W1) W l o o' h1 h2 h3 h4
  case hAx => exact fun x a' => ownFrom_pure _ (fun _ => _)
  case assign =>
    rintro lo pr x W K hi hK
    have HK : Hid (∀ a', (∃ u, a' = _) → K a' W) := fun a' ha => hK a' W ⟨Nat.le_refl _, fun _ _ _ h _ => h⟩ (Kc.refl _ _) hi ha
    clear hK hi
    unfold encN
    obtain ⟨u, eu⟩ : ∃ u, Value.agg (cutN ((pre m).getD x (.mk ⟨0, 0, 0, 0, 0, ⟨#[]⟩, 0⟩ none 0 []))).vals = u := ⟨_, rfl⟩
    rw [eu]
    have hA := HK.out _ ⟨u, rfl⟩
    clear HK
    gi_wp2
    simpa using hA
  case body =>
    rintro lo pr x a' W hlo _ ⟨b, hm⟩ ⟨u, rfl⟩ hlen
    have c1 := b.cell
    have f1 := b.frozen
    have HB : Hid (Boxed W (B0 + 1) 3 (.int .i64 pr.length)) := b
    have HM : Hid (Below w.heap.size w W) := hm
    have hmx : (pr.length : Int) + 1 ≤ 9223372036854775807 := by rw [size_pre] at hlen; have := HZ.out; omega
    clear b hm hlen
    gi_wp2
    refine ⟨⟨by simp [World.setCell], fun k o _ hk ho => (Below.heap_setCell _ _ _ _ (fun e => ?_)).trans hk⟩, ⟨by simp [World.setCell], fun k cs t fr hv _ => Below.heap_setCell _ _ _ _ hv⟩, ?_, HM.out.setCell (p := ⟨B0 + 1, 0, none⟩) (by rw [hB0]; exact Nat.le_succ _) _⟩
    · have e : k = B0 + 1 := e
      rw [e, show W.heap[B0 + 1]? = _ from HB.out] at hk
      cases hk
      cases ho
    · have := HB.out.set (.int .i64 ((pr.length : Int) + 1))
      rw [show ((pr ++ [x]).length : Int) = (pr.length : Int) + 1 by simp]
      exact this
  case done =>
    rintro D xs W hD rfl ⟨b, hm⟩ hK
    have c1 := b.cell
    have e1 : (List.range (pre m).length).length = size m := by rw [List.length_range, size_pre]
    rw [e1] at c1
    have HD : Hid (W.heap[D]? = some (.deferred (some []))) := hK
    have HM : Hid (Below w.heap.size w W) := hm
    clear hK hm b
    go_wp2_with fail
    refine leaves_marks (v := .int .i64 (size m)) [D] W (by simp) (fun D' hD' => by simp at hD'; rw [hD']; exact HD.out) (fun W' mv => ⟨results_t1 (p := 2) rfl _ _, rfl, ?_⟩)
    exact ((Mv.ofBelow HM.out).trans mv (fun b e => .inr (by simp at e; rw [e]; omega))).toBelow
  case stop =>
    intro D c pre W _ h1 h2 _
    exact absurd h2 (by simp)
end Go.Proofs.YtighocmdlifheaaDoor

/-
  level, asked, goesDown: how tightly a node binds, what a kid's place asks.
-/
namespace Go.Proofs.YtighocmdlifheaaDoor
open Go.RowKit
theorem box8 {w w' : World} {k o t n f p : Int} {x : ByteArray} {a : Option Addr} {l c : Nat} (hb : Below (w.alloc (.cells #[.int .u8 k, .int .u8 o, .int .u8 t, .int .i64 n, .int .u8 f, .string x, .slice a l c, .int .i64 p] 28)).heap.size (w.alloc (.cells #[.int .u8 k, .int .u8 o, .int .u8 t, .int .i64 n, .int .u8 f, .string x, .slice a l c, .int .i64 p] 28)) w') :
    w'.cell? ⟨w.heap.size, 0, none⟩ = some (.int .u8 k) ∧ w'.cell? ⟨w.heap.size, 1, none⟩ = some (.int .u8 o) ∧ w'.cell? ⟨w.heap.size, 2, none⟩ = some (.int .u8 t) ∧ w'.cell? ⟨w.heap.size, 3, none⟩ = some (.int .i64 n) ∧ w'.cell? ⟨w.heap.size, 4, none⟩ = some (.int .u8 f) ∧ w'.cell? ⟨w.heap.size, 5, none⟩ = some (.string x) ∧ w'.cell? ⟨w.heap.size, 6, none⟩ = some (.slice a l c) ∧ w'.cell? ⟨w.heap.size, 7, none⟩ = some (.int .i64 p) := by
  have h := (hb.block w.heap.size (by rw [size_alloc]; omega)).trans (heap_new w _)
  exact ⟨cell_of h 0, cell_of h 1, cell_of h 2, cell_of h 3, cell_of h 4, cell_of h 5, cell_of h 6, cell_of h 7⟩
theorem levelOf_any (o : Int) (w : World) : Calls Tryd.prog 59 #[.int .u8 o] w fun e w' => e = .returned (.int .i64 (lvO o)) ∧ w' = w := by
  unfold lvO
  by_cases a : o = 18
  · subst a; go_enter Tryd.func59, Tryd.ntmps59; go_wp2_with fail; go_ret; exact ⟨rfl, rfl⟩
  by_cases b : o = 17
  · subst b; go_enter Tryd.func59, Tryd.ntmps59; go_wp2_with fail; go_ret; exact ⟨rfl, rfl⟩
  by_cases c : o = 6
  · subst c; go_enter Tryd.func59, Tryd.ntmps59; go_wp2_with fail; go_ret; exact ⟨rfl, rfl⟩
  by_cases d : o = 7
  · subst d; go_enter Tryd.func59, Tryd.ntmps59; go_wp2_with fail; go_ret; exact ⟨rfl, rfl⟩
  by_cases e : o = 8
  · subst e; go_enter Tryd.func59, Tryd.ntmps59; go_wp2_with fail; go_ret; exact ⟨rfl, rfl⟩
  by_cases f : o = 9
  · subst f; go_enter Tryd.func59, Tryd.ntmps59; go_wp2_with fail; go_ret; exact ⟨rfl, rfl⟩
  by_cases g : o = 10
  · subst g; go_enter Tryd.func59, Tryd.ntmps59; go_wp2_with fail; go_ret; exact ⟨rfl, rfl⟩
  rw [if_neg a, if_neg b, if_neg (by omega), if_neg (by omega)]
  have a' : (o == 18) = false := by simp [a]
  have b' : (o == 17) = false := by simp [b]
  have c' : (o == 6) = false := by simp [c]
  have d' : (o == 7) = false := by simp [d]
  have e' : (o == 8) = false := by simp [e]
  have f' : (o == 9) = false := by simp [f]
  have g' : (o == 10) = false := by simp [g]
  clear a b c d e f g
  go_enter Tryd.func59, Tryd.ntmps59; go_wp2_with fail; go_ret; exact ⟨rfl, rfl⟩
set_option maxRecDepth 100000 in
theorem level_any (h : Hd) (a : Option Addr) (l c : Nat) (w : World) : Calls Tryd.prog 48 #[.agg (hdA h a l c)] w fun e w' => e = .returned (.int .i64 (lvl h)) ∧ Below w.heap.size w w' := by
  obtain ⟨k, o, t, n, f, x, p⟩ := h
  unfold hdA lvl
  simp only
  have cO := levelOf_any o
  obtain ⟨V, eV⟩ : ∃ V, lvO o = V := ⟨_, rfl⟩
  simp only [eV] at cO
  rw [eV]
  clear eV
  by_cases a7 : k = 7
  · subst a7; go_enter Tryd.func48, Tryd.ntmps48; go_wp2_with fail; go_ret; exact ⟨rfl, below_new _ _⟩
  by_cases a6 : k = 6
  · subst a6; go_enter Tryd.func48, Tryd.ntmps48; go_wp2_with (go_at_call 59; refine (cO _).mono ?_; rintro e w' ⟨rfl, rfl⟩); go_ret; exact ⟨rfl, below_new _ _⟩
  by_cases a5 : k = 5
  · subst a5; go_enter Tryd.func48, Tryd.ntmps48; go_wp2_with fail; go_ret; exact ⟨rfl, below_new _ _⟩
  rw [if_neg a7, if_neg a6, if_neg a5]
  have b7 : (k == 7) = false := by simp [a7]
  have b6 : (k == 6) = false := by simp [a6]
  have b5 : (k == 5) = false := by simp [a5]
  clear a7 a6 a5
  go_enter Tryd.func48, Tryd.ntmps48; go_wp2_with fail; go_ret; exact ⟨rfl, below_new _ _⟩
theorem lvl_le (h : Hd) : 1 ≤ lvl h ∧ lvl h ≤ 8 := by
  unfold lvl lvO
  split
  · omega
  · split
    · repeat (first | omega | split)
    · split <;> omega
set_option maxRecDepth 100000 in
set_option maxHeartbeats 1000000 in
theorem asked_any (h : Hd) (a : Option Addr) (l c i : Nat) (hi : i ≤ 9223372036854775000) (w : World) : Calls Tryd.prog 60 #[.agg (hdA h a l c), .int .i64 i] w fun e w' => e = .returned (.int .i64 (ask h i)) ∧ Below w.heap.size w w' := by
  have cL := fun v => level_any h a l c v
  have hle := lvl_le h
  unfold ask
  obtain ⟨V, eV⟩ : ∃ V, lvl h = V := ⟨_, rfl⟩
  rw [eV] at hle
  simp only [eV] at cL
  simp only [eV]
  clear eV
  obtain ⟨k, o, t, n, f, x, p⟩ := h
  unfold hdA at cL ⊢
  simp only at cL ⊢
  obtain ⟨hl1, hl2⟩ := hle
  by_cases a7 : k = 7
  · subst a7
    by_cases i0 : i = 0
    · subst i0; go_enter Tryd.func60, Tryd.ntmps60; go_wp2_with fail; go_ret; exact ⟨rfl, below_new _ _⟩
    · have i0' : ((i : Int) == 0) = false := by simp; omega
      rw [if_pos rfl, if_neg i0]
      go_enter Tryd.func60, Tryd.ntmps60; go_wp2_with fail; go_ret; exact ⟨rfl, below_new _ _⟩
  by_cases a6 : k = 6
  · subst a6
    by_cases v4 : V = 4
    · subst v4; go_enter Tryd.func60, Tryd.ntmps60; go_wp2_with (go_at_call 48; refine (cL _).mono ?_; rintro e w' ⟨rfl, hb⟩); go_ret; exact ⟨rfl, (below_new _ _).trans (hb.mono (by simp))⟩
    · have v4' : (V == 4) = false := by simp [v4]
      have g1 : -9223372036854775808 ≤ V + (i : Int) := by omega
      have g2 : V + (i : Int) ≤ 9223372036854775807 := by omega
      rw [if_neg (by decide), if_pos rfl, if_neg v4]
      go_enter Tryd.func60, Tryd.ntmps60
      go_wp2_with fail
      refine (cL _).mono ?_
      rintro e w1 ⟨rfl, hb⟩
      obtain ⟨q0, q1, q2, q3, q4, q5, q6, q7⟩ := box8 hb
      have HB1 : Hid (Below w.heap.size w w1) := (below_new _ _).trans (hb.mono (by simp))
      clear hb
      go_wp2_with fail
      refine (cL _).mono ?_
      rintro e w2 ⟨rfl, hb⟩
      have HB2 : Hid (Below w.heap.size w w2) := HB1.out.trans (hb.mono HB1.out.size)
      clear hb
      go_wp2_with fail
      go_ret
      exact ⟨rfl, HB2.out⟩
  by_cases a5 : k = 5
  · subst a5; go_enter Tryd.func60, Tryd.ntmps60; go_wp2_with fail; go_ret; exact ⟨rfl, below_new _ _⟩
  rw [if_neg a7, if_neg a6, if_neg a5]
  have b7 : (k == 7) = false := by simp [a7]
  have b6 : (k == 6) = false := by simp [a6]
  have b5 : (k == 5) = false := by simp [a5]
  clear a7 a6 a5
  go_enter Tryd.func60, Tryd.ntmps60; go_wp2_with fail; go_ret; exact ⟨rfl, below_new _ _⟩
set_option maxRecDepth 100000 in
theorem goesDown_any (h : Hd) (a : Option Addr) (l c i : Nat) (w : World) : Calls Tryd.prog 61 #[.agg (hdA h a l c), .int .i64 i] w fun e w' => e = .returned (.bool (dwn h i)) ∧ Below w.heap.size w w' := by
  obtain ⟨k, o, t, n, f, x, p⟩ := h
  unfold hdA dwn
  simp only
  by_cases a6 : k = 6
  · subst a6; go_enter Tryd.func61, Tryd.ntmps61; go_wp2_with fail; go_ret; exact ⟨rfl, below_new _ _⟩
  by_cases a7 : k = 7
  · subst a7
    by_cases i0 : 0 < i
    · have i1 : (0 : Int) < (i : Int) := by omega
      go_enter Tryd.func61, Tryd.ntmps61; go_wp2_with fail; go_ret; exact ⟨retB (by simp), below_new _ _⟩
    · have i1 : ¬ (0 : Int) < (i : Int) := by omega
      go_enter Tryd.func61, Tryd.ntmps61; go_wp2_with fail; go_ret; exact ⟨retB (by simp), below_new _ _⟩
  rw [if_neg a6, if_neg a7]
  have b7 : (k == 7) = false := by simp [a7]
  have b6 : (k == 6) = false := by simp [a6]
  clear a7 a6
  go_enter Tryd.func61, Tryd.ntmps61; go_wp2_with fail; go_ret; exact ⟨rfl, below_new _ _⟩
end Go.Proofs.YtighocmdlifheaaDoor

/-
  depth: how deep an expression goes.
-/
namespace Go.Proofs.YtighocmdlifheaaDoor
open Go.RowKit
theorem dep_size : ∀ m, dep m ≤ 2 * size m := by
  refine Nd.ind fun h a c ks ih => ?_
  have : ∀ (l : List Nd) (i : Nat), (∀ k ∈ l, dep k ≤ 2 * size k) → deps h i l ≤ 2 * sizes l + 2 := by
    intro l
    induction l with
    | nil => intro i _; simp [deps]
    | cons k l ihl =>
      intro i hl
      have h1 := hl k (by simp)
      have h2 := ihl (i + 1) fun x hx => hl x (by simp [hx])
      have h3 : ∀ (b : Bool) d, inc b d ≤ d + 1 := fun b d => by unfold inc; split <;> omega
      have h4 := h3 (dwn h i) (inc (decide (lvl k.h < ask h i)) (dep k))
      have h5 := h3 (decide (lvl k.h < ask h i)) (dep k)
      have h6 : 1 ≤ size k := by cases k; simp [size]
      simp only [deps, sizes]
      have := Nat.max_le.2 (⟨by omega, by omega⟩ : inc (dwn h i) (inc (decide (lvl k.h < ask h i)) (dep k)) ≤ 2 * (size k + sizes l) + 2 ∧ deps h (i + 1) l ≤ 2 * (size k + sizes l) + 2)
      exact this
  simp only [dep, size]
  have := this ks 0 ih
  omega
/-- What a region keeps that looks at a node and a kid. -/
structure KK (X : World) (B Y : Nat) (m k : Nd) : Prop where
  m : NdH X B m
  k : NdH X Y k
theorem NdH.eight {w : World} {b : Nat} {m : Nd} (h : NdH w b m) : w.cell? ⟨b, 0, none⟩ = some (.int .u8 m.h.k) ∧ w.cell? ⟨b, 1, none⟩ = some (.int .u8 m.h.o) ∧ w.cell? ⟨b, 2, none⟩ = some (.int .u8 m.h.t) ∧ w.cell? ⟨b, 3, none⟩ = some (.int .i64 m.h.n) ∧ w.cell? ⟨b, 4, none⟩ = some (.int .u8 m.h.f) ∧ w.cell? ⟨b, 5, none⟩ = some (.string m.h.x) ∧ w.cell? ⟨b, 6, none⟩ = some (.slice m.a m.ks.length m.c) ∧ w.cell? ⟨b, 7, none⟩ = some (.int .i64 m.h.p) :=
  ⟨cell_of h 0, cell_of h 1, cell_of h 2, cell_of h 3, cell_of h 4, cell_of h 5, cell_of h 6, cell_of h 7⟩
theorem size_mem : ∀ {ks : List Nd} {k : Nd}, k ∈ ks → size k ≤ sizes ks
  | [], _, h => by cases h
  | j :: js, k, h => by
    rcases List.mem_cons.1 h with e | e
    · rw [e]; simp only [sizes]; omega
    · have := size_mem e; simp only [sizes]; omega
theorem len_sizes : ∀ (ks : List Nd), ks.length ≤ sizes ks
  | [] => Nat.le_refl _
  | j :: js => by
    have h1 := len_sizes js
    have h2 : 1 ≤ size j := by cases j; simp [size]
    simp only [sizes, List.length_cons]; omega
theorem KK.hid {X : World} {B Y : Nat} {m k : Nd} (h : KK X B Y m k) : Hid (KK X B Y m k) := h
theorem KK.keep {X v : World} {B Y : Nat} {m k : Nd} (h : KK X B Y m k) (g : GB X v) :
    v.cell? ⟨B, 0, none⟩ = some (.int .u8 m.h.k) ∧ v.cell? ⟨B, 1, none⟩ = some (.int .u8 m.h.o) ∧ v.cell? ⟨B, 2, none⟩ = some (.int .u8 m.h.t) ∧ v.cell? ⟨B, 3, none⟩ = some (.int .i64 m.h.n) ∧ v.cell? ⟨B, 4, none⟩ = some (.int .u8 m.h.f) ∧ v.cell? ⟨B, 5, none⟩ = some (.string m.h.x) ∧ v.cell? ⟨B, 6, none⟩ = some (.slice m.a m.ks.length m.c) ∧ v.cell? ⟨B, 7, none⟩ = some (.int .i64 m.h.p) ∧
    v.cell? ⟨Y, 0, none⟩ = some (.int .u8 k.h.k) ∧ v.cell? ⟨Y, 1, none⟩ = some (.int .u8 k.h.o) ∧ v.cell? ⟨Y, 2, none⟩ = some (.int .u8 k.h.t) ∧ v.cell? ⟨Y, 3, none⟩ = some (.int .i64 k.h.n) ∧ v.cell? ⟨Y, 4, none⟩ = some (.int .u8 k.h.f) ∧ v.cell? ⟨Y, 5, none⟩ = some (.string k.h.x) ∧ v.cell? ⟨Y, 6, none⟩ = some (.slice k.a k.ks.length k.c) ∧ v.cell? ⟨Y, 7, none⟩ = some (.int .i64 k.h.p) ∧ GB X v := by
  obtain ⟨a0, a1, a2, a3, a4, a5, a6, a7⟩ := (h.m.on g).eight
  obtain ⟨b0, b1, b2, b3, b4, b5, b6, b7⟩ := (h.k.on g).eight
  exact ⟨a0, a1, a2, a3, a4, a5, a6, a7, b0, b1, b2, b3, b4, b5, b6, b7, g⟩
theorem maxv {D n : Nat} {y z : Int} (hy : (D : Int) = y) (hz : (n : Int) = z) : Value.int .i64 (if y < z then z else y) = .int .i64 ((Nat.max D n : Nat) : Int) := by
  congr 1
  rw [← hy, ← hz]
  have h1 : Nat.max D n = if D < n then n else D := by
    show max D n = _
    split <;> omega
  rw [h1]
  by_cases h : D < n
  · rw [if_pos h, if_pos (by omega)]
  · rw [if_neg h, if_neg (by omega)]
theorem run_max (x y : Int) : Builtin.max_ #[3, 3] 3 #[.int .i64 x, .int .i64 y] = pure (.int .i64 (if y > x then y else x)) := by
  show (Builtin.max2 (.int .i64 x) (.int .i64 y) >>= fun v => pure v) = _
  show (pure (Value.int .i64 (if y > x then y else x)) >>= fun v => (pure v : Sem Value)) = _
  rfl
set_option maxRecDepth 100000 in
set_option maxHeartbeats 4000000 in
theorem depth_any : ∀ (m : Nd) (w : World), Lies w m → size m ≤ 1000000000000 → Calls Tryd.prog 49 #[.agg m.vals] w fun e w' => e = .returned (.int .i64 (dep m)) ∧ Below w.heap.size w w' := by
  refine Nd.ind fun h a c ks ih w hl hz => ?_
  have HI : Hid (∀ k ∈ ks, ∀ (w : World), Lies w k → size k ≤ 1000000000000 → Calls Tryd.prog 49 #[.agg k.vals] w fun e w' => e = .returned (.int .i64 (dep k)) ∧ Below w.heap.size w w') := ih
  have HL := hl.hid
  have HZ : Hid (size (.mk h a c ks) ≤ 1000000000000) := hz
  have cA : ∀ (i : Nat), i ≤ 9223372036854775000 → ∀ v, Calls Tryd.prog 60 #[.agg #[.int .u8 h.k, .int .u8 h.o, .int .u8 h.t, .int .i64 h.n, .int .u8 h.f, .string h.x, .slice a ks.length c, .int .i64 h.p], .int .i64 i] v fun e w' => e = .returned (.int .i64 (ask h i)) ∧ Below v.heap.size v w' := fun i hi v => asked_any h a ks.length c i hi v
  have cG : ∀ (i : Nat) v, Calls Tryd.prog 61 #[.agg #[.int .u8 h.k, .int .u8 h.o, .int .u8 h.t, .int .i64 h.n, .int .u8 h.f, .string h.x, .slice a ks.length c, .int .i64 h.p], .int .i64 i] v fun e w' => e = .returned (.bool (dwn h i)) ∧ Below v.heap.size v w' := fun i v => goesDown_any h a ks.length c i v
  clear ih hl hz
  show Calls Tryd.prog 49 #[.agg #[.int .u8 h.k, .int .u8 h.o, .int .u8 h.t, .int .i64 h.n, .int .u8 h.f, .string h.x, .slice a ks.length c, .int .i64 h.p]] w _
  have HN0 : Hid (NdH (w.alloc (.cells #[.int .u8 h.k, .int .u8 h.o, .int .u8 h.t, .int .i64 h.n, .int .u8 h.f, .string h.x, .slice a ks.length c, .int .i64 h.p] 28)) w.heap.size (.mk h a c ks)) := heap_new w _
  go_enter Tryd.func49, Tryd.ntmps49
  go_wp2_with fail
  go_loopw [3, 4, 5, 6, 10] (fun d t4 t5 t6 t wr => ∃ (i D : Nat), i ≤ ks.length ∧ t = .int .i64 i ∧ d = .int .i64 D ∧ Below (w.alloc (.cells #[.int .u8 h.k, .int .u8 h.o, .int .u8 h.t, .int .i64 h.n, .int .u8 h.f, .string h.x, .slice a ks.length c, .int .i64 h.p] 28)).heap.size (w.alloc (.cells #[.int .u8 h.k, .int .u8 h.o, .int .u8 h.t, .int .i64 h.n, .int .u8 h.f, .string h.x, .slice a ks.length c, .int .i64 h.p] 28)) wr ∧ Hid (deps h 0 ks = Nat.max D (deps h i (ks.drop i)))) (fun _ _ _ _ t _ => ks.length - (intOf t).toNat)
  case atStart => exact ⟨0, 0, by omega, rfl, rfl, Below.refl _ _, by show _ = _; simp⟩
  case round =>
    obtain ⟨i, D, hi, rfl, rfl, hbr, HR⟩ := hrel
    have HBR : Hid (Below w.heap.size w wr) := below2 (below_new _ _) hbr
    have HNR : Hid (NdH wr w.heap.size (.mk h a c ks)) := HN0.out.on hbr
    have HBr : Hid (Below (w.alloc (.cells #[.int .u8 h.k, .int .u8 h.o, .int .u8 h.t, .int .i64 h.n, .int .u8 h.f, .string h.x, .slice a ks.length c, .int .i64 h.p] 28)).heap.size (w.alloc (.cells #[.int .u8 h.k, .int .u8 h.o, .int .u8 h.t, .int .i64 h.n, .int .u8 h.f, .string h.x, .slice a ks.length c, .int .i64 h.p] 28)) wr) := hbr
    clear hbr
    by_cases hlt : i < ks.length
    · have hlt' : (i : Int) < (ks.length : Int) := by omega
      have hmx : (i : Int) + 1 ≤ 9223372036854775807 := by
        have h1 := HL.out.max
        have h2 := HL.out.cap
        simp only [Nd.ks, Nd.c] at h1 h2
        omega
      obtain ⟨b, o, e, hat⟩ := (HL.out.on HBR.out).kid i hlt
      have e2 : a = some ⟨b, o, none⟩ := e
      clear e
      subst e2
      have cI := HI.out ks[i] (nth_mem hlt)
      have HLk : Hid (Lies w ks[i]) := HL.out.sub ks[i] (nth_mem hlt)
      have hsz : size ks[i] ≤ 1000000000000 := by have h1 := size_mem (nth_mem hlt); have h2 := HZ.out; simp only [size] at h2; omega
      have hdk := dep_size ks[i]
      have HD : Hid (deps h 0 ks = Nat.max D (Nat.max (inc (dwn h i) (inc (decide (lvl ks[i].h < ask h i)) (dep ks[i]))) (deps h (i + 1) (ks.drop (i + 1))))) := by show _ = _; rw [HR.out, drop_nth hlt]; rfl
      obtain ⟨k, ek⟩ : ∃ k, ks[i] = k := ⟨_, rfl⟩
      have hat2 : NdAt wr b (o + i * 8) k := by rw [← ek]; exact hat
      clear hat
      rw [ek] at cI HLk hsz HD hdk
      obtain ⟨y0, y1, y2, y3, y4, y5, y6, y7⟩ := hat2
      obtain ⟨d, ed⟩ : ∃ d, dep k = d := ⟨_, rfl⟩
      obtain ⟨V, eV⟩ : ∃ V, lvl k.h = V := ⟨_, rfl⟩
      obtain ⟨U, eU⟩ : ∃ U, ask h i = U := ⟨_, rfl⟩
      obtain ⟨G, eG⟩ : ∃ G, dwn h i = G := ⟨_, rfl⟩
      have cL : ∀ v, Calls Tryd.prog 48 #[.agg #[.int .u8 k.h.k, .int .u8 k.h.o, .int .u8 k.h.t, .int .i64 k.h.n, .int .u8 k.h.f, .string k.h.x, .slice k.a k.ks.length k.c, .int .i64 k.h.p]] v fun e w' => e = .returned (.int .i64 V) ∧ Below v.heap.size v w' := fun v => by rw [← eV]; exact level_any k.h k.a k.ks.length k.c v
      have hle : i ≤ 1000000000000 := by have h1 := len_sizes ks; have h2 := HZ.out; simp only [size] at h2; omega
      have cA := cA i (by omega)
      have cG := cG i
      have hd0 : (d : Int) + 2 ≤ 9223372036854775807 := by omega
      rw [ed] at cI HD
      rw [eV, eU, eG] at HD
      rw [eU] at cA
      simp only [eG] at cG
      have cI : ∀ v, Lies v k → Calls Tryd.prog 49 #[.agg #[.int .u8 k.h.k, .int .u8 k.h.o, .int .u8 k.h.t, .int .i64 k.h.n, .int .u8 k.h.f, .string k.h.x, .slice k.a k.ks.length k.c, .int .i64 k.h.p]] v fun e w' => e = .returned (.int .i64 d) ∧ Below v.heap.size v w' := fun v hv => cI v hv hsz
      have hd1 : (d : Int) + 1 ≤ 9223372036854775807 := by omega
      have hd2 : (d : Int) + 1 + 1 ≤ 9223372036854775807 := by omega
      clear ek eV eU eG ed HR hdk hsz hle hd0
      go_wp2_with (go_at_call 49; refine (cI _ (HLk.out.on (below2 HBR.out (below_new _ _)))).mono ?_; rintro e w5 ⟨rfl, hb5⟩)
      have HB5 : Hid (Below w.heap.size w w5) := below2 (below2 HBR.out (below_new _ _)) hb5
      have HKX : Hid (KK w5 w.heap.size wr.heap.size (.mk h (some ⟨b, o, none⟩) c ks) k) := ⟨HNR.out.on (below2 (below_new _ _) hb5), NdH.on (heap_new wr _) hb5⟩
      have HB6 : Hid (Below wr.heap.size wr w5) := below2 (below_new _ _) hb5
      obtain ⟨X, eX⟩ : ∃ X, w5 = X := ⟨_, rfl⟩
      obtain ⟨Y, eY⟩ : ∃ Y, wr.heap.size = Y := ⟨_, rfl⟩
      rw [eY] at HKX ⊢
      subst eX
      clear hb5 cI eY y0 y1 y2 y3 y4 y5 y6 y7
      go_region_held3 (fun v => v.cell? ⟨w.heap.size, 0, none⟩ = some (.int .u8 h.k) ∧ v.cell? ⟨w.heap.size, 1, none⟩ = some (.int .u8 h.o) ∧ v.cell? ⟨w.heap.size, 2, none⟩ = some (.int .u8 h.t) ∧ v.cell? ⟨w.heap.size, 3, none⟩ = some (.int .i64 h.n) ∧ v.cell? ⟨w.heap.size, 4, none⟩ = some (.int .u8 h.f) ∧ v.cell? ⟨w.heap.size, 5, none⟩ = some (.string h.x) ∧ v.cell? ⟨w.heap.size, 6, none⟩ = some (.slice (some ⟨b, o, none⟩) ks.length c) ∧ v.cell? ⟨w.heap.size, 7, none⟩ = some (.int .i64 h.p) ∧ v.cell? ⟨Y, 0, none⟩ = some (.int .u8 k.h.k) ∧ v.cell? ⟨Y, 1, none⟩ = some (.int .u8 k.h.o) ∧ v.cell? ⟨Y, 2, none⟩ = some (.int .u8 k.h.t) ∧ v.cell? ⟨Y, 3, none⟩ = some (.int .i64 k.h.n) ∧ v.cell? ⟨Y, 4, none⟩ = some (.int .u8 k.h.f) ∧ v.cell? ⟨Y, 5, none⟩ = some (.string k.h.x) ∧ v.cell? ⟨Y, 6, none⟩ = some (.slice k.a k.ks.length k.c) ∧ v.cell? ⟨Y, 7, none⟩ = some (.int .i64 k.h.p) ∧ GB w5 v)
        (exact HKX.out.keep (by (repeat (first | with_reducible assumption | with_reducible exact GB.refl _ | with_reducible apply GB.drew | with_reducible apply GB.alloc | with_reducible refine GB.call (by with_reducible assumption) ?_))))
        (first
          | (go_at_call 48; refine (cL _).mono ?_; rintro e w6 ⟨rfl, hb6⟩)
          | (go_at_call 60; refine (cA _).mono ?_; rintro e w7 ⟨rfl, hb7⟩))
      all_goals
        refine abs_world (P := fun V => GB w5 V) (by (repeat (first | with_reducible assumption | with_reducible exact GB.refl _ | with_reducible apply GB.drew | with_reducible apply GB.alloc | with_reducible refine GB.call (by with_reducible assumption) ?_))) ?_
        intro Vw hv
        obtain ⟨q0, q1, q2, q3, q4, q5, q6, q7, p0, p1, p2, p3, p4, p5, p6, p7, _⟩ := HKX.out.keep hv
        simp only [Nd.h, Nd.a, Nd.c, Nd.ks] at q0 q1 q2 q3 q4 q5 q6 q7
        have HV : Hid (Below w5.heap.size w5 Vw) := hv
        clear hv p0 p1 p2 p3 p4 p5 p6 p7
        obtain ⟨z, ez⟩ : ∃ z : Int, (d : Int) = z := ⟨_, rfl⟩
        obtain ⟨z1, ez1⟩ : ∃ z1 : Int, (d : Int) + 1 = z1 := ⟨_, rfl⟩
        obtain ⟨z2, ez2⟩ : ∃ z2 : Int, (d : Int) + 1 + 1 = z2 := ⟨_, rfl⟩
        have hw1 : wrap64 (z + 1) = z1 := by rw [← ez, ez1]; unfold wrap64; omega
        have hw2 : wrap64 (z1 + 1) = z2 := by rw [← ez1, ez2]; unfold wrap64; omega
        obtain ⟨y, ey⟩ : ∃ y : Int, (D : Int) = y := ⟨_, rfl⟩
        simp only [ez, ey]
        have EZ : Hid ((d : Int) = z ∧ (d : Int) + 1 = z1 ∧ (d : Int) + 1 + 1 = z2 ∧ (D : Int) = y) := ⟨ez, ez1, ez2, ey⟩
        clear ez ey ez1 ez2 hd1 hd2 hmx
        by_cases hP : V < U
        · cases G with
          | true =>
            have K9 : Hid (inc true (inc (decide (V < U)) d) = d + 1 + 1) := by show _ = _; rw [decide_eq_true hP]; rfl
            go_wp2_with fail
            refine (cG _).mono ?_
            rintro e w8 ⟨rfl, hb8⟩
            have HB8 : Hid (Below (w.alloc (.cells #[.int .u8 h.k, .int .u8 h.o, .int .u8 h.t, .int .i64 h.n, .int .u8 h.f, .string h.x, .slice (some ⟨b, o, none⟩) ks.length c, .int .i64 h.p] 28)).heap.size (w.alloc (.cells #[.int .u8 h.k, .int .u8 h.o, .int .u8 h.t, .int .i64 h.n, .int .u8 h.f, .string h.x, .slice (some ⟨b, o, none⟩) ks.length c, .int .i64 h.p] 28)) w8) := below2 (below2 (below2 HBr.out HB6.out) HV.out) hb8
            clear hb8 q0 q1 q2 q3 q4 q5 q6 q7
            have hmm := fun x => run_max x
            have hmx : (i : Int) + 1 ≤ 9223372036854775807 := by
              have h1 := HL.out.max
              have h2 := HL.out.cap
              simp only [Nd.ks, Nd.c] at h1 h2
              omega
            go_wp2_with fail
            rw [K9.out] at HD
            exact ⟨⟨i + 1, Nat.max D (d + 1 + 1), hlt, rfl, maxv EZ.out.2.2.2 (by have := EZ.out; omega), HB8.out, by show _ = _; rw [HD.out]; exact (Nat.max_assoc _ _ _).symm⟩, by simp only [intOf]; omega⟩
          | false =>
            have K9 : Hid (inc false (inc (decide (V < U)) d) = d + 1) := by show _ = _; rw [decide_eq_true hP]; rfl
            go_wp2_with fail
            refine (cG _).mono ?_
            rintro e w8 ⟨rfl, hb8⟩
            have HB8 : Hid (Below (w.alloc (.cells #[.int .u8 h.k, .int .u8 h.o, .int .u8 h.t, .int .i64 h.n, .int .u8 h.f, .string h.x, .slice (some ⟨b, o, none⟩) ks.length c, .int .i64 h.p] 28)).heap.size (w.alloc (.cells #[.int .u8 h.k, .int .u8 h.o, .int .u8 h.t, .int .i64 h.n, .int .u8 h.f, .string h.x, .slice (some ⟨b, o, none⟩) ks.length c, .int .i64 h.p] 28)) w8) := below2 (below2 (below2 HBr.out HB6.out) HV.out) hb8
            clear hb8 q0 q1 q2 q3 q4 q5 q6 q7
            have hmm := fun x => run_max x
            have hmx : (i : Int) + 1 ≤ 9223372036854775807 := by
              have h1 := HL.out.max
              have h2 := HL.out.cap
              simp only [Nd.ks, Nd.c] at h1 h2
              omega
            go_wp2_with fail
            rw [K9.out] at HD
            exact ⟨⟨i + 1, Nat.max D (d + 1), hlt, rfl, maxv EZ.out.2.2.2 (by have := EZ.out; omega), HB8.out, by show _ = _; rw [HD.out]; exact (Nat.max_assoc _ _ _).symm⟩, by simp only [intOf]; omega⟩
        · cases G with
          | true =>
            have K9 : Hid (inc true (inc (decide (V < U)) d) = d + 1) := by show _ = _; rw [decide_eq_false hP]; rfl
            go_wp2_with fail
            refine (cG _).mono ?_
            rintro e w8 ⟨rfl, hb8⟩
            have HB8 : Hid (Below (w.alloc (.cells #[.int .u8 h.k, .int .u8 h.o, .int .u8 h.t, .int .i64 h.n, .int .u8 h.f, .string h.x, .slice (some ⟨b, o, none⟩) ks.length c, .int .i64 h.p] 28)).heap.size (w.alloc (.cells #[.int .u8 h.k, .int .u8 h.o, .int .u8 h.t, .int .i64 h.n, .int .u8 h.f, .string h.x, .slice (some ⟨b, o, none⟩) ks.length c, .int .i64 h.p] 28)) w8) := below2 (below2 (below2 HBr.out HB6.out) HV.out) hb8
            clear hb8 q0 q1 q2 q3 q4 q5 q6 q7
            have hmm := fun x => run_max x
            have hmx : (i : Int) + 1 ≤ 9223372036854775807 := by
              have h1 := HL.out.max
              have h2 := HL.out.cap
              simp only [Nd.ks, Nd.c] at h1 h2
              omega
            go_wp2_with fail
            rw [K9.out] at HD
            exact ⟨⟨i + 1, Nat.max D (d + 1), hlt, rfl, maxv EZ.out.2.2.2 (by have := EZ.out; omega), HB8.out, by show _ = _; rw [HD.out]; exact (Nat.max_assoc _ _ _).symm⟩, by simp only [intOf]; omega⟩
          | false =>
            have K9 : Hid (inc false (inc (decide (V < U)) d) = d) := by show _ = _; rw [decide_eq_false hP]; rfl
            go_wp2_with fail
            refine (cG _).mono ?_
            rintro e w8 ⟨rfl, hb8⟩
            have HB8 : Hid (Below (w.alloc (.cells #[.int .u8 h.k, .int .u8 h.o, .int .u8 h.t, .int .i64 h.n, .int .u8 h.f, .string h.x, .slice (some ⟨b, o, none⟩) ks.length c, .int .i64 h.p] 28)).heap.size (w.alloc (.cells #[.int .u8 h.k, .int .u8 h.o, .int .u8 h.t, .int .i64 h.n, .int .u8 h.f, .string h.x, .slice (some ⟨b, o, none⟩) ks.length c, .int .i64 h.p] 28)) w8) := below2 (below2 (below2 HBr.out HB6.out) HV.out) hb8
            clear hb8 q0 q1 q2 q3 q4 q5 q6 q7
            have hmm := fun x => run_max x
            have hmx : (i : Int) + 1 ≤ 9223372036854775807 := by
              have h1 := HL.out.max
              have h2 := HL.out.cap
              simp only [Nd.ks, Nd.c] at h1 h2
              omega
            go_wp2_with fail
            rw [K9.out] at HD
            exact ⟨⟨i + 1, Nat.max D (d), hlt, rfl, maxv EZ.out.2.2.2 (by have := EZ.out; omega), HB8.out, by show _ = _; rw [HD.out]; exact (Nat.max_assoc _ _ _).symm⟩, by simp only [intOf]; omega⟩
    · obtain rfl : i = ks.length := by omega
      have hnot : ¬ (ks.length : Int) < (ks.length : Int) := by omega
      have HE : Hid (dep (.mk h a c ks) = D) := by show deps h 0 ks = _; rw [HR.out, List.drop_length]; show Nat.max D 0 = D; simp
      clear HR
      go_wp2_with fail
      go_ret
      exact ⟨by rw [HE.out]; rfl, HBR.out⟩
end Go.Proofs.YtighocmdlifheaaDoor
