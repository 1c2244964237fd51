import Derived.Test.YtighocmdlifheaaDoorM6
import Derived.Defers
import Derived.Recover
import Derived.Laws.Pointers
/-
  found: what is wrong, by a look that gives up; hasForm, CheckExpr, Level, Depth.
-/
namespace Go.Proofs.YtighocmdlifheaaDoor
open Go.RowKit
theorem assert_hit (v : Value) (w : World) : (Instr.typeAssert (.iface 64 v) 20 64 true).run Tryd.prog w = .ok (.tuple #[v, .bool true]) w := by
  simp [Instr.typeAssert, run_underlying Tryd.underlying64, go_sem, Result.andThen]
theorem assert_nil (w : World) : (Instr.typeAssert .nilIface 20 64 true).run Tryd.prog w = .ok (.tuple #[.int .i64 0, .bool false]) w := by
  simp [Instr.typeAssert, run_underlying Tryd.underlying64, go_sem, Result.andThen]
set_option maxRecDepth 100000 in
theorem catch_p (p : Addr) (y no : Int) (older : List PanicEntry) (w : World) (hc : w.cell? p = some (.int .i64 y)) (hz : w.frozen? p = false) :
    CallsD Tryd.prog 62 #[.pointer (some p)] (.panicking ({ v := .iface 64 (.int .i64 no), recovered := false } :: older)) w fun e u' w' =>
      e = .returned (.tuple #[]) ∧ u' = .panicking ({ v := .iface 64 (.int .i64 no), recovered := true } :: older) ∧ w' = w.setCell p (.int .i64 no) := by
  refine callsD_of_wpS Tryd.func62 rfl fun c₀ cs hu => ?_
  apply wpS_region
  simp [wpOpsS, go_sem, recoverD, hu, Tryd.ntmps62, hc, hz, assert_hit, Result.andThen, bodyPostS, results, Tryd.results62]
set_option maxRecDepth 100000 in
theorem catch_i (p : Addr) (y : Int) (w : World) (hc : w.cell? p = some (.int .i64 y)) (hz : w.frozen? p = false) :
    CallsD Tryd.prog 62 #[.pointer (some p)] .returning w fun e u' w' => e = .returned (.tuple #[]) ∧ u' = .returning ∧ w' = w.setCell p (.int .i64 0) := by
  refine callsD_of_wpS Tryd.func62 rfl fun c₀ cs hu => ?_
  apply wpS_region
  simp [wpOpsS, go_sem, recoverD, hu, Tryd.ntmps62, hc, hz, assert_nil, Result.andThen]
  cases c₀
  simp_all [bodyPostS, results, Tryd.results62]
set_option maxRecDepth 100000 in
/-- What a look finds: F the look's closure, with what it holds. -/
theorem found_any (F : Nat) (hE : ∀ args v, Sem.run Tryd.prog (callFunc F args) v = .ok (.enter F args) v) (cap : Array Value) (E : Int) (w : World)
    (cF : ∀ v, Below w.heap.size w v → Calls Tryd.prog F cap v fun e w' => ((E = 0 ∧ e = .returned (.tuple #[])) ∨ (¬ E = 0 ∧ e = .panicked [{ v := .iface 64 (.int .i64 E), recovered := false }])) ∧ Below v.heap.size v w') :
    Calls Tryd.prog 50 #[.func (.func F) #[] cap] w fun e w' => e = .returned (.int .i64 E) ∧ Below w.heap.size w w' := by
  have hmf : ∀ (fn : Fn) (first cap : Array Value) (w : World), (Instr.makeFunc fn first cap).run Tryd.prog w = .ok (.func fn first cap) w := fun _ _ _ _ => rfl
  by_cases h : E = 0
  · subst h
    have cG : ∀ v, Below w.heap.size w v → Calls Tryd.prog F cap v fun e w' => e = .returned (.tuple #[]) ∧ Below v.heap.size v w' := fun v hv => (cF v hv).mono (by
      rintro e w' ⟨h1 | h1, h2⟩
      · exact ⟨h1.2, h2⟩
      · exact absurd rfl h1.1)
    clear cF
    go_enter_defers Tryd.func50, Tryd.ntmps50
    go_wp2_with fail
    refine (cG _ (below_new _ _)).mono ?_
    rintro e w1 ⟨rfl, hb1⟩
    have hbk := (hb1.block w.heap.size (by simp)).trans (heap_new w _)
    have c0 : w1.cell? ⟨w.heap.size, 0, none⟩ = some (.int .i64 0) := cell_of hbk 0
    have f0 : w1.frozen? ⟨w.heap.size, 0, none⟩ = false := frozen_of hbk 0
    have HB1 : Hid (Below w.heap.size w w1) := (below_new _ _).trans (hb1.mono (by simp))
    have HK : Hid (w1.heap[w.heap.size]? = some (.cells #[.int .i64 0] 64 (0, 0))) := hbk
    clear hbk hb1
    go_wp2_with fail
    refine leaves_cons (f := 62) (args := #[.pointer (some ⟨w.heap.size, 0, none⟩)]) (by simp) (by simp [go_sem]) ?_
    refine (catch_i ⟨w.heap.size, 0, none⟩ 0 _ (cell_of (heap_set _ HK.out) 0) (frozen_of (heap_set _ HK.out) 0)).mono ?_
    rintro e u' w'' ⟨rfl, rfl, rfl⟩
    have h9 := heap_set (j := 0) (.int .i64 0) (heap_set (j := 0) (.int .i64 0) HK.out)
    have c9 : ((w1.setCell ⟨w.heap.size, 0, none⟩ (.int .i64 0)).setCell ⟨w.heap.size, 0, none⟩ (.int .i64 0)).cell? ⟨w.heap.size, 0, none⟩ = some (.int .i64 0) := cell_of h9 0
    have b9 : Below w.heap.size w ((w1.setCell ⟨w.heap.size, 0, none⟩ (.int .i64 0)).setCell ⟨w.heap.size, 0, none⟩ (.int .i64 0)) := (HB1.out.setCell (p := ⟨w.heap.size, 0, none⟩) (Nat.le_refl _) _).setCell (p := ⟨w.heap.size, 0, none⟩) (Nat.le_refl _) _
    simp [Leaves, settle, results, Tryd.results50, go_sem, c9, b9]
  · have cG : ∀ v, Below w.heap.size w v → Calls Tryd.prog F cap v fun e w' => e = .panicked [{ v := .iface 64 (.int .i64 E), recovered := false }] ∧ Below v.heap.size v w' := fun v hv => (cF v hv).mono (by
      rintro e w' ⟨h1 | h1, h2⟩
      · exact absurd h1.1 h
      · exact ⟨h1.2, h2⟩)
    clear cF
    go_enter_defers Tryd.func50, Tryd.ntmps50
    go_wp2_with fail
    refine (cG _ (below_new _ _)).mono ?_
    rintro e w1 ⟨rfl, hb1⟩
    have hbk := (hb1.block w.heap.size (by simp)).trans (heap_new w _)
    have c0 : w1.cell? ⟨w.heap.size, 0, none⟩ = some (.int .i64 0) := cell_of hbk 0
    have f0 : w1.frozen? ⟨w.heap.size, 0, none⟩ = false := frozen_of hbk 0
    have HB1 : Hid (Below w.heap.size w w1) := (below_new _ _).trans (hb1.mono (by simp))
    have HK : Hid (w1.heap[w.heap.size]? = some (.cells #[.int .i64 0] 64 (0, 0))) := hbk
    clear hbk hb1
    go_wp2_with fail
    refine leaves_cons (f := 62) (args := #[.pointer (some ⟨w.heap.size, 0, none⟩)]) (by simp) (by simp [go_sem]) ?_
    refine (catch_p ⟨w.heap.size, 0, none⟩ 0 E [] _ c0 f0).mono ?_
    rintro e u' w'' ⟨rfl, rfl, rfl⟩
    have h9 := heap_set (j := 0) (.int .i64 E) HK.out
    have c9 : (w1.setCell ⟨w.heap.size, 0, none⟩ (.int .i64 E)).cell? ⟨w.heap.size, 0, none⟩ = some (.int .i64 E) := cell_of h9 0
    have b9 : Below w.heap.size w (w1.setCell ⟨w.heap.size, 0, none⟩ (.int .i64 E)) := HB1.out.setCell (p := ⟨w.heap.size, 0, none⟩) (Nat.le_refl _) _
    simp [Leaves, settle, results, Tryd.results50, go_sem, c9, b9]
theorem enter57 (args : Array Value) (v : World) : Sem.run Tryd.prog (callFunc 57 args) v = .ok (.enter 57 args) v := by kernel_rfl
theorem enter51 (args : Array Value) (v : World) : Sem.run Tryd.prog (callFunc 51 args) v = .ok (.enter 51 args) v := by kernel_rfl
/-- A look that gives up with E, or doesn't. -/
def Gives (F : Nat) (args : Array Value) (w : World) (E : Int) : Prop := Calls Tryd.prog F args w fun e w' => ((E = 0 ∧ e = .returned (.tuple #[])) ∨ (¬ E = 0 ∧ e = .panicked [{ v := .iface 64 (.int .i64 E), recovered := false }])) ∧ Below w.heap.size w w'
def fE (m : Nd) : Int := if formB m = true then 0 else 120
theorem form_gives {m : Nd} {w : World} (hl : Lies w m) (ht : Tab w) : Gives 58 #[.agg m.vals] w (fE m) := by
  refine (form_any m w hl ht).mono ?_
  rintro e w' ⟨rfl, hb⟩
  unfold fE endE
  cases formB m with
  | true => exact ⟨.inl ⟨rfl, rfl⟩, hb⟩
  | false => exact ⟨.inr ⟨by decide, rfl⟩, hb⟩
set_option maxRecDepth 100000 in
theorem look57 (m : Nd) (b : Nat) (w : World) (hn : NdH w b m) (hl : Lies w m) (ht : Tab w) : Gives 57 #[.pointer (some ⟨b, 0, none⟩)] w (fE m) := by
  obtain ⟨y0, y1, y2, y3, y4, y5, y6, y7⟩ := hn.eight
  have c := form_gives hl ht
  unfold Gives at c ⊢
  obtain ⟨E, eE⟩ : ∃ E, fE m = E := ⟨_, rfl⟩
  rw [eE] at c ⊢
  unfold Nd.vals hdA at c
  clear eE hl ht hn
  by_cases h : E = 0
  · have c2 := c.mono (R' := fun e w' => e = .returned (.tuple #[]) ∧ Below w.heap.size w w') (by
      rintro e w' ⟨h1 | h1, h2⟩
      · exact ⟨h1.2, h2⟩
      · exact absurd h h1.1)
    have HE : Hid (E = 0) := h
    clear c h
    go_enter Tryd.func57, Tryd.ntmps57
    go_wp2_with fail
    refine c2.mono ?_
    rintro e w1 ⟨rfl, hb⟩
    go_wp2_with fail
    go_end0
    exact ⟨.inl ⟨HE.out, rfl⟩, hb⟩
  · have c2 := c.mono (R' := fun e w' => e = .panicked [{ v := .iface 64 (.int .i64 E), recovered := false }] ∧ Below w.heap.size w w') (by
      rintro e w' ⟨h1 | h1, h2⟩
      · exact absurd h1.1 h
      · exact ⟨h1.2, h2⟩)
    have HE : Hid (¬ E = 0) := h
    clear c h
    go_enter Tryd.func57, Tryd.ntmps57
    go_wp2_with fail
    refine c2.mono ?_
    rintro e w1 ⟨rfl, hb⟩
    exact ⟨rfl, .inr ⟨HE.out, rfl⟩, hb⟩
end Go.Proofs.YtighocmdlifheaaDoor

/-
  hasForm, CheckExpr, Level, Depth.
-/
namespace Go.Proofs.YtighocmdlifheaaDoor
open Go.RowKit
theorem Gives.zero {F : Nat} {args : Array Value} {w : World} (c : Gives F args w 0) : Calls Tryd.prog F args w fun e w' => e = .returned (.tuple #[]) ∧ Below w.heap.size w w' := c.mono (by
  rintro e w' ⟨h1 | h1, h2⟩
  · exact ⟨h1.2, h2⟩
  · exact absurd rfl h1.1)
theorem Gives.some {F : Nat} {args : Array Value} {w : World} {E : Int} (h : ¬ E = 0) (c : Gives F args w E) : Calls Tryd.prog F args w fun e w' => e = .panicked [{ v := .iface 64 (.int .i64 E), recovered := false }] ∧ Below w.heap.size w w' := c.mono (by
  rintro e w' ⟨h1 | h1, h2⟩
  · exact absurd h1.1 h
  · exact ⟨h1.2, h2⟩)
def cE (m : Nd) : Int := if formB m = true then (if dep m ≤ 24 then 0 else 122) else 120
theorem hbox (w : World) (m : Nd) : NdH (w.alloc (.cells m.vals 28)) w.heap.size m := heap_new w _
set_option maxRecDepth 100000 in
theorem needExpr_any (m : Nd) (w : World) (hl : Lies w m) (hz : size m ≤ 1000000000000) (ht : Tab w) : Gives 52 #[.agg m.vals] w (cE m) := by
  have hN := hbox w m
  have hb0 := below_new w (.cells m.vals 28)
  have c1 := form_gives (hl.on hb0) (ht.on hb0)
  have c2 := fun v (hv : Below w.heap.size w v) => depth_any m v (hl.on hv) hz
  unfold Gives cE
  unfold fE at c1
  have HN := hN.hid
  clear hl hz ht hN hb0
  obtain ⟨B, eB⟩ : ∃ B, formB m = B := ⟨_, rfl⟩
  rw [eB] at c1 ⊢
  obtain ⟨d, ed⟩ : ∃ d, dep m = d := ⟨_, rfl⟩
  simp only [ed] at c2 ⊢
  clear ed eB
  unfold Nd.vals hdA at c1 c2 HN ⊢
  cases B with
  | false =>
    rw [if_neg (by decide)] at c1 ⊢
    have c3 := Gives.some (by decide) c1
    clear c1
    go_enter Tryd.func52, Tryd.ntmps52
    go_wp2_with fail
    refine c3.mono ?_
    rintro e w1 ⟨rfl, hb⟩
    exact ⟨rfl, .inr ⟨by decide, rfl⟩, (below_new _ _).trans (hb.mono (by simp))⟩
  | true =>
    rw [if_pos rfl] at c1
    have c3 := Gives.zero c1
    clear c1
    by_cases h : d ≤ 24
    · have h' : (d : Int) ≤ 24 := by omega
      rw [if_pos rfl, if_pos h]
      go_enter Tryd.func52, Tryd.ntmps52
      go_wp2_with fail
      refine c3.mono ?_
      rintro e w1 ⟨rfl, hb⟩
      obtain ⟨q0, q1, q2, q3, q4, q5, q6, q7⟩ := box8 hb
      have HB1 : Hid (Below w.heap.size w w1) := (below_new _ _).trans (hb.mono (by simp))
      clear hb c3
      go_wp2_with (go_at_call 49; refine (c2 _ HB1.out).mono ?_; rintro e w2 ⟨rfl, hb2⟩)
      refine (need_t 122 _).mono ?_
      rintro e w3 ⟨rfl, e4⟩
      obtain rfl := e4.symm
      go_wp2_with fail
      go_end0
      first | exact ⟨.inl ⟨rfl, rfl⟩, HB1.out.trans (hb2.mono HB1.out.size)⟩ | exact ⟨.inl ⟨trivial, rfl⟩, HB1.out.trans (hb2.mono HB1.out.size)⟩
    · have h' : ¬ (d : Int) ≤ 24 := by omega
      rw [if_pos rfl, if_neg h]
      go_enter Tryd.func52, Tryd.ntmps52
      go_wp2_with fail
      refine c3.mono ?_
      rintro e w1 ⟨rfl, hb⟩
      obtain ⟨q0, q1, q2, q3, q4, q5, q6, q7⟩ := box8 hb
      have HB1 : Hid (Below w.heap.size w w1) := (below_new _ _).trans (hb.mono (by simp))
      clear hb c3
      go_wp2_with (go_at_call 49; refine (c2 _ HB1.out).mono ?_; rintro e w2 ⟨rfl, hb2⟩)
      rw [show decide ((d : Int) ≤ 24) = false from decide_eq_false (by omega)]
      refine (need_f 122 _).mono ?_
      rintro e w3 ⟨rfl, e4⟩
      obtain rfl := e4.symm
      exact ⟨rfl, .inr ⟨by decide, rfl⟩, HB1.out.trans (hb2.mono HB1.out.size)⟩
set_option maxRecDepth 100000 in
theorem look51 (m : Nd) (b : Nat) (w : World) (hn : NdH w b m) (hl : Lies w m) (hz : size m ≤ 1000000000000) (ht : Tab w) : Gives 51 #[.pointer (some ⟨b, 0, none⟩)] w (cE m) := by
  obtain ⟨y0, y1, y2, y3, y4, y5, y6, y7⟩ := hn.eight
  have c := needExpr_any m w hl hz ht
  obtain ⟨E, eE⟩ : ∃ E, cE m = E := ⟨_, rfl⟩
  rw [eE] at c ⊢
  unfold Nd.vals hdA at c
  clear eE hl ht hn hz
  by_cases h : E = 0
  · have c2 := (h ▸ c : Gives 52 _ w 0).zero
    have HE : Hid (E = 0) := h
    clear c h
    unfold Gives
    go_enter Tryd.func51, Tryd.ntmps51
    go_wp2_with fail
    refine c2.mono ?_
    rintro e w1 ⟨rfl, hb⟩
    go_wp2_with fail
    go_end0
    exact ⟨.inl ⟨HE.out, rfl⟩, hb⟩
  · have c2 := c.some h
    have HE : Hid (¬ E = 0) := h
    clear c h
    unfold Gives
    go_enter Tryd.func51, Tryd.ntmps51
    go_wp2_with fail
    refine c2.mono ?_
    rintro e w1 ⟨rfl, hb⟩
    exact ⟨rfl, .inr ⟨HE.out, rfl⟩, hb⟩
set_option maxRecDepth 100000 in
theorem checkExpr_any (m : Nd) (w : World) (hl : Lies w m) (hz : size m ≤ 1000000000000) (ht : Tab w) : Calls Tryd.prog 25 #[.agg m.vals] w fun e w' => e = .returned (.int .i64 (cE m)) ∧ Below w.heap.size w w' := by
  have hmf : ∀ (fn : Fn) (first cap : Array Value) (w : World), (Instr.makeFunc fn first cap).run Tryd.prog w = .ok (.func fn first cap) w := fun _ _ _ _ => rfl
  have c := found_any 51 enter51 #[.pointer (some ⟨w.heap.size, 0, none⟩)] (cE m) (w.alloc (.cells m.vals 28)) (fun v hv => look51 m w.heap.size v ((hbox w m).on hv) ((hl.on (below_new w _)).on hv) hz ((ht.on (below_new w _)).on hv))
  clear hl hz ht
  unfold Nd.vals hdA at c ⊢
  go_enter Tryd.func25, Tryd.ntmps25
  go_wp2_with fail
  refine c.mono ?_
  rintro e w1 ⟨rfl, hb⟩
  go_wp2_with fail
  go_ret
  exact ⟨rfl, (below_new _ _).trans (hb.mono (by simp))⟩
set_option maxRecDepth 100000 in
theorem hasForm_any (m : Nd) (w : World) (hl : Lies w m) (ht : Tab w) : Calls Tryd.prog 47 #[.agg m.vals] w fun e w' => e = .returned (.bool (formB m)) ∧ Below w.heap.size w w' := by
  have hmf : ∀ (fn : Fn) (first cap : Array Value) (w : World), (Instr.makeFunc fn first cap).run Tryd.prog w = .ok (.func fn first cap) w := fun _ _ _ _ => rfl
  have c := found_any 57 enter57 #[.pointer (some ⟨w.heap.size, 0, none⟩)] (fE m) (w.alloc (.cells m.vals 28)) (fun v hv => look57 m w.heap.size v ((hbox w m).on hv) ((hl.on (below_new w _)).on hv) ((ht.on (below_new w _)).on hv))
  clear hl ht
  unfold fE at c
  obtain ⟨B, eB⟩ : ∃ B, formB m = B := ⟨_, rfl⟩
  rw [eB] at c ⊢
  clear eB
  unfold Nd.vals hdA at c ⊢
  cases B with
  | true =>
    rw [if_pos rfl] at c
    go_enter Tryd.func47, Tryd.ntmps47
    go_wp2_with fail
    refine c.mono ?_
    rintro e w1 ⟨rfl, hb⟩
    go_wp2_with fail
    go_ret
    exact ⟨rfl, (below_new _ _).trans (hb.mono (by simp))⟩
  | false =>
    rw [if_neg (by decide)] at c
    go_enter Tryd.func47, Tryd.ntmps47
    go_wp2_with fail
    refine c.mono ?_
    rintro e w1 ⟨rfl, hb⟩
    go_wp2_with fail
    go_ret
    exact ⟨rfl, (below_new _ _).trans (hb.mono (by simp))⟩
set_option maxRecDepth 100000 in
theorem levelX_any (m : Nd) (w : World) (hl : Lies w m) (ht : Tab w) : Calls Tryd.prog 23 #[.agg m.vals] w fun e w' => e = .returned (.int .i64 (if formB m = true then lvl m.h else 0)) ∧ Below w.heap.size w w' := by
  have c := hasForm_any m (w.alloc (.cells m.vals 28)) (hl.on (below_new w _)) (ht.on (below_new w _))
  have c2 := fun v => level_any m.h m.a m.ks.length m.c v
  clear hl ht
  obtain ⟨B, eB⟩ : ∃ B, formB m = B := ⟨_, rfl⟩
  rw [eB] at c ⊢
  clear eB
  unfold Nd.vals at c ⊢
  unfold hdA at c c2 ⊢
  cases B with
  | true =>
    rw [if_pos rfl]
    go_enter Tryd.func23, Tryd.ntmps23
    go_wp2_with fail
    refine c.mono ?_
    rintro e w1 ⟨rfl, hb⟩
    obtain ⟨q0, q1, q2, q3, q4, q5, q6, q7⟩ := box8 hb
    have HB1 : Hid (Below w.heap.size w w1) := (below_new _ _).trans (hb.mono (by simp))
    clear hb c
    go_wp2_with (go_at_call 48; refine (c2 _).mono ?_; rintro e w2 ⟨rfl, hb2⟩)
    go_ret
    exact ⟨rfl, HB1.out.trans (hb2.mono HB1.out.size)⟩
  | false =>
    rw [if_neg (by decide)]
    go_enter Tryd.func23, Tryd.ntmps23
    go_wp2_with fail
    refine c.mono ?_
    rintro e w1 ⟨rfl, hb⟩
    have HB1 : Hid (Below w.heap.size w w1) := (below_new _ _).trans (hb.mono (by simp))
    clear hb c
    go_wp2_with fail
    go_ret
    exact ⟨rfl, HB1.out⟩
set_option maxRecDepth 100000 in
theorem depthX_any (m : Nd) (w : World) (hl : Lies w m) (hz : size m ≤ 1000000000000) (ht : Tab w) : Calls Tryd.prog 24 #[.agg m.vals] w fun e w' => e = .returned (.int .i64 (if formB m = true then (dep m : Int) else 0)) ∧ Below w.heap.size w w' := by
  have c := hasForm_any m (w.alloc (.cells m.vals 28)) (hl.on (below_new w _)) (ht.on (below_new w _))
  have c2 := fun v (hv : Below w.heap.size w v) => depth_any m v (hl.on hv) hz
  clear hl ht hz
  obtain ⟨B, eB⟩ : ∃ B, formB m = B := ⟨_, rfl⟩
  rw [eB] at c ⊢
  clear eB
  unfold Nd.vals at c c2 ⊢
  unfold hdA at c c2 ⊢
  cases B with
  | true =>
    rw [if_pos rfl]
    go_enter Tryd.func24, Tryd.ntmps24
    go_wp2_with fail
    refine c.mono ?_
    rintro e w1 ⟨rfl, hb⟩
    obtain ⟨q0, q1, q2, q3, q4, q5, q6, q7⟩ := box8 hb
    have HB1 : Hid (Below w.heap.size w w1) := (below_new _ _).trans (hb.mono (by simp))
    clear hb c
    go_wp2_with (go_at_call 49; refine (c2 _ HB1.out).mono ?_; rintro e w2 ⟨rfl, hb2⟩)
    go_ret
    exact ⟨rfl, HB1.out.trans (hb2.mono HB1.out.size)⟩
  | false =>
    rw [if_neg (by decide)]
    go_enter Tryd.func24, Tryd.ntmps24
    go_wp2_with fail
    refine c.mono ?_
    rintro e w1 ⟨rfl, hb⟩
    have HB1 : Hid (Below w.heap.size w w1) := (below_new _ _).trans (hb.mono (by simp))
    clear hb c
    go_wp2_with fail
    go_ret
    exact ⟨rfl, HB1.out⟩
end Go.Proofs.YtighocmdlifheaaDoor

/-
  SameExpr: are two expressions the same, but for places?
-/
namespace Go.Proofs.YtighocmdlifheaaDoor
open Go.RowKit
theorem alike_eq {g h : Hd} (e : alike g h = true) : selfA h = selfA g := by
  unfold alike at e
  simp only [Bool.and_eq_true, decide_eq_true_eq] at e
  obtain ⟨e0, e1, e2, e3, e4, e5⟩ := e
  unfold selfA
  rw [← e0, ← e1, ← e2, ← e3, ← e4, ← e5]
theorem enter21 (args : Array Value) (v : World) : Sem.run Tryd.prog (callFunc 21 args) v = .ok (.enter 21 args) v := by kernel_rfl
set_option maxRecDepth 100000 in
set_option maxHeartbeats 4000000 in
theorem eqf_any (js ks : List Nd) (a b : Option Addr) (c d : Nat) (hj : js.length ≤ c) (hjm : c ≤ 9223372036854775807)
    (ih : ∀ j ∈ js, ∀ (k : Nd) (w : World), Lies w j → Lies w k → Calls Tryd.prog 21 #[.agg j.vals, .agg k.vals] w fun e w' => e = .returned (.bool (sameB j k)) ∧ Below w.heap.size w w')
    (g h : Hd) (w : World) (hl : Lies w (.mk g a c js)) (hk : Lies w (.mk h b d ks)) :
    Calls Tryd.prog 46 #[.slice a js.length c, .slice b ks.length d, .func (.func 21) #[] #[]] w fun e w' => e = .returned (.bool (decide (js.length = ks.length) && samesB js ks)) ∧ Below w.heap.size w w' := by
  by_cases hn : js.length = ks.length
  · rw [decide_eq_true hn, Bool.true_and]
    have hn' : ((js.length : Int) != (ks.length : Int)) = false := by simp; omega
    have hn2 : (js.length : Int) = (ks.length : Int) := by omega
    have HN : Hid (js.length = ks.length) := hn
    have HL := hl.hid
    have HK := hk.hid
    have HI : Hid (∀ j ∈ js, ∀ (k : Nd) (w : World), Lies w j → Lies w k → Calls Tryd.prog 21 #[.agg j.vals, .agg k.vals] w fun e w' => e = .returned (.bool (sameB j k)) ∧ Below w.heap.size w w') := ih
    obtain ⟨L, eL⟩ : ∃ L, ks.length = L := ⟨_, rfl⟩
    rw [eL] at hn hn' hn2 HN ⊢
    have HEL : Hid (ks.length = L) := eL
    have e1 : js.length = L := hn
    rw [e1] at hn' hn2 hj ⊢
    have HJL : Hid (js.length = L) := e1
    clear hl hk ih hn eL e1 HN hn2
    have hn' : ((L : Int) != (L : Int)) = false := by simp
    go_enter Tryd.func46, Tryd.ntmps46
    go_wp2_with fail
    go_loopw [7, 8, 9, 17] (fun _ _ _ t wr => ∃ i : Nat, i ≤ L ∧ t = .int .i64 i ∧ Below w.heap.size w wr ∧ Hid (samesB js ks = samesB (js.drop i) (ks.drop i))) (fun _ _ _ t _ => L - (intOf t).toNat)
    case atStart => exact ⟨0, by omega, rfl, Below.refl _ _, by show _ = _; simp⟩
    case round =>
      obtain ⟨i, hi, rfl, hbr, HR⟩ := hrel
      have HBR : Hid (Below w.heap.size w wr) := hbr
      clear hbr
      by_cases hlt : i < L
      · have hlt' : (i : Int) < (L : Int) := by omega
        have h1 : i < js.length := by rw [HJL.out]; exact hlt
        have h2 : i < ks.length := by rw [HEL.out]; exact hlt
        obtain ⟨b1, o1, e1, hat1⟩ := (HL.out.on HBR.out).kid i h1
        obtain ⟨b2, o2, e2, hat2⟩ := (HK.out.on HBR.out).kid i h2
        have e1' : a = some ⟨b1, o1, none⟩ := e1
        have e2' : b = some ⟨b2, o2, none⟩ := e2
        have cI := HI.out js[i] (nth_mem h1) ks[i]
        have HLj : Hid (Lies w js[i]) := HL.out.sub js[i] (nth_mem h1)
        have HLk : Hid (Lies w ks[i]) := HK.out.sub ks[i] (nth_mem h2)
        have HD : Hid (samesB js ks = (sameB js[i] ks[i] && samesB (js.drop (i + 1)) (ks.drop (i + 1)))) := by show _ = _; rw [HR.out, drop_nth h1, drop_nth h2]; rfl
        have hj1 : NdAt wr b1 (o1 + i * 8) js[i] := hat1
        have hk1 : NdAt wr b2 (o2 + i * 8) ks[i] := hat2
        clear hat1 hat2
        obtain ⟨j, ej⟩ : ∃ j, js[i] = j := ⟨_, rfl⟩
        obtain ⟨k, ek⟩ : ∃ k, ks[i] = k := ⟨_, rfl⟩
        rw [ej] at hj1 HD HLj cI
        rw [ek] at hk1 HD HLk cI
        clear e1 e2
        subst e1' e2'
        obtain ⟨y0, y1, y2, y3, y4, y5, y6, y7⟩ := hj1
        have hat2' : NdAt (wr.alloc (.cells #[.int .u8 j.h.k, .int .u8 j.h.o, .int .u8 j.h.t, .int .i64 j.h.n, .int .u8 j.h.f, .string j.h.x, .slice j.a j.ks.length j.c, .int .i64 j.h.p] 28)) b2 (o2 + i * 8) k := hk1.on (below_new _ _)
        obtain ⟨z0, z1, z2, z3, z4, z5, z6, z7⟩ := hat2'
        have hb2 := hk1.lt
        obtain ⟨B, eB⟩ : ∃ B, sameB j k = B := ⟨_, rfl⟩
        rw [eB] at HD cI
        have hmx : (i : Int) + 1 ≤ 9223372036854775807 := by omega
        have cI : ∀ v, Lies v j → Lies v k → Calls Tryd.prog 21 #[.agg #[.int .u8 j.h.k, .int .u8 j.h.o, .int .u8 j.h.t, .int .i64 j.h.n, .int .u8 j.h.f, .string j.h.x, .slice j.a j.ks.length j.c, .int .i64 j.h.p], .agg #[.int .u8 k.h.k, .int .u8 k.h.o, .int .u8 k.h.t, .int .i64 k.h.n, .int .u8 k.h.f, .string k.h.x, .slice k.a k.ks.length k.c, .int .i64 k.h.p]] v fun e w' => e = .returned (.bool B) ∧ Below v.heap.size v w' := cI
        have hj21 := fun args v => enter21 args v
        clear eB ej ek HR hk1 h1 h2
        cases B with
        | true =>
          go_wp2_with (with_reducible refine (cI _ (HLj.out.on (below2 HBR.out (below_two _ _ _))) (HLk.out.on (below2 HBR.out (below_two _ _ _)))).mono ?_; rintro e w5 ⟨rfl, hb5⟩)
          have HB5 : Hid (Below w.heap.size w w5) := below2 (below2 HBR.out (below_two _ _ _)) hb5
          exact ⟨⟨i + 1, hlt, rfl, HB5.out, by show _ = _; rw [HD.out]; rfl⟩, by simp only [intOf]; omega⟩
        | false =>
          go_wp2_with (with_reducible refine (cI _ (HLj.out.on (below2 HBR.out (below_two _ _ _))) (HLk.out.on (below2 HBR.out (below_two _ _ _)))).mono ?_; rintro e w5 ⟨rfl, hb5⟩)
          go_ret
          exact ⟨by rw [HD.out]; rfl, below2 (below2 HBR.out (below_two _ _ _)) hb5⟩
      · obtain rfl : i = L := by omega
        have hnot : ¬ (i : Int) < (i : Int) := by omega
        have HE : Hid (samesB js ks = true) := by show _ = _; rw [HR.out, ← HJL.out, List.drop_length]; rfl
        clear HR
        go_wp2_with fail
        go_ret
        exact ⟨by rw [HE.out]; rfl, HBR.out⟩
  · rw [decide_eq_false hn, Bool.false_and]
    have hn' : ((js.length : Int) != (ks.length : Int)) = true := by simp; omega
    clear hl hk ih
    go_enter Tryd.func46, Tryd.ntmps46
    go_wp2_with fail
    go_ret
    exact ⟨rfl, Below.refl _ _⟩
end Go.Proofs.YtighocmdlifheaaDoor

/-
  SameExpr, of any two expressions.
-/
namespace Go.Proofs.YtighocmdlifheaaDoor
open Go.RowKit
theorem below2of (w : World) (m k : Nd) : NdH ((w.alloc (.cells m.vals 28)).alloc (.cells k.vals 28)) w.heap.size m ∧ NdH ((w.alloc (.cells m.vals 28)).alloc (.cells k.vals 28)) (w.heap.size + 1) k := by
  refine ⟨heap_old (heap_new _ _) (by rw [size_alloc]; omega), ?_⟩
  unfold NdH
  rw [← size_alloc w (.cells m.vals 28)]; exact heap_new _ _
set_option maxRecDepth 100000 in
set_option maxHeartbeats 4000000 in
theorem same_any : ∀ (m k : Nd) (w : World), Lies w m → Lies w k → Calls Tryd.prog 21 #[.agg m.vals, .agg k.vals] w fun e w' => e = .returned (.bool (sameB m k)) ∧ Below w.heap.size w w' := by
  refine Nd.ind fun g a c js ih k w hl hk => ?_
  have cE : ∀ v, Below w.heap.size w v → Calls Tryd.prog 46 #[.slice a js.length c, .slice k.a k.ks.length k.c, .func (.func 21) #[] #[]] v fun e w' => e = .returned (.bool (decide (js.length = k.ks.length) && samesB js k.ks)) ∧ Below v.heap.size v w' := fun v hv => by
    obtain ⟨h, b, d, ks⟩ := k
    exact eqf_any js ks a b c d hl.cap hl.max (fun j hj k w h1 h2 => ih j hj k w h1 h2) g h v (hl.on hv) (hk.on hv)
  obtain ⟨m, em⟩ : ∃ m, Nd.mk g a c js = m := ⟨_, rfl⟩
  have HS : Hid (sameB m k = (alike m.h k.h && (decide (m.ks.length = k.ks.length) && samesB m.ks k.ks))) := by show _ = _; rw [← em]; rfl
  have cE : ∀ v, Below w.heap.size w v → Calls Tryd.prog 46 #[.slice m.a m.ks.length m.c, .slice k.a k.ks.length k.c, .func (.func 21) #[] #[]] v fun e w' => e = .returned (.bool (decide (m.ks.length = k.ks.length) && samesB m.ks k.ks)) ∧ Below v.heap.size v w' := by rw [← em]; exact cE
  rw [em]
  clear em ih hl hk
  have cS : ∀ v, Calls Tryd.prog 45 #[.agg #[.int .u8 m.h.k, .int .u8 m.h.o, .int .u8 m.h.t, .int .i64 m.h.n, .int .u8 m.h.f, .string m.h.x, .slice m.a m.ks.length m.c, .int .i64 m.h.p]] v fun e w' => e = .returned (.agg #[.int .u8 m.h.k, .int .u8 m.h.o, .int .u8 m.h.t, .int .i64 m.h.n, .int .u8 m.h.f, .string m.h.x]) ∧ Below v.heap.size v w' := fun v => selfOf_any m.h m.a m.ks.length m.c v
  have cT : ∀ v, Calls Tryd.prog 45 #[.agg #[.int .u8 k.h.k, .int .u8 k.h.o, .int .u8 k.h.t, .int .i64 k.h.n, .int .u8 k.h.f, .string k.h.x, .slice k.a k.ks.length k.c, .int .i64 k.h.p]] v fun e w' => e = .returned (.agg #[.int .u8 k.h.k, .int .u8 k.h.o, .int .u8 k.h.t, .int .i64 k.h.n, .int .u8 k.h.f, .string k.h.x]) ∧ Below v.heap.size v w' := fun v => selfOf_any k.h k.a k.ks.length k.c v
  obtain ⟨B, eB⟩ : ∃ B, (decide (m.ks.length = k.ks.length) && samesB m.ks k.ks) = B := ⟨_, rfl⟩
  simp only [eB] at cE
  rw [eB] at HS
  obtain ⟨A, eA⟩ : ∃ A, alike m.h k.h = A := ⟨_, rfl⟩
  have HA : Hid (alike m.h k.h = A) := eA
  rw [eA] at HS
  clear eB eA
  obtain ⟨X, eX⟩ : ∃ X, (w.alloc (.cells m.vals 28)).alloc (.cells k.vals 28) = X := ⟨_, rfl⟩
  have HKX : Hid (KK X w.heap.size (w.heap.size + 1) m k) := by rw [← eX]; exact ⟨(below2of w m k).1, (below2of w m k).2⟩
  have HBX : Hid (Below w.heap.size w X) := by rw [← eX]; exact below_two _ _ _
  unfold Nd.vals hdA at eX
  show Calls Tryd.prog 21 #[.agg #[.int .u8 m.h.k, .int .u8 m.h.o, .int .u8 m.h.t, .int .i64 m.h.n, .int .u8 m.h.f, .string m.h.x, .slice m.a m.ks.length m.c, .int .i64 m.h.p], .agg #[.int .u8 k.h.k, .int .u8 k.h.o, .int .u8 k.h.t, .int .i64 k.h.n, .int .u8 k.h.f, .string k.h.x, .slice k.a k.ks.length k.c, .int .i64 k.h.p]] w _
  go_enter Tryd.func21, Tryd.ntmps21
  go_wp2_with fail
  clear eX
  cases A with
  | true =>
    have hs := alike_eq HA.out
    unfold selfA at hs
    simp only [hs] at cT
    clear hs
    refine wp_region_held_drew (S := (fun v => v.cell? ⟨w.heap.size, 0, none⟩ = some (.int .u8 m.h.k) ∧ v.cell? ⟨w.heap.size, 1, none⟩ = some (.int .u8 m.h.o) ∧ v.cell? ⟨w.heap.size, 2, none⟩ = some (.int .u8 m.h.t) ∧ v.cell? ⟨w.heap.size, 3, none⟩ = some (.int .i64 m.h.n) ∧ v.cell? ⟨w.heap.size, 4, none⟩ = some (.int .u8 m.h.f) ∧ v.cell? ⟨w.heap.size, 5, none⟩ = some (.string m.h.x) ∧ v.cell? ⟨w.heap.size, 6, none⟩ = some (.slice m.a m.ks.length m.c) ∧ v.cell? ⟨w.heap.size, 7, none⟩ = some (.int .i64 m.h.p) ∧ v.cell? ⟨(w.heap.size + 1), 0, none⟩ = some (.int .u8 k.h.k) ∧ v.cell? ⟨(w.heap.size + 1), 1, none⟩ = some (.int .u8 k.h.o) ∧ v.cell? ⟨(w.heap.size + 1), 2, none⟩ = some (.int .u8 k.h.t) ∧ v.cell? ⟨(w.heap.size + 1), 3, none⟩ = some (.int .i64 k.h.n) ∧ v.cell? ⟨(w.heap.size + 1), 4, none⟩ = some (.int .u8 k.h.f) ∧ v.cell? ⟨(w.heap.size + 1), 5, none⟩ = some (.string k.h.x) ∧ v.cell? ⟨(w.heap.size + 1), 6, none⟩ = some (.slice k.a k.ks.length k.c) ∧ v.cell? ⟨(w.heap.size + 1), 7, none⟩ = some (.int .i64 k.h.p) ∧ GB X v)) (by kernel_rfl) (HKX.out.keep (by (repeat (first | with_reducible assumption | with_reducible exact GB.refl _ | with_reducible apply GB.drew | with_reducible apply GB.alloc | with_reducible refine GB.call (by with_reducible assumption) ?_)))) (fun hHeld => ?_)
    refine wpAnyH_take (i := 0) (v := ?_) rfl (by kernel_rfl) (by kernel_rfl) (by kernel_rfl) (fun _ _ _ h => h) (Or.inl ⟨by rfl, ?_⟩) (by assumption) ?_
    rotate_left
    · (intro w hSw; (try dsimp only at hSw); go_simp; try (with_reducible rfl))
    try simp [Act.put]
    refine wpAnyH_take (i := 2) (v := ?_) rfl (by kernel_rfl) (by kernel_rfl) (by kernel_rfl) (fun _ _ _ h => h) (Or.inl ⟨by rfl, ?_⟩) (by assumption) ?_
    rotate_left
    · (intro w hSw; (try dsimp only at hSw); go_simp; try (with_reducible rfl))
    try simp [Act.put]
    refine wpAnyH_ready (rs := [1]) (by kernel_rfl) (by simp) ?_
    refine AllReadyH.cons rfl (fun K hK => ?_) AllReadyH.nil
    go_simp
    refine (cS _).mono ?_
    rintro e w2 ⟨rfl, hb2⟩
    have hg2 : GB X w2 := GB.call hb2 (by (repeat (first | with_reducible assumption | with_reducible exact GB.refl _ | with_reducible apply GB.drew | with_reducible apply GB.alloc | with_reducible refine GB.call (by with_reducible assumption) ?_)))
    have HG2 : Hid (GB X w2) := hg2
    go_simp
    refine hK.out _ _ ?_ (fun hHeld => ?_)
    · exact HKX.out.keep hg2
    clear hK K
    try simp [Act.put]
    refine wpAnyH_ready (rs := [3]) (by kernel_rfl) (by simp) ?_
    refine AllReadyH.cons rfl (fun K hK => ?_) AllReadyH.nil
    go_simp
    refine (cT _).mono ?_
    rintro e w3 ⟨rfl, hb3⟩
    have hg3 : GB X w3 := GB.call hb3 HG2.out
    have HG3 : Hid (GB X w3) := hg3
    go_simp
    refine hK.out _ _ ?_ (fun hHeld => ?_)
    · exact HKX.out.keep hg3
    clear hK K
    try simp [Act.put]
    refine wpAnyH_take (i := 4) (v := ?_) rfl (by kernel_rfl) (by kernel_rfl) (by kernel_rfl) (fun _ _ _ h => h) (Or.inl ⟨by rfl, ?_⟩) (by assumption) ?_
    rotate_left
    · (intro w hSw; (try dsimp only at hSw); go_simp; try (with_reducible rfl))
    try simp [Act.put]
    refine wpAnyH_take (i := 5) (v := ?_) rfl (by kernel_rfl) (by kernel_rfl) (by kernel_rfl) (fun _ _ _ h => h) (Or.inl ⟨by rfl, ?_⟩) (by assumption) ?_
    rotate_left
    · (intro w hSw; (try dsimp only at hSw); go_simp; try (with_reducible rfl))
    try simp [Act.put]
    refine wpAnyH_take (i := 6) (v := ?_) rfl (by kernel_rfl) (by kernel_rfl) (by kernel_rfl) (fun _ _ _ h => h) (Or.inl ⟨by rfl, ?_⟩) (by assumption) ?_
    rotate_left
    · (intro w hSw; (try dsimp only at hSw); go_simp; try (with_reducible rfl))
    try simp [Act.put]
    refine wpAnyH_take (i := 7) (v := ?_) rfl (by kernel_rfl) (by kernel_rfl) (by kernel_rfl) (fun _ _ _ h => h) (Or.inl ⟨by rfl, ?_⟩) (by assumption) ?_
    rotate_left
    · (intro w hSw; (try dsimp only at hSw); go_simp; try (with_reducible rfl))
    try simp [Act.put]
    refine wpAnyH_take (i := 8) (v := ?_) rfl (by kernel_rfl) (by kernel_rfl) (by kernel_rfl) (fun _ _ _ h => h) (Or.inl ⟨by rfl, ?_⟩) (by assumption) ?_
    rotate_left
    · (intro w hSw; (try dsimp only at hSw); go_simp; try (with_reducible rfl))
    try simp [Act.put]
    refine wpAnyH_take (i := 9) (v := ?_) rfl (by kernel_rfl) (by kernel_rfl) (by kernel_rfl) (fun _ _ _ h => h) (Or.inl ⟨by rfl, ?_⟩) (by assumption) ?_
    rotate_left
    · (intro w hSw; (try dsimp only at hSw); go_simp; try (with_reducible rfl))
    try simp [Act.put]
    refine wpAnyH_ready (rs := [10]) (by kernel_rfl) (by simp) ?_
    refine AllReadyH.cons rfl (fun K hK => ?_) AllReadyH.nil
    go_simp
    refine (cE _ (below2 HBX.out HG3.out)).mono ?_
    rintro e w4 ⟨rfl, hb4⟩
    have hg4 : GB X w4 := GB.call hb4 HG3.out
    have HG4 : Hid (GB X w4) := hg4
    go_simp
    refine hK.out _ _ ?_ (fun hHeld => ?_)
    · exact HKX.out.keep hg4
    clear hK K
    try simp [Act.put]
    refine wpAnyH_take (i := 11) (v := ?_) rfl (by kernel_rfl) (by kernel_rfl) (by kernel_rfl) (fun _ _ _ h => h) (Or.inl ⟨by rfl, ?_⟩) (by assumption) ?_
    rotate_left
    · (intro w hSw; (try dsimp only at hSw); go_simp; try (with_reducible rfl))
    try simp [Act.put]
    refine wpAnyH_take (i := 12) (v := ?_) rfl (by kernel_rfl) (by kernel_rfl) (by kernel_rfl) (fun _ _ _ h => h) (Or.inl ⟨by rfl, ?_⟩) (by assumption) ?_
    rotate_left
    · (intro w hSw; (try dsimp only at hSw); go_simp; try (with_reducible rfl))
    try simp [Act.put]
    refine wpAnyH_done (by kernel_rfl) ?_ _
    have HV : Hid (Below w.heap.size w w4) := below2 HBX.out HG4.out
    clear hHeld hb2 hb3 hg2 hg3 hb4 hg4
    go_wp2_with fail
    go_ret
    exact ⟨by rw [HS.out]; cases B <;> rfl, HV.out⟩
  | false =>
    refine wp_region_held_drew (S := (fun v => v.cell? ⟨w.heap.size, 0, none⟩ = some (.int .u8 m.h.k) ∧ v.cell? ⟨w.heap.size, 1, none⟩ = some (.int .u8 m.h.o) ∧ v.cell? ⟨w.heap.size, 2, none⟩ = some (.int .u8 m.h.t) ∧ v.cell? ⟨w.heap.size, 3, none⟩ = some (.int .i64 m.h.n) ∧ v.cell? ⟨w.heap.size, 4, none⟩ = some (.int .u8 m.h.f) ∧ v.cell? ⟨w.heap.size, 5, none⟩ = some (.string m.h.x) ∧ v.cell? ⟨w.heap.size, 6, none⟩ = some (.slice m.a m.ks.length m.c) ∧ v.cell? ⟨w.heap.size, 7, none⟩ = some (.int .i64 m.h.p) ∧ v.cell? ⟨(w.heap.size + 1), 0, none⟩ = some (.int .u8 k.h.k) ∧ v.cell? ⟨(w.heap.size + 1), 1, none⟩ = some (.int .u8 k.h.o) ∧ v.cell? ⟨(w.heap.size + 1), 2, none⟩ = some (.int .u8 k.h.t) ∧ v.cell? ⟨(w.heap.size + 1), 3, none⟩ = some (.int .i64 k.h.n) ∧ v.cell? ⟨(w.heap.size + 1), 4, none⟩ = some (.int .u8 k.h.f) ∧ v.cell? ⟨(w.heap.size + 1), 5, none⟩ = some (.string k.h.x) ∧ v.cell? ⟨(w.heap.size + 1), 6, none⟩ = some (.slice k.a k.ks.length k.c) ∧ v.cell? ⟨(w.heap.size + 1), 7, none⟩ = some (.int .i64 k.h.p) ∧ GB X v)) (by kernel_rfl) (HKX.out.keep (by (repeat (first | with_reducible assumption | with_reducible exact GB.refl _ | with_reducible apply GB.drew | with_reducible apply GB.alloc | with_reducible refine GB.call (by with_reducible assumption) ?_)))) (fun hHeld => ?_)
    refine wpAnyH_take (i := 0) (v := ?_) rfl (by kernel_rfl) (by kernel_rfl) (by kernel_rfl) (fun _ _ _ h => h) (Or.inl ⟨by rfl, ?_⟩) (by assumption) ?_
    rotate_left
    · (intro w hSw; (try dsimp only at hSw); go_simp; try (with_reducible rfl))
    try simp [Act.put]
    refine wpAnyH_take (i := 2) (v := ?_) rfl (by kernel_rfl) (by kernel_rfl) (by kernel_rfl) (fun _ _ _ h => h) (Or.inl ⟨by rfl, ?_⟩) (by assumption) ?_
    rotate_left
    · (intro w hSw; (try dsimp only at hSw); go_simp; try (with_reducible rfl))
    try simp [Act.put]
    refine wpAnyH_ready (rs := [1]) (by kernel_rfl) (by simp) ?_
    refine AllReadyH.cons rfl (fun K hK => ?_) AllReadyH.nil
    go_simp
    refine (cS _).mono ?_
    rintro e w2 ⟨rfl, hb2⟩
    have hg2 : GB X w2 := GB.call hb2 (by (repeat (first | with_reducible assumption | with_reducible exact GB.refl _ | with_reducible apply GB.drew | with_reducible apply GB.alloc | with_reducible refine GB.call (by with_reducible assumption) ?_)))
    have HG2 : Hid (GB X w2) := hg2
    go_simp
    refine hK.out _ _ ?_ (fun hHeld => ?_)
    · exact HKX.out.keep hg2
    clear hK K
    try simp [Act.put]
    refine wpAnyH_ready (rs := [3]) (by kernel_rfl) (by simp) ?_
    refine AllReadyH.cons rfl (fun K hK => ?_) AllReadyH.nil
    go_simp
    refine (cT _).mono ?_
    rintro e w3 ⟨rfl, hb3⟩
    have hg3 : GB X w3 := GB.call hb3 HG2.out
    have HG3 : Hid (GB X w3) := hg3
    go_simp
    refine hK.out _ _ ?_ (fun hHeld => ?_)
    · exact HKX.out.keep hg3
    clear hK K
    try simp [Act.put]
    refine wpAnyH_take (i := 4) (v := .bool false) rfl (by kernel_rfl) (by kernel_rfl) (by kernel_rfl) (fun _ _ _ h => h) (Or.inl ⟨by rfl, ?_⟩) (by assumption) ?_
    · (intro w hSw; (try dsimp only at hSw); go_simp; exact neq6 HA.out)
    try simp [Act.put]
    refine wpAnyH_take (i := 5) (v := ?_) rfl (by kernel_rfl) (by kernel_rfl) (by kernel_rfl) (fun _ _ _ h => h) (Or.inl ⟨by rfl, ?_⟩) (by assumption) ?_
    rotate_left
    · (intro w hSw; (try dsimp only at hSw); go_simp; try (with_reducible rfl))
    try simp [Act.put]
    refine wpAnyH_take (i := 6) (v := ?_) rfl (by kernel_rfl) (by kernel_rfl) (by kernel_rfl) (fun _ _ _ h => h) (Or.inr ⟨by rfl, ?_⟩) (by assumption) ?_
    rotate_left
    · rfl
    try simp [Act.put]
    refine wpAnyH_take (i := 7) (v := ?_) rfl (by kernel_rfl) (by kernel_rfl) (by kernel_rfl) (fun _ _ _ h => h) (Or.inr ⟨by rfl, ?_⟩) (by assumption) ?_
    rotate_left
    · rfl
    try simp [Act.put]
    refine wpAnyH_take (i := 8) (v := ?_) rfl (by kernel_rfl) (by kernel_rfl) (by kernel_rfl) (fun _ _ _ h => h) (Or.inr ⟨by rfl, ?_⟩) (by assumption) ?_
    rotate_left
    · rfl
    try simp [Act.put]
    refine wpAnyH_take (i := 9) (v := ?_) rfl (by kernel_rfl) (by kernel_rfl) (by kernel_rfl) (fun _ _ _ h => h) (Or.inr ⟨by rfl, ?_⟩) (by assumption) ?_
    rotate_left
    · rfl
    try simp [Act.put]
    refine wpAnyH_take (i := 10) (v := ?_) rfl (by kernel_rfl) (by kernel_rfl) (by kernel_rfl) (fun _ _ _ h => h) (Or.inr ⟨by rfl, ?_⟩) (by assumption) ?_
    rotate_left
    · rfl
    try simp [Act.put]
    refine wpAnyH_take (i := 11) (v := ?_) rfl (by kernel_rfl) (by kernel_rfl) (by kernel_rfl) (fun _ _ _ h => h) (Or.inl ⟨by rfl, ?_⟩) (by assumption) ?_
    rotate_left
    · (intro w hSw; (try dsimp only at hSw); go_simp; try (with_reducible rfl))
    try simp [Act.put]
    refine wpAnyH_take (i := 12) (v := ?_) rfl (by kernel_rfl) (by kernel_rfl) (by kernel_rfl) (fun _ _ _ h => h) (Or.inl ⟨by rfl, ?_⟩) (by assumption) ?_
    rotate_left
    · (intro w hSw; (try dsimp only at hSw); go_simp; try (with_reducible rfl))
    try simp [Act.put]
    refine wpAnyH_done (by kernel_rfl) ?_ _
    have HV : Hid (Below w.heap.size w w3) := below2 HBX.out HG3.out
    clear hHeld hb2 hb3 hg2 hg3
    go_wp2_with fail
    go_ret
    exact ⟨by rw [HS.out]; rfl, HV.out⟩
end Go.Proofs.YtighocmdlifheaaDoor
