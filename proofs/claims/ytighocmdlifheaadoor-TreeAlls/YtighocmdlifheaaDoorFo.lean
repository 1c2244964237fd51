/-
  found: what is wrong, by a look that gives up; hasForm, CheckExpr, Level, Depth.
-/
import Derived.Test.YtighocmdlifheaaDoorDp
import Derived.Defers
import Derived.Recover
import Derived.Laws.Pointers
namespace Go.Proofs.YtighocmdlifheaaDoor
open Go.RowKit
theorem assert_hit (v : Value) (w : World) : (Instr.typeAssert (.iface 64 v) 20 64 true).run Tryd.prog w = .ok (.tuple #[v, .bool true]) w := by
  simp [Instr.typeAssert, run_underlying Tryd.underlying64, go_sem, Result.andThen]
theorem assert_nil (w : World) : (Instr.typeAssert .nilIface 20 64 true).run Tryd.prog w = .ok (.tuple #[.int .i64 0, .bool false]) w := by
  simp [Instr.typeAssert, run_underlying Tryd.underlying64, go_sem, Result.andThen]
set_option maxRecDepth 100000 in
theorem catch_p (p : Addr) (y no : Int) (older : List PanicEntry) (w : World) (hc : w.cell? p = some (.int .i64 y)) (hz : w.frozen? p = false) :
    CallsD Tryd.prog 62 #[.pointer (some p)] (.panicking ({ v := .iface 64 (.int .i64 no), recovered := false } :: older)) w fun e u' w' =>
      e = .returned (.tuple #[]) ∧ u' = .panicking ({ v := .iface 64 (.int .i64 no), recovered := true } :: older) ∧ w' = w.setCell p (.int .i64 no) := by
  refine callsD_of_wpS Tryd.func62 rfl fun c₀ cs hu => ?_
  apply wpS_region
  simp [wpOpsS, go_sem, recoverD, hu, Tryd.ntmps62, hc, hz, assert_hit, Result.andThen, bodyPostS, results, Tryd.results62]
set_option maxRecDepth 100000 in
theorem catch_i (p : Addr) (y : Int) (w : World) (hc : w.cell? p = some (.int .i64 y)) (hz : w.frozen? p = false) :
    CallsD Tryd.prog 62 #[.pointer (some p)] .returning w fun e u' w' => e = .returned (.tuple #[]) ∧ u' = .returning ∧ w' = w.setCell p (.int .i64 0) := by
  refine callsD_of_wpS Tryd.func62 rfl fun c₀ cs hu => ?_
  apply wpS_region
  simp [wpOpsS, go_sem, recoverD, hu, Tryd.ntmps62, hc, hz, assert_nil, Result.andThen]
  cases c₀
  simp_all [bodyPostS, results, Tryd.results62]
set_option maxRecDepth 100000 in
/-- What a look finds: F the look's closure, with what it holds. -/
theorem found_any (F : Nat) (hE : ∀ args v, Sem.run Tryd.prog (callFunc F args) v = .ok (.enter F args) v) (cap : Array Value) (E : Int) (w : World)
    (cF : ∀ v, Below w.heap.size w v → Calls Tryd.prog F cap v fun e w' => ((E = 0 ∧ e = .returned (.tuple #[])) ∨ (¬ E = 0 ∧ e = .panicked [{ v := .iface 64 (.int .i64 E), recovered := false }])) ∧ Below v.heap.size v w') :
    Calls Tryd.prog 50 #[.func (.func F) #[] cap] w fun e w' => e = .returned (.int .i64 E) ∧ Below w.heap.size w w' := by
  have hmf : ∀ (fn : Fn) (first cap : Array Value) (w : World), (Instr.makeFunc fn first cap).run Tryd.prog w = .ok (.func fn first cap) w := fun _ _ _ _ => rfl
  by_cases h : E = 0
  · subst h
    have cG : ∀ v, Below w.heap.size w v → Calls Tryd.prog F cap v fun e w' => e = .returned (.tuple #[]) ∧ Below v.heap.size v w' := fun v hv => (cF v hv).mono (by
      rintro e w' ⟨h1 | h1, h2⟩
      · exact ⟨h1.2, h2⟩
      · exact absurd rfl h1.1)
    clear cF
    go_enter_defers Tryd.func50, Tryd.ntmps50
    go_wp2_with fail
    refine (cG _ (below_new _ _)).mono ?_
    rintro e w1 ⟨rfl, hb1⟩
    have hbk := (hb1.block w.heap.size (by simp)).trans (heap_new w _)
    have c0 : w1.cell? ⟨w.heap.size, 0, none⟩ = some (.int .i64 0) := cell_of hbk 0
    have f0 : w1.frozen? ⟨w.heap.size, 0, none⟩ = false := frozen_of hbk 0
    have HB1 : Hid (Below w.heap.size w w1) := (below_new _ _).trans (hb1.mono (by simp))
    have HK : Hid (w1.heap[w.heap.size]? = some (.cells #[.int .i64 0] 64 (0, 0))) := hbk
    clear hbk hb1
    go_wp2_with fail
    refine leaves_cons (f := 62) (args := #[.pointer (some ⟨w.heap.size, 0, none⟩)]) (by simp) (by simp [go_sem]) ?_
    refine (catch_i ⟨w.heap.size, 0, none⟩ 0 _ (cell_of (heap_set _ HK.out) 0) (frozen_of (heap_set _ HK.out) 0)).mono ?_
    rintro e u' w'' ⟨rfl, rfl, rfl⟩
    have h9 := heap_set (j := 0) (.int .i64 0) (heap_set (j := 0) (.int .i64 0) HK.out)
    have c9 : ((w1.setCell ⟨w.heap.size, 0, none⟩ (.int .i64 0)).setCell ⟨w.heap.size, 0, none⟩ (.int .i64 0)).cell? ⟨w.heap.size, 0, none⟩ = some (.int .i64 0) := cell_of h9 0
    have b9 : Below w.heap.size w ((w1.setCell ⟨w.heap.size, 0, none⟩ (.int .i64 0)).setCell ⟨w.heap.size, 0, none⟩ (.int .i64 0)) := (HB1.out.setCell (p := ⟨w.heap.size, 0, none⟩) (Nat.le_refl _) _).setCell (p := ⟨w.heap.size, 0, none⟩) (Nat.le_refl _) _
    simp [Leaves, settle, results, Tryd.results50, go_sem, c9, b9]
  · have cG : ∀ v, Below w.heap.size w v → Calls Tryd.prog F cap v fun e w' => e = .panicked [{ v := .iface 64 (.int .i64 E), recovered := false }] ∧ Below v.heap.size v w' := fun v hv => (cF v hv).mono (by
      rintro e w' ⟨h1 | h1, h2⟩
      · exact absurd h1.1 h
      · exact ⟨h1.2, h2⟩)
    clear cF
    go_enter_defers Tryd.func50, Tryd.ntmps50
    go_wp2_with fail
    refine (cG _ (below_new _ _)).mono ?_
    rintro e w1 ⟨rfl, hb1⟩
    have hbk := (hb1.block w.heap.size (by simp)).trans (heap_new w _)
    have c0 : w1.cell? ⟨w.heap.size, 0, none⟩ = some (.int .i64 0) := cell_of hbk 0
    have f0 : w1.frozen? ⟨w.heap.size, 0, none⟩ = false := frozen_of hbk 0
    have HB1 : Hid (Below w.heap.size w w1) := (below_new _ _).trans (hb1.mono (by simp))
    have HK : Hid (w1.heap[w.heap.size]? = some (.cells #[.int .i64 0] 64 (0, 0))) := hbk
    clear hbk hb1
    go_wp2_with fail
    refine leaves_cons (f := 62) (args := #[.pointer (some ⟨w.heap.size, 0, none⟩)]) (by simp) (by simp [go_sem]) ?_
    refine (catch_p ⟨w.heap.size, 0, none⟩ 0 E [] _ c0 f0).mono ?_
    rintro e u' w'' ⟨rfl, rfl, rfl⟩
    have h9 := heap_set (j := 0) (.int .i64 E) HK.out
    have c9 : (w1.setCell ⟨w.heap.size, 0, none⟩ (.int .i64 E)).cell? ⟨w.heap.size, 0, none⟩ = some (.int .i64 E) := cell_of h9 0
    have b9 : Below w.heap.size w (w1.setCell ⟨w.heap.size, 0, none⟩ (.int .i64 E)) := HB1.out.setCell (p := ⟨w.heap.size, 0, none⟩) (Nat.le_refl _) _
    simp [Leaves, settle, results, Tryd.results50, go_sem, c9, b9]
theorem enter57 (args : Array Value) (v : World) : Sem.run Tryd.prog (callFunc 57 args) v = .ok (.enter 57 args) v := by kernel_rfl
theorem enter51 (args : Array Value) (v : World) : Sem.run Tryd.prog (callFunc 51 args) v = .ok (.enter 51 args) v := by kernel_rfl
/-- A look that gives up with E, or doesn't. -/
def Gives (F : Nat) (args : Array Value) (w : World) (E : Int) : Prop := Calls Tryd.prog F args w fun e w' => ((E = 0 ∧ e = .returned (.tuple #[])) ∨ (¬ E = 0 ∧ e = .panicked [{ v := .iface 64 (.int .i64 E), recovered := false }])) ∧ Below w.heap.size w w'
def fE (m : Nd) : Int := if formB m = true then 0 else 120
theorem form_gives {m : Nd} {w : World} (hl : Lies w m) (ht : Tab w) : Gives 58 #[.agg m.vals] w (fE m) := by
  refine (form_any m w hl ht).mono ?_
  rintro e w' ⟨rfl, hb⟩
  unfold fE endE
  cases formB m with
  | true => exact ⟨.inl ⟨rfl, rfl⟩, hb⟩
  | false => exact ⟨.inr ⟨by decide, rfl⟩, hb⟩
set_option maxRecDepth 100000 in
theorem look57 (m : Nd) (b : Nat) (w : World) (hn : NdH w b m) (hl : Lies w m) (ht : Tab w) : Gives 57 #[.pointer (some ⟨b, 0, none⟩)] w (fE m) := by
  obtain ⟨y0, y1, y2, y3, y4, y5, y6, y7⟩ := hn.eight
  have c := form_gives hl ht
  unfold Gives at c ⊢
  obtain ⟨E, eE⟩ : ∃ E, fE m = E := ⟨_, rfl⟩
  rw [eE] at c ⊢
  unfold Nd.vals hdA at c
  clear eE hl ht hn
  by_cases h : E = 0
  · have c2 := c.mono (R' := fun e w' => e = .returned (.tuple #[]) ∧ Below w.heap.size w w') (by
      rintro e w' ⟨h1 | h1, h2⟩
      · exact ⟨h1.2, h2⟩
      · exact absurd h h1.1)
    have HE : Hid (E = 0) := h
    clear c h
    go_enter Tryd.func57, Tryd.ntmps57
    go_wp2_with fail
    refine c2.mono ?_
    rintro e w1 ⟨rfl, hb⟩
    go_wp2_with fail
    go_end0
    exact ⟨.inl ⟨HE.out, rfl⟩, hb⟩
  · have c2 := c.mono (R' := fun e w' => e = .panicked [{ v := .iface 64 (.int .i64 E), recovered := false }] ∧ Below w.heap.size w w') (by
      rintro e w' ⟨h1 | h1, h2⟩
      · exact absurd h1.1 h
      · exact ⟨h1.2, h2⟩)
    have HE : Hid (¬ E = 0) := h
    clear c h
    go_enter Tryd.func57, Tryd.ntmps57
    go_wp2_with fail
    refine c2.mono ?_
    rintro e w1 ⟨rfl, hb⟩
    exact ⟨rfl, .inr ⟨HE.out, rfl⟩, hb⟩
end Go.Proofs.YtighocmdlifheaaDoor
