/-
  hasForm, CheckExpr, Level, Depth.
-/
import Derived.Test.YtighocmdlifheaaDoorFo
namespace Go.Proofs.YtighocmdlifheaaDoor
open Go.RowKit
theorem Gives.zero {F : Nat} {args : Array Value} {w : World} (c : Gives F args w 0) : Calls Tryd.prog F args w fun e w' => e = .returned (.tuple #[]) ∧ Below w.heap.size w w' := c.mono (by
  rintro e w' ⟨h1 | h1, h2⟩
  · exact ⟨h1.2, h2⟩
  · exact absurd rfl h1.1)
theorem Gives.some {F : Nat} {args : Array Value} {w : World} {E : Int} (h : ¬ E = 0) (c : Gives F args w E) : Calls Tryd.prog F args w fun e w' => e = .panicked [{ v := .iface 64 (.int .i64 E), recovered := false }] ∧ Below w.heap.size w w' := c.mono (by
  rintro e w' ⟨h1 | h1, h2⟩
  · exact absurd h1.1 h
  · exact ⟨h1.2, h2⟩)
def cE (m : Nd) : Int := if formB m = true then (if dep m ≤ 24 then 0 else 122) else 120
theorem hbox (w : World) (m : Nd) : NdH (w.alloc (.cells m.vals 28)) w.heap.size m := heap_new w _
set_option maxRecDepth 100000 in
theorem needExpr_any (m : Nd) (w : World) (hl : Lies w m) (hz : size m ≤ 1000000000000) (ht : Tab w) : Gives 52 #[.agg m.vals] w (cE m) := by
  have hN := hbox w m
  have hb0 := below_new w (.cells m.vals 28)
  have c1 := form_gives (hl.on hb0) (ht.on hb0)
  have c2 := fun v (hv : Below w.heap.size w v) => depth_any m v (hl.on hv) hz
  unfold Gives cE
  unfold fE at c1
  have HN := hN.hid
  clear hl hz ht hN hb0
  obtain ⟨B, eB⟩ : ∃ B, formB m = B := ⟨_, rfl⟩
  rw [eB] at c1 ⊢
  obtain ⟨d, ed⟩ : ∃ d, dep m = d := ⟨_, rfl⟩
  simp only [ed] at c2 ⊢
  clear ed eB
  unfold Nd.vals hdA at c1 c2 HN ⊢
  cases B with
  | false =>
    rw [if_neg (by decide)] at c1 ⊢
    have c3 := Gives.some (by decide) c1
    clear c1
    go_enter Tryd.func52, Tryd.ntmps52
    go_wp2_with fail
    refine c3.mono ?_
    rintro e w1 ⟨rfl, hb⟩
    exact ⟨rfl, .inr ⟨by decide, rfl⟩, (below_new _ _).trans (hb.mono (by simp))⟩
  | true =>
    rw [if_pos rfl] at c1
    have c3 := Gives.zero c1
    clear c1
    by_cases h : d ≤ 24
    · have h' : (d : Int) ≤ 24 := by omega
      rw [if_pos rfl, if_pos h]
      go_enter Tryd.func52, Tryd.ntmps52
      go_wp2_with fail
      refine c3.mono ?_
      rintro e w1 ⟨rfl, hb⟩
      obtain ⟨q0, q1, q2, q3, q4, q5, q6, q7⟩ := box8 hb
      have HB1 : Hid (Below w.heap.size w w1) := (below_new _ _).trans (hb.mono (by simp))
      clear hb c3
      go_wp2_with (go_at_call 49; refine (c2 _ HB1.out).mono ?_; rintro e w2 ⟨rfl, hb2⟩)
      refine (need_t 122 _).mono ?_
      rintro e w3 ⟨rfl, e4⟩
      obtain rfl := e4.symm
      go_wp2_with fail
      go_end0
      first | exact ⟨.inl ⟨rfl, rfl⟩, HB1.out.trans (hb2.mono HB1.out.size)⟩ | exact ⟨.inl ⟨trivial, rfl⟩, HB1.out.trans (hb2.mono HB1.out.size)⟩
    · have h' : ¬ (d : Int) ≤ 24 := by omega
      rw [if_pos rfl, if_neg h]
      go_enter Tryd.func52, Tryd.ntmps52
      go_wp2_with fail
      refine c3.mono ?_
      rintro e w1 ⟨rfl, hb⟩
      obtain ⟨q0, q1, q2, q3, q4, q5, q6, q7⟩ := box8 hb
      have HB1 : Hid (Below w.heap.size w w1) := (below_new _ _).trans (hb.mono (by simp))
      clear hb c3
      go_wp2_with (go_at_call 49; refine (c2 _ HB1.out).mono ?_; rintro e w2 ⟨rfl, hb2⟩)
      rw [show decide ((d : Int) ≤ 24) = false from decide_eq_false (by omega)]
      refine (need_f 122 _).mono ?_
      rintro e w3 ⟨rfl, e4⟩
      obtain rfl := e4.symm
      exact ⟨rfl, .inr ⟨by decide, rfl⟩, HB1.out.trans (hb2.mono HB1.out.size)⟩
set_option maxRecDepth 100000 in
theorem look51 (m : Nd) (b : Nat) (w : World) (hn : NdH w b m) (hl : Lies w m) (hz : size m ≤ 1000000000000) (ht : Tab w) : Gives 51 #[.pointer (some ⟨b, 0, none⟩)] w (cE m) := by
  obtain ⟨y0, y1, y2, y3, y4, y5, y6, y7⟩ := hn.eight
  have c := needExpr_any m w hl hz ht
  obtain ⟨E, eE⟩ : ∃ E, cE m = E := ⟨_, rfl⟩
  rw [eE] at c ⊢
  unfold Nd.vals hdA at c
  clear eE hl ht hn hz
  by_cases h : E = 0
  · have c2 := (h ▸ c : Gives 52 _ w 0).zero
    have HE : Hid (E = 0) := h
    clear c h
    unfold Gives
    go_enter Tryd.func51, Tryd.ntmps51
    go_wp2_with fail
    refine c2.mono ?_
    rintro e w1 ⟨rfl, hb⟩
    go_wp2_with fail
    go_end0
    exact ⟨.inl ⟨HE.out, rfl⟩, hb⟩
  · have c2 := c.some h
    have HE : Hid (¬ E = 0) := h
    clear c h
    unfold Gives
    go_enter Tryd.func51, Tryd.ntmps51
    go_wp2_with fail
    refine c2.mono ?_
    rintro e w1 ⟨rfl, hb⟩
    exact ⟨rfl, .inr ⟨HE.out, rfl⟩, hb⟩
set_option maxRecDepth 100000 in
theorem checkExpr_any (m : Nd) (w : World) (hl : Lies w m) (hz : size m ≤ 1000000000000) (ht : Tab w) : Calls Tryd.prog 25 #[.agg m.vals] w fun e w' => e = .returned (.int .i64 (cE m)) ∧ Below w.heap.size w w' := by
  have hmf : ∀ (fn : Fn) (first cap : Array Value) (w : World), (Instr.makeFunc fn first cap).run Tryd.prog w = .ok (.func fn first cap) w := fun _ _ _ _ => rfl
  have c := found_any 51 enter51 #[.pointer (some ⟨w.heap.size, 0, none⟩)] (cE m) (w.alloc (.cells m.vals 28)) (fun v hv => look51 m w.heap.size v ((hbox w m).on hv) ((hl.on (below_new w _)).on hv) hz ((ht.on (below_new w _)).on hv))
  clear hl hz ht
  unfold Nd.vals hdA at c ⊢
  go_enter Tryd.func25, Tryd.ntmps25
  go_wp2_with fail
  refine c.mono ?_
  rintro e w1 ⟨rfl, hb⟩
  go_wp2_with fail
  go_ret
  exact ⟨rfl, (below_new _ _).trans (hb.mono (by simp))⟩
set_option maxRecDepth 100000 in
theorem hasForm_any (m : Nd) (w : World) (hl : Lies w m) (ht : Tab w) : Calls Tryd.prog 47 #[.agg m.vals] w fun e w' => e = .returned (.bool (formB m)) ∧ Below w.heap.size w w' := by
  have hmf : ∀ (fn : Fn) (first cap : Array Value) (w : World), (Instr.makeFunc fn first cap).run Tryd.prog w = .ok (.func fn first cap) w := fun _ _ _ _ => rfl
  have c := found_any 57 enter57 #[.pointer (some ⟨w.heap.size, 0, none⟩)] (fE m) (w.alloc (.cells m.vals 28)) (fun v hv => look57 m w.heap.size v ((hbox w m).on hv) ((hl.on (below_new w _)).on hv) ((ht.on (below_new w _)).on hv))
  clear hl ht
  unfold fE at c
  obtain ⟨B, eB⟩ : ∃ B, formB m = B := ⟨_, rfl⟩
  rw [eB] at c ⊢
  clear eB
  unfold Nd.vals hdA at c ⊢
  cases B with
  | true =>
    rw [if_pos rfl] at c
    go_enter Tryd.func47, Tryd.ntmps47
    go_wp2_with fail
    refine c.mono ?_
    rintro e w1 ⟨rfl, hb⟩
    go_wp2_with fail
    go_ret
    exact ⟨rfl, (below_new _ _).trans (hb.mono (by simp))⟩
  | false =>
    rw [if_neg (by decide)] at c
    go_enter Tryd.func47, Tryd.ntmps47
    go_wp2_with fail
    refine c.mono ?_
    rintro e w1 ⟨rfl, hb⟩
    go_wp2_with fail
    go_ret
    exact ⟨rfl, (below_new _ _).trans (hb.mono (by simp))⟩
set_option maxRecDepth 100000 in
theorem levelX_any (m : Nd) (w : World) (hl : Lies w m) (ht : Tab w) : Calls Tryd.prog 23 #[.agg m.vals] w fun e w' => e = .returned (.int .i64 (if formB m = true then lvl m.h else 0)) ∧ Below w.heap.size w w' := by
  have c := hasForm_any m (w.alloc (.cells m.vals 28)) (hl.on (below_new w _)) (ht.on (below_new w _))
  have c2 := fun v => level_any m.h m.a m.ks.length m.c v
  clear hl ht
  obtain ⟨B, eB⟩ : ∃ B, formB m = B := ⟨_, rfl⟩
  rw [eB] at c ⊢
  clear eB
  unfold Nd.vals at c ⊢
  unfold hdA at c c2 ⊢
  cases B with
  | true =>
    rw [if_pos rfl]
    go_enter Tryd.func23, Tryd.ntmps23
    go_wp2_with fail
    refine c.mono ?_
    rintro e w1 ⟨rfl, hb⟩
    obtain ⟨q0, q1, q2, q3, q4, q5, q6, q7⟩ := box8 hb
    have HB1 : Hid (Below w.heap.size w w1) := (below_new _ _).trans (hb.mono (by simp))
    clear hb c
    go_wp2_with (go_at_call 48; refine (c2 _).mono ?_; rintro e w2 ⟨rfl, hb2⟩)
    go_ret
    exact ⟨rfl, HB1.out.trans (hb2.mono HB1.out.size)⟩
  | false =>
    rw [if_neg (by decide)]
    go_enter Tryd.func23, Tryd.ntmps23
    go_wp2_with fail
    refine c.mono ?_
    rintro e w1 ⟨rfl, hb⟩
    have HB1 : Hid (Below w.heap.size w w1) := (below_new _ _).trans (hb.mono (by simp))
    clear hb c
    go_wp2_with fail
    go_ret
    exact ⟨rfl, HB1.out⟩
set_option maxRecDepth 100000 in
theorem depthX_any (m : Nd) (w : World) (hl : Lies w m) (hz : size m ≤ 1000000000000) (ht : Tab w) : Calls Tryd.prog 24 #[.agg m.vals] w fun e w' => e = .returned (.int .i64 (if formB m = true then (dep m : Int) else 0)) ∧ Below w.heap.size w w' := by
  have c := hasForm_any m (w.alloc (.cells m.vals 28)) (hl.on (below_new w _)) (ht.on (below_new w _))
  have c2 := fun v (hv : Below w.heap.size w v) => depth_any m v (hl.on hv) hz
  clear hl ht hz
  obtain ⟨B, eB⟩ : ∃ B, formB m = B := ⟨_, rfl⟩
  rw [eB] at c ⊢
  clear eB
  unfold Nd.vals at c c2 ⊢
  unfold hdA at c c2 ⊢
  cases B with
  | true =>
    rw [if_pos rfl]
    go_enter Tryd.func24, Tryd.ntmps24
    go_wp2_with fail
    refine c.mono ?_
    rintro e w1 ⟨rfl, hb⟩
    obtain ⟨q0, q1, q2, q3, q4, q5, q6, q7⟩ := box8 hb
    have HB1 : Hid (Below w.heap.size w w1) := (below_new _ _).trans (hb.mono (by simp))
    clear hb c
    go_wp2_with (go_at_call 49; refine (c2 _ HB1.out).mono ?_; rintro e w2 ⟨rfl, hb2⟩)
    go_ret
    exact ⟨rfl, HB1.out.trans (hb2.mono HB1.out.size)⟩
  | false =>
    rw [if_neg (by decide)]
    go_enter Tryd.func24, Tryd.ntmps24
    go_wp2_with fail
    refine c.mono ?_
    rintro e w1 ⟨rfl, hb⟩
    have HB1 : Hid (Below w.heap.size w w1) := (below_new _ _).trans (hb.mono (by simp))
    clear hb c
    go_wp2_with fail
    go_ret
    exact ⟨rfl, HB1.out⟩
end Go.Proofs.YtighocmdlifheaaDoor
