import Derived.Test.YtkfabnchhjfjjabGreatDoorSa
/-
  whole, of a strategy: what is caught.
-/
namespace Go.Proofs.YtkfabnchhjfjjabGreatDoor
open Go.RowKit
set_option linter.unusedVariables false
set_option maxRecDepth 100000 in
theorem catch61_i (p q : Addr) (w : World) :
    CallsD Tryz.prog 22 #[.pointer (some p), .pointer (some q)] .returning w fun e u' w' => e = .returned (.tuple #[]) ∧ u' = .returning ∧ w' = w.alloc (.cells #[.int .i64 0, .nilIface] 73) := by
  refine callsD_of_wpS Tryz.func22 rfl fun c₀ cs hu => ?_
  apply wpS_seq
  apply wpS_region
  simp [wpOpsS, go_sem, recoverD, hu, Tryz.ntmps22, assert_nil, Result.andThen, Exit.thenS]
  simp only [Array.replicate_succ, Array.replicate_zero, List.push_toArray, List.append_toArray, List.nil_append, List.cons_append, List.setIfInBounds_toArray, List.set_cons_zero, List.set_cons_succ]
  refine wpS_of_wp ?_
  go_wp2_with fail
  cases c₀
  simp_all [bodyPostS, results, Tryz.results22]
set_option maxRecDepth 100000 in
theorem catch61_p (Bp Bq : Nat) (call : ByteArray) (at' : Int) (T : TypeId) (x : Value) (y : Value) (older : List PanicEntry) (w : World) (hp : w.heap[Bp]? = some (.cells #[.string call] 9 (0, 0))) (hq : w.heap[Bq]? = some (.cells #[y] 40 (0, 0))) :
    CallsD Tryz.prog 22 #[.pointer (some ⟨Bp, 0, none⟩), .pointer (some ⟨Bq, 0, none⟩)] (.panicking ({ v := .iface 73 (.agg #[.int .i64 at', .iface T x]), recovered := false } :: older)) w fun e u' w' =>
      e = .returned (.tuple #[]) ∧ u' = .panicking ({ v := .iface 73 (.agg #[.int .i64 at', .iface T x]), recovered := true } :: older) ∧ w' = ((w.alloc (.cells #[.int .i64 at', .iface T x] 73)).alloc (.cells #[.string call, .int .i64 at', .iface T x] 77)).setCell ⟨Bq, 0, none⟩ (.iface 75 (.pointer (some ⟨w.heap.size + 1, 0, none⟩))) := by
  have lp := (Array.getElem?_eq_some_iff.1 hp).1
  have lq := (Array.getElem?_eq_some_iff.1 hq).1
  have b1 := below_new w (.cells #[.int .i64 at', .iface T x] 73)
  have b2 := below_new (w.alloc (.cells #[.int .i64 at', .iface T x] 73)) (.cells #[.string call, .int .i64 at', .iface T x] 77)
  have hp1 : (w.alloc (.cells #[.int .i64 at', .iface T x] 73)).cell? ⟨Bp, 0, none⟩ = some (.string call) := cell_of ((b1.block _ lp).trans hp) 0
  have hq2 := ((b2.block Bq (by rw [size_alloc]; omega)).trans (b1.block _ lq)).trans hq
  have hq1 : ((w.alloc (.cells #[.int .i64 at', .iface T x] 73)).alloc (.cells #[.string call, .int .i64 at', .iface T x] 77)).cell? ⟨Bq, 0, none⟩ = some y := cell_of hq2 0
  have hz1 : ((w.alloc (.cells #[.int .i64 at', .iface T x] 73)).alloc (.cells #[.string call, .int .i64 at', .iface T x] 77)).frozen? ⟨Bq, 0, none⟩ = false := frozen_of hq2 0
  clear hq2 b1 b2 lp lq hp hq
  refine callsD_of_wpS Tryz.func22 rfl fun c₀ cs hu => ?_
  apply wpS_seq
  apply wpS_region
  simp [wpOpsS, go_sem, recoverD, hu, Tryz.ntmps22, assert_hit, Result.andThen, Exit.thenS]
  simp only [Array.replicate_succ, Array.replicate_zero, List.push_toArray, List.append_toArray, List.nil_append, List.cons_append, List.setIfInBounds_toArray, List.set_cons_zero, List.set_cons_succ]
  refine wpS_of_wp ?_
  go_wp2_with fail
  cases c₀
  simp_all [bodyPostS, results, Tryz.results22]
set_option maxRecDepth 100000 in
theorem catch61_n (Bp Bq : Nat) (call : ByteArray) (at' : Int) (y : Value) (older : List PanicEntry) (w : World) (hp : w.heap[Bp]? = some (.cells #[.string call] 9 (0, 0))) (hq : w.heap[Bq]? = some (.cells #[y] 40 (0, 0))) :
    CallsD Tryz.prog 22 #[.pointer (some ⟨Bp, 0, none⟩), .pointer (some ⟨Bq, 0, none⟩)] (.panicking ({ v := .iface 73 (.agg #[.int .i64 at', .nilIface]), recovered := false } :: older)) w fun e u' w' =>
      e = .returned (.tuple #[]) ∧ u' = .panicking ({ v := .iface 73 (.agg #[.int .i64 at', .nilIface]), recovered := true } :: older) ∧ w' = ((w.alloc (.cells #[.int .i64 at', .nilIface] 73)).alloc (.cells #[.string call, .int .i64 at', .nilIface] 77)).setCell ⟨Bq, 0, none⟩ (.iface 75 (.pointer (some ⟨w.heap.size + 1, 0, none⟩))) := by
  have lp := (Array.getElem?_eq_some_iff.1 hp).1
  have lq := (Array.getElem?_eq_some_iff.1 hq).1
  have b1 := below_new w (.cells #[.int .i64 at', .nilIface] 73)
  have b2 := below_new (w.alloc (.cells #[.int .i64 at', .nilIface] 73)) (.cells #[.string call, .int .i64 at', .nilIface] 77)
  have hp1 : (w.alloc (.cells #[.int .i64 at', .nilIface] 73)).cell? ⟨Bp, 0, none⟩ = some (.string call) := cell_of ((b1.block _ lp).trans hp) 0
  have hq2 := ((b2.block Bq (by rw [size_alloc]; omega)).trans (b1.block _ lq)).trans hq
  have hq1 : ((w.alloc (.cells #[.int .i64 at', .nilIface] 73)).alloc (.cells #[.string call, .int .i64 at', .nilIface] 77)).cell? ⟨Bq, 0, none⟩ = some y := cell_of hq2 0
  have hz1 : ((w.alloc (.cells #[.int .i64 at', .nilIface] 73)).alloc (.cells #[.string call, .int .i64 at', .nilIface] 77)).frozen? ⟨Bq, 0, none⟩ = false := frozen_of hq2 0
  clear hq2 b1 b2 lp lq hp hq
  refine callsD_of_wpS Tryz.func22 rfl fun c₀ cs hu => ?_
  apply wpS_seq
  apply wpS_region
  simp [wpOpsS, go_sem, recoverD, hu, Tryz.ntmps22, assert_hit, Result.andThen, Exit.thenS]
  simp only [Array.replicate_succ, Array.replicate_zero, List.push_toArray, List.append_toArray, List.nil_append, List.cons_append, List.setIfInBounds_toArray, List.set_cons_zero, List.set_cons_succ]
  refine wpS_of_wp ?_
  go_wp2_with fail
  cases c₀
  simp_all [bodyPostS, results, Tryz.results22]
/-- What Strategy hands back of a text that it refuses. -/
def OutE (s call : ByteArray) (w : World) (f : Ft) (e : Ending) (w' : World) : Prop :=
  (∃ F, e = .returned (.tuple #[.agg #[.string ⟨#[]⟩, .slice none 0 0, .slice none 0 0, .slice none 0 0], .iface 75 (.pointer (some ⟨F, 0, none⟩))]) ∧ ErrAt w' s call f F ∧ w.heap.size ≤ F) ∧ Below w.heap.size w w'
/-- The world behind what was caught. -/
theorem caught61 {w V' : World} {s call : ByteArray} {f : Ft} (at' : Int) (ev : Value) (hsz : w.heap.size + 3 ≤ V'.heap.size) (g1 : V'.heap[w.heap.size + 1]? = some (.cells #[.string ⟨#[]⟩, .slice none 0 0, .slice none 0 0, .slice none 0 0] 38 (0, 0))) (g2 : V'.heap[w.heap.size + 2]? = some (.cells #[.nilIface] 40 (0, 0))) (mW : Mv w V' (fun _ => False))
    (hE : ∀ Y F, (∀ k, k < V'.heap.size → k ≠ w.heap.size + 2 → Y.heap[k]? = V'.heap[k]?) → Y.heap[F]? = some (.cells #[.string call, .int .i64 at', ev] 77 (0, 0)) → ErrAt Y s call f F) (tmps : Array Value) (ht6 : tmps[6]?.getD undef = .pointer (some ⟨w.heap.size + 1, 0, none⟩)) (ht7 : tmps[7]?.getD undef = .pointer (some ⟨w.heap.size + 2, 0, none⟩)) (Y : World)
    (eY : Y = ((V'.alloc (.cells #[.int .i64 at', ev] 73)).alloc (.cells #[.string call, .int .i64 at', ev] 77)).setCell ⟨w.heap.size + 2, 0, none⟩ (.iface 75 (.pointer (some ⟨V'.heap.size + 1, 0, none⟩)))) :
    (results Tryz.f13 tmps).run Tryz.prog Y = .ok (.tuple #[.agg #[.string ⟨#[]⟩, .slice none 0 0, .slice none 0 0, .slice none 0 0], .iface 75 (.pointer (some ⟨V'.heap.size + 1, 0, none⟩))]) Y ∧ OutE s call w f (.returned (.tuple #[.agg #[.string ⟨#[]⟩, .slice none 0 0, .slice none 0 0, .slice none 0 0], .iface 75 (.pointer (some ⟨V'.heap.size + 1, 0, none⟩))])) Y := by
  have b1 := below_new V' (.cells #[.int .i64 at', ev] 73)
  have s1 := size_alloc V' (.cells #[.int .i64 at', ev] 73)
  have b2 := below_new (V'.alloc (.cells #[.int .i64 at', ev] 73)) (.cells #[.string call, .int .i64 at', ev] 77)
  have n2 := heap_new (V'.alloc (.cells #[.int .i64 at', ev] 73)) (.cells #[.string call, .int .i64 at', ev] 77)
  have old : ∀ k, k < V'.heap.size → k ≠ w.heap.size + 2 → Y.heap[k]? = V'.heap[k]? := fun k hk hn => by
    rw [eY]
    exact ((Below.heap_setCell _ _ _ _ hn).trans (b2.block k (by omega))).trans (b1.block k hk)
  have y1 := (old _ (by omega) (by omega)).trans g1
  have y2 : Y.heap[w.heap.size + 2]? = some (.cells #[.iface 75 (.pointer (some ⟨V'.heap.size + 1, 0, none⟩))] 40 (0, 0)) := by
    rw [eY]
    exact heap_set (j := 0) _ (((b2.block _ (by omega)).trans (b1.block _ (by omega))).trans g2)
  have y3 : Y.heap[V'.heap.size + 1]? = some (.cells #[.string call, .int .i64 at', ev] 77 (0, 0)) := by
    rw [eY]
    refine (Below.heap_setCell _ _ _ _ (show V'.heap.size + 1 ≠ w.heap.size + 2 by omega)).trans ?_
    rw [← s1]; exact n2
  have mY : Mv w Y (fun _ => False) := by
    rw [eY]
    exact (((mW.trans (Mv.ofBelow b1) (fun _ e => .inl e)).trans (Mv.ofBelow b2) (fun _ e => .inl e))).setCell (a := ⟨w.heap.size + 2, 0, none⟩) (.inr (by show w.heap.size ≤ w.heap.size + 2; omega)) _
  refine ⟨?_, ⟨_, rfl, hE _ _ old y3, by omega⟩, mY.toBelow⟩
  have z0 : Y.cell? ⟨w.heap.size + 2, 0, none⟩ = some (.iface 75 (.pointer (some ⟨V'.heap.size + 1, 0, none⟩))) := cell_of y2 0
  have c0 : Y.cell? ⟨w.heap.size + 1, 0, none⟩ = some (.string ⟨#[]⟩) := cell_of y1 0
  have c1 : Y.cell? ⟨w.heap.size + 1, 1, none⟩ = some (.slice none 0 0) := cell_of y1 1
  have c2 : Y.cell? ⟨w.heap.size + 1, 2, none⟩ = some (.slice none 0 0) := cell_of y1 2
  have c3 : Y.cell? ⟨w.heap.size + 1, 3, none⟩ = some (.slice none 0 0) := cell_of y1 3
  clear eY
  simp [results, Tryz.results13, go_sem, ht6, ht7, z0, c0, c1, c2, c3]
/-- What has given up tells this. -/
theorem WX.err61 {w W3 : World} {s call : ByteArray} {fa : Int} {fe : Value} {b G : Nat} {ts : List Tk} {V : World} (h : WX w W3 s call fa fe b G ts V) (hs3 : W3.heap.size = w.heap.size + 3) (h0 : W3.heap[w.heap.size]? = some (.cells #[.string call] 9 (0, 0))) (h1 : W3.heap[w.heap.size + 1]? = some (.cells #[.string ⟨#[]⟩, .slice none 0 0, .slice none 0 0, .slice none 0 0] 38 (0, 0))) (h2 : W3.heap[w.heap.size + 2]? = some (.cells #[.nilIface] 40 (0, 0))) (f : Ft) {V' : World} (hm : Mv V V' (fun k => k = b)) (tmps : Array Value) (ht6 : tmps[6]?.getD undef = .pointer (some ⟨w.heap.size + 1, 0, none⟩)) (ht7 : tmps[7]?.getD undef = .pointer (some ⟨w.heap.size + 2, 0, none⟩)) :
    Leaves Tryz.prog Tryz.f13 tmps (fun e w' => OutE s call w f e w') [{ target := .fn (.func 22) #[.pointer (some ⟨w.heap.size, 0, none⟩), .pointer (some ⟨w.heap.size + 2, 0, none⟩)], args := #[] }] (.panicking [{ v := ftV fa fe f, recovered := false }]) V' := by
  have hlow : ∀ k, k < w.heap.size + 3 → V'.heap[k]? = W3.heap[k]? := fun k hk => (hm.block k (Nat.lt_of_lt_of_le (by omega) h.M.size) (by have := h.hb; omega)).trans (h.low (by omega))
  have g0 := (hlow _ (by omega)).trans h0
  have g1 := (hlow _ (by omega)).trans h1
  have g2 := (hlow _ (by omega)).trans h2
  have hFV : FeAt V' s fa fe := h.F.on (fun k hk F e1 e2 => hm.block k hk (by rw [e2]; exact h.Fb F e1))
  have hsz : w.heap.size + 3 ≤ V'.heap.size := by have := h.M.size; have := hm.size; omega
  have mW : Mv w V' (fun _ => False) := ((Mv.ofBelow h.B).trans h.M (fun k e => .inr (by have := h.hb; omega))).trans hm (fun k e => .inr (by have := h.hb; omega))
  cases f with
  | tok no p =>
    refine leaves_cons (f := 22) (args := #[.pointer (some ⟨w.heap.size, 0, none⟩), .pointer (some ⟨w.heap.size + 2, 0, none⟩)]) (by simp) (by simp [go_sem]) ?_
    refine (catch61_p _ _ call p 25 (.int .i64 no) .nilIface [] V' g0 g2).mono ?_
    rintro e u' w'' ⟨rfl, rfl, eY⟩
    obtain ⟨q1, q2⟩ := caught61 (s := s) (f := .tok no p) p (.iface 25 (.int .i64 no)) hsz g1 g2 mW (fun Y F _ h => h) tmps ht6 ht7 _ eY
    exact ⟨_, q1, q2⟩
  | lex =>
    by_cases hE : tksE s = 0
    · obtain ⟨rfl, rfl⟩ := hFV.1 hE
      refine leaves_cons (f := 22) (args := #[.pointer (some ⟨w.heap.size, 0, none⟩), .pointer (some ⟨w.heap.size + 2, 0, none⟩)]) (by simp) (by simp [go_sem]) ?_
      refine (catch61_n _ _ call 0 .nilIface [] V' g0 g2).mono ?_
      rintro e u' w'' ⟨rfl, rfl, eY⟩
      obtain ⟨q1, q2⟩ := caught61 (s := s) (f := .lex) 0 .nilIface hsz g1 g2 mW (fun Y F _ h => ⟨0, .nilIface, h, fun _ => ⟨rfl, rfl⟩, fun e => absurd hE e⟩) tmps ht6 ht7 _ eY
      exact ⟨_, q1, q2⟩
    · obtain ⟨rfl, F', rfl, hF'⟩ := hFV.2 hE
      refine leaves_cons (f := 22) (args := #[.pointer (some ⟨w.heap.size, 0, none⟩), .pointer (some ⟨w.heap.size + 2, 0, none⟩)]) (by simp) (by simp [go_sem]) ?_
      refine (catch61_p _ _ call (tksB s) 75 (.pointer (some ⟨F', 0, none⟩)) .nilIface [] V' g0 g2).mono ?_
      rintro e u' w'' ⟨rfl, rfl, eY⟩
      obtain ⟨q1, q2⟩ := caught61 (s := s) (f := .lex) (tksB s) (.iface 75 (.pointer (some ⟨F', 0, none⟩))) hsz g1 g2 mW (fun Y F ho h => ⟨tksB s, .iface 75 (.pointer (some ⟨F', 0, none⟩)), h, fun e => absurd e hE, fun _ => ⟨rfl, F', rfl, (ho F' (Array.getElem?_eq_some_iff.1 hF').1 (fun e => by rw [e, g2] at hF'; cases hF')).trans hF'⟩⟩) tmps ht6 ht7 _ eY
      exact ⟨_, q1, q2⟩
end Go.Proofs.YtkfabnchhjfjjabGreatDoor

/-
  whole, of a strategy: the walk; Strategy.
-/
namespace Go.Proofs.YtkfabnchhjfjjabGreatDoor
open Go.RowKit
set_option linter.unusedVariables false
theorem ErrAt.mv43 {w w' : World} {s call : ByteArray} {f : Ft} {F B : Nat} {cs : Array Value} {fr : Nat × Nat} (h : ErrAt w s call f F) (hB : w.heap[B]? = some (.cells cs 38 fr)) (k : ∀ j, j ≠ B → w'.heap[j]? = w.heap[j]?) : ErrAt w' s call f F := by
  have ne : ∀ {j : Nat} {c : Array Value}, w.heap[j]? = some (.cells c 77 (0, 0)) → j ≠ B := fun h e => by rw [e, hB] at h; cases h
  cases f with
  | tok no p => exact (k _ (ne h)).trans h
  | lex =>
    obtain ⟨fa, fe, h1, h2⟩ := h
    refine ⟨fa, fe, (k _ (ne h1)).trans h1, h2.1, fun e => ⟨(h2.2 e).1, ?_⟩⟩
    obtain ⟨F', e1, e2⟩ := (h2.2 e).2
    exact ⟨F', e1, (k _ (ne e2)).trans e2⟩
set_option maxRecDepth 100000 in
set_option maxHeartbeats 4000000 in
theorem wholeS_err (call s : ByteArray) (hs : s.size ≤ 4194304) (w : World) (ht : Tab w) (f : Ft) (cX : ∀ V b G fa fe a c, Rdr V b G (rdT s) fa fe 0 a c → Calls Tryz.prog 14 #[.pointer (some ⟨b, 0, none⟩)] V fun e w' => e = pan (ftV fa fe f) ∧ Mv V w' (fun k => k = b)) :
    Calls Tryz.prog 13 #[.string call, .string s, .func (.func 14) #[] #[]] w (OutE s call w f) := by
  have hmf : ∀ (fn : Fn) (first cap : Array Value) (w : World), (Instr.makeFunc fn first cap).run Tryz.prog w = .ok (.func fn first cap) w := fun _ _ _ _ => rfl
  obtain ⟨W3, eW3⟩ : ∃ W, (((w.alloc (.cells #[.string call] 9)).alloc (.cells #[.string ⟨#[]⟩, .slice none 0 0, .slice none 0 0, .slice none 0 0] 38)).alloc (.cells #[.nilIface] 40)) = W := ⟨_, rfl⟩
  have HW3 : Hid ((((w.alloc (.cells #[.string call] 9)).alloc (.cells #[.string ⟨#[]⟩, .slice none 0 0, .slice none 0 0, .slice none 0 0] 38)).alloc (.cells #[.nilIface] 40)) = W3) := eW3
  have b0 := below_new w (.cells #[.string call] 9)
  have b1 := below_new (w.alloc (.cells #[.string call] 9)) (.cells #[.string ⟨#[]⟩, .slice none 0 0, .slice none 0 0, .slice none 0 0] 38)
  have b2 := below_new ((w.alloc (.cells #[.string call] 9)).alloc (.cells #[.string ⟨#[]⟩, .slice none 0 0, .slice none 0 0, .slice none 0 0] 38)) (.cells #[.nilIface] 40)
  have n0 := heap_new w (.cells #[.string call] 9)
  have n1 := heap_new (w.alloc (.cells #[.string call] 9)) (.cells #[.string ⟨#[]⟩, .slice none 0 0, .slice none 0 0, .slice none 0 0] 38)
  have n2 := heap_new ((w.alloc (.cells #[.string call] 9)).alloc (.cells #[.string ⟨#[]⟩, .slice none 0 0, .slice none 0 0, .slice none 0 0] 38)) (.cells #[.nilIface] 40)
  have s0 := size_alloc w (.cells #[.string call] 9)
  have s1 := size_alloc (w.alloc (.cells #[.string call] 9)) (.cells #[.string ⟨#[]⟩, .slice none 0 0, .slice none 0 0, .slice none 0 0] 38)
  have s2 := size_alloc ((w.alloc (.cells #[.string call] 9)).alloc (.cells #[.string ⟨#[]⟩, .slice none 0 0, .slice none 0 0, .slice none 0 0] 38)) (.cells #[.nilIface] 40)
  rw [eW3] at b2 n2 s2
  have HS3 : Hid (W3.heap.size = w.heap.size + 3) := by show _ = _; omega
  have HB3 : Hid (Below w.heap.size w W3) := below2 (below2 b0 b1) b2
  have H0 : Hid (W3.heap[w.heap.size]? = some (.cells #[.string call] 9 (0, 0))) := ((b2.block _ (by omega)).trans (b1.block _ (by omega))).trans n0
  have H1 : Hid (W3.heap[w.heap.size + 1]? = some (.cells #[.string ⟨#[]⟩, .slice none 0 0, .slice none 0 0, .slice none 0 0] 38 (0, 0))) := by rw [s0] at n1; exact (b2.block _ (by omega)).trans n1
  have H2 : Hid (W3.heap[w.heap.size + 2]? = some (.cells #[.nilIface] 40 (0, 0))) := by rw [s1, s0] at n2; exact n2
  have cN := new_any s hs W3 (ht.on HB3.out)
  clear b0 b1 b2 n0 n1 n2 s0 s1 s2 eW3 ht
  go_enter_defers Tryz.func13, Tryz.ntmps13
  go_wp2_with fail
  try rw [HW3.out]
  refine cN.mono ?_
  rintro e w4 ⟨b, G, a, c, fa, fe, rfl, hR, hG, hb, hF, hFb, hB4⟩
  have HX4 := (show WX w W3 s call fa fe b G (rdT s) w4 from ⟨HB3.out, Mv.ofBelow hB4, hb, hG, ⟨a, c, hR⟩, hF, hFb⟩).hid
  have cE := cX _ _ _ _ _ _ _ hR
  clear cN hR hG hb hF hFb hB4
  go_wp2_with fail
  refine cE.mono ?_
  rintro e w5 ⟨rfl, hm⟩
  exact HX4.out.err61 HS3.out H0.out H1.out H2.out f hm _ rfl rfl
set_option maxRecDepth 100000 in
set_option maxHeartbeats 4000000 in
theorem wholeS_ok (call s : ByteArray) (hs : s.size ≤ 4194304) (w : World) (ht : Tab w) (n m : ByteArray) (p : Int) (ts : List Tk) (hE : gEnd ts = .ok ()) (cX : ∀ V b G fa fe a c, Rdr V b G (rdT s) fa fe 0 a c → Calls Tryz.prog 14 #[.pointer (some ⟨b, 0, none⟩)] V fun e w' => ∃ g cap, e = .returned (.agg #[.string n, .slice none 0 0, .slice none 0 0, .slice (some ⟨g, 0, none⟩) 1 cap]) ∧ Row w' 59 3 (.slice (some ⟨g, 0, none⟩) 1 cap) 1 (sF m p) ∧ V.heap.size ≤ g ∧ (∃ a c, Rdr w' b G ts fa fe 0 a c) ∧ Mv V w' (fun k => k = b)) :
    Calls Tryz.prog 13 #[.string call, .string s, .func (.func 14) #[] #[]] w fun e w' => ∃ g cap, e = .returned (.tuple #[.agg #[.string n, .slice none 0 0, .slice none 0 0, .slice (some ⟨g, 0, none⟩) 1 cap], .nilIface]) ∧ Row w' 59 3 (.slice (some ⟨g, 0, none⟩) 1 cap) 1 (sF m p) ∧ w.heap.size ≤ g ∧ Below w.heap.size w w' := by
  have hmf : ∀ (fn : Fn) (first cap : Array Value) (w : World), (Instr.makeFunc fn first cap).run Tryz.prog w = .ok (.func fn first cap) w := fun _ _ _ _ => rfl
  obtain ⟨W3, eW3⟩ : ∃ W, (((w.alloc (.cells #[.string call] 9)).alloc (.cells #[.string ⟨#[]⟩, .slice none 0 0, .slice none 0 0, .slice none 0 0] 38)).alloc (.cells #[.nilIface] 40)) = W := ⟨_, rfl⟩
  have HW3 : Hid ((((w.alloc (.cells #[.string call] 9)).alloc (.cells #[.string ⟨#[]⟩, .slice none 0 0, .slice none 0 0, .slice none 0 0] 38)).alloc (.cells #[.nilIface] 40)) = W3) := eW3
  have b0 := below_new w (.cells #[.string call] 9)
  have b1 := below_new (w.alloc (.cells #[.string call] 9)) (.cells #[.string ⟨#[]⟩, .slice none 0 0, .slice none 0 0, .slice none 0 0] 38)
  have b2 := below_new ((w.alloc (.cells #[.string call] 9)).alloc (.cells #[.string ⟨#[]⟩, .slice none 0 0, .slice none 0 0, .slice none 0 0] 38)) (.cells #[.nilIface] 40)
  have n0 := heap_new w (.cells #[.string call] 9)
  have n1 := heap_new (w.alloc (.cells #[.string call] 9)) (.cells #[.string ⟨#[]⟩, .slice none 0 0, .slice none 0 0, .slice none 0 0] 38)
  have n2 := heap_new ((w.alloc (.cells #[.string call] 9)).alloc (.cells #[.string ⟨#[]⟩, .slice none 0 0, .slice none 0 0, .slice none 0 0] 38)) (.cells #[.nilIface] 40)
  have s0 := size_alloc w (.cells #[.string call] 9)
  have s1 := size_alloc (w.alloc (.cells #[.string call] 9)) (.cells #[.string ⟨#[]⟩, .slice none 0 0, .slice none 0 0, .slice none 0 0] 38)
  have s2 := size_alloc ((w.alloc (.cells #[.string call] 9)).alloc (.cells #[.string ⟨#[]⟩, .slice none 0 0, .slice none 0 0, .slice none 0 0] 38)) (.cells #[.nilIface] 40)
  rw [eW3] at b2 n2 s2
  have HS3 : Hid (W3.heap.size = w.heap.size + 3) := by show _ = _; omega
  have HB3 : Hid (Below w.heap.size w W3) := below2 (below2 b0 b1) b2
  have H0 : Hid (W3.heap[w.heap.size]? = some (.cells #[.string call] 9 (0, 0))) := ((b2.block _ (by omega)).trans (b1.block _ (by omega))).trans n0
  have H1 : Hid (W3.heap[w.heap.size + 1]? = some (.cells #[.string ⟨#[]⟩, .slice none 0 0, .slice none 0 0, .slice none 0 0] 38 (0, 0))) := by rw [s0] at n1; exact (b2.block _ (by omega)).trans n1
  have H2 : Hid (W3.heap[w.heap.size + 2]? = some (.cells #[.nilIface] 40 (0, 0))) := by rw [s1, s0] at n2; exact n2
  have cN := new_any s hs W3 (ht.on HB3.out)
  clear b0 b1 b2 n0 n1 n2 s0 s1 s2 eW3 ht
  go_enter_defers Tryz.func13, Tryz.ntmps13
  go_wp2_with fail
  try rw [HW3.out]
  refine cN.mono ?_
  rintro e w4 ⟨b, G, a, c, fa, fe, rfl, hR, hG, hb, hF, hFb, hB4⟩
  have HX4 := (show WX w W3 s call fa fe b G (rdT s) w4 from ⟨HB3.out, Mv.ofBelow hB4, hb, hG, ⟨a, c, hR⟩, hF, hFb⟩).hid
  have cE := cX _ _ _ _ _ _ _ hR
  clear cN hR hG hb hF hFb hB4
  go_wp2_with fail
  refine cE.mono ?_
  rintro e w5 ⟨g, cap, rfl, hw, hg, hr, hm⟩
  have HX5 := (HX4.out.mv hm hr).hid
  have HG : Hid (Row w5 59 3 (.slice (some ⟨g, 0, none⟩) 1 cap) 1 (sF m p) ∧ w.heap.size + 3 ≤ g ∧ g < w5.heap.size) := ⟨hw, by have h1 := HX4.out.M.size; have h2 := HS3.out; omega, hw.lt g rfl⟩
  obtain ⟨a5, c5, h5⟩ := HX5.out.R
  have cD := end_any (h5.on (below_new w5 (.cells #[.string n, .slice none 0 0, .slice none 0 0, .slice (some ⟨g, 0, none⟩) 1 cap] 38)))
  rw [hE] at cD
  clear cE hw hg hr hm HX4 h5
  go_wp2_with fail
  refine cD.mono ?_
  rintro e w7 ⟨he, hb7⟩
  obtain rfl := he
  have HB7 : Hid (Below w5.heap.size w5 w7) := below2 (below_new _ _) hb7
  have hA7 : w7.heap[w5.heap.size]? = some (.cells #[.string n, .slice none 0 0, .slice none 0 0, .slice (some ⟨g, 0, none⟩) 1 cap] 38 (0, 0)) := (hb7.block _ (by rw [size_alloc]; omega)).trans (heap_new _ _)
  have hlow : ∀ k, k < w.heap.size + 3 → w7.heap[k]? = W3.heap[k]? := fun k hk => (HB7.out.block k (Nat.lt_of_lt_of_le (by have := HS3.out; omega) HX5.out.M.size)).trans (HX5.out.low (by have := HS3.out; omega))
  have g1 := (hlow (w.heap.size + 1) (by omega)).trans H1.out
  have g2 := (hlow (w.heap.size + 2) (by omega)).trans H2.out
  obtain ⟨Y, eY, hY1, hY2, hY3, hY4⟩ := fin4_43 g1 (.string n) (.slice none 0 0) (.slice none 0 0) (.slice (some ⟨g, 0, none⟩) 1 cap)
  have hY2' : Y.heap[w.heap.size + 2]? = some (.cells #[.nilIface] 40 (0, 0)) := (hY3 _ (by omega)).trans g2
  have hl7 : w.heap.size + 3 ≤ w7.heap.size := by have := HX5.out.M.size; have := HB7.out.size; have := HS3.out; omega
  have hl5 : w.heap.size + 3 ≤ w5.heap.size := by have := HX5.out.M.size; have := HS3.out; omega
  have mY : Mv w Y (fun _ => False) := hY4 _ _ ((((Mv.ofBelow HX5.out.B).trans HX5.out.M (fun k e => .inr (by have := HX5.out.hb; have := HS3.out; omega)))).trans (Mv.ofBelow HB7.out) (fun k e => .inl e)) (by omega)
  have HEY : Hid (_ = Y) := eY
  have HY : Hid (Y.heap[w.heap.size + 1]? = some (.cells #[.string n, .slice none 0 0, .slice none 0 0, .slice (some ⟨g, 0, none⟩) 1 cap] 38 (0, 0)) ∧ Y.heap[w.heap.size + 2]? = some (.cells #[.nilIface] 40 (0, 0)) ∧ Y.heap.size = w7.heap.size ∧ (∀ k, k ≠ w.heap.size + 1 → Y.heap[k]? = w7.heap[k]?) ∧ Mv w Y (fun _ => False) ∧ w.heap.size + 3 ≤ w5.heap.size ∧ w5.heap.size ≤ w7.heap.size) := ⟨hY1, hY2', hY2, hY3, mY, hl5, HB7.out.size⟩
  have z0 : w7.cell? ⟨w.heap.size + 1, 0, none⟩ = some (.string ⟨#[]⟩) := cell_of g1 0
  have q0 : w7.frozen? ⟨w.heap.size + 1, 0, none⟩ = false := frozen_of g1 0
  have y0 : w7.cell? ⟨w5.heap.size, 0, none⟩ = some (.string n) := cell_of hA7 0
  have z1 : w7.cell? ⟨w.heap.size + 1, 1, none⟩ = some (.slice none 0 0) := cell_of g1 1
  have q1 : w7.frozen? ⟨w.heap.size + 1, 1, none⟩ = false := frozen_of g1 1
  have y1 : w7.cell? ⟨w5.heap.size, 1, none⟩ = some (.slice none 0 0) := cell_of hA7 1
  have z2 : w7.cell? ⟨w.heap.size + 1, 2, none⟩ = some (.slice none 0 0) := cell_of g1 2
  have q2 : w7.frozen? ⟨w.heap.size + 1, 2, none⟩ = false := frozen_of g1 2
  have y2 : w7.cell? ⟨w5.heap.size, 2, none⟩ = some (.slice none 0 0) := cell_of hA7 2
  have z3 : w7.cell? ⟨w.heap.size + 1, 3, none⟩ = some (.slice none 0 0) := cell_of g1 3
  have q3 : w7.frozen? ⟨w.heap.size + 1, 3, none⟩ = false := frozen_of g1 3
  have y3 : w7.cell? ⟨w5.heap.size, 3, none⟩ = some (.slice (some ⟨g, 0, none⟩) 1 cap) := cell_of hA7 3
  have v0 : w7.cell? ⟨w.heap.size + 1 + 1, 0, none⟩ = some .nilIface := cell_of g2 0
  have v1 : w7.frozen? ⟨w.heap.size + 1 + 1, 0, none⟩ = false := frozen_of g2 0
  have hne1 : w.heap.size + 1 ≠ w.heap.size + 1 + 1 := by omega
  have hne2 : w.heap.size + 1 + 1 ≠ w.heap.size + 1 := by omega
  clear cD hb7 hA7 hlow g1 g2 eY hY1 hY2 hY3 hY4 hY2' hl7 hl5 mY
  go_wp2_with fail
  rw [HEY.out]
  refine leaves_cons (f := 22) (args := #[.pointer (some ⟨w.heap.size, 0, none⟩), .pointer (some ⟨w.heap.size + 2, 0, none⟩)]) (by simp) (by simp [go_sem]) ?_
  refine (catch61_i ⟨w.heap.size, 0, none⟩ ⟨w.heap.size + 2, 0, none⟩ _).mono ?_
  rintro e u' Z ⟨rfl, rfl, eZ⟩
  obtain ⟨k1, k2', k3, k4, k5, k6, k7⟩ := HY.out
  have b9 := below_new (Y.setCell ⟨w.heap.size + 2, 0, none⟩ .nilIface) (.cells #[.int .i64 0, .nilIface] 73)
  have s9 : (Y.setCell ⟨w.heap.size + 2, 0, none⟩ .nilIface).heap.size = Y.heap.size := by simp [World.setCell]
  have oldZ : ∀ k, k < Y.heap.size → k ≠ w.heap.size + 2 → Z.heap[k]? = Y.heap[k]? := fun k hk hn => by
    rw [eZ]
    exact (b9.block k (by omega)).trans (Below.heap_setCell _ _ _ _ hn)
  have z1 := (oldZ _ (by omega) (by omega)).trans k1
  have z2 : Z.heap[w.heap.size + 2]? = some (.cells #[.nilIface] 40 (0, 0)) := by
    rw [eZ]
    exact (b9.block _ (by omega)).trans (heap_set (j := 0) _ k2')
  have mZ : Mv w Z (fun _ => False) := by
    rw [eZ]
    exact (k5.setCell (a := ⟨w.heap.size + 2, 0, none⟩) (.inr (by show w.heap.size ≤ w.heap.size + 2; omega)) _).alloc _
  have rZ : Row Z 59 3 (.slice (some ⟨g, 0, none⟩) 1 cap) 1 (sF m p) := HG.out.1.of_block (fun k hk => by
    simp [Value.ownBlock] at hk; subst hk
    obtain ⟨_, q1, q2⟩ := HG.out
    exact ((oldZ _ (by omega) (by omega)).trans (k4 _ (by omega))).trans (HB7.out.block _ q2))
  have c0 : Z.cell? ⟨w.heap.size + 1, 0, none⟩ = some (.string n) := cell_of z1 0
  have c1 : Z.cell? ⟨w.heap.size + 1, 1, none⟩ = some (.slice none 0 0) := cell_of z1 1
  have c2 : Z.cell? ⟨w.heap.size + 1, 2, none⟩ = some (.slice none 0 0) := cell_of z1 2
  have c3 : Z.cell? ⟨w.heap.size + 1, 3, none⟩ = some (.slice (some ⟨g, 0, none⟩) 1 cap) := cell_of z1 3
  have zz : Z.cell? ⟨w.heap.size + 1 + 1, 0, none⟩ = some .nilIface := cell_of z2 0
  clear eZ oldZ b9 s9
  refine ⟨.tuple #[.agg #[.string n, .slice none 0 0, .slice none 0 0, .slice (some ⟨g, 0, none⟩) 1 cap], .nilIface], ?_, g, cap, rfl, rZ, by have := HG.out.2.1; omega, mZ.toBelow⟩
  clear rZ mZ
  simp [results, Tryz.results13, go_sem, zz, c0, c1, c2, c3]
set_option maxRecDepth 100000 in
set_option maxHeartbeats 4000000 in
/-- Strategy of a text that it refuses. -/
theorem stratS_err (s : ByteArray) (hs : s.size ≤ 4194304) (w : World) (ht : Tab w) (f : Ft) (cX : ∀ V b G fa fe a c, Rdr V b G (rdT s) fa fe 0 a c → Calls Tryz.prog 14 #[.pointer (some ⟨b, 0, none⟩)] V fun e w' => e = pan (ftV fa fe f) ∧ Mv V w' (fun k => k = b)) :
    Calls Tryz.prog 7 #[.string s] w (OutE s ⟨#[83, 116, 114, 97, 116, 101, 103, 121]⟩ w f) := by
  have b0 := below_new w (.cells #[.string ⟨#[]⟩, .slice none 0 0, .slice none 0 0, .slice none 0 0] 38)
  have n0 := heap_new w (.cells #[.string ⟨#[]⟩, .slice none 0 0, .slice none 0 0, .slice none 0 0] 38)
  have s0 := size_alloc w (.cells #[.string ⟨#[]⟩, .slice none 0 0, .slice none 0 0, .slice none 0 0] 38)
  have cW := wholeS_err ⟨#[83, 116, 114, 97, 116, 101, 103, 121]⟩ s hs _ (ht.on b0) f cX
  have H0 : Hid (Below w.heap.size w (w.alloc (.cells #[.string ⟨#[]⟩, .slice none 0 0, .slice none 0 0, .slice none 0 0] 38)) ∧ (w.alloc (.cells #[.string ⟨#[]⟩, .slice none 0 0, .slice none 0 0, .slice none 0 0] 38)).heap[w.heap.size]? = some (.cells #[.string ⟨#[]⟩, .slice none 0 0, .slice none 0 0, .slice none 0 0] 38 (0, 0)) ∧ (w.alloc (.cells #[.string ⟨#[]⟩, .slice none 0 0, .slice none 0 0, .slice none 0 0] 38)).heap.size = w.heap.size + 1) := ⟨b0, n0, s0⟩
  clear b0 n0 s0 ht
  go_enter Tryz.func7, Tryz.ntmps7
  go_wp2_with fail
  refine cW.mono ?_
  rintro e w1 ⟨⟨F, rfl, hE, hF⟩, hb⟩
  obtain ⟨g1, g2, g3⟩ := H0.out
  have hZ := (hb.block _ (by omega)).trans g2
  obtain ⟨Y, eY, hY1, hY2, hY3, hY4⟩ := fin4_43 hZ (.string ⟨#[]⟩) (.slice none 0 0) (.slice none 0 0) (.slice none 0 0)
  have HY : Hid (Y.heap[w.heap.size]? = some (.cells #[.string ⟨#[]⟩, .slice none 0 0, .slice none 0 0, .slice none 0 0] 38 (0, 0)) ∧ ErrAt Y s ⟨#[83, 116, 114, 97, 116, 101, 103, 121]⟩ f F ∧ w.heap.size ≤ F ∧ Below w.heap.size w Y) := ⟨hY1, hE.mv43 hZ hY3, by omega, (hY4 _ (fun _ => False) (Mv.ofBelow (below2 g1 hb)) (Nat.le_refl _)).toBelow⟩
  have HEY : Hid (_ = Y) := eY
  have z0 : w1.cell? ⟨w.heap.size, 0, none⟩ = some (.string ⟨#[]⟩) := cell_of hZ 0
  have q0 : w1.frozen? ⟨w.heap.size, 0, none⟩ = false := frozen_of hZ 0
  have z1 : w1.cell? ⟨w.heap.size, 1, none⟩ = some (.slice none 0 0) := cell_of hZ 1
  have q1 : w1.frozen? ⟨w.heap.size, 1, none⟩ = false := frozen_of hZ 1
  have z2 : w1.cell? ⟨w.heap.size, 2, none⟩ = some (.slice none 0 0) := cell_of hZ 2
  have q2 : w1.frozen? ⟨w.heap.size, 2, none⟩ = false := frozen_of hZ 2
  have z3 : w1.cell? ⟨w.heap.size, 3, none⟩ = some (.slice none 0 0) := cell_of hZ 3
  have q3 : w1.frozen? ⟨w.heap.size, 3, none⟩ = false := frozen_of hZ 3
  clear cW hE hF hb g1 g2 g3 hZ eY hY1 hY2 hY3 hY4 H0
  go_wp2_with fail
  rw [HEY.out]
  exact bodyPost_ret (results_two (p := 2) (u := 3) (ty := 38) rfl _ _ w.heap.size 38 #[.string ⟨#[]⟩, .slice none 0 0, .slice none 0 0, .slice none 0 0] (0, 0) _ rfl HY.out.1 Tryz.underlying38 rfl (by kernel_rfl)) rfl ⟨⟨F, rfl, HY.out.2.1, HY.out.2.2.1⟩, HY.out.2.2.2⟩
set_option maxRecDepth 100000 in
set_option maxHeartbeats 4000000 in
/-- Strategy of a text of one state without rules. -/
theorem stratS_ok (s : ByteArray) (hs : s.size ≤ 4194304) (w : World) (ht : Tab w) (n m : ByteArray) (p : Int) (ts : List Tk) (hE : gEnd ts = .ok ()) (cX : ∀ V b G fa fe a c, Rdr V b G (rdT s) fa fe 0 a c → Calls Tryz.prog 14 #[.pointer (some ⟨b, 0, none⟩)] V fun e w' => ∃ g cap, e = .returned (.agg #[.string n, .slice none 0 0, .slice none 0 0, .slice (some ⟨g, 0, none⟩) 1 cap]) ∧ Row w' 59 3 (.slice (some ⟨g, 0, none⟩) 1 cap) 1 (sF m p) ∧ V.heap.size ≤ g ∧ (∃ a c, Rdr w' b G ts fa fe 0 a c) ∧ Mv V w' (fun k => k = b)) :
    Calls Tryz.prog 7 #[.string s] w fun e w' => ∃ g cap, e = .returned (.tuple #[.agg #[.string n, .slice none 0 0, .slice none 0 0, .slice (some ⟨g, 0, none⟩) 1 cap], .nilIface]) ∧ Row w' 59 3 (.slice (some ⟨g, 0, none⟩) 1 cap) 1 (sF m p) ∧ w.heap.size ≤ g ∧ Below w.heap.size w w' := by
  have b0 := below_new w (.cells #[.string ⟨#[]⟩, .slice none 0 0, .slice none 0 0, .slice none 0 0] 38)
  have n0 := heap_new w (.cells #[.string ⟨#[]⟩, .slice none 0 0, .slice none 0 0, .slice none 0 0] 38)
  have s0 := size_alloc w (.cells #[.string ⟨#[]⟩, .slice none 0 0, .slice none 0 0, .slice none 0 0] 38)
  have cW := wholeS_ok ⟨#[83, 116, 114, 97, 116, 101, 103, 121]⟩ s hs _ (ht.on b0) n m p ts hE cX
  have H0 : Hid (Below w.heap.size w (w.alloc (.cells #[.string ⟨#[]⟩, .slice none 0 0, .slice none 0 0, .slice none 0 0] 38)) ∧ (w.alloc (.cells #[.string ⟨#[]⟩, .slice none 0 0, .slice none 0 0, .slice none 0 0] 38)).heap[w.heap.size]? = some (.cells #[.string ⟨#[]⟩, .slice none 0 0, .slice none 0 0, .slice none 0 0] 38 (0, 0)) ∧ (w.alloc (.cells #[.string ⟨#[]⟩, .slice none 0 0, .slice none 0 0, .slice none 0 0] 38)).heap.size = w.heap.size + 1) := ⟨b0, n0, s0⟩
  clear b0 n0 s0 ht
  go_enter Tryz.func7, Tryz.ntmps7
  go_wp2_with fail
  refine cW.mono ?_
  rintro e w1 ⟨g, cap, rfl, hw, hg, hb⟩
  obtain ⟨g1, g2, g3⟩ := H0.out
  have hZ := (hb.block _ (by omega)).trans g2
  obtain ⟨Y, eY, hY1, hY2, hY3, hY4⟩ := fin4_43 hZ (.string n) (.slice none 0 0) (.slice none 0 0) (.slice (some ⟨g, 0, none⟩) 1 cap)
  have HY : Hid (Y.heap[w.heap.size]? = some (.cells #[.string n, .slice none 0 0, .slice none 0 0, .slice (some ⟨g, 0, none⟩) 1 cap] 38 (0, 0)) ∧ Row Y 59 3 (.slice (some ⟨g, 0, none⟩) 1 cap) 1 (sF m p) ∧ w.heap.size ≤ g ∧ Below w.heap.size w Y) := ⟨hY1, hw.of_block (fun k hk => by simp [Value.ownBlock] at hk; subst hk; exact hY3 _ (by omega)), by omega, (hY4 _ (fun _ => False) (Mv.ofBelow (below2 g1 hb)) (Nat.le_refl _)).toBelow⟩
  have HEY : Hid (_ = Y) := eY
  have z0 : w1.cell? ⟨w.heap.size, 0, none⟩ = some (.string ⟨#[]⟩) := cell_of hZ 0
  have q0 : w1.frozen? ⟨w.heap.size, 0, none⟩ = false := frozen_of hZ 0
  have z1 : w1.cell? ⟨w.heap.size, 1, none⟩ = some (.slice none 0 0) := cell_of hZ 1
  have q1 : w1.frozen? ⟨w.heap.size, 1, none⟩ = false := frozen_of hZ 1
  have z2 : w1.cell? ⟨w.heap.size, 2, none⟩ = some (.slice none 0 0) := cell_of hZ 2
  have q2 : w1.frozen? ⟨w.heap.size, 2, none⟩ = false := frozen_of hZ 2
  have z3 : w1.cell? ⟨w.heap.size, 3, none⟩ = some (.slice none 0 0) := cell_of hZ 3
  have q3 : w1.frozen? ⟨w.heap.size, 3, none⟩ = false := frozen_of hZ 3
  clear cW hw hg hb g1 g2 g3 hZ eY hY1 hY2 hY3 hY4 H0
  go_wp2_with fail
  rw [HEY.out]
  exact bodyPost_ret (results_two (p := 2) (u := 3) (ty := 38) rfl _ _ w.heap.size 38 #[.string n, .slice none 0 0, .slice none 0 0, .slice (some ⟨g, 0, none⟩) 1 cap] (0, 0) _ rfl HY.out.1 Tryz.underlying38 rfl (by kernel_rfl)) rfl ⟨g, cap, rfl, HY.out.2⟩
end Go.Proofs.YtkfabnchhjfjjabGreatDoor
