/-
  level, asked, goesDown: how tightly a node binds, what a kid's place asks.
-/
import Derived.Test.YtighocmdlifheaaDoorSf
namespace Go.Proofs.YtighocmdlifheaaDoor
open Go.RowKit
theorem box8 {w w' : World} {k o t n f p : Int} {x : ByteArray} {a : Option Addr} {l c : Nat} (hb : Below (w.alloc (.cells #[.int .u8 k, .int .u8 o, .int .u8 t, .int .i64 n, .int .u8 f, .string x, .slice a l c, .int .i64 p] 28)).heap.size (w.alloc (.cells #[.int .u8 k, .int .u8 o, .int .u8 t, .int .i64 n, .int .u8 f, .string x, .slice a l c, .int .i64 p] 28)) w') :
    w'.cell? ⟨w.heap.size, 0, none⟩ = some (.int .u8 k) ∧ w'.cell? ⟨w.heap.size, 1, none⟩ = some (.int .u8 o) ∧ w'.cell? ⟨w.heap.size, 2, none⟩ = some (.int .u8 t) ∧ w'.cell? ⟨w.heap.size, 3, none⟩ = some (.int .i64 n) ∧ w'.cell? ⟨w.heap.size, 4, none⟩ = some (.int .u8 f) ∧ w'.cell? ⟨w.heap.size, 5, none⟩ = some (.string x) ∧ w'.cell? ⟨w.heap.size, 6, none⟩ = some (.slice a l c) ∧ w'.cell? ⟨w.heap.size, 7, none⟩ = some (.int .i64 p) := by
  have h := (hb.block w.heap.size (by rw [size_alloc]; omega)).trans (heap_new w _)
  exact ⟨cell_of h 0, cell_of h 1, cell_of h 2, cell_of h 3, cell_of h 4, cell_of h 5, cell_of h 6, cell_of h 7⟩
theorem levelOf_any (o : Int) (w : World) : Calls Tryd.prog 59 #[.int .u8 o] w fun e w' => e = .returned (.int .i64 (lvO o)) ∧ w' = w := by
  unfold lvO
  by_cases a : o = 18
  · subst a; go_enter Tryd.func59, Tryd.ntmps59; go_wp2_with fail; go_ret; exact ⟨rfl, rfl⟩
  by_cases b : o = 17
  · subst b; go_enter Tryd.func59, Tryd.ntmps59; go_wp2_with fail; go_ret; exact ⟨rfl, rfl⟩
  by_cases c : o = 6
  · subst c; go_enter Tryd.func59, Tryd.ntmps59; go_wp2_with fail; go_ret; exact ⟨rfl, rfl⟩
  by_cases d : o = 7
  · subst d; go_enter Tryd.func59, Tryd.ntmps59; go_wp2_with fail; go_ret; exact ⟨rfl, rfl⟩
  by_cases e : o = 8
  · subst e; go_enter Tryd.func59, Tryd.ntmps59; go_wp2_with fail; go_ret; exact ⟨rfl, rfl⟩
  by_cases f : o = 9
  · subst f; go_enter Tryd.func59, Tryd.ntmps59; go_wp2_with fail; go_ret; exact ⟨rfl, rfl⟩
  by_cases g : o = 10
  · subst g; go_enter Tryd.func59, Tryd.ntmps59; go_wp2_with fail; go_ret; exact ⟨rfl, rfl⟩
  rw [if_neg a, if_neg b, if_neg (by omega), if_neg (by omega)]
  have a' : (o == 18) = false := by simp [a]
  have b' : (o == 17) = false := by simp [b]
  have c' : (o == 6) = false := by simp [c]
  have d' : (o == 7) = false := by simp [d]
  have e' : (o == 8) = false := by simp [e]
  have f' : (o == 9) = false := by simp [f]
  have g' : (o == 10) = false := by simp [g]
  clear a b c d e f g
  go_enter Tryd.func59, Tryd.ntmps59; go_wp2_with fail; go_ret; exact ⟨rfl, rfl⟩
set_option maxRecDepth 100000 in
theorem level_any (h : Hd) (a : Option Addr) (l c : Nat) (w : World) : Calls Tryd.prog 48 #[.agg (hdA h a l c)] w fun e w' => e = .returned (.int .i64 (lvl h)) ∧ Below w.heap.size w w' := by
  obtain ⟨k, o, t, n, f, x, p⟩ := h
  unfold hdA lvl
  simp only
  have cO := levelOf_any o
  obtain ⟨V, eV⟩ : ∃ V, lvO o = V := ⟨_, rfl⟩
  simp only [eV] at cO
  rw [eV]
  clear eV
  by_cases a7 : k = 7
  · subst a7; go_enter Tryd.func48, Tryd.ntmps48; go_wp2_with fail; go_ret; exact ⟨rfl, below_new _ _⟩
  by_cases a6 : k = 6
  · subst a6; go_enter Tryd.func48, Tryd.ntmps48; go_wp2_with (go_at_call 59; refine (cO _).mono ?_; rintro e w' ⟨rfl, rfl⟩); go_ret; exact ⟨rfl, below_new _ _⟩
  by_cases a5 : k = 5
  · subst a5; go_enter Tryd.func48, Tryd.ntmps48; go_wp2_with fail; go_ret; exact ⟨rfl, below_new _ _⟩
  rw [if_neg a7, if_neg a6, if_neg a5]
  have b7 : (k == 7) = false := by simp [a7]
  have b6 : (k == 6) = false := by simp [a6]
  have b5 : (k == 5) = false := by simp [a5]
  clear a7 a6 a5
  go_enter Tryd.func48, Tryd.ntmps48; go_wp2_with fail; go_ret; exact ⟨rfl, below_new _ _⟩
theorem lvl_le (h : Hd) : 1 ≤ lvl h ∧ lvl h ≤ 8 := by
  unfold lvl lvO
  split
  · omega
  · split
    · repeat (first | omega | split)
    · split <;> omega
set_option maxRecDepth 100000 in
set_option maxHeartbeats 1000000 in
theorem asked_any (h : Hd) (a : Option Addr) (l c i : Nat) (hi : i ≤ 9223372036854775000) (w : World) : Calls Tryd.prog 60 #[.agg (hdA h a l c), .int .i64 i] w fun e w' => e = .returned (.int .i64 (ask h i)) ∧ Below w.heap.size w w' := by
  have cL := fun v => level_any h a l c v
  have hle := lvl_le h
  unfold ask
  obtain ⟨V, eV⟩ : ∃ V, lvl h = V := ⟨_, rfl⟩
  rw [eV] at hle
  simp only [eV] at cL
  simp only [eV]
  clear eV
  obtain ⟨k, o, t, n, f, x, p⟩ := h
  unfold hdA at cL ⊢
  simp only at cL ⊢
  obtain ⟨hl1, hl2⟩ := hle
  by_cases a7 : k = 7
  · subst a7
    by_cases i0 : i = 0
    · subst i0; go_enter Tryd.func60, Tryd.ntmps60; go_wp2_with fail; go_ret; exact ⟨rfl, below_new _ _⟩
    · have i0' : ((i : Int) == 0) = false := by simp; omega
      rw [if_pos rfl, if_neg i0]
      go_enter Tryd.func60, Tryd.ntmps60; go_wp2_with fail; go_ret; exact ⟨rfl, below_new _ _⟩
  by_cases a6 : k = 6
  · subst a6
    by_cases v4 : V = 4
    · subst v4; go_enter Tryd.func60, Tryd.ntmps60; go_wp2_with (go_at_call 48; refine (cL _).mono ?_; rintro e w' ⟨rfl, hb⟩); go_ret; exact ⟨rfl, (below_new _ _).trans (hb.mono (by simp))⟩
    · have v4' : (V == 4) = false := by simp [v4]
      have g1 : -9223372036854775808 ≤ V + (i : Int) := by omega
      have g2 : V + (i : Int) ≤ 9223372036854775807 := by omega
      rw [if_neg (by decide), if_pos rfl, if_neg v4]
      go_enter Tryd.func60, Tryd.ntmps60
      go_wp2_with fail
      refine (cL _).mono ?_
      rintro e w1 ⟨rfl, hb⟩
      obtain ⟨q0, q1, q2, q3, q4, q5, q6, q7⟩ := box8 hb
      have HB1 : Hid (Below w.heap.size w w1) := (below_new _ _).trans (hb.mono (by simp))
      clear hb
      go_wp2_with fail
      refine (cL _).mono ?_
      rintro e w2 ⟨rfl, hb⟩
      have HB2 : Hid (Below w.heap.size w w2) := HB1.out.trans (hb.mono HB1.out.size)
      clear hb
      go_wp2_with fail
      go_ret
      exact ⟨rfl, HB2.out⟩
  by_cases a5 : k = 5
  · subst a5; go_enter Tryd.func60, Tryd.ntmps60; go_wp2_with fail; go_ret; exact ⟨rfl, below_new _ _⟩
  rw [if_neg a7, if_neg a6, if_neg a5]
  have b7 : (k == 7) = false := by simp [a7]
  have b6 : (k == 6) = false := by simp [a6]
  have b5 : (k == 5) = false := by simp [a5]
  clear a7 a6 a5
  go_enter Tryd.func60, Tryd.ntmps60; go_wp2_with fail; go_ret; exact ⟨rfl, below_new _ _⟩
set_option maxRecDepth 100000 in
theorem goesDown_any (h : Hd) (a : Option Addr) (l c i : Nat) (w : World) : Calls Tryd.prog 61 #[.agg (hdA h a l c), .int .i64 i] w fun e w' => e = .returned (.bool (dwn h i)) ∧ Below w.heap.size w w' := by
  obtain ⟨k, o, t, n, f, x, p⟩ := h
  unfold hdA dwn
  simp only
  by_cases a6 : k = 6
  · subst a6; go_enter Tryd.func61, Tryd.ntmps61; go_wp2_with fail; go_ret; exact ⟨rfl, below_new _ _⟩
  by_cases a7 : k = 7
  · subst a7
    by_cases i0 : 0 < i
    · have i1 : (0 : Int) < (i : Int) := by omega
      go_enter Tryd.func61, Tryd.ntmps61; go_wp2_with fail; go_ret; exact ⟨retB (by simp), below_new _ _⟩
    · have i1 : ¬ (0 : Int) < (i : Int) := by omega
      go_enter Tryd.func61, Tryd.ntmps61; go_wp2_with fail; go_ret; exact ⟨retB (by simp), below_new _ _⟩
  rw [if_neg a6, if_neg a7]
  have b7 : (k == 7) = false := by simp [a7]
  have b6 : (k == 6) = false := by simp [a6]
  clear a7 a6
  go_enter Tryd.func61, Tryd.ntmps61; go_wp2_with fail; go_ret; exact ⟨rfl, below_new _ _⟩
end Go.Proofs.YtighocmdlifheaaDoor
