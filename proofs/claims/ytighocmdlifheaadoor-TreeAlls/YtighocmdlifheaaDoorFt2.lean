/-
  fits: are the fields that a kind names as they may be, with so many kids?
-/
import Derived.Test.YtighocmdlifheaaDoorFt
namespace Go.Proofs.YtighocmdlifheaaDoor
open Go.RowKit
theorem below2 {w w1 w2 : World} (h1 : Below w.heap.size w w1) (h2 : Below w1.heap.size w1 w2) : Below w.heap.size w w2 := h1.trans (h2.mono h1.size)
set_option maxRecDepth 100000 in
set_option maxHeartbeats 2000000 in
theorem ft_1 (o t n f : Int) (x : ByteArray) (w : World) : Calls Tryd.prog 69 #[.agg #[.int .u8 1, .int .u8 o, .int .u8 t, .int .i64 n, .int .u8 f, .string x], .int .i64 0] w fun e w' => e = .returned (.bool (litB t n)) ∧ Below w.heap.size w w' := by
  go_enter Tryd.func69, Tryd.ntmps69
  go_wp2_with (go_at_call 74; refine (isLiteral_any _ _ _).mono ?_; rintro e w' ⟨rfl, rfl⟩)
  go_ret
  exact ⟨retB (by simp), below_new _ _⟩
set_option maxRecDepth 100000 in
set_option maxHeartbeats 2000000 in
theorem ft_1n (l : Nat) (hl : ((l : Int) == 0) = false) (o t n f : Int) (x : ByteArray) (w : World) : Calls Tryd.prog 69 #[.agg #[.int .u8 1, .int .u8 o, .int .u8 t, .int .i64 n, .int .u8 f, .string x], .int .i64 l] w fun e w' => e = .returned (.bool (false)) ∧ Below w.heap.size w w' := by
  go_enter Tryd.func69, Tryd.ntmps69
  go_wp2_with (fail)
  go_ret
  exact ⟨retB (by simp), below_new _ _⟩
set_option maxRecDepth 100000 in
set_option maxHeartbeats 2000000 in
theorem ft_3 (o t n f : Int) (x : ByteArray) (w : World) : Calls Tryd.prog 69 #[.agg #[.int .u8 3, .int .u8 o, .int .u8 t, .int .i64 n, .int .u8 f, .string x], .int .i64 0] w fun e w' => e = .returned (.bool (decide (1 ≤ f ∧ f ≤ 6))) ∧ Below w.heap.size w w' := by
  go_enter Tryd.func69, Tryd.ntmps69
  go_wp2_with (go_at_call 75; refine (wU_any 75 _ _ _ _ (by simp)).mono ?_; rintro e w' ⟨rfl, rfl⟩)
  go_ret
  exact ⟨retB (by simp), below_new _ _⟩
set_option maxRecDepth 100000 in
set_option maxHeartbeats 2000000 in
theorem ft_3n (l : Nat) (hl : ((l : Int) == 0) = false) (o t n f : Int) (x : ByteArray) (w : World) : Calls Tryd.prog 69 #[.agg #[.int .u8 3, .int .u8 o, .int .u8 t, .int .i64 n, .int .u8 f, .string x], .int .i64 l] w fun e w' => e = .returned (.bool (false)) ∧ Below w.heap.size w w' := by
  go_enter Tryd.func69, Tryd.ntmps69
  go_wp2_with (fail)
  go_ret
  exact ⟨retB (by simp), below_new _ _⟩
set_option maxRecDepth 100000 in
set_option maxHeartbeats 2000000 in
theorem ft_4 (o t n f : Int) (x : ByteArray) (w : World) : Calls Tryd.prog 69 #[.agg #[.int .u8 4, .int .u8 o, .int .u8 t, .int .i64 n, .int .u8 f, .string x], .int .i64 0] w fun e w' => e = .returned (.bool (decide (1 ≤ f ∧ f ≤ 3))) ∧ Below w.heap.size w w' := by
  go_enter Tryd.func69, Tryd.ntmps69
  go_wp2_with (go_at_call 75; refine (wU_any 75 _ _ _ _ (by simp)).mono ?_; rintro e w' ⟨rfl, rfl⟩)
  go_ret
  exact ⟨retB (by simp), below_new _ _⟩
set_option maxRecDepth 100000 in
set_option maxHeartbeats 2000000 in
theorem ft_4n (l : Nat) (hl : ((l : Int) == 0) = false) (o t n f : Int) (x : ByteArray) (w : World) : Calls Tryd.prog 69 #[.agg #[.int .u8 4, .int .u8 o, .int .u8 t, .int .i64 n, .int .u8 f, .string x], .int .i64 l] w fun e w' => e = .returned (.bool (false)) ∧ Below w.heap.size w w' := by
  go_enter Tryd.func69, Tryd.ntmps69
  go_wp2_with (fail)
  go_ret
  exact ⟨retB (by simp), below_new _ _⟩
set_option maxRecDepth 100000 in
set_option maxHeartbeats 2000000 in
theorem ft_5 (o t n f : Int) (x : ByteArray) (w : World) : Calls Tryd.prog 69 #[.agg #[.int .u8 5, .int .u8 o, .int .u8 t, .int .i64 n, .int .u8 f, .string x], .int .i64 1] w fun e w' => e = .returned (.bool (decide (1 ≤ o ∧ o ≤ 2))) ∧ Below w.heap.size w w' := by
  go_enter Tryd.func69, Tryd.ntmps69
  go_wp2_with (go_at_call 76; refine (wU_any 76 _ _ _ _ (by simp)).mono ?_; rintro e w' ⟨rfl, rfl⟩)
  go_ret
  exact ⟨retB (by simp), below_new _ _⟩
set_option maxRecDepth 100000 in
set_option maxHeartbeats 2000000 in
theorem ft_5n (l : Nat) (hl : ((l : Int) == 1) = false) (o t n f : Int) (x : ByteArray) (w : World) : Calls Tryd.prog 69 #[.agg #[.int .u8 5, .int .u8 o, .int .u8 t, .int .i64 n, .int .u8 f, .string x], .int .i64 l] w fun e w' => e = .returned (.bool (false)) ∧ Below w.heap.size w w' := by
  go_enter Tryd.func69, Tryd.ntmps69
  go_wp2_with (fail)
  go_ret
  exact ⟨retB (by simp), below_new _ _⟩
set_option maxRecDepth 100000 in
set_option maxHeartbeats 2000000 in
theorem ft_6 (o t n f : Int) (x : ByteArray) (w : World) : Calls Tryd.prog 69 #[.agg #[.int .u8 6, .int .u8 o, .int .u8 t, .int .i64 n, .int .u8 f, .string x], .int .i64 2] w fun e w' => e = .returned (.bool (decide (6 ≤ o ∧ o ≤ 18))) ∧ Below w.heap.size w w' := by
  go_enter Tryd.func69, Tryd.ntmps69
  go_wp2_with (go_at_call 76; refine (wU_any 76 _ _ _ _ (by simp)).mono ?_; rintro e w' ⟨rfl, rfl⟩)
  go_ret
  exact ⟨retB (by simp), below_new _ _⟩
set_option maxRecDepth 100000 in
set_option maxHeartbeats 2000000 in
theorem ft_6n (l : Nat) (hl : ((l : Int) == 2) = false) (o t n f : Int) (x : ByteArray) (w : World) : Calls Tryd.prog 69 #[.agg #[.int .u8 6, .int .u8 o, .int .u8 t, .int .i64 n, .int .u8 f, .string x], .int .i64 l] w fun e w' => e = .returned (.bool (false)) ∧ Below w.heap.size w w' := by
  go_enter Tryd.func69, Tryd.ntmps69
  go_wp2_with (fail)
  go_ret
  exact ⟨retB (by simp), below_new _ _⟩
set_option maxRecDepth 100000 in
set_option maxHeartbeats 2000000 in
theorem ft_9 (o t n f : Int) (x : ByteArray) (w : World) : Calls Tryd.prog 69 #[.agg #[.int .u8 9, .int .u8 o, .int .u8 t, .int .i64 n, .int .u8 f, .string x], .int .i64 1] w fun e w' => e = .returned (.bool (numB t)) ∧ Below w.heap.size w w' := by
  go_enter Tryd.func69, Tryd.ntmps69
  go_wp2_with (go_at_call 77; refine (isNumber_any _ _).mono ?_; rintro e w' ⟨rfl, rfl⟩)
  go_ret
  exact ⟨retB (by simp), below_new _ _⟩
set_option maxRecDepth 100000 in
set_option maxHeartbeats 2000000 in
theorem ft_9n (l : Nat) (hl : ((l : Int) == 1) = false) (o t n f : Int) (x : ByteArray) (w : World) : Calls Tryd.prog 69 #[.agg #[.int .u8 9, .int .u8 o, .int .u8 t, .int .i64 n, .int .u8 f, .string x], .int .i64 l] w fun e w' => e = .returned (.bool (false)) ∧ Below w.heap.size w w' := by
  go_enter Tryd.func69, Tryd.ntmps69
  go_wp2_with (fail)
  go_ret
  exact ⟨retB (by simp), below_new _ _⟩
set_option maxRecDepth 100000 in
set_option maxHeartbeats 2000000 in
theorem ft_2 (o t n f : Int) (x : ByteArray) (hx : x.size ≤ 140737488355328) (w : World) (ht : Tab w) : Calls Tryd.prog 69 #[.agg #[.int .u8 2, .int .u8 o, .int .u8 t, .int .i64 n, .int .u8 f, .string x], .int .i64 0] w fun e w' => e = .returned (.bool (nameB x)) ∧ Below w.heap.size w w' := by
  go_enter Tryd.func69, Tryd.ntmps69
  go_wp2_with (go_at_call 70; refine (namep_any x hx _ (ht.on (below_new _ _))).mono ?_; rintro e w' ⟨rfl, hb⟩)
  go_ret
  exact ⟨retB (by simp), below2 (below_new _ _) hb⟩
set_option maxRecDepth 100000 in
set_option maxHeartbeats 2000000 in
theorem ft_2n (l : Nat) (hl : ((l : Int) == 0) = false) (o t n f : Int) (x : ByteArray) (w : World) : Calls Tryd.prog 69 #[.agg #[.int .u8 2, .int .u8 o, .int .u8 t, .int .i64 n, .int .u8 f, .string x], .int .i64 l] w fun e w' => e = .returned (.bool (false)) ∧ Below w.heap.size w w' := by
  go_enter Tryd.func69, Tryd.ntmps69
  go_wp2_with (fail)
  go_ret
  exact ⟨retB (by simp), below_new _ _⟩
set_option maxRecDepth 100000 in
set_option maxHeartbeats 2000000 in
theorem ft_7 (l : Nat) (o t n f : Int) (x : ByteArray) (w : World) : Calls Tryd.prog 69 #[.agg #[.int .u8 7, .int .u8 o, .int .u8 t, .int .i64 n, .int .u8 f, .string x], .int .i64 l] w fun e w' => e = .returned (.bool (decide (l = 3))) ∧ Below w.heap.size w w' := by
  go_enter Tryd.func69, Tryd.ntmps69
  go_wp2_with (fail)
  go_ret
  exact ⟨retB (by first | rfl | (by_cases h : l = 3 <;> simp [h] <;> omega) | (apply decide_eq_decide.2; omega)), below_new _ _⟩
set_option maxRecDepth 100000 in
set_option maxHeartbeats 2000000 in
theorem ft_81 (o t n f : Int) (x : ByteArray) (w : World) : Calls Tryd.prog 69 #[.agg #[.int .u8 8, .int .u8 o, .int .u8 t, .int .i64 n, .int .u8 f, .string x], .int .i64 1] w fun e w' => e = .returned (.bool (decide (o = 3))) ∧ Below w.heap.size w w' := by
  by_cases ho : o = 3
  · subst ho
    go_enter Tryd.func69, Tryd.ntmps69
    go_wp2_with fail
    go_ret
    exact ⟨retB (by simp), below_new _ _⟩
  have ho' : (o == 3) = false := by simp [ho]
  go_enter Tryd.func69, Tryd.ntmps69
  go_wp2_with (fail)
  go_ret
  exact ⟨retB (by simp [ho]), below_new _ _⟩
set_option maxRecDepth 100000 in
set_option maxHeartbeats 2000000 in
theorem ft_82 (o t n f : Int) (x : ByteArray) (w : World) : Calls Tryd.prog 69 #[.agg #[.int .u8 8, .int .u8 o, .int .u8 t, .int .i64 n, .int .u8 f, .string x], .int .i64 2] w fun e w' => e = .returned (.bool (decide (4 ≤ o ∧ o ≤ 5))) ∧ Below w.heap.size w w' := by
  go_enter Tryd.func69, Tryd.ntmps69
  go_wp2_with (go_at_call 76; refine (wU_any 76 _ _ _ _ (by simp)).mono ?_; rintro e w' ⟨rfl, rfl⟩)
  go_ret
  exact ⟨retB (by simp), below_new _ _⟩
set_option maxRecDepth 100000 in
set_option maxHeartbeats 2000000 in
theorem ft_8n (l : Nat) (hl : ((l : Int) == 1) = false) (hl2 : ((l : Int) == 2) = false) (o t n f : Int) (x : ByteArray) (w : World) : Calls Tryd.prog 69 #[.agg #[.int .u8 8, .int .u8 o, .int .u8 t, .int .i64 n, .int .u8 f, .string x], .int .i64 l] w fun e w' => e = .returned (.bool (false)) ∧ Below w.heap.size w w' := by
  go_enter Tryd.func69, Tryd.ntmps69
  go_wp2_with (fail)
  go_ret
  exact ⟨retB (by simp), below_new _ _⟩
set_option maxRecDepth 100000 in
set_option maxHeartbeats 2000000 in
theorem ft_z (l : Nat) (k : Int) (e1 : (k == 1) = false) (e2 : (k == 2) = false) (e3 : (k == 3) = false) (e4 : (k == 4) = false) (e5 : (k == 5) = false) (e6 : (k == 6) = false) (e7 : (k == 7) = false) (e8 : (k == 8) = false) (e9 : (k == 9) = false) (o t n f : Int) (x : ByteArray) (w : World) : Calls Tryd.prog 69 #[.agg #[.int .u8 k, .int .u8 o, .int .u8 t, .int .i64 n, .int .u8 f, .string x], .int .i64 l] w fun e w' => e = .returned (.bool (false)) ∧ Below w.heap.size w w' := by
  go_enter Tryd.func69, Tryd.ntmps69
  go_wp2_with (fail)
  go_ret
  exact ⟨retB (by simp), below_new _ _⟩
theorem fits_any (h : Hd) (l : Nat) (hx : h.x.size ≤ 140737488355328) (w : World) (ht : Tab w) : Calls Tryd.prog 69 #[.agg (selfA h), .int .i64 l] w fun e w' => e = .returned (.bool (fitB h l)) ∧ Below w.heap.size w w' := by
  obtain ⟨k, o, t, n, f, x, p⟩ := h
  unfold selfA fitB
  simp only at hx ⊢
  by_cases e1 : k = 1
  · subst e1
    rw [if_pos rfl]
    by_cases a : l = 0
    · subst a
      have := ft_1 o t n f x w
      simpa using this
    have := ft_1n l (by simp; omega) o t n f x w
    simpa [a] using this
  by_cases e2 : k = 2
  · subst e2
    rw [if_neg (by decide), if_pos rfl]
    by_cases a : l = 0
    · subst a
      have := ft_2 o t n f x hx w ht
      simpa using this
    have := ft_2n l (by simp; omega) o t n f x w
    simpa [a] using this
  by_cases e3 : k = 3
  · subst e3
    rw [if_neg (by decide), if_neg (by decide), if_pos rfl]
    by_cases a : l = 0
    · subst a
      have := ft_3 o t n f x w
      simpa using this
    have := ft_3n l (by simp; omega) o t n f x w
    simpa [a] using this
  by_cases e4 : k = 4
  · subst e4
    rw [if_neg (by decide), if_neg (by decide), if_neg (by decide), if_pos rfl]
    by_cases a : l = 0
    · subst a
      have := ft_4 o t n f x w
      simpa using this
    have := ft_4n l (by simp; omega) o t n f x w
    simpa [a] using this
  by_cases e5 : k = 5
  · subst e5
    rw [if_neg (by decide), if_neg (by decide), if_neg (by decide), if_neg (by decide), if_pos rfl]
    by_cases a : l = 1
    · subst a
      have := ft_5 o t n f x w
      simpa using this
    have := ft_5n l (by simp; omega) o t n f x w
    simpa [a] using this
  by_cases e6 : k = 6
  · subst e6
    rw [if_neg (by decide), if_neg (by decide), if_neg (by decide), if_neg (by decide), if_neg (by decide), if_pos rfl]
    by_cases a : l = 2
    · subst a
      have := ft_6 o t n f x w
      simpa using this
    have := ft_6n l (by simp; omega) o t n f x w
    simpa [a] using this
  by_cases e7 : k = 7
  · subst e7
    rw [if_neg (by decide), if_neg (by decide), if_neg (by decide), if_neg (by decide), if_neg (by decide), if_neg (by decide), if_pos rfl]
    exact ft_7 l o t n f x w
  by_cases e8 : k = 8
  · subst e8
    rw [if_neg (by decide), if_neg (by decide), if_neg (by decide), if_neg (by decide), if_neg (by decide), if_neg (by decide), if_neg (by decide), if_pos rfl]
    by_cases a1 : l = 1
    · subst a1
      have := ft_81 o t n f x w
      simpa using this
    by_cases a2 : l = 2
    · subst a2
      have := ft_82 o t n f x w
      simpa using this
    have := ft_8n l (by simp; omega) (by simp; omega) o t n f x w
    simpa [a1, a2] using this
  by_cases e9 : k = 9
  · subst e9
    rw [if_neg (by decide), if_neg (by decide), if_neg (by decide), if_neg (by decide), if_neg (by decide), if_neg (by decide), if_neg (by decide), if_neg (by decide), if_pos rfl]
    by_cases a : l = 1
    · subst a
      have := ft_9 o t n f x w
      simpa using this
    have := ft_9n l (by simp; omega) o t n f x w
    simpa [a] using this
  rw [if_neg e1, if_neg e2, if_neg e3, if_neg e4, if_neg e5, if_neg e6, if_neg e7, if_neg e8, if_neg e9]
  exact ft_z l k (by simp [e1]) (by simp [e2]) (by simp [e3]) (by simp [e4]) (by simp [e5]) (by simp [e6]) (by simp [e7]) (by simp [e8]) (by simp [e9]) o t n f x w
end Go.Proofs.YtighocmdlifheaaDoor
