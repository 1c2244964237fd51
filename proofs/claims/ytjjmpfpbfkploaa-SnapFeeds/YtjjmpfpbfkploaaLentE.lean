/-
  Walks of the statements' own helpers over []Event: a copy with marks behind it, whether two are the same, and whether a copy is as it was.
-/
import Derived.Test.YtjjmpfpbfkploaaLs
namespace Go.Proofs.Ytjjmpfpbfkploaa
open Go.RowKit

theorem Try.info70 : (Try.prog.info? 70).map (fun i => (i.zero, i.size, i.bytes)) = some (some (.agg #[.int .u8 0, .int .i64 0, .int .i64 0, .int .i64 0, .int .i64 0, .int .u8 0, .int .i64 0, .int .i64 0, .int .i64 0]), 9, 72) := by kernel_rfl

theorem lentE_any (ao : Option Addr) (len cap : Nat) (f : Nat → Value) (w : World) (hL : Lie w ao len 9 f) (hf : ∀ j, (f j).oneCell' = true) (hn : ao = none → len = 0 ∧ cap = 0) (hmax : len ≤ 268435455) :
    Calls Try.prog 19 #[.slice ao len cap] w fun e w' => e = .returned (.slice (some ⟨w.heap.size, 0, none⟩) len (len + 2)) ∧
      w'.ownsRow w.heap.size 70 9 (.slice (some ⟨w.heap.size, 0, none⟩) (len + 2) (len + 2)) (len + 2) ((List.range (len * 9)).map f ++ [.int .u8 0, .int .i64 (-771), .int .i64 0, .int .i64 0, .int .i64 0, .int .u8 0, .int .i64 0, .int .i64 0, .int .i64 0, .int .u8 0, .int .i64 (-772), .int .i64 0, .int .i64 0, .int .i64 0, .int .u8 0, .int .i64 0, .int .i64 0, .int .i64 0]) ∧ Below w.heap.size w w' := by
  obtain ⟨i0, hi, hz0, hz1, hz2⟩ := info_parts Try.info70
  have hone : ∀ u ∈ (List.range (len * 9)).map f, u.oneCell' = true := by intro u hu; obtain ⟨j, _, rfl⟩ := List.mem_map.1 hu; exact hf j
  go_enter Try.func19, Try.ntmps19
  go_wp2_with (at_make; refine wpList_make_own _ rfl _ _ 42 rfl w.heap.size 70 i0 (.agg #[.int .u8 0, .int .i64 0, .int .i64 0, .int .i64 0, .int .i64 0, .int .u8 0, .int .i64 0, .int .i64 0, .int .i64 0]) 9 Try.underlying42 hi hz0 hz1 _ _ _ (len + 2) rfl rfl (by omega) ?b2 ?b3 (Nat.le_refl _) ?_)
  case b2 => rw [hz2]; omega
  case b3 => unfold maxLen; omega
  intro w0 hown0 hgrow0
  go_wp2_with (first
    | (at_builtin; refine wpList_append_fits_any _ rfl (.tmp 8) (.tmp 9) 42 rfl w.heap.size 70 i0 9 Try.underlying42 hi hz1 w.heap.size 0 (len + 2) _ rfl hown0 _ len _ ((List.range (len * 9)).map f) rfl (by simp) hn (hL.news hgrow0) hone (by omega) ?_; intro w1 hown1 hgrow1; simp only [Nat.zero_add, List.nil_append] at hown1)
    | (at_builtin; refine wpList_append_fits _ rfl (.tmp 11) (.tmp 14) 42 rfl w.heap.size 70 i0 9 Try.underlying42 hi hz1 w.heap.size len (len + 2) _ rfl (hown1.alloc _) ⟨w1.heap.size, 0, none⟩ 2 2 [.int .u8 0, .int .i64 (-771), .int .i64 0, .int .i64 0, .int .i64 0, .int .u8 0, .int .i64 0, .int .i64 0, .int .i64 0, .int .u8 0, .int .i64 (-772), .int .i64 0, .int .i64 0, .int .i64 0, .int .u8 0, .int .i64 0, .int .i64 0, .int .i64 0] rfl rfl (by intro t u ht; match t, ht with | 0, ht => simp at ht; subst ht; simp [Addr.add] | 1, ht => simp at ht; subst ht; simp [Addr.add] | 2, ht => simp at ht; subst ht; simp [Addr.add] | 3, ht => simp at ht; subst ht; simp [Addr.add] | 4, ht => simp at ht; subst ht; simp [Addr.add] | 5, ht => simp at ht; subst ht; simp [Addr.add] | 6, ht => simp at ht; subst ht; simp [Addr.add] | 7, ht => simp at ht; subst ht; simp [Addr.add] | 8, ht => simp at ht; subst ht; simp [Addr.add] | 9, ht => simp at ht; subst ht; simp [Addr.add] | 10, ht => simp at ht; subst ht; simp [Addr.add] | 11, ht => simp at ht; subst ht; simp [Addr.add] | 12, ht => simp at ht; subst ht; simp [Addr.add] | 13, ht => simp at ht; subst ht; simp [Addr.add] | 14, ht => simp at ht; subst ht; simp [Addr.add] | 15, ht => simp at ht; subst ht; simp [Addr.add] | 16, ht => simp at ht; subst ht; simp [Addr.add] | 17, ht => simp at ht; subst ht; simp [Addr.add]) (by intro u hu; simp at hu; rcases hu with rfl | rfl | rfl | rfl | rfl | rfl | rfl | rfl | rfl | rfl | rfl | rfl | rfl | rfl | rfl | rfl | rfl | rfl <;> rfl) (by omega) ?_; intro w2 hown2 hgrow2))
  go_ret
  have b0 := (Below.refl w.heap.size w).grown hgrow0 (Nat.le_refl _) (fun k h => by cases h)
  have b1 := b0.grown hgrow1 b0.size (fun k hk => by cases hk; exact Nat.le_refl _)
  have b2 := b1.alloc b1.size (.cells #[.int .u8 0, .int .i64 (-771), .int .i64 0, .int .i64 0, .int .i64 0, .int .u8 0, .int .i64 0, .int .i64 0, .int .i64 0, .int .u8 0, .int .i64 (-772), .int .i64 0, .int .i64 0, .int .i64 0, .int .u8 0, .int .i64 0, .int .i64 0, .int .i64 0] 70)
  have b3 := b2.grown hgrow2 b2.size (fun k hk => by cases hk; exact Nat.le_refl _)
  exact ⟨rfl, hown2, b3⟩

theorem lentE_at (ao : Option Addr) (len cap : Nat) (f : Nat → Value) (w : World) (hL : Lie w ao len 9 f) (hf : ∀ j, (f j).oneCell' = true) (hn : ao = none → len = 0 ∧ cap = 0) (hmax : len ≤ 268435455) :
    Calls Try.prog 19 #[.slice ao len cap] w fun e w' => e = .returned (.slice (some ⟨w.heap.size, 0, none⟩) len (len + 2)) ∧ w.heap.size < w'.heap.size ∧
      Lie w' (some ⟨w.heap.size, 0, none⟩) len 9 f ∧ (w'.cell? ⟨w.heap.size, len * 9, none⟩ = some (.int .u8 0) ∧ w'.cell? ⟨w.heap.size, len * 9 + 1, none⟩ = some (.int .i64 (-771)) ∧ w'.cell? ⟨w.heap.size, len * 9 + 2, none⟩ = some (.int .i64 0) ∧ w'.cell? ⟨w.heap.size, len * 9 + 3, none⟩ = some (.int .i64 0) ∧ w'.cell? ⟨w.heap.size, len * 9 + 4, none⟩ = some (.int .i64 0) ∧ w'.cell? ⟨w.heap.size, len * 9 + 5, none⟩ = some (.int .u8 0) ∧ w'.cell? ⟨w.heap.size, len * 9 + 6, none⟩ = some (.int .i64 0) ∧ w'.cell? ⟨w.heap.size, len * 9 + 7, none⟩ = some (.int .i64 0) ∧ w'.cell? ⟨w.heap.size, len * 9 + 8, none⟩ = some (.int .i64 0) ∧ w'.cell? ⟨w.heap.size, (len + 1) * 9, none⟩ = some (.int .u8 0) ∧ w'.cell? ⟨w.heap.size, (len + 1) * 9 + 1, none⟩ = some (.int .i64 (-772)) ∧ w'.cell? ⟨w.heap.size, (len + 1) * 9 + 2, none⟩ = some (.int .i64 0) ∧ w'.cell? ⟨w.heap.size, (len + 1) * 9 + 3, none⟩ = some (.int .i64 0) ∧ w'.cell? ⟨w.heap.size, (len + 1) * 9 + 4, none⟩ = some (.int .i64 0) ∧ w'.cell? ⟨w.heap.size, (len + 1) * 9 + 5, none⟩ = some (.int .u8 0) ∧ w'.cell? ⟨w.heap.size, (len + 1) * 9 + 6, none⟩ = some (.int .i64 0) ∧ w'.cell? ⟨w.heap.size, (len + 1) * 9 + 7, none⟩ = some (.int .i64 0) ∧ w'.cell? ⟨w.heap.size, (len + 1) * 9 + 8, none⟩ = some (.int .i64 0)) ∧ Below w.heap.size w w' := by
  refine (lentE_any ao len cap f w hL hf hn hmax).mono ?_
  rintro e w' ⟨rfl, hown, hbel⟩
  have hlt := (hown.lt _ rfl).2
  have hc : ∀ j, j < (len + 2) * 9 → w'.cell? ⟨w.heap.size, j, none⟩ = ((List.range (len * 9)).map f ++ [.int .u8 0, .int .i64 (-771), .int .i64 0, .int .i64 0, .int .i64 0, .int .u8 0, .int .i64 0, .int .i64 0, .int .i64 0, .int .u8 0, .int .i64 (-772), .int .i64 0, .int .i64 0, .int .i64 0, .int .u8 0, .int .i64 0, .int .i64 0, .int .i64 0])[j]? := fun j hj => hown.cellAt j hj
  have hm : ∀ j, j < 18 → w'.cell? ⟨w.heap.size, len * 9 + j, none⟩ = [.int .u8 0, .int .i64 (-771), .int .i64 0, .int .i64 0, .int .i64 0, .int .u8 0, .int .i64 0, .int .i64 0, .int .i64 0, .int .u8 0, .int .i64 (-772), .int .i64 0, .int .i64 0, .int .i64 0, .int .u8 0, .int .i64 0, .int .i64 0, .int .i64 0][j]? := by
    intro j hj
    rw [hc _ (by omega), List.getElem?_append_right (by simp), List.length_map, List.length_range, Nat.add_sub_cancel_left]
  refine ⟨rfl, hlt, ?_, ?_, hbel⟩
  · intro h0
    refine ⟨_, 0, rfl, hlt, fun j hj => ?_⟩
    rw [Nat.zero_add, hc j (by omega), List.getElem?_append_left (by simpa using hj), List.getElem?_map, List.getElem?_range hj]
    rfl
  · refine ⟨?_, ?_, ?_, ?_, ?_, ?_, ?_, ?_, ?_, ?_, ?_, ?_, ?_, ?_, ?_, ?_, ?_, ?_⟩
    · exact hm 0 (by omega)
    · exact hm 1 (by omega)
    · exact hm 2 (by omega)
    · exact hm 3 (by omega)
    · exact hm 4 (by omega)
    · exact hm 5 (by omega)
    · exact hm 6 (by omega)
    · exact hm 7 (by omega)
    · exact hm 8 (by omega)
    · have := hm 9 (by omega)
      rwa [show len * 9 + 9 = (len + 1) * 9 by omega] at this
    · have := hm 10 (by omega)
      rwa [show len * 9 + 10 = (len + 1) * 9 + 1 by omega] at this
    · have := hm 11 (by omega)
      rwa [show len * 9 + 11 = (len + 1) * 9 + 2 by omega] at this
    · have := hm 12 (by omega)
      rwa [show len * 9 + 12 = (len + 1) * 9 + 3 by omega] at this
    · have := hm 13 (by omega)
      rwa [show len * 9 + 13 = (len + 1) * 9 + 4 by omega] at this
    · have := hm 14 (by omega)
      rwa [show len * 9 + 14 = (len + 1) * 9 + 5 by omega] at this
    · have := hm 15 (by omega)
      rwa [show len * 9 + 15 = (len + 1) * 9 + 6 by omega] at this
    · have := hm 16 (by omega)
      rwa [show len * 9 + 16 = (len + 1) * 9 + 7 by omega] at this
    · have := hm 17 (by omega)
      rwa [show len * 9 + 17 = (len + 1) * 9 + 8 by omega] at this

set_option maxHeartbeats 1000000 in
/-- Two lists of the same things are the same. -/
theorem sameE_any (b1 o1 c1 b2 o2 c2 len : Nat) (A : Nat → Ev) (w : World) (hmax : len ≤ 1099511627776)
    (h1 : ∀ j, j < len → EvAt w b1 (o1 + j * 9) (A j)) (h2 : ∀ j, j < len → EvAt w b2 (o2 + j * 9) (A j)) :
    Calls Try.prog 30 #[.slice (some ⟨b1, o1, none⟩) len c1, .slice (some ⟨b2, o2, none⟩) len c2] w fun e w' => e = .returned (.bool true) ∧ ∃ n, w' = w.drewN n := by
  go_enter Try.func30, Try.ntmps30
  go_wp2
  go_loopw [5] (fun i wr => ∃ (k n : Nat), k ≤ len ∧ i = .int .i64 k ∧ wr = w.drewN n) (fun i _ => len - (intOf i).toNat)
  case atStart => exact ⟨0, 0, by omega, rfl, rfl⟩
  case round =>
    obtain ⟨k, n, hk, rfl, rfl⟩ := hrel
    by_cases hlt : k < len
    · obtain ⟨a0, a1, a2, a3, a4, a5, a6, a7, a8⟩ := h1 k hlt
      obtain ⟨b0, b1, b2, b3, b4, b5, b6, b7, b8⟩ := h2 k hlt
      obtain ⟨x, hx⟩ : ∃ x, A k = x := ⟨_, rfl⟩
      rw [hx] at a0 a1 a2 a3 a4 a5 a6 a7 a8 b0 b1 b2 b3 b4 b5 b6 b7 b8
      have hlt' : (k : Int) < (len : Int) := by omega
      clear h1 h2 hx
      go_wp2
      go_quiet (fail)
      go_wp2
      exact ⟨⟨k + 1, _, by omega, by go_num, rfl⟩, by simp only [intOf]; omega⟩
    · go_wp2
      go_ret
      exact ⟨rfl, n, rfl⟩

set_option maxHeartbeats 1000000 in
theorem sameE_none (a1 a2 : Option Addr) (c1 c2 : Nat) (w : World) :
    Calls Try.prog 30 #[.slice a1 0 c1, .slice a2 0 c2] w fun e w' => e = .returned (.bool true) ∧ ∃ n, w' = w.drewN n := by
  go_enter Try.func30, Try.ntmps30
  go_wp2
  refine wp_loop_rounds 1 ?_
  rw [rounds_succ]
  go_wp2
  go_ret
  exact ⟨rfl, 0, rfl⟩

set_option maxHeartbeats 1000000 in
/-- What was lent is whole. -/
theorem wholeE_any (B : Nat) (ao : Option Addr) (cap len : Nat) (w : World) (hmax : len ≤ 268435455)
    (hS : Calls Try.prog 30 #[.slice (some ⟨B, 0, none⟩) len (len + 2), .slice ao len cap] w fun e w' => e = .returned (.bool true) ∧ ∃ n, w' = w.drewN n)
    (hm : w.cell? ⟨B, len * 9, none⟩ = some (.int .u8 0) ∧ w.cell? ⟨B, len * 9 + 1, none⟩ = some (.int .i64 (-771)) ∧ w.cell? ⟨B, len * 9 + 2, none⟩ = some (.int .i64 0) ∧ w.cell? ⟨B, len * 9 + 3, none⟩ = some (.int .i64 0) ∧ w.cell? ⟨B, len * 9 + 4, none⟩ = some (.int .i64 0) ∧ w.cell? ⟨B, len * 9 + 5, none⟩ = some (.int .u8 0) ∧ w.cell? ⟨B, len * 9 + 6, none⟩ = some (.int .i64 0) ∧ w.cell? ⟨B, len * 9 + 7, none⟩ = some (.int .i64 0) ∧ w.cell? ⟨B, len * 9 + 8, none⟩ = some (.int .i64 0) ∧ w.cell? ⟨B, (len + 1) * 9, none⟩ = some (.int .u8 0) ∧ w.cell? ⟨B, (len + 1) * 9 + 1, none⟩ = some (.int .i64 (-772)) ∧ w.cell? ⟨B, (len + 1) * 9 + 2, none⟩ = some (.int .i64 0) ∧ w.cell? ⟨B, (len + 1) * 9 + 3, none⟩ = some (.int .i64 0) ∧ w.cell? ⟨B, (len + 1) * 9 + 4, none⟩ = some (.int .i64 0) ∧ w.cell? ⟨B, (len + 1) * 9 + 5, none⟩ = some (.int .u8 0) ∧ w.cell? ⟨B, (len + 1) * 9 + 6, none⟩ = some (.int .i64 0) ∧ w.cell? ⟨B, (len + 1) * 9 + 7, none⟩ = some (.int .i64 0) ∧ w.cell? ⟨B, (len + 1) * 9 + 8, none⟩ = some (.int .i64 0)) :
    Calls Try.prog 21 #[.slice (some ⟨B, 0, none⟩) len (len + 2), .slice ao len cap] w fun e w' => e = .returned (.bool true) ∧ ∃ n, w' = w.drewN n := by
  have hS : Hid (Calls Try.prog 30 #[.slice (some ⟨B, 0, none⟩) len (len + 2), .slice ao len cap] w fun e w' => e = .returned (.bool true) ∧ ∃ n, w' = w.drewN n) := hS
  obtain ⟨m0, m1, m2, m3, m4, m5, m6, m7, m8, m9, m10, m11, m12, m13, m14, m15, m16, m17⟩ := hm
  go_enter Try.func21, Try.ntmps21
  go_wp2_with fail
  refine hS.out.mono ?_
  rintro e w' ⟨rfl, ⟨n, rfl⟩⟩
  go_wp2_with fail
  go_ret
  exact ⟨rfl, n, rfl⟩
end Go.Proofs.Ytjjmpfpbfkploaa
