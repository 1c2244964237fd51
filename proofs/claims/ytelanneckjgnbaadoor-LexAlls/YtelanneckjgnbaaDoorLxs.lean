/-
  Two lists of the same tokens are the same.
-/
import Derived.Test.YtelanneckjgnbaaDoorLxa
namespace Go.Proofs.YtelanneckjgnbaaDoor
open Go.RowKit

structure TkAt (w : World) (b o : Nat) (f : Tk) : Prop where
  c0 : w.cell? ⟨b, o, none⟩ = some (.int .u8 f.k)
  c1 : w.cell? ⟨b, o + 1, none⟩ = some (.string f.x)
  c2 : w.cell? ⟨b, o + 2, none⟩ = some (.int .u8 f.ty)
  c3 : w.cell? ⟨b, o + 3, none⟩ = some (.int .i64 f.n)
  c4 : w.cell? ⟨b, o + 4, none⟩ = some (.int .i64 f.p)
set_option maxHeartbeats 1000000 in
theorem sameT_any (b1 o1 c1 b2 o2 c2 len : Nat) (A : Nat → Tk) (w : World) (hmax : len ≤ 1099511627776)
    (h1 : ∀ j, j < len → TkAt w b1 (o1 + j * 5) (A j)) (h2 : ∀ j, j < len → TkAt w b2 (o2 + j * 5) (A j)) :
    Calls Tryd.prog 12 #[.slice (some ⟨b1, o1, none⟩) len c1, .slice (some ⟨b2, o2, none⟩) len c2] w fun e w' => e = .returned (.bool true) ∧ ∃ n, w' = w.drewN n := by
  go_enter Tryd.func12, Tryd.ntmps12
  go_wp2
  go_loopw [5] (fun i wr => ∃ (k n : Nat), k ≤ len ∧ i = .int .i64 k ∧ wr = w.drewN n) (fun i _ => len - (intOf i).toNat)
  case atStart => exact ⟨0, 0, by omega, rfl, rfl⟩
  case round =>
    obtain ⟨k, n, hk, rfl, rfl⟩ := hrel
    by_cases hlt : k < len
    · obtain ⟨a0, a1, a2, a3, a4⟩ := h1 k hlt
      obtain ⟨b0, b1, b2, b3, b4⟩ := h2 k hlt
      obtain ⟨x, hx⟩ : ∃ x, A k = x := ⟨_, rfl⟩
      rw [hx] at a0 a1 a2 a3 a4 b0 b1 b2 b3 b4
      have hlt' : (k : Int) < (len : Int) := by omega
      clear h1 h2 hx
      go_wp2
      go_quiet (fail)
      go_wp2
      exact ⟨⟨k + 1, _, by omega, by go_num, rfl⟩, by simp only [intOf]; omega⟩
    · go_wp2
      go_ret
      exact ⟨rfl, n, rfl⟩
set_option maxHeartbeats 1000000 in
theorem sameT_none (a1 a2 : Option Addr) (c1 c2 : Nat) (w : World) :
    Calls Tryd.prog 12 #[.slice a1 0 c1, .slice a2 0 c2] w fun e w' => e = .returned (.bool true) ∧ ∃ n, w' = w.drewN n := by
  go_enter Tryd.func12, Tryd.ntmps12
  go_wp2
  refine wp_loop_rounds 1 ?_
  rw [rounds_succ]
  go_wp2
  go_ret
  exact ⟨rfl, 0, rfl⟩
theorem tkF_at (A : Nat → Tk) (i : Nat) : tkF A (i * 5) = .int .u8 (A i).k ∧ tkF A (i * 5 + 1) = .string (A i).x ∧ tkF A (i * 5 + 2) = .int .u8 (A i).ty ∧ tkF A (i * 5 + 3) = .int .i64 (A i).n ∧ tkF A (i * 5 + 4) = .int .i64 (A i).p := by
  unfold tkF
  refine ⟨?_, ?_, ?_, ?_, ?_⟩
  · rw [if_pos (by omega), show i * 5 / 5 = i by omega]
  · rw [if_neg (by omega), if_pos (by omega), show (i * 5 + 1) / 5 = i by omega]
  · rw [if_neg (by omega), if_neg (by omega), if_pos (by omega), show (i * 5 + 2) / 5 = i by omega]
  · rw [if_neg (by omega), if_neg (by omega), if_neg (by omega), if_pos (by omega), show (i * 5 + 3) / 5 = i by omega]
  · rw [if_neg (by omega), if_neg (by omega), if_neg (by omega), if_neg (by omega), show (i * 5 + 4) / 5 = i by omega]
/-- A list of tokens as it lies: nothing, or a block's cells. -/
theorem RowL.lies {w : World} {v : Value} {L : List Tk} (h : RowL w v L) : (v = .slice none 0 0 ∧ L.length = 0) ∨ ∃ g cap, v = .slice (some ⟨g, 0, none⟩) L.length cap ∧ ∀ j, j < L.length → TkAt w g (0 + j * 5) (lsF L j) := by
  have h' := h
  rcases h.2 with ⟨rfl, e⟩ | ⟨g, cap, cur, rfl, _⟩
  · left
    exact ⟨rfl, by simpa using e⟩
  · right
    refine ⟨g, cap, rfl, fun j hj => ?_⟩
    obtain ⟨e0, e1, e2, e3, e4⟩ := tkF_at (lsF L) j
    rw [Nat.zero_add]
    exact ⟨by rw [Row.cell h' (by omega), e0], by rw [Row.cell h' (by omega), e1], by rw [Row.cell h' (by omega), e2], by rw [Row.cell h' (by omega), e3], by rw [Row.cell h' (by omega), e4]⟩
theorem sameL_any {w : World} {v1 v2 : Value} {L : List Tk} (h1 : RowL w v1 L) (h2 : RowL w v2 L) (hl : L.length ≤ 1099511627776) :
    Calls Tryd.prog 12 #[v1, v2] w fun e w' => e = .returned (.bool true) ∧ ∃ n, w' = w.drewN n := by
  rcases h1.lies with ⟨rfl, e1⟩ | ⟨g1, c1, rfl, k1⟩
  · rcases h2.lies with ⟨rfl, e2⟩ | ⟨g2, c2, rfl, k2⟩
    · exact sameT_none _ _ _ _ w
    · rw [e1]; exact sameT_none _ _ _ _ w
  · rcases h2.lies with ⟨rfl, e2⟩ | ⟨g2, c2, rfl, k2⟩
    · rw [e2]; exact sameT_none _ _ _ _ w
    · exact sameT_any g1 0 c1 g2 0 c2 L.length (lsF L) w hl k1 k2
end Go.Proofs.YtelanneckjgnbaaDoor
