/-
  Two lists of the same tokens are the same.
-/
import Derived.Test.YtelanneckjgnbabDoorLxa
namespace Go.Proofs.YtelanneckjgnbabDoor
open Go.RowKit

structure TkAt (w : World) (b o : Nat) (f : Tk) : Prop where
  c0 : w.cell? ⟨b, o, none⟩ = some (.int .u8 f.k)
  c1 : w.cell? ⟨b, o + 1, none⟩ = some (.string f.x)
  c2 : w.cell? ⟨b, o + 2, none⟩ = some (.int .u8 f.ty)
  c3 : w.cell? ⟨b, o + 3, none⟩ = some (.int .i64 f.n)
  c4 : w.cell? ⟨b, o + 4, none⟩ = some (.int .i64 f.p)
theorem tkF_at (A : Nat → Tk) (i : Nat) : tkF A (i * 5) = .int .u8 (A i).k ∧ tkF A (i * 5 + 1) = .string (A i).x ∧ tkF A (i * 5 + 2) = .int .u8 (A i).ty ∧ tkF A (i * 5 + 3) = .int .i64 (A i).n ∧ tkF A (i * 5 + 4) = .int .i64 (A i).p := by
  unfold tkF
  refine ⟨?_, ?_, ?_, ?_, ?_⟩
  · rw [if_pos (by omega), show i * 5 / 5 = i by omega]
  · rw [if_neg (by omega), if_pos (by omega), show (i * 5 + 1) / 5 = i by omega]
  · rw [if_neg (by omega), if_neg (by omega), if_pos (by omega), show (i * 5 + 2) / 5 = i by omega]
  · rw [if_neg (by omega), if_neg (by omega), if_neg (by omega), if_pos (by omega), show (i * 5 + 3) / 5 = i by omega]
  · rw [if_neg (by omega), if_neg (by omega), if_neg (by omega), if_neg (by omega), show (i * 5 + 4) / 5 = i by omega]
/-- A list of tokens as it lies: nothing, or a block's cells. -/
theorem RowL.lies {w : World} {v : Value} {L : List Tk} (h : RowL w v L) : (v = .slice none 0 0 ∧ L.length = 0) ∨ ∃ g cap, v = .slice (some ⟨g, 0, none⟩) L.length cap ∧ ∀ j, j < L.length → TkAt w g (0 + j * 5) (lsF L j) := by
  have h' := h
  rcases h.2 with ⟨rfl, e⟩ | ⟨g, cap, cur, rfl, _⟩
  · left
    exact ⟨rfl, by simpa using e⟩
  · right
    refine ⟨g, cap, rfl, fun j hj => ?_⟩
    obtain ⟨e0, e1, e2, e3, e4⟩ := tkF_at (lsF L) j
    rw [Nat.zero_add]
    exact ⟨by rw [Row.cell h' (by omega), e0], by rw [Row.cell h' (by omega), e1], by rw [Row.cell h' (by omega), e2], by rw [Row.cell h' (by omega), e3], by rw [Row.cell h' (by omega), e4]⟩
end Go.Proofs.YtelanneckjgnbabDoor
