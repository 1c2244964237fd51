/-
  Plain: what LexPieces asks of each token.
-/
import Derived.Test.YtelanneckjgnbaaDoorJp
namespace Go.Proofs.YtelanneckjgnbaaDoor
open Go.RowKit

theorem drop_lsF {L : List Tk} {i : Nat} (h : i < L.length) : L.drop i = lsF L i :: L.drop (i + 1) := by
  rw [List.drop_eq_getElem_cons h]
  unfold lsF
  simp [List.getD, h]
/-- The token at a place of the list, and what stands behind it. -/
theorem chain_at {s : ByteArray} {f i : Nat} {L : List Tk} (h : Chain s f (L.drop i)) (hi : i < L.length) :
    f ≤ s.size ∧ ∃ p : Nat, (lsF L i).p = (p : Nat) ∧ f ≤ p ∧ p + (lsF L i).x.size ≤ s.size ∧ s.extract p (p + (lsF L i).x.size) = (lsF L i).x ∧ ov (rest (s.extract f p) 0) false = (s.extract f p).size ∧
      ((i + 1 = L.length ∧ lsF L i = ⟨0, ⟨#[]⟩, 0, 0, p⟩ ∧ p = s.size) ∨ (i + 1 < L.length ∧ Good (lsF L i) ∧ Chain s (p + (lsF L i).x.size) (L.drop (i + 1)))) := by
  rw [drop_lsF hi] at h
  have hgap : ov (rest (s.extract f (oneP s f)) 0) false = (s.extract f (oneP s f)).size := by
    have := gap_free (s := s) (f := f)
    have e : rest (s.extract f (oneP s f)) 0 = (s.extract f (oneP s f)).data.toList := by unfold rest; simp
    rw [e]; exact this
  generalize ht : lsF L i = t at h
  generalize hr : L.drop (i + 1) = R at h
  cases h with
  | fin _ h1 h2 =>
    rw [h2] at hgap
    refine ⟨h1, s.size, rfl, h1, Nat.le_refl _, ?_, hgap, Or.inl ⟨?_, rfl, rfl⟩⟩
    · show s.extract s.size (s.size + 0) = _
      rw [ext_eq, rest_end s s.size (Nat.le_refl _)]; rfl
    · have := congrArg List.length hr
      rw [List.length_drop] at this
      simp at this
      omega
  | more _ p _ _ hg hp h1 h2 h3 h4 h5 =>
    rw [h4] at hgap
    refine ⟨by omega, p, hp, h1, h2, h3, hgap, Or.inr ⟨?_, hg, h5⟩⟩
    have := h5.len
    rw [← hr, List.length_drop] at this
    omega
theorem tks_alone {t : Tk} (h : Good t) (hs : t.x.size ≤ 4096) : tksE t.x = 0 ∧ tksL t.x = [⟨t.k, t.x, t.ty, t.n, 0⟩, ⟨0, ⟨#[]⟩, 0, 0, t.x.size⟩] := by
  obtain ⟨a, b, _⟩ := tks_short (s := t.x) (by omega) (alone h)
  exact ⟨a, (b rfl).2⟩
theorem tks_none : tksE ⟨#[]⟩ = 0 ∧ tksL ⟨#[]⟩ = [⟨0, ⟨#[]⟩, 0, 0, 0⟩] := by
  obtain ⟨a, b, _⟩ := tks_short (s := ⟨#[]⟩) (by decide) alone_end
  exact ⟨a, (b rfl).2⟩
theorem size_seq {x : ByteArray} (h : 0 < x.size) : (x.toList == []) = false := by
  rw [ByteArray.toList_eq]
  apply beq_false_of_ne
  intro e
  have := len_of x
  rw [e] at this
  simp at this
  omega
end Go.Proofs.YtelanneckjgnbaaDoor
