/-
  Plain: the tokens that All goes through.
-/
import Derived.Test.YtelanneckjgnbaaDoorJp
namespace Go.Proofs.YtelanneckjgnbaaDoor
open Go.RowKit

/-- The tokens from a place on, ahead of the end, or of what is wrong. -/
def allF (s : ByteArray) (f : Nat) : List Tk := if (begO s f).2.1 = 0 then (begO s f).1.dropLast else (begO s f).1
def allL (s : ByteArray) : List Tk := if s.size > 4096 then [] else allF s 0
theorem all_bad {s : ByteArray} {f : Nat} (h : oneE s f ≠ 0) : allF s f = [] := by unfold allF; rw [beg_bad h]; simp [h]
theorem all_end {s : ByteArray} {f : Nat} (h : oneE s f = 0) (hk : (oneT s f).k = 0) : allF s f = [] := by unfold allF; rw [beg_end h hk]; simp
theorem all_more {s : ByteArray} {f : Nat} (hf : f ≤ s.size) (h : oneE s f = 0) (hk : ¬ (oneT s f).k = 0) : f < oneQ s f ∧ oneQ s f ≤ s.size ∧ (oneT s f).p + ((oneT s f).x.size : Int) = (oneQ s f : Nat) ∧ allF s f = oneT s f :: allF s (oneQ s f) := by
  obtain ⟨b1, b2, b3, b4⟩ := beg_more hf h hk
  refine ⟨b1, b2, b3, ?_⟩
  unfold allF
  rw [b4]
  simp only
  by_cases e : (begO s (oneQ s f)).2.1 = 0
  · rw [if_pos e, if_pos e]
    have hl := (beg_chain _ _ (Nat.le_refl _) b2 e).1.len
    rw [List.dropLast_cons_of_ne_nil (List.length_pos_iff.1 hl)]
  · rw [if_neg e, if_neg e]
theorem beg_kinds {s : ByteArray} : ∀ (d f : Nat), s.size - f ≤ d → f ≤ s.size → (begO s f).2.1 ≠ 0 → ∀ t ∈ (begO s f).1, t.k ≠ 0 := by
  intro d
  induction d with
  | zero =>
    intro f hd hf h t ht
    by_cases hE : oneE s f = 0
    · by_cases hk : (oneT s f).k = 0
      · rw [beg_end hE hk] at h; exact absurd rfl h
      · have := beg_more hf hE hk; omega
    · rw [beg_bad hE] at ht; simp at ht
  | succ d ih =>
    intro f hd hf h t ht
    by_cases hE : oneE s f = 0
    · by_cases hk : (oneT s f).k = 0
      · rw [beg_end hE hk] at h; exact absurd rfl h
      · obtain ⟨b1, b2, _, b4⟩ := beg_more hf hE hk
        rw [b4] at h ht
        rw [List.mem_cons] at ht
        rcases ht with rfl | ht
        · exact hk
        · exact ih _ (by omega) b2 h t ht
    · rw [beg_bad hE] at ht; simp at ht
/-- What the statement makes of the document's list. -/
theorem all_want (s : ByteArray) : ((begO s 0).1 = [] ∧ allF s 0 = []) ∨ (0 < (begO s 0).1.length ∧ (lsF (begO s 0).1 ((begO s 0).1.length - 1)).k = 0 ∧ allF s 0 = (begO s 0).1.dropLast) ∨ (0 < (begO s 0).1.length ∧ (lsF (begO s 0).1 ((begO s 0).1.length - 1)).k ≠ 0 ∧ allF s 0 = (begO s 0).1) := by
  by_cases e : (begO s 0).2.1 = 0
  · have hc := (beg_chain (s := s) s.size 0 (by omega) (by omega) e).1
    refine .inr (.inl ⟨hc.len, ?_, by unfold allF; rw [if_pos e]⟩)
    obtain ⟨K, hK⟩ := last_end hc
    rw [hK]
    unfold lsF
    simp
  · by_cases hl : (begO s 0).1 = []
    · exact .inl ⟨hl, by unfold allF; rw [if_neg e, hl]⟩
    · have hp := List.length_pos_iff.2 hl
      refine .inr (.inr ⟨hp, beg_kinds _ 0 (Nat.le_refl _) (by omega) e _ (lsF_mem (by omega)), by unfold allF; rw [if_neg e]⟩)
theorem beg_len {s : ByteArray} : ∀ (d f : Nat), s.size - f ≤ d → f ≤ s.size → (begO s f).1.length ≤ s.size - f + 1 := by
  intro d
  induction d with
  | zero =>
    intro f hd hf
    by_cases hE : oneE s f = 0
    · by_cases hk : (oneT s f).k = 0
      · rw [beg_end hE hk]; simp
      · have := beg_more hf hE hk; omega
    · rw [beg_bad hE]; simp
  | succ d ih =>
    intro f hd hf
    by_cases hE : oneE s f = 0
    · by_cases hk : (oneT s f).k = 0
      · rw [beg_end hE hk]; simp
      · obtain ⟨b1, b2, _, b4⟩ := beg_more hf hE hk
        rw [b4]
        have := ih _ (by omega) b2
        simp only [List.length_cons]
        omega
    · rw [beg_bad hE]; simp
theorem allL_len (s : ByteArray) : (allL s).length ≤ s.size := by
  unfold allL
  split
  · simp
  · have h := beg_len (s := s) s.size 0 (by omega) (by omega)
    rcases all_want s with ⟨h1, h2⟩ | ⟨h1, h2, h3⟩ | ⟨h1, h2, h3⟩
    · rw [h2]; simp
    · rw [h3, List.length_dropLast]; omega
    · rw [h3]
      by_cases e : (begO s 0).2.1 = 0
      · exfalso
        have hc := (beg_chain (s := s) s.size 0 (by omega) (by omega) e).1
        obtain ⟨K, hK⟩ := last_end hc
        rw [hK] at h2
        unfold lsF at h2
        simp at h2
      · have hb : ∀ (d f : Nat), s.size - f ≤ d → f ≤ s.size → (begO s f).2.1 ≠ 0 → (begO s f).1.length ≤ s.size - f := by
          intro d
          induction d with
          | zero =>
            intro f hd hf he
            by_cases hE : oneE s f = 0
            · by_cases hk : (oneT s f).k = 0
              · rw [beg_end hE hk] at he; exact absurd rfl he
              · have := beg_more hf hE hk; omega
            · rw [beg_bad hE]; simp
          | succ d ih =>
            intro f hd hf he
            by_cases hE : oneE s f = 0
            · by_cases hk : (oneT s f).k = 0
              · rw [beg_end hE hk] at he; exact absurd rfl he
              · obtain ⟨b1, b2, _, b4⟩ := beg_more hf hE hk
                rw [b4] at he ⊢
                have := ih _ (by omega) b2 he
                simp only [List.length_cons]
                omega
            · rw [beg_bad hE]; simp
        have := hb s.size 0 (by omega) (by omega) e
        omega
end Go.Proofs.YtelanneckjgnbaaDoor
