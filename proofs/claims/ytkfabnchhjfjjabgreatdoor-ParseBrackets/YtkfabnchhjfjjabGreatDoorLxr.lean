/-
  Plain facts of a token that is right: where it stands, and that it stays within the text.
-/
import Derived.Test.YtkfabnchhjfjjabGreatDoorLx1
namespace Go.Proofs.YtkfabnchhjfjjabGreatDoor
open Go.RowKit

theorem nmS_len : ∀ (l : List UInt8) (n k n' k' : Nat), nmS l n k = some (n', k') → k ≤ k' ∧ k' ≤ k + l.length ∧ (hdB digB l = true → k < k')
  | [], n, k, n', k', h => by
    simp only [nmS, Option.some.injEq, Prod.mk.injEq] at h
    obtain ⟨_, rfl⟩ := h
    exact ⟨Nat.le_refl _, Nat.le_add_right _ _, fun h => by simp [hdB] at h⟩
  | c :: l, n, k, n', k', h => by
    unfold nmS at h
    by_cases hg : digB c = true
    · rw [if_pos hg] at h
      by_cases hn : n > 922337203685477580
      · rw [if_pos hn] at h; exact absurd h (by simp)
      · rw [if_neg hn] at h
        have := nmS_len l _ _ _ _ h
        refine ⟨by omega, by simp only [List.length_cons]; omega, fun _ => by omega⟩
    · rw [if_neg hg] at h
      simp only [Option.some.injEq, Prod.mk.injEq] at h
      obtain ⟨_, rfl⟩ := h
      exact ⟨Nat.le_refl _, Nat.le_add_right _ _, fun h => absurd h hg⟩
theorem let_go {c : UInt8} (h : letB c = true) : goB c = true := by
  unfold goB; simp [h]
theorem lead_pos {p : UInt8 → Bool} {l : List UInt8} (h : hdB p l = true) : 0 < lead p l := by
  cases l with
  | nil => simp [hdB] at h
  | cons c l => unfold lead; rw [if_pos (show p c = true from h)]; omega
theorem hd_go {l : List UInt8} (h : hdB letB l = true) : hdB goB l = true := by
  cases l with
  | nil => simp [hdB] at h
  | cons c l => exact let_go h
theorem ext_size (s : ByteArray) (a b : Nat) (h : b ≤ s.size) : (s.extract a b).size = b - a := by
  rw [ByteArray.size_extract]; omega
theorem mk_pos (i : Nat) (h : i < 23) : 0 < (mk i).size := by
  have : ∀ x ∈ marksL, 0 < x.size := by decide
  have hl : i < marksL.length := h
  unfold mk
  rw [List.getD_eq_getElem?_getD, List.getElem?_eq_getElem hl]
  exact this _ (List.getElem_mem hl)
theorem nbTy_nil {s : ByteArray} {a : Nat} (h : ¬ nbTy (rest s a) = 1) : a < s.size := by
  by_cases ha : a < s.size
  · exact ha
  · exfalso
    apply h
    have : rest s a = [] := by
      apply List.eq_nil_of_length_eq_zero
      rw [rest_len]; omega
    rw [this]; rfl
/-- A right token: its place, and its end. -/
theorem one_fine (s : ByteArray) (f : Nat) (hf : f ≤ s.size) (h : oneE s f = 0) :
    (oneT s f).p = (oneP s f : Nat) ∧ f ≤ oneP s f ∧ oneP s f + (oneT s f).x.size ≤ s.size ∧ ((oneT s f).k ≠ 0 → 0 < (oneT s f).x.size) := by
  have hP := oneP_le s f hf
  have hfP : f ≤ oneP s f := by unfold oneP; omega
  unfold oneE at h
  unfold oneT
  generalize oneP s f = d at *
  by_cases h0 : d = s.size
  · rw [if_pos h0]
    exact ⟨rfl, hfP, (show d + 0 ≤ s.size from hP), fun h => absurd rfl h⟩
  rw [if_neg h0] at h ⊢
  by_cases hl : hdB letB (rest s d) = true
  · rw [if_pos hl] at h ⊢
    unfold nmE at h
    unfold nmT
    by_cases hk : lead goB (rest s d) > 16
    · rw [if_pos hk] at h; exact absurd h (by decide)
    · rw [if_neg hk]
      have hL := lead_le goB (rest s d)
      rw [rest_len] at hL
      have h1 := lead_pos (hd_go hl)
      have e := ext_size s d (d + lead goB (rest s d)) (by omega)
      refine ⟨rfl, hfP, ?_, fun _ => ?_⟩
      · show d + (s.extract d _).size ≤ _
        rw [e]; omega
      · show 0 < (s.extract d _).size
        rw [e]; omega
  rw [if_neg hl] at h ⊢
  by_cases hg : hdB digB (rest s d) = true
  · rw [if_pos hg] at h ⊢
    unfold nbE at h
    unfold nbT
    cases ho : nbO s d with
    | none => rw [ho] at h; exact absurd h (by decide)
    | some q =>
      obtain ⟨n, e, ty⟩ := q
      have he : d < e ∧ e ≤ s.size := by
        unfold nbO at ho
        cases hm : nmS (rest s d) 0 0 with
        | none => rw [hm] at ho; exact absurd ho (by simp)
        | some q =>
          obtain ⟨n2, k2⟩ := q
          have := nmS_len _ _ _ _ _ hm
          rw [rest_len] at this
          have h3 := this.2.2 hg
          rw [hm] at ho
          simp only at ho
          obtain ⟨E, hE⟩ : ∃ E, (if nbTy (rest s (d + k2)) = 1 then d + k2 else d + k2 + 1) = E := ⟨_, rfl⟩
          rw [hE] at ho
          have hE2 : d < E ∧ E ≤ s.size := by
            by_cases ht : nbTy (rest s (d + k2)) = 1
            · rw [if_pos ht] at hE; omega
            · rw [if_neg ht] at hE
              have := nbTy_nil ht
              omega
          split at ho
          · exact absurd ho (by simp)
          · split at ho
            · exact absurd ho (by simp)
            · simp only [Option.some.injEq, Prod.mk.injEq] at ho
              obtain ⟨_, ho, _⟩ := ho
              rw [← ho]; exact hE2
      have ee := ext_size s d e he.2
      refine ⟨rfl, hfP, ?_, fun _ => ?_⟩
      · show d + (s.extract d _).size ≤ _
        rw [ee]; omega
      · show 0 < (s.extract d _).size
        rw [ee]; omega
  rw [if_neg hg] at h ⊢
  unfold mkE at h
  unfold mkT
  cases ho : mkO s d with
  | none => rw [ho] at h; exact absurd h (by decide)
  | some i =>
    unfold mkO at ho
    rw [List.find?_range_eq_some] at ho
    obtain ⟨hm, hi, _⟩ := ho
    have hi' : i < 23 := by simpa using hi
    unfold mkB at hm
    rw [Bool.and_eq_true] at hm
    exact ⟨rfl, hfP, of_decide_eq_true hm.1, fun _ => mk_pos i hi'⟩
end Go.Proofs.YtkfabnchhjfjjabGreatDoor
