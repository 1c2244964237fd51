/-
  What is read, printed again: the text, but for noughts behind it and the sign of a nought. Plain mathematics.
-/
import Derived.Test.YtkbadigpagijjaaDoorAgain
import Derived.Test.YtkbadigpagijjaaDoorAt
namespace Go.Proofs.YtkbadigpagijjaaDoor
open Go.Lib

/-- Noughts, perhaps behind a point. -/
def ExtOk (ext : List UInt8) : Prop := ∀ (i : Nat) (c : UInt8), ext[i]? = some c → c = 48 ∨ (c = 46 ∧ i = 0)
theorem ext_zeros (k : Nat) : ExtOk (List.replicate k 48) := fun i c h => by
  left
  rw [List.getElem?_replicate] at h
  split at h
  · exact (Option.some.inj h).symm
  · cases h
theorem ext_point (k : Nat) : ExtOk (46 :: List.replicate k 48) := fun i c h => by
  cases i with
  | zero => right; exact ⟨(Option.some.inj h).symm, rfl⟩
  | succ i =>
    rw [List.getElem?_cons_succ] at h
    rcases ext_zeros k i c h with e | ⟨e, _⟩
    · exact Or.inl e
    · exfalso
      have := ext_zeros k i c h
      rw [List.getElem?_replicate] at h
      split at h
      · rw [e] at h; revert h; decide
      · cases h
theorem decN_zeros (k : Nat) : decN (List.replicate k (48 : UInt8)) = 0 := by
  induction k with
  | zero => rfl
  | succ k ih => rw [List.replicate_succ, decN_cons, ih]; simp

theorem back_text {l : List UInt8} {p : Nat} (hform : formB l p = true) (hok : worthB l p = true) :
    ∃ r ext, (worthN l p = 0 ∧ l.head? = some 45 → l = 45 :: r) ∧ (¬ (worthN l p = 0 ∧ l.head? = some 45) → l = r) ∧ printL (worthN l p) p = r ++ ext ∧ ExtOk ext ∧ fitB (worthN l p) = true := by
  obtain ⟨neg, ws, fs, rfl, hw, hf, hl⟩ := right_shape hform
  have ew := worth_right neg ws fs p hw.1 hf hl
  have hv : fitB (sv neg (magM ws fs p)) = true := by
    have : worthB (sg neg ++ (ws ++ tl fs)) p = fitB (sv neg (magM ws fs p)) := by unfold worthB; rw [ew]
    rw [← this]; exact hok
  obtain ⟨x, ex⟩ : ∃ x, x = worthN (sg neg ++ (ws ++ tl fs)) p := ⟨_, rfl⟩
  have ex2 : x = sv neg (magM ws fs p) := by rw [ex]; unfold worthN; rw [ew]; exact fitN_true hv
  rw [← ex]
  have hM : x.natAbs = magM ws fs p := by
    rw [ex2]; cases neg
    · rw [sv_f]; omega
    · rw [sv_t]; omega
  obtain ⟨gs, eg⟩ : ∃ gs, gs = fs ++ List.replicate (p - fs.length) 48 := ⟨_, rfl⟩
  have hgl : gs.length = p := by rw [eg, List.length_append, List.length_replicate]; omega
  have hgd : Digs gs := by rw [eg]; exact hf.app fun c hc => by rw [(List.mem_replicate.1 hc).2]; exact dig48
  have hgm : decN (ws ++ gs) = x.natAbs := by
    rw [hM, eg, ← List.append_assoc, decN_app, decN_zeros, List.length_replicate]; rfl
  have hpad := pad_whole hw hgd hgl
  rw [hgm] at hpad
  have hhead : ((sg neg ++ (ws ++ tl fs)).head? = some 45) ↔ neg = true := by
    cases neg
    · refine ⟨fun e => ?_, fun e => by cases e⟩
      obtain ⟨hd, hne, _⟩ := hw
      cases ws with
      | nil => exact absurd rfl hne
      | cons c ws =>
        have : c = 45 := by simpa [sg] using e
        exact absurd this (dig_ne hd.head).1
    · exact ⟨fun _ => rfl, fun _ => rfl⟩
  have hl2 : ¬ (x = 0 ∧ (sg neg ++ (ws ++ tl fs)).head? = some 45) → neg = ngB x := by
    intro h
    rw [hhead] at h
    unfold ngB
    cases neg
    · rw [sv_f] at ex2; exact (decide_eq_false (by omega)).symm
    · rw [sv_t] at ex2
      have : x ≠ 0 := fun e => h ⟨e, rfl⟩
      exact (decide_eq_true (by omega)).symm
  have hl1 : x = 0 ∧ (sg neg ++ (ws ++ tl fs)).head? = some 45 → sg neg ++ (ws ++ tl fs) = 45 :: (sg (ngB x) ++ (ws ++ tl fs)) := by
    rintro ⟨h0, h45⟩
    rw [hhead.1 h45, h0]; rfl
  have hpr : p ≠ 0 → printL x p = sg (ngB x) ++ (ws ++ 46 :: gs) := by
    intro hp
    rw [sg_ng]
    unfold printL
    rw [if_neg hp, hpad, pointed_app ws gs hgl]
  have hfitx : fitB x = true := by rw [ex2]; exact hv
  refine ⟨sg (ngB x) ++ (ws ++ tl fs), if p = 0 then [] else if fs = [] then 46 :: List.replicate p 48 else List.replicate (p - fs.length) 48, hl1, fun h => by rw [← hl2 h], ?_, ?_, hfitx⟩
  · by_cases hp : p = 0
    · have hfs : fs = [] := List.eq_nil_of_length_eq_zero (by omega)
      have hgs : gs = [] := List.eq_nil_of_length_eq_zero (by omega)
      rw [if_pos hp, hp, printL_0, hfs, tl_nil, List.append_nil, List.append_nil]
      rw [hgs, List.append_nil] at hgm
      have hdw := dec_whole _ ws rfl hw
      rw [hgm] at hdw
      rw [sg_ng]
      by_cases h : x < 0
      · rw [itoa_n h, if_pos h, hdw]; rfl
      · rw [itoa_p h, if_neg h, hdw]; rfl
    · rw [if_neg hp, hpr hp]
      by_cases hfs : fs = []
      · rw [if_pos hfs, eg, hfs, tl_nil]; simp
      · rw [if_neg hfs, eg, tl_some hfs]; simp
  · by_cases hp : p = 0
    · rw [if_pos hp]; intro i c h; simp at h
    · rw [if_neg hp]
      by_cases hfs : fs = []
      · rw [if_pos hfs]; exact ext_point p
      · rw [if_neg hfs]; exact ext_zeros _
end Go.Proofs.YtkbadigpagijjaaDoor
