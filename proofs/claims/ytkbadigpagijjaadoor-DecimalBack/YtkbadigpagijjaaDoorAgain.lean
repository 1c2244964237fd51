/-
  What is printed, read again: with the same places, one more, one less. Plain mathematics.
-/
import Derived.Test.YtkbadigpagijjaaDoorRound
namespace Go.Proofs.YtkbadigpagijjaaDoor
open Go.Lib

theorem printL_len (n : Int) (p : Nat) (h0 : -9223372036854775808 ≤ n) (h1 : n ≤ 9223372036854775807) (hp : p ≤ 9) : (printL n p).length ≤ 40 := by
  have hd := digits_len n h0 h1
  unfold printL
  split
  · by_cases h : n < 0
    · rw [itoa_n h, List.length_cons]; omega
    · rw [itoa_p h]; omega
  · rw [List.length_append]
    have e : (pointed p (padD p (decDigits n.natAbs))).length = (padD p (decDigits n.natAbs)).length + 1 := by
      unfold pointed
      rw [List.length_append, List.length_cons, List.length_take, List.length_drop]; omega
    rw [e, padD_len]
    have : (if n < 0 then [45] else ([] : List UInt8)).length ≤ 1 := by split <;> simp
    omega

/-- Parse of a right text, by its parts. -/
theorem par_parts {neg : Bool} {ws fs : List UInt8} {p : Nat} (hp : p ≤ 9) (hw : Whole ws) (hf : Digs fs) (hl : fs.length ≤ p) :
    parN (sg neg ++ (ws ++ tl fs)) p = fitN (sv neg (magM ws fs p)) ∧ parE (sg neg ++ (ws ++ tl fs)) p = (if fitB (sv neg (magM ws fs p)) = true then 0 else 21) ∧ parA (sg neg ++ (ws ++ tl fs)) p = 0 := by
  have hpl := plB_true (p := (p : Int)) (by omega) (by omega)
  have hform := form_right (neg := neg) hw hf hl
  have ew := worth_right neg ws fs p hw.1 hf hl
  cases hv : fitB (sv neg (magM ws fs p))
  · have := par_range (l := sg neg ++ (ws ++ tl fs)) hpl hform (by show worthB _ p = false; unfold worthB; rw [ew]; exact hv)
    rw [fitN_false hv]
    exact ⟨this.1, this.2.1, this.2.2⟩
  · have := par_ok (l := sg neg ++ (ws ++ tl fs)) hpl hform (by show worthB _ p = true; unfold worthB; rw [ew]; exact hv)
    refine ⟨?_, this.2.1, this.2.2⟩
    rw [this.1]
    show worthN _ p = _
    unfold worthN
    rw [ew]

theorem print_again (n : Int) (p : Nat) (hp : p ≤ 9) (h0 : -9223372036854775808 ≤ n) (h1 : n ≤ 9223372036854775807) : parN (printL n p) p = n ∧ parE (printL n p) p = 0 ∧ parA (printL n p) p = 0 := by
  obtain ⟨ws, fs, e, hw, hf, hl, hn⟩ := print_shape n p
  rw [e]
  have := par_parts (neg := ngB n) hp hw hf (by omega)
  have em : sv (ngB n) (magM ws fs p) = n := by
    unfold magM
    rw [hn, hl, Nat.sub_self, Nat.pow_zero, Nat.mul_one, sv_ng]
  rw [em] at this
  have hfit : fitB n = true := fitB_true h0 h1
  rw [fitN_true hfit, hfit, if_pos rfl] at this
  exact this

theorem print_more (n : Int) (p : Nat) (hp : p + 1 ≤ 9) : parN (printL n p) ((p + 1 : Nat) : Int) = fitN (n * 10) ∧ parE (printL n p) ((p + 1 : Nat) : Int) = (if fitB (n * 10) = true then 0 else 21) ∧ parA (printL n p) ((p + 1 : Nat) : Int) = 0 := by
  obtain ⟨ws, fs, e, hw, hf, hl, hn⟩ := print_shape n p
  rw [e]
  have := par_parts (neg := ngB n) hp hw hf (by omega)
  have em : sv (ngB n) (magM ws fs (p + 1)) = n * 10 := by
    unfold magM
    rw [hn, hl, show p + 1 - p = 1 by omega, Nat.pow_one, ← ten_sv, sv_ng]
  rw [em] at this
  exact this

theorem print_less (n : Int) (p : Nat) (h1 : 1 ≤ p) (hp : p ≤ 9) : parE (printL n p) ((p - 1 : Nat) : Int) = 20 ∧ parA (printL n p) ((p - 1 : Nat) : Int) + (if p = 1 then 2 else 1) = (printL n p).length := by
  obtain ⟨ws, fs, e, hw, hf, hl, hn⟩ := print_shape n p
  rw [e]
  have hpl := plB_true (p := ((p - 1 : Nat) : Int)) (by omega) (by omega)
  have hne : fs ≠ [] := by intro h; rw [h] at hl; simp at hl; omega
  rw [tl_some hne]
  have en : (((p - 1 : Nat) : Int)).toNat = p - 1 := by omega
  by_cases hp1 : p = 1
  · have hF := form_s (neg := ngB n) (p := p - 1) hw (rest := 46 :: fs) (Or.inr (NoDig.cons (by decide))) (by simp) (Or.inr (by omega))
    have := par_form (l := sg (ngB n) ++ (ws ++ 46 :: fs)) hpl (by rw [en]; exact hF.2)
    refine ⟨this.2.1, ?_⟩
    rw [this.2.2, en, hF.1, if_pos hp1]
    simp only [List.length_append, List.length_cons]; omega
  · have hF := form_p (neg := ngB n) (r := fs) (p := p - 1) hw (by omega)
    have hc := run_cut fs [] (p - 1) hf (by omega)
    rw [List.append_nil] at hc
    rw [hc] at hF
    have := par_form (l := sg (ngB n) ++ (ws ++ 46 :: fs)) hpl (by rw [en, hF.2]; exact decide_eq_false (by omega))
    refine ⟨this.2.1, ?_⟩
    rw [this.2.2, en, hF.1, if_neg hp1]
    simp only [List.length_append, List.length_cons]; omega
theorem print_len2 (n : Int) (p : Nat) (h1 : 1 ≤ p) : 3 ≤ (printL n p).length := by
  obtain ⟨ws, fs, e, hw, hf, hl, hn⟩ := print_shape n p
  have h0 : 0 < ws.length := List.length_pos_iff.2 hw.2.1
  have hne : fs ≠ [] := by intro h; rw [h] at hl; simp at hl; omega
  rw [e, tl_some hne]
  simp only [List.length_append, List.length_cons]; omega
end Go.Proofs.YtkbadigpagijjaaDoor
