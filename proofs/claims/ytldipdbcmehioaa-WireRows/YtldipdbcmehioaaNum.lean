/-
  Plain mathematics of layer 3 (wire): numbers as bytes, there and back. No model in this text.
-/
import Derived.WalkKit
namespace Go.Proofs.Ytldipdbcmehioaa

/-- A list of bytes as a text. -/
def bytes (l : List UInt8) : ByteArray := ⟨l.toArray⟩
theorem bytes_list (l : List UInt8) : (bytes l).data.toList = l := by simp [bytes]
theorem bytes_size (l : List UInt8) : (bytes l).size = l.length := by show l.toArray.size = _; simp
theorem ba_ext {a b : ByteArray} (h : a.data.toList = b.data.toList) : a = b := by cases a; cases b; simp_all
theorem list_bytes (s : ByteArray) : bytes s.data.toList = s := ba_ext (bytes_list _)
theorem bytes_inj {a b : List UInt8} (h : bytes a = bytes b) : a = b := by rw [← bytes_list a, h, bytes_list]
theorem bytes_app (a b : List UInt8) : bytes a ++ bytes b = bytes (a ++ b) := by apply ba_ext; simp [bytes]
theorem bytes_ext (l : List UInt8) (i j : Nat) : (bytes l).extract i j = bytes ((l.drop i).take (j - i)) := by
  apply ba_ext
  simp [bytes]
theorem len_of (s : ByteArray) : s.data.toList.length = s.size := by simp
theorem drop_at (s : ByteArray) (k : Nat) (h : k < s.size) : s.data.toList.drop k = s[k] :: s.data.toList.drop (k + 1) := by
  rw [List.drop_eq_getElem_cons (by simpa using h)]; rfl
theorem drop_end (s : ByteArray) (k : Nat) (h : s.size ≤ k) : s.data.toList.drop k = [] := List.drop_eq_nil_of_le (by simpa using h)
theorem take_at (s : ByteArray) (k : Nat) (h : k < s.size) : s.data.toList.take (k + 1) = s.data.toList.take k ++ [s[k]] := by
  rw [List.take_succ_eq_append_getElem (by simpa using h)]; rfl

/-- A number's bytes; at most k + 1 of them. -/
def putG : Nat → Nat → List UInt8
  | 0, n => [UInt8.ofNat n]
  | k + 1, n => if n < 128 then [UInt8.ofNat n] else UInt8.ofNat (n % 128 + 128) :: putG k (n / 128)
theorem putG_ir : ∀ k k' n, n ≤ k → n ≤ k' → putG k n = putG k' n
  | 0, 0, _, _, _ => rfl
  | 0, k' + 1, n, h, _ => by rw [putG, putG, if_pos (by omega)]
  | k + 1, 0, n, _, h => by rw [putG, putG, if_pos (by omega)]
  | k + 1, k' + 1, n, h, h' => by
    rw [putG, putG]
    split
    · rfl
    · rw [putG_ir k k' (n / 128) (by omega) (by omega)]
/-- A number as bytes. -/
def put1 (n : Nat) : List UInt8 := putG n n
theorem put1_small {n : Nat} (h : n < 128) : put1 n = [UInt8.ofNat n] := by
  unfold put1
  cases n with
  | zero => rfl
  | succ n => rw [putG, if_pos h]
theorem put1_step {n : Nat} (h : ¬ n < 128) : put1 n = UInt8.ofNat (n % 128 + 128) :: put1 (n / 128) := by
  unfold put1
  cases n with
  | zero => omega
  | succ n => rw [putG, if_neg h, putG_ir n ((n + 1) / 128) ((n + 1) / 128) (by omega) (Nat.le_refl _)]
theorem put1_pos (n : Nat) : 1 ≤ (put1 n).length := by
  by_cases h : n < 128
  · rw [put1_small h]; exact Nat.le_refl _
  · rw [put1_step h]; simp
theorem put1_len : ∀ k n, n < 128 ^ (k + 1) → (put1 n).length ≤ k + 1 := by
  intro k
  induction k with
  | zero => intro n h; rw [put1_small (by simpa using h)]; exact Nat.le_refl _
  | succ k ih =>
    intro n h
    by_cases hn : n < 128
    · rw [put1_small hn]; simp
    · rw [put1_step hn, List.length_cons]
      have := ih (n / 128) (by rw [Nat.pow_succ] at h; omega)
      omega
theorem put1_ten {n : Nat} (h : n < 18446744073709551616) : (put1 n).length ≤ 10 := put1_len 9 n (by omega)

/-- Numbers one behind the other. -/
def putL : List Nat → List UInt8
  | [] => []
  | n :: l => put1 n ++ putL l
theorem putL_append (a b : List Nat) : putL (a ++ b) = putL a ++ putL b := by
  induction a with
  | nil => rfl
  | cons n a ih => rw [List.cons_append, putL, putL, ih, List.append_assoc]
theorem putL_one (n : Nat) : putL [n] = put1 n := by rw [putL, putL, List.append_nil]
theorem putL_len (l : List Nat) (h : ∀ n ∈ l, n < 18446744073709551616) : (putL l).length ≤ 10 * l.length := by
  induction l with
  | nil => exact Nat.le_refl _
  | cons n l ih =>
    rw [putL, List.length_append, List.length_cons]
    have h1 := put1_ten (h n (List.mem_cons_self))
    have h2 := ih (fun m hm => h m (List.mem_cons_of_mem _ hm))
    omega

/-- What is read at the beginning, i bytes of the number being read already: an error (0: none), how many bytes, the number. -/
def tk : Nat → List UInt8 → Nat × Nat × Nat
  | i, [] => if i < 10 then (30, 0, 0) else (31, 0, 0)
  | i, c :: l =>
    if ¬ i < 10 then (31, 0, 0)
    else if c.toNat < 128 then
      if (i = 9 ∧ c.toNat ≠ 1) ∨ (c.toNat = 0 ∧ 0 < i) then (31, 0, 0) else (0, 1, c.toNat)
    else ((tk (i + 1) l).1, (tk (i + 1) l).2.1 + 1, c.toNat % 128 + 128 * (tk (i + 1) l).2.2)
theorem tk_nil {i : Nat} (h : i < 10) : tk i [] = (30, 0, 0) := by rw [tk, if_pos h]
theorem tk_ten {i : Nat} (h : ¬ i < 10) (l : List UInt8) : tk i l = (31, 0, 0) := by
  cases l with
  | nil => rw [tk, if_neg h]
  | cons c l => rw [tk, if_pos h]
theorem tk_more {i : Nat} {c : UInt8} (h : i < 10) (hc : ¬ c.toNat < 128) (l : List UInt8) :
    tk i (c :: l) = ((tk (i + 1) l).1, (tk (i + 1) l).2.1 + 1, c.toNat % 128 + 128 * (tk (i + 1) l).2.2) := by rw [tk, if_neg (by omega), if_neg hc]
theorem tk_bad {i : Nat} {c : UInt8} (h : i < 10) (hc : c.toNat < 128) (hb : (i = 9 ∧ c.toNat ≠ 1) ∨ (c.toNat = 0 ∧ 0 < i)) (l : List UInt8) : tk i (c :: l) = (31, 0, 0) := by
  rw [tk, if_neg (by omega), if_pos hc, if_pos hb]
theorem tk_end {i : Nat} {c : UInt8} (h : i < 10) (hc : c.toNat < 128) (hb : ¬ ((i = 9 ∧ c.toNat ≠ 1) ∨ (c.toNat = 0 ∧ 0 < i))) (l : List UInt8) : tk i (c :: l) = (0, 1, c.toNat) := by
  rw [tk, if_neg (by omega), if_pos hc, if_neg hb]
theorem tk_errs (l : List UInt8) : ∀ i, (tk i l).1 = 0 ∨ (tk i l).1 = 30 ∨ (tk i l).1 = 31 := by
  induction l with
  | nil =>
    intro i
    by_cases h : i < 10
    · rw [tk_nil h]; exact .inr (.inl rfl)
    · rw [tk_ten h]; exact .inr (.inr rfl)
  | cons c l ih =>
    intro i
    by_cases h : i < 10
    · by_cases hc : c.toNat < 128
      · by_cases hb : (i = 9 ∧ c.toNat ≠ 1) ∨ (c.toNat = 0 ∧ 0 < i)
        · rw [tk_bad h hc hb]; exact .inr (.inr rfl)
        · rw [tk_end h hc hb]; exact .inl rfl
      · rw [tk_more h hc]; exact ih (i + 1)
    · rw [tk_ten h]; exact .inr (.inr rfl)

theorem ofNat_small {m : Nat} (h : m < 256) : (UInt8.ofNat m).toNat = m := UInt8.toNat_ofNat_of_lt' h

/-- What is put is taken, whatever stands behind. -/
theorem tk_put : ∀ (k n i : Nat), n ≤ k → n * 128 ^ i < 18446744073709551616 → (0 < i → 0 < n) → ∀ rest, tk i (put1 n ++ rest) = (0, (put1 n).length, n) := by
  intro k
  induction k with
  | zero =>
    intro n i hk hb hp rest
    obtain rfl : n = 0 := by omega
    obtain rfl : i = 0 := by have := hp; omega
    rfl
  | succ k ih =>
    intro n i hk hb hp rest
    have hi : i < 10 := by
      apply Classical.byContradiction
      intro hc
      have h1 : 128 ^ 10 ≤ 128 ^ i := Nat.pow_le_pow_right (by omega) (by omega)
      have h2 : 1 * 128 ^ i ≤ n * 128 ^ i := Nat.mul_le_mul_right _ (hp (by omega))
      omega
    by_cases hn : n < 128
    · rw [put1_small hn]
      show tk i (UInt8.ofNat n :: rest) = _
      rw [tk_end hi (by rw [ofNat_small (by omega)]; exact hn), ofNat_small (by omega)]
      · rfl
      · rw [ofNat_small (by omega)]
        rintro (⟨h9, h1⟩ | ⟨h0, h1⟩)
        · subst h9
          have := hp (by omega)
          omega
        · have := hp h1; omega
    · rw [put1_step hn]
      show tk i (UInt8.ofNat (n % 128 + 128) :: (put1 (n / 128) ++ rest)) = _
      have hd : n / 128 * 128 ^ (i + 1) < 18446744073709551616 := by
        rw [Nat.pow_succ, Nat.mul_comm (128 ^ i) 128, ← Nat.mul_assoc]
        exact Nat.lt_of_le_of_lt (Nat.mul_le_mul_right _ (Nat.div_mul_le_self n 128)) hb
      have := ih (n / 128) (i + 1) (by omega) hd (fun _ => by omega) rest
      rw [tk_more hi (by rw [ofNat_small (by omega)]; omega), this, ofNat_small (by omega)]
      show (0, _, _) = _
      simp only [List.length_cons, Prod.mk.injEq, true_and]
      omega

/-- What is taken is put again. -/
theorem tk_one (l : List UInt8) : ∀ i, (tk i l).1 = 0 → put1 (tk i l).2.2 = l.take (tk i l).2.1 ∧ (tk i l).2.2 * 128 ^ i < 18446744073709551616 ∧ (0 < i → 0 < (tk i l).2.2) ∧ 1 ≤ (tk i l).2.1 ∧ (tk i l).2.1 ≤ l.length := by
  induction l with
  | nil =>
    intro i h
    by_cases hi : i < 10
    · rw [tk_nil hi] at h; cases h
    · rw [tk_ten hi] at h; cases h
  | cons c l ih =>
    intro i h
    have hc256 := c.toNat_lt
    by_cases hi : i < 10
    · by_cases hc : c.toNat < 128
      · by_cases hb : (i = 9 ∧ c.toNat ≠ 1) ∨ (c.toNat = 0 ∧ 0 < i)
        · rw [tk_bad hi hc hb] at h; cases h
        · rw [tk_end hi hc hb]
          dsimp only
          refine ⟨?_, ?_, ?_, Nat.le_refl _, by simp⟩
          · rw [put1_small hc]
            simp
          · by_cases h9 : i = 9
            · subst h9
              have : c.toNat = 1 := by omega
              rw [this]
              decide
            · have h8 : 128 ^ i ≤ 128 ^ 8 := Nat.pow_le_pow_right (by omega) (by omega)
              have h7 : c.toNat * 128 ^ i ≤ 127 * 128 ^ 8 := Nat.mul_le_mul (by omega) h8
              have h6 : 127 * 128 ^ 8 < 18446744073709551616 := by decide
              omega
          · intro h0; omega
      · rw [tk_more hi hc] at h ⊢
        dsimp only at h ⊢
        obtain ⟨h1, h2, h3, h4, h5⟩ := ih (i + 1) h
        have h3 := h3 (by omega)
        generalize tk (i + 1) l = r at h1 h2 h3 h4 h5
        obtain ⟨e, len, v⟩ := r
        dsimp only at h1 h2 h3 h4 h5 ⊢
        have hm : (c.toNat % 128 + 128 * v) % 128 = c.toNat % 128 := by omega
        have hq : (c.toNat % 128 + 128 * v) / 128 = v := by omega
        refine ⟨?_, ?_, ?_, by omega, by simp; omega⟩
        · rw [put1_step (by omega), hm, hq, h1, List.take_succ_cons]
          congr 1
          apply UInt8.toNat_inj.1
          rw [ofNat_small (by omega)]
          omega
        · have hi8 : i < 9 := by
            apply Classical.byContradiction
            intro hh
            have h9 : 128 ^ 10 ≤ 128 ^ (i + 1) := Nat.pow_le_pow_right (by omega) (by omega)
            have h10 : 1 * 128 ^ (i + 1) ≤ v * 128 ^ (i + 1) := Nat.mul_le_mul_right _ h3
            omega
          rw [Nat.pow_succ, Nat.mul_comm (128 ^ i) 128, ← Nat.mul_assoc] at h2
          obtain ⟨p, hp⟩ : ∃ p, 9 = i + 1 + p := ⟨9 - (i + 1), by omega⟩
          have key : (c.toNat % 128 + 128 * v) * 128 ^ i < 18446744073709551616 := by
            have e : (18446744073709551616 : Nat) = (2 * 128 ^ (p + 1)) * 128 ^ i := by
              rw [Nat.mul_assoc, ← Nat.pow_add, show p + 1 + i = 9 by omega]
            rw [e] at h2 ⊢
            have hpos : 0 < 128 ^ i := Nat.pow_pos (by omega)
            have h2 := Nat.lt_of_mul_lt_mul_right h2
            apply (Nat.mul_lt_mul_right hpos).2
            have e2 : 2 * 128 ^ (p + 1) = 128 * (2 * 128 ^ p) := by rw [Nat.pow_succ]; omega
            rw [e2] at h2 ⊢
            omega
          exact key
        · intro _; omega
    · rw [tk_ten hi] at h; cases h
end Go.Proofs.Ytldipdbcmehioaa
