/-
  Plain mathematics of layer 2 (decimal): where a text's digits end, where a text goes wrong. No model in this text.
-/
import Derived.Test.YtkbadigpagijjaaDoorMath
namespace Go.Proofs.YtkbadigpagijjaaDoor

/-- A byte that is a digit. -/
def dig (c : UInt8) : Bool := decide (48 ≤ c.toNat ∧ c.toNat ≤ 57)
theorem dig_yes {c : UInt8} (h1 : (48 : Int) ≤ (c.toNat : Int)) (h2 : (c.toNat : Int) ≤ 57) : dig c = true := by
  unfold dig; exact decide_eq_true ⟨by omega, by omega⟩
theorem dig_lo {c : UInt8} (h : (c.toNat : Int) < 48) : dig c = false := by
  unfold dig; exact decide_eq_false (by omega)
theorem dig_hi {c : UInt8} (h : 57 < (c.toNat : Int)) : dig c = false := by
  unfold dig; exact decide_eq_false (by omega)
theorem dig_iff {c : UInt8} : dig c = true ↔ 48 ≤ c.toNat ∧ c.toNat ≤ 57 := by unfold dig; exact decide_eq_true_iff

/-- How many digits stand at the beginning, of which at most m count. -/
def run : List UInt8 → Nat → Nat
  | [], _ => 0
  | _ :: _, 0 => 0
  | c :: l, m + 1 => if dig c = true then run l m + 1 else 0
theorem run_nil (m : Nat) : run [] m = 0 := by cases m <;> rfl
theorem run_zero (l : List UInt8) : run l 0 = 0 := by cases l <;> rfl
theorem run_dig {c : UInt8} (h : dig c = true) (l : List UInt8) (m : Nat) : run (c :: l) (m + 1) = run l m + 1 := by rw [run, if_pos h]
theorem run_not {c : UInt8} (h : dig c = false) (l : List UInt8) (m : Nat) : run (c :: l) m = 0 := by
  cases m with
  | zero => rfl
  | succ m => rw [run, if_neg (by rw [h]; decide)]
theorem run_le (l : List UInt8) : ∀ m, run l m ≤ m ∧ run l m ≤ l.length := by
  induction l with
  | nil => intro m; rw [run_nil]; exact ⟨Nat.zero_le _, Nat.zero_le _⟩
  | cons c l ih =>
    intro m
    cases m with
    | zero => rw [run_zero]; exact ⟨Nat.zero_le _, Nat.zero_le _⟩
    | succ m =>
      rw [run]
      split
      · have := ih m; simp only [List.length_cons]; omega
      · exact ⟨Nat.zero_le _, Nat.zero_le _⟩
/-- A greater bound than the length is the length. -/
theorem run_big (l : List UInt8) : ∀ m, l.length ≤ m → run l m = run l l.length := by
  induction l with
  | nil => intro m _; rw [run_nil, run_nil]
  | cons c l ih =>
    intro m hm
    simp only [List.length_cons] at hm
    obtain ⟨k, rfl⟩ : ∃ k, m = k + 1 := ⟨m - 1, by omega⟩
    rw [List.length_cons, run, run, ih k (by omega)]

/-- One more, where a text begins with a minus sign. -/
def sgn (l : List UInt8) : Nat := if l.head? = some 45 then 1 else 0
/-- The length of the whole part that stands at the beginning. -/
def wlen (b : List UInt8) : Nat := if b.head? = some 48 then 1 else run b b.length
theorem wlen_0 {b : List UInt8} (h : b.head? = some 48) : wlen b = 1 := by unfold wlen; rw [if_pos h]
theorem wlen_1 {b : List UInt8} (h : b.head? ≠ some 48) : wlen b = run b b.length := by unfold wlen; rw [if_neg h]
theorem wlen_le (b : List UInt8) : wlen b ≤ b.length := by
  unfold wlen
  split
  · rename_i h
    cases b with
    | nil => simp at h
    | cons c b => simp
  · exact (run_le b _).2
theorem sgn_le (l : List UInt8) : sgn l ≤ l.length := by
  unfold sgn
  split
  · rename_i h
    cases l with
    | nil => simp at h
    | cons c b => simp
  · exact Nat.zero_le _
theorem sgn_1 {l : List UInt8} (h : l.head? = some 45) : sgn l = 1 := by unfold sgn; rw [if_pos h]
theorem sgn_0 {l : List UInt8} (h : l.head? ≠ some 45) : sgn l = 0 := by unfold sgn; rw [if_neg h]

/-- Where a text goes wrong (or ends), and whether it is right. -/
def formM (l : List UInt8) (p : Nat) : Nat × Bool :=
  if wlen (l.drop (sgn l)) = 0 then (sgn l, false)
  else if sgn l + wlen (l.drop (sgn l)) = l.length then (sgn l + wlen (l.drop (sgn l)), true)
  else if l[sgn l + wlen (l.drop (sgn l))]? ≠ some 46 ∨ p = 0 then (sgn l + wlen (l.drop (sgn l)), false)
  else (sgn l + wlen (l.drop (sgn l)) + 1 + run (l.drop (sgn l + wlen (l.drop (sgn l)) + 1)) p,
    decide (0 < run (l.drop (sgn l + wlen (l.drop (sgn l)) + 1)) p ∧ sgn l + wlen (l.drop (sgn l)) + 1 + run (l.drop (sgn l + wlen (l.drop (sgn l)) + 1)) p = l.length))
def formA (l : List UInt8) (p : Nat) : Nat := (formM l p).1
def formB (l : List UInt8) (p : Nat) : Bool := (formM l p).2

theorem form_none {l : List UInt8} {p : Nat} (h : wlen (l.drop (sgn l)) = 0) : formA l p = sgn l ∧ formB l p = false := by
  unfold formA formB formM; rw [if_pos h]; exact ⟨rfl, rfl⟩
theorem form_whole {l : List UInt8} {p : Nat} (h : wlen (l.drop (sgn l)) ≠ 0) (h1 : sgn l + wlen (l.drop (sgn l)) = l.length) : formA l p = sgn l + wlen (l.drop (sgn l)) ∧ formB l p = true := by
  unfold formA formB formM; rw [if_neg h, if_pos h1]; exact ⟨rfl, rfl⟩
theorem form_stop {l : List UInt8} {p : Nat} (h : wlen (l.drop (sgn l)) ≠ 0) (h1 : sgn l + wlen (l.drop (sgn l)) ≠ l.length) (h2 : l[sgn l + wlen (l.drop (sgn l))]? ≠ some 46 ∨ p = 0) : formA l p = sgn l + wlen (l.drop (sgn l)) ∧ formB l p = false := by
  unfold formA formB formM; rw [if_neg h, if_neg h1, if_pos h2]; exact ⟨rfl, rfl⟩
theorem form_point {l : List UInt8} {p : Nat} (h : wlen (l.drop (sgn l)) ≠ 0) (h1 : sgn l + wlen (l.drop (sgn l)) ≠ l.length) (h2 : l[sgn l + wlen (l.drop (sgn l))]? = some 46) (h3 : p ≠ 0) :
    formA l p = sgn l + wlen (l.drop (sgn l)) + 1 + run (l.drop (sgn l + wlen (l.drop (sgn l)) + 1)) p ∧ formB l p = decide (0 < run (l.drop (sgn l + wlen (l.drop (sgn l)) + 1)) p ∧ sgn l + wlen (l.drop (sgn l)) + 1 + run (l.drop (sgn l + wlen (l.drop (sgn l)) + 1)) p = l.length) := by
  unfold formA formB formM; rw [if_neg h, if_neg h1, if_neg (by rintro (h | h); exact h h2; exact h3 h)]; exact ⟨rfl, rfl⟩

/-! ### Bytes of a text by their place -/
theorem drop_at (s : ByteArray) (k : Nat) (h : k < s.size) : s.data.toList.drop k = s[k] :: s.data.toList.drop (k + 1) := by
  rw [List.drop_eq_getElem_cons (by simpa using h)]; rfl
theorem head_at (s : ByteArray) (k : Nat) (h : k < s.size) : (s.data.toList.drop k).head? = some s[k] := by rw [drop_at s k h]; rfl
theorem get_at (s : ByteArray) (k : Nat) (h : k < s.size) : s.data.toList[k]? = some s[k] := by
  rw [List.getElem?_eq_getElem (by simpa using h)]; rfl
theorem drop_end (s : ByteArray) (k : Nat) (h : s.size ≤ k) : s.data.toList.drop k = [] := List.drop_eq_nil_of_le (by simpa using h)
theorem byte_is {c d : UInt8} {n : Int} (hd : (d.toNat : Int) = n) : (c.toNat : Int) = n ↔ c = d := by
  constructor
  · intro h; exact UInt8.toNat_inj.1 (by omega)
  · rintro rfl; exact hd
theorem len_of (s : ByteArray) : s.data.toList.length = s.size := by simp
end Go.Proofs.YtkbadigpagijjaaDoor
