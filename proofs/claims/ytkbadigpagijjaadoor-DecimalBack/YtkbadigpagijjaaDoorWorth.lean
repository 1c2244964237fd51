/-
  The worth of a text's digits, step by step, as package decimal adds it up. Plain mathematics.
-/
import Derived.Test.YtkbadigpagijjaaDoorTxt
namespace Go.Proofs.YtkbadigpagijjaaDoor

/-- A number with one more digit behind it, upwards or downwards. -/
def putV (neg : Bool) (t d : Int) : Int := if neg = true then t * 10 - d else t * 10 + d
/-- .. and whether it and the tenfold before it are numbers of 64 bits. -/
def shB (neg : Bool) (t d : Int) : Bool := if fitB (t * 10) = true then fitB (putV neg t d) else false
def shN (neg : Bool) (t d : Int) : Int := if fitB (t * 10) = true then fitN (putV neg t d) else 0
theorem shB_no {neg : Bool} {t d : Int} (h : fitB (t * 10) = false) : shB neg t d = false := by unfold shB; rw [if_neg (by rw [h]; decide)]
theorem shN_no {neg : Bool} {t d : Int} (h : fitB (t * 10) = false) : shN neg t d = 0 := by unfold shN; rw [if_neg (by rw [h]; decide)]
theorem shB_up {t d : Int} (h : fitB (t * 10) = true) : shB false t d = fitB (t * 10 + d) := by unfold shB; rw [if_pos h]; rfl
theorem shN_up {t d : Int} (h : fitB (t * 10) = true) : shN false t d = fitN (t * 10 + d) := by unfold shN; rw [if_pos h]; rfl
theorem shB_down {t d : Int} (h : fitB (t * 10) = true) : shB true t d = fitB (t * 10 - d) := by unfold shB; rw [if_pos h]; rfl
theorem shN_down {t d : Int} (h : fitB (t * 10) = true) : shN true t d = fitN (t * 10 - d) := by unfold shN; rw [if_pos h]; rfl
theorem fitN_bd (x : Int) : -9223372036854775808 ≤ fitN x ∧ fitN x ≤ 9223372036854775807 := by
  unfold fitN
  split
  · rename_i h; exact fitB_iff.1 h
  · omega
theorem shN_bd (neg : Bool) (t d : Int) : -9223372036854775808 ≤ shN neg t d ∧ shN neg t d ≤ 9223372036854775807 := by
  unfold shN
  split
  · exact fitN_bd _
  · omega

/-- The digit that a byte stands for (wrapped, where it is none). -/
def digV (c : UInt8) : Int := ((c.toNat : Int) - 48) % 256
theorem digV_bd (c : UInt8) : 0 ≤ digV c ∧ digV c ≤ 255 := by unfold digV; omega

/-- How far the text is gone through: downwards? behind the point? still a number? the number; how many places are missing. -/
structure Wst where
  neg : Bool
  behind : Bool
  ok : Bool
  t : Int
  m : Int

def stepW (st : Wst) (c : UInt8) : Wst :=
  if st.ok = false then st
  else if c = 45 then { st with neg := true }
  else if c = 46 then { st with behind := true }
  else { st with ok := shB st.neg st.t (digV c), t := shN st.neg st.t (digV c), m := if st.behind = true then st.m - 1 else st.m }
def goW (st : Wst) (l : List UInt8) : Wst := l.foldl stepW st
def padW : Nat → Bool → Int → Bool → Int × Bool
  | 0, _, t, ok => (t, ok)
  | n + 1, neg, t, ok => if ok = false then (t, ok) else padW n neg (shN neg t 0) (shB neg t 0)
def fromW (p : Int) : Wst := ⟨false, false, true, 0, p⟩
def endW (l : List UInt8) (p : Nat) : Wst := goW (fromW p) l
def worthM (l : List UInt8) (p : Nat) : Int × Bool := padW (endW l p).m.toNat (endW l p).neg (endW l p).t (endW l p).ok
def worthN (l : List UInt8) (p : Nat) : Int := (worthM l p).1
def worthB (l : List UInt8) (p : Nat) : Bool := (worthM l p).2

theorem goW_snoc (st : Wst) (l : List UInt8) (c : UInt8) : goW st (l ++ [c]) = stepW (goW st l) c := by unfold goW; rw [List.foldl_append]; rfl
theorem stepW_no {st : Wst} (h : st.ok = false) (c : UInt8) : stepW st c = st := by unfold stepW; rw [if_pos h]
theorem stepW_minus {st : Wst} (h : st.ok = true) {c : UInt8} (hc : c = 45) : stepW st c = { st with neg := true } := by unfold stepW; rw [if_neg (by rw [h]; decide), if_pos hc]
theorem stepW_point {st : Wst} (h : st.ok = true) {c : UInt8} (h1 : c ≠ 45) (hc : c = 46) : stepW st c = { st with behind := true } := by unfold stepW; rw [if_neg (by rw [h]; decide), if_neg h1, if_pos hc]
theorem stepW_digit {st : Wst} (h : st.ok = true) {c : UInt8} (h1 : c ≠ 45) (h2 : c ≠ 46) : stepW st c = { st with ok := shB st.neg st.t (digV c), t := shN st.neg st.t (digV c), m := if st.behind = true then st.m - 1 else st.m } := by
  unfold stepW; rw [if_neg (by rw [h]; decide), if_neg h1, if_neg h2]
theorem goW_no {st : Wst} (h : st.ok = false) (l : List UInt8) : goW st l = st := by
  induction l with
  | nil => rfl
  | cons c l ih => show goW (stepW st c) l = st; rw [stepW_no h, ih]
theorem goW_append (st : Wst) (l r : List UInt8) : goW st (l ++ r) = goW (goW st l) r := by unfold goW; rw [List.foldl_append]
theorem padW_no (n : Nat) (neg : Bool) (t : Int) : padW n neg t false = (t, false) := by cases n <;> rfl
theorem padW_succ (n : Nat) (neg : Bool) (t : Int) : padW (n + 1) neg t true = padW n neg (shN neg t 0) (shB neg t 0) := rfl

theorem stepW_bd (st : Wst) (c : UInt8) (h1 : -9223372036854775808 ≤ st.t) (h2 : st.t ≤ 9223372036854775807) :
    -9223372036854775808 ≤ (stepW st c).t ∧ (stepW st c).t ≤ 9223372036854775807 ∧ st.m - 1 ≤ (stepW st c).m ∧ (stepW st c).m ≤ st.m := by
  by_cases hok : st.ok = true
  · by_cases h45 : c = 45
    · rw [stepW_minus hok h45]; exact ⟨h1, h2, by show st.m - 1 ≤ st.m; omega, Int.le_refl _⟩
    · by_cases h46 : c = 46
      · rw [stepW_point hok h45 h46]; exact ⟨h1, h2, by show st.m - 1 ≤ st.m; omega, Int.le_refl _⟩
      · have hb := shN_bd st.neg st.t (digV c)
        rw [stepW_digit hok h45 h46]
        refine ⟨hb.1, hb.2, ?_, ?_⟩
        · show st.m - 1 ≤ (if st.behind = true then st.m - 1 else st.m)
          split <;> omega
        · show (if st.behind = true then st.m - 1 else st.m) ≤ st.m
          split <;> omega
  · rw [stepW_no (by simpa using hok)]; exact ⟨h1, h2, by omega, Int.le_refl _⟩
theorem goW_bd' : ∀ (l : List UInt8) (st : Wst), -9223372036854775808 ≤ st.t → st.t ≤ 9223372036854775807 → -9223372036854775808 ≤ (goW st l).t ∧ (goW st l).t ≤ 9223372036854775807 ∧ st.m - l.length ≤ (goW st l).m ∧ (goW st l).m ≤ st.m
  | [], st, h1, h2 => ⟨h1, h2, by show st.m - 0 ≤ st.m; omega, Int.le_refl _⟩
  | c :: l, st, h1, h2 => by
    have e : goW st (c :: l) = goW (stepW st c) l := rfl
    have b := stepW_bd st c h1 h2
    have := goW_bd' l (stepW st c) b.1 b.2.1
    rw [e, List.length_cons]
    omega
/-- The state's bounds, behind k bytes. -/
theorem goW_bd (p : Nat) (l : List UInt8) : -9223372036854775808 ≤ (endW l p).t ∧ (endW l p).t ≤ 9223372036854775807 ∧ (p : Int) - l.length ≤ (endW l p).m ∧ (endW l p).m ≤ p :=
  goW_bd' l (fromW p) (by show (-9223372036854775808 : Int) ≤ 0; decide) (by show (0 : Int) ≤ 9223372036854775807; decide)
end Go.Proofs.YtkbadigpagijjaaDoor
