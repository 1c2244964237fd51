/-
  Plain numbers for the walks of layer 1 (fixnum): what fits into 64 bits, and the number that is told where it does not.
-/
namespace Go.Proofs.YtkbadigpagijjaaDoor

/-- Does a number fit into 64 bits with a sign? -/
def fitB (x : Int) : Bool := decide (-9223372036854775808 ≤ x ∧ x ≤ 9223372036854775807)
/-- The number that a call answers: itself where it fits, else 0. -/
def fitN (x : Int) : Int := if fitB x = true then x else 0

theorem fitB_true {x : Int} (h1 : -9223372036854775808 ≤ x) (h2 : x ≤ 9223372036854775807) : fitB x = true := by
  unfold fitB; exact decide_eq_true ⟨h1, h2⟩
theorem fitB_false {x : Int} (h : x < -9223372036854775808 ∨ 9223372036854775807 < x) : fitB x = false := by
  unfold fitB; apply decide_eq_false; omega
theorem fitB_iff {x : Int} : fitB x = true ↔ (-9223372036854775808 ≤ x ∧ x ≤ 9223372036854775807) := by
  unfold fitB; exact decide_eq_true_iff
theorem fitN_true {x : Int} (h : fitB x = true) : fitN x = x := by unfold fitN; rw [if_pos h]
theorem fitN_false {x : Int} (h : fitB x = false) : fitN x = 0 := by unfold fitN; rw [if_neg (by rw [h]; decide)]


/-- -1, 0 or 1. -/
def cmpN (a b : Int) : Int := if a < b then -1 else if b < a then 1 else 0
theorem cmpN_lt {a b : Int} (h : a < b) : cmpN a b = -1 := by unfold cmpN; rw [if_pos h]
theorem cmpN_gt {a b : Int} (h : b < a) : cmpN a b = 1 := by unfold cmpN; rw [if_neg (by omega), if_pos h]
theorem cmpN_eq {a b : Int} (h : a = b) : cmpN a b = 0 := by unfold cmpN; rw [if_neg (by omega), if_neg (by omega)]

/-- A number by another one: nothing where the other one is 0. -/
def byN (a b : Int) : Int := if b = 0 then 0 else fitN (a.tdiv b)
def byB (a b : Int) : Bool := if b = 0 then false else fitB (a.tdiv b)
def restN (a b : Int) : Int := if b = 0 then 0 else a.tmod b
def restB (b : Int) : Bool := if b = 0 then false else true
theorem byN_0 (a : Int) {b : Int} (h : b = 0) : byN a b = 0 := by unfold byN; rw [if_pos h]
theorem byB_0 (a : Int) {b : Int} (h : b = 0) : byB a b = false := by unfold byB; rw [if_pos h]
theorem byN_1 (a : Int) {b : Int} (h : b ≠ 0) : byN a b = fitN (a.tdiv b) := by unfold byN; rw [if_neg h]
theorem byB_1 (a : Int) {b : Int} (h : b ≠ 0) : byB a b = fitB (a.tdiv b) := by unfold byB; rw [if_neg h]
theorem restN_0 (a : Int) {b : Int} (h : b = 0) : restN a b = 0 := by unfold restN; rw [if_pos h]
theorem restB_0 {b : Int} (h : b = 0) : restB b = false := by unfold restB; rw [if_pos h]
theorem restN_1 (a : Int) {b : Int} (h : b ≠ 0) : restN a b = a.tmod b := by unfold restN; rw [if_neg h]
theorem restB_1 {b : Int} (h : b ≠ 0) : restB b = true := by unfold restB; rw [if_neg h]

theorem tdiv_natAbs_le (a b : Int) : (a.tdiv b).natAbs ≤ a.natAbs := by
  rw [Int.natAbs_tdiv]; exact Nat.div_le_self _ _

/-- A quotient by neither 0 nor -1 fits. -/
theorem tdiv_fits {a b : Int} (a1 : -9223372036854775808 ≤ a) (a2 : a ≤ 9223372036854775807) (h0 : b ≠ 0) (h1 : b ≠ -1) : fitB (a.tdiv b) = true := by
  by_cases h2 : b = 1
  · subst h2; rw [Int.tdiv_one]; exact fitB_true a1 a2
  · have h3 : 2 ≤ b.natAbs := by omega
    have h4 : (a.tdiv b).natAbs ≤ a.natAbs / 2 := by rw [Int.natAbs_tdiv]; exact Nat.div_le_div_left h3 (by decide)
    apply fitB_true <;> omega
theorem tmod_bound {a b : Int} (h0 : b ≠ 0) : (a.tmod b).natAbs < b.natAbs := by
  rw [Int.natAbs_tmod]; exact Nat.mod_lt _ (by omega)

end Go.Proofs.YtkbadigpagijjaaDoor
