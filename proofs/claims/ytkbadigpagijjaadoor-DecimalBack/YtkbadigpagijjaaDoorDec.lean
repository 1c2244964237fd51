/-
  Numbers as texts: plain mathematics of decimal's Print.
-/
import Derived.Test.YtkbadigpagijjaaDoorTxt
import Derived.Lib.ItoaNum
namespace Go.Proofs.YtkbadigpagijjaaDoor
open Go.Lib

/-- A list of bytes as a text. -/
def bytes (l : List UInt8) : ByteArray := ⟨l.toArray⟩
theorem bytes_list (l : List UInt8) : (bytes l).data.toList = l := by simp [bytes]
theorem bytes_size (l : List UInt8) : (bytes l).size = l.length := by show l.toArray.size = _; simp
theorem ba_ext {a b : ByteArray} (h : a.data.toList = b.data.toList) : a = b := by cases a; cases b; simp_all
theorem list_bytes (s : ByteArray) : bytes s.data.toList = s := ba_ext (bytes_list _)
theorem bytes_inj {a b : List UInt8} (h : bytes a = bytes b) : a = b := by rw [← bytes_list a, h, bytes_list]

/-- Noughts ahead, so that more than p digits stand there. -/
def padD (p : Nat) (ds : List UInt8) : List UInt8 := List.replicate (p + 1 - ds.length) 48 ++ ds
theorem padD_len (p : Nat) (ds : List UInt8) : (padD p ds).length = p + 1 - ds.length + ds.length := by unfold padD; simp
theorem padD_gt (p : Nat) (ds : List UInt8) : p < (padD p ds).length := by rw [padD_len]; omega
theorem padD_long {p : Nat} {ds : List UInt8} (h : p + 1 ≤ ds.length) : padD p ds = ds := by unfold padD; rw [show p + 1 - ds.length = 0 by omega]; rfl
/-- The digits with the point. -/
def pointed (p : Nat) (ds : List UInt8) : List UInt8 := ds.take (ds.length - p) ++ 46 :: ds.drop (ds.length - p)
/-- A number's text with p places. -/
def printL (n : Int) (p : Nat) : List UInt8 :=
  if p = 0 then itoa n else (if n < 0 then [45] else []) ++ pointed p (padD p (decDigits n.natAbs))
theorem printL_0 (n : Int) : printL n 0 = itoa n := rfl
theorem printL_neg {n : Int} {p : Nat} (hn : n < 0) (hp : p ≠ 0) : printL n p = 45 :: pointed p (padD p (decDigits n.natAbs)) := by unfold printL; rw [if_neg hp, if_pos hn]; rfl
theorem printL_pos {n : Int} {p : Nat} (hn : ¬ n < 0) (hp : p ≠ 0) : printL n p = pointed p (padD p (decDigits n.natAbs)) := by unfold printL; rw [if_neg hp, if_neg hn]; rfl
theorem itoa_n {n : Int} (h : n < 0) : itoa n = 45 :: decDigits n.natAbs := by unfold itoa; rw [if_pos h]
theorem itoa_p {n : Int} (h : ¬ n < 0) : itoa n = decDigits n.natAbs := by unfold itoa; rw [if_neg h, show n.toNat = n.natAbs by omega]

theorem digits_len (n : Int) (h0 : -9223372036854775808 ≤ n) (h1 : n ≤ 9223372036854775807) : 1 ≤ (decDigits n.natAbs).length ∧ (decDigits n.natAbs).length ≤ 19 := by
  rw [decDigits_length]
  refine ⟨nDigits_pos _, ?_⟩
  have key : ∀ (k u : Nat), u < 10 ^ (k + 1) → nDigits u ≤ k + 1 := by
    intro k
    induction k with
    | zero => intro u h; rw [nDigits_small (by simpa using h)]; exact Nat.le_refl _
    | succ k ih =>
      intro u h
      by_cases hu : u < 10
      · rw [nDigits_small hu]; omega
      · rw [nDigits_big hu]
        have := ih (u / 10) (by rw [Nat.pow_succ] at h; omega)
        omega
  exact key 18 n.natAbs (by show n.natAbs < 10000000000000000000; omega)

theorem splice {p : Nat} (S F : ByteArray) (k : Nat) (hk : k = F.size - p) : ((S ++ F.extract 0 k) ++ (⟨#[46]⟩ : ByteArray)) ++ F.extract k F.size = bytes (S.data.toList ++ pointed p F.data.toList) := by
  apply ba_ext
  rw [bytes_list, hk]
  unfold pointed
  simp
  rw [List.take_of_length_le (by rw [List.length_drop, len_of]; omega)]
end Go.Proofs.YtkbadigpagijjaaDoor
