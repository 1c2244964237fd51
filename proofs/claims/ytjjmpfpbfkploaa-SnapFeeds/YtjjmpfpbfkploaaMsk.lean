/-
  What differs: plain facts on masks.
-/
import Derived.Test.YtjjmpfpbfkploaaGet
import Derived.Laws.Bits64b
import Derived.Laws.BitsLemmas
import Derived.Laws.Closers25b
namespace Go.Proofs.Ytjjmpfpbfkploaa
open Go.RowKit

theorem bitN_le (a b m : Int) (h : 0 ≤ m) : 0 ≤ bitN a b m ∧ bitN a b m ≤ m := by
  unfold bitN
  split <;> omega
theorem diffK_lt (s t : Sn) : ∀ k : Nat, 0 ≤ diffK s t k ∧ diffK s t k < (2 ^ k : Nat)
  | 0 => by unfold diffK; decide
  | k + 1 => by
    have ih := diffK_lt s t k
    have hb := bitN_le (getN s k) (getN t k) ((2 ^ k : Nat) : Int) (by omega)
    show 0 ≤ diffK s t k + bitN (getN s k) (getN t k) ((2 ^ k : Nat) : Int) ∧ diffK s t k + bitN (getN s k) (getN t k) ((2 ^ k : Nat) : Int) < _
    have : (2 : Nat) ^ (k + 1) = 2 ^ k * 2 := Nat.pow_succ ..
    omega
theorem or_bit (m : Int) (k : Nat) (hk : k ≤ 14) (h0 : 0 ≤ m) (h1 : m < (2 ^ k : Nat)) : bits BinOp.or IntKind.u16 m ((2 ^ k : Nat) : Int) = m + (2 ^ k : Nat) := by
  obtain ⟨n, rfl⟩ : ∃ n : Nat, m = n := ⟨m.toNat, by omega⟩
  have hp : 2 ^ k ≤ 2 ^ 14 := Nat.pow_le_pow_right (by omega) hk
  have hn : n < 2 ^ k := by omega
  have e : bits BinOp.or IntKind.u16 (n : Int) ((2 ^ k : Nat) : Int) = IntKind.u16.wrap ((BitVec.ofInt 16 n ||| BitVec.ofInt 16 ((2 ^ k : Nat) : Int)).toNat : Int) := rfl
  have e2 : n ||| 2 ^ k = n + 2 ^ k := by
    have := Nat.two_pow_add_eq_or_of_lt hn 1
    rw [Nat.mul_one] at this
    rw [Nat.or_comm, ← this, Nat.add_comm]
  rw [e, BitVec.toNat_or, BitVec.ofInt_natCast, BitVec.ofInt_natCast, BitVec.toNat_ofNat, BitVec.toNat_ofNat, Nat.mod_eq_of_lt (by omega), Nat.mod_eq_of_lt (by omega), e2]
  clear e e2
  generalize 2 ^ k = p at *
  simp only [IntKind.wrap_u16]
  omega
theorem diffK_1 (s t : Sn) : diffK s t 1 = 0 := rfl
theorem diffK_2 (s t : Sn) : diffK s t 2 = diffK s t 1 + bitN s.bid t.bid 2 := rfl
theorem diffK_3 (s t : Sn) : diffK s t 3 = diffK s t 2 + bitN s.ask t.ask 4 := rfl
theorem diffK_4 (s t : Sn) : diffK s t 4 = diffK s t 3 + bitN s.last t.last 8 := rfl
theorem diffK_5 (s t : Sn) : diffK s t 5 = diffK s t 4 + bitN s.vol t.vol 16 := rfl
theorem diffK_6 (s t : Sn) : diffK s t 6 = diffK s t 5 + bitN s.now t.now 32 := rfl
theorem diffK_7 (s t : Sn) : diffK s t 7 = diffK s t 6 + bitN s.opn t.opn 64 := rfl
theorem diffK_all (s t : Sn) : diffK s t 7 = diffN s t := by
  rw [diffK_7, diffK_6, diffK_5, diffK_4, diffK_3, diffK_2, diffK_1]
  unfold diffN
  omega
theorem bitN_eq {a b : Int} (m : Int) (h : a = b) : bitN a b m = 0 := by unfold bitN; rw [if_pos h]
theorem bitN_ne {a b : Int} (m : Int) (h : ¬ a = b) : bitN a b m = m := by unfold bitN; rw [if_neg h]
theorem mI {a b : Int} (h : a = b) : Value.int .u16 a = .int .u16 b := by rw [h]
theorem retM {a b : Int} (h : a = b) : Ending.returned (.int .u16 a) = .returned (.int .u16 b) := by rw [h]
end Go.Proofs.Ytjjmpfpbfkploaa
