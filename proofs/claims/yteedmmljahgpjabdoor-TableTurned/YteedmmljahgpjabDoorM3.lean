import Derived.Test.YteedmmljahgpjabDoorM2
import Derived.WalkKit
import Derived.Laws.BitsAllLaws
import Derived.Laws.Bits64b
import Derived.Laws.BitsLemmas
import Derived.Laws.Closers25b
import Derived.Test.YteedmmljahgpjabDoorProg
import Derived.Deep.QuietTactic
import Derived.BigQuiet
import Derived.Below
import Derived.ProofKit
import Derived.Outline
import Derived.ArgAppend
import Derived.Laws.IdiomStrings
import Derived.OwnWalk
/-
  Plain mathematics of layer 3 (wire): what is read at a place, texts, checks, frames. No model in this text.
-/
namespace Go.Proofs.YteedmmljahgpjabDoor.W

/-! ### A number at a place -/
def takeE (l : List UInt8) (a : Int) : Nat := if a < 0 ∨ (l.length : Int) < a then 1 else (tk 0 (l.drop a.toNat)).1
def takeN (l : List UInt8) (a : Int) : Nat := if takeE l a = 0 then (tk 0 (l.drop a.toNat)).2.2 else 0
def takeP (l : List UInt8) (a : Int) : Int := if takeE l a = 0 then a + ((tk 0 (l.drop a.toNat)).2.1 : Nat) else a
theorem takeE_arg {l : List UInt8} {a : Int} (h : a < 0 ∨ (l.length : Int) < a) : takeE l a = 1 := by unfold takeE; rw [if_pos h]
theorem takeE_in {l : List UInt8} {a : Int} (h1 : 0 ≤ a) (h2 : a ≤ l.length) : takeE l a = (tk 0 (l.drop a.toNat)).1 := by unfold takeE; rw [if_neg (by omega)]
theorem takeN_no {l : List UInt8} {a : Int} (h : takeE l a ≠ 0) : takeN l a = 0 := by unfold takeN; rw [if_neg h]
theorem takeP_no {l : List UInt8} {a : Int} (h : takeE l a ≠ 0) : takeP l a = a := by unfold takeP; rw [if_neg h]
theorem takeN_ok {l : List UInt8} {a : Int} (h : takeE l a = 0) : takeN l a = (tk 0 (l.drop a.toNat)).2.2 := by unfold takeN; rw [if_pos h]
theorem takeP_ok {l : List UInt8} {a : Int} (h : takeE l a = 0) : takeP l a = a + ((tk 0 (l.drop a.toNat)).2.1 : Nat) := by unfold takeP; rw [if_pos h]
theorem takeE_place {l : List UInt8} {a : Int} (h : takeE l a = 0) : 0 ≤ a ∧ a ≤ l.length := by
  unfold takeE at h
  split at h
  · cases h
  · omega
/-- What is taken is put again, byte by byte. -/
theorem take_one {l : List UInt8} {a : Int} (h : takeE l a = 0) : 0 ≤ a ∧ a < takeP l a ∧ takeP l a ≤ l.length ∧ takeN l a < 18446744073709551616 ∧
    put1 (takeN l a) = (l.drop a.toNat).take ((takeP l a).toNat - a.toNat) ∧ ((put1 (takeN l a)).length : Int) = takeP l a - a := by
  obtain ⟨h1, h2⟩ := takeE_place h
  have h' := h
  rw [takeE_in h1 h2] at h'
  obtain ⟨g1, g2, _, g4, g5⟩ := tk_one _ 0 h'
  rw [takeN_ok h, takeP_ok h]
  rw [List.length_drop] at g5
  have e : (a + ((tk 0 (l.drop a.toNat)).2.1 : Nat)).toNat - a.toNat = (tk 0 (l.drop a.toNat)).2.1 := by omega
  refine ⟨h1, by omega, by omega, by simpa using g2, by rw [e]; exact g1, ?_⟩
  rw [g1, List.length_take, List.length_drop]
  omega
/-- What is put is taken, whatever stands ahead and behind. -/
theorem take_put (b tail : List UInt8) (n : Nat) (hn : n < 18446744073709551616) :
    takeE (b ++ put1 n ++ tail) b.length = 0 ∧ takeN (b ++ put1 n ++ tail) b.length = n ∧ takeP (b ++ put1 n ++ tail) b.length = (b ++ put1 n).length := by
  have hd : (b ++ put1 n ++ tail).drop ((b.length : Int)).toNat = put1 n ++ tail := by simp
  have ht := tk_put n n 0 (Nat.le_refl _) (by simpa using hn) (fun h => by omega) tail
  have hE : takeE (b ++ put1 n ++ tail) b.length = 0 := by rw [takeE_in (by omega) (by simp; omega), hd, ht]
  refine ⟨hE, ?_, ?_⟩
  · rw [takeN_ok hE, hd, ht]
  · rw [takeP_ok hE, hd, ht]; simp
/-! ### A text at a place -/
def textE (l : List UInt8) (a : Int) : Nat :=
  if takeE l a ≠ 0 then takeE l a else if 65536 < takeN l a then 31 else if (l.length : Int) < takeP l a + takeN l a then 30 else 0
def textS (l : List UInt8) (a : Int) : List UInt8 := if textE l a = 0 then (l.drop (takeP l a).toNat).take (takeN l a) else []
def textP (l : List UInt8) (a : Int) : Int := if textE l a = 0 then takeP l a + takeN l a else a
theorem textE_take {l : List UInt8} {a : Int} (h : takeE l a ≠ 0) : textE l a = takeE l a := by unfold textE; rw [if_pos h]
theorem textE_long {l : List UInt8} {a : Int} (h : takeE l a = 0) (h1 : 65536 < takeN l a) : textE l a = 31 := by unfold textE; rw [if_neg (fun hc => hc h), if_pos h1]
theorem textE_short {l : List UInt8} {a : Int} (h : takeE l a = 0) (h1 : ¬ 65536 < takeN l a) (h2 : (l.length : Int) < takeP l a + takeN l a) : textE l a = 30 := by
  unfold textE; rw [if_neg (fun hc => hc h), if_neg h1, if_pos h2]
theorem textE_ok {l : List UInt8} {a : Int} (h : takeE l a = 0) (h1 : ¬ 65536 < takeN l a) (h2 : ¬ (l.length : Int) < takeP l a + takeN l a) : textE l a = 0 := by
  unfold textE; rw [if_neg (fun hc => hc h), if_neg h1, if_neg h2]
theorem textS_no {l : List UInt8} {a : Int} (h : textE l a ≠ 0) : textS l a = [] := by unfold textS; rw [if_neg h]
theorem textP_no {l : List UInt8} {a : Int} (h : textE l a ≠ 0) : textP l a = a := by unfold textP; rw [if_neg h]
theorem textS_ok {l : List UInt8} {a : Int} (h : textE l a = 0) : textS l a = (l.drop (takeP l a).toNat).take (takeN l a) := by unfold textS; rw [if_pos h]
theorem textP_ok {l : List UInt8} {a : Int} (h : textE l a = 0) : textP l a = takeP l a + takeN l a := by unfold textP; rw [if_pos h]
theorem textE_parts {l : List UInt8} {a : Int} (h : textE l a = 0) : takeE l a = 0 ∧ takeN l a ≤ 65536 ∧ takeP l a + takeN l a ≤ l.length := by
  unfold textE at h
  split at h
  · contradiction
  · rename_i h0
    split at h
    · cases h
    · split at h
      · cases h
      · exact ⟨by simpa using h0, by omega, by omega⟩
/-- A text as bytes. -/
def text1 (s : List UInt8) : List UInt8 := put1 s.length ++ s
theorem text_put (b s tail : List UInt8) (hs : s.length ≤ 65536) :
    textE (b ++ text1 s ++ tail) b.length = 0 ∧ textS (b ++ text1 s ++ tail) b.length = s ∧ textP (b ++ text1 s ++ tail) b.length = (b ++ text1 s).length := by
  have e : b ++ text1 s ++ tail = b ++ put1 s.length ++ (s ++ tail) := by unfold text1; simp
  obtain ⟨t1, t2, t3⟩ := take_put b (s ++ tail) s.length (by omega)
  rw [← e] at t1 t2 t3
  have hE : textE (b ++ text1 s ++ tail) b.length = 0 := textE_ok t1 (by omega) (by rw [t2, t3]; simp [text1]; omega)
  refine ⟨hE, ?_, ?_⟩
  · rw [textS_ok hE, t2, t3, e, show (((b ++ put1 s.length).length : Nat) : Int).toNat = (b ++ put1 s.length).length by omega, List.drop_left, List.take_left]
  · rw [textP_ok hE, t2, t3]; simp [text1]; omega
theorem text_one {l : List UInt8} {a : Int} (h : textE l a = 0) : 0 ≤ a ∧ a < textP l a ∧ textP l a ≤ l.length ∧ (textS l a).length ≤ 65536 ∧
    text1 (textS l a) = (l.drop a.toNat).take ((textP l a).toNat - a.toNat) := by
  obtain ⟨h1, h2, h3⟩ := textE_parts h
  obtain ⟨g1, g2, g3, _, g5, g6⟩ := take_one h1
  rw [textP_ok h]
  have hl : (textS l a).length = takeN l a := by rw [textS_ok h, List.length_take, List.length_drop]; omega
  refine ⟨g1, by omega, by omega, by omega, ?_⟩
  unfold text1
  rw [hl, g5, textS_ok h]
  have e : (takeP l a + (takeN l a : Nat)).toNat - a.toNat = ((takeP l a).toNat - a.toNat) + takeN l a := by omega
  have e2 : (takeP l a).toNat = a.toNat + ((takeP l a).toNat - a.toNat) := by omega
  rw [e, List.take_add, List.drop_drop, ← e2]
/-! ### The check -/
def sumStep (c : Nat) (x : UInt8) : Nat := ((c ^^^ x.toNat) * 16777619) % 4294967296
def sumL (l : List UInt8) : Nat := l.foldl sumStep 2166136261
theorem sumStep_lt (c : Nat) (x : UInt8) : sumStep c x < 4294967296 := Nat.mod_lt _ (by decide)
theorem fold_lt (l : List UInt8) : ∀ c, c < 4294967296 → l.foldl sumStep c < 4294967296 := by
  induction l with
  | nil => intro c h; exact h
  | cons x l ih => intro c _; exact ih _ (sumStep_lt c x)
theorem sumL_lt (l : List UInt8) : sumL l < 4294967296 := fold_lt l _ (by decide)
theorem sumL_snoc (l : List UInt8) (x : UInt8) : sumL (l ++ [x]) = sumStep (sumL l) x := by unfold sumL; rw [List.foldl_append, List.foldl_cons, List.foldl_nil]
theorem mul_undo {a b : Nat} (ha : a < 4294967296) (hb : b < 4294967296) (h : a * 16777619 % 4294967296 = b * 16777619 % 4294967296) : a = b := by
  have key : ∀ x, x < 4294967296 → (x * 16777619 % 4294967296) * 899433627 % 4294967296 = x := by
    intro x hx
    rw [Nat.mod_mul_mod, Nat.mul_assoc, show 16777619 * 899433627 = 1 + 4294967296 * 3513497 by decide, Nat.mul_add, Nat.mul_one, Nat.mul_left_comm, Nat.add_mul_mod_self_left]
    exact Nat.mod_eq_of_lt hx
  rw [← key a ha, h, key b hb]
theorem xor_lt {a : Nat} (ha : a < 4294967296) (x : UInt8) : a ^^^ x.toNat < 4294967296 := by
  have hx := x.toNat_lt
  exact Nat.xor_lt_two_pow (n := 32) ha (by omega)
theorem xor_inj {a b c : Nat} (h : a ^^^ c = b ^^^ c) : a = b := by
  have := congrArg (· ^^^ c) h
  simpa [Nat.xor_assoc] using this
theorem sumStep_inj {a b : Nat} {x : UInt8} (ha : a < 4294967296) (hb : b < 4294967296) (h : sumStep a x = sumStep b x) : a = b :=
  xor_inj (mul_undo (xor_lt ha x) (xor_lt hb x) h)
theorem sumStep_byte {a : Nat} {x y : UInt8} (ha : a < 4294967296) (h : sumStep a x = sumStep a y) : x = y := by
  have := mul_undo (xor_lt ha x) (xor_lt ha y) h
  rw [Nat.xor_comm a, Nat.xor_comm a] at this
  exact UInt8.toNat_inj.1 (xor_inj this)
theorem fold_inj (l : List UInt8) : ∀ {a b : Nat}, a < 4294967296 → b < 4294967296 → l.foldl sumStep a = l.foldl sumStep b → a = b := by
  induction l with
  | nil => intro a b _ _ h; exact h
  | cons x l ih => intro a b ha hb h; exact sumStep_inj ha hb (ih (sumStep_lt a x) (sumStep_lt b x) h)
/-- One byte is another one: the check is another one. -/
theorem sum_harm (a b : List UInt8) (x y : UInt8) (h : sumL (a ++ x :: b) = sumL (a ++ y :: b)) : x = y := by
  unfold sumL at h
  rw [List.foldl_append, List.foldl_append] at h
  exact sumStep_byte (sumL_lt a) (fold_inj b (sumStep_lt _ x) (sumStep_lt _ y) h)
/-- A check's four bytes. -/
def le4 (c : Nat) : List UInt8 := [UInt8.ofNat (c % 256), UInt8.ofNat (c / 256 % 256), UInt8.ofNat (c / 65536 % 256), UInt8.ofNat (c / 16777216 % 256)]
theorem le4_len (c : Nat) : (le4 c).length = 4 := rfl
theorem ofNat_inj {a b : Nat} (ha : a < 256) (hb : b < 256) (h : UInt8.ofNat a = UInt8.ofNat b) : a = b := by
  rw [← ofNat_small ha, h, ofNat_small hb]
theorem le4_inj {a b : Nat} (ha : a < 4294967296) (hb : b < 4294967296) (h : le4 a = le4 b) : a = b := by
  unfold le4 at h
  simp only [List.cons.injEq, and_true] at h
  obtain ⟨h0, h1, h2, h3⟩ := h
  have h0 := ofNat_inj (by omega) (by omega) h0
  have h1 := ofNat_inj (by omega) (by omega) h1
  have h2 := ofNat_inj (by omega) (by omega) h2
  have h3 := ofNat_inj (by omega) (by omega) h3
  omega
/-! ### Frames -/
def frameL (s : List UInt8) : List UInt8 := text1 s ++ le4 (sumL s)
def unE (l : List UInt8) (a : Int) : Nat :=
  if textE l a ≠ 0 then textE l a else if (l.length : Int) - textP l a < 4 then 30 else if (l.drop (textP l a).toNat).take 4 = le4 (sumL (textS l a)) then 0 else 32
def unS (l : List UInt8) (a : Int) : List UInt8 := if unE l a = 0 then textS l a else []
def unP (l : List UInt8) (a : Int) : Int := if unE l a = 0 then textP l a + 4 else a
theorem unE_text {l : List UInt8} {a : Int} (h : textE l a ≠ 0) : unE l a = textE l a := by unfold unE; rw [if_pos h]
theorem unE_short {l : List UInt8} {a : Int} (h : textE l a = 0) (h1 : (l.length : Int) - textP l a < 4) : unE l a = 30 := by unfold unE; rw [if_neg (fun hc => hc h), if_pos h1]
theorem unE_ok {l : List UInt8} {a : Int} (h : textE l a = 0) (h1 : ¬ (l.length : Int) - textP l a < 4) (h2 : (l.drop (textP l a).toNat).take 4 = le4 (sumL (textS l a))) : unE l a = 0 := by
  unfold unE; rw [if_neg (fun hc => hc h), if_neg h1, if_pos h2]
theorem unE_sum {l : List UInt8} {a : Int} (h : textE l a = 0) (h1 : ¬ (l.length : Int) - textP l a < 4) (h2 : (l.drop (textP l a).toNat).take 4 ≠ le4 (sumL (textS l a))) : unE l a = 32 := by
  unfold unE; rw [if_neg (fun hc => hc h), if_neg h1, if_neg h2]
theorem unS_no {l : List UInt8} {a : Int} (h : unE l a ≠ 0) : unS l a = [] := by unfold unS; rw [if_neg h]
theorem unP_no {l : List UInt8} {a : Int} (h : unE l a ≠ 0) : unP l a = a := by unfold unP; rw [if_neg h]
theorem unS_ok {l : List UInt8} {a : Int} (h : unE l a = 0) : unS l a = textS l a := by unfold unS; rw [if_pos h]
theorem unP_ok {l : List UInt8} {a : Int} (h : unE l a = 0) : unP l a = textP l a + 4 := by unfold unP; rw [if_pos h]
theorem unE_parts {l : List UInt8} {a : Int} (h : unE l a = 0) : textE l a = 0 ∧ 4 ≤ (l.length : Int) - textP l a ∧ (l.drop (textP l a).toNat).take 4 = le4 (sumL (textS l a)) := by
  unfold unE at h
  split at h
  · contradiction
  · rename_i h0
    split at h
    · cases h
    · split at h
      · rename_i h2; exact ⟨by simpa using h0, by omega, h2⟩
      · cases h
theorem un_put (b s tail : List UInt8) (hs : s.length ≤ 65536) :
    unE (b ++ frameL s ++ tail) b.length = 0 ∧ unS (b ++ frameL s ++ tail) b.length = s ∧ unP (b ++ frameL s ++ tail) b.length = (b ++ frameL s).length := by
  have e : b ++ frameL s ++ tail = b ++ text1 s ++ (le4 (sumL s) ++ tail) := by unfold frameL; simp
  obtain ⟨t1, t2, t3⟩ := text_put b s (le4 (sumL s) ++ tail) hs
  rw [← e] at t1 t2 t3
  have hE : unE (b ++ frameL s ++ tail) b.length = 0 := unE_ok t1 (by rw [t3]; simp [frameL, le4_len]; omega) (by
    rw [t2, t3, e]
    rw [show (((b ++ text1 s).length : Nat) : Int).toNat = (b ++ text1 s).length by omega, List.drop_left, List.take_append_of_le_length (by rw [le4_len]; exact Nat.le_refl _)]
    rfl)
  refine ⟨hE, by rw [unS_ok hE, t2], ?_⟩
  rw [unP_ok hE, t3]
  simp [frameL, le4_len]
  omega
theorem un_one {l : List UInt8} {a : Int} (h : unE l a = 0) : 0 ≤ a ∧ a < unP l a ∧ unP l a ≤ l.length ∧ (unS l a).length ≤ 65536 ∧
    frameL (unS l a) = (l.drop a.toNat).take ((unP l a).toNat - a.toNat) := by
  obtain ⟨h1, h2, h3⟩ := unE_parts h
  obtain ⟨g1, g2, g3, g4, g5⟩ := text_one h1
  rw [unP_ok h, unS_ok h]
  refine ⟨g1, by omega, by omega, g4, ?_⟩
  unfold frameL
  rw [g5, ← h3]
  have e : (textP l a + 4).toNat - a.toNat = ((textP l a).toNat - a.toNat) + 4 := by omega
  have e2 : (textP l a).toNat = a.toNat + ((textP l a).toNat - a.toNat) := by omega
  rw [e, List.take_add, List.drop_drop, ← e2]
/-- One byte of a frame's content or check is another one. -/
theorem un_harm (s : List UInt8) (hs : s.length ≤ 65536) (t k : List UInt8) (ht : t.length = s.length) (hk : k.length = 4) (hbad : k ≠ le4 (sumL t)) :
    unE (put1 s.length ++ t ++ k) 0 = 32 := by
  have e : put1 s.length ++ t ++ k = [] ++ text1 t ++ k := by unfold text1; simp [ht]
  obtain ⟨t1, t2, t3⟩ := text_put [] t k (by omega)
  rw [← e] at t1 t2 t3
  simp only [List.length_nil, Int.ofNat_zero, List.nil_append] at t1 t2 t3
  refine unE_sum t1 (by rw [t3]; simp [text1, ht, hk]; omega) ?_
  rw [t2, t3, e]
  rw [show (((text1 t).length : Nat) : Int).toNat = (text1 t).length by omega, List.nil_append, List.drop_left, List.take_of_length_le (by omega)]
  exact hbad
end Go.Proofs.YteedmmljahgpjabDoor.W

/-
  Masks, shifts and complements as plain arithmetic: facts for the walks of layer 3.
-/
namespace Go.Proofs.YteedmmljahgpjabDoor.W
open Go.RowKit

theorem wr64 (n : Int) (h₀ : 0 ≤ n) (h₁ : n < 2 ^ 64) : IntKind.u64.wrap n = n := by rw [IntKind.wrap_u64]; omega
theorem ones64 (b : Nat) (hb : b < 2 ^ 64) : (2 ^ 64 - 1) ^^^ b = 2 ^ 64 - 1 - b := by
  apply Nat.eq_of_testBit_eq
  intro i
  rw [Nat.testBit_xor, Nat.testBit_two_pow_sub_one, show 2 ^ 64 - 1 - b = 2 ^ 64 - (b + 1) by omega, Nat.testBit_two_pow_sub_succ hb]
  by_cases hi : i < 64
  · simp [hi]
  · have : b.testBit i = false := Nat.testBit_lt_two_pow (Nat.lt_of_lt_of_le hb (Nat.pow_le_pow_right (by decide) (by omega)))
    simp [hi, this]
theorem not64 (x : Int) (h0 : 0 ≤ x) (h1 : x ≤ 18446744073709551615) : bits .xor .u64 IntKind.u64.max x = 18446744073709551615 - x := by
  have e2 : IntKind.u64.max = ((2 ^ 64 - 1 : Nat) : Int) := by decide
  obtain ⟨a, rfl⟩ := Int.eq_ofNat_of_zero_le h0
  rw [e2, u64_xor_nat _ _ (by decide) (by omega), ones64 _ (by omega)]
  omega
theorem noti64 (x : Int) (h0 : 0 ≤ x) (h1 : x ≤ 9223372036854775807) : bits .xor .i64 (-1) x = -x - 1 := by
  obtain ⟨a, rfl⟩ := Int.eq_ofNat_of_zero_le h0
  show IntKind.i64.wrap ((BitVec.ofInt 64 (-1) ^^^ BitVec.ofInt 64 (a : Int)).toNat : Int) = _
  have h1 : (BitVec.ofInt 64 (-1)).toNat = 2 ^ 64 - 1 := by decide
  have h2 : (BitVec.ofInt 64 (a : Int)).toNat = a := by
    rw [BitVec.ofInt_natCast, BitVec.toNat_ofNat]; exact Nat.mod_eq_of_lt (by omega)
  rw [BitVec.toNat_xor, h1, h2, ones64 a (by omega), IntKind.wrap_i64]
  omega
theorem and1 (x : Int) (h0 : 0 ≤ x) (h1 : x ≤ 18446744073709551615) : bits .and .u64 x 1 = x % 2 := by
  have h := bits_mask .u64 64 (by decide) wr64 1 (by decide) x h0 (by omega)
  simpa using h
theorem and127 (x : Int) (h0 : 0 ≤ x) (h1 : x ≤ 18446744073709551615) : bits .and .u64 x 127 = x % 128 := by
  have h := bits_mask .u64 64 (by decide) wr64 7 (by decide) x h0 (by omega)
  simpa using h
theorem and127b (x : Int) (h0 : 0 ≤ x) (h1 : x ≤ 255) : bits .and .u8 x 127 = x % 128 := by
  have h := bits_mask .u8 8 (by decide) wraps_u8 7 (by decide) x h0 (by omega)
  simpa using h
theorem or128 (x : Int) (h0 : 0 ≤ x) (h1 : x ≤ 127) : bits .or .u8 x 128 = x + 128 := by
  obtain ⟨a, rfl⟩ := Int.eq_ofNat_of_zero_le h0
  have := u8_or_nat a 128 (by omega) (by decide)
  rw [show ((128 : Nat) : Int) = 128 from rfl] at this
  rw [this, Nat.or_comm, show (128 : Nat) = 2 ^ 7 * 1 by decide, ← Nat.two_pow_add_eq_or_of_lt (by omega) 1]
  omega
/-- A group of seven bits laid above others. -/
theorem or_above (n m s : Nat) (hn : n < 2 ^ s) (hm : m * 2 ^ s < 18446744073709551616) (hn2 : n < 18446744073709551616) :
    bits .or .u64 (n : Int) ((m * 2 ^ s : Nat) : Int) = ((n + m * 2 ^ s : Nat) : Int) := by
  rw [u64_or_nat _ _ hn2 hm, Nat.or_comm, Nat.mul_comm, ← Nat.two_pow_add_eq_or_of_lt hn m, Nat.add_comm]
end Go.Proofs.YteedmmljahgpjabDoor.W

/-
  Walks of layer 3's leaves: Size, Zig, Zag, Sum, mayEnd, and the document's Zig, Zag, Sum.
-/
namespace Go.Proofs.YteedmmljahgpjabDoor.W
open Go.RowKit

theorem retb {a b : Bool} (h : a = b) : Ending.returned (.bool a) = .returned (.bool b) := by rw [h]
theorem ret1 {k : IntKind} {a b : Int} (h : a = b) : Ending.returned (.int k a) = .returned (.int k b) := by rw [h]
theorem ret1s {a b : ByteArray} (h : a = b) : Ending.returned (.string a) = .returned (.string b) := by rw [h]
/-- A signed number as one without a sign, and back. -/
def zigN (n : Int) : Int := if 0 ≤ n then 2 * n else -2 * n - 1
def zagN (x : Int) : Int := if x % 2 = 0 then x / 2 else -(x / 2) - 1
theorem zag_zig (n : Int) : zagN (zigN n) = n := by unfold zagN zigN; split <;> split <;> omega
theorem zigN_bd (n : Int) (h0 : -9223372036854775808 ≤ n) (h1 : n ≤ 9223372036854775807) : 0 ≤ zigN n ∧ zigN n ≤ 18446744073709551615 := by unfold zigN; split <;> omega
theorem zagN_bd (x : Int) (h0 : 0 ≤ x) (h1 : x ≤ 18446744073709551615) : -9223372036854775808 ≤ zagN x ∧ zagN x ≤ 9223372036854775807 := by unfold zagN; split <;> omega
theorem zig_any (n : Int) (h0 : -9223372036854775808 ≤ n) (h1 : n ≤ 9223372036854775807) (w : World) :
    Calls Tryd.prog 40 #[.int .i64 n] w fun e w' => e = .returned (.int .u64 (zigN n)) ∧ w' = w := by
  by_cases hn : n < 0
  · have HN : Hid (bits .xor .u64 IntKind.u64.max (n % 18446744073709551616 * 2 % 18446744073709551616) = zigN n) := by
      show _ = _
      rw [not64 _ (by omega) (by omega)]
      unfold zigN
      rw [if_neg (by omega)]
      omega
    go_enter Tryd.func40, Tryd.ntmps40
    go_wp2_with fail
    go_ret
    exact ⟨ret1 (by simp only [IntKind.wrap_u64]; exact HN.out), rfl⟩
  · go_enter Tryd.func40, Tryd.ntmps40
    go_wp2_with fail
    go_ret
    exact ⟨ret1 (by unfold zigN; rw [if_pos (by omega)]; (try simp only [IntKind.wrap_u64]); omega), rfl⟩
theorem zag_any (x : Int) (h0 : 0 ≤ x) (h1 : x ≤ 18446744073709551615) (w : World) :
    Calls Tryd.prog 60 #[.int .u64 x] w fun e w' => e = .returned (.int .i64 (zagN x)) ∧ w' = w := by
  have hand := and1 x h0 h1
  have hnot := noti64 (x / 2) (by omega) (by omega)
  by_cases hn : x % 2 = 1
  · go_enter Tryd.func60, Tryd.ntmps60
    go_wp2_with fail
    go_ret
    exact ⟨ret1 (by unfold zagN; rw [if_neg (by omega)]; try simp only [hnot]), rfl⟩
  · go_enter Tryd.func60, Tryd.ntmps60
    go_wp2_with fail
    go_ret
    exact ⟨ret1 (by unfold zagN; rw [if_pos (by omega)]), rfl⟩
/-- May a number's last byte be this one? -/
def endB (c i : Int) : Bool := decide (¬ ((i = 9 ∧ c ≠ 1) ∨ (c = 0 ∧ 0 < i)))
theorem endEq {P Q : Prop} [Decidable P] [Decidable Q] (h : P ↔ Q) : decide P = decide Q := by simp [h]
theorem mayEnd_any (c i : Int) (c0 : 0 ≤ c) (c1 : c ≤ 255) (i0 : 0 ≤ i) (i1 : i ≤ 9) (w : World) :
    Calls Tryd.prog 73 #[.int .u8 c, .int .i64 i] w fun e w' => e = .returned (.bool (endB c i)) ∧ w' = w := by
  by_cases hi : i = 9
  · by_cases hc : c = 1
    · subst hi hc
      go_enter Tryd.func73, Tryd.ntmps73
      go_wp2_with fail
      go_ret
      exact ⟨retb (by decide), rfl⟩
    · go_enter Tryd.func73, Tryd.ntmps73
      go_wp2_with fail
      go_ret
      exact ⟨retb (endEq (by omega)), rfl⟩
  · by_cases hc : c = 0
    · by_cases h0 : i = 0
      · subst hc h0
        go_enter Tryd.func73, Tryd.ntmps73
        go_wp2_with fail
        go_ret
        exact ⟨retb (by decide), rfl⟩
      · go_enter Tryd.func73, Tryd.ntmps73
        go_wp2_with fail
        go_ret
        exact ⟨retb (endEq (by omega)), rfl⟩
    · go_enter Tryd.func73, Tryd.ntmps73
      go_wp2_with fail
      go_ret
      exact ⟨retb (by unfold endB; exact (decide_eq_true (by omega)).symm), rfl⟩
theorem sum_step (c : Nat) (x : UInt8) (hc : c < 4294967296) : bits .xor .u32 (c : Int) ((x.toNat : Int) % 4294967296) * 16777619 % 4294967296 = ((sumStep c x : Nat) : Int) := by
  have hx := x.toNat_lt
  rw [show (x.toNat : Int) % 4294967296 = ((x.toNat : Nat) : Int) by omega, u32_xor_nat _ _ hc (by omega)]
  unfold sumStep
  omega
theorem sumL_nil : sumL [] = 2166136261 := by unfold sumL; exact List.foldl_nil
theorem sumL_start (l : List UInt8) : (2166136261 : Int) = ((sumL (l.take 0) : Nat) : Int) := by
  have h : sumL (l.take 0) = 2166136261 := sumL_nil
  omega
theorem sum_any (s : ByteArray) (hs : s.size ≤ 140737488355328) (w : World) :
    Calls Tryd.prog 39 #[.string s] w fun e w' => e = .returned (.int .u32 (sumL s.data.toList : Nat)) ∧ w' = w := by
  go_enter Tryd.func39, Tryd.ntmps39
  go_wp2_with fail
  go_loop [3, 7] (fun c i => ∃ (k : Nat) (d : Int), k ≤ s.size ∧ i = .int .i64 k ∧ c = .int .u32 d ∧ Hid (d = (sumL (s.data.toList.take k) : Nat))) (fun _ i => s.size - (intOf i).toNat)
  case atStart => exact ⟨0, 2166136261, by omega, rfl, rfl, sumL_start _⟩
  case round =>
    obtain ⟨k, d, hk, rfl, rfl, HD⟩ := hrel
    by_cases hlt : k < s.size
    · have hstep := sum_step (sumL (s.data.toList.take k)) s[k] (sumL_lt _)
      rw [← HD.out, ← sumL_snoc, ← take_at s k hlt] at hstep
      go_wp2_with fail
      go_round
      case rel => exact ⟨k + 1, (sumL (s.data.toList.take (k + 1)) : Nat), by omega, by go_num, by rw [hstep], rfl⟩
      case measure => simp [intOf]; omega
    · go_wp2_with fail
      go_ret
      exact ⟨ret1 (by rw [HD.out, List.take_of_length_le (by rw [len_of]; omega)]), rfl⟩
end Go.Proofs.YteedmmljahgpjabDoor.W

/-
  A slice of bytes of the call's own, begun by a conversion from a text, and appended to byte by byte.
-/
namespace Go.Proofs.YteedmmljahgpjabDoor.W
open Go.RowKit

theorem Tryd.info5 : (Tryd.prog.info? 5).map (fun i => (i.zero, i.size, i.bytes)) = some (some (.int .u8 0), 1, 1) := by kernel_rfl
/-- A slice of bytes of the call's own. -/
def Buf (w : World) (base : Nat) (v : Value) (l : List UInt8) : Prop :=
  ∃ g cap, v = .slice (some ⟨g, 0, none⟩) l.length cap ∧ base ≤ g ∧ g < w.heap.size ∧ l.length ≤ cap ∧
    (∀ j (hj : j < l.length), w.cell? ⟨g, j, none⟩ = some (.int .u8 (l[j].toNat : Int))) ∧
    ∀ j, l.length ≤ j → j < cap → (w.cell? ⟨g, j, none⟩).isSome = true ∧ w.frozen? ⟨g, j, none⟩ = false
theorem Buf.on {w w' : World} {base : Nat} {v : Value} {l : List UInt8} (h : Buf w base v l) (hb : Below w.heap.size w w') : Buf w' base v l := by
  obtain ⟨g, cap, rfl, h1, h2, h3, h4, h5⟩ := h
  exact ⟨g, cap, rfl, h1, Nat.lt_of_lt_of_le h2 hb.size, h3, fun j hj => by rw [hb.cell h2]; exact h4 j hj, fun j a b => by rw [hb.cell h2, hb.frozen h2]; exact h5 j a b⟩
theorem Buf.alloc {w : World} {base : Nat} {v : Value} {l : List UInt8} (h : Buf w base v l) (o : Obj) : Buf (w.alloc o) base v l := h.on ((Below.refl _ w).alloc (Nat.le_refl _) o)
theorem cell_row {w : World} {g j : Nat} {cur : Array Value} {e : TypeId} {fr : Nat × Nat} (h : w.heap[g]? = some (.cells cur e fr)) : w.cell? ⟨g, j, none⟩ = cur[j]? := by
  unfold World.cell?
  rw [h]
  simp
theorem frozen_row {w : World} {g j : Nat} {cur : Array Value} {e : TypeId} {lo hi : Nat} (h : w.heap[g]? = some (.cells cur e (lo, hi))) : w.frozen? ⟨g, j, none⟩ = (decide (lo ≤ j) && decide (j < hi)) := by
  unfold World.frozen?
  rw [h]
/-- A text's bytes as a slice. -/
theorem buf_start (s : ByteArray) (w : World) : ∃ v w', (convert 9 32 (.string s)).run Tryd.prog w = .ok v w' ∧ Buf w' w.heap.size v s.data.toList ∧ Below w.heap.size w w' := by
  refine ⟨_, _, run_bytes_of_string (P := Tryd.prog) w 9 32 5 s Tryd.underlying9 Tryd.underlying32 Tryd.underlying5, ?_, ?_⟩
  · have hge := grownCap_ge w s.size 0 5
    generalize hC : bytesRow s (grownCap w s.size 0 5) = C
    have hCs : C.size = grownCap w s.size 0 5 := by
      rw [← hC]; unfold bytesRow
      simp only [Array.size_append, Array.size_map, Array.size_replicate]
      have : s.data.size = s.size := rfl
      omega
    have hrow : (w.drew.alloc (.cells C 5 (C.size, C.size + 1))).heap[w.heap.size]? = some (.cells C 5 (C.size, C.size + 1)) := by
      show (w.heap.push _)[w.heap.size]? = _
      simp
    refine ⟨w.heap.size, grownCap w s.size 0 5, by rw [len_of], Nat.le_refl _, by show _ < (w.heap.push _).size; simp, by rw [len_of]; exact hge, ?_, ?_⟩
    · intro j hj
      rw [cell_row hrow, ← hC, bytesRow_at s _ j (by simpa using hj)]
      simp
    · intro j h1 h2
      rw [cell_row hrow, frozen_row hrow]
      refine ⟨by rw [Array.getElem?_eq_getElem (by omega)]; rfl, ?_⟩
      have : decide (C.size ≤ j) = false := decide_eq_false (by omega)
      rw [this]; rfl
  · exact ((Below.refl _ w).drew).alloc (Nat.le_refl _) _
/-- One byte more. -/
theorem buf_append {w : World} {base : Nat} {v : Value} {l : List UInt8} (h : Buf w base v l) (hbase : base ≤ w.heap.size) (ty : TypeId) (ad : Addr) (c : UInt8) (hc : w.cell? ad = some (.int .u8 (c.toNat : Int)))
    (hlen : l.length + 1 ≤ 140737488355328) :
    ∃ v' w', (Builtin.append_ #[32, 32] ty #[v, .slice (some ad) 1 1]).run Tryd.prog w = .ok v' w' ∧ Buf w' base v' (l ++ [c]) ∧ Below base w w' := by
  obtain ⟨i0, hi, hz0, hz1, hz2⟩ := info_parts Tryd.info5
  obtain ⟨g, cap, rfl, hg, hlt, hle, hold, hsp⟩ := h
  have hnews : ∀ j u, [Value.int .u8 (c.toNat : Int)][j]? = some u → w.cell? (ad.add j) = some u := by
    intro j u hu
    match j, hu with
    | 0, hu =>
      simp at hu
      subst hu
      have : ad.add 0 = ad := by cases ad with | mk b o sp => cases sp <;> simp [Addr.add]
      rw [this]; exact hc
  by_cases hr : l.length + 1 ≤ cap
  · have hs := hsp l.length (Nat.le_refl _) (by omega)
    have hrun := run_append_room_cells (P := Tryd.prog) w 32 ty 5 i0 Tryd.underlying32 hi g 0 l.length cap ad 1 1 [.int .u8 (c.toNat : Int)] (by rw [hz1]; rfl) hnews (by intro u hu; simp at hu; subst hu; rfl) hr
      (fun j hj => by
        obtain rfl : j = 0 := by simp at hj; exact hj
        rw [hz1]; simpa using hs.1)
      (fun j hj => by
        obtain rfl : j = 0 := by simp at hj; exact hj
        rw [hz1]; simpa using hs.2)
    refine ⟨_, _, hrun, ?_, ?_⟩
    · rw [hz1, Nat.mul_one, Nat.zero_add]
      refine ⟨g, cap, by simp, hg, by show g < ((w.setCell ⟨g, l.length, none⟩ _).heap).size; simpa [World.setCell] using hlt, by simpa using hr, ?_, ?_⟩
      · intro j hj
        by_cases hj' : j < l.length
        · rw [World.cell?_setCells_out g _ _ _ _ (fun _ _ => Or.inl hj'), List.getElem_append_left hj']
          exact hold j hj'
        · obtain rfl : j = l.length := by simp at hj; omega
          have := World.cell?_setCells_in g [.int .u8 (c.toNat : Int)] l.length w (fun j hj => by
            obtain rfl : j = 0 := by simp at hj; exact hj
            simpa using hs.1) 0 (by simp)
          simpa using this
      · intro j h1 h2
        simp only [List.length_append, List.length_cons, List.length_nil] at h1
        rw [World.cell?_setCells_out g _ _ _ _ (fun _ _ => Or.inr (by simp; omega)), World.frozen?_setCells]
        exact hsp j (by omega) h2
    · exact (Below.refl base w).setCell (p := ⟨g, _, none⟩) hg _
  · obtain ⟨v', w', hrun, hown, hgr⟩ := run_append_arg_grows (P := Tryd.prog) w 32 ty 5 i0 (.int .u8 0) 1 1 Tryd.underlying32 hi hz0 hz1 hz2 rfl (by decide) ⟨g, 0, none⟩ l.length cap (l.map fun c => .int .u8 (c.toNat : Int)) (by simp)
      (fun j u hu => by
        rw [Addr.add_lit, Nat.zero_add]
        have hj : j < l.length := by have := (List.getElem?_eq_some_iff.1 hu).1; simpa using this
        rw [hold j hj]
        simp [List.getElem?_eq_getElem hj] at hu
        rw [← hu]) ad 1 1 [.int .u8 (c.toNat : Int)] rfl hnews (by omega) (by unfold maxLen; omega) (by omega)
    refine ⟨v', w', hrun, ?_, (Below.refl base w).grown hgr hbase (fun k hk => by cases hk)⟩
    rcases hown.2 with ⟨_, h0⟩ | ⟨g', cap', cur, rfl, hb', hg', hnc, _, hcs, htake⟩
    · omega
    · refine ⟨g', cap', by simp, Nat.le_trans hbase hb', (Array.getElem?_eq_some_iff.1 hg').1, by simpa using hnc, ?_, ?_⟩
      · intro j hj
        have hj' : j < l.length + 1 := by simpa using hj
        have hca := hown.cellAt j (by omega)
        rw [hca]
        by_cases hl : j < l.length
        · rw [List.getElem?_append_left (by simpa using hl)]
          simp [List.getElem_append_left hl, hl]
        · obtain rfl : j = l.length := by omega
          rw [List.getElem?_append_right (by simp)]
          simp
      · intro j h1 h2
        rw [cell_row hg', frozen_row hg']
        refine ⟨by rw [Array.getElem?_eq_getElem (by omega)]; rfl, ?_⟩
        simp
theorem wpList_append_buf (w : World) {ops : Array Oper} {rest : List Oper} {o : Oper} {a : Act} {Q : Exit → Act → World → Prop} (hgd : o.guard = none) (s x : Operand)
    (ho : o.op = .call { callee := .builtin .append, args := #[s, x], argTypes := #[32, 32] })
    {base : Nat} {v : Value} {l : List UInt8} (hs : a.eval s = v) (h : Buf w base v l) (hbase : base ≤ w.heap.size) (ad : Addr) (c : UInt8) (hx : a.eval x = .slice (some ad) 1 1) (hc : w.cell? ad = some (.int .u8 (c.toNat : Int)))
    (hlen : l.length + 1 ≤ 140737488355328)
    (hK : ∀ v' w', Buf w' base v' (l ++ [c]) → Below base w w' → wpList Tryd.prog ops Q rest (a.put o.dst v') w') : wpList Tryd.prog ops Q (o :: rest) a w := by
  refine wpList_plain hgd fun K hK' => ?_
  obtain ⟨v', w', hrun, r1, r2⟩ := buf_append h hbase o.type ad c hc hlen
  unfold Oper.wp
  simp [execOp, ho, resolve, invoke, builtin, hs, hx, hrun, Result.andThen]
  exact hK' _ _ (hK v' w' r1 r2)
/-- The bytes as a text. -/
theorem buf_string {w : World} {base : Nat} {v : Value} {l : List UInt8} (h : Buf w base v l) : (convert 32 9 v).run Tryd.prog w = .ok (.string (bytes l)) w := by
  obtain ⟨g, cap, rfl, _, _, _, hold, _⟩ := h
  refine run_convert_bytes_back (P := Tryd.prog) w 32 9 5 ⟨g, 0, none⟩ cap l Tryd.underlying32 Tryd.underlying5 Tryd.underlying9 (fun j hj => ?_)
  rw [Addr.add_lit, Nat.zero_add]
  exact hold j hj
end Go.Proofs.YteedmmljahgpjabDoor.W
