import Derived.Test.YteedmmljahgpjabGreatDoorM2
import Derived.WalkKit
import Derived.Laws.BitsAllLaws
import Derived.Laws.Bits64b
import Derived.Laws.BitsLemmas
import Derived.Laws.Closers25b
import Derived.Test.YteedmmljahgpjabGreatDoorProg
import Derived.Deep.QuietTactic
import Derived.BigQuiet
import Derived.Below
import Derived.ProofKit
import Derived.Outline
import Derived.ArgAppend
import Derived.Laws.IdiomStrings
import Derived.OwnWalk
import Derived.OpenShut
/-
  Plain mathematics of layer 3 (wire): what is read at a place, texts, checks, frames. No model in this text.
-/
namespace Go.Proofs.YteedmmljahgpjabGreatDoor.W

/-! ### A number at a place -/
def takeE (l : List UInt8) (a : Int) : Nat := if a < 0 ∨ (l.length : Int) < a then 1 else (tk 0 (l.drop a.toNat)).1
def takeN (l : List UInt8) (a : Int) : Nat := if takeE l a = 0 then (tk 0 (l.drop a.toNat)).2.2 else 0
def takeP (l : List UInt8) (a : Int) : Int := if takeE l a = 0 then a + ((tk 0 (l.drop a.toNat)).2.1 : Nat) else a
theorem takeE_arg {l : List UInt8} {a : Int} (h : a < 0 ∨ (l.length : Int) < a) : takeE l a = 1 := by unfold takeE; rw [if_pos h]
theorem takeE_in {l : List UInt8} {a : Int} (h1 : 0 ≤ a) (h2 : a ≤ l.length) : takeE l a = (tk 0 (l.drop a.toNat)).1 := by unfold takeE; rw [if_neg (by omega)]
theorem takeN_no {l : List UInt8} {a : Int} (h : takeE l a ≠ 0) : takeN l a = 0 := by unfold takeN; rw [if_neg h]
theorem takeP_no {l : List UInt8} {a : Int} (h : takeE l a ≠ 0) : takeP l a = a := by unfold takeP; rw [if_neg h]
theorem takeN_ok {l : List UInt8} {a : Int} (h : takeE l a = 0) : takeN l a = (tk 0 (l.drop a.toNat)).2.2 := by unfold takeN; rw [if_pos h]
theorem takeP_ok {l : List UInt8} {a : Int} (h : takeE l a = 0) : takeP l a = a + ((tk 0 (l.drop a.toNat)).2.1 : Nat) := by unfold takeP; rw [if_pos h]
theorem takeE_place {l : List UInt8} {a : Int} (h : takeE l a = 0) : 0 ≤ a ∧ a ≤ l.length := by
  unfold takeE at h
  split at h
  · cases h
  · omega
/-- What is taken is put again, byte by byte. -/
theorem take_one {l : List UInt8} {a : Int} (h : takeE l a = 0) : 0 ≤ a ∧ a < takeP l a ∧ takeP l a ≤ l.length ∧ takeN l a < 18446744073709551616 ∧
    put1 (takeN l a) = (l.drop a.toNat).take ((takeP l a).toNat - a.toNat) ∧ ((put1 (takeN l a)).length : Int) = takeP l a - a := by
  obtain ⟨h1, h2⟩ := takeE_place h
  have h' := h
  rw [takeE_in h1 h2] at h'
  obtain ⟨g1, g2, _, g4, g5⟩ := tk_one _ 0 h'
  rw [takeN_ok h, takeP_ok h]
  rw [List.length_drop] at g5
  have e : (a + ((tk 0 (l.drop a.toNat)).2.1 : Nat)).toNat - a.toNat = (tk 0 (l.drop a.toNat)).2.1 := by omega
  refine ⟨h1, by omega, by omega, by simpa using g2, by rw [e]; exact g1, ?_⟩
  rw [g1, List.length_take, List.length_drop]
  omega
/-! ### A text at a place -/
def textE (l : List UInt8) (a : Int) : Nat :=
  if takeE l a ≠ 0 then takeE l a else if 65536 < takeN l a then 31 else if (l.length : Int) < takeP l a + takeN l a then 30 else 0
def textS (l : List UInt8) (a : Int) : List UInt8 := if textE l a = 0 then (l.drop (takeP l a).toNat).take (takeN l a) else []
def textP (l : List UInt8) (a : Int) : Int := if textE l a = 0 then takeP l a + takeN l a else a
theorem textE_take {l : List UInt8} {a : Int} (h : takeE l a ≠ 0) : textE l a = takeE l a := by unfold textE; rw [if_pos h]
theorem textE_long {l : List UInt8} {a : Int} (h : takeE l a = 0) (h1 : 65536 < takeN l a) : textE l a = 31 := by unfold textE; rw [if_neg (fun hc => hc h), if_pos h1]
theorem textE_short {l : List UInt8} {a : Int} (h : takeE l a = 0) (h1 : ¬ 65536 < takeN l a) (h2 : (l.length : Int) < takeP l a + takeN l a) : textE l a = 30 := by
  unfold textE; rw [if_neg (fun hc => hc h), if_neg h1, if_pos h2]
theorem textE_ok {l : List UInt8} {a : Int} (h : takeE l a = 0) (h1 : ¬ 65536 < takeN l a) (h2 : ¬ (l.length : Int) < takeP l a + takeN l a) : textE l a = 0 := by
  unfold textE; rw [if_neg (fun hc => hc h), if_neg h1, if_neg h2]
theorem textS_no {l : List UInt8} {a : Int} (h : textE l a ≠ 0) : textS l a = [] := by unfold textS; rw [if_neg h]
theorem textP_no {l : List UInt8} {a : Int} (h : textE l a ≠ 0) : textP l a = a := by unfold textP; rw [if_neg h]
theorem textS_ok {l : List UInt8} {a : Int} (h : textE l a = 0) : textS l a = (l.drop (takeP l a).toNat).take (takeN l a) := by unfold textS; rw [if_pos h]
theorem textP_ok {l : List UInt8} {a : Int} (h : textE l a = 0) : textP l a = takeP l a + takeN l a := by unfold textP; rw [if_pos h]
theorem textE_parts {l : List UInt8} {a : Int} (h : textE l a = 0) : takeE l a = 0 ∧ takeN l a ≤ 65536 ∧ takeP l a + takeN l a ≤ l.length := by
  unfold textE at h
  split at h
  · contradiction
  · rename_i h0
    split at h
    · cases h
    · split at h
      · cases h
      · exact ⟨by simpa using h0, by omega, by omega⟩
/-- A text as bytes. -/
def text1 (s : List UInt8) : List UInt8 := put1 s.length ++ s
theorem text_one {l : List UInt8} {a : Int} (h : textE l a = 0) : 0 ≤ a ∧ a < textP l a ∧ textP l a ≤ l.length ∧ (textS l a).length ≤ 65536 ∧
    text1 (textS l a) = (l.drop a.toNat).take ((textP l a).toNat - a.toNat) := by
  obtain ⟨h1, h2, h3⟩ := textE_parts h
  obtain ⟨g1, g2, g3, _, g5, g6⟩ := take_one h1
  rw [textP_ok h]
  have hl : (textS l a).length = takeN l a := by rw [textS_ok h, List.length_take, List.length_drop]; omega
  refine ⟨g1, by omega, by omega, by omega, ?_⟩
  unfold text1
  rw [hl, g5, textS_ok h]
  have e : (takeP l a + (takeN l a : Nat)).toNat - a.toNat = ((takeP l a).toNat - a.toNat) + takeN l a := by omega
  have e2 : (takeP l a).toNat = a.toNat + ((takeP l a).toNat - a.toNat) := by omega
  rw [e, List.take_add, List.drop_drop, ← e2]
/-! ### The check -/
def sumStep (c : Nat) (x : UInt8) : Nat := ((c ^^^ x.toNat) * 16777619) % 4294967296
def sumL (l : List UInt8) : Nat := l.foldl sumStep 2166136261
theorem sumStep_lt (c : Nat) (x : UInt8) : sumStep c x < 4294967296 := Nat.mod_lt _ (by decide)
theorem fold_lt (l : List UInt8) : ∀ c, c < 4294967296 → l.foldl sumStep c < 4294967296 := by
  induction l with
  | nil => intro c h; exact h
  | cons x l ih => intro c _; exact ih _ (sumStep_lt c x)
theorem sumL_lt (l : List UInt8) : sumL l < 4294967296 := fold_lt l _ (by decide)
theorem sumL_snoc (l : List UInt8) (x : UInt8) : sumL (l ++ [x]) = sumStep (sumL l) x := by unfold sumL; rw [List.foldl_append, List.foldl_cons, List.foldl_nil]
/-- A check's four bytes. -/
def le4 (c : Nat) : List UInt8 := [UInt8.ofNat (c % 256), UInt8.ofNat (c / 256 % 256), UInt8.ofNat (c / 65536 % 256), UInt8.ofNat (c / 16777216 % 256)]
/-! ### Frames -/
def frameL (s : List UInt8) : List UInt8 := text1 s ++ le4 (sumL s)
def unE (l : List UInt8) (a : Int) : Nat :=
  if textE l a ≠ 0 then textE l a else if (l.length : Int) - textP l a < 4 then 30 else if (l.drop (textP l a).toNat).take 4 = le4 (sumL (textS l a)) then 0 else 32
def unS (l : List UInt8) (a : Int) : List UInt8 := if unE l a = 0 then textS l a else []
def unP (l : List UInt8) (a : Int) : Int := if unE l a = 0 then textP l a + 4 else a
theorem unE_text {l : List UInt8} {a : Int} (h : textE l a ≠ 0) : unE l a = textE l a := by unfold unE; rw [if_pos h]
theorem unE_short {l : List UInt8} {a : Int} (h : textE l a = 0) (h1 : (l.length : Int) - textP l a < 4) : unE l a = 30 := by unfold unE; rw [if_neg (fun hc => hc h), if_pos h1]
theorem unE_ok {l : List UInt8} {a : Int} (h : textE l a = 0) (h1 : ¬ (l.length : Int) - textP l a < 4) (h2 : (l.drop (textP l a).toNat).take 4 = le4 (sumL (textS l a))) : unE l a = 0 := by
  unfold unE; rw [if_neg (fun hc => hc h), if_neg h1, if_pos h2]
theorem unE_sum {l : List UInt8} {a : Int} (h : textE l a = 0) (h1 : ¬ (l.length : Int) - textP l a < 4) (h2 : (l.drop (textP l a).toNat).take 4 ≠ le4 (sumL (textS l a))) : unE l a = 32 := by
  unfold unE; rw [if_neg (fun hc => hc h), if_neg h1, if_neg h2]
theorem unS_no {l : List UInt8} {a : Int} (h : unE l a ≠ 0) : unS l a = [] := by unfold unS; rw [if_neg h]
theorem unP_no {l : List UInt8} {a : Int} (h : unE l a ≠ 0) : unP l a = a := by unfold unP; rw [if_neg h]
theorem unS_ok {l : List UInt8} {a : Int} (h : unE l a = 0) : unS l a = textS l a := by unfold unS; rw [if_pos h]
theorem unP_ok {l : List UInt8} {a : Int} (h : unE l a = 0) : unP l a = textP l a + 4 := by unfold unP; rw [if_pos h]
theorem unE_parts {l : List UInt8} {a : Int} (h : unE l a = 0) : textE l a = 0 ∧ 4 ≤ (l.length : Int) - textP l a ∧ (l.drop (textP l a).toNat).take 4 = le4 (sumL (textS l a)) := by
  unfold unE at h
  split at h
  · contradiction
  · rename_i h0
    split at h
    · cases h
    · split at h
      · rename_i h2; exact ⟨by simpa using h0, by omega, h2⟩
      · cases h
theorem un_one {l : List UInt8} {a : Int} (h : unE l a = 0) : 0 ≤ a ∧ a < unP l a ∧ unP l a ≤ l.length ∧ (unS l a).length ≤ 65536 ∧
    frameL (unS l a) = (l.drop a.toNat).take ((unP l a).toNat - a.toNat) := by
  obtain ⟨h1, h2, h3⟩ := unE_parts h
  obtain ⟨g1, g2, g3, g4, g5⟩ := text_one h1
  rw [unP_ok h, unS_ok h]
  refine ⟨g1, by omega, by omega, g4, ?_⟩
  unfold frameL
  rw [g5, ← h3]
  have e : (textP l a + 4).toNat - a.toNat = ((textP l a).toNat - a.toNat) + 4 := by omega
  have e2 : (textP l a).toNat = a.toNat + ((textP l a).toNat - a.toNat) := by omega
  rw [e, List.take_add, List.drop_drop, ← e2]
end Go.Proofs.YteedmmljahgpjabGreatDoor.W

/-
  Masks, shifts and complements as plain arithmetic: facts for the walks of layer 3.
-/
namespace Go.Proofs.YteedmmljahgpjabGreatDoor.W
open Go.RowKit

theorem wr64 (n : Int) (h₀ : 0 ≤ n) (h₁ : n < 2 ^ 64) : IntKind.u64.wrap n = n := by rw [IntKind.wrap_u64]; omega
theorem ones64 (b : Nat) (hb : b < 2 ^ 64) : (2 ^ 64 - 1) ^^^ b = 2 ^ 64 - 1 - b := by
  apply Nat.eq_of_testBit_eq
  intro i
  rw [Nat.testBit_xor, Nat.testBit_two_pow_sub_one, show 2 ^ 64 - 1 - b = 2 ^ 64 - (b + 1) by omega, Nat.testBit_two_pow_sub_succ hb]
  by_cases hi : i < 64
  · simp [hi]
  · have : b.testBit i = false := Nat.testBit_lt_two_pow (Nat.lt_of_lt_of_le hb (Nat.pow_le_pow_right (by decide) (by omega)))
    simp [hi, this]
theorem not64 (x : Int) (h0 : 0 ≤ x) (h1 : x ≤ 18446744073709551615) : bits .xor .u64 IntKind.u64.max x = 18446744073709551615 - x := by
  have e2 : IntKind.u64.max = ((2 ^ 64 - 1 : Nat) : Int) := by decide
  obtain ⟨a, rfl⟩ := Int.eq_ofNat_of_zero_le h0
  rw [e2, u64_xor_nat _ _ (by decide) (by omega), ones64 _ (by omega)]
  omega
theorem noti64 (x : Int) (h0 : 0 ≤ x) (h1 : x ≤ 9223372036854775807) : bits .xor .i64 (-1) x = -x - 1 := by
  obtain ⟨a, rfl⟩ := Int.eq_ofNat_of_zero_le h0
  show IntKind.i64.wrap ((BitVec.ofInt 64 (-1) ^^^ BitVec.ofInt 64 (a : Int)).toNat : Int) = _
  have h1 : (BitVec.ofInt 64 (-1)).toNat = 2 ^ 64 - 1 := by decide
  have h2 : (BitVec.ofInt 64 (a : Int)).toNat = a := by
    rw [BitVec.ofInt_natCast, BitVec.toNat_ofNat]; exact Nat.mod_eq_of_lt (by omega)
  rw [BitVec.toNat_xor, h1, h2, ones64 a (by omega), IntKind.wrap_i64]
  omega
theorem and1 (x : Int) (h0 : 0 ≤ x) (h1 : x ≤ 18446744073709551615) : bits .and .u64 x 1 = x % 2 := by
  have h := bits_mask .u64 64 (by decide) wr64 1 (by decide) x h0 (by omega)
  simpa using h
theorem and127 (x : Int) (h0 : 0 ≤ x) (h1 : x ≤ 18446744073709551615) : bits .and .u64 x 127 = x % 128 := by
  have h := bits_mask .u64 64 (by decide) wr64 7 (by decide) x h0 (by omega)
  simpa using h
theorem and127b (x : Int) (h0 : 0 ≤ x) (h1 : x ≤ 255) : bits .and .u8 x 127 = x % 128 := by
  have h := bits_mask .u8 8 (by decide) wraps_u8 7 (by decide) x h0 (by omega)
  simpa using h
theorem or128 (x : Int) (h0 : 0 ≤ x) (h1 : x ≤ 127) : bits .or .u8 x 128 = x + 128 := by
  obtain ⟨a, rfl⟩ := Int.eq_ofNat_of_zero_le h0
  have := u8_or_nat a 128 (by omega) (by decide)
  rw [show ((128 : Nat) : Int) = 128 from rfl] at this
  rw [this, Nat.or_comm, show (128 : Nat) = 2 ^ 7 * 1 by decide, ← Nat.two_pow_add_eq_or_of_lt (by omega) 1]
  omega
/-- A group of seven bits laid above others. -/
theorem or_above (n m s : Nat) (hn : n < 2 ^ s) (hm : m * 2 ^ s < 18446744073709551616) (hn2 : n < 18446744073709551616) :
    bits .or .u64 (n : Int) ((m * 2 ^ s : Nat) : Int) = ((n + m * 2 ^ s : Nat) : Int) := by
  rw [u64_or_nat _ _ hn2 hm, Nat.or_comm, Nat.mul_comm, ← Nat.two_pow_add_eq_or_of_lt hn m, Nat.add_comm]
end Go.Proofs.YteedmmljahgpjabGreatDoor.W

/-
  Walks of layer 3's leaves: Size, Zig, Zag, Sum, mayEnd, and the document's Zig, Zag, Sum.
-/
namespace Go.Proofs.YteedmmljahgpjabGreatDoor.W
open Go.RowKit

theorem retb {a b : Bool} (h : a = b) : Ending.returned (.bool a) = .returned (.bool b) := by rw [h]
theorem ret1 {k : IntKind} {a b : Int} (h : a = b) : Ending.returned (.int k a) = .returned (.int k b) := by rw [h]
theorem ret1s {a b : ByteArray} (h : a = b) : Ending.returned (.string a) = .returned (.string b) := by rw [h]
/-- A signed number as one without a sign, and back. -/
def zigN (n : Int) : Int := if 0 ≤ n then 2 * n else -2 * n - 1
def zagN (x : Int) : Int := if x % 2 = 0 then x / 2 else -(x / 2) - 1
theorem zig_zag (x : Int) (h : 0 ≤ x) : zigN (zagN x) = x := by unfold zagN zigN; split <;> split <;> omega
theorem zigN_bd (n : Int) (h0 : -9223372036854775808 ≤ n) (h1 : n ≤ 9223372036854775807) : 0 ≤ zigN n ∧ zigN n ≤ 18446744073709551615 := by unfold zigN; split <;> omega
theorem zagN_bd (x : Int) (h0 : 0 ≤ x) (h1 : x ≤ 18446744073709551615) : -9223372036854775808 ≤ zagN x ∧ zagN x ≤ 9223372036854775807 := by unfold zagN; split <;> omega
theorem zig_any (n : Int) (h0 : -9223372036854775808 ≤ n) (h1 : n ≤ 9223372036854775807) (w : World) :
    Calls Tryz.prog 63 #[.int .i64 n] w fun e w' => e = .returned (.int .u64 (zigN n)) ∧ w' = w := by
  by_cases hn : n < 0
  · have HN : Hid (bits .xor .u64 IntKind.u64.max (n % 18446744073709551616 * 2 % 18446744073709551616) = zigN n) := by
      show _ = _
      rw [not64 _ (by omega) (by omega)]
      unfold zigN
      rw [if_neg (by omega)]
      omega
    go_enter Tryz.func63, Tryz.ntmps63
    go_wp2_with fail
    go_ret
    exact ⟨ret1 (by simp only [IntKind.wrap_u64]; exact HN.out), rfl⟩
  · go_enter Tryz.func63, Tryz.ntmps63
    go_wp2_with fail
    go_ret
    exact ⟨ret1 (by unfold zigN; rw [if_pos (by omega)]; (try simp only [IntKind.wrap_u64]); omega), rfl⟩
theorem zag_any (x : Int) (h0 : 0 ≤ x) (h1 : x ≤ 18446744073709551615) (w : World) :
    Calls Tryz.prog 72 #[.int .u64 x] w fun e w' => e = .returned (.int .i64 (zagN x)) ∧ w' = w := by
  have hand := and1 x h0 h1
  have hnot := noti64 (x / 2) (by omega) (by omega)
  by_cases hn : x % 2 = 1
  · go_enter Tryz.func72, Tryz.ntmps72
    go_wp2_with fail
    go_ret
    exact ⟨ret1 (by unfold zagN; rw [if_neg (by omega)]; try simp only [hnot]), rfl⟩
  · go_enter Tryz.func72, Tryz.ntmps72
    go_wp2_with fail
    go_ret
    exact ⟨ret1 (by unfold zagN; rw [if_pos (by omega)]), rfl⟩
/-- May a number's last byte be this one? -/
def endB (c i : Int) : Bool := decide (¬ ((i = 9 ∧ c ≠ 1) ∨ (c = 0 ∧ 0 < i)))
theorem endEq {P Q : Prop} [Decidable P] [Decidable Q] (h : P ↔ Q) : decide P = decide Q := by simp [h]
theorem mayEnd_any (c i : Int) (c0 : 0 ≤ c) (c1 : c ≤ 255) (i0 : 0 ≤ i) (i1 : i ≤ 9) (w : World) :
    Calls Tryz.prog 90 #[.int .u8 c, .int .i64 i] w fun e w' => e = .returned (.bool (endB c i)) ∧ w' = w := by
  by_cases hi : i = 9
  · by_cases hc : c = 1
    · subst hi hc
      go_enter Tryz.func90, Tryz.ntmps90
      go_wp2_with fail
      go_ret
      exact ⟨retb (by decide), rfl⟩
    · go_enter Tryz.func90, Tryz.ntmps90
      go_wp2_with fail
      go_ret
      exact ⟨retb (endEq (by omega)), rfl⟩
  · by_cases hc : c = 0
    · by_cases h0 : i = 0
      · subst hc h0
        go_enter Tryz.func90, Tryz.ntmps90
        go_wp2_with fail
        go_ret
        exact ⟨retb (by decide), rfl⟩
      · go_enter Tryz.func90, Tryz.ntmps90
        go_wp2_with fail
        go_ret
        exact ⟨retb (endEq (by omega)), rfl⟩
    · go_enter Tryz.func90, Tryz.ntmps90
      go_wp2_with fail
      go_ret
      exact ⟨retb (by unfold endB; exact (decide_eq_true (by omega)).symm), rfl⟩
theorem sum_step (c : Nat) (x : UInt8) (hc : c < 4294967296) : bits .xor .u32 (c : Int) ((x.toNat : Int) % 4294967296) * 16777619 % 4294967296 = ((sumStep c x : Nat) : Int) := by
  have hx := x.toNat_lt
  rw [show (x.toNat : Int) % 4294967296 = ((x.toNat : Nat) : Int) by omega, u32_xor_nat _ _ hc (by omega)]
  unfold sumStep
  omega
theorem sumL_nil : sumL [] = 2166136261 := by unfold sumL; exact List.foldl_nil
theorem sumL_start (l : List UInt8) : (2166136261 : Int) = ((sumL (l.take 0) : Nat) : Int) := by
  have h : sumL (l.take 0) = 2166136261 := sumL_nil
  omega
theorem sum_any (s : ByteArray) (hs : s.size ≤ 140737488355328) (w : World) :
    Calls Tryz.prog 62 #[.string s] w fun e w' => e = .returned (.int .u32 (sumL s.data.toList : Nat)) ∧ w' = w := by
  go_enter Tryz.func62, Tryz.ntmps62
  go_wp2_with fail
  go_loop [3, 7] (fun c i => ∃ (k : Nat) (d : Int), k ≤ s.size ∧ i = .int .i64 k ∧ c = .int .u32 d ∧ Hid (d = (sumL (s.data.toList.take k) : Nat))) (fun _ i => s.size - (intOf i).toNat)
  case atStart => exact ⟨0, 2166136261, by omega, rfl, rfl, sumL_start _⟩
  case round =>
    obtain ⟨k, d, hk, rfl, rfl, HD⟩ := hrel
    by_cases hlt : k < s.size
    · have hstep := sum_step (sumL (s.data.toList.take k)) s[k] (sumL_lt _)
      rw [← HD.out, ← sumL_snoc, ← take_at s k hlt] at hstep
      go_wp2_with fail
      go_round
      case rel => exact ⟨k + 1, (sumL (s.data.toList.take (k + 1)) : Nat), by omega, by go_num, by rw [hstep], rfl⟩
      case measure => simp [intOf]; omega
    · go_wp2_with fail
      go_ret
      exact ⟨ret1 (by rw [HD.out, List.take_of_length_le (by rw [len_of]; omega)]), rfl⟩
end Go.Proofs.YteedmmljahgpjabGreatDoor.W

/-
  A slice of bytes of the call's own, begun by a conversion from a text, and appended to byte by byte.
-/
namespace Go.Proofs.YteedmmljahgpjabGreatDoor.W
open Go.RowKit

theorem Tryz.info5 : (Tryz.prog.info? 5).map (fun i => (i.zero, i.size, i.bytes)) = some (some (.int .u8 0), 1, 1) := by kernel_rfl
/-- A slice of bytes of the call's own. -/
def Buf (w : World) (base : Nat) (v : Value) (l : List UInt8) : Prop :=
  ∃ g cap, v = .slice (some ⟨g, 0, none⟩) l.length cap ∧ base ≤ g ∧ g < w.heap.size ∧ l.length ≤ cap ∧
    (∀ j (hj : j < l.length), w.cell? ⟨g, j, none⟩ = some (.int .u8 (l[j].toNat : Int))) ∧
    ∀ j, l.length ≤ j → j < cap → (w.cell? ⟨g, j, none⟩).isSome = true ∧ w.frozen? ⟨g, j, none⟩ = false
theorem Buf.on {w w' : World} {base : Nat} {v : Value} {l : List UInt8} (h : Buf w base v l) (hb : Below w.heap.size w w') : Buf w' base v l := by
  obtain ⟨g, cap, rfl, h1, h2, h3, h4, h5⟩ := h
  exact ⟨g, cap, rfl, h1, Nat.lt_of_lt_of_le h2 hb.size, h3, fun j hj => by rw [hb.cell h2]; exact h4 j hj, fun j a b => by rw [hb.cell h2, hb.frozen h2]; exact h5 j a b⟩
theorem Buf.alloc {w : World} {base : Nat} {v : Value} {l : List UInt8} (h : Buf w base v l) (o : Obj) : Buf (w.alloc o) base v l := h.on ((Below.refl _ w).alloc (Nat.le_refl _) o)
theorem cell_row {w : World} {g j : Nat} {cur : Array Value} {e : TypeId} {fr : Nat × Nat} (h : w.heap[g]? = some (.cells cur e fr)) : w.cell? ⟨g, j, none⟩ = cur[j]? := by
  unfold World.cell?
  rw [h]
  simp
theorem frozen_row {w : World} {g j : Nat} {cur : Array Value} {e : TypeId} {lo hi : Nat} (h : w.heap[g]? = some (.cells cur e (lo, hi))) : w.frozen? ⟨g, j, none⟩ = (decide (lo ≤ j) && decide (j < hi)) := by
  unfold World.frozen?
  rw [h]
/-- A text's bytes as a slice. -/
theorem buf_start (s : ByteArray) (w : World) : ∃ v w', (convert 9 125 (.string s)).run Tryz.prog w = .ok v w' ∧ Buf w' w.heap.size v s.data.toList ∧ Below w.heap.size w w' := by
  refine ⟨_, _, run_bytes_of_string (P := Tryz.prog) w 9 125 5 s Tryz.underlying9 Tryz.underlying125 Tryz.underlying5, ?_, ?_⟩
  · have hge := grownCap_ge w s.size 0 5
    generalize hC : bytesRow s (grownCap w s.size 0 5) = C
    have hCs : C.size = grownCap w s.size 0 5 := by
      rw [← hC]; unfold bytesRow
      simp only [Array.size_append, Array.size_map, Array.size_replicate]
      have : s.data.size = s.size := rfl
      omega
    have hrow : (w.drew.alloc (.cells C 5 (C.size, C.size + 1))).heap[w.heap.size]? = some (.cells C 5 (C.size, C.size + 1)) := by
      show (w.heap.push _)[w.heap.size]? = _
      simp
    refine ⟨w.heap.size, grownCap w s.size 0 5, by rw [len_of], Nat.le_refl _, by show _ < (w.heap.push _).size; simp, by rw [len_of]; exact hge, ?_, ?_⟩
    · intro j hj
      rw [cell_row hrow, ← hC, bytesRow_at s _ j (by simpa using hj)]
      simp
    · intro j h1 h2
      rw [cell_row hrow, frozen_row hrow]
      refine ⟨by rw [Array.getElem?_eq_getElem (by omega)]; rfl, ?_⟩
      have : decide (C.size ≤ j) = false := decide_eq_false (by omega)
      rw [this]; rfl
  · exact ((Below.refl _ w).drew).alloc (Nat.le_refl _) _
/-- One byte more. -/
theorem buf_append {w : World} {base : Nat} {v : Value} {l : List UInt8} (h : Buf w base v l) (hbase : base ≤ w.heap.size) (ty : TypeId) (ad : Addr) (c : UInt8) (hc : w.cell? ad = some (.int .u8 (c.toNat : Int)))
    (hlen : l.length + 1 ≤ 140737488355328) :
    ∃ v' w', (Builtin.append_ #[125, 125] ty #[v, .slice (some ad) 1 1]).run Tryz.prog w = .ok v' w' ∧ Buf w' base v' (l ++ [c]) ∧ Below base w w' := by
  obtain ⟨i0, hi, hz0, hz1, hz2⟩ := info_parts Tryz.info5
  obtain ⟨g, cap, rfl, hg, hlt, hle, hold, hsp⟩ := h
  have hnews : ∀ j u, [Value.int .u8 (c.toNat : Int)][j]? = some u → w.cell? (ad.add j) = some u := by
    intro j u hu
    match j, hu with
    | 0, hu =>
      simp at hu
      subst hu
      have : ad.add 0 = ad := by cases ad with | mk b o sp => cases sp <;> simp [Addr.add]
      rw [this]; exact hc
  by_cases hr : l.length + 1 ≤ cap
  · have hs := hsp l.length (Nat.le_refl _) (by omega)
    have hrun := run_append_room_cells (P := Tryz.prog) w 125 ty 5 i0 Tryz.underlying125 hi g 0 l.length cap ad 1 1 [.int .u8 (c.toNat : Int)] (by rw [hz1]; rfl) hnews (by intro u hu; simp at hu; subst hu; rfl) hr
      (fun j hj => by
        obtain rfl : j = 0 := by simp at hj; exact hj
        rw [hz1]; simpa using hs.1)
      (fun j hj => by
        obtain rfl : j = 0 := by simp at hj; exact hj
        rw [hz1]; simpa using hs.2)
    refine ⟨_, _, hrun, ?_, ?_⟩
    · rw [hz1, Nat.mul_one, Nat.zero_add]
      refine ⟨g, cap, by simp, hg, by show g < ((w.setCell ⟨g, l.length, none⟩ _).heap).size; simpa [World.setCell] using hlt, by simpa using hr, ?_, ?_⟩
      · intro j hj
        by_cases hj' : j < l.length
        · rw [World.cell?_setCells_out g _ _ _ _ (fun _ _ => Or.inl hj'), List.getElem_append_left hj']
          exact hold j hj'
        · obtain rfl : j = l.length := by simp at hj; omega
          have := World.cell?_setCells_in g [.int .u8 (c.toNat : Int)] l.length w (fun j hj => by
            obtain rfl : j = 0 := by simp at hj; exact hj
            simpa using hs.1) 0 (by simp)
          simpa using this
      · intro j h1 h2
        simp only [List.length_append, List.length_cons, List.length_nil] at h1
        rw [World.cell?_setCells_out g _ _ _ _ (fun _ _ => Or.inr (by simp; omega)), World.frozen?_setCells]
        exact hsp j (by omega) h2
    · exact (Below.refl base w).setCell (p := ⟨g, _, none⟩) hg _
  · obtain ⟨v', w', hrun, hown, hgr⟩ := run_append_arg_grows (P := Tryz.prog) w 125 ty 5 i0 (.int .u8 0) 1 1 Tryz.underlying125 hi hz0 hz1 hz2 rfl (by decide) ⟨g, 0, none⟩ l.length cap (l.map fun c => .int .u8 (c.toNat : Int)) (by simp)
      (fun j u hu => by
        rw [Addr.add_lit, Nat.zero_add]
        have hj : j < l.length := by have := (List.getElem?_eq_some_iff.1 hu).1; simpa using this
        rw [hold j hj]
        simp [List.getElem?_eq_getElem hj] at hu
        rw [← hu]) ad 1 1 [.int .u8 (c.toNat : Int)] rfl hnews (by omega) (by unfold maxLen; omega) (by omega)
    refine ⟨v', w', hrun, ?_, (Below.refl base w).grown hgr hbase (fun k hk => by cases hk)⟩
    rcases hown.2 with ⟨_, h0⟩ | ⟨g', cap', cur, rfl, hb', hg', hnc, _, hcs, htake⟩
    · omega
    · refine ⟨g', cap', by simp, Nat.le_trans hbase hb', (Array.getElem?_eq_some_iff.1 hg').1, by simpa using hnc, ?_, ?_⟩
      · intro j hj
        have hj' : j < l.length + 1 := by simpa using hj
        have hca := hown.cellAt j (by omega)
        rw [hca]
        by_cases hl : j < l.length
        · rw [List.getElem?_append_left (by simpa using hl)]
          simp [List.getElem_append_left hl, hl]
        · obtain rfl : j = l.length := by omega
          rw [List.getElem?_append_right (by simp)]
          simp
      · intro j h1 h2
        rw [cell_row hg', frozen_row hg']
        refine ⟨by rw [Array.getElem?_eq_getElem (by omega)]; rfl, ?_⟩
        simp
theorem wpList_append_buf (w : World) {ops : Array Oper} {rest : List Oper} {o : Oper} {a : Act} {Q : Exit → Act → World → Prop} (hgd : o.guard = none) (s x : Operand)
    (ho : o.op = .call { callee := .builtin .append, args := #[s, x], argTypes := #[125, 125] })
    {base : Nat} {v : Value} {l : List UInt8} (hs : a.eval s = v) (h : Buf w base v l) (hbase : base ≤ w.heap.size) (ad : Addr) (c : UInt8) (hx : a.eval x = .slice (some ad) 1 1) (hc : w.cell? ad = some (.int .u8 (c.toNat : Int)))
    (hlen : l.length + 1 ≤ 140737488355328)
    (hK : ∀ v' w', Buf w' base v' (l ++ [c]) → Below base w w' → wpList Tryz.prog ops Q rest (a.put o.dst v') w') : wpList Tryz.prog ops Q (o :: rest) a w := by
  refine wpList_plain hgd fun K hK' => ?_
  obtain ⟨v', w', hrun, r1, r2⟩ := buf_append h hbase o.type ad c hc hlen
  unfold Oper.wp
  simp [execOp, ho, resolve, invoke, builtin, hs, hx, hrun, Result.andThen]
  exact hK' _ _ (hK v' w' r1 r2)
/-- The bytes as a text. -/
theorem buf_string {w : World} {base : Nat} {v : Value} {l : List UInt8} (h : Buf w base v l) : (convert 125 9 v).run Tryz.prog w = .ok (.string (bytes l)) w := by
  obtain ⟨g, cap, rfl, _, _, _, hold, _⟩ := h
  refine run_convert_bytes_back (P := Tryz.prog) w 125 9 5 ⟨g, 0, none⟩ cap l Tryz.underlying125 Tryz.underlying5 Tryz.underlying9 (fun j hj => ?_)
  rw [Addr.add_lit, Nat.zero_add]
  exact hold j hj
end Go.Proofs.YteedmmljahgpjabGreatDoor.W

/-
  Numbers behind bytes: wire's Put, PutText, and the document's.
-/
namespace Go.Proofs.YteedmmljahgpjabGreatDoor.W
open Go.RowKit

/-- The cells of a slice of numbers: nothing where there is no array. -/
def Lies (w : World) (ao : Option Addr) (len : Nat) (zs : List Int) : Prop :=
  zs.length = len ∧ (ao = none → len = 0) ∧ ∀ ad, ao = some ad → ∀ j, j < len → w.cell? (ad.add j) = some (.int .u64 (zs.getD j 0))
theorem Lies.below {w w' : World} {ao : Option Addr} {len : Nat} {zs : List Int} (h : Lies w ao len zs) (hb : Below w.heap.size w w') : Lies w' ao len zs := by
  refine ⟨h.1, h.2.1, fun ad had j hj => ?_⟩
  have hc := h.2.2 ad had j hj
  rw [hb.cell (World.block_lt_of_cell? w _ hc)]
  exact hc
/-- Where there is a number there is an array. -/
theorem Lies.addr {w : World} {ao : Option Addr} {len : Nat} {zs : List Int} (h : Lies w ao len zs) (h0 : 0 < len) :
    ∃ b off, ao = some ⟨b, off, none⟩ ∧ b < w.heap.size ∧ ∀ j, j < len → w.cell? ⟨b, off + j, none⟩ = some (.int .u64 (zs.getD j 0)) := by
  cases ao with
  | none => have := h.2.1 rfl; omega
  | some ad =>
    have hc := h.2.2 ad rfl
    obtain ⟨b, off, rfl, hc'⟩ := ints_at (zs := zs) (fun i hi => hc i (by rw [← h.1]; exact hi)) (by rw [h.1]; exact h0)
    rw [h.1] at hc'
    exact ⟨b, off, rfl, World.block_lt_of_cell? w _ (hc' 0 h0), hc'⟩
/-- Each number is one of 64 bits. -/
def Fits (zs : List Int) : Prop := ∀ j : Nat, 0 ≤ zs.getD j 0 ∧ zs.getD j 0 ≤ 18446744073709551615
/-- The numbers as plain ones. -/
def nats (zs : List Int) : List Nat := zs.map Int.toNat
theorem nats_take {zs : List Int} {k : Nat} (h : k < zs.length) : nats (zs.take (k + 1)) = nats (zs.take k) ++ [(zs.getD k 0).toNat] := by
  unfold nats
  rw [List.take_succ_eq_append_getElem h, List.map_append]
  simp [List.getD, h]
theorem nats_fit {zs : List Int} (h : Fits zs) : ∀ n ∈ nats zs, n < 18446744073709551616 := by
  intro n hn
  unfold nats at hn
  obtain ⟨z, hz, rfl⟩ := List.mem_map.1 hn
  obtain ⟨j, hj, rfl⟩ := List.mem_iff_getElem.1 hz
  have := h j
  simp only [List.getD, List.getElem?_eq_getElem hj, Option.getD_some] at this
  omega
theorem putL_take {zs : List Int} {k : Nat} (h : k < zs.length) : putL (nats (zs.take (k + 1))) = putL (nats (zs.take k)) ++ put1 (zs.getD k 0).toNat := by
  rw [nats_take h, putL_append, putL_one]
theorem putL_take_len {zs : List Int} (h : Fits zs) (k : Nat) : (putL (nats (zs.take k))).length ≤ 10 * zs.length := by
  have h1 : Fits (zs.take k) := by
    intro j
    by_cases hj : j < k
    · have e : (zs.take k).getD j 0 = zs.getD j 0 := by simp [List.getD, hj]
      rw [e]; exact h j
    · have e : (zs.take k).getD j 0 = 0 := by simp [List.getD, List.getElem?_take, hj]
      rw [e]; omega
  have h2 := putL_len _ (nats_fit h1)
  have h3 : (nats (zs.take k)).length ≤ zs.length := by unfold nats; rw [List.length_map, List.length_take]; omega
  omega
theorem up {B : Nat} {w wr : World} (h : Below B w wr) (hB : B ≤ w.heap.size) (o : Obj) : B ≤ (wr.alloc o).heap.size := by
  have h1 := h.size
  have h2 : (wr.alloc o).heap.size = wr.heap.size + 1 := by show (wr.heap.push o).size = _; simp
  omega
theorem cell_new (w : World) {x : Int} {c : UInt8} (h : x = (c.toNat : Int)) : (w.alloc (.cells #[.int .u8 x] 5)).cell? ⟨w.heap.size, 0, none⟩ = some (.int .u8 (c.toNat : Int)) := by
  rw [World.cell?_alloc_mark, ← h]
  rfl
theorem byte_low (y : Int) (h0 : 0 ≤ y) (h1 : y < 128) : ((UInt8.ofNat y.toNat).toNat : Int) = y := by rw [ofNat_small (by omega)]; omega
theorem byte_more (y : Int) (h0 : 0 ≤ y) : ((UInt8.ofNat (y.toNat % 128 + 128)).toNat : Int) = y % 128 + 128 := by rw [ofNat_small (by omega)]; omega
set_option maxHeartbeats 1000000 in
theorem put_any (s : ByteArray) (b off len cap : Nat) (zs : List Int) (w : World) (hz : zs.length = len) (hmax : s.size + 10 * len ≤ 1099511627776) (hf : Fits zs) (hb : b < w.heap.size)
    (hcell : ∀ j, j < len → w.cell? ⟨b, off + j, none⟩ = some (.int .u64 (zs.getD j 0))) :
    Calls Tryz.prog 38 #[.string s, .slice (some ⟨b, off, none⟩) len cap] w fun e w' => e = .returned (.string (bytes (s.data.toList ++ putL (nats zs)))) ∧ Below w.heap.size w w' := by
  obtain ⟨v0, w0, hconv, hbuf0, hbel0⟩ := buf_start s w
  have hsl := len_of s
  go_enter Tryz.func38, Tryz.ntmps38
  go_wp2_with fail
  go_loopw [5, 12] (fun v i wr => ∃ (k : Nat) (acc : List UInt8), k ≤ len ∧ i = .int .i64 k ∧ Buf wr w.heap.size v acc ∧ Below w.heap.size w wr ∧ Hid (acc = s.data.toList ++ putL (nats (zs.take k)))) (fun _ i _ => len - (intOf i).toNat)
  case atStart => exact ⟨0, _, Nat.zero_le _, rfl, hbuf0, hbel0, by show _ = _; rw [List.take_zero]; exact (List.append_nil _).symm⟩
  case round =>
    obtain ⟨k, acc, hk, rfl, hbuf, hbel, HA⟩ := hrel
    by_cases hlt : k < len
    · have hlt' : (k : Int) < (len : Int) := by omega
      obtain ⟨z, ez⟩ : ∃ z, z = zs.getD k 0 := ⟨_, rfl⟩
      have hz01 := hf k
      have hc := hcell k hlt
      rw [← ez] at hz01 hc
      obtain ⟨z0, z1⟩ := hz01
      have hT : Hid (acc ++ put1 z.toNat = s.data.toList ++ putL (nats (zs.take (k + 1)))) := by show _ = _; rw [HA.out, putL_take (by omega), List.append_assoc, ez]
      have hTl : (s.data.toList ++ putL (nats (zs.take (k + 1)))).length ≤ 1099511627776 := by
        have := putL_take_len hf (k + 1)
        rw [List.length_append]; omega
      obtain ⟨T, eT⟩ : ∃ T, T = s.data.toList ++ putL (nats (zs.take (k + 1))) := ⟨_, rfl⟩
      have HT : Hid (T = s.data.toList ++ putL (nats (zs.take (k + 1)))) := eT
      rw [← eT] at hT hTl
      have hcw := hbel.cell (p := ⟨b, off + k, none⟩) hb
      rw [hc] at hcw
      clear hcell hc eT ez hf
      go_wp2_with fail
      go_loopw [5, 7] (fun v t wr => ∃ (y : Int) (acc : List UInt8), 0 ≤ y ∧ y ≤ 18446744073709551615 ∧ t = .int .u64 y ∧ Buf wr w.heap.size v acc ∧ Below w.heap.size w wr ∧ Hid (acc ++ put1 y.toNat = T)) (fun _ t _ => (intOf t).toNat)
      case atStart => exact ⟨z, acc, z0, z1, rfl, hbuf, hbel, hT⟩
      case round =>
        clear hcw hbuf hbel HA hT acc
        obtain ⟨y, acc, y0, y1, rfl, hbuf, hbel, hT⟩ := hrel
        have hal : acc.length + 1 ≤ 1099511627776 := by
          have h1 := congrArg List.length hT.out
          have h2 := put1_pos y.toNat
          rw [List.length_append] at h1
          omega
        by_cases hy : y < 128
        · have hy' : ¬ 128 ≤ y := by omega
          obtain ⟨c, ec⟩ : ∃ c, c = UInt8.ofNat y.toNat := ⟨_, rfl⟩
          have hT2 : Hid (acc ++ [c] = T) := by show _ = _; rw [← hT.out, put1_small (by omega), ec]
          have hcy : y = (c.toNat : Int) := by rw [ec, byte_low y y0 hy]
          have HC : Hid (y = (c.toNat : Int)) := hcy
          clear ec hcy
          go_wp2_with (at_builtin; refine wpList_append_buf _ rfl (.tmp 27) (.tmp 30) rfl rfl (hbuf.alloc _) (up hbel (Nat.le_refl _) _) ⟨_, 0, none⟩ c rfl (cell_new _ HC.out) (by omega) ?_; intro v' w' hbuf' hbel')
          go_round
          case rel => exact ⟨k + 1, acc ++ [c], by omega, by go_num, hbuf', (hbel.alloc hbel.size _).trans hbel', by show _ = _; rw [hT2.out, HT.out]⟩
          case measure => simp [intOf]; omega
        · have hy' : 128 ≤ y := by omega
          obtain ⟨c, ec⟩ : ∃ c, c = UInt8.ofNat (y.toNat % 128 + 128) := ⟨_, rfl⟩
          have hT2 : Hid ((acc ++ [c]) ++ put1 (y / 128).toNat = T) := by
            show _ = _
            rw [← hT.out, put1_step (n := y.toNat) (by omega), ec, show (y / 128).toNat = y.toNat / 128 by omega, List.append_assoc]; rfl
          have HC : Hid (y % 128 + 128 = (c.toNat : Int)) := by show _ = _; rw [ec, byte_more y y0]
          have hand := and127 y y0 y1
          have hor := or128 (y % 128) (by omega) (by omega)
          clear ec
          go_wp2_with (at_builtin; refine wpList_append_buf _ rfl (.tmp 20) (.tmp 25) rfl rfl (hbuf.alloc _) (up hbel (Nat.le_refl _) _) ⟨_, 0, none⟩ c rfl (cell_new _ HC.out) (by omega) ?_; intro v' w' hbuf' hbel')
          go_round
          case rel => exact ⟨y / 128, acc ++ [c], by omega, by omega, by go_num, hbuf', (hbel.alloc hbel.size _).trans hbel', hT2⟩
          case measure => simp [intOf]; omega
    · have hlt' : ¬ (k : Int) < (len : Int) := by omega
      have hback := buf_string hbuf
      have HE : Hid (acc = s.data.toList ++ putL (nats zs)) := by show _ = _; rw [HA.out, List.take_of_length_le (by omega)]
      clear hcell hf hbuf0 hconv
      go_wp2_with fail
      go_ret
      exact ⟨ret1s (by rw [HE.out]), hbel⟩
set_option maxHeartbeats 1000000 in
theorem put_none (s : ByteArray) (ao : Option Addr) (cap : Nat) (w : World) :
    Calls Tryz.prog 38 #[.string s, .slice ao 0 cap] w fun e w' => e = .returned (.string s) ∧ Below w.heap.size w w' := by
  obtain ⟨v0, w0, hconv, hbuf0, hbel0⟩ := buf_start s w
  have hback := buf_string hbuf0
  have hlb : Hid (bytes s.data.toList = s) := list_bytes s
  go_enter Tryz.func38, Tryz.ntmps38
  go_wp2_with fail
  refine wp_loop_rounds 1 ?_
  rw [rounds_succ]
  go_wp2_with fail
  go_ret
  exact ⟨ret1s hlb.out, hbel0⟩
/-- wire's Put, of whatever numbers. -/
theorem put_lies (s : ByteArray) (ao : Option Addr) (len cap : Nat) (zs : List Int) (w : World) (h : Lies w ao len zs) (hmax : s.size + 10 * len ≤ 1099511627776) (hf : Fits zs) :
    Calls Tryz.prog 38 #[.string s, .slice ao len cap] w fun e w' => e = .returned (.string (bytes (s.data.toList ++ putL (nats zs)))) ∧ Below w.heap.size w w' := by
  by_cases h0 : len = 0
  · subst h0
    have hz : zs = [] := List.eq_nil_of_length_eq_zero h.1
    subst hz
    have e : bytes (s.data.toList ++ putL (nats [])) = s := by
      have : putL (nats []) = [] := rfl
      rw [this, List.append_nil, list_bytes]
    rw [e]
    exact put_none s ao cap w
  · obtain ⟨b, off, rfl, hb, hc⟩ := h.addr (by omega)
    exact put_any s b off len cap zs w h.1 hmax hf hb hc
/-- One number, laid for the call. -/
theorem one_lies (w : World) (x : Int) : Lies (w.alloc (.cells #[.int .u64 x] 121)) (some ⟨w.heap.size, 0, none⟩) 1 [x] := by
  refine ⟨rfl, (fun h => by cases h), fun ad had j hj => ?_⟩
  cases had
  obtain rfl : j = 0 := by omega
  rw [Addr.add_lit, World.cell?_alloc_mark]
  rfl
theorem one_fits {x : Int} (h0 : 0 ≤ x) (h1 : x ≤ 18446744073709551615) : Fits [x] := by
  intro j
  cases j with
  | zero => exact ⟨h0, h1⟩
  | succ j => simp [List.getD]
theorem put_one (s : ByteArray) (x : Int) (h0 : 0 ≤ x) (h1 : x ≤ 18446744073709551615) (hs : s.size ≤ 549755813888) (w : World) :
    Calls Tryz.prog 38 #[.string s, .slice (some ⟨w.heap.size, 0, none⟩) 1 1] (w.alloc (.cells #[.int .u64 x] 121)) fun e w' => e = .returned (.string (bytes (s.data.toList ++ put1 x.toNat))) ∧ Below (w.heap.size + 1) (w.alloc (.cells #[.int .u64 x] 121)) w' := by
  refine (put_lies s _ 1 1 [x] _ (one_lies w x) (by omega) (one_fits h0 h1)).mono ?_
  rintro e w' ⟨rfl, hb⟩
  refine ⟨ret1s (by rw [show nats [x] = [x.toNat] from rfl, putL_one]), ?_⟩
  have : (w.alloc (.cells #[.int .u64 x] 121)).heap.size = w.heap.size + 1 := by show (w.heap.push _).size = _; simp
  rwa [this] at hb
theorem below_one {w w' : World} {x : Int} (h : Below (w.heap.size + 1) (w.alloc (.cells #[.int .u64 x] 121)) w') : Below w.heap.size w w' :=
  ((Below.refl _ w).alloc (Nat.le_refl _) _).trans (h.mono (by omega))
/-- PutText. -/
theorem putText_any (s t : ByteArray) (hs : s.size ≤ 549755813888) (ht : t.size ≤ 549755813888) (w : World) :
    Calls Tryz.prog 33 #[.string s, .string t] w fun e w' => e = .returned (.string (bytes (s.data.toList ++ text1 t.data.toList))) ∧ Below w.heap.size w w' := by
  obtain ⟨x, hx⟩ : ∃ x : Int, x = (t.size : Int) := ⟨_, rfl⟩
  have hx0 : 0 ≤ x := by omega
  have hx1 : x ≤ 549755813888 := by omega
  obtain ⟨P, eP⟩ : ∃ P, P = bytes (s.data.toList ++ put1 x.toNat) := ⟨_, rfl⟩
  have hPs : P.size ≤ 549755813898 := by
    rw [eP, bytes_size, List.length_append, len_of]
    have := put1_ten (n := x.toNat) (by omega)
    omega
  have HR : Hid (bytes (s.data.toList ++ text1 t.data.toList) = P ++ t) := by
    show _ = _
    unfold text1
    rw [len_of, ← List.append_assoc, ← bytes_app, list_bytes, eP, hx]
    rfl
  have cP := put_one s x hx0 (by omega) (by omega) w
  rw [← eP] at cP
  have hx' := hx.symm
  clear eP hx
  go_enter Tryz.func33, Tryz.ntmps33
  go_wp2_with (go_at_call 38; refine cP.mono ?_; rintro e w1 ⟨rfl, hb1⟩)
  go_ret
  exact ⟨ret1s HR.out.symm, below_one hb1⟩
end Go.Proofs.YteedmmljahgpjabGreatDoor.W
