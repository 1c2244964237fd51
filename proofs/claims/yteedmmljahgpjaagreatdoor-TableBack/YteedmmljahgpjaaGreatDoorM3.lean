import Derived.Test.YteedmmljahgpjaaGreatDoorM2
import Derived.WalkKit
import Derived.Laws.BitsAllLaws
import Derived.Laws.Bits64b
import Derived.Laws.BitsLemmas
import Derived.Laws.Closers25b
/-
  How a world has moved: what lay outside a footprint lies as it lay.
-/
namespace Go.Proofs.YteedmmljahgpjaaGreatDoor
open Go.RowKit

structure Mv (w w' : World) (F : Nat → Prop) : Prop where
  os : w'.os = w.os
  tape : w'.tape = w.tape
  output : w'.output = w.output
  size : w.heap.size ≤ w'.heap.size
  block : ∀ k, k < w.heap.size → ¬ F k → w'.heap[k]? = w.heap[k]?

theorem Mv.refl (w : World) (F : Nat → Prop) : Mv w w F := ⟨rfl, rfl, rfl, Nat.le_refl _, fun _ _ _ => rfl⟩
theorem Mv.drew {w w' : World} {F : Nat → Prop} (h : Mv w w' F) : Mv w w'.drew F := ⟨h.os, h.tape, h.output, h.size, h.block⟩
theorem Mv.trans {w w' w'' : World} {F F' : Nat → Prop} (h : Mv w w' F) (k : Mv w' w'' F') (hF : ∀ b, F' b → F b ∨ w.heap.size ≤ b) : Mv w w'' F :=
  ⟨k.os.trans h.os, k.tape.trans h.tape, k.output.trans h.output, Nat.le_trans h.size k.size, fun b hb hn =>
    (k.block b (Nat.lt_of_lt_of_le hb h.size) (fun e => (hF b e).elim hn (fun h1 => by omega))).trans (h.block b hb hn)⟩
theorem Mv.mono {w w' : World} {F F' : Nat → Prop} (h : Mv w w' F) (hF : ∀ b, F b → F' b) : Mv w w' F' := ⟨h.os, h.tape, h.output, h.size, fun b hb hn => h.block b hb (fun e => hn (hF b e))⟩
theorem Mv.setCell {w w' : World} {F : Nat → Prop} (h : Mv w w' F) {a : Addr} (ha : F a.block ∨ w.heap.size ≤ a.block) (u : Value) : Mv w (w'.setCell a u) F :=
  h.trans (F' := fun b => b = a.block) ⟨rfl, rfl, rfl, by simp [World.setCell], fun b _ hn => Below.heap_setCell _ _ _ _ hn⟩ (fun b e => by cases e; exact ha)
theorem Mv.alloc {w w' : World} {F : Nat → Prop} (h : Mv w w' F) (o : Obj) : Mv w (w'.alloc o) F :=
  h.trans (F' := fun _ => False) ⟨rfl, rfl, rfl, by simp, fun b hb _ => Below.heap_alloc _ _ _ hb⟩ (fun b e => e.elim)
theorem Mv.grown {w w' w'' : World} {F : Nat → Prop} {row : Option Nat} (h : Mv w w' F) (hg : w'.grownBy w'' row) (hr : ∀ k, row = some k → F k ∨ w.heap.size ≤ k) : Mv w w'' F :=
  h.trans (F' := fun b => some b = row) ⟨hg.os, hg.tape, hg.output, hg.size, fun b hb hn => hg.block b hb hn⟩ (fun b e => hr b e.symm)
theorem Mv.below {w w' : World} {F : Nat → Prop} (h : Mv w w' F) {B : Nat} (hB : B ≤ w.heap.size) (hF : ∀ b, F b → B ≤ b) : Below B w w' :=
  ⟨h.os, h.tape, h.output, h.size, fun k hk => h.block k (by omega) (fun e => by have := hF k e; omega)⟩
theorem Mv.row {w w' : World} {F : Nat → Prop} (h : Mv w w' F) {e : TypeId} {s n : Nat} {v : Value} {f : Nat → Value} (hr : Row w e s v n f) (hn : ∀ k, v.ownBlock = some k → ¬ F k) : Row w' e s v n f :=
  hr.of_block (fun k hk => h.block k (hr.lt k hk) (hn k hk))

end Go.Proofs.YteedmmljahgpjaaGreatDoor

/-
  Plain mathematics of layer 3 (wire): numbers as bytes, there and back. No model in this text.
-/
namespace Go.Proofs.YteedmmljahgpjaaGreatDoor.W

/-- A list of bytes as a text. -/
def bytes (l : List UInt8) : ByteArray := ⟨l.toArray⟩
theorem bytes_list (l : List UInt8) : (bytes l).data.toList = l := by simp [bytes]
theorem bytes_size (l : List UInt8) : (bytes l).size = l.length := by show l.toArray.size = _; simp
theorem ba_ext {a b : ByteArray} (h : a.data.toList = b.data.toList) : a = b := by cases a; cases b; simp_all
theorem list_bytes (s : ByteArray) : bytes s.data.toList = s := ba_ext (bytes_list _)
theorem bytes_inj {a b : List UInt8} (h : bytes a = bytes b) : a = b := by rw [← bytes_list a, h, bytes_list]
theorem bytes_app (a b : List UInt8) : bytes a ++ bytes b = bytes (a ++ b) := by apply ba_ext; simp [bytes]
theorem bytes_ext (l : List UInt8) (i j : Nat) : (bytes l).extract i j = bytes ((l.drop i).take (j - i)) := by
  apply ba_ext
  simp [bytes]
theorem len_of (s : ByteArray) : s.data.toList.length = s.size := by simp
theorem drop_at (s : ByteArray) (k : Nat) (h : k < s.size) : s.data.toList.drop k = s[k] :: s.data.toList.drop (k + 1) := by
  rw [List.drop_eq_getElem_cons (by simpa using h)]; rfl
theorem drop_end (s : ByteArray) (k : Nat) (h : s.size ≤ k) : s.data.toList.drop k = [] := List.drop_eq_nil_of_le (by simpa using h)
theorem take_at (s : ByteArray) (k : Nat) (h : k < s.size) : s.data.toList.take (k + 1) = s.data.toList.take k ++ [s[k]] := by
  rw [List.take_succ_eq_append_getElem (by simpa using h)]; rfl

/-- A number's bytes; at most k + 1 of them. -/
def putG : Nat → Nat → List UInt8
  | 0, n => [UInt8.ofNat n]
  | k + 1, n => if n < 128 then [UInt8.ofNat n] else UInt8.ofNat (n % 128 + 128) :: putG k (n / 128)
theorem putG_ir : ∀ k k' n, n ≤ k → n ≤ k' → putG k n = putG k' n
  | 0, 0, _, _, _ => rfl
  | 0, k' + 1, n, h, _ => by rw [putG, putG, if_pos (by omega)]
  | k + 1, 0, n, _, h => by rw [putG, putG, if_pos (by omega)]
  | k + 1, k' + 1, n, h, h' => by
    rw [putG, putG]
    split
    · rfl
    · rw [putG_ir k k' (n / 128) (by omega) (by omega)]
/-- A number as bytes. -/
def put1 (n : Nat) : List UInt8 := putG n n
theorem put1_small {n : Nat} (h : n < 128) : put1 n = [UInt8.ofNat n] := by
  unfold put1
  cases n with
  | zero => rfl
  | succ n => rw [putG, if_pos h]
theorem put1_step {n : Nat} (h : ¬ n < 128) : put1 n = UInt8.ofNat (n % 128 + 128) :: put1 (n / 128) := by
  unfold put1
  cases n with
  | zero => omega
  | succ n => rw [putG, if_neg h, putG_ir n ((n + 1) / 128) ((n + 1) / 128) (by omega) (Nat.le_refl _)]
theorem put1_pos (n : Nat) : 1 ≤ (put1 n).length := by
  by_cases h : n < 128
  · rw [put1_small h]; exact Nat.le_refl _
  · rw [put1_step h]; simp
theorem put1_len : ∀ k n, n < 128 ^ (k + 1) → (put1 n).length ≤ k + 1 := by
  intro k
  induction k with
  | zero => intro n h; rw [put1_small (by simpa using h)]; exact Nat.le_refl _
  | succ k ih =>
    intro n h
    by_cases hn : n < 128
    · rw [put1_small hn]; simp
    · rw [put1_step hn, List.length_cons]
      have := ih (n / 128) (by rw [Nat.pow_succ] at h; omega)
      omega
theorem put1_ten {n : Nat} (h : n < 18446744073709551616) : (put1 n).length ≤ 10 := put1_len 9 n (by omega)

/-- Numbers one behind the other. -/
def putL : List Nat → List UInt8
  | [] => []
  | n :: l => put1 n ++ putL l
theorem putL_append (a b : List Nat) : putL (a ++ b) = putL a ++ putL b := by
  induction a with
  | nil => rfl
  | cons n a ih => rw [List.cons_append, putL, putL, ih, List.append_assoc]
theorem putL_one (n : Nat) : putL [n] = put1 n := by rw [putL, putL, List.append_nil]
theorem putL_len (l : List Nat) (h : ∀ n ∈ l, n < 18446744073709551616) : (putL l).length ≤ 10 * l.length := by
  induction l with
  | nil => exact Nat.le_refl _
  | cons n l ih =>
    rw [putL, List.length_append, List.length_cons]
    have h1 := put1_ten (h n (List.mem_cons_self))
    have h2 := ih (fun m hm => h m (List.mem_cons_of_mem _ hm))
    omega

/-- What is read at the beginning, i bytes of the number being read already: an error (0: none), how many bytes, the number. -/
def tk : Nat → List UInt8 → Nat × Nat × Nat
  | i, [] => if i < 10 then (30, 0, 0) else (31, 0, 0)
  | i, c :: l =>
    if ¬ i < 10 then (31, 0, 0)
    else if c.toNat < 128 then
      if (i = 9 ∧ c.toNat ≠ 1) ∨ (c.toNat = 0 ∧ 0 < i) then (31, 0, 0) else (0, 1, c.toNat)
    else ((tk (i + 1) l).1, (tk (i + 1) l).2.1 + 1, c.toNat % 128 + 128 * (tk (i + 1) l).2.2)
theorem tk_nil {i : Nat} (h : i < 10) : tk i [] = (30, 0, 0) := by rw [tk, if_pos h]
theorem tk_ten {i : Nat} (h : ¬ i < 10) (l : List UInt8) : tk i l = (31, 0, 0) := by
  cases l with
  | nil => rw [tk, if_neg h]
  | cons c l => rw [tk, if_pos h]
theorem tk_more {i : Nat} {c : UInt8} (h : i < 10) (hc : ¬ c.toNat < 128) (l : List UInt8) :
    tk i (c :: l) = ((tk (i + 1) l).1, (tk (i + 1) l).2.1 + 1, c.toNat % 128 + 128 * (tk (i + 1) l).2.2) := by rw [tk, if_neg (by omega), if_neg hc]
theorem tk_bad {i : Nat} {c : UInt8} (h : i < 10) (hc : c.toNat < 128) (hb : (i = 9 ∧ c.toNat ≠ 1) ∨ (c.toNat = 0 ∧ 0 < i)) (l : List UInt8) : tk i (c :: l) = (31, 0, 0) := by
  rw [tk, if_neg (by omega), if_pos hc, if_pos hb]
theorem tk_end {i : Nat} {c : UInt8} (h : i < 10) (hc : c.toNat < 128) (hb : ¬ ((i = 9 ∧ c.toNat ≠ 1) ∨ (c.toNat = 0 ∧ 0 < i))) (l : List UInt8) : tk i (c :: l) = (0, 1, c.toNat) := by
  rw [tk, if_neg (by omega), if_pos hc, if_neg hb]
theorem tk_errs (l : List UInt8) : ∀ i, (tk i l).1 = 0 ∨ (tk i l).1 = 30 ∨ (tk i l).1 = 31 := by
  induction l with
  | nil =>
    intro i
    by_cases h : i < 10
    · rw [tk_nil h]; exact .inr (.inl rfl)
    · rw [tk_ten h]; exact .inr (.inr rfl)
  | cons c l ih =>
    intro i
    by_cases h : i < 10
    · by_cases hc : c.toNat < 128
      · by_cases hb : (i = 9 ∧ c.toNat ≠ 1) ∨ (c.toNat = 0 ∧ 0 < i)
        · rw [tk_bad h hc hb]; exact .inr (.inr rfl)
        · rw [tk_end h hc hb]; exact .inl rfl
      · rw [tk_more h hc]; exact ih (i + 1)
    · rw [tk_ten h]; exact .inr (.inr rfl)

theorem ofNat_small {m : Nat} (h : m < 256) : (UInt8.ofNat m).toNat = m := UInt8.toNat_ofNat_of_lt' h

/-- What is put is taken, whatever stands behind. -/
theorem tk_put : ∀ (k n i : Nat), n ≤ k → n * 128 ^ i < 18446744073709551616 → (0 < i → 0 < n) → ∀ rest, tk i (put1 n ++ rest) = (0, (put1 n).length, n) := by
  intro k
  induction k with
  | zero =>
    intro n i hk hb hp rest
    obtain rfl : n = 0 := by omega
    obtain rfl : i = 0 := by have := hp; omega
    rfl
  | succ k ih =>
    intro n i hk hb hp rest
    have hi : i < 10 := by
      apply Classical.byContradiction
      intro hc
      have h1 : 128 ^ 10 ≤ 128 ^ i := Nat.pow_le_pow_right (by omega) (by omega)
      have h2 : 1 * 128 ^ i ≤ n * 128 ^ i := Nat.mul_le_mul_right _ (hp (by omega))
      omega
    by_cases hn : n < 128
    · rw [put1_small hn]
      show tk i (UInt8.ofNat n :: rest) = _
      rw [tk_end hi (by rw [ofNat_small (by omega)]; exact hn), ofNat_small (by omega)]
      · rfl
      · rw [ofNat_small (by omega)]
        rintro (⟨h9, h1⟩ | ⟨h0, h1⟩)
        · subst h9
          have := hp (by omega)
          omega
        · have := hp h1; omega
    · rw [put1_step hn]
      show tk i (UInt8.ofNat (n % 128 + 128) :: (put1 (n / 128) ++ rest)) = _
      have hd : n / 128 * 128 ^ (i + 1) < 18446744073709551616 := by
        rw [Nat.pow_succ, Nat.mul_comm (128 ^ i) 128, ← Nat.mul_assoc]
        exact Nat.lt_of_le_of_lt (Nat.mul_le_mul_right _ (Nat.div_mul_le_self n 128)) hb
      have := ih (n / 128) (i + 1) (by omega) hd (fun _ => by omega) rest
      rw [tk_more hi (by rw [ofNat_small (by omega)]; omega), this, ofNat_small (by omega)]
      show (0, _, _) = _
      simp only [List.length_cons, Prod.mk.injEq, true_and]
      omega

/-- What is taken is put again. -/
theorem tk_one (l : List UInt8) : ∀ i, (tk i l).1 = 0 → put1 (tk i l).2.2 = l.take (tk i l).2.1 ∧ (tk i l).2.2 * 128 ^ i < 18446744073709551616 ∧ (0 < i → 0 < (tk i l).2.2) ∧ 1 ≤ (tk i l).2.1 ∧ (tk i l).2.1 ≤ l.length := by
  induction l with
  | nil =>
    intro i h
    by_cases hi : i < 10
    · rw [tk_nil hi] at h; cases h
    · rw [tk_ten hi] at h; cases h
  | cons c l ih =>
    intro i h
    have hc256 := c.toNat_lt
    by_cases hi : i < 10
    · by_cases hc : c.toNat < 128
      · by_cases hb : (i = 9 ∧ c.toNat ≠ 1) ∨ (c.toNat = 0 ∧ 0 < i)
        · rw [tk_bad hi hc hb] at h; cases h
        · rw [tk_end hi hc hb]
          dsimp only
          refine ⟨?_, ?_, ?_, Nat.le_refl _, by simp⟩
          · rw [put1_small hc]
            simp
          · by_cases h9 : i = 9
            · subst h9
              have : c.toNat = 1 := by omega
              rw [this]
              decide
            · have h8 : 128 ^ i ≤ 128 ^ 8 := Nat.pow_le_pow_right (by omega) (by omega)
              have h7 : c.toNat * 128 ^ i ≤ 127 * 128 ^ 8 := Nat.mul_le_mul (by omega) h8
              have h6 : 127 * 128 ^ 8 < 18446744073709551616 := by decide
              omega
          · intro h0; omega
      · rw [tk_more hi hc] at h ⊢
        dsimp only at h ⊢
        obtain ⟨h1, h2, h3, h4, h5⟩ := ih (i + 1) h
        have h3 := h3 (by omega)
        generalize tk (i + 1) l = r at h1 h2 h3 h4 h5
        obtain ⟨e, len, v⟩ := r
        dsimp only at h1 h2 h3 h4 h5 ⊢
        have hm : (c.toNat % 128 + 128 * v) % 128 = c.toNat % 128 := by omega
        have hq : (c.toNat % 128 + 128 * v) / 128 = v := by omega
        refine ⟨?_, ?_, ?_, by omega, by simp; omega⟩
        · rw [put1_step (by omega), hm, hq, h1, List.take_succ_cons]
          congr 1
          apply UInt8.toNat_inj.1
          rw [ofNat_small (by omega)]
          omega
        · have hi8 : i < 9 := by
            apply Classical.byContradiction
            intro hh
            have h9 : 128 ^ 10 ≤ 128 ^ (i + 1) := Nat.pow_le_pow_right (by omega) (by omega)
            have h10 : 1 * 128 ^ (i + 1) ≤ v * 128 ^ (i + 1) := Nat.mul_le_mul_right _ h3
            omega
          rw [Nat.pow_succ, Nat.mul_comm (128 ^ i) 128, ← Nat.mul_assoc] at h2
          obtain ⟨p, hp⟩ : ∃ p, 9 = i + 1 + p := ⟨9 - (i + 1), by omega⟩
          have key : (c.toNat % 128 + 128 * v) * 128 ^ i < 18446744073709551616 := by
            have e : (18446744073709551616 : Nat) = (2 * 128 ^ (p + 1)) * 128 ^ i := by
              rw [Nat.mul_assoc, ← Nat.pow_add, show p + 1 + i = 9 by omega]
            rw [e] at h2 ⊢
            have hpos : 0 < 128 ^ i := Nat.pow_pos (by omega)
            have h2 := Nat.lt_of_mul_lt_mul_right h2
            apply (Nat.mul_lt_mul_right hpos).2
            have e2 : 2 * 128 ^ (p + 1) = 128 * (2 * 128 ^ p) := by rw [Nat.pow_succ]; omega
            rw [e2] at h2 ⊢
            omega
          exact key
        · intro _; omega
    · rw [tk_ten hi] at h; cases h
end Go.Proofs.YteedmmljahgpjaaGreatDoor.W

/-
  Plain mathematics of layer 3 (wire): what is read at a place, texts, checks, frames. No model in this text.
-/
namespace Go.Proofs.YteedmmljahgpjaaGreatDoor.W

/-! ### A number at a place -/
def takeE (l : List UInt8) (a : Int) : Nat := if a < 0 ∨ (l.length : Int) < a then 1 else (tk 0 (l.drop a.toNat)).1
def takeN (l : List UInt8) (a : Int) : Nat := if takeE l a = 0 then (tk 0 (l.drop a.toNat)).2.2 else 0
def takeP (l : List UInt8) (a : Int) : Int := if takeE l a = 0 then a + ((tk 0 (l.drop a.toNat)).2.1 : Nat) else a
theorem takeE_arg {l : List UInt8} {a : Int} (h : a < 0 ∨ (l.length : Int) < a) : takeE l a = 1 := by unfold takeE; rw [if_pos h]
theorem takeE_in {l : List UInt8} {a : Int} (h1 : 0 ≤ a) (h2 : a ≤ l.length) : takeE l a = (tk 0 (l.drop a.toNat)).1 := by unfold takeE; rw [if_neg (by omega)]
theorem takeN_no {l : List UInt8} {a : Int} (h : takeE l a ≠ 0) : takeN l a = 0 := by unfold takeN; rw [if_neg h]
theorem takeP_no {l : List UInt8} {a : Int} (h : takeE l a ≠ 0) : takeP l a = a := by unfold takeP; rw [if_neg h]
theorem takeN_ok {l : List UInt8} {a : Int} (h : takeE l a = 0) : takeN l a = (tk 0 (l.drop a.toNat)).2.2 := by unfold takeN; rw [if_pos h]
theorem takeP_ok {l : List UInt8} {a : Int} (h : takeE l a = 0) : takeP l a = a + ((tk 0 (l.drop a.toNat)).2.1 : Nat) := by unfold takeP; rw [if_pos h]
theorem takeE_place {l : List UInt8} {a : Int} (h : takeE l a = 0) : 0 ≤ a ∧ a ≤ l.length := by
  unfold takeE at h
  split at h
  · cases h
  · omega
theorem takeE_errs (l : List UInt8) (a : Int) : takeE l a = 0 ∨ takeE l a = 1 ∨ takeE l a = 30 ∨ takeE l a = 31 := by
  unfold takeE
  split
  · exact .inr (.inl rfl)
  · rcases tk_errs (l.drop a.toNat) 0 with h | h | h
    · exact .inl h
    · exact .inr (.inr (.inl h))
    · exact .inr (.inr (.inr h))
/-- What is taken is put again, byte by byte. -/
theorem take_one {l : List UInt8} {a : Int} (h : takeE l a = 0) : 0 ≤ a ∧ a < takeP l a ∧ takeP l a ≤ l.length ∧ takeN l a < 18446744073709551616 ∧
    put1 (takeN l a) = (l.drop a.toNat).take ((takeP l a).toNat - a.toNat) ∧ ((put1 (takeN l a)).length : Int) = takeP l a - a := by
  obtain ⟨h1, h2⟩ := takeE_place h
  have h' := h
  rw [takeE_in h1 h2] at h'
  obtain ⟨g1, g2, _, g4, g5⟩ := tk_one _ 0 h'
  rw [takeN_ok h, takeP_ok h]
  rw [List.length_drop] at g5
  have e : (a + ((tk 0 (l.drop a.toNat)).2.1 : Nat)).toNat - a.toNat = (tk 0 (l.drop a.toNat)).2.1 := by omega
  refine ⟨h1, by omega, by omega, by simpa using g2, by rw [e]; exact g1, ?_⟩
  rw [g1, List.length_take, List.length_drop]
  omega
/-- What is put is taken, whatever stands ahead and behind. -/
theorem take_put (b tail : List UInt8) (n : Nat) (hn : n < 18446744073709551616) :
    takeE (b ++ put1 n ++ tail) b.length = 0 ∧ takeN (b ++ put1 n ++ tail) b.length = n ∧ takeP (b ++ put1 n ++ tail) b.length = (b ++ put1 n).length := by
  have hd : (b ++ put1 n ++ tail).drop ((b.length : Int)).toNat = put1 n ++ tail := by simp
  have ht := tk_put n n 0 (Nat.le_refl _) (by simpa using hn) (fun h => by omega) tail
  have hE : takeE (b ++ put1 n ++ tail) b.length = 0 := by rw [takeE_in (by omega) (by simp; omega), hd, ht]
  refine ⟨hE, ?_, ?_⟩
  · rw [takeN_ok hE, hd, ht]
  · rw [takeP_ok hE, hd, ht]; simp

/-! ### A text at a place -/
def textE (l : List UInt8) (a : Int) : Nat :=
  if takeE l a ≠ 0 then takeE l a else if 65536 < takeN l a then 31 else if (l.length : Int) < takeP l a + takeN l a then 30 else 0
def textS (l : List UInt8) (a : Int) : List UInt8 := if textE l a = 0 then (l.drop (takeP l a).toNat).take (takeN l a) else []
def textP (l : List UInt8) (a : Int) : Int := if textE l a = 0 then takeP l a + takeN l a else a
theorem textE_take {l : List UInt8} {a : Int} (h : takeE l a ≠ 0) : textE l a = takeE l a := by unfold textE; rw [if_pos h]
theorem textE_long {l : List UInt8} {a : Int} (h : takeE l a = 0) (h1 : 65536 < takeN l a) : textE l a = 31 := by unfold textE; rw [if_neg (fun hc => hc h), if_pos h1]
theorem textE_short {l : List UInt8} {a : Int} (h : takeE l a = 0) (h1 : ¬ 65536 < takeN l a) (h2 : (l.length : Int) < takeP l a + takeN l a) : textE l a = 30 := by
  unfold textE; rw [if_neg (fun hc => hc h), if_neg h1, if_pos h2]
theorem textE_ok {l : List UInt8} {a : Int} (h : takeE l a = 0) (h1 : ¬ 65536 < takeN l a) (h2 : ¬ (l.length : Int) < takeP l a + takeN l a) : textE l a = 0 := by
  unfold textE; rw [if_neg (fun hc => hc h), if_neg h1, if_neg h2]
theorem textS_no {l : List UInt8} {a : Int} (h : textE l a ≠ 0) : textS l a = [] := by unfold textS; rw [if_neg h]
theorem textP_no {l : List UInt8} {a : Int} (h : textE l a ≠ 0) : textP l a = a := by unfold textP; rw [if_neg h]
theorem textS_ok {l : List UInt8} {a : Int} (h : textE l a = 0) : textS l a = (l.drop (takeP l a).toNat).take (takeN l a) := by unfold textS; rw [if_pos h]
theorem textP_ok {l : List UInt8} {a : Int} (h : textE l a = 0) : textP l a = takeP l a + takeN l a := by unfold textP; rw [if_pos h]
theorem textE_parts {l : List UInt8} {a : Int} (h : textE l a = 0) : takeE l a = 0 ∧ takeN l a ≤ 65536 ∧ takeP l a + takeN l a ≤ l.length := by
  unfold textE at h
  split at h
  · contradiction
  · rename_i h0
    split at h
    · cases h
    · split at h
      · cases h
      · exact ⟨by simpa using h0, by omega, by omega⟩
theorem textE_errs (l : List UInt8) (a : Int) : textE l a = 0 ∨ textE l a = 1 ∨ textE l a = 30 ∨ textE l a = 31 := by
  unfold textE
  split
  · exact takeE_errs l a
  · split
    · exact .inr (.inr (.inr rfl))
    · split
      · exact .inr (.inr (.inl rfl))
      · exact .inl rfl
/-- A text as bytes. -/
def text1 (s : List UInt8) : List UInt8 := put1 s.length ++ s
theorem text_put (b s tail : List UInt8) (hs : s.length ≤ 65536) :
    textE (b ++ text1 s ++ tail) b.length = 0 ∧ textS (b ++ text1 s ++ tail) b.length = s ∧ textP (b ++ text1 s ++ tail) b.length = (b ++ text1 s).length := by
  have e : b ++ text1 s ++ tail = b ++ put1 s.length ++ (s ++ tail) := by unfold text1; simp
  obtain ⟨t1, t2, t3⟩ := take_put b (s ++ tail) s.length (by omega)
  rw [← e] at t1 t2 t3
  have hE : textE (b ++ text1 s ++ tail) b.length = 0 := textE_ok t1 (by omega) (by rw [t2, t3]; simp [text1]; omega)
  refine ⟨hE, ?_, ?_⟩
  · rw [textS_ok hE, t2, t3, e, show (((b ++ put1 s.length).length : Nat) : Int).toNat = (b ++ put1 s.length).length by omega, List.drop_left, List.take_left]
  · rw [textP_ok hE, t2, t3]; simp [text1]; omega
theorem text_one {l : List UInt8} {a : Int} (h : textE l a = 0) : 0 ≤ a ∧ a < textP l a ∧ textP l a ≤ l.length ∧ (textS l a).length ≤ 65536 ∧
    text1 (textS l a) = (l.drop a.toNat).take ((textP l a).toNat - a.toNat) := by
  obtain ⟨h1, h2, h3⟩ := textE_parts h
  obtain ⟨g1, g2, g3, _, g5, g6⟩ := take_one h1
  rw [textP_ok h]
  have hl : (textS l a).length = takeN l a := by rw [textS_ok h, List.length_take, List.length_drop]; omega
  refine ⟨g1, by omega, by omega, by omega, ?_⟩
  unfold text1
  rw [hl, g5, textS_ok h]
  have e : (takeP l a + (takeN l a : Nat)).toNat - a.toNat = ((takeP l a).toNat - a.toNat) + takeN l a := by omega
  have e2 : (takeP l a).toNat = a.toNat + ((takeP l a).toNat - a.toNat) := by omega
  rw [e, List.take_add, List.drop_drop, ← e2]

/-! ### The check -/
def sumStep (c : Nat) (x : UInt8) : Nat := ((c ^^^ x.toNat) * 16777619) % 4294967296
def sumL (l : List UInt8) : Nat := l.foldl sumStep 2166136261
theorem sumStep_lt (c : Nat) (x : UInt8) : sumStep c x < 4294967296 := Nat.mod_lt _ (by decide)
theorem fold_lt (l : List UInt8) : ∀ c, c < 4294967296 → l.foldl sumStep c < 4294967296 := by
  induction l with
  | nil => intro c h; exact h
  | cons x l ih => intro c _; exact ih _ (sumStep_lt c x)
theorem sumL_lt (l : List UInt8) : sumL l < 4294967296 := fold_lt l _ (by decide)
theorem sumL_snoc (l : List UInt8) (x : UInt8) : sumL (l ++ [x]) = sumStep (sumL l) x := by unfold sumL; rw [List.foldl_append, List.foldl_cons, List.foldl_nil]
theorem mul_undo {a b : Nat} (ha : a < 4294967296) (hb : b < 4294967296) (h : a * 16777619 % 4294967296 = b * 16777619 % 4294967296) : a = b := by
  have key : ∀ x, x < 4294967296 → (x * 16777619 % 4294967296) * 899433627 % 4294967296 = x := by
    intro x hx
    rw [Nat.mod_mul_mod, Nat.mul_assoc, show 16777619 * 899433627 = 1 + 4294967296 * 3513497 by decide, Nat.mul_add, Nat.mul_one, Nat.mul_left_comm, Nat.add_mul_mod_self_left]
    exact Nat.mod_eq_of_lt hx
  rw [← key a ha, h, key b hb]
theorem xor_lt {a : Nat} (ha : a < 4294967296) (x : UInt8) : a ^^^ x.toNat < 4294967296 := by
  have hx := x.toNat_lt
  exact Nat.xor_lt_two_pow (n := 32) ha (by omega)
theorem xor_inj {a b c : Nat} (h : a ^^^ c = b ^^^ c) : a = b := by
  have := congrArg (· ^^^ c) h
  simpa [Nat.xor_assoc] using this
theorem sumStep_inj {a b : Nat} {x : UInt8} (ha : a < 4294967296) (hb : b < 4294967296) (h : sumStep a x = sumStep b x) : a = b :=
  xor_inj (mul_undo (xor_lt ha x) (xor_lt hb x) h)
theorem sumStep_byte {a : Nat} {x y : UInt8} (ha : a < 4294967296) (h : sumStep a x = sumStep a y) : x = y := by
  have := mul_undo (xor_lt ha x) (xor_lt ha y) h
  rw [Nat.xor_comm a, Nat.xor_comm a] at this
  exact UInt8.toNat_inj.1 (xor_inj this)
theorem fold_inj (l : List UInt8) : ∀ {a b : Nat}, a < 4294967296 → b < 4294967296 → l.foldl sumStep a = l.foldl sumStep b → a = b := by
  induction l with
  | nil => intro a b _ _ h; exact h
  | cons x l ih => intro a b ha hb h; exact sumStep_inj ha hb (ih (sumStep_lt a x) (sumStep_lt b x) h)
/-- One byte is another one: the check is another one. -/
theorem sum_harm (a b : List UInt8) (x y : UInt8) (h : sumL (a ++ x :: b) = sumL (a ++ y :: b)) : x = y := by
  unfold sumL at h
  rw [List.foldl_append, List.foldl_append] at h
  exact sumStep_byte (sumL_lt a) (fold_inj b (sumStep_lt _ x) (sumStep_lt _ y) h)

/-- A check's four bytes. -/
def le4 (c : Nat) : List UInt8 := [UInt8.ofNat (c % 256), UInt8.ofNat (c / 256 % 256), UInt8.ofNat (c / 65536 % 256), UInt8.ofNat (c / 16777216 % 256)]
theorem le4_len (c : Nat) : (le4 c).length = 4 := rfl
theorem ofNat_inj {a b : Nat} (ha : a < 256) (hb : b < 256) (h : UInt8.ofNat a = UInt8.ofNat b) : a = b := by
  rw [← ofNat_small ha, h, ofNat_small hb]
theorem le4_inj {a b : Nat} (ha : a < 4294967296) (hb : b < 4294967296) (h : le4 a = le4 b) : a = b := by
  unfold le4 at h
  simp only [List.cons.injEq, and_true] at h
  obtain ⟨h0, h1, h2, h3⟩ := h
  have h0 := ofNat_inj (by omega) (by omega) h0
  have h1 := ofNat_inj (by omega) (by omega) h1
  have h2 := ofNat_inj (by omega) (by omega) h2
  have h3 := ofNat_inj (by omega) (by omega) h3
  omega

/-! ### Frames -/
def frameL (s : List UInt8) : List UInt8 := text1 s ++ le4 (sumL s)
def unE (l : List UInt8) (a : Int) : Nat :=
  if textE l a ≠ 0 then textE l a else if (l.length : Int) - textP l a < 4 then 30 else if (l.drop (textP l a).toNat).take 4 = le4 (sumL (textS l a)) then 0 else 32
def unS (l : List UInt8) (a : Int) : List UInt8 := if unE l a = 0 then textS l a else []
def unP (l : List UInt8) (a : Int) : Int := if unE l a = 0 then textP l a + 4 else a
theorem unE_text {l : List UInt8} {a : Int} (h : textE l a ≠ 0) : unE l a = textE l a := by unfold unE; rw [if_pos h]
theorem unE_short {l : List UInt8} {a : Int} (h : textE l a = 0) (h1 : (l.length : Int) - textP l a < 4) : unE l a = 30 := by unfold unE; rw [if_neg (fun hc => hc h), if_pos h1]
theorem unE_ok {l : List UInt8} {a : Int} (h : textE l a = 0) (h1 : ¬ (l.length : Int) - textP l a < 4) (h2 : (l.drop (textP l a).toNat).take 4 = le4 (sumL (textS l a))) : unE l a = 0 := by
  unfold unE; rw [if_neg (fun hc => hc h), if_neg h1, if_pos h2]
theorem unE_sum {l : List UInt8} {a : Int} (h : textE l a = 0) (h1 : ¬ (l.length : Int) - textP l a < 4) (h2 : (l.drop (textP l a).toNat).take 4 ≠ le4 (sumL (textS l a))) : unE l a = 32 := by
  unfold unE; rw [if_neg (fun hc => hc h), if_neg h1, if_neg h2]
theorem unS_no {l : List UInt8} {a : Int} (h : unE l a ≠ 0) : unS l a = [] := by unfold unS; rw [if_neg h]
theorem unP_no {l : List UInt8} {a : Int} (h : unE l a ≠ 0) : unP l a = a := by unfold unP; rw [if_neg h]
theorem unS_ok {l : List UInt8} {a : Int} (h : unE l a = 0) : unS l a = textS l a := by unfold unS; rw [if_pos h]
theorem unP_ok {l : List UInt8} {a : Int} (h : unE l a = 0) : unP l a = textP l a + 4 := by unfold unP; rw [if_pos h]
theorem unE_parts {l : List UInt8} {a : Int} (h : unE l a = 0) : textE l a = 0 ∧ 4 ≤ (l.length : Int) - textP l a ∧ (l.drop (textP l a).toNat).take 4 = le4 (sumL (textS l a)) := by
  unfold unE at h
  split at h
  · contradiction
  · rename_i h0
    split at h
    · cases h
    · split at h
      · rename_i h2; exact ⟨by simpa using h0, by omega, h2⟩
      · cases h
theorem un_put (b s tail : List UInt8) (hs : s.length ≤ 65536) :
    unE (b ++ frameL s ++ tail) b.length = 0 ∧ unS (b ++ frameL s ++ tail) b.length = s ∧ unP (b ++ frameL s ++ tail) b.length = (b ++ frameL s).length := by
  have e : b ++ frameL s ++ tail = b ++ text1 s ++ (le4 (sumL s) ++ tail) := by unfold frameL; simp
  obtain ⟨t1, t2, t3⟩ := text_put b s (le4 (sumL s) ++ tail) hs
  rw [← e] at t1 t2 t3
  have hE : unE (b ++ frameL s ++ tail) b.length = 0 := unE_ok t1 (by rw [t3]; simp [frameL, le4_len]; omega) (by
    rw [t2, t3, e]
    rw [show (((b ++ text1 s).length : Nat) : Int).toNat = (b ++ text1 s).length by omega, List.drop_left, List.take_append_of_le_length (by rw [le4_len]; exact Nat.le_refl _)]
    rfl)
  refine ⟨hE, by rw [unS_ok hE, t2], ?_⟩
  rw [unP_ok hE, t3]
  simp [frameL, le4_len]
  omega
theorem un_one {l : List UInt8} {a : Int} (h : unE l a = 0) : 0 ≤ a ∧ a < unP l a ∧ unP l a ≤ l.length ∧ (unS l a).length ≤ 65536 ∧
    frameL (unS l a) = (l.drop a.toNat).take ((unP l a).toNat - a.toNat) := by
  obtain ⟨h1, h2, h3⟩ := unE_parts h
  obtain ⟨g1, g2, g3, g4, g5⟩ := text_one h1
  rw [unP_ok h, unS_ok h]
  refine ⟨g1, by omega, by omega, g4, ?_⟩
  unfold frameL
  rw [g5, ← h3]
  have e : (textP l a + 4).toNat - a.toNat = ((textP l a).toNat - a.toNat) + 4 := by omega
  have e2 : (textP l a).toNat = a.toNat + ((textP l a).toNat - a.toNat) := by omega
  rw [e, List.take_add, List.drop_drop, ← e2]
/-- One byte of a frame's content or check is another one. -/
theorem un_harm (s : List UInt8) (hs : s.length ≤ 65536) (t k : List UInt8) (ht : t.length = s.length) (hk : k.length = 4) (hbad : k ≠ le4 (sumL t)) :
    unE (put1 s.length ++ t ++ k) 0 = 32 := by
  have e : put1 s.length ++ t ++ k = [] ++ text1 t ++ k := by unfold text1; simp [ht]
  obtain ⟨t1, t2, t3⟩ := text_put [] t k (by omega)
  rw [← e] at t1 t2 t3
  simp only [List.length_nil, Int.ofNat_zero, List.nil_append] at t1 t2 t3
  refine unE_sum t1 (by rw [t3]; simp [text1, ht, hk]; omega) ?_
  rw [t2, t3, e]
  rw [show (((text1 t).length : Nat) : Int).toNat = (text1 t).length by omega, List.nil_append, List.drop_left, List.take_of_length_le (by omega)]
  exact hbad
end Go.Proofs.YteedmmljahgpjaaGreatDoor.W

/-
  Masks, shifts and complements as plain arithmetic: facts for the walks of layer 3.
-/
namespace Go.Proofs.YteedmmljahgpjaaGreatDoor.W
open Go.RowKit

theorem wr64 (n : Int) (h₀ : 0 ≤ n) (h₁ : n < 2 ^ 64) : IntKind.u64.wrap n = n := by rw [IntKind.wrap_u64]; omega
theorem ones64 (b : Nat) (hb : b < 2 ^ 64) : (2 ^ 64 - 1) ^^^ b = 2 ^ 64 - 1 - b := by
  apply Nat.eq_of_testBit_eq
  intro i
  rw [Nat.testBit_xor, Nat.testBit_two_pow_sub_one, show 2 ^ 64 - 1 - b = 2 ^ 64 - (b + 1) by omega, Nat.testBit_two_pow_sub_succ hb]
  by_cases hi : i < 64
  · simp [hi]
  · have : b.testBit i = false := Nat.testBit_lt_two_pow (Nat.lt_of_lt_of_le hb (Nat.pow_le_pow_right (by decide) (by omega)))
    simp [hi, this]
theorem not64 (x : Int) (h0 : 0 ≤ x) (h1 : x ≤ 18446744073709551615) : bits .xor .u64 IntKind.u64.max x = 18446744073709551615 - x := by
  have e2 : IntKind.u64.max = ((2 ^ 64 - 1 : Nat) : Int) := by decide
  obtain ⟨a, rfl⟩ := Int.eq_ofNat_of_zero_le h0
  rw [e2, u64_xor_nat _ _ (by decide) (by omega), ones64 _ (by omega)]
  omega
theorem noti64 (x : Int) (h0 : 0 ≤ x) (h1 : x ≤ 9223372036854775807) : bits .xor .i64 (-1) x = -x - 1 := by
  obtain ⟨a, rfl⟩ := Int.eq_ofNat_of_zero_le h0
  show IntKind.i64.wrap ((BitVec.ofInt 64 (-1) ^^^ BitVec.ofInt 64 (a : Int)).toNat : Int) = _
  have h1 : (BitVec.ofInt 64 (-1)).toNat = 2 ^ 64 - 1 := by decide
  have h2 : (BitVec.ofInt 64 (a : Int)).toNat = a := by
    rw [BitVec.ofInt_natCast, BitVec.toNat_ofNat]; exact Nat.mod_eq_of_lt (by omega)
  rw [BitVec.toNat_xor, h1, h2, ones64 a (by omega), IntKind.wrap_i64]
  omega
theorem and1 (x : Int) (h0 : 0 ≤ x) (h1 : x ≤ 18446744073709551615) : bits .and .u64 x 1 = x % 2 := by
  have h := bits_mask .u64 64 (by decide) wr64 1 (by decide) x h0 (by omega)
  simpa using h
theorem and127 (x : Int) (h0 : 0 ≤ x) (h1 : x ≤ 18446744073709551615) : bits .and .u64 x 127 = x % 128 := by
  have h := bits_mask .u64 64 (by decide) wr64 7 (by decide) x h0 (by omega)
  simpa using h
theorem and127b (x : Int) (h0 : 0 ≤ x) (h1 : x ≤ 255) : bits .and .u8 x 127 = x % 128 := by
  have h := bits_mask .u8 8 (by decide) wraps_u8 7 (by decide) x h0 (by omega)
  simpa using h
theorem or128 (x : Int) (h0 : 0 ≤ x) (h1 : x ≤ 127) : bits .or .u8 x 128 = x + 128 := by
  obtain ⟨a, rfl⟩ := Int.eq_ofNat_of_zero_le h0
  have := u8_or_nat a 128 (by omega) (by decide)
  rw [show ((128 : Nat) : Int) = 128 from rfl] at this
  rw [this, Nat.or_comm, show (128 : Nat) = 2 ^ 7 * 1 by decide, ← Nat.two_pow_add_eq_or_of_lt (by omega) 1]
  omega
/-- A group of seven bits laid above others. -/
theorem or_above (n m s : Nat) (hn : n < 2 ^ s) (hm : m * 2 ^ s < 18446744073709551616) (hn2 : n < 18446744073709551616) :
    bits .or .u64 (n : Int) ((m * 2 ^ s : Nat) : Int) = ((n + m * 2 ^ s : Nat) : Int) := by
  rw [u64_or_nat _ _ hn2 hm, Nat.or_comm, Nat.mul_comm, ← Nat.two_pow_add_eq_or_of_lt hn m, Nat.add_comm]
end Go.Proofs.YteedmmljahgpjaaGreatDoor.W
