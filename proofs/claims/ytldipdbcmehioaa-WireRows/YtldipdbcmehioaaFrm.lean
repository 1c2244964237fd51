/-
  Plain mathematics of layer 3 (wire): what is read at a place, texts, checks, frames. No model in this text.
-/
import Derived.Test.YtldipdbcmehioaaNum
namespace Go.Proofs.Ytldipdbcmehioaa

/-! ### A number at a place -/
def takeE (l : List UInt8) (a : Int) : Nat := if a < 0 ∨ (l.length : Int) < a then 1 else (tk 0 (l.drop a.toNat)).1
def takeN (l : List UInt8) (a : Int) : Nat := if takeE l a = 0 then (tk 0 (l.drop a.toNat)).2.2 else 0
def takeP (l : List UInt8) (a : Int) : Int := if takeE l a = 0 then a + ((tk 0 (l.drop a.toNat)).2.1 : Nat) else a
theorem takeE_arg {l : List UInt8} {a : Int} (h : a < 0 ∨ (l.length : Int) < a) : takeE l a = 1 := by unfold takeE; rw [if_pos h]
theorem takeE_in {l : List UInt8} {a : Int} (h1 : 0 ≤ a) (h2 : a ≤ l.length) : takeE l a = (tk 0 (l.drop a.toNat)).1 := by unfold takeE; rw [if_neg (by omega)]
theorem takeN_no {l : List UInt8} {a : Int} (h : takeE l a ≠ 0) : takeN l a = 0 := by unfold takeN; rw [if_neg h]
theorem takeP_no {l : List UInt8} {a : Int} (h : takeE l a ≠ 0) : takeP l a = a := by unfold takeP; rw [if_neg h]
theorem takeN_ok {l : List UInt8} {a : Int} (h : takeE l a = 0) : takeN l a = (tk 0 (l.drop a.toNat)).2.2 := by unfold takeN; rw [if_pos h]
theorem takeP_ok {l : List UInt8} {a : Int} (h : takeE l a = 0) : takeP l a = a + ((tk 0 (l.drop a.toNat)).2.1 : Nat) := by unfold takeP; rw [if_pos h]
theorem takeE_place {l : List UInt8} {a : Int} (h : takeE l a = 0) : 0 ≤ a ∧ a ≤ l.length := by
  unfold takeE at h
  split at h
  · cases h
  · omega
theorem takeE_errs (l : List UInt8) (a : Int) : takeE l a = 0 ∨ takeE l a = 1 ∨ takeE l a = 30 ∨ takeE l a = 31 := by
  unfold takeE
  split
  · exact .inr (.inl rfl)
  · rcases tk_errs (l.drop a.toNat) 0 with h | h | h
    · exact .inl h
    · exact .inr (.inr (.inl h))
    · exact .inr (.inr (.inr h))
/-- What is taken is put again, byte by byte. -/
theorem take_one {l : List UInt8} {a : Int} (h : takeE l a = 0) : 0 ≤ a ∧ a < takeP l a ∧ takeP l a ≤ l.length ∧ takeN l a < 18446744073709551616 ∧
    put1 (takeN l a) = (l.drop a.toNat).take ((takeP l a).toNat - a.toNat) ∧ ((put1 (takeN l a)).length : Int) = takeP l a - a := by
  obtain ⟨h1, h2⟩ := takeE_place h
  have h' := h
  rw [takeE_in h1 h2] at h'
  obtain ⟨g1, g2, _, g4, g5⟩ := tk_one _ 0 h'
  rw [takeN_ok h, takeP_ok h]
  rw [List.length_drop] at g5
  have e : (a + ((tk 0 (l.drop a.toNat)).2.1 : Nat)).toNat - a.toNat = (tk 0 (l.drop a.toNat)).2.1 := by omega
  refine ⟨h1, by omega, by omega, by simpa using g2, by rw [e]; exact g1, ?_⟩
  rw [g1, List.length_take, List.length_drop]
  omega
/-- What is put is taken, whatever stands ahead and behind. -/
theorem take_put (b tail : List UInt8) (n : Nat) (hn : n < 18446744073709551616) :
    takeE (b ++ put1 n ++ tail) b.length = 0 ∧ takeN (b ++ put1 n ++ tail) b.length = n ∧ takeP (b ++ put1 n ++ tail) b.length = (b ++ put1 n).length := by
  have hd : (b ++ put1 n ++ tail).drop ((b.length : Int)).toNat = put1 n ++ tail := by simp
  have ht := tk_put n n 0 (Nat.le_refl _) (by simpa using hn) (fun h => by omega) tail
  have hE : takeE (b ++ put1 n ++ tail) b.length = 0 := by rw [takeE_in (by omega) (by simp; omega), hd, ht]
  refine ⟨hE, ?_, ?_⟩
  · rw [takeN_ok hE, hd, ht]
  · rw [takeP_ok hE, hd, ht]; simp

/-! ### A text at a place -/
def textE (l : List UInt8) (a : Int) : Nat :=
  if takeE l a ≠ 0 then takeE l a else if 65536 < takeN l a then 31 else if (l.length : Int) < takeP l a + takeN l a then 30 else 0
def textS (l : List UInt8) (a : Int) : List UInt8 := if textE l a = 0 then (l.drop (takeP l a).toNat).take (takeN l a) else []
def textP (l : List UInt8) (a : Int) : Int := if textE l a = 0 then takeP l a + takeN l a else a
theorem textE_take {l : List UInt8} {a : Int} (h : takeE l a ≠ 0) : textE l a = takeE l a := by unfold textE; rw [if_pos h]
theorem textE_long {l : List UInt8} {a : Int} (h : takeE l a = 0) (h1 : 65536 < takeN l a) : textE l a = 31 := by unfold textE; rw [if_neg (fun hc => hc h), if_pos h1]
theorem textE_short {l : List UInt8} {a : Int} (h : takeE l a = 0) (h1 : ¬ 65536 < takeN l a) (h2 : (l.length : Int) < takeP l a + takeN l a) : textE l a = 30 := by
  unfold textE; rw [if_neg (fun hc => hc h), if_neg h1, if_pos h2]
theorem textE_ok {l : List UInt8} {a : Int} (h : takeE l a = 0) (h1 : ¬ 65536 < takeN l a) (h2 : ¬ (l.length : Int) < takeP l a + takeN l a) : textE l a = 0 := by
  unfold textE; rw [if_neg (fun hc => hc h), if_neg h1, if_neg h2]
theorem textS_no {l : List UInt8} {a : Int} (h : textE l a ≠ 0) : textS l a = [] := by unfold textS; rw [if_neg h]
theorem textP_no {l : List UInt8} {a : Int} (h : textE l a ≠ 0) : textP l a = a := by unfold textP; rw [if_neg h]
theorem textS_ok {l : List UInt8} {a : Int} (h : textE l a = 0) : textS l a = (l.drop (takeP l a).toNat).take (takeN l a) := by unfold textS; rw [if_pos h]
theorem textP_ok {l : List UInt8} {a : Int} (h : textE l a = 0) : textP l a = takeP l a + takeN l a := by unfold textP; rw [if_pos h]
theorem textE_parts {l : List UInt8} {a : Int} (h : textE l a = 0) : takeE l a = 0 ∧ takeN l a ≤ 65536 ∧ takeP l a + takeN l a ≤ l.length := by
  unfold textE at h
  split at h
  · contradiction
  · rename_i h0
    split at h
    · cases h
    · split at h
      · cases h
      · exact ⟨by simpa using h0, by omega, by omega⟩
theorem textE_errs (l : List UInt8) (a : Int) : textE l a = 0 ∨ textE l a = 1 ∨ textE l a = 30 ∨ textE l a = 31 := by
  unfold textE
  split
  · exact takeE_errs l a
  · split
    · exact .inr (.inr (.inr rfl))
    · split
      · exact .inr (.inr (.inl rfl))
      · exact .inl rfl
/-- A text as bytes. -/
def text1 (s : List UInt8) : List UInt8 := put1 s.length ++ s
theorem text_put (b s tail : List UInt8) (hs : s.length ≤ 65536) :
    textE (b ++ text1 s ++ tail) b.length = 0 ∧ textS (b ++ text1 s ++ tail) b.length = s ∧ textP (b ++ text1 s ++ tail) b.length = (b ++ text1 s).length := by
  have e : b ++ text1 s ++ tail = b ++ put1 s.length ++ (s ++ tail) := by unfold text1; simp
  obtain ⟨t1, t2, t3⟩ := take_put b (s ++ tail) s.length (by omega)
  rw [← e] at t1 t2 t3
  have hE : textE (b ++ text1 s ++ tail) b.length = 0 := textE_ok t1 (by omega) (by rw [t2, t3]; simp [text1]; omega)
  refine ⟨hE, ?_, ?_⟩
  · rw [textS_ok hE, t2, t3, e, show (((b ++ put1 s.length).length : Nat) : Int).toNat = (b ++ put1 s.length).length by omega, List.drop_left, List.take_left]
  · rw [textP_ok hE, t2, t3]; simp [text1]; omega
theorem text_one {l : List UInt8} {a : Int} (h : textE l a = 0) : 0 ≤ a ∧ a < textP l a ∧ textP l a ≤ l.length ∧ (textS l a).length ≤ 65536 ∧
    text1 (textS l a) = (l.drop a.toNat).take ((textP l a).toNat - a.toNat) := by
  obtain ⟨h1, h2, h3⟩ := textE_parts h
  obtain ⟨g1, g2, g3, _, g5, g6⟩ := take_one h1
  rw [textP_ok h]
  have hl : (textS l a).length = takeN l a := by rw [textS_ok h, List.length_take, List.length_drop]; omega
  refine ⟨g1, by omega, by omega, by omega, ?_⟩
  unfold text1
  rw [hl, g5, textS_ok h]
  have e : (takeP l a + (takeN l a : Nat)).toNat - a.toNat = ((takeP l a).toNat - a.toNat) + takeN l a := by omega
  have e2 : (takeP l a).toNat = a.toNat + ((takeP l a).toNat - a.toNat) := by omega
  rw [e, List.take_add, List.drop_drop, ← e2]

/-! ### The check -/
def sumStep (c : Nat) (x : UInt8) : Nat := ((c ^^^ x.toNat) * 16777619) % 4294967296
def sumL (l : List UInt8) : Nat := l.foldl sumStep 2166136261
theorem sumStep_lt (c : Nat) (x : UInt8) : sumStep c x < 4294967296 := Nat.mod_lt _ (by decide)
theorem fold_lt (l : List UInt8) : ∀ c, c < 4294967296 → l.foldl sumStep c < 4294967296 := by
  induction l with
  | nil => intro c h; exact h
  | cons x l ih => intro c _; exact ih _ (sumStep_lt c x)
theorem sumL_lt (l : List UInt8) : sumL l < 4294967296 := fold_lt l _ (by decide)
theorem sumL_snoc (l : List UInt8) (x : UInt8) : sumL (l ++ [x]) = sumStep (sumL l) x := by unfold sumL; rw [List.foldl_append, List.foldl_cons, List.foldl_nil]
theorem mul_undo {a b : Nat} (ha : a < 4294967296) (hb : b < 4294967296) (h : a * 16777619 % 4294967296 = b * 16777619 % 4294967296) : a = b := by
  have key : ∀ x, x < 4294967296 → (x * 16777619 % 4294967296) * 899433627 % 4294967296 = x := by
    intro x hx
    rw [Nat.mod_mul_mod, Nat.mul_assoc, show 16777619 * 899433627 = 1 + 4294967296 * 3513497 by decide, Nat.mul_add, Nat.mul_one, Nat.mul_left_comm, Nat.add_mul_mod_self_left]
    exact Nat.mod_eq_of_lt hx
  rw [← key a ha, h, key b hb]
theorem xor_lt {a : Nat} (ha : a < 4294967296) (x : UInt8) : a ^^^ x.toNat < 4294967296 := by
  have hx := x.toNat_lt
  exact Nat.xor_lt_two_pow (n := 32) ha (by omega)
theorem xor_inj {a b c : Nat} (h : a ^^^ c = b ^^^ c) : a = b := by
  have := congrArg (· ^^^ c) h
  simpa [Nat.xor_assoc] using this
theorem sumStep_inj {a b : Nat} {x : UInt8} (ha : a < 4294967296) (hb : b < 4294967296) (h : sumStep a x = sumStep b x) : a = b :=
  xor_inj (mul_undo (xor_lt ha x) (xor_lt hb x) h)
theorem sumStep_byte {a : Nat} {x y : UInt8} (ha : a < 4294967296) (h : sumStep a x = sumStep a y) : x = y := by
  have := mul_undo (xor_lt ha x) (xor_lt ha y) h
  rw [Nat.xor_comm a, Nat.xor_comm a] at this
  exact UInt8.toNat_inj.1 (xor_inj this)
theorem fold_inj (l : List UInt8) : ∀ {a b : Nat}, a < 4294967296 → b < 4294967296 → l.foldl sumStep a = l.foldl sumStep b → a = b := by
  induction l with
  | nil => intro a b _ _ h; exact h
  | cons x l ih => intro a b ha hb h; exact sumStep_inj ha hb (ih (sumStep_lt a x) (sumStep_lt b x) h)
/-- One byte is another one: the check is another one. -/
theorem sum_harm (a b : List UInt8) (x y : UInt8) (h : sumL (a ++ x :: b) = sumL (a ++ y :: b)) : x = y := by
  unfold sumL at h
  rw [List.foldl_append, List.foldl_append] at h
  exact sumStep_byte (sumL_lt a) (fold_inj b (sumStep_lt _ x) (sumStep_lt _ y) h)

/-- A check's four bytes. -/
def le4 (c : Nat) : List UInt8 := [UInt8.ofNat (c % 256), UInt8.ofNat (c / 256 % 256), UInt8.ofNat (c / 65536 % 256), UInt8.ofNat (c / 16777216 % 256)]
theorem le4_len (c : Nat) : (le4 c).length = 4 := rfl
theorem ofNat_inj {a b : Nat} (ha : a < 256) (hb : b < 256) (h : UInt8.ofNat a = UInt8.ofNat b) : a = b := by
  rw [← ofNat_small ha, h, ofNat_small hb]
theorem le4_inj {a b : Nat} (ha : a < 4294967296) (hb : b < 4294967296) (h : le4 a = le4 b) : a = b := by
  unfold le4 at h
  simp only [List.cons.injEq, and_true] at h
  obtain ⟨h0, h1, h2, h3⟩ := h
  have h0 := ofNat_inj (by omega) (by omega) h0
  have h1 := ofNat_inj (by omega) (by omega) h1
  have h2 := ofNat_inj (by omega) (by omega) h2
  have h3 := ofNat_inj (by omega) (by omega) h3
  omega

/-! ### Frames -/
def frameL (s : List UInt8) : List UInt8 := text1 s ++ le4 (sumL s)
def unE (l : List UInt8) (a : Int) : Nat :=
  if textE l a ≠ 0 then textE l a else if (l.length : Int) - textP l a < 4 then 30 else if (l.drop (textP l a).toNat).take 4 = le4 (sumL (textS l a)) then 0 else 32
def unS (l : List UInt8) (a : Int) : List UInt8 := if unE l a = 0 then textS l a else []
def unP (l : List UInt8) (a : Int) : Int := if unE l a = 0 then textP l a + 4 else a
theorem unE_text {l : List UInt8} {a : Int} (h : textE l a ≠ 0) : unE l a = textE l a := by unfold unE; rw [if_pos h]
theorem unE_short {l : List UInt8} {a : Int} (h : textE l a = 0) (h1 : (l.length : Int) - textP l a < 4) : unE l a = 30 := by unfold unE; rw [if_neg (fun hc => hc h), if_pos h1]
theorem unE_ok {l : List UInt8} {a : Int} (h : textE l a = 0) (h1 : ¬ (l.length : Int) - textP l a < 4) (h2 : (l.drop (textP l a).toNat).take 4 = le4 (sumL (textS l a))) : unE l a = 0 := by
  unfold unE; rw [if_neg (fun hc => hc h), if_neg h1, if_pos h2]
theorem unE_sum {l : List UInt8} {a : Int} (h : textE l a = 0) (h1 : ¬ (l.length : Int) - textP l a < 4) (h2 : (l.drop (textP l a).toNat).take 4 ≠ le4 (sumL (textS l a))) : unE l a = 32 := by
  unfold unE; rw [if_neg (fun hc => hc h), if_neg h1, if_neg h2]
theorem unS_no {l : List UInt8} {a : Int} (h : unE l a ≠ 0) : unS l a = [] := by unfold unS; rw [if_neg h]
theorem unP_no {l : List UInt8} {a : Int} (h : unE l a ≠ 0) : unP l a = a := by unfold unP; rw [if_neg h]
theorem unS_ok {l : List UInt8} {a : Int} (h : unE l a = 0) : unS l a = textS l a := by unfold unS; rw [if_pos h]
theorem unP_ok {l : List UInt8} {a : Int} (h : unE l a = 0) : unP l a = textP l a + 4 := by unfold unP; rw [if_pos h]
theorem unE_parts {l : List UInt8} {a : Int} (h : unE l a = 0) : textE l a = 0 ∧ 4 ≤ (l.length : Int) - textP l a ∧ (l.drop (textP l a).toNat).take 4 = le4 (sumL (textS l a)) := by
  unfold unE at h
  split at h
  · contradiction
  · rename_i h0
    split at h
    · cases h
    · split at h
      · rename_i h2; exact ⟨by simpa using h0, by omega, h2⟩
      · cases h
theorem un_put (b s tail : List UInt8) (hs : s.length ≤ 65536) :
    unE (b ++ frameL s ++ tail) b.length = 0 ∧ unS (b ++ frameL s ++ tail) b.length = s ∧ unP (b ++ frameL s ++ tail) b.length = (b ++ frameL s).length := by
  have e : b ++ frameL s ++ tail = b ++ text1 s ++ (le4 (sumL s) ++ tail) := by unfold frameL; simp
  obtain ⟨t1, t2, t3⟩ := text_put b s (le4 (sumL s) ++ tail) hs
  rw [← e] at t1 t2 t3
  have hE : unE (b ++ frameL s ++ tail) b.length = 0 := unE_ok t1 (by rw [t3]; simp [frameL, le4_len]; omega) (by
    rw [t2, t3, e]
    rw [show (((b ++ text1 s).length : Nat) : Int).toNat = (b ++ text1 s).length by omega, List.drop_left, List.take_append_of_le_length (by rw [le4_len]; exact Nat.le_refl _)]
    rfl)
  refine ⟨hE, by rw [unS_ok hE, t2], ?_⟩
  rw [unP_ok hE, t3]
  simp [frameL, le4_len]
  omega
theorem un_one {l : List UInt8} {a : Int} (h : unE l a = 0) : 0 ≤ a ∧ a < unP l a ∧ unP l a ≤ l.length ∧ (unS l a).length ≤ 65536 ∧
    frameL (unS l a) = (l.drop a.toNat).take ((unP l a).toNat - a.toNat) := by
  obtain ⟨h1, h2, h3⟩ := unE_parts h
  obtain ⟨g1, g2, g3, g4, g5⟩ := text_one h1
  rw [unP_ok h, unS_ok h]
  refine ⟨g1, by omega, by omega, g4, ?_⟩
  unfold frameL
  rw [g5, ← h3]
  have e : (textP l a + 4).toNat - a.toNat = ((textP l a).toNat - a.toNat) + 4 := by omega
  have e2 : (textP l a).toNat = a.toNat + ((textP l a).toNat - a.toNat) := by omega
  rw [e, List.take_add, List.drop_drop, ← e2]
/-- One byte of a frame's content or check is another one. -/
theorem un_harm (s : List UInt8) (hs : s.length ≤ 65536) (t k : List UInt8) (ht : t.length = s.length) (hk : k.length = 4) (hbad : k ≠ le4 (sumL t)) :
    unE (put1 s.length ++ t ++ k) 0 = 32 := by
  have e : put1 s.length ++ t ++ k = [] ++ text1 t ++ k := by unfold text1; simp [ht]
  obtain ⟨t1, t2, t3⟩ := text_put [] t k (by omega)
  rw [← e] at t1 t2 t3
  simp only [List.length_nil, Int.ofNat_zero, List.nil_append] at t1 t2 t3
  refine unE_sum t1 (by rw [t3]; simp [text1, ht, hk]; omega) ?_
  rw [t2, t3, e]
  rw [show (((text1 t).length : Nat) : Int).toNat = (text1 t).length by omega, List.nil_append, List.drop_left, List.take_of_length_le (by omega)]
  exact hbad
end Go.Proofs.Ytldipdbcmehioaa
