/-
  Numbers printed and read again. Plain mathematics.
-/
import Derived.Test.YtkbadigpagijjaaDoorShape
import Derived.Test.YtkbadigpagijjaaDoorParse
import Derived.Test.YtkbadigpagijjaaDoorDec
namespace Go.Proofs.YtkbadigpagijjaaDoor
open Go.Lib

theorem ofNat_dig (m : Nat) (h : m < 10) : dig (UInt8.ofNat (48 + m)) = true ∧ (UInt8.ofNat (48 + m)).toNat = 48 + m := by
  have e : (UInt8.ofNat (48 + m)).toNat = 48 + m := by rw [UInt8.toNat_ofNat_of_lt' (by show _ < 256; omega)]
  exact ⟨dig_iff.2 (by omega), e⟩
theorem dig_back {c : UInt8} (h : dig c = true) : UInt8.ofNat (48 + (c.toNat - 48)) = c := by
  have := dig_iff.1 h
  apply UInt8.toNat_inj.1
  rw [(ofNat_dig (c.toNat - 48) (by omega)).2]; omega
theorem decN_snoc (t : List UInt8) (c : UInt8) : decN (t ++ [c]) = decN t * 10 + (c.toNat - 48) := by
  rw [decN_app]; simp [decN]
theorem decN_one (c : UInt8) : decN [c] = c.toNat - 48 := by simp [decN]

theorem dec_step {u : Nat} (h : ¬ u < 10) : decDigits u = decDigits (u / 10) ++ [UInt8.ofNat (48 + u % 10)] := by rw [decDigits, dif_neg h]

theorem dec_facts (u : Nat) : Digs (decDigits u) ∧ decN (decDigits u) = u := by
  induction u using Nat.strongRecOn with
  | _ u ih =>
    by_cases h : u < 10
    · rw [decDigits_one h]
      refine ⟨fun c hc => ?_, ?_⟩
      · rw [List.mem_singleton.1 hc]; exact (ofNat_dig u h).1
      · rw [decN_one, (ofNat_dig u h).2]; omega
    · obtain ⟨h1, h2⟩ := ih (u / 10) (by omega)
      rw [dec_step h]
      refine ⟨h1.app fun c hc => ?_, ?_⟩
      · rw [List.mem_singleton.1 hc]; exact (ofNat_dig _ (by omega)).1
      · rw [decN_snoc, h2, (ofNat_dig _ (by omega)).2]; omega

/-- Split off the last one. -/
theorem snoc_of {t : List UInt8} (h : t ≠ []) : ∃ r c, t = r ++ [c] := ⟨t.dropLast, t.getLast h, (List.dropLast_concat_getLast h).symm⟩

theorem Whole.lead {ws : List UInt8} (h : Whole ws) (h1 : 2 ≤ ws.length) : ws.head? ≠ some 48 := by
  rcases h.2.2 with e | e
  · rw [e] at h1; simp at h1
  · exact e
theorem Whole.pos {ws : List UInt8} (h : Whole ws) (h1 : ws ≠ [48]) : 1 ≤ decN ws := by
  have h0 := h.2.2.resolve_left h1
  cases ws with
  | nil => exact absurd rfl h.2.1
  | cons c r =>
    have hc := dig_iff.1 h.1.head
    have h48 : c.toNat ≠ 48 := fun e => h0 (by rw [List.head?_cons]; exact congrArg some (UInt8.toNat_inj.1 e))
    rw [decN_cons]
    have : 1 ≤ (c.toNat - 48) * 10 ^ r.length := Nat.mul_pos (by omega) (Nat.pow_pos (by decide))
    omega

/-- A right whole part is its number's digits. -/
theorem dec_whole : ∀ (k : Nat) (t : List UInt8), t.length = k → Whole t → decDigits (decN t) = t
  | 0, t, hl, hw => absurd (List.eq_nil_of_length_eq_zero hl) hw.2.1
  | k + 1, t, hl, hw => by
    obtain ⟨r, c, rfl⟩ := snoc_of hw.2.1
    have hc : dig c = true := hw.1 c (by simp)
    have hcd := dig_iff.1 hc
    rw [decN_snoc]
    by_cases hr : r = []
    · subst hr
      have e : decN [] = 0 := rfl
      rw [e, Nat.zero_mul, Nat.zero_add, decDigits_one (by omega), dig_back hc]; rfl
    · have hlen : r.length = k := by simpa using hl
      have hr0 : 0 < r.length := List.length_pos_iff.2 hr
      have hlead := hw.lead (by rw [List.length_append]; simp; omega)
      have hrh : r.head? ≠ some 48 := by
        intro e; apply hlead
        rw [List.head?_append, e]; rfl
      have hwr : Whole r := ⟨hw.1.left, hr, Or.inr hrh⟩
      have hp := hwr.pos (by intro e; rw [e] at hrh; exact hrh rfl)
      rw [dec_step (by omega), show (decN r * 10 + (c.toNat - 48)) / 10 = decN r by omega, show (decN r * 10 + (c.toNat - 48)) % 10 = c.toNat - 48 by omega, dec_whole k r hlen hwr, dig_back hc]

theorem zeros_of : ∀ (t : List UInt8), Digs t → decN t = 0 → t = List.replicate t.length 48
  | [], _, _ => rfl
  | c :: r, hd, h0 => by
    rw [decN_cons] at h0
    have h1 : (c.toNat - 48) * 10 ^ r.length = 0 := by omega
    have h2 : decN r = 0 := by omega
    have hp : 0 < 10 ^ r.length := Nat.pow_pos (by decide)
    have hc : c.toNat - 48 = 0 := by
      rcases Nat.mul_eq_zero.1 h1 with h | h
      · exact h
      · omega
    have hcd := dig_iff.1 hd.head
    have : c = 48 := UInt8.toNat_inj.1 (by show c.toNat = 48; omega)
    rw [List.length_cons, List.replicate_succ, ← zeros_of r hd.tail h2, this]

/-- Just p + 1 digits, noughts ahead or not. -/
theorem pad_fixed : ∀ (p : Nat) (t : List UInt8), t.length = p + 1 → Digs t → padD p (decDigits (decN t)) = t := by
  intro p
  induction p with
  | zero =>
    intro t hl hd
    obtain ⟨r, c, rfl⟩ := snoc_of (t := t) (by intro e; rw [e] at hl; simp at hl)
    have hr : r = [] := List.eq_nil_of_length_eq_zero (by simpa using hl)
    subst hr
    have hc : dig c = true := hd c (by simp)
    have hcd := dig_iff.1 hc
    rw [List.nil_append, decN_one, decDigits_one (by omega), dig_back hc]; rfl
  | succ p ih =>
    intro t hl hd
    obtain ⟨r, c, rfl⟩ := snoc_of (t := t) (by intro e; rw [e] at hl; simp at hl)
    have hlr : r.length = p + 1 := by simpa using hl
    have hc : dig c = true := hd c (by simp)
    have hcd := dig_iff.1 hc
    rw [decN_snoc]
    by_cases h10 : decN r * 10 + (c.toNat - 48) < 10
    · have h0 : decN r = 0 := by omega
      have hz := zeros_of r hd.left h0
      rw [decDigits_one h10, h0, Nat.zero_mul, Nat.zero_add, dig_back hc, hz]
      unfold padD
      rw [hlr]; rfl
    · have e1 : (decN r * 10 + (c.toNat - 48)) / 10 = decN r := by omega
      have e2 : (decN r * 10 + (c.toNat - 48)) % 10 = c.toNat - 48 := by omega
      rw [dec_step h10, e1, e2, dig_back hc]
      have := ih r hlr hd.left
      unfold padD at this ⊢
      rw [List.length_append, List.length_singleton, ← List.append_assoc, show p + 1 + 1 - ((decDigits (decN r)).length + 1) = p + 1 - (decDigits (decN r)).length by omega, this]

/-- Whole part and places together, as Print puts them. -/
theorem pad_whole {ws gs : List UInt8} {p : Nat} (hw : Whole ws) (hg : Digs gs) (hl : gs.length = p) : padD p (decDigits (decN (ws ++ gs))) = ws ++ gs := by
  have h0 : 0 < ws.length := List.length_pos_iff.2 hw.2.1
  by_cases h1 : ws.length = 1
  · exact pad_fixed p (ws ++ gs) (by rw [List.length_append]; omega) (hw.1.app hg)
  · have hlead := hw.lead (by omega)
    have hW : Whole (ws ++ gs) := ⟨hw.1.app hg, by simp [hw.2.1], Or.inr (by
      intro e; apply hlead
      cases ws with
      | nil => simp at h0
      | cons c r => simpa using e)⟩
    rw [dec_whole _ _ rfl hW, padD_long (by rw [List.length_append]; omega)]
theorem pointed_app (ws gs : List UInt8) {p : Nat} (hl : gs.length = p) : pointed p (ws ++ gs) = ws ++ 46 :: gs := by
  unfold pointed
  rw [show (ws ++ gs).length - p = ws.length by rw [List.length_append]; omega, List.take_left, List.drop_left]

/-- The sign of a number. -/
def ngB (n : Int) : Bool := decide (n < 0)
theorem sg_ng (n : Int) : sg (ngB n) = if n < 0 then [45] else [] := by
  unfold ngB sg
  by_cases h : n < 0
  · rw [decide_eq_true h, if_pos rfl, if_pos h]
  · rw [decide_eq_false h, if_neg (by decide), if_neg h]
theorem sv_ng (n : Int) : sv (ngB n) n.natAbs = n := by
  unfold ngB
  by_cases h : n < 0
  · rw [decide_eq_true h, sv_t]; omega
  · rw [decide_eq_false h, sv_f]; omega

theorem decDigits_whole (u : Nat) : Whole (decDigits u) := by
  obtain ⟨h1, h2⟩ := dec_facts u
  refine ⟨h1, ?_, ?_⟩
  · intro e
    have := decDigits_length u
    rw [e] at this
    have h := nDigits_pos u
    simp at this; omega
  · induction u using Nat.strongRecOn with
    | _ u ih =>
      by_cases h : u < 10
      · rw [decDigits_one h]
        by_cases h0 : u = 0
        · subst h0; left; rfl
        · right
          intro e
          have e1 : UInt8.ofNat (48 + u) = 48 := Option.some.inj e
          have e2 := (ofNat_dig u h).2
          rw [e1] at e2
          have : (48 : UInt8).toNat = 48 := rfl
          omega
      · right
        obtain ⟨g1, g2⟩ := dec_facts (u / 10)
        rw [dec_step h]
        have hne : decDigits (u / 10) ≠ [] := by
          intro e
          have := decDigits_length (u / 10)
          rw [e] at this
          have h := nDigits_pos (u / 10)
          simp at this; omega
        have hh : (decDigits (u / 10) ++ [UInt8.ofNat (48 + u % 10)]).head? = (decDigits (u / 10)).head? := by
          cases hd : decDigits (u / 10) with
          | nil => exact absurd hd hne
          | cons a b => rfl
        rw [hh]
        rcases ih (u / 10) (by omega) g1 g2 with e | e
        · rw [e] at g2
          have : decN [48] = 0 := rfl
          omega
        · exact e

/-- What Print writes, taken apart. -/
theorem print_shape (n : Int) (p : Nat) : ∃ ws fs, printL n p = sg (ngB n) ++ (ws ++ tl fs) ∧ Whole ws ∧ Digs fs ∧ fs.length = p ∧ decN (ws ++ fs) = n.natAbs := by
  obtain ⟨h1, h2⟩ := dec_facts n.natAbs
  have hW := decDigits_whole n.natAbs
  by_cases hp : p = 0
  · subst hp
    refine ⟨decDigits n.natAbs, [], ?_, hW, Digs.nil, rfl, by rw [List.append_nil]; exact h2⟩
    rw [printL_0, tl_nil, List.append_nil, sg_ng]
    by_cases h : n < 0
    · rw [itoa_n h, if_pos h]; rfl
    · rw [itoa_p h, if_neg h]; rfl
  · obtain ⟨t, et⟩ : ∃ t, t = padD p (decDigits n.natAbs) := ⟨_, rfl⟩
    have hlen : p < t.length := by rw [et]; exact padD_gt p _
    have hz : ∀ k, Digs (List.replicate k (48 : UInt8)) := fun k c hc => by rw [(List.mem_replicate.1 hc).2]; exact dig48
    have hdt : Digs t := by rw [et]; exact (hz _).app h1
    have hz0 : ∀ k, decN (List.replicate k (48 : UInt8)) = 0 := by
      intro k
      induction k with
      | zero => rfl
      | succ k ih => rw [List.replicate_succ, decN_cons, ih]; simp
    have hnt : decN t = n.natAbs := by rw [et]; unfold padD; rw [decN_app, hz0, h2]; simp
    have hsplit : t.take (t.length - p) ++ t.drop (t.length - p) = t := List.take_append_drop _ _
    have hfl : (t.drop (t.length - p)).length = p := by rw [List.length_drop]; omega
    have hwl : (t.take (t.length - p)).length = t.length - p := by rw [List.length_take]; omega
    refine ⟨t.take (t.length - p), t.drop (t.length - p), ?_, ⟨?_, ?_, ?_⟩, ?_, hfl, by rw [hsplit]; exact hnt⟩
    · rw [tl_some (by intro e; rw [e] at hfl; exact hp hfl.symm), sg_ng]
      unfold printL
      rw [if_neg hp, ← et]
      rfl
    · exact Digs.left (b := t.drop (t.length - p)) (by rw [hsplit]; exact hdt)
    · intro e; rw [e] at hwl; simp at hwl; omega
    · by_cases hlong : p + 1 ≤ (decDigits n.natAbs).length
      · right
        have et2 : t = decDigits n.natAbs := by rw [et, padD_long hlong]
        have hl := hW.lead (by omega)
        rw [← et2] at hl
        intro e; apply hl
        obtain ⟨k, hk⟩ : ∃ k, t.length - p = k + 1 := ⟨t.length - p - 1, by omega⟩
        rw [hk] at e
        cases ht : t with
        | nil => rw [ht] at hlen; simp at hlen
        | cons a b => rw [ht, List.take_succ_cons] at e; rw [List.head?_cons] at e ⊢; exact e
      · left
        have hl1 : t.length = p + 1 := by rw [et, padD_len]; omega
        obtain ⟨k, hk⟩ : ∃ k, p + 1 - (decDigits n.natAbs).length = k + 1 := ⟨p - (decDigits n.natAbs).length, by omega⟩
        have et2 : t = 48 :: (List.replicate k 48 ++ decDigits n.natAbs) := by rw [et]; unfold padD; rw [hk, List.replicate_succ]; rfl
        rw [hl1, show p + 1 - p = 1 by omega, et2]; rfl
    · exact Digs.right (a := t.take (t.length - p)) (by rw [hsplit]; exact hdt)
end Go.Proofs.YtkbadigpagijjaaDoor
