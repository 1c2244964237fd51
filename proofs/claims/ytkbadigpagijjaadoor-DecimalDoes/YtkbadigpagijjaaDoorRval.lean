/-
  The document's own way to a text's number: downwards, digit by digit. Plain mathematics.
-/
import Derived.Test.YtkbadigpagijjaaDoorShape
import Derived.Test.YtkbadigpagijjaaDoorParse
namespace Go.Proofs.YtkbadigpagijjaaDoor

/-- The text gone through. -/
def goR (p : Int) : List UInt8 → Int → Int → Option (Int × Int)
  | [], n, left => some (n, left)
  | c :: l, n, left =>
    if dig c = true then
      if fitB (n * 10) = true ∧ fitB (n * 10 - digV c) = true then goR p l (n * 10 - digV c) (left - 1) else none
    else goR p l n (if c = 46 then p else left)
def padR : Nat → Int → Option Int
  | 0, n => some n
  | k + 1, n => if fitB (n * 10) = true then padR k (n * 10) else none
def finR (minus : Bool) (n : Int) : Option Int := if minus = true then some n else if fitB (-n) = true then some (-n) else none
def cntR (p : Int) (left : Int) : Nat := if left < 0 then p.toNat else left.toNat
def restR (minus : Bool) (p : Int) (l : List UInt8) (n left : Int) : Option Int := (goR p l n left).bind fun x => (padR (cntR p x.2) x.1).bind (finR minus)

theorem goR_nil (p n left : Int) : goR p [] n left = some (n, left) := rfl
theorem goR_dig {p : Int} {c : UInt8} (l : List UInt8) {n left : Int} (h : dig c = true) (h1 : fitB (n * 10) = true) (h2 : fitB (n * 10 - digV c) = true) : goR p (c :: l) n left = goR p l (n * 10 - digV c) (left - 1) := by
  rw [goR, if_pos h, if_pos ⟨h1, h2⟩]
theorem goR_out {p : Int} {c : UInt8} (l : List UInt8) {n left : Int} (h : dig c = true) (h1 : fitB (n * 10) = false ∨ fitB (n * 10 - digV c) = false) : goR p (c :: l) n left = none := by
  rw [goR, if_pos h, if_neg]
  rintro ⟨a, b⟩
  rcases h1 with h1 | h1
  · rw [a] at h1; cases h1
  · rw [b] at h1; cases h1
theorem goR_other {p : Int} {c : UInt8} (l : List UInt8) {n left : Int} (h : dig c = false) : goR p (c :: l) n left = goR p l n (if c = 46 then p else left) := by
  rw [goR, if_neg (by rw [h]; decide)]

theorem goR_digits (p : Int) (rest : List UInt8) : ∀ (l : List UInt8) (u : Nat) (left : Int), Digs l → fitB (sv true u) = true →
    goR p (l ++ rest) (sv true u) left = if fitB (sv true (u * 10 ^ l.length + decN l)) = true then goR p rest (sv true (u * 10 ^ l.length + decN l)) (left - l.length) else none
  | [], u, left, _, hu => by
    have e : u * 10 ^ ([] : List UInt8).length + decN [] = u := by simp [decN]
    rw [e, if_pos hu, List.nil_append]; simp
  | c :: l, u, left, hd, hu => by
    have e : u * 10 ^ (c :: l).length + decN (c :: l) = (u * 10 + (c.toNat - 48)) * 10 ^ l.length + decN l := by
      rw [decN_cons, List.length_cons, Nat.pow_succ, Nat.add_mul, Nat.mul_comm (10 ^ l.length) 10, ← Nat.mul_assoc, Nat.add_assoc]
    have ev : sv true u * 10 - digV c = sv true (u * 10 + (c.toNat - 48)) := by
      rw [(dig_val hd.head).1, sv_t, sv_t]; omega
    have et : sv true u * 10 = sv true (u * 10) := ten_sv true u
    rw [e, List.cons_append]
    cases hf : fitB (sv true (u * 10 + (c.toNat - 48)))
    · rw [goR_out _ hd.head (Or.inr (by rw [ev]; exact hf)), nofit_up (Nat.le_trans (Nat.le_mul_of_pos_right _ (Nat.pow_pos (by decide))) (Nat.le_add_right _ _)) hf, if_neg (by decide)]
    · rw [goR_dig _ hd.head (by rw [et]; exact fit_down (Nat.le_add_right _ _) hf) (by rw [ev]; exact hf), ev, goR_digits p rest l _ _ hd.tail hf]
      congr 1
      rw [List.length_cons]
      congr 1
      omega

theorem padR_sv : ∀ (k u : Nat), fitB (sv true u) = true → padR k (sv true u) = if fitB (sv true (u * 10 ^ k)) = true then some (sv true (u * 10 ^ k)) else none
  | 0, u, h => by rw [Nat.pow_zero, Nat.mul_one, if_pos h]; rfl
  | k + 1, u, h => by
    rw [padR, ten_sv]
    have e : u * 10 ^ (k + 1) = u * 10 * 10 ^ k := by rw [Nat.pow_succ, Nat.mul_comm (10 ^ k) 10, Nat.mul_assoc]
    rw [e]
    cases hf : fitB (sv true (u * 10))
    · rw [if_neg (by decide), nofit_up (Nat.le_mul_of_pos_right _ (Nat.pow_pos (by decide))) hf, if_neg (by decide)]
    · rw [if_pos rfl]; exact padR_sv k _ hf

theorem fin_sv (neg : Bool) (U : Nat) : (if fitB (sv true U) = true then finR neg (sv true U) else none) = if fitB (sv neg U) = true then some (sv neg U) else none := by
  unfold finR
  cases neg
  · have e : -sv true U = sv false U := by rw [sv_t, sv_f]; omega
    rw [e]
    cases h : fitB (sv true U)
    · have : fitB (sv false U) = false := by
        apply fitB_false
        have := (not_congr fitB_iff).1 (by rw [h]; decide)
        rw [sv_t] at this; rw [sv_f]; omega
      rw [this]; rfl
    · rw [if_pos rfl, if_neg (by decide)]
  · cases h : fitB (sv true U)
    · rfl
    · rw [if_pos rfl, if_pos rfl, if_pos rfl]

/-- The document's answer at a right text. -/
theorem restR_right (neg : Bool) (ws fs : List UInt8) (p : Nat) (hw : Whole ws) (hf : Digs fs) (hp : fs.length ≤ p) :
    restR neg p (sg neg ++ (ws ++ tl fs)) 0 (-1) = if fitB (sv neg (magM ws fs p)) = true then some (sv neg (magM ws fs p)) else none := by
  have e0 : goR p (sg neg ++ (ws ++ tl fs)) 0 (-1) = goR p (ws ++ tl fs) (sv true 0) (-1) := by
    cases neg
    · rfl
    · show goR p (45 :: (ws ++ tl fs)) 0 (-1) = _
      rw [goR_other _ (by decide)]; rfl
  have hl : 0 < ws.length := List.length_pos_iff.2 hw.2.1
  unfold restR
  rw [e0, goR_digits p (tl fs) ws 0 (-1) hw.1 (by decide), Nat.zero_mul, Nat.zero_add]
  unfold magM
  cases h1 : fitB (sv true (decN ws))
  · rw [if_neg (by decide)]
    have hbig : decN ws ≤ decN (ws ++ fs) * 10 ^ (p - fs.length) := by
      rw [decN_app]
      exact Nat.le_trans (Nat.le_trans (Nat.le_mul_of_pos_right _ (Nat.pow_pos (by decide))) (Nat.le_add_right _ _)) (Nat.le_mul_of_pos_right _ (Nat.pow_pos (by decide)))
    have := fin_sv neg (decN (ws ++ fs) * 10 ^ (p - fs.length))
    rw [nofit_up hbig h1, if_neg (by decide)] at this
    rw [← this]; rfl
  · rw [if_pos rfl]
    by_cases hfs : fs = []
    · subst hfs
      rw [tl_nil, goR_nil, List.append_nil]
      show (padR (cntR p (-1 - ws.length)) (sv true (decN ws))).bind (finR neg) = _
      have ec : cntR p (-1 - ws.length) = p := by unfold cntR; rw [if_pos (by omega)]; omega
      rw [ec, padR_sv p _ h1, ← fin_sv neg (decN ws * 10 ^ (p - ([] : List UInt8).length))]
      show _ = if fitB (sv true (decN ws * 10 ^ (p - 0))) = true then finR neg (sv true (decN ws * 10 ^ (p - 0))) else none
      rw [Nat.sub_zero]
      split <;> rfl
    · rw [tl_some hfs, goR_other _ (by decide), if_pos rfl]
      have := goR_digits p [] fs (decN ws) p hf h1
      rw [List.append_nil] at this
      rw [this, ← decN_app, ← fin_sv]
      cases h2 : fitB (sv true (decN (ws ++ fs)))
      · rw [if_neg (by decide), nofit_up (Nat.le_mul_of_pos_right _ (Nat.pow_pos (by decide))) h2, if_neg (by decide)]; rfl
      · rw [if_pos rfl, goR_nil]
        show (padR (cntR p (p - fs.length)) (sv true (decN (ws ++ fs)))).bind (finR neg) = _
        have ec : cntR p (p - fs.length) = p - fs.length := by unfold cntR; rw [if_neg (by omega)]; omega
        rw [ec, padR_sv _ _ h2]
        split <;> rfl

/-- So Parse and the document agree at right texts. -/
theorem par_rest {l : List UInt8} {p : Nat} (hpl : plB (p : Int) = true) (h : formB l p = true) : ∃ R, restR (decide (l.head? = some 45)) p l 0 (-1) = R ∧
    (R = none → parN l p = 0 ∧ parE l p = 21 ∧ parA l p = 0) ∧ (∀ v, R = some v → parN l p = v ∧ parE l p = 0 ∧ parA l p = 0) := by
  obtain ⟨neg, ws, fs, rfl, hw, hf, hp⟩ := right_shape h
  have eh : decide ((sg neg ++ (ws ++ tl fs)).head? = some 45) = neg := by
    cases neg
    · obtain ⟨hd, hne, _⟩ := hw
      cases ws with
      | nil => exact absurd rfl hne
      | cons c ws =>
        refine decide_eq_false ?_
        intro e
        have : c = 45 := by simpa [sg] using e
        exact (dig_ne hd.head).1 this
    · rfl
  have ew := worth_right neg ws fs p hw.1 hf hp
  have er := restR_right neg ws fs p hw hf hp
  refine ⟨_, rfl, ?_, ?_⟩
  · intro e
    rw [eh, er] at e
    cases hv : fitB (sv neg (magM ws fs p))
    · exact par_range hpl h (by show worthB _ p = false; unfold worthB; rw [ew]; exact hv)
    · rw [hv, if_pos rfl] at e; cases e
  · intro v e
    rw [eh, er] at e
    cases hv : fitB (sv neg (magM ws fs p))
    · rw [hv, if_neg (by decide)] at e; cases e
    · rw [hv, if_pos rfl] at e
      have := par_ok (l := sg neg ++ (ws ++ tl fs)) hpl h (by show worthB _ p = true; unfold worthB; rw [ew]; exact hv)
      refine ⟨?_, this.2.1, this.2.2⟩
      rw [this.1]
      show worthN _ p = v
      unfold worthN
      rw [ew]
      show fitN _ = v
      rw [fitN_true hv]
      exact Option.some.inj e
end Go.Proofs.YtkbadigpagijjaaDoor
