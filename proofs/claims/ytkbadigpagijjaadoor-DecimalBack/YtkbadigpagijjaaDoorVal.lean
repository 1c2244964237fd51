/-
  The number that a right text stands for. Plain mathematics.
-/
import Derived.Test.YtkbadigpagijjaaDoorWorth
namespace Go.Proofs.YtkbadigpagijjaaDoor

/-- All of them digits. -/
def Digs (l : List UInt8) : Prop := ∀ c ∈ l, dig c = true
theorem Digs.nil : Digs [] := fun _ h => by cases h
theorem Digs.head {c : UInt8} {l : List UInt8} (h : Digs (c :: l)) : dig c = true := h c (by simp)
theorem Digs.tail {c : UInt8} {l : List UInt8} (h : Digs (c :: l)) : Digs l := fun d hd => h d (by simp [hd])
theorem Digs.app {a b : List UInt8} (ha : Digs a) (hb : Digs b) : Digs (a ++ b) := fun c hc => by
  rcases List.mem_append.1 hc with h | h
  · exact ha c h
  · exact hb c h
theorem Digs.left {a b : List UInt8} (h : Digs (a ++ b)) : Digs a := fun c hc => h c (List.mem_append_left _ hc)
theorem Digs.right {a b : List UInt8} (h : Digs (a ++ b)) : Digs b := fun c hc => h c (List.mem_append_right _ hc)
theorem dig_ne {c : UInt8} (h : dig c = true) : c ≠ 45 ∧ c ≠ 46 := by
  constructor <;> (rintro rfl; revert h; decide)
theorem dig_val {c : UInt8} (h : dig c = true) : digV c = ((c.toNat - 48 : Nat) : Int) ∧ c.toNat - 48 ≤ 9 := by
  have := dig_iff.1 h
  unfold digV
  omega

/-- What the digits come to. -/
def decN (l : List UInt8) : Nat := l.foldl (fun a c => a * 10 + (c.toNat - 48)) 0
theorem decN_from (l : List UInt8) : ∀ a, l.foldl (fun a c => a * 10 + (c.toNat - 48)) a = a * 10 ^ l.length + decN l := by
  induction l with
  | nil => intro a; simp [decN]
  | cons c l ih =>
    intro a
    unfold decN
    rw [List.foldl_cons, List.foldl_cons, ih, ih, List.length_cons, Nat.pow_succ]
    rw [Nat.add_mul, Nat.add_mul, Nat.zero_mul, Nat.zero_add]
    rw [Nat.mul_comm (10 ^ l.length) 10, ← Nat.mul_assoc, Nat.add_assoc]
theorem decN_app (a b : List UInt8) : decN (a ++ b) = decN a * 10 ^ b.length + decN b := by
  rw [← decN_from]; unfold decN; rw [List.foldl_append]
theorem decN_cons (c : UInt8) (l : List UInt8) : decN (c :: l) = (c.toNat - 48) * 10 ^ l.length + decN l := by
  have := decN_app [c] l
  rw [List.singleton_append] at this
  rw [this]; unfold decN; simp

/-- A magnitude with a sign. -/
def sv (neg : Bool) (u : Nat) : Int := if neg = true then -(u : Int) else u
theorem sv_f (u : Nat) : sv false u = u := rfl
theorem sv_t (u : Nat) : sv true u = -(u : Int) := rfl
theorem put_sv (neg : Bool) (u d : Nat) : putV neg (sv neg u) d = sv neg (u * 10 + d) := by
  cases neg <;> unfold putV sv <;> simp <;> omega
theorem fit_down {neg : Bool} {u v : Nat} (h : u ≤ v) (hf : fitB (sv neg v) = true) : fitB (sv neg u) = true := by
  rw [fitB_iff] at hf ⊢
  cases neg
  · rw [sv_f] at *; omega
  · rw [sv_t] at *; omega
theorem nofit_up {neg : Bool} {u v : Nat} (h : u ≤ v) (hf : fitB (sv neg u) = false) : fitB (sv neg v) = false := by
  cases e : fitB (sv neg v)
  · rfl
  · rw [fit_down h e] at hf; cases hf
theorem ten_sv (neg : Bool) (u : Nat) : sv neg u * 10 = sv neg (u * 10) := by
  cases neg
  · rw [sv_f, sv_f]; omega
  · rw [sv_t, sv_t]; omega

/-- One step, by magnitudes: the tenfold and the digit. -/
theorem sh_fit {neg : Bool} {u d : Nat} : shB neg (sv neg u) d = fitB (sv neg (u * 10 + d)) ∧ shN neg (sv neg u) d = fitN (sv neg (u * 10 + d)) := by
  unfold shB shN
  rw [ten_sv, put_sv]
  cases e : fitB (sv neg (u * 10))
  · have := nofit_up (Nat.le_add_right (u * 10) d) e
    rw [if_neg (by decide), if_neg (by decide), this, fitN_false this]; exact ⟨rfl, rfl⟩
  · rw [if_pos rfl, if_pos rfl]; exact ⟨rfl, rfl⟩

/-- The state is the magnitude u's. -/
def Good (st : Wst) (u : Nat) : Prop := st.t = fitN (sv st.neg u) ∧ st.ok = fitB (sv st.neg u)

theorem good_step {st : Wst} {u : Nat} (h : Good st u) {c : UInt8} (hc : dig c = true) :
    Good (stepW st c) (u * 10 + (c.toNat - 48)) ∧ (stepW st c).neg = st.neg ∧ (stepW st c).behind = st.behind ∧ ((stepW st c).ok = true → (stepW st c).m = if st.behind = true then st.m - 1 else st.m) := by
  obtain ⟨h1, h2⟩ := h
  have hu : u ≤ u * 10 + (c.toNat - 48) := by omega
  cases hok : st.ok
  · rw [stepW_no hok]
    have hf : fitB (sv st.neg u) = false := by rw [← h2]; exact hok
    have hf' := nofit_up hu hf
    refine ⟨⟨?_, ?_⟩, rfl, rfl, fun e => by rw [hok] at e; cases e⟩
    · rw [h1, fitN_false hf, fitN_false hf']
    · rw [hok, hf']
  · have hf : fitB (sv st.neg u) = true := by rw [← h2]; exact hok
    rw [stepW_digit hok (dig_ne hc).1 (dig_ne hc).2]
    have ht : st.t = sv st.neg u := by rw [h1, fitN_true hf]
    refine ⟨⟨?_, ?_⟩, rfl, rfl, fun _ => rfl⟩
    · show shN st.neg st.t (digV c) = _
      rw [ht, (dig_val hc).1]; exact sh_fit.2
    · show shB st.neg st.t (digV c) = _
      rw [ht, (dig_val hc).1]; exact sh_fit.1

theorem good_digits : ∀ (l : List UInt8) (st : Wst) (u : Nat), Good st u → Digs l →
    Good (goW st l) (u * 10 ^ l.length + decN l) ∧ (goW st l).neg = st.neg ∧ (goW st l).behind = st.behind ∧ ((goW st l).ok = true → (goW st l).m = if st.behind = true then st.m - l.length else st.m)
  | [], st, u, h, _ => ⟨by show Good st _; simpa [decN] using h, rfl, rfl, fun _ => by show st.m = _; split <;> simp⟩
  | c :: l, st, u, h, hd => by
    have e : goW st (c :: l) = goW (stepW st c) l := rfl
    obtain ⟨g, n1, b1, m1⟩ := good_step h hd.head
    obtain ⟨g2, n2, b2, m2⟩ := good_digits l (stepW st c) _ g hd.tail
    rw [e]
    refine ⟨?_, by rw [n2, n1], by rw [b2, b1], fun hok => ?_⟩
    · have : u * 10 ^ (c :: l).length + decN (c :: l) = (u * 10 + (c.toNat - 48)) * 10 ^ l.length + decN l := by
        rw [decN_cons, List.length_cons, Nat.pow_succ, Nat.add_mul, Nat.mul_comm (10 ^ l.length) 10, ← Nat.mul_assoc, Nat.add_assoc]
      rw [this]; exact g2
    · have hok1 : (stepW st c).ok = true := by
        cases h1 : (stepW st c).ok
        · rw [goW_no h1] at hok; rw [h1] at hok; cases hok
        · rfl
      rw [m2 hok, m1 hok1, b1, List.length_cons]
      split <;> omega

theorem pad_good : ∀ (n : Nat) (neg : Bool) (u : Nat), padW n neg (fitN (sv neg u)) (fitB (sv neg u)) = (fitN (sv neg (u * 10 ^ n)), fitB (sv neg (u * 10 ^ n)))
  | 0, neg, u => by simp [padW]
  | n + 1, neg, u => by
    cases e : fitB (sv neg u)
    · rw [padW_no]
      have := nofit_up (v := u * 10 ^ (n + 1)) (Nat.le_mul_of_pos_right u (Nat.pow_pos (by decide))) e
      rw [this, fitN_false e, fitN_false this]
    · rw [padW_succ, fitN_true e]
      have s := sh_fit (neg := neg) (u := u) (d := 0)
      rw [Nat.add_zero] at s
      have s1 : shB neg (sv neg u) 0 = fitB (sv neg (u * 10)) := s.1
      have s2 : shN neg (sv neg u) 0 = fitN (sv neg (u * 10)) := s.2
      rw [s1, s2, pad_good n neg (u * 10), Nat.pow_succ, Nat.mul_comm (10 ^ n) 10, Nat.mul_assoc]

/-- The sign's byte. -/
def sg (neg : Bool) : List UInt8 := if neg = true then [45] else []
/-- The point and what is behind it. -/
def tl (fs : List UInt8) : List UInt8 := if fs = [] then [] else 46 :: fs
theorem tl_nil : tl [] = [] := rfl
theorem tl_some {fs : List UInt8} (h : fs ≠ []) : tl fs = 46 :: fs := by unfold tl; rw [if_neg h]

/-- The magnitude of a right text. -/
def magM (ws fs : List UInt8) (p : Nat) : Nat := decN (ws ++ fs) * 10 ^ (p - fs.length)

theorem endW_right (neg : Bool) (ws fs : List UInt8) (p : Nat) (hw : Digs ws) (hf : Digs fs) :
    Good (endW (sg neg ++ (ws ++ tl fs)) p) (decN (ws ++ fs)) ∧ (endW (sg neg ++ (ws ++ tl fs)) p).neg = neg ∧ ((endW (sg neg ++ (ws ++ tl fs)) p).ok = true → (endW (sg neg ++ (ws ++ tl fs)) p).m = (p : Int) - fs.length) := by
  unfold endW
  rw [goW_append]
  obtain ⟨s0, e0⟩ : ∃ s0, s0 = goW (fromW p) (sg neg) := ⟨_, rfl⟩
  rw [← e0]
  have g0 : Good s0 0 ∧ s0.neg = neg ∧ s0.behind = false ∧ s0.m = p := by
    rw [e0]
    cases neg
    · exact ⟨⟨rfl, rfl⟩, rfl, rfl, rfl⟩
    · exact ⟨⟨rfl, rfl⟩, rfl, rfl, rfl⟩
  obtain ⟨g0, n0, b0, m0⟩ := g0
  rw [goW_append]
  obtain ⟨g1, n1, b1, m1⟩ := good_digits ws s0 0 g0 hw
  obtain ⟨s1, e1⟩ : ∃ s1, s1 = goW s0 ws := ⟨_, rfl⟩
  rw [← e1] at g1 n1 b1 m1 ⊢
  rw [Nat.zero_mul, Nat.zero_add] at g1
  rw [b0] at b1 m1
  by_cases hfs : fs = []
  · subst hfs
    rw [tl_nil, List.append_nil]
    refine ⟨g1, by show (goW s1 []).neg = _; exact n1.trans n0, fun hok => ?_⟩
    have := m1 hok
    rw [if_neg (by decide), m0] at this
    show s1.m = _
    rw [this]; simp
  · rw [tl_some hfs]
    have e2 : goW s1 (46 :: fs) = goW (stepW s1 46) fs := rfl
    rw [e2]
    cases hok : s1.ok
    · rw [stepW_no hok, goW_no hok]
      refine ⟨?_, n1.trans n0, fun h => by rw [hok] at h; cases h⟩
      obtain ⟨a1, a2⟩ := g1
      have hf0 : fitB (sv s1.neg (decN ws)) = false := by rw [← a2]; exact hok
      have hle : decN ws ≤ decN (ws ++ fs) := by
        rw [decN_app]
        exact Nat.le_trans (Nat.le_mul_of_pos_right _ (Nat.pow_pos (by decide))) (Nat.le_add_right _ _)
      have hf1 := nofit_up hle hf0
      exact ⟨by rw [a1, fitN_false hf0, fitN_false hf1], by rw [hok, hf1]⟩
    · rw [stepW_point hok (by decide) rfl]
      have g2 : Good { s1 with behind := true } (decN ws) := g1
      obtain ⟨g3, n3, b3, m3⟩ := good_digits fs _ _ g2 hf
      rw [← decN_app] at g3
      refine ⟨g3, n3.trans (n1.trans n0), fun h => ?_⟩
      rw [m3 h, if_pos rfl]
      show s1.m - _ = _
      rw [m1 hok, if_neg (by decide), m0]

/-- What a right text's worth is. -/
theorem worth_right (neg : Bool) (ws fs : List UInt8) (p : Nat) (hw : Digs ws) (hf : Digs fs) (hp : fs.length ≤ p) :
    worthM (sg neg ++ (ws ++ tl fs)) p = (fitN (sv neg (magM ws fs p)), fitB (sv neg (magM ws fs p))) := by
  obtain ⟨⟨g1, g2⟩, n, m⟩ := endW_right neg ws fs p hw hf
  unfold worthM magM
  rw [n] at g1 g2
  rw [g1, n]
  cases hok : (endW (sg neg ++ (ws ++ tl fs)) p).ok
  · rw [hok] at g2
    rw [padW_no]
    have := nofit_up (v := decN (ws ++ fs) * 10 ^ (p - fs.length)) (Nat.le_mul_of_pos_right _ (Nat.pow_pos (by decide))) g2.symm
    rw [this, fitN_false this, fitN_false g2.symm]
  · rw [hok] at g2
    rw [m hok, show ((p : Int) - fs.length).toNat = p - fs.length by omega, g2]
    exact pad_good _ _ _
end Go.Proofs.YtkbadigpagijjaaDoor
