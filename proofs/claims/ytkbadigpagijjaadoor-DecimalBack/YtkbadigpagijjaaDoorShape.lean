/-
  How a text is taken apart: sign, whole part, point, places. Plain mathematics.
-/
import Derived.Test.YtkbadigpagijjaaDoorVal
namespace Go.Proofs.YtkbadigpagijjaaDoor

/-- A right whole part. -/
def Whole (ws : List UInt8) : Prop := Digs ws ∧ ws ≠ [] ∧ (ws = [48] ∨ ws.head? ≠ some 48)
/-- No digit at the beginning. -/
def NoDig (r : List UInt8) : Prop := ∀ c, r.head? = some c → dig c = false
/-- The whole part goes no further. -/
def Stops (ws rest : List UInt8) : Prop := ws = [48] ∨ NoDig rest
theorem NoDig.nil : NoDig [] := fun _ h => by cases h
theorem NoDig.cons {c : UInt8} {l : List UInt8} (h : dig c = false) : NoDig (c :: l) := fun d e => by cases e; exact h
theorem NoDig.run {r : List UInt8} (h : NoDig r) (m : Nat) : run r m = 0 := by
  cases r with
  | nil => exact run_nil m
  | cons c l => exact run_not (h c rfl) l m

theorem run_digs : ∀ (ds rest : List UInt8) (m : Nat), Digs ds → NoDig rest → ds.length ≤ m → run (ds ++ rest) m = ds.length
  | [], rest, m, _, hr, _ => by rw [List.nil_append]; exact hr.run m
  | c :: ds, rest, m, hd, hr, hm => by
    simp only [List.length_cons] at hm
    obtain ⟨k, rfl⟩ : ∃ k, m = k + 1 := ⟨m - 1, by omega⟩
    rw [List.cons_append, run_dig hd.head, run_digs ds rest k hd.tail hr (by omega), List.length_cons]
theorem run_cut : ∀ (ds rest : List UInt8) (m : Nat), Digs ds → m ≤ ds.length → run (ds ++ rest) m = m
  | ds, rest, 0, _, _ => run_zero _
  | [], rest, m + 1, _, h => by simp at h
  | c :: ds, rest, m + 1, hd, h => by
    rw [List.cons_append, run_dig hd.head, run_cut ds rest m hd.tail (by simpa using h)]
theorem run_take : ∀ (r : List UInt8) (m : Nat), Digs (r.take (run r m))
  | [], m => by rw [run_nil]; exact Digs.nil
  | c :: l, 0 => by rw [run_zero]; exact Digs.nil
  | c :: l, m + 1 => by
    cases h : dig c
    · rw [run_not h]; exact Digs.nil
    · rw [run_dig h, List.take_succ_cons]
      intro d hd
      rcases List.mem_cons.1 hd with rfl | hd
      · exact h
      · exact run_take l m d hd
/-- Behind the digits that count stands none, or as many count as may. -/
theorem run_stop : ∀ (r : List UInt8) (m : Nat), run r m = m ∨ NoDig (r.drop (run r m))
  | [], m => Or.inr (by rw [run_nil]; exact NoDig.nil)
  | c :: l, 0 => Or.inl (run_zero _)
  | c :: l, m + 1 => by
    cases h : dig c
    · right; rw [run_not h]; exact NoDig.cons h
    · rw [run_dig h]
      rcases run_stop l m with e | e
      · left; omega
      · right; rw [List.drop_succ_cons]; exact e

theorem dig48 : dig 48 = true := by decide

theorem wlen_app {ws rest : List UInt8} (hw : Whole ws) (hs : Stops ws rest) : wlen (ws ++ rest) = ws.length := by
  obtain ⟨hd, hne, h0⟩ := hw
  by_cases h48 : ws = [48]
  · subst h48; exact wlen_0 rfl
  · have h1 : ws.head? ≠ some 48 := h0.resolve_left h48
    have hr : NoDig rest := hs.resolve_left h48
    cases ws with
    | nil => exact absurd rfl hne
    | cons c ws =>
      rw [wlen_1 (by simpa using h1)]
      exact run_digs _ _ _ hd hr (by simp)
theorem sg_len (neg : Bool) : (sg neg).length ≤ 1 := by cases neg <;> decide
theorem sgn_app {ws : List UInt8} (neg : Bool) (hd : Digs ws) (hne : ws ≠ []) (rest : List UInt8) : sgn (sg neg ++ (ws ++ rest)) = (sg neg).length := by
  cases neg
  · cases ws with
    | nil => exact absurd rfl hne
    | cons c ws =>
      refine sgn_0 ?_
      intro e
      have : c = 45 := by simpa [sg] using e
      exact (dig_ne hd.head).1 this
  · exact sgn_1 rfl
theorem sgn_none {b : List UInt8} (neg : Bool) (h : neg = false → b.head? ≠ some 45) : sgn (sg neg ++ b) = (sg neg).length := by
  cases neg
  · exact sgn_0 (by simpa [sg] using h rfl)
  · exact sgn_1 rfl

section
variable {neg : Bool} {ws : List UInt8}

theorem drop_sg (neg : Bool) (b : List UInt8) : (sg neg ++ b).drop (sg neg).length = b := List.drop_left
/-- A text that ends with its whole part. -/
theorem form_w (hw : Whole ws) (p : Nat) : formA (sg neg ++ ws) p = (sg neg).length + ws.length ∧ formB (sg neg ++ ws) p = true := by
  have es := sgn_app neg hw.1 hw.2.1 []
  rw [List.append_nil] at es
  have ew : wlen ((sg neg ++ ws).drop (sgn (sg neg ++ ws))) = ws.length := by
    rw [es, drop_sg]
    have := wlen_app (rest := []) hw (Or.inr NoDig.nil)
    rwa [List.append_nil] at this
  have := form_whole (l := sg neg ++ ws) (p := p) (by rw [ew]; exact fun h => hw.2.1 (List.eq_nil_of_length_eq_zero h)) (by rw [ew, es, List.length_append])
  rw [ew, es] at this
  exact this
theorem get_behind (neg : Bool) (ws rest : List UInt8) : (sg neg ++ (ws ++ rest))[(sg neg).length + ws.length]? = rest.head? := by
  rw [List.getElem?_append_right (by omega), List.getElem?_append_right (by omega), show (sg neg).length + ws.length - (sg neg).length - ws.length = 0 by omega, List.head?_eq_getElem?]
/-- A text with a byte behind its whole part that is no point, or may be none. -/
theorem form_s (hw : Whole ws) {rest : List UInt8} (hs : Stops ws rest) (hne : rest ≠ []) {p : Nat} (h : rest.head? ≠ some 46 ∨ p = 0) :
    formA (sg neg ++ (ws ++ rest)) p = (sg neg).length + ws.length ∧ formB (sg neg ++ (ws ++ rest)) p = false := by
  have es := sgn_app neg hw.1 hw.2.1 rest
  have ew : wlen ((sg neg ++ (ws ++ rest)).drop (sgn (sg neg ++ (ws ++ rest)))) = ws.length := by
    rw [es, drop_sg]; exact wlen_app hw hs
  have hr : 0 < rest.length := List.length_pos_iff.2 hne
  have := form_stop (l := sg neg ++ (ws ++ rest)) (p := p) (by rw [ew]; exact fun h => hw.2.1 (List.eq_nil_of_length_eq_zero h)) (by rw [ew, es, List.length_append, List.length_append]; omega)
    (by rw [ew, es, get_behind]; exact h)
  rw [ew, es] at this
  exact this
/-- A text with a point. -/
theorem form_p (hw : Whole ws) {r : List UInt8} {p : Nat} (hp : p ≠ 0) :
    formA (sg neg ++ (ws ++ 46 :: r)) p = (sg neg).length + ws.length + 1 + run r p ∧ formB (sg neg ++ (ws ++ 46 :: r)) p = decide (0 < run r p ∧ run r p = r.length) := by
  have hs : Stops ws (46 :: r) := Or.inr (NoDig.cons (by decide))
  have es := sgn_app neg hw.1 hw.2.1 (46 :: r)
  have ew : wlen ((sg neg ++ (ws ++ 46 :: r)).drop (sgn (sg neg ++ (ws ++ 46 :: r)))) = ws.length := by
    rw [es, drop_sg]; exact wlen_app hw hs
  have ed : (sg neg ++ (ws ++ 46 :: r)).drop ((sg neg).length + ws.length + 1) = r := by
    have e : sg neg ++ (ws ++ 46 :: r) = (sg neg ++ ws ++ [46]) ++ r := by simp
    rw [e, List.drop_left' (by simp only [List.length_append, List.length_cons, List.length_nil])]
  have := form_point (l := sg neg ++ (ws ++ 46 :: r)) (p := p) (by rw [ew]; exact fun h => hw.2.1 (List.eq_nil_of_length_eq_zero h)) (by rw [ew, es, List.length_append, List.length_append, List.length_cons]; omega)
    (by rw [ew, es, get_behind]; rfl) hp
  rw [ew, es, ed] at this
  refine ⟨this.1, this.2.trans (decide_eq_decide.2 ?_)⟩
  rw [List.length_append, List.length_append, List.length_cons]
  omega
/-- A text with no whole part. -/
theorem form_n {b : List UInt8} (h : neg = false → b.head? ≠ some 45) (hb : NoDig b) (p : Nat) : formA (sg neg ++ b) p = (sg neg).length ∧ formB (sg neg ++ b) p = false := by
  have es := sgn_none neg h
  have := form_none (l := sg neg ++ b) (p := p) (by
    rw [es, drop_sg, wlen_1, hb.run]
    intro e; have := hb 48 e; revert this; decide)
  rw [es] at this
  exact this
end

/-- Every text is of one of two kinds. -/
theorem shape (l : List UInt8) : (∃ neg b, l = sg neg ++ b ∧ (neg = false → b.head? ≠ some 45) ∧ NoDig b) ∨ (∃ neg ws rest, l = sg neg ++ (ws ++ rest) ∧ Whole ws ∧ Stops ws rest) := by
  obtain ⟨neg, b, e, h45⟩ : ∃ neg b, l = sg neg ++ b ∧ (neg = false → b.head? ≠ some 45) := by
    by_cases h : l.head? = some 45
    · cases l with
      | nil => cases h
      | cons c l =>
        have : c = 45 := by simpa using h
        subst this
        exact ⟨true, l, rfl, fun h => by cases h⟩
    · exact ⟨false, l, rfl, fun _ => h⟩
  cases hb : b with
  | nil => left; exact ⟨neg, b, e, h45, by rw [hb]; exact NoDig.nil⟩
  | cons c r =>
    cases hc : dig c
    · left; exact ⟨neg, b, e, h45, by rw [hb]; exact NoDig.cons hc⟩
    · right
      by_cases h48 : c = 48
      · subst h48
        exact ⟨neg, [48], r, by rw [e, hb]; rfl, ⟨fun d hd => by simp at hd; rw [hd]; exact dig48, by simp, Or.inl rfl⟩, Or.inl rfl⟩
      · have hrun := run_dig hc r r.length
        refine ⟨neg, (c :: r).take (run (c :: r) (r.length + 1)), (c :: r).drop (run (c :: r) (r.length + 1)), by rw [List.take_append_drop, e, hb], ⟨run_take _ _, ?_, Or.inr ?_⟩, ?_⟩
        · rw [hrun, List.take_succ_cons]; simp
        · rw [hrun, List.take_succ_cons]; simpa using h48
        · rcases run_stop (c :: r) (r.length + 1) with h | h
          · right; rw [h, List.drop_of_length_le (by simp)]; exact NoDig.nil
          · right; exact h

/-- A right text: sign, whole part, places. -/
theorem right_shape {l : List UInt8} {p : Nat} (h : formB l p = true) : ∃ neg ws fs, l = sg neg ++ (ws ++ tl fs) ∧ Whole ws ∧ Digs fs ∧ fs.length ≤ p := by
  rcases shape l with ⟨neg, b, rfl, h45, hb⟩ | ⟨neg, ws, rest, rfl, hw, hs⟩
  · rw [(form_n h45 hb p).2] at h; cases h
  · cases rest with
    | nil => exact ⟨neg, ws, [], by rw [tl_nil], hw, Digs.nil, Nat.zero_le _⟩
    | cons c r =>
      by_cases hc : c = 46 ∧ p ≠ 0
      · obtain ⟨rfl, hp⟩ := hc
        rw [(form_p hw hp).2] at h
        obtain ⟨h1, h2⟩ := of_decide_eq_true h
        have hr := run_take r p
        rw [h2, List.take_length] at hr
        have hle := (run_le r p).1
        exact ⟨neg, ws, r, by rw [tl_some (by intro e; subst e; simp at h2; omega)], hw, hr, by omega⟩
      · rw [(form_s hw hs (by simp) (by
          by_cases h46 : c = 46
          · right; exact Decidable.byContradiction fun hp => hc ⟨h46, hp⟩
          · left; simpa using h46)).2] at h
        cases h
/-- .. and the other way round. -/
theorem form_right {neg : Bool} {ws fs : List UInt8} {p : Nat} (hw : Whole ws) (hf : Digs fs) (hp : fs.length ≤ p) : formB (sg neg ++ (ws ++ tl fs)) p = true := by
  by_cases h : fs = []
  · subst h; rw [tl_nil, List.append_nil]; exact (form_w hw p).2
  · have h0 : 0 < fs.length := List.length_pos_iff.2 h
    rw [tl_some h, (form_p hw (by omega)).2]
    have := run_digs fs [] p hf NoDig.nil hp
    rw [List.append_nil] at this
    rw [this]; exact decide_eq_true ⟨h0, rfl⟩
end Go.Proofs.YtkbadigpagijjaaDoor
