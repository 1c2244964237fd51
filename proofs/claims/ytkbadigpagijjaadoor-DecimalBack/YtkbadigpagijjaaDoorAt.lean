/-
  Where a text goes wrong: the beginning ahead of it could go on, one byte more could not. Plain mathematics.
-/
import Derived.Test.YtkbadigpagijjaaDoorShape
namespace Go.Proofs.YtkbadigpagijjaaDoor

theorem whole48 : Whole [48] := ⟨fun d hd => by simp at hd; rw [hd]; exact dig48, by simp, Or.inl rfl⟩
theorem take_whole (neg : Bool) (ws rest : List UInt8) : (sg neg ++ (ws ++ rest)).take ((sg neg).length + ws.length) = sg neg ++ ws := by
  rw [← List.append_assoc, List.take_left' (by rw [List.length_append])]
theorem take_more (neg : Bool) (ws rest : List UInt8) (k : Nat) : (sg neg ++ (ws ++ rest)).take ((sg neg).length + ws.length + k) = sg neg ++ (ws ++ rest.take k) := by
  rw [← List.append_assoc, show (sg neg).length + ws.length + k = (sg neg ++ ws).length + k by rw [List.length_append], List.take_length_add_append, List.append_assoc]
theorem Stops.cut {ws r : List UInt8} {c : UInt8} (h : Stops ws (c :: r)) : Stops ws [c] := by
  rcases h with h | h
  · exact Or.inl h
  · exact Or.inr (NoDig.cons (h c rfl))

theorem run_own (r : List UInt8) (p : Nat) : run (r.take (run r p)) p = run r p := by
  have h := run_digs (r.take (run r p)) [] p (run_take r p) NoDig.nil (by rw [List.length_take]; have := run_le r p; omega)
  rw [List.append_nil] at h
  rw [h, List.length_take]
  have := run_le r p
  omega
theorem run_next (r : List UInt8) (p : Nat) (h : run r p < r.length) : run (r.take (run r p + 1)) p = run r p := by
  rw [List.take_succ_eq_append_getElem h]
  have hl : (r.take (run r p)).length = run r p := by rw [List.length_take]; omega
  have hle := (run_le r p).1
  rcases run_stop r p with e | e
  · have := run_cut (r.take (run r p)) [r[run r p]] p (run_take r p) (by rw [hl]; omega)
    rw [this]; exact e.symm
  · have hn : NoDig [r[run r p]] := NoDig.cons (e _ (by rw [List.head?_drop, List.getElem?_eq_getElem h]))
    have := run_digs (r.take (run r p)) [r[run r p]] p (run_take r p) hn (by rw [hl]; exact hle)
    rw [this]; exact hl

theorem place_facts {l : List UInt8} {p : Nat} (hf : formB l p = false) : formA l p ≤ l.length ∧
    (formB (l.take (formA l p)) p = true ∨ formB (l.take (formA l p) ++ [48]) p = true) ∧
    (formA l p < l.length → formB (l.take (formA l p + 1)) p = false ∧ formA (l.take (formA l p + 1)) p = formA l p) := by
  rcases shape l with ⟨neg, b, rfl, h45, hb⟩ | ⟨neg, ws, rest, rfl, hw, hs⟩
  · rw [(form_n h45 hb p).1]
    refine ⟨by rw [List.length_append]; omega, Or.inr ?_, fun hlt => ?_⟩
    · rw [List.take_left]; exact (form_w whole48 p).2
    · cases b with
      | nil => simp at hlt
      | cons c r =>
        have e : (sg neg ++ c :: r).take ((sg neg).length + 1) = sg neg ++ [c] := by
          rw [List.take_length_add_append]; rfl
        rw [e]
        have := form_n (neg := neg) (b := [c]) (fun h => by simpa using h45 h) (NoDig.cons (hb c rfl)) p
        exact ⟨this.2, this.1⟩
  · cases rest with
    | nil => rw [List.append_nil, (form_w hw p).2] at hf; cases hf
    | cons c r =>
      by_cases hc : c = 46 ∧ p ≠ 0
      · obtain ⟨rfl, hp⟩ := hc
        have hF := form_p (neg := neg) (r := r) hw hp
        rw [hF.2] at hf
        have hnot := of_decide_eq_false hf
        rw [hF.1]
        have hle := run_le r p
        have e1 : (sg neg ++ (ws ++ 46 :: r)).take ((sg neg).length + ws.length + 1 + run r p) = sg neg ++ (ws ++ 46 :: r.take (run r p)) := by
          rw [Nat.add_assoc, take_more, Nat.add_comm 1, List.take_succ_cons]
        refine ⟨by simp only [List.length_append, List.length_cons]; omega, ?_, fun hlt => ?_⟩
        · by_cases hk : 0 < run r p
          · left
            rw [e1, (form_p hw hp).2, run_own]
            exact decide_eq_true ⟨hk, by rw [List.length_take]; omega⟩
          · right
            have h0 : run r p = 0 := by omega
            have e2 : (sg neg ++ (ws ++ 46 :: r)).take ((sg neg).length + ws.length + 1 + run r p) ++ [48] = sg neg ++ (ws ++ 46 :: [48]) := by
              rw [e1, h0]; simp
            rw [e2, (form_p hw hp).2]
            obtain ⟨q, rfl⟩ : ∃ q, p = q + 1 := ⟨p - 1, by omega⟩
            rw [run_dig dig48, run_nil]
            rfl
        · have hlt' : run r p < r.length := by
            simp only [List.length_append, List.length_cons] at hlt; omega
          have e2 : (sg neg ++ (ws ++ 46 :: r)).take ((sg neg).length + ws.length + 1 + run r p + 1) = sg neg ++ (ws ++ 46 :: r.take (run r p + 1)) := by
            rw [Nat.add_assoc, Nat.add_assoc, take_more, Nat.add_comm 1, List.take_succ_cons]
          have hG := form_p (neg := neg) (r := r.take (run r p + 1)) hw hp
          rw [run_next r p hlt'] at hG
          rw [e2, hG.1, hG.2]
          refine ⟨decide_eq_false ?_, rfl⟩
          rw [List.length_take]; omega
      · have hor : (c :: r).head? ≠ some 46 ∨ p = 0 := by
          by_cases h46 : c = 46
          · right; exact Decidable.byContradiction fun hp => hc ⟨h46, hp⟩
          · left; simpa using h46
        have hF := form_s (neg := neg) hw hs (by simp) hor
        rw [hF.1]
        refine ⟨by simp only [List.length_append, List.length_cons]; omega, Or.inl ?_, fun _ => ?_⟩
        · rw [take_whole]; exact (form_w hw p).2
        · rw [take_more]
          have := form_s (neg := neg) (p := p) hw hs.cut (by simp) (by
            rcases hor with h | h
            · left; simpa using h
            · exact Or.inr h)
          exact ⟨this.2, this.1⟩
end Go.Proofs.YtkbadigpagijjaaDoor
