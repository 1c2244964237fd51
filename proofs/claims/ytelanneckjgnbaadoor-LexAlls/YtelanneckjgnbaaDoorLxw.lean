/-
  Walks of the document's goes, over, Words, Word.
-/
import Derived.Test.YtelanneckjgnbaaDoorLxp
namespace Go.Proofs.YtelanneckjgnbaaDoor
open Go.RowKit

theorem letter_b {c : UInt8} {b : Bool} (h : letB c = b) (w : World) : Calls Tryd.prog 56 #[.int .u8 (c.toNat : Int)] w fun e w' => e = .returned (.bool b) ∧ w' = w := h ▸ letter_any c w
theorem digit_b {c : UInt8} {b : Bool} (h : digB c = b) (w : World) : Calls Tryd.prog 68 #[.int .u8 (c.toNat : Int)] w fun e w' => e = .returned (.bool b) ∧ w' = w := h ▸ digit_any c w
theorem goes_any (c : UInt8) (w : World) : Calls Tryd.prog 57 #[.int .u8 (c.toNat : Int)] w fun e w' => e = .returned (.bool (goB c)) ∧ w' = w := by
  cases b1 : letB c
  · cases b2 : digB c
    · have hg : goB c = ((c.toNat : Int) == 95) := by
        unfold goB
        rw [b1, b2]
        by_cases h : c.toNat = 95
        · rw [h]; rfl
        · have h' : ((c.toNat : Int) == 95) = false := beq_false_of_ne (by omega)
          rw [h']; simp [h]
      go_enter Tryd.func57, Tryd.ntmps57
      go_wp2_with (first | (go_at_call 56; refine (letter_b b1 _).mono ?_; rintro _ v ⟨rfl, e⟩; obtain rfl := e.symm) | (go_at_call 68; refine (digit_b b2 _).mono ?_; rintro _ v ⟨rfl, e⟩; obtain rfl := e.symm))
      all_goals go_ret
      all_goals exact ⟨by rw [hg]; rfl, rfl⟩
    · have hg : goB c = true := by unfold goB; rw [b1, b2]; rfl
      go_enter Tryd.func57, Tryd.ntmps57
      go_wp2_with (first | (go_at_call 56; refine (letter_b b1 _).mono ?_; rintro _ v ⟨rfl, e⟩; obtain rfl := e.symm) | (go_at_call 68; refine (digit_b b2 _).mono ?_; rintro _ v ⟨rfl, e⟩; obtain rfl := e.symm))
      all_goals go_ret
      all_goals exact ⟨by rw [hg]; rfl, rfl⟩
  · have hg : goB c = true := by unfold goB; rw [b1]; rfl
    go_enter Tryd.func57, Tryd.ntmps57
    go_wp2_with (go_at_call 56; refine (letter_b b1 _).mono ?_; rintro _ v ⟨rfl, e⟩; obtain rfl := e.symm)
    all_goals go_ret
    all_goals exact ⟨by rw [hg]; rfl, rfl⟩
theorem goes_b {c : UInt8} {b : Bool} (h : goB c = b) (w : World) : Calls Tryd.prog 57 #[.int .u8 (c.toNat : Int)] w fun e w' => e = .returned (.bool b) ∧ w' = w := h ▸ goes_any c w

theorem ov_stop {c : UInt8} {l : List UInt8} {r : Bool} (h1 : remB r c = false) (h2 : blankB c = false) : ov (c :: l) r = 0 := by unfold ov; rw [if_pos ⟨h1, h2⟩]
theorem ov_go {c : UInt8} {l : List UInt8} {r : Bool} (h : ¬ (remB r c = false ∧ blankB c = false)) : ov (c :: l) r = ov l (remB r c) + 1 := by rw [ov, if_neg h]

set_option maxHeartbeats 4000000 in
theorem over_any (s : ByteArray) (a : Nat) (hs : s.size ≤ 140737488355328) (ha : a ≤ s.size) (d : Nat) (hd : Hid (d = a + ov (rest s a) false)) (w : World) :
    Calls Tryd.prog 66 #[.string s, .int .i64 a] w fun e w' => e = .returned (.int .i64 d) ∧ w' = w := by
  go_enter Tryd.func66, Tryd.ntmps66
  go_wp2_with fail
  go_loop [5, 6] (fun r t => ∃ (i : Nat) (b : Bool), a ≤ i ∧ i ≤ s.size ∧ t = .int .i64 i ∧ r = .bool b ∧ Hid (d = i + ov (rest s i) b)) (fun _ t => s.size - (intOf t).toNat)
  case atStart => exact ⟨a, false, Nat.le_refl _, ha, rfl, rfl, hd⟩
  case round =>
    obtain ⟨i, b, hi1, hi2, rfl, rfl, HR⟩ := hrel
    clear hd
    by_cases hlt : i < s.size
    · have hlt' : (i : Int) < (s.size : Int) := by omega
      have hr := rest_at s i hlt
      obtain ⟨c, hc⟩ : ∃ c, s[i] = c := ⟨_, rfl⟩
      rw [hc] at hr
      have hcl := byte_lt c
      have hq : Hid (rest s i = c :: rest s (i + 1)) := hr
      clear hr
      have e10 : (((c.toNat : Int) == 10) = true ↔ c.toNat = 10) := by rw [beq_iff_eq]; omega
      by_cases k35 : c.toNat = 35
      · have x10 : ((c.toNat : Int) == 10) = false := beq_false_of_ne (by omega)
        have x35 : ((c.toNat : Int) == 35) = true := by rw [k35]; rfl
        have hs2 : Hid (d = (i + 1) + ov (rest s (i + 1)) true) := by
          show _ = _
          have e : remB b c = true := by unfold remB; rw [if_pos k35]
          rw [HR.out, hq.out, ov_go (by rw [e]; simp), e]; omega
        clear e10
        cases b <;> go_wp2 <;> exact ⟨⟨i + 1, true, by omega, by omega, by go_num, rfl, hs2⟩, by simp only [intOf]; omega⟩
      · have x35 : ((c.toNat : Int) == 35) = false := beq_false_of_ne (by omega)
        by_cases k10 : c.toNat = 10
        · have x10 : ((c.toNat : Int) == 10) = true := by rw [k10]; rfl
          have hs2 : Hid (d = (i + 1) + ov (rest s (i + 1)) false) := by
            show _ = _
            have e : remB b c = false := by unfold remB; rw [if_neg k35, if_pos k10]
            have e2 : blankB c = true := by unfold blankB; simp [k10]
            rw [HR.out, hq.out, ov_go (by rw [e2]; simp), e]; omega
          have n10 : ((c.toNat : Int) != 10) = false := by rw [k10]; rfl
          clear e10
          cases b <;> go_wp2 <;> first | exact ⟨⟨i + 1, false, by omega, by omega, by go_num, rfl, hs2⟩, by simp only [intOf]; omega⟩ | (exfalso; omega)
        · have x10 : ((c.toNat : Int) == 10) = false := beq_false_of_ne (by omega)
          have n10 : ((c.toNat : Int) != 10) = true := by simp; omega
          have e : remB b c = b := by unfold remB; rw [if_neg k35, if_neg k10]
          clear e10
          cases b
          · cases hb : blankB c
            · have n32 : ((c.toNat : Int) != 32) = true := by unfold blankB at hb; simp at hb ⊢; omega
              have n9 : ((c.toNat : Int) != 9) = true := by unfold blankB at hb; simp at hb ⊢; omega
              have n13 : ((c.toNat : Int) != 13) = true := by unfold blankB at hb; simp at hb ⊢; omega
              have hs2 : Hid (i = d) := by show _ = _; rw [HR.out, hq.out, ov_stop e hb]; omega
              go_wp2
              go_ret
              exact ⟨retI (by rw [hs2.out]), rfl⟩
            · have hs2 : Hid (d = (i + 1) + ov (rest s (i + 1)) false) := by
                show _ = _
                rw [HR.out, hq.out, ov_go (by rw [hb]; simp), e]; omega
              have hor : c.toNat = 32 ∨ c.toNat = 9 ∨ c.toNat = 13 := by unfold blankB at hb; simp at hb; omega
              have n32 : ((c.toNat : Int) != 32) = decide (c.toNat ≠ 32) := by by_cases h : c.toNat = 32 <;> simp [h]; omega
              have n9 : ((c.toNat : Int) != 9) = decide (c.toNat ≠ 9) := by by_cases h : c.toNat = 9 <;> simp [h]; omega
              have n13 : ((c.toNat : Int) != 13) = decide (c.toNat ≠ 13) := by by_cases h : c.toNat = 13 <;> simp [h]; omega
              clear hb
              rcases hor with h | h | h
              all_goals simp only [h] at n32 n9 n13
              all_goals go_wp2
              all_goals first | exact ⟨⟨i + 1, false, by omega, by omega, by go_num, rfl, hs2⟩, by simp only [intOf]; omega⟩ | (exfalso; omega)
          · have hs2 : Hid (d = (i + 1) + ov (rest s (i + 1)) true) := by
              show _ = _
              rw [HR.out, hq.out, ov_go (by rw [e]; simp), e]; omega
            go_wp2
            exact ⟨⟨i + 1, true, by omega, by omega, by go_num, rfl, hs2⟩, by simp only [intOf]; omega⟩
    · have hn : ¬ (i : Int) < (s.size : Int) := by omega
      have hs2 : Hid (s.size = d) := by show _ = _; rw [HR.out, rest_end s i (by omega)]; show _ = i + 0; omega
      go_wp2
      go_ret
      exact ⟨retI (by rw [hs2.out]), rfl⟩

def wordsV : Array Value := (wordsL.map Value.string).toArray
def marksV : Array Value := (marksL.map Value.string).toArray
theorem words_any (w : World) : Calls Tryd.prog 22 #[] w fun e w' => e = .returned (.slice (some ⟨w.heap.size, 0, none⟩) 41 41) ∧ w' = w.alloc (.cells wordsV 9) := by
  go_enter Tryd.func22, Tryd.ntmps22
  go_wp2
  go_ret
  exact ⟨rfl, rfl⟩
theorem words_cell (w : World) (j : Nat) (h : j < 41) : (w.alloc (.cells wordsV 9)).cell? ⟨w.heap.size, j, none⟩ = some (.string (wd j)) := by
  rw [cell_alloc]
  unfold wordsV wd
  have hl : j < wordsL.length := h
  simp [List.getElem?_map, List.getElem?_eq_getElem hl, List.getD]
theorem seq_ne {a b : ByteArray} (h : ¬ a = b) : (a.toList == b.toList) = false := by
  rw [ByteArray.toList_eq, ByteArray.toList_eq]
  exact beq_false_of_ne (fun h' => h (str_eq h'))
theorem isW_yes {s : ByteArray} {i : Nat} (h : i < 41) (e : wd i = s) : isW s = true := by
  unfold isW
  rw [List.any_eq_true]
  have hl : i < wordsL.length := h
  refine ⟨wordsL[i], List.getElem_mem hl, ?_⟩
  have : wd i = wordsL[i] := by unfold wd; simp [List.getD, hl]
  rw [← this, e]
  simp
theorem isW_no {s : ByteArray} (h : ∀ j, j < 41 → ¬ wd j = s) : isW s = false := by
  unfold isW
  rw [List.any_eq_false]
  intro x hx e
  obtain ⟨i, hi, rfl⟩ := List.mem_iff_getElem.1 hx
  refine h i hi ?_
  have e2 : wd i = wordsL[i] := by unfold wd; simp [List.getD, hi]
  rw [e2]
  exact str_eq (by simpa using e)
set_option maxHeartbeats 2000000 in
theorem word_any (s : ByteArray) (w : World) : Calls Tryd.prog 27 #[.string s] w fun e w' => e = .returned (.bool (isW s)) ∧ Below w.heap.size w w' := by
  have hc := words_cell w
  have hB := below_new w (.cells wordsV 9)
  go_enter Tryd.func27, Tryd.ntmps27
  go_wp2_with fail
  refine (words_any _).mono ?_
  rintro _ v ⟨rfl, e⟩
  rw [← e] at hc hB
  have HC : Hid (∀ j, j < 41 → v.cell? ⟨w.heap.size, j, none⟩ = some (.string (wd j))) := hc
  clear hc e
  go_wp2_with fail
  go_loop [4] (fun t => ∃ i : Nat, i ≤ 41 ∧ t = .int .i64 i ∧ Hid (∀ j, j < i → ¬ wd j = s)) (fun t => 41 - (intOf t).toNat)
  case atStart => exact ⟨0, by omega, rfl, fun j hj => by omega⟩
  case round =>
    obtain ⟨i, hi, rfl, HR⟩ := hrel
    by_cases hlt : i < 41
    · have hlt' : (i : Int) < 41 := by omega
      have hcell := HC.out i hlt
      obtain ⟨x, ex⟩ : ∃ x, wd i = x := ⟨_, rfl⟩
      rw [ex] at hcell
      by_cases he : x = s
      · have hw := isW_yes hlt (ex.trans he)
        subst he
        go_wp2
        go_ret
        exact ⟨by first | rfl | exact retB hw.symm, hB⟩
      · have hne := seq_ne he
        have hn : Hid (∀ j, j < i + 1 → ¬ wd j = s) := fun j hj => by
          by_cases e : j = i
          · subst e; rw [ex]; exact he
          · exact HR.out j (by omega)
        clear he ex
        go_wp2
        exact ⟨⟨i + 1, by omega, by go_num, hn⟩, by simp only [intOf]; omega⟩
    · obtain rfl : i = 41 := by omega
      have hw := isW_no HR.out
      go_wp2
      go_ret
      exact ⟨by first | rfl | exact retB hw.symm, hB⟩
end Go.Proofs.YtelanneckjgnbaaDoor
