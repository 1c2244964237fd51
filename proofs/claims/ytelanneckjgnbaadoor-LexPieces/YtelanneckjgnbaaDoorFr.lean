/-
  The walk of the statements' free: nothing but blanks and remarks.
-/
import Derived.Test.YtelanneckjgnbaaDoorPa
namespace Go.Proofs.YtelanneckjgnbaaDoor
open Go.RowKit

set_option maxRecDepth 100000 in
set_option maxHeartbeats 8000000 in
theorem free_any (s : ByteArray) (hs : s.size ≤ 140737488355328) (hf : Hid (ov (rest s 0) false = s.size)) (w : World) :
    Calls Tryd.prog 29 #[.string s] w fun e w' => e = .returned (.bool true) ∧ w' = w := by
  go_enter Tryd.func29, Tryd.ntmps29
  go_wp2_with fail
  go_loop [3, 4] (fun r t => ∃ (i : Nat) (b : Bool), i ≤ s.size ∧ t = .int .i64 i ∧ r = .bool b ∧ Hid (ov (rest s i) b = s.size - i)) (fun _ t => s.size - (intOf t).toNat)
  case atStart => exact ⟨0, false, by omega, rfl, rfl, hf⟩
  case round =>
    obtain ⟨i, b, hi2, rfl, rfl, HR⟩ := hrel
    clear hf
    by_cases hlt : i < s.size
    · have hlt' : (i : Int) < (s.size : Int) := by omega
      have hr := rest_at s i hlt
      obtain ⟨c, hc⟩ : ∃ c, s[i] = c := ⟨_, rfl⟩
      rw [hc] at hr
      have hcl := byte_lt c
      have hno : ¬ (remB b c = false ∧ blankB c = false) := fun hh => by
        have := HR.out
        rw [hr, ov_stop hh.1 hh.2] at this
        omega
      have HS : Hid (ov (rest s (i + 1)) (remB b c) = s.size - (i + 1)) := by
        show _ = _
        have := HR.out
        rw [hr, ov_go hno] at this
        omega
      clear hr HR
      by_cases k35 : c.toNat = 35
      · have x35 : ((c.toNat : Int) == 35) = true := by rw [k35]; rfl
        have x10 : ((c.toNat : Int) == 10) = false := beq_false_of_ne (by omega)
        have e : remB b c = true := by unfold remB; rw [if_pos k35]
        rw [e] at HS
        clear hno e
        go_wp2_with fail
        exact ⟨⟨i + 1, true, by omega, by go_num, rfl, HS⟩, by simp only [intOf]; omega⟩
      · have x35 : ((c.toNat : Int) == 35) = false := beq_false_of_ne (by omega)
        by_cases k10 : c.toNat = 10
        · have x10 : ((c.toNat : Int) == 10) = true := by rw [k10]; rfl
          have n10 : ((c.toNat : Int) != 10) = false := by rw [k10]; rfl
          have n32 : ((c.toNat : Int) != 32) = true := by simp; omega
          have n9 : ((c.toNat : Int) != 9) = true := by simp; omega
          have e : remB b c = false := by unfold remB; rw [if_neg k35, if_pos k10]
          rw [e] at HS
          clear hno e
          go_wp2_with fail
          exact ⟨⟨i + 1, false, by omega, by go_num, rfl, HS⟩, by simp only [intOf]; omega⟩
        · have x10 : ((c.toNat : Int) == 10) = false := beq_false_of_ne (by omega)
          have n10 : ((c.toNat : Int) != 10) = true := by simp; omega
          have e : remB b c = b := by unfold remB; rw [if_neg k35, if_neg k10]
          rw [e] at HS hno
          cases b
          · have hor : c.toNat = 32 ∨ c.toNat = 9 ∨ c.toNat = 13 := by
              cases hb : blankB c
              · exact absurd ⟨rfl, hb⟩ hno
              · unfold blankB at hb; simp at hb; omega
            have n32 : ((c.toNat : Int) != 32) = decide (c.toNat ≠ 32) := by by_cases h : c.toNat = 32 <;> simp [h]; omega
            have n9 : ((c.toNat : Int) != 9) = decide (c.toNat ≠ 9) := by by_cases h : c.toNat = 9 <;> simp [h]; omega
            have n13 : ((c.toNat : Int) != 13) = decide (c.toNat ≠ 13) := by by_cases h : c.toNat = 13 <;> simp [h]; omega
            clear hno e
            rcases hor with h | h | h
            all_goals simp only [h] at n32 n9 n13
            all_goals go_wp2_with fail
            all_goals first | exact ⟨⟨i + 1, false, by omega, by go_num, rfl, HS⟩, by simp only [intOf]; omega⟩ | (exfalso; omega)
          · clear hno e
            go_wp2_with fail
            exact ⟨⟨i + 1, true, by omega, by go_num, rfl, HS⟩, by simp only [intOf]; omega⟩
    · have hn : ¬ (i : Int) < (s.size : Int) := by omega
      go_wp2_with fail
      go_ret
      exact ⟨rfl, rfl⟩
end Go.Proofs.YtelanneckjgnbaaDoor
