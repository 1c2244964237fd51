/-
  The walk of lex.start: blanks and remarks.
-/
import Derived.Test.YtkfabnchhjfjjabGreatDoorPa
import Derived.WalkMore
namespace Go.Proofs.YtkfabnchhjfjjabGreatDoor
open Go.RowKit

set_option maxRecDepth 100000 in
set_option maxHeartbeats 8000000 in
theorem start_any (s : ByteArray) (a : Nat) (hs : s.size ≤ 140737488355328) (ha : a ≤ s.size) (d : Nat) (hd : Hid (d = a + ov (rest s a) false)) (w : World) :
    Calls Tryz.prog 86 #[.string s, .int .i64 a] w fun e w' => e = .returned (.int .i64 d) ∧ w' = w := by
  go_enter Tryz.func86, Tryz.ntmps86
  go_wp2_with fail
  go_step3
  go_wp2_with fail
  go_step3
  go_wp2_with fail
  go_loop [1, 5] (fun t r => ∃ (i : Nat) (b : Bool), a ≤ i ∧ i ≤ s.size ∧ t = .int .i64 i ∧ r = .bool b ∧ Hid (d = i + ov (rest s i) b)) (fun t _ => s.size - (intOf t).toNat)
  case atStart => exact ⟨a, false, Nat.le_refl _, ha, rfl, rfl, hd⟩
  case round =>
    obtain ⟨i, b, hi1, hi2, rfl, rfl, HR⟩ := hrel
    clear hd
    by_cases hlt : i < s.size
    · have hlt' : (i : Int) < (s.size : Int) := by omega
      have hr := rest_at s i hlt
      obtain ⟨c, hc⟩ : ∃ c, s[i] = c := ⟨_, rfl⟩
      rw [hc] at hr
      have hcl := byte_lt c
      have hq : Hid (rest s i = c :: rest s (i + 1)) := hr
      clear hr
      by_cases k10 : c.toNat = 10
      · have x10 : ((c.toNat : Int) == 10) = true := by rw [k10]; rfl
        have hs2 : Hid (d = (i + 1) + ov (rest s (i + 1)) false) := by
          show _ = _
          have e : remB b c = false := by unfold remB; rw [if_neg (by omega), if_pos k10]
          have e2 : blankB c = true := by unfold blankB; simp [k10]
          rw [HR.out, hq.out, ov_go (by rw [e2]; simp), e]; omega
        go_wp2_with fail
        exact ⟨⟨i + 1, false, by omega, by omega, by go_num, rfl, hs2⟩, by simp only [intOf]; omega⟩
      · have x10 : ((c.toNat : Int) == 10) = false := beq_false_of_ne (by omega)
        by_cases kb : c.toNat = 32 ∨ c.toNat = 9 ∨ c.toNat = 13
        · have e : remB b c = b := by unfold remB; rw [if_neg (by omega), if_neg (by omega)]
          have e2 : blankB c = true := by unfold blankB; simp; omega
          have hs2 : Hid (d = (i + 1) + ov (rest s (i + 1)) b) := by
            show _ = _
            rw [HR.out, hq.out, ov_go (by rw [e2]; simp), e]; omega
          clear e e2
          rcases kb with h | h | h
          · have x32 : ((c.toNat : Int) == 32) = true := by rw [h]; rfl
            go_wp2_with fail
            exact ⟨⟨i + 1, b, by omega, by omega, by go_num, rfl, hs2⟩, by simp only [intOf]; omega⟩
          · have x32 : ((c.toNat : Int) == 32) = false := beq_false_of_ne (by omega)
            have x9 : ((c.toNat : Int) == 9) = true := by rw [h]; rfl
            go_wp2_with fail
            exact ⟨⟨i + 1, b, by omega, by omega, by go_num, rfl, hs2⟩, by simp only [intOf]; omega⟩
          · have x32 : ((c.toNat : Int) == 32) = false := beq_false_of_ne (by omega)
            have x9 : ((c.toNat : Int) == 9) = false := beq_false_of_ne (by omega)
            have x13 : ((c.toNat : Int) == 13) = true := by rw [h]; rfl
            go_wp2_with fail
            exact ⟨⟨i + 1, b, by omega, by omega, by go_num, rfl, hs2⟩, by simp only [intOf]; omega⟩
        · have x32 : ((c.toNat : Int) == 32) = false := beq_false_of_ne (by omega)
          have x9 : ((c.toNat : Int) == 9) = false := beq_false_of_ne (by omega)
          have x13 : ((c.toNat : Int) == 13) = false := beq_false_of_ne (by omega)
          have e2 : blankB c = false := by unfold blankB; simp; omega
          by_cases k35 : c.toNat = 35
          · have x35 : ((c.toNat : Int) == 35) = true := by rw [k35]; rfl
            have e : remB b c = true := by unfold remB; rw [if_pos k35]
            have hs2 : Hid (d = (i + 1) + ov (rest s (i + 1)) true) := by
              show _ = _
              rw [HR.out, hq.out, ov_go (by rw [e]; simp), e]; omega
            clear e e2
            go_wp2_with fail
            exact ⟨⟨i + 1, true, by omega, by omega, by go_num, rfl, hs2⟩, by simp only [intOf]; omega⟩
          · have x35 : ((c.toNat : Int) == 35) = false := beq_false_of_ne (by omega)
            have e : remB b c = b := by unfold remB; rw [if_neg k35, if_neg k10]
            cases b
            · have hs2 : Hid (i = d) := by show _ = _; rw [HR.out, hq.out, ov_stop e e2]; omega
              clear e e2
              go_wp2_with fail
              go_ret
              exact ⟨retI (by rw [hs2.out]), rfl⟩
            · have hs2 : Hid (d = (i + 1) + ov (rest s (i + 1)) true) := by
                show _ = _
                rw [HR.out, hq.out, ov_go (by rw [e]; simp), e]; omega
              clear e e2
              go_wp2_with fail
              exact ⟨⟨i + 1, true, by omega, by omega, by go_num, rfl, hs2⟩, by simp only [intOf]; omega⟩
    · have hn : ¬ (i : Int) < (s.size : Int) := by omega
      have hs2 : Hid (i = d) := by show _ = _; rw [HR.out, rest_end s i (by omega)]; rfl
      go_wp2_with fail
      go_ret
      exact ⟨retI (by rw [hs2.out]), rfl⟩
end Go.Proofs.YtkfabnchhjfjjabGreatDoor
