/-
  The walk of the document's Name.
-/
import Derived.Test.YtelanneckjgnbaaDoorLxr
namespace Go.Proofs.YtelanneckjgnbaaDoor
open Go.RowKit

/-- Is a text a name? -/
def nameB (s : ByteArray) : Bool := !isW s && (decide (1 ≤ s.size) && (decide (s.size ≤ 16) && (hdB letB (rest s 0) && decide (lead goB (rest s 0) = s.size))))
set_option maxRecDepth 100000 in
set_option maxHeartbeats 2000000 in
theorem name_any (s : ByteArray) (hs : s.size ≤ 140737488355328) (w : World) : Calls Tryd.prog 28 #[.string s] w fun e w' => e = .returned (.bool (nameB s)) ∧ Below w.heap.size w w' := by
  have cW := word_any s w
  cases hW : isW s
  · rw [hW] at cW
    by_cases h1 : 1 ≤ s.size
    · by_cases h2 : s.size ≤ 16
      · have hr := rest_at s 0 (by omega)
        obtain ⟨c, hc⟩ : ∃ c, s[0] = c := ⟨_, rfl⟩
        rw [hc] at hr
        have h1' : ¬ (s.size : Int) < 1 := by omega
        have h2' : ¬ (s.size : Int) > 16 := by omega
        have h3' : (0 : Int) < (s.size : Int) := by omega
        have h3 : 0 < s.size := by omega
        cases hl : letB c
        · have K : Hid (nameB s = false) := by show _ = _; unfold nameB; rw [hr]; simp [hdB, hl]
          clear hr
          go_enter Tryd.func28, Tryd.ntmps28
          go_wp2_with (first | (go_at_call 27; refine cW.mono ?_; rintro _ v ⟨rfl, bb⟩) | (go_at_call 56; refine (letter_b hl _).mono ?_; rintro _ v2 ⟨rfl, e⟩; obtain rfl := e.symm))
          go_ret
          exact ⟨retB K.out.symm, bb⟩
        · have HK : Hid (nameB s = decide (lead goB (rest s 0) = s.size)) := by show _ = _; unfold nameB; rw [hW]; simp [hr, hdB, hl, h1, h2]
          clear hr
          go_enter Tryd.func28, Tryd.ntmps28
          go_wp2_with (first | (go_at_call 27; refine cW.mono ?_; rintro _ v ⟨rfl, bb⟩) | (go_at_call 56; refine (letter_b hl _).mono ?_; rintro _ v2 ⟨rfl, e⟩; obtain rfl := e.symm))
          go_loop [4] (fun t => ∃ i : Nat, i ≤ s.size ∧ t = .int .i64 i ∧ Hid (lead goB (rest s 0) = i + lead goB (rest s i))) (fun t => s.size - (intOf t).toNat)
          case atStart => exact ⟨0, Nat.zero_le _, rfl, by show _ = _; omega⟩
          case round =>
            obtain ⟨i, hi, rfl, HR⟩ := hrel
            by_cases hlt : i < s.size
            · have hlt' : (i : Int) < (s.size : Int) := by omega
              have hr := rest_at s i hlt
              obtain ⟨d, hd⟩ : ∃ d, s[i] = d := ⟨_, rfl⟩
              rw [hd] at hr
              cases hg : goB d
              · have K : Hid (nameB s = false) := by
                  show _ = _
                  rw [HK.out, HR.out, hr, lead, if_neg (by rw [hg]; decide)]
                  exact decide_eq_false (by omega)
                clear hr HR HK
                go_wp2_with (go_at_call 57; refine (goes_b hg _).mono ?_; rintro _ v2 ⟨rfl, e⟩; obtain rfl := e.symm)
                go_ret
                exact ⟨retB K.out.symm, bb⟩
              · have hs2 : Hid (lead goB (rest s 0) = (i + 1) + lead goB (rest s (i + 1))) := by
                  show _ = _
                  rw [HR.out, hr, lead, if_pos hg]; omega
                clear hr HR
                go_wp2_with (go_at_call 57; refine (goes_b hg _).mono ?_; rintro _ v2 ⟨rfl, e⟩; obtain rfl := e.symm)
                exact ⟨⟨i + 1, by omega, by go_num, hs2⟩, by simp only [intOf]; omega⟩
            · have hie : i = s.size := by omega
              subst hie
              have K : Hid (nameB s = true) := by
                show _ = _
                have : rest s s.size = [] := by
                  apply List.eq_nil_of_length_eq_zero
                  rw [rest_len]; omega
                rw [HK.out, HR.out, this]
                exact decide_eq_true rfl
              have hlt' : ¬ (s.size : Int) < (s.size : Int) := by omega
              clear HR HK
              go_wp2
              go_ret
              exact ⟨retB K.out.symm, bb⟩
      · have K : Hid (nameB s = false) := by show _ = _; unfold nameB; simp [h2]
        have h1' : ¬ (s.size : Int) < 1 := by omega
        have h2' : (s.size : Int) > 16 := by omega
        go_enter Tryd.func28, Tryd.ntmps28
        go_wp2_with (first | (go_at_call 27; refine cW.mono ?_; rintro _ v ⟨rfl, bb⟩))
        go_ret
        exact ⟨retB K.out.symm, bb⟩
    · have K : Hid (nameB s = false) := by show _ = _; unfold nameB; simp [h1]
      have h1' : (s.size : Int) < 1 := by omega
      go_enter Tryd.func28, Tryd.ntmps28
      go_wp2_with (first | (go_at_call 27; refine cW.mono ?_; rintro _ v ⟨rfl, bb⟩))
      go_ret
      exact ⟨retB K.out.symm, bb⟩
  · rw [hW] at cW
    have K : Hid (nameB s = false) := by show _ = _; unfold nameB; rw [hW]; rfl
    go_enter Tryd.func28, Tryd.ntmps28
    go_wp2_with (first | (go_at_call 27; refine cW.mono ?_; rintro _ v ⟨rfl, bb⟩))
    go_ret
    exact ⟨retB K.out.symm, bb⟩
end Go.Proofs.YtelanneckjgnbaaDoor
