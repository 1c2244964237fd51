/-
  The walks of worth, isPadded, isGlued.
-/
import Derived.Test.YtighocmdlifheaaDoorPd
namespace Go.Proofs.YtighocmdlifheaaDoor
open Go.RowKit

theorem results_t2 {P : Program} {fn : Func} {p u : Tmp} (h : fn.results = #[.tmp p, .tmp u]) (tmps : Array Value) (w : World) : (results fn tmps).run P w = .ok (.tuple #[tmps.getD p undef, tmps.getD u undef]) w := by
  simp [results, h]
def wvN (o : Option Nat) : Int := match o with | none => 0 | some n => n
theorem isPadded_any (x : ByteArray) (hx : x.size ≤ 140737488355328) (w : World) : Calls Tryd.prog 97 #[.string x] w fun e w' => e = .returned (.bool (decide (x.size > 1) && hd0 (rest x 0))) ∧ w' = w := by
  by_cases h : x.size > 1
  · have h' : (1 : Int) < (x.size : Int) := by omega
    have h0 : 0 < x.size := by omega
    have h0' : (0 : Int) < (x.size : Int) := by omega
    have hr := rest_at x 0 h0
    obtain ⟨c, hc⟩ : ∃ c, x[0] = c := ⟨_, rfl⟩
    rw [hc] at hr
    have K : Hid ((decide (x.size > 1) && hd0 (rest x 0)) = ((c.toNat : Int) == 48)) := by
      show _ = _
      rw [decide_eq_true h, hr]
      show decide (c.toNat = 48) = _
      by_cases hk : c.toNat = 48
      · rw [hk]; rfl
      · rw [decide_eq_false hk, beq_false_of_ne (by omega)]
    clear hr
    go_enter Tryd.func97, Tryd.ntmps97
    go_wp2_with fail
    go_ret
    exact ⟨retB (by rw [K.out]), rfl⟩
  · have h' : ¬ (1 : Int) < (x.size : Int) := by omega
    rw [decide_eq_false h]
    go_enter Tryd.func97, Tryd.ntmps97
    go_wp2_with fail
    go_ret
    exact ⟨rfl, rfl⟩
set_option maxHeartbeats 2000000 in
theorem isGlued_any (s : ByteArray) (a : Nat) (ha : a ≤ s.size) (w : World) : Calls Tryd.prog 98 #[.string s, .int .i64 a] w fun e w' => e = .returned (.bool (badH (rest s a))) ∧ w' = w := by
  by_cases hlt : a < s.size
  · have hne : ((a : Int) == (s.size : Int)) = false := beq_false_of_ne (by omega)
    have hlt' : (a : Int) < (s.size : Int) := by omega
    have hr := rest_at s a hlt
    obtain ⟨c, hc⟩ : ∃ c, s[a] = c := ⟨_, rfl⟩
    rw [hc] at hr
    rw [hr]
    obtain ⟨R, eR⟩ : ∃ R, badH (c :: rest s (a + 1)) = R := ⟨_, rfl⟩
    have K : Hid (R = (goB c || upB c)) := eR.symm
    rw [eR]
    clear hr eR
    cases b1 : letB c
    · by_cases u1 : 65 ≤ c.toNat
      · by_cases u2 : c.toNat ≤ 90
        · have hu : upB c = true := by unfold upB; exact decide_eq_true ⟨u1, u2⟩
          have KR : Hid (R = true) := by show _ = _; rw [K.out, hu, Bool.or_true]
          have u1' : (65 : Int) ≤ (c.toNat : Int) := by omega
          have u2' : (c.toNat : Int) ≤ 90 := by omega
          clear K
          go_enter Tryd.func98, Tryd.ntmps98
          go_wp2_with (first | (go_at_call 82; refine (isLetter_b b1 _).mono ?_; rintro _ v ⟨rfl, e⟩; obtain rfl := e.symm) | (go_at_call 84; refine (isDigit_any _ _).mono ?_; rintro _ v ⟨rfl, e⟩; obtain rfl := e.symm))
          all_goals go_ret
          all_goals exact ⟨retB (by rw [KR.out]), rfl⟩
        · have hu : upB c = false := by unfold upB; exact decide_eq_false (by omega)
          have b2 : digB c = false := by unfold digB; exact decide_eq_false (by omega)
          have KR : Hid (R = ((c.toNat : Int) == 95)) := by
            show _ = _
            rw [K.out, hu]
            unfold goB
            rw [b1, b2]
            by_cases h : c.toNat = 95
            · rw [h]; rfl
            · rw [show ((c.toNat : Int) == 95) = false from beq_false_of_ne (by omega), decide_eq_false h]; rfl
          have u1' : (65 : Int) ≤ (c.toNat : Int) := by omega
          have u2' : ¬ (c.toNat : Int) ≤ 90 := by omega
          clear K
          go_enter Tryd.func98, Tryd.ntmps98
          go_wp2_with (first | (go_at_call 82; refine (isLetter_b b1 _).mono ?_; rintro _ v ⟨rfl, e⟩; obtain rfl := e.symm) | (go_at_call 84; refine (isDigit_b b2 _).mono ?_; rintro _ v ⟨rfl, e⟩; obtain rfl := e.symm))
          all_goals go_ret
          all_goals exact ⟨retB (by rw [KR.out, decide_eq_false (by omega)]; rfl), rfl⟩
      · have hu : upB c = false := by unfold upB; exact decide_eq_false (by omega)
        have u1' : ¬ (65 : Int) ≤ (c.toNat : Int) := by omega
        cases b2 : digB c
        · have KR : Hid (R = false) := by
            show _ = _
            rw [K.out, hu]
            unfold goB
            rw [b1, b2, decide_eq_false (by omega)]; rfl
          have x95 : ((c.toNat : Int) == 95) = false := beq_false_of_ne (by omega)
          clear K
          go_enter Tryd.func98, Tryd.ntmps98
          go_wp2_with (first | (go_at_call 82; refine (isLetter_b b1 _).mono ?_; rintro _ v ⟨rfl, e⟩; obtain rfl := e.symm) | (go_at_call 84; refine (isDigit_b b2 _).mono ?_; rintro _ v ⟨rfl, e⟩; obtain rfl := e.symm))
          all_goals go_ret
          all_goals exact ⟨retB (by rw [KR.out]), rfl⟩
        · have KR : Hid (R = true) := by
            show _ = _
            rw [K.out]
            unfold goB
            rw [b2]; simp
          clear K
          go_enter Tryd.func98, Tryd.ntmps98
          go_wp2_with (first | (go_at_call 82; refine (isLetter_b b1 _).mono ?_; rintro _ v ⟨rfl, e⟩; obtain rfl := e.symm) | (go_at_call 84; refine (isDigit_b b2 _).mono ?_; rintro _ v ⟨rfl, e⟩; obtain rfl := e.symm))
          all_goals go_ret
          all_goals exact ⟨retB (by rw [KR.out]), rfl⟩
    · have KR : Hid (R = true) := by
        show _ = _
        rw [K.out]
        unfold goB
        rw [b1]; simp
      clear K
      go_enter Tryd.func98, Tryd.ntmps98
      go_wp2_with (go_at_call 82; refine (isLetter_b b1 _).mono ?_; rintro _ v ⟨rfl, e⟩; obtain rfl := e.symm)
      all_goals go_ret
      all_goals exact ⟨retB (by rw [KR.out]), rfl⟩
  · obtain rfl : a = s.size := by omega
    rw [rest_end s s.size (Nat.le_refl _)]
    go_enter Tryd.func98, Tryd.ntmps98
    go_wp2_with fail
    go_ret
    exact ⟨rfl, rfl⟩
set_option maxHeartbeats 2000000 in
theorem worth_any (x : ByteArray) (hx : x.size ≤ 140737488355328) (hd : ∀ c ∈ rest x 0, digB c = true) (w : World) :
    Calls Tryd.prog 96 #[.string x] w fun e w' => e = .returned (.tuple #[.int .i64 (wvN (wv (rest x 0) 0)), .bool (wv (rest x 0) 0).isSome]) ∧ w' = w := by
  obtain ⟨o, ho⟩ : ∃ o, wv (rest x 0) 0 = o := ⟨_, rfl⟩
  have HO : Hid (wv (rest x 0) 0 = o) := ho
  have HD : Hid (∀ c ∈ rest x 0, digB c = true) := hd
  rw [ho]
  clear ho hd
  go_enter Tryd.func96, Tryd.ntmps96
  go_wp2_with fail
  go_loop [4, 9] (fun t u => ∃ i n : Nat, i ≤ x.size ∧ u = .int .i64 i ∧ t = .int .i64 n ∧ n ≤ 9223372036854775807 ∧ Hid (wv (rest x i) n = o)) (fun _ u => x.size - (intOf u).toNat)
  case atStart => exact ⟨0, 0, by omega, rfl, rfl, by omega, HO⟩
  case round =>
    obtain ⟨i, n, hi, rfl, rfl, hn, HR⟩ := hrel
    clear HO
    by_cases hlt : i < x.size
    · have hlt' : (i : Int) < (x.size : Int) := by omega
      have hr := rest_at x i hlt
      obtain ⟨c, hc⟩ : ∃ c, x[i] = c := ⟨_, rfl⟩
      rw [hc] at hr
      have hdc : digB c = true := by
        refine HD.out c ?_
        have : rest x i = (rest x 0).drop i := by unfold rest; simp
        exact List.mem_of_mem_drop (i := i) (by rw [← this, hr]; simp)
      obtain ⟨k1, k2⟩ : 48 ≤ c.toNat ∧ c.toNat ≤ 57 := by unfold digB at hdc; exact of_decide_eq_true hdc
      obtain ⟨g, hg⟩ : ∃ g : Nat, c.toNat = g + 48 := ⟨c.toNat - 48, by omega⟩
      have hgI : (c.toNat : Int) - 48 = (g : Int) := by omega
      have K : Hid (wv (rest x i) n = if 10 * n + g > 9223372036854775807 then none else wv (rest x (i + 1)) (10 * n + g)) := by
        show _ = _
        rw [hr, wv, show c.toNat - 48 = g by omega]
      have k1' : (48 : Int) ≤ (c.toNat : Int) := by omega
      have hg9 : g ≤ 9 := by omega
      clear hr hdc
      by_cases hb : 10 * n + g > 9223372036854775807
      · have hb' : (9223372036854775807 - (g : Int)) / 10 < (n : Int) := by omega
        have KO : Hid (o = none) := by show _ = _; rw [← HR.out, K.out, if_pos hb]
        clear K HR
        go_wp2_with fail
        exact bodyPost_ret (results_t2 (p := 2) (u := 3) rfl _ _) rfl ⟨by rw [KO.out]; rfl, rfl⟩
      · have hb' : ¬ (9223372036854775807 - (g : Int)) / 10 < (n : Int) := by omega
        have KO : Hid (wv (rest x (i + 1)) (10 * n + g) = o) := by show _ = _; rw [← HR.out, K.out, if_neg hb]
        clear K HR
        go_wp2_with fail
        exact ⟨⟨i + 1, 10 * n + g, by omega, by go_num, by rw [show (n : Int) * 10 + (g : Int) = ((10 * n + g : Nat) : Int) by omega], by omega, KO⟩, by simp only [intOf]; omega⟩
    · obtain rfl : i = x.size := by omega
      have hn' : ¬ (x.size : Int) < (x.size : Int) := by omega
      have KO : Hid (o = some n) := by show _ = _; rw [← HR.out, rest_end x x.size (Nat.le_refl _)]; rfl
      clear HR
      go_wp2_with fail
      exact bodyPost_ret (results_t2 (p := 2) (u := 3) rfl _ _) rfl ⟨by rw [KO.out]; rfl, rfl⟩
end Go.Proofs.YtighocmdlifheaaDoor
