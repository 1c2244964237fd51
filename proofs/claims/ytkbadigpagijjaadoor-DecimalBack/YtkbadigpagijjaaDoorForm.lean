/-
  Walks of package decimal: arePlaces, digitsEnd, wholeEnd, formOf.
-/
import Derived.Test.YtkbadigpagijjaaDoorTxt
import Derived.Test.YtkbadigpagijjaaDoorMul
import Derived.Deep.QuietTactic
import Derived.BigQuiet
namespace Go.Proofs.YtkbadigpagijjaaDoor
open Go.RowKit

/-- Are these places? -/
def plB (p : Int) : Bool := decide (0 ≤ p ∧ p ≤ 9)
theorem plB_true {p : Int} (h1 : 0 ≤ p) (h2 : p ≤ 9) : plB p = true := by unfold plB; exact decide_eq_true ⟨h1, h2⟩
theorem plB_false {p : Int} (h : p < 0 ∨ 9 < p) : plB p = false := by unfold plB; exact decide_eq_false (by omega)

theorem retb {a b : Bool} (h : a = b) : Ending.returned (.bool a) = .returned (.bool b) := by rw [h]

theorem places_any (p : Int) (w : World) : Calls Tryd.prog 13 #[.int .i64 p] w fun e w' => e = .returned (.bool (plB p)) ∧ w' = w := by
  by_cases h0 : 0 ≤ p
  · by_cases h1 : p ≤ 9
    · go_enter Tryd.func13, Tryd.ntmps13
      go_wp2_with fail
      go_ret
      exact ⟨retb (by rw [plB_true h0 h1]), rfl⟩
    · go_enter Tryd.func13, Tryd.ntmps13
      go_wp2_with fail
      go_ret
      exact ⟨retb (by rw [plB_false (by omega)]), rfl⟩
  · go_enter Tryd.func13, Tryd.ntmps13
    go_wp2_with fail
    go_ret
    exact ⟨retb (by rw [plB_false (by omega)]), rfl⟩

set_option maxHeartbeats 400000 in
theorem digitsEnd_any (s : ByteArray) (a m : Nat) (hs : s.size ≤ 140737488355328) (ha : a ≤ s.size) (hm : m ≤ 140737488355328) (d : Nat) (hd : Hid (d = a + run (s.data.toList.drop a) m)) (w : World) :
    Calls Tryd.prog 27 #[.string s, .int .i64 a, .int .i64 m] w fun e w' => e = .returned (.int .i64 d) ∧ w' = w := by
  go_enter Tryd.func27, Tryd.ntmps27
  go_wp2_with fail
  go_loop [7] (fun t => ∃ i : Nat, a ≤ i ∧ i ≤ s.size ∧ i - a ≤ m ∧ t = .int .i64 i ∧ Hid (d = i + run (s.data.toList.drop i) (m - (i - a)))) (fun t => s.size - (intOf t).toNat)
  case atStart => exact ⟨a, Nat.le_refl _, ha, by omega, rfl, by show _ = _; rw [hd.out, Nat.sub_self, Nat.sub_zero]⟩
  case round =>
    obtain ⟨i, hi1, hi2, hi3, rfl, HR⟩ := hrel
    by_cases hlt : i < s.size
    · by_cases hm2 : i - a < m
      · have hm3 : (i : Int) - (a : Int) < m := by omega
        by_cases h48 : (48 : Int) ≤ (s[i].toNat : Int)
        · by_cases h57 : (s[i].toNat : Int) ≤ 57
          · go_wp2_with fail
            go_round
            case rel =>
              refine ⟨i + 1, by omega, by omega, by omega, by go_num, ?_⟩
              show _ = _
              rw [HR.out, drop_at s i hlt, show m - (i - a) = (m - (i + 1 - a)) + 1 by omega, run_dig (dig_yes h48 h57)]
              omega
            case measure => simp [intOf]; omega
          · go_wp2_with fail
            go_ret
            exact ⟨ret1 (by rw [HR.out, drop_at s i hlt, run_not (dig_hi (by omega))]; rfl), rfl⟩
        · go_wp2_with fail
          go_ret
          exact ⟨ret1 (by rw [HR.out, drop_at s i hlt, run_not (dig_lo (by omega))]; rfl), rfl⟩
      · have hm3 : ¬ (i : Int) - (a : Int) < m := by omega
        go_wp2_with fail
        go_ret
        exact ⟨ret1 (by rw [HR.out, show m - (i - a) = 0 by omega, run_zero]; rfl), rfl⟩
    · go_wp2_with fail
      go_ret
      exact ⟨ret1 (by rw [HR.out, drop_end s i (by omega), run_nil]; rfl), rfl⟩

/-- Where the whole part ends that stands at a place. -/
theorem wholeEnd_any (s : ByteArray) (a : Nat) (hs : s.size ≤ 140737488355328) (ha : a ≤ s.size) (d : Nat) (hd : Hid (d = a + wlen (s.data.toList.drop a))) (w : World) :
    Calls Tryd.prog 26 #[.string s, .int .i64 a] w fun e w' => e = .returned (.int .i64 d) ∧ w' = w := by
  by_cases hlt : a < s.size
  · by_cases h48 : s[a] = 48
    · have hc : (s[a].toNat : Int) = 48 := (byte_is (d := 48) rfl).2 h48
      go_enter Tryd.func26, Tryd.ntmps26
      go_wp2_with fail
      go_ret
      exact ⟨ret1 (by rw [hd.out, wlen_0 (by rw [head_at s a hlt, h48])]; rfl), rfl⟩
    · have hc : ¬ (s[a].toNat : Int) = 48 := fun h => h48 ((byte_is (d := 48) rfl).1 h)
      have hr : Hid (d = a + run (s.data.toList.drop a) s.size) := by
        show _ = _
        rw [hd.out, wlen_1 (by rw [head_at s a hlt]; intro h; exact h48 (Option.some.inj h)), run_big _ s.size (by rw [List.length_drop, len_of]; omega)]
      go_enter Tryd.func26, Tryd.ntmps26
      go_wp2_with (go_at_call 27; refine (digitsEnd_any _ _ _ hs ha hs d hr _).mono ?_; rintro e w1 ⟨rfl, rfl⟩)
      go_ret
      exact ⟨rfl, rfl⟩
  · have hr : Hid (d = a + run (s.data.toList.drop a) s.size) := by
      show _ = _
      rw [hd.out, drop_end s a (by omega), run_nil]; rfl
    go_enter Tryd.func26, Tryd.ntmps26
    go_wp2_with (go_at_call 27; refine (digitsEnd_any _ _ _ hs ha hs d hr _).mono ?_; rintro e w1 ⟨rfl, rfl⟩)
    go_ret
    exact ⟨rfl, rfl⟩

theorem ret2i {k : IntKind} {a b : Int} {p q : Bool} (h : a = b) (h' : p = q) : Ending.returned (.tuple #[.int k a, .bool p]) = .returned (.tuple #[.int k b, .bool q]) := by rw [h, h']

set_option maxHeartbeats 1000000 in
theorem formOf_any (s : ByteArray) (p : Nat) (hs : s.size ≤ 140737488355328) (hp : p ≤ 9) (d : Nat) (b : Bool) (hd : Hid (d = formA s.data.toList p)) (hb : Hid (b = formB s.data.toList p)) (w : World) :
    Calls Tryd.prog 14 #[.string s, .int .i64 p] w fun e w' => e = .returned (.tuple #[.int .i64 d, .bool b]) ∧ w' = w := by
  obtain ⟨a, ea⟩ : ∃ a, a = sgn s.data.toList := ⟨_, rfl⟩
  have ha : a ≤ s.size := by rw [ea, ← len_of]; exact sgn_le _
  obtain ⟨m, em⟩ : ∃ m, m = a + wlen (s.data.toList.drop a) := ⟨_, rfl⟩
  have hwl := wlen_le (s.data.toList.drop a)
  rw [List.length_drop, len_of] at hwl
  have hm : m ≤ s.size := by omega
  have hma : a ≤ m := by omega
  have HM : Hid (m = a + wlen (s.data.toList.drop a)) := em
  have ew : wlen (s.data.toList.drop (sgn s.data.toList)) = m - a := by rw [← ea]; omega
  have e2 : sgn s.data.toList + wlen (s.data.toList.drop (sgn s.data.toList)) = m := by rw [ew, ← ea]; omega
  have F1 : m = a → d = a ∧ b = false := fun h => by
    have := form_none (l := s.data.toList) (p := p) (by rw [ew]; omega)
    exact ⟨by rw [hd.out, this.1, ea], by rw [hb.out, this.2]⟩
  have F2 : m ≠ a → m = s.size → d = m ∧ b = true := fun h h1 => by
    have := form_whole (l := s.data.toList) (p := p) (by rw [ew]; omega) (by rw [e2, len_of]; exact h1)
    exact ⟨by rw [hd.out, this.1, e2], by rw [hb.out, this.2]⟩
  have F3 : m ≠ a → m ≠ s.size → (s.data.toList[m]? ≠ some 46 ∨ p = 0) → d = m ∧ b = false := fun h h1 h2 => by
    have := form_stop (l := s.data.toList) (p := p) (by rw [ew]; omega) (by rw [e2, len_of]; exact h1) (by rw [e2]; exact h2)
    exact ⟨by rw [hd.out, this.1, e2], by rw [hb.out, this.2]⟩
  have F4 : m ≠ a → m ≠ s.size → s.data.toList[m]? = some 46 → p ≠ 0 → d = m + 1 + run (s.data.toList.drop (m + 1)) p ∧ b = decide (0 < run (s.data.toList.drop (m + 1)) p ∧ m + 1 + run (s.data.toList.drop (m + 1)) p = s.size) := fun h h1 h2 h3 => by
    have := form_point (l := s.data.toList) (p := p) (by rw [ew]; omega) (by rw [e2, len_of]; exact h1) (by rw [e2]; exact h2) h3
    rw [e2, len_of] at this
    exact ⟨by rw [hd.out, this.1], by rw [hb.out, this.2]⟩
  clear ew e2 em hwl hd hb
  by_cases hz : 0 < s.size
  · by_cases h45 : s[0] = 45
    · have hc0 : (s[0].toNat : Int) = 45 := (byte_is (d := 45) rfl).2 h45
      rw [sgn_1 (by rw [← List.drop_zero (l := s.data.toList), head_at s 0 hz, h45])] at ea
      subst ea
      clear h45
      by_cases h1 : (m : Int) = 1
      · obtain ⟨D, B⟩ := F1 (by omega)
        clear F1 F2 F3 F4
        go_enter Tryd.func14, Tryd.ntmps14
        go_wp2_with (go_at_call 26; refine (wholeEnd_any s 1 hs ha m HM _).mono ?_; rintro e w1 ⟨rfl, rfl⟩)
        go_ret2
        exact ⟨ret2i (by first | rfl | omega | (rw [D]; rfl)) (by first | rfl | (rw [B])), rfl⟩
      · by_cases h2 : (m : Int) = s.size
        · obtain ⟨D, B⟩ := F2 (by omega) (by omega)
          clear F1 F2 F3 F4
          go_enter Tryd.func14, Tryd.ntmps14
          go_wp2_with (go_at_call 26; refine (wholeEnd_any s 1 hs ha m HM _).mono ?_; rintro e w1 ⟨rfl, rfl⟩)
          go_ret2
          exact ⟨ret2i (by first | rfl | omega | (rw [D]; rfl)) (by first | rfl | (rw [B])), rfl⟩
        · have hmlt : m < s.size := by omega
          by_cases h46 : s[m] = 46
          · have hc : (s[m].toNat : Int) = 46 := (byte_is (d := 46) rfl).2 h46
            by_cases hp0 : (p : Int) = 0
            · obtain ⟨D, B⟩ := F3 (by omega) (by omega) (Or.inr (by omega))
              clear F1 F2 F3 F4 h46
              go_enter Tryd.func14, Tryd.ntmps14
              go_wp2_with (go_at_call 26; refine (wholeEnd_any s 1 hs ha m HM _).mono ?_; rintro e w1 ⟨rfl, rfl⟩)
              go_ret2
              exact ⟨ret2i (by first | rfl | omega | (rw [D]; rfl)) (by first | rfl | (rw [B])), rfl⟩
            · obtain ⟨D, B⟩ := F4 (by omega) (by omega) (by rw [get_at s m hmlt, h46]) (by omega)
              obtain ⟨q, eq⟩ : ∃ q, q = m + 1 := ⟨_, rfl⟩
              rw [← eq] at D B
              have HD : Hid (d = q + run (s.data.toList.drop q) p) := D
              have hqs : q ≤ s.size := by omega
              have hr := (run_le (s.data.toList.drop q) p).2
              rw [List.length_drop, len_of] at hr
              have hds : d ≤ s.size := by omega
              have hqd : q ≤ d := by omega
              have B2 : b = decide ((q : Int) < d ∧ (d : Int) = s.size) := by
                rw [B]; exact decide_eq_decide.2 (by omega)
              have hq : (m : Int) + 1 = q := by omega
              clear F1 F2 F3 F4 h46 D B hr eq
              by_cases h5 : (q : Int) < d
              · by_cases h6 : (d : Int) = s.size
                · rw [decide_eq_true ⟨h5, h6⟩] at B2
                  subst B2
                  go_enter Tryd.func14, Tryd.ntmps14
                  go_wp2_with (first | (go_at_call 26; refine (wholeEnd_any s 1 hs ha m HM _).mono ?_; rintro e w1 ⟨rfl, rfl⟩) | (go_at_call 27; refine (digitsEnd_any s q p hs hqs (by omega) d HD _).mono ?_; rintro e w1 ⟨rfl, rfl⟩))
                  go_ret2
                  exact ⟨ret2i (by first | rfl | omega) (by first | rfl | exact beq_false_of_ne h6), rfl⟩
                · rw [decide_eq_false (fun h => h6 h.2)] at B2
                  subst B2
                  go_enter Tryd.func14, Tryd.ntmps14
                  go_wp2_with (first | (go_at_call 26; refine (wholeEnd_any s 1 hs ha m HM _).mono ?_; rintro e w1 ⟨rfl, rfl⟩) | (go_at_call 27; refine (digitsEnd_any s q p hs hqs (by omega) d HD _).mono ?_; rintro e w1 ⟨rfl, rfl⟩))
                  go_ret2
                  exact ⟨ret2i (by first | rfl | omega) (by first | rfl | exact beq_false_of_ne h6), rfl⟩
              · rw [decide_eq_false (fun h => h5 h.1)] at B2
                subst B2
                go_enter Tryd.func14, Tryd.ntmps14
                go_wp2_with (first | (go_at_call 26; refine (wholeEnd_any s 1 hs ha m HM _).mono ?_; rintro e w1 ⟨rfl, rfl⟩) | (go_at_call 27; refine (digitsEnd_any s q p hs hqs (by omega) d HD _).mono ?_; rintro e w1 ⟨rfl, rfl⟩))
                go_ret2
                exact ⟨ret2i (by first | rfl | omega) (by first | rfl | exact beq_false_of_ne h6), rfl⟩
          · have hc : ¬ (s[m].toNat : Int) = 46 := fun h => h46 ((byte_is (d := 46) rfl).1 h)
            obtain ⟨D, B⟩ := F3 (by omega) (by omega) (Or.inl (by rw [get_at s m hmlt]; intro h; exact h46 (Option.some.inj h)))
            clear F1 F2 F3 F4
            go_enter Tryd.func14, Tryd.ntmps14
            go_wp2_with (go_at_call 26; refine (wholeEnd_any s 1 hs ha m HM _).mono ?_; rintro e w1 ⟨rfl, rfl⟩)
            go_ret2
            exact ⟨ret2i (by first | rfl | omega | (rw [D]; rfl)) (by first | rfl | (rw [B])), rfl⟩
    · have hc0 : ¬ (s[0].toNat : Int) = 45 := fun h => h45 ((byte_is (d := 45) rfl).1 h)
      rw [sgn_0 (by rw [← List.drop_zero (l := s.data.toList), head_at s 0 hz]; intro h; exact h45 (Option.some.inj h))] at ea
      subst ea
      clear h45
      by_cases h1 : (m : Int) = 0
      · obtain ⟨D, B⟩ := F1 (by omega)
        clear F1 F2 F3 F4
        go_enter Tryd.func14, Tryd.ntmps14
        go_wp2_with (go_at_call 26; refine (wholeEnd_any s 0 hs ha m HM _).mono ?_; rintro e w1 ⟨rfl, rfl⟩)
        go_ret2
        exact ⟨ret2i (by first | rfl | omega | (rw [D]; rfl)) (by first | rfl | (rw [B])), rfl⟩
      · by_cases h2 : (m : Int) = s.size
        · obtain ⟨D, B⟩ := F2 (by omega) (by omega)
          clear F1 F2 F3 F4
          go_enter Tryd.func14, Tryd.ntmps14
          go_wp2_with (go_at_call 26; refine (wholeEnd_any s 0 hs ha m HM _).mono ?_; rintro e w1 ⟨rfl, rfl⟩)
          go_ret2
          exact ⟨ret2i (by first | rfl | omega | (rw [D]; rfl)) (by first | rfl | (rw [B])), rfl⟩
        · have hmlt : m < s.size := by omega
          by_cases h46 : s[m] = 46
          · have hc : (s[m].toNat : Int) = 46 := (byte_is (d := 46) rfl).2 h46
            by_cases hp0 : (p : Int) = 0
            · obtain ⟨D, B⟩ := F3 (by omega) (by omega) (Or.inr (by omega))
              clear F1 F2 F3 F4 h46
              go_enter Tryd.func14, Tryd.ntmps14
              go_wp2_with (go_at_call 26; refine (wholeEnd_any s 0 hs ha m HM _).mono ?_; rintro e w1 ⟨rfl, rfl⟩)
              go_ret2
              exact ⟨ret2i (by first | rfl | omega | (rw [D]; rfl)) (by first | rfl | (rw [B])), rfl⟩
            · obtain ⟨D, B⟩ := F4 (by omega) (by omega) (by rw [get_at s m hmlt, h46]) (by omega)
              obtain ⟨q, eq⟩ : ∃ q, q = m + 1 := ⟨_, rfl⟩
              rw [← eq] at D B
              have HD : Hid (d = q + run (s.data.toList.drop q) p) := D
              have hqs : q ≤ s.size := by omega
              have hr := (run_le (s.data.toList.drop q) p).2
              rw [List.length_drop, len_of] at hr
              have hds : d ≤ s.size := by omega
              have hqd : q ≤ d := by omega
              have B2 : b = decide ((q : Int) < d ∧ (d : Int) = s.size) := by
                rw [B]; exact decide_eq_decide.2 (by omega)
              have hq : (m : Int) + 1 = q := by omega
              clear F1 F2 F3 F4 h46 D B hr eq
              by_cases h5 : (q : Int) < d
              · by_cases h6 : (d : Int) = s.size
                · rw [decide_eq_true ⟨h5, h6⟩] at B2
                  subst B2
                  go_enter Tryd.func14, Tryd.ntmps14
                  go_wp2_with (first | (go_at_call 26; refine (wholeEnd_any s 0 hs ha m HM _).mono ?_; rintro e w1 ⟨rfl, rfl⟩) | (go_at_call 27; refine (digitsEnd_any s q p hs hqs (by omega) d HD _).mono ?_; rintro e w1 ⟨rfl, rfl⟩))
                  go_ret2
                  exact ⟨ret2i (by first | rfl | omega) (by first | rfl | exact beq_false_of_ne h6), rfl⟩
                · rw [decide_eq_false (fun h => h6 h.2)] at B2
                  subst B2
                  go_enter Tryd.func14, Tryd.ntmps14
                  go_wp2_with (first | (go_at_call 26; refine (wholeEnd_any s 0 hs ha m HM _).mono ?_; rintro e w1 ⟨rfl, rfl⟩) | (go_at_call 27; refine (digitsEnd_any s q p hs hqs (by omega) d HD _).mono ?_; rintro e w1 ⟨rfl, rfl⟩))
                  go_ret2
                  exact ⟨ret2i (by first | rfl | omega) (by first | rfl | exact beq_false_of_ne h6), rfl⟩
              · rw [decide_eq_false (fun h => h5 h.1)] at B2
                subst B2
                go_enter Tryd.func14, Tryd.ntmps14
                go_wp2_with (first | (go_at_call 26; refine (wholeEnd_any s 0 hs ha m HM _).mono ?_; rintro e w1 ⟨rfl, rfl⟩) | (go_at_call 27; refine (digitsEnd_any s q p hs hqs (by omega) d HD _).mono ?_; rintro e w1 ⟨rfl, rfl⟩))
                go_ret2
                exact ⟨ret2i (by first | rfl | omega) (by first | rfl | exact beq_false_of_ne h6), rfl⟩
          · have hc : ¬ (s[m].toNat : Int) = 46 := fun h => h46 ((byte_is (d := 46) rfl).1 h)
            obtain ⟨D, B⟩ := F3 (by omega) (by omega) (Or.inl (by rw [get_at s m hmlt]; intro h; exact h46 (Option.some.inj h)))
            clear F1 F2 F3 F4
            go_enter Tryd.func14, Tryd.ntmps14
            go_wp2_with (go_at_call 26; refine (wholeEnd_any s 0 hs ha m HM _).mono ?_; rintro e w1 ⟨rfl, rfl⟩)
            go_ret2
            exact ⟨ret2i (by first | rfl | omega | (rw [D]; rfl)) (by first | rfl | (rw [B])), rfl⟩
  · rw [sgn_0 (by rw [← List.drop_zero (l := s.data.toList), drop_end s 0 (by omega)]; intro h; cases h)] at ea
    subst ea
    have hm0 : m = 0 := by omega
    have h1 : (m : Int) = 0 := by omega
    obtain ⟨D, B⟩ := F1 hm0
    clear F1 F2 F3 F4
    go_enter Tryd.func14, Tryd.ntmps14
    go_wp2_with (go_at_call 26; refine (wholeEnd_any s 0 hs ha m HM _).mono ?_; rintro e w1 ⟨rfl, rfl⟩)
    go_ret2
    exact ⟨ret2i (by first | rfl | omega | (rw [D]; rfl)) (by first | rfl | (rw [B])), rfl⟩
end Go.Proofs.YtkbadigpagijjaaDoor
