/-
  The walks of the document's answer for layer 2: digit, begins.
-/
import Derived.Test.YtkbadigpagijjaaDoorForm
import Derived.Deep.Cut
namespace Go.Proofs.YtkbadigpagijjaaDoor
open Go.RowKit

/-- Does a digit stand there? -/
def dAt (l : List UInt8) (i : Nat) : Bool := match l[i]? with | some c => dig c | none => false
theorem dAt_in (s : ByteArray) (i : Nat) (h : i < s.size) : dAt s.data.toList i = dig s[i] := by unfold dAt; rw [get_at s i h]
theorem dAt_out (s : ByteArray) (i : Nat) (h : s.size ≤ i) : dAt s.data.toList i = false := by unfold dAt; rw [List.getElem?_eq_none (by rw [len_of]; exact h)]
theorem dAt_lt {s : ByteArray} {i : Nat} (h : dAt s.data.toList i = true) : i < s.size := by
  by_cases hi : i < s.size
  · exact hi
  · rw [dAt_out s i (by omega)] at h; cases h
theorem run_yes {s : ByteArray} {i : Nat} (h : dAt s.data.toList i = true) (m : Nat) : run (s.data.toList.drop i) (m + 1) = run (s.data.toList.drop (i + 1)) m + 1 := by
  have hi := dAt_lt h
  rw [drop_at s i hi, run_dig (by rw [← dAt_in s i hi]; exact h)]
theorem run_no {s : ByteArray} {i : Nat} (h : dAt s.data.toList i = false) (m : Nat) : run (s.data.toList.drop i) m = 0 := by
  by_cases hi : i < s.size
  · rw [drop_at s i hi, run_not (by rw [← dAt_in s i hi]; exact h)]
  · rw [drop_end s i (by omega), run_nil]
theorem wlen_no {s : ByteArray} {a : Nat} (h : dAt s.data.toList a = false) : wlen (s.data.toList.drop a) = 0 := by
  by_cases hi : a < s.size
  · rw [wlen_1, run_no h]
    rw [head_at s a hi]; intro e
    rw [dAt_in s a hi, Option.some.inj e] at h; cases h
  · rw [drop_end s a (by omega)]; rfl
theorem wlen_yes {s : ByteArray} {a : Nat} (h : dAt s.data.toList a = true) : wlen (s.data.toList.drop a) ≠ 0 := by
  have hi := dAt_lt h
  by_cases h48 : s[a] = 48
  · rw [wlen_0 (by rw [head_at s a hi, h48])]; decide
  · rw [wlen_1 (by rw [head_at s a hi]; intro e; exact h48 (Option.some.inj e)), List.length_drop, len_of, show s.size - a = (s.size - a - 1) + 1 by omega, run_yes h]; omega

theorem digit_any (s : ByteArray) (i : Nat) (w : World) :
    Calls Tryd.prog 31 #[.string s, .int .i64 i] w fun e w' => e = .returned (.bool (dAt s.data.toList i)) ∧ w' = w := by
  by_cases hi : i < s.size
  · by_cases h48 : (48 : Int) ≤ (s[i].toNat : Int)
    · by_cases h57 : (s[i].toNat : Int) ≤ 57
      · go_enter Tryd.func31, Tryd.ntmps31
        go_wp2_with fail
        go_ret
        exact ⟨retb (by rw [dAt_in s i hi, dig_yes h48 h57]), rfl⟩
      · go_enter Tryd.func31, Tryd.ntmps31
        go_wp2_with fail
        go_ret
        exact ⟨retb (by rw [dAt_in s i hi, dig_hi (by omega)]), rfl⟩
    · go_enter Tryd.func31, Tryd.ntmps31
      go_wp2_with fail
      go_ret
      exact ⟨retb (by rw [dAt_in s i hi, dig_lo (by omega)]), rfl⟩
  · go_enter Tryd.func31, Tryd.ntmps31
    go_wp2_with fail
    go_ret
    exact ⟨retb (by rw [dAt_out s i (by omega)]), rfl⟩

set_option maxHeartbeats 1000000 in
theorem begins_any (s : ByteArray) (p : Nat) (hs : s.size ≤ 140737488355328) (hp : p ≤ 9) (d : Nat) (b : Bool) (hd : Hid (d = formA s.data.toList p)) (hb : Hid (b = formB s.data.toList p)) (w : World) :
    Calls Tryd.prog 16 #[.string s, .int .i64 p] w fun e w' => e = .returned (.tuple #[.int .i64 d, .bool b]) ∧ w' = w := by
  obtain ⟨a, ea⟩ : ∃ a, a = sgn s.data.toList := ⟨_, rfl⟩
  have ha : a ≤ s.size := by rw [ea, ← len_of]; exact sgn_le _
  obtain ⟨m, em⟩ : ∃ m, m = a + wlen (s.data.toList.drop a) := ⟨_, rfl⟩
  have hwl := wlen_le (s.data.toList.drop a)
  rw [List.length_drop, len_of] at hwl
  have hm : m ≤ s.size := by omega
  have hma : a ≤ m := by omega
  have HM : Hid (m = a + wlen (s.data.toList.drop a)) := em
  have ew : wlen (s.data.toList.drop (sgn s.data.toList)) = m - a := by rw [← ea]; omega
  have e2 : sgn s.data.toList + wlen (s.data.toList.drop (sgn s.data.toList)) = m := by rw [ew, ← ea]; omega
  have F1 : Hid (m = a → d = a ∧ b = false) := fun h => by
    have := form_none (l := s.data.toList) (p := p) (by rw [ew]; omega)
    exact ⟨by rw [hd.out, this.1, ea], by rw [hb.out, this.2]⟩
  have F2 : Hid (m ≠ a → m = s.size → d = m ∧ b = true) := fun h h1 => by
    have := form_whole (l := s.data.toList) (p := p) (by rw [ew]; omega) (by rw [e2, len_of]; exact h1)
    exact ⟨by rw [hd.out, this.1, e2], by rw [hb.out, this.2]⟩
  have F3 : Hid (m ≠ a → m ≠ s.size → (s.data.toList[m]? ≠ some 46 ∨ p = 0) → d = m ∧ b = false) := fun h h1 h2 => by
    have := form_stop (l := s.data.toList) (p := p) (by rw [ew]; omega) (by rw [e2, len_of]; exact h1) (by rw [e2]; exact h2)
    exact ⟨by rw [hd.out, this.1, e2], by rw [hb.out, this.2]⟩
  have F4 : Hid (m ≠ a → m ≠ s.size → s.data.toList[m]? = some 46 → p ≠ 0 → d = m + 1 + run (s.data.toList.drop (m + 1)) p ∧ b = decide (0 < run (s.data.toList.drop (m + 1)) p ∧ m + 1 + run (s.data.toList.drop (m + 1)) p = s.size)) := fun h h1 h2 h3 => by
    have := form_point (l := s.data.toList) (p := p) (by rw [ew]; omega) (by rw [e2, len_of]; exact h1) (by rw [e2]; exact h2) h3
    rw [e2, len_of] at this
    exact ⟨by rw [hd.out, this.1], by rw [hb.out, this.2]⟩
  obtain ⟨M, eM⟩ : ∃ M, M = decide (s.data.toList.head? = some 45) := ⟨_, rfl⟩
  have HA1 : Hid (M = true → a = 1) := fun h => by rw [ea]; exact sgn_1 (of_decide_eq_true (eM ▸ h))
  have HA0 : Hid (M = false → a = 0) := fun h => by rw [ea]; exact sgn_0 (of_decide_eq_false (eM ▸ h))
  have HM0 : Hid (M = decide (s.data.toList.head? = some 45)) := eM
  clear ew e2 em hwl hd hb ea eM
  go_enter Tryd.func16, Tryd.ntmps16
  go_upto_region 2 with fail
  go_cut [18] from 9 (fun u wx => u = .bool M ∧ wx = w)
  case first =>
    by_cases hz : 0 < s.size
    · by_cases h45 : s[0] = 45
      · have hc0 : (s[0].toNat : Int) = 45 := (byte_is (d := 45) rfl).2 h45
        go_wp2_with fail
        go_meet
        case rel => exact ⟨by rw [HM0.out, ← List.drop_zero (l := s.data.toList), head_at s 0 hz, h45]; rfl, rfl⟩
      · have hc0 : ¬ (s[0].toNat : Int) = 45 := fun h => h45 ((byte_is (d := 45) rfl).1 h)
        go_wp2_with fail
        go_meet
        case rel => exact ⟨by rw [HM0.out, ← List.drop_zero (l := s.data.toList), head_at s 0 hz, decide_eq_false (fun h => h45 (Option.some.inj h))]; exact congrArg Value.bool (beq_false_of_ne hc0), rfl⟩
    · go_wp2_with fail
      go_meet
      case rel => exact ⟨by rw [HM0.out, ← List.drop_zero (l := s.data.toList), drop_end s 0 (by omega)]; rfl, rfl⟩
  case rest =>
    obtain ⟨rfl, rfl⟩ := hcut
    go_upto_if 18 with fail
    go_cut [6] from 9 (fun u wx => u = .int .i64 a ∧ wx = wc)
    case first =>
      cases M with
      | true =>
        have h1 : Hid (a = 1) := HA1.out rfl
        go_wp2_with fail
        go_meet
        case rel => exact ⟨by rw [h1.out]; rfl, rfl⟩
      | false =>
        have h1 : Hid (a = 0) := HA0.out rfl
        go_wp2_with fail
        go_meet
        case rel => exact ⟨by rw [h1.out]; rfl, rfl⟩
    case rest =>
      obtain ⟨rfl, rfl⟩ := hcut
      clear HA1 HA0 HM0
      cases hda : dAt s.data.toList a with
      | false =>
        obtain ⟨D, B⟩ := F1.out (by rw [HM.out, wlen_no hda]; omega)
        subst D
        subst B
        go_wp2_with (go_at_call 31; refine (digit_any _ _ _).mono ?_; rintro e w1 ⟨rfl, rfl⟩)
        go_ret2
        exact ⟨rfl, rfl⟩
      | true =>
        have hne : Hid (m ≠ a) := fun h => wlen_yes hda (by have := HM.out; omega)
        have halt := dAt_lt hda
        obtain ⟨Z, hZ⟩ : ∃ Z, ((s[a].toNat : Int) == 48) = Z := ⟨_, rfl⟩
        go_upto_if 30 with (go_at_call 31; refine (digit_any _ _ _).mono ?_; rintro e w1 ⟨rfl, rfl⟩)
        go_cut [6] from 9 (fun u wx => u = .int .i64 m ∧ wx = w1)
        case first =>
          cases Z with
          | true =>
            have h48 : s[a] = 48 := (byte_is (d := 48) rfl).1 (by simpa using hZ)
            have hm1 : Hid (m = a + 1) := by show _ = _; rw [HM.out, wlen_0 (by rw [head_at s a halt, h48])]
            go_wp2_with fail
            go_meet
            case rel => exact ⟨by rw [hm1.out]; rfl, rfl⟩
          | false =>
            have h48 : ¬ s[a] = 48 := fun h => by rw [h] at hZ; revert hZ; decide
            have HL : Hid (m = a + run (s.data.toList.drop a) (s.size - a)) := by
              show _ = _
              rw [HM.out, wlen_1 (by rw [head_at s a halt]; intro e; exact h48 (Option.some.inj e)), List.length_drop, len_of]
            go_wp2_with fail
            go_loop [6] (fun t => ∃ i : Nat, a ≤ i ∧ i ≤ s.size ∧ t = .int .i64 i ∧ Hid (m = i + run (s.data.toList.drop i) (s.size - i))) (fun t => s.size - (intOf t).toNat)
            case atStart => exact ⟨a, Nat.le_refl _, ha, rfl, HL⟩
            case round =>
              obtain ⟨i, hi1, hi2, rfl, HI⟩ := hrel
              cases hdi : dAt s.data.toList i with
              | true =>
                have hil := dAt_lt hdi
                go_wp2_with (go_at_call 31; refine (digit_any _ _ _).mono ?_; rintro e w2 ⟨rfl, rfl⟩)
                go_round
                case rel =>
                  refine ⟨i + 1, by omega, by omega, by go_num, ?_⟩
                  show _ = _
                  rw [HI.out, show s.size - i = (s.size - (i + 1)) + 1 by omega, run_yes hdi]
                  omega
                case measure => simp [intOf]; omega
              | false =>
                have hmi : Hid (m = i) := by show _ = _; rw [HI.out, run_no hdi]; rfl
                go_wp2_with (go_at_call 31; refine (digit_any _ _ _).mono ?_; rintro e w2 ⟨rfl, rfl⟩)
                go_meet
                case rel => exact ⟨by rw [hmi.out], rfl⟩
        case rest =>
          obtain ⟨rfl, rfl⟩ := hcut
          by_cases h2 : (m : Int) = s.size
          · obtain ⟨D, B⟩ := F2.out hne.out (by omega)
            subst D
            subst B
            go_wp2_with fail
            go_ret2
            exact ⟨ret2i (by omega) rfl, rfl⟩
          · have h2b : ((m : Int) == (s.size : Int)) = false := beq_false_of_ne h2
            have hmlt : m < s.size := by omega
            by_cases h46 : s[m] = 46
            · have hc : (s[m].toNat : Int) = 46 := (byte_is (d := 46) rfl).2 h46
              by_cases hp0 : (p : Int) = 0
              · obtain ⟨D, B⟩ := F3.out hne.out (by omega) (Or.inr (by omega))
                subst D
                subst B
                go_wp2_with fail
                go_ret2
                exact ⟨ret2i (by omega) rfl, rfl⟩
              · have hp0b : ((p : Int) == 0) = false := beq_false_of_ne hp0
                obtain ⟨D, B⟩ := F4.out hne.out (by omega) (by rw [get_at s m hmlt, h46]) (by omega)
                obtain ⟨q, eq⟩ : ∃ q, q = m + 1 := ⟨_, rfl⟩
                rw [← eq] at D B
                have HD : Hid (d = q + run (s.data.toList.drop q) (p - (q - q))) := by show _ = _; rw [D, Nat.sub_self, Nat.sub_zero]
                have hqs : q ≤ s.size := by omega
                have hr := (run_le (s.data.toList.drop q) p).2
                rw [List.length_drop, len_of] at hr
                have hds : d ≤ s.size := by omega
                have hqd : q ≤ d := by omega
                have B2 : Hid (b = decide ((d : Int) = s.size ∧ (q : Int) < d)) := by
                  show _ = _; rw [B]; exact decide_eq_decide.2 (by omega)
                have hq : (m : Int) + 1 = q := by omega
                clear F1 F2 F3 F4 h46 D B hr eq
                go_wp2_with fail
                go_loop [6] (fun t => ∃ i : Nat, q ≤ i ∧ i ≤ s.size ∧ i - q ≤ p ∧ t = .int .i64 i ∧ Hid (d = i + run (s.data.toList.drop i) (p - (i - q)))) (fun t => s.size - (intOf t).toNat)
                case atStart => exact ⟨q, Nat.le_refl _, hqs, by omega, rfl, HD⟩
                case round =>
                  obtain ⟨i, hi1, hi2, hi3, rfl, HI⟩ := hrel
                  by_cases hip : i - q < p
                  · have hip' : (i : Int) - q < p := by omega
                    cases hdi : dAt s.data.toList i with
                    | true =>
                      have hil := dAt_lt hdi
                      go_wp2_with (go_at_call 31; refine (digit_any _ _ _).mono ?_; rintro e w2 ⟨rfl, rfl⟩)
                      go_round
                      case rel =>
                        refine ⟨i + 1, by omega, by omega, by omega, by go_num, ?_⟩
                        show _ = _
                        rw [HI.out, show p - (i - q) = (p - (i + 1 - q)) + 1 by omega, run_yes hdi]
                        omega
                      case measure => simp [intOf]; omega
                    | false =>
                      have hdo := dAt_out s s.size (Nat.le_refl _)
                      have hmi : Hid (d = i) := by show _ = _; rw [HI.out, run_no hdi]; rfl
                      have hdi2 := hmi.out
                      subst hdi2
                      clear HI hmi HD
                      by_cases h6 : (d : Int) = s.size
                      · by_cases h5 : (q : Int) < d
                        · have hB := B2.out
                          rw [decide_eq_true ⟨h6, h5⟩] at hB
                          subst hB
                          clear B2
                          go_wp2_with (go_at_call 31; refine (digit_any _ _ _).mono ?_; rintro e w2 ⟨rfl, rfl⟩)
                          go_ret2
                          exact ⟨ret2i (by first | rfl | omega) (by first | rfl | exact decide_eq_true (by omega) | exact decide_eq_false (by omega)), rfl⟩
                        · have hB := B2.out
                          rw [decide_eq_false (fun h => h5 h.2)] at hB
                          subst hB
                          clear B2
                          go_wp2_with (go_at_call 31; refine (digit_any _ _ _).mono ?_; rintro e w2 ⟨rfl, rfl⟩)
                          go_ret2
                          exact ⟨ret2i (by first | rfl | omega) (by first | rfl | exact decide_eq_true (by omega) | exact decide_eq_false (by omega)), rfl⟩
                      · have hB := B2.out
                        rw [decide_eq_false (fun h => h6 h.1)] at hB
                        subst hB
                        clear B2
                        go_wp2_with (go_at_call 31; refine (digit_any _ _ _).mono ?_; rintro e w2 ⟨rfl, rfl⟩)
                        go_ret2
                        exact ⟨ret2i (by first | rfl | omega) (by first | rfl | exact beq_false_of_ne h6), rfl⟩
                  · have hip' : ¬ (i : Int) - q < p := by omega
                    have hmi : Hid (d = i) := by show _ = _; rw [HI.out, show p - (i - q) = 0 by omega, run_zero]; rfl
                    have hdi2 := hmi.out
                    subst hdi2
                    clear HI hmi HD
                    by_cases h6 : (d : Int) = s.size
                    · by_cases h5 : (q : Int) < d
                      · have hB := B2.out
                        rw [decide_eq_true ⟨h6, h5⟩] at hB
                        subst hB
                        clear B2
                        go_wp2_with fail
                        go_ret2
                        exact ⟨ret2i (by first | rfl | omega) (by first | rfl | exact decide_eq_true (by omega) | exact decide_eq_false (by omega)), rfl⟩
                      · exfalso; omega
                    · have hB := B2.out
                      rw [decide_eq_false (fun h => h6 h.1)] at hB
                      subst hB
                      clear B2
                      go_wp2_with fail
                      go_ret2
                      exact ⟨ret2i (by first | rfl | omega) (by first | rfl | exact beq_false_of_ne h6), rfl⟩
            · have hc : ¬ (s[m].toNat : Int) = 46 := fun h => h46 ((byte_is (d := 46) rfl).1 h)
              obtain ⟨D, B⟩ := F3.out hne.out (by omega) (Or.inl (by rw [get_at s m hmlt]; intro h; exact h46 (Option.some.inj h)))
              subst D
              subst B
              go_wp2_with fail
              go_ret2
              exact ⟨ret2i (by omega) rfl, rfl⟩
end Go.Proofs.YtkbadigpagijjaaDoor
